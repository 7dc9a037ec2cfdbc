/-
  Layer 5: the document's quarter round, in a row.
-/
import Derived.Test.YthgemadhhkocgaaSz
import Derived.Test.YthgemadhhkocgaaCg
namespace Go.Proofs.Ythgemadhhkocgaa
open Go Go.RowKit
set_option linter.unusedSimpArgs false
set_option linter.unusedVariables false
/-- A contract that changes one row of cells. -/
def con1 (F : List CV → List AV → Option (SV × List AV × List Prop)) : Con := ⟨true, fun args os => match os with
  | [.cells 1 xs] => match F args xs with
    | some (v, ys, ob) => some (v, [.cells 1 ys], [], ob)
    | none => none
  | _ => none⟩
theorem con1_ok {P : Program} {f : FuncId} {fn : Func} (hf : P.funcs[f]? = some fn) (hb : fn.body.isSome = true) (hn : (fn.name == "runtime.NumGoroutine") = false) {F : List CV → List AV → Option (SV × List AV × List Prop)}
    (h : ∀ args xs v ys ob, F args xs = some (v, ys, ob) → AllT ob → Tri P f args [(0, ⟨.cells 1 xs, true⟩)] v [(0, ⟨.cells 1 ys, true⟩)]) : ConOk P f (con1 F) := by
  refine .inl ⟨⟨fn, hf, hb, hn⟩, fun args es res upd news ob hr hob hw => ?_⟩
  unfold con1 at hr
  simp only at hr
  split at hr
  · rename_i xs hes
    cases hF : F args xs with
    | none => rw [hF] at hr; cases hr
    | some q =>
      obtain ⟨v, ys, ob'⟩ := q
      simp only [hF, Option.some.injEq, Prod.mk.injEq] at hr
      obtain ⟨rfl, rfl, rfl, rfl⟩ := hr
      obtain ⟨e, rfl⟩ : ∃ e, es = [e] := by
        cases es with
        | nil => cases hes
        | cons e es => cases es with
          | nil => exact ⟨e, rfl⟩
          | cons _ _ => simp at hes
      · obtain ⟨e', he', hwr⟩ := hw 0 (by simp)
        simp only [List.getElem?_cons_zero, Option.some.injEq] at he'
        subst he'
        obtain ⟨o, wr⟩ := e
        simp only at hwr
        subst hwr
        simp only [List.map_cons, List.map_nil, List.cons.injEq, and_true] at hes
        subst hes
        exact h args xs v ys ob' hF hob
  · cases hr
noncomputable def envK (ga : Nat → Option Con) (nt : Nat) (keys : List Nat) : Env := ⟨ty, ga, [], nt, keys, []⟩
theorem envK_ok {ga : Nat → Option Con} (h : GaOk Try.prog ga) (nt : Nat) (keys : List Nat) : EnvOk Try.prog (envK ga nt keys) := ⟨ty_ok, h, by first | rfl | decide⟩
def leftR (x : UInt32) (n : Int) : UInt32 := shl32 x n.toNat ||| shr32 x (32 - n).toNat
theorem left_tri (x : UInt32) (n : Int) (h : 0 ≤ n) (h' : n ≤ 32) : Tri Try.prog 52 [.one (.u32 x), .one (.num n)] [] (.c (.one (.u32 (leftR x n)))) [] := by
  refine tri_of (envOf_ok ga0_ok 13) Try.func52 rfl rfl (rs := [.tmp 4]) rfl rfl (by simp [envOf]) rfl [] ?_
  have hw : IntKind.i64.wrap (32 - n) = 32 - n := by rw [IntKind.wrap_i64]; omega
  simp only [envOf, ga0, leftR, hw, go_sem, reduceCtorEq, ↓reduceIte, Nat.reduceAdd, Nat.reduceMul, Nat.reduceSub, Nat.reduceEqDiff, Nat.reduceLT, Nat.reduceBEq, Nat.reduceBNe, Nat.reduceLeDiff, Int.reduceLE, Int.reduceLT, Int.reduceToNat, Int.reduceEq, Int.reduceAdd, UInt8.reduceToNat, UInt32.reduceToNat, UInt64.reduceToNat, UInt8.reduceOfNat, UInt32.reduceOfNat, UInt64.reduceOfNat, Fin.isValue, Int.reduceSub, Int.reduceMul, Int.reduceNeg, Int.reduceMod, Int.reduceDiv, Int.reduceTDiv, Int.reduceTMod, Int.reduceBEq, Int.reduceBNe, Nat.reduceDiv, Nat.reducePow]
  exact ⟨h, by omega, rfl⟩
def leftC : Con := con0 fun args => match args with
  | [.one (.u32 x), .one (.num n)] => some (.c (.one (.u32 (leftR x n))), [0 ≤ n, n ≤ 32])
  | _ => none
theorem leftC_ok : ConOk Try.prog 52 leftC := con0_ok Try.func52 rfl rfl fun args res ob h hob => by
  split at h
  · injection h with h; injection h with h1 h2; subst h1; subst h2; exact left_tri _ _ hob.1 hob.2.1
  · cases h
theorem left16 (x : UInt32) : leftR x 16 = rot32 x 16 := rfl
theorem left12 (x : UInt32) : leftR x 12 = rot32 x 12 := rfl
theorem left8 (x : UInt32) : leftR x 8 = rot32 x 8 := rfl
theorem left7 (x : UInt32) : leftR x 7 = rot32 x 7 := rfl
def ga7 : Nat → Option Con := fun f => match f with
  | 52 => some leftC
  | _ => none
theorem ga7_ok : GaOk Try.prog ga7 := fun f con h => by
  unfold ga7 at h
  split at h
  · injection h with h; subst h; exact leftC_ok
  · cases h
def qset (l : List UInt32) (a b c d : Nat) : List UInt32 :=
  let q := qr (l.getD a 0) (l.getD b 0) (l.getD c 0) (l.getD d 0)
  (((l.set a q.1).set b q.2.1).set c q.2.2.1).set d q.2.2.2
def tups : List (Int × Int × Int × Int) := [(0, 4, 8, 12), (1, 5, 9, 13), (2, 6, 10, 14), (3, 7, 11, 15), (0, 5, 10, 15), (1, 6, 11, 12), (2, 7, 8, 13), (3, 4, 9, 14)]
set_option maxRecDepth 100000 in
set_option maxHeartbeats 4000000 in
theorem refQuarter_tri (l : List UInt32) (hl : l.length = 16) (a b c d : Int) (ht : (a, b, c, d) ∈ tups) : Tri Try.prog 34 [.one (.sl 0 0 1 16), .one (.num a), .one (.num b), .one (.num c), .one (.num d)] [(0, ⟨.cells 1 (l.map .u32), true⟩)] (.tup []) [(0, ⟨.cells 1 ((qset l a.toNat b.toNat c.toNat d.toNat).map .u32), true⟩)] := by
  obtain ⟨x0, x1, x2, x3, x4, x5, x6, x7, x8, x9, xa, xb, xc, xd, xe, xf, rfl⟩ := split16 l hl
  refine tri_of (envK_ok ga7_ok 85 [0]) Try.func34 rfl rfl (rs := []) rfl rfl (by simp [envK]) rfl [] ?_
  simp only [tups, List.mem_cons, List.not_mem_nil, or_false, Prod.mk.injEq] at ht
  rcases ht with ⟨rfl, rfl, rfl, rfl⟩ | ⟨rfl, rfl, rfl, rfl⟩ | ⟨rfl, rfl, rfl, rfl⟩ | ⟨rfl, rfl, rfl, rfl⟩ | ⟨rfl, rfl, rfl, rfl⟩ | ⟨rfl, rfl, rfl, rfl⟩ | ⟨rfl, rfl, rfl, rfl⟩ | ⟨rfl, rfl, rfl, rfl⟩
  all_goals
    simp only [envK, ga7, leftC, go_sem, reduceCtorEq, ↓reduceIte, Nat.reduceAdd, Nat.reduceMul, Nat.reduceSub, Nat.reduceEqDiff, Nat.reduceLT, Nat.reduceBEq, Nat.reduceBNe, Nat.reduceLeDiff, Int.reduceLE, Int.reduceLT, Int.reduceToNat, Int.reduceEq, Int.reduceAdd, UInt8.reduceToNat, UInt32.reduceToNat, UInt64.reduceToNat, UInt8.reduceOfNat, UInt32.reduceOfNat, UInt64.reduceOfNat, Fin.isValue, Int.reduceSub, Int.reduceMul, Int.reduceNeg, Int.reduceMod, Int.reduceDiv, Int.reduceTDiv, Int.reduceTMod, Int.reduceBEq, Int.reduceBNe, Nat.reduceDiv, Nat.reducePow]
    refine loop_rounds (envK_ok ga7_ok 85 [0]) 3 ?_
    simp only [ga7, leftC, left16, left12, left8, left7, go_sem, reduceCtorEq, ↓reduceIte, Nat.reduceAdd, Nat.reduceMul, Nat.reduceSub, Nat.reduceEqDiff, Nat.reduceLT, Nat.reduceBEq, Nat.reduceBNe, Nat.reduceLeDiff, Int.reduceLE, Int.reduceLT, Int.reduceToNat, Int.reduceEq, Int.reduceAdd, UInt8.reduceToNat, UInt32.reduceToNat, UInt64.reduceToNat, UInt8.reduceOfNat, UInt32.reduceOfNat, UInt64.reduceOfNat, Fin.isValue, Int.reduceSub, Int.reduceMul, Int.reduceNeg, Int.reduceMod, Int.reduceDiv, Int.reduceTDiv, Int.reduceTMod, Int.reduceBEq, Int.reduceBNe, Nat.reduceDiv, Nat.reducePow]
    repeat' apply And.intro
    all_goals first
      | rfl
      | (intro x hx; obtain ⟨y, _, rfl⟩ := List.mem_map.1 hx; rfl)
def quarterRefC : Con := con1 fun args xs => match args with
  | [.one (.sl 0 0 1 16), .one (.num a), .one (.num b), .one (.num c), .one (.num d)] => some (.tup [], (qset (u32s xs) a.toNat b.toNat c.toNat d.toNat).map .u32, [xs = (u32s xs).map .u32, xs.length = 16, (a, b, c, d) ∈ tups])
  | _ => none
theorem quarterRefC_ok : ConOk Try.prog 34 quarterRefC := con1_ok Try.func34 rfl rfl fun args xs v ys ob h hob => by
  split at h
  · injection h with h; injection h with h1 h2; injection h2 with h2 h3; subst h1; subst h2; subst h3
    have e := hob.1
    have := refQuarter_tri (u32s xs) (by rw [u32s_len]; exact hob.2.1) _ _ _ _ hob.2.2.1
    rw [← e] at this
    exact this
  · cases h
end Go.Proofs.Ythgemadhhkocgaa
