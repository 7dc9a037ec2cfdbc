/-
  Layer 1: words, a round, the schedule of a block.
-/
import Derived.Test.YtdkogjjebbdngaaDoorSz
import Derived.Test.YtdkogjjebbdngaaDoorTy
import Derived.Test.YtdkogjjebbdngaaDoorSu
namespace Go.Proofs.YtdkogjjebbdngaaDoor
open Go Go.RowKit
set_option maxHeartbeats 4000000
set_option linter.unusedSimpArgs false
set_option linter.unusedVariables false
def ga0 : Nat → Option Con := fun _ => none
theorem ga0_ok : GaOk Tryd.prog ga0 := fun f con h => by cases h
noncomputable def envOf (ga : Nat → Option Con) (nt : Nat) : Env := ⟨ty, ga, [], nt, [], []⟩
theorem envOf_ok {ga : Nat → Option Con} (h : GaOk Tryd.prog ga) (nt : Nat) : EnvOk Tryd.prog (envOf ga nt) := ⟨ty_ok, h, by first | rfl | decide⟩
def u32L : Lay UInt32 where
  st := 1
  enc x := [.u32 x]
  d := 0
  up x j ys := match ys with
    | [.u32 y] => if j = 0 then some y else none
    | _ => none
  toB := none
  ofB := none
  len _ := rfl
  put x j ys y h := by
    split at h
    · split at h
      · rename_i h0
        injection h with h; subst h; subst h0; simp
      · cases h
    · cases h
  plain x v h := by simp at h; subst h; trivial
  bare x v h := by simp at h; subst h; trivial
  toB_ok f h x := by cases h
  ofB_ok f h x := by cases h
theorem u32L_st : u32L.st = 1 := rfl
theorem u32L_d : u32L.d = 0 := rfl
theorem u32L_enc (x : UInt32) : u32L.enc x = [.u32 x] := rfl
theorem u32L_up (x y : UInt32) : u32L.up x 0 [.u32 y] = some y := rfl
theorem u32_flat (l : List UInt32) : l.flatMap u32L.enc = l.map AV.u32 := by
  show l.flatMap (fun x : UInt32 => [AV.u32 x]) = _
  induction l with
  | nil => rfl
  | cons x l ih => rw [List.flatMap_cons, ih]; rfl
theorem u32_plain (l : List UInt32) : PlainL (l.map AV.u32) := fun y hy => by
  obtain ⟨x, _, rfl⟩ := List.mem_map.1 hy
  trivial
theorem u32_ren (f : Nat → Nat) (l : List UInt32) : (l.map AV.u32).map (AV.ren f) = l.map AV.u32 := by
  rw [List.map_map]; rfl
theorem u32_ids : ∀ l : List UInt32, (l.map AV.u32).flatMap AV.ids = []
  | [] => rfl
  | x :: l => by rw [List.map_cons, List.flatMap_cons, u32_ids l]; rfl
def rot32 (x : UInt32) (k : Int) : UInt32 := shl32 x (by64 k &&& 31).toNat ||| shr32 x (32 - (by64 k &&& 31)).toNat
theorem rot_tri (x : UInt32) (k : Int) : Tri Tryd.prog 31 [.one (.u32 x), .one (.num k)] [] (.c (.one (.u32 (rot32 x k)))) [] := by
  refine tri_of (envOf_ok ga0_ok 17) Tryd.func31 rfl rfl (rs := [.tmp 4]) rfl rfl (by simp [envOf]) rfl [] ?_
  simp only [envOf, go_sem, reduceCtorEq, ↓reduceIte, Nat.reduceAdd, Nat.reduceMul, Nat.reduceSub, Nat.reduceEqDiff, Nat.reduceLT, Nat.reduceBEq, Nat.reduceBNe, Nat.reduceLeDiff, Int.reduceLE, Int.reduceLT, Int.reduceToNat, Int.reduceEq, Int.reduceAdd, UInt8.reduceToNat, UInt32.reduceToNat, UInt64.reduceToNat, UInt8.reduceOfNat, UInt32.reduceOfNat, UInt64.reduceOfNat, Fin.isValue, Int.reduceSub, Int.reduceMul, Int.reduceNeg, Int.reduceMod, Int.reduceDiv, Int.reduceTDiv, Int.reduceTMod, Int.reduceBEq, Int.reduceBNe, Nat.reduceDiv, Nat.reducePow]
  rfl
def rotC : Con := con0 fun args => match args with
  | [.one (.u32 x), .one (.num k)] => some (.c (.one (.u32 (rot32 x k))), [])
  | _ => none
theorem rotC_ok : ConOk Tryd.prog 31 rotC := con0_ok Tryd.func31 rfl rfl fun args res ob h hob => by
  split at h
  · injection h with h; injection h with h1 h2; subst h1; subst h2; exact rot_tri _ _
  · cases h
structure W8 where
  (a b c d e f g h : UInt32)
def W8.cv (v : W8) : CV := .agg [.u32 v.a, .u32 v.b, .u32 v.c, .u32 v.d, .u32 v.e, .u32 v.f, .u32 v.g, .u32 v.h]
theorem W8.eta (v : W8) : W8.mk v.a v.b v.c v.d v.e v.f v.g v.h = v := rfl
def mixE (e : UInt32) : UInt32 := rot32 e (-6) ^^^ rot32 e (-11) ^^^ rot32 e (-25)
def mixA (a : UInt32) : UInt32 := rot32 a (-2) ^^^ rot32 a (-13) ^^^ rot32 a (-22)
def roundT (v : W8) (w : UInt32) : UInt32 := v.h + mixE v.e + (v.e &&& v.f ^^^ (4294967295 ^^^ v.e) &&& v.g) + w
def roundW (v : W8) (w : UInt32) : W8 := ⟨roundT v w + mixA v.a + (v.a &&& v.b ^^^ v.a &&& v.c ^^^ v.b &&& v.c), v.a, v.b, v.c, v.d + roundT v w, v.e, v.f, v.g⟩
def ha1 : Nat → Option Con := fun f => match f with
  | 31 => some rotC
  | _ => none
theorem ha1_ok : GaOk Tryd.prog ha1 := fun f con h => by
  unfold ha1 at h
  split at h
  · injection h with h; subst h; exact rotC_ok
  · cases h
set_option maxRecDepth 100000 in
theorem round_tri (v : W8) (w : UInt32) : Tri Tryd.prog 27 [v.cv, .one (.u32 w)] [] (.c (roundW v w).cv) [] := by
  refine tri_of (envOf_ok ha1_ok 91) Tryd.func27 rfl rfl (rs := [.cell 4 26]) rfl rfl (by simp [envOf]) rfl [] ?_
  simp only [envOf, ha1, rotC, W8.cv, W8.eta, go_sem, reduceCtorEq, ↓reduceIte, Nat.reduceAdd, Nat.reduceMul, Nat.reduceSub, Nat.reduceEqDiff, Nat.reduceLT, Nat.reduceBEq, Nat.reduceBNe, Nat.reduceLeDiff, Int.reduceLE, Int.reduceLT, Int.reduceToNat, Int.reduceEq, Int.reduceAdd, UInt8.reduceToNat, UInt32.reduceToNat, UInt64.reduceToNat, UInt8.reduceOfNat, UInt32.reduceOfNat, UInt64.reduceOfNat, Fin.isValue, Int.reduceSub, Int.reduceMul, Int.reduceNeg, Int.reduceMod, Int.reduceDiv, Int.reduceTDiv, Int.reduceTMod, Int.reduceBEq, Int.reduceBNe, Nat.reduceDiv, Nat.reducePow]
  repeat' apply And.intro
  all_goals first
    | rfl
    | trace_state
def roundC : Con := con0 fun args => match args with
  | [.agg [.u32 a, .u32 b, .u32 c, .u32 d, .u32 e, .u32 f, .u32 g, .u32 h], .one (.u32 w)] => some (.c (roundW ⟨a, b, c, d, e, f, g, h⟩ w).cv, [])
  | _ => none
theorem roundC_ok : ConOk Tryd.prog 27 roundC := con0_ok Tryd.func27 rfl rfl fun args res ob h hob => by
  split at h
  · injection h with h; injection h with h1 h2; subst h1; subst h2; exact round_tri ⟨_, _, _, _, _, _, _, _⟩ _
  · cases h
-- THE SCHEDULE
def wb (s : List UInt8) (t : Nat) : UInt32 := shl32 (s.getD (4 * t) 0).toUInt32 24 ||| shl32 (s.getD (4 * t + 1) 0).toUInt32 16 ||| shl32 (s.getD (4 * t + 2) 0).toUInt32 8 ||| (s.getD (4 * t + 3) 0).toUInt32
def nextW (l : List UInt32) (t : Nat) : UInt32 := l.getD (t - 16) 0 + (rot32 (l.getD (t - 15) 0) (-7) ^^^ rot32 (l.getD (t - 15) 0) (-18) ^^^ shr32 (l.getD (t - 15) 0) 3) + l.getD (t - 7) 0 + (rot32 (l.getD (t - 2) 0) (-17) ^^^ rot32 (l.getD (t - 2) 0) (-19) ^^^ shr32 (l.getD (t - 2) 0) 10)
def schedL (s : List UInt8) : Nat → List UInt32
  | 0 => []
  | t + 1 => schedL s t ++ [if t < 16 then wb s t else nextW (schedL s t) t]
theorem schedL_len (s : List UInt8) : ∀ t, (schedL s t).length = t
  | 0 => rfl
  | t + 1 => by rw [schedL, List.length_append, schedL_len s t]; rfl
def padW (l : List UInt32) : List UInt32 := l ++ List.replicate (64 - l.length) 0
theorem padW_get (l : List UInt32) (i : Nat) (h : i < l.length) : (padW l).getD i 0 = l.getD i 0 := by
  unfold padW
  rw [List.getD_eq_getElem?_getD, List.getElem?_append_left h, ← List.getD_eq_getElem?_getD]
theorem padW_set (l : List UInt32) (v : UInt32) (h : l.length < 64) : (padW l).set l.length v = padW (l ++ [v]) := by
  unfold padW
  rw [List.set_append_right _ _ (Nat.le_refl _), Nat.sub_self, show 64 - l.length = (63 - l.length) + 1 by omega, List.replicate_succ, List.set_cons_zero, List.length_append, List.length_singleton, show 64 - (l.length + 1) = 63 - l.length by omega, List.append_assoc]
  rfl
theorem padW_len (l : List UInt32) (h : l.length ≤ 64) : (padW l).length = 64 := by
  unfold padW
  rw [List.length_append, List.length_replicate]; omega
theorem padW_all (l : List UInt32) (h : l.length = 64) : padW l = l := by
  unfold padW
  rw [h, Nat.sub_self, List.replicate_zero, List.append_nil]
theorem padW_nil : (padW []).flatMap u32L.enc = [.u32 0, .u32 0, .u32 0, .u32 0, .u32 0, .u32 0, .u32 0, .u32 0, .u32 0, .u32 0, .u32 0, .u32 0, .u32 0, .u32 0, .u32 0, .u32 0, .u32 0, .u32 0, .u32 0, .u32 0, .u32 0, .u32 0, .u32 0, .u32 0, .u32 0, .u32 0, .u32 0, .u32 0, .u32 0, .u32 0, .u32 0, .u32 0, .u32 0, .u32 0, .u32 0, .u32 0, .u32 0, .u32 0, .u32 0, .u32 0, .u32 0, .u32 0, .u32 0, .u32 0, .u32 0, .u32 0, .u32 0, .u32 0, .u32 0, .u32 0, .u32 0, .u32 0, .u32 0, .u32 0, .u32 0, .u32 0, .u32 0, .u32 0, .u32 0, .u32 0, .u32 0, .u32 0, .u32 0, .u32 0] := by rw [u32_flat]; rfl
def z64 : List UInt32 := List.replicate 64 0
theorem z64_flat : z64.flatMap u32L.enc = [.u32 0, .u32 0, .u32 0, .u32 0, .u32 0, .u32 0, .u32 0, .u32 0, .u32 0, .u32 0, .u32 0, .u32 0, .u32 0, .u32 0, .u32 0, .u32 0, .u32 0, .u32 0, .u32 0, .u32 0, .u32 0, .u32 0, .u32 0, .u32 0, .u32 0, .u32 0, .u32 0, .u32 0, .u32 0, .u32 0, .u32 0, .u32 0, .u32 0, .u32 0, .u32 0, .u32 0, .u32 0, .u32 0, .u32 0, .u32 0, .u32 0, .u32 0, .u32 0, .u32 0, .u32 0, .u32 0, .u32 0, .u32 0, .u32 0, .u32 0, .u32 0, .u32 0, .u32 0, .u32 0, .u32 0, .u32 0, .u32 0, .u32 0, .u32 0, .u32 0, .u32 0, .u32 0, .u32 0, .u32 0] := by rw [u32_flat]; rfl
theorem z64_len : z64.length = 64 := rfl
def sc1 (s : List UInt8) (t : Nat) : St := ⟨[(0, .c (.one (.str s))), (2, .c (.one (.ptr 10000 0 0 0))), (3, .c (.one (.ptr 20000 0 0 0))), (10, .c (.one (.num t)))], [(10000, ⟨.arr UInt32 u32L z64, true⟩), (20000, ⟨.arr UInt32 u32L (padW (schedL s t)), true⟩)]⟩
def sc2 (s : List UInt8) (t : Nat) : St := ⟨[(2, .c (.one (.ptr 10000 0 0 0))), (3, .c (.one (.ptr 20000 0 0 0))), (5, .c (.one (.num t)))], [(10000, ⟨.arr UInt32 u32L z64, true⟩), (20000, ⟨.arr UInt32 u32L (padW (schedL s t)), true⟩)]⟩
set_option maxRecDepth 100000 in
theorem schedule_tri (s : List UInt8) (hs : s.length = 64) : Tri Tryd.prog 26 [.one (.str s)] [] (.c (.agg ((schedL s 64).map AV.u32))) [] := by
  refine tri_of (envOf_ok ha1_ok 89) Tryd.func26 rfl rfl (rs := [.cell 2 48]) rfl rfl (by simp [envOf]) rfl [] ?_
  simp only [envOf, ha1, rotC, go_sem, reduceCtorEq, ↓reduceIte, Nat.reduceAdd, Nat.reduceMul, Nat.reduceSub, Nat.reduceEqDiff, Nat.reduceLT, Nat.reduceBEq, Nat.reduceBNe, Nat.reduceLeDiff, Int.reduceLE, Int.reduceLT, Int.reduceToNat, Int.reduceEq, Int.reduceAdd, UInt8.reduceToNat, UInt32.reduceToNat, UInt64.reduceToNat, UInt8.reduceOfNat, UInt32.reduceOfNat, UInt64.reduceOfNat, Fin.isValue, Int.reduceSub, Int.reduceMul, Int.reduceNeg, Int.reduceMod, Int.reduceDiv, Int.reduceTDiv, Int.reduceTMod, Int.reduceBEq, Int.reduceBNe, Nat.reduceDiv, Nat.reducePow]
  refine loop_inv (envOf_ok ha1_ok 89) (sc1 s) (fun t => t ≤ 16) (fun t => 16 - t) 0 [] (by omega) ?_ ?_
  · simp only [sc1, schedL, padW_nil, z64_flat, u32L_st, go_sem, reduceCtorEq, ↓reduceIte, Nat.reduceAdd, Nat.reduceMul, Nat.reduceSub, Nat.reduceEqDiff, Nat.reduceLT, Nat.reduceBEq, Nat.reduceBNe, Nat.reduceLeDiff, Int.reduceLE, Int.reduceLT, Int.reduceToNat, Int.reduceEq, Int.reduceAdd, UInt8.reduceToNat, UInt32.reduceToNat, UInt64.reduceToNat, UInt8.reduceOfNat, UInt32.reduceOfNat, UInt64.reduceOfNat, Fin.isValue, Int.reduceSub, Int.reduceMul, Int.reduceNeg, Int.reduceMod, Int.reduceDiv, Int.reduceTDiv, Int.reduceTMod, Int.reduceBEq, Int.reduceBNe, Nat.reduceDiv, Nat.reducePow]
    all_goals first
      | exact ⟨rfl, rfl⟩
      | trace_state
  · intro t ht
    have hl := schedL_len s t
    have hp := padW_len (schedL s t) (by omega)
    simp only [sc1, envOf, ha1, rotC, go_sem, reduceCtorEq, ↓reduceIte, Nat.reduceAdd, Nat.reduceMul, Nat.reduceSub, Nat.reduceEqDiff, Nat.reduceLT, Nat.reduceBEq, Nat.reduceBNe, Nat.reduceLeDiff, Int.reduceLE, Int.reduceLT, Int.reduceToNat, Int.reduceEq, Int.reduceAdd, UInt8.reduceToNat, UInt32.reduceToNat, UInt64.reduceToNat, UInt8.reduceOfNat, UInt32.reduceOfNat, UInt64.reduceOfNat, Fin.isValue, Int.reduceSub, Int.reduceMul, Int.reduceNeg, Int.reduceMod, Int.reduceDiv, Int.reduceTDiv, Int.reduceTMod, Int.reduceBEq, Int.reduceBNe, Nat.reduceDiv, Nat.reducePow]
    refine br (fun hc => ?_) fun hc => ?_
    · have hc' := of_decide_eq_true hc
      have w0 : IntKind.i64.wrap (4 * (t : Int)) = ((4 * t : Nat) : Int) := by rw [IntKind.wrap_i64]; omega
      have w1 : IntKind.i64.wrap (((4 * t : Nat) : Int) + 1) = ((4 * t + 1 : Nat) : Int) := by rw [IntKind.wrap_i64]; omega
      have w2 : IntKind.i64.wrap (((4 * t : Nat) : Int) + 2) = ((4 * t + 2 : Nat) : Int) := by rw [IntKind.wrap_i64]; omega
      have w3 : IntKind.i64.wrap (((4 * t : Nat) : Int) + 3) = ((4 * t + 3 : Nat) : Int) := by rw [IntKind.wrap_i64]; omega
      have w4 : IntKind.i64.wrap ((t : Int) + 1) = ((t + 1 : Nat) : Int) := by rw [IntKind.wrap_i64]; omega
      have hst := padW_set (schedL s t) (wb s t) (by omega)
      rw [hl] at hst
      have hsu : schedL s (t + 1) = schedL s t ++ [wb s t] := by rw [schedL, if_pos (by omega)]
      unfold wb at hst hsu
      simp only [hc, w0, w1, w2, w3, w4, hs, u32L_st, u32L_d, u32L_enc, u32L_up, envOf, ha1, rotC, go_sem, reduceCtorEq, ↓reduceIte, Nat.reduceAdd, Nat.reduceMul, Nat.reduceSub, Nat.reduceEqDiff, Nat.reduceLT, Nat.reduceBEq, Nat.reduceBNe, Nat.reduceLeDiff, Int.reduceLE, Int.reduceLT, Int.reduceToNat, Int.reduceEq, Int.reduceAdd, UInt8.reduceToNat, UInt32.reduceToNat, UInt64.reduceToNat, UInt8.reduceOfNat, UInt32.reduceOfNat, UInt64.reduceOfNat, Fin.isValue, Int.reduceSub, Int.reduceMul, Int.reduceNeg, Int.reduceMod, Int.reduceDiv, Int.reduceTDiv, Int.reduceTMod, Int.reduceBEq, Int.reduceBNe, Nat.reduceDiv, Nat.reducePow]
      repeat' apply And.intro
      all_goals first
        | omega
        | rfl
        | skip
      refine again (t + 1) [] (by omega) (by omega) ?_
      simp only [sc1, hsu, hst, go_sem, reduceCtorEq, ↓reduceIte, Nat.reduceAdd, Nat.reduceMul, Nat.reduceSub, Nat.reduceEqDiff, Nat.reduceLT, Nat.reduceBEq, Nat.reduceBNe, Nat.reduceLeDiff, Int.reduceLE, Int.reduceLT, Int.reduceToNat, Int.reduceEq, Int.reduceAdd, UInt8.reduceToNat, UInt32.reduceToNat, UInt64.reduceToNat, UInt8.reduceOfNat, UInt32.reduceOfNat, UInt64.reduceOfNat, Fin.isValue, Int.reduceSub, Int.reduceMul, Int.reduceNeg, Int.reduceMod, Int.reduceDiv, Int.reduceTDiv, Int.reduceTMod, Int.reduceBEq, Int.reduceBNe, Nat.reduceDiv, Nat.reducePow]
      all_goals first
        | rfl
        | trace_state
    · obtain rfl : t = 16 := by have := of_decide_eq_false hc; omega
      simp only [hc, envOf, ha1, rotC, go_sem, reduceCtorEq, ↓reduceIte, Nat.reduceAdd, Nat.reduceMul, Nat.reduceSub, Nat.reduceEqDiff, Nat.reduceLT, Nat.reduceBEq, Nat.reduceBNe, Nat.reduceLeDiff, Int.reduceLE, Int.reduceLT, Int.reduceToNat, Int.reduceEq, Int.reduceAdd, UInt8.reduceToNat, UInt32.reduceToNat, UInt64.reduceToNat, UInt8.reduceOfNat, UInt32.reduceOfNat, UInt64.reduceOfNat, Fin.isValue, Int.reduceSub, Int.reduceMul, Int.reduceNeg, Int.reduceMod, Int.reduceDiv, Int.reduceTDiv, Int.reduceTMod, Int.reduceBEq, Int.reduceBNe, Nat.reduceDiv, Nat.reducePow]
      refine loop_inv (envOf_ok ha1_ok 89) (sc2 s) (fun t => 16 ≤ t ∧ t ≤ 64) (fun t => 64 - t) 16 [] ⟨by omega, by omega⟩ ?_ ?_
      · simp only [sc2, go_sem, reduceCtorEq, ↓reduceIte, Nat.reduceAdd, Nat.reduceMul, Nat.reduceSub, Nat.reduceEqDiff, Nat.reduceLT, Nat.reduceBEq, Nat.reduceBNe, Nat.reduceLeDiff, Int.reduceLE, Int.reduceLT, Int.reduceToNat, Int.reduceEq, Int.reduceAdd, UInt8.reduceToNat, UInt32.reduceToNat, UInt64.reduceToNat, UInt8.reduceOfNat, UInt32.reduceOfNat, UInt64.reduceOfNat, Fin.isValue, Int.reduceSub, Int.reduceMul, Int.reduceNeg, Int.reduceMod, Int.reduceDiv, Int.reduceTDiv, Int.reduceTMod, Int.reduceBEq, Int.reduceBNe, Nat.reduceDiv, Nat.reducePow]
      · rintro t ⟨t1, t2⟩
        have hl := schedL_len s t
        have hp := padW_len (schedL s t) (by omega)
        simp only [sc2, envOf, ha1, rotC, go_sem, reduceCtorEq, ↓reduceIte, Nat.reduceAdd, Nat.reduceMul, Nat.reduceSub, Nat.reduceEqDiff, Nat.reduceLT, Nat.reduceBEq, Nat.reduceBNe, Nat.reduceLeDiff, Int.reduceLE, Int.reduceLT, Int.reduceToNat, Int.reduceEq, Int.reduceAdd, UInt8.reduceToNat, UInt32.reduceToNat, UInt64.reduceToNat, UInt8.reduceOfNat, UInt32.reduceOfNat, UInt64.reduceOfNat, Fin.isValue, Int.reduceSub, Int.reduceMul, Int.reduceNeg, Int.reduceMod, Int.reduceDiv, Int.reduceTDiv, Int.reduceTMod, Int.reduceBEq, Int.reduceBNe, Nat.reduceDiv, Nat.reducePow]
        refine br (fun hc => ?_) fun hc => ?_
        · have hc' := of_decide_eq_true hc
          have w0 : IntKind.i64.wrap ((t : Int) - 15) = ((t - 15 : Nat) : Int) := by rw [IntKind.wrap_i64]; omega
          have w1 : IntKind.i64.wrap ((t : Int) - 2) = ((t - 2 : Nat) : Int) := by rw [IntKind.wrap_i64]; omega
          have w2 : IntKind.i64.wrap ((t : Int) - 16) = ((t - 16 : Nat) : Int) := by rw [IntKind.wrap_i64]; omega
          have w3 : IntKind.i64.wrap ((t : Int) - 7) = ((t - 7 : Nat) : Int) := by rw [IntKind.wrap_i64]; omega
          have w4 : IntKind.i64.wrap ((t : Int) + 1) = ((t + 1 : Nat) : Int) := by rw [IntKind.wrap_i64]; omega
          have r0 := padW_get (schedL s t) (t - 15) (by omega)
          have r1 := padW_get (schedL s t) (t - 2) (by omega)
          have r2 := padW_get (schedL s t) (t - 16) (by omega)
          have r3 := padW_get (schedL s t) (t - 7) (by omega)
          have hst := padW_set (schedL s t) (nextW (schedL s t) t) (by omega)
          rw [hl] at hst
          have hsu : schedL s (t + 1) = schedL s t ++ [nextW (schedL s t) t] := by rw [schedL, if_neg (by omega)]
          unfold nextW at hst hsu
          simp only [hc, w0, w1, w2, w3, w4, r0, r1, r2, r3, u32L_st, u32L_d, u32L_enc, u32L_up, envOf, ha1, rotC, go_sem, reduceCtorEq, ↓reduceIte, Nat.reduceAdd, Nat.reduceMul, Nat.reduceSub, Nat.reduceEqDiff, Nat.reduceLT, Nat.reduceBEq, Nat.reduceBNe, Nat.reduceLeDiff, Int.reduceLE, Int.reduceLT, Int.reduceToNat, Int.reduceEq, Int.reduceAdd, UInt8.reduceToNat, UInt32.reduceToNat, UInt64.reduceToNat, UInt8.reduceOfNat, UInt32.reduceOfNat, UInt64.reduceOfNat, Fin.isValue, Int.reduceSub, Int.reduceMul, Int.reduceNeg, Int.reduceMod, Int.reduceDiv, Int.reduceTDiv, Int.reduceTMod, Int.reduceBEq, Int.reduceBNe, Nat.reduceDiv, Nat.reducePow]
          repeat' apply And.intro
          all_goals first
            | omega
            | rfl
            | skip
          refine again (t + 1) [] ⟨by omega, by omega⟩ (by omega) ?_
          simp only [sc2, hsu, hst, go_sem, reduceCtorEq, ↓reduceIte, Nat.reduceAdd, Nat.reduceMul, Nat.reduceSub, Nat.reduceEqDiff, Nat.reduceLT, Nat.reduceBEq, Nat.reduceBNe, Nat.reduceLeDiff, Int.reduceLE, Int.reduceLT, Int.reduceToNat, Int.reduceEq, Int.reduceAdd, UInt8.reduceToNat, UInt32.reduceToNat, UInt64.reduceToNat, UInt8.reduceOfNat, UInt32.reduceOfNat, UInt64.reduceOfNat, Fin.isValue, Int.reduceSub, Int.reduceMul, Int.reduceNeg, Int.reduceMod, Int.reduceDiv, Int.reduceTDiv, Int.reduceTMod, Int.reduceBEq, Int.reduceBNe, Nat.reduceDiv, Nat.reducePow]
          all_goals first
            | rfl
            | trace_state
        · obtain rfl : t = 64 := by have := of_decide_eq_false hc; omega
          have h64 := schedL_len s 64
          have hpa := padW_all (schedL s 64) h64
          simp only [hc, hpa, u32_flat, u32L_st, List.length_map, h64, z64_len, envOf, ha1, rotC, go_sem, reduceCtorEq, ↓reduceIte, Nat.reduceAdd, Nat.reduceMul, Nat.reduceSub, Nat.reduceEqDiff, Nat.reduceLT, Nat.reduceBEq, Nat.reduceBNe, Nat.reduceLeDiff, Int.reduceLE, Int.reduceLT, Int.reduceToNat, Int.reduceEq, Int.reduceAdd, UInt8.reduceToNat, UInt32.reduceToNat, UInt64.reduceToNat, UInt8.reduceOfNat, UInt32.reduceOfNat, UInt64.reduceOfNat, Fin.isValue, Int.reduceSub, Int.reduceMul, Int.reduceNeg, Int.reduceMod, Int.reduceDiv, Int.reduceTDiv, Int.reduceTMod, Int.reduceBEq, Int.reduceBNe, Nat.reduceDiv, Nat.reducePow]
          exact ⟨u32_plain _, by rw [u32_ren, List.take_of_length_le (by rw [List.length_map, h64]; exact Nat.le_refl _)], by rw [u32_ids]; rfl⟩
def scheduleC : Con := con0 fun args => match args with
  | [.one (.str s)] => some (.c (.agg ((schedL s 64).map AV.u32)), [s.length = 64])
  | _ => none
theorem scheduleC_ok : ConOk Tryd.prog 26 scheduleC := con0_ok Tryd.func26 rfl rfl fun args res ob h hob => by
  split at h
  · injection h with h; injection h with h1 h2; subst h1; subst h2; exact schedule_tri _ hob.1
  · cases h
end Go.Proofs.YtdkogjjebbdngaaDoor
