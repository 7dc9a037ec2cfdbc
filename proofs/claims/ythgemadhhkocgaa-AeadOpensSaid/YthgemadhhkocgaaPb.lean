/-
  Layer 6: the least number, parts of bytes, and their sum with bytes.
-/
import Derived.Test.YthgemadhhkocgaaSz
import Derived.Test.YthgemadhhkocgaaPa
namespace Go.Proofs.Ythgemadhhkocgaa
open Go Go.RowKit
set_option maxHeartbeats 4000000
set_option linter.unusedSimpArgs false
set_option linter.unusedVariables false
/-- Numbers of 64 bits in a row. -/
def u64L : Lay UInt64 where
  st := 1
  enc x := [.u64 x]
  d := 0
  up x j ys := match ys with
    | [.u64 y] => if j = 0 then some y else none
    | _ => none
  toB := none
  ofB := none
  len _ := rfl
  put x j ys y h := by
    split at h
    · split at h
      · rename_i h0; injection h with h; subst h; subst h0; simp
      · cases h
    · cases h
  plain x v h := by simp at h; subst h; trivial
  bare x v h := by simp at h; subst h; trivial
  toB_ok f h x := by cases h
  ofB_ok f h x := by cases h
theorem u64L_st : u64L.st = 1 := rfl
theorem u64L_d : u64L.d = 0 := rfl
theorem u64L_enc (x : UInt64) : u64L.enc x = [.u64 x] := rfl
theorem u64L_up (x y : UInt64) : u64L.up x 0 [.u64 y] = some y := rfl
theorem u64_flat (l : List UInt64) : l.flatMap u64L.enc = l.map .u64 := by
  show l.flatMap (fun x => [AV.u64 x]) = _
  induction l with
  | nil => rfl
  | cons x l ih => rw [List.flatMap_cons, ih]; rfl
theorem split5 (l : List UInt64) (h : l.length = 5) : ∃ a b c d e, l = [a, b, c, d, e] := by
  match l, h with
  | [a, b, c, d, e], _ => exact ⟨_, _, _, _, _, rfl⟩
def pless (y : N5) : N5 :=
  let a0 := y.a + 5
  let b1 := y.b + shr64 a0 26
  let c1 := y.c + shr64 b1 26
  let d1 := y.d + shr64 c1 26
  let e1 := y.e + shr64 d1 26
  ⟨a0 &&& 67108863, b1 &&& 67108863, c1 &&& 67108863, d1 &&& 67108863, e1⟩
def psmall (x : N5) : N5 :=
  let y := pcarry (pcarry x)
  let z := pless y
  if (shr64 z.e 26 == 0) = true then y else ⟨z.a, z.b, z.c, z.d, z.e &&& 67108863⟩
set_option maxRecDepth 100000 in
theorem psmall_tri (x : N5) : Tri Try.prog 44 [x.cv] [] (.c (psmall x).cv) [] := by
  refine tri_of (envOf_ok gp1_ok 42) Try.func44 rfl rfl (rs := [.cell 2 59]) rfl rfl (by simp [envOf]) rfl [] ?_
  simp only [envOf, gp1, pcarryC, N5.cv, N5.eta, go_sem, reduceCtorEq, ↓reduceIte, Nat.reduceAdd, Nat.reduceMul, Nat.reduceSub, Nat.reduceEqDiff, Nat.reduceLT, Nat.reduceBEq, Nat.reduceBNe, Nat.reduceLeDiff, Int.reduceLE, Int.reduceLT, Int.reduceToNat, Int.reduceEq, Int.reduceAdd, UInt8.reduceToNat, UInt32.reduceToNat, UInt64.reduceToNat, UInt8.reduceOfNat, UInt32.reduceOfNat, UInt64.reduceOfNat, Fin.isValue, Int.reduceSub, Int.reduceMul, Int.reduceNeg, Int.reduceMod, Int.reduceDiv, Int.reduceTDiv, Int.reduceTMod, Int.reduceBEq, Int.reduceBNe, Nat.reduceDiv, Nat.reducePow]
  refine loop_rounds (envOf_ok gp1_ok 42) 5 ?_
  simp only [gp1, pcarryC, N5.cv, N5.eta, go_sem, reduceCtorEq, ↓reduceIte, Nat.reduceAdd, Nat.reduceMul, Nat.reduceSub, Nat.reduceEqDiff, Nat.reduceLT, Nat.reduceBEq, Nat.reduceBNe, Nat.reduceLeDiff, Int.reduceLE, Int.reduceLT, Int.reduceToNat, Int.reduceEq, Int.reduceAdd, UInt8.reduceToNat, UInt32.reduceToNat, UInt64.reduceToNat, UInt8.reduceOfNat, UInt32.reduceOfNat, UInt64.reduceOfNat, Fin.isValue, Int.reduceSub, Int.reduceMul, Int.reduceNeg, Int.reduceMod, Int.reduceDiv, Int.reduceTDiv, Int.reduceTMod, Int.reduceBEq, Int.reduceBNe, Nat.reduceDiv, Nat.reducePow]
  cases h : (shr64 (pless (pcarry (pcarry x))).e 26 == 0) with
  | true =>
    have e : psmall x = pcarry (pcarry x) := by simp only [psmall, h]; rfl
    refine ⟨rfl, rfl, rfl, rfl, br (fun h' => ?_) fun h' => ?_⟩
    · simp only [h', e, gp1, pcarryC, N5.cv, N5.eta, go_sem, reduceCtorEq, ↓reduceIte, Nat.reduceAdd, Nat.reduceMul, Nat.reduceSub, Nat.reduceEqDiff, Nat.reduceLT, Nat.reduceBEq, Nat.reduceBNe, Nat.reduceLeDiff, Int.reduceLE, Int.reduceLT, Int.reduceToNat, Int.reduceEq, Int.reduceAdd, UInt8.reduceToNat, UInt32.reduceToNat, UInt64.reduceToNat, UInt8.reduceOfNat, UInt32.reduceOfNat, UInt64.reduceOfNat, Fin.isValue, Int.reduceSub, Int.reduceMul, Int.reduceNeg, Int.reduceMod, Int.reduceDiv, Int.reduceTDiv, Int.reduceTMod, Int.reduceBEq, Int.reduceBNe, Nat.reduceDiv, Nat.reducePow]
    · exact absurd (h.symm.trans h') (by decide)
  | false =>
    have e : psmall x = ⟨(pless (pcarry (pcarry x))).a, (pless (pcarry (pcarry x))).b, (pless (pcarry (pcarry x))).c, (pless (pcarry (pcarry x))).d, (pless (pcarry (pcarry x))).e &&& 67108863⟩ := by simp only [psmall, h]; rfl
    refine ⟨rfl, rfl, rfl, rfl, br (fun h' => ?_) fun h' => ?_⟩
    · exact absurd (h.symm.trans h') (by decide)
    · simp only [h', e, gp1, pcarryC, N5.cv, N5.eta, go_sem, reduceCtorEq, ↓reduceIte, Nat.reduceAdd, Nat.reduceMul, Nat.reduceSub, Nat.reduceEqDiff, Nat.reduceLT, Nat.reduceBEq, Nat.reduceBNe, Nat.reduceLeDiff, Int.reduceLE, Int.reduceLT, Int.reduceToNat, Int.reduceEq, Int.reduceAdd, UInt8.reduceToNat, UInt32.reduceToNat, UInt64.reduceToNat, UInt8.reduceOfNat, UInt32.reduceOfNat, UInt64.reduceOfNat, Fin.isValue, Int.reduceSub, Int.reduceMul, Int.reduceNeg, Int.reduceMod, Int.reduceDiv, Int.reduceTDiv, Int.reduceTMod, Int.reduceBEq, Int.reduceBNe, Nat.reduceDiv, Nat.reducePow]
      exact ⟨rfl, rfl, rfl, rfl, rfl⟩
def psmallC : Con := con0 fun args => match args with
  | [.agg [.u64 a, .u64 b, .u64 c, .u64 d, .u64 e]] => some (.c (psmall ⟨a, b, c, d, e⟩).cv, [])
  | _ => none
theorem psmallC_ok : ConOk Try.prog 44 psmallC := con0_ok Try.func44 rfl rfl fun args res ob h hob => by
  split at h
  · injection h with h; injection h with h1 h2; subst h1; subst h2; exact psmall_tri ⟨_, _, _, _, _⟩
  · cases h
def limbsL (s : List UInt8) : Nat → List UInt64
  | 0 => [0, 0, 0, 0, 0]
  | i + 1 => (limbsL s i).set (8 * i / 26) ((limbsL s i).getD (8 * i / 26) 0 ||| shl64 (s.getD i 0).toUInt64 (8 * i % 26))
def n5of (l : List UInt64) : N5 := ⟨l.getD 0 0, l.getD 1 0, l.getD 2 0, l.getD 3 0, l.getD 4 0⟩
def limbsN (s : List UInt8) : N5 := pcarry (n5of (limbsL s s.length))
theorem limbsL_len (s : List UInt8) : ∀ i, (limbsL s i).length = 5
  | 0 => rfl
  | i + 1 => by rw [limbsL, List.length_set, limbsL_len s i]
def byteOfL (x : N5) (i : Nat) : UInt8 :=
  if 8 * i / 26 + 1 < 5 then (shr64 (x.l.getD (8 * i / 26) 0) (8 * i % 26) ||| shl64 (x.l.getD (8 * i / 26 + 1) 0) (26 - 8 * i % 26)).toUInt8
  else (shr64 (x.l.getD (8 * i / 26) 0) (8 * i % 26)).toUInt8
def pcar (x : N5) (s : List UInt8) : Nat → Nat
  | 0 => 0
  | i + 1 => (pcar x s i + (byteOfL x i).toNat + (s.getD i 0).toNat) / 256
def addAt (x : N5) (s : List UInt8) (i : Nat) : UInt8 := UInt8.ofNat (pcar x s i + (byteOfL x i).toNat + (s.getD i 0).toNat)
def addB (x : N5) (s : List UInt8) (n : Nat) : List UInt8 := (List.range n).map (addAt x s)
theorem addB_len (x : N5) (s : List UInt8) (n : Nat) : (addB x s n).length = n := by simp [addB]
theorem addB_succ (x : N5) (s : List UInt8) (n : Nat) : addB x s (n + 1) = addB x s n ++ [addAt x s n] := by simp [addB, List.range_succ]
set_option maxRecDepth 100000 in
theorem byteOf_tri (x : N5) (i : Nat) (hi : i < 16) : Tri Try.prog 55 [x.cv, .one (.num i)] [] (.c (.one (.u8 (byteOfL x i)))) [] := by
  refine tri_of (envOf_ok gp1_ok 33) Try.func55 rfl rfl (rs := [.tmp 4]) rfl rfl (by simp [envOf]) rfl [] ?_
  have hc : i = 0 ∨ i = 1 ∨ i = 2 ∨ i = 3 ∨ i = 4 ∨ i = 5 ∨ i = 6 ∨ i = 7 ∨ i = 8 ∨ i = 9 ∨ i = 10 ∨ i = 11 ∨ i = 12 ∨ i = 13 ∨ i = 14 ∨ i = 15 := by omega
  rcases hc with rfl | rfl | rfl | rfl | rfl | rfl | rfl | rfl | rfl | rfl | rfl | rfl | rfl | rfl | rfl | rfl
  all_goals
    simp only [envOf, gp1, N5.cv, go_sem, reduceCtorEq, ↓reduceIte, Nat.reduceAdd, Nat.reduceMul, Nat.reduceSub, Nat.reduceEqDiff, Nat.reduceLT, Nat.reduceBEq, Nat.reduceBNe, Nat.reduceLeDiff, Int.reduceLE, Int.reduceLT, Int.reduceToNat, Int.reduceEq, Int.reduceAdd, UInt8.reduceToNat, UInt32.reduceToNat, UInt64.reduceToNat, UInt8.reduceOfNat, UInt32.reduceOfNat, UInt64.reduceOfNat, Fin.isValue, Int.reduceSub, Int.reduceMul, Int.reduceNeg, Int.reduceMod, Int.reduceDiv, Int.reduceTDiv, Int.reduceTMod, Int.reduceBEq, Int.reduceBNe, Nat.reduceDiv, Nat.reducePow]
    all_goals rfl
end Go.Proofs.Ythgemadhhkocgaa
