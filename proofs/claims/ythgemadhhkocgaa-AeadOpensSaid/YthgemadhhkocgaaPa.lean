/-
  Layer 6: numbers of five parts; what the program's small functions make of them.
-/
import Derived.Test.YthgemadhhkocgaaSz
import Derived.Test.YthgemadhhkocgaaCa
namespace Go.Proofs.Ythgemadhhkocgaa
open Go Go.RowKit
set_option maxHeartbeats 4000000
set_option linter.unusedSimpArgs false
set_option linter.unusedVariables false
@[ext] structure N5 where
  (a b c d e : UInt64)
deriving DecidableEq
def N5.l (x : N5) : List UInt64 := [x.a, x.b, x.c, x.d, x.e]
def N5.cv (x : N5) : CV := .agg [.u64 x.a, .u64 x.b, .u64 x.c, .u64 x.d, .u64 x.e]
theorem N5.eta (x : N5) : N5.mk x.a x.b x.c x.d x.e = x := rfl
def pcarry (x : N5) : N5 :=
  let b1 := x.b + shr64 x.a 26
  let c1 := x.c + shr64 b1 26
  let d1 := x.d + shr64 c1 26
  let e1 := x.e + shr64 d1 26
  ⟨(x.a &&& 67108863) + 5 * shr64 e1 26, b1 &&& 67108863, c1 &&& 67108863, d1 &&& 67108863, e1 &&& 67108863⟩
set_option maxRecDepth 100000 in
theorem pcarry_tri (x : N5) : Tri Try.prog 54 [x.cv] [] (.c (pcarry x).cv) [] := by
  refine tri_of (envOf_ok ga0_ok 36) Try.func54 rfl rfl (rs := [.cell 2 59]) rfl rfl (by simp [envOf]) rfl [] ?_
  simp only [envOf, ga0, N5.cv, go_sem, reduceCtorEq, ↓reduceIte, Nat.reduceAdd, Nat.reduceMul, Nat.reduceSub, Nat.reduceEqDiff, Nat.reduceLT, Nat.reduceBEq, Nat.reduceBNe, Nat.reduceLeDiff, Int.reduceLE, Int.reduceLT, Int.reduceToNat, Int.reduceEq, Int.reduceAdd, UInt8.reduceToNat, UInt32.reduceToNat, UInt64.reduceToNat, UInt8.reduceOfNat, UInt32.reduceOfNat, UInt64.reduceOfNat, Fin.isValue, Int.reduceSub, Int.reduceMul, Int.reduceNeg, Int.reduceMod, Int.reduceDiv, Int.reduceTDiv, Int.reduceTMod, Int.reduceBEq, Int.reduceBNe, Nat.reduceDiv, Nat.reducePow]
  refine loop_rounds (envOf_ok ga0_ok 36) 5 ?_
  simp only [ga0, go_sem, reduceCtorEq, ↓reduceIte, Nat.reduceAdd, Nat.reduceMul, Nat.reduceSub, Nat.reduceEqDiff, Nat.reduceLT, Nat.reduceBEq, Nat.reduceBNe, Nat.reduceLeDiff, Int.reduceLE, Int.reduceLT, Int.reduceToNat, Int.reduceEq, Int.reduceAdd, UInt8.reduceToNat, UInt32.reduceToNat, UInt64.reduceToNat, UInt8.reduceOfNat, UInt32.reduceOfNat, UInt64.reduceOfNat, Fin.isValue, Int.reduceSub, Int.reduceMul, Int.reduceNeg, Int.reduceMod, Int.reduceDiv, Int.reduceTDiv, Int.reduceTMod, Int.reduceBEq, Int.reduceBNe, Nat.reduceDiv, Nat.reducePow]
  repeat' apply And.intro
  all_goals rfl
def pcarryC : Con := con0 fun args => match args with
  | [.agg [.u64 a, .u64 b, .u64 c, .u64 d, .u64 e]] => some (.c (pcarry ⟨a, b, c, d, e⟩).cv, [])
  | _ => none
theorem pcarryC_ok : ConOk Try.prog 54 pcarryC := con0_ok Try.func54 rfl rfl fun args res ob h hob => by
  split at h
  · injection h with h; injection h with h1 h2; subst h1; subst h2; exact pcarry_tri ⟨_, _, _, _, _⟩
  · cases h
def gp1 : Nat → Option Con := fun f => match f with
  | 54 => some pcarryC
  | _ => none
theorem gp1_ok : GaOk Try.prog gp1 := fun f con h => by
  unfold gp1 at h
  split at h
  · injection h with h; subst h; exact pcarryC_ok
  · cases h
def pplus (x y : N5) : N5 := pcarry ⟨x.a + y.a, x.b + y.b, x.c + y.c, x.d + y.d, x.e + y.e⟩
set_option maxRecDepth 100000 in
theorem pplus_tri (x y : N5) : Tri Try.prog 41 [x.cv, y.cv] [] (.c (pplus x y).cv) [] := by
  refine tri_of (envOf_ok gp1_ok 20) Try.func41 rfl rfl (rs := [.cell 4 59]) rfl rfl (by simp [envOf]) rfl [] ?_
  simp only [envOf, gp1, pcarryC, N5.cv, go_sem, reduceCtorEq, ↓reduceIte, Nat.reduceAdd, Nat.reduceMul, Nat.reduceSub, Nat.reduceEqDiff, Nat.reduceLT, Nat.reduceBEq, Nat.reduceBNe, Nat.reduceLeDiff, Int.reduceLE, Int.reduceLT, Int.reduceToNat, Int.reduceEq, Int.reduceAdd, UInt8.reduceToNat, UInt32.reduceToNat, UInt64.reduceToNat, UInt8.reduceOfNat, UInt32.reduceOfNat, UInt64.reduceOfNat, Fin.isValue, Int.reduceSub, Int.reduceMul, Int.reduceNeg, Int.reduceMod, Int.reduceDiv, Int.reduceTDiv, Int.reduceTMod, Int.reduceBEq, Int.reduceBNe, Nat.reduceDiv, Nat.reducePow]
  refine loop_rounds (envOf_ok gp1_ok 20) 6 ?_
  simp only [gp1, pcarryC, N5.cv, pplus, go_sem, reduceCtorEq, ↓reduceIte, Nat.reduceAdd, Nat.reduceMul, Nat.reduceSub, Nat.reduceEqDiff, Nat.reduceLT, Nat.reduceBEq, Nat.reduceBNe, Nat.reduceLeDiff, Int.reduceLE, Int.reduceLT, Int.reduceToNat, Int.reduceEq, Int.reduceAdd, UInt8.reduceToNat, UInt32.reduceToNat, UInt64.reduceToNat, UInt8.reduceOfNat, UInt32.reduceOfNat, UInt64.reduceOfNat, Fin.isValue, Int.reduceSub, Int.reduceMul, Int.reduceNeg, Int.reduceMod, Int.reduceDiv, Int.reduceTDiv, Int.reduceTMod, Int.reduceBEq, Int.reduceBNe, Nat.reduceDiv, Nat.reducePow]
  all_goals rfl
def pplusC : Con := con0 fun args => match args with
  | [.agg [.u64 a, .u64 b, .u64 c, .u64 d, .u64 e], .agg [.u64 a', .u64 b', .u64 c', .u64 d', .u64 e']] => some (.c (pplus ⟨a, b, c, d, e⟩ ⟨a', b', c', d', e'⟩).cv, [])
  | _ => none
theorem pplusC_ok : ConOk Try.prog 41 pplusC := con0_ok Try.func41 rfl rfl fun args res ob h hob => by
  split at h
  · injection h with h; injection h with h1 h2; subst h1; subst h2; exact pplus_tri ⟨_, _, _, _, _⟩ ⟨_, _, _, _, _⟩
  · cases h
def praw (x y : N5) : N5 := ⟨
  0 + x.a * y.a + x.b * y.e * 5 + x.c * y.d * 5 + x.d * y.c * 5 + x.e * y.b * 5,
  0 + x.a * y.b + x.b * y.a + x.c * y.e * 5 + x.d * y.d * 5 + x.e * y.c * 5,
  0 + x.a * y.c + x.b * y.b + x.c * y.a + x.d * y.e * 5 + x.e * y.d * 5,
  0 + x.a * y.d + x.b * y.c + x.c * y.b + x.d * y.a + x.e * y.e * 5,
  0 + x.a * y.e + x.b * y.d + x.c * y.c + x.d * y.b + x.e * y.a⟩
def ptimes (x y : N5) : N5 := pcarry (pcarry (praw x y))
set_option maxRecDepth 100000 in
set_option maxHeartbeats 4000000 in
theorem ptimes_tri (x y : N5) : Tri Try.prog 40 [x.cv, y.cv] [] (.c (ptimes x y).cv) [] := by
  refine tri_of (envOf_ok gp1_ok 53) Try.func40 rfl rfl (rs := [.cell 4 59]) rfl rfl (by simp [envOf]) rfl [] ?_
  simp only [envOf, gp1, pcarryC, N5.cv, go_sem, reduceCtorEq, ↓reduceIte, Nat.reduceAdd, Nat.reduceMul, Nat.reduceSub, Nat.reduceEqDiff, Nat.reduceLT, Nat.reduceBEq, Nat.reduceBNe, Nat.reduceLeDiff, Int.reduceLE, Int.reduceLT, Int.reduceToNat, Int.reduceEq, Int.reduceAdd, UInt8.reduceToNat, UInt32.reduceToNat, UInt64.reduceToNat, UInt8.reduceOfNat, UInt32.reduceOfNat, UInt64.reduceOfNat, Fin.isValue, Int.reduceSub, Int.reduceMul, Int.reduceNeg, Int.reduceMod, Int.reduceDiv, Int.reduceTDiv, Int.reduceTMod, Int.reduceBEq, Int.reduceBNe, Nat.reduceDiv, Nat.reducePow]
  refine loop_rounds (envOf_ok gp1_ok 53) 6 ?_
  simp only [gp1, pcarryC, N5.cv, go_sem, reduceCtorEq, ↓reduceIte, Nat.reduceAdd, Nat.reduceMul, Nat.reduceSub, Nat.reduceEqDiff, Nat.reduceLT, Nat.reduceBEq, Nat.reduceBNe, Nat.reduceLeDiff, Int.reduceLE, Int.reduceLT, Int.reduceToNat, Int.reduceEq, Int.reduceAdd, UInt8.reduceToNat, UInt32.reduceToNat, UInt64.reduceToNat, UInt8.reduceOfNat, UInt32.reduceOfNat, UInt64.reduceOfNat, Fin.isValue, Int.reduceSub, Int.reduceMul, Int.reduceNeg, Int.reduceMod, Int.reduceDiv, Int.reduceTDiv, Int.reduceTMod, Int.reduceBEq, Int.reduceBNe, Nat.reduceDiv, Nat.reducePow]
  iterate 5
    refine loop_rounds (envOf_ok gp1_ok 53) 6 ?_
    simp only [gp1, pcarryC, N5.cv, N5.eta, go_sem, reduceCtorEq, ↓reduceIte, Nat.reduceAdd, Nat.reduceMul, Nat.reduceSub, Nat.reduceEqDiff, Nat.reduceLT, Nat.reduceBEq, Nat.reduceBNe, Nat.reduceLeDiff, Int.reduceLE, Int.reduceLT, Int.reduceToNat, Int.reduceEq, Int.reduceAdd, UInt8.reduceToNat, UInt32.reduceToNat, UInt64.reduceToNat, UInt8.reduceOfNat, UInt32.reduceOfNat, UInt64.reduceOfNat, Fin.isValue, Int.reduceSub, Int.reduceMul, Int.reduceNeg, Int.reduceMod, Int.reduceDiv, Int.reduceTDiv, Int.reduceTMod, Int.reduceBEq, Int.reduceBNe, Nat.reduceDiv, Nat.reducePow]
    repeat' apply And.intro
    all_goals try rfl
def ptimesC : Con := con0 fun args => match args with
  | [.agg [.u64 a, .u64 b, .u64 c, .u64 d, .u64 e], .agg [.u64 a', .u64 b', .u64 c', .u64 d', .u64 e']] => some (.c (ptimes ⟨a, b, c, d, e⟩ ⟨a', b', c', d', e'⟩).cv, [])
  | _ => none
theorem ptimesC_ok : ConOk Try.prog 40 ptimesC := con0_ok Try.func40 rfl rfl fun args res ob h hob => by
  split at h
  · injection h with h; injection h with h1 h2; subst h1; subst h2; exact ptimes_tri ⟨_, _, _, _, _⟩ ⟨_, _, _, _, _⟩
  · cases h
end Go.Proofs.Ythgemadhhkocgaa
