/-
  Layer 3: products, walked.
-/
import Derived.Test.YtdkmkifebhggeaaSz
import Derived.Test.YtdkmkifebhggeaaKx
namespace Go.Proofs.Ytdkmkifebhggeaa
open Go Go.RowKit
set_option maxHeartbeats 4000000
set_option linter.unusedSimpArgs false
set_option linter.unusedVariables false
def narrowC : Con := con0 fun args => match args with
  | [.agg [.u64 a, .u64 b, .u64 c, .u64 d, .u64 e, .u64 f, .u64 g, .u64 h, .u64 i, .u64 j]] => some (.c (narrowN ⟨⟨a, b⟩, ⟨c, d⟩, ⟨e, f⟩, ⟨g, h⟩, ⟨i, j⟩⟩).cv, [])
  | _ => none
theorem narrowC_ok : ConOk Try.prog 40 narrowC := con0_ok Try.func40 rfl rfl fun args res ob h hob => by
  split at h
  · injection h with h; injection h with h1 h2; subst h1; subst h2; exact narrow_tri ⟨⟨_, _⟩, ⟨_, _⟩, ⟨_, _⟩, ⟨_, _⟩, ⟨_, _⟩⟩
  · cases h
def gf3 : Nat → Option Con := fun f => match f with
  | 39 => some wplusC
  | 40 => some narrowC
  | 34 => some fcarryC
  | _ => none
theorem gf3_ok : GaOk Try.prog gf3 := fun f con h => by
  unfold gf3 at h
  split at h
  · injection h with h; subst h; exact wplusC_ok
  · injection h with h; subst h; exact narrowC_ok
  · injection h with h; subst h; exact fcarryC_ok
  · cases h
set_option maxRecDepth 100000 in
theorem fmul_tri (x y : N5) : Tri Try.prog 19 [x.cv, y.cv] [] (.c (fmul x y).cv) [] := by
  refine tri_of (envOf_ok gf3_ok 61) Try.func19 rfl rfl (rs := [.cell 4 24]) rfl rfl (by simp [envOf]) rfl [] ?_
  simp only [envOf, gf3, wplusC, narrowC, fcarryC, W2.cv, W5.cv, N5.cv, N5.eta, W2.eta, go_sem, reduceCtorEq, ↓reduceIte, Nat.reduceAdd, Nat.reduceMul, Nat.reduceSub, Nat.reduceEqDiff, Nat.reduceLT, Nat.reduceBEq, Nat.reduceBNe, Nat.reduceLeDiff, Int.reduceLE, Int.reduceLT, Int.reduceToNat, Int.reduceEq, Int.reduceAdd, UInt8.reduceToNat, UInt32.reduceToNat, UInt64.reduceToNat, UInt8.reduceOfNat, UInt32.reduceOfNat, UInt64.reduceOfNat, Fin.isValue, Int.reduceSub, Int.reduceMul, Int.reduceNeg, Int.reduceMod, Int.reduceDiv, Int.reduceTDiv, Int.reduceTMod, Int.reduceBEq, Int.reduceBNe, Nat.reduceDiv, Nat.reducePow, Try.underlying57]
  repeat' apply And.intro
  all_goals try rfl
  refine loop_rounds (envOf_ok gf3_ok 61) 6 ?_
  simp only [envOf, gf3, wplusC, narrowC, fcarryC, W2.cv, W5.cv, N5.cv, N5.eta, W2.eta, go_sem, reduceCtorEq, ↓reduceIte, Nat.reduceAdd, Nat.reduceMul, Nat.reduceSub, Nat.reduceEqDiff, Nat.reduceLT, Nat.reduceBEq, Nat.reduceBNe, Nat.reduceLeDiff, Int.reduceLE, Int.reduceLT, Int.reduceToNat, Int.reduceEq, Int.reduceAdd, UInt8.reduceToNat, UInt32.reduceToNat, UInt64.reduceToNat, UInt8.reduceOfNat, UInt32.reduceOfNat, UInt64.reduceOfNat, Fin.isValue, Int.reduceSub, Int.reduceMul, Int.reduceNeg, Int.reduceMod, Int.reduceDiv, Int.reduceTDiv, Int.reduceTMod, Int.reduceBEq, Int.reduceBNe, Nat.reduceDiv, Nat.reducePow, Try.underlying57]
  iterate 5
    refine loop_rounds (envOf_ok gf3_ok 61) 6 ?_
    simp only [envOf, gf3, wplusC, narrowC, fcarryC, W2.cv, W5.cv, N5.cv, N5.eta, W2.eta, go_sem, reduceCtorEq, ↓reduceIte, Nat.reduceAdd, Nat.reduceMul, Nat.reduceSub, Nat.reduceEqDiff, Nat.reduceLT, Nat.reduceBEq, Nat.reduceBNe, Nat.reduceLeDiff, Int.reduceLE, Int.reduceLT, Int.reduceToNat, Int.reduceEq, Int.reduceAdd, UInt8.reduceToNat, UInt32.reduceToNat, UInt64.reduceToNat, UInt8.reduceOfNat, UInt32.reduceOfNat, UInt64.reduceOfNat, Fin.isValue, Int.reduceSub, Int.reduceMul, Int.reduceNeg, Int.reduceMod, Int.reduceDiv, Int.reduceTDiv, Int.reduceTMod, Int.reduceBEq, Int.reduceBNe, Nat.reduceDiv, Nat.reducePow, Try.underlying57]
    repeat' apply And.intro
    all_goals try rfl
set_option maxRecDepth 100000 in
theorem fscale_tri (x : N5) (n : UInt32) : Tri Try.prog 21 [x.cv, .one (.u32 n)] [] (.c (fscale x n.toUInt64).cv) [] := by
  refine tri_of (envOf_ok gf3_ok 26) Try.func21 rfl rfl (rs := [.cell 4 24]) rfl rfl (by simp [envOf]) rfl [] ?_
  simp only [envOf, gf3, wplusC, narrowC, fcarryC, W2.cv, W5.cv, N5.cv, N5.eta, W2.eta, go_sem, reduceCtorEq, ↓reduceIte, Nat.reduceAdd, Nat.reduceMul, Nat.reduceSub, Nat.reduceEqDiff, Nat.reduceLT, Nat.reduceBEq, Nat.reduceBNe, Nat.reduceLeDiff, Int.reduceLE, Int.reduceLT, Int.reduceToNat, Int.reduceEq, Int.reduceAdd, UInt8.reduceToNat, UInt32.reduceToNat, UInt64.reduceToNat, UInt8.reduceOfNat, UInt32.reduceOfNat, UInt64.reduceOfNat, Fin.isValue, Int.reduceSub, Int.reduceMul, Int.reduceNeg, Int.reduceMod, Int.reduceDiv, Int.reduceTDiv, Int.reduceTMod, Int.reduceBEq, Int.reduceBNe, Nat.reduceDiv, Nat.reducePow, Try.underlying57]
  repeat' apply And.intro
  all_goals try rfl
  refine loop_rounds (envOf_ok gf3_ok 26) 6 ?_
  simp only [envOf, gf3, wplusC, narrowC, fcarryC, W2.cv, W5.cv, N5.cv, N5.eta, W2.eta, go_sem, reduceCtorEq, ↓reduceIte, Nat.reduceAdd, Nat.reduceMul, Nat.reduceSub, Nat.reduceEqDiff, Nat.reduceLT, Nat.reduceBEq, Nat.reduceBNe, Nat.reduceLeDiff, Int.reduceLE, Int.reduceLT, Int.reduceToNat, Int.reduceEq, Int.reduceAdd, UInt8.reduceToNat, UInt32.reduceToNat, UInt64.reduceToNat, UInt8.reduceOfNat, UInt32.reduceOfNat, UInt64.reduceOfNat, Fin.isValue, Int.reduceSub, Int.reduceMul, Int.reduceNeg, Int.reduceMod, Int.reduceDiv, Int.reduceTDiv, Int.reduceTMod, Int.reduceBEq, Int.reduceBNe, Nat.reduceDiv, Nat.reducePow, Try.underlying57]
  repeat' apply And.intro
  all_goals rfl
def fmulC : Con := con0 fun args => match args with
  | [.agg [.u64 a, .u64 b, .u64 c, .u64 d, .u64 e], .agg [.u64 a', .u64 b', .u64 c', .u64 d', .u64 e']] => some (.c (fmul ⟨a, b, c, d, e⟩ ⟨a', b', c', d', e'⟩).cv, [])
  | _ => none
theorem fmulC_ok : ConOk Try.prog 19 fmulC := con0_ok Try.func19 rfl rfl fun args res ob h hob => by
  split at h
  · injection h with h; injection h with h1 h2; subst h1; subst h2; exact fmul_tri ⟨_, _, _, _, _⟩ ⟨_, _, _, _, _⟩
  · cases h
def fscaleC : Con := con0 fun args => match args with
  | [.agg [.u64 a, .u64 b, .u64 c, .u64 d, .u64 e], .one (.u32 n)] => some (.c (fscale ⟨a, b, c, d, e⟩ n.toUInt64).cv, [])
  | _ => none
theorem fscaleC_ok : ConOk Try.prog 21 fscaleC := con0_ok Try.func21 rfl rfl fun args res ob h hob => by
  split at h
  · injection h with h; injection h with h1 h2; subst h1; subst h2; exact fscale_tri ⟨_, _, _, _, _⟩ _
  · cases h
end Go.Proofs.Ytdkmkifebhggeaa
