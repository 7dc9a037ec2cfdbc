/-
  Layer 3: the bytes of a number, numbers changed; the laws that ask no document's answer.
-/
import Derived.Test.YtdkmkifebhggeaaSz
import Derived.Test.YtdkmkifebhggeaaKy
namespace Go.Proofs.Ytdkmkifebhggeaa
open Go Go.RowKit
set_option maxHeartbeats 4000000
set_option linter.unusedSimpArgs false
set_option linter.unusedVariables false
def gf4 : Nat → Option Con := fun f => match f with
  | 33 => some fsmallC
  | _ => none
theorem gf4_ok : GaOk Try.prog gf4 := fun f con h => by
  unfold gf4 at h
  split at h
  · injection h with h; subst h; exact fsmallC_ok
  · cases h
set_option maxRecDepth 100000 in
theorem fbytes_tri (x : N5) : Tri Try.prog 12 [x.cv] [] (.c (.one (.str (bytesF x)))) [] := by
  refine tri_of (envOf_ok gf4_ok 59) Try.func12 rfl rfl (rs := [.tmp 2]) rfl rfl (by simp [envOf]) rfl [] ?_
  simp only [envOf, gf4, fsmallC, N5.cv, N5.eta, go_sem, reduceCtorEq, ↓reduceIte, Nat.reduceAdd, Nat.reduceMul, Nat.reduceSub, Nat.reduceEqDiff, Nat.reduceLT, Nat.reduceBEq, Nat.reduceBNe, Nat.reduceLeDiff, Int.reduceLE, Int.reduceLT, Int.reduceToNat, Int.reduceEq, Int.reduceAdd, UInt8.reduceToNat, UInt32.reduceToNat, UInt64.reduceToNat, UInt8.reduceOfNat, UInt32.reduceOfNat, UInt64.reduceOfNat, Fin.isValue, Int.reduceSub, Int.reduceMul, Int.reduceNeg, Int.reduceMod, Int.reduceDiv, Int.reduceTDiv, Int.reduceTMod, Int.reduceBEq, Int.reduceBNe, Nat.reduceDiv, Nat.reducePow]
  refine loop_rounds (envOf_ok gf4_ok 59) 5 ?_
  simp only [envOf, gf4, fsmallC, N5.cv, N5.eta, go_sem, reduceCtorEq, ↓reduceIte, Nat.reduceAdd, Nat.reduceMul, Nat.reduceSub, Nat.reduceEqDiff, Nat.reduceLT, Nat.reduceBEq, Nat.reduceBNe, Nat.reduceLeDiff, Int.reduceLE, Int.reduceLT, Int.reduceToNat, Int.reduceEq, Int.reduceAdd, UInt8.reduceToNat, UInt32.reduceToNat, UInt64.reduceToNat, UInt8.reduceOfNat, UInt32.reduceOfNat, UInt64.reduceOfNat, Fin.isValue, Int.reduceSub, Int.reduceMul, Int.reduceNeg, Int.reduceMod, Int.reduceDiv, Int.reduceTDiv, Int.reduceTMod, Int.reduceBEq, Int.reduceBNe, Nat.reduceDiv, Nat.reducePow]
  iterate 4
    refine loop_rounds (envOf_ok gf4_ok 59) 9 ?_
    simp only [envOf, gf4, fsmallC, N5.cv, N5.eta, go_sem, reduceCtorEq, ↓reduceIte, Nat.reduceAdd, Nat.reduceMul, Nat.reduceSub, Nat.reduceEqDiff, Nat.reduceLT, Nat.reduceBEq, Nat.reduceBNe, Nat.reduceLeDiff, Int.reduceLE, Int.reduceLT, Int.reduceToNat, Int.reduceEq, Int.reduceAdd, UInt8.reduceToNat, UInt32.reduceToNat, UInt64.reduceToNat, UInt8.reduceOfNat, UInt32.reduceOfNat, UInt64.reduceOfNat, Fin.isValue, Int.reduceSub, Int.reduceMul, Int.reduceNeg, Int.reduceMod, Int.reduceDiv, Int.reduceTDiv, Int.reduceTMod, Int.reduceBEq, Int.reduceBNe, Nat.reduceDiv, Nat.reducePow]
    repeat' apply And.intro
    all_goals try rfl
def fbytesC : Con := con0 fun args => match args with
  | [.agg [.u64 a, .u64 b, .u64 c, .u64 d, .u64 e]] => some (.c (.one (.str (bytesF ⟨a, b, c, d, e⟩))), [])
  | _ => none
theorem fbytesC_ok : ConOk Try.prog 12 fbytesC := con0_ok Try.func12 rfl rfl fun args res ob h hob => by
  split at h
  · injection h with h; injection h with h1 h2; subst h1; subst h2; exact fbytes_tri ⟨_, _, _, _, _⟩
  · cases h
end Go.Proofs.Ytdkmkifebhggeaa
