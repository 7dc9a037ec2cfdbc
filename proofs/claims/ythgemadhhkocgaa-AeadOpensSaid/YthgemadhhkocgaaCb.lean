/-
  Layer 5: the first state of a block.
-/
import Derived.Test.YthgemadhhkocgaaSz
import Derived.Test.YthgemadhhkocgaaCa
namespace Go.Proofs.Ythgemadhhkocgaa
open Go Go.RowKit
set_option linter.unusedSimpArgs false
set_option linter.unusedVariables false
def ga2 : Nat → Option Con := fun f => match f with
  | 53 => some wordC
  | _ => none
theorem ga2_ok : GaOk Try.prog ga2 := fun f con h => by
  unfold ga2 at h
  split at h
  · injection h with h; subst h; exact wordC_ok
  · cases h
theorem getD_cut (l : List UInt8) (a n i : Nat) (h : i < n) : ((l.drop a).take n).getD i 0 = l.getD (a + i) 0 := by
  simp only [List.getD_eq_getElem?_getD]
  rw [List.getElem?_take_of_lt h, List.getElem?_drop]
theorem leAt_cut (l : List UInt8) (a : Nat) : leAt ((l.drop a).take 4) 0 = leAt l a := by
  unfold leAt
  rw [getD_cut _ _ _ _ (by omega), getD_cut _ _ _ _ (by omega), getD_cut _ _ _ _ (by omega), getD_cut _ _ _ _ (by omega)]
  simp only [Nat.zero_add, Nat.add_zero]
theorem leAt_drop (l : List UInt8) (a : Nat) : leAt (l.drop a) 0 = leAt l a := by
  unfold leAt
  simp only [List.getD_eq_getElem?_getD, List.getElem?_drop, Nat.zero_add, Nat.add_zero]
theorem leAt_take (l : List UInt8) : leAt (l.take 4) 0 = leAt l 0 := leAt_cut l 0
def iniL (k n : List UInt8) (c : UInt32) : List UInt32 := [1634760805, 857760878, 2036477234, 1797285236, leAt k 0, leAt k 4, leAt k 8, leAt k 12, leAt k 16, leAt k 20, leAt k 24, leAt k 28, c, leAt n 0, leAt n 4, leAt n 8]
set_option maxRecDepth 100000 in
set_option maxHeartbeats 4000000 in
theorem initial_tri (k n : List UInt8) (c : UInt32) (hk : k.length = 32) (hn : n.length = 12) : Tri Try.prog 37 [.one (.str k), .one (.str n), .one (.u32 c)] [] (.c (.agg ((iniL k n c).map .u32))) [] := by
  refine tri_of (envOf_ok ga2_ok 44) Try.func37 rfl rfl (rs := [.cell 6 54]) rfl rfl (by simp [envOf]) rfl [] ?_
  simp only [envOf, ga2, wordC, go_sem, reduceCtorEq, ↓reduceIte, Nat.reduceAdd, Nat.reduceMul, Nat.reduceSub, Nat.reduceEqDiff, Nat.reduceLT, Nat.reduceBEq, Nat.reduceBNe, Nat.reduceLeDiff, Int.reduceLE, Int.reduceLT, Int.reduceToNat, Int.reduceEq, Int.reduceAdd, UInt8.reduceToNat, UInt32.reduceToNat, UInt64.reduceToNat, UInt8.reduceOfNat, UInt32.reduceOfNat, UInt64.reduceOfNat, Fin.isValue, Int.reduceSub, Int.reduceMul, Int.reduceNeg, Int.reduceMod, Int.reduceDiv, Int.reduceTDiv, Int.reduceTMod, Int.reduceBEq, Int.reduceBNe, Nat.reduceDiv, Nat.reducePow]
  refine loop_rounds (envOf_ok ga2_ok 44) 9 ?_
  simp only [ga2, wordC, go_sem, reduceCtorEq, ↓reduceIte, Nat.reduceAdd, Nat.reduceMul, Nat.reduceSub, Nat.reduceEqDiff, Nat.reduceLT, Nat.reduceBEq, Nat.reduceBNe, Nat.reduceLeDiff, Int.reduceLE, Int.reduceLT, Int.reduceToNat, Int.reduceEq, Int.reduceAdd, UInt8.reduceToNat, UInt32.reduceToNat, UInt64.reduceToNat, UInt8.reduceOfNat, UInt32.reduceOfNat, UInt64.reduceOfNat, Fin.isValue, Int.reduceSub, Int.reduceMul, Int.reduceNeg, Int.reduceMod, Int.reduceDiv, Int.reduceTDiv, Int.reduceTMod, Int.reduceBEq, Int.reduceBNe, Nat.reduceDiv, Nat.reducePow]
  repeat' apply And.intro
  rotate_right
  · refine loop_rounds (envOf_ok ga2_ok 44) 4 ?_
    simp only [ga2, wordC, leAt_drop, leAt_take, go_sem, reduceCtorEq, ↓reduceIte, Nat.reduceAdd, Nat.reduceMul, Nat.reduceSub, Nat.reduceEqDiff, Nat.reduceLT, Nat.reduceBEq, Nat.reduceBNe, Nat.reduceLeDiff, Int.reduceLE, Int.reduceLT, Int.reduceToNat, Int.reduceEq, Int.reduceAdd, UInt8.reduceToNat, UInt32.reduceToNat, UInt64.reduceToNat, UInt8.reduceOfNat, UInt32.reduceOfNat, UInt64.reduceOfNat, Fin.isValue, Int.reduceSub, Int.reduceMul, Int.reduceNeg, Int.reduceMod, Int.reduceDiv, Int.reduceTDiv, Int.reduceTMod, Int.reduceBEq, Int.reduceBNe, Nat.reduceDiv, Nat.reducePow]
    repeat' apply And.intro
    all_goals first
      | omega
      | (simp only [List.length_take, List.length_drop]; omega)
      | rfl
  all_goals first
    | omega
    | (simp only [List.length_take, List.length_drop]; omega)
def initialC : Con := con0 fun args => match args with
  | [.one (.str k), .one (.str n), .one (.u32 c)] => some (.c (.agg ((iniL k n c).map .u32)), [k.length = 32, n.length = 12])
  | _ => none
theorem initialC_ok : ConOk Try.prog 37 initialC := con0_ok Try.func37 rfl rfl fun args res ob h hob => by
  split at h
  · injection h with h; injection h with h1 h2; subst h1; subst h2; exact initial_tri _ _ _ hob.1 hob.2.1
  · cases h
end Go.Proofs.Ythgemadhhkocgaa
