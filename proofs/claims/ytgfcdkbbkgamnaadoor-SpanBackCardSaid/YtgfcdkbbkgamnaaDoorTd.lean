/-
  Layer 14: an end of a range; whether a number follows another one.
-/
import Derived.Test.YtgfcdkbbkgamnaaDoorSz
import Derived.Test.YtgfcdkbbkgamnaaDoorTb
namespace Go.Proofs.YtgfcdkbbkgamnaaDoor
open Go Go.RowKit
set_option maxHeartbeats 4000000
set_option linter.unusedSimpArgs false
set_option linter.unusedVariables false
def knw (n g : Int) : Int := if n = 0 then g else n
def qt4 : Nat → Option Con := fun f => match f with
  | _ => none
theorem qt4_ok : GaOkG Tryd.prog GL qt4 := fun f con h => by
  unfold qt4 at h
  split at h
  · cases h
set_option maxRecDepth 100000 in
theorem known_tri (n g : Int) : TriG Tryd.prog GL 55 [.one (.num n), .one (.num g)] [] (.c (.one (.num (knw n g)))) [] := by
  refine tri_of (envL_ok qt4_ok 9) Tryd.func55 rfl rfl (rs := [.tmp 4]) rfl rfl (by simp [envL]) rfl [] ?_
  cases h : (n == 0) with
  | true =>
    have e : knw n g = g := by unfold knw; rw [if_pos (eq_of_beq h)]
    simp only [envL, qt4, h, e, go_sem, reduceCtorEq, ↓reduceIte, Nat.reduceAdd, Nat.reduceMul, Nat.reduceSub, Nat.reduceEqDiff, Nat.reduceLT, Nat.reduceBEq, Nat.reduceBNe, Nat.reduceLeDiff, Int.reduceLE, Int.reduceLT, Int.reduceToNat, Int.reduceEq, Int.reduceAdd, UInt8.reduceToNat, UInt32.reduceToNat, UInt64.reduceToNat, UInt8.reduceOfNat, UInt32.reduceOfNat, UInt64.reduceOfNat, Fin.isValue, Int.reduceSub, Int.reduceMul, Int.reduceNeg, Int.reduceMod, Int.reduceDiv, Int.reduceTDiv, Int.reduceTMod, Int.reduceBEq, Int.reduceBNe, Nat.reduceDiv, Nat.reducePow]
  | false =>
    have e : knw n g = n := by unfold knw; rw [if_neg (beq_eq_false_iff_ne.1 h)]
    simp only [envL, qt4, h, e, go_sem, reduceCtorEq, ↓reduceIte, Nat.reduceAdd, Nat.reduceMul, Nat.reduceSub, Nat.reduceEqDiff, Nat.reduceLT, Nat.reduceBEq, Nat.reduceBNe, Nat.reduceLeDiff, Int.reduceLE, Int.reduceLT, Int.reduceToNat, Int.reduceEq, Int.reduceAdd, UInt8.reduceToNat, UInt32.reduceToNat, UInt64.reduceToNat, UInt8.reduceOfNat, UInt32.reduceOfNat, UInt64.reduceOfNat, Fin.isValue, Int.reduceSub, Int.reduceMul, Int.reduceNeg, Int.reduceMod, Int.reduceDiv, Int.reduceTDiv, Int.reduceTMod, Int.reduceBEq, Int.reduceBNe, Nat.reduceDiv, Nat.reducePow]
def knownC : Con := con0 fun args => match args with
  | [.one (.num n), .one (.num g)] => some (.c (.one (.num (knw n g))), [])
  | _ => none
theorem knownC_ok : ConOkG Tryd.prog GL 55 knownC := con0_okG Tryd.func55 rfl rfl fun args res ob h hob => by
  split at h
  · injection h with h; injection h with h1 h2; subst h1; subst h2; exact known_tri _ _
  · cases h
def fol (b n : Int) : Bool := decide (1 ≤ b) && n == b + 1
set_option maxRecDepth 100000 in
theorem follows_tri (b n : Int) (hn : n ≤ 9223372036854775807) : TriG Tryd.prog GL 56 [.one (.num b), .one (.num n)] [] (.c (.one (.bo (fol b n)))) [] := by
  refine tri_of (envL_ok qt4_ok 18) Tryd.func56 rfl rfl (rs := [.tmp 4]) rfl rfl (by simp [envL]) rfl [] ?_
  cases h1 : decide (1 ≤ b) with
  | false =>
    have e : fol b n = false := by unfold fol; rw [h1]; rfl
    simp only [envL, qt4, h1, e, go_sem, reduceCtorEq, ↓reduceIte, Nat.reduceAdd, Nat.reduceMul, Nat.reduceSub, Nat.reduceEqDiff, Nat.reduceLT, Nat.reduceBEq, Nat.reduceBNe, Nat.reduceLeDiff, Int.reduceLE, Int.reduceLT, Int.reduceToNat, Int.reduceEq, Int.reduceAdd, UInt8.reduceToNat, UInt32.reduceToNat, UInt64.reduceToNat, UInt8.reduceOfNat, UInt32.reduceOfNat, UInt64.reduceOfNat, Fin.isValue, Int.reduceSub, Int.reduceMul, Int.reduceNeg, Int.reduceMod, Int.reduceDiv, Int.reduceTDiv, Int.reduceTMod, Int.reduceBEq, Int.reduceBNe, Nat.reduceDiv, Nat.reducePow]
  | true =>
    cases h2 : decide (b < n) with
    | false =>
      have e : fol b n = false := by
        unfold fol
        rw [beq_eq_false_iff_ne.2 (by have := of_decide_eq_false h2; omega), Bool.and_false]
      simp only [envL, qt4, h1, h2, e, go_sem, reduceCtorEq, ↓reduceIte, Nat.reduceAdd, Nat.reduceMul, Nat.reduceSub, Nat.reduceEqDiff, Nat.reduceLT, Nat.reduceBEq, Nat.reduceBNe, Nat.reduceLeDiff, Int.reduceLE, Int.reduceLT, Int.reduceToNat, Int.reduceEq, Int.reduceAdd, UInt8.reduceToNat, UInt32.reduceToNat, UInt64.reduceToNat, UInt8.reduceOfNat, UInt32.reduceOfNat, UInt64.reduceOfNat, Fin.isValue, Int.reduceSub, Int.reduceMul, Int.reduceNeg, Int.reduceMod, Int.reduceDiv, Int.reduceTDiv, Int.reduceTMod, Int.reduceBEq, Int.reduceBNe, Nat.reduceDiv, Nat.reducePow]
    | true =>
      have hw : IntKind.i64.wrap (b + 1) = b + 1 := by
        have := of_decide_eq_true h1
        have := of_decide_eq_true h2
        rw [IntKind.wrap_i64]; omega
      have e : fol b n = (n == b + 1) := by unfold fol; rw [h1]; rfl
      simp only [envL, qt4, h1, h2, hw, e, go_sem, reduceCtorEq, ↓reduceIte, Nat.reduceAdd, Nat.reduceMul, Nat.reduceSub, Nat.reduceEqDiff, Nat.reduceLT, Nat.reduceBEq, Nat.reduceBNe, Nat.reduceLeDiff, Int.reduceLE, Int.reduceLT, Int.reduceToNat, Int.reduceEq, Int.reduceAdd, UInt8.reduceToNat, UInt32.reduceToNat, UInt64.reduceToNat, UInt8.reduceOfNat, UInt32.reduceOfNat, UInt64.reduceOfNat, Fin.isValue, Int.reduceSub, Int.reduceMul, Int.reduceNeg, Int.reduceMod, Int.reduceDiv, Int.reduceTDiv, Int.reduceTMod, Int.reduceBEq, Int.reduceBNe, Nat.reduceDiv, Nat.reducePow]
def followsC : Con := con0 fun args => match args with
  | [.one (.num b), .one (.num n)] => some (.c (.one (.bo (fol b n))), [n ≤ 9223372036854775807])
  | _ => none
theorem followsC_ok : ConOkG Tryd.prog GL 56 followsC := con0_okG Tryd.func56 rfl rfl fun args res ob h hob => by
  split at h
  · injection h with h; injection h with h1 h2; subst h1; subst h2; exact follows_tri _ _ hob.1
  · cases h
end Go.Proofs.YtgfcdkbbkgamnaaDoor
