/-
  Layer 14: numbers, ranges, sets.
-/
import Derived.Test.YtgfcdkbbkgamnaaDoorSz
import Derived.Test.YtgfcdkbbkgamnaaDoorLa
import Derived.Test.YtgfcdkbbkgamnaaDoorQl
namespace Go.Proofs.YtgfcdkbbkgamnaaDoor
open Go Go.RowKit
set_option maxHeartbeats 4000000
set_option linter.unusedSimpArgs false
set_option linter.unusedVariables false
theorem gm_gl : ∀ f ∈ GM, f ∈ GL := fun f h => by
  obtain rfl := List.mem_singleton.1 h
  exact List.mem_cons_self ..
def tSplitC : Con := conS qSplitF
theorem tSplitC_ok : ConOkG Tryd.prog GL 52 tSplitC := qSplitC_ok.mono gm_gl
def tJoinC : Con := conS qJoinF
theorem tJoinC_ok : ConOkG Tryd.prog GL 58 tJoinC := qJoinC_ok.mono gm_gl
/-- A number of a set. -/
def numB (d : List UInt8) : Bool := isNum d && decide (1 ≤ val d) && decide (val d < 4294967296)
theorem num14_no (d : List UInt8) (h : atoiE d = true ∨ atoiV d < 1 ∨ 4294967296 ≤ atoiV d ∨ Lib.itoa (atoiV d) ≠ d) : numB d = false := by
  cases hn : numB d with
  | false => rfl
  | true =>
    exfalso
    unfold numB at hn
    simp only [Bool.and_eq_true, decide_eq_true_eq] at hn
    obtain ⟨h1, h2⟩ := isNum_all hn.1.1
    have hA := atoi_dig d h1 h2 (by omega)
    have hE : atoiE d = false := by unfold atoiE; rw [hA]
    have hV : atoiV d = (val d : Int) := by unfold atoiV; rw [hA]
    rw [hE, hV, num_itoa d hn.1.1] at h
    simp at h
    omega
theorem num14_yes (d : List UInt8) (h1 : ¬ atoiV d < 1) (h2 : ¬ 4294967296 ≤ atoiV d) (h3 : Lib.itoa (atoiV d) = d) : numB d = true ∧ atoiV d = (val d : Int) := by
  obtain ⟨a, b⟩ := num_back d _ h3 (by omega)
  refine ⟨?_, b.symm⟩
  unfold numB
  rw [a]
  simp
  omega
def tnB (d : List UInt8) : Bool := d == [42] || numB d
def tnV (d : List UInt8) : Int := if d = [42] then 0 else if numB d = true then (val d : Int) else 0
def qt0 : Nat → Option Con := fun f => match f with
  | 87 => some atoiC
  | 57 => some itoaC
  | _ => none
theorem qt0_ok : GaOkG Tryd.prog GL qt0 := fun f con h => by
  unfold qt0 at h
  split at h
  · injection h with h; subst h; exact atoiC_ok
  · injection h with h; subst h; exact itoaC_ok
  · cases h
set_option maxRecDepth 100000 in
theorem spanNumber_tri (d : List UInt8) (hd : d.length ≤ 1048576) : TriG Tryd.prog GL 80 [.one (.str d)] [] (.tup [.one (.num (tnV d)), .one (.bo (tnB d))]) [] := by
  refine tri_of (envL_ok qt0_ok 30) Tryd.func80 rfl rfl (rs := [.tmp 2, .tmp 3]) rfl rfl (by simp [envL]) rfl [] ?_
  cases h0 : (d == [42]) with
  | true =>
    have e1 : tnV d = 0 := by unfold tnV; rw [if_pos (eq_of_beq h0)]
    have e2 : tnB d = true := by unfold tnB; rw [h0]; rfl
    simp only [envL, qt0, atoiC, itoaC, h0, e1, e2, go_sem, reduceCtorEq, ↓reduceIte, Nat.reduceAdd, Nat.reduceMul, Nat.reduceSub, Nat.reduceEqDiff, Nat.reduceLT, Nat.reduceBEq, Nat.reduceBNe, Nat.reduceLeDiff, Int.reduceLE, Int.reduceLT, Int.reduceToNat, Int.reduceEq, Int.reduceAdd, UInt8.reduceToNat, UInt32.reduceToNat, UInt64.reduceToNat, UInt8.reduceOfNat, UInt32.reduceOfNat, UInt64.reduceOfNat, Fin.isValue, Int.reduceSub, Int.reduceMul, Int.reduceNeg, Int.reduceMod, Int.reduceDiv, Int.reduceTDiv, Int.reduceTMod, Int.reduceBEq, Int.reduceBNe, Nat.reduceDiv, Nat.reducePow]
  | false =>
    have h0' : d ≠ [42] := beq_eq_false_iff_ne.1 h0
    have f1 : tnB d = numB d := by unfold tnB; rw [h0]; rfl
    have f2 : numB d = false → tnV d = 0 := fun h => by unfold tnV; rw [if_neg h0', if_neg (by rw [h]; simp)]
    have f3 : numB d = true → tnV d = (val d : Int) := fun h => by unfold tnV; rw [if_neg h0', if_pos h]
    cases hE : atoiE d with
    | true =>
      have hn := num14_no d (.inl hE)
      have e1 := f2 hn
      simp only [envL, qt0, atoiC, itoaC, h0, hE, f1, hn, e1, Tryd.underlying97, go_sem, reduceCtorEq, ↓reduceIte, Nat.reduceAdd, Nat.reduceMul, Nat.reduceSub, Nat.reduceEqDiff, Nat.reduceLT, Nat.reduceBEq, Nat.reduceBNe, Nat.reduceLeDiff, Int.reduceLE, Int.reduceLT, Int.reduceToNat, Int.reduceEq, Int.reduceAdd, UInt8.reduceToNat, UInt32.reduceToNat, UInt64.reduceToNat, UInt8.reduceOfNat, UInt32.reduceOfNat, UInt64.reduceOfNat, Fin.isValue, Int.reduceSub, Int.reduceMul, Int.reduceNeg, Int.reduceMod, Int.reduceDiv, Int.reduceTDiv, Int.reduceTMod, Int.reduceBEq, Int.reduceBNe, Nat.reduceDiv, Nat.reducePow]
      all_goals omega
    | false =>
      cases h1 : decide (atoiV d < 1) with
      | true =>
        have hn := num14_no d (.inr (.inl (of_decide_eq_true h1)))
        have e1 := f2 hn
        simp only [envL, qt0, atoiC, itoaC, h0, hE, h1, f1, hn, e1, Tryd.underlying97, go_sem, reduceCtorEq, ↓reduceIte, Nat.reduceAdd, Nat.reduceMul, Nat.reduceSub, Nat.reduceEqDiff, Nat.reduceLT, Nat.reduceBEq, Nat.reduceBNe, Nat.reduceLeDiff, Int.reduceLE, Int.reduceLT, Int.reduceToNat, Int.reduceEq, Int.reduceAdd, UInt8.reduceToNat, UInt32.reduceToNat, UInt64.reduceToNat, UInt8.reduceOfNat, UInt32.reduceOfNat, UInt64.reduceOfNat, Fin.isValue, Int.reduceSub, Int.reduceMul, Int.reduceNeg, Int.reduceMod, Int.reduceDiv, Int.reduceTDiv, Int.reduceTMod, Int.reduceBEq, Int.reduceBNe, Nat.reduceDiv, Nat.reducePow]
        all_goals omega
      | false =>
        cases h2 : decide (4294967296 ≤ atoiV d) with
        | true =>
          have hn := num14_no d (.inr (.inr (.inl (of_decide_eq_true h2))))
          have e1 := f2 hn
          simp only [envL, qt0, atoiC, itoaC, h0, hE, h1, h2, f1, hn, e1, Tryd.underlying97, go_sem, reduceCtorEq, ↓reduceIte, Nat.reduceAdd, Nat.reduceMul, Nat.reduceSub, Nat.reduceEqDiff, Nat.reduceLT, Nat.reduceBEq, Nat.reduceBNe, Nat.reduceLeDiff, Int.reduceLE, Int.reduceLT, Int.reduceToNat, Int.reduceEq, Int.reduceAdd, UInt8.reduceToNat, UInt32.reduceToNat, UInt64.reduceToNat, UInt8.reduceOfNat, UInt32.reduceOfNat, UInt64.reduceOfNat, Fin.isValue, Int.reduceSub, Int.reduceMul, Int.reduceNeg, Int.reduceMod, Int.reduceDiv, Int.reduceTDiv, Int.reduceTMod, Int.reduceBEq, Int.reduceBNe, Nat.reduceDiv, Nat.reducePow]
          all_goals omega
        | false =>
          have hb : -9223372036854775808 ≤ atoiV d ∧ atoiV d ≤ 9223372036854775807 := ⟨by have := of_decide_eq_false h1; omega, by have := of_decide_eq_false h2; omega⟩
          cases h3 : (Lib.itoa (atoiV d) == d) with
          | true =>
            obtain ⟨hn, hv⟩ := num14_yes d (of_decide_eq_false h1) (of_decide_eq_false h2) (by simpa using h3)
            have e1 := f3 hn
            rw [← hv] at e1
            simp only [envL, qt0, atoiC, itoaC, h0, hE, h1, h2, h3, f1, hn, e1, hb, Tryd.underlying97, go_sem, reduceCtorEq, ↓reduceIte, Nat.reduceAdd, Nat.reduceMul, Nat.reduceSub, Nat.reduceEqDiff, Nat.reduceLT, Nat.reduceBEq, Nat.reduceBNe, Nat.reduceLeDiff, Int.reduceLE, Int.reduceLT, Int.reduceToNat, Int.reduceEq, Int.reduceAdd, UInt8.reduceToNat, UInt32.reduceToNat, UInt64.reduceToNat, UInt8.reduceOfNat, UInt32.reduceOfNat, UInt64.reduceOfNat, Fin.isValue, Int.reduceSub, Int.reduceMul, Int.reduceNeg, Int.reduceMod, Int.reduceDiv, Int.reduceTDiv, Int.reduceTMod, Int.reduceBEq, Int.reduceBNe, Nat.reduceDiv, Nat.reducePow]
            ((repeat' apply And.intro) <;> first | omega | exact rfl | exact id)
          | false =>
            have hn := num14_no d (.inr (.inr (.inr (by simpa using h3))))
            have e1 := f2 hn
            simp only [envL, qt0, atoiC, itoaC, h0, hE, h1, h2, h3, f1, hn, e1, hb, Tryd.underlying97, go_sem, reduceCtorEq, ↓reduceIte, Nat.reduceAdd, Nat.reduceMul, Nat.reduceSub, Nat.reduceEqDiff, Nat.reduceLT, Nat.reduceBEq, Nat.reduceBNe, Nat.reduceLeDiff, Int.reduceLE, Int.reduceLT, Int.reduceToNat, Int.reduceEq, Int.reduceAdd, UInt8.reduceToNat, UInt32.reduceToNat, UInt64.reduceToNat, UInt8.reduceOfNat, UInt32.reduceOfNat, UInt64.reduceOfNat, Fin.isValue, Int.reduceSub, Int.reduceMul, Int.reduceNeg, Int.reduceMod, Int.reduceDiv, Int.reduceTDiv, Int.reduceTMod, Int.reduceBEq, Int.reduceBNe, Nat.reduceDiv, Nat.reducePow]
            all_goals omega
def spanNumberC : Con := con0 fun args => match args with
  | [.one (.str d)] => some (.tup [.one (.num (tnV d)), .one (.bo (tnB d))], [d.length ≤ 1048576])
  | _ => none
theorem spanNumberC_ok : ConOkG Tryd.prog GL 80 spanNumberC := con0_okG Tryd.func80 rfl rfl fun args res ob h hob => by
  split at h
  · injection h with h; injection h with h1 h2; subst h1; subst h2; exact spanNumber_tri _ hob.1
  · cases h
/-- A part of a set. -/
def rgOf (p : List UInt8) : Int × Int := (tnV (Lib.cut p [58]).1, tnV (if (Lib.cut p [58]).2.2 = true then (Lib.cut p [58]).2.1 else (Lib.cut p [58]).1))
def rgB (p : List UInt8) : Bool := tnB (Lib.cut p [58]).1 && tnB (if (Lib.cut p [58]).2.2 = true then (Lib.cut p [58]).2.1 else (Lib.cut p [58]).1)
def qt1 : Nat → Option Con := fun f => match f with
  | 59 => some cutC
  | 80 => some spanNumberC
  | _ => none
theorem qt1_ok : GaOkG Tryd.prog GL qt1 := fun f con h => by
  unfold qt1 at h
  split at h
  · injection h with h; subst h; exact cutC_ok
  · injection h with h; subst h; exact spanNumberC_ok
  · cases h
set_option maxRecDepth 100000 in
theorem rangeOf_tri (p : List UInt8) (hp : p.length ≤ 1048576) : TriG Tryd.prog GL 53 [.one (.str p)] [] (.tup [.agg [.num (rgOf p).1, .num (rgOf p).2], .one (.bo (rgB p))]) [] := by
  refine tri_of (envL_ok qt1_ok 37) Tryd.func53 rfl rfl (rs := [.cell 2 42, .tmp 3]) rfl rfl (by simp [envL]) rfl [] ?_
  have hl : (Lib.cut p [58]).1.length ≤ 1048576 ∧ (Lib.cut p [58]).2.1.length ≤ 1048576 := by
    unfold Lib.cut
    split
    · simp only [List.length_take, List.length_drop]; omega
    · exact ⟨hp, Nat.zero_le _⟩
  cases h1 : (Lib.cut p [58]).2.2 with
  | true =>
    have e1 : rgOf p = (tnV (Lib.cut p [58]).1, tnV (Lib.cut p [58]).2.1) := by unfold rgOf; rw [if_pos h1]
    have e2 : rgB p = (tnB (Lib.cut p [58]).1 && tnB (Lib.cut p [58]).2.1) := by unfold rgB; rw [if_pos h1]
    cases h2 : tnB (Lib.cut p [58]).1 <;> rw [h2] at e2 <;> simp only [envL, qt1, cutC, spanNumberC, h1, h2, e1, e2, Tryd.underlying42, go_sem, reduceCtorEq, ↓reduceIte, Nat.reduceAdd, Nat.reduceMul, Nat.reduceSub, Nat.reduceEqDiff, Nat.reduceLT, Nat.reduceBEq, Nat.reduceBNe, Nat.reduceLeDiff, Int.reduceLE, Int.reduceLT, Int.reduceToNat, Int.reduceEq, Int.reduceAdd, UInt8.reduceToNat, UInt32.reduceToNat, UInt64.reduceToNat, UInt8.reduceOfNat, UInt32.reduceOfNat, UInt64.reduceOfNat, Fin.isValue, Int.reduceSub, Int.reduceMul, Int.reduceNeg, Int.reduceMod, Int.reduceDiv, Int.reduceTDiv, Int.reduceTMod, Int.reduceBEq, Int.reduceBNe, Nat.reduceDiv, Nat.reducePow]
    all_goals omega
  | false =>
    have e1 : rgOf p = (tnV (Lib.cut p [58]).1, tnV (Lib.cut p [58]).1) := by unfold rgOf; rw [if_neg (by rw [h1]; simp)]
    have e2 : rgB p = (tnB (Lib.cut p [58]).1 && tnB (Lib.cut p [58]).1) := by unfold rgB; rw [if_neg (by rw [h1]; simp)]
    cases h2 : tnB (Lib.cut p [58]).1 <;> rw [h2] at e2 <;> simp only [envL, qt1, cutC, spanNumberC, h1, h2, e1, e2, Tryd.underlying42, go_sem, reduceCtorEq, ↓reduceIte, Nat.reduceAdd, Nat.reduceMul, Nat.reduceSub, Nat.reduceEqDiff, Nat.reduceLT, Nat.reduceBEq, Nat.reduceBNe, Nat.reduceLeDiff, Int.reduceLE, Int.reduceLT, Int.reduceToNat, Int.reduceEq, Int.reduceAdd, UInt8.reduceToNat, UInt32.reduceToNat, UInt64.reduceToNat, UInt8.reduceOfNat, UInt32.reduceOfNat, UInt64.reduceOfNat, Fin.isValue, Int.reduceSub, Int.reduceMul, Int.reduceNeg, Int.reduceMod, Int.reduceDiv, Int.reduceTDiv, Int.reduceTMod, Int.reduceBEq, Int.reduceBNe, Nat.reduceDiv, Nat.reducePow]
    all_goals omega
def rangeOfC : Con := con0 fun args => match args with
  | [.one (.str p)] => some (.tup [.agg [.num (rgOf p).1, .num (rgOf p).2], .one (.bo (rgB p))], [p.length ≤ 1048576])
  | _ => none
theorem rangeOfC_ok : ConOkG Tryd.prog GL 53 rangeOfC := con0_okG Tryd.func53 rfl rfl fun args res ob h hob => by
  split at h
  · injection h with h; injection h with h1 h2; subst h1; subst h2; exact rangeOf_tri _ hob.1
  · cases h
end Go.Proofs.YtgfcdkbbkgamnaaDoor
