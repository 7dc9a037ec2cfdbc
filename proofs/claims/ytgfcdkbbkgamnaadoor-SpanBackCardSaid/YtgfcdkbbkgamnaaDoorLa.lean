/-
  Layer 17: a line, a number, what a line announces.
-/
import Derived.Test.YtgfcdkbbkgamnaaDoorSz
import Derived.Test.YtgfcdkbbkgamnaaDoorLl
import Derived.Test.YtgfcdkbbkgamnaaDoorLp
namespace Go.Proofs.YtgfcdkbbkgamnaaDoor
open Go Go.RowKit
set_option maxHeartbeats 4000000
set_option linter.unusedSimpArgs false
set_option linter.unusedVariables false
theorem nine_no (d : List UInt8) (h : atoiE d = true ∨ atoiV d < 0 ∨ 9999 < atoiV d ∨ Lib.itoa (atoiV d) ≠ d) : nineOk d = false := by
  cases hn : nineOk d with
  | false => rfl
  | true =>
    exfalso
    unfold nineOk at hn
    simp only [Bool.and_eq_true, decide_eq_true_eq] at hn
    obtain ⟨h1, h2⟩ := isNum_all hn.1
    have hA := atoi_dig d h1 h2 (by omega)
    have hE : atoiE d = false := by unfold atoiE; rw [hA]
    have hV : atoiV d = (val d : Int) := by unfold atoiV; rw [hA]
    rw [hE, hV, num_itoa d hn.1] at h
    simp at h
    omega
theorem nine_yes (d : List UInt8) (h1 : ¬ atoiV d < 0) (h2 : ¬ 9999 < atoiV d) (h3 : Lib.itoa (atoiV d) = d) : nineOk d = true ∧ atoiV d = (val d : Int) := by
  obtain ⟨a, b⟩ := num_back d _ h3 (by omega)
  refine ⟨?_, b.symm⟩
  unfold nineOk
  rw [a]
  simp
  omega
def gaL0 : Nat → Option Con := fun f => match f with
  | 87 => some atoiC
  | 57 => some itoaC
  | _ => none
theorem gaL0_ok : GaOkG Tryd.prog GL gaL0 := fun f con h => by
  unfold gaL0 at h
  split at h
  · injection h with h; subst h; exact atoiC_ok
  · injection h with h; subst h; exact itoaC_ok
  · cases h
set_option maxRecDepth 100000 in
theorem linesNumber_tri (d : List UInt8) (hd : d.length ≤ 1048576) : TriG Tryd.prog GL 63 [.one (.str d)] [] (.tup [.one (.num (if nineOk d = true then (val d : Int) else 0)), .one (.bo (nineOk d))]) [] := by
  refine tri_of (envL_ok gaL0_ok 28) Tryd.func63 rfl rfl (rs := [.tmp 2, .tmp 3]) rfl rfl (by simp [envL]) rfl [] ?_
  cases hE : atoiE d with
  | true =>
    have hn := nine_no d (.inl hE)
    simp only [envL, gaL0, atoiC, itoaC, hE, hn, Tryd.underlying97, go_sem, reduceCtorEq, ↓reduceIte, Nat.reduceAdd, Nat.reduceMul, Nat.reduceSub, Nat.reduceEqDiff, Nat.reduceLT, Nat.reduceBEq, Nat.reduceBNe, Nat.reduceLeDiff, Int.reduceLE, Int.reduceLT, Int.reduceToNat, Int.reduceEq, Int.reduceAdd, UInt8.reduceToNat, UInt32.reduceToNat, UInt64.reduceToNat, UInt8.reduceOfNat, UInt32.reduceOfNat, UInt64.reduceOfNat, Fin.isValue, Int.reduceSub, Int.reduceMul, Int.reduceNeg, Int.reduceMod, Int.reduceDiv, Int.reduceTDiv, Int.reduceTMod, Int.reduceBEq, Int.reduceBNe, Nat.reduceDiv, Nat.reducePow]
    all_goals omega
  | false =>
    cases h1 : decide (atoiV d < 0) with
    | true =>
      have hn := nine_no d (.inr (.inl (of_decide_eq_true h1)))
      simp only [envL, gaL0, atoiC, itoaC, hE, h1, hn, Tryd.underlying97, go_sem, reduceCtorEq, ↓reduceIte, Nat.reduceAdd, Nat.reduceMul, Nat.reduceSub, Nat.reduceEqDiff, Nat.reduceLT, Nat.reduceBEq, Nat.reduceBNe, Nat.reduceLeDiff, Int.reduceLE, Int.reduceLT, Int.reduceToNat, Int.reduceEq, Int.reduceAdd, UInt8.reduceToNat, UInt32.reduceToNat, UInt64.reduceToNat, UInt8.reduceOfNat, UInt32.reduceOfNat, UInt64.reduceOfNat, Fin.isValue, Int.reduceSub, Int.reduceMul, Int.reduceNeg, Int.reduceMod, Int.reduceDiv, Int.reduceTDiv, Int.reduceTMod, Int.reduceBEq, Int.reduceBNe, Nat.reduceDiv, Nat.reducePow]
      all_goals omega
    | false =>
      cases h2 : decide (9999 < atoiV d) with
      | true =>
        have hn := nine_no d (.inr (.inr (.inl (of_decide_eq_true h2))))
        simp only [envL, gaL0, atoiC, itoaC, hE, h1, h2, hn, Tryd.underlying97, go_sem, reduceCtorEq, ↓reduceIte, Nat.reduceAdd, Nat.reduceMul, Nat.reduceSub, Nat.reduceEqDiff, Nat.reduceLT, Nat.reduceBEq, Nat.reduceBNe, Nat.reduceLeDiff, Int.reduceLE, Int.reduceLT, Int.reduceToNat, Int.reduceEq, Int.reduceAdd, UInt8.reduceToNat, UInt32.reduceToNat, UInt64.reduceToNat, UInt8.reduceOfNat, UInt32.reduceOfNat, UInt64.reduceOfNat, Fin.isValue, Int.reduceSub, Int.reduceMul, Int.reduceNeg, Int.reduceMod, Int.reduceDiv, Int.reduceTDiv, Int.reduceTMod, Int.reduceBEq, Int.reduceBNe, Nat.reduceDiv, Nat.reducePow]
        all_goals omega
      | false =>
        have hb : -9223372036854775808 ≤ atoiV d ∧ atoiV d ≤ 9223372036854775807 := ⟨by have := of_decide_eq_false h1; omega, by have := of_decide_eq_false h2; omega⟩
        cases h3 : (Lib.itoa (atoiV d) == d) with
        | true =>
          obtain ⟨hn, hv⟩ := nine_yes d (of_decide_eq_false h1) (of_decide_eq_false h2) (by simpa using h3)
          simp only [envL, gaL0, atoiC, itoaC, hE, h1, h2, h3, hn, hb, Tryd.underlying97, go_sem, reduceCtorEq, ↓reduceIte, Nat.reduceAdd, Nat.reduceMul, Nat.reduceSub, Nat.reduceEqDiff, Nat.reduceLT, Nat.reduceBEq, Nat.reduceBNe, Nat.reduceLeDiff, Int.reduceLE, Int.reduceLT, Int.reduceToNat, Int.reduceEq, Int.reduceAdd, UInt8.reduceToNat, UInt32.reduceToNat, UInt64.reduceToNat, UInt8.reduceOfNat, UInt32.reduceOfNat, UInt64.reduceOfNat, Fin.isValue, Int.reduceSub, Int.reduceMul, Int.reduceNeg, Int.reduceMod, Int.reduceDiv, Int.reduceTDiv, Int.reduceTMod, Int.reduceBEq, Int.reduceBNe, Nat.reduceDiv, Nat.reducePow]
          exact ⟨by omega, by rw [hv]⟩
        | false =>
          have hn := nine_no d (.inr (.inr (.inr (by simpa using h3))))
          simp only [envL, gaL0, atoiC, itoaC, hE, h1, h2, h3, hn, hb, Tryd.underlying97, go_sem, reduceCtorEq, ↓reduceIte, Nat.reduceAdd, Nat.reduceMul, Nat.reduceSub, Nat.reduceEqDiff, Nat.reduceLT, Nat.reduceBEq, Nat.reduceBNe, Nat.reduceLeDiff, Int.reduceLE, Int.reduceLT, Int.reduceToNat, Int.reduceEq, Int.reduceAdd, UInt8.reduceToNat, UInt32.reduceToNat, UInt64.reduceToNat, UInt8.reduceOfNat, UInt32.reduceOfNat, UInt64.reduceOfNat, Fin.isValue, Int.reduceSub, Int.reduceMul, Int.reduceNeg, Int.reduceMod, Int.reduceDiv, Int.reduceTDiv, Int.reduceTMod, Int.reduceBEq, Int.reduceBNe, Nat.reduceDiv, Nat.reducePow]
          all_goals omega
def linesNumberC : Con := con0 fun args => match args with
  | [.one (.str d)] => some (.tup [.one (.num (if nineOk d = true then (val d : Int) else 0)), .one (.bo (nineOk d))], [d.length ≤ 1048576])
  | _ => none
theorem linesNumberC_ok : ConOkG Tryd.prog GL 63 linesNumberC := con0_okG Tryd.func63 rfl rfl fun args res ob h hob => by
  split at h
  · injection h with h; injection h with h1 h2; subst h1; subst h2; exact linesNumber_tri _ hob.1
  · cases h
def gaL1 : Nat → Option Con := fun f => match f with
  | 59 => some cutC
  | _ => none
theorem gaL1_ok : GaOkG Tryd.prog GL gaL1 := fun f con h => by
  unfold gaL1 at h
  split at h
  · injection h with h; subst h; exact cutC_ok
  · cases h
set_option maxRecDepth 100000 in
theorem next_tri (s : List UInt8) (hs : s.length ≤ 1048576) : TriG Tryd.prog GL 29 [.one (.str s)] [] (.tup [.one (.str (nxA s)), .one (.str (nxB s)), .one (.num (nxC s))]) [] := by
  refine tri_of (envL_ok gaL1_ok 24) Tryd.func29 rfl rfl (rs := [.tmp 2, .tmp 3, .tmp 4]) rfl rfl (by simp [envL]) rfl [] ?_
  have hc := cut_eol s
  cases he : eol s with
  | none =>
    rw [he] at hc
    by_cases hl : 512 < s.length
    · have h1 : decide ((512 : Int) < s.length) = true := by simp; omega
      have e1 : nxA s = [] := by simp only [nxA, he]
      have e2 : nxB s = [] := by simp only [nxB, he]
      have e3 : nxC s = 2 := by simp only [nxC, he, hl, if_true]
      simp only [envL, gaL1, cutC, hc, h1, e1, e2, e3, go_sem, reduceCtorEq, ↓reduceIte, Nat.reduceAdd, Nat.reduceMul, Nat.reduceSub, Nat.reduceEqDiff, Nat.reduceLT, Nat.reduceBEq, Nat.reduceBNe, Nat.reduceLeDiff, Int.reduceLE, Int.reduceLT, Int.reduceToNat, Int.reduceEq, Int.reduceAdd, UInt8.reduceToNat, UInt32.reduceToNat, UInt64.reduceToNat, UInt8.reduceOfNat, UInt32.reduceOfNat, UInt64.reduceOfNat, Fin.isValue, Int.reduceSub, Int.reduceMul, Int.reduceNeg, Int.reduceMod, Int.reduceDiv, Int.reduceTDiv, Int.reduceTMod, Int.reduceBEq, Int.reduceBNe, Nat.reduceDiv, Nat.reducePow]
      omega
    · have h1 : decide ((512 : Int) < s.length) = false := by simp; omega
      have e1 : nxA s = [] := by simp only [nxA, he]
      have e2 : nxB s = [] := by simp only [nxB, he]
      have e3 : nxC s = 0 := by simp only [nxC, he, hl, if_false]
      simp only [envL, gaL1, cutC, hc, h1, e1, e2, e3, go_sem, reduceCtorEq, ↓reduceIte, Nat.reduceAdd, Nat.reduceMul, Nat.reduceSub, Nat.reduceEqDiff, Nat.reduceLT, Nat.reduceBEq, Nat.reduceBNe, Nat.reduceLeDiff, Int.reduceLE, Int.reduceLT, Int.reduceToNat, Int.reduceEq, Int.reduceAdd, UInt8.reduceToNat, UInt32.reduceToNat, UInt64.reduceToNat, UInt8.reduceOfNat, UInt32.reduceOfNat, UInt64.reduceOfNat, Fin.isValue, Int.reduceSub, Int.reduceMul, Int.reduceNeg, Int.reduceMod, Int.reduceDiv, Int.reduceTDiv, Int.reduceTMod, Int.reduceBEq, Int.reduceBNe, Nat.reduceDiv, Nat.reducePow]
      omega
  | some i =>
    rw [he] at hc
    obtain ⟨hi, _⟩ := eol_spec he
    have ht : (s.take i).length = i := by rw [List.length_take]; omega
    by_cases hl : 512 < i
    · have h1 : decide ((512 : Int) < i) = true := by simp; omega
      have e1 : nxA s = [] := by simp only [nxA, he, hl, if_true]
      have e2 : nxB s = s.drop (i + 2) := by simp only [nxB, he]
      have e3 : nxC s = 2 := by simp only [nxC, he, hl, if_true]
      simp only [envL, gaL1, cutC, hc, ht, h1, e1, e2, e3, go_sem, reduceCtorEq, ↓reduceIte, Nat.reduceAdd, Nat.reduceMul, Nat.reduceSub, Nat.reduceEqDiff, Nat.reduceLT, Nat.reduceBEq, Nat.reduceBNe, Nat.reduceLeDiff, Int.reduceLE, Int.reduceLT, Int.reduceToNat, Int.reduceEq, Int.reduceAdd, UInt8.reduceToNat, UInt32.reduceToNat, UInt64.reduceToNat, UInt8.reduceOfNat, UInt32.reduceOfNat, UInt64.reduceOfNat, Fin.isValue, Int.reduceSub, Int.reduceMul, Int.reduceNeg, Int.reduceMod, Int.reduceDiv, Int.reduceTDiv, Int.reduceTMod, Int.reduceBEq, Int.reduceBNe, Nat.reduceDiv, Nat.reducePow]
      omega
    · have h1 : decide ((512 : Int) < i) = false := by simp; omega
      have e1 : nxA s = s.take i := by simp only [nxA, he, hl, if_false]
      have e2 : nxB s = s.drop (i + 2) := by simp only [nxB, he]
      have e3 : nxC s = 1 := by simp only [nxC, he, hl, if_false]
      simp only [envL, gaL1, cutC, hc, ht, h1, e1, e2, e3, go_sem, reduceCtorEq, ↓reduceIte, Nat.reduceAdd, Nat.reduceMul, Nat.reduceSub, Nat.reduceEqDiff, Nat.reduceLT, Nat.reduceBEq, Nat.reduceBNe, Nat.reduceLeDiff, Int.reduceLE, Int.reduceLT, Int.reduceToNat, Int.reduceEq, Int.reduceAdd, UInt8.reduceToNat, UInt32.reduceToNat, UInt64.reduceToNat, UInt8.reduceOfNat, UInt32.reduceOfNat, UInt64.reduceOfNat, Fin.isValue, Int.reduceSub, Int.reduceMul, Int.reduceNeg, Int.reduceMod, Int.reduceDiv, Int.reduceTDiv, Int.reduceTMod, Int.reduceBEq, Int.reduceBNe, Nat.reduceDiv, Nat.reducePow]
      omega
def nextC : Con := con0 fun args => match args with
  | [.one (.str s)] => some (.tup [.one (.str (nxA s)), .one (.str (nxB s)), .one (.num (nxC s))], [s.length ≤ 1048576])
  | _ => none
theorem nextC_ok : ConOkG Tryd.prog GL 29 nextC := con0_okG Tryd.func29 rfl rfl fun args res ob h hob => by
  split at h
  · injection h with h; injection h with h1 h2; subst h1; subst h2; exact next_tri _ hob.1
  · cases h
def gaL2 : Nat → Option Con := fun f => match f with
  | 61 => some suffixC
  | 62 => some lastBC
  | 63 => some linesNumberC
  | _ => none
theorem gaL2_ok : GaOkG Tryd.prog GL gaL2 := fun f con h => by
  unfold gaL2 at h
  split at h
  · injection h with h; subst h; exact suffixC_ok
  · injection h with h; subst h; exact lastBC_ok
  · injection h with h; subst h; exact linesNumberC_ok
  · cases h
def liT (s : List UInt8) : List UInt8 := match litO s with
  | some (a, _) => s.take a
  | none => s
def liN (s : List UInt8) : Nat := match litO s with
  | some (_, n) => n
  | none => 0
def liB (s : List UInt8) : Bool := (litO s).isSome
theorem trim_inner (s : List UInt8) (h : Lib.hasSuffix s [125] = true) : Lib.trimSuffix s [125] = inner s := by
  unfold Lib.trimSuffix inner
  rw [if_pos h]; rfl
set_option maxRecDepth 100000 in
theorem literal_tri (s : List UInt8) (hs : s.length ≤ 1048576) : TriG Tryd.prog GL 31 [.one (.str s)] [] (.tup [.one (.str (liT s)), .one (.num (liN s)), .one (.bo (liB s))]) [] := by
  refine tri_of (envL_ok gaL2_ok 37) Tryd.func31 rfl rfl (rs := [.tmp 2, .tmp 3, .tmp 4]) rfl rfl (by simp [envL]) rfl [] ?_
  cases hsf : Lib.hasSuffix s [125] with
  | false =>
    have hl : litO s = none := by unfold litO; rw [hsf]; rfl
    have e1 : liT s = s := by simp only [liT, hl]
    have e2 : liN s = 0 := by simp only [liN, hl]
    have e3 : liB s = false := by simp only [liB, hl]; rfl
    simp only [envL, gaL2, suffixC, lastBC, linesNumberC, hsf, e1, e2, e3, go_sem, reduceCtorEq, ↓reduceIte, Nat.reduceAdd, Nat.reduceMul, Nat.reduceSub, Nat.reduceEqDiff, Nat.reduceLT, Nat.reduceBEq, Nat.reduceBNe, Nat.reduceLeDiff, Int.reduceLE, Int.reduceLT, Int.reduceToNat, Int.reduceEq, Int.reduceAdd, UInt8.reduceToNat, UInt32.reduceToNat, UInt64.reduceToNat, UInt8.reduceOfNat, UInt32.reduceOfNat, UInt64.reduceOfNat, Fin.isValue, Int.reduceSub, Int.reduceMul, Int.reduceNeg, Int.reduceMod, Int.reduceDiv, Int.reduceTDiv, Int.reduceTMod, Int.reduceBEq, Int.reduceBNe, Nat.reduceDiv, Nat.reducePow]
    omega
  | true =>
    have ht := trim_inner s hsf
    have hil : (inner s).length ≤ 1048576 := by rw [inner_len]; omega
    have hlb : lastB (inner s) 123 = lastBr (inner s) := rfl
    cases h0 : decide (lastBr (inner s) < 0) with
    | true =>
      have hl : litO s = none := by unfold litO; rw [hsf, if_pos rfl, if_pos (of_decide_eq_true h0)]
      have e1 : liT s = s := by simp only [liT, hl]
      have e2 : liN s = 0 := by simp only [liN, hl]
      have e3 : liB s = false := by simp only [liB, hl]; rfl
      simp only [envL, gaL2, suffixC, lastBC, linesNumberC, hsf, ht, hlb, h0, e1, e2, e3, go_sem, reduceCtorEq, ↓reduceIte, Nat.reduceAdd, Nat.reduceMul, Nat.reduceSub, Nat.reduceEqDiff, Nat.reduceLT, Nat.reduceBEq, Nat.reduceBNe, Nat.reduceLeDiff, Int.reduceLE, Int.reduceLT, Int.reduceToNat, Int.reduceEq, Int.reduceAdd, UInt8.reduceToNat, UInt32.reduceToNat, UInt64.reduceToNat, UInt8.reduceOfNat, UInt32.reduceOfNat, UInt64.reduceOfNat, Fin.isValue, Int.reduceSub, Int.reduceMul, Int.reduceNeg, Int.reduceMod, Int.reduceDiv, Int.reduceTDiv, Int.reduceTMod, Int.reduceBEq, Int.reduceBNe, Nat.reduceDiv, Nat.reducePow]
      omega
    | false =>
      obtain ⟨i, hi, hbi⟩ : ∃ i : Nat, i < (inner s).length ∧ lastBr (inner s) = i := by
        rcases lastBr_spec (inner s) with ⟨h, _⟩ | ⟨i, h1, h2, _⟩
        · rw [h] at h0; simp at h0
        · exact ⟨i, h1, h2⟩
      have hw : IntKind.i64.wrap ((i : Int) + 1) = ((i + 1 : Nat) : Int) := by rw [IntKind.wrap_i64]; omega
      have hdl : ((inner s).drop (i + 1)).length ≤ 1048576 := by rw [List.length_drop]; omega
      have hil2 : (inner s).length ≤ s.length := by rw [inner_len]; omega
      rw [hbi] at h0
      cases hn : nineOk ((inner s).drop (i + 1)) with
      | false =>
        have hl : litO s = none := by unfold litO; rw [hsf, if_pos rfl, hbi, if_neg (by omega), Int.toNat_natCast, hn]; rfl
        have e1 : liT s = s := by simp only [liT, hl]
        have e2 : liN s = 0 := by simp only [liN, hl]
        have e3 : liB s = false := by simp only [liB, hl]; rfl
        simp only [envL, gaL2, suffixC, lastBC, linesNumberC, hsf, ht, hlb, hbi, h0, hw, hn, e1, e2, e3, go_sem, reduceCtorEq, ↓reduceIte, Nat.reduceAdd, Nat.reduceMul, Nat.reduceSub, Nat.reduceEqDiff, Nat.reduceLT, Nat.reduceBEq, Nat.reduceBNe, Nat.reduceLeDiff, Int.reduceLE, Int.reduceLT, Int.reduceToNat, Int.reduceEq, Int.reduceAdd, UInt8.reduceToNat, UInt32.reduceToNat, UInt64.reduceToNat, UInt8.reduceOfNat, UInt32.reduceOfNat, UInt64.reduceOfNat, Fin.isValue, Int.reduceSub, Int.reduceMul, Int.reduceNeg, Int.reduceMod, Int.reduceDiv, Int.reduceTDiv, Int.reduceTMod, Int.reduceBEq, Int.reduceBNe, Nat.reduceDiv, Nat.reducePow]
        refine ⟨by omega, by omega, ⟨by omega, by omega⟩, by omega⟩
      | true =>
        have hl : litO s = some (i, val ((inner s).drop (i + 1))) := by unfold litO; rw [hsf, if_pos rfl, hbi, if_neg (by omega), Int.toNat_natCast, hn, if_pos rfl]
        have e1 : liT s = s.take i := by simp only [liT, hl]
        have e2 : liN s = val ((inner s).drop (i + 1)) := by simp only [liN, hl]
        have e3 : liB s = true := by simp only [liB, hl]; rfl
        simp only [envL, gaL2, suffixC, lastBC, linesNumberC, hsf, ht, hlb, hbi, h0, hw, hn, e1, e2, e3, go_sem, reduceCtorEq, ↓reduceIte, Nat.reduceAdd, Nat.reduceMul, Nat.reduceSub, Nat.reduceEqDiff, Nat.reduceLT, Nat.reduceBEq, Nat.reduceBNe, Nat.reduceLeDiff, Int.reduceLE, Int.reduceLT, Int.reduceToNat, Int.reduceEq, Int.reduceAdd, UInt8.reduceToNat, UInt32.reduceToNat, UInt64.reduceToNat, UInt8.reduceOfNat, UInt32.reduceOfNat, UInt64.reduceOfNat, Fin.isValue, Int.reduceSub, Int.reduceMul, Int.reduceNeg, Int.reduceMod, Int.reduceDiv, Int.reduceTDiv, Int.reduceTMod, Int.reduceBEq, Int.reduceBNe, Nat.reduceDiv, Nat.reducePow]
        refine ⟨by omega, by omega, ⟨by omega, by omega⟩, by omega, by omega, by omega⟩
def literalC : Con := con0 fun args => match args with
  | [.one (.str s)] => some (.tup [.one (.str (liT s)), .one (.num (liN s)), .one (.bo (liB s))], [s.length ≤ 1048576])
  | _ => none
theorem literalC_ok : ConOkG Tryd.prog GL 31 literalC := con0_okG Tryd.func31 rfl rfl fun args res ob h hob => by
  split at h
  · injection h with h; injection h with h1 h2; subst h1; subst h2; exact literal_tri _ hob.1
  · cases h
end Go.Proofs.YtgfcdkbbkgamnaaDoor
