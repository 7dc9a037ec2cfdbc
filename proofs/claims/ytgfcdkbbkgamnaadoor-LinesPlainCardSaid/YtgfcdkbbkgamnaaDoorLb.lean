/-
  Layer 17, by definition: a line, and what it announces.
-/
import Derived.Test.YtgfcdkbbkgamnaaDoorSz
import Derived.Test.YtgfcdkbbkgamnaaDoorLa
namespace Go.Proofs.YtgfcdkbbkgamnaaDoor
open Go Go.RowKit
set_option maxHeartbeats 4000000
set_option linter.unusedSimpArgs false
set_option linter.unusedVariables false
def gaE : Nat → Option Con := fun f => match f with
  | _ => none
theorem gaE_ok : GaOkG Tryd.prog GL gaE := fun f con h => by
  unfold gaE at h
  split at h
  · cases h
def eolV (s : List UInt8) : Int := match eol s with
  | some i => (i : Int)
  | none => -1
def rlineInv (s : List UInt8) (i : Nat) : St := ⟨[(0, .c (.one (.str s))), (3, .c (.one (.num i)))], []⟩
set_option maxRecDepth 100000 in
theorem refLine_tri (s : List UInt8) (hs : s.length ≤ 1048576) : TriG Tryd.prog GL 60 [.one (.str s)] [] (.c (.one (.num (eolV s)))) [] := by
  refine tri_of (envL_ok gaE_ok 23) Tryd.func60 rfl rfl (rs := [.tmp 2]) rfl rfl (by simp [envL]) rfl [] ?_
  simp only [envL, gaE, go_sem, reduceCtorEq, ↓reduceIte, Nat.reduceAdd, Nat.reduceMul, Nat.reduceSub, Nat.reduceEqDiff, Nat.reduceLT, Nat.reduceBEq, Nat.reduceBNe, Nat.reduceLeDiff, Int.reduceLE, Int.reduceLT, Int.reduceToNat, Int.reduceEq, Int.reduceAdd, UInt8.reduceToNat, UInt32.reduceToNat, UInt64.reduceToNat, UInt8.reduceOfNat, UInt32.reduceOfNat, UInt64.reduceOfNat, Fin.isValue, Int.reduceSub, Int.reduceMul, Int.reduceNeg, Int.reduceMod, Int.reduceDiv, Int.reduceTDiv, Int.reduceTMod, Int.reduceBEq, Int.reduceBNe, Nat.reduceDiv, Nat.reducePow]
  refine loop_inv (envL_ok gaE_ok 23) (rlineInv s) (fun i => i ≤ s.length ∧ ∀ j, j < i → ¬ (s[j]? = some 13 ∧ s[j + 1]? = some 10)) (fun i => s.length - i) 0 [] ⟨Nat.zero_le _, fun j hj => by omega⟩ ?_ ?_
  · simp only [rlineInv, go_sem, reduceCtorEq, ↓reduceIte, Nat.reduceAdd, Nat.reduceMul, Nat.reduceSub, Nat.reduceEqDiff, Nat.reduceLT, Nat.reduceBEq, Nat.reduceBNe, Nat.reduceLeDiff, Int.reduceLE, Int.reduceLT, Int.reduceToNat, Int.reduceEq, Int.reduceAdd, UInt8.reduceToNat, UInt32.reduceToNat, UInt64.reduceToNat, UInt8.reduceOfNat, UInt32.reduceOfNat, UInt64.reduceOfNat, Fin.isValue, Int.reduceSub, Int.reduceMul, Int.reduceNeg, Int.reduceMod, Int.reduceDiv, Int.reduceTDiv, Int.reduceTMod, Int.reduceBEq, Int.reduceBNe, Nat.reduceDiv, Nat.reducePow]
  · intro i hi
    have hw : IntKind.i64.wrap ((i : Int) + 1) = ((i + 1 : Nat) : Int) := by rw [IntKind.wrap_i64]; omega
    simp only [envL, gaE, rlineInv, hw, go_sem, reduceCtorEq, ↓reduceIte, Nat.reduceAdd, Nat.reduceMul, Nat.reduceSub, Nat.reduceEqDiff, Nat.reduceLT, Nat.reduceBEq, Nat.reduceBNe, Nat.reduceLeDiff, Int.reduceLE, Int.reduceLT, Int.reduceToNat, Int.reduceEq, Int.reduceAdd, UInt8.reduceToNat, UInt32.reduceToNat, UInt64.reduceToNat, UInt8.reduceOfNat, UInt32.reduceOfNat, UInt64.reduceOfNat, Fin.isValue, Int.reduceSub, Int.reduceMul, Int.reduceNeg, Int.reduceMod, Int.reduceDiv, Int.reduceTDiv, Int.reduceTMod, Int.reduceBEq, Int.reduceBNe, Nat.reduceDiv, Nat.reducePow]
    refine br (fun h => ?_) fun h => ?_
    · have hlt : i + 1 < s.length := by have := of_decide_eq_true h; omega
      have g1 := getD_get (l := s) (i := i) (by omega)
      have g2 := getD_get (l := s) (i := i + 1) hlt
      cases h1 : (s.getD i 0 == 13) with
      | false =>
        simp only [envL, gaE, hw, h1, go_sem, reduceCtorEq, ↓reduceIte, Nat.reduceAdd, Nat.reduceMul, Nat.reduceSub, Nat.reduceEqDiff, Nat.reduceLT, Nat.reduceBEq, Nat.reduceBNe, Nat.reduceLeDiff, Int.reduceLE, Int.reduceLT, Int.reduceToNat, Int.reduceEq, Int.reduceAdd, UInt8.reduceToNat, UInt32.reduceToNat, UInt64.reduceToNat, UInt8.reduceOfNat, UInt32.reduceOfNat, UInt64.reduceOfNat, Fin.isValue, Int.reduceSub, Int.reduceMul, Int.reduceNeg, Int.reduceMod, Int.reduceDiv, Int.reduceTDiv, Int.reduceTMod, Int.reduceBEq, Int.reduceBNe, Nat.reduceDiv, Nat.reducePow]
        refine ⟨⟨by omega, by omega⟩, again (i + 1) [] ⟨by omega, fun j hj => ?_⟩ (by omega) ?_⟩
        · rcases Nat.lt_or_ge j i with h' | h'
          · exact hi.2 j h'
          · have : j = i := by omega
            subst this
            rw [g1]
            intro ⟨e, _⟩
            rw [Option.some.inj e] at h1
            simp at h1
        · simp only [rlineInv, go_sem, reduceCtorEq, ↓reduceIte, Nat.reduceAdd, Nat.reduceMul, Nat.reduceSub, Nat.reduceEqDiff, Nat.reduceLT, Nat.reduceBEq, Nat.reduceBNe, Nat.reduceLeDiff, Int.reduceLE, Int.reduceLT, Int.reduceToNat, Int.reduceEq, Int.reduceAdd, UInt8.reduceToNat, UInt32.reduceToNat, UInt64.reduceToNat, UInt8.reduceOfNat, UInt32.reduceOfNat, UInt64.reduceOfNat, Fin.isValue, Int.reduceSub, Int.reduceMul, Int.reduceNeg, Int.reduceMod, Int.reduceDiv, Int.reduceTDiv, Int.reduceTMod, Int.reduceBEq, Int.reduceBNe, Nat.reduceDiv, Nat.reducePow]
      | true =>
        cases h2 : (s.getD (i + 1) 0 == 10) with
        | false =>
          simp only [envL, gaE, hw, h1, h2, go_sem, reduceCtorEq, ↓reduceIte, Nat.reduceAdd, Nat.reduceMul, Nat.reduceSub, Nat.reduceEqDiff, Nat.reduceLT, Nat.reduceBEq, Nat.reduceBNe, Nat.reduceLeDiff, Int.reduceLE, Int.reduceLT, Int.reduceToNat, Int.reduceEq, Int.reduceAdd, UInt8.reduceToNat, UInt32.reduceToNat, UInt64.reduceToNat, UInt8.reduceOfNat, UInt32.reduceOfNat, UInt64.reduceOfNat, Fin.isValue, Int.reduceSub, Int.reduceMul, Int.reduceNeg, Int.reduceMod, Int.reduceDiv, Int.reduceTDiv, Int.reduceTMod, Int.reduceBEq, Int.reduceBNe, Nat.reduceDiv, Nat.reducePow]
          refine ⟨⟨by omega, by omega⟩, ⟨by omega, by omega⟩, again (i + 1) [] ⟨by omega, fun j hj => ?_⟩ (by omega) ?_⟩
          · rcases Nat.lt_or_ge j i with h' | h'
            · exact hi.2 j h'
            · have : j = i := by omega
              subst this
              rw [g2]
              intro ⟨_, e⟩
              rw [Option.some.inj e] at h2
              simp at h2
          · simp only [rlineInv, go_sem, reduceCtorEq, ↓reduceIte, Nat.reduceAdd, Nat.reduceMul, Nat.reduceSub, Nat.reduceEqDiff, Nat.reduceLT, Nat.reduceBEq, Nat.reduceBNe, Nat.reduceLeDiff, Int.reduceLE, Int.reduceLT, Int.reduceToNat, Int.reduceEq, Int.reduceAdd, UInt8.reduceToNat, UInt32.reduceToNat, UInt64.reduceToNat, UInt8.reduceOfNat, UInt32.reduceOfNat, UInt64.reduceOfNat, Fin.isValue, Int.reduceSub, Int.reduceMul, Int.reduceNeg, Int.reduceMod, Int.reduceDiv, Int.reduceTDiv, Int.reduceTMod, Int.reduceBEq, Int.reduceBNe, Nat.reduceDiv, Nat.reducePow]
        | true =>
          have he : eol s = some i := eol_first (by rw [g1]; congr 1; simpa using h1) (by rw [g2]; congr 1; simpa using h2) hi.2
          have e1 : eolV s = i := by unfold eolV; rw [he]
          simp only [envL, gaE, hw, h1, h2, e1, go_sem, reduceCtorEq, ↓reduceIte, Nat.reduceAdd, Nat.reduceMul, Nat.reduceSub, Nat.reduceEqDiff, Nat.reduceLT, Nat.reduceBEq, Nat.reduceBNe, Nat.reduceLeDiff, Int.reduceLE, Int.reduceLT, Int.reduceToNat, Int.reduceEq, Int.reduceAdd, UInt8.reduceToNat, UInt32.reduceToNat, UInt64.reduceToNat, UInt8.reduceOfNat, UInt32.reduceOfNat, UInt64.reduceOfNat, Fin.isValue, Int.reduceSub, Int.reduceMul, Int.reduceNeg, Int.reduceMod, Int.reduceDiv, Int.reduceTDiv, Int.reduceTMod, Int.reduceBEq, Int.reduceBNe, Nat.reduceDiv, Nat.reducePow]
          exact ⟨⟨by omega, by omega⟩, by omega, by omega⟩
    · have hge : s.length ≤ i + 1 := by have := of_decide_eq_false h; omega
      have he : eol s = none := by
        cases he : eol s with
        | none => rfl
        | some k =>
          obtain ⟨k1, k2, k3, _⟩ := eol_spec he
          exact (hi.2 k (by omega) ⟨k2, k3⟩).elim
      have e1 : eolV s = -1 := by unfold eolV; rw [he]
      simp only [envL, gaE, e1, go_sem, reduceCtorEq, ↓reduceIte, Nat.reduceAdd, Nat.reduceMul, Nat.reduceSub, Nat.reduceEqDiff, Nat.reduceLT, Nat.reduceBEq, Nat.reduceBNe, Nat.reduceLeDiff, Int.reduceLE, Int.reduceLT, Int.reduceToNat, Int.reduceEq, Int.reduceAdd, UInt8.reduceToNat, UInt32.reduceToNat, UInt64.reduceToNat, UInt8.reduceOfNat, UInt32.reduceOfNat, UInt64.reduceOfNat, Fin.isValue, Int.reduceSub, Int.reduceMul, Int.reduceNeg, Int.reduceMod, Int.reduceDiv, Int.reduceTDiv, Int.reduceTMod, Int.reduceBEq, Int.reduceBNe, Nat.reduceDiv, Nat.reducePow]
def refLineC : Con := con0 fun args => match args with
  | [.one (.str s)] => some (.c (.one (.num (eolV s))), [s.length ≤ 1048576])
  | _ => none
theorem refLineC_ok : ConOkG Tryd.prog GL 60 refLineC := con0_okG Tryd.func60 rfl rfl fun args res ob h hob => by
  split at h
  · injection h with h; injection h with h1 h2; subst h1; subst h2; exact refLine_tri _ hob.1
  · cases h
def gaM1 : Nat → Option Con := fun f => match f with
  | 60 => some refLineC
  | _ => none
theorem gaM1_ok : GaOkG Tryd.prog GL gaM1 := fun f con h => by
  unfold gaM1 at h
  split at h
  · injection h with h; subst h; exact refLineC_ok
  · cases h
set_option maxRecDepth 100000 in
theorem refNext_tri (s : List UInt8) (hs : s.length ≤ 1048576) : TriG Tryd.prog GL 30 [.one (.str s)] [] (.tup [.one (.str (nxA s)), .one (.str (nxB s)), .one (.num (nxC s))]) [] := by
  refine tri_of (envL_ok gaM1_ok 26) Tryd.func30 rfl rfl (rs := [.tmp 2, .tmp 3, .tmp 4]) rfl rfl (by simp [envL]) rfl [] ?_
  cases he : eol s with
  | none =>
    have e0 : eolV s = -1 := by unfold eolV; rw [he]
    by_cases hl : 512 < s.length
    · have h1 : decide ((512 : Int) < s.length) = true := by simp; omega
      have e1 : nxA s = [] := by simp only [nxA, he]
      have e2 : nxB s = [] := by simp only [nxB, he]
      have e3 : nxC s = 2 := by simp only [nxC, he, hl, if_true]
      simp only [envL, gaM1, refLineC, e0, h1, e1, e2, e3, go_sem, reduceCtorEq, ↓reduceIte, Nat.reduceAdd, Nat.reduceMul, Nat.reduceSub, Nat.reduceEqDiff, Nat.reduceLT, Nat.reduceBEq, Nat.reduceBNe, Nat.reduceLeDiff, Int.reduceLE, Int.reduceLT, Int.reduceToNat, Int.reduceEq, Int.reduceAdd, UInt8.reduceToNat, UInt32.reduceToNat, UInt64.reduceToNat, UInt8.reduceOfNat, UInt32.reduceOfNat, UInt64.reduceOfNat, Fin.isValue, Int.reduceSub, Int.reduceMul, Int.reduceNeg, Int.reduceMod, Int.reduceDiv, Int.reduceTDiv, Int.reduceTMod, Int.reduceBEq, Int.reduceBNe, Nat.reduceDiv, Nat.reducePow]
      ((repeat' apply And.intro) <;> first | omega | exact rfl | exact id)
    · have h1 : decide ((512 : Int) < s.length) = false := by simp; omega
      have e1 : nxA s = [] := by simp only [nxA, he]
      have e2 : nxB s = [] := by simp only [nxB, he]
      have e3 : nxC s = 0 := by simp only [nxC, he, hl, if_false]
      simp only [envL, gaM1, refLineC, e0, h1, e1, e2, e3, go_sem, reduceCtorEq, ↓reduceIte, Nat.reduceAdd, Nat.reduceMul, Nat.reduceSub, Nat.reduceEqDiff, Nat.reduceLT, Nat.reduceBEq, Nat.reduceBNe, Nat.reduceLeDiff, Int.reduceLE, Int.reduceLT, Int.reduceToNat, Int.reduceEq, Int.reduceAdd, UInt8.reduceToNat, UInt32.reduceToNat, UInt64.reduceToNat, UInt8.reduceOfNat, UInt32.reduceOfNat, UInt64.reduceOfNat, Fin.isValue, Int.reduceSub, Int.reduceMul, Int.reduceNeg, Int.reduceMod, Int.reduceDiv, Int.reduceTDiv, Int.reduceTMod, Int.reduceBEq, Int.reduceBNe, Nat.reduceDiv, Nat.reducePow]
      ((repeat' apply And.intro) <;> first | omega | exact rfl | exact id)
  | some i =>
    have e0 : eolV s = i := by unfold eolV; rw [he]
    obtain ⟨hi, _⟩ := eol_spec he
    have h0 : decide ((i : Int) < 0) = false := decide_eq_false (by omega)
    have hw : IntKind.i64.wrap ((i : Int) + 2) = ((i + 2 : Nat) : Int) := by rw [IntKind.wrap_i64]; omega
    by_cases hl : 512 < i
    · have h1 : decide ((512 : Int) < i) = true := by simp; omega
      have e1 : nxA s = [] := by simp only [nxA, he, hl, if_true]
      have e2 : nxB s = s.drop (i + 2) := by simp only [nxB, he]
      have e3 : nxC s = 2 := by simp only [nxC, he, hl, if_true]
      simp only [envL, gaM1, refLineC, e0, h0, hw, h1, e1, e2, e3, go_sem, reduceCtorEq, ↓reduceIte, Nat.reduceAdd, Nat.reduceMul, Nat.reduceSub, Nat.reduceEqDiff, Nat.reduceLT, Nat.reduceBEq, Nat.reduceBNe, Nat.reduceLeDiff, Int.reduceLE, Int.reduceLT, Int.reduceToNat, Int.reduceEq, Int.reduceAdd, UInt8.reduceToNat, UInt32.reduceToNat, UInt64.reduceToNat, UInt8.reduceOfNat, UInt32.reduceOfNat, UInt64.reduceOfNat, Fin.isValue, Int.reduceSub, Int.reduceMul, Int.reduceNeg, Int.reduceMod, Int.reduceDiv, Int.reduceTDiv, Int.reduceTMod, Int.reduceBEq, Int.reduceBNe, Nat.reduceDiv, Nat.reducePow]
      ((repeat' apply And.intro) <;> first | omega | exact rfl | exact id)
    · have h1 : decide ((512 : Int) < i) = false := by simp; omega
      have e1 : nxA s = s.take i := by simp only [nxA, he, hl, if_false]
      have e2 : nxB s = s.drop (i + 2) := by simp only [nxB, he]
      have e3 : nxC s = 1 := by simp only [nxC, he, hl, if_false]
      simp only [envL, gaM1, refLineC, e0, h0, hw, h1, e1, e2, e3, go_sem, reduceCtorEq, ↓reduceIte, Nat.reduceAdd, Nat.reduceMul, Nat.reduceSub, Nat.reduceEqDiff, Nat.reduceLT, Nat.reduceBEq, Nat.reduceBNe, Nat.reduceLeDiff, Int.reduceLE, Int.reduceLT, Int.reduceToNat, Int.reduceEq, Int.reduceAdd, UInt8.reduceToNat, UInt32.reduceToNat, UInt64.reduceToNat, UInt8.reduceOfNat, UInt32.reduceOfNat, UInt64.reduceOfNat, Fin.isValue, Int.reduceSub, Int.reduceMul, Int.reduceNeg, Int.reduceMod, Int.reduceDiv, Int.reduceTDiv, Int.reduceTMod, Int.reduceBEq, Int.reduceBNe, Nat.reduceDiv, Nat.reducePow]
      ((repeat' apply And.intro) <;> first | omega | exact rfl | exact id)
def refNextC : Con := con0 fun args => match args with
  | [.one (.str s)] => some (.tup [.one (.str (nxA s)), .one (.str (nxB s)), .one (.num (nxC s))], [s.length ≤ 1048576])
  | _ => none
theorem refNextC_ok : ConOkG Tryd.prog GL 30 refNextC := con0_okG Tryd.func30 rfl rfl fun args res ob h hob => by
  split at h
  · injection h with h; injection h with h1 h2; subst h1; subst h2; exact refNext_tri _ hob.1
  · cases h
def refLV (s : List UInt8) : Int := match litO s with
  | some (_, n) => (n : Int)
  | none => -1
def refLA (s : List UInt8) : Nat := match litO s with
  | some (a, _) => a
  | none => 0
def rlitInv (s : List UInt8) : Nat → St
  | 0 => ⟨[(0, .c (.one (.str s))), (4, .c (.one (.num (-1))))], []⟩
  | k + 1 => ⟨[(0, .c (.one (.str s))), (4, .c (.one (.num (k : Nat))))], []⟩
def rvalInv (s : List UInt8) (k j : Nat) : St := ⟨[(0, .c (.one (.str s))), (4, .c (.one (.num (k : Nat)))), (6, .c (.one (.num (val ((digsAt s k).take j))))), (7, .c (.one (.num (k + 1 + j : Nat))))], []⟩
theorem isDig_u8 (c : UInt8) : isDig c = (decide (48 ≤ c) && decide (c ≤ 57)) := by
  unfold isDig
  simp only [UInt8.le_iff_toNat_le]
  rfl
theorem sub48 (c : UInt8) (h : isDig c = true) : (c - 48).toNat = c.toNat - 48 := by
  have := dig_of c h
  rw [UInt8.toNat_sub_of_le _ _ (by rw [UInt8.le_iff_toNat_le]; exact this.1)]
  rfl
set_option maxRecDepth 100000 in
theorem refLiteral_tri (s : List UInt8) (hs : s.length ≤ 9223372036854775807) : TriG Tryd.prog GL 32 [.one (.str s)] [] (.tup [.one (.num (refLV s)), .one (.num (refLA s))]) [] := by
  refine tri_of (envL_ok gaE_ok 89) Tryd.func32 rfl rfl (rs := [.tmp 2, .tmp 3]) rfl rfl (by simp [envL]) rfl [] ?_
  have none_of : litO s = none → refLV s = -1 ∧ refLA s = 0 := fun h => by unfold refLV refLA; rw [h]; exact ⟨rfl, rfl⟩
  have w1 : IntKind.i64.wrap ((s.length : Int) - 1) = (s.length : Int) - 1 := by rw [IntKind.wrap_i64]; omega
  have w2 : IntKind.i64.wrap ((s.length : Int) - 2) = (s.length : Int) - 2 := by rw [IntKind.wrap_i64]; omega
  cases h3 : decide ((s.length : Int) < 3) with
  | true =>
    have hl : litO s = none := litO_none fun p d h => by
      cases hn : nineOk d with
      | false => rfl
      | true =>
        exfalso
        have hd := (nine_all hn).2.1
        have : 0 < d.length := by cases d with | nil => exact (hd rfl).elim | cons _ _ => simp
        have h' := of_decide_eq_true h3
        rw [h] at h'
        simp at h'
        omega
    simp only [envL, gaE, h3, (none_of hl).1, (none_of hl).2, go_sem, reduceCtorEq, ↓reduceIte, Nat.reduceAdd, Nat.reduceMul, Nat.reduceSub, Nat.reduceEqDiff, Nat.reduceLT, Nat.reduceBEq, Nat.reduceBNe, Nat.reduceLeDiff, Int.reduceLE, Int.reduceLT, Int.reduceToNat, Int.reduceEq, Int.reduceAdd, UInt8.reduceToNat, UInt32.reduceToNat, UInt64.reduceToNat, UInt8.reduceOfNat, UInt32.reduceOfNat, UInt64.reduceOfNat, Fin.isValue, Int.reduceSub, Int.reduceMul, Int.reduceNeg, Int.reduceMod, Int.reduceDiv, Int.reduceTDiv, Int.reduceTMod, Int.reduceBEq, Int.reduceBNe, Nat.reduceDiv, Nat.reducePow]
  | false =>
    obtain ⟨m, hm⟩ : ∃ m, s.length = m + 3 := ⟨s.length - 3, by have := of_decide_eq_false h3; omega⟩
    have t1 : ((s.length : Int) - 1).toNat = m + 2 := by omega
    have hm1 : s.length - 1 = m + 2 := by omega
    cases hc : (s.getD (m + 2) 0 == 125) with
    | false =>
      have hl : litO s = none := litO_none fun p d h => by
        exfalso
        rw [← hm1, h] at hc
        simp [List.getD_eq_getElem?_getD] at hc
      simp only [envL, gaE, h3, w1, t1, hc, (none_of hl).1, (none_of hl).2, go_sem, reduceCtorEq, ↓reduceIte, Nat.reduceAdd, Nat.reduceMul, Nat.reduceSub, Nat.reduceEqDiff, Nat.reduceLT, Nat.reduceBEq, Nat.reduceBNe, Nat.reduceLeDiff, Int.reduceLE, Int.reduceLT, Int.reduceToNat, Int.reduceEq, Int.reduceAdd, UInt8.reduceToNat, UInt32.reduceToNat, UInt64.reduceToNat, UInt8.reduceOfNat, UInt32.reduceOfNat, UInt64.reduceOfNat, Fin.isValue, Int.reduceSub, Int.reduceMul, Int.reduceNeg, Int.reduceMod, Int.reduceDiv, Int.reduceTDiv, Int.reduceTMod, Int.reduceBEq, Int.reduceBNe, Nat.reduceDiv, Nat.reducePow]
      ((repeat' apply And.intro) <;> first | omega | exact rfl | exact id)
    | true =>
      have hc' : s.getD (s.length - 1) 0 = 125 := by rw [hm1]; simpa using hc
      have w2' : IntKind.i64.wrap ((s.length : Int) - 2) = ((m + 1 : Nat) : Int) := by rw [IntKind.wrap_i64]; omega
      simp only [envL, gaE, h3, w1, w2', t1, hc, go_sem, reduceCtorEq, ↓reduceIte, Nat.reduceAdd, Nat.reduceMul, Nat.reduceSub, Nat.reduceEqDiff, Nat.reduceLT, Nat.reduceBEq, Nat.reduceBNe, Nat.reduceLeDiff, Int.reduceLE, Int.reduceLT, Int.reduceToNat, Int.reduceEq, Int.reduceAdd, UInt8.reduceToNat, UInt32.reduceToNat, UInt64.reduceToNat, UInt8.reduceOfNat, UInt32.reduceOfNat, UInt64.reduceOfNat, Fin.isValue, Int.reduceSub, Int.reduceMul, Int.reduceNeg, Int.reduceMod, Int.reduceDiv, Int.reduceTDiv, Int.reduceTMod, Int.reduceBEq, Int.reduceBNe, Nat.reduceDiv, Nat.reducePow]
      refine ⟨⟨by omega, by omega⟩, ?_⟩
      refine loop_inv (envL_ok gaE_ok 89) (rlitInv s) (fun k => k ≤ m + 2 ∧ ∀ i, k ≤ i → i < s.length - 1 → isDig (s.getD i 0) = true) (fun k => k) (m + 2) [] ⟨Nat.le_refl _, fun i h1 h2 => by omega⟩ ?_ ?_
      · simp only [rlitInv, go_sem, reduceCtorEq, ↓reduceIte, Nat.reduceAdd, Nat.reduceMul, Nat.reduceSub, Nat.reduceEqDiff, Nat.reduceLT, Nat.reduceBEq, Nat.reduceBNe, Nat.reduceLeDiff, Int.reduceLE, Int.reduceLT, Int.reduceToNat, Int.reduceEq, Int.reduceAdd, UInt8.reduceToNat, UInt32.reduceToNat, UInt64.reduceToNat, UInt8.reduceOfNat, UInt32.reduceOfNat, UInt64.reduceOfNat, Fin.isValue, Int.reduceSub, Int.reduceMul, Int.reduceNeg, Int.reduceMod, Int.reduceDiv, Int.reduceTDiv, Int.reduceTMod, Int.reduceBEq, Int.reduceBNe, Nat.reduceDiv, Nat.reducePow]
      · intro k hk
        rcases k with _ | k
        · have hl := lit_stop s 0 (Nat.zero_le _) hk.2 (.inl rfl)
          have w3 : IntKind.i64.wrap (((m + 1 : Nat) : Int) - -1) = ((m + 2 : Nat) : Int) := by rw [IntKind.wrap_i64]; omega
          simp only [envL, gaE, rlitInv, w2', w3, (none_of hl).1, (none_of hl).2, go_sem, reduceCtorEq, ↓reduceIte, Nat.reduceAdd, Nat.reduceMul, Nat.reduceSub, Nat.reduceEqDiff, Nat.reduceLT, Nat.reduceBEq, Nat.reduceBNe, Nat.reduceLeDiff, Int.reduceLE, Int.reduceLT, Int.reduceToNat, Int.reduceEq, Int.reduceAdd, UInt8.reduceToNat, UInt32.reduceToNat, UInt64.reduceToNat, UInt8.reduceOfNat, UInt32.reduceOfNat, UInt64.reduceOfNat, Fin.isValue, Int.reduceSub, Int.reduceMul, Int.reduceNeg, Int.reduceMod, Int.reduceDiv, Int.reduceTDiv, Int.reduceTMod, Int.reduceBEq, Int.reduceBNe, Nat.reduceDiv, Nat.reducePow]
        · have hkm : k ≤ m + 1 := by omega
          have a0 : decide ((0 : Int) ≤ (k : Int)) = true := decide_eq_true (by omega)
          have a0' : decide ((k : Int) < 0) = false := decide_eq_false (by omega)
          have hg : (0 : Int) ≤ (k : Int) ∧ (k : Int) < (s.length : Int) := ⟨by omega, by omega⟩
          have w3 : IntKind.i64.wrap (((m + 1 : Nat) : Int) - (k : Int)) = ((m + 1 - k : Nat) : Int) := by rw [IntKind.wrap_i64]; omega
          have hstop : ∀ (hd : isDig (s.getD k 0) = false), s.getD k 0 ≠ 123 → litO s = none := fun hd hne => lit_stop s (k + 1) (by omega) hk.2 (.inr ⟨k, rfl, hd, hne⟩)
          have hdd := isDig_u8 (s.getD k 0)
          cases h48 : decide (48 ≤ s.getD k 0) with
          | false =>
            have hne : s.getD k 0 ≠ 123 := fun e => by rw [e] at h48; simp at h48
            have hnb : (s.getD k 0 == 123) = false := by simpa using hne
            have hl := hstop (by rw [hdd, h48]; rfl) hne
            simp only [envL, gaE, rlitInv, a0, a0', w2', w3, h48, hnb, hg, (none_of hl).1, (none_of hl).2, go_sem, reduceCtorEq, ↓reduceIte, Nat.reduceAdd, Nat.reduceMul, Nat.reduceSub, Nat.reduceEqDiff, Nat.reduceLT, Nat.reduceBEq, Nat.reduceBNe, Nat.reduceLeDiff, Int.reduceLE, Int.reduceLT, Int.reduceToNat, Int.reduceEq, Int.reduceAdd, UInt8.reduceToNat, UInt32.reduceToNat, UInt64.reduceToNat, UInt8.reduceOfNat, UInt32.reduceOfNat, UInt64.reduceOfNat, Fin.isValue, Int.reduceSub, Int.reduceMul, Int.reduceNeg, Int.reduceMod, Int.reduceDiv, Int.reduceTDiv, Int.reduceTMod, Int.reduceBEq, Int.reduceBNe, Nat.reduceDiv, Nat.reducePow]
          | true =>
            cases h57 : decide (s.getD k 0 ≤ 57) with
            | true =>
              have hd : isDig (s.getD k 0) = true := by rw [hdd, h48, h57]; rfl
              have hk' : k ≤ m + 2 ∧ ∀ i, k ≤ i → i < s.length - 1 → isDig (s.getD i 0) = true := ⟨by omega, fun i h1 h2 => by
                rcases Nat.lt_or_ge k i with h | h
                · exact hk.2 i h h2
                · rw [show i = k by omega]; exact hd⟩
              have w4 : IntKind.i64.wrap ((k : Int) - 1) = (k : Int) - 1 := by rw [IntKind.wrap_i64]; omega
              simp only [envL, gaE, rlitInv, a0, w4, h48, h57, hg, go_sem, reduceCtorEq, ↓reduceIte, Nat.reduceAdd, Nat.reduceMul, Nat.reduceSub, Nat.reduceEqDiff, Nat.reduceLT, Nat.reduceBEq, Nat.reduceBNe, Nat.reduceLeDiff, Int.reduceLE, Int.reduceLT, Int.reduceToNat, Int.reduceEq, Int.reduceAdd, UInt8.reduceToNat, UInt32.reduceToNat, UInt64.reduceToNat, UInt8.reduceOfNat, UInt32.reduceOfNat, UInt64.reduceOfNat, Fin.isValue, Int.reduceSub, Int.reduceMul, Int.reduceNeg, Int.reduceMod, Int.reduceDiv, Int.reduceTDiv, Int.reduceTMod, Int.reduceBEq, Int.reduceBNe, Nat.reduceDiv, Nat.reducePow]
              refine again k [] hk' (by omega) ?_
              rcases k with _ | k
              · simp only [rlitInv, go_sem, reduceCtorEq, ↓reduceIte, Nat.reduceAdd, Nat.reduceMul, Nat.reduceSub, Nat.reduceEqDiff, Nat.reduceLT, Nat.reduceBEq, Nat.reduceBNe, Nat.reduceLeDiff, Int.reduceLE, Int.reduceLT, Int.reduceToNat, Int.reduceEq, Int.reduceAdd, UInt8.reduceToNat, UInt32.reduceToNat, UInt64.reduceToNat, UInt8.reduceOfNat, UInt32.reduceOfNat, UInt64.reduceOfNat, Fin.isValue, Int.reduceSub, Int.reduceMul, Int.reduceNeg, Int.reduceMod, Int.reduceDiv, Int.reduceTDiv, Int.reduceTMod, Int.reduceBEq, Int.reduceBNe, Nat.reduceDiv, Nat.reducePow]
              · have w5 : ((k + 1 : Nat) : Int) - 1 = (k : Int) := by omega
                simp only [rlitInv, w5, go_sem, reduceCtorEq, ↓reduceIte, Nat.reduceAdd, Nat.reduceMul, Nat.reduceSub, Nat.reduceEqDiff, Nat.reduceLT, Nat.reduceBEq, Nat.reduceBNe, Nat.reduceLeDiff, Int.reduceLE, Int.reduceLT, Int.reduceToNat, Int.reduceEq, Int.reduceAdd, UInt8.reduceToNat, UInt32.reduceToNat, UInt64.reduceToNat, UInt8.reduceOfNat, UInt32.reduceOfNat, UInt64.reduceOfNat, Fin.isValue, Int.reduceSub, Int.reduceMul, Int.reduceNeg, Int.reduceMod, Int.reduceDiv, Int.reduceTDiv, Int.reduceTMod, Int.reduceBEq, Int.reduceBNe, Nat.reduceDiv, Nat.reducePow]
            | false =>
              have hd : isDig (s.getD k 0) = false := by rw [hdd, h48, h57]; rfl
              cases hb : (s.getD k 0 == 123) with
              | false =>
                have hl := hstop hd (by simpa using hb)
                simp only [envL, gaE, rlitInv, a0, a0', w2', w3, h48, h57, hb, hg, (none_of hl).1, (none_of hl).2, go_sem, reduceCtorEq, ↓reduceIte, Nat.reduceAdd, Nat.reduceMul, Nat.reduceSub, Nat.reduceEqDiff, Nat.reduceLT, Nat.reduceBEq, Nat.reduceBNe, Nat.reduceLeDiff, Int.reduceLE, Int.reduceLT, Int.reduceToNat, Int.reduceEq, Int.reduceAdd, UInt8.reduceToNat, UInt32.reduceToNat, UInt64.reduceToNat, UInt8.reduceOfNat, UInt32.reduceOfNat, UInt64.reduceOfNat, Fin.isValue, Int.reduceSub, Int.reduceMul, Int.reduceNeg, Int.reduceMod, Int.reduceDiv, Int.reduceTDiv, Int.reduceTMod, Int.reduceBEq, Int.reduceBNe, Nat.reduceDiv, Nat.reducePow]
              | true =>
                have hb' : s.getD k 0 = 123 := by simpa using hb
                have hkl : k < s.length - 1 := by
                  rcases Nat.lt_or_ge k (s.length - 1) with h | h
                  · exact h
                  · have : k = m + 2 := by omega
                    omega
                have hl := lit_at s k hc' hkl hk.2 hb'
                have hda := digsAt_all s k hk.2
                have hdl := digsAt_len s k
                have hni := nine_iff hda
                have hml : (digsAt s k).length = m + 1 - k := by rw [hdl]; omega
                rw [hml] at hni
                have w6 : IntKind.i64.wrap ((k : Int) + 1) = ((k + 1 : Nat) : Int) := by rw [IntKind.wrap_i64]; omega
                cases b1 : decide (((m + 1 - k : Nat) : Int) < 1) with
                | true =>
                  have hn : nineOk (digsAt s k) = false := by
                    rw [hni]; have := of_decide_eq_true b1; rw [show decide (1 ≤ m + 1 - k) = false from decide_eq_false (by omega)]; rfl
                  rw [hn] at hl
                  have hl : litO s = none := hl
                  simp only [envL, gaE, rlitInv, a0, a0', w2', w3, h48, h57, hb, hg, b1, (none_of hl).1, (none_of hl).2, go_sem, reduceCtorEq, ↓reduceIte, Nat.reduceAdd, Nat.reduceMul, Nat.reduceSub, Nat.reduceEqDiff, Nat.reduceLT, Nat.reduceBEq, Nat.reduceBNe, Nat.reduceLeDiff, Int.reduceLE, Int.reduceLT, Int.reduceToNat, Int.reduceEq, Int.reduceAdd, UInt8.reduceToNat, UInt32.reduceToNat, UInt64.reduceToNat, UInt8.reduceOfNat, UInt32.reduceOfNat, UInt64.reduceOfNat, Fin.isValue, Int.reduceSub, Int.reduceMul, Int.reduceNeg, Int.reduceMod, Int.reduceDiv, Int.reduceTDiv, Int.reduceTMod, Int.reduceBEq, Int.reduceBNe, Nat.reduceDiv, Nat.reducePow]
                | false =>
                  cases b2 : decide ((4 : Int) < ((m + 1 - k : Nat) : Int)) with
                  | true =>
                    have hn : nineOk (digsAt s k) = false := by
                      rw [hni]; have := of_decide_eq_true b2; rw [show decide (m + 1 - k ≤ 4) = false from decide_eq_false (by omega), Bool.and_false, Bool.false_and]
                    rw [hn] at hl
                    have hl : litO s = none := hl
                    simp only [envL, gaE, rlitInv, a0, a0', w2', w3, h48, h57, hb, hg, b1, b2, (none_of hl).1, (none_of hl).2, go_sem, reduceCtorEq, ↓reduceIte, Nat.reduceAdd, Nat.reduceMul, Nat.reduceSub, Nat.reduceEqDiff, Nat.reduceLT, Nat.reduceBEq, Nat.reduceBNe, Nat.reduceLeDiff, Int.reduceLE, Int.reduceLT, Int.reduceToNat, Int.reduceEq, Int.reduceAdd, UInt8.reduceToNat, UInt32.reduceToNat, UInt64.reduceToNat, UInt8.reduceOfNat, UInt32.reduceOfNat, UInt64.reduceOfNat, Fin.isValue, Int.reduceSub, Int.reduceMul, Int.reduceNeg, Int.reduceMod, Int.reduceDiv, Int.reduceTDiv, Int.reduceTMod, Int.reduceBEq, Int.reduceBNe, Nat.reduceDiv, Nat.reducePow]
                  | false =>
                    have b1' := of_decide_eq_false b1
                    have b2' := of_decide_eq_false b2
                    have hhd : (digsAt s k).head? = some (s.getD (k + 1) 0) := by
                      rw [List.head?_eq_getElem?, digsAt_get s k 0 (by omega)]
                    have n1 : decide (1 ≤ m + 1 - k) = true := decide_eq_true (by omega)
                    have n2 : decide (m + 1 - k ≤ 4) = true := decide_eq_true (by omega)
                    have hg1 : (0 : Int) ≤ ((k + 1 : Nat) : Int) ∧ ((k + 1 : Nat) : Int) < (s.length : Int) := ⟨by omega, by omega⟩
                    cases b34 : (decide ((1 : Int) < ((m + 1 - k : Nat) : Int)) && (s.getD (k + 1) 0 == 48)) with
                    | true =>
                      simp only [Bool.and_eq_true] at b34
                      obtain ⟨b3, b4⟩ := b34
                      have hn : nineOk (digsAt s k) = false := by
                        rw [hni, hhd, n1, n2, show decide (1 < m + 1 - k) = true from decide_eq_true (by have := of_decide_eq_true b3; omega)]
                        simp only [beq_iff_eq] at b4
                        rw [b4]; rfl
                      rw [hn] at hl
                      have hl : litO s = none := hl
                      simp only [envL, gaE, rlitInv, a0, a0', w2', w3, w6, h48, h57, hb, hg, hg1, b1, b2, b3, b4, (none_of hl).1, (none_of hl).2, go_sem, reduceCtorEq, ↓reduceIte, Nat.reduceAdd, Nat.reduceMul, Nat.reduceSub, Nat.reduceEqDiff, Nat.reduceLT, Nat.reduceBEq, Nat.reduceBNe, Nat.reduceLeDiff, Int.reduceLE, Int.reduceLT, Int.reduceToNat, Int.reduceEq, Int.reduceAdd, UInt8.reduceToNat, UInt32.reduceToNat, UInt64.reduceToNat, UInt8.reduceOfNat, UInt32.reduceOfNat, UInt64.reduceOfNat, Fin.isValue, Int.reduceSub, Int.reduceMul, Int.reduceNeg, Int.reduceMod, Int.reduceDiv, Int.reduceTDiv, Int.reduceTMod, Int.reduceBEq, Int.reduceBNe, Nat.reduceDiv, Nat.reducePow]
                    | false =>
                      have hn : nineOk (digsAt s k) = true := by
                        rw [hni, hhd, n1, n2]
                        rw [Bool.and_eq_false_iff] at b34
                        rcases b34 with h | h
                        · have := of_decide_eq_false h
                          rw [show decide (1 < m + 1 - k) = false from decide_eq_false (by omega)]; rfl
                        · have : ¬ (some (s.getD (k + 1) 0) = some 48) := fun e => by rw [Option.some.inj e] at h; simp at h
                          rw [decide_eq_false this]; simp
                      rw [hn] at hl
                      have hl : litO s = some (k, val (digsAt s k)) := hl
                      have e1 : refLV s = (val (digsAt s k) : Int) := by unfold refLV; rw [hl]
                      have e2 : refLA s = k := by unfold refLA; rw [hl]
                      have hvb : ∀ j, val ((digsAt s k).take j) < 10000 := fun j => by
                        have hlt := val_lt ((digsAt s k).take j) (List.all_eq_true.2 fun c hc => List.all_eq_true.1 hda c (List.mem_of_mem_take hc))
                        exact Nat.lt_of_lt_of_le hlt (show 10 ^ _ ≤ 10 ^ 4 from Nat.pow_le_pow_right (by decide) (by rw [List.length_take, hml]; omega))
                      have hv0 : ((val ((digsAt s k).take 0) : Nat) : Int) = 0 := by rw [List.take_zero]; rfl
                      rw [Bool.and_eq_false_iff] at b34
                      have hgo : (decide ((1 : Int) < ((m + 1 - k : Nat) : Int)) = false) ∨ (decide ((1 : Int) < ((m + 1 - k : Nat) : Int)) = true ∧ (s.getD (k + 1) 0 == 48) = false) := by
                        rcases b34 with h | h
                        · exact .inl h
                        · cases h' : decide ((1 : Int) < ((m + 1 - k : Nat) : Int)) with
                          | false => exact .inl rfl
                          | true => exact .inr ⟨rfl, h⟩
                      rcases hgo with b3 | ⟨b3, b4⟩
                      · simp only [envL, gaE, rlitInv, a0, a0', w2', w3, w6, h48, h57, hb, hg, b1, b2, b3, go_sem, reduceCtorEq, ↓reduceIte, Nat.reduceAdd, Nat.reduceMul, Nat.reduceSub, Nat.reduceEqDiff, Nat.reduceLT, Nat.reduceBEq, Nat.reduceBNe, Nat.reduceLeDiff, Int.reduceLE, Int.reduceLT, Int.reduceToNat, Int.reduceEq, Int.reduceAdd, UInt8.reduceToNat, UInt32.reduceToNat, UInt64.reduceToNat, UInt8.reduceOfNat, UInt32.reduceOfNat, UInt64.reduceOfNat, Fin.isValue, Int.reduceSub, Int.reduceMul, Int.reduceNeg, Int.reduceMod, Int.reduceDiv, Int.reduceTDiv, Int.reduceTMod, Int.reduceBEq, Int.reduceBNe, Nat.reduceDiv, Nat.reducePow]
                        refine loop_inv (envL_ok gaE_ok 89) (rvalInv s k) (fun j => j ≤ m + 1 - k) (fun j => m + 1 - k - j) 0 [] (Nat.zero_le _) ?_ ?_
                        · simp only [rvalInv, Nat.add_zero, go_sem, reduceCtorEq, ↓reduceIte, Nat.reduceAdd, Nat.reduceMul, Nat.reduceSub, Nat.reduceEqDiff, Nat.reduceLT, Nat.reduceBEq, Nat.reduceBNe, Nat.reduceLeDiff, Int.reduceLE, Int.reduceLT, Int.reduceToNat, Int.reduceEq, Int.reduceAdd, UInt8.reduceToNat, UInt32.reduceToNat, UInt64.reduceToNat, UInt8.reduceOfNat, UInt32.reduceOfNat, UInt64.reduceOfNat, Fin.isValue, Int.reduceSub, Int.reduceMul, Int.reduceNeg, Int.reduceMod, Int.reduceDiv, Int.reduceTDiv, Int.reduceTMod, Int.reduceBEq, Int.reduceBNe, Nat.reduceDiv, Nat.reducePow]
                          rfl
                        · intro j hj
                          have w7 : IntKind.i64.wrap ((s.length : Int) - 1) = ((m + 2 : Nat) : Int) := by rw [IntKind.wrap_i64]; omega
                          simp only [envL, gaE, rvalInv, w7, go_sem, reduceCtorEq, ↓reduceIte, Nat.reduceAdd, Nat.reduceMul, Nat.reduceSub, Nat.reduceEqDiff, Nat.reduceLT, Nat.reduceBEq, Nat.reduceBNe, Nat.reduceLeDiff, Int.reduceLE, Int.reduceLT, Int.reduceToNat, Int.reduceEq, Int.reduceAdd, UInt8.reduceToNat, UInt32.reduceToNat, UInt64.reduceToNat, UInt8.reduceOfNat, UInt32.reduceOfNat, UInt64.reduceOfNat, Fin.isValue, Int.reduceSub, Int.reduceMul, Int.reduceNeg, Int.reduceMod, Int.reduceDiv, Int.reduceTDiv, Int.reduceTMod, Int.reduceBEq, Int.reduceBNe, Nat.reduceDiv, Nat.reducePow]
                          refine br (fun h => ?_) fun h => ?_
                          · have hlt : j < m + 1 - k := by have := of_decide_eq_true h; omega
                            have hcd := hk.2 (k + 1 + j) (by omega) (by omega)
                            have hs8 := sub48 _ hcd
                            have hd8 := dig_of _ hcd
                            have htk : (digsAt s k).take (j + 1) = (digsAt s k).take j ++ [s.getD (k + 1 + j) 0] := by
                              rw [List.take_add_one, digsAt_get s k j (by omega)]; rfl
                            have hv := hvb j
                            have w8 : IntKind.i64.wrap (10 * (val ((digsAt s k).take j) : Int)) = ((10 * val ((digsAt s k).take j) : Nat) : Int) := by rw [IntKind.wrap_i64]; omega
                            have w9 : IntKind.i64.wrap (((10 * val ((digsAt s k).take j) : Nat) : Int) + (((s.getD (k + 1 + j) 0).toNat - 48 : Nat) : Int)) = ((val ((digsAt s k).take (j + 1)) : Nat) : Int) := by
                              rw [htk, val_snoc, IntKind.wrap_i64]; omega
                            have w10 : IntKind.i64.wrap (((k + 1 + j : Nat) : Int) + 1) = ((k + 1 + (j + 1) : Nat) : Int) := by rw [IntKind.wrap_i64]; omega
                            simp only [envL, gaE, h, w8, w9, w10, hs8, go_sem, reduceCtorEq, ↓reduceIte, Nat.reduceAdd, Nat.reduceMul, Nat.reduceSub, Nat.reduceEqDiff, Nat.reduceLT, Nat.reduceBEq, Nat.reduceBNe, Nat.reduceLeDiff, Int.reduceLE, Int.reduceLT, Int.reduceToNat, Int.reduceEq, Int.reduceAdd, UInt8.reduceToNat, UInt32.reduceToNat, UInt64.reduceToNat, UInt8.reduceOfNat, UInt32.reduceOfNat, UInt64.reduceOfNat, Fin.isValue, Int.reduceSub, Int.reduceMul, Int.reduceNeg, Int.reduceMod, Int.reduceDiv, Int.reduceTDiv, Int.reduceTMod, Int.reduceBEq, Int.reduceBNe, Nat.reduceDiv, Nat.reducePow]
                            refine ⟨⟨by omega, by omega⟩, again (j + 1) [] (by omega) (by omega) ?_⟩
                            simp only [rvalInv, go_sem, reduceCtorEq, ↓reduceIte, Nat.reduceAdd, Nat.reduceMul, Nat.reduceSub, Nat.reduceEqDiff, Nat.reduceLT, Nat.reduceBEq, Nat.reduceBNe, Nat.reduceLeDiff, Int.reduceLE, Int.reduceLT, Int.reduceToNat, Int.reduceEq, Int.reduceAdd, UInt8.reduceToNat, UInt32.reduceToNat, UInt64.reduceToNat, UInt8.reduceOfNat, UInt32.reduceOfNat, UInt64.reduceOfNat, Fin.isValue, Int.reduceSub, Int.reduceMul, Int.reduceNeg, Int.reduceMod, Int.reduceDiv, Int.reduceTDiv, Int.reduceTMod, Int.reduceBEq, Int.reduceBNe, Nat.reduceDiv, Nat.reducePow]
                          · have hge : j = m + 1 - k := by have := of_decide_eq_false h; omega
                            have hall : (digsAt s k).take j = digsAt s k := List.take_of_length_le (by omega)
                            simp only [envL, gaE, h, e1, e2, hall, go_sem, reduceCtorEq, ↓reduceIte, Nat.reduceAdd, Nat.reduceMul, Nat.reduceSub, Nat.reduceEqDiff, Nat.reduceLT, Nat.reduceBEq, Nat.reduceBNe, Nat.reduceLeDiff, Int.reduceLE, Int.reduceLT, Int.reduceToNat, Int.reduceEq, Int.reduceAdd, UInt8.reduceToNat, UInt32.reduceToNat, UInt64.reduceToNat, UInt8.reduceOfNat, UInt32.reduceOfNat, UInt64.reduceOfNat, Fin.isValue, Int.reduceSub, Int.reduceMul, Int.reduceNeg, Int.reduceMod, Int.reduceDiv, Int.reduceTDiv, Int.reduceTMod, Int.reduceBEq, Int.reduceBNe, Nat.reduceDiv, Nat.reducePow]
                      · simp only [envL, gaE, rlitInv, a0, a0', w2', w3, w6, h48, h57, hb, hg, hg1, b1, b2, b3, b4, go_sem, reduceCtorEq, ↓reduceIte, Nat.reduceAdd, Nat.reduceMul, Nat.reduceSub, Nat.reduceEqDiff, Nat.reduceLT, Nat.reduceBEq, Nat.reduceBNe, Nat.reduceLeDiff, Int.reduceLE, Int.reduceLT, Int.reduceToNat, Int.reduceEq, Int.reduceAdd, UInt8.reduceToNat, UInt32.reduceToNat, UInt64.reduceToNat, UInt8.reduceOfNat, UInt32.reduceOfNat, UInt64.reduceOfNat, Fin.isValue, Int.reduceSub, Int.reduceMul, Int.reduceNeg, Int.reduceMod, Int.reduceDiv, Int.reduceTDiv, Int.reduceTMod, Int.reduceBEq, Int.reduceBNe, Nat.reduceDiv, Nat.reducePow]
                        refine loop_inv (envL_ok gaE_ok 89) (rvalInv s k) (fun j => j ≤ m + 1 - k) (fun j => m + 1 - k - j) 0 [] (Nat.zero_le _) ?_ ?_
                        · simp only [rvalInv, Nat.add_zero, go_sem, reduceCtorEq, ↓reduceIte, Nat.reduceAdd, Nat.reduceMul, Nat.reduceSub, Nat.reduceEqDiff, Nat.reduceLT, Nat.reduceBEq, Nat.reduceBNe, Nat.reduceLeDiff, Int.reduceLE, Int.reduceLT, Int.reduceToNat, Int.reduceEq, Int.reduceAdd, UInt8.reduceToNat, UInt32.reduceToNat, UInt64.reduceToNat, UInt8.reduceOfNat, UInt32.reduceOfNat, UInt64.reduceOfNat, Fin.isValue, Int.reduceSub, Int.reduceMul, Int.reduceNeg, Int.reduceMod, Int.reduceDiv, Int.reduceTDiv, Int.reduceTMod, Int.reduceBEq, Int.reduceBNe, Nat.reduceDiv, Nat.reducePow]
                          rfl
                        · intro j hj
                          have w7 : IntKind.i64.wrap ((s.length : Int) - 1) = ((m + 2 : Nat) : Int) := by rw [IntKind.wrap_i64]; omega
                          simp only [envL, gaE, rvalInv, w7, go_sem, reduceCtorEq, ↓reduceIte, Nat.reduceAdd, Nat.reduceMul, Nat.reduceSub, Nat.reduceEqDiff, Nat.reduceLT, Nat.reduceBEq, Nat.reduceBNe, Nat.reduceLeDiff, Int.reduceLE, Int.reduceLT, Int.reduceToNat, Int.reduceEq, Int.reduceAdd, UInt8.reduceToNat, UInt32.reduceToNat, UInt64.reduceToNat, UInt8.reduceOfNat, UInt32.reduceOfNat, UInt64.reduceOfNat, Fin.isValue, Int.reduceSub, Int.reduceMul, Int.reduceNeg, Int.reduceMod, Int.reduceDiv, Int.reduceTDiv, Int.reduceTMod, Int.reduceBEq, Int.reduceBNe, Nat.reduceDiv, Nat.reducePow]
                          refine br (fun h => ?_) fun h => ?_
                          · have hlt : j < m + 1 - k := by have := of_decide_eq_true h; omega
                            have hcd := hk.2 (k + 1 + j) (by omega) (by omega)
                            have hs8 := sub48 _ hcd
                            have hd8 := dig_of _ hcd
                            have htk : (digsAt s k).take (j + 1) = (digsAt s k).take j ++ [s.getD (k + 1 + j) 0] := by
                              rw [List.take_add_one, digsAt_get s k j (by omega)]; rfl
                            have hv := hvb j
                            have w8 : IntKind.i64.wrap (10 * (val ((digsAt s k).take j) : Int)) = ((10 * val ((digsAt s k).take j) : Nat) : Int) := by rw [IntKind.wrap_i64]; omega
                            have w9 : IntKind.i64.wrap (((10 * val ((digsAt s k).take j) : Nat) : Int) + (((s.getD (k + 1 + j) 0).toNat - 48 : Nat) : Int)) = ((val ((digsAt s k).take (j + 1)) : Nat) : Int) := by
                              rw [htk, val_snoc, IntKind.wrap_i64]; omega
                            have w10 : IntKind.i64.wrap (((k + 1 + j : Nat) : Int) + 1) = ((k + 1 + (j + 1) : Nat) : Int) := by rw [IntKind.wrap_i64]; omega
                            simp only [envL, gaE, h, w8, w9, w10, hs8, go_sem, reduceCtorEq, ↓reduceIte, Nat.reduceAdd, Nat.reduceMul, Nat.reduceSub, Nat.reduceEqDiff, Nat.reduceLT, Nat.reduceBEq, Nat.reduceBNe, Nat.reduceLeDiff, Int.reduceLE, Int.reduceLT, Int.reduceToNat, Int.reduceEq, Int.reduceAdd, UInt8.reduceToNat, UInt32.reduceToNat, UInt64.reduceToNat, UInt8.reduceOfNat, UInt32.reduceOfNat, UInt64.reduceOfNat, Fin.isValue, Int.reduceSub, Int.reduceMul, Int.reduceNeg, Int.reduceMod, Int.reduceDiv, Int.reduceTDiv, Int.reduceTMod, Int.reduceBEq, Int.reduceBNe, Nat.reduceDiv, Nat.reducePow]
                            refine ⟨⟨by omega, by omega⟩, again (j + 1) [] (by omega) (by omega) ?_⟩
                            simp only [rvalInv, go_sem, reduceCtorEq, ↓reduceIte, Nat.reduceAdd, Nat.reduceMul, Nat.reduceSub, Nat.reduceEqDiff, Nat.reduceLT, Nat.reduceBEq, Nat.reduceBNe, Nat.reduceLeDiff, Int.reduceLE, Int.reduceLT, Int.reduceToNat, Int.reduceEq, Int.reduceAdd, UInt8.reduceToNat, UInt32.reduceToNat, UInt64.reduceToNat, UInt8.reduceOfNat, UInt32.reduceOfNat, UInt64.reduceOfNat, Fin.isValue, Int.reduceSub, Int.reduceMul, Int.reduceNeg, Int.reduceMod, Int.reduceDiv, Int.reduceTDiv, Int.reduceTMod, Int.reduceBEq, Int.reduceBNe, Nat.reduceDiv, Nat.reducePow]
                          · have hge : j = m + 1 - k := by have := of_decide_eq_false h; omega
                            have hall : (digsAt s k).take j = digsAt s k := List.take_of_length_le (by omega)
                            simp only [envL, gaE, h, e1, e2, hall, go_sem, reduceCtorEq, ↓reduceIte, Nat.reduceAdd, Nat.reduceMul, Nat.reduceSub, Nat.reduceEqDiff, Nat.reduceLT, Nat.reduceBEq, Nat.reduceBNe, Nat.reduceLeDiff, Int.reduceLE, Int.reduceLT, Int.reduceToNat, Int.reduceEq, Int.reduceAdd, UInt8.reduceToNat, UInt32.reduceToNat, UInt64.reduceToNat, UInt8.reduceOfNat, UInt32.reduceOfNat, UInt64.reduceOfNat, Fin.isValue, Int.reduceSub, Int.reduceMul, Int.reduceNeg, Int.reduceMod, Int.reduceDiv, Int.reduceTDiv, Int.reduceTMod, Int.reduceBEq, Int.reduceBNe, Nat.reduceDiv, Nat.reducePow]
def refLiteralC : Con := con0 fun args => match args with
  | [.one (.str s)] => some (.tup [.one (.num (refLV s)), .one (.num (refLA s))], [s.length ≤ 9223372036854775807])
  | _ => none
theorem refLiteralC_ok : ConOkG Tryd.prog GL 32 refLiteralC := con0_okG Tryd.func32 rfl rfl fun args res ob h hob => by
  split at h
  · injection h with h; injection h with h1 h2; subst h1; subst h2; exact refLiteral_tri _ hob.1
  · cases h
end Go.Proofs.YtgfcdkbbkgamnaaDoor
