/-
  Layer 14, by definition: a number at a place.
-/
import Derived.Test.YtgfcdkbbkgamnaaDoorSz
import Derived.Test.YtgfcdkbbkgamnaaDoorTb
namespace Go.Proofs.YtgfcdkbbkgamnaaDoor
open Go Go.RowKit
set_option maxHeartbeats 4000000
set_option linter.unusedSimpArgs false
set_option linter.unusedVariables false
/-- The digits from a place on, eleven at most. -/
def runN (s : List UInt8) : Nat → Nat → Nat
  | 0, _ => 0
  | f + 1, a => if a < s.length ∧ isDig (s.getD a 0) = true then runN s f (a + 1) + 1 else 0
def digN (s : List UInt8) (a n : Nat) : List UInt8 := (s.drop a).take n
def rnOk (s : List UInt8) (a : Nat) : Bool := !(runN s 11 a == 0 || decide (10 < runN s 11 a) || s.getD a 0 == 48 || decide (4294967296 ≤ val (digN s a (runN s 11 a))))
def rnStar (s : List UInt8) (a : Nat) : Bool := decide (a < s.length) && s.getD a 0 == 42
def rnV (s : List UInt8) (a : Nat) : Int := if rnStar s a = true then 0 else if rnOk s a = true then (val (digN s a (runN s 11 a)) : Int) else 0
def rnA (s : List UInt8) (a : Nat) : Int := if rnStar s a = true then (a + 1 : Nat) else if rnOk s a = true then (a + runN s 11 a : Nat) else -1
theorem runN_le (s : List UInt8) : ∀ (f a : Nat), runN s f a ≤ f ∧ (a ≤ s.length → a + runN s f a ≤ s.length)
  | 0, a => ⟨Nat.le_refl _, fun h => h⟩
  | f + 1, a => by
    unfold runN
    split
    · rename_i h
      have := runN_le s f (a + 1)
      exact ⟨by omega, fun _ => by have := this.2 (by omega); omega⟩
    · exact ⟨Nat.zero_le _, fun h => h⟩
theorem digN_snoc (s : List UInt8) (a k : Nat) (h : a + k < s.length) : val (digN s a (k + 1)) = 10 * val (digN s a k) + ((s.getD (a + k) 0).toNat - 48) := by
  have e : digN s a (k + 1) = digN s a k ++ [s.getD (a + k) 0] := by
    unfold digN
    rw [List.take_add_one, List.getElem?_drop, List.getElem?_eq_getElem h]
    congr 1
    simp [List.getD_eq_getElem?_getD, h]
  rw [e, val_snoc]
/-- After k digits. -/
def rnGo (s : List UInt8) (a k : Nat) : Prop := k ≤ 11 ∧ a + k ≤ s.length ∧ (∀ j, j < k → isDig (s.getD (a + j) 0) = true)
theorem runN_at (s : List UInt8) : ∀ (f a k : Nat), k ≤ f → (∀ j, j < k → a + j < s.length ∧ isDig (s.getD (a + j) 0) = true) → (f ≤ k ∨ ¬ (a + k < s.length ∧ isDig (s.getD (a + k) 0) = true)) → runN s f a = k
  | 0, a, k, h1, _, _ => by have : k = 0 := by omega
                            subst this; rfl
  | f + 1, a, 0, _, _, h3 => by
    unfold runN
    rcases h3 with h | h
    · omega
    · rw [Nat.add_zero] at h
      rw [if_neg h]
  | f + 1, a, k + 1, h1, h2, h3 => by
    unfold runN
    have h0 := h2 0 (by omega)
    rw [Nat.add_zero] at h0
    rw [if_pos h0, runN_at s f (a + 1) k (by omega) (fun j hj => by have := h2 (j + 1) (by omega); rw [show a + (j + 1) = a + 1 + j by omega] at this; exact this) (by
      rcases h3 with h | h
      · exact .inl (by omega)
      · exact .inr (by rw [show a + 1 + k = a + (k + 1) by omega]; exact h))]
theorem digN_lt (s : List UInt8) (a k : Nat) (hk : k ≤ 11) (h : ∀ j, j < k → a + j < s.length ∧ isDig (s.getD (a + j) 0) = true) : val (digN s a k) < 100000000000 := by
  have hall : (digN s a k).all isDig = true := by
    rw [List.all_eq_true]
    intro c hc
    obtain ⟨j, hj⟩ := List.mem_iff_getElem?.1 hc
    unfold digN at hj
    rw [List.getElem?_take] at hj
    split at hj
    · rename_i hjk
      rw [List.getElem?_drop] at hj
      have := (h j hjk).2
      rw [List.getD_eq_getElem?_getD, hj] at this
      exact this
    · cases hj
  have h1 := val_lt _ hall
  have h2 : (digN s a k).length ≤ 11 := by unfold digN; rw [List.length_take]; omega
  exact Nat.lt_of_lt_of_le h1 (Nat.le_trans (Nat.pow_le_pow_right (by decide) h2) (by decide))
def rnInv (s : List UInt8) (a k : Nat) : St := ⟨[(0, .c (.one (.str s))), (1, .c (.one (.num (a + k : Nat)))), (6, .c (.one (.num (val (digN s a k))))), (7, .c (.one (.num a)))], []⟩
theorem rn_bad {s : List UInt8} {a : Nat} (hst : rnStar s a = false) (h : rnOk s a = false) : rnV s a = 0 ∧ rnA s a = -1 := by
  unfold rnV rnA
  rw [hst, h]; exact ⟨rfl, rfl⟩
theorem rn_good {s : List UInt8} {a k : Nat} (hst : rnStar s a = false) (hr : runN s 11 a = k) (h : rnOk s a = true) : rnV s a = (val (digN s a k) : Int) ∧ rnA s a = (a + k : Nat) := by
  unfold rnV rnA
  rw [hst, h, hr]; exact ⟨rfl, rfl⟩
theorem rnOk_of {s : List UInt8} {a k : Nat} (hr : runN s 11 a = k) : rnOk s a = !(k == 0 || decide (10 < k) || s.getD a 0 == 48 || decide (4294967296 ≤ val (digN s a k))) := by
  unfold rnOk
  rw [hr]
theorem sub48' (c : UInt8) (h : isDig c = true) : (c - 48).toNat = c.toNat - 48 := by
  have := dig_of c h
  rw [UInt8.toNat_sub_of_le _ _ (by rw [UInt8.le_iff_toNat_le]; exact this.1)]
  rfl
def qt3 : Nat → Option Con := fun f => match f with
  | _ => none
theorem qt3_ok : GaOkG Tryd.prog GL qt3 := fun f con h => by
  unfold qt3 at h
  split at h
  · cases h
set_option maxRecDepth 100000 in
theorem refNumber14_tri (s : List UInt8) (a : Nat) (hs : s.length ≤ 65536) (ha : a ≤ s.length) : TriG Tryd.prog GL 54 [.one (.str s), .one (.num (a : Nat))] [] (.tup [.one (.num (rnV s a)), .one (.num (rnA s a))]) [] := by
  refine tri_of (envL_ok qt3_ok 74) Tryd.func54 rfl rfl (rs := [.tmp 4, .tmp 5]) rfl rfl (by simp [envL]) rfl [] ?_
  have hw1 : IntKind.i64.wrap ((a : Int) + 1) = ((a + 1 : Nat) : Int) := by rw [IntKind.wrap_i64]; omega
  have dot : ∀ c : UInt8, isDig c = (decide (48 ≤ c) && decide (c ≤ 57)) := fun c => by
    unfold isDig
    simp only [UInt8.le_iff_toNat_le]
    rfl
  have hv0 : val (digN s a 0) = 0 := rfl
  cases hal : decide ((a : Int) < s.length) with
  | false =>
    have hst : rnStar s a = false := by
      unfold rnStar
      rw [decide_eq_false (by have := of_decide_eq_false hal; omega)]; rfl
    simp only [envL, qt3, hal, hw1, go_sem, reduceCtorEq, ↓reduceIte, Nat.reduceAdd, Nat.reduceMul, Nat.reduceSub, Nat.reduceEqDiff, Nat.reduceLT, Nat.reduceBEq, Nat.reduceBNe, Nat.reduceLeDiff, Int.reduceLE, Int.reduceLT, Int.reduceToNat, Int.reduceEq, Int.reduceAdd, UInt8.reduceToNat, UInt32.reduceToNat, UInt64.reduceToNat, UInt8.reduceOfNat, UInt32.reduceOfNat, UInt64.reduceOfNat, Fin.isValue, Int.reduceSub, Int.reduceMul, Int.reduceNeg, Int.reduceMod, Int.reduceDiv, Int.reduceTDiv, Int.reduceTMod, Int.reduceBEq, Int.reduceBNe, Nat.reduceDiv, Nat.reducePow]
    refine loop_inv (envL_ok qt3_ok 74) (rnInv s a) (rnGo s a) (fun k => 11 - k) 0 [] ⟨Nat.zero_le _, ha, fun j hj => by omega⟩ ?_ ?_
    · simp only [rnInv, hv0, Nat.add_zero, go_sem, reduceCtorEq, ↓reduceIte, Nat.reduceAdd, Nat.reduceMul, Nat.reduceSub, Nat.reduceEqDiff, Nat.reduceLT, Nat.reduceBEq, Nat.reduceBNe, Nat.reduceLeDiff, Int.reduceLE, Int.reduceLT, Int.reduceToNat, Int.reduceEq, Int.reduceAdd, UInt8.reduceToNat, UInt32.reduceToNat, UInt64.reduceToNat, UInt8.reduceOfNat, UInt32.reduceOfNat, UInt64.reduceOfNat, Fin.isValue, Int.reduceSub, Int.reduceMul, Int.reduceNeg, Int.reduceMod, Int.reduceDiv, Int.reduceTDiv, Int.reduceTMod, Int.reduceBEq, Int.reduceBNe, Nat.reduceDiv, Nat.reducePow]
    · intro k hk
      obtain ⟨hk1, hk2, hk3⟩ := hk
      have hall : ∀ j, j < k → a + j < s.length ∧ isDig (s.getD (a + j) 0) = true := fun j hj => ⟨by omega, hk3 j hj⟩
      have hv := digN_lt s a k hk1 hall
      have hw10 : IntKind.i64.wrap ((a : Int) + 10) = ((a + 10 : Nat) : Int) := by rw [IntKind.wrap_i64]; omega
      have h11 : IntKind.i64.wrap ((a : Int) + 11) = ((a + 11 : Nat) : Int) := by rw [IntKind.wrap_i64]; omega
      simp only [envL, qt3, rnInv, hw10, h11, go_sem, reduceCtorEq, ↓reduceIte, Nat.reduceAdd, Nat.reduceMul, Nat.reduceSub, Nat.reduceEqDiff, Nat.reduceLT, Nat.reduceBEq, Nat.reduceBNe, Nat.reduceLeDiff, Int.reduceLE, Int.reduceLT, Int.reduceToNat, Int.reduceEq, Int.reduceAdd, UInt8.reduceToNat, UInt32.reduceToNat, UInt64.reduceToNat, UInt8.reduceOfNat, UInt32.reduceOfNat, UInt64.reduceOfNat, Fin.isValue, Int.reduceSub, Int.reduceMul, Int.reduceNeg, Int.reduceMod, Int.reduceDiv, Int.reduceTDiv, Int.reduceTMod, Int.reduceBEq, Int.reduceBNe, Nat.reduceDiv, Nat.reducePow]
      refine br (fun h => ?_) fun h => ?_
      · have hlt' : a + k < s.length := by have := of_decide_eq_true h; omega
        cases b1 : decide (48 ≤ s.getD (a + k) 0) with
        | false =>
          have hr : runN s 11 a = k := runN_at s 11 a k hk1 hall (.inr fun e => by have := e.2; rw [dot, b1] at this; simp at this)
          have hok := rnOk_of hr
          cases c1 : (((a + k : Nat) : Int) == a) with
          | true =>
            have hk0 : k = 0 := by have := eq_of_beq c1; omega
            obtain ⟨e1, e2⟩ := rn_bad hst (by rw [hok, hk0]; rfl)
            simp only [envL, qt3, h, b1, c1, e1, e2, hw10, h11, go_sem, reduceCtorEq, ↓reduceIte, Nat.reduceAdd, Nat.reduceMul, Nat.reduceSub, Nat.reduceEqDiff, Nat.reduceLT, Nat.reduceBEq, Nat.reduceBNe, Nat.reduceLeDiff, Int.reduceLE, Int.reduceLT, Int.reduceToNat, Int.reduceEq, Int.reduceAdd, UInt8.reduceToNat, UInt32.reduceToNat, UInt64.reduceToNat, UInt8.reduceOfNat, UInt32.reduceOfNat, UInt64.reduceOfNat, Fin.isValue, Int.reduceSub, Int.reduceMul, Int.reduceNeg, Int.reduceMod, Int.reduceDiv, Int.reduceTDiv, Int.reduceTMod, Int.reduceBEq, Int.reduceBNe, Nat.reduceDiv, Nat.reducePow]
            all_goals ((repeat' apply And.intro) <;> first | omega | exact rfl | exact id)
          | false =>
            have hk0 : k ≠ 0 := fun e => by rw [e] at c1; simp at c1
            cases c2 : decide (((a + 10 : Nat) : Int) < ((a + k : Nat) : Int)) with
            | true =>
              have hk1 : 10 < k := by have := of_decide_eq_true c2; omega
              obtain ⟨e1, e2⟩ := rn_bad hst (by rw [hok, decide_eq_true hk1]; simp)
              simp only [envL, qt3, h, b1, c1, c2, e1, e2, hw10, h11, go_sem, reduceCtorEq, ↓reduceIte, Nat.reduceAdd, Nat.reduceMul, Nat.reduceSub, Nat.reduceEqDiff, Nat.reduceLT, Nat.reduceBEq, Nat.reduceBNe, Nat.reduceLeDiff, Int.reduceLE, Int.reduceLT, Int.reduceToNat, Int.reduceEq, Int.reduceAdd, UInt8.reduceToNat, UInt32.reduceToNat, UInt64.reduceToNat, UInt8.reduceOfNat, UInt32.reduceOfNat, UInt64.reduceOfNat, Fin.isValue, Int.reduceSub, Int.reduceMul, Int.reduceNeg, Int.reduceMod, Int.reduceDiv, Int.reduceTDiv, Int.reduceTMod, Int.reduceBEq, Int.reduceBNe, Nat.reduceDiv, Nat.reducePow]
              all_goals ((repeat' apply And.intro) <;> first | omega | exact rfl | exact id)
            | false =>
              have hk1 : ¬ 10 < k := by have := of_decide_eq_false c2; omega
              cases c3 : (s.getD a 0 == 48) with
              | true =>
                obtain ⟨e1, e2⟩ := rn_bad hst (by rw [hok, c3]; simp)
                simp only [envL, qt3, h, b1, c1, c2, c3, e1, e2, hw10, h11, go_sem, reduceCtorEq, ↓reduceIte, Nat.reduceAdd, Nat.reduceMul, Nat.reduceSub, Nat.reduceEqDiff, Nat.reduceLT, Nat.reduceBEq, Nat.reduceBNe, Nat.reduceLeDiff, Int.reduceLE, Int.reduceLT, Int.reduceToNat, Int.reduceEq, Int.reduceAdd, UInt8.reduceToNat, UInt32.reduceToNat, UInt64.reduceToNat, UInt8.reduceOfNat, UInt32.reduceOfNat, UInt64.reduceOfNat, Fin.isValue, Int.reduceSub, Int.reduceMul, Int.reduceNeg, Int.reduceMod, Int.reduceDiv, Int.reduceTDiv, Int.reduceTMod, Int.reduceBEq, Int.reduceBNe, Nat.reduceDiv, Nat.reducePow]
                all_goals ((repeat' apply And.intro) <;> first | omega | exact rfl | exact id)
              | false =>
                cases c4 : decide ((4294967296 : Int) ≤ (val (digN s a k) : Int)) with
                | true =>
                  have hv4 : 4294967296 ≤ val (digN s a k) := by have := of_decide_eq_true c4; omega
                  obtain ⟨e1, e2⟩ := rn_bad hst (by rw [hok, decide_eq_true hv4]; simp)
                  simp only [envL, qt3, h, b1, c1, c2, c3, c4, e1, e2, hw10, h11, go_sem, reduceCtorEq, ↓reduceIte, Nat.reduceAdd, Nat.reduceMul, Nat.reduceSub, Nat.reduceEqDiff, Nat.reduceLT, Nat.reduceBEq, Nat.reduceBNe, Nat.reduceLeDiff, Int.reduceLE, Int.reduceLT, Int.reduceToNat, Int.reduceEq, Int.reduceAdd, UInt8.reduceToNat, UInt32.reduceToNat, UInt64.reduceToNat, UInt8.reduceOfNat, UInt32.reduceOfNat, UInt64.reduceOfNat, Fin.isValue, Int.reduceSub, Int.reduceMul, Int.reduceNeg, Int.reduceMod, Int.reduceDiv, Int.reduceTDiv, Int.reduceTMod, Int.reduceBEq, Int.reduceBNe, Nat.reduceDiv, Nat.reducePow]
                  all_goals ((repeat' apply And.intro) <;> first | omega | exact rfl | exact id)
                | false =>
                  have hv4 : ¬ 4294967296 ≤ val (digN s a k) := by have := of_decide_eq_false c4; omega
                  obtain ⟨e1, e2⟩ := rn_good hst hr (by rw [hok, decide_eq_false hk1, decide_eq_false hv4, c3, beq_eq_false_iff_ne.2 hk0]; rfl)
                  simp only [envL, qt3, h, b1, c1, c2, c3, c4, e1, e2, hw10, h11, go_sem, reduceCtorEq, ↓reduceIte, Nat.reduceAdd, Nat.reduceMul, Nat.reduceSub, Nat.reduceEqDiff, Nat.reduceLT, Nat.reduceBEq, Nat.reduceBNe, Nat.reduceLeDiff, Int.reduceLE, Int.reduceLT, Int.reduceToNat, Int.reduceEq, Int.reduceAdd, UInt8.reduceToNat, UInt32.reduceToNat, UInt64.reduceToNat, UInt8.reduceOfNat, UInt32.reduceOfNat, UInt64.reduceOfNat, Fin.isValue, Int.reduceSub, Int.reduceMul, Int.reduceNeg, Int.reduceMod, Int.reduceDiv, Int.reduceTDiv, Int.reduceTMod, Int.reduceBEq, Int.reduceBNe, Nat.reduceDiv, Nat.reducePow]
                  all_goals ((repeat' apply And.intro) <;> first | omega | exact rfl | exact id)
        | true =>
          cases b2 : decide (s.getD (a + k) 0 ≤ 57) with
          | false =>
            have hr : runN s 11 a = k := runN_at s 11 a k hk1 hall (.inr fun e => by have := e.2; rw [dot, b1, b2] at this; simp at this)
            have hok := rnOk_of hr
            cases c1 : (((a + k : Nat) : Int) == a) with
            | true =>
              have hk0 : k = 0 := by have := eq_of_beq c1; omega
              obtain ⟨e1, e2⟩ := rn_bad hst (by rw [hok, hk0]; rfl)
              simp only [envL, qt3, h, b1, b2, c1, e1, e2, hw10, h11, go_sem, reduceCtorEq, ↓reduceIte, Nat.reduceAdd, Nat.reduceMul, Nat.reduceSub, Nat.reduceEqDiff, Nat.reduceLT, Nat.reduceBEq, Nat.reduceBNe, Nat.reduceLeDiff, Int.reduceLE, Int.reduceLT, Int.reduceToNat, Int.reduceEq, Int.reduceAdd, UInt8.reduceToNat, UInt32.reduceToNat, UInt64.reduceToNat, UInt8.reduceOfNat, UInt32.reduceOfNat, UInt64.reduceOfNat, Fin.isValue, Int.reduceSub, Int.reduceMul, Int.reduceNeg, Int.reduceMod, Int.reduceDiv, Int.reduceTDiv, Int.reduceTMod, Int.reduceBEq, Int.reduceBNe, Nat.reduceDiv, Nat.reducePow]
              all_goals ((repeat' apply And.intro) <;> first | omega | exact rfl | exact id)
            | false =>
              have hk0 : k ≠ 0 := fun e => by rw [e] at c1; simp at c1
              cases c2 : decide (((a + 10 : Nat) : Int) < ((a + k : Nat) : Int)) with
              | true =>
                have hk1 : 10 < k := by have := of_decide_eq_true c2; omega
                obtain ⟨e1, e2⟩ := rn_bad hst (by rw [hok, decide_eq_true hk1]; simp)
                simp only [envL, qt3, h, b1, b2, c1, c2, e1, e2, hw10, h11, go_sem, reduceCtorEq, ↓reduceIte, Nat.reduceAdd, Nat.reduceMul, Nat.reduceSub, Nat.reduceEqDiff, Nat.reduceLT, Nat.reduceBEq, Nat.reduceBNe, Nat.reduceLeDiff, Int.reduceLE, Int.reduceLT, Int.reduceToNat, Int.reduceEq, Int.reduceAdd, UInt8.reduceToNat, UInt32.reduceToNat, UInt64.reduceToNat, UInt8.reduceOfNat, UInt32.reduceOfNat, UInt64.reduceOfNat, Fin.isValue, Int.reduceSub, Int.reduceMul, Int.reduceNeg, Int.reduceMod, Int.reduceDiv, Int.reduceTDiv, Int.reduceTMod, Int.reduceBEq, Int.reduceBNe, Nat.reduceDiv, Nat.reducePow]
                all_goals ((repeat' apply And.intro) <;> first | omega | exact rfl | exact id)
              | false =>
                have hk1 : ¬ 10 < k := by have := of_decide_eq_false c2; omega
                cases c3 : (s.getD a 0 == 48) with
                | true =>
                  obtain ⟨e1, e2⟩ := rn_bad hst (by rw [hok, c3]; simp)
                  simp only [envL, qt3, h, b1, b2, c1, c2, c3, e1, e2, hw10, h11, go_sem, reduceCtorEq, ↓reduceIte, Nat.reduceAdd, Nat.reduceMul, Nat.reduceSub, Nat.reduceEqDiff, Nat.reduceLT, Nat.reduceBEq, Nat.reduceBNe, Nat.reduceLeDiff, Int.reduceLE, Int.reduceLT, Int.reduceToNat, Int.reduceEq, Int.reduceAdd, UInt8.reduceToNat, UInt32.reduceToNat, UInt64.reduceToNat, UInt8.reduceOfNat, UInt32.reduceOfNat, UInt64.reduceOfNat, Fin.isValue, Int.reduceSub, Int.reduceMul, Int.reduceNeg, Int.reduceMod, Int.reduceDiv, Int.reduceTDiv, Int.reduceTMod, Int.reduceBEq, Int.reduceBNe, Nat.reduceDiv, Nat.reducePow]
                  all_goals ((repeat' apply And.intro) <;> first | omega | exact rfl | exact id)
                | false =>
                  cases c4 : decide ((4294967296 : Int) ≤ (val (digN s a k) : Int)) with
                  | true =>
                    have hv4 : 4294967296 ≤ val (digN s a k) := by have := of_decide_eq_true c4; omega
                    obtain ⟨e1, e2⟩ := rn_bad hst (by rw [hok, decide_eq_true hv4]; simp)
                    simp only [envL, qt3, h, b1, b2, c1, c2, c3, c4, e1, e2, hw10, h11, go_sem, reduceCtorEq, ↓reduceIte, Nat.reduceAdd, Nat.reduceMul, Nat.reduceSub, Nat.reduceEqDiff, Nat.reduceLT, Nat.reduceBEq, Nat.reduceBNe, Nat.reduceLeDiff, Int.reduceLE, Int.reduceLT, Int.reduceToNat, Int.reduceEq, Int.reduceAdd, UInt8.reduceToNat, UInt32.reduceToNat, UInt64.reduceToNat, UInt8.reduceOfNat, UInt32.reduceOfNat, UInt64.reduceOfNat, Fin.isValue, Int.reduceSub, Int.reduceMul, Int.reduceNeg, Int.reduceMod, Int.reduceDiv, Int.reduceTDiv, Int.reduceTMod, Int.reduceBEq, Int.reduceBNe, Nat.reduceDiv, Nat.reducePow]
                    all_goals ((repeat' apply And.intro) <;> first | omega | exact rfl | exact id)
                  | false =>
                    have hv4 : ¬ 4294967296 ≤ val (digN s a k) := by have := of_decide_eq_false c4; omega
                    obtain ⟨e1, e2⟩ := rn_good hst hr (by rw [hok, decide_eq_false hk1, decide_eq_false hv4, c3, beq_eq_false_iff_ne.2 hk0]; rfl)
                    simp only [envL, qt3, h, b1, b2, c1, c2, c3, c4, e1, e2, hw10, h11, go_sem, reduceCtorEq, ↓reduceIte, Nat.reduceAdd, Nat.reduceMul, Nat.reduceSub, Nat.reduceEqDiff, Nat.reduceLT, Nat.reduceBEq, Nat.reduceBNe, Nat.reduceLeDiff, Int.reduceLE, Int.reduceLT, Int.reduceToNat, Int.reduceEq, Int.reduceAdd, UInt8.reduceToNat, UInt32.reduceToNat, UInt64.reduceToNat, UInt8.reduceOfNat, UInt32.reduceOfNat, UInt64.reduceOfNat, Fin.isValue, Int.reduceSub, Int.reduceMul, Int.reduceNeg, Int.reduceMod, Int.reduceDiv, Int.reduceTDiv, Int.reduceTMod, Int.reduceBEq, Int.reduceBNe, Nat.reduceDiv, Nat.reducePow]
                    all_goals ((repeat' apply And.intro) <;> first | omega | exact rfl | exact id)
          | true =>
            cases b3 : decide (((a + k : Nat) : Int) < ((a + 11 : Nat) : Int)) with
            | false =>
              have hr : runN s 11 a = k := runN_at s 11 a k hk1 hall (.inl (by have := of_decide_eq_false b3; omega))
              have hok := rnOk_of hr
              cases c1 : (((a + k : Nat) : Int) == a) with
              | true =>
                have hk0 : k = 0 := by have := eq_of_beq c1; omega
                obtain ⟨e1, e2⟩ := rn_bad hst (by rw [hok, hk0]; rfl)
                simp only [envL, qt3, h, b1, b2, b3, c1, e1, e2, hw10, h11, go_sem, reduceCtorEq, ↓reduceIte, Nat.reduceAdd, Nat.reduceMul, Nat.reduceSub, Nat.reduceEqDiff, Nat.reduceLT, Nat.reduceBEq, Nat.reduceBNe, Nat.reduceLeDiff, Int.reduceLE, Int.reduceLT, Int.reduceToNat, Int.reduceEq, Int.reduceAdd, UInt8.reduceToNat, UInt32.reduceToNat, UInt64.reduceToNat, UInt8.reduceOfNat, UInt32.reduceOfNat, UInt64.reduceOfNat, Fin.isValue, Int.reduceSub, Int.reduceMul, Int.reduceNeg, Int.reduceMod, Int.reduceDiv, Int.reduceTDiv, Int.reduceTMod, Int.reduceBEq, Int.reduceBNe, Nat.reduceDiv, Nat.reducePow]
                all_goals ((repeat' apply And.intro) <;> first | omega | exact rfl | exact id)
              | false =>
                have hk0 : k ≠ 0 := fun e => by rw [e] at c1; simp at c1
                cases c2 : decide (((a + 10 : Nat) : Int) < ((a + k : Nat) : Int)) with
                | true =>
                  have hk1 : 10 < k := by have := of_decide_eq_true c2; omega
                  obtain ⟨e1, e2⟩ := rn_bad hst (by rw [hok, decide_eq_true hk1]; simp)
                  simp only [envL, qt3, h, b1, b2, b3, c1, c2, e1, e2, hw10, h11, go_sem, reduceCtorEq, ↓reduceIte, Nat.reduceAdd, Nat.reduceMul, Nat.reduceSub, Nat.reduceEqDiff, Nat.reduceLT, Nat.reduceBEq, Nat.reduceBNe, Nat.reduceLeDiff, Int.reduceLE, Int.reduceLT, Int.reduceToNat, Int.reduceEq, Int.reduceAdd, UInt8.reduceToNat, UInt32.reduceToNat, UInt64.reduceToNat, UInt8.reduceOfNat, UInt32.reduceOfNat, UInt64.reduceOfNat, Fin.isValue, Int.reduceSub, Int.reduceMul, Int.reduceNeg, Int.reduceMod, Int.reduceDiv, Int.reduceTDiv, Int.reduceTMod, Int.reduceBEq, Int.reduceBNe, Nat.reduceDiv, Nat.reducePow]
                  all_goals ((repeat' apply And.intro) <;> first | omega | exact rfl | exact id)
                | false =>
                  have hk1 : ¬ 10 < k := by have := of_decide_eq_false c2; omega
                  cases c3 : (s.getD a 0 == 48) with
                  | true =>
                    obtain ⟨e1, e2⟩ := rn_bad hst (by rw [hok, c3]; simp)
                    simp only [envL, qt3, h, b1, b2, b3, c1, c2, c3, e1, e2, hw10, h11, go_sem, reduceCtorEq, ↓reduceIte, Nat.reduceAdd, Nat.reduceMul, Nat.reduceSub, Nat.reduceEqDiff, Nat.reduceLT, Nat.reduceBEq, Nat.reduceBNe, Nat.reduceLeDiff, Int.reduceLE, Int.reduceLT, Int.reduceToNat, Int.reduceEq, Int.reduceAdd, UInt8.reduceToNat, UInt32.reduceToNat, UInt64.reduceToNat, UInt8.reduceOfNat, UInt32.reduceOfNat, UInt64.reduceOfNat, Fin.isValue, Int.reduceSub, Int.reduceMul, Int.reduceNeg, Int.reduceMod, Int.reduceDiv, Int.reduceTDiv, Int.reduceTMod, Int.reduceBEq, Int.reduceBNe, Nat.reduceDiv, Nat.reducePow]
                    all_goals ((repeat' apply And.intro) <;> first | omega | exact rfl | exact id)
                  | false =>
                    cases c4 : decide ((4294967296 : Int) ≤ (val (digN s a k) : Int)) with
                    | true =>
                      have hv4 : 4294967296 ≤ val (digN s a k) := by have := of_decide_eq_true c4; omega
                      obtain ⟨e1, e2⟩ := rn_bad hst (by rw [hok, decide_eq_true hv4]; simp)
                      simp only [envL, qt3, h, b1, b2, b3, c1, c2, c3, c4, e1, e2, hw10, h11, go_sem, reduceCtorEq, ↓reduceIte, Nat.reduceAdd, Nat.reduceMul, Nat.reduceSub, Nat.reduceEqDiff, Nat.reduceLT, Nat.reduceBEq, Nat.reduceBNe, Nat.reduceLeDiff, Int.reduceLE, Int.reduceLT, Int.reduceToNat, Int.reduceEq, Int.reduceAdd, UInt8.reduceToNat, UInt32.reduceToNat, UInt64.reduceToNat, UInt8.reduceOfNat, UInt32.reduceOfNat, UInt64.reduceOfNat, Fin.isValue, Int.reduceSub, Int.reduceMul, Int.reduceNeg, Int.reduceMod, Int.reduceDiv, Int.reduceTDiv, Int.reduceTMod, Int.reduceBEq, Int.reduceBNe, Nat.reduceDiv, Nat.reducePow]
                      all_goals ((repeat' apply And.intro) <;> first | omega | exact rfl | exact id)
                    | false =>
                      have hv4 : ¬ 4294967296 ≤ val (digN s a k) := by have := of_decide_eq_false c4; omega
                      obtain ⟨e1, e2⟩ := rn_good hst hr (by rw [hok, decide_eq_false hk1, decide_eq_false hv4, c3, beq_eq_false_iff_ne.2 hk0]; rfl)
                      simp only [envL, qt3, h, b1, b2, b3, c1, c2, c3, c4, e1, e2, hw10, h11, go_sem, reduceCtorEq, ↓reduceIte, Nat.reduceAdd, Nat.reduceMul, Nat.reduceSub, Nat.reduceEqDiff, Nat.reduceLT, Nat.reduceBEq, Nat.reduceBNe, Nat.reduceLeDiff, Int.reduceLE, Int.reduceLT, Int.reduceToNat, Int.reduceEq, Int.reduceAdd, UInt8.reduceToNat, UInt32.reduceToNat, UInt64.reduceToNat, UInt8.reduceOfNat, UInt32.reduceOfNat, UInt64.reduceOfNat, Fin.isValue, Int.reduceSub, Int.reduceMul, Int.reduceNeg, Int.reduceMod, Int.reduceDiv, Int.reduceTDiv, Int.reduceTMod, Int.reduceBEq, Int.reduceBNe, Nat.reduceDiv, Nat.reducePow]
                      all_goals ((repeat' apply And.intro) <;> first | omega | exact rfl | exact id)
            | true =>
              have hcd : isDig (s.getD (a + k) 0) = true := by rw [dot, b1, b2]; rfl
              have hs8 := sub48' _ hcd
              have w8 : IntKind.i64.wrap (10 * (val (digN s a k) : Int)) = ((10 * val (digN s a k) : Nat) : Int) := by rw [IntKind.wrap_i64]; omega
              have hd57 := dig_of _ hcd
              have w9 : IntKind.i64.wrap (((10 * val (digN s a k) : Nat) : Int) + (((s.getD (a + k) 0).toNat - 48 : Nat) : Int)) = ((val (digN s a (k + 1)) : Nat) : Int) := by
                rw [digN_snoc s a k hlt', IntKind.wrap_i64]; omega
              have w10 : IntKind.i64.wrap (((a + k : Nat) : Int) + 1) = ((a + (k + 1) : Nat) : Int) := by rw [IntKind.wrap_i64]; omega
              have hk11 : k < 11 := by have := of_decide_eq_true b3; omega
              simp only [envL, qt3, h, b1, b2, b3, hw10, h11, hs8, w8, w9, w10, go_sem, reduceCtorEq, ↓reduceIte, Nat.reduceAdd, Nat.reduceMul, Nat.reduceSub, Nat.reduceEqDiff, Nat.reduceLT, Nat.reduceBEq, Nat.reduceBNe, Nat.reduceLeDiff, Int.reduceLE, Int.reduceLT, Int.reduceToNat, Int.reduceEq, Int.reduceAdd, UInt8.reduceToNat, UInt32.reduceToNat, UInt64.reduceToNat, UInt8.reduceOfNat, UInt32.reduceOfNat, UInt64.reduceOfNat, Fin.isValue, Int.reduceSub, Int.reduceMul, Int.reduceNeg, Int.reduceMod, Int.reduceDiv, Int.reduceTDiv, Int.reduceTMod, Int.reduceBEq, Int.reduceBNe, Nat.reduceDiv, Nat.reducePow]
              repeat' apply And.intro
              rotate_right
              · refine again (k + 1) [] ⟨by omega, by omega, fun j hj => by rcases Nat.lt_or_ge j k with h' | h'; exact hk3 j h'; exact (show j = k by omega) ▸ hcd⟩ (by show 11 - (k + 1) < 11 - k; omega) ?_
                simp only [rnInv, envL, qt3, go_sem, reduceCtorEq, ↓reduceIte, Nat.reduceAdd, Nat.reduceMul, Nat.reduceSub, Nat.reduceEqDiff, Nat.reduceLT, Nat.reduceBEq, Nat.reduceBNe, Nat.reduceLeDiff, Int.reduceLE, Int.reduceLT, Int.reduceToNat, Int.reduceEq, Int.reduceAdd, UInt8.reduceToNat, UInt32.reduceToNat, UInt64.reduceToNat, UInt8.reduceOfNat, UInt32.reduceOfNat, UInt64.reduceOfNat, Fin.isValue, Int.reduceSub, Int.reduceMul, Int.reduceNeg, Int.reduceMod, Int.reduceDiv, Int.reduceTDiv, Int.reduceTMod, Int.reduceBEq, Int.reduceBNe, Nat.reduceDiv, Nat.reducePow]
              all_goals first | omega | exact rfl | exact id
      · have hr : runN s 11 a = k := runN_at s 11 a k hk1 hall (.inr fun e => by have := of_decide_eq_false h; have := e.1; omega)
        have hok := rnOk_of hr
        cases c1 : (((a + k : Nat) : Int) == a) with
        | true =>
          have hk0 : k = 0 := by have := eq_of_beq c1; omega
          obtain ⟨e1, e2⟩ := rn_bad hst (by rw [hok, hk0]; rfl)
          simp only [envL, qt3, h, c1, e1, e2, hw10, h11, go_sem, reduceCtorEq, ↓reduceIte, Nat.reduceAdd, Nat.reduceMul, Nat.reduceSub, Nat.reduceEqDiff, Nat.reduceLT, Nat.reduceBEq, Nat.reduceBNe, Nat.reduceLeDiff, Int.reduceLE, Int.reduceLT, Int.reduceToNat, Int.reduceEq, Int.reduceAdd, UInt8.reduceToNat, UInt32.reduceToNat, UInt64.reduceToNat, UInt8.reduceOfNat, UInt32.reduceOfNat, UInt64.reduceOfNat, Fin.isValue, Int.reduceSub, Int.reduceMul, Int.reduceNeg, Int.reduceMod, Int.reduceDiv, Int.reduceTDiv, Int.reduceTMod, Int.reduceBEq, Int.reduceBNe, Nat.reduceDiv, Nat.reducePow]
          all_goals ((repeat' apply And.intro) <;> first | omega | exact rfl | exact id)
        | false =>
          have hk0 : k ≠ 0 := fun e => by rw [e] at c1; simp at c1
          cases c2 : decide (((a + 10 : Nat) : Int) < ((a + k : Nat) : Int)) with
          | true =>
            have hk1 : 10 < k := by have := of_decide_eq_true c2; omega
            obtain ⟨e1, e2⟩ := rn_bad hst (by rw [hok, decide_eq_true hk1]; simp)
            simp only [envL, qt3, h, c1, c2, e1, e2, hw10, h11, go_sem, reduceCtorEq, ↓reduceIte, Nat.reduceAdd, Nat.reduceMul, Nat.reduceSub, Nat.reduceEqDiff, Nat.reduceLT, Nat.reduceBEq, Nat.reduceBNe, Nat.reduceLeDiff, Int.reduceLE, Int.reduceLT, Int.reduceToNat, Int.reduceEq, Int.reduceAdd, UInt8.reduceToNat, UInt32.reduceToNat, UInt64.reduceToNat, UInt8.reduceOfNat, UInt32.reduceOfNat, UInt64.reduceOfNat, Fin.isValue, Int.reduceSub, Int.reduceMul, Int.reduceNeg, Int.reduceMod, Int.reduceDiv, Int.reduceTDiv, Int.reduceTMod, Int.reduceBEq, Int.reduceBNe, Nat.reduceDiv, Nat.reducePow]
            all_goals ((repeat' apply And.intro) <;> first | omega | exact rfl | exact id)
          | false =>
            have hk1 : ¬ 10 < k := by have := of_decide_eq_false c2; omega
            cases c3 : (s.getD a 0 == 48) with
            | true =>
              obtain ⟨e1, e2⟩ := rn_bad hst (by rw [hok, c3]; simp)
              simp only [envL, qt3, h, c1, c2, c3, e1, e2, hw10, h11, go_sem, reduceCtorEq, ↓reduceIte, Nat.reduceAdd, Nat.reduceMul, Nat.reduceSub, Nat.reduceEqDiff, Nat.reduceLT, Nat.reduceBEq, Nat.reduceBNe, Nat.reduceLeDiff, Int.reduceLE, Int.reduceLT, Int.reduceToNat, Int.reduceEq, Int.reduceAdd, UInt8.reduceToNat, UInt32.reduceToNat, UInt64.reduceToNat, UInt8.reduceOfNat, UInt32.reduceOfNat, UInt64.reduceOfNat, Fin.isValue, Int.reduceSub, Int.reduceMul, Int.reduceNeg, Int.reduceMod, Int.reduceDiv, Int.reduceTDiv, Int.reduceTMod, Int.reduceBEq, Int.reduceBNe, Nat.reduceDiv, Nat.reducePow]
              all_goals ((repeat' apply And.intro) <;> first | omega | exact rfl | exact id)
            | false =>
              cases c4 : decide ((4294967296 : Int) ≤ (val (digN s a k) : Int)) with
              | true =>
                have hv4 : 4294967296 ≤ val (digN s a k) := by have := of_decide_eq_true c4; omega
                obtain ⟨e1, e2⟩ := rn_bad hst (by rw [hok, decide_eq_true hv4]; simp)
                simp only [envL, qt3, h, c1, c2, c3, c4, e1, e2, hw10, h11, go_sem, reduceCtorEq, ↓reduceIte, Nat.reduceAdd, Nat.reduceMul, Nat.reduceSub, Nat.reduceEqDiff, Nat.reduceLT, Nat.reduceBEq, Nat.reduceBNe, Nat.reduceLeDiff, Int.reduceLE, Int.reduceLT, Int.reduceToNat, Int.reduceEq, Int.reduceAdd, UInt8.reduceToNat, UInt32.reduceToNat, UInt64.reduceToNat, UInt8.reduceOfNat, UInt32.reduceOfNat, UInt64.reduceOfNat, Fin.isValue, Int.reduceSub, Int.reduceMul, Int.reduceNeg, Int.reduceMod, Int.reduceDiv, Int.reduceTDiv, Int.reduceTMod, Int.reduceBEq, Int.reduceBNe, Nat.reduceDiv, Nat.reducePow]
                all_goals ((repeat' apply And.intro) <;> first | omega | exact rfl | exact id)
              | false =>
                have hv4 : ¬ 4294967296 ≤ val (digN s a k) := by have := of_decide_eq_false c4; omega
                obtain ⟨e1, e2⟩ := rn_good hst hr (by rw [hok, decide_eq_false hk1, decide_eq_false hv4, c3, beq_eq_false_iff_ne.2 hk0]; rfl)
                simp only [envL, qt3, h, c1, c2, c3, c4, e1, e2, hw10, h11, go_sem, reduceCtorEq, ↓reduceIte, Nat.reduceAdd, Nat.reduceMul, Nat.reduceSub, Nat.reduceEqDiff, Nat.reduceLT, Nat.reduceBEq, Nat.reduceBNe, Nat.reduceLeDiff, Int.reduceLE, Int.reduceLT, Int.reduceToNat, Int.reduceEq, Int.reduceAdd, UInt8.reduceToNat, UInt32.reduceToNat, UInt64.reduceToNat, UInt8.reduceOfNat, UInt32.reduceOfNat, UInt64.reduceOfNat, Fin.isValue, Int.reduceSub, Int.reduceMul, Int.reduceNeg, Int.reduceMod, Int.reduceDiv, Int.reduceTDiv, Int.reduceTMod, Int.reduceBEq, Int.reduceBNe, Nat.reduceDiv, Nat.reducePow]
                all_goals ((repeat' apply And.intro) <;> first | omega | exact rfl | exact id)
  | true =>
    have hlt : a < s.length := by have := of_decide_eq_true hal; omega
    cases hc : (s.getD a 0 == 42) with
    | true =>
      have hst : rnStar s a = true := by unfold rnStar; rw [decide_eq_true hlt, hc]; rfl
      have e1 : rnV s a = 0 := by unfold rnV; rw [if_pos hst]
      have e2 : rnA s a = (a + 1 : Nat) := by unfold rnA; rw [if_pos hst]
      simp only [envL, qt3, hal, hc, e1, e2, hw1, go_sem, reduceCtorEq, ↓reduceIte, Nat.reduceAdd, Nat.reduceMul, Nat.reduceSub, Nat.reduceEqDiff, Nat.reduceLT, Nat.reduceBEq, Nat.reduceBNe, Nat.reduceLeDiff, Int.reduceLE, Int.reduceLT, Int.reduceToNat, Int.reduceEq, Int.reduceAdd, UInt8.reduceToNat, UInt32.reduceToNat, UInt64.reduceToNat, UInt8.reduceOfNat, UInt32.reduceOfNat, UInt64.reduceOfNat, Fin.isValue, Int.reduceSub, Int.reduceMul, Int.reduceNeg, Int.reduceMod, Int.reduceDiv, Int.reduceTDiv, Int.reduceTMod, Int.reduceBEq, Int.reduceBNe, Nat.reduceDiv, Nat.reducePow]
      all_goals omega
    | false =>
      have hst : rnStar s a = false := by unfold rnStar; rw [hc]; simp
      simp only [envL, qt3, hal, hc, hw1, go_sem, reduceCtorEq, ↓reduceIte, Nat.reduceAdd, Nat.reduceMul, Nat.reduceSub, Nat.reduceEqDiff, Nat.reduceLT, Nat.reduceBEq, Nat.reduceBNe, Nat.reduceLeDiff, Int.reduceLE, Int.reduceLT, Int.reduceToNat, Int.reduceEq, Int.reduceAdd, UInt8.reduceToNat, UInt32.reduceToNat, UInt64.reduceToNat, UInt8.reduceOfNat, UInt32.reduceOfNat, UInt64.reduceOfNat, Fin.isValue, Int.reduceSub, Int.reduceMul, Int.reduceNeg, Int.reduceMod, Int.reduceDiv, Int.reduceTDiv, Int.reduceTMod, Int.reduceBEq, Int.reduceBNe, Nat.reduceDiv, Nat.reducePow]
      refine ⟨⟨by omega, by omega⟩, loop_inv (envL_ok qt3_ok 74) (rnInv s a) (rnGo s a) (fun k => 11 - k) 0 [] ⟨Nat.zero_le _, ha, fun j hj => by omega⟩ ?_ ?_⟩
      · simp only [rnInv, hv0, Nat.add_zero, go_sem, reduceCtorEq, ↓reduceIte, Nat.reduceAdd, Nat.reduceMul, Nat.reduceSub, Nat.reduceEqDiff, Nat.reduceLT, Nat.reduceBEq, Nat.reduceBNe, Nat.reduceLeDiff, Int.reduceLE, Int.reduceLT, Int.reduceToNat, Int.reduceEq, Int.reduceAdd, UInt8.reduceToNat, UInt32.reduceToNat, UInt64.reduceToNat, UInt8.reduceOfNat, UInt32.reduceOfNat, UInt64.reduceOfNat, Fin.isValue, Int.reduceSub, Int.reduceMul, Int.reduceNeg, Int.reduceMod, Int.reduceDiv, Int.reduceTDiv, Int.reduceTMod, Int.reduceBEq, Int.reduceBNe, Nat.reduceDiv, Nat.reducePow]
      · intro k hk
        obtain ⟨hk1, hk2, hk3⟩ := hk
        have hall : ∀ j, j < k → a + j < s.length ∧ isDig (s.getD (a + j) 0) = true := fun j hj => ⟨by omega, hk3 j hj⟩
        have hv := digN_lt s a k hk1 hall
        have hw10 : IntKind.i64.wrap ((a : Int) + 10) = ((a + 10 : Nat) : Int) := by rw [IntKind.wrap_i64]; omega
        have h11 : IntKind.i64.wrap ((a : Int) + 11) = ((a + 11 : Nat) : Int) := by rw [IntKind.wrap_i64]; omega
        simp only [envL, qt3, rnInv, hw10, h11, go_sem, reduceCtorEq, ↓reduceIte, Nat.reduceAdd, Nat.reduceMul, Nat.reduceSub, Nat.reduceEqDiff, Nat.reduceLT, Nat.reduceBEq, Nat.reduceBNe, Nat.reduceLeDiff, Int.reduceLE, Int.reduceLT, Int.reduceToNat, Int.reduceEq, Int.reduceAdd, UInt8.reduceToNat, UInt32.reduceToNat, UInt64.reduceToNat, UInt8.reduceOfNat, UInt32.reduceOfNat, UInt64.reduceOfNat, Fin.isValue, Int.reduceSub, Int.reduceMul, Int.reduceNeg, Int.reduceMod, Int.reduceDiv, Int.reduceTDiv, Int.reduceTMod, Int.reduceBEq, Int.reduceBNe, Nat.reduceDiv, Nat.reducePow]
        refine br (fun h => ?_) fun h => ?_
        · have hlt' : a + k < s.length := by have := of_decide_eq_true h; omega
          cases b1 : decide (48 ≤ s.getD (a + k) 0) with
          | false =>
            have hr : runN s 11 a = k := runN_at s 11 a k hk1 hall (.inr fun e => by have := e.2; rw [dot, b1] at this; simp at this)
            have hok := rnOk_of hr
            cases c1 : (((a + k : Nat) : Int) == a) with
            | true =>
              have hk0 : k = 0 := by have := eq_of_beq c1; omega
              obtain ⟨e1, e2⟩ := rn_bad hst (by rw [hok, hk0]; rfl)
              simp only [envL, qt3, h, b1, c1, e1, e2, hw10, h11, go_sem, reduceCtorEq, ↓reduceIte, Nat.reduceAdd, Nat.reduceMul, Nat.reduceSub, Nat.reduceEqDiff, Nat.reduceLT, Nat.reduceBEq, Nat.reduceBNe, Nat.reduceLeDiff, Int.reduceLE, Int.reduceLT, Int.reduceToNat, Int.reduceEq, Int.reduceAdd, UInt8.reduceToNat, UInt32.reduceToNat, UInt64.reduceToNat, UInt8.reduceOfNat, UInt32.reduceOfNat, UInt64.reduceOfNat, Fin.isValue, Int.reduceSub, Int.reduceMul, Int.reduceNeg, Int.reduceMod, Int.reduceDiv, Int.reduceTDiv, Int.reduceTMod, Int.reduceBEq, Int.reduceBNe, Nat.reduceDiv, Nat.reducePow]
              all_goals ((repeat' apply And.intro) <;> first | omega | exact rfl | exact id)
            | false =>
              have hk0 : k ≠ 0 := fun e => by rw [e] at c1; simp at c1
              cases c2 : decide (((a + 10 : Nat) : Int) < ((a + k : Nat) : Int)) with
              | true =>
                have hk1 : 10 < k := by have := of_decide_eq_true c2; omega
                obtain ⟨e1, e2⟩ := rn_bad hst (by rw [hok, decide_eq_true hk1]; simp)
                simp only [envL, qt3, h, b1, c1, c2, e1, e2, hw10, h11, go_sem, reduceCtorEq, ↓reduceIte, Nat.reduceAdd, Nat.reduceMul, Nat.reduceSub, Nat.reduceEqDiff, Nat.reduceLT, Nat.reduceBEq, Nat.reduceBNe, Nat.reduceLeDiff, Int.reduceLE, Int.reduceLT, Int.reduceToNat, Int.reduceEq, Int.reduceAdd, UInt8.reduceToNat, UInt32.reduceToNat, UInt64.reduceToNat, UInt8.reduceOfNat, UInt32.reduceOfNat, UInt64.reduceOfNat, Fin.isValue, Int.reduceSub, Int.reduceMul, Int.reduceNeg, Int.reduceMod, Int.reduceDiv, Int.reduceTDiv, Int.reduceTMod, Int.reduceBEq, Int.reduceBNe, Nat.reduceDiv, Nat.reducePow]
                all_goals ((repeat' apply And.intro) <;> first | omega | exact rfl | exact id)
              | false =>
                have hk1 : ¬ 10 < k := by have := of_decide_eq_false c2; omega
                cases c3 : (s.getD a 0 == 48) with
                | true =>
                  obtain ⟨e1, e2⟩ := rn_bad hst (by rw [hok, c3]; simp)
                  simp only [envL, qt3, h, b1, c1, c2, c3, e1, e2, hw10, h11, go_sem, reduceCtorEq, ↓reduceIte, Nat.reduceAdd, Nat.reduceMul, Nat.reduceSub, Nat.reduceEqDiff, Nat.reduceLT, Nat.reduceBEq, Nat.reduceBNe, Nat.reduceLeDiff, Int.reduceLE, Int.reduceLT, Int.reduceToNat, Int.reduceEq, Int.reduceAdd, UInt8.reduceToNat, UInt32.reduceToNat, UInt64.reduceToNat, UInt8.reduceOfNat, UInt32.reduceOfNat, UInt64.reduceOfNat, Fin.isValue, Int.reduceSub, Int.reduceMul, Int.reduceNeg, Int.reduceMod, Int.reduceDiv, Int.reduceTDiv, Int.reduceTMod, Int.reduceBEq, Int.reduceBNe, Nat.reduceDiv, Nat.reducePow]
                  all_goals ((repeat' apply And.intro) <;> first | omega | exact rfl | exact id)
                | false =>
                  cases c4 : decide ((4294967296 : Int) ≤ (val (digN s a k) : Int)) with
                  | true =>
                    have hv4 : 4294967296 ≤ val (digN s a k) := by have := of_decide_eq_true c4; omega
                    obtain ⟨e1, e2⟩ := rn_bad hst (by rw [hok, decide_eq_true hv4]; simp)
                    simp only [envL, qt3, h, b1, c1, c2, c3, c4, e1, e2, hw10, h11, go_sem, reduceCtorEq, ↓reduceIte, Nat.reduceAdd, Nat.reduceMul, Nat.reduceSub, Nat.reduceEqDiff, Nat.reduceLT, Nat.reduceBEq, Nat.reduceBNe, Nat.reduceLeDiff, Int.reduceLE, Int.reduceLT, Int.reduceToNat, Int.reduceEq, Int.reduceAdd, UInt8.reduceToNat, UInt32.reduceToNat, UInt64.reduceToNat, UInt8.reduceOfNat, UInt32.reduceOfNat, UInt64.reduceOfNat, Fin.isValue, Int.reduceSub, Int.reduceMul, Int.reduceNeg, Int.reduceMod, Int.reduceDiv, Int.reduceTDiv, Int.reduceTMod, Int.reduceBEq, Int.reduceBNe, Nat.reduceDiv, Nat.reducePow]
                    all_goals ((repeat' apply And.intro) <;> first | omega | exact rfl | exact id)
                  | false =>
                    have hv4 : ¬ 4294967296 ≤ val (digN s a k) := by have := of_decide_eq_false c4; omega
                    obtain ⟨e1, e2⟩ := rn_good hst hr (by rw [hok, decide_eq_false hk1, decide_eq_false hv4, c3, beq_eq_false_iff_ne.2 hk0]; rfl)
                    simp only [envL, qt3, h, b1, c1, c2, c3, c4, e1, e2, hw10, h11, go_sem, reduceCtorEq, ↓reduceIte, Nat.reduceAdd, Nat.reduceMul, Nat.reduceSub, Nat.reduceEqDiff, Nat.reduceLT, Nat.reduceBEq, Nat.reduceBNe, Nat.reduceLeDiff, Int.reduceLE, Int.reduceLT, Int.reduceToNat, Int.reduceEq, Int.reduceAdd, UInt8.reduceToNat, UInt32.reduceToNat, UInt64.reduceToNat, UInt8.reduceOfNat, UInt32.reduceOfNat, UInt64.reduceOfNat, Fin.isValue, Int.reduceSub, Int.reduceMul, Int.reduceNeg, Int.reduceMod, Int.reduceDiv, Int.reduceTDiv, Int.reduceTMod, Int.reduceBEq, Int.reduceBNe, Nat.reduceDiv, Nat.reducePow]
                    all_goals ((repeat' apply And.intro) <;> first | omega | exact rfl | exact id)
          | true =>
            cases b2 : decide (s.getD (a + k) 0 ≤ 57) with
            | false =>
              have hr : runN s 11 a = k := runN_at s 11 a k hk1 hall (.inr fun e => by have := e.2; rw [dot, b1, b2] at this; simp at this)
              have hok := rnOk_of hr
              cases c1 : (((a + k : Nat) : Int) == a) with
              | true =>
                have hk0 : k = 0 := by have := eq_of_beq c1; omega
                obtain ⟨e1, e2⟩ := rn_bad hst (by rw [hok, hk0]; rfl)
                simp only [envL, qt3, h, b1, b2, c1, e1, e2, hw10, h11, go_sem, reduceCtorEq, ↓reduceIte, Nat.reduceAdd, Nat.reduceMul, Nat.reduceSub, Nat.reduceEqDiff, Nat.reduceLT, Nat.reduceBEq, Nat.reduceBNe, Nat.reduceLeDiff, Int.reduceLE, Int.reduceLT, Int.reduceToNat, Int.reduceEq, Int.reduceAdd, UInt8.reduceToNat, UInt32.reduceToNat, UInt64.reduceToNat, UInt8.reduceOfNat, UInt32.reduceOfNat, UInt64.reduceOfNat, Fin.isValue, Int.reduceSub, Int.reduceMul, Int.reduceNeg, Int.reduceMod, Int.reduceDiv, Int.reduceTDiv, Int.reduceTMod, Int.reduceBEq, Int.reduceBNe, Nat.reduceDiv, Nat.reducePow]
                all_goals ((repeat' apply And.intro) <;> first | omega | exact rfl | exact id)
              | false =>
                have hk0 : k ≠ 0 := fun e => by rw [e] at c1; simp at c1
                cases c2 : decide (((a + 10 : Nat) : Int) < ((a + k : Nat) : Int)) with
                | true =>
                  have hk1 : 10 < k := by have := of_decide_eq_true c2; omega
                  obtain ⟨e1, e2⟩ := rn_bad hst (by rw [hok, decide_eq_true hk1]; simp)
                  simp only [envL, qt3, h, b1, b2, c1, c2, e1, e2, hw10, h11, go_sem, reduceCtorEq, ↓reduceIte, Nat.reduceAdd, Nat.reduceMul, Nat.reduceSub, Nat.reduceEqDiff, Nat.reduceLT, Nat.reduceBEq, Nat.reduceBNe, Nat.reduceLeDiff, Int.reduceLE, Int.reduceLT, Int.reduceToNat, Int.reduceEq, Int.reduceAdd, UInt8.reduceToNat, UInt32.reduceToNat, UInt64.reduceToNat, UInt8.reduceOfNat, UInt32.reduceOfNat, UInt64.reduceOfNat, Fin.isValue, Int.reduceSub, Int.reduceMul, Int.reduceNeg, Int.reduceMod, Int.reduceDiv, Int.reduceTDiv, Int.reduceTMod, Int.reduceBEq, Int.reduceBNe, Nat.reduceDiv, Nat.reducePow]
                  all_goals ((repeat' apply And.intro) <;> first | omega | exact rfl | exact id)
                | false =>
                  have hk1 : ¬ 10 < k := by have := of_decide_eq_false c2; omega
                  cases c3 : (s.getD a 0 == 48) with
                  | true =>
                    obtain ⟨e1, e2⟩ := rn_bad hst (by rw [hok, c3]; simp)
                    simp only [envL, qt3, h, b1, b2, c1, c2, c3, e1, e2, hw10, h11, go_sem, reduceCtorEq, ↓reduceIte, Nat.reduceAdd, Nat.reduceMul, Nat.reduceSub, Nat.reduceEqDiff, Nat.reduceLT, Nat.reduceBEq, Nat.reduceBNe, Nat.reduceLeDiff, Int.reduceLE, Int.reduceLT, Int.reduceToNat, Int.reduceEq, Int.reduceAdd, UInt8.reduceToNat, UInt32.reduceToNat, UInt64.reduceToNat, UInt8.reduceOfNat, UInt32.reduceOfNat, UInt64.reduceOfNat, Fin.isValue, Int.reduceSub, Int.reduceMul, Int.reduceNeg, Int.reduceMod, Int.reduceDiv, Int.reduceTDiv, Int.reduceTMod, Int.reduceBEq, Int.reduceBNe, Nat.reduceDiv, Nat.reducePow]
                    all_goals ((repeat' apply And.intro) <;> first | omega | exact rfl | exact id)
                  | false =>
                    cases c4 : decide ((4294967296 : Int) ≤ (val (digN s a k) : Int)) with
                    | true =>
                      have hv4 : 4294967296 ≤ val (digN s a k) := by have := of_decide_eq_true c4; omega
                      obtain ⟨e1, e2⟩ := rn_bad hst (by rw [hok, decide_eq_true hv4]; simp)
                      simp only [envL, qt3, h, b1, b2, c1, c2, c3, c4, e1, e2, hw10, h11, go_sem, reduceCtorEq, ↓reduceIte, Nat.reduceAdd, Nat.reduceMul, Nat.reduceSub, Nat.reduceEqDiff, Nat.reduceLT, Nat.reduceBEq, Nat.reduceBNe, Nat.reduceLeDiff, Int.reduceLE, Int.reduceLT, Int.reduceToNat, Int.reduceEq, Int.reduceAdd, UInt8.reduceToNat, UInt32.reduceToNat, UInt64.reduceToNat, UInt8.reduceOfNat, UInt32.reduceOfNat, UInt64.reduceOfNat, Fin.isValue, Int.reduceSub, Int.reduceMul, Int.reduceNeg, Int.reduceMod, Int.reduceDiv, Int.reduceTDiv, Int.reduceTMod, Int.reduceBEq, Int.reduceBNe, Nat.reduceDiv, Nat.reducePow]
                      all_goals ((repeat' apply And.intro) <;> first | omega | exact rfl | exact id)
                    | false =>
                      have hv4 : ¬ 4294967296 ≤ val (digN s a k) := by have := of_decide_eq_false c4; omega
                      obtain ⟨e1, e2⟩ := rn_good hst hr (by rw [hok, decide_eq_false hk1, decide_eq_false hv4, c3, beq_eq_false_iff_ne.2 hk0]; rfl)
                      simp only [envL, qt3, h, b1, b2, c1, c2, c3, c4, e1, e2, hw10, h11, go_sem, reduceCtorEq, ↓reduceIte, Nat.reduceAdd, Nat.reduceMul, Nat.reduceSub, Nat.reduceEqDiff, Nat.reduceLT, Nat.reduceBEq, Nat.reduceBNe, Nat.reduceLeDiff, Int.reduceLE, Int.reduceLT, Int.reduceToNat, Int.reduceEq, Int.reduceAdd, UInt8.reduceToNat, UInt32.reduceToNat, UInt64.reduceToNat, UInt8.reduceOfNat, UInt32.reduceOfNat, UInt64.reduceOfNat, Fin.isValue, Int.reduceSub, Int.reduceMul, Int.reduceNeg, Int.reduceMod, Int.reduceDiv, Int.reduceTDiv, Int.reduceTMod, Int.reduceBEq, Int.reduceBNe, Nat.reduceDiv, Nat.reducePow]
                      all_goals ((repeat' apply And.intro) <;> first | omega | exact rfl | exact id)
            | true =>
              cases b3 : decide (((a + k : Nat) : Int) < ((a + 11 : Nat) : Int)) with
              | false =>
                have hr : runN s 11 a = k := runN_at s 11 a k hk1 hall (.inl (by have := of_decide_eq_false b3; omega))
                have hok := rnOk_of hr
                cases c1 : (((a + k : Nat) : Int) == a) with
                | true =>
                  have hk0 : k = 0 := by have := eq_of_beq c1; omega
                  obtain ⟨e1, e2⟩ := rn_bad hst (by rw [hok, hk0]; rfl)
                  simp only [envL, qt3, h, b1, b2, b3, c1, e1, e2, hw10, h11, go_sem, reduceCtorEq, ↓reduceIte, Nat.reduceAdd, Nat.reduceMul, Nat.reduceSub, Nat.reduceEqDiff, Nat.reduceLT, Nat.reduceBEq, Nat.reduceBNe, Nat.reduceLeDiff, Int.reduceLE, Int.reduceLT, Int.reduceToNat, Int.reduceEq, Int.reduceAdd, UInt8.reduceToNat, UInt32.reduceToNat, UInt64.reduceToNat, UInt8.reduceOfNat, UInt32.reduceOfNat, UInt64.reduceOfNat, Fin.isValue, Int.reduceSub, Int.reduceMul, Int.reduceNeg, Int.reduceMod, Int.reduceDiv, Int.reduceTDiv, Int.reduceTMod, Int.reduceBEq, Int.reduceBNe, Nat.reduceDiv, Nat.reducePow]
                  all_goals ((repeat' apply And.intro) <;> first | omega | exact rfl | exact id)
                | false =>
                  have hk0 : k ≠ 0 := fun e => by rw [e] at c1; simp at c1
                  cases c2 : decide (((a + 10 : Nat) : Int) < ((a + k : Nat) : Int)) with
                  | true =>
                    have hk1 : 10 < k := by have := of_decide_eq_true c2; omega
                    obtain ⟨e1, e2⟩ := rn_bad hst (by rw [hok, decide_eq_true hk1]; simp)
                    simp only [envL, qt3, h, b1, b2, b3, c1, c2, e1, e2, hw10, h11, go_sem, reduceCtorEq, ↓reduceIte, Nat.reduceAdd, Nat.reduceMul, Nat.reduceSub, Nat.reduceEqDiff, Nat.reduceLT, Nat.reduceBEq, Nat.reduceBNe, Nat.reduceLeDiff, Int.reduceLE, Int.reduceLT, Int.reduceToNat, Int.reduceEq, Int.reduceAdd, UInt8.reduceToNat, UInt32.reduceToNat, UInt64.reduceToNat, UInt8.reduceOfNat, UInt32.reduceOfNat, UInt64.reduceOfNat, Fin.isValue, Int.reduceSub, Int.reduceMul, Int.reduceNeg, Int.reduceMod, Int.reduceDiv, Int.reduceTDiv, Int.reduceTMod, Int.reduceBEq, Int.reduceBNe, Nat.reduceDiv, Nat.reducePow]
                    all_goals ((repeat' apply And.intro) <;> first | omega | exact rfl | exact id)
                  | false =>
                    have hk1 : ¬ 10 < k := by have := of_decide_eq_false c2; omega
                    cases c3 : (s.getD a 0 == 48) with
                    | true =>
                      obtain ⟨e1, e2⟩ := rn_bad hst (by rw [hok, c3]; simp)
                      simp only [envL, qt3, h, b1, b2, b3, c1, c2, c3, e1, e2, hw10, h11, go_sem, reduceCtorEq, ↓reduceIte, Nat.reduceAdd, Nat.reduceMul, Nat.reduceSub, Nat.reduceEqDiff, Nat.reduceLT, Nat.reduceBEq, Nat.reduceBNe, Nat.reduceLeDiff, Int.reduceLE, Int.reduceLT, Int.reduceToNat, Int.reduceEq, Int.reduceAdd, UInt8.reduceToNat, UInt32.reduceToNat, UInt64.reduceToNat, UInt8.reduceOfNat, UInt32.reduceOfNat, UInt64.reduceOfNat, Fin.isValue, Int.reduceSub, Int.reduceMul, Int.reduceNeg, Int.reduceMod, Int.reduceDiv, Int.reduceTDiv, Int.reduceTMod, Int.reduceBEq, Int.reduceBNe, Nat.reduceDiv, Nat.reducePow]
                      all_goals ((repeat' apply And.intro) <;> first | omega | exact rfl | exact id)
                    | false =>
                      cases c4 : decide ((4294967296 : Int) ≤ (val (digN s a k) : Int)) with
                      | true =>
                        have hv4 : 4294967296 ≤ val (digN s a k) := by have := of_decide_eq_true c4; omega
                        obtain ⟨e1, e2⟩ := rn_bad hst (by rw [hok, decide_eq_true hv4]; simp)
                        simp only [envL, qt3, h, b1, b2, b3, c1, c2, c3, c4, e1, e2, hw10, h11, go_sem, reduceCtorEq, ↓reduceIte, Nat.reduceAdd, Nat.reduceMul, Nat.reduceSub, Nat.reduceEqDiff, Nat.reduceLT, Nat.reduceBEq, Nat.reduceBNe, Nat.reduceLeDiff, Int.reduceLE, Int.reduceLT, Int.reduceToNat, Int.reduceEq, Int.reduceAdd, UInt8.reduceToNat, UInt32.reduceToNat, UInt64.reduceToNat, UInt8.reduceOfNat, UInt32.reduceOfNat, UInt64.reduceOfNat, Fin.isValue, Int.reduceSub, Int.reduceMul, Int.reduceNeg, Int.reduceMod, Int.reduceDiv, Int.reduceTDiv, Int.reduceTMod, Int.reduceBEq, Int.reduceBNe, Nat.reduceDiv, Nat.reducePow]
                        all_goals ((repeat' apply And.intro) <;> first | omega | exact rfl | exact id)
                      | false =>
                        have hv4 : ¬ 4294967296 ≤ val (digN s a k) := by have := of_decide_eq_false c4; omega
                        obtain ⟨e1, e2⟩ := rn_good hst hr (by rw [hok, decide_eq_false hk1, decide_eq_false hv4, c3, beq_eq_false_iff_ne.2 hk0]; rfl)
                        simp only [envL, qt3, h, b1, b2, b3, c1, c2, c3, c4, e1, e2, hw10, h11, go_sem, reduceCtorEq, ↓reduceIte, Nat.reduceAdd, Nat.reduceMul, Nat.reduceSub, Nat.reduceEqDiff, Nat.reduceLT, Nat.reduceBEq, Nat.reduceBNe, Nat.reduceLeDiff, Int.reduceLE, Int.reduceLT, Int.reduceToNat, Int.reduceEq, Int.reduceAdd, UInt8.reduceToNat, UInt32.reduceToNat, UInt64.reduceToNat, UInt8.reduceOfNat, UInt32.reduceOfNat, UInt64.reduceOfNat, Fin.isValue, Int.reduceSub, Int.reduceMul, Int.reduceNeg, Int.reduceMod, Int.reduceDiv, Int.reduceTDiv, Int.reduceTMod, Int.reduceBEq, Int.reduceBNe, Nat.reduceDiv, Nat.reducePow]
                        all_goals ((repeat' apply And.intro) <;> first | omega | exact rfl | exact id)
              | true =>
                have hcd : isDig (s.getD (a + k) 0) = true := by rw [dot, b1, b2]; rfl
                have hs8 := sub48' _ hcd
                have w8 : IntKind.i64.wrap (10 * (val (digN s a k) : Int)) = ((10 * val (digN s a k) : Nat) : Int) := by rw [IntKind.wrap_i64]; omega
                have hd57 := dig_of _ hcd
                have w9 : IntKind.i64.wrap (((10 * val (digN s a k) : Nat) : Int) + (((s.getD (a + k) 0).toNat - 48 : Nat) : Int)) = ((val (digN s a (k + 1)) : Nat) : Int) := by
                  rw [digN_snoc s a k hlt', IntKind.wrap_i64]; omega
                have w10 : IntKind.i64.wrap (((a + k : Nat) : Int) + 1) = ((a + (k + 1) : Nat) : Int) := by rw [IntKind.wrap_i64]; omega
                have hk11 : k < 11 := by have := of_decide_eq_true b3; omega
                simp only [envL, qt3, h, b1, b2, b3, hw10, h11, hs8, w8, w9, w10, go_sem, reduceCtorEq, ↓reduceIte, Nat.reduceAdd, Nat.reduceMul, Nat.reduceSub, Nat.reduceEqDiff, Nat.reduceLT, Nat.reduceBEq, Nat.reduceBNe, Nat.reduceLeDiff, Int.reduceLE, Int.reduceLT, Int.reduceToNat, Int.reduceEq, Int.reduceAdd, UInt8.reduceToNat, UInt32.reduceToNat, UInt64.reduceToNat, UInt8.reduceOfNat, UInt32.reduceOfNat, UInt64.reduceOfNat, Fin.isValue, Int.reduceSub, Int.reduceMul, Int.reduceNeg, Int.reduceMod, Int.reduceDiv, Int.reduceTDiv, Int.reduceTMod, Int.reduceBEq, Int.reduceBNe, Nat.reduceDiv, Nat.reducePow]
                repeat' apply And.intro
                rotate_right
                · refine again (k + 1) [] ⟨by omega, by omega, fun j hj => by rcases Nat.lt_or_ge j k with h' | h'; exact hk3 j h'; exact (show j = k by omega) ▸ hcd⟩ (by show 11 - (k + 1) < 11 - k; omega) ?_
                  simp only [rnInv, envL, qt3, go_sem, reduceCtorEq, ↓reduceIte, Nat.reduceAdd, Nat.reduceMul, Nat.reduceSub, Nat.reduceEqDiff, Nat.reduceLT, Nat.reduceBEq, Nat.reduceBNe, Nat.reduceLeDiff, Int.reduceLE, Int.reduceLT, Int.reduceToNat, Int.reduceEq, Int.reduceAdd, UInt8.reduceToNat, UInt32.reduceToNat, UInt64.reduceToNat, UInt8.reduceOfNat, UInt32.reduceOfNat, UInt64.reduceOfNat, Fin.isValue, Int.reduceSub, Int.reduceMul, Int.reduceNeg, Int.reduceMod, Int.reduceDiv, Int.reduceTDiv, Int.reduceTMod, Int.reduceBEq, Int.reduceBNe, Nat.reduceDiv, Nat.reducePow]
                all_goals first | omega | exact rfl | exact id
        · have hr : runN s 11 a = k := runN_at s 11 a k hk1 hall (.inr fun e => by have := of_decide_eq_false h; have := e.1; omega)
          have hok := rnOk_of hr
          cases c1 : (((a + k : Nat) : Int) == a) with
          | true =>
            have hk0 : k = 0 := by have := eq_of_beq c1; omega
            obtain ⟨e1, e2⟩ := rn_bad hst (by rw [hok, hk0]; rfl)
            simp only [envL, qt3, h, c1, e1, e2, hw10, h11, go_sem, reduceCtorEq, ↓reduceIte, Nat.reduceAdd, Nat.reduceMul, Nat.reduceSub, Nat.reduceEqDiff, Nat.reduceLT, Nat.reduceBEq, Nat.reduceBNe, Nat.reduceLeDiff, Int.reduceLE, Int.reduceLT, Int.reduceToNat, Int.reduceEq, Int.reduceAdd, UInt8.reduceToNat, UInt32.reduceToNat, UInt64.reduceToNat, UInt8.reduceOfNat, UInt32.reduceOfNat, UInt64.reduceOfNat, Fin.isValue, Int.reduceSub, Int.reduceMul, Int.reduceNeg, Int.reduceMod, Int.reduceDiv, Int.reduceTDiv, Int.reduceTMod, Int.reduceBEq, Int.reduceBNe, Nat.reduceDiv, Nat.reducePow]
            all_goals ((repeat' apply And.intro) <;> first | omega | exact rfl | exact id)
          | false =>
            have hk0 : k ≠ 0 := fun e => by rw [e] at c1; simp at c1
            cases c2 : decide (((a + 10 : Nat) : Int) < ((a + k : Nat) : Int)) with
            | true =>
              have hk1 : 10 < k := by have := of_decide_eq_true c2; omega
              obtain ⟨e1, e2⟩ := rn_bad hst (by rw [hok, decide_eq_true hk1]; simp)
              simp only [envL, qt3, h, c1, c2, e1, e2, hw10, h11, go_sem, reduceCtorEq, ↓reduceIte, Nat.reduceAdd, Nat.reduceMul, Nat.reduceSub, Nat.reduceEqDiff, Nat.reduceLT, Nat.reduceBEq, Nat.reduceBNe, Nat.reduceLeDiff, Int.reduceLE, Int.reduceLT, Int.reduceToNat, Int.reduceEq, Int.reduceAdd, UInt8.reduceToNat, UInt32.reduceToNat, UInt64.reduceToNat, UInt8.reduceOfNat, UInt32.reduceOfNat, UInt64.reduceOfNat, Fin.isValue, Int.reduceSub, Int.reduceMul, Int.reduceNeg, Int.reduceMod, Int.reduceDiv, Int.reduceTDiv, Int.reduceTMod, Int.reduceBEq, Int.reduceBNe, Nat.reduceDiv, Nat.reducePow]
              all_goals ((repeat' apply And.intro) <;> first | omega | exact rfl | exact id)
            | false =>
              have hk1 : ¬ 10 < k := by have := of_decide_eq_false c2; omega
              cases c3 : (s.getD a 0 == 48) with
              | true =>
                obtain ⟨e1, e2⟩ := rn_bad hst (by rw [hok, c3]; simp)
                simp only [envL, qt3, h, c1, c2, c3, e1, e2, hw10, h11, go_sem, reduceCtorEq, ↓reduceIte, Nat.reduceAdd, Nat.reduceMul, Nat.reduceSub, Nat.reduceEqDiff, Nat.reduceLT, Nat.reduceBEq, Nat.reduceBNe, Nat.reduceLeDiff, Int.reduceLE, Int.reduceLT, Int.reduceToNat, Int.reduceEq, Int.reduceAdd, UInt8.reduceToNat, UInt32.reduceToNat, UInt64.reduceToNat, UInt8.reduceOfNat, UInt32.reduceOfNat, UInt64.reduceOfNat, Fin.isValue, Int.reduceSub, Int.reduceMul, Int.reduceNeg, Int.reduceMod, Int.reduceDiv, Int.reduceTDiv, Int.reduceTMod, Int.reduceBEq, Int.reduceBNe, Nat.reduceDiv, Nat.reducePow]
                all_goals ((repeat' apply And.intro) <;> first | omega | exact rfl | exact id)
              | false =>
                cases c4 : decide ((4294967296 : Int) ≤ (val (digN s a k) : Int)) with
                | true =>
                  have hv4 : 4294967296 ≤ val (digN s a k) := by have := of_decide_eq_true c4; omega
                  obtain ⟨e1, e2⟩ := rn_bad hst (by rw [hok, decide_eq_true hv4]; simp)
                  simp only [envL, qt3, h, c1, c2, c3, c4, e1, e2, hw10, h11, go_sem, reduceCtorEq, ↓reduceIte, Nat.reduceAdd, Nat.reduceMul, Nat.reduceSub, Nat.reduceEqDiff, Nat.reduceLT, Nat.reduceBEq, Nat.reduceBNe, Nat.reduceLeDiff, Int.reduceLE, Int.reduceLT, Int.reduceToNat, Int.reduceEq, Int.reduceAdd, UInt8.reduceToNat, UInt32.reduceToNat, UInt64.reduceToNat, UInt8.reduceOfNat, UInt32.reduceOfNat, UInt64.reduceOfNat, Fin.isValue, Int.reduceSub, Int.reduceMul, Int.reduceNeg, Int.reduceMod, Int.reduceDiv, Int.reduceTDiv, Int.reduceTMod, Int.reduceBEq, Int.reduceBNe, Nat.reduceDiv, Nat.reducePow]
                  all_goals ((repeat' apply And.intro) <;> first | omega | exact rfl | exact id)
                | false =>
                  have hv4 : ¬ 4294967296 ≤ val (digN s a k) := by have := of_decide_eq_false c4; omega
                  obtain ⟨e1, e2⟩ := rn_good hst hr (by rw [hok, decide_eq_false hk1, decide_eq_false hv4, c3, beq_eq_false_iff_ne.2 hk0]; rfl)
                  simp only [envL, qt3, h, c1, c2, c3, c4, e1, e2, hw10, h11, go_sem, reduceCtorEq, ↓reduceIte, Nat.reduceAdd, Nat.reduceMul, Nat.reduceSub, Nat.reduceEqDiff, Nat.reduceLT, Nat.reduceBEq, Nat.reduceBNe, Nat.reduceLeDiff, Int.reduceLE, Int.reduceLT, Int.reduceToNat, Int.reduceEq, Int.reduceAdd, UInt8.reduceToNat, UInt32.reduceToNat, UInt64.reduceToNat, UInt8.reduceOfNat, UInt32.reduceOfNat, UInt64.reduceOfNat, Fin.isValue, Int.reduceSub, Int.reduceMul, Int.reduceNeg, Int.reduceMod, Int.reduceDiv, Int.reduceTDiv, Int.reduceTMod, Int.reduceBEq, Int.reduceBNe, Nat.reduceDiv, Nat.reducePow]
                  all_goals ((repeat' apply And.intro) <;> first | omega | exact rfl | exact id)
theorem refNumber14_tri' (s : List UInt8) (a : Int) (h1 : s.length ≤ 65536) (h2 : 0 ≤ a) (h3 : a ≤ s.length) : TriG Tryd.prog GL 54 [.one (.str s), .one (.num a)] [] (.tup [.one (.num (rnV s a.toNat)), .one (.num (rnA s a.toNat))]) [] := by
  have := refNumber14_tri s a.toNat h1 (by omega)
  rw [Int.toNat_of_nonneg h2] at this
  exact this
def refNumber14C : Con := con0 fun args => match args with
  | [.one (.str s), .one (.num a)] => some (.tup [.one (.num (rnV s a.toNat)), .one (.num (rnA s a.toNat))], [s.length ≤ 65536, 0 ≤ a, a ≤ s.length])
  | _ => none
theorem refNumber14C_ok : ConOkG Tryd.prog GL 54 refNumber14C := con0_okG Tryd.func54 rfl rfl fun args res ob h hob => by
  split at h
  · injection h with h; injection h with h1 h2; subst h1; subst h2; exact refNumber14_tri' _ _ hob.1 hob.2.1 hob.2.2.1
  · cases h
end Go.Proofs.YtgfcdkbbkgamnaaDoor
