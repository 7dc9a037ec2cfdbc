/-
  Layer 14: the text of numbers, parsed, has just these numbers.
-/
import Derived.Test.YtgfcdkbbkgamnaaDoorTi
import Derived.Test.YtgfcdkbbkgamnaaDoorRx
import Derived.Test.YtgfcdkbbkgamnaaDoorTv
namespace Go.Proofs.YtgfcdkbbkgamnaaDoor
open Go Go.RowKit
set_option maxHeartbeats 4000000
set_option linter.unusedSimpArgs false
set_option linter.unusedVariables false
theorem no_dig {x : List UInt8} (h : x.all isDig = true) {c : UInt8} (hc : isDig c = false) : ∀ y ∈ x, y ≠ c := fun y hy e => by
  have := List.all_eq_true.1 h y hy
  rw [e, hc] at this; cases this
/-- Numbers that a set may hold. -/
def inU (l : List Int) : Prop := ∀ x ∈ l, 1 ≤ x ∧ x < 4294967296
theorem inU_at {l : List Int} (h : inU l) {k : Nat} (hk : k < l.length) : 1 ≤ l.getD k 0 ∧ l.getD k 0 < 4294967296 := by
  rw [List.getD_eq_getElem?_getD, List.getElem?_eq_getElem hk]
  exact h _ (List.getElem_mem hk)
theorem itoa_num {v : Int} (h : 1 ≤ v ∧ v < 4294967296) : (Lib.itoa v).all isDig = true ∧ tnB (Lib.itoa v) = true ∧ tnV (Lib.itoa v) = v := by
  obtain ⟨h1, h2⟩ := num_back (Lib.itoa v) v rfl (by omega)
  have ha := (isNum_all h1).1
  have hn : numB (Lib.itoa v) = true := by
    unfold numB
    rw [h1, decide_eq_true (show 1 ≤ val (Lib.itoa v) by omega), decide_eq_true (show val (Lib.itoa v) < 4294967296 by omega)]; rfl
  have h42 : ¬ Lib.itoa v = [42] := fun e => by rw [e] at ha; simp [isDig] at ha
  refine ⟨ha, ?_, ?_⟩
  · unfold tnB; rw [hn, Bool.or_true]
  · unfold tnV; rw [if_neg h42, if_pos hn, h2]
theorem part_rg {l : List Int} {a b : Nat} (h : inU l) (ha : a < l.length) (hb : b < l.length) (hab : a ≤ b) : rgB (partL l a b) = true ∧ rgOf (partL l a b) = (l.getD a 0, l.getD b 0) ∧ ∀ y ∈ partL l a b, y ≠ 44 := by
  obtain ⟨a1, a2, a3⟩ := itoa_num (inU_at h ha)
  obtain ⟨b1, b2, b3⟩ := itoa_num (inU_at h hb)
  by_cases hlt : a < b
  · have e : partL l a b = Lib.itoa (l.getD a 0) ++ 58 :: Lib.itoa (l.getD b 0) := by unfold partL; rw [if_pos hlt]
    have hc : Lib.cut (partL l a b) [58] = (Lib.itoa (l.getD a 0), Lib.itoa (l.getD b 0), true) := by rw [e]; exact cut_hit (no_dig a1 rfl)
    refine ⟨by unfold rgB; rw [hc]; simp only [if_true, a2, b2, Bool.and_self], by unfold rgOf; rw [hc]; simp only [if_true, a3, b3], fun y hy => ?_⟩
    rw [e] at hy
    rcases List.mem_append.1 hy with hy | hy
    · exact no_dig a1 rfl y hy
    · rcases List.mem_cons.1 hy with rfl | hy
      · decide
      · exact no_dig b1 rfl y hy
  · have hab' : a = b := by omega
    subst hab'
    have e : partL l a a = Lib.itoa (l.getD a 0) := by unfold partL; rw [if_neg hlt]
    have hc : Lib.cut (partL l a a) [58] = (Lib.itoa (l.getD a 0), [], false) := by rw [e]; exact cut_miss (no_dig a1 rfl)
    refine ⟨by unfold rgB; rw [hc]; simp only [Bool.false_eq_true, if_false, a2, Bool.and_self], by unfold rgOf; rw [hc]; simp only [Bool.false_eq_true, if_false, a3], fun y hy => ?_⟩
    rw [e] at hy
    exact no_dig a1 rfl y hy
theorem split_join : ∀ (r : List (List UInt8)), r ≠ [] → (∀ p ∈ r, ∀ y ∈ p, y ≠ 44) → Lib.split (Lib.join r [44]) [44] = r
  | [], h, _ => (h rfl).elim
  | [p], _, h => by rw [Lib.join_one]; exact split_miss (h p (by simp))
  | p :: q :: r, _, h => by
    have e : Lib.join (p :: q :: r) [44] = p ++ 44 :: Lib.join (q :: r) [44] := by
      rw [Lib.join_cons, Lib.join_cons]
      simp [Lib.joinTail]
    rw [e, split_hit (h p (by simp)), split_join (q :: r) (by simp) fun p' hp => h p' (by simp [hp])]
theorem lastN_spec (l : List Int) : ∀ (f k : Nat), (∀ j, k ≤ j → j < lastN l f k → j + 1 < l.length ∧ goes l j = true)
  | 0, k, j, h1, h2 => by have : lastN l 0 k = k := rfl
                          omega
  | f + 1, k, j, h1, h2 => by
    by_cases h : k + 1 < l.length ∧ goes l k = true
    · have e : lastN l (f + 1) k = lastN l f (k + 1) := by rw [lastN, if_pos h]
      rw [e] at h2
      rcases Nat.eq_or_lt_of_le h1 with rfl | h3
      · exact h
      · exact lastN_spec l f (k + 1) j h3 h2
    · have e : lastN l (f + 1) k = k := by rw [lastN, if_neg h]
      omega
theorem toN_spec {l : List Int} {a : Nat} (ha : a < l.length) : a ≤ toN l a ∧ toN l a < l.length ∧ ∀ j, a ≤ j → j < toN l a → l.getD (j + 1) 0 = l.getD j 0 + 1 := by
  have h1 : a ≤ toN l a := lastN_ge l l.length a
  have h2 := lastN_spec l l.length a
  refine ⟨h1, ?_, fun j j1 j2 => ?_⟩
  · rcases Nat.eq_or_lt_of_le h1 with h | h
    · omega
    · have := (h2 (toN l a - 1) (by omega) (by show _ < toN l a; omega)).1
      omega
  · have := (h2 j j1 j2).2
    unfold goes fol at this
    simp only [Bool.and_eq_true, beq_iff_eq] at this
    exact this.2
theorem run_mem (l : List Int) (k : Int) : ∀ (m a : Nat), a + m < l.length → (∀ j, a ≤ j → j < a + m → l.getD (j + 1) 0 = l.getD j 0 + 1) → l.getD (a + m) 0 = l.getD a 0 + m ∧ (l.drop a).contains k = ((decide (l.getD a 0 ≤ k) && decide (k ≤ l.getD a 0 + m)) || (l.drop (a + m + 1)).contains k)
  | 0, a, h, _ => by
    refine ⟨by simp, ?_⟩
    rw [Nat.add_zero, pk_drop (by omega), List.contains_cons, Bool.eq_iff_iff]
    simp only [Bool.or_eq_true, Bool.and_eq_true, decide_eq_true_eq, beq_iff_eq]
    refine or_congr ⟨fun e => by rw [e]; simp, fun ⟨h1, h2⟩ => ?_⟩ Iff.rfl
    simp only [Int.natCast_zero, Int.add_zero] at h2
    omega
  | m + 1, a, h, hs => by
    obtain ⟨i1, i2⟩ := run_mem l k m (a + 1) (by omega) fun j j1 j2 => hs j (by omega) (by omega)
    have h0 := hs a (Nat.le_refl _) (by omega)
    refine ⟨by rw [show a + (m + 1) = a + 1 + m by omega, i1, h0]; omega, ?_⟩
    rw [pk_drop (show a < l.length by omega), List.contains_cons, i2, h0, show a + 1 + m + 1 = a + (m + 1) + 1 by omega, Bool.eq_iff_iff]
    simp only [Bool.or_eq_true, Bool.and_eq_true, decide_eq_true_eq, beq_iff_eq]
    rw [← or_assoc]
    refine or_congr ⟨fun h => ?_, fun h => ?_⟩ Iff.rfl <;> omega
theorem parse_parts (l : List Int) (h : inU l) : ∀ (f a : Nat), l.length - a ≤ f → a ≤ l.length → ∃ R, prsF (partsR l a) = some R ∧ (∀ k g, hasF R k g = (l.drop a).contains k) ∧ ∀ p ∈ partsR l a, ∀ y ∈ p, y ≠ 44
  | 0, a, h1, h2 => by
    rw [partsR_end (by omega)]
    refine ⟨[], rfl, fun k g => ?_, fun p hp => by cases hp⟩
    rw [List.drop_eq_nil_of_le (by omega)]; rfl
  | f + 1, a, h1, h2 => by
    rcases Nat.lt_or_ge a l.length with ha | ha
    · obtain ⟨t1, t2, t3⟩ := toN_spec ha
      obtain ⟨R, r1, r2, r3⟩ := parse_parts l h f (toN l a + 1) (by omega) (by omega)
      obtain ⟨p1, p2, p3⟩ := part_rg h ha t2 t1
      rw [partsR_step ha]
      refine ⟨(l.getD a 0, l.getD (toN l a) 0) :: R, ?_, fun k g => ?_, fun p hp => ?_⟩
      · rw [prsF, if_pos p1, r1, p2]; rfl
      · obtain ⟨m1, m2⟩ := run_mem l k (toN l a - a) a (by omega) fun j j1 j2 => t3 j j1 (by omega)
        rw [show a + (toN l a - a) = toN l a by omega] at m1 m2
        rw [m2]
        have hu := inU_at h ha
        have hu2 := inU_at h t2
        show (hasR (l.getD a 0, l.getD (toN l a) 0) k g || hasF R k g) = _
        rw [r2]
        congr 1
        unfold hasR
        have k1 : knw (l.getD a 0) g = l.getD a 0 := by unfold knw; rw [if_neg (by omega)]
        have k2 : knw (l.getD (toN l a) 0) g = l.getD (toN l a) 0 := by unfold knw; rw [if_neg (by omega)]
        simp only [k1, k2]
        rw [← m1, Int.min_eq_left (by omega), Int.max_eq_right (by omega)]
      · rcases List.mem_cons.1 hp with rfl | hp
        · exact p3
        · exact r3 p hp
    · rw [partsR_end ha]
      refine ⟨[], rfl, fun k g => ?_, fun p hp => by cases hp⟩
      rw [List.drop_eq_nil_of_le ha]; rfl
theorem parse_text {l : List Int} (h : inU l) (h0 : 0 < l.length) : ∃ R, prsL (textL l) = some R ∧ ∀ k g, hasF R k g = l.contains k := by
  obtain ⟨R, r1, r2, r3⟩ := parse_parts l h l.length 0 (by omega) (Nat.zero_le _)
  refine ⟨R, ?_, fun k g => by rw [r2, List.drop_zero]⟩
  unfold prsL textL
  rw [split_join _ (by rw [partsR_step h0]; simp) r3, r1]
/-- Numbers that rise. -/
def stp (s : UInt8) : Int := 1 + ((s % 4).toNat : Int)
theorem stp_le (s : UInt8) : 1 ≤ stp s ∧ stp s ≤ 4 := by
  unfold stp
  have : (s % 4).toNat = s.toNat % 4 := UInt8.toNat_mod s 4
  omega
def sumS : List UInt8 → Int
  | [] => 0
  | s :: t => stp s + sumS t
def rise (a : Int) : List UInt8 → List Int
  | [] => []
  | s :: t => (a + stp s) :: rise (a + stp s) t
theorem sumS_snoc (t : List UInt8) (s : UInt8) : sumS (t ++ [s]) = sumS t + stp s := by
  induction t with
  | nil => simp [sumS]
  | cons x t ih => simp only [List.cons_append, sumS, ih]; omega
theorem rise_snoc (s : UInt8) : ∀ (t : List UInt8) (a : Int), rise a (t ++ [s]) = rise a t ++ [a + sumS t + stp s]
  | [], a => by simp [rise, sumS]
  | x :: t, a => by
    simp only [List.cons_append, rise, rise_snoc s t, sumS]
    rw [show a + stp x + sumS t + stp s = a + (stp x + sumS t) + stp s by omega]
theorem rise_len : ∀ (t : List UInt8) (a : Int), (rise a t).length = t.length
  | [], a => rfl
  | x :: t, a => by simp [rise, rise_len t]
theorem sumS_le : ∀ (t : List UInt8), 0 ≤ sumS t ∧ sumS t ≤ 4 * (t.length : Int)
  | [] => by simp [sumS]
  | x :: t => by
    have h1 := stp_le x
    have h2 := sumS_le t
    simp only [sumS, List.length_cons]
    omega
theorem rise_in : ∀ (t : List UInt8) (a : Int), 0 ≤ a → ∀ x ∈ rise a t, 1 ≤ x ∧ x ≤ a + 4 * (t.length : Int)
  | [], a, _, x, h => by cases h
  | s :: t, a, ha, x, h => by
    have h1 := stp_le s
    simp only [List.length_cons]
    rcases List.mem_cons.1 h with rfl | h
    · omega
    · have := rise_in t (a + stp s) (by omega) x h
      omega
theorem pick_all {l : List Int} {R : List Rng} (h : ∀ k g, hasF R k g = l.contains k) : pickL R l = l := by
  unfold pickL
  rw [List.filter_eq_self]
  intro k hk
  rw [h]
  exact List.contains_iff_mem.2 hk
end Go.Proofs.YtgfcdkbbkgamnaaDoor
