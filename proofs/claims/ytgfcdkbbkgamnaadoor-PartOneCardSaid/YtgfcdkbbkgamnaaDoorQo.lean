/-
  Layer 19: a head of one field, over lists of bytes; trims. It speaks of no program but for names.
-/
import Derived.Test.YtgfcdkbbkgamnaaDoorQe
namespace Go.Proofs.YtgfcdkbbkgamnaaDoor
open Go Go.RowKit
set_option maxHeartbeats 4000000
set_option linter.unusedSimpArgs false
set_option linter.unusedVariables false
/-- Small letters; no CR. -/
def ltr (c : UInt8) : Bool := decide (97 ≤ c) && decide (c ≤ 122)
def lettersL (s : List UInt8) : Prop := ∀ c ∈ s, ltr c = true
theorem ltr_ne (c : UInt8) (h : ltr c = true) : c ≠ 13 ∧ c ≠ 58 ∧ smc c = c ∧ blk c = false := by
  have := u8_all (fun c => !ltr c || (c != 13 && c != 58 && smc c == c && !blk c)) (by decide +kernel) c
  simp only [h, Bool.not_true, Bool.false_or, Bool.and_eq_true, bne_iff_ne, beq_iff_eq, Bool.not_eq_true'] at this
  exact ⟨this.1.1.1, this.1.1.2, this.1.2, this.2⟩
theorem sm_letters : ∀ {s : List UInt8}, lettersL s → smL s = s
  | [], _ => rfl
  | a :: l, h => by
    have h1 := (ltr_ne a (h a (List.mem_cons_self ..))).2.2.1
    have h2 := sm_letters (s := l) fun c hc => h c (List.mem_cons_of_mem _ hc)
    show smc a :: smL l = a :: l
    rw [h1, h2]
theorem map_same {f g : UInt8 → UInt8} (h : ∀ a b, f a = f b ↔ g a = g b) : ∀ (s t : List UInt8), s.map f = t.map f ↔ s.map g = t.map g
  | [], [] => by simp
  | [], _ :: _ => by simp
  | _ :: _, [] => by simp
  | a :: s, b :: t => by
    simp only [List.map_cons, List.cons.injEq, map_same h s t, h a b]
theorem up_same (s t : List UInt8) : upL s = upL t ↔ smL s = smL t := map_same up_iff s t
/-- The head. -/
def oneH (n v : List UInt8) : List UInt8 := n ++ [58] ++ v ++ [13, 10, 13, 10]
theorem one_rows (n v : List UInt8) (hn : lettersL n) (hv : ∀ c ∈ v, c ≠ 13) : rowsL (oneH n v) = [n ++ [58] ++ v, [], []] := by
  have hlen : (n ++ [58] ++ v).length = n.length + 1 + v.length := by simp; omega
  have hno : ∀ c ∈ n ++ [58] ++ v, c ≠ 13 := fun c hc => by
    rcases List.mem_append.1 hc with hc | hc
    · rcases List.mem_append.1 hc with hc | hc
      · exact (ltr_ne c (hn c hc)).1
      · simp at hc; subst hc; decide
    · exact hv c hc
  unfold oneH
  generalize n ++ [58] ++ v = L at hno ⊢
  have he : eol (L ++ [13, 10, 13, 10]) = some L.length := by
    refine eol_first (by rw [List.getElem?_append_right (Nat.le_refl _), Nat.sub_self]; rfl) (by rw [List.getElem?_append_right (by omega), show L.length + 1 - L.length = 1 by omega]; rfl) fun j hj ⟨h1, _⟩ => ?_
    rw [List.getElem?_append_left hj] at h1
    exact hno 13 (List.mem_of_getElem? h1) rfl
  rw [rowsL_some he, List.take_left, List.drop_append, List.drop_eq_nil_of_le (by omega), show L.length + 2 - L.length = 2 by omega]
  show L :: rowsL [13, 10] = _
  rw [show rowsL [13, 10] = [[], []] by decide +kernel]
theorem one_cut (n v : List UInt8) (hn : lettersL n) : Lib.cut (n ++ [58] ++ v) [58] = (n, v, true) := by
  have hat : ∀ k, k < (n ++ [58] ++ v).length → Lib.occAt (n ++ [58] ++ v) [58] k = ((n ++ [58] ++ v).getD k 0 == 58) := fun k hk => by
    unfold Lib.occAt
    rw [drop_at (n ++ [58] ++ v) 0 hk]
    generalize (n ++ [58] ++ v).getD k 0 = x
    show ((58 : UInt8) == x && true) = (x == 58)
    rw [Bool.and_true]
    by_cases h : x = 58
    · rw [h]
    · rw [beq_eq_false_iff_ne.2 h, beq_eq_false_iff_ne.2 (Ne.symm h)]
  have hnl : n.length < (n ++ [58] ++ v).length := by simp
  have hocc : Lib.occAt (n ++ [58] ++ v) [58] n.length = true := by
    rw [hat _ hnl, List.append_assoc, List.getD_eq_getElem?_getD, List.getElem?_append_right (Nat.le_refl _), Nat.sub_self]; rfl
  have hbef : ∀ j, j < n.length → Lib.occAt (n ++ [58] ++ v) [58] j = false := fun j hj => by
    rw [hat _ (by omega), List.append_assoc, List.getD_eq_getElem?_getD, List.getElem?_append_left hj, List.getElem?_eq_getElem hj]
    have := (ltr_ne _ (hn _ (List.getElem_mem hj))).2.1
    simpa using this
  have hi : Lib.index (n ++ [58] ++ v) [58] = n.length := by
    rcases Lib.index_spec (n ++ [58] ++ v) [58] with ⟨h1, h2⟩ | ⟨k, h1, h2, h3, h4⟩
    · rw [h2 _ (by omega)] at hocc; cases hocc
    · rw [h1]
      rcases Nat.lt_trichotomy k n.length with h | h | h
      · rw [hbef k h] at h3; cases h3
      · rw [h]
      · rw [h4 _ h] at hocc; cases hocc
  unfold Lib.cut
  rw [hi, if_pos (by omega), Int.toNat_natCast]
  have e1 : (n ++ [58] ++ v).take n.length = n := by rw [List.append_assoc, List.take_left]
  have e2 : (n ++ [58] ++ v).drop (n.length + ([58] : List UInt8).length) = v := by
    rw [show n.length + ([58] : List UInt8).length = (n ++ [58]).length by simp, List.drop_left]
  rw [e1, e2]
theorem one_fields (n v : List UInt8) (hn : lettersL n) (h0 : n ≠ []) (hv : ∀ c ∈ v, c ≠ 13) : fieldsL (oneH n v) = [(n, Lib.trimS v [32, 9])] := by
  have hb : contL (n ++ [58] ++ v) = false := by
    cases n with
    | nil => exact (h0 rfl).elim
    | cons a l => exact (ltr_ne a (hn a (List.mem_cons_self ..))).2.2.2
  have hc := one_cut n v hn
  unfold fieldsL
  rw [one_rows n v hn hv, fldF, if_pos (by unfold fldB colon; rw [hc, hb]; rfl)]
  have e1 : fldF [[], []] = [] := by decide +kernel
  have e2 : fldV (n ++ [58] ++ v) [[], []] = (n, Lib.trimS v [32, 9]) := by
    unfold fldV colon
    rw [hc]
    have : ([[], []] : List (List UInt8)).takeWhile contL = [] := by decide +kernel
    rw [this]
    show (n, Lib.trimS (v ++ Lib.join [] []) [32, 9]) = _
    rw [show Lib.join ([] : List (List UInt8)) [] = [] from rfl, List.append_nil]
  rw [e1, e2]
/-- Trims. -/
def bl (c : UInt8) : Bool := c == 32 || c == 9
theorem bl_set (c : UInt8) : ([32, 9] : List UInt8).contains c = bl c := by
  have := u8_all (fun c => ([32, 9] : List UInt8).contains c == bl c) (by decide +kernel) c
  simpa using this
theorem trim_at (v : List UInt8) (a b : Nat) (h1 : a ≤ v.length) (h2 : a ≤ b) (h3 : b ≤ v.length) (ha : ∀ j, j < a → bl (v.getD j 0) = true) (hb : ∀ j, b ≤ j → j < v.length → bl (v.getD j 0) = true)
    (ha2 : a < v.length → bl (v.getD a 0) = false) (hb2 : a < b → bl (v.getD (b - 1) 0) = false) : Lib.trimS v [32, 9] = (v.drop a).take (b - a) := by
  have hget : ∀ (j : Nat) c, v[j]? = some c → v.getD j 0 = c ∧ j < v.length := fun j c h => ⟨by rw [List.getD_eq_getElem?_getD, h]; rfl, (List.getElem?_eq_some_iff.1 h).1⟩
  rcases Nat.lt_or_ge a v.length with hlt | hge
  · have hab : a < b := by
      rcases Nat.lt_or_ge a b with h | h
      · exact h
      · have := hb a (by omega) hlt
        rw [ha2 hlt] at this; cases this
    have hR : Lib.trimRightS v [32, 9] = v.take b := Lib.trimRightS_take v [32, 9] b h3 (fun j c hj hc => by
        obtain ⟨e, hl⟩ := hget j c hc
        rw [bl_set, ← e]; exact hb j hj hl) (fun c h0 hc => by
        obtain ⟨e, _⟩ := hget _ c hc
        rw [bl_set, ← e]; exact hb2 hab)
    have hL : Lib.trimLeftS (v.take b) [32, 9] = (v.take b).drop a := Lib.trimLeftS_drop (v.take b) [32, 9] a (by rw [List.length_take]; omega) (fun j c hj hc => by
        rw [List.getElem?_take, if_pos (by omega)] at hc
        obtain ⟨e, _⟩ := hget j c hc
        rw [bl_set, ← e]; exact ha j hj) (fun c hc => by
        rw [List.getElem?_take, if_pos hab] at hc
        obtain ⟨e, hl⟩ := hget a c hc
        rw [bl_set, ← e]; exact ha2 hl)
    unfold Lib.trimS
    rw [hR, hL, List.drop_take]
  · have hR : Lib.trimRightS v [32, 9] = v.take 0 := Lib.trimRightS_take v [32, 9] 0 (Nat.zero_le _) (fun j c hj hc => by
        obtain ⟨e, hl⟩ := hget j c hc
        rw [bl_set, ← e]; exact ha j (by omega)) (fun c h0 hc => by omega)
    unfold Lib.trimS
    rw [hR, show b - a = 0 by omega, List.take_zero, List.take_zero]
    rfl
end Go.Proofs.YtgfcdkbbkgamnaaDoor
