/-
  Layer 19: rows, heads, texts in any case, over lists of bytes. It speaks of no program.
-/
import Derived.Test.YtgfcdkbbkgamnaaDoorLp
import Derived.Lib.Split
import Derived.Lib.CountLaws
namespace Go.Proofs.YtgfcdkbbkgamnaaDoor
open Go
set_option linter.unusedSimpArgs false
set_option linter.unusedVariables false
/-- How many ends of lines. -/
def crs : List UInt8 → Nat
  | a :: b :: l => (if a = 13 ∧ b = 10 then 1 else 0) + crs (b :: l)
  | _ => 0
theorem crs_cons (a b : UInt8) (l : List UInt8) : crs (a :: b :: l) = (if a = 13 ∧ b = 10 then 1 else 0) + crs (b :: l) := rfl
theorem crs_tail (a : UInt8) (l : List UInt8) (h : a ≠ 13) : crs (a :: l) = crs l := by
  cases l with
  | nil => rfl
  | cons b l => rw [crs_cons, if_neg (fun e => h e.1), Nat.zero_add]
theorem crs_none : ∀ {s : List UInt8}, eol s = none → crs s = 0
  | [], _ => rfl
  | [_], _ => rfl
  | a :: b :: l, h => by
    rw [eol_cons] at h
    by_cases hc : a = 13 ∧ b = 10
    · rw [if_pos hc] at h; cases h
    · rw [if_neg hc] at h
      cases he : eol (b :: l) with
      | some k => rw [he] at h; cases h
      | none => rw [crs_cons, if_neg hc, crs_none he]
theorem crs_some : ∀ {s : List UInt8} {i : Nat}, eol s = some i → crs s = crs (s.drop (i + 2)) + 1
  | [], i, h => by simp [eol] at h
  | [_], i, h => by simp [eol] at h
  | a :: b :: l, i, h => by
    rw [eol_cons] at h
    by_cases hc : a = 13 ∧ b = 10
    · rw [if_pos hc] at h
      simp only [Option.some.injEq] at h
      subst h
      rw [crs_cons, if_pos hc, crs_tail b l (by rw [hc.2]; decide)]
      simp
      omega
    · rw [if_neg hc] at h
      cases he : eol (b :: l) with
      | none => rw [he] at h; cases h
      | some k =>
        rw [he] at h
        simp only [Option.map_some, Option.some.injEq] at h
        subst h
        rw [crs_cons, if_neg hc, crs_some he, Nat.zero_add]
        rfl
theorem crs_app (l m : List UInt8) (h : m.head? ≠ some 10) : crs (l ++ m) = crs l + crs m := by
  induction l with
  | nil => simp [crs]
  | cons a l ih =>
    cases l with
    | nil =>
      cases m with
      | nil => rfl
      | cons b m =>
        have hb : b ≠ 10 := fun e => h (by rw [e]; rfl)
        show crs (a :: b :: m) = 0 + crs (b :: m)
        rw [crs_cons, if_neg (fun e => hb e.2)]
    | cons b l =>
      show crs (a :: b :: (l ++ m)) = _
      rw [crs_cons, crs_cons]
      have : crs (b :: (l ++ m)) = crs (b :: l) + crs m := ih
      omega
/-- The lines, without their ends. -/
def rowsF : Nat → List UInt8 → List (List UInt8)
  | 0, s => [s]
  | f + 1, s => match eol s with
    | none => [s]
    | some i => s.take i :: rowsF f (s.drop (i + 2))
def rowsL (s : List UInt8) : List (List UInt8) := rowsF s.length s
theorem rowsF_more : ∀ (f g : Nat) (s : List UInt8), s.length ≤ f → s.length ≤ g → rowsF f s = rowsF g s
  | 0, g, s, h, _ => by
    have : s = [] := List.eq_nil_of_length_eq_zero (by omega)
    subst this
    cases g <;> rfl
  | f + 1, 0, s, _, h => by
    have : s = [] := List.eq_nil_of_length_eq_zero (by omega)
    subst this
    rfl
  | f + 1, g + 1, s, h1, h2 => by
    unfold rowsF
    cases he : eol s with
    | none => rfl
    | some i =>
      obtain ⟨hi, _⟩ := eol_spec he
      simp only
      rw [rowsF_more f g _ (by rw [List.length_drop]; omega) (by rw [List.length_drop]; omega)]
theorem rowsL_none {s : List UInt8} (h : eol s = none) : rowsL s = [s] := by
  unfold rowsL
  cases hs : s.length with
  | zero => rfl
  | succ n => unfold rowsF; rw [h]
theorem rowsL_some {s : List UInt8} {i : Nat} (h : eol s = some i) : rowsL s = s.take i :: rowsL (s.drop (i + 2)) := by
  obtain ⟨hi, _⟩ := eol_spec h
  have hs : s.length = (s.length - 1) + 1 := by omega
  unfold rowsL
  conv => lhs; rw [hs]; unfold rowsF; rw [h]
  simp only
  rw [rowsF_more (s.length - 1) (s.drop (i + 2)).length _ (by rw [List.length_drop]; omega) (Nat.le_refl _)]
theorem rowsL_len (s : List UInt8) : (rowsL s).length = crs s + 1 := by
  suffices h : ∀ n s, s.length ≤ n → (rowsL s).length = crs s + 1 from h _ s (Nat.le_refl _)
  intro n
  induction n with
  | zero =>
    intro s hs
    have : s = [] := List.eq_nil_of_length_eq_zero (by omega)
    subst this; rfl
  | succ n ih =>
    intro s hs
    cases he : eol s with
    | none => rw [rowsL_none he, crs_none he]; rfl
    | some i =>
      obtain ⟨hi, _⟩ := eol_spec he
      rw [rowsL_some he, crs_some he, List.length_cons, ih _ (by rw [List.length_drop]; omega)]
theorem rowsL_ne (s : List UInt8) : rowsL s ≠ [] := fun e => by
  have := rowsL_len s
  rw [e] at this
  simp at this
theorem count_crs (s : List UInt8) : Lib.count s [13, 10] = crs s := by
  unfold Lib.count
  suffices h : ∀ n s, s.length < n → Lib.countFrom [13, 10] n s = crs s from h _ s (Nat.lt_succ_self _)
  intro n
  induction n with
  | zero => intro s hs; omega
  | succ n ih =>
    intro s hs
    unfold Lib.countFrom
    rw [index_eol]
    cases he : eol s with
    | none => rw [crs_none he]; rfl
    | some i =>
      obtain ⟨hi, _⟩ := eol_spec he
      have : ((i : Int) == -1) = false := by rw [beq_eq_false_iff_ne]; omega
      simp only [this, Bool.false_eq_true, if_false, Int.toNat_natCast]
      rw [crs_some he, show i + ([13, 10] : List UInt8).length = i + 2 from rfl, ih _ (by rw [List.length_drop]; omega)]
      omega
theorem splitK_rows : ∀ (k : Nat) (s : List UInt8), crs s = k → Lib.splitK [13, 10] 0 k s = rowsL s
  | 0, s, h => by
    cases he : eol s with
    | none => rw [rowsL_none he]; rfl
    | some i => rw [crs_some he] at h; omega
  | k + 1, s, h => by
    cases he : eol s with
    | none => rw [crs_none he] at h; omega
    | some i =>
      rw [crs_some he] at h
      rw [rowsL_some he, ← splitK_rows k (s.drop (i + 2)) (by omega)]
      have : ((i : Int) == -1) = false := by rw [beq_eq_false_iff_ne]; omega
      rw [Lib.splitK, index_eol, he]
      simp only [this, Bool.false_eq_true, if_false, Int.toNat_natCast, Nat.add_zero]
      rfl
/-- A line's end at a place; a line's beginning. -/
def crAt (s : List UInt8) (j : Nat) : Prop := s[j]? = some 13 ∧ s[j + 1]? = some 10
def stAt (s : List UInt8) (j : Nat) : Prop := j = 0 ∨ ∃ k, j = k + 2 ∧ crAt s k
/-- Where a head ends. -/
def HeadAt (s : List UInt8) (n : Nat) : Prop := (∃ i, crAt s i ∧ stAt s i ∧ (∀ j, j < i → ¬ (crAt s j ∧ stAt s j)) ∧ n = i + 2) ∨ ((∀ j, ¬ (crAt s j ∧ stAt s j)) ∧ n = s.length)
theorem headAt_unique {s : List UInt8} {n m : Nat} (h1 : HeadAt s n) (h2 : HeadAt s m) : n = m := by
  rcases h1 with ⟨i, a1, a2, a3, rfl⟩ | ⟨a, rfl⟩ <;> rcases h2 with ⟨k, b1, b2, b3, rfl⟩ | ⟨b, rfl⟩
  · rcases Nat.lt_trichotomy i k with h | h | h
    · exact (b3 i h ⟨a1, a2⟩).elim
    · rw [h]
    · exact (a3 k h ⟨b1, b2⟩).elim
  · exact (b i ⟨a1, a2⟩).elim
  · exact (a k ⟨b1, b2⟩).elim
  · rfl
theorem crAt_lt {s : List UInt8} {j : Nat} (h : crAt s j) : j + 1 < s.length := (List.getElem?_eq_some_iff.1 h.2).1
theorem crAt_next {s : List UInt8} {j : Nat} (h : crAt s j) : ¬ crAt s (j + 1) := fun h2 => by
  have := h.2.symm.trans h2.1
  simp at this
def headN (s : List UInt8) : Nat := if ([13, 10] : List UInt8).isPrefixOf s = true then 2 else if Lib.index s [13, 10, 13, 10] < 0 then s.length else (Lib.index s [13, 10, 13, 10]).toNat + 4
theorem occ2 (s : List UInt8) : ([13, 10] : List UInt8).isPrefixOf s = true ↔ crAt s 0 := by
  rw [List.isPrefixOf_iff_prefix]
  unfold crAt
  constructor
  · rintro ⟨t, rfl⟩; exact ⟨rfl, rfl⟩
  · rintro ⟨h1, h2⟩
    match s, h1, h2 with
    | a :: b :: t, h1, h2 =>
      simp at h1 h2
      subst h1; subst h2
      exact ⟨t, rfl⟩
theorem occ4 (s : List UInt8) (k : Nat) : Lib.occAt s [13, 10, 13, 10] k = true ↔ crAt s k ∧ crAt s (k + 2) := by
  unfold Lib.occAt
  rw [List.isPrefixOf_iff_prefix]
  unfold crAt
  constructor
  · rintro ⟨t, h⟩
    have hg : ∀ j : Nat, s[k + j]? = ([13, 10, 13, 10] ++ t)[j]? := fun j => by rw [h, List.getElem?_drop]
    exact ⟨⟨hg 0, hg 1⟩, hg 2, hg 3⟩
  · rintro ⟨⟨h1, h2⟩, h3, h4⟩
    have hg : ∀ j : Nat, (s.drop k)[j]? = s[k + j]? := fun j => by rw [List.getElem?_drop]
    have g0 := (hg 0).trans h1
    have g1 := (hg 1).trans h2
    have g2 := (hg 2).trans h3
    have g3 := (hg 3).trans h4
    generalize s.drop k = d at g0 g1 g2 g3
    match d, g0, g1, g2, g3 with
    | a :: b :: c :: e :: t, g0, g1, g2, g3 =>
      simp at g0 g1 g2 g3
      subst g0; subst g1; subst g2; subst g3
      exact ⟨t, rfl⟩
theorem headN_at (s : List UInt8) : HeadAt s (headN s) := by
  unfold headN
  by_cases h0 : ([13, 10] : List UInt8).isPrefixOf s = true
  · rw [if_pos h0]
    exact .inl ⟨0, (occ2 s).1 h0, .inl rfl, fun j hj => by omega, rfl⟩
  · rw [if_neg h0]
    have hz : ¬ crAt s 0 := fun h => h0 ((occ2 s).2 h)
    rcases Lib.index_spec s [13, 10, 13, 10] with ⟨h1, h2⟩ | ⟨k, h1, h2, h3, h4⟩
    · rw [h1, if_pos (by decide)]
      refine .inr ⟨fun j ⟨hc, hs⟩ => ?_, rfl⟩
      rcases hs with rfl | ⟨k, rfl, hk⟩
      · exact hz hc
      · have := h2 k (by have := crAt_lt hk; omega)
        rw [(occ4 s k).2 ⟨hk, hc⟩] at this
        cases this
    · rw [h1, if_neg (by omega), Int.toNat_natCast]
      obtain ⟨c1, c2⟩ := (occ4 s k).1 h3
      refine .inl ⟨k + 2, c2, .inr ⟨k, rfl, c1⟩, fun j hj ⟨hc, hs⟩ => ?_, rfl⟩
      rcases hs with rfl | ⟨q, rfl, hq⟩
      · exact hz hc
      · have := h4 q (by omega)
        rw [(occ4 s q).2 ⟨hq, hc⟩] at this
        cases this
theorem headN_le (s : List UInt8) : headN s ≤ s.length := by
  rcases headN_at s with ⟨i, h, _, _, e⟩ | ⟨_, e⟩
  · have := crAt_lt h; omega
  · omega
/-- Letters. -/
def upc (c : UInt8) : UInt8 := if 97 ≤ c ∧ c ≤ 122 then c - 97 + 65 else c
def smc (c : UInt8) : UInt8 := if 65 ≤ c ∧ c ≤ 90 then c + 32 else c
def upL (s : List UInt8) : List UInt8 := s.map upc
def smL (s : List UInt8) : List UInt8 := s.map smc
theorem upL_len (s : List UInt8) : (upL s).length = s.length := List.length_map _
theorem smL_len (s : List UInt8) : (smL s).length = s.length := List.length_map _
theorem u8_all (p : UInt8 → Bool) (h : (List.range 256).all (fun n => p (UInt8.ofNat n)) = true) (c : UInt8) : p c = true := by
  have := List.all_eq_true.1 h c.toNat (List.mem_range.2 (by have := c.toNat_lt; omega))
  simpa using this
theorem up_sm (c : UInt8) : upc (smc c) = upc c := by
  have := u8_all (fun c => upc (smc c) == upc c) (by decide +kernel) c
  simpa using this
theorem sm_up (c : UInt8) : smc (upc c) = smc c := by
  have := u8_all (fun c => smc (upc c) == smc c) (by decide +kernel) c
  simpa using this
theorem up_iff (a b : UInt8) : upc a = upc b ↔ smc a = smc b := by
  constructor
  · intro h; rw [← sm_up a, h, sm_up]
  · intro h; rw [← up_sm a, h, up_sm]
theorem upL_sm (s : List UInt8) : upL (smL s) = upL s := by
  unfold upL smL
  rw [List.map_map]
  exact List.map_congr_left fun c _ => up_sm c
theorem map_prefix {f g : UInt8 → UInt8} (h : ∀ a b, f a = f b ↔ g a = g b) : ∀ (t s : List UInt8), (t.map f).isPrefixOf (s.map f) = (t.map g).isPrefixOf (s.map g)
  | [], _ => by simp [List.isPrefixOf]
  | _ :: _, [] => by simp [List.isPrefixOf]
  | a :: t, b :: s => by
    simp only [List.map_cons, List.isPrefixOf, map_prefix h t s]
    congr 1
    rw [Bool.eq_iff_iff]
    simp only [beq_iff_eq]
    exact h a b
theorem map_index {f g : UInt8 → UInt8} (h : ∀ a b, f a = f b ↔ g a = g b) (t : List UInt8) : ∀ (s : List UInt8), Lib.index (s.map f) (t.map f) = Lib.index (s.map g) (t.map g)
  | [] => by simp [Lib.index]
  | b :: s => by
    simp only [List.map_cons, Lib.index, map_index h t s]
    have := map_prefix h t (b :: s)
    simp only [List.map_cons] at this
    rw [this]
theorem has_same (s t : List UInt8) : Lib.contains (upL s) (upL t) = Lib.contains (smL s) (smL t) := by
  unfold Lib.contains upL smL
  rw [map_index up_iff]
theorem has_of_occ {s t : List UInt8} {i : Nat} (hi : i ≤ s.length) (h : Lib.occAt s t i = true) : Lib.contains s t = true := by
  unfold Lib.contains
  rcases Lib.index_spec s t with ⟨_, h2⟩ | ⟨k, h1, _⟩
  · rw [h2 i hi] at h; cases h
  · rw [h1]; simp
theorem has_app (a b c : List UInt8) : Lib.contains (a ++ b ++ c) b = true := by
  refine has_of_occ (i := a.length) (by simp) ?_
  unfold Lib.occAt
  rw [List.append_assoc, List.drop_left, List.isPrefixOf_iff_prefix]
  exact List.prefix_append b c
end Go.Proofs.YtgfcdkbbkgamnaaDoor
