/-
  Layer 17: lines and what they announce, over lists of bytes. It speaks of no program.
-/
import Derived.Test.YtgfcdkbbkgamnaaDoorNum
import Derived.Lib.IndexMore
import Derived.Lib.LastIndexByte
import Derived.Lib.Strings
namespace Go.Proofs.YtgfcdkbbkgamnaaDoor
open Go
set_option linter.unusedSimpArgs false
set_option linter.unusedVariables false
def nineOk (d : List UInt8) : Bool := isNum d && decide (val d ≤ 9999)
/-- Where the first line ends. -/
def eol : List UInt8 → Option Nat
  | a :: b :: l => if a = 13 ∧ b = 10 then some 0 else (eol (b :: l)).map (· + 1)
  | _ => none
theorem eol_cons (a b : UInt8) (l : List UInt8) : eol (a :: b :: l) = if a = 13 ∧ b = 10 then some 0 else (eol (b :: l)).map (· + 1) := rfl
theorem index_eol (s : List UInt8) : Lib.index s [13, 10] = match eol s with | some i => (i : Int) | none => -1 := by
  induction s with
  | nil => rfl
  | cons a l ih =>
    cases l with
    | nil =>
      unfold Lib.index
      rw [ih]
      have : ([13, 10] : List UInt8).isPrefixOf [a] = false := by simp [List.isPrefixOf]
      rw [this]; rfl
    | cons b l =>
      unfold Lib.index
      rw [ih, eol_cons]
      by_cases h : a = 13 ∧ b = 10
      · rw [if_pos h, h.1, h.2]; rfl
      · rw [if_neg h]
        have : ([13, 10] : List UInt8).isPrefixOf (a :: b :: l) = false := by
          simp only [List.isPrefixOf, Bool.and_true, Bool.and_eq_false_iff, beq_eq_false_iff_ne, ne_eq]
          by_cases h1 : a = 13
          · right; intro h2; exact h ⟨h1, h2.symm⟩
          · left; intro h2; exact h1 h2.symm
        rw [this]
        cases he : eol (b :: l) with
        | none => rfl
        | some i =>
          have : ((i : Int) == -1) = false := by rw [beq_eq_false_iff_ne]; omega
          simp [this]
theorem cut_eol (s : List UInt8) : Lib.cut s [13, 10] = match eol s with | some i => (s.take i, s.drop (i + 2), true) | none => (s, [], false) := by
  unfold Lib.cut
  rw [index_eol]
  cases eol s with
  | none => rfl
  | some i => simp
theorem eol_spec : ∀ {s : List UInt8} {i : Nat}, eol s = some i → i + 2 ≤ s.length ∧ s[i]? = some 13 ∧ s[i + 1]? = some 10 ∧ ∀ j : Nat, j < i → ¬ (s[j]? = some 13 ∧ s[j + 1]? = some 10)
  | [], i, h => by simp [eol] at h
  | [_], i, h => by simp [eol] at h
  | a :: b :: l, i, h => by
    rw [eol_cons] at h
    by_cases hc : a = 13 ∧ b = 10
    · rw [if_pos hc] at h
      simp only [Option.some.injEq] at h
      subst h
      exact ⟨by simp, by simp [hc.1], by simp [hc.2], fun j hj => by omega⟩
    · rw [if_neg hc] at h
      cases he : eol (b :: l) with
      | none => rw [he] at h; cases h
      | some k =>
        rw [he] at h
        simp only [Option.map_some, Option.some.injEq] at h
        subst h
        obtain ⟨h1, h2, h3, h4⟩ := eol_spec he
        refine ⟨by simp at h1 ⊢; omega, by simpa using h2, by simpa using h3, fun j hj => ?_⟩
        cases j with
        | zero => simpa using hc
        | succ j => simpa using h4 j (by omega)
theorem eol_none : ∀ {s : List UInt8}, eol s = none → ∀ j : Nat, ¬ (s[j]? = some 13 ∧ s[j + 1]? = some 10)
  | [], _, j => by simp
  | [_], _, j => by simp
  | a :: b :: l, h, j => by
    rw [eol_cons] at h
    by_cases hc : a = 13 ∧ b = 10
    · rw [if_pos hc] at h; cases h
    · rw [if_neg hc] at h
      cases he : eol (b :: l) with
      | some k => rw [he] at h; cases h
      | none =>
        cases j with
        | zero => simpa using hc
        | succ j => simpa using eol_none he j
theorem eol_first {s : List UInt8} {i : Nat} (h1 : s[i]? = some 13) (h2 : s[i + 1]? = some 10) (h3 : ∀ j : Nat, j < i → ¬ (s[j]? = some 13 ∧ s[j + 1]? = some 10)) : eol s = some i := by
  cases he : eol s with
  | none => exact (eol_none he i ⟨h1, h2⟩).elim
  | some k =>
    obtain ⟨_, k1, k2, k3⟩ := eol_spec he
    rcases Nat.lt_trichotomy i k with h | h | h
    · exact (k3 i h ⟨h1, h2⟩).elim
    · rw [h]
    · exact (h3 k h ⟨k1, k2⟩).elim
/-- The first line, what stands behind it, and what there is of it. -/
def nxC (s : List UInt8) : Nat := match eol s with
  | some i => if 512 < i then 2 else 1
  | none => if 512 < s.length then 2 else 0
def nxA (s : List UInt8) : List UInt8 := match eol s with
  | some i => if 512 < i then [] else s.take i
  | none => []
def nxB (s : List UInt8) : List UInt8 := match eol s with
  | some i => s.drop (i + 2)
  | none => []
/-- The literal that a line announces: where its brace stands, and how many bytes. -/
def lastBr (s : List UInt8) : Int := Lib.lastIndexByte ⟨s.toArray⟩ ((123 : UInt8).toNat : Int)
def inner (s : List UInt8) : List UInt8 := s.take (s.length - 1)
def litO (s : List UInt8) : Option (Nat × Nat) :=
  if Lib.hasSuffix s [125] = true then if lastBr (inner s) < 0 then none else if nineOk ((inner s).drop ((lastBr (inner s)).toNat + 1)) = true then some ((lastBr (inner s)).toNat, val ((inner s).drop ((lastBr (inner s)).toNat + 1))) else none else none
theorem lastBr_spec (s : List UInt8) : (lastBr s = -1 ∧ ∀ j : Nat, s[j]? ≠ some 123) ∨ (∃ i : Nat, i < s.length ∧ lastBr s = i ∧ s[i]? = some 123 ∧ ∀ j, i < j → s[j]? ≠ some 123) := by
  have hb : ∀ j : Nat, j < s.length → (((⟨s.toArray⟩ : ByteArray).data[j]!).toNat : Int) = ((123 : UInt8).toNat : Int) → s[j]? = some 123 := fun j hj h => by
    have e : (⟨s.toArray⟩ : ByteArray).data[j]! = s[j] := by simp [hj]
    rw [e] at h
    rw [List.getElem?_eq_getElem hj]
    congr 1
    exact UInt8.toNat_inj.1 (by omega)
  have hb' : ∀ j : Nat, s[j]? = some 123 → (((⟨s.toArray⟩ : ByteArray).data[j]!).toNat : Int) = ((123 : UInt8).toNat : Int) := fun j h => by
    obtain ⟨hj, e⟩ := List.getElem?_eq_some_iff.1 h
    have e' : (⟨s.toArray⟩ : ByteArray).data[j]! = s[j] := by simp [hj]
    rw [e', e]
  have hs : (⟨s.toArray⟩ : ByteArray).size = s.length := by show s.toArray.size = _; simp
  rcases Lib.lastIndexByte_spec ⟨s.toArray⟩ ((123 : UInt8).toNat : Int) with ⟨h1, h2⟩ | ⟨i, h1, h2, h3, h4⟩
  · refine .inl ⟨h1, fun j hj => ?_⟩
    have hl := (List.getElem?_eq_some_iff.1 hj).1
    exact h2 j (by rw [hs]; exact hl) (hb' j hj)
  · rw [hs] at h1 h4
    refine .inr ⟨i, h1, h2, hb i h1 h3, fun j hj h => ?_⟩
    have hl := (List.getElem?_eq_some_iff.1 h).1
    exact h4 j hj hl (hb' j h)
theorem suffix_iff (s : List UInt8) : Lib.hasSuffix s [125] = true ↔ ∃ l, s = l ++ [125] := by
  unfold Lib.hasSuffix
  rw [List.isSuffixOf_iff_suffix]
  constructor
  · rintro ⟨l, h⟩; exact ⟨l, h.symm⟩
  · rintro ⟨l, h⟩; exact ⟨l, h.symm⟩
theorem inner_snoc (l : List UInt8) (c : UInt8) : inner (l ++ [c]) = l := by simp [inner]
theorem nine_all {d : List UInt8} (h : nineOk d = true) : d.all isDig = true ∧ d ≠ [] ∧ d.length ≤ 4 := by
  unfold nineOk at h
  simp only [Bool.and_eq_true, decide_eq_true_eq] at h
  obtain ⟨h1, h2⟩ := isNum_all h.1
  refine ⟨h1, h2, ?_⟩
  have hv := dec_val d.length d rfl h.1
  rw [← hv, Lib.decDigits_length]
  have : ∀ u, u ≤ 9999 → Lib.nDigits u ≤ 4 := fun u hu => by
    rw [Lib.nDigits]; split
    · omega
    · rw [Lib.nDigits]; split
      · omega
      · rw [Lib.nDigits]; split
        · omega
        · rw [Lib.nDigits]; split
          · omega
          · omega
  exact this _ h.2
theorem dig_no_brace {d : List UInt8} (h : d.all isDig = true) (j : Nat) : d[j]? ≠ some 123 := fun e => by
  have hm := List.mem_of_getElem? e
  have := dig_of _ (List.all_eq_true.1 h _ hm)
  simp at this
theorem litO_some {p d : List UInt8} (hd : nineOk d = true) : litO (p ++ 123 :: d ++ [125]) = some (p.length, val d) := by
  have hs : Lib.hasSuffix (p ++ 123 :: d ++ [125]) [125] = true := (suffix_iff _).2 ⟨p ++ 123 :: d, rfl⟩
  have hi : inner (p ++ 123 :: d ++ [125]) = p ++ 123 :: d := inner_snoc _ _
  have hd1 := (nine_all hd).1
  have hl : lastBr (p ++ 123 :: d) = (p.length : Int) := by
    have hp : (p ++ 123 :: d)[p.length]? = some 123 := by simp
    rcases lastBr_spec (p ++ 123 :: d) with ⟨_, h2⟩ | ⟨i, h1, h2, h3, h4⟩
    · exact (h2 _ hp).elim
    · rw [h2]
      rcases Nat.lt_trichotomy i p.length with h | h | h
      · exact (h4 _ h hp).elim
      · rw [h]
      · exfalso
        rw [List.getElem?_append_right (by omega)] at h3
        obtain ⟨k, hk⟩ : ∃ k, i - p.length = k + 1 := ⟨i - p.length - 1, by omega⟩
        rw [hk, List.getElem?_cons_succ] at h3
        exact dig_no_brace hd1 k h3
  have hdr : (p ++ 123 :: d).drop (p.length + 1) = d := by
    rw [List.drop_append]; simp
  unfold litO
  rw [if_pos hs, hi, hl, if_neg (by omega), Int.toNat_natCast, hdr, if_pos hd]
theorem litO_inv {s : List UInt8} {a n : Nat} (h : litO s = some (a, n)) : ∃ p d, s = p ++ 123 :: d ++ [125] ∧ nineOk d = true ∧ a = p.length ∧ n = val d := by
  unfold litO at h
  split at h
  case isFalse => cases h
  rename_i hs
  split at h
  case isTrue => cases h
  rename_i h0
  split at h
  case isFalse => cases h
  rename_i hd
  simp only [Option.some.injEq, Prod.mk.injEq] at h
  obtain ⟨l, rfl⟩ := (suffix_iff s).1 hs
  rw [inner_snoc] at h0 hd h
  rcases lastBr_spec l with ⟨h1, _⟩ | ⟨i, h1, h2, h3, h4⟩
  · omega
  · rw [h2, Int.toNat_natCast] at hd h
    refine ⟨l.take i, l.drop (i + 1), ?_, hd, ?_, h.2.symm⟩
    · congr 1
      obtain ⟨hi, e⟩ := List.getElem?_eq_some_iff.1 h3
      conv => lhs; rw [← List.take_append_drop i l, List.drop_eq_getElem_cons hi, e]
    · rw [List.length_take]; omega
theorem litO_none {s : List UInt8} (h : ∀ p d, s = p ++ 123 :: d ++ [125] → nineOk d = false) : litO s = none := by
  cases hl : litO s with
  | none => rfl
  | some q =>
    obtain ⟨a, n⟩ := q
    obtain ⟨p, d, h1, h2, _⟩ := litO_inv hl
    rw [h p d h1] at h2
    cases h2
theorem getD_get {l : List UInt8} {i : Nat} (h : i < l.length) : l[i]? = some (l.getD i 0) := by
  simp [List.getD_eq_getElem?_getD, h]
theorem inner_get (s : List UInt8) {i : Nat} (h : i < s.length - 1) : (inner s)[i]? = some (s.getD i 0) := by
  unfold inner
  rw [List.getElem?_take, if_pos h, getD_get (by omega)]
theorem inner_len (s : List UInt8) : (inner s).length = s.length - 1 := by
  unfold inner
  rw [List.length_take]; omega
/-- No brace ahead of the digits. -/
theorem lit_stop (s : List UInt8) (k : Nat) (hk : k ≤ s.length - 1) (h1 : ∀ i, k ≤ i → i < s.length - 1 → isDig (s.getD i 0) = true) (h2 : k = 0 ∨ ∃ j, k = j + 1 ∧ isDig (s.getD j 0) = false ∧ s.getD j 0 ≠ 123) : litO s = none := by
  refine litO_none fun p d hs => ?_
  cases hn : nineOk d with
  | false => rfl
  | true =>
    exfalso
    have hd := (nine_all hn).1
    have hl : s.length = p.length + d.length + 2 := by rw [hs]; simp; omega
    have hp : s.getD p.length 0 = 123 := by rw [hs]; simp [List.getD_eq_getElem?_getD]
    have hpk : p.length < k := by
      rcases Nat.lt_or_ge p.length k with h | h
      · exact h
      · have := h1 p.length h (by omega)
        rw [hp] at this
        simp [isDig] at this
    rcases h2 with h2 | ⟨j, rfl, h2, h3⟩
    · omega
    · rcases Nat.lt_or_ge p.length j with h | h
      · have hj : s.getD j 0 ∈ d := by
          have : s[j]? = d[j - (p.length + 1)]? := by
            rw [hs, List.append_assoc, List.getElem?_append_right (by omega)]
            obtain ⟨q, hq⟩ : ∃ q, j - p.length = q + 1 := ⟨j - p.length - 1, by omega⟩
            rw [hq, List.cons_append, List.getElem?_cons_succ, List.getElem?_append_left (by omega), show j - (p.length + 1) = q by omega]
          have hg := getD_get (l := s) (i := j) (by omega)
          rw [this] at hg
          exact List.mem_of_getElem? hg
        rw [List.all_eq_true.1 hd _ hj] at h2
        cases h2
      · have : j = p.length := by omega
        subst this
        exact h3 hp
theorem lastBr_eq {s : List UInt8} {k : Nat} (h1 : s[k]? = some 123) (h2 : ∀ j : Nat, k < j → s[j]? ≠ some 123) : lastBr s = k := by
  rcases lastBr_spec s with ⟨_, h⟩ | ⟨i, _, h, h3, h4⟩
  · exact (h k h1).elim
  · rw [h]
    rcases Nat.lt_trichotomy i k with hc | hc | hc
    · exact (h4 k hc h1).elim
    · rw [hc]
    · exact (h2 i hc h3).elim
def digsAt (s : List UInt8) (k : Nat) : List UInt8 := (s.drop (k + 1)).take (s.length - 2 - k)
theorem digsAt_inner (s : List UInt8) (k : Nat) : digsAt s k = (inner s).drop (k + 1) := by
  unfold digsAt inner
  rw [List.drop_take]
  congr 1
  omega
theorem digsAt_len (s : List UInt8) (k : Nat) : (digsAt s k).length = s.length - 2 - k := by
  rw [digsAt_inner, List.length_drop, inner_len]; omega
theorem digsAt_get (s : List UInt8) (k j : Nat) (h : j < s.length - 2 - k) : (digsAt s k)[j]? = some (s.getD (k + 1 + j) 0) := by
  rw [digsAt_inner, List.getElem?_drop, inner_get s (by omega)]
theorem digsAt_all (s : List UInt8) (k : Nat) (h1 : ∀ i, k + 1 ≤ i → i < s.length - 1 → isDig (s.getD i 0) = true) : (digsAt s k).all isDig = true := by
  refine List.all_eq_true.2 fun c hc => ?_
  obtain ⟨j, hj⟩ := List.mem_iff_getElem?.1 hc
  have hl := (List.getElem?_eq_some_iff.1 hj).1
  rw [digsAt_len] at hl
  rw [digsAt_get s k j hl] at hj
  rw [← Option.some.inj hj]
  exact h1 _ (by omega) (by omega)
/-- A brace, and digits behind it. -/
theorem lit_at (s : List UInt8) (k : Nat) (hs : s.getD (s.length - 1) 0 = 125) (hk : k < s.length - 1) (h1 : ∀ i, k + 1 ≤ i → i < s.length - 1 → isDig (s.getD i 0) = true) (h2 : s.getD k 0 = 123) :
    litO s = if nineOk (digsAt s k) = true then some (k, val (digsAt s k)) else none := by
  have hsf : Lib.hasSuffix s [125] = true := (suffix_iff s).2 ⟨inner s, by
    apply List.ext_getElem?
    intro i
    by_cases hi : i < s.length - 1
    · rw [List.getElem?_append_left (by rw [inner_len]; exact hi), inner_get s hi, getD_get (by omega)]
    · by_cases hi2 : i = s.length - 1
      · rw [List.getElem?_append_right (by rw [inner_len]; omega), inner_len, hi2, Nat.sub_self, getD_get (by omega), hs]; rfl
      · rw [List.getElem?_eq_none (by omega), List.getElem?_eq_none (by rw [List.length_append, inner_len]; simp; omega)]⟩
  have hb : lastBr (inner s) = k := lastBr_eq (by rw [inner_get s hk, h2]) fun j hj e => by
    have hl := (List.getElem?_eq_some_iff.1 e).1
    rw [inner_len] at hl
    rw [inner_get s hl] at e
    have := h1 j (by omega) hl
    rw [Option.some.inj e] at this
    simp [isDig] at this
  unfold litO
  rw [if_pos hsf, hb, if_neg (by omega), Int.toNat_natCast, ← digsAt_inner]
theorem nine_iff {d : List UInt8} (h : d.all isDig = true) : nineOk d = (decide (1 ≤ d.length) && decide (d.length ≤ 4) && !(decide (1 < d.length) && decide (d.head? = some 48))) := by
  cases hn : nineOk d with
  | true =>
    obtain ⟨_, h2, h3⟩ := nine_all hn
    have hp : 1 ≤ d.length := by
      cases d with
      | nil => exact (h2 rfl).elim
      | cons _ _ => simp
    unfold nineOk isNum at hn
    simp only [Bool.and_eq_true, Bool.or_eq_true, decide_eq_true_eq, Bool.not_eq_true', beq_eq_false_iff_ne, ne_eq] at hn
    simp only [hp, h3, decide_true, Bool.true_and]
    rcases hn.1.2 with h4 | h4
    · rw [h4]; simp
    · simp [h4]
  | false =>
    symm
    cases hq : (decide (1 ≤ d.length) && decide (d.length ≤ 4) && !(decide (1 < d.length) && decide (d.head? = some 48))) with
    | false => rfl
    | true =>
      exfalso
      simp only [Bool.and_eq_true, decide_eq_true_eq, Bool.not_eq_true', Bool.and_eq_false_iff, decide_eq_false_iff_not] at hq
      obtain ⟨⟨h1, h2⟩, h3⟩ := hq
      have hv := val_lt d h
      have hv' : val d < 10 ^ 4 := Nat.lt_of_lt_of_le hv (Nat.pow_le_pow_right (by decide) h2)
      have hnum : isNum d = true := by
        unfold isNum
        have : d.isEmpty = false := by
          cases d with
          | nil => simp at h1
          | cons _ _ => rfl
        rw [h, this]
        rcases h3 with h3 | h3
        · have : d.length = 1 := by omega
          simp [this]
        · simp [h3]
      unfold nineOk at hn
      rw [hnum] at hn
      simp at hn
      omega
end Go.Proofs.YtgfcdkbbkgamnaaDoor
