/-
  Numerals: what strconv reads and prints, by digits. It speaks of no program.
-/
import Derived.Lib.AtoiAll
import Derived.Lib.ItoaNum
namespace Go.Proofs.YtgfcdkbbkgamnaaDoor
open Go
set_option linter.unusedSimpArgs false
set_option linter.unusedVariables false
def isDig (c : UInt8) : Bool := decide (48 ≤ c.toNat) && decide (c.toNat ≤ 57)
def valFrom (a : Nat) : List UInt8 → Nat
  | [] => a
  | c :: l => valFrom (10 * a + (c.toNat - 48)) l
def val (l : List UInt8) : Nat := valFrom 0 l
theorem valFrom_append (a : Nat) (l : List UInt8) (c : UInt8) : valFrom a (l ++ [c]) = 10 * valFrom a l + (c.toNat - 48) := by
  induction l generalizing a with
  | nil => rfl
  | cons x l ih => exact ih _
theorem valFrom_app (a : Nat) (l m : List UInt8) : valFrom a (l ++ m) = valFrom (valFrom a l) m := by
  induction l generalizing a with
  | nil => rfl
  | cons x l ih => exact ih _
theorem val_snoc (l : List UInt8) (c : UInt8) : val (l ++ [c]) = 10 * val l + (c.toNat - 48) := valFrom_append 0 l c
theorem valFrom_ge (a : Nat) (l : List UInt8) : a ≤ valFrom a l := by
  induction l generalizing a with
  | nil => exact Nat.le_refl _
  | cons x l ih => exact Nat.le_trans (by omega) (ih _)
theorem valFrom_lt (a k : Nat) (l : List UInt8) (h : l.all isDig = true) (ha : a < 10 ^ k) : valFrom a l < 10 ^ (k + l.length) := by
  induction l generalizing a k with
  | nil => exact ha
  | cons x l ih =>
    simp only [List.all_cons, Bool.and_eq_true] at h
    have hx := h.1
    unfold isDig at hx
    simp only [Bool.and_eq_true, decide_eq_true_eq] at hx
    have := ih (10 * a + (x.toNat - 48)) (k + 1) h.2 (by rw [Nat.pow_succ]; omega)
    rw [List.length_cons, show k + (l.length + 1) = k + 1 + l.length by omega]
    exact this
theorem val_lt (l : List UInt8) (h : l.all isDig = true) : val l < 10 ^ l.length := by
  have := valFrom_lt 0 0 l h (by decide)
  rwa [Nat.zero_add] at this
/-- A numeral: digits, and no nought ahead of others. -/
def isNum (l : List UInt8) : Bool := l.all isDig && !l.isEmpty && (decide (l.length = 1) || !(l.head? == some 48))
theorem snoc_cases (l : List UInt8) : l = [] ∨ ∃ m c, l = m ++ [c] := by
  rcases List.eq_nil_or_concat l with h | ⟨m, c, h⟩
  · exact .inl h
  · exact .inr ⟨m, c, by simpa using h⟩
theorem dig_of (c : UInt8) (h : isDig c = true) : 48 ≤ c.toNat ∧ c.toNat ≤ 57 := by
  unfold isDig at h
  simpa using h
theorem dig_back (c : UInt8) (h : isDig c = true) : UInt8.ofNat (48 + (c.toNat - 48)) = c := by
  have := dig_of c h
  rw [show 48 + (c.toNat - 48) = c.toNat by omega]
  simp
theorem val_pos : ∀ (n : Nat) (l : List UInt8), l.length = n → isNum l = true → l ≠ [48] → 1 ≤ val l
  | n, [], _, h, _ => by simp [isNum] at h
  | n, c :: l, hl, h, h0 => by
    unfold isNum at h
    simp only [List.all_cons, Bool.and_eq_true, List.isEmpty_cons, Bool.not_false, and_true, List.length_cons, List.head?_cons, Bool.or_eq_true, decide_eq_true_eq] at h
    have hc := dig_of c h.1.1
    have hne : c ≠ 48 := by
      intro e
      subst e
      rcases h.2 with h1 | h1
      · have : l = [] := List.eq_nil_of_length_eq_zero (by omega)
        subst this
        exact h0 rfl
      · simp at h1
    have hn : c.toNat ≠ 48 := fun e => hne (UInt8.toNat_inj.1 e)
    have := valFrom_ge (10 * 0 + (c.toNat - 48)) l
    show 1 ≤ valFrom (10 * 0 + (c.toNat - 48)) l
    omega
/-- A numeral is what its value is printed as. -/
theorem dec_val : ∀ (n : Nat) (l : List UInt8), l.length = n → isNum l = true → Lib.decDigits (val l) = l := by
  intro n
  induction n with
  | zero =>
    intro l hl h
    have : l = [] := List.eq_nil_of_length_eq_zero hl
    subst this
    simp [isNum] at h
  | succ n ih =>
    intro l hl h
    rcases snoc_cases l with rfl | ⟨m, c, rfl⟩
    · simp at hl
    · have hm : m.length = n := by simpa using hl
      unfold isNum at h
      simp only [List.all_append, List.all_cons, List.all_nil, Bool.and_true, Bool.and_eq_true] at h
      obtain ⟨⟨⟨hma, hc⟩, _⟩, hz⟩ := h
      have hcd := dig_of c hc
      rw [val_snoc]
      by_cases h0 : m = []
      · subst h0
        have hv : val ([] : List UInt8) = 0 := rfl
        rw [hv, Lib.decDigits_one (by omega), Nat.mul_zero, Nat.zero_add, dig_back c hc]
        rfl
      · have hlen : 0 < m.length := by
          cases m with
          | nil => exact (h0 rfl).elim
          | cons _ _ => simp
        have hz' : (m.head? == some 48) = false := by
          simp only [List.length_append, List.length_cons, List.length_nil, Bool.or_eq_true, decide_eq_true_eq] at hz
          rcases hz with h1 | h1
          · omega
          · cases m with
            | nil => exact (h0 rfl).elim
            | cons x m => simpa using h1
        have hmn : isNum m = true := by
          unfold isNum
          have : m.isEmpty = false := by
            cases m with
            | nil => exact (h0 rfl).elim
            | cons _ _ => rfl
          rw [hma, hz', this]
          simp
        have hne : m ≠ [48] := by
          intro e
          subst e
          simp at hz'
        have hp := val_pos n m hm hmn hne
        rw [Lib.decDigits, dif_neg (by omega)]
        rw [show (10 * val m + (c.toNat - 48)) / 10 = val m by omega, show (10 * val m + (c.toNat - 48)) % 10 = c.toNat - 48 by omega, ih m hm hmn, dig_back c hc]
theorem dg_dig (u : Nat) (h : u < 10) : isDig (UInt8.ofNat (48 + u)) = true := by
  unfold isDig
  have : (UInt8.ofNat (48 + u)).toNat = 48 + u := by
    rw [UInt8.toNat_ofNat']
    omega
  rw [this]
  simp
  omega
/-- What is printed is a numeral, of its value. -/
theorem dec_num (u : Nat) : isNum (Lib.decDigits u) = true ∧ val (Lib.decDigits u) = u ∧ (1 ≤ u → ∀ c, (Lib.decDigits u).head? = some c → c ≠ 48) := by
  induction u using Nat.strongRecOn with
  | _ u ih =>
    by_cases h : u < 10
    · rw [Lib.decDigits_one h]
      have hd := dg_dig u h
      have hn : (UInt8.ofNat (48 + u)).toNat = 48 + u := by
        rw [UInt8.toNat_ofNat']
        omega
      refine ⟨?_, ?_, fun h1 c hc => ?_⟩
      · unfold isNum; rw [List.all_cons, hd]; simp
      · show 10 * 0 + ((UInt8.ofNat (48 + u)).toNat - 48) = u
        rw [hn]; omega
      · simp only [List.head?_cons, Option.some.injEq] at hc
        subst hc
        intro e
        have := congrArg UInt8.toNat e
        rw [hn] at this
        simp at this
        omega
    · rw [Lib.decDigits, dif_neg h]
      obtain ⟨h1, h2, h3⟩ := ih (u / 10) (by omega)
      have hd := dg_dig (u % 10) (by omega)
      have hn : (UInt8.ofNat (48 + u % 10)).toNat = 48 + u % 10 := by
        rw [UInt8.toNat_ofNat']
        omega
      have hne : Lib.decDigits (u / 10) ≠ [] := by
        intro e
        rw [e] at h1
        simp [isNum] at h1
      obtain ⟨x, r, hx⟩ : ∃ x r, Lib.decDigits (u / 10) = x :: r := by
        cases hq : Lib.decDigits (u / 10) with
        | nil => exact (hne hq).elim
        | cons x r => exact ⟨x, r, rfl⟩
      have hx0 := h3 (by omega) x (by rw [hx]; rfl)
      refine ⟨?_, ?_, fun _ c hc => ?_⟩
      · have ha : (Lib.decDigits (u / 10)).all isDig = true := by
          unfold isNum at h1
          simp only [Bool.and_eq_true] at h1
          exact h1.1.1
        unfold isNum
        rw [List.all_append, ha, List.all_cons, hd, hx]
        have : (x == 48) = false := by simpa using hx0
        simp [this]
      · rw [val_snoc, h2, hn]; omega
      · rw [hx] at hc
        simp only [List.cons_append, List.head?_cons, Option.some.injEq] at hc
        subst hc
        exact hx0
theorem parse_dig (l : List UInt8) (h : l.all isDig = true) (a : Nat) (hb : valFrom a l < 18446744073709551616) : Lib.parseUint10 a l = .ok (valFrom a l) := by
  induction l generalizing a with
  | nil => rfl
  | cons c l ih =>
    simp only [List.all_cons, Bool.and_eq_true] at h
    have hc := dig_of c h.1
    have hge := valFrom_ge (10 * a + (c.toNat - 48)) l
    have hb' : valFrom (10 * a + (c.toNat - 48)) l < 18446744073709551616 := hb
    unfold Lib.parseUint10
    rw [if_pos hc, if_neg (by omega), if_neg (by omega), show a * 10 + (c.toNat - 48) = 10 * a + (c.toNat - 48) by omega]
    exact ih h.2 _ hb'
/-- Digits are read. -/
theorem atoi_dig (l : List UInt8) (h : l.all isDig = true) (hne : l ≠ []) (hb : val l < 9223372036854775808) : Lib.atoiAll l = .ok (val l : Int) := by
  cases l with
  | nil => exact (hne rfl).elim
  | cons c r =>
    have hc := dig_of c (by simp only [List.all_cons, Bool.and_eq_true] at h; exact h.1)
    have hp := parse_dig (c :: r) h 0 (by have : valFrom 0 (c :: r) = val (c :: r) := rfl; omega)
    unfold Lib.atoiAll
    simp only
    rw [if_neg (by omega)]
    unfold Lib.parseMag
    rw [if_neg (by simp), hp]
    simp only
    have hb' : valFrom 0 (c :: r) < 9223372036854775808 := hb
    rw [if_neg (by omega), if_neg (by omega), if_neg (by omega)]
    rfl
/-- THE NUMERALS THAT A PROGRAM ACCEPTS THAT PRINTS WHAT IT HAS READ. -/
theorem num_back (l : List UInt8) (v : Int) (hA : Lib.itoa v = l) (h0 : 0 ≤ v) : isNum l = true ∧ (val l : Int) = v := by
  have e : Lib.itoa v = Lib.decDigits v.toNat := by
    unfold Lib.itoa
    rw [if_neg (by omega)]
  rw [e] at hA
  obtain ⟨h1, h2, _⟩ := dec_num v.toNat
  rw [hA] at h1 h2
  exact ⟨h1, by omega⟩
theorem num_itoa (l : List UInt8) (h : isNum l = true) : Lib.itoa (val l : Int) = l := by
  unfold Lib.itoa
  rw [if_neg (by omega), Int.toNat_natCast]
  exact dec_val l.length l rfl h
theorem isNum_all {l : List UInt8} (h : isNum l = true) : l.all isDig = true ∧ l ≠ [] := by
  unfold isNum at h
  simp only [Bool.and_eq_true] at h
  refine ⟨h.1.1, ?_⟩
  intro e
  subst e
  simp at h
end Go.Proofs.YtgfcdkbbkgamnaaDoor
