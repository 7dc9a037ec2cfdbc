/-
  2^255 - 19 is prime, and 2 is a primitive root of it. It speaks of no program.
-/
import Derived.Test.YtdkmkifebhggeaaKa
namespace Go.Proofs.Ytdkmkifebhggeaa
open Go Go.RowKit
set_option maxHeartbeats 4000000
set_option linter.unusedSimpArgs false
set_option linter.unusedVariables false
set_option linter.unusedSectionVars false
def powm : Nat → Nat → Nat → Nat → Nat
  | 0, _, _, n => 1 % n
  | f + 1, b, e, n => cond (Nat.beq e 0) (1 % n) (cond (Nat.beq (e % 2) 1) (b * powm f (b * b % n) (e / 2) n % n) (powm f (b * b % n) (e / 2) n))
theorem powm_eq : ∀ (f b e n : Nat), e < 2 ^ f → powm f b e n = b ^ e % n
  | 0, b, e, n, h => by
    have : e = 0 := by simpa using h
    subst this; rfl
  | f + 1, b, e, n, h => by
    rw [powm]
    have hlt : e / 2 < 2 ^ f := by rw [Nat.pow_succ] at h; omega
    have ih := powm_eq f (b * b % n) (e / 2) n hlt
    have hsq : (b * b % n) ^ (e / 2) % n = b ^ (2 * (e / 2)) % n := by
      rw [← Nat.pow_mod, Nat.pow_mul, Nat.pow_two]
    rw [hsq] at ih
    cases h0 : Nat.beq e 0 with
    | true =>
      have : e = 0 := Nat.eq_of_beq_eq_true h0
      subst this; rfl
    | false =>
      cases h1 : Nat.beq (e % 2) 1 with
      | true =>
        have h1 := Nat.eq_of_beq_eq_true h1
        simp only [cond_true, cond_false]
        rw [ih, Nat.mul_mod, Nat.mod_mod, ← Nat.mul_mod, Nat.mul_comm, ← Nat.pow_succ]
        congr 2; omega
      | false =>
        have h1 : e % 2 ≠ 1 := Nat.ne_of_beq_eq_false h1
        simp only [cond_false]
        rw [ih]
        congr 2; omega
/-- Prime, by Fermat. -/
def PP (n : Nat) : Prop := 1 < n ∧ ∀ a, 0 < a → a < n → a ^ (n - 1) % n = 1
theorem PP_cop {q : Nat} (h : PP q) (m : Nat) : q ∣ m ∨ Nat.gcd q m = 1 := by
  obtain ⟨h1, h2⟩ := h
  rcases Nat.eq_zero_or_pos (m % q) with h0 | h0
  · exact .inl (Nat.dvd_of_mod_eq_zero h0)
  · right
    have h3 := h2 (m % q) h0 (Nat.mod_lt _ (by omega))
    have hd1 : Nat.gcd q m ∣ q := Nat.gcd_dvd_left _ _
    have hd2 : Nat.gcd q m ∣ m := Nat.gcd_dvd_right _ _
    have hd3 : Nat.gcd q m ∣ m % q := (Nat.dvd_mod_iff hd1).2 hd2
    have hd4 : Nat.gcd q m ∣ (m % q) ^ (q - 1) := by
      obtain ⟨k, hk⟩ : ∃ k, q - 1 = k + 1 := ⟨q - 2, by omega⟩
      rw [hk, Nat.pow_succ]
      exact Nat.dvd_mul_left_of_dvd hd3 _
    have hd5 : Nat.gcd q m ∣ (m % q) ^ (q - 1) % q := (Nat.dvd_mod_iff hd1).2 hd4
    rw [h3] at hd5
    exact Nat.dvd_one.1 hd5
theorem inj_surj : ∀ (N : Nat) (f : Nat → Nat), (∀ i, i < N → f i < N) → (∀ i j, i < N → j < N → f i = f j → i = j) → ∀ y, y < N → ∃ i, i < N ∧ f i = y
  | 0, _, _, _, y, h => by omega
  | N + 1, f, hm, hi, y, hy => by
    have ih := inj_surj N (fun i => if f i = N then f N else f i) (fun i h => by
        have := hm i (by omega)
        have := hm N (by omega)
        show (if f i = N then f N else f i) < N
        split
        · rename_i h1
          rcases Nat.lt_or_ge (f N) N with h2 | h2
          · exact h2
          · have := hi i N (by omega) (by omega) (by omega)
            omega
        · omega) (fun i j h1 h2 he => by
        have he : (if f i = N then f N else f i) = (if f j = N then f N else f j) := he
        split at he <;> split at he
        · exact hi i j (by omega) (by omega) (by omega)
        · have := hi N j (by omega) (by omega) he
          omega
        · have := hi i N (by omega) (by omega) he
          omega
        · exact hi i j (by omega) (by omega) he)
    have hN := hm N (by omega)
    by_cases e : y = f N
    · exact ⟨N, by omega, e.symm⟩
    · by_cases e2 : y = N
      · obtain ⟨i, h1, h2⟩ := ih (f N) (by omega)
        have h2 : (if f i = N then f N else f i) = f N := h2
        split at h2
        · exact ⟨i, by omega, by omega⟩
        · have := hi i N (by omega) (by omega) h2
          omega
      · obtain ⟨i, h1, h2⟩ := ih y (by omega)
        have h2 : (if f i = N then f N else f i) = y := h2
        split at h2
        · exact absurd h2.symm e
        · exact ⟨i, by omega, h2⟩
theorem pow_one_mul {g n a : Nat} (h : g ^ a % n = 1) (hn : 1 < n) (k : Nat) : g ^ (a * k) % n = 1 := by
  rw [Nat.pow_mul, Nat.pow_mod, h, Nat.one_pow, Nat.mod_eq_of_lt hn]
theorem pow_gcd {g n : Nat} (hn : 1 < n) (a b : Nat) : g ^ a % n = 1 → g ^ b % n = 1 → g ^ (Nat.gcd a b) % n = 1 := by
  refine Nat.gcd.induction a b (fun b _ h => by rw [Nat.gcd_zero_left]; exact h) fun a b ha ih h1 h2 => ?_
  rw [Nat.gcd_rec]
  refine ih ?_ h1
  have e : g ^ b = g ^ (a * (b / a)) * g ^ (b % a) := by rw [← Nat.pow_add, Nat.div_add_mod]
  rw [e, Nat.mul_mod, pow_one_mul h1 hn, Nat.one_mul, Nat.mod_mod] at h2
  exact h2
def prodL : List Nat → Nat
  | [] => 1
  | q :: l => q * prodL l
def AllP : List Nat → Prop
  | [] => True
  | q :: l => PP q ∧ AllP l
theorem cop_prod (e : Nat) : ∀ l : List Nat, AllP l → (∃ q, q ∈ l ∧ q ∣ e) ∨ Nat.gcd (prodL l) e = 1
  | [], _ => .inr (Nat.gcd_one_left e)
  | q :: l, ⟨h1, h2⟩ => by
    rcases PP_cop h1 e with h | h
    · exact .inl ⟨q, by simp, h⟩
    · rcases cop_prod e l h2 with ⟨q', h3, h4⟩ | h3
      · exact .inl ⟨q', by simp [h3], h4⟩
      · exact .inr (Nat.Coprime.mul_left h h3)
theorem dvd_prod {q : Nat} : ∀ {l : List Nat}, q ∈ l → q ∣ prodL l
  | x :: l, h => by
    rcases List.mem_cons.1 h with rfl | h
    · exact Nat.dvd_mul_right _ _
    · exact Nat.dvd_mul_left_of_dvd (dvd_prod h) _
def okQ (n g : Nat) (l : List Nat) : Bool := l.all fun q => !(Nat.beq (powm 300 g ((n - 1) / q) n) 1)
theorem pratt2 (n g : Nat) (l : List Nat) (hn : 1 < n) (hb : n < 2 ^ 300) (hl : prodL l = n - 1) (hp : AllP l) (hg : powm 300 g (n - 1) n = 1) (hq : okQ n g l = true) : PP n ∧ ∀ a, 0 < a → a < n → ∃ i, g ^ i % n = a := by
  rw [powm_eq _ _ _ _ (by omega)] at hg
  have ord : ∀ k, 0 < k → k < n - 1 → g ^ k % n ≠ 1 := fun k hk0 hk h => by
    have hd := pow_gcd hn k (n - 1) h hg
    obtain ⟨e, he⟩ := Nat.gcd_dvd_right k (n - 1)
    have hle : Nat.gcd k (n - 1) ≤ k := Nat.le_of_dvd hk0 (Nat.gcd_dvd_left _ _)
    generalize Nat.gcd k (n - 1) = d at *
    rcases cop_prod e l hp with ⟨q, hq1, hq2⟩ | hc
    · obtain ⟨e', he'⟩ := hq2
      have h1 := List.all_eq_true.1 hq q hq1
      have hq0 : 0 < q := by
        rcases Nat.eq_zero_or_pos q with h0 | h0
        · have := dvd_prod hq1
          rw [h0, hl] at this
          have := Nat.eq_zero_of_zero_dvd this
          omega
        · exact h0
      have h2 : (n - 1) / q = d * e' := by
        rw [he, he', show d * (q * e') = q * (d * e') by rw [Nat.mul_left_comm]]
        exact Nat.mul_div_cancel_left _ hq0
      rw [powm_eq _ _ _ _ (Nat.lt_of_le_of_lt (Nat.div_le_self _ _) (by omega)), h2, pow_one_mul hd hn] at h1
      exact absurd h1 (by decide)
    · rw [hl] at hc
      have : e ∣ Nat.gcd (n - 1) e := Nat.dvd_gcd ⟨d, by rw [he, Nat.mul_comm]⟩ (Nat.dvd_refl e)
      rw [hc] at this
      have := Nat.dvd_one.1 this
      subst this
      omega
  have nz : ∀ i, i < n - 1 → g ^ i % n ≠ 0 := fun i hi h => by
    have e : g ^ (n - 1) = g ^ i * g ^ (n - 1 - i) := by rw [← Nat.pow_add]; congr 1; omega
    rw [e, Nat.mul_mod, h, Nat.zero_mul, Nat.zero_mod] at hg
    omega
  have inj : ∀ i j, i < j → j < n - 1 → g ^ i % n ≠ g ^ j % n := fun i j h1 h2 h => by
    refine ord (j - i) (by omega) (by omega) ?_
    have e1 : g ^ (n - 1 + (j - i)) = g ^ (n - 1 - i) * g ^ j := by rw [← Nat.pow_add]; congr 1; omega
    have e2 : g ^ (n - 1) = g ^ (n - 1 - i) * g ^ i := by rw [← Nat.pow_add]; congr 1; omega
    have e3 : g ^ (n - 1 + (j - i)) % n = 1 := by
      rw [e1, Nat.mul_mod, ← h, ← Nat.mul_mod, ← e2]; exact hg
    rw [Nat.pow_add, Nat.mul_mod, hg, Nat.one_mul, Nat.mod_mod] at e3
    exact e3
  have key : ∀ a, 0 < a → a < n → ∃ i, g ^ i % n = a := fun a h0 h1 => by
    obtain ⟨i, hi, he⟩ := inj_surj (n - 1) (fun i => g ^ i % n - 1) (fun i hi => by
        have := nz i hi
        have := Nat.mod_lt (g ^ i) (show 0 < n by omega)
        show g ^ i % n - 1 < n - 1
        omega) (fun i j hi hj he => by
        have he : g ^ i % n - 1 = g ^ j % n - 1 := he
        have a1 := nz i hi
        have a2 := nz j hj
        rcases Nat.lt_trichotomy i j with h | h | h
        · exact absurd (by omega) (inj i j h hj)
        · exact h
        · exact absurd (by omega) (inj j i h hi)) (a - 1) (by omega)
    have he : g ^ i % n - 1 = a - 1 := he
    have hz := nz i hi
    have ha : g ^ i % n = a := by omega
    exact ⟨i, ha⟩
  refine ⟨⟨hn, fun a h0 h1 => ?_⟩, key⟩
  obtain ⟨i, ha⟩ := key a h0 h1
  rw [← ha, ← Nat.pow_mod, ← Nat.pow_mul, Nat.mul_comm]
  exact pow_one_mul hg hn i
theorem pratt (n g : Nat) (l : List Nat) (hn : 1 < n) (hb : n < 2 ^ 300) (hl : prodL l = n - 1) (hp : AllP l) (hg : powm 300 g (n - 1) n = 1) (hq : okQ n g l = true) : PP n := (pratt2 n g l hn hb hl hp hg hq).1
def okS (n : Nat) : Bool := (List.range n).all fun a => Nat.beq a 0 || Nat.beq (powm 300 a (n - 1) n) 1
theorem smallP (n : Nat) (hn : 1 < n) (hb : n < 2 ^ 300) (h : okS n = true) : PP n := by
  refine ⟨hn, fun a h0 h1 => ?_⟩
  have := List.all_eq_true.1 h a (List.mem_range.2 h1)
  rw [powm_eq _ _ _ _ (by omega)] at this
  rcases Bool.or_eq_true _ _ ▸ this with h | h
  · have := Nat.eq_of_beq_eq_true h; omega
  · exact Nat.eq_of_beq_eq_true h
theorem pq2 : PP 2 := smallP _ (by decide) (by decide +kernel) (by decide +kernel)
theorem pq3 : PP 3 := smallP _ (by decide) (by decide +kernel) (by decide +kernel)
theorem pq5 : PP 5 := smallP _ (by decide) (by decide +kernel) (by decide +kernel)
theorem pq7 : PP 7 := smallP _ (by decide) (by decide +kernel) (by decide +kernel)
theorem pq11 : PP 11 := smallP _ (by decide) (by decide +kernel) (by decide +kernel)
theorem pq13 : PP 13 := smallP _ (by decide) (by decide +kernel) (by decide +kernel)
theorem pq17 : PP 17 := smallP _ (by decide) (by decide +kernel) (by decide +kernel)
theorem pq19 : PP 19 := smallP _ (by decide) (by decide +kernel) (by decide +kernel)
theorem pq23 : PP 23 := smallP _ (by decide) (by decide +kernel) (by decide +kernel)
theorem pq29 : PP 29 := smallP _ (by decide) (by decide +kernel) (by decide +kernel)
theorem pq31 : PP 31 := smallP _ (by decide) (by decide +kernel) (by decide +kernel)
theorem pq37 : PP 37 := smallP _ (by decide) (by decide +kernel) (by decide +kernel)
theorem pq41 : PP 41 := smallP _ (by decide) (by decide +kernel) (by decide +kernel)
theorem pq43 : PP 43 := smallP _ (by decide) (by decide +kernel) (by decide +kernel)
theorem pq47 : PP 47 := smallP _ (by decide) (by decide +kernel) (by decide +kernel)
theorem pq59 : PP 59 := smallP _ (by decide) (by decide +kernel) (by decide +kernel)
theorem pq83 : PP 83 := smallP _ (by decide) (by decide +kernel) (by decide +kernel)
theorem pq97 : PP 97 := smallP _ (by decide) (by decide +kernel) (by decide +kernel)
theorem pq103 : PP 103 := smallP _ (by decide) (by decide +kernel) (by decide +kernel)
theorem pq107 : PP 107 := smallP _ (by decide) (by decide +kernel) (by decide +kernel)
theorem pq127 : PP 127 := smallP _ (by decide) (by decide +kernel) (by decide +kernel)
theorem pq131 : PP 131 := smallP _ (by decide) (by decide +kernel) (by decide +kernel)
theorem pq173 : PP 173 := smallP _ (by decide) (by decide +kernel) (by decide +kernel)
theorem pq223 : PP 223 := pratt _ 3 [2, 3, 37] (by decide +kernel) (by decide +kernel) (by decide +kernel) ⟨pq2, pq3, pq37, trivial⟩ (by decide +kernel) (by decide +kernel)
theorem pq239 : PP 239 := pratt _ 7 [2, 7, 17] (by decide +kernel) (by decide +kernel) (by decide +kernel) ⟨pq2, pq7, pq17, trivial⟩ (by decide +kernel) (by decide +kernel)
theorem pq353 : PP 353 := pratt _ 3 [2, 2, 2, 2, 2, 11] (by decide +kernel) (by decide +kernel) (by decide +kernel) ⟨pq2, pq2, pq2, pq2, pq2, pq11, trivial⟩ (by decide +kernel) (by decide +kernel)
theorem pq419 : PP 419 := pratt _ 2 [2, 11, 19] (by decide +kernel) (by decide +kernel) (by decide +kernel) ⟨pq2, pq11, pq19, trivial⟩ (by decide +kernel) (by decide +kernel)
theorem pq479 : PP 479 := pratt _ 13 [2, 239] (by decide +kernel) (by decide +kernel) (by decide +kernel) ⟨pq2, pq239, trivial⟩ (by decide +kernel) (by decide +kernel)
theorem pq487 : PP 487 := pratt _ 3 [2, 3, 3, 3, 3, 3] (by decide +kernel) (by decide +kernel) (by decide +kernel) ⟨pq2, pq3, pq3, pq3, pq3, pq3, trivial⟩ (by decide +kernel) (by decide +kernel)
theorem pq991 : PP 991 := pratt _ 6 [2, 3, 3, 5, 11] (by decide +kernel) (by decide +kernel) (by decide +kernel) ⟨pq2, pq3, pq3, pq5, pq11, trivial⟩ (by decide +kernel) (by decide +kernel)
theorem pq1723 : PP 1723 := pratt _ 3 [2, 3, 7, 41] (by decide +kernel) (by decide +kernel) (by decide +kernel) ⟨pq2, pq3, pq7, pq41, trivial⟩ (by decide +kernel) (by decide +kernel)
theorem pq2437 : PP 2437 := pratt _ 2 [2, 2, 3, 7, 29] (by decide +kernel) (by decide +kernel) (by decide +kernel) ⟨pq2, pq2, pq3, pq7, pq29, trivial⟩ (by decide +kernel) (by decide +kernel)
theorem pq3727 : PP 3727 := pratt _ 3 [2, 3, 3, 3, 3, 23] (by decide +kernel) (by decide +kernel) (by decide +kernel) ⟨pq2, pq3, pq3, pq3, pq3, pq23, trivial⟩ (by decide +kernel) (by decide +kernel)
theorem pq4153 : PP 4153 := pratt _ 5 [2, 2, 2, 3, 173] (by decide +kernel) (by decide +kernel) (by decide +kernel) ⟨pq2, pq2, pq2, pq3, pq173, trivial⟩ (by decide +kernel) (by decide +kernel)
theorem pq9463 : PP 9463 := pratt _ 3 [2, 3, 19, 83] (by decide +kernel) (by decide +kernel) (by decide +kernel) ⟨pq2, pq3, pq19, pq83, trivial⟩ (by decide +kernel) (by decide +kernel)
theorem pq32573 : PP 32573 := pratt _ 2 [2, 2, 17, 479] (by decide +kernel) (by decide +kernel) (by decide +kernel) ⟨pq2, pq2, pq17, pq479, trivial⟩ (by decide +kernel) (by decide +kernel)
theorem pq37853 : PP 37853 := pratt _ 2 [2, 2, 9463] (by decide +kernel) (by decide +kernel) (by decide +kernel) ⟨pq2, pq2, pq9463, trivial⟩ (by decide +kernel) (by decide +kernel)
theorem pq57467 : PP 57467 := pratt _ 2 [2, 59, 487] (by decide +kernel) (by decide +kernel) (by decide +kernel) ⟨pq2, pq59, pq487, trivial⟩ (by decide +kernel) (by decide +kernel)
theorem pq65147 : PP 65147 := pratt _ 2 [2, 32573] (by decide +kernel) (by decide +kernel) (by decide +kernel) ⟨pq2, pq32573, trivial⟩ (by decide +kernel) (by decide +kernel)
theorem pq75707 : PP 75707 := pratt _ 2 [2, 37853] (by decide +kernel) (by decide +kernel) (by decide +kernel) ⟨pq2, pq37853, trivial⟩ (by decide +kernel) (by decide +kernel)
theorem pq132049 : PP 132049 := pratt _ 26 [2, 2, 2, 2, 3, 3, 7, 131] (by decide +kernel) (by decide +kernel) (by decide +kernel) ⟨pq2, pq2, pq2, pq2, pq3, pq3, pq7, pq131, trivial⟩ (by decide +kernel) (by decide +kernel)
theorem pq430751 : PP 430751 := pratt _ 17 [2, 5, 5, 5, 1723] (by decide +kernel) (by decide +kernel) (by decide +kernel) ⟨pq2, pq5, pq5, pq5, pq1723, trivial⟩ (by decide +kernel) (by decide +kernel)
theorem pq569003 : PP 569003 := pratt _ 2 [2, 7, 97, 419] (by decide +kernel) (by decide +kernel) (by decide +kernel) ⟨pq2, pq7, pq97, pq419, trivial⟩ (by decide +kernel) (by decide +kernel)
theorem pqL20 : PP 1923133 := pratt _ 2 [2, 2, 3, 43, 3727] (by decide +kernel) (by decide +kernel) (by decide +kernel) ⟨pq2, pq2, pq3, pq43, pq3727, trivial⟩ (by decide +kernel) (by decide +kernel)
theorem pqL21 : PP 8574133 := pratt _ 2 [2, 2, 3, 7, 103, 991] (by decide +kernel) (by decide +kernel) (by decide +kernel) ⟨pq2, pq2, pq3, pq7, pq103, pq991, trivial⟩ (by decide +kernel) (by decide +kernel)
theorem pqL22 : PP 2773320623 := pratt _ 5 [2, 2437, 569003] (by decide +kernel) (by decide +kernel) (by decide +kernel) ⟨pq2, pq2437, pq569003, trivial⟩ (by decide +kernel) (by decide +kernel)
theorem pqL23 : PP 72106336199 := pratt _ 7 [2, 13, 2773320623] (by decide +kernel) (by decide +kernel) (by decide +kernel) ⟨pq2, pq13, pqL22, trivial⟩ (by decide +kernel) (by decide +kernel)
theorem pqL24 : PP 1919519569386763 := pratt _ 2 [2, 3, 7, 19, 47, 47, 127, 8574133] (by decide +kernel) (by decide +kernel) (by decide +kernel) ⟨pq2, pq3, pq7, pq19, pq47, pq47, pq127, pqL21, trivial⟩ (by decide +kernel) (by decide +kernel)
theorem pqL25 : PP 31757755568855353 := pratt _ 10 [2, 2, 2, 3, 31, 107, 223, 4153, 430751] (by decide +kernel) (by decide +kernel) (by decide +kernel) ⟨pq2, pq2, pq2, pq3, pq31, pq107, pq223, pq4153, pq430751, trivial⟩ (by decide +kernel) (by decide +kernel)
theorem pqL26 : PP 75445702479781427272750846543864801 := pratt _ 7 [2, 2, 2, 2, 2, 3, 3, 5, 5, 75707, 72106336199, 1919519569386763] (by decide +kernel) (by decide +kernel) (by decide +kernel) ⟨pq2, pq2, pq2, pq2, pq2, pq3, pq3, pq5, pq5, pq75707, pqL23, pqL24, trivial⟩ (by decide +kernel) (by decide +kernel)
theorem pqL27 : PP 74058212732561358302231226437062788676166966415465897661863160754340907 := pratt _ 2 [2, 3, 353, 57467, 132049, 1923133, 31757755568855353, 75445702479781427272750846543864801] (by decide +kernel) (by decide +kernel) (by decide +kernel) ⟨pq2, pq3, pq353, pq57467, pq132049, pqL20, pqL25, pqL26, trivial⟩ (by decide +kernel) (by decide +kernel)
theorem pqL28 : PP 57896044618658097711785492504343953926634992332820282019728792003956564819949 ∧ ∀ a, 0 < a → a < 57896044618658097711785492504343953926634992332820282019728792003956564819949 → ∃ i, 2 ^ i % 57896044618658097711785492504343953926634992332820282019728792003956564819949 = a := pratt2 _ 2 [2, 2, 3, 65147, 74058212732561358302231226437062788676166966415465897661863160754340907] (by decide +kernel) (by decide +kernel) (by decide +kernel) ⟨pq2, pq2, pq3, pq65147, pqL27, trivial⟩ (by decide +kernel) (by decide +kernel)
def exI : Nat → Nat
  | 0 => 0
  | b + 1 => exI b + (if b = 2 ∨ b = 4 then 0 else 2 ^ b)
theorem modpow (x y n k : Nat) : ((x % n) ^ k * y) % n = (x ^ k * y) % n := by
  rw [Nat.mul_mod, ← Nat.pow_mod, ← Nat.mul_mod]
theorem sqpow (x b : Nat) : x ^ (2 ^ (b + 1)) = (x * x) ^ (2 ^ b) := by
  rw [show 2 ^ (b + 1) = 2 * 2 ^ b by rw [Nat.mul_comm]; rfl, Nat.pow_mul, Nat.pow_two]
theorem vinvR_val {n : Nat} [NeZero n] (a : Fin n) : ∀ (b : Nat) (r : Fin n), (vinvR a b r).val = (r.val ^ (2 ^ b) * a.val ^ (exI b)) % n
  | 0, r => by
    rw [vinvR, exI, Nat.pow_zero, Nat.pow_zero, Nat.pow_one, Nat.mul_one, Nat.mod_eq_of_lt r.isLt]
  | b + 1, r => by
    rw [vinvR, vinvR_val a b, exI]
    split
    · rw [Fin.val_mul, modpow, sqpow, Nat.add_zero]
    · rw [Fin.val_mul, Fin.val_mul, modpow, sqpow, Nat.pow_add, Nat.mul_pow, Nat.mul_assoc, modpow, Nat.mul_comm (a.val ^ 2 ^ b)]
theorem fermat_inv {n : Nat} [NeZero n] (hP : PP n) {B : Nat} (he : exI B + 1 = n - 1) (a : Fin n) (h : a ≠ 0) : a * vinvR a B 1 = 1 := by
  have h1 : (1 : Fin n).val = 1 := by
    show 1 % n = 1
    exact Nat.mod_eq_of_lt hP.1
  have h0 : 0 < a.val := by
    rcases Nat.eq_zero_or_pos a.val with h0 | h0
    · exact absurd (Fin.ext (by rw [h0]; rfl)) h
    · exact h0
  apply Fin.ext
  rw [Fin.val_mul, vinvR_val, h1, Nat.one_pow, Nat.one_mul, Nat.mul_mod, Nat.mod_mod, ← Nat.mul_mod, Nat.mul_comm, ← Nat.pow_succ, Nat.succ_eq_add_one, he]
  exact hP.2 a.val h0 a.isLt
theorem both25519 : PP p25519 ∧ ∀ a, 0 < a → a < p25519 → ∃ i, 2 ^ i % p25519 = a := pqL28
theorem prime25519 : PP p25519 := both25519.1
theorem ex25519 : exI 255 + 1 = p25519 - 1 := by decide +kernel
end Go.Proofs.Ytdkmkifebhggeaa
