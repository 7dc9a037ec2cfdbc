/-
  The document's digits of layer 3: the least number modulo 2^255 - 19, as it is reckoned. It speaks of no program.
-/
import Derived.Test.YtdkmkifebhggeaaKk
namespace Go.Proofs.Ytdkmkifebhggeaa
open Go Go.RowKit
set_option maxHeartbeats 4000000
set_option linter.unusedSimpArgs false
set_option linter.unusedVariables false
def nW (l : List Nat) (j : Nat) : Nat := l.getD (15 + j) 0 / 32768 + l.getD (15 + j + 1) 0 % 32768 * 2
def highW (l : List Nat) (m : Nat) : List Nat := (List.range m).map (nW l)
def lowW (l : List Nat) : List Nat := l.take 15 ++ [l.getD 15 0 % 32768]
def lowI (l : List Nat) (i : Nat) : List Nat := l.take i ++ List.replicate (16 - i) 0
theorem highW_len (l : List Nat) (m : Nat) : (highW l m).length = m := by simp [highW]
theorem highW_succ (l : List Nat) (m : Nat) : highW l (m + 1) = highW l m ++ [nW l m] := by simp [highW, List.range_succ]
theorem nW_lt {l : List Nat} (h : dlt 65536 l) (j : Nat) : nW l j < 65536 := by
  have h1 := h (15 + j)
  have h2 := h (15 + j + 1)
  unfold nW; omega
theorem highW_lt {l : List Nat} (h : dlt 65536 l) : ∀ m, dlt 65536 (highW l m)
  | 0 => dlt_nil (by decide)
  | m + 1 => by rw [highW_succ]; exact dlt_append (highW_lt h m) (dlt_mk (nW_lt h m) (dlt_nil (by decide)))
theorem highW_tele (l : List Nat) : ∀ m, 32768 * dv 65536 (highW l m) + l.getD 15 0 % 32768 = dv 65536 ((l.drop 15).take m) + (l.getD (15 + m) 0 % 32768) * 65536 ^ m
  | 0 => by simp [highW, dv]
  | m + 1 => by
    have ih := highW_tele l m
    have hg : (l.drop 15).getD m 0 = l.getD (15 + m) 0 := by simp only [List.getD_eq_getElem?_getD, List.getElem?_drop]
    have hd := Nat.div_add_mod (l.getD (15 + m) 0) 32768
    rw [highW_succ, dv_append, highW_len, dv_take, hg, Nat.pow_succ, show 15 + (m + 1) = 15 + m + 1 by omega]
    simp only [dv, Nat.mul_zero, Nat.add_zero, nW]
    generalize l.getD (15 + m) 0 = x at *
    generalize l.getD (15 + m + 1) 0 % 32768 = y at *
    generalize x / 32768 = q at *
    generalize x % 32768 = r at *
    generalize 65536 ^ m = Q at *
    generalize dv 65536 (highW l m) = H at *
    generalize dv 65536 ((l.drop 15).take m) = D at *
    generalize l.getD 15 0 % 32768 = z at *
    subst hd
    have e : 32768 * (H + Q * (q + y * 2)) + z = (32768 * H + z) + 32768 * (Q * q) + y * (Q * 65536) := by grind
    rw [e, ih]
    grind
theorem dlt_take {B : Nat} {l : List Nat} (h : dlt B l) (n : Nat) : dlt B (l.take n) := fun i => by
  have hB := h 0
  rw [List.getD_eq_getElem?_getD, List.getElem?_take]
  split
  · rw [← List.getD_eq_getElem?_getD]; exact h i
  · simp; omega
theorem lowW_lt {l : List Nat} (h : dlt 65536 l) : dlt 65536 (lowW l) := dlt_append (dlt_take h 15) (dlt_mk (by omega) (dlt_nil (by decide)))
theorem lowW_len {l : List Nat} (h : 16 ≤ l.length) : (lowW l).length = 16 := by simp [lowW]; omega
theorem lowW_v {l : List Nat} (h : 16 ≤ l.length) : dv 65536 (lowW l) = dv 65536 (l.take 15) + 65536 ^ 15 * (l.getD 15 0 % 32768) := by
  rw [lowW, dv_append, List.length_take, Nat.min_eq_left (by omega)]
  simp [dv]
theorem splitW {l : List Nat} (h : 16 ≤ l.length) : dv 65536 (lowW l) + 57896044618658097711785492504343953926634992332820282019728792003956564819968 * dv 65536 (highW l (l.length - 15)) = dv 65536 l := by
  have ht := highW_tele l (l.length - 15)
  have h0 : l.getD (15 + (l.length - 15)) 0 = 0 := getD_out (by omega)
  rw [h0, List.take_of_length_le (by rw [List.length_drop]; omega)] at ht
  have hs : dv 65536 l = dv 65536 (l.take 15) + 65536 ^ 15 * dv 65536 (l.drop 15) := by
    conv => lhs; rw [← List.take_append_drop 15 l]
    rw [dv_append, List.length_take, Nat.min_eq_left (by omega)]
  rw [lowW_v h, hs]
  simp only [Nat.reducePow] at *
  omega
def trimW (R : List Nat) (lo : Nat) : Nat → Nat
  | 0 => 0
  | k + 1 => if lo ≤ k ∧ R.getD k 0 = 0 then trimW R lo k else k + 1
theorem trimW_le (R : List Nat) (lo : Nat) : ∀ k, trimW R lo k ≤ k
  | 0 => Nat.le_refl _
  | k + 1 => by
    have := trimW_le R lo k
    rw [trimW]; split <;> omega
theorem trimW_ge (R : List Nat) (lo : Nat) : ∀ k, lo ≤ k → lo ≤ trimW R lo k
  | 0, h => h
  | k + 1, h => by
    rw [trimW]; split
    · rename_i hc; exact trimW_ge R lo k hc.1
    · exact h
theorem trimW_v (R : List Nat) (lo : Nat) : ∀ k, dv 65536 (R.take (trimW R lo k)) = dv 65536 (R.take k)
  | 0 => rfl
  | k + 1 => by
    rw [trimW]; split
    · rename_i hc
      rw [trimW_v R lo k, dv_take, hc.2, Nat.zero_mul, Nat.add_zero]
    · rfl
theorem trimW_pos (R : List Nat) : ∀ k, 0 < trimW R 0 k → 0 < dv 65536 (R.take (trimW R 0 k))
  | 0, h => by simp [trimW] at h
  | k + 1, h => by
    rw [trimW] at h ⊢
    split
    · rename_i hc; rw [if_pos hc] at h; exact trimW_pos R k h
    · rename_i hc
      have : R.getD k 0 ≠ 0 := fun e => hc ⟨Nat.zero_le _, e⟩
      rw [dv_take]
      have : 0 < R.getD k 0 * 65536 ^ k := Nat.mul_pos (by omega) (Nat.pow_pos (by decide))
      omega
theorem trimW_stop {R : List Nat} {lo k : Nat} (h : k = 0 ∨ k ≤ lo ∨ R.getD (k - 1) 0 ≠ 0) : trimW R lo k = k := by
  cases k with
  | zero => rfl
  | succ k =>
    rw [trimW, if_neg]
    rintro ⟨h1, h2⟩
    rcases h with h | h | h
    · omega
    · omega
    · exact h h2
theorem trimW_go {R : List Nat} {lo k : Nat} (h1 : lo ≤ k) (h2 : R.getD k 0 = 0) : trimW R lo (k + 1) = trimW R lo k := by rw [trimW, if_pos ⟨h1, h2⟩]
def redGo (s : List Nat × Nat) : Bool := decide (16 < s.2) || decide (32767 < s.1.getD 15 0)
def redHi (s : List Nat × Nat) : List Nat := highW (s.1.take s.2) (s.2 - 15)
def redK (s : List Nat × Nat) : Nat := trimW (redHi s) 0 (s.2 - 15)
def redR (s : List Nat × Nat) : List Nat := if redK s = 0 then lowW (s.1.take s.2) else addL 65536 (lowW (s.1.take s.2)) (timesL 65536 ((redHi s).take (redK s)) [19])
def redNext (s : List Nat × Nat) : List Nat × Nat := (redR s, trimW (redR s) 16 (redR s).length)
def redRun : Nat → List Nat × Nat → List Nat × Nat
  | 0, s => s
  | f + 1, s => if redGo s = true then redRun f (redNext s) else s
def redMeas (s : List Nat × Nat) : Nat := 2 * dv 65536 (s.1.take s.2) + (if 16 < s.2 then 1 else 0)
def redInv (s : List Nat × Nat) : Prop := dlt 65536 s.1 ∧ 16 ≤ s.2 ∧ s.2 ≤ s.1.length ∧ s.1.length ≤ 100
theorem n19_lt : dlt 65536 [19] := dlt_mk (by decide) (dlt_nil (by decide))
theorem redHi_len (s : List Nat × Nat) : (redHi s).length = s.2 - 15 := highW_len _ _
theorem red_facts {s : List Nat × Nat} (h : redInv s) : (s.1.take s.2).length = s.2 ∧ dlt 65536 (s.1.take s.2) ∧ dlt 65536 (lowW (s.1.take s.2)) ∧ (lowW (s.1.take s.2)).length = 16 ∧ dlt 65536 (redHi s) ∧ dv 65536 (lowW (s.1.take s.2)) + 57896044618658097711785492504343953926634992332820282019728792003956564819968 * dv 65536 ((redHi s).take (redK s)) = dv 65536 (s.1.take s.2) ∧ redK s ≤ s.2 - 15 := by
  obtain ⟨h1, h2, h3, h4⟩ := h
  have hl : (s.1.take s.2).length = s.2 := by rw [List.length_take]; omega
  have hd := dlt_take h1 s.2
  have hs := splitW (l := s.1.take s.2) (by omega)
  rw [hl] at hs
  refine ⟨hl, hd, lowW_lt hd, lowW_len (by omega), highW_lt hd _, ?_, trimW_le _ _ _⟩
  rw [redK, trimW_v, List.take_of_length_le (l := redHi s) (by rw [redHi_len]; omega)]
  exact hs
theorem redNext_spec {s : List Nat × Nat} (h : redInv s) (hg : redGo s = true) : redInv (redNext s) ∧ dv 65536 ((redNext s).1.take (redNext s).2) % 57896044618658097711785492504343953926634992332820282019728792003956564819949 = dv 65536 (s.1.take s.2) % 57896044618658097711785492504343953926634992332820282019728792003956564819949 ∧ redMeas (redNext s) < redMeas s := by
  obtain ⟨f1, f2, f3, f4, f5, f6, f7⟩ := red_facts h
  obtain ⟨h1, h2, h3, h4⟩ := h
  have hv : dv 65536 ((redNext s).1.take (redNext s).2) = dv 65536 (redR s) := by
    show dv 65536 ((redR s).take (trimW (redR s) 16 (redR s).length)) = _
    rw [trimW_v, List.take_length]
  have hle := trimW_le (redR s) 16 (redR s).length
  have hge := trimW_ge (redR s) 16 (redR s).length
  unfold redMeas
  rw [hv]
  by_cases hk : redK s = 0
  · have hr : redR s = lowW (s.1.take s.2) := if_pos hk
    rw [hk, List.take_zero] at f6
    have z : dv 65536 [] = 0 := rfl
    rw [z, Nat.mul_zero, Nat.add_zero] at f6
    have n16 : (redNext s).2 = 16 := by
      show trimW (redR s) 16 (redR s).length = 16
      rw [hr, f4]
      exact trimW_stop (.inr (.inl (Nat.le_refl _)))
    have hb : 16 < s.2 := by
      rcases Nat.lt_or_ge 16 s.2 with h5 | h5
      · exact h5
      · have e16 : s.2 = 16 := by omega
        have hh : 32767 < s.1.getD 15 0 := by
          unfold redGo at hg
          rw [decide_eq_false (by omega : ¬ 16 < s.2), Bool.false_or] at hg
          exact of_decide_eq_true hg
        have hd15 : s.1.getD 15 0 = (s.1.take s.2).getD 15 0 := take_getD _ _ _ (by omega)
        have hH : (redHi s).getD 0 0 = nW (s.1.take s.2) 0 := by
          unfold redHi
          rw [show s.2 - 15 = 1 by omega]
          rfl
        have hn : nW (s.1.take s.2) 0 ≠ 0 := by
          unfold nW
          rw [hd15] at hh
          simp only [Nat.add_zero]
          omega
        have : redK s = 1 := by
          unfold redK
          rw [show s.2 - 15 = 1 by omega]
          exact trimW_stop (.inr (.inr (by rw [hH]; exact hn)))
        omega
    rw [n16, if_neg (by omega), if_pos hb, hr]
    refine ⟨⟨?_, ?_, ?_, ?_⟩, by rw [f6], by omega⟩
    · show dlt 65536 (redR s); rw [hr]; exact f3
    · omega
    · show trimW (redR s) 16 (redR s).length ≤ (redR s).length; exact hle
    · show (redR s).length ≤ 100; rw [hr, f4]; omega
  · have hr : redR s = addL 65536 (lowW (s.1.take s.2)) (timesL 65536 ((redHi s).take (redK s)) [19]) := if_neg hk
    have hp : 0 < dv 65536 ((redHi s).take (redK s)) := trimW_pos _ _ (by unfold redK at hk; omega)
    have ht := dlt_take f5 (redK s)
    have hT := timesL_lt (by decide : 1 < 65536) ht n19_lt
    have hV := addL_v (by decide : 1 < 65536) f3 hT
    rw [timesL_v, ← hr] at hV
    have e19 : dv 65536 [19] = 19 := rfl
    rw [e19] at hV
    have hlen := addLen_bd 65536 (lowW (s.1.take s.2)) (timesL 65536 ((redHi s).take (redK s)) [19])
    rw [← addL_len, ← hr, timesL_len, List.length_take, redHi_len, f4, show [19].length = 1 from rfl] at hlen
    refine ⟨⟨?_, ?_, ?_, ?_⟩, ?_, ?_⟩
    · show dlt 65536 (redR s); rw [hr]; exact addL_lt (by decide) _ _
    · show 16 ≤ trimW (redR s) 16 (redR s).length; exact hge (by omega)
    · show trimW (redR s) 16 (redR s).length ≤ (redR s).length; exact hle
    · show (redR s).length ≤ 100; omega
    · rw [hV, ← f6]
      have e : dv 65536 (lowW (s.1.take s.2)) + 57896044618658097711785492504343953926634992332820282019728792003956564819968 * dv 65536 ((redHi s).take (redK s)) = dv 65536 (lowW (s.1.take s.2)) + dv 65536 ((redHi s).take (redK s)) * 19 + 57896044618658097711785492504343953926634992332820282019728792003956564819949 * dv 65536 ((redHi s).take (redK s)) := by omega
      rw [e, Nat.add_mul_mod_self_left]
    · rw [hV, ← f6]
      split <;> split <;> omega
theorem redRun_spec : ∀ (f : Nat) (s : List Nat × Nat), redMeas s < f → redInv s → redInv (redRun f s) ∧ redGo (redRun f s) = false ∧ dv 65536 ((redRun f s).1.take (redRun f s).2) % 57896044618658097711785492504343953926634992332820282019728792003956564819949 = dv 65536 (s.1.take s.2) % 57896044618658097711785492504343953926634992332820282019728792003956564819949
  | 0, s, h, _ => by omega
  | f + 1, s, h, hi => by
    rw [redRun]
    cases hg : redGo s with
    | true =>
      obtain ⟨n1, n2, n3⟩ := redNext_spec hi hg
      obtain ⟨r1, r2, r3⟩ := redRun_spec f (redNext s) (by omega) n1
      rw [if_pos rfl]
      exact ⟨r1, r2, r3.trans n2⟩
    | false =>
      rw [if_neg (by decide)]
      exact ⟨hi, hg, rfl⟩
def redF (a : List Nat) : Nat := redMeas (a, a.length) + 1
def redEnd (a : List Nat) : List Nat × Nat := redRun (redF a) (a, a.length)
def redFin (s : List Nat × Nat) : List Nat := if decide (dv 65536 (s.1.take 16) < dv 65536 primeL) = true then s.1 else minL 65536 s.1 primeL
def redRow (a : List Nat) : List Nat := redFin (redEnd a)
def redStop (a : List Nat) : Bool := !redGo (a, a.length) && decide (dv 65536 (a.take 16) < dv 65536 primeL)
structure goodW (a : List Nat) : Prop where
  lt : dlt 65536 a
  lo : 16 ≤ a.length
  hi : a.length ≤ 100
theorem goodW.inv {a : List Nat} (h : goodW a) : redInv (a, a.length) := ⟨h.lt, h.lo, Nat.le_refl _, h.hi⟩
theorem redEnd_no {a : List Nat} (h : redGo (a, a.length) = false) : redEnd a = (a, a.length) := by
  unfold redEnd redF
  rw [redRun, h]; rfl
theorem redRow_stop {a : List Nat} (h : redStop a = true) : redRow a = a := by
  simp only [redStop, Bool.and_eq_true, Bool.not_eq_true'] at h
  unfold redRow
  rw [redEnd_no h.1]
  exact if_pos h.2
theorem minG_take (B : Nat) (a b : List Nat) : ∀ i, i ≤ 16 → minG B (a.take 16) b i = minG B a b i
  | 0, _ => rfl
  | i + 1, h => by
    rw [minG, minG, minG_take B a b i (by omega)]
    have : (a.take 16).getD i 0 = a.getD i 0 := by
      rw [List.getD_eq_getElem?_getD, List.getD_eq_getElem?_getD, List.getElem?_take_of_lt (by omega)]
    unfold minT
    rw [this]
theorem prime_lt : dlt 65536 primeL := by
  intro i
  have : ∀ j : Fin 16, primeL.getD j.val 0 < 65536 := by decide
  rcases Nat.lt_or_ge i 16 with h | h
  · exact this ⟨i, h⟩
  · rw [getD_out (by exact h)]; decide
theorem redRow_spec {a : List Nat} (h : goodW a) : goodW (redRow a) ∧ dv 65536 ((redRow a).take 16) = dv 65536 a % 57896044618658097711785492504343953926634992332820282019728792003956564819949 := by
  obtain ⟨⟨i1, i2, i3, i4⟩, g, v⟩ := redRun_spec (redF a) (a, a.length) (Nat.lt_succ_self _) h.inv
  rw [List.take_length] at v
  show goodW (redFin (redRun (redF a) (a, a.length))) ∧ dv 65536 ((redFin (redRun (redF a) (a, a.length))).take 16) = _
  generalize redRun (redF a) (a, a.length) = s at *
  obtain ⟨R, n⟩ := s
  simp only at i1 i2 i3 i4 v
  simp only [redGo, Bool.or_eq_false_iff] at g
  have g1 := of_decide_eq_false g.1
  have g2 := of_decide_eq_false g.2
  obtain rfl : n = 16 := by omega
  have hl : (R.take 16).length = 16 := by rw [List.length_take]; omega
  have hd := dlt_take i1 16
  have hlt : dv 65536 (R.take 16) < 57896044618658097711785492504343953926634992332820282019728792003956564819968 := by
    have h15 := dv_take 65536 R 15
    have hlt := dv_lt (by decide : 0 < 65536) (dlt_take i1 15)
    rw [List.length_take, Nat.min_eq_left (by omega)] at hlt
    rw [h15]
    have hm : R.getD 15 0 * 65536 ^ 15 ≤ 32767 * 65536 ^ 15 := Nat.mul_le_mul_right _ (by omega)
    simp only [Nat.reducePow, Nat.reduceMul] at *
    omega
  unfold redFin
  by_cases hb : dv 65536 (R.take 16) < dv 65536 primeL
  · rw [if_pos (decide_eq_true hb)]
    refine ⟨⟨i1, i3, i4⟩, ?_⟩
    rw [← v]
    rw [primeL_v] at hb
    exact (Nat.mod_eq_of_lt hb).symm
  · rw [if_neg (by rw [decide_eq_false hb]; decide)]
    have hm : minL 65536 R primeL = minL 65536 (R.take 16) primeL := by
      unfold minL; rw [minG_take _ _ _ _ (Nat.le_refl _)]
    obtain ⟨m1, m2, m3⟩ := minL_v (by decide : 1 < 65536) hd prime_lt hl rfl (by omega)
    rw [hm]
    refine ⟨⟨m2, by omega, by omega⟩, ?_⟩
    rw [List.take_of_length_le (by omega), m1, ← v]
    rw [primeL_v] at hb ⊢
    rw [Nat.mod_eq_sub_mod (by omega), Nat.mod_eq_of_lt (by omega)]
theorem lowI_0 (l : List Nat) : lowI l 0 = [0, 0, 0, 0, 0, 0, 0, 0, 0, 0, 0, 0, 0, 0, 0, 0] := rfl
theorem lowI_set (l : List Nat) (i : Nat) (hi : i < 16) (hl : 16 ≤ l.length) (v : Nat) : (lowI l i).set i v = l.take i ++ v :: List.replicate (15 - i) 0 := by
  unfold lowI
  rw [List.set_append_right _ _ (by rw [List.length_take]; omega), List.length_take, Nat.min_eq_left (by omega), Nat.sub_self, show 16 - i = (15 - i) + 1 by omega, List.replicate_succ, List.set_cons_zero]
theorem lowI_step (l : List Nat) (i : Nat) (hi : i < 15) (hl : 16 ≤ l.length) : (lowI l i).set i (l.getD i 0) = lowI l (i + 1) := by
  rw [lowI_set l i (by omega) hl]
  unfold lowI
  rw [List.take_add_one, List.getD_eq_getElem?_getD, List.getElem?_eq_getElem (by omega : i < l.length), show 16 - (i + 1) = 15 - i by omega]
  simp only [Option.toList_some, List.append_assoc, List.cons_append, List.nil_append, Option.getD_some]
theorem lowI_end (l : List Nat) (hl : 16 ≤ l.length) : (lowI l 15).set 15 (l.getD 15 0 % 32768) = lowW l := by
  rw [lowI_set l 15 (by omega) hl]
  rfl
theorem lowI_len (l : List Nat) (i : Nat) (hi : i ≤ 16) (hl : 16 ≤ l.length) : (lowI l i).length = 16 := by
  unfold lowI
  rw [List.length_append, List.length_take, List.length_replicate]; omega
end Go.Proofs.Ytdkmkifebhggeaa
