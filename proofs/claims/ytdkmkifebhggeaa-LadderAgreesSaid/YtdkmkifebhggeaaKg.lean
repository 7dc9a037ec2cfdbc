/-
  Layer 4: the laws that ask no document's ladder.
-/
import Derived.Test.YtdkmkifebhggeaaKf
import Derived.Test.YtdkmkifebhggeaaKq
namespace Go.Proofs.Ytdkmkifebhggeaa
open Go Go.RowKit
set_option maxHeartbeats 4000000
set_option linter.unusedSimpArgs false
set_option linter.unusedVariables false
theorem take_st (l : List UInt8) (i : Nat) (h : i < l.length) : l.take (i + 1) = l.take i ++ [l.getD i 0] := by
  rw [List.take_add_one, List.getD_eq_getElem?_getD, List.getElem?_eq_getElem h]; rfl
theorem split8b (s : List UInt8) (h : s.length = 8) : s = [s.getD 0 0, s.getD 1 0, s.getD 2 0, s.getD 3 0, s.getD 4 0, s.getD 5 0, s.getD 6 0, s.getD 7 0] := by
  have e : s.take 8 = s := List.take_of_length_le (by omega)
  rw [take_st s 7 (by omega), take_st s 6 (by omega), take_st s 5 (by omega), take_st s 4 (by omega), take_st s 3 (by omega), take_st s 2 (by omega), take_st s 1 (by omega), take_st s 0 (by omega)] at e
  exact e.symm
theorem b64 (x : UInt8) : x.toUInt64.toNat = x.toNat := UInt8.toNat_toUInt64 x
theorem w64_v (s : List UInt8) (h : s.length = 8) : (w64 s).toNat = leN s := by
  have e := split8b s h
  unfold w64
  generalize s.getD 0 0 = a at *
  generalize s.getD 1 0 = b at *
  generalize s.getD 2 0 = c at *
  generalize s.getD 3 0 = d at *
  generalize s.getD 4 0 = f at *
  generalize s.getD 5 0 = g at *
  generalize s.getD 6 0 = i at *
  generalize s.getD 7 0 = j at *
  subst e
  have ha := a.toNat_lt
  have hb := b.toNat_lt
  have hc := c.toNat_lt
  have hd := d.toNat_lt
  have hf := f.toNat_lt
  have hg := g.toNat_lt
  have hi := i.toNat_lt
  have hj := j.toNat_lt
  have z : (0 : UInt64).toNat = 0 := rfl
  have q0 := orshl (a := 0) (b := a.toUInt64) 0 (by decide) (by decide) (by rw [b64]; omega)
  rw [z, b64] at q0
  have q1 := orshl (a := 0 ||| shl64 a.toUInt64 0) (b := b.toUInt64) 8 (by decide) (by rw [q0]; omega) (by rw [b64]; omega)
  rw [q0, b64] at q1
  have q2 := orshl (b := c.toUInt64) 16 (by decide) (by rw [q1]; omega) (by rw [b64]; omega)
  rw [q1, b64] at q2
  have q3 := orshl (b := d.toUInt64) 24 (by decide) (by rw [q2]; omega) (by rw [b64]; omega)
  rw [q2, b64] at q3
  have q4 := orshl (b := f.toUInt64) 32 (by decide) (by rw [q3]; omega) (by rw [b64]; omega)
  rw [q3, b64] at q4
  have q5 := orshl (b := g.toUInt64) 40 (by decide) (by rw [q4]; omega) (by rw [b64]; omega)
  rw [q4, b64] at q5
  have q6 := orshl (b := i.toUInt64) 48 (by decide) (by rw [q5]; omega) (by rw [b64]; omega)
  rw [q5, b64] at q6
  have q7 := orshl (b := j.toUInt64) 56 (by decide) (by rw [q6]; omega) (by rw [b64]; omega)
  rw [q6, b64] at q7
  rw [q7]
  simp only [leN]
  omega
theorem parts_v (W0 W1 W2 W3 : Nat) (h0 : W0 < 18446744073709551616) (h1 : W1 < 18446744073709551616) (h2 : W2 < 18446744073709551616) (h3 : W3 < 18446744073709551616) :
    W0 % 2251799813685248 + (W0 / 2251799813685248 + W1 * 8192 % 18446744073709551616) % 2251799813685248 * 2251799813685248 + (W1 / 274877906944 + W2 * 67108864 % 18446744073709551616) % 2251799813685248 * 5070602400912917605986812821504 + (W2 / 33554432 + W3 * 549755813888 % 18446744073709551616) % 2251799813685248 * 11417981541647679048466287755595961091061972992 + W3 / 4096 % 2251799813685248 * 25711008708143844408671393477458601640355247900524685364822016
    = (W0 + 18446744073709551616 * (W1 + 18446744073709551616 * (W2 + 18446744073709551616 * W3))) % 57896044618658097711785492504343953926634992332820282019728792003956564819968 := by
  omega
theorem ofN_w (s : List UInt8) (h : s.length = 32) : (ofN s).w = leN s % 57896044618658097711785492504343953926634992332820282019728792003956564819968 := by
  have e8 : ∀ k, k ≤ 24 → ((s.drop k).take 8).length = 8 := fun k hk => by rw [List.length_take, List.length_drop]; omega
  have v0 := w64_v _ (e8 0 (by omega))
  have v1 := w64_v _ (e8 8 (by omega))
  have v2 := w64_v _ (e8 16 (by omega))
  have v3 := w64_v _ (e8 24 (by omega))
  have hs : leN s = leN ((s.drop 0).take 8) + 18446744073709551616 * (leN ((s.drop 8).take 8) + 18446744073709551616 * (leN ((s.drop 16).take 8) + 18446744073709551616 * leN ((s.drop 24).take 8))) := by
    have step : ∀ l : List UInt8, 8 ≤ l.length → leN l = leN (l.take 8) + 18446744073709551616 * leN (l.drop 8) := fun l hl => by
      conv => lhs; rw [← List.take_append_drop 8 l]
      rw [leN_append, List.length_take, Nat.min_eq_left hl]
    rw [List.drop_zero, step s (by omega), step (s.drop 8) (by rw [List.length_drop]; omega), List.drop_drop, step (s.drop 16) (by rw [List.length_drop]; omega), List.drop_drop, List.take_of_length_le (i := 8) (l := s.drop 24) (by rw [List.length_drop]; omega)]
  rw [hs, ← v0, ← v1, ← v2, ← v3]
  have l0 := (w64 ((s.drop 0).take 8)).toNat_lt
  have l1 := (w64 ((s.drop 8).take 8)).toNat_lt
  have l2 := (w64 ((s.drop 16).take 8)).toNat_lt
  have l3 := (w64 ((s.drop 24).take 8)).toNat_lt
  unfold ofN
  simp only [N5.w]
  clear v0 v1 v2 v3 hs e8
  generalize w64 ((s.drop 0).take 8) = w0 at *
  generalize w64 ((s.drop 8).take 8) = w1 at *
  generalize w64 ((s.drop 16).take 8) = w2 at *
  generalize w64 ((s.drop 24).take 8) = w3 at *
  have b0 : (shr64 w0 51).toNat = w0.toNat / 2251799813685248 := shr64n (by decide)
  have b1 : (shr64 w1 38).toNat = w1.toNat / 274877906944 := shr64n (by decide)
  have b2 : (shr64 w2 25).toNat = w2.toNat / 33554432 := shr64n (by decide)
  have b3 : (shr64 w3 12).toNat = w3.toNat / 4096 := shr64n (by decide)
  have o0 := or_word (shr64 w0 51) w1 13 (by decide) (by rw [b0]; simp only [Nat.reducePow]; omega)
  have o1 := or_word (shr64 w1 38) w2 26 (by decide) (by rw [b1]; simp only [Nat.reducePow]; omega)
  have o2 := or_word (shr64 w2 25) w3 39 (by decide) (by rw [b2]; simp only [Nat.reducePow]; omega)
  rw [b0] at o0
  rw [b1] at o1
  rw [b2] at o2
  simp only [Nat.reducePow] at o0 o1 o2
  rw [and51, and51, and51, and51, and51, o0, o1, o2, b3]
  exact parts_v _ _ _ _ l0 l1 l2 l3
theorem fv_of (s : List UInt8) (h : s.length = 32) : fv (ofN s) = Fin.ofNat p25519 (leN s % 57896044618658097711785492504343953926634992332820282019728792003956564819968) := by
  unfold fv; rw [ofN_w s h]
theorem and248 (x : UInt8) : x &&& 248 = UInt8.ofNat (x.toNat - x.toNat % 8) := by
  have h : ∀ n : Fin 256, (n.val &&& 248) = (n.val - n.val % 8) % 2 ^ 8 := by decide +kernel
  apply UInt8.toNat_inj.1
  rw [UInt8.toNat_and, UInt8.toNat_ofNat']
  exact h ⟨x.toNat, x.toNat_lt⟩
theorem and127 (x : UInt8) : (x &&& 127) ||| 64 = UInt8.ofNat (x.toNat % 64 + 64) := by
  have h : ∀ n : Fin 256, ((n.val &&& 127) ||| 64) = (n.val % 64 + 64) % 2 ^ 8 := by decide +kernel
  apply UInt8.toNat_inj.1
  rw [UInt8.toNat_or, UInt8.toNat_and, UInt8.toNat_ofNat']
  exact h ⟨x.toNat, x.toNat_lt⟩
def clampR (s : List UInt8) : List UInt8 := UInt8.ofNat ((s.getD 0 0).toNat - (s.getD 0 0).toNat % 8) :: ((s.drop 1).take 30 ++ [UInt8.ofNat ((s.getD 31 0).toNat % 64 + 64)])
theorem split32 (s : List UInt8) (h : s.length = 32) : ∃ x m y, s = x :: (m ++ [y]) ∧ m.length = 30 := by
  match s, h with
  | x :: l, h =>
    have hl : l.length = 31 := by simpa using h
    have e := take_st l 30 (by omega)
    rw [List.take_of_length_le (by omega)] at e
    refine ⟨x, l.take 30, l.getD 30 0, ?_, by rw [List.length_take]; omega⟩
    rw [← e]
theorem getD_mid (x : UInt8) (m : List UInt8) (y : UInt8) (h : m.length = 30) : (x :: (m ++ [y])).getD 31 0 = y := by
  rw [List.getD_cons_succ, List.getD_eq_getElem?_getD, List.getElem?_append_right (by omega), h]; rfl
theorem set_mid (x : UInt8) (m : List UInt8) (y z : UInt8) (h : m.length = 30) : (x :: (m ++ [y])).set 31 z = x :: (m ++ [z]) := by
  rw [List.set_cons_succ, List.set_append_right _ _ (by omega), h]; rfl
theorem clampK_mid (x : UInt8) (m : List UInt8) (y : UInt8) (h : m.length = 30) : clampK (x :: (m ++ [y])) = (x &&& 248) :: (m ++ [(y &&& 127) ||| 64]) := by
  unfold clampK
  rw [List.set_cons_zero, List.getD_cons_zero, getD_mid _ _ _ h, set_mid _ _ _ _ h]
theorem clampR_eq (s : List UInt8) (h : s.length = 32) : clampR s = clampK s := by
  obtain ⟨x, m, y, rfl, hm⟩ := split32 s h
  rw [clampK_mid _ _ _ hm, and248, and127]
  unfold clampR
  rw [getD_mid _ _ _ hm, List.getD_cons_zero, List.drop_succ_cons, List.drop_zero, List.take_left' hm]
theorem kbit0 (s : List UInt8) (h : s.length = 32) : kbit (clampK s) 0 = false ∧ kbit (clampK s) 1 = false := by
  obtain ⟨x, m, y, rfl, hm⟩ := split32 s h
  rw [clampK_mid _ _ _ hm]
  have h0 : ∀ n : Fin 256, (shr8 (UInt8.ofNat n.val &&& 248) 0 &&& 1 == 1) = false ∧ (shr8 (UInt8.ofNat n.val &&& 248) 1 &&& 1 == 1) = false := by decide +kernel
  have := h0 ⟨x.toNat, x.toNat_lt⟩
  simp only [UInt8.ofNat_toNat] at this
  exact this
theorem xor7 (x l : UInt8) : (x ^^^ (l &&& 7)) &&& 248 = x &&& 248 := by
  have h : ∀ n : Fin 256, ∀ m : Fin 8, ((n.val ^^^ m.val) &&& 248) = n.val &&& 248 := by decide +kernel
  apply UInt8.toNat_inj.1
  rw [UInt8.toNat_and, UInt8.toNat_and, UInt8.toNat_xor, UInt8.toNat_and]
  exact h ⟨x.toNat, x.toNat_lt⟩ ⟨l.toNat &&& 7, Nat.lt_succ_of_le Nat.and_le_right⟩
theorem xor192 (x l : UInt8) : ((x ^^^ (l &&& 192)) &&& 127) ||| 64 = (x &&& 127) ||| 64 := by
  have h : ∀ n : Fin 256, ∀ m : Fin 256, (((n.val ^^^ (m.val &&& 192)) &&& 127) ||| 64) = (n.val &&& 127) ||| 64 := by decide +kernel
  apply UInt8.toNat_inj.1
  simp only [UInt8.toNat_and, UInt8.toNat_or, UInt8.toNat_xor]
  exact h ⟨x.toNat, x.toNat_lt⟩ ⟨l.toNat, l.toNat_lt⟩
theorem xor128 (x : UInt8) : (x ^^^ 128).toNat % 128 = x.toNat % 128 := by
  have h : ∀ n : Fin 256, (n.val ^^^ 128) % 128 = n.val % 128 := by decide +kernel
  rw [UInt8.toNat_xor]
  exact h ⟨x.toNat, x.toNat_lt⟩
def sameA (s : List UInt8) (l h : UInt8) : List UInt8 := (s.set 0 (s.getD 0 0 ^^^ (l &&& 7))).set 31 ((s.set 0 (s.getD 0 0 ^^^ (l &&& 7))).getD 31 0 ^^^ (h &&& 192))
def sameU (u : List UInt8) : List UInt8 := u.set 31 (u.getD 31 0 ^^^ 128)
theorem same_clamp (s : List UInt8) (l h : UInt8) (hs : s.length = 32) : clampK (sameA s l h) = clampK s := by
  obtain ⟨x, m, y, rfl, hm⟩ := split32 s hs
  unfold sameA
  rw [List.set_cons_zero, List.getD_cons_zero, getD_mid _ _ _ hm, set_mid _ _ _ _ hm, clampK_mid _ _ _ hm, clampK_mid _ _ _ hm, xor7, xor192]
theorem same_of (u : List UInt8) (hu : u.length = 32) : fv (ofN (sameU u)) = fv (ofN u) := by
  have hl : (sameU u).length = 32 := by unfold sameU; rw [List.length_set]; exact hu
  rw [fv_of _ hl, fv_of _ hu]
  obtain ⟨x, m, y, rfl, hm⟩ := split32 u hu
  unfold sameU
  rw [getD_mid _ _ _ hm, set_mid _ _ _ _ hm]
  congr 1
  have h1 := xor128 y
  have e : ∀ z : UInt8, leN (x :: (m ++ [z])) = leN (x :: m) + 452312848583266388373324160190187140051835877600158453279131187530910662656 * z.toNat := fun z => by
    rw [show x :: (m ++ [z]) = (x :: m) ++ [z] from rfl, leN_append, List.length_cons, hm]
    simp only [leN, Nat.reducePow, Nat.reduceMul, Nat.reduceAdd, Nat.mul_zero, Nat.add_zero]
  rw [e, e]
  omega
theorem same_point (s u : List UInt8) (l h : UInt8) (hs : s.length = 32) (hu : u.length = 32) : pointS (sameA s l h) (sameU u) = pointS s u := by
  unfold pointS
  rw [same_clamp s l h hs]
  exact climb_congr (same_of u hu)
theorem pointS_len (s u : List UInt8) : (pointS s u).length = 32 := rfl
theorem small_0 (s : List UInt8) : pointS s nought32 = nought32 := by
  have h : bytesF zeroF = nought32 := by decide +kernel
  rw [← h]
  exact climb_0 _ _ (by decide +kernel)
theorem small_1 (s : List UInt8) (hs : s.length = 32) : pointS s (1 :: nought32.drop 1) = nought32 := by
  have h : bytesF zeroF = nought32 := by decide +kernel
  rw [← h]
  exact climb_1 _ _ (by decide +kernel) (kbit0 s hs).1 (kbit0 s hs).2
end Go.Proofs.Ytdkmkifebhggeaa
