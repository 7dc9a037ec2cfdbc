/-
  Layer 3: the bytes of a number, their value.
-/
import Derived.Test.YtdkmkifebhggeaaKv
namespace Go.Proofs.Ytdkmkifebhggeaa
open Go Go.RowKit
set_option maxHeartbeats 4000000
set_option linter.unusedSimpArgs false
set_option linter.unusedVariables false
def leN : List UInt8 → Nat
  | [] => 0
  | b :: l => b.toNat + 256 * leN l
theorem leN_append : ∀ (a b : List UInt8), leN (a ++ b) = leN a + 2 ^ (8 * a.length) * leN b
  | [], b => by simp [leN]
  | x :: a, b => by
    rw [List.cons_append, leN, leN, leN_append a b, List.length_cons, show 8 * (a.length + 1) = 8 * a.length + 8 by omega, Nat.pow_add]
    have : (2 : Nat) ^ 8 = 256 := rfl
    rw [this]
    grind
theorem leN_lt : ∀ (a : List UInt8), leN a < 2 ^ (8 * a.length)
  | [] => by simp [leN]
  | x :: a => by
    have h := leN_lt a
    have hx := x.toNat_lt
    rw [leN, List.length_cons, show 8 * (a.length + 1) = 8 * a.length + 8 by omega, Nat.pow_add]
    have : (2 : Nat) ^ 8 = 256 := rfl
    rw [this]
    omega
theorem leN_take (s : List UInt8) (i : Nat) (h : i < s.length) : leN (s.take (i + 1)) = leN (s.take i) + (s.getD i 0).toNat * 2 ^ (8 * i) := by
  rw [List.take_add_one, leN_append, List.length_take, Nat.min_eq_left (by omega), List.getD_eq_getElem?_getD, List.getElem?_eq_getElem h]
  simp [leN, Nat.mul_comm]
theorem shl64n {b : UInt64} {k : Nat} (hk : k < 64) (h : b.toNat * 2 ^ k < 18446744073709551616) : (shl64 b k).toNat = b.toNat * 2 ^ k := by
  unfold shl64
  rw [if_pos hk, UInt64.toNat_shiftLeft, UInt64.toNat_ofNat_of_lt' (by show k < 18446744073709551616; omega), Nat.mod_eq_of_lt hk, Nat.shiftLeft_eq]
  exact Nat.mod_eq_of_lt h
theorem shr64n {b : UInt64} {k : Nat} (hk : k < 64) : (shr64 b k).toNat = b.toNat / 2 ^ k := by
  unfold shr64
  rw [if_pos hk, UInt64.toNat_shiftRight, UInt64.toNat_ofNat_of_lt' (by show k < 18446744073709551616; omega), Nat.mod_eq_of_lt hk, Nat.shiftRight_eq_div_pow]
theorem orshl {a b : UInt64} (k : Nat) (hk : k < 64) (ha : a.toNat < 2 ^ k) (hb : b.toNat * 2 ^ k < 18446744073709551616) : (a ||| shl64 b k).toNat = a.toNat + b.toNat * 2 ^ k := by
  rw [UInt64.toNat_or, shl64n hk hb, Nat.or_comm, ← Nat.shiftLeft_eq, ← Nat.shiftLeft_add_eq_or_of_lt ha, Nat.add_comm]
theorem leN_inj : ∀ (a b : List UInt8), a.length = b.length → leN a = leN b → a = b
  | [], [], _, _ => rfl
  | [], _ :: _, h, _ => by simp at h
  | _ :: _, [], h, _ => by simp at h
  | x :: a, y :: b, h, e => by
    have hx := x.toNat_lt
    have hy := y.toNat_lt
    simp only [leN] at e
    have h1 : x = y := UInt8.toNat_inj.1 (by omega)
    have h2 := leN_inj a b (by simpa using h) (by omega)
    rw [h1, h2]
theorem wordB_v (w : UInt64) : leN (wordB w) = w.toNat := by
  have h := w.toNat_lt
  have e : ∀ k, k < 64 → ((shr64 w k).toUInt8).toNat = w.toNat / 2 ^ k % 256 := fun k hk => by
    rw [UInt64.toNat_toUInt8, shr64n hk]
  simp only [wordB, leN, e 0 (by decide), e 8 (by decide), e 16 (by decide), e 24 (by decide), e 32 (by decide), e 40 (by decide), e 48 (by decide), e 56 (by decide), Nat.reducePow]
  omega
theorem or_word (a b : UInt64) (k : Nat) (hk : k < 64) (ha : a.toNat < 2 ^ k) : (a ||| shl64 b k).toNat = a.toNat + b.toNat * 2 ^ k % 18446744073709551616 := by
  have e1 : (shl64 b k).toNat = b.toNat * 2 ^ k % 18446744073709551616 := by
    unfold shl64
    rw [if_pos hk, UInt64.toNat_shiftLeft, UInt64.toNat_ofNat_of_lt' (by show k < 18446744073709551616; omega), Nat.mod_eq_of_lt hk, Nat.shiftLeft_eq]
  have e2 : b.toNat * 2 ^ k % 18446744073709551616 = (b.toNat % 2 ^ (64 - k)) * 2 ^ k := by
    have : (18446744073709551616 : Nat) = 2 ^ (64 - k) * 2 ^ k := by rw [← Nat.pow_add, Nat.sub_add_cancel (by omega)]
    rw [this, Nat.mul_mod_mul_right]
  rw [UInt64.toNat_or, e1, e2, Nat.or_comm, ← Nat.shiftLeft_eq, ← Nat.shiftLeft_add_eq_or_of_lt ha, Nat.add_comm]
theorem feB_v (t : N5) (ht : t.lt 2251799813685248) : leN (feB t) = t.w := by
  obtain ⟨h0, h1, h2, h3, h4⟩ := ht
  have b1 : (shr64 t.b 13).toNat = t.b.toNat / 8192 := shr64n (by decide)
  have b2 : (shr64 t.c 26).toNat = t.c.toNat / 67108864 := shr64n (by decide)
  have b3 : (shr64 t.d 39).toNat = t.d.toNat / 549755813888 := shr64n (by decide)
  have w0 := or_word t.a t.b 51 (by decide) (by simp only [Nat.reducePow]; omega)
  have w1 := or_word (shr64 t.b 13) t.c 38 (by decide) (by rw [b1]; simp only [Nat.reducePow]; omega)
  have w2 := or_word (shr64 t.c 26) t.d 25 (by decide) (by rw [b2]; simp only [Nat.reducePow]; omega)
  have w3 := or_word (shr64 t.d 39) t.e 12 (by decide) (by rw [b3]; simp only [Nat.reducePow]; omega)
  have l8 : ∀ w, (wordB w).length = 8 := fun _ => rfl
  unfold feB
  rw [leN_append, leN_append, leN_append, wordB_v, wordB_v, wordB_v, wordB_v, w0, w1, w2, w3, b1, b2, b3]
  simp only [List.length_append, l8, N5.w, Nat.reduceAdd, Nat.reduceMul, Nat.reducePow]
  generalize t.a.toNat = a at *
  generalize t.b.toNat = b at *
  generalize t.c.toNat = c at *
  generalize t.d.toNat = d at *
  generalize t.e.toNat = e at *
  clear w0 w1 w2 w3 b1 b2 b3
  omega
theorem bytesF_v (x : N5) : leN (bytesF x) = x.w % p25519 := by
  obtain ⟨h1, h2⟩ := fsmall_spec x
  unfold bytesF
  rw [feB_v _ h2, h1]
end Go.Proofs.Ytdkmkifebhggeaa
