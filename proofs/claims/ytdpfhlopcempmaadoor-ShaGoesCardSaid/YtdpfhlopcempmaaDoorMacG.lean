/-
  Layer 2: MacRounds.
-/
import Derived.Test.YtdpfhlopcempmaaDoorMacF
namespace Go.Proofs.YtdpfhlopcempmaaDoor
open Go Go.RowKit

theorem xorTo_at (a b : List UInt8) (k : Nat) (i : Nat) (hi : i < a.length) : (xorTo a b k)[i]?.getD 0 = if i < k then (a[i]?.getD 0) ^^^ (b.getD i 0) else a[i]?.getD 0 := by
  induction k with
  | zero => simp [xorTo]
  | succ k ih =>
    rw [xorTo, List.getElem?_set]
    by_cases h : k = i
    · subst h
      rw [if_pos rfl, if_pos (by rw [xorTo_length]; exact hi), if_pos (by omega), Option.getD_some, ih, if_neg (by omega)]
    · rw [if_neg h, ih]
      by_cases h2 : i < k
      · rw [if_pos h2, if_pos (by omega)]
      · rw [if_neg h2, if_neg (by omega)]
theorem xor_get (x y z : ByteArray) (hx : x.data.toList = xorTo y.data.toList z.data.toList 32) (_hy : y.size = 32) (i : Nat) (hi : i < 32) (h1 : i < x.size) (h2 : i < y.size) (h3 : i < z.size) :
    x[i] = y[i] ^^^ z[i] := by
  rw [byte_at x i h1, byte_at y i h2, byte_at z i h3, hx]
  simp only [List.getD_eq_getElem?_getD]
  rw [xorTo_at _ _ _ _ (by rw [list_length]; omega), if_pos hi, List.getD_eq_getElem?_getD]
theorem passB_list (p s : ByteArray) (n : Nat) : (passB p s n).data.toList = keyTo p s (n - 1) := by unfold passB; rfl
/-- A key of one round more is the one before, turned by the next digest. -/
theorem passB_next (p s : ByteArray) (n m : Nat) (hn : n = m + 1) : (passB p s (n + 1)).data.toList = xorTo (passB p s n).data.toList (uB p s n).data.toList 32 := by
  subst hn
  rw [passB_list, passB_list, show m + 1 + 1 - 1 = m + 1 from rfl, show m + 1 - 1 = m from rfl, keyTo]
set_option maxRecDepth 100000 in
theorem macrounds_law (a : ByteArray) (_ha : a.size ≤ maxLen) (b : ByteArray) (_hb : b.size ≤ maxLen) (w : World) (hL : Laid w) :
    Calls Tryd.prog 15 #[.string a, .string b] w fun en w' => en = .returned (.bool true) ∧ Below w.heap.size w w' := by
  by_cases ha : a.size ≤ 128
  · by_cases hb : b.size ≤ 128
    · have ia : ¬ (128 : Int) < (a.size : Int) := by omega
      have ib : ¬ (128 : Int) < (b.size : Int) := by omega
      have s1 := Lib.hid (fun w hL => pass_b a b 1 1 rfl (by omega) (by omega) (by omega) (by omega) w hL)
      have s2 := Lib.hid (fun w hL => pass_b a b 2 2 rfl (by omega) (by omega) (by omega) (by omega) w hL)
      have s3 := Lib.hid (fun w hL => pass_b a b 3 3 rfl (by omega) (by omega) (by omega) (by omega) w hL)
      have s4 := Lib.hid (fun w hL => mac_any a (passB a b 1) (by omega) (by rw [passB_size]; omega) w hL)
      have e1 : macB a (passB a b 1) = uB a b 1 := by rw [passB_one]; rfl
      rw [e1] at s4
      have s5 := Lib.hid (fun w hL => mac_any a (uB a b 1) (by omega) (by rw [uB_size]; omega) w hL)
      rw [show macB a (uB a b 1) = uB a b 2 from rfl] at s5
      have z1 := passB_size a b 1
      have z2 := passB_size a b 2
      have z3 := passB_size a b 3
      have z4 := uB_size a b 1
      have z5 := uB_size a b 2
      have n2 : (passB a b 2).data.toList = xorTo (passB a b 1).data.toList (uB a b 1).data.toList 32 := passB_next a b 1 0 rfl
      have n3 : (passB a b 3).data.toList = xorTo (passB a b 2).data.toList (uB a b 2).data.toList 32 := passB_next a b 2 1 rfl
      generalize passB a b 1 = k1 at *
      generalize passB a b 2 = k2 at *
      generalize passB a b 3 = k3 at *
      generalize uB a b 1 = u1 at *
      generalize uB a b 2 = u2 at *
      have q1 : ((k1.size : Int) != 32) = false := by rw [bne_eq_false_iff_eq]; omega
      have q2 : ((k2.size : Int) != 32) = false := by rw [bne_eq_false_iff_eq]; omega
      have q3 : ((k3.size : Int) != 32) = false := by rw [bne_eq_false_iff_eq]; omega
      have q4 : ((u1.size : Int) != 32) = false := by rw [bne_eq_false_iff_eq]; omega
      have q5 : ((u2.size : Int) != 32) = false := by rw [bne_eq_false_iff_eq]; omega
      have Z1 := Lib.hid z1
      have Z2 := Lib.hid z2
      have Z3 := Lib.hid z3
      have Z4 := Lib.hid z4
      have Z5 := Lib.hid z5
      have N2 := Lib.hid (fun i hi h1 h2 h3 => xor_get k2 k1 u1 n2 z1 i hi h1 h2 h3)
      have N3 := Lib.hid (fun i hi h1 h2 h3 => xor_get k3 k2 u2 n3 z2 i hi h1 h2 h3)
      clear z1 z2 z3 z4 z5 e1 n2 n3
      go_enter Tryd.func15, Tryd.ntmps15
      go_wp2_with (first
        | (go_at_call 28; ((with_reducible refine (s1.out _ hL).mono ?_); rintro en w1 ⟨rfl, L1, b1⟩))
        | (go_at_call 28; ((with_reducible refine (s2.out _ L1).mono ?_); rintro en w2 ⟨rfl, L2, b2⟩))
        | (go_at_call 28; ((with_reducible refine (s3.out _ L2).mono ?_); rintro en w3 ⟨rfl, L3, b3⟩))
        | (go_at_call 26; ((with_reducible refine (s4.out _ L3).mono ?_); rintro en w4 ⟨rfl, L4, b4⟩))
        | (go_at_call 26; ((with_reducible refine (s5.out _ L4).mono ?_); rintro en w5 ⟨rfl, L5, b5⟩)))
      go_loopw [82] (fun c wr => ∃ i : Nat, i ≤ 32 ∧ c = .int .i64 i ∧ Below w.heap.size w wr) (fun c _ => 32 - (intOf c).toNat)
      case atStart =>
        have c1 := b1.size
        have c2 := b2.size
        have c3 := b3.size
        have c4 := b4.size
        exact ⟨0, by omega, rfl, b1.trans ((b2.mono (by omega)).trans ((b3.mono (by omega)).trans ((b4.mono (by omega)).trans (b5.mono (by omega)))))⟩
      case round =>
        obtain ⟨i, hi, rfl, GB⟩ := hrel
        by_cases hlt : i < 32
        · have j1 : i < k1.size := by have := Z1.out; omega
          have j2 : i < k2.size := by have := Z2.out; omega
          have j3 : i < k3.size := by have := Z3.out; omega
          have j4 : i < u1.size := by have := Z4.out; omega
          have j5 : i < u2.size := by have := Z5.out; omega
          have e2 : bits .xor .u8 ((k1[i]).toNat : Int) ((u1[i]).toNat : Int) = ((k2[i]).toNat : Int) := by rw [N2.out i hlt j2 j1 j4]; exact B8_xor _ _
          have e3 : bits .xor .u8 ((k2[i]).toNat : Int) ((u2[i]).toNat : Int) = ((k3[i]).toNat : Int) := by rw [N3.out i hlt j3 j2 j5]; exact B8_xor _ _
          have ii : (i : Int) < 32 := by omega
          go_wp2
          go_quiet (fail)
          go_wp2
          go_roundw
          case rel => exact ⟨i + 1, by omega, by go_num, GB.trans ⟨rfl, rfl, rfl, Nat.le_refl _, fun _ _ => rfl⟩⟩
          case measure => simp [intOf]; omega
        · obtain rfl : i = 32 := by omega
          have GL := hL.below GB hL.pos
          go_wp2_with (first
            | (go_at_call 25; ((with_reducible refine (awake02 _ GL).mono ?_); rintro en w6 ⟨rfl, _, b6⟩)))
          go_ret
          exact ⟨rfl, GB.trans (b6.mono GB.size)⟩
    · have ia : ¬ (128 : Int) < (a.size : Int) := by omega
      have ib : (128 : Int) < (b.size : Int) := by omega
      go_enter Tryd.func15, Tryd.ntmps15
      go_wp2_with (first
        | (go_at_call 25; ((with_reducible refine (awake02 _ hL).mono ?_); rintro en w3 ⟨rfl, _, b3⟩)))
      go_ret
      exact ⟨rfl, b3⟩
  · have ia : (128 : Int) < (a.size : Int) := by omega
    go_enter Tryd.func15, Tryd.ntmps15
    go_wp2_with (first
      | (go_at_call 25; ((with_reducible refine (awake02 _ hL).mono ?_); rintro en w3 ⟨rfl, _, b3⟩)))
    go_ret
    exact ⟨rfl, b3⟩
end Go.Proofs.YtdpfhlopcempmaaDoor
