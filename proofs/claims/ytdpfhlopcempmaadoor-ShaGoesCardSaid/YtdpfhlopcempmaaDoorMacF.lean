/-
  Layer 2: MacFirst, MacRounds.
-/
import Derived.Test.YtdpfhlopcempmaaDoorMacE
namespace Go.Proofs.YtdpfhlopcempmaaDoor
open Go Go.RowKit

def drawB (sec salt info : ByteArray) (n : Nat) : ByteArray := ⟨((drTo (macB salt sec) info 255).take n).toArray⟩
def passB (p s : ByteArray) (n : Nat) : ByteArray := ⟨(keyTo p s (n - 1)).toArray⟩
theorem drawB_size (sec salt info : ByteArray) (n : Nat) (h : n ≤ 8160) : (drawB sec salt info n).size = n := by
  show ((drTo (macB salt sec) info 255).take n).toArray.size = n
  rw [List.size_toArray, List.length_take, drTo_length]; omega
theorem drawB_first (sec salt info : ByteArray) (n m : Nat) (h : n ≤ m) : ((drawB sec salt info m).extract 0 n).data.toList = (drawB sec salt info n).data.toList := by
  rw [extract_list, List.drop_zero]
  show ((drTo (macB salt sec) info 255).take m).take n = (drTo (macB salt sec) info 255).take n
  rw [List.take_take, Nat.min_eq_left h]
theorem draw_b (sec salt info : ByteArray) (n : Nat) (c : Int) (hc : c = (n : Int)) (hse : sec.size ≤ 4096) (hsa : salt.size ≤ 4096) (hin : info.size ≤ 4096) (hn : n ≤ 8160) (w : World) (hL : Laid w) :
    Calls Tryd.prog 30 #[.string sec, .string salt, .string info, .int .i64 c] w fun en w' => en = .returned (.tuple #[.string (drawB sec salt info n), .int .i64 0]) ∧ Laid w' ∧ Below w.heap.size w w' := by
  refine (draw_any sec salt info n c hc hse hsa hin hn w hL).mono ?_
  rintro _ _ ⟨d, rfl, h1, h2, h3⟩
  exact ⟨by rw [mk_list h1.out]; rfl, h2, h3⟩
theorem pass_b (p s : ByteArray) (n : Nat) (c : Int) (hc : c = (n : Int)) (hp : p.size ≤ 4096) (hs : s.size ≤ 4096) (h1 : 1 ≤ n) (h64 : n ≤ 64) (w : World) (hL : Laid w) :
    Calls Tryd.prog 28 #[.string p, .string s, .int .i64 c] w fun en w' => en = .returned (.tuple #[.string (passB p s n), .int .i64 0]) ∧ Laid w' ∧ Below w.heap.size w w' := by
  refine (password_any p s n c hc hp hs h1 h64 w hL).mono ?_
  rintro _ _ ⟨d, rfl, h1, h2, h3⟩
  exact ⟨by rw [mk_list h1.out]; rfl, h2, h3⟩
theorem passB_one (p s : ByteArray) : passB p s 1 = macB p (s ++ one4) := by
  apply ByteArray.ext
  show (keyTo p s 0).toArray = _
  rw [keyTo]; rfl
theorem passB_size (p s : ByteArray) (n : Nat) : (passB p s n).size = 32 := by
  show (keyTo p s (n - 1)).toArray.size = 32
  rw [List.size_toArray, keyTo_length]
/-- What a law asks: that it returns true, and leaves what was there. -/
def LawOk (f : FuncId) (args : Array Value) (w : World) : Prop := Calls Tryd.prog f args w fun en w' => en = .returned (.bool true) ∧ Below w.heap.size w w'
set_option maxRecDepth 100000 in
theorem first_in (a b c : ByteArray) (ha : a.size ≤ 128) (hb : b.size ≤ 128) (hc : c.size ≤ 128) (x y n m : Nat) (hx : x ≤ 255) (hy : y ≤ 255) (hn : min x y = n) (hm : max x y = m) (w : World) (hL : Laid w) :
    LawOk 12 #[.string a, .string b, .string c, .int .u8 (x : Int), .int .u8 (y : Int)] w := by
  have ia : ¬ (128 : Int) < (a.size : Int) := by omega
  have ib : ¬ (128 : Int) < (b.size : Int) := by omega
  have ic : ¬ (128 : Int) < (c.size : Int) := by omega
  have hnm : n ≤ m := by omega
  have s1 := Lib.hid (fun w hL => draw_b a b c n (n : Int) rfl (by omega) (by omega) (by omega) (by omega) w hL)
  have s2 := Lib.hid (fun w hL => draw_b a b c m (m : Int) rfl (by omega) (by omega) (by omega) (by omega) w hL)
  have s3 := Lib.hid (fun w hL => pass_b a b 1 1 rfl (by omega) (by omega) (by omega) (by omega) w hL)
  have z1 := drawB_size a b c n (by omega)
  have z2 := drawB_size a b c m (by omega)
  have hf := beq_lists (drawB_first a b c n m hnm)
  rw [passB_one] at s3
  have hz : (b ++ one4).size ≤ 549755813888 := by rw [ByteArray.size_append, show one4.size = 4 from rfl]; omega
  have hq : b.size + one4.size ≤ 9223372036854775807 := by rw [show one4.size = 4 from rfl]; omega
  have s4 := Lib.hid (fun w hL => mac_any a (b ++ one4) (by omega) hz w hL)
  have hk := beq_lists (rfl : (macB a (b ++ one4)).data.toList = (macB a (b ++ one4)).data.toList)
  generalize drawB a b c n = d1 at *
  generalize drawB a b c m = d2 at *
  generalize macB a (b ++ one4) = d3 at *
  have hz1 : ((d1.size : Int) == (n : Int)) = true := by rw [beq_iff_eq]; omega
  have hz2 : ((d2.size : Int) == (m : Int)) = true := by rw [beq_iff_eq]; omega
  have hlen : n ≤ d2.size := by omega
  have Z1 := Lib.hid z1
  have Z2 := Lib.hid z2
  clear z1 z2
  unfold LawOk
  have hd : (x < y ∧ ¬ y < x ∧ x = n ∧ y = m) ∨ (¬ x < y ∧ ¬ y < x ∧ x = n ∧ y = n ∧ n = m) ∨ (¬ x < y ∧ y < x ∧ y = n ∧ x = m) := by omega
  clear hn hm
  rcases hd with ⟨h1, h2, h3, h4⟩ | ⟨h1, h2, h3, h4, h5⟩ | ⟨h1, h2, h3, h4⟩
  case' inl => subst h3; subst h4
  case' inr.inl => subst h5; subst h3; obtain rfl := h4; clear h1 h2; have h1 : ¬ y < y := by omega
  case' inr.inr => subst h3; subst h4
  all_goals
    go_enter Tryd.func12, Tryd.ntmps12
    go_wp2_with (first
      | (go_at_call 30; ((with_reducible refine (s1.out _ hL).mono ?_); rintro en w1 ⟨rfl, L1, b1⟩))
      | (go_at_call 30; ((with_reducible refine (s2.out _ L1).mono ?_); rintro en w2 ⟨rfl, L2, b2⟩))
      | (go_at_call 28; ((with_reducible refine (s3.out _ L2).mono ?_); rintro en w3 ⟨rfl, L3, b3⟩))
      | (go_at_call 26; ((refine (s4.out _ L3).mono ?_); rintro en w4 ⟨rfl, L4, b4⟩))
      | (go_at_call 25; ((with_reducible refine (awake02 _ L4).mono ?_); rintro en w5 ⟨rfl, _, b5⟩)))
    go_ret
    have c1 := b1.size
    have c2 := b2.size
    have c3 := b3.size
    have c4 := b4.size
    exact ⟨rfl, b1.trans ((b2.mono (by omega)).trans ((b3.mono (by omega)).trans ((b4.mono (by omega)).trans (b5.mono (by omega)))))⟩
theorem u8_range {x : Int} (h : (Lit.int .u8 x).wf = true) : 0 ≤ x ∧ x ≤ 255 := by
  simpa [Lit.wf, IntKind.min, IntKind.max, IntKind.signed, IntKind.bits] using h
set_option maxRecDepth 100000 in
theorem macfirst_law (a : ByteArray) (_ha : a.size ≤ maxLen) (b : ByteArray) (_hb : b.size ≤ maxLen) (c : ByteArray) (_hc : c.size ≤ maxLen) (x : Int) (hx : (Lit.int .u8 x).wf = true) (y : Int) (hy : (Lit.int .u8 y).wf = true) (w : World) (hL : Laid w) :
    Calls Tryd.prog 12 #[.string a, .string b, .string c, .int .u8 x, .int .u8 y] w fun en w' => en = .returned (.bool true) ∧ Below w.heap.size w w' := by
  by_cases ha : a.size ≤ 128
  · by_cases hb : b.size ≤ 128
    · by_cases hc : c.size ≤ 128
      · obtain ⟨x0, x1⟩ := u8_range hx
        obtain ⟨y0, y1⟩ := u8_range hy
        obtain ⟨x, rfl⟩ := Int.eq_ofNat_of_zero_le x0
        obtain ⟨y, rfl⟩ := Int.eq_ofNat_of_zero_le y0
        exact first_in a b c ha hb hc x y _ _ (by omega) (by omega) rfl rfl w hL
      · have ia : ¬ (128 : Int) < (a.size : Int) := by omega
        have ib : ¬ (128 : Int) < (b.size : Int) := by omega
        have ic : (128 : Int) < (c.size : Int) := by omega
        go_enter Tryd.func12, Tryd.ntmps12
        go_wp2_with (first
          | (go_at_call 25; ((with_reducible refine (awake02 _ hL).mono ?_); rintro en w3 ⟨rfl, _, b3⟩)))
        go_ret
        exact ⟨rfl, b3⟩
    · have ia : ¬ (128 : Int) < (a.size : Int) := by omega
      have ib : (128 : Int) < (b.size : Int) := by omega
      go_enter Tryd.func12, Tryd.ntmps12
      go_wp2_with (first
        | (go_at_call 25; ((with_reducible refine (awake02 _ hL).mono ?_); rintro en w3 ⟨rfl, _, b3⟩)))
      go_ret
      exact ⟨rfl, b3⟩
  · have ia : (128 : Int) < (a.size : Int) := by omega
    go_enter Tryd.func12, Tryd.ntmps12
    go_wp2_with (first
      | (go_at_call 25; ((with_reducible refine (awake02 _ hL).mono ?_); rintro en w3 ⟨rfl, _, b3⟩)))
    go_ret
    exact ⟨rfl, b3⟩
end Go.Proofs.YtdpfhlopcempmaaDoor
