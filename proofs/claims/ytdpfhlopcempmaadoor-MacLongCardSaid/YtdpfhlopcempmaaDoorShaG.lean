/-
  Layer 1: the law's awake; the walk of ShaDigits.
-/
import Derived.Test.YtdpfhlopcempmaaDoorShaF
import Derived.Test.YtdpfhlopcempmaaDoorCls
namespace Go.Proofs.YtdpfhlopcempmaaDoor
open Go Go.RowKit

def abcHex : ByteArray := ⟨#[98, 97, 55, 56, 49, 54, 98, 102, 56, 102, 48, 49, 99, 102, 101, 97, 52, 49, 52, 49, 52, 48, 100, 101, 53, 100, 97, 101, 50, 50, 50, 51, 98, 48, 48, 51, 54, 49, 97, 51, 57, 54, 49, 55, 55, 97, 57, 99, 98, 52, 49, 48, 102, 102, 54, 49, 102, 50, 48, 48, 49, 53, 97, 100]⟩
theorem abc_sum (w : World) (hL : Laid w) :
    Calls Tryd.prog 17 #[.string ⟨#[97, 98, 99]⟩] w fun en w' => ∃ d : ByteArray, en = .returned (.string d) ∧ Hid (d = ⟨(sumL [97, 98, 99]).toArray⟩) ∧ Below w.heap.size w w' :=
  (sum_any ⟨#[97, 98, 99]⟩ (by decide) w hL).mono fun _ _ ⟨h1, h2⟩ => ⟨_, h1, Lib.hid rfl, h2⟩
theorem abc_hex (d : ByteArray) (hd : Hid (d = ⟨(sumL [97, 98, 99]).toArray⟩)) (w : World) :
    Calls Tryd.prog 22 #[.string d] w fun en w' => en = .returned (.string abcHex) ∧ Below w.heap.size w w' := by
  have hz : (sumL [97, 98, 99]).length = 32 := by unfold sumL; rw [outTo_length]
  have hs : d.size = 32 := by rw [hd.out]; simpa [ByteArray.size] using hz
  refine (hex_ex d (by omega) w).mono fun en w' ⟨h, h1, h2, h3⟩ => ⟨?_, h3⟩
  rw [h1]
  congr 2
  have h4 := h2.out
  rw [hd.out] at h4
  have h5 : h.data.toList = hexL (sumL [97, 98, 99]) := h4
  rw [awake1] at h5
  have h6 : h.data = abcHex.data := Array.toList_inj.1 h5
  exact ByteArray.ext h6
theorem mk_list {h : ByteArray} {l : List UInt8} (e : h.data.toList = l) : h = ⟨l.toArray⟩ := by
  apply ByteArray.ext
  rw [← e]
theorem hex_det (s h : ByteArray) (hh : Hid (h.data.toList = hexL s.data.toList)) (hs : s.size ≤ 1099511627776) (w : World) :
    Calls Tryd.prog 22 #[.string s] w fun en w' => en = .returned (.string h) ∧ Below w.heap.size w w' :=
  (hex_any s hs w).mono fun _ _ ⟨h1, h2⟩ => ⟨by rw [h1, mk_list hh.out, hexL, list_length], h2⟩
theorem awake01 (w : World) (hL : Laid w) :
    Calls Tryd.prog 16 #[] w fun en w' => en = .returned (.bool true) ∧ Below w.heap.size w w' := by
  have habc : (abcHex.toList == [98, 97, 55, 56, 49, 54, 98, 102, 56, 102, 48, 49, 99, 102, 101, 97, 52, 49, 52, 49, 52, 48, 100, 101, 53, 100, 97, 101, 50, 50, 50, 51, 98, 48, 48, 51, 54, 49, 97, 51, 57, 54, 49, 55, 55, 97, 57, 99, 98, 52, 49, 48, 102, 102, 54, 49, 102, 50, 48, 48, 49, 53, 97, 100]) = true := by rw [ByteArray.toList_eq]; rfl
  go_enter Tryd.func16, Tryd.ntmps16
  go_wp2_with (first
    | (go_at_call 17; refine (abc_sum _ hL).mono ?_; rintro en w1 ⟨d, rfl, hd, hb1⟩)
    | (go_at_call 22; refine (abc_hex _ hd _).mono ?_; rintro en w2 ⟨rfl, hb2⟩))
  go_ret
  exact ⟨rfl, hb1.trans (hb2.mono hb1.size)⟩
theorem hexTo_drop (l : List UInt8) (n k : Nat) (h : k < n) : ((hexTo l n).drop (2 * k)).take 2 = hexB (l.getD k 0) := by
  induction n with
  | zero => omega
  | succ n ih =>
    rw [hexTo]
    by_cases hk : k = n
    · subst hk
      rw [List.drop_append_of_le_length (by rw [hexTo_length]; omega), List.drop_of_length_le (by rw [hexTo_length]; omega)]
      simp [hexB]
    · rw [List.drop_append_of_le_length (by rw [hexTo_length]; omega), List.take_append_of_le_length (by rw [List.length_drop, hexTo_length]; omega)]
      exact ih (by omega)
theorem digit_range : ∀ n, n < 16 → 48 ≤ (digit n).toNat ∧ (digit n).toNat ≤ 102 ∧ ((digit n).toNat ≤ 57 ∨ 97 ≤ (digit n).toNat) := by decide +kernel
theorem beq_lists {a b : ByteArray} (h : a.data.toList = b.data.toList) : (a.toList == b.toList) = true := by
  rw [ByteArray.toList_eq, ByteArray.toList_eq, h]; simp
/-- What the law asks of the digits of one byte. -/
theorem digits_at (s h : ByteArray) (hh : h.data.toList = hexL s.data.toList) (k : Nat) (hk : k < s.size) (hz : h.size = 2 * s.size) :
    (h.extract (2 * k) (2 * k + 2)).data.toList = hexL (s.extract k (k + 1)).data.toList ∧ 48 ≤ (h[2 * k]'(by omega)).toNat ∧ (h[2 * k]'(by omega)).toNat ≤ 102 ∧ ((h[2 * k]'(by omega)).toNat ≤ 57 ∨ 97 ≤ (h[2 * k]'(by omega)).toNat) := by
  have hd := hexTo_drop s.data.toList s.data.toList.length k (by rw [list_length]; exact hk)
  have e0 : (h.extract (2 * k) (2 * k + 2)).data.toList = hexB (s.data.toList.getD k 0) := by
    rw [extract_list, hh, hexL, ← hd, List.drop_take, show 2 * k + 2 - 2 * k = 2 by omega]
  have e1 : (s.extract k (k + 1)).data.toList = [s.data.toList.getD k 0] := by
    have hk' : k < s.data.toList.length := by rw [list_length]; exact hk
    rw [extract_list, List.drop_take, show k + 1 - k = 1 by omega, List.drop_eq_getElem_cons hk', List.getD_eq_getElem?_getD, List.getElem?_eq_getElem hk']
    rfl
  have e2 : h[2 * k]'(by omega) = digit ((s.data.toList.getD k 0).toNat / 16) := by
    rw [byte_at, hh, hexL]
    have := congrArg (fun x => x.getD 0 0) hd
    simp only [hexB, List.getD_cons_zero] at this
    rw [← this, List.getD_eq_getElem?_getD, List.getD_eq_getElem?_getD, List.getElem?_take, if_pos (by omega), List.getElem?_drop]
    rfl
  refine ⟨by rw [e0, e1]; rfl, ?_⟩
  rw [e2]
  exact digit_range _ (by have := (s.data.toList.getD k 0).toNat_lt; omega)
/-- Behind a world: it has at most new blocks, and the table. -/
def After (w0 u : World) : Prop := Laid u ∧ Below w0.heap.size w0 u
theorem After.step {w0 u w' : World} (h : After w0 u) (hb : Below u.heap.size u w') : After w0 w' := ⟨h.1.below hb h.1.pos, h.2.trans (hb.mono h.2.size)⟩
set_option maxRecDepth 100000 in
theorem digits_walk (s : ByteArray) (w : World) (hL : Laid w) :
    Calls Tryd.prog 7 #[.string s] w fun en w' => en = .returned (.bool true) ∧ Below w.heap.size w w' := by
  by_cases hs : s.size ≤ 4096
  · have hs' : ¬ (4096 : Int) < (s.size : Int) := by omega
    go_enter Tryd.func7, Tryd.ntmps7
    go_wp2_with fail
    refine (hex_ex s (by omega) _).mono ?_
    rintro en w1 ⟨h, rfl, hh, hb1⟩
    have L1 := hL.below hb1 hL.pos
    have hsz : h.size = 2 * s.size := by rw [← list_length, hh.out, hexL, hexTo_length, list_length]
    have hne : ((h.size : Int) != 2 * (s.size : Int)) = false := by rw [bne_eq_false_iff_eq]; omega
    have HSZ := Lib.hid hsz
    clear hsz
    go_wp2_with fail
    go_loopw [19] (fun c wr => ∃ k : Nat, k ≤ s.size ∧ c = .int .i64 k ∧ Laid wr ∧ Below w.heap.size w wr) (fun c _ => s.size - (intOf c).toNat)
    case atStart => exact ⟨0, by omega, rfl, L1, hb1⟩
    case round =>
      obtain ⟨k, hk, rfl, GL, GB⟩ := hrel
      by_cases hlt : k < s.size
      · obtain ⟨d1, d2, d3, d4⟩ := digits_at s h hh.out k hlt HSZ.out
        have HD1 := Lib.hid d1
        clear d1
        have hz2 : (2 * k) < h.size := by have := HSZ.out; omega
        have hz3 : h.size = 2 * s.size := HSZ.out
        have ik : (k : Int) < (s.size : Int) := by omega
        have nk : 0 ≤ (k : Int) := by omega
        have i1 : (k : Int) + 1 ≤ (s.size : Int) := by omega
        have n1 : 0 ≤ (k : Int) + 1 := by omega
        have e1 : IntKind.i64.wrap ((k : Int) + 1) = (k : Int) + 1 := IntWalk.i64_in _ (by omega)
        have t1 : ((k : Int) + 1).toNat = k + 1 := by omega
        have i2 : 2 * (k : Int) < (h.size : Int) := by omega
        have n2 : 0 ≤ 2 * (k : Int) := by omega
        have e2 : IntKind.i64.wrap (2 * (k : Int)) = 2 * (k : Int) := IntWalk.i64_in _ (by omega)
        have t2 : (2 * (k : Int)).toNat = 2 * k := by omega
        have i3 : 2 * (k : Int) + 2 ≤ (h.size : Int) := by omega
        have n3 : 0 ≤ 2 * (k : Int) + 2 := by omega
        have l3 : 2 * (k : Int) ≤ 2 * (k : Int) + 2 := by omega
        have l1 : (k : Int) ≤ (k : Int) + 1 := by omega
        have e3 : IntKind.i64.wrap (2 * (k : Int) + 2) = 2 * (k : Int) + 2 := IntWalk.i64_in _ (by omega)
        have t3 : (2 * (k : Int) + 2).toNat = 2 * k + 2 := by omega
        have m1 : k + 1 ≤ s.size := by omega
        have m2 : k ≤ k + 1 := by omega
        have m3 : 2 * k + 2 ≤ h.size := by omega
        have m4 : 2 * k ≤ 2 * k + 2 := by omega
        have hes : (s.extract k (k + 1)).size ≤ 1099511627776 := by rw [← list_length, extract_list, List.length_drop, List.length_take, list_length]; omega
        clear hz3
        have f1 : decide ((102 : Int) < ((h[2 * k]'hz2).toNat : Int)) = false := by simp; omega
        have f2 : decide (((h[2 * k]'hz2).toNat : Int) < 48) = false := by simp; omega
        obtain ⟨h2, hh2⟩ : ∃ h2 : ByteArray, Hid (h2.data.toList = hexL (s.extract k (k + 1)).data.toList) := ⟨⟨(hexL (s.extract k (k + 1)).data.toList).toArray⟩, Lib.hid rfl⟩
        have q1 := beq_lists (hh2.out.trans HD1.out.symm)
        rcases d4 with d4 | d4
        · have f3 : decide ((57 : Int) < ((h[2 * k]'hz2).toNat : Int)) = false := by simp; omega
          have f4 : decide (((h[2 * k]'hz2).toNat : Int) < 97) = true := by simp; omega
          clear d2 d3 d4
          go_wp2
          refine region_class (R := After w) ⟨GL.drew, GB.drew⟩ (by kernel_rfl) (by kernel_rfl) (fun hne => ?_)
          repeat (go_big_quiet_step ((rename_i x; go_at_call 22; exact class_of (fun _ h hb => h.step hb) (hex_det _ h2 hh2 hes _))))
          refine wpQuiet_nil ?_
          intro x
          go_wp2
          go_roundw
          case rel => exact ⟨k + 1, by omega, by go_num, x.h.1, x.h.2⟩
          case measure => simp [intOf]; omega
        · have f3 : decide ((57 : Int) < ((h[2 * k]'hz2).toNat : Int)) = true := by simp; omega
          have f4 : decide (((h[2 * k]'hz2).toNat : Int) < 97) = false := by simp; omega
          clear d2 d3 d4
          go_wp2
          refine region_class (R := After w) ⟨GL.drew, GB.drew⟩ (by kernel_rfl) (by kernel_rfl) (fun hne => ?_)
          repeat (go_big_quiet_step ((rename_i x; go_at_call 22; exact class_of (fun _ h hb => h.step hb) (hex_det _ h2 hh2 hes _))))
          refine wpQuiet_nil ?_
          intro x
          go_wp2
          go_roundw
          case rel => exact ⟨k + 1, by omega, by go_num, x.h.1, x.h.2⟩
          case measure => simp [intOf]; omega
      · obtain rfl : k = s.size := by omega
        go_wp2_with (first | (go_at_call 16; refine (awake01 _ GL).mono ?_; rintro en w2 ⟨rfl, hb2⟩))
        go_ret
        exact ⟨rfl, GB.trans (hb2.mono GB.size)⟩
  · have hs' : (4096 : Int) < (s.size : Int) := by omega
    go_enter Tryd.func7, Tryd.ntmps7
    go_wp2_with (first | (go_at_call 16; refine (awake01 _ hL).mono ?_; rintro en w2 ⟨rfl, hb2⟩))
    go_ret
    exact ⟨rfl, hb2⟩
end Go.Proofs.YtdpfhlopcempmaaDoor
