/-
  Layer 2: the laws' fixed answer; MacSame, MacSymm.
-/
import Derived.Test.YtdpfhlopcempmaaDoorMacB
namespace Go.Proofs.YtdpfhlopcempmaaDoor
open Go Go.RowKit

def jefe : ByteArray := ⟨#[74, 101, 102, 101]⟩
def what : ByteArray := ⟨#[119, 104, 97, 116, 32, 100, 111, 32, 121, 97, 32, 119, 97, 110, 116, 32, 102, 111, 114, 32, 110, 111, 116, 104, 105, 110, 103, 63]⟩
theorem sumB_list (s : ByteArray) : (sumB s).data.toList = sumL s.data.toList := rfl
theorem padB_list (k : ByteArray) (m : UInt8) : (padB k m).data.toList = padK k.data.toList m := rfl
theorem macB_list (key s : ByteArray) : (macB key s).data.toList = sumL (padK (keyB key).data.toList 92 ++ sumL (padK (keyB key).data.toList 54 ++ s.data.toList)) := by
  rw [macB, sumB_list, append_list, sumB_list, append_list, padB_list, padB_list]
theorem jefe_list : (macB jefe what).data.toList.take 4 = [91, 220, 193, 70] := by
  rw [macB_list, show keyB jefe = jefe from if_neg (by decide)]
  decide +kernel
theorem toList_beq (a b : ByteArray) : (a.toList == b.toList) = decide (a = b) := by
  rw [ByteArray.toList_eq, ByteArray.toList_eq]
  by_cases h : a = b
  · subst h; simp
  · have : ¬ a.data.toList = b.data.toList := fun e => h (ByteArray.ext (Array.toList_inj.1 e))
    simp [h]
    exact fun e => h (ByteArray.ext e)
set_option maxRecDepth 100000 in
theorem awake02 (w : World) (hL : Laid w) :
    Calls Tryd.prog 25 #[] w fun en w' => en = .returned (.bool true) ∧ Laid w' ∧ Below w.heap.size w w' := by
  have s1 := fun w => same_any ⟨#[97, 98]⟩ ⟨#[97, 98]⟩ (by decide) w
  have s2 := fun w => same_any ⟨#[97, 98]⟩ ⟨#[97, 99]⟩ (by decide) w
  rw [show decide ((⟨#[97, 98]⟩ : ByteArray) = ⟨#[97, 98]⟩) = true by decide] at s1
  rw [show decide ((⟨#[97, 98]⟩ : ByteArray) = ⟨#[97, 99]⟩) = false by decide] at s2
  have S1 := Lib.hid s1
  have S2 := Lib.hid s2
  clear s1 s2
  have m1 := mac_any jefe what (by decide) (by decide) w hL
  have hz := macB_size jefe what
  have he : ((macB jefe what).extract 0 4).toList == [91, 220, 193, 70] := by
    rw [ByteArray.toList_eq, extract_list, List.drop_zero, jefe_list]; rfl
  generalize macB jefe what = d at m1 hz he
  have i4 : 4 ≤ d.size := by omega
  have z32 : ((d.size : Int) == 32) = true := by rw [beq_iff_eq]; omega
  clear hz
  go_enter Tryd.func25, Tryd.ntmps25
  go_wp2_with (first
    | (go_at_call 26; refine m1.mono ?_; rintro en w1 ⟨rfl, L1, b1⟩)
    | (go_at_call 32; ((with_reducible refine (S1.out _).mono ?_); rintro en w2 ⟨rfl, b2⟩))
    | (go_at_call 32; ((with_reducible refine (S2.out _).mono ?_); rintro en w3 ⟨rfl, b3⟩)))
  go_ret
  have L2 := L1.below b2 L1.pos
  exact ⟨rfl, L2.below b3 L2.pos, b1.trans ((b2.mono b1.size).trans (b3.mono (Nat.le_trans b1.size b2.size)))⟩
set_option maxRecDepth 100000 in
theorem macsame_law (a : ByteArray) (_ha : a.size ≤ maxLen) (b : ByteArray) (_hb : b.size ≤ maxLen) (w : World) (hL : Laid w) :
    Calls Tryd.prog 11 #[.string a, .string b] w fun en w' => en = .returned (.bool true) ∧ Below w.heap.size w w' := by
  by_cases ha : a.size ≤ 4096
  · have ia : ¬ (4096 : Int) < (a.size : Int) := by omega
    by_cases hb : b.size ≤ 4096
    · have ib : ¬ (4096 : Int) < (b.size : Int) := by omega
      have hq := toList_beq a b
      have s1 := fun w => same_any a b (by omega) w
      have s2 := fun w => same_any a a (by omega) w
      rw [show decide (a = a) = true by simp] at s2
      have S1 := Lib.hid s1
      have S2 := Lib.hid s2
      clear s1 s2
      go_enter Tryd.func11, Tryd.ntmps11
      go_wp2_with (first
        | (go_at_call 32; ((with_reducible refine (S1.out _).mono ?_); rintro en w1 ⟨rfl, b1⟩))
        | (go_at_call 32; ((with_reducible refine (S2.out _).mono ?_); rintro en w2 ⟨rfl, b2⟩))
        | (go_at_call 25; ((with_reducible refine (awake02 _ ((hL.below b1 hL.pos).below b2 (hL.below b1 hL.pos).pos)).mono ?_); rintro en w3 ⟨rfl, _, b3⟩)))
      go_ret
      exact ⟨rfl, b1.trans ((b2.mono b1.size).trans (b3.mono (Nat.le_trans b1.size b2.size)))⟩
    · have ib : (4096 : Int) < (b.size : Int) := by omega
      go_enter Tryd.func11, Tryd.ntmps11
      go_wp2_with (first
        | (go_at_call 25; ((with_reducible refine (awake02 _ hL).mono ?_); rintro en w3 ⟨rfl, _, b3⟩)))
      go_ret
      exact ⟨rfl, b3⟩
  · have ia : (4096 : Int) < (a.size : Int) := by omega
    go_enter Tryd.func11, Tryd.ntmps11
    go_wp2_with (first
      | (go_at_call 25; ((with_reducible refine (awake02 _ hL).mono ?_); rintro en w3 ⟨rfl, _, b3⟩)))
    go_ret
    exact ⟨rfl, b3⟩
theorem append_self (a b : ByteArray) : (a ++ b = a) = (b = ByteArray.empty) := by
  apply propext
  constructor
  · intro h
    have h2 := congrArg (fun x => x.data.toList) h
    simp only [append_list] at h2
    have h3 : b.data.toList = [] := by
      have := congrArg List.length h2
      rw [List.length_append] at this
      exact List.eq_nil_of_length_eq_zero (by omega)
    exact ByteArray.ext (Array.toList_inj.1 h3)
  · rintro rfl; simp
set_option maxRecDepth 100000 in
theorem macsymm_law (a : ByteArray) (_ha : a.size ≤ maxLen) (b : ByteArray) (_hb : b.size ≤ maxLen) (w : World) (hL : Laid w) :
    Calls Tryd.prog 14 #[.string a, .string b] w fun en w' => en = .returned (.bool true) ∧ Below w.heap.size w w' := by
  by_cases ha : a.size ≤ 4096
  · have ia : ¬ (4096 : Int) < (a.size : Int) := by omega
    by_cases hb : b.size ≤ 4096
    · have ib : ¬ (4096 : Int) < (b.size : Int) := by omega
      have iz : a.size + b.size ≤ 9223372036854775807 := by omega
      have hq : (b.toList == []) = decide (a ++ b = a) := by
        rw [show ([] : List UInt8) = ByteArray.empty.toList from by (rw [ByteArray.toList_eq]; rfl), toList_beq, decide_eq_decide, append_self]
      have s1 := fun w => same_any a b (by omega) w
      have s2 := fun w => same_any b a (by omega) w
      rw [show decide (b = a) = decide (a = b) by rw [decide_eq_decide]; exact eq_comm] at s2
      have hz : (a ++ b).size ≤ 1099511627776 := by rw [ByteArray.size_append]; omega
      have s3 := fun w => same_any (a ++ b) (a ++ b) hz w
      rw [show decide (a ++ b = a ++ b) = true by simp] at s3
      have s4 := fun w => same_any (a ++ b) a hz w
      have S1 := Lib.hid s1
      have S2 := Lib.hid s2
      have S3 := Lib.hid s3
      have S4 := Lib.hid s4
      clear s1 s2 s3 s4
      go_enter Tryd.func14, Tryd.ntmps14
      go_wp2_with (first
        | (go_at_call 32; ((with_reducible refine (S1.out _).mono ?_); rintro en w1 ⟨rfl, b1⟩))
        | (go_at_call 32; ((with_reducible refine (S2.out _).mono ?_); rintro en w2 ⟨rfl, b2⟩))
        | (go_at_call 32; ((with_reducible refine (S3.out _).mono ?_); rintro en w3 ⟨rfl, b3⟩))
        | (go_at_call 32; ((with_reducible refine (S4.out _).mono ?_); rintro en w4 ⟨rfl, b4⟩; have L4 := (((hL.below b1 hL.pos).below b2 (hL.below b1 hL.pos).pos).below b3 ((hL.below b1 hL.pos).below b2 (hL.below b1 hL.pos).pos).pos).below b4 (((hL.below b1 hL.pos).below b2 (hL.below b1 hL.pos).pos).below b3 ((hL.below b1 hL.pos).below b2 (hL.below b1 hL.pos).pos).pos).pos))
        | (go_at_call 25; ((with_reducible refine (awake02 _ L4).mono ?_); rintro en w5 ⟨rfl, _, b5⟩)))
      go_ret
      have c1 := b1.size
      have c2 := b2.size
      have c3 := b3.size
      have c4 := b4.size
      exact ⟨rfl, b1.trans ((b2.mono (by omega)).trans ((b3.mono (by omega)).trans ((b4.mono (by omega)).trans (b5.mono (by omega)))))⟩
    · have ib : (4096 : Int) < (b.size : Int) := by omega
      go_enter Tryd.func14, Tryd.ntmps14
      go_wp2_with (first
        | (go_at_call 25; ((with_reducible refine (awake02 _ hL).mono ?_); rintro en w3 ⟨rfl, _, b3⟩)))
      go_ret
      exact ⟨rfl, b3⟩
  · have ia : (4096 : Int) < (a.size : Int) := by omega
    go_enter Tryd.func14, Tryd.ntmps14
    go_wp2_with (first
      | (go_at_call 25; ((with_reducible refine (awake02 _ hL).mono ?_); rintro en w3 ⟨rfl, _, b3⟩)))
    go_ret
    exact ⟨rfl, b3⟩
end Go.Proofs.YtdpfhlopcempmaaDoor
