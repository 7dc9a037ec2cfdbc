/-
  Layer 1: the document's Hex; the walk of ShaHex.
-/
import Derived.Test.YtdpfhlopcempmaaDoorShaG
namespace Go.Proofs.YtdpfhlopcempmaaDoor
open Go Go.RowKit

def hexD : ByteArray := ⟨#[48, 49, 50, 51, 52, 53, 54, 55, 56, 57, 97, 98, 99, 100, 101, 102]⟩
theorem hexD_at (n : Nat) (hn : n < 16) : (hexD.extract n (n + 1)).data.toList = [digit n] := by
  have : ∀ n, n < 16 → (hexD.data.toList.take (n + 1)).drop n = [digit n] := by decide
  rw [extract_list]; exact this n hn
set_option maxRecDepth 100000 in
theorem refHex_any (s h : ByteArray) (hh : Hid (h.data.toList = hexL s.data.toList)) (hs : s.size ≤ 1099511627776) (w : World) :
    Calls Tryd.prog 23 #[.string s] w fun en w' => en = .returned (.string h) ∧ Below w.heap.size w w' := by
  go_enter Tryd.func23, Tryd.ntmps23
  go_wp2
  go_loopw [4, 5] (fun v c wr => ∃ (k : Nat) (o : ByteArray), k ≤ s.size ∧ c = .int .i64 k ∧ v = .string o ∧ o.size ≤ 2 * k ∧ Hid (o.data.toList = hexTo s.data.toList k) ∧ Below w.heap.size w wr) (fun _ c _ => s.size - (intOf c).toNat)
  case atStart => exact ⟨0, ⟨#[]⟩, by omega, rfl, rfl, by decide, Lib.hid rfl, Below.refl _ _⟩
  case round =>
    obtain ⟨k, o, hk, rfl, rfl, ho, HO, hL⟩ := hrel
    by_cases hlt : k < s.size
    · have hb := (s[k]).toNat_lt
      have hD : hexD.size = 16 := rfl
      have e1 : (hexD.extract (s[k].toNat / 16) (s[k].toNat / 16 + 1)).data.toList = [digit (s[k].toNat / 16)] := hexD_at _ (by omega)
      have e2 : (hexD.extract (s[k].toNat % 16) (s[k].toNat % 16 + 1)).data.toList = [digit (s[k].toNat % 16)] := hexD_at _ (by omega)
      have z1 : (hexD.extract (s[k].toNat / 16) (s[k].toNat / 16 + 1)).size ≤ 1 := by rw [← list_length, e1]; exact Nat.le_refl 1
      have z2 : (hexD.extract (s[k].toNat % 16) (s[k].toNat % 16 + 1)).size ≤ 1 := by rw [← list_length, e2]; exact Nat.le_refl 1
      have HN : Hid ((o ++ hexD.extract (s[k].toNat / 16) (s[k].toNat / 16 + 1) ++ hexD.extract (s[k].toNat % 16) (s[k].toNat % 16 + 1)).data.toList = hexTo s.data.toList (k + 1)) := Lib.hid (by
        rw [append_list, append_list, e1, e2, HO.out, hexTo, ← byte_at s k hlt, List.append_assoc]; rfl)
      have HS : (o ++ hexD.extract (s[k].toNat / 16) (s[k].toNat / 16 + 1) ++ hexD.extract (s[k].toNat % 16) (s[k].toNat % 16 + 1)).size ≤ 2 * (k + 1) := by rw [ByteArray.size_append, ByteArray.size_append]; omega
      clear e1 e2
      go_wp2_with fail
      go_quiet (fail)
      go_wp2
      go_roundw
      case rel => exact ⟨k + 1, _, by omega, by go_num, rfl, HS, HN, hL.trans ⟨rfl, rfl, rfl, Nat.le_refl _, fun _ _ => rfl⟩⟩
      case measure => simp [intOf]; omega
    · obtain rfl : k = s.size := by omega
      have he : o = h := by
        have := HO.out.trans (show hexTo s.data.toList s.size = h.data.toList from by rw [hh.out, hexL, list_length])
        cases o; cases h; simp at this; subst this; rfl
      subst he
      go_wp2
      go_ret
      exact ⟨rfl, hL⟩
set_option maxRecDepth 100000 in
theorem hex_law (s : ByteArray) (_hs : s.size ≤ maxLen) (w : World) (hL : Laid w) :
    Calls Tryd.prog 5 #[.string s] w fun en w' => en = .returned (.bool true) ∧ Below w.heap.size w w' := by
  by_cases hs : s.size ≤ 4096
  · have hs' : ¬ (4096 : Int) < (s.size : Int) := by omega
    obtain ⟨h, hh⟩ : ∃ h : ByteArray, Hid (h.data.toList = hexL s.data.toList) := ⟨⟨(hexL s.data.toList).toArray⟩, Lib.hid rfl⟩
    go_enter Tryd.func5, Tryd.ntmps5
    go_wp2_with (first
      | (go_at_call 22; refine (hex_det _ h hh (by omega) _).mono ?_; rintro en w1 ⟨rfl, hb1⟩)
      | (go_at_call 23; refine (refHex_any _ h hh (by omega) _).mono ?_; rintro en w2 ⟨rfl, hb2⟩)
      | (go_at_call 16; refine (awake01 _ ((hL.below hb1 hL.pos).below hb2 (hL.below hb1 hL.pos).pos)).mono ?_; rintro en w3 ⟨rfl, hb3⟩))
    go_ret
    exact ⟨rfl, hb1.trans ((hb2.mono hb1.size).trans (hb3.mono (Nat.le_trans hb1.size hb2.size)))⟩
  · have hs' : (4096 : Int) < (s.size : Int) := by omega
    go_enter Tryd.func5, Tryd.ntmps5
    go_wp2_with (first | (go_at_call 16; refine (awake01 _ hL).mono ?_; rintro en w2 ⟨rfl, hb2⟩))
    go_ret
    exact ⟨rfl, hb2⟩
end Go.Proofs.YtdpfhlopcempmaaDoor
