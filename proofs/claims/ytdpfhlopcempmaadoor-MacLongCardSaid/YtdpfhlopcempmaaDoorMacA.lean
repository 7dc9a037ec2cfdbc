/-
  Layer 2: mac.Same.
-/
import Derived.Test.YtdpfhlopcempmaaDoorShaH
namespace Go.Proofs.YtdpfhlopcempmaaDoor
open Go Go.RowKit

theorem B8_ofInt (a : UInt8) : BitVec.ofInt 8 (B8 a) = a.toBitVec := by unfold B8; simp
theorem B8_xor (a b : UInt8) : bits .xor .u8 (B8 a) (B8 b) = B8 (a ^^^ b) := by
  show IntKind.u8.wrap ((BitVec.ofInt 8 (B8 a) ^^^ BitVec.ofInt 8 (B8 b)).toNat : Int) = _
  rw [B8_ofInt, B8_ofInt, ← UInt8.toBitVec_xor, IntKind.wrap_u8]; unfold B8; simp; have := (a ^^^ b).toNat_lt; simp at this; omega
theorem B8_or (a b : UInt8) : bits .or .u8 (B8 a) (B8 b) = B8 (a ||| b) := by
  show IntKind.u8.wrap ((BitVec.ofInt 8 (B8 a) ||| BitVec.ofInt 8 (B8 b)).toNat : Int) = _
  rw [B8_ofInt, B8_ofInt, ← UInt8.toBitVec_or, IntKind.wrap_u8]; unfold B8; simp; have := (a ||| b).toNat_lt; simp at this; omega
theorem or_zero (a b : UInt8) : a ||| b = 0 ↔ a = 0 ∧ b = 0 := by
  constructor
  · intro h
    have := congrArg UInt8.toBitVec h
    rw [UInt8.toBitVec_or] at this
    refine ⟨UInt8.eq_of_toBitVec_eq ?_, UInt8.eq_of_toBitVec_eq ?_⟩ <;> (show _ = 0#8; apply BitVec.eq_of_getLsbD_eq; intro i hi; have := congrArg (fun x => x.getLsbD i) this; simp at this ⊢; simp [this])
  · rintro ⟨rfl, rfl⟩; rfl
theorem xor_zero (a b : UInt8) : a ^^^ b = 0 ↔ a = b := by
  constructor
  · intro h
    have : a ^^^ b ^^^ b = 0 ^^^ b := by rw [h]
    simpa [UInt8.xor_assoc] using this
  · rintro rfl; simp
/-- What differs among the first k bytes. -/
def diffTo (a b : List UInt8) : Nat → UInt8
  | 0 => 0
  | k + 1 => diffTo a b k ||| ((a.getD k 0) ^^^ (b.getD k 0))
theorem diffTo_zero (a b : List UInt8) (n : Nat) : diffTo a b n = 0 ↔ ∀ i, i < n → a.getD i 0 = b.getD i 0 := by
  induction n with
  | zero => simp [diffTo]
  | succ n ih =>
    rw [diffTo, or_zero, ih, xor_zero]
    constructor
    · rintro ⟨h1, h2⟩ i hi
      by_cases h : i = n
      · subst h; exact h2
      · exact h1 i (by omega)
    · intro h; exact ⟨fun i hi => h i (by omega), h n (by omega)⟩
theorem same_bytes (a b : ByteArray) (hz : a.size = b.size) : diffTo a.data.toList b.data.toList a.size = 0 ↔ a = b := by
  rw [diffTo_zero]
  constructor
  · intro h
    have : a.data.toList = b.data.toList := by
      apply List.ext_getElem (by rw [list_length, list_length, hz])
      intro i h1 h2
      have := h i (by rw [list_length] at h1; exact h1)
      rw [List.getD_eq_getElem?_getD, List.getD_eq_getElem?_getD, List.getElem?_eq_getElem h1, List.getElem?_eq_getElem h2] at this; exact this
    cases a; cases b; simp at this; subst this; rfl
  · rintro rfl i _; rfl
theorem B8_zero (x : UInt8) : (B8 x == 0) = decide (x = 0) := by
  unfold B8
  by_cases h : x = 0
  · subst h; rfl
  · have : x.toNat ≠ 0 := fun h' => h (UInt8.toNat_inj.1 h')
    simp [h]; exact this
set_option maxRecDepth 100000 in
theorem same_any (a b : ByteArray) (ha : a.size ≤ 1099511627776) (w : World) :
    Calls Tryd.prog 32 #[.string a, .string b] w fun en w' => en = .returned (.bool (decide (a = b))) ∧ Below w.heap.size w w' := by
  by_cases hab : a.size = b.size
  · have hne : ((a.size : Int) != (b.size : Int)) = false := by rw [bne_eq_false_iff_eq]; omega
    have HS := Lib.hid (same_bytes a b hab)
    go_enter Tryd.func32, Tryd.ntmps32
    go_wp2
    go_loopw [5, 14] (fun v c wr => ∃ k : Nat, k ≤ a.size ∧ c = .int .i64 k ∧ v = .int .u8 (B8 (diffTo a.data.toList b.data.toList k)) ∧ Below w.heap.size w wr) (fun _ c _ => a.size - (intOf c).toNat)
    case atStart => exact ⟨0, by omega, rfl, rfl, Below.refl _ _⟩
    case round =>
      obtain ⟨k, hk, rfl, rfl, hL⟩ := hrel
      by_cases hlt : k < a.size
      · have hlb : k < b.size := by omega
        have HG := Lib.hid (show bits .or .u8 (B8 (diffTo a.data.toList b.data.toList k)) (bits .xor .u8 ((a[k]).toNat : Int) ((b[k]).toNat : Int)) = B8 (diffTo a.data.toList b.data.toList (k + 1)) from by
          rw [show ((a[k]).toNat : Int) = B8 a[k] from rfl, show ((b[k]).toNat : Int) = B8 b[k] from rfl, B8_xor, B8_or, diffTo, byte_at a k hlt, byte_at b k hlb])
        go_wp2
        go_quiet (fail)
        go_wp2
        go_roundw
        case rel => exact ⟨k + 1, by omega, by go_num, by rw [HG.out], hL.trans ⟨rfl, rfl, rfl, Nat.le_refl _, fun _ _ => rfl⟩⟩
        case measure => simp [intOf]; omega
      · obtain rfl : k = a.size := by omega
        go_wp2
        go_ret
        exact ⟨by show Ending.returned (Value.bool (B8 (diffTo a.data.toList b.data.toList b.size) == 0)) = _; rw [B8_zero, ← hab, decide_eq_decide.2 HS.out], hL⟩
  · have hne : ((a.size : Int) != (b.size : Int)) = true := by rw [bne_iff_ne]; omega
    have hd : ¬ a = b := fun h => hab (by rw [h])
    go_enter Tryd.func32, Tryd.ntmps32
    go_wp2
    go_ret
    exact ⟨by simp [hd], Below.refl _ _⟩
end Go.Proofs.YtdpfhlopcempmaaDoor
