/-
  Layer 1: the contract of Hex, and of the law's awake.
-/
import Derived.Test.YtdpfhlopcempmaaDoorShaE
import Derived.Deep.RegionHeld3
namespace Go.Proofs.YtdpfhlopcempmaaDoor
open Go Go.RowKit

def digitsL : List UInt8 := [48, 49, 50, 51, 52, 53, 54, 55, 56, 57, 97, 98, 99, 100, 101, 102]
def digit (n : Nat) : UInt8 := digitsL[n]?.getD 0
def hexB (b : UInt8) : List UInt8 := [digit (b.toNat / 16), digit (b.toNat % 16)]
def hexTo (l : List UInt8) : Nat → List UInt8
  | 0 => []
  | k + 1 => hexTo l k ++ hexB (l.getD k 0)
theorem hexTo_length (l : List UInt8) (k : Nat) : (hexTo l k).length = 2 * k := by
  induction k with
  | zero => rfl
  | succ k ih => rw [hexTo, List.length_append, ih]; simp [hexB]; omega
theorem run_digit (n : Nat) (hn : n < 16) (w : World) : (Instr.index 9 (.string ⟨#[48, 49, 50, 51, 52, 53, 54, 55, 56, 57, 97, 98, 99, 100, 101, 102]⟩) (.int .u8 (n : Int))).run Tryd.prog w = .ok (.int .u8 (B8 (digit n))) w := by
  have : ∀ n, n < 16 → ((⟨#[48, 49, 50, 51, 52, 53, 54, 55, 56, 57, 97, 98, 99, 100, 101, 102]⟩ : ByteArray)[n]?).map (fun b => Value.int .u8 b.toNat) = some (.int .u8 (B8 (digit n))) := by
    intro n hn
    match n, hn with
    | 0, _ | 1, _ | 2, _ | 3, _ | 4, _ | 5, _ | 6, _ | 7, _ | 8, _ | 9, _ | 10, _ | 11, _ | 12, _ | 13, _ | 14, _ | 15, _ => rfl
    | n + 16, h => exact absurd h (by omega)
  have h := this n hn
  cases hb : (⟨#[48, 49, 50, 51, 52, 53, 54, 55, 56, 57, 97, 98, 99, 100, 101, 102]⟩ : ByteArray)[n]? with
  | none => rw [hb] at h; cases h
  | some b =>
    rw [hb] at h
    injection h with h
    simp [Instr.index, asIntOf, run_underlying Tryd.underlying9, hb, h]
theorem and_15 (b : UInt8) : bits .and .u8 (b.toNat : Int) 15 = ((b.toNat % 16 : Nat) : Int) := by
  have : ∀ n : Nat, n < 256 → bits .and .u8 (n : Int) 15 = ((n % 16 : Nat) : Int) := by decide +kernel
  exact this _ b.toNat_lt
set_option maxRecDepth 100000 in
theorem hex_any (s : ByteArray) (hs : s.size ≤ 1099511627776) (w : World) :
    Calls Tryd.prog 22 #[.string s] w fun en w' => en = .returned (.string ⟨(hexTo s.data.toList s.size).toArray⟩) ∧ Below w.heap.size w w' := by
  go_enter Tryd.func22, Tryd.ntmps22
  go_wp2_with (first
    | (refine wpList_make_bufN byteTy _ _ _ rfl rfl _ _ _ _ 0 (2 * s.size) rfl rfl rfl (by omega) (by omega) (by omega) ?_; intro w1 hb1 hg1; have L1 := ((Below.refl w.heap.size w).grown hg1 (Nat.le_refl _) (fun _ h => by cases h)); clear hg1))
  go_loopw [3, 11] (fun v c wr => ∃ k : Nat, k ≤ s.size ∧ c = .int .i64 k ∧ Buf wr w.heap.size 5 v (hexTo s.data.toList k) ∧ Below w.heap.size w wr) (fun _ c _ => s.size - (intOf c).toNat)
  case atStart => exact ⟨0, by omega, rfl, hb1, L1⟩
  case round =>
    obtain ⟨k, hk, rfl, hb, hL⟩ := hrel
    by_cases hlt : k < s.size
    · have ik : (k : Int) < (s.size : Int) := by omega
      have nk : 0 ≤ (k : Int) := by omega
      have HG := Lib.hid (byte_at s k hlt)
      have h15 := and_15
      have hd1 : ∀ wx, (Instr.index 9 (.string ⟨#[48, 49, 50, 51, 52, 53, 54, 55, 56, 57, 97, 98, 99, 100, 101, 102]⟩) (.int .u8 ((s[k].toNat : Int) / 16))).run Tryd.prog wx = .ok (.int .u8 (B8 (digit (s[k].toNat / 16)))) wx := fun wx =>
        run_digit (s[k].toNat / 16) (by have := (s[k]).toNat_lt; omega) wx
      have hd2 : ∀ wx, (Instr.index 9 (.string ⟨#[48, 49, 50, 51, 52, 53, 54, 55, 56, 57, 97, 98, 99, 100, 101, 102]⟩) (.int .u8 ((s[k].toNat : Int) % 16))).run Tryd.prog wx = .ok (.int .u8 (B8 (digit (s[k].toNat % 16)))) wx := fun wx =>
        run_digit (s[k].toNat % 16) (by omega) wx
      go_wp2
      go_region_held3 (fun _ => True) (trivial)
        ((refine step_append_buf byteTy (hb.drew.alloc _) _ _ rfl rfl rfl wr.heap.size _ (hexB s[k]) (0, 0) (heap_alloc_new _ _) 2 rfl rfl (by rw [hexTo_length]; simp [hexB]; omega) (by have := hL.size; simp; omega) ?_; intro v' w' hb' hg' ho'))
      all_goals
        clear hd1 hd2 h15
        go_wp2
        go_roundw
        case rel => exact ⟨k + 1, by omega, by go_num, by rw [hexTo, ← HG.out]; exact hb', ((hb.alloc _).drew.leaves ((hL.alloc hL.size _).drew) hg' (Nat.le_refl _) (by have := hL.size; simp; omega))⟩
        case measure => simp [intOf]; omega
    · obtain rfl : k = s.size := by omega
      go_wp2_with (first | (refine wpList_string_buf byteTy hb _ rfl rfl rfl ?_))
      go_ret
      exact ⟨rfl, hL⟩
/-- All bytes in digits. -/
def hexL (l : List UInt8) : List UInt8 := hexTo l l.length
theorem hex_ex (s : ByteArray) (hs : s.size ≤ 1099511627776) (w : World) :
    Calls Tryd.prog 22 #[.string s] w fun en w' => ∃ h : ByteArray, en = .returned (.string h) ∧ Hid (h.data.toList = hexL s.data.toList) ∧ Below w.heap.size w w' :=
  (hex_any s hs w).mono fun _ _ ⟨h1, h2⟩ => ⟨_, h1, Lib.hid (by simp [hexL]), h2⟩
theorem awake1 : hexL (sumL [97, 98, 99]) = [98, 97, 55, 56, 49, 54, 98, 102, 56, 102, 48, 49, 99, 102, 101, 97, 52, 49, 52, 49, 52, 48, 100, 101, 53, 100, 97, 101, 50, 50, 50, 51, 98, 48, 48, 51, 54, 49, 97, 51, 57, 54, 49, 55, 55, 97, 57, 99, 98, 52, 49, 48, 102, 102, 54, 49, 102, 50, 48, 48, 49, 53, 97, 100] := by decide +kernel
end Go.Proofs.YtdpfhlopcempmaaDoor
