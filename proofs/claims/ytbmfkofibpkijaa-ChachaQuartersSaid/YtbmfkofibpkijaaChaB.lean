/-
  Layer 5: the contracts of right and awake; the walk of ChachaBack.
-/
import Derived.Test.YtbmfkofibpkijaaChaA
import Derived.Lib.Hide
import Derived.RowKit3
namespace Go.Proofs.Ytbmfkofibpkijaa
open Go Go.RowKit

/-- Is a key, and a nonce, of the right length? -/
def rightB (k n : Nat) : Bool := decide (k = 32) && decide (n = 12)
theorem right_no (k n : ByteArray) (w : World) (h : k.size ≠ 32 ∨ n.size ≠ 12) :
    Calls Try.prog 18 #[.string k, .string n] w fun e w' => e = .returned (.bool false) ∧ w = w' := by
  by_cases c : k.size = 32
  · have c1 : ((k.size : Int) == 32) = true := beq_iff_eq.2 (by omega)
    have c2 : ((n.size : Int) == 12) = false := beq_eq_false_iff_ne.2 (by omega)
    clear c h
    go_enter Try.func18, Try.ntmps18
    go_wp2
    go_ret
    exact ⟨rfl, rfl⟩
  · have c1 : ((k.size : Int) == 32) = false := beq_eq_false_iff_ne.2 (by omega)
    clear c h
    go_enter Try.func18, Try.ntmps18
    go_wp2
    go_ret
    exact ⟨rfl, rfl⟩
theorem right_yes (k n : ByteArray) (w : World) (h1 : k.size = 32) (h2 : n.size = 12) :
    Calls Try.prog 18 #[.string k, .string n] w fun e w' => e = .returned (.bool true) ∧ w = w' := by
  have c1 : ((k.size : Int) == 32) = true := beq_iff_eq.2 (by omega)
  have c2 : ((n.size : Int) == 12) = true := beq_iff_eq.2 (by omega)
  clear h1 h2
  go_enter Try.func18, Try.ntmps18
  go_wp2
  go_ret
  exact ⟨rfl, rfl⟩
theorem block_no (k n : ByteArray) (c : Int) (w : World) (h : k.size ≠ 32 ∨ n.size ≠ 12) :
    Calls Try.prog 12 #[.string k, .string n, .int .u32 c] w fun e w' => e = .returned (.tuple #[.string ⟨#[]⟩, .bool false]) ∧ w = w' := by
  have H := Lib.hid h
  clear h
  go_enter Try.func12, Try.ntmps12
  go_wp2_with (go_at_call 18; refine (right_no _ _ _ H.out).mono ?_; rintro e w' ⟨rfl, rfl⟩)
  go_ret2
  exact ⟨rfl, rfl⟩
theorem awake_any (w : World) :
    Calls Try.prog 11 #[] w fun e w' => e = .returned (.bool true) ∧ w = w' := by
  go_enter Try.func11, Try.ntmps11
  go_wp2_with (first | (go_at_call 9; refine (quarter_awake _).mono ?_; rintro e w' ⟨rfl, rfl⟩) | (go_at_call 12; refine (block_no _ _ _ _ (Or.inl (by decide))).mono ?_; rintro e w' ⟨rfl, rfl⟩))
  go_ret
  exact ⟨rfl, rfl⟩

theorem back_walk (a b c d : UInt32) (w : World) :
    Calls Try.prog 8 #[.int .u32 (W a), .int .u32 (W b), .int .u32 (W c), .int .u32 (W d)] w fun e w' => e = .returned (.bool true) ∧ w = w' := by
  have hx := W_xor
  have hs := W_sub
  have r7 := fun x => W_rot' x 25 33554432 128 (by decide) (by decide) (by decide) (by decide)
  have r8 := fun x => W_rot' x 24 16777216 256 (by decide) (by decide) (by decide) (by decide)
  have r12 := fun x => W_rot' x 20 1048576 4096 (by decide) (by decide) (by decide) (by decide)
  have r16 := fun x => W_rot' x 16 65536 65536 (by decide) (by decide) (by decide) (by decide)
  have b7 := fun x => rotl_rotl x 7 (by decide) (by decide)
  have b8 := fun x => rotl_rotl x 8 (by decide) (by decide)
  have b12 := fun x => rotl_rotl x 12 (by decide) (by decide)
  have b16 := fun x => rotl_rotl x 16 (by decide) (by decide)
  have xb := xor_back
  have ab := add_back
  go_enter Try.func8, Try.ntmps8
  go_wp2_with (first | (go_at_call 9; refine (quarter_any _ _ _ _ _).mono ?_; rintro e w' ⟨rfl, rfl⟩; simp only [qr]) | (go_at_call 11; refine (awake_any _).mono ?_; rintro e w' ⟨rfl, rfl⟩))
  go_ret
  exact ⟨rfl, rfl⟩

theorem word_of_wf {x : Int} (h : (Lit.int .u32 x).wf = true) : ∃ a : UInt32, x = W a := by
  have h' : 0 ≤ x ∧ x ≤ 4294967295 := by simpa [Lit.wf, IntKind.min, IntKind.max, IntKind.signed, IntKind.bits] using h
  exact ⟨UInt32.ofNat x.toNat, by rw [W_of _ (by omega)]; omega⟩
theorem back_law (a : Int) (wa : (Lit.int .u32 a).wf = true) (b : Int) (wb : (Lit.int .u32 b).wf = true) (c : Int) (wc : (Lit.int .u32 c).wf = true) (d : Int) (wd : (Lit.int .u32 d).wf = true) (w : World) :
    Calls Try.prog 8 #[.int .u32 a, .int .u32 b, .int .u32 c, .int .u32 d] w fun e w' => e = .returned (.bool true) ∧ Grown w w' := by
  obtain ⟨a, rfl⟩ := word_of_wf wa
  obtain ⟨b, rfl⟩ := word_of_wf wb
  obtain ⟨c, rfl⟩ := word_of_wf wc
  obtain ⟨d, rfl⟩ := word_of_wf wd
  exact (back_walk a b c d w).mono fun _ _ ⟨he, hw⟩ => ⟨he, hw ▸ Grown.refl _⟩
end Go.Proofs.Ytbmfkofibpkijaa
