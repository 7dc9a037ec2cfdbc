/-
  Layer 6: the document's tag, its value.
-/
import Derived.Test.YthgemadhhkocgaaDd
import Derived.Test.YthgemadhhkocgaaPv
namespace Go.Proofs.Ythgemadhhkocgaa
open Go Go.RowKit
set_option maxHeartbeats 4000000
set_option linter.unusedSimpArgs false
set_option linter.unusedVariables false
theorem leN_dv : ∀ (s : List UInt8), dv 256 (natsB s) = leN s
  | [] => rfl
  | x :: s => by
    show x.toNat + 256 * dv 256 (natsB s) = _
    rw [leN_dv s]; rfl
theorem natsB_lt : ∀ (s : List UInt8), dlt 256 (natsB s)
  | [] => dlt_nil (by decide)
  | x :: s => dlt_mk x.toNat_lt (natsB_lt s)
theorem natsB_one (s : List UInt8) : natsB s ++ [1] = natsB (s ++ [1]) := by simp [natsB]
def rD (k : List UInt8) : List Nat := natsB (clampL (k.take 16))
def blkL (s : List UInt8) (q : Nat) : List UInt8 := (s.drop (16 * q)).take 16
def hD (k s : List UInt8) : Nat → List Nat
  | 0 => [0]
  | q + 1 => redL (timesL 256 (addL 256 (hD k s q) (natsB (blkL s q) ++ [1])) (rD k))
theorem redL_lt (a : List Nat) : dlt 256 (redL a) := digD_lt (by decide) _ _
theorem redL_len (a : List Nat) : (redL a).length = 17 := digD_len _ _ _
theorem redL_v (a : List Nat) : dv 256 (redL a) = dv 256 a % 1361129467683753853853498429727072845819 := by
  rw [redL, digD_v]
  have := Nat.mod_lt (dv 256 a) (show 0 < 1361129467683753853853498429727072845819 by decide)
  exact Nat.mod_eq_of_lt (Nat.lt_of_lt_of_le this (by decide))
theorem hD_spec (k s : List UInt8) : ∀ q, dlt 256 (hD k s q) ∧ 0 < (hD k s q).length ∧ (hD k s q).length ≤ 17
  | 0 => ⟨dlt_mk (by decide) (dlt_nil (by decide)), by show 0 < 1; omega, by show 1 ≤ 17; omega⟩
  | q + 1 => ⟨redL_lt _, by rw [hD, redL_len]; omega, by rw [hD, redL_len]; omega⟩
theorem one_lt : dlt 256 [1] := dlt_mk (by decide) (dlt_nil (by decide))
theorem keyR_lt (k : List UInt8) (hk : k.length = 32) : (keyR k).lt 134217728 ∧ (keyR k).v % p1305 = dv 256 (rD k) % p1305 := by
  have hl : (clampL (k.take 16)).length ≤ 17 := by rw [clampL_len, List.length_take]; omega
  obtain ⟨h1, h2⟩ := limbsN_spec (clampL (k.take 16)) hl
  exact ⟨h2, by rw [rD, leN_dv]; exact h1⟩
theorem tag_val (k s : List UInt8) (hk : k.length = 32) : ∀ q, (tagN (keyR k) s q).v % p1305 = dv 256 (hD k s q) ∧ (tagN (keyR k) s q).lt 134217728
  | 0 => by
    have h0 : tagN (keyR k) s 0 = zero5 := rfl
    have h1 : zero5.v = 0 := rfl
    rw [h0, h1, Nat.zero_mod]
    exact ⟨rfl, by unfold N5.lt; decide⟩
  | q + 1 => by
    obtain ⟨ih1, ih2⟩ := tag_val k s hk q
    obtain ⟨r1, r2⟩ := keyR_lt k hk
    have hb : (blkL s q).length ≤ 16 := by unfold blkL; rw [List.length_take]; omega
    obtain ⟨b1, b2⟩ := limbsN_spec (blkL s q ++ [1]) (by rw [List.length_append]; simp only [List.length_cons, List.length_nil]; omega)
    obtain ⟨c1, c2⟩ := pplus_spec _ _ ih2 b2
    obtain ⟨d1, d2⟩ := ptimes_spec _ _ c2 r1
    have hs := (hD_spec k s q).1
    refine ⟨?_, d2⟩
    rw [hD, redL_v, timesL_v, addL_v (by decide) hs (by rw [natsB_one]; exact natsB_lt _), natsB_one, leN_dv]
    show (ptimes (pplus (tagN (keyR k) s q) (limbsN (blkL s q ++ [1]))) (keyR k)).v % p1305 = _ % p1305
    rw [d1, Nat.mul_mod, c1, r2, Nat.add_mod, b1, ← Nat.add_mod, ← Nat.mul_mod]
    conv => lhs; rw [Nat.mul_mod, Nat.add_mod, ih1]
    conv => rhs; rw [Nat.mul_mod, Nat.add_mod]
    have hlt : dv 256 (hD k s q) % p1305 = dv 256 (hD k s q) := by rw [← ih1]; exact Nat.mod_mod _ _
    rw [hlt]
def hF (k s : List UInt8) : List Nat := addL 256 (hD k s ((s.length + 15) / 16)) (natsB (k.drop 16))
def outR (k s : List UInt8) (n : Nat) : List UInt8 := (List.range n).map fun i => UInt8.ofNat ((hF k s).getD i 0)
theorem outR_len (k s : List UInt8) (n : Nat) : (outR k s n).length = n := by simp [outR]
theorem outR_succ (k s : List UInt8) (n : Nat) : outR k s (n + 1) = outR k s n ++ [UInt8.ofNat ((hF k s).getD n 0)] := by simp [outR, List.range_succ]
theorem hF_lt (k s : List UInt8) : dlt 256 (hF k s) := addL_lt (by decide) _ _
theorem outR_v (k s : List UInt8) : ∀ n, leN (outR k s n) = dv 256 ((hF k s).take n)
  | 0 => rfl
  | n + 1 => by
    have h := hF_lt k s n
    rw [outR_succ, leN_append, outR_len, outR_v k s n, dv_take]
    have e : leN [UInt8.ofNat ((hF k s).getD n 0)] = (hF k s).getD n 0 := by
      simp only [leN, Nat.mul_zero, Nat.add_zero, UInt8.toNat_ofNat']
      exact Nat.mod_eq_of_lt h
    rw [e, Nat.pow_mul, show (2 : Nat) ^ 8 = 256 from rfl, Nat.mul_comm]
theorem hF_len (k s : List UInt8) (hk : k.length = 32) : 16 ≤ (hF k s).length := by
  have h := (addLen_bd 256 (hD k s ((s.length + 15) / 16)) (natsB (k.drop 16))).1
  rw [natsB_len, List.length_drop] at h
  rw [hF, addL_len]
  omega
theorem tag_ref (k s : List UInt8) (hk : k.length = 32) : outR k s 16 = tagL k s := by
  refine leN_inj _ _ (by rw [outR_len, tagL_len]) ?_
  obtain ⟨t1, t2⟩ := tag_val k s hk ((s.length + 15) / 16)
  obtain ⟨p1, p2⟩ := psmall_spec _ t2
  have hd : (k.drop 16).length = 16 := by rw [List.length_drop]; omega
  have hb := addB_v _ p2 (k.drop 16) hd 16 (Nat.le_refl _)
  rw [p1, t1, List.take_of_length_le (by omega)] at hb
  have hlt := leN_lt (addB (psmall (tagN (keyR k) s ((s.length + 15) / 16))) (k.drop 16) 16)
  rw [addB_len'] at hlt
  have hv : dv 256 (hF k s) = dv 256 (hD k s ((s.length + 15) / 16)) + leN (k.drop 16) := by
    rw [hF, addL_v (by decide) (hD_spec k s _).1 (natsB_lt _), leN_dv]
  have hs : dv 256 (hF k s) = dv 256 ((hF k s).take 16) + 256 ^ 16 * dv 256 ((hF k s).drop 16) := by
    conv => lhs; rw [← List.take_append_drop 16 (hF k s)]
    rw [dv_append, List.length_take, Nat.min_eq_left (hF_len k s hk)]
  have ho := outR_v k s 16
  have holt := leN_lt (outR k s 16)
  rw [outR_len] at holt
  show leN (outR k s 16) = leN (addB (psmall (tagN (keyR k) s ((s.length + 15) / 16))) (k.drop 16) 16)
  simp only [Nat.reduceMul, Nat.reducePow] at *
  omega
end Go.Proofs.Ythgemadhhkocgaa
