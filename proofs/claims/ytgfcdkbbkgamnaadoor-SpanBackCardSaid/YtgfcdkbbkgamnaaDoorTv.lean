/-
  Layer 14: how long what is split is.
-/
import Derived.Test.YtgfcdkbbkgamnaaDoorTg
namespace Go.Proofs.YtgfcdkbbkgamnaaDoor
open Go Go.RowKit
set_option maxHeartbeats 4000000
set_option linter.unusedSimpArgs false
set_option linter.unusedVariables false
theorem count_le (c : UInt8) : ∀ (f : Nat) (s : List UInt8), Lib.countFrom [c] f s ≤ s.length
  | 0, s => Nat.zero_le _
  | f + 1, s => by
    obtain ⟨p, r, rfl, hp, hr⟩ := first_of c s
    rcases hr with rfl | ⟨t, rfl⟩
    · rw [List.append_nil, Lib.countFrom, idx_miss hp]; exact Nat.zero_le _
    · rw [Lib.countFrom, idx_hit hp]
      have : ((p.length : Int) == -1) = false := beq_eq_false_iff_ne.2 (by omega)
      rw [this, if_neg (by decide)]
      have hd : (p ++ c :: t).drop ((p.length : Int).toNat + ([c] : List UInt8).length) = t := by simp
      rw [hd]
      have := count_le c f t
      simp only [List.length_append, List.length_cons]
      omega
theorem split_le (c : UInt8) (s : List UInt8) : (Lib.split s [c]).length ≤ s.length + 1 := by
  have h1 := split_len (Lib.count s [c]) s [c]
  have h2 : Lib.count s [c] ≤ s.length := count_le c _ s
  unfold Lib.split
  omega
theorem split_ne (k : Nat) (s p : List UInt8) : Lib.splitK p 0 k s ≠ [] := by
  cases k with
  | zero => simp [Lib.splitK]
  | succ k => rw [Lib.splitK]; split <;> simp
theorem prsF_len : ∀ (R : List (List UInt8)) (L : List Rng), prsF R = some L → L.length = R.length
  | [], L, h => by simp only [prsF, Option.some.injEq] at h; subst h; rfl
  | p :: ps, L, h => by
    rw [prsF] at h
    split at h
    · cases hq : prsF ps with
      | none => rw [hq] at h; cases h
      | some l =>
        rw [hq] at h
        simp only [Option.map_some, Option.some.injEq] at h
        subst h
        simp [prsF_len ps l hq]
    · cases h
theorem prsL_len {s : List UInt8} {L : List Rng} (h : prsL s = some L) : 0 < L.length ∧ L.length ≤ s.length + 1 := by
  have h1 := prsF_len _ _ h
  have h2 := split_ne (Lib.count s [44]) s [44]
  have h3 := split_le 44 s
  refine ⟨?_, by omega⟩
  rw [h1]
  unfold Lib.split
  exact List.length_pos_iff.2 h2
end Go.Proofs.YtgfcdkbbkgamnaaDoor
