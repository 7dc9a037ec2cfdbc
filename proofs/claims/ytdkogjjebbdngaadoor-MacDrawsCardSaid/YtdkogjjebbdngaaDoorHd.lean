/-
  Layer 1: the program's block is the document's.
-/
import Derived.Test.YtdkogjjebbdngaaDoorHc
namespace Go.Proofs.YtdkogjjebbdngaaDoor
open Go Go.RowKit
set_option linter.unusedSimpArgs false
set_option linter.unusedVariables false
theorem maj (a b c : UInt32) : a &&& b ||| a &&& c ||| b &&& c = a &&& b ^^^ a &&& c ^^^ b &&& c := by
  apply UInt32.toBitVec_inj.1
  simp only [UInt32.toBitVec_or, UInt32.toBitVec_xor, UInt32.toBitVec_and]
  ext i hi
  simp only [BitVec.getElem_or, BitVec.getElem_xor, BitVec.getElem_and]
  cases a.toBitVec[i] <;> cases b.toBitVec[i] <;> cases c.toBitVec[i] <;> rfl
theorem not_sub (e : UInt32) : 4294967295 - e = 4294967295 ^^^ e := by
  apply UInt32.toBitVec_inj.1
  simp only [UInt32.toBitVec_sub, UInt32.toBitVec_xor]
  show BitVec.allOnes 32 - e.toBitVec = BitVec.allOnes 32 ^^^ e.toBitVec
  rw [BitVec.allOnes_sub_eq_not, BitVec.allOnes_xor]
theorem cho (e f g : UInt32) : e &&& f ||| (4294967295 - e) &&& g = e &&& f ^^^ (4294967295 ^^^ e) &&& g := by
  rw [not_sub]
  apply UInt32.toBitVec_inj.1
  simp only [UInt32.toBitVec_or, UInt32.toBitVec_xor, UInt32.toBitVec_and]
  ext i hi
  have h1 : (UInt32.toBitVec 4294967295) = BitVec.allOnes 32 := rfl
  simp only [h1, BitVec.getElem_or, BitVec.getElem_xor, BitVec.getElem_and, BitVec.getElem_allOnes]
  cases e.toBitVec[i] <;> cases f.toBitVec[i] <;> cases g.toBitVec[i] <;> rfl
theorem rgt_2 (x : UInt32) : rgt x 2 = rot32 x (-2) := by
  show shr32 x 2 ||| shl32 x 30 = shl32 x (by64 (-2) &&& 31).toNat ||| shr32 x (32 - (by64 (-2) &&& 31)).toNat
  rw [show (by64 (-2) &&& 31).toNat = 30 from by decide, show (32 - (by64 (-2) &&& 31)).toNat = 2 from by decide, UInt32.or_comm]
theorem rgt_6 (x : UInt32) : rgt x 6 = rot32 x (-6) := by
  show shr32 x 6 ||| shl32 x 26 = shl32 x (by64 (-6) &&& 31).toNat ||| shr32 x (32 - (by64 (-6) &&& 31)).toNat
  rw [show (by64 (-6) &&& 31).toNat = 26 from by decide, show (32 - (by64 (-6) &&& 31)).toNat = 6 from by decide, UInt32.or_comm]
theorem rgt_7 (x : UInt32) : rgt x 7 = rot32 x (-7) := by
  show shr32 x 7 ||| shl32 x 25 = shl32 x (by64 (-7) &&& 31).toNat ||| shr32 x (32 - (by64 (-7) &&& 31)).toNat
  rw [show (by64 (-7) &&& 31).toNat = 25 from by decide, show (32 - (by64 (-7) &&& 31)).toNat = 7 from by decide, UInt32.or_comm]
theorem rgt_11 (x : UInt32) : rgt x 11 = rot32 x (-11) := by
  show shr32 x 11 ||| shl32 x 21 = shl32 x (by64 (-11) &&& 31).toNat ||| shr32 x (32 - (by64 (-11) &&& 31)).toNat
  rw [show (by64 (-11) &&& 31).toNat = 21 from by decide, show (32 - (by64 (-11) &&& 31)).toNat = 11 from by decide, UInt32.or_comm]
theorem rgt_13 (x : UInt32) : rgt x 13 = rot32 x (-13) := by
  show shr32 x 13 ||| shl32 x 19 = shl32 x (by64 (-13) &&& 31).toNat ||| shr32 x (32 - (by64 (-13) &&& 31)).toNat
  rw [show (by64 (-13) &&& 31).toNat = 19 from by decide, show (32 - (by64 (-13) &&& 31)).toNat = 13 from by decide, UInt32.or_comm]
theorem rgt_17 (x : UInt32) : rgt x 17 = rot32 x (-17) := by
  show shr32 x 17 ||| shl32 x 15 = shl32 x (by64 (-17) &&& 31).toNat ||| shr32 x (32 - (by64 (-17) &&& 31)).toNat
  rw [show (by64 (-17) &&& 31).toNat = 15 from by decide, show (32 - (by64 (-17) &&& 31)).toNat = 17 from by decide, UInt32.or_comm]
theorem rgt_18 (x : UInt32) : rgt x 18 = rot32 x (-18) := by
  show shr32 x 18 ||| shl32 x 14 = shl32 x (by64 (-18) &&& 31).toNat ||| shr32 x (32 - (by64 (-18) &&& 31)).toNat
  rw [show (by64 (-18) &&& 31).toNat = 14 from by decide, show (32 - (by64 (-18) &&& 31)).toNat = 18 from by decide, UInt32.or_comm]
theorem rgt_19 (x : UInt32) : rgt x 19 = rot32 x (-19) := by
  show shr32 x 19 ||| shl32 x 13 = shl32 x (by64 (-19) &&& 31).toNat ||| shr32 x (32 - (by64 (-19) &&& 31)).toNat
  rw [show (by64 (-19) &&& 31).toNat = 13 from by decide, show (32 - (by64 (-19) &&& 31)).toNat = 19 from by decide, UInt32.or_comm]
theorem rgt_22 (x : UInt32) : rgt x 22 = rot32 x (-22) := by
  show shr32 x 22 ||| shl32 x 10 = shl32 x (by64 (-22) &&& 31).toNat ||| shr32 x (32 - (by64 (-22) &&& 31)).toNat
  rw [show (by64 (-22) &&& 31).toNat = 10 from by decide, show (32 - (by64 (-22) &&& 31)).toNat = 22 from by decide, UInt32.or_comm]
theorem rgt_25 (x : UInt32) : rgt x 25 = rot32 x (-25) := by
  show shr32 x 25 ||| shl32 x 7 = shl32 x (by64 (-25) &&& 31).toNat ||| shr32 x (32 - (by64 (-25) &&& 31)).toNat
  rw [show (by64 (-25) &&& 31).toNat = 7 from by decide, show (32 - (by64 (-25) &&& 31)).toNat = 25 from by decide, UInt32.or_comm]
theorem next_eq (l : List UInt32) (t : Nat) : nextR l t = nextW l t := by
  unfold nextR nextW
  rw [rgt_7, rgt_18, rgt_17, rgt_19]
  ac_rfl
theorem sched_eq (s : List UInt8) : ∀ t, schedR s t = schedL s t
  | 0 => rfl
  | t + 1 => by rw [schedR, schedL, sched_eq s t, next_eq]
theorem round_eq (v : W8) (k w : UInt32) : roundR v k w = roundW v (w + k) := by
  have hT : rT v k w = roundT v (w + k) := by
    unfold rT roundT mixE
    rw [rgt_6, rgt_11, rgt_25, cho]
    ac_rfl
  have hU : rT v k w + rU v = roundT v (w + k) + mixA v.a + (v.a &&& v.b ^^^ v.a &&& v.c ^^^ v.b &&& v.c) := by
    unfold rU mixA
    rw [hT, rgt_2, rgt_13, rgt_22, maj, UInt32.add_assoc]
  unfold roundR roundW
  rw [hU, hT]
theorem v_eq (h : W8) (s : List UInt8) : ∀ t, vR kL h s t = vS h s t
  | 0 => rfl
  | t + 1 => by rw [vR, vS, v_eq h s t, round_eq, sched_eq]
theorem block_eq (h : W8) (s : List UInt8) : blockR kL h s = blockW h s := by
  unfold blockR blockW
  rw [v_eq]
  simp only [UInt32.add_comm]
end Go.Proofs.YtdkogjjebbdngaaDoor
