/-
  Layer 7: what is sealed, and opened; the laws that ask no document's answer.
-/
import Derived.Test.YthgemadhhkocgaaSz
import Derived.Test.YthgemadhhkocgaaAa
namespace Go.Proofs.Ythgemadhhkocgaa
open Go Go.RowKit
set_option maxHeartbeats 4000000
set_option linter.unusedSimpArgs false
set_option linter.unusedVariables false
theorem fillL_len (s : List UInt8) : (fillL s).length = s.length + (16 - s.length % 16) % 16 := by simp [fillL]
theorem fillL_le (s : List UInt8) : (fillL s).length ≤ s.length + 15 := by rw [fillL_len]; omega
theorem lenB_len (n : Nat) : (lenB n).length = 8 := rfl
theorem blkLen (k n : List UInt8) (c : UInt32) : (blockL k n c).length = 64 := stirL_len _ rfl
def tagA (k n w t : List UInt8) : List UInt8 := tagL ((blockL k n 0).take 32) (fillL w ++ fillL t ++ lenB w.length ++ lenB t.length)
theorem tagA_len (k n w t : List UInt8) : (tagA k n w t).length = 16 := tagL_len _ _
theorem keyB_blk (k n : List UInt8) (c : UInt32) : keyB ((blockL k n c).take 32) = true := by
  have h : ((blockL k n c).take 32).length = 32 := by rw [List.length_take, blkLen]; rfl
  simp [keyB, h]
def gd1 : Nat → Option Con := fun f => match f with
  | 21 => some blockC
  | 26 => some tagC
  | 56 => some fillC
  | 57 => some lengthC
  | _ => none
theorem gd1_ok : GaOk Try.prog gd1 := fun f con h => by
  unfold gd1 at h
  split at h
  · injection h with h; subst h; exact blockC_ok
  · injection h with h; subst h; exact tagC_ok
  · injection h with h; subst h; exact fillC_ok
  · injection h with h; subst h; exact lengthC_ok
  · cases h
set_option maxRecDepth 100000 in
theorem tagA_tri (k n w t : List UInt8) (hr : rightB k n = true) (hw : w.length ≤ 65536) (ht : t.length ≤ 65536) : Tri Try.prog 49 [.one (.str k), .one (.str n), .one (.str w), .one (.str t)] [] (.c (.one (.str (tagA k n w t)))) [] := by
  refine tri_of (envOf_ok gd1_ok 37) Try.func49 rfl rfl (rs := [.tmp 8]) rfl rfl (by simp [envOf]) rfl [] ?_
  have h1 := keyB_blk k n 0
  have h2 := blkLen k n 0
  have f1 := fillL_le w
  have f2 := fillL_le t
  simp only [envOf, gd1, blockC, tagC, fillC, lengthC, hr, h1, h2, tagA, go_sem, reduceCtorEq, ↓reduceIte, Nat.reduceAdd, Nat.reduceMul, Nat.reduceSub, Nat.reduceEqDiff, Nat.reduceLT, Nat.reduceBEq, Nat.reduceBNe, Nat.reduceLeDiff, Int.reduceLE, Int.reduceLT, Int.reduceToNat, Int.reduceEq, Int.reduceAdd, UInt8.reduceToNat, UInt32.reduceToNat, UInt64.reduceToNat, UInt8.reduceOfNat, UInt32.reduceOfNat, UInt64.reduceOfNat, Fin.isValue, Int.reduceSub, Int.reduceMul, Int.reduceNeg, Int.reduceMod, Int.reduceDiv, Int.reduceTDiv, Int.reduceTMod, Int.reduceBEq, Int.reduceBNe, Nat.reduceDiv, Nat.reducePow]
  simp only [List.length_append, lenB_len]
  exact ⟨by omega, by omega, by omega, by omega, by omega, by omega, rfl⟩
def tagAC : Con := con0 fun args => match args with
  | [.one (.str k), .one (.str n), .one (.str w), .one (.str t)] => some (.c (.one (.str (tagA k n w t))), [rightB k n = true, w.length ≤ 65536, t.length ≤ 65536])
  | _ => none
theorem tagAC_ok : ConOk Try.prog 49 tagAC := con0_ok Try.func49 rfl rfl fun args res ob h hob => by
  split at h
  · injection h with h; injection h with h1 h2; subst h1; subst h2; exact tagA_tri _ _ _ _ hob.1 hob.2.1 hob.2.2.1
  · cases h
def gd2 : Nat → Option Con := fun f => match f with
  | 23 => some turnC
  | 49 => some tagAC
  | 51 => some sameC
  | _ => none
theorem gd2_ok : GaOk Try.prog gd2 := fun f con h => by
  unfold gd2 at h
  split at h
  · injection h with h; subst h; exact turnC_ok
  · injection h with h; subst h; exact tagAC_ok
  · injection h with h; subst h; exact sameC_ok
  · cases h
def sealL (k n w s : List UInt8) : List UInt8 := turnL k n 1 s ++ tagA k n w (turnL k n 1 s)
theorem sealL_len (k n w s : List UInt8) : (sealL k n w s).length = s.length + 16 := by rw [sealL, List.length_append, tagA_len, turnL_len]
set_option maxRecDepth 100000 in
theorem seal_tri (k n w s : List UInt8) (hw : w.length ≤ 65536) (hs : s.length ≤ 65536) : Tri Try.prog 29 [.one (.str k), .one (.str n), .one (.str w), .one (.str s)] [] (.tup [.one (.str (if rightB k n = true then sealL k n w s else [])), .one (.num (if rightB k n = true then 0 else 1))]) [] := by
  refine tri_of (envOf_ok gd2_ok 28) Try.func29 rfl rfl (rs := [.tmp 8, .tmp 9]) rfl rfl (by simp [envOf]) rfl [] ?_
  cases hr : rightB k n with
  | false =>
    simp only [envOf, gd2, turnC, tagAC, sameC, hr, go_sem, reduceCtorEq, ↓reduceIte, Nat.reduceAdd, Nat.reduceMul, Nat.reduceSub, Nat.reduceEqDiff, Nat.reduceLT, Nat.reduceBEq, Nat.reduceBNe, Nat.reduceLeDiff, Int.reduceLE, Int.reduceLT, Int.reduceToNat, Int.reduceEq, Int.reduceAdd, UInt8.reduceToNat, UInt32.reduceToNat, UInt64.reduceToNat, UInt8.reduceOfNat, UInt32.reduceOfNat, UInt64.reduceOfNat, Fin.isValue, Int.reduceSub, Int.reduceMul, Int.reduceNeg, Int.reduceMod, Int.reduceDiv, Int.reduceTDiv, Int.reduceTMod, Int.reduceBEq, Int.reduceBNe, Nat.reduceDiv, Nat.reducePow]
    omega
  | true =>
    simp only [envOf, gd2, turnC, tagAC, sameC, hr, sealL, turnL_len, tagA_len, go_sem, reduceCtorEq, ↓reduceIte, Nat.reduceAdd, Nat.reduceMul, Nat.reduceSub, Nat.reduceEqDiff, Nat.reduceLT, Nat.reduceBEq, Nat.reduceBNe, Nat.reduceLeDiff, Int.reduceLE, Int.reduceLT, Int.reduceToNat, Int.reduceEq, Int.reduceAdd, UInt8.reduceToNat, UInt32.reduceToNat, UInt64.reduceToNat, UInt8.reduceOfNat, UInt32.reduceOfNat, UInt64.reduceOfNat, Fin.isValue, Int.reduceSub, Int.reduceMul, Int.reduceNeg, Int.reduceMod, Int.reduceDiv, Int.reduceTDiv, Int.reduceTMod, Int.reduceBEq, Int.reduceBNe, Nat.reduceDiv, Nat.reducePow]
    exact ⟨by omega, ⟨hw, hs⟩, by omega⟩
def sealC : Con := con0 fun args => match args with
  | [.one (.str k), .one (.str n), .one (.str w), .one (.str s)] => some (.tup [.one (.str (if rightB k n = true then sealL k n w s else [])), .one (.num (if rightB k n = true then 0 else 1))], [w.length ≤ 65536, s.length ≤ 65536])
  | _ => none
theorem sealC_ok : ConOk Try.prog 29 sealC := con0_ok Try.func29 rfl rfl fun args res ob h hob => by
  split at h
  · injection h with h; injection h with h1 h2; subst h1; subst h2; exact seal_tri _ _ _ _ hob.1 hob.2.1
  · cases h
def openB (k n w box : List UInt8) : Bool := box.drop (box.length - 16) == tagA k n w (box.take (box.length - 16))
def openS (k n w box : List UInt8) : List UInt8 := if rightB k n = true then if box.length < 16 then [] else if openB k n w box = true then turnL k n 1 (box.take (box.length - 16)) else [] else []
def openE (k n w box : List UInt8) : Int := if rightB k n = true then if box.length < 16 then 7 else if openB k n w box = true then 0 else 7 else 1
set_option maxRecDepth 100000 in
theorem open_tri (k n w box : List UInt8) (hw : w.length ≤ 65536) (hs : box.length ≤ 65536) : Tri Try.prog 31 [.one (.str k), .one (.str n), .one (.str w), .one (.str box)] [] (.tup [.one (.str (openS k n w box)), .one (.num (openE k n w box))]) [] := by
  refine tri_of (envOf_ok gd2_ok 51) Try.func31 rfl rfl (rs := [.tmp 8, .tmp 9]) rfl rfl (by simp [envOf]) rfl [] ?_
  cases hk : ((k.length : Int) == 32) with
  | false =>
    have hr : rightB k n = false := by simp only [rightB, hk, Bool.false_and]
    simp only [envOf, gd2, turnC, tagAC, sameC, hk, hr, openS, openE, go_sem, reduceCtorEq, ↓reduceIte, Nat.reduceAdd, Nat.reduceMul, Nat.reduceSub, Nat.reduceEqDiff, Nat.reduceLT, Nat.reduceBEq, Nat.reduceBNe, Nat.reduceLeDiff, Int.reduceLE, Int.reduceLT, Int.reduceToNat, Int.reduceEq, Int.reduceAdd, UInt8.reduceToNat, UInt32.reduceToNat, UInt64.reduceToNat, UInt8.reduceOfNat, UInt32.reduceOfNat, UInt64.reduceOfNat, Fin.isValue, Int.reduceSub, Int.reduceMul, Int.reduceNeg, Int.reduceMod, Int.reduceDiv, Int.reduceTDiv, Int.reduceTMod, Int.reduceBEq, Int.reduceBNe, Nat.reduceDiv, Nat.reducePow]
  | true =>
    cases hn : ((n.length : Int) == 12) with
    | false =>
      have hr : rightB k n = false := by simp only [rightB, hk, hn, Bool.and_false]
      simp only [envOf, gd2, turnC, tagAC, sameC, hk, hn, hr, openS, openE, go_sem, reduceCtorEq, ↓reduceIte, Nat.reduceAdd, Nat.reduceMul, Nat.reduceSub, Nat.reduceEqDiff, Nat.reduceLT, Nat.reduceBEq, Nat.reduceBNe, Nat.reduceLeDiff, Int.reduceLE, Int.reduceLT, Int.reduceToNat, Int.reduceEq, Int.reduceAdd, UInt8.reduceToNat, UInt32.reduceToNat, UInt64.reduceToNat, UInt8.reduceOfNat, UInt32.reduceOfNat, UInt64.reduceOfNat, Fin.isValue, Int.reduceSub, Int.reduceMul, Int.reduceNeg, Int.reduceMod, Int.reduceDiv, Int.reduceTDiv, Int.reduceTMod, Int.reduceBEq, Int.reduceBNe, Nat.reduceDiv, Nat.reducePow]
    | true =>
      have hr : rightB k n = true := by simp only [rightB, hk, hn]; rfl
      cases hb : decide ((box.length : Int) < 16) with
      | true =>
        have hb' : box.length < 16 := by have := of_decide_eq_true hb; omega
        simp only [envOf, gd2, turnC, tagAC, sameC, hk, hn, hr, hb, hb', openS, openE, go_sem, reduceCtorEq, ↓reduceIte, Nat.reduceAdd, Nat.reduceMul, Nat.reduceSub, Nat.reduceEqDiff, Nat.reduceLT, Nat.reduceBEq, Nat.reduceBNe, Nat.reduceLeDiff, Int.reduceLE, Int.reduceLT, Int.reduceToNat, Int.reduceEq, Int.reduceAdd, UInt8.reduceToNat, UInt32.reduceToNat, UInt64.reduceToNat, UInt8.reduceOfNat, UInt32.reduceOfNat, UInt64.reduceOfNat, Fin.isValue, Int.reduceSub, Int.reduceMul, Int.reduceNeg, Int.reduceMod, Int.reduceDiv, Int.reduceTDiv, Int.reduceTMod, Int.reduceBEq, Int.reduceBNe, Nat.reduceDiv, Nat.reducePow]
      | false =>
        have hb' : ¬ box.length < 16 := by have := of_decide_eq_false hb; omega
        have hw1 : IntKind.i64.wrap ((box.length : Int) - 16) = ((box.length - 16 : Nat) : Int) := by rw [IntKind.wrap_i64]; omega
        cases ho : openB k n w box with
        | false =>
          have ho' := ho
          unfold openB at ho'
          simp only [envOf, gd2, turnC, tagAC, sameC, hk, hn, hr, hb, hb', hw1, ho, ho', openS, openE, go_sem, reduceCtorEq, ↓reduceIte, Nat.reduceAdd, Nat.reduceMul, Nat.reduceSub, Nat.reduceEqDiff, Nat.reduceLT, Nat.reduceBEq, Nat.reduceBNe, Nat.reduceLeDiff, Int.reduceLE, Int.reduceLT, Int.reduceToNat, Int.reduceEq, Int.reduceAdd, UInt8.reduceToNat, UInt32.reduceToNat, UInt64.reduceToNat, UInt8.reduceOfNat, UInt32.reduceOfNat, UInt64.reduceOfNat, Fin.isValue, Int.reduceSub, Int.reduceMul, Int.reduceNeg, Int.reduceMod, Int.reduceDiv, Int.reduceTDiv, Int.reduceTMod, Int.reduceBEq, Int.reduceBNe, Nat.reduceDiv, Nat.reducePow]
          exact ⟨⟨by omega, by omega⟩, ⟨by omega, by omega⟩, rfl, ⟨hw, by rw [List.length_take]; omega⟩, by rw [List.length_drop]; omega⟩
        | true =>
          have ho' := ho
          unfold openB at ho'
          simp only [envOf, gd2, turnC, tagAC, sameC, hk, hn, hr, hb, hb', hw1, ho, ho', openS, openE, go_sem, reduceCtorEq, ↓reduceIte, Nat.reduceAdd, Nat.reduceMul, Nat.reduceSub, Nat.reduceEqDiff, Nat.reduceLT, Nat.reduceBEq, Nat.reduceBNe, Nat.reduceLeDiff, Int.reduceLE, Int.reduceLT, Int.reduceToNat, Int.reduceEq, Int.reduceAdd, UInt8.reduceToNat, UInt32.reduceToNat, UInt64.reduceToNat, UInt8.reduceOfNat, UInt32.reduceOfNat, UInt64.reduceOfNat, Fin.isValue, Int.reduceSub, Int.reduceMul, Int.reduceNeg, Int.reduceMod, Int.reduceDiv, Int.reduceTDiv, Int.reduceTMod, Int.reduceBEq, Int.reduceBNe, Nat.reduceDiv, Nat.reducePow]
          exact ⟨⟨by omega, by omega⟩, ⟨by omega, by omega⟩, rfl, ⟨hw, by rw [List.length_take]; omega⟩, by rw [List.length_drop]; omega, by rw [List.length_take]; omega⟩
def openC : Con := con0 fun args => match args with
  | [.one (.str k), .one (.str n), .one (.str w), .one (.str box)] => some (.tup [.one (.str (openS k n w box)), .one (.num (openE k n w box))], [w.length ≤ 65536, box.length ≤ 65536])
  | _ => none
theorem openC_ok : ConOk Try.prog 31 openC := con0_ok Try.func31 rfl rfl fun args res ob h hob => by
  split at h
  · injection h with h; injection h with h1 h2; subst h1; subst h2; exact open_tri _ _ _ _ hob.1 hob.2.1
  · cases h
theorem take_seal (k n w s : List UInt8) : (sealL k n w s).take s.length = turnL k n 1 s := by
  rw [sealL, List.take_left' (turnL_len k n 1 s)]
theorem drop_seal (k n w s : List UInt8) : (sealL k n w s).drop s.length = tagA k n w (turnL k n 1 s) := by
  rw [sealL, List.drop_left' (turnL_len k n 1 s)]
theorem open_seal (k n w s : List UInt8) (hr : rightB k n = true) : openS k n w (sealL k n w s) = s ∧ openE k n w (sealL k n w s) = 0 := by
  have hl := sealL_len k n w s
  have hb : openB k n w (sealL k n w s) = true := by
    unfold openB
    rw [hl, Nat.add_sub_cancel, take_seal, drop_seal]
    simp
  have h16 : ¬ (sealL k n w s).length < 16 := by omega
  simp only [openS, openE, hr, h16, hb, if_true, if_false]
  refine ⟨?_, trivial⟩
  rw [hl, Nat.add_sub_cancel, take_seal, turn_turn]
theorem open_turned (k n w s : List UInt8) (hr : rightB k n = true) (j : Nat) (hj : j < 16) (b : UInt8) (hb : b ≠ 0) :
    openS k n w ((sealL k n w s).set (s.length + j) ((sealL k n w s).getD (s.length + j) 0 ^^^ b)) = [] ∧ openE k n w ((sealL k n w s).set (s.length + j) ((sealL k n w s).getD (s.length + j) 0 ^^^ b)) = 7 := by
  have hl := sealL_len k n w s
  obtain ⟨x, hx⟩ : ∃ x, x = (sealL k n w s).set (s.length + j) ((sealL k n w s).getD (s.length + j) 0 ^^^ b) := ⟨_, rfl⟩
  rw [← hx]
  have hxl : x.length = s.length + 16 := by rw [hx, List.length_set, hl]
  have ht : x.take s.length = turnL k n 1 s := by
    rw [hx, List.take_set, take_seal, List.set_eq_of_length_le (by rw [turnL_len]; omega)]
  have hg : x.getD (s.length + j) 0 = (sealL k n w s).getD (s.length + j) 0 ^^^ b := by
    rw [hx, List.getD_eq_getElem?_getD, List.getElem?_set]
    simp [hl, hj]
  have hbad : openB k n w x = false := by
    unfold openB
    rw [hxl, Nat.add_sub_cancel, ht, ← drop_seal, beq_eq_false_iff_ne]
    intro e
    have e1 : (x.drop s.length).getD j 0 = ((sealL k n w s).drop s.length).getD j 0 := by rw [e]
    simp only [List.getD_eq_getElem?_getD, List.getElem?_drop] at e1
    rw [← List.getD_eq_getElem?_getD, ← List.getD_eq_getElem?_getD, hg] at e1
    exact hb (by simpa using (UInt8.xor_right_inj ((sealL k n w s).getD (s.length + j) 0)).1 (e1.trans (UInt8.xor_zero).symm))
  have h16 : ¬ x.length < 16 := by omega
  simp only [openS, openE, hr, h16, hbad, if_true, if_false]
  simp
theorem seal_open (k n w box : List UInt8) (h : openE k n w box = 0) : rightB k n = true ∧ sealL k n w (openS k n w box) = box ∧ (openS k n w box).length + 16 = box.length := by
  unfold openE at h
  split at h
  case isFalse => cases h
  rename_i hr
  split at h
  case isTrue => cases h
  rename_i h16
  split at h
  case isFalse => cases h
  rename_i hb
  have hs : openS k n w box = turnL k n 1 (box.take (box.length - 16)) := by simp only [openS, hr, h16, hb, if_true, if_false]
  refine ⟨hr, ?_, ?_⟩
  · rw [hs, sealL, turn_turn]
    unfold openB at hb
    rw [← eq_of_beq hb, List.take_append_drop]
  · rw [hs, turnL_len, List.length_take]; omega
theorem open_none (k n w box : List UInt8) (h : openE k n w box ≠ 0) : openS k n w box = [] := by
  unfold openE at h
  unfold openS
  split at h
  · rename_i hr
    rw [if_pos hr]
    split at h
    · rename_i h16; rw [if_pos h16]
    · rename_i h16
      rw [if_neg h16]
      split at h
      · exact (h rfl).elim
      · rename_i hb; rw [if_neg hb]
  · rename_i hr; rw [if_neg hr]
def gd3 : Nat → Option Con := fun f => match f with
  | 29 => some sealC
  | 31 => some openC
  | 23 => some turnC
  | _ => none
theorem gd3_ok : GaOk Try.prog gd3 := fun f con h => by
  unfold gd3 at h
  split at h
  · injection h with h; subst h; exact sealC_ok
  · injection h with h; subst h; exact openC_ok
  · injection h with h; subst h; exact turnC_ok
  · cases h
def keyA : List UInt8 := [48, 49, 50, 51, 52, 53, 54, 55, 56, 57, 97, 98, 99, 100, 101, 102, 48, 49, 50, 51, 52, 53, 54, 55, 56, 57, 97, 98, 99, 100, 101, 102]
theorem open_short (k n w box : List UInt8) (hr : rightB k n = true) (h : box.length < 16) : openS k n w box = [] ∧ openE k n w box = 7 := by
  simp only [openS, openE, hr, h, if_true]; simp
set_option maxRecDepth 100000 in
theorem aawake_tri : Tri Try.prog 28 [] [] (.c (.one (.bo true))) [] := by
  refine tri_of (envOf_ok gd3_ok 44) Try.func28 rfl rfl (rs := [.tmp 0]) rfl rfl (by simp [envOf]) rfl [] ?_
  have hr : rightB [48, 49, 50, 51, 52, 53, 54, 55, 56, 57, 97, 98, 99, 100, 101, 102, 48, 49, 50, 51, 52, 53, 54, 55, 56, 57, 97, 98, 99, 100, 101, 102] [48, 49, 50, 51, 52, 53, 54, 55, 56, 57, 97, 98] = true := by decide
  obtain ⟨e1, e2⟩ := open_seal [48, 49, 50, 51, 52, 53, 54, 55, 56, 57, 97, 98, 99, 100, 101, 102, 48, 49, 50, 51, 52, 53, 54, 55, 56, 57, 97, 98, 99, 100, 101, 102] [48, 49, 50, 51, 52, 53, 54, 55, 56, 57, 97, 98] [119, 105, 116, 104] [116, 101, 120, 116] hr
  have e3 := sealL_len [48, 49, 50, 51, 52, 53, 54, 55, 56, 57, 97, 98, 99, 100, 101, 102, 48, 49, 50, 51, 52, 53, 54, 55, 56, 57, 97, 98, 99, 100, 101, 102] [48, 49, 50, 51, 52, 53, 54, 55, 56, 57, 97, 98] [119, 105, 116, 104] [116, 101, 120, 116]
  simp only [List.length_cons, List.length_nil, Nat.reduceAdd] at e3
  obtain ⟨e4, e5⟩ := open_short [48, 49, 50, 51, 52, 53, 54, 55, 56, 57, 97, 98, 99, 100, 101, 102, 48, 49, 50, 51, 52, 53, 54, 55, 56, 57, 97, 98, 99, 100, 101, 102] [48, 49, 50, 51, 52, 53, 54, 55, 56, 57, 97, 98] [] ((sealL [48, 49, 50, 51, 52, 53, 54, 55, 56, 57, 97, 98, 99, 100, 101, 102, 48, 49, 50, 51, 52, 53, 54, 55, 56, 57, 97, 98, 99, 100, 101, 102] [48, 49, 50, 51, 52, 53, 54, 55, 56, 57, 97, 98] [119, 105, 116, 104] [116, 101, 120, 116]).take 3) hr (by rw [List.length_take]; omega)
  have hm : min (20 : Int) 3 = 3 := by decide
  simp only [envOf, gd3, sealC, openC, turnC, hr, e1, e2, e3, e4, e5, hm, go_sem, reduceCtorEq, ↓reduceIte, Nat.reduceAdd, Nat.reduceMul, Nat.reduceSub, Nat.reduceEqDiff, Nat.reduceLT, Nat.reduceBEq, Nat.reduceBNe, Nat.reduceLeDiff, Int.reduceLE, Int.reduceLT, Int.reduceToNat, Int.reduceEq, Int.reduceAdd, UInt8.reduceToNat, UInt32.reduceToNat, UInt64.reduceToNat, UInt8.reduceOfNat, UInt32.reduceOfNat, UInt64.reduceOfNat, Fin.isValue, Int.reduceSub, Int.reduceMul, Int.reduceNeg, Int.reduceMod, Int.reduceDiv, Int.reduceTDiv, Int.reduceTMod, Int.reduceBEq, Int.reduceBNe, Nat.reduceDiv, Nat.reducePow]
  rw [List.length_take]
  omega
def aawakeC : Con := con0 fun args => match args with
  | [] => some (.c (.one (.bo true)), [])
  | _ => none
theorem aawakeC_ok : ConOk Try.prog 28 aawakeC := con0_ok Try.func28 rfl rfl fun args res ob h hob => by
  split at h
  · injection h with h; injection h with h1 h2; subst h1; subst h2; exact aawake_tri
  · cases h
end Go.Proofs.Ythgemadhhkocgaa
