/-
  Layer 19: letters, heads, ends of lines, texts in texts.
-/
import Derived.Test.YtgfcdkbbkgamnaaDoorSz
import Derived.Test.YtgfcdkbbkgamnaaDoorQl
namespace Go.Proofs.YtgfcdkbbkgamnaaDoor
open Go Go.RowKit
set_option maxHeartbeats 4000000
set_option linter.unusedSimpArgs false
set_option linter.unusedVariables false
def qa0 : Nat → Option Con := fun f => match f with
  | _ => none
theorem qa0_ok : GaOkG Tryd.prog GM qa0 := fun f con h => by
  unfold qa0 at h
  split at h
  · cases h
def upTo' (f : UInt8 → UInt8) (s : List UInt8) (i : Nat) : List UInt8 := (s.take i).map f ++ s.drop i
theorem upTo_zero (f : UInt8 → UInt8) (s : List UInt8) : upTo' f s 0 = s := by simp [upTo']
theorem upTo_len (f : UInt8 → UInt8) (s : List UInt8) (i : Nat) : (upTo' f s i).length = s.length := by
  simp only [upTo', List.length_append, List.length_map, List.length_take, List.length_drop]; omega
theorem upTo_get (f : UInt8 → UInt8) (s : List UInt8) {i : Nat} (h : i < s.length) : (upTo' f s i).getD i 0 = s.getD i 0 := by
  have hl : ((s.take i).map f).length = i := by rw [List.length_map, List.length_take]; omega
  rw [List.getD_eq_getElem?_getD, List.getD_eq_getElem?_getD, upTo', List.getElem?_append_right (by omega), hl, Nat.sub_self, List.getElem?_drop, Nat.add_zero]
theorem upTo_set (f : UInt8 → UInt8) (s : List UInt8) {i : Nat} (h : i < s.length) : (upTo' f s i).set i (f (s.getD i 0)) = upTo' f s (i + 1) := by
  have hl : ((s.take i).map f).length = i := by rw [List.length_map, List.length_take]; omega
  have hd : s.drop i = s.getD i 0 :: s.drop (i + 1) := by
    rw [List.drop_eq_getElem_cons h]; simp [List.getD_eq_getElem?_getD, h]
  unfold upTo'
  rw [List.set_append_right _ _ (by omega), hl, Nat.sub_self, hd, List.set_cons_zero, List.take_add_one, List.map_append, List.append_assoc]
  congr 1
  simp [List.getD_eq_getElem?_getD, h]
theorem upTo_same (f : UInt8 → UInt8) (s : List UInt8) {i : Nat} (h : i < s.length) (he : f (s.getD i 0) = s.getD i 0) : upTo' f s i = upTo' f s (i + 1) := by
  rw [← upTo_set f s h, he, ← upTo_get f s h]
  have hl := upTo_len f s i
  apply List.ext_getElem?
  intro j
  rw [List.getElem?_set]
  split
  · rename_i e; subst e; simp [List.getD_eq_getElem?_getD, hl, h]
  · rfl
theorem upTo_all (f : UInt8 → UInt8) (s : List UInt8) {i : Nat} (h : s.length ≤ i) : upTo' f s i = s.map f := by
  unfold upTo'
  rw [List.take_of_length_le h, List.drop_eq_nil_of_le h, List.append_nil]
def upInv (s : List UInt8) (i : Nat) : St := ⟨[(3, .c (.one (.sl 500 0 1 s.length))), (8, .c (.one (.sl 500 0 1 s.length))), (9, .c (.one (.num s.length))), (10, .c (.one (.num i)))], [(500, ⟨.arr UInt8 u8L (upTo' upc s i), true⟩)]⟩
set_option maxRecDepth 100000 in
theorem upper_tri (s : List UInt8) (hs : s.length ≤ 1048576) : TriG Tryd.prog GM 68 [.one (.str s)] [] (.c (.one (.str (upL s)))) [] := by
  refine tri_of (envM_ok qa0_ok 30) Tryd.func68 rfl rfl (rs := [.tmp 2]) rfl rfl (by simp [envM]) rfl [] ?_
  simp only [envM, qa0, go_sem, reduceCtorEq, ↓reduceIte, Nat.reduceAdd, Nat.reduceMul, Nat.reduceSub, Nat.reduceEqDiff, Nat.reduceLT, Nat.reduceBEq, Nat.reduceBNe, Nat.reduceLeDiff, Int.reduceLE, Int.reduceLT, Int.reduceToNat, Int.reduceEq, Int.reduceAdd, UInt8.reduceToNat, UInt32.reduceToNat, UInt64.reduceToNat, UInt8.reduceOfNat, UInt32.reduceOfNat, UInt64.reduceOfNat, Fin.isValue, Int.reduceSub, Int.reduceMul, Int.reduceNeg, Int.reduceMod, Int.reduceDiv, Int.reduceTDiv, Int.reduceTMod, Int.reduceBEq, Int.reduceBNe, Nat.reduceDiv, Nat.reducePow]
  refine loop_inv (envM_ok qa0_ok 30) (upInv s) (fun i => i ≤ s.length) (fun i => s.length - i) 0 [(500, 20008)] (Nat.zero_le _) ?_ ?_
  · simp only [upInv, upTo_zero, go_sem, reduceCtorEq, ↓reduceIte, Nat.reduceAdd, Nat.reduceMul, Nat.reduceSub, Nat.reduceEqDiff, Nat.reduceLT, Nat.reduceBEq, Nat.reduceBNe, Nat.reduceLeDiff, Int.reduceLE, Int.reduceLT, Int.reduceToNat, Int.reduceEq, Int.reduceAdd, UInt8.reduceToNat, UInt32.reduceToNat, UInt64.reduceToNat, UInt8.reduceOfNat, UInt32.reduceOfNat, UInt64.reduceOfNat, Fin.isValue, Int.reduceSub, Int.reduceMul, Int.reduceNeg, Int.reduceMod, Int.reduceDiv, Int.reduceTDiv, Int.reduceTMod, Int.reduceBEq, Int.reduceBNe, Nat.reduceDiv, Nat.reducePow]
  · intro i hi
    have hw : IntKind.i64.wrap ((i : Int) + 1) = ((i + 1 : Nat) : Int) := by rw [IntKind.wrap_i64]; omega
    have hl := upTo_len upc s i
    simp only [envM, qa0, upInv, hw, hl, go_sem, reduceCtorEq, ↓reduceIte, Nat.reduceAdd, Nat.reduceMul, Nat.reduceSub, Nat.reduceEqDiff, Nat.reduceLT, Nat.reduceBEq, Nat.reduceBNe, Nat.reduceLeDiff, Int.reduceLE, Int.reduceLT, Int.reduceToNat, Int.reduceEq, Int.reduceAdd, UInt8.reduceToNat, UInt32.reduceToNat, UInt64.reduceToNat, UInt8.reduceOfNat, UInt32.reduceOfNat, UInt64.reduceOfNat, Fin.isValue, Int.reduceSub, Int.reduceMul, Int.reduceNeg, Int.reduceMod, Int.reduceDiv, Int.reduceTDiv, Int.reduceTMod, Int.reduceBEq, Int.reduceBNe, Nat.reduceDiv, Nat.reducePow]
    refine br (fun h => ?_) fun h => ?_
    · have hlt : i < s.length := by have := of_decide_eq_true h; omega
      have hg := upTo_get upc s hlt
      cases h1 : decide (97 ≤ s.getD i 0) with
      | false =>
        have he : upc (s.getD i 0) = s.getD i 0 := by unfold upc; rw [if_neg (fun e => of_decide_eq_false h1 e.1)]
        have hu := upTo_same upc s hlt he
        simp only [envM, qa0, h, h1, hw, hl, hg, go_sem, reduceCtorEq, ↓reduceIte, Nat.reduceAdd, Nat.reduceMul, Nat.reduceSub, Nat.reduceEqDiff, Nat.reduceLT, Nat.reduceBEq, Nat.reduceBNe, Nat.reduceLeDiff, Int.reduceLE, Int.reduceLT, Int.reduceToNat, Int.reduceEq, Int.reduceAdd, UInt8.reduceToNat, UInt32.reduceToNat, UInt64.reduceToNat, UInt8.reduceOfNat, UInt32.reduceOfNat, UInt64.reduceOfNat, Fin.isValue, Int.reduceSub, Int.reduceMul, Int.reduceNeg, Int.reduceMod, Int.reduceDiv, Int.reduceTDiv, Int.reduceTMod, Int.reduceBEq, Int.reduceBNe, Nat.reduceDiv, Nat.reducePow]
        repeat' apply And.intro
        rotate_right
        · refine again (i + 1) [] (by omega) (by omega) ?_
          simp only [envM, qa0, upInv, hu, hl, go_sem, reduceCtorEq, ↓reduceIte, Nat.reduceAdd, Nat.reduceMul, Nat.reduceSub, Nat.reduceEqDiff, Nat.reduceLT, Nat.reduceBEq, Nat.reduceBNe, Nat.reduceLeDiff, Int.reduceLE, Int.reduceLT, Int.reduceToNat, Int.reduceEq, Int.reduceAdd, UInt8.reduceToNat, UInt32.reduceToNat, UInt64.reduceToNat, UInt8.reduceOfNat, UInt32.reduceOfNat, UInt64.reduceOfNat, Fin.isValue, Int.reduceSub, Int.reduceMul, Int.reduceNeg, Int.reduceMod, Int.reduceDiv, Int.reduceTDiv, Int.reduceTMod, Int.reduceBEq, Int.reduceBNe, Nat.reduceDiv, Nat.reducePow]
        all_goals first | omega | exact rfl | exact id
      | true =>
        cases h2 : decide (s.getD i 0 ≤ 122) with
        | false =>
          have he : upc (s.getD i 0) = s.getD i 0 := by unfold upc; rw [if_neg (fun e => of_decide_eq_false h2 e.2)]
          have hu := upTo_same upc s hlt he
          simp only [envM, qa0, h, h1, h2, hw, hl, hg, go_sem, reduceCtorEq, ↓reduceIte, Nat.reduceAdd, Nat.reduceMul, Nat.reduceSub, Nat.reduceEqDiff, Nat.reduceLT, Nat.reduceBEq, Nat.reduceBNe, Nat.reduceLeDiff, Int.reduceLE, Int.reduceLT, Int.reduceToNat, Int.reduceEq, Int.reduceAdd, UInt8.reduceToNat, UInt32.reduceToNat, UInt64.reduceToNat, UInt8.reduceOfNat, UInt32.reduceOfNat, UInt64.reduceOfNat, Fin.isValue, Int.reduceSub, Int.reduceMul, Int.reduceNeg, Int.reduceMod, Int.reduceDiv, Int.reduceTDiv, Int.reduceTMod, Int.reduceBEq, Int.reduceBNe, Nat.reduceDiv, Nat.reducePow]
          repeat' apply And.intro
          rotate_right
          · refine again (i + 1) [] (by omega) (by omega) ?_
            simp only [envM, qa0, upInv, hu, hl, go_sem, reduceCtorEq, ↓reduceIte, Nat.reduceAdd, Nat.reduceMul, Nat.reduceSub, Nat.reduceEqDiff, Nat.reduceLT, Nat.reduceBEq, Nat.reduceBNe, Nat.reduceLeDiff, Int.reduceLE, Int.reduceLT, Int.reduceToNat, Int.reduceEq, Int.reduceAdd, UInt8.reduceToNat, UInt32.reduceToNat, UInt64.reduceToNat, UInt8.reduceOfNat, UInt32.reduceOfNat, UInt64.reduceOfNat, Fin.isValue, Int.reduceSub, Int.reduceMul, Int.reduceNeg, Int.reduceMod, Int.reduceDiv, Int.reduceTDiv, Int.reduceTMod, Int.reduceBEq, Int.reduceBNe, Nat.reduceDiv, Nat.reducePow]
          all_goals first | omega | exact rfl | exact id
        | true =>
          have he : upc (s.getD i 0) = s.getD i 0 - 97 + 65 := by unfold upc; rw [if_pos ⟨of_decide_eq_true h1, of_decide_eq_true h2⟩]
          have hu := upTo_set upc s hlt
          rw [he] at hu
          simp only [envM, qa0, h, h1, h2, hw, hl, hg, hu, go_sem, reduceCtorEq, ↓reduceIte, Nat.reduceAdd, Nat.reduceMul, Nat.reduceSub, Nat.reduceEqDiff, Nat.reduceLT, Nat.reduceBEq, Nat.reduceBNe, Nat.reduceLeDiff, Int.reduceLE, Int.reduceLT, Int.reduceToNat, Int.reduceEq, Int.reduceAdd, UInt8.reduceToNat, UInt32.reduceToNat, UInt64.reduceToNat, UInt8.reduceOfNat, UInt32.reduceOfNat, UInt64.reduceOfNat, Fin.isValue, Int.reduceSub, Int.reduceMul, Int.reduceNeg, Int.reduceMod, Int.reduceDiv, Int.reduceTDiv, Int.reduceTMod, Int.reduceBEq, Int.reduceBNe, Nat.reduceDiv, Nat.reducePow]
          repeat' apply And.intro
          rotate_right
          · refine again (i + 1) [] (by omega) (by omega) ?_
            simp only [envM, qa0, upInv, hl, go_sem, reduceCtorEq, ↓reduceIte, Nat.reduceAdd, Nat.reduceMul, Nat.reduceSub, Nat.reduceEqDiff, Nat.reduceLT, Nat.reduceBEq, Nat.reduceBNe, Nat.reduceLeDiff, Int.reduceLE, Int.reduceLT, Int.reduceToNat, Int.reduceEq, Int.reduceAdd, UInt8.reduceToNat, UInt32.reduceToNat, UInt64.reduceToNat, UInt8.reduceOfNat, UInt32.reduceOfNat, UInt64.reduceOfNat, Fin.isValue, Int.reduceSub, Int.reduceMul, Int.reduceNeg, Int.reduceMod, Int.reduceDiv, Int.reduceTDiv, Int.reduceTMod, Int.reduceBEq, Int.reduceBNe, Nat.reduceDiv, Nat.reducePow]
          all_goals first | omega | exact rfl | exact id
    · have hge : s.length ≤ i := by have := of_decide_eq_false h; omega
      have hu := upTo_all upc s hge
      have hup : upL s = s.map upc := rfl
      simp only [envM, qa0, h, hu, hup, go_sem, reduceCtorEq, ↓reduceIte, Nat.reduceAdd, Nat.reduceMul, Nat.reduceSub, Nat.reduceEqDiff, Nat.reduceLT, Nat.reduceBEq, Nat.reduceBNe, Nat.reduceLeDiff, Int.reduceLE, Int.reduceLT, Int.reduceToNat, Int.reduceEq, Int.reduceAdd, UInt8.reduceToNat, UInt32.reduceToNat, UInt64.reduceToNat, UInt8.reduceOfNat, UInt32.reduceOfNat, UInt64.reduceOfNat, Fin.isValue, Int.reduceSub, Int.reduceMul, Int.reduceNeg, Int.reduceMod, Int.reduceDiv, Int.reduceTDiv, Int.reduceTMod, Int.reduceBEq, Int.reduceBNe, Nat.reduceDiv, Nat.reducePow]
      all_goals exact ⟨by simp, by rw [List.take_of_length_le (by simp)]⟩
def upperC : Con := con0 fun args => match args with
  | [.one (.str s)] => some (.c (.one (.str (upL s))), [s.length ≤ 1048576])
  | _ => none
theorem upperC_ok : ConOkG Tryd.prog GM 68 upperC := con0_okG Tryd.func68 rfl rfl fun args res ob h hob => by
  split at h
  · injection h with h; injection h with h1 h2; subst h1; subst h2; exact upper_tri _ hob.1
  · cases h
def qa1 : Nat → Option Con := fun f => match f with
  | 106 => some qIndexByteC
  | _ => none
theorem qa1_ok : GaOkG Tryd.prog GM qa1 := fun f con h => by
  unfold qa1 at h
  split at h
  · injection h with h; subst h; exact qIndexByteC_ok
  · cases h
def blk (c : UInt8) : Bool := decide (0 ≤ Lib.indexByte [32, 9] c)
def contL : List UInt8 → Bool
  | [] => false
  | c :: _ => blk c
set_option maxRecDepth 100000 in
theorem continues_tri (s : List UInt8) (hs : s.length ≤ 1048576) : TriG Tryd.prog GM 92 [.one (.str s)] [] (.c (.one (.bo (contL s)))) [] := by
  refine tri_of (envM_ok qa1_ok 11) Tryd.func92 rfl rfl (rs := [.tmp 2]) rfl rfl (by simp [envM]) rfl [] ?_
  cases s with
  | nil =>
    have e1 : contL [] = false := rfl
    have e2 : (([] : List UInt8) == []) = true := rfl
    simp only [envM, qa1, qIndexByteC, e1, e2, go_sem, reduceCtorEq, ↓reduceIte, Nat.reduceAdd, Nat.reduceMul, Nat.reduceSub, Nat.reduceEqDiff, Nat.reduceLT, Nat.reduceBEq, Nat.reduceBNe, Nat.reduceLeDiff, Int.reduceLE, Int.reduceLT, Int.reduceToNat, Int.reduceEq, Int.reduceAdd, UInt8.reduceToNat, UInt32.reduceToNat, UInt64.reduceToNat, UInt8.reduceOfNat, UInt32.reduceOfNat, UInt64.reduceOfNat, Fin.isValue, Int.reduceSub, Int.reduceMul, Int.reduceNeg, Int.reduceMod, Int.reduceDiv, Int.reduceTDiv, Int.reduceTMod, Int.reduceBEq, Int.reduceBNe, Nat.reduceDiv, Nat.reducePow]
  | cons c l =>
    have e1 : contL (c :: l) = decide (0 ≤ Lib.indexByte [32, 9] c) := rfl
    have e2 : ((c :: l : List UInt8) == []) = false := rfl
    have e3 : (c :: l : List UInt8).getD 0 0 = c := rfl
    simp only [envM, qa1, qIndexByteC, e1, e2, e3, go_sem, reduceCtorEq, ↓reduceIte, Nat.reduceAdd, Nat.reduceMul, Nat.reduceSub, Nat.reduceEqDiff, Nat.reduceLT, Nat.reduceBEq, Nat.reduceBNe, Nat.reduceLeDiff, Int.reduceLE, Int.reduceLT, Int.reduceToNat, Int.reduceEq, Int.reduceAdd, UInt8.reduceToNat, UInt32.reduceToNat, UInt64.reduceToNat, UInt8.reduceOfNat, UInt32.reduceOfNat, UInt64.reduceOfNat, Fin.isValue, Int.reduceSub, Int.reduceMul, Int.reduceNeg, Int.reduceMod, Int.reduceDiv, Int.reduceTDiv, Int.reduceTMod, Int.reduceBEq, Int.reduceBNe, Nat.reduceDiv, Nat.reducePow]
    all_goals omega
def continuesC : Con := con0 fun args => match args with
  | [.one (.str s)] => some (.c (.one (.bo (contL s))), [s.length ≤ 1048576])
  | _ => none
theorem continuesC_ok : ConOkG Tryd.prog GM 92 continuesC := con0_okG Tryd.func92 rfl rfl fun args res ob h hob => by
  split at h
  · injection h with h; injection h with h1 h2; subst h1; subst h2; exact continues_tri _ hob.1
  · cases h
def qa2 : Nat → Option Con := fun f => match f with
  | 68 => some upperC
  | 67 => some qContainsC
  | _ => none
theorem qa2_ok : GaOkG Tryd.prog GM qa2 := fun f con h => by
  unfold qa2 at h
  split at h
  · injection h with h; subst h; exact upperC_ok
  · injection h with h; subst h; exact qContainsC_ok
  · cases h
set_option maxRecDepth 100000 in
theorem has_tri (s t : List UInt8) (hs : s.length ≤ 1048576) (ht : t.length ≤ 1048576) : TriG Tryd.prog GM 41 [.one (.str s), .one (.str t)] [] (.c (.one (.bo (Lib.contains (upL s) (upL t))))) [] := by
  refine tri_of (envM_ok qa2_ok 10) Tryd.func41 rfl rfl (rs := [.tmp 4]) rfl rfl (by simp [envM]) rfl [] ?_
  have h1 := upL_len s
  simp only [envM, qa2, upperC, qContainsC, h1, go_sem, reduceCtorEq, ↓reduceIte, Nat.reduceAdd, Nat.reduceMul, Nat.reduceSub, Nat.reduceEqDiff, Nat.reduceLT, Nat.reduceBEq, Nat.reduceBNe, Nat.reduceLeDiff, Int.reduceLE, Int.reduceLT, Int.reduceToNat, Int.reduceEq, Int.reduceAdd, UInt8.reduceToNat, UInt32.reduceToNat, UInt64.reduceToNat, UInt8.reduceOfNat, UInt32.reduceOfNat, UInt64.reduceOfNat, Fin.isValue, Int.reduceSub, Int.reduceMul, Int.reduceNeg, Int.reduceMod, Int.reduceDiv, Int.reduceTDiv, Int.reduceTMod, Int.reduceBEq, Int.reduceBNe, Nat.reduceDiv, Nat.reducePow]
  ((repeat' apply And.intro) <;> first | omega | exact rfl | exact id)
def hasC : Con := con0 fun args => match args with
  | [.one (.str s), .one (.str t)] => some (.c (.one (.bo (Lib.contains (upL s) (upL t)))), [s.length ≤ 1048576, t.length ≤ 1048576])
  | _ => none
theorem hasC_ok : ConOkG Tryd.prog GM 41 hasC := con0_okG Tryd.func41 rfl rfl fun args res ob h hob => by
  split at h
  · injection h with h; injection h with h1 h2; subst h1; subst h2; exact has_tri _ _ hob.1 hob.2.1
  · cases h
def qa3 : Nat → Option Con := fun f => match f with
  | 66 => some qCountC
  | _ => none
theorem qa3_ok : GaOkG Tryd.prog GM qa3 := fun f con h => by
  unfold qa3 at h
  split at h
  · injection h with h; subst h; exact qCountC_ok
  · cases h
set_option maxRecDepth 100000 in
theorem lines_tri (s : List UInt8) (hs : s.length ≤ 1048576) : TriG Tryd.prog GM 39 [.one (.str s)] [] (.c (.one (.num (crs s : Nat)))) [] := by
  refine tri_of (envM_ok qa3_ok 5) Tryd.func39 rfl rfl (rs := [.tmp 2]) rfl rfl (by simp [envM]) rfl [] ?_
  have h1 := count_crs s
  simp only [envM, qa3, qCountC, h1, go_sem, reduceCtorEq, ↓reduceIte, Nat.reduceAdd, Nat.reduceMul, Nat.reduceSub, Nat.reduceEqDiff, Nat.reduceLT, Nat.reduceBEq, Nat.reduceBNe, Nat.reduceLeDiff, Int.reduceLE, Int.reduceLT, Int.reduceToNat, Int.reduceEq, Int.reduceAdd, UInt8.reduceToNat, UInt32.reduceToNat, UInt64.reduceToNat, UInt8.reduceOfNat, UInt32.reduceOfNat, UInt64.reduceOfNat, Fin.isValue, Int.reduceSub, Int.reduceMul, Int.reduceNeg, Int.reduceMod, Int.reduceDiv, Int.reduceTDiv, Int.reduceTMod, Int.reduceBEq, Int.reduceBNe, Nat.reduceDiv, Nat.reducePow]
  ((repeat' apply And.intro) <;> first | omega | exact rfl | exact id)
def linesC : Con := con0 fun args => match args with
  | [.one (.str s)] => some (.c (.one (.num (crs s : Nat))), [s.length ≤ 1048576])
  | _ => none
theorem linesC_ok : ConOkG Tryd.prog GM 39 linesC := con0_okG Tryd.func39 rfl rfl fun args res ob h hob => by
  split at h
  · injection h with h; injection h with h1 h2; subst h1; subst h2; exact lines_tri _ hob.1
  · cases h
def qa4 : Nat → Option Con := fun f => match f with
  | 64 => some qPrefixC
  | 65 => some qIndexC
  | _ => none
theorem qa4_ok : GaOkG Tryd.prog GM qa4 := fun f con h => by
  unfold qa4 at h
  split at h
  · injection h with h; subst h; exact qPrefixC_ok
  · injection h with h; subst h; exact qIndexC_ok
  · cases h
set_option maxRecDepth 100000 in
theorem split_tri (s : List UInt8) (hs : s.length ≤ 1048576) : TriG Tryd.prog GM 37 [.one (.str s)] [] (.tup [.one (.str (s.take (headN s))), .one (.str (s.drop (headN s)))]) [] := by
  refine tri_of (envM_ok qa4_ok 22) Tryd.func37 rfl rfl (rs := [.tmp 2, .tmp 3]) rfl rfl (by simp [envM]) rfl [] ?_
  cases h0 : ([13, 10] : List UInt8).isPrefixOf s with
  | true =>
    have e0 : headN s = 2 := by unfold headN; rw [if_pos h0]
    have hle := headN_le s
    have e1 : s.take 2 = [13, 10] := by
      obtain ⟨t, rfl⟩ := List.isPrefixOf_iff_prefix.1 h0
      rfl
    simp only [envM, qa4, qPrefixC, qIndexC, h0, e0, e1, go_sem, reduceCtorEq, ↓reduceIte, Nat.reduceAdd, Nat.reduceMul, Nat.reduceSub, Nat.reduceEqDiff, Nat.reduceLT, Nat.reduceBEq, Nat.reduceBNe, Nat.reduceLeDiff, Int.reduceLE, Int.reduceLT, Int.reduceToNat, Int.reduceEq, Int.reduceAdd, UInt8.reduceToNat, UInt32.reduceToNat, UInt64.reduceToNat, UInt8.reduceOfNat, UInt32.reduceOfNat, UInt64.reduceOfNat, Fin.isValue, Int.reduceSub, Int.reduceMul, Int.reduceNeg, Int.reduceMod, Int.reduceDiv, Int.reduceTDiv, Int.reduceTMod, Int.reduceBEq, Int.reduceBNe, Nat.reduceDiv, Nat.reducePow]
    all_goals ((repeat' apply And.intro) <;> first | omega | exact rfl | exact id)
  | false =>
    cases h1 : decide (Lib.index s [13, 10, 13, 10] < 0) with
    | true =>
      have e0 : headN s = s.length := by unfold headN; rw [if_neg (by rw [h0]; simp), if_pos (of_decide_eq_true h1)]
      have e1 : s.take s.length = s := List.take_length
      have e2 : s.drop s.length = [] := List.drop_length
      simp only [envM, qa4, qPrefixC, qIndexC, h0, h1, e0, e1, e2, go_sem, reduceCtorEq, ↓reduceIte, Nat.reduceAdd, Nat.reduceMul, Nat.reduceSub, Nat.reduceEqDiff, Nat.reduceLT, Nat.reduceBEq, Nat.reduceBNe, Nat.reduceLeDiff, Int.reduceLE, Int.reduceLT, Int.reduceToNat, Int.reduceEq, Int.reduceAdd, UInt8.reduceToNat, UInt32.reduceToNat, UInt64.reduceToNat, UInt8.reduceOfNat, UInt32.reduceOfNat, UInt64.reduceOfNat, Fin.isValue, Int.reduceSub, Int.reduceMul, Int.reduceNeg, Int.reduceMod, Int.reduceDiv, Int.reduceTDiv, Int.reduceTMod, Int.reduceBEq, Int.reduceBNe, Nat.reduceDiv, Nat.reducePow]
      all_goals omega
    | false =>
      have hk := of_decide_eq_false h1
      have e0 : headN s = (Lib.index s [13, 10, 13, 10]).toNat + 4 := by unfold headN; rw [if_neg (by rw [h0]; simp), if_neg hk]
      have hle := headN_le s
      obtain ⟨k, hk'⟩ : ∃ k : Nat, Lib.index s [13, 10, 13, 10] = k := ⟨(Lib.index s [13, 10, 13, 10]).toNat, by omega⟩
      rw [hk', Int.toNat_natCast] at e0
      have hw : IntKind.i64.wrap ((k : Int) + 4) = ((k + 4 : Nat) : Int) := by rw [IntKind.wrap_i64]; omega
      have h2 : decide ((k : Int) < 0) = false := decide_eq_false (by omega)
      simp only [envM, qa4, qPrefixC, qIndexC, h0, hk', h2, hw, e0, go_sem, reduceCtorEq, ↓reduceIte, Nat.reduceAdd, Nat.reduceMul, Nat.reduceSub, Nat.reduceEqDiff, Nat.reduceLT, Nat.reduceBEq, Nat.reduceBNe, Nat.reduceLeDiff, Int.reduceLE, Int.reduceLT, Int.reduceToNat, Int.reduceEq, Int.reduceAdd, UInt8.reduceToNat, UInt32.reduceToNat, UInt64.reduceToNat, UInt8.reduceOfNat, UInt32.reduceOfNat, UInt64.reduceOfNat, Fin.isValue, Int.reduceSub, Int.reduceMul, Int.reduceNeg, Int.reduceMod, Int.reduceDiv, Int.reduceTDiv, Int.reduceTMod, Int.reduceBEq, Int.reduceBNe, Nat.reduceDiv, Nat.reducePow]
      refine ⟨by omega, ⟨by omega, by omega⟩, ⟨by omega, by omega⟩, rfl⟩
def splitC : Con := con0 fun args => match args with
  | [.one (.str s)] => some (.tup [.one (.str (s.take (headN s))), .one (.str (s.drop (headN s)))], [s.length ≤ 1048576])
  | _ => none
theorem splitC_ok : ConOkG Tryd.prog GM 37 splitC := con0_okG Tryd.func37 rfl rfl fun args res ob h hob => by
  split at h
  · injection h with h; injection h with h1 h2; subst h1; subst h2; exact split_tri _ hob.1
  · cases h
end Go.Proofs.YtgfcdkbbkgamnaaDoor
