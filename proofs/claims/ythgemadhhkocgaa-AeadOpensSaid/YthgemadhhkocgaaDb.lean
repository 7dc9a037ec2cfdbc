/-
  The document's digits to the base 256: numbers, sums, products.
-/
import Derived.Test.YthgemadhhkocgaaSz
import Derived.Test.YthgemadhhkocgaaDa
namespace Go.Proofs.Ythgemadhhkocgaa
open Go Go.RowKit
set_option maxHeartbeats 4000000
set_option linter.unusedSimpArgs false
set_option linter.unusedVariables false
theorem add_go {B : Nat} (hB : 1 < B) {a b : List Nat} (ha : dlt B a) (hb : dlt B b) {i : Nat} (hi : i ≤ addLen B a b) (h : i < a.length ∨ i < b.length ∨ 0 < (addG B a b i).2) : i + 1 ≤ addLen B a b := by
  have hc := addLen_car hB ha hb
  rcases Nat.lt_or_ge i (addLen B a b) with h1 | h1
  · exact h1
  · have e : i = addLen B a b := by omega
    obtain ⟨h2, h3⟩ := addLen_bd B a b
    rw [← e] at hc
    omega
theorem add_end {B : Nat} {a b : List Nat} {i : Nat} (hi : i ≤ addLen B a b) (h1 : a.length ≤ i) (h2 : b.length ≤ i) (h3 : (addG B a b i).2 = 0) : i = addLen B a b := by
  unfold addLen at hi ⊢
  split
  · rename_i h; rw [if_pos h] at hi; omega
  · rename_i h
    rw [if_neg h] at hi
    by_cases e : i = max a.length b.length
    · rw [← e] at h; exact (h h3).elim
    · omega
theorem getD_out {l : List Nat} {i : Nat} (h : l.length ≤ i) : l.getD i 0 = 0 := by
  rw [List.getD_eq_getElem?_getD, List.getElem?_eq_none h]; rfl
def natsB (s : List UInt8) : List Nat := s.map (·.toNat)
theorem natsB_len (s : List UInt8) : (natsB s).length = s.length := by simp [natsB]
theorem natsB_succ (s : List UInt8) (i : Nat) (h : i < s.length) : (natsB s).take (i + 1) = (natsB s).take i ++ [(s.getD i 0).toNat] := by
  rw [List.take_add_one, List.getD_eq_getElem?_getD]
  simp [natsB, h]
def numInv (s : List UInt8) : Nat → St
  | 0 => ⟨[(0, .c (.one (.str s))), (3, .c (.one (.val (.slice none 0 0)))), (4, .c (.one (.num 0)))], []⟩
  | i + 1 => ⟨[(0, .c (.one (.str s))), (3, .c (.one (.sl 500 0 1 (i + 1)))), (4, .c (.one (.num (i + 1 : Nat))))], [(500, ⟨.arr Nat natL ((natsB s).take (i + 1)), true⟩)]⟩
set_option maxRecDepth 100000 in
theorem number_tri (s : List UInt8) (h0 : 0 < s.length) (h1 : s.length ≤ 1000) : Tri Try.prog 45 [.one (.str s)] [] (.c (.one (.sl 0 0 1 s.length))) [(0, ⟨.arr Nat natL (natsB s), true⟩)] := by
  refine tri_of (envR_ok ga0_ok 19 []) Try.func45 rfl rfl (rs := [.tmp 2]) rfl rfl (by simp [envR]) rfl [(0, 500)] ?_
  simp only [envR, con0, conN0, conN1, conN2, natsOf_arr, rowOf_arr, natsOf_cells, rowOf_cells, toN, natL_st, natL_d, natL_enc, natL_up, ga0, go_sem, reduceCtorEq, ↓reduceIte, Nat.reduceAdd, Nat.reduceMul, Nat.reduceSub, Nat.reduceEqDiff, Nat.reduceLT, Nat.reduceBEq, Nat.reduceBNe, Nat.reduceLeDiff, Int.reduceLE, Int.reduceLT, Int.reduceToNat, Int.reduceEq, Int.reduceAdd, UInt8.reduceToNat, UInt32.reduceToNat, UInt64.reduceToNat, UInt8.reduceOfNat, UInt32.reduceOfNat, UInt64.reduceOfNat, Fin.isValue, Int.reduceSub, Int.reduceMul, Int.reduceNeg, Int.reduceMod, Int.reduceDiv, Int.reduceTDiv, Int.reduceTMod, Int.reduceBEq, Int.reduceBNe, Nat.reduceDiv, Nat.reducePow]
  refine loop_inv (envR_ok ga0_ok 19 []) (numInv s) (fun i => i ≤ s.length) (fun i => s.length - i) 0 [] (by omega) ?_ ?_
  · simp only [numInv, go_sem, reduceCtorEq, ↓reduceIte, Nat.reduceAdd, Nat.reduceMul, Nat.reduceSub, Nat.reduceEqDiff, Nat.reduceLT, Nat.reduceBEq, Nat.reduceBNe, Nat.reduceLeDiff, Int.reduceLE, Int.reduceLT, Int.reduceToNat, Int.reduceEq, Int.reduceAdd, UInt8.reduceToNat, UInt32.reduceToNat, UInt64.reduceToNat, UInt8.reduceOfNat, UInt32.reduceOfNat, UInt64.reduceOfNat, Fin.isValue, Int.reduceSub, Int.reduceMul, Int.reduceNeg, Int.reduceMod, Int.reduceDiv, Int.reduceTDiv, Int.reduceTMod, Int.reduceBEq, Int.reduceBNe, Nat.reduceDiv, Nat.reducePow]
  · intro i hi
    have hx := natsB_succ s i
    rcases i with _ | i
    · simp only [numInv, envR, con0, conN0, conN1, conN2, natsOf_arr, rowOf_arr, natsOf_cells, rowOf_cells, toN, natL_st, natL_d, natL_enc, natL_up, ga0, go_sem, reduceCtorEq, ↓reduceIte, Nat.reduceAdd, Nat.reduceMul, Nat.reduceSub, Nat.reduceEqDiff, Nat.reduceLT, Nat.reduceBEq, Nat.reduceBNe, Nat.reduceLeDiff, Int.reduceLE, Int.reduceLT, Int.reduceToNat, Int.reduceEq, Int.reduceAdd, UInt8.reduceToNat, UInt32.reduceToNat, UInt64.reduceToNat, UInt8.reduceOfNat, UInt32.reduceOfNat, UInt64.reduceOfNat, Fin.isValue, Int.reduceSub, Int.reduceMul, Int.reduceNeg, Int.reduceMod, Int.reduceDiv, Int.reduceTDiv, Int.reduceTMod, Int.reduceBEq, Int.reduceBNe, Nat.reduceDiv, Nat.reducePow]
      refine br (fun h => ?_) fun h => ?_
      · have hx := hx h0
        simp only [Nat.zero_add, List.take_zero, List.nil_append] at hx
        simp only [h, envR, con0, conN0, conN1, conN2, natsOf_arr, rowOf_arr, natsOf_cells, rowOf_cells, toN, natL_st, natL_d, natL_enc, natL_up, ga0, go_sem, reduceCtorEq, ↓reduceIte, Nat.reduceAdd, Nat.reduceMul, Nat.reduceSub, Nat.reduceEqDiff, Nat.reduceLT, Nat.reduceBEq, Nat.reduceBNe, Nat.reduceLeDiff, Int.reduceLE, Int.reduceLT, Int.reduceToNat, Int.reduceEq, Int.reduceAdd, UInt8.reduceToNat, UInt32.reduceToNat, UInt64.reduceToNat, UInt8.reduceOfNat, UInt32.reduceOfNat, UInt64.reduceOfNat, Fin.isValue, Int.reduceSub, Int.reduceMul, Int.reduceNeg, Int.reduceMod, Int.reduceDiv, Int.reduceTDiv, Int.reduceTMod, Int.reduceBEq, Int.reduceBNe, Nat.reduceDiv, Nat.reducePow]
        refine ⟨by omega, again 1 [(500, 60048)] (by omega) (by omega) ?_⟩
        simp only [numInv, hx, envR, con0, conN0, conN1, conN2, natsOf_arr, rowOf_arr, natsOf_cells, rowOf_cells, toN, natL_st, natL_d, natL_enc, natL_up, ga0, go_sem, reduceCtorEq, ↓reduceIte, Nat.reduceAdd, Nat.reduceMul, Nat.reduceSub, Nat.reduceEqDiff, Nat.reduceLT, Nat.reduceBEq, Nat.reduceBNe, Nat.reduceLeDiff, Int.reduceLE, Int.reduceLT, Int.reduceToNat, Int.reduceEq, Int.reduceAdd, UInt8.reduceToNat, UInt32.reduceToNat, UInt64.reduceToNat, UInt8.reduceOfNat, UInt32.reduceOfNat, UInt64.reduceOfNat, Fin.isValue, Int.reduceSub, Int.reduceMul, Int.reduceNeg, Int.reduceMod, Int.reduceDiv, Int.reduceTDiv, Int.reduceTMod, Int.reduceBEq, Int.reduceBNe, Nat.reduceDiv, Nat.reducePow]
      · exact absurd (of_decide_eq_false h) (by omega)
    · simp only [numInv, envR, con0, conN0, conN1, conN2, natsOf_arr, rowOf_arr, natsOf_cells, rowOf_cells, toN, natL_st, natL_d, natL_enc, natL_up, ga0, go_sem, reduceCtorEq, ↓reduceIte, Nat.reduceAdd, Nat.reduceMul, Nat.reduceSub, Nat.reduceEqDiff, Nat.reduceLT, Nat.reduceBEq, Nat.reduceBNe, Nat.reduceLeDiff, Int.reduceLE, Int.reduceLT, Int.reduceToNat, Int.reduceEq, Int.reduceAdd, UInt8.reduceToNat, UInt32.reduceToNat, UInt64.reduceToNat, UInt8.reduceOfNat, UInt32.reduceOfNat, UInt64.reduceOfNat, Fin.isValue, Int.reduceSub, Int.reduceMul, Int.reduceNeg, Int.reduceMod, Int.reduceDiv, Int.reduceTDiv, Int.reduceTMod, Int.reduceBEq, Int.reduceBNe, Nat.reduceDiv, Nat.reducePow]
      have hw : IntKind.i64.wrap (((i + 1 : Nat) : Int) + 1) = ((i + 1 + 1 : Nat) : Int) := by rw [IntKind.wrap_i64]; omega
      refine br (fun h => ?_) fun h => ?_
      · have hx := hx (by have := of_decide_eq_true h; omega)
        simp only [h, envR, con0, conN0, conN1, conN2, natsOf_arr, rowOf_arr, natsOf_cells, rowOf_cells, toN, natL_st, natL_d, natL_enc, natL_up, ga0, hw, go_sem, reduceCtorEq, ↓reduceIte, Nat.reduceAdd, Nat.reduceMul, Nat.reduceSub, Nat.reduceEqDiff, Nat.reduceLT, Nat.reduceBEq, Nat.reduceBNe, Nat.reduceLeDiff, Int.reduceLE, Int.reduceLT, Int.reduceToNat, Int.reduceEq, Int.reduceAdd, UInt8.reduceToNat, UInt32.reduceToNat, UInt64.reduceToNat, UInt8.reduceOfNat, UInt32.reduceOfNat, UInt64.reduceOfNat, Fin.isValue, Int.reduceSub, Int.reduceMul, Int.reduceNeg, Int.reduceMod, Int.reduceDiv, Int.reduceTDiv, Int.reduceTMod, Int.reduceBEq, Int.reduceBNe, Nat.reduceDiv, Nat.reducePow]
        refine ⟨⟨by omega, by have := of_decide_eq_true h; omega⟩, ⟨by rw [List.length_take, natsB_len]; omega, by omega, by omega⟩, again (i + 1 + 1) [(500, 60048)] (by have := of_decide_eq_true h; omega) (by have := of_decide_eq_true h; omega) ?_⟩
        simp only [numInv, hx, envR, con0, conN0, conN1, conN2, natsOf_arr, rowOf_arr, natsOf_cells, rowOf_cells, toN, natL_st, natL_d, natL_enc, natL_up, ga0, go_sem, reduceCtorEq, ↓reduceIte, Nat.reduceAdd, Nat.reduceMul, Nat.reduceSub, Nat.reduceEqDiff, Nat.reduceLT, Nat.reduceBEq, Nat.reduceBNe, Nat.reduceLeDiff, Int.reduceLE, Int.reduceLT, Int.reduceToNat, Int.reduceEq, Int.reduceAdd, UInt8.reduceToNat, UInt32.reduceToNat, UInt64.reduceToNat, UInt8.reduceOfNat, UInt32.reduceOfNat, UInt64.reduceOfNat, Fin.isValue, Int.reduceSub, Int.reduceMul, Int.reduceNeg, Int.reduceMod, Int.reduceDiv, Int.reduceTDiv, Int.reduceTMod, Int.reduceBEq, Int.reduceBNe, Nat.reduceDiv, Nat.reducePow]
      · have hi' : i + 1 = s.length := by have := of_decide_eq_false h; omega
        have ht : (natsB s).take s.length = natsB s := List.take_of_length_le (by rw [natsB_len]; exact Nat.le_refl _)
        simp only [h, envR, con0, conN0, conN1, conN2, natsOf_arr, rowOf_arr, natsOf_cells, rowOf_cells, toN, natL_st, natL_d, natL_enc, natL_up, ga0, ht, hi', go_sem, reduceCtorEq, ↓reduceIte, Nat.reduceAdd, Nat.reduceMul, Nat.reduceSub, Nat.reduceEqDiff, Nat.reduceLT, Nat.reduceBEq, Nat.reduceBNe, Nat.reduceLeDiff, Int.reduceLE, Int.reduceLT, Int.reduceToNat, Int.reduceEq, Int.reduceAdd, UInt8.reduceToNat, UInt32.reduceToNat, UInt64.reduceToNat, UInt8.reduceOfNat, UInt32.reduceOfNat, UInt64.reduceOfNat, Fin.isValue, Int.reduceSub, Int.reduceMul, Int.reduceNeg, Int.reduceMod, Int.reduceDiv, Int.reduceTDiv, Int.reduceTMod, Int.reduceBEq, Int.reduceBNe, Nat.reduceDiv, Nat.reducePow]
def daddInv (a b : List Nat) (wa wb : Bool) : Nat → St
  | 0 => ⟨[(0, .c (.one (.sl 0 0 1 a.length))), (1, .c (.one (.sl 1 0 1 b.length))), (5, .c (.one (.val (.slice none 0 0)))), (6, .c (.one (.num 0))), (7, .c (.one (.num 0)))], [(0, ⟨.arr Nat natL a, wa⟩), (1, ⟨.arr Nat natL b, wb⟩)]⟩
  | i + 1 => ⟨[(0, .c (.one (.sl 0 0 1 a.length))), (1, .c (.one (.sl 1 0 1 b.length))), (5, .c (.one (.sl 500 0 1 (i + 1)))), (6, .c (.one (.num (addG 256 a b (i + 1)).2))), (7, .c (.one (.num (i + 1 : Nat))))], [(0, ⟨.arr Nat natL a, wa⟩), (1, ⟨.arr Nat natL b, wb⟩), (500, ⟨.arr Nat natL (addG 256 a b (i + 1)).1, true⟩)]⟩
set_option maxRecDepth 100000 in
theorem dadd_tri (a b : List Nat) (wa wb : Bool) (ha : dlt 256 a) (hb : dlt 256 b) (la : a.length ≤ 1000) (lb : b.length ≤ 1000) (l0 : 0 < a.length) : Tri Try.prog 48 [.one (.sl 0 0 1 a.length), .one (.sl 1 0 1 b.length)] [(0, ⟨.arr Nat natL a, wa⟩), (1, ⟨.arr Nat natL b, wb⟩)] (.c (.one (.sl 2 0 1 (addL 256 a b).length))) [(0, ⟨.arr Nat natL a, wa⟩), (1, ⟨.arr Nat natL b, wb⟩), (2, ⟨.arr Nat natL (addL 256 a b), true⟩)] := by
  refine tri_of (envR_ok ga0_ok 54 [0, 1]) Try.func48 rfl rfl (rs := [.tmp 4]) rfl rfl (by simp [envR]) rfl [(2, 500)] ?_
  simp only [envR, con0, conN0, conN1, conN2, natsOf_arr, rowOf_arr, natsOf_cells, rowOf_cells, toN, natL_st, natL_d, natL_enc, natL_up, ga0, go_sem, reduceCtorEq, ↓reduceIte, Nat.reduceAdd, Nat.reduceMul, Nat.reduceSub, Nat.reduceEqDiff, Nat.reduceLT, Nat.reduceBEq, Nat.reduceBNe, Nat.reduceLeDiff, Int.reduceLE, Int.reduceLT, Int.reduceToNat, Int.reduceEq, Int.reduceAdd, UInt8.reduceToNat, UInt32.reduceToNat, UInt64.reduceToNat, UInt8.reduceOfNat, UInt32.reduceOfNat, UInt64.reduceOfNat, Fin.isValue, Int.reduceSub, Int.reduceMul, Int.reduceNeg, Int.reduceMod, Int.reduceDiv, Int.reduceTDiv, Int.reduceTMod, Int.reduceBEq, Int.reduceBNe, Nat.reduceDiv, Nat.reducePow]
  refine loop_inv (envR_ok ga0_ok 54 [0, 1]) (daddInv a b wa wb) (fun i => i ≤ addLen 256 a b) (fun i => addLen 256 a b - i) 0 [] (by omega) ?_ ?_
  · simp only [daddInv, go_sem, reduceCtorEq, ↓reduceIte, Nat.reduceAdd, Nat.reduceMul, Nat.reduceSub, Nat.reduceEqDiff, Nat.reduceLT, Nat.reduceBEq, Nat.reduceBNe, Nat.reduceLeDiff, Int.reduceLE, Int.reduceLT, Int.reduceToNat, Int.reduceEq, Int.reduceAdd, UInt8.reduceToNat, UInt32.reduceToNat, UInt64.reduceToNat, UInt8.reduceOfNat, UInt32.reduceOfNat, UInt64.reduceOfNat, Fin.isValue, Int.reduceSub, Int.reduceMul, Int.reduceNeg, Int.reduceMod, Int.reduceDiv, Int.reduceTDiv, Int.reduceTMod, Int.reduceBEq, Int.reduceBNe, Nat.reduceDiv, Nat.reducePow]
    exact ⟨rfl, id, id⟩
  · intro i hi
    obtain ⟨T, hT⟩ : ∃ T, T = (addG 256 a b i).2 + a.getD i 0 + b.getD i 0 := ⟨_, rfl⟩
    have gl : (addG 256 a b (i + 1)).1 = (addG 256 a b i).1 ++ [T % 256] := by rw [addG, ← hT]
    have gc : (addG 256 a b (i + 1)).2 = T / 256 := by rw [addG, ← hT]
    have bc := addG_car (by decide : 1 < 256) ha hb i
    have ba := ha i
    have bb := hb i
    have bl := addLen_bd 256 a b
    have h5 : ((T : Nat) : Int).tmod 256 = ((T % 256 : Nat) : Int) := by rw [show (256 : Int) = ((256 : Nat) : Int) from rfl, ← Int.ofNat_tmod]
    have h6 : IntKind.i64.wrap (((T : Nat) : Int).tdiv 256) = ((T / 256 : Nat) : Int) := by
      rw [show (256 : Int) = ((256 : Nat) : Int) from rfl, ← Int.ofNat_tdiv, IntKind.wrap_i64]; omega
    have hlen := addG_len 256 a b i
    rcases i with _ | i
    · have gl0 : (addG 256 a b 1).1 = [T % 256] := gl
      have gc0 : (addG 256 a b 1).2 = T / 256 := gc
      have c1 : decide ((0 : Int) < (a.length : Int)) = true := decide_eq_true (by omega)
      have z0 : (addG 256 a b 0).2 = 0 := rfl
      have w1 : IntKind.i64.wrap ((a.getD 0 0 : Nat) : Int) = ((a.getD 0 0 : Nat) : Int) := by rw [IntKind.wrap_i64]; omega
      cases c2 : decide ((0 : Int) < (b.length : Int)) with
      | true =>
        have w2 : IntKind.i64.wrap (((a.getD 0 0 : Nat) : Int) + ((b.getD 0 0 : Nat) : Int)) = ((T : Nat) : Int) := by rw [IntKind.wrap_i64]; omega
        simp only [daddInv, envR, con0, conN0, conN1, conN2, natsOf_arr, rowOf_arr, natsOf_cells, rowOf_cells, toN, natL_st, natL_d, natL_enc, natL_up, ga0, c1, c2, w1, w2, h5, h6, go_sem, reduceCtorEq, ↓reduceIte, Nat.reduceAdd, Nat.reduceMul, Nat.reduceSub, Nat.reduceEqDiff, Nat.reduceLT, Nat.reduceBEq, Nat.reduceBNe, Nat.reduceLeDiff, Int.reduceLE, Int.reduceLT, Int.reduceToNat, Int.reduceEq, Int.reduceAdd, UInt8.reduceToNat, UInt32.reduceToNat, UInt64.reduceToNat, UInt8.reduceOfNat, UInt32.reduceOfNat, UInt64.reduceOfNat, Fin.isValue, Int.reduceSub, Int.reduceMul, Int.reduceNeg, Int.reduceMod, Int.reduceDiv, Int.reduceTDiv, Int.reduceTMod, Int.reduceBEq, Int.reduceBNe, Nat.reduceDiv, Nat.reducePow]
        refine ⟨by omega, by omega, by have := of_decide_eq_true c2; omega, by have := of_decide_eq_true c2; omega, again 1 [(500, 120032)] (by omega) (by omega) ?_⟩
        simp only [daddInv, gl0, gc0, envR, con0, conN0, conN1, conN2, natsOf_arr, rowOf_arr, natsOf_cells, rowOf_cells, toN, natL_st, natL_d, natL_enc, natL_up, ga0, go_sem, reduceCtorEq, ↓reduceIte, Nat.reduceAdd, Nat.reduceMul, Nat.reduceSub, Nat.reduceEqDiff, Nat.reduceLT, Nat.reduceBEq, Nat.reduceBNe, Nat.reduceLeDiff, Int.reduceLE, Int.reduceLT, Int.reduceToNat, Int.reduceEq, Int.reduceAdd, UInt8.reduceToNat, UInt32.reduceToNat, UInt64.reduceToNat, UInt8.reduceOfNat, UInt32.reduceOfNat, UInt64.reduceOfNat, Fin.isValue, Int.reduceSub, Int.reduceMul, Int.reduceNeg, Int.reduceMod, Int.reduceDiv, Int.reduceTDiv, Int.reduceTMod, Int.reduceBEq, Int.reduceBNe, Nat.reduceDiv, Nat.reducePow]
        exact ⟨rfl, id, id⟩
      | false =>
        have zb := getD_out (l := b) (i := 0) (by have := of_decide_eq_false c2; omega)
        have w2 : IntKind.i64.wrap ((a.getD 0 0 : Nat) : Int) = ((T : Nat) : Int) := by rw [IntKind.wrap_i64]; omega
        simp only [daddInv, envR, con0, conN0, conN1, conN2, natsOf_arr, rowOf_arr, natsOf_cells, rowOf_cells, toN, natL_st, natL_d, natL_enc, natL_up, ga0, c1, c2, w2, h5, h6, go_sem, reduceCtorEq, ↓reduceIte, Nat.reduceAdd, Nat.reduceMul, Nat.reduceSub, Nat.reduceEqDiff, Nat.reduceLT, Nat.reduceBEq, Nat.reduceBNe, Nat.reduceLeDiff, Int.reduceLE, Int.reduceLT, Int.reduceToNat, Int.reduceEq, Int.reduceAdd, UInt8.reduceToNat, UInt32.reduceToNat, UInt64.reduceToNat, UInt8.reduceOfNat, UInt32.reduceOfNat, UInt64.reduceOfNat, Fin.isValue, Int.reduceSub, Int.reduceMul, Int.reduceNeg, Int.reduceMod, Int.reduceDiv, Int.reduceTDiv, Int.reduceTMod, Int.reduceBEq, Int.reduceBNe, Nat.reduceDiv, Nat.reducePow]
        refine ⟨by omega, by omega, again 1 [(500, 120032)] (by omega) (by omega) ?_⟩
        simp only [daddInv, gl0, gc0, envR, con0, conN0, conN1, conN2, natsOf_arr, rowOf_arr, natsOf_cells, rowOf_cells, toN, natL_st, natL_d, natL_enc, natL_up, ga0, go_sem, reduceCtorEq, ↓reduceIte, Nat.reduceAdd, Nat.reduceMul, Nat.reduceSub, Nat.reduceEqDiff, Nat.reduceLT, Nat.reduceBEq, Nat.reduceBNe, Nat.reduceLeDiff, Int.reduceLE, Int.reduceLT, Int.reduceToNat, Int.reduceEq, Int.reduceAdd, UInt8.reduceToNat, UInt32.reduceToNat, UInt64.reduceToNat, UInt8.reduceOfNat, UInt32.reduceOfNat, UInt64.reduceOfNat, Fin.isValue, Int.reduceSub, Int.reduceMul, Int.reduceNeg, Int.reduceMod, Int.reduceDiv, Int.reduceTDiv, Int.reduceTMod, Int.reduceBEq, Int.reduceBNe, Nat.reduceDiv, Nat.reducePow]
        exact ⟨rfl, id, id⟩
    · have hw : IntKind.i64.wrap (((i + 1 : Nat) : Int) + 1) = ((i + 1 + 1 : Nat) : Int) := by rw [IntKind.wrap_i64]; omega
      have hgo := fun h => add_go (by decide : 1 < 256) ha hb hi h
      cases c1 : decide (((i + 1 : Nat) : Int) < (a.length : Int)) with
      | true =>
        have g1 : i + 1 < a.length := by have := of_decide_eq_true c1; omega
        have hgo := hgo (.inl g1)
        cases c2 : decide (((i + 1 : Nat) : Int) < (b.length : Int)) with
        | true =>
          have g2 : i + 1 < b.length := by have := of_decide_eq_true c2; omega
          have w1 : IntKind.i64.wrap (((addG 256 a b (i + 1)).2 : Int) + ((a.getD (i + 1) 0 : Nat) : Int)) = (((addG 256 a b (i + 1)).2 + a.getD (i + 1) 0 : Nat) : Int) := by rw [IntKind.wrap_i64]; omega
          have w2 : IntKind.i64.wrap ((((addG 256 a b (i + 1)).2 + a.getD (i + 1) 0 : Nat) : Int) + ((b.getD (i + 1) 0 : Nat) : Int)) = ((T : Nat) : Int) := by rw [IntKind.wrap_i64]; omega
          simp only [daddInv, envR, con0, conN0, conN1, conN2, natsOf_arr, rowOf_arr, natsOf_cells, rowOf_cells, toN, natL_st, natL_d, natL_enc, natL_up, ga0, c1, c2, w1, w2, h5, h6, hw, go_sem, reduceCtorEq, ↓reduceIte, Nat.reduceAdd, Nat.reduceMul, Nat.reduceSub, Nat.reduceEqDiff, Nat.reduceLT, Nat.reduceBEq, Nat.reduceBNe, Nat.reduceLeDiff, Int.reduceLE, Int.reduceLT, Int.reduceToNat, Int.reduceEq, Int.reduceAdd, UInt8.reduceToNat, UInt32.reduceToNat, UInt64.reduceToNat, UInt8.reduceOfNat, UInt32.reduceOfNat, UInt64.reduceOfNat, Fin.isValue, Int.reduceSub, Int.reduceMul, Int.reduceNeg, Int.reduceMod, Int.reduceDiv, Int.reduceTDiv, Int.reduceTMod, Int.reduceBEq, Int.reduceBNe, Nat.reduceDiv, Nat.reducePow]
          repeat' apply And.intro
          all_goals first
            | omega
            | skip
          refine again (i + 1 + 1) [(500, 120032)] (by omega) (by omega) ?_
          simp only [daddInv, gl, gc, envR, con0, conN0, conN1, conN2, natsOf_arr, rowOf_arr, natsOf_cells, rowOf_cells, toN, natL_st, natL_d, natL_enc, natL_up, ga0, go_sem, reduceCtorEq, ↓reduceIte, Nat.reduceAdd, Nat.reduceMul, Nat.reduceSub, Nat.reduceEqDiff, Nat.reduceLT, Nat.reduceBEq, Nat.reduceBNe, Nat.reduceLeDiff, Int.reduceLE, Int.reduceLT, Int.reduceToNat, Int.reduceEq, Int.reduceAdd, UInt8.reduceToNat, UInt32.reduceToNat, UInt64.reduceToNat, UInt8.reduceOfNat, UInt32.reduceOfNat, UInt64.reduceOfNat, Fin.isValue, Int.reduceSub, Int.reduceMul, Int.reduceNeg, Int.reduceMod, Int.reduceDiv, Int.reduceTDiv, Int.reduceTMod, Int.reduceBEq, Int.reduceBNe, Nat.reduceDiv, Nat.reducePow]
          exact ⟨rfl, id, id⟩
        | false =>
          have zb := getD_out (l := b) (i := i + 1) (by have := of_decide_eq_false c2; omega)
          have w1 : IntKind.i64.wrap (((addG 256 a b (i + 1)).2 : Int) + ((a.getD (i + 1) 0 : Nat) : Int)) = ((T : Nat) : Int) := by rw [IntKind.wrap_i64]; omega
          simp only [daddInv, envR, con0, conN0, conN1, conN2, natsOf_arr, rowOf_arr, natsOf_cells, rowOf_cells, toN, natL_st, natL_d, natL_enc, natL_up, ga0, c1, c2, w1, h5, h6, hw, go_sem, reduceCtorEq, ↓reduceIte, Nat.reduceAdd, Nat.reduceMul, Nat.reduceSub, Nat.reduceEqDiff, Nat.reduceLT, Nat.reduceBEq, Nat.reduceBNe, Nat.reduceLeDiff, Int.reduceLE, Int.reduceLT, Int.reduceToNat, Int.reduceEq, Int.reduceAdd, UInt8.reduceToNat, UInt32.reduceToNat, UInt64.reduceToNat, UInt8.reduceOfNat, UInt32.reduceOfNat, UInt64.reduceOfNat, Fin.isValue, Int.reduceSub, Int.reduceMul, Int.reduceNeg, Int.reduceMod, Int.reduceDiv, Int.reduceTDiv, Int.reduceTMod, Int.reduceBEq, Int.reduceBNe, Nat.reduceDiv, Nat.reducePow]
          repeat' apply And.intro
          all_goals first
            | omega
            | skip
          refine again (i + 1 + 1) [(500, 120032)] (by omega) (by omega) ?_
          simp only [daddInv, gl, gc, envR, con0, conN0, conN1, conN2, natsOf_arr, rowOf_arr, natsOf_cells, rowOf_cells, toN, natL_st, natL_d, natL_enc, natL_up, ga0, go_sem, reduceCtorEq, ↓reduceIte, Nat.reduceAdd, Nat.reduceMul, Nat.reduceSub, Nat.reduceEqDiff, Nat.reduceLT, Nat.reduceBEq, Nat.reduceBNe, Nat.reduceLeDiff, Int.reduceLE, Int.reduceLT, Int.reduceToNat, Int.reduceEq, Int.reduceAdd, UInt8.reduceToNat, UInt32.reduceToNat, UInt64.reduceToNat, UInt8.reduceOfNat, UInt32.reduceOfNat, UInt64.reduceOfNat, Fin.isValue, Int.reduceSub, Int.reduceMul, Int.reduceNeg, Int.reduceMod, Int.reduceDiv, Int.reduceTDiv, Int.reduceTMod, Int.reduceBEq, Int.reduceBNe, Nat.reduceDiv, Nat.reducePow]
          exact ⟨rfl, id, id⟩
      | false =>
        have za := getD_out (l := a) (i := i + 1) (by have := of_decide_eq_false c1; omega)
        cases c2 : decide (((i + 1 : Nat) : Int) < (b.length : Int)) with
        | true =>
          have g2 : i + 1 < b.length := by have := of_decide_eq_true c2; omega
          have hgo := hgo (.inr (.inl g2))
          have w1 : IntKind.i64.wrap (((addG 256 a b (i + 1)).2 : Int) + ((b.getD (i + 1) 0 : Nat) : Int)) = ((T : Nat) : Int) := by rw [IntKind.wrap_i64]; omega
          simp only [daddInv, envR, con0, conN0, conN1, conN2, natsOf_arr, rowOf_arr, natsOf_cells, rowOf_cells, toN, natL_st, natL_d, natL_enc, natL_up, ga0, c1, c2, w1, h5, h6, hw, go_sem, reduceCtorEq, ↓reduceIte, Nat.reduceAdd, Nat.reduceMul, Nat.reduceSub, Nat.reduceEqDiff, Nat.reduceLT, Nat.reduceBEq, Nat.reduceBNe, Nat.reduceLeDiff, Int.reduceLE, Int.reduceLT, Int.reduceToNat, Int.reduceEq, Int.reduceAdd, UInt8.reduceToNat, UInt32.reduceToNat, UInt64.reduceToNat, UInt8.reduceOfNat, UInt32.reduceOfNat, UInt64.reduceOfNat, Fin.isValue, Int.reduceSub, Int.reduceMul, Int.reduceNeg, Int.reduceMod, Int.reduceDiv, Int.reduceTDiv, Int.reduceTMod, Int.reduceBEq, Int.reduceBNe, Nat.reduceDiv, Nat.reducePow]
          repeat' apply And.intro
          all_goals first
            | omega
            | skip
          refine again (i + 1 + 1) [(500, 120032)] (by omega) (by omega) ?_
          simp only [daddInv, gl, gc, envR, con0, conN0, conN1, conN2, natsOf_arr, rowOf_arr, natsOf_cells, rowOf_cells, toN, natL_st, natL_d, natL_enc, natL_up, ga0, go_sem, reduceCtorEq, ↓reduceIte, Nat.reduceAdd, Nat.reduceMul, Nat.reduceSub, Nat.reduceEqDiff, Nat.reduceLT, Nat.reduceBEq, Nat.reduceBNe, Nat.reduceLeDiff, Int.reduceLE, Int.reduceLT, Int.reduceToNat, Int.reduceEq, Int.reduceAdd, UInt8.reduceToNat, UInt32.reduceToNat, UInt64.reduceToNat, UInt8.reduceOfNat, UInt32.reduceOfNat, UInt64.reduceOfNat, Fin.isValue, Int.reduceSub, Int.reduceMul, Int.reduceNeg, Int.reduceMod, Int.reduceDiv, Int.reduceTDiv, Int.reduceTMod, Int.reduceBEq, Int.reduceBNe, Nat.reduceDiv, Nat.reducePow]
          exact ⟨rfl, id, id⟩
        | false =>
          have zb := getD_out (l := b) (i := i + 1) (by have := of_decide_eq_false c2; omega)
          cases c3 : decide ((0 : Int) < ((addG 256 a b (i + 1)).2 : Int)) with
          | true =>
            have hgo := hgo (.inr (.inr (by have := of_decide_eq_true c3; omega)))
            have w1 : (addG 256 a b (i + 1)).2 = T := by omega
            have c4 : decide ((0 : Int) < (T : Int)) = true := by rw [← w1]; exact c3
            simp only [daddInv, envR, con0, conN0, conN1, conN2, natsOf_arr, rowOf_arr, natsOf_cells, rowOf_cells, toN, natL_st, natL_d, natL_enc, natL_up, ga0, c1, c2, c3, c4, w1, h5, h6, hw, go_sem, reduceCtorEq, ↓reduceIte, Nat.reduceAdd, Nat.reduceMul, Nat.reduceSub, Nat.reduceEqDiff, Nat.reduceLT, Nat.reduceBEq, Nat.reduceBNe, Nat.reduceLeDiff, Int.reduceLE, Int.reduceLT, Int.reduceToNat, Int.reduceEq, Int.reduceAdd, UInt8.reduceToNat, UInt32.reduceToNat, UInt64.reduceToNat, UInt8.reduceOfNat, UInt32.reduceOfNat, UInt64.reduceOfNat, Fin.isValue, Int.reduceSub, Int.reduceMul, Int.reduceNeg, Int.reduceMod, Int.reduceDiv, Int.reduceTDiv, Int.reduceTMod, Int.reduceBEq, Int.reduceBNe, Nat.reduceDiv, Nat.reducePow]
            repeat' apply And.intro
            all_goals first
              | omega
              | skip
            refine again (i + 1 + 1) [(500, 120032)] (by omega) (by omega) ?_
            simp only [daddInv, gl, gc, envR, con0, conN0, conN1, conN2, natsOf_arr, rowOf_arr, natsOf_cells, rowOf_cells, toN, natL_st, natL_d, natL_enc, natL_up, ga0, go_sem, reduceCtorEq, ↓reduceIte, Nat.reduceAdd, Nat.reduceMul, Nat.reduceSub, Nat.reduceEqDiff, Nat.reduceLT, Nat.reduceBEq, Nat.reduceBNe, Nat.reduceLeDiff, Int.reduceLE, Int.reduceLT, Int.reduceToNat, Int.reduceEq, Int.reduceAdd, UInt8.reduceToNat, UInt32.reduceToNat, UInt64.reduceToNat, UInt8.reduceOfNat, UInt32.reduceOfNat, UInt64.reduceOfNat, Fin.isValue, Int.reduceSub, Int.reduceMul, Int.reduceNeg, Int.reduceMod, Int.reduceDiv, Int.reduceTDiv, Int.reduceTMod, Int.reduceBEq, Int.reduceBNe, Nat.reduceDiv, Nat.reducePow]
            exact ⟨rfl, id, id⟩
          | false =>
            have he : i + 1 = addLen 256 a b := add_end hi (by have := of_decide_eq_false c1; omega) (by have := of_decide_eq_false c2; omega) (by have := of_decide_eq_false c3; omega)
            have hl2 := addL_len 256 a b
            have hr : (addG 256 a b (i + 1)).1 = addL 256 a b := by rw [addL, he]
            simp only [daddInv, envR, con0, conN0, conN1, conN2, natsOf_arr, rowOf_arr, natsOf_cells, rowOf_cells, toN, natL_st, natL_d, natL_enc, natL_up, ga0, c1, c2, c3, hr, hl2, ← he, hw, go_sem, reduceCtorEq, ↓reduceIte, Nat.reduceAdd, Nat.reduceMul, Nat.reduceSub, Nat.reduceEqDiff, Nat.reduceLT, Nat.reduceBEq, Nat.reduceBNe, Nat.reduceLeDiff, Int.reduceLE, Int.reduceLT, Int.reduceToNat, Int.reduceEq, Int.reduceAdd, UInt8.reduceToNat, UInt32.reduceToNat, UInt64.reduceToNat, UInt8.reduceOfNat, UInt32.reduceOfNat, UInt64.reduceOfNat, Fin.isValue, Int.reduceSub, Int.reduceMul, Int.reduceNeg, Int.reduceMod, Int.reduceDiv, Int.reduceTDiv, Int.reduceTMod, Int.reduceBEq, Int.reduceBNe, Nat.reduceDiv, Nat.reducePow]
            exact ⟨rfl, id, id⟩
def numberC : Con := conN0 fun args => match args with
  | [.one (.str s)] => some (.c (.one (.sl 0 0 1 s.length)), natsB s, [0 < s.length, s.length ≤ 1000])
  | _ => none
theorem numberC_ok : ConOk Try.prog 45 numberC := conN0_ok Try.func45 rfl rfl fun args v r ob h hob => by
  split at h
  · injection h with h; injection h with h1 h2; injection h2 with h2 h3; subst h1; subst h2; subst h3
    exact number_tri _ hob.1 hob.2.1
  · cases h
def daddC : Con := conN2 fun args a b => match args with
  | [.one (.sl 0 0 1 n), .one (.sl 1 0 1 m)] => some (.c (.one (.sl 2 0 1 (addL 256 a b).length)), addL 256 a b, [n = a.length, m = b.length, dlt 256 a, dlt 256 b, a.length ≤ 1000, b.length ≤ 1000, 0 < a.length])
  | _ => none
theorem daddC_ok : ConOk Try.prog 48 daddC := conN2_ok Try.func48 rfl rfl fun args a b v r ob h hob wa wb => by
  split at h
  · injection h with h; injection h with h1 h2; injection h2 with h2 h3; subst h1; subst h2; subst h3
    obtain ⟨rfl, rfl, o3, o4, o5, o6, o7, _⟩ := hob
    exact dadd_tri _ _ _ _ o3 o4 o5 o6 o7
  · cases h
end Go.Proofs.Ythgemadhhkocgaa
