/-
  The document's digits to the base 65536: sums, of first parts of rows.
-/
import Derived.Test.YtdkmkifebhggeaaSz
import Derived.Test.YtdkmkifebhggeaaKh
namespace Go.Proofs.Ytdkmkifebhggeaa
open Go Go.RowKit
set_option maxHeartbeats 4000000
set_option linter.unusedSimpArgs false
set_option linter.unusedVariables false
theorem add_go {B : Nat} (hB : 1 < B) {a b : List Nat} (ha : dlt B a) (hb : dlt B b) {i : Nat} (hi : i ≤ addLen B a b) (h : i < a.length ∨ i < b.length ∨ 0 < (addG B a b i).2) : i + 1 ≤ addLen B a b := by
  have hc := addLen_car hB ha hb
  rcases Nat.lt_or_ge i (addLen B a b) with h1 | h1
  · exact h1
  · have e : i = addLen B a b := by omega
    obtain ⟨h2, h3⟩ := addLen_bd B a b
    rw [← e] at hc
    omega
theorem add_end {B : Nat} {a b : List Nat} {i : Nat} (hi : i ≤ addLen B a b) (h1 : a.length ≤ i) (h2 : b.length ≤ i) (h3 : (addG B a b i).2 = 0) : i = addLen B a b := by
  unfold addLen at hi ⊢
  split
  · rename_i h; rw [if_pos h] at hi; omega
  · rename_i h
    rw [if_neg h] at hi
    by_cases e : i = max a.length b.length
    · rw [← e] at h; exact (h h3).elim
    · omega
theorem getD_out {l : List Nat} {i : Nat} (h : l.length ≤ i) : l.getD i 0 = 0 := by
  rw [List.getD_eq_getElem?_getD, List.getElem?_eq_none h]; rfl
theorem take_getD (l : List Nat) (n i : Nat) (h : i < (l.take n).length) : l.getD i 0 = (l.take n).getD i 0 := by
  rw [List.length_take] at h
  rw [List.getD_eq_getElem?_getD, List.getD_eq_getElem?_getD, List.getElem?_take_of_lt (by omega)]
def gaddInv (A B a b : List Nat) (wa wb : Bool) : Nat → St
  | 0 => ⟨[(0, .c (.one (.sl 0 0 1 a.length))), (1, .c (.one (.sl 1 0 1 b.length))), (5, .c (.one (.val (.slice none 0 0)))), (6, .c (.one (.num 0))), (7, .c (.one (.num 0)))], [(0, ⟨.arr Nat natL A, wa⟩), (1, ⟨.arr Nat natL B, wb⟩)]⟩
  | i + 1 => ⟨[(0, .c (.one (.sl 0 0 1 a.length))), (1, .c (.one (.sl 1 0 1 b.length))), (5, .c (.one (.sl 500 0 1 (i + 1)))), (6, .c (.one (.num (addG 65536 a b (i + 1)).2))), (7, .c (.one (.num (i + 1 : Nat))))], [(0, ⟨.arr Nat natL A, wa⟩), (1, ⟨.arr Nat natL B, wb⟩), (500, ⟨.arr Nat natL (addG 65536 a b (i + 1)).1, true⟩)]⟩
set_option maxRecDepth 100000 in
theorem gadd_tri (A B a b : List Nat) (wa wb : Bool) (hA : a.length ≤ A.length) (hB : b.length ≤ B.length) (pA : ∀ i, i < a.length → A.getD i 0 = a.getD i 0) (pB : ∀ i, i < b.length → B.getD i 0 = b.getD i 0) (ha : dlt 65536 a) (hb : dlt 65536 b) (la : a.length ≤ 1000) (lb : b.length ≤ 1000) (l0 : 0 < a.length) : Tri Try.prog 36 [.one (.sl 0 0 1 a.length), .one (.sl 1 0 1 b.length)] [(0, ⟨.arr Nat natL A, wa⟩), (1, ⟨.arr Nat natL B, wb⟩)] (.c (.one (.sl 2 0 1 (addL 65536 a b).length))) [(0, ⟨.arr Nat natL A, wa⟩), (1, ⟨.arr Nat natL B, wb⟩), (2, ⟨.arr Nat natL (addL 65536 a b), true⟩)] := by
  refine tri_of (envR_ok ga0_ok 54 [0, 1]) Try.func36 rfl rfl (rs := [.tmp 4]) rfl rfl (by simp [envR]) rfl [(2, 500)] ?_
  simp only [envR, con0, conN0, conN1, conN2, natsOf_arr, rowOf_arr, natsOf_cells, rowOf_cells, toN, natL_st, natL_d, natL_enc, natL_up, ga0, go_sem, reduceCtorEq, ↓reduceIte, Nat.reduceAdd, Nat.reduceMul, Nat.reduceSub, Nat.reduceEqDiff, Nat.reduceLT, Nat.reduceBEq, Nat.reduceBNe, Nat.reduceLeDiff, Int.reduceLE, Int.reduceLT, Int.reduceToNat, Int.reduceEq, Int.reduceAdd, UInt8.reduceToNat, UInt32.reduceToNat, UInt64.reduceToNat, UInt8.reduceOfNat, UInt32.reduceOfNat, UInt64.reduceOfNat, Fin.isValue, Int.reduceSub, Int.reduceMul, Int.reduceNeg, Int.reduceMod, Int.reduceDiv, Int.reduceTDiv, Int.reduceTMod, Int.reduceBEq, Int.reduceBNe, Nat.reduceDiv, Nat.reducePow]
  refine loop_inv (envR_ok ga0_ok 54 [0, 1]) (gaddInv A B a b wa wb) (fun i => i ≤ addLen 65536 a b) (fun i => addLen 65536 a b - i) 0 [] (by omega) ?_ ?_
  · simp only [gaddInv, go_sem, reduceCtorEq, ↓reduceIte, Nat.reduceAdd, Nat.reduceMul, Nat.reduceSub, Nat.reduceEqDiff, Nat.reduceLT, Nat.reduceBEq, Nat.reduceBNe, Nat.reduceLeDiff, Int.reduceLE, Int.reduceLT, Int.reduceToNat, Int.reduceEq, Int.reduceAdd, UInt8.reduceToNat, UInt32.reduceToNat, UInt64.reduceToNat, UInt8.reduceOfNat, UInt32.reduceOfNat, UInt64.reduceOfNat, Fin.isValue, Int.reduceSub, Int.reduceMul, Int.reduceNeg, Int.reduceMod, Int.reduceDiv, Int.reduceTDiv, Int.reduceTMod, Int.reduceBEq, Int.reduceBNe, Nat.reduceDiv, Nat.reducePow]
    exact ⟨rfl, id, id⟩
  · intro i hi
    obtain ⟨T, hT⟩ : ∃ T, T = (addG 65536 a b i).2 + a.getD i 0 + b.getD i 0 := ⟨_, rfl⟩
    have gl : (addG 65536 a b (i + 1)).1 = (addG 65536 a b i).1 ++ [T % 65536] := by rw [addG, ← hT]
    have gc : (addG 65536 a b (i + 1)).2 = T / 65536 := by rw [addG, ← hT]
    have bc := addG_car (by decide : 1 < 65536) ha hb i
    have ba := ha i
    have bb := hb i
    have bl := addLen_bd 65536 a b
    have h5 : ((T : Nat) : Int).tmod 65536 = ((T % 65536 : Nat) : Int) := by rw [show (65536 : Int) = ((65536 : Nat) : Int) from rfl, ← Int.ofNat_tmod]
    have h6 : IntKind.i64.wrap (((T : Nat) : Int).tdiv 65536) = ((T / 65536 : Nat) : Int) := by
      rw [show (65536 : Int) = ((65536 : Nat) : Int) from rfl, ← Int.ofNat_tdiv, IntKind.wrap_i64]; omega
    have hlen := addG_len 65536 a b i
    rcases i with _ | i
    · have gl0 : (addG 65536 a b 1).1 = [T % 65536] := gl
      have gc0 : (addG 65536 a b 1).2 = T / 65536 := gc
      have c1 : decide ((0 : Int) < (a.length : Int)) = true := decide_eq_true (by omega)
      have z0 : (addG 65536 a b 0).2 = 0 := rfl
      have w1 : IntKind.i64.wrap ((a.getD 0 0 : Nat) : Int) = ((a.getD 0 0 : Nat) : Int) := by rw [IntKind.wrap_i64]; omega
      have rA := pA 0 l0
      cases c2 : decide ((0 : Int) < (b.length : Int)) with
      | true =>
        have rB := pB 0 (by have := of_decide_eq_true c2; omega)
        have w2 : IntKind.i64.wrap (((a.getD 0 0 : Nat) : Int) + ((b.getD 0 0 : Nat) : Int)) = ((T : Nat) : Int) := by rw [IntKind.wrap_i64]; omega
        simp only [gaddInv, envR, con0, conN0, conN1, conN2, natsOf_arr, rowOf_arr, natsOf_cells, rowOf_cells, toN, natL_st, natL_d, natL_enc, natL_up, ga0, c1, c2, rA, rB, w1, w2, h5, h6, go_sem, reduceCtorEq, ↓reduceIte, Nat.reduceAdd, Nat.reduceMul, Nat.reduceSub, Nat.reduceEqDiff, Nat.reduceLT, Nat.reduceBEq, Nat.reduceBNe, Nat.reduceLeDiff, Int.reduceLE, Int.reduceLT, Int.reduceToNat, Int.reduceEq, Int.reduceAdd, UInt8.reduceToNat, UInt32.reduceToNat, UInt64.reduceToNat, UInt8.reduceOfNat, UInt32.reduceOfNat, UInt64.reduceOfNat, Fin.isValue, Int.reduceSub, Int.reduceMul, Int.reduceNeg, Int.reduceMod, Int.reduceDiv, Int.reduceTDiv, Int.reduceTMod, Int.reduceBEq, Int.reduceBNe, Nat.reduceDiv, Nat.reducePow]
        refine ⟨by omega, by omega, by have := of_decide_eq_true c2; omega, by have := of_decide_eq_true c2; omega, again 1 [(500, 120032)] (by omega) (by omega) ?_⟩
        simp only [gaddInv, gl0, gc0, envR, con0, conN0, conN1, conN2, natsOf_arr, rowOf_arr, natsOf_cells, rowOf_cells, toN, natL_st, natL_d, natL_enc, natL_up, ga0, go_sem, reduceCtorEq, ↓reduceIte, Nat.reduceAdd, Nat.reduceMul, Nat.reduceSub, Nat.reduceEqDiff, Nat.reduceLT, Nat.reduceBEq, Nat.reduceBNe, Nat.reduceLeDiff, Int.reduceLE, Int.reduceLT, Int.reduceToNat, Int.reduceEq, Int.reduceAdd, UInt8.reduceToNat, UInt32.reduceToNat, UInt64.reduceToNat, UInt8.reduceOfNat, UInt32.reduceOfNat, UInt64.reduceOfNat, Fin.isValue, Int.reduceSub, Int.reduceMul, Int.reduceNeg, Int.reduceMod, Int.reduceDiv, Int.reduceTDiv, Int.reduceTMod, Int.reduceBEq, Int.reduceBNe, Nat.reduceDiv, Nat.reducePow]
        exact ⟨rfl, id, id⟩
      | false =>
        have zb := getD_out (l := b) (i := 0) (by have := of_decide_eq_false c2; omega)
        have w2 : IntKind.i64.wrap ((a.getD 0 0 : Nat) : Int) = ((T : Nat) : Int) := by rw [IntKind.wrap_i64]; omega
        simp only [gaddInv, envR, con0, conN0, conN1, conN2, natsOf_arr, rowOf_arr, natsOf_cells, rowOf_cells, toN, natL_st, natL_d, natL_enc, natL_up, ga0, c1, c2, rA, w2, h5, h6, go_sem, reduceCtorEq, ↓reduceIte, Nat.reduceAdd, Nat.reduceMul, Nat.reduceSub, Nat.reduceEqDiff, Nat.reduceLT, Nat.reduceBEq, Nat.reduceBNe, Nat.reduceLeDiff, Int.reduceLE, Int.reduceLT, Int.reduceToNat, Int.reduceEq, Int.reduceAdd, UInt8.reduceToNat, UInt32.reduceToNat, UInt64.reduceToNat, UInt8.reduceOfNat, UInt32.reduceOfNat, UInt64.reduceOfNat, Fin.isValue, Int.reduceSub, Int.reduceMul, Int.reduceNeg, Int.reduceMod, Int.reduceDiv, Int.reduceTDiv, Int.reduceTMod, Int.reduceBEq, Int.reduceBNe, Nat.reduceDiv, Nat.reducePow]
        refine ⟨by omega, by omega, again 1 [(500, 120032)] (by omega) (by omega) ?_⟩
        simp only [gaddInv, gl0, gc0, envR, con0, conN0, conN1, conN2, natsOf_arr, rowOf_arr, natsOf_cells, rowOf_cells, toN, natL_st, natL_d, natL_enc, natL_up, ga0, go_sem, reduceCtorEq, ↓reduceIte, Nat.reduceAdd, Nat.reduceMul, Nat.reduceSub, Nat.reduceEqDiff, Nat.reduceLT, Nat.reduceBEq, Nat.reduceBNe, Nat.reduceLeDiff, Int.reduceLE, Int.reduceLT, Int.reduceToNat, Int.reduceEq, Int.reduceAdd, UInt8.reduceToNat, UInt32.reduceToNat, UInt64.reduceToNat, UInt8.reduceOfNat, UInt32.reduceOfNat, UInt64.reduceOfNat, Fin.isValue, Int.reduceSub, Int.reduceMul, Int.reduceNeg, Int.reduceMod, Int.reduceDiv, Int.reduceTDiv, Int.reduceTMod, Int.reduceBEq, Int.reduceBNe, Nat.reduceDiv, Nat.reducePow]
        exact ⟨rfl, id, id⟩
    · have hw : IntKind.i64.wrap (((i + 1 : Nat) : Int) + 1) = ((i + 1 + 1 : Nat) : Int) := by rw [IntKind.wrap_i64]; omega
      have hgo := fun h => add_go (by decide : 1 < 65536) ha hb hi h
      cases c1 : decide (((i + 1 : Nat) : Int) < (a.length : Int)) with
      | true =>
        have g1 : i + 1 < a.length := by have := of_decide_eq_true c1; omega
        have hgo := hgo (.inl g1)
        have rA := pA (i + 1) g1
        cases c2 : decide (((i + 1 : Nat) : Int) < (b.length : Int)) with
        | true =>
          have g2 : i + 1 < b.length := by have := of_decide_eq_true c2; omega
          have rB := pB (i + 1) g2
          have w1 : IntKind.i64.wrap (((addG 65536 a b (i + 1)).2 : Int) + ((a.getD (i + 1) 0 : Nat) : Int)) = (((addG 65536 a b (i + 1)).2 + a.getD (i + 1) 0 : Nat) : Int) := by rw [IntKind.wrap_i64]; omega
          have w2 : IntKind.i64.wrap ((((addG 65536 a b (i + 1)).2 + a.getD (i + 1) 0 : Nat) : Int) + ((b.getD (i + 1) 0 : Nat) : Int)) = ((T : Nat) : Int) := by rw [IntKind.wrap_i64]; omega
          simp only [gaddInv, envR, con0, conN0, conN1, conN2, natsOf_arr, rowOf_arr, natsOf_cells, rowOf_cells, toN, natL_st, natL_d, natL_enc, natL_up, ga0, c1, c2, rA, rB, w1, w2, h5, h6, hw, go_sem, reduceCtorEq, ↓reduceIte, Nat.reduceAdd, Nat.reduceMul, Nat.reduceSub, Nat.reduceEqDiff, Nat.reduceLT, Nat.reduceBEq, Nat.reduceBNe, Nat.reduceLeDiff, Int.reduceLE, Int.reduceLT, Int.reduceToNat, Int.reduceEq, Int.reduceAdd, UInt8.reduceToNat, UInt32.reduceToNat, UInt64.reduceToNat, UInt8.reduceOfNat, UInt32.reduceOfNat, UInt64.reduceOfNat, Fin.isValue, Int.reduceSub, Int.reduceMul, Int.reduceNeg, Int.reduceMod, Int.reduceDiv, Int.reduceTDiv, Int.reduceTMod, Int.reduceBEq, Int.reduceBNe, Nat.reduceDiv, Nat.reducePow]
          repeat' apply And.intro
          all_goals first
            | omega
            | skip
          refine again (i + 1 + 1) [(500, 120032)] (by omega) (by omega) ?_
          simp only [gaddInv, gl, gc, envR, con0, conN0, conN1, conN2, natsOf_arr, rowOf_arr, natsOf_cells, rowOf_cells, toN, natL_st, natL_d, natL_enc, natL_up, ga0, go_sem, reduceCtorEq, ↓reduceIte, Nat.reduceAdd, Nat.reduceMul, Nat.reduceSub, Nat.reduceEqDiff, Nat.reduceLT, Nat.reduceBEq, Nat.reduceBNe, Nat.reduceLeDiff, Int.reduceLE, Int.reduceLT, Int.reduceToNat, Int.reduceEq, Int.reduceAdd, UInt8.reduceToNat, UInt32.reduceToNat, UInt64.reduceToNat, UInt8.reduceOfNat, UInt32.reduceOfNat, UInt64.reduceOfNat, Fin.isValue, Int.reduceSub, Int.reduceMul, Int.reduceNeg, Int.reduceMod, Int.reduceDiv, Int.reduceTDiv, Int.reduceTMod, Int.reduceBEq, Int.reduceBNe, Nat.reduceDiv, Nat.reducePow]
          exact ⟨rfl, id, id⟩
        | false =>
          have zb := getD_out (l := b) (i := i + 1) (by have := of_decide_eq_false c2; omega)
          have w1 : IntKind.i64.wrap (((addG 65536 a b (i + 1)).2 : Int) + ((a.getD (i + 1) 0 : Nat) : Int)) = ((T : Nat) : Int) := by rw [IntKind.wrap_i64]; omega
          simp only [gaddInv, envR, con0, conN0, conN1, conN2, natsOf_arr, rowOf_arr, natsOf_cells, rowOf_cells, toN, natL_st, natL_d, natL_enc, natL_up, ga0, c1, c2, rA, w1, h5, h6, hw, go_sem, reduceCtorEq, ↓reduceIte, Nat.reduceAdd, Nat.reduceMul, Nat.reduceSub, Nat.reduceEqDiff, Nat.reduceLT, Nat.reduceBEq, Nat.reduceBNe, Nat.reduceLeDiff, Int.reduceLE, Int.reduceLT, Int.reduceToNat, Int.reduceEq, Int.reduceAdd, UInt8.reduceToNat, UInt32.reduceToNat, UInt64.reduceToNat, UInt8.reduceOfNat, UInt32.reduceOfNat, UInt64.reduceOfNat, Fin.isValue, Int.reduceSub, Int.reduceMul, Int.reduceNeg, Int.reduceMod, Int.reduceDiv, Int.reduceTDiv, Int.reduceTMod, Int.reduceBEq, Int.reduceBNe, Nat.reduceDiv, Nat.reducePow]
          repeat' apply And.intro
          all_goals first
            | omega
            | skip
          refine again (i + 1 + 1) [(500, 120032)] (by omega) (by omega) ?_
          simp only [gaddInv, gl, gc, envR, con0, conN0, conN1, conN2, natsOf_arr, rowOf_arr, natsOf_cells, rowOf_cells, toN, natL_st, natL_d, natL_enc, natL_up, ga0, go_sem, reduceCtorEq, ↓reduceIte, Nat.reduceAdd, Nat.reduceMul, Nat.reduceSub, Nat.reduceEqDiff, Nat.reduceLT, Nat.reduceBEq, Nat.reduceBNe, Nat.reduceLeDiff, Int.reduceLE, Int.reduceLT, Int.reduceToNat, Int.reduceEq, Int.reduceAdd, UInt8.reduceToNat, UInt32.reduceToNat, UInt64.reduceToNat, UInt8.reduceOfNat, UInt32.reduceOfNat, UInt64.reduceOfNat, Fin.isValue, Int.reduceSub, Int.reduceMul, Int.reduceNeg, Int.reduceMod, Int.reduceDiv, Int.reduceTDiv, Int.reduceTMod, Int.reduceBEq, Int.reduceBNe, Nat.reduceDiv, Nat.reducePow]
          exact ⟨rfl, id, id⟩
      | false =>
        have za := getD_out (l := a) (i := i + 1) (by have := of_decide_eq_false c1; omega)
        cases c2 : decide (((i + 1 : Nat) : Int) < (b.length : Int)) with
        | true =>
          have g2 : i + 1 < b.length := by have := of_decide_eq_true c2; omega
          have rB := pB (i + 1) g2
          have hgo := hgo (.inr (.inl g2))
          have w1 : IntKind.i64.wrap (((addG 65536 a b (i + 1)).2 : Int) + ((b.getD (i + 1) 0 : Nat) : Int)) = ((T : Nat) : Int) := by rw [IntKind.wrap_i64]; omega
          simp only [gaddInv, envR, con0, conN0, conN1, conN2, natsOf_arr, rowOf_arr, natsOf_cells, rowOf_cells, toN, natL_st, natL_d, natL_enc, natL_up, ga0, c1, c2, rB, w1, h5, h6, hw, go_sem, reduceCtorEq, ↓reduceIte, Nat.reduceAdd, Nat.reduceMul, Nat.reduceSub, Nat.reduceEqDiff, Nat.reduceLT, Nat.reduceBEq, Nat.reduceBNe, Nat.reduceLeDiff, Int.reduceLE, Int.reduceLT, Int.reduceToNat, Int.reduceEq, Int.reduceAdd, UInt8.reduceToNat, UInt32.reduceToNat, UInt64.reduceToNat, UInt8.reduceOfNat, UInt32.reduceOfNat, UInt64.reduceOfNat, Fin.isValue, Int.reduceSub, Int.reduceMul, Int.reduceNeg, Int.reduceMod, Int.reduceDiv, Int.reduceTDiv, Int.reduceTMod, Int.reduceBEq, Int.reduceBNe, Nat.reduceDiv, Nat.reducePow]
          repeat' apply And.intro
          all_goals first
            | omega
            | skip
          refine again (i + 1 + 1) [(500, 120032)] (by omega) (by omega) ?_
          simp only [gaddInv, gl, gc, envR, con0, conN0, conN1, conN2, natsOf_arr, rowOf_arr, natsOf_cells, rowOf_cells, toN, natL_st, natL_d, natL_enc, natL_up, ga0, go_sem, reduceCtorEq, ↓reduceIte, Nat.reduceAdd, Nat.reduceMul, Nat.reduceSub, Nat.reduceEqDiff, Nat.reduceLT, Nat.reduceBEq, Nat.reduceBNe, Nat.reduceLeDiff, Int.reduceLE, Int.reduceLT, Int.reduceToNat, Int.reduceEq, Int.reduceAdd, UInt8.reduceToNat, UInt32.reduceToNat, UInt64.reduceToNat, UInt8.reduceOfNat, UInt32.reduceOfNat, UInt64.reduceOfNat, Fin.isValue, Int.reduceSub, Int.reduceMul, Int.reduceNeg, Int.reduceMod, Int.reduceDiv, Int.reduceTDiv, Int.reduceTMod, Int.reduceBEq, Int.reduceBNe, Nat.reduceDiv, Nat.reducePow]
          exact ⟨rfl, id, id⟩
        | false =>
          have zb := getD_out (l := b) (i := i + 1) (by have := of_decide_eq_false c2; omega)
          cases c3 : decide ((0 : Int) < ((addG 65536 a b (i + 1)).2 : Int)) with
          | true =>
            have hgo := hgo (.inr (.inr (by have := of_decide_eq_true c3; omega)))
            have w1 : (addG 65536 a b (i + 1)).2 = T := by omega
            have c4 : decide ((0 : Int) < (T : Int)) = true := by rw [← w1]; exact c3
            simp only [gaddInv, envR, con0, conN0, conN1, conN2, natsOf_arr, rowOf_arr, natsOf_cells, rowOf_cells, toN, natL_st, natL_d, natL_enc, natL_up, ga0, c1, c2, c3, c4, w1, h5, h6, hw, go_sem, reduceCtorEq, ↓reduceIte, Nat.reduceAdd, Nat.reduceMul, Nat.reduceSub, Nat.reduceEqDiff, Nat.reduceLT, Nat.reduceBEq, Nat.reduceBNe, Nat.reduceLeDiff, Int.reduceLE, Int.reduceLT, Int.reduceToNat, Int.reduceEq, Int.reduceAdd, UInt8.reduceToNat, UInt32.reduceToNat, UInt64.reduceToNat, UInt8.reduceOfNat, UInt32.reduceOfNat, UInt64.reduceOfNat, Fin.isValue, Int.reduceSub, Int.reduceMul, Int.reduceNeg, Int.reduceMod, Int.reduceDiv, Int.reduceTDiv, Int.reduceTMod, Int.reduceBEq, Int.reduceBNe, Nat.reduceDiv, Nat.reducePow]
            repeat' apply And.intro
            all_goals first
              | omega
              | skip
            refine again (i + 1 + 1) [(500, 120032)] (by omega) (by omega) ?_
            simp only [gaddInv, gl, gc, envR, con0, conN0, conN1, conN2, natsOf_arr, rowOf_arr, natsOf_cells, rowOf_cells, toN, natL_st, natL_d, natL_enc, natL_up, ga0, go_sem, reduceCtorEq, ↓reduceIte, Nat.reduceAdd, Nat.reduceMul, Nat.reduceSub, Nat.reduceEqDiff, Nat.reduceLT, Nat.reduceBEq, Nat.reduceBNe, Nat.reduceLeDiff, Int.reduceLE, Int.reduceLT, Int.reduceToNat, Int.reduceEq, Int.reduceAdd, UInt8.reduceToNat, UInt32.reduceToNat, UInt64.reduceToNat, UInt8.reduceOfNat, UInt32.reduceOfNat, UInt64.reduceOfNat, Fin.isValue, Int.reduceSub, Int.reduceMul, Int.reduceNeg, Int.reduceMod, Int.reduceDiv, Int.reduceTDiv, Int.reduceTMod, Int.reduceBEq, Int.reduceBNe, Nat.reduceDiv, Nat.reducePow]
            exact ⟨rfl, id, id⟩
          | false =>
            have he : i + 1 = addLen 65536 a b := add_end hi (by have := of_decide_eq_false c1; omega) (by have := of_decide_eq_false c2; omega) (by have := of_decide_eq_false c3; omega)
            have hl2 := addL_len 65536 a b
            have hr : (addG 65536 a b (i + 1)).1 = addL 65536 a b := by rw [addL, he]
            simp only [gaddInv, envR, con0, conN0, conN1, conN2, natsOf_arr, rowOf_arr, natsOf_cells, rowOf_cells, toN, natL_st, natL_d, natL_enc, natL_up, ga0, c1, c2, c3, hr, hl2, ← he, hw, go_sem, reduceCtorEq, ↓reduceIte, Nat.reduceAdd, Nat.reduceMul, Nat.reduceSub, Nat.reduceEqDiff, Nat.reduceLT, Nat.reduceBEq, Nat.reduceBNe, Nat.reduceLeDiff, Int.reduceLE, Int.reduceLT, Int.reduceToNat, Int.reduceEq, Int.reduceAdd, UInt8.reduceToNat, UInt32.reduceToNat, UInt64.reduceToNat, UInt8.reduceOfNat, UInt32.reduceOfNat, UInt64.reduceOfNat, Fin.isValue, Int.reduceSub, Int.reduceMul, Int.reduceNeg, Int.reduceMod, Int.reduceDiv, Int.reduceTDiv, Int.reduceTMod, Int.reduceBEq, Int.reduceBNe, Nat.reduceDiv, Nat.reducePow]
            exact ⟨rfl, id, id⟩
def gaddC : Con := conN2 fun args a b => match args with
  | [.one (.sl 0 0 1 n), .one (.sl 1 0 1 m)] => some (.c (.one (.sl 2 0 1 (addL 65536 (a.take n) (b.take m)).length)), addL 65536 (a.take n) (b.take m), [n ≤ a.length, m ≤ b.length, dlt 65536 (a.take n), dlt 65536 (b.take m), n ≤ 1000, m ≤ 1000, 0 < n])
  | _ => none
theorem gaddC_ok : ConOk Try.prog 36 gaddC := conN2_ok Try.func36 rfl rfl fun args a b v r ob h hob wa wb => by
  split at h
  · rename_i n m
    injection h with h; injection h with h1 h2; injection h2 with h2 h3; subst h1; subst h2; subst h3
    obtain ⟨o1, o2, o3, o4, o5, o6, o7, _⟩ := hob
    have e1 : (a.take n).length = n := by rw [List.length_take]; omega
    have e2 : (b.take m).length = m := by rw [List.length_take]; omega
    have := gadd_tri a b (a.take n) (b.take m) wa wb (by omega) (by omega) (fun i hi => take_getD a n i hi) (fun i hi => take_getD b m i hi) o3 o4 (by omega) (by omega) (by omega)
    rw [e1, e2] at this
    exact this
  · cases h
end Go.Proofs.Ytdkmkifebhggeaa
