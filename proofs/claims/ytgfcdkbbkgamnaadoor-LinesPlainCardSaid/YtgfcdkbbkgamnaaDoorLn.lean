/-
  Layer 17: lines without a literal, one behind the other.
-/
import Derived.Test.YtgfcdkbbkgamnaaDoorSz
import Derived.Test.YtgfcdkbbkgamnaaDoorLm
import Derived.Test.YtgfcdkbbkgamnaaDoorRo
namespace Go.Proofs.YtgfcdkbbkgamnaaDoor
open Go Go.RowKit
set_option maxHeartbeats 4000000
set_option linter.unusedSimpArgs false
set_option linter.unusedVariables false
def catL : List (List UInt8) → List UInt8
  | [] => []
  | x :: l => x ++ ([13, 10] ++ catL l)
theorem catL_snoc (l : List (List UInt8)) (x : List UInt8) : catL (l ++ [x]) = catL l ++ (x ++ [13, 10]) := by
  induction l with
  | nil => simp [catL]
  | cons y l ih => simp [catL, ih]
structure PlainLn (x : List UInt8) : Prop where
  no : ∀ j, j < x.length → x.getD j 0 ≠ 13
  lit : litO x = none
  len : x.length ≤ 100
theorem catL_len : ∀ (l : List (List UInt8)), (∀ x ∈ l, PlainLn x) → (catL l).length ≤ 102 * l.length
  | [], _ => Nat.le_refl _
  | x :: l, h => by
    have h1 := (h x (by simp)).len
    have h2 := catL_len l fun y hy => h y (by simp [hy])
    simp only [catL, List.length_append, List.length_cons, List.length_nil]
    omega
theorem take_plain (x r : List UInt8) (h : PlainLn x) : takeL (x ++ ([13, 10] ++ r)) = ⟨[x], [], r, 1, 0⟩ := by
  have hl := h.len
  have he : eol (x ++ ([13, 10] ++ r)) = some x.length := eol_first (by simp) (by
    rw [List.getElem?_append_right (by omega)]; simp) fun j hj hc => by
      have := hc.1
      rw [List.getElem?_append_left hj] at this
      apply h.no j hj
      rw [List.getD_eq_getElem?_getD, this]; rfl
  have hn : ¬ 512 < x.length := by omega
  have h1 : nxC (x ++ ([13, 10] ++ r)) = 1 := by simp only [nxC, he, hn, if_false]
  have h2 : nxA (x ++ ([13, 10] ++ r)) = x := by simp only [nxA, he, hn, if_false]; simp
  have h3 : nxB (x ++ ([13, 10] ++ r)) = r := by
    simp only [nxB, he]
    rw [← List.append_assoc, List.drop_append, List.drop_eq_nil_of_le (by simp)]
    simp
  rw [takeL, takeS, if_pos h1, h2, h.lit, h3]
  rfl
def plInv (l : List (List UInt8)) (i : Nat) : St := ⟨[(0, .c (.one (.sl 0 0 1 l.length))), (3, .c (.one (.str (catL (l.take i))))), (19, .c (.one (.sl 0 0 1 l.length))), (20, .c (.one (.num l.length))), (21, .c (.one (.num i)))], [(0, ⟨.arr _ strL l, false⟩)]⟩
def piInv (l : List (List UInt8)) (i : Nat) (x : List UInt8) (j : Nat) : St := ⟨[(0, .c (.one (.sl 0 0 1 l.length))), (3, .c (.one (.str (catL (l.take i))))), (5, .c (.one (.str x))), (19, .c (.one (.sl 0 0 1 l.length))), (20, .c (.one (.num l.length))), (21, .c (.one (.num i))), (25, .c (.one (.str x))), (26, .c (.one (.num x.length))), (27, .c (.one (.num j)))], [(0, ⟨.arr _ strL l, false⟩)]⟩
def pkInv (l : List (List UInt8)) (i : Nat) : St := ⟨[(3, .c (.one (.str (catL (l.drop i))))), (54, .c (.one (.sl 0 0 1 l.length))), (55, .c (.one (.num l.length))), (56, .c (.one (.num i)))], [(0, ⟨.arr _ strL l, false⟩)]⟩
def plOk (l : List (List UInt8)) (i : Nat) : Prop := i ≤ l.length
theorem plOk_of {l : List (List UInt8)} {i : Nat} (h : i ≤ l.length) : plOk l i := h
theorem get_mem {l : List (List UInt8)} {i : Nat} (h : i < l.length) : l.getD i [] ∈ l := by
  rw [List.getD_eq_getElem?_getD, List.getElem?_eq_getElem h]; exact List.getElem_mem h
theorem take_snoc {l : List (List UInt8)} {i : Nat} (h : i < l.length) : l.take (i + 1) = l.take i ++ [l.getD i []] := by
  rw [List.take_add_one, List.getD_eq_getElem?_getD, List.getElem?_eq_getElem h]; rfl
theorem drop_cons {l : List (List UInt8)} {i : Nat} (h : i < l.length) : l.drop i = l.getD i [] :: l.drop (i + 1) := by
  rw [List.drop_eq_getElem_cons h, List.getD_eq_getElem?_getD, List.getElem?_eq_getElem h]; rfl
def gaPl : Nat → Option Con := fun f => match f with
  | 28 => some awake17C
  | 32 => some refLiteralC
  | 33 => some takeC
  | _ => none
theorem gaPl_ok : GaOkG Tryd.prog GL gaPl := fun f con h => by
  unfold gaPl at h
  split at h
  · injection h with h; subst h; exact awake17C_ok
  · injection h with h; subst h; exact refLiteralC_ok
  · injection h with h; subst h; exact takeC_ok
  · cases h
set_option maxRecDepth 100000 in
theorem lawPlain_tri (l : List (List UInt8)) (hx : ∀ x ∈ l, x.length ≤ 9223372036854775807) : TriG Tryd.prog GL 11 [.one (.sl 0 0 1 l.length)] [(0, ⟨.arr _ strL l, false⟩)] (.c (.one (.bo true))) [(0, ⟨.arr _ strL l, false⟩)] := by
  refine tri_ofx (envLK_ok gaPl_ok 101 [0]) Tryd.func11 rfl rfl (rs := [.tmp 2]) rfl rfl (by simp [envLK]) rfl ?_
  cases h20 : decide ((20 : Int) < l.length) with
  | true =>
    simp only [envLK, con0, conS, strsOf_arr, rowS_arr, strsOf_cells, rowS_cells, toS, strL_st, strL_d, strL_enc, strL_up, hpN_nil, hpN_cons, gaPl, awake17C, refLiteralC, takeC, h20, go_sem, reduceCtorEq, ↓reduceIte, Nat.reduceAdd, Nat.reduceMul, Nat.reduceSub, Nat.reduceEqDiff, Nat.reduceLT, Nat.reduceBEq, Nat.reduceBNe, Nat.reduceLeDiff, Int.reduceLE, Int.reduceLT, Int.reduceToNat, Int.reduceEq, Int.reduceAdd, UInt8.reduceToNat, UInt32.reduceToNat, UInt64.reduceToNat, UInt8.reduceOfNat, UInt32.reduceOfNat, UInt64.reduceOfNat, Fin.isValue, Int.reduceSub, Int.reduceMul, Int.reduceNeg, Int.reduceMod, Int.reduceDiv, Int.reduceTDiv, Int.reduceTMod, Int.reduceBEq, Int.reduceBNe, Nat.reduceDiv, Nat.reducePow]
    refine endX [] ?_
    simp only [envLK, con0, conS, strsOf_arr, rowS_arr, strsOf_cells, rowS_cells, toS, strL_st, strL_d, strL_enc, strL_up, hpN_nil, hpN_cons, gaPl, awake17C, refLiteralC, takeC, go_sem, reduceCtorEq, ↓reduceIte, Nat.reduceAdd, Nat.reduceMul, Nat.reduceSub, Nat.reduceEqDiff, Nat.reduceLT, Nat.reduceBEq, Nat.reduceBNe, Nat.reduceLeDiff, Int.reduceLE, Int.reduceLT, Int.reduceToNat, Int.reduceEq, Int.reduceAdd, UInt8.reduceToNat, UInt32.reduceToNat, UInt64.reduceToNat, UInt8.reduceOfNat, UInt32.reduceOfNat, UInt64.reduceOfNat, Fin.isValue, Int.reduceSub, Int.reduceMul, Int.reduceNeg, Int.reduceMod, Int.reduceDiv, Int.reduceTDiv, Int.reduceTMod, Int.reduceBEq, Int.reduceBNe, Nat.reduceDiv, Nat.reducePow]
    ((repeat' apply And.intro) <;> first | omega | exact rfl | exact id)
  | false =>
    have hl : l.length ≤ 20 := by have := of_decide_eq_false h20; omega
    simp only [envLK, con0, conS, strsOf_arr, rowS_arr, strsOf_cells, rowS_cells, toS, strL_st, strL_d, strL_enc, strL_up, hpN_nil, hpN_cons, gaPl, awake17C, refLiteralC, takeC, h20, go_sem, reduceCtorEq, ↓reduceIte, Nat.reduceAdd, Nat.reduceMul, Nat.reduceSub, Nat.reduceEqDiff, Nat.reduceLT, Nat.reduceBEq, Nat.reduceBNe, Nat.reduceLeDiff, Int.reduceLE, Int.reduceLT, Int.reduceToNat, Int.reduceEq, Int.reduceAdd, UInt8.reduceToNat, UInt32.reduceToNat, UInt64.reduceToNat, UInt8.reduceOfNat, UInt32.reduceOfNat, UInt64.reduceOfNat, Fin.isValue, Int.reduceSub, Int.reduceMul, Int.reduceNeg, Int.reduceMod, Int.reduceDiv, Int.reduceTDiv, Int.reduceTMod, Int.reduceBEq, Int.reduceBNe, Nat.reduceDiv, Nat.reducePow]
    refine loop_inv (envLK_ok gaPl_ok 101 [0]) (plInv l) (fun i => i ≤ l.length ∧ ∀ x ∈ l.take i, PlainLn x) (fun i => l.length - i) 0 [] ⟨Nat.zero_le _, fun x hx => by simp at hx⟩ ?_ ?_
    · simp only [plInv, List.take_zero, catL, go_sem, reduceCtorEq, ↓reduceIte, Nat.reduceAdd, Nat.reduceMul, Nat.reduceSub, Nat.reduceEqDiff, Nat.reduceLT, Nat.reduceBEq, Nat.reduceBNe, Nat.reduceLeDiff, Int.reduceLE, Int.reduceLT, Int.reduceToNat, Int.reduceEq, Int.reduceAdd, UInt8.reduceToNat, UInt32.reduceToNat, UInt64.reduceToNat, UInt8.reduceOfNat, UInt32.reduceOfNat, UInt64.reduceOfNat, Fin.isValue, Int.reduceSub, Int.reduceMul, Int.reduceNeg, Int.reduceMod, Int.reduceDiv, Int.reduceTDiv, Int.reduceTMod, Int.reduceBEq, Int.reduceBNe, Nat.reduceDiv, Nat.reducePow]
      all_goals ((repeat' apply And.intro) <;> first | omega | exact rfl | exact id)
    · intro i hi
      obtain ⟨hi1, hi2⟩ := hi
      have hw : IntKind.i64.wrap ((i : Int) + 1) = ((i + 1 : Nat) : Int) := by rw [IntKind.wrap_i64]; omega
      have hcl := catL_len _ hi2
      rw [List.length_take] at hcl
      simp only [envLK, con0, conS, strsOf_arr, rowS_arr, strsOf_cells, rowS_cells, toS, strL_st, strL_d, strL_enc, strL_up, hpN_nil, hpN_cons, gaPl, awake17C, refLiteralC, takeC, plInv, hw, go_sem, reduceCtorEq, ↓reduceIte, Nat.reduceAdd, Nat.reduceMul, Nat.reduceSub, Nat.reduceEqDiff, Nat.reduceLT, Nat.reduceBEq, Nat.reduceBNe, Nat.reduceLeDiff, Int.reduceLE, Int.reduceLT, Int.reduceToNat, Int.reduceEq, Int.reduceAdd, UInt8.reduceToNat, UInt32.reduceToNat, UInt64.reduceToNat, UInt8.reduceOfNat, UInt32.reduceOfNat, UInt64.reduceOfNat, Fin.isValue, Int.reduceSub, Int.reduceMul, Int.reduceNeg, Int.reduceMod, Int.reduceDiv, Int.reduceTDiv, Int.reduceTMod, Int.reduceBEq, Int.reduceBNe, Nat.reduceDiv, Nat.reducePow]
      refine br (fun h => ?_) fun h => ?_
      · have hlt : i < l.length := by have := of_decide_eq_true h; omega
        have hxl := hx _ (get_mem hlt)
        have hsn := take_snoc hlt
        simp only [envLK, con0, conS, strsOf_arr, rowS_arr, strsOf_cells, rowS_cells, toS, strL_st, strL_d, strL_enc, strL_up, hpN_nil, hpN_cons, gaPl, awake17C, refLiteralC, takeC, h, hw, strL_st, strL_d, strL_enc, go_sem, reduceCtorEq, ↓reduceIte, Nat.reduceAdd, Nat.reduceMul, Nat.reduceSub, Nat.reduceEqDiff, Nat.reduceLT, Nat.reduceBEq, Nat.reduceBNe, Nat.reduceLeDiff, Int.reduceLE, Int.reduceLT, Int.reduceToNat, Int.reduceEq, Int.reduceAdd, UInt8.reduceToNat, UInt32.reduceToNat, UInt64.reduceToNat, UInt8.reduceOfNat, UInt32.reduceOfNat, UInt64.reduceOfNat, Fin.isValue, Int.reduceSub, Int.reduceMul, Int.reduceNeg, Int.reduceMod, Int.reduceDiv, Int.reduceTDiv, Int.reduceTMod, Int.reduceBEq, Int.reduceBNe, Nat.reduceDiv, Nat.reducePow]
        generalize hxe : l.getD i [] = x at hxl hsn
        (repeat' apply And.intro)
        rotate_right
        · refine loop_inv (envLK_ok gaPl_ok 101 [0]) (piInv l i x) (fun j => j ≤ x.length ∧ ∀ k, k < j → x.getD k 0 ≠ 13) (fun j => x.length - j) 0 [] ⟨Nat.zero_le _, fun k hk => by omega⟩ ?_ ?_
          · simp only [piInv, hxe, go_sem, reduceCtorEq, ↓reduceIte, Nat.reduceAdd, Nat.reduceMul, Nat.reduceSub, Nat.reduceEqDiff, Nat.reduceLT, Nat.reduceBEq, Nat.reduceBNe, Nat.reduceLeDiff, Int.reduceLE, Int.reduceLT, Int.reduceToNat, Int.reduceEq, Int.reduceAdd, UInt8.reduceToNat, UInt32.reduceToNat, UInt64.reduceToNat, UInt8.reduceOfNat, UInt32.reduceOfNat, UInt64.reduceOfNat, Fin.isValue, Int.reduceSub, Int.reduceMul, Int.reduceNeg, Int.reduceMod, Int.reduceDiv, Int.reduceTDiv, Int.reduceTMod, Int.reduceBEq, Int.reduceBNe, Nat.reduceDiv, Nat.reducePow]
            all_goals ((repeat' apply And.intro) <;> first | omega | exact rfl | exact id)
          · intro j hj
            obtain ⟨hj1, hj2⟩ := hj
            simp only [envLK, con0, conS, strsOf_arr, rowS_arr, strsOf_cells, rowS_cells, toS, strL_st, strL_d, strL_enc, strL_up, hpN_nil, hpN_cons, gaPl, awake17C, refLiteralC, takeC, piInv, hw, go_sem, reduceCtorEq, ↓reduceIte, Nat.reduceAdd, Nat.reduceMul, Nat.reduceSub, Nat.reduceEqDiff, Nat.reduceLT, Nat.reduceBEq, Nat.reduceBNe, Nat.reduceLeDiff, Int.reduceLE, Int.reduceLT, Int.reduceToNat, Int.reduceEq, Int.reduceAdd, UInt8.reduceToNat, UInt32.reduceToNat, UInt64.reduceToNat, UInt8.reduceOfNat, UInt32.reduceOfNat, UInt64.reduceOfNat, Fin.isValue, Int.reduceSub, Int.reduceMul, Int.reduceNeg, Int.reduceMod, Int.reduceDiv, Int.reduceTDiv, Int.reduceTMod, Int.reduceBEq, Int.reduceBNe, Nat.reduceDiv, Nat.reducePow]
            refine br (fun h2 => ?_) fun h2 => ?_
            · have hjl : j < x.length := by have := of_decide_eq_true h2; omega
              have hwj : IntKind.i64.wrap ((j : Int) + 1) = ((j + 1 : Nat) : Int) := by rw [IntKind.wrap_i64]; omega
              cases h13 : (x.getD j 0 == 13) with
              | true =>
                simp only [envLK, con0, conS, strsOf_arr, rowS_arr, strsOf_cells, rowS_cells, toS, strL_st, strL_d, strL_enc, strL_up, hpN_nil, hpN_cons, gaPl, awake17C, refLiteralC, takeC, h2, h13, hw, hwj, go_sem, reduceCtorEq, ↓reduceIte, Nat.reduceAdd, Nat.reduceMul, Nat.reduceSub, Nat.reduceEqDiff, Nat.reduceLT, Nat.reduceBEq, Nat.reduceBNe, Nat.reduceLeDiff, Int.reduceLE, Int.reduceLT, Int.reduceToNat, Int.reduceEq, Int.reduceAdd, UInt8.reduceToNat, UInt32.reduceToNat, UInt64.reduceToNat, UInt8.reduceOfNat, UInt32.reduceOfNat, UInt64.reduceOfNat, Fin.isValue, Int.reduceSub, Int.reduceMul, Int.reduceNeg, Int.reduceMod, Int.reduceDiv, Int.reduceTDiv, Int.reduceTMod, Int.reduceBEq, Int.reduceBNe, Nat.reduceDiv, Nat.reducePow]
                repeat' apply And.intro
                rotate_right
                · refine endX [] ?_
                  simp only [envLK, con0, conS, strsOf_arr, rowS_arr, strsOf_cells, rowS_cells, toS, strL_st, strL_d, strL_enc, strL_up, hpN_nil, hpN_cons, gaPl, awake17C, refLiteralC, takeC, go_sem, reduceCtorEq, ↓reduceIte, Nat.reduceAdd, Nat.reduceMul, Nat.reduceSub, Nat.reduceEqDiff, Nat.reduceLT, Nat.reduceBEq, Nat.reduceBNe, Nat.reduceLeDiff, Int.reduceLE, Int.reduceLT, Int.reduceToNat, Int.reduceEq, Int.reduceAdd, UInt8.reduceToNat, UInt32.reduceToNat, UInt64.reduceToNat, UInt8.reduceOfNat, UInt32.reduceOfNat, UInt64.reduceOfNat, Fin.isValue, Int.reduceSub, Int.reduceMul, Int.reduceNeg, Int.reduceMod, Int.reduceDiv, Int.reduceTDiv, Int.reduceTMod, Int.reduceBEq, Int.reduceBNe, Nat.reduceDiv, Nat.reducePow]
                  all_goals ((repeat' apply And.intro) <;> first | omega | exact rfl | exact id)
                all_goals first | omega | exact rfl | exact id
              | false =>
                have hne : x.getD j 0 ≠ 13 := by simpa using h13
                simp only [envLK, con0, conS, strsOf_arr, rowS_arr, strsOf_cells, rowS_cells, toS, strL_st, strL_d, strL_enc, strL_up, hpN_nil, hpN_cons, gaPl, awake17C, refLiteralC, takeC, h2, h13, hw, hwj, go_sem, reduceCtorEq, ↓reduceIte, Nat.reduceAdd, Nat.reduceMul, Nat.reduceSub, Nat.reduceEqDiff, Nat.reduceLT, Nat.reduceBEq, Nat.reduceBNe, Nat.reduceLeDiff, Int.reduceLE, Int.reduceLT, Int.reduceToNat, Int.reduceEq, Int.reduceAdd, UInt8.reduceToNat, UInt32.reduceToNat, UInt64.reduceToNat, UInt8.reduceOfNat, UInt32.reduceOfNat, UInt64.reduceOfNat, Fin.isValue, Int.reduceSub, Int.reduceMul, Int.reduceNeg, Int.reduceMod, Int.reduceDiv, Int.reduceTDiv, Int.reduceTMod, Int.reduceBEq, Int.reduceBNe, Nat.reduceDiv, Nat.reducePow]
                repeat' apply And.intro
                rotate_right
                · refine again (j + 1) [] ⟨hjl, fun k hk => by rcases Nat.lt_or_ge k j with h' | h'; exact hj2 k h'; exact (show k = j by omega) ▸ hne⟩ (by show x.length - (j + 1) < x.length - j; omega) ?_
                  simp only [piInv, envLK, con0, conS, strsOf_arr, rowS_arr, strsOf_cells, rowS_cells, toS, strL_st, strL_d, strL_enc, strL_up, hpN_nil, hpN_cons, gaPl, awake17C, refLiteralC, takeC, go_sem, reduceCtorEq, ↓reduceIte, Nat.reduceAdd, Nat.reduceMul, Nat.reduceSub, Nat.reduceEqDiff, Nat.reduceLT, Nat.reduceBEq, Nat.reduceBNe, Nat.reduceLeDiff, Int.reduceLE, Int.reduceLT, Int.reduceToNat, Int.reduceEq, Int.reduceAdd, UInt8.reduceToNat, UInt32.reduceToNat, UInt64.reduceToNat, UInt8.reduceOfNat, UInt32.reduceOfNat, UInt64.reduceOfNat, Fin.isValue, Int.reduceSub, Int.reduceMul, Int.reduceNeg, Int.reduceMod, Int.reduceDiv, Int.reduceTDiv, Int.reduceTMod, Int.reduceBEq, Int.reduceBNe, Nat.reduceDiv, Nat.reducePow]
                  all_goals ((repeat' apply And.intro) <;> first | omega | exact rfl | exact id)
                all_goals first | omega | exact rfl | exact id
            · have hjl : x.length ≤ j := by have := of_decide_eq_false h2; omega
              cases hlit : litO x with
              | some q =>
                have hge : decide ((0 : Int) ≤ refLV x) = true := by unfold refLV; rw [hlit]; obtain ⟨a, n⟩ := q; simp
                simp only [envLK, con0, conS, strsOf_arr, rowS_arr, strsOf_cells, rowS_cells, toS, strL_st, strL_d, strL_enc, strL_up, hpN_nil, hpN_cons, gaPl, awake17C, refLiteralC, takeC, h2, hge, hw, go_sem, reduceCtorEq, ↓reduceIte, Nat.reduceAdd, Nat.reduceMul, Nat.reduceSub, Nat.reduceEqDiff, Nat.reduceLT, Nat.reduceBEq, Nat.reduceBNe, Nat.reduceLeDiff, Int.reduceLE, Int.reduceLT, Int.reduceToNat, Int.reduceEq, Int.reduceAdd, UInt8.reduceToNat, UInt32.reduceToNat, UInt64.reduceToNat, UInt8.reduceOfNat, UInt32.reduceOfNat, UInt64.reduceOfNat, Fin.isValue, Int.reduceSub, Int.reduceMul, Int.reduceNeg, Int.reduceMod, Int.reduceDiv, Int.reduceTDiv, Int.reduceTMod, Int.reduceBEq, Int.reduceBNe, Nat.reduceDiv, Nat.reducePow]
                repeat' apply And.intro
                rotate_right
                · refine endX [] ?_
                  simp only [envLK, con0, conS, strsOf_arr, rowS_arr, strsOf_cells, rowS_cells, toS, strL_st, strL_d, strL_enc, strL_up, hpN_nil, hpN_cons, gaPl, awake17C, refLiteralC, takeC, go_sem, reduceCtorEq, ↓reduceIte, Nat.reduceAdd, Nat.reduceMul, Nat.reduceSub, Nat.reduceEqDiff, Nat.reduceLT, Nat.reduceBEq, Nat.reduceBNe, Nat.reduceLeDiff, Int.reduceLE, Int.reduceLT, Int.reduceToNat, Int.reduceEq, Int.reduceAdd, UInt8.reduceToNat, UInt32.reduceToNat, UInt64.reduceToNat, UInt8.reduceOfNat, UInt32.reduceOfNat, UInt64.reduceOfNat, Fin.isValue, Int.reduceSub, Int.reduceMul, Int.reduceNeg, Int.reduceMod, Int.reduceDiv, Int.reduceTDiv, Int.reduceTMod, Int.reduceBEq, Int.reduceBNe, Nat.reduceDiv, Nat.reducePow]
                  all_goals ((repeat' apply And.intro) <;> first | omega | exact rfl | exact id)
                all_goals first | omega | exact rfl | exact id
              | none =>
                have hge : refLV x = -1 := by unfold refLV; rw [hlit]
                cases h100 : decide ((100 : Int) < x.length) with
                | true =>
                  simp only [envLK, con0, conS, strsOf_arr, rowS_arr, strsOf_cells, rowS_cells, toS, strL_st, strL_d, strL_enc, strL_up, hpN_nil, hpN_cons, gaPl, awake17C, refLiteralC, takeC, h2, hge, h100, hw, go_sem, reduceCtorEq, ↓reduceIte, Nat.reduceAdd, Nat.reduceMul, Nat.reduceSub, Nat.reduceEqDiff, Nat.reduceLT, Nat.reduceBEq, Nat.reduceBNe, Nat.reduceLeDiff, Int.reduceLE, Int.reduceLT, Int.reduceToNat, Int.reduceEq, Int.reduceAdd, UInt8.reduceToNat, UInt32.reduceToNat, UInt64.reduceToNat, UInt8.reduceOfNat, UInt32.reduceOfNat, UInt64.reduceOfNat, Fin.isValue, Int.reduceSub, Int.reduceMul, Int.reduceNeg, Int.reduceMod, Int.reduceDiv, Int.reduceTDiv, Int.reduceTMod, Int.reduceBEq, Int.reduceBNe, Nat.reduceDiv, Nat.reducePow]
                  repeat' apply And.intro
                  rotate_right
                  · refine endX [] ?_
                    simp only [envLK, con0, conS, strsOf_arr, rowS_arr, strsOf_cells, rowS_cells, toS, strL_st, strL_d, strL_enc, strL_up, hpN_nil, hpN_cons, gaPl, awake17C, refLiteralC, takeC, go_sem, reduceCtorEq, ↓reduceIte, Nat.reduceAdd, Nat.reduceMul, Nat.reduceSub, Nat.reduceEqDiff, Nat.reduceLT, Nat.reduceBEq, Nat.reduceBNe, Nat.reduceLeDiff, Int.reduceLE, Int.reduceLT, Int.reduceToNat, Int.reduceEq, Int.reduceAdd, UInt8.reduceToNat, UInt32.reduceToNat, UInt64.reduceToNat, UInt8.reduceOfNat, UInt32.reduceOfNat, UInt64.reduceOfNat, Fin.isValue, Int.reduceSub, Int.reduceMul, Int.reduceNeg, Int.reduceMod, Int.reduceDiv, Int.reduceTDiv, Int.reduceTMod, Int.reduceBEq, Int.reduceBNe, Nat.reduceDiv, Nat.reducePow]
                    all_goals ((repeat' apply And.intro) <;> first | omega | exact rfl | exact id)
                  all_goals first | omega | exact rfl | exact id
                | false =>
                  have hx100 : x.length ≤ 100 := by have := of_decide_eq_false h100; omega
                  have hgood : PlainLn x := ⟨fun k hk => hj2 k (by omega), hlit, hx100⟩
                  have hnext : ∀ y ∈ l.take (i + 1), PlainLn y := fun y hy => by
                    rw [hsn] at hy
                    rcases List.mem_append.1 hy with hy | hy
                    · exact hi2 y hy
                    · rw [List.mem_singleton.1 hy]; exact hgood
                  have hl2 : (x ++ [13, 10]).length = x.length + 2 := by simp
                  have hcat : catL (l.take (i + 1)) = catL (l.take i) ++ (x ++ [13, 10]) := by rw [hsn, catL_snoc]
                  simp only [envLK, con0, conS, strsOf_arr, rowS_arr, strsOf_cells, rowS_cells, toS, strL_st, strL_d, strL_enc, strL_up, hpN_nil, hpN_cons, gaPl, awake17C, refLiteralC, takeC, h2, hge, h100, hw, go_sem, reduceCtorEq, ↓reduceIte, Nat.reduceAdd, Nat.reduceMul, Nat.reduceSub, Nat.reduceEqDiff, Nat.reduceLT, Nat.reduceBEq, Nat.reduceBNe, Nat.reduceLeDiff, Int.reduceLE, Int.reduceLT, Int.reduceToNat, Int.reduceEq, Int.reduceAdd, UInt8.reduceToNat, UInt32.reduceToNat, UInt64.reduceToNat, UInt8.reduceOfNat, UInt32.reduceOfNat, UInt64.reduceOfNat, Fin.isValue, Int.reduceSub, Int.reduceMul, Int.reduceNeg, Int.reduceMod, Int.reduceDiv, Int.reduceTDiv, Int.reduceTMod, Int.reduceBEq, Int.reduceBNe, Nat.reduceDiv, Nat.reducePow]
                  repeat' apply And.intro
                  rotate_right
                  · refine again (i + 1) [] ⟨hlt, hnext⟩ (by show l.length - (i + 1) < l.length - i; omega) ?_
                    simp only [plInv, hcat, envLK, con0, conS, strsOf_arr, rowS_arr, strsOf_cells, rowS_cells, toS, strL_st, strL_d, strL_enc, strL_up, hpN_nil, hpN_cons, gaPl, awake17C, refLiteralC, takeC, go_sem, reduceCtorEq, ↓reduceIte, Nat.reduceAdd, Nat.reduceMul, Nat.reduceSub, Nat.reduceEqDiff, Nat.reduceLT, Nat.reduceBEq, Nat.reduceBNe, Nat.reduceLeDiff, Int.reduceLE, Int.reduceLT, Int.reduceToNat, Int.reduceEq, Int.reduceAdd, UInt8.reduceToNat, UInt32.reduceToNat, UInt64.reduceToNat, UInt8.reduceOfNat, UInt32.reduceOfNat, UInt64.reduceOfNat, Fin.isValue, Int.reduceSub, Int.reduceMul, Int.reduceNeg, Int.reduceMod, Int.reduceDiv, Int.reduceTDiv, Int.reduceTMod, Int.reduceBEq, Int.reduceBNe, Nat.reduceDiv, Nat.reducePow]
                    all_goals ((repeat' apply And.intro) <;> first | omega | exact rfl | exact id)
                  all_goals first | omega | exact rfl | exact id
        all_goals first | omega | exact rfl | exact id
      · have hge : l.length ≤ i := by have := of_decide_eq_false h; omega
        have hall : ∀ y ∈ l, PlainLn y := fun y hy => hi2 y (by rw [List.take_of_length_le hge]; exact hy)
        have htk : l.take i = l := List.take_of_length_le hge
        simp only [envLK, con0, conS, strsOf_arr, rowS_arr, strsOf_cells, rowS_cells, toS, strL_st, strL_d, strL_enc, strL_up, hpN_nil, hpN_cons, gaPl, awake17C, refLiteralC, takeC, h, htk, go_sem, reduceCtorEq, ↓reduceIte, Nat.reduceAdd, Nat.reduceMul, Nat.reduceSub, Nat.reduceEqDiff, Nat.reduceLT, Nat.reduceBEq, Nat.reduceBNe, Nat.reduceLeDiff, Int.reduceLE, Int.reduceLT, Int.reduceToNat, Int.reduceEq, Int.reduceAdd, UInt8.reduceToNat, UInt32.reduceToNat, UInt64.reduceToNat, UInt8.reduceOfNat, UInt32.reduceOfNat, UInt64.reduceOfNat, Fin.isValue, Int.reduceSub, Int.reduceMul, Int.reduceNeg, Int.reduceMod, Int.reduceDiv, Int.reduceTDiv, Int.reduceTMod, Int.reduceBEq, Int.reduceBNe, Nat.reduceDiv, Nat.reducePow]
        refine loop_inv (envLK_ok gaPl_ok 101 [0]) (pkInv l) (plOk l) (fun i => l.length - i) 0 [] (plOk_of (Nat.zero_le _)) ?_ ?_
        · simp only [pkInv, List.drop_zero, go_sem, reduceCtorEq, ↓reduceIte, Nat.reduceAdd, Nat.reduceMul, Nat.reduceSub, Nat.reduceEqDiff, Nat.reduceLT, Nat.reduceBEq, Nat.reduceBNe, Nat.reduceLeDiff, Int.reduceLE, Int.reduceLT, Int.reduceToNat, Int.reduceEq, Int.reduceAdd, UInt8.reduceToNat, UInt32.reduceToNat, UInt64.reduceToNat, UInt8.reduceOfNat, UInt32.reduceOfNat, UInt64.reduceOfNat, Fin.isValue, Int.reduceSub, Int.reduceMul, Int.reduceNeg, Int.reduceMod, Int.reduceDiv, Int.reduceTDiv, Int.reduceTMod, Int.reduceBEq, Int.reduceBNe, Nat.reduceDiv, Nat.reducePow]
          all_goals ((repeat' apply And.intro) <;> first | omega | exact rfl | exact id)
        · intro k hk
          have hk1 : k ≤ l.length := hk
          have hwk : IntKind.i64.wrap ((k : Int) + 1) = ((k + 1 : Nat) : Int) := by rw [IntKind.wrap_i64]; omega
          simp only [envLK, con0, conS, strsOf_arr, rowS_arr, strsOf_cells, rowS_cells, toS, strL_st, strL_d, strL_enc, strL_up, hpN_nil, hpN_cons, gaPl, awake17C, refLiteralC, takeC, pkInv, hwk, go_sem, reduceCtorEq, ↓reduceIte, Nat.reduceAdd, Nat.reduceMul, Nat.reduceSub, Nat.reduceEqDiff, Nat.reduceLT, Nat.reduceBEq, Nat.reduceBNe, Nat.reduceLeDiff, Int.reduceLE, Int.reduceLT, Int.reduceToNat, Int.reduceEq, Int.reduceAdd, UInt8.reduceToNat, UInt32.reduceToNat, UInt64.reduceToNat, UInt8.reduceOfNat, UInt32.reduceOfNat, UInt64.reduceOfNat, Fin.isValue, Int.reduceSub, Int.reduceMul, Int.reduceNeg, Int.reduceMod, Int.reduceDiv, Int.reduceTDiv, Int.reduceTMod, Int.reduceBEq, Int.reduceBNe, Nat.reduceDiv, Nat.reducePow]
          refine br (fun h2 => ?_) fun h2 => ?_
          · have hlt : k < l.length := by have := of_decide_eq_true h2; omega
            have hdc := drop_cons hlt
            have hgd := hall _ (get_mem hlt)
            have hcr := catL_len (l.drop (k + 1)) fun y hy => hall y (List.mem_of_mem_drop hy)
            rw [List.length_drop] at hcr
            generalize hxe : l.getD k [] = x at hdc hgd
            have hcat : catL (l.drop k) = x ++ 13 :: 10 :: catL (l.drop (k + 1)) := by rw [hdc]; rfl
            have htp : takeL (x ++ 13 :: 10 :: catL (l.drop (k + 1))) = _ := take_plain x (catL (l.drop (k + 1))) hgd
            have hx100 := hgd.len
            have hlen : (x ++ 13 :: 10 :: catL (l.drop (k + 1))).length = x.length + 2 + (catL (l.drop (k + 1))).length := by simp; omega
            have hcmp : decide (((x ++ 13 :: 10 :: catL (l.drop (k + 1))).length : Int) ≤ ((catL (l.drop (k + 1))).length : Int)) = false := decide_eq_false (by rw [hlen]; omega)
            rw [hcat]
            simp only [envLK, con0, conS, strsOf_arr, rowS_arr, strsOf_cells, rowS_cells, toS, strL_st, strL_d, strL_enc, strL_up, hpN_nil, hpN_cons, gaPl, awake17C, refLiteralC, takeC, h2, hwk, hxe, takeF, rowAV, takeO, htp, hcmp, List.isEmpty_nil, List.isEmpty_cons, beq_self_eq_true, strL_st, strL_d, strL_enc, go_sem, reduceCtorEq, ↓reduceIte, Nat.reduceAdd, Nat.reduceMul, Nat.reduceSub, Nat.reduceEqDiff, Nat.reduceLT, Nat.reduceBEq, Nat.reduceBNe, Nat.reduceLeDiff, Int.reduceLE, Int.reduceLT, Int.reduceToNat, Int.reduceEq, Int.reduceAdd, UInt8.reduceToNat, UInt32.reduceToNat, UInt64.reduceToNat, UInt8.reduceOfNat, UInt32.reduceOfNat, UInt64.reduceOfNat, Fin.isValue, Int.reduceSub, Int.reduceMul, Int.reduceNeg, Int.reduceMod, Int.reduceDiv, Int.reduceTDiv, Int.reduceTMod, Int.reduceBEq, Int.reduceBNe, Nat.reduceDiv, Nat.reducePow]
            repeat' apply And.intro
            rotate_right
            · refine again (k + 1) [] (plOk_of hlt) (by show l.length - (k + 1) < l.length - k; omega) ?_
              simp only [pkInv, envLK, con0, conS, strsOf_arr, rowS_arr, strsOf_cells, rowS_cells, toS, strL_st, strL_d, strL_enc, strL_up, hpN_nil, hpN_cons, gaPl, awake17C, refLiteralC, takeC, go_sem, reduceCtorEq, ↓reduceIte, Nat.reduceAdd, Nat.reduceMul, Nat.reduceSub, Nat.reduceEqDiff, Nat.reduceLT, Nat.reduceBEq, Nat.reduceBNe, Nat.reduceLeDiff, Int.reduceLE, Int.reduceLT, Int.reduceToNat, Int.reduceEq, Int.reduceAdd, UInt8.reduceToNat, UInt32.reduceToNat, UInt64.reduceToNat, UInt8.reduceOfNat, UInt32.reduceOfNat, UInt64.reduceOfNat, Fin.isValue, Int.reduceSub, Int.reduceMul, Int.reduceNeg, Int.reduceMod, Int.reduceDiv, Int.reduceTDiv, Int.reduceTMod, Int.reduceBEq, Int.reduceBNe, Nat.reduceDiv, Nat.reducePow]
              all_goals ((repeat' apply And.intro) <;> first | omega | exact rfl | exact id)
            all_goals first | omega | exact rfl | exact id
          · have hge : l.length ≤ k := by have := of_decide_eq_false h2; omega
            have hd : l.drop k = [] := List.drop_eq_nil_of_le hge
            simp only [envLK, con0, conS, strsOf_arr, rowS_arr, strsOf_cells, rowS_cells, toS, strL_st, strL_d, strL_enc, strL_up, hpN_nil, hpN_cons, gaPl, awake17C, refLiteralC, takeC, h2, hd, catL, go_sem, reduceCtorEq, ↓reduceIte, Nat.reduceAdd, Nat.reduceMul, Nat.reduceSub, Nat.reduceEqDiff, Nat.reduceLT, Nat.reduceBEq, Nat.reduceBNe, Nat.reduceLeDiff, Int.reduceLE, Int.reduceLT, Int.reduceToNat, Int.reduceEq, Int.reduceAdd, UInt8.reduceToNat, UInt32.reduceToNat, UInt64.reduceToNat, UInt8.reduceOfNat, UInt32.reduceOfNat, UInt64.reduceOfNat, Fin.isValue, Int.reduceSub, Int.reduceMul, Int.reduceNeg, Int.reduceMod, Int.reduceDiv, Int.reduceTDiv, Int.reduceTMod, Int.reduceBEq, Int.reduceBNe, Nat.reduceDiv, Nat.reducePow]
            refine endX [] ?_
            simp only [envLK, con0, conS, strsOf_arr, rowS_arr, strsOf_cells, rowS_cells, toS, strL_st, strL_d, strL_enc, strL_up, hpN_nil, hpN_cons, gaPl, awake17C, refLiteralC, takeC, go_sem, reduceCtorEq, ↓reduceIte, Nat.reduceAdd, Nat.reduceMul, Nat.reduceSub, Nat.reduceEqDiff, Nat.reduceLT, Nat.reduceBEq, Nat.reduceBNe, Nat.reduceLeDiff, Int.reduceLE, Int.reduceLT, Int.reduceToNat, Int.reduceEq, Int.reduceAdd, UInt8.reduceToNat, UInt32.reduceToNat, UInt64.reduceToNat, UInt8.reduceOfNat, UInt32.reduceOfNat, UInt64.reduceOfNat, Fin.isValue, Int.reduceSub, Int.reduceMul, Int.reduceNeg, Int.reduceMod, Int.reduceDiv, Int.reduceTDiv, Int.reduceTMod, Int.reduceBEq, Int.reduceBNe, Nat.reduceDiv, Nat.reducePow]
            all_goals ((repeat' apply And.intro) <;> first | omega | exact rfl | exact id)
/-- To the outside. -/
theorem linesPlain_law (w : World) {v0 : Value} (l : List (List UInt8)) (p : Option (Blk × Nat)) (ha : ArgR w (.arr _ strL l) 1 l.length v0 p) (hl : l.length ≤ maxLen) (hq : ∀ x ∈ l, x.length ≤ maxLen) (hg : ∀ f ∈ GL, f.p w) :
    Calls Tryd.prog 11 #[v0] w fun e w' => e = .returned (.bool true) ∧ Below w.heap.size w w' := by
  refine (tri_callsR (os := [.arr _ strL l]) (lawPlain_tri l hq) w [p] rfl (fun i o q h1 h2 r => ?_) (vals := [v0]) ⟨ha.rel _ 0 rfl, trivial⟩ hg).mono ?_
  · match i with
    | 0 => simp at h1 h2; subst h1; subst h2; exact ha.obj r
    | i + 1 => simp at h1
  · rintro e w' ⟨u, r', rfl, hr, hb⟩
    exact ⟨by rw [show u = .bool true from hr], hb⟩
end Go.Proofs.YtgfcdkbbkgamnaaDoor
