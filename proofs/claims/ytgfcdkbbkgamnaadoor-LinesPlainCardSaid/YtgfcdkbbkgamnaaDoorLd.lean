/-
  Layer 17: a command, by definition.
-/
import Derived.Test.YtgfcdkbbkgamnaaDoorSz
import Derived.Test.YtgfcdkbbkgamnaaDoorLb
import Derived.Test.YtgfcdkbbkgamnaaDoorLc
namespace Go.Proofs.YtgfcdkbbkgamnaaDoor
open Go Go.RowKit
set_option maxHeartbeats 4000000
set_option linter.unusedSimpArgs false
set_option linter.unusedVariables false
def takeRInv (j : Nat) (T L : List (List UInt8)) (r : List UInt8) : St := match j with
  | 0 => ⟨[(0, .c (.one (.str r))), (7, .c (.one (.val (.slice none 0 0)))), (8, .c (.one (.val (.slice none 0 0))))], []⟩
  | j + 1 => ⟨[(0, .c (.one (.str r))), (7, .c (.one (.sl 500 0 1 (j + 1)))), (8, .c (.one (.sl 501 0 1 (j + 1))))], [(500, ⟨.arr _ strL T, true⟩), (501, ⟨.arr _ strL L, true⟩)]⟩
def gaTR : Nat → Option Con := fun f => match f with
  | 30 => some refNextC
  | 32 => some refLiteralC
  | _ => none
theorem gaTR_ok : GaOkG Tryd.prog GL gaTR := fun f con h => by
  unfold gaTR at h
  split at h
  · injection h with h; subst h; exact refNextC_ok
  · injection h with h; subst h; exact refLiteralC_ok
  · cases h
set_option maxRecDepth 100000 in
theorem refTake_tri (s : List UInt8) (hs : s.length ≤ 1048576) : TriG Tryd.prog GL 34 [.one (.str s)] [] (.tup [.one (rowAV 0 (takeL s).T), .one (rowAV 1 (takeL s).L), .one (.str (takeL s).rest), .one (.num (takeL s).st), .one (.num (takeL s).n)]) (hpN 0 (takeO (takeL s))) := by
  refine tri_ofx (envLK_ok gaTR_ok 73 []) Tryd.func34 rfl rfl (rs := [.tmp 2, .tmp 3, .tmp 4, .tmp 5, .tmp 6]) rfl rfl (by simp [envLK]) rfl ?_
  simp only [envLK, con0, conS, strsOf_arr, rowS_arr, strsOf_cells, rowS_cells, toS, strL_st, strL_d, strL_enc, strL_up, hpN_nil, hpN_cons, gaTR, refNextC, refLiteralC, go_sem, reduceCtorEq, ↓reduceIte, Nat.reduceAdd, Nat.reduceMul, Nat.reduceSub, Nat.reduceEqDiff, Nat.reduceLT, Nat.reduceBEq, Nat.reduceBNe, Nat.reduceLeDiff, Int.reduceLE, Int.reduceLT, Int.reduceToNat, Int.reduceEq, Int.reduceAdd, UInt8.reduceToNat, UInt32.reduceToNat, UInt64.reduceToNat, UInt8.reduceOfNat, UInt32.reduceOfNat, UInt64.reduceOfNat, Fin.isValue, Int.reduceSub, Int.reduceMul, Int.reduceNeg, Int.reduceMod, Int.reduceDiv, Int.reduceTDiv, Int.reduceTMod, Int.reduceBEq, Int.reduceBNe, Nat.reduceDiv, Nat.reducePow]
  refine loop_inv (envLK_ok gaTR_ok 73 []) (fun x => takeRInv x.j x.T x.L x.r) (takeOk s) (fun x => 5 - x.j) ⟨0, [], [], s⟩ [] ⟨Nat.zero_le _, rfl, rfl, Nat.le_refl _, rfl⟩ ?_ ?_
  · simp only [takeRInv, go_sem, reduceCtorEq, ↓reduceIte, Nat.reduceAdd, Nat.reduceMul, Nat.reduceSub, Nat.reduceEqDiff, Nat.reduceLT, Nat.reduceBEq, Nat.reduceBNe, Nat.reduceLeDiff, Int.reduceLE, Int.reduceLT, Int.reduceToNat, Int.reduceEq, Int.reduceAdd, UInt8.reduceToNat, UInt32.reduceToNat, UInt64.reduceToNat, UInt8.reduceOfNat, UInt32.reduceOfNat, UInt64.reduceOfNat, Fin.isValue, Int.reduceSub, Int.reduceMul, Int.reduceNeg, Int.reduceMod, Int.reduceDiv, Int.reduceTDiv, Int.reduceTMod, Int.reduceBEq, Int.reduceBNe, Nat.reduceDiv, Nat.reducePow]
  · rintro ⟨j, T, L, r⟩ ⟨hj, hT, hL, hr, hq⟩
    simp only at hj hT hL hr hq
    have hfu : 5 - j = (4 - j) + 1 := by omega
    rw [hfu] at hq
    have hA := nxA_len r
    have hB := nxB_len r
    have hrl : r.length ≤ 1048576 := by omega
    have hAl : (nxA r).length ≤ 1048576 := by omega
    rcases j with _ | j
    · obtain rfl := List.eq_nil_of_length_eq_zero hT
      obtain rfl := List.eq_nil_of_length_eq_zero hL
      cases h1 : ((nxC r : Int) == 1) with
      | false =>
        have h1' : nxC r ≠ 1 := fun e => by rw [e] at h1; simp at h1
        have hq' : takeL s = ⟨[], [], nxB r, nxC r, 0⟩ := by rw [← hq, takeS, if_neg h1']; rfl
        simp only [envLK, con0, conS, strsOf_arr, rowS_arr, strsOf_cells, rowS_cells, toS, strL_st, strL_d, strL_enc, strL_up, hpN_nil, hpN_cons, gaTR, refNextC, refLiteralC, takeRInv, h1, go_sem, reduceCtorEq, ↓reduceIte, Nat.reduceAdd, Nat.reduceMul, Nat.reduceSub, Nat.reduceEqDiff, Nat.reduceLT, Nat.reduceBEq, Nat.reduceBNe, Nat.reduceLeDiff, Int.reduceLE, Int.reduceLT, Int.reduceToNat, Int.reduceEq, Int.reduceAdd, UInt8.reduceToNat, UInt32.reduceToNat, UInt64.reduceToNat, UInt8.reduceOfNat, UInt32.reduceOfNat, UInt64.reduceOfNat, Fin.isValue, Int.reduceSub, Int.reduceMul, Int.reduceNeg, Int.reduceMod, Int.reduceDiv, Int.reduceTDiv, Int.reduceTMod, Int.reduceBEq, Int.reduceBNe, Nat.reduceDiv, Nat.reducePow]
        refine ⟨hrl, endX [] ?_⟩
        simp only [envLK, con0, conS, strsOf_arr, rowS_arr, strsOf_cells, rowS_cells, toS, strL_st, strL_d, strL_enc, strL_up, hpN_nil, hpN_cons, gaTR, refNextC, refLiteralC, hq', rowAV, takeO, List.isEmpty_nil, go_sem, reduceCtorEq, ↓reduceIte, Nat.reduceAdd, Nat.reduceMul, Nat.reduceSub, Nat.reduceEqDiff, Nat.reduceLT, Nat.reduceBEq, Nat.reduceBNe, Nat.reduceLeDiff, Int.reduceLE, Int.reduceLT, Int.reduceToNat, Int.reduceEq, Int.reduceAdd, UInt8.reduceToNat, UInt32.reduceToNat, UInt64.reduceToNat, UInt8.reduceOfNat, UInt32.reduceOfNat, UInt64.reduceOfNat, Fin.isValue, Int.reduceSub, Int.reduceMul, Int.reduceNeg, Int.reduceMod, Int.reduceDiv, Int.reduceTDiv, Int.reduceTMod, Int.reduceBEq, Int.reduceBNe, Nat.reduceDiv, Nat.reducePow]
      | true =>
        have h1' : nxC r = 1 := by have := eq_of_beq h1; omega
        cases hl : litO (nxA r) with
        | none =>
          have e1 : refLV (nxA r) = -1 := by unfold refLV; rw [hl]
          have e2 : refLA (nxA r) = 0 := by unfold refLA; rw [hl]
          have hq' : takeL s = ⟨[nxA r], [], nxB r, 1, 0⟩ := by rw [← hq, takeS, if_pos h1', hl]; rfl
          simp only [envLK, con0, conS, strsOf_arr, rowS_arr, strsOf_cells, rowS_cells, toS, strL_st, strL_d, strL_enc, strL_up, hpN_nil, hpN_cons, gaTR, refNextC, refLiteralC, takeRInv, h1, e1, e2, go_sem, reduceCtorEq, ↓reduceIte, Nat.reduceAdd, Nat.reduceMul, Nat.reduceSub, Nat.reduceEqDiff, Nat.reduceLT, Nat.reduceBEq, Nat.reduceBNe, Nat.reduceLeDiff, Int.reduceLE, Int.reduceLT, Int.reduceToNat, Int.reduceEq, Int.reduceAdd, UInt8.reduceToNat, UInt32.reduceToNat, UInt64.reduceToNat, UInt8.reduceOfNat, UInt32.reduceOfNat, UInt64.reduceOfNat, Fin.isValue, Int.reduceSub, Int.reduceMul, Int.reduceNeg, Int.reduceMod, Int.reduceDiv, Int.reduceTDiv, Int.reduceTMod, Int.reduceBEq, Int.reduceBNe, Nat.reduceDiv, Nat.reducePow]
          repeat' apply And.intro
          rotate_right
          · refine endX [(0, 80024)] ?_
            simp only [envLK, con0, conS, strsOf_arr, rowS_arr, strsOf_cells, rowS_cells, toS, strL_st, strL_d, strL_enc, strL_up, hpN_nil, hpN_cons, gaTR, refNextC, refLiteralC, hq', rowAV, takeO, List.isEmpty_nil, List.isEmpty_cons, go_sem, reduceCtorEq, ↓reduceIte, Nat.reduceAdd, Nat.reduceMul, Nat.reduceSub, Nat.reduceEqDiff, Nat.reduceLT, Nat.reduceBEq, Nat.reduceBNe, Nat.reduceLeDiff, Int.reduceLE, Int.reduceLT, Int.reduceToNat, Int.reduceEq, Int.reduceAdd, UInt8.reduceToNat, UInt32.reduceToNat, UInt64.reduceToNat, UInt8.reduceOfNat, UInt32.reduceOfNat, UInt64.reduceOfNat, Fin.isValue, Int.reduceSub, Int.reduceMul, Int.reduceNeg, Int.reduceMod, Int.reduceDiv, Int.reduceTDiv, Int.reduceTMod, Int.reduceBEq, Int.reduceBNe, Nat.reduceDiv, Nat.reducePow]
          all_goals first | omega | exact rfl
        | some q =>
          obtain ⟨a, n⟩ := q
          obtain ⟨hab, hnb⟩ := litO_bound hl
          have e1 : refLV (nxA r) = n := by unfold refLV; rw [hl]
          have e2 : refLA (nxA r) = a := by unfold refLA; rw [hl]
          have e3 : decide ((n : Int) < 0) = false := decide_eq_false (by omega)
          cases hbig : decide ((700 : Int) < n) with
          | true =>
            have hq' : takeL s = ⟨[], [], nxB r, 2, 0⟩ := by rw [← hq, takeS, if_pos h1', hl]; simp only; rw [if_pos (.inl (by have := of_decide_eq_true hbig; omega))]; rfl
            simp only [envLK, con0, conS, strsOf_arr, rowS_arr, strsOf_cells, rowS_cells, toS, strL_st, strL_d, strL_enc, strL_up, hpN_nil, hpN_cons, gaTR, refNextC, refLiteralC, takeRInv, h1, e1, e2, e3, hbig, go_sem, reduceCtorEq, ↓reduceIte, Nat.reduceAdd, Nat.reduceMul, Nat.reduceSub, Nat.reduceEqDiff, Nat.reduceLT, Nat.reduceBEq, Nat.reduceBNe, Nat.reduceLeDiff, Int.reduceLE, Int.reduceLT, Int.reduceToNat, Int.reduceEq, Int.reduceAdd, UInt8.reduceToNat, UInt32.reduceToNat, UInt64.reduceToNat, UInt8.reduceOfNat, UInt32.reduceOfNat, UInt64.reduceOfNat, Fin.isValue, Int.reduceSub, Int.reduceMul, Int.reduceNeg, Int.reduceMod, Int.reduceDiv, Int.reduceTDiv, Int.reduceTMod, Int.reduceBEq, Int.reduceBNe, Nat.reduceDiv, Nat.reducePow]
            repeat' apply And.intro
            rotate_right
            · refine endX [] ?_
              simp only [envLK, con0, conS, strsOf_arr, rowS_arr, strsOf_cells, rowS_cells, toS, strL_st, strL_d, strL_enc, strL_up, hpN_nil, hpN_cons, gaTR, refNextC, refLiteralC, hq', rowAV, takeO, List.isEmpty_nil, go_sem, reduceCtorEq, ↓reduceIte, Nat.reduceAdd, Nat.reduceMul, Nat.reduceSub, Nat.reduceEqDiff, Nat.reduceLT, Nat.reduceBEq, Nat.reduceBNe, Nat.reduceLeDiff, Int.reduceLE, Int.reduceLT, Int.reduceToNat, Int.reduceEq, Int.reduceAdd, UInt8.reduceToNat, UInt32.reduceToNat, UInt64.reduceToNat, UInt8.reduceOfNat, UInt32.reduceOfNat, UInt64.reduceOfNat, Fin.isValue, Int.reduceSub, Int.reduceMul, Int.reduceNeg, Int.reduceMod, Int.reduceDiv, Int.reduceTDiv, Int.reduceTMod, Int.reduceBEq, Int.reduceBNe, Nat.reduceDiv, Nat.reducePow]
            all_goals first | omega | exact rfl
          | false =>
            have hc : ¬ (700 < n ∨ ([] : List (List UInt8)).length = 4) := by have := of_decide_eq_false hbig; simp; omega
            cases hmore : decide (((nxB r).length : Int) < n) with
            | true =>
              have hq' : takeL s = ⟨[], [], [], 0, 1⟩ := by rw [← hq, takeS, if_pos h1', hl]; simp only; rw [if_neg hc, if_pos (by have := of_decide_eq_true hmore; omega)]; rfl
              simp only [envLK, con0, conS, strsOf_arr, rowS_arr, strsOf_cells, rowS_cells, toS, strL_st, strL_d, strL_enc, strL_up, hpN_nil, hpN_cons, gaTR, refNextC, refLiteralC, takeRInv, h1, e1, e2, e3, hbig, hmore, go_sem, reduceCtorEq, ↓reduceIte, Nat.reduceAdd, Nat.reduceMul, Nat.reduceSub, Nat.reduceEqDiff, Nat.reduceLT, Nat.reduceBEq, Nat.reduceBNe, Nat.reduceLeDiff, Int.reduceLE, Int.reduceLT, Int.reduceToNat, Int.reduceEq, Int.reduceAdd, UInt8.reduceToNat, UInt32.reduceToNat, UInt64.reduceToNat, UInt8.reduceOfNat, UInt32.reduceOfNat, UInt64.reduceOfNat, Fin.isValue, Int.reduceSub, Int.reduceMul, Int.reduceNeg, Int.reduceMod, Int.reduceDiv, Int.reduceTDiv, Int.reduceTMod, Int.reduceBEq, Int.reduceBNe, Nat.reduceDiv, Nat.reducePow]
              repeat' apply And.intro
              rotate_right
              · refine endX [] ?_
                simp only [envLK, con0, conS, strsOf_arr, rowS_arr, strsOf_cells, rowS_cells, toS, strL_st, strL_d, strL_enc, strL_up, hpN_nil, hpN_cons, gaTR, refNextC, refLiteralC, hq', rowAV, takeO, List.isEmpty_nil, go_sem, reduceCtorEq, ↓reduceIte, Nat.reduceAdd, Nat.reduceMul, Nat.reduceSub, Nat.reduceEqDiff, Nat.reduceLT, Nat.reduceBEq, Nat.reduceBNe, Nat.reduceLeDiff, Int.reduceLE, Int.reduceLT, Int.reduceToNat, Int.reduceEq, Int.reduceAdd, UInt8.reduceToNat, UInt32.reduceToNat, UInt64.reduceToNat, UInt8.reduceOfNat, UInt32.reduceOfNat, UInt64.reduceOfNat, Fin.isValue, Int.reduceSub, Int.reduceMul, Int.reduceNeg, Int.reduceMod, Int.reduceDiv, Int.reduceTDiv, Int.reduceTMod, Int.reduceBEq, Int.reduceBNe, Nat.reduceDiv, Nat.reducePow]
              all_goals first | omega | exact rfl
            | false =>
              have hnl : n ≤ (nxB r).length := by have := of_decide_eq_false hmore; omega
              have hq' : takeS 4 [(nxA r).take a] [(nxB r).take n] ((nxB r).drop n) = takeL s := by
                rw [← hq]
                conv => rhs; rw [takeS, if_pos h1', hl]
                simp only
                rw [if_neg hc, if_neg (by omega)]; rfl
              simp only [envLK, con0, conS, strsOf_arr, rowS_arr, strsOf_cells, rowS_cells, toS, strL_st, strL_d, strL_enc, strL_up, hpN_nil, hpN_cons, gaTR, refNextC, refLiteralC, takeRInv, h1, e1, e2, e3, hbig, hmore, go_sem, reduceCtorEq, ↓reduceIte, Nat.reduceAdd, Nat.reduceMul, Nat.reduceSub, Nat.reduceEqDiff, Nat.reduceLT, Nat.reduceBEq, Nat.reduceBNe, Nat.reduceLeDiff, Int.reduceLE, Int.reduceLT, Int.reduceToNat, Int.reduceEq, Int.reduceAdd, UInt8.reduceToNat, UInt32.reduceToNat, UInt64.reduceToNat, UInt8.reduceOfNat, UInt32.reduceOfNat, UInt64.reduceOfNat, Fin.isValue, Int.reduceSub, Int.reduceMul, Int.reduceNeg, Int.reduceMod, Int.reduceDiv, Int.reduceTDiv, Int.reduceTMod, Int.reduceBEq, Int.reduceBNe, Nat.reduceDiv, Nat.reducePow]
              repeat' apply And.intro
              rotate_right
              · refine again ⟨1, [(nxA r).take a], [(nxB r).take n], (nxB r).drop n⟩ [(500, 130040), (501, 140040)] ⟨by show 1 ≤ 4; omega, rfl, rfl, by rw [List.length_drop]; omega, hq'⟩ (by simp only; omega) ?_
                simp only [takeRInv, envLK, con0, conS, strsOf_arr, rowS_arr, strsOf_cells, rowS_cells, toS, strL_st, strL_d, strL_enc, strL_up, hpN_nil, hpN_cons, gaTR, refNextC, refLiteralC, go_sem, reduceCtorEq, ↓reduceIte, Nat.reduceAdd, Nat.reduceMul, Nat.reduceSub, Nat.reduceEqDiff, Nat.reduceLT, Nat.reduceBEq, Nat.reduceBNe, Nat.reduceLeDiff, Int.reduceLE, Int.reduceLT, Int.reduceToNat, Int.reduceEq, Int.reduceAdd, UInt8.reduceToNat, UInt32.reduceToNat, UInt64.reduceToNat, UInt8.reduceOfNat, UInt32.reduceOfNat, UInt64.reduceOfNat, Fin.isValue, Int.reduceSub, Int.reduceMul, Int.reduceNeg, Int.reduceMod, Int.reduceDiv, Int.reduceTDiv, Int.reduceTMod, Int.reduceBEq, Int.reduceBNe, Nat.reduceDiv, Nat.reducePow]
              all_goals first | omega | exact rfl
    · have hTe : ∀ x : List UInt8, (T ++ [x]).isEmpty = false := fun x => by simp
      have hLe : L.isEmpty = false := by
        cases L with
        | nil => simp at hL
        | cons _ _ => rfl
      have hTl : ∀ x : List UInt8, (T ++ [x]).length = j + 1 + 1 := fun x => by simp [hT]
      have w1 : IntKind.i64.wrap (((j + 1 : Nat) : Int) + 1) = ((j + 2 : Nat) : Int) := by rw [IntKind.wrap_i64]; omega
      cases h1 : ((nxC r : Int) == 1) with
      | false =>
        have h1' : nxC r ≠ 1 := fun e => by rw [e] at h1; simp at h1
        have hq' : takeL s = ⟨[], [], nxB r, nxC r, j + 1⟩ := by rw [← hq, takeS, if_neg h1', hL]
        simp only [envLK, con0, conS, strsOf_arr, rowS_arr, strsOf_cells, rowS_cells, toS, strL_st, strL_d, strL_enc, strL_up, hpN_nil, hpN_cons, gaTR, refNextC, refLiteralC, takeRInv, h1, go_sem, reduceCtorEq, ↓reduceIte, Nat.reduceAdd, Nat.reduceMul, Nat.reduceSub, Nat.reduceEqDiff, Nat.reduceLT, Nat.reduceBEq, Nat.reduceBNe, Nat.reduceLeDiff, Int.reduceLE, Int.reduceLT, Int.reduceToNat, Int.reduceEq, Int.reduceAdd, UInt8.reduceToNat, UInt32.reduceToNat, UInt64.reduceToNat, UInt8.reduceOfNat, UInt32.reduceOfNat, UInt64.reduceOfNat, Fin.isValue, Int.reduceSub, Int.reduceMul, Int.reduceNeg, Int.reduceMod, Int.reduceDiv, Int.reduceTDiv, Int.reduceTMod, Int.reduceBEq, Int.reduceBNe, Nat.reduceDiv, Nat.reducePow]
        refine ⟨hrl, endX [] ?_⟩
        simp only [envLK, con0, conS, strsOf_arr, rowS_arr, strsOf_cells, rowS_cells, toS, strL_st, strL_d, strL_enc, strL_up, hpN_nil, hpN_cons, gaTR, refNextC, refLiteralC, hq', rowAV, takeO, List.isEmpty_nil, go_sem, reduceCtorEq, ↓reduceIte, Nat.reduceAdd, Nat.reduceMul, Nat.reduceSub, Nat.reduceEqDiff, Nat.reduceLT, Nat.reduceBEq, Nat.reduceBNe, Nat.reduceLeDiff, Int.reduceLE, Int.reduceLT, Int.reduceToNat, Int.reduceEq, Int.reduceAdd, UInt8.reduceToNat, UInt32.reduceToNat, UInt64.reduceToNat, UInt8.reduceOfNat, UInt32.reduceOfNat, UInt64.reduceOfNat, Fin.isValue, Int.reduceSub, Int.reduceMul, Int.reduceNeg, Int.reduceMod, Int.reduceDiv, Int.reduceTDiv, Int.reduceTMod, Int.reduceBEq, Int.reduceBNe, Nat.reduceDiv, Nat.reducePow]
      | true =>
        have h1' : nxC r = 1 := by have := eq_of_beq h1; omega
        cases hl : litO (nxA r) with
        | none =>
          have e1 : refLV (nxA r) = -1 := by unfold refLV; rw [hl]
          have e2 : refLA (nxA r) = 0 := by unfold refLA; rw [hl]
          have hq' : takeL s = ⟨T ++ [nxA r], L, nxB r, 1, j + 1⟩ := by rw [← hq, takeS, if_pos h1', hl, hL]
          simp only [envLK, con0, conS, strsOf_arr, rowS_arr, strsOf_cells, rowS_cells, toS, strL_st, strL_d, strL_enc, strL_up, hpN_nil, hpN_cons, gaTR, refNextC, refLiteralC, takeRInv, h1, e1, e2, hT, hL, go_sem, reduceCtorEq, ↓reduceIte, Nat.reduceAdd, Nat.reduceMul, Nat.reduceSub, Nat.reduceEqDiff, Nat.reduceLT, Nat.reduceBEq, Nat.reduceBNe, Nat.reduceLeDiff, Int.reduceLE, Int.reduceLT, Int.reduceToNat, Int.reduceEq, Int.reduceAdd, UInt8.reduceToNat, UInt32.reduceToNat, UInt64.reduceToNat, UInt8.reduceOfNat, UInt32.reduceOfNat, UInt64.reduceOfNat, Fin.isValue, Int.reduceSub, Int.reduceMul, Int.reduceNeg, Int.reduceMod, Int.reduceDiv, Int.reduceTDiv, Int.reduceTMod, Int.reduceBEq, Int.reduceBNe, Nat.reduceDiv, Nat.reducePow]
          repeat' apply And.intro
          rotate_right
          · refine endX [(0, 80024), (1, 501)] ?_
            simp only [envLK, con0, conS, strsOf_arr, rowS_arr, strsOf_cells, rowS_cells, toS, strL_st, strL_d, strL_enc, strL_up, hpN_nil, hpN_cons, gaTR, refNextC, refLiteralC, hq', rowAV, takeO, hTe, hLe, hL, hTl, go_sem, reduceCtorEq, ↓reduceIte, Nat.reduceAdd, Nat.reduceMul, Nat.reduceSub, Nat.reduceEqDiff, Nat.reduceLT, Nat.reduceBEq, Nat.reduceBNe, Nat.reduceLeDiff, Int.reduceLE, Int.reduceLT, Int.reduceToNat, Int.reduceEq, Int.reduceAdd, UInt8.reduceToNat, UInt32.reduceToNat, UInt64.reduceToNat, UInt8.reduceOfNat, UInt32.reduceOfNat, UInt64.reduceOfNat, Fin.isValue, Int.reduceSub, Int.reduceMul, Int.reduceNeg, Int.reduceMod, Int.reduceDiv, Int.reduceTDiv, Int.reduceTMod, Int.reduceBEq, Int.reduceBNe, Nat.reduceDiv, Nat.reducePow]
          all_goals first | omega | exact rfl
        | some q =>
          obtain ⟨a, n⟩ := q
          obtain ⟨hab, hnb⟩ := litO_bound hl
          have e1 : refLV (nxA r) = n := by unfold refLV; rw [hl]
          have e2 : refLA (nxA r) = a := by unfold refLA; rw [hl]
          have e3 : decide ((n : Int) < 0) = false := decide_eq_false (by omega)
          cases hbig : decide ((700 : Int) < n) with
          | true =>
            have hq' : takeL s = ⟨[], [], nxB r, 2, j + 1⟩ := by rw [← hq, takeS, if_pos h1', hl]; simp only; rw [if_pos (.inl (by have := of_decide_eq_true hbig; omega)), hL]
            simp only [envLK, con0, conS, strsOf_arr, rowS_arr, strsOf_cells, rowS_cells, toS, strL_st, strL_d, strL_enc, strL_up, hpN_nil, hpN_cons, gaTR, refNextC, refLiteralC, takeRInv, h1, e1, e2, e3, hbig, hT, hL, go_sem, reduceCtorEq, ↓reduceIte, Nat.reduceAdd, Nat.reduceMul, Nat.reduceSub, Nat.reduceEqDiff, Nat.reduceLT, Nat.reduceBEq, Nat.reduceBNe, Nat.reduceLeDiff, Int.reduceLE, Int.reduceLT, Int.reduceToNat, Int.reduceEq, Int.reduceAdd, UInt8.reduceToNat, UInt32.reduceToNat, UInt64.reduceToNat, UInt8.reduceOfNat, UInt32.reduceOfNat, UInt64.reduceOfNat, Fin.isValue, Int.reduceSub, Int.reduceMul, Int.reduceNeg, Int.reduceMod, Int.reduceDiv, Int.reduceTDiv, Int.reduceTMod, Int.reduceBEq, Int.reduceBNe, Nat.reduceDiv, Nat.reducePow]
            repeat' apply And.intro
            rotate_right
            · refine endX [] ?_
              simp only [envLK, con0, conS, strsOf_arr, rowS_arr, strsOf_cells, rowS_cells, toS, strL_st, strL_d, strL_enc, strL_up, hpN_nil, hpN_cons, gaTR, refNextC, refLiteralC, hq', rowAV, takeO, List.isEmpty_nil, go_sem, reduceCtorEq, ↓reduceIte, Nat.reduceAdd, Nat.reduceMul, Nat.reduceSub, Nat.reduceEqDiff, Nat.reduceLT, Nat.reduceBEq, Nat.reduceBNe, Nat.reduceLeDiff, Int.reduceLE, Int.reduceLT, Int.reduceToNat, Int.reduceEq, Int.reduceAdd, UInt8.reduceToNat, UInt32.reduceToNat, UInt64.reduceToNat, UInt8.reduceOfNat, UInt32.reduceOfNat, UInt64.reduceOfNat, Fin.isValue, Int.reduceSub, Int.reduceMul, Int.reduceNeg, Int.reduceMod, Int.reduceDiv, Int.reduceTDiv, Int.reduceTMod, Int.reduceBEq, Int.reduceBNe, Nat.reduceDiv, Nat.reducePow]
            all_goals first | omega | exact rfl
          | false =>
            cases b4 : decide ((3 : Int) < ((j + 1 : Nat) : Int)) with
            | true =>
              have hq' : takeL s = ⟨[], [], nxB r, 2, j + 1⟩ := by
                rw [← hq, takeS, if_pos h1', hl]; simp only
                rw [if_pos (.inr (by have := of_decide_eq_true b4; omega)), hL]
              simp only [envLK, con0, conS, strsOf_arr, rowS_arr, strsOf_cells, rowS_cells, toS, strL_st, strL_d, strL_enc, strL_up, hpN_nil, hpN_cons, gaTR, refNextC, refLiteralC, takeRInv, h1, e1, e2, e3, hbig, b4, hT, hL, go_sem, reduceCtorEq, ↓reduceIte, Nat.reduceAdd, Nat.reduceMul, Nat.reduceSub, Nat.reduceEqDiff, Nat.reduceLT, Nat.reduceBEq, Nat.reduceBNe, Nat.reduceLeDiff, Int.reduceLE, Int.reduceLT, Int.reduceToNat, Int.reduceEq, Int.reduceAdd, UInt8.reduceToNat, UInt32.reduceToNat, UInt64.reduceToNat, UInt8.reduceOfNat, UInt32.reduceOfNat, UInt64.reduceOfNat, Fin.isValue, Int.reduceSub, Int.reduceMul, Int.reduceNeg, Int.reduceMod, Int.reduceDiv, Int.reduceTDiv, Int.reduceTMod, Int.reduceBEq, Int.reduceBNe, Nat.reduceDiv, Nat.reducePow]
              repeat' apply And.intro
              rotate_right
              · refine endX [] ?_
                simp only [envLK, con0, conS, strsOf_arr, rowS_arr, strsOf_cells, rowS_cells, toS, strL_st, strL_d, strL_enc, strL_up, hpN_nil, hpN_cons, gaTR, refNextC, refLiteralC, hq', rowAV, takeO, List.isEmpty_nil, go_sem, reduceCtorEq, ↓reduceIte, Nat.reduceAdd, Nat.reduceMul, Nat.reduceSub, Nat.reduceEqDiff, Nat.reduceLT, Nat.reduceBEq, Nat.reduceBNe, Nat.reduceLeDiff, Int.reduceLE, Int.reduceLT, Int.reduceToNat, Int.reduceEq, Int.reduceAdd, UInt8.reduceToNat, UInt32.reduceToNat, UInt64.reduceToNat, UInt8.reduceOfNat, UInt32.reduceOfNat, UInt64.reduceOfNat, Fin.isValue, Int.reduceSub, Int.reduceMul, Int.reduceNeg, Int.reduceMod, Int.reduceDiv, Int.reduceTDiv, Int.reduceTMod, Int.reduceBEq, Int.reduceBNe, Nat.reduceDiv, Nat.reducePow]
              all_goals first | omega | exact rfl
            | false =>
              have h4 := of_decide_eq_false b4
              have hc : ¬ (700 < n ∨ L.length = 4) := by
                have := of_decide_eq_false hbig
                omega
              cases hmore : decide (((nxB r).length : Int) < n) with
              | true =>
                have hq' : takeL s = ⟨[], [], [], 0, j + 2⟩ := by rw [← hq, takeS, if_pos h1', hl]; simp only; rw [if_neg hc, if_pos (by have := of_decide_eq_true hmore; omega), hL]
                simp only [envLK, con0, conS, strsOf_arr, rowS_arr, strsOf_cells, rowS_cells, toS, strL_st, strL_d, strL_enc, strL_up, hpN_nil, hpN_cons, gaTR, refNextC, refLiteralC, takeRInv, h1, e1, e2, e3, hbig, b4, w1, hT, hL, hmore, go_sem, reduceCtorEq, ↓reduceIte, Nat.reduceAdd, Nat.reduceMul, Nat.reduceSub, Nat.reduceEqDiff, Nat.reduceLT, Nat.reduceBEq, Nat.reduceBNe, Nat.reduceLeDiff, Int.reduceLE, Int.reduceLT, Int.reduceToNat, Int.reduceEq, Int.reduceAdd, UInt8.reduceToNat, UInt32.reduceToNat, UInt64.reduceToNat, UInt8.reduceOfNat, UInt32.reduceOfNat, UInt64.reduceOfNat, Fin.isValue, Int.reduceSub, Int.reduceMul, Int.reduceNeg, Int.reduceMod, Int.reduceDiv, Int.reduceTDiv, Int.reduceTMod, Int.reduceBEq, Int.reduceBNe, Nat.reduceDiv, Nat.reducePow]
                repeat' apply And.intro
                rotate_right
                · refine endX [] ?_
                  simp only [envLK, con0, conS, strsOf_arr, rowS_arr, strsOf_cells, rowS_cells, toS, strL_st, strL_d, strL_enc, strL_up, hpN_nil, hpN_cons, gaTR, refNextC, refLiteralC, hq', rowAV, takeO, List.isEmpty_nil, go_sem, reduceCtorEq, ↓reduceIte, Nat.reduceAdd, Nat.reduceMul, Nat.reduceSub, Nat.reduceEqDiff, Nat.reduceLT, Nat.reduceBEq, Nat.reduceBNe, Nat.reduceLeDiff, Int.reduceLE, Int.reduceLT, Int.reduceToNat, Int.reduceEq, Int.reduceAdd, UInt8.reduceToNat, UInt32.reduceToNat, UInt64.reduceToNat, UInt8.reduceOfNat, UInt32.reduceOfNat, UInt64.reduceOfNat, Fin.isValue, Int.reduceSub, Int.reduceMul, Int.reduceNeg, Int.reduceMod, Int.reduceDiv, Int.reduceTDiv, Int.reduceTMod, Int.reduceBEq, Int.reduceBNe, Nat.reduceDiv, Nat.reducePow]
                all_goals first | omega | exact rfl
              | false =>
                have hnl : n ≤ (nxB r).length := by have := of_decide_eq_false hmore; omega
                have hq' : takeS (4 - (j + 1)) (T ++ [(nxA r).take a]) (L ++ [(nxB r).take n]) ((nxB r).drop n) = takeL s := by
                  rw [← hq]
                  conv => rhs; rw [takeS, if_pos h1', hl]
                  simp only
                  rw [if_neg hc, if_neg (by omega)]
                simp only [envLK, con0, conS, strsOf_arr, rowS_arr, strsOf_cells, rowS_cells, toS, strL_st, strL_d, strL_enc, strL_up, hpN_nil, hpN_cons, gaTR, refNextC, refLiteralC, takeRInv, h1, e1, e2, e3, hbig, b4, w1, hT, hL, hmore, go_sem, reduceCtorEq, ↓reduceIte, Nat.reduceAdd, Nat.reduceMul, Nat.reduceSub, Nat.reduceEqDiff, Nat.reduceLT, Nat.reduceBEq, Nat.reduceBNe, Nat.reduceLeDiff, Int.reduceLE, Int.reduceLT, Int.reduceToNat, Int.reduceEq, Int.reduceAdd, UInt8.reduceToNat, UInt32.reduceToNat, UInt64.reduceToNat, UInt8.reduceOfNat, UInt32.reduceOfNat, UInt64.reduceOfNat, Fin.isValue, Int.reduceSub, Int.reduceMul, Int.reduceNeg, Int.reduceMod, Int.reduceDiv, Int.reduceTDiv, Int.reduceTMod, Int.reduceBEq, Int.reduceBNe, Nat.reduceDiv, Nat.reducePow]
                repeat' apply And.intro
                rotate_right
                · refine again ⟨j + 1 + 1, T ++ [(nxA r).take a], L ++ [(nxB r).take n], (nxB r).drop n⟩ [(500, 130040), (501, 140040)] ⟨by simp only; omega, by simp [hT], by simp [hL], by rw [List.length_drop]; omega, by simp only; rw [← hq']; congr 1; omega⟩ (by simp only; omega) ?_
                  simp only [takeRInv, envLK, con0, conS, strsOf_arr, rowS_arr, strsOf_cells, rowS_cells, toS, strL_st, strL_d, strL_enc, strL_up, hpN_nil, hpN_cons, gaTR, refNextC, refLiteralC, go_sem, reduceCtorEq, ↓reduceIte, Nat.reduceAdd, Nat.reduceMul, Nat.reduceSub, Nat.reduceEqDiff, Nat.reduceLT, Nat.reduceBEq, Nat.reduceBNe, Nat.reduceLeDiff, Int.reduceLE, Int.reduceLT, Int.reduceToNat, Int.reduceEq, Int.reduceAdd, UInt8.reduceToNat, UInt32.reduceToNat, UInt64.reduceToNat, UInt8.reduceOfNat, UInt32.reduceOfNat, UInt64.reduceOfNat, Fin.isValue, Int.reduceSub, Int.reduceMul, Int.reduceNeg, Int.reduceMod, Int.reduceDiv, Int.reduceTDiv, Int.reduceTMod, Int.reduceBEq, Int.reduceBNe, Nat.reduceDiv, Nat.reducePow]
                all_goals first | omega | exact rfl
end Go.Proofs.YtgfcdkbbkgamnaaDoor
