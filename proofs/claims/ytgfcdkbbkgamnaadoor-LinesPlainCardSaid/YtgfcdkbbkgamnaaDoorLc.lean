/-
  Layer 17: a command.
-/
import Derived.Test.YtgfcdkbbkgamnaaDoorSz
import Derived.Test.YtgfcdkbbkgamnaaDoorLa
import Derived.Test.YtgfcdkbbkgamnaaDoorRs
namespace Go.Proofs.YtgfcdkbbkgamnaaDoor
open Go Go.RowKit
set_option maxHeartbeats 4000000
set_option linter.unusedSimpArgs false
set_option linter.unusedVariables false
structure TakeR where
  T : List (List UInt8)
  L : List (List UInt8)
  rest : List UInt8
  st : Nat
  n : Nat
def takeS : Nat → List (List UInt8) → List (List UInt8) → List UInt8 → TakeR
  | 0, _, _, _ => ⟨[], [], [], 0, 0⟩
  | f + 1, T, L, r => if nxC r = 1 then match litO (nxA r) with
      | none => ⟨T ++ [nxA r], L, nxB r, 1, L.length⟩
      | some (a, n) => if 700 < n ∨ L.length = 4 then ⟨[], [], nxB r, 2, L.length⟩ else if (nxB r).length < n then ⟨[], [], [], 0, L.length + 1⟩ else takeS f (T ++ [(nxA r).take a]) (L ++ [(nxB r).take n]) ((nxB r).drop n)
    else ⟨[], [], nxB r, nxC r, L.length⟩
def takeL (s : List UInt8) : TakeR := takeS 5 [] [] s
def takeO (q : TakeR) : List SObj := if q.T.isEmpty then [] else if q.L.isEmpty then [.arr _ strL q.T] else [.arr _ strL q.T, .arr _ strL q.L]
def takeInv (j : Nat) (T L : List (List UInt8)) (r : List UInt8) : St := match j with
  | 0 => ⟨[(2, .c (.one (.ptr 10000 0 0 0))), (6, .c (.one (.ptr 20000 0 0 0))), (7, .c (.one (.str r)))], [(10000, ⟨.cells 1 [.val (.slice none 0 0), .val (.slice none 0 0)], true⟩), (20000, ⟨.cells 1 [.val (.slice none 0 0), .val (.slice none 0 0)], true⟩)]⟩
  | j + 1 => ⟨[(2, .c (.one (.ptr 10000 0 0 0))), (6, .c (.one (.ptr 20000 0 0 0))), (7, .c (.one (.str r)))], [(500, ⟨.arr _ strL T, true⟩), (501, ⟨.arr _ strL L, true⟩), (10000, ⟨.cells 1 [.val (.slice none 0 0), .val (.slice none 0 0)], true⟩), (20000, ⟨.cells 1 [.sl 500 0 1 (j + 1), .sl 501 0 1 (j + 1)], true⟩)]⟩
structure TakeX where
  j : Nat
  T : List (List UInt8)
  L : List (List UInt8)
  r : List UInt8
def takeOk (s : List UInt8) (x : TakeX) : Prop := x.j ≤ 4 ∧ x.T.length = x.j ∧ x.L.length = x.j ∧ x.r.length ≤ s.length ∧ takeS (5 - x.j) x.T x.L x.r = takeL s
theorem nxB_len (s : List UInt8) : (nxB s).length ≤ s.length := by
  unfold nxB
  split
  · rw [List.length_drop]; omega
  · simp
theorem nxA_len (s : List UInt8) : (nxA s).length ≤ s.length := by
  unfold nxA
  split
  · split
    · simp
    · rw [List.length_take]; omega
  · simp
theorem litO_bound {s : List UInt8} {a n : Nat} (h : litO s = some (a, n)) : a ≤ s.length ∧ n ≤ 9999 := by
  obtain ⟨p, d, h1, h2, h3, h4⟩ := litO_inv h
  refine ⟨by rw [h1, h3]; simp, ?_⟩
  unfold nineOk at h2
  simp only [Bool.and_eq_true, decide_eq_true_eq] at h2
  rw [h4]; exact h2.2
def gaT : Nat → Option Con := fun f => match f with
  | 29 => some nextC
  | 31 => some literalC
  | _ => none
theorem gaT_ok : GaOkG Tryd.prog GL gaT := fun f con h => by
  unfold gaT at h
  split at h
  · injection h with h; subst h; exact nextC_ok
  · injection h with h; subst h; exact literalC_ok
  · cases h
set_option maxRecDepth 100000 in
theorem take_tri (s : List UInt8) (hs : s.length ≤ 1048576) : TriG Tryd.prog GL 33 [.one (.str s)] [] (.tup [.agg [rowAV 0 (takeL s).T, rowAV 1 (takeL s).L], .one (.str (takeL s).rest), .one (.num (takeL s).st), .one (.num (takeL s).n)]) (hpN 0 (takeO (takeL s))) := by
  refine tri_ofx (envLK_ok gaT_ok 81 []) Tryd.func33 rfl rfl (rs := [.cell 2 53, .tmp 3, .tmp 4, .tmp 5]) rfl rfl (by simp [envLK]) rfl ?_
  simp only [envLK, con0, conS, strsOf_arr, rowS_arr, strsOf_cells, rowS_cells, toS, strL_st, strL_d, strL_enc, strL_up, hpN_nil, hpN_cons, gaT, nextC, literalC, Tryd.underlying53, go_sem, reduceCtorEq, ↓reduceIte, Nat.reduceAdd, Nat.reduceMul, Nat.reduceSub, Nat.reduceEqDiff, Nat.reduceLT, Nat.reduceBEq, Nat.reduceBNe, Nat.reduceLeDiff, Int.reduceLE, Int.reduceLT, Int.reduceToNat, Int.reduceEq, Int.reduceAdd, UInt8.reduceToNat, UInt32.reduceToNat, UInt64.reduceToNat, UInt8.reduceOfNat, UInt32.reduceOfNat, UInt64.reduceOfNat, Fin.isValue, Int.reduceSub, Int.reduceMul, Int.reduceNeg, Int.reduceMod, Int.reduceDiv, Int.reduceTDiv, Int.reduceTMod, Int.reduceBEq, Int.reduceBNe, Nat.reduceDiv, Nat.reducePow]
  refine loop_inv (envLK_ok gaT_ok 81 []) (fun x => takeInv x.j x.T x.L x.r) (takeOk s) (fun x => 5 - x.j) ⟨0, [], [], s⟩ [] ⟨Nat.zero_le _, rfl, rfl, Nat.le_refl _, rfl⟩ ?_ ?_
  · simp only [takeInv, go_sem, reduceCtorEq, ↓reduceIte, Nat.reduceAdd, Nat.reduceMul, Nat.reduceSub, Nat.reduceEqDiff, Nat.reduceLT, Nat.reduceBEq, Nat.reduceBNe, Nat.reduceLeDiff, Int.reduceLE, Int.reduceLT, Int.reduceToNat, Int.reduceEq, Int.reduceAdd, UInt8.reduceToNat, UInt32.reduceToNat, UInt64.reduceToNat, UInt8.reduceOfNat, UInt32.reduceOfNat, UInt64.reduceOfNat, Fin.isValue, Int.reduceSub, Int.reduceMul, Int.reduceNeg, Int.reduceMod, Int.reduceDiv, Int.reduceTDiv, Int.reduceTMod, Int.reduceBEq, Int.reduceBNe, Nat.reduceDiv, Nat.reducePow]
  · rintro ⟨j, T, L, r⟩ ⟨hj, hT, hL, hr, hq⟩
    simp only at hj hT hL hr hq
    have hfu : 5 - j = (4 - j) + 1 := by omega
    rw [hfu] at hq
    have hA := nxA_len r
    have hB := nxB_len r
    have hrl : r.length ≤ 1048576 := by omega
    have hAl : (nxA r).length ≤ 1048576 := by omega
    rcases j with _ | j
    · obtain rfl := List.eq_nil_of_length_eq_zero hT
      obtain rfl := List.eq_nil_of_length_eq_zero hL
      cases h1 : ((nxC r : Int) == 1) with
      | false =>
        have h1' : nxC r ≠ 1 := fun e => by rw [e] at h1; simp at h1
        have hq' : takeL s = ⟨[], [], nxB r, nxC r, 0⟩ := by rw [← hq, takeS, if_neg h1']; rfl
        simp only [envLK, con0, conS, strsOf_arr, rowS_arr, strsOf_cells, rowS_cells, toS, strL_st, strL_d, strL_enc, strL_up, hpN_nil, hpN_cons, gaT, nextC, literalC, takeInv, h1, Tryd.underlying53, go_sem, reduceCtorEq, ↓reduceIte, Nat.reduceAdd, Nat.reduceMul, Nat.reduceSub, Nat.reduceEqDiff, Nat.reduceLT, Nat.reduceBEq, Nat.reduceBNe, Nat.reduceLeDiff, Int.reduceLE, Int.reduceLT, Int.reduceToNat, Int.reduceEq, Int.reduceAdd, UInt8.reduceToNat, UInt32.reduceToNat, UInt64.reduceToNat, UInt8.reduceOfNat, UInt32.reduceOfNat, UInt64.reduceOfNat, Fin.isValue, Int.reduceSub, Int.reduceMul, Int.reduceNeg, Int.reduceMod, Int.reduceDiv, Int.reduceTDiv, Int.reduceTMod, Int.reduceBEq, Int.reduceBNe, Nat.reduceDiv, Nat.reducePow]
        refine ⟨hrl, rfl, rfl, endX [] ?_⟩
        simp only [envLK, con0, conS, strsOf_arr, rowS_arr, strsOf_cells, rowS_cells, toS, strL_st, strL_d, strL_enc, strL_up, hpN_nil, hpN_cons, gaT, nextC, literalC, hq', rowAV, takeO, List.isEmpty_nil, Tryd.underlying53, go_sem, reduceCtorEq, ↓reduceIte, Nat.reduceAdd, Nat.reduceMul, Nat.reduceSub, Nat.reduceEqDiff, Nat.reduceLT, Nat.reduceBEq, Nat.reduceBNe, Nat.reduceLeDiff, Int.reduceLE, Int.reduceLT, Int.reduceToNat, Int.reduceEq, Int.reduceAdd, UInt8.reduceToNat, UInt32.reduceToNat, UInt64.reduceToNat, UInt8.reduceOfNat, UInt32.reduceOfNat, UInt64.reduceOfNat, Fin.isValue, Int.reduceSub, Int.reduceMul, Int.reduceNeg, Int.reduceMod, Int.reduceDiv, Int.reduceTDiv, Int.reduceTMod, Int.reduceBEq, Int.reduceBNe, Nat.reduceDiv, Nat.reducePow]
      | true =>
        have h1' : nxC r = 1 := by have := eq_of_beq h1; omega
        cases hl : litO (nxA r) with
        | none =>
          have e1 : liT (nxA r) = nxA r := by unfold liT; rw [hl]
          have e2 : liN (nxA r) = 0 := by unfold liN; rw [hl]
          have e3 : liB (nxA r) = false := by unfold liB; rw [hl]; rfl
          have hq' : takeL s = ⟨[nxA r], [], nxB r, 1, 0⟩ := by rw [← hq, takeS, if_pos h1', hl]; rfl
          simp only [envLK, con0, conS, strsOf_arr, rowS_arr, strsOf_cells, rowS_cells, toS, strL_st, strL_d, strL_enc, strL_up, hpN_nil, hpN_cons, gaT, nextC, literalC, takeInv, h1, e1, e2, e3, Tryd.underlying53, go_sem, reduceCtorEq, ↓reduceIte, Nat.reduceAdd, Nat.reduceMul, Nat.reduceSub, Nat.reduceEqDiff, Nat.reduceLT, Nat.reduceBEq, Nat.reduceBNe, Nat.reduceLeDiff, Int.reduceLE, Int.reduceLT, Int.reduceToNat, Int.reduceEq, Int.reduceAdd, UInt8.reduceToNat, UInt32.reduceToNat, UInt64.reduceToNat, UInt8.reduceOfNat, UInt32.reduceOfNat, UInt64.reduceOfNat, Fin.isValue, Int.reduceSub, Int.reduceMul, Int.reduceNeg, Int.reduceMod, Int.reduceDiv, Int.reduceTDiv, Int.reduceTMod, Int.reduceBEq, Int.reduceBNe, Nat.reduceDiv, Nat.reducePow]
          repeat' apply And.intro
          rotate_right
          · refine endX [(0, 80032)] ?_
            simp only [envLK, con0, conS, strsOf_arr, rowS_arr, strsOf_cells, rowS_cells, toS, strL_st, strL_d, strL_enc, strL_up, hpN_nil, hpN_cons, gaT, nextC, literalC, hq', rowAV, takeO, List.isEmpty_nil, List.isEmpty_cons, Tryd.underlying53, go_sem, reduceCtorEq, ↓reduceIte, Nat.reduceAdd, Nat.reduceMul, Nat.reduceSub, Nat.reduceEqDiff, Nat.reduceLT, Nat.reduceBEq, Nat.reduceBNe, Nat.reduceLeDiff, Int.reduceLE, Int.reduceLT, Int.reduceToNat, Int.reduceEq, Int.reduceAdd, UInt8.reduceToNat, UInt32.reduceToNat, UInt64.reduceToNat, UInt8.reduceOfNat, UInt32.reduceOfNat, UInt64.reduceOfNat, Fin.isValue, Int.reduceSub, Int.reduceMul, Int.reduceNeg, Int.reduceMod, Int.reduceDiv, Int.reduceTDiv, Int.reduceTMod, Int.reduceBEq, Int.reduceBNe, Nat.reduceDiv, Nat.reducePow]
          all_goals first | omega | exact rfl
        | some q =>
          obtain ⟨a, n⟩ := q
          obtain ⟨hab, hnb⟩ := litO_bound hl
          have e1 : liT (nxA r) = (nxA r).take a := by unfold liT; rw [hl]
          have e2 : liN (nxA r) = n := by unfold liN; rw [hl]
          have e3 : liB (nxA r) = true := by unfold liB; rw [hl]; rfl
          cases hbig : decide ((700 : Int) < n) with
          | true =>
            have hq' : takeL s = ⟨[], [], nxB r, 2, 0⟩ := by rw [← hq, takeS, if_pos h1', hl]; simp only; rw [if_pos (.inl (by have := of_decide_eq_true hbig; omega))]; rfl
            simp only [envLK, con0, conS, strsOf_arr, rowS_arr, strsOf_cells, rowS_cells, toS, strL_st, strL_d, strL_enc, strL_up, hpN_nil, hpN_cons, gaT, nextC, literalC, takeInv, h1, e1, e2, e3, hbig, Tryd.underlying53, go_sem, reduceCtorEq, ↓reduceIte, Nat.reduceAdd, Nat.reduceMul, Nat.reduceSub, Nat.reduceEqDiff, Nat.reduceLT, Nat.reduceBEq, Nat.reduceBNe, Nat.reduceLeDiff, Int.reduceLE, Int.reduceLT, Int.reduceToNat, Int.reduceEq, Int.reduceAdd, UInt8.reduceToNat, UInt32.reduceToNat, UInt64.reduceToNat, UInt8.reduceOfNat, UInt32.reduceOfNat, UInt64.reduceOfNat, Fin.isValue, Int.reduceSub, Int.reduceMul, Int.reduceNeg, Int.reduceMod, Int.reduceDiv, Int.reduceTDiv, Int.reduceTMod, Int.reduceBEq, Int.reduceBNe, Nat.reduceDiv, Nat.reducePow]
            repeat' apply And.intro
            rotate_right
            · refine endX [] ?_
              simp only [envLK, con0, conS, strsOf_arr, rowS_arr, strsOf_cells, rowS_cells, toS, strL_st, strL_d, strL_enc, strL_up, hpN_nil, hpN_cons, gaT, nextC, literalC, hq', rowAV, takeO, List.isEmpty_nil, Tryd.underlying53, go_sem, reduceCtorEq, ↓reduceIte, Nat.reduceAdd, Nat.reduceMul, Nat.reduceSub, Nat.reduceEqDiff, Nat.reduceLT, Nat.reduceBEq, Nat.reduceBNe, Nat.reduceLeDiff, Int.reduceLE, Int.reduceLT, Int.reduceToNat, Int.reduceEq, Int.reduceAdd, UInt8.reduceToNat, UInt32.reduceToNat, UInt64.reduceToNat, UInt8.reduceOfNat, UInt32.reduceOfNat, UInt64.reduceOfNat, Fin.isValue, Int.reduceSub, Int.reduceMul, Int.reduceNeg, Int.reduceMod, Int.reduceDiv, Int.reduceTDiv, Int.reduceTMod, Int.reduceBEq, Int.reduceBNe, Nat.reduceDiv, Nat.reducePow]
            all_goals first | omega | exact rfl
          | false =>
            have hc : ¬ (700 < n ∨ ([] : List (List UInt8)).length = 4) := by have := of_decide_eq_false hbig; simp; omega
            cases hmore : decide (((nxB r).length : Int) < n) with
            | true =>
              have hq' : takeL s = ⟨[], [], [], 0, 1⟩ := by rw [← hq, takeS, if_pos h1', hl]; simp only; rw [if_neg hc, if_pos (by have := of_decide_eq_true hmore; omega)]; rfl
              simp only [envLK, con0, conS, strsOf_arr, rowS_arr, strsOf_cells, rowS_cells, toS, strL_st, strL_d, strL_enc, strL_up, hpN_nil, hpN_cons, gaT, nextC, literalC, takeInv, h1, e1, e2, e3, hbig, hmore, Tryd.underlying53, go_sem, reduceCtorEq, ↓reduceIte, Nat.reduceAdd, Nat.reduceMul, Nat.reduceSub, Nat.reduceEqDiff, Nat.reduceLT, Nat.reduceBEq, Nat.reduceBNe, Nat.reduceLeDiff, Int.reduceLE, Int.reduceLT, Int.reduceToNat, Int.reduceEq, Int.reduceAdd, UInt8.reduceToNat, UInt32.reduceToNat, UInt64.reduceToNat, UInt8.reduceOfNat, UInt32.reduceOfNat, UInt64.reduceOfNat, Fin.isValue, Int.reduceSub, Int.reduceMul, Int.reduceNeg, Int.reduceMod, Int.reduceDiv, Int.reduceTDiv, Int.reduceTMod, Int.reduceBEq, Int.reduceBNe, Nat.reduceDiv, Nat.reducePow]
              repeat' apply And.intro
              rotate_right
              · refine endX [] ?_
                simp only [envLK, con0, conS, strsOf_arr, rowS_arr, strsOf_cells, rowS_cells, toS, strL_st, strL_d, strL_enc, strL_up, hpN_nil, hpN_cons, gaT, nextC, literalC, hq', rowAV, takeO, List.isEmpty_nil, Tryd.underlying53, go_sem, reduceCtorEq, ↓reduceIte, Nat.reduceAdd, Nat.reduceMul, Nat.reduceSub, Nat.reduceEqDiff, Nat.reduceLT, Nat.reduceBEq, Nat.reduceBNe, Nat.reduceLeDiff, Int.reduceLE, Int.reduceLT, Int.reduceToNat, Int.reduceEq, Int.reduceAdd, UInt8.reduceToNat, UInt32.reduceToNat, UInt64.reduceToNat, UInt8.reduceOfNat, UInt32.reduceOfNat, UInt64.reduceOfNat, Fin.isValue, Int.reduceSub, Int.reduceMul, Int.reduceNeg, Int.reduceMod, Int.reduceDiv, Int.reduceTDiv, Int.reduceTMod, Int.reduceBEq, Int.reduceBNe, Nat.reduceDiv, Nat.reducePow]
              all_goals first | omega | exact rfl
            | false =>
              have hnl : n ≤ (nxB r).length := by have := of_decide_eq_false hmore; omega
              have hq' : takeS 4 [(nxA r).take a] [(nxB r).take n] ((nxB r).drop n) = takeL s := by
                rw [← hq]
                conv => rhs; rw [takeS, if_pos h1', hl]
                simp only
                rw [if_neg hc, if_neg (by omega)]; rfl
              simp only [envLK, con0, conS, strsOf_arr, rowS_arr, strsOf_cells, rowS_cells, toS, strL_st, strL_d, strL_enc, strL_up, hpN_nil, hpN_cons, gaT, nextC, literalC, takeInv, h1, e1, e2, e3, hbig, hmore, Tryd.underlying53, go_sem, reduceCtorEq, ↓reduceIte, Nat.reduceAdd, Nat.reduceMul, Nat.reduceSub, Nat.reduceEqDiff, Nat.reduceLT, Nat.reduceBEq, Nat.reduceBNe, Nat.reduceLeDiff, Int.reduceLE, Int.reduceLT, Int.reduceToNat, Int.reduceEq, Int.reduceAdd, UInt8.reduceToNat, UInt32.reduceToNat, UInt64.reduceToNat, UInt8.reduceOfNat, UInt32.reduceOfNat, UInt64.reduceOfNat, Fin.isValue, Int.reduceSub, Int.reduceMul, Int.reduceNeg, Int.reduceMod, Int.reduceDiv, Int.reduceTDiv, Int.reduceTMod, Int.reduceBEq, Int.reduceBNe, Nat.reduceDiv, Nat.reducePow]
              repeat' apply And.intro
              rotate_right
              · refine again ⟨1, [(nxA r).take a], [(nxB r).take n], (nxB r).drop n⟩ [(500, 80032), (501, 150048)] ⟨by show 1 ≤ 4; omega, rfl, rfl, by rw [List.length_drop]; omega, hq'⟩ (by simp only; omega) ?_
                simp only [takeInv, envLK, con0, conS, strsOf_arr, rowS_arr, strsOf_cells, rowS_cells, toS, strL_st, strL_d, strL_enc, strL_up, hpN_nil, hpN_cons, gaT, nextC, literalC, Tryd.underlying53, go_sem, reduceCtorEq, ↓reduceIte, Nat.reduceAdd, Nat.reduceMul, Nat.reduceSub, Nat.reduceEqDiff, Nat.reduceLT, Nat.reduceBEq, Nat.reduceBNe, Nat.reduceLeDiff, Int.reduceLE, Int.reduceLT, Int.reduceToNat, Int.reduceEq, Int.reduceAdd, UInt8.reduceToNat, UInt32.reduceToNat, UInt64.reduceToNat, UInt8.reduceOfNat, UInt32.reduceOfNat, UInt64.reduceOfNat, Fin.isValue, Int.reduceSub, Int.reduceMul, Int.reduceNeg, Int.reduceMod, Int.reduceDiv, Int.reduceTDiv, Int.reduceTMod, Int.reduceBEq, Int.reduceBNe, Nat.reduceDiv, Nat.reducePow]
              all_goals first | omega | exact rfl
    · have hTe : ∀ x : List UInt8, (T ++ [x]).isEmpty = false := fun x => by simp
      have hLe : L.isEmpty = false := by
        cases L with
        | nil => simp at hL
        | cons _ _ => rfl
      have hTl : ∀ x : List UInt8, (T ++ [x]).length = j + 1 + 1 := fun x => by simp [hT]
      have w1 : IntKind.i64.wrap (((j + 1 : Nat) : Int) + 1) = ((j + 2 : Nat) : Int) := by rw [IntKind.wrap_i64]; omega
      cases h1 : ((nxC r : Int) == 1) with
      | false =>
        have h1' : nxC r ≠ 1 := fun e => by rw [e] at h1; simp at h1
        have hq' : takeL s = ⟨[], [], nxB r, nxC r, j + 1⟩ := by rw [← hq, takeS, if_neg h1', hL]
        simp only [envLK, con0, conS, strsOf_arr, rowS_arr, strsOf_cells, rowS_cells, toS, strL_st, strL_d, strL_enc, strL_up, hpN_nil, hpN_cons, gaT, nextC, literalC, takeInv, h1, Tryd.underlying53, go_sem, reduceCtorEq, ↓reduceIte, Nat.reduceAdd, Nat.reduceMul, Nat.reduceSub, Nat.reduceEqDiff, Nat.reduceLT, Nat.reduceBEq, Nat.reduceBNe, Nat.reduceLeDiff, Int.reduceLE, Int.reduceLT, Int.reduceToNat, Int.reduceEq, Int.reduceAdd, UInt8.reduceToNat, UInt32.reduceToNat, UInt64.reduceToNat, UInt8.reduceOfNat, UInt32.reduceOfNat, UInt64.reduceOfNat, Fin.isValue, Int.reduceSub, Int.reduceMul, Int.reduceNeg, Int.reduceMod, Int.reduceDiv, Int.reduceTDiv, Int.reduceTMod, Int.reduceBEq, Int.reduceBNe, Nat.reduceDiv, Nat.reducePow]
        refine ⟨hrl, rfl, rfl, endX [] ?_⟩
        simp only [envLK, con0, conS, strsOf_arr, rowS_arr, strsOf_cells, rowS_cells, toS, strL_st, strL_d, strL_enc, strL_up, hpN_nil, hpN_cons, gaT, nextC, literalC, hq', rowAV, takeO, List.isEmpty_nil, Tryd.underlying53, go_sem, reduceCtorEq, ↓reduceIte, Nat.reduceAdd, Nat.reduceMul, Nat.reduceSub, Nat.reduceEqDiff, Nat.reduceLT, Nat.reduceBEq, Nat.reduceBNe, Nat.reduceLeDiff, Int.reduceLE, Int.reduceLT, Int.reduceToNat, Int.reduceEq, Int.reduceAdd, UInt8.reduceToNat, UInt32.reduceToNat, UInt64.reduceToNat, UInt8.reduceOfNat, UInt32.reduceOfNat, UInt64.reduceOfNat, Fin.isValue, Int.reduceSub, Int.reduceMul, Int.reduceNeg, Int.reduceMod, Int.reduceDiv, Int.reduceTDiv, Int.reduceTMod, Int.reduceBEq, Int.reduceBNe, Nat.reduceDiv, Nat.reducePow]
      | true =>
        have h1' : nxC r = 1 := by have := eq_of_beq h1; omega
        cases hl : litO (nxA r) with
        | none =>
          have e1 : liT (nxA r) = nxA r := by unfold liT; rw [hl]
          have e2 : liN (nxA r) = 0 := by unfold liN; rw [hl]
          have e3 : liB (nxA r) = false := by unfold liB; rw [hl]; rfl
          have hq' : takeL s = ⟨T ++ [nxA r], L, nxB r, 1, j + 1⟩ := by rw [← hq, takeS, if_pos h1', hl, hL]
          simp only [envLK, con0, conS, strsOf_arr, rowS_arr, strsOf_cells, rowS_cells, toS, strL_st, strL_d, strL_enc, strL_up, hpN_nil, hpN_cons, gaT, nextC, literalC, takeInv, h1, e1, e2, e3, hT, hL, Tryd.underlying53, go_sem, reduceCtorEq, ↓reduceIte, Nat.reduceAdd, Nat.reduceMul, Nat.reduceSub, Nat.reduceEqDiff, Nat.reduceLT, Nat.reduceBEq, Nat.reduceBNe, Nat.reduceLeDiff, Int.reduceLE, Int.reduceLT, Int.reduceToNat, Int.reduceEq, Int.reduceAdd, UInt8.reduceToNat, UInt32.reduceToNat, UInt64.reduceToNat, UInt8.reduceOfNat, UInt32.reduceOfNat, UInt64.reduceOfNat, Fin.isValue, Int.reduceSub, Int.reduceMul, Int.reduceNeg, Int.reduceMod, Int.reduceDiv, Int.reduceTDiv, Int.reduceTMod, Int.reduceBEq, Int.reduceBNe, Nat.reduceDiv, Nat.reducePow]
          repeat' apply And.intro
          rotate_right
          · refine endX [(0, 80032), (1, 501)] ?_
            simp only [envLK, con0, conS, strsOf_arr, rowS_arr, strsOf_cells, rowS_cells, toS, strL_st, strL_d, strL_enc, strL_up, hpN_nil, hpN_cons, gaT, nextC, literalC, hq', rowAV, takeO, hTe, hLe, hL, hTl, Tryd.underlying53, go_sem, reduceCtorEq, ↓reduceIte, Nat.reduceAdd, Nat.reduceMul, Nat.reduceSub, Nat.reduceEqDiff, Nat.reduceLT, Nat.reduceBEq, Nat.reduceBNe, Nat.reduceLeDiff, Int.reduceLE, Int.reduceLT, Int.reduceToNat, Int.reduceEq, Int.reduceAdd, UInt8.reduceToNat, UInt32.reduceToNat, UInt64.reduceToNat, UInt8.reduceOfNat, UInt32.reduceOfNat, UInt64.reduceOfNat, Fin.isValue, Int.reduceSub, Int.reduceMul, Int.reduceNeg, Int.reduceMod, Int.reduceDiv, Int.reduceTDiv, Int.reduceTMod, Int.reduceBEq, Int.reduceBNe, Nat.reduceDiv, Nat.reducePow]
          all_goals first | omega | exact rfl
        | some q =>
          obtain ⟨a, n⟩ := q
          obtain ⟨hab, hnb⟩ := litO_bound hl
          have e1 : liT (nxA r) = (nxA r).take a := by unfold liT; rw [hl]
          have e2 : liN (nxA r) = n := by unfold liN; rw [hl]
          have e3 : liB (nxA r) = true := by unfold liB; rw [hl]; rfl
          cases hbig : decide ((700 : Int) < n) with
          | true =>
            have hq' : takeL s = ⟨[], [], nxB r, 2, j + 1⟩ := by rw [← hq, takeS, if_pos h1', hl]; simp only; rw [if_pos (.inl (by have := of_decide_eq_true hbig; omega)), hL]
            simp only [envLK, con0, conS, strsOf_arr, rowS_arr, strsOf_cells, rowS_cells, toS, strL_st, strL_d, strL_enc, strL_up, hpN_nil, hpN_cons, gaT, nextC, literalC, takeInv, h1, e1, e2, e3, hbig, hT, hL, Tryd.underlying53, go_sem, reduceCtorEq, ↓reduceIte, Nat.reduceAdd, Nat.reduceMul, Nat.reduceSub, Nat.reduceEqDiff, Nat.reduceLT, Nat.reduceBEq, Nat.reduceBNe, Nat.reduceLeDiff, Int.reduceLE, Int.reduceLT, Int.reduceToNat, Int.reduceEq, Int.reduceAdd, UInt8.reduceToNat, UInt32.reduceToNat, UInt64.reduceToNat, UInt8.reduceOfNat, UInt32.reduceOfNat, UInt64.reduceOfNat, Fin.isValue, Int.reduceSub, Int.reduceMul, Int.reduceNeg, Int.reduceMod, Int.reduceDiv, Int.reduceTDiv, Int.reduceTMod, Int.reduceBEq, Int.reduceBNe, Nat.reduceDiv, Nat.reducePow]
            repeat' apply And.intro
            rotate_right
            · refine endX [] ?_
              simp only [envLK, con0, conS, strsOf_arr, rowS_arr, strsOf_cells, rowS_cells, toS, strL_st, strL_d, strL_enc, strL_up, hpN_nil, hpN_cons, gaT, nextC, literalC, hq', rowAV, takeO, List.isEmpty_nil, Tryd.underlying53, go_sem, reduceCtorEq, ↓reduceIte, Nat.reduceAdd, Nat.reduceMul, Nat.reduceSub, Nat.reduceEqDiff, Nat.reduceLT, Nat.reduceBEq, Nat.reduceBNe, Nat.reduceLeDiff, Int.reduceLE, Int.reduceLT, Int.reduceToNat, Int.reduceEq, Int.reduceAdd, UInt8.reduceToNat, UInt32.reduceToNat, UInt64.reduceToNat, UInt8.reduceOfNat, UInt32.reduceOfNat, UInt64.reduceOfNat, Fin.isValue, Int.reduceSub, Int.reduceMul, Int.reduceNeg, Int.reduceMod, Int.reduceDiv, Int.reduceTDiv, Int.reduceTMod, Int.reduceBEq, Int.reduceBNe, Nat.reduceDiv, Nat.reducePow]
            all_goals first | omega | exact rfl
          | false =>
            cases b4 : (((j + 1 : Nat) : Int) == 4) with
            | true =>
              have hq' : takeL s = ⟨[], [], nxB r, 2, j + 1⟩ := by
                rw [← hq, takeS, if_pos h1', hl]; simp only
                rw [if_pos (.inr (by have := eq_of_beq b4; omega)), hL]
              simp only [envLK, con0, conS, strsOf_arr, rowS_arr, strsOf_cells, rowS_cells, toS, strL_st, strL_d, strL_enc, strL_up, hpN_nil, hpN_cons, gaT, nextC, literalC, takeInv, h1, e1, e2, e3, hbig, b4, hT, hL, Tryd.underlying53, go_sem, reduceCtorEq, ↓reduceIte, Nat.reduceAdd, Nat.reduceMul, Nat.reduceSub, Nat.reduceEqDiff, Nat.reduceLT, Nat.reduceBEq, Nat.reduceBNe, Nat.reduceLeDiff, Int.reduceLE, Int.reduceLT, Int.reduceToNat, Int.reduceEq, Int.reduceAdd, UInt8.reduceToNat, UInt32.reduceToNat, UInt64.reduceToNat, UInt8.reduceOfNat, UInt32.reduceOfNat, UInt64.reduceOfNat, Fin.isValue, Int.reduceSub, Int.reduceMul, Int.reduceNeg, Int.reduceMod, Int.reduceDiv, Int.reduceTDiv, Int.reduceTMod, Int.reduceBEq, Int.reduceBNe, Nat.reduceDiv, Nat.reducePow]
              repeat' apply And.intro
              rotate_right
              · refine endX [] ?_
                simp only [envLK, con0, conS, strsOf_arr, rowS_arr, strsOf_cells, rowS_cells, toS, strL_st, strL_d, strL_enc, strL_up, hpN_nil, hpN_cons, gaT, nextC, literalC, hq', rowAV, takeO, List.isEmpty_nil, Tryd.underlying53, go_sem, reduceCtorEq, ↓reduceIte, Nat.reduceAdd, Nat.reduceMul, Nat.reduceSub, Nat.reduceEqDiff, Nat.reduceLT, Nat.reduceBEq, Nat.reduceBNe, Nat.reduceLeDiff, Int.reduceLE, Int.reduceLT, Int.reduceToNat, Int.reduceEq, Int.reduceAdd, UInt8.reduceToNat, UInt32.reduceToNat, UInt64.reduceToNat, UInt8.reduceOfNat, UInt32.reduceOfNat, UInt64.reduceOfNat, Fin.isValue, Int.reduceSub, Int.reduceMul, Int.reduceNeg, Int.reduceMod, Int.reduceDiv, Int.reduceTDiv, Int.reduceTMod, Int.reduceBEq, Int.reduceBNe, Nat.reduceDiv, Nat.reducePow]
              all_goals first | omega | exact rfl
            | false =>
              have h4 : ¬ (((j + 1 : Nat) : Int) = 4) := fun e => by rw [e] at b4; simp at b4
              have hc : ¬ (700 < n ∨ L.length = 4) := by
                have := of_decide_eq_false hbig
                omega
              cases hmore : decide (((nxB r).length : Int) < n) with
              | true =>
                have hq' : takeL s = ⟨[], [], [], 0, j + 2⟩ := by rw [← hq, takeS, if_pos h1', hl]; simp only; rw [if_neg hc, if_pos (by have := of_decide_eq_true hmore; omega), hL]
                simp only [envLK, con0, conS, strsOf_arr, rowS_arr, strsOf_cells, rowS_cells, toS, strL_st, strL_d, strL_enc, strL_up, hpN_nil, hpN_cons, gaT, nextC, literalC, takeInv, h1, e1, e2, e3, hbig, b4, w1, hT, hL, hmore, Tryd.underlying53, go_sem, reduceCtorEq, ↓reduceIte, Nat.reduceAdd, Nat.reduceMul, Nat.reduceSub, Nat.reduceEqDiff, Nat.reduceLT, Nat.reduceBEq, Nat.reduceBNe, Nat.reduceLeDiff, Int.reduceLE, Int.reduceLT, Int.reduceToNat, Int.reduceEq, Int.reduceAdd, UInt8.reduceToNat, UInt32.reduceToNat, UInt64.reduceToNat, UInt8.reduceOfNat, UInt32.reduceOfNat, UInt64.reduceOfNat, Fin.isValue, Int.reduceSub, Int.reduceMul, Int.reduceNeg, Int.reduceMod, Int.reduceDiv, Int.reduceTDiv, Int.reduceTMod, Int.reduceBEq, Int.reduceBNe, Nat.reduceDiv, Nat.reducePow]
                repeat' apply And.intro
                rotate_right
                · refine endX [] ?_
                  simp only [envLK, con0, conS, strsOf_arr, rowS_arr, strsOf_cells, rowS_cells, toS, strL_st, strL_d, strL_enc, strL_up, hpN_nil, hpN_cons, gaT, nextC, literalC, hq', rowAV, takeO, List.isEmpty_nil, Tryd.underlying53, go_sem, reduceCtorEq, ↓reduceIte, Nat.reduceAdd, Nat.reduceMul, Nat.reduceSub, Nat.reduceEqDiff, Nat.reduceLT, Nat.reduceBEq, Nat.reduceBNe, Nat.reduceLeDiff, Int.reduceLE, Int.reduceLT, Int.reduceToNat, Int.reduceEq, Int.reduceAdd, UInt8.reduceToNat, UInt32.reduceToNat, UInt64.reduceToNat, UInt8.reduceOfNat, UInt32.reduceOfNat, UInt64.reduceOfNat, Fin.isValue, Int.reduceSub, Int.reduceMul, Int.reduceNeg, Int.reduceMod, Int.reduceDiv, Int.reduceTDiv, Int.reduceTMod, Int.reduceBEq, Int.reduceBNe, Nat.reduceDiv, Nat.reducePow]
                all_goals first | omega | exact rfl
              | false =>
                have hnl : n ≤ (nxB r).length := by have := of_decide_eq_false hmore; omega
                have hq' : takeS (4 - (j + 1)) (T ++ [(nxA r).take a]) (L ++ [(nxB r).take n]) ((nxB r).drop n) = takeL s := by
                  rw [← hq]
                  conv => rhs; rw [takeS, if_pos h1', hl]
                  simp only
                  rw [if_neg hc, if_neg (by omega)]
                simp only [envLK, con0, conS, strsOf_arr, rowS_arr, strsOf_cells, rowS_cells, toS, strL_st, strL_d, strL_enc, strL_up, hpN_nil, hpN_cons, gaT, nextC, literalC, takeInv, h1, e1, e2, e3, hbig, b4, w1, hT, hL, hmore, Tryd.underlying53, go_sem, reduceCtorEq, ↓reduceIte, Nat.reduceAdd, Nat.reduceMul, Nat.reduceSub, Nat.reduceEqDiff, Nat.reduceLT, Nat.reduceBEq, Nat.reduceBNe, Nat.reduceLeDiff, Int.reduceLE, Int.reduceLT, Int.reduceToNat, Int.reduceEq, Int.reduceAdd, UInt8.reduceToNat, UInt32.reduceToNat, UInt64.reduceToNat, UInt8.reduceOfNat, UInt32.reduceOfNat, UInt64.reduceOfNat, Fin.isValue, Int.reduceSub, Int.reduceMul, Int.reduceNeg, Int.reduceMod, Int.reduceDiv, Int.reduceTDiv, Int.reduceTMod, Int.reduceBEq, Int.reduceBNe, Nat.reduceDiv, Nat.reducePow]
                repeat' apply And.intro
                rotate_right
                · refine again ⟨j + 1 + 1, T ++ [(nxA r).take a], L ++ [(nxB r).take n], (nxB r).drop n⟩ [(500, 80032), (501, 150048)] ⟨by simp only; omega, by simp [hT], by simp [hL], by rw [List.length_drop]; omega, by simp only; rw [← hq']; congr 1; omega⟩ (by simp only; omega) ?_
                  simp only [takeInv, envLK, con0, conS, strsOf_arr, rowS_arr, strsOf_cells, rowS_cells, toS, strL_st, strL_d, strL_enc, strL_up, hpN_nil, hpN_cons, gaT, nextC, literalC, Tryd.underlying53, go_sem, reduceCtorEq, ↓reduceIte, Nat.reduceAdd, Nat.reduceMul, Nat.reduceSub, Nat.reduceEqDiff, Nat.reduceLT, Nat.reduceBEq, Nat.reduceBNe, Nat.reduceLeDiff, Int.reduceLE, Int.reduceLT, Int.reduceToNat, Int.reduceEq, Int.reduceAdd, UInt8.reduceToNat, UInt32.reduceToNat, UInt64.reduceToNat, UInt8.reduceOfNat, UInt32.reduceOfNat, UInt64.reduceOfNat, Fin.isValue, Int.reduceSub, Int.reduceMul, Int.reduceNeg, Int.reduceMod, Int.reduceDiv, Int.reduceTDiv, Int.reduceTMod, Int.reduceBEq, Int.reduceBNe, Nat.reduceDiv, Nat.reducePow]
                all_goals first | omega | exact rfl
end Go.Proofs.YtgfcdkbbkgamnaaDoor
