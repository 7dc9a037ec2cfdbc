/-
  Layer 14: the order of ranges and of their ends does not matter.
-/
import Derived.Test.YtgfcdkbbkgamnaaDoorSz
import Derived.Test.YtgfcdkbbkgamnaaDoorTi
import Derived.Test.YtgfcdkbbkgamnaaDoorRx
namespace Go.Proofs.YtgfcdkbbkgamnaaDoor
open Go Go.RowKit
set_option maxHeartbeats 4000000
set_option linter.unusedSimpArgs false
set_option linter.unusedVariables false
def swp (r : Rng) : Rng := (r.2, r.1)
theorem hasR_swp (r : Rng) (n g : Int) : hasR (swp r) n g = hasR r n g := by
  unfold hasR swp
  rw [Int.min_comm, Int.max_comm]
theorem hasF_swp (l : List Rng) (n g : Int) : hasF (l.map swp) n g = hasF l n g := by
  unfold hasF
  rw [List.any_map]
  congr 1
  funext r
  exact hasR_swp r n g
theorem hasF_rev (l : List Rng) (n g : Int) : hasF l.reverse n g = hasF l n g := by
  unfold hasF
  rw [List.any_reverse]
def backL (l : List Rng) : List Rng := l.reverse.map swp
theorem backL_has (l : List Rng) (n g : Int) : hasF (backL l) n g = hasF l n g := by unfold backL; rw [hasF_swp, hasF_rev]
theorem hasF_snoc (l : List Rng) (r : Rng) (n g : Int) : hasF (l ++ [r]) n g = (hasF l n g || hasR r n g) := by
  unfold hasF
  rw [List.any_append]
  simp
theorem hasR_self (n : Int) : hasR (n, n) n n = true := by
  have : knw n n = n := by unfold knw; split <;> simp_all
  unfold hasR
  simp only [this]
  simp
def bkInv (l : List Rng) (n g a b : Int) (x : PrX) : St := match x.acc.length with
  | 0 => ⟨[(0, .c (.one (.sl 0 0 2 l.length))), (1, .c (.one (.num n))), (2, .c (.one (.num g))), (7, .c (.one (.ptr 600 0 0 0))), (9, .c (.one (.val (.slice none 0 0)))), (18, .c (.one (.num l.length))), (19, .c (.one (.num x.i)))], [(0, ⟨.arr _ rngL l, false⟩), (600, ⟨.cells 1 [.num a, .num b], true⟩)]⟩
  | j + 1 => ⟨[(0, .c (.one (.sl 0 0 2 l.length))), (1, .c (.one (.num n))), (2, .c (.one (.num g))), (7, .c (.one (.ptr 600 0 0 0))), (9, .c (.one (.sl 500 0 2 (j + 1)))), (18, .c (.one (.num l.length))), (19, .c (.one (.num x.i)))], [(0, ⟨.arr _ rngL l, false⟩), (500, ⟨.arr _ rngL x.acc, true⟩), (600, ⟨.cells 1 [.num a, .num b], true⟩)]⟩
def bkOk (l : List Rng) (x : PrX) : Prop := x.i ≤ l.length ∧ x.acc = (backL l).take x.i
theorem bkOk_add {l : List Rng} {x : PrX} (h : bkOk l x) (hi : x.i < l.length) : bkOk l ⟨x.i + 1, x.acc ++ [((l.getD (l.length - 1 - x.i) (0, 0)).2, (l.getD (l.length - 1 - x.i) (0, 0)).1)]⟩ := by
  obtain ⟨h1, h2⟩ := h
  refine ⟨hi, ?_⟩
  show x.acc ++ _ = (backL l).take (x.i + 1)
  have e : (backL l)[x.i]? = some (swp (l.getD (l.length - 1 - x.i) (0, 0))) := by
    unfold backL
    rw [List.getElem?_map, List.getElem?_reverse hi, List.getD_eq_getElem?_getD, List.getElem?_eq_getElem (by omega)]
    rfl
  rw [h2, List.take_add_one, e]
  rfl
theorem backL_len (l : List Rng) : (backL l).length = l.length := by unfold backL; simp
theorem bkOk_end {l : List Rng} {x : PrX} (h : bkOk l x) (hi : l.length ≤ x.i) : x.acc = backL l := by
  obtain ⟨h1, h2⟩ := h
  rw [h2]
  exact List.take_of_length_le (by rw [backL_len]; exact hi)
def qtd : Nat → Option Con := fun f => match f with
  | 24 => some hasQC
  | 20 => some awake14C
  | _ => none
theorem qtd_ok : GaOkG Tryd.prog GL qtd := fun f con h => by
  unfold qtd at h
  split at h
  · injection h with h; subst h; exact hasQC_ok
  · injection h with h; subst h; exact awake14C_ok
  · cases h
set_option maxRecDepth 100000 in
theorem lawTurns_tri (l : List Rng) (n g a b : Int) : TriG Tryd.prog GL 6 [.one (.sl 0 0 2 l.length), .one (.num n), .one (.num g), .agg [.num a, .num b]] [(0, ⟨.arr _ rngL l, false⟩)] (.c (.one (.bo true))) [(0, ⟨.arr _ rngL l, false⟩)] := by
  refine tri_ofx (envLK_ok qtd_ok 74 [0]) Tryd.func6 rfl rfl (rs := [.tmp 8]) rfl rfl (by simp [envLK]) rfl ?_
  cases hb : decide ((100 : Int) < l.length) with
  | true =>
    simp only [envLK, con0, conS, strsOf_arr, rowS_arr, strsOf_cells, rowS_cells, toS, strL_st, strL_d, strL_enc, strL_up, hpN_nil, hpN_cons, qtd, hasQC, awake14C, hb, go_sem, reduceCtorEq, ↓reduceIte, Nat.reduceAdd, Nat.reduceMul, Nat.reduceSub, Nat.reduceEqDiff, Nat.reduceLT, Nat.reduceBEq, Nat.reduceBNe, Nat.reduceLeDiff, Int.reduceLE, Int.reduceLT, Int.reduceToNat, Int.reduceEq, Int.reduceAdd, UInt8.reduceToNat, UInt32.reduceToNat, UInt64.reduceToNat, UInt8.reduceOfNat, UInt32.reduceOfNat, UInt64.reduceOfNat, Fin.isValue, Int.reduceSub, Int.reduceMul, Int.reduceNeg, Int.reduceMod, Int.reduceDiv, Int.reduceTDiv, Int.reduceTMod, Int.reduceBEq, Int.reduceBNe, Nat.reduceDiv, Nat.reducePow]
    repeat' apply And.intro
    rotate_right
    · refine endX [] ?_
      simp only [envLK, con0, conS, strsOf_arr, rowS_arr, strsOf_cells, rowS_cells, toS, strL_st, strL_d, strL_enc, strL_up, hpN_nil, hpN_cons, qtd, hasQC, awake14C, go_sem, reduceCtorEq, ↓reduceIte, Nat.reduceAdd, Nat.reduceMul, Nat.reduceSub, Nat.reduceEqDiff, Nat.reduceLT, Nat.reduceBEq, Nat.reduceBNe, Nat.reduceLeDiff, Int.reduceLE, Int.reduceLT, Int.reduceToNat, Int.reduceEq, Int.reduceAdd, UInt8.reduceToNat, UInt32.reduceToNat, UInt64.reduceToNat, UInt8.reduceOfNat, UInt32.reduceOfNat, UInt64.reduceOfNat, Fin.isValue, Int.reduceSub, Int.reduceMul, Int.reduceNeg, Int.reduceMod, Int.reduceDiv, Int.reduceTDiv, Int.reduceTMod, Int.reduceBEq, Int.reduceBNe, Nat.reduceDiv, Nat.reducePow]
      all_goals ((repeat' apply And.intro) <;> first | omega | exact rfl | exact id)
    all_goals first | omega | exact rfl | exact id
  | false =>
    have hl : l.length ≤ 100 := by have := of_decide_eq_false hb; omega
    have hl' : l.length ≤ 1048576 := by omega
    simp only [envLK, con0, conS, strsOf_arr, rowS_arr, strsOf_cells, rowS_cells, toS, strL_st, strL_d, strL_enc, strL_up, hpN_nil, hpN_cons, qtd, hasQC, awake14C, hb, go_sem, reduceCtorEq, ↓reduceIte, Nat.reduceAdd, Nat.reduceMul, Nat.reduceSub, Nat.reduceEqDiff, Nat.reduceLT, Nat.reduceBEq, Nat.reduceBNe, Nat.reduceLeDiff, Int.reduceLE, Int.reduceLT, Int.reduceToNat, Int.reduceEq, Int.reduceAdd, UInt8.reduceToNat, UInt32.reduceToNat, UInt64.reduceToNat, UInt8.reduceOfNat, UInt32.reduceOfNat, UInt64.reduceOfNat, Fin.isValue, Int.reduceSub, Int.reduceMul, Int.reduceNeg, Int.reduceMod, Int.reduceDiv, Int.reduceTDiv, Int.reduceTMod, Int.reduceBEq, Int.reduceBNe, Nat.reduceDiv, Nat.reducePow]
    refine loop_inv (envLK_ok qtd_ok 74 [0]) (bkInv l n g a b) (bkOk l) (fun x => l.length - x.i) ⟨0, []⟩ [(600, 10000)] ⟨Nat.zero_le _, rfl⟩ ?_ ?_
    · simp only [bkInv, go_sem, reduceCtorEq, ↓reduceIte, Nat.reduceAdd, Nat.reduceMul, Nat.reduceSub, Nat.reduceEqDiff, Nat.reduceLT, Nat.reduceBEq, Nat.reduceBNe, Nat.reduceLeDiff, Int.reduceLE, Int.reduceLT, Int.reduceToNat, Int.reduceEq, Int.reduceAdd, UInt8.reduceToNat, UInt32.reduceToNat, UInt64.reduceToNat, UInt8.reduceOfNat, UInt32.reduceOfNat, UInt64.reduceOfNat, Fin.isValue, Int.reduceSub, Int.reduceMul, Int.reduceNeg, Int.reduceMod, Int.reduceDiv, Int.reduceTDiv, Int.reduceTMod, Int.reduceBEq, Int.reduceBNe, Nat.reduceDiv, Nat.reducePow]
      all_goals ((repeat' apply And.intro) <;> first | omega | exact rfl | exact id)
    · rintro ⟨i, acc⟩ hx
      have hi1 : i ≤ l.length := hx.1
      have hal : acc.length = i := by have := hx.2; simp only at this; rw [this, List.length_take, backL_len]; omega
      have hw : IntKind.i64.wrap ((i : Int) + 1) = ((i + 1 : Nat) : Int) := by rw [IntKind.wrap_i64]; omega
      generalize hj : acc.length = j at hal
      rcases j with _ | j
      · obtain rfl := List.eq_nil_of_length_eq_zero hj
        simp only [envLK, con0, conS, strsOf_arr, rowS_arr, strsOf_cells, rowS_cells, toS, strL_st, strL_d, strL_enc, strL_up, hpN_nil, hpN_cons, qtd, hasQC, awake14C, bkInv, hj, go_sem, reduceCtorEq, ↓reduceIte, Nat.reduceAdd, Nat.reduceMul, Nat.reduceSub, Nat.reduceEqDiff, Nat.reduceLT, Nat.reduceBEq, Nat.reduceBNe, Nat.reduceLeDiff, Int.reduceLE, Int.reduceLT, Int.reduceToNat, Int.reduceEq, Int.reduceAdd, UInt8.reduceToNat, UInt32.reduceToNat, UInt64.reduceToNat, UInt8.reduceOfNat, UInt32.reduceOfNat, UInt64.reduceOfNat, Fin.isValue, Int.reduceSub, Int.reduceMul, Int.reduceNeg, Int.reduceMod, Int.reduceDiv, Int.reduceTDiv, Int.reduceTMod, Int.reduceBEq, Int.reduceBNe, Nat.reduceDiv, Nat.reducePow]
        refine br (fun h => ?_) fun h => ?_
        · have hlt : i < l.length := by have := of_decide_eq_true h; omega
          have w1 : IntKind.i64.wrap ((l.length : Int) - 1) = ((l.length - 1 : Nat) : Int) := by rw [IntKind.wrap_i64]; omega
          have w2 : IntKind.i64.wrap (((l.length - 1 : Nat) : Int) - (i : Int)) = ((l.length - 1 - i : Nat) : Int) := by rw [IntKind.wrap_i64]; omega
          have hg : (0 : Int) ≤ ((l.length - 1 - i : Nat) : Int) ∧ ((l.length - 1 - i : Nat) : Int) < (l.length : Int) := ⟨by omega, by omega⟩
          have hnx := bkOk_add hx hlt
          simp only at hnx
          generalize hr : l.getD (l.length - 1 - i) (0, 0) = r at hnx
          obtain ⟨ra, rb⟩ := r
          simp only at hnx
          simp only [envLK, con0, conS, strsOf_arr, rowS_arr, strsOf_cells, rowS_cells, toS, strL_st, strL_d, strL_enc, strL_up, hpN_nil, hpN_cons, qtd, hasQC, awake14C, h, hw, w1, w2, hr, hj, rngL_st, rngL_d, rngL_enc, rngL_up, go_sem, reduceCtorEq, ↓reduceIte, Nat.reduceAdd, Nat.reduceMul, Nat.reduceSub, Nat.reduceEqDiff, Nat.reduceLT, Nat.reduceBEq, Nat.reduceBNe, Nat.reduceLeDiff, Int.reduceLE, Int.reduceLT, Int.reduceToNat, Int.reduceEq, Int.reduceAdd, UInt8.reduceToNat, UInt32.reduceToNat, UInt64.reduceToNat, UInt8.reduceOfNat, UInt32.reduceOfNat, UInt64.reduceOfNat, Fin.isValue, Int.reduceSub, Int.reduceMul, Int.reduceNeg, Int.reduceMod, Int.reduceDiv, Int.reduceTDiv, Int.reduceTMod, Int.reduceBEq, Int.reduceBNe, Nat.reduceDiv, Nat.reducePow]
          repeat' apply And.intro
          rotate_right
          · refine again ⟨i + 1, [] ++ [(rb, ra)]⟩ [(500, 90056)] hnx (by show l.length - (i + 1) < l.length - i; omega) ?_
            simp only [bkInv, List.length_append, hj, rngL_st, rngL_d, rngL_enc, rngL_up, envLK, con0, conS, strsOf_arr, rowS_arr, strsOf_cells, rowS_cells, toS, strL_st, strL_d, strL_enc, strL_up, hpN_nil, hpN_cons, qtd, hasQC, awake14C, go_sem, reduceCtorEq, ↓reduceIte, Nat.reduceAdd, Nat.reduceMul, Nat.reduceSub, Nat.reduceEqDiff, Nat.reduceLT, Nat.reduceBEq, Nat.reduceBNe, Nat.reduceLeDiff, Int.reduceLE, Int.reduceLT, Int.reduceToNat, Int.reduceEq, Int.reduceAdd, UInt8.reduceToNat, UInt32.reduceToNat, UInt64.reduceToNat, UInt8.reduceOfNat, UInt32.reduceOfNat, UInt64.reduceOfNat, Fin.isValue, Int.reduceSub, Int.reduceMul, Int.reduceNeg, Int.reduceMod, Int.reduceDiv, Int.reduceTDiv, Int.reduceTMod, Int.reduceBEq, Int.reduceBNe, Nat.reduceDiv, Nat.reducePow]
            all_goals ((repeat' apply And.intro) <;> first | omega | exact rfl | exact id)
          all_goals first | omega | exact rfl | exact id
        · have hge : l.length ≤ i := by have := of_decide_eq_false h; omega
          have he := bkOk_end hx hge
          simp only at he
          have hbk : hasF [] n g = hasF l n g := by rw [he]; exact backL_has l n g
          have hself : hasF [(n, n)] n n = true := by unfold hasF; simp [hasR_self]
          have hal3 : (([] : List Rng) ++ [(a, b)]).length = 0 + 1 := by simp [hj]
          have hal2 : (([] : List Rng) ++ [(a, b)]).length ≤ 1048576 := by omega
          cases hq : hasF l n g with
          | true =>
            rw [hq] at hbk
            cases hbk
          | false =>
            rw [hq] at hbk
            simp only [envLK, con0, conS, strsOf_arr, rowS_arr, strsOf_cells, rowS_cells, toS, strL_st, strL_d, strL_enc, strL_up, hpN_nil, hpN_cons, qtd, hasQC, awake14C, conQ, hasQF, pairsOf_arr, rowP_arr, pairsOf_cells, rowP_cells, pairs, h, hj, hq, hbk, hself, hl', rngL_st, rngL_d, rngL_enc, rngL_up, beq_self_eq_true, Bool.not_true, Bool.not_false, go_sem, reduceCtorEq, ↓reduceIte, Nat.reduceAdd, Nat.reduceMul, Nat.reduceSub, Nat.reduceEqDiff, Nat.reduceLT, Nat.reduceBEq, Nat.reduceBNe, Nat.reduceLeDiff, Int.reduceLE, Int.reduceLT, Int.reduceToNat, Int.reduceEq, Int.reduceAdd, UInt8.reduceToNat, UInt32.reduceToNat, UInt64.reduceToNat, UInt8.reduceOfNat, UInt32.reduceOfNat, UInt64.reduceOfNat, Fin.isValue, Int.reduceSub, Int.reduceMul, Int.reduceNeg, Int.reduceMod, Int.reduceDiv, Int.reduceTDiv, Int.reduceTMod, Int.reduceBEq, Int.reduceBNe, Nat.reduceDiv, Nat.reducePow]
            repeat' apply And.intro
            rotate_right
            · refine endX [] ?_
              simp only [envLK, con0, conS, strsOf_arr, rowS_arr, strsOf_cells, rowS_cells, toS, strL_st, strL_d, strL_enc, strL_up, hpN_nil, hpN_cons, qtd, hasQC, awake14C, go_sem, reduceCtorEq, ↓reduceIte, Nat.reduceAdd, Nat.reduceMul, Nat.reduceSub, Nat.reduceEqDiff, Nat.reduceLT, Nat.reduceBEq, Nat.reduceBNe, Nat.reduceLeDiff, Int.reduceLE, Int.reduceLT, Int.reduceToNat, Int.reduceEq, Int.reduceAdd, UInt8.reduceToNat, UInt32.reduceToNat, UInt64.reduceToNat, UInt8.reduceOfNat, UInt32.reduceOfNat, UInt64.reduceOfNat, Fin.isValue, Int.reduceSub, Int.reduceMul, Int.reduceNeg, Int.reduceMod, Int.reduceDiv, Int.reduceTDiv, Int.reduceTMod, Int.reduceBEq, Int.reduceBNe, Nat.reduceDiv, Nat.reducePow]
              all_goals ((repeat' apply And.intro) <;> first | omega | exact rfl | exact id)
            all_goals first | omega | exact rfl | exact id
      · simp only [envLK, con0, conS, strsOf_arr, rowS_arr, strsOf_cells, rowS_cells, toS, strL_st, strL_d, strL_enc, strL_up, hpN_nil, hpN_cons, qtd, hasQC, awake14C, bkInv, hj, go_sem, reduceCtorEq, ↓reduceIte, Nat.reduceAdd, Nat.reduceMul, Nat.reduceSub, Nat.reduceEqDiff, Nat.reduceLT, Nat.reduceBEq, Nat.reduceBNe, Nat.reduceLeDiff, Int.reduceLE, Int.reduceLT, Int.reduceToNat, Int.reduceEq, Int.reduceAdd, UInt8.reduceToNat, UInt32.reduceToNat, UInt64.reduceToNat, UInt8.reduceOfNat, UInt32.reduceOfNat, UInt64.reduceOfNat, Fin.isValue, Int.reduceSub, Int.reduceMul, Int.reduceNeg, Int.reduceMod, Int.reduceDiv, Int.reduceTDiv, Int.reduceTMod, Int.reduceBEq, Int.reduceBNe, Nat.reduceDiv, Nat.reducePow]
        refine br (fun h => ?_) fun h => ?_
        · have hlt : i < l.length := by have := of_decide_eq_true h; omega
          have w1 : IntKind.i64.wrap ((l.length : Int) - 1) = ((l.length - 1 : Nat) : Int) := by rw [IntKind.wrap_i64]; omega
          have w2 : IntKind.i64.wrap (((l.length - 1 : Nat) : Int) - (i : Int)) = ((l.length - 1 - i : Nat) : Int) := by rw [IntKind.wrap_i64]; omega
          have hg : (0 : Int) ≤ ((l.length - 1 - i : Nat) : Int) ∧ ((l.length - 1 - i : Nat) : Int) < (l.length : Int) := ⟨by omega, by omega⟩
          have hnx := bkOk_add hx hlt
          simp only at hnx
          generalize hr : l.getD (l.length - 1 - i) (0, 0) = r at hnx
          obtain ⟨ra, rb⟩ := r
          simp only at hnx
          simp only [envLK, con0, conS, strsOf_arr, rowS_arr, strsOf_cells, rowS_cells, toS, strL_st, strL_d, strL_enc, strL_up, hpN_nil, hpN_cons, qtd, hasQC, awake14C, h, hw, w1, w2, hr, hj, rngL_st, rngL_d, rngL_enc, rngL_up, go_sem, reduceCtorEq, ↓reduceIte, Nat.reduceAdd, Nat.reduceMul, Nat.reduceSub, Nat.reduceEqDiff, Nat.reduceLT, Nat.reduceBEq, Nat.reduceBNe, Nat.reduceLeDiff, Int.reduceLE, Int.reduceLT, Int.reduceToNat, Int.reduceEq, Int.reduceAdd, UInt8.reduceToNat, UInt32.reduceToNat, UInt64.reduceToNat, UInt8.reduceOfNat, UInt32.reduceOfNat, UInt64.reduceOfNat, Fin.isValue, Int.reduceSub, Int.reduceMul, Int.reduceNeg, Int.reduceMod, Int.reduceDiv, Int.reduceTDiv, Int.reduceTMod, Int.reduceBEq, Int.reduceBNe, Nat.reduceDiv, Nat.reducePow]
          repeat' apply And.intro
          rotate_right
          · refine again ⟨i + 1, acc ++ [(rb, ra)]⟩ [(500, 90056)] hnx (by show l.length - (i + 1) < l.length - i; omega) ?_
            simp only [bkInv, List.length_append, hj, rngL_st, rngL_d, rngL_enc, rngL_up, envLK, con0, conS, strsOf_arr, rowS_arr, strsOf_cells, rowS_cells, toS, strL_st, strL_d, strL_enc, strL_up, hpN_nil, hpN_cons, qtd, hasQC, awake14C, go_sem, reduceCtorEq, ↓reduceIte, Nat.reduceAdd, Nat.reduceMul, Nat.reduceSub, Nat.reduceEqDiff, Nat.reduceLT, Nat.reduceBEq, Nat.reduceBNe, Nat.reduceLeDiff, Int.reduceLE, Int.reduceLT, Int.reduceToNat, Int.reduceEq, Int.reduceAdd, UInt8.reduceToNat, UInt32.reduceToNat, UInt64.reduceToNat, UInt8.reduceOfNat, UInt32.reduceOfNat, UInt64.reduceOfNat, Fin.isValue, Int.reduceSub, Int.reduceMul, Int.reduceNeg, Int.reduceMod, Int.reduceDiv, Int.reduceTDiv, Int.reduceTMod, Int.reduceBEq, Int.reduceBNe, Nat.reduceDiv, Nat.reducePow]
            all_goals ((repeat' apply And.intro) <;> first | omega | exact rfl | exact id)
          all_goals first | omega | exact rfl | exact id
        · have hge : l.length ≤ i := by have := of_decide_eq_false h; omega
          have he := bkOk_end hx hge
          simp only at he
          have hbk : hasF acc n g = hasF l n g := by rw [he]; exact backL_has l n g
          have hself : hasF [(n, n)] n n = true := by unfold hasF; simp [hasR_self]
          have hal3 : ((acc : List Rng) ++ [(a, b)]).length = (j + 1) + 1 := by simp [hj]
          have hal2 : ((acc : List Rng) ++ [(a, b)]).length ≤ 1048576 := by omega
          cases hq : hasF l n g with
          | true =>
            rw [hq] at hbk
            have hsn : hasF (acc ++ [(a, b)]) n g = true := by rw [hasF_snoc, hbk]; rfl
            have hjl : j + 1 ≤ 100 := by omega
            simp only [envLK, con0, conS, strsOf_arr, rowS_arr, strsOf_cells, rowS_cells, toS, strL_st, strL_d, strL_enc, strL_up, hpN_nil, hpN_cons, qtd, hasQC, awake14C, conQ, hasQF, pairsOf_arr, rowP_arr, pairsOf_cells, rowP_cells, pairs, h, hj, hq, hbk, hself, hl', hsn, hal2, rngL_st, rngL_d, rngL_enc, rngL_up, beq_self_eq_true, Bool.not_true, Bool.not_false, go_sem, reduceCtorEq, ↓reduceIte, Nat.reduceAdd, Nat.reduceMul, Nat.reduceSub, Nat.reduceEqDiff, Nat.reduceLT, Nat.reduceBEq, Nat.reduceBNe, Nat.reduceLeDiff, Int.reduceLE, Int.reduceLT, Int.reduceToNat, Int.reduceEq, Int.reduceAdd, UInt8.reduceToNat, UInt32.reduceToNat, UInt64.reduceToNat, UInt8.reduceOfNat, UInt32.reduceOfNat, UInt64.reduceOfNat, Fin.isValue, Int.reduceSub, Int.reduceMul, Int.reduceNeg, Int.reduceMod, Int.reduceDiv, Int.reduceTDiv, Int.reduceTMod, Int.reduceBEq, Int.reduceBNe, Nat.reduceDiv, Nat.reducePow]
            repeat' apply And.intro
            rotate_right
            · refine endX [] ?_
              simp only [envLK, con0, conS, strsOf_arr, rowS_arr, strsOf_cells, rowS_cells, toS, strL_st, strL_d, strL_enc, strL_up, hpN_nil, hpN_cons, qtd, hasQC, awake14C, go_sem, reduceCtorEq, ↓reduceIte, Nat.reduceAdd, Nat.reduceMul, Nat.reduceSub, Nat.reduceEqDiff, Nat.reduceLT, Nat.reduceBEq, Nat.reduceBNe, Nat.reduceLeDiff, Int.reduceLE, Int.reduceLT, Int.reduceToNat, Int.reduceEq, Int.reduceAdd, UInt8.reduceToNat, UInt32.reduceToNat, UInt64.reduceToNat, UInt8.reduceOfNat, UInt32.reduceOfNat, UInt64.reduceOfNat, Fin.isValue, Int.reduceSub, Int.reduceMul, Int.reduceNeg, Int.reduceMod, Int.reduceDiv, Int.reduceTDiv, Int.reduceTMod, Int.reduceBEq, Int.reduceBNe, Nat.reduceDiv, Nat.reducePow]
              all_goals ((repeat' apply And.intro) <;> first | omega | exact rfl | exact id)
            all_goals first | omega | exact rfl | exact id
          | false =>
            rw [hq] at hbk
            simp only [envLK, con0, conS, strsOf_arr, rowS_arr, strsOf_cells, rowS_cells, toS, strL_st, strL_d, strL_enc, strL_up, hpN_nil, hpN_cons, qtd, hasQC, awake14C, conQ, hasQF, pairsOf_arr, rowP_arr, pairsOf_cells, rowP_cells, pairs, h, hj, hq, hbk, hself, hl', rngL_st, rngL_d, rngL_enc, rngL_up, beq_self_eq_true, Bool.not_true, Bool.not_false, go_sem, reduceCtorEq, ↓reduceIte, Nat.reduceAdd, Nat.reduceMul, Nat.reduceSub, Nat.reduceEqDiff, Nat.reduceLT, Nat.reduceBEq, Nat.reduceBNe, Nat.reduceLeDiff, Int.reduceLE, Int.reduceLT, Int.reduceToNat, Int.reduceEq, Int.reduceAdd, UInt8.reduceToNat, UInt32.reduceToNat, UInt64.reduceToNat, UInt8.reduceOfNat, UInt32.reduceOfNat, UInt64.reduceOfNat, Fin.isValue, Int.reduceSub, Int.reduceMul, Int.reduceNeg, Int.reduceMod, Int.reduceDiv, Int.reduceTDiv, Int.reduceTMod, Int.reduceBEq, Int.reduceBNe, Nat.reduceDiv, Nat.reducePow]
            repeat' apply And.intro
            rotate_right
            · refine endX [] ?_
              simp only [envLK, con0, conS, strsOf_arr, rowS_arr, strsOf_cells, rowS_cells, toS, strL_st, strL_d, strL_enc, strL_up, hpN_nil, hpN_cons, qtd, hasQC, awake14C, go_sem, reduceCtorEq, ↓reduceIte, Nat.reduceAdd, Nat.reduceMul, Nat.reduceSub, Nat.reduceEqDiff, Nat.reduceLT, Nat.reduceBEq, Nat.reduceBNe, Nat.reduceLeDiff, Int.reduceLE, Int.reduceLT, Int.reduceToNat, Int.reduceEq, Int.reduceAdd, UInt8.reduceToNat, UInt32.reduceToNat, UInt64.reduceToNat, UInt8.reduceOfNat, UInt32.reduceOfNat, UInt64.reduceOfNat, Fin.isValue, Int.reduceSub, Int.reduceMul, Int.reduceNeg, Int.reduceMod, Int.reduceDiv, Int.reduceTDiv, Int.reduceTMod, Int.reduceBEq, Int.reduceBNe, Nat.reduceDiv, Nat.reducePow]
              all_goals ((repeat' apply And.intro) <;> first | omega | exact rfl | exact id)
            all_goals first | omega | exact rfl | exact id
theorem spanTurns_law (w : World) {v0 : Value} (l : List Rng) (p : Option (Blk × Nat)) (ha : ArgR w (.arr _ rngL l) 2 l.length v0 p) (hl : l.length ≤ maxLen) (hq : ∀ x ∈ l, (Lit.int .i64 x.1).wf = true ∧ (Lit.int .i64 x.2).wf = true)
    (n : Int) (wn : (Lit.int .i64 n).wf = true) (g : Int) (wg : (Lit.int .i64 g).wf = true) (a b : Int) (wa : (Lit.int .i64 a).wf = true) (wb : (Lit.int .i64 b).wf = true) (hg : ∀ f ∈ GL, f.p w) :
    Calls Tryd.prog 6 #[v0, .int .i64 n, .int .i64 g, .agg #[.int .i64 a, .int .i64 b]] w fun e w' => e = .returned (.bool true) ∧ Below w.heap.size w w' := by
  refine (tri_callsR (os := [.arr _ rngL l]) (lawTurns_tri l n g a b) w [p] rfl (fun i o q h1 h2 r => ?_) (vals := [v0, .int .i64 n, .int .i64 g, .agg #[.int .i64 a, .int .i64 b]]) ⟨ha.rel _ 0 rfl, rfl, rfl, ⟨_, rfl, rfl, rfl, trivial⟩, trivial⟩ hg).mono ?_
  · match i with
    | 0 => simp at h1 h2; subst h1; subst h2; exact ha.obj r
    | i + 1 => simp at h1
  · rintro e w' ⟨u, r', rfl, hr, hb⟩
    exact ⟨by rw [show u = .bool true from hr], hb⟩
end Go.Proofs.YtgfcdkbbkgamnaaDoor
