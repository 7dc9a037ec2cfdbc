/-
  Layer 14: a set's ranges.
-/
import Derived.Test.YtgfcdkbbkgamnaaDoorSz
import Derived.Test.YtgfcdkbbkgamnaaDoorTa
namespace Go.Proofs.YtgfcdkbbkgamnaaDoor
open Go Go.RowKit
set_option maxHeartbeats 4000000
set_option linter.unusedSimpArgs false
set_option linter.unusedVariables false
def rngL : Lay (Int × Int) where
  st := 2
  enc x := [.num x.1, .num x.2]
  d := (0, 0)
  up x j ys := match ys with
    | [.num y] => if j = 0 then some (y, x.2) else if j = 1 then some (x.1, y) else none
    | [.num y, .num z] => if j = 0 then some (y, z) else none
    | _ => none
  toB := none
  ofB := none
  len _ := rfl
  put x j ys y h := by
    split at h
    · split at h
      · rename_i h0; injection h with h; subst h; subst h0; simp
      · split at h
        · rename_i h0; injection h with h; subst h; subst h0; simp
        · cases h
    · split at h
      · rename_i h0; injection h with h; subst h; subst h0; simp
      · cases h
    · cases h
  plain x v h := by simp at h; rcases h with rfl | rfl <;> trivial
  bare x v h := by simp at h; rcases h with rfl | rfl <;> trivial
  toB_ok f h x := by cases h
  ofB_ok f h x := by cases h
theorem rngL_st : rngL.st = 2 := rfl
theorem rngL_d : rngL.d = (0, 0) := rfl
theorem rngL_enc (x : Int × Int) : rngL.enc x = [.num x.1, .num x.2] := rfl
theorem rngL_up (x : Int × Int) (y z : Int) : rngL.up x 0 [.num y, .num z] = some (y, z) := rfl
abbrev Rng := Int × Int
def prsF : List (List UInt8) → Option (List Rng)
  | [] => some []
  | p :: ps => if rgB p = true then (prsF ps).map (rgOf p :: ·) else none
def prsL (s : List UInt8) : Option (List Rng) := prsF (Lib.split s [44])
def prsV : Option (List Rng) → SV
  | none => .tup [.one (.val (.slice none 0 0)), .one (.num 3)]
  | some l => .tup [.one (if l.isEmpty then .val (.slice none 0 0) else .sl 0 0 2 l.length), .one (.num 0)]
def prsO : Option (List Rng) → List SObj
  | none => []
  | some l => if l.isEmpty then [] else [.arr _ rngL l]
structure PrX where
  i : Nat
  acc : List Rng
def prInv (R : List (List UInt8)) (x : PrX) : St := match x.acc.length with
  | 0 => ⟨[(4, .c (.one (.val (.slice none 0 0)))), (10, .c (.one (.sl 400 0 1 R.length))), (11, .c (.one (.num R.length))), (12, .c (.one (.num x.i)))], [(400, ⟨.arr _ strL R, true⟩)]⟩
  | j + 1 => ⟨[(4, .c (.one (.sl 500 0 2 (j + 1)))), (10, .c (.one (.sl 400 0 1 R.length))), (11, .c (.one (.num R.length))), (12, .c (.one (.num x.i)))], [(400, ⟨.arr _ strL R, true⟩), (500, ⟨.arr _ rngL x.acc, true⟩)]⟩
def prOk (R : List (List UInt8)) (x : PrX) : Prop := x.i ≤ R.length ∧ x.acc.length = x.i ∧ (prsF (R.drop x.i)).map (x.acc ++ ·) = prsF R
theorem prOk_bad {R : List (List UInt8)} {x : PrX} (h : prOk R x) (hi : x.i < R.length) (hb : rgB (R.getD x.i []) = false) : prsF R = none := by
  obtain ⟨h1, h2, h3⟩ := h
  have hd : R.drop x.i = R.getD x.i [] :: R.drop (x.i + 1) := by rw [List.drop_eq_getElem_cons hi, List.getD_eq_getElem?_getD, List.getElem?_eq_getElem hi]; rfl
  rw [hd, prsF, if_neg (by rw [hb]; simp)] at h3
  exact h3.symm
theorem prOk_add {R : List (List UInt8)} {x : PrX} (h : prOk R x) (hi : x.i < R.length) (hb : rgB (R.getD x.i []) = true) : prOk R ⟨x.i + 1, x.acc ++ [rgOf (R.getD x.i [])]⟩ := by
  obtain ⟨h1, h2, h3⟩ := h
  have hd : R.drop x.i = R.getD x.i [] :: R.drop (x.i + 1) := by rw [List.drop_eq_getElem_cons hi, List.getD_eq_getElem?_getD, List.getElem?_eq_getElem hi]; rfl
  rw [hd, prsF, if_pos hb] at h3
  refine ⟨hi, by simp only [List.length_append, List.length_cons, List.length_nil]; omega, ?_⟩
  rw [← h3, Option.map_map]
  simp only
  congr 1
  funext l
  simp
theorem prOk_end {R : List (List UInt8)} {x : PrX} (h : prOk R x) (hi : R.length ≤ x.i) : prsF R = some x.acc := by
  obtain ⟨h1, h2, h3⟩ := h
  rw [List.drop_eq_nil_of_le hi, prsF] at h3
  rw [← h3]; simp
theorem split_len : ∀ (k : Nat) (s p : List UInt8), (Lib.splitK p 0 k s).length ≤ k + 1
  | 0, s, p => by simp [Lib.splitK]
  | k + 1, s, p => by
    have := split_len k
    rw [Lib.splitK]
    split
    · simp
    · simp only [List.length_cons]; exact Nat.succ_le_succ (this _ _)
theorem split_mem : ∀ (k : Nat) (s p l : List UInt8), l ∈ Lib.splitK p 0 k s → l.length ≤ s.length
  | 0, s, p, l, h => by
    have : l = s := by simpa [Lib.splitK] using h
    rw [this]; exact Nat.le_refl _
  | k + 1, s, p, l, h => by
    rw [Lib.splitK] at h
    split at h
    · have : l = s := by simpa using h
      rw [this]; exact Nat.le_refl _
    · rcases List.mem_cons.1 h with rfl | h
      · simp only [List.length_take]; omega
      · have := split_mem k _ _ _ h
        rw [List.length_drop] at this
        omega
def qt2 : Nat → Option Con := fun f => match f with
  | 52 => some tSplitC
  | 53 => some rangeOfC
  | _ => none
theorem qt2_ok : GaOkG Tryd.prog GL qt2 := fun f con h => by
  unfold qt2 at h
  split at h
  · injection h with h; subst h; exact tSplitC_ok
  · injection h with h; subst h; exact rangeOfC_ok
  · cases h
set_option maxRecDepth 100000 in
theorem parse_tri (s : List UInt8) (hs : s.length ≤ 65536) (hc : (Lib.split s [44]).length ≤ 65537) : TriG Tryd.prog GL 21 [.one (.str s)] [] (prsV (prsL s)) (hpN 0 (prsO (prsL s))) := by
  have hRs : ∀ l ∈ Lib.split s [44], l.length ≤ 65536 := fun l hl => Nat.le_trans (split_mem _ _ _ _ hl) hs
  refine tri_ofx (envLK_ok qt2_ok 29 []) Tryd.func21 rfl rfl (rs := [.tmp 2, .tmp 3]) rfl rfl (by simp [envLK]) rfl ?_
  simp only [envLK, con0, conS, strsOf_arr, rowS_arr, strsOf_cells, rowS_cells, toS, strL_st, strL_d, strL_enc, strL_up, hpN_nil, hpN_cons, qt2, tSplitC, rangeOfC, qSplitF, go_sem, reduceCtorEq, ↓reduceIte, Nat.reduceAdd, Nat.reduceMul, Nat.reduceSub, Nat.reduceEqDiff, Nat.reduceLT, Nat.reduceBEq, Nat.reduceBNe, Nat.reduceLeDiff, Int.reduceLE, Int.reduceLT, Int.reduceToNat, Int.reduceEq, Int.reduceAdd, UInt8.reduceToNat, UInt32.reduceToNat, UInt64.reduceToNat, UInt8.reduceOfNat, UInt32.reduceOfNat, UInt64.reduceOfNat, Fin.isValue, Int.reduceSub, Int.reduceMul, Int.reduceNeg, Int.reduceMod, Int.reduceDiv, Int.reduceTDiv, Int.reduceTMod, Int.reduceBEq, Int.reduceBNe, Nat.reduceDiv, Nat.reducePow]
  have hfe : prsL s = prsF (Lib.split s [44]) := rfl
  generalize hRe : Lib.split s [44] = R at hc hRs hfe ⊢
  refine ⟨by omega, loop_inv (envLK_ok qt2_ok 29 []) (prInv R) (prOk R) (fun x => R.length - x.i) ⟨0, []⟩ [(400, 30008)] ⟨Nat.zero_le _, rfl, by show (prsF R).map _ = _; cases prsF R <;> rfl⟩ ?_ ?_⟩
  · simp only [prInv, go_sem, reduceCtorEq, ↓reduceIte, Nat.reduceAdd, Nat.reduceMul, Nat.reduceSub, Nat.reduceEqDiff, Nat.reduceLT, Nat.reduceBEq, Nat.reduceBNe, Nat.reduceLeDiff, Int.reduceLE, Int.reduceLT, Int.reduceToNat, Int.reduceEq, Int.reduceAdd, UInt8.reduceToNat, UInt32.reduceToNat, UInt64.reduceToNat, UInt8.reduceOfNat, UInt32.reduceOfNat, UInt64.reduceOfNat, Fin.isValue, Int.reduceSub, Int.reduceMul, Int.reduceNeg, Int.reduceMod, Int.reduceDiv, Int.reduceTDiv, Int.reduceTMod, Int.reduceBEq, Int.reduceBNe, Nat.reduceDiv, Nat.reducePow]
  · intro x hx
    obtain ⟨i, acc⟩ := x
    have hi := hx.1
    have hal := hx.2.1
    simp only at hi hal
    have hw : IntKind.i64.wrap ((i : Int) + 1) = ((i + 1 : Nat) : Int) := by rw [IntKind.wrap_i64]; omega
    generalize hj : acc.length = j at hal
    rcases j with _ | j
    · obtain rfl := List.eq_nil_of_length_eq_zero hj
      simp only [envLK, con0, conS, strsOf_arr, rowS_arr, strsOf_cells, rowS_cells, toS, strL_st, strL_d, strL_enc, strL_up, hpN_nil, hpN_cons, qt2, tSplitC, rangeOfC, prInv, hw, hj, go_sem, reduceCtorEq, ↓reduceIte, Nat.reduceAdd, Nat.reduceMul, Nat.reduceSub, Nat.reduceEqDiff, Nat.reduceLT, Nat.reduceBEq, Nat.reduceBNe, Nat.reduceLeDiff, Int.reduceLE, Int.reduceLT, Int.reduceToNat, Int.reduceEq, Int.reduceAdd, UInt8.reduceToNat, UInt32.reduceToNat, UInt64.reduceToNat, UInt8.reduceOfNat, UInt32.reduceOfNat, UInt64.reduceOfNat, Fin.isValue, Int.reduceSub, Int.reduceMul, Int.reduceNeg, Int.reduceMod, Int.reduceDiv, Int.reduceTDiv, Int.reduceTMod, Int.reduceBEq, Int.reduceBNe, Nat.reduceDiv, Nat.reducePow]
      refine br (fun h => ?_) fun h => ?_
      · have hlt : i < R.length := by have := of_decide_eq_true h; omega
        have hlm : (R.getD i []).length ≤ 65536 := hRs _ (by rw [List.getD_eq_getElem?_getD, List.getElem?_eq_getElem hlt]; exact List.getElem_mem hlt)
        cases h1 : rgB (R.getD i []) with
        | false =>
          have hb := prOk_bad hx hlt h1
          have e1 : prsV (prsL s) = .tup [.one (.val (.slice none 0 0)), .one (.num 3)] := by rw [hfe, hb]; rfl
          have e2 : prsO (prsL s) = [] := by rw [hfe, hb]; rfl
          rw [e1, e2]
          simp only [envLK, con0, conS, strsOf_arr, rowS_arr, strsOf_cells, rowS_cells, toS, strL_st, strL_d, strL_enc, strL_up, hpN_nil, hpN_cons, qt2, tSplitC, rangeOfC, h, h1, hw, hj, strL_st, strL_d, strL_enc, go_sem, reduceCtorEq, ↓reduceIte, Nat.reduceAdd, Nat.reduceMul, Nat.reduceSub, Nat.reduceEqDiff, Nat.reduceLT, Nat.reduceBEq, Nat.reduceBNe, Nat.reduceLeDiff, Int.reduceLE, Int.reduceLT, Int.reduceToNat, Int.reduceEq, Int.reduceAdd, UInt8.reduceToNat, UInt32.reduceToNat, UInt64.reduceToNat, UInt8.reduceOfNat, UInt32.reduceOfNat, UInt64.reduceOfNat, Fin.isValue, Int.reduceSub, Int.reduceMul, Int.reduceNeg, Int.reduceMod, Int.reduceDiv, Int.reduceTDiv, Int.reduceTMod, Int.reduceBEq, Int.reduceBNe, Nat.reduceDiv, Nat.reducePow]
          repeat' apply And.intro
          rotate_right
          · refine endX [] ?_
            simp only [envLK, con0, conS, strsOf_arr, rowS_arr, strsOf_cells, rowS_cells, toS, strL_st, strL_d, strL_enc, strL_up, hpN_nil, hpN_cons, qt2, tSplitC, rangeOfC, go_sem, reduceCtorEq, ↓reduceIte, Nat.reduceAdd, Nat.reduceMul, Nat.reduceSub, Nat.reduceEqDiff, Nat.reduceLT, Nat.reduceBEq, Nat.reduceBNe, Nat.reduceLeDiff, Int.reduceLE, Int.reduceLT, Int.reduceToNat, Int.reduceEq, Int.reduceAdd, UInt8.reduceToNat, UInt32.reduceToNat, UInt64.reduceToNat, UInt8.reduceOfNat, UInt32.reduceOfNat, UInt64.reduceOfNat, Fin.isValue, Int.reduceSub, Int.reduceMul, Int.reduceNeg, Int.reduceMod, Int.reduceDiv, Int.reduceTDiv, Int.reduceTMod, Int.reduceBEq, Int.reduceBNe, Nat.reduceDiv, Nat.reducePow]
          all_goals first | omega | exact rfl | exact id
        | true =>
          have hnx := prOk_add hx hlt h1
          simp only at hnx
          simp only [envLK, con0, conS, strsOf_arr, rowS_arr, strsOf_cells, rowS_cells, toS, strL_st, strL_d, strL_enc, strL_up, hpN_nil, hpN_cons, qt2, tSplitC, rangeOfC, h, h1, hw, hj, strL_st, strL_d, strL_enc, rngL_st, rngL_d, rngL_enc, rngL_up, go_sem, reduceCtorEq, ↓reduceIte, Nat.reduceAdd, Nat.reduceMul, Nat.reduceSub, Nat.reduceEqDiff, Nat.reduceLT, Nat.reduceBEq, Nat.reduceBNe, Nat.reduceLeDiff, Int.reduceLE, Int.reduceLT, Int.reduceToNat, Int.reduceEq, Int.reduceAdd, UInt8.reduceToNat, UInt32.reduceToNat, UInt64.reduceToNat, UInt8.reduceOfNat, UInt32.reduceOfNat, UInt64.reduceOfNat, Fin.isValue, Int.reduceSub, Int.reduceMul, Int.reduceNeg, Int.reduceMod, Int.reduceDiv, Int.reduceTDiv, Int.reduceTMod, Int.reduceBEq, Int.reduceBNe, Nat.reduceDiv, Nat.reducePow]
          repeat' apply And.intro
          rotate_right
          · refine again ⟨i + 1, [] ++ [rgOf (R.getD i [])]⟩ [(500, 90024)] hnx (by simp only; omega) ?_
            simp only [prInv, rngL_st, rngL_d, rngL_enc, rngL_up, envLK, con0, conS, strsOf_arr, rowS_arr, strsOf_cells, rowS_cells, toS, strL_st, strL_d, strL_enc, strL_up, hpN_nil, hpN_cons, qt2, tSplitC, rangeOfC, go_sem, reduceCtorEq, ↓reduceIte, Nat.reduceAdd, Nat.reduceMul, Nat.reduceSub, Nat.reduceEqDiff, Nat.reduceLT, Nat.reduceBEq, Nat.reduceBNe, Nat.reduceLeDiff, Int.reduceLE, Int.reduceLT, Int.reduceToNat, Int.reduceEq, Int.reduceAdd, UInt8.reduceToNat, UInt32.reduceToNat, UInt64.reduceToNat, UInt8.reduceOfNat, UInt32.reduceOfNat, UInt64.reduceOfNat, Fin.isValue, Int.reduceSub, Int.reduceMul, Int.reduceNeg, Int.reduceMod, Int.reduceDiv, Int.reduceTDiv, Int.reduceTMod, Int.reduceBEq, Int.reduceBNe, Nat.reduceDiv, Nat.reducePow]
          all_goals first | omega | exact rfl | exact id
      · have hge : R.length ≤ i := by have := of_decide_eq_false h; omega
        have he := prOk_end hx hge
        simp only at he
        have e1 : prsV (prsL s) = .tup [.one (.val (.slice none 0 0)), .one (.num 0)] := by rw [hfe, he]; rfl
        have e2 : prsO (prsL s) = [] := by rw [hfe, he]; rfl
        rw [e1, e2]
        simp only [envLK, con0, conS, strsOf_arr, rowS_arr, strsOf_cells, rowS_cells, toS, strL_st, strL_d, strL_enc, strL_up, hpN_nil, hpN_cons, qt2, tSplitC, rangeOfC, h, hj, go_sem, reduceCtorEq, ↓reduceIte, Nat.reduceAdd, Nat.reduceMul, Nat.reduceSub, Nat.reduceEqDiff, Nat.reduceLT, Nat.reduceBEq, Nat.reduceBNe, Nat.reduceLeDiff, Int.reduceLE, Int.reduceLT, Int.reduceToNat, Int.reduceEq, Int.reduceAdd, UInt8.reduceToNat, UInt32.reduceToNat, UInt64.reduceToNat, UInt8.reduceOfNat, UInt32.reduceOfNat, UInt64.reduceOfNat, Fin.isValue, Int.reduceSub, Int.reduceMul, Int.reduceNeg, Int.reduceMod, Int.reduceDiv, Int.reduceTDiv, Int.reduceTMod, Int.reduceBEq, Int.reduceBNe, Nat.reduceDiv, Nat.reducePow]
        refine endX [] ?_
        simp only [envLK, con0, conS, strsOf_arr, rowS_arr, strsOf_cells, rowS_cells, toS, strL_st, strL_d, strL_enc, strL_up, hpN_nil, hpN_cons, qt2, tSplitC, rangeOfC, go_sem, reduceCtorEq, ↓reduceIte, Nat.reduceAdd, Nat.reduceMul, Nat.reduceSub, Nat.reduceEqDiff, Nat.reduceLT, Nat.reduceBEq, Nat.reduceBNe, Nat.reduceLeDiff, Int.reduceLE, Int.reduceLT, Int.reduceToNat, Int.reduceEq, Int.reduceAdd, UInt8.reduceToNat, UInt32.reduceToNat, UInt64.reduceToNat, UInt8.reduceOfNat, UInt32.reduceOfNat, UInt64.reduceOfNat, Fin.isValue, Int.reduceSub, Int.reduceMul, Int.reduceNeg, Int.reduceMod, Int.reduceDiv, Int.reduceTDiv, Int.reduceTMod, Int.reduceBEq, Int.reduceBNe, Nat.reduceDiv, Nat.reducePow]
    · simp only [envLK, con0, conS, strsOf_arr, rowS_arr, strsOf_cells, rowS_cells, toS, strL_st, strL_d, strL_enc, strL_up, hpN_nil, hpN_cons, qt2, tSplitC, rangeOfC, prInv, hw, hj, go_sem, reduceCtorEq, ↓reduceIte, Nat.reduceAdd, Nat.reduceMul, Nat.reduceSub, Nat.reduceEqDiff, Nat.reduceLT, Nat.reduceBEq, Nat.reduceBNe, Nat.reduceLeDiff, Int.reduceLE, Int.reduceLT, Int.reduceToNat, Int.reduceEq, Int.reduceAdd, UInt8.reduceToNat, UInt32.reduceToNat, UInt64.reduceToNat, UInt8.reduceOfNat, UInt32.reduceOfNat, UInt64.reduceOfNat, Fin.isValue, Int.reduceSub, Int.reduceMul, Int.reduceNeg, Int.reduceMod, Int.reduceDiv, Int.reduceTDiv, Int.reduceTMod, Int.reduceBEq, Int.reduceBNe, Nat.reduceDiv, Nat.reducePow]
      refine br (fun h => ?_) fun h => ?_
      · have hlt : i < R.length := by have := of_decide_eq_true h; omega
        have hlm : (R.getD i []).length ≤ 65536 := hRs _ (by rw [List.getD_eq_getElem?_getD, List.getElem?_eq_getElem hlt]; exact List.getElem_mem hlt)
        cases h1 : rgB (R.getD i []) with
        | false =>
          have hb := prOk_bad hx hlt h1
          have e1 : prsV (prsL s) = .tup [.one (.val (.slice none 0 0)), .one (.num 3)] := by rw [hfe, hb]; rfl
          have e2 : prsO (prsL s) = [] := by rw [hfe, hb]; rfl
          rw [e1, e2]
          simp only [envLK, con0, conS, strsOf_arr, rowS_arr, strsOf_cells, rowS_cells, toS, strL_st, strL_d, strL_enc, strL_up, hpN_nil, hpN_cons, qt2, tSplitC, rangeOfC, h, h1, hw, hj, strL_st, strL_d, strL_enc, go_sem, reduceCtorEq, ↓reduceIte, Nat.reduceAdd, Nat.reduceMul, Nat.reduceSub, Nat.reduceEqDiff, Nat.reduceLT, Nat.reduceBEq, Nat.reduceBNe, Nat.reduceLeDiff, Int.reduceLE, Int.reduceLT, Int.reduceToNat, Int.reduceEq, Int.reduceAdd, UInt8.reduceToNat, UInt32.reduceToNat, UInt64.reduceToNat, UInt8.reduceOfNat, UInt32.reduceOfNat, UInt64.reduceOfNat, Fin.isValue, Int.reduceSub, Int.reduceMul, Int.reduceNeg, Int.reduceMod, Int.reduceDiv, Int.reduceTDiv, Int.reduceTMod, Int.reduceBEq, Int.reduceBNe, Nat.reduceDiv, Nat.reducePow]
          repeat' apply And.intro
          rotate_right
          · refine endX [] ?_
            simp only [envLK, con0, conS, strsOf_arr, rowS_arr, strsOf_cells, rowS_cells, toS, strL_st, strL_d, strL_enc, strL_up, hpN_nil, hpN_cons, qt2, tSplitC, rangeOfC, go_sem, reduceCtorEq, ↓reduceIte, Nat.reduceAdd, Nat.reduceMul, Nat.reduceSub, Nat.reduceEqDiff, Nat.reduceLT, Nat.reduceBEq, Nat.reduceBNe, Nat.reduceLeDiff, Int.reduceLE, Int.reduceLT, Int.reduceToNat, Int.reduceEq, Int.reduceAdd, UInt8.reduceToNat, UInt32.reduceToNat, UInt64.reduceToNat, UInt8.reduceOfNat, UInt32.reduceOfNat, UInt64.reduceOfNat, Fin.isValue, Int.reduceSub, Int.reduceMul, Int.reduceNeg, Int.reduceMod, Int.reduceDiv, Int.reduceTDiv, Int.reduceTMod, Int.reduceBEq, Int.reduceBNe, Nat.reduceDiv, Nat.reducePow]
          all_goals first | omega | exact rfl | exact id
        | true =>
          have hnx := prOk_add hx hlt h1
          simp only at hnx
          simp only [envLK, con0, conS, strsOf_arr, rowS_arr, strsOf_cells, rowS_cells, toS, strL_st, strL_d, strL_enc, strL_up, hpN_nil, hpN_cons, qt2, tSplitC, rangeOfC, h, h1, hw, hj, strL_st, strL_d, strL_enc, rngL_st, rngL_d, rngL_enc, rngL_up, go_sem, reduceCtorEq, ↓reduceIte, Nat.reduceAdd, Nat.reduceMul, Nat.reduceSub, Nat.reduceEqDiff, Nat.reduceLT, Nat.reduceBEq, Nat.reduceBNe, Nat.reduceLeDiff, Int.reduceLE, Int.reduceLT, Int.reduceToNat, Int.reduceEq, Int.reduceAdd, UInt8.reduceToNat, UInt32.reduceToNat, UInt64.reduceToNat, UInt8.reduceOfNat, UInt32.reduceOfNat, UInt64.reduceOfNat, Fin.isValue, Int.reduceSub, Int.reduceMul, Int.reduceNeg, Int.reduceMod, Int.reduceDiv, Int.reduceTDiv, Int.reduceTMod, Int.reduceBEq, Int.reduceBNe, Nat.reduceDiv, Nat.reducePow]
          repeat' apply And.intro
          rotate_right
          · refine again ⟨i + 1, acc ++ [rgOf (R.getD i [])]⟩ [(500, 90024)] hnx (by simp only; omega) ?_
            simp only [prInv, List.length_append, hj, rngL_st, rngL_d, rngL_enc, rngL_up, envLK, con0, conS, strsOf_arr, rowS_arr, strsOf_cells, rowS_cells, toS, strL_st, strL_d, strL_enc, strL_up, hpN_nil, hpN_cons, qt2, tSplitC, rangeOfC, go_sem, reduceCtorEq, ↓reduceIte, Nat.reduceAdd, Nat.reduceMul, Nat.reduceSub, Nat.reduceEqDiff, Nat.reduceLT, Nat.reduceBEq, Nat.reduceBNe, Nat.reduceLeDiff, Int.reduceLE, Int.reduceLT, Int.reduceToNat, Int.reduceEq, Int.reduceAdd, UInt8.reduceToNat, UInt32.reduceToNat, UInt64.reduceToNat, UInt8.reduceOfNat, UInt32.reduceOfNat, UInt64.reduceOfNat, Fin.isValue, Int.reduceSub, Int.reduceMul, Int.reduceNeg, Int.reduceMod, Int.reduceDiv, Int.reduceTDiv, Int.reduceTMod, Int.reduceBEq, Int.reduceBNe, Nat.reduceDiv, Nat.reducePow]
          all_goals first | omega | exact rfl | exact id
      · have hge : R.length ≤ i := by have := of_decide_eq_false h; omega
        have he := prOk_end hx hge
        simp only at he
        have hne : acc.isEmpty = false := by cases acc with | nil => simp at hj | cons _ _ => rfl
        have e1 : prsV (prsL s) = .tup [.one (.sl 0 0 2 (j + 1)), .one (.num 0)] := by rw [hfe, he]; unfold prsV; simp only; rw [hne, hj]; rfl
        have e2 : prsO (prsL s) = [.arr _ rngL acc] := by rw [hfe, he]; unfold prsO; simp only; rw [hne]; rfl
        rw [e1, e2]
        simp only [envLK, con0, conS, strsOf_arr, rowS_arr, strsOf_cells, rowS_cells, toS, strL_st, strL_d, strL_enc, strL_up, hpN_nil, hpN_cons, qt2, tSplitC, rangeOfC, h, hj, go_sem, reduceCtorEq, ↓reduceIte, Nat.reduceAdd, Nat.reduceMul, Nat.reduceSub, Nat.reduceEqDiff, Nat.reduceLT, Nat.reduceBEq, Nat.reduceBNe, Nat.reduceLeDiff, Int.reduceLE, Int.reduceLT, Int.reduceToNat, Int.reduceEq, Int.reduceAdd, UInt8.reduceToNat, UInt32.reduceToNat, UInt64.reduceToNat, UInt8.reduceOfNat, UInt32.reduceOfNat, UInt64.reduceOfNat, Fin.isValue, Int.reduceSub, Int.reduceMul, Int.reduceNeg, Int.reduceMod, Int.reduceDiv, Int.reduceTDiv, Int.reduceTMod, Int.reduceBEq, Int.reduceBNe, Nat.reduceDiv, Nat.reducePow]
        refine endX [(0, 500)] ?_
        simp only [envLK, con0, conS, strsOf_arr, rowS_arr, strsOf_cells, rowS_cells, toS, strL_st, strL_d, strL_enc, strL_up, hpN_nil, hpN_cons, qt2, tSplitC, rangeOfC, hj, go_sem, reduceCtorEq, ↓reduceIte, Nat.reduceAdd, Nat.reduceMul, Nat.reduceSub, Nat.reduceEqDiff, Nat.reduceLT, Nat.reduceBEq, Nat.reduceBNe, Nat.reduceLeDiff, Int.reduceLE, Int.reduceLT, Int.reduceToNat, Int.reduceEq, Int.reduceAdd, UInt8.reduceToNat, UInt32.reduceToNat, UInt64.reduceToNat, UInt8.reduceOfNat, UInt32.reduceOfNat, UInt64.reduceOfNat, Fin.isValue, Int.reduceSub, Int.reduceMul, Int.reduceNeg, Int.reduceMod, Int.reduceDiv, Int.reduceTDiv, Int.reduceTMod, Int.reduceBEq, Int.reduceBNe, Nat.reduceDiv, Nat.reducePow]
def parseF : List CV → List (List (List UInt8)) → Option (SV × List SObj × List Prop)
  | [.one (.str s)], [] => some (prsV (prsL s), prsO (prsL s), [s.length ≤ 65536, (Lib.split s [44]).length ≤ 65537])
  | _, _ => none
def parseC : Con := conS parseF
theorem parseC_ok : ConOkG Tryd.prog GL 21 parseC := conS_ok Tryd.func21 rfl rfl
  (fun args v news ob h hob => by
    unfold parseF at h
    split at h
    · simp only [Option.some.injEq, Prod.mk.injEq] at h
      obtain ⟨rfl, rfl, rfl⟩ := h
      exact parse_tri _ hob.1 hob.2.1
    · cases h)
  (fun args a v news ob h hob => by simp [parseF] at h) (fun args a b v news ob h hob => by simp [parseF] at h) (fun args a b c l => by simp [parseF])
end Go.Proofs.YtgfcdkbbkgamnaaDoor
