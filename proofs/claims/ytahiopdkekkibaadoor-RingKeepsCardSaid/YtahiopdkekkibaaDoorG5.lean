/-
  Put together: Mb, Mc, Zd, Ze, Zf.
-/
import Derived.Test.YtahiopdkekkibaaDoorSz
import Derived.Test.YtahiopdkekkibaaDoorG3
import Derived.Test.YtahiopdkekkibaaDoorG4
import Derived.Test.YtahiopdkekkibaaDoorG1
import Derived.WideKeyPair
import Derived.ChangeShapes
import Derived.Test.YtahiopdkekkibaaDoorRows
import Derived.Lib.LaidTab
import Derived.MakeChecks
import Derived.Stop.LaidErr
import Derived.Laws.Externs
/-
  Layer 13: accounts written and taken.
-/
namespace Go.Proofs.YtahiopdkekkibaaDoor.FR
open Go Go.RowKit
set_option maxHeartbeats 4000000
set_option linter.unusedSimpArgs false
set_option linter.unusedVariables false
def gm3 : Nat → Option Con := fun f => match f with
  | _ => none
theorem gm3_ok : GaOkG Tryd.prog GN gm3 := fun f con h => by
  unfold gm3 at h
  split at h
  · cases h
def putA (a : Acc) : List UInt8 := by8 a.u.length :: (a.u ++ (a.s ++ (by8 a.r :: by8 a.e :: (a.p ++ (a.n ++ (a.w ++ a.o))))))
structure SmallA (a : Acc) : Prop where
  u : a.u.length ≤ 1000
  s : a.s.length ≤ 1000
  p : a.p.length ≤ 1000
  n : a.n.length ≤ 1000
  w : a.w.length ≤ 1000
  o : a.o.length ≤ 1000
def putV (a : Acc) : SV := if rightB a then .tup [.one (.str (putA a)), .one (.num 0)] else .tup [.one (.str []), .one (.num 1)]
def gm4 : Nat → Option Con := fun f => match f with
  | 32 => some rightC
  | _ => none
theorem gm4_ok : GaOkG Tryd.prog GN gm4 := fun f con h => by
  unfold gm4 at h
  split at h
  · injection h with h; subst h; exact rightC_ok
  · cases h
set_option maxRecDepth 100000 in
theorem put_tri (a : Acc) (h : SmallA a) : TriG Tryd.prog GN 27 [.agg a.cs] [] (putV a) [] := by
  refine tri_ofx (envNK_ok gm4_ok 44 []) Tryd.func27 rfl rfl (rs := [.tmp 2, .tmp 3]) rfl rfl (by simp [envNK]) rfl ?_
  obtain ⟨u, s, r, e, p, n, w, o⟩ := a
  obtain ⟨hu, hs, hp, hn, hw, ho⟩ := h
  simp only at hu hs hp hn hw ho
  cases hr : rightB ⟨u, s, r, e, p, n, w, o⟩ with
  | false =>
    have hv : putV ⟨u, s, r, e, p, n, w, o⟩ = .tup [.one (.str []), .one (.num 1)] := by unfold putV; rw [hr]; rfl
    simp only [envNK, con0, conS, strsOf_arr, rowS_arr, strsOf_cells, rowS_cells, toS, strL_st, strL_d, strL_enc, strL_up, hpN_nil, hpN_cons, gm4, rightC, Acc.cs, hr, hv, go_sem, reduceCtorEq, ↓reduceIte, Nat.reduceAdd, Nat.reduceMul, Nat.reduceSub, Nat.reduceEqDiff, Nat.reduceLT, Nat.reduceBEq, Nat.reduceBNe, Nat.reduceLeDiff, Int.reduceLE, Int.reduceLT, Int.reduceToNat, Int.reduceEq, Int.reduceAdd, UInt8.reduceToNat, UInt32.reduceToNat, UInt64.reduceToNat, UInt8.reduceOfNat, UInt32.reduceOfNat, UInt64.reduceOfNat, Fin.isValue, Int.reduceSub, Int.reduceMul, Int.reduceNeg, Int.reduceMod, Int.reduceDiv, Int.reduceTDiv, Int.reduceTMod, Int.reduceBEq, Int.reduceBNe, Nat.reduceDiv, Nat.reducePow]
    repeat' apply And.intro
    rotate_right
    · refine endX [] ?_
      simp only [envNK, con0, conS, strsOf_arr, rowS_arr, strsOf_cells, rowS_cells, toS, strL_st, strL_d, strL_enc, strL_up, hpN_nil, hpN_cons, gm4, rightC, go_sem, reduceCtorEq, ↓reduceIte, Nat.reduceAdd, Nat.reduceMul, Nat.reduceSub, Nat.reduceEqDiff, Nat.reduceLT, Nat.reduceBEq, Nat.reduceBNe, Nat.reduceLeDiff, Int.reduceLE, Int.reduceLT, Int.reduceToNat, Int.reduceEq, Int.reduceAdd, UInt8.reduceToNat, UInt32.reduceToNat, UInt64.reduceToNat, UInt8.reduceOfNat, UInt32.reduceOfNat, UInt64.reduceOfNat, Fin.isValue, Int.reduceSub, Int.reduceMul, Int.reduceNeg, Int.reduceMod, Int.reduceDiv, Int.reduceTDiv, Int.reduceTMod, Int.reduceBEq, Int.reduceBNe, Nat.reduceDiv, Nat.reducePow]
    all_goals first | omega | exact rfl | exact id
  | true =>
    have hv : putV ⟨u, s, r, e, p, n, w, o⟩ = .tup [.one (.str (putA ⟨u, s, r, e, p, n, w, o⟩)), .one (.num 0)] := by unfold putV; rw [hr]; rfl
    simp only [envNK, con0, conS, strsOf_arr, rowS_arr, strsOf_cells, rowS_cells, toS, strL_st, strL_d, strL_enc, strL_up, hpN_nil, hpN_cons, gm4, rightC, Acc.cs, hr, hv, go_sem, reduceCtorEq, ↓reduceIte, Nat.reduceAdd, Nat.reduceMul, Nat.reduceSub, Nat.reduceEqDiff, Nat.reduceLT, Nat.reduceBEq, Nat.reduceBNe, Nat.reduceLeDiff, Int.reduceLE, Int.reduceLT, Int.reduceToNat, Int.reduceEq, Int.reduceAdd, UInt8.reduceToNat, UInt32.reduceToNat, UInt64.reduceToNat, UInt8.reduceOfNat, UInt32.reduceOfNat, UInt64.reduceOfNat, Fin.isValue, Int.reduceSub, Int.reduceMul, Int.reduceNeg, Int.reduceMod, Int.reduceDiv, Int.reduceTDiv, Int.reduceTMod, Int.reduceBEq, Int.reduceBNe, Nat.reduceDiv, Nat.reducePow]
    (repeat' apply And.intro)
    rotate_right
    · refine endX [] ?_
      simp only [envNK, con0, conS, strsOf_arr, rowS_arr, strsOf_cells, rowS_cells, toS, strL_st, strL_d, strL_enc, strL_up, hpN_nil, hpN_cons, gm4, rightC, putA, List.append_assoc, List.cons_append, List.nil_append, go_sem, reduceCtorEq, ↓reduceIte, Nat.reduceAdd, Nat.reduceMul, Nat.reduceSub, Nat.reduceEqDiff, Nat.reduceLT, Nat.reduceBEq, Nat.reduceBNe, Nat.reduceLeDiff, Int.reduceLE, Int.reduceLT, Int.reduceToNat, Int.reduceEq, Int.reduceAdd, UInt8.reduceToNat, UInt32.reduceToNat, UInt64.reduceToNat, UInt8.reduceOfNat, UInt32.reduceOfNat, UInt64.reduceOfNat, Fin.isValue, Int.reduceSub, Int.reduceMul, Int.reduceNeg, Int.reduceMod, Int.reduceDiv, Int.reduceTDiv, Int.reduceTMod, Int.reduceBEq, Int.reduceBNe, Nat.reduceDiv, Nat.reducePow]
      try ((repeat' apply And.intro) <;> first | omega | exact rfl | exact id)
    all_goals first | (simp only [List.length_append, List.length_cons, List.length_nil]; omega) | omega | exact rfl | exact id
def putC : Con := con0 fun args => match args with
  | [.agg [.str u, .str s, .num r, .num e, .str p, .str n, .str w, .str o]] => some (putV ⟨u, s, r, e, p, n, w, o⟩, [SmallA ⟨u, s, r, e, p, n, w, o⟩])
  | _ => none
theorem putC_ok : ConOkG Tryd.prog GN 27 putC := con0_okG Tryd.func27 rfl rfl fun args res ob h hob => by
  split at h
  · injection h with h; injection h with h1 h2; subst h1; subst h2; exact put_tri ⟨_, _, _, _, _, _, _, _⟩ hob.1
  · cases h
theorem finish_tri (a : Acc) : TriG Tryd.prog GN 19 [.agg a.cs] [] (.c (.agg (Acc.cs {a with o := []}))) [] := by
  refine tri_ofx (envNK_ok gm3_ok 5 []) Tryd.func19 rfl rfl (rs := [.cell 2 37]) rfl rfl (by simp [envNK]) rfl ?_
  obtain ⟨u, s, r, e, p, n, w, o⟩ := a
  simp only [envNK, con0, conS, strsOf_arr, rowS_arr, strsOf_cells, rowS_cells, toS, strL_st, strL_d, strL_enc, strL_up, hpN_nil, hpN_cons, gm3, Acc.cs, go_sem, reduceCtorEq, ↓reduceIte, Nat.reduceAdd, Nat.reduceMul, Nat.reduceSub, Nat.reduceEqDiff, Nat.reduceLT, Nat.reduceBEq, Nat.reduceBNe, Nat.reduceLeDiff, Int.reduceLE, Int.reduceLT, Int.reduceToNat, Int.reduceEq, Int.reduceAdd, UInt8.reduceToNat, UInt32.reduceToNat, UInt64.reduceToNat, UInt8.reduceOfNat, UInt32.reduceOfNat, UInt64.reduceOfNat, Fin.isValue, Int.reduceSub, Int.reduceMul, Int.reduceNeg, Int.reduceMod, Int.reduceDiv, Int.reduceTDiv, Int.reduceTMod, Int.reduceBEq, Int.reduceBNe, Nat.reduceDiv, Nat.reducePow]
  repeat' apply And.intro
  rotate_right
  · refine endX [] ?_
    simp only [envNK, con0, conS, strsOf_arr, rowS_arr, strsOf_cells, rowS_cells, toS, strL_st, strL_d, strL_enc, strL_up, hpN_nil, hpN_cons, gm3, go_sem, reduceCtorEq, ↓reduceIte, Nat.reduceAdd, Nat.reduceMul, Nat.reduceSub, Nat.reduceEqDiff, Nat.reduceLT, Nat.reduceBEq, Nat.reduceBNe, Nat.reduceLeDiff, Int.reduceLE, Int.reduceLT, Int.reduceToNat, Int.reduceEq, Int.reduceAdd, UInt8.reduceToNat, UInt32.reduceToNat, UInt64.reduceToNat, UInt8.reduceOfNat, UInt32.reduceOfNat, UInt64.reduceOfNat, Fin.isValue, Int.reduceSub, Int.reduceMul, Int.reduceNeg, Int.reduceMod, Int.reduceDiv, Int.reduceTDiv, Int.reduceTMod, Int.reduceBEq, Int.reduceBNe, Nat.reduceDiv, Nat.reducePow]
    all_goals ((repeat' apply And.intro) <;> first | omega | exact rfl | exact id)
  all_goals first | omega | exact rfl | exact id
def finishC : Con := con0 fun args => match args with
  | [.agg [.str u, .str s, .num r, .num e, .str p, .str n, .str w, .str o]] => some (.c (.agg [.str u, .str s, .num r, .num e, .str p, .str n, .str w, .str []]), [])
  | _ => none
theorem finishC_ok : ConOkG Tryd.prog GN 19 finishC := con0_okG Tryd.func19 rfl rfl fun args res ob h hob => by
  split at h
  · injection h with h; injection h with h1 h2; subst h1; subst h2; exact finish_tri ⟨_, _, _, _, _, _, _, _⟩
  · cases h
theorem cut13_tri (s : List UInt8) (n : Int) (hn : 0 ≤ n) (hs : s.length ≤ 9223372036854775807) : TriG Tryd.prog GN 51 [.one (.str s), .one (.num n)] [] (.tup [.one (.str (s.take n.toNat)), .one (.str (s.drop n.toNat))]) [] := by
  refine tri_ofx (envNK_ok gm3_ok 16 []) Tryd.func51 rfl rfl (rs := [.tmp 4, .tmp 5]) rfl rfl (by simp [envNK]) rfl ?_
  obtain ⟨k, hk⟩ : ∃ k : Nat, min n (s.length : Int) = (k : Int) := ⟨(min n (s.length : Int)).toNat, by omega⟩
  have e1 : s.take n.toNat = s.take k := by
    rcases Int.le_total n s.length with h | h
    · rw [Int.min_eq_left h] at hk; rw [hk]; rfl
    · rw [Int.min_eq_right h] at hk
      rw [List.take_of_length_le (by omega), List.take_of_length_le (by omega)]
  have e2 : s.drop n.toNat = s.drop k := by
    rcases Int.le_total n s.length with h | h
    · rw [Int.min_eq_left h] at hk; rw [hk]; rfl
    · rw [Int.min_eq_right h] at hk
      rw [List.drop_eq_nil_of_le (by omega), List.drop_eq_nil_of_le (by omega)]
  simp only [envNK, con0, conS, strsOf_arr, rowS_arr, strsOf_cells, rowS_cells, toS, strL_st, strL_d, strL_enc, strL_up, hpN_nil, hpN_cons, gm3, e1, e2, hk, Int.toNat_natCast, go_sem, reduceCtorEq, ↓reduceIte, Nat.reduceAdd, Nat.reduceMul, Nat.reduceSub, Nat.reduceEqDiff, Nat.reduceLT, Nat.reduceBEq, Nat.reduceBNe, Nat.reduceLeDiff, Int.reduceLE, Int.reduceLT, Int.reduceToNat, Int.reduceEq, Int.reduceAdd, UInt8.reduceToNat, UInt32.reduceToNat, UInt64.reduceToNat, UInt8.reduceOfNat, UInt32.reduceOfNat, UInt64.reduceOfNat, Fin.isValue, Int.reduceSub, Int.reduceMul, Int.reduceNeg, Int.reduceMod, Int.reduceDiv, Int.reduceTDiv, Int.reduceTMod, Int.reduceBEq, Int.reduceBNe, Nat.reduceDiv, Nat.reducePow]
  repeat' apply And.intro
  rotate_right
  · refine endX [] ?_
    simp only [envNK, con0, conS, strsOf_arr, rowS_arr, strsOf_cells, rowS_cells, toS, strL_st, strL_d, strL_enc, strL_up, hpN_nil, hpN_cons, gm3, go_sem, reduceCtorEq, ↓reduceIte, Nat.reduceAdd, Nat.reduceMul, Nat.reduceSub, Nat.reduceEqDiff, Nat.reduceLT, Nat.reduceBEq, Nat.reduceBNe, Nat.reduceLeDiff, Int.reduceLE, Int.reduceLT, Int.reduceToNat, Int.reduceEq, Int.reduceAdd, UInt8.reduceToNat, UInt32.reduceToNat, UInt64.reduceToNat, UInt8.reduceOfNat, UInt32.reduceOfNat, UInt64.reduceOfNat, Fin.isValue, Int.reduceSub, Int.reduceMul, Int.reduceNeg, Int.reduceMod, Int.reduceDiv, Int.reduceTDiv, Int.reduceTMod, Int.reduceBEq, Int.reduceBNe, Nat.reduceDiv, Nat.reducePow]
    all_goals ((repeat' apply And.intro) <;> first | omega | exact rfl | exact id)
  all_goals first | omega | exact rfl | exact id
def cut13C : Con := con0 fun args => match args with
  | [.one (.str s), .one (.num n)] => some (.tup [.one (.str (s.take n.toNat)), .one (.str (s.drop n.toNat))], [0 ≤ n, s.length ≤ 9223372036854775807])
  | _ => none
theorem cut13C_ok : ConOkG Tryd.prog GN 51 cut13C := con0_okG Tryd.func51 rfl rfl fun args res ob h hob => by
  split at h
  · injection h with h; injection h with h1 h2; subst h1; subst h2; exact cut13_tri _ _ hob.1 hob.2.1
  · cases h
/-- What is taken. -/
def tK (s : List UInt8) : Nat := (s.getD 0 0).toNat
def t1 (s : List UInt8) : List UInt8 := (s.drop 1).drop (tK s)
def t2 (s : List UInt8) : List UInt8 := (t1 s).drop 16
def tN (s : List UInt8) : List UInt8 := (t2 s).take 2
def t3 (s : List UInt8) : List UInt8 := (t2 s).drop 2
def t4 (s : List UInt8) : List UInt8 := (t3 s).drop 32
def t5 (s : List UInt8) : List UInt8 := (t4 s).drop 12
def tkA (s : List UInt8) : Acc := ⟨(s.drop 1).take (tK s), (t1 s).take 16, (((tN s).getD 0 0).toNat : Int), (((tN s).getD 1 0).toNat : Int), (t3 s).take 32, (t4 s).take 12, (t5 s).take 48, (t5 s).drop 48⟩
def zeroA : Acc := ⟨[], [], 0, 0, [], [], [], []⟩
def tkOk (s : List UInt8) : Bool := decide (0 < s.length) && ((tN s).length == 2) && (((s.drop 1).take (tK s)).length == tK s) && rightB (tkA s)
def takeV (s : List UInt8) : SV := if tkOk s then .tup [.agg (tkA s).cs, .one (.num 0)] else .tup [.agg zeroA.cs, .one (.num 3)]
def gm6 : Nat → Option Con := fun f => match f with
  | 51 => some cut13C
  | 32 => some rightC
  | _ => none
theorem gm6_ok : GaOkG Tryd.prog GN gm6 := fun f con h => by
  unfold gm6 at h
  split at h
  · injection h with h; subst h; exact cut13C_ok
  · injection h with h; subst h; exact rightC_ok
  · cases h
set_option maxRecDepth 100000 in
theorem take_tri (s : List UInt8) (hs : s.length ≤ 100000) : TriG Tryd.prog GN 28 [.one (.str s)] [] (takeV s) [] := by
  refine tri_ofx (envNK_ok gm6_ok 77 []) Tryd.func28 rfl rfl (rs := [.cell 2 37, .tmp 3]) rfl rfl (by simp [envNK]) rfl ?_
  cases h0 : ((s.length : Int) == 0) with
  | true =>
    have hv : takeV s = .tup [.agg zeroA.cs, .one (.num 3)] := by
      unfold takeV tkOk
      rw [decide_eq_false (show ¬ 0 < s.length by have := eq_of_beq h0; omega)]; rfl
    simp only [envNK, con0, conS, strsOf_arr, rowS_arr, strsOf_cells, rowS_cells, toS, strL_st, strL_d, strL_enc, strL_up, hpN_nil, hpN_cons, gm6, cut13C, rightC, zeroA, Acc.cs, h0, hv, go_sem, reduceCtorEq, ↓reduceIte, Nat.reduceAdd, Nat.reduceMul, Nat.reduceSub, Nat.reduceEqDiff, Nat.reduceLT, Nat.reduceBEq, Nat.reduceBNe, Nat.reduceLeDiff, Int.reduceLE, Int.reduceLT, Int.reduceToNat, Int.reduceEq, Int.reduceAdd, UInt8.reduceToNat, UInt32.reduceToNat, UInt64.reduceToNat, UInt8.reduceOfNat, UInt32.reduceOfNat, UInt64.reduceOfNat, Fin.isValue, Int.reduceSub, Int.reduceMul, Int.reduceNeg, Int.reduceMod, Int.reduceDiv, Int.reduceTDiv, Int.reduceTMod, Int.reduceBEq, Int.reduceBNe, Nat.reduceDiv, Nat.reducePow]
    repeat' apply And.intro
    rotate_right
    · refine endX [] ?_
      simp only [envNK, con0, conS, strsOf_arr, rowS_arr, strsOf_cells, rowS_cells, toS, strL_st, strL_d, strL_enc, strL_up, hpN_nil, hpN_cons, gm6, cut13C, rightC, go_sem, reduceCtorEq, ↓reduceIte, Nat.reduceAdd, Nat.reduceMul, Nat.reduceSub, Nat.reduceEqDiff, Nat.reduceLT, Nat.reduceBEq, Nat.reduceBNe, Nat.reduceLeDiff, Int.reduceLE, Int.reduceLT, Int.reduceToNat, Int.reduceEq, Int.reduceAdd, UInt8.reduceToNat, UInt32.reduceToNat, UInt64.reduceToNat, UInt8.reduceOfNat, UInt32.reduceOfNat, UInt64.reduceOfNat, Fin.isValue, Int.reduceSub, Int.reduceMul, Int.reduceNeg, Int.reduceMod, Int.reduceDiv, Int.reduceTDiv, Int.reduceTMod, Int.reduceBEq, Int.reduceBNe, Nat.reduceDiv, Nat.reducePow]
      all_goals ((repeat' apply And.intro) <;> first | omega | exact rfl | exact id)
    all_goals first | omega | exact rfl | exact id
  | false =>
    have hpos : 0 < s.length := by
      rcases Nat.eq_zero_or_pos s.length with h | h
      · rw [h] at h0; cases h0
      · exact h
    have eK : (s.getD 0 0).toNat = tK s := rfl
    have e1 : (s.drop 1).drop (tK s) = t1 s := rfl
    have e2 : (t1 s).drop 16 = t2 s := rfl
    have e3 : (t2 s).take 2 = tN s := rfl
    have e4 : (t2 s).drop 2 = t3 s := rfl
    have e5 : (t3 s).drop 32 = t4 s := rfl
    have e6 : (t4 s).drop 12 = t5 s := rfl
    have hkl : tK s < 256 := (s.getD 0 0).toNat_lt
    have l1 : (t1 s).length ≤ 100000 := by unfold t1; simp only [List.length_drop]; omega
    have l2 : (t2 s).length ≤ 100000 := by unfold t2; simp only [List.length_drop]; omega
    have l3 : (t3 s).length ≤ 100000 := by unfold t3; simp only [List.length_drop]; omega
    have l4 : (t4 s).length ≤ 100000 := by unfold t4; simp only [List.length_drop]; omega
    have l5 : (t5 s).length ≤ 100000 := by unfold t5; simp only [List.length_drop]; omega
    have l0 : (s.drop 1).length ≤ 100000 := by simp only [List.length_drop]; omega
    have ltu : ((s.drop 1).take (tK s)).length ≤ 9223372036854775807 := by simp only [List.length_take]; omega
    generalize hU : (s.drop 1).take (tK s) = U at ltu
    cases hn : (((tN s).length : Int) == 2) with
    | false =>
      have hv : takeV s = .tup [.agg zeroA.cs, .one (.num 3)] := by
        unfold takeV tkOk
        rw [beq_eq_false_iff_ne.2 (show (tN s).length ≠ 2 by intro e; rw [e] at hn; cases hn), Bool.and_false]; rfl
      simp only [envNK, con0, conS, strsOf_arr, rowS_arr, strsOf_cells, rowS_cells, toS, strL_st, strL_d, strL_enc, strL_up, hpN_nil, hpN_cons, gm6, cut13C, rightC, zeroA, Acc.cs, h0, hn, hv, eK, e1, e2, e3, e4, e5, e6, hU, Int.toNat_natCast, Int.reduceToNat, go_sem, reduceCtorEq, ↓reduceIte, Nat.reduceAdd, Nat.reduceMul, Nat.reduceSub, Nat.reduceEqDiff, Nat.reduceLT, Nat.reduceBEq, Nat.reduceBNe, Nat.reduceLeDiff, Int.reduceLE, Int.reduceLT, Int.reduceToNat, Int.reduceEq, Int.reduceAdd, UInt8.reduceToNat, UInt32.reduceToNat, UInt64.reduceToNat, UInt8.reduceOfNat, UInt32.reduceOfNat, UInt64.reduceOfNat, Fin.isValue, Int.reduceSub, Int.reduceMul, Int.reduceNeg, Int.reduceMod, Int.reduceDiv, Int.reduceTDiv, Int.reduceTMod, Int.reduceBEq, Int.reduceBNe, Nat.reduceDiv, Nat.reducePow]
      repeat' apply And.intro
      rotate_right
      · refine endX [] ?_
        simp only [envNK, con0, conS, strsOf_arr, rowS_arr, strsOf_cells, rowS_cells, toS, strL_st, strL_d, strL_enc, strL_up, hpN_nil, hpN_cons, gm6, cut13C, rightC, go_sem, reduceCtorEq, ↓reduceIte, Nat.reduceAdd, Nat.reduceMul, Nat.reduceSub, Nat.reduceEqDiff, Nat.reduceLT, Nat.reduceBEq, Nat.reduceBNe, Nat.reduceLeDiff, Int.reduceLE, Int.reduceLT, Int.reduceToNat, Int.reduceEq, Int.reduceAdd, UInt8.reduceToNat, UInt32.reduceToNat, UInt64.reduceToNat, UInt8.reduceOfNat, UInt32.reduceOfNat, UInt64.reduceOfNat, Fin.isValue, Int.reduceSub, Int.reduceMul, Int.reduceNeg, Int.reduceMod, Int.reduceDiv, Int.reduceTDiv, Int.reduceTMod, Int.reduceBEq, Int.reduceBNe, Nat.reduceDiv, Nat.reducePow]
        all_goals ((repeat' apply And.intro) <;> first | omega | exact rfl | exact id)
      all_goals first | omega | exact rfl | exact id
    | true =>
      have hn2 : (tN s).length = 2 := by have := eq_of_beq hn; omega
      have g0 : (0 : Int) ≤ 0 ∧ (0 : Int) < ((tN s).length : Int) := ⟨by omega, by omega⟩
      have g1 : (0 : Int) ≤ 1 ∧ (1 : Int) < ((tN s).length : Int) := ⟨by omega, by omega⟩
      cases hu : ((U.length : Int) == (tK s : Int)) with
      | false =>
        have hv : takeV s = .tup [.agg zeroA.cs, .one (.num 3)] := by
          unfold takeV tkOk
          rw [hU, beq_eq_false_iff_ne.2 (show U.length ≠ tK s by intro e; rw [e] at hu; simp at hu), Bool.and_false]; rfl
        simp only [envNK, con0, conS, strsOf_arr, rowS_arr, strsOf_cells, rowS_cells, toS, strL_st, strL_d, strL_enc, strL_up, hpN_nil, hpN_cons, gm6, cut13C, rightC, zeroA, Acc.cs, h0, hn, hu, hv, eK, e1, e2, e3, e4, e5, e6, hU, Int.toNat_natCast, Int.reduceToNat, go_sem, reduceCtorEq, ↓reduceIte, Nat.reduceAdd, Nat.reduceMul, Nat.reduceSub, Nat.reduceEqDiff, Nat.reduceLT, Nat.reduceBEq, Nat.reduceBNe, Nat.reduceLeDiff, Int.reduceLE, Int.reduceLT, Int.reduceToNat, Int.reduceEq, Int.reduceAdd, UInt8.reduceToNat, UInt32.reduceToNat, UInt64.reduceToNat, UInt8.reduceOfNat, UInt32.reduceOfNat, UInt64.reduceOfNat, Fin.isValue, Int.reduceSub, Int.reduceMul, Int.reduceNeg, Int.reduceMod, Int.reduceDiv, Int.reduceTDiv, Int.reduceTMod, Int.reduceBEq, Int.reduceBNe, Nat.reduceDiv, Nat.reducePow]
        repeat' apply And.intro
        rotate_right
        · refine endX [] ?_
          simp only [envNK, con0, conS, strsOf_arr, rowS_arr, strsOf_cells, rowS_cells, toS, strL_st, strL_d, strL_enc, strL_up, hpN_nil, hpN_cons, gm6, cut13C, rightC, go_sem, reduceCtorEq, ↓reduceIte, Nat.reduceAdd, Nat.reduceMul, Nat.reduceSub, Nat.reduceEqDiff, Nat.reduceLT, Nat.reduceBEq, Nat.reduceBNe, Nat.reduceLeDiff, Int.reduceLE, Int.reduceLT, Int.reduceToNat, Int.reduceEq, Int.reduceAdd, UInt8.reduceToNat, UInt32.reduceToNat, UInt64.reduceToNat, UInt8.reduceOfNat, UInt32.reduceOfNat, UInt64.reduceOfNat, Fin.isValue, Int.reduceSub, Int.reduceMul, Int.reduceNeg, Int.reduceMod, Int.reduceDiv, Int.reduceTDiv, Int.reduceTMod, Int.reduceBEq, Int.reduceBNe, Nat.reduceDiv, Nat.reducePow]
          all_goals ((repeat' apply And.intro) <;> first | omega | exact rfl | exact id)
        all_goals first | omega | exact rfl | exact id
      | true =>
        have hu2 : U.length = tK s := by have := eq_of_beq hu; omega
        cases hr : rightB ⟨U, (t1 s).take 16, (((tN s).getD 0 0).toNat : Int), (((tN s).getD 1 0).toNat : Int), (t3 s).take 32, (t4 s).take 12, (t5 s).take 48, (t5 s).drop 48⟩ with
        | false =>
          have hv : takeV s = .tup [.agg zeroA.cs, .one (.num 3)] := by
            unfold takeV tkOk tkA
            rw [hU, hr, Bool.and_false]; rfl
          simp only [envNK, con0, conS, strsOf_arr, rowS_arr, strsOf_cells, rowS_cells, toS, strL_st, strL_d, strL_enc, strL_up, hpN_nil, hpN_cons, gm6, cut13C, rightC, zeroA, Acc.cs, h0, hn, hu, hr, hv, eK, e1, e2, e3, e4, e5, e6, hU, Int.toNat_natCast, Int.reduceToNat, go_sem, reduceCtorEq, ↓reduceIte, Nat.reduceAdd, Nat.reduceMul, Nat.reduceSub, Nat.reduceEqDiff, Nat.reduceLT, Nat.reduceBEq, Nat.reduceBNe, Nat.reduceLeDiff, Int.reduceLE, Int.reduceLT, Int.reduceToNat, Int.reduceEq, Int.reduceAdd, UInt8.reduceToNat, UInt32.reduceToNat, UInt64.reduceToNat, UInt8.reduceOfNat, UInt32.reduceOfNat, UInt64.reduceOfNat, Fin.isValue, Int.reduceSub, Int.reduceMul, Int.reduceNeg, Int.reduceMod, Int.reduceDiv, Int.reduceTDiv, Int.reduceTMod, Int.reduceBEq, Int.reduceBNe, Nat.reduceDiv, Nat.reducePow]
          repeat' apply And.intro
          rotate_right
          · refine endX [] ?_
            simp only [envNK, con0, conS, strsOf_arr, rowS_arr, strsOf_cells, rowS_cells, toS, strL_st, strL_d, strL_enc, strL_up, hpN_nil, hpN_cons, gm6, cut13C, rightC, go_sem, reduceCtorEq, ↓reduceIte, Nat.reduceAdd, Nat.reduceMul, Nat.reduceSub, Nat.reduceEqDiff, Nat.reduceLT, Nat.reduceBEq, Nat.reduceBNe, Nat.reduceLeDiff, Int.reduceLE, Int.reduceLT, Int.reduceToNat, Int.reduceEq, Int.reduceAdd, UInt8.reduceToNat, UInt32.reduceToNat, UInt64.reduceToNat, UInt8.reduceOfNat, UInt32.reduceOfNat, UInt64.reduceOfNat, Fin.isValue, Int.reduceSub, Int.reduceMul, Int.reduceNeg, Int.reduceMod, Int.reduceDiv, Int.reduceTDiv, Int.reduceTMod, Int.reduceBEq, Int.reduceBNe, Nat.reduceDiv, Nat.reducePow]
            all_goals ((repeat' apply And.intro) <;> first | omega | exact rfl | exact id)
          all_goals first | omega | exact rfl | exact id
        | true =>
          have hv : takeV s = .tup [.agg [.str U, .str ((t1 s).take 16), .num (((tN s).getD 0 0).toNat : Int), .num (((tN s).getD 1 0).toNat : Int), .str ((t3 s).take 32), .str ((t4 s).take 12), .str ((t5 s).take 48), .str ((t5 s).drop 48)], .one (.num 0)] := by
            unfold takeV tkOk tkA
            rw [hU, hr, decide_eq_true hpos, hn2, hu2, beq_self_eq_true, beq_self_eq_true]; rfl
          simp only [envNK, con0, conS, strsOf_arr, rowS_arr, strsOf_cells, rowS_cells, toS, strL_st, strL_d, strL_enc, strL_up, hpN_nil, hpN_cons, gm6, cut13C, rightC, zeroA, Acc.cs, h0, hn, hu, hr, hv, eK, e1, e2, e3, e4, e5, e6, hU, Int.toNat_natCast, Int.reduceToNat, go_sem, reduceCtorEq, ↓reduceIte, Nat.reduceAdd, Nat.reduceMul, Nat.reduceSub, Nat.reduceEqDiff, Nat.reduceLT, Nat.reduceBEq, Nat.reduceBNe, Nat.reduceLeDiff, Int.reduceLE, Int.reduceLT, Int.reduceToNat, Int.reduceEq, Int.reduceAdd, UInt8.reduceToNat, UInt32.reduceToNat, UInt64.reduceToNat, UInt8.reduceOfNat, UInt32.reduceOfNat, UInt64.reduceOfNat, Fin.isValue, Int.reduceSub, Int.reduceMul, Int.reduceNeg, Int.reduceMod, Int.reduceDiv, Int.reduceTDiv, Int.reduceTMod, Int.reduceBEq, Int.reduceBNe, Nat.reduceDiv, Nat.reducePow]
          repeat' apply And.intro
          rotate_right
          · refine endX [] ?_
            simp only [envNK, con0, conS, strsOf_arr, rowS_arr, strsOf_cells, rowS_cells, toS, strL_st, strL_d, strL_enc, strL_up, hpN_nil, hpN_cons, gm6, cut13C, rightC, go_sem, reduceCtorEq, ↓reduceIte, Nat.reduceAdd, Nat.reduceMul, Nat.reduceSub, Nat.reduceEqDiff, Nat.reduceLT, Nat.reduceBEq, Nat.reduceBNe, Nat.reduceLeDiff, Int.reduceLE, Int.reduceLT, Int.reduceToNat, Int.reduceEq, Int.reduceAdd, UInt8.reduceToNat, UInt32.reduceToNat, UInt64.reduceToNat, UInt8.reduceOfNat, UInt32.reduceOfNat, UInt64.reduceOfNat, Fin.isValue, Int.reduceSub, Int.reduceMul, Int.reduceNeg, Int.reduceMod, Int.reduceDiv, Int.reduceTDiv, Int.reduceTMod, Int.reduceBEq, Int.reduceBNe, Nat.reduceDiv, Nat.reducePow]
            all_goals ((repeat' apply And.intro) <;> first | omega | exact rfl | exact id)
          all_goals first | omega | exact rfl | exact id
def takeC : Con := con0 fun args => match args with
  | [.one (.str s)] => some (takeV s, [s.length ≤ 100000])
  | _ => none
theorem takeC_ok : ConOkG Tryd.prog GN 28 takeC := con0_okG Tryd.func28 rfl rfl fun args res ob h hob => by
  split at h
  · injection h with h; injection h with h1 h2; subst h1; subst h2; exact take_tri _ hob.1
  · cases h
end Go.Proofs.YtahiopdkekkibaaDoor.FR

/-
  Layer 13: what is put is taken; what is taken is put; how long it is.
-/
namespace Go.Proofs.YtahiopdkekkibaaDoor.FR
open Go Go.RowKit Go.ChangeShapes Go.WideShapes
set_option maxHeartbeats 4000000
set_option linter.unusedSimpArgs false
set_option linter.unusedVariables false
theorem by8_nat (n : Nat) (h : n < 256) : (by8 (n : Int)).toNat = n := by
  unfold by8
  simp [IntKind.wrap, UInt8.toNat_ofNat']
  omega
structure RightA (a : Acc) : Prop where
  u : 1 ≤ a.u.length ∧ a.u.length ≤ 8
  s : a.s.length = 16
  r : 1 ≤ a.r ∧ a.r ≤ 64
  e : a.e = 0 ∨ a.e = 1
  p : a.p.length = 32
  n : a.n.length = 12
  w : a.w.length = 48
  o : a.o.length = 0 ∨ a.o.length = 48
theorem right_spec {a : Acc} (h : rightB a = true) : RightA a := by
  unfold rightB usrB at h
  simp only [Bool.and_eq_true, Bool.or_eq_true, decide_eq_true_eq, beq_iff_eq] at h
  obtain ⟨⟨⟨⟨⟨⟨⟨⟨⟨h1, h2⟩, _⟩, h3⟩, h4⟩, h5⟩, h6⟩, h7⟩, h8⟩, h9⟩ := h
  exact ⟨⟨h1, h2⟩, by omega, h4, h5, by omega, by omega, by omega, by omega⟩
theorem put_take {a : Acc} (h : rightB a = true) : tkA (putA a) = a ∧ tkOk (putA a) = true := by
  have hs := right_spec h
  obtain ⟨u, s, r, e, p, n, w, o⟩ := a
  obtain ⟨hu, hsl, hr, he, hp, hn, hw, ho⟩ := hs
  simp only at hu hsl hr he hp hn hw ho
  obtain ⟨rn, rfl⟩ : ∃ k : Nat, r = (k : Int) := ⟨r.toNat, by omega⟩
  obtain ⟨en, rfl⟩ : ∃ k : Nat, e = (k : Int) := ⟨e.toNat, by omega⟩
  have eK : tK (putA ⟨u, s, rn, en, p, n, w, o⟩) = u.length := by
    show (by8 (u.length : Int)).toNat = _
    exact by8_nat _ (by omega)
  have d1 : (putA ⟨u, s, rn, en, p, n, w, o⟩).drop 1 = u ++ (s ++ (by8 rn :: by8 en :: (p ++ (n ++ (w ++ o))))) := rfl
  have e1 : t1 (putA ⟨u, s, rn, en, p, n, w, o⟩) = s ++ (by8 rn :: by8 en :: (p ++ (n ++ (w ++ o)))) := by unfold t1; rw [eK, d1, List.drop_left' rfl]
  have e2 : t2 (putA ⟨u, s, rn, en, p, n, w, o⟩) = by8 rn :: by8 en :: (p ++ (n ++ (w ++ o))) := by unfold t2; rw [e1, List.drop_left' hsl]
  have e3 : t3 (putA ⟨u, s, rn, en, p, n, w, o⟩) = p ++ (n ++ (w ++ o)) := by unfold t3; rw [e2]; rfl
  have eN : tN (putA ⟨u, s, rn, en, p, n, w, o⟩) = [by8 rn, by8 en] := by unfold tN; rw [e2]; rfl
  have e4 : t4 (putA ⟨u, s, rn, en, p, n, w, o⟩) = n ++ (w ++ o) := by unfold t4; rw [e3, List.drop_left' hp]
  have e5 : t5 (putA ⟨u, s, rn, en, p, n, w, o⟩) = w ++ o := by unfold t5; rw [e4, List.drop_left' hn]
  have hA : tkA (putA ⟨u, s, rn, en, p, n, w, o⟩) = ⟨u, s, rn, en, p, n, w, o⟩ := by
    unfold tkA
    rw [eK, d1, e1, eN, e3, e4, e5, List.take_left' rfl, List.take_left' hsl, List.take_left' hp, List.take_left' hn, List.take_left' hw, List.drop_left' hw]
    congr 1
    · show ((by8 (rn : Int)).toNat : Int) = _
      rw [by8_nat _ (by omega)]
    · show ((by8 (en : Int)).toNat : Int) = _
      rw [by8_nat _ (by omega)]
  refine ⟨hA, ?_⟩
  unfold tkOk
  rw [hA, h, eN, eK, d1, List.take_left' rfl]
  simp [putA]
def shortB (a : Acc) : Bool := decide ((a.u.length : Int) ≤ 300) && decide ((a.s.length : Int) ≤ 100) && decide ((a.p.length : Int) ≤ 100) && decide ((a.n.length : Int) ≤ 100) && decide ((a.w.length : Int) ≤ 100) && decide ((a.o.length : Int) ≤ 400)
def gm9 : Nat → Option Con := fun f => match f with
  | 27 => some putC
  | 28 => some takeC
  | 29 => some rightUserC
  | _ => none
theorem gm9_ok : GaOkG Tryd.prog GN gm9 := fun f con h => by
  unfold gm9 at h
  split at h
  · injection h with h; subst h; exact putC_ok
  · injection h with h; subst h; exact takeC_ok
  · injection h with h; subst h; exact rightUserC_ok
  · cases h
set_option maxRecDepth 100000 in
theorem awake13_tri : TriG Tryd.prog GN 13 [] [] (.c (.one (.bo true))) [] := by
  refine tri_ofx (envNK_ok gm9_ok 43 []) Tryd.func13 rfl rfl (rs := [.tmp 0]) rfl rfl (by simp [envNK]) rfl ?_
  have h1 : rightB ⟨[97, 108], [48, 49, 50, 51, 52, 53, 54, 55, 56, 57, 97, 98, 99, 100, 101, 102], 1, 0, [48, 49, 50, 51, 52, 53, 54, 55, 56, 57, 97, 98, 99, 100, 101, 102, 48, 49, 50, 51, 52, 53, 54, 55, 56, 57, 97, 98, 99, 100, 101, 102], [48, 49, 50, 51, 52, 53, 54, 55, 56, 57, 97, 98], [48, 49, 50, 51, 52, 53, 54, 55, 56, 57, 97, 98, 99, 100, 101, 102, 48, 49, 50, 51, 52, 53, 54, 55, 56, 57, 97, 98, 99, 100, 101, 102, 48, 49, 50, 51, 52, 53, 54, 55, 56, 57, 97, 98, 99, 100, 101, 102], []⟩ = true := by kernel_rfl
  have h4 : usrB [97, 108] = true := by decide
  have h5 : usrB [65, 108] = false := by decide
  generalize hA : (⟨[97, 108], [48, 49, 50, 51, 52, 53, 54, 55, 56, 57, 97, 98, 99, 100, 101, 102], 1, 0, [48, 49, 50, 51, 52, 53, 54, 55, 56, 57, 97, 98, 99, 100, 101, 102, 48, 49, 50, 51, 52, 53, 54, 55, 56, 57, 97, 98, 99, 100, 101, 102], [48, 49, 50, 51, 52, 53, 54, 55, 56, 57, 97, 98], [48, 49, 50, 51, 52, 53, 54, 55, 56, 57, 97, 98, 99, 100, 101, 102, 48, 49, 50, 51, 52, 53, 54, 55, 56, 57, 97, 98, 99, 100, 101, 102, 48, 49, 50, 51, 52, 53, 54, 55, 56, 57, 97, 98, 99, 100, 101, 102], []⟩ : Acc) = A at h1
  have hu : A.u = [97, 108] := by rw [← hA]
  have hr : A.r = 1 := by rw [← hA]
  have hsm : SmallA A := by rw [← hA]; exact ⟨by decide, by decide, by decide, by decide, by decide, by decide⟩
  have hlen : (putA A).length = 113 := by rw [← hA]; rfl
  obtain ⟨p1, p2⟩ := put_take h1
  have hT : takeV (putA A) = .tup [.agg A.cs, .one (.num 0)] := by unfold takeV; rw [p2, p1]; rfl
  have hP : putV A = .tup [.one (.str (putA A)), .one (.num 0)] := by unfold putV; rw [h1]; rfl
  have hl2 : (putA A).length ≤ 100000 := by omega
  have hle : ((putA A).length : Int) = 113 := by omega
  simp only [envNK, con0, conS, strsOf_arr, rowS_arr, strsOf_cells, rowS_cells, toS, strL_st, strL_d, strL_enc, strL_up, hpN_nil, hpN_cons, gm9, putC, takeC, rightUserC, hA, hP, hT, hsm, hl2, hle, hu, hr, h4, h5, Acc.cs, go_sem, reduceCtorEq, ↓reduceIte, Nat.reduceAdd, Nat.reduceMul, Nat.reduceSub, Nat.reduceEqDiff, Nat.reduceLT, Nat.reduceBEq, Nat.reduceBNe, Nat.reduceLeDiff, Int.reduceLE, Int.reduceLT, Int.reduceToNat, Int.reduceEq, Int.reduceAdd, UInt8.reduceToNat, UInt32.reduceToNat, UInt64.reduceToNat, UInt8.reduceOfNat, UInt32.reduceOfNat, UInt64.reduceOfNat, Fin.isValue, Int.reduceSub, Int.reduceMul, Int.reduceNeg, Int.reduceMod, Int.reduceDiv, Int.reduceTDiv, Int.reduceTMod, Int.reduceBEq, Int.reduceBNe, Nat.reduceDiv, Nat.reducePow]
  repeat' apply And.intro
  rotate_right
  · refine endX [] ?_
    simp only [envNK, con0, conS, strsOf_arr, rowS_arr, strsOf_cells, rowS_cells, toS, strL_st, strL_d, strL_enc, strL_up, hpN_nil, hpN_cons, gm9, putC, takeC, rightUserC, go_sem, reduceCtorEq, ↓reduceIte, Nat.reduceAdd, Nat.reduceMul, Nat.reduceSub, Nat.reduceEqDiff, Nat.reduceLT, Nat.reduceBEq, Nat.reduceBNe, Nat.reduceLeDiff, Int.reduceLE, Int.reduceLT, Int.reduceToNat, Int.reduceEq, Int.reduceAdd, UInt8.reduceToNat, UInt32.reduceToNat, UInt64.reduceToNat, UInt8.reduceOfNat, UInt32.reduceOfNat, UInt64.reduceOfNat, Fin.isValue, Int.reduceSub, Int.reduceMul, Int.reduceNeg, Int.reduceMod, Int.reduceDiv, Int.reduceTDiv, Int.reduceTMod, Int.reduceBEq, Int.reduceBNe, Nat.reduceDiv, Nat.reducePow]
    all_goals ((repeat' apply And.intro) <;> first | omega | exact rfl | exact id)
  all_goals first | omega | exact rfl | exact id
def awake13C : Con := con0 fun args => match args with
  | [] => some (.c (.one (.bo true)), [])
  | _ => none
theorem awake13C_ok : ConOkG Tryd.prog GN 13 awake13C := con0_okG Tryd.func13 rfl rfl fun args res ob h hob => by
  split at h
  · injection h with h; injection h with h1 h2; subst h1; subst h2; exact awake13_tri
  · cases h
section
variable {H : Type} {enc : TypeId × Value → H} {P : Program} {W : World}
/-- An account among the arguments. -/
def Acc.val (a : Acc) : Value := .agg #[.string ⟨a.u.toArray⟩, .string ⟨a.s.toArray⟩, .int .i64 a.r, .int .i64 a.e, .string ⟨a.p.toArray⟩, .string ⟨a.n.toArray⟩, .string ⟨a.w.toArray⟩, .string ⟨a.o.toArray⟩]
theorem Acc.rel (a : Acc) (r : Lc) : CV.rel r (.agg a.cs) a.val := ⟨_, rfl, rfl, rfl, rfl, rfl, rfl, rfl, rfl, rfl, trivial⟩
end
end Go.Proofs.YtahiopdkekkibaaDoor.FR

/-
  Layer 13: accounts made, unlocked, changed, with another key.
-/
namespace Go.Proofs.YtahiopdkekkibaaDoor.FZ
open Go Go.RowKit
set_option maxHeartbeats 4000000
set_option linter.unusedSimpArgs false
set_option linter.unusedVariables false
set_option linter.unusedSectionVars false
def zRounds : Con := FR.rightRoundsC
theorem zRounds_ok : ConOkG Tryd.prog GZ 52 zRounds := ConOk.up FR.rightRoundsC_ok
def zRightUser : Con := FR.rightUserC
theorem zRightUser_ok : ConOkG Tryd.prog GZ 29 zRightUser := ConOk.up FR.rightUserC_ok
def zRight : Con := FR.rightC
theorem zRight_ok : ConOkG Tryd.prog GZ 32 zRight := ConOk.up FR.rightC_ok
def zFinish : Con := FR.finishC
theorem zFinish_ok : ConOkG Tryd.prog GZ 19 zFinish := ConOk.up FR.finishC_ok
def zPass : Con := FH.passC
theorem zPass_ok : ConOkG Tryd.prog GZ 33 zPass := FH.passC_ok
/-- What is drawn for an account. -/
structure Frs where
  (s n p : List UInt8) (r : Int)
def Frs.cs (f : Frs) : List AV := [.str f.s, .str f.n, .str f.p, .num f.r]
def frB (f : Frs) : Bool := ((f.s.length : Int) == 16) && ((f.n.length : Int) == 12) && (decide (1 ≤ f.r) && decide (f.r ≤ 64))
structure FrsOk (f : Frs) : Prop where
  s : f.s.length = 16
  n : f.n.length = 12
  r : 1 ≤ f.r ∧ f.r ≤ 64
theorem frB_ok {f : Frs} (h : frB f = true) : FrsOk f := by
  unfold frB at h
  simp only [Bool.and_eq_true, decide_eq_true_eq, beq_iff_eq] at h
  obtain ⟨⟨h1, h2⟩, h3, h4⟩ := h
  exact ⟨by omega, by omega, h3, h4⟩
def zd1 : Nat → Option Con := fun f => match f with
  | 52 => some zRounds
  | _ => none
theorem zd1_ok : GaOkG Tryd.prog GZ zd1 := fun f con h => by
  unfold zd1 at h
  split at h
  · injection h with h; subst h; exact zRounds_ok
  · cases h
set_option maxRecDepth 100000 in
theorem rightFresh_tri (f : Frs) : TriG Tryd.prog GZ 30 [.agg f.cs] [] (.c (.one (.bo (frB f)))) [] := by
  obtain ⟨fs, fn, fp, fr⟩ := f
  refine tri_ofx (envZK_ok zd1_ok 18 []) Tryd.func30 rfl rfl (rs := [.tmp 2]) rfl rfl (by simp [envZK]) rfl ?_
  cases h1 : ((fs.length : Int) == 16) with
  | false =>
    have hv : frB ⟨fs, fn, fp, fr⟩ = false := by unfold frB; simp only [h1, Bool.false_and]
    simp only [h1, hv, envZK, con0, conS, strsOf_arr, rowS_arr, strsOf_cells, rowS_cells, toS, strL_st, strL_d, strL_enc, strL_up, hpN_nil, hpN_cons, zd1, zRounds, FR.rightRoundsC, FR.Acc.cs, Frs.cs, beq_self_eq_true, retQx, go_sem, reduceCtorEq, ↓reduceIte, Nat.reduceAdd, Nat.reduceMul, Nat.reduceSub, Nat.reduceEqDiff, Nat.reduceLT, Nat.reduceBEq, Nat.reduceBNe, Nat.reduceLeDiff, Int.reduceLE, Int.reduceLT, Int.reduceToNat, Int.reduceEq, Int.reduceAdd, UInt8.reduceToNat, UInt32.reduceToNat, UInt64.reduceToNat, UInt8.reduceOfNat, UInt32.reduceOfNat, UInt64.reduceOfNat, Fin.isValue, Int.reduceSub, Int.reduceMul, Int.reduceNeg, Int.reduceMod, Int.reduceDiv, Int.reduceTDiv, Int.reduceTMod, Int.reduceBEq, Int.reduceBNe, Nat.reduceDiv, Nat.reducePow]
    repeat' apply And.intro
    all_goals first
      | omega
      | (show ckDraw _; rfl)
      | skip
    refine endX [] ?_
    simp only [h1, hv, FR.Acc.cs, Frs.cs, beq_self_eq_true, envZK, con0, conS, strsOf_arr, rowS_arr, strsOf_cells, rowS_cells, toS, strL_st, strL_d, strL_enc, strL_up, hpN_nil, hpN_cons, zd1, zRounds, FR.rightRoundsC, retQx, go_sem, reduceCtorEq, ↓reduceIte, Nat.reduceAdd, Nat.reduceMul, Nat.reduceSub, Nat.reduceEqDiff, Nat.reduceLT, Nat.reduceBEq, Nat.reduceBNe, Nat.reduceLeDiff, Int.reduceLE, Int.reduceLT, Int.reduceToNat, Int.reduceEq, Int.reduceAdd, UInt8.reduceToNat, UInt32.reduceToNat, UInt64.reduceToNat, UInt8.reduceOfNat, UInt32.reduceOfNat, UInt64.reduceOfNat, Fin.isValue, Int.reduceSub, Int.reduceMul, Int.reduceNeg, Int.reduceMod, Int.reduceDiv, Int.reduceTDiv, Int.reduceTMod, Int.reduceBEq, Int.reduceBNe, Nat.reduceDiv, Nat.reducePow]
    all_goals first
      | trivial
      | rfl
      | trace_state
  | true =>
    cases h2 : ((fn.length : Int) == 12) with
    | false =>
      have hv : frB ⟨fs, fn, fp, fr⟩ = false := by unfold frB; simp only [h1, h2, Bool.false_and, Bool.and_false]
      simp only [h1, h2, hv, envZK, con0, conS, strsOf_arr, rowS_arr, strsOf_cells, rowS_cells, toS, strL_st, strL_d, strL_enc, strL_up, hpN_nil, hpN_cons, zd1, zRounds, FR.rightRoundsC, FR.Acc.cs, Frs.cs, beq_self_eq_true, retQx, go_sem, reduceCtorEq, ↓reduceIte, Nat.reduceAdd, Nat.reduceMul, Nat.reduceSub, Nat.reduceEqDiff, Nat.reduceLT, Nat.reduceBEq, Nat.reduceBNe, Nat.reduceLeDiff, Int.reduceLE, Int.reduceLT, Int.reduceToNat, Int.reduceEq, Int.reduceAdd, UInt8.reduceToNat, UInt32.reduceToNat, UInt64.reduceToNat, UInt8.reduceOfNat, UInt32.reduceOfNat, UInt64.reduceOfNat, Fin.isValue, Int.reduceSub, Int.reduceMul, Int.reduceNeg, Int.reduceMod, Int.reduceDiv, Int.reduceTDiv, Int.reduceTMod, Int.reduceBEq, Int.reduceBNe, Nat.reduceDiv, Nat.reducePow]
      repeat' apply And.intro
      all_goals first
        | omega
        | (show ckDraw _; rfl)
        | skip
      refine endX [] ?_
      simp only [h1, h2, hv, FR.Acc.cs, Frs.cs, beq_self_eq_true, envZK, con0, conS, strsOf_arr, rowS_arr, strsOf_cells, rowS_cells, toS, strL_st, strL_d, strL_enc, strL_up, hpN_nil, hpN_cons, zd1, zRounds, FR.rightRoundsC, retQx, go_sem, reduceCtorEq, ↓reduceIte, Nat.reduceAdd, Nat.reduceMul, Nat.reduceSub, Nat.reduceEqDiff, Nat.reduceLT, Nat.reduceBEq, Nat.reduceBNe, Nat.reduceLeDiff, Int.reduceLE, Int.reduceLT, Int.reduceToNat, Int.reduceEq, Int.reduceAdd, UInt8.reduceToNat, UInt32.reduceToNat, UInt64.reduceToNat, UInt8.reduceOfNat, UInt32.reduceOfNat, UInt64.reduceOfNat, Fin.isValue, Int.reduceSub, Int.reduceMul, Int.reduceNeg, Int.reduceMod, Int.reduceDiv, Int.reduceTDiv, Int.reduceTMod, Int.reduceBEq, Int.reduceBNe, Nat.reduceDiv, Nat.reducePow]
      all_goals first
        | trivial
        | rfl
        | trace_state
    | true =>
      have hv : frB ⟨fs, fn, fp, fr⟩ = (decide (1 ≤ fr) && decide (fr ≤ 64)) := by unfold frB; simp only [h1, h2, Bool.true_and]
      simp only [h1, h2, hv, FR.rightRoundsC, envZK, con0, conS, strsOf_arr, rowS_arr, strsOf_cells, rowS_cells, toS, strL_st, strL_d, strL_enc, strL_up, hpN_nil, hpN_cons, zd1, zRounds, FR.rightRoundsC, FR.Acc.cs, Frs.cs, beq_self_eq_true, retQx, go_sem, reduceCtorEq, ↓reduceIte, Nat.reduceAdd, Nat.reduceMul, Nat.reduceSub, Nat.reduceEqDiff, Nat.reduceLT, Nat.reduceBEq, Nat.reduceBNe, Nat.reduceLeDiff, Int.reduceLE, Int.reduceLT, Int.reduceToNat, Int.reduceEq, Int.reduceAdd, UInt8.reduceToNat, UInt32.reduceToNat, UInt64.reduceToNat, UInt8.reduceOfNat, UInt32.reduceOfNat, UInt64.reduceOfNat, Fin.isValue, Int.reduceSub, Int.reduceMul, Int.reduceNeg, Int.reduceMod, Int.reduceDiv, Int.reduceTDiv, Int.reduceTMod, Int.reduceBEq, Int.reduceBNe, Nat.reduceDiv, Nat.reducePow]
      repeat' apply And.intro
      all_goals first
        | omega
        | (show ckDraw _; rfl)
        | skip
      refine endX [] ?_
      simp only [h1, h2, hv, FR.rightRoundsC, FR.Acc.cs, Frs.cs, beq_self_eq_true, envZK, con0, conS, strsOf_arr, rowS_arr, strsOf_cells, rowS_cells, toS, strL_st, strL_d, strL_enc, strL_up, hpN_nil, hpN_cons, zd1, zRounds, FR.rightRoundsC, retQx, go_sem, reduceCtorEq, ↓reduceIte, Nat.reduceAdd, Nat.reduceMul, Nat.reduceSub, Nat.reduceEqDiff, Nat.reduceLT, Nat.reduceBEq, Nat.reduceBNe, Nat.reduceLeDiff, Int.reduceLE, Int.reduceLT, Int.reduceToNat, Int.reduceEq, Int.reduceAdd, UInt8.reduceToNat, UInt32.reduceToNat, UInt64.reduceToNat, UInt8.reduceOfNat, UInt32.reduceOfNat, UInt64.reduceOfNat, Fin.isValue, Int.reduceSub, Int.reduceMul, Int.reduceNeg, Int.reduceMod, Int.reduceDiv, Int.reduceTDiv, Int.reduceTMod, Int.reduceBEq, Int.reduceBNe, Nat.reduceDiv, Nat.reducePow]
      all_goals first
        | trivial
        | rfl
        | trace_state
def rightFreshC : Con := con0 fun args => match args with
  | [.agg [.str fs, .str fn, .str fp, .num fr]] => some (.c (.one (.bo (frB ⟨fs, fn, fp, fr⟩))), [])
  | _ => none
theorem rightFreshC_ok : ConOkG Tryd.prog GZ 30 rightFreshC := con0_okG Tryd.func30 rfl rfl fun args res ob h hob => by
  split at h
  · injection h with h; injection h with h1 h2; subst h1; subst h2; exact rightFresh_tri ⟨_, _, _, _⟩
  · cases h
def oldP : List UInt8 := [111, 108, 100]
def oldK (p : List UInt8) : List UInt8 := FH.drawD p [] oldP 32
theorem oldK_len (p : List UInt8) : (oldK p).length = 32 := drawD_len _ _ _ _
def zd2 : Nat → Option Con := fun f => match f with
  | 41 => some zDraw
  | _ => none
theorem zd2_ok : GaOkG Tryd.prog GZ zd2 := fun f con h => by
  unfold zd2 at h
  split at h
  · injection h with h; subst h; exact zDraw_ok
  · cases h
set_option maxRecDepth 100000 in
theorem oldKey_tri (p : List UInt8) (hp : p.length ≤ 1000) : TriG Tryd.prog GZ 34 [.one (.str p)] [] (.c (.one (.str (oldK p)))) [] := by
  have hd : FH.drawV p [] [111, 108, 100] 32 = .tup [.one (.str (oldK p)), .one (.num 0)] := by unfold FH.drawV; rw [if_pos (by decide)]; rfl
  refine tri_ofx (envZK_ok zd2_ok 11 []) Tryd.func34 rfl rfl (rs := [.tmp 2]) rfl rfl (by simp [envZK]) rfl ?_
  simp only [hd, FH.drawC, List.length_nil, envZK, con0, conS, strsOf_arr, rowS_arr, strsOf_cells, rowS_cells, toS, strL_st, strL_d, strL_enc, strL_up, hpN_nil, hpN_cons, zd2, zDraw, FR.Acc.cs, Frs.cs, beq_self_eq_true, retQx, go_sem, reduceCtorEq, ↓reduceIte, Nat.reduceAdd, Nat.reduceMul, Nat.reduceSub, Nat.reduceEqDiff, Nat.reduceLT, Nat.reduceBEq, Nat.reduceBNe, Nat.reduceLeDiff, Int.reduceLE, Int.reduceLT, Int.reduceToNat, Int.reduceEq, Int.reduceAdd, UInt8.reduceToNat, UInt32.reduceToNat, UInt64.reduceToNat, UInt8.reduceOfNat, UInt32.reduceOfNat, UInt64.reduceOfNat, Fin.isValue, Int.reduceSub, Int.reduceMul, Int.reduceNeg, Int.reduceMod, Int.reduceDiv, Int.reduceTDiv, Int.reduceTMod, Int.reduceBEq, Int.reduceBNe, Nat.reduceDiv, Nat.reducePow]
  repeat' apply And.intro
  all_goals first
    | omega
    | (simp only [List.length_cons, List.length_nil]; omega)
    | (show ckDraw _; rfl)
    | skip
  refine endX [] ?_
  simp only [hd, FH.drawC, List.length_nil, FR.Acc.cs, Frs.cs, beq_self_eq_true, envZK, con0, conS, strsOf_arr, rowS_arr, strsOf_cells, rowS_cells, toS, strL_st, strL_d, strL_enc, strL_up, hpN_nil, hpN_cons, zd2, zDraw, retQx, go_sem, reduceCtorEq, ↓reduceIte, Nat.reduceAdd, Nat.reduceMul, Nat.reduceSub, Nat.reduceEqDiff, Nat.reduceLT, Nat.reduceBEq, Nat.reduceBNe, Nat.reduceLeDiff, Int.reduceLE, Int.reduceLT, Int.reduceToNat, Int.reduceEq, Int.reduceAdd, UInt8.reduceToNat, UInt32.reduceToNat, UInt64.reduceToNat, UInt8.reduceOfNat, UInt32.reduceOfNat, UInt64.reduceOfNat, Fin.isValue, Int.reduceSub, Int.reduceMul, Int.reduceNeg, Int.reduceMod, Int.reduceDiv, Int.reduceTDiv, Int.reduceTMod, Int.reduceBEq, Int.reduceBNe, Nat.reduceDiv, Nat.reducePow]
  all_goals first
    | trivial
    | rfl
    | trace_state
def oldKeyC : Con := con0 fun args => match args with
  | [.one (.str p)] => some (.c (.one (.str (oldK p))), [p.length ≤ 1000])
  | _ => none
theorem oldKeyC_ok : ConOkG Tryd.prog GZ 34 oldKeyC := con0_okG Tryd.func34 rfl rfl fun args res ob h hob => by
  split at h
  · injection h with h; injection h with h1 h2; subst h1; subst h2; exact oldKey_tri _ hob.1
  · cases h
def wrapA (a : FR.Acc) (priv pw : List UInt8) (f : Frs) : FR.Acc := ⟨a.u, f.s, f.r, a.e, a.p, f.n, FC.sealL (FH.kP pw f.s f.r.toNat) f.n (a.u ++ a.p) priv, a.o⟩
theorem right_p (pw : List UInt8) (f : Frs) (h : FrsOk f) : FC.rightB (FH.kP pw f.s f.r.toNat) f.n = true := by
  unfold FC.rightB
  rw [FH.kP_len, h.n]; rfl
theorem right_o (p n : List UInt8) (h : n.length = 12) : FC.rightB (oldK p) n = true := by
  unfold FC.rightB
  rw [oldK_len, h]; rfl
theorem passV_ok (pw : List UInt8) (f : Frs) (h : FrsOk f) : FH.passV pw f.s f.r = .tup [.one (.str (FH.kP pw f.s f.r.toNat)), .one (.num 0)] := if_pos h.r
def zd3 : Nat → Option Con := fun f => match f with
  | 33 => some zPass
  | 24 => some zSeal
  | _ => none
theorem zd3_ok : GaOkG Tryd.prog GZ zd3 := fun f con h => by
  unfold zd3 at h
  split at h
  · injection h with h; subst h; exact zPass_ok
  · injection h with h; subst h; exact zSeal_ok
  · cases h
set_option maxRecDepth 100000 in
theorem wrap_tri (a : FR.Acc) (priv pw : List UInt8) (f : Frs) (hf : frB f = true) (h1 : a.u.length ≤ 1000) (h2 : a.p.length ≤ 1000) (h3 : priv.length ≤ 1000) (h4 : pw.length ≤ 1000) : TriG Tryd.prog GZ 31 [.agg a.cs, .one (.str priv), .one (.str pw), .agg f.cs] [] (.c (.agg (wrapA a priv pw f).cs)) [] := by
  have hok := frB_ok hf
  have hp := passV_ok pw f hok
  have hr := right_p pw f hok
  have hs := hok.s
  obtain ⟨u, s, r, e, p, n, w, o⟩ := a
  obtain ⟨fs, fn, fp, fr⟩ := f
  simp only at hp hr hs h1 h2
  refine tri_ofx (envZK_ok zd3_ok 44 []) Tryd.func31 rfl rfl (rs := [.cell 8 37]) rfl rfl (by simp [envZK]) rfl ?_
  simp only [hp, hr, if_true, wrapA, FH.passC, FC.sealC, envZK, con0, conS, strsOf_arr, rowS_arr, strsOf_cells, rowS_cells, toS, strL_st, strL_d, strL_enc, strL_up, hpN_nil, hpN_cons, zd3, zPass, zSeal, FC.sealC, FR.Acc.cs, Frs.cs, beq_self_eq_true, retQx, go_sem, reduceCtorEq, ↓reduceIte, Nat.reduceAdd, Nat.reduceMul, Nat.reduceSub, Nat.reduceEqDiff, Nat.reduceLT, Nat.reduceBEq, Nat.reduceBNe, Nat.reduceLeDiff, Int.reduceLE, Int.reduceLT, Int.reduceToNat, Int.reduceEq, Int.reduceAdd, UInt8.reduceToNat, UInt32.reduceToNat, UInt64.reduceToNat, UInt8.reduceOfNat, UInt32.reduceOfNat, UInt64.reduceOfNat, Fin.isValue, Int.reduceSub, Int.reduceMul, Int.reduceNeg, Int.reduceMod, Int.reduceDiv, Int.reduceTDiv, Int.reduceTMod, Int.reduceBEq, Int.reduceBNe, Nat.reduceDiv, Nat.reducePow]
  repeat' apply And.intro
  all_goals first
    | omega
    | (simp only [List.length_append]; omega)
    | (show ckDraw _; rfl)
    | skip
  refine endX [] ?_
  simp only [hp, hr, if_true, wrapA, FH.passC, FC.sealC, FR.Acc.cs, Frs.cs, beq_self_eq_true, envZK, con0, conS, strsOf_arr, rowS_arr, strsOf_cells, rowS_cells, toS, strL_st, strL_d, strL_enc, strL_up, hpN_nil, hpN_cons, zd3, zPass, zSeal, FC.sealC, retQx, go_sem, reduceCtorEq, ↓reduceIte, Nat.reduceAdd, Nat.reduceMul, Nat.reduceSub, Nat.reduceEqDiff, Nat.reduceLT, Nat.reduceBEq, Nat.reduceBNe, Nat.reduceLeDiff, Int.reduceLE, Int.reduceLT, Int.reduceToNat, Int.reduceEq, Int.reduceAdd, UInt8.reduceToNat, UInt32.reduceToNat, UInt64.reduceToNat, UInt8.reduceOfNat, UInt32.reduceOfNat, UInt64.reduceOfNat, Fin.isValue, Int.reduceSub, Int.reduceMul, Int.reduceNeg, Int.reduceMod, Int.reduceDiv, Int.reduceTDiv, Int.reduceTMod, Int.reduceBEq, Int.reduceBNe, Nat.reduceDiv, Nat.reducePow]
  all_goals first
    | trivial
    | rfl
    | trace_state
def wrapC : Con := con0 fun args => match args with
  | [.agg [.str u, .str s, .num r, .num e, .str p, .str n, .str w, .str o], .one (.str priv), .one (.str pw), .agg [.str fs, .str fn, .str fp, .num fr]] => some (.c (.agg (wrapA ⟨u, s, r, e, p, n, w, o⟩ priv pw ⟨fs, fn, fp, fr⟩).cs), [frB ⟨fs, fn, fp, fr⟩ = true, u.length ≤ 1000, p.length ≤ 1000, priv.length ≤ 1000, pw.length ≤ 1000])
  | _ => none
theorem wrapC_ok : ConOkG Tryd.prog GZ 31 wrapC := con0_okG Tryd.func31 rfl rfl fun args res ob h hob => by
  split at h
  · injection h with h; injection h with h1 h2; subst h1; subst h2; exact wrap_tri ⟨_, _, _, _, _, _, _, _⟩ _ _ ⟨_, _, _, _⟩ hob.1 hob.2.1 hob.2.2.1 hob.2.2.2.1 hob.2.2.2.2.1
  · cases h
def keepA (a : FR.Acc) (priv old : List UInt8) : FR.Acc := ⟨a.u, a.s, a.r, a.e, a.p, a.n, a.w, FC.sealL (oldK priv) a.n a.p old⟩
def zd4 : Nat → Option Con := fun f => match f with
  | 34 => some oldKeyC
  | 24 => some zSeal
  | _ => none
theorem zd4_ok : GaOkG Tryd.prog GZ zd4 := fun f con h => by
  unfold zd4 at h
  split at h
  · injection h with h; subst h; exact oldKeyC_ok
  · injection h with h; subst h; exact zSeal_ok
  · cases h
set_option maxRecDepth 100000 in
theorem keep_tri (a : FR.Acc) (priv old : List UInt8) (hn : a.n.length = 12) (h2 : a.p.length ≤ 1000) (h3 : priv.length ≤ 1000) (h4 : old.length ≤ 1000) : TriG Tryd.prog GZ 35 [.agg a.cs, .one (.str priv), .one (.str old)] [] (.c (.agg (keepA a priv old).cs)) [] := by
  have hr := right_o priv a.n hn
  obtain ⟨u, s, r, e, p, n, w, o⟩ := a
  simp only at hr h2
  refine tri_ofx (envZK_ok zd4_ok 20 []) Tryd.func35 rfl rfl (rs := [.cell 6 37]) rfl rfl (by simp [envZK]) rfl ?_
  simp only [hr, if_true, keepA, FC.sealC, envZK, con0, conS, strsOf_arr, rowS_arr, strsOf_cells, rowS_cells, toS, strL_st, strL_d, strL_enc, strL_up, hpN_nil, hpN_cons, zd4, oldKeyC, zSeal, FC.sealC, FR.Acc.cs, Frs.cs, beq_self_eq_true, retQx, go_sem, reduceCtorEq, ↓reduceIte, Nat.reduceAdd, Nat.reduceMul, Nat.reduceSub, Nat.reduceEqDiff, Nat.reduceLT, Nat.reduceBEq, Nat.reduceBNe, Nat.reduceLeDiff, Int.reduceLE, Int.reduceLT, Int.reduceToNat, Int.reduceEq, Int.reduceAdd, UInt8.reduceToNat, UInt32.reduceToNat, UInt64.reduceToNat, UInt8.reduceOfNat, UInt32.reduceOfNat, UInt64.reduceOfNat, Fin.isValue, Int.reduceSub, Int.reduceMul, Int.reduceNeg, Int.reduceMod, Int.reduceDiv, Int.reduceTDiv, Int.reduceTMod, Int.reduceBEq, Int.reduceBNe, Nat.reduceDiv, Nat.reducePow]
  repeat' apply And.intro
  all_goals first
    | omega
    | (show ckDraw _; rfl)
    | skip
  refine endX [] ?_
  simp only [hr, if_true, keepA, FC.sealC, FR.Acc.cs, Frs.cs, beq_self_eq_true, envZK, con0, conS, strsOf_arr, rowS_arr, strsOf_cells, rowS_cells, toS, strL_st, strL_d, strL_enc, strL_up, hpN_nil, hpN_cons, zd4, oldKeyC, zSeal, FC.sealC, retQx, go_sem, reduceCtorEq, ↓reduceIte, Nat.reduceAdd, Nat.reduceMul, Nat.reduceSub, Nat.reduceEqDiff, Nat.reduceLT, Nat.reduceBEq, Nat.reduceBNe, Nat.reduceLeDiff, Int.reduceLE, Int.reduceLT, Int.reduceToNat, Int.reduceEq, Int.reduceAdd, UInt8.reduceToNat, UInt32.reduceToNat, UInt64.reduceToNat, UInt8.reduceOfNat, UInt32.reduceOfNat, UInt64.reduceOfNat, Fin.isValue, Int.reduceSub, Int.reduceMul, Int.reduceNeg, Int.reduceMod, Int.reduceDiv, Int.reduceTDiv, Int.reduceTMod, Int.reduceBEq, Int.reduceBNe, Nat.reduceDiv, Nat.reducePow]
  all_goals first
    | trivial
    | rfl
    | trace_state
def keepC : Con := con0 fun args => match args with
  | [.agg [.str u, .str s, .num r, .num e, .str p, .str n, .str w, .str o], .one (.str priv), .one (.str old)] => some (.c (.agg (keepA ⟨u, s, r, e, p, n, w, o⟩ priv old).cs), [n.length = 12, p.length ≤ 1000, priv.length ≤ 1000, old.length ≤ 1000])
  | _ => none
theorem keepC_ok : ConOkG Tryd.prog GZ 35 keepC := con0_okG Tryd.func35 rfl rfl fun args res ob h hob => by
  split at h
  · injection h with h; injection h with h1 h2; subst h1; subst h2; exact keep_tri ⟨_, _, _, _, _, _, _, _⟩ _ _ hob.1 hob.2.1 hob.2.2.1 hob.2.2.2.1
  · cases h
def zeroA : FR.Acc := ⟨[], [], 0, 0, [], [], [], []⟩
def newA (user : List UInt8) (f : Frs) : FR.Acc := ⟨user, [], 0, 0, FK.pointS f.p FK.base9, [], [], []⟩
def mkB (user : List UInt8) (f : Frs) : Bool := FR.usrB user && frB f && ((f.p.length : Int) == 32)
def makeV (user pw : List UInt8) (f : Frs) : SV := if mkB user f = true then .tup [.agg (wrapA (newA user f) f.p pw f).cs, .one (.num 0)] else .tup [.agg zeroA.cs, .one (.num 1)]
def zd5 : Nat → Option Con := fun f => match f with
  | 29 => some zRightUser
  | 30 => some rightFreshC
  | 7 => some zPublic
  | 31 => some wrapC
  | _ => none
theorem zd5_ok : GaOkG Tryd.prog GZ zd5 := fun f con h => by
  unfold zd5 at h
  split at h
  · injection h with h; subst h; exact zRightUser_ok
  · injection h with h; subst h; exact rightFreshC_ok
  · injection h with h; subst h; exact zPublic_ok
  · injection h with h; subst h; exact wrapC_ok
  · cases h
set_option maxRecDepth 100000 in
theorem make_tri (user pw : List UInt8) (f : Frs) (h1 : user.length ≤ 1000) (h4 : pw.length ≤ 1000) : TriG Tryd.prog GZ 14 [.one (.str user), .one (.str pw), .agg f.cs] [] (makeV user pw f) [] := by
  refine tri_ofx (envZK_ok zd5_ok 39 []) Tryd.func14 rfl rfl (rs := [.cell 6 37, .tmp 7]) rfl rfl (by simp [envZK]) rfl ?_
  obtain ⟨fs, fn, fp, fr⟩ := f
  cases c1 : FR.usrB user with
  | false =>
    have hv : makeV user pw ⟨fs, fn, fp, fr⟩ = .tup [.agg zeroA.cs, .one (.num 1)] := by unfold makeV mkB; simp only [c1, Bool.false_and, Bool.false_eq_true, if_false]
    simp only [c1, hv, zeroA, FR.rightUserC, envZK, con0, conS, strsOf_arr, rowS_arr, strsOf_cells, rowS_cells, toS, strL_st, strL_d, strL_enc, strL_up, hpN_nil, hpN_cons, zd5, zRightUser, FR.rightUserC, rightFreshC, zPublic, FK.publicC, wrapC, FR.Acc.cs, Frs.cs, beq_self_eq_true, retQx, go_sem, reduceCtorEq, ↓reduceIte, Nat.reduceAdd, Nat.reduceMul, Nat.reduceSub, Nat.reduceEqDiff, Nat.reduceLT, Nat.reduceBEq, Nat.reduceBNe, Nat.reduceLeDiff, Int.reduceLE, Int.reduceLT, Int.reduceToNat, Int.reduceEq, Int.reduceAdd, UInt8.reduceToNat, UInt32.reduceToNat, UInt64.reduceToNat, UInt8.reduceOfNat, UInt32.reduceOfNat, UInt64.reduceOfNat, Fin.isValue, Int.reduceSub, Int.reduceMul, Int.reduceNeg, Int.reduceMod, Int.reduceDiv, Int.reduceTDiv, Int.reduceTMod, Int.reduceBEq, Int.reduceBNe, Nat.reduceDiv, Nat.reducePow]
    repeat' apply And.intro
    all_goals first
      | omega
      | (show ckDraw _; rfl)
      | skip
    refine endX [] ?_
    simp only [c1, hv, zeroA, FR.rightUserC, FR.Acc.cs, Frs.cs, beq_self_eq_true, envZK, con0, conS, strsOf_arr, rowS_arr, strsOf_cells, rowS_cells, toS, strL_st, strL_d, strL_enc, strL_up, hpN_nil, hpN_cons, zd5, zRightUser, FR.rightUserC, rightFreshC, zPublic, FK.publicC, wrapC, retQx, go_sem, reduceCtorEq, ↓reduceIte, Nat.reduceAdd, Nat.reduceMul, Nat.reduceSub, Nat.reduceEqDiff, Nat.reduceLT, Nat.reduceBEq, Nat.reduceBNe, Nat.reduceLeDiff, Int.reduceLE, Int.reduceLT, Int.reduceToNat, Int.reduceEq, Int.reduceAdd, UInt8.reduceToNat, UInt32.reduceToNat, UInt64.reduceToNat, UInt8.reduceOfNat, UInt32.reduceOfNat, UInt64.reduceOfNat, Fin.isValue, Int.reduceSub, Int.reduceMul, Int.reduceNeg, Int.reduceMod, Int.reduceDiv, Int.reduceTDiv, Int.reduceTMod, Int.reduceBEq, Int.reduceBNe, Nat.reduceDiv, Nat.reducePow]
    all_goals first
      | trivial
      | rfl
      | trace_state
  | true =>
    cases c2 : frB ⟨fs, fn, fp, fr⟩ with
    | false =>
      have hv : makeV user pw ⟨fs, fn, fp, fr⟩ = .tup [.agg zeroA.cs, .one (.num 1)] := by unfold makeV mkB; simp only [c1, c2, Bool.true_and, Bool.false_and, Bool.false_eq_true, if_false]
      simp only [c1, c2, hv, zeroA, FR.rightUserC, envZK, con0, conS, strsOf_arr, rowS_arr, strsOf_cells, rowS_cells, toS, strL_st, strL_d, strL_enc, strL_up, hpN_nil, hpN_cons, zd5, zRightUser, FR.rightUserC, rightFreshC, zPublic, FK.publicC, wrapC, FR.Acc.cs, Frs.cs, beq_self_eq_true, retQx, go_sem, reduceCtorEq, ↓reduceIte, Nat.reduceAdd, Nat.reduceMul, Nat.reduceSub, Nat.reduceEqDiff, Nat.reduceLT, Nat.reduceBEq, Nat.reduceBNe, Nat.reduceLeDiff, Int.reduceLE, Int.reduceLT, Int.reduceToNat, Int.reduceEq, Int.reduceAdd, UInt8.reduceToNat, UInt32.reduceToNat, UInt64.reduceToNat, UInt8.reduceOfNat, UInt32.reduceOfNat, UInt64.reduceOfNat, Fin.isValue, Int.reduceSub, Int.reduceMul, Int.reduceNeg, Int.reduceMod, Int.reduceDiv, Int.reduceTDiv, Int.reduceTMod, Int.reduceBEq, Int.reduceBNe, Nat.reduceDiv, Nat.reducePow]
      repeat' apply And.intro
      all_goals first
        | omega
        | (show ckDraw _; rfl)
        | skip
      refine endX [] ?_
      simp only [c1, c2, hv, zeroA, FR.rightUserC, FR.Acc.cs, Frs.cs, beq_self_eq_true, envZK, con0, conS, strsOf_arr, rowS_arr, strsOf_cells, rowS_cells, toS, strL_st, strL_d, strL_enc, strL_up, hpN_nil, hpN_cons, zd5, zRightUser, FR.rightUserC, rightFreshC, zPublic, FK.publicC, wrapC, retQx, go_sem, reduceCtorEq, ↓reduceIte, Nat.reduceAdd, Nat.reduceMul, Nat.reduceSub, Nat.reduceEqDiff, Nat.reduceLT, Nat.reduceBEq, Nat.reduceBNe, Nat.reduceLeDiff, Int.reduceLE, Int.reduceLT, Int.reduceToNat, Int.reduceEq, Int.reduceAdd, UInt8.reduceToNat, UInt32.reduceToNat, UInt64.reduceToNat, UInt8.reduceOfNat, UInt32.reduceOfNat, UInt64.reduceOfNat, Fin.isValue, Int.reduceSub, Int.reduceMul, Int.reduceNeg, Int.reduceMod, Int.reduceDiv, Int.reduceTDiv, Int.reduceTMod, Int.reduceBEq, Int.reduceBNe, Nat.reduceDiv, Nat.reducePow]
      all_goals first
        | trivial
        | rfl
        | trace_state
    | true =>
      cases c3 : ((fp.length : Int) == 32) with
      | false =>
        have hv : makeV user pw ⟨fs, fn, fp, fr⟩ = .tup [.agg zeroA.cs, .one (.num 1)] := by unfold makeV mkB; simp only [c1, c2, c3, Bool.true_and, Bool.and_false, Bool.false_eq_true, if_false]
        simp only [c1, c2, c3, hv, zeroA, FR.rightUserC, envZK, con0, conS, strsOf_arr, rowS_arr, strsOf_cells, rowS_cells, toS, strL_st, strL_d, strL_enc, strL_up, hpN_nil, hpN_cons, zd5, zRightUser, FR.rightUserC, rightFreshC, zPublic, FK.publicC, wrapC, FR.Acc.cs, Frs.cs, beq_self_eq_true, retQx, go_sem, reduceCtorEq, ↓reduceIte, Nat.reduceAdd, Nat.reduceMul, Nat.reduceSub, Nat.reduceEqDiff, Nat.reduceLT, Nat.reduceBEq, Nat.reduceBNe, Nat.reduceLeDiff, Int.reduceLE, Int.reduceLT, Int.reduceToNat, Int.reduceEq, Int.reduceAdd, UInt8.reduceToNat, UInt32.reduceToNat, UInt64.reduceToNat, UInt8.reduceOfNat, UInt32.reduceOfNat, UInt64.reduceOfNat, Fin.isValue, Int.reduceSub, Int.reduceMul, Int.reduceNeg, Int.reduceMod, Int.reduceDiv, Int.reduceTDiv, Int.reduceTMod, Int.reduceBEq, Int.reduceBNe, Nat.reduceDiv, Nat.reducePow]
        repeat' apply And.intro
        all_goals first
          | omega
          | (show ckDraw _; rfl)
          | skip
        refine endX [] ?_
        simp only [c1, c2, c3, hv, zeroA, FR.rightUserC, FR.Acc.cs, Frs.cs, beq_self_eq_true, envZK, con0, conS, strsOf_arr, rowS_arr, strsOf_cells, rowS_cells, toS, strL_st, strL_d, strL_enc, strL_up, hpN_nil, hpN_cons, zd5, zRightUser, FR.rightUserC, rightFreshC, zPublic, FK.publicC, wrapC, retQx, go_sem, reduceCtorEq, ↓reduceIte, Nat.reduceAdd, Nat.reduceMul, Nat.reduceSub, Nat.reduceEqDiff, Nat.reduceLT, Nat.reduceBEq, Nat.reduceBNe, Nat.reduceLeDiff, Int.reduceLE, Int.reduceLT, Int.reduceToNat, Int.reduceEq, Int.reduceAdd, UInt8.reduceToNat, UInt32.reduceToNat, UInt64.reduceToNat, UInt8.reduceOfNat, UInt32.reduceOfNat, UInt64.reduceOfNat, Fin.isValue, Int.reduceSub, Int.reduceMul, Int.reduceNeg, Int.reduceMod, Int.reduceDiv, Int.reduceTDiv, Int.reduceTMod, Int.reduceBEq, Int.reduceBNe, Nat.reduceDiv, Nat.reducePow]
        all_goals first
          | trivial
          | rfl
          | trace_state
      | true =>
        have c3' : fp.length = 32 := by have := eq_of_beq c3; omega
        have hq : FK.pointV fp FK.base9 = .tup [.one (.str (FK.pointS fp FK.base9)), .one (.bo true)] := if_pos ⟨c3', rfl⟩
        have p2 := FK.pointS_len fp FK.base9
        have hv : makeV user pw ⟨fs, fn, fp, fr⟩ = .tup [.agg (wrapA (newA user ⟨fs, fn, fp, fr⟩) fp pw ⟨fs, fn, fp, fr⟩).cs, .one (.num 0)] := by unfold makeV mkB; simp only [c1, c2, c3, Bool.true_and, if_true]
        simp only [c1, c2, c3, hv, hq, p2, newA, FR.rightUserC, FK.publicC, envZK, con0, conS, strsOf_arr, rowS_arr, strsOf_cells, rowS_cells, toS, strL_st, strL_d, strL_enc, strL_up, hpN_nil, hpN_cons, zd5, zRightUser, FR.rightUserC, rightFreshC, zPublic, FK.publicC, wrapC, FR.Acc.cs, Frs.cs, beq_self_eq_true, retQx, go_sem, reduceCtorEq, ↓reduceIte, Nat.reduceAdd, Nat.reduceMul, Nat.reduceSub, Nat.reduceEqDiff, Nat.reduceLT, Nat.reduceBEq, Nat.reduceBNe, Nat.reduceLeDiff, Int.reduceLE, Int.reduceLT, Int.reduceToNat, Int.reduceEq, Int.reduceAdd, UInt8.reduceToNat, UInt32.reduceToNat, UInt64.reduceToNat, UInt8.reduceOfNat, UInt32.reduceOfNat, UInt64.reduceOfNat, Fin.isValue, Int.reduceSub, Int.reduceMul, Int.reduceNeg, Int.reduceMod, Int.reduceDiv, Int.reduceTDiv, Int.reduceTMod, Int.reduceBEq, Int.reduceBNe, Nat.reduceDiv, Nat.reducePow]
        repeat' apply And.intro
        all_goals first
          | omega
          | (show ckDraw _; rfl)
          | skip
        refine endX [] ?_
        simp only [c1, c2, c3, hv, hq, p2, newA, FR.rightUserC, FK.publicC, FR.Acc.cs, Frs.cs, beq_self_eq_true, envZK, con0, conS, strsOf_arr, rowS_arr, strsOf_cells, rowS_cells, toS, strL_st, strL_d, strL_enc, strL_up, hpN_nil, hpN_cons, zd5, zRightUser, FR.rightUserC, rightFreshC, zPublic, FK.publicC, wrapC, retQx, go_sem, reduceCtorEq, ↓reduceIte, Nat.reduceAdd, Nat.reduceMul, Nat.reduceSub, Nat.reduceEqDiff, Nat.reduceLT, Nat.reduceBEq, Nat.reduceBNe, Nat.reduceLeDiff, Int.reduceLE, Int.reduceLT, Int.reduceToNat, Int.reduceEq, Int.reduceAdd, UInt8.reduceToNat, UInt32.reduceToNat, UInt64.reduceToNat, UInt8.reduceOfNat, UInt32.reduceOfNat, UInt64.reduceOfNat, Fin.isValue, Int.reduceSub, Int.reduceMul, Int.reduceNeg, Int.reduceMod, Int.reduceDiv, Int.reduceTDiv, Int.reduceTMod, Int.reduceBEq, Int.reduceBNe, Nat.reduceDiv, Nat.reducePow]
        all_goals first
          | trivial
          | rfl
          | trace_state
def makeC : Con := con0 fun args => match args with
  | [.one (.str user), .one (.str pw), .agg [.str fs, .str fn, .str fp, .num fr]] => some (makeV user pw ⟨fs, fn, fp, fr⟩, [user.length ≤ 1000, pw.length ≤ 1000])
  | _ => none
theorem makeC_ok : ConOkG Tryd.prog GZ 14 makeC := con0_okG Tryd.func14 rfl rfl fun args res ob h hob => by
  split at h
  · injection h with h; injection h with h1 h2; subst h1; subst h2; exact make_tri _ _ ⟨_, _, _, _⟩ hob.1 hob.2.1
  · cases h
def ulP (a : FR.Acc) (pw : List UInt8) : List UInt8 := FC.openS (FH.kP pw a.s a.r.toNat) a.n (a.u ++ a.p) a.w
def ulE (a : FR.Acc) (pw : List UInt8) : Int := FC.openE (FH.kP pw a.s a.r.toNat) a.n (a.u ++ a.p) a.w
def ulO (a : FR.Acc) (pw : List UInt8) : List UInt8 := FC.openS (oldK (ulP a pw)) a.n a.p a.o
def ulF (a : FR.Acc) (pw : List UInt8) : Int := FC.openE (oldK (ulP a pw)) a.n a.p a.o
def ulk (a : FR.Acc) (pw : List UInt8) : List (List UInt8) × Int :=
  if FR.rightB a = true then if ulE a pw = 0 then if FK.pointS (ulP a pw) FK.base9 = a.p then if a.o = [] then ([ulP a pw], 0) else if ulF a pw = 0 then ([ulP a pw, ulO a pw], 0) else ([], 3) else ([], 10) else ([], 10) else ([], 1)
def ulkV (r : List (List UInt8) × Int) : SV := .tup [.one (rowAV 0 r.1), .one (.num r.2)]
def ulkN (r : List (List UInt8) × Int) : List SObj := if r.1.isEmpty then [] else [.arr _ strL r.1]
theorem ulkV_nil (e : Int) : ulkV ([], e) = .tup [.one (.val (.slice none 0 0)), .one (.num e)] := rfl
theorem ulkN_nil (e : Int) : ulkN ([], e) = [] := rfl
theorem ulkV_one (p : List UInt8) (e : Int) : ulkV ([p], e) = .tup [.one (.sl 0 0 1 1), .one (.num e)] := rfl
theorem ulkN_one (p : List UInt8) (e : Int) : ulkN ([p], e) = [.arr _ strL [p]] := rfl
theorem ulkV_two (p q : List UInt8) (e : Int) : ulkV ([p, q], e) = .tup [.one (.sl 0 0 1 2), .one (.num e)] := rfl
theorem ulkN_two (p q : List UInt8) (e : Int) : ulkN ([p, q], e) = [.arr _ strL [p, q]] := rfl
theorem ulP_len {a : FR.Acc} {pw : List UInt8} (hr : FR.RightA a) (h : ulE a pw = 0) : (ulP a pw).length = 32 := by
  obtain ⟨-, -, h3⟩ := FC.seal_open _ _ _ _ h
  have : (ulP a pw).length + 16 = a.w.length := h3
  have := hr.w
  omega
theorem ulO_len {a : FR.Acc} {pw : List UInt8} (hr : FR.RightA a) (h : ulF a pw = 0) (ho : a.o ≠ []) : (ulO a pw).length = 32 := by
  obtain ⟨-, -, h3⟩ := FC.seal_open _ _ _ _ h
  have : (ulO a pw).length + 16 = a.o.length := h3
  rcases hr.o with h | h
  · exact absurd (List.eq_nil_of_length_eq_zero h) ho
  · omega
/-- What an unlocking hands back: an error, one key, or two. -/
theorem ulk_cases (a : FR.Acc) (pw : List UInt8) : (∃ e, e ≠ 0 ∧ ulk a pw = ([], e)) ∨ (∃ p, ulk a pw = ([p], 0) ∧ p.length = 32 ∧ FR.rightB a = true) ∨ (∃ p q, ulk a pw = ([p, q], 0) ∧ p.length = 32 ∧ q.length = 32 ∧ FR.rightB a = true) := by
  unfold ulk
  split
  · rename_i hr
    have hok := FR.right_spec hr
    split
    · rename_i hE
      split
      · split
        · exact .inr (.inl ⟨_, rfl, ulP_len hok hE, hr⟩)
        · rename_i ho
          split
          · rename_i hF
            exact .inr (.inr ⟨_, _, rfl, ulP_len hok hE, ulO_len hok hF ho, hr⟩)
          · exact .inl ⟨3, by decide, rfl⟩
      · exact .inl ⟨10, by decide, rfl⟩
    · exact .inl ⟨10, by decide, rfl⟩
  · exact .inl ⟨1, by decide, rfl⟩
def zd6 : Nat → Option Con := fun f => match f with
  | 32 => some zRight
  | 33 => some zPass
  | 25 => some zOpen
  | 7 => some zPublic
  | 34 => some oldKeyC
  | _ => none
theorem zd6_ok : GaOkG Tryd.prog GZ zd6 := fun f con h => by
  unfold zd6 at h
  split at h
  · injection h with h; subst h; exact zRight_ok
  · injection h with h; subst h; exact zPass_ok
  · injection h with h; subst h; exact zOpen_ok
  · injection h with h; subst h; exact zPublic_ok
  · injection h with h; subst h; exact oldKeyC_ok
  · cases h
set_option maxRecDepth 100000 in
theorem unlock_tri (a : FR.Acc) (pw : List UInt8) (h1 : a.u.length ≤ 1000) (h4 : pw.length ≤ 1000) : TriG Tryd.prog GZ 15 [.agg a.cs, .one (.str pw)] [] (ulkV (ulk a pw)) (hpN 0 (ulkN (ulk a pw))) := by
  cases c1 : FR.rightB a with
  | false =>
    have hv : ulk a pw = ([], 1) := by unfold ulk; rw [c1]; rfl
    rw [hv]
    obtain ⟨u, s, r, e, p, n, w, o⟩ := a
    simp only at h1
    refine tri_ofx (envZK_ok zd6_ok 72 []) Tryd.func15 rfl rfl (rs := [.tmp 4, .tmp 5]) rfl rfl (by simp [envZK]) rfl ?_
    simp only [c1, ulkV_nil, ulkN_nil, FR.rightC, envZK, con0, conS, strsOf_arr, rowS_arr, strsOf_cells, rowS_cells, toS, strL_st, strL_d, strL_enc, strL_up, hpN_nil, hpN_cons, zd6, zRight, FR.rightC, zPass, zOpen, FC.openC, zPublic, FK.publicC, oldKeyC, FR.Acc.cs, Frs.cs, beq_self_eq_true, retQx, go_sem, reduceCtorEq, ↓reduceIte, Nat.reduceAdd, Nat.reduceMul, Nat.reduceSub, Nat.reduceEqDiff, Nat.reduceLT, Nat.reduceBEq, Nat.reduceBNe, Nat.reduceLeDiff, Int.reduceLE, Int.reduceLT, Int.reduceToNat, Int.reduceEq, Int.reduceAdd, UInt8.reduceToNat, UInt32.reduceToNat, UInt64.reduceToNat, UInt8.reduceOfNat, UInt32.reduceOfNat, UInt64.reduceOfNat, Fin.isValue, Int.reduceSub, Int.reduceMul, Int.reduceNeg, Int.reduceMod, Int.reduceDiv, Int.reduceTDiv, Int.reduceTMod, Int.reduceBEq, Int.reduceBNe, Nat.reduceDiv, Nat.reducePow]
    repeat' apply And.intro
    all_goals first
      | omega
      | (show ckDraw _; rfl)
      | skip
    refine endX [] ?_
    simp only [c1, ulkV_nil, ulkN_nil, FR.rightC, FR.Acc.cs, Frs.cs, beq_self_eq_true, envZK, con0, conS, strsOf_arr, rowS_arr, strsOf_cells, rowS_cells, toS, strL_st, strL_d, strL_enc, strL_up, hpN_nil, hpN_cons, zd6, zRight, FR.rightC, zPass, zOpen, FC.openC, zPublic, FK.publicC, oldKeyC, retQx, go_sem, reduceCtorEq, ↓reduceIte, Nat.reduceAdd, Nat.reduceMul, Nat.reduceSub, Nat.reduceEqDiff, Nat.reduceLT, Nat.reduceBEq, Nat.reduceBNe, Nat.reduceLeDiff, Int.reduceLE, Int.reduceLT, Int.reduceToNat, Int.reduceEq, Int.reduceAdd, UInt8.reduceToNat, UInt32.reduceToNat, UInt64.reduceToNat, UInt8.reduceOfNat, UInt32.reduceOfNat, UInt64.reduceOfNat, Fin.isValue, Int.reduceSub, Int.reduceMul, Int.reduceNeg, Int.reduceMod, Int.reduceDiv, Int.reduceTDiv, Int.reduceTMod, Int.reduceBEq, Int.reduceBNe, Nat.reduceDiv, Nat.reducePow]
    all_goals first
      | trivial
      | rfl
      | trace_state
  | true =>
    have hok := FR.right_spec c1
    have hp : FH.passV pw a.s a.r = .tup [.one (.str (FH.kP pw a.s a.r.toNat)), .one (.num 0)] := if_pos hok.r
    by_cases hE : ulE a pw = 0
    · have hpl := ulP_len hok hE
      have hq : FK.pointV (ulP a pw) FK.base9 = .tup [.one (.str (FK.pointS (ulP a pw) FK.base9)), .one (.bo true)] := if_pos ⟨hpl, rfl⟩
      by_cases hP : FK.pointS (ulP a pw) FK.base9 = a.p
      · by_cases ho : a.o = []
        · have hv : ulk a pw = ([ulP a pw], 0) := by unfold ulk; rw [c1, if_pos rfl, if_pos hE, if_pos hP, if_pos ho]
          rw [hv]
          obtain ⟨u, s, r, e, p, n, w, o⟩ := a
          obtain ⟨k1, k2, k3, k4, k5, k6, k7, k8⟩ := hok
          generalize hS : ulP _ pw = S at *
          generalize hT : ulE _ pw = T at *
          simp only [ulP] at hS
          simp only [ulE] at hT
          simp only at h1 hP ho hp k1 k2 k3 k4 k5 k6 k7 k8
          subst ho
          subst hE
          refine tri_ofx (envZK_ok zd6_ok 72 []) Tryd.func15 rfl rfl (rs := [.tmp 4, .tmp 5]) rfl rfl (by simp [envZK]) rfl ?_
          simp only [c1, hp, hS, hT, hq, hP, hpl, k2, k5, k6, k7, ulkV_one, ulkN_one, FR.rightC, FH.passC, FC.openC, FK.publicC, envZK, con0, conS, strsOf_arr, rowS_arr, strsOf_cells, rowS_cells, toS, strL_st, strL_d, strL_enc, strL_up, hpN_nil, hpN_cons, zd6, zRight, FR.rightC, zPass, zOpen, FC.openC, zPublic, FK.publicC, oldKeyC, FR.Acc.cs, Frs.cs, beq_self_eq_true, retQx, go_sem, reduceCtorEq, ↓reduceIte, Nat.reduceAdd, Nat.reduceMul, Nat.reduceSub, Nat.reduceEqDiff, Nat.reduceLT, Nat.reduceBEq, Nat.reduceBNe, Nat.reduceLeDiff, Int.reduceLE, Int.reduceLT, Int.reduceToNat, Int.reduceEq, Int.reduceAdd, UInt8.reduceToNat, UInt32.reduceToNat, UInt64.reduceToNat, UInt8.reduceOfNat, UInt32.reduceOfNat, UInt64.reduceOfNat, Fin.isValue, Int.reduceSub, Int.reduceMul, Int.reduceNeg, Int.reduceMod, Int.reduceDiv, Int.reduceTDiv, Int.reduceTMod, Int.reduceBEq, Int.reduceBNe, Nat.reduceDiv, Nat.reducePow]
          repeat' apply And.intro
          all_goals first
            | omega
            | (simp only [List.length_append]; omega)
            | (show ckDraw _; rfl)
            | skip
          refine endX [(0, 120008)] ?_
          simp only [c1, hp, hS, hT, hq, hP, hpl, k2, k5, k6, k7, ulkV_one, ulkN_one, FR.rightC, FH.passC, FC.openC, FK.publicC, FR.Acc.cs, Frs.cs, beq_self_eq_true, envZK, con0, conS, strsOf_arr, rowS_arr, strsOf_cells, rowS_cells, toS, strL_st, strL_d, strL_enc, strL_up, hpN_nil, hpN_cons, zd6, zRight, FR.rightC, zPass, zOpen, FC.openC, zPublic, FK.publicC, oldKeyC, retQx, go_sem, reduceCtorEq, ↓reduceIte, Nat.reduceAdd, Nat.reduceMul, Nat.reduceSub, Nat.reduceEqDiff, Nat.reduceLT, Nat.reduceBEq, Nat.reduceBNe, Nat.reduceLeDiff, Int.reduceLE, Int.reduceLT, Int.reduceToNat, Int.reduceEq, Int.reduceAdd, UInt8.reduceToNat, UInt32.reduceToNat, UInt64.reduceToNat, UInt8.reduceOfNat, UInt32.reduceOfNat, UInt64.reduceOfNat, Fin.isValue, Int.reduceSub, Int.reduceMul, Int.reduceNeg, Int.reduceMod, Int.reduceDiv, Int.reduceTDiv, Int.reduceTMod, Int.reduceBEq, Int.reduceBNe, Nat.reduceDiv, Nat.reducePow]
          all_goals first
            | trivial
            | rfl
            | trace_state
        · have hb : (a.o == []) = false := by rw [beq_eq_false_iff_ne]; exact ho
          have hol := hok.o
          by_cases hF : ulF a pw = 0
          · have hv : ulk a pw = ([ulP a pw, ulO a pw], 0) := by unfold ulk; rw [c1, if_pos rfl, if_pos hE, if_pos hP, if_neg ho, if_pos hF]
            rw [hv]
            obtain ⟨u, s, r, e, p, n, w, o⟩ := a
            obtain ⟨k1, k2, k3, k4, k5, k6, k7, k8⟩ := hok
            generalize hS2 : ulO _ pw = S2 at *
            generalize hT2 : ulF _ pw = T2 at *
            simp only [ulO] at hS2
            simp only [ulF] at hT2
            generalize hS : ulP _ pw = S at *
            generalize hT : ulE _ pw = T at *
            simp only [ulP] at hS
            simp only [ulE] at hT
            simp only at h1 hP ho hb hol hp hS2 hT2 k1 k2 k3 k4 k5 k6 k7 k8
            subst hE
            subst hF
            refine tri_ofx (envZK_ok zd6_ok 72 []) Tryd.func15 rfl rfl (rs := [.tmp 4, .tmp 5]) rfl rfl (by simp [envZK]) rfl ?_
            simp only [c1, hp, hS, hT, hS2, hT2, hq, hP, hb, hpl, k2, k5, k6, k7, ulkV_two, ulkN_two, FR.rightC, FH.passC, FC.openC, FK.publicC, envZK, con0, conS, strsOf_arr, rowS_arr, strsOf_cells, rowS_cells, toS, strL_st, strL_d, strL_enc, strL_up, hpN_nil, hpN_cons, zd6, zRight, FR.rightC, zPass, zOpen, FC.openC, zPublic, FK.publicC, oldKeyC, FR.Acc.cs, Frs.cs, beq_self_eq_true, retQx, go_sem, reduceCtorEq, ↓reduceIte, Nat.reduceAdd, Nat.reduceMul, Nat.reduceSub, Nat.reduceEqDiff, Nat.reduceLT, Nat.reduceBEq, Nat.reduceBNe, Nat.reduceLeDiff, Int.reduceLE, Int.reduceLT, Int.reduceToNat, Int.reduceEq, Int.reduceAdd, UInt8.reduceToNat, UInt32.reduceToNat, UInt64.reduceToNat, UInt8.reduceOfNat, UInt32.reduceOfNat, UInt64.reduceOfNat, Fin.isValue, Int.reduceSub, Int.reduceMul, Int.reduceNeg, Int.reduceMod, Int.reduceDiv, Int.reduceTDiv, Int.reduceTMod, Int.reduceBEq, Int.reduceBNe, Nat.reduceDiv, Nat.reducePow]
            repeat' apply And.intro
            all_goals first
              | omega
              | (simp only [List.length_append]; omega)
              | (show ckDraw _; rfl)
              | skip
            refine endX [(0, 160016)] ?_
            simp only [c1, hp, hS, hT, hS2, hT2, hq, hP, hb, hpl, k2, k5, k6, k7, ulkV_two, ulkN_two, FR.rightC, FH.passC, FC.openC, FK.publicC, FR.Acc.cs, Frs.cs, beq_self_eq_true, envZK, con0, conS, strsOf_arr, rowS_arr, strsOf_cells, rowS_cells, toS, strL_st, strL_d, strL_enc, strL_up, hpN_nil, hpN_cons, zd6, zRight, FR.rightC, zPass, zOpen, FC.openC, zPublic, FK.publicC, oldKeyC, retQx, go_sem, reduceCtorEq, ↓reduceIte, Nat.reduceAdd, Nat.reduceMul, Nat.reduceSub, Nat.reduceEqDiff, Nat.reduceLT, Nat.reduceBEq, Nat.reduceBNe, Nat.reduceLeDiff, Int.reduceLE, Int.reduceLT, Int.reduceToNat, Int.reduceEq, Int.reduceAdd, UInt8.reduceToNat, UInt32.reduceToNat, UInt64.reduceToNat, UInt8.reduceOfNat, UInt32.reduceOfNat, UInt64.reduceOfNat, Fin.isValue, Int.reduceSub, Int.reduceMul, Int.reduceNeg, Int.reduceMod, Int.reduceDiv, Int.reduceTDiv, Int.reduceTMod, Int.reduceBEq, Int.reduceBNe, Nat.reduceDiv, Nat.reducePow]
            all_goals first
              | trivial
              | rfl
              | trace_state
          · have hv : ulk a pw = ([], 3) := by unfold ulk; rw [c1, if_pos rfl, if_pos hE, if_pos hP, if_neg ho, if_neg hF]
            have hn : (ulF a pw == 0) = false := by rw [beq_eq_false_iff_ne]; exact hF
            rw [hv]
            obtain ⟨u, s, r, e, p, n, w, o⟩ := a
            obtain ⟨k1, k2, k3, k4, k5, k6, k7, k8⟩ := hok
            generalize hT2 : ulF _ pw = T2 at *
            simp only [ulF] at hT2
            generalize hS : ulP _ pw = S at *
            generalize hT : ulE _ pw = T at *
            simp only [ulP] at hS
            simp only [ulE] at hT
            simp only at h1 hP ho hb hol hp hT2 k1 k2 k3 k4 k5 k6 k7 k8
            subst hE
            refine tri_ofx (envZK_ok zd6_ok 72 []) Tryd.func15 rfl rfl (rs := [.tmp 4, .tmp 5]) rfl rfl (by simp [envZK]) rfl ?_
            simp only [c1, hp, hS, hT, hT2, hn, hq, hP, hb, hpl, k2, k5, k6, k7, ulkV_nil, ulkN_nil, FR.rightC, FH.passC, FC.openC, FK.publicC, envZK, con0, conS, strsOf_arr, rowS_arr, strsOf_cells, rowS_cells, toS, strL_st, strL_d, strL_enc, strL_up, hpN_nil, hpN_cons, zd6, zRight, FR.rightC, zPass, zOpen, FC.openC, zPublic, FK.publicC, oldKeyC, FR.Acc.cs, Frs.cs, beq_self_eq_true, retQx, go_sem, reduceCtorEq, ↓reduceIte, Nat.reduceAdd, Nat.reduceMul, Nat.reduceSub, Nat.reduceEqDiff, Nat.reduceLT, Nat.reduceBEq, Nat.reduceBNe, Nat.reduceLeDiff, Int.reduceLE, Int.reduceLT, Int.reduceToNat, Int.reduceEq, Int.reduceAdd, UInt8.reduceToNat, UInt32.reduceToNat, UInt64.reduceToNat, UInt8.reduceOfNat, UInt32.reduceOfNat, UInt64.reduceOfNat, Fin.isValue, Int.reduceSub, Int.reduceMul, Int.reduceNeg, Int.reduceMod, Int.reduceDiv, Int.reduceTDiv, Int.reduceTMod, Int.reduceBEq, Int.reduceBNe, Nat.reduceDiv, Nat.reducePow]
            repeat' apply And.intro
            all_goals first
              | omega
              | (simp only [List.length_append]; omega)
              | (show ckDraw _; rfl)
              | skip
            refine endX [] ?_
            simp only [c1, hp, hS, hT, hT2, hn, hq, hP, hb, hpl, k2, k5, k6, k7, ulkV_nil, ulkN_nil, FR.rightC, FH.passC, FC.openC, FK.publicC, FR.Acc.cs, Frs.cs, beq_self_eq_true, envZK, con0, conS, strsOf_arr, rowS_arr, strsOf_cells, rowS_cells, toS, strL_st, strL_d, strL_enc, strL_up, hpN_nil, hpN_cons, zd6, zRight, FR.rightC, zPass, zOpen, FC.openC, zPublic, FK.publicC, oldKeyC, retQx, go_sem, reduceCtorEq, ↓reduceIte, Nat.reduceAdd, Nat.reduceMul, Nat.reduceSub, Nat.reduceEqDiff, Nat.reduceLT, Nat.reduceBEq, Nat.reduceBNe, Nat.reduceLeDiff, Int.reduceLE, Int.reduceLT, Int.reduceToNat, Int.reduceEq, Int.reduceAdd, UInt8.reduceToNat, UInt32.reduceToNat, UInt64.reduceToNat, UInt8.reduceOfNat, UInt32.reduceOfNat, UInt64.reduceOfNat, Fin.isValue, Int.reduceSub, Int.reduceMul, Int.reduceNeg, Int.reduceMod, Int.reduceDiv, Int.reduceTDiv, Int.reduceTMod, Int.reduceBEq, Int.reduceBNe, Nat.reduceDiv, Nat.reducePow]
            all_goals first
              | trivial
              | rfl
              | trace_state
      · have hv : ulk a pw = ([], 10) := by unfold ulk; rw [c1, if_pos rfl, if_pos hE, if_neg hP]
        have hb : (FK.pointS (ulP a pw) FK.base9 == a.p) = false := by rw [beq_eq_false_iff_ne]; exact hP
        rw [hv]
        obtain ⟨u, s, r, e, p, n, w, o⟩ := a
        obtain ⟨k1, k2, k3, k4, k5, k6, k7, k8⟩ := hok
        generalize hS : ulP _ pw = S at *
        generalize hT : ulE _ pw = T at *
        simp only [ulP] at hS
        simp only [ulE] at hT
        simp only at h1 hP hb hp k1 k2 k3 k4 k5 k6 k7 k8
        subst hE
        refine tri_ofx (envZK_ok zd6_ok 72 []) Tryd.func15 rfl rfl (rs := [.tmp 4, .tmp 5]) rfl rfl (by simp [envZK]) rfl ?_
        simp only [c1, hp, hS, hT, hq, hb, hpl, k2, k5, k6, k7, ulkV_nil, ulkN_nil, FR.rightC, FH.passC, FC.openC, FK.publicC, envZK, con0, conS, strsOf_arr, rowS_arr, strsOf_cells, rowS_cells, toS, strL_st, strL_d, strL_enc, strL_up, hpN_nil, hpN_cons, zd6, zRight, FR.rightC, zPass, zOpen, FC.openC, zPublic, FK.publicC, oldKeyC, FR.Acc.cs, Frs.cs, beq_self_eq_true, retQx, go_sem, reduceCtorEq, ↓reduceIte, Nat.reduceAdd, Nat.reduceMul, Nat.reduceSub, Nat.reduceEqDiff, Nat.reduceLT, Nat.reduceBEq, Nat.reduceBNe, Nat.reduceLeDiff, Int.reduceLE, Int.reduceLT, Int.reduceToNat, Int.reduceEq, Int.reduceAdd, UInt8.reduceToNat, UInt32.reduceToNat, UInt64.reduceToNat, UInt8.reduceOfNat, UInt32.reduceOfNat, UInt64.reduceOfNat, Fin.isValue, Int.reduceSub, Int.reduceMul, Int.reduceNeg, Int.reduceMod, Int.reduceDiv, Int.reduceTDiv, Int.reduceTMod, Int.reduceBEq, Int.reduceBNe, Nat.reduceDiv, Nat.reducePow]
        repeat' apply And.intro
        all_goals first
          | omega
          | (simp only [List.length_append]; omega)
          | (show ckDraw _; rfl)
          | skip
        refine endX [] ?_
        simp only [c1, hp, hS, hT, hq, hb, hpl, k2, k5, k6, k7, ulkV_nil, ulkN_nil, FR.rightC, FH.passC, FC.openC, FK.publicC, FR.Acc.cs, Frs.cs, beq_self_eq_true, envZK, con0, conS, strsOf_arr, rowS_arr, strsOf_cells, rowS_cells, toS, strL_st, strL_d, strL_enc, strL_up, hpN_nil, hpN_cons, zd6, zRight, FR.rightC, zPass, zOpen, FC.openC, zPublic, FK.publicC, oldKeyC, retQx, go_sem, reduceCtorEq, ↓reduceIte, Nat.reduceAdd, Nat.reduceMul, Nat.reduceSub, Nat.reduceEqDiff, Nat.reduceLT, Nat.reduceBEq, Nat.reduceBNe, Nat.reduceLeDiff, Int.reduceLE, Int.reduceLT, Int.reduceToNat, Int.reduceEq, Int.reduceAdd, UInt8.reduceToNat, UInt32.reduceToNat, UInt64.reduceToNat, UInt8.reduceOfNat, UInt32.reduceOfNat, UInt64.reduceOfNat, Fin.isValue, Int.reduceSub, Int.reduceMul, Int.reduceNeg, Int.reduceMod, Int.reduceDiv, Int.reduceTDiv, Int.reduceTMod, Int.reduceBEq, Int.reduceBNe, Nat.reduceDiv, Nat.reducePow]
        all_goals first
          | trivial
          | rfl
          | trace_state
    · have hv : ulk a pw = ([], 10) := by unfold ulk; rw [c1, if_pos rfl, if_neg hE]
      have hn : (ulE a pw == 0) = false := by rw [beq_eq_false_iff_ne]; exact hE
      rw [hv]
      obtain ⟨u, s, r, e, p, n, w, o⟩ := a
      obtain ⟨k1, k2, k3, k4, k5, k6, k7, k8⟩ := hok
      generalize hT : ulE _ pw = T at *
      simp only [ulE] at hT
      simp only at h1 hp k1 k2 k3 k4 k5 k6 k7 k8
      refine tri_ofx (envZK_ok zd6_ok 72 []) Tryd.func15 rfl rfl (rs := [.tmp 4, .tmp 5]) rfl rfl (by simp [envZK]) rfl ?_
      simp only [c1, hp, hT, hn, k2, k5, k6, k7, ulkV_nil, ulkN_nil, FR.rightC, FH.passC, FC.openC, envZK, con0, conS, strsOf_arr, rowS_arr, strsOf_cells, rowS_cells, toS, strL_st, strL_d, strL_enc, strL_up, hpN_nil, hpN_cons, zd6, zRight, FR.rightC, zPass, zOpen, FC.openC, zPublic, FK.publicC, oldKeyC, FR.Acc.cs, Frs.cs, beq_self_eq_true, retQx, go_sem, reduceCtorEq, ↓reduceIte, Nat.reduceAdd, Nat.reduceMul, Nat.reduceSub, Nat.reduceEqDiff, Nat.reduceLT, Nat.reduceBEq, Nat.reduceBNe, Nat.reduceLeDiff, Int.reduceLE, Int.reduceLT, Int.reduceToNat, Int.reduceEq, Int.reduceAdd, UInt8.reduceToNat, UInt32.reduceToNat, UInt64.reduceToNat, UInt8.reduceOfNat, UInt32.reduceOfNat, UInt64.reduceOfNat, Fin.isValue, Int.reduceSub, Int.reduceMul, Int.reduceNeg, Int.reduceMod, Int.reduceDiv, Int.reduceTDiv, Int.reduceTMod, Int.reduceBEq, Int.reduceBNe, Nat.reduceDiv, Nat.reducePow]
      repeat' apply And.intro
      all_goals first
        | omega
        | (simp only [List.length_append]; omega)
        | (show ckDraw _; rfl)
        | skip
      refine endX [] ?_
      simp only [c1, hp, hT, hn, k2, k5, k6, k7, ulkV_nil, ulkN_nil, FR.rightC, FH.passC, FC.openC, FR.Acc.cs, Frs.cs, beq_self_eq_true, envZK, con0, conS, strsOf_arr, rowS_arr, strsOf_cells, rowS_cells, toS, strL_st, strL_d, strL_enc, strL_up, hpN_nil, hpN_cons, zd6, zRight, FR.rightC, zPass, zOpen, FC.openC, zPublic, FK.publicC, oldKeyC, retQx, go_sem, reduceCtorEq, ↓reduceIte, Nat.reduceAdd, Nat.reduceMul, Nat.reduceSub, Nat.reduceEqDiff, Nat.reduceLT, Nat.reduceBEq, Nat.reduceBNe, Nat.reduceLeDiff, Int.reduceLE, Int.reduceLT, Int.reduceToNat, Int.reduceEq, Int.reduceAdd, UInt8.reduceToNat, UInt32.reduceToNat, UInt64.reduceToNat, UInt8.reduceOfNat, UInt32.reduceOfNat, UInt64.reduceOfNat, Fin.isValue, Int.reduceSub, Int.reduceMul, Int.reduceNeg, Int.reduceMod, Int.reduceDiv, Int.reduceTDiv, Int.reduceTMod, Int.reduceBEq, Int.reduceBNe, Nat.reduceDiv, Nat.reducePow]
      all_goals first
        | trivial
        | rfl
        | trace_state
def unlockF : List CV → List SObj → Option (SV × List SObj × List Prop)
  | [.agg [.str u, .str s, .num r, .num e, .str p, .str n, .str w, .str o], .one (.str pw)], [] => some (ulkV (ulk ⟨u, s, r, e, p, n, w, o⟩ pw), ulkN (ulk ⟨u, s, r, e, p, n, w, o⟩ pw), [u.length ≤ 1000, pw.length ≤ 1000])
  | _, _ => none
def unlockC : Con := FH.conQ unlockF
theorem unlockC_ok : ConOkG Tryd.prog GZ 15 unlockC := FH.conQ_ok Tryd.func15 rfl rfl fun args es v nw ob h hob => by
  unfold unlockF at h
  split at h
  · rename_i heq
    obtain rfl : es = [] := List.map_eq_nil_iff.1 heq
    simp only [Option.some.injEq, Prod.mk.injEq] at h
    obtain ⟨rfl, rfl, rfl⟩ := h
    exact unlock_tri ⟨_, _, _, _, _, _, _, _⟩ _ hob.1 hob.2.1
  · cases h
end Go.Proofs.YtahiopdkekkibaaDoor.FZ

/-
  Layer 13: accounts by another password, and with another key; the law RingKeeps.
-/
namespace Go.Proofs.YtahiopdkekkibaaDoor.FZ
open Go Go.RowKit Go.ChangeShapes
set_option maxHeartbeats 4000000
set_option linter.unusedSimpArgs false
set_option linter.unusedVariables false
set_option linter.unusedSectionVars false
theorem acc_eta (a : FR.Acc) : FR.Acc.mk a.u a.s a.r a.e a.p a.n a.w a.o = a := rfl
def changeV (a : FR.Acc) (old pw : List UInt8) (f : Frs) : SV := match ulk a old with
  | ([], e) => .tup [.agg zeroA.cs, .one (.num e)]
  | ([p], _) => if frB f = true then .tup [.agg (wrapA a p pw f).cs, .one (.num 0)] else .tup [.agg zeroA.cs, .one (.num 1)]
  | ([p, q], _) => if frB f = true then .tup [.agg (keepA (wrapA a p pw f) p q).cs, .one (.num 0)] else .tup [.agg zeroA.cs, .one (.num 1)]
  | _ => .tup []
def zf1 : Nat → Option Con := fun f => match f with
  | 15 => some unlockC
  | 30 => some rightFreshC
  | 31 => some wrapC
  | 35 => some keepC
  | _ => none
theorem zf1_ok : GaOkG Tryd.prog GZ zf1 := fun f con h => by
  unfold zf1 at h
  split at h
  · injection h with h; subst h; exact unlockC_ok
  · injection h with h; subst h; exact rightFreshC_ok
  · injection h with h; subst h; exact wrapC_ok
  · injection h with h; subst h; exact keepC_ok
  · cases h
set_option maxRecDepth 100000 in
theorem change_tri (a : FR.Acc) (old pw : List UInt8) (f : Frs) (h1 : a.u.length ≤ 1000) (h2 : old.length ≤ 1000) (h4 : pw.length ≤ 1000) : TriG Tryd.prog GZ 16 [.agg a.cs, .one (.str old), .one (.str pw), .agg f.cs] [] (changeV a old pw f) [] := by
  rcases ulk_cases a old with ⟨e0, he, hu⟩ | ⟨p0, hu, hp0, hr⟩ | ⟨p0, q0, hu, hp0, hq0, hr⟩
  · have hv : changeV a old pw f = .tup [.agg zeroA.cs, .one (.num e0)] := by unfold changeV; rw [hu]
    have hb : (e0 == 0) = false := by rw [beq_eq_false_iff_ne]; exact he
    rw [hv]
    obtain ⟨u, s, r, e, p, n, w, o⟩ := a
    obtain ⟨fs, fn, fp, fr⟩ := f
    simp only at h1
    refine tri_ofx (envZK_ok zf1_ok 45 []) Tryd.func16 rfl rfl (rs := [.cell 8 37, .tmp 9]) rfl rfl (by simp [envZK]) rfl ?_
    simp only [hu, hb, zeroA, ulkV_nil, ulkN_nil, FH.conQ, unlockF, envZK, con0, conS, strsOf_arr, rowS_arr, strsOf_cells, rowS_cells, toS, strL_st, strL_d, strL_enc, strL_up, hpN_nil, hpN_cons, zf1, unlockC, rightFreshC, wrapC, keepC, FR.Acc.cs, Frs.cs, beq_self_eq_true, retQx, go_sem, reduceCtorEq, ↓reduceIte, Nat.reduceAdd, Nat.reduceMul, Nat.reduceSub, Nat.reduceEqDiff, Nat.reduceLT, Nat.reduceBEq, Nat.reduceBNe, Nat.reduceLeDiff, Int.reduceLE, Int.reduceLT, Int.reduceToNat, Int.reduceEq, Int.reduceAdd, UInt8.reduceToNat, UInt32.reduceToNat, UInt64.reduceToNat, UInt8.reduceOfNat, UInt32.reduceOfNat, UInt64.reduceOfNat, Fin.isValue, Int.reduceSub, Int.reduceMul, Int.reduceNeg, Int.reduceMod, Int.reduceDiv, Int.reduceTDiv, Int.reduceTMod, Int.reduceBEq, Int.reduceBNe, Nat.reduceDiv, Nat.reducePow]
    repeat' apply And.intro
    all_goals first
      | omega
      | (show ckDraw _; rfl)
      | skip
    refine endX [] ?_
    simp only [hu, hb, zeroA, ulkV_nil, ulkN_nil, FH.conQ, unlockF, FR.Acc.cs, Frs.cs, beq_self_eq_true, envZK, con0, conS, strsOf_arr, rowS_arr, strsOf_cells, rowS_cells, toS, strL_st, strL_d, strL_enc, strL_up, hpN_nil, hpN_cons, zf1, unlockC, rightFreshC, wrapC, keepC, retQx, go_sem, reduceCtorEq, ↓reduceIte, Nat.reduceAdd, Nat.reduceMul, Nat.reduceSub, Nat.reduceEqDiff, Nat.reduceLT, Nat.reduceBEq, Nat.reduceBNe, Nat.reduceLeDiff, Int.reduceLE, Int.reduceLT, Int.reduceToNat, Int.reduceEq, Int.reduceAdd, UInt8.reduceToNat, UInt32.reduceToNat, UInt64.reduceToNat, UInt8.reduceOfNat, UInt32.reduceOfNat, UInt64.reduceOfNat, Fin.isValue, Int.reduceSub, Int.reduceMul, Int.reduceNeg, Int.reduceMod, Int.reduceDiv, Int.reduceTDiv, Int.reduceTMod, Int.reduceBEq, Int.reduceBNe, Nat.reduceDiv, Nat.reducePow]
    all_goals first
      | trivial
      | rfl
      | trace_state
  · have hok := FR.right_spec hr
    cases c2 : frB f with
    | false =>
      have hv : changeV a old pw f = .tup [.agg zeroA.cs, .one (.num 1)] := by unfold changeV; rw [hu, c2]; rfl
      rw [hv]
      obtain ⟨u, s, r, e, p, n, w, o⟩ := a
      obtain ⟨fs, fn, fp, fr⟩ := f
      simp only at h1
      refine tri_ofx (envZK_ok zf1_ok 45 []) Tryd.func16 rfl rfl (rs := [.cell 8 37, .tmp 9]) rfl rfl (by simp [envZK]) rfl ?_
      simp only [hu, c2, zeroA, ulkV_one, ulkN_one, FH.conQ, unlockF, envZK, con0, conS, strsOf_arr, rowS_arr, strsOf_cells, rowS_cells, toS, strL_st, strL_d, strL_enc, strL_up, hpN_nil, hpN_cons, zf1, unlockC, rightFreshC, wrapC, keepC, FR.Acc.cs, Frs.cs, beq_self_eq_true, retQx, go_sem, reduceCtorEq, ↓reduceIte, Nat.reduceAdd, Nat.reduceMul, Nat.reduceSub, Nat.reduceEqDiff, Nat.reduceLT, Nat.reduceBEq, Nat.reduceBNe, Nat.reduceLeDiff, Int.reduceLE, Int.reduceLT, Int.reduceToNat, Int.reduceEq, Int.reduceAdd, UInt8.reduceToNat, UInt32.reduceToNat, UInt64.reduceToNat, UInt8.reduceOfNat, UInt32.reduceOfNat, UInt64.reduceOfNat, Fin.isValue, Int.reduceSub, Int.reduceMul, Int.reduceNeg, Int.reduceMod, Int.reduceDiv, Int.reduceTDiv, Int.reduceTMod, Int.reduceBEq, Int.reduceBNe, Nat.reduceDiv, Nat.reducePow]
      repeat' apply And.intro
      all_goals first
        | omega
        | (show ckDraw _; rfl)
        | skip
      refine endX [] ?_
      simp only [hu, c2, zeroA, ulkV_one, ulkN_one, FH.conQ, unlockF, FR.Acc.cs, Frs.cs, beq_self_eq_true, envZK, con0, conS, strsOf_arr, rowS_arr, strsOf_cells, rowS_cells, toS, strL_st, strL_d, strL_enc, strL_up, hpN_nil, hpN_cons, zf1, unlockC, rightFreshC, wrapC, keepC, retQx, go_sem, reduceCtorEq, ↓reduceIte, Nat.reduceAdd, Nat.reduceMul, Nat.reduceSub, Nat.reduceEqDiff, Nat.reduceLT, Nat.reduceBEq, Nat.reduceBNe, Nat.reduceLeDiff, Int.reduceLE, Int.reduceLT, Int.reduceToNat, Int.reduceEq, Int.reduceAdd, UInt8.reduceToNat, UInt32.reduceToNat, UInt64.reduceToNat, UInt8.reduceOfNat, UInt32.reduceOfNat, UInt64.reduceOfNat, Fin.isValue, Int.reduceSub, Int.reduceMul, Int.reduceNeg, Int.reduceMod, Int.reduceDiv, Int.reduceTDiv, Int.reduceTMod, Int.reduceBEq, Int.reduceBNe, Nat.reduceDiv, Nat.reducePow]
      all_goals first
        | trivial
        | rfl
        | trace_state
    | true =>
      have hv : changeV a old pw f = .tup [.agg (wrapA a p0 pw f).cs, .one (.num 0)] := by unfold changeV; rw [hu, c2]; rfl
      rw [hv]
      have k5 := hok.p
      obtain ⟨u, s, r, e, p, n, w, o⟩ := a
      obtain ⟨fs, fn, fp, fr⟩ := f
      simp only at h1 k5
      refine tri_ofx (envZK_ok zf1_ok 45 []) Tryd.func16 rfl rfl (rs := [.cell 8 37, .tmp 9]) rfl rfl (by simp [envZK]) rfl ?_
      simp only [hu, c2, k5, hp0, List.length_cons, List.length_nil, ulkV_one, ulkN_one, FH.conQ, unlockF, envZK, con0, conS, strsOf_arr, rowS_arr, strsOf_cells, rowS_cells, toS, strL_st, strL_d, strL_enc, strL_up, hpN_nil, hpN_cons, zf1, unlockC, rightFreshC, wrapC, keepC, FR.Acc.cs, Frs.cs, beq_self_eq_true, retQx, go_sem, reduceCtorEq, ↓reduceIte, Nat.reduceAdd, Nat.reduceMul, Nat.reduceSub, Nat.reduceEqDiff, Nat.reduceLT, Nat.reduceBEq, Nat.reduceBNe, Nat.reduceLeDiff, Int.reduceLE, Int.reduceLT, Int.reduceToNat, Int.reduceEq, Int.reduceAdd, UInt8.reduceToNat, UInt32.reduceToNat, UInt64.reduceToNat, UInt8.reduceOfNat, UInt32.reduceOfNat, UInt64.reduceOfNat, Fin.isValue, Int.reduceSub, Int.reduceMul, Int.reduceNeg, Int.reduceMod, Int.reduceDiv, Int.reduceTDiv, Int.reduceTMod, Int.reduceBEq, Int.reduceBNe, Nat.reduceDiv, Nat.reducePow]
      repeat' apply And.intro
      all_goals first
        | omega
        | (show ckDraw _; rfl)
        | skip
      refine endX [] ?_
      simp only [hu, c2, k5, hp0, List.length_cons, List.length_nil, ulkV_one, ulkN_one, FH.conQ, unlockF, FR.Acc.cs, Frs.cs, beq_self_eq_true, envZK, con0, conS, strsOf_arr, rowS_arr, strsOf_cells, rowS_cells, toS, strL_st, strL_d, strL_enc, strL_up, hpN_nil, hpN_cons, zf1, unlockC, rightFreshC, wrapC, keepC, retQx, go_sem, reduceCtorEq, ↓reduceIte, Nat.reduceAdd, Nat.reduceMul, Nat.reduceSub, Nat.reduceEqDiff, Nat.reduceLT, Nat.reduceBEq, Nat.reduceBNe, Nat.reduceLeDiff, Int.reduceLE, Int.reduceLT, Int.reduceToNat, Int.reduceEq, Int.reduceAdd, UInt8.reduceToNat, UInt32.reduceToNat, UInt64.reduceToNat, UInt8.reduceOfNat, UInt32.reduceOfNat, UInt64.reduceOfNat, Fin.isValue, Int.reduceSub, Int.reduceMul, Int.reduceNeg, Int.reduceMod, Int.reduceDiv, Int.reduceTDiv, Int.reduceTMod, Int.reduceBEq, Int.reduceBNe, Nat.reduceDiv, Nat.reducePow]
      all_goals first
        | trivial
        | rfl
        | trace_state
  · have hok := FR.right_spec hr
    cases c2 : frB f with
    | false =>
      have hv : changeV a old pw f = .tup [.agg zeroA.cs, .one (.num 1)] := by unfold changeV; rw [hu, c2]; rfl
      rw [hv]
      obtain ⟨u, s, r, e, p, n, w, o⟩ := a
      obtain ⟨fs, fn, fp, fr⟩ := f
      simp only at h1
      refine tri_ofx (envZK_ok zf1_ok 45 []) Tryd.func16 rfl rfl (rs := [.cell 8 37, .tmp 9]) rfl rfl (by simp [envZK]) rfl ?_
      simp only [hu, c2, zeroA, ulkV_two, ulkN_two, FH.conQ, unlockF, envZK, con0, conS, strsOf_arr, rowS_arr, strsOf_cells, rowS_cells, toS, strL_st, strL_d, strL_enc, strL_up, hpN_nil, hpN_cons, zf1, unlockC, rightFreshC, wrapC, keepC, FR.Acc.cs, Frs.cs, beq_self_eq_true, retQx, go_sem, reduceCtorEq, ↓reduceIte, Nat.reduceAdd, Nat.reduceMul, Nat.reduceSub, Nat.reduceEqDiff, Nat.reduceLT, Nat.reduceBEq, Nat.reduceBNe, Nat.reduceLeDiff, Int.reduceLE, Int.reduceLT, Int.reduceToNat, Int.reduceEq, Int.reduceAdd, UInt8.reduceToNat, UInt32.reduceToNat, UInt64.reduceToNat, UInt8.reduceOfNat, UInt32.reduceOfNat, UInt64.reduceOfNat, Fin.isValue, Int.reduceSub, Int.reduceMul, Int.reduceNeg, Int.reduceMod, Int.reduceDiv, Int.reduceTDiv, Int.reduceTMod, Int.reduceBEq, Int.reduceBNe, Nat.reduceDiv, Nat.reducePow]
      repeat' apply And.intro
      all_goals first
        | omega
        | (show ckDraw _; rfl)
        | skip
      refine endX [] ?_
      simp only [hu, c2, zeroA, ulkV_two, ulkN_two, FH.conQ, unlockF, FR.Acc.cs, Frs.cs, beq_self_eq_true, envZK, con0, conS, strsOf_arr, rowS_arr, strsOf_cells, rowS_cells, toS, strL_st, strL_d, strL_enc, strL_up, hpN_nil, hpN_cons, zf1, unlockC, rightFreshC, wrapC, keepC, retQx, go_sem, reduceCtorEq, ↓reduceIte, Nat.reduceAdd, Nat.reduceMul, Nat.reduceSub, Nat.reduceEqDiff, Nat.reduceLT, Nat.reduceBEq, Nat.reduceBNe, Nat.reduceLeDiff, Int.reduceLE, Int.reduceLT, Int.reduceToNat, Int.reduceEq, Int.reduceAdd, UInt8.reduceToNat, UInt32.reduceToNat, UInt64.reduceToNat, UInt8.reduceOfNat, UInt32.reduceOfNat, UInt64.reduceOfNat, Fin.isValue, Int.reduceSub, Int.reduceMul, Int.reduceNeg, Int.reduceMod, Int.reduceDiv, Int.reduceTDiv, Int.reduceTMod, Int.reduceBEq, Int.reduceBNe, Nat.reduceDiv, Nat.reducePow]
      all_goals first
        | trivial
        | rfl
        | trace_state
    | true =>
      have hv : changeV a old pw f = .tup [.agg (keepA (wrapA a p0 pw f) p0 q0).cs, .one (.num 0)] := by unfold changeV; rw [hu, c2]; rfl
      rw [hv]
      have k5 := hok.p
      have fo := (frB_ok c2).n
      obtain ⟨u, s, r, e, p, n, w, o⟩ := a
      obtain ⟨fs, fn, fp, fr⟩ := f
      simp only at h1 k5 fo
      refine tri_ofx (envZK_ok zf1_ok 45 []) Tryd.func16 rfl rfl (rs := [.cell 8 37, .tmp 9]) rfl rfl (by simp [envZK]) rfl ?_
      simp only [hu, c2, k5, fo, hp0, hq0, wrapA, List.length_cons, List.length_nil, ulkV_two, ulkN_two, FH.conQ, unlockF, envZK, con0, conS, strsOf_arr, rowS_arr, strsOf_cells, rowS_cells, toS, strL_st, strL_d, strL_enc, strL_up, hpN_nil, hpN_cons, zf1, unlockC, rightFreshC, wrapC, keepC, FR.Acc.cs, Frs.cs, beq_self_eq_true, retQx, go_sem, reduceCtorEq, ↓reduceIte, Nat.reduceAdd, Nat.reduceMul, Nat.reduceSub, Nat.reduceEqDiff, Nat.reduceLT, Nat.reduceBEq, Nat.reduceBNe, Nat.reduceLeDiff, Int.reduceLE, Int.reduceLT, Int.reduceToNat, Int.reduceEq, Int.reduceAdd, UInt8.reduceToNat, UInt32.reduceToNat, UInt64.reduceToNat, UInt8.reduceOfNat, UInt32.reduceOfNat, UInt64.reduceOfNat, Fin.isValue, Int.reduceSub, Int.reduceMul, Int.reduceNeg, Int.reduceMod, Int.reduceDiv, Int.reduceTDiv, Int.reduceTMod, Int.reduceBEq, Int.reduceBNe, Nat.reduceDiv, Nat.reducePow]
      repeat' apply And.intro
      all_goals first
        | omega
        | (show ckDraw _; rfl)
        | skip
      refine endX [] ?_
      simp only [hu, c2, k5, fo, hp0, hq0, wrapA, List.length_cons, List.length_nil, ulkV_two, ulkN_two, FH.conQ, unlockF, FR.Acc.cs, Frs.cs, beq_self_eq_true, envZK, con0, conS, strsOf_arr, rowS_arr, strsOf_cells, rowS_cells, toS, strL_st, strL_d, strL_enc, strL_up, hpN_nil, hpN_cons, zf1, unlockC, rightFreshC, wrapC, keepC, retQx, go_sem, reduceCtorEq, ↓reduceIte, Nat.reduceAdd, Nat.reduceMul, Nat.reduceSub, Nat.reduceEqDiff, Nat.reduceLT, Nat.reduceBEq, Nat.reduceBNe, Nat.reduceLeDiff, Int.reduceLE, Int.reduceLT, Int.reduceToNat, Int.reduceEq, Int.reduceAdd, UInt8.reduceToNat, UInt32.reduceToNat, UInt64.reduceToNat, UInt8.reduceOfNat, UInt32.reduceOfNat, UInt64.reduceOfNat, Fin.isValue, Int.reduceSub, Int.reduceMul, Int.reduceNeg, Int.reduceMod, Int.reduceDiv, Int.reduceTDiv, Int.reduceTMod, Int.reduceBEq, Int.reduceBNe, Nat.reduceDiv, Nat.reducePow]
      all_goals first
        | trivial
        | rfl
        | trace_state
def changeC : Con := con0 fun args => match args with
  | [.agg [.str u, .str s, .num r, .num e, .str p, .str n, .str w, .str o], .one (.str old), .one (.str pw), .agg [.str fs, .str fn, .str fp, .num fr]] => some (changeV ⟨u, s, r, e, p, n, w, o⟩ old pw ⟨fs, fn, fp, fr⟩, [u.length ≤ 1000, old.length ≤ 1000, pw.length ≤ 1000])
  | _ => none
theorem changeC_ok : ConOkG Tryd.prog GZ 16 changeC := con0_okG Tryd.func16 rfl rfl fun args res ob h hob => by
  split at h
  · injection h with h; injection h with h1 h2; subst h1; subst h2; exact change_tri ⟨_, _, _, _, _, _, _, _⟩ _ _ ⟨_, _, _, _⟩ hob.1 hob.2.1 hob.2.2.1
  · cases h
def rotA (a : FR.Acc) (f : Frs) : FR.Acc := ⟨a.u, a.s, a.r, 1 - a.e, FK.pointS f.p FK.base9, a.n, a.w, a.o⟩
def rotV (a : FR.Acc) (pw : List UInt8) (f : Frs) : SV := match ulk a pw with
  | ([], e) => .tup [.agg zeroA.cs, .one (.num e)]
  | ([p], _) => if frB f = true ∧ f.p.length = 32 then .tup [.agg (keepA (wrapA (rotA a f) f.p pw f) f.p p).cs, .one (.num 0)] else .tup [.agg zeroA.cs, .one (.num 1)]
  | ([_, _], _) => .tup [.agg zeroA.cs, .one (.num 8)]
  | _ => .tup []
def zf2 : Nat → Option Con := fun f => match f with
  | 15 => some unlockC
  | 30 => some rightFreshC
  | 31 => some wrapC
  | 35 => some keepC
  | 7 => some zPublic
  | _ => none
theorem zf2_ok : GaOkG Tryd.prog GZ zf2 := fun f con h => by
  unfold zf2 at h
  split at h
  · injection h with h; subst h; exact unlockC_ok
  · injection h with h; subst h; exact rightFreshC_ok
  · injection h with h; subst h; exact wrapC_ok
  · injection h with h; subst h; exact keepC_ok
  · injection h with h; subst h; exact zPublic_ok
  · cases h
set_option maxRecDepth 100000 in
theorem rotate_tri (a : FR.Acc) (pw : List UInt8) (f : Frs) (h1 : a.u.length ≤ 1000) (h4 : pw.length ≤ 1000) : TriG Tryd.prog GZ 18 [.agg a.cs, .one (.str pw), .agg f.cs] [] (rotV a pw f) [] := by
  rcases ulk_cases a pw with ⟨e0, he, hu⟩ | ⟨p0, hu, hp0, hr⟩ | ⟨p0, q0, hu, hp0, hq0, hr⟩
  · have hv : rotV a pw f = .tup [.agg zeroA.cs, .one (.num e0)] := by unfold rotV; rw [hu]
    have hb : (e0 == 0) = false := by rw [beq_eq_false_iff_ne]; exact he
    rw [hv]
    obtain ⟨u, s, r, e, p, n, w, o⟩ := a
    obtain ⟨fs, fn, fp, fr⟩ := f
    simp only at h1
    refine tri_ofx (envZK_ok zf2_ok 57 []) Tryd.func18 rfl rfl (rs := [.cell 6 37, .tmp 7]) rfl rfl (by simp [envZK]) rfl ?_
    simp only [hu, hb, zeroA, ulkV_nil, ulkN_nil, FH.conQ, unlockF, envZK, con0, conS, strsOf_arr, rowS_arr, strsOf_cells, rowS_cells, toS, strL_st, strL_d, strL_enc, strL_up, hpN_nil, hpN_cons, zf2, unlockC, rightFreshC, wrapC, keepC, zPublic, FK.publicC, FR.Acc.cs, Frs.cs, beq_self_eq_true, retQx, go_sem, reduceCtorEq, ↓reduceIte, Nat.reduceAdd, Nat.reduceMul, Nat.reduceSub, Nat.reduceEqDiff, Nat.reduceLT, Nat.reduceBEq, Nat.reduceBNe, Nat.reduceLeDiff, Int.reduceLE, Int.reduceLT, Int.reduceToNat, Int.reduceEq, Int.reduceAdd, UInt8.reduceToNat, UInt32.reduceToNat, UInt64.reduceToNat, UInt8.reduceOfNat, UInt32.reduceOfNat, UInt64.reduceOfNat, Fin.isValue, Int.reduceSub, Int.reduceMul, Int.reduceNeg, Int.reduceMod, Int.reduceDiv, Int.reduceTDiv, Int.reduceTMod, Int.reduceBEq, Int.reduceBNe, Nat.reduceDiv, Nat.reducePow]
    repeat' apply And.intro
    all_goals first
      | omega
      | (show ckDraw _; rfl)
      | skip
    refine endX [] ?_
    simp only [hu, hb, zeroA, ulkV_nil, ulkN_nil, FH.conQ, unlockF, FR.Acc.cs, Frs.cs, beq_self_eq_true, envZK, con0, conS, strsOf_arr, rowS_arr, strsOf_cells, rowS_cells, toS, strL_st, strL_d, strL_enc, strL_up, hpN_nil, hpN_cons, zf2, unlockC, rightFreshC, wrapC, keepC, zPublic, FK.publicC, retQx, go_sem, reduceCtorEq, ↓reduceIte, Nat.reduceAdd, Nat.reduceMul, Nat.reduceSub, Nat.reduceEqDiff, Nat.reduceLT, Nat.reduceBEq, Nat.reduceBNe, Nat.reduceLeDiff, Int.reduceLE, Int.reduceLT, Int.reduceToNat, Int.reduceEq, Int.reduceAdd, UInt8.reduceToNat, UInt32.reduceToNat, UInt64.reduceToNat, UInt8.reduceOfNat, UInt32.reduceOfNat, UInt64.reduceOfNat, Fin.isValue, Int.reduceSub, Int.reduceMul, Int.reduceNeg, Int.reduceMod, Int.reduceDiv, Int.reduceTDiv, Int.reduceTMod, Int.reduceBEq, Int.reduceBNe, Nat.reduceDiv, Nat.reducePow]
    all_goals first
      | trivial
      | rfl
      | trace_state
  · have hok := FR.right_spec hr
    cases c2 : frB f with
    | false =>
      have hv : rotV a pw f = .tup [.agg zeroA.cs, .one (.num 1)] := by unfold rotV; rw [hu]; exact if_neg fun h => by rw [c2] at h; cases h.1
      rw [hv]
      obtain ⟨u, s, r, e, p, n, w, o⟩ := a
      obtain ⟨fs, fn, fp, fr⟩ := f
      simp only at h1
      refine tri_ofx (envZK_ok zf2_ok 57 []) Tryd.func18 rfl rfl (rs := [.cell 6 37, .tmp 7]) rfl rfl (by simp [envZK]) rfl ?_
      simp only [hu, c2, zeroA, List.length_cons, List.length_nil, ulkV_one, ulkN_one, FH.conQ, unlockF, envZK, con0, conS, strsOf_arr, rowS_arr, strsOf_cells, rowS_cells, toS, strL_st, strL_d, strL_enc, strL_up, hpN_nil, hpN_cons, zf2, unlockC, rightFreshC, wrapC, keepC, zPublic, FK.publicC, FR.Acc.cs, Frs.cs, beq_self_eq_true, retQx, go_sem, reduceCtorEq, ↓reduceIte, Nat.reduceAdd, Nat.reduceMul, Nat.reduceSub, Nat.reduceEqDiff, Nat.reduceLT, Nat.reduceBEq, Nat.reduceBNe, Nat.reduceLeDiff, Int.reduceLE, Int.reduceLT, Int.reduceToNat, Int.reduceEq, Int.reduceAdd, UInt8.reduceToNat, UInt32.reduceToNat, UInt64.reduceToNat, UInt8.reduceOfNat, UInt32.reduceOfNat, UInt64.reduceOfNat, Fin.isValue, Int.reduceSub, Int.reduceMul, Int.reduceNeg, Int.reduceMod, Int.reduceDiv, Int.reduceTDiv, Int.reduceTMod, Int.reduceBEq, Int.reduceBNe, Nat.reduceDiv, Nat.reducePow]
      repeat' apply And.intro
      all_goals first
        | omega
        | (show ckDraw _; rfl)
        | skip
      refine endX [] ?_
      simp only [hu, c2, zeroA, List.length_cons, List.length_nil, ulkV_one, ulkN_one, FH.conQ, unlockF, FR.Acc.cs, Frs.cs, beq_self_eq_true, envZK, con0, conS, strsOf_arr, rowS_arr, strsOf_cells, rowS_cells, toS, strL_st, strL_d, strL_enc, strL_up, hpN_nil, hpN_cons, zf2, unlockC, rightFreshC, wrapC, keepC, zPublic, FK.publicC, retQx, go_sem, reduceCtorEq, ↓reduceIte, Nat.reduceAdd, Nat.reduceMul, Nat.reduceSub, Nat.reduceEqDiff, Nat.reduceLT, Nat.reduceBEq, Nat.reduceBNe, Nat.reduceLeDiff, Int.reduceLE, Int.reduceLT, Int.reduceToNat, Int.reduceEq, Int.reduceAdd, UInt8.reduceToNat, UInt32.reduceToNat, UInt64.reduceToNat, UInt8.reduceOfNat, UInt32.reduceOfNat, UInt64.reduceOfNat, Fin.isValue, Int.reduceSub, Int.reduceMul, Int.reduceNeg, Int.reduceMod, Int.reduceDiv, Int.reduceTDiv, Int.reduceTMod, Int.reduceBEq, Int.reduceBNe, Nat.reduceDiv, Nat.reducePow]
      all_goals first
        | trivial
        | rfl
        | trace_state
    | true =>
      cases c3 : ((f.p.length : Int) == 32) with
      | false =>
        have hv : rotV a pw f = .tup [.agg zeroA.cs, .one (.num 1)] := by unfold rotV; rw [hu]; exact if_neg fun h => by rw [h.2] at c3; cases c3
        rw [hv]
        obtain ⟨u, s, r, e, p, n, w, o⟩ := a
        obtain ⟨fs, fn, fp, fr⟩ := f
        simp only at h1 c3
        refine tri_ofx (envZK_ok zf2_ok 57 []) Tryd.func18 rfl rfl (rs := [.cell 6 37, .tmp 7]) rfl rfl (by simp [envZK]) rfl ?_
        simp only [hu, c2, c3, zeroA, List.length_cons, List.length_nil, ulkV_one, ulkN_one, FH.conQ, unlockF, envZK, con0, conS, strsOf_arr, rowS_arr, strsOf_cells, rowS_cells, toS, strL_st, strL_d, strL_enc, strL_up, hpN_nil, hpN_cons, zf2, unlockC, rightFreshC, wrapC, keepC, zPublic, FK.publicC, FR.Acc.cs, Frs.cs, beq_self_eq_true, retQx, go_sem, reduceCtorEq, ↓reduceIte, Nat.reduceAdd, Nat.reduceMul, Nat.reduceSub, Nat.reduceEqDiff, Nat.reduceLT, Nat.reduceBEq, Nat.reduceBNe, Nat.reduceLeDiff, Int.reduceLE, Int.reduceLT, Int.reduceToNat, Int.reduceEq, Int.reduceAdd, UInt8.reduceToNat, UInt32.reduceToNat, UInt64.reduceToNat, UInt8.reduceOfNat, UInt32.reduceOfNat, UInt64.reduceOfNat, Fin.isValue, Int.reduceSub, Int.reduceMul, Int.reduceNeg, Int.reduceMod, Int.reduceDiv, Int.reduceTDiv, Int.reduceTMod, Int.reduceBEq, Int.reduceBNe, Nat.reduceDiv, Nat.reducePow]
        repeat' apply And.intro
        all_goals first
          | omega
          | (show ckDraw _; rfl)
          | skip
        refine endX [] ?_
        simp only [hu, c2, c3, zeroA, List.length_cons, List.length_nil, ulkV_one, ulkN_one, FH.conQ, unlockF, FR.Acc.cs, Frs.cs, beq_self_eq_true, envZK, con0, conS, strsOf_arr, rowS_arr, strsOf_cells, rowS_cells, toS, strL_st, strL_d, strL_enc, strL_up, hpN_nil, hpN_cons, zf2, unlockC, rightFreshC, wrapC, keepC, zPublic, FK.publicC, retQx, go_sem, reduceCtorEq, ↓reduceIte, Nat.reduceAdd, Nat.reduceMul, Nat.reduceSub, Nat.reduceEqDiff, Nat.reduceLT, Nat.reduceBEq, Nat.reduceBNe, Nat.reduceLeDiff, Int.reduceLE, Int.reduceLT, Int.reduceToNat, Int.reduceEq, Int.reduceAdd, UInt8.reduceToNat, UInt32.reduceToNat, UInt64.reduceToNat, UInt8.reduceOfNat, UInt32.reduceOfNat, UInt64.reduceOfNat, Fin.isValue, Int.reduceSub, Int.reduceMul, Int.reduceNeg, Int.reduceMod, Int.reduceDiv, Int.reduceTDiv, Int.reduceTMod, Int.reduceBEq, Int.reduceBNe, Nat.reduceDiv, Nat.reducePow]
        all_goals first
          | trivial
          | rfl
          | trace_state
      | true =>
        have c3' : f.p.length = 32 := by have := eq_of_beq c3; omega
        have hv : rotV a pw f = .tup [.agg (keepA (wrapA (rotA a f) f.p pw f) f.p p0).cs, .one (.num 0)] := by unfold rotV; rw [hu]; exact if_pos ⟨c2, c3'⟩
        have hq : FK.pointV f.p FK.base9 = .tup [.one (.str (FK.pointS f.p FK.base9)), .one (.bo true)] := if_pos ⟨c3', rfl⟩
        have p2 := FK.pointS_len f.p FK.base9
        have fo := (frB_ok c2).n
        have k4 : IntKind.i64.wrap (1 - a.e) = 1 - a.e := by rw [IntKind.wrap_i64]; rcases hok.e with h | h <;> omega
        rw [hv]
        obtain ⟨u, s, r, e, p, n, w, o⟩ := a
        obtain ⟨fs, fn, fp, fr⟩ := f
        simp only at h1 c3 c3' hq p2 fo k4
        refine tri_ofx (envZK_ok zf2_ok 57 []) Tryd.func18 rfl rfl (rs := [.cell 6 37, .tmp 7]) rfl rfl (by simp [envZK]) rfl ?_
        simp only [hu, c2, c3, c3', hq, p2, fo, k4, hp0, wrapA, rotA, FK.publicC, List.length_cons, List.length_nil, ulkV_one, ulkN_one, FH.conQ, unlockF, envZK, con0, conS, strsOf_arr, rowS_arr, strsOf_cells, rowS_cells, toS, strL_st, strL_d, strL_enc, strL_up, hpN_nil, hpN_cons, zf2, unlockC, rightFreshC, wrapC, keepC, zPublic, FK.publicC, FR.Acc.cs, Frs.cs, beq_self_eq_true, retQx, go_sem, reduceCtorEq, ↓reduceIte, Nat.reduceAdd, Nat.reduceMul, Nat.reduceSub, Nat.reduceEqDiff, Nat.reduceLT, Nat.reduceBEq, Nat.reduceBNe, Nat.reduceLeDiff, Int.reduceLE, Int.reduceLT, Int.reduceToNat, Int.reduceEq, Int.reduceAdd, UInt8.reduceToNat, UInt32.reduceToNat, UInt64.reduceToNat, UInt8.reduceOfNat, UInt32.reduceOfNat, UInt64.reduceOfNat, Fin.isValue, Int.reduceSub, Int.reduceMul, Int.reduceNeg, Int.reduceMod, Int.reduceDiv, Int.reduceTDiv, Int.reduceTMod, Int.reduceBEq, Int.reduceBNe, Nat.reduceDiv, Nat.reducePow]
        repeat' apply And.intro
        all_goals first
          | omega
          | (show ckDraw _; rfl)
          | skip
        refine endX [] ?_
        simp only [hu, c2, c3, c3', hq, p2, fo, k4, hp0, wrapA, rotA, FK.publicC, List.length_cons, List.length_nil, ulkV_one, ulkN_one, FH.conQ, unlockF, FR.Acc.cs, Frs.cs, beq_self_eq_true, envZK, con0, conS, strsOf_arr, rowS_arr, strsOf_cells, rowS_cells, toS, strL_st, strL_d, strL_enc, strL_up, hpN_nil, hpN_cons, zf2, unlockC, rightFreshC, wrapC, keepC, zPublic, FK.publicC, retQx, go_sem, reduceCtorEq, ↓reduceIte, Nat.reduceAdd, Nat.reduceMul, Nat.reduceSub, Nat.reduceEqDiff, Nat.reduceLT, Nat.reduceBEq, Nat.reduceBNe, Nat.reduceLeDiff, Int.reduceLE, Int.reduceLT, Int.reduceToNat, Int.reduceEq, Int.reduceAdd, UInt8.reduceToNat, UInt32.reduceToNat, UInt64.reduceToNat, UInt8.reduceOfNat, UInt32.reduceOfNat, UInt64.reduceOfNat, Fin.isValue, Int.reduceSub, Int.reduceMul, Int.reduceNeg, Int.reduceMod, Int.reduceDiv, Int.reduceTDiv, Int.reduceTMod, Int.reduceBEq, Int.reduceBNe, Nat.reduceDiv, Nat.reducePow]
        all_goals first
          | trivial
          | rfl
          | trace_state
  · have hv : rotV a pw f = .tup [.agg zeroA.cs, .one (.num 8)] := by unfold rotV; rw [hu]
    rw [hv]
    obtain ⟨u, s, r, e, p, n, w, o⟩ := a
    obtain ⟨fs, fn, fp, fr⟩ := f
    simp only at h1
    refine tri_ofx (envZK_ok zf2_ok 57 []) Tryd.func18 rfl rfl (rs := [.cell 6 37, .tmp 7]) rfl rfl (by simp [envZK]) rfl ?_
    simp only [hu, zeroA, List.length_cons, List.length_nil, ulkV_two, ulkN_two, FH.conQ, unlockF, envZK, con0, conS, strsOf_arr, rowS_arr, strsOf_cells, rowS_cells, toS, strL_st, strL_d, strL_enc, strL_up, hpN_nil, hpN_cons, zf2, unlockC, rightFreshC, wrapC, keepC, zPublic, FK.publicC, FR.Acc.cs, Frs.cs, beq_self_eq_true, retQx, go_sem, reduceCtorEq, ↓reduceIte, Nat.reduceAdd, Nat.reduceMul, Nat.reduceSub, Nat.reduceEqDiff, Nat.reduceLT, Nat.reduceBEq, Nat.reduceBNe, Nat.reduceLeDiff, Int.reduceLE, Int.reduceLT, Int.reduceToNat, Int.reduceEq, Int.reduceAdd, UInt8.reduceToNat, UInt32.reduceToNat, UInt64.reduceToNat, UInt8.reduceOfNat, UInt32.reduceOfNat, UInt64.reduceOfNat, Fin.isValue, Int.reduceSub, Int.reduceMul, Int.reduceNeg, Int.reduceMod, Int.reduceDiv, Int.reduceTDiv, Int.reduceTMod, Int.reduceBEq, Int.reduceBNe, Nat.reduceDiv, Nat.reducePow]
    repeat' apply And.intro
    all_goals first
      | omega
      | (show ckDraw _; rfl)
      | skip
    refine endX [] ?_
    simp only [hu, zeroA, List.length_cons, List.length_nil, ulkV_two, ulkN_two, FH.conQ, unlockF, FR.Acc.cs, Frs.cs, beq_self_eq_true, envZK, con0, conS, strsOf_arr, rowS_arr, strsOf_cells, rowS_cells, toS, strL_st, strL_d, strL_enc, strL_up, hpN_nil, hpN_cons, zf2, unlockC, rightFreshC, wrapC, keepC, zPublic, FK.publicC, retQx, go_sem, reduceCtorEq, ↓reduceIte, Nat.reduceAdd, Nat.reduceMul, Nat.reduceSub, Nat.reduceEqDiff, Nat.reduceLT, Nat.reduceBEq, Nat.reduceBNe, Nat.reduceLeDiff, Int.reduceLE, Int.reduceLT, Int.reduceToNat, Int.reduceEq, Int.reduceAdd, UInt8.reduceToNat, UInt32.reduceToNat, UInt64.reduceToNat, UInt8.reduceOfNat, UInt32.reduceOfNat, UInt64.reduceOfNat, Fin.isValue, Int.reduceSub, Int.reduceMul, Int.reduceNeg, Int.reduceMod, Int.reduceDiv, Int.reduceTDiv, Int.reduceTMod, Int.reduceBEq, Int.reduceBNe, Nat.reduceDiv, Nat.reducePow]
    all_goals first
      | trivial
      | rfl
      | trace_state
def rotateC : Con := con0 fun args => match args with
  | [.agg [.str u, .str s, .num r, .num e, .str p, .str n, .str w, .str o], .one (.str pw), .agg [.str fs, .str fn, .str fp, .num fr]] => some (rotV ⟨u, s, r, e, p, n, w, o⟩ pw ⟨fs, fn, fp, fr⟩, [u.length ≤ 1000, pw.length ≤ 1000])
  | _ => none
theorem rotateC_ok : ConOkG Tryd.prog GZ 18 rotateC := con0_okG Tryd.func18 rfl rfl fun args res ob h hob => by
  split at h
  · injection h with h; injection h with h1 h2; subst h1; subst h2; exact rotate_tri ⟨_, _, _, _, _, _, _, _⟩ _ ⟨_, _, _, _⟩ hob.1 hob.2.1
  · cases h
def shortF (f : Frs) : Bool := decide ((f.s.length : Int) ≤ 100) && decide ((f.n.length : Int) ≤ 100) && decide ((f.p.length : Int) ≤ 100)
def shortAF (a : FR.Acc) (f : Frs) : Bool := FR.shortB a && shortF f
def ze0 : Nat → Option Con := fun f => match f with
  | _ => none
theorem ze0_ok : GaOkG Tryd.prog GZ ze0 := fun f con h => by
  unfold ze0 at h
  split at h
  · cases h
set_option maxRecDepth 100000 in
theorem short_tri (a : FR.Acc) (f : Frs) : TriG Tryd.prog GZ 12 [.agg a.cs, .agg f.cs] [] (.c (.one (.bo (shortAF a f)))) [] := by
  obtain ⟨u, s, r, e, p, n, w, o⟩ := a
  obtain ⟨fs, fn, fp, fr⟩ := f
  refine tri_ofx (envZK_ok ze0_ok 57 []) Tryd.func12 rfl rfl (rs := [.tmp 4]) rfl rfl (by simp [envZK]) rfl ?_
  cases h1 : decide ((u.length : Int) ≤ 300) with
  | false =>
    have hv : shortAF ⟨u, s, r, e, p, n, w, o⟩ ⟨fs, fn, fp, fr⟩ = false := by unfold shortAF FR.shortB shortF; simp only [h1, Bool.true_and, Bool.and_true, Bool.false_and, Bool.and_false]
    simp only [h1, hv, envZK, con0, conS, strsOf_arr, rowS_arr, strsOf_cells, rowS_cells, toS, strL_st, strL_d, strL_enc, strL_up, hpN_nil, hpN_cons, ze0, FR.Acc.cs, Frs.cs, beq_self_eq_true, retQx, go_sem, reduceCtorEq, ↓reduceIte, Nat.reduceAdd, Nat.reduceMul, Nat.reduceSub, Nat.reduceEqDiff, Nat.reduceLT, Nat.reduceBEq, Nat.reduceBNe, Nat.reduceLeDiff, Int.reduceLE, Int.reduceLT, Int.reduceToNat, Int.reduceEq, Int.reduceAdd, UInt8.reduceToNat, UInt32.reduceToNat, UInt64.reduceToNat, UInt8.reduceOfNat, UInt32.reduceOfNat, UInt64.reduceOfNat, Fin.isValue, Int.reduceSub, Int.reduceMul, Int.reduceNeg, Int.reduceMod, Int.reduceDiv, Int.reduceTDiv, Int.reduceTMod, Int.reduceBEq, Int.reduceBNe, Nat.reduceDiv, Nat.reducePow]
    repeat' apply And.intro
    all_goals first
      | omega
      | (show ckDraw _; rfl)
      | skip
    refine endX [] ?_
    simp only [h1, hv, FR.Acc.cs, Frs.cs, beq_self_eq_true, envZK, con0, conS, strsOf_arr, rowS_arr, strsOf_cells, rowS_cells, toS, strL_st, strL_d, strL_enc, strL_up, hpN_nil, hpN_cons, ze0, retQx, go_sem, reduceCtorEq, ↓reduceIte, Nat.reduceAdd, Nat.reduceMul, Nat.reduceSub, Nat.reduceEqDiff, Nat.reduceLT, Nat.reduceBEq, Nat.reduceBNe, Nat.reduceLeDiff, Int.reduceLE, Int.reduceLT, Int.reduceToNat, Int.reduceEq, Int.reduceAdd, UInt8.reduceToNat, UInt32.reduceToNat, UInt64.reduceToNat, UInt8.reduceOfNat, UInt32.reduceOfNat, UInt64.reduceOfNat, Fin.isValue, Int.reduceSub, Int.reduceMul, Int.reduceNeg, Int.reduceMod, Int.reduceDiv, Int.reduceTDiv, Int.reduceTMod, Int.reduceBEq, Int.reduceBNe, Nat.reduceDiv, Nat.reducePow]
    all_goals first
      | trivial
      | rfl
      | trace_state
  | true =>
    cases h2 : decide ((s.length : Int) ≤ 100) with
    | false =>
      have hv : shortAF ⟨u, s, r, e, p, n, w, o⟩ ⟨fs, fn, fp, fr⟩ = false := by unfold shortAF FR.shortB shortF; simp only [h1, h2, Bool.true_and, Bool.and_true, Bool.false_and, Bool.and_false]
      simp only [h1, h2, hv, envZK, con0, conS, strsOf_arr, rowS_arr, strsOf_cells, rowS_cells, toS, strL_st, strL_d, strL_enc, strL_up, hpN_nil, hpN_cons, ze0, FR.Acc.cs, Frs.cs, beq_self_eq_true, retQx, go_sem, reduceCtorEq, ↓reduceIte, Nat.reduceAdd, Nat.reduceMul, Nat.reduceSub, Nat.reduceEqDiff, Nat.reduceLT, Nat.reduceBEq, Nat.reduceBNe, Nat.reduceLeDiff, Int.reduceLE, Int.reduceLT, Int.reduceToNat, Int.reduceEq, Int.reduceAdd, UInt8.reduceToNat, UInt32.reduceToNat, UInt64.reduceToNat, UInt8.reduceOfNat, UInt32.reduceOfNat, UInt64.reduceOfNat, Fin.isValue, Int.reduceSub, Int.reduceMul, Int.reduceNeg, Int.reduceMod, Int.reduceDiv, Int.reduceTDiv, Int.reduceTMod, Int.reduceBEq, Int.reduceBNe, Nat.reduceDiv, Nat.reducePow]
      repeat' apply And.intro
      all_goals first
        | omega
        | (show ckDraw _; rfl)
        | skip
      refine endX [] ?_
      simp only [h1, h2, hv, FR.Acc.cs, Frs.cs, beq_self_eq_true, envZK, con0, conS, strsOf_arr, rowS_arr, strsOf_cells, rowS_cells, toS, strL_st, strL_d, strL_enc, strL_up, hpN_nil, hpN_cons, ze0, retQx, go_sem, reduceCtorEq, ↓reduceIte, Nat.reduceAdd, Nat.reduceMul, Nat.reduceSub, Nat.reduceEqDiff, Nat.reduceLT, Nat.reduceBEq, Nat.reduceBNe, Nat.reduceLeDiff, Int.reduceLE, Int.reduceLT, Int.reduceToNat, Int.reduceEq, Int.reduceAdd, UInt8.reduceToNat, UInt32.reduceToNat, UInt64.reduceToNat, UInt8.reduceOfNat, UInt32.reduceOfNat, UInt64.reduceOfNat, Fin.isValue, Int.reduceSub, Int.reduceMul, Int.reduceNeg, Int.reduceMod, Int.reduceDiv, Int.reduceTDiv, Int.reduceTMod, Int.reduceBEq, Int.reduceBNe, Nat.reduceDiv, Nat.reducePow]
      all_goals first
        | trivial
        | rfl
        | trace_state
    | true =>
      cases h3 : decide ((p.length : Int) ≤ 100) with
      | false =>
        have hv : shortAF ⟨u, s, r, e, p, n, w, o⟩ ⟨fs, fn, fp, fr⟩ = false := by unfold shortAF FR.shortB shortF; simp only [h1, h2, h3, Bool.true_and, Bool.and_true, Bool.false_and, Bool.and_false]
        simp only [h1, h2, h3, hv, envZK, con0, conS, strsOf_arr, rowS_arr, strsOf_cells, rowS_cells, toS, strL_st, strL_d, strL_enc, strL_up, hpN_nil, hpN_cons, ze0, FR.Acc.cs, Frs.cs, beq_self_eq_true, retQx, go_sem, reduceCtorEq, ↓reduceIte, Nat.reduceAdd, Nat.reduceMul, Nat.reduceSub, Nat.reduceEqDiff, Nat.reduceLT, Nat.reduceBEq, Nat.reduceBNe, Nat.reduceLeDiff, Int.reduceLE, Int.reduceLT, Int.reduceToNat, Int.reduceEq, Int.reduceAdd, UInt8.reduceToNat, UInt32.reduceToNat, UInt64.reduceToNat, UInt8.reduceOfNat, UInt32.reduceOfNat, UInt64.reduceOfNat, Fin.isValue, Int.reduceSub, Int.reduceMul, Int.reduceNeg, Int.reduceMod, Int.reduceDiv, Int.reduceTDiv, Int.reduceTMod, Int.reduceBEq, Int.reduceBNe, Nat.reduceDiv, Nat.reducePow]
        repeat' apply And.intro
        all_goals first
          | omega
          | (show ckDraw _; rfl)
          | skip
        refine endX [] ?_
        simp only [h1, h2, h3, hv, FR.Acc.cs, Frs.cs, beq_self_eq_true, envZK, con0, conS, strsOf_arr, rowS_arr, strsOf_cells, rowS_cells, toS, strL_st, strL_d, strL_enc, strL_up, hpN_nil, hpN_cons, ze0, retQx, go_sem, reduceCtorEq, ↓reduceIte, Nat.reduceAdd, Nat.reduceMul, Nat.reduceSub, Nat.reduceEqDiff, Nat.reduceLT, Nat.reduceBEq, Nat.reduceBNe, Nat.reduceLeDiff, Int.reduceLE, Int.reduceLT, Int.reduceToNat, Int.reduceEq, Int.reduceAdd, UInt8.reduceToNat, UInt32.reduceToNat, UInt64.reduceToNat, UInt8.reduceOfNat, UInt32.reduceOfNat, UInt64.reduceOfNat, Fin.isValue, Int.reduceSub, Int.reduceMul, Int.reduceNeg, Int.reduceMod, Int.reduceDiv, Int.reduceTDiv, Int.reduceTMod, Int.reduceBEq, Int.reduceBNe, Nat.reduceDiv, Nat.reducePow]
        all_goals first
          | trivial
          | rfl
          | trace_state
      | true =>
        cases h4 : decide ((n.length : Int) ≤ 100) with
        | false =>
          have hv : shortAF ⟨u, s, r, e, p, n, w, o⟩ ⟨fs, fn, fp, fr⟩ = false := by unfold shortAF FR.shortB shortF; simp only [h1, h2, h3, h4, Bool.true_and, Bool.and_true, Bool.false_and, Bool.and_false]
          simp only [h1, h2, h3, h4, hv, envZK, con0, conS, strsOf_arr, rowS_arr, strsOf_cells, rowS_cells, toS, strL_st, strL_d, strL_enc, strL_up, hpN_nil, hpN_cons, ze0, FR.Acc.cs, Frs.cs, beq_self_eq_true, retQx, go_sem, reduceCtorEq, ↓reduceIte, Nat.reduceAdd, Nat.reduceMul, Nat.reduceSub, Nat.reduceEqDiff, Nat.reduceLT, Nat.reduceBEq, Nat.reduceBNe, Nat.reduceLeDiff, Int.reduceLE, Int.reduceLT, Int.reduceToNat, Int.reduceEq, Int.reduceAdd, UInt8.reduceToNat, UInt32.reduceToNat, UInt64.reduceToNat, UInt8.reduceOfNat, UInt32.reduceOfNat, UInt64.reduceOfNat, Fin.isValue, Int.reduceSub, Int.reduceMul, Int.reduceNeg, Int.reduceMod, Int.reduceDiv, Int.reduceTDiv, Int.reduceTMod, Int.reduceBEq, Int.reduceBNe, Nat.reduceDiv, Nat.reducePow]
          repeat' apply And.intro
          all_goals first
            | omega
            | (show ckDraw _; rfl)
            | skip
          refine endX [] ?_
          simp only [h1, h2, h3, h4, hv, FR.Acc.cs, Frs.cs, beq_self_eq_true, envZK, con0, conS, strsOf_arr, rowS_arr, strsOf_cells, rowS_cells, toS, strL_st, strL_d, strL_enc, strL_up, hpN_nil, hpN_cons, ze0, retQx, go_sem, reduceCtorEq, ↓reduceIte, Nat.reduceAdd, Nat.reduceMul, Nat.reduceSub, Nat.reduceEqDiff, Nat.reduceLT, Nat.reduceBEq, Nat.reduceBNe, Nat.reduceLeDiff, Int.reduceLE, Int.reduceLT, Int.reduceToNat, Int.reduceEq, Int.reduceAdd, UInt8.reduceToNat, UInt32.reduceToNat, UInt64.reduceToNat, UInt8.reduceOfNat, UInt32.reduceOfNat, UInt64.reduceOfNat, Fin.isValue, Int.reduceSub, Int.reduceMul, Int.reduceNeg, Int.reduceMod, Int.reduceDiv, Int.reduceTDiv, Int.reduceTMod, Int.reduceBEq, Int.reduceBNe, Nat.reduceDiv, Nat.reducePow]
          all_goals first
            | trivial
            | rfl
            | trace_state
        | true =>
          cases h5 : decide ((w.length : Int) ≤ 100) with
          | false =>
            have hv : shortAF ⟨u, s, r, e, p, n, w, o⟩ ⟨fs, fn, fp, fr⟩ = false := by unfold shortAF FR.shortB shortF; simp only [h1, h2, h3, h4, h5, Bool.true_and, Bool.and_true, Bool.false_and, Bool.and_false]
            simp only [h1, h2, h3, h4, h5, hv, envZK, con0, conS, strsOf_arr, rowS_arr, strsOf_cells, rowS_cells, toS, strL_st, strL_d, strL_enc, strL_up, hpN_nil, hpN_cons, ze0, FR.Acc.cs, Frs.cs, beq_self_eq_true, retQx, go_sem, reduceCtorEq, ↓reduceIte, Nat.reduceAdd, Nat.reduceMul, Nat.reduceSub, Nat.reduceEqDiff, Nat.reduceLT, Nat.reduceBEq, Nat.reduceBNe, Nat.reduceLeDiff, Int.reduceLE, Int.reduceLT, Int.reduceToNat, Int.reduceEq, Int.reduceAdd, UInt8.reduceToNat, UInt32.reduceToNat, UInt64.reduceToNat, UInt8.reduceOfNat, UInt32.reduceOfNat, UInt64.reduceOfNat, Fin.isValue, Int.reduceSub, Int.reduceMul, Int.reduceNeg, Int.reduceMod, Int.reduceDiv, Int.reduceTDiv, Int.reduceTMod, Int.reduceBEq, Int.reduceBNe, Nat.reduceDiv, Nat.reducePow]
            repeat' apply And.intro
            all_goals first
              | omega
              | (show ckDraw _; rfl)
              | skip
            refine endX [] ?_
            simp only [h1, h2, h3, h4, h5, hv, FR.Acc.cs, Frs.cs, beq_self_eq_true, envZK, con0, conS, strsOf_arr, rowS_arr, strsOf_cells, rowS_cells, toS, strL_st, strL_d, strL_enc, strL_up, hpN_nil, hpN_cons, ze0, retQx, go_sem, reduceCtorEq, ↓reduceIte, Nat.reduceAdd, Nat.reduceMul, Nat.reduceSub, Nat.reduceEqDiff, Nat.reduceLT, Nat.reduceBEq, Nat.reduceBNe, Nat.reduceLeDiff, Int.reduceLE, Int.reduceLT, Int.reduceToNat, Int.reduceEq, Int.reduceAdd, UInt8.reduceToNat, UInt32.reduceToNat, UInt64.reduceToNat, UInt8.reduceOfNat, UInt32.reduceOfNat, UInt64.reduceOfNat, Fin.isValue, Int.reduceSub, Int.reduceMul, Int.reduceNeg, Int.reduceMod, Int.reduceDiv, Int.reduceTDiv, Int.reduceTMod, Int.reduceBEq, Int.reduceBNe, Nat.reduceDiv, Nat.reducePow]
            all_goals first
              | trivial
              | rfl
              | trace_state
          | true =>
            cases h6 : decide ((o.length : Int) ≤ 400) with
            | false =>
              have hv : shortAF ⟨u, s, r, e, p, n, w, o⟩ ⟨fs, fn, fp, fr⟩ = false := by unfold shortAF FR.shortB shortF; simp only [h1, h2, h3, h4, h5, h6, Bool.true_and, Bool.and_true, Bool.false_and, Bool.and_false]
              simp only [h1, h2, h3, h4, h5, h6, hv, envZK, con0, conS, strsOf_arr, rowS_arr, strsOf_cells, rowS_cells, toS, strL_st, strL_d, strL_enc, strL_up, hpN_nil, hpN_cons, ze0, FR.Acc.cs, Frs.cs, beq_self_eq_true, retQx, go_sem, reduceCtorEq, ↓reduceIte, Nat.reduceAdd, Nat.reduceMul, Nat.reduceSub, Nat.reduceEqDiff, Nat.reduceLT, Nat.reduceBEq, Nat.reduceBNe, Nat.reduceLeDiff, Int.reduceLE, Int.reduceLT, Int.reduceToNat, Int.reduceEq, Int.reduceAdd, UInt8.reduceToNat, UInt32.reduceToNat, UInt64.reduceToNat, UInt8.reduceOfNat, UInt32.reduceOfNat, UInt64.reduceOfNat, Fin.isValue, Int.reduceSub, Int.reduceMul, Int.reduceNeg, Int.reduceMod, Int.reduceDiv, Int.reduceTDiv, Int.reduceTMod, Int.reduceBEq, Int.reduceBNe, Nat.reduceDiv, Nat.reducePow]
              repeat' apply And.intro
              all_goals first
                | omega
                | (show ckDraw _; rfl)
                | skip
              refine endX [] ?_
              simp only [h1, h2, h3, h4, h5, h6, hv, FR.Acc.cs, Frs.cs, beq_self_eq_true, envZK, con0, conS, strsOf_arr, rowS_arr, strsOf_cells, rowS_cells, toS, strL_st, strL_d, strL_enc, strL_up, hpN_nil, hpN_cons, ze0, retQx, go_sem, reduceCtorEq, ↓reduceIte, Nat.reduceAdd, Nat.reduceMul, Nat.reduceSub, Nat.reduceEqDiff, Nat.reduceLT, Nat.reduceBEq, Nat.reduceBNe, Nat.reduceLeDiff, Int.reduceLE, Int.reduceLT, Int.reduceToNat, Int.reduceEq, Int.reduceAdd, UInt8.reduceToNat, UInt32.reduceToNat, UInt64.reduceToNat, UInt8.reduceOfNat, UInt32.reduceOfNat, UInt64.reduceOfNat, Fin.isValue, Int.reduceSub, Int.reduceMul, Int.reduceNeg, Int.reduceMod, Int.reduceDiv, Int.reduceTDiv, Int.reduceTMod, Int.reduceBEq, Int.reduceBNe, Nat.reduceDiv, Nat.reducePow]
              all_goals first
                | trivial
                | rfl
                | trace_state
            | true =>
              cases h7 : decide ((fs.length : Int) ≤ 100) with
              | false =>
                have hv : shortAF ⟨u, s, r, e, p, n, w, o⟩ ⟨fs, fn, fp, fr⟩ = false := by unfold shortAF FR.shortB shortF; simp only [h1, h2, h3, h4, h5, h6, h7, Bool.true_and, Bool.and_true, Bool.false_and, Bool.and_false]
                simp only [h1, h2, h3, h4, h5, h6, h7, hv, envZK, con0, conS, strsOf_arr, rowS_arr, strsOf_cells, rowS_cells, toS, strL_st, strL_d, strL_enc, strL_up, hpN_nil, hpN_cons, ze0, FR.Acc.cs, Frs.cs, beq_self_eq_true, retQx, go_sem, reduceCtorEq, ↓reduceIte, Nat.reduceAdd, Nat.reduceMul, Nat.reduceSub, Nat.reduceEqDiff, Nat.reduceLT, Nat.reduceBEq, Nat.reduceBNe, Nat.reduceLeDiff, Int.reduceLE, Int.reduceLT, Int.reduceToNat, Int.reduceEq, Int.reduceAdd, UInt8.reduceToNat, UInt32.reduceToNat, UInt64.reduceToNat, UInt8.reduceOfNat, UInt32.reduceOfNat, UInt64.reduceOfNat, Fin.isValue, Int.reduceSub, Int.reduceMul, Int.reduceNeg, Int.reduceMod, Int.reduceDiv, Int.reduceTDiv, Int.reduceTMod, Int.reduceBEq, Int.reduceBNe, Nat.reduceDiv, Nat.reducePow]
                repeat' apply And.intro
                all_goals first
                  | omega
                  | (show ckDraw _; rfl)
                  | skip
                refine endX [] ?_
                simp only [h1, h2, h3, h4, h5, h6, h7, hv, FR.Acc.cs, Frs.cs, beq_self_eq_true, envZK, con0, conS, strsOf_arr, rowS_arr, strsOf_cells, rowS_cells, toS, strL_st, strL_d, strL_enc, strL_up, hpN_nil, hpN_cons, ze0, retQx, go_sem, reduceCtorEq, ↓reduceIte, Nat.reduceAdd, Nat.reduceMul, Nat.reduceSub, Nat.reduceEqDiff, Nat.reduceLT, Nat.reduceBEq, Nat.reduceBNe, Nat.reduceLeDiff, Int.reduceLE, Int.reduceLT, Int.reduceToNat, Int.reduceEq, Int.reduceAdd, UInt8.reduceToNat, UInt32.reduceToNat, UInt64.reduceToNat, UInt8.reduceOfNat, UInt32.reduceOfNat, UInt64.reduceOfNat, Fin.isValue, Int.reduceSub, Int.reduceMul, Int.reduceNeg, Int.reduceMod, Int.reduceDiv, Int.reduceTDiv, Int.reduceTMod, Int.reduceBEq, Int.reduceBNe, Nat.reduceDiv, Nat.reducePow]
                all_goals first
                  | trivial
                  | rfl
                  | trace_state
              | true =>
                cases h8 : decide ((fn.length : Int) ≤ 100) with
                | false =>
                  have hv : shortAF ⟨u, s, r, e, p, n, w, o⟩ ⟨fs, fn, fp, fr⟩ = false := by unfold shortAF FR.shortB shortF; simp only [h1, h2, h3, h4, h5, h6, h7, h8, Bool.true_and, Bool.and_true, Bool.false_and, Bool.and_false]
                  simp only [h1, h2, h3, h4, h5, h6, h7, h8, hv, envZK, con0, conS, strsOf_arr, rowS_arr, strsOf_cells, rowS_cells, toS, strL_st, strL_d, strL_enc, strL_up, hpN_nil, hpN_cons, ze0, FR.Acc.cs, Frs.cs, beq_self_eq_true, retQx, go_sem, reduceCtorEq, ↓reduceIte, Nat.reduceAdd, Nat.reduceMul, Nat.reduceSub, Nat.reduceEqDiff, Nat.reduceLT, Nat.reduceBEq, Nat.reduceBNe, Nat.reduceLeDiff, Int.reduceLE, Int.reduceLT, Int.reduceToNat, Int.reduceEq, Int.reduceAdd, UInt8.reduceToNat, UInt32.reduceToNat, UInt64.reduceToNat, UInt8.reduceOfNat, UInt32.reduceOfNat, UInt64.reduceOfNat, Fin.isValue, Int.reduceSub, Int.reduceMul, Int.reduceNeg, Int.reduceMod, Int.reduceDiv, Int.reduceTDiv, Int.reduceTMod, Int.reduceBEq, Int.reduceBNe, Nat.reduceDiv, Nat.reducePow]
                  repeat' apply And.intro
                  all_goals first
                    | omega
                    | (show ckDraw _; rfl)
                    | skip
                  refine endX [] ?_
                  simp only [h1, h2, h3, h4, h5, h6, h7, h8, hv, FR.Acc.cs, Frs.cs, beq_self_eq_true, envZK, con0, conS, strsOf_arr, rowS_arr, strsOf_cells, rowS_cells, toS, strL_st, strL_d, strL_enc, strL_up, hpN_nil, hpN_cons, ze0, retQx, go_sem, reduceCtorEq, ↓reduceIte, Nat.reduceAdd, Nat.reduceMul, Nat.reduceSub, Nat.reduceEqDiff, Nat.reduceLT, Nat.reduceBEq, Nat.reduceBNe, Nat.reduceLeDiff, Int.reduceLE, Int.reduceLT, Int.reduceToNat, Int.reduceEq, Int.reduceAdd, UInt8.reduceToNat, UInt32.reduceToNat, UInt64.reduceToNat, UInt8.reduceOfNat, UInt32.reduceOfNat, UInt64.reduceOfNat, Fin.isValue, Int.reduceSub, Int.reduceMul, Int.reduceNeg, Int.reduceMod, Int.reduceDiv, Int.reduceTDiv, Int.reduceTMod, Int.reduceBEq, Int.reduceBNe, Nat.reduceDiv, Nat.reducePow]
                  all_goals first
                    | trivial
                    | rfl
                    | trace_state
                | true =>
                  cases h9 : decide ((fp.length : Int) ≤ 100) with
                  | false =>
                    have hv : shortAF ⟨u, s, r, e, p, n, w, o⟩ ⟨fs, fn, fp, fr⟩ = false := by unfold shortAF FR.shortB shortF; simp only [h1, h2, h3, h4, h5, h6, h7, h8, h9, Bool.true_and, Bool.and_true, Bool.false_and, Bool.and_false]
                    simp only [h1, h2, h3, h4, h5, h6, h7, h8, h9, hv, envZK, con0, conS, strsOf_arr, rowS_arr, strsOf_cells, rowS_cells, toS, strL_st, strL_d, strL_enc, strL_up, hpN_nil, hpN_cons, ze0, FR.Acc.cs, Frs.cs, beq_self_eq_true, retQx, go_sem, reduceCtorEq, ↓reduceIte, Nat.reduceAdd, Nat.reduceMul, Nat.reduceSub, Nat.reduceEqDiff, Nat.reduceLT, Nat.reduceBEq, Nat.reduceBNe, Nat.reduceLeDiff, Int.reduceLE, Int.reduceLT, Int.reduceToNat, Int.reduceEq, Int.reduceAdd, UInt8.reduceToNat, UInt32.reduceToNat, UInt64.reduceToNat, UInt8.reduceOfNat, UInt32.reduceOfNat, UInt64.reduceOfNat, Fin.isValue, Int.reduceSub, Int.reduceMul, Int.reduceNeg, Int.reduceMod, Int.reduceDiv, Int.reduceTDiv, Int.reduceTMod, Int.reduceBEq, Int.reduceBNe, Nat.reduceDiv, Nat.reducePow]
                    repeat' apply And.intro
                    all_goals first
                      | omega
                      | (show ckDraw _; rfl)
                      | skip
                    refine endX [] ?_
                    simp only [h1, h2, h3, h4, h5, h6, h7, h8, h9, hv, FR.Acc.cs, Frs.cs, beq_self_eq_true, envZK, con0, conS, strsOf_arr, rowS_arr, strsOf_cells, rowS_cells, toS, strL_st, strL_d, strL_enc, strL_up, hpN_nil, hpN_cons, ze0, retQx, go_sem, reduceCtorEq, ↓reduceIte, Nat.reduceAdd, Nat.reduceMul, Nat.reduceSub, Nat.reduceEqDiff, Nat.reduceLT, Nat.reduceBEq, Nat.reduceBNe, Nat.reduceLeDiff, Int.reduceLE, Int.reduceLT, Int.reduceToNat, Int.reduceEq, Int.reduceAdd, UInt8.reduceToNat, UInt32.reduceToNat, UInt64.reduceToNat, UInt8.reduceOfNat, UInt32.reduceOfNat, UInt64.reduceOfNat, Fin.isValue, Int.reduceSub, Int.reduceMul, Int.reduceNeg, Int.reduceMod, Int.reduceDiv, Int.reduceTDiv, Int.reduceTMod, Int.reduceBEq, Int.reduceBNe, Nat.reduceDiv, Nat.reducePow]
                    all_goals first
                      | trivial
                      | rfl
                      | trace_state
                  | true =>
                    have hv : shortAF ⟨u, s, r, e, p, n, w, o⟩ ⟨fs, fn, fp, fr⟩ = true := by unfold shortAF FR.shortB shortF; simp only [h1, h2, h3, h4, h5, h6, h7, h8, h9, Bool.true_and, Bool.and_true, Bool.false_and, Bool.and_false]
                    simp only [h1, h2, h3, h4, h5, h6, h7, h8, h9, hv, envZK, con0, conS, strsOf_arr, rowS_arr, strsOf_cells, rowS_cells, toS, strL_st, strL_d, strL_enc, strL_up, hpN_nil, hpN_cons, ze0, FR.Acc.cs, Frs.cs, beq_self_eq_true, retQx, go_sem, reduceCtorEq, ↓reduceIte, Nat.reduceAdd, Nat.reduceMul, Nat.reduceSub, Nat.reduceEqDiff, Nat.reduceLT, Nat.reduceBEq, Nat.reduceBNe, Nat.reduceLeDiff, Int.reduceLE, Int.reduceLT, Int.reduceToNat, Int.reduceEq, Int.reduceAdd, UInt8.reduceToNat, UInt32.reduceToNat, UInt64.reduceToNat, UInt8.reduceOfNat, UInt32.reduceOfNat, UInt64.reduceOfNat, Fin.isValue, Int.reduceSub, Int.reduceMul, Int.reduceNeg, Int.reduceMod, Int.reduceDiv, Int.reduceTDiv, Int.reduceTMod, Int.reduceBEq, Int.reduceBNe, Nat.reduceDiv, Nat.reducePow]
                    repeat' apply And.intro
                    all_goals first
                      | omega
                      | (show ckDraw _; rfl)
                      | skip
                    refine endX [] ?_
                    simp only [h1, h2, h3, h4, h5, h6, h7, h8, h9, hv, FR.Acc.cs, Frs.cs, beq_self_eq_true, envZK, con0, conS, strsOf_arr, rowS_arr, strsOf_cells, rowS_cells, toS, strL_st, strL_d, strL_enc, strL_up, hpN_nil, hpN_cons, ze0, retQx, go_sem, reduceCtorEq, ↓reduceIte, Nat.reduceAdd, Nat.reduceMul, Nat.reduceSub, Nat.reduceEqDiff, Nat.reduceLT, Nat.reduceBEq, Nat.reduceBNe, Nat.reduceLeDiff, Int.reduceLE, Int.reduceLT, Int.reduceToNat, Int.reduceEq, Int.reduceAdd, UInt8.reduceToNat, UInt32.reduceToNat, UInt64.reduceToNat, UInt8.reduceOfNat, UInt32.reduceOfNat, UInt64.reduceOfNat, Fin.isValue, Int.reduceSub, Int.reduceMul, Int.reduceNeg, Int.reduceMod, Int.reduceDiv, Int.reduceTDiv, Int.reduceTMod, Int.reduceBEq, Int.reduceBNe, Nat.reduceDiv, Nat.reducePow]
                    all_goals first
                      | trivial
                      | rfl
                      | trace_state
def shortC : Con := con0 fun args => match args with
  | [.agg [.str u, .str s, .num r, .num e, .str p, .str n, .str w, .str o], .agg [.str fs, .str fn, .str fp, .num fr]] => some (.c (.one (.bo (shortAF ⟨u, s, r, e, p, n, w, o⟩ ⟨fs, fn, fp, fr⟩))), [])
  | _ => none
theorem shortC_ok : ConOkG Tryd.prog GZ 12 shortC := con0_okG Tryd.func12 rfl rfl fun args res ob h hob => by
  split at h
  · injection h with h; injection h with h1 h2; subst h1; subst h2; exact short_tri ⟨_, _, _, _, _, _, _, _⟩ ⟨_, _, _, _⟩
  · cases h
def smOk (x y : List (List UInt8)) (i : Nat) : Prop := i ≤ x.length ∧ ∀ j, j < i → x.getD j [] = y.getD j []
def samI (x y : List (List UInt8)) (wa wb : Bool) (i : Nat) : St := ⟨[(0, .c (.one (.sl 0 0 1 x.length))), (1, .c (.one (.sl 1 0 1 y.length))), (12, .c (.one (.num x.length))), (13, .c (.one (.num i)))], [(0, ⟨.arr _ strL x, wa⟩), (1, ⟨.arr _ strL y, wb⟩)]⟩
set_option maxRecDepth 100000 in
theorem same13_tri (x y : List (List UInt8)) (wa wb : Bool) (hx : x.length ≤ 1000) (hy : y.length ≤ 1000) : TriG Tryd.prog GZ 17 [.one (.sl 0 0 1 x.length), .one (.sl 1 0 1 y.length)] [(0, ⟨.arr _ strL x, wa⟩), (1, ⟨.arr _ strL y, wb⟩)] (.c (.one (.bo (x == y)))) [(0, ⟨.arr _ strL x, wa⟩), (1, ⟨.arr _ strL y, wb⟩)] := by
  refine tri_ofx (envZK_ok ze0_ok 26 [0, 1]) Tryd.func17 rfl rfl (rs := [.tmp 4]) rfl rfl (by simp [envZK]) rfl ?_
  by_cases hl : x.length = y.length
  · have hb : ((x.length : Int) == (y.length : Int)) = true := by rw [hl]; exact beq_self_eq_true _
    simp only [hb, envZK, con0, conS, strsOf_arr, rowS_arr, strsOf_cells, rowS_cells, toS, strL_st, strL_d, strL_enc, strL_up, hpN_nil, hpN_cons, ze0, retQx, go_sem, reduceCtorEq, ↓reduceIte, Nat.reduceAdd, Nat.reduceMul, Nat.reduceSub, Nat.reduceEqDiff, Nat.reduceLT, Nat.reduceBEq, Nat.reduceBNe, Nat.reduceLeDiff, Int.reduceLE, Int.reduceLT, Int.reduceToNat, Int.reduceEq, Int.reduceAdd, UInt8.reduceToNat, UInt32.reduceToNat, UInt64.reduceToNat, UInt8.reduceOfNat, UInt32.reduceOfNat, UInt64.reduceOfNat, Fin.isValue, Int.reduceSub, Int.reduceMul, Int.reduceNeg, Int.reduceMod, Int.reduceDiv, Int.reduceTDiv, Int.reduceTMod, Int.reduceBEq, Int.reduceBNe, Nat.reduceDiv, Nat.reducePow]
    refine loop_inv (envZK_ok ze0_ok 26 [0, 1]) (samI x y wa wb) (smOk x y) (fun i => x.length - i) 0 [] ⟨Nat.zero_le _, fun j hj => by omega⟩ ?_ ?_
    · simp only [samI, envZK, con0, conS, strsOf_arr, rowS_arr, strsOf_cells, rowS_cells, toS, strL_st, strL_d, strL_enc, strL_up, hpN_nil, hpN_cons, ze0, go_sem, reduceCtorEq, ↓reduceIte, Nat.reduceAdd, Nat.reduceMul, Nat.reduceSub, Nat.reduceEqDiff, Nat.reduceLT, Nat.reduceBEq, Nat.reduceBNe, Nat.reduceLeDiff, Int.reduceLE, Int.reduceLT, Int.reduceToNat, Int.reduceEq, Int.reduceAdd, UInt8.reduceToNat, UInt32.reduceToNat, UInt64.reduceToNat, UInt8.reduceOfNat, UInt32.reduceOfNat, UInt64.reduceOfNat, Fin.isValue, Int.reduceSub, Int.reduceMul, Int.reduceNeg, Int.reduceMod, Int.reduceDiv, Int.reduceTDiv, Int.reduceTMod, Int.reduceBEq, Int.reduceBNe, Nat.reduceDiv, Nat.reducePow]
      all_goals first
        | trivial
        | exact ⟨rfl, id, id⟩
        | trace_state
    · rintro i ⟨hi, hsm⟩
      have w1 : IntKind.i64.wrap ((i : Int) + 1) = ((i + 1 : Nat) : Int) := by rw [IntKind.wrap_i64]; omega
      simp only [samI, envZK, con0, conS, strsOf_arr, rowS_arr, strsOf_cells, rowS_cells, toS, strL_st, strL_d, strL_enc, strL_up, hpN_nil, hpN_cons, ze0, retQx, go_sem, reduceCtorEq, ↓reduceIte, Nat.reduceAdd, Nat.reduceMul, Nat.reduceSub, Nat.reduceEqDiff, Nat.reduceLT, Nat.reduceBEq, Nat.reduceBNe, Nat.reduceLeDiff, Int.reduceLE, Int.reduceLT, Int.reduceToNat, Int.reduceEq, Int.reduceAdd, UInt8.reduceToNat, UInt32.reduceToNat, UInt64.reduceToNat, UInt8.reduceOfNat, UInt32.reduceOfNat, UInt64.reduceOfNat, Fin.isValue, Int.reduceSub, Int.reduceMul, Int.reduceNeg, Int.reduceMod, Int.reduceDiv, Int.reduceTDiv, Int.reduceTMod, Int.reduceBEq, Int.reduceBNe, Nat.reduceDiv, Nat.reducePow]
      refine br (fun hg => ?_) fun hg => ?_
      · have hg' := of_decide_eq_true hg
        cases hc : (x.getD i [] == y.getD i []) with
        | true =>
          simp only [hg, hc, w1, envZK, con0, conS, strsOf_arr, rowS_arr, strsOf_cells, rowS_cells, toS, strL_st, strL_d, strL_enc, strL_up, hpN_nil, hpN_cons, ze0, retQx, go_sem, reduceCtorEq, ↓reduceIte, Nat.reduceAdd, Nat.reduceMul, Nat.reduceSub, Nat.reduceEqDiff, Nat.reduceLT, Nat.reduceBEq, Nat.reduceBNe, Nat.reduceLeDiff, Int.reduceLE, Int.reduceLT, Int.reduceToNat, Int.reduceEq, Int.reduceAdd, UInt8.reduceToNat, UInt32.reduceToNat, UInt64.reduceToNat, UInt8.reduceOfNat, UInt32.reduceOfNat, UInt64.reduceOfNat, Fin.isValue, Int.reduceSub, Int.reduceMul, Int.reduceNeg, Int.reduceMod, Int.reduceDiv, Int.reduceTDiv, Int.reduceTMod, Int.reduceBEq, Int.reduceBNe, Nat.reduceDiv, Nat.reducePow]
          repeat' apply And.intro
          all_goals first
            | omega
            | (show ckDraw _; rfl)
            | skip
          refine again (i + 1) [] ⟨by omega, fun j hj => ?_⟩ (by omega) ?_
          · by_cases h : j < i
            · exact hsm j h
            · obtain rfl : j = i := by omega
              exact eq_of_beq hc
          · simp only [samI, envZK, con0, conS, strsOf_arr, rowS_arr, strsOf_cells, rowS_cells, toS, strL_st, strL_d, strL_enc, strL_up, hpN_nil, hpN_cons, ze0, go_sem, reduceCtorEq, ↓reduceIte, Nat.reduceAdd, Nat.reduceMul, Nat.reduceSub, Nat.reduceEqDiff, Nat.reduceLT, Nat.reduceBEq, Nat.reduceBNe, Nat.reduceLeDiff, Int.reduceLE, Int.reduceLT, Int.reduceToNat, Int.reduceEq, Int.reduceAdd, UInt8.reduceToNat, UInt32.reduceToNat, UInt64.reduceToNat, UInt8.reduceOfNat, UInt32.reduceOfNat, UInt64.reduceOfNat, Fin.isValue, Int.reduceSub, Int.reduceMul, Int.reduceNeg, Int.reduceMod, Int.reduceDiv, Int.reduceTDiv, Int.reduceTMod, Int.reduceBEq, Int.reduceBNe, Nat.reduceDiv, Nat.reducePow]
            all_goals first
              | trivial
              | exact ⟨rfl, id, id⟩
              | trace_state
        | false =>
          have hv : (x == y) = false := by
            rw [beq_eq_false_iff_ne]; intro h; rw [h, beq_self_eq_true] at hc; cases hc
          simp only [hg, hc, hv, envZK, con0, conS, strsOf_arr, rowS_arr, strsOf_cells, rowS_cells, toS, strL_st, strL_d, strL_enc, strL_up, hpN_nil, hpN_cons, ze0, retQx, go_sem, reduceCtorEq, ↓reduceIte, Nat.reduceAdd, Nat.reduceMul, Nat.reduceSub, Nat.reduceEqDiff, Nat.reduceLT, Nat.reduceBEq, Nat.reduceBNe, Nat.reduceLeDiff, Int.reduceLE, Int.reduceLT, Int.reduceToNat, Int.reduceEq, Int.reduceAdd, UInt8.reduceToNat, UInt32.reduceToNat, UInt64.reduceToNat, UInt8.reduceOfNat, UInt32.reduceOfNat, UInt64.reduceOfNat, Fin.isValue, Int.reduceSub, Int.reduceMul, Int.reduceNeg, Int.reduceMod, Int.reduceDiv, Int.reduceTDiv, Int.reduceTMod, Int.reduceBEq, Int.reduceBNe, Nat.reduceDiv, Nat.reducePow]
          repeat' apply And.intro
          all_goals first
            | omega
            | (show ckDraw _; rfl)
            | skip
          refine endX [] ?_
          simp only [hv, envZK, con0, conS, strsOf_arr, rowS_arr, strsOf_cells, rowS_cells, toS, strL_st, strL_d, strL_enc, strL_up, hpN_nil, hpN_cons, ze0, retQx, go_sem, reduceCtorEq, ↓reduceIte, Nat.reduceAdd, Nat.reduceMul, Nat.reduceSub, Nat.reduceEqDiff, Nat.reduceLT, Nat.reduceBEq, Nat.reduceBNe, Nat.reduceLeDiff, Int.reduceLE, Int.reduceLT, Int.reduceToNat, Int.reduceEq, Int.reduceAdd, UInt8.reduceToNat, UInt32.reduceToNat, UInt64.reduceToNat, UInt8.reduceOfNat, UInt32.reduceOfNat, UInt64.reduceOfNat, Fin.isValue, Int.reduceSub, Int.reduceMul, Int.reduceNeg, Int.reduceMod, Int.reduceDiv, Int.reduceTDiv, Int.reduceTMod, Int.reduceBEq, Int.reduceBNe, Nat.reduceDiv, Nat.reducePow]
          all_goals first
            | trivial
            | exact ⟨rfl, id, id⟩
            | trace_state
      · obtain rfl : i = x.length := by have := of_decide_eq_false hg; omega
        have hv : (x == y) = true := by
          rw [beq_iff_eq]
          apply List.ext_getElem hl
          intro j j1 j2
          have := hsm j j1
          rw [List.getD_eq_getElem?_getD, List.getElem?_eq_getElem j1, List.getD_eq_getElem?_getD, List.getElem?_eq_getElem j2] at this
          exact this
        simp only [hg, hv, envZK, con0, conS, strsOf_arr, rowS_arr, strsOf_cells, rowS_cells, toS, strL_st, strL_d, strL_enc, strL_up, hpN_nil, hpN_cons, ze0, retQx, go_sem, reduceCtorEq, ↓reduceIte, Nat.reduceAdd, Nat.reduceMul, Nat.reduceSub, Nat.reduceEqDiff, Nat.reduceLT, Nat.reduceBEq, Nat.reduceBNe, Nat.reduceLeDiff, Int.reduceLE, Int.reduceLT, Int.reduceToNat, Int.reduceEq, Int.reduceAdd, UInt8.reduceToNat, UInt32.reduceToNat, UInt64.reduceToNat, UInt8.reduceOfNat, UInt32.reduceOfNat, UInt64.reduceOfNat, Fin.isValue, Int.reduceSub, Int.reduceMul, Int.reduceNeg, Int.reduceMod, Int.reduceDiv, Int.reduceTDiv, Int.reduceTMod, Int.reduceBEq, Int.reduceBNe, Nat.reduceDiv, Nat.reducePow]
        refine endX [] ?_
        simp only [hv, envZK, con0, conS, strsOf_arr, rowS_arr, strsOf_cells, rowS_cells, toS, strL_st, strL_d, strL_enc, strL_up, hpN_nil, hpN_cons, ze0, retQx, go_sem, reduceCtorEq, ↓reduceIte, Nat.reduceAdd, Nat.reduceMul, Nat.reduceSub, Nat.reduceEqDiff, Nat.reduceLT, Nat.reduceBEq, Nat.reduceBNe, Nat.reduceLeDiff, Int.reduceLE, Int.reduceLT, Int.reduceToNat, Int.reduceEq, Int.reduceAdd, UInt8.reduceToNat, UInt32.reduceToNat, UInt64.reduceToNat, UInt8.reduceOfNat, UInt32.reduceOfNat, UInt64.reduceOfNat, Fin.isValue, Int.reduceSub, Int.reduceMul, Int.reduceNeg, Int.reduceMod, Int.reduceDiv, Int.reduceTDiv, Int.reduceTMod, Int.reduceBEq, Int.reduceBNe, Nat.reduceDiv, Nat.reducePow]
        all_goals first
          | trivial
          | exact ⟨rfl, id, id⟩
          | trace_state
  · have hb : ((x.length : Int) == (y.length : Int)) = false := by rw [beq_eq_false_iff_ne]; omega
    have hv : (x == y) = false := by
      rw [beq_eq_false_iff_ne]; intro h; exact hl (by rw [h])
    simp only [hb, hv, envZK, con0, conS, strsOf_arr, rowS_arr, strsOf_cells, rowS_cells, toS, strL_st, strL_d, strL_enc, strL_up, hpN_nil, hpN_cons, ze0, retQx, go_sem, reduceCtorEq, ↓reduceIte, Nat.reduceAdd, Nat.reduceMul, Nat.reduceSub, Nat.reduceEqDiff, Nat.reduceLT, Nat.reduceBEq, Nat.reduceBNe, Nat.reduceLeDiff, Int.reduceLE, Int.reduceLT, Int.reduceToNat, Int.reduceEq, Int.reduceAdd, UInt8.reduceToNat, UInt32.reduceToNat, UInt64.reduceToNat, UInt8.reduceOfNat, UInt32.reduceOfNat, UInt64.reduceOfNat, Fin.isValue, Int.reduceSub, Int.reduceMul, Int.reduceNeg, Int.reduceMod, Int.reduceDiv, Int.reduceTDiv, Int.reduceTMod, Int.reduceBEq, Int.reduceBNe, Nat.reduceDiv, Nat.reducePow]
    refine endX [] ?_
    simp only [hv, envZK, con0, conS, strsOf_arr, rowS_arr, strsOf_cells, rowS_cells, toS, strL_st, strL_d, strL_enc, strL_up, hpN_nil, hpN_cons, ze0, retQx, go_sem, reduceCtorEq, ↓reduceIte, Nat.reduceAdd, Nat.reduceMul, Nat.reduceSub, Nat.reduceEqDiff, Nat.reduceLT, Nat.reduceBEq, Nat.reduceBNe, Nat.reduceLeDiff, Int.reduceLE, Int.reduceLT, Int.reduceToNat, Int.reduceEq, Int.reduceAdd, UInt8.reduceToNat, UInt32.reduceToNat, UInt64.reduceToNat, UInt8.reduceOfNat, UInt32.reduceOfNat, UInt64.reduceOfNat, Fin.isValue, Int.reduceSub, Int.reduceMul, Int.reduceNeg, Int.reduceMod, Int.reduceDiv, Int.reduceTDiv, Int.reduceTMod, Int.reduceBEq, Int.reduceBNe, Nat.reduceDiv, Nat.reducePow]
    all_goals first
      | trivial
      | exact ⟨rfl, id, id⟩
      | trace_state
def sameF : List CV → List SObj → Option (SV × List SObj × List Prop)
  | [.one (.sl 0 0 1 n), .one (.sl 1 0 1 m)], [x, y] => some (.c (.one (.bo (strsOf x == strsOf y))), [], [rowS x, rowS y, n = (strsOf x).length, m = (strsOf y).length, (strsOf x).length ≤ 1000, (strsOf y).length ≤ 1000])
  | _, _ => none
def sameC : Con := FH.conQ sameF
theorem sameC_ok : ConOkG Tryd.prog GZ 17 sameC := FH.conQ_ok Tryd.func17 rfl rfl fun args es v nw ob h hob => by
  unfold sameF at h
  split at h
  · rename_i n m x y heq
    match es, heq with
    | [e1, e2], heq =>
      simp only [List.map_cons, List.map_nil, List.cons.injEq, and_true] at heq
      obtain ⟨rfl, rfl⟩ := heq
      simp only [Option.some.injEq, Prod.mk.injEq] at h
      obtain ⟨rfl, rfl, rfl⟩ := h
      obtain ⟨h1, h2, rfl, rfl, h5, h6, _⟩ := hob
      have s1 := simE_rowS h1 e1.wr
      have s2 := simE_rowS h2 e2.wr
      exact (same13_tri (strsOf e1.o) (strsOf e2.o) e1.wr e2.wr h5 h6).sim (.cons s1 (.cons s2 .nil)) (.cons s1 (.cons s2 .nil))
  · cases h
theorem wrap_right {a : FR.Acc} {priv pw : List UInt8} {f : Frs} (hu : FR.usrB a.u = true) (he : a.e = 0 ∨ a.e = 1) (hp : a.p.length = 32) (hl : priv.length = 32) (hf : FrsOk f) (o : List UInt8) (ho : o.length = 0 ∨ o.length = 48) : FR.rightB ⟨a.u, f.s, f.r, a.e, a.p, f.n, FC.sealL (FH.kP pw f.s f.r.toNat) f.n (a.u ++ a.p) priv, o⟩ = true := by
  have h1 := hf.s
  have h2 := hf.n
  have h3 := hf.r
  unfold FR.rightB
  simp only [Bool.and_eq_true, Bool.or_eq_true, decide_eq_true_eq, beq_iff_eq, FC.sealL_len]
  exact ⟨⟨⟨⟨⟨⟨⟨hu, by omega⟩, h3⟩, he⟩, by omega⟩, by omega⟩, by omega⟩, by omega⟩
theorem unlock_wrap {a : FR.Acc} {priv pw : List UInt8} {f : Frs} (hu : FR.usrB a.u = true) (he : a.e = 0 ∨ a.e = 1) (hp : a.p = FK.pointS priv FK.base9) (hl : priv.length = 32) (hf : FrsOk f) (ho : a.o = []) : ulk (wrapA a priv pw f) pw = ([priv], 0) := by
  obtain ⟨o1, o2⟩ := FC.open_seal (FH.kP pw f.s f.r.toNat) f.n (a.u ++ a.p) priv (right_p pw f hf)
  have hP : ulP (wrapA a priv pw f) pw = priv := o1
  have hE : ulE (wrapA a priv pw f) pw = 0 := o2
  have hR : FR.rightB (wrapA a priv pw f) = true := wrap_right hu he (by rw [hp]; exact FK.pointS_len _ _) hl hf a.o (by rw [ho]; exact .inl rfl)
  unfold ulk
  rw [if_pos hR, if_pos hE, hP, if_pos (show FK.pointS priv FK.base9 = (wrapA a priv pw f).p from hp.symm), if_pos (show (wrapA a priv pw f).o = [] from ho)]
theorem unlock_keep {a : FR.Acc} {priv pw q : List UInt8} {f : Frs} (hu : FR.usrB a.u = true) (he : a.e = 0 ∨ a.e = 1) (hp : a.p = FK.pointS priv FK.base9) (hl : priv.length = 32) (hf : FrsOk f) (hq : q.length = 32) : ulk (keepA (wrapA a priv pw f) priv q) pw = ([priv, q], 0) := by
  obtain ⟨o1, o2⟩ := FC.open_seal (FH.kP pw f.s f.r.toNat) f.n (a.u ++ a.p) priv (right_p pw f hf)
  have hP : ulP (keepA (wrapA a priv pw f) priv q) pw = priv := o1
  have hE : ulE (keepA (wrapA a priv pw f) priv q) pw = 0 := o2
  have hol : (FC.sealL (oldK priv) f.n a.p q).length = 48 := by rw [FC.sealL_len, hq]
  have hR : FR.rightB (keepA (wrapA a priv pw f) priv q) = true := wrap_right hu he (by rw [hp]; exact FK.pointS_len _ _) hl hf _ (.inr hol)
  obtain ⟨q1, q2⟩ := FC.open_seal (oldK priv) f.n a.p q (right_o priv f.n hf.n)
  have hO : ulO (keepA (wrapA a priv pw f) priv q) pw = q := by unfold ulO; rw [hP]; exact q1
  have hF : ulF (keepA (wrapA a priv pw f) priv q) pw = 0 := by unfold ulF; rw [hP]; exact q2
  unfold ulk
  rw [if_pos hR, if_pos hE, hP, if_pos (show FK.pointS priv FK.base9 = (keepA (wrapA a priv pw f) priv q).p from hp.symm), if_neg (show ¬ (keepA (wrapA a priv pw f) priv q).o = [] from fun h => by rw [show (keepA (wrapA a priv pw f) priv q).o = FC.sealL (oldK priv) f.n a.p q from rfl] at h; rw [h] at hol; cases hol), if_pos hF, hO]
end Go.Proofs.YtahiopdkekkibaaDoor.FZ

/-
  Layer 13: the law RingKeeps.
-/
namespace Go.Proofs.YtahiopdkekkibaaDoor.FZ
open Go Go.RowKit Go.ChangeShapes Go.WideShapes
set_option maxHeartbeats 4000000
set_option linter.unusedSimpArgs false
set_option linter.unusedVariables false
set_option linter.unusedSectionVars false
section
variable {H : Type} {enc : TypeId × Value → H} {P : Program} {W : World}
/-- What is drawn, among the arguments. -/
def Frs.val (a : Frs) : Value := .agg #[.string ⟨a.s.toArray⟩, .string ⟨a.n.toArray⟩, .string ⟨a.p.toArray⟩, .int .i64 a.r]
theorem Frs.rel (a : Frs) (r : Lc) : CV.rel r (.agg a.cs) a.val := ⟨_, rfl, rfl, rfl, rfl, rfl, trivial⟩
theorem open_frs {T : TypeId} {f0 f1 f2 f3 : Field} (hT : P.underlying T = some (.struct #[f0, f1, f2, f3])) (hz : P.cellsOf T = 4)
    (u0 : P.underlying f0.type = some .string) (u1 : P.underlying f1.type = some .string) (u2 : P.underlying f2.type = some .string) (u3 : P.underlying f3.type = some (.int .i64))
    (o : f0.offset = 0 ∧ f1.offset = 1 ∧ f2.offset = 2 ∧ f3.offset = 3)
    (c : P.cellsOf f0.type = 1 ∧ P.cellsOf f1.type = 1 ∧ P.cellsOf f2.type = 1 ∧ P.cellsOf f3.type = 1)
    {rc : Reach} {b0 : Nat} {v : Value} {d : DataW H} {ps : List MemPlace} (hval : Value.okWide P W rc b0 T v) (h : DataW.Trod enc P W 0 (fun _ => true) true T v d ps) : ∃ a : Frs, v = a.val := by
  obtain ⟨cs, rfl, hs⟩ := okWide_struct hT hval
  obtain ⟨fuel, hf⟩ := h
  obtain ⟨xs, m, _, _, hl, hlen, hfs⟩ := DataW.trod_struct hT hf
  obtain ⟨o0, o1, o2, o3⟩ := o
  obtain ⟨c0, c1, c2, c3⟩ := c
  rw [hz] at hl
  obtain ⟨l⟩ := cs
  have hl : l.length = 4 := by simpa [Value.cells] using hl
  match xs, hlen with
  | [y0, y1, y2, y3], _ =>
    have g0 := hfs 0 f0 rfl
    have g1 := hfs 1 f1 rfl
    have g2 := hfs 2 f2 rfl
    have g3 := hfs 3 f3 rfl
    rw [o0, c0] at g0
    rw [o1, c1] at g1
    rw [o2, c2] at g2
    rw [o3, c3] at g3
    obtain ⟨s0, e0, _, _⟩ := DataW.trod_string u0 g0
    obtain ⟨s1, e1, _, _⟩ := DataW.trod_string u1 g1
    obtain ⟨s2, e2, _, _⟩ := DataW.trod_string u2 g2
    obtain ⟨n3, e3, _, _⟩ := DataW.trod_int u3 g3
    match l, hl, e0, e1, e2, e3 with
    | [v0, v1, v2, v3], _, e0, e1, e2, e3 =>
      simp [Value.cells] at e0 e1 e2 e3
      subst e0; subst e1; subst e2; subst e3
      refine ⟨⟨s0.data.toList, s1.data.toList, s2.data.toList, n3⟩, ?_⟩
      simp [Frs.val]
end
theorem gl_r {W : World} (hsh : W.ShapedOpen Tryd.prog) (hL : laidMetH Tryd.prog [("mailsack/sha.constants", Rows.laid_mailsack_sha_constants)] W) : ∀ f ∈ GZ, f.p W := FH.gl_sha hsh hL
def zAwake13 : Con := FR.awake13C
theorem zAwake13_ok : ConOkG Tryd.prog GZ 13 zAwake13 := ConOk.up FR.awake13C_ok
theorem short_user {user : List UInt8} {f : Frs} (h : shortAF ⟨user, [], 0, 0, [], [], [], []⟩ f = true) : user.length ≤ 300 := by
  unfold shortAF FR.shortB at h
  simp only [Bool.and_eq_true, decide_eq_true_eq] at h
  obtain ⟨⟨⟨⟨⟨⟨h1, _⟩, _⟩, _⟩, _⟩, _⟩, _⟩ := h
  omega
def zg1 : Nat → Option Con := fun f => match f with
  | 12 => some shortC
  | 13 => some zAwake13
  | 14 => some makeC
  | 15 => some unlockC
  | 16 => some changeC
  | 17 => some sameC
  | 18 => some rotateC
  | 19 => some zFinish
  | _ => none
theorem zg1_ok : GaOkG Tryd.prog GZ zg1 := fun f con h => by
  unfold zg1 at h
  split at h
  · injection h with h; subst h; exact shortC_ok
  · injection h with h; subst h; exact zAwake13_ok
  · injection h with h; subst h; exact makeC_ok
  · injection h with h; subst h; exact unlockC_ok
  · injection h with h; subst h; exact changeC_ok
  · injection h with h; subst h; exact sameC_ok
  · injection h with h; subst h; exact rotateC_ok
  · injection h with h; subst h; exact zFinish_ok
  · cases h
set_option maxRecDepth 100000 in
theorem lawKeeps_tri (user pw other : List UInt8) (f g : Frs) : TriG Tryd.prog GZ 5 [.one (.str user), .one (.str pw), .one (.str other), .agg f.cs, .agg g.cs] [] (.c (.one (.bo true))) [] := by
  obtain ⟨fs, fn, fp, fr⟩ := f
  obtain ⟨gs, gn, gp, gr⟩ := g
  cases s1 : shortAF ⟨user, [], 0, 0, [], [], [], []⟩ ⟨fs, fn, fp, fr⟩ with
  | false =>
    refine tri_ofx (envZK_ok zg1_ok 175 []) Tryd.func5 rfl rfl (rs := [.tmp 10]) rfl rfl (by simp [envZK]) rfl ?_
    simp only [s1, FR.awake13C, envZK, con0, conS, strsOf_arr, rowS_arr, strsOf_cells, rowS_cells, toS, strL_st, strL_d, strL_enc, strL_up, hpN_nil, hpN_cons, zg1, shortC, zAwake13, FR.awake13C, makeC, unlockC, changeC, sameC, rotateC, zFinish, FR.finishC, FR.Acc.cs, Frs.cs, beq_self_eq_true, retQx, go_sem, reduceCtorEq, ↓reduceIte, Nat.reduceAdd, Nat.reduceMul, Nat.reduceSub, Nat.reduceEqDiff, Nat.reduceLT, Nat.reduceBEq, Nat.reduceBNe, Nat.reduceLeDiff, Int.reduceLE, Int.reduceLT, Int.reduceToNat, Int.reduceEq, Int.reduceAdd, UInt8.reduceToNat, UInt32.reduceToNat, UInt64.reduceToNat, UInt8.reduceOfNat, UInt32.reduceOfNat, UInt64.reduceOfNat, Fin.isValue, Int.reduceSub, Int.reduceMul, Int.reduceNeg, Int.reduceMod, Int.reduceDiv, Int.reduceTDiv, Int.reduceTMod, Int.reduceBEq, Int.reduceBNe, Nat.reduceDiv, Nat.reducePow]
    repeat' apply And.intro
    all_goals first
      | omega
      | (show ckDraw _; rfl)
      | skip
    refine endX [] ?_
    simp only [s1, FR.awake13C, FR.Acc.cs, Frs.cs, beq_self_eq_true, envZK, con0, conS, strsOf_arr, rowS_arr, strsOf_cells, rowS_cells, toS, strL_st, strL_d, strL_enc, strL_up, hpN_nil, hpN_cons, zg1, shortC, zAwake13, FR.awake13C, makeC, unlockC, changeC, sameC, rotateC, zFinish, FR.finishC, retQx, go_sem, reduceCtorEq, ↓reduceIte, Nat.reduceAdd, Nat.reduceMul, Nat.reduceSub, Nat.reduceEqDiff, Nat.reduceLT, Nat.reduceBEq, Nat.reduceBNe, Nat.reduceLeDiff, Int.reduceLE, Int.reduceLT, Int.reduceToNat, Int.reduceEq, Int.reduceAdd, UInt8.reduceToNat, UInt32.reduceToNat, UInt64.reduceToNat, UInt8.reduceOfNat, UInt32.reduceOfNat, UInt64.reduceOfNat, Fin.isValue, Int.reduceSub, Int.reduceMul, Int.reduceNeg, Int.reduceMod, Int.reduceDiv, Int.reduceTDiv, Int.reduceTMod, Int.reduceBEq, Int.reduceBNe, Nat.reduceDiv, Nat.reducePow]
    all_goals first
      | trivial
      | rfl
      | trace_state
  | true =>
    have hul := short_user s1
    cases s2 : shortAF ⟨[], [], 0, 0, [], [], [], []⟩ ⟨gs, gn, gp, gr⟩ with
    | false =>
      refine tri_ofx (envZK_ok zg1_ok 175 []) Tryd.func5 rfl rfl (rs := [.tmp 10]) rfl rfl (by simp [envZK]) rfl ?_
      simp only [s1, s2, FR.awake13C, envZK, con0, conS, strsOf_arr, rowS_arr, strsOf_cells, rowS_cells, toS, strL_st, strL_d, strL_enc, strL_up, hpN_nil, hpN_cons, zg1, shortC, zAwake13, FR.awake13C, makeC, unlockC, changeC, sameC, rotateC, zFinish, FR.finishC, FR.Acc.cs, Frs.cs, beq_self_eq_true, retQx, go_sem, reduceCtorEq, ↓reduceIte, Nat.reduceAdd, Nat.reduceMul, Nat.reduceSub, Nat.reduceEqDiff, Nat.reduceLT, Nat.reduceBEq, Nat.reduceBNe, Nat.reduceLeDiff, Int.reduceLE, Int.reduceLT, Int.reduceToNat, Int.reduceEq, Int.reduceAdd, UInt8.reduceToNat, UInt32.reduceToNat, UInt64.reduceToNat, UInt8.reduceOfNat, UInt32.reduceOfNat, UInt64.reduceOfNat, Fin.isValue, Int.reduceSub, Int.reduceMul, Int.reduceNeg, Int.reduceMod, Int.reduceDiv, Int.reduceTDiv, Int.reduceTMod, Int.reduceBEq, Int.reduceBNe, Nat.reduceDiv, Nat.reducePow]
      repeat' apply And.intro
      all_goals first
        | omega
        | (show ckDraw _; rfl)
        | skip
      refine endX [] ?_
      simp only [s1, s2, FR.awake13C, FR.Acc.cs, Frs.cs, beq_self_eq_true, envZK, con0, conS, strsOf_arr, rowS_arr, strsOf_cells, rowS_cells, toS, strL_st, strL_d, strL_enc, strL_up, hpN_nil, hpN_cons, zg1, shortC, zAwake13, FR.awake13C, makeC, unlockC, changeC, sameC, rotateC, zFinish, FR.finishC, retQx, go_sem, reduceCtorEq, ↓reduceIte, Nat.reduceAdd, Nat.reduceMul, Nat.reduceSub, Nat.reduceEqDiff, Nat.reduceLT, Nat.reduceBEq, Nat.reduceBNe, Nat.reduceLeDiff, Int.reduceLE, Int.reduceLT, Int.reduceToNat, Int.reduceEq, Int.reduceAdd, UInt8.reduceToNat, UInt32.reduceToNat, UInt64.reduceToNat, UInt8.reduceOfNat, UInt32.reduceOfNat, UInt64.reduceOfNat, Fin.isValue, Int.reduceSub, Int.reduceMul, Int.reduceNeg, Int.reduceMod, Int.reduceDiv, Int.reduceTDiv, Int.reduceTMod, Int.reduceBEq, Int.reduceBNe, Nat.reduceDiv, Nat.reducePow]
      all_goals first
        | trivial
        | rfl
        | trace_state
    | true =>
      cases c1 : decide ((100 : Int) < (pw.length : Int)) with
      | true =>
        refine tri_ofx (envZK_ok zg1_ok 175 []) Tryd.func5 rfl rfl (rs := [.tmp 10]) rfl rfl (by simp [envZK]) rfl ?_
        simp only [s1, s2, c1, FR.awake13C, envZK, con0, conS, strsOf_arr, rowS_arr, strsOf_cells, rowS_cells, toS, strL_st, strL_d, strL_enc, strL_up, hpN_nil, hpN_cons, zg1, shortC, zAwake13, FR.awake13C, makeC, unlockC, changeC, sameC, rotateC, zFinish, FR.finishC, FR.Acc.cs, Frs.cs, beq_self_eq_true, retQx, go_sem, reduceCtorEq, ↓reduceIte, Nat.reduceAdd, Nat.reduceMul, Nat.reduceSub, Nat.reduceEqDiff, Nat.reduceLT, Nat.reduceBEq, Nat.reduceBNe, Nat.reduceLeDiff, Int.reduceLE, Int.reduceLT, Int.reduceToNat, Int.reduceEq, Int.reduceAdd, UInt8.reduceToNat, UInt32.reduceToNat, UInt64.reduceToNat, UInt8.reduceOfNat, UInt32.reduceOfNat, UInt64.reduceOfNat, Fin.isValue, Int.reduceSub, Int.reduceMul, Int.reduceNeg, Int.reduceMod, Int.reduceDiv, Int.reduceTDiv, Int.reduceTMod, Int.reduceBEq, Int.reduceBNe, Nat.reduceDiv, Nat.reducePow]
        repeat' apply And.intro
        all_goals first
          | omega
          | (show ckDraw _; rfl)
          | skip
        refine endX [] ?_
        simp only [s1, s2, c1, FR.awake13C, FR.Acc.cs, Frs.cs, beq_self_eq_true, envZK, con0, conS, strsOf_arr, rowS_arr, strsOf_cells, rowS_cells, toS, strL_st, strL_d, strL_enc, strL_up, hpN_nil, hpN_cons, zg1, shortC, zAwake13, FR.awake13C, makeC, unlockC, changeC, sameC, rotateC, zFinish, FR.finishC, retQx, go_sem, reduceCtorEq, ↓reduceIte, Nat.reduceAdd, Nat.reduceMul, Nat.reduceSub, Nat.reduceEqDiff, Nat.reduceLT, Nat.reduceBEq, Nat.reduceBNe, Nat.reduceLeDiff, Int.reduceLE, Int.reduceLT, Int.reduceToNat, Int.reduceEq, Int.reduceAdd, UInt8.reduceToNat, UInt32.reduceToNat, UInt64.reduceToNat, UInt8.reduceOfNat, UInt32.reduceOfNat, UInt64.reduceOfNat, Fin.isValue, Int.reduceSub, Int.reduceMul, Int.reduceNeg, Int.reduceMod, Int.reduceDiv, Int.reduceTDiv, Int.reduceTMod, Int.reduceBEq, Int.reduceBNe, Nat.reduceDiv, Nat.reducePow]
        all_goals first
          | trivial
          | rfl
          | trace_state
      | false =>
        have c1' := of_decide_eq_false c1
        cases c2 : decide ((100 : Int) < (other.length : Int)) with
        | true =>
          refine tri_ofx (envZK_ok zg1_ok 175 []) Tryd.func5 rfl rfl (rs := [.tmp 10]) rfl rfl (by simp [envZK]) rfl ?_
          simp only [s1, s2, c1, c2, FR.awake13C, envZK, con0, conS, strsOf_arr, rowS_arr, strsOf_cells, rowS_cells, toS, strL_st, strL_d, strL_enc, strL_up, hpN_nil, hpN_cons, zg1, shortC, zAwake13, FR.awake13C, makeC, unlockC, changeC, sameC, rotateC, zFinish, FR.finishC, FR.Acc.cs, Frs.cs, beq_self_eq_true, retQx, go_sem, reduceCtorEq, ↓reduceIte, Nat.reduceAdd, Nat.reduceMul, Nat.reduceSub, Nat.reduceEqDiff, Nat.reduceLT, Nat.reduceBEq, Nat.reduceBNe, Nat.reduceLeDiff, Int.reduceLE, Int.reduceLT, Int.reduceToNat, Int.reduceEq, Int.reduceAdd, UInt8.reduceToNat, UInt32.reduceToNat, UInt64.reduceToNat, UInt8.reduceOfNat, UInt32.reduceOfNat, UInt64.reduceOfNat, Fin.isValue, Int.reduceSub, Int.reduceMul, Int.reduceNeg, Int.reduceMod, Int.reduceDiv, Int.reduceTDiv, Int.reduceTMod, Int.reduceBEq, Int.reduceBNe, Nat.reduceDiv, Nat.reducePow]
          repeat' apply And.intro
          all_goals first
            | omega
            | (show ckDraw _; rfl)
            | skip
          refine endX [] ?_
          simp only [s1, s2, c1, c2, FR.awake13C, FR.Acc.cs, Frs.cs, beq_self_eq_true, envZK, con0, conS, strsOf_arr, rowS_arr, strsOf_cells, rowS_cells, toS, strL_st, strL_d, strL_enc, strL_up, hpN_nil, hpN_cons, zg1, shortC, zAwake13, FR.awake13C, makeC, unlockC, changeC, sameC, rotateC, zFinish, FR.finishC, retQx, go_sem, reduceCtorEq, ↓reduceIte, Nat.reduceAdd, Nat.reduceMul, Nat.reduceSub, Nat.reduceEqDiff, Nat.reduceLT, Nat.reduceBEq, Nat.reduceBNe, Nat.reduceLeDiff, Int.reduceLE, Int.reduceLT, Int.reduceToNat, Int.reduceEq, Int.reduceAdd, UInt8.reduceToNat, UInt32.reduceToNat, UInt64.reduceToNat, UInt8.reduceOfNat, UInt32.reduceOfNat, UInt64.reduceOfNat, Fin.isValue, Int.reduceSub, Int.reduceMul, Int.reduceNeg, Int.reduceMod, Int.reduceDiv, Int.reduceTDiv, Int.reduceTMod, Int.reduceBEq, Int.reduceBNe, Nat.reduceDiv, Nat.reducePow]
          all_goals first
            | trivial
            | rfl
            | trace_state
        | false =>
          have c2' := of_decide_eq_false c2
          cases m : mkB user ⟨fs, fn, fp, fr⟩ with
          | false =>
            have hm : makeV user pw ⟨fs, fn, fp, fr⟩ = .tup [.agg zeroA.cs, .one (.num 1)] := by unfold makeV; rw [m]; rfl
            refine tri_ofx (envZK_ok zg1_ok 175 []) Tryd.func5 rfl rfl (rs := [.tmp 10]) rfl rfl (by simp [envZK]) rfl ?_
            simp only [s1, s2, c1, c2, hm, zeroA, FR.awake13C, envZK, con0, conS, strsOf_arr, rowS_arr, strsOf_cells, rowS_cells, toS, strL_st, strL_d, strL_enc, strL_up, hpN_nil, hpN_cons, zg1, shortC, zAwake13, FR.awake13C, makeC, unlockC, changeC, sameC, rotateC, zFinish, FR.finishC, FR.Acc.cs, Frs.cs, beq_self_eq_true, retQx, go_sem, reduceCtorEq, ↓reduceIte, Nat.reduceAdd, Nat.reduceMul, Nat.reduceSub, Nat.reduceEqDiff, Nat.reduceLT, Nat.reduceBEq, Nat.reduceBNe, Nat.reduceLeDiff, Int.reduceLE, Int.reduceLT, Int.reduceToNat, Int.reduceEq, Int.reduceAdd, UInt8.reduceToNat, UInt32.reduceToNat, UInt64.reduceToNat, UInt8.reduceOfNat, UInt32.reduceOfNat, UInt64.reduceOfNat, Fin.isValue, Int.reduceSub, Int.reduceMul, Int.reduceNeg, Int.reduceMod, Int.reduceDiv, Int.reduceTDiv, Int.reduceTMod, Int.reduceBEq, Int.reduceBNe, Nat.reduceDiv, Nat.reducePow]
            repeat' apply And.intro
            all_goals first
              | omega
              | (show ckDraw _; rfl)
              | skip
            refine endX [] ?_
            simp only [s1, s2, c1, c2, hm, zeroA, FR.awake13C, FR.Acc.cs, Frs.cs, beq_self_eq_true, envZK, con0, conS, strsOf_arr, rowS_arr, strsOf_cells, rowS_cells, toS, strL_st, strL_d, strL_enc, strL_up, hpN_nil, hpN_cons, zg1, shortC, zAwake13, FR.awake13C, makeC, unlockC, changeC, sameC, rotateC, zFinish, FR.finishC, retQx, go_sem, reduceCtorEq, ↓reduceIte, Nat.reduceAdd, Nat.reduceMul, Nat.reduceSub, Nat.reduceEqDiff, Nat.reduceLT, Nat.reduceBEq, Nat.reduceBNe, Nat.reduceLeDiff, Int.reduceLE, Int.reduceLT, Int.reduceToNat, Int.reduceEq, Int.reduceAdd, UInt8.reduceToNat, UInt32.reduceToNat, UInt64.reduceToNat, UInt8.reduceOfNat, UInt32.reduceOfNat, UInt64.reduceOfNat, Fin.isValue, Int.reduceSub, Int.reduceMul, Int.reduceNeg, Int.reduceMod, Int.reduceDiv, Int.reduceTDiv, Int.reduceTMod, Int.reduceBEq, Int.reduceBNe, Nat.reduceDiv, Nat.reducePow]
            all_goals first
              | trivial
              | rfl
              | trace_state
          | true =>
            have hm0 : makeV user pw ⟨fs, fn, fp, fr⟩ = .tup [.agg (wrapA (newA user ⟨fs, fn, fp, fr⟩) fp pw ⟨fs, fn, fp, fr⟩).cs, .one (.num 0)] := by unfold makeV; rw [m]; rfl
            unfold mkB at m
            simp only [Bool.and_eq_true] at m
            obtain ⟨⟨hus, hfB⟩, hfl⟩ := m
            have hfl' : fp.length = 32 := by have := eq_of_beq hfl; omega
            have hfo := frB_ok hfB
            have uA0 : ulk (wrapA (newA user ⟨fs, fn, fp, fr⟩) fp pw ⟨fs, fn, fp, fr⟩) pw = ([fp], 0) := unlock_wrap hus (.inl rfl) rfl hfl' hfo rfl
            have uB0 := fun (hg : FrsOk ⟨gs, gn, gp, gr⟩) => unlock_wrap (a := wrapA (newA user ⟨fs, fn, fp, fr⟩) fp pw ⟨fs, fn, fp, fr⟩) (priv := fp) (pw := other) (f := ⟨gs, gn, gp, gr⟩) hus (.inl rfl) rfl hfl' hg rfl
            have uC0 := fun (hg : FrsOk ⟨gs, gn, gp, gr⟩) (hl : gp.length = 32) => unlock_keep (a := rotA (wrapA (newA user ⟨fs, fn, fp, fr⟩) fp pw ⟨fs, fn, fp, fr⟩) ⟨gs, gn, gp, gr⟩) (priv := gp) (pw := pw) (q := fp) (f := ⟨gs, gn, gp, gr⟩) hus (.inr rfl) rfl hl hg hfl'
            have uD0 := fun (hAo : (rotA (wrapA (newA user ⟨fs, fn, fp, fr⟩) fp pw ⟨fs, fn, fp, fr⟩) ⟨gs, gn, gp, gr⟩).o = []) (hg : FrsOk ⟨gs, gn, gp, gr⟩) (hl : gp.length = 32) => unlock_wrap (a := rotA (wrapA (newA user ⟨fs, fn, fp, fr⟩) fp pw ⟨fs, fn, fp, fr⟩) ⟨gs, gn, gp, gr⟩) (priv := gp) (pw := pw) (f := ⟨gs, gn, gp, gr⟩) hus (.inr rfl) rfl hl hg hAo
            have hAo : (wrapA (newA user ⟨fs, fn, fp, fr⟩) fp pw ⟨fs, fn, fp, fr⟩).o = [] := rfl
            have hAu0 : (wrapA (newA user ⟨fs, fn, fp, fr⟩) fp pw ⟨fs, fn, fp, fr⟩).u = user := rfl
            generalize wrapA (newA user ⟨fs, fn, fp, fr⟩) fp pw ⟨fs, fn, fp, fr⟩ = A at hm0 uA0 uB0 uC0 uD0 hAo hAu0
            have hm := hm0
            have hAl : A.u.length ≤ 300 := by rw [hAu0]; exact hul
            cases fg : frB ⟨gs, gn, gp, gr⟩ with
            | false =>
              have hch : changeV A pw other ⟨gs, gn, gp, gr⟩ = .tup [.agg zeroA.cs, .one (.num 1)] := by unfold changeV; rw [uA0, fg]; rfl
              have hro : rotV A pw ⟨gs, gn, gp, gr⟩ = .tup [.agg zeroA.cs, .one (.num 1)] := by unfold rotV; rw [uA0]; exact if_neg fun h => by rw [fg] at h; cases h.1
              refine tri_ofx (envZK_ok zg1_ok 175 []) Tryd.func5 rfl rfl (rs := [.tmp 10]) rfl rfl (by simp [envZK]) rfl ?_
              simp (maxSteps := 8000000) only [s1, s2, c1, c2, uA0, hch, hro, zeroA, hm, acc_eta, strsOf_arr, rowS_arr, List.length_cons, List.length_nil, ulkV_nil, ulkN_nil, ulkV_one, ulkN_one, ulkV_two, ulkN_two, FR.finishC, FR.awake13C, sameF, FH.conQ, unlockF, envZK, con0, conS, strsOf_arr, rowS_arr, strsOf_cells, rowS_cells, toS, strL_st, strL_d, strL_enc, strL_up, hpN_nil, hpN_cons, zg1, shortC, zAwake13, FR.awake13C, makeC, unlockC, changeC, sameC, rotateC, zFinish, FR.finishC, FR.Acc.cs, Frs.cs, beq_self_eq_true, retQx, go_sem, reduceCtorEq, ↓reduceIte, Nat.reduceAdd, Nat.reduceMul, Nat.reduceSub, Nat.reduceEqDiff, Nat.reduceLT, Nat.reduceBEq, Nat.reduceBNe, Nat.reduceLeDiff, Int.reduceLE, Int.reduceLT, Int.reduceToNat, Int.reduceEq, Int.reduceAdd, UInt8.reduceToNat, UInt32.reduceToNat, UInt64.reduceToNat, UInt8.reduceOfNat, UInt32.reduceOfNat, UInt64.reduceOfNat, Fin.isValue, Int.reduceSub, Int.reduceMul, Int.reduceNeg, Int.reduceMod, Int.reduceDiv, Int.reduceTDiv, Int.reduceTMod, Int.reduceBEq, Int.reduceBNe, Nat.reduceDiv, Nat.reducePow]
              repeat' apply And.intro
              all_goals first
                | omega
                | (show ckDraw _; rfl)
                | skip
              refine endX [] ?_
              simp only [s1, s2, c1, c2, uA0, hch, hro, zeroA, hm, acc_eta, strsOf_arr, rowS_arr, List.length_cons, List.length_nil, ulkV_nil, ulkN_nil, ulkV_one, ulkN_one, ulkV_two, ulkN_two, FR.finishC, FR.awake13C, sameF, FH.conQ, unlockF, FR.Acc.cs, Frs.cs, beq_self_eq_true, envZK, con0, conS, strsOf_arr, rowS_arr, strsOf_cells, rowS_cells, toS, strL_st, strL_d, strL_enc, strL_up, hpN_nil, hpN_cons, zg1, shortC, zAwake13, FR.awake13C, makeC, unlockC, changeC, sameC, rotateC, zFinish, FR.finishC, retQx, go_sem, reduceCtorEq, ↓reduceIte, Nat.reduceAdd, Nat.reduceMul, Nat.reduceSub, Nat.reduceEqDiff, Nat.reduceLT, Nat.reduceBEq, Nat.reduceBNe, Nat.reduceLeDiff, Int.reduceLE, Int.reduceLT, Int.reduceToNat, Int.reduceEq, Int.reduceAdd, UInt8.reduceToNat, UInt32.reduceToNat, UInt64.reduceToNat, UInt8.reduceOfNat, UInt32.reduceOfNat, UInt64.reduceOfNat, Fin.isValue, Int.reduceSub, Int.reduceMul, Int.reduceNeg, Int.reduceMod, Int.reduceDiv, Int.reduceTDiv, Int.reduceTMod, Int.reduceBEq, Int.reduceBNe, Nat.reduceDiv, Nat.reducePow]
              all_goals first
                | trivial
                | rfl
                | trace_state
            | true =>
              have hgo := frB_ok fg
              have hch : changeV A pw other ⟨gs, gn, gp, gr⟩ = .tup [.agg (wrapA A fp other ⟨gs, gn, gp, gr⟩).cs, .one (.num 0)] := by unfold changeV; rw [uA0, fg]; rfl
              have uB := uB0 hgo
              have hBp : (wrapA A fp other ⟨gs, gn, gp, gr⟩).p = A.p := rfl
              have hBq : ((wrapA A fp other ⟨gs, gn, gp, gr⟩).p == A.p) = true := by rw [hBp]; exact beq_self_eq_true _
              have hBl : (wrapA A fp other ⟨gs, gn, gp, gr⟩).u.length ≤ 300 := hAl
              generalize wrapA A fp other ⟨gs, gn, gp, gr⟩ = B at hch uB hBp hBq hBl
              cases g3 : ((gp.length : Int) == 32) with
              | false =>
                have hro : rotV A pw ⟨gs, gn, gp, gr⟩ = .tup [.agg zeroA.cs, .one (.num 1)] := by unfold rotV; rw [uA0]; exact if_neg fun h => by rw [h.2] at g3; cases g3
                refine tri_ofx (envZK_ok zg1_ok 175 []) Tryd.func5 rfl rfl (rs := [.tmp 10]) rfl rfl (by simp [envZK]) rfl ?_
                simp (maxSteps := 8000000) only [s1, s2, c1, c2, uA0, hch, hro, uB, hBq, zeroA, hm, acc_eta, strsOf_arr, rowS_arr, List.length_cons, List.length_nil, ulkV_nil, ulkN_nil, ulkV_one, ulkN_one, ulkV_two, ulkN_two, FR.finishC, FR.awake13C, sameF, FH.conQ, unlockF, envZK, con0, conS, strsOf_arr, rowS_arr, strsOf_cells, rowS_cells, toS, strL_st, strL_d, strL_enc, strL_up, hpN_nil, hpN_cons, zg1, shortC, zAwake13, FR.awake13C, makeC, unlockC, changeC, sameC, rotateC, zFinish, FR.finishC, FR.Acc.cs, Frs.cs, beq_self_eq_true, retQx, go_sem, reduceCtorEq, ↓reduceIte, Nat.reduceAdd, Nat.reduceMul, Nat.reduceSub, Nat.reduceEqDiff, Nat.reduceLT, Nat.reduceBEq, Nat.reduceBNe, Nat.reduceLeDiff, Int.reduceLE, Int.reduceLT, Int.reduceToNat, Int.reduceEq, Int.reduceAdd, UInt8.reduceToNat, UInt32.reduceToNat, UInt64.reduceToNat, UInt8.reduceOfNat, UInt32.reduceOfNat, UInt64.reduceOfNat, Fin.isValue, Int.reduceSub, Int.reduceMul, Int.reduceNeg, Int.reduceMod, Int.reduceDiv, Int.reduceTDiv, Int.reduceTMod, Int.reduceBEq, Int.reduceBNe, Nat.reduceDiv, Nat.reducePow]
                repeat' apply And.intro
                all_goals first
                  | omega
                  | (show ckDraw _; rfl)
                  | skip
                refine endX [] ?_
                simp only [s1, s2, c1, c2, uA0, hch, hro, uB, hBq, zeroA, hm, acc_eta, strsOf_arr, rowS_arr, List.length_cons, List.length_nil, ulkV_nil, ulkN_nil, ulkV_one, ulkN_one, ulkV_two, ulkN_two, FR.finishC, FR.awake13C, sameF, FH.conQ, unlockF, FR.Acc.cs, Frs.cs, beq_self_eq_true, envZK, con0, conS, strsOf_arr, rowS_arr, strsOf_cells, rowS_cells, toS, strL_st, strL_d, strL_enc, strL_up, hpN_nil, hpN_cons, zg1, shortC, zAwake13, FR.awake13C, makeC, unlockC, changeC, sameC, rotateC, zFinish, FR.finishC, retQx, go_sem, reduceCtorEq, ↓reduceIte, Nat.reduceAdd, Nat.reduceMul, Nat.reduceSub, Nat.reduceEqDiff, Nat.reduceLT, Nat.reduceBEq, Nat.reduceBNe, Nat.reduceLeDiff, Int.reduceLE, Int.reduceLT, Int.reduceToNat, Int.reduceEq, Int.reduceAdd, UInt8.reduceToNat, UInt32.reduceToNat, UInt64.reduceToNat, UInt8.reduceOfNat, UInt32.reduceOfNat, UInt64.reduceOfNat, Fin.isValue, Int.reduceSub, Int.reduceMul, Int.reduceNeg, Int.reduceMod, Int.reduceDiv, Int.reduceTDiv, Int.reduceTMod, Int.reduceBEq, Int.reduceBNe, Nat.reduceDiv, Nat.reducePow]
                all_goals first
                  | trivial
                  | rfl
                  | trace_state
              | true =>
                have g3' : gp.length = 32 := by have := eq_of_beq g3; omega
                have hro : rotV A pw ⟨gs, gn, gp, gr⟩ = .tup [.agg (keepA (wrapA (rotA A ⟨gs, gn, gp, gr⟩) gp pw ⟨gs, gn, gp, gr⟩) gp fp).cs, .one (.num 0)] := by unfold rotV; rw [uA0]; exact if_pos ⟨fg, g3'⟩
                have uC := uC0 hgo g3'
                have uD := uD0 hAo hgo g3'
                have hDe : wrapA (rotA A ⟨gs, gn, gp, gr⟩) gp pw ⟨gs, gn, gp, gr⟩ = ⟨(keepA (wrapA (rotA A ⟨gs, gn, gp, gr⟩) gp pw ⟨gs, gn, gp, gr⟩) gp fp).u, (keepA (wrapA (rotA A ⟨gs, gn, gp, gr⟩) gp pw ⟨gs, gn, gp, gr⟩) gp fp).s, (keepA (wrapA (rotA A ⟨gs, gn, gp, gr⟩) gp pw ⟨gs, gn, gp, gr⟩) gp fp).r, (keepA (wrapA (rotA A ⟨gs, gn, gp, gr⟩) gp pw ⟨gs, gn, gp, gr⟩) gp fp).e, (keepA (wrapA (rotA A ⟨gs, gn, gp, gr⟩) gp pw ⟨gs, gn, gp, gr⟩) gp fp).p, (keepA (wrapA (rotA A ⟨gs, gn, gp, gr⟩) gp pw ⟨gs, gn, gp, gr⟩) gp fp).n, (keepA (wrapA (rotA A ⟨gs, gn, gp, gr⟩) gp pw ⟨gs, gn, gp, gr⟩) gp fp).w, []⟩ := by
                  have : (rotA A ⟨gs, gn, gp, gr⟩).o = [] := hAo
                  unfold keepA wrapA
                  simp only [this]
                rw [hDe] at uD
                have hCl : (keepA (wrapA (rotA A ⟨gs, gn, gp, gr⟩) gp pw ⟨gs, gn, gp, gr⟩) gp fp).u.length ≤ 300 := hAl
                generalize keepA (wrapA (rotA A ⟨gs, gn, gp, gr⟩) gp pw ⟨gs, gn, gp, gr⟩) gp fp = C at hro uC uD hCl
                refine tri_ofx (envZK_ok zg1_ok 175 []) Tryd.func5 rfl rfl (rs := [.tmp 10]) rfl rfl (by simp [envZK]) rfl ?_
                simp (maxSteps := 8000000) only [s1, s2, c1, c2, uA0, hch, hro, uB, hBq, uC, uD, hm, acc_eta, strsOf_arr, rowS_arr, List.length_cons, List.length_nil, ulkV_nil, ulkN_nil, ulkV_one, ulkN_one, ulkV_two, ulkN_two, FR.finishC, FR.awake13C, sameF, FH.conQ, unlockF, envZK, con0, conS, strsOf_arr, rowS_arr, strsOf_cells, rowS_cells, toS, strL_st, strL_d, strL_enc, strL_up, hpN_nil, hpN_cons, zg1, shortC, zAwake13, FR.awake13C, makeC, unlockC, changeC, sameC, rotateC, zFinish, FR.finishC, FR.Acc.cs, Frs.cs, beq_self_eq_true, retQx, go_sem, reduceCtorEq, ↓reduceIte, Nat.reduceAdd, Nat.reduceMul, Nat.reduceSub, Nat.reduceEqDiff, Nat.reduceLT, Nat.reduceBEq, Nat.reduceBNe, Nat.reduceLeDiff, Int.reduceLE, Int.reduceLT, Int.reduceToNat, Int.reduceEq, Int.reduceAdd, UInt8.reduceToNat, UInt32.reduceToNat, UInt64.reduceToNat, UInt8.reduceOfNat, UInt32.reduceOfNat, UInt64.reduceOfNat, Fin.isValue, Int.reduceSub, Int.reduceMul, Int.reduceNeg, Int.reduceMod, Int.reduceDiv, Int.reduceTDiv, Int.reduceTMod, Int.reduceBEq, Int.reduceBNe, Nat.reduceDiv, Nat.reducePow]
                repeat' apply And.intro
                all_goals first
                  | omega
                  | (show ckDraw _; rfl)
                  | skip
                refine endX [] ?_
                simp only [s1, s2, c1, c2, uA0, hch, hro, uB, hBq, uC, uD, hm, acc_eta, strsOf_arr, rowS_arr, List.length_cons, List.length_nil, ulkV_nil, ulkN_nil, ulkV_one, ulkN_one, ulkV_two, ulkN_two, FR.finishC, FR.awake13C, sameF, FH.conQ, unlockF, FR.Acc.cs, Frs.cs, beq_self_eq_true, envZK, con0, conS, strsOf_arr, rowS_arr, strsOf_cells, rowS_cells, toS, strL_st, strL_d, strL_enc, strL_up, hpN_nil, hpN_cons, zg1, shortC, zAwake13, FR.awake13C, makeC, unlockC, changeC, sameC, rotateC, zFinish, FR.finishC, retQx, go_sem, reduceCtorEq, ↓reduceIte, Nat.reduceAdd, Nat.reduceMul, Nat.reduceSub, Nat.reduceEqDiff, Nat.reduceLT, Nat.reduceBEq, Nat.reduceBNe, Nat.reduceLeDiff, Int.reduceLE, Int.reduceLT, Int.reduceToNat, Int.reduceEq, Int.reduceAdd, UInt8.reduceToNat, UInt32.reduceToNat, UInt64.reduceToNat, UInt8.reduceOfNat, UInt32.reduceOfNat, UInt64.reduceOfNat, Fin.isValue, Int.reduceSub, Int.reduceMul, Int.reduceNeg, Int.reduceMod, Int.reduceDiv, Int.reduceTDiv, Int.reduceTMod, Int.reduceBEq, Int.reduceBNe, Nat.reduceDiv, Nat.reducePow]
                all_goals first
                  | trivial
                  | rfl
                  | trace_state
theorem ringKeeps_law (w : World) (a : ByteArray) (wa : a.size ≤ maxLen) (b : ByteArray) (wb : b.size ≤ maxLen) (c : ByteArray) (wc : c.size ≤ maxLen) (f g : Frs) (hg : ∀ f ∈ GZ, f.p w) : Calls Tryd.prog 5 #[.string a, .string b, .string c, f.val, g.val] w fun e w' => e = .returned (.bool true) ∧ Below w.heap.size w w' := by
  refine (tri_callsG (lawKeeps_tri a.data.toList b.data.toList c.data.toList f g) w (vals := [.string a, .string b, .string c, f.val, g.val]) ⟨rfl, rfl, rfl, f.rel _, g.rel _, trivial⟩ hg).mono ?_
  rintro e w' ⟨u, r', rfl, hr, hb⟩
  exact ⟨by rw [show u = .bool true from hr], hb⟩
end Go.Proofs.YtahiopdkekkibaaDoor.FZ

