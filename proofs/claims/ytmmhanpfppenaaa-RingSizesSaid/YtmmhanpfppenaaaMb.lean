/-
  Layer 13: accounts written and taken.
-/
import Derived.Test.YtmmhanpfppenaaaSz
import Derived.Test.YtmmhanpfppenaaaMa
namespace Go.Proofs.Ytmmhanpfppenaaa
open Go Go.RowKit
set_option maxHeartbeats 4000000
set_option linter.unusedSimpArgs false
set_option linter.unusedVariables false
def gm3 : Nat → Option Con := fun f => match f with
  | _ => none
theorem gm3_ok : GaOkG Try.prog GN gm3 := fun f con h => by
  unfold gm3 at h
  split at h
  · cases h
theorem one13_tri (n : Int) : TriG Try.prog GN 20 [.one (.num n)] [] (.c (.one (.str [by8 n]))) [] := by
  refine tri_ofx (envNK_ok gm3_ok 7 []) Try.func20 rfl rfl (rs := [.tmp 2]) rfl rfl (by simp [envNK]) rfl ?_
  simp only [envNK, con0, conS, strsOf_arr, rowS_arr, strsOf_cells, rowS_cells, toS, strL_st, strL_d, strL_enc, strL_up, hpN_nil, hpN_cons, gm3, go_sem, reduceCtorEq, ↓reduceIte, Nat.reduceAdd, Nat.reduceMul, Nat.reduceSub, Nat.reduceEqDiff, Nat.reduceLT, Nat.reduceBEq, Nat.reduceBNe, Nat.reduceLeDiff, Int.reduceLE, Int.reduceLT, Int.reduceToNat, Int.reduceEq, Int.reduceAdd, UInt8.reduceToNat, UInt32.reduceToNat, UInt64.reduceToNat, UInt8.reduceOfNat, UInt32.reduceOfNat, UInt64.reduceOfNat, Fin.isValue, Int.reduceSub, Int.reduceMul, Int.reduceNeg, Int.reduceMod, Int.reduceDiv, Int.reduceTDiv, Int.reduceTMod, Int.reduceBEq, Int.reduceBNe, Nat.reduceDiv, Nat.reducePow]
  repeat' apply And.intro
  rotate_right
  · refine endX [] ?_
    simp only [envNK, con0, conS, strsOf_arr, rowS_arr, strsOf_cells, rowS_cells, toS, strL_st, strL_d, strL_enc, strL_up, hpN_nil, hpN_cons, gm3, go_sem, reduceCtorEq, ↓reduceIte, Nat.reduceAdd, Nat.reduceMul, Nat.reduceSub, Nat.reduceEqDiff, Nat.reduceLT, Nat.reduceBEq, Nat.reduceBNe, Nat.reduceLeDiff, Int.reduceLE, Int.reduceLT, Int.reduceToNat, Int.reduceEq, Int.reduceAdd, UInt8.reduceToNat, UInt32.reduceToNat, UInt64.reduceToNat, UInt8.reduceOfNat, UInt32.reduceOfNat, UInt64.reduceOfNat, Fin.isValue, Int.reduceSub, Int.reduceMul, Int.reduceNeg, Int.reduceMod, Int.reduceDiv, Int.reduceTDiv, Int.reduceTMod, Int.reduceBEq, Int.reduceBNe, Nat.reduceDiv, Nat.reducePow]
  all_goals first | omega | exact rfl | exact id
def one13C : Con := con0 fun args => match args with
  | [.one (.num n)] => some (.c (.one (.str [by8 n])), [])
  | _ => none
theorem one13C_ok : ConOkG Try.prog GN 20 one13C := con0_okG Try.func20 rfl rfl fun args res ob h hob => by
  split at h
  · injection h with h; injection h with h1 h2; subst h1; subst h2; exact one13_tri _
  · cases h
def putA (a : Acc) : List UInt8 := by8 a.u.length :: (a.u ++ (a.s ++ (by8 a.r :: by8 a.e :: (a.p ++ (a.n ++ (a.w ++ a.o))))))
structure SmallA (a : Acc) : Prop where
  u : a.u.length ≤ 1000
  s : a.s.length ≤ 1000
  p : a.p.length ≤ 1000
  n : a.n.length ≤ 1000
  w : a.w.length ≤ 1000
  o : a.o.length ≤ 1000
theorem putA_len (a : Acc) : (putA a).length = 3 + a.u.length + a.s.length + a.p.length + a.n.length + a.w.length + a.o.length := by
  unfold putA
  simp only [List.length_cons, List.length_append]
  omega
def putV (a : Acc) : SV := if rightB a then .tup [.one (.str (putA a)), .one (.num 0)] else .tup [.one (.str []), .one (.num 1)]
def gm4 : Nat → Option Con := fun f => match f with
  | 11 => some rightC
  | _ => none
theorem gm4_ok : GaOkG Try.prog GN gm4 := fun f con h => by
  unfold gm4 at h
  split at h
  · injection h with h; subst h; exact rightC_ok
  · cases h
set_option maxRecDepth 100000 in
theorem put_tri (a : Acc) (h : SmallA a) : TriG Try.prog GN 8 [.agg a.cs] [] (putV a) [] := by
  refine tri_ofx (envNK_ok gm4_ok 44 []) Try.func8 rfl rfl (rs := [.tmp 2, .tmp 3]) rfl rfl (by simp [envNK]) rfl ?_
  obtain ⟨u, s, r, e, p, n, w, o⟩ := a
  obtain ⟨hu, hs, hp, hn, hw, ho⟩ := h
  simp only at hu hs hp hn hw ho
  cases hr : rightB ⟨u, s, r, e, p, n, w, o⟩ with
  | false =>
    have hv : putV ⟨u, s, r, e, p, n, w, o⟩ = .tup [.one (.str []), .one (.num 1)] := by unfold putV; rw [hr]; rfl
    simp only [envNK, con0, conS, strsOf_arr, rowS_arr, strsOf_cells, rowS_cells, toS, strL_st, strL_d, strL_enc, strL_up, hpN_nil, hpN_cons, gm4, rightC, Acc.cs, hr, hv, go_sem, reduceCtorEq, ↓reduceIte, Nat.reduceAdd, Nat.reduceMul, Nat.reduceSub, Nat.reduceEqDiff, Nat.reduceLT, Nat.reduceBEq, Nat.reduceBNe, Nat.reduceLeDiff, Int.reduceLE, Int.reduceLT, Int.reduceToNat, Int.reduceEq, Int.reduceAdd, UInt8.reduceToNat, UInt32.reduceToNat, UInt64.reduceToNat, UInt8.reduceOfNat, UInt32.reduceOfNat, UInt64.reduceOfNat, Fin.isValue, Int.reduceSub, Int.reduceMul, Int.reduceNeg, Int.reduceMod, Int.reduceDiv, Int.reduceTDiv, Int.reduceTMod, Int.reduceBEq, Int.reduceBNe, Nat.reduceDiv, Nat.reducePow]
    repeat' apply And.intro
    rotate_right
    · refine endX [] ?_
      simp only [envNK, con0, conS, strsOf_arr, rowS_arr, strsOf_cells, rowS_cells, toS, strL_st, strL_d, strL_enc, strL_up, hpN_nil, hpN_cons, gm4, rightC, go_sem, reduceCtorEq, ↓reduceIte, Nat.reduceAdd, Nat.reduceMul, Nat.reduceSub, Nat.reduceEqDiff, Nat.reduceLT, Nat.reduceBEq, Nat.reduceBNe, Nat.reduceLeDiff, Int.reduceLE, Int.reduceLT, Int.reduceToNat, Int.reduceEq, Int.reduceAdd, UInt8.reduceToNat, UInt32.reduceToNat, UInt64.reduceToNat, UInt8.reduceOfNat, UInt32.reduceOfNat, UInt64.reduceOfNat, Fin.isValue, Int.reduceSub, Int.reduceMul, Int.reduceNeg, Int.reduceMod, Int.reduceDiv, Int.reduceTDiv, Int.reduceTMod, Int.reduceBEq, Int.reduceBNe, Nat.reduceDiv, Nat.reducePow]
    all_goals first | omega | exact rfl | exact id
  | true =>
    have hv : putV ⟨u, s, r, e, p, n, w, o⟩ = .tup [.one (.str (putA ⟨u, s, r, e, p, n, w, o⟩)), .one (.num 0)] := by unfold putV; rw [hr]; rfl
    simp only [envNK, con0, conS, strsOf_arr, rowS_arr, strsOf_cells, rowS_cells, toS, strL_st, strL_d, strL_enc, strL_up, hpN_nil, hpN_cons, gm4, rightC, Acc.cs, hr, hv, go_sem, reduceCtorEq, ↓reduceIte, Nat.reduceAdd, Nat.reduceMul, Nat.reduceSub, Nat.reduceEqDiff, Nat.reduceLT, Nat.reduceBEq, Nat.reduceBNe, Nat.reduceLeDiff, Int.reduceLE, Int.reduceLT, Int.reduceToNat, Int.reduceEq, Int.reduceAdd, UInt8.reduceToNat, UInt32.reduceToNat, UInt64.reduceToNat, UInt8.reduceOfNat, UInt32.reduceOfNat, UInt64.reduceOfNat, Fin.isValue, Int.reduceSub, Int.reduceMul, Int.reduceNeg, Int.reduceMod, Int.reduceDiv, Int.reduceTDiv, Int.reduceTMod, Int.reduceBEq, Int.reduceBNe, Nat.reduceDiv, Nat.reducePow]
    (repeat' apply And.intro)
    rotate_right
    · refine endX [] ?_
      simp only [envNK, con0, conS, strsOf_arr, rowS_arr, strsOf_cells, rowS_cells, toS, strL_st, strL_d, strL_enc, strL_up, hpN_nil, hpN_cons, gm4, rightC, putA, List.append_assoc, List.cons_append, List.nil_append, go_sem, reduceCtorEq, ↓reduceIte, Nat.reduceAdd, Nat.reduceMul, Nat.reduceSub, Nat.reduceEqDiff, Nat.reduceLT, Nat.reduceBEq, Nat.reduceBNe, Nat.reduceLeDiff, Int.reduceLE, Int.reduceLT, Int.reduceToNat, Int.reduceEq, Int.reduceAdd, UInt8.reduceToNat, UInt32.reduceToNat, UInt64.reduceToNat, UInt8.reduceOfNat, UInt32.reduceOfNat, UInt64.reduceOfNat, Fin.isValue, Int.reduceSub, Int.reduceMul, Int.reduceNeg, Int.reduceMod, Int.reduceDiv, Int.reduceTDiv, Int.reduceTMod, Int.reduceBEq, Int.reduceBNe, Nat.reduceDiv, Nat.reducePow]
      try ((repeat' apply And.intro) <;> first | omega | exact rfl | exact id)
    all_goals first | (simp only [List.length_append, List.length_cons, List.length_nil]; omega) | omega | exact rfl | exact id
def putC : Con := con0 fun args => match args with
  | [.agg [.str u, .str s, .num r, .num e, .str p, .str n, .str w, .str o]] => some (putV ⟨u, s, r, e, p, n, w, o⟩, [SmallA ⟨u, s, r, e, p, n, w, o⟩])
  | _ => none
theorem putC_ok : ConOkG Try.prog GN 8 putC := con0_okG Try.func8 rfl rfl fun args res ob h hob => by
  split at h
  · injection h with h; injection h with h1 h2; subst h1; subst h2; exact put_tri ⟨_, _, _, _, _, _, _, _⟩ hob.1
  · cases h
def gm5 : Nat → Option Con := fun f => match f with
  | 20 => some one13C
  | _ => none
theorem gm5_ok : GaOkG Try.prog GN gm5 := fun f con h => by
  unfold gm5 at h
  split at h
  · injection h with h; subst h; exact one13C_ok
  · cases h
set_option maxRecDepth 100000 in
theorem refPut_tri (a : Acc) (h : SmallA a) : TriG Try.prog GN 15 [.agg a.cs] [] (.c (.one (.str (putA a)))) [] := by
  refine tri_ofx (envNK_ok gm5_ok 33 []) Try.func15 rfl rfl (rs := [.tmp 2]) rfl rfl (by simp [envNK]) rfl ?_
  obtain ⟨u, s, r, e, p, n, w, o⟩ := a
  obtain ⟨hu, hs, hp, hn, hw, ho⟩ := h
  simp only at hu hs hp hn hw ho
  simp only [envNK, con0, conS, strsOf_arr, rowS_arr, strsOf_cells, rowS_cells, toS, strL_st, strL_d, strL_enc, strL_up, hpN_nil, hpN_cons, gm5, one13C, Acc.cs, go_sem, reduceCtorEq, ↓reduceIte, Nat.reduceAdd, Nat.reduceMul, Nat.reduceSub, Nat.reduceEqDiff, Nat.reduceLT, Nat.reduceBEq, Nat.reduceBNe, Nat.reduceLeDiff, Int.reduceLE, Int.reduceLT, Int.reduceToNat, Int.reduceEq, Int.reduceAdd, UInt8.reduceToNat, UInt32.reduceToNat, UInt64.reduceToNat, UInt8.reduceOfNat, UInt32.reduceOfNat, UInt64.reduceOfNat, Fin.isValue, Int.reduceSub, Int.reduceMul, Int.reduceNeg, Int.reduceMod, Int.reduceDiv, Int.reduceTDiv, Int.reduceTMod, Int.reduceBEq, Int.reduceBNe, Nat.reduceDiv, Nat.reducePow]
  (repeat' apply And.intro)
  rotate_right
  · refine endX [] ?_
    simp only [envNK, con0, conS, strsOf_arr, rowS_arr, strsOf_cells, rowS_cells, toS, strL_st, strL_d, strL_enc, strL_up, hpN_nil, hpN_cons, gm5, one13C, putA, List.append_assoc, List.cons_append, List.nil_append, go_sem, reduceCtorEq, ↓reduceIte, Nat.reduceAdd, Nat.reduceMul, Nat.reduceSub, Nat.reduceEqDiff, Nat.reduceLT, Nat.reduceBEq, Nat.reduceBNe, Nat.reduceLeDiff, Int.reduceLE, Int.reduceLT, Int.reduceToNat, Int.reduceEq, Int.reduceAdd, UInt8.reduceToNat, UInt32.reduceToNat, UInt64.reduceToNat, UInt8.reduceOfNat, UInt32.reduceOfNat, UInt64.reduceOfNat, Fin.isValue, Int.reduceSub, Int.reduceMul, Int.reduceNeg, Int.reduceMod, Int.reduceDiv, Int.reduceTDiv, Int.reduceTMod, Int.reduceBEq, Int.reduceBNe, Nat.reduceDiv, Nat.reducePow]
    try ((repeat' apply And.intro) <;> first | omega | exact rfl | exact id)
  all_goals first | (simp only [List.length_append, List.length_cons, List.length_nil]; omega) | omega | exact rfl | exact id
def refPutC : Con := con0 fun args => match args with
  | [.agg [.str u, .str s, .num r, .num e, .str p, .str n, .str w, .str o]] => some (.c (.one (.str (putA ⟨u, s, r, e, p, n, w, o⟩))), [SmallA ⟨u, s, r, e, p, n, w, o⟩])
  | _ => none
theorem refPutC_ok : ConOkG Try.prog GN 15 refPutC := con0_okG Try.func15 rfl rfl fun args res ob h hob => by
  split at h
  · injection h with h; injection h with h1 h2; subst h1; subst h2; exact refPut_tri ⟨_, _, _, _, _, _, _, _⟩ hob.1
  · cases h
theorem finish_tri (a : Acc) : TriG Try.prog GN 17 [.agg a.cs] [] (.c (.agg (Acc.cs {a with o := []}))) [] := by
  refine tri_ofx (envNK_ok gm3_ok 5 []) Try.func17 rfl rfl (rs := [.cell 2 23]) rfl rfl (by simp [envNK]) rfl ?_
  obtain ⟨u, s, r, e, p, n, w, o⟩ := a
  simp only [envNK, con0, conS, strsOf_arr, rowS_arr, strsOf_cells, rowS_cells, toS, strL_st, strL_d, strL_enc, strL_up, hpN_nil, hpN_cons, gm3, Acc.cs, go_sem, reduceCtorEq, ↓reduceIte, Nat.reduceAdd, Nat.reduceMul, Nat.reduceSub, Nat.reduceEqDiff, Nat.reduceLT, Nat.reduceBEq, Nat.reduceBNe, Nat.reduceLeDiff, Int.reduceLE, Int.reduceLT, Int.reduceToNat, Int.reduceEq, Int.reduceAdd, UInt8.reduceToNat, UInt32.reduceToNat, UInt64.reduceToNat, UInt8.reduceOfNat, UInt32.reduceOfNat, UInt64.reduceOfNat, Fin.isValue, Int.reduceSub, Int.reduceMul, Int.reduceNeg, Int.reduceMod, Int.reduceDiv, Int.reduceTDiv, Int.reduceTMod, Int.reduceBEq, Int.reduceBNe, Nat.reduceDiv, Nat.reducePow]
  repeat' apply And.intro
  rotate_right
  · refine endX [] ?_
    simp only [envNK, con0, conS, strsOf_arr, rowS_arr, strsOf_cells, rowS_cells, toS, strL_st, strL_d, strL_enc, strL_up, hpN_nil, hpN_cons, gm3, go_sem, reduceCtorEq, ↓reduceIte, Nat.reduceAdd, Nat.reduceMul, Nat.reduceSub, Nat.reduceEqDiff, Nat.reduceLT, Nat.reduceBEq, Nat.reduceBNe, Nat.reduceLeDiff, Int.reduceLE, Int.reduceLT, Int.reduceToNat, Int.reduceEq, Int.reduceAdd, UInt8.reduceToNat, UInt32.reduceToNat, UInt64.reduceToNat, UInt8.reduceOfNat, UInt32.reduceOfNat, UInt64.reduceOfNat, Fin.isValue, Int.reduceSub, Int.reduceMul, Int.reduceNeg, Int.reduceMod, Int.reduceDiv, Int.reduceTDiv, Int.reduceTMod, Int.reduceBEq, Int.reduceBNe, Nat.reduceDiv, Nat.reducePow]
    all_goals ((repeat' apply And.intro) <;> first | omega | exact rfl | exact id)
  all_goals first | omega | exact rfl | exact id
def finishC : Con := con0 fun args => match args with
  | [.agg [.str u, .str s, .num r, .num e, .str p, .str n, .str w, .str o]] => some (.c (.agg [.str u, .str s, .num r, .num e, .str p, .str n, .str w, .str []]), [])
  | _ => none
theorem finishC_ok : ConOkG Try.prog GN 17 finishC := con0_okG Try.func17 rfl rfl fun args res ob h hob => by
  split at h
  · injection h with h; injection h with h1 h2; subst h1; subst h2; exact finish_tri ⟨_, _, _, _, _, _, _, _⟩
  · cases h
theorem ref13_tri (a : Acc) : TriG Try.prog GN 10 [.agg a.cs] [] (.c (.agg a.cs)) [] := by
  refine tri_ofx (envNK_ok gm3_ok 4 []) Try.func10 rfl rfl (rs := [.cell 2 32]) rfl rfl (by simp [envNK]) rfl ?_
  obtain ⟨u, s, r, e, p, n, w, o⟩ := a
  simp only [envNK, con0, conS, strsOf_arr, rowS_arr, strsOf_cells, rowS_cells, toS, strL_st, strL_d, strL_enc, strL_up, hpN_nil, hpN_cons, gm3, Acc.cs, go_sem, reduceCtorEq, ↓reduceIte, Nat.reduceAdd, Nat.reduceMul, Nat.reduceSub, Nat.reduceEqDiff, Nat.reduceLT, Nat.reduceBEq, Nat.reduceBNe, Nat.reduceLeDiff, Int.reduceLE, Int.reduceLT, Int.reduceToNat, Int.reduceEq, Int.reduceAdd, UInt8.reduceToNat, UInt32.reduceToNat, UInt64.reduceToNat, UInt8.reduceOfNat, UInt32.reduceOfNat, UInt64.reduceOfNat, Fin.isValue, Int.reduceSub, Int.reduceMul, Int.reduceNeg, Int.reduceMod, Int.reduceDiv, Int.reduceTDiv, Int.reduceTMod, Int.reduceBEq, Int.reduceBNe, Nat.reduceDiv, Nat.reducePow]
  repeat' apply And.intro
  rotate_right
  · refine endX [] ?_
    simp only [envNK, con0, conS, strsOf_arr, rowS_arr, strsOf_cells, rowS_cells, toS, strL_st, strL_d, strL_enc, strL_up, hpN_nil, hpN_cons, gm3, go_sem, reduceCtorEq, ↓reduceIte, Nat.reduceAdd, Nat.reduceMul, Nat.reduceSub, Nat.reduceEqDiff, Nat.reduceLT, Nat.reduceBEq, Nat.reduceBNe, Nat.reduceLeDiff, Int.reduceLE, Int.reduceLT, Int.reduceToNat, Int.reduceEq, Int.reduceAdd, UInt8.reduceToNat, UInt32.reduceToNat, UInt64.reduceToNat, UInt8.reduceOfNat, UInt32.reduceOfNat, UInt64.reduceOfNat, Fin.isValue, Int.reduceSub, Int.reduceMul, Int.reduceNeg, Int.reduceMod, Int.reduceDiv, Int.reduceTDiv, Int.reduceTMod, Int.reduceBEq, Int.reduceBNe, Nat.reduceDiv, Nat.reducePow]
    all_goals ((repeat' apply And.intro) <;> first | omega | exact rfl | exact id)
  all_goals first | omega | exact rfl | exact id
def ref13C : Con := con0 fun args => match args with
  | [.agg [.str u, .str s, .num r, .num e, .str p, .str n, .str w, .str o]] => some (.c (.agg [.str u, .str s, .num r, .num e, .str p, .str n, .str w, .str o]), [])
  | _ => none
theorem ref13C_ok : ConOkG Try.prog GN 10 ref13C := con0_okG Try.func10 rfl rfl fun args res ob h hob => by
  split at h
  · injection h with h; injection h with h1 h2; subst h1; subst h2; exact ref13_tri ⟨_, _, _, _, _, _, _, _⟩
  · cases h
def cutN (n : Int) (s : List UInt8) : Nat := (min n (s.length : Int)).toNat
theorem cut13_tri (s : List UInt8) (n : Int) (hn : 0 ≤ n) (hs : s.length ≤ 9223372036854775807) : TriG Try.prog GN 19 [.one (.str s), .one (.num n)] [] (.tup [.one (.str (s.take n.toNat)), .one (.str (s.drop n.toNat))]) [] := by
  refine tri_ofx (envNK_ok gm3_ok 16 []) Try.func19 rfl rfl (rs := [.tmp 4, .tmp 5]) rfl rfl (by simp [envNK]) rfl ?_
  obtain ⟨k, hk⟩ : ∃ k : Nat, min n (s.length : Int) = (k : Int) := ⟨(min n (s.length : Int)).toNat, by omega⟩
  have e1 : s.take n.toNat = s.take k := by
    rcases Int.le_total n s.length with h | h
    · rw [Int.min_eq_left h] at hk; rw [hk]; rfl
    · rw [Int.min_eq_right h] at hk
      rw [List.take_of_length_le (by omega), List.take_of_length_le (by omega)]
  have e2 : s.drop n.toNat = s.drop k := by
    rcases Int.le_total n s.length with h | h
    · rw [Int.min_eq_left h] at hk; rw [hk]; rfl
    · rw [Int.min_eq_right h] at hk
      rw [List.drop_eq_nil_of_le (by omega), List.drop_eq_nil_of_le (by omega)]
  simp only [envNK, con0, conS, strsOf_arr, rowS_arr, strsOf_cells, rowS_cells, toS, strL_st, strL_d, strL_enc, strL_up, hpN_nil, hpN_cons, gm3, e1, e2, hk, Int.toNat_natCast, go_sem, reduceCtorEq, ↓reduceIte, Nat.reduceAdd, Nat.reduceMul, Nat.reduceSub, Nat.reduceEqDiff, Nat.reduceLT, Nat.reduceBEq, Nat.reduceBNe, Nat.reduceLeDiff, Int.reduceLE, Int.reduceLT, Int.reduceToNat, Int.reduceEq, Int.reduceAdd, UInt8.reduceToNat, UInt32.reduceToNat, UInt64.reduceToNat, UInt8.reduceOfNat, UInt32.reduceOfNat, UInt64.reduceOfNat, Fin.isValue, Int.reduceSub, Int.reduceMul, Int.reduceNeg, Int.reduceMod, Int.reduceDiv, Int.reduceTDiv, Int.reduceTMod, Int.reduceBEq, Int.reduceBNe, Nat.reduceDiv, Nat.reducePow]
  repeat' apply And.intro
  rotate_right
  · refine endX [] ?_
    simp only [envNK, con0, conS, strsOf_arr, rowS_arr, strsOf_cells, rowS_cells, toS, strL_st, strL_d, strL_enc, strL_up, hpN_nil, hpN_cons, gm3, go_sem, reduceCtorEq, ↓reduceIte, Nat.reduceAdd, Nat.reduceMul, Nat.reduceSub, Nat.reduceEqDiff, Nat.reduceLT, Nat.reduceBEq, Nat.reduceBNe, Nat.reduceLeDiff, Int.reduceLE, Int.reduceLT, Int.reduceToNat, Int.reduceEq, Int.reduceAdd, UInt8.reduceToNat, UInt32.reduceToNat, UInt64.reduceToNat, UInt8.reduceOfNat, UInt32.reduceOfNat, UInt64.reduceOfNat, Fin.isValue, Int.reduceSub, Int.reduceMul, Int.reduceNeg, Int.reduceMod, Int.reduceDiv, Int.reduceTDiv, Int.reduceTMod, Int.reduceBEq, Int.reduceBNe, Nat.reduceDiv, Nat.reducePow]
    all_goals ((repeat' apply And.intro) <;> first | omega | exact rfl | exact id)
  all_goals first | omega | exact rfl | exact id
def cut13C : Con := con0 fun args => match args with
  | [.one (.str s), .one (.num n)] => some (.tup [.one (.str (s.take n.toNat)), .one (.str (s.drop n.toNat))], [0 ≤ n, s.length ≤ 9223372036854775807])
  | _ => none
theorem cut13C_ok : ConOkG Try.prog GN 19 cut13C := con0_okG Try.func19 rfl rfl fun args res ob h hob => by
  split at h
  · injection h with h; injection h with h1 h2; subst h1; subst h2; exact cut13_tri _ _ hob.1 hob.2.1
  · cases h
/-- What is taken. -/
def tK (s : List UInt8) : Nat := (s.getD 0 0).toNat
def t1 (s : List UInt8) : List UInt8 := (s.drop 1).drop (tK s)
def t2 (s : List UInt8) : List UInt8 := (t1 s).drop 16
def tN (s : List UInt8) : List UInt8 := (t2 s).take 2
def t3 (s : List UInt8) : List UInt8 := (t2 s).drop 2
def t4 (s : List UInt8) : List UInt8 := (t3 s).drop 32
def t5 (s : List UInt8) : List UInt8 := (t4 s).drop 12
def tkA (s : List UInt8) : Acc := ⟨(s.drop 1).take (tK s), (t1 s).take 16, (((tN s).getD 0 0).toNat : Int), (((tN s).getD 1 0).toNat : Int), (t3 s).take 32, (t4 s).take 12, (t5 s).take 48, (t5 s).drop 48⟩
def zeroA : Acc := ⟨[], [], 0, 0, [], [], [], []⟩
def tkOk (s : List UInt8) : Bool := decide (0 < s.length) && ((tN s).length == 2) && (((s.drop 1).take (tK s)).length == tK s) && rightB (tkA s)
def takeV (s : List UInt8) : SV := if tkOk s then .tup [.agg (tkA s).cs, .one (.num 0)] else .tup [.agg zeroA.cs, .one (.num 3)]
def gm6 : Nat → Option Con := fun f => match f with
  | 19 => some cut13C
  | 11 => some rightC
  | _ => none
theorem gm6_ok : GaOkG Try.prog GN gm6 := fun f con h => by
  unfold gm6 at h
  split at h
  · injection h with h; subst h; exact cut13C_ok
  · injection h with h; subst h; exact rightC_ok
  · cases h
set_option maxRecDepth 100000 in
theorem take_tri (s : List UInt8) (hs : s.length ≤ 100000) : TriG Try.prog GN 14 [.one (.str s)] [] (takeV s) [] := by
  refine tri_ofx (envNK_ok gm6_ok 77 []) Try.func14 rfl rfl (rs := [.cell 2 23, .tmp 3]) rfl rfl (by simp [envNK]) rfl ?_
  cases h0 : ((s.length : Int) == 0) with
  | true =>
    have hv : takeV s = .tup [.agg zeroA.cs, .one (.num 3)] := by
      unfold takeV tkOk
      rw [decide_eq_false (show ¬ 0 < s.length by have := eq_of_beq h0; omega)]; rfl
    simp only [envNK, con0, conS, strsOf_arr, rowS_arr, strsOf_cells, rowS_cells, toS, strL_st, strL_d, strL_enc, strL_up, hpN_nil, hpN_cons, gm6, cut13C, rightC, zeroA, Acc.cs, h0, hv, go_sem, reduceCtorEq, ↓reduceIte, Nat.reduceAdd, Nat.reduceMul, Nat.reduceSub, Nat.reduceEqDiff, Nat.reduceLT, Nat.reduceBEq, Nat.reduceBNe, Nat.reduceLeDiff, Int.reduceLE, Int.reduceLT, Int.reduceToNat, Int.reduceEq, Int.reduceAdd, UInt8.reduceToNat, UInt32.reduceToNat, UInt64.reduceToNat, UInt8.reduceOfNat, UInt32.reduceOfNat, UInt64.reduceOfNat, Fin.isValue, Int.reduceSub, Int.reduceMul, Int.reduceNeg, Int.reduceMod, Int.reduceDiv, Int.reduceTDiv, Int.reduceTMod, Int.reduceBEq, Int.reduceBNe, Nat.reduceDiv, Nat.reducePow]
    repeat' apply And.intro
    rotate_right
    · refine endX [] ?_
      simp only [envNK, con0, conS, strsOf_arr, rowS_arr, strsOf_cells, rowS_cells, toS, strL_st, strL_d, strL_enc, strL_up, hpN_nil, hpN_cons, gm6, cut13C, rightC, go_sem, reduceCtorEq, ↓reduceIte, Nat.reduceAdd, Nat.reduceMul, Nat.reduceSub, Nat.reduceEqDiff, Nat.reduceLT, Nat.reduceBEq, Nat.reduceBNe, Nat.reduceLeDiff, Int.reduceLE, Int.reduceLT, Int.reduceToNat, Int.reduceEq, Int.reduceAdd, UInt8.reduceToNat, UInt32.reduceToNat, UInt64.reduceToNat, UInt8.reduceOfNat, UInt32.reduceOfNat, UInt64.reduceOfNat, Fin.isValue, Int.reduceSub, Int.reduceMul, Int.reduceNeg, Int.reduceMod, Int.reduceDiv, Int.reduceTDiv, Int.reduceTMod, Int.reduceBEq, Int.reduceBNe, Nat.reduceDiv, Nat.reducePow]
      all_goals ((repeat' apply And.intro) <;> first | omega | exact rfl | exact id)
    all_goals first | omega | exact rfl | exact id
  | false =>
    have hpos : 0 < s.length := by
      rcases Nat.eq_zero_or_pos s.length with h | h
      · rw [h] at h0; cases h0
      · exact h
    have eK : (s.getD 0 0).toNat = tK s := rfl
    have e1 : (s.drop 1).drop (tK s) = t1 s := rfl
    have e2 : (t1 s).drop 16 = t2 s := rfl
    have e3 : (t2 s).take 2 = tN s := rfl
    have e4 : (t2 s).drop 2 = t3 s := rfl
    have e5 : (t3 s).drop 32 = t4 s := rfl
    have e6 : (t4 s).drop 12 = t5 s := rfl
    have hkl : tK s < 256 := (s.getD 0 0).toNat_lt
    have l1 : (t1 s).length ≤ 100000 := by unfold t1; simp only [List.length_drop]; omega
    have l2 : (t2 s).length ≤ 100000 := by unfold t2; simp only [List.length_drop]; omega
    have l3 : (t3 s).length ≤ 100000 := by unfold t3; simp only [List.length_drop]; omega
    have l4 : (t4 s).length ≤ 100000 := by unfold t4; simp only [List.length_drop]; omega
    have l5 : (t5 s).length ≤ 100000 := by unfold t5; simp only [List.length_drop]; omega
    have l0 : (s.drop 1).length ≤ 100000 := by simp only [List.length_drop]; omega
    have ltu : ((s.drop 1).take (tK s)).length ≤ 9223372036854775807 := by simp only [List.length_take]; omega
    generalize hU : (s.drop 1).take (tK s) = U at ltu
    cases hn : (((tN s).length : Int) == 2) with
    | false =>
      have hv : takeV s = .tup [.agg zeroA.cs, .one (.num 3)] := by
        unfold takeV tkOk
        rw [beq_eq_false_iff_ne.2 (show (tN s).length ≠ 2 by intro e; rw [e] at hn; cases hn), Bool.and_false]; rfl
      simp only [envNK, con0, conS, strsOf_arr, rowS_arr, strsOf_cells, rowS_cells, toS, strL_st, strL_d, strL_enc, strL_up, hpN_nil, hpN_cons, gm6, cut13C, rightC, zeroA, Acc.cs, h0, hn, hv, eK, e1, e2, e3, e4, e5, e6, hU, Int.toNat_natCast, Int.reduceToNat, go_sem, reduceCtorEq, ↓reduceIte, Nat.reduceAdd, Nat.reduceMul, Nat.reduceSub, Nat.reduceEqDiff, Nat.reduceLT, Nat.reduceBEq, Nat.reduceBNe, Nat.reduceLeDiff, Int.reduceLE, Int.reduceLT, Int.reduceToNat, Int.reduceEq, Int.reduceAdd, UInt8.reduceToNat, UInt32.reduceToNat, UInt64.reduceToNat, UInt8.reduceOfNat, UInt32.reduceOfNat, UInt64.reduceOfNat, Fin.isValue, Int.reduceSub, Int.reduceMul, Int.reduceNeg, Int.reduceMod, Int.reduceDiv, Int.reduceTDiv, Int.reduceTMod, Int.reduceBEq, Int.reduceBNe, Nat.reduceDiv, Nat.reducePow]
      repeat' apply And.intro
      rotate_right
      · refine endX [] ?_
        simp only [envNK, con0, conS, strsOf_arr, rowS_arr, strsOf_cells, rowS_cells, toS, strL_st, strL_d, strL_enc, strL_up, hpN_nil, hpN_cons, gm6, cut13C, rightC, go_sem, reduceCtorEq, ↓reduceIte, Nat.reduceAdd, Nat.reduceMul, Nat.reduceSub, Nat.reduceEqDiff, Nat.reduceLT, Nat.reduceBEq, Nat.reduceBNe, Nat.reduceLeDiff, Int.reduceLE, Int.reduceLT, Int.reduceToNat, Int.reduceEq, Int.reduceAdd, UInt8.reduceToNat, UInt32.reduceToNat, UInt64.reduceToNat, UInt8.reduceOfNat, UInt32.reduceOfNat, UInt64.reduceOfNat, Fin.isValue, Int.reduceSub, Int.reduceMul, Int.reduceNeg, Int.reduceMod, Int.reduceDiv, Int.reduceTDiv, Int.reduceTMod, Int.reduceBEq, Int.reduceBNe, Nat.reduceDiv, Nat.reducePow]
        all_goals ((repeat' apply And.intro) <;> first | omega | exact rfl | exact id)
      all_goals first | omega | exact rfl | exact id
    | true =>
      have hn2 : (tN s).length = 2 := by have := eq_of_beq hn; omega
      have g0 : (0 : Int) ≤ 0 ∧ (0 : Int) < ((tN s).length : Int) := ⟨by omega, by omega⟩
      have g1 : (0 : Int) ≤ 1 ∧ (1 : Int) < ((tN s).length : Int) := ⟨by omega, by omega⟩
      cases hu : ((U.length : Int) == (tK s : Int)) with
      | false =>
        have hv : takeV s = .tup [.agg zeroA.cs, .one (.num 3)] := by
          unfold takeV tkOk
          rw [hU, beq_eq_false_iff_ne.2 (show U.length ≠ tK s by intro e; rw [e] at hu; simp at hu), Bool.and_false]; rfl
        simp only [envNK, con0, conS, strsOf_arr, rowS_arr, strsOf_cells, rowS_cells, toS, strL_st, strL_d, strL_enc, strL_up, hpN_nil, hpN_cons, gm6, cut13C, rightC, zeroA, Acc.cs, h0, hn, hu, hv, eK, e1, e2, e3, e4, e5, e6, hU, Int.toNat_natCast, Int.reduceToNat, go_sem, reduceCtorEq, ↓reduceIte, Nat.reduceAdd, Nat.reduceMul, Nat.reduceSub, Nat.reduceEqDiff, Nat.reduceLT, Nat.reduceBEq, Nat.reduceBNe, Nat.reduceLeDiff, Int.reduceLE, Int.reduceLT, Int.reduceToNat, Int.reduceEq, Int.reduceAdd, UInt8.reduceToNat, UInt32.reduceToNat, UInt64.reduceToNat, UInt8.reduceOfNat, UInt32.reduceOfNat, UInt64.reduceOfNat, Fin.isValue, Int.reduceSub, Int.reduceMul, Int.reduceNeg, Int.reduceMod, Int.reduceDiv, Int.reduceTDiv, Int.reduceTMod, Int.reduceBEq, Int.reduceBNe, Nat.reduceDiv, Nat.reducePow]
        repeat' apply And.intro
        rotate_right
        · refine endX [] ?_
          simp only [envNK, con0, conS, strsOf_arr, rowS_arr, strsOf_cells, rowS_cells, toS, strL_st, strL_d, strL_enc, strL_up, hpN_nil, hpN_cons, gm6, cut13C, rightC, go_sem, reduceCtorEq, ↓reduceIte, Nat.reduceAdd, Nat.reduceMul, Nat.reduceSub, Nat.reduceEqDiff, Nat.reduceLT, Nat.reduceBEq, Nat.reduceBNe, Nat.reduceLeDiff, Int.reduceLE, Int.reduceLT, Int.reduceToNat, Int.reduceEq, Int.reduceAdd, UInt8.reduceToNat, UInt32.reduceToNat, UInt64.reduceToNat, UInt8.reduceOfNat, UInt32.reduceOfNat, UInt64.reduceOfNat, Fin.isValue, Int.reduceSub, Int.reduceMul, Int.reduceNeg, Int.reduceMod, Int.reduceDiv, Int.reduceTDiv, Int.reduceTMod, Int.reduceBEq, Int.reduceBNe, Nat.reduceDiv, Nat.reducePow]
          all_goals ((repeat' apply And.intro) <;> first | omega | exact rfl | exact id)
        all_goals first | omega | exact rfl | exact id
      | true =>
        have hu2 : U.length = tK s := by have := eq_of_beq hu; omega
        cases hr : rightB ⟨U, (t1 s).take 16, (((tN s).getD 0 0).toNat : Int), (((tN s).getD 1 0).toNat : Int), (t3 s).take 32, (t4 s).take 12, (t5 s).take 48, (t5 s).drop 48⟩ with
        | false =>
          have hv : takeV s = .tup [.agg zeroA.cs, .one (.num 3)] := by
            unfold takeV tkOk tkA
            rw [hU, hr, Bool.and_false]; rfl
          simp only [envNK, con0, conS, strsOf_arr, rowS_arr, strsOf_cells, rowS_cells, toS, strL_st, strL_d, strL_enc, strL_up, hpN_nil, hpN_cons, gm6, cut13C, rightC, zeroA, Acc.cs, h0, hn, hu, hr, hv, eK, e1, e2, e3, e4, e5, e6, hU, Int.toNat_natCast, Int.reduceToNat, go_sem, reduceCtorEq, ↓reduceIte, Nat.reduceAdd, Nat.reduceMul, Nat.reduceSub, Nat.reduceEqDiff, Nat.reduceLT, Nat.reduceBEq, Nat.reduceBNe, Nat.reduceLeDiff, Int.reduceLE, Int.reduceLT, Int.reduceToNat, Int.reduceEq, Int.reduceAdd, UInt8.reduceToNat, UInt32.reduceToNat, UInt64.reduceToNat, UInt8.reduceOfNat, UInt32.reduceOfNat, UInt64.reduceOfNat, Fin.isValue, Int.reduceSub, Int.reduceMul, Int.reduceNeg, Int.reduceMod, Int.reduceDiv, Int.reduceTDiv, Int.reduceTMod, Int.reduceBEq, Int.reduceBNe, Nat.reduceDiv, Nat.reducePow]
          repeat' apply And.intro
          rotate_right
          · refine endX [] ?_
            simp only [envNK, con0, conS, strsOf_arr, rowS_arr, strsOf_cells, rowS_cells, toS, strL_st, strL_d, strL_enc, strL_up, hpN_nil, hpN_cons, gm6, cut13C, rightC, go_sem, reduceCtorEq, ↓reduceIte, Nat.reduceAdd, Nat.reduceMul, Nat.reduceSub, Nat.reduceEqDiff, Nat.reduceLT, Nat.reduceBEq, Nat.reduceBNe, Nat.reduceLeDiff, Int.reduceLE, Int.reduceLT, Int.reduceToNat, Int.reduceEq, Int.reduceAdd, UInt8.reduceToNat, UInt32.reduceToNat, UInt64.reduceToNat, UInt8.reduceOfNat, UInt32.reduceOfNat, UInt64.reduceOfNat, Fin.isValue, Int.reduceSub, Int.reduceMul, Int.reduceNeg, Int.reduceMod, Int.reduceDiv, Int.reduceTDiv, Int.reduceTMod, Int.reduceBEq, Int.reduceBNe, Nat.reduceDiv, Nat.reducePow]
            all_goals ((repeat' apply And.intro) <;> first | omega | exact rfl | exact id)
          all_goals first | omega | exact rfl | exact id
        | true =>
          have hv : takeV s = .tup [.agg [.str U, .str ((t1 s).take 16), .num (((tN s).getD 0 0).toNat : Int), .num (((tN s).getD 1 0).toNat : Int), .str ((t3 s).take 32), .str ((t4 s).take 12), .str ((t5 s).take 48), .str ((t5 s).drop 48)], .one (.num 0)] := by
            unfold takeV tkOk tkA
            rw [hU, hr, decide_eq_true hpos, hn2, hu2, beq_self_eq_true, beq_self_eq_true]; rfl
          simp only [envNK, con0, conS, strsOf_arr, rowS_arr, strsOf_cells, rowS_cells, toS, strL_st, strL_d, strL_enc, strL_up, hpN_nil, hpN_cons, gm6, cut13C, rightC, zeroA, Acc.cs, h0, hn, hu, hr, hv, eK, e1, e2, e3, e4, e5, e6, hU, Int.toNat_natCast, Int.reduceToNat, go_sem, reduceCtorEq, ↓reduceIte, Nat.reduceAdd, Nat.reduceMul, Nat.reduceSub, Nat.reduceEqDiff, Nat.reduceLT, Nat.reduceBEq, Nat.reduceBNe, Nat.reduceLeDiff, Int.reduceLE, Int.reduceLT, Int.reduceToNat, Int.reduceEq, Int.reduceAdd, UInt8.reduceToNat, UInt32.reduceToNat, UInt64.reduceToNat, UInt8.reduceOfNat, UInt32.reduceOfNat, UInt64.reduceOfNat, Fin.isValue, Int.reduceSub, Int.reduceMul, Int.reduceNeg, Int.reduceMod, Int.reduceDiv, Int.reduceTDiv, Int.reduceTMod, Int.reduceBEq, Int.reduceBNe, Nat.reduceDiv, Nat.reducePow]
          repeat' apply And.intro
          rotate_right
          · refine endX [] ?_
            simp only [envNK, con0, conS, strsOf_arr, rowS_arr, strsOf_cells, rowS_cells, toS, strL_st, strL_d, strL_enc, strL_up, hpN_nil, hpN_cons, gm6, cut13C, rightC, go_sem, reduceCtorEq, ↓reduceIte, Nat.reduceAdd, Nat.reduceMul, Nat.reduceSub, Nat.reduceEqDiff, Nat.reduceLT, Nat.reduceBEq, Nat.reduceBNe, Nat.reduceLeDiff, Int.reduceLE, Int.reduceLT, Int.reduceToNat, Int.reduceEq, Int.reduceAdd, UInt8.reduceToNat, UInt32.reduceToNat, UInt64.reduceToNat, UInt8.reduceOfNat, UInt32.reduceOfNat, UInt64.reduceOfNat, Fin.isValue, Int.reduceSub, Int.reduceMul, Int.reduceNeg, Int.reduceMod, Int.reduceDiv, Int.reduceTDiv, Int.reduceTMod, Int.reduceBEq, Int.reduceBNe, Nat.reduceDiv, Nat.reducePow]
            all_goals ((repeat' apply And.intro) <;> first | omega | exact rfl | exact id)
          all_goals first | omega | exact rfl | exact id
def takeC : Con := con0 fun args => match args with
  | [.one (.str s)] => some (takeV s, [s.length ≤ 100000])
  | _ => none
theorem takeC_ok : ConOkG Try.prog GN 14 takeC := con0_okG Try.func14 rfl rfl fun args res ob h hob => by
  split at h
  · injection h with h; injection h with h1 h2; subst h1; subst h2; exact take_tri _ hob.1
  · cases h
theorem tk_short {s : List UInt8} (h : ¬ (0 < s.length ∧ 111 + tK s ≤ s.length)) : tkOk s = false := by
  cases hb : tkOk s with
  | false => rfl
  | true =>
    exfalso
    unfold tkOk rightB tkA at hb
    simp only [Bool.and_eq_true, decide_eq_true_eq, beq_iff_eq] at hb
    obtain ⟨⟨⟨h0, h1⟩, h2⟩, ⟨⟨⟨⟨⟨⟨_, h3⟩, _⟩, _⟩, h4⟩, h5⟩, h6⟩, _⟩ := hb
    simp only [tN, t1, t2, t3, t4, t5, List.length_take, List.length_drop] at h1 h2 h3 h4 h5 h6
    omega
theorem tk_long {s : List UInt8} (h0 : 0 < s.length) (h : 111 + tK s ≤ s.length) : tkOk s = rightB (tkA s) := by
  unfold tkOk
  have e1 : (tN s).length = 2 := by simp only [tN, t1, t2, List.length_take, List.length_drop]; omega
  have e2 : ((s.drop 1).take (tK s)).length = tK s := by simp only [List.length_take, List.length_drop]; omega
  rw [decide_eq_true h0, e1, e2, beq_self_eq_true, beq_self_eq_true]
  rfl
def refTakeV (s : List UInt8) : SV := if tkOk s then .tup [.agg (tkA s).cs, .one (.bo true)] else .tup [.agg zeroA.cs, .one (.bo false)]
theorem tk_ref (s : List UInt8) : tkA s = ⟨(s.drop 1).take (1 + tK s - 1), (s.drop (1 + tK s)).take 16, (((s.drop (1 + tK s)).getD 16 0).toNat : Int), (((s.drop (1 + tK s)).getD 17 0).toNat : Int), ((s.drop (1 + tK s)).drop 18).take 32, ((s.drop (1 + tK s)).drop 50).take 12, ((s.drop (1 + tK s)).drop 62).take 48, (s.drop (1 + tK s)).drop 110⟩ := by
  have e1 : t1 s = s.drop (1 + tK s) := by unfold t1; rw [List.drop_drop]
  unfold tkA tN t5 t4 t3 t2
  rw [e1]
  generalize s.drop (1 + tK s) = T
  simp only [List.drop_drop, Nat.reduceAdd, Nat.add_sub_cancel_left]
  congr 1
  · rw [List.getD_eq_getElem?_getD, List.getElem?_take, if_pos (by decide), List.getElem?_drop, ← List.getD_eq_getElem?_getD]
  · rw [List.getD_eq_getElem?_getD, List.getElem?_take, if_pos (by decide), List.getElem?_drop, ← List.getD_eq_getElem?_getD]
def gm7 : Nat → Option Con := fun f => match f with
  | 9 => some refRightC
  | _ => none
theorem gm7_ok : GaOkG Try.prog GN gm7 := fun f con h => by
  unfold gm7 at h
  split at h
  · injection h with h; subst h; exact refRightC_ok
  · cases h
set_option maxRecDepth 100000 in
theorem refTake_tri (s : List UInt8) (hs : s.length ≤ 100000) : TriG Try.prog GN 16 [.one (.str s)] [] (refTakeV s) [] := by
  refine tri_ofx (envNK_ok gm7_ok 53 []) Try.func16 rfl rfl (rs := [.cell 2 32, .tmp 3]) rfl rfl (by simp [envNK]) rfl ?_
  have bad : tkOk s = false → refTakeV s = .tup [.agg zeroA.cs, .one (.bo false)] := fun h => by unfold refTakeV; rw [h]; rfl
  cases h0 : ((s.length : Int) == 0) with
  | true =>
    have hv := bad (tk_short fun h => by have := eq_of_beq h0; omega)
    simp only [envNK, con0, conS, strsOf_arr, rowS_arr, strsOf_cells, rowS_cells, toS, strL_st, strL_d, strL_enc, strL_up, hpN_nil, hpN_cons, gm7, refRightC, zeroA, Acc.cs, h0, hv, go_sem, reduceCtorEq, ↓reduceIte, Nat.reduceAdd, Nat.reduceMul, Nat.reduceSub, Nat.reduceEqDiff, Nat.reduceLT, Nat.reduceBEq, Nat.reduceBNe, Nat.reduceLeDiff, Int.reduceLE, Int.reduceLT, Int.reduceToNat, Int.reduceEq, Int.reduceAdd, UInt8.reduceToNat, UInt32.reduceToNat, UInt64.reduceToNat, UInt8.reduceOfNat, UInt32.reduceOfNat, UInt64.reduceOfNat, Fin.isValue, Int.reduceSub, Int.reduceMul, Int.reduceNeg, Int.reduceMod, Int.reduceDiv, Int.reduceTDiv, Int.reduceTMod, Int.reduceBEq, Int.reduceBNe, Nat.reduceDiv, Nat.reducePow]
    repeat' apply And.intro
    rotate_right
    · refine endX [] ?_
      simp only [envNK, con0, conS, strsOf_arr, rowS_arr, strsOf_cells, rowS_cells, toS, strL_st, strL_d, strL_enc, strL_up, hpN_nil, hpN_cons, gm7, refRightC, go_sem, reduceCtorEq, ↓reduceIte, Nat.reduceAdd, Nat.reduceMul, Nat.reduceSub, Nat.reduceEqDiff, Nat.reduceLT, Nat.reduceBEq, Nat.reduceBNe, Nat.reduceLeDiff, Int.reduceLE, Int.reduceLT, Int.reduceToNat, Int.reduceEq, Int.reduceAdd, UInt8.reduceToNat, UInt32.reduceToNat, UInt64.reduceToNat, UInt8.reduceOfNat, UInt32.reduceOfNat, UInt64.reduceOfNat, Fin.isValue, Int.reduceSub, Int.reduceMul, Int.reduceNeg, Int.reduceMod, Int.reduceDiv, Int.reduceTDiv, Int.reduceTMod, Int.reduceBEq, Int.reduceBNe, Nat.reduceDiv, Nat.reducePow]
      all_goals ((repeat' apply And.intro) <;> first | omega | exact rfl | exact id)
    all_goals first | omega | exact rfl | exact id
  | false =>
    have hpos : 0 < s.length := by
      rcases Nat.eq_zero_or_pos s.length with h | h
      · rw [h] at h0; cases h0
      · exact h
    have hg0 : (0 : Int) ≤ 0 ∧ (0 : Int) < (s.length : Int) := ⟨by omega, by omega⟩
    have eK : (s.getD 0 0).toNat = tK s := rfl
    have hkl : tK s < 256 := (s.getD 0 0).toNat_lt
    have w1 : IntKind.i64.wrap (111 + (tK s : Int)) = ((111 + tK s : Nat) : Int) := by rw [IntKind.wrap_i64]; omega
    have w2 : IntKind.i64.wrap (1 + (tK s : Int)) = ((1 + tK s : Nat) : Int) := by rw [IntKind.wrap_i64]; omega
    cases h1 : decide ((s.length : Int) < ((111 + tK s : Nat) : Int)) with
    | true =>
      have hv := bad (tk_short fun h => by have := of_decide_eq_true h1; omega)
      simp only [envNK, con0, conS, strsOf_arr, rowS_arr, strsOf_cells, rowS_cells, toS, strL_st, strL_d, strL_enc, strL_up, hpN_nil, hpN_cons, gm7, refRightC, zeroA, Acc.cs, h0, h1, hg0, hv, eK, w1, w2, Int.toNat_natCast, Int.reduceToNat, go_sem, reduceCtorEq, ↓reduceIte, Nat.reduceAdd, Nat.reduceMul, Nat.reduceSub, Nat.reduceEqDiff, Nat.reduceLT, Nat.reduceBEq, Nat.reduceBNe, Nat.reduceLeDiff, Int.reduceLE, Int.reduceLT, Int.reduceToNat, Int.reduceEq, Int.reduceAdd, UInt8.reduceToNat, UInt32.reduceToNat, UInt64.reduceToNat, UInt8.reduceOfNat, UInt32.reduceOfNat, UInt64.reduceOfNat, Fin.isValue, Int.reduceSub, Int.reduceMul, Int.reduceNeg, Int.reduceMod, Int.reduceDiv, Int.reduceTDiv, Int.reduceTMod, Int.reduceBEq, Int.reduceBNe, Nat.reduceDiv, Nat.reducePow]
      repeat' apply And.intro
      rotate_right
      · refine endX [] ?_
        simp only [envNK, con0, conS, strsOf_arr, rowS_arr, strsOf_cells, rowS_cells, toS, strL_st, strL_d, strL_enc, strL_up, hpN_nil, hpN_cons, gm7, refRightC, go_sem, reduceCtorEq, ↓reduceIte, Nat.reduceAdd, Nat.reduceMul, Nat.reduceSub, Nat.reduceEqDiff, Nat.reduceLT, Nat.reduceBEq, Nat.reduceBNe, Nat.reduceLeDiff, Int.reduceLE, Int.reduceLT, Int.reduceToNat, Int.reduceEq, Int.reduceAdd, UInt8.reduceToNat, UInt32.reduceToNat, UInt64.reduceToNat, UInt8.reduceOfNat, UInt32.reduceOfNat, UInt64.reduceOfNat, Fin.isValue, Int.reduceSub, Int.reduceMul, Int.reduceNeg, Int.reduceMod, Int.reduceDiv, Int.reduceTDiv, Int.reduceTMod, Int.reduceBEq, Int.reduceBNe, Nat.reduceDiv, Nat.reducePow]
        all_goals ((repeat' apply And.intro) <;> first | omega | exact rfl | exact id)
      all_goals first | omega | exact rfl | exact id
    | false =>
      have hl : 111 + tK s ≤ s.length := by have := of_decide_eq_false h1; omega
      have hr := tk_long hpos hl
      have hA := tk_ref s
      have hlt : (s.drop (1 + tK s)).length ≤ 100000 ∧ 110 ≤ (s.drop (1 + tK s)).length := by simp only [List.length_drop]; omega
      have hlu : ((s.drop 1).take (1 + tK s - 1)).length ≤ 9223372036854775807 := by simp only [List.length_drop, List.length_take]; omega
      obtain ⟨hlt1, hlt2⟩ := hlt
      rw [hA] at hr
      cases hk : tkOk s with
      | false =>
        have hv := bad hk
        rw [hk] at hr
        have hr := hr.symm
        simp only [envNK, con0, conS, strsOf_arr, rowS_arr, strsOf_cells, rowS_cells, toS, strL_st, strL_d, strL_enc, strL_up, hpN_nil, hpN_cons, gm7, refRightC, zeroA, Acc.cs, h0, h1, hv, hr, eK, w1, w2, Int.toNat_natCast, Int.reduceToNat, go_sem, reduceCtorEq, ↓reduceIte, Nat.reduceAdd, Nat.reduceMul, Nat.reduceSub, Nat.reduceEqDiff, Nat.reduceLT, Nat.reduceBEq, Nat.reduceBNe, Nat.reduceLeDiff, Int.reduceLE, Int.reduceLT, Int.reduceToNat, Int.reduceEq, Int.reduceAdd, UInt8.reduceToNat, UInt32.reduceToNat, UInt64.reduceToNat, UInt8.reduceOfNat, UInt32.reduceOfNat, UInt64.reduceOfNat, Fin.isValue, Int.reduceSub, Int.reduceMul, Int.reduceNeg, Int.reduceMod, Int.reduceDiv, Int.reduceTDiv, Int.reduceTMod, Int.reduceBEq, Int.reduceBNe, Nat.reduceDiv, Nat.reducePow]
        repeat' apply And.intro
        rotate_right
        · refine endX [] ?_
          simp only [envNK, con0, conS, strsOf_arr, rowS_arr, strsOf_cells, rowS_cells, toS, strL_st, strL_d, strL_enc, strL_up, hpN_nil, hpN_cons, gm7, refRightC, go_sem, reduceCtorEq, ↓reduceIte, Nat.reduceAdd, Nat.reduceMul, Nat.reduceSub, Nat.reduceEqDiff, Nat.reduceLT, Nat.reduceBEq, Nat.reduceBNe, Nat.reduceLeDiff, Int.reduceLE, Int.reduceLT, Int.reduceToNat, Int.reduceEq, Int.reduceAdd, UInt8.reduceToNat, UInt32.reduceToNat, UInt64.reduceToNat, UInt8.reduceOfNat, UInt32.reduceOfNat, UInt64.reduceOfNat, Fin.isValue, Int.reduceSub, Int.reduceMul, Int.reduceNeg, Int.reduceMod, Int.reduceDiv, Int.reduceTDiv, Int.reduceTMod, Int.reduceBEq, Int.reduceBNe, Nat.reduceDiv, Nat.reducePow]
          all_goals ((repeat' apply And.intro) <;> first | omega | exact rfl | exact id)
        all_goals first | omega | exact rfl | exact id
      | true =>
        have hv : refTakeV s = .tup [.agg (tkA s).cs, .one (.bo true)] := by unfold refTakeV; rw [hk]; rfl
        rw [hk] at hr
        have hr := hr.symm
        rw [hv]
        simp only [Acc.cs]
        rw [hA]
        simp only [envNK, con0, conS, strsOf_arr, rowS_arr, strsOf_cells, rowS_cells, toS, strL_st, strL_d, strL_enc, strL_up, hpN_nil, hpN_cons, gm7, refRightC, zeroA, Acc.cs, h0, h1, hr, eK, w1, w2, Int.toNat_natCast, Int.reduceToNat, go_sem, reduceCtorEq, ↓reduceIte, Nat.reduceAdd, Nat.reduceMul, Nat.reduceSub, Nat.reduceEqDiff, Nat.reduceLT, Nat.reduceBEq, Nat.reduceBNe, Nat.reduceLeDiff, Int.reduceLE, Int.reduceLT, Int.reduceToNat, Int.reduceEq, Int.reduceAdd, UInt8.reduceToNat, UInt32.reduceToNat, UInt64.reduceToNat, UInt8.reduceOfNat, UInt32.reduceOfNat, UInt64.reduceOfNat, Fin.isValue, Int.reduceSub, Int.reduceMul, Int.reduceNeg, Int.reduceMod, Int.reduceDiv, Int.reduceTDiv, Int.reduceTMod, Int.reduceBEq, Int.reduceBNe, Nat.reduceDiv, Nat.reducePow]
        repeat' apply And.intro
        rotate_right
        · refine endX [] ?_
          simp only [envNK, con0, conS, strsOf_arr, rowS_arr, strsOf_cells, rowS_cells, toS, strL_st, strL_d, strL_enc, strL_up, hpN_nil, hpN_cons, gm7, refRightC, go_sem, reduceCtorEq, ↓reduceIte, Nat.reduceAdd, Nat.reduceMul, Nat.reduceSub, Nat.reduceEqDiff, Nat.reduceLT, Nat.reduceBEq, Nat.reduceBNe, Nat.reduceLeDiff, Int.reduceLE, Int.reduceLT, Int.reduceToNat, Int.reduceEq, Int.reduceAdd, UInt8.reduceToNat, UInt32.reduceToNat, UInt64.reduceToNat, UInt8.reduceOfNat, UInt32.reduceOfNat, UInt64.reduceOfNat, Fin.isValue, Int.reduceSub, Int.reduceMul, Int.reduceNeg, Int.reduceMod, Int.reduceDiv, Int.reduceTDiv, Int.reduceTMod, Int.reduceBEq, Int.reduceBNe, Nat.reduceDiv, Nat.reducePow]
          all_goals ((repeat' apply And.intro) <;> first | omega | exact rfl | exact id)
        all_goals first | omega | exact rfl | exact id
def refTakeC : Con := con0 fun args => match args with
  | [.one (.str s)] => some (refTakeV s, [s.length ≤ 100000])
  | _ => none
theorem refTakeC_ok : ConOkG Try.prog GN 16 refTakeC := con0_okG Try.func16 rfl rfl fun args res ob h hob => by
  split at h
  · injection h with h; injection h with h1 h2; subst h1; subst h2; exact refTake_tri _ hob.1
  · cases h
end Go.Proofs.Ytmmhanpfppenaaa
