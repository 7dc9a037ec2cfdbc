/-
  Layer 13: what is put is taken; what is taken is put; how long it is.
-/
import Derived.Test.YtmmhanpfppenaaaSz
import Derived.Test.YtmmhanpfppenaaaMb
import Derived.Test.YtmmhanpfppenaaaRw
namespace Go.Proofs.Ytmmhanpfppenaaa
open Go Go.RowKit Go.ChangeShapes Go.WideShapes
set_option maxHeartbeats 4000000
set_option linter.unusedSimpArgs false
set_option linter.unusedVariables false
theorem by8_nat (n : Nat) (h : n < 256) : (by8 (n : Int)).toNat = n := by
  unfold by8
  simp [IntKind.wrap, UInt8.toNat_ofNat']
  omega
theorem by8_u8 (x : UInt8) : by8 (x.toNat : Int) = x := UInt8.toNat_inj.1 (by8_nat _ x.toNat_lt)
structure RightA (a : Acc) : Prop where
  u : 1 ≤ a.u.length ∧ a.u.length ≤ 8
  s : a.s.length = 16
  r : 1 ≤ a.r ∧ a.r ≤ 64
  e : a.e = 0 ∨ a.e = 1
  p : a.p.length = 32
  n : a.n.length = 12
  w : a.w.length = 48
  o : a.o.length = 0 ∨ a.o.length = 48
theorem right_spec {a : Acc} (h : rightB a = true) : RightA a := by
  unfold rightB usrB at h
  simp only [Bool.and_eq_true, Bool.or_eq_true, decide_eq_true_eq, beq_iff_eq] at h
  obtain ⟨⟨⟨⟨⟨⟨⟨⟨⟨h1, h2⟩, _⟩, h3⟩, h4⟩, h5⟩, h6⟩, h7⟩, h8⟩, h9⟩ := h
  exact ⟨⟨h1, h2⟩, by omega, h4, h5, by omega, by omega, by omega, by omega⟩
theorem put_take {a : Acc} (h : rightB a = true) : tkA (putA a) = a ∧ tkOk (putA a) = true := by
  have hs := right_spec h
  obtain ⟨u, s, r, e, p, n, w, o⟩ := a
  obtain ⟨hu, hsl, hr, he, hp, hn, hw, ho⟩ := hs
  simp only at hu hsl hr he hp hn hw ho
  obtain ⟨rn, rfl⟩ : ∃ k : Nat, r = (k : Int) := ⟨r.toNat, by omega⟩
  obtain ⟨en, rfl⟩ : ∃ k : Nat, e = (k : Int) := ⟨e.toNat, by omega⟩
  have eK : tK (putA ⟨u, s, rn, en, p, n, w, o⟩) = u.length := by
    show (by8 (u.length : Int)).toNat = _
    exact by8_nat _ (by omega)
  have d1 : (putA ⟨u, s, rn, en, p, n, w, o⟩).drop 1 = u ++ (s ++ (by8 rn :: by8 en :: (p ++ (n ++ (w ++ o))))) := rfl
  have e1 : t1 (putA ⟨u, s, rn, en, p, n, w, o⟩) = s ++ (by8 rn :: by8 en :: (p ++ (n ++ (w ++ o)))) := by unfold t1; rw [eK, d1, List.drop_left' rfl]
  have e2 : t2 (putA ⟨u, s, rn, en, p, n, w, o⟩) = by8 rn :: by8 en :: (p ++ (n ++ (w ++ o))) := by unfold t2; rw [e1, List.drop_left' hsl]
  have e3 : t3 (putA ⟨u, s, rn, en, p, n, w, o⟩) = p ++ (n ++ (w ++ o)) := by unfold t3; rw [e2]; rfl
  have eN : tN (putA ⟨u, s, rn, en, p, n, w, o⟩) = [by8 rn, by8 en] := by unfold tN; rw [e2]; rfl
  have e4 : t4 (putA ⟨u, s, rn, en, p, n, w, o⟩) = n ++ (w ++ o) := by unfold t4; rw [e3, List.drop_left' hp]
  have e5 : t5 (putA ⟨u, s, rn, en, p, n, w, o⟩) = w ++ o := by unfold t5; rw [e4, List.drop_left' hn]
  have hA : tkA (putA ⟨u, s, rn, en, p, n, w, o⟩) = ⟨u, s, rn, en, p, n, w, o⟩ := by
    unfold tkA
    rw [eK, d1, e1, eN, e3, e4, e5, List.take_left' rfl, List.take_left' hsl, List.take_left' hp, List.take_left' hn, List.take_left' hw, List.drop_left' hw]
    congr 1
    · show ((by8 (rn : Int)).toNat : Int) = _
      rw [by8_nat _ (by omega)]
    · show ((by8 (en : Int)).toNat : Int) = _
      rw [by8_nat _ (by omega)]
  refine ⟨hA, ?_⟩
  unfold tkOk
  rw [hA, h, eN, eK, d1, List.take_left' rfl]
  simp [putA]
theorem take_put {s : List UInt8} (h : tkOk s = true) : putA (tkA s) = s ∧ rightB (tkA s) = true := by
  unfold tkOk at h
  simp only [Bool.and_eq_true, decide_eq_true_eq, beq_iff_eq] at h
  obtain ⟨⟨⟨h0, h1⟩, h2⟩, h3⟩ := h
  refine ⟨?_, h3⟩
  have hN : ∃ x y, t2 s = x :: y :: t3 s := by
    unfold t3
    have : ((t2 s).take 2).length = 2 := h1
    match hq : t2 s, this with
    | x :: y :: t, _ => exact ⟨x, y, rfl⟩
    | [x], h => simp at h
    | [], h => simp at h
  obtain ⟨x, y, hxy⟩ := hN
  have eN : tN s = [x, y] := by unfold tN; rw [hxy]; rfl
  unfold putA tkA
  simp only [eN, List.getD_cons_zero, List.getD_cons_succ, h2]
  have ex : by8 (x.toNat : Int) = x := by8_u8 x
  have ey : by8 (y.toNat : Int) = y := by8_u8 y
  rw [ex, ey]
  have e5 : (t5 s).take 48 ++ (t5 s).drop 48 = t5 s := List.take_append_drop _ _
  have e4 : (t4 s).take 12 ++ t5 s = t4 s := List.take_append_drop _ _
  have e3 : (t3 s).take 32 ++ t4 s = t3 s := List.take_append_drop _ _
  have e1 : (t1 s).take 16 ++ t2 s = t1 s := List.take_append_drop _ _
  have e0 : (s.drop 1).take (tK s) ++ t1 s = s.drop 1 := List.take_append_drop _ _
  rw [e5, e4, e3, ← hxy, e1, e0]
  cases s with
  | nil => simp at h0
  | cons c t =>
    show by8 ((tK (c :: t) : Nat) : Int) :: t = c :: t
    congr 1
    exact by8_u8 c
theorem tk_small {s : List UInt8} (h : s.length ≤ 512) : SmallA (tkA s) := by
  refine ⟨?_, ?_, ?_, ?_, ?_, ?_⟩ <;> simp only [tkA, t1, t2, t3, t4, t5, List.length_take, List.length_drop] <;> omega
def shortB (a : Acc) : Bool := decide ((a.u.length : Int) ≤ 300) && decide ((a.s.length : Int) ≤ 100) && decide ((a.p.length : Int) ≤ 100) && decide ((a.n.length : Int) ≤ 100) && decide ((a.w.length : Int) ≤ 100) && decide ((a.o.length : Int) ≤ 400)
theorem short_small {a : Acc} (h : shortB a = true) : SmallA a := by
  unfold shortB at h
  simp only [Bool.and_eq_true, decide_eq_true_eq] at h
  obtain ⟨⟨⟨⟨⟨h1, h2⟩, h3⟩, h4⟩, h5⟩, h6⟩ := h
  exact ⟨by omega, by omega, by omega, by omega, by omega, by omega⟩
def gm8 : Nat → Option Con := fun f => match f with
  | _ => none
theorem gm8_ok : GaOkG Try.prog GN gm8 := fun f con h => by
  unfold gm8 at h
  split at h
  · cases h
set_option maxRecDepth 100000 in
theorem short13_tri (a : Acc) : TriG Try.prog GN 6 [.agg a.cs, .agg [.str [], .str [], .str [], .num 0]] [] (.c (.one (.bo (shortB a)))) [] := by
  refine tri_ofx (envNK_ok gm8_ok 57 []) Try.func6 rfl rfl (rs := [.tmp 4]) rfl rfl (by simp [envNK]) rfl ?_
  obtain ⟨u, s, r, e, p, n, w, o⟩ := a
  cases h1 : decide ((u.length : Int) ≤ 300) with
  | false =>
    have hv : shortB ⟨u, s, r, e, p, n, w, o⟩ = false := by unfold shortB; simp only [h1, Bool.true_and, Bool.and_true, Bool.false_and, Bool.and_false]
    simp only [envNK, con0, conS, strsOf_arr, rowS_arr, strsOf_cells, rowS_cells, toS, strL_st, strL_d, strL_enc, strL_up, hpN_nil, hpN_cons, gm8, Acc.cs, hv, h1, List.length_nil, go_sem, reduceCtorEq, ↓reduceIte, Nat.reduceAdd, Nat.reduceMul, Nat.reduceSub, Nat.reduceEqDiff, Nat.reduceLT, Nat.reduceBEq, Nat.reduceBNe, Nat.reduceLeDiff, Int.reduceLE, Int.reduceLT, Int.reduceToNat, Int.reduceEq, Int.reduceAdd, UInt8.reduceToNat, UInt32.reduceToNat, UInt64.reduceToNat, UInt8.reduceOfNat, UInt32.reduceOfNat, UInt64.reduceOfNat, Fin.isValue, Int.reduceSub, Int.reduceMul, Int.reduceNeg, Int.reduceMod, Int.reduceDiv, Int.reduceTDiv, Int.reduceTMod, Int.reduceBEq, Int.reduceBNe, Nat.reduceDiv, Nat.reducePow]
    (repeat' apply And.intro)
    rotate_right
    · refine endX [] ?_
      simp only [envNK, con0, conS, strsOf_arr, rowS_arr, strsOf_cells, rowS_cells, toS, strL_st, strL_d, strL_enc, strL_up, hpN_nil, hpN_cons, gm8, hv, go_sem, reduceCtorEq, ↓reduceIte, Nat.reduceAdd, Nat.reduceMul, Nat.reduceSub, Nat.reduceEqDiff, Nat.reduceLT, Nat.reduceBEq, Nat.reduceBNe, Nat.reduceLeDiff, Int.reduceLE, Int.reduceLT, Int.reduceToNat, Int.reduceEq, Int.reduceAdd, UInt8.reduceToNat, UInt32.reduceToNat, UInt64.reduceToNat, UInt8.reduceOfNat, UInt32.reduceOfNat, UInt64.reduceOfNat, Fin.isValue, Int.reduceSub, Int.reduceMul, Int.reduceNeg, Int.reduceMod, Int.reduceDiv, Int.reduceTDiv, Int.reduceTMod, Int.reduceBEq, Int.reduceBNe, Nat.reduceDiv, Nat.reducePow]
    all_goals first | omega | exact rfl | exact id | assumption
  | true =>
    cases h2 : decide ((s.length : Int) ≤ 100) with
    | false =>
      have hv : shortB ⟨u, s, r, e, p, n, w, o⟩ = false := by unfold shortB; simp only [h1, h2, Bool.true_and, Bool.and_true, Bool.false_and, Bool.and_false]
      simp only [envNK, con0, conS, strsOf_arr, rowS_arr, strsOf_cells, rowS_cells, toS, strL_st, strL_d, strL_enc, strL_up, hpN_nil, hpN_cons, gm8, Acc.cs, hv, h1, h2, List.length_nil, go_sem, reduceCtorEq, ↓reduceIte, Nat.reduceAdd, Nat.reduceMul, Nat.reduceSub, Nat.reduceEqDiff, Nat.reduceLT, Nat.reduceBEq, Nat.reduceBNe, Nat.reduceLeDiff, Int.reduceLE, Int.reduceLT, Int.reduceToNat, Int.reduceEq, Int.reduceAdd, UInt8.reduceToNat, UInt32.reduceToNat, UInt64.reduceToNat, UInt8.reduceOfNat, UInt32.reduceOfNat, UInt64.reduceOfNat, Fin.isValue, Int.reduceSub, Int.reduceMul, Int.reduceNeg, Int.reduceMod, Int.reduceDiv, Int.reduceTDiv, Int.reduceTMod, Int.reduceBEq, Int.reduceBNe, Nat.reduceDiv, Nat.reducePow]
      (repeat' apply And.intro)
      rotate_right
      · refine endX [] ?_
        simp only [envNK, con0, conS, strsOf_arr, rowS_arr, strsOf_cells, rowS_cells, toS, strL_st, strL_d, strL_enc, strL_up, hpN_nil, hpN_cons, gm8, hv, go_sem, reduceCtorEq, ↓reduceIte, Nat.reduceAdd, Nat.reduceMul, Nat.reduceSub, Nat.reduceEqDiff, Nat.reduceLT, Nat.reduceBEq, Nat.reduceBNe, Nat.reduceLeDiff, Int.reduceLE, Int.reduceLT, Int.reduceToNat, Int.reduceEq, Int.reduceAdd, UInt8.reduceToNat, UInt32.reduceToNat, UInt64.reduceToNat, UInt8.reduceOfNat, UInt32.reduceOfNat, UInt64.reduceOfNat, Fin.isValue, Int.reduceSub, Int.reduceMul, Int.reduceNeg, Int.reduceMod, Int.reduceDiv, Int.reduceTDiv, Int.reduceTMod, Int.reduceBEq, Int.reduceBNe, Nat.reduceDiv, Nat.reducePow]
      all_goals first | omega | exact rfl | exact id | assumption
    | true =>
      cases h3 : decide ((p.length : Int) ≤ 100) with
      | false =>
        have hv : shortB ⟨u, s, r, e, p, n, w, o⟩ = false := by unfold shortB; simp only [h1, h2, h3, Bool.true_and, Bool.and_true, Bool.false_and, Bool.and_false]
        simp only [envNK, con0, conS, strsOf_arr, rowS_arr, strsOf_cells, rowS_cells, toS, strL_st, strL_d, strL_enc, strL_up, hpN_nil, hpN_cons, gm8, Acc.cs, hv, h1, h2, h3, List.length_nil, go_sem, reduceCtorEq, ↓reduceIte, Nat.reduceAdd, Nat.reduceMul, Nat.reduceSub, Nat.reduceEqDiff, Nat.reduceLT, Nat.reduceBEq, Nat.reduceBNe, Nat.reduceLeDiff, Int.reduceLE, Int.reduceLT, Int.reduceToNat, Int.reduceEq, Int.reduceAdd, UInt8.reduceToNat, UInt32.reduceToNat, UInt64.reduceToNat, UInt8.reduceOfNat, UInt32.reduceOfNat, UInt64.reduceOfNat, Fin.isValue, Int.reduceSub, Int.reduceMul, Int.reduceNeg, Int.reduceMod, Int.reduceDiv, Int.reduceTDiv, Int.reduceTMod, Int.reduceBEq, Int.reduceBNe, Nat.reduceDiv, Nat.reducePow]
        (repeat' apply And.intro)
        rotate_right
        · refine endX [] ?_
          simp only [envNK, con0, conS, strsOf_arr, rowS_arr, strsOf_cells, rowS_cells, toS, strL_st, strL_d, strL_enc, strL_up, hpN_nil, hpN_cons, gm8, hv, go_sem, reduceCtorEq, ↓reduceIte, Nat.reduceAdd, Nat.reduceMul, Nat.reduceSub, Nat.reduceEqDiff, Nat.reduceLT, Nat.reduceBEq, Nat.reduceBNe, Nat.reduceLeDiff, Int.reduceLE, Int.reduceLT, Int.reduceToNat, Int.reduceEq, Int.reduceAdd, UInt8.reduceToNat, UInt32.reduceToNat, UInt64.reduceToNat, UInt8.reduceOfNat, UInt32.reduceOfNat, UInt64.reduceOfNat, Fin.isValue, Int.reduceSub, Int.reduceMul, Int.reduceNeg, Int.reduceMod, Int.reduceDiv, Int.reduceTDiv, Int.reduceTMod, Int.reduceBEq, Int.reduceBNe, Nat.reduceDiv, Nat.reducePow]
        all_goals first | omega | exact rfl | exact id | assumption
      | true =>
        cases h4 : decide ((n.length : Int) ≤ 100) with
        | false =>
          have hv : shortB ⟨u, s, r, e, p, n, w, o⟩ = false := by unfold shortB; simp only [h1, h2, h3, h4, Bool.true_and, Bool.and_true, Bool.false_and, Bool.and_false]
          simp only [envNK, con0, conS, strsOf_arr, rowS_arr, strsOf_cells, rowS_cells, toS, strL_st, strL_d, strL_enc, strL_up, hpN_nil, hpN_cons, gm8, Acc.cs, hv, h1, h2, h3, h4, List.length_nil, go_sem, reduceCtorEq, ↓reduceIte, Nat.reduceAdd, Nat.reduceMul, Nat.reduceSub, Nat.reduceEqDiff, Nat.reduceLT, Nat.reduceBEq, Nat.reduceBNe, Nat.reduceLeDiff, Int.reduceLE, Int.reduceLT, Int.reduceToNat, Int.reduceEq, Int.reduceAdd, UInt8.reduceToNat, UInt32.reduceToNat, UInt64.reduceToNat, UInt8.reduceOfNat, UInt32.reduceOfNat, UInt64.reduceOfNat, Fin.isValue, Int.reduceSub, Int.reduceMul, Int.reduceNeg, Int.reduceMod, Int.reduceDiv, Int.reduceTDiv, Int.reduceTMod, Int.reduceBEq, Int.reduceBNe, Nat.reduceDiv, Nat.reducePow]
          (repeat' apply And.intro)
          rotate_right
          · refine endX [] ?_
            simp only [envNK, con0, conS, strsOf_arr, rowS_arr, strsOf_cells, rowS_cells, toS, strL_st, strL_d, strL_enc, strL_up, hpN_nil, hpN_cons, gm8, hv, go_sem, reduceCtorEq, ↓reduceIte, Nat.reduceAdd, Nat.reduceMul, Nat.reduceSub, Nat.reduceEqDiff, Nat.reduceLT, Nat.reduceBEq, Nat.reduceBNe, Nat.reduceLeDiff, Int.reduceLE, Int.reduceLT, Int.reduceToNat, Int.reduceEq, Int.reduceAdd, UInt8.reduceToNat, UInt32.reduceToNat, UInt64.reduceToNat, UInt8.reduceOfNat, UInt32.reduceOfNat, UInt64.reduceOfNat, Fin.isValue, Int.reduceSub, Int.reduceMul, Int.reduceNeg, Int.reduceMod, Int.reduceDiv, Int.reduceTDiv, Int.reduceTMod, Int.reduceBEq, Int.reduceBNe, Nat.reduceDiv, Nat.reducePow]
          all_goals first | omega | exact rfl | exact id | assumption
        | true =>
          cases h5 : decide ((w.length : Int) ≤ 100) with
          | false =>
            have hv : shortB ⟨u, s, r, e, p, n, w, o⟩ = false := by unfold shortB; simp only [h1, h2, h3, h4, h5, Bool.true_and, Bool.and_true, Bool.false_and, Bool.and_false]
            simp only [envNK, con0, conS, strsOf_arr, rowS_arr, strsOf_cells, rowS_cells, toS, strL_st, strL_d, strL_enc, strL_up, hpN_nil, hpN_cons, gm8, Acc.cs, hv, h1, h2, h3, h4, h5, List.length_nil, go_sem, reduceCtorEq, ↓reduceIte, Nat.reduceAdd, Nat.reduceMul, Nat.reduceSub, Nat.reduceEqDiff, Nat.reduceLT, Nat.reduceBEq, Nat.reduceBNe, Nat.reduceLeDiff, Int.reduceLE, Int.reduceLT, Int.reduceToNat, Int.reduceEq, Int.reduceAdd, UInt8.reduceToNat, UInt32.reduceToNat, UInt64.reduceToNat, UInt8.reduceOfNat, UInt32.reduceOfNat, UInt64.reduceOfNat, Fin.isValue, Int.reduceSub, Int.reduceMul, Int.reduceNeg, Int.reduceMod, Int.reduceDiv, Int.reduceTDiv, Int.reduceTMod, Int.reduceBEq, Int.reduceBNe, Nat.reduceDiv, Nat.reducePow]
            (repeat' apply And.intro)
            rotate_right
            · refine endX [] ?_
              simp only [envNK, con0, conS, strsOf_arr, rowS_arr, strsOf_cells, rowS_cells, toS, strL_st, strL_d, strL_enc, strL_up, hpN_nil, hpN_cons, gm8, hv, go_sem, reduceCtorEq, ↓reduceIte, Nat.reduceAdd, Nat.reduceMul, Nat.reduceSub, Nat.reduceEqDiff, Nat.reduceLT, Nat.reduceBEq, Nat.reduceBNe, Nat.reduceLeDiff, Int.reduceLE, Int.reduceLT, Int.reduceToNat, Int.reduceEq, Int.reduceAdd, UInt8.reduceToNat, UInt32.reduceToNat, UInt64.reduceToNat, UInt8.reduceOfNat, UInt32.reduceOfNat, UInt64.reduceOfNat, Fin.isValue, Int.reduceSub, Int.reduceMul, Int.reduceNeg, Int.reduceMod, Int.reduceDiv, Int.reduceTDiv, Int.reduceTMod, Int.reduceBEq, Int.reduceBNe, Nat.reduceDiv, Nat.reducePow]
            all_goals first | omega | exact rfl | exact id | assumption
          | true =>
            cases h6 : decide ((o.length : Int) ≤ 400) with
            | false =>
              have hv : shortB ⟨u, s, r, e, p, n, w, o⟩ = false := by unfold shortB; simp only [h1, h2, h3, h4, h5, h6, Bool.true_and, Bool.and_true, Bool.false_and, Bool.and_false]
              simp only [envNK, con0, conS, strsOf_arr, rowS_arr, strsOf_cells, rowS_cells, toS, strL_st, strL_d, strL_enc, strL_up, hpN_nil, hpN_cons, gm8, Acc.cs, hv, h1, h2, h3, h4, h5, h6, List.length_nil, go_sem, reduceCtorEq, ↓reduceIte, Nat.reduceAdd, Nat.reduceMul, Nat.reduceSub, Nat.reduceEqDiff, Nat.reduceLT, Nat.reduceBEq, Nat.reduceBNe, Nat.reduceLeDiff, Int.reduceLE, Int.reduceLT, Int.reduceToNat, Int.reduceEq, Int.reduceAdd, UInt8.reduceToNat, UInt32.reduceToNat, UInt64.reduceToNat, UInt8.reduceOfNat, UInt32.reduceOfNat, UInt64.reduceOfNat, Fin.isValue, Int.reduceSub, Int.reduceMul, Int.reduceNeg, Int.reduceMod, Int.reduceDiv, Int.reduceTDiv, Int.reduceTMod, Int.reduceBEq, Int.reduceBNe, Nat.reduceDiv, Nat.reducePow]
              (repeat' apply And.intro)
              rotate_right
              · refine endX [] ?_
                simp only [envNK, con0, conS, strsOf_arr, rowS_arr, strsOf_cells, rowS_cells, toS, strL_st, strL_d, strL_enc, strL_up, hpN_nil, hpN_cons, gm8, hv, go_sem, reduceCtorEq, ↓reduceIte, Nat.reduceAdd, Nat.reduceMul, Nat.reduceSub, Nat.reduceEqDiff, Nat.reduceLT, Nat.reduceBEq, Nat.reduceBNe, Nat.reduceLeDiff, Int.reduceLE, Int.reduceLT, Int.reduceToNat, Int.reduceEq, Int.reduceAdd, UInt8.reduceToNat, UInt32.reduceToNat, UInt64.reduceToNat, UInt8.reduceOfNat, UInt32.reduceOfNat, UInt64.reduceOfNat, Fin.isValue, Int.reduceSub, Int.reduceMul, Int.reduceNeg, Int.reduceMod, Int.reduceDiv, Int.reduceTDiv, Int.reduceTMod, Int.reduceBEq, Int.reduceBNe, Nat.reduceDiv, Nat.reducePow]
              all_goals first | omega | exact rfl | exact id | assumption
            | true =>
              have hv : shortB ⟨u, s, r, e, p, n, w, o⟩ = true := by unfold shortB; simp only [h1, h2, h3, h4, h5, h6, Bool.true_and, Bool.and_true, Bool.false_and, Bool.and_false]
              simp only [envNK, con0, conS, strsOf_arr, rowS_arr, strsOf_cells, rowS_cells, toS, strL_st, strL_d, strL_enc, strL_up, hpN_nil, hpN_cons, gm8, Acc.cs, hv, h1, h2, h3, h4, h5, h6, List.length_nil, go_sem, reduceCtorEq, ↓reduceIte, Nat.reduceAdd, Nat.reduceMul, Nat.reduceSub, Nat.reduceEqDiff, Nat.reduceLT, Nat.reduceBEq, Nat.reduceBNe, Nat.reduceLeDiff, Int.reduceLE, Int.reduceLT, Int.reduceToNat, Int.reduceEq, Int.reduceAdd, UInt8.reduceToNat, UInt32.reduceToNat, UInt64.reduceToNat, UInt8.reduceOfNat, UInt32.reduceOfNat, UInt64.reduceOfNat, Fin.isValue, Int.reduceSub, Int.reduceMul, Int.reduceNeg, Int.reduceMod, Int.reduceDiv, Int.reduceTDiv, Int.reduceTMod, Int.reduceBEq, Int.reduceBNe, Nat.reduceDiv, Nat.reducePow]
              (repeat' apply And.intro)
              rotate_right
              · refine endX [] ?_
                simp only [envNK, con0, conS, strsOf_arr, rowS_arr, strsOf_cells, rowS_cells, toS, strL_st, strL_d, strL_enc, strL_up, hpN_nil, hpN_cons, gm8, hv, go_sem, reduceCtorEq, ↓reduceIte, Nat.reduceAdd, Nat.reduceMul, Nat.reduceSub, Nat.reduceEqDiff, Nat.reduceLT, Nat.reduceBEq, Nat.reduceBNe, Nat.reduceLeDiff, Int.reduceLE, Int.reduceLT, Int.reduceToNat, Int.reduceEq, Int.reduceAdd, UInt8.reduceToNat, UInt32.reduceToNat, UInt64.reduceToNat, UInt8.reduceOfNat, UInt32.reduceOfNat, UInt64.reduceOfNat, Fin.isValue, Int.reduceSub, Int.reduceMul, Int.reduceNeg, Int.reduceMod, Int.reduceDiv, Int.reduceTDiv, Int.reduceTMod, Int.reduceBEq, Int.reduceBNe, Nat.reduceDiv, Nat.reducePow]
              all_goals first | omega | exact rfl | exact id | assumption
def short13C : Con := con0 fun args => match args with
  | [.agg [.str u, .str s, .num r, .num e, .str p, .str n, .str w, .str o], .agg [.str [], .str [], .str [], .num 0]] => some (.c (.one (.bo (shortB ⟨u, s, r, e, p, n, w, o⟩))), [])
  | _ => none
theorem short13C_ok : ConOkG Try.prog GN 6 short13C := con0_okG Try.func6 rfl rfl fun args res ob h hob => by
  split at h
  · injection h with h; injection h with h1 h2; subst h1; subst h2; exact short13_tri ⟨_, _, _, _, _, _, _, _⟩
  · cases h
def gm9 : Nat → Option Con := fun f => match f with
  | 8 => some putC
  | 14 => some takeC
  | 12 => some rightUserC
  | _ => none
theorem gm9_ok : GaOkG Try.prog GN gm9 := fun f con h => by
  unfold gm9 at h
  split at h
  · injection h with h; subst h; exact putC_ok
  · injection h with h; subst h; exact takeC_ok
  · injection h with h; subst h; exact rightUserC_ok
  · cases h
set_option maxRecDepth 100000 in
theorem awake13_tri : TriG Try.prog GN 7 [] [] (.c (.one (.bo true))) [] := by
  refine tri_ofx (envNK_ok gm9_ok 43 []) Try.func7 rfl rfl (rs := [.tmp 0]) rfl rfl (by simp [envNK]) rfl ?_
  have h1 : rightB ⟨[97, 108], [48, 49, 50, 51, 52, 53, 54, 55, 56, 57, 97, 98, 99, 100, 101, 102], 1, 0, [48, 49, 50, 51, 52, 53, 54, 55, 56, 57, 97, 98, 99, 100, 101, 102, 48, 49, 50, 51, 52, 53, 54, 55, 56, 57, 97, 98, 99, 100, 101, 102], [48, 49, 50, 51, 52, 53, 54, 55, 56, 57, 97, 98], [48, 49, 50, 51, 52, 53, 54, 55, 56, 57, 97, 98, 99, 100, 101, 102, 48, 49, 50, 51, 52, 53, 54, 55, 56, 57, 97, 98, 99, 100, 101, 102, 48, 49, 50, 51, 52, 53, 54, 55, 56, 57, 97, 98, 99, 100, 101, 102], []⟩ = true := by kernel_rfl
  have h4 : usrB [97, 108] = true := by decide
  have h5 : usrB [65, 108] = false := by decide
  generalize hA : (⟨[97, 108], [48, 49, 50, 51, 52, 53, 54, 55, 56, 57, 97, 98, 99, 100, 101, 102], 1, 0, [48, 49, 50, 51, 52, 53, 54, 55, 56, 57, 97, 98, 99, 100, 101, 102, 48, 49, 50, 51, 52, 53, 54, 55, 56, 57, 97, 98, 99, 100, 101, 102], [48, 49, 50, 51, 52, 53, 54, 55, 56, 57, 97, 98], [48, 49, 50, 51, 52, 53, 54, 55, 56, 57, 97, 98, 99, 100, 101, 102, 48, 49, 50, 51, 52, 53, 54, 55, 56, 57, 97, 98, 99, 100, 101, 102, 48, 49, 50, 51, 52, 53, 54, 55, 56, 57, 97, 98, 99, 100, 101, 102], []⟩ : Acc) = A at h1
  have hu : A.u = [97, 108] := by rw [← hA]
  have hr : A.r = 1 := by rw [← hA]
  have hsm : SmallA A := by rw [← hA]; exact ⟨by decide, by decide, by decide, by decide, by decide, by decide⟩
  have hlen : (putA A).length = 113 := by rw [← hA]; rfl
  obtain ⟨p1, p2⟩ := put_take h1
  have hT : takeV (putA A) = .tup [.agg A.cs, .one (.num 0)] := by unfold takeV; rw [p2, p1]; rfl
  have hP : putV A = .tup [.one (.str (putA A)), .one (.num 0)] := by unfold putV; rw [h1]; rfl
  have hl2 : (putA A).length ≤ 100000 := by omega
  have hle : ((putA A).length : Int) = 113 := by omega
  simp only [envNK, con0, conS, strsOf_arr, rowS_arr, strsOf_cells, rowS_cells, toS, strL_st, strL_d, strL_enc, strL_up, hpN_nil, hpN_cons, gm9, putC, takeC, rightUserC, hA, hP, hT, hsm, hl2, hle, hu, hr, h4, h5, Acc.cs, go_sem, reduceCtorEq, ↓reduceIte, Nat.reduceAdd, Nat.reduceMul, Nat.reduceSub, Nat.reduceEqDiff, Nat.reduceLT, Nat.reduceBEq, Nat.reduceBNe, Nat.reduceLeDiff, Int.reduceLE, Int.reduceLT, Int.reduceToNat, Int.reduceEq, Int.reduceAdd, UInt8.reduceToNat, UInt32.reduceToNat, UInt64.reduceToNat, UInt8.reduceOfNat, UInt32.reduceOfNat, UInt64.reduceOfNat, Fin.isValue, Int.reduceSub, Int.reduceMul, Int.reduceNeg, Int.reduceMod, Int.reduceDiv, Int.reduceTDiv, Int.reduceTMod, Int.reduceBEq, Int.reduceBNe, Nat.reduceDiv, Nat.reducePow]
  repeat' apply And.intro
  rotate_right
  · refine endX [] ?_
    simp only [envNK, con0, conS, strsOf_arr, rowS_arr, strsOf_cells, rowS_cells, toS, strL_st, strL_d, strL_enc, strL_up, hpN_nil, hpN_cons, gm9, putC, takeC, rightUserC, go_sem, reduceCtorEq, ↓reduceIte, Nat.reduceAdd, Nat.reduceMul, Nat.reduceSub, Nat.reduceEqDiff, Nat.reduceLT, Nat.reduceBEq, Nat.reduceBNe, Nat.reduceLeDiff, Int.reduceLE, Int.reduceLT, Int.reduceToNat, Int.reduceEq, Int.reduceAdd, UInt8.reduceToNat, UInt32.reduceToNat, UInt64.reduceToNat, UInt8.reduceOfNat, UInt32.reduceOfNat, UInt64.reduceOfNat, Fin.isValue, Int.reduceSub, Int.reduceMul, Int.reduceNeg, Int.reduceMod, Int.reduceDiv, Int.reduceTDiv, Int.reduceTMod, Int.reduceBEq, Int.reduceBNe, Nat.reduceDiv, Nat.reducePow]
    all_goals ((repeat' apply And.intro) <;> first | omega | exact rfl | exact id)
  all_goals first | omega | exact rfl | exact id
def awake13C : Con := con0 fun args => match args with
  | [] => some (.c (.one (.bo true)), [])
  | _ => none
theorem awake13C_ok : ConOkG Try.prog GN 7 awake13C := con0_okG Try.func7 rfl rfl fun args res ob h hob => by
  split at h
  · injection h with h; injection h with h1 h2; subst h1; subst h2; exact awake13_tri
  · cases h
def gma : Nat → Option Con := fun f => match f with
  | 6 => some short13C
  | 7 => some awake13C
  | 8 => some putC
  | 10 => some ref13C
  | 9 => some refRightC
  | 11 => some rightC
  | 12 => some rightUserC
  | 13 => some refUserC
  | 14 => some takeC
  | 15 => some refPutC
  | 16 => some refTakeC
  | 17 => some finishC
  | _ => none
theorem gma_ok : GaOkG Try.prog GN gma := fun f con h => by
  unfold gma at h
  split at h
  · injection h with h; subst h; exact short13C_ok
  · injection h with h; subst h; exact awake13C_ok
  · injection h with h; subst h; exact putC_ok
  · injection h with h; subst h; exact ref13C_ok
  · injection h with h; subst h; exact refRightC_ok
  · injection h with h; subst h; exact rightC_ok
  · injection h with h; subst h; exact rightUserC_ok
  · injection h with h; subst h; exact refUserC_ok
  · injection h with h; subst h; exact takeC_ok
  · injection h with h; subst h; exact refPutC_ok
  · injection h with h; subst h; exact refTakeC_ok
  · injection h with h; subst h; exact finishC_ok
  · cases h

set_option maxRecDepth 100000 in
theorem lawRingPuts_tri (a : Acc) : TriG Try.prog GN 3 [.agg a.cs] [] (.c (.one (.bo true))) [] := by
  refine tri_ofx (envNK_ok gma_ok 71 []) Try.func3 rfl rfl (rs := [.tmp 2]) rfl rfl (by simp [envNK]) rfl ?_
  obtain ⟨u, s, r, e, p, n, w, o⟩ := a
  cases hsh : shortB ⟨u, s, r, e, p, n, w, o⟩ with
  | false =>
    simp only [envNK, con0, conS, strsOf_arr, rowS_arr, strsOf_cells, rowS_cells, toS, strL_st, strL_d, strL_enc, strL_up, hpN_nil, hpN_cons, gma, short13C, awake13C, putC, ref13C, refRightC, rightC, rightUserC, refUserC, takeC, refPutC, refTakeC, finishC, Acc.cs, hsh, go_sem, reduceCtorEq, ↓reduceIte, Nat.reduceAdd, Nat.reduceMul, Nat.reduceSub, Nat.reduceEqDiff, Nat.reduceLT, Nat.reduceBEq, Nat.reduceBNe, Nat.reduceLeDiff, Int.reduceLE, Int.reduceLT, Int.reduceToNat, Int.reduceEq, Int.reduceAdd, UInt8.reduceToNat, UInt32.reduceToNat, UInt64.reduceToNat, UInt8.reduceOfNat, UInt32.reduceOfNat, UInt64.reduceOfNat, Fin.isValue, Int.reduceSub, Int.reduceMul, Int.reduceNeg, Int.reduceMod, Int.reduceDiv, Int.reduceTDiv, Int.reduceTMod, Int.reduceBEq, Int.reduceBNe, Nat.reduceDiv, Nat.reducePow]
    repeat' apply And.intro
    rotate_right
    · refine endX [] ?_
      simp only [envNK, con0, conS, strsOf_arr, rowS_arr, strsOf_cells, rowS_cells, toS, strL_st, strL_d, strL_enc, strL_up, hpN_nil, hpN_cons, gma, short13C, awake13C, putC, ref13C, refRightC, rightC, rightUserC, refUserC, takeC, refPutC, refTakeC, finishC, go_sem, reduceCtorEq, ↓reduceIte, Nat.reduceAdd, Nat.reduceMul, Nat.reduceSub, Nat.reduceEqDiff, Nat.reduceLT, Nat.reduceBEq, Nat.reduceBNe, Nat.reduceLeDiff, Int.reduceLE, Int.reduceLT, Int.reduceToNat, Int.reduceEq, Int.reduceAdd, UInt8.reduceToNat, UInt32.reduceToNat, UInt64.reduceToNat, UInt8.reduceOfNat, UInt32.reduceOfNat, UInt64.reduceOfNat, Fin.isValue, Int.reduceSub, Int.reduceMul, Int.reduceNeg, Int.reduceMod, Int.reduceDiv, Int.reduceTDiv, Int.reduceTMod, Int.reduceBEq, Int.reduceBNe, Nat.reduceDiv, Nat.reducePow]
    all_goals first | omega | exact rfl | exact id
  | true =>
    have hsm := short_small hsh
    have hul : u.length ≤ 9223372036854775807 := by have := hsm.u; simp only at this; omega
    cases hr : rightB ⟨u, s, r, e, p, n, w, o⟩ with
    | false =>
      have hP : putV ⟨u, s, r, e, p, n, w, o⟩ = .tup [.one (.str []), .one (.num 1)] := by unfold putV; rw [hr]; rfl
      cases hub : usrB u <;> simp only [envNK, con0, conS, strsOf_arr, rowS_arr, strsOf_cells, rowS_cells, toS, strL_st, strL_d, strL_enc, strL_up, hpN_nil, hpN_cons, gma, short13C, awake13C, putC, ref13C, refRightC, rightC, rightUserC, refUserC, takeC, refPutC, refTakeC, finishC, Acc.cs, hsh, hsm, hul, hr, hP, hub, go_sem, reduceCtorEq, ↓reduceIte, Nat.reduceAdd, Nat.reduceMul, Nat.reduceSub, Nat.reduceEqDiff, Nat.reduceLT, Nat.reduceBEq, Nat.reduceBNe, Nat.reduceLeDiff, Int.reduceLE, Int.reduceLT, Int.reduceToNat, Int.reduceEq, Int.reduceAdd, UInt8.reduceToNat, UInt32.reduceToNat, UInt64.reduceToNat, UInt8.reduceOfNat, UInt32.reduceOfNat, UInt64.reduceOfNat, Fin.isValue, Int.reduceSub, Int.reduceMul, Int.reduceNeg, Int.reduceMod, Int.reduceDiv, Int.reduceTDiv, Int.reduceTMod, Int.reduceBEq, Int.reduceBNe, Nat.reduceDiv, Nat.reducePow]
      all_goals
        (repeat' apply And.intro)
        rotate_right
        · refine endX [] ?_
          simp only [envNK, con0, conS, strsOf_arr, rowS_arr, strsOf_cells, rowS_cells, toS, strL_st, strL_d, strL_enc, strL_up, hpN_nil, hpN_cons, gma, short13C, awake13C, putC, ref13C, refRightC, rightC, rightUserC, refUserC, takeC, refPutC, refTakeC, finishC, go_sem, reduceCtorEq, ↓reduceIte, Nat.reduceAdd, Nat.reduceMul, Nat.reduceSub, Nat.reduceEqDiff, Nat.reduceLT, Nat.reduceBEq, Nat.reduceBNe, Nat.reduceLeDiff, Int.reduceLE, Int.reduceLT, Int.reduceToNat, Int.reduceEq, Int.reduceAdd, UInt8.reduceToNat, UInt32.reduceToNat, UInt64.reduceToNat, UInt8.reduceOfNat, UInt32.reduceOfNat, UInt64.reduceOfNat, Fin.isValue, Int.reduceSub, Int.reduceMul, Int.reduceNeg, Int.reduceMod, Int.reduceDiv, Int.reduceTDiv, Int.reduceTMod, Int.reduceBEq, Int.reduceBNe, Nat.reduceDiv, Nat.reducePow]
        all_goals first | omega | exact rfl | exact id | assumption | trivial
    | true =>
      have hP : putV ⟨u, s, r, e, p, n, w, o⟩ = .tup [.one (.str (putA ⟨u, s, r, e, p, n, w, o⟩)), .one (.num 0)] := by unfold putV; rw [hr]; rfl
      obtain ⟨p1, p2⟩ := put_take hr
      have hT : takeV (putA ⟨u, s, r, e, p, n, w, o⟩) = .tup [.agg [.str u, .str s, .num r, .num e, .str p, .str n, .str w, .str o], .one (.num 0)] := by unfold takeV; rw [p2, p1]; rfl
      have hl2 : (putA ⟨u, s, r, e, p, n, w, o⟩).length ≤ 100000 := by rw [putA_len]; have h1 := hsm.u; have h2 := hsm.s; have h3 := hsm.p; have h4 := hsm.n; have h5 := hsm.w; have h6 := hsm.o; omega
      have hub : usrB u = true := by
        unfold rightB at hr
        simp only [Bool.and_eq_true] at hr
        exact hr.1.1.1.1.1.1.1
      simp only [envNK, con0, conS, strsOf_arr, rowS_arr, strsOf_cells, rowS_cells, toS, strL_st, strL_d, strL_enc, strL_up, hpN_nil, hpN_cons, gma, short13C, awake13C, putC, ref13C, refRightC, rightC, rightUserC, refUserC, takeC, refPutC, refTakeC, finishC, Acc.cs, hsh, hsm, hul, hr, hP, hT, hl2, hub, beq_self_eq_true, Bool.and_self, go_sem, reduceCtorEq, ↓reduceIte, Nat.reduceAdd, Nat.reduceMul, Nat.reduceSub, Nat.reduceEqDiff, Nat.reduceLT, Nat.reduceBEq, Nat.reduceBNe, Nat.reduceLeDiff, Int.reduceLE, Int.reduceLT, Int.reduceToNat, Int.reduceEq, Int.reduceAdd, UInt8.reduceToNat, UInt32.reduceToNat, UInt64.reduceToNat, UInt8.reduceOfNat, UInt32.reduceOfNat, UInt64.reduceOfNat, Fin.isValue, Int.reduceSub, Int.reduceMul, Int.reduceNeg, Int.reduceMod, Int.reduceDiv, Int.reduceTDiv, Int.reduceTMod, Int.reduceBEq, Int.reduceBNe, Nat.reduceDiv, Nat.reducePow]
      repeat' apply And.intro
      rotate_right
      · refine endX [] ?_
        simp only [envNK, con0, conS, strsOf_arr, rowS_arr, strsOf_cells, rowS_cells, toS, strL_st, strL_d, strL_enc, strL_up, hpN_nil, hpN_cons, gma, short13C, awake13C, putC, ref13C, refRightC, rightC, rightUserC, refUserC, takeC, refPutC, refTakeC, finishC, go_sem, reduceCtorEq, ↓reduceIte, Nat.reduceAdd, Nat.reduceMul, Nat.reduceSub, Nat.reduceEqDiff, Nat.reduceLT, Nat.reduceBEq, Nat.reduceBNe, Nat.reduceLeDiff, Int.reduceLE, Int.reduceLT, Int.reduceToNat, Int.reduceEq, Int.reduceAdd, UInt8.reduceToNat, UInt32.reduceToNat, UInt64.reduceToNat, UInt8.reduceOfNat, UInt32.reduceOfNat, UInt64.reduceOfNat, Fin.isValue, Int.reduceSub, Int.reduceMul, Int.reduceNeg, Int.reduceMod, Int.reduceDiv, Int.reduceTDiv, Int.reduceTMod, Int.reduceBEq, Int.reduceBNe, Nat.reduceDiv, Nat.reducePow]
      all_goals first | omega | exact rfl | exact id
set_option maxRecDepth 100000 in
theorem lawRingTakes_tri (s : List UInt8) : TriG Try.prog GN 4 [.one (.str s)] [] (.c (.one (.bo true))) [] := by
  refine tri_ofx (envNK_ok gma_ok 60 []) Try.func4 rfl rfl (rs := [.tmp 2]) rfl rfl (by simp [envNK]) rfl ?_
  cases hb : decide ((512 : Int) < s.length) with
  | true =>
    simp only [envNK, con0, conS, strsOf_arr, rowS_arr, strsOf_cells, rowS_cells, toS, strL_st, strL_d, strL_enc, strL_up, hpN_nil, hpN_cons, gma, short13C, awake13C, putC, ref13C, refRightC, rightC, rightUserC, refUserC, takeC, refPutC, refTakeC, finishC, hb, go_sem, reduceCtorEq, ↓reduceIte, Nat.reduceAdd, Nat.reduceMul, Nat.reduceSub, Nat.reduceEqDiff, Nat.reduceLT, Nat.reduceBEq, Nat.reduceBNe, Nat.reduceLeDiff, Int.reduceLE, Int.reduceLT, Int.reduceToNat, Int.reduceEq, Int.reduceAdd, UInt8.reduceToNat, UInt32.reduceToNat, UInt64.reduceToNat, UInt8.reduceOfNat, UInt32.reduceOfNat, UInt64.reduceOfNat, Fin.isValue, Int.reduceSub, Int.reduceMul, Int.reduceNeg, Int.reduceMod, Int.reduceDiv, Int.reduceTDiv, Int.reduceTMod, Int.reduceBEq, Int.reduceBNe, Nat.reduceDiv, Nat.reducePow]
    repeat' apply And.intro
    rotate_right
    · refine endX [] ?_
      simp only [envNK, con0, conS, strsOf_arr, rowS_arr, strsOf_cells, rowS_cells, toS, strL_st, strL_d, strL_enc, strL_up, hpN_nil, hpN_cons, gma, short13C, awake13C, putC, ref13C, refRightC, rightC, rightUserC, refUserC, takeC, refPutC, refTakeC, finishC, go_sem, reduceCtorEq, ↓reduceIte, Nat.reduceAdd, Nat.reduceMul, Nat.reduceSub, Nat.reduceEqDiff, Nat.reduceLT, Nat.reduceBEq, Nat.reduceBNe, Nat.reduceLeDiff, Int.reduceLE, Int.reduceLT, Int.reduceToNat, Int.reduceEq, Int.reduceAdd, UInt8.reduceToNat, UInt32.reduceToNat, UInt64.reduceToNat, UInt8.reduceOfNat, UInt32.reduceOfNat, UInt64.reduceOfNat, Fin.isValue, Int.reduceSub, Int.reduceMul, Int.reduceNeg, Int.reduceMod, Int.reduceDiv, Int.reduceTDiv, Int.reduceTMod, Int.reduceBEq, Int.reduceBNe, Nat.reduceDiv, Nat.reducePow]
    all_goals first | omega | exact rfl | exact id
  | false =>
    have hl : s.length ≤ 512 := by have := of_decide_eq_false hb; omega
    have hl2 : s.length ≤ 100000 := by omega
    cases hk : tkOk s with
    | false =>
      have hT : takeV s = .tup [.agg [.str [], .str [], .num 0, .num 0, .str [], .str [], .str [], .str []], .one (.num 3)] := by unfold takeV; rw [hk]; rfl
      have hR : refTakeV s = .tup [.agg [.str [], .str [], .num 0, .num 0, .str [], .str [], .str [], .str []], .one (.bo false)] := by unfold refTakeV; rw [hk]; rfl
      simp only [envNK, con0, conS, strsOf_arr, rowS_arr, strsOf_cells, rowS_cells, toS, strL_st, strL_d, strL_enc, strL_up, hpN_nil, hpN_cons, gma, short13C, awake13C, putC, ref13C, refRightC, rightC, rightUserC, refUserC, takeC, refPutC, refTakeC, finishC, hb, hl2, hT, hR, beq_self_eq_true, Bool.and_self, go_sem, reduceCtorEq, ↓reduceIte, Nat.reduceAdd, Nat.reduceMul, Nat.reduceSub, Nat.reduceEqDiff, Nat.reduceLT, Nat.reduceBEq, Nat.reduceBNe, Nat.reduceLeDiff, Int.reduceLE, Int.reduceLT, Int.reduceToNat, Int.reduceEq, Int.reduceAdd, UInt8.reduceToNat, UInt32.reduceToNat, UInt64.reduceToNat, UInt8.reduceOfNat, UInt32.reduceOfNat, UInt64.reduceOfNat, Fin.isValue, Int.reduceSub, Int.reduceMul, Int.reduceNeg, Int.reduceMod, Int.reduceDiv, Int.reduceTDiv, Int.reduceTMod, Int.reduceBEq, Int.reduceBNe, Nat.reduceDiv, Nat.reducePow]
      repeat' apply And.intro
      rotate_right
      · refine endX [] ?_
        simp only [envNK, con0, conS, strsOf_arr, rowS_arr, strsOf_cells, rowS_cells, toS, strL_st, strL_d, strL_enc, strL_up, hpN_nil, hpN_cons, gma, short13C, awake13C, putC, ref13C, refRightC, rightC, rightUserC, refUserC, takeC, refPutC, refTakeC, finishC, go_sem, reduceCtorEq, ↓reduceIte, Nat.reduceAdd, Nat.reduceMul, Nat.reduceSub, Nat.reduceEqDiff, Nat.reduceLT, Nat.reduceBEq, Nat.reduceBNe, Nat.reduceLeDiff, Int.reduceLE, Int.reduceLT, Int.reduceToNat, Int.reduceEq, Int.reduceAdd, UInt8.reduceToNat, UInt32.reduceToNat, UInt64.reduceToNat, UInt8.reduceOfNat, UInt32.reduceOfNat, UInt64.reduceOfNat, Fin.isValue, Int.reduceSub, Int.reduceMul, Int.reduceNeg, Int.reduceMod, Int.reduceDiv, Int.reduceTDiv, Int.reduceTMod, Int.reduceBEq, Int.reduceBNe, Nat.reduceDiv, Nat.reducePow]
      all_goals first | omega | exact rfl | exact id
    | true =>
      obtain ⟨p1, p2⟩ := take_put hk
      have hsm := tk_small hl
      have hT : takeV s = .tup [.agg (tkA s).cs, .one (.num 0)] := by unfold takeV; rw [hk]; rfl
      have hR : refTakeV s = .tup [.agg (tkA s).cs, .one (.bo true)] := by unfold refTakeV; rw [hk]; rfl
      have hP : putV (tkA s) = .tup [.one (.str s), .one (.num 0)] := by unfold putV; rw [p2, p1]; rfl
      generalize tkA s = A at hT hR hP hsm p1 p2
      obtain ⟨u, s', r, e, p, n, w, o⟩ := A
      simp only [Acc.cs] at hT hR
      simp only [envNK, con0, conS, strsOf_arr, rowS_arr, strsOf_cells, rowS_cells, toS, strL_st, strL_d, strL_enc, strL_up, hpN_nil, hpN_cons, gma, short13C, awake13C, putC, ref13C, refRightC, rightC, rightUserC, refUserC, takeC, refPutC, refTakeC, finishC, hb, hl2, hT, hR, hP, hsm, beq_self_eq_true, Bool.and_self, go_sem, reduceCtorEq, ↓reduceIte, Nat.reduceAdd, Nat.reduceMul, Nat.reduceSub, Nat.reduceEqDiff, Nat.reduceLT, Nat.reduceBEq, Nat.reduceBNe, Nat.reduceLeDiff, Int.reduceLE, Int.reduceLT, Int.reduceToNat, Int.reduceEq, Int.reduceAdd, UInt8.reduceToNat, UInt32.reduceToNat, UInt64.reduceToNat, UInt8.reduceOfNat, UInt32.reduceOfNat, UInt64.reduceOfNat, Fin.isValue, Int.reduceSub, Int.reduceMul, Int.reduceNeg, Int.reduceMod, Int.reduceDiv, Int.reduceTDiv, Int.reduceTMod, Int.reduceBEq, Int.reduceBNe, Nat.reduceDiv, Nat.reducePow]
      repeat' apply And.intro
      rotate_right
      · refine endX [] ?_
        simp only [envNK, con0, conS, strsOf_arr, rowS_arr, strsOf_cells, rowS_cells, toS, strL_st, strL_d, strL_enc, strL_up, hpN_nil, hpN_cons, gma, short13C, awake13C, putC, ref13C, refRightC, rightC, rightUserC, refUserC, takeC, refPutC, refTakeC, finishC, go_sem, reduceCtorEq, ↓reduceIte, Nat.reduceAdd, Nat.reduceMul, Nat.reduceSub, Nat.reduceEqDiff, Nat.reduceLT, Nat.reduceBEq, Nat.reduceBNe, Nat.reduceLeDiff, Int.reduceLE, Int.reduceLT, Int.reduceToNat, Int.reduceEq, Int.reduceAdd, UInt8.reduceToNat, UInt32.reduceToNat, UInt64.reduceToNat, UInt8.reduceOfNat, UInt32.reduceOfNat, UInt64.reduceOfNat, Fin.isValue, Int.reduceSub, Int.reduceMul, Int.reduceNeg, Int.reduceMod, Int.reduceDiv, Int.reduceTDiv, Int.reduceTMod, Int.reduceBEq, Int.reduceBNe, Nat.reduceDiv, Nat.reducePow]
      all_goals first | omega | exact rfl | exact id
set_option maxRecDepth 100000 in
theorem lawRingSizes_tri (a : Acc) : TriG Try.prog GN 5 [.agg a.cs] [] (.c (.one (.bo true))) [] := by
  refine tri_ofx (envNK_ok gma_ok 65 []) Try.func5 rfl rfl (rs := [.tmp 2]) rfl rfl (by simp [envNK]) rfl ?_
  obtain ⟨u, s, r, e, p, n, w, o⟩ := a
  cases hsh : shortB ⟨u, s, r, e, p, n, w, o⟩ with
  | false =>
    simp only [envNK, con0, conS, strsOf_arr, rowS_arr, strsOf_cells, rowS_cells, toS, strL_st, strL_d, strL_enc, strL_up, hpN_nil, hpN_cons, gma, short13C, awake13C, putC, ref13C, refRightC, rightC, rightUserC, refUserC, takeC, refPutC, refTakeC, finishC, Acc.cs, hsh, go_sem, reduceCtorEq, ↓reduceIte, Nat.reduceAdd, Nat.reduceMul, Nat.reduceSub, Nat.reduceEqDiff, Nat.reduceLT, Nat.reduceBEq, Nat.reduceBNe, Nat.reduceLeDiff, Int.reduceLE, Int.reduceLT, Int.reduceToNat, Int.reduceEq, Int.reduceAdd, UInt8.reduceToNat, UInt32.reduceToNat, UInt64.reduceToNat, UInt8.reduceOfNat, UInt32.reduceOfNat, UInt64.reduceOfNat, Fin.isValue, Int.reduceSub, Int.reduceMul, Int.reduceNeg, Int.reduceMod, Int.reduceDiv, Int.reduceTDiv, Int.reduceTMod, Int.reduceBEq, Int.reduceBNe, Nat.reduceDiv, Nat.reducePow]
    repeat' apply And.intro
    rotate_right
    · refine endX [] ?_
      simp only [envNK, con0, conS, strsOf_arr, rowS_arr, strsOf_cells, rowS_cells, toS, strL_st, strL_d, strL_enc, strL_up, hpN_nil, hpN_cons, gma, short13C, awake13C, putC, ref13C, refRightC, rightC, rightUserC, refUserC, takeC, refPutC, refTakeC, finishC, go_sem, reduceCtorEq, ↓reduceIte, Nat.reduceAdd, Nat.reduceMul, Nat.reduceSub, Nat.reduceEqDiff, Nat.reduceLT, Nat.reduceBEq, Nat.reduceBNe, Nat.reduceLeDiff, Int.reduceLE, Int.reduceLT, Int.reduceToNat, Int.reduceEq, Int.reduceAdd, UInt8.reduceToNat, UInt32.reduceToNat, UInt64.reduceToNat, UInt8.reduceOfNat, UInt32.reduceOfNat, UInt64.reduceOfNat, Fin.isValue, Int.reduceSub, Int.reduceMul, Int.reduceNeg, Int.reduceMod, Int.reduceDiv, Int.reduceTDiv, Int.reduceTMod, Int.reduceBEq, Int.reduceBNe, Nat.reduceDiv, Nat.reducePow]
    all_goals first | omega | exact rfl | exact id
  | true =>
    have hsm := short_small hsh
    cases hr : rightB ⟨u, s, r, e, p, n, w, o⟩ with
    | false =>
      have hP : putV ⟨u, s, r, e, p, n, w, o⟩ = .tup [.one (.str []), .one (.num 1)] := by unfold putV; rw [hr]; rfl
      simp only [envNK, con0, conS, strsOf_arr, rowS_arr, strsOf_cells, rowS_cells, toS, strL_st, strL_d, strL_enc, strL_up, hpN_nil, hpN_cons, gma, short13C, awake13C, putC, ref13C, refRightC, rightC, rightUserC, refUserC, takeC, refPutC, refTakeC, finishC, Acc.cs, hsh, hsm, hr, hP, go_sem, reduceCtorEq, ↓reduceIte, Nat.reduceAdd, Nat.reduceMul, Nat.reduceSub, Nat.reduceEqDiff, Nat.reduceLT, Nat.reduceBEq, Nat.reduceBNe, Nat.reduceLeDiff, Int.reduceLE, Int.reduceLT, Int.reduceToNat, Int.reduceEq, Int.reduceAdd, UInt8.reduceToNat, UInt32.reduceToNat, UInt64.reduceToNat, UInt8.reduceOfNat, UInt32.reduceOfNat, UInt64.reduceOfNat, Fin.isValue, Int.reduceSub, Int.reduceMul, Int.reduceNeg, Int.reduceMod, Int.reduceDiv, Int.reduceTDiv, Int.reduceTMod, Int.reduceBEq, Int.reduceBNe, Nat.reduceDiv, Nat.reducePow]
      repeat' apply And.intro
      rotate_right
      · refine endX [] ?_
        simp only [envNK, con0, conS, strsOf_arr, rowS_arr, strsOf_cells, rowS_cells, toS, strL_st, strL_d, strL_enc, strL_up, hpN_nil, hpN_cons, gma, short13C, awake13C, putC, ref13C, refRightC, rightC, rightUserC, refUserC, takeC, refPutC, refTakeC, finishC, go_sem, reduceCtorEq, ↓reduceIte, Nat.reduceAdd, Nat.reduceMul, Nat.reduceSub, Nat.reduceEqDiff, Nat.reduceLT, Nat.reduceBEq, Nat.reduceBNe, Nat.reduceLeDiff, Int.reduceLE, Int.reduceLT, Int.reduceToNat, Int.reduceEq, Int.reduceAdd, UInt8.reduceToNat, UInt32.reduceToNat, UInt64.reduceToNat, UInt8.reduceOfNat, UInt32.reduceOfNat, UInt64.reduceOfNat, Fin.isValue, Int.reduceSub, Int.reduceMul, Int.reduceNeg, Int.reduceMod, Int.reduceDiv, Int.reduceTDiv, Int.reduceTMod, Int.reduceBEq, Int.reduceBNe, Nat.reduceDiv, Nat.reducePow]
      all_goals first | omega | exact rfl | exact id
    | true =>
      have hsp := right_spec hr
      have hr2 : rightB ⟨u, s, r, e, p, n, w, []⟩ = true := by
        unfold rightB at hr ⊢
        simp only [Bool.and_eq_true] at hr ⊢
        exact ⟨hr.1, by simp⟩
      have hsm2 : SmallA ⟨u, s, r, e, p, n, w, []⟩ := ⟨hsm.u, hsm.s, hsm.p, hsm.n, hsm.w, by simp⟩
      have hP : putV ⟨u, s, r, e, p, n, w, o⟩ = .tup [.one (.str (putA ⟨u, s, r, e, p, n, w, o⟩)), .one (.num 0)] := by unfold putV; rw [hr]; rfl
      have hP2 : putV ⟨u, s, r, e, p, n, w, []⟩ = .tup [.one (.str (putA ⟨u, s, r, e, p, n, w, []⟩)), .one (.num 0)] := by unfold putV; rw [hr2]; rfl
      obtain ⟨hu, hsl, _, _, hp, hn, hw, ho⟩ := hsp
      simp only at hu hsl hp hn hw ho
      have hol : o.length ≤ 48 := by omega
      have l1 : ((putA ⟨u, s, r, e, p, n, w, o⟩).length : Int) = ((111 + u.length + o.length : Nat) : Int) := by rw [putA_len]; simp only; omega
      have l2 : ((putA ⟨u, s, r, e, p, n, w, []⟩).length : Int) = ((111 + u.length : Nat) : Int) := by rw [putA_len]; simp only [List.length_nil]; omega
      have l2' : (putA ⟨u, s, r, e, p, n, w, []⟩).length = 111 + u.length := by omega
      have hcat : putA ⟨u, s, r, e, p, n, w, o⟩ = putA ⟨u, s, r, e, p, n, w, []⟩ ++ o := by unfold putA; simp
      have htk : (putA ⟨u, s, r, e, p, n, w, o⟩).take (111 + u.length) = putA ⟨u, s, r, e, p, n, w, []⟩ := by rw [hcat, List.take_left' l2']
      have w1 : IntKind.i64.wrap (111 + (u.length : Int)) = ((111 + u.length : Nat) : Int) := by rw [IntKind.wrap_i64]; omega
      have w2 : IntKind.i64.wrap (((111 + u.length : Nat) : Int) + (o.length : Int)) = ((111 + u.length + o.length : Nat) : Int) := by rw [IntKind.wrap_i64]; omega
      simp only [envNK, con0, conS, strsOf_arr, rowS_arr, strsOf_cells, rowS_cells, toS, strL_st, strL_d, strL_enc, strL_up, hpN_nil, hpN_cons, gma, short13C, awake13C, putC, ref13C, refRightC, rightC, rightUserC, refUserC, takeC, refPutC, refTakeC, finishC, Acc.cs, hsh, hsm, hsm2, hr, hP, hP2, l1, l2, w1, w2, htk, Int.toNat_natCast, beq_self_eq_true, Bool.and_self, go_sem, reduceCtorEq, ↓reduceIte, Nat.reduceAdd, Nat.reduceMul, Nat.reduceSub, Nat.reduceEqDiff, Nat.reduceLT, Nat.reduceBEq, Nat.reduceBNe, Nat.reduceLeDiff, Int.reduceLE, Int.reduceLT, Int.reduceToNat, Int.reduceEq, Int.reduceAdd, UInt8.reduceToNat, UInt32.reduceToNat, UInt64.reduceToNat, UInt8.reduceOfNat, UInt32.reduceOfNat, UInt64.reduceOfNat, Fin.isValue, Int.reduceSub, Int.reduceMul, Int.reduceNeg, Int.reduceMod, Int.reduceDiv, Int.reduceTDiv, Int.reduceTMod, Int.reduceBEq, Int.reduceBNe, Nat.reduceDiv, Nat.reducePow]
      repeat' apply And.intro
      rotate_right
      · refine endX [] ?_
        simp only [envNK, con0, conS, strsOf_arr, rowS_arr, strsOf_cells, rowS_cells, toS, strL_st, strL_d, strL_enc, strL_up, hpN_nil, hpN_cons, gma, short13C, awake13C, putC, ref13C, refRightC, rightC, rightUserC, refUserC, takeC, refPutC, refTakeC, finishC, go_sem, reduceCtorEq, ↓reduceIte, Nat.reduceAdd, Nat.reduceMul, Nat.reduceSub, Nat.reduceEqDiff, Nat.reduceLT, Nat.reduceBEq, Nat.reduceBNe, Nat.reduceLeDiff, Int.reduceLE, Int.reduceLT, Int.reduceToNat, Int.reduceEq, Int.reduceAdd, UInt8.reduceToNat, UInt32.reduceToNat, UInt64.reduceToNat, UInt8.reduceOfNat, UInt32.reduceOfNat, UInt64.reduceOfNat, Fin.isValue, Int.reduceSub, Int.reduceMul, Int.reduceNeg, Int.reduceMod, Int.reduceDiv, Int.reduceTDiv, Int.reduceTMod, Int.reduceBEq, Int.reduceBNe, Nat.reduceDiv, Nat.reducePow]
      all_goals first | omega | exact rfl | exact id

section
variable {H : Type} {enc : TypeId × Value → H} {P : Program} {W : World}
/-- An account among the arguments. -/
def Acc.val (a : Acc) : Value := .agg #[.string ⟨a.u.toArray⟩, .string ⟨a.s.toArray⟩, .int .i64 a.r, .int .i64 a.e, .string ⟨a.p.toArray⟩, .string ⟨a.n.toArray⟩, .string ⟨a.w.toArray⟩, .string ⟨a.o.toArray⟩]
theorem Acc.rel (a : Acc) (r : Lc) : CV.rel r (.agg a.cs) a.val := ⟨_, rfl, rfl, rfl, rfl, rfl, rfl, rfl, rfl, rfl, trivial⟩
theorem str_of {v : Value} {s : ByteArray} (h : [v] = [.string s]) : v = .string ⟨s.data.toList.toArray⟩ := by
  simp only [List.cons.injEq, and_true] at h
  rw [h]
theorem open_acc {T : TypeId} {f0 f1 f2 f3 f4 f5 f6 f7 : Field} (hT : P.underlying T = some (.struct #[f0, f1, f2, f3, f4, f5, f6, f7])) (hz : P.cellsOf T = 8)
    (u0 : P.underlying f0.type = some .string) (u1 : P.underlying f1.type = some .string) (u2 : P.underlying f2.type = some (.int .i64)) (u3 : P.underlying f3.type = some (.int .i64)) (u4 : P.underlying f4.type = some .string) (u5 : P.underlying f5.type = some .string) (u6 : P.underlying f6.type = some .string) (u7 : P.underlying f7.type = some .string)
    (o : f0.offset = 0 ∧ f1.offset = 1 ∧ f2.offset = 2 ∧ f3.offset = 3 ∧ f4.offset = 4 ∧ f5.offset = 5 ∧ f6.offset = 6 ∧ f7.offset = 7)
    (c : P.cellsOf f0.type = 1 ∧ P.cellsOf f1.type = 1 ∧ P.cellsOf f2.type = 1 ∧ P.cellsOf f3.type = 1 ∧ P.cellsOf f4.type = 1 ∧ P.cellsOf f5.type = 1 ∧ P.cellsOf f6.type = 1 ∧ P.cellsOf f7.type = 1)
    {rc : Reach} {b0 : Nat} {v : Value} {d : DataW H} {ps : List MemPlace} (hval : Value.okWide P W rc b0 T v) (h : DataW.Trod enc P W 0 (fun _ => true) true T v d ps) : ∃ a : Acc, v = a.val := by
  obtain ⟨cs, rfl, hs⟩ := okWide_struct hT hval
  obtain ⟨fuel, hf⟩ := h
  obtain ⟨xs, m, _, _, hl, hlen, hfs⟩ := DataW.trod_struct hT hf
  obtain ⟨o0, o1, o2, o3, o4, o5, o6, o7⟩ := o
  obtain ⟨c0, c1, c2, c3, c4, c5, c6, c7⟩ := c
  rw [hz] at hl
  obtain ⟨l⟩ := cs
  have hl : l.length = 8 := by simpa [Value.cells] using hl
  match xs, hlen with
  | [y0, y1, y2, y3, y4, y5, y6, y7], _ =>
    have g0 := hfs 0 f0 rfl
    have g1 := hfs 1 f1 rfl
    have g2 := hfs 2 f2 rfl
    have g3 := hfs 3 f3 rfl
    have g4 := hfs 4 f4 rfl
    have g5 := hfs 5 f5 rfl
    have g6 := hfs 6 f6 rfl
    have g7 := hfs 7 f7 rfl
    rw [o0, c0] at g0
    rw [o1, c1] at g1
    rw [o2, c2] at g2
    rw [o3, c3] at g3
    rw [o4, c4] at g4
    rw [o5, c5] at g5
    rw [o6, c6] at g6
    rw [o7, c7] at g7
    obtain ⟨s0, e0, _, _⟩ := DataW.trod_string u0 g0
    obtain ⟨s1, e1, _, _⟩ := DataW.trod_string u1 g1
    obtain ⟨n2, e2, _, _⟩ := DataW.trod_int u2 g2
    obtain ⟨n3, e3, _, _⟩ := DataW.trod_int u3 g3
    obtain ⟨s4, e4, _, _⟩ := DataW.trod_string u4 g4
    obtain ⟨s5, e5, _, _⟩ := DataW.trod_string u5 g5
    obtain ⟨s6, e6, _, _⟩ := DataW.trod_string u6 g6
    obtain ⟨s7, e7, _, _⟩ := DataW.trod_string u7 g7
    match l, hl, e0, e1, e2, e3, e4, e5, e6, e7 with
    | [v0, v1, v2, v3, v4, v5, v6, v7], _, e0, e1, e2, e3, e4, e5, e6, e7 =>
      simp [Value.cells] at e0 e1 e2 e3 e4 e5 e6 e7
      subst e0; subst e1; subst e2; subst e3; subst e4; subst e5; subst e6; subst e7
      refine ⟨⟨s0.data.toList, s1.data.toList, n2, n3, s4.data.toList, s5.data.toList, s6.data.toList, s7.data.toList⟩, ?_⟩
      simp [Acc.val]
end
theorem ringPuts_law (w : World) (a : Acc) : Calls Try.prog 3 #[a.val] w fun e w' => e = .returned (.bool true) ∧ Below w.heap.size w w' := by
  refine (tri_callsG (lawRingPuts_tri a) w (vals := [a.val]) ⟨a.rel _, trivial⟩ fun f hf => by cases hf).mono ?_
  rintro e w' ⟨u, r', rfl, hr, hb⟩
  exact ⟨by rw [show u = .bool true from hr], hb⟩
theorem ringSizes_law (w : World) (a : Acc) : Calls Try.prog 5 #[a.val] w fun e w' => e = .returned (.bool true) ∧ Below w.heap.size w w' := by
  refine (tri_callsG (lawRingSizes_tri a) w (vals := [a.val]) ⟨a.rel _, trivial⟩ fun f hf => by cases hf).mono ?_
  rintro e w' ⟨u, r', rfl, hr, hb⟩
  exact ⟨by rw [show u = .bool true from hr], hb⟩
theorem ringTakes_law (s : ByteArray) (ws : s.size ≤ maxLen) (w : World) : Calls Try.prog 4 #[.string s] w fun e w' => e = .returned (.bool true) ∧ Below w.heap.size w w' := by
  refine (tri_callsG (lawRingTakes_tri s.data.toList) w (vals := [.string s]) ⟨rfl, trivial⟩ fun f hf => by cases hf).mono ?_
  rintro e w' ⟨u, r', rfl, hr, hb⟩
  exact ⟨by rw [show u = .bool true from hr], hb⟩
end Go.Proofs.Ytmmhanpfppenaaa
