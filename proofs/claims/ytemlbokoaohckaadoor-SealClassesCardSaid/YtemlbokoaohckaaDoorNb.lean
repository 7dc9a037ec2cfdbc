/-
  Layer 8: what was padded is told; the laws.
-/
import Derived.Test.YtemlbokoaohckaaDoorSz
import Derived.Test.YtemlbokoaohckaaDoorNa
namespace Go.Proofs.YtemlbokoaohckaaDoor
open Go Go.RowKit Go.Proofs
set_option maxHeartbeats 4000000
set_option linter.unusedSimpArgs false
set_option linter.unusedVariables false
theorem dw_nil (c : UInt8) : ∀ l : List UInt8, (∀ x ∈ l.dropWhile (· == c), x = c) → l.dropWhile (· == c) = []
  | [], _ => rfl
  | a :: t, h => by
    rw [List.dropWhile_cons] at h ⊢
    split
    · rename_i ha
      rw [if_pos ha] at h
      exact dw_nil c t h
    · rename_i ha
      rw [if_neg ha] at h
      exact absurd (beq_iff_eq.2 (h a (by simp))) ha
theorem dw_all {c : UInt8} {l : List UInt8} : l.dropWhile (· == c) = [] ↔ ∀ x ∈ l, x = c := by
  induction l with
  | nil => simp
  | cons a t ih =>
    rw [List.dropWhile_cons]
    constructor
    · intro h x hx
      split at h
      · rename_i ha
        rcases List.mem_cons.1 hx with rfl | hx
        · exact beq_iff_eq.1 ha
        · exact ih.1 h x hx
      · cases h
    · intro h
      rw [if_pos (beq_iff_eq.2 (h a (by simp)))]
      exact ih.2 fun x hx => h x (by simp [hx])
theorem trim_nil {l : List UInt8} {c : UInt8} : Lib.trimB l c = [] ↔ ∀ x ∈ l, x = c := by
  unfold Lib.trimB Lib.trimLeftB Lib.trimRightB
  rw [dw_all]
  constructor
  · intro h x hx
    have h2 := dw_nil c l.reverse fun y hy => h y (List.mem_reverse.2 hy)
    exact dw_all.1 h2 x (List.mem_reverse.2 hx)
  · intro h x hx
    have h2 : l.reverse.dropWhile (· == c) = [] := dw_all.2 fun y hy => h y (List.mem_reverse.1 hy)
    rw [h2] at hx
    cases hx
def upN (s : List UInt8) : Nat := (s.getD 0 0).toNat + 256 * (s.getD 1 0).toNat
def upT (s : List UInt8) : List UInt8 := (s.drop 2).take (2 + upN s - 2)
def unOk (s : List UInt8) : Bool := decide (2 ≤ s.length) && (cls (upN s) == (s.length : Int)) && (Lib.trimB (s.drop (2 + upN s)) 0 == [])
def unV (s : List UInt8) : SV := if unOk s then .tup [.one (.str (upT s)), .one (.num 0)] else .tup [.one (.str []), .one (.num 3)]
def refUnV (s : List UInt8) : SV := if unOk s then .tup [.one (.str (upT s)), .one (.bo true)] else .tup [.one (.str []), .one (.bo false)]
theorem upN_lt (s : List UInt8) : upN s < 65536 := by
  unfold upN
  have h1 := (s.getD 0 0).toNat_lt
  have h2 := (s.getD 1 0).toNat_lt
  omega
def gnd : Nat → Option Con := fun f => match f with
  | 8 => some classC
  | 15 => some trim8C
  | _ => none
theorem gnd_ok : GaOkG Tryd.prog GN gnd := fun f con h => by
  unfold gnd at h
  split at h
  · injection h with h; subst h; exact classC_ok
  · injection h with h; subst h; exact trim8C_ok
  · cases h
set_option maxRecDepth 100000 in
theorem unpad_tri (s : List UInt8) (hs : s.length ≤ 100000) : TriG Tryd.prog GN 10 [.one (.str s)] [] (unV s) [] := by
  refine tri_ofx (envNK_ok gnd_ok 33 []) Tryd.func10 rfl rfl (rs := [.tmp 2, .tmp 3]) rfl rfl (by simp [envNK]) rfl ?_
  have bad : unOk s = false → unV s = .tup [.one (.str []), .one (.num 3)] := fun h => by unfold unV; rw [h]; rfl
  cases h2 : decide ((s.length : Int) < 2) with
  | true =>
    have hv := bad (by unfold unOk; rw [decide_eq_false (show ¬ 2 ≤ s.length by have := of_decide_eq_true h2; omega)]; rfl)
    simp only [envNK, con0, conS, strsOf_arr, rowS_arr, strsOf_cells, rowS_cells, toS, strL_st, strL_d, strL_enc, strL_up, hpN_nil, hpN_cons, gnd, classC, trim8C, h2, hv, go_sem, reduceCtorEq, ↓reduceIte, Nat.reduceAdd, Nat.reduceMul, Nat.reduceSub, Nat.reduceEqDiff, Nat.reduceLT, Nat.reduceBEq, Nat.reduceBNe, Nat.reduceLeDiff, Int.reduceLE, Int.reduceLT, Int.reduceToNat, Int.reduceEq, Int.reduceAdd, UInt8.reduceToNat, UInt32.reduceToNat, UInt64.reduceToNat, UInt8.reduceOfNat, UInt32.reduceOfNat, UInt64.reduceOfNat, Fin.isValue, Int.reduceSub, Int.reduceMul, Int.reduceNeg, Int.reduceMod, Int.reduceDiv, Int.reduceTDiv, Int.reduceTMod, Int.reduceBEq, Int.reduceBNe, Nat.reduceDiv, Nat.reducePow]
    repeat' apply And.intro
    rotate_right
    · refine endX [] ?_
      simp only [envNK, con0, conS, strsOf_arr, rowS_arr, strsOf_cells, rowS_cells, toS, strL_st, strL_d, strL_enc, strL_up, hpN_nil, hpN_cons, gnd, classC, trim8C, hv, go_sem, reduceCtorEq, ↓reduceIte, Nat.reduceAdd, Nat.reduceMul, Nat.reduceSub, Nat.reduceEqDiff, Nat.reduceLT, Nat.reduceBEq, Nat.reduceBNe, Nat.reduceLeDiff, Int.reduceLE, Int.reduceLT, Int.reduceToNat, Int.reduceEq, Int.reduceAdd, UInt8.reduceToNat, UInt32.reduceToNat, UInt64.reduceToNat, UInt8.reduceOfNat, UInt32.reduceOfNat, UInt64.reduceOfNat, Fin.isValue, Int.reduceSub, Int.reduceMul, Int.reduceNeg, Int.reduceMod, Int.reduceDiv, Int.reduceTDiv, Int.reduceTMod, Int.reduceBEq, Int.reduceBNe, Nat.reduceDiv, Nat.reducePow]
    all_goals first | omega | exact rfl | exact id
  | false =>
    have hl2 : 2 ≤ s.length := by have := of_decide_eq_false h2; omega
    have g0 : (0 : Int) ≤ 0 ∧ (0 : Int) < (s.length : Int) := ⟨by omega, by omega⟩
    have g1 : (0 : Int) ≤ 1 ∧ (1 : Int) < (s.length : Int) := ⟨by omega, by omega⟩
    have hn := upN_lt s
    have hlt1 := (s.getD 1 0).toNat_lt
    have f1 : IntKind.i64.wrap (((s.getD 1 0).toNat : Int) * 2 ^ (min 8 64)) = ((256 * (s.getD 1 0).toNat : Nat) : Int) := by
      have e : (2 : Int) ^ (min 8 64) = 256 := by decide
      rw [e, IntKind.wrap_i64]; omega
    have f2 : orI ((s.getD 0 0).toNat : Int) ((256 * (s.getD 1 0).toNat : Nat) : Int) = (upN s : Int) := orI_cat _ _ (s.getD 0 0).toNat_lt (s.getD 1 0).toNat_lt
    have w1 : IntKind.i64.wrap (2 + (upN s : Int)) = ((2 + upN s : Nat) : Int) := by rw [IntKind.wrap_i64]; omega
    cases hc : (cls (upN s) == (s.length : Int)) with
    | false =>
      have hv := bad (by unfold unOk; rw [hc, Bool.and_false]; rfl)
      simp only [envNK, con0, conS, strsOf_arr, rowS_arr, strsOf_cells, rowS_cells, toS, strL_st, strL_d, strL_enc, strL_up, hpN_nil, hpN_cons, gnd, classC, trim8C, h2, f1, f2, hc, Bool.not_true, Bool.not_false, hv, go_sem, reduceCtorEq, ↓reduceIte, Nat.reduceAdd, Nat.reduceMul, Nat.reduceSub, Nat.reduceEqDiff, Nat.reduceLT, Nat.reduceBEq, Nat.reduceBNe, Nat.reduceLeDiff, Int.reduceLE, Int.reduceLT, Int.reduceToNat, Int.reduceEq, Int.reduceAdd, UInt8.reduceToNat, UInt32.reduceToNat, UInt64.reduceToNat, UInt8.reduceOfNat, UInt32.reduceOfNat, UInt64.reduceOfNat, Fin.isValue, Int.reduceSub, Int.reduceMul, Int.reduceNeg, Int.reduceMod, Int.reduceDiv, Int.reduceTDiv, Int.reduceTMod, Int.reduceBEq, Int.reduceBNe, Nat.reduceDiv, Nat.reducePow]
      repeat' apply And.intro
      rotate_right
      · refine endX [] ?_
        simp only [envNK, con0, conS, strsOf_arr, rowS_arr, strsOf_cells, rowS_cells, toS, strL_st, strL_d, strL_enc, strL_up, hpN_nil, hpN_cons, gnd, classC, trim8C, hv, go_sem, reduceCtorEq, ↓reduceIte, Nat.reduceAdd, Nat.reduceMul, Nat.reduceSub, Nat.reduceEqDiff, Nat.reduceLT, Nat.reduceBEq, Nat.reduceBNe, Nat.reduceLeDiff, Int.reduceLE, Int.reduceLT, Int.reduceToNat, Int.reduceEq, Int.reduceAdd, UInt8.reduceToNat, UInt32.reduceToNat, UInt64.reduceToNat, UInt8.reduceOfNat, UInt32.reduceOfNat, UInt64.reduceOfNat, Fin.isValue, Int.reduceSub, Int.reduceMul, Int.reduceNeg, Int.reduceMod, Int.reduceDiv, Int.reduceTDiv, Int.reduceTMod, Int.reduceBEq, Int.reduceBNe, Nat.reduceDiv, Nat.reducePow]
      all_goals first | omega | exact rfl | exact id
    | true =>
      have hce := eq_of_beq hc
      have hsp : upN s + 2 ≤ s.length := by
        rcases cls_spec (upN s) with ⟨e, _⟩ | ⟨_, _, e, _, _⟩ <;> omega
      have hdl : (s.drop (2 + upN s)).length ≤ 9223372036854775807 := by simp only [List.length_drop]; omega
      have hc0 : (0 : UInt8).toNat < 128 := by decide
      cases hz : (Lib.trimB (s.drop (2 + upN s)) 0 == []) with
      | false =>
        have hv := bad (by unfold unOk; rw [hz, Bool.and_false])
        simp only [envNK, con0, conS, strsOf_arr, rowS_arr, strsOf_cells, rowS_cells, toS, strL_st, strL_d, strL_enc, strL_up, hpN_nil, hpN_cons, gnd, classC, trim8C, h2, f1, f2, w1, hc, hz, Bool.not_true, Bool.not_false, hv, Int.toNat_natCast, go_sem, reduceCtorEq, ↓reduceIte, Nat.reduceAdd, Nat.reduceMul, Nat.reduceSub, Nat.reduceEqDiff, Nat.reduceLT, Nat.reduceBEq, Nat.reduceBNe, Nat.reduceLeDiff, Int.reduceLE, Int.reduceLT, Int.reduceToNat, Int.reduceEq, Int.reduceAdd, UInt8.reduceToNat, UInt32.reduceToNat, UInt64.reduceToNat, UInt8.reduceOfNat, UInt32.reduceOfNat, UInt64.reduceOfNat, Fin.isValue, Int.reduceSub, Int.reduceMul, Int.reduceNeg, Int.reduceMod, Int.reduceDiv, Int.reduceTDiv, Int.reduceTMod, Int.reduceBEq, Int.reduceBNe, Nat.reduceDiv, Nat.reducePow]
        repeat' apply And.intro
        rotate_right
        · refine endX [] ?_
          simp only [envNK, con0, conS, strsOf_arr, rowS_arr, strsOf_cells, rowS_cells, toS, strL_st, strL_d, strL_enc, strL_up, hpN_nil, hpN_cons, gnd, classC, trim8C, hv, go_sem, reduceCtorEq, ↓reduceIte, Nat.reduceAdd, Nat.reduceMul, Nat.reduceSub, Nat.reduceEqDiff, Nat.reduceLT, Nat.reduceBEq, Nat.reduceBNe, Nat.reduceLeDiff, Int.reduceLE, Int.reduceLT, Int.reduceToNat, Int.reduceEq, Int.reduceAdd, UInt8.reduceToNat, UInt32.reduceToNat, UInt64.reduceToNat, UInt8.reduceOfNat, UInt32.reduceOfNat, UInt64.reduceOfNat, Fin.isValue, Int.reduceSub, Int.reduceMul, Int.reduceNeg, Int.reduceMod, Int.reduceDiv, Int.reduceTDiv, Int.reduceTMod, Int.reduceBEq, Int.reduceBNe, Nat.reduceDiv, Nat.reducePow]
        all_goals first | omega | exact rfl | exact id
      | true =>
        have hok : unOk s = true := by unfold unOk; rw [hz, hc, decide_eq_true hl2]; rfl
        have hv : unV s = .tup [.one (.str (upT s)), .one (.num 0)] := by unfold unV; rw [hok]; rfl
        simp only [envNK, con0, conS, strsOf_arr, rowS_arr, strsOf_cells, rowS_cells, toS, strL_st, strL_d, strL_enc, strL_up, hpN_nil, hpN_cons, gnd, classC, trim8C, h2, f1, f2, w1, hc, hz, Bool.not_true, Bool.not_false, hv, upT, Int.toNat_natCast, go_sem, reduceCtorEq, ↓reduceIte, Nat.reduceAdd, Nat.reduceMul, Nat.reduceSub, Nat.reduceEqDiff, Nat.reduceLT, Nat.reduceBEq, Nat.reduceBNe, Nat.reduceLeDiff, Int.reduceLE, Int.reduceLT, Int.reduceToNat, Int.reduceEq, Int.reduceAdd, UInt8.reduceToNat, UInt32.reduceToNat, UInt64.reduceToNat, UInt8.reduceOfNat, UInt32.reduceOfNat, UInt64.reduceOfNat, Fin.isValue, Int.reduceSub, Int.reduceMul, Int.reduceNeg, Int.reduceMod, Int.reduceDiv, Int.reduceTDiv, Int.reduceTMod, Int.reduceBEq, Int.reduceBNe, Nat.reduceDiv, Nat.reducePow]
        repeat' apply And.intro
        rotate_right
        · refine endX [] ?_
          simp only [envNK, con0, conS, strsOf_arr, rowS_arr, strsOf_cells, rowS_cells, toS, strL_st, strL_d, strL_enc, strL_up, hpN_nil, hpN_cons, gnd, classC, trim8C, upT, go_sem, reduceCtorEq, ↓reduceIte, Nat.reduceAdd, Nat.reduceMul, Nat.reduceSub, Nat.reduceEqDiff, Nat.reduceLT, Nat.reduceBEq, Nat.reduceBNe, Nat.reduceLeDiff, Int.reduceLE, Int.reduceLT, Int.reduceToNat, Int.reduceEq, Int.reduceAdd, UInt8.reduceToNat, UInt32.reduceToNat, UInt64.reduceToNat, UInt8.reduceOfNat, UInt32.reduceOfNat, UInt64.reduceOfNat, Fin.isValue, Int.reduceSub, Int.reduceMul, Int.reduceNeg, Int.reduceMod, Int.reduceDiv, Int.reduceTDiv, Int.reduceTMod, Int.reduceBEq, Int.reduceBNe, Nat.reduceDiv, Nat.reducePow]
          all_goals ((repeat' apply And.intro) <;> first | omega | exact rfl | exact id)
        all_goals first | omega | exact rfl | exact id
def unpadC : Con := con0 fun args => match args with
  | [.one (.str s)] => some (unV s, [s.length ≤ 100000])
  | _ => none
theorem unpadC_ok : ConOkG Tryd.prog GN 10 unpadC := con0_okG Tryd.func10 rfl rfl fun args res ob h hob => by
  split at h
  · injection h with h; injection h with h1 h2; subst h1; subst h2; exact unpad_tri _ hob.1
  · cases h
theorem upT_len {s : List UInt8} (h : upN s + 2 ≤ s.length) : (upT s).length = upN s := by
  unfold upT; simp only [List.length_take, List.length_drop]; omega
theorem s_parts {s : List UInt8} (h : 2 ≤ s.length) (hn : upN s + 2 ≤ s.length) : s = s.getD 0 0 :: s.getD 1 0 :: (upT s ++ s.drop (2 + upN s)) := by
  match s, h with
  | a :: b :: t, _ =>
    show a :: b :: t = a :: b :: (upT (a :: b :: t) ++ (a :: b :: t).drop (2 + upN (a :: b :: t)))
    unfold upT
    generalize upN (a :: b :: t) = n
    have e1 : 2 + n - 2 = n := by omega
    have e2 : (a :: b :: t).drop (2 + n) = t.drop n := by rw [Nat.add_comm]; rfl
    rw [e1, e2]
    show a :: b :: t = a :: b :: (t.take n ++ t.drop n)
    rw [List.take_append_drop]
theorem by8_up (s : List UInt8) : by8 (upN s : Int) = s.getD 0 0 ∧ by8 ((upN s / 256 : Nat) : Int) = s.getD 1 0 := by
  have h1 := (s.getD 0 0).toNat_lt
  have h2 := (s.getD 1 0).toNat_lt
  constructor
  · apply UInt8.toNat_inj.1
    unfold by8 upN
    rw [UInt8.toNat_ofNat']
    omega
  · apply UInt8.toNat_inj.1
    unfold by8 upN
    rw [UInt8.toNat_ofNat']
    omega
theorem pad_un {s : List UInt8} (h : 2 ≤ s.length) (hn : upN s + 2 ≤ s.length) (h7 : upN s ≤ 700) : (padL (upT s) == s) = unOk s := by
  have hl := upT_len hn
  obtain ⟨e1, e2⟩ := by8_up s
  have hp := s_parts h hn
  have hc := cls_spec (upN s)
  have hpad : padL (upT s) = s.getD 0 0 :: s.getD 1 0 :: (upT s ++ List.replicate (cls (upN s) - 2 - upN s).toNat 0) := by
    unfold padL padT
    rw [hl, e1, e2]
  have hiff : padL (upT s) = s ↔ List.replicate (cls (upN s) - 2 - upN s).toNat 0 = s.drop (2 + upN s) := by
    rw [hpad]
    constructor
    · intro e
      have e := e.trans hp
      exact List.append_cancel_left (List.cons.inj (List.cons.inj e).2).2
    · intro e
      rw [e]
      exact hp.symm
  rw [Bool.eq_iff_iff, beq_iff_eq, hiff]
  unfold unOk
  rw [decide_eq_true h, Bool.true_and, Bool.and_eq_true, beq_iff_eq, beq_iff_eq, trim_nil]
  have hdl : (s.drop (2 + upN s)).length = s.length - (2 + upN s) := List.length_drop
  constructor
  · intro e
    have := congrArg List.length e
    rw [List.length_replicate, hdl] at this
    refine ⟨by omega, fun x hx => ?_⟩
    rw [← e] at hx
    exact (List.mem_replicate.1 hx).2
  · rintro ⟨e, hz⟩
    refine (List.eq_replicate_iff.2 ⟨by omega, hz⟩).symm
def gne : Nat → Option Con := fun f => match f with
  | 11 => some refPadC
  | _ => none
theorem gne_ok : GaOkG Tryd.prog GN gne := fun f con h => by
  unfold gne at h
  split at h
  · injection h with h; subst h; exact refPadC_ok
  · cases h
set_option maxRecDepth 100000 in
theorem refUnpad_tri (s : List UInt8) (hs : s.length ≤ 100000) : TriG Tryd.prog GN 12 [.one (.str s)] [] (refUnV s) [] := by
  refine tri_ofx (envNK_ok gne_ok 38 []) Tryd.func12 rfl rfl (rs := [.tmp 2, .tmp 3]) rfl rfl (by simp [envNK]) rfl ?_
  have bad : unOk s = false → refUnV s = .tup [.one (.str []), .one (.bo false)] := fun h => by unfold refUnV; rw [h]; rfl
  cases h2 : decide ((s.length : Int) < 2) with
  | true =>
    have hv := bad (by unfold unOk; rw [decide_eq_false (show ¬ 2 ≤ s.length by have := of_decide_eq_true h2; omega)]; rfl)
    simp only [envNK, con0, conS, strsOf_arr, rowS_arr, strsOf_cells, rowS_cells, toS, strL_st, strL_d, strL_enc, strL_up, hpN_nil, hpN_cons, gne, refPadC, h2, hv, go_sem, reduceCtorEq, ↓reduceIte, Nat.reduceAdd, Nat.reduceMul, Nat.reduceSub, Nat.reduceEqDiff, Nat.reduceLT, Nat.reduceBEq, Nat.reduceBNe, Nat.reduceLeDiff, Int.reduceLE, Int.reduceLT, Int.reduceToNat, Int.reduceEq, Int.reduceAdd, UInt8.reduceToNat, UInt32.reduceToNat, UInt64.reduceToNat, UInt8.reduceOfNat, UInt32.reduceOfNat, UInt64.reduceOfNat, Fin.isValue, Int.reduceSub, Int.reduceMul, Int.reduceNeg, Int.reduceMod, Int.reduceDiv, Int.reduceTDiv, Int.reduceTMod, Int.reduceBEq, Int.reduceBNe, Nat.reduceDiv, Nat.reducePow]
    repeat' apply And.intro
    rotate_right
    · refine endX [] ?_
      simp only [envNK, con0, conS, strsOf_arr, rowS_arr, strsOf_cells, rowS_cells, toS, strL_st, strL_d, strL_enc, strL_up, hpN_nil, hpN_cons, gne, refPadC, hv, go_sem, reduceCtorEq, ↓reduceIte, Nat.reduceAdd, Nat.reduceMul, Nat.reduceSub, Nat.reduceEqDiff, Nat.reduceLT, Nat.reduceBEq, Nat.reduceBNe, Nat.reduceLeDiff, Int.reduceLE, Int.reduceLT, Int.reduceToNat, Int.reduceEq, Int.reduceAdd, UInt8.reduceToNat, UInt32.reduceToNat, UInt64.reduceToNat, UInt8.reduceOfNat, UInt32.reduceOfNat, UInt64.reduceOfNat, Fin.isValue, Int.reduceSub, Int.reduceMul, Int.reduceNeg, Int.reduceMod, Int.reduceDiv, Int.reduceTDiv, Int.reduceTMod, Int.reduceBEq, Int.reduceBNe, Nat.reduceDiv, Nat.reducePow]
    all_goals first | omega | exact rfl | exact id
  | false =>
    have hl2 : 2 ≤ s.length := by have := of_decide_eq_false h2; omega
    have g0 : (0 : Int) ≤ 0 ∧ (0 : Int) < (s.length : Int) := ⟨by omega, by omega⟩
    have g1 : (0 : Int) ≤ 1 ∧ (1 : Int) < (s.length : Int) := ⟨by omega, by omega⟩
    have hn := upN_lt s
    have hlt0 := (s.getD 0 0).toNat_lt
    have hlt1 := (s.getD 1 0).toNat_lt
    have f1 : IntKind.i64.wrap (256 * ((s.getD 1 0).toNat : Int)) = ((256 * (s.getD 1 0).toNat : Nat) : Int) := by rw [IntKind.wrap_i64]; omega
    have f2 : IntKind.i64.wrap (((s.getD 0 0).toNat : Int) + ((256 * (s.getD 1 0).toNat : Nat) : Int)) = (upN s : Int) := by rw [IntKind.wrap_i64]; unfold upN; omega
    have w1 : IntKind.i64.wrap (2 + (upN s : Int)) = ((2 + upN s : Nat) : Int) := by rw [IntKind.wrap_i64]; omega
    have w2 : IntKind.i64.wrap ((upN s : Int) + 2) = ((2 + upN s : Nat) : Int) := by rw [IntKind.wrap_i64]; omega
    have hcs := cls_spec (upN s)
    cases h7 : decide ((700 : Int) < (upN s : Int)) with
    | true =>
      have h7' := of_decide_eq_true h7
      have hv := bad (by unfold unOk; rw [beq_eq_false_iff_ne.2 (show cls (upN s) ≠ (s.length : Int) by omega), Bool.and_false]; rfl)
      simp only [envNK, con0, conS, strsOf_arr, rowS_arr, strsOf_cells, rowS_cells, toS, strL_st, strL_d, strL_enc, strL_up, hpN_nil, hpN_cons, gne, refPadC, h2, f1, f2, h7, hv, go_sem, reduceCtorEq, ↓reduceIte, Nat.reduceAdd, Nat.reduceMul, Nat.reduceSub, Nat.reduceEqDiff, Nat.reduceLT, Nat.reduceBEq, Nat.reduceBNe, Nat.reduceLeDiff, Int.reduceLE, Int.reduceLT, Int.reduceToNat, Int.reduceEq, Int.reduceAdd, UInt8.reduceToNat, UInt32.reduceToNat, UInt64.reduceToNat, UInt8.reduceOfNat, UInt32.reduceOfNat, UInt64.reduceOfNat, Fin.isValue, Int.reduceSub, Int.reduceMul, Int.reduceNeg, Int.reduceMod, Int.reduceDiv, Int.reduceTDiv, Int.reduceTMod, Int.reduceBEq, Int.reduceBNe, Nat.reduceDiv, Nat.reducePow]
      repeat' apply And.intro
      rotate_right
      · refine endX [] ?_
        simp only [envNK, con0, conS, strsOf_arr, rowS_arr, strsOf_cells, rowS_cells, toS, strL_st, strL_d, strL_enc, strL_up, hpN_nil, hpN_cons, gne, refPadC, hv, go_sem, reduceCtorEq, ↓reduceIte, Nat.reduceAdd, Nat.reduceMul, Nat.reduceSub, Nat.reduceEqDiff, Nat.reduceLT, Nat.reduceBEq, Nat.reduceBNe, Nat.reduceLeDiff, Int.reduceLE, Int.reduceLT, Int.reduceToNat, Int.reduceEq, Int.reduceAdd, UInt8.reduceToNat, UInt32.reduceToNat, UInt64.reduceToNat, UInt8.reduceOfNat, UInt32.reduceOfNat, UInt64.reduceOfNat, Fin.isValue, Int.reduceSub, Int.reduceMul, Int.reduceNeg, Int.reduceMod, Int.reduceDiv, Int.reduceTDiv, Int.reduceTMod, Int.reduceBEq, Int.reduceBNe, Nat.reduceDiv, Nat.reducePow]
      all_goals first | omega | exact rfl | exact id
    | false =>
      have h7' := of_decide_eq_false h7
      cases h8 : decide ((s.length : Int) < ((2 + upN s : Nat) : Int)) with
      | true =>
        have h8' := of_decide_eq_true h8
        have hv := bad (by unfold unOk; rw [beq_eq_false_iff_ne.2 (show cls (upN s) ≠ (s.length : Int) by omega), Bool.and_false]; rfl)
        simp only [envNK, con0, conS, strsOf_arr, rowS_arr, strsOf_cells, rowS_cells, toS, strL_st, strL_d, strL_enc, strL_up, hpN_nil, hpN_cons, gne, refPadC, h2, f1, f2, w2, h7, h8, hv, go_sem, reduceCtorEq, ↓reduceIte, Nat.reduceAdd, Nat.reduceMul, Nat.reduceSub, Nat.reduceEqDiff, Nat.reduceLT, Nat.reduceBEq, Nat.reduceBNe, Nat.reduceLeDiff, Int.reduceLE, Int.reduceLT, Int.reduceToNat, Int.reduceEq, Int.reduceAdd, UInt8.reduceToNat, UInt32.reduceToNat, UInt64.reduceToNat, UInt8.reduceOfNat, UInt32.reduceOfNat, UInt64.reduceOfNat, Fin.isValue, Int.reduceSub, Int.reduceMul, Int.reduceNeg, Int.reduceMod, Int.reduceDiv, Int.reduceTDiv, Int.reduceTMod, Int.reduceBEq, Int.reduceBNe, Nat.reduceDiv, Nat.reducePow]
        repeat' apply And.intro
        rotate_right
        · refine endX [] ?_
          simp only [envNK, con0, conS, strsOf_arr, rowS_arr, strsOf_cells, rowS_cells, toS, strL_st, strL_d, strL_enc, strL_up, hpN_nil, hpN_cons, gne, refPadC, hv, go_sem, reduceCtorEq, ↓reduceIte, Nat.reduceAdd, Nat.reduceMul, Nat.reduceSub, Nat.reduceEqDiff, Nat.reduceLT, Nat.reduceBEq, Nat.reduceBNe, Nat.reduceLeDiff, Int.reduceLE, Int.reduceLT, Int.reduceToNat, Int.reduceEq, Int.reduceAdd, UInt8.reduceToNat, UInt32.reduceToNat, UInt64.reduceToNat, UInt8.reduceOfNat, UInt32.reduceOfNat, UInt64.reduceOfNat, Fin.isValue, Int.reduceSub, Int.reduceMul, Int.reduceNeg, Int.reduceMod, Int.reduceDiv, Int.reduceTDiv, Int.reduceTMod, Int.reduceBEq, Int.reduceBNe, Nat.reduceDiv, Nat.reducePow]
        all_goals first | omega | exact rfl | exact id
      | false =>
        have h8' := of_decide_eq_false h8
        have hpu := pad_un hl2 (by omega) (by omega)
        have hul := upT_len (s := s) (by omega)
        have hul2 : (upT s).length ≤ 100000 := by omega
        have eT : (s.drop 2).take (2 + upN s - 2) = upT s := rfl
        cases hk : unOk s with
        | false =>
          have hv := bad hk
          rw [hk] at hpu
          simp only [envNK, con0, conS, strsOf_arr, rowS_arr, strsOf_cells, rowS_cells, toS, strL_st, strL_d, strL_enc, strL_up, hpN_nil, hpN_cons, gne, refPadC, h2, f1, f2, w1, w2, h7, h8, eT, hpu, Bool.not_true, Bool.not_false, hv, Int.toNat_natCast, Int.reduceToNat, go_sem, reduceCtorEq, ↓reduceIte, Nat.reduceAdd, Nat.reduceMul, Nat.reduceSub, Nat.reduceEqDiff, Nat.reduceLT, Nat.reduceBEq, Nat.reduceBNe, Nat.reduceLeDiff, Int.reduceLE, Int.reduceLT, Int.reduceToNat, Int.reduceEq, Int.reduceAdd, UInt8.reduceToNat, UInt32.reduceToNat, UInt64.reduceToNat, UInt8.reduceOfNat, UInt32.reduceOfNat, UInt64.reduceOfNat, Fin.isValue, Int.reduceSub, Int.reduceMul, Int.reduceNeg, Int.reduceMod, Int.reduceDiv, Int.reduceTDiv, Int.reduceTMod, Int.reduceBEq, Int.reduceBNe, Nat.reduceDiv, Nat.reducePow]
          repeat' apply And.intro
          rotate_right
          · refine endX [] ?_
            simp only [envNK, con0, conS, strsOf_arr, rowS_arr, strsOf_cells, rowS_cells, toS, strL_st, strL_d, strL_enc, strL_up, hpN_nil, hpN_cons, gne, refPadC, hv, go_sem, reduceCtorEq, ↓reduceIte, Nat.reduceAdd, Nat.reduceMul, Nat.reduceSub, Nat.reduceEqDiff, Nat.reduceLT, Nat.reduceBEq, Nat.reduceBNe, Nat.reduceLeDiff, Int.reduceLE, Int.reduceLT, Int.reduceToNat, Int.reduceEq, Int.reduceAdd, UInt8.reduceToNat, UInt32.reduceToNat, UInt64.reduceToNat, UInt8.reduceOfNat, UInt32.reduceOfNat, UInt64.reduceOfNat, Fin.isValue, Int.reduceSub, Int.reduceMul, Int.reduceNeg, Int.reduceMod, Int.reduceDiv, Int.reduceTDiv, Int.reduceTMod, Int.reduceBEq, Int.reduceBNe, Nat.reduceDiv, Nat.reducePow]
          all_goals first | omega | exact rfl | exact id
        | true =>
          have hv : refUnV s = .tup [.one (.str (upT s)), .one (.bo true)] := by unfold refUnV; rw [hk]; rfl
          rw [hk] at hpu
          simp only [envNK, con0, conS, strsOf_arr, rowS_arr, strsOf_cells, rowS_cells, toS, strL_st, strL_d, strL_enc, strL_up, hpN_nil, hpN_cons, gne, refPadC, h2, f1, f2, w1, w2, h7, h8, eT, hpu, Bool.not_true, Bool.not_false, hv, Int.toNat_natCast, Int.reduceToNat, go_sem, reduceCtorEq, ↓reduceIte, Nat.reduceAdd, Nat.reduceMul, Nat.reduceSub, Nat.reduceEqDiff, Nat.reduceLT, Nat.reduceBEq, Nat.reduceBNe, Nat.reduceLeDiff, Int.reduceLE, Int.reduceLT, Int.reduceToNat, Int.reduceEq, Int.reduceAdd, UInt8.reduceToNat, UInt32.reduceToNat, UInt64.reduceToNat, UInt8.reduceOfNat, UInt32.reduceOfNat, UInt64.reduceOfNat, Fin.isValue, Int.reduceSub, Int.reduceMul, Int.reduceNeg, Int.reduceMod, Int.reduceDiv, Int.reduceTDiv, Int.reduceTMod, Int.reduceBEq, Int.reduceBNe, Nat.reduceDiv, Nat.reducePow]
          repeat' apply And.intro
          rotate_right
          · refine endX [] ?_
            simp only [envNK, con0, conS, strsOf_arr, rowS_arr, strsOf_cells, rowS_cells, toS, strL_st, strL_d, strL_enc, strL_up, hpN_nil, hpN_cons, gne, refPadC, hv, go_sem, reduceCtorEq, ↓reduceIte, Nat.reduceAdd, Nat.reduceMul, Nat.reduceSub, Nat.reduceEqDiff, Nat.reduceLT, Nat.reduceBEq, Nat.reduceBNe, Nat.reduceLeDiff, Int.reduceLE, Int.reduceLT, Int.reduceToNat, Int.reduceEq, Int.reduceAdd, UInt8.reduceToNat, UInt32.reduceToNat, UInt64.reduceToNat, UInt8.reduceOfNat, UInt32.reduceOfNat, UInt64.reduceOfNat, Fin.isValue, Int.reduceSub, Int.reduceMul, Int.reduceNeg, Int.reduceMod, Int.reduceDiv, Int.reduceTDiv, Int.reduceTMod, Int.reduceBEq, Int.reduceBNe, Nat.reduceDiv, Nat.reducePow]
            all_goals ((repeat' apply And.intro) <;> first | omega | exact rfl | exact id)
          all_goals first | omega | exact rfl | exact id
def refUnpadC : Con := con0 fun args => match args with
  | [.one (.str s)] => some (refUnV s, [s.length ≤ 100000])
  | _ => none
theorem refUnpadC_ok : ConOkG Tryd.prog GN 12 refUnpadC := con0_okG Tryd.func12 rfl rfl fun args res ob h hob => by
  split at h
  · injection h with h; injection h with h1 h2; subst h1; subst h2; exact refUnpad_tri _ hob.1
  · cases h
theorem unpad_pad {s : List UInt8} (h : s.length ≤ 700) : unOk (padL s) = true ∧ upT (padL s) = s ∧ 2 ≤ (padL s).length ∧ (padL s).length ≤ 704 ∧ ((padL s).length : Int) = cls s.length := by
  have hc := cls_spec s.length
  have hpl : ((padL s).length : Int) = cls s.length := by
    unfold padL padT
    simp only [List.length_cons, List.length_append, List.length_replicate]
    omega
  have hN : upN (padL s) = s.length := by
    show (by8 (s.length : Int)).toNat + 256 * (by8 ((s.length / 256 : Nat) : Int)).toNat = _
    unfold by8
    rw [UInt8.toNat_ofNat', UInt8.toNat_ofNat']
    omega
  have hT : upT (padL s) = s := by
    unfold upT
    rw [hN]
    have e : 2 + s.length - 2 = s.length := by omega
    rw [e]
    show (padT s).take s.length = s
    unfold padT
    exact List.take_left' rfl
  have hu := pad_un (s := padL s) (by omega) (by rw [hN]; omega) (by rw [hN]; omega)
  rw [hT] at hu
  refine ⟨by rw [← hu]; simp, hT, by omega, by omega, hpl⟩
/-- A box by a scalar that is none. -/
def gnf : Nat → Option Con := fun f => match f with
  | _ => none
theorem gnf_ok : GaOkG Tryd.prog GN gnf := fun f con h => by
  unfold gnf at h
  split at h
  · cases h
theorem clamp8_tri : TriG Tryd.prog GN 33 [.one (.str [])] [] (.tup [.one (.str []), .one (.bo false)]) [] := by
  refine tri_ofx (envNK_ok gnf_ok 24 []) Tryd.func33 rfl rfl (rs := [.tmp 2, .tmp 3]) rfl rfl (by simp [envNK]) rfl ?_
  simp only [envNK, con0, conS, strsOf_arr, rowS_arr, strsOf_cells, rowS_cells, toS, strL_st, strL_d, strL_enc, strL_up, hpN_nil, hpN_cons, gnf, List.length_nil, go_sem, reduceCtorEq, ↓reduceIte, Nat.reduceAdd, Nat.reduceMul, Nat.reduceSub, Nat.reduceEqDiff, Nat.reduceLT, Nat.reduceBEq, Nat.reduceBNe, Nat.reduceLeDiff, Int.reduceLE, Int.reduceLT, Int.reduceToNat, Int.reduceEq, Int.reduceAdd, UInt8.reduceToNat, UInt32.reduceToNat, UInt64.reduceToNat, UInt8.reduceOfNat, UInt32.reduceOfNat, UInt64.reduceOfNat, Fin.isValue, Int.reduceSub, Int.reduceMul, Int.reduceNeg, Int.reduceMod, Int.reduceDiv, Int.reduceTDiv, Int.reduceTMod, Int.reduceBEq, Int.reduceBNe, Nat.reduceDiv, Nat.reducePow]
  repeat' apply And.intro
  rotate_right
  · refine endX [] ?_
    simp only [envNK, con0, conS, strsOf_arr, rowS_arr, strsOf_cells, rowS_cells, toS, strL_st, strL_d, strL_enc, strL_up, hpN_nil, hpN_cons, gnf, go_sem, reduceCtorEq, ↓reduceIte, Nat.reduceAdd, Nat.reduceMul, Nat.reduceSub, Nat.reduceEqDiff, Nat.reduceLT, Nat.reduceBEq, Nat.reduceBNe, Nat.reduceLeDiff, Int.reduceLE, Int.reduceLT, Int.reduceToNat, Int.reduceEq, Int.reduceAdd, UInt8.reduceToNat, UInt32.reduceToNat, UInt64.reduceToNat, UInt8.reduceOfNat, UInt32.reduceOfNat, UInt64.reduceOfNat, Fin.isValue, Int.reduceSub, Int.reduceMul, Int.reduceNeg, Int.reduceMod, Int.reduceDiv, Int.reduceTDiv, Int.reduceTMod, Int.reduceBEq, Int.reduceBNe, Nat.reduceDiv, Nat.reducePow]
  all_goals first | omega | exact rfl | exact id
def clamp8C : Con := con0 fun args => match args with
  | [.one (.str [])] => some (.tup [.one (.str []), .one (.bo false)], [])
  | _ => none
theorem clamp8C_ok : ConOkG Tryd.prog GN 33 clamp8C := con0_okG Tryd.func33 rfl rfl fun args res ob h hob => by
  split at h
  · injection h with h; injection h with h1 h2; subst h1; subst h2; exact clamp8_tri
  · cases h
def gng : Nat → Option Con := fun f => match f with
  | 33 => some clamp8C
  | _ => none
theorem gng_ok : GaOkG Tryd.prog GN gng := fun f con h => by
  unfold gng at h
  split at h
  · injection h with h; subst h; exact clamp8C_ok
  · cases h
theorem point8_tri (u : List UInt8) : TriG Tryd.prog GN 16 [.one (.str []), .one (.str u)] [] (.tup [.one (.str []), .one (.bo false)]) [] := by
  refine tri_ofx (envNK_ok gng_ok 27 []) Tryd.func16 rfl rfl (rs := [.tmp 4, .tmp 5]) rfl rfl (by simp [envNK]) rfl ?_
  simp only [envNK, con0, conS, strsOf_arr, rowS_arr, strsOf_cells, rowS_cells, toS, strL_st, strL_d, strL_enc, strL_up, hpN_nil, hpN_cons, gng, clamp8C, go_sem, reduceCtorEq, ↓reduceIte, Nat.reduceAdd, Nat.reduceMul, Nat.reduceSub, Nat.reduceEqDiff, Nat.reduceLT, Nat.reduceBEq, Nat.reduceBNe, Nat.reduceLeDiff, Int.reduceLE, Int.reduceLT, Int.reduceToNat, Int.reduceEq, Int.reduceAdd, UInt8.reduceToNat, UInt32.reduceToNat, UInt64.reduceToNat, UInt8.reduceOfNat, UInt32.reduceOfNat, UInt64.reduceOfNat, Fin.isValue, Int.reduceSub, Int.reduceMul, Int.reduceNeg, Int.reduceMod, Int.reduceDiv, Int.reduceTDiv, Int.reduceTMod, Int.reduceBEq, Int.reduceBNe, Nat.reduceDiv, Nat.reducePow]
  repeat' apply And.intro
  rotate_right
  · refine endX [] ?_
    simp only [envNK, con0, conS, strsOf_arr, rowS_arr, strsOf_cells, rowS_cells, toS, strL_st, strL_d, strL_enc, strL_up, hpN_nil, hpN_cons, gng, clamp8C, go_sem, reduceCtorEq, ↓reduceIte, Nat.reduceAdd, Nat.reduceMul, Nat.reduceSub, Nat.reduceEqDiff, Nat.reduceLT, Nat.reduceBEq, Nat.reduceBNe, Nat.reduceLeDiff, Int.reduceLE, Int.reduceLT, Int.reduceToNat, Int.reduceEq, Int.reduceAdd, UInt8.reduceToNat, UInt32.reduceToNat, UInt64.reduceToNat, UInt8.reduceOfNat, UInt32.reduceOfNat, UInt64.reduceOfNat, Fin.isValue, Int.reduceSub, Int.reduceMul, Int.reduceNeg, Int.reduceMod, Int.reduceDiv, Int.reduceTDiv, Int.reduceTMod, Int.reduceBEq, Int.reduceBNe, Nat.reduceDiv, Nat.reducePow]
  all_goals first | omega | exact rfl | exact id
def point8C : Con := con0 fun args => match args with
  | [.one (.str []), .one (.str u)] => some (.tup [.one (.str []), .one (.bo false)], [])
  | _ => none
theorem point8C_ok : ConOkG Tryd.prog GN 16 point8C := con0_okG Tryd.func16 rfl rfl fun args res ob h hob => by
  split at h
  · injection h with h; injection h with h1 h2; subst h1; subst h2; exact point8_tri _
  · cases h
def gnh : Nat → Option Con := fun f => match f with
  | 16 => some point8C
  | _ => none
theorem gnh_ok : GaOkG Tryd.prog GN gnh := fun f con h => by
  unfold gnh at h
  split at h
  · injection h with h; subst h; exact point8C_ok
  · cases h
theorem box8_tri (u s : List UInt8) : TriG Tryd.prog GN 13 [.one (.str u), .one (.str []), .one (.str s)] [] (.tup [.one (.str []), .one (.num 1)]) [] := by
  refine tri_ofx (envNK_ok gnh_ok 56 []) Tryd.func13 rfl rfl (rs := [.tmp 6, .tmp 7]) rfl rfl (by simp [envNK]) rfl ?_
  simp only [envNK, con0, conS, strsOf_arr, rowS_arr, strsOf_cells, rowS_cells, toS, strL_st, strL_d, strL_enc, strL_up, hpN_nil, hpN_cons, gnh, point8C, go_sem, reduceCtorEq, ↓reduceIte, Nat.reduceAdd, Nat.reduceMul, Nat.reduceSub, Nat.reduceEqDiff, Nat.reduceLT, Nat.reduceBEq, Nat.reduceBNe, Nat.reduceLeDiff, Int.reduceLE, Int.reduceLT, Int.reduceToNat, Int.reduceEq, Int.reduceAdd, UInt8.reduceToNat, UInt32.reduceToNat, UInt64.reduceToNat, UInt8.reduceOfNat, UInt32.reduceOfNat, UInt64.reduceOfNat, Fin.isValue, Int.reduceSub, Int.reduceMul, Int.reduceNeg, Int.reduceMod, Int.reduceDiv, Int.reduceTDiv, Int.reduceTMod, Int.reduceBEq, Int.reduceBNe, Nat.reduceDiv, Nat.reducePow]
  repeat' apply And.intro
  rotate_right
  · refine endX [] ?_
    simp only [envNK, con0, conS, strsOf_arr, rowS_arr, strsOf_cells, rowS_cells, toS, strL_st, strL_d, strL_enc, strL_up, hpN_nil, hpN_cons, gnh, point8C, go_sem, reduceCtorEq, ↓reduceIte, Nat.reduceAdd, Nat.reduceMul, Nat.reduceSub, Nat.reduceEqDiff, Nat.reduceLT, Nat.reduceBEq, Nat.reduceBNe, Nat.reduceLeDiff, Int.reduceLE, Int.reduceLT, Int.reduceToNat, Int.reduceEq, Int.reduceAdd, UInt8.reduceToNat, UInt32.reduceToNat, UInt64.reduceToNat, UInt8.reduceOfNat, UInt32.reduceOfNat, UInt64.reduceOfNat, Fin.isValue, Int.reduceSub, Int.reduceMul, Int.reduceNeg, Int.reduceMod, Int.reduceDiv, Int.reduceTDiv, Int.reduceTMod, Int.reduceBEq, Int.reduceBNe, Nat.reduceDiv, Nat.reducePow]
  all_goals first | omega | exact rfl | exact id
def box8C : Con := con0 fun args => match args with
  | [.one (.str u), .one (.str []), .one (.str s)] => some (.tup [.one (.str []), .one (.num 1)], [])
  | _ => none
theorem box8C_ok : ConOkG Tryd.prog GN 13 box8C := con0_okG Tryd.func13 rfl rfl fun args res ob h hob => by
  split at h
  · injection h with h; injection h with h1 h2; subst h1; subst h2; exact box8_tri _ _
  · cases h
def gni : Nat → Option Con := fun f => match f with
  | 7 => some padC
  | 10 => some unpadC
  | 13 => some box8C
  | 8 => some classC
  | _ => none
theorem gni_ok : GaOkG Tryd.prog GN gni := fun f con h => by
  unfold gni at h
  split at h
  · injection h with h; subst h; exact padC_ok
  · injection h with h; subst h; exact unpadC_ok
  · injection h with h; subst h; exact box8C_ok
  · injection h with h; subst h; exact classC_ok
  · cases h
set_option maxRecDepth 100000 in
theorem awake08_tri : TriG Tryd.prog GN 6 [] [] (.c (.one (.bo true))) [] := by
  refine tri_ofx (envNK_ok gni_ok 43 []) Tryd.func6 rfl rfl (rs := [.tmp 0]) rfl rfl (by simp [envNK]) rfl ?_
  have hp : padV [109, 97, 105, 108] = .tup [.one (.str (padL [109, 97, 105, 108])), .one (.num 0)] := rfl
  obtain ⟨u1, u2, u3, u4, u5⟩ := unpad_pad (s := [109, 97, 105, 108]) (by decide)
  have hc4 : cls (([109, 97, 105, 108] : List UInt8).length : Int) = 128 := by decide
  have hu : unV (padL [109, 97, 105, 108]) = .tup [.one (.str [109, 97, 105, 108]), .one (.num 0)] := by unfold unV; rw [u1, u2]; rfl
  have hlen : ((padL [109, 97, 105, 108]).length : Int) = 128 := by rw [u5, hc4]
  have hl2 : (padL [109, 97, 105, 108]).length ≤ 100000 := by omega
  have hcl : cls 127 = 256 := by decide
  generalize padL [109, 97, 105, 108] = p at hp hu hlen hl2
  simp only [envNK, con0, conS, strsOf_arr, rowS_arr, strsOf_cells, rowS_cells, toS, strL_st, strL_d, strL_enc, strL_up, hpN_nil, hpN_cons, gni, padC, unpadC, box8C, classC, hp, hu, hlen, hl2, hcl, List.length_cons, List.length_nil, go_sem, reduceCtorEq, ↓reduceIte, Nat.reduceAdd, Nat.reduceMul, Nat.reduceSub, Nat.reduceEqDiff, Nat.reduceLT, Nat.reduceBEq, Nat.reduceBNe, Nat.reduceLeDiff, Int.reduceLE, Int.reduceLT, Int.reduceToNat, Int.reduceEq, Int.reduceAdd, UInt8.reduceToNat, UInt32.reduceToNat, UInt64.reduceToNat, UInt8.reduceOfNat, UInt32.reduceOfNat, UInt64.reduceOfNat, Fin.isValue, Int.reduceSub, Int.reduceMul, Int.reduceNeg, Int.reduceMod, Int.reduceDiv, Int.reduceTDiv, Int.reduceTMod, Int.reduceBEq, Int.reduceBNe, Nat.reduceDiv, Nat.reducePow]
  repeat' apply And.intro
  rotate_right
  · refine endX [] ?_
    simp only [envNK, con0, conS, strsOf_arr, rowS_arr, strsOf_cells, rowS_cells, toS, strL_st, strL_d, strL_enc, strL_up, hpN_nil, hpN_cons, gni, padC, unpadC, box8C, classC, go_sem, reduceCtorEq, ↓reduceIte, Nat.reduceAdd, Nat.reduceMul, Nat.reduceSub, Nat.reduceEqDiff, Nat.reduceLT, Nat.reduceBEq, Nat.reduceBNe, Nat.reduceLeDiff, Int.reduceLE, Int.reduceLT, Int.reduceToNat, Int.reduceEq, Int.reduceAdd, UInt8.reduceToNat, UInt32.reduceToNat, UInt64.reduceToNat, UInt8.reduceOfNat, UInt32.reduceOfNat, UInt64.reduceOfNat, Fin.isValue, Int.reduceSub, Int.reduceMul, Int.reduceNeg, Int.reduceMod, Int.reduceDiv, Int.reduceTDiv, Int.reduceTMod, Int.reduceBEq, Int.reduceBNe, Nat.reduceDiv, Nat.reducePow]
  all_goals first | omega | exact rfl | exact id
def awake08C : Con := con0 fun args => match args with
  | [] => some (.c (.one (.bo true)), [])
  | _ => none
theorem awake08C_ok : ConOkG Tryd.prog GN 6 awake08C := con0_okG Tryd.func6 rfl rfl fun args res ob h hob => by
  split at h
  · injection h with h; injection h with h1 h2; subst h1; subst h2; exact awake08_tri
  · cases h
def gnj : Nat → Option Con := fun f => match f with
  | 7 => some padC
  | 10 => some unpadC
  | 8 => some classC
  | 9 => some refClassC
  | 11 => some refPadC
  | 12 => some refUnpadC
  | 6 => some awake08C
  | _ => none
theorem gnj_ok : GaOkG Tryd.prog GN gnj := fun f con h => by
  unfold gnj at h
  split at h
  · injection h with h; subst h; exact padC_ok
  · injection h with h; subst h; exact unpadC_ok
  · injection h with h; subst h; exact classC_ok
  · injection h with h; subst h; exact refClassC_ok
  · injection h with h; subst h; exact refPadC_ok
  · injection h with h; subst h; exact refUnpadC_ok
  · injection h with h; subst h; exact awake08C_ok
  · cases h
set_option maxRecDepth 100000 in
theorem lawPads_tri (s : List UInt8) (n : Int) : TriG Tryd.prog GN 3 [.one (.str s), .one (.num n)] [] (.c (.one (.bo true))) [] := by
  refine tri_ofx (envNK_ok gnj_ok 60 []) Tryd.func3 rfl rfl (rs := [.tmp 4]) rfl rfl (by simp [envNK]) rfl ?_
  cases hb : decide ((1024 : Int) < s.length) with
  | true =>
    simp only [envNK, con0, conS, strsOf_arr, rowS_arr, strsOf_cells, rowS_cells, toS, strL_st, strL_d, strL_enc, strL_up, hpN_nil, hpN_cons, gnj, padC, unpadC, classC, refClassC, refPadC, refUnpadC, awake08C, hb, go_sem, reduceCtorEq, ↓reduceIte, Nat.reduceAdd, Nat.reduceMul, Nat.reduceSub, Nat.reduceEqDiff, Nat.reduceLT, Nat.reduceBEq, Nat.reduceBNe, Nat.reduceLeDiff, Int.reduceLE, Int.reduceLT, Int.reduceToNat, Int.reduceEq, Int.reduceAdd, UInt8.reduceToNat, UInt32.reduceToNat, UInt64.reduceToNat, UInt8.reduceOfNat, UInt32.reduceOfNat, UInt64.reduceOfNat, Fin.isValue, Int.reduceSub, Int.reduceMul, Int.reduceNeg, Int.reduceMod, Int.reduceDiv, Int.reduceTDiv, Int.reduceTMod, Int.reduceBEq, Int.reduceBNe, Nat.reduceDiv, Nat.reducePow]
    repeat' apply And.intro
    rotate_right
    · refine endX [] ?_
      simp only [envNK, con0, conS, strsOf_arr, rowS_arr, strsOf_cells, rowS_cells, toS, strL_st, strL_d, strL_enc, strL_up, hpN_nil, hpN_cons, gnj, padC, unpadC, classC, refClassC, refPadC, refUnpadC, awake08C, go_sem, reduceCtorEq, ↓reduceIte, Nat.reduceAdd, Nat.reduceMul, Nat.reduceSub, Nat.reduceEqDiff, Nat.reduceLT, Nat.reduceBEq, Nat.reduceBNe, Nat.reduceLeDiff, Int.reduceLE, Int.reduceLT, Int.reduceToNat, Int.reduceEq, Int.reduceAdd, UInt8.reduceToNat, UInt32.reduceToNat, UInt64.reduceToNat, UInt8.reduceOfNat, UInt32.reduceOfNat, UInt64.reduceOfNat, Fin.isValue, Int.reduceSub, Int.reduceMul, Int.reduceNeg, Int.reduceMod, Int.reduceDiv, Int.reduceTDiv, Int.reduceTMod, Int.reduceBEq, Int.reduceBNe, Nat.reduceDiv, Nat.reducePow]
    all_goals first | omega | exact rfl | exact id
  | false =>
    have hl : s.length ≤ 1024 := by have := of_decide_eq_false hb; omega
    have hl2 : s.length ≤ 100000 := by omega
    cases h7 : decide ((700 : Int) < s.length) with
    | true =>
      have hv : padV s = .tup [.one (.str []), .one (.num 4)] := by unfold padV; rw [if_neg (by have := of_decide_eq_true h7; omega)]
      simp only [envNK, con0, conS, strsOf_arr, rowS_arr, strsOf_cells, rowS_cells, toS, strL_st, strL_d, strL_enc, strL_up, hpN_nil, hpN_cons, gnj, padC, unpadC, classC, refClassC, refPadC, refUnpadC, awake08C, hb, h7, hv, hl2, beq_self_eq_true, Bool.not_true, go_sem, reduceCtorEq, ↓reduceIte, Nat.reduceAdd, Nat.reduceMul, Nat.reduceSub, Nat.reduceEqDiff, Nat.reduceLT, Nat.reduceBEq, Nat.reduceBNe, Nat.reduceLeDiff, Int.reduceLE, Int.reduceLT, Int.reduceToNat, Int.reduceEq, Int.reduceAdd, UInt8.reduceToNat, UInt32.reduceToNat, UInt64.reduceToNat, UInt8.reduceOfNat, UInt32.reduceOfNat, UInt64.reduceOfNat, Fin.isValue, Int.reduceSub, Int.reduceMul, Int.reduceNeg, Int.reduceMod, Int.reduceDiv, Int.reduceTDiv, Int.reduceTMod, Int.reduceBEq, Int.reduceBNe, Nat.reduceDiv, Nat.reducePow]
      repeat' apply And.intro
      rotate_right
      · refine endX [] ?_
        simp only [envNK, con0, conS, strsOf_arr, rowS_arr, strsOf_cells, rowS_cells, toS, strL_st, strL_d, strL_enc, strL_up, hpN_nil, hpN_cons, gnj, padC, unpadC, classC, refClassC, refPadC, refUnpadC, awake08C, go_sem, reduceCtorEq, ↓reduceIte, Nat.reduceAdd, Nat.reduceMul, Nat.reduceSub, Nat.reduceEqDiff, Nat.reduceLT, Nat.reduceBEq, Nat.reduceBNe, Nat.reduceLeDiff, Int.reduceLE, Int.reduceLT, Int.reduceToNat, Int.reduceEq, Int.reduceAdd, UInt8.reduceToNat, UInt32.reduceToNat, UInt64.reduceToNat, UInt8.reduceOfNat, UInt32.reduceOfNat, UInt64.reduceOfNat, Fin.isValue, Int.reduceSub, Int.reduceMul, Int.reduceNeg, Int.reduceMod, Int.reduceDiv, Int.reduceTDiv, Int.reduceTMod, Int.reduceBEq, Int.reduceBNe, Nat.reduceDiv, Nat.reducePow]
      all_goals first | omega | exact rfl | exact id
    | false =>
      have h7' : s.length ≤ 700 := by have := of_decide_eq_false h7; omega
      have hv : padV s = .tup [.one (.str (padL s)), .one (.num 0)] := by unfold padV; rw [if_pos h7']
      obtain ⟨u1, u2, u3, u4, u5⟩ := unpad_pad h7'
      have hu : unV (padL s) = .tup [.one (.str s), .one (.num 0)] := by unfold unV; rw [u1, u2]; rfl
      have hpl : (padL s).length ≤ 100000 := by omega
      simp only [envNK, con0, conS, strsOf_arr, rowS_arr, strsOf_cells, rowS_cells, toS, strL_st, strL_d, strL_enc, strL_up, hpN_nil, hpN_cons, gnj, padC, unpadC, classC, refClassC, refPadC, refUnpadC, awake08C, hb, h7, hv, hu, hl2, hpl, beq_self_eq_true, Bool.not_true, go_sem, reduceCtorEq, ↓reduceIte, Nat.reduceAdd, Nat.reduceMul, Nat.reduceSub, Nat.reduceEqDiff, Nat.reduceLT, Nat.reduceBEq, Nat.reduceBNe, Nat.reduceLeDiff, Int.reduceLE, Int.reduceLT, Int.reduceToNat, Int.reduceEq, Int.reduceAdd, UInt8.reduceToNat, UInt32.reduceToNat, UInt64.reduceToNat, UInt8.reduceOfNat, UInt32.reduceOfNat, UInt64.reduceOfNat, Fin.isValue, Int.reduceSub, Int.reduceMul, Int.reduceNeg, Int.reduceMod, Int.reduceDiv, Int.reduceTDiv, Int.reduceTMod, Int.reduceBEq, Int.reduceBNe, Nat.reduceDiv, Nat.reducePow]
      repeat' apply And.intro
      rotate_right
      · refine endX [] ?_
        simp only [envNK, con0, conS, strsOf_arr, rowS_arr, strsOf_cells, rowS_cells, toS, strL_st, strL_d, strL_enc, strL_up, hpN_nil, hpN_cons, gnj, padC, unpadC, classC, refClassC, refPadC, refUnpadC, awake08C, go_sem, reduceCtorEq, ↓reduceIte, Nat.reduceAdd, Nat.reduceMul, Nat.reduceSub, Nat.reduceEqDiff, Nat.reduceLT, Nat.reduceBEq, Nat.reduceBNe, Nat.reduceLeDiff, Int.reduceLE, Int.reduceLT, Int.reduceToNat, Int.reduceEq, Int.reduceAdd, UInt8.reduceToNat, UInt32.reduceToNat, UInt64.reduceToNat, UInt8.reduceOfNat, UInt32.reduceOfNat, UInt64.reduceOfNat, Fin.isValue, Int.reduceSub, Int.reduceMul, Int.reduceNeg, Int.reduceMod, Int.reduceDiv, Int.reduceTDiv, Int.reduceTMod, Int.reduceBEq, Int.reduceBNe, Nat.reduceDiv, Nat.reducePow]
      all_goals first | omega | exact rfl | exact id
set_option maxRecDepth 100000 in
theorem lawUnpads_tri (s : List UInt8) : TriG Tryd.prog GN 4 [.one (.str s)] [] (.c (.one (.bo true))) [] := by
  refine tri_ofx (envNK_ok gnj_ok 42 []) Tryd.func4 rfl rfl (rs := [.tmp 2]) rfl rfl (by simp [envNK]) rfl ?_
  cases hb : decide ((1024 : Int) < s.length) with
  | true =>
    simp only [envNK, con0, conS, strsOf_arr, rowS_arr, strsOf_cells, rowS_cells, toS, strL_st, strL_d, strL_enc, strL_up, hpN_nil, hpN_cons, gnj, padC, unpadC, classC, refClassC, refPadC, refUnpadC, awake08C, hb, go_sem, reduceCtorEq, ↓reduceIte, Nat.reduceAdd, Nat.reduceMul, Nat.reduceSub, Nat.reduceEqDiff, Nat.reduceLT, Nat.reduceBEq, Nat.reduceBNe, Nat.reduceLeDiff, Int.reduceLE, Int.reduceLT, Int.reduceToNat, Int.reduceEq, Int.reduceAdd, UInt8.reduceToNat, UInt32.reduceToNat, UInt64.reduceToNat, UInt8.reduceOfNat, UInt32.reduceOfNat, UInt64.reduceOfNat, Fin.isValue, Int.reduceSub, Int.reduceMul, Int.reduceNeg, Int.reduceMod, Int.reduceDiv, Int.reduceTDiv, Int.reduceTMod, Int.reduceBEq, Int.reduceBNe, Nat.reduceDiv, Nat.reducePow]
    repeat' apply And.intro
    rotate_right
    · refine endX [] ?_
      simp only [envNK, con0, conS, strsOf_arr, rowS_arr, strsOf_cells, rowS_cells, toS, strL_st, strL_d, strL_enc, strL_up, hpN_nil, hpN_cons, gnj, padC, unpadC, classC, refClassC, refPadC, refUnpadC, awake08C, go_sem, reduceCtorEq, ↓reduceIte, Nat.reduceAdd, Nat.reduceMul, Nat.reduceSub, Nat.reduceEqDiff, Nat.reduceLT, Nat.reduceBEq, Nat.reduceBNe, Nat.reduceLeDiff, Int.reduceLE, Int.reduceLT, Int.reduceToNat, Int.reduceEq, Int.reduceAdd, UInt8.reduceToNat, UInt32.reduceToNat, UInt64.reduceToNat, UInt8.reduceOfNat, UInt32.reduceOfNat, UInt64.reduceOfNat, Fin.isValue, Int.reduceSub, Int.reduceMul, Int.reduceNeg, Int.reduceMod, Int.reduceDiv, Int.reduceTDiv, Int.reduceTMod, Int.reduceBEq, Int.reduceBNe, Nat.reduceDiv, Nat.reducePow]
    all_goals first | omega | exact rfl | exact id
  | false =>
    have hl : s.length ≤ 1024 := by have := of_decide_eq_false hb; omega
    have hl2 : s.length ≤ 100000 := by omega
    cases hk : unOk s with
    | false =>
      have h1 : unV s = .tup [.one (.str []), .one (.num 3)] := by unfold unV; rw [hk]; rfl
      have h2 : refUnV s = .tup [.one (.str []), .one (.bo false)] := by unfold refUnV; rw [hk]; rfl
      simp only [envNK, con0, conS, strsOf_arr, rowS_arr, strsOf_cells, rowS_cells, toS, strL_st, strL_d, strL_enc, strL_up, hpN_nil, hpN_cons, gnj, padC, unpadC, classC, refClassC, refPadC, refUnpadC, awake08C, hb, h1, h2, hl2, go_sem, reduceCtorEq, ↓reduceIte, Nat.reduceAdd, Nat.reduceMul, Nat.reduceSub, Nat.reduceEqDiff, Nat.reduceLT, Nat.reduceBEq, Nat.reduceBNe, Nat.reduceLeDiff, Int.reduceLE, Int.reduceLT, Int.reduceToNat, Int.reduceEq, Int.reduceAdd, UInt8.reduceToNat, UInt32.reduceToNat, UInt64.reduceToNat, UInt8.reduceOfNat, UInt32.reduceOfNat, UInt64.reduceOfNat, Fin.isValue, Int.reduceSub, Int.reduceMul, Int.reduceNeg, Int.reduceMod, Int.reduceDiv, Int.reduceTDiv, Int.reduceTMod, Int.reduceBEq, Int.reduceBNe, Nat.reduceDiv, Nat.reducePow]
      repeat' apply And.intro
      rotate_right
      · refine endX [] ?_
        simp only [envNK, con0, conS, strsOf_arr, rowS_arr, strsOf_cells, rowS_cells, toS, strL_st, strL_d, strL_enc, strL_up, hpN_nil, hpN_cons, gnj, padC, unpadC, classC, refClassC, refPadC, refUnpadC, awake08C, go_sem, reduceCtorEq, ↓reduceIte, Nat.reduceAdd, Nat.reduceMul, Nat.reduceSub, Nat.reduceEqDiff, Nat.reduceLT, Nat.reduceBEq, Nat.reduceBNe, Nat.reduceLeDiff, Int.reduceLE, Int.reduceLT, Int.reduceToNat, Int.reduceEq, Int.reduceAdd, UInt8.reduceToNat, UInt32.reduceToNat, UInt64.reduceToNat, UInt8.reduceOfNat, UInt32.reduceOfNat, UInt64.reduceOfNat, Fin.isValue, Int.reduceSub, Int.reduceMul, Int.reduceNeg, Int.reduceMod, Int.reduceDiv, Int.reduceTDiv, Int.reduceTMod, Int.reduceBEq, Int.reduceBNe, Nat.reduceDiv, Nat.reducePow]
      all_goals first | omega | exact rfl | exact id
    | true =>
      have h1 : unV s = .tup [.one (.str (upT s)), .one (.num 0)] := by unfold unV; rw [hk]; rfl
      have h2 : refUnV s = .tup [.one (.str (upT s)), .one (.bo true)] := by unfold refUnV; rw [hk]; rfl
      simp only [envNK, con0, conS, strsOf_arr, rowS_arr, strsOf_cells, rowS_cells, toS, strL_st, strL_d, strL_enc, strL_up, hpN_nil, hpN_cons, gnj, padC, unpadC, classC, refClassC, refPadC, refUnpadC, awake08C, hb, h1, h2, hl2, beq_self_eq_true, go_sem, reduceCtorEq, ↓reduceIte, Nat.reduceAdd, Nat.reduceMul, Nat.reduceSub, Nat.reduceEqDiff, Nat.reduceLT, Nat.reduceBEq, Nat.reduceBNe, Nat.reduceLeDiff, Int.reduceLE, Int.reduceLT, Int.reduceToNat, Int.reduceEq, Int.reduceAdd, UInt8.reduceToNat, UInt32.reduceToNat, UInt64.reduceToNat, UInt8.reduceOfNat, UInt32.reduceOfNat, UInt64.reduceOfNat, Fin.isValue, Int.reduceSub, Int.reduceMul, Int.reduceNeg, Int.reduceMod, Int.reduceDiv, Int.reduceTDiv, Int.reduceTMod, Int.reduceBEq, Int.reduceBNe, Nat.reduceDiv, Nat.reducePow]
      repeat' apply And.intro
      rotate_right
      · refine endX [] ?_
        simp only [envNK, con0, conS, strsOf_arr, rowS_arr, strsOf_cells, rowS_cells, toS, strL_st, strL_d, strL_enc, strL_up, hpN_nil, hpN_cons, gnj, padC, unpadC, classC, refClassC, refPadC, refUnpadC, awake08C, go_sem, reduceCtorEq, ↓reduceIte, Nat.reduceAdd, Nat.reduceMul, Nat.reduceSub, Nat.reduceEqDiff, Nat.reduceLT, Nat.reduceBEq, Nat.reduceBNe, Nat.reduceLeDiff, Int.reduceLE, Int.reduceLT, Int.reduceToNat, Int.reduceEq, Int.reduceAdd, UInt8.reduceToNat, UInt32.reduceToNat, UInt64.reduceToNat, UInt8.reduceOfNat, UInt32.reduceOfNat, UInt64.reduceOfNat, Fin.isValue, Int.reduceSub, Int.reduceMul, Int.reduceNeg, Int.reduceMod, Int.reduceDiv, Int.reduceTDiv, Int.reduceTMod, Int.reduceBEq, Int.reduceBNe, Nat.reduceDiv, Nat.reducePow]
      all_goals first | omega | exact rfl | exact id
theorem sealPads_law (s : ByteArray) (ws : s.size ≤ maxLen) (n : Int) (wn : (Lit.int .i64 n).wf = true) (w : World) (hg : ∀ f ∈ GN, f.p w) : Calls Tryd.prog 3 #[.string s, .int .i64 n] w fun e w' => e = .returned (.bool true) ∧ Below w.heap.size w w' := by
  refine (tri_callsG (lawPads_tri s.data.toList n) w (vals := [.string s, .int .i64 n]) ⟨rfl, rfl, trivial⟩ hg).mono ?_
  rintro e w' ⟨u, r', rfl, hr, hb⟩
  exact ⟨by rw [show u = .bool true from hr], hb⟩
theorem sealUnpads_law (s : ByteArray) (ws : s.size ≤ maxLen) (w : World) (hg : ∀ f ∈ GN, f.p w) : Calls Tryd.prog 4 #[.string s] w fun e w' => e = .returned (.bool true) ∧ Below w.heap.size w w' := by
  refine (tri_callsG (lawUnpads_tri s.data.toList) w (vals := [.string s]) ⟨rfl, trivial⟩ hg).mono ?_
  rintro e w' ⟨u, r', rfl, hr, hb⟩
  exact ⟨by rw [show u = .bool true from hr], hb⟩
end Go.Proofs.YtemlbokoaohckaaDoor
