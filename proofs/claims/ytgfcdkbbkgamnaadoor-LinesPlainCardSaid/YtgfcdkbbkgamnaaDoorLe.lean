/-
  Layer 17: equal texts; the fixed answer.
-/
import Derived.Test.YtgfcdkbbkgamnaaDoorSz
import Derived.Test.YtgfcdkbbkgamnaaDoorLd
namespace Go.Proofs.YtgfcdkbbkgamnaaDoor
open Go Go.RowKit
set_option maxHeartbeats 4000000
set_option linter.unusedSimpArgs false
set_option linter.unusedVariables false
/-- The contracts of both. -/
def takeF : List CV → List (List (List UInt8)) → Option (SV × List SObj × List Prop)
  | [.one (.str s)], [] => some (.tup [.agg [rowAV 0 (takeL s).T, rowAV 1 (takeL s).L], .one (.str (takeL s).rest), .one (.num (takeL s).st), .one (.num (takeL s).n)], takeO (takeL s), [s.length ≤ 1048576])
  | _, _ => none
def takeC : Con := conS takeF
theorem takeC_ok : ConOkG Tryd.prog GL 33 takeC := conS_ok Tryd.func33 rfl rfl
  (fun args v news ob h hob => by
    unfold takeF at h
    split at h
    · simp only [Option.some.injEq, Prod.mk.injEq] at h
      obtain ⟨rfl, rfl, rfl⟩ := h
      exact take_tri _ hob.1
    · cases h)
  (fun args a v news ob h hob => by simp [takeF] at h) (fun args a b v news ob h hob => by simp [takeF] at h) (fun args a b c l => by simp [takeF])
def takeRF : List CV → List (List (List UInt8)) → Option (SV × List SObj × List Prop)
  | [.one (.str s)], [] => some (.tup [.one (rowAV 0 (takeL s).T), .one (rowAV 1 (takeL s).L), .one (.str (takeL s).rest), .one (.num (takeL s).st), .one (.num (takeL s).n)], takeO (takeL s), [s.length ≤ 1048576])
  | _, _ => none
def takeRC : Con := conS takeRF
theorem takeRC_ok : ConOkG Tryd.prog GL 34 takeRC := conS_ok Tryd.func34 rfl rfl
  (fun args v news ob h hob => by
    unfold takeRF at h
    split at h
    · simp only [Option.some.injEq, Prod.mk.injEq] at h
      obtain ⟨rfl, rfl, rfl⟩ := h
      exact refTake_tri _ hob.1
    · cases h)
  (fun args a v news ob h hob => by simp [takeRF] at h) (fun args a b v news ob h hob => by simp [takeRF] at h) (fun args a b c l => by simp [takeRF])
def gaE2 : Nat → Option Con := fun f => match f with
  | _ => none
theorem gaE2_ok : GaOkG Tryd.prog GL gaE2 := fun f con h => by
  unfold gaE2 at h
  split at h
  · cases h
def sameRInv (n : Nat) (a b : List (List UInt8)) (wa wb : Bool) (i : Nat) : St := ⟨[(0, .c (.one (.sl 0 0 1 n))), (1, .c (.one (.sl 1 0 1 n))), (5, .c (.one (.num i)))], [(0, ⟨.arr _ strL a, wa⟩), (1, ⟨.arr _ strL b, wb⟩)]⟩
set_option maxRecDepth 100000 in
theorem same2_tri (a b : List (List UInt8)) (wa wb : Bool) (ha : a.length ≤ 1048576) (hb : b.length ≤ 1048576) : TriG Tryd.prog GL 35 [.one (.sl 0 0 1 a.length), .one (.sl 1 0 1 b.length)] [(0, ⟨.arr _ strL a, wa⟩), (1, ⟨.arr _ strL b, wb⟩)] (.c (.one (.bo (a == b)))) [(0, ⟨.arr _ strL a, wa⟩), (1, ⟨.arr _ strL b, wb⟩)] := by
  refine tri_ofx (envLK_ok gaE2_ok 26 [0, 1]) Tryd.func35 rfl rfl (rs := [.tmp 4]) rfl rfl (by simp [envLK]) rfl ?_
  cases hl : ((a.length : Int) == (b.length : Int)) with
  | false =>
    have he : (a == b) = false := by
      rw [beq_eq_false_iff_ne]
      intro e
      rw [e] at hl
      simp at hl
    simp only [envLK, con0, conS, strsOf_arr, rowS_arr, strsOf_cells, rowS_cells, toS, strL_st, strL_d, strL_enc, strL_up, hpN_nil, hpN_cons, gaE2, hl, go_sem, reduceCtorEq, ↓reduceIte, Nat.reduceAdd, Nat.reduceMul, Nat.reduceSub, Nat.reduceEqDiff, Nat.reduceLT, Nat.reduceBEq, Nat.reduceBNe, Nat.reduceLeDiff, Int.reduceLE, Int.reduceLT, Int.reduceToNat, Int.reduceEq, Int.reduceAdd, UInt8.reduceToNat, UInt32.reduceToNat, UInt64.reduceToNat, UInt8.reduceOfNat, UInt32.reduceOfNat, UInt64.reduceOfNat, Fin.isValue, Int.reduceSub, Int.reduceMul, Int.reduceNeg, Int.reduceMod, Int.reduceDiv, Int.reduceTDiv, Int.reduceTMod, Int.reduceBEq, Int.reduceBNe, Nat.reduceDiv, Nat.reducePow]
    refine endX [] ?_
    simp only [envLK, con0, conS, strsOf_arr, rowS_arr, strsOf_cells, rowS_cells, toS, strL_st, strL_d, strL_enc, strL_up, hpN_nil, hpN_cons, gaE2, he, go_sem, reduceCtorEq, ↓reduceIte, Nat.reduceAdd, Nat.reduceMul, Nat.reduceSub, Nat.reduceEqDiff, Nat.reduceLT, Nat.reduceBEq, Nat.reduceBNe, Nat.reduceLeDiff, Int.reduceLE, Int.reduceLT, Int.reduceToNat, Int.reduceEq, Int.reduceAdd, UInt8.reduceToNat, UInt32.reduceToNat, UInt64.reduceToNat, UInt8.reduceOfNat, UInt32.reduceOfNat, UInt64.reduceOfNat, Fin.isValue, Int.reduceSub, Int.reduceMul, Int.reduceNeg, Int.reduceMod, Int.reduceDiv, Int.reduceTDiv, Int.reduceTMod, Int.reduceBEq, Int.reduceBNe, Nat.reduceDiv, Nat.reducePow]
    ((repeat' apply And.intro) <;> first | omega | exact rfl | exact id)
  | true =>
    have hl' : b.length = a.length := by have := eq_of_beq hl; omega
    rw [hl'] at hl ⊢
    simp only [envLK, con0, conS, strsOf_arr, rowS_arr, strsOf_cells, rowS_cells, toS, strL_st, strL_d, strL_enc, strL_up, hpN_nil, hpN_cons, gaE2, hl, go_sem, reduceCtorEq, ↓reduceIte, Nat.reduceAdd, Nat.reduceMul, Nat.reduceSub, Nat.reduceEqDiff, Nat.reduceLT, Nat.reduceBEq, Nat.reduceBNe, Nat.reduceLeDiff, Int.reduceLE, Int.reduceLT, Int.reduceToNat, Int.reduceEq, Int.reduceAdd, UInt8.reduceToNat, UInt32.reduceToNat, UInt64.reduceToNat, UInt8.reduceOfNat, UInt32.reduceOfNat, UInt64.reduceOfNat, Fin.isValue, Int.reduceSub, Int.reduceMul, Int.reduceNeg, Int.reduceMod, Int.reduceDiv, Int.reduceTDiv, Int.reduceTMod, Int.reduceBEq, Int.reduceBNe, Nat.reduceDiv, Nat.reducePow]
    refine loop_inv (envLK_ok gaE2_ok 26 [0, 1]) (sameRInv a.length a b wa wb) (fun i => i ≤ a.length ∧ ∀ j, j < i → a[j]? = b[j]?) (fun i => a.length - i) 0 [] ⟨Nat.zero_le _, fun j hj => by omega⟩ ?_ ?_
    · simp only [sameRInv, go_sem, reduceCtorEq, ↓reduceIte, Nat.reduceAdd, Nat.reduceMul, Nat.reduceSub, Nat.reduceEqDiff, Nat.reduceLT, Nat.reduceBEq, Nat.reduceBNe, Nat.reduceLeDiff, Int.reduceLE, Int.reduceLT, Int.reduceToNat, Int.reduceEq, Int.reduceAdd, UInt8.reduceToNat, UInt32.reduceToNat, UInt64.reduceToNat, UInt8.reduceOfNat, UInt32.reduceOfNat, UInt64.reduceOfNat, Fin.isValue, Int.reduceSub, Int.reduceMul, Int.reduceNeg, Int.reduceMod, Int.reduceDiv, Int.reduceTDiv, Int.reduceTMod, Int.reduceBEq, Int.reduceBNe, Nat.reduceDiv, Nat.reducePow]
      ((repeat' apply And.intro) <;> first | omega | exact rfl | exact id)
    · intro i hi
      have hw : IntKind.i64.wrap ((i : Int) + 1) = ((i + 1 : Nat) : Int) := by rw [IntKind.wrap_i64]; omega
      simp only [envLK, con0, conS, strsOf_arr, rowS_arr, strsOf_cells, rowS_cells, toS, strL_st, strL_d, strL_enc, strL_up, hpN_nil, hpN_cons, gaE2, sameRInv, go_sem, reduceCtorEq, ↓reduceIte, Nat.reduceAdd, Nat.reduceMul, Nat.reduceSub, Nat.reduceEqDiff, Nat.reduceLT, Nat.reduceBEq, Nat.reduceBNe, Nat.reduceLeDiff, Int.reduceLE, Int.reduceLT, Int.reduceToNat, Int.reduceEq, Int.reduceAdd, UInt8.reduceToNat, UInt32.reduceToNat, UInt64.reduceToNat, UInt8.reduceOfNat, UInt32.reduceOfNat, UInt64.reduceOfNat, Fin.isValue, Int.reduceSub, Int.reduceMul, Int.reduceNeg, Int.reduceMod, Int.reduceDiv, Int.reduceTDiv, Int.reduceTMod, Int.reduceBEq, Int.reduceBNe, Nat.reduceDiv, Nat.reducePow]
      refine br (fun h => ?_) fun h => ?_
      · have hlt : i < a.length := by have := of_decide_eq_true h; omega
        have ga : a[i]? = some (a.getD i []) := by simp [List.getD_eq_getElem?_getD, hlt]
        have gb : b[i]? = some (b.getD i []) := by simp [List.getD_eq_getElem?_getD, hl', hlt]
        cases hq : (a.getD i [] == b.getD i []) with
        | false =>
          have he : (a == b) = false := by
            rw [beq_eq_false_iff_ne]
            intro e
            rw [e] at hq
            simp at hq
          simp only [envLK, con0, conS, strsOf_arr, rowS_arr, strsOf_cells, rowS_cells, toS, strL_st, strL_d, strL_enc, strL_up, hpN_nil, hpN_cons, gaE2, hq, he, go_sem, reduceCtorEq, ↓reduceIte, Nat.reduceAdd, Nat.reduceMul, Nat.reduceSub, Nat.reduceEqDiff, Nat.reduceLT, Nat.reduceBEq, Nat.reduceBNe, Nat.reduceLeDiff, Int.reduceLE, Int.reduceLT, Int.reduceToNat, Int.reduceEq, Int.reduceAdd, UInt8.reduceToNat, UInt32.reduceToNat, UInt64.reduceToNat, UInt8.reduceOfNat, UInt32.reduceOfNat, UInt64.reduceOfNat, Fin.isValue, Int.reduceSub, Int.reduceMul, Int.reduceNeg, Int.reduceMod, Int.reduceDiv, Int.reduceTDiv, Int.reduceTMod, Int.reduceBEq, Int.reduceBNe, Nat.reduceDiv, Nat.reducePow]
          repeat' apply And.intro
          rotate_right
          · refine endX [] ?_
            simp only [envLK, con0, conS, strsOf_arr, rowS_arr, strsOf_cells, rowS_cells, toS, strL_st, strL_d, strL_enc, strL_up, hpN_nil, hpN_cons, gaE2, he, go_sem, reduceCtorEq, ↓reduceIte, Nat.reduceAdd, Nat.reduceMul, Nat.reduceSub, Nat.reduceEqDiff, Nat.reduceLT, Nat.reduceBEq, Nat.reduceBNe, Nat.reduceLeDiff, Int.reduceLE, Int.reduceLT, Int.reduceToNat, Int.reduceEq, Int.reduceAdd, UInt8.reduceToNat, UInt32.reduceToNat, UInt64.reduceToNat, UInt8.reduceOfNat, UInt32.reduceOfNat, UInt64.reduceOfNat, Fin.isValue, Int.reduceSub, Int.reduceMul, Int.reduceNeg, Int.reduceMod, Int.reduceDiv, Int.reduceTDiv, Int.reduceTMod, Int.reduceBEq, Int.reduceBNe, Nat.reduceDiv, Nat.reducePow]
            ((repeat' apply And.intro) <;> first | omega | exact rfl | exact id)
          all_goals first | omega | exact rfl | exact id
        | true =>
          simp only [envLK, con0, conS, strsOf_arr, rowS_arr, strsOf_cells, rowS_cells, toS, strL_st, strL_d, strL_enc, strL_up, hpN_nil, hpN_cons, gaE2, hq, hw, go_sem, reduceCtorEq, ↓reduceIte, Nat.reduceAdd, Nat.reduceMul, Nat.reduceSub, Nat.reduceEqDiff, Nat.reduceLT, Nat.reduceBEq, Nat.reduceBNe, Nat.reduceLeDiff, Int.reduceLE, Int.reduceLT, Int.reduceToNat, Int.reduceEq, Int.reduceAdd, UInt8.reduceToNat, UInt32.reduceToNat, UInt64.reduceToNat, UInt8.reduceOfNat, UInt32.reduceOfNat, UInt64.reduceOfNat, Fin.isValue, Int.reduceSub, Int.reduceMul, Int.reduceNeg, Int.reduceMod, Int.reduceDiv, Int.reduceTDiv, Int.reduceTMod, Int.reduceBEq, Int.reduceBNe, Nat.reduceDiv, Nat.reducePow]
          repeat' apply And.intro
          rotate_right
          · refine again (i + 1) [] ⟨by omega, fun j hj => ?_⟩ (by omega) ?_
            · rcases Nat.lt_or_ge j i with hj' | hj'
              · exact hi.2 j hj'
              · rw [show j = i by omega, ga, gb]; congr 1; simpa using hq
            · simp only [sameRInv, envLK, con0, conS, strsOf_arr, rowS_arr, strsOf_cells, rowS_cells, toS, strL_st, strL_d, strL_enc, strL_up, hpN_nil, hpN_cons, gaE2, go_sem, reduceCtorEq, ↓reduceIte, Nat.reduceAdd, Nat.reduceMul, Nat.reduceSub, Nat.reduceEqDiff, Nat.reduceLT, Nat.reduceBEq, Nat.reduceBNe, Nat.reduceLeDiff, Int.reduceLE, Int.reduceLT, Int.reduceToNat, Int.reduceEq, Int.reduceAdd, UInt8.reduceToNat, UInt32.reduceToNat, UInt64.reduceToNat, UInt8.reduceOfNat, UInt32.reduceOfNat, UInt64.reduceOfNat, Fin.isValue, Int.reduceSub, Int.reduceMul, Int.reduceNeg, Int.reduceMod, Int.reduceDiv, Int.reduceTDiv, Int.reduceTMod, Int.reduceBEq, Int.reduceBNe, Nat.reduceDiv, Nat.reducePow]
              ((repeat' apply And.intro) <;> first | omega | exact rfl | exact id)
          all_goals first | omega | exact rfl | exact id
      · have hge : a.length ≤ i := by have := of_decide_eq_false h; omega
        have he : (a == b) = true := by
          rw [beq_iff_eq]
          apply List.ext_getElem?
          intro j
          rcases Nat.lt_or_ge j i with hj | hj
          · exact hi.2 j hj
          · rw [List.getElem?_eq_none (by omega), List.getElem?_eq_none (by omega)]
        simp only [envLK, con0, conS, strsOf_arr, rowS_arr, strsOf_cells, rowS_cells, toS, strL_st, strL_d, strL_enc, strL_up, hpN_nil, hpN_cons, gaE2, he, go_sem, reduceCtorEq, ↓reduceIte, Nat.reduceAdd, Nat.reduceMul, Nat.reduceSub, Nat.reduceEqDiff, Nat.reduceLT, Nat.reduceBEq, Nat.reduceBNe, Nat.reduceLeDiff, Int.reduceLE, Int.reduceLT, Int.reduceToNat, Int.reduceEq, Int.reduceAdd, UInt8.reduceToNat, UInt32.reduceToNat, UInt64.reduceToNat, UInt8.reduceOfNat, UInt32.reduceOfNat, UInt64.reduceOfNat, Fin.isValue, Int.reduceSub, Int.reduceMul, Int.reduceNeg, Int.reduceMod, Int.reduceDiv, Int.reduceTDiv, Int.reduceTMod, Int.reduceBEq, Int.reduceBNe, Nat.reduceDiv, Nat.reducePow]
        refine endX [] ?_
        simp only [envLK, con0, conS, strsOf_arr, rowS_arr, strsOf_cells, rowS_cells, toS, strL_st, strL_d, strL_enc, strL_up, hpN_nil, hpN_cons, gaE2, he, go_sem, reduceCtorEq, ↓reduceIte, Nat.reduceAdd, Nat.reduceMul, Nat.reduceSub, Nat.reduceEqDiff, Nat.reduceLT, Nat.reduceBEq, Nat.reduceBNe, Nat.reduceLeDiff, Int.reduceLE, Int.reduceLT, Int.reduceToNat, Int.reduceEq, Int.reduceAdd, UInt8.reduceToNat, UInt32.reduceToNat, UInt64.reduceToNat, UInt8.reduceOfNat, UInt32.reduceOfNat, UInt64.reduceOfNat, Fin.isValue, Int.reduceSub, Int.reduceMul, Int.reduceNeg, Int.reduceMod, Int.reduceDiv, Int.reduceTDiv, Int.reduceTMod, Int.reduceBEq, Int.reduceBNe, Nat.reduceDiv, Nat.reducePow]
        ((repeat' apply And.intro) <;> first | omega | exact rfl | exact id)
set_option maxRecDepth 100000 in
theorem same0_tri : TriG Tryd.prog GL 35 [.one (.val (.slice none 0 0)), .one (.val (.slice none 0 0))] [] (.c (.one (.bo true))) [] := by
  refine tri_ofx (envLK_ok gaE2_ok 26 []) Tryd.func35 rfl rfl (rs := [.tmp 4]) rfl rfl (by simp [envLK]) rfl ?_
  simp only [envLK, con0, conS, strsOf_arr, rowS_arr, strsOf_cells, rowS_cells, toS, strL_st, strL_d, strL_enc, strL_up, hpN_nil, hpN_cons, gaE2, go_sem, reduceCtorEq, ↓reduceIte, Nat.reduceAdd, Nat.reduceMul, Nat.reduceSub, Nat.reduceEqDiff, Nat.reduceLT, Nat.reduceBEq, Nat.reduceBNe, Nat.reduceLeDiff, Int.reduceLE, Int.reduceLT, Int.reduceToNat, Int.reduceEq, Int.reduceAdd, UInt8.reduceToNat, UInt32.reduceToNat, UInt64.reduceToNat, UInt8.reduceOfNat, UInt32.reduceOfNat, UInt64.reduceOfNat, Fin.isValue, Int.reduceSub, Int.reduceMul, Int.reduceNeg, Int.reduceMod, Int.reduceDiv, Int.reduceTDiv, Int.reduceTMod, Int.reduceBEq, Int.reduceBNe, Nat.reduceDiv, Nat.reducePow]
  refine loop_rounds (envLK_ok gaE2_ok 26 []) 2 ?_
  simp only [envLK, con0, conS, strsOf_arr, rowS_arr, strsOf_cells, rowS_cells, toS, strL_st, strL_d, strL_enc, strL_up, hpN_nil, hpN_cons, gaE2, go_sem, reduceCtorEq, ↓reduceIte, Nat.reduceAdd, Nat.reduceMul, Nat.reduceSub, Nat.reduceEqDiff, Nat.reduceLT, Nat.reduceBEq, Nat.reduceBNe, Nat.reduceLeDiff, Int.reduceLE, Int.reduceLT, Int.reduceToNat, Int.reduceEq, Int.reduceAdd, UInt8.reduceToNat, UInt32.reduceToNat, UInt64.reduceToNat, UInt8.reduceOfNat, UInt32.reduceOfNat, UInt64.reduceOfNat, Fin.isValue, Int.reduceSub, Int.reduceMul, Int.reduceNeg, Int.reduceMod, Int.reduceDiv, Int.reduceTDiv, Int.reduceTMod, Int.reduceBEq, Int.reduceBNe, Nat.reduceDiv, Nat.reducePow]
  refine endX [] ?_
  simp only [envLK, con0, conS, strsOf_arr, rowS_arr, strsOf_cells, rowS_cells, toS, strL_st, strL_d, strL_enc, strL_up, hpN_nil, hpN_cons, gaE2, go_sem, reduceCtorEq, ↓reduceIte, Nat.reduceAdd, Nat.reduceMul, Nat.reduceSub, Nat.reduceEqDiff, Nat.reduceLT, Nat.reduceBEq, Nat.reduceBNe, Nat.reduceLeDiff, Int.reduceLE, Int.reduceLT, Int.reduceToNat, Int.reduceEq, Int.reduceAdd, UInt8.reduceToNat, UInt32.reduceToNat, UInt64.reduceToNat, UInt8.reduceOfNat, UInt32.reduceOfNat, UInt64.reduceOfNat, Fin.isValue, Int.reduceSub, Int.reduceMul, Int.reduceNeg, Int.reduceMod, Int.reduceDiv, Int.reduceTDiv, Int.reduceTMod, Int.reduceBEq, Int.reduceBNe, Nat.reduceDiv, Nat.reducePow]
def same17F : List CV → List (List (List UInt8)) → Option (SV × List SObj × List Prop)
  | [.one (.val (.slice none 0 0)), .one (.val (.slice none 0 0))], [] => some (.c (.one (.bo true)), [], [])
  | [.one (.sl 0 0 1 n), .one (.sl 1 0 1 m)], [a, b] => some (.c (.one (.bo (a == b))), [], [n = a.length, m = b.length, a.length ≤ 1048576, b.length ≤ 1048576])
  | _, _ => none
def same17C : Con := conS same17F
theorem same17C_ok : ConOkG Tryd.prog GL 35 same17C := conS_ok Tryd.func35 rfl rfl
  (fun args v news ob h hob => by
    unfold same17F at h
    split at h
    · simp only [Option.some.injEq, Prod.mk.injEq] at h
      obtain ⟨rfl, rfl, rfl⟩ := h
      exact same0_tri
    · rename_i h2; cases h2
    · cases h)
  (fun args a v news ob h hob => by
    unfold same17F at h
    split at h
    · rename_i h2; cases h2
    · rename_i h2; cases h2
    · cases h)
  (fun args a b v news ob h hob wa wb => by
    unfold same17F at h
    split at h
    · rename_i h2; cases h2
    · rename_i h2
      simp only [List.cons.injEq, and_true] at h2
      obtain ⟨rfl, rfl⟩ := h2
      simp only [Option.some.injEq, Prod.mk.injEq] at h
      obtain ⟨rfl, rfl, rfl⟩ := h
      obtain ⟨rfl, rfl, h3, h4, _⟩ := hob
      exact same2_tri _ _ wa wb h3 h4
    · cases h)
  (fun args a b c l => by
    unfold same17F
    split
    · rename_i h2; cases h2
    · rename_i h2; simp at h2
    · rfl)
def gaW : Nat → Option Con := fun f => match f with
  | 33 => some takeC
  | _ => none
theorem gaW_ok : GaOkG Tryd.prog GL gaW := fun f con h => by
  unfold gaW at h
  split at h
  · injection h with h; subst h; exact takeC_ok
  · cases h
set_option maxRecDepth 100000 in
theorem awake17_tri : TriG Tryd.prog GL 28 [] [] (.c (.one (.bo true))) [] := by
  refine tri_of (envL_ok gaW_ok 54) Tryd.func28 rfl rfl (rs := [.tmp 0]) rfl rfl (by simp [envL]) rfl [] ?_
  have hq : takeL [97, 32, 123, 51, 125, 13, 10, 120, 121, 122, 32, 98, 13, 10, 114, 101, 115, 116] = ⟨[[97, 32], [32, 98]], [[120, 121, 122]], [114, 101, 115, 116], 1, 1⟩ := by kernel_rfl
  simp only [envLK, con0, conS, strsOf_arr, rowS_arr, strsOf_cells, rowS_cells, toS, strL_st, strL_d, strL_enc, strL_up, hpN_nil, hpN_cons, gaW, takeC, envL, takeF, rowAV, takeO, hq, go_sem, reduceCtorEq, ↓reduceIte, Nat.reduceAdd, Nat.reduceMul, Nat.reduceSub, Nat.reduceEqDiff, Nat.reduceLT, Nat.reduceBEq, Nat.reduceBNe, Nat.reduceLeDiff, Int.reduceLE, Int.reduceLT, Int.reduceToNat, Int.reduceEq, Int.reduceAdd, UInt8.reduceToNat, UInt32.reduceToNat, UInt64.reduceToNat, UInt8.reduceOfNat, UInt32.reduceOfNat, UInt64.reduceOfNat, Fin.isValue, Int.reduceSub, Int.reduceMul, Int.reduceNeg, Int.reduceMod, Int.reduceDiv, Int.reduceTDiv, Int.reduceTMod, Int.reduceBEq, Int.reduceBNe, Nat.reduceDiv, Nat.reducePow]
  all_goals trace_state
def awake17C : Con := con0 fun args => match args with
  | [] => some (.c (.one (.bo true)), [])
  | _ => none
theorem awake17C_ok : ConOkG Tryd.prog GL 28 awake17C := con0_okG Tryd.func28 rfl rfl fun args res ob h hob => by
  split at h
  · injection h with h; injection h with h1 h2; subst h1; subst h2; exact awake17_tri
  · cases h
end Go.Proofs.YtgfcdkbbkgamnaaDoor
