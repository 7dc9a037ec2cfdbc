/-
  Layer 19: the names of all fields.
-/
import Derived.Test.YtgfcdkbbkgamnaaDoorSz
import Derived.Test.YtgfcdkbbkgamnaaDoorQc
namespace Go.Proofs.YtgfcdkbbkgamnaaDoor
open Go Go.RowKit
set_option maxHeartbeats 4000000
set_option linter.unusedSimpArgs false
set_option linter.unusedVariables false
def namesL (s : List UInt8) : List (List UInt8) := (fieldsL s).map fun f => f.1
def namesO (s : List UInt8) : List SObj := if (namesL s).isEmpty then [] else [.arr _ strL (namesL s)]
def namInv (F : List Fld) : Nat → St
  | 0 => ⟨[(3, .c (.one (.val (.slice none 0 0)))), (7, .c (.one (.sl 400 0 2 F.length))), (8, .c (.one (.num F.length))), (9, .c (.one (.num (0 : Nat))))], [(400, ⟨.arr _ fldL F, true⟩)]⟩
  | i + 1 => ⟨[(3, .c (.one (.sl 500 0 1 (i + 1)))), (7, .c (.one (.sl 400 0 2 F.length))), (8, .c (.one (.num F.length))), (9, .c (.one (.num (i + 1 : Nat))))], [(400, ⟨.arr _ fldL F, true⟩), (500, ⟨.arr _ strL ((F.take (i + 1)).map fun f => f.1), true⟩)]⟩
theorem nam_step (F : List Fld) {i : Nat} (h : i < F.length) : (F.take i).map (fun f => f.1) ++ [(F.getD i ([], [])).1] = (F.take (i + 1)).map fun f => f.1 := by
  rw [List.take_add_one, List.map_append]
  congr 1
  simp [List.getD_eq_getElem?_getD, h]
def qn0 : Nat → Option Con := fun f => match f with
  | 69 => some fieldsC
  | _ => none
theorem qn0_ok : GaOkG Tryd.prog GM qn0 := fun f con h => by
  unfold qn0 at h
  split at h
  · injection h with h; subst h; exact fieldsC_ok
  · cases h
set_option maxRecDepth 100000 in
theorem names_tri (s : List UInt8) (hs : s.length ≤ 65536) : TriG Tryd.prog GM 45 [.one (.str s)] [] (.c (.one (rowAV 0 (namesL s)))) (hpN 0 (namesO s)) := by
  refine tri_ofx (envMK_ok qn0_ok 20 []) Tryd.func45 rfl rfl (rs := [.tmp 2]) rfl rfl (by simp [envMK]) rfl ?_
  cases hF : fieldsL s with
  | nil =>
    have hO := fieldsO_nil hF
    have hN : namesL s = [] := by unfold namesL; rw [hF]; rfl
    have hNO : namesO s = [] := by unfold namesO; rw [hN]; rfl
    have hr : rowAV 0 ([] : List (List UInt8)) = .val (.slice none 0 0) := rfl
    rw [hN, hNO, hr]
    simp only [envMK, con0, conS, strsOf_arr, rowS_arr, strsOf_cells, rowS_cells, toS, strL_st, strL_d, strL_enc, strL_up, hpN_nil, hpN_cons, qn0, fieldsC, fieldsF, hF, hO, fldAV_nil, go_sem, reduceCtorEq, ↓reduceIte, Nat.reduceAdd, Nat.reduceMul, Nat.reduceSub, Nat.reduceEqDiff, Nat.reduceLT, Nat.reduceBEq, Nat.reduceBNe, Nat.reduceLeDiff, Int.reduceLE, Int.reduceLT, Int.reduceToNat, Int.reduceEq, Int.reduceAdd, UInt8.reduceToNat, UInt32.reduceToNat, UInt64.reduceToNat, UInt8.reduceOfNat, UInt32.reduceOfNat, UInt64.reduceOfNat, Fin.isValue, Int.reduceSub, Int.reduceMul, Int.reduceNeg, Int.reduceMod, Int.reduceDiv, Int.reduceTDiv, Int.reduceTMod, Int.reduceBEq, Int.reduceBNe, Nat.reduceDiv, Nat.reducePow]
    refine ⟨hs, loop_inv (envMK_ok qn0_ok 20 []) (fun _ : Nat => (⟨[(3, .c (.one (.val (.slice none 0 0)))), (7, .c (.one (.val (.slice none 0 0)))), (8, .c (.one (.num (0 : Nat)))), (9, .c (.one (.num (0 : Nat))))], []⟩ : St)) (fun _ => True) (fun i => i) 0 [] trivial ?_ ?_⟩
    · simp only [go_sem, reduceCtorEq, ↓reduceIte, Nat.reduceAdd, Nat.reduceMul, Nat.reduceSub, Nat.reduceEqDiff, Nat.reduceLT, Nat.reduceBEq, Nat.reduceBNe, Nat.reduceLeDiff, Int.reduceLE, Int.reduceLT, Int.reduceToNat, Int.reduceEq, Int.reduceAdd, UInt8.reduceToNat, UInt32.reduceToNat, UInt64.reduceToNat, UInt8.reduceOfNat, UInt32.reduceOfNat, UInt64.reduceOfNat, Fin.isValue, Int.reduceSub, Int.reduceMul, Int.reduceNeg, Int.reduceMod, Int.reduceDiv, Int.reduceTDiv, Int.reduceTMod, Int.reduceBEq, Int.reduceBNe, Nat.reduceDiv, Nat.reducePow]
    · intro i _
      simp only [envMK, con0, conS, strsOf_arr, rowS_arr, strsOf_cells, rowS_cells, toS, strL_st, strL_d, strL_enc, strL_up, hpN_nil, hpN_cons, qn0, fieldsC, go_sem, reduceCtorEq, ↓reduceIte, Nat.reduceAdd, Nat.reduceMul, Nat.reduceSub, Nat.reduceEqDiff, Nat.reduceLT, Nat.reduceBEq, Nat.reduceBNe, Nat.reduceLeDiff, Int.reduceLE, Int.reduceLT, Int.reduceToNat, Int.reduceEq, Int.reduceAdd, UInt8.reduceToNat, UInt32.reduceToNat, UInt64.reduceToNat, UInt8.reduceOfNat, UInt32.reduceOfNat, UInt64.reduceOfNat, Fin.isValue, Int.reduceSub, Int.reduceMul, Int.reduceNeg, Int.reduceMod, Int.reduceDiv, Int.reduceTDiv, Int.reduceTMod, Int.reduceBEq, Int.reduceBNe, Nat.reduceDiv, Nat.reducePow]
      try (refine endX [] ?_; simp only [envMK, con0, conS, strsOf_arr, rowS_arr, strsOf_cells, rowS_cells, toS, strL_st, strL_d, strL_enc, strL_up, hpN_nil, hpN_cons, qn0, fieldsC, go_sem, reduceCtorEq, ↓reduceIte, Nat.reduceAdd, Nat.reduceMul, Nat.reduceSub, Nat.reduceEqDiff, Nat.reduceLT, Nat.reduceBEq, Nat.reduceBNe, Nat.reduceLeDiff, Int.reduceLE, Int.reduceLT, Int.reduceToNat, Int.reduceEq, Int.reduceAdd, UInt8.reduceToNat, UInt32.reduceToNat, UInt64.reduceToNat, UInt8.reduceOfNat, UInt32.reduceOfNat, UInt64.reduceOfNat, Fin.isValue, Int.reduceSub, Int.reduceMul, Int.reduceNeg, Int.reduceMod, Int.reduceDiv, Int.reduceTDiv, Int.reduceTMod, Int.reduceBEq, Int.reduceBNe, Nat.reduceDiv, Nat.reducePow])
  | cons f0 l0 =>
    have hO := fieldsO_cons hF
    have hfc := fields_count s
    have hN : namesL s = (f0 :: l0).map fun f => f.1 := by unfold namesL; rw [hF]
    have hNO : namesO s = [.arr _ strL ((f0 :: l0).map fun f => f.1)] := by unfold namesO; rw [hN]; rfl
    have hr : rowAV 0 ((f0 :: l0).map fun f => f.1) = .sl 0 0 1 (f0 :: l0).length := by unfold rowAV; rw [List.length_map]; rfl
    rw [hF] at hfc
    rw [hNO, hN, hr]
    simp only [envMK, con0, conS, strsOf_arr, rowS_arr, strsOf_cells, rowS_cells, toS, strL_st, strL_d, strL_enc, strL_up, hpN_nil, hpN_cons, qn0, fieldsC, fieldsF, hF, hO, fldAV_cons, go_sem, reduceCtorEq, ↓reduceIte, Nat.reduceAdd, Nat.reduceMul, Nat.reduceSub, Nat.reduceEqDiff, Nat.reduceLT, Nat.reduceBEq, Nat.reduceBNe, Nat.reduceLeDiff, Int.reduceLE, Int.reduceLT, Int.reduceToNat, Int.reduceEq, Int.reduceAdd, UInt8.reduceToNat, UInt32.reduceToNat, UInt64.reduceToNat, UInt8.reduceOfNat, UInt32.reduceOfNat, UInt64.reduceOfNat, Fin.isValue, Int.reduceSub, Int.reduceMul, Int.reduceNeg, Int.reduceMod, Int.reduceDiv, Int.reduceTDiv, Int.reduceTMod, Int.reduceBEq, Int.reduceBNe, Nat.reduceDiv, Nat.reducePow]
    have hFl : l0.length + 1 = (f0 :: l0).length := rfl
    have hF0 : 0 < (f0 :: l0).length := Nat.zero_lt_succ _
    try rw [hFl]
    generalize f0 :: l0 = F at hfc hF0 ⊢
    refine ⟨hs, loop_inv (envMK_ok qn0_ok 20 []) (namInv F) (fun i => i ≤ F.length) (fun i => F.length - i) 0 [(400, 30008)] (Nat.zero_le _) ?_ ?_⟩
    · simp only [namInv, go_sem, reduceCtorEq, ↓reduceIte, Nat.reduceAdd, Nat.reduceMul, Nat.reduceSub, Nat.reduceEqDiff, Nat.reduceLT, Nat.reduceBEq, Nat.reduceBNe, Nat.reduceLeDiff, Int.reduceLE, Int.reduceLT, Int.reduceToNat, Int.reduceEq, Int.reduceAdd, UInt8.reduceToNat, UInt32.reduceToNat, UInt64.reduceToNat, UInt8.reduceOfNat, UInt32.reduceOfNat, UInt64.reduceOfNat, Fin.isValue, Int.reduceSub, Int.reduceMul, Int.reduceNeg, Int.reduceMod, Int.reduceDiv, Int.reduceTDiv, Int.reduceTMod, Int.reduceBEq, Int.reduceBNe, Nat.reduceDiv, Nat.reducePow]
    · intro i hi
      have hw : IntKind.i64.wrap ((i : Int) + 1) = ((i + 1 : Nat) : Int) := by rw [IntKind.wrap_i64]; omega
      have hlen : ((F.take i).map fun f => f.1).length = i := by rw [List.length_map, List.length_take]; omega
      rcases i with _ | i
      · have h : decide ((0 : Int) < (F.length : Int)) = true := decide_eq_true (by omega)
        have hst := nam_step F hF0
        simp only [envMK, con0, conS, strsOf_arr, rowS_arr, strsOf_cells, rowS_cells, toS, strL_st, strL_d, strL_enc, strL_up, hpN_nil, hpN_cons, qn0, fieldsC, namInv, h, hw, hlen, strL_st, strL_d, strL_enc, fldL_st, fldL_d, fldL_enc, go_sem, reduceCtorEq, ↓reduceIte, Nat.reduceAdd, Nat.reduceMul, Nat.reduceSub, Nat.reduceEqDiff, Nat.reduceLT, Nat.reduceBEq, Nat.reduceBNe, Nat.reduceLeDiff, Int.reduceLE, Int.reduceLT, Int.reduceToNat, Int.reduceEq, Int.reduceAdd, UInt8.reduceToNat, UInt32.reduceToNat, UInt64.reduceToNat, UInt8.reduceOfNat, UInt32.reduceOfNat, UInt64.reduceOfNat, Fin.isValue, Int.reduceSub, Int.reduceMul, Int.reduceNeg, Int.reduceMod, Int.reduceDiv, Int.reduceTDiv, Int.reduceTMod, Int.reduceBEq, Int.reduceBNe, Nat.reduceDiv, Nat.reducePow]
        repeat' apply And.intro
        rotate_right
        · refine again (0 + 1) [(500, 60032)] hF0 (by omega) ?_
          simp only [namInv, ← hst, List.take_zero, strL_st, strL_d, strL_enc, strL_up, envMK, con0, conS, strsOf_arr, rowS_arr, strsOf_cells, rowS_cells, toS, strL_st, strL_d, strL_enc, strL_up, hpN_nil, hpN_cons, qn0, fieldsC, go_sem, reduceCtorEq, ↓reduceIte, Nat.reduceAdd, Nat.reduceMul, Nat.reduceSub, Nat.reduceEqDiff, Nat.reduceLT, Nat.reduceBEq, Nat.reduceBNe, Nat.reduceLeDiff, Int.reduceLE, Int.reduceLT, Int.reduceToNat, Int.reduceEq, Int.reduceAdd, UInt8.reduceToNat, UInt32.reduceToNat, UInt64.reduceToNat, UInt8.reduceOfNat, UInt32.reduceOfNat, UInt64.reduceOfNat, Fin.isValue, Int.reduceSub, Int.reduceMul, Int.reduceNeg, Int.reduceMod, Int.reduceDiv, Int.reduceTDiv, Int.reduceTMod, Int.reduceBEq, Int.reduceBNe, Nat.reduceDiv, Nat.reducePow]
        all_goals first | omega | exact rfl | exact id
      · simp only [envMK, con0, conS, strsOf_arr, rowS_arr, strsOf_cells, rowS_cells, toS, strL_st, strL_d, strL_enc, strL_up, hpN_nil, hpN_cons, qn0, fieldsC, namInv, hw, go_sem, reduceCtorEq, ↓reduceIte, Nat.reduceAdd, Nat.reduceMul, Nat.reduceSub, Nat.reduceEqDiff, Nat.reduceLT, Nat.reduceBEq, Nat.reduceBNe, Nat.reduceLeDiff, Int.reduceLE, Int.reduceLT, Int.reduceToNat, Int.reduceEq, Int.reduceAdd, UInt8.reduceToNat, UInt32.reduceToNat, UInt64.reduceToNat, UInt8.reduceOfNat, UInt32.reduceOfNat, UInt64.reduceOfNat, Fin.isValue, Int.reduceSub, Int.reduceMul, Int.reduceNeg, Int.reduceMod, Int.reduceDiv, Int.reduceTDiv, Int.reduceTMod, Int.reduceBEq, Int.reduceBNe, Nat.reduceDiv, Nat.reducePow]
        refine br (fun h => ?_) fun h => ?_
        · have hlt : i + 1 < F.length := by have := of_decide_eq_true h; omega
          have hst := nam_step F hlt
          simp only [envMK, con0, conS, strsOf_arr, rowS_arr, strsOf_cells, rowS_cells, toS, strL_st, strL_d, strL_enc, strL_up, hpN_nil, hpN_cons, qn0, fieldsC, h, hw, hlen, strL_st, strL_d, strL_enc, fldL_st, fldL_d, fldL_enc, go_sem, reduceCtorEq, ↓reduceIte, Nat.reduceAdd, Nat.reduceMul, Nat.reduceSub, Nat.reduceEqDiff, Nat.reduceLT, Nat.reduceBEq, Nat.reduceBNe, Nat.reduceLeDiff, Int.reduceLE, Int.reduceLT, Int.reduceToNat, Int.reduceEq, Int.reduceAdd, UInt8.reduceToNat, UInt32.reduceToNat, UInt64.reduceToNat, UInt8.reduceOfNat, UInt32.reduceOfNat, UInt64.reduceOfNat, Fin.isValue, Int.reduceSub, Int.reduceMul, Int.reduceNeg, Int.reduceMod, Int.reduceDiv, Int.reduceTDiv, Int.reduceTMod, Int.reduceBEq, Int.reduceBNe, Nat.reduceDiv, Nat.reducePow]
          repeat' apply And.intro
          rotate_right
          · refine again (i + 1 + 1) [(500, 60032)] hlt (by omega) ?_
            simp only [namInv, ← hst, strL_st, strL_d, strL_enc, strL_up, envMK, con0, conS, strsOf_arr, rowS_arr, strsOf_cells, rowS_cells, toS, strL_st, strL_d, strL_enc, strL_up, hpN_nil, hpN_cons, qn0, fieldsC, go_sem, reduceCtorEq, ↓reduceIte, Nat.reduceAdd, Nat.reduceMul, Nat.reduceSub, Nat.reduceEqDiff, Nat.reduceLT, Nat.reduceBEq, Nat.reduceBNe, Nat.reduceLeDiff, Int.reduceLE, Int.reduceLT, Int.reduceToNat, Int.reduceEq, Int.reduceAdd, UInt8.reduceToNat, UInt32.reduceToNat, UInt64.reduceToNat, UInt8.reduceOfNat, UInt32.reduceOfNat, UInt64.reduceOfNat, Fin.isValue, Int.reduceSub, Int.reduceMul, Int.reduceNeg, Int.reduceMod, Int.reduceDiv, Int.reduceTDiv, Int.reduceTMod, Int.reduceBEq, Int.reduceBNe, Nat.reduceDiv, Nat.reducePow]
          all_goals first | omega | exact rfl | exact id
        · have hge : i + 1 = F.length := by have := of_decide_eq_false h; omega
          have ht : F.take (i + 1) = F := List.take_of_length_le (by omega)
          rw [← hge]
          simp only [envMK, con0, conS, strsOf_arr, rowS_arr, strsOf_cells, rowS_cells, toS, strL_st, strL_d, strL_enc, strL_up, hpN_nil, hpN_cons, qn0, fieldsC, h, hlen, go_sem, reduceCtorEq, ↓reduceIte, Nat.reduceAdd, Nat.reduceMul, Nat.reduceSub, Nat.reduceEqDiff, Nat.reduceLT, Nat.reduceBEq, Nat.reduceBNe, Nat.reduceLeDiff, Int.reduceLE, Int.reduceLT, Int.reduceToNat, Int.reduceEq, Int.reduceAdd, UInt8.reduceToNat, UInt32.reduceToNat, UInt64.reduceToNat, UInt8.reduceOfNat, UInt32.reduceOfNat, UInt64.reduceOfNat, Fin.isValue, Int.reduceSub, Int.reduceMul, Int.reduceNeg, Int.reduceMod, Int.reduceDiv, Int.reduceTDiv, Int.reduceTMod, Int.reduceBEq, Int.reduceBNe, Nat.reduceDiv, Nat.reducePow]
          refine endX [(0, 500)] ?_
          simp only [envMK, con0, conS, strsOf_arr, rowS_arr, strsOf_cells, rowS_cells, toS, strL_st, strL_d, strL_enc, strL_up, hpN_nil, hpN_cons, qn0, fieldsC, ht, go_sem, reduceCtorEq, ↓reduceIte, Nat.reduceAdd, Nat.reduceMul, Nat.reduceSub, Nat.reduceEqDiff, Nat.reduceLT, Nat.reduceBEq, Nat.reduceBNe, Nat.reduceLeDiff, Int.reduceLE, Int.reduceLT, Int.reduceToNat, Int.reduceEq, Int.reduceAdd, UInt8.reduceToNat, UInt32.reduceToNat, UInt64.reduceToNat, UInt8.reduceOfNat, UInt32.reduceOfNat, UInt64.reduceOfNat, Fin.isValue, Int.reduceSub, Int.reduceMul, Int.reduceNeg, Int.reduceMod, Int.reduceDiv, Int.reduceTDiv, Int.reduceTMod, Int.reduceBEq, Int.reduceBNe, Nat.reduceDiv, Nat.reducePow]
def namesF : List CV → List (List (List UInt8)) → Option (SV × List SObj × List Prop)
  | [.one (.str s)], [] => some (.c (.one (rowAV 0 (namesL s))), namesO s, [s.length ≤ 65536])
  | _, _ => none
def namesC : Con := conS namesF
theorem namesC_ok : ConOkG Tryd.prog GM 45 namesC := conS_ok Tryd.func45 rfl rfl
  (fun args v news ob h hob => by
    unfold namesF at h
    split at h
    · simp only [Option.some.injEq, Prod.mk.injEq] at h
      obtain ⟨rfl, rfl, rfl⟩ := h
      exact names_tri _ hob.1
    · cases h)
  (fun args a v news ob h hob => by simp [namesF] at h) (fun args a b v news ob h hob => by simp [namesF] at h) (fun args a b c l => by simp [namesF])
end Go.Proofs.YtgfcdkbbkgamnaaDoor
