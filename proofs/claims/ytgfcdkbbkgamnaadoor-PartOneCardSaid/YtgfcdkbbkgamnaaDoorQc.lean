/-
  Layer 19: a field's value, the fields' names, a fixed answer.
-/
import Derived.Test.YtgfcdkbbkgamnaaDoorSz
import Derived.Test.YtgfcdkbbkgamnaaDoorQb
namespace Go.Proofs.YtgfcdkbbkgamnaaDoor
open Go Go.RowKit
set_option maxHeartbeats 4000000
set_option linter.unusedSimpArgs false
set_option linter.unusedVariables false
def fieldsF : List CV → List (List (List UInt8)) → Option (SV × List SObj × List Prop)
  | [.one (.str s)], [] => some (.c (.one (fldAV (fieldsL s))), fieldsO s, [s.length ≤ 65536])
  | _, _ => none
def fieldsC : Con := conS fieldsF
theorem fieldsC_ok : ConOkG Tryd.prog GM 69 fieldsC := conS_ok Tryd.func69 rfl rfl
  (fun args v news ob h hob => by
    unfold fieldsF at h
    split at h
    · simp only [Option.some.injEq, Prod.mk.injEq] at h
      obtain ⟨rfl, rfl, rfl⟩ := h
      exact fields_tri _ hob.1
    · cases h)
  (fun args a v news ob h hob => by simp [fieldsF] at h) (fun args a b v news ob h hob => by simp [fieldsF] at h) (fun args a b c l => by simp [fieldsF])
def fndF (w : List UInt8) : List Fld → List UInt8 × Bool
  | [] => ([], false)
  | f :: l => if upL f.1 = w then (f.2, true) else fndF w l
theorem fldF_len : ∀ (R : List (List UInt8)) (n : Nat), (∀ l ∈ R, l.length ≤ n) → ∀ f ∈ fldF R, f.1.length ≤ n
  | [], n, h, f, hf => by cases hf
  | l :: R, n, h, f, hf => by
    have ih := fldF_len R n fun x hx => h x (List.mem_cons_of_mem _ hx)
    unfold fldF at hf
    split at hf
    · rcases List.mem_cons.1 hf with rfl | hf
      · exact Nat.le_trans (cut_len l [58]).1 (h l (List.mem_cons_self ..))
      · exact ih f hf
    · exact ih f hf
theorem fields_len (s : List UInt8) (f : Fld) (h : f ∈ fieldsL s) : f.1.length ≤ s.length := fldF_len _ _ (fun l hl => rowsL_mem s l hl) f h
theorem fldF_count : ∀ (R : List (List UInt8)), (fldF R).length ≤ R.length
  | [] => Nat.le_refl _
  | l :: R => by
    have ih := fldF_count R
    unfold fldF
    split
    · simp only [List.length_cons]; omega
    · simp only [List.length_cons]; omega
theorem fields_count (s : List UInt8) : (fieldsL s).length ≤ s.length + 1 := by
  have h1 := fldF_count (rowsL s)
  rw [rowsL_len] at h1
  have := crs_le s
  exact Nat.le_trans h1 (by omega)
theorem fieldsO_nil {s : List UInt8} (h : fieldsL s = []) : fieldsO s = [] := by unfold fieldsO; rw [h]; rfl
theorem fieldsO_cons {s : List UInt8} {f : Fld} {l : List Fld} (h : fieldsL s = f :: l) : fieldsO s = [.arr _ fldL (f :: l)] := by unfold fieldsO; rw [h]; rfl
theorem fldAV_nil : fldAV [] = .val (.slice none 0 0) := rfl
theorem fldAV_cons (f : Fld) (l : List Fld) : fldAV (f :: l) = .sl 0 0 2 (l.length + 1) := rfl
def fndInv (W : List UInt8) (F : List Fld) (i : Nat) : St := ⟨[(6, .c (.one (.str W))), (12, .c (.one (.sl 400 0 2 F.length))), (13, .c (.one (.num F.length))), (14, .c (.one (.num i)))], [(400, ⟨.arr _ fldL F, true⟩)]⟩
def qc0 : Nat → Option Con := fun f => match f with
  | 68 => some upperC
  | 69 => some fieldsC
  | _ => none
theorem qc0_ok : GaOkG Tryd.prog GM qc0 := fun f con h => by
  unfold qc0 at h
  split at h
  · injection h with h; subst h; exact upperC_ok
  · injection h with h; subst h; exact fieldsC_ok
  · cases h
set_option maxRecDepth 100000 in
theorem field_tri (s w : List UInt8) (hs : s.length ≤ 65536) (hwl : w.length ≤ 65536) : TriG Tryd.prog GM 43 [.one (.str s), .one (.str w)] [] (.tup [.one (.str (fndF (upL w) (fieldsL s)).1), .one (.bo (fndF (upL w) (fieldsL s)).2)]) [] := by
  refine tri_ofx (envMK_ok qc0_ok 26 []) Tryd.func43 rfl rfl (rs := [.tmp 4, .tmp 5]) rfl rfl (by simp [envMK]) rfl ?_
  cases hF : fieldsL s with
  | nil =>
    have hO := fieldsO_nil hF
    simp only [envMK, con0, conS, strsOf_arr, rowS_arr, strsOf_cells, rowS_cells, toS, strL_st, strL_d, strL_enc, strL_up, hpN_nil, hpN_cons, qc0, upperC, fieldsC, fieldsF, hF, hO, fldAV_nil, fndF, go_sem, reduceCtorEq, ↓reduceIte, Nat.reduceAdd, Nat.reduceMul, Nat.reduceSub, Nat.reduceEqDiff, Nat.reduceLT, Nat.reduceBEq, Nat.reduceBNe, Nat.reduceLeDiff, Int.reduceLE, Int.reduceLT, Int.reduceToNat, Int.reduceEq, Int.reduceAdd, UInt8.reduceToNat, UInt32.reduceToNat, UInt64.reduceToNat, UInt8.reduceOfNat, UInt32.reduceOfNat, UInt64.reduceOfNat, Fin.isValue, Int.reduceSub, Int.reduceMul, Int.reduceNeg, Int.reduceMod, Int.reduceDiv, Int.reduceTDiv, Int.reduceTMod, Int.reduceBEq, Int.reduceBNe, Nat.reduceDiv, Nat.reducePow]
    refine ⟨by omega, hs, loop_inv (envMK_ok qc0_ok 26 []) (fun _ : Nat => (⟨[(12, .c (.one (.val (.slice none 0 0)))), (13, .c (.one (.num (0 : Nat)))), (14, .c (.one (.num (0 : Nat))))], []⟩ : St)) (fun _ => True) (fun i => i) 0 [] trivial ?_ ?_⟩
    · simp only [go_sem, reduceCtorEq, ↓reduceIte, Nat.reduceAdd, Nat.reduceMul, Nat.reduceSub, Nat.reduceEqDiff, Nat.reduceLT, Nat.reduceBEq, Nat.reduceBNe, Nat.reduceLeDiff, Int.reduceLE, Int.reduceLT, Int.reduceToNat, Int.reduceEq, Int.reduceAdd, UInt8.reduceToNat, UInt32.reduceToNat, UInt64.reduceToNat, UInt8.reduceOfNat, UInt32.reduceOfNat, UInt64.reduceOfNat, Fin.isValue, Int.reduceSub, Int.reduceMul, Int.reduceNeg, Int.reduceMod, Int.reduceDiv, Int.reduceTDiv, Int.reduceTMod, Int.reduceBEq, Int.reduceBNe, Nat.reduceDiv, Nat.reducePow]
    · intro i _
      simp only [envMK, con0, conS, strsOf_arr, rowS_arr, strsOf_cells, rowS_cells, toS, strL_st, strL_d, strL_enc, strL_up, hpN_nil, hpN_cons, qc0, upperC, fieldsC, go_sem, reduceCtorEq, ↓reduceIte, Nat.reduceAdd, Nat.reduceMul, Nat.reduceSub, Nat.reduceEqDiff, Nat.reduceLT, Nat.reduceBEq, Nat.reduceBNe, Nat.reduceLeDiff, Int.reduceLE, Int.reduceLT, Int.reduceToNat, Int.reduceEq, Int.reduceAdd, UInt8.reduceToNat, UInt32.reduceToNat, UInt64.reduceToNat, UInt8.reduceOfNat, UInt32.reduceOfNat, UInt64.reduceOfNat, Fin.isValue, Int.reduceSub, Int.reduceMul, Int.reduceNeg, Int.reduceMod, Int.reduceDiv, Int.reduceTDiv, Int.reduceTMod, Int.reduceBEq, Int.reduceBNe, Nat.reduceDiv, Nat.reducePow]
      try (refine endX [] ?_; simp only [envMK, con0, conS, strsOf_arr, rowS_arr, strsOf_cells, rowS_cells, toS, strL_st, strL_d, strL_enc, strL_up, hpN_nil, hpN_cons, qc0, upperC, fieldsC, go_sem, reduceCtorEq, ↓reduceIte, Nat.reduceAdd, Nat.reduceMul, Nat.reduceSub, Nat.reduceEqDiff, Nat.reduceLT, Nat.reduceBEq, Nat.reduceBNe, Nat.reduceLeDiff, Int.reduceLE, Int.reduceLT, Int.reduceToNat, Int.reduceEq, Int.reduceAdd, UInt8.reduceToNat, UInt32.reduceToNat, UInt64.reduceToNat, UInt8.reduceOfNat, UInt32.reduceOfNat, UInt64.reduceOfNat, Fin.isValue, Int.reduceSub, Int.reduceMul, Int.reduceNeg, Int.reduceMod, Int.reduceDiv, Int.reduceTDiv, Int.reduceTMod, Int.reduceBEq, Int.reduceBNe, Nat.reduceDiv, Nat.reducePow])
  | cons f0 l0 =>
    have hO := fieldsO_cons hF
    have hfl := fields_len s
    have hfc := fields_count s
    rw [hF] at hfl hfc
    simp only [envMK, con0, conS, strsOf_arr, rowS_arr, strsOf_cells, rowS_cells, toS, strL_st, strL_d, strL_enc, strL_up, hpN_nil, hpN_cons, qc0, upperC, fieldsC, fieldsF, hF, hO, fldAV_cons, go_sem, reduceCtorEq, ↓reduceIte, Nat.reduceAdd, Nat.reduceMul, Nat.reduceSub, Nat.reduceEqDiff, Nat.reduceLT, Nat.reduceBEq, Nat.reduceBNe, Nat.reduceLeDiff, Int.reduceLE, Int.reduceLT, Int.reduceToNat, Int.reduceEq, Int.reduceAdd, UInt8.reduceToNat, UInt32.reduceToNat, UInt64.reduceToNat, UInt8.reduceOfNat, UInt32.reduceOfNat, UInt64.reduceOfNat, Fin.isValue, Int.reduceSub, Int.reduceMul, Int.reduceNeg, Int.reduceMod, Int.reduceDiv, Int.reduceTDiv, Int.reduceTMod, Int.reduceBEq, Int.reduceBNe, Nat.reduceDiv, Nat.reducePow]
    have hFl : l0.length + 1 = (f0 :: l0).length := rfl
    rw [hFl]
    generalize f0 :: l0 = F at hfl hfc
    generalize hW : upL w = W
    refine ⟨by omega, hs, loop_inv (envMK_ok qc0_ok 26 []) (fndInv W F) (fun i => i ≤ F.length ∧ fndF W (F.drop i) = fndF W F) (fun i => F.length - i) 0 [(400, 30008)] ⟨Nat.zero_le _, rfl⟩ ?_ ?_⟩
    · simp only [fndInv, go_sem, reduceCtorEq, ↓reduceIte, Nat.reduceAdd, Nat.reduceMul, Nat.reduceSub, Nat.reduceEqDiff, Nat.reduceLT, Nat.reduceBEq, Nat.reduceBNe, Nat.reduceLeDiff, Int.reduceLE, Int.reduceLT, Int.reduceToNat, Int.reduceEq, Int.reduceAdd, UInt8.reduceToNat, UInt32.reduceToNat, UInt64.reduceToNat, UInt8.reduceOfNat, UInt32.reduceOfNat, UInt64.reduceOfNat, Fin.isValue, Int.reduceSub, Int.reduceMul, Int.reduceNeg, Int.reduceMod, Int.reduceDiv, Int.reduceTDiv, Int.reduceTMod, Int.reduceBEq, Int.reduceBNe, Nat.reduceDiv, Nat.reducePow]
    · intro i hi
      have hi1 := hi.1
      have hi2 := hi.2
      have hw : IntKind.i64.wrap ((i : Int) + 1) = ((i + 1 : Nat) : Int) := by rw [IntKind.wrap_i64]; have := hs; omega
      simp only [envMK, con0, conS, strsOf_arr, rowS_arr, strsOf_cells, rowS_cells, toS, strL_st, strL_d, strL_enc, strL_up, hpN_nil, hpN_cons, qc0, upperC, fieldsC, fndInv, hw, go_sem, reduceCtorEq, ↓reduceIte, Nat.reduceAdd, Nat.reduceMul, Nat.reduceSub, Nat.reduceEqDiff, Nat.reduceLT, Nat.reduceBEq, Nat.reduceBNe, Nat.reduceLeDiff, Int.reduceLE, Int.reduceLT, Int.reduceToNat, Int.reduceEq, Int.reduceAdd, UInt8.reduceToNat, UInt32.reduceToNat, UInt64.reduceToNat, UInt8.reduceOfNat, UInt32.reduceOfNat, UInt64.reduceOfNat, Fin.isValue, Int.reduceSub, Int.reduceMul, Int.reduceNeg, Int.reduceMod, Int.reduceDiv, Int.reduceTDiv, Int.reduceTMod, Int.reduceBEq, Int.reduceBNe, Nat.reduceDiv, Nat.reducePow]
      refine br (fun h => ?_) fun h => ?_
      · have hlt : i < F.length := by have := of_decide_eq_true h; omega
        have hfm : (F.getD i ([], [])).1.length ≤ 65536 := Nat.le_trans (hfl _ (by rw [List.getD_eq_getElem?_getD, List.getElem?_eq_getElem hlt]; exact List.getElem_mem hlt)) hs
        rw [drop_at F ([], []) hlt, fndF] at hi2
        cases h1 : (upL (F.getD i ([], [])).1 == W) with
        | true =>
          rw [if_pos (eq_of_beq h1)] at hi2
          simp only [envMK, con0, conS, strsOf_arr, rowS_arr, strsOf_cells, rowS_cells, toS, strL_st, strL_d, strL_enc, strL_up, hpN_nil, hpN_cons, qc0, upperC, fieldsC, h, h1, hw, ← hi2, fldL_st, fldL_d, fldL_enc, go_sem, reduceCtorEq, ↓reduceIte, Nat.reduceAdd, Nat.reduceMul, Nat.reduceSub, Nat.reduceEqDiff, Nat.reduceLT, Nat.reduceBEq, Nat.reduceBNe, Nat.reduceLeDiff, Int.reduceLE, Int.reduceLT, Int.reduceToNat, Int.reduceEq, Int.reduceAdd, UInt8.reduceToNat, UInt32.reduceToNat, UInt64.reduceToNat, UInt8.reduceOfNat, UInt32.reduceOfNat, UInt64.reduceOfNat, Fin.isValue, Int.reduceSub, Int.reduceMul, Int.reduceNeg, Int.reduceMod, Int.reduceDiv, Int.reduceTDiv, Int.reduceTMod, Int.reduceBEq, Int.reduceBNe, Nat.reduceDiv, Nat.reducePow]
          repeat' apply And.intro
          rotate_right
          · refine endX [] ?_
            simp only [envMK, con0, conS, strsOf_arr, rowS_arr, strsOf_cells, rowS_cells, toS, strL_st, strL_d, strL_enc, strL_up, hpN_nil, hpN_cons, qc0, upperC, fieldsC, go_sem, reduceCtorEq, ↓reduceIte, Nat.reduceAdd, Nat.reduceMul, Nat.reduceSub, Nat.reduceEqDiff, Nat.reduceLT, Nat.reduceBEq, Nat.reduceBNe, Nat.reduceLeDiff, Int.reduceLE, Int.reduceLT, Int.reduceToNat, Int.reduceEq, Int.reduceAdd, UInt8.reduceToNat, UInt32.reduceToNat, UInt64.reduceToNat, UInt8.reduceOfNat, UInt32.reduceOfNat, UInt64.reduceOfNat, Fin.isValue, Int.reduceSub, Int.reduceMul, Int.reduceNeg, Int.reduceMod, Int.reduceDiv, Int.reduceTDiv, Int.reduceTMod, Int.reduceBEq, Int.reduceBNe, Nat.reduceDiv, Nat.reducePow]
          all_goals first | omega | exact rfl | exact id
        | false =>
          rw [if_neg (fun e => by rw [e] at h1; simp at h1)] at hi2
          simp only [envMK, con0, conS, strsOf_arr, rowS_arr, strsOf_cells, rowS_cells, toS, strL_st, strL_d, strL_enc, strL_up, hpN_nil, hpN_cons, qc0, upperC, fieldsC, h, h1, hw, fldL_st, fldL_d, fldL_enc, go_sem, reduceCtorEq, ↓reduceIte, Nat.reduceAdd, Nat.reduceMul, Nat.reduceSub, Nat.reduceEqDiff, Nat.reduceLT, Nat.reduceBEq, Nat.reduceBNe, Nat.reduceLeDiff, Int.reduceLE, Int.reduceLT, Int.reduceToNat, Int.reduceEq, Int.reduceAdd, UInt8.reduceToNat, UInt32.reduceToNat, UInt64.reduceToNat, UInt8.reduceOfNat, UInt32.reduceOfNat, UInt64.reduceOfNat, Fin.isValue, Int.reduceSub, Int.reduceMul, Int.reduceNeg, Int.reduceMod, Int.reduceDiv, Int.reduceTDiv, Int.reduceTMod, Int.reduceBEq, Int.reduceBNe, Nat.reduceDiv, Nat.reducePow]
          repeat' apply And.intro
          rotate_right
          · refine again (i + 1) [] ⟨hlt, hi2⟩ (by omega) ?_
            simp only [fndInv, envMK, con0, conS, strsOf_arr, rowS_arr, strsOf_cells, rowS_cells, toS, strL_st, strL_d, strL_enc, strL_up, hpN_nil, hpN_cons, qc0, upperC, fieldsC, go_sem, reduceCtorEq, ↓reduceIte, Nat.reduceAdd, Nat.reduceMul, Nat.reduceSub, Nat.reduceEqDiff, Nat.reduceLT, Nat.reduceBEq, Nat.reduceBNe, Nat.reduceLeDiff, Int.reduceLE, Int.reduceLT, Int.reduceToNat, Int.reduceEq, Int.reduceAdd, UInt8.reduceToNat, UInt32.reduceToNat, UInt64.reduceToNat, UInt8.reduceOfNat, UInt32.reduceOfNat, UInt64.reduceOfNat, Fin.isValue, Int.reduceSub, Int.reduceMul, Int.reduceNeg, Int.reduceMod, Int.reduceDiv, Int.reduceTDiv, Int.reduceTMod, Int.reduceBEq, Int.reduceBNe, Nat.reduceDiv, Nat.reducePow]
          all_goals first | omega | exact rfl | exact id
      · have hge : F.length ≤ i := by have := of_decide_eq_false h; omega
        rw [List.drop_eq_nil_of_le hge, fndF] at hi2
        simp only [envMK, con0, conS, strsOf_arr, rowS_arr, strsOf_cells, rowS_cells, toS, strL_st, strL_d, strL_enc, strL_up, hpN_nil, hpN_cons, qc0, upperC, fieldsC, h, ← hi2, go_sem, reduceCtorEq, ↓reduceIte, Nat.reduceAdd, Nat.reduceMul, Nat.reduceSub, Nat.reduceEqDiff, Nat.reduceLT, Nat.reduceBEq, Nat.reduceBNe, Nat.reduceLeDiff, Int.reduceLE, Int.reduceLT, Int.reduceToNat, Int.reduceEq, Int.reduceAdd, UInt8.reduceToNat, UInt32.reduceToNat, UInt64.reduceToNat, UInt8.reduceOfNat, UInt32.reduceOfNat, UInt64.reduceOfNat, Fin.isValue, Int.reduceSub, Int.reduceMul, Int.reduceNeg, Int.reduceMod, Int.reduceDiv, Int.reduceTDiv, Int.reduceTMod, Int.reduceBEq, Int.reduceBNe, Nat.reduceDiv, Nat.reducePow]
        refine endX [] ?_
        simp only [envMK, con0, conS, strsOf_arr, rowS_arr, strsOf_cells, rowS_cells, toS, strL_st, strL_d, strL_enc, strL_up, hpN_nil, hpN_cons, qc0, upperC, fieldsC, go_sem, reduceCtorEq, ↓reduceIte, Nat.reduceAdd, Nat.reduceMul, Nat.reduceSub, Nat.reduceEqDiff, Nat.reduceLT, Nat.reduceBEq, Nat.reduceBNe, Nat.reduceLeDiff, Int.reduceLE, Int.reduceLT, Int.reduceToNat, Int.reduceEq, Int.reduceAdd, UInt8.reduceToNat, UInt32.reduceToNat, UInt64.reduceToNat, UInt8.reduceOfNat, UInt32.reduceOfNat, UInt64.reduceOfNat, Fin.isValue, Int.reduceSub, Int.reduceMul, Int.reduceNeg, Int.reduceMod, Int.reduceDiv, Int.reduceTDiv, Int.reduceTMod, Int.reduceBEq, Int.reduceBNe, Nat.reduceDiv, Nat.reducePow]
def fieldC : Con := con0 fun args => match args with
  | [.one (.str s), .one (.str w)] => some (.tup [.one (.str (fndF (upL w) (fieldsL s)).1), .one (.bo (fndF (upL w) (fieldsL s)).2)], [s.length ≤ 65536, w.length ≤ 65536])
  | _ => none
theorem fieldC_ok : ConOkG Tryd.prog GM 43 fieldC := con0_okG Tryd.func43 rfl rfl fun args res ob h hob => by
  split at h
  · injection h with h; injection h with h1 h2; subst h1; subst h2; exact field_tri _ _ hob.1 hob.2.1
  · cases h
def qc1 : Nat → Option Con := fun f => match f with
  | 37 => some splitC
  | 43 => some fieldC
  | 39 => some linesC
  | 41 => some hasC
  | _ => none
theorem qc1_ok : GaOkG Tryd.prog GM qc1 := fun f con h => by
  unfold qc1 at h
  split at h
  · injection h with h; subst h; exact splitC_ok
  · injection h with h; subst h; exact fieldC_ok
  · injection h with h; subst h; exact linesC_ok
  · injection h with h; subst h; exact hasC_ok
  · cases h
def msgL : List UInt8 := [65, 58, 32, 120, 13, 10, 13, 10, 116, 101, 120, 116]
set_option maxRecDepth 100000 in
theorem awake19_tri : TriG Tryd.prog GM 36 [] [] (.c (.one (.bo true))) [] := by
  refine tri_of (envM_ok qc1_ok 31) Tryd.func36 rfl rfl (rs := [.tmp 0]) rfl rfl (by simp [envM]) rfl [] ?_
  have h1 : List.take (headN [65, 58, 32, 120, 13, 10, 13, 10, 116, 101, 120, 116]) [65, 58, 32, 120, 13, 10, 13, 10, 116, 101, 120, 116] = ([65, 58, 32, 120, 13, 10, 13, 10] : List UInt8) := by decide +kernel
  have h2 : List.drop (headN [65, 58, 32, 120, 13, 10, 13, 10, 116, 101, 120, 116]) [65, 58, 32, 120, 13, 10, 13, 10, 116, 101, 120, 116] = ([116, 101, 120, 116] : List UInt8) := by decide +kernel
  have h3 : fndF (upL [97]) (fieldsL [65, 58, 32, 120, 13, 10, 13, 10]) = ([120], true) := by decide +kernel
  have h4 : crs [65, 58, 32, 120, 13, 10, 13, 10] = 2 := by decide +kernel
  have h5 : Lib.contains (upL [84, 101, 120, 116]) (upL [101, 88]) = true := by decide +kernel
  simp only [envM, qc1, splitC, fieldC, linesC, hasC, h1, h2, h3, h4, h5, go_sem, reduceCtorEq, ↓reduceIte, Nat.reduceAdd, Nat.reduceMul, Nat.reduceSub, Nat.reduceEqDiff, Nat.reduceLT, Nat.reduceBEq, Nat.reduceBNe, Nat.reduceLeDiff, Int.reduceLE, Int.reduceLT, Int.reduceToNat, Int.reduceEq, Int.reduceAdd, UInt8.reduceToNat, UInt32.reduceToNat, UInt64.reduceToNat, UInt8.reduceOfNat, UInt32.reduceOfNat, UInt64.reduceOfNat, Fin.isValue, Int.reduceSub, Int.reduceMul, Int.reduceNeg, Int.reduceMod, Int.reduceDiv, Int.reduceTDiv, Int.reduceTMod, Int.reduceBEq, Int.reduceBNe, Nat.reduceDiv, Nat.reducePow]
  all_goals trace_state
def awake19C : Con := con0 fun args => match args with
  | [] => some (.c (.one (.bo true)), [])
  | _ => none
theorem awake19C_ok : ConOkG Tryd.prog GM 36 awake19C := con0_okG Tryd.func36 rfl rfl fun args res ob h hob => by
  split at h
  · injection h with h; injection h with h1 h2; subst h1; subst h2; exact awake19_tri
  · cases h
end Go.Proofs.YtgfcdkbbkgamnaaDoor
