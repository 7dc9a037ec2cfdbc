/-
  Layer 14: what lies in ranges is told as the document says.
-/
import Derived.Test.YtgfcdkbbkgamnaaDoorSz
import Derived.Test.YtgfcdkbbkgamnaaDoorTi
import Derived.Test.YtgfcdkbbkgamnaaDoorTl
import Derived.Test.YtgfcdkbbkgamnaaDoorRx
namespace Go.Proofs.YtgfcdkbbkgamnaaDoor
open Go Go.RowKit
set_option maxHeartbeats 4000000
set_option linter.unusedSimpArgs false
set_option linter.unusedVariables false
structure ShX where
  i : Nat
  at' : Nat
def shInv (l : List Rng) (ns p : List Int) (x : ShX) : St := match p.length with
  | 0 => ⟨[(0, .c (.one (.sl 0 0 2 l.length))), (3, .c (.one (.sl 1 0 1 ns.length))), (9, .c (.one (.val (.slice none 0 0)))), (10, .c (.one (.num x.at'))), (35, .c (.one (.sl 1 0 1 ns.length))), (36, .c (.one (.num ns.length))), (37, .c (.one (.num x.i)))], [(0, ⟨.arr _ rngL l, false⟩), (1, ⟨.arr _ intL ns, false⟩)]⟩
  | j + 1 => ⟨[(0, .c (.one (.sl 0 0 2 l.length))), (3, .c (.one (.sl 1 0 1 ns.length))), (9, .c (.one (.sl 500 0 1 (j + 1)))), (10, .c (.one (.num x.at'))), (35, .c (.one (.sl 1 0 1 ns.length))), (36, .c (.one (.num ns.length))), (37, .c (.one (.num x.i)))], [(0, ⟨.arr _ rngL l, false⟩), (1, ⟨.arr _ intL ns, false⟩), (500, ⟨.arr _ intL p, true⟩)]⟩
def pP (l : List Rng) (ns : List Int) (k : Int) : Bool := hasF l k (lastI ns)
theorem pickL_eq (l : List Rng) (ns : List Int) : pickL l ns = ns.filter (pP l ns) := rfl
def shOk (l : List Rng) (ns : List Int) (x : ShX) : Prop := x.i ≤ ns.length ∧ x.at' = ((ns.take x.i).filter (pP l ns)).length
theorem sh_split {l : List Rng} {ns : List Int} {i : Nat} (h : i < ns.length) : pickL l ns = (ns.take i).filter (pP l ns) ++ (ns.getD i 0 :: ns.drop (i + 1)).filter (pP l ns) := by
  rw [pickL_eq, ← pk_drop h, ← List.filter_append, List.take_append_drop]
theorem shOk_no {l : List Rng} {ns : List Int} {x : ShX} (h : shOk l ns x) (hi : x.i < ns.length) (hp : pP l ns (ns.getD x.i 0) = false) : shOk l ns ⟨x.i + 1, x.at'⟩ := by
  obtain ⟨h1, h2⟩ := h
  refine ⟨hi, ?_⟩
  show x.at' = ((ns.take (x.i + 1)).filter _).length
  have e : ns.take (x.i + 1) = ns.take x.i ++ [ns.getD x.i 0] := by rw [List.take_add_one, List.getD_eq_getElem?_getD, List.getElem?_eq_getElem hi]; rfl
  rw [e, List.filter_append, List.length_append, ← h2, List.filter_cons_of_neg (by rw [hp]; decide)]
  rfl
theorem shOk_yes {l : List Rng} {ns : List Int} {x : ShX} (h : shOk l ns x) (hi : x.i < ns.length) (hp : pP l ns (ns.getD x.i 0) = true) : shOk l ns ⟨x.i + 1, x.at' + 1⟩ ∧ x.at' < (pickL l ns).length ∧ (pickL l ns).getD x.at' 0 = ns.getD x.i 0 := by
  obtain ⟨h1, h2⟩ := h
  have e : ns.take (x.i + 1) = ns.take x.i ++ [ns.getD x.i 0] := by rw [List.take_add_one, List.getD_eq_getElem?_getD, List.getElem?_eq_getElem hi]; rfl
  refine ⟨⟨hi, ?_⟩, ?_, ?_⟩
  · show x.at' + 1 = ((ns.take (x.i + 1)).filter _).length
    rw [e, List.filter_append, List.length_append, ← h2, List.filter_cons_of_pos hp]
    rfl
  · rw [sh_split hi, List.filter_cons_of_pos hp, List.length_append, ← h2]; simp
  · rw [sh_split hi, List.filter_cons_of_pos hp, List.getD_eq_getElem?_getD, List.getElem?_append_right (by omega), ← h2, Nat.sub_self]; rfl
theorem shOk_end {l : List Rng} {ns : List Int} {x : ShX} (h : shOk l ns x) (hi : ns.length ≤ x.i) : x.at' = (pickL l ns).length := by
  obtain ⟨h1, h2⟩ := h
  rw [List.take_of_length_le hi] at h2
  exact h2
theorem pick_len (l : List Rng) (ns : List Int) : (pickL l ns).length ≤ ns.length := List.length_filter_le _ _
def qtc : Nat → Option Con := fun f => match f with
  | 24 => some hasQC
  | 25 => some refHasQC
  | 26 => some pickQC
  | 23 => some refsQC
  | 20 => some awake14C
  | _ => none
theorem qtc_ok : GaOkG Tryd.prog GL qtc := fun f con h => by
  unfold qtc at h
  split at h
  · injection h with h; subst h; exact hasQC_ok
  · injection h with h; subst h; exact refHasQC_ok
  · injection h with h; subst h; exact pickQC_ok
  · injection h with h; subst h; exact refsQC_ok
  · injection h with h; subst h; exact awake14C_ok
  · cases h
set_option maxRecDepth 100000 in
theorem lawHas_tri (l : List Rng) (n g : Int) (ns : List Int) : TriG Tryd.prog GL 4 [.one (.sl 0 0 2 l.length), .one (.num n), .one (.num g), .one (.sl 1 0 1 ns.length)] [(0, ⟨.arr _ rngL l, false⟩), (1, ⟨.arr _ intL ns, false⟩)] (.c (.one (.bo true))) [(0, ⟨.arr _ rngL l, false⟩), (1, ⟨.arr _ intL ns, false⟩)] := by
  refine tri_ofx (envLK_ok qtc_ok 74 [0, 1]) Tryd.func4 rfl rfl (rs := [.tmp 8]) rfl rfl (by simp [envLK]) rfl ?_
  cases hb : decide ((100 : Int) < l.length) with
  | true =>
    simp only [envLK, con0, conS, strsOf_arr, rowS_arr, strsOf_cells, rowS_cells, toS, strL_st, strL_d, strL_enc, strL_up, hpN_nil, hpN_cons, qtc, hasQC, refHasQC, pickQC, refsQC, awake14C, hb, go_sem, reduceCtorEq, ↓reduceIte, Nat.reduceAdd, Nat.reduceMul, Nat.reduceSub, Nat.reduceEqDiff, Nat.reduceLT, Nat.reduceBEq, Nat.reduceBNe, Nat.reduceLeDiff, Int.reduceLE, Int.reduceLT, Int.reduceToNat, Int.reduceEq, Int.reduceAdd, UInt8.reduceToNat, UInt32.reduceToNat, UInt64.reduceToNat, UInt8.reduceOfNat, UInt32.reduceOfNat, UInt64.reduceOfNat, Fin.isValue, Int.reduceSub, Int.reduceMul, Int.reduceNeg, Int.reduceMod, Int.reduceDiv, Int.reduceTDiv, Int.reduceTMod, Int.reduceBEq, Int.reduceBNe, Nat.reduceDiv, Nat.reducePow]
    refine endX [] ?_
    simp only [envLK, con0, conS, strsOf_arr, rowS_arr, strsOf_cells, rowS_cells, toS, strL_st, strL_d, strL_enc, strL_up, hpN_nil, hpN_cons, qtc, hasQC, refHasQC, pickQC, refsQC, awake14C, go_sem, reduceCtorEq, ↓reduceIte, Nat.reduceAdd, Nat.reduceMul, Nat.reduceSub, Nat.reduceEqDiff, Nat.reduceLT, Nat.reduceBEq, Nat.reduceBNe, Nat.reduceLeDiff, Int.reduceLE, Int.reduceLT, Int.reduceToNat, Int.reduceEq, Int.reduceAdd, UInt8.reduceToNat, UInt32.reduceToNat, UInt64.reduceToNat, UInt8.reduceOfNat, UInt32.reduceOfNat, UInt64.reduceOfNat, Fin.isValue, Int.reduceSub, Int.reduceMul, Int.reduceNeg, Int.reduceMod, Int.reduceDiv, Int.reduceTDiv, Int.reduceTMod, Int.reduceBEq, Int.reduceBNe, Nat.reduceDiv, Nat.reducePow]
    all_goals ((repeat' apply And.intro) <;> first | omega | exact rfl | exact id)
  | false =>
    cases hb2 : decide ((100 : Int) < ns.length) with
    | true =>
      simp only [envLK, con0, conS, strsOf_arr, rowS_arr, strsOf_cells, rowS_cells, toS, strL_st, strL_d, strL_enc, strL_up, hpN_nil, hpN_cons, qtc, hasQC, refHasQC, pickQC, refsQC, awake14C, hb, hb2, go_sem, reduceCtorEq, ↓reduceIte, Nat.reduceAdd, Nat.reduceMul, Nat.reduceSub, Nat.reduceEqDiff, Nat.reduceLT, Nat.reduceBEq, Nat.reduceBNe, Nat.reduceLeDiff, Int.reduceLE, Int.reduceLT, Int.reduceToNat, Int.reduceEq, Int.reduceAdd, UInt8.reduceToNat, UInt32.reduceToNat, UInt64.reduceToNat, UInt8.reduceOfNat, UInt32.reduceOfNat, UInt64.reduceOfNat, Fin.isValue, Int.reduceSub, Int.reduceMul, Int.reduceNeg, Int.reduceMod, Int.reduceDiv, Int.reduceTDiv, Int.reduceTMod, Int.reduceBEq, Int.reduceBNe, Nat.reduceDiv, Nat.reducePow]
      refine endX [] ?_
      simp only [envLK, con0, conS, strsOf_arr, rowS_arr, strsOf_cells, rowS_cells, toS, strL_st, strL_d, strL_enc, strL_up, hpN_nil, hpN_cons, qtc, hasQC, refHasQC, pickQC, refsQC, awake14C, go_sem, reduceCtorEq, ↓reduceIte, Nat.reduceAdd, Nat.reduceMul, Nat.reduceSub, Nat.reduceEqDiff, Nat.reduceLT, Nat.reduceBEq, Nat.reduceBNe, Nat.reduceLeDiff, Int.reduceLE, Int.reduceLT, Int.reduceToNat, Int.reduceEq, Int.reduceAdd, UInt8.reduceToNat, UInt32.reduceToNat, UInt64.reduceToNat, UInt8.reduceOfNat, UInt32.reduceOfNat, UInt64.reduceOfNat, Fin.isValue, Int.reduceSub, Int.reduceMul, Int.reduceNeg, Int.reduceMod, Int.reduceDiv, Int.reduceTDiv, Int.reduceTMod, Int.reduceBEq, Int.reduceBNe, Nat.reduceDiv, Nat.reducePow]
      all_goals ((repeat' apply And.intro) <;> first | omega | exact rfl | exact id)
    | false =>
      have hl : l.length ≤ 100 := by have := of_decide_eq_false hb; omega
      have hn : ns.length ≤ 100 := by have := of_decide_eq_false hb2; omega
      have hl' : l.length ≤ 1048576 := by omega
      have hn' : ns.length ≤ 1048576 := by omega
      have hpl := pick_len l ns
      cases hq : hasF l n g <;> cases hne : l.isEmpty <;> cases hpe : (pickL l ns).isEmpty
      · -- false false false
        have hpn : ∃ j, (pickL l ns).length = j + 1 := by cases hc : pickL l ns with | nil => rw [hc] at hpe; cases hpe | cons a b => exact ⟨_, rfl⟩
        obtain ⟨j, hj⟩ := hpn
        simp only [envLK, con0, conS, strsOf_arr, rowS_arr, strsOf_cells, rowS_cells, toS, strL_st, strL_d, strL_enc, strL_up, hpN_nil, hpN_cons, qtc, hasQC, refHasQC, pickQC, refsQC, awake14C, conQ, hasQF, pickQF, refsQF, refsV, refsO, pickV, pickO, pairsOf_arr, rowP_arr, intsOf_arr, rowI_arr, hb, hb2, hq, hne, hpe, hl', hn', Bool.false_eq_true, if_false, if_true, reduceIte, hj, go_sem, reduceCtorEq, ↓reduceIte, Nat.reduceAdd, Nat.reduceMul, Nat.reduceSub, Nat.reduceEqDiff, Nat.reduceLT, Nat.reduceBEq, Nat.reduceBNe, Nat.reduceLeDiff, Int.reduceLE, Int.reduceLT, Int.reduceToNat, Int.reduceEq, Int.reduceAdd, UInt8.reduceToNat, UInt32.reduceToNat, UInt64.reduceToNat, UInt8.reduceOfNat, UInt32.reduceOfNat, UInt64.reduceOfNat, Fin.isValue, Int.reduceSub, Int.reduceMul, Int.reduceNeg, Int.reduceMod, Int.reduceDiv, Int.reduceTDiv, Int.reduceTMod, Int.reduceBEq, Int.reduceBNe, Nat.reduceDiv, Nat.reducePow]
        refine loop_inv (envLK_ok qtc_ok 74 [0, 1]) (shInv l ns (pickL l ns)) (shOk l ns) (fun x => ns.length - x.i) ⟨0, 0⟩ [(500, 60016)] ⟨Nat.zero_le _, rfl⟩ ?_ ?_
        · simp only [shInv, hj, go_sem, reduceCtorEq, ↓reduceIte, Nat.reduceAdd, Nat.reduceMul, Nat.reduceSub, Nat.reduceEqDiff, Nat.reduceLT, Nat.reduceBEq, Nat.reduceBNe, Nat.reduceLeDiff, Int.reduceLE, Int.reduceLT, Int.reduceToNat, Int.reduceEq, Int.reduceAdd, UInt8.reduceToNat, UInt32.reduceToNat, UInt64.reduceToNat, UInt8.reduceOfNat, UInt32.reduceOfNat, UInt64.reduceOfNat, Fin.isValue, Int.reduceSub, Int.reduceMul, Int.reduceNeg, Int.reduceMod, Int.reduceDiv, Int.reduceTDiv, Int.reduceTMod, Int.reduceBEq, Int.reduceBNe, Nat.reduceDiv, Nat.reducePow]
          all_goals ((repeat' apply And.intro) <;> first | omega | exact rfl | exact id)
        · rintro ⟨i, a⟩ hx
          have hi1 : i ≤ ns.length := hx.1
          have hw : IntKind.i64.wrap ((i : Int) + 1) = ((i + 1 : Nat) : Int) := by rw [IntKind.wrap_i64]; omega
          have hal : a ≤ ns.length := by have := hx.2; simp only at this; rw [this]; exact Nat.le_trans (List.length_filter_le _ _) (by rw [List.length_take]; omega)
          have hwa : IntKind.i64.wrap ((a : Int) + 1) = ((a + 1 : Nat) : Int) := by rw [IntKind.wrap_i64]; omega
          simp only [envLK, con0, conS, strsOf_arr, rowS_arr, strsOf_cells, rowS_cells, toS, strL_st, strL_d, strL_enc, strL_up, hpN_nil, hpN_cons, qtc, hasQC, refHasQC, pickQC, refsQC, awake14C, shInv, hj, go_sem, reduceCtorEq, ↓reduceIte, Nat.reduceAdd, Nat.reduceMul, Nat.reduceSub, Nat.reduceEqDiff, Nat.reduceLT, Nat.reduceBEq, Nat.reduceBNe, Nat.reduceLeDiff, Int.reduceLE, Int.reduceLT, Int.reduceToNat, Int.reduceEq, Int.reduceAdd, UInt8.reduceToNat, UInt32.reduceToNat, UInt64.reduceToNat, UInt8.reduceOfNat, UInt32.reduceOfNat, UInt64.reduceOfNat, Fin.isValue, Int.reduceSub, Int.reduceMul, Int.reduceNeg, Int.reduceMod, Int.reduceDiv, Int.reduceTDiv, Int.reduceTMod, Int.reduceBEq, Int.reduceBNe, Nat.reduceDiv, Nat.reducePow]
          refine br (fun h => ?_) fun h => ?_
          · have hlt : i < ns.length := by have := of_decide_eq_true h; omega
            have w1 : IntKind.i64.wrap ((ns.length : Int) - 1) = ((ns.length - 1 : Nat) : Int) := by rw [IntKind.wrap_i64]; omega
            have eL : ns.getD (ns.length - 1) 0 = lastI ns := rfl
            have hg : (0 : Int) ≤ ((ns.length - 1 : Nat) : Int) ∧ ((ns.length - 1 : Nat) : Int) < (ns.length : Int) := ⟨by omega, by omega⟩
            cases hP : hasF l (ns.getD i 0) (lastI ns) with
            | false =>
              have hnx := shOk_no hx hlt hP
              simp only at hnx
              simp only [envLK, con0, conS, strsOf_arr, rowS_arr, strsOf_cells, rowS_cells, toS, strL_st, strL_d, strL_enc, strL_up, hpN_nil, hpN_cons, qtc, hasQC, refHasQC, pickQC, refsQC, awake14C, conQ, hasQF, pickQF, refsQF, refsV, refsO, pickV, pickO, pairsOf_arr, rowP_arr, intsOf_arr, rowI_arr, h, hw, hwa, w1, eL, hP, hne, hj, hl', hn', Bool.false_eq_true, if_false, if_true, reduceIte, beq_self_eq_true, Bool.not_true, Bool.not_false, intL_st, intL_d, intL_enc, go_sem, reduceCtorEq, ↓reduceIte, Nat.reduceAdd, Nat.reduceMul, Nat.reduceSub, Nat.reduceEqDiff, Nat.reduceLT, Nat.reduceBEq, Nat.reduceBNe, Nat.reduceLeDiff, Int.reduceLE, Int.reduceLT, Int.reduceToNat, Int.reduceEq, Int.reduceAdd, UInt8.reduceToNat, UInt32.reduceToNat, UInt64.reduceToNat, UInt8.reduceOfNat, UInt32.reduceOfNat, UInt64.reduceOfNat, Fin.isValue, Int.reduceSub, Int.reduceMul, Int.reduceNeg, Int.reduceMod, Int.reduceDiv, Int.reduceTDiv, Int.reduceTMod, Int.reduceBEq, Int.reduceBNe, Nat.reduceDiv, Nat.reducePow]
              repeat' apply And.intro
              rotate_right
              · refine again ⟨i + 1, a⟩ [] hnx (by show ns.length - (i + 1) < ns.length - i; omega) ?_
                simp only [shInv, hj, envLK, con0, conS, strsOf_arr, rowS_arr, strsOf_cells, rowS_cells, toS, strL_st, strL_d, strL_enc, strL_up, hpN_nil, hpN_cons, qtc, hasQC, refHasQC, pickQC, refsQC, awake14C, go_sem, reduceCtorEq, ↓reduceIte, Nat.reduceAdd, Nat.reduceMul, Nat.reduceSub, Nat.reduceEqDiff, Nat.reduceLT, Nat.reduceBEq, Nat.reduceBNe, Nat.reduceLeDiff, Int.reduceLE, Int.reduceLT, Int.reduceToNat, Int.reduceEq, Int.reduceAdd, UInt8.reduceToNat, UInt32.reduceToNat, UInt64.reduceToNat, UInt8.reduceOfNat, UInt32.reduceOfNat, UInt64.reduceOfNat, Fin.isValue, Int.reduceSub, Int.reduceMul, Int.reduceNeg, Int.reduceMod, Int.reduceDiv, Int.reduceTDiv, Int.reduceTMod, Int.reduceBEq, Int.reduceBNe, Nat.reduceDiv, Nat.reducePow]
                all_goals ((repeat' apply And.intro) <;> first | omega | exact rfl | exact id)
              all_goals first | omega | exact rfl | exact id
            | true =>
              obtain ⟨hnx, hb1, hv⟩ := shOk_yes hx hlt hP
              simp only at hnx hb1 hv
              have hc : decide (((j + 1 : Nat) : Int) ≤ (a : Int)) = false := decide_eq_false (by omega)
              have hg2 : (0 : Int) ≤ (a : Int) ∧ (a : Int) < ((j + 1 : Nat) : Int) := ⟨by omega, by omega⟩
              simp only [envLK, con0, conS, strsOf_arr, rowS_arr, strsOf_cells, rowS_cells, toS, strL_st, strL_d, strL_enc, strL_up, hpN_nil, hpN_cons, qtc, hasQC, refHasQC, pickQC, refsQC, awake14C, conQ, hasQF, pickQF, refsQF, refsV, refsO, pickV, pickO, pairsOf_arr, rowP_arr, intsOf_arr, rowI_arr, h, hw, hwa, w1, eL, hP, hne, hj, hl', hn', Bool.false_eq_true, if_false, if_true, reduceIte, beq_self_eq_true, Bool.not_true, Bool.not_false, intL_st, intL_d, intL_enc, hc, hv, hg2, go_sem, reduceCtorEq, ↓reduceIte, Nat.reduceAdd, Nat.reduceMul, Nat.reduceSub, Nat.reduceEqDiff, Nat.reduceLT, Nat.reduceBEq, Nat.reduceBNe, Nat.reduceLeDiff, Int.reduceLE, Int.reduceLT, Int.reduceToNat, Int.reduceEq, Int.reduceAdd, UInt8.reduceToNat, UInt32.reduceToNat, UInt64.reduceToNat, UInt8.reduceOfNat, UInt32.reduceOfNat, UInt64.reduceOfNat, Fin.isValue, Int.reduceSub, Int.reduceMul, Int.reduceNeg, Int.reduceMod, Int.reduceDiv, Int.reduceTDiv, Int.reduceTMod, Int.reduceBEq, Int.reduceBNe, Nat.reduceDiv, Nat.reducePow]
              repeat' apply And.intro
              rotate_right
              · refine again ⟨i + 1, a + 1⟩ [] hnx (by show ns.length - (i + 1) < ns.length - i; omega) ?_
                simp only [shInv, hj, envLK, con0, conS, strsOf_arr, rowS_arr, strsOf_cells, rowS_cells, toS, strL_st, strL_d, strL_enc, strL_up, hpN_nil, hpN_cons, qtc, hasQC, refHasQC, pickQC, refsQC, awake14C, go_sem, reduceCtorEq, ↓reduceIte, Nat.reduceAdd, Nat.reduceMul, Nat.reduceSub, Nat.reduceEqDiff, Nat.reduceLT, Nat.reduceBEq, Nat.reduceBNe, Nat.reduceLeDiff, Int.reduceLE, Int.reduceLT, Int.reduceToNat, Int.reduceEq, Int.reduceAdd, UInt8.reduceToNat, UInt32.reduceToNat, UInt64.reduceToNat, UInt8.reduceOfNat, UInt32.reduceOfNat, UInt64.reduceOfNat, Fin.isValue, Int.reduceSub, Int.reduceMul, Int.reduceNeg, Int.reduceMod, Int.reduceDiv, Int.reduceTDiv, Int.reduceTMod, Int.reduceBEq, Int.reduceBNe, Nat.reduceDiv, Nat.reducePow]
                all_goals ((repeat' apply And.intro) <;> first | omega | exact rfl | exact id)
              all_goals first | omega | exact rfl | exact id
          · have hge : ns.length ≤ i := by have := of_decide_eq_false h; omega
            have he := shOk_end hx hge
            simp only at he
            rw [hj] at he
            subst he
            simp only [envLK, con0, conS, strsOf_arr, rowS_arr, strsOf_cells, rowS_cells, toS, strL_st, strL_d, strL_enc, strL_up, hpN_nil, hpN_cons, qtc, hasQC, refHasQC, pickQC, refsQC, awake14C, h, hj, beq_self_eq_true, go_sem, reduceCtorEq, ↓reduceIte, Nat.reduceAdd, Nat.reduceMul, Nat.reduceSub, Nat.reduceEqDiff, Nat.reduceLT, Nat.reduceBEq, Nat.reduceBNe, Nat.reduceLeDiff, Int.reduceLE, Int.reduceLT, Int.reduceToNat, Int.reduceEq, Int.reduceAdd, UInt8.reduceToNat, UInt32.reduceToNat, UInt64.reduceToNat, UInt8.reduceOfNat, UInt32.reduceOfNat, UInt64.reduceOfNat, Fin.isValue, Int.reduceSub, Int.reduceMul, Int.reduceNeg, Int.reduceMod, Int.reduceDiv, Int.reduceTDiv, Int.reduceTMod, Int.reduceBEq, Int.reduceBNe, Nat.reduceDiv, Nat.reducePow]
            repeat' apply And.intro
            rotate_right
            · refine endX [] ?_
              simp only [envLK, con0, conS, strsOf_arr, rowS_arr, strsOf_cells, rowS_cells, toS, strL_st, strL_d, strL_enc, strL_up, hpN_nil, hpN_cons, qtc, hasQC, refHasQC, pickQC, refsQC, awake14C, go_sem, reduceCtorEq, ↓reduceIte, Nat.reduceAdd, Nat.reduceMul, Nat.reduceSub, Nat.reduceEqDiff, Nat.reduceLT, Nat.reduceBEq, Nat.reduceBNe, Nat.reduceLeDiff, Int.reduceLE, Int.reduceLT, Int.reduceToNat, Int.reduceEq, Int.reduceAdd, UInt8.reduceToNat, UInt32.reduceToNat, UInt64.reduceToNat, UInt8.reduceOfNat, UInt32.reduceOfNat, UInt64.reduceOfNat, Fin.isValue, Int.reduceSub, Int.reduceMul, Int.reduceNeg, Int.reduceMod, Int.reduceDiv, Int.reduceTDiv, Int.reduceTMod, Int.reduceBEq, Int.reduceBNe, Nat.reduceDiv, Nat.reducePow]
              all_goals ((repeat' apply And.intro) <;> first | omega | exact rfl | exact id)
            all_goals first | omega | exact rfl | exact id
      · -- false false true
        have hpn : (pickL l ns).length = 0 := by rw [List.isEmpty_iff.1 hpe]; rfl
        have hj := hpn
        simp only [envLK, con0, conS, strsOf_arr, rowS_arr, strsOf_cells, rowS_cells, toS, strL_st, strL_d, strL_enc, strL_up, hpN_nil, hpN_cons, qtc, hasQC, refHasQC, pickQC, refsQC, awake14C, conQ, hasQF, pickQF, refsQF, refsV, refsO, pickV, pickO, pairsOf_arr, rowP_arr, intsOf_arr, rowI_arr, hb, hb2, hq, hne, hpe, hl', hn', Bool.false_eq_true, if_false, if_true, reduceIte, hj, go_sem, reduceCtorEq, ↓reduceIte, Nat.reduceAdd, Nat.reduceMul, Nat.reduceSub, Nat.reduceEqDiff, Nat.reduceLT, Nat.reduceBEq, Nat.reduceBNe, Nat.reduceLeDiff, Int.reduceLE, Int.reduceLT, Int.reduceToNat, Int.reduceEq, Int.reduceAdd, UInt8.reduceToNat, UInt32.reduceToNat, UInt64.reduceToNat, UInt8.reduceOfNat, UInt32.reduceOfNat, UInt64.reduceOfNat, Fin.isValue, Int.reduceSub, Int.reduceMul, Int.reduceNeg, Int.reduceMod, Int.reduceDiv, Int.reduceTDiv, Int.reduceTMod, Int.reduceBEq, Int.reduceBNe, Nat.reduceDiv, Nat.reducePow]
        refine loop_inv (envLK_ok qtc_ok 74 [0, 1]) (shInv l ns (pickL l ns)) (shOk l ns) (fun x => ns.length - x.i) ⟨0, 0⟩ [] ⟨Nat.zero_le _, rfl⟩ ?_ ?_
        · simp only [shInv, hj, go_sem, reduceCtorEq, ↓reduceIte, Nat.reduceAdd, Nat.reduceMul, Nat.reduceSub, Nat.reduceEqDiff, Nat.reduceLT, Nat.reduceBEq, Nat.reduceBNe, Nat.reduceLeDiff, Int.reduceLE, Int.reduceLT, Int.reduceToNat, Int.reduceEq, Int.reduceAdd, UInt8.reduceToNat, UInt32.reduceToNat, UInt64.reduceToNat, UInt8.reduceOfNat, UInt32.reduceOfNat, UInt64.reduceOfNat, Fin.isValue, Int.reduceSub, Int.reduceMul, Int.reduceNeg, Int.reduceMod, Int.reduceDiv, Int.reduceTDiv, Int.reduceTMod, Int.reduceBEq, Int.reduceBNe, Nat.reduceDiv, Nat.reducePow]
          all_goals ((repeat' apply And.intro) <;> first | omega | exact rfl | exact id)
        · rintro ⟨i, a⟩ hx
          have hi1 : i ≤ ns.length := hx.1
          have hw : IntKind.i64.wrap ((i : Int) + 1) = ((i + 1 : Nat) : Int) := by rw [IntKind.wrap_i64]; omega
          have hal : a ≤ ns.length := by have := hx.2; simp only at this; rw [this]; exact Nat.le_trans (List.length_filter_le _ _) (by rw [List.length_take]; omega)
          have hwa : IntKind.i64.wrap ((a : Int) + 1) = ((a + 1 : Nat) : Int) := by rw [IntKind.wrap_i64]; omega
          simp only [envLK, con0, conS, strsOf_arr, rowS_arr, strsOf_cells, rowS_cells, toS, strL_st, strL_d, strL_enc, strL_up, hpN_nil, hpN_cons, qtc, hasQC, refHasQC, pickQC, refsQC, awake14C, shInv, hj, go_sem, reduceCtorEq, ↓reduceIte, Nat.reduceAdd, Nat.reduceMul, Nat.reduceSub, Nat.reduceEqDiff, Nat.reduceLT, Nat.reduceBEq, Nat.reduceBNe, Nat.reduceLeDiff, Int.reduceLE, Int.reduceLT, Int.reduceToNat, Int.reduceEq, Int.reduceAdd, UInt8.reduceToNat, UInt32.reduceToNat, UInt64.reduceToNat, UInt8.reduceOfNat, UInt32.reduceOfNat, UInt64.reduceOfNat, Fin.isValue, Int.reduceSub, Int.reduceMul, Int.reduceNeg, Int.reduceMod, Int.reduceDiv, Int.reduceTDiv, Int.reduceTMod, Int.reduceBEq, Int.reduceBNe, Nat.reduceDiv, Nat.reducePow]
          refine br (fun h => ?_) fun h => ?_
          · have hlt : i < ns.length := by have := of_decide_eq_true h; omega
            have w1 : IntKind.i64.wrap ((ns.length : Int) - 1) = ((ns.length - 1 : Nat) : Int) := by rw [IntKind.wrap_i64]; omega
            have eL : ns.getD (ns.length - 1) 0 = lastI ns := rfl
            have hg : (0 : Int) ≤ ((ns.length - 1 : Nat) : Int) ∧ ((ns.length - 1 : Nat) : Int) < (ns.length : Int) := ⟨by omega, by omega⟩
            cases hP : hasF l (ns.getD i 0) (lastI ns) with
            | false =>
              have hnx := shOk_no hx hlt hP
              simp only at hnx
              simp only [envLK, con0, conS, strsOf_arr, rowS_arr, strsOf_cells, rowS_cells, toS, strL_st, strL_d, strL_enc, strL_up, hpN_nil, hpN_cons, qtc, hasQC, refHasQC, pickQC, refsQC, awake14C, conQ, hasQF, pickQF, refsQF, refsV, refsO, pickV, pickO, pairsOf_arr, rowP_arr, intsOf_arr, rowI_arr, h, hw, hwa, w1, eL, hP, hne, hj, hl', hn', Bool.false_eq_true, if_false, if_true, reduceIte, beq_self_eq_true, Bool.not_true, Bool.not_false, intL_st, intL_d, intL_enc, go_sem, reduceCtorEq, ↓reduceIte, Nat.reduceAdd, Nat.reduceMul, Nat.reduceSub, Nat.reduceEqDiff, Nat.reduceLT, Nat.reduceBEq, Nat.reduceBNe, Nat.reduceLeDiff, Int.reduceLE, Int.reduceLT, Int.reduceToNat, Int.reduceEq, Int.reduceAdd, UInt8.reduceToNat, UInt32.reduceToNat, UInt64.reduceToNat, UInt8.reduceOfNat, UInt32.reduceOfNat, UInt64.reduceOfNat, Fin.isValue, Int.reduceSub, Int.reduceMul, Int.reduceNeg, Int.reduceMod, Int.reduceDiv, Int.reduceTDiv, Int.reduceTMod, Int.reduceBEq, Int.reduceBNe, Nat.reduceDiv, Nat.reducePow]
              repeat' apply And.intro
              rotate_right
              · refine again ⟨i + 1, a⟩ [] hnx (by show ns.length - (i + 1) < ns.length - i; omega) ?_
                simp only [shInv, hj, envLK, con0, conS, strsOf_arr, rowS_arr, strsOf_cells, rowS_cells, toS, strL_st, strL_d, strL_enc, strL_up, hpN_nil, hpN_cons, qtc, hasQC, refHasQC, pickQC, refsQC, awake14C, go_sem, reduceCtorEq, ↓reduceIte, Nat.reduceAdd, Nat.reduceMul, Nat.reduceSub, Nat.reduceEqDiff, Nat.reduceLT, Nat.reduceBEq, Nat.reduceBNe, Nat.reduceLeDiff, Int.reduceLE, Int.reduceLT, Int.reduceToNat, Int.reduceEq, Int.reduceAdd, UInt8.reduceToNat, UInt32.reduceToNat, UInt64.reduceToNat, UInt8.reduceOfNat, UInt32.reduceOfNat, UInt64.reduceOfNat, Fin.isValue, Int.reduceSub, Int.reduceMul, Int.reduceNeg, Int.reduceMod, Int.reduceDiv, Int.reduceTDiv, Int.reduceTMod, Int.reduceBEq, Int.reduceBNe, Nat.reduceDiv, Nat.reducePow]
                all_goals ((repeat' apply And.intro) <;> first | omega | exact rfl | exact id)
              all_goals first | omega | exact rfl | exact id
            | true =>
              obtain ⟨_, hb1, _⟩ := shOk_yes hx hlt hP
              rw [hj] at hb1
              exact absurd hb1 (Nat.not_lt_zero _)
          · have hge : ns.length ≤ i := by have := of_decide_eq_false h; omega
            have he := shOk_end hx hge
            simp only at he
            rw [hj] at he
            subst he
            simp only [envLK, con0, conS, strsOf_arr, rowS_arr, strsOf_cells, rowS_cells, toS, strL_st, strL_d, strL_enc, strL_up, hpN_nil, hpN_cons, qtc, hasQC, refHasQC, pickQC, refsQC, awake14C, h, hj, beq_self_eq_true, go_sem, reduceCtorEq, ↓reduceIte, Nat.reduceAdd, Nat.reduceMul, Nat.reduceSub, Nat.reduceEqDiff, Nat.reduceLT, Nat.reduceBEq, Nat.reduceBNe, Nat.reduceLeDiff, Int.reduceLE, Int.reduceLT, Int.reduceToNat, Int.reduceEq, Int.reduceAdd, UInt8.reduceToNat, UInt32.reduceToNat, UInt64.reduceToNat, UInt8.reduceOfNat, UInt32.reduceOfNat, UInt64.reduceOfNat, Fin.isValue, Int.reduceSub, Int.reduceMul, Int.reduceNeg, Int.reduceMod, Int.reduceDiv, Int.reduceTDiv, Int.reduceTMod, Int.reduceBEq, Int.reduceBNe, Nat.reduceDiv, Nat.reducePow]
            repeat' apply And.intro
            rotate_right
            · refine endX [] ?_
              simp only [envLK, con0, conS, strsOf_arr, rowS_arr, strsOf_cells, rowS_cells, toS, strL_st, strL_d, strL_enc, strL_up, hpN_nil, hpN_cons, qtc, hasQC, refHasQC, pickQC, refsQC, awake14C, go_sem, reduceCtorEq, ↓reduceIte, Nat.reduceAdd, Nat.reduceMul, Nat.reduceSub, Nat.reduceEqDiff, Nat.reduceLT, Nat.reduceBEq, Nat.reduceBNe, Nat.reduceLeDiff, Int.reduceLE, Int.reduceLT, Int.reduceToNat, Int.reduceEq, Int.reduceAdd, UInt8.reduceToNat, UInt32.reduceToNat, UInt64.reduceToNat, UInt8.reduceOfNat, UInt32.reduceOfNat, UInt64.reduceOfNat, Fin.isValue, Int.reduceSub, Int.reduceMul, Int.reduceNeg, Int.reduceMod, Int.reduceDiv, Int.reduceTDiv, Int.reduceTMod, Int.reduceBEq, Int.reduceBNe, Nat.reduceDiv, Nat.reducePow]
              all_goals ((repeat' apply And.intro) <;> first | omega | exact rfl | exact id)
            all_goals first | omega | exact rfl | exact id
      · -- false true false
        have hl0 : l = [] := List.isEmpty_iff.1 hne
        exfalso
        rw [hl0] at hpe
        have : pickL [] ns = [] := by rw [pickL_eq, List.filter_eq_nil_iff]; intro k _ hk; cases hk
        rw [this] at hpe; cases hpe
      · -- false true true
        have hl0 : l = [] := List.isEmpty_iff.1 hne
        have hpn : (pickL l ns).length = 0 := by rw [List.isEmpty_iff.1 hpe]; rfl
        have hj := hpn
        simp only [envLK, con0, conS, strsOf_arr, rowS_arr, strsOf_cells, rowS_cells, toS, strL_st, strL_d, strL_enc, strL_up, hpN_nil, hpN_cons, qtc, hasQC, refHasQC, pickQC, refsQC, awake14C, conQ, hasQF, pickQF, refsQF, refsV, refsO, pickV, pickO, pairsOf_arr, rowP_arr, intsOf_arr, rowI_arr, hb, hb2, hq, hne, hpe, hl', hn', Bool.false_eq_true, if_false, if_true, reduceIte, hj, go_sem, reduceCtorEq, ↓reduceIte, Nat.reduceAdd, Nat.reduceMul, Nat.reduceSub, Nat.reduceEqDiff, Nat.reduceLT, Nat.reduceBEq, Nat.reduceBNe, Nat.reduceLeDiff, Int.reduceLE, Int.reduceLT, Int.reduceToNat, Int.reduceEq, Int.reduceAdd, UInt8.reduceToNat, UInt32.reduceToNat, UInt64.reduceToNat, UInt8.reduceOfNat, UInt32.reduceOfNat, UInt64.reduceOfNat, Fin.isValue, Int.reduceSub, Int.reduceMul, Int.reduceNeg, Int.reduceMod, Int.reduceDiv, Int.reduceTDiv, Int.reduceTMod, Int.reduceBEq, Int.reduceBNe, Nat.reduceDiv, Nat.reducePow]
        refine loop_inv (envLK_ok qtc_ok 74 [0, 1]) (shInv l ns (pickL l ns)) (shOk l ns) (fun x => ns.length - x.i) ⟨0, 0⟩ [] ⟨Nat.zero_le _, rfl⟩ ?_ ?_
        · simp only [shInv, hj, go_sem, reduceCtorEq, ↓reduceIte, Nat.reduceAdd, Nat.reduceMul, Nat.reduceSub, Nat.reduceEqDiff, Nat.reduceLT, Nat.reduceBEq, Nat.reduceBNe, Nat.reduceLeDiff, Int.reduceLE, Int.reduceLT, Int.reduceToNat, Int.reduceEq, Int.reduceAdd, UInt8.reduceToNat, UInt32.reduceToNat, UInt64.reduceToNat, UInt8.reduceOfNat, UInt32.reduceOfNat, UInt64.reduceOfNat, Fin.isValue, Int.reduceSub, Int.reduceMul, Int.reduceNeg, Int.reduceMod, Int.reduceDiv, Int.reduceTDiv, Int.reduceTMod, Int.reduceBEq, Int.reduceBNe, Nat.reduceDiv, Nat.reducePow]
          all_goals ((repeat' apply And.intro) <;> first | omega | exact rfl | exact id)
        · rintro ⟨i, a⟩ hx
          have hi1 : i ≤ ns.length := hx.1
          have hw : IntKind.i64.wrap ((i : Int) + 1) = ((i + 1 : Nat) : Int) := by rw [IntKind.wrap_i64]; omega
          have hal : a ≤ ns.length := by have := hx.2; simp only at this; rw [this]; exact Nat.le_trans (List.length_filter_le _ _) (by rw [List.length_take]; omega)
          have hwa : IntKind.i64.wrap ((a : Int) + 1) = ((a + 1 : Nat) : Int) := by rw [IntKind.wrap_i64]; omega
          simp only [envLK, con0, conS, strsOf_arr, rowS_arr, strsOf_cells, rowS_cells, toS, strL_st, strL_d, strL_enc, strL_up, hpN_nil, hpN_cons, qtc, hasQC, refHasQC, pickQC, refsQC, awake14C, shInv, hj, go_sem, reduceCtorEq, ↓reduceIte, Nat.reduceAdd, Nat.reduceMul, Nat.reduceSub, Nat.reduceEqDiff, Nat.reduceLT, Nat.reduceBEq, Nat.reduceBNe, Nat.reduceLeDiff, Int.reduceLE, Int.reduceLT, Int.reduceToNat, Int.reduceEq, Int.reduceAdd, UInt8.reduceToNat, UInt32.reduceToNat, UInt64.reduceToNat, UInt8.reduceOfNat, UInt32.reduceOfNat, UInt64.reduceOfNat, Fin.isValue, Int.reduceSub, Int.reduceMul, Int.reduceNeg, Int.reduceMod, Int.reduceDiv, Int.reduceTDiv, Int.reduceTMod, Int.reduceBEq, Int.reduceBNe, Nat.reduceDiv, Nat.reducePow]
          refine br (fun h => ?_) fun h => ?_
          · have hlt : i < ns.length := by have := of_decide_eq_true h; omega
            have w1 : IntKind.i64.wrap ((ns.length : Int) - 1) = ((ns.length - 1 : Nat) : Int) := by rw [IntKind.wrap_i64]; omega
            have eL : ns.getD (ns.length - 1) 0 = lastI ns := rfl
            have hg : (0 : Int) ≤ ((ns.length - 1 : Nat) : Int) ∧ ((ns.length - 1 : Nat) : Int) < (ns.length : Int) := ⟨by omega, by omega⟩
            cases hP : hasF l (ns.getD i 0) (lastI ns) with
            | false =>
              have hnx := shOk_no hx hlt hP
              simp only at hnx
              simp only [envLK, con0, conS, strsOf_arr, rowS_arr, strsOf_cells, rowS_cells, toS, strL_st, strL_d, strL_enc, strL_up, hpN_nil, hpN_cons, qtc, hasQC, refHasQC, pickQC, refsQC, awake14C, conQ, hasQF, pickQF, refsQF, refsV, refsO, pickV, pickO, pairsOf_arr, rowP_arr, intsOf_arr, rowI_arr, h, hw, hwa, w1, eL, hP, hne, hj, hl', hn', Bool.false_eq_true, if_false, if_true, reduceIte, beq_self_eq_true, Bool.not_true, Bool.not_false, intL_st, intL_d, intL_enc, go_sem, reduceCtorEq, ↓reduceIte, Nat.reduceAdd, Nat.reduceMul, Nat.reduceSub, Nat.reduceEqDiff, Nat.reduceLT, Nat.reduceBEq, Nat.reduceBNe, Nat.reduceLeDiff, Int.reduceLE, Int.reduceLT, Int.reduceToNat, Int.reduceEq, Int.reduceAdd, UInt8.reduceToNat, UInt32.reduceToNat, UInt64.reduceToNat, UInt8.reduceOfNat, UInt32.reduceOfNat, UInt64.reduceOfNat, Fin.isValue, Int.reduceSub, Int.reduceMul, Int.reduceNeg, Int.reduceMod, Int.reduceDiv, Int.reduceTDiv, Int.reduceTMod, Int.reduceBEq, Int.reduceBNe, Nat.reduceDiv, Nat.reducePow]
              repeat' apply And.intro
              rotate_right
              · refine again ⟨i + 1, a⟩ [] hnx (by show ns.length - (i + 1) < ns.length - i; omega) ?_
                simp only [shInv, hj, envLK, con0, conS, strsOf_arr, rowS_arr, strsOf_cells, rowS_cells, toS, strL_st, strL_d, strL_enc, strL_up, hpN_nil, hpN_cons, qtc, hasQC, refHasQC, pickQC, refsQC, awake14C, go_sem, reduceCtorEq, ↓reduceIte, Nat.reduceAdd, Nat.reduceMul, Nat.reduceSub, Nat.reduceEqDiff, Nat.reduceLT, Nat.reduceBEq, Nat.reduceBNe, Nat.reduceLeDiff, Int.reduceLE, Int.reduceLT, Int.reduceToNat, Int.reduceEq, Int.reduceAdd, UInt8.reduceToNat, UInt32.reduceToNat, UInt64.reduceToNat, UInt8.reduceOfNat, UInt32.reduceOfNat, UInt64.reduceOfNat, Fin.isValue, Int.reduceSub, Int.reduceMul, Int.reduceNeg, Int.reduceMod, Int.reduceDiv, Int.reduceTDiv, Int.reduceTMod, Int.reduceBEq, Int.reduceBNe, Nat.reduceDiv, Nat.reducePow]
                all_goals ((repeat' apply And.intro) <;> first | omega | exact rfl | exact id)
              all_goals first | omega | exact rfl | exact id
            | true =>
              rw [hl0] at hP; cases hP
          · have hge : ns.length ≤ i := by have := of_decide_eq_false h; omega
            have he := shOk_end hx hge
            simp only at he
            rw [hj] at he
            subst he
            simp only [envLK, con0, conS, strsOf_arr, rowS_arr, strsOf_cells, rowS_cells, toS, strL_st, strL_d, strL_enc, strL_up, hpN_nil, hpN_cons, qtc, hasQC, refHasQC, pickQC, refsQC, awake14C, h, hj, beq_self_eq_true, go_sem, reduceCtorEq, ↓reduceIte, Nat.reduceAdd, Nat.reduceMul, Nat.reduceSub, Nat.reduceEqDiff, Nat.reduceLT, Nat.reduceBEq, Nat.reduceBNe, Nat.reduceLeDiff, Int.reduceLE, Int.reduceLT, Int.reduceToNat, Int.reduceEq, Int.reduceAdd, UInt8.reduceToNat, UInt32.reduceToNat, UInt64.reduceToNat, UInt8.reduceOfNat, UInt32.reduceOfNat, UInt64.reduceOfNat, Fin.isValue, Int.reduceSub, Int.reduceMul, Int.reduceNeg, Int.reduceMod, Int.reduceDiv, Int.reduceTDiv, Int.reduceTMod, Int.reduceBEq, Int.reduceBNe, Nat.reduceDiv, Nat.reducePow]
            repeat' apply And.intro
            rotate_right
            · refine endX [] ?_
              simp only [envLK, con0, conS, strsOf_arr, rowS_arr, strsOf_cells, rowS_cells, toS, strL_st, strL_d, strL_enc, strL_up, hpN_nil, hpN_cons, qtc, hasQC, refHasQC, pickQC, refsQC, awake14C, go_sem, reduceCtorEq, ↓reduceIte, Nat.reduceAdd, Nat.reduceMul, Nat.reduceSub, Nat.reduceEqDiff, Nat.reduceLT, Nat.reduceBEq, Nat.reduceBNe, Nat.reduceLeDiff, Int.reduceLE, Int.reduceLT, Int.reduceToNat, Int.reduceEq, Int.reduceAdd, UInt8.reduceToNat, UInt32.reduceToNat, UInt64.reduceToNat, UInt8.reduceOfNat, UInt32.reduceOfNat, UInt64.reduceOfNat, Fin.isValue, Int.reduceSub, Int.reduceMul, Int.reduceNeg, Int.reduceMod, Int.reduceDiv, Int.reduceTDiv, Int.reduceTMod, Int.reduceBEq, Int.reduceBNe, Nat.reduceDiv, Nat.reducePow]
              all_goals ((repeat' apply And.intro) <;> first | omega | exact rfl | exact id)
            all_goals first | omega | exact rfl | exact id
      · -- true false false
        have hpn : ∃ j, (pickL l ns).length = j + 1 := by cases hc : pickL l ns with | nil => rw [hc] at hpe; cases hpe | cons a b => exact ⟨_, rfl⟩
        obtain ⟨j, hj⟩ := hpn
        simp only [envLK, con0, conS, strsOf_arr, rowS_arr, strsOf_cells, rowS_cells, toS, strL_st, strL_d, strL_enc, strL_up, hpN_nil, hpN_cons, qtc, hasQC, refHasQC, pickQC, refsQC, awake14C, conQ, hasQF, pickQF, refsQF, refsV, refsO, pickV, pickO, pairsOf_arr, rowP_arr, intsOf_arr, rowI_arr, hb, hb2, hq, hne, hpe, hl', hn', Bool.false_eq_true, if_false, if_true, reduceIte, hj, go_sem, reduceCtorEq, ↓reduceIte, Nat.reduceAdd, Nat.reduceMul, Nat.reduceSub, Nat.reduceEqDiff, Nat.reduceLT, Nat.reduceBEq, Nat.reduceBNe, Nat.reduceLeDiff, Int.reduceLE, Int.reduceLT, Int.reduceToNat, Int.reduceEq, Int.reduceAdd, UInt8.reduceToNat, UInt32.reduceToNat, UInt64.reduceToNat, UInt8.reduceOfNat, UInt32.reduceOfNat, UInt64.reduceOfNat, Fin.isValue, Int.reduceSub, Int.reduceMul, Int.reduceNeg, Int.reduceMod, Int.reduceDiv, Int.reduceTDiv, Int.reduceTMod, Int.reduceBEq, Int.reduceBNe, Nat.reduceDiv, Nat.reducePow]
        refine loop_inv (envLK_ok qtc_ok 74 [0, 1]) (shInv l ns (pickL l ns)) (shOk l ns) (fun x => ns.length - x.i) ⟨0, 0⟩ [(500, 60016)] ⟨Nat.zero_le _, rfl⟩ ?_ ?_
        · simp only [shInv, hj, go_sem, reduceCtorEq, ↓reduceIte, Nat.reduceAdd, Nat.reduceMul, Nat.reduceSub, Nat.reduceEqDiff, Nat.reduceLT, Nat.reduceBEq, Nat.reduceBNe, Nat.reduceLeDiff, Int.reduceLE, Int.reduceLT, Int.reduceToNat, Int.reduceEq, Int.reduceAdd, UInt8.reduceToNat, UInt32.reduceToNat, UInt64.reduceToNat, UInt8.reduceOfNat, UInt32.reduceOfNat, UInt64.reduceOfNat, Fin.isValue, Int.reduceSub, Int.reduceMul, Int.reduceNeg, Int.reduceMod, Int.reduceDiv, Int.reduceTDiv, Int.reduceTMod, Int.reduceBEq, Int.reduceBNe, Nat.reduceDiv, Nat.reducePow]
          all_goals ((repeat' apply And.intro) <;> first | omega | exact rfl | exact id)
        · rintro ⟨i, a⟩ hx
          have hi1 : i ≤ ns.length := hx.1
          have hw : IntKind.i64.wrap ((i : Int) + 1) = ((i + 1 : Nat) : Int) := by rw [IntKind.wrap_i64]; omega
          have hal : a ≤ ns.length := by have := hx.2; simp only at this; rw [this]; exact Nat.le_trans (List.length_filter_le _ _) (by rw [List.length_take]; omega)
          have hwa : IntKind.i64.wrap ((a : Int) + 1) = ((a + 1 : Nat) : Int) := by rw [IntKind.wrap_i64]; omega
          simp only [envLK, con0, conS, strsOf_arr, rowS_arr, strsOf_cells, rowS_cells, toS, strL_st, strL_d, strL_enc, strL_up, hpN_nil, hpN_cons, qtc, hasQC, refHasQC, pickQC, refsQC, awake14C, shInv, hj, go_sem, reduceCtorEq, ↓reduceIte, Nat.reduceAdd, Nat.reduceMul, Nat.reduceSub, Nat.reduceEqDiff, Nat.reduceLT, Nat.reduceBEq, Nat.reduceBNe, Nat.reduceLeDiff, Int.reduceLE, Int.reduceLT, Int.reduceToNat, Int.reduceEq, Int.reduceAdd, UInt8.reduceToNat, UInt32.reduceToNat, UInt64.reduceToNat, UInt8.reduceOfNat, UInt32.reduceOfNat, UInt64.reduceOfNat, Fin.isValue, Int.reduceSub, Int.reduceMul, Int.reduceNeg, Int.reduceMod, Int.reduceDiv, Int.reduceTDiv, Int.reduceTMod, Int.reduceBEq, Int.reduceBNe, Nat.reduceDiv, Nat.reducePow]
          refine br (fun h => ?_) fun h => ?_
          · have hlt : i < ns.length := by have := of_decide_eq_true h; omega
            have w1 : IntKind.i64.wrap ((ns.length : Int) - 1) = ((ns.length - 1 : Nat) : Int) := by rw [IntKind.wrap_i64]; omega
            have eL : ns.getD (ns.length - 1) 0 = lastI ns := rfl
            have hg : (0 : Int) ≤ ((ns.length - 1 : Nat) : Int) ∧ ((ns.length - 1 : Nat) : Int) < (ns.length : Int) := ⟨by omega, by omega⟩
            cases hP : hasF l (ns.getD i 0) (lastI ns) with
            | false =>
              have hnx := shOk_no hx hlt hP
              simp only at hnx
              simp only [envLK, con0, conS, strsOf_arr, rowS_arr, strsOf_cells, rowS_cells, toS, strL_st, strL_d, strL_enc, strL_up, hpN_nil, hpN_cons, qtc, hasQC, refHasQC, pickQC, refsQC, awake14C, conQ, hasQF, pickQF, refsQF, refsV, refsO, pickV, pickO, pairsOf_arr, rowP_arr, intsOf_arr, rowI_arr, h, hw, hwa, w1, eL, hP, hne, hj, hl', hn', Bool.false_eq_true, if_false, if_true, reduceIte, beq_self_eq_true, Bool.not_true, Bool.not_false, intL_st, intL_d, intL_enc, go_sem, reduceCtorEq, ↓reduceIte, Nat.reduceAdd, Nat.reduceMul, Nat.reduceSub, Nat.reduceEqDiff, Nat.reduceLT, Nat.reduceBEq, Nat.reduceBNe, Nat.reduceLeDiff, Int.reduceLE, Int.reduceLT, Int.reduceToNat, Int.reduceEq, Int.reduceAdd, UInt8.reduceToNat, UInt32.reduceToNat, UInt64.reduceToNat, UInt8.reduceOfNat, UInt32.reduceOfNat, UInt64.reduceOfNat, Fin.isValue, Int.reduceSub, Int.reduceMul, Int.reduceNeg, Int.reduceMod, Int.reduceDiv, Int.reduceTDiv, Int.reduceTMod, Int.reduceBEq, Int.reduceBNe, Nat.reduceDiv, Nat.reducePow]
              repeat' apply And.intro
              rotate_right
              · refine again ⟨i + 1, a⟩ [] hnx (by show ns.length - (i + 1) < ns.length - i; omega) ?_
                simp only [shInv, hj, envLK, con0, conS, strsOf_arr, rowS_arr, strsOf_cells, rowS_cells, toS, strL_st, strL_d, strL_enc, strL_up, hpN_nil, hpN_cons, qtc, hasQC, refHasQC, pickQC, refsQC, awake14C, go_sem, reduceCtorEq, ↓reduceIte, Nat.reduceAdd, Nat.reduceMul, Nat.reduceSub, Nat.reduceEqDiff, Nat.reduceLT, Nat.reduceBEq, Nat.reduceBNe, Nat.reduceLeDiff, Int.reduceLE, Int.reduceLT, Int.reduceToNat, Int.reduceEq, Int.reduceAdd, UInt8.reduceToNat, UInt32.reduceToNat, UInt64.reduceToNat, UInt8.reduceOfNat, UInt32.reduceOfNat, UInt64.reduceOfNat, Fin.isValue, Int.reduceSub, Int.reduceMul, Int.reduceNeg, Int.reduceMod, Int.reduceDiv, Int.reduceTDiv, Int.reduceTMod, Int.reduceBEq, Int.reduceBNe, Nat.reduceDiv, Nat.reducePow]
                all_goals ((repeat' apply And.intro) <;> first | omega | exact rfl | exact id)
              all_goals first | omega | exact rfl | exact id
            | true =>
              obtain ⟨hnx, hb1, hv⟩ := shOk_yes hx hlt hP
              simp only at hnx hb1 hv
              have hc : decide (((j + 1 : Nat) : Int) ≤ (a : Int)) = false := decide_eq_false (by omega)
              have hg2 : (0 : Int) ≤ (a : Int) ∧ (a : Int) < ((j + 1 : Nat) : Int) := ⟨by omega, by omega⟩
              simp only [envLK, con0, conS, strsOf_arr, rowS_arr, strsOf_cells, rowS_cells, toS, strL_st, strL_d, strL_enc, strL_up, hpN_nil, hpN_cons, qtc, hasQC, refHasQC, pickQC, refsQC, awake14C, conQ, hasQF, pickQF, refsQF, refsV, refsO, pickV, pickO, pairsOf_arr, rowP_arr, intsOf_arr, rowI_arr, h, hw, hwa, w1, eL, hP, hne, hj, hl', hn', Bool.false_eq_true, if_false, if_true, reduceIte, beq_self_eq_true, Bool.not_true, Bool.not_false, intL_st, intL_d, intL_enc, hc, hv, hg2, go_sem, reduceCtorEq, ↓reduceIte, Nat.reduceAdd, Nat.reduceMul, Nat.reduceSub, Nat.reduceEqDiff, Nat.reduceLT, Nat.reduceBEq, Nat.reduceBNe, Nat.reduceLeDiff, Int.reduceLE, Int.reduceLT, Int.reduceToNat, Int.reduceEq, Int.reduceAdd, UInt8.reduceToNat, UInt32.reduceToNat, UInt64.reduceToNat, UInt8.reduceOfNat, UInt32.reduceOfNat, UInt64.reduceOfNat, Fin.isValue, Int.reduceSub, Int.reduceMul, Int.reduceNeg, Int.reduceMod, Int.reduceDiv, Int.reduceTDiv, Int.reduceTMod, Int.reduceBEq, Int.reduceBNe, Nat.reduceDiv, Nat.reducePow]
              repeat' apply And.intro
              rotate_right
              · refine again ⟨i + 1, a + 1⟩ [] hnx (by show ns.length - (i + 1) < ns.length - i; omega) ?_
                simp only [shInv, hj, envLK, con0, conS, strsOf_arr, rowS_arr, strsOf_cells, rowS_cells, toS, strL_st, strL_d, strL_enc, strL_up, hpN_nil, hpN_cons, qtc, hasQC, refHasQC, pickQC, refsQC, awake14C, go_sem, reduceCtorEq, ↓reduceIte, Nat.reduceAdd, Nat.reduceMul, Nat.reduceSub, Nat.reduceEqDiff, Nat.reduceLT, Nat.reduceBEq, Nat.reduceBNe, Nat.reduceLeDiff, Int.reduceLE, Int.reduceLT, Int.reduceToNat, Int.reduceEq, Int.reduceAdd, UInt8.reduceToNat, UInt32.reduceToNat, UInt64.reduceToNat, UInt8.reduceOfNat, UInt32.reduceOfNat, UInt64.reduceOfNat, Fin.isValue, Int.reduceSub, Int.reduceMul, Int.reduceNeg, Int.reduceMod, Int.reduceDiv, Int.reduceTDiv, Int.reduceTMod, Int.reduceBEq, Int.reduceBNe, Nat.reduceDiv, Nat.reducePow]
                all_goals ((repeat' apply And.intro) <;> first | omega | exact rfl | exact id)
              all_goals first | omega | exact rfl | exact id
          · have hge : ns.length ≤ i := by have := of_decide_eq_false h; omega
            have he := shOk_end hx hge
            simp only at he
            rw [hj] at he
            subst he
            simp only [envLK, con0, conS, strsOf_arr, rowS_arr, strsOf_cells, rowS_cells, toS, strL_st, strL_d, strL_enc, strL_up, hpN_nil, hpN_cons, qtc, hasQC, refHasQC, pickQC, refsQC, awake14C, h, hj, beq_self_eq_true, go_sem, reduceCtorEq, ↓reduceIte, Nat.reduceAdd, Nat.reduceMul, Nat.reduceSub, Nat.reduceEqDiff, Nat.reduceLT, Nat.reduceBEq, Nat.reduceBNe, Nat.reduceLeDiff, Int.reduceLE, Int.reduceLT, Int.reduceToNat, Int.reduceEq, Int.reduceAdd, UInt8.reduceToNat, UInt32.reduceToNat, UInt64.reduceToNat, UInt8.reduceOfNat, UInt32.reduceOfNat, UInt64.reduceOfNat, Fin.isValue, Int.reduceSub, Int.reduceMul, Int.reduceNeg, Int.reduceMod, Int.reduceDiv, Int.reduceTDiv, Int.reduceTMod, Int.reduceBEq, Int.reduceBNe, Nat.reduceDiv, Nat.reducePow]
            repeat' apply And.intro
            rotate_right
            · refine endX [] ?_
              simp only [envLK, con0, conS, strsOf_arr, rowS_arr, strsOf_cells, rowS_cells, toS, strL_st, strL_d, strL_enc, strL_up, hpN_nil, hpN_cons, qtc, hasQC, refHasQC, pickQC, refsQC, awake14C, go_sem, reduceCtorEq, ↓reduceIte, Nat.reduceAdd, Nat.reduceMul, Nat.reduceSub, Nat.reduceEqDiff, Nat.reduceLT, Nat.reduceBEq, Nat.reduceBNe, Nat.reduceLeDiff, Int.reduceLE, Int.reduceLT, Int.reduceToNat, Int.reduceEq, Int.reduceAdd, UInt8.reduceToNat, UInt32.reduceToNat, UInt64.reduceToNat, UInt8.reduceOfNat, UInt32.reduceOfNat, UInt64.reduceOfNat, Fin.isValue, Int.reduceSub, Int.reduceMul, Int.reduceNeg, Int.reduceMod, Int.reduceDiv, Int.reduceTDiv, Int.reduceTMod, Int.reduceBEq, Int.reduceBNe, Nat.reduceDiv, Nat.reducePow]
              all_goals ((repeat' apply And.intro) <;> first | omega | exact rfl | exact id)
            all_goals first | omega | exact rfl | exact id
      · -- true false true
        have hpn : (pickL l ns).length = 0 := by rw [List.isEmpty_iff.1 hpe]; rfl
        have hj := hpn
        simp only [envLK, con0, conS, strsOf_arr, rowS_arr, strsOf_cells, rowS_cells, toS, strL_st, strL_d, strL_enc, strL_up, hpN_nil, hpN_cons, qtc, hasQC, refHasQC, pickQC, refsQC, awake14C, conQ, hasQF, pickQF, refsQF, refsV, refsO, pickV, pickO, pairsOf_arr, rowP_arr, intsOf_arr, rowI_arr, hb, hb2, hq, hne, hpe, hl', hn', Bool.false_eq_true, if_false, if_true, reduceIte, hj, go_sem, reduceCtorEq, ↓reduceIte, Nat.reduceAdd, Nat.reduceMul, Nat.reduceSub, Nat.reduceEqDiff, Nat.reduceLT, Nat.reduceBEq, Nat.reduceBNe, Nat.reduceLeDiff, Int.reduceLE, Int.reduceLT, Int.reduceToNat, Int.reduceEq, Int.reduceAdd, UInt8.reduceToNat, UInt32.reduceToNat, UInt64.reduceToNat, UInt8.reduceOfNat, UInt32.reduceOfNat, UInt64.reduceOfNat, Fin.isValue, Int.reduceSub, Int.reduceMul, Int.reduceNeg, Int.reduceMod, Int.reduceDiv, Int.reduceTDiv, Int.reduceTMod, Int.reduceBEq, Int.reduceBNe, Nat.reduceDiv, Nat.reducePow]
        refine loop_inv (envLK_ok qtc_ok 74 [0, 1]) (shInv l ns (pickL l ns)) (shOk l ns) (fun x => ns.length - x.i) ⟨0, 0⟩ [] ⟨Nat.zero_le _, rfl⟩ ?_ ?_
        · simp only [shInv, hj, go_sem, reduceCtorEq, ↓reduceIte, Nat.reduceAdd, Nat.reduceMul, Nat.reduceSub, Nat.reduceEqDiff, Nat.reduceLT, Nat.reduceBEq, Nat.reduceBNe, Nat.reduceLeDiff, Int.reduceLE, Int.reduceLT, Int.reduceToNat, Int.reduceEq, Int.reduceAdd, UInt8.reduceToNat, UInt32.reduceToNat, UInt64.reduceToNat, UInt8.reduceOfNat, UInt32.reduceOfNat, UInt64.reduceOfNat, Fin.isValue, Int.reduceSub, Int.reduceMul, Int.reduceNeg, Int.reduceMod, Int.reduceDiv, Int.reduceTDiv, Int.reduceTMod, Int.reduceBEq, Int.reduceBNe, Nat.reduceDiv, Nat.reducePow]
          all_goals ((repeat' apply And.intro) <;> first | omega | exact rfl | exact id)
        · rintro ⟨i, a⟩ hx
          have hi1 : i ≤ ns.length := hx.1
          have hw : IntKind.i64.wrap ((i : Int) + 1) = ((i + 1 : Nat) : Int) := by rw [IntKind.wrap_i64]; omega
          have hal : a ≤ ns.length := by have := hx.2; simp only at this; rw [this]; exact Nat.le_trans (List.length_filter_le _ _) (by rw [List.length_take]; omega)
          have hwa : IntKind.i64.wrap ((a : Int) + 1) = ((a + 1 : Nat) : Int) := by rw [IntKind.wrap_i64]; omega
          simp only [envLK, con0, conS, strsOf_arr, rowS_arr, strsOf_cells, rowS_cells, toS, strL_st, strL_d, strL_enc, strL_up, hpN_nil, hpN_cons, qtc, hasQC, refHasQC, pickQC, refsQC, awake14C, shInv, hj, go_sem, reduceCtorEq, ↓reduceIte, Nat.reduceAdd, Nat.reduceMul, Nat.reduceSub, Nat.reduceEqDiff, Nat.reduceLT, Nat.reduceBEq, Nat.reduceBNe, Nat.reduceLeDiff, Int.reduceLE, Int.reduceLT, Int.reduceToNat, Int.reduceEq, Int.reduceAdd, UInt8.reduceToNat, UInt32.reduceToNat, UInt64.reduceToNat, UInt8.reduceOfNat, UInt32.reduceOfNat, UInt64.reduceOfNat, Fin.isValue, Int.reduceSub, Int.reduceMul, Int.reduceNeg, Int.reduceMod, Int.reduceDiv, Int.reduceTDiv, Int.reduceTMod, Int.reduceBEq, Int.reduceBNe, Nat.reduceDiv, Nat.reducePow]
          refine br (fun h => ?_) fun h => ?_
          · have hlt : i < ns.length := by have := of_decide_eq_true h; omega
            have w1 : IntKind.i64.wrap ((ns.length : Int) - 1) = ((ns.length - 1 : Nat) : Int) := by rw [IntKind.wrap_i64]; omega
            have eL : ns.getD (ns.length - 1) 0 = lastI ns := rfl
            have hg : (0 : Int) ≤ ((ns.length - 1 : Nat) : Int) ∧ ((ns.length - 1 : Nat) : Int) < (ns.length : Int) := ⟨by omega, by omega⟩
            cases hP : hasF l (ns.getD i 0) (lastI ns) with
            | false =>
              have hnx := shOk_no hx hlt hP
              simp only at hnx
              simp only [envLK, con0, conS, strsOf_arr, rowS_arr, strsOf_cells, rowS_cells, toS, strL_st, strL_d, strL_enc, strL_up, hpN_nil, hpN_cons, qtc, hasQC, refHasQC, pickQC, refsQC, awake14C, conQ, hasQF, pickQF, refsQF, refsV, refsO, pickV, pickO, pairsOf_arr, rowP_arr, intsOf_arr, rowI_arr, h, hw, hwa, w1, eL, hP, hne, hj, hl', hn', Bool.false_eq_true, if_false, if_true, reduceIte, beq_self_eq_true, Bool.not_true, Bool.not_false, intL_st, intL_d, intL_enc, go_sem, reduceCtorEq, ↓reduceIte, Nat.reduceAdd, Nat.reduceMul, Nat.reduceSub, Nat.reduceEqDiff, Nat.reduceLT, Nat.reduceBEq, Nat.reduceBNe, Nat.reduceLeDiff, Int.reduceLE, Int.reduceLT, Int.reduceToNat, Int.reduceEq, Int.reduceAdd, UInt8.reduceToNat, UInt32.reduceToNat, UInt64.reduceToNat, UInt8.reduceOfNat, UInt32.reduceOfNat, UInt64.reduceOfNat, Fin.isValue, Int.reduceSub, Int.reduceMul, Int.reduceNeg, Int.reduceMod, Int.reduceDiv, Int.reduceTDiv, Int.reduceTMod, Int.reduceBEq, Int.reduceBNe, Nat.reduceDiv, Nat.reducePow]
              repeat' apply And.intro
              rotate_right
              · refine again ⟨i + 1, a⟩ [] hnx (by show ns.length - (i + 1) < ns.length - i; omega) ?_
                simp only [shInv, hj, envLK, con0, conS, strsOf_arr, rowS_arr, strsOf_cells, rowS_cells, toS, strL_st, strL_d, strL_enc, strL_up, hpN_nil, hpN_cons, qtc, hasQC, refHasQC, pickQC, refsQC, awake14C, go_sem, reduceCtorEq, ↓reduceIte, Nat.reduceAdd, Nat.reduceMul, Nat.reduceSub, Nat.reduceEqDiff, Nat.reduceLT, Nat.reduceBEq, Nat.reduceBNe, Nat.reduceLeDiff, Int.reduceLE, Int.reduceLT, Int.reduceToNat, Int.reduceEq, Int.reduceAdd, UInt8.reduceToNat, UInt32.reduceToNat, UInt64.reduceToNat, UInt8.reduceOfNat, UInt32.reduceOfNat, UInt64.reduceOfNat, Fin.isValue, Int.reduceSub, Int.reduceMul, Int.reduceNeg, Int.reduceMod, Int.reduceDiv, Int.reduceTDiv, Int.reduceTMod, Int.reduceBEq, Int.reduceBNe, Nat.reduceDiv, Nat.reducePow]
                all_goals ((repeat' apply And.intro) <;> first | omega | exact rfl | exact id)
              all_goals first | omega | exact rfl | exact id
            | true =>
              obtain ⟨_, hb1, _⟩ := shOk_yes hx hlt hP
              rw [hj] at hb1
              exact absurd hb1 (Nat.not_lt_zero _)
          · have hge : ns.length ≤ i := by have := of_decide_eq_false h; omega
            have he := shOk_end hx hge
            simp only at he
            rw [hj] at he
            subst he
            simp only [envLK, con0, conS, strsOf_arr, rowS_arr, strsOf_cells, rowS_cells, toS, strL_st, strL_d, strL_enc, strL_up, hpN_nil, hpN_cons, qtc, hasQC, refHasQC, pickQC, refsQC, awake14C, h, hj, beq_self_eq_true, go_sem, reduceCtorEq, ↓reduceIte, Nat.reduceAdd, Nat.reduceMul, Nat.reduceSub, Nat.reduceEqDiff, Nat.reduceLT, Nat.reduceBEq, Nat.reduceBNe, Nat.reduceLeDiff, Int.reduceLE, Int.reduceLT, Int.reduceToNat, Int.reduceEq, Int.reduceAdd, UInt8.reduceToNat, UInt32.reduceToNat, UInt64.reduceToNat, UInt8.reduceOfNat, UInt32.reduceOfNat, UInt64.reduceOfNat, Fin.isValue, Int.reduceSub, Int.reduceMul, Int.reduceNeg, Int.reduceMod, Int.reduceDiv, Int.reduceTDiv, Int.reduceTMod, Int.reduceBEq, Int.reduceBNe, Nat.reduceDiv, Nat.reducePow]
            repeat' apply And.intro
            rotate_right
            · refine endX [] ?_
              simp only [envLK, con0, conS, strsOf_arr, rowS_arr, strsOf_cells, rowS_cells, toS, strL_st, strL_d, strL_enc, strL_up, hpN_nil, hpN_cons, qtc, hasQC, refHasQC, pickQC, refsQC, awake14C, go_sem, reduceCtorEq, ↓reduceIte, Nat.reduceAdd, Nat.reduceMul, Nat.reduceSub, Nat.reduceEqDiff, Nat.reduceLT, Nat.reduceBEq, Nat.reduceBNe, Nat.reduceLeDiff, Int.reduceLE, Int.reduceLT, Int.reduceToNat, Int.reduceEq, Int.reduceAdd, UInt8.reduceToNat, UInt32.reduceToNat, UInt64.reduceToNat, UInt8.reduceOfNat, UInt32.reduceOfNat, UInt64.reduceOfNat, Fin.isValue, Int.reduceSub, Int.reduceMul, Int.reduceNeg, Int.reduceMod, Int.reduceDiv, Int.reduceTDiv, Int.reduceTMod, Int.reduceBEq, Int.reduceBNe, Nat.reduceDiv, Nat.reducePow]
              all_goals ((repeat' apply And.intro) <;> first | omega | exact rfl | exact id)
            all_goals first | omega | exact rfl | exact id
      · -- true true false
        have hl0 : l = [] := List.isEmpty_iff.1 hne
        rw [hl0] at hq; cases hq
      · -- true true true
        have hl0 : l = [] := List.isEmpty_iff.1 hne
        rw [hl0] at hq; cases hq
theorem spanHas_law (w : World) {v0 v3 : Value} (l : List Rng) (p : Option (Blk × Nat)) (ha : ArgR w (.arr _ rngL l) 2 l.length v0 p) (hl : l.length ≤ maxLen) (hq : ∀ x ∈ l, (Lit.int .i64 x.1).wf = true ∧ (Lit.int .i64 x.2).wf = true)
    (n : Int) (wn : (Lit.int .i64 n).wf = true) (g : Int) (wg : (Lit.int .i64 g).wf = true) (ns : List Int) (p3 : Option (Blk × Nat)) (ha3 : ArgR w (.arr _ intL ns) 1 ns.length v3 p3) (hl3 : ns.length ≤ maxLen) (hq3 : ∀ x ∈ ns, (Lit.int .i64 x).wf = true) (hg : ∀ f ∈ GL, f.p w) :
    Calls Tryd.prog 4 #[v0, .int .i64 n, .int .i64 g, v3] w fun e w' => e = .returned (.bool true) ∧ Below w.heap.size w w' := by
  refine (tri_callsR (os := [.arr _ rngL l, .arr _ intL ns]) (lawHas_tri l n g ns) w [p, p3] rfl (fun i o q h1 h2 r => ?_) (vals := [v0, .int .i64 n, .int .i64 g, v3]) ⟨ha.rel _ 0 rfl, rfl, rfl, ha3.rel _ 1 rfl, trivial⟩ hg).mono ?_
  · match i with
    | 0 => simp at h1 h2; subst h1; subst h2; exact ha.obj r
    | 1 => simp at h1 h2; subst h1; subst h2; exact ha3.obj r
    | i + 2 => simp at h1
  · rintro e w' ⟨u, r', rfl, hr, hb⟩
    exact ⟨by rw [show u = .bool true from hr], hb⟩
end Go.Proofs.YtgfcdkbbkgamnaaDoor
