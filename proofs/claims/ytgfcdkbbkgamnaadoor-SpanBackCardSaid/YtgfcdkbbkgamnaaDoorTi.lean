/-
  Layer 14: ranges as the document's; what lies in them, by definition; what is picked.
-/
import Derived.Test.YtgfcdkbbkgamnaaDoorSz
import Derived.Test.YtgfcdkbbkgamnaaDoorTh
namespace Go.Proofs.YtgfcdkbbkgamnaaDoor
open Go Go.RowKit
set_option maxHeartbeats 4000000
set_option linter.unusedSimpArgs false
set_option linter.unusedVariables false
def nilV : AV := .val (.slice none 0 0)
def refsV (l : List Rng) : SV := .c (.one (if l.isEmpty then .val (.slice none 0 0) else .sl 1 0 2 l.length))
def refsO (l : List Rng) : List SObj := if l.isEmpty then [] else [.arr _ rngL l]
def rfInv (l : List Rng) (wa : Bool) (x : PrX) : St := match x.acc.length with
  | 0 => ⟨[(3, .c (.one (.val (.slice none 0 0)))), (6, .c (.one (.sl 0 0 2 l.length))), (7, .c (.one (.num l.length))), (8, .c (.one (.num x.i)))], [(0, ⟨.arr _ rngL l, wa⟩)]⟩
  | j + 1 => ⟨[(3, .c (.one (.sl 500 0 2 (j + 1)))), (6, .c (.one (.sl 0 0 2 l.length))), (7, .c (.one (.num l.length))), (8, .c (.one (.num x.i)))], [(0, ⟨.arr _ rngL l, wa⟩), (500, ⟨.arr _ rngL x.acc, true⟩)]⟩
def rfOk (l : List Rng) (x : PrX) : Prop := x.i ≤ l.length ∧ x.acc = l.take x.i
theorem rfOk_add {l : List Rng} {x : PrX} (h : rfOk l x) (hi : x.i < l.length) : rfOk l ⟨x.i + 1, x.acc ++ [l.getD x.i (0, 0)]⟩ := by
  obtain ⟨h1, h2⟩ := h
  refine ⟨hi, ?_⟩
  show x.acc ++ _ = l.take (x.i + 1)
  rw [h2, List.take_add_one, List.getD_eq_getElem?_getD, List.getElem?_eq_getElem hi]
  rfl
def qt7 : Nat → Option Con := fun f => match f with
  | _ => none
theorem qt7_ok : GaOkG Tryd.prog GL qt7 := fun f con h => by
  unfold qt7 at h
  split at h
  · cases h
set_option maxRecDepth 100000 in
theorem refs_tri (l : List Rng) (wa : Bool) (hl : l.length ≤ 1048576) : TriG Tryd.prog GL 23 [.one (.sl 0 0 2 l.length)] [(0, ⟨.arr _ rngL l, wa⟩)] (refsV l) ((0, ⟨.arr _ rngL l, wa⟩) :: hpN 1 (refsO l)) := by
  refine tri_ofx (envLK_ok qt7_ok 18 [0]) Tryd.func23 rfl rfl (rs := [.tmp 2]) rfl rfl (by simp [envLK]) rfl ?_
  simp only [envLK, con0, conS, strsOf_arr, rowS_arr, strsOf_cells, rowS_cells, toS, strL_st, strL_d, strL_enc, strL_up, hpN_nil, hpN_cons, qt7, go_sem, reduceCtorEq, ↓reduceIte, Nat.reduceAdd, Nat.reduceMul, Nat.reduceSub, Nat.reduceEqDiff, Nat.reduceLT, Nat.reduceBEq, Nat.reduceBNe, Nat.reduceLeDiff, Int.reduceLE, Int.reduceLT, Int.reduceToNat, Int.reduceEq, Int.reduceAdd, UInt8.reduceToNat, UInt32.reduceToNat, UInt64.reduceToNat, UInt8.reduceOfNat, UInt32.reduceOfNat, UInt64.reduceOfNat, Fin.isValue, Int.reduceSub, Int.reduceMul, Int.reduceNeg, Int.reduceMod, Int.reduceDiv, Int.reduceTDiv, Int.reduceTMod, Int.reduceBEq, Int.reduceBNe, Nat.reduceDiv, Nat.reducePow]
  refine loop_inv (envLK_ok qt7_ok 18 [0]) (rfInv l wa) (rfOk l) (fun x => l.length - x.i) ⟨0, []⟩ [] ⟨Nat.zero_le _, rfl⟩ ?_ ?_
  · simp only [rfInv, go_sem, reduceCtorEq, ↓reduceIte, Nat.reduceAdd, Nat.reduceMul, Nat.reduceSub, Nat.reduceEqDiff, Nat.reduceLT, Nat.reduceBEq, Nat.reduceBNe, Nat.reduceLeDiff, Int.reduceLE, Int.reduceLT, Int.reduceToNat, Int.reduceEq, Int.reduceAdd, UInt8.reduceToNat, UInt32.reduceToNat, UInt64.reduceToNat, UInt8.reduceOfNat, UInt32.reduceOfNat, UInt64.reduceOfNat, Fin.isValue, Int.reduceSub, Int.reduceMul, Int.reduceNeg, Int.reduceMod, Int.reduceDiv, Int.reduceTDiv, Int.reduceTMod, Int.reduceBEq, Int.reduceBNe, Nat.reduceDiv, Nat.reducePow]
    all_goals ((repeat' apply And.intro) <;> first | omega | exact rfl | exact id)
  · intro x hx
    obtain ⟨i, acc⟩ := x
    have hi := hx.1
    have hal : acc.length = i := by have h1 := hx.1; have h2 := hx.2; simp only at h1 h2; rw [h2, List.length_take]; omega
    simp only at hi hal
    have hw : IntKind.i64.wrap ((i : Int) + 1) = ((i + 1 : Nat) : Int) := by rw [IntKind.wrap_i64]; omega
    generalize hj : acc.length = j at hal
    rcases j with _ | j
    · obtain rfl := List.eq_nil_of_length_eq_zero hj
      simp only [envLK, con0, conS, strsOf_arr, rowS_arr, strsOf_cells, rowS_cells, toS, strL_st, strL_d, strL_enc, strL_up, hpN_nil, hpN_cons, qt7, rfInv, hw, hj, go_sem, reduceCtorEq, ↓reduceIte, Nat.reduceAdd, Nat.reduceMul, Nat.reduceSub, Nat.reduceEqDiff, Nat.reduceLT, Nat.reduceBEq, Nat.reduceBNe, Nat.reduceLeDiff, Int.reduceLE, Int.reduceLT, Int.reduceToNat, Int.reduceEq, Int.reduceAdd, UInt8.reduceToNat, UInt32.reduceToNat, UInt64.reduceToNat, UInt8.reduceOfNat, UInt32.reduceOfNat, UInt64.reduceOfNat, Fin.isValue, Int.reduceSub, Int.reduceMul, Int.reduceNeg, Int.reduceMod, Int.reduceDiv, Int.reduceTDiv, Int.reduceTMod, Int.reduceBEq, Int.reduceBNe, Nat.reduceDiv, Nat.reducePow]
      refine br (fun h => ?_) fun h => ?_
      · have hlt : i < l.length := by have := of_decide_eq_true h; omega
        have hnx := rfOk_add hx hlt
        simp only at hnx
        simp only [envLK, con0, conS, strsOf_arr, rowS_arr, strsOf_cells, rowS_cells, toS, strL_st, strL_d, strL_enc, strL_up, hpN_nil, hpN_cons, qt7, h, hw, hj, rngL_st, rngL_d, rngL_enc, rngL_up, go_sem, reduceCtorEq, ↓reduceIte, Nat.reduceAdd, Nat.reduceMul, Nat.reduceSub, Nat.reduceEqDiff, Nat.reduceLT, Nat.reduceBEq, Nat.reduceBNe, Nat.reduceLeDiff, Int.reduceLE, Int.reduceLT, Int.reduceToNat, Int.reduceEq, Int.reduceAdd, UInt8.reduceToNat, UInt32.reduceToNat, UInt64.reduceToNat, UInt8.reduceOfNat, UInt32.reduceOfNat, UInt64.reduceOfNat, Fin.isValue, Int.reduceSub, Int.reduceMul, Int.reduceNeg, Int.reduceMod, Int.reduceDiv, Int.reduceTDiv, Int.reduceTMod, Int.reduceBEq, Int.reduceBNe, Nat.reduceDiv, Nat.reducePow]
        repeat' apply And.intro
        rotate_right
        · refine again ⟨i + 1, [] ++ [l.getD i (0, 0)]⟩ [(500, 60024)] hnx (by simp only; omega) ?_
          simp only [rfInv, List.length_append, hj, rngL_st, rngL_d, rngL_enc, rngL_up, envLK, con0, conS, strsOf_arr, rowS_arr, strsOf_cells, rowS_cells, toS, strL_st, strL_d, strL_enc, strL_up, hpN_nil, hpN_cons, qt7, go_sem, reduceCtorEq, ↓reduceIte, Nat.reduceAdd, Nat.reduceMul, Nat.reduceSub, Nat.reduceEqDiff, Nat.reduceLT, Nat.reduceBEq, Nat.reduceBNe, Nat.reduceLeDiff, Int.reduceLE, Int.reduceLT, Int.reduceToNat, Int.reduceEq, Int.reduceAdd, UInt8.reduceToNat, UInt32.reduceToNat, UInt64.reduceToNat, UInt8.reduceOfNat, UInt32.reduceOfNat, UInt64.reduceOfNat, Fin.isValue, Int.reduceSub, Int.reduceMul, Int.reduceNeg, Int.reduceMod, Int.reduceDiv, Int.reduceTDiv, Int.reduceTMod, Int.reduceBEq, Int.reduceBNe, Nat.reduceDiv, Nat.reducePow]
          all_goals ((repeat' apply And.intro) <;> first | omega | exact rfl | exact id)
        all_goals first | omega | exact rfl | exact id
      · have hge : l.length ≤ i := by have := of_decide_eq_false h; omega
        have hle : l = [] := List.eq_nil_of_length_eq_zero (by omega)
        have e1 : refsV l = .c (.one (.val (.slice none 0 0))) := by unfold refsV; rw [hle]; rfl
        have e2 : refsO l = [] := by unfold refsO; rw [hle]; rfl
        simp only [envLK, con0, conS, strsOf_arr, rowS_arr, strsOf_cells, rowS_cells, toS, strL_st, strL_d, strL_enc, strL_up, hpN_nil, hpN_cons, qt7, h, hj, e1, e2, go_sem, reduceCtorEq, ↓reduceIte, Nat.reduceAdd, Nat.reduceMul, Nat.reduceSub, Nat.reduceEqDiff, Nat.reduceLT, Nat.reduceBEq, Nat.reduceBNe, Nat.reduceLeDiff, Int.reduceLE, Int.reduceLT, Int.reduceToNat, Int.reduceEq, Int.reduceAdd, UInt8.reduceToNat, UInt32.reduceToNat, UInt64.reduceToNat, UInt8.reduceOfNat, UInt32.reduceOfNat, UInt64.reduceOfNat, Fin.isValue, Int.reduceSub, Int.reduceMul, Int.reduceNeg, Int.reduceMod, Int.reduceDiv, Int.reduceTDiv, Int.reduceTMod, Int.reduceBEq, Int.reduceBNe, Nat.reduceDiv, Nat.reducePow]
        refine endX [] ?_
        simp only [envLK, con0, conS, strsOf_arr, rowS_arr, strsOf_cells, rowS_cells, toS, strL_st, strL_d, strL_enc, strL_up, hpN_nil, hpN_cons, qt7, e1, e2, go_sem, reduceCtorEq, ↓reduceIte, Nat.reduceAdd, Nat.reduceMul, Nat.reduceSub, Nat.reduceEqDiff, Nat.reduceLT, Nat.reduceBEq, Nat.reduceBNe, Nat.reduceLeDiff, Int.reduceLE, Int.reduceLT, Int.reduceToNat, Int.reduceEq, Int.reduceAdd, UInt8.reduceToNat, UInt32.reduceToNat, UInt64.reduceToNat, UInt8.reduceOfNat, UInt32.reduceOfNat, UInt64.reduceOfNat, Fin.isValue, Int.reduceSub, Int.reduceMul, Int.reduceNeg, Int.reduceMod, Int.reduceDiv, Int.reduceTDiv, Int.reduceTMod, Int.reduceBEq, Int.reduceBNe, Nat.reduceDiv, Nat.reducePow]
        all_goals ((repeat' apply And.intro) <;> first | omega | exact rfl | exact id)
    · simp only [envLK, con0, conS, strsOf_arr, rowS_arr, strsOf_cells, rowS_cells, toS, strL_st, strL_d, strL_enc, strL_up, hpN_nil, hpN_cons, qt7, rfInv, hw, hj, go_sem, reduceCtorEq, ↓reduceIte, Nat.reduceAdd, Nat.reduceMul, Nat.reduceSub, Nat.reduceEqDiff, Nat.reduceLT, Nat.reduceBEq, Nat.reduceBNe, Nat.reduceLeDiff, Int.reduceLE, Int.reduceLT, Int.reduceToNat, Int.reduceEq, Int.reduceAdd, UInt8.reduceToNat, UInt32.reduceToNat, UInt64.reduceToNat, UInt8.reduceOfNat, UInt32.reduceOfNat, UInt64.reduceOfNat, Fin.isValue, Int.reduceSub, Int.reduceMul, Int.reduceNeg, Int.reduceMod, Int.reduceDiv, Int.reduceTDiv, Int.reduceTMod, Int.reduceBEq, Int.reduceBNe, Nat.reduceDiv, Nat.reducePow]
      refine br (fun h => ?_) fun h => ?_
      · have hlt : i < l.length := by have := of_decide_eq_true h; omega
        have hnx := rfOk_add hx hlt
        simp only at hnx
        simp only [envLK, con0, conS, strsOf_arr, rowS_arr, strsOf_cells, rowS_cells, toS, strL_st, strL_d, strL_enc, strL_up, hpN_nil, hpN_cons, qt7, h, hw, hj, rngL_st, rngL_d, rngL_enc, rngL_up, go_sem, reduceCtorEq, ↓reduceIte, Nat.reduceAdd, Nat.reduceMul, Nat.reduceSub, Nat.reduceEqDiff, Nat.reduceLT, Nat.reduceBEq, Nat.reduceBNe, Nat.reduceLeDiff, Int.reduceLE, Int.reduceLT, Int.reduceToNat, Int.reduceEq, Int.reduceAdd, UInt8.reduceToNat, UInt32.reduceToNat, UInt64.reduceToNat, UInt8.reduceOfNat, UInt32.reduceOfNat, UInt64.reduceOfNat, Fin.isValue, Int.reduceSub, Int.reduceMul, Int.reduceNeg, Int.reduceMod, Int.reduceDiv, Int.reduceTDiv, Int.reduceTMod, Int.reduceBEq, Int.reduceBNe, Nat.reduceDiv, Nat.reducePow]
        repeat' apply And.intro
        rotate_right
        · refine again ⟨i + 1, acc ++ [l.getD i (0, 0)]⟩ [(500, 60024)] hnx (by simp only; omega) ?_
          simp only [rfInv, List.length_append, hj, rngL_st, rngL_d, rngL_enc, rngL_up, envLK, con0, conS, strsOf_arr, rowS_arr, strsOf_cells, rowS_cells, toS, strL_st, strL_d, strL_enc, strL_up, hpN_nil, hpN_cons, qt7, go_sem, reduceCtorEq, ↓reduceIte, Nat.reduceAdd, Nat.reduceMul, Nat.reduceSub, Nat.reduceEqDiff, Nat.reduceLT, Nat.reduceBEq, Nat.reduceBNe, Nat.reduceLeDiff, Int.reduceLE, Int.reduceLT, Int.reduceToNat, Int.reduceEq, Int.reduceAdd, UInt8.reduceToNat, UInt32.reduceToNat, UInt64.reduceToNat, UInt8.reduceOfNat, UInt32.reduceOfNat, UInt64.reduceOfNat, Fin.isValue, Int.reduceSub, Int.reduceMul, Int.reduceNeg, Int.reduceMod, Int.reduceDiv, Int.reduceTDiv, Int.reduceTMod, Int.reduceBEq, Int.reduceBNe, Nat.reduceDiv, Nat.reducePow]
          all_goals ((repeat' apply And.intro) <;> first | omega | exact rfl | exact id)
        all_goals first | omega | exact rfl | exact id
      · have hge : l.length ≤ i := by have := of_decide_eq_false h; omega
        have hac : acc = l := by have := hx.2; simp only at this; rw [this]; exact List.take_of_length_le hge
        have hjl : l.length = j + 1 := by rw [← hac]; exact hj
        have hne : l.isEmpty = false := by cases l with | nil => simp at hjl | cons _ _ => rfl
        have e1 : refsV l = .c (.one (.sl 1 0 2 (j + 1))) := by unfold refsV; rw [hne, hjl]; rfl
        have e2 : refsO l = [.arr _ rngL l] := by unfold refsO; rw [hne]; rfl
        subst hac
        simp only [envLK, con0, conS, strsOf_arr, rowS_arr, strsOf_cells, rowS_cells, toS, strL_st, strL_d, strL_enc, strL_up, hpN_nil, hpN_cons, qt7, h, hj, e1, e2, go_sem, reduceCtorEq, ↓reduceIte, Nat.reduceAdd, Nat.reduceMul, Nat.reduceSub, Nat.reduceEqDiff, Nat.reduceLT, Nat.reduceBEq, Nat.reduceBNe, Nat.reduceLeDiff, Int.reduceLE, Int.reduceLT, Int.reduceToNat, Int.reduceEq, Int.reduceAdd, UInt8.reduceToNat, UInt32.reduceToNat, UInt64.reduceToNat, UInt8.reduceOfNat, UInt32.reduceOfNat, UInt64.reduceOfNat, Fin.isValue, Int.reduceSub, Int.reduceMul, Int.reduceNeg, Int.reduceMod, Int.reduceDiv, Int.reduceTDiv, Int.reduceTMod, Int.reduceBEq, Int.reduceBNe, Nat.reduceDiv, Nat.reducePow]
        refine endX [(1, 500)] ?_
        simp only [envLK, con0, conS, strsOf_arr, rowS_arr, strsOf_cells, rowS_cells, toS, strL_st, strL_d, strL_enc, strL_up, hpN_nil, hpN_cons, qt7, hj, e1, e2, go_sem, reduceCtorEq, ↓reduceIte, Nat.reduceAdd, Nat.reduceMul, Nat.reduceSub, Nat.reduceEqDiff, Nat.reduceLT, Nat.reduceBEq, Nat.reduceBNe, Nat.reduceLeDiff, Int.reduceLE, Int.reduceLT, Int.reduceToNat, Int.reduceEq, Int.reduceAdd, UInt8.reduceToNat, UInt32.reduceToNat, UInt64.reduceToNat, UInt8.reduceOfNat, UInt32.reduceOfNat, UInt64.reduceOfNat, Fin.isValue, Int.reduceSub, Int.reduceMul, Int.reduceNeg, Int.reduceMod, Int.reduceDiv, Int.reduceTDiv, Int.reduceTMod, Int.reduceBEq, Int.reduceBNe, Nat.reduceDiv, Nat.reducePow]
        all_goals ((repeat' apply And.intro) <;> first | omega | exact rfl | exact id)
def refsQF : List CV → List SObj → Option (SV × List SObj × List Prop)
  | [.one (.sl 0 0 2 k)], [o] => some (refsV (pairsOf o), refsO (pairsOf o), [k = (pairsOf o).length, rowP o, (pairsOf o).length ≤ 1048576])
  | _, _ => none
def refsQC : Con := conQ refsQF
theorem refsQC_ok : ConOkG Tryd.prog GL 23 refsQC := conQ_ok Tryd.func23 rfl rfl fun args es v nw ob h hob => by
  unfold refsQF at h
  split at h
  · rename_i k o heq
    match es, heq with
    | [e], heq =>
      simp only [List.map_cons, List.map_nil, List.cons.injEq, and_true] at heq
      subst heq
      simp only [Option.some.injEq, Prod.mk.injEq] at h
      obtain ⟨rfl, rfl, rfl⟩ := h
      obtain ⟨rfl, h2, h3, _⟩ := hob
      exact (refs_tri _ e.wr h3).sim (.cons (simE_rowP h2) .nil) (.cons (simE_rowP h2) (.refl _))
  · cases h
/-- What is picked. -/
theorem intL_up (x y : Int) : intL.up x 0 [.num y] = some y := rfl
def lastI (ns : List Int) : Int := ns.getD (ns.length - 1) 0
def pickL (l : List Rng) (ns : List Int) : List Int := ns.filter fun k => hasF l k (lastI ns)
def pickV (p : List Int) : SV := .c (.one (if p.isEmpty then .val (.slice none 0 0) else .sl 2 0 1 p.length))
def pickO (p : List Int) : List SObj := if p.isEmpty then [] else [.arr _ intL p]
structure PkX where
  i : Nat
  acc : List Int
def pkInv (l : List Rng) (ns : List Int) (wa wb : Bool) (x : PkX) : St := match x.acc.length with
  | 0 => ⟨[(0, .c (.one (.sl 0 0 2 l.length))), (5, .c (.one (.num (lastI ns)))), (6, .c (.one (.val (.slice none 0 0)))), (18, .c (.one (.sl 1 0 1 ns.length))), (19, .c (.one (.num ns.length))), (20, .c (.one (.num x.i)))], [(0, ⟨.arr _ rngL l, wa⟩), (1, ⟨.arr _ intL ns, wb⟩)]⟩
  | j + 1 => ⟨[(0, .c (.one (.sl 0 0 2 l.length))), (5, .c (.one (.num (lastI ns)))), (6, .c (.one (.sl 500 0 1 (j + 1)))), (18, .c (.one (.sl 1 0 1 ns.length))), (19, .c (.one (.num ns.length))), (20, .c (.one (.num x.i)))], [(0, ⟨.arr _ rngL l, wa⟩), (1, ⟨.arr _ intL ns, wb⟩), (500, ⟨.arr _ intL x.acc, true⟩)]⟩
def pkOk (l : List Rng) (ns : List Int) (x : PkX) : Prop := x.i ≤ ns.length ∧ x.acc.length ≤ x.i ∧ x.acc ++ (ns.drop x.i).filter (fun k => hasF l k (lastI ns)) = pickL l ns
theorem pk_drop {ns : List Int} {i : Nat} (h : i < ns.length) : ns.drop i = ns.getD i 0 :: ns.drop (i + 1) := by
  rw [List.drop_eq_getElem_cons h, List.getD_eq_getElem?_getD, List.getElem?_eq_getElem h]; rfl
theorem pkOk_yes {l : List Rng} {ns : List Int} {x : PkX} (h : pkOk l ns x) (hi : x.i < ns.length) (hh : hasF l (ns.getD x.i 0) (lastI ns) = true) : pkOk l ns ⟨x.i + 1, x.acc ++ [ns.getD x.i 0]⟩ := by
  obtain ⟨h1, h2, h3⟩ := h
  rw [pk_drop hi, List.filter_cons_of_pos (p := fun k => hasF l k (lastI ns)) hh] at h3
  exact ⟨hi, by simp; omega, by simpa using h3⟩
theorem pkOk_no {l : List Rng} {ns : List Int} {x : PkX} (h : pkOk l ns x) (hi : x.i < ns.length) (hh : hasF l (ns.getD x.i 0) (lastI ns) = false) : pkOk l ns ⟨x.i + 1, x.acc⟩ := by
  obtain ⟨h1, h2, h3⟩ := h
  rw [pk_drop hi, List.filter_cons_of_neg (p := fun k => hasF l k (lastI ns)) (by rw [hh]; decide)] at h3
  exact ⟨hi, by simp; omega, h3⟩
theorem pkOk_end {l : List Rng} {ns : List Int} {x : PkX} (h : pkOk l ns x) (hi : ns.length ≤ x.i) : pickL l ns = x.acc := by
  obtain ⟨h1, h2, h3⟩ := h
  rw [List.drop_eq_nil_of_le hi] at h3
  simpa using h3.symm
def qt8 : Nat → Option Con := fun f => match f with
  | 24 => some hasQC
  | _ => none
theorem qt8_ok : GaOkG Tryd.prog GL qt8 := fun f con h => by
  unfold qt8 at h
  split at h
  · injection h with h; subst h; exact hasQC_ok
  · cases h
set_option maxRecDepth 100000 in
theorem pick_tri (l : List Rng) (ns : List Int) (wa wb : Bool) (hl : l.length ≤ 1048576) (hn : ns.length ≤ 1048576) : TriG Tryd.prog GL 26 [.one (.sl 0 0 2 l.length), .one (.sl 1 0 1 ns.length)] [(0, ⟨.arr _ rngL l, wa⟩), (1, ⟨.arr _ intL ns, wb⟩)] (pickV (pickL l ns)) ((0, ⟨.arr _ rngL l, wa⟩) :: (1, ⟨.arr _ intL ns, wb⟩) :: hpN 2 (pickO (pickL l ns))) := by
  refine tri_ofx (envLK_ok qt8_ok 34 [0, 1]) Tryd.func26 rfl rfl (rs := [.tmp 4]) rfl rfl (by simp [envLK]) rfl ?_
  cases h0 : ((ns.length : Int) == 0) with
  | true =>
    have hns : ns = [] := List.eq_nil_of_length_eq_zero (by have := eq_of_beq h0; omega)
    have e1 : pickV (pickL l ns) = .c (.one (.val (.slice none 0 0))) := by rw [hns]; rfl
    have e2 : pickO (pickL l ns) = [] := by rw [hns]; rfl
    simp only [envLK, con0, conS, strsOf_arr, rowS_arr, strsOf_cells, rowS_cells, toS, strL_st, strL_d, strL_enc, strL_up, hpN_nil, hpN_cons, qt8, hasQC, h0, e1, e2, go_sem, reduceCtorEq, ↓reduceIte, Nat.reduceAdd, Nat.reduceMul, Nat.reduceSub, Nat.reduceEqDiff, Nat.reduceLT, Nat.reduceBEq, Nat.reduceBNe, Nat.reduceLeDiff, Int.reduceLE, Int.reduceLT, Int.reduceToNat, Int.reduceEq, Int.reduceAdd, UInt8.reduceToNat, UInt32.reduceToNat, UInt64.reduceToNat, UInt8.reduceOfNat, UInt32.reduceOfNat, UInt64.reduceOfNat, Fin.isValue, Int.reduceSub, Int.reduceMul, Int.reduceNeg, Int.reduceMod, Int.reduceDiv, Int.reduceTDiv, Int.reduceTMod, Int.reduceBEq, Int.reduceBNe, Nat.reduceDiv, Nat.reducePow]
    refine endX [] ?_
    simp only [envLK, con0, conS, strsOf_arr, rowS_arr, strsOf_cells, rowS_cells, toS, strL_st, strL_d, strL_enc, strL_up, hpN_nil, hpN_cons, qt8, hasQC, e1, e2, go_sem, reduceCtorEq, ↓reduceIte, Nat.reduceAdd, Nat.reduceMul, Nat.reduceSub, Nat.reduceEqDiff, Nat.reduceLT, Nat.reduceBEq, Nat.reduceBNe, Nat.reduceLeDiff, Int.reduceLE, Int.reduceLT, Int.reduceToNat, Int.reduceEq, Int.reduceAdd, UInt8.reduceToNat, UInt32.reduceToNat, UInt64.reduceToNat, UInt8.reduceOfNat, UInt32.reduceOfNat, UInt64.reduceOfNat, Fin.isValue, Int.reduceSub, Int.reduceMul, Int.reduceNeg, Int.reduceMod, Int.reduceDiv, Int.reduceTDiv, Int.reduceTMod, Int.reduceBEq, Int.reduceBNe, Nat.reduceDiv, Nat.reducePow]
    all_goals ((repeat' apply And.intro) <;> first | omega | exact rfl | exact id)
  | false =>
    have hpos : 0 < ns.length := by
      rcases Nat.eq_zero_or_pos ns.length with h | h
      · rw [h] at h0; cases h0
      · exact h
    have w1 : IntKind.i64.wrap ((ns.length : Int) - 1) = ((ns.length - 1 : Nat) : Int) := by rw [IntKind.wrap_i64]; omega
    have eL : ns.getD (ns.length - 1) 0 = lastI ns := rfl
    simp only [envLK, con0, conS, strsOf_arr, rowS_arr, strsOf_cells, rowS_cells, toS, strL_st, strL_d, strL_enc, strL_up, hpN_nil, hpN_cons, qt8, hasQC, h0, w1, eL, intL_st, intL_d, intL_enc, go_sem, reduceCtorEq, ↓reduceIte, Nat.reduceAdd, Nat.reduceMul, Nat.reduceSub, Nat.reduceEqDiff, Nat.reduceLT, Nat.reduceBEq, Nat.reduceBNe, Nat.reduceLeDiff, Int.reduceLE, Int.reduceLT, Int.reduceToNat, Int.reduceEq, Int.reduceAdd, UInt8.reduceToNat, UInt32.reduceToNat, UInt64.reduceToNat, UInt8.reduceOfNat, UInt32.reduceOfNat, UInt64.reduceOfNat, Fin.isValue, Int.reduceSub, Int.reduceMul, Int.reduceNeg, Int.reduceMod, Int.reduceDiv, Int.reduceTDiv, Int.reduceTMod, Int.reduceBEq, Int.reduceBNe, Nat.reduceDiv, Nat.reducePow]
    (repeat' apply And.intro)
    rotate_right
    · refine loop_inv (envLK_ok qt8_ok 34 [0, 1]) (pkInv l ns wa wb) (pkOk l ns) (fun x => ns.length - x.i) ⟨0, []⟩ [] ⟨Nat.zero_le _, Nat.le_refl _, rfl⟩ ?_ ?_
      · simp only [pkInv, go_sem, reduceCtorEq, ↓reduceIte, Nat.reduceAdd, Nat.reduceMul, Nat.reduceSub, Nat.reduceEqDiff, Nat.reduceLT, Nat.reduceBEq, Nat.reduceBNe, Nat.reduceLeDiff, Int.reduceLE, Int.reduceLT, Int.reduceToNat, Int.reduceEq, Int.reduceAdd, UInt8.reduceToNat, UInt32.reduceToNat, UInt64.reduceToNat, UInt8.reduceOfNat, UInt32.reduceOfNat, UInt64.reduceOfNat, Fin.isValue, Int.reduceSub, Int.reduceMul, Int.reduceNeg, Int.reduceMod, Int.reduceDiv, Int.reduceTDiv, Int.reduceTMod, Int.reduceBEq, Int.reduceBNe, Nat.reduceDiv, Nat.reducePow]
        all_goals ((repeat' apply And.intro) <;> first | omega | exact rfl | exact id)
      · intro x hx
        obtain ⟨i, acc⟩ := x
        have hi := hx.1
        have hal := hx.2.1
        simp only at hi hal
        have hw : IntKind.i64.wrap ((i : Int) + 1) = ((i + 1 : Nat) : Int) := by rw [IntKind.wrap_i64]; omega
        generalize hj : acc.length = j at hal
        rcases j with _ | j
        · obtain rfl := List.eq_nil_of_length_eq_zero hj
          simp only [envLK, con0, conS, strsOf_arr, rowS_arr, strsOf_cells, rowS_cells, toS, strL_st, strL_d, strL_enc, strL_up, hpN_nil, hpN_cons, qt8, hasQC, pkInv, hw, hj, go_sem, reduceCtorEq, ↓reduceIte, Nat.reduceAdd, Nat.reduceMul, Nat.reduceSub, Nat.reduceEqDiff, Nat.reduceLT, Nat.reduceBEq, Nat.reduceBNe, Nat.reduceLeDiff, Int.reduceLE, Int.reduceLT, Int.reduceToNat, Int.reduceEq, Int.reduceAdd, UInt8.reduceToNat, UInt32.reduceToNat, UInt64.reduceToNat, UInt8.reduceOfNat, UInt32.reduceOfNat, UInt64.reduceOfNat, Fin.isValue, Int.reduceSub, Int.reduceMul, Int.reduceNeg, Int.reduceMod, Int.reduceDiv, Int.reduceTDiv, Int.reduceTMod, Int.reduceBEq, Int.reduceBNe, Nat.reduceDiv, Nat.reducePow]
          refine br (fun h => ?_) fun h => ?_
          · have hlt : i < ns.length := by have := of_decide_eq_true h; omega
            cases h1 : hasF l (ns.getD i 0) (lastI ns) with
            | false =>
              have hnx := pkOk_no hx hlt h1
              simp only at hnx
              simp only [envLK, con0, conS, strsOf_arr, rowS_arr, strsOf_cells, rowS_cells, toS, strL_st, strL_d, strL_enc, strL_up, hpN_nil, hpN_cons, qt8, hasQC, conQ, hasQF, pairsOf_arr, rowP_arr, h, h1, hw, hj, intL_st, intL_d, intL_enc, intL_up, go_sem, reduceCtorEq, ↓reduceIte, Nat.reduceAdd, Nat.reduceMul, Nat.reduceSub, Nat.reduceEqDiff, Nat.reduceLT, Nat.reduceBEq, Nat.reduceBNe, Nat.reduceLeDiff, Int.reduceLE, Int.reduceLT, Int.reduceToNat, Int.reduceEq, Int.reduceAdd, UInt8.reduceToNat, UInt32.reduceToNat, UInt64.reduceToNat, UInt8.reduceOfNat, UInt32.reduceOfNat, UInt64.reduceOfNat, Fin.isValue, Int.reduceSub, Int.reduceMul, Int.reduceNeg, Int.reduceMod, Int.reduceDiv, Int.reduceTDiv, Int.reduceTMod, Int.reduceBEq, Int.reduceBNe, Nat.reduceDiv, Nat.reducePow]
              (repeat' apply And.intro)
              rotate_right
              · refine again ⟨i + 1, []⟩ [] hnx (by simp only; omega) ?_
                simp only [pkInv, hj, intL_st, intL_d, intL_enc, intL_up, envLK, con0, conS, strsOf_arr, rowS_arr, strsOf_cells, rowS_cells, toS, strL_st, strL_d, strL_enc, strL_up, hpN_nil, hpN_cons, qt8, hasQC, go_sem, reduceCtorEq, ↓reduceIte, Nat.reduceAdd, Nat.reduceMul, Nat.reduceSub, Nat.reduceEqDiff, Nat.reduceLT, Nat.reduceBEq, Nat.reduceBNe, Nat.reduceLeDiff, Int.reduceLE, Int.reduceLT, Int.reduceToNat, Int.reduceEq, Int.reduceAdd, UInt8.reduceToNat, UInt32.reduceToNat, UInt64.reduceToNat, UInt8.reduceOfNat, UInt32.reduceOfNat, UInt64.reduceOfNat, Fin.isValue, Int.reduceSub, Int.reduceMul, Int.reduceNeg, Int.reduceMod, Int.reduceDiv, Int.reduceTDiv, Int.reduceTMod, Int.reduceBEq, Int.reduceBNe, Nat.reduceDiv, Nat.reducePow]
                all_goals ((repeat' apply And.intro) <;> first | omega | exact rfl | exact id)
              all_goals first | omega | exact rfl | exact id | trivial
            | true =>
              have hnx := pkOk_yes hx hlt h1
              simp only at hnx
              simp only [envLK, con0, conS, strsOf_arr, rowS_arr, strsOf_cells, rowS_cells, toS, strL_st, strL_d, strL_enc, strL_up, hpN_nil, hpN_cons, qt8, hasQC, conQ, hasQF, pairsOf_arr, rowP_arr, h, h1, hw, hj, intL_st, intL_d, intL_enc, intL_up, go_sem, reduceCtorEq, ↓reduceIte, Nat.reduceAdd, Nat.reduceMul, Nat.reduceSub, Nat.reduceEqDiff, Nat.reduceLT, Nat.reduceBEq, Nat.reduceBNe, Nat.reduceLeDiff, Int.reduceLE, Int.reduceLT, Int.reduceToNat, Int.reduceEq, Int.reduceAdd, UInt8.reduceToNat, UInt32.reduceToNat, UInt64.reduceToNat, UInt8.reduceOfNat, UInt32.reduceOfNat, UInt64.reduceOfNat, Fin.isValue, Int.reduceSub, Int.reduceMul, Int.reduceNeg, Int.reduceMod, Int.reduceDiv, Int.reduceTDiv, Int.reduceTMod, Int.reduceBEq, Int.reduceBNe, Nat.reduceDiv, Nat.reducePow]
              (repeat' apply And.intro)
              rotate_right
              · refine again ⟨i + 1, [] ++ [ns.getD i 0]⟩ [(500, 100024)] hnx (by simp only; omega) ?_
                simp only [pkInv, List.length_append, hj, intL_st, intL_d, intL_enc, intL_up, envLK, con0, conS, strsOf_arr, rowS_arr, strsOf_cells, rowS_cells, toS, strL_st, strL_d, strL_enc, strL_up, hpN_nil, hpN_cons, qt8, hasQC, go_sem, reduceCtorEq, ↓reduceIte, Nat.reduceAdd, Nat.reduceMul, Nat.reduceSub, Nat.reduceEqDiff, Nat.reduceLT, Nat.reduceBEq, Nat.reduceBNe, Nat.reduceLeDiff, Int.reduceLE, Int.reduceLT, Int.reduceToNat, Int.reduceEq, Int.reduceAdd, UInt8.reduceToNat, UInt32.reduceToNat, UInt64.reduceToNat, UInt8.reduceOfNat, UInt32.reduceOfNat, UInt64.reduceOfNat, Fin.isValue, Int.reduceSub, Int.reduceMul, Int.reduceNeg, Int.reduceMod, Int.reduceDiv, Int.reduceTDiv, Int.reduceTMod, Int.reduceBEq, Int.reduceBNe, Nat.reduceDiv, Nat.reducePow]
                all_goals ((repeat' apply And.intro) <;> first | omega | exact rfl | exact id)
              all_goals first | omega | exact rfl | exact id | trivial
          · have hge : ns.length ≤ i := by have := of_decide_eq_false h; omega
            have he := pkOk_end hx hge
            simp only at he
            have e1 : pickV (pickL l ns) = .c (.one (.val (.slice none 0 0))) := by rw [he]; rfl
            have e2 : pickO (pickL l ns) = [] := by rw [he]; rfl
            simp only [envLK, con0, conS, strsOf_arr, rowS_arr, strsOf_cells, rowS_cells, toS, strL_st, strL_d, strL_enc, strL_up, hpN_nil, hpN_cons, qt8, hasQC, h, hj, e1, e2, go_sem, reduceCtorEq, ↓reduceIte, Nat.reduceAdd, Nat.reduceMul, Nat.reduceSub, Nat.reduceEqDiff, Nat.reduceLT, Nat.reduceBEq, Nat.reduceBNe, Nat.reduceLeDiff, Int.reduceLE, Int.reduceLT, Int.reduceToNat, Int.reduceEq, Int.reduceAdd, UInt8.reduceToNat, UInt32.reduceToNat, UInt64.reduceToNat, UInt8.reduceOfNat, UInt32.reduceOfNat, UInt64.reduceOfNat, Fin.isValue, Int.reduceSub, Int.reduceMul, Int.reduceNeg, Int.reduceMod, Int.reduceDiv, Int.reduceTDiv, Int.reduceTMod, Int.reduceBEq, Int.reduceBNe, Nat.reduceDiv, Nat.reducePow]
            refine endX [] ?_
            simp only [envLK, con0, conS, strsOf_arr, rowS_arr, strsOf_cells, rowS_cells, toS, strL_st, strL_d, strL_enc, strL_up, hpN_nil, hpN_cons, qt8, hasQC, e1, e2, go_sem, reduceCtorEq, ↓reduceIte, Nat.reduceAdd, Nat.reduceMul, Nat.reduceSub, Nat.reduceEqDiff, Nat.reduceLT, Nat.reduceBEq, Nat.reduceBNe, Nat.reduceLeDiff, Int.reduceLE, Int.reduceLT, Int.reduceToNat, Int.reduceEq, Int.reduceAdd, UInt8.reduceToNat, UInt32.reduceToNat, UInt64.reduceToNat, UInt8.reduceOfNat, UInt32.reduceOfNat, UInt64.reduceOfNat, Fin.isValue, Int.reduceSub, Int.reduceMul, Int.reduceNeg, Int.reduceMod, Int.reduceDiv, Int.reduceTDiv, Int.reduceTMod, Int.reduceBEq, Int.reduceBNe, Nat.reduceDiv, Nat.reducePow]
            all_goals ((repeat' apply And.intro) <;> first | omega | exact rfl | exact id)
        · simp only [envLK, con0, conS, strsOf_arr, rowS_arr, strsOf_cells, rowS_cells, toS, strL_st, strL_d, strL_enc, strL_up, hpN_nil, hpN_cons, qt8, hasQC, pkInv, hw, hj, go_sem, reduceCtorEq, ↓reduceIte, Nat.reduceAdd, Nat.reduceMul, Nat.reduceSub, Nat.reduceEqDiff, Nat.reduceLT, Nat.reduceBEq, Nat.reduceBNe, Nat.reduceLeDiff, Int.reduceLE, Int.reduceLT, Int.reduceToNat, Int.reduceEq, Int.reduceAdd, UInt8.reduceToNat, UInt32.reduceToNat, UInt64.reduceToNat, UInt8.reduceOfNat, UInt32.reduceOfNat, UInt64.reduceOfNat, Fin.isValue, Int.reduceSub, Int.reduceMul, Int.reduceNeg, Int.reduceMod, Int.reduceDiv, Int.reduceTDiv, Int.reduceTMod, Int.reduceBEq, Int.reduceBNe, Nat.reduceDiv, Nat.reducePow]
          refine br (fun h => ?_) fun h => ?_
          · have hlt : i < ns.length := by have := of_decide_eq_true h; omega
            cases h1 : hasF l (ns.getD i 0) (lastI ns) with
            | false =>
              have hnx := pkOk_no hx hlt h1
              simp only at hnx
              simp only [envLK, con0, conS, strsOf_arr, rowS_arr, strsOf_cells, rowS_cells, toS, strL_st, strL_d, strL_enc, strL_up, hpN_nil, hpN_cons, qt8, hasQC, conQ, hasQF, pairsOf_arr, rowP_arr, h, h1, hw, hj, intL_st, intL_d, intL_enc, intL_up, go_sem, reduceCtorEq, ↓reduceIte, Nat.reduceAdd, Nat.reduceMul, Nat.reduceSub, Nat.reduceEqDiff, Nat.reduceLT, Nat.reduceBEq, Nat.reduceBNe, Nat.reduceLeDiff, Int.reduceLE, Int.reduceLT, Int.reduceToNat, Int.reduceEq, Int.reduceAdd, UInt8.reduceToNat, UInt32.reduceToNat, UInt64.reduceToNat, UInt8.reduceOfNat, UInt32.reduceOfNat, UInt64.reduceOfNat, Fin.isValue, Int.reduceSub, Int.reduceMul, Int.reduceNeg, Int.reduceMod, Int.reduceDiv, Int.reduceTDiv, Int.reduceTMod, Int.reduceBEq, Int.reduceBNe, Nat.reduceDiv, Nat.reducePow]
              (repeat' apply And.intro)
              rotate_right
              · refine again ⟨i + 1, acc⟩ [] hnx (by simp only; omega) ?_
                simp only [pkInv, hj, intL_st, intL_d, intL_enc, intL_up, envLK, con0, conS, strsOf_arr, rowS_arr, strsOf_cells, rowS_cells, toS, strL_st, strL_d, strL_enc, strL_up, hpN_nil, hpN_cons, qt8, hasQC, go_sem, reduceCtorEq, ↓reduceIte, Nat.reduceAdd, Nat.reduceMul, Nat.reduceSub, Nat.reduceEqDiff, Nat.reduceLT, Nat.reduceBEq, Nat.reduceBNe, Nat.reduceLeDiff, Int.reduceLE, Int.reduceLT, Int.reduceToNat, Int.reduceEq, Int.reduceAdd, UInt8.reduceToNat, UInt32.reduceToNat, UInt64.reduceToNat, UInt8.reduceOfNat, UInt32.reduceOfNat, UInt64.reduceOfNat, Fin.isValue, Int.reduceSub, Int.reduceMul, Int.reduceNeg, Int.reduceMod, Int.reduceDiv, Int.reduceTDiv, Int.reduceTMod, Int.reduceBEq, Int.reduceBNe, Nat.reduceDiv, Nat.reducePow]
                all_goals ((repeat' apply And.intro) <;> first | omega | exact rfl | exact id)
              all_goals first | omega | exact rfl | exact id | trivial
            | true =>
              have hnx := pkOk_yes hx hlt h1
              simp only at hnx
              simp only [envLK, con0, conS, strsOf_arr, rowS_arr, strsOf_cells, rowS_cells, toS, strL_st, strL_d, strL_enc, strL_up, hpN_nil, hpN_cons, qt8, hasQC, conQ, hasQF, pairsOf_arr, rowP_arr, h, h1, hw, hj, intL_st, intL_d, intL_enc, intL_up, go_sem, reduceCtorEq, ↓reduceIte, Nat.reduceAdd, Nat.reduceMul, Nat.reduceSub, Nat.reduceEqDiff, Nat.reduceLT, Nat.reduceBEq, Nat.reduceBNe, Nat.reduceLeDiff, Int.reduceLE, Int.reduceLT, Int.reduceToNat, Int.reduceEq, Int.reduceAdd, UInt8.reduceToNat, UInt32.reduceToNat, UInt64.reduceToNat, UInt8.reduceOfNat, UInt32.reduceOfNat, UInt64.reduceOfNat, Fin.isValue, Int.reduceSub, Int.reduceMul, Int.reduceNeg, Int.reduceMod, Int.reduceDiv, Int.reduceTDiv, Int.reduceTMod, Int.reduceBEq, Int.reduceBNe, Nat.reduceDiv, Nat.reducePow]
              (repeat' apply And.intro)
              rotate_right
              · refine again ⟨i + 1, acc ++ [ns.getD i 0]⟩ [(500, 100024)] hnx (by simp only; omega) ?_
                simp only [pkInv, List.length_append, hj, intL_st, intL_d, intL_enc, intL_up, envLK, con0, conS, strsOf_arr, rowS_arr, strsOf_cells, rowS_cells, toS, strL_st, strL_d, strL_enc, strL_up, hpN_nil, hpN_cons, qt8, hasQC, go_sem, reduceCtorEq, ↓reduceIte, Nat.reduceAdd, Nat.reduceMul, Nat.reduceSub, Nat.reduceEqDiff, Nat.reduceLT, Nat.reduceBEq, Nat.reduceBNe, Nat.reduceLeDiff, Int.reduceLE, Int.reduceLT, Int.reduceToNat, Int.reduceEq, Int.reduceAdd, UInt8.reduceToNat, UInt32.reduceToNat, UInt64.reduceToNat, UInt8.reduceOfNat, UInt32.reduceOfNat, UInt64.reduceOfNat, Fin.isValue, Int.reduceSub, Int.reduceMul, Int.reduceNeg, Int.reduceMod, Int.reduceDiv, Int.reduceTDiv, Int.reduceTMod, Int.reduceBEq, Int.reduceBNe, Nat.reduceDiv, Nat.reducePow]
                all_goals ((repeat' apply And.intro) <;> first | omega | exact rfl | exact id)
              all_goals first | omega | exact rfl | exact id | trivial
          · have hge : ns.length ≤ i := by have := of_decide_eq_false h; omega
            have he := pkOk_end hx hge
            simp only at he
            have hne : acc.isEmpty = false := by cases acc with | nil => simp at hj | cons _ _ => rfl
            have e1 : pickV (pickL l ns) = .c (.one (.sl 2 0 1 (j + 1))) := by rw [he]; unfold pickV; rw [hne, hj]; rfl
            have e2 : pickO (pickL l ns) = [.arr _ intL acc] := by rw [he]; unfold pickO; rw [hne]; rfl
            simp only [envLK, con0, conS, strsOf_arr, rowS_arr, strsOf_cells, rowS_cells, toS, strL_st, strL_d, strL_enc, strL_up, hpN_nil, hpN_cons, qt8, hasQC, h, hj, e1, e2, go_sem, reduceCtorEq, ↓reduceIte, Nat.reduceAdd, Nat.reduceMul, Nat.reduceSub, Nat.reduceEqDiff, Nat.reduceLT, Nat.reduceBEq, Nat.reduceBNe, Nat.reduceLeDiff, Int.reduceLE, Int.reduceLT, Int.reduceToNat, Int.reduceEq, Int.reduceAdd, UInt8.reduceToNat, UInt32.reduceToNat, UInt64.reduceToNat, UInt8.reduceOfNat, UInt32.reduceOfNat, UInt64.reduceOfNat, Fin.isValue, Int.reduceSub, Int.reduceMul, Int.reduceNeg, Int.reduceMod, Int.reduceDiv, Int.reduceTDiv, Int.reduceTMod, Int.reduceBEq, Int.reduceBNe, Nat.reduceDiv, Nat.reducePow]
            refine endX [(2, 500)] ?_
            simp only [envLK, con0, conS, strsOf_arr, rowS_arr, strsOf_cells, rowS_cells, toS, strL_st, strL_d, strL_enc, strL_up, hpN_nil, hpN_cons, qt8, hasQC, hj, e1, e2, go_sem, reduceCtorEq, ↓reduceIte, Nat.reduceAdd, Nat.reduceMul, Nat.reduceSub, Nat.reduceEqDiff, Nat.reduceLT, Nat.reduceBEq, Nat.reduceBNe, Nat.reduceLeDiff, Int.reduceLE, Int.reduceLT, Int.reduceToNat, Int.reduceEq, Int.reduceAdd, UInt8.reduceToNat, UInt32.reduceToNat, UInt64.reduceToNat, UInt8.reduceOfNat, UInt32.reduceOfNat, UInt64.reduceOfNat, Fin.isValue, Int.reduceSub, Int.reduceMul, Int.reduceNeg, Int.reduceMod, Int.reduceDiv, Int.reduceTDiv, Int.reduceTMod, Int.reduceBEq, Int.reduceBNe, Nat.reduceDiv, Nat.reducePow]
            all_goals ((repeat' apply And.intro) <;> first | omega | exact rfl | exact id)
    all_goals first | omega | exact rfl | exact id | trivial
def pickQF : List CV → List SObj → Option (SV × List SObj × List Prop)
  | [.one (.sl 0 0 2 k), .one (.sl 1 0 1 m)], [o, o'] => some (pickV (pickL (pairsOf o) (intsOf o')), pickO (pickL (pairsOf o) (intsOf o')), [k = (pairsOf o).length, m = (intsOf o').length, rowP o, rowI o', (pairsOf o).length ≤ 1048576, (intsOf o').length ≤ 1048576])
  | _, _ => none
def pickQC : Con := conQ pickQF
theorem pickQC_ok : ConOkG Tryd.prog GL 26 pickQC := conQ_ok Tryd.func26 rfl rfl fun args es v nw ob h hob => by
  unfold pickQF at h
  split at h
  · rename_i k m o o' heq
    match es, heq with
    | [e, e'], heq =>
      simp only [List.map_cons, List.map_nil, List.cons.injEq, and_true] at heq
      obtain ⟨rfl, rfl⟩ := heq
      simp only [Option.some.injEq, Prod.mk.injEq] at h
      obtain ⟨rfl, rfl, rfl⟩ := h
      obtain ⟨rfl, rfl, h2, h3, h4, h5, _⟩ := hob
      exact (pick_tri _ _ e.wr e'.wr h4 h5).sim (.cons (simE_rowP h2) (.cons (simE_rowI h3) .nil)) (.cons (simE_rowP h2) (.cons (simE_rowI h3) (.refl _)))
  · cases h
end Go.Proofs.YtgfcdkbbkgamnaaDoor
