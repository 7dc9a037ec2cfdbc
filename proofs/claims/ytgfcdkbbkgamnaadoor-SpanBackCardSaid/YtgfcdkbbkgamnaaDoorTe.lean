/-
  Layer 14: whether a number lies in ranges.
-/
import Derived.Test.YtgfcdkbbkgamnaaDoorSz
import Derived.Test.YtgfcdkbbkgamnaaDoorTd
namespace Go.Proofs.YtgfcdkbbkgamnaaDoor
open Go Go.RowKit
set_option maxHeartbeats 4000000
set_option linter.unusedSimpArgs false
set_option linter.unusedVariables false
def hasR (r : Rng) (n g : Int) : Bool := decide (min (knw r.1 g) (knw r.2 g) ≤ n) && decide (n ≤ max (knw r.1 g) (knw r.2 g))
def hasF (l : List Rng) (n g : Int) : Bool := l.any fun r => hasR r n g
def hasInv (l : List Rng) (n g : Int) (wa : Bool) (i : Nat) : St := ⟨[(1, .c (.one (.num n))), (2, .c (.one (.num g))), (11, .c (.one (.sl 0 0 2 l.length))), (12, .c (.one (.num l.length))), (13, .c (.one (.num i)))], [(0, ⟨.arr _ rngL l, wa⟩)]⟩
def qt5 : Nat → Option Con := fun f => match f with
  | 55 => some knownC
  | _ => none
theorem qt5_ok : GaOkG Tryd.prog GL qt5 := fun f con h => by
  unfold qt5 at h
  split at h
  · injection h with h; subst h; exact knownC_ok
  · cases h
set_option maxRecDepth 100000 in
theorem has14_tri (l : List Rng) (n g : Int) (wa : Bool) (hl : l.length ≤ 1048576) : TriG Tryd.prog GL 24 [.one (.sl 0 0 2 l.length), .one (.num n), .one (.num g)] [(0, ⟨.arr _ rngL l, wa⟩)] (.c (.one (.bo (hasF l n g)))) [(0, ⟨.arr _ rngL l, wa⟩)] := by
  refine tri_ofx (envLK_ok qt5_ok 38 [0]) Tryd.func24 rfl rfl (rs := [.tmp 6]) rfl rfl (by simp [envLK]) rfl ?_
  simp only [envLK, con0, conS, strsOf_arr, rowS_arr, strsOf_cells, rowS_cells, toS, strL_st, strL_d, strL_enc, strL_up, hpN_nil, hpN_cons, qt5, knownC, go_sem, reduceCtorEq, ↓reduceIte, Nat.reduceAdd, Nat.reduceMul, Nat.reduceSub, Nat.reduceEqDiff, Nat.reduceLT, Nat.reduceBEq, Nat.reduceBNe, Nat.reduceLeDiff, Int.reduceLE, Int.reduceLT, Int.reduceToNat, Int.reduceEq, Int.reduceAdd, UInt8.reduceToNat, UInt32.reduceToNat, UInt64.reduceToNat, UInt8.reduceOfNat, UInt32.reduceOfNat, UInt64.reduceOfNat, Fin.isValue, Int.reduceSub, Int.reduceMul, Int.reduceNeg, Int.reduceMod, Int.reduceDiv, Int.reduceTDiv, Int.reduceTMod, Int.reduceBEq, Int.reduceBNe, Nat.reduceDiv, Nat.reducePow]
  refine loop_inv (envLK_ok qt5_ok 38 [0]) (hasInv l n g wa) (fun i => i ≤ l.length ∧ hasF (l.drop i) n g = hasF l n g) (fun i => l.length - i) 0 [] ⟨Nat.zero_le _, rfl⟩ ?_ ?_
  · simp only [hasInv, go_sem, reduceCtorEq, ↓reduceIte, Nat.reduceAdd, Nat.reduceMul, Nat.reduceSub, Nat.reduceEqDiff, Nat.reduceLT, Nat.reduceBEq, Nat.reduceBNe, Nat.reduceLeDiff, Int.reduceLE, Int.reduceLT, Int.reduceToNat, Int.reduceEq, Int.reduceAdd, UInt8.reduceToNat, UInt32.reduceToNat, UInt64.reduceToNat, UInt8.reduceOfNat, UInt32.reduceOfNat, UInt64.reduceOfNat, Fin.isValue, Int.reduceSub, Int.reduceMul, Int.reduceNeg, Int.reduceMod, Int.reduceDiv, Int.reduceTDiv, Int.reduceTMod, Int.reduceBEq, Int.reduceBNe, Nat.reduceDiv, Nat.reducePow]
    ((repeat' apply And.intro) <;> first | omega | exact rfl | exact id)
  · intro i hi
    have hi1 := hi.1
    have hi2 := hi.2
    have hw : IntKind.i64.wrap ((i : Int) + 1) = ((i + 1 : Nat) : Int) := by rw [IntKind.wrap_i64]; omega
    simp only [envLK, con0, conS, strsOf_arr, rowS_arr, strsOf_cells, rowS_cells, toS, strL_st, strL_d, strL_enc, strL_up, hpN_nil, hpN_cons, qt5, knownC, hasInv, hw, go_sem, reduceCtorEq, ↓reduceIte, Nat.reduceAdd, Nat.reduceMul, Nat.reduceSub, Nat.reduceEqDiff, Nat.reduceLT, Nat.reduceBEq, Nat.reduceBNe, Nat.reduceLeDiff, Int.reduceLE, Int.reduceLT, Int.reduceToNat, Int.reduceEq, Int.reduceAdd, UInt8.reduceToNat, UInt32.reduceToNat, UInt64.reduceToNat, UInt8.reduceOfNat, UInt32.reduceOfNat, UInt64.reduceOfNat, Fin.isValue, Int.reduceSub, Int.reduceMul, Int.reduceNeg, Int.reduceMod, Int.reduceDiv, Int.reduceTDiv, Int.reduceTMod, Int.reduceBEq, Int.reduceBNe, Nat.reduceDiv, Nat.reducePow]
    refine br (fun h => ?_) fun h => ?_
    · have hlt : i < l.length := by have := of_decide_eq_true h; omega
      have hd : l.drop i = l.getD i (0, 0) :: l.drop (i + 1) := by rw [List.drop_eq_getElem_cons hlt, List.getD_eq_getElem?_getD, List.getElem?_eq_getElem hlt]; rfl
      have hstep : hasF (l.drop i) n g = (hasR (l.getD i (0, 0)) n g || hasF (l.drop (i + 1)) n g) := by rw [hd]; rfl
      rw [hstep] at hi2
      generalize hr : l.getD i (0, 0) = r at hi2
      cases h1 : decide (min (knw r.1 g) (knw r.2 g) ≤ n) with
      | false =>
        have hn : hasR r n g = false := by unfold hasR; rw [h1]; rfl
        rw [hn, Bool.false_or] at hi2
        simp only [envLK, con0, conS, strsOf_arr, rowS_arr, strsOf_cells, rowS_cells, toS, strL_st, strL_d, strL_enc, strL_up, hpN_nil, hpN_cons, qt5, knownC, h, h1, hw, hr, rngL_st, rngL_d, rngL_enc, go_sem, reduceCtorEq, ↓reduceIte, Nat.reduceAdd, Nat.reduceMul, Nat.reduceSub, Nat.reduceEqDiff, Nat.reduceLT, Nat.reduceBEq, Nat.reduceBNe, Nat.reduceLeDiff, Int.reduceLE, Int.reduceLT, Int.reduceToNat, Int.reduceEq, Int.reduceAdd, UInt8.reduceToNat, UInt32.reduceToNat, UInt64.reduceToNat, UInt8.reduceOfNat, UInt32.reduceOfNat, UInt64.reduceOfNat, Fin.isValue, Int.reduceSub, Int.reduceMul, Int.reduceNeg, Int.reduceMod, Int.reduceDiv, Int.reduceTDiv, Int.reduceTMod, Int.reduceBEq, Int.reduceBNe, Nat.reduceDiv, Nat.reducePow]
        repeat' apply And.intro
        rotate_right
        · refine again (i + 1) [] ⟨hlt, hi2⟩ (by show l.length - (i + 1) < l.length - i; omega) ?_
          simp only [hasInv, envLK, con0, conS, strsOf_arr, rowS_arr, strsOf_cells, rowS_cells, toS, strL_st, strL_d, strL_enc, strL_up, hpN_nil, hpN_cons, qt5, knownC, go_sem, reduceCtorEq, ↓reduceIte, Nat.reduceAdd, Nat.reduceMul, Nat.reduceSub, Nat.reduceEqDiff, Nat.reduceLT, Nat.reduceBEq, Nat.reduceBNe, Nat.reduceLeDiff, Int.reduceLE, Int.reduceLT, Int.reduceToNat, Int.reduceEq, Int.reduceAdd, UInt8.reduceToNat, UInt32.reduceToNat, UInt64.reduceToNat, UInt8.reduceOfNat, UInt32.reduceOfNat, UInt64.reduceOfNat, Fin.isValue, Int.reduceSub, Int.reduceMul, Int.reduceNeg, Int.reduceMod, Int.reduceDiv, Int.reduceTDiv, Int.reduceTMod, Int.reduceBEq, Int.reduceBNe, Nat.reduceDiv, Nat.reducePow]
          ((repeat' apply And.intro) <;> first | omega | exact rfl | exact id)
        all_goals first | omega | exact rfl | exact id
      | true =>
        cases h2 : decide (n ≤ max (knw r.1 g) (knw r.2 g)) with
        | false =>
          have hn : hasR r n g = false := by unfold hasR; rw [h1, h2]; rfl
          rw [hn, Bool.false_or] at hi2
          simp only [envLK, con0, conS, strsOf_arr, rowS_arr, strsOf_cells, rowS_cells, toS, strL_st, strL_d, strL_enc, strL_up, hpN_nil, hpN_cons, qt5, knownC, h, h1, h2, hw, hr, rngL_st, rngL_d, rngL_enc, go_sem, reduceCtorEq, ↓reduceIte, Nat.reduceAdd, Nat.reduceMul, Nat.reduceSub, Nat.reduceEqDiff, Nat.reduceLT, Nat.reduceBEq, Nat.reduceBNe, Nat.reduceLeDiff, Int.reduceLE, Int.reduceLT, Int.reduceToNat, Int.reduceEq, Int.reduceAdd, UInt8.reduceToNat, UInt32.reduceToNat, UInt64.reduceToNat, UInt8.reduceOfNat, UInt32.reduceOfNat, UInt64.reduceOfNat, Fin.isValue, Int.reduceSub, Int.reduceMul, Int.reduceNeg, Int.reduceMod, Int.reduceDiv, Int.reduceTDiv, Int.reduceTMod, Int.reduceBEq, Int.reduceBNe, Nat.reduceDiv, Nat.reducePow]
          repeat' apply And.intro
          rotate_right
          · refine again (i + 1) [] ⟨hlt, hi2⟩ (by show l.length - (i + 1) < l.length - i; omega) ?_
            simp only [hasInv, envLK, con0, conS, strsOf_arr, rowS_arr, strsOf_cells, rowS_cells, toS, strL_st, strL_d, strL_enc, strL_up, hpN_nil, hpN_cons, qt5, knownC, go_sem, reduceCtorEq, ↓reduceIte, Nat.reduceAdd, Nat.reduceMul, Nat.reduceSub, Nat.reduceEqDiff, Nat.reduceLT, Nat.reduceBEq, Nat.reduceBNe, Nat.reduceLeDiff, Int.reduceLE, Int.reduceLT, Int.reduceToNat, Int.reduceEq, Int.reduceAdd, UInt8.reduceToNat, UInt32.reduceToNat, UInt64.reduceToNat, UInt8.reduceOfNat, UInt32.reduceOfNat, UInt64.reduceOfNat, Fin.isValue, Int.reduceSub, Int.reduceMul, Int.reduceNeg, Int.reduceMod, Int.reduceDiv, Int.reduceTDiv, Int.reduceTMod, Int.reduceBEq, Int.reduceBNe, Nat.reduceDiv, Nat.reducePow]
            ((repeat' apply And.intro) <;> first | omega | exact rfl | exact id)
          all_goals first | omega | exact rfl | exact id
        | true =>
          have hn : hasR r n g = true := by unfold hasR; rw [h1, h2]; rfl
          rw [hn, Bool.true_or] at hi2
          simp only [envLK, con0, conS, strsOf_arr, rowS_arr, strsOf_cells, rowS_cells, toS, strL_st, strL_d, strL_enc, strL_up, hpN_nil, hpN_cons, qt5, knownC, h, h1, h2, hw, hr, ← hi2, rngL_st, rngL_d, rngL_enc, go_sem, reduceCtorEq, ↓reduceIte, Nat.reduceAdd, Nat.reduceMul, Nat.reduceSub, Nat.reduceEqDiff, Nat.reduceLT, Nat.reduceBEq, Nat.reduceBNe, Nat.reduceLeDiff, Int.reduceLE, Int.reduceLT, Int.reduceToNat, Int.reduceEq, Int.reduceAdd, UInt8.reduceToNat, UInt32.reduceToNat, UInt64.reduceToNat, UInt8.reduceOfNat, UInt32.reduceOfNat, UInt64.reduceOfNat, Fin.isValue, Int.reduceSub, Int.reduceMul, Int.reduceNeg, Int.reduceMod, Int.reduceDiv, Int.reduceTDiv, Int.reduceTMod, Int.reduceBEq, Int.reduceBNe, Nat.reduceDiv, Nat.reducePow]
          repeat' apply And.intro
          rotate_right
          · refine endX [] ?_
            simp only [envLK, con0, conS, strsOf_arr, rowS_arr, strsOf_cells, rowS_cells, toS, strL_st, strL_d, strL_enc, strL_up, hpN_nil, hpN_cons, qt5, knownC, ← hi2, go_sem, reduceCtorEq, ↓reduceIte, Nat.reduceAdd, Nat.reduceMul, Nat.reduceSub, Nat.reduceEqDiff, Nat.reduceLT, Nat.reduceBEq, Nat.reduceBNe, Nat.reduceLeDiff, Int.reduceLE, Int.reduceLT, Int.reduceToNat, Int.reduceEq, Int.reduceAdd, UInt8.reduceToNat, UInt32.reduceToNat, UInt64.reduceToNat, UInt8.reduceOfNat, UInt32.reduceOfNat, UInt64.reduceOfNat, Fin.isValue, Int.reduceSub, Int.reduceMul, Int.reduceNeg, Int.reduceMod, Int.reduceDiv, Int.reduceTDiv, Int.reduceTMod, Int.reduceBEq, Int.reduceBNe, Nat.reduceDiv, Nat.reducePow]
            ((repeat' apply And.intro) <;> first | omega | exact rfl | exact id)
          all_goals first | omega | exact rfl | exact id
    · have hge : l.length ≤ i := by have := of_decide_eq_false h; omega
      have he : hasF l n g = false := by rw [← hi2, List.drop_eq_nil_of_le hge]; rfl
      simp only [envLK, con0, conS, strsOf_arr, rowS_arr, strsOf_cells, rowS_cells, toS, strL_st, strL_d, strL_enc, strL_up, hpN_nil, hpN_cons, qt5, knownC, h, he, go_sem, reduceCtorEq, ↓reduceIte, Nat.reduceAdd, Nat.reduceMul, Nat.reduceSub, Nat.reduceEqDiff, Nat.reduceLT, Nat.reduceBEq, Nat.reduceBNe, Nat.reduceLeDiff, Int.reduceLE, Int.reduceLT, Int.reduceToNat, Int.reduceEq, Int.reduceAdd, UInt8.reduceToNat, UInt32.reduceToNat, UInt64.reduceToNat, UInt8.reduceOfNat, UInt32.reduceOfNat, UInt64.reduceOfNat, Fin.isValue, Int.reduceSub, Int.reduceMul, Int.reduceNeg, Int.reduceMod, Int.reduceDiv, Int.reduceTDiv, Int.reduceTMod, Int.reduceBEq, Int.reduceBNe, Nat.reduceDiv, Nat.reducePow]
      refine endX [] ?_
      simp only [envLK, con0, conS, strsOf_arr, rowS_arr, strsOf_cells, rowS_cells, toS, strL_st, strL_d, strL_enc, strL_up, hpN_nil, hpN_cons, qt5, knownC, he, go_sem, reduceCtorEq, ↓reduceIte, Nat.reduceAdd, Nat.reduceMul, Nat.reduceSub, Nat.reduceEqDiff, Nat.reduceLT, Nat.reduceBEq, Nat.reduceBNe, Nat.reduceLeDiff, Int.reduceLE, Int.reduceLT, Int.reduceToNat, Int.reduceEq, Int.reduceAdd, UInt8.reduceToNat, UInt32.reduceToNat, UInt64.reduceToNat, UInt8.reduceOfNat, UInt32.reduceOfNat, UInt64.reduceOfNat, Fin.isValue, Int.reduceSub, Int.reduceMul, Int.reduceNeg, Int.reduceMod, Int.reduceDiv, Int.reduceTDiv, Int.reduceTMod, Int.reduceBEq, Int.reduceBNe, Nat.reduceDiv, Nat.reducePow]
      ((repeat' apply And.intro) <;> first | omega | exact rfl | exact id)
/-- Contracts that read a row of pairs. -/
def pairs : List AV → List Rng
  | .num a :: .num b :: l => (a, b) :: pairs l
  | _ => []
def pairsOf (o : SObj) : List Rng := pairs o.flat
theorem pairs_flat : ∀ (l : List Rng), pairs (l.flatMap rngL.enc) = l
  | [] => rfl
  | (a, b) :: l => by
    rw [List.flatMap_cons]
    show (a, b) :: pairs (l.flatMap rngL.enc) = _
    rw [pairs_flat l]
theorem pairsOf_arr (l : List Rng) : pairsOf (.arr _ rngL l) = l := pairs_flat l
def rowP (o : SObj) : Prop := o.live = true ∧ o.stride = 2 ∧ o.flat = (pairsOf o).flatMap rngL.enc
theorem rowP_arr (l : List Rng) : rowP (.arr _ rngL l) = True := by
  refine propext ⟨fun _ => trivial, fun _ => ⟨rfl, rfl, ?_⟩⟩
  rw [pairsOf_arr]
  rfl
def conP (F : List CV → List Rng → Option (SV × List Prop)) : Con := ⟨false, fun args os => match os with
  | [o] => match F args (pairsOf o) with
    | some (v, ob) => some (v, [], [], rowP o :: ob)
    | none => none
  | _ => none⟩
theorem conP_ok {P : Program} {G : List GFact} {f : FuncId} {fn : Func} (hf : P.funcs[f]? = some fn) (hb : fn.body.isSome = true) (hn : (fn.name == "runtime.NumGoroutine") = false) {F : List CV → List Rng → Option (SV × List Prop)}
    (h1 : ∀ args a v ob, F args a = some (v, ob) → AllT ob → ∀ wa, TriG P G f args [(0, ⟨.arr _ rngL a, wa⟩)] v [(0, ⟨.arr _ rngL a, wa⟩)]) : ConOkG P G f (conP F) := by
  refine .inl ⟨⟨fn, hf, hb, hn⟩, fun args es res upd news ob hr hob _ => ?_⟩
  unfold conP at hr
  simp only at hr
  match es, hr with
  | [], hr => cases hr
  | _ :: _ :: _, hr => cases hr
  | [e], hr =>
    simp only [List.map_cons, List.map_nil] at hr
    cases hF : F args (pairsOf e.o) with
    | none => rw [hF] at hr; cases hr
    | some q =>
      obtain ⟨v, ob'⟩ := q
      simp only [hF, Option.some.injEq, Prod.mk.injEq] at hr
      obtain ⟨rfl, rfl, rfl, rfl⟩ := hr
      obtain ⟨o1, o2⟩ := hob
      rw [post_news]
      have s1 : SimE ⟨.arr _ rngL (pairsOf e.o), e.wr⟩ e := ⟨o1.1.symm, o1.2.1.symm, o1.2.2.symm, rfl⟩
      exact (h1 args _ _ _ hF o2 e.wr).sim (.cons s1 .nil) (.cons s1 (.refl _))
def hasPF : List CV → List Rng → Option (SV × List Prop)
  | [.one (.sl 0 0 2 k), .one (.num n), .one (.num g)], l => if k = l.length then some (.c (.one (.bo (hasF l n g))), [l.length ≤ 1048576]) else none
  | _, _ => none
def hasPC : Con := conP hasPF
theorem hasPC_ok : ConOkG Tryd.prog GL 24 hasPC := conP_ok Tryd.func24 rfl rfl fun args a v ob h hob wa => by
  unfold hasPF at h
  split at h
  · split at h
    · rename_i hk
      simp only [Option.some.injEq, Prod.mk.injEq] at h
      obtain ⟨rfl, rfl⟩ := h
      subst hk
      exact has14_tri _ _ _ wa hob.1
    · cases h
  · cases h
end Go.Proofs.YtgfcdkbbkgamnaaDoor
