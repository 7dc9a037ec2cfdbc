/-
  Layer 14: contracts over rows of numbers and of pairs; ranges as the document's; what is picked; the fixed answer.
-/
import Derived.Test.YtgfcdkbbkgamnaaDoorSz
import Derived.Test.YtgfcdkbbkgamnaaDoorTe
import Derived.Test.YtgfcdkbbkgamnaaDoorTf
namespace Go.Proofs.YtgfcdkbbkgamnaaDoor
open Go Go.RowKit
set_option maxHeartbeats 4000000
set_option linter.unusedSimpArgs false
set_option linter.unusedVariables false
/-- Contracts that read any rows, and make objects. -/
def conQ (F : List CV → List SObj → Option (SV × List SObj × List Prop)) : Con := ⟨false, fun args os => match F args os with
  | some (v, nw, ob) => some (v, [], nw, ob)
  | none => none⟩
theorem conQ_ok {P : Program} {G : List GFact} {f : FuncId} {fn : Func} (hf : P.funcs[f]? = some fn) (hb : fn.body.isSome = true) (hn : (fn.name == "runtime.NumGoroutine") = false) {F : List CV → List SObj → Option (SV × List SObj × List Prop)}
    (h1 : ∀ args (es : List Ent) v nw ob, F args (es.map (·.o)) = some (v, nw, ob) → AllT ob → TriG P G f args (numb 0 es) v (numb 0 (es ++ nw.map fun o => ⟨o, true⟩))) : ConOkG P G f (conQ F) := by
  refine .inl ⟨⟨fn, hf, hb, hn⟩, fun args es res upd news ob hr hob _ => ?_⟩
  unfold conQ at hr
  simp only at hr
  cases hF : F args (es.map (·.o)) with
  | none => rw [hF] at hr; cases hr
  | some q =>
    obtain ⟨v, nw, ob'⟩ := q
    simp only [hF, Option.some.injEq, Prod.mk.injEq] at hr
    obtain ⟨rfl, rfl, rfl, rfl⟩ := hr
    rw [post_news]
    exact h1 args es _ _ _ hF hob
def ints : List AV → List Int
  | .num a :: l => a :: ints l
  | _ => []
def intsOf (o : SObj) : List Int := ints o.flat
theorem ints_flat : ∀ (l : List Int), ints (l.flatMap intL.enc) = l
  | [] => rfl
  | a :: l => by
    rw [List.flatMap_cons]
    show a :: ints (l.flatMap intL.enc) = _
    rw [ints_flat l]
theorem intsOf_arr (l : List Int) : intsOf (.arr _ intL l) = l := ints_flat l
theorem intsOf_cells (s : Nat) (xs : List AV) : intsOf (.cells s xs) = ints xs := rfl
theorem pairsOf_cells (s : Nat) (xs : List AV) : pairsOf (.cells s xs) = pairs xs := rfl
def rowI (o : SObj) : Prop := o.live = true ∧ o.stride = 1 ∧ o.flat = (intsOf o).flatMap intL.enc
theorem rowI_arr (l : List Int) : rowI (.arr _ intL l) = True := by
  refine propext ⟨fun _ => trivial, fun _ => ⟨rfl, rfl, ?_⟩⟩
  rw [intsOf_arr]
  rfl
theorem rowI_cells (xs : List AV) : rowI (.cells 1 xs) = (xs = (ints xs).flatMap intL.enc) := propext ⟨fun h => h.2.2, fun h => ⟨rfl, rfl, h⟩⟩
theorem rowP_cells (xs : List AV) : rowP (.cells 2 xs) = (xs = (pairs xs).flatMap rngL.enc) := propext ⟨fun h => h.2.2, fun h => ⟨rfl, rfl, h⟩⟩
theorem simE_rowI {e : Ent} (h : rowI e.o) : SimE ⟨.arr _ intL (intsOf e.o), e.wr⟩ e := ⟨h.1.symm, h.2.1.symm, h.2.2.symm, rfl⟩
theorem simE_rowP {e : Ent} (h : rowP e.o) : SimE ⟨.arr _ rngL (pairsOf e.o), e.wr⟩ e := ⟨h.1.symm, h.2.1.symm, h.2.2.symm, rfl⟩
def textQF : List CV → List SObj → Option (SV × List SObj × List Prop)
  | [.one (.sl 0 0 1 k)], [o] => some (.c (.one (.str (textL (intsOf o)))), [], [k = (intsOf o).length, rowI o, (intsOf o).length ≤ 1000, 0 < (intsOf o).length, inR (intsOf o)])
  | _, _ => none
def textQC : Con := conQ textQF
theorem textQC_ok : ConOkG Tryd.prog GL 27 textQC := conQ_ok Tryd.func27 rfl rfl fun args es v nw ob h hob => by
  unfold textQF at h
  split at h
  · rename_i k o heq
    match es, heq with
    | [e], heq =>
      simp only [List.map_cons, List.map_nil, List.cons.injEq, and_true] at heq
      subst heq
      simp only [Option.some.injEq, Prod.mk.injEq] at h
      obtain ⟨rfl, rfl, rfl⟩ := h
      obtain ⟨rfl, h2, h3, h4, h5, _⟩ := hob
      exact (text_tri _ e.wr h3 h4 h5).sim (.cons (simE_rowI h2) .nil) (.cons (simE_rowI h2) .nil)
  · cases h
theorem has14_nil (n g : Int) : TriG Tryd.prog GL 24 [.one (.val (.slice none 0 0)), .one (.num n), .one (.num g)] [] (.c (.one (.bo false))) [] := by
  refine tri_ofx (envLK_ok qt5_ok 38 []) Tryd.func24 rfl rfl (rs := [.tmp 6]) rfl rfl (by simp [envLK]) rfl ?_
  simp only [envLK, con0, conS, strsOf_arr, rowS_arr, strsOf_cells, rowS_cells, toS, strL_st, strL_d, strL_enc, strL_up, hpN_nil, hpN_cons, qt5, knownC, go_sem, reduceCtorEq, ↓reduceIte, Nat.reduceAdd, Nat.reduceMul, Nat.reduceSub, Nat.reduceEqDiff, Nat.reduceLT, Nat.reduceBEq, Nat.reduceBNe, Nat.reduceLeDiff, Int.reduceLE, Int.reduceLT, Int.reduceToNat, Int.reduceEq, Int.reduceAdd, UInt8.reduceToNat, UInt32.reduceToNat, UInt64.reduceToNat, UInt8.reduceOfNat, UInt32.reduceOfNat, UInt64.reduceOfNat, Fin.isValue, Int.reduceSub, Int.reduceMul, Int.reduceNeg, Int.reduceMod, Int.reduceDiv, Int.reduceTDiv, Int.reduceTMod, Int.reduceBEq, Int.reduceBNe, Nat.reduceDiv, Nat.reducePow]
  refine loop_rounds (envLK_ok qt5_ok 38 []) 2 ?_
  simp only [envLK, con0, conS, strsOf_arr, rowS_arr, strsOf_cells, rowS_cells, toS, strL_st, strL_d, strL_enc, strL_up, hpN_nil, hpN_cons, qt5, knownC, go_sem, reduceCtorEq, ↓reduceIte, Nat.reduceAdd, Nat.reduceMul, Nat.reduceSub, Nat.reduceEqDiff, Nat.reduceLT, Nat.reduceBEq, Nat.reduceBNe, Nat.reduceLeDiff, Int.reduceLE, Int.reduceLT, Int.reduceToNat, Int.reduceEq, Int.reduceAdd, UInt8.reduceToNat, UInt32.reduceToNat, UInt64.reduceToNat, UInt8.reduceOfNat, UInt32.reduceOfNat, UInt64.reduceOfNat, Fin.isValue, Int.reduceSub, Int.reduceMul, Int.reduceNeg, Int.reduceMod, Int.reduceDiv, Int.reduceTDiv, Int.reduceTMod, Int.reduceBEq, Int.reduceBNe, Nat.reduceDiv, Nat.reducePow]
  refine endX [] ?_
  simp only [envLK, con0, conS, strsOf_arr, rowS_arr, strsOf_cells, rowS_cells, toS, strL_st, strL_d, strL_enc, strL_up, hpN_nil, hpN_cons, qt5, knownC, go_sem, reduceCtorEq, ↓reduceIte, Nat.reduceAdd, Nat.reduceMul, Nat.reduceSub, Nat.reduceEqDiff, Nat.reduceLT, Nat.reduceBEq, Nat.reduceBNe, Nat.reduceLeDiff, Int.reduceLE, Int.reduceLT, Int.reduceToNat, Int.reduceEq, Int.reduceAdd, UInt8.reduceToNat, UInt32.reduceToNat, UInt64.reduceToNat, UInt8.reduceOfNat, UInt32.reduceOfNat, UInt64.reduceOfNat, Fin.isValue, Int.reduceSub, Int.reduceMul, Int.reduceNeg, Int.reduceMod, Int.reduceDiv, Int.reduceTDiv, Int.reduceTMod, Int.reduceBEq, Int.reduceBNe, Nat.reduceDiv, Nat.reducePow]
def hasQF : List CV → List SObj → Option (SV × List SObj × List Prop)
  | [.one (.sl 0 0 2 k), .one (.num n), .one (.num g)], [o] => some (.c (.one (.bo (hasF (pairsOf o) n g))), [], [k = (pairsOf o).length, rowP o, (pairsOf o).length ≤ 1048576])
  | [.one (.val (.slice none 0 0)), .one (.num n), .one (.num g)], [] => some (.c (.one (.bo false)), [], [])
  | _, _ => none
def hasQC : Con := conQ hasQF
theorem hasQC_ok : ConOkG Tryd.prog GL 24 hasQC := conQ_ok Tryd.func24 rfl rfl fun args es v nw ob h hob => by
  unfold hasQF at h
  split at h
  · rename_i k n g o heq
    match es, heq with
    | [e], heq =>
      simp only [List.map_cons, List.map_nil, List.cons.injEq, and_true] at heq
      subst heq
      simp only [Option.some.injEq, Prod.mk.injEq] at h
      obtain ⟨rfl, rfl, rfl⟩ := h
      obtain ⟨rfl, h2, h3, _⟩ := hob
      exact (has14_tri _ _ _ e.wr h3).sim (.cons (simE_rowP h2) .nil) (.cons (simE_rowP h2) .nil)
  · rename_i n g heq
    obtain rfl : es = [] := List.map_eq_nil_iff.1 heq
    simp only [Option.some.injEq, Prod.mk.injEq] at h
    obtain ⟨rfl, rfl, rfl⟩ := h
    exact has14_nil n g
  · cases h
/-- The fixed answer. -/
def qtw : Nat → Option Con := fun f => match f with
  | 21 => some parseC
  | 27 => some textQC
  | 24 => some hasQC
  | _ => none
theorem qtw_ok : GaOkG Tryd.prog GL qtw := fun f con h => by
  unfold qtw at h
  split at h
  · injection h with h; subst h; exact parseC_ok
  · injection h with h; subst h; exact textQC_ok
  · injection h with h; subst h; exact hasQC_ok
  · cases h
set_option maxRecDepth 100000 in
theorem awake14_tri : TriG Tryd.prog GL 20 [] [] (.c (.one (.bo true))) [] := by
  refine tri_of (envL_ok qtw_ok 37) Tryd.func20 rfl rfl (rs := [.tmp 0]) rfl rfl (by simp [envL]) rfl [] ?_
  have h1 : prsL [49, 44, 51, 58, 53, 44, 42] = some [(1, 1), (3, 5), (0, 0)] := by kernel_rfl
  have h2 : textL [1, 2, 3, 7] = [49, 58, 51, 44, 55] := by kernel_rfl
  have h3 : hasF [(1, 1), (3, 5), (0, 0)] 9 9 = true := by decide
  have h4 : (Lib.split [49, 44, 51, 58, 53, 44, 42] [44]).length = 3 := by kernel_rfl
  have h5 : inR [1, 2, 3, 7] := fun x hx => by simp at hx; omega
  simp only [envLK, con0, conS, strsOf_arr, rowS_arr, strsOf_cells, rowS_cells, toS, strL_st, strL_d, strL_enc, strL_up, hpN_nil, hpN_cons, qtw, parseC, textQC, hasQC, envL, parseF, prsV, prsO, conQ, textQF, hasQF, intsOf_cells, pairsOf_arr, rowP_arr, rowI_cells, ints, h1, h2, h3, h4, h5, rngL_st, rngL_d, rngL_enc, rngL_up, intL_enc, List.isEmpty_cons, go_sem, reduceCtorEq, ↓reduceIte, Nat.reduceAdd, Nat.reduceMul, Nat.reduceSub, Nat.reduceEqDiff, Nat.reduceLT, Nat.reduceBEq, Nat.reduceBNe, Nat.reduceLeDiff, Int.reduceLE, Int.reduceLT, Int.reduceToNat, Int.reduceEq, Int.reduceAdd, UInt8.reduceToNat, UInt32.reduceToNat, UInt64.reduceToNat, UInt8.reduceOfNat, UInt32.reduceOfNat, UInt64.reduceOfNat, Fin.isValue, Int.reduceSub, Int.reduceMul, Int.reduceNeg, Int.reduceMod, Int.reduceDiv, Int.reduceTDiv, Int.reduceTMod, Int.reduceBEq, Int.reduceBNe, Nat.reduceDiv, Nat.reducePow]
  all_goals trace_state
def awake14C : Con := con0 fun args => match args with
  | [] => some (.c (.one (.bo true)), [])
  | _ => none
theorem awake14C_ok : ConOkG Tryd.prog GL 20 awake14C := con0_okG Tryd.func20 rfl rfl fun args res ob h hob => by
  split at h
  · injection h with h; injection h with h1 h2; subst h1; subst h2; exact awake14_tri
  · cases h
end Go.Proofs.YtgfcdkbbkgamnaaDoor
