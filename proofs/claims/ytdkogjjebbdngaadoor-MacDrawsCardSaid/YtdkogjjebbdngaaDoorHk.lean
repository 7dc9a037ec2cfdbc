/-
  Layer 1: rows of words in contracts; the document's constants, first state and digest.
-/
import Derived.Test.YtdkogjjebbdngaaDoorSz
import Derived.Test.YtdkogjjebbdngaaDoorHi
import Derived.Test.YtdkogjjebbdngaaDoorRs
namespace Go.Proofs.YtdkogjjebbdngaaDoor
open Go Go.RowKit
set_option maxHeartbeats 4000000
set_option linter.unusedSimpArgs false
set_option linter.unusedVariables false
noncomputable abbrev GS : List GFact := [gK]
noncomputable def envS (ga : Nat → Option Con) (nt : Nat) : Env := ⟨ty, ga, [], nt, [], GS⟩
theorem envS_ok {ga : Nat → Option Con} (h : GaOkG Tryd.prog GS ga) (nt : Nat) : EnvOk Tryd.prog (envS ga nt) := ⟨ty_ok, h, by first | rfl | decide⟩
noncomputable def envSK (ga : Nat → Option Con) (nt : Nat) (keys : List Nat) : Env := ⟨ty, ga, [], nt, keys, GS⟩
theorem envSK_ok {ga : Nat → Option Con} (h : GaOkG Tryd.prog GS ga) (nt : Nat) (keys : List Nat) : EnvOk Tryd.prog (envSK ga nt keys) := ⟨ty_ok, h, by first | rfl | decide⟩
def hk0 : Nat → Option Con := fun f => match f with
  | _ => none
theorem hk0_ok : GaOkG Tryd.prog GS hk0 := fun f con h => by
  unfold hk0 at h
  split at h
  · cases h
/-- Contracts that read any rows, and make objects. -/
def conQ (F : List CV → List SObj → Option (SV × List SObj × List Prop)) : Con := ⟨false, fun args os => match F args os with
  | some (v, nw, ob) => some (v, [], nw, ob)
  | none => none⟩
theorem conQ_ok {P : Program} {G : List GFact} {f : FuncId} {fn : Func} (hf : P.funcs[f]? = some fn) (hb : fn.body.isSome = true) (hn : (fn.name == "runtime.NumGoroutine") = false) {F : List CV → List SObj → Option (SV × List SObj × List Prop)}
    (h1 : ∀ args (es : List Ent) v nw ob, F args (es.map (·.o)) = some (v, nw, ob) → AllT ob → TriG P G f args (numb 0 es) v (numb 0 (es ++ nw.map fun o => ⟨o, true⟩))) : ConOkG P G f (conQ F) := by
  refine .inl ⟨⟨fn, hf, hb, hn⟩, fun args es res upd news ob hr hob _ => ?_⟩
  unfold conQ at hr
  simp only at hr
  cases hF : F args (es.map (·.o)) with
  | none => rw [hF] at hr; cases hr
  | some q =>
    obtain ⟨v, nw, ob'⟩ := q
    simp only [hF, Option.some.injEq, Prod.mk.injEq] at hr
    obtain ⟨rfl, rfl, rfl, rfl⟩ := hr
    rw [post_news]
    exact h1 args es _ _ _ hF hob
def toU : AV → UInt32
  | .u32 x => x
  | _ => 0
def ursOf (o : SObj) : List UInt32 := o.flat.map toU
def rowU (o : SObj) : Prop := o.live = true ∧ o.stride = 1 ∧ o.flat = (ursOf o).map .u32
theorem ursOf_arr (l : List UInt32) : ursOf (.arr _ u32L l) = l := by
  unfold ursOf
  show (l.flatMap u32L.enc).map toU = l
  rw [u32_flat, List.map_map]
  conv => rhs; rw [← List.map_id l]
  exact List.map_congr_left fun x _ => rfl
theorem ursOf_cells (s : Nat) (xs : List AV) : ursOf (.cells s xs) = xs.map toU := rfl
theorem rowU_arr (l : List UInt32) : rowU (.arr _ u32L l) = True := by
  refine propext ⟨fun _ => trivial, fun _ => ⟨rfl, rfl, ?_⟩⟩
  rw [ursOf_arr]
  exact u32_flat l
theorem rowU_cells (xs : List AV) : rowU (.cells 1 xs) = (xs = (xs.map toU).map .u32) :=
  propext ⟨fun h => h.2.2, fun h => ⟨rfl, rfl, h⟩⟩
theorem simE_rowU {o : SObj} (h : rowU o) (w : Bool) : SimE ⟨.arr _ u32L (ursOf o), w⟩ ⟨o, w⟩ := ⟨h.1.symm, h.2.1.symm, (u32_flat _).trans h.2.2.symm, rfl⟩
def w8 (l : List UInt32) : W8 := ⟨l.getD 0 0, l.getD 1 0, l.getD 2 0, l.getD 3 0, l.getD 4 0, l.getD 5 0, l.getD 6 0, l.getD 7 0⟩
theorem w8_l (v : W8) : w8 v.l = v := rfl
theorem l_w8 : ∀ {l : List UInt32}, l.length = 8 → (w8 l).l = l
  | [_, _, _, _, _, _, _, _], _ => rfl
theorem W8.l_len (v : W8) : v.l.length = 8 := rfl
def rblockQF : List CV → List SObj → Option (SV × List SObj × List Prop)
  | [.one (.sl 0 0 1 64), .one (.sl 1 0 1 8), .one (.str s)], [k, h] => some (.c (.one (.sl 2 0 1 8)), [.arr UInt32 u32L (blockR (ursOf k) (w8 (ursOf h)) s).l], [rowU k, rowU h, (ursOf k).length = 64, (ursOf h).length = 8, s.length = 64])
  | _, _ => none
def rblockQC : Con := conQ rblockQF
theorem rblockQC_ok : ConOkG Tryd.prog GS 12 rblockQC := ConOk.up <| conQ_ok Tryd.func12 rfl rfl fun args es v nw ob h hob => by
  unfold rblockQF at h
  split at h
  · rename_i s k h' heq
    match es, heq with
    | [e, e'], heq =>
      simp only [List.map_cons, List.map_nil, List.cons.injEq, and_true] at heq
      obtain ⟨rfl, rfl⟩ := heq
      simp only [Option.some.injEq, Prod.mk.injEq] at h
      obtain ⟨rfl, rfl, rfl⟩ := h
      obtain ⟨h1, h2, h3, h4, h5, _⟩ := hob
      have ht := rblock_tri (ursOf e.o) (w8 (ursOf e'.o)) s e.wr e'.wr h3 h5
      rw [l_w8 h4] at ht
      exact ht.sim (.cons (simE_rowU h1 e.wr) (.cons (simE_rowU h2 e'.wr) .nil)) (.cons (simE_rowU h1 e.wr) (.cons (simE_rowU h2 e'.wr) (.cons (.refl _) .nil)))
  · cases h
set_option maxRecDepth 100000 in
theorem rounds_tri : TriG Tryd.prog GS 13 [] [] (.c (.one (.sl 0 0 1 64))) [(0, ⟨.arr UInt32 u32L kL, true⟩)] := by
  refine tri_ofx (envSK_ok hk0_ok 2 []) Tryd.func13 rfl rfl (rs := [.tmp 0]) rfl rfl (by simp [envSK]) rfl ?_
  simp only [envSK, con0, conS, strsOf_arr, rowS_arr, strsOf_cells, rowS_cells, toS, strL_st, strL_d, strL_enc, strL_up, hpN_nil, hpN_cons, hk0, retQx, go_sem, reduceCtorEq, ↓reduceIte, Nat.reduceAdd, Nat.reduceMul, Nat.reduceSub, Nat.reduceEqDiff, Nat.reduceLT, Nat.reduceBEq, Nat.reduceBNe, Nat.reduceLeDiff, Int.reduceLE, Int.reduceLT, Int.reduceToNat, Int.reduceEq, Int.reduceAdd, UInt8.reduceToNat, UInt32.reduceToNat, UInt64.reduceToNat, UInt8.reduceOfNat, UInt32.reduceOfNat, UInt64.reduceOfNat, Fin.isValue, Int.reduceSub, Int.reduceMul, Int.reduceNeg, Int.reduceMod, Int.reduceDiv, Int.reduceTDiv, Int.reduceTMod, Int.reduceBEq, Int.reduceBNe, Nat.reduceDiv, Nat.reducePow]
  refine endX [(0, 20000)] ?_
  simp only [kL, u32_flat, u32L_st, envSK, con0, conS, strsOf_arr, rowS_arr, strsOf_cells, rowS_cells, toS, strL_st, strL_d, strL_enc, strL_up, hpN_nil, hpN_cons, hk0, go_sem, reduceCtorEq, ↓reduceIte, Nat.reduceAdd, Nat.reduceMul, Nat.reduceSub, Nat.reduceEqDiff, Nat.reduceLT, Nat.reduceBEq, Nat.reduceBNe, Nat.reduceLeDiff, Int.reduceLE, Int.reduceLT, Int.reduceToNat, Int.reduceEq, Int.reduceAdd, UInt8.reduceToNat, UInt32.reduceToNat, UInt64.reduceToNat, UInt8.reduceOfNat, UInt32.reduceOfNat, UInt64.reduceOfNat, Fin.isValue, Int.reduceSub, Int.reduceMul, Int.reduceNeg, Int.reduceMod, Int.reduceDiv, Int.reduceTDiv, Int.reduceTMod, Int.reduceBEq, Int.reduceBNe, Nat.reduceDiv, Nat.reducePow]
  all_goals first
    | rfl
    | trivial
    | trace_state
set_option maxRecDepth 100000 in
theorem rstate_tri : TriG Tryd.prog GS 25 [] [] (.c (.one (.sl 0 0 1 8))) [(0, ⟨.arr UInt32 u32L init8.l, true⟩)] := by
  refine tri_ofx (envSK_ok hk0_ok 2 []) Tryd.func25 rfl rfl (rs := [.tmp 0]) rfl rfl (by simp [envSK]) rfl ?_
  simp only [envSK, con0, conS, strsOf_arr, rowS_arr, strsOf_cells, rowS_cells, toS, strL_st, strL_d, strL_enc, strL_up, hpN_nil, hpN_cons, hk0, retQx, go_sem, reduceCtorEq, ↓reduceIte, Nat.reduceAdd, Nat.reduceMul, Nat.reduceSub, Nat.reduceEqDiff, Nat.reduceLT, Nat.reduceBEq, Nat.reduceBNe, Nat.reduceLeDiff, Int.reduceLE, Int.reduceLT, Int.reduceToNat, Int.reduceEq, Int.reduceAdd, UInt8.reduceToNat, UInt32.reduceToNat, UInt64.reduceToNat, UInt8.reduceOfNat, UInt32.reduceOfNat, UInt64.reduceOfNat, Fin.isValue, Int.reduceSub, Int.reduceMul, Int.reduceNeg, Int.reduceMod, Int.reduceDiv, Int.reduceTDiv, Int.reduceTMod, Int.reduceBEq, Int.reduceBNe, Nat.reduceDiv, Nat.reducePow]
  refine endX [(0, 20000)] ?_
  simp only [W8.l, init8, u32_flat, u32L_st, envSK, con0, conS, strsOf_arr, rowS_arr, strsOf_cells, rowS_cells, toS, strL_st, strL_d, strL_enc, strL_up, hpN_nil, hpN_cons, hk0, go_sem, reduceCtorEq, ↓reduceIte, Nat.reduceAdd, Nat.reduceMul, Nat.reduceSub, Nat.reduceEqDiff, Nat.reduceLT, Nat.reduceBEq, Nat.reduceBNe, Nat.reduceLeDiff, Int.reduceLE, Int.reduceLT, Int.reduceToNat, Int.reduceEq, Int.reduceAdd, UInt8.reduceToNat, UInt32.reduceToNat, UInt64.reduceToNat, UInt8.reduceOfNat, UInt32.reduceOfNat, UInt64.reduceOfNat, Fin.isValue, Int.reduceSub, Int.reduceMul, Int.reduceNeg, Int.reduceMod, Int.reduceDiv, Int.reduceTDiv, Int.reduceTMod, Int.reduceBEq, Int.reduceBNe, Nat.reduceDiv, Nat.reducePow]
  all_goals first
    | rfl
    | trivial
    | trace_state
def roundsF : List CV → List SObj → Option (SV × List SObj × List Prop)
  | [], [] => some (.c (.one (.sl 0 0 1 64)), [.arr UInt32 u32L kL], [])
  | _, _ => none
def rstateF : List CV → List SObj → Option (SV × List SObj × List Prop)
  | [], [] => some (.c (.one (.sl 0 0 1 8)), [.arr UInt32 u32L init8.l], [])
  | _, _ => none
def roundsC : Con := conQ roundsF
def rstateC : Con := conQ rstateF
theorem roundsC_ok : ConOkG Tryd.prog GS 13 roundsC := conQ_ok Tryd.func13 rfl rfl fun args es v nw ob h hob => by
  unfold roundsF at h
  split at h
  · rename_i heq
    obtain rfl : es = [] := List.map_eq_nil_iff.1 heq
    simp only [Option.some.injEq, Prod.mk.injEq] at h
    obtain ⟨rfl, rfl, rfl⟩ := h
    exact rounds_tri
  · cases h
theorem rstateC_ok : ConOkG Tryd.prog GS 25 rstateC := conQ_ok Tryd.func25 rfl rfl fun args es v nw ob h hob => by
  unfold rstateF at h
  split at h
  · rename_i heq
    obtain rfl : es = [] := List.map_eq_nil_iff.1 heq
    simp only [Option.some.injEq, Prod.mk.injEq] at h
    obtain ⟨rfl, rfl, rfl⟩ := h
    exact rstate_tri
  · cases h
end Go.Proofs.YtdkogjjebbdngaaDoor
