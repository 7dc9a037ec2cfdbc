/-
  Layer 3: the document's sums, differences, products of 16 digits, walked; their values.
-/
import Derived.Test.YtdkmkifebhggeaaSz
import Derived.Test.YtdkmkifebhggeaaKr
import Derived.Test.YtdkmkifebhggeaaKa
import Derived.Test.YtdkmkifebhggeaaRs
namespace Go.Proofs.Ytdkmkifebhggeaa
open Go Go.RowKit
set_option maxHeartbeats 4000000
set_option linter.unusedSimpArgs false
set_option linter.unusedVariables false
/-- Contracts that read any rows, and make objects. -/
def conQ (F : List CV → List SObj → Option (SV × List SObj × List Prop)) : Con := ⟨false, fun args os => match F args os with
  | some (v, nw, ob) => some (v, [], nw, ob)
  | none => none⟩
theorem conQ_ok {P : Program} {f : FuncId} {fn : Func} (hf : P.funcs[f]? = some fn) (hb : fn.body.isSome = true) (hn : (fn.name == "runtime.NumGoroutine") = false) {F : List CV → List SObj → Option (SV × List SObj × List Prop)}
    (h1 : ∀ args (es : List Ent) v nw ob, F args (es.map (·.o)) = some (v, nw, ob) → AllT ob → Tri P f args (numb 0 es) v (numb 0 (es ++ nw.map fun o => ⟨o, true⟩))) : ConOk P f (conQ F) := by
  refine .inl ⟨⟨fn, hf, hb, hn⟩, fun args es res upd news ob hr hob _ => ?_⟩
  unfold conQ at hr
  simp only at hr
  cases hF : F args (es.map (·.o)) with
  | none => rw [hF] at hr; cases hr
  | some q =>
    obtain ⟨v, nw, ob'⟩ := q
    simp only [hF, Option.some.injEq, Prod.mk.injEq] at hr
    obtain ⟨rfl, rfl, rfl, rfl⟩ := hr
    rw [post_news]
    exact h1 args es _ _ _ hF hob
def redQF : List CV → List SObj → Option (SV × List SObj × List Prop)
  | [.one (.sl 0 0 1 n)], [o] => if redStop (natsOf o) = true then some (.c (.one (.sl 0 0 1 16)), [], [n = (natsOf o).length, rowOf o, goodW (natsOf o)]) else some (.c (.one (.sl 1 0 1 16)), [.arr Nat natL (redRow (natsOf o))], [n = (natsOf o).length, rowOf o, goodW (natsOf o)])
  | _, _ => none
def redQC : Con := conQ redQF
theorem redQC_ok : ConOk Try.prog 35 redQC := conQ_ok Try.func35 rfl rfl fun args es v nw ob h hob => by
  unfold redQF at h
  split at h
  · rename_i k o heq
    match es, heq with
    | [e], heq =>
      simp only [List.map_cons, List.map_nil, List.cons.injEq, and_true] at heq
      subst heq
      split at h
      · rename_i hs
        simp only [Option.some.injEq, Prod.mk.injEq] at h
        obtain ⟨rfl, rfl, rfl⟩ := h
        obtain ⟨rfl, h2, h3, _⟩ := hob
        exact (redA_tri _ e.wr h3 hs).sim (.cons (simE_row h2 e.wr) .nil) (.cons (simE_row h2 e.wr) .nil)
      · rename_i hs
        simp only [Option.some.injEq, Prod.mk.injEq] at h
        obtain ⟨rfl, rfl, rfl⟩ := h
        obtain ⟨rfl, h2, h3, _⟩ := hob
        exact (redB_tri _ e.wr h3 hs).sim (.cons (simE_row h2 e.wr) .nil) (.cons (simE_row h2 e.wr) (.cons (.refl _) .nil))
  · cases h
/-- A reduced row, and its value. -/
def vW (a : List Nat) : Nat := dv 65536 (a.take 16)
structure goodR (a : List Nat) : Prop where
  w : goodW a
  v : vW a < 57896044618658097711785492504343953926634992332820282019728792003956564819949
def rAdd (a b : List Nat) : List Nat := redRow (addL 65536 (a.take 16) (b.take 16))
def rSub (a b : List Nat) : List Nat := redRow (addL 65536 (a.take 16) (minL 65536 primeL b))
def rMul (a b : List Nat) : List Nat := redRow (timesL 65536 (a.take 16) (b.take 16))
theorem good_len {a : List Nat} (h : goodW a) : (a.take 16).length = 16 := by rw [List.length_take]; have := h.lo; omega
theorem good_add {a b : List Nat} (ha : goodW a) (hb : goodW b) : goodW (addL 65536 (a.take 16) (b.take 16)) := by
  have h := addLen_bd 65536 (a.take 16) (b.take 16)
  rw [good_len ha, good_len hb, ← addL_len] at h
  exact ⟨addL_lt (by decide) _ _, by omega, by omega⟩
theorem good_mul {a b : List Nat} (ha : goodW a) (hb : goodW b) : goodW (timesL 65536 (a.take 16) (b.take 16)) := by
  have h := timesL_len 65536 (a.take 16) (b.take 16)
  rw [good_len ha, good_len hb] at h
  exact ⟨timesL_lt (by decide) (dltT ha.1 16) (dltT hb.1 16), by omega, by omega⟩
theorem prime_take : primeL.take 16 = primeL := rfl
theorem prime_len : primeL.length = 16 := rfl
theorem min_b (B : Nat) (a b : List Nat) : ∀ i, i ≤ 16 → minG B a (b.take 16) i = minG B a b i
  | 0, _ => rfl
  | i + 1, h => by
    rw [minG, minG, min_b B a b i (by omega)]
    have : (b.take 16).getD i 0 = b.getD i 0 := by
      rw [List.getD_eq_getElem?_getD, List.getD_eq_getElem?_getD, List.getElem?_take_of_lt (by omega)]
    unfold minT
    rw [this]
theorem min_spec {b : List Nat} (hb : goodR b) : dv 65536 (minL 65536 primeL b) = 57896044618658097711785492504343953926634992332820282019728792003956564819949 - vW b ∧ dlt 65536 (minL 65536 primeL b) ∧ (minL 65536 primeL b).length = 16 := by
  have e : minL 65536 primeL b = minL 65536 primeL (b.take 16) := by
    unfold minL; rw [min_b _ _ _ _ (Nat.le_refl _)]
  have h := minL_v (by decide : 1 < 65536) prime_lt (dltT hb.1.1 16) prime_len (good_len hb.1) (by rw [primeL_v]; exact Nat.le_of_lt hb.2)
  rw [e, ← primeL_v]
  exact h
theorem good_sub {a b : List Nat} (ha : goodW a) (hb : goodR b) : goodW (addL 65536 (a.take 16) (minL 65536 primeL b)) := by
  have h := addLen_bd 65536 (a.take 16) (minL 65536 primeL b)
  rw [good_len ha, (min_spec hb).2.2, ← addL_len] at h
  exact ⟨addL_lt (by decide) _ _, by omega, by omega⟩
theorem red_good {a : List Nat} (h : goodW a) : goodR (redRow a) ∧ vW (redRow a) = dv 65536 a % 57896044618658097711785492504343953926634992332820282019728792003956564819949 := by
  obtain ⟨h1, h2⟩ := redRow_spec h
  exact ⟨⟨h1, by unfold vW; rw [h2]; exact Nat.mod_lt _ (by decide)⟩, h2⟩
theorem rAdd_spec {a b : List Nat} (ha : goodR a) (hb : goodR b) : goodR (rAdd a b) ∧ vW (rAdd a b) = (vW a + vW b) % 57896044618658097711785492504343953926634992332820282019728792003956564819949 := by
  obtain ⟨h1, h2⟩ := red_good (good_add ha.1 hb.1)
  rw [addL_v (by decide) (dltT ha.1.1 16) (dltT hb.1.1 16)] at h2
  exact ⟨h1, h2⟩
theorem rSub_spec {a b : List Nat} (ha : goodR a) (hb : goodR b) : goodR (rSub a b) ∧ vW (rSub a b) = (vW a + (57896044618658097711785492504343953926634992332820282019728792003956564819949 - vW b)) % 57896044618658097711785492504343953926634992332820282019728792003956564819949 := by
  obtain ⟨h1, h2⟩ := red_good (good_sub ha.1 hb)
  rw [addL_v (by decide) (dltT ha.1.1 16) (min_spec hb).2.1, (min_spec hb).1] at h2
  exact ⟨h1, h2⟩
theorem rMul_spec {a b : List Nat} (ha : goodR a) (hb : goodR b) : goodR (rMul a b) ∧ vW (rMul a b) = (vW a * vW b) % 57896044618658097711785492504343953926634992332820282019728792003956564819949 := by
  obtain ⟨h1, h2⟩ := red_good (good_mul ha.1 hb.1)
  rw [timesL_v] at h2
  exact ⟨h1, h2⟩
def fw (a : List Nat) : Fin p25519 := Fin.ofNat p25519 (vW a)
theorem fw_add {a b : List Nat} (ha : goodR a) (hb : goodR b) : fw (rAdd a b) = fw a + fw b := by
  unfold fw; rw [(rAdd_spec ha hb).2, ← fn_add]; exact fn_eq.2 (Nat.mod_mod _ _)
theorem fw_mul {a b : List Nat} (ha : goodR a) (hb : goodR b) : fw (rMul a b) = fw a * fw b := by
  unfold fw; rw [(rMul_spec ha hb).2, ← fn_mul]; exact fn_eq.2 (Nat.mod_mod _ _)
theorem fw_sub {a b : List Nat} (ha : goodR a) (hb : goodR b) : fw (rSub a b) = fw a - fw b := by
  refine fn_sub _ ?_
  have h := hb.2
  rw [(rSub_spec ha hb).2]
  show _ % 57896044618658097711785492504343953926634992332820282019728792003956564819949 = _ % 57896044618658097711785492504343953926634992332820282019728792003956564819949
  omega
theorem goodR.add {a b : List Nat} (ha : goodR a) (hb : goodR b) : goodR (rAdd a b) := (rAdd_spec ha hb).1
theorem goodR.sub {a b : List Nat} (ha : goodR a) (hb : goodR b) : goodR (rSub a b) := (rSub_spec ha hb).1
theorem goodR.mul {a b : List Nat} (ha : goodR a) (hb : goodR b) : goodR (rMul a b) := (rMul_spec ha hb).1
def gt1 : Nat → Option Con := fun f => match f with
  | 36 => some gaddC
  | 41 => some gtimes2C
  | 38 => some gprimeC
  | 37 => some gminC
  | 35 => some redQC
  | _ => none
theorem gt1_ok : GaOk Try.prog gt1 := fun f con h => by
  unfold gt1 at h
  split at h
  · injection h with h; subst h; exact gaddC_ok
  · injection h with h; subst h; exact gtimes2C_ok
  · injection h with h; subst h; exact gprimeC_ok
  · injection h with h; subst h; exact gminC_ok
  · injection h with h; subst h; exact redQC_ok
  · cases h
set_option maxRecDepth 100000 in
theorem radd_tri (a b : List Nat) (wa wb : Bool) (ha : goodW a) (hb : goodW b) : Tri Try.prog 15 [.one (.sl 0 0 1 16), .one (.sl 1 0 1 16)] [(0, ⟨.arr Nat natL a, wa⟩), (1, ⟨.arr Nat natL b, wb⟩)] (.c (.one (.sl 2 0 1 16))) [(0, ⟨.arr Nat natL a, wa⟩), (1, ⟨.arr Nat natL b, wb⟩), (2, ⟨.arr Nat natL (rAdd a b), true⟩)] := by
  have hg := good_add ha hb
  obtain ⟨a1, a2, a3⟩ := ha
  obtain ⟨b1, b2, b3⟩ := hb
  have d1 := dltT a1 16
  have d2 := dltT b1 16
  refine tri_ofx (envR_ok gt1_ok 9 [0, 1]) Try.func15 rfl rfl (rs := [.tmp 4]) rfl rfl (by simp [envR]) rfl ?_
  cases hst : redStop (addL 65536 (a.take 16) (b.take 16)) with
  | true =>
    have hr := redRow_stop hst
    simp only [hst, conQ, conOr, gsquareC, gtimesC, gtimes2C, redQF, retQx, List.take_length, prime_take, prime_len, envR, con0, conN0, conN1, conN2, natsOf_arr, rowOf_arr, natsOf_cells, rowOf_cells, toN, natL_st, natL_d, natL_enc, natL_up, gt1, gaddC, gtimes2C, gprimeC, gminC, redQC, go_sem, reduceCtorEq, ↓reduceIte, Nat.reduceAdd, Nat.reduceMul, Nat.reduceSub, Nat.reduceEqDiff, Nat.reduceLT, Nat.reduceBEq, Nat.reduceBNe, Nat.reduceLeDiff, Int.reduceLE, Int.reduceLT, Int.reduceToNat, Int.reduceEq, Int.reduceAdd, UInt8.reduceToNat, UInt32.reduceToNat, UInt64.reduceToNat, UInt8.reduceOfNat, UInt32.reduceOfNat, UInt64.reduceOfNat, Fin.isValue, Int.reduceSub, Int.reduceMul, Int.reduceNeg, Int.reduceMod, Int.reduceDiv, Int.reduceTDiv, Int.reduceTMod, Int.reduceBEq, Int.reduceBNe, Nat.reduceDiv, Nat.reducePow]
    repeat' apply And.intro
    all_goals first
      | omega
      | exact d1
      | exact d2
      | exact hg
      | rfl
      | skip
    refine endX [(2, 20016)] ?_
    simp only [rAdd, hr, envR, con0, conN0, conN1, conN2, natsOf_arr, rowOf_arr, natsOf_cells, rowOf_cells, toN, natL_st, natL_d, natL_enc, natL_up, gt1, gaddC, gtimes2C, gprimeC, gminC, redQC, go_sem, reduceCtorEq, ↓reduceIte, Nat.reduceAdd, Nat.reduceMul, Nat.reduceSub, Nat.reduceEqDiff, Nat.reduceLT, Nat.reduceBEq, Nat.reduceBNe, Nat.reduceLeDiff, Int.reduceLE, Int.reduceLT, Int.reduceToNat, Int.reduceEq, Int.reduceAdd, UInt8.reduceToNat, UInt32.reduceToNat, UInt64.reduceToNat, UInt8.reduceOfNat, UInt32.reduceOfNat, UInt64.reduceOfNat, Fin.isValue, Int.reduceSub, Int.reduceMul, Int.reduceNeg, Int.reduceMod, Int.reduceDiv, Int.reduceTDiv, Int.reduceTMod, Int.reduceBEq, Int.reduceBNe, Nat.reduceDiv, Nat.reducePow]
    exact ⟨rfl, id, id⟩
  | false =>
    simp only [hst, conQ, conOr, gsquareC, gtimesC, gtimes2C, redQF, retQx, List.take_length, prime_take, prime_len, envR, con0, conN0, conN1, conN2, natsOf_arr, rowOf_arr, natsOf_cells, rowOf_cells, toN, natL_st, natL_d, natL_enc, natL_up, gt1, gaddC, gtimes2C, gprimeC, gminC, redQC, go_sem, reduceCtorEq, ↓reduceIte, Nat.reduceAdd, Nat.reduceMul, Nat.reduceSub, Nat.reduceEqDiff, Nat.reduceLT, Nat.reduceBEq, Nat.reduceBNe, Nat.reduceLeDiff, Int.reduceLE, Int.reduceLT, Int.reduceToNat, Int.reduceEq, Int.reduceAdd, UInt8.reduceToNat, UInt32.reduceToNat, UInt64.reduceToNat, UInt8.reduceOfNat, UInt32.reduceOfNat, UInt64.reduceOfNat, Fin.isValue, Int.reduceSub, Int.reduceMul, Int.reduceNeg, Int.reduceMod, Int.reduceDiv, Int.reduceTDiv, Int.reduceTMod, Int.reduceBEq, Int.reduceBNe, Nat.reduceDiv, Nat.reducePow]
    repeat' apply And.intro
    all_goals first
      | omega
      | exact d1
      | exact d2
      | exact hg
      | rfl
      | skip
    refine endX [(2, 20024)] ?_
    simp only [rAdd, envR, con0, conN0, conN1, conN2, natsOf_arr, rowOf_arr, natsOf_cells, rowOf_cells, toN, natL_st, natL_d, natL_enc, natL_up, gt1, gaddC, gtimes2C, gprimeC, gminC, redQC, go_sem, reduceCtorEq, ↓reduceIte, Nat.reduceAdd, Nat.reduceMul, Nat.reduceSub, Nat.reduceEqDiff, Nat.reduceLT, Nat.reduceBEq, Nat.reduceBNe, Nat.reduceLeDiff, Int.reduceLE, Int.reduceLT, Int.reduceToNat, Int.reduceEq, Int.reduceAdd, UInt8.reduceToNat, UInt32.reduceToNat, UInt64.reduceToNat, UInt8.reduceOfNat, UInt32.reduceOfNat, UInt64.reduceOfNat, Fin.isValue, Int.reduceSub, Int.reduceMul, Int.reduceNeg, Int.reduceMod, Int.reduceDiv, Int.reduceTDiv, Int.reduceTMod, Int.reduceBEq, Int.reduceBNe, Nat.reduceDiv, Nat.reducePow]
    exact ⟨rfl, id, id⟩
set_option maxRecDepth 100000 in
theorem rmul_tri (a b : List Nat) (wa wb : Bool) (ha : goodW a) (hb : goodW b) : Tri Try.prog 20 [.one (.sl 0 0 1 16), .one (.sl 1 0 1 16)] [(0, ⟨.arr Nat natL a, wa⟩), (1, ⟨.arr Nat natL b, wb⟩)] (.c (.one (.sl 2 0 1 16))) [(0, ⟨.arr Nat natL a, wa⟩), (1, ⟨.arr Nat natL b, wb⟩), (2, ⟨.arr Nat natL (rMul a b), true⟩)] := by
  have hg := good_mul ha hb
  obtain ⟨a1, a2, a3⟩ := ha
  obtain ⟨b1, b2, b3⟩ := hb
  have d1 := dltT a1 16
  have d2 := dltT b1 16
  refine tri_ofx (envR_ok gt1_ok 9 [0, 1]) Try.func20 rfl rfl (rs := [.tmp 4]) rfl rfl (by simp [envR]) rfl ?_
  cases hst : redStop (timesL 65536 (a.take 16) (b.take 16)) with
  | true =>
    have hr := redRow_stop hst
    simp only [hst, conQ, conOr, gsquareC, gtimesC, gtimes2C, redQF, retQx, List.take_length, prime_take, prime_len, envR, con0, conN0, conN1, conN2, natsOf_arr, rowOf_arr, natsOf_cells, rowOf_cells, toN, natL_st, natL_d, natL_enc, natL_up, gt1, gaddC, gtimes2C, gprimeC, gminC, redQC, go_sem, reduceCtorEq, ↓reduceIte, Nat.reduceAdd, Nat.reduceMul, Nat.reduceSub, Nat.reduceEqDiff, Nat.reduceLT, Nat.reduceBEq, Nat.reduceBNe, Nat.reduceLeDiff, Int.reduceLE, Int.reduceLT, Int.reduceToNat, Int.reduceEq, Int.reduceAdd, UInt8.reduceToNat, UInt32.reduceToNat, UInt64.reduceToNat, UInt8.reduceOfNat, UInt32.reduceOfNat, UInt64.reduceOfNat, Fin.isValue, Int.reduceSub, Int.reduceMul, Int.reduceNeg, Int.reduceMod, Int.reduceDiv, Int.reduceTDiv, Int.reduceTMod, Int.reduceBEq, Int.reduceBNe, Nat.reduceDiv, Nat.reducePow]
    repeat' apply And.intro
    all_goals first
      | omega
      | exact d1
      | exact d2
      | exact hg
      | rfl
      | skip
    refine endX [(2, 20016)] ?_
    simp only [rMul, hr, envR, con0, conN0, conN1, conN2, natsOf_arr, rowOf_arr, natsOf_cells, rowOf_cells, toN, natL_st, natL_d, natL_enc, natL_up, gt1, gaddC, gtimes2C, gprimeC, gminC, redQC, go_sem, reduceCtorEq, ↓reduceIte, Nat.reduceAdd, Nat.reduceMul, Nat.reduceSub, Nat.reduceEqDiff, Nat.reduceLT, Nat.reduceBEq, Nat.reduceBNe, Nat.reduceLeDiff, Int.reduceLE, Int.reduceLT, Int.reduceToNat, Int.reduceEq, Int.reduceAdd, UInt8.reduceToNat, UInt32.reduceToNat, UInt64.reduceToNat, UInt8.reduceOfNat, UInt32.reduceOfNat, UInt64.reduceOfNat, Fin.isValue, Int.reduceSub, Int.reduceMul, Int.reduceNeg, Int.reduceMod, Int.reduceDiv, Int.reduceTDiv, Int.reduceTMod, Int.reduceBEq, Int.reduceBNe, Nat.reduceDiv, Nat.reducePow]
    exact ⟨rfl, id, id⟩
  | false =>
    simp only [hst, conQ, conOr, gsquareC, gtimesC, gtimes2C, redQF, retQx, List.take_length, prime_take, prime_len, envR, con0, conN0, conN1, conN2, natsOf_arr, rowOf_arr, natsOf_cells, rowOf_cells, toN, natL_st, natL_d, natL_enc, natL_up, gt1, gaddC, gtimes2C, gprimeC, gminC, redQC, go_sem, reduceCtorEq, ↓reduceIte, Nat.reduceAdd, Nat.reduceMul, Nat.reduceSub, Nat.reduceEqDiff, Nat.reduceLT, Nat.reduceBEq, Nat.reduceBNe, Nat.reduceLeDiff, Int.reduceLE, Int.reduceLT, Int.reduceToNat, Int.reduceEq, Int.reduceAdd, UInt8.reduceToNat, UInt32.reduceToNat, UInt64.reduceToNat, UInt8.reduceOfNat, UInt32.reduceOfNat, UInt64.reduceOfNat, Fin.isValue, Int.reduceSub, Int.reduceMul, Int.reduceNeg, Int.reduceMod, Int.reduceDiv, Int.reduceTDiv, Int.reduceTMod, Int.reduceBEq, Int.reduceBNe, Nat.reduceDiv, Nat.reducePow]
    repeat' apply And.intro
    all_goals first
      | omega
      | exact d1
      | exact d2
      | exact hg
      | rfl
      | skip
    refine endX [(2, 20024)] ?_
    simp only [rMul, envR, con0, conN0, conN1, conN2, natsOf_arr, rowOf_arr, natsOf_cells, rowOf_cells, toN, natL_st, natL_d, natL_enc, natL_up, gt1, gaddC, gtimes2C, gprimeC, gminC, redQC, go_sem, reduceCtorEq, ↓reduceIte, Nat.reduceAdd, Nat.reduceMul, Nat.reduceSub, Nat.reduceEqDiff, Nat.reduceLT, Nat.reduceBEq, Nat.reduceBNe, Nat.reduceLeDiff, Int.reduceLE, Int.reduceLT, Int.reduceToNat, Int.reduceEq, Int.reduceAdd, UInt8.reduceToNat, UInt32.reduceToNat, UInt64.reduceToNat, UInt8.reduceOfNat, UInt32.reduceOfNat, UInt64.reduceOfNat, Fin.isValue, Int.reduceSub, Int.reduceMul, Int.reduceNeg, Int.reduceMod, Int.reduceDiv, Int.reduceTDiv, Int.reduceTMod, Int.reduceBEq, Int.reduceBNe, Nat.reduceDiv, Nat.reducePow]
    exact ⟨rfl, id, id⟩
set_option maxRecDepth 100000 in
theorem rsqr_tri (a : List Nat) (wa : Bool) (ha : goodW a) : Tri Try.prog 20 [.one (.sl 0 0 1 16), .one (.sl 0 0 1 16)] [(0, ⟨.arr Nat natL a, wa⟩)] (.c (.one (.sl 1 0 1 16))) [(0, ⟨.arr Nat natL a, wa⟩), (1, ⟨.arr Nat natL (rMul a a), true⟩)] := by
  have hg := good_mul ha ha
  obtain ⟨a1, a2, a3⟩ := ha
  have d1 := dltT a1 16
  refine tri_ofx (envR_ok gt1_ok 9 [0]) Try.func20 rfl rfl (rs := [.tmp 4]) rfl rfl (by simp [envR]) rfl ?_
  cases hst : redStop (timesL 65536 (a.take 16) (a.take 16)) with
  | true =>
    have hr := redRow_stop hst
    simp only [hst, conQ, conOr, gsquareC, gtimesC, gtimes2C, redQF, retQx, List.take_length, prime_take, prime_len, envR, con0, conN0, conN1, conN2, natsOf_arr, rowOf_arr, natsOf_cells, rowOf_cells, toN, natL_st, natL_d, natL_enc, natL_up, gt1, gaddC, gtimes2C, gprimeC, gminC, redQC, go_sem, reduceCtorEq, ↓reduceIte, Nat.reduceAdd, Nat.reduceMul, Nat.reduceSub, Nat.reduceEqDiff, Nat.reduceLT, Nat.reduceBEq, Nat.reduceBNe, Nat.reduceLeDiff, Int.reduceLE, Int.reduceLT, Int.reduceToNat, Int.reduceEq, Int.reduceAdd, UInt8.reduceToNat, UInt32.reduceToNat, UInt64.reduceToNat, UInt8.reduceOfNat, UInt32.reduceOfNat, UInt64.reduceOfNat, Fin.isValue, Int.reduceSub, Int.reduceMul, Int.reduceNeg, Int.reduceMod, Int.reduceDiv, Int.reduceTDiv, Int.reduceTMod, Int.reduceBEq, Int.reduceBNe, Nat.reduceDiv, Nat.reducePow]
    repeat' apply And.intro
    all_goals first
      | omega
      | exact d1
      | exact hg
      | rfl
      | skip
    refine endX [(1, 20016)] ?_
    simp only [rMul, hr, envR, con0, conN0, conN1, conN2, natsOf_arr, rowOf_arr, natsOf_cells, rowOf_cells, toN, natL_st, natL_d, natL_enc, natL_up, gt1, gaddC, gtimes2C, gprimeC, gminC, redQC, go_sem, reduceCtorEq, ↓reduceIte, Nat.reduceAdd, Nat.reduceMul, Nat.reduceSub, Nat.reduceEqDiff, Nat.reduceLT, Nat.reduceBEq, Nat.reduceBNe, Nat.reduceLeDiff, Int.reduceLE, Int.reduceLT, Int.reduceToNat, Int.reduceEq, Int.reduceAdd, UInt8.reduceToNat, UInt32.reduceToNat, UInt64.reduceToNat, UInt8.reduceOfNat, UInt32.reduceOfNat, UInt64.reduceOfNat, Fin.isValue, Int.reduceSub, Int.reduceMul, Int.reduceNeg, Int.reduceMod, Int.reduceDiv, Int.reduceTDiv, Int.reduceTMod, Int.reduceBEq, Int.reduceBNe, Nat.reduceDiv, Nat.reducePow]
    exact ⟨rfl, id⟩
  | false =>
    simp only [hst, conQ, conOr, gsquareC, gtimesC, gtimes2C, redQF, retQx, List.take_length, prime_take, prime_len, envR, con0, conN0, conN1, conN2, natsOf_arr, rowOf_arr, natsOf_cells, rowOf_cells, toN, natL_st, natL_d, natL_enc, natL_up, gt1, gaddC, gtimes2C, gprimeC, gminC, redQC, go_sem, reduceCtorEq, ↓reduceIte, Nat.reduceAdd, Nat.reduceMul, Nat.reduceSub, Nat.reduceEqDiff, Nat.reduceLT, Nat.reduceBEq, Nat.reduceBNe, Nat.reduceLeDiff, Int.reduceLE, Int.reduceLT, Int.reduceToNat, Int.reduceEq, Int.reduceAdd, UInt8.reduceToNat, UInt32.reduceToNat, UInt64.reduceToNat, UInt8.reduceOfNat, UInt32.reduceOfNat, UInt64.reduceOfNat, Fin.isValue, Int.reduceSub, Int.reduceMul, Int.reduceNeg, Int.reduceMod, Int.reduceDiv, Int.reduceTDiv, Int.reduceTMod, Int.reduceBEq, Int.reduceBNe, Nat.reduceDiv, Nat.reducePow]
    repeat' apply And.intro
    all_goals first
      | omega
      | exact d1
      | exact hg
      | rfl
      | skip
    refine endX [(1, 20024)] ?_
    simp only [rMul, envR, con0, conN0, conN1, conN2, natsOf_arr, rowOf_arr, natsOf_cells, rowOf_cells, toN, natL_st, natL_d, natL_enc, natL_up, gt1, gaddC, gtimes2C, gprimeC, gminC, redQC, go_sem, reduceCtorEq, ↓reduceIte, Nat.reduceAdd, Nat.reduceMul, Nat.reduceSub, Nat.reduceEqDiff, Nat.reduceLT, Nat.reduceBEq, Nat.reduceBNe, Nat.reduceLeDiff, Int.reduceLE, Int.reduceLT, Int.reduceToNat, Int.reduceEq, Int.reduceAdd, UInt8.reduceToNat, UInt32.reduceToNat, UInt64.reduceToNat, UInt8.reduceOfNat, UInt32.reduceOfNat, UInt64.reduceOfNat, Fin.isValue, Int.reduceSub, Int.reduceMul, Int.reduceNeg, Int.reduceMod, Int.reduceDiv, Int.reduceTDiv, Int.reduceTMod, Int.reduceBEq, Int.reduceBNe, Nat.reduceDiv, Nat.reducePow]
    exact ⟨rfl, id⟩
set_option maxRecDepth 100000 in
theorem rsub_tri (a b : List Nat) (wa wb : Bool) (ha : goodW a) (hb : goodR b) : Tri Try.prog 17 [.one (.sl 0 0 1 16), .one (.sl 1 0 1 16)] [(0, ⟨.arr Nat natL a, wa⟩), (1, ⟨.arr Nat natL b, wb⟩)] (.c (.one (.sl 2 0 1 16))) [(0, ⟨.arr Nat natL a, wa⟩), (1, ⟨.arr Nat natL b, wb⟩), (2, ⟨.arr Nat natL (rSub a b), true⟩)] := by
  have hg := good_sub ha hb
  obtain ⟨_, m2, m3⟩ := min_spec hb
  have tmin : (minL 65536 primeL b).take 16 = minL 65536 primeL b := List.take_of_length_le (by omega)
  have lmin : (minL 65536 primeL b).length = 16 := m3
  obtain ⟨⟨b1, b2, b3⟩, _⟩ := hb
  obtain ⟨a1, a2, a3⟩ := ha
  have d1 := dltT a1 16
  refine tri_ofx (envR_ok gt1_ok 11 [0, 1]) Try.func17 rfl rfl (rs := [.tmp 4]) rfl rfl (by simp [envR]) rfl ?_
  cases hst : redStop (addL 65536 (a.take 16) (minL 65536 primeL b)) with
  | true =>
    have hr := redRow_stop hst
    simp only [hst, conQ, conOr, gsquareC, gtimesC, gtimes2C, redQF, retQx, List.take_length, prime_take, prime_len, tmin, lmin, envR, con0, conN0, conN1, conN2, natsOf_arr, rowOf_arr, natsOf_cells, rowOf_cells, toN, natL_st, natL_d, natL_enc, natL_up, gt1, gaddC, gtimes2C, gprimeC, gminC, redQC, go_sem, reduceCtorEq, ↓reduceIte, Nat.reduceAdd, Nat.reduceMul, Nat.reduceSub, Nat.reduceEqDiff, Nat.reduceLT, Nat.reduceBEq, Nat.reduceBNe, Nat.reduceLeDiff, Int.reduceLE, Int.reduceLT, Int.reduceToNat, Int.reduceEq, Int.reduceAdd, UInt8.reduceToNat, UInt32.reduceToNat, UInt64.reduceToNat, UInt8.reduceOfNat, UInt32.reduceOfNat, UInt64.reduceOfNat, Fin.isValue, Int.reduceSub, Int.reduceMul, Int.reduceNeg, Int.reduceMod, Int.reduceDiv, Int.reduceTDiv, Int.reduceTMod, Int.reduceBEq, Int.reduceBNe, Nat.reduceDiv, Nat.reducePow]
    repeat' apply And.intro
    all_goals first
      | omega
      | exact d1
      | exact b1
      | exact m2
      | exact prime_lt
      | exact hg
      | rfl
      | skip
    refine endX [(2, 20032)] ?_
    simp only [rSub, hr, envR, con0, conN0, conN1, conN2, natsOf_arr, rowOf_arr, natsOf_cells, rowOf_cells, toN, natL_st, natL_d, natL_enc, natL_up, gt1, gaddC, gtimes2C, gprimeC, gminC, redQC, go_sem, reduceCtorEq, ↓reduceIte, Nat.reduceAdd, Nat.reduceMul, Nat.reduceSub, Nat.reduceEqDiff, Nat.reduceLT, Nat.reduceBEq, Nat.reduceBNe, Nat.reduceLeDiff, Int.reduceLE, Int.reduceLT, Int.reduceToNat, Int.reduceEq, Int.reduceAdd, UInt8.reduceToNat, UInt32.reduceToNat, UInt64.reduceToNat, UInt8.reduceOfNat, UInt32.reduceOfNat, UInt64.reduceOfNat, Fin.isValue, Int.reduceSub, Int.reduceMul, Int.reduceNeg, Int.reduceMod, Int.reduceDiv, Int.reduceTDiv, Int.reduceTMod, Int.reduceBEq, Int.reduceBNe, Nat.reduceDiv, Nat.reducePow]
    exact ⟨rfl, id, id⟩
  | false =>
    simp only [hst, conQ, conOr, gsquareC, gtimesC, gtimes2C, redQF, retQx, List.take_length, prime_take, prime_len, tmin, lmin, envR, con0, conN0, conN1, conN2, natsOf_arr, rowOf_arr, natsOf_cells, rowOf_cells, toN, natL_st, natL_d, natL_enc, natL_up, gt1, gaddC, gtimes2C, gprimeC, gminC, redQC, go_sem, reduceCtorEq, ↓reduceIte, Nat.reduceAdd, Nat.reduceMul, Nat.reduceSub, Nat.reduceEqDiff, Nat.reduceLT, Nat.reduceBEq, Nat.reduceBNe, Nat.reduceLeDiff, Int.reduceLE, Int.reduceLT, Int.reduceToNat, Int.reduceEq, Int.reduceAdd, UInt8.reduceToNat, UInt32.reduceToNat, UInt64.reduceToNat, UInt8.reduceOfNat, UInt32.reduceOfNat, UInt64.reduceOfNat, Fin.isValue, Int.reduceSub, Int.reduceMul, Int.reduceNeg, Int.reduceMod, Int.reduceDiv, Int.reduceTDiv, Int.reduceTMod, Int.reduceBEq, Int.reduceBNe, Nat.reduceDiv, Nat.reducePow]
    repeat' apply And.intro
    all_goals first
      | omega
      | exact d1
      | exact b1
      | exact m2
      | exact prime_lt
      | exact hg
      | rfl
      | skip
    refine endX [(2, 20040)] ?_
    simp only [rSub, envR, con0, conN0, conN1, conN2, natsOf_arr, rowOf_arr, natsOf_cells, rowOf_cells, toN, natL_st, natL_d, natL_enc, natL_up, gt1, gaddC, gtimes2C, gprimeC, gminC, redQC, go_sem, reduceCtorEq, ↓reduceIte, Nat.reduceAdd, Nat.reduceMul, Nat.reduceSub, Nat.reduceEqDiff, Nat.reduceLT, Nat.reduceBEq, Nat.reduceBNe, Nat.reduceLeDiff, Int.reduceLE, Int.reduceLT, Int.reduceToNat, Int.reduceEq, Int.reduceAdd, UInt8.reduceToNat, UInt32.reduceToNat, UInt64.reduceToNat, UInt8.reduceOfNat, UInt32.reduceOfNat, UInt64.reduceOfNat, Fin.isValue, Int.reduceSub, Int.reduceMul, Int.reduceNeg, Int.reduceMod, Int.reduceDiv, Int.reduceTDiv, Int.reduceTMod, Int.reduceBEq, Int.reduceBNe, Nat.reduceDiv, Nat.reducePow]
    exact ⟨rfl, id, id⟩
def row2F (r : List Nat → List Nat → List Nat) : List CV → List SObj → Option (SV × List SObj × List Prop)
  | [.one (.sl 0 0 1 16), .one (.sl 1 0 1 16)], [o, q] => some (.c (.one (.sl 2 0 1 16)), [.arr Nat natL (r (natsOf o) (natsOf q))], [rowOf o, rowOf q, goodR (natsOf o), goodR (natsOf q)])
  | [.one (.sl 0 0 1 16), .one (.sl 0 0 1 16)], [o] => some (.c (.one (.sl 1 0 1 16)), [.arr Nat natL (r (natsOf o) (natsOf o))], [rowOf o, goodR (natsOf o)])
  | _, _ => none
def row1F (r : List Nat → List Nat → List Nat) : List CV → List SObj → Option (SV × List SObj × List Prop)
  | [.one (.sl 0 0 1 16), .one (.sl 1 0 1 16)], [o, q] => some (.c (.one (.sl 2 0 1 16)), [.arr Nat natL (r (natsOf o) (natsOf q))], [rowOf o, rowOf q, goodR (natsOf o), goodR (natsOf q)])
  | _, _ => none
theorem row2_ok {P : Program} {f : FuncId} {fn : Func} (hf : P.funcs[f]? = some fn) (hb : fn.body.isSome = true) (hn : (fn.name == "runtime.NumGoroutine") = false) {r : List Nat → List Nat → List Nat}
    (h2 : ∀ a b wa wb, goodR a → goodR b → Tri P f [.one (.sl 0 0 1 16), .one (.sl 1 0 1 16)] [(0, ⟨.arr Nat natL a, wa⟩), (1, ⟨.arr Nat natL b, wb⟩)] (.c (.one (.sl 2 0 1 16))) [(0, ⟨.arr Nat natL a, wa⟩), (1, ⟨.arr Nat natL b, wb⟩), (2, ⟨.arr Nat natL (r a b), true⟩)])
    (h1 : ∀ a wa, goodR a → Tri P f [.one (.sl 0 0 1 16), .one (.sl 0 0 1 16)] [(0, ⟨.arr Nat natL a, wa⟩)] (.c (.one (.sl 1 0 1 16))) [(0, ⟨.arr Nat natL a, wa⟩), (1, ⟨.arr Nat natL (r a a), true⟩)]) : ConOk P f (conQ (row2F r)) := conQ_ok hf hb hn fun args es v nw ob h hob => by
  unfold row2F at h
  split at h
  · rename_i o q heq
    match es, heq with
    | [e, e'], heq =>
      simp only [List.map_cons, List.map_nil, List.cons.injEq, and_true] at heq
      obtain ⟨rfl, rfl⟩ := heq
      simp only [Option.some.injEq, Prod.mk.injEq] at h
      obtain ⟨rfl, rfl, rfl⟩ := h
      obtain ⟨o1, o2, o3, o4, _⟩ := hob
      exact (h2 _ _ e.wr e'.wr o3 o4).sim (.cons (simE_row o1 e.wr) (.cons (simE_row o2 e'.wr) .nil)) (.cons (simE_row o1 e.wr) (.cons (simE_row o2 e'.wr) (.cons (.refl _) .nil)))
  · rename_i o heq
    match es, heq with
    | [e], heq =>
      simp only [List.map_cons, List.map_nil, List.cons.injEq, and_true] at heq
      subst heq
      simp only [Option.some.injEq, Prod.mk.injEq] at h
      obtain ⟨rfl, rfl, rfl⟩ := h
      obtain ⟨o1, o3, _⟩ := hob
      exact (h1 _ e.wr o3).sim (.cons (simE_row o1 e.wr) .nil) (.cons (simE_row o1 e.wr) (.cons (.refl _) .nil))
  · cases h
theorem row1_ok {P : Program} {f : FuncId} {fn : Func} (hf : P.funcs[f]? = some fn) (hb : fn.body.isSome = true) (hn : (fn.name == "runtime.NumGoroutine") = false) {r : List Nat → List Nat → List Nat}
    (h2 : ∀ a b wa wb, goodR a → goodR b → Tri P f [.one (.sl 0 0 1 16), .one (.sl 1 0 1 16)] [(0, ⟨.arr Nat natL a, wa⟩), (1, ⟨.arr Nat natL b, wb⟩)] (.c (.one (.sl 2 0 1 16))) [(0, ⟨.arr Nat natL a, wa⟩), (1, ⟨.arr Nat natL b, wb⟩), (2, ⟨.arr Nat natL (r a b), true⟩)]) : ConOk P f (conQ (row1F r)) := conQ_ok hf hb hn fun args es v nw ob h hob => by
  unfold row1F at h
  split at h
  · rename_i o q heq
    match es, heq with
    | [e, e'], heq =>
      simp only [List.map_cons, List.map_nil, List.cons.injEq, and_true] at heq
      obtain ⟨rfl, rfl⟩ := heq
      simp only [Option.some.injEq, Prod.mk.injEq] at h
      obtain ⟨rfl, rfl, rfl⟩ := h
      obtain ⟨o1, o2, o3, o4, _⟩ := hob
      exact (h2 _ _ e.wr e'.wr o3 o4).sim (.cons (simE_row o1 e.wr) (.cons (simE_row o2 e'.wr) .nil)) (.cons (simE_row o1 e.wr) (.cons (simE_row o2 e'.wr) (.cons (.refl _) .nil)))
  · cases h
def raddC : Con := conQ (row1F rAdd)
theorem raddC_ok : ConOk Try.prog 15 raddC := row1_ok Try.func15 rfl rfl fun a b wa wb ha hb => radd_tri a b wa wb ha.w hb.w
def rsubC : Con := conQ (row1F rSub)
theorem rsubC_ok : ConOk Try.prog 17 rsubC := row1_ok Try.func17 rfl rfl fun a b wa wb ha hb => rsub_tri a b wa wb ha.w hb
def rmulC : Con := conQ (row2F rMul)
theorem rmulC_ok : ConOk Try.prog 20 rmulC := row2_ok Try.func20 rfl rfl (fun a b wa wb ha hb => rmul_tri a b wa wb ha.w hb.w) fun a wa ha => rsqr_tri a wa ha.w
end Go.Proofs.Ytdkmkifebhggeaa
