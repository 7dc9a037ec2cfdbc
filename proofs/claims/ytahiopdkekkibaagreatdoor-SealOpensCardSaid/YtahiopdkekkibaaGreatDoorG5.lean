/-
  Put together: Kt, Ku, Km, K7, K3, Ko, K9, Da, Pv, Db, Dc, Dd, De, Df, Dg, Ch, Ci, Cj, Ck, Ad.
-/
import Derived.Test.YtahiopdkekkibaaGreatDoorSz
import Derived.Test.YtahiopdkekkibaaGreatDoorG1
import Derived.Test.YtahiopdkekkibaaGreatDoorG3
import Derived.Test.YtahiopdkekkibaaGreatDoorG4
import Derived.Laws.Externs
import Derived.Test.YtahiopdkekkibaaGreatDoorRows
/-
  Layer 3: the document's sums, differences, products of 16 digits, walked; their values.
-/
namespace Go.Proofs.YtahiopdkekkibaaGreatDoor.FK
open Go Go.RowKit
set_option maxHeartbeats 4000000
set_option linter.unusedSimpArgs false
set_option linter.unusedVariables false
/-- Contracts that read any rows, and make objects. -/
def conQ (F : List CV → List SObj → Option (SV × List SObj × List Prop)) : Con := ⟨false, fun args os => match F args os with
  | some (v, nw, ob) => some (v, [], nw, ob)
  | none => none⟩
theorem conQ_ok {P : Program} {f : FuncId} {fn : Func} (hf : P.funcs[f]? = some fn) (hb : fn.body.isSome = true) (hn : (fn.name == "runtime.NumGoroutine") = false) {F : List CV → List SObj → Option (SV × List SObj × List Prop)}
    (h1 : ∀ args (es : List Ent) v nw ob, F args (es.map (·.o)) = some (v, nw, ob) → AllT ob → Tri P f args (numb 0 es) v (numb 0 (es ++ nw.map fun o => ⟨o, true⟩))) : ConOk P f (conQ F) := by
  refine .inl ⟨⟨fn, hf, hb, hn⟩, fun args es res upd news ob hr hob _ => ?_⟩
  unfold conQ at hr
  simp only at hr
  cases hF : F args (es.map (·.o)) with
  | none => rw [hF] at hr; cases hr
  | some q =>
    obtain ⟨v, nw, ob'⟩ := q
    simp only [hF, Option.some.injEq, Prod.mk.injEq] at hr
    obtain ⟨rfl, rfl, rfl, rfl⟩ := hr
    rw [post_news]
    exact h1 args es _ _ _ hF hob
def redQF : List CV → List SObj → Option (SV × List SObj × List Prop)
  | [.one (.sl 0 0 1 n)], [o] => if redStop (natsOf o) = true then some (.c (.one (.sl 0 0 1 16)), [], [n = (natsOf o).length, rowOf o, goodW (natsOf o)]) else some (.c (.one (.sl 1 0 1 16)), [.arr Nat natL (redRow (natsOf o))], [n = (natsOf o).length, rowOf o, goodW (natsOf o)])
  | _, _ => none
def redQC : Con := conQ redQF
theorem redQC_ok : ConOk Tryz.prog 110 redQC := conQ_ok Tryz.func110 rfl rfl fun args es v nw ob h hob => by
  unfold redQF at h
  split at h
  · rename_i k o heq
    match es, heq with
    | [e], heq =>
      simp only [List.map_cons, List.map_nil, List.cons.injEq, and_true] at heq
      subst heq
      split at h
      · rename_i hs
        simp only [Option.some.injEq, Prod.mk.injEq] at h
        obtain ⟨rfl, rfl, rfl⟩ := h
        obtain ⟨rfl, h2, h3, _⟩ := hob
        exact (redA_tri _ e.wr h3 hs).sim (.cons (simE_row h2 e.wr) .nil) (.cons (simE_row h2 e.wr) .nil)
      · rename_i hs
        simp only [Option.some.injEq, Prod.mk.injEq] at h
        obtain ⟨rfl, rfl, rfl⟩ := h
        obtain ⟨rfl, h2, h3, _⟩ := hob
        exact (redB_tri _ e.wr h3 hs).sim (.cons (simE_row h2 e.wr) .nil) (.cons (simE_row h2 e.wr) (.cons (.refl _) .nil))
  · cases h
/-- A reduced row, and its value. -/
def vW (a : List Nat) : Nat := dv 65536 (a.take 16)
structure goodR (a : List Nat) : Prop where
  w : goodW a
  v : vW a < 57896044618658097711785492504343953926634992332820282019728792003956564819949
def rAdd (a b : List Nat) : List Nat := redRow (addL 65536 (a.take 16) (b.take 16))
def rSub (a b : List Nat) : List Nat := redRow (addL 65536 (a.take 16) (minL 65536 primeL b))
def rMul (a b : List Nat) : List Nat := redRow (timesL 65536 (a.take 16) (b.take 16))
theorem good_len {a : List Nat} (h : goodW a) : (a.take 16).length = 16 := by rw [List.length_take]; have := h.lo; omega
theorem good_add {a b : List Nat} (ha : goodW a) (hb : goodW b) : goodW (addL 65536 (a.take 16) (b.take 16)) := by
  have h := addLen_bd 65536 (a.take 16) (b.take 16)
  rw [good_len ha, good_len hb, ← addL_len] at h
  exact ⟨addL_lt (by decide) _ _, by omega, by omega⟩
theorem good_mul {a b : List Nat} (ha : goodW a) (hb : goodW b) : goodW (timesL 65536 (a.take 16) (b.take 16)) := by
  have h := timesL_len 65536 (a.take 16) (b.take 16)
  rw [good_len ha, good_len hb] at h
  exact ⟨timesL_lt (by decide) (dltT ha.1 16) (dltT hb.1 16), by omega, by omega⟩
theorem prime_take : primeL.take 16 = primeL := rfl
theorem prime_len : primeL.length = 16 := rfl
theorem min_b (B : Nat) (a b : List Nat) : ∀ i, i ≤ 16 → minG B a (b.take 16) i = minG B a b i
  | 0, _ => rfl
  | i + 1, h => by
    rw [minG, minG, min_b B a b i (by omega)]
    have : (b.take 16).getD i 0 = b.getD i 0 := by
      rw [List.getD_eq_getElem?_getD, List.getD_eq_getElem?_getD, List.getElem?_take_of_lt (by omega)]
    unfold minT
    rw [this]
theorem min_spec {b : List Nat} (hb : goodR b) : dv 65536 (minL 65536 primeL b) = 57896044618658097711785492504343953926634992332820282019728792003956564819949 - vW b ∧ dlt 65536 (minL 65536 primeL b) ∧ (minL 65536 primeL b).length = 16 := by
  have e : minL 65536 primeL b = minL 65536 primeL (b.take 16) := by
    unfold minL; rw [min_b _ _ _ _ (Nat.le_refl _)]
  have h := minL_v (by decide : 1 < 65536) prime_lt (dltT hb.1.1 16) prime_len (good_len hb.1) (by rw [primeL_v]; exact Nat.le_of_lt hb.2)
  rw [e, ← primeL_v]
  exact h
theorem good_sub {a b : List Nat} (ha : goodW a) (hb : goodR b) : goodW (addL 65536 (a.take 16) (minL 65536 primeL b)) := by
  have h := addLen_bd 65536 (a.take 16) (minL 65536 primeL b)
  rw [good_len ha, (min_spec hb).2.2, ← addL_len] at h
  exact ⟨addL_lt (by decide) _ _, by omega, by omega⟩
theorem red_good {a : List Nat} (h : goodW a) : goodR (redRow a) ∧ vW (redRow a) = dv 65536 a % 57896044618658097711785492504343953926634992332820282019728792003956564819949 := by
  obtain ⟨h1, h2⟩ := redRow_spec h
  exact ⟨⟨h1, by unfold vW; rw [h2]; exact Nat.mod_lt _ (by decide)⟩, h2⟩
theorem rAdd_spec {a b : List Nat} (ha : goodR a) (hb : goodR b) : goodR (rAdd a b) ∧ vW (rAdd a b) = (vW a + vW b) % 57896044618658097711785492504343953926634992332820282019728792003956564819949 := by
  obtain ⟨h1, h2⟩ := red_good (good_add ha.1 hb.1)
  rw [addL_v (by decide) (dltT ha.1.1 16) (dltT hb.1.1 16)] at h2
  exact ⟨h1, h2⟩
theorem rSub_spec {a b : List Nat} (ha : goodR a) (hb : goodR b) : goodR (rSub a b) ∧ vW (rSub a b) = (vW a + (57896044618658097711785492504343953926634992332820282019728792003956564819949 - vW b)) % 57896044618658097711785492504343953926634992332820282019728792003956564819949 := by
  obtain ⟨h1, h2⟩ := red_good (good_sub ha.1 hb)
  rw [addL_v (by decide) (dltT ha.1.1 16) (min_spec hb).2.1, (min_spec hb).1] at h2
  exact ⟨h1, h2⟩
theorem rMul_spec {a b : List Nat} (ha : goodR a) (hb : goodR b) : goodR (rMul a b) ∧ vW (rMul a b) = (vW a * vW b) % 57896044618658097711785492504343953926634992332820282019728792003956564819949 := by
  obtain ⟨h1, h2⟩ := red_good (good_mul ha.1 hb.1)
  rw [timesL_v] at h2
  exact ⟨h1, h2⟩
def fw (a : List Nat) : Fin p25519 := Fin.ofNat p25519 (vW a)
theorem fw_add {a b : List Nat} (ha : goodR a) (hb : goodR b) : fw (rAdd a b) = fw a + fw b := by
  unfold fw; rw [(rAdd_spec ha hb).2, ← fn_add]; exact fn_eq.2 (Nat.mod_mod _ _)
theorem fw_mul {a b : List Nat} (ha : goodR a) (hb : goodR b) : fw (rMul a b) = fw a * fw b := by
  unfold fw; rw [(rMul_spec ha hb).2, ← fn_mul]; exact fn_eq.2 (Nat.mod_mod _ _)
theorem fw_sub {a b : List Nat} (ha : goodR a) (hb : goodR b) : fw (rSub a b) = fw a - fw b := by
  refine fn_sub _ ?_
  have h := hb.2
  rw [(rSub_spec ha hb).2]
  show _ % 57896044618658097711785492504343953926634992332820282019728792003956564819949 = _ % 57896044618658097711785492504343953926634992332820282019728792003956564819949
  omega
theorem goodR.add {a b : List Nat} (ha : goodR a) (hb : goodR b) : goodR (rAdd a b) := (rAdd_spec ha hb).1
theorem goodR.sub {a b : List Nat} (ha : goodR a) (hb : goodR b) : goodR (rSub a b) := (rSub_spec ha hb).1
theorem goodR.mul {a b : List Nat} (ha : goodR a) (hb : goodR b) : goodR (rMul a b) := (rMul_spec ha hb).1
def gt1 : Nat → Option Con := fun f => match f with
  | 145 => some gaddC
  | 113 => some gtimes2C
  | 146 => some gprimeC
  | 148 => some gminC
  | 110 => some redQC
  | _ => none
theorem gt1_ok : GaOk Tryz.prog gt1 := fun f con h => by
  unfold gt1 at h
  split at h
  · injection h with h; subst h; exact gaddC_ok
  · injection h with h; subst h; exact gtimes2C_ok
  · injection h with h; subst h; exact gprimeC_ok
  · injection h with h; subst h; exact gminC_ok
  · injection h with h; subst h; exact redQC_ok
  · cases h
set_option maxRecDepth 100000 in
theorem radd_tri (a b : List Nat) (wa wb : Bool) (ha : goodW a) (hb : goodW b) : Tri Tryz.prog 112 [.one (.sl 0 0 1 16), .one (.sl 1 0 1 16)] [(0, ⟨.arr Nat natL a, wa⟩), (1, ⟨.arr Nat natL b, wb⟩)] (.c (.one (.sl 2 0 1 16))) [(0, ⟨.arr Nat natL a, wa⟩), (1, ⟨.arr Nat natL b, wb⟩), (2, ⟨.arr Nat natL (rAdd a b), true⟩)] := by
  have hg := good_add ha hb
  obtain ⟨a1, a2, a3⟩ := ha
  obtain ⟨b1, b2, b3⟩ := hb
  have d1 := dltT a1 16
  have d2 := dltT b1 16
  refine tri_ofx (envR_ok gt1_ok 9 [0, 1]) Tryz.func112 rfl rfl (rs := [.tmp 4]) rfl rfl (by simp [envR]) rfl ?_
  cases hst : redStop (addL 65536 (a.take 16) (b.take 16)) with
  | true =>
    have hr := redRow_stop hst
    simp only [hst, conQ, conOr, gsquareC, gtimesC, gtimes2C, redQF, retQx, List.take_length, prime_take, prime_len, envR, con0, conN0, conN1, conN2, natsOf_arr, rowOf_arr, natsOf_cells, rowOf_cells, toN, natL_st, natL_d, natL_enc, natL_up, gt1, gaddC, gtimes2C, gprimeC, gminC, redQC, go_sem]
    repeat' apply And.intro
    all_goals first
      | omega
      | exact d1
      | exact d2
      | exact hg
      | rfl
      | skip
    refine endX [(2, 20016)] ?_
    simp only [rAdd, hr, envR, con0, conN0, conN1, conN2, natsOf_arr, rowOf_arr, natsOf_cells, rowOf_cells, toN, natL_st, natL_d, natL_enc, natL_up, gt1, gaddC, gtimes2C, gprimeC, gminC, redQC, go_sem]
    exact ⟨rfl, id, id⟩
  | false =>
    simp only [hst, conQ, conOr, gsquareC, gtimesC, gtimes2C, redQF, retQx, List.take_length, prime_take, prime_len, envR, con0, conN0, conN1, conN2, natsOf_arr, rowOf_arr, natsOf_cells, rowOf_cells, toN, natL_st, natL_d, natL_enc, natL_up, gt1, gaddC, gtimes2C, gprimeC, gminC, redQC, go_sem]
    repeat' apply And.intro
    all_goals first
      | omega
      | exact d1
      | exact d2
      | exact hg
      | rfl
      | skip
    refine endX [(2, 20024)] ?_
    simp only [rAdd, envR, con0, conN0, conN1, conN2, natsOf_arr, rowOf_arr, natsOf_cells, rowOf_cells, toN, natL_st, natL_d, natL_enc, natL_up, gt1, gaddC, gtimes2C, gprimeC, gminC, redQC, go_sem]
    exact ⟨rfl, id, id⟩
set_option maxRecDepth 100000 in
theorem rmul_tri (a b : List Nat) (wa wb : Bool) (ha : goodW a) (hb : goodW b) : Tri Tryz.prog 72 [.one (.sl 0 0 1 16), .one (.sl 1 0 1 16)] [(0, ⟨.arr Nat natL a, wa⟩), (1, ⟨.arr Nat natL b, wb⟩)] (.c (.one (.sl 2 0 1 16))) [(0, ⟨.arr Nat natL a, wa⟩), (1, ⟨.arr Nat natL b, wb⟩), (2, ⟨.arr Nat natL (rMul a b), true⟩)] := by
  have hg := good_mul ha hb
  obtain ⟨a1, a2, a3⟩ := ha
  obtain ⟨b1, b2, b3⟩ := hb
  have d1 := dltT a1 16
  have d2 := dltT b1 16
  refine tri_ofx (envR_ok gt1_ok 9 [0, 1]) Tryz.func72 rfl rfl (rs := [.tmp 4]) rfl rfl (by simp [envR]) rfl ?_
  cases hst : redStop (timesL 65536 (a.take 16) (b.take 16)) with
  | true =>
    have hr := redRow_stop hst
    simp only [hst, conQ, conOr, gsquareC, gtimesC, gtimes2C, redQF, retQx, List.take_length, prime_take, prime_len, envR, con0, conN0, conN1, conN2, natsOf_arr, rowOf_arr, natsOf_cells, rowOf_cells, toN, natL_st, natL_d, natL_enc, natL_up, gt1, gaddC, gtimes2C, gprimeC, gminC, redQC, go_sem]
    repeat' apply And.intro
    all_goals first
      | omega
      | exact d1
      | exact d2
      | exact hg
      | rfl
      | skip
    refine endX [(2, 20016)] ?_
    simp only [rMul, hr, envR, con0, conN0, conN1, conN2, natsOf_arr, rowOf_arr, natsOf_cells, rowOf_cells, toN, natL_st, natL_d, natL_enc, natL_up, gt1, gaddC, gtimes2C, gprimeC, gminC, redQC, go_sem]
    exact ⟨rfl, id, id⟩
  | false =>
    simp only [hst, conQ, conOr, gsquareC, gtimesC, gtimes2C, redQF, retQx, List.take_length, prime_take, prime_len, envR, con0, conN0, conN1, conN2, natsOf_arr, rowOf_arr, natsOf_cells, rowOf_cells, toN, natL_st, natL_d, natL_enc, natL_up, gt1, gaddC, gtimes2C, gprimeC, gminC, redQC, go_sem]
    repeat' apply And.intro
    all_goals first
      | omega
      | exact d1
      | exact d2
      | exact hg
      | rfl
      | skip
    refine endX [(2, 20024)] ?_
    simp only [rMul, envR, con0, conN0, conN1, conN2, natsOf_arr, rowOf_arr, natsOf_cells, rowOf_cells, toN, natL_st, natL_d, natL_enc, natL_up, gt1, gaddC, gtimes2C, gprimeC, gminC, redQC, go_sem]
    exact ⟨rfl, id, id⟩
set_option maxRecDepth 100000 in
theorem rsqr_tri (a : List Nat) (wa : Bool) (ha : goodW a) : Tri Tryz.prog 72 [.one (.sl 0 0 1 16), .one (.sl 0 0 1 16)] [(0, ⟨.arr Nat natL a, wa⟩)] (.c (.one (.sl 1 0 1 16))) [(0, ⟨.arr Nat natL a, wa⟩), (1, ⟨.arr Nat natL (rMul a a), true⟩)] := by
  have hg := good_mul ha ha
  obtain ⟨a1, a2, a3⟩ := ha
  have d1 := dltT a1 16
  refine tri_ofx (envR_ok gt1_ok 9 [0]) Tryz.func72 rfl rfl (rs := [.tmp 4]) rfl rfl (by simp [envR]) rfl ?_
  cases hst : redStop (timesL 65536 (a.take 16) (a.take 16)) with
  | true =>
    have hr := redRow_stop hst
    simp only [hst, conQ, conOr, gsquareC, gtimesC, gtimes2C, redQF, retQx, List.take_length, prime_take, prime_len, envR, con0, conN0, conN1, conN2, natsOf_arr, rowOf_arr, natsOf_cells, rowOf_cells, toN, natL_st, natL_d, natL_enc, natL_up, gt1, gaddC, gtimes2C, gprimeC, gminC, redQC, go_sem]
    repeat' apply And.intro
    all_goals first
      | omega
      | exact d1
      | exact hg
      | rfl
      | skip
    refine endX [(1, 20016)] ?_
    simp only [rMul, hr, envR, con0, conN0, conN1, conN2, natsOf_arr, rowOf_arr, natsOf_cells, rowOf_cells, toN, natL_st, natL_d, natL_enc, natL_up, gt1, gaddC, gtimes2C, gprimeC, gminC, redQC, go_sem]
    exact ⟨rfl, id⟩
  | false =>
    simp only [hst, conQ, conOr, gsquareC, gtimesC, gtimes2C, redQF, retQx, List.take_length, prime_take, prime_len, envR, con0, conN0, conN1, conN2, natsOf_arr, rowOf_arr, natsOf_cells, rowOf_cells, toN, natL_st, natL_d, natL_enc, natL_up, gt1, gaddC, gtimes2C, gprimeC, gminC, redQC, go_sem]
    repeat' apply And.intro
    all_goals first
      | omega
      | exact d1
      | exact hg
      | rfl
      | skip
    refine endX [(1, 20024)] ?_
    simp only [rMul, envR, con0, conN0, conN1, conN2, natsOf_arr, rowOf_arr, natsOf_cells, rowOf_cells, toN, natL_st, natL_d, natL_enc, natL_up, gt1, gaddC, gtimes2C, gprimeC, gminC, redQC, go_sem]
    exact ⟨rfl, id⟩
set_option maxRecDepth 100000 in
theorem rsub_tri (a b : List Nat) (wa wb : Bool) (ha : goodW a) (hb : goodR b) : Tri Tryz.prog 111 [.one (.sl 0 0 1 16), .one (.sl 1 0 1 16)] [(0, ⟨.arr Nat natL a, wa⟩), (1, ⟨.arr Nat natL b, wb⟩)] (.c (.one (.sl 2 0 1 16))) [(0, ⟨.arr Nat natL a, wa⟩), (1, ⟨.arr Nat natL b, wb⟩), (2, ⟨.arr Nat natL (rSub a b), true⟩)] := by
  have hg := good_sub ha hb
  obtain ⟨_, m2, m3⟩ := min_spec hb
  have tmin : (minL 65536 primeL b).take 16 = minL 65536 primeL b := List.take_of_length_le (by omega)
  have lmin : (minL 65536 primeL b).length = 16 := m3
  obtain ⟨⟨b1, b2, b3⟩, _⟩ := hb
  obtain ⟨a1, a2, a3⟩ := ha
  have d1 := dltT a1 16
  refine tri_ofx (envR_ok gt1_ok 11 [0, 1]) Tryz.func111 rfl rfl (rs := [.tmp 4]) rfl rfl (by simp [envR]) rfl ?_
  cases hst : redStop (addL 65536 (a.take 16) (minL 65536 primeL b)) with
  | true =>
    have hr := redRow_stop hst
    simp only [hst, conQ, conOr, gsquareC, gtimesC, gtimes2C, redQF, retQx, List.take_length, prime_take, prime_len, tmin, lmin, envR, con0, conN0, conN1, conN2, natsOf_arr, rowOf_arr, natsOf_cells, rowOf_cells, toN, natL_st, natL_d, natL_enc, natL_up, gt1, gaddC, gtimes2C, gprimeC, gminC, redQC, go_sem]
    repeat' apply And.intro
    all_goals first
      | omega
      | exact d1
      | exact b1
      | exact m2
      | exact prime_lt
      | exact hg
      | rfl
      | skip
    refine endX [(2, 20032)] ?_
    simp only [rSub, hr, envR, con0, conN0, conN1, conN2, natsOf_arr, rowOf_arr, natsOf_cells, rowOf_cells, toN, natL_st, natL_d, natL_enc, natL_up, gt1, gaddC, gtimes2C, gprimeC, gminC, redQC, go_sem]
    exact ⟨rfl, id, id⟩
  | false =>
    simp only [hst, conQ, conOr, gsquareC, gtimesC, gtimes2C, redQF, retQx, List.take_length, prime_take, prime_len, tmin, lmin, envR, con0, conN0, conN1, conN2, natsOf_arr, rowOf_arr, natsOf_cells, rowOf_cells, toN, natL_st, natL_d, natL_enc, natL_up, gt1, gaddC, gtimes2C, gprimeC, gminC, redQC, go_sem]
    repeat' apply And.intro
    all_goals first
      | omega
      | exact d1
      | exact b1
      | exact m2
      | exact prime_lt
      | exact hg
      | rfl
      | skip
    refine endX [(2, 20040)] ?_
    simp only [rSub, envR, con0, conN0, conN1, conN2, natsOf_arr, rowOf_arr, natsOf_cells, rowOf_cells, toN, natL_st, natL_d, natL_enc, natL_up, gt1, gaddC, gtimes2C, gprimeC, gminC, redQC, go_sem]
    exact ⟨rfl, id, id⟩
def row2F (r : List Nat → List Nat → List Nat) : List CV → List SObj → Option (SV × List SObj × List Prop)
  | [.one (.sl 0 0 1 16), .one (.sl 1 0 1 16)], [o, q] => some (.c (.one (.sl 2 0 1 16)), [.arr Nat natL (r (natsOf o) (natsOf q))], [rowOf o, rowOf q, goodR (natsOf o), goodR (natsOf q)])
  | [.one (.sl 0 0 1 16), .one (.sl 0 0 1 16)], [o] => some (.c (.one (.sl 1 0 1 16)), [.arr Nat natL (r (natsOf o) (natsOf o))], [rowOf o, goodR (natsOf o)])
  | _, _ => none
def row1F (r : List Nat → List Nat → List Nat) : List CV → List SObj → Option (SV × List SObj × List Prop)
  | [.one (.sl 0 0 1 16), .one (.sl 1 0 1 16)], [o, q] => some (.c (.one (.sl 2 0 1 16)), [.arr Nat natL (r (natsOf o) (natsOf q))], [rowOf o, rowOf q, goodR (natsOf o), goodR (natsOf q)])
  | _, _ => none
theorem row2_ok {P : Program} {f : FuncId} {fn : Func} (hf : P.funcs[f]? = some fn) (hb : fn.body.isSome = true) (hn : (fn.name == "runtime.NumGoroutine") = false) {r : List Nat → List Nat → List Nat}
    (h2 : ∀ a b wa wb, goodR a → goodR b → Tri P f [.one (.sl 0 0 1 16), .one (.sl 1 0 1 16)] [(0, ⟨.arr Nat natL a, wa⟩), (1, ⟨.arr Nat natL b, wb⟩)] (.c (.one (.sl 2 0 1 16))) [(0, ⟨.arr Nat natL a, wa⟩), (1, ⟨.arr Nat natL b, wb⟩), (2, ⟨.arr Nat natL (r a b), true⟩)])
    (h1 : ∀ a wa, goodR a → Tri P f [.one (.sl 0 0 1 16), .one (.sl 0 0 1 16)] [(0, ⟨.arr Nat natL a, wa⟩)] (.c (.one (.sl 1 0 1 16))) [(0, ⟨.arr Nat natL a, wa⟩), (1, ⟨.arr Nat natL (r a a), true⟩)]) : ConOk P f (conQ (row2F r)) := conQ_ok hf hb hn fun args es v nw ob h hob => by
  unfold row2F at h
  split at h
  · rename_i o q heq
    match es, heq with
    | [e, e'], heq =>
      simp only [List.map_cons, List.map_nil, List.cons.injEq, and_true] at heq
      obtain ⟨rfl, rfl⟩ := heq
      simp only [Option.some.injEq, Prod.mk.injEq] at h
      obtain ⟨rfl, rfl, rfl⟩ := h
      obtain ⟨o1, o2, o3, o4, _⟩ := hob
      exact (h2 _ _ e.wr e'.wr o3 o4).sim (.cons (simE_row o1 e.wr) (.cons (simE_row o2 e'.wr) .nil)) (.cons (simE_row o1 e.wr) (.cons (simE_row o2 e'.wr) (.cons (.refl _) .nil)))
  · rename_i o heq
    match es, heq with
    | [e], heq =>
      simp only [List.map_cons, List.map_nil, List.cons.injEq, and_true] at heq
      subst heq
      simp only [Option.some.injEq, Prod.mk.injEq] at h
      obtain ⟨rfl, rfl, rfl⟩ := h
      obtain ⟨o1, o3, _⟩ := hob
      exact (h1 _ e.wr o3).sim (.cons (simE_row o1 e.wr) .nil) (.cons (simE_row o1 e.wr) (.cons (.refl _) .nil))
  · cases h
theorem row1_ok {P : Program} {f : FuncId} {fn : Func} (hf : P.funcs[f]? = some fn) (hb : fn.body.isSome = true) (hn : (fn.name == "runtime.NumGoroutine") = false) {r : List Nat → List Nat → List Nat}
    (h2 : ∀ a b wa wb, goodR a → goodR b → Tri P f [.one (.sl 0 0 1 16), .one (.sl 1 0 1 16)] [(0, ⟨.arr Nat natL a, wa⟩), (1, ⟨.arr Nat natL b, wb⟩)] (.c (.one (.sl 2 0 1 16))) [(0, ⟨.arr Nat natL a, wa⟩), (1, ⟨.arr Nat natL b, wb⟩), (2, ⟨.arr Nat natL (r a b), true⟩)]) : ConOk P f (conQ (row1F r)) := conQ_ok hf hb hn fun args es v nw ob h hob => by
  unfold row1F at h
  split at h
  · rename_i o q heq
    match es, heq with
    | [e, e'], heq =>
      simp only [List.map_cons, List.map_nil, List.cons.injEq, and_true] at heq
      obtain ⟨rfl, rfl⟩ := heq
      simp only [Option.some.injEq, Prod.mk.injEq] at h
      obtain ⟨rfl, rfl, rfl⟩ := h
      obtain ⟨o1, o2, o3, o4, _⟩ := hob
      exact (h2 _ _ e.wr e'.wr o3 o4).sim (.cons (simE_row o1 e.wr) (.cons (simE_row o2 e'.wr) .nil)) (.cons (simE_row o1 e.wr) (.cons (simE_row o2 e'.wr) (.cons (.refl _) .nil)))
  · cases h
def raddC : Con := conQ (row1F rAdd)
theorem raddC_ok : ConOk Tryz.prog 112 raddC := row1_ok Tryz.func112 rfl rfl fun a b wa wb ha hb => radd_tri a b wa wb ha.w hb.w
def rsubC : Con := conQ (row1F rSub)
theorem rsubC_ok : ConOk Tryz.prog 111 rsubC := row1_ok Tryz.func111 rfl rfl fun a b wa wb ha hb => rsub_tri a b wa wb ha.w hb
def rmulC : Con := conQ (row2F rMul)
theorem rmulC_ok : ConOk Tryz.prog 72 rmulC := row2_ok Tryz.func72 rfl rfl (fun a b wa wb ha hb => rmul_tri a b wa wb ha.w hb.w) fun a wa ha => rsqr_tri a wa ha.w
end Go.Proofs.YtahiopdkekkibaaGreatDoor.FK

/-
  Layer 3: the document's numbers out of parts and bytes, its bytes, its power: walked, and their values.
-/
namespace Go.Proofs.YtahiopdkekkibaaGreatDoor.FK
open Go Go.RowKit
set_option maxHeartbeats 4000000
set_option linter.unusedSimpArgs false
set_option linter.unusedVariables false
theorem by8_nat' (n : Nat) : by8 ((n : Nat) : Int) = UInt8.ofNat n := by
  unfold by8
  apply UInt8.toNat_inj.1
  simp only [UInt8.toNat_ofNat']
  omega
def smallL (n : Nat) : List Nat := [n % 65536, n / 65536, 0, 0, 0, 0, 0, 0, 0, 0, 0, 0, 0, 0, 0, 0]
theorem small_good (n : Nat) (hn : n < 4294967296) : goodR (smallL n) ∧ vW (smallL n) = n := by
  have hv : vW (smallL n) = n := by
    show n % 65536 + 65536 * (n / 65536 + 65536 * 0) = n
    omega
  refine ⟨⟨⟨?_, by show 16 ≤ 16; omega, by show 16 ≤ 100; omega⟩, by rw [hv]; omega⟩, hv⟩
  exact dlt_mk (by omega) (dlt_mk (by omega) (fun i => by
    have : (List.replicate 14 0).getD i 0 = 0 := by
      rw [List.getD_eq_getElem?_getD, List.getElem?_replicate]; split <;> rfl
    show (List.replicate 14 0).getD i 0 < 65536
    rw [this]; decide))
set_option maxRecDepth 100000 in
theorem rsmall_tri (n : Nat) (hn : n < 4294967296) : Tri Tryz.prog 68 [.one (.num (n : Nat))] [] (.c (.one (.sl 0 0 1 16))) [(0, ⟨.arr Nat natL (smallL n), true⟩)] := by
  have m1 : ((n : Nat) : Int).tmod 65536 = ((n % 65536 : Nat) : Int) := by rw [show (65536 : Int) = ((65536 : Nat) : Int) from rfl, ← Int.ofNat_tmod]
  have m2 : IntKind.i64.wrap (((n : Nat) : Int).tdiv 65536) = ((n / 65536 : Nat) : Int) := by
    rw [show (65536 : Int) = ((65536 : Nat) : Int) from rfl, ← Int.ofNat_tdiv, IntKind.wrap_i64]; omega
  have hz : List.replicate 16 (AV.num 0) = [.num 0, .num 0, .num 0, .num 0, .num 0, .num 0, .num 0, .num 0, .num 0, .num 0, .num 0, .num 0, .num 0, .num 0, .num 0, .num 0] := rfl
  refine tri_ofx (envR_ok ga0_ok 14 []) Tryz.func68 rfl rfl (rs := [.tmp 2]) rfl rfl (by simp [envR]) rfl ?_
  simp only [m1, m2, hz, retQx, envR, con0, conN0, conN1, conN2, natsOf_arr, rowOf_arr, natsOf_cells, rowOf_cells, toN, natL_st, natL_d, natL_enc, natL_up, ga0, go_sem]
  repeat' apply And.intro
  all_goals first
    | omega
    | rfl
    | skip
  refine endX [(0, 20000)] ?_
  simp only [smallL, hz, envR, con0, conN0, conN1, conN2, natsOf_arr, rowOf_arr, natsOf_cells, rowOf_cells, toN, natL_st, natL_d, natL_enc, natL_up, ga0, go_sem]
def rsmallF : List CV → List SObj → Option (SV × List SObj × List Prop)
  | [.one (.num z)], [] => some (.c (.one (.sl 0 0 1 16)), [.arr Nat natL (smallL z.toNat)], [0 ≤ z, z < 4294967296])
  | _, _ => none
def rsmallC : Con := conQ rsmallF
theorem rsmallC_ok : ConOk Tryz.prog 68 rsmallC := conQ_ok Tryz.func68 rfl rfl fun args es v nw ob h hob => by
  unfold rsmallF at h
  split at h
  · rename_i z heq
    obtain rfl : es = [] := List.map_eq_nil_iff.1 heq
    simp only [Option.some.injEq, Prod.mk.injEq] at h
    obtain ⟨rfl, rfl, rfl⟩ := h
    obtain ⟨o1, o2, _⟩ := hob
    have := rsmall_tri z.toNat (by omega)
    rw [Int.toNat_of_nonneg o1] at this
    exact this
  · cases h
-- PARTS
def pz : List Nat := [0, 0, 0, 0, 0, 0, 0, 0, 0, 0, 0, 0, 0, 0, 0, 0, 0]
end Go.Proofs.YtahiopdkekkibaaGreatDoor.FK

/-
  Layer 3: the document's number out of bytes, its bytes, its power: walked, and their values.
-/
namespace Go.Proofs.YtahiopdkekkibaaGreatDoor.FK
open Go Go.RowKit
set_option maxHeartbeats 4000000
set_option linter.unusedSimpArgs false
set_option linter.unusedVariables false
-- BYTES
def outW (R : List Nat) : Nat → List UInt8
  | 0 => []
  | j + 1 => (outW R j ++ [UInt8.ofNat (R.getD j 0 % 256)]) ++ [UInt8.ofNat (R.getD j 0 / 256)]
theorem outW_len (R : List Nat) : ∀ j, (outW R j).length = 2 * j
  | 0 => rfl
  | j + 1 => by rw [outW, List.length_append, List.length_append, outW_len R j, List.length_singleton, List.length_singleton]; omega
theorem outW_v {R : List Nat} (h : dlt 65536 R) : ∀ j, leN (outW R j) = dv 65536 (R.take j)
  | 0 => rfl
  | j + 1 => by
    have hj := h j
    rw [outW, List.append_assoc, leN_append, outW_len, outW_v h j, dv_take, show 8 * (2 * j) = 16 * j by omega, Nat.pow_mul, show (2 : Nat) ^ 16 = 65536 from rfl]
    have e : leN ([UInt8.ofNat (R.getD j 0 % 256)] ++ [UInt8.ofNat (R.getD j 0 / 256)]) = R.getD j 0 := by
      simp only [List.cons_append, List.nil_append, leN, UInt8.toNat_ofNat', Nat.reducePow]
      omega
    rw [e, Nat.mul_comm]
theorem bytes_eq {R : List Nat} {x : N5} (h : goodR R) (e : fw R = fv x) : outW R 16 = bytesF x := by
  refine leN_inj _ _ (by rw [outW_len]; rfl) ?_
  rw [outW_v h.w.lt, bytesF_v]
  have e' : vW R % p25519 = x.w % p25519 := congrArg Fin.val e
  rw [← e']
  exact (Nat.mod_eq_of_lt h.v).symm
def bInv (R : List Nat) (wa : Bool) : Nat → St
  | 0 => ⟨[(0, .c (.one (.sl 0 0 1 16))), (3, .c (.one (.val (.slice none 0 0)))), (4, .c (.one (.num 0)))], [(0, ⟨.arr Nat natL R, wa⟩)]⟩
  | j + 1 => ⟨[(0, .c (.one (.sl 0 0 1 16))), (3, .c (.one (.sl 500 0 1 (2 * (j + 1))))), (4, .c (.one (.num (j + 1 : Nat))))], [(0, ⟨.arr Nat natL R, wa⟩), (500, ⟨.arr UInt8 u8L (outW R (j + 1)), true⟩)]⟩
set_option maxRecDepth 100000 in
theorem rbytes_tri (R : List Nat) (wa : Bool) (h : goodW R) : Tri Tryz.prog 71 [.one (.sl 0 0 1 16)] [(0, ⟨.arr Nat natL R, wa⟩)] (.c (.one (.str (outW R 16)))) [(0, ⟨.arr Nat natL R, wa⟩)] := by
  refine tri_of (envR_ok ga0_ok 28 [0]) Tryz.func71 rfl rfl (rs := [.tmp 2]) rfl rfl (by simp [envR]) rfl [] ?_
  simp only [envR, con0, conN0, conN1, conN2, natsOf_arr, rowOf_arr, natsOf_cells, rowOf_cells, toN, natL_st, natL_d, natL_enc, natL_up, ga0, go_sem]
  refine loop_inv (envR_ok ga0_ok 28 [0]) (bInv R wa) (fun j => j ≤ 16) (fun j => 16 - j) 0 [] (by omega) ?_ ?_
  · simp only [bInv, go_sem]
    exact ⟨rfl, id⟩
  · intro j hj
    obtain ⟨h1, h2, h3⟩ := h
    have bj := h1 j
    have m1 : ((R.getD j 0 : Nat) : Int).tmod 256 = ((R.getD j 0 % 256 : Nat) : Int) := by rw [show (256 : Int) = ((256 : Nat) : Int) from rfl, ← Int.ofNat_tmod]
    have q1 : IntKind.i64.wrap (((R.getD j 0 : Nat) : Int).tdiv 256) = ((R.getD j 0 / 256 : Nat) : Int) := by
      rw [show (256 : Int) = ((256 : Nat) : Int) from rfl, ← Int.ofNat_tdiv, IntKind.wrap_i64]; omega
    have hl := outW_len R j
    rcases j with _ | j
    · have e1 : outW R (0 + 1) = [UInt8.ofNat (R.getD 0 0 % 256), UInt8.ofNat (R.getD 0 0 / 256)] := rfl
      simp only [bInv, m1, q1, by8_nat', envR, con0, conN0, conN1, conN2, natsOf_arr, rowOf_arr, natsOf_cells, rowOf_cells, toN, natL_st, natL_d, natL_enc, natL_up, ga0, go_sem]
      repeat' apply And.intro
      all_goals first
        | omega
        | rfl
        | skip
      refine again (0 + 1) [(500, 60128)] (by omega) (by omega) ?_
      simp only [bInv, e1, envR, con0, conN0, conN1, conN2, natsOf_arr, rowOf_arr, natsOf_cells, rowOf_cells, toN, natL_st, natL_d, natL_enc, natL_up, ga0, go_sem]
      exact ⟨rfl, id⟩
    · simp only [bInv, envR, con0, conN0, conN1, conN2, natsOf_arr, rowOf_arr, natsOf_cells, rowOf_cells, toN, natL_st, natL_d, natL_enc, natL_up, ga0, go_sem]
      have w1 : IntKind.i64.wrap (((j + 1 : Nat) : Int) + 1) = ((j + 1 + 1 : Nat) : Int) := by rw [IntKind.wrap_i64]; omega
      refine br (fun hc => ?_) fun hc => ?_
      · have hc' := of_decide_eq_true hc
        have hq : 2 * (j + 1 + 1) = 2 * (j + 1) + 1 + 1 := by omega
        have e1 : outW R (j + 1 + 1) = (outW R (j + 1) ++ [UInt8.ofNat (R.getD (j + 1) 0 % 256)]) ++ [UInt8.ofNat (R.getD (j + 1) 0 / 256)] := rfl
        simp only [hc, m1, q1, w1, by8_nat', envR, con0, conN0, conN1, conN2, natsOf_arr, rowOf_arr, natsOf_cells, rowOf_cells, toN, natL_st, natL_d, natL_enc, natL_up, ga0, go_sem]
        repeat' apply And.intro
        all_goals first
          | omega
          | rfl
          | (rw [List.length_append, hl]; rfl)
          | skip
        refine again (j + 1 + 1) [(500, 60128)] (by omega) (by omega) ?_
        simp only [bInv, hq, e1, envR, con0, conN0, conN1, conN2, natsOf_arr, rowOf_arr, natsOf_cells, rowOf_cells, toN, natL_st, natL_d, natL_enc, natL_up, ga0, go_sem]
        exact ⟨rfl, id⟩
      · obtain rfl : j = 15 := by have := of_decide_eq_false hc; omega
        have ht : (outW R (15 + 1)).take (2 * (15 + 1)) = outW R 16 := List.take_of_length_le (by rw [outW_len]; exact Nat.le_refl _)
        have ht' : (outW R 16).take 32 = outW R 16 := List.take_of_length_le (by rw [outW_len]; exact Nat.le_refl _)
        have hl' : (outW R 16).length = 32 := outW_len R 16
        simp only [hc, hl', ht, ht', envR, con0, conN0, conN1, conN2, natsOf_arr, rowOf_arr, natsOf_cells, rowOf_cells, toN, natL_st, natL_d, natL_enc, natL_up, ga0, go_sem]
        all_goals first
          | exact ⟨rfl, id⟩
          | trace_state
def rbytesF : List CV → List SObj → Option (SV × List SObj × List Prop)
  | [.one (.sl 0 0 1 16)], [o] => some (.c (.one (.str (outW (natsOf o) 16))), [], [rowOf o, goodW (natsOf o)])
  | _, _ => none
def rbytesC : Con := conQ rbytesF
theorem rbytesC_ok : ConOk Tryz.prog 71 rbytesC := conQ_ok Tryz.func71 rfl rfl fun args es v nw ob h hob => by
  unfold rbytesF at h
  split at h
  · rename_i o heq
    match es, heq with
    | [e], heq =>
      simp only [List.map_cons, List.map_nil, List.cons.injEq, and_true] at heq
      subst heq
      simp only [Option.some.injEq, Prod.mk.injEq] at h
      obtain ⟨rfl, rfl, rfl⟩ := h
      obtain ⟨o1, o2, _⟩ := hob
      exact (rbytes_tri _ e.wr o2).sim (.cons (simE_row o1 e.wr) .nil) (.cons (simE_row o1 e.wr) .nil)
  · cases h
-- OF
def ofD (s : List UInt8) : Nat → List Nat
  | 0 => []
  | j + 1 => ofD s j ++ [(s.getD (2 * j) 0).toNat + 256 * (s.getD (2 * j + 1) 0).toNat]
theorem ofD_len (s : List UInt8) : ∀ j, (ofD s j).length = j
  | 0 => rfl
  | j + 1 => by rw [ofD, List.length_append, ofD_len s j]; rfl
theorem ofD_lt (s : List UInt8) : ∀ j, dlt 65536 (ofD s j)
  | 0 => dlt_nil (by decide)
  | j + 1 => dlt_append (ofD_lt s j) (dlt_mk (by
      have h1 := (s.getD (2 * j) 0).toNat_lt
      have h2 := (s.getD (2 * j + 1) 0).toNat_lt
      omega) (dlt_nil (by decide)))
theorem ofD_v (s : List UInt8) : ∀ j, 2 * j ≤ s.length → dv 65536 (ofD s j) = leN (s.take (2 * j))
  | 0, _ => rfl
  | j + 1, h => by
    rw [ofD, dv_append, ofD_len, ofD_v s j (by omega), show 2 * (j + 1) = 2 * j + 1 + 1 by omega, leN_take _ _ (by omega), leN_take _ _ (by omega)]
    simp only [dv, Nat.mul_zero, Nat.add_zero]
    rw [show 8 * (2 * j + 1) = 16 * j + 8 by omega, show 8 * (2 * j) = 16 * j by omega, Nat.pow_add, Nat.pow_mul, show (2 : Nat) ^ 16 = 65536 from rfl, show (2 : Nat) ^ 8 = 256 from rfl]
    grind
def ofM (s : List UInt8) : List Nat := (ofD s 16).set 15 ((ofD s 16).getD 15 0 % 32768)
def ofRow (s : List UInt8) : List Nat := redRow (ofM s)
theorem ofM_good (s : List UInt8) : goodW (ofM s) := by
  have h := ofD_len s 16
  refine ⟨dlt_set (ofD_lt s 16) _ _ (by omega), ?_, ?_⟩
  · unfold ofM; rw [List.length_set]; omega
  · unfold ofM; rw [List.length_set]; omega
theorem ofM_v (s : List UInt8) (hs : s.length = 32) : dv 65536 (ofM s) = leN s % 57896044618658097711785492504343953926634992332820282019728792003956564819968 := by
  have hl := ofD_len s 16
  have hv := ofD_v s 16 (by omega)
  rw [List.take_of_length_le (by omega)] at hv
  have hset := dv_set 65536 (ofD s 16) 15 ((ofD s 16).getD 15 0 % 32768) (by omega)
  have ht := dv_take 65536 (ofD s 16) 15
  rw [dv_all 65536 (ofD s 16) 16 (by omega)] at ht
  have hlo := dv_lt (by decide : 0 < 65536) (dltT (ofD_lt s 16) 15)
  rw [List.length_take, Nat.min_eq_left (by omega)] at hlo
  unfold ofM
  rw [← hv]
  generalize (ofD s 16).getD 15 0 = x at *
  generalize dv 65536 ((ofD s 16).set 15 (x % 32768)) = S at *
  generalize dv 65536 ((ofD s 16).take 15) = L at *
  generalize dv 65536 (ofD s 16) = V at *
  simp only [Nat.reducePow] at *
  omega
theorem of_good (s : List UInt8) : goodR (ofRow s) := (red_good (ofM_good s)).1
theorem fw_of (s : List UInt8) (hs : s.length = 32) : fw (ofRow s) = fv (ofN s) := by
  rw [fv_of s hs]
  unfold fw ofRow
  rw [(red_good (ofM_good s)).2, ofM_v s hs]
  exact fn_eq.2 (Nat.mod_mod _ _)
def oInv (s : List UInt8) : Nat → St
  | 0 => ⟨[(0, .c (.one (.str s))), (3, .c (.one (.val (.slice none 0 0)))), (4, .c (.one (.num 0)))], []⟩
  | j + 1 => ⟨[(0, .c (.one (.str s))), (3, .c (.one (.sl 500 0 1 (j + 1)))), (4, .c (.one (.num (2 * (j + 1) : Nat))))], [(500, ⟨.arr Nat natL (ofD s (j + 1)), true⟩)]⟩
def gm1 : Nat → Option Con := fun f => match f with
  | 110 => some redQC
  | _ => none
theorem gm1_ok : GaOk Tryz.prog gm1 := fun f con h => by
  unfold gm1 at h
  split at h
  · injection h with h; subst h; exact redQC_ok
  · cases h
set_option maxRecDepth 100000 in
theorem rof_tri (s : List UInt8) (hs : s.length = 32) : Tri Tryz.prog 67 [.one (.str s)] [] (.c (.one (.sl 0 0 1 16))) [(0, ⟨.arr Nat natL (ofRow s), true⟩)] := by
  refine tri_ofx (envR_ok gm1_ok 31 []) Tryz.func67 rfl rfl (rs := [.tmp 2]) rfl rfl (by simp [envR]) rfl ?_
  simp only [retQx, envR, con0, conN0, conN1, conN2, natsOf_arr, rowOf_arr, natsOf_cells, rowOf_cells, toN, natL_st, natL_d, natL_enc, natL_up, gm1, redQC, go_sem]
  refine loop_inv (envR_ok gm1_ok 31 []) (oInv s) (fun j => j ≤ 16) (fun j => 16 - j) 0 [] (by omega) ?_ ?_
  · simp only [oInv, go_sem]
  · intro j hj
    have b1 := (s.getD (2 * j) 0).toNat_lt
    have b2 := (s.getD (2 * j + 1) 0).toNat_lt
    have w2 : IntKind.i64.wrap (256 * ((s.getD (2 * j + 1) 0).toNat : Int)) = ((256 * (s.getD (2 * j + 1) 0).toNat : Nat) : Int) := by rw [IntKind.wrap_i64]; omega
    have w3 : IntKind.i64.wrap (((s.getD (2 * j) 0).toNat : Int) + ((256 * (s.getD (2 * j + 1) 0).toNat : Nat) : Int)) = (((s.getD (2 * j) 0).toNat + 256 * (s.getD (2 * j + 1) 0).toNat : Nat) : Int) := by rw [IntKind.wrap_i64]; omega
    have hl := ofD_len s j
    rcases j with _ | j
    · have e1 : ofD s (0 + 1) = [(s.getD 0 0).toNat + 256 * (s.getD 1 0).toNat] := rfl
      simp only [Nat.mul_zero, Nat.zero_add] at w2 w3
      simp only [oInv, w2, w3, hs, retQx, envR, con0, conN0, conN1, conN2, natsOf_arr, rowOf_arr, natsOf_cells, rowOf_cells, toN, natL_st, natL_d, natL_enc, natL_up, gm1, redQC, go_sem]
      repeat' apply And.intro
      all_goals first
        | omega
        | rfl
        | skip
      refine again (0 + 1) [(500, 60104)] (by omega) (by omega) ?_
      simp only [oInv, e1, envR, con0, conN0, conN1, conN2, natsOf_arr, rowOf_arr, natsOf_cells, rowOf_cells, toN, natL_st, natL_d, natL_enc, natL_up, gm1, redQC, go_sem]
    · have w1 : IntKind.i64.wrap (((2 * (j + 1) : Nat) : Int) + 1) = ((2 * (j + 1) + 1 : Nat) : Int) := by rw [IntKind.wrap_i64]; omega
      have w4 : IntKind.i64.wrap (((2 * (j + 1) : Nat) : Int) + 2) = ((2 * (j + 1 + 1) : Nat) : Int) := by rw [IntKind.wrap_i64]; omega
      simp only [oInv, retQx, envR, con0, conN0, conN1, conN2, natsOf_arr, rowOf_arr, natsOf_cells, rowOf_cells, toN, natL_st, natL_d, natL_enc, natL_up, gm1, redQC, go_sem]
      refine br (fun hc => ?_) fun hc => ?_
      · have hc' := of_decide_eq_true hc
        have e1 : ofD s (j + 1 + 1) = ofD s (j + 1) ++ [(s.getD (2 * (j + 1)) 0).toNat + 256 * (s.getD (2 * (j + 1) + 1) 0).toNat] := rfl
        simp only [hc, hs, w1, w2, w3, w4, retQx, envR, con0, conN0, conN1, conN2, natsOf_arr, rowOf_arr, natsOf_cells, rowOf_cells, toN, natL_st, natL_d, natL_enc, natL_up, gm1, redQC, go_sem]
        repeat' apply And.intro
        all_goals first
          | omega
          | rfl
          | skip
        refine again (j + 1 + 1) [(500, 60104)] (by omega) (by omega) ?_
        simp only [oInv, e1, envR, con0, conN0, conN1, conN2, natsOf_arr, rowOf_arr, natsOf_cells, rowOf_cells, toN, natL_st, natL_d, natL_enc, natL_up, gm1, redQC, go_sem]
      · obtain rfl : j = 15 := by have := of_decide_eq_false hc; omega
        have hl16 : (ofD s 16).length = 16 := ofD_len s 16
        have m1 : (((ofD s 16).getD 15 0 : Nat) : Int).tmod 32768 = (((ofD s 16).getD 15 0 % 32768 : Nat) : Int) := by rw [show (32768 : Int) = ((32768 : Nat) : Int) from rfl, ← Int.ofNat_tmod]
        have hg := ofM_good s
        cases hst : redStop (ofM s) with
        | true =>
          have hr := redRow_stop hst
          unfold ofM at hst hg hr
          simp only [hc, hl16, m1, hst, conQ, redQF, List.length_set, retQx, envR, con0, conN0, conN1, conN2, natsOf_arr, rowOf_arr, natsOf_cells, rowOf_cells, toN, natL_st, natL_d, natL_enc, natL_up, gm1, redQC, go_sem]
          repeat' apply And.intro
          all_goals first
            | omega
            | exact hg
            | rfl
            | skip
          refine endX [(0, 500)] ?_
          simp only [ofRow, ofM, hr, envR, con0, conN0, conN1, conN2, natsOf_arr, rowOf_arr, natsOf_cells, rowOf_cells, toN, natL_st, natL_d, natL_enc, natL_up, gm1, redQC, go_sem]
        | false =>
          unfold ofM at hst hg
          simp only [hc, hl16, m1, hst, conQ, redQF, List.length_set, retQx, envR, con0, conN0, conN1, conN2, natsOf_arr, rowOf_arr, natsOf_cells, rowOf_cells, toN, natL_st, natL_d, natL_enc, natL_up, gm1, redQC, go_sem]
          repeat' apply And.intro
          all_goals first
            | omega
            | exact hg
            | rfl
            | skip
          refine endX [(0, 80008)] ?_
          simp only [ofRow, ofM, envR, con0, conN0, conN1, conN2, natsOf_arr, rowOf_arr, natsOf_cells, rowOf_cells, toN, natL_st, natL_d, natL_enc, natL_up, gm1, redQC, go_sem]
def rofF : List CV → List SObj → Option (SV × List SObj × List Prop)
  | [.one (.str s)], [] => some (.c (.one (.sl 0 0 1 16)), [.arr Nat natL (ofRow s)], [s.length = 32])
  | _, _ => none
def rofC : Con := conQ rofF
theorem rofC_ok : ConOk Tryz.prog 67 rofC := conQ_ok Tryz.func67 rfl rfl fun args es v nw ob h hob => by
  unfold rofF at h
  split at h
  · rename_i z heq
    obtain rfl : es = [] := List.map_eq_nil_iff.1 heq
    simp only [Option.some.injEq, Prod.mk.injEq] at h
    obtain ⟨rfl, rfl, rfl⟩ := h
    exact rof_tri _ hob.1
  · cases h
-- POWER
def powW (a : List Nat) : Nat → List Nat → List Nat
  | 0, R => R
  | b + 1, R => powW a b (if b = 2 ∨ b = 4 then rMul R R else rMul (rMul R R) a)
def powRow (a : List Nat) : List Nat := powW a 255 (smallL 1)
theorem fw_small (n : Nat) (hn : n < 4294967296) : fw (smallL n) = Fin.ofNat p25519 n := by unfold fw; rw [(small_good n hn).2]
theorem powW_good {a : List Nat} (ha : goodR a) : ∀ (b : Nat) (R : List Nat), goodR R → goodR (powW a b R) ∧ fw (powW a b R) = vinvR (fw a) b (fw R)
  | 0, R, h => ⟨h, rfl⟩
  | b + 1, R, h => by
    rw [powW, vinvR]
    split
    · have := powW_good ha b (rMul R R) (h.mul h)
      rw [fw_mul h h] at this
      exact this
    · have := powW_good ha b (rMul (rMul R R) a) ((h.mul h).mul ha)
      rw [fw_mul (h.mul h) ha, fw_mul h h] at this
      exact this
theorem pow_good {a : List Nat} (ha : goodR a) : goodR (powRow a) ∧ fw (powRow a) = vinvR (fw a) 255 1 := by
  have := powW_good ha 255 (smallL 1) (small_good 1 (by decide)).1
  rw [fw_small 1 (by decide)] at this
  exact this
def pwInv (a : List Nat) (wa : Bool) (s : Nat × List Nat) : St := ⟨[(0, .c (.one (.sl 0 0 1 16))), (3, .c (.one (.sl 500 0 1 16))), (4, .c (.one (.num (bitN s.1))))], [(0, ⟨.arr Nat natL a, wa⟩), (500, ⟨.arr Nat natL s.2, true⟩)]⟩
def gm2 : Nat → Option Con := fun f => match f with
  | 72 => some rmulC
  | 68 => some rsmallC
  | _ => none
theorem gm2_ok : GaOk Tryz.prog gm2 := fun f con h => by
  unfold gm2 at h
  split at h
  · injection h with h; subst h; exact rmulC_ok
  · injection h with h; subst h; exact rsmallC_ok
  · cases h
set_option maxRecDepth 100000 in
theorem rpow_tri (a : List Nat) (wa : Bool) (ha : goodR a) : Tri Tryz.prog 73 [.one (.sl 0 0 1 16)] [(0, ⟨.arr Nat natL a, wa⟩)] (.c (.one (.sl 1 0 1 16))) [(0, ⟨.arr Nat natL a, wa⟩), (1, ⟨.arr Nat natL (powRow a), true⟩)] := by
  refine tri_ofx (envR_ok gm2_ok 23 [0]) Tryz.func73 rfl rfl (rs := [.tmp 2]) rfl rfl (by simp [envR]) rfl ?_
  simp only [conQ, rsmallF, retQx, envR, con0, conN0, conN1, conN2, natsOf_arr, rowOf_arr, natsOf_cells, rowOf_cells, toN, natL_st, natL_d, natL_enc, natL_up, gm2, rmulC, rsmallC, go_sem]
  repeat' apply And.intro
  all_goals first
    | omega
    | rfl
    | skip
  refine loop_inv (envR_ok gm2_ok 23 [0]) (pwInv a wa) (fun s => powW a s.1 s.2 = powRow a ∧ s.1 ≤ 255 ∧ goodR s.2) (fun s => s.1) (255, smallL 1) [(500, 20000)] ⟨rfl, Nat.le_refl _, (small_good 1 (by decide)).1⟩ ?_ ?_
  · simp only [pwInv, bitN, envR, con0, conN0, conN1, conN2, natsOf_arr, rowOf_arr, natsOf_cells, rowOf_cells, toN, natL_st, natL_d, natL_enc, natL_up, gm2, rmulC, rsmallC, go_sem]
    exact ⟨rfl, id⟩
  · rintro ⟨c, R⟩ ⟨h1, h2, h3⟩
    simp only at h3
    rcases c with _ | c
    · have hr : powRow a = R := h1.symm
      simp only [pwInv, bitN, retQx, envR, con0, conN0, conN1, conN2, natsOf_arr, rowOf_arr, natsOf_cells, rowOf_cells, toN, natL_st, natL_d, natL_enc, natL_up, gm2, rmulC, rsmallC, go_sem]
      refine endX [(1, 500)] ?_
      simp only [hr, envR, con0, conN0, conN1, conN2, natsOf_arr, rowOf_arr, natsOf_cells, rowOf_cells, toN, natL_st, natL_d, natL_enc, natL_up, gm2, rmulC, rsmallC, go_sem]
      exact ⟨rfl, id⟩
    · have hle' : c ≤ 254 := by have : c + 1 ≤ 255 := h2; omega
      have h0 : decide ((0 : Int) ≤ (c : Int)) = true := decide_eq_true (by omega)
      have hw := bitN_next (c := c) (by omega)
      have g2 := h3.mul h3
      have g3 := g2.mul ha
      by_cases c2 : c = 2
      · subst c2
        simp only [pwInv, bitN_succ, h0, hw, conQ, row2F, bne, retQx, envR, con0, conN0, conN1, conN2, natsOf_arr, rowOf_arr, natsOf_cells, rowOf_cells, toN, natL_st, natL_d, natL_enc, natL_up, gm2, rmulC, rsmallC, go_sem]
        repeat' apply And.intro
        all_goals first
          | exact h3
          | exact g2
          | exact ha
          | skip
        refine again (2, rMul R R) [(500, 60016)] ⟨h1, by show 2 ≤ 255; decide, g2⟩ (by show 2 < 2 + 1; decide) ?_
        simp only [pwInv, envR, con0, conN0, conN1, conN2, natsOf_arr, rowOf_arr, natsOf_cells, rowOf_cells, toN, natL_st, natL_d, natL_enc, natL_up, gm2, rmulC, rsmallC, go_sem]
        exact ⟨rfl, rfl, id⟩
      · by_cases c4 : c = 4
        · subst c4
          simp only [pwInv, bitN_succ, h0, hw, conQ, row2F, bne, retQx, envR, con0, conN0, conN1, conN2, natsOf_arr, rowOf_arr, natsOf_cells, rowOf_cells, toN, natL_st, natL_d, natL_enc, natL_up, gm2, rmulC, rsmallC, go_sem]
          repeat' apply And.intro
          all_goals first
            | exact h3
            | exact g2
            | exact ha
            | skip
          refine again (4, rMul R R) [(500, 60016)] ⟨h1, by show 4 ≤ 255; decide, g2⟩ (by show 4 < 4 + 1; decide) ?_
          simp only [pwInv, envR, con0, conN0, conN1, conN2, natsOf_arr, rowOf_arr, natsOf_cells, rowOf_cells, toN, natL_st, natL_d, natL_enc, natL_up, gm2, rmulC, rsmallC, go_sem]
          exact ⟨rfl, rfl, id⟩
        · have e2 : ((c : Int) == 2) = false := beq_eq_false_iff_ne.2 (by omega)
          have e4 : ((c : Int) == 4) = false := beq_eq_false_iff_ne.2 (by omega)
          simp only [pwInv, bitN_succ, h0, hw, e2, e4, conQ, row2F, bne, retQx, envR, con0, conN0, conN1, conN2, natsOf_arr, rowOf_arr, natsOf_cells, rowOf_cells, toN, natL_st, natL_d, natL_enc, natL_up, gm2, rmulC, rsmallC, go_sem]
          repeat' apply And.intro
          all_goals first
            | exact h3
            | exact g2
            | exact ha
            | skip
          refine again (c, rMul (rMul R R) a) [(500, 80016)] ⟨?_, by show c ≤ 255; omega, g3⟩ (by show c < c + 1; omega) ?_
          · rw [← h1]
            show _ = powW a c (if c = 2 ∨ c = 4 then rMul R R else rMul (rMul R R) a)
            rw [if_neg (by omega)]
          · simp only [pwInv, envR, con0, conN0, conN1, conN2, natsOf_arr, rowOf_arr, natsOf_cells, rowOf_cells, toN, natL_st, natL_d, natL_enc, natL_up, gm2, rmulC, rsmallC, go_sem]
            exact ⟨rfl, id⟩
def rpowF : List CV → List SObj → Option (SV × List SObj × List Prop)
  | [.one (.sl 0 0 1 16)], [o] => some (.c (.one (.sl 1 0 1 16)), [.arr Nat natL (powRow (natsOf o))], [rowOf o, goodR (natsOf o)])
  | _, _ => none
def rpowC : Con := conQ rpowF
theorem rpowC_ok : ConOk Tryz.prog 73 rpowC := conQ_ok Tryz.func73 rfl rfl fun args es v nw ob h hob => by
  unfold rpowF at h
  split at h
  · rename_i o heq
    match es, heq with
    | [e], heq =>
      simp only [List.map_cons, List.map_nil, List.cons.injEq, and_true] at heq
      subst heq
      simp only [Option.some.injEq, Prod.mk.injEq] at h
      obtain ⟨rfl, rfl, rfl⟩ := h
      obtain ⟨o1, o2, _⟩ := hob
      exact (rpow_tri _ e.wr o2).sim (.cons (simE_row o1 e.wr) .nil) (.cons (simE_row o1 e.wr) (.cons (.refl _) .nil))
  · cases h
end Go.Proofs.YtahiopdkekkibaaGreatDoor.FK

/-
  Layer 4: the document's sum of two points, and a point twice, walked.
-/
namespace Go.Proofs.YtahiopdkekkibaaGreatDoor.FK
open Go Go.RowKit
set_option maxHeartbeats 8000000
set_option linter.unusedSimpArgs false
set_option linter.unusedVariables false
def bM (ax az bx bz : List Nat) : List Nat := rMul (rSub bx bz) (rAdd ax az)
def bN (ax az bx bz : List Nat) : List Nat := rMul (rAdd bx bz) (rSub ax az)
def bX (ax az bx bz : List Nat) : List Nat := rMul (rAdd (bM ax az bx bz) (bN ax az bx bz)) (rAdd (bM ax az bx bz) (bN ax az bx bz))
def bZ (ax az bx bz x : List Nat) : List Nat := rMul x (rMul (rSub (bM ax az bx bz) (bN ax az bx bz)) (rSub (bM ax az bx bz) (bN ax az bx bz)))
def tA (x z : List Nat) : List Nat := rMul (rAdd x z) (rAdd x z)
def tB (x z : List Nat) : List Nat := rMul (rSub x z) (rSub x z)
def tE (x z : List Nat) : List Nat := rSub (tA x z) (tB x z)
def tX (x z : List Nat) : List Nat := rMul (tA x z) (tB x z)
def tZ (x z : List Nat) : List Nat := rMul (tE x z) (rAdd (tA x z) (rMul (smallL 121665) (tE x z)))
def gb1 : Nat → Option Con := fun f => match f with
  | 112 => some raddC
  | 111 => some rsubC
  | 72 => some rmulC
  | 68 => some rsmallC
  | _ => none
theorem gb1_ok : GaOk Tryz.prog gb1 := fun f con h => by
  unfold gb1 at h
  split at h
  · injection h with h; subst h; exact raddC_ok
  · injection h with h; subst h; exact rsubC_ok
  · injection h with h; subst h; exact rmulC_ok
  · injection h with h; subst h; exact rsmallC_ok
  · cases h
set_option maxRecDepth 100000 in
theorem both_tri (ax az bx bz x : List Nat) (w0 w1 w2 w3 w4 : Bool) (gax : goodR ax) (gaz : goodR az) (gbx : goodR bx) (gbz : goodR bz) (gx : goodR x) : Tri Tryz.prog 69 [.one (.sl 0 0 1 16), .one (.sl 1 0 1 16), .one (.sl 2 0 1 16), .one (.sl 3 0 1 16), .one (.sl 4 0 1 16)] [(0, ⟨.arr Nat natL ax, w0⟩), (1, ⟨.arr Nat natL az, w1⟩), (2, ⟨.arr Nat natL bx, w2⟩), (3, ⟨.arr Nat natL bz, w3⟩), (4, ⟨.arr Nat natL x, w4⟩)] (.tup [.one (.sl 5 0 1 16), .one (.sl 6 0 1 16)]) [(0, ⟨.arr Nat natL ax, w0⟩), (1, ⟨.arr Nat natL az, w1⟩), (2, ⟨.arr Nat natL bx, w2⟩), (3, ⟨.arr Nat natL bz, w3⟩), (4, ⟨.arr Nat natL x, w4⟩), (5, ⟨.arr Nat natL (bX ax az bx bz), true⟩), (6, ⟨.arr Nat natL (bZ ax az bx bz x), true⟩)] := by
  obtain ⟨v1, e1⟩ : ∃ v, rSub bx bz = v := ⟨_, rfl⟩
  have gv1 : goodR v1 := by rw [← e1]; exact gbx.sub gbz
  obtain ⟨v2, e2⟩ : ∃ v, rAdd ax az = v := ⟨_, rfl⟩
  have gv2 : goodR v2 := by rw [← e2]; exact gax.add gaz
  obtain ⟨v3, e3⟩ : ∃ v, rMul v1 v2 = v := ⟨_, rfl⟩
  have gv3 : goodR v3 := by rw [← e3]; exact gv1.mul gv2
  obtain ⟨v4, e4⟩ : ∃ v, rAdd bx bz = v := ⟨_, rfl⟩
  have gv4 : goodR v4 := by rw [← e4]; exact gbx.add gbz
  obtain ⟨v5, e5⟩ : ∃ v, rSub ax az = v := ⟨_, rfl⟩
  have gv5 : goodR v5 := by rw [← e5]; exact gax.sub gaz
  obtain ⟨v6, e6⟩ : ∃ v, rMul v4 v5 = v := ⟨_, rfl⟩
  have gv6 : goodR v6 := by rw [← e6]; exact gv4.mul gv5
  obtain ⟨v7, e7⟩ : ∃ v, rAdd v3 v6 = v := ⟨_, rfl⟩
  have gv7 : goodR v7 := by rw [← e7]; exact gv3.add gv6
  obtain ⟨v8, e8⟩ : ∃ v, rSub v3 v6 = v := ⟨_, rfl⟩
  have gv8 : goodR v8 := by rw [← e8]; exact gv3.sub gv6
  obtain ⟨v9, e9⟩ : ∃ v, rMul v7 v7 = v := ⟨_, rfl⟩
  have gv9 : goodR v9 := by rw [← e9]; exact gv7.mul gv7
  obtain ⟨v10, e10⟩ : ∃ v, rMul v8 v8 = v := ⟨_, rfl⟩
  have gv10 : goodR v10 := by rw [← e10]; exact gv8.mul gv8
  obtain ⟨v11, e11⟩ : ∃ v, rMul x v10 = v := ⟨_, rfl⟩
  have gv11 : goodR v11 := by rw [← e11]; exact gx.mul gv10
  have eX : bX ax az bx bz = v9 := by unfold bX bM bN; rw [e1, e2, e3, e4, e5, e6, e7, e9]
  have eZ : bZ ax az bx bz x = v11 := by unfold bZ bM bN; rw [e1, e2, e3, e4, e5, e6, e8, e10, e11]
  clear gv11
  refine tri_ofx (envR_ok gb1_ok 44 [0, 1, 2, 3, 4]) Tryz.func69 rfl rfl (rs := [.tmp 10, .tmp 11]) rfl rfl (by simp [envR]) rfl ?_
  simp only [conQ, row1F, row2F, retQx, e1, e2, e3, e4, e5, e6, e7, e8, e9, e10, e11, envR, con0, conN0, conN1, conN2, natsOf_arr, rowOf_arr, natsOf_cells, rowOf_cells, toN, natL_st, natL_d, natL_enc, natL_up, gb1, raddC, rsubC, rmulC, rsmallC, go_sem]
  repeat' apply And.intro
  all_goals first
    | with_reducible assumption
    | omega
    | rfl
    | skip
  refine endX [(5, 50016), (6, 50056)] ?_
  simp only [eX, eZ, envR, con0, conN0, conN1, conN2, natsOf_arr, rowOf_arr, natsOf_cells, rowOf_cells, toN, natL_st, natL_d, natL_enc, natL_up, gb1, raddC, rsubC, rmulC, rsmallC, go_sem]
  all_goals first
    | exact ⟨rfl, id, id, id, id, id⟩
    | trace_state
set_option maxRecDepth 100000 in
theorem bothA_tri (ax az bx bz : List Nat) (w0 w1 w2 w3 : Bool) (gax : goodR ax) (gaz : goodR az) (gbx : goodR bx) (gbz : goodR bz) : Tri Tryz.prog 69 [.one (.sl 0 0 1 16), .one (.sl 1 0 1 16), .one (.sl 2 0 1 16), .one (.sl 3 0 1 16), .one (.sl 2 0 1 16)] [(0, ⟨.arr Nat natL ax, w0⟩), (1, ⟨.arr Nat natL az, w1⟩), (2, ⟨.arr Nat natL bx, w2⟩), (3, ⟨.arr Nat natL bz, w3⟩)] (.tup [.one (.sl 4 0 1 16), .one (.sl 5 0 1 16)]) [(0, ⟨.arr Nat natL ax, w0⟩), (1, ⟨.arr Nat natL az, w1⟩), (2, ⟨.arr Nat natL bx, w2⟩), (3, ⟨.arr Nat natL bz, w3⟩), (4, ⟨.arr Nat natL (bX ax az bx bz), true⟩), (5, ⟨.arr Nat natL (bZ ax az bx bz bx), true⟩)] := by
  obtain ⟨v1, e1⟩ : ∃ v, rSub bx bz = v := ⟨_, rfl⟩
  have gv1 : goodR v1 := by rw [← e1]; exact gbx.sub gbz
  obtain ⟨v2, e2⟩ : ∃ v, rAdd ax az = v := ⟨_, rfl⟩
  have gv2 : goodR v2 := by rw [← e2]; exact gax.add gaz
  obtain ⟨v3, e3⟩ : ∃ v, rMul v1 v2 = v := ⟨_, rfl⟩
  have gv3 : goodR v3 := by rw [← e3]; exact gv1.mul gv2
  obtain ⟨v4, e4⟩ : ∃ v, rAdd bx bz = v := ⟨_, rfl⟩
  have gv4 : goodR v4 := by rw [← e4]; exact gbx.add gbz
  obtain ⟨v5, e5⟩ : ∃ v, rSub ax az = v := ⟨_, rfl⟩
  have gv5 : goodR v5 := by rw [← e5]; exact gax.sub gaz
  obtain ⟨v6, e6⟩ : ∃ v, rMul v4 v5 = v := ⟨_, rfl⟩
  have gv6 : goodR v6 := by rw [← e6]; exact gv4.mul gv5
  obtain ⟨v7, e7⟩ : ∃ v, rAdd v3 v6 = v := ⟨_, rfl⟩
  have gv7 : goodR v7 := by rw [← e7]; exact gv3.add gv6
  obtain ⟨v8, e8⟩ : ∃ v, rSub v3 v6 = v := ⟨_, rfl⟩
  have gv8 : goodR v8 := by rw [← e8]; exact gv3.sub gv6
  obtain ⟨v9, e9⟩ : ∃ v, rMul v7 v7 = v := ⟨_, rfl⟩
  have gv9 : goodR v9 := by rw [← e9]; exact gv7.mul gv7
  obtain ⟨v10, e10⟩ : ∃ v, rMul v8 v8 = v := ⟨_, rfl⟩
  have gv10 : goodR v10 := by rw [← e10]; exact gv8.mul gv8
  obtain ⟨v11, e11⟩ : ∃ v, rMul bx v10 = v := ⟨_, rfl⟩
  have gv11 : goodR v11 := by rw [← e11]; exact gbx.mul gv10
  have eX : bX ax az bx bz = v9 := by unfold bX bM bN; rw [e1, e2, e3, e4, e5, e6, e7, e9]
  have eZ : bZ ax az bx bz bx = v11 := by unfold bZ bM bN; rw [e1, e2, e3, e4, e5, e6, e8, e10, e11]
  clear gv11
  refine tri_ofx (envR_ok gb1_ok 44 [0, 1, 2, 3]) Tryz.func69 rfl rfl (rs := [.tmp 10, .tmp 11]) rfl rfl (by simp [envR]) rfl ?_
  simp only [conQ, row1F, row2F, retQx, e1, e2, e3, e4, e5, e6, e7, e8, e9, e10, e11, envR, con0, conN0, conN1, conN2, natsOf_arr, rowOf_arr, natsOf_cells, rowOf_cells, toN, natL_st, natL_d, natL_enc, natL_up, gb1, raddC, rsubC, rmulC, rsmallC, go_sem]
  repeat' apply And.intro
  all_goals first
    | with_reducible assumption
    | omega
    | rfl
    | skip
  refine endX [(4, 50016), (5, 50056)] ?_
  simp only [eX, eZ, envR, con0, conN0, conN1, conN2, natsOf_arr, rowOf_arr, natsOf_cells, rowOf_cells, toN, natL_st, natL_d, natL_enc, natL_up, gb1, raddC, rsubC, rmulC, rsmallC, go_sem]
  all_goals first
    | exact ⟨rfl, id, id, id, id⟩
    | trace_state
set_option maxRecDepth 100000 in
theorem twice_tri (x z : List Nat) (w0 w1 : Bool) (gx : goodR x) (gz : goodR z) : Tri Tryz.prog 70 [.one (.sl 0 0 1 16), .one (.sl 1 0 1 16)] [(0, ⟨.arr Nat natL x, w0⟩), (1, ⟨.arr Nat natL z, w1⟩)] (.tup [.one (.sl 2 0 1 16), .one (.sl 3 0 1 16)]) [(0, ⟨.arr Nat natL x, w0⟩), (1, ⟨.arr Nat natL z, w1⟩), (2, ⟨.arr Nat natL (tX x z), true⟩), (3, ⟨.arr Nat natL (tZ x z), true⟩)] := by
  obtain ⟨q, eq⟩ : ∃ q, smallL 121665 = q := ⟨_, rfl⟩
  have gq : goodR q := by rw [← eq]; exact (small_good 121665 (by decide)).1
  obtain ⟨v1, e1⟩ : ∃ v, rAdd x z = v := ⟨_, rfl⟩
  have gv1 : goodR v1 := by rw [← e1]; exact gx.add gz
  obtain ⟨v2, e2⟩ : ∃ v, rSub x z = v := ⟨_, rfl⟩
  have gv2 : goodR v2 := by rw [← e2]; exact gx.sub gz
  obtain ⟨v3, e3⟩ : ∃ v, rMul v1 v1 = v := ⟨_, rfl⟩
  have gv3 : goodR v3 := by rw [← e3]; exact gv1.mul gv1
  obtain ⟨v4, e4⟩ : ∃ v, rMul v2 v2 = v := ⟨_, rfl⟩
  have gv4 : goodR v4 := by rw [← e4]; exact gv2.mul gv2
  obtain ⟨v5, e5⟩ : ∃ v, rSub v3 v4 = v := ⟨_, rfl⟩
  have gv5 : goodR v5 := by rw [← e5]; exact gv3.sub gv4
  obtain ⟨v6, e6⟩ : ∃ v, rMul v3 v4 = v := ⟨_, rfl⟩
  have gv6 : goodR v6 := by rw [← e6]; exact gv3.mul gv4
  obtain ⟨v7, e7⟩ : ∃ v, rMul q v5 = v := ⟨_, rfl⟩
  have gv7 : goodR v7 := by rw [← e7]; exact gq.mul gv5
  obtain ⟨v8, e8⟩ : ∃ v, rAdd v3 v7 = v := ⟨_, rfl⟩
  have gv8 : goodR v8 := by rw [← e8]; exact gv3.add gv7
  obtain ⟨v9, e9⟩ : ∃ v, rMul v5 v8 = v := ⟨_, rfl⟩
  have gv9 : goodR v9 := by rw [← e9]; exact gv5.mul gv8
  have eX : tX x z = v6 := by unfold tX tA tB; rw [e1, e2, e3, e4, e6]
  have eZ : tZ x z = v9 := by unfold tZ tE tA tB; rw [eq, e1, e2, e3, e4, e5, e7, e8, e9]
  clear gv6 gv9
  refine tri_ofx (envR_ok gb1_ok 36 [0, 1]) Tryz.func70 rfl rfl (rs := [.tmp 4, .tmp 5]) rfl rfl (by simp [envR]) rfl ?_
  simp only [conQ, row1F, row2F, rsmallF, retQx, eq, e1, e2, e3, e4, e5, e6, e7, e8, e9, envR, con0, conN0, conN1, conN2, natsOf_arr, rowOf_arr, natsOf_cells, rowOf_cells, toN, natL_st, natL_d, natL_enc, natL_up, gb1, raddC, rsubC, rmulC, rsmallC, go_sem]
  repeat' apply And.intro
  all_goals first
    | with_reducible assumption
    | omega
    | rfl
    | skip
  refine endX [(2, 50016), (3, 50072)] ?_
  simp only [eX, eZ, envR, con0, conN0, conN1, conN2, natsOf_arr, rowOf_arr, natsOf_cells, rowOf_cells, toN, natL_st, natL_d, natL_enc, natL_up, gb1, raddC, rsubC, rmulC, rsmallC, go_sem]
  all_goals first
    | exact ⟨rfl, id, id⟩
    | trace_state
def bothF : List CV → List SObj → Option (SV × List SObj × List Prop)
  | [.one (.sl 0 0 1 16), .one (.sl 1 0 1 16), .one (.sl 2 0 1 16), .one (.sl 3 0 1 16), .one (.sl 4 0 1 16)], [a, b, c, d, e] => some (.tup [.one (.sl 5 0 1 16), .one (.sl 6 0 1 16)], [.arr Nat natL (bX (natsOf a) (natsOf b) (natsOf c) (natsOf d)), .arr Nat natL (bZ (natsOf a) (natsOf b) (natsOf c) (natsOf d) (natsOf e))], [rowOf a, rowOf b, rowOf c, rowOf d, rowOf e, goodR (natsOf a), goodR (natsOf b), goodR (natsOf c), goodR (natsOf d), goodR (natsOf e)])
  | [.one (.sl 0 0 1 16), .one (.sl 1 0 1 16), .one (.sl 2 0 1 16), .one (.sl 3 0 1 16), .one (.sl 2 0 1 16)], [a, b, c, d] => some (.tup [.one (.sl 4 0 1 16), .one (.sl 5 0 1 16)], [.arr Nat natL (bX (natsOf a) (natsOf b) (natsOf c) (natsOf d)), .arr Nat natL (bZ (natsOf a) (natsOf b) (natsOf c) (natsOf d) (natsOf c))], [rowOf a, rowOf b, rowOf c, rowOf d, goodR (natsOf a), goodR (natsOf b), goodR (natsOf c), goodR (natsOf d)])
  | _, _ => none
def bothC : Con := conQ bothF
theorem bothC_ok : ConOk Tryz.prog 69 bothC := conQ_ok Tryz.func69 rfl rfl fun args es v nw ob h hob => by
  unfold bothF at h
  split at h
  · rename_i a b c d e heq
    match es, heq with
    | [e0, e1, e2, e3, e4], heq =>
      simp only [List.map_cons, List.map_nil, List.cons.injEq, and_true] at heq
      obtain ⟨rfl, rfl, rfl, rfl, rfl⟩ := heq
      simp only [Option.some.injEq, Prod.mk.injEq] at h
      obtain ⟨rfl, rfl, rfl⟩ := h
      obtain ⟨o0, o1, o2, o3, o4, p0, p1, p2, p3, p4, _⟩ := hob
      exact (both_tri _ _ _ _ _ e0.wr e1.wr e2.wr e3.wr e4.wr p0 p1 p2 p3 p4).sim (.cons (simE_row o0 e0.wr) (.cons (simE_row o1 e1.wr) (.cons (simE_row o2 e2.wr) (.cons (simE_row o3 e3.wr) (.cons (simE_row o4 e4.wr) .nil))))) (.cons (simE_row o0 e0.wr) (.cons (simE_row o1 e1.wr) (.cons (simE_row o2 e2.wr) (.cons (simE_row o3 e3.wr) (.cons (simE_row o4 e4.wr) (.cons (.refl _) (.cons (.refl _) .nil)))))))
  · rename_i a b c d heq
    match es, heq with
    | [e0, e1, e2, e3], heq =>
      simp only [List.map_cons, List.map_nil, List.cons.injEq, and_true] at heq
      obtain ⟨rfl, rfl, rfl, rfl⟩ := heq
      simp only [Option.some.injEq, Prod.mk.injEq] at h
      obtain ⟨rfl, rfl, rfl⟩ := h
      obtain ⟨o0, o1, o2, o3, p0, p1, p2, p3, _⟩ := hob
      exact (bothA_tri _ _ _ _ e0.wr e1.wr e2.wr e3.wr p0 p1 p2 p3).sim (.cons (simE_row o0 e0.wr) (.cons (simE_row o1 e1.wr) (.cons (simE_row o2 e2.wr) (.cons (simE_row o3 e3.wr) .nil)))) (.cons (simE_row o0 e0.wr) (.cons (simE_row o1 e1.wr) (.cons (simE_row o2 e2.wr) (.cons (simE_row o3 e3.wr) (.cons (.refl _) (.cons (.refl _) .nil))))))
  · cases h
def twiceF : List CV → List SObj → Option (SV × List SObj × List Prop)
  | [.one (.sl 0 0 1 16), .one (.sl 1 0 1 16)], [a, b] => some (.tup [.one (.sl 2 0 1 16), .one (.sl 3 0 1 16)], [.arr Nat natL (tX (natsOf a) (natsOf b)), .arr Nat natL (tZ (natsOf a) (natsOf b))], [rowOf a, rowOf b, goodR (natsOf a), goodR (natsOf b)])
  | _, _ => none
def twiceC : Con := conQ twiceF
theorem twiceC_ok : ConOk Tryz.prog 70 twiceC := conQ_ok Tryz.func70 rfl rfl fun args es v nw ob h hob => by
  unfold twiceF at h
  split at h
  · rename_i a b heq
    match es, heq with
    | [e0, e1], heq =>
      simp only [List.map_cons, List.map_nil, List.cons.injEq, and_true] at heq
      obtain ⟨rfl, rfl⟩ := heq
      simp only [Option.some.injEq, Prod.mk.injEq] at h
      obtain ⟨rfl, rfl, rfl⟩ := h
      obtain ⟨o0, o1, p0, p1, _⟩ := hob
      exact (twice_tri _ _ e0.wr e1.wr p0 p1).sim (.cons (simE_row o0 e0.wr) (.cons (simE_row o1 e1.wr) .nil)) (.cons (simE_row o0 e0.wr) (.cons (simE_row o1 e1.wr) (.cons (.refl _) (.cons (.refl _) .nil))))
  · cases h
end Go.Proofs.YtahiopdkekkibaaGreatDoor.FK

/-
  Layer 4: the document's ladder, walked, and its value; the law LadderPoints.
-/
namespace Go.Proofs.YtahiopdkekkibaaGreatDoor.FK
open Go Go.RowKit
set_option maxHeartbeats 400000
set_option linter.unusedSectionVars false
set_option linter.unusedSimpArgs false
set_option linter.unusedVariables false
structure R4 where
  (px pz qx qz : List Nat)
structure good4 (s : R4) : Prop where
  px : goodR s.px
  pz : goodR s.pz
  qx : goodR s.qx
  qz : goodR s.qz
def stepR (x : List Nat) (bit : Bool) (s : R4) : R4 :=
  if bit = true then ⟨bX s.px s.pz s.qx s.qz, bZ s.px s.pz s.qx s.qz x, tX s.qx s.qz, tZ s.qx s.qz⟩ else ⟨tX s.px s.pz, tZ s.px s.pz, bX s.px s.pz s.qx s.qz, bZ s.px s.pz s.qx s.qz x⟩
def ladR (x : List Nat) (bit : Nat → Bool) : Nat → R4 → R4
  | 0, s => s
  | t + 1, s => ladR x bit t (stepR x (bit t) s)
def startR (x : List Nat) : R4 := ⟨smallL 1, smallL 0, x, smallL 1⟩
theorem good_bX {a b c d : List Nat} (ha : goodR a) (hb : goodR b) (hc : goodR c) (hd : goodR d) : goodR (bX a b c d) := by
  have h := ((hc.sub hd).mul (ha.add hb)).add ((hc.add hd).mul (ha.sub hb))
  unfold bX bM bN
  exact h.mul h
theorem good_bZ {a b c d x : List Nat} (ha : goodR a) (hb : goodR b) (hc : goodR c) (hd : goodR d) (hx : goodR x) : goodR (bZ a b c d x) := by
  have h := ((hc.sub hd).mul (ha.add hb)).sub ((hc.add hd).mul (ha.sub hb))
  unfold bZ bM bN
  exact hx.mul (h.mul h)
theorem good_tX {a b : List Nat} (ha : goodR a) (hb : goodR b) : goodR (tX a b) := by
  have h1 := ha.add hb
  have h2 := ha.sub hb
  unfold tX tA tB
  exact (h1.mul h1).mul (h2.mul h2)
theorem good_tE {a b : List Nat} (ha : goodR a) (hb : goodR b) : goodR (tE a b) := by
  have h1 := ha.add hb
  have h2 := ha.sub hb
  unfold tE tA tB
  exact (h1.mul h1).sub (h2.mul h2)
theorem good_tZ {a b : List Nat} (ha : goodR a) (hb : goodR b) : goodR (tZ a b) := by
  have h1 := ha.add hb
  have h3 := good_tE ha hb
  have h4 := (small_good 121665 (by decide)).1
  unfold tZ tA
  exact h3.mul ((h1.mul h1).add (h4.mul h3))
section
variable {n : Nat} [NeZero n]
theorem dbl_x (c a b : Fin n) : (dbl c ⟨a, b⟩).x = (a + b) * (a + b) * ((a - b) * (a - b)) := rfl
theorem dbl_z (c a b : Fin n) : (dbl c ⟨a, b⟩).z = ((a + b) * (a + b) - (a - b) * (a - b)) * ((a + b) * (a + b) + c * ((a + b) * (a + b) - (a - b) * (a - b))) := by
  show ((a + b) * (a + b) - (a - b) * (a - b)) * ((a + b) * (a + b) + ((a + b) * (a + b) - (a - b) * (a - b)) * c) = _
  grind
theorem sm_x (u a b c d : Fin n) : (sm u ⟨a, b⟩ ⟨c, d⟩).x = ((c - d) * (a + b) + (c + d) * (a - b)) * ((c - d) * (a + b) + (c + d) * (a - b)) := rfl
theorem sm_z (u a b c d : Fin n) : (sm u ⟨a, b⟩ ⟨c, d⟩).z = u * (((c - d) * (a + b) - (c + d) * (a - b)) * ((c - d) * (a + b) - (c + d) * (a - b))) := rfl
theorem p2_eta (q : P2 n) {a b : Fin n} (h1 : a = q.x) (h2 : b = q.z) : (⟨a, b⟩ : P2 n) = q := by
  cases q; simp only at h1 h2; rw [h1, h2]
end
theorem good4_mk {a b c d : List Nat} (ha : goodR a) (hb : goodR b) (hc : goodR c) (hd : goodR d) : good4 ⟨a, b, c, d⟩ := ⟨ha, hb, hc, hd⟩
theorem good_step {x : List Nat} (hx : goodR x) (bit : Bool) (s : R4) (h : good4 s) : good4 (stepR x bit s) := by
  have a1 := good_tX h.px h.pz
  have a2 := good_tZ h.px h.pz
  have a3 := good_bX h.px h.pz h.qx h.qz
  have a4 := good_bZ h.px h.pz h.qx h.qz hx
  have a5 := good_tX h.qx h.qz
  have a6 := good_tZ h.qx h.qz
  unfold stepR
  cases bit
  · rw [if_neg (by decide)]
    exact good4_mk a1 a2 a3 a4
  · rw [if_pos rfl]
    exact good4_mk a3 a4 a5 a6
theorem good_lad {x : List Nat} (hx : goodR x) (bit : Nat → Bool) : ∀ (t : Nat) (s : R4), good4 s → good4 (ladR x bit t s)
  | 0, s, h => h
  | t + 1, s, h => by rw [ladR]; exact good_lad hx bit t _ (good_step hx _ s h)
theorem fw_bX {a b c d : List Nat} (ha : goodR a) (hb : goodR b) (hc : goodR c) (hd : goodR d) : fw (bX a b c d) = ((fw c - fw d) * (fw a + fw b) + (fw c + fw d) * (fw a - fw b)) * ((fw c - fw d) * (fw a + fw b) + (fw c + fw d) * (fw a - fw b)) := by
  have h := ((hc.sub hd).mul (ha.add hb)).add ((hc.add hd).mul (ha.sub hb))
  unfold bX bM bN
  rw [fw_mul h h, fw_add ((hc.sub hd).mul (ha.add hb)) ((hc.add hd).mul (ha.sub hb)), fw_mul (hc.sub hd) (ha.add hb), fw_mul (hc.add hd) (ha.sub hb), fw_sub hc hd, fw_add ha hb, fw_add hc hd, fw_sub ha hb]
theorem fw_bZ {a b c d x : List Nat} (ha : goodR a) (hb : goodR b) (hc : goodR c) (hd : goodR d) (hx : goodR x) : fw (bZ a b c d x) = fw x * (((fw c - fw d) * (fw a + fw b) - (fw c + fw d) * (fw a - fw b)) * ((fw c - fw d) * (fw a + fw b) - (fw c + fw d) * (fw a - fw b))) := by
  have h := ((hc.sub hd).mul (ha.add hb)).sub ((hc.add hd).mul (ha.sub hb))
  unfold bZ bM bN
  rw [fw_mul hx (h.mul h), fw_mul h h, fw_sub ((hc.sub hd).mul (ha.add hb)) ((hc.add hd).mul (ha.sub hb)), fw_mul (hc.sub hd) (ha.add hb), fw_mul (hc.add hd) (ha.sub hb), fw_sub hc hd, fw_add ha hb, fw_add hc hd, fw_sub ha hb]
theorem fw_tA {a b : List Nat} (ha : goodR a) (hb : goodR b) : fw (tA a b) = (fw a + fw b) * (fw a + fw b) := by unfold tA; rw [fw_mul (ha.add hb) (ha.add hb), fw_add ha hb]
theorem fw_tB {a b : List Nat} (ha : goodR a) (hb : goodR b) : fw (tB a b) = (fw a - fw b) * (fw a - fw b) := by unfold tB; rw [fw_mul (ha.sub hb) (ha.sub hb), fw_sub ha hb]
theorem fw_tX {a b : List Nat} (ha : goodR a) (hb : goodR b) : fw (tX a b) = (dbl c24 ⟨fw a, fw b⟩).x := by
  have hA : goodR (tA a b) := by unfold tA; exact (ha.add hb).mul (ha.add hb)
  have hB : goodR (tB a b) := by unfold tB; exact (ha.sub hb).mul (ha.sub hb)
  rw [dbl_x]
  unfold tX
  rw [fw_mul hA hB, fw_tA ha hb, fw_tB ha hb]
theorem fw_tE {a b : List Nat} (ha : goodR a) (hb : goodR b) : fw (tE a b) = (fw a + fw b) * (fw a + fw b) - (fw a - fw b) * (fw a - fw b) := by
  have hA : goodR (tA a b) := by unfold tA; exact (ha.add hb).mul (ha.add hb)
  have hB : goodR (tB a b) := by unfold tB; exact (ha.sub hb).mul (ha.sub hb)
  unfold tE
  rw [fw_sub hA hB, fw_tA ha hb, fw_tB ha hb]
theorem fw_tZ {a b : List Nat} (ha : goodR a) (hb : goodR b) : fw (tZ a b) = (dbl c24 ⟨fw a, fw b⟩).z := by
  have he := good_tE ha hb
  have hA : goodR (tA a b) := by unfold tA; exact (ha.add hb).mul (ha.add hb)
  have hs := (small_good 121665 (by decide)).1
  have hc : fw (smallL 121665) = c24 := fw_small 121665 (by decide)
  rw [dbl_z]
  unfold tZ
  rw [fw_mul he (hA.add (hs.mul he)), fw_add hA (hs.mul he), fw_mul hs he, fw_tA ha hb, fw_tE ha hb, hc]
theorem fw_bX' {a b c d : List Nat} (u : Fin p25519) (ha : goodR a) (hb : goodR b) (hc : goodR c) (hd : goodR d) : fw (bX a b c d) = (sm u ⟨fw a, fw b⟩ ⟨fw c, fw d⟩).x := by
  rw [sm_x]; exact fw_bX ha hb hc hd
theorem fw_bZ' {a b c d x : List Nat} (ha : goodR a) (hb : goodR b) (hc : goodR c) (hd : goodR d) (hx : goodR x) : fw (bZ a b c d x) = (sm (fw x) ⟨fw a, fw b⟩ ⟨fw c, fw d⟩).z := by
  rw [sm_z]; exact fw_bZ ha hb hc hd hx
def pvR (s : R4) : P2 p25519 × P2 p25519 := (⟨fw s.px, fw s.pz⟩, ⟨fw s.qx, fw s.qz⟩)
theorem pvR_x (s : R4) : (pvR s).1.x = fw s.px := rfl
theorem pvR_z (s : R4) : (pvR s).1.z = fw s.pz := rfl
theorem pv_stepR {x : List Nat} (hx : goodR x) (bit : Bool) (s : R4) (h : good4 s) : pvR (stepR x bit s) = if bit = true then (sm (fw x) (pvR s).1 (pvR s).2, dbl c24 (pvR s).2) else (dbl c24 (pvR s).1, sm (fw x) (pvR s).1 (pvR s).2) := by
  obtain ⟨h1, h2, h3, h4⟩ := h
  have e1 : (⟨fw (tX s.px s.pz), fw (tZ s.px s.pz)⟩ : P2 p25519) = dbl c24 ⟨fw s.px, fw s.pz⟩ := p2_eta _ (fw_tX h1 h2) (fw_tZ h1 h2)
  have e2 : (⟨fw (tX s.qx s.qz), fw (tZ s.qx s.qz)⟩ : P2 p25519) = dbl c24 ⟨fw s.qx, fw s.qz⟩ := p2_eta _ (fw_tX h3 h4) (fw_tZ h3 h4)
  have e3 : (⟨fw (bX s.px s.pz s.qx s.qz), fw (bZ s.px s.pz s.qx s.qz x)⟩ : P2 p25519) = sm (fw x) ⟨fw s.px, fw s.pz⟩ ⟨fw s.qx, fw s.qz⟩ := p2_eta _ (fw_bX' (fw x) h1 h2 h3 h4) (fw_bZ' h1 h2 h3 h4 hx)
  unfold stepR pvR
  cases bit
  · simp only [Bool.false_eq_true, if_false]
    rw [e1, e3]
  · simp only [if_true]
    rw [e2, e3]
theorem pv_ladR {x : List Nat} (hx : goodR x) (bit : Nat → Bool) : ∀ (t : Nat) (s : R4), good4 s → pvR (ladR x bit t s) = ladV c24 (fw x) bit t (pvR s)
  | 0, s, h => rfl
  | t + 1, s, h => by rw [ladR, ladV, pv_ladR hx bit t _ (good_step hx _ s h), pv_stepR hx _ s h]
theorem good_start {x : List Nat} (hx : goodR x) : good4 (startR x) := good4_mk (small_good 1 (by decide)).1 (small_good 0 (by decide)).1 hx (small_good 1 (by decide)).1
def pointW (k u : List UInt8) : List Nat := rMul (ladR (ofRow u) (kbit k) 255 (startR (ofRow u))).px (powRow (ladR (ofRow u) (kbit k) 255 (startR (ofRow u))).pz)
def pointR (k u : List UInt8) : List UInt8 := outW (pointW k u) 16
theorem pointW_good (k u : List UInt8) : goodR (pointW k u) := by
  have h := good_lad (of_good u) (kbit k) 255 _ (good_start (of_good u))
  unfold pointW
  exact h.px.mul (pow_good h.pz).1
theorem pointR_eq (k u : List UInt8) (hu : u.length = 32) : pointR k u = bytesF (climbF k (ofN u)) := by
  refine bytes_eq (pointW_good k u) ?_
  have h := good_lad (of_good u) (kbit k) 255 _ (good_start (of_good u))
  have hl := pv_ladR (of_good u) (kbit k) 255 _ (good_start (of_good u))
  have hs : pvR (startR (ofRow u)) = (⟨1, 0⟩, ⟨fw (ofRow u), 1⟩) := by
    have o1 : fw (smallL 1) = 1 := (fw_small 1 (by decide)).trans (by decide +kernel)
    have o0 : fw (smallL 0) = 0 := (fw_small 0 (by decide)).trans (by decide +kernel)
    unfold pvR startR
    simp only [o1, o0]
  rw [hs, fw_of u hu] at hl
  rw [fv_climb]
  unfold pointW
  rw [fw_mul h.px (pow_good h.pz).1, (pow_good h.pz).2, ← hl, pvR_x, pvR_z]
theorem kbit_div (k : List UInt8) (t : Nat) : ((((k.getD (t / 8) 0).toNat / 2 ^ (t % 8) % 2 : Nat) : Int) == 1) = kbit k t := by
  have h : ∀ n : Fin 256, ∀ m : Fin 8, (((n.val / 2 ^ m.val % 2 : Nat) : Int) == 1) = ((shr8 (UInt8.ofNat n.val) m.val &&& 1) == 1) := by decide +kernel
  have := h ⟨(k.getD (t / 8) 0).toNat, (k.getD (t / 8) 0).toNat_lt⟩ ⟨t % 8, Nat.mod_lt _ (by decide)⟩
  simp only [UInt8.ofNat_toNat] at this
  exact this
end Go.Proofs.YtahiopdkekkibaaGreatDoor.FK

/-
  Layer 4: what is clamped; the laws Clamps, Same, Small.
-/
namespace Go.Proofs.YtahiopdkekkibaaGreatDoor.FK
open Go Go.RowKit
set_option maxHeartbeats 4000000
set_option linter.unusedSimpArgs false
set_option linter.unusedVariables false
theorem tmodB (x : UInt8) (B : Nat) : ((x.toNat : Nat) : Int).tmod ((B : Nat) : Int) = ((x.toNat % B : Nat) : Int) := by rw [← Int.ofNat_tmod]
theorem by8_nat (n : Nat) : by8 ((n : Nat) : Int) = UInt8.ofNat n := by
  unfold by8
  apply UInt8.toNat_inj.1
  simp only [UInt8.toNat_ofNat']
  omega
set_option maxRecDepth 100000 in
theorem rclamp_tri (s : List UInt8) (hs : s.length = 32) : Tri Tryz.prog 66 [.one (.str s)] [] (.c (.one (.str (clampR s)))) [] := by
  refine tri_of (envOf_ok ga0_ok 28) Tryz.func66 rfl rfl (rs := [.tmp 2]) rfl rfl (by simp [envOf]) rfl [] ?_
  have m8 : ((s.getD 0 0).toNat : Int).tmod 8 = (((s.getD 0 0).toNat % 8 : Nat) : Int) := tmodB _ 8
  have m64 : ((s.getD 31 0).toNat : Int).tmod 64 = (((s.getD 31 0).toNat % 64 : Nat) : Int) := tmodB _ 64
  have w1 : IntKind.i64.wrap (((s.getD 0 0).toNat : Int) - (((s.getD 0 0).toNat % 8 : Nat) : Int)) = (((s.getD 0 0).toNat - (s.getD 0 0).toNat % 8 : Nat) : Int) := by
    have := (s.getD 0 0).toNat_lt
    rw [IntKind.wrap_i64]; omega
  have w2 : IntKind.i64.wrap ((((s.getD 31 0).toNat % 64 : Nat) : Int) + 64) = (((s.getD 31 0).toNat % 64 + 64 : Nat) : Int) := by
    rw [IntKind.wrap_i64]; omega
  simp only [envOf, ga0, hs, m8, m64, w1, w2, by8_nat, go_sem]
  repeat' apply And.intro
  all_goals first
    | omega
    | rfl
    | (rw [List.length_take]; omega)
def rclampC : Con := con0 fun args => match args with
  | [.one (.str s)] => some (.c (.one (.str (clampR s))), [s.length = 32])
  | _ => none
theorem rclampC_ok : ConOk Tryz.prog 66 rclampC := con0_ok Tryz.func66 rfl rfl fun args res ob h hob => by
  split at h
  · injection h with h; injection h with h1 h2; subst h1; subst h2; exact rclamp_tri _ hob.1
  · cases h
end Go.Proofs.YtahiopdkekkibaaGreatDoor.FK

/-
  Layer 4: the document's ladder, walked; the law LadderPoints.
-/
namespace Go.Proofs.YtahiopdkekkibaaGreatDoor.FK
open Go Go.RowKit
set_option maxHeartbeats 8000000
set_option linter.unusedSimpArgs false
set_option linter.unusedVariables false
def ptI (k : List UInt8) (x : List Nat) : Option (Nat × R4) → St
  | none => ⟨[(5, .c (.one (.str k))), (6, .c (.one (.sl 500 0 1 16))), (7, .c (.one (.sl 501 0 1 16))), (8, .c (.one (.sl 502 0 1 16))), (9, .c (.one (.sl 500 0 1 16))), (10, .c (.one (.sl 504 0 1 16))), (11, .c (.one (.num 254)))], [(500, ⟨.arr Nat natL x, true⟩), (501, ⟨.arr Nat natL (startR x).px, true⟩), (502, ⟨.arr Nat natL (startR x).pz, true⟩), (504, ⟨.arr Nat natL (startR x).qz, true⟩)]⟩
  | some (c, s) => ⟨[(5, .c (.one (.str k))), (6, .c (.one (.sl 500 0 1 16))), (7, .c (.one (.sl 501 0 1 16))), (8, .c (.one (.sl 502 0 1 16))), (9, .c (.one (.sl 503 0 1 16))), (10, .c (.one (.sl 504 0 1 16))), (11, .c (.one (.num (bitN c))))], [(500, ⟨.arr Nat natL x, true⟩), (501, ⟨.arr Nat natL s.px, true⟩), (502, ⟨.arr Nat natL s.pz, true⟩), (503, ⟨.arr Nat natL s.qx, true⟩), (504, ⟨.arr Nat natL s.qz, true⟩)]⟩
def ptJn (k : List UInt8) (x : List Nat) (s : R4) (t j : Nat) : St := ⟨[(5, .c (.one (.str k))), (6, .c (.one (.sl 500 0 1 16))), (7, .c (.one (.sl 501 0 1 16))), (8, .c (.one (.sl 502 0 1 16))), (9, .c (.one (.sl 500 0 1 16))), (10, .c (.one (.sl 504 0 1 16))), (11, .c (.one (.num t))), (12, .c (.one (.num ((k.getD (t / 8) 0).toNat / 2 ^ j : Nat)))), (13, .c (.one (.num j)))], [(500, ⟨.arr Nat natL x, true⟩), (501, ⟨.arr Nat natL s.px, true⟩), (502, ⟨.arr Nat natL s.pz, true⟩), (504, ⟨.arr Nat natL s.qz, true⟩)]⟩
def ptJs (k : List UInt8) (x : List Nat) (s : R4) (t j : Nat) : St := ⟨[(5, .c (.one (.str k))), (6, .c (.one (.sl 500 0 1 16))), (7, .c (.one (.sl 501 0 1 16))), (8, .c (.one (.sl 502 0 1 16))), (9, .c (.one (.sl 503 0 1 16))), (10, .c (.one (.sl 504 0 1 16))), (11, .c (.one (.num t))), (12, .c (.one (.num ((k.getD (t / 8) 0).toNat / 2 ^ j : Nat)))), (13, .c (.one (.num j)))], [(500, ⟨.arr Nat natL x, true⟩), (501, ⟨.arr Nat natL s.px, true⟩), (502, ⟨.arr Nat natL s.pz, true⟩), (503, ⟨.arr Nat natL s.qx, true⟩), (504, ⟨.arr Nat natL s.qz, true⟩)]⟩
def ptOk (k : List UInt8) (x : List Nat) : Option (Nat × R4) → Prop
  | none => True
  | some (c, s) => ladR x (kbit k) c s = ladR x (kbit k) 255 (startR x) ∧ c ≤ 255 ∧ good4 s
def ptMu : Option (Nat × R4) → Nat
  | none => 256
  | some (c, _) => c
def gb2 : Nat → Option Con := fun f => match f with
  | 66 => some rclampC
  | 67 => some rofC
  | 68 => some rsmallC
  | 69 => some bothC
  | 70 => some twiceC
  | 73 => some rpowC
  | 72 => some rmulC
  | 71 => some rbytesC
  | _ => none
theorem gb2_ok : GaOk Tryz.prog gb2 := fun f con h => by
  unfold gb2 at h
  split at h
  · injection h with h; subst h; exact rclampC_ok
  · injection h with h; subst h; exact rofC_ok
  · injection h with h; subst h; exact rsmallC_ok
  · injection h with h; subst h; exact bothC_ok
  · injection h with h; subst h; exact twiceC_ok
  · injection h with h; subst h; exact rpowC_ok
  · injection h with h; subst h; exact rmulC_ok
  · injection h with h; subst h; exact rbytesC_ok
  · cases h
set_option maxRecDepth 100000 in
theorem rpoint_tri (sc u : List UInt8) (hsc : sc.length = 32) (hu : u.length = 32) : Tri Tryz.prog 34 [.one (.str sc), .one (.str u)] [] (.c (.one (.str (pointR (clampK sc) u)))) [] := by
  obtain ⟨k, hk0⟩ : ∃ k, k = clampK sc := ⟨_, rfl⟩
  have hk : k.length = 32 := by rw [hk0, clampK_len]; exact hsc
  have hcl : clampR sc = k := by rw [hk0]; exact clampR_eq sc hsc
  rw [← hk0]
  have gx := of_good u
  have hres : pointR k u = outW (pointW k u) 16 := rfl
  have hpw : pointW k u = rMul (ladR (ofRow u) (kbit k) 255 (startR (ofRow u))).px (powRow (ladR (ofRow u) (kbit k) 255 (startR (ofRow u))).pz) := rfl
  have hpg := pointW_good k u
  obtain ⟨x, hx⟩ : ∃ x, x = ofRow u := ⟨_, rfl⟩
  rw [← hx] at gx hpw
  refine tri_ofx (envR_ok gb2_ok 74 []) Tryz.func34 rfl rfl (rs := [.tmp 4]) rfl rfl (by simp [envR]) rfl ?_
  simp only [hcl, ← hx, envR, con0, conN0, conN1, conN2, natsOf_arr, rowOf_arr, natsOf_cells, rowOf_cells, toN, natL_st, natL_d, natL_enc, natL_up, gb2, rclampC, rofC, rsmallC, bothC, twiceC, rpowC, rmulC, rbytesC, conQ, bothF, twiceF, rofF, rsmallF, row2F, rpowF, rbytesF, retQx, go_sem]
  repeat' apply And.intro
  all_goals first
    | with_reducible assumption
    | omega
    | rfl
    | skip
  refine loop_inv (envR_ok gb2_ok 74 []) (ptI k x) (ptOk k x) ptMu none [(500, 30008), (501, 40000), (502, 40008), (504, 40024)] trivial ?_ ?_
  · simp only [ptI, startR, envR, con0, conN0, conN1, conN2, natsOf_arr, rowOf_arr, natsOf_cells, rowOf_cells, toN, natL_st, natL_d, natL_enc, natL_up, gb2, rclampC, rofC, rsmallC, bothC, twiceC, rpowC, rmulC, rbytesC, conQ, bothF, twiceF, rofF, rsmallF, row2F, rpowF, rbytesF, retQx, go_sem]
    all_goals first
      | trivial
      | trace_state
  · rintro y hy
    rcases y with _ | ⟨c, s⟩
    · obtain ⟨s, hs⟩ : ∃ s, s = startR x := ⟨_, rfl⟩
      have hgood0 : good4 s := by rw [hs]; exact good_start gx
      have hgood := hgood0
      have hqx : s.qx = x := by rw [hs]; rfl
      have hsI : ptI k x none = ⟨[(5, .c (.one (.str k))), (6, .c (.one (.sl 500 0 1 16))), (7, .c (.one (.sl 501 0 1 16))), (8, .c (.one (.sl 502 0 1 16))), (9, .c (.one (.sl 500 0 1 16))), (10, .c (.one (.sl 504 0 1 16))), (11, .c (.one (.num (254 : Nat))))], [(500, ⟨.arr Nat natL x, true⟩), (501, ⟨.arr Nat natL s.px, true⟩), (502, ⟨.arr Nat natL s.pz, true⟩), (504, ⟨.arr Nat natL s.qz, true⟩)]⟩ := by rw [hs]; rfl
      obtain ⟨t, ht⟩ : ∃ t, t = 254 := ⟨_, rfl⟩
      rw [← ht] at hsI
      have hrun : ladR x (kbit k) t (stepR x (kbit k t) s) = ladR x (kbit k) 255 (startR x) := by rw [hs, ht]; rfl
      rw [hsI]
      have hd := tdiv8 t (by omega)
      have hm := tmod8 t
      have h0 : decide ((0 : Int) ≤ (t : Int)) = true := decide_eq_true (by omega)
      have hw := bitN_next (c := t) (by omega)
      have hbl := (k.getD (t / 8) 0).toNat_lt
      simp only [h0, hd, hm, hk, envR, con0, conN0, conN1, conN2, natsOf_arr, rowOf_arr, natsOf_cells, rowOf_cells, toN, natL_st, natL_d, natL_enc, natL_up, gb2, rclampC, rofC, rsmallC, bothC, twiceC, rpowC, rmulC, rbytesC, conQ, bothF, twiceF, rofF, rsmallF, row2F, rpowF, rbytesF, retQx, go_sem]
      repeat' apply And.intro
      all_goals first
        | omega
        | rfl
        | skip
      refine loop_inv (envR_ok gb2_ok 74 []) (ptJn k x s t) (fun j => j ≤ t % 8) (fun j => t % 8 - j) 0 [] (Nat.zero_le _) ?_ ?_
      · have hz : (k.getD (t / 8) 0).toNat / 2 ^ 0 = (k.getD (t / 8) 0).toNat := by rw [Nat.pow_zero, Nat.div_one]
        simp only [ptJn, hz, envR, con0, conN0, conN1, conN2, natsOf_arr, rowOf_arr, natsOf_cells, rowOf_cells, toN, natL_st, natL_d, natL_enc, natL_up, gb2, rclampC, rofC, rsmallC, bothC, twiceC, rpowC, rmulC, rbytesC, conQ, bothF, twiceF, rofF, rsmallF, row2F, rpowF, rbytesF, retQx, go_sem]
      · intro j hj
        have w1 : IntKind.i64.wrap ((j : Int) + 1) = ((j + 1 : Nat) : Int) := by rw [IntKind.wrap_i64]; omega
        have hle : (k.getD (t / 8) 0).toNat / 2 ^ j ≤ (k.getD (t / 8) 0).toNat := Nat.div_le_self _ _
        have w2 : IntKind.i64.wrap ((((k.getD (t / 8) 0).toNat / 2 ^ j : Nat) : Int).tdiv 2) = (((k.getD (t / 8) 0).toNat / 2 ^ (j + 1) : Nat) : Int) := by
          have hq : (k.getD (t / 8) 0).toNat / 2 ^ (j + 1) ≤ 255 := Nat.le_trans (Nat.div_le_self _ _) (by omega)
          rw [show (2 : Int) = ((2 : Nat) : Int) from rfl, ← Int.ofNat_tdiv, Nat.div_div_eq_div_mul, show 2 ^ j * 2 = 2 ^ (j + 1) from rfl, IntKind.wrap_i64]
          generalize (k.getD (t / 8) 0).toNat / 2 ^ (j + 1) = q at hq ⊢
          omega
        simp only [ptJn, hm, envR, con0, conN0, conN1, conN2, natsOf_arr, rowOf_arr, natsOf_cells, rowOf_cells, toN, natL_st, natL_d, natL_enc, natL_up, gb2, rclampC, rofC, rsmallC, bothC, twiceC, rpowC, rmulC, rbytesC, conQ, bothF, twiceF, rofF, rsmallF, row2F, rpowF, rbytesF, retQx, go_sem]
        refine br (fun hc => ?_) fun hc => ?_
        · have hc' := of_decide_eq_true hc
          simp only [hc, w1, w2, envR, con0, conN0, conN1, conN2, natsOf_arr, rowOf_arr, natsOf_cells, rowOf_cells, toN, natL_st, natL_d, natL_enc, natL_up, gb2, rclampC, rofC, rsmallC, bothC, twiceC, rpowC, rmulC, rbytesC, conQ, bothF, twiceF, rofF, rsmallF, row2F, rpowF, rbytesF, retQx, go_sem]
          refine again (j + 1) [] (by omega) (by omega) ?_
          simp only [ptJn, envR, con0, conN0, conN1, conN2, natsOf_arr, rowOf_arr, natsOf_cells, rowOf_cells, toN, natL_st, natL_d, natL_enc, natL_up, gb2, rclampC, rofC, rsmallC, bothC, twiceC, rpowC, rmulC, rbytesC, conQ, bothF, twiceF, rofF, rsmallF, row2F, rpowF, rbytesF, retQx, go_sem]
        · obtain rfl : j = t % 8 := by have := of_decide_eq_false hc; omega
          have m2 : (((k.getD (t / 8) 0).toNat / 2 ^ (t % 8) : Nat) : Int).tmod 2 = (((k.getD (t / 8) 0).toNat / 2 ^ (t % 8) % 2 : Nat) : Int) := by rw [show (2 : Int) = ((2 : Nat) : Int) from rfl, ← Int.ofNat_tmod]
          have hbit := kbit_div k t
          obtain ⟨gp, gq, gr, gs⟩ := hgood
          rw [hqx] at gr
          obtain ⟨nx, hnx⟩ : ∃ nx, nx = stepR x (kbit k t) s := ⟨_, rfl⟩
          have hgn := good_step gx (kbit k t) s hgood0
          have hrn : ladR x (kbit k) t nx = ladR x (kbit k) 255 (startR x) := by rw [hnx]; exact hrun
          rw [← hnx] at hgn
          cases hkb : kbit k t with
          | true =>
            rw [hkb] at hbit hnx
            simp only [hc, m2, hbit, hw, envR, con0, conN0, conN1, conN2, natsOf_arr, rowOf_arr, natsOf_cells, rowOf_cells, toN, natL_st, natL_d, natL_enc, natL_up, gb2, rclampC, rofC, rsmallC, bothC, twiceC, rpowC, rmulC, rbytesC, conQ, bothF, twiceF, rofF, rsmallF, row2F, rpowF, rbytesF, retQx, go_sem]
            repeat' apply And.intro
            all_goals first
              | with_reducible assumption
              | omega
              | rfl
              | skip
            refine again (some (t, nx) : Option (Nat × R4)) [(501, 130040), (502, 130041), (503, 150016), (504, 150017)] ⟨hrn, by show t ≤ 255; omega, hgn⟩ (by simp only [ptMu]; omega) ?_
            simp only [ptI, hnx, stepR, hqx, envR, con0, conN0, conN1, conN2, natsOf_arr, rowOf_arr, natsOf_cells, rowOf_cells, toN, natL_st, natL_d, natL_enc, natL_up, gb2, rclampC, rofC, rsmallC, bothC, twiceC, rpowC, rmulC, rbytesC, conQ, bothF, twiceF, rofF, rsmallF, row2F, rpowF, rbytesF, retQx, go_sem]
            all_goals trivial
          | false =>
            rw [hkb] at hbit hnx
            simp only [hc, m2, hbit, hw, envR, con0, conN0, conN1, conN2, natsOf_arr, rowOf_arr, natsOf_cells, rowOf_cells, toN, natL_st, natL_d, natL_enc, natL_up, gb2, rclampC, rofC, rsmallC, bothC, twiceC, rpowC, rmulC, rbytesC, conQ, bothF, twiceF, rofF, rsmallF, row2F, rpowF, rbytesF, retQx, go_sem]
            repeat' apply And.intro
            all_goals first
              | with_reducible assumption
              | omega
              | rfl
              | skip
            refine again (some (t, nx) : Option (Nat × R4)) [(501, 170016), (502, 170017), (503, 130040), (504, 130041)] ⟨hrn, by show t ≤ 255; omega, hgn⟩ (by simp only [ptMu]; omega) ?_
            simp only [ptI, hnx, stepR, hqx, envR, con0, conN0, conN1, conN2, natsOf_arr, rowOf_arr, natsOf_cells, rowOf_cells, toN, natL_st, natL_d, natL_enc, natL_up, gb2, rclampC, rofC, rsmallC, bothC, twiceC, rpowC, rmulC, rbytesC, conQ, bothF, twiceF, rofF, rsmallF, row2F, rpowF, rbytesF, retQx, go_sem]
            all_goals trivial
    · obtain ⟨y1, y2, hgood⟩ := hy
      have hgood0 := hgood
      rcases c with _ | t
      · have y1 : s = ladR x (kbit k) 255 (startR x) := y1
        rw [← y1] at hpw
        obtain ⟨g1, g2, g3, g4⟩ := hgood
        have gpw := (pow_good g2).1
        rw [hpw] at hpg hres
        have gw := hpg.w
        simp only [ptI, bitN, hres, envR, con0, conN0, conN1, conN2, natsOf_arr, rowOf_arr, natsOf_cells, rowOf_cells, toN, natL_st, natL_d, natL_enc, natL_up, gb2, rclampC, rofC, rsmallC, bothC, twiceC, rpowC, rmulC, rbytesC, conQ, bothF, twiceF, rofF, rsmallF, row2F, rpowF, rbytesF, retQx, go_sem]
        repeat' apply And.intro
        all_goals first
          | with_reducible assumption
          | omega
          | rfl
          | skip
        refine endX [] ?_
        simp only [envR, con0, conN0, conN1, conN2, natsOf_arr, rowOf_arr, natsOf_cells, rowOf_cells, toN, natL_st, natL_d, natL_enc, natL_up, gb2, rclampC, rofC, rsmallC, bothC, twiceC, rpowC, rmulC, rbytesC, conQ, bothF, twiceF, rofF, rsmallF, row2F, rpowF, rbytesF, retQx, go_sem]
      · have hrun : ladR x (kbit k) t (stepR x (kbit k t) s) = ladR x (kbit k) 255 (startR x) := y1
        have y2' : t ≤ 254 := by have : t + 1 ≤ 255 := y2; omega
        have hd := tdiv8 t (by omega)
        have hm := tmod8 t
        have h0 : decide ((0 : Int) ≤ (t : Int)) = true := decide_eq_true (by omega)
        have hw := bitN_next (c := t) (by omega)
        have hbl := (k.getD (t / 8) 0).toNat_lt
        simp only [ptI, bitN_succ, h0, hd, hm, hk, envR, con0, conN0, conN1, conN2, natsOf_arr, rowOf_arr, natsOf_cells, rowOf_cells, toN, natL_st, natL_d, natL_enc, natL_up, gb2, rclampC, rofC, rsmallC, bothC, twiceC, rpowC, rmulC, rbytesC, conQ, bothF, twiceF, rofF, rsmallF, row2F, rpowF, rbytesF, retQx, go_sem]
        repeat' apply And.intro
        all_goals first
          | omega
          | rfl
          | skip
        refine loop_inv (envR_ok gb2_ok 74 []) (ptJs k x s t) (fun j => j ≤ t % 8) (fun j => t % 8 - j) 0 [] (Nat.zero_le _) ?_ ?_
        · have hz : (k.getD (t / 8) 0).toNat / 2 ^ 0 = (k.getD (t / 8) 0).toNat := by rw [Nat.pow_zero, Nat.div_one]
          simp only [ptJs, hz, envR, con0, conN0, conN1, conN2, natsOf_arr, rowOf_arr, natsOf_cells, rowOf_cells, toN, natL_st, natL_d, natL_enc, natL_up, gb2, rclampC, rofC, rsmallC, bothC, twiceC, rpowC, rmulC, rbytesC, conQ, bothF, twiceF, rofF, rsmallF, row2F, rpowF, rbytesF, retQx, go_sem]
        · intro j hj
          have w1 : IntKind.i64.wrap ((j : Int) + 1) = ((j + 1 : Nat) : Int) := by rw [IntKind.wrap_i64]; omega
          have hle : (k.getD (t / 8) 0).toNat / 2 ^ j ≤ (k.getD (t / 8) 0).toNat := Nat.div_le_self _ _
          have w2 : IntKind.i64.wrap ((((k.getD (t / 8) 0).toNat / 2 ^ j : Nat) : Int).tdiv 2) = (((k.getD (t / 8) 0).toNat / 2 ^ (j + 1) : Nat) : Int) := by
            have hq : (k.getD (t / 8) 0).toNat / 2 ^ (j + 1) ≤ 255 := Nat.le_trans (Nat.div_le_self _ _) (by omega)
            rw [show (2 : Int) = ((2 : Nat) : Int) from rfl, ← Int.ofNat_tdiv, Nat.div_div_eq_div_mul, show 2 ^ j * 2 = 2 ^ (j + 1) from rfl, IntKind.wrap_i64]
            generalize (k.getD (t / 8) 0).toNat / 2 ^ (j + 1) = q at hq ⊢
            omega
          simp only [ptJs, hm, envR, con0, conN0, conN1, conN2, natsOf_arr, rowOf_arr, natsOf_cells, rowOf_cells, toN, natL_st, natL_d, natL_enc, natL_up, gb2, rclampC, rofC, rsmallC, bothC, twiceC, rpowC, rmulC, rbytesC, conQ, bothF, twiceF, rofF, rsmallF, row2F, rpowF, rbytesF, retQx, go_sem]
          refine br (fun hc => ?_) fun hc => ?_
          · have hc' := of_decide_eq_true hc
            simp only [hc, w1, w2, envR, con0, conN0, conN1, conN2, natsOf_arr, rowOf_arr, natsOf_cells, rowOf_cells, toN, natL_st, natL_d, natL_enc, natL_up, gb2, rclampC, rofC, rsmallC, bothC, twiceC, rpowC, rmulC, rbytesC, conQ, bothF, twiceF, rofF, rsmallF, row2F, rpowF, rbytesF, retQx, go_sem]
            refine again (j + 1) [] (by omega) (by omega) ?_
            simp only [ptJs, envR, con0, conN0, conN1, conN2, natsOf_arr, rowOf_arr, natsOf_cells, rowOf_cells, toN, natL_st, natL_d, natL_enc, natL_up, gb2, rclampC, rofC, rsmallC, bothC, twiceC, rpowC, rmulC, rbytesC, conQ, bothF, twiceF, rofF, rsmallF, row2F, rpowF, rbytesF, retQx, go_sem]
          · obtain rfl : j = t % 8 := by have := of_decide_eq_false hc; omega
            have m2 : (((k.getD (t / 8) 0).toNat / 2 ^ (t % 8) : Nat) : Int).tmod 2 = (((k.getD (t / 8) 0).toNat / 2 ^ (t % 8) % 2 : Nat) : Int) := by rw [show (2 : Int) = ((2 : Nat) : Int) from rfl, ← Int.ofNat_tmod]
            have hbit := kbit_div k t
            obtain ⟨gp, gq, gr, gs⟩ := hgood
            obtain ⟨nx, hnx⟩ : ∃ nx, nx = stepR x (kbit k t) s := ⟨_, rfl⟩
            have hgn := good_step gx (kbit k t) s hgood0
            have hrn : ladR x (kbit k) t nx = ladR x (kbit k) 255 (startR x) := by rw [hnx]; exact hrun
            rw [← hnx] at hgn
            cases hkb : kbit k t with
            | true =>
              rw [hkb] at hbit hnx
              simp only [hc, m2, hbit, hw, envR, con0, conN0, conN1, conN2, natsOf_arr, rowOf_arr, natsOf_cells, rowOf_cells, toN, natL_st, natL_d, natL_enc, natL_up, gb2, rclampC, rofC, rsmallC, bothC, twiceC, rpowC, rmulC, rbytesC, conQ, bothF, twiceF, rofF, rsmallF, row2F, rpowF, rbytesF, retQx, go_sem]
              repeat' apply And.intro
              all_goals first
                | with_reducible assumption
                | omega
                | rfl
                | skip
              refine again (some (t, nx) : Option (Nat × R4)) [(501, 130040), (502, 130041), (503, 150016), (504, 150017)] ⟨hrn, by show t ≤ 255; omega, hgn⟩ (by simp only [ptMu]; omega) ?_
              simp only [ptI, hnx, stepR, envR, con0, conN0, conN1, conN2, natsOf_arr, rowOf_arr, natsOf_cells, rowOf_cells, toN, natL_st, natL_d, natL_enc, natL_up, gb2, rclampC, rofC, rsmallC, bothC, twiceC, rpowC, rmulC, rbytesC, conQ, bothF, twiceF, rofF, rsmallF, row2F, rpowF, rbytesF, retQx, go_sem]
              all_goals trivial
            | false =>
              rw [hkb] at hbit hnx
              simp only [hc, m2, hbit, hw, envR, con0, conN0, conN1, conN2, natsOf_arr, rowOf_arr, natsOf_cells, rowOf_cells, toN, natL_st, natL_d, natL_enc, natL_up, gb2, rclampC, rofC, rsmallC, bothC, twiceC, rpowC, rmulC, rbytesC, conQ, bothF, twiceF, rofF, rsmallF, row2F, rpowF, rbytesF, retQx, go_sem]
              repeat' apply And.intro
              all_goals first
                | with_reducible assumption
                | omega
                | rfl
                | skip
              refine again (some (t, nx) : Option (Nat × R4)) [(501, 170016), (502, 170017), (503, 130040), (504, 130041)] ⟨hrn, by show t ≤ 255; omega, hgn⟩ (by simp only [ptMu]; omega) ?_
              simp only [ptI, hnx, stepR, envR, con0, conN0, conN1, conN2, natsOf_arr, rowOf_arr, natsOf_cells, rowOf_cells, toN, natL_st, natL_d, natL_enc, natL_up, gb2, rclampC, rofC, rsmallC, bothC, twiceC, rpowC, rmulC, rbytesC, conQ, bothF, twiceF, rofF, rsmallF, row2F, rpowF, rbytesF, retQx, go_sem]
              all_goals trivial
def rpointC : Con := con0 fun args => match args with
  | [.one (.str s), .one (.str u)] => some (.c (.one (.str (pointR (clampK s) u))), [s.length = 32, u.length = 32])
  | _ => none
theorem rpointC_ok : ConOk Tryz.prog 34 rpointC := con0_ok Tryz.func34 rfl rfl fun args res ob h hob => by
  split at h
  · injection h with h; injection h with h1 h2; subst h1; subst h2; exact rpoint_tri _ _ hob.1 hob.2.1
  · cases h
end Go.Proofs.YtahiopdkekkibaaGreatDoor.FK

/-
  Digits, and rows of them handed over and handed back. It speaks of no program.
-/
namespace Go.Proofs.YtahiopdkekkibaaGreatDoor.FC
open Go Go.RowKit
set_option maxHeartbeats 4000000
set_option linter.unusedSimpArgs false
set_option linter.unusedVariables false
/-- Digits to a base, the lowest first. -/
def dv (B : Nat) : List Nat → Nat
  | [] => 0
  | x :: l => x + B * dv B l
def dlt (B : Nat) (l : List Nat) : Prop := ∀ i, l.getD i 0 < B
theorem dv_append (B : Nat) : ∀ (a b : List Nat), dv B (a ++ b) = dv B a + B ^ a.length * dv B b
  | [], b => by simp [dv]
  | x :: a, b => by
    rw [List.cons_append, dv, dv, dv_append B a b, List.length_cons, Nat.pow_succ]
    grind
theorem dv_take (B : Nat) : ∀ (l : List Nat) (i : Nat), dv B (l.take (i + 1)) = dv B (l.take i) + l.getD i 0 * B ^ i
  | [], i => by simp [dv]
  | x :: l, 0 => by simp [dv]
  | x :: l, i + 1 => by
    rw [List.take_succ_cons, List.take_succ_cons, dv, dv, dv_take B l i, List.getD_cons_succ, Nat.pow_succ]
    grind
theorem dv_all (B : Nat) (l : List Nat) (n : Nat) (h : l.length ≤ n) : dv B (l.take n) = dv B l := by rw [List.take_of_length_le h]
theorem dlt_cons {B x : Nat} {l : List Nat} (h : dlt B (x :: l)) : x < B ∧ dlt B l := ⟨h 0, fun i => h (i + 1)⟩
theorem dlt_nil {B : Nat} (hB : 0 < B) : dlt B [] := fun i => by simpa using hB
theorem dlt_mk {B x : Nat} {l : List Nat} (h : x < B) (hl : dlt B l) : dlt B (x :: l)
  | 0 => h
  | i + 1 => hl i
theorem dlt_append {B : Nat} : ∀ {a b : List Nat}, dlt B a → dlt B b → dlt B (a ++ b)
  | [], _, _, h => h
  | _ :: _, _, h, h' => dlt_mk (dlt_cons h).1 (dlt_append (dlt_cons h).2 h')
theorem dlt_set {B : Nat} {l : List Nat} (h : dlt B l) (i v : Nat) (hv : v < B) : dlt B (l.set i v) := fun j => by
  rw [List.getD_eq_getElem?_getD, List.getElem?_set]
  split
  · split
    · simpa using hv
    · simp; omega
  · rw [← List.getD_eq_getElem?_getD]; exact h j
theorem dv_lt {B : Nat} (hB : 0 < B) : ∀ {l : List Nat}, dlt B l → dv B l < B ^ l.length
  | [], _ => by simp [dv]
  | x :: l, h => by
    obtain ⟨h1, h2⟩ := dlt_cons h
    have ih := dv_lt hB h2
    rw [dv, List.length_cons, Nat.pow_succ]
    have : B * dv B l + B ≤ B * B ^ l.length := by rw [← Nat.mul_succ]; exact Nat.mul_le_mul_left B ih
    rw [Nat.mul_comm (B ^ l.length)]
    omega
theorem dv_inj {B : Nat} : ∀ {a b : List Nat}, dlt B a → dlt B b → a.length = b.length → dv B a = dv B b → a = b
  | [], [], _, _, _, _ => rfl
  | [], _ :: _, _, _, h, _ => by simp at h
  | _ :: _, [], _, _, h, _ => by simp at h
  | x :: a, y :: b, ha, hb, h, e => by
    obtain ⟨h1, h2⟩ := dlt_cons ha
    obtain ⟨h3, h4⟩ := dlt_cons hb
    simp only [dv] at e
    have e1 : x = y := by
      have := congrArg (· % B) e
      simp only [Nat.add_mul_mod_self_left, Nat.mod_eq_of_lt h1, Nat.mod_eq_of_lt h3] at this
      exact this
    subst e1
    have hB : 0 < B := by omega
    have e2 := Nat.eq_of_mul_eq_mul_left hB (Nat.add_left_cancel e)
    rw [dv_inj h2 h4 (by simpa using h) e2]
def digD (B : Nat) : Nat → Nat → List Nat
  | 0, _ => []
  | n + 1, v => v % B :: digD B n (v / B)
theorem digD_len (B : Nat) : ∀ n v, (digD B n v).length = n
  | 0, _ => rfl
  | n + 1, v => by rw [digD, List.length_cons, digD_len B n]
theorem digD_lt {B : Nat} (hB : 0 < B) : ∀ n v, dlt B (digD B n v)
  | 0, _ => dlt_nil hB
  | n + 1, v => dlt_mk (Nat.mod_lt _ hB) (digD_lt hB n _)
theorem digD_v (B : Nat) : ∀ n v, dv B (digD B n v) = v % B ^ n
  | 0, v => by simp [digD, dv, Nat.mod_one]
  | n + 1, v => by rw [digD, dv, digD_v B n, Nat.pow_succ, Nat.mul_comm (B ^ n), Nat.mod_mul]
theorem dig_eq {B : Nat} (hB : 0 < B) {l : List Nat} (h : dlt B l) : l = digD B l.length (dv B l) :=
  dv_inj h (digD_lt hB _ _) (digD_len B _ _).symm (by rw [digD_v, Nat.mod_eq_of_lt (dv_lt hB h)])
-- SUMS
def addG (B : Nat) (a b : List Nat) : Nat → List Nat × Nat
  | 0 => ([], 0)
  | i + 1 => ((addG B a b i).1 ++ [((addG B a b i).2 + a.getD i 0 + b.getD i 0) % B], ((addG B a b i).2 + a.getD i 0 + b.getD i 0) / B)
theorem addG_len (B : Nat) (a b : List Nat) : ∀ i, (addG B a b i).1.length = i
  | 0 => rfl
  | i + 1 => by rw [addG, List.length_append, addG_len B a b i]; rfl
theorem addG_car {B : Nat} (hB : 1 < B) {a b : List Nat} (ha : dlt B a) (hb : dlt B b) : ∀ i, (addG B a b i).2 ≤ 1
  | 0 => Nat.zero_le _
  | i + 1 => by
    have ih := addG_car hB ha hb i
    have h1 := ha i
    have h2 := hb i
    rw [addG]
    show _ / B ≤ 1
    rw [Nat.div_le_iff_le_mul (by omega)]
    omega
theorem addG_lt {B : Nat} (hB : 0 < B) (a b : List Nat) : ∀ i, dlt B (addG B a b i).1
  | 0 => dlt_nil hB
  | i + 1 => dlt_append (addG_lt hB a b i) (dlt_mk (Nat.mod_lt _ hB) (dlt_nil hB))
theorem addG_v (B : Nat) (a b : List Nat) : ∀ i, dv B (addG B a b i).1 + (addG B a b i).2 * B ^ i = dv B (a.take i) + dv B (b.take i)
  | 0 => by simp [addG, dv]
  | i + 1 => by
    have ih := addG_v B a b i
    have hm := Nat.mod_add_div ((addG B a b i).2 + a.getD i 0 + b.getD i 0) B
    rw [dv_take, dv_take, addG]
    simp only
    rw [dv_append, addG_len]
    simp only [dv, Nat.mul_zero, Nat.add_zero]
    rw [Nat.pow_succ]
    generalize B ^ i = Q at *
    generalize (addG B a b i).2 = c at *
    generalize dv B (addG B a b i).1 = L at *
    generalize a.getD i 0 = x at *
    generalize b.getD i 0 = y at *
    generalize dv B (a.take i) = V at *
    generalize dv B (b.take i) = W at *
    generalize (c + x + y) % B = m at *
    generalize (c + x + y) / B = d at *
    have e : Q * m + d * (Q * B) = Q * (c + x + y) := by rw [← hm]; grind
    rw [Nat.add_assoc, e]
    grind
def addLen (B : Nat) (a b : List Nat) : Nat := if (addG B a b (max a.length b.length)).2 = 0 then max a.length b.length else max a.length b.length + 1
def addL (B : Nat) (a b : List Nat) : List Nat := (addG B a b (addLen B a b)).1
theorem addL_len (B : Nat) (a b : List Nat) : (addL B a b).length = addLen B a b := addG_len _ _ _ _
theorem addLen_car {B : Nat} (hB : 1 < B) {a b : List Nat} (ha : dlt B a) (hb : dlt B b) : (addG B a b (addLen B a b)).2 = 0 := by
  unfold addLen
  split
  · assumption
  · have h1 := addG_car hB ha hb (max a.length b.length)
    rw [addG]
    simp only [List.getD_eq_getElem?_getD, List.getElem?_eq_none (Nat.le_max_left a.length b.length), List.getElem?_eq_none (Nat.le_max_right a.length b.length), Option.getD_none, Nat.add_zero]
    exact Nat.div_eq_of_lt (by omega)
theorem addL_v {B : Nat} (hB : 1 < B) {a b : List Nat} (ha : dlt B a) (hb : dlt B b) : dv B (addL B a b) = dv B a + dv B b := by
  have h := addG_v B a b (addLen B a b)
  rw [addLen_car hB ha hb, Nat.zero_mul, Nat.add_zero] at h
  have h1 : a.length ≤ addLen B a b ∧ b.length ≤ addLen B a b := by unfold addLen; split <;> omega
  rw [dv_all B a _ h1.1, dv_all B b _ h1.2] at h
  exact h
theorem addL_lt {B : Nat} (hB : 0 < B) (a b : List Nat) : dlt B (addL B a b) := addG_lt hB a b _
theorem addLen_bd (B : Nat) (a b : List Nat) : max a.length b.length ≤ addLen B a b ∧ addLen B a b ≤ max a.length b.length + 1 := by unfold addLen; split <;> omega
-- PRODUCTS
def mulIn (B : Nat) (l b : List Nat) (x i : Nat) : Nat → List Nat × Nat
  | 0 => (l, 0)
  | k + 1 => ((mulIn B l b x i k).1.set (i + k) (((mulIn B l b x i k).1.getD (i + k) 0 + x * b.getD k 0 + (mulIn B l b x i k).2) % B), ((mulIn B l b x i k).1.getD (i + k) 0 + x * b.getD k 0 + (mulIn B l b x i k).2) / B)
def mulOut (B : Nat) (a b : List Nat) : Nat → List Nat
  | 0 => List.replicate (a.length + b.length) 0
  | i + 1 => (mulIn B (mulOut B a b i) b (a.getD i 0) i b.length).1.set (i + b.length) ((mulIn B (mulOut B a b i) b (a.getD i 0) i b.length).1.getD (i + b.length) 0 + (mulIn B (mulOut B a b i) b (a.getD i 0) i b.length).2)
theorem mulIn_len (B : Nat) (l b : List Nat) (x i : Nat) : ∀ k, (mulIn B l b x i k).1.length = l.length
  | 0 => rfl
  | k + 1 => by rw [mulIn, List.length_set, mulIn_len B l b x i k]
theorem mulOut_len (B : Nat) (a b : List Nat) : ∀ i, (mulOut B a b i).length = a.length + b.length
  | 0 => by rw [mulOut, List.length_replicate]
  | i + 1 => by rw [mulOut, List.length_set, mulIn_len, mulOut_len B a b i]
theorem dv_set (B : Nat) : ∀ (l : List Nat) (i v : Nat), i < l.length → dv B (l.set i v) + l.getD i 0 * B ^ i = dv B l + v * B ^ i
  | [], i, v, h => by simp at h
  | x :: l, 0, v, h => by simp [dv]; omega
  | x :: l, i + 1, v, h => by
    have ih := dv_set B l i v (by simpa using h)
    rw [List.set_cons_succ, dv, dv, List.getD_cons_succ, Nat.pow_succ]
    have := congrArg (B * ·) ih
    simp only [Nat.mul_add] at this
    grind
theorem mulIn_v (B : Nat) (l b : List Nat) (x i : Nat) : ∀ k, i + k ≤ l.length → dv B (mulIn B l b x i k).1 + (mulIn B l b x i k).2 * B ^ (i + k) = dv B l + x * B ^ i * dv B (b.take k)
  | 0, _ => by simp [mulIn, dv]
  | k + 1, h => by
    have ih := mulIn_v B l b x i k (by omega)
    have hs := dv_set B (mulIn B l b x i k).1 (i + k) (((mulIn B l b x i k).1.getD (i + k) 0 + x * b.getD k 0 + (mulIn B l b x i k).2) % B) (by rw [mulIn_len]; omega)
    have hm := Nat.mod_add_div ((mulIn B l b x i k).1.getD (i + k) 0 + x * b.getD k 0 + (mulIn B l b x i k).2) B
    rw [dv_take, mulIn]
    simp only
    rw [show i + (k + 1) = i + k + 1 by omega, Nat.pow_succ]
    rw [Nat.pow_add] at *
    generalize B ^ i = Q at *
    generalize B ^ k = R at *
    generalize dv B (mulIn B l b x i k).1 = L at *
    generalize (mulIn B l b x i k).1.getD (i + k) 0 = y at *
    generalize (mulIn B l b x i k).2 = c at *
    generalize b.getD k 0 = z at *
    generalize dv B (b.take k) = V at *
    generalize (y + x * z + c) % B = m at *
    generalize (y + x * z + c) / B = d at *
    generalize dv B ((mulIn B l b x i k).1.set (i + k) m) = L' at *
    have e : m * (Q * R) + d * (Q * R * B) = (y + x * z + c) * (Q * R) := by rw [← hm]; grind
    have e2 : (y + x * z + c) * (Q * R) = y * (Q * R) + x * Q * (z * R) + c * (Q * R) := by grind
    have e3 : x * Q * (V + z * R) = x * Q * V + x * Q * (z * R) := by grind
    rw [e3]
    omega
theorem mulOut_v (B : Nat) (a b : List Nat) : ∀ i, i ≤ a.length → dv B (mulOut B a b i) = dv B (a.take i) * dv B b
  | 0, _ => by
    have : ∀ n, dv B (List.replicate n 0) = 0 := fun n => by
      induction n with
      | zero => rfl
      | succ n ih => rw [List.replicate_succ, dv, ih]; rfl
    simp [mulOut, this, dv]
  | i + 1, h => by
    have ih := mulOut_v B a b i (by omega)
    have h1 := mulIn_v B (mulOut B a b i) b (a.getD i 0) i b.length (by rw [mulOut_len]; omega)
    rw [dv_all B b _ (Nat.le_refl _), ih] at h1
    have hs := dv_set B (mulIn B (mulOut B a b i) b (a.getD i 0) i b.length).1 (i + b.length) ((mulIn B (mulOut B a b i) b (a.getD i 0) i b.length).1.getD (i + b.length) 0 + (mulIn B (mulOut B a b i) b (a.getD i 0) i b.length).2) (by rw [mulIn_len, mulOut_len]; omega)
    rw [dv_take, mulOut, Nat.add_mul]
    rw [Nat.add_mul] at hs
    have e : a.getD i 0 * B ^ i * dv B b = a.getD i 0 * B ^ i * dv B b := rfl
    omega
theorem mulIn_far (B : Nat) (l b : List Nat) (x i : Nat) : ∀ k j, i + k ≤ j → (mulIn B l b x i k).1.getD j 0 = l.getD j 0
  | 0, _, _ => rfl
  | k + 1, j, h => by
    rw [mulIn]
    simp only
    rw [List.getD_eq_getElem?_getD, List.getElem?_set_ne (by omega), ← List.getD_eq_getElem?_getD]
    exact mulIn_far B l b x i k j (by omega)
theorem mulIn_lt {B : Nat} (hB : 1 < B) {l b : List Nat} (hl : dlt B l) (hb : dlt B b) {x : Nat} (hx : x < B) (i : Nat) : ∀ k, dlt B (mulIn B l b x i k).1 ∧ (mulIn B l b x i k).2 < B
  | 0 => ⟨hl, by show 0 < B; omega⟩
  | k + 1 => by
    obtain ⟨h1, h2⟩ := mulIn_lt hB hl hb hx i k
    refine ⟨dlt_set h1 _ _ (Nat.mod_lt _ (by omega)), ?_⟩
    have h3 := h1 (i + k)
    have h4 := hb k
    have h5 : x * b.getD k 0 ≤ (B - 1) * (B - 1) := Nat.mul_le_mul (by omega) (by omega)
    rw [mulIn]
    show _ / B < B
    rw [Nat.div_lt_iff_lt_mul (by omega)]
    obtain ⟨c, rfl⟩ : ∃ c, B = c + 1 := ⟨B - 1, by omega⟩
    simp only [Nat.add_sub_cancel] at h5
    have : (c + 1) * (c + 1) = c * c + 2 * c + 1 := by grind
    omega
theorem mulOut_lt {B : Nat} (hB : 1 < B) {a b : List Nat} (ha : dlt B a) (hb : dlt B b) : ∀ i, i ≤ a.length → dlt B (mulOut B a b i) ∧ ∀ j, i + b.length ≤ j → (mulOut B a b i).getD j 0 = 0
  | 0, _ => by
    have : ∀ j, (List.replicate (a.length + b.length) 0).getD j 0 = 0 := fun j => by
      rw [List.getD_eq_getElem?_getD, List.getElem?_replicate]; split <;> rfl
    exact ⟨fun j => by rw [mulOut, this]; omega, fun j _ => by rw [mulOut, this]⟩
  | i + 1, h => by
    obtain ⟨h1, h2⟩ := mulOut_lt hB ha hb i (by omega)
    obtain ⟨h3, h4⟩ := mulIn_lt hB h1 hb (ha i) i b.length
    have hz := mulIn_far B (mulOut B a b i) b (a.getD i 0) i b.length (i + b.length) (Nat.le_refl _)
    rw [h2 _ (Nat.le_refl _)] at hz
    refine ⟨?_, fun j hj => ?_⟩
    · rw [mulOut, hz, Nat.zero_add]
      exact dlt_set h3 _ _ h4
    · rw [mulOut, List.getD_eq_getElem?_getD, List.getElem?_set_ne (by omega), ← List.getD_eq_getElem?_getD, mulIn_far _ _ _ _ _ _ _ (by omega)]
      exact h2 j (by omega)
def timesL (B : Nat) (a b : List Nat) : List Nat := mulOut B a b a.length
theorem timesL_len (B : Nat) (a b : List Nat) : (timesL B a b).length = a.length + b.length := mulOut_len _ _ _ _
theorem timesL_v (B : Nat) (a b : List Nat) : dv B (timesL B a b) = dv B a * dv B b := by
  rw [timesL, mulOut_v B a b _ (Nat.le_refl _), List.take_length]
theorem timesL_lt {B : Nat} (hB : 1 < B) {a b : List Nat} (ha : dlt B a) (hb : dlt B b) : dlt B (timesL B a b) := (mulOut_lt hB ha hb _ (Nat.le_refl _)).1
-- ROWS
def natL : Lay Nat where
  st := 1
  enc x := [.num (x : Int)]
  d := 0
  up x j ys := match ys with
    | [.num y] => if j = 0 then (if 0 ≤ y then some y.toNat else none) else none
    | _ => none
  toB := none
  ofB := none
  len _ := rfl
  put x j ys y h := by
    split at h
    · split at h
      · rename_i h0
        split at h
        · rename_i h1; injection h with h; subst h; subst h0; simp [Int.toNat_of_nonneg h1]
        · cases h
      · cases h
    · cases h
  plain x v h := by simp at h; subst h; trivial
  bare x v h := by simp at h; subst h; trivial
  toB_ok f h x := by cases h
  ofB_ok f h x := by cases h
theorem natL_st : natL.st = 1 := rfl
theorem natL_d : natL.d = 0 := rfl
theorem natL_enc (x : Nat) : natL.enc x = [.num (x : Int)] := rfl
theorem natL_up (x y : Nat) : natL.up x 0 [.num (y : Int)] = some y := by simp [natL]
theorem nat_flat (l : List Nat) : l.flatMap natL.enc = l.map fun n => .num (n : Int) := by
  show l.flatMap (fun x : Nat => [AV.num (x : Int)]) = _
  induction l with
  | nil => rfl
  | cons x l ih => rw [List.flatMap_cons, ih]; rfl
def toN : AV → Nat
  | .num x => x.toNat
  | _ => 0
def natsOf (o : SObj) : List Nat := o.flat.map toN
def rowOf (o : SObj) : Prop := o.live = true ∧ o.stride = 1 ∧ o.flat = (natsOf o).map fun n => .num (n : Int)
theorem natsOf_arr (l : List Nat) : natsOf (.arr Nat natL l) = l := by
  unfold natsOf
  show (l.flatMap natL.enc).map toN = l
  rw [nat_flat, List.map_map]
  conv => rhs; rw [← List.map_id l]
  exact List.map_congr_left fun x _ => by simp [toN]
theorem natsOf_cells (s : Nat) (xs : List AV) : natsOf (.cells s xs) = xs.map toN := rfl
theorem rowOf_arr (l : List Nat) : rowOf (.arr Nat natL l) = True := by
  refine propext ⟨fun _ => trivial, fun _ => ⟨rfl, rfl, ?_⟩⟩
  rw [natsOf_arr]
  exact nat_flat l
theorem rowOf_cells (xs : List AV) : rowOf (.cells 1 xs) = (xs = (xs.map toN).map fun n => .num (n : Int)) :=
  propext ⟨fun h => h.2.2, fun h => ⟨rfl, rfl, h⟩⟩
theorem simE_row {o : SObj} (h : rowOf o) (w : Bool) : SimE ⟨.arr Nat natL (natsOf o), w⟩ ⟨o, w⟩ := ⟨h.1.symm, h.2.1.symm, (nat_flat _).trans h.2.2.symm, rfl⟩
noncomputable def envR (ga : Nat → Option Con) (nt : Nat) (keys : List Nat) : Env := ⟨ty, ga, [], nt, keys, []⟩
theorem envR_ok {ga : Nat → Option Con} (h : GaOk Tryz.prog ga) (nt : Nat) (keys : List Nat) : EnvOk Tryz.prog (envR ga nt keys) := ⟨ty_ok, h, by first | rfl | decide⟩
/-- Contracts that read rows of digits and hand a new one back. -/
def conN0 (F : List CV → Option (SV × List Nat × List Prop)) : Con := ⟨false, fun args os => match os with
  | [] => match F args with
    | some (v, r, ob) => some (v, [], [.arr Nat natL r], ob)
    | none => none
  | _ => none⟩
def conN1 (F : List CV → List Nat → Option (SV × List Nat × List Prop)) : Con := ⟨false, fun args os => match os with
  | [oa] => match F args (natsOf oa) with
    | some (v, r, ob) => some (v, [], [.arr Nat natL r], rowOf oa :: ob)
    | none => none
  | _ => none⟩
def conN2 (F : List CV → List Nat → List Nat → Option (SV × List Nat × List Prop)) : Con := ⟨false, fun args os => match os with
  | [oa, ob] => match F args (natsOf oa) (natsOf ob) with
    | some (v, r, obl) => some (v, [], [.arr Nat natL r], rowOf oa :: rowOf ob :: obl)
    | none => none
  | _ => none⟩
section
variable {P : Program} {f : FuncId} {fn : Func}
theorem conN0_ok (hf : P.funcs[f]? = some fn) (hb : fn.body.isSome = true) (hn : (fn.name == "runtime.NumGoroutine") = false) {F : List CV → Option (SV × List Nat × List Prop)}
    (h : ∀ args v r ob, F args = some (v, r, ob) → AllT ob → Tri P f args [] v [(0, ⟨.arr Nat natL r, true⟩)]) : ConOk P f (conN0 F) := by
  refine .inl ⟨⟨fn, hf, hb, hn⟩, fun args es res upd news ob hr hob _ => ?_⟩
  unfold conN0 at hr
  simp only at hr
  split at hr
  · rename_i hes
    obtain rfl : es = [] := List.map_eq_nil_iff.1 hes
    cases hF : F args with
    | none => rw [hF] at hr; cases hr
    | some q =>
      obtain ⟨v, r, ob'⟩ := q
      simp only [hF, Option.some.injEq, Prod.mk.injEq] at hr
      obtain ⟨rfl, rfl, rfl, rfl⟩ := hr
      exact h args v r ob' hF hob
  · cases hr
theorem conN1_ok (hf : P.funcs[f]? = some fn) (hb : fn.body.isSome = true) (hn : (fn.name == "runtime.NumGoroutine") = false) {F : List CV → List Nat → Option (SV × List Nat × List Prop)}
    (h : ∀ args a v r ob, F args a = some (v, r, ob) → AllT ob → ∀ wa, Tri P f args [(0, ⟨.arr Nat natL a, wa⟩)] v [(0, ⟨.arr Nat natL a, wa⟩), (1, ⟨.arr Nat natL r, true⟩)]) : ConOk P f (conN1 F) := by
  refine .inl ⟨⟨fn, hf, hb, hn⟩, fun args es res upd news ob hr hob _ => ?_⟩
  unfold conN1 at hr
  simp only at hr
  split at hr
  · rename_i oa hes
    obtain ⟨e, rfl⟩ : ∃ e, es = [e] := by
      match es, hes with
      | [e], _ => exact ⟨e, rfl⟩
    simp only [List.map_cons, List.map_nil, List.cons.injEq, and_true] at hes
    subst hes
    cases hF : F args (natsOf e.o) with
    | none => rw [hF] at hr; cases hr
    | some q =>
      obtain ⟨v, r, ob'⟩ := q
      simp only [hF, Option.some.injEq, Prod.mk.injEq] at hr
      obtain ⟨rfl, rfl, rfl, rfl⟩ := hr
      have s1 := simE_row hob.1 e.wr
      exact (h args _ v r ob' hF hob.2 e.wr).sim (.cons s1 .nil) (.cons s1 (.cons (.refl _) .nil))
  · cases hr
theorem conN2_ok (hf : P.funcs[f]? = some fn) (hb : fn.body.isSome = true) (hn : (fn.name == "runtime.NumGoroutine") = false) {F : List CV → List Nat → List Nat → Option (SV × List Nat × List Prop)}
    (h : ∀ args a b v r ob, F args a b = some (v, r, ob) → AllT ob → ∀ wa wb, Tri P f args [(0, ⟨.arr Nat natL a, wa⟩), (1, ⟨.arr Nat natL b, wb⟩)] v [(0, ⟨.arr Nat natL a, wa⟩), (1, ⟨.arr Nat natL b, wb⟩), (2, ⟨.arr Nat natL r, true⟩)]) : ConOk P f (conN2 F) := by
  refine .inl ⟨⟨fn, hf, hb, hn⟩, fun args es res upd news ob hr hob _ => ?_⟩
  unfold conN2 at hr
  simp only at hr
  split at hr
  · rename_i oa ob' hes
    obtain ⟨e, e', rfl⟩ : ∃ e e', es = [e, e'] := by
      match es, hes with
      | [e, e'], _ => exact ⟨e, e', rfl⟩
    simp only [List.map_cons, List.map_nil, List.cons.injEq, and_true] at hes
    obtain ⟨rfl, rfl⟩ := hes
    cases hF : F args (natsOf e.o) (natsOf e'.o) with
    | none => rw [hF] at hr; cases hr
    | some q =>
      obtain ⟨v, r, ob'⟩ := q
      simp only [hF, Option.some.injEq, Prod.mk.injEq] at hr
      obtain ⟨rfl, rfl, rfl, rfl⟩ := hr
      have s1 := simE_row hob.1 e.wr
      have s2 := simE_row hob.2.1 e'.wr
      exact (h args _ _ v r ob' hF hob.2.2 e.wr e'.wr).sim (.cons s1 (.cons s2 .nil)) (.cons s1 (.cons s2 (.cons (.refl _) .nil)))
  · cases hr
end
end Go.Proofs.YtahiopdkekkibaaGreatDoor.FC

/-
  Layer 6: the values of numbers of five parts. It speaks of no program.
-/
namespace Go.Proofs.YtahiopdkekkibaaGreatDoor.FC
open Go Go.RowKit
set_option maxHeartbeats 4000000
set_option linter.unusedSimpArgs false
set_option linter.unusedVariables false
def N5.v (x : N5) : Nat := x.a.toNat + x.b.toNat * 67108864 + x.c.toNat * 4503599627370496 + x.d.toNat * 302231454903657293676544 + x.e.toNat * 20282409603651670423947251286016
def N5.lt (x : N5) (n : Nat) : Prop := x.a.toNat < n ∧ x.b.toNat < n ∧ x.c.toNat < n ∧ x.d.toNat < n ∧ x.e.toNat < n
def p1305 : Nat := 1361129467683753853853498429727072845819
theorem shr26 (x : UInt64) : (shr64 x 26).toNat = x.toNat / 67108864 := by
  unfold shr64
  rw [if_pos (by decide), UInt64.toNat_shiftRight]
  show x.toNat >>> 26 = _
  rw [Nat.shiftRight_eq_div_pow]
theorem and26 (x : UInt64) : (x &&& 67108863).toNat = x.toNat % 67108864 := by
  rw [UInt64.toNat_and]
  show x.toNat &&& (2 ^ 26 - 1) = _
  rw [Nat.and_two_pow_sub_one_eq_mod]
theorem add64n {x y : UInt64} (h : x.toNat + y.toNat < 18446744073709551616) : (x + y).toNat = x.toNat + y.toNat := by
  rw [UInt64.toNat_add]; exact Nat.mod_eq_of_lt h
theorem mul64n {x y : UInt64} {A B : Nat} (hx : x.toNat < A) (hy : y.toNat < B) (h : A * B ≤ 18446744073709551616) : (x * y).toNat = x.toNat * y.toNat ∧ x.toNat * y.toNat < A * B := by
  have h1 : x.toNat * y.toNat < A * B := Nat.mul_lt_mul'' hx hy
  exact ⟨by rw [UInt64.toNat_mul]; exact Nat.mod_eq_of_lt (by omega), h1⟩
/-- One carry: how much is taken off, and how small the parts are. -/
theorem pcarry_spec (x : N5) (M : Nat) (hM : M ≤ 4611686018427387904) (h : x.lt M) : ∃ q, (pcarry x).v + p1305 * q = x.v ∧ 67108864 * q ≤ x.e.toNat + M / 67108864 + 2048 ∧ (pcarry x).a.toNat < 67108864 + 5 * q ∧ (pcarry x).b.toNat < 67108864 ∧ (pcarry x).c.toNat < 67108864 ∧ (pcarry x).d.toNat < 67108864 ∧ (pcarry x).e.toNat < 67108864 ∧ 5 * q ≤ (pcarry x).a.toNat := by
  obtain ⟨ha, hb, hc, hd, he⟩ := h
  have e1 : (x.b + shr64 x.a 26).toNat = x.b.toNat + x.a.toNat / 67108864 := by rw [add64n, shr26]; rw [shr26]; omega
  have e2 : (x.c + shr64 (x.b + shr64 x.a 26) 26).toNat = x.c.toNat + (x.b.toNat + x.a.toNat / 67108864) / 67108864 := by rw [add64n, shr26, e1]; rw [shr26, e1]; omega
  have e3 : (x.d + shr64 (x.c + shr64 (x.b + shr64 x.a 26) 26) 26).toNat = x.d.toNat + (x.c.toNat + (x.b.toNat + x.a.toNat / 67108864) / 67108864) / 67108864 := by rw [add64n, shr26, e2]; rw [shr26, e2]; omega
  have e4 : (x.e + shr64 (x.d + shr64 (x.c + shr64 (x.b + shr64 x.a 26) 26) 26) 26).toNat = x.e.toNat + (x.d.toNat + (x.c.toNat + (x.b.toNat + x.a.toNat / 67108864) / 67108864) / 67108864) / 67108864 := by rw [add64n, shr26, e3]; rw [shr26, e3]; omega
  have e5 : (5 * shr64 (x.e + shr64 (x.d + shr64 (x.c + shr64 (x.b + shr64 x.a 26) 26) 26) 26) 26).toNat = 5 * ((x.e.toNat + (x.d.toNat + (x.c.toNat + (x.b.toNat + x.a.toNat / 67108864) / 67108864) / 67108864) / 67108864) / 67108864) := by
    rw [UInt64.toNat_mul, shr26, e4]
    show 5 * _ % _ = _
    omega
  have e6 : (x.a &&& 67108863).toNat = x.a.toNat % 67108864 := and26 _
  refine ⟨(x.e.toNat + (x.d.toNat + (x.c.toNat + (x.b.toNat + x.a.toNat / 67108864) / 67108864) / 67108864) / 67108864) / 67108864, ?_⟩
  have f0 : (pcarry x).a.toNat = x.a.toNat % 67108864 + 5 * ((x.e.toNat + (x.d.toNat + (x.c.toNat + (x.b.toNat + x.a.toNat / 67108864) / 67108864) / 67108864) / 67108864) / 67108864) := by
    show ((x.a &&& 67108863) + 5 * shr64 (x.e + shr64 (x.d + shr64 (x.c + shr64 (x.b + shr64 x.a 26) 26) 26) 26) 26).toNat = _
    rw [add64n (by rw [e5, e6]; omega), e5, e6]
  have f1 : (pcarry x).b.toNat = (x.b.toNat + x.a.toNat / 67108864) % 67108864 := by
    show ((x.b + shr64 x.a 26) &&& 67108863).toNat = _; rw [and26, e1]
  have f2 : (pcarry x).c.toNat = (x.c.toNat + (x.b.toNat + x.a.toNat / 67108864) / 67108864) % 67108864 := by
    show ((x.c + shr64 (x.b + shr64 x.a 26) 26) &&& 67108863).toNat = _; rw [and26, e2]
  have f3 : (pcarry x).d.toNat = (x.d.toNat + (x.c.toNat + (x.b.toNat + x.a.toNat / 67108864) / 67108864) / 67108864) % 67108864 := by
    show ((x.d + shr64 (x.c + shr64 (x.b + shr64 x.a 26) 26) 26) &&& 67108863).toNat = _; rw [and26, e3]
  have f4 : (pcarry x).e.toNat = (x.e.toNat + (x.d.toNat + (x.c.toNat + (x.b.toNat + x.a.toNat / 67108864) / 67108864) / 67108864) / 67108864) % 67108864 := by
    show ((x.e + shr64 (x.d + shr64 (x.c + shr64 (x.b + shr64 x.a 26) 26) 26) 26) &&& 67108863).toNat = _; rw [and26, e4]
  simp only [N5.v, f0, f1, f2, f3, f4, p1305]
  generalize x.a.toNat = a at *
  generalize x.b.toNat = b at *
  generalize x.c.toNat = c at *
  generalize x.d.toNat = d at *
  generalize x.e.toNat = e at *
  generalize hA : a / 67108864 = A at *
  generalize hB : (b + A) / 67108864 = B at *
  generalize hC : (c + B) / 67108864 = C at *
  generalize hD : (d + C) / 67108864 = D at *
  generalize hE : (e + D) / 67108864 = E at *
  clear e1 e2 e3 e4 e5 e6 f0 f1 f2 f3 f4
  refine ⟨?_, ?_, ?_, ?_, ?_, ?_, ?_, ?_⟩ <;> omega

theorem mul5 {x y : UInt64} (hx : x.toNat < 134217728) (hy : y.toNat < 134217728) : (x * y).toNat = x.toNat * y.toNat ∧ (x * y * 5).toNat = x.toNat * y.toNat * 5 ∧ x.toNat * y.toNat < 18014398509481984 := by
  obtain ⟨h1, h2⟩ := mul64n hx hy (by decide)
  refine ⟨h1, ?_, h2⟩
  rw [UInt64.toNat_mul, h1]
  show _ * 5 % _ = _
  omega
theorem sum5 {p q r s t : UInt64} (h : p.toNat + q.toNat + r.toNat + s.toNat + t.toNat < 18446744073709551616) : (0 + p + q + r + s + t).toNat = p.toNat + q.toNat + r.toNat + s.toNat + t.toNat := by
  simp only [UInt64.toNat_add, UInt64.toNat_ofNat]
  omega
theorem praw_spec (x y : N5) (hx : x.lt 134217728) (hy : y.lt 134217728) : (praw x y).v % p1305 = (x.v * y.v) % p1305 ∧ (praw x y).lt 4611686018427387904 := by
  obtain ⟨xa, xb, xc, xd, xe⟩ := hx
  obtain ⟨ya, yb, yc, yd, ye⟩ := hy
  have s0 : (praw x y).a.toNat = x.a.toNat * y.a.toNat + x.b.toNat * y.e.toNat * 5 + x.c.toNat * y.d.toNat * 5 + x.d.toNat * y.c.toNat * 5 + x.e.toNat * y.b.toNat * 5 := by
    have h1 := mul5 xa ya; have h2 := mul5 xb ye; have h3 := mul5 xc yd; have h4 := mul5 xd yc; have h5 := mul5 xe yb
    show (0 + x.a * y.a + x.b * y.e * 5 + x.c * y.d * 5 + x.d * y.c * 5 + x.e * y.b * 5).toNat = _
    rw [sum5, h1.1, h2.2.1, h3.2.1, h4.2.1, h5.2.1]
    rw [h1.1, h2.2.1, h3.2.1, h4.2.1, h5.2.1]; omega
  have s1 : (praw x y).b.toNat = x.a.toNat * y.b.toNat + x.b.toNat * y.a.toNat + x.c.toNat * y.e.toNat * 5 + x.d.toNat * y.d.toNat * 5 + x.e.toNat * y.c.toNat * 5 := by
    have h1 := mul5 xa yb; have h2 := mul5 xb ya; have h3 := mul5 xc ye; have h4 := mul5 xd yd; have h5 := mul5 xe yc
    show (0 + x.a * y.b + x.b * y.a + x.c * y.e * 5 + x.d * y.d * 5 + x.e * y.c * 5).toNat = _
    rw [sum5, h1.1, h2.1, h3.2.1, h4.2.1, h5.2.1]
    rw [h1.1, h2.1, h3.2.1, h4.2.1, h5.2.1]; omega
  have s2 : (praw x y).c.toNat = x.a.toNat * y.c.toNat + x.b.toNat * y.b.toNat + x.c.toNat * y.a.toNat + x.d.toNat * y.e.toNat * 5 + x.e.toNat * y.d.toNat * 5 := by
    have h1 := mul5 xa yc; have h2 := mul5 xb yb; have h3 := mul5 xc ya; have h4 := mul5 xd ye; have h5 := mul5 xe yd
    show (0 + x.a * y.c + x.b * y.b + x.c * y.a + x.d * y.e * 5 + x.e * y.d * 5).toNat = _
    rw [sum5, h1.1, h2.1, h3.1, h4.2.1, h5.2.1]
    rw [h1.1, h2.1, h3.1, h4.2.1, h5.2.1]; omega
  have s3 : (praw x y).d.toNat = x.a.toNat * y.d.toNat + x.b.toNat * y.c.toNat + x.c.toNat * y.b.toNat + x.d.toNat * y.a.toNat + x.e.toNat * y.e.toNat * 5 := by
    have h1 := mul5 xa yd; have h2 := mul5 xb yc; have h3 := mul5 xc yb; have h4 := mul5 xd ya; have h5 := mul5 xe ye
    show (0 + x.a * y.d + x.b * y.c + x.c * y.b + x.d * y.a + x.e * y.e * 5).toNat = _
    rw [sum5, h1.1, h2.1, h3.1, h4.1, h5.2.1]
    rw [h1.1, h2.1, h3.1, h4.1, h5.2.1]; omega
  have s4 : (praw x y).e.toNat = x.a.toNat * y.e.toNat + x.b.toNat * y.d.toNat + x.c.toNat * y.c.toNat + x.d.toNat * y.b.toNat + x.e.toNat * y.a.toNat := by
    have h1 := mul5 xa ye; have h2 := mul5 xb yd; have h3 := mul5 xc yc; have h4 := mul5 xd yb; have h5 := mul5 xe ya
    show (0 + x.a * y.e + x.b * y.d + x.c * y.c + x.d * y.b + x.e * y.a).toNat = _
    rw [sum5, h1.1, h2.1, h3.1, h4.1, h5.1]
    rw [h1.1, h2.1, h3.1, h4.1, h5.1]; omega
  constructor
  · have key : x.v * y.v = (praw x y).v + p1305 * ((x.b.toNat * y.e.toNat + x.c.toNat * y.d.toNat + x.d.toNat * y.c.toNat + x.e.toNat * y.b.toNat) + (x.c.toNat * y.e.toNat + x.d.toNat * y.d.toNat + x.e.toNat * y.c.toNat) * 67108864 + (x.d.toNat * y.e.toNat + x.e.toNat * y.d.toNat) * 4503599627370496 + x.e.toNat * y.e.toNat * 302231454903657293676544) := by
      simp only [N5.v, s0, s1, s2, s3, s4, p1305]
      generalize x.a.toNat = a0
      generalize x.b.toNat = a1
      generalize x.c.toNat = a2
      generalize x.d.toNat = a3
      generalize x.e.toNat = a4
      generalize y.a.toNat = b0
      generalize y.b.toNat = b1
      generalize y.c.toNat = b2
      generalize y.d.toNat = b3
      generalize y.e.toNat = b4
      grind
    rw [key, Nat.add_mul_mod_self_left]
  · have := (mul5 xa ya).2.2; have := (mul5 xb ye).2.2; have := (mul5 xc yd).2.2; have := (mul5 xd yc).2.2; have := (mul5 xe yb).2.2
    have := (mul5 xa yb).2.2; have := (mul5 xb ya).2.2; have := (mul5 xc ye).2.2; have := (mul5 xd yd).2.2; have := (mul5 xe yc).2.2
    have := (mul5 xa yc).2.2; have := (mul5 xb yb).2.2; have := (mul5 xc ya).2.2; have := (mul5 xd ye).2.2; have := (mul5 xe yd).2.2
    have := (mul5 xa yd).2.2; have := (mul5 xb yc).2.2; have := (mul5 xc yb).2.2; have := (mul5 xd ya).2.2; have := (mul5 xe ye).2.2
    have := (mul5 xa ye).2.2; have := (mul5 xb yd).2.2; have := (mul5 xc yc).2.2; have := (mul5 xd yb).2.2; have := (mul5 xe ya).2.2
    refine ⟨?_, ?_, ?_, ?_, ?_⟩
    · rw [s0]; omega
    · rw [s1]; omega
    · rw [s2]; omega
    · rw [s3]; omega
    · rw [s4]; omega
theorem ptimes_spec (x y : N5) (hx : x.lt 134217728) (hy : y.lt 134217728) : (ptimes x y).v % p1305 = (x.v * y.v) % p1305 ∧ (ptimes x y).lt 134217728 := by
  obtain ⟨h1, h2⟩ := praw_spec x y hx hy
  obtain ⟨q, a1, a2, a3, a4, a5, a6, a7, a8⟩ := pcarry_spec (praw x y) _ (Nat.le_refl _) h2
  have h3 := h2.2.2.2.2
  have hq : (pcarry (praw x y)).lt 412316860416 := ⟨by omega, by omega, by omega, by omega, by omega⟩
  obtain ⟨q', b1, b2, b3, b4, b5, b6, b7, b8⟩ := pcarry_spec (pcarry (praw x y)) _ (by decide) hq
  refine ⟨?_, by show (pcarry (pcarry (praw x y))).a.toNat < _; omega, by show (pcarry (pcarry (praw x y))).b.toNat < _; omega, by show (pcarry (pcarry (praw x y))).c.toNat < _; omega, by show (pcarry (pcarry (praw x y))).d.toNat < _; omega, by show (pcarry (pcarry (praw x y))).e.toNat < _; omega⟩
  rw [← h1, ← a1, ← b1, Nat.add_mul_mod_self_left, Nat.add_mul_mod_self_left]; rfl
theorem pplus_spec (x y : N5) (hx : x.lt 134217728) (hy : y.lt 134217728) : (pplus x y).v % p1305 = (x.v + y.v) % p1305 ∧ (pplus x y).lt 134217728 := by
  obtain ⟨xa, xb, xc, xd, xe⟩ := hx
  obtain ⟨ya, yb, yc, yd, ye⟩ := hy
  have ea : (x.a + y.a).toNat = x.a.toNat + y.a.toNat := add64n (by omega)
  have eb : (x.b + y.b).toNat = x.b.toNat + y.b.toNat := add64n (by omega)
  have ec : (x.c + y.c).toNat = x.c.toNat + y.c.toNat := add64n (by omega)
  have ed : (x.d + y.d).toNat = x.d.toNat + y.d.toNat := add64n (by omega)
  have ee : (x.e + y.e).toNat = x.e.toNat + y.e.toNat := add64n (by omega)
  obtain ⟨q, a1, a2, a3, a4, a5, a6, a7, a8⟩ := pcarry_spec ⟨x.a + y.a, x.b + y.b, x.c + y.c, x.d + y.d, x.e + y.e⟩ 268435456 (by decide) ⟨by show (x.a + y.a).toNat < _; omega, by show (x.b + y.b).toNat < _; omega, by show (x.c + y.c).toNat < _; omega, by show (x.d + y.d).toNat < _; omega, by show (x.e + y.e).toNat < _; omega⟩
  have hv : (N5.mk (x.a + y.a) (x.b + y.b) (x.c + y.c) (x.d + y.d) (x.e + y.e)).v = x.v + y.v := by
    simp only [N5.v, ea, eb, ec, ed, ee]; omega
  rw [hv] at a1
  have a2' : 67108864 * q ≤ (x.e + y.e).toNat + 268435456 / 67108864 + 2048 := a2
  refine ⟨?_, by show (pcarry _).a.toNat < _; omega, by show (pcarry _).b.toNat < _; omega, by show (pcarry _).c.toNat < _; omega, by show (pcarry _).d.toNat < _; omega, by show (pcarry _).e.toNat < _; omega⟩
  rw [← a1, Nat.add_mul_mod_self_left]; rfl
/-- The least number, in parts. -/
theorem psmall_spec (x : N5) (hx : x.lt 134217728) : (psmall x).v = x.v % p1305 ∧ (psmall x).lt 67108864 := by
  obtain ⟨q, a1, a2, a3, a4, a5, a6, a7, a8⟩ := pcarry_spec x _ (by decide) hx
  have he := hx.2.2.2.2
  have hq : (pcarry x).lt 67109888 := ⟨by omega, by omega, by omega, by omega, by omega⟩
  obtain ⟨q', b1, b2, b3, b4, b5, b6, b7, b8⟩ := pcarry_spec (pcarry x) _ (by decide) hq
  generalize hy : pcarry (pcarry x) = y at *
  have hv : y.v % p1305 = x.v % p1305 := by rw [← a1, ← b1, Nat.add_mul_mod_self_left, Nat.add_mul_mod_self_left]
  have hya : y.lt 67108864 ∧ y.v < p1305 + 5 := by
    unfold N5.lt
    simp only [N5.v, p1305] at *
    generalize y.a.toNat = A at *
    generalize y.b.toNat = B at *
    generalize y.c.toNat = C at *
    generalize y.d.toNat = D at *
    generalize y.e.toNat = E at *
    generalize (pcarry x).a.toNat = A' at *
    generalize (pcarry x).b.toNat = B' at *
    generalize (pcarry x).c.toNat = C' at *
    generalize (pcarry x).d.toNat = D' at *
    generalize (pcarry x).e.toNat = E' at *
    clear hv a1 hy
    refine ⟨⟨?_, ?_, ?_, ?_, ?_⟩, ?_⟩ <;> omega
  obtain ⟨hl, hlt⟩ := hya
  have hl' := hl
  obtain ⟨la, lb, lc, ld, le⟩ := hl'
  have e0 : (y.a + 5).toNat = y.a.toNat + 5 := add64n (by show _ + 5 < _; omega)
  have e1 : (y.b + shr64 (y.a + 5) 26).toNat = y.b.toNat + (y.a.toNat + 5) / 67108864 := by rw [add64n, shr26, e0]; rw [shr26, e0]; omega
  have e2 : (y.c + shr64 (y.b + shr64 (y.a + 5) 26) 26).toNat = y.c.toNat + (y.b.toNat + (y.a.toNat + 5) / 67108864) / 67108864 := by rw [add64n, shr26, e1]; rw [shr26, e1]; omega
  have e3 : (y.d + shr64 (y.c + shr64 (y.b + shr64 (y.a + 5) 26) 26) 26).toNat = y.d.toNat + (y.c.toNat + (y.b.toNat + (y.a.toNat + 5) / 67108864) / 67108864) / 67108864 := by rw [add64n, shr26, e2]; rw [shr26, e2]; omega
  have f4 : (pless y).e.toNat = y.e.toNat + (y.d.toNat + (y.c.toNat + (y.b.toNat + (y.a.toNat + 5) / 67108864) / 67108864) / 67108864) / 67108864 := by
    show (y.e + shr64 (y.d + shr64 (y.c + shr64 (y.b + shr64 (y.a + 5) 26) 26) 26) 26).toNat = _
    rw [add64n, shr26, e3]; rw [shr26, e3]; omega
  have f0 : (pless y).a.toNat = (y.a.toNat + 5) % 67108864 := by show ((y.a + 5) &&& 67108863).toNat = _; rw [and26, e0]
  have f1 : (pless y).b.toNat = (y.b.toNat + (y.a.toNat + 5) / 67108864) % 67108864 := by show ((y.b + shr64 (y.a + 5) 26) &&& 67108863).toNat = _; rw [and26, e1]
  have f2 : (pless y).c.toNat = (y.c.toNat + (y.b.toNat + (y.a.toNat + 5) / 67108864) / 67108864) % 67108864 := by show ((y.c + shr64 (y.b + shr64 (y.a + 5) 26) 26) &&& 67108863).toNat = _; rw [and26, e2]
  have f3 : (pless y).d.toNat = (y.d.toNat + (y.c.toNat + (y.b.toNat + (y.a.toNat + 5) / 67108864) / 67108864) / 67108864) % 67108864 := by show ((y.d + shr64 (y.c + shr64 (y.b + shr64 (y.a + 5) 26) 26) 26) &&& 67108863).toNat = _; rw [and26, e3]
  have hs : (shr64 (pless y).e 26 == 0) = decide ((pless y).e.toNat / 67108864 = 0) := by
    rw [Bool.eq_iff_iff]
    simp only [beq_iff_eq, decide_eq_true_eq, ← UInt64.toNat_inj, shr26]
    rfl
  unfold psmall
  simp only [hy, hs, decide_eq_true_eq]
  by_cases h : (pless y).e.toNat / 67108864 = 0
  · rw [if_pos h]
    refine ⟨?_, hl⟩
    rw [← hv]
    refine (Nat.mod_eq_of_lt ?_).symm
    rw [f4] at h
    simp only [N5.v, p1305] at *
    generalize y.a.toNat = A at *
    generalize y.b.toNat = B at *
    generalize y.c.toNat = C at *
    generalize y.d.toNat = D at *
    generalize y.e.toNat = E at *
    clear hv hy hs a1 b1 f0 f1 f2 f3 f4 e0 e1 e2 e3
    omega
  · rw [if_neg h]
    have f5 : ((pless y).e &&& 67108863).toNat = (pless y).e.toNat % 67108864 := and26 _
    have hge : p1305 ≤ y.v := by
      rw [f4] at h
      simp only [N5.v, p1305] at *
      generalize y.a.toNat = A at *
      generalize y.b.toNat = B at *
      generalize y.c.toNat = C at *
      generalize y.d.toNat = D at *
      generalize y.e.toNat = E at *
      clear hv hy hs a1 b1 f0 f1 f2 f3 f4 f5 e0 e1 e2 e3
      omega
    refine ⟨?_, by show (pless y).a.toNat < _; omega, by show (pless y).b.toNat < _; omega, by show (pless y).c.toNat < _; omega, by show (pless y).d.toNat < _; omega, by show ((pless y).e &&& 67108863).toNat < _; omega⟩
    rw [← hv, Nat.mod_eq_sub_mod hge, Nat.mod_eq_of_lt (by have h5 : 5 < p1305 := (by decide); omega)]
    show (pless y).a.toNat + (pless y).b.toNat * 67108864 + (pless y).c.toNat * 4503599627370496 + (pless y).d.toNat * 302231454903657293676544 + ((pless y).e &&& 67108863).toNat * 20282409603651670423947251286016 = _
    rw [f5, f0, f1, f2, f3, f4]
    simp only [N5.v, p1305] at *
    generalize y.a.toNat = A at *
    generalize y.b.toNat = B at *
    generalize y.c.toNat = C at *
    generalize y.d.toNat = D at *
    generalize y.e.toNat = E at *
    clear hv hy hs a1 b1 f0 f1 f2 f3 f4 f5 e0 e1 e2 e3
    omega
def leN : List UInt8 → Nat
  | [] => 0
  | b :: l => b.toNat + 256 * leN l
theorem leN_append : ∀ (a b : List UInt8), leN (a ++ b) = leN a + 2 ^ (8 * a.length) * leN b
  | [], b => by simp [leN]
  | x :: a, b => by
    rw [List.cons_append, leN, leN, leN_append a b, List.length_cons, show 8 * (a.length + 1) = 8 * a.length + 8 by omega, Nat.pow_add]
    have : (2 : Nat) ^ 8 = 256 := rfl
    rw [this]
    grind
theorem leN_lt : ∀ (a : List UInt8), leN a < 2 ^ (8 * a.length)
  | [] => by simp [leN]
  | x :: a => by
    have h := leN_lt a
    have hx := x.toNat_lt
    rw [leN, List.length_cons, show 8 * (a.length + 1) = 8 * a.length + 8 by omega, Nat.pow_add]
    have : (2 : Nat) ^ 8 = 256 := rfl
    rw [this]
    omega
theorem leN_take (s : List UInt8) (i : Nat) (h : i < s.length) : leN (s.take (i + 1)) = leN (s.take i) + (s.getD i 0).toNat * 2 ^ (8 * i) := by
  rw [List.take_add_one, leN_append, List.length_take, Nat.min_eq_left (by omega), List.getD_eq_getElem?_getD, List.getElem?_eq_getElem h]
  simp [leN, Nat.mul_comm]
theorem n5of_l (l : List UInt64) (h : l.length = 5) : (n5of l).l = l := by
  match l, h with
  | [a, b, c, d, e], _ => rfl
theorem shl64n {b : UInt64} {k : Nat} (hk : k < 64) (h : b.toNat * 2 ^ k < 18446744073709551616) : (shl64 b k).toNat = b.toNat * 2 ^ k := by
  unfold shl64
  rw [if_pos hk, UInt64.toNat_shiftLeft, UInt64.toNat_ofNat_of_lt' (by show k < 18446744073709551616; omega), Nat.mod_eq_of_lt hk, Nat.shiftLeft_eq]
  exact Nat.mod_eq_of_lt h
theorem shr64n {b : UInt64} {k : Nat} (hk : k < 64) : (shr64 b k).toNat = b.toNat / 2 ^ k := by
  unfold shr64
  rw [if_pos hk, UInt64.toNat_shiftRight, UInt64.toNat_ofNat_of_lt' (by show k < 18446744073709551616; omega), Nat.mod_eq_of_lt hk, Nat.shiftRight_eq_div_pow]
theorem orshl {a b : UInt64} (k : Nat) (hk : k < 64) (ha : a.toNat < 2 ^ k) (hb : b.toNat * 2 ^ k < 18446744073709551616) : (a ||| shl64 b k).toNat = a.toNat + b.toNat * 2 ^ k := by
  rw [UInt64.toNat_or, shl64n hk hb, Nat.or_comm, ← Nat.shiftLeft_eq, ← Nat.shiftLeft_add_eq_or_of_lt ha, Nat.add_comm]
theorem limb_step (x : N5) (b : UInt8) (i : Nat) (hi : i < 17) (hx : x.lt 17179869184) (hv : x.v < 2 ^ (8 * i)) :
    (n5of (x.l.set (8 * i / 26) (x.l.getD (8 * i / 26) 0 ||| shl64 b.toUInt64 (8 * i % 26)))).v = x.v + b.toNat * 2 ^ (8 * i) ∧ (n5of (x.l.set (8 * i / 26) (x.l.getD (8 * i / 26) 0 ||| shl64 b.toUInt64 (8 * i % 26)))).lt 17179869184 := by
  obtain ⟨h0, h1, h2, h3, h4⟩ := hx
  have hb := b.toNat_lt
  have hbn : b.toUInt64.toNat = b.toNat := by simp
  have hc : i = 0 ∨ i = 1 ∨ i = 2 ∨ i = 3 ∨ i = 4 ∨ i = 5 ∨ i = 6 ∨ i = 7 ∨ i = 8 ∨ i = 9 ∨ i = 10 ∨ i = 11 ∨ i = 12 ∨ i = 13 ∨ i = 14 ∨ i = 15 ∨ i = 16 := by omega
  unfold N5.v at hv
  rcases hc with rfl | rfl | rfl | rfl | rfl | rfl | rfl | rfl | rfl | rfl | rfl | rfl | rfl | rfl | rfl | rfl | rfl
  all_goals
    simp only [Nat.reduceMul, Nat.reduceDiv, Nat.reduceMod, Nat.reducePow, N5.l, List.set_cons_zero, List.set_cons_succ, List.getD_cons_zero, List.getD_cons_succ, n5of, N5.v, N5.lt] at hv ⊢
    rw [orshl _ (by decide) (by simp only [Nat.reducePow]; omega) (by rw [hbn]; simp only [Nat.reducePow]; omega), hbn]
    simp only [Nat.reducePow]
    refine ⟨by omega, ?_⟩
    refine ⟨?_, ?_, ?_, ?_, ?_⟩ <;> omega
theorem limbsL_v (s : List UInt8) : ∀ i, i ≤ 17 → i ≤ s.length → (n5of (limbsL s i)).v = leN (s.take i) ∧ (n5of (limbsL s i)).lt 17179869184
  | 0, _, _ => by
    have e : n5of (limbsL s 0) = ⟨0, 0, 0, 0, 0⟩ := rfl
    rw [e, List.take_zero]
    unfold N5.lt
    decide
  | i + 1, h, h' => by
    obtain ⟨h1, h2⟩ := limbsL_v s i (by omega) (by omega)
    have hv : (n5of (limbsL s i)).v < 2 ^ (8 * i) := by
      rw [h1]
      refine Nat.lt_of_lt_of_le (leN_lt _) (Nat.pow_le_pow_right (by decide) ?_)
      rw [List.length_take]; omega
    have := limb_step (n5of (limbsL s i)) (s.getD i 0) i (by omega) h2 hv
    rw [n5of_l _ (limbsL_len s i)] at this
    rw [leN_take s i (by omega), ← h1]
    exact this
theorem limbsN_spec (s : List UInt8) (h : s.length ≤ 17) : (limbsN s).v % p1305 = leN s % p1305 ∧ (limbsN s).lt 134217728 := by
  obtain ⟨h1, h2⟩ := limbsL_v s s.length h (Nat.le_refl _)
  rw [List.take_length] at h1
  obtain ⟨q, a1, a2, a3, a4, a5, a6, a7, a8⟩ := pcarry_spec _ _ (by decide) h2
  have := h2.2.2.2.2
  refine ⟨?_, by show (pcarry _).a.toNat < _; omega, by show (pcarry _).b.toNat < _; omega, by show (pcarry _).c.toNat < _; omega, by show (pcarry _).d.toNat < _; omega, by show (pcarry _).e.toNat < _; omega⟩
  rw [← h1, ← a1, Nat.add_mul_mod_self_left]; rfl
theorem ormod {u w : UInt64} (m : Nat) (hm : m ≤ 26) (hu : u.toNat < 2 ^ m) (hw : w.toNat < 67108864) : (u ||| shl64 w m).toUInt8.toNat = (u.toNat + w.toNat * 2 ^ m) % 256 := by
  have hp : (2 : Nat) ^ m ≤ 2 ^ 26 := Nat.pow_le_pow_right (by decide) hm
  have : w.toNat * 2 ^ m ≤ 67108864 * 2 ^ 26 := Nat.mul_le_mul (by omega) hp
  rw [UInt64.toNat_toUInt8, orshl m (by omega) hu (by omega)]
theorem byteOf_spec (x : N5) (hx : x.lt 67108864) (i : Nat) (hi : i < 16) : (byteOfL x i).toNat = x.v / 2 ^ (8 * i) % 256 := by
  obtain ⟨h0, h1, h2, h3, h4⟩ := hx
  have hc : i = 0 ∨ i = 1 ∨ i = 2 ∨ i = 3 ∨ i = 4 ∨ i = 5 ∨ i = 6 ∨ i = 7 ∨ i = 8 ∨ i = 9 ∨ i = 10 ∨ i = 11 ∨ i = 12 ∨ i = 13 ∨ i = 14 ∨ i = 15 := by omega
  rcases hc with rfl | rfl | rfl | rfl | rfl | rfl | rfl | rfl | rfl | rfl | rfl | rfl | rfl | rfl | rfl | rfl
  all_goals
    simp only [byteOfL, Nat.reduceMul, Nat.reduceDiv, Nat.reduceMod, Nat.reduceSub, Nat.reduceAdd, Nat.reduceLT, Nat.reducePow, N5.l, List.getD_cons_zero, List.getD_cons_succ, if_true, if_false, N5.v]
    first
      | (rw [ormod _ (by decide) (by rw [shr64n (by decide)]; simp only [Nat.reducePow]; omega) (by omega), shr64n (by decide)]
         simp only [Nat.reducePow]
         omega)
      | (rw [UInt64.toNat_toUInt8, shr64n (by decide)]
         simp only [Nat.reducePow]
         omega)
theorem addB_alg (L P T c B d V K : Nat) (ih : L + c * P = V + K) (hT : T = c + B + d) : L + P * (T % 256) + T / 256 * (P * 256) = V + P * B + (K + d * P) := by
  have h := Nat.mod_add_div T 256
  have e : P * (T % 256) + T / 256 * (P * 256) = P * T := by
    rw [Nat.mul_comm (T / 256), Nat.mul_assoc, ← Nat.mul_add, h]
  rw [Nat.add_assoc, e, hT, Nat.mul_add, Nat.mul_add, Nat.mul_comm P c, Nat.mul_comm P d]
  omega
theorem addB_v (x : N5) (hx : x.lt 67108864) (s : List UInt8) (hs : s.length = 16) : ∀ n, n ≤ 16 → leN (addB x s n) + pcar x s n * 2 ^ (8 * n) = x.v % 2 ^ (8 * n) + leN (s.take n)
  | 0, _ => by simp [addB, pcar, leN, Nat.mod_one]
  | n + 1, h => by
    have ih := addB_v x hx s hs n (by omega)
    have hb := byteOf_spec x hx n (by omega)
    have hd : leN [addAt x s n] = (pcar x s n + (byteOfL x n).toNat + (s.getD n 0).toNat) % 256 := by simp [addAt, leN]
    have e8 : 8 * (n + 1) = 8 * n + 8 := by omega
    rw [addB_succ', leN_append, addB_len', leN_take s n (by omega), pcar, hd, e8, Nat.pow_add, Nat.mod_mul, ← hb]
    exact addB_alg _ _ _ _ _ _ _ _ ih rfl
theorem leN_inj : ∀ (a b : List UInt8), a.length = b.length → leN a = leN b → a = b
  | [], [], _, _ => rfl
  | [], _ :: _, h, _ => by simp at h
  | _ :: _, [], h, _ => by simp at h
  | x :: a, y :: b, h, e => by
    have hx := x.toNat_lt
    have hy := y.toNat_lt
    simp only [leN] at e
    have h1 : x = y := UInt8.toNat_inj.1 (by omega)
    have h2 := leN_inj a b (by simpa using h) (by omega)
    rw [h1, h2]
end Go.Proofs.YtahiopdkekkibaaGreatDoor.FC

/-
  The document's digits to the base 256: numbers, sums, products.
-/
namespace Go.Proofs.YtahiopdkekkibaaGreatDoor.FC
open Go Go.RowKit
set_option maxHeartbeats 4000000
set_option linter.unusedSimpArgs false
set_option linter.unusedVariables false
theorem add_go {B : Nat} (hB : 1 < B) {a b : List Nat} (ha : dlt B a) (hb : dlt B b) {i : Nat} (hi : i ≤ addLen B a b) (h : i < a.length ∨ i < b.length ∨ 0 < (addG B a b i).2) : i + 1 ≤ addLen B a b := by
  have hc := addLen_car hB ha hb
  rcases Nat.lt_or_ge i (addLen B a b) with h1 | h1
  · exact h1
  · have e : i = addLen B a b := by omega
    obtain ⟨h2, h3⟩ := addLen_bd B a b
    rw [← e] at hc
    omega
theorem add_end {B : Nat} {a b : List Nat} {i : Nat} (hi : i ≤ addLen B a b) (h1 : a.length ≤ i) (h2 : b.length ≤ i) (h3 : (addG B a b i).2 = 0) : i = addLen B a b := by
  unfold addLen at hi ⊢
  split
  · rename_i h; rw [if_pos h] at hi; omega
  · rename_i h
    rw [if_neg h] at hi
    by_cases e : i = max a.length b.length
    · rw [← e] at h; exact (h h3).elim
    · omega
theorem getD_out {l : List Nat} {i : Nat} (h : l.length ≤ i) : l.getD i 0 = 0 := by
  rw [List.getD_eq_getElem?_getD, List.getElem?_eq_none h]; rfl
def natsB (s : List UInt8) : List Nat := s.map (·.toNat)
theorem natsB_len (s : List UInt8) : (natsB s).length = s.length := by simp [natsB]
theorem natsB_succ (s : List UInt8) (i : Nat) (h : i < s.length) : (natsB s).take (i + 1) = (natsB s).take i ++ [(s.getD i 0).toNat] := by
  rw [List.take_add_one, List.getD_eq_getElem?_getD]
  simp [natsB, h]
def numInv (s : List UInt8) : Nat → St
  | 0 => ⟨[(0, .c (.one (.str s))), (3, .c (.one (.val (.slice none 0 0)))), (4, .c (.one (.num 0)))], []⟩
  | i + 1 => ⟨[(0, .c (.one (.str s))), (3, .c (.one (.sl 500 0 1 (i + 1)))), (4, .c (.one (.num (i + 1 : Nat))))], [(500, ⟨.arr Nat natL ((natsB s).take (i + 1)), true⟩)]⟩
set_option maxRecDepth 100000 in
theorem number_tri (s : List UInt8) (h0 : 0 < s.length) (h1 : s.length ≤ 1000) : Tri Tryz.prog 151 [.one (.str s)] [] (.c (.one (.sl 0 0 1 s.length))) [(0, ⟨.arr Nat natL (natsB s), true⟩)] := by
  refine tri_of (envR_ok ga0_ok 19 []) Tryz.func151 rfl rfl (rs := [.tmp 2]) rfl rfl (by simp [envR]) rfl [(0, 500)] ?_
  simp only [envR, con0, conN0, conN1, conN2, natsOf_arr, rowOf_arr, natsOf_cells, rowOf_cells, toN, natL_st, natL_d, natL_enc, natL_up, ga0, go_sem]
  refine loop_inv (envR_ok ga0_ok 19 []) (numInv s) (fun i => i ≤ s.length) (fun i => s.length - i) 0 [] (by omega) ?_ ?_
  · simp only [numInv, go_sem]
  · intro i hi
    have hx := natsB_succ s i
    rcases i with _ | i
    · simp only [numInv, envR, con0, conN0, conN1, conN2, natsOf_arr, rowOf_arr, natsOf_cells, rowOf_cells, toN, natL_st, natL_d, natL_enc, natL_up, ga0, go_sem]
      refine br (fun h => ?_) fun h => ?_
      · have hx := hx h0
        simp only [Nat.zero_add, List.take_zero, List.nil_append] at hx
        simp only [h, envR, con0, conN0, conN1, conN2, natsOf_arr, rowOf_arr, natsOf_cells, rowOf_cells, toN, natL_st, natL_d, natL_enc, natL_up, ga0, go_sem]
        refine ⟨by omega, again 1 [(500, 60048)] (by omega) (by omega) ?_⟩
        simp only [numInv, hx, envR, con0, conN0, conN1, conN2, natsOf_arr, rowOf_arr, natsOf_cells, rowOf_cells, toN, natL_st, natL_d, natL_enc, natL_up, ga0, go_sem]
      · exact absurd (of_decide_eq_false h) (by omega)
    · simp only [numInv, envR, con0, conN0, conN1, conN2, natsOf_arr, rowOf_arr, natsOf_cells, rowOf_cells, toN, natL_st, natL_d, natL_enc, natL_up, ga0, go_sem]
      have hw : IntKind.i64.wrap (((i + 1 : Nat) : Int) + 1) = ((i + 1 + 1 : Nat) : Int) := by rw [IntKind.wrap_i64]; omega
      refine br (fun h => ?_) fun h => ?_
      · have hx := hx (by have := of_decide_eq_true h; omega)
        simp only [h, envR, con0, conN0, conN1, conN2, natsOf_arr, rowOf_arr, natsOf_cells, rowOf_cells, toN, natL_st, natL_d, natL_enc, natL_up, ga0, hw, go_sem]
        refine ⟨⟨by omega, by have := of_decide_eq_true h; omega⟩, ⟨by rw [List.length_take, natsB_len]; omega, by omega, by omega⟩, again (i + 1 + 1) [(500, 60048)] (by have := of_decide_eq_true h; omega) (by have := of_decide_eq_true h; omega) ?_⟩
        simp only [numInv, hx, envR, con0, conN0, conN1, conN2, natsOf_arr, rowOf_arr, natsOf_cells, rowOf_cells, toN, natL_st, natL_d, natL_enc, natL_up, ga0, go_sem]
      · have hi' : i + 1 = s.length := by have := of_decide_eq_false h; omega
        have ht : (natsB s).take s.length = natsB s := List.take_of_length_le (by rw [natsB_len]; exact Nat.le_refl _)
        simp only [h, envR, con0, conN0, conN1, conN2, natsOf_arr, rowOf_arr, natsOf_cells, rowOf_cells, toN, natL_st, natL_d, natL_enc, natL_up, ga0, ht, hi', go_sem]
def daddInv (a b : List Nat) (wa wb : Bool) : Nat → St
  | 0 => ⟨[(0, .c (.one (.sl 0 0 1 a.length))), (1, .c (.one (.sl 1 0 1 b.length))), (5, .c (.one (.val (.slice none 0 0)))), (6, .c (.one (.num 0))), (7, .c (.one (.num 0)))], [(0, ⟨.arr Nat natL a, wa⟩), (1, ⟨.arr Nat natL b, wb⟩)]⟩
  | i + 1 => ⟨[(0, .c (.one (.sl 0 0 1 a.length))), (1, .c (.one (.sl 1 0 1 b.length))), (5, .c (.one (.sl 500 0 1 (i + 1)))), (6, .c (.one (.num (addG 256 a b (i + 1)).2))), (7, .c (.one (.num (i + 1 : Nat))))], [(0, ⟨.arr Nat natL a, wa⟩), (1, ⟨.arr Nat natL b, wb⟩), (500, ⟨.arr Nat natL (addG 256 a b (i + 1)).1, true⟩)]⟩
set_option maxRecDepth 100000 in
theorem dadd_tri (a b : List Nat) (wa wb : Bool) (ha : dlt 256 a) (hb : dlt 256 b) (la : a.length ≤ 1000) (lb : b.length ≤ 1000) (l0 : 0 < a.length) : Tri Tryz.prog 154 [.one (.sl 0 0 1 a.length), .one (.sl 1 0 1 b.length)] [(0, ⟨.arr Nat natL a, wa⟩), (1, ⟨.arr Nat natL b, wb⟩)] (.c (.one (.sl 2 0 1 (addL 256 a b).length))) [(0, ⟨.arr Nat natL a, wa⟩), (1, ⟨.arr Nat natL b, wb⟩), (2, ⟨.arr Nat natL (addL 256 a b), true⟩)] := by
  refine tri_of (envR_ok ga0_ok 54 [0, 1]) Tryz.func154 rfl rfl (rs := [.tmp 4]) rfl rfl (by simp [envR]) rfl [(2, 500)] ?_
  simp only [envR, con0, conN0, conN1, conN2, natsOf_arr, rowOf_arr, natsOf_cells, rowOf_cells, toN, natL_st, natL_d, natL_enc, natL_up, ga0, go_sem]
  refine loop_inv (envR_ok ga0_ok 54 [0, 1]) (daddInv a b wa wb) (fun i => i ≤ addLen 256 a b) (fun i => addLen 256 a b - i) 0 [] (by omega) ?_ ?_
  · simp only [daddInv, go_sem]
    exact ⟨rfl, id, id⟩
  · intro i hi
    obtain ⟨T, hT⟩ : ∃ T, T = (addG 256 a b i).2 + a.getD i 0 + b.getD i 0 := ⟨_, rfl⟩
    have gl : (addG 256 a b (i + 1)).1 = (addG 256 a b i).1 ++ [T % 256] := by rw [addG, ← hT]
    have gc : (addG 256 a b (i + 1)).2 = T / 256 := by rw [addG, ← hT]
    have bc := addG_car (by decide : 1 < 256) ha hb i
    have ba := ha i
    have bb := hb i
    have bl := addLen_bd 256 a b
    have h5 : ((T : Nat) : Int).tmod 256 = ((T % 256 : Nat) : Int) := by rw [show (256 : Int) = ((256 : Nat) : Int) from rfl, ← Int.ofNat_tmod]
    have h6 : IntKind.i64.wrap (((T : Nat) : Int).tdiv 256) = ((T / 256 : Nat) : Int) := by
      rw [show (256 : Int) = ((256 : Nat) : Int) from rfl, ← Int.ofNat_tdiv, IntKind.wrap_i64]; omega
    have hlen := addG_len 256 a b i
    rcases i with _ | i
    · have gl0 : (addG 256 a b 1).1 = [T % 256] := gl
      have gc0 : (addG 256 a b 1).2 = T / 256 := gc
      have c1 : decide ((0 : Int) < (a.length : Int)) = true := decide_eq_true (by omega)
      have z0 : (addG 256 a b 0).2 = 0 := rfl
      have w1 : IntKind.i64.wrap ((a.getD 0 0 : Nat) : Int) = ((a.getD 0 0 : Nat) : Int) := by rw [IntKind.wrap_i64]; omega
      cases c2 : decide ((0 : Int) < (b.length : Int)) with
      | true =>
        have w2 : IntKind.i64.wrap (((a.getD 0 0 : Nat) : Int) + ((b.getD 0 0 : Nat) : Int)) = ((T : Nat) : Int) := by rw [IntKind.wrap_i64]; omega
        simp only [daddInv, envR, con0, conN0, conN1, conN2, natsOf_arr, rowOf_arr, natsOf_cells, rowOf_cells, toN, natL_st, natL_d, natL_enc, natL_up, ga0, c1, c2, w1, w2, h5, h6, go_sem]
        refine ⟨by omega, by omega, by have := of_decide_eq_true c2; omega, by have := of_decide_eq_true c2; omega, again 1 [(500, 120032)] (by omega) (by omega) ?_⟩
        simp only [daddInv, gl0, gc0, envR, con0, conN0, conN1, conN2, natsOf_arr, rowOf_arr, natsOf_cells, rowOf_cells, toN, natL_st, natL_d, natL_enc, natL_up, ga0, go_sem]
        exact ⟨rfl, id, id⟩
      | false =>
        have zb := getD_out (l := b) (i := 0) (by have := of_decide_eq_false c2; omega)
        have w2 : IntKind.i64.wrap ((a.getD 0 0 : Nat) : Int) = ((T : Nat) : Int) := by rw [IntKind.wrap_i64]; omega
        simp only [daddInv, envR, con0, conN0, conN1, conN2, natsOf_arr, rowOf_arr, natsOf_cells, rowOf_cells, toN, natL_st, natL_d, natL_enc, natL_up, ga0, c1, c2, w2, h5, h6, go_sem]
        refine ⟨by omega, by omega, again 1 [(500, 120032)] (by omega) (by omega) ?_⟩
        simp only [daddInv, gl0, gc0, envR, con0, conN0, conN1, conN2, natsOf_arr, rowOf_arr, natsOf_cells, rowOf_cells, toN, natL_st, natL_d, natL_enc, natL_up, ga0, go_sem]
        exact ⟨rfl, id, id⟩
    · have hw : IntKind.i64.wrap (((i + 1 : Nat) : Int) + 1) = ((i + 1 + 1 : Nat) : Int) := by rw [IntKind.wrap_i64]; omega
      have hgo := fun h => add_go (by decide : 1 < 256) ha hb hi h
      cases c1 : decide (((i + 1 : Nat) : Int) < (a.length : Int)) with
      | true =>
        have g1 : i + 1 < a.length := by have := of_decide_eq_true c1; omega
        have hgo := hgo (.inl g1)
        cases c2 : decide (((i + 1 : Nat) : Int) < (b.length : Int)) with
        | true =>
          have g2 : i + 1 < b.length := by have := of_decide_eq_true c2; omega
          have w1 : IntKind.i64.wrap (((addG 256 a b (i + 1)).2 : Int) + ((a.getD (i + 1) 0 : Nat) : Int)) = (((addG 256 a b (i + 1)).2 + a.getD (i + 1) 0 : Nat) : Int) := by rw [IntKind.wrap_i64]; omega
          have w2 : IntKind.i64.wrap ((((addG 256 a b (i + 1)).2 + a.getD (i + 1) 0 : Nat) : Int) + ((b.getD (i + 1) 0 : Nat) : Int)) = ((T : Nat) : Int) := by rw [IntKind.wrap_i64]; omega
          simp only [daddInv, envR, con0, conN0, conN1, conN2, natsOf_arr, rowOf_arr, natsOf_cells, rowOf_cells, toN, natL_st, natL_d, natL_enc, natL_up, ga0, c1, c2, w1, w2, h5, h6, hw, go_sem]
          repeat' apply And.intro
          all_goals first
            | omega
            | skip
          refine again (i + 1 + 1) [(500, 120032)] (by omega) (by omega) ?_
          simp only [daddInv, gl, gc, envR, con0, conN0, conN1, conN2, natsOf_arr, rowOf_arr, natsOf_cells, rowOf_cells, toN, natL_st, natL_d, natL_enc, natL_up, ga0, go_sem]
          exact ⟨rfl, id, id⟩
        | false =>
          have zb := getD_out (l := b) (i := i + 1) (by have := of_decide_eq_false c2; omega)
          have w1 : IntKind.i64.wrap (((addG 256 a b (i + 1)).2 : Int) + ((a.getD (i + 1) 0 : Nat) : Int)) = ((T : Nat) : Int) := by rw [IntKind.wrap_i64]; omega
          simp only [daddInv, envR, con0, conN0, conN1, conN2, natsOf_arr, rowOf_arr, natsOf_cells, rowOf_cells, toN, natL_st, natL_d, natL_enc, natL_up, ga0, c1, c2, w1, h5, h6, hw, go_sem]
          repeat' apply And.intro
          all_goals first
            | omega
            | skip
          refine again (i + 1 + 1) [(500, 120032)] (by omega) (by omega) ?_
          simp only [daddInv, gl, gc, envR, con0, conN0, conN1, conN2, natsOf_arr, rowOf_arr, natsOf_cells, rowOf_cells, toN, natL_st, natL_d, natL_enc, natL_up, ga0, go_sem]
          exact ⟨rfl, id, id⟩
      | false =>
        have za := getD_out (l := a) (i := i + 1) (by have := of_decide_eq_false c1; omega)
        cases c2 : decide (((i + 1 : Nat) : Int) < (b.length : Int)) with
        | true =>
          have g2 : i + 1 < b.length := by have := of_decide_eq_true c2; omega
          have hgo := hgo (.inr (.inl g2))
          have w1 : IntKind.i64.wrap (((addG 256 a b (i + 1)).2 : Int) + ((b.getD (i + 1) 0 : Nat) : Int)) = ((T : Nat) : Int) := by rw [IntKind.wrap_i64]; omega
          simp only [daddInv, envR, con0, conN0, conN1, conN2, natsOf_arr, rowOf_arr, natsOf_cells, rowOf_cells, toN, natL_st, natL_d, natL_enc, natL_up, ga0, c1, c2, w1, h5, h6, hw, go_sem]
          repeat' apply And.intro
          all_goals first
            | omega
            | skip
          refine again (i + 1 + 1) [(500, 120032)] (by omega) (by omega) ?_
          simp only [daddInv, gl, gc, envR, con0, conN0, conN1, conN2, natsOf_arr, rowOf_arr, natsOf_cells, rowOf_cells, toN, natL_st, natL_d, natL_enc, natL_up, ga0, go_sem]
          exact ⟨rfl, id, id⟩
        | false =>
          have zb := getD_out (l := b) (i := i + 1) (by have := of_decide_eq_false c2; omega)
          cases c3 : decide ((0 : Int) < ((addG 256 a b (i + 1)).2 : Int)) with
          | true =>
            have hgo := hgo (.inr (.inr (by have := of_decide_eq_true c3; omega)))
            have w1 : (addG 256 a b (i + 1)).2 = T := by omega
            have c4 : decide ((0 : Int) < (T : Int)) = true := by rw [← w1]; exact c3
            simp only [daddInv, envR, con0, conN0, conN1, conN2, natsOf_arr, rowOf_arr, natsOf_cells, rowOf_cells, toN, natL_st, natL_d, natL_enc, natL_up, ga0, c1, c2, c3, c4, w1, h5, h6, hw, go_sem]
            repeat' apply And.intro
            all_goals first
              | omega
              | skip
            refine again (i + 1 + 1) [(500, 120032)] (by omega) (by omega) ?_
            simp only [daddInv, gl, gc, envR, con0, conN0, conN1, conN2, natsOf_arr, rowOf_arr, natsOf_cells, rowOf_cells, toN, natL_st, natL_d, natL_enc, natL_up, ga0, go_sem]
            exact ⟨rfl, id, id⟩
          | false =>
            have he : i + 1 = addLen 256 a b := add_end hi (by have := of_decide_eq_false c1; omega) (by have := of_decide_eq_false c2; omega) (by have := of_decide_eq_false c3; omega)
            have hl2 := addL_len 256 a b
            have hr : (addG 256 a b (i + 1)).1 = addL 256 a b := by rw [addL, he]
            simp only [daddInv, envR, con0, conN0, conN1, conN2, natsOf_arr, rowOf_arr, natsOf_cells, rowOf_cells, toN, natL_st, natL_d, natL_enc, natL_up, ga0, c1, c2, c3, hr, hl2, ← he, hw, go_sem]
            exact ⟨rfl, id, id⟩
def numberC : Con := conN0 fun args => match args with
  | [.one (.str s)] => some (.c (.one (.sl 0 0 1 s.length)), natsB s, [0 < s.length, s.length ≤ 1000])
  | _ => none
theorem numberC_ok : ConOk Tryz.prog 151 numberC := conN0_ok Tryz.func151 rfl rfl fun args v r ob h hob => by
  split at h
  · injection h with h; injection h with h1 h2; injection h2 with h2 h3; subst h1; subst h2; subst h3
    exact number_tri _ hob.1 hob.2.1
  · cases h
def daddC : Con := conN2 fun args a b => match args with
  | [.one (.sl 0 0 1 n), .one (.sl 1 0 1 m)] => some (.c (.one (.sl 2 0 1 (addL 256 a b).length)), addL 256 a b, [n = a.length, m = b.length, dlt 256 a, dlt 256 b, a.length ≤ 1000, b.length ≤ 1000, 0 < a.length])
  | _ => none
theorem daddC_ok : ConOk Tryz.prog 154 daddC := conN2_ok Tryz.func154 rfl rfl fun args a b v r ob h hob wa wb => by
  split at h
  · injection h with h; injection h with h1 h2; injection h2 with h2 h3; subst h1; subst h2; subst h3
    obtain ⟨rfl, rfl, o3, o4, o5, o6, o7, _⟩ := hob
    exact dadd_tri _ _ _ _ o3 o4 o5 o6 o7
  · cases h
end Go.Proofs.YtahiopdkekkibaaGreatDoor.FC

/-
  The document's digits to the base 256: products.
-/
namespace Go.Proofs.YtahiopdkekkibaaGreatDoor.FC
open Go Go.RowKit
set_option maxHeartbeats 4000000
set_option linter.unusedSimpArgs false
set_option linter.unusedVariables false
theorem zeros_flat (n : Nat) : (List.replicate n 0).flatMap natL.enc = List.replicate n (AV.num 0) := by
  rw [nat_flat, List.map_replicate]; rfl
def dtInv (a b : List Nat) (wa wb : Bool) (i : Nat) : St := ⟨[(0, .c (.one (.sl 0 0 1 a.length))), (1, .c (.one (.sl 1 0 1 b.length))), (5, .c (.one (.sl 20040 0 1 (a.length + b.length)))), (6, .c (.one (.num i)))], [(0, ⟨.arr Nat natL a, wa⟩), (1, ⟨.arr Nat natL b, wb⟩), (20040, ⟨.arr Nat natL (mulOut 256 a b i), true⟩)]⟩
def dtIn (a b : List Nat) (wa wb : Bool) (i k : Nat) : St := ⟨[(0, .c (.one (.sl 0 0 1 a.length))), (1, .c (.one (.sl 1 0 1 b.length))), (5, .c (.one (.sl 20040 0 1 (a.length + b.length)))), (6, .c (.one (.num i))), (7, .c (.one (.num (mulIn 256 (mulOut 256 a b i) b (a.getD i 0) i k).2))), (8, .c (.one (.num k)))], [(0, ⟨.arr Nat natL a, wa⟩), (1, ⟨.arr Nat natL b, wb⟩), (20040, ⟨.arr Nat natL (mulIn 256 (mulOut 256 a b i) b (a.getD i 0) i k).1, true⟩)]⟩
set_option maxRecDepth 100000 in
theorem dtimes_tri (a b : List Nat) (wa wb : Bool) (ha : dlt 256 a) (hb : dlt 256 b) (la : a.length ≤ 1000) (lb : b.length ≤ 1000) : Tri Tryz.prog 153 [.one (.sl 0 0 1 a.length), .one (.sl 1 0 1 b.length)] [(0, ⟨.arr Nat natL a, wa⟩), (1, ⟨.arr Nat natL b, wb⟩)] (.c (.one (.sl 2 0 1 (timesL 256 a b).length))) [(0, ⟨.arr Nat natL a, wa⟩), (1, ⟨.arr Nat natL b, wb⟩), (2, ⟨.arr Nat natL (timesL 256 a b), true⟩)] := by
  refine tri_of (envR_ok ga0_ok 66 [0, 1]) Tryz.func153 rfl rfl (rs := [.tmp 4]) rfl rfl (by simp [envR]) rfl [(2, 20040)] ?_
  have hw0 : IntKind.i64.wrap ((a.length : Int) + (b.length : Int)) = ((a.length + b.length : Nat) : Int) := by rw [IntKind.wrap_i64]; omega
  simp only [envR, con0, conN0, conN1, conN2, natsOf_arr, rowOf_arr, natsOf_cells, rowOf_cells, toN, natL_st, natL_d, natL_enc, natL_up, ga0, hw0, go_sem]
  refine ⟨⟨by omega, by omega, by omega⟩, ?_⟩
  refine loop_inv (envR_ok ga0_ok 66 [0, 1]) (dtInv a b wa wb) (fun i => i ≤ a.length) (fun i => a.length - i) 0 [] (by omega) ?_ ?_
  · have h0 : (mulOut 256 a b 0).flatMap natL.enc = List.replicate (a.length + b.length) (AV.num 0) := zeros_flat _
    simp only [dtInv, h0, envR, con0, conN0, conN1, conN2, natsOf_arr, rowOf_arr, natsOf_cells, rowOf_cells, toN, natL_st, natL_d, natL_enc, natL_up, ga0, go_sem]
    exact ⟨rfl, id, id⟩
  · intro i hi
    have hlen := mulOut_len 256 a b i
    have hlt := mulOut_lt (by decide : 1 < 256) ha hb i hi
    have hw : IntKind.i64.wrap ((i : Int) + 1) = ((i + 1 : Nat) : Int) := by rw [IntKind.wrap_i64]; omega
    simp only [dtInv, envR, con0, conN0, conN1, conN2, natsOf_arr, rowOf_arr, natsOf_cells, rowOf_cells, toN, natL_st, natL_d, natL_enc, natL_up, ga0, go_sem]
    refine br (fun h => ?_) fun h => ?_
    · have g1 : i < a.length := by have := of_decide_eq_true h; omega
      simp only [h, hw, envR, con0, conN0, conN1, conN2, natsOf_arr, rowOf_arr, natsOf_cells, rowOf_cells, toN, natL_st, natL_d, natL_enc, natL_up, ga0, go_sem]
      refine loop_inv (envR_ok ga0_ok 66 [0, 1]) (dtIn a b wa wb i) (fun k => k ≤ b.length) (fun k => b.length - k) 0 [] (by omega) ?_ ?_
      · simp only [dtIn, mulIn, Int.natCast_zero, envR, con0, conN0, conN1, conN2, natsOf_arr, rowOf_arr, natsOf_cells, rowOf_cells, toN, natL_st, natL_d, natL_enc, natL_up, ga0, go_sem]
        exact ⟨rfl, id, id⟩
      · intro k hk
        obtain ⟨q1, q2⟩ := mulIn_lt (by decide : 1 < 256) hlt.1 hb (ha i) i k
        have ql := mulIn_len 256 (mulOut 256 a b i) b (a.getD i 0) i k
        rw [hlen] at ql
        have qs : mulIn 256 (mulOut 256 a b i) b (a.getD i 0) i (k + 1) = ((mulIn 256 (mulOut 256 a b i) b (a.getD i 0) i k).1.set (i + k) (((mulIn 256 (mulOut 256 a b i) b (a.getD i 0) i k).1.getD (i + k) 0 + a.getD i 0 * b.getD k 0 + (mulIn 256 (mulOut 256 a b i) b (a.getD i 0) i k).2) % 256), ((mulIn 256 (mulOut 256 a b i) b (a.getD i 0) i k).1.getD (i + k) 0 + a.getD i 0 * b.getD k 0 + (mulIn 256 (mulOut 256 a b i) b (a.getD i 0) i k).2) / 256) := rfl
        have qf := mulIn_far 256 (mulOut 256 a b i) b (a.getD i 0) i k
        have qo : k = b.length → mulOut 256 a b (i + 1) = (mulIn 256 (mulOut 256 a b i) b (a.getD i 0) i k).1.set (i + k) ((mulIn 256 (mulOut 256 a b i) b (a.getD i 0) i k).1.getD (i + k) 0 + (mulIn 256 (mulOut 256 a b i) b (a.getD i 0) i k).2) := fun e => by subst e; rfl
        simp only [dtIn]
        obtain ⟨L, hL⟩ : ∃ L, L = (mulIn 256 (mulOut 256 a b i) b (a.getD i 0) i k).1 := ⟨_, rfl⟩
        obtain ⟨c, hc⟩ : ∃ c, c = (mulIn 256 (mulOut 256 a b i) b (a.getD i 0) i k).2 := ⟨_, rfl⟩
        obtain ⟨x, hx⟩ : ∃ x, x = a.getD i 0 := ⟨_, rfl⟩
        obtain ⟨z, hz⟩ : ∃ z, z = b.getD k 0 := ⟨_, rfl⟩
        obtain ⟨y, hy⟩ : ∃ y, y = L.getD (i + k) 0 := ⟨_, rfl⟩
        have bx : x < 256 := by rw [hx]; exact ha i
        have bz : z < 256 := by rw [hz]; exact hb k
        have by' : y < 256 := by rw [hy, hL]; exact q1 (i + k)
        have bp : x * z ≤ 255 * 255 := Nat.mul_le_mul (by omega) (by omega)
        rw [← hL] at q1 ql qs qo qf ⊢
        rw [← hc] at q2 qs qo ⊢
        rw [← hx, ← hz, ← hy] at qs
        have w1 : IntKind.i64.wrap ((i : Int) + (k : Int)) = ((i + k : Nat) : Int) := by rw [IntKind.wrap_i64]; omega
        have w2 : IntKind.i64.wrap ((x : Int) * (z : Int)) = ((x * z : Nat) : Int) := by rw [IntKind.wrap_i64, ← Int.natCast_mul]; omega
        have w3 : IntKind.i64.wrap ((y : Int) + ((x * z : Nat) : Int)) = ((y + x * z : Nat) : Int) := by rw [IntKind.wrap_i64]; omega
        have w4 : IntKind.i64.wrap (((y + x * z : Nat) : Int) + (c : Int)) = ((y + x * z + c : Nat) : Int) := by rw [IntKind.wrap_i64]; omega
        have w5 : ((y + x * z + c : Nat) : Int).tmod 256 = (((y + x * z + c) % 256 : Nat) : Int) := by rw [show (256 : Int) = ((256 : Nat) : Int) from rfl, ← Int.ofNat_tmod]
        have w6 : IntKind.i64.wrap (((y + x * z + c : Nat) : Int).tdiv 256) = (((y + x * z + c) / 256 : Nat) : Int) := by
          rw [show (256 : Int) = ((256 : Nat) : Int) from rfl, ← Int.ofNat_tdiv, IntKind.wrap_i64]; omega
        have w7 : IntKind.i64.wrap ((k : Int) + 1) = ((k + 1 : Nat) : Int) := by rw [IntKind.wrap_i64]; omega
        have w8 : IntKind.i64.wrap ((y : Int) + (c : Int)) = ((y + c : Nat) : Int) := by rw [IntKind.wrap_i64]; omega
        simp only [envR, con0, conN0, conN1, conN2, natsOf_arr, rowOf_arr, natsOf_cells, rowOf_cells, toN, natL_st, natL_d, natL_enc, natL_up, ga0, go_sem]
        refine br (fun h2 => ?_) fun h2 => ?_
        · have g2 : k < b.length := by have := of_decide_eq_true h2; omega
          simp only [h2, w1, w2, w3, w4, w5, w6, w7, ← hx, ← hz, ← hy, ql, envR, con0, conN0, conN1, conN2, natsOf_arr, rowOf_arr, natsOf_cells, rowOf_cells, toN, natL_st, natL_d, natL_enc, natL_up, ga0, go_sem]
          refine ⟨⟨by omega, by omega⟩, by omega, ⟨by omega, by omega⟩, by omega, ⟨by omega, by omega⟩, by omega, rfl, ⟨by omega, by omega⟩, by omega, again (k + 1) [] (by omega) (by omega) ?_⟩
          simp only [dtIn, ← hx, qs, envR, con0, conN0, conN1, conN2, natsOf_arr, rowOf_arr, natsOf_cells, rowOf_cells, toN, natL_st, natL_d, natL_enc, natL_up, ga0, go_sem]
          exact ⟨rfl, id, id⟩
        · have he : k = b.length := by have := of_decide_eq_false h2; omega
          have qo := qo he
          rw [← hy] at qo
          simp only [h2, hw, ← he, w1, w8, ← hy, ql, envR, con0, conN0, conN1, conN2, natsOf_arr, rowOf_arr, natsOf_cells, rowOf_cells, toN, natL_st, natL_d, natL_enc, natL_up, ga0, go_sem]
          repeat' apply And.intro
          all_goals first
            | omega
            | skip
          refine again (i + 1) [] (by omega) (by omega) ?_
          simp only [dtInv, ← he, qo, envR, con0, conN0, conN1, conN2, natsOf_arr, rowOf_arr, natsOf_cells, rowOf_cells, toN, natL_st, natL_d, natL_enc, natL_up, ga0, go_sem]
          exact ⟨rfl, id, id⟩
    · have he : i = a.length := by have := of_decide_eq_false h; omega
      have hr : mulOut 256 a b i = timesL 256 a b := by rw [timesL, he]
      have hl2 := timesL_len 256 a b
      simp only [h, hr, hl2, envR, con0, conN0, conN1, conN2, natsOf_arr, rowOf_arr, natsOf_cells, rowOf_cells, toN, natL_st, natL_d, natL_enc, natL_up, ga0, go_sem]
      exact ⟨rfl, id, id⟩
def dtimesC : Con := conN2 fun args a b => match args with
  | [.one (.sl 0 0 1 n), .one (.sl 1 0 1 m)] => some (.c (.one (.sl 2 0 1 (timesL 256 a b).length)), timesL 256 a b, [n = a.length, m = b.length, dlt 256 a, dlt 256 b, a.length ≤ 1000, b.length ≤ 1000])
  | _ => none
theorem dtimesC_ok : ConOk Tryz.prog 153 dtimesC := conN2_ok Tryz.func153 rfl rfl fun args a b v r ob h hob wa wb => by
  split at h
  · injection h with h; injection h with h1 h2; injection h2 with h2 h3; subst h1; subst h2; subst h3
    obtain ⟨rfl, rfl, o3, o4, o5, o6, _⟩ := hob
    exact dtimes_tri _ _ _ _ o3 o4 o5 o6
  · cases h
def gd5 : Nat → Option Con := fun f => match f with
  | 154 => some daddC
  | 153 => some dtimesC
  | _ => none
theorem gd5_ok : GaOk Tryz.prog gd5 := fun f con h => by
  unfold gd5 at h
  split at h
  · injection h with h; subst h; exact daddC_ok
  · injection h with h; subst h; exact dtimesC_ok
  · cases h
end Go.Proofs.YtahiopdkekkibaaGreatDoor.FC

/-
  The document's digits to the base 256: the least number modulo 2^130 - 5.
-/
namespace Go.Proofs.YtahiopdkekkibaaGreatDoor.FC
open Go Go.RowKit
set_option maxHeartbeats 4000000
set_option linter.unusedSimpArgs false
set_option linter.unusedVariables false
def nAt (l : List Nat) (j : Nat) : Nat := l.getD (16 + j) 0 / 4 + l.getD (16 + j + 1) 0 % 4 * 64
def highL (l : List Nat) (m : Nat) : List Nat := (List.range m).map (nAt l)
def moreB (l : List Nat) : Nat → Bool
  | 0 => false
  | m + 1 => moreB l m || decide (0 < nAt l m)
def lowF (l : List Nat) : List Nat := l.take 16 ++ [l.getD 16 0 % 4]
theorem highL_len (l : List Nat) (m : Nat) : (highL l m).length = m := by simp [highL]
theorem highL_succ (l : List Nat) (m : Nat) : highL l (m + 1) = highL l m ++ [nAt l m] := by simp [highL, List.range_succ]
theorem nAt_lt {l : List Nat} (h : dlt 256 l) (j : Nat) : nAt l j < 256 := by
  have h1 := h (16 + j)
  have h2 := h (16 + j + 1)
  unfold nAt; omega
theorem highL_lt {l : List Nat} (h : dlt 256 l) : ∀ m, dlt 256 (highL l m)
  | 0 => dlt_nil (by decide)
  | m + 1 => by rw [highL_succ]; exact dlt_append (highL_lt h m) (dlt_mk (nAt_lt h m) (dlt_nil (by decide)))
theorem high_tele (l : List Nat) : ∀ m, 4 * dv 256 (highL l m) + l.getD 16 0 % 4 = dv 256 ((l.drop 16).take m) + (l.getD (16 + m) 0 % 4) * 256 ^ m
  | 0 => by simp [highL, dv]
  | m + 1 => by
    have ih := high_tele l m
    have hg : (l.drop 16).getD m 0 = l.getD (16 + m) 0 := by simp only [List.getD_eq_getElem?_getD, List.getElem?_drop]
    have hd := Nat.div_add_mod (l.getD (16 + m) 0) 4
    rw [highL_succ, dv_append, highL_len, dv_take, hg, Nat.pow_succ, show 16 + (m + 1) = 16 + m + 1 by omega]
    simp only [dv, Nat.mul_zero, Nat.add_zero, nAt]
    generalize l.getD (16 + m) 0 = x at *
    generalize l.getD (16 + m + 1) 0 % 4 = y at *
    generalize x / 4 = q at *
    generalize x % 4 = r at *
    generalize 256 ^ m = Q at *
    generalize dv 256 (highL l m) = H at *
    generalize dv 256 ((l.drop 16).take m) = D at *
    generalize l.getD 16 0 % 4 = z at *
    subst hd
    have e : 4 * (H + Q * (q + y * 64)) + z = (4 * H + z) + 4 * (Q * q) + y * (Q * 256) := by grind
    rw [e, ih]
    grind
theorem low_lt {l : List Nat} (h : dlt 256 l) : dlt 256 (lowF l) := by
  have ht : dlt 256 (l.take 16) := fun i => by
    rw [List.getD_eq_getElem?_getD, List.getElem?_take]
    split
    · rw [← List.getD_eq_getElem?_getD]; exact h i
    · simp
  exact dlt_append ht (dlt_mk (by omega) (dlt_nil (by decide)))
theorem low_len {l : List Nat} (h : 17 ≤ l.length) : (lowF l).length = 17 := by simp [lowF]; omega
theorem take16 {l : List Nat} (h : dlt 256 l) (hl : 16 ≤ l.length) : dv 256 (l.take 16) < 256 ^ 16 := by
  have ht : dlt 256 (l.take 16) := fun i => by
    rw [List.getD_eq_getElem?_getD, List.getElem?_take]
    split
    · rw [← List.getD_eq_getElem?_getD]; exact h i
    · simp
  have := dv_lt (by decide : 0 < 256) ht
  rwa [List.length_take, Nat.min_eq_left hl] at this
theorem low_v {l : List Nat} (h : 17 ≤ l.length) : dv 256 (lowF l) = dv 256 (l.take 16) + 256 ^ 16 * (l.getD 16 0 % 4) := by
  rw [lowF, dv_append, List.length_take, Nat.min_eq_left (by omega)]
  simp [dv]
theorem low_bd {l : List Nat} (hd : dlt 256 l) (h : 17 ≤ l.length) : dv 256 (lowF l) < 1361129467683753853853498429727072845824 := by
  have := take16 hd (by omega)
  rw [low_v h]
  simp only [Nat.reducePow] at *
  omega
theorem split_v {l : List Nat} (h : 17 ≤ l.length) : dv 256 (lowF l) + 1361129467683753853853498429727072845824 * dv 256 (highL l (l.length - 16)) = dv 256 l := by
  have ht := high_tele l (l.length - 16)
  have h0 : l.getD (16 + (l.length - 16)) 0 = 0 := getD_out (by omega)
  rw [h0, List.take_of_length_le (by rw [List.length_drop]; omega)] at ht
  have hs : dv 256 l = dv 256 (l.take 16) + 256 ^ 16 * dv 256 (l.drop 16) := by
    conv => lhs; rw [← List.take_append_drop 16 l]
    rw [dv_append, List.length_take, Nat.min_eq_left (by omega)]
  rw [low_v h, hs]
  simp only [Nat.reducePow] at *
  omega
theorem more_no (l : List Nat) : ∀ m, moreB l m = false → dv 256 (highL l m) = 0
  | 0, _ => rfl
  | m + 1, h => by
    simp only [moreB, Bool.or_eq_false_iff] at h
    have h1 := more_no l m h.1
    have h2 := of_decide_eq_false h.2
    have h3 : nAt l m = 0 := by omega
    rw [highL_succ, dv_append, h1]
    simp [dv, h3]
theorem more_yes (l : List Nat) : ∀ m, moreB l m = true → 0 < dv 256 (highL l m)
  | 0, h => by cases h
  | m + 1, h => by
    simp only [moreB, Bool.or_eq_true] at h
    rw [highL_succ, dv_append]
    have hp : 0 < 256 ^ (highL l m).length := Nat.pow_pos (by decide)
    rcases h with h | h
    · have := more_yes l m h; omega
    · have h2 := of_decide_eq_true h
      simp only [dv, Nat.mul_zero, Nat.add_zero]
      exact Nat.lt_of_lt_of_le (Nat.mul_pos hp h2) (Nat.le_add_left _ _)
def nextL (l : List Nat) : List Nat := addL 256 (lowF l) (timesL 256 (highL l (l.length - 16)) [5])
theorem five_lt : dlt 256 [5] := dlt_mk (by decide) (dlt_nil (by decide))
theorem next_spec {l : List Nat} (hd : dlt 256 l) (h : 17 ≤ l.length) (h' : l.length ≤ 100) : dlt 256 (nextL l) ∧ 17 ≤ (nextL l).length ∧ (nextL l).length ≤ 100 ∧ dv 256 (nextL l) % 1361129467683753853853498429727072845819 = dv 256 l % 1361129467683753853853498429727072845819 ∧ (moreB l (l.length - 16) = true → dv 256 (nextL l) < dv 256 l) := by
  have hl := low_lt hd
  have ht := timesL_lt (by decide : 1 < 256) (highL_lt hd (l.length - 16)) five_lt
  have hv := addL_v (by decide : 1 < 256) hl ht
  rw [timesL_v] at hv
  have e5 : dv 256 [5] = 5 := rfl
  rw [e5] at hv
  have hs := split_v h
  have hlen := addLen_bd 256 (lowF l) (timesL 256 (highL l (l.length - 16)) [5])
  rw [timesL_len, highL_len, low_len h] at hlen
  have e1 : [5].length = 1 := rfl
  rw [e1] at hlen
  have hn : (nextL l).length = addLen 256 (lowF l) (timesL 256 (highL l (l.length - 16)) [5]) := addL_len _ _ _
  refine ⟨addL_lt (by decide) _ _, by omega, by omega, ?_, fun hm => ?_⟩
  · rw [← hs]
    show dv 256 (nextL l) % _ = _
    rw [show dv 256 (nextL l) = dv 256 (lowF l) + dv 256 (highL l (l.length - 16)) * 5 from hv]
    have e : dv 256 (lowF l) + 1361129467683753853853498429727072845824 * dv 256 (highL l (l.length - 16)) = dv 256 (lowF l) + dv 256 (highL l (l.length - 16)) * 5 + 1361129467683753853853498429727072845819 * dv 256 (highL l (l.length - 16)) := by omega
    rw [e, Nat.add_mul_mod_self_left]
  · have := more_yes l _ hm
    rw [show dv 256 (nextL l) = dv 256 (lowF l) + dv 256 (highL l (l.length - 16)) * 5 from hv, ← hs]
    omega
def fiveL (w : List Nat) : List Nat := addL 256 w [5]
theorem digit_at {l : List Nat} (hd : dlt 256 l) (h : l.length = 17) : l.getD 16 0 = dv 256 l / 256 ^ 16 := by
  have ht := take16 hd (by omega)
  have hs := dv_take 256 l 16
  rw [dv_all 256 l 17 (by omega)] at hs
  rw [hs]
  simp only [Nat.reducePow] at *
  omega
theorem five_spec {w : List Nat} (hd : dlt 256 w) (h : w.length = 17) (hv : dv 256 w < 1361129467683753853853498429727072845824) : (fiveL w).length = 17 ∧ dv 256 (fiveL w) = dv 256 w + 5 ∧ dlt 256 (fiveL w) := by
  have h1 := addL_v (by decide : 1 < 256) hd five_lt
  have e5 : dv 256 [5] = 5 := rfl
  rw [e5] at h1
  refine ⟨?_, h1, addL_lt (by decide) _ _⟩
  show (addL 256 w [5]).length = 17
  rw [addL_len]
  have hm : max w.length [5].length = 17 := by rw [h]; rfl
  unfold addLen
  rw [hm]
  have hg := addG_v 256 w [5] 17
  rw [dv_all 256 w 17 (by omega), dv_all 256 [5] 17 (by decide), e5] at hg
  rw [if_pos]
  rcases Nat.eq_zero_or_pos (addG 256 w [5] 17).2 with h0 | h0
  · exact h0
  · have : 256 ^ 17 ≤ (addG 256 w [5] 17).2 * 256 ^ 17 := Nat.le_mul_of_pos_left _ h0
    simp only [Nat.reducePow] at *
    omega
theorem red_low {a l : List Nat} (hd : dlt 256 l) (h : 17 ≤ l.length) (hm : moreB l (l.length - 16) = false) (hv : dv 256 l % 1361129467683753853853498429727072845819 = dv 256 a % 1361129467683753853853498429727072845819) (h3 : (fiveL (lowF l)).getD 16 0 ≤ 3) : lowF l = digD 256 17 (dv 256 a % 1361129467683753853853498429727072845819) := by
  have hs := split_v h
  rw [more_no l _ hm, Nat.mul_zero, Nat.add_zero] at hs
  obtain ⟨f1, f2, f3⟩ := five_spec (low_lt hd) (low_len h) (low_bd hd h)
  rw [digit_at f3 f1, f2] at h3
  have hlt : dv 256 (lowF l) < 1361129467683753853853498429727072845819 := by
    simp only [Nat.reducePow] at h3
    omega
  have := dig_eq (by decide : 0 < 256) (low_lt hd)
  rw [low_len h] at this
  rw [this, ← hv, ← hs, Nat.mod_eq_of_lt hlt]
theorem red_high {a l : List Nat} (hd : dlt 256 l) (h : 17 ≤ l.length) (hm : moreB l (l.length - 16) = false) (hv : dv 256 l % 1361129467683753853853498429727072845819 = dv 256 a % 1361129467683753853853498429727072845819) (h3 : 3 < (fiveL (lowF l)).getD 16 0) : (fiveL (lowF l)).set 16 ((fiveL (lowF l)).getD 16 0 - 4) = digD 256 17 (dv 256 a % 1361129467683753853853498429727072845819) := by
  have hs := split_v h
  rw [more_no l _ hm, Nat.mul_zero, Nat.add_zero] at hs
  obtain ⟨f1, f2, f3⟩ := five_spec (low_lt hd) (low_len h) (low_bd hd h)
  have hb := low_bd hd h
  have hst := dv_set 256 (fiveL (lowF l)) 16 ((fiveL (lowF l)).getD 16 0 - 4) (by omega)
  have hd16 := digit_at f3 f1
  have hlt := f3 16
  have hset : dlt 256 ((fiveL (lowF l)).set 16 ((fiveL (lowF l)).getD 16 0 - 4)) := dlt_set f3 _ _ (by omega)
  refine dv_inj hset (digD_lt (by decide) _ _) (by rw [List.length_set, f1, digD_len]) ?_
  rw [digD_v, ← hv, ← hs]
  rw [f2] at hst hd16
  generalize (fiveL (lowF l)).getD 16 0 = x at *
  generalize dv 256 (lowF l) = W at *
  generalize dv 256 ((fiveL (lowF l)).set 16 (x - 4)) = R at *
  simp only [Nat.reducePow] at *
  have hge : 1361129467683753853853498429727072845819 ≤ W := by omega
  rw [Nat.mod_eq_sub_mod hge, Nat.mod_eq_of_lt (by omega), Nat.mod_eq_of_lt (by omega)]
  omega
def redL (a : List Nat) : List Nat := digD 256 17 (dv 256 a % 1361129467683753853853498429727072845819)
def redOut (a : List Nat) (wa : Bool) : Option (List Nat) → St
  | none => ⟨[(0, .c (.one (.sl 0 0 1 a.length)))], [(0, ⟨.arr Nat natL a, wa⟩)]⟩
  | some l => ⟨[(0, .c (.one (.sl 600 0 1 l.length)))], [(0, ⟨.arr Nat natL a, wa⟩), (600, ⟨.arr Nat natL l, true⟩)]⟩
def redCur (a : List Nat) : Option (List Nat) → List Nat
  | none => a
  | some l => l
def redIn (X : Nat) (H : List (Nat × Ent)) (l : List Nat) : Nat ⊕ Nat → St
  | .inl 0 => ⟨[(0, .c (.one (.sl X 0 1 l.length))), (3, .c (.one (.val (.slice none 0 0)))), (4, .c (.one (.val (.slice none 0 0)))), (5, .c (.one (.bo false))), (6, .c (.one (.num 0)))], H⟩
  | .inl (i + 1) => ⟨[(0, .c (.one (.sl X 0 1 l.length))), (3, .c (.one (.sl 700 0 1 (i + 1)))), (4, .c (.one (.val (.slice none 0 0)))), (5, .c (.one (.bo false))), (6, .c (.one (.num (i + 1 : Nat))))], H ++ [(700, ⟨.arr Nat natL (l.take (i + 1)), true⟩)]⟩
  | .inr m => ⟨[(0, .c (.one (.sl X 0 1 l.length))), (3, .c (.one (.sl 700 0 1 17))), (4, .c (.one (.sl 800 0 1 (m + 1)))), (5, .c (.one (.bo (moreB l (m + 1))))), (6, .c (.one (.num (17 + m : Nat))))], H ++ [(700, ⟨.arr Nat natL (lowF l), true⟩), (800, ⟨.arr Nat natL (highL l (m + 1)), true⟩)]⟩
def redIx : Nat ⊕ Nat → Nat
  | .inl i => i
  | .inr m => 17 + m
def redOkx (l : List Nat) : Nat ⊕ Nat → Prop
  | .inl i => i ≤ 16
  | .inr m => 17 + m ≤ l.length
theorem take_step (l : List Nat) (i : Nat) (h : i < l.length) : l.take (i + 1) = l.take i ++ [l.getD i 0] := by
  rw [List.take_add_one, List.getD_eq_getElem?_getD, List.getElem?_eq_getElem h]; rfl
set_option maxRecDepth 100000 in
theorem dred_tri (a : List Nat) (wa : Bool) (ha : dlt 256 a) (la : a.length ≤ 100) (l0 : 17 ≤ a.length) : Tri Tryz.prog 152 [.one (.sl 0 0 1 a.length)] [(0, ⟨.arr Nat natL a, wa⟩)] (.c (.one (.sl 1 0 1 17))) [(0, ⟨.arr Nat natL a, wa⟩), (1, ⟨.arr Nat natL (redL a), true⟩)] := by
  refine tri_ofx (envR_ok gd5_ok 98 [0]) Tryz.func152 rfl rfl (rs := [.tmp 2]) rfl rfl (by simp [envR]) rfl ?_
  simp only [envR, con0, conN0, conN1, conN2, natsOf_arr, rowOf_arr, natsOf_cells, rowOf_cells, toN, natL_st, natL_d, natL_enc, natL_up, gd5, daddC, dtimesC, retQx, go_sem]
  refine loop_inv (envR_ok gd5_ok 98 [0]) (redOut a wa) (fun x => dlt 256 (redCur a x) ∧ 17 ≤ (redCur a x).length ∧ (redCur a x).length ≤ 100 ∧ dv 256 (redCur a x) % 1361129467683753853853498429727072845819 = dv 256 a % 1361129467683753853853498429727072845819) (fun x => dv 256 (redCur a x)) none [] ⟨ha, l0, la, rfl⟩ ?_ ?_
  · simp only [redOut, go_sem]
    exact ⟨rfl, id⟩
  · rintro x ⟨x1, x2, x3, x4⟩
    rcases x with _ | l
    · simp only [redCur] at x1 x2 x3 x4
      have bA := x1
      have t1 : a.take 1 = [a.getD 0 0] := take_step a 0 (by omega)
      simp only [redOut, envR, con0, conN0, conN1, conN2, natsOf_arr, rowOf_arr, natsOf_cells, rowOf_cells, toN, natL_st, natL_d, natL_enc, natL_up, gd5, daddC, dtimesC, retQx, go_sem]
      refine loop_inv (envR_ok gd5_ok 98 [0]) (redIn 0 [(0, ⟨.arr Nat natL a, wa⟩)] a) (redOkx a) (fun x => a.length - redIx x) (.inl 0) [] (Nat.zero_le _) ?_ ?_
      · simp only [redIn, go_sem]
        exact ⟨rfl, id⟩
      · rintro y hy
        rcases y with i | m
        · simp only [redOkx] at hy
          rcases i with _ | i
          · have c1 : decide ((0 : Int) < (a.length : Int)) = true := decide_eq_true (by omega)
            simp only [redIn, c1, envR, con0, conN0, conN1, conN2, natsOf_arr, rowOf_arr, natsOf_cells, rowOf_cells, toN, natL_st, natL_d, natL_enc, natL_up, gd5, daddC, dtimesC, retQx, go_sem]
            refine ⟨by omega, by omega, again (.inl (0 + 1)) [(700, 80048)] (by simp only [redOkx]; omega) (by simp only [redIx]; omega) ?_⟩
            simp only [redIn, t1, envR, con0, conN0, conN1, conN2, natsOf_arr, rowOf_arr, natsOf_cells, rowOf_cells, toN, natL_st, natL_d, natL_enc, natL_up, gd5, daddC, dtimesC, go_sem]
            exact ⟨rfl, id⟩
          · cases c2 : decide (((i + 1 : Nat) : Int) < 16) with
            | true =>
              have g2 : i + 1 < 16 := by have := of_decide_eq_true c2; omega
              have c1 : decide (((i + 1 : Nat) : Int) < (a.length : Int)) = true := decide_eq_true (by omega)
              have w1 : IntKind.i64.wrap (((i + 1 : Nat) : Int) + 1) = ((i + 1 + 1 : Nat) : Int) := by rw [IntKind.wrap_i64]; omega
              have htl : (a.take (i + 1)).length = i + 1 := by rw [List.length_take]; omega
              have hts := take_step a (i + 1) (by omega)
              simp only [redIn, c1, c2, w1, envR, con0, conN0, conN1, conN2, natsOf_arr, rowOf_arr, natsOf_cells, rowOf_cells, toN, natL_st, natL_d, natL_enc, natL_up, gd5, daddC, dtimesC, retQx, go_sem]
              refine ⟨⟨by omega, by omega⟩, by omega, ⟨htl, by omega, by omega⟩, again (.inl (i + 1 + 1)) [(700, 80048)] (by simp only [redOkx]; omega) (by simp only [redIx]; omega) ?_⟩
              simp only [redIn, hts, envR, con0, conN0, conN1, conN2, natsOf_arr, rowOf_arr, natsOf_cells, rowOf_cells, toN, natL_st, natL_d, natL_enc, natL_up, gd5, daddC, dtimesC, go_sem]
              exact ⟨rfl, id⟩
            | false =>
              obtain rfl : i = 15 := by have := of_decide_eq_false c2; omega
              have c1 : decide ((16 : Int) < (a.length : Int)) = true := decide_eq_true (by omega)
              have b16 := bA 16
              have b17 := bA 17
              have htl : (a.take 16).length = 16 := by rw [List.length_take]; omega
              have u1 : ((a.getD 16 0 : Nat) : Int).tmod 4 = ((a.getD 16 0 % 4 : Nat) : Int) := by rw [show (4 : Int) = ((4 : Nat) : Int) from rfl, ← Int.ofNat_tmod]
              have u2 : IntKind.i64.wrap (((a.getD 16 0 : Nat) : Int).tdiv 4) = ((a.getD 16 0 / 4 : Nat) : Int) := by
                rw [show (4 : Int) = ((4 : Nat) : Int) from rfl, ← Int.ofNat_tdiv, IntKind.wrap_i64]; omega
              have hh1 : highL a 1 = [nAt a 0] := rfl
              have hm1 : moreB a 1 = decide ((0 : Int) < ((nAt a 0 : Nat) : Int)) := by simp [moreB]
              have hlo : lowF a = a.take 16 ++ [a.getD 16 0 % 4] := rfl
              cases c3 : decide ((17 : Int) < (a.length : Int)) with
              | true =>
                have g3 : 17 < a.length := by have := of_decide_eq_true c3; omega
                have u3 : ((a.getD 17 0 : Nat) : Int).tmod 4 = ((a.getD 17 0 % 4 : Nat) : Int) := by rw [show (4 : Int) = ((4 : Nat) : Int) from rfl, ← Int.ofNat_tmod]
                have u4 : IntKind.i64.wrap (((a.getD 17 0 % 4 : Nat) : Int) * 64) = ((a.getD 17 0 % 4 * 64 : Nat) : Int) := by rw [IntKind.wrap_i64]; omega
                have u5 : IntKind.i64.wrap (((a.getD 16 0 / 4 : Nat) : Int) + ((a.getD 17 0 % 4 * 64 : Nat) : Int)) = ((nAt a 0 : Nat) : Int) := by
                  rw [IntKind.wrap_i64]; simp only [nAt, Nat.add_zero, Nat.reduceAdd]; omega
                simp only [redIn, c1, c3, u1, u2, u3, u4, u5, htl, envR, con0, conN0, conN1, conN2, natsOf_arr, rowOf_arr, natsOf_cells, rowOf_cells, toN, natL_st, natL_d, natL_enc, natL_up, gd5, daddC, dtimesC, retQx, go_sem]
                repeat' apply And.intro
                all_goals first
                  | omega
                  | skip
                refine again (Sum.inr 0 : Nat ⊕ Nat) [(700, 100056), (800, 140024)] (by simp only [redOkx]; omega) (by simp only [redIx]; omega) ?_
                simp only [redIn, hm1, hh1, hlo, envR, con0, conN0, conN1, conN2, natsOf_arr, rowOf_arr, natsOf_cells, rowOf_cells, toN, natL_st, natL_d, natL_enc, natL_up, gd5, daddC, dtimesC, go_sem]
                exact ⟨rfl, id⟩
              | false =>
                have z17 := getD_out (l := a) (i := 17) (by have := of_decide_eq_false c3; omega)
                have u5 : ((a.getD 16 0 / 4 : Nat) : Int) = ((nAt a 0 : Nat) : Int) := by
                  simp only [nAt, Nat.add_zero, Nat.reduceAdd, z17]; omega
                simp only [redIn, c1, c3, u1, u2, u5, htl, envR, con0, conN0, conN1, conN2, natsOf_arr, rowOf_arr, natsOf_cells, rowOf_cells, toN, natL_st, natL_d, natL_enc, natL_up, gd5, daddC, dtimesC, retQx, go_sem]
                repeat' apply And.intro
                all_goals first
                  | omega
                  | skip
                refine again (Sum.inr 0 : Nat ⊕ Nat) [(700, 100056), (800, 140024)] (by simp only [redOkx]; omega) (by simp only [redIx]; omega) ?_
                simp only [redIn, hm1, hh1, hlo, envR, con0, conN0, conN1, conN2, natsOf_arr, rowOf_arr, natsOf_cells, rowOf_cells, toN, natL_st, natL_d, natL_enc, natL_up, gd5, daddC, dtimesC, go_sem]
                exact ⟨rfl, id⟩
        · simp only [redOkx] at hy
          have bp := bA (17 + m)
          have bq := bA (17 + m + 1)
          have c2 : decide (((17 + m : Nat) : Int) < 16) = false := decide_eq_false (by omega)
          have c5 : (((17 + m : Nat) : Int) == 16) = false := beq_eq_false_iff_ne.2 (by omega)
          have w1 : IntKind.i64.wrap (((17 + m : Nat) : Int) + 1) = ((17 + m + 1 : Nat) : Int) := by rw [IntKind.wrap_i64]; omega
          have hlw := low_len x2
          have hhl := highL_len a (m + 1)
          cases c1 : decide (((17 + m : Nat) : Int) < (a.length : Int)) with
          | true =>
            have g1 : 17 + m < a.length := by have := of_decide_eq_true c1; omega
            have hn : nAt a (m + 1) = a.getD (17 + m) 0 / 4 + a.getD (17 + m + 1) 0 % 4 * 64 := by
              unfold nAt; rw [show 16 + (m + 1) = 17 + m by omega]
            have u2 : IntKind.i64.wrap (((a.getD (17 + m) 0 : Nat) : Int).tdiv 4) = ((a.getD (17 + m) 0 / 4 : Nat) : Int) := by
              rw [show (4 : Int) = ((4 : Nat) : Int) from rfl, ← Int.ofNat_tdiv, IntKind.wrap_i64]; omega
            have hh1 := highL_succ a (m + 1)
            have hm1 : moreB a (m + 1 + 1) = (moreB a (m + 1) || decide ((0 : Int) < ((nAt a (m + 1) : Nat) : Int))) := by simp [moreB]
            cases c3 : decide (((17 + m + 1 : Nat) : Int) < (a.length : Int)) with
            | true =>
              have g3 : 17 + m + 1 < a.length := by have := of_decide_eq_true c3; omega
              have u3 : ((a.getD (17 + m + 1) 0 : Nat) : Int).tmod 4 = ((a.getD (17 + m + 1) 0 % 4 : Nat) : Int) := by rw [show (4 : Int) = ((4 : Nat) : Int) from rfl, ← Int.ofNat_tmod]
              have u4 : IntKind.i64.wrap (((a.getD (17 + m + 1) 0 % 4 : Nat) : Int) * 64) = ((a.getD (17 + m + 1) 0 % 4 * 64 : Nat) : Int) := by rw [IntKind.wrap_i64]; omega
              have u5 : IntKind.i64.wrap (((a.getD (17 + m) 0 / 4 : Nat) : Int) + ((a.getD (17 + m + 1) 0 % 4 * 64 : Nat) : Int)) = ((nAt a (m + 1) : Nat) : Int) := by
                rw [IntKind.wrap_i64, hn]; omega
              cases hmo : moreB a (m + 1) <;>
              · rw [hmo] at hm1
                simp only [redIn, c1, c2, c3, c5, w1, u2, u3, u4, u5, hmo, envR, con0, conN0, conN1, conN2, natsOf_arr, rowOf_arr, natsOf_cells, rowOf_cells, toN, natL_st, natL_d, natL_enc, natL_up, gd5, daddC, dtimesC, retQx, go_sem]
                repeat' apply And.intro
                all_goals first
                  | omega
                  | skip
                refine again (Sum.inr (m + 1) : Nat ⊕ Nat) [(800, 140024)] (by simp only [redOkx]; omega) (by simp only [redIx]; omega) ?_
                have hidx : 17 + (m + 1) = 17 + m + 1 := rfl
                simp only [redIn, hm1, hh1, hidx, envR, con0, conN0, conN1, conN2, natsOf_arr, rowOf_arr, natsOf_cells, rowOf_cells, toN, natL_st, natL_d, natL_enc, natL_up, gd5, daddC, dtimesC, go_sem]
                exact ⟨rfl, id⟩
            | false =>
              have z17 := getD_out (l := a) (i := 17 + m + 1) (by have := of_decide_eq_false c3; omega)
              have u5 : ((a.getD (17 + m) 0 / 4 : Nat) : Int) = ((nAt a (m + 1) : Nat) : Int) := by
                rw [hn, z17]; omega
              cases hmo : moreB a (m + 1) <;>
              · rw [hmo] at hm1
                simp only [redIn, c1, c2, c3, c5, w1, u2, u5, hmo, envR, con0, conN0, conN1, conN2, natsOf_arr, rowOf_arr, natsOf_cells, rowOf_cells, toN, natL_st, natL_d, natL_enc, natL_up, gd5, daddC, dtimesC, retQx, go_sem]
                repeat' apply And.intro
                all_goals first
                  | omega
                  | skip
                refine again (Sum.inr (m + 1) : Nat ⊕ Nat) [(800, 140024)] (by simp only [redOkx]; omega) (by simp only [redIx]; omega) ?_
                have hidx : 17 + (m + 1) = 17 + m + 1 := rfl
                simp only [redIn, hm1, hh1, hidx, envR, con0, conN0, conN1, conN2, natsOf_arr, rowOf_arr, natsOf_cells, rowOf_cells, toN, natL_st, natL_d, natL_enc, natL_up, gd5, daddC, dtimesC, go_sem]
                exact ⟨rfl, id⟩
          | false =>
            have ge : m + 1 = a.length - 16 := by have := of_decide_eq_false c1; omega
            cases hmo : moreB a (m + 1) with
            | true =>
              obtain ⟨n1, n2, n3, n4, n5⟩ := next_spec bA x2 x3
              have n5 := n5 (by rw [← ge]; exact hmo)
              simp only [redIn, c1, hmo, envR, con0, conN0, conN1, conN2, natsOf_arr, rowOf_arr, natsOf_cells, rowOf_cells, toN, natL_st, natL_d, natL_enc, natL_up, gd5, daddC, dtimesC, retQx, go_sem]
              refine ⟨⟨hhl.symm, highL_lt bA _, five_lt, by rw [hhl]; omega⟩, ⟨hlw.symm, low_lt bA, timesL_lt (by decide) (highL_lt bA _) five_lt, by omega, by rw [timesL_len, hhl]; simp only [List.length_cons, List.length_nil]; omega, by omega⟩, again (some (nextL a)) [(600, 180032)] ⟨n1, n2, n3, n4⟩ n5 ?_⟩
              simp only [redOut, nextL, ← ge, envR, con0, conN0, conN1, conN2, natsOf_arr, rowOf_arr, natsOf_cells, rowOf_cells, toN, natL_st, natL_d, natL_enc, natL_up, gd5, daddC, dtimesC, go_sem]
              exact ⟨rfl, id⟩
            | false =>
              obtain ⟨f1, f2, f3⟩ := five_spec (low_lt bA) hlw (low_bd bA x2)
              have f1 : (addL 256 (lowF a) [5]).length = 17 := f1
              have rl := red_low (a := a) bA x2 (by rw [← ge]; exact hmo) rfl
              have rh := red_high (a := a) bA x2 (by rw [← ge]; exact hmo) rfl
              unfold fiveL at rl rh
              obtain ⟨v, hv⟩ : ∃ v, v = (addL 256 (lowF a) [5]).getD 16 0 := ⟨_, rfl⟩
              have bv : v < 256 := by rw [hv]; exact f3 16
              rw [← hv] at rl rh
              simp only [redIn, c1, hmo, envR, con0, conN0, conN1, conN2, natsOf_arr, rowOf_arr, natsOf_cells, rowOf_cells, toN, natL_st, natL_d, natL_enc, natL_up, gd5, daddC, dtimesC, retQx, go_sem]
              refine loop_rounds (envR_ok gd5_ok 98 [0]) 1 ?_
              cases c4 : decide ((3 : Int) < (v : Int)) with
              | true =>
                have w4 : IntKind.i64.wrap ((v : Int) - 4) = ((v - 4 : Nat) : Int) := by rw [IntKind.wrap_i64]; have := of_decide_eq_true c4; omega
                have rh := rh (by have := of_decide_eq_true c4; omega)
                simp only [c4, w4, hlw, f1, ← hv, envR, con0, conN0, conN1, conN2, natsOf_arr, rowOf_arr, natsOf_cells, rowOf_cells, toN, natL_st, natL_d, natL_enc, natL_up, gd5, daddC, dtimesC, retQx, go_sem]
                refine ⟨⟨low_lt bA, five_lt⟩, endX [(1, 210016)] ?_⟩
                simp only [rh, redL, envR, con0, conN0, conN1, conN2, natsOf_arr, rowOf_arr, natsOf_cells, rowOf_cells, toN, natL_st, natL_d, natL_enc, natL_up, gd5, daddC, dtimesC, go_sem]
                exact ⟨rfl, id⟩
              | false =>
                have rl := rl (by have := of_decide_eq_false c4; omega)
                simp only [c4, hlw, f1, ← hv, envR, con0, conN0, conN1, conN2, natsOf_arr, rowOf_arr, natsOf_cells, rowOf_cells, toN, natL_st, natL_d, natL_enc, natL_up, gd5, daddC, dtimesC, retQx, go_sem]
                refine ⟨⟨low_lt bA, five_lt⟩, endX [(1, 700)] ?_⟩
                simp only [← rl, redL, envR, con0, conN0, conN1, conN2, natsOf_arr, rowOf_arr, natsOf_cells, rowOf_cells, toN, natL_st, natL_d, natL_enc, natL_up, gd5, daddC, dtimesC, go_sem]
                exact ⟨rfl, id⟩
    · simp only [redCur] at x1 x2 x3 x4
      have bA := x1
      have t1 : l.take 1 = [l.getD 0 0] := take_step l 0 (by omega)
      simp only [redOut, envR, con0, conN0, conN1, conN2, natsOf_arr, rowOf_arr, natsOf_cells, rowOf_cells, toN, natL_st, natL_d, natL_enc, natL_up, gd5, daddC, dtimesC, retQx, go_sem]
      refine loop_inv (envR_ok gd5_ok 98 [0]) (redIn 600 [(0, ⟨.arr Nat natL a, wa⟩), (600, ⟨.arr Nat natL l, true⟩)] l) (redOkx l) (fun x => l.length - redIx x) (.inl 0) [] (Nat.zero_le _) ?_ ?_
      · simp only [redIn, go_sem]
        exact ⟨rfl, id⟩
      · rintro y hy
        rcases y with i | m
        · simp only [redOkx] at hy
          rcases i with _ | i
          · have c1 : decide ((0 : Int) < (l.length : Int)) = true := decide_eq_true (by omega)
            simp only [redIn, c1, envR, con0, conN0, conN1, conN2, natsOf_arr, rowOf_arr, natsOf_cells, rowOf_cells, toN, natL_st, natL_d, natL_enc, natL_up, gd5, daddC, dtimesC, retQx, go_sem]
            refine ⟨by omega, by omega, again (.inl (0 + 1)) [(700, 80048)] (by simp only [redOkx]; omega) (by simp only [redIx]; omega) ?_⟩
            simp only [redIn, t1, envR, con0, conN0, conN1, conN2, natsOf_arr, rowOf_arr, natsOf_cells, rowOf_cells, toN, natL_st, natL_d, natL_enc, natL_up, gd5, daddC, dtimesC, go_sem]
            exact ⟨rfl, id⟩
          · cases c2 : decide (((i + 1 : Nat) : Int) < 16) with
            | true =>
              have g2 : i + 1 < 16 := by have := of_decide_eq_true c2; omega
              have c1 : decide (((i + 1 : Nat) : Int) < (l.length : Int)) = true := decide_eq_true (by omega)
              have w1 : IntKind.i64.wrap (((i + 1 : Nat) : Int) + 1) = ((i + 1 + 1 : Nat) : Int) := by rw [IntKind.wrap_i64]; omega
              have htl : (l.take (i + 1)).length = i + 1 := by rw [List.length_take]; omega
              have hts := take_step l (i + 1) (by omega)
              simp only [redIn, c1, c2, w1, envR, con0, conN0, conN1, conN2, natsOf_arr, rowOf_arr, natsOf_cells, rowOf_cells, toN, natL_st, natL_d, natL_enc, natL_up, gd5, daddC, dtimesC, retQx, go_sem]
              refine ⟨⟨by omega, by omega⟩, by omega, ⟨htl, by omega, by omega⟩, again (.inl (i + 1 + 1)) [(700, 80048)] (by simp only [redOkx]; omega) (by simp only [redIx]; omega) ?_⟩
              simp only [redIn, hts, envR, con0, conN0, conN1, conN2, natsOf_arr, rowOf_arr, natsOf_cells, rowOf_cells, toN, natL_st, natL_d, natL_enc, natL_up, gd5, daddC, dtimesC, go_sem]
              exact ⟨rfl, id⟩
            | false =>
              obtain rfl : i = 15 := by have := of_decide_eq_false c2; omega
              have c1 : decide ((16 : Int) < (l.length : Int)) = true := decide_eq_true (by omega)
              have b16 := bA 16
              have b17 := bA 17
              have htl : (l.take 16).length = 16 := by rw [List.length_take]; omega
              have u1 : ((l.getD 16 0 : Nat) : Int).tmod 4 = ((l.getD 16 0 % 4 : Nat) : Int) := by rw [show (4 : Int) = ((4 : Nat) : Int) from rfl, ← Int.ofNat_tmod]
              have u2 : IntKind.i64.wrap (((l.getD 16 0 : Nat) : Int).tdiv 4) = ((l.getD 16 0 / 4 : Nat) : Int) := by
                rw [show (4 : Int) = ((4 : Nat) : Int) from rfl, ← Int.ofNat_tdiv, IntKind.wrap_i64]; omega
              have hh1 : highL l 1 = [nAt l 0] := rfl
              have hm1 : moreB l 1 = decide ((0 : Int) < ((nAt l 0 : Nat) : Int)) := by simp [moreB]
              have hlo : lowF l = l.take 16 ++ [l.getD 16 0 % 4] := rfl
              cases c3 : decide ((17 : Int) < (l.length : Int)) with
              | true =>
                have g3 : 17 < l.length := by have := of_decide_eq_true c3; omega
                have u3 : ((l.getD 17 0 : Nat) : Int).tmod 4 = ((l.getD 17 0 % 4 : Nat) : Int) := by rw [show (4 : Int) = ((4 : Nat) : Int) from rfl, ← Int.ofNat_tmod]
                have u4 : IntKind.i64.wrap (((l.getD 17 0 % 4 : Nat) : Int) * 64) = ((l.getD 17 0 % 4 * 64 : Nat) : Int) := by rw [IntKind.wrap_i64]; omega
                have u5 : IntKind.i64.wrap (((l.getD 16 0 / 4 : Nat) : Int) + ((l.getD 17 0 % 4 * 64 : Nat) : Int)) = ((nAt l 0 : Nat) : Int) := by
                  rw [IntKind.wrap_i64]; simp only [nAt, Nat.add_zero, Nat.reduceAdd]; omega
                simp only [redIn, c1, c3, u1, u2, u3, u4, u5, htl, envR, con0, conN0, conN1, conN2, natsOf_arr, rowOf_arr, natsOf_cells, rowOf_cells, toN, natL_st, natL_d, natL_enc, natL_up, gd5, daddC, dtimesC, retQx, go_sem]
                repeat' apply And.intro
                all_goals first
                  | omega
                  | skip
                refine again (Sum.inr 0 : Nat ⊕ Nat) [(700, 100056), (800, 140024)] (by simp only [redOkx]; omega) (by simp only [redIx]; omega) ?_
                simp only [redIn, hm1, hh1, hlo, envR, con0, conN0, conN1, conN2, natsOf_arr, rowOf_arr, natsOf_cells, rowOf_cells, toN, natL_st, natL_d, natL_enc, natL_up, gd5, daddC, dtimesC, go_sem]
                exact ⟨rfl, id⟩
              | false =>
                have z17 := getD_out (l := l) (i := 17) (by have := of_decide_eq_false c3; omega)
                have u5 : ((l.getD 16 0 / 4 : Nat) : Int) = ((nAt l 0 : Nat) : Int) := by
                  simp only [nAt, Nat.add_zero, Nat.reduceAdd, z17]; omega
                simp only [redIn, c1, c3, u1, u2, u5, htl, envR, con0, conN0, conN1, conN2, natsOf_arr, rowOf_arr, natsOf_cells, rowOf_cells, toN, natL_st, natL_d, natL_enc, natL_up, gd5, daddC, dtimesC, retQx, go_sem]
                repeat' apply And.intro
                all_goals first
                  | omega
                  | skip
                refine again (Sum.inr 0 : Nat ⊕ Nat) [(700, 100056), (800, 140024)] (by simp only [redOkx]; omega) (by simp only [redIx]; omega) ?_
                simp only [redIn, hm1, hh1, hlo, envR, con0, conN0, conN1, conN2, natsOf_arr, rowOf_arr, natsOf_cells, rowOf_cells, toN, natL_st, natL_d, natL_enc, natL_up, gd5, daddC, dtimesC, go_sem]
                exact ⟨rfl, id⟩
        · simp only [redOkx] at hy
          have bp := bA (17 + m)
          have bq := bA (17 + m + 1)
          have c2 : decide (((17 + m : Nat) : Int) < 16) = false := decide_eq_false (by omega)
          have c5 : (((17 + m : Nat) : Int) == 16) = false := beq_eq_false_iff_ne.2 (by omega)
          have w1 : IntKind.i64.wrap (((17 + m : Nat) : Int) + 1) = ((17 + m + 1 : Nat) : Int) := by rw [IntKind.wrap_i64]; omega
          have hlw := low_len x2
          have hhl := highL_len l (m + 1)
          cases c1 : decide (((17 + m : Nat) : Int) < (l.length : Int)) with
          | true =>
            have g1 : 17 + m < l.length := by have := of_decide_eq_true c1; omega
            have hn : nAt l (m + 1) = l.getD (17 + m) 0 / 4 + l.getD (17 + m + 1) 0 % 4 * 64 := by
              unfold nAt; rw [show 16 + (m + 1) = 17 + m by omega]
            have u2 : IntKind.i64.wrap (((l.getD (17 + m) 0 : Nat) : Int).tdiv 4) = ((l.getD (17 + m) 0 / 4 : Nat) : Int) := by
              rw [show (4 : Int) = ((4 : Nat) : Int) from rfl, ← Int.ofNat_tdiv, IntKind.wrap_i64]; omega
            have hh1 := highL_succ l (m + 1)
            have hm1 : moreB l (m + 1 + 1) = (moreB l (m + 1) || decide ((0 : Int) < ((nAt l (m + 1) : Nat) : Int))) := by simp [moreB]
            cases c3 : decide (((17 + m + 1 : Nat) : Int) < (l.length : Int)) with
            | true =>
              have g3 : 17 + m + 1 < l.length := by have := of_decide_eq_true c3; omega
              have u3 : ((l.getD (17 + m + 1) 0 : Nat) : Int).tmod 4 = ((l.getD (17 + m + 1) 0 % 4 : Nat) : Int) := by rw [show (4 : Int) = ((4 : Nat) : Int) from rfl, ← Int.ofNat_tmod]
              have u4 : IntKind.i64.wrap (((l.getD (17 + m + 1) 0 % 4 : Nat) : Int) * 64) = ((l.getD (17 + m + 1) 0 % 4 * 64 : Nat) : Int) := by rw [IntKind.wrap_i64]; omega
              have u5 : IntKind.i64.wrap (((l.getD (17 + m) 0 / 4 : Nat) : Int) + ((l.getD (17 + m + 1) 0 % 4 * 64 : Nat) : Int)) = ((nAt l (m + 1) : Nat) : Int) := by
                rw [IntKind.wrap_i64, hn]; omega
              cases hmo : moreB l (m + 1) <;>
              · rw [hmo] at hm1
                simp only [redIn, c1, c2, c3, c5, w1, u2, u3, u4, u5, hmo, envR, con0, conN0, conN1, conN2, natsOf_arr, rowOf_arr, natsOf_cells, rowOf_cells, toN, natL_st, natL_d, natL_enc, natL_up, gd5, daddC, dtimesC, retQx, go_sem]
                repeat' apply And.intro
                all_goals first
                  | omega
                  | skip
                refine again (Sum.inr (m + 1) : Nat ⊕ Nat) [(800, 140024)] (by simp only [redOkx]; omega) (by simp only [redIx]; omega) ?_
                have hidx : 17 + (m + 1) = 17 + m + 1 := rfl
                simp only [redIn, hm1, hh1, hidx, envR, con0, conN0, conN1, conN2, natsOf_arr, rowOf_arr, natsOf_cells, rowOf_cells, toN, natL_st, natL_d, natL_enc, natL_up, gd5, daddC, dtimesC, go_sem]
                exact ⟨rfl, id⟩
            | false =>
              have z17 := getD_out (l := l) (i := 17 + m + 1) (by have := of_decide_eq_false c3; omega)
              have u5 : ((l.getD (17 + m) 0 / 4 : Nat) : Int) = ((nAt l (m + 1) : Nat) : Int) := by
                rw [hn, z17]; omega
              cases hmo : moreB l (m + 1) <;>
              · rw [hmo] at hm1
                simp only [redIn, c1, c2, c3, c5, w1, u2, u5, hmo, envR, con0, conN0, conN1, conN2, natsOf_arr, rowOf_arr, natsOf_cells, rowOf_cells, toN, natL_st, natL_d, natL_enc, natL_up, gd5, daddC, dtimesC, retQx, go_sem]
                repeat' apply And.intro
                all_goals first
                  | omega
                  | skip
                refine again (Sum.inr (m + 1) : Nat ⊕ Nat) [(800, 140024)] (by simp only [redOkx]; omega) (by simp only [redIx]; omega) ?_
                have hidx : 17 + (m + 1) = 17 + m + 1 := rfl
                simp only [redIn, hm1, hh1, hidx, envR, con0, conN0, conN1, conN2, natsOf_arr, rowOf_arr, natsOf_cells, rowOf_cells, toN, natL_st, natL_d, natL_enc, natL_up, gd5, daddC, dtimesC, go_sem]
                exact ⟨rfl, id⟩
          | false =>
            have ge : m + 1 = l.length - 16 := by have := of_decide_eq_false c1; omega
            cases hmo : moreB l (m + 1) with
            | true =>
              obtain ⟨n1, n2, n3, n4, n5⟩ := next_spec bA x2 x3
              have n5 := n5 (by rw [← ge]; exact hmo)
              simp only [redIn, c1, hmo, envR, con0, conN0, conN1, conN2, natsOf_arr, rowOf_arr, natsOf_cells, rowOf_cells, toN, natL_st, natL_d, natL_enc, natL_up, gd5, daddC, dtimesC, retQx, go_sem]
              refine ⟨⟨hhl.symm, highL_lt bA _, five_lt, by rw [hhl]; omega⟩, ⟨hlw.symm, low_lt bA, timesL_lt (by decide) (highL_lt bA _) five_lt, by omega, by rw [timesL_len, hhl]; simp only [List.length_cons, List.length_nil]; omega, by omega⟩, again (some (nextL l)) [(600, 180032)] ⟨n1, n2, n3, n4.trans x4⟩ n5 ?_⟩
              simp only [redOut, nextL, ← ge, envR, con0, conN0, conN1, conN2, natsOf_arr, rowOf_arr, natsOf_cells, rowOf_cells, toN, natL_st, natL_d, natL_enc, natL_up, gd5, daddC, dtimesC, go_sem]
              exact ⟨rfl, id⟩
            | false =>
              obtain ⟨f1, f2, f3⟩ := five_spec (low_lt bA) hlw (low_bd bA x2)
              have f1 : (addL 256 (lowF l) [5]).length = 17 := f1
              have rl := red_low (a := a) bA x2 (by rw [← ge]; exact hmo) x4
              have rh := red_high (a := a) bA x2 (by rw [← ge]; exact hmo) x4
              unfold fiveL at rl rh
              obtain ⟨v, hv⟩ : ∃ v, v = (addL 256 (lowF l) [5]).getD 16 0 := ⟨_, rfl⟩
              have bv : v < 256 := by rw [hv]; exact f3 16
              rw [← hv] at rl rh
              simp only [redIn, c1, hmo, envR, con0, conN0, conN1, conN2, natsOf_arr, rowOf_arr, natsOf_cells, rowOf_cells, toN, natL_st, natL_d, natL_enc, natL_up, gd5, daddC, dtimesC, retQx, go_sem]
              refine loop_rounds (envR_ok gd5_ok 98 [0]) 1 ?_
              cases c4 : decide ((3 : Int) < (v : Int)) with
              | true =>
                have w4 : IntKind.i64.wrap ((v : Int) - 4) = ((v - 4 : Nat) : Int) := by rw [IntKind.wrap_i64]; have := of_decide_eq_true c4; omega
                have rh := rh (by have := of_decide_eq_true c4; omega)
                simp only [c4, w4, hlw, f1, ← hv, envR, con0, conN0, conN1, conN2, natsOf_arr, rowOf_arr, natsOf_cells, rowOf_cells, toN, natL_st, natL_d, natL_enc, natL_up, gd5, daddC, dtimesC, retQx, go_sem]
                refine ⟨⟨low_lt bA, five_lt⟩, endX [(1, 210016)] ?_⟩
                simp only [rh, redL, envR, con0, conN0, conN1, conN2, natsOf_arr, rowOf_arr, natsOf_cells, rowOf_cells, toN, natL_st, natL_d, natL_enc, natL_up, gd5, daddC, dtimesC, go_sem]
                exact ⟨rfl, id⟩
              | false =>
                have rl := rl (by have := of_decide_eq_false c4; omega)
                simp only [c4, hlw, f1, ← hv, envR, con0, conN0, conN1, conN2, natsOf_arr, rowOf_arr, natsOf_cells, rowOf_cells, toN, natL_st, natL_d, natL_enc, natL_up, gd5, daddC, dtimesC, retQx, go_sem]
                refine ⟨⟨low_lt bA, five_lt⟩, endX [(1, 700)] ?_⟩
                simp only [← rl, redL, envR, con0, conN0, conN1, conN2, natsOf_arr, rowOf_arr, natsOf_cells, rowOf_cells, toN, natL_st, natL_d, natL_enc, natL_up, gd5, daddC, dtimesC, go_sem]
                exact ⟨rfl, id⟩
end Go.Proofs.YtahiopdkekkibaaGreatDoor.FC

/-
  Layer 6: the document's tag, its value.
-/
namespace Go.Proofs.YtahiopdkekkibaaGreatDoor.FC
open Go Go.RowKit
set_option maxHeartbeats 4000000
set_option linter.unusedSimpArgs false
set_option linter.unusedVariables false
theorem leN_dv : ∀ (s : List UInt8), dv 256 (natsB s) = leN s
  | [] => rfl
  | x :: s => by
    show x.toNat + 256 * dv 256 (natsB s) = _
    rw [leN_dv s]; rfl
theorem natsB_lt : ∀ (s : List UInt8), dlt 256 (natsB s)
  | [] => dlt_nil (by decide)
  | x :: s => dlt_mk x.toNat_lt (natsB_lt s)
theorem natsB_one (s : List UInt8) : natsB s ++ [1] = natsB (s ++ [1]) := by simp [natsB]
def rD (k : List UInt8) : List Nat := natsB (clampL (k.take 16))
def blkL (s : List UInt8) (q : Nat) : List UInt8 := (s.drop (16 * q)).take 16
def hD (k s : List UInt8) : Nat → List Nat
  | 0 => [0]
  | q + 1 => redL (timesL 256 (addL 256 (hD k s q) (natsB (blkL s q) ++ [1])) (rD k))
theorem redL_lt (a : List Nat) : dlt 256 (redL a) := digD_lt (by decide) _ _
theorem redL_len (a : List Nat) : (redL a).length = 17 := digD_len _ _ _
theorem redL_v (a : List Nat) : dv 256 (redL a) = dv 256 a % 1361129467683753853853498429727072845819 := by
  rw [redL, digD_v]
  have := Nat.mod_lt (dv 256 a) (show 0 < 1361129467683753853853498429727072845819 by decide)
  exact Nat.mod_eq_of_lt (Nat.lt_of_lt_of_le this (by decide))
theorem hD_spec (k s : List UInt8) : ∀ q, dlt 256 (hD k s q) ∧ 0 < (hD k s q).length ∧ (hD k s q).length ≤ 17
  | 0 => ⟨dlt_mk (by decide) (dlt_nil (by decide)), by show 0 < 1; omega, by show 1 ≤ 17; omega⟩
  | q + 1 => ⟨redL_lt _, by rw [hD, redL_len]; omega, by rw [hD, redL_len]; omega⟩
theorem keyR_lt (k : List UInt8) (hk : k.length = 32) : (keyR k).lt 134217728 ∧ (keyR k).v % p1305 = dv 256 (rD k) % p1305 := by
  have hl : (clampL (k.take 16)).length ≤ 17 := by rw [clampL_len, List.length_take]; omega
  obtain ⟨h1, h2⟩ := limbsN_spec (clampL (k.take 16)) hl
  exact ⟨h2, by rw [rD, leN_dv]; exact h1⟩
theorem tag_val (k s : List UInt8) (hk : k.length = 32) : ∀ q, (tagN (keyR k) s q).v % p1305 = dv 256 (hD k s q) ∧ (tagN (keyR k) s q).lt 134217728
  | 0 => by
    have h0 : tagN (keyR k) s 0 = zero5 := rfl
    have h1 : zero5.v = 0 := rfl
    rw [h0, h1, Nat.zero_mod]
    exact ⟨rfl, by unfold N5.lt; decide⟩
  | q + 1 => by
    obtain ⟨ih1, ih2⟩ := tag_val k s hk q
    obtain ⟨r1, r2⟩ := keyR_lt k hk
    have hb : (blkL s q).length ≤ 16 := by unfold blkL; rw [List.length_take]; omega
    obtain ⟨b1, b2⟩ := limbsN_spec (blkL s q ++ [1]) (by rw [List.length_append]; simp only [List.length_cons, List.length_nil]; omega)
    obtain ⟨c1, c2⟩ := pplus_spec _ _ ih2 b2
    obtain ⟨d1, d2⟩ := ptimes_spec _ _ c2 r1
    have hs := (hD_spec k s q).1
    refine ⟨?_, d2⟩
    rw [hD, redL_v, timesL_v, addL_v (by decide) hs (by rw [natsB_one]; exact natsB_lt _), natsB_one, leN_dv]
    show (ptimes (pplus (tagN (keyR k) s q) (limbsN (blkL s q ++ [1]))) (keyR k)).v % p1305 = _ % p1305
    rw [d1, Nat.mul_mod, c1, r2, Nat.add_mod, b1, ← Nat.add_mod, ← Nat.mul_mod]
    conv => lhs; rw [Nat.mul_mod, Nat.add_mod, ih1]
    conv => rhs; rw [Nat.mul_mod, Nat.add_mod]
    have hlt : dv 256 (hD k s q) % p1305 = dv 256 (hD k s q) := by rw [← ih1]; exact Nat.mod_mod _ _
    rw [hlt]
def hF (k s : List UInt8) : List Nat := addL 256 (hD k s ((s.length + 15) / 16)) (natsB (k.drop 16))
def outR (k s : List UInt8) (n : Nat) : List UInt8 := (List.range n).map fun i => UInt8.ofNat ((hF k s).getD i 0)
theorem outR_len (k s : List UInt8) (n : Nat) : (outR k s n).length = n := by simp [outR]
theorem outR_succ (k s : List UInt8) (n : Nat) : outR k s (n + 1) = outR k s n ++ [UInt8.ofNat ((hF k s).getD n 0)] := by simp [outR, List.range_succ]
theorem hF_lt (k s : List UInt8) : dlt 256 (hF k s) := addL_lt (by decide) _ _
theorem outR_v (k s : List UInt8) : ∀ n, leN (outR k s n) = dv 256 ((hF k s).take n)
  | 0 => rfl
  | n + 1 => by
    have h := hF_lt k s n
    rw [outR_succ, leN_append, outR_len, outR_v k s n, dv_take]
    have e : leN [UInt8.ofNat ((hF k s).getD n 0)] = (hF k s).getD n 0 := by
      simp only [leN, Nat.mul_zero, Nat.add_zero, UInt8.toNat_ofNat']
      exact Nat.mod_eq_of_lt h
    rw [e, Nat.pow_mul, show (2 : Nat) ^ 8 = 256 from rfl, Nat.mul_comm]
theorem hF_len (k s : List UInt8) (hk : k.length = 32) : 16 ≤ (hF k s).length := by
  have h := (addLen_bd 256 (hD k s ((s.length + 15) / 16)) (natsB (k.drop 16))).1
  rw [natsB_len, List.length_drop] at h
  rw [hF, addL_len]
  omega
theorem tag_ref (k s : List UInt8) (hk : k.length = 32) : outR k s 16 = tagL k s := by
  refine leN_inj _ _ (by rw [outR_len, tagL_len]) ?_
  obtain ⟨t1, t2⟩ := tag_val k s hk ((s.length + 15) / 16)
  obtain ⟨p1, p2⟩ := psmall_spec _ t2
  have hd : (k.drop 16).length = 16 := by rw [List.length_drop]; omega
  have hb := addB_v _ p2 (k.drop 16) hd 16 (Nat.le_refl _)
  rw [p1, t1, List.take_of_length_le (by omega)] at hb
  have hlt := leN_lt (addB (psmall (tagN (keyR k) s ((s.length + 15) / 16))) (k.drop 16) 16)
  rw [addB_len'] at hlt
  have hv : dv 256 (hF k s) = dv 256 (hD k s ((s.length + 15) / 16)) + leN (k.drop 16) := by
    rw [hF, addL_v (by decide) (hD_spec k s _).1 (natsB_lt _), leN_dv]
  have hs : dv 256 (hF k s) = dv 256 ((hF k s).take 16) + 256 ^ 16 * dv 256 ((hF k s).drop 16) := by
    conv => lhs; rw [← List.take_append_drop 16 (hF k s)]
    rw [dv_append, List.length_take, Nat.min_eq_left (hF_len k s hk)]
  have ho := outR_v k s 16
  have holt := leN_lt (outR k s 16)
  rw [outR_len] at holt
  show leN (outR k s 16) = leN (addB (psmall (tagN (keyR k) s ((s.length + 15) / 16))) (k.drop 16) 16)
  simp only [Nat.reduceMul, Nat.reducePow] at *
  omega
end Go.Proofs.YtahiopdkekkibaaGreatDoor.FC

/-
  Layer 6: the document's tag, walked.
-/
namespace Go.Proofs.YtahiopdkekkibaaGreatDoor.FC
open Go Go.RowKit
set_option maxHeartbeats 4000000
set_option linter.unusedSimpArgs false
set_option linter.unusedVariables false
def dredC : Con := conN1 fun args a => match args with
  | [.one (.sl 0 0 1 n)] => some (.c (.one (.sl 1 0 1 17)), redL a, [n = a.length, dlt 256 a, a.length ≤ 100, 17 ≤ a.length])
  | _ => none
theorem dredC_ok : ConOk Tryz.prog 152 dredC := conN1_ok Tryz.func152 rfl rfl fun args a v r ob h hob wa => by
  split at h
  · injection h with h; injection h with h1 h2; injection h2 with h2 h3; subst h1; subst h2; subst h3
    obtain ⟨rfl, o2, o3, o4, _⟩ := hob
    exact dred_tri _ _ o2 o3 o4
  · cases h
def gd6 : Nat → Option Con := fun f => match f with
  | 151 => some numberC
  | 154 => some daddC
  | 153 => some dtimesC
  | 152 => some dredC
  | _ => none
theorem gd6_ok : GaOk Tryz.prog gd6 := fun f con h => by
  unfold gd6 at h
  split at h
  · injection h with h; subst h; exact numberC_ok
  · injection h with h; subst h; exact daddC_ok
  · injection h with h; subst h; exact dtimesC_ok
  · injection h with h; subst h; exact dredC_ok
  · cases h
theorem tmod16 (n : Nat) : ((n : Int)).tmod 16 = ((n % 16 : Nat) : Int) := by rw [show (16 : Int) = ((16 : Nat) : Int) from rfl, ← Int.ofNat_tmod]
theorem tdiv4 (x : UInt8) : IntKind.i64.wrap (((x.toNat : Nat) : Int).tdiv 4) = ((x.toNat / 4 : Nat) : Int) := by
  have := x.toNat_lt
  rw [show (4 : Int) = ((4 : Nat) : Int) from rfl, ← Int.ofNat_tdiv, IntKind.wrap_i64]; omega
theorem mul4 (x : UInt8) : IntKind.i64.wrap (((x.toNat / 4 : Nat) : Int) * 4) = ((x.toNat / 4 * 4 : Nat) : Int) := by
  have := x.toNat_lt
  rw [IntKind.wrap_i64]; omega
theorem and15 (x : UInt8) : (x &&& 15).toNat = x.toNat % 16 := by
  rw [UInt8.toNat_and]
  show x.toNat &&& (2 ^ 4 - 1) = _
  rw [Nat.and_two_pow_sub_one_eq_mod]
theorem and252 (x : UInt8) : (x &&& 252).toNat = x.toNat / 4 * 4 := by
  have h : ∀ n : Fin 256, (n.val &&& 252) = n.val / 4 * 4 := by decide +kernel
  rw [UInt8.toNat_and]
  exact h ⟨x.toNat, x.toNat_lt⟩
theorem natL_one (x : Nat) : natL.up x 0 [.num 1] = some 1 := natL_up x 1
def toInv (k s : List UInt8) : Nat → St
  | 0 => ⟨[(7, .c (.one (.sl 180032 0 1 (hF k s).length))), (10, .c (.one (.val (.slice none 0 0)))), (11, .c (.one (.num 0)))], [(180032, ⟨.arr Nat natL (hF k s), true⟩)]⟩
  | i + 1 => ⟨[(7, .c (.one (.sl 180032 0 1 (hF k s).length))), (10, .c (.one (.sl 500 0 1 (i + 1)))), (11, .c (.one (.num (i + 1 : Nat))))], [(500, ⟨.arr UInt8 u8L (outR k s (i + 1)), true⟩), (180032, ⟨.arr Nat natL (hF k s), true⟩)]⟩
def tgInv (k s : List UInt8) (q : Nat) : St := ⟨[(0, .c (.one (.str k))), (1, .c (.one (.str s))), (5, .c (.one (.sl 20016 0 1 16))), (7, .c (.one (.sl 600 0 1 (hD k s q).length))), (8, .c (.one (.num (16 * q : Nat))))], [(600, ⟨.arr Nat natL (hD k s q), true⟩), (20016, ⟨.arr Nat natL (rD k), true⟩)]⟩
set_option maxRecDepth 100000 in
theorem refTag_tri (k s : List UInt8) (hk : k.length = 32) (hs : s.length ≤ 4096) : Tri Tryz.prog 115 [.one (.str k), .one (.str s)] [] (.c (.one (.str (tagL k s)))) [] := by
  have hk16 : (k.take 16).length = 16 := by rw [List.length_take]; omega
  obtain ⟨x0, x1, x2, x3, x4, x5, x6, x7, x8, x9, xa, xb, xc, xd, xe, xf, hx⟩ := split16b (k.take 16) hk16
  have hr : rD k = [x0.toNat, x1.toNat, x2.toNat, x3.toNat % 16, x4.toNat / 4 * 4, x5.toNat, x6.toNat, x7.toNat % 16, x8.toNat / 4 * 4, x9.toNat, xa.toNat, xb.toNat % 16, xc.toNat / 4 * 4, xd.toNat, xe.toNat, xf.toNat % 16] := by
    unfold rD
    rw [hx]
    simp only [clampL, natsB, List.foldl_cons, List.foldl_nil, List.set_cons_zero, List.set_cons_succ, List.getD_cons_zero, List.getD_cons_succ, List.map_cons, List.map_nil, and15, and252]
  refine tri_of (envR_ok gd6_ok 98 []) Tryz.func115 rfl rfl (rs := [.tmp 4]) rfl rfl (by simp [envR]) rfl [] ?_
  simp only [envR, con0, conN0, conN1, conN2, natsOf_arr, rowOf_arr, natsOf_cells, rowOf_cells, toN, natL_st, natL_d, natL_enc, natL_up, gd6, numberC, daddC, dtimesC, dredC, hk, hk16, hx, natsB, natL_one, go_sem]
  refine loop_rounds (envR_ok gd6_ok 98 []) 17 ?_
  simp only [envR, con0, conN0, conN1, conN2, natsOf_arr, rowOf_arr, natsOf_cells, rowOf_cells, toN, natL_st, natL_d, natL_enc, natL_up, gd6, numberC, daddC, dtimesC, dredC, hk, tmod16, tdiv4, mul4, natL_one, go_sem]
  have lr : (rD k).length = 16 := by rw [hr]; rfl
  have ltr : dlt 256 (rD k) := natsB_lt _
  refine loop_inv (envR_ok gd6_ok 98 []) (tgInv k s) (fun q => 16 * q ≤ s.length + 15) (fun q => s.length + 16 - 16 * q) 0 [(600, 100000)] (by omega) ?_ ?_
  · simp only [tgInv, hr, hD, envR, con0, conN0, conN1, conN2, natsOf_arr, rowOf_arr, natsOf_cells, rowOf_cells, toN, natL_st, natL_d, natL_enc, natL_up, gd6, numberC, daddC, dtimesC, dredC, Int.natCast_zero, go_sem]
  · intro q hq
    obtain ⟨h1, h2, h3⟩ := hD_spec k s q
    have lh : (hD k s (q + 1)).length = 17 := by rw [hD, redL_len]
    simp only [tgInv, envR, con0, conN0, conN1, conN2, natsOf_arr, rowOf_arr, natsOf_cells, rowOf_cells, toN, natL_st, natL_d, natL_enc, natL_up, gd6, numberC, daddC, dtimesC, dredC, go_sem]
    refine br (fun h => ?_) fun h => ?_
    · have hlt : 16 * q < s.length := by have := of_decide_eq_true h; omega
      have w1 : IntKind.i64.wrap (((16 * q : Nat) : Int) + 16) = ((16 * q + 16 : Nat) : Int) := by rw [IntKind.wrap_i64]; omega
      have hbl : (blkL s q).length = min 16 (s.length - 16 * q) := by unfold blkL; rw [List.length_take, List.length_drop]
      have hq1 : 16 * q + 16 = 16 * (q + 1) := by omega
      cases c2 : decide ((s.length : Int) < ((16 * q + 16 : Nat) : Int)) with
      | true =>
        have g2 := of_decide_eq_true c2
        have e1 : (s.drop (16 * q)).take (s.length - 16 * q) = blkL s q := by
          unfold blkL; rw [List.take_of_length_le (by rw [List.length_drop]; exact Nat.le_refl _), List.take_of_length_le (by rw [List.length_drop]; omega)]
        have la : (natsB (blkL s q) ++ [1]).length = (blkL s q).length + 1 := by rw [List.length_append, natsB_len]; rfl
        have hA := addLen_bd 256 (hD k s q) (natsB (blkL s q) ++ [1])
        rw [la] at hA
        have lA : (addL 256 (hD k s q) (natsB (blkL s q) ++ [1])).length = addLen 256 (hD k s q) (natsB (blkL s q) ++ [1]) := addL_len _ _ _
        have lT : (timesL 256 (addL 256 (hD k s q) (natsB (blkL s q) ++ [1])) (rD k)).length = addLen 256 (hD k s q) (natsB (blkL s q) ++ [1]) + 16 := by rw [timesL_len, lA, lr]
        have dB : dlt 256 (natsB (blkL s q) ++ [1]) := by rw [natsB_one]; exact natsB_lt _
        have dA : dlt 256 (addL 256 (hD k s q) (natsB (blkL s q) ++ [1])) := addL_lt (by decide) _ _
        have dT := timesL_lt (by decide : 1 < 256) dA ltr
        have nl := natsB_len (blkL s q)
        simp only [h, w1, c2, e1, natL_one, lr, redL_len, envR, con0, conN0, conN1, conN2, natsOf_arr, rowOf_arr, natsOf_cells, rowOf_cells, toN, natL_st, natL_d, natL_enc, natL_up, gd6, numberC, daddC, dtimesC, dredC, go_sem]
        refine ⟨⟨by omega, by omega⟩, ⟨by omega, by omega⟩, ⟨nl, by omega, by omega⟩, ⟨la.symm, h1, dB, by omega, by omega, h2⟩, ⟨dA, ltr, by omega⟩, ⟨dT, by omega, by omega⟩, again (q + 1) [(600, 170088)] (by omega) (by omega) ?_⟩
        simp only [tgInv, hD, redL_len, ← hq1, envR, con0, conN0, conN1, conN2, natsOf_arr, rowOf_arr, natsOf_cells, rowOf_cells, toN, natL_st, natL_d, natL_enc, natL_up, gd6, numberC, daddC, dtimesC, dredC, go_sem]
      | false =>
        have g2 := of_decide_eq_false c2
        have e1 : (s.drop (16 * q)).take 16 = blkL s q := rfl
        have la : (natsB (blkL s q) ++ [1]).length = (blkL s q).length + 1 := by rw [List.length_append, natsB_len]; rfl
        have hA := addLen_bd 256 (hD k s q) (natsB (blkL s q) ++ [1])
        rw [la] at hA
        have lA : (addL 256 (hD k s q) (natsB (blkL s q) ++ [1])).length = addLen 256 (hD k s q) (natsB (blkL s q) ++ [1]) := addL_len _ _ _
        have lT : (timesL 256 (addL 256 (hD k s q) (natsB (blkL s q) ++ [1])) (rD k)).length = addLen 256 (hD k s q) (natsB (blkL s q) ++ [1]) + 16 := by rw [timesL_len, lA, lr]
        have dB : dlt 256 (natsB (blkL s q) ++ [1]) := by rw [natsB_one]; exact natsB_lt _
        have dA : dlt 256 (addL 256 (hD k s q) (natsB (blkL s q) ++ [1])) := addL_lt (by decide) _ _
        have dT := timesL_lt (by decide : 1 < 256) dA ltr
        have nl := natsB_len (blkL s q)
        simp only [h, w1, c2, e1, natL_one, lr, redL_len, Nat.add_sub_cancel_left, envR, con0, conN0, conN1, conN2, natsOf_arr, rowOf_arr, natsOf_cells, rowOf_cells, toN, natL_st, natL_d, natL_enc, natL_up, gd6, numberC, daddC, dtimesC, dredC, go_sem]
        refine ⟨⟨by omega, by omega, by omega⟩, ⟨by omega, by omega⟩, ⟨nl, by omega, by omega⟩, ⟨la.symm, h1, dB, by omega, by omega, h2⟩, ⟨dA, ltr, by omega⟩, ⟨dT, by omega, by omega⟩, again (q + 1) [(600, 170088)] (by omega) (by omega) ?_⟩
        simp only [tgInv, hD, redL_len, ← hq1, envR, con0, conN0, conN1, conN2, natsOf_arr, rowOf_arr, natsOf_cells, rowOf_cells, toN, natL_st, natL_d, natL_enc, natL_up, gd6, numberC, daddC, dtimesC, dredC, go_sem]
    · have hQ : q = (s.length + 15) / 16 := by have := of_decide_eq_false h; omega
      have hd : (k.drop 16).length = 16 := by rw [List.length_drop]; omega
      have hFe : addL 256 (hD k s q) (natsB (k.drop 16)) = hF k s := by rw [hF, ← hQ]
      simp only [h, hk, hd, hFe, envR, con0, conN0, conN1, conN2, natsOf_arr, rowOf_arr, natsOf_cells, rowOf_cells, toN, natL_st, natL_d, natL_enc, natL_up, gd6, numberC, daddC, dtimesC, dredC, go_sem]
      have nd := natsB_len (k.drop 16)
      refine ⟨⟨by rw [nd, hd], h1, natsB_lt _, by omega, by omega, h2⟩, ?_⟩
      have hF16 := hF_len k s hk
      refine loop_inv (envR_ok gd6_ok 98 []) (toInv k s) (fun i => i ≤ 16) (fun i => 16 - i) 0 [] (by omega) ?_ ?_
      · simp only [toInv, envR, con0, conN0, conN1, conN2, natsOf_arr, rowOf_arr, natsOf_cells, rowOf_cells, toN, natL_st, natL_d, natL_enc, natL_up, gd6, numberC, daddC, dtimesC, dredC, go_sem]
      · intro i hi
        have hsu := outR_succ k s i
        have hol := outR_len k s i
        have h8 : by8 (((hF k s).getD i 0 : Nat) : Int) = UInt8.ofNat ((hF k s).getD i 0) := by
          unfold by8
          apply UInt8.toNat_inj.1
          simp only [UInt8.toNat_ofNat']
          omega
        rcases i with _ | i
        · have c5 : decide ((0 : Int) < ((hF k s).length : Int)) = true := decide_eq_true (by omega)
          have hs1 : outR k s 1 = [UInt8.ofNat ((hF k s).getD 0 0)] := rfl
          simp only [toInv, c5, h8, envR, con0, conN0, conN1, conN2, natsOf_arr, rowOf_arr, natsOf_cells, rowOf_cells, toN, natL_st, natL_d, natL_enc, natL_up, gd6, numberC, daddC, dtimesC, dredC, go_sem]
          refine ⟨by omega, by omega, again (0 + 1) [(500, 260032)] (by omega) (by omega) ?_⟩
          simp only [toInv, hs1, envR, con0, conN0, conN1, conN2, natsOf_arr, rowOf_arr, natsOf_cells, rowOf_cells, toN, natL_st, natL_d, natL_enc, natL_up, gd6, numberC, daddC, dtimesC, dredC, go_sem]
        · simp only [toInv, envR, con0, conN0, conN1, conN2, natsOf_arr, rowOf_arr, natsOf_cells, rowOf_cells, toN, natL_st, natL_d, natL_enc, natL_up, gd6, numberC, daddC, dtimesC, dredC, go_sem]
          refine br (fun h' => ?_) fun h' => ?_
          · have g5 : i + 1 < 16 := by have := of_decide_eq_true h'; omega
            have c5 : decide (((i + 1 : Nat) : Int) < ((hF k s).length : Int)) = true := decide_eq_true (by omega)
            have w5 : IntKind.i64.wrap (((i + 1 : Nat) : Int) + 1) = ((i + 1 + 1 : Nat) : Int) := by rw [IntKind.wrap_i64]; omega
            simp only [h', c5, w5, h8, envR, con0, conN0, conN1, conN2, natsOf_arr, rowOf_arr, natsOf_cells, rowOf_cells, toN, natL_st, natL_d, natL_enc, natL_up, gd6, numberC, daddC, dtimesC, dredC, go_sem]
            refine ⟨⟨by omega, by omega⟩, by omega, ⟨hol, by omega, by omega⟩, again (i + 1 + 1) [(500, 260032)] (by omega) (by omega) ?_⟩
            simp only [toInv, hsu, envR, con0, conN0, conN1, conN2, natsOf_arr, rowOf_arr, natsOf_cells, rowOf_cells, toN, natL_st, natL_d, natL_enc, natL_up, gd6, numberC, daddC, dtimesC, dredC, go_sem]
          · obtain rfl : i = 15 := by have := of_decide_eq_false h'; omega
            have hr16 := tag_ref k s hk
            have ht : (outR k s 16).take 16 = tagL k s := by rw [List.take_of_length_le (by rw [outR_len]; exact Nat.le_refl _), hr16]
            have hol : (outR k s 16).length = 16 := outR_len _ _ _
            simp only [h', ht, hol, envR, con0, conN0, conN1, conN2, natsOf_arr, rowOf_arr, natsOf_cells, rowOf_cells, toN, natL_st, natL_d, natL_enc, natL_up, gd6, numberC, daddC, dtimesC, dredC, go_sem]
end Go.Proofs.YtahiopdkekkibaaGreatDoor.FC

/-
  Layer 6: the tag is what the document says.
-/
namespace Go.Proofs.YtahiopdkekkibaaGreatDoor.FC
open Go Go.RowKit
set_option maxHeartbeats 4000000
set_option linter.unusedSimpArgs false
set_option linter.unusedVariables false
def refTagC : Con := con0 fun args => match args with
  | [.one (.str k), .one (.str s)] => some (.c (.one (.str (tagL k s))), [k.length = 32, s.length ≤ 4096])
  | _ => none
theorem refTagC_ok : ConOk Tryz.prog 115 refTagC := con0_ok Tryz.func115 rfl rfl fun args res ob h hob => by
  split at h
  · injection h with h; injection h with h1 h2; subst h1; subst h2; exact refTag_tri _ _ hob.1 hob.2.1
  · cases h
end Go.Proofs.YtahiopdkekkibaaGreatDoor.FC

/-
  Layer 5: the document's quarter round, in a row.
-/
namespace Go.Proofs.YtahiopdkekkibaaGreatDoor.FC
open Go Go.RowKit
set_option linter.unusedSimpArgs false
set_option linter.unusedVariables false
/-- A contract that changes one row of cells. -/
def con1 (F : List CV → List AV → Option (SV × List AV × List Prop)) : Con := ⟨true, fun args os => match os with
  | [.cells 1 xs] => match F args xs with
    | some (v, ys, ob) => some (v, [.cells 1 ys], [], ob)
    | none => none
  | _ => none⟩
theorem con1_ok {P : Program} {f : FuncId} {fn : Func} (hf : P.funcs[f]? = some fn) (hb : fn.body.isSome = true) (hn : (fn.name == "runtime.NumGoroutine") = false) {F : List CV → List AV → Option (SV × List AV × List Prop)}
    (h : ∀ args xs v ys ob, F args xs = some (v, ys, ob) → AllT ob → Tri P f args [(0, ⟨.cells 1 xs, true⟩)] v [(0, ⟨.cells 1 ys, true⟩)]) : ConOk P f (con1 F) := by
  refine .inl ⟨⟨fn, hf, hb, hn⟩, fun args es res upd news ob hr hob hw => ?_⟩
  unfold con1 at hr
  simp only at hr
  split at hr
  · rename_i xs hes
    cases hF : F args xs with
    | none => rw [hF] at hr; cases hr
    | some q =>
      obtain ⟨v, ys, ob'⟩ := q
      simp only [hF, Option.some.injEq, Prod.mk.injEq] at hr
      obtain ⟨rfl, rfl, rfl, rfl⟩ := hr
      obtain ⟨e, rfl⟩ : ∃ e, es = [e] := by
        cases es with
        | nil => cases hes
        | cons e es => cases es with
          | nil => exact ⟨e, rfl⟩
          | cons _ _ => simp at hes
      · obtain ⟨e', he', hwr⟩ := hw 0 (by simp)
        simp only [List.getElem?_cons_zero, Option.some.injEq] at he'
        subst he'
        obtain ⟨o, wr⟩ := e
        simp only at hwr
        subst hwr
        simp only [List.map_cons, List.map_nil, List.cons.injEq, and_true] at hes
        subst hes
        exact h args xs v ys ob' hF hob
  · cases hr
noncomputable def envK (ga : Nat → Option Con) (nt : Nat) (keys : List Nat) : Env := ⟨ty, ga, [], nt, keys, []⟩
theorem envK_ok {ga : Nat → Option Con} (h : GaOk Tryz.prog ga) (nt : Nat) (keys : List Nat) : EnvOk Tryz.prog (envK ga nt keys) := ⟨ty_ok, h, by first | rfl | decide⟩
def leftR (x : UInt32) (n : Int) : UInt32 := shl32 x n.toNat ||| shr32 x (32 - n).toNat
theorem left_tri (x : UInt32) (n : Int) (h : 0 ≤ n) (h' : n ≤ 32) : Tri Tryz.prog 171 [.one (.u32 x), .one (.num n)] [] (.c (.one (.u32 (leftR x n)))) [] := by
  refine tri_of (envOf_ok ga0_ok 13) Tryz.func171 rfl rfl (rs := [.tmp 4]) rfl rfl (by simp [envOf]) rfl [] ?_
  have hw : IntKind.i64.wrap (32 - n) = 32 - n := by rw [IntKind.wrap_i64]; omega
  simp only [envOf, ga0, leftR, hw, go_sem]
  exact ⟨h, by omega, rfl⟩
def leftC : Con := con0 fun args => match args with
  | [.one (.u32 x), .one (.num n)] => some (.c (.one (.u32 (leftR x n))), [0 ≤ n, n ≤ 32])
  | _ => none
theorem leftC_ok : ConOk Tryz.prog 171 leftC := con0_ok Tryz.func171 rfl rfl fun args res ob h hob => by
  split at h
  · injection h with h; injection h with h1 h2; subst h1; subst h2; exact left_tri _ _ hob.1 hob.2.1
  · cases h
theorem left16 (x : UInt32) : leftR x 16 = rot32 x 16 := rfl
theorem left12 (x : UInt32) : leftR x 12 = rot32 x 12 := rfl
theorem left8 (x : UInt32) : leftR x 8 = rot32 x 8 := rfl
theorem left7 (x : UInt32) : leftR x 7 = rot32 x 7 := rfl
def ga7 : Nat → Option Con := fun f => match f with
  | 171 => some leftC
  | _ => none
theorem ga7_ok : GaOk Tryz.prog ga7 := fun f con h => by
  unfold ga7 at h
  split at h
  · injection h with h; subst h; exact leftC_ok
  · cases h
def qset (l : List UInt32) (a b c d : Nat) : List UInt32 :=
  let q := qr (l.getD a 0) (l.getD b 0) (l.getD c 0) (l.getD d 0)
  (((l.set a q.1).set b q.2.1).set c q.2.2.1).set d q.2.2.2
def tups : List (Int × Int × Int × Int) := [(0, 4, 8, 12), (1, 5, 9, 13), (2, 6, 10, 14), (3, 7, 11, 15), (0, 5, 10, 15), (1, 6, 11, 12), (2, 7, 8, 13), (3, 4, 9, 14)]
set_option maxRecDepth 100000 in
set_option maxHeartbeats 4000000 in
theorem refQuarter_tri (l : List UInt32) (hl : l.length = 16) (a b c d : Int) (ht : (a, b, c, d) ∈ tups) : Tri Tryz.prog 150 [.one (.sl 0 0 1 16), .one (.num a), .one (.num b), .one (.num c), .one (.num d)] [(0, ⟨.cells 1 (l.map .u32), true⟩)] (.tup []) [(0, ⟨.cells 1 ((qset l a.toNat b.toNat c.toNat d.toNat).map .u32), true⟩)] := by
  obtain ⟨x0, x1, x2, x3, x4, x5, x6, x7, x8, x9, xa, xb, xc, xd, xe, xf, rfl⟩ := split16 l hl
  refine tri_of (envK_ok ga7_ok 85 [0]) Tryz.func150 rfl rfl (rs := []) rfl rfl (by simp [envK]) rfl [] ?_
  simp only [tups, List.mem_cons, List.not_mem_nil, or_false, Prod.mk.injEq] at ht
  rcases ht with ⟨rfl, rfl, rfl, rfl⟩ | ⟨rfl, rfl, rfl, rfl⟩ | ⟨rfl, rfl, rfl, rfl⟩ | ⟨rfl, rfl, rfl, rfl⟩ | ⟨rfl, rfl, rfl, rfl⟩ | ⟨rfl, rfl, rfl, rfl⟩ | ⟨rfl, rfl, rfl, rfl⟩ | ⟨rfl, rfl, rfl, rfl⟩
  all_goals
    simp only [envK, ga7, leftC, go_sem]
    refine loop_rounds (envK_ok ga7_ok 85 [0]) 3 ?_
    simp only [ga7, leftC, left16, left12, left8, left7, go_sem]
    repeat' apply And.intro
    all_goals first
      | rfl
      | (intro x hx; obtain ⟨y, _, rfl⟩ := List.mem_map.1 hx; rfl)
def quarterRefC : Con := con1 fun args xs => match args with
  | [.one (.sl 0 0 1 16), .one (.num a), .one (.num b), .one (.num c), .one (.num d)] => some (.tup [], (qset (u32s xs) a.toNat b.toNat c.toNat d.toNat).map .u32, [xs = (u32s xs).map .u32, xs.length = 16, (a, b, c, d) ∈ tups])
  | _ => none
theorem quarterRefC_ok : ConOk Tryz.prog 150 quarterRefC := con1_ok Tryz.func150 rfl rfl fun args xs v ys ob h hob => by
  split at h
  · injection h with h; injection h with h1 h2; injection h2 with h2 h3; subst h1; subst h2; subst h3
    have e := hob.1
    have := refQuarter_tri (u32s xs) (by rw [u32s_len]; exact hob.2.1) _ _ _ _ hob.2.2.1
    rw [← e] at this
    exact this
  · cases h
end Go.Proofs.YtahiopdkekkibaaGreatDoor.FC

/-
  Layer 5: the document's block, by definition.
-/
namespace Go.Proofs.YtahiopdkekkibaaGreatDoor.FC
open Go Go.RowKit
set_option linter.unusedSimpArgs false
set_option linter.unusedVariables false
theorem shl_nat (b : UInt8) (k : Nat) (hk : k ≤ 24) : (shl32 b.toUInt32 k).toNat = b.toNat <<< k := by
  have hb := b.toNat_lt
  have h : b.toNat <<< k < 4294967296 := by
    rw [Nat.shiftLeft_eq]
    have : 2 ^ k ≤ 2 ^ 24 := Nat.pow_le_pow_right (by omega) hk
    calc b.toNat * 2 ^ k ≤ 255 * 2 ^ 24 := Nat.mul_le_mul (by omega) this
      _ < 4294967296 := by decide
  unfold shl32
  rw [if_pos (by omega), UInt32.toNat_shiftLeft, UInt8.toNat_toUInt32, UInt32.toNat_ofNat_of_lt' (by show k < 4294967296; omega), Nat.mod_eq_of_lt (by omega : k < 32)]
  exact Nat.mod_eq_of_lt h
set_option maxRecDepth 20000 in
theorem le4 (a b c d : UInt8) : a.toUInt32 ||| shl32 b.toUInt32 8 ||| shl32 c.toUInt32 16 ||| shl32 d.toUInt32 24 = a.toUInt32 + 256 * b.toUInt32 + 65536 * c.toUInt32 + 16777216 * d.toUInt32 := by
  apply UInt32.toNat_inj.1
  have ha := a.toNat_lt
  have hb := b.toNat_lt
  have hc := c.toNat_lt
  have hd := d.toNat_lt
  simp only [UInt32.toNat_or, UInt32.toNat_add, UInt32.toNat_mul, UInt8.toNat_toUInt32, shl_nat _ 8 (by omega), shl_nat _ 16 (by omega), shl_nat _ 24 (by omega), UInt32.reduceToNat]
  rw [Nat.or_comm a.toNat, ← Nat.shiftLeft_add_eq_or_of_lt (by omega : a.toNat < 2 ^ 8)]
  have h1 : b.toNat <<< 8 + a.toNat < 2 ^ 16 := by rw [Nat.shiftLeft_eq]; omega
  rw [Nat.or_comm (b.toNat <<< 8 + a.toNat), ← Nat.shiftLeft_add_eq_or_of_lt h1]
  have h2 : c.toNat <<< 16 + (b.toNat <<< 8 + a.toNat) < 2 ^ 24 := by simp only [Nat.shiftLeft_eq] at h1 ⊢; omega
  rw [Nat.or_comm (c.toNat <<< 16 + _), ← Nat.shiftLeft_add_eq_or_of_lt h2]
  simp only [Nat.shiftLeft_eq]
  omega

set_option maxRecDepth 100000 in
theorem refWord_tri (s : List UInt8) (i : Nat) (h : i + 4 ≤ s.length) (h' : i ≤ 1000) : Tri Tryz.prog 149 [.one (.str s), .one (.num (i : Int))] [] (.c (.one (.u32 (leAt s i)))) [] := by
  refine tri_of (envOf_ok ga0_ok 30) Tryz.func149 rfl rfl (rs := [.tmp 4]) rfl rfl (by simp [envOf]) rfl [] ?_
  have h1 : IntKind.i64.wrap ((i : Int) + 1) = ((i + 1 : Nat) : Int) := by rw [IntKind.wrap_i64]; omega
  have h2 : IntKind.i64.wrap ((i : Int) + 2) = ((i + 2 : Nat) : Int) := by rw [IntKind.wrap_i64]; omega
  have h3 : IntKind.i64.wrap ((i : Int) + 3) = ((i + 3 : Nat) : Int) := by rw [IntKind.wrap_i64]; omega
  simp only [envOf, ga0, h1, h2, h3, leAt, le4, go_sem]
  refine ⟨by omega, by omega, by omega, by omega, ?_⟩
  rfl
def wordRefC : Con := con0 fun args => match args with
  | [.one (.str s), .one (.num i)] => some (.c (.one (.u32 (leAt s i.toNat))), [0 ≤ i, i.toNat + 4 ≤ s.length, i.toNat ≤ 1000])
  | _ => none
theorem wordRefC_ok : ConOk Tryz.prog 149 wordRefC := con0_ok Tryz.func149 rfl rfl fun args res ob h hob => by
  split at h
  · rename_i s i
    injection h with h; injection h with h1 h2; subst h1; subst h2
    have := refWord_tri s i.toNat hob.2.1 hob.2.2.1
    rw [Int.toNat_of_nonneg hob.1] at this
    exact this
  · cases h
def ga8 : Nat → Option Con := fun f => match f with
  | 149 => some wordRefC
  | 150 => some quarterRefC
  | _ => none
theorem ga8_ok : GaOk Tryz.prog ga8 := fun f con h => by
  unfold ga8 at h
  split at h
  · injection h with h; subst h; exact wordRefC_ok
  · injection h with h; subst h; exact quarterRefC_ok
  · cases h
def refInv (l : List UInt32) (x : Nat × List UInt32) : St := ⟨[(6, .c (.one (.str []))), (7, .c (.one (.sl 300150040 0 1 16))), (11, .c (.one (.sl 160000 0 1 16))), (13, .c (.one (.num x.1)))], [(160000, ⟨.cells 1 (x.2.map .u32), true⟩), (300150040, ⟨.cells 1 (l.map .u32), true⟩)]⟩
def outInv (y x : List UInt32) (i : Nat) : St := ⟨[(6, .c (.one (.str []))), (7, .c (.one (.sl 300150040 0 1 16))), (11, .c (.one (.sl 160000 0 1 16))), (14, .c (.one (if i = 0 then .val (.slice none 0 0) else .sl 500 0 1 (4 * i)))), (15, .c (.one (.num i)))], (if i = 0 then [] else [(500, ⟨.cells 1 (((outL y x).take (4 * i)).map .u8), true⟩)]) ++ [(160000, ⟨.cells 1 (y.map .u32), true⟩), (300150040, ⟨.cells 1 (x.map .u32), true⟩)]⟩
set_option maxRecDepth 100000 in
set_option maxHeartbeats 8000000 in
theorem refBlock_tri (k n : List UInt8) (c : UInt32) (hk : k.length = 32) (hn : n.length = 12) : Tri Tryz.prog 114 [.one (.str k), .one (.str n), .one (.u32 c)] [] (.c (.one (.str (blockL k n c)))) [] := by
  refine tri_of (envOf_ok ga8_ok 117) Tryz.func114 rfl rfl (rs := [.tmp 6]) rfl rfl (by simp [envOf]) rfl [] ?_
  have e0 : leAt [101, 120, 112, 97, 110, 100, 32, 51, 50, 45, 98, 121, 116, 101, 32, 107] 0 = 1634760805 := by decide
  have e4 : leAt [101, 120, 112, 97, 110, 100, 32, 51, 50, 45, 98, 121, 116, 101, 32, 107] 4 = 857760878 := by decide
  have e8 : leAt [101, 120, 112, 97, 110, 100, 32, 51, 50, 45, 98, 121, 116, 101, 32, 107] 8 = 2036477234 := by decide
  have e12 : leAt [101, 120, 112, 97, 110, 100, 32, 51, 50, 45, 98, 121, 116, 101, 32, 107] 12 = 1797285236 := by decide
  simp only [envOf, ga8, wordRefC, quarterRefC, go_sem]
  refine loop_rounds (envOf_ok ga8_ok 117) 5 ?_
  simp only [ga8, wordRefC, quarterRefC, e0, e4, e8, e12, go_sem]
  refine loop_rounds (envOf_ok ga8_ok 117) 9 ?_
  simp only [ga8, wordRefC, quarterRefC, hk, go_sem]
  refine loop_rounds (envOf_ok ga8_ok 117) 4 ?_
  have rep16 : List.replicate 16 (AV.u32 0) = [.u32 0, .u32 0, .u32 0, .u32 0, .u32 0, .u32 0, .u32 0, .u32 0, .u32 0, .u32 0, .u32 0, .u32 0, .u32 0, .u32 0, .u32 0, .u32 0] := rfl
  simp only [ga8, wordRefC, quarterRefC, hn, rep16, go_sem]
  refine loop_rounds (envOf_ok ga8_ok 117) 17 ?_
  simp (maxSteps := 1000000) only [ga8, wordRefC, quarterRefC, hn, go_sem]
  have hl : (iniL k n c).length = 16 := rfl
  refine loop_inv (envOf_ok ga8_ok 117) (refInv (iniL k n c)) (fun x => x.1 ≤ 10 ∧ x.2 = dtimes x.1 (iniL k n c)) (fun x => 10 - x.1) (0, iniL k n c) [] ⟨by omega, rfl⟩ ?_ ?_
  · simp only [refInv, iniL, go_sem]
  · rintro ⟨j, vs⟩ ⟨hj, hv⟩
    simp only at hj hv
    have hv' : vs.length = 16 := by rw [hv]; exact dtimes_len _ hl _
    generalize hli : iniL k n c = li at *
    obtain ⟨x0, x1, x2, x3, x4, x5, x6, x7, x8, x9, xa, xb, xc, xd, xe, xf, rfl⟩ := split16 li hl
    obtain ⟨y0, y1, y2, y3, y4, y5, y6, y7, y8, y9, ya, yb, yc, yd, ye, yf, rfl⟩ := split16 vs hv'
    simp only [refInv, envOf, ga8, wordRefC, quarterRefC, go_sem]
    refine br (fun h => ?_) fun h => ?_
    · have hw : IntKind.i64.wrap ((j : Int) + 1) = ((j + 1 : Nat) : Int) := by rw [IntKind.wrap_i64]; have := of_decide_eq_true h; omega
      simp only [h, ga8, con1, quarterRefC, u32s, qset, tups, Prod.mk.injEq, hw, go_sem]
      refine again (j + 1, dround [y0, y1, y2, y3, y4, y5, y6, y7, y8, y9, ya, yb, yc, yd, ye, yf]) [] ⟨by simp only; have := of_decide_eq_true h; omega, by simp only [dtimes, hv]⟩ (by simp only; have := of_decide_eq_true h; omega) ?_
      simp only [refInv, dround, go_sem]
      trace_state
    · simp only [h, ga8, go_sem]
      refine loop_inv (envOf_ok ga8_ok 117) (outInv [y0, y1, y2, y3, y4, y5, y6, y7, y8, y9, ya, yb, yc, yd, ye, yf] [x0, x1, x2, x3, x4, x5, x6, x7, x8, x9, xa, xb, xc, xd, xe, xf]) (fun i => i ≤ 16) (fun i => 16 - i) 0 [] (by omega) ?_ ?_
      · simp only [outInv, go_sem]
      · intro i hi
        have hcs : i = 0 ∨ i = 1 ∨ i = 2 ∨ i = 3 ∨ i = 4 ∨ i = 5 ∨ i = 6 ∨ i = 7 ∨ i = 8 ∨ i = 9 ∨ i = 10 ∨ i = 11 ∨ i = 12 ∨ i = 13 ∨ i = 14 ∨ i = 15 ∨ i = 16 := by omega
        rcases hcs with rfl | rfl | rfl | rfl | rfl | rfl | rfl | rfl | rfl | rfl | rfl | rfl | rfl | rfl | rfl | rfl | rfl
        · simp only [outInv, envOf, ga8, outL, w4, go_sem]
          refine ⟨rfl, again 1 [(500, 370152)] (by omega) (by omega) ?_⟩
          simp only [outInv, outL, w4, go_sem]
        · simp only [outInv, envOf, ga8, outL, w4, go_sem]
          refine ⟨rfl, again 2 [(500, 370152)] (by omega) (by omega) ?_⟩
          simp only [outInv, outL, w4, go_sem]
        · simp only [outInv, envOf, ga8, outL, w4, go_sem]
          refine ⟨rfl, again 3 [(500, 370152)] (by omega) (by omega) ?_⟩
          simp only [outInv, outL, w4, go_sem]
        · simp only [outInv, envOf, ga8, outL, w4, go_sem]
          refine ⟨rfl, again 4 [(500, 370152)] (by omega) (by omega) ?_⟩
          simp only [outInv, outL, w4, go_sem]
        · simp only [outInv, envOf, ga8, outL, w4, go_sem]
          refine ⟨rfl, again 5 [(500, 370152)] (by omega) (by omega) ?_⟩
          simp only [outInv, outL, w4, go_sem]
        · simp only [outInv, envOf, ga8, outL, w4, go_sem]
          refine ⟨rfl, again 6 [(500, 370152)] (by omega) (by omega) ?_⟩
          simp only [outInv, outL, w4, go_sem]
        · simp only [outInv, envOf, ga8, outL, w4, go_sem]
          refine ⟨rfl, again 7 [(500, 370152)] (by omega) (by omega) ?_⟩
          simp only [outInv, outL, w4, go_sem]
        · simp only [outInv, envOf, ga8, outL, w4, go_sem]
          refine ⟨rfl, again 8 [(500, 370152)] (by omega) (by omega) ?_⟩
          simp only [outInv, outL, w4, go_sem]
        · simp only [outInv, envOf, ga8, outL, w4, go_sem]
          refine ⟨rfl, again 9 [(500, 370152)] (by omega) (by omega) ?_⟩
          simp only [outInv, outL, w4, go_sem]
        · simp only [outInv, envOf, ga8, outL, w4, go_sem]
          refine ⟨rfl, again 10 [(500, 370152)] (by omega) (by omega) ?_⟩
          simp only [outInv, outL, w4, go_sem]
        · simp only [outInv, envOf, ga8, outL, w4, go_sem]
          refine ⟨rfl, again 11 [(500, 370152)] (by omega) (by omega) ?_⟩
          simp only [outInv, outL, w4, go_sem]
        · simp only [outInv, envOf, ga8, outL, w4, go_sem]
          refine ⟨rfl, again 12 [(500, 370152)] (by omega) (by omega) ?_⟩
          simp only [outInv, outL, w4, go_sem]
        · simp only [outInv, envOf, ga8, outL, w4, go_sem]
          refine ⟨rfl, again 13 [(500, 370152)] (by omega) (by omega) ?_⟩
          simp only [outInv, outL, w4, go_sem]
        · simp only [outInv, envOf, ga8, outL, w4, go_sem]
          refine ⟨rfl, again 14 [(500, 370152)] (by omega) (by omega) ?_⟩
          simp only [outInv, outL, w4, go_sem]
        · simp only [outInv, envOf, ga8, outL, w4, go_sem]
          refine ⟨rfl, again 15 [(500, 370152)] (by omega) (by omega) ?_⟩
          simp only [outInv, outL, w4, go_sem]
        · simp only [outInv, envOf, ga8, outL, w4, go_sem]
          refine ⟨rfl, again 16 [(500, 370152)] (by omega) (by omega) ?_⟩
          simp only [outInv, outL, w4, go_sem]
        · have hj' : j = 10 := by have := of_decide_eq_false h; omega
          subst hj'
          simp only [outInv, envOf, ga8, blockL, hli, stirL, ← hv, outL, w4, go_sem]
end Go.Proofs.YtahiopdkekkibaaGreatDoor.FC

/-
  Layer 5: the document's block and string; the laws of blocks and of strings.
-/
namespace Go.Proofs.YtahiopdkekkibaaGreatDoor.FC
open Go Go.RowKit
set_option maxHeartbeats 4000000
set_option linter.unusedSimpArgs false
set_option linter.unusedVariables false
def blockRefC : Con := con0 fun args => match args with
  | [.one (.str k), .one (.str n), .one (.u32 c)] => some (.c (.one (.str (blockL k n c))), [k.length = 32, n.length = 12])
  | _ => none
theorem blockRefC_ok : ConOk Tryz.prog 114 blockRefC := con0_ok Tryz.func114 rfl rfl fun args res ob h hob => by
  split at h
  · injection h with h; injection h with h1 h2; subst h1; subst h2; exact refBlock_tri _ _ _ hob.1 hob.2.1
  · cases h
end Go.Proofs.YtahiopdkekkibaaGreatDoor.FC

/-
  Layer 5: a string turned, by definition.
-/
namespace Go.Proofs.YtahiopdkekkibaaGreatDoor.FC
open Go Go.RowKit
set_option maxHeartbeats 4000000
set_option linter.unusedSimpArgs false
set_option linter.unusedVariables false
def strm (k n : List UInt8) (c : UInt32) : Nat → List UInt8
  | 0 => []
  | q + 1 => strm k n c q ++ blockL k n (c + UInt32.ofNat q)
theorem blockL_len (k n : List UInt8) (c : UInt32) : (blockL k n c).length = 64 := stirL_len _ rfl
theorem strm_len (k n : List UInt8) (c : UInt32) : ∀ q, (strm k n c q).length = 64 * q
  | 0 => rfl
  | q + 1 => by rw [strm, List.length_append, strm_len, blockL_len]; omega
theorem strm_get (k n : List UInt8) (c : UInt32) : ∀ q i, i < 64 * q → (strm k n c q).getD i 0 = ksAt k n c i
  | 0, i, h => by omega
  | q + 1, i, h => by
    have hl := strm_len k n c q
    rw [strm, List.getD_eq_getElem?_getD]
    by_cases hi : i < 64 * q
    · rw [List.getElem?_append_left (by omega), ← List.getD_eq_getElem?_getD]
      exact strm_get k n c q i hi
    · rw [List.getElem?_append_right (by omega), ← List.getD_eq_getElem?_getD]
      unfold ksAt
      rw [hl, show i / 64 = q by omega, show i % 64 = i - 64 * q by omega]
      rfl
theorem outT_succ (k n : List UInt8) (c : UInt32) (s : List UInt8) (q i : Nat) (hi : i < s.length) (hq : s.length ≤ 64 * q) : (turnL k n c s).take (i + 1) = (turnL k n c s).take i ++ [s.getD i 0 ^^^ (strm k n c q).getD i 0] := by
  rw [strm_get k n c q i (by omega), List.take_add_one, turnL_getElem?, List.getElem?_eq_getElem hi, List.getD_eq_getElem?_getD, List.getElem?_eq_getElem hi]
  rfl
def outTInv (k n : List UInt8) (c : UInt32) (s : List UInt8) (q : Nat) : Nat → St
  | 0 => ⟨[(3, .c (.one (.str s))), (9, .c (.one (.str (strm k n c q)))), (10, .c (.one (.val (.slice none 0 0)))), (11, .c (.one (.num 0)))], []⟩
  | i + 1 => ⟨[(3, .c (.one (.str s))), (9, .c (.one (.str (strm k n c q)))), (10, .c (.one (.sl 500 0 1 (i + 1)))), (11, .c (.one (.num (i + 1 : Nat))))], [(500, ⟨.arr UInt8 u8L ((turnL k n c s).take (i + 1)), true⟩)]⟩
def strmInv (k n : List UInt8) (c : UInt32) (s : List UInt8) (q : Nat) : St := ⟨[(0, .c (.one (.str k))), (1, .c (.one (.str n))), (2, .c (.one (.u32 (c + UInt32.ofNat q)))), (3, .c (.one (.str s))), (9, .c (.one (.str (strm k n c q))))], []⟩
def gaT : Nat → Option Con := fun f => match f with
  | 114 => some blockRefC
  | _ => none
theorem gaT_ok : GaOk Tryz.prog gaT := fun f con h => by
  unfold gaT at h
  split at h
  · injection h with h; subst h; exact blockRefC_ok
  · cases h
set_option maxRecDepth 100000 in
set_option maxHeartbeats 4000000 in
theorem refTurn_tri (k n : List UInt8) (c : UInt32) (s : List UInt8) (hk : k.length = 32) (hn : n.length = 12) (hs : s.length ≤ 4096) : Tri Tryz.prog 75 [.one (.str k), .one (.str n), .one (.u32 c), .one (.str s)] [] (.c (.one (.str (turnL k n c s)))) [] := by
  refine tri_of (envOf_ok gaT_ok 43) Tryz.func75 rfl rfl (rs := [.tmp 8]) rfl rfl (by simp [envOf]) rfl [] ?_
  simp only [envOf, gaT, blockRefC, go_sem]
  refine loop_inv (envOf_ok gaT_ok 43) (strmInv k n c s) (fun q => 64 * q ≤ s.length + 63) (fun q => s.length + 64 - 64 * q) 0 [] (by omega) ?_ ?_
  · simp only [strmInv, strm, UInt32.reduceOfNat, UInt32.add_zero, go_sem]
  · intro q hq
    have hl := strm_len k n c q
    simp only [strmInv, envOf, gaT, blockRefC, hl, go_sem]
    refine br (fun h => ?_) fun h => ?_
    · have hlt : 64 * q < s.length := by have := of_decide_eq_true h; omega
      have hc : c + UInt32.ofNat q + 1 = c + UInt32.ofNat (q + 1) := by
        rw [UInt32.ofNat_add, UInt32.add_assoc]; rfl
      simp only [h, gaT, blockRefC, hc, hl, hk, hn, blockL_len, go_sem]
      refine ⟨by omega, again (q + 1) [] (by omega) (by omega) ?_⟩
      simp only [strmInv, strm, go_sem]
    · have hge : s.length ≤ 64 * q := by have := of_decide_eq_false h; omega
      simp only [h, gaT, blockRefC, hl, go_sem]
      refine loop_inv (envOf_ok gaT_ok 43) (outTInv k n c s q) (fun i => i ≤ s.length) (fun i => s.length - i) 0 [] (by omega) ?_ ?_
      · simp only [outTInv, go_sem]
      · intro i hi
        have hx := outT_succ k n c s q i
        have hlt := turnL_len k n c s
        rcases i with _ | i
        · simp only [outTInv, envOf, gaT, go_sem]
          refine br (fun h2 => ?_) fun h2 => ?_
          · have h2' : 0 < s.length := by have := of_decide_eq_true h2; omega
            have hx := hx h2' hge
            simp only [Nat.zero_add, List.take_zero, List.nil_append] at hx
            simp only [h2, gaT, hl, go_sem]
            refine ⟨by omega, by omega, rfl, again 1 [(500, 100072)] (by omega) (by omega) ?_⟩
            simp only [outTInv, hx, go_sem]
          · have hs0 : s = [] := by
              have := of_decide_eq_false h2
              exact List.eq_nil_of_length_eq_zero (by omega)
            subst hs0
            simp only [h2, gaT, hl, go_sem]
            all_goals rfl
        · simp only [outTInv, envOf, gaT, go_sem]
          have hw : IntKind.i64.wrap (((i + 1 : Nat) : Int) + 1) = ((i + 1 + 1 : Nat) : Int) := by rw [IntKind.wrap_i64]; omega
          refine br (fun h2 => ?_) fun h2 => ?_
          · have h2' : i + 1 < s.length := by have := of_decide_eq_true h2; omega
            have hx := hx h2' hge
            simp only [h2, gaT, hl, hw, go_sem]
            refine ⟨⟨by omega, by omega⟩, ⟨by omega, by omega⟩, ⟨by rw [List.length_take]; omega, by omega, by omega⟩, rfl, again (i + 1 + 1) [(500, 100072)] (by omega) (by omega) ?_⟩
            simp only [outTInv, hx, go_sem]
          · have hi' : i + 1 = s.length := by have := of_decide_eq_false h2; omega
            have ht : ((turnL k n c s).take (i + 1)).take (i + 1) = turnL k n c s := by
              rw [List.take_take, Nat.min_self, List.take_of_length_le (by omega)]
            have hlen : ((turnL k n c s).take (i + 1)).length = i + 1 := by rw [List.length_take]; omega
            simp only [h2, gaT, hl, ht, hlen, go_sem]
def turnRefC : Con := con0 fun args => match args with
  | [.one (.str k), .one (.str n), .one (.u32 c), .one (.str s)] => some (.c (.one (.str (turnL k n c s))), [k.length = 32, n.length = 12, s.length ≤ 4096])
  | _ => none
theorem turnRefC_ok : ConOk Tryz.prog 75 turnRefC := con0_ok Tryz.func75 rfl rfl fun args res ob h hob => by
  split at h
  · injection h with h; injection h with h1 h2; subst h1; subst h2; exact refTurn_tri _ _ _ _ hob.1 hob.2.1 hob.2.2.1
  · cases h
end Go.Proofs.YtahiopdkekkibaaGreatDoor.FC

/-
  Layer 7: the document's box.
-/
namespace Go.Proofs.YtahiopdkekkibaaGreatDoor.FC
open Go Go.RowKit
set_option maxHeartbeats 4000000
set_option linter.unusedSimpArgs false
set_option linter.unusedVariables false
theorem sizeByte (n : Nat) (hn : n ≤ 65536) (k : Nat) (hk : k < 64) (m : Nat) (hm : m = n / 2 ^ k) : by8 ((m % 256 : Nat) : Int) = (shr64 (by64 (n : Int)) k).toUInt8 := by
  apply UInt8.toNat_inj.1
  have hb : (by64 (n : Int)).toNat = n := by
    unfold by64
    rw [UInt64.toNat_ofNat_of_lt' (by show _ < 18446744073709551616; omega)]; omega
  rw [UInt64.toNat_toUInt8, shr64n hk, hb, ← hm]
  unfold by8
  simp only [UInt8.toNat_ofNat']
  omega
set_option maxRecDepth 100000 in
theorem refSize_tri (s : List UInt8) (hs : s.length ≤ 65536) : Tri Tryz.prog 117 [.one (.str s)] [] (.c (.one (.str (lenB s.length)))) [] := by
  refine tri_of (envOf_ok ga0_ok 22) Tryz.func117 rfl rfl (rs := [.tmp 2]) rfl rfl (by simp [envOf]) rfl [] ?_
  have m0 : (((s.length : Nat) : Int)).tmod 256 = ((s.length % 256 : Nat) : Int) := by rw [show (256 : Int) = ((256 : Nat) : Int) from rfl, ← Int.ofNat_tmod]
  have d0 : IntKind.i64.wrap (((s.length : Nat) : Int).tdiv 256) = (((s.length / 256) : Nat) : Int) := by
    rw [show (256 : Int) = ((256 : Nat) : Int) from rfl, ← Int.ofNat_tdiv, IntKind.wrap_i64]; omega
  have b0 := sizeByte s.length hs 0 (by decide) s.length (by simp only [Nat.reducePow] <;> omega)
  have m1 : ((((s.length / 256) : Nat) : Int)).tmod 256 = (((s.length / 256) % 256 : Nat) : Int) := by rw [show (256 : Int) = ((256 : Nat) : Int) from rfl, ← Int.ofNat_tmod]
  have d1 : IntKind.i64.wrap ((((s.length / 256) : Nat) : Int).tdiv 256) = ((((s.length / 256) / 256) : Nat) : Int) := by
    rw [show (256 : Int) = ((256 : Nat) : Int) from rfl, ← Int.ofNat_tdiv, IntKind.wrap_i64]; omega
  have b1 := sizeByte s.length hs 8 (by decide) (s.length / 256) (by simp only [Nat.reducePow] <;> omega)
  have m2 : (((((s.length / 256) / 256) : Nat) : Int)).tmod 256 = ((((s.length / 256) / 256) % 256 : Nat) : Int) := by rw [show (256 : Int) = ((256 : Nat) : Int) from rfl, ← Int.ofNat_tmod]
  have d2 : IntKind.i64.wrap (((((s.length / 256) / 256) : Nat) : Int).tdiv 256) = (((((s.length / 256) / 256) / 256) : Nat) : Int) := by
    rw [show (256 : Int) = ((256 : Nat) : Int) from rfl, ← Int.ofNat_tdiv, IntKind.wrap_i64]; omega
  have b2 := sizeByte s.length hs 16 (by decide) ((s.length / 256) / 256) (by simp only [Nat.reducePow] <;> omega)
  have m3 : ((((((s.length / 256) / 256) / 256) : Nat) : Int)).tmod 256 = (((((s.length / 256) / 256) / 256) % 256 : Nat) : Int) := by rw [show (256 : Int) = ((256 : Nat) : Int) from rfl, ← Int.ofNat_tmod]
  have d3 : IntKind.i64.wrap ((((((s.length / 256) / 256) / 256) : Nat) : Int).tdiv 256) = ((((((s.length / 256) / 256) / 256) / 256) : Nat) : Int) := by
    rw [show (256 : Int) = ((256 : Nat) : Int) from rfl, ← Int.ofNat_tdiv, IntKind.wrap_i64]; omega
  have b3 := sizeByte s.length hs 24 (by decide) (((s.length / 256) / 256) / 256) (by simp only [Nat.reducePow] <;> omega)
  have m4 : (((((((s.length / 256) / 256) / 256) / 256) : Nat) : Int)).tmod 256 = ((((((s.length / 256) / 256) / 256) / 256) % 256 : Nat) : Int) := by rw [show (256 : Int) = ((256 : Nat) : Int) from rfl, ← Int.ofNat_tmod]
  have d4 : IntKind.i64.wrap (((((((s.length / 256) / 256) / 256) / 256) : Nat) : Int).tdiv 256) = (((((((s.length / 256) / 256) / 256) / 256) / 256) : Nat) : Int) := by
    rw [show (256 : Int) = ((256 : Nat) : Int) from rfl, ← Int.ofNat_tdiv, IntKind.wrap_i64]; omega
  have b4 := sizeByte s.length hs 32 (by decide) ((((s.length / 256) / 256) / 256) / 256) (by simp only [Nat.reducePow] <;> omega)
  have m5 : ((((((((s.length / 256) / 256) / 256) / 256) / 256) : Nat) : Int)).tmod 256 = (((((((s.length / 256) / 256) / 256) / 256) / 256) % 256 : Nat) : Int) := by rw [show (256 : Int) = ((256 : Nat) : Int) from rfl, ← Int.ofNat_tmod]
  have d5 : IntKind.i64.wrap ((((((((s.length / 256) / 256) / 256) / 256) / 256) : Nat) : Int).tdiv 256) = ((((((((s.length / 256) / 256) / 256) / 256) / 256) / 256) : Nat) : Int) := by
    rw [show (256 : Int) = ((256 : Nat) : Int) from rfl, ← Int.ofNat_tdiv, IntKind.wrap_i64]; omega
  have b5 := sizeByte s.length hs 40 (by decide) (((((s.length / 256) / 256) / 256) / 256) / 256) (by simp only [Nat.reducePow] <;> omega)
  have m6 : (((((((((s.length / 256) / 256) / 256) / 256) / 256) / 256) : Nat) : Int)).tmod 256 = ((((((((s.length / 256) / 256) / 256) / 256) / 256) / 256) % 256 : Nat) : Int) := by rw [show (256 : Int) = ((256 : Nat) : Int) from rfl, ← Int.ofNat_tmod]
  have d6 : IntKind.i64.wrap (((((((((s.length / 256) / 256) / 256) / 256) / 256) / 256) : Nat) : Int).tdiv 256) = (((((((((s.length / 256) / 256) / 256) / 256) / 256) / 256) / 256) : Nat) : Int) := by
    rw [show (256 : Int) = ((256 : Nat) : Int) from rfl, ← Int.ofNat_tdiv, IntKind.wrap_i64]; omega
  have b6 := sizeByte s.length hs 48 (by decide) ((((((s.length / 256) / 256) / 256) / 256) / 256) / 256) (by simp only [Nat.reducePow] <;> omega)
  have m7 : ((((((((((s.length / 256) / 256) / 256) / 256) / 256) / 256) / 256) : Nat) : Int)).tmod 256 = (((((((((s.length / 256) / 256) / 256) / 256) / 256) / 256) / 256) % 256 : Nat) : Int) := by rw [show (256 : Int) = ((256 : Nat) : Int) from rfl, ← Int.ofNat_tmod]
  have d7 : IntKind.i64.wrap ((((((((((s.length / 256) / 256) / 256) / 256) / 256) / 256) / 256) : Nat) : Int).tdiv 256) = ((((((((((s.length / 256) / 256) / 256) / 256) / 256) / 256) / 256) / 256) : Nat) : Int) := by
    rw [show (256 : Int) = ((256 : Nat) : Int) from rfl, ← Int.ofNat_tdiv, IntKind.wrap_i64]; omega
  have b7 := sizeByte s.length hs 56 (by decide) (((((((s.length / 256) / 256) / 256) / 256) / 256) / 256) / 256) (by simp only [Nat.reducePow] <;> omega)
  simp only [envOf, ga0, go_sem]
  refine loop_rounds (envOf_ok ga0_ok 22) 9 ?_
  simp only [envOf, ga0, m0, d0, b0, m1, d1, b1, m2, d2, b2, m3, d3, b3, m4, d4, b4, m5, d5, b5, m6, d6, b6, m7, d7, b7, lenB, go_sem]
  all_goals trace_state
def fillInv (s : List UInt8) (q : Nat) : St := ⟨[(3, .c (.one (.sl 500 0 1 (s.length + q))))], [(500, ⟨.arr UInt8 u8L (s ++ List.replicate q 0), true⟩)]⟩
set_option maxRecDepth 100000 in
theorem refFill_tri (s : List UInt8) (hs : s.length ≤ 65536) : Tri Tryz.prog 116 [.one (.str s)] [] (.c (.one (.str (fillL s)))) [] := by
  refine tri_of (envOf_ok ga0_ok 15) Tryz.func116 rfl rfl (rs := [.tmp 2]) rfl rfl (by simp [envOf]) rfl [] ?_
  simp only [envOf, ga0, go_sem]
  refine loop_inv (envOf_ok ga0_ok 15) (fillInv s) (fun q => q ≤ (16 - s.length % 16) % 16) (fun q => 16 - q) 0 [(500, 20008)] (Nat.zero_le _) ?_ ?_
  · simp only [fillInv, go_sem]
  · intro q hq
    have m1 : (((s.length + q : Nat) : Int)).tmod 16 = (((s.length + q) % 16 : Nat) : Int) := by rw [show (16 : Int) = ((16 : Nat) : Int) from rfl, ← Int.ofNat_tmod]
    have hl : (s ++ List.replicate q (0 : UInt8)).length = s.length + q := by simp
    have hr : s ++ List.replicate (q + 1) (0 : UInt8) = s ++ List.replicate q 0 ++ [0] := by rw [List.replicate_succ', List.append_assoc]
    simp only [fillInv, envOf, ga0, m1, go_sem]
    refine br (fun h => ?_) fun h => ?_
    · have g := of_decide_eq_true h
      simp only [h, envOf, ga0, go_sem]
      have hidx : s.length + (q + 1) = s.length + q + 1 := rfl
      refine ⟨⟨hl, by omega, by omega⟩, again (q + 1) [(500, 40016)] (by omega) (by omega) ?_⟩
      simp only [fillInv, hr, hidx, go_sem]
    · have g := of_decide_eq_false h
      have hq' : q = (16 - s.length % 16) % 16 := by omega
      have ht : (s ++ List.replicate q (0 : UInt8)).take (s.length + q) = fillL s := by
        rw [List.take_of_length_le (by rw [hl]; exact Nat.le_refl _), fillL, ← hq']
      simp only [h, envOf, ga0, ht, hl, go_sem]
      all_goals trace_state
def refSizeC : Con := con0 fun args => match args with
  | [.one (.str s)] => some (.c (.one (.str (lenB s.length))), [s.length ≤ 65536])
  | _ => none
theorem refSizeC_ok : ConOk Tryz.prog 117 refSizeC := con0_ok Tryz.func117 rfl rfl fun args res ob h hob => by
  split at h
  · injection h with h; injection h with h1 h2; subst h1; subst h2; exact refSize_tri _ hob.1
  · cases h
def refFillC : Con := con0 fun args => match args with
  | [.one (.str s)] => some (.c (.one (.str (fillL s))), [s.length ≤ 65536])
  | _ => none
theorem refFillC_ok : ConOk Tryz.prog 116 refFillC := con0_ok Tryz.func116 rfl rfl fun args res ob h hob => by
  split at h
  · injection h with h; injection h with h1 h2; subst h1; subst h2; exact refFill_tri _ hob.1
  · cases h
def gr1 : Nat → Option Con := fun f => match f with
  | 114 => some blockRefC
  | 115 => some refTagC
  | 116 => some refFillC
  | 117 => some refSizeC
  | _ => none
theorem gr1_ok : GaOk Tryz.prog gr1 := fun f con h => by
  unfold gr1 at h
  split at h
  · injection h with h; subst h; exact blockRefC_ok
  · injection h with h; subst h; exact refTagC_ok
  · injection h with h; subst h; exact refFillC_ok
  · injection h with h; subst h; exact refSizeC_ok
  · cases h
set_option maxRecDepth 100000 in
theorem refTagA_tri (k n w t : List UInt8) (hk : k.length = 32) (hn : n.length = 12) (hw : w.length ≤ 1100) (ht : t.length ≤ 1100) : Tri Tryz.prog 76 [.one (.str k), .one (.str n), .one (.str w), .one (.str t)] [] (.c (.one (.str (tagA k n w t)))) [] := by
  refine tri_of (envOf_ok gr1_ok 25) Tryz.func76 rfl rfl (rs := [.tmp 8]) rfl rfl (by simp [envOf]) rfl [] ?_
  have h2 := blkLen k n 0
  have h3 : ((blockL k n 0).take 32).length = 32 := by rw [List.length_take, h2]; rfl
  have f1 := fillL_le w
  have f2 := fillL_le t
  simp only [envOf, gr1, blockRefC, refTagC, refFillC, refSizeC, hk, hn, h2, h3, tagA, go_sem]
  simp only [List.length_append, lenB_len]
  repeat' apply And.intro
  all_goals first
    | omega
    | rfl
def refTagAC : Con := con0 fun args => match args with
  | [.one (.str k), .one (.str n), .one (.str w), .one (.str t)] => some (.c (.one (.str (tagA k n w t))), [k.length = 32, n.length = 12, w.length ≤ 1100, t.length ≤ 1100])
  | _ => none
theorem refTagAC_ok : ConOk Tryz.prog 76 refTagAC := con0_ok Tryz.func76 rfl rfl fun args res ob h hob => by
  split at h
  · injection h with h; injection h with h1 h2; subst h1; subst h2; exact refTagA_tri _ _ _ _ hob.1 hob.2.1 hob.2.2.1 hob.2.2.2.1
  · cases h
def gr2 : Nat → Option Con := fun f => match f with
  | 75 => some turnRefC
  | 76 => some refTagAC
  | _ => none
theorem gr2_ok : GaOk Tryz.prog gr2 := fun f con h => by
  unfold gr2 at h
  split at h
  · injection h with h; subst h; exact turnRefC_ok
  · injection h with h; subst h; exact refTagAC_ok
  · cases h
set_option maxRecDepth 100000 in
theorem refSeal_tri (k n w s : List UInt8) (hk : k.length = 32) (hn : n.length = 12) (hw : w.length ≤ 1100) (ht : s.length ≤ 1100) : Tri Tryz.prog 37 [.one (.str k), .one (.str n), .one (.str w), .one (.str s)] [] (.c (.one (.str (sealL k n w s)))) [] := by
  refine tri_of (envOf_ok gr2_ok 21) Tryz.func37 rfl rfl (rs := [.tmp 8]) rfl rfl (by simp [envOf]) rfl [] ?_
  simp only [envOf, gr2, turnRefC, refTagAC, hk, hn, sealL, turnL_len, tagA_len, go_sem]
  repeat' apply And.intro
  all_goals first
    | omega
    | rfl
def refOpenB (k n w box : List UInt8) : Bool := decide (16 ≤ box.length) && openB k n w box
set_option maxRecDepth 100000 in
theorem refOpen_tri (k n w box : List UInt8) (hk : k.length = 32) (hn : n.length = 12) (hw : w.length ≤ 1100) (ht : box.length ≤ 1100) : Tri Tryz.prog 40 [.one (.str k), .one (.str n), .one (.str w), .one (.str box)] [] (.tup [.one (.str (if refOpenB k n w box = true then turnL k n 1 (box.take (box.length - 16)) else [])), .one (.bo (refOpenB k n w box))]) [] := by
  refine tri_of (envOf_ok gr2_ok 35) Tryz.func40 rfl rfl (rs := [.tmp 8, .tmp 9]) rfl rfl (by simp [envOf]) rfl [] ?_
  by_cases h16 : 16 ≤ box.length
  · have w1 : IntKind.i64.wrap ((box.length : Int) - 16) = ((box.length - 16 : Nat) : Int) := by rw [IntKind.wrap_i64]; omega
    have c1 : decide (((box.length - 16 : Nat) : Int) < 0) = false := decide_eq_false (by omega)
    have htk : (box.take (box.length - 16)).length ≤ 1100 := by rw [List.length_take]; omega
    have hc : (tagA k n w (box.take (box.length - 16)) == box.drop (box.length - 16)) = openB k n w box := by
      unfold openB; rw [Bool.eq_iff_iff, beq_iff_eq, beq_iff_eq]; exact eq_comm
    cases ho : openB k n w box with
    | false =>
      have hB : refOpenB k n w box = false := by unfold refOpenB; rw [ho, Bool.and_false]
      rw [ho] at hc
      simp only [envOf, gr2, turnRefC, refTagAC, hk, hn, w1, c1, hc, hB, go_sem]
      repeat' apply And.intro
      all_goals first
        | omega
        | rfl
    | true =>
      have hB : refOpenB k n w box = true := by unfold refOpenB; rw [ho, Bool.and_true]; exact decide_eq_true h16
      rw [ho] at hc
      simp only [envOf, gr2, turnRefC, refTagAC, hk, hn, w1, c1, hc, hB, go_sem]
      repeat' apply And.intro
      all_goals first
        | omega
        | rfl
  · have w1 : IntKind.i64.wrap ((box.length : Int) - 16) = (box.length : Int) - 16 := by rw [IntKind.wrap_i64]; omega
    have c1 : decide ((box.length : Int) - 16 < 0) = true := decide_eq_true (by omega)
    have hB : refOpenB k n w box = false := by unfold refOpenB; rw [decide_eq_false h16, Bool.false_and]
    simp only [envOf, gr2, turnRefC, refTagAC, hk, hn, w1, c1, hB, go_sem]
    rfl
def refSealC : Con := con0 fun args => match args with
  | [.one (.str k), .one (.str n), .one (.str w), .one (.str s)] => some (.c (.one (.str (sealL k n w s))), [k.length = 32, n.length = 12, w.length ≤ 1100, s.length ≤ 1100])
  | _ => none
theorem refSealC_ok : ConOk Tryz.prog 37 refSealC := con0_ok Tryz.func37 rfl rfl fun args res ob h hob => by
  split at h
  · injection h with h; injection h with h1 h2; subst h1; subst h2; exact refSeal_tri _ _ _ _ hob.1 hob.2.1 hob.2.2.1 hob.2.2.2.1
  · cases h
def refOpenC : Con := con0 fun args => match args with
  | [.one (.str k), .one (.str n), .one (.str w), .one (.str box)] => some (.tup [.one (.str (if refOpenB k n w box = true then turnL k n 1 (box.take (box.length - 16)) else [])), .one (.bo (refOpenB k n w box))], [k.length = 32, n.length = 12, w.length ≤ 1100, box.length ≤ 1100])
  | _ => none
theorem refOpenC_ok : ConOk Tryz.prog 40 refOpenC := con0_ok Tryz.func40 rfl rfl fun args res ob h hob => by
  split at h
  · injection h with h; injection h with h1 h2; subst h1; subst h2; exact refOpen_tri _ _ _ _ hob.1 hob.2.1 hob.2.2.1 hob.2.2.2.1
  · cases h
end Go.Proofs.YtahiopdkekkibaaGreatDoor.FC

