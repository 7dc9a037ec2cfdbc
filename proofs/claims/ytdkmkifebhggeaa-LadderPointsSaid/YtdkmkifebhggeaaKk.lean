/-
  The document's digits to the base 65536: differences, which is less, the prime.
-/
import Derived.Test.YtdkmkifebhggeaaSz
import Derived.Test.YtdkmkifebhggeaaKj
namespace Go.Proofs.Ytdkmkifebhggeaa
open Go Go.RowKit
set_option maxHeartbeats 4000000
set_option linter.unusedSimpArgs false
set_option linter.unusedVariables false
def minT (B : Nat) (a b : List Nat) (c i : Nat) : Nat := a.getD i 0 + B - b.getD i 0 - c
def minG (B : Nat) (a b : List Nat) : Nat → List Nat × Nat
  | 0 => ([], 0)
  | i + 1 => ((minG B a b i).1 ++ [minT B a b (minG B a b i).2 i % B], if minT B a b (minG B a b i).2 i < B then 1 else 0)
theorem minG_len (B : Nat) (a b : List Nat) : ∀ i, (minG B a b i).1.length = i
  | 0 => rfl
  | i + 1 => by rw [minG, List.length_append, minG_len B a b i]; rfl
theorem minG_car (B : Nat) (a b : List Nat) : ∀ i, (minG B a b i).2 ≤ 1
  | 0 => Nat.zero_le _
  | i + 1 => by rw [minG]; simp only; split <;> omega
theorem minG_lt {B : Nat} (hB : 0 < B) (a b : List Nat) : ∀ i, dlt B (minG B a b i).1
  | 0 => dlt_nil hB
  | i + 1 => dlt_append (minG_lt hB a b i) (dlt_mk (Nat.mod_lt _ hB) (dlt_nil hB))
theorem minG_v {B : Nat} (hB : 1 < B) {a b : List Nat} (ha : dlt B a) (hb : dlt B b) : ∀ i, dv B (minG B a b i).1 + dv B (b.take i) = dv B (a.take i) + (minG B a b i).2 * B ^ i
  | 0 => by simp [minG, dv]
  | i + 1 => by
    have ih := minG_v hB ha hb i
    have hc := minG_car B a b i
    have h1 := ha i
    have h2 := hb i
    rw [dv_take, dv_take, minG]
    simp only
    rw [dv_append, minG_len, Nat.pow_succ]
    simp only [dv, Nat.mul_zero, Nat.add_zero]
    by_cases hlt : minT B a b (minG B a b i).2 i < B
    · rw [if_pos hlt, Nat.mod_eq_of_lt hlt]
      unfold minT at hlt ⊢
      generalize B ^ i = Q at *
      generalize (minG B a b i).2 = c at *
      generalize dv B (minG B a b i).1 = L at *
      generalize a.getD i 0 = x at *
      generalize b.getD i 0 = y at *
      generalize dv B (a.take i) = V at *
      generalize dv B (b.take i) = W at *
      have e : x + B - y - c + y + c = x + B := by omega
      have e2 : Q * (x + B - y - c) + y * Q + c * Q = x * Q + Q * B := by
        rw [Nat.mul_comm y, Nat.mul_comm c, ← Nat.mul_add, ← Nat.mul_add, e, Nat.mul_add, Nat.mul_comm Q x]
      have e3 : 1 * (Q * B) = Q * B := Nat.one_mul _
      rw [e3]
      omega
    · rw [if_neg hlt, Nat.mod_eq_sub_mod (by omega), Nat.mod_eq_of_lt (by unfold minT at hlt ⊢; omega)]
      unfold minT at hlt ⊢
      generalize B ^ i = Q at *
      generalize (minG B a b i).2 = c at *
      generalize dv B (minG B a b i).1 = L at *
      generalize a.getD i 0 = x at *
      generalize b.getD i 0 = y at *
      generalize dv B (a.take i) = V at *
      generalize dv B (b.take i) = W at *
      have e : x + B - y - c - B + y + c = x := by omega
      have e2 : Q * (x + B - y - c - B) + y * Q + c * Q = x * Q := by
        rw [Nat.mul_comm y, Nat.mul_comm c, ← Nat.mul_add, ← Nat.mul_add, e, Nat.mul_comm]
      omega
def minL (B : Nat) (a b : List Nat) : List Nat := (minG B a b 16).1
theorem minL_v {B : Nat} (hB : 1 < B) {a b : List Nat} (ha : dlt B a) (hb : dlt B b) (la : a.length = 16) (lb : b.length = 16) (h : dv B b ≤ dv B a) : dv B (minL B a b) = dv B a - dv B b ∧ dlt B (minL B a b) ∧ (minL B a b).length = 16 := by
  have hv := minG_v hB ha hb 16
  have hl := dv_lt (by omega : 0 < B) (minG_lt (by omega : 0 < B) a b 16)
  rw [minG_len] at hl
  have hc := minG_car B a b 16
  rw [dv_all B a 16 (by omega), dv_all B b 16 (by omega)] at hv
  refine ⟨?_, minG_lt (by omega) a b 16, minG_len B a b 16⟩
  show dv B (minG B a b 16).1 = _
  rcases (show (minG B a b 16).2 = 0 ∨ (minG B a b 16).2 = 1 by omega) with h0 | h0
  · rw [h0, Nat.zero_mul] at hv; omega
  · rw [h0, Nat.one_mul] at hv; omega
theorem below_step {B : Nat} {a b : List Nat} (ha : dlt B a) (hb : dlt B b) (i : Nat) (hi : i < a.length) (hl : a.length = b.length) (h : a.drop (i + 1) = b.drop (i + 1)) (hne : a.getD i 0 ≠ b.getD i 0) : decide (dv B a < dv B b) = decide (a.getD i 0 < b.getD i 0) := by
  have hB : 0 < B := by have := ha 0; omega
  have split : ∀ (l : List Nat), i < l.length → dv B l = dv B (l.take i) + l.getD i 0 * B ^ i + B ^ (i + 1) * dv B (l.drop (i + 1)) := fun l hl => by
    have h1 : dv B l = dv B (l.take (i + 1)) + B ^ (i + 1) * dv B (l.drop (i + 1)) := by
      conv => lhs; rw [← List.take_append_drop (i + 1) l]
      rw [dv_append, List.length_take, Nat.min_eq_left (by omega)]
    rw [h1, dv_take]
  have lt : ∀ (l : List Nat), dlt B l → i < l.length → dv B (l.take i) < B ^ i := fun l hd hl => by
    have ht : dlt B (l.take i) := fun j => by
      rw [List.getD_eq_getElem?_getD, List.getElem?_take]
      split
      · rw [← List.getD_eq_getElem?_getD]; exact hd j
      · simpa using hB
    have := dv_lt hB ht
    rwa [List.length_take, Nat.min_eq_left (by omega)] at this
  have s1 := split a hi
  have s2 := split b (by omega)
  have l1 := lt a ha hi
  have l2 := lt b hb (by omega)
  rw [h] at s1
  rw [s1, s2]
  generalize dv B (a.take i) = V at *
  generalize dv B (b.take i) = W at *
  generalize a.getD i 0 = x at *
  generalize b.getD i 0 = y at *
  generalize B ^ (i + 1) * dv B (b.drop (i + 1)) = R at *
  generalize B ^ i = Q at *
  rcases Nat.lt_or_ge x y with hxy | hxy
  · have : x * Q + Q ≤ y * Q := by rw [← Nat.succ_mul]; exact Nat.mul_le_mul_right Q hxy
    rw [decide_eq_true hxy]
    exact decide_eq_true (by omega)
  · have : y * Q + Q ≤ x * Q := by rw [← Nat.succ_mul]; exact Nat.mul_le_mul_right Q (by omega)
    rw [decide_eq_false (by omega : ¬ x < y)]
    exact decide_eq_false (by omega)
def primeL : List Nat := [65517, 65535, 65535, 65535, 65535, 65535, 65535, 65535, 65535, 65535, 65535, 65535, 65535, 65535, 65535, 32767]
theorem primeL_v : dv 65536 primeL = 57896044618658097711785492504343953926634992332820282019728792003956564819949 := by decide
/-- A contract that reads two rows and tells something. -/
def conB2 (F : List CV → List Nat → List Nat → Option (SV × List Prop)) : Con := ⟨false, fun args os => match os with
  | [oa, ob] => match F args (natsOf oa) (natsOf ob) with
    | some (v, obl) => some (v, [], [], rowOf oa :: rowOf ob :: obl)
    | none => none
  | _ => none⟩
theorem conB2_ok {P : Program} {f : FuncId} {fn : Func} (hf : P.funcs[f]? = some fn) (hb : fn.body.isSome = true) (hn : (fn.name == "runtime.NumGoroutine") = false) {F : List CV → List Nat → List Nat → Option (SV × List Prop)}
    (h : ∀ args a b v ob, F args a b = some (v, ob) → AllT ob → ∀ wa wb, Tri P f args [(0, ⟨.arr Nat natL a, wa⟩), (1, ⟨.arr Nat natL b, wb⟩)] v [(0, ⟨.arr Nat natL a, wa⟩), (1, ⟨.arr Nat natL b, wb⟩)]) : ConOk P f (conB2 F) := by
  refine .inl ⟨⟨fn, hf, hb, hn⟩, fun args es res upd news ob hr hob _ => ?_⟩
  unfold conB2 at hr
  simp only at hr
  split at hr
  · rename_i oa ob' hes
    obtain ⟨e, e', rfl⟩ : ∃ e e', es = [e, e'] := by
      match es, hes with
      | [e, e'], _ => exact ⟨e, e', rfl⟩
    simp only [List.map_cons, List.map_nil, List.cons.injEq, and_true] at hes
    obtain ⟨rfl, rfl⟩ := hes
    cases hF : F args (natsOf e.o) (natsOf e'.o) with
    | none => rw [hF] at hr; cases hr
    | some q =>
      obtain ⟨v, ob'⟩ := q
      simp only [hF, Option.some.injEq, Prod.mk.injEq] at hr
      obtain ⟨rfl, rfl, rfl, rfl⟩ := hr
      have s1 := simE_row hob.1 e.wr
      have s2 := simE_row hob.2.1 e'.wr
      exact (h args _ _ v ob' hF hob.2.2 e.wr e'.wr).sim (.cons s1 (.cons s2 .nil)) (.cons s1 (.cons s2 .nil))
  · cases hr
def gminInv (a b : List Nat) (wa wb : Bool) : Nat → St
  | 0 => ⟨[(0, .c (.one (.sl 0 0 1 16))), (1, .c (.one (.sl 1 0 1 16))), (5, .c (.one (.val (.slice none 0 0)))), (6, .c (.one (.num 0))), (7, .c (.one (.num 0)))], [(0, ⟨.arr Nat natL a, wa⟩), (1, ⟨.arr Nat natL b, wb⟩)]⟩
  | i + 1 => ⟨[(0, .c (.one (.sl 0 0 1 16))), (1, .c (.one (.sl 1 0 1 16))), (5, .c (.one (.sl 500 0 1 (i + 1)))), (6, .c (.one (.num (minG 65536 a b (i + 1)).2))), (7, .c (.one (.num (i + 1 : Nat))))], [(0, ⟨.arr Nat natL a, wa⟩), (1, ⟨.arr Nat natL b, wb⟩), (500, ⟨.arr Nat natL (minG 65536 a b (i + 1)).1, true⟩)]⟩
set_option maxRecDepth 100000 in
theorem gmin_tri (a b : List Nat) (wa wb : Bool) (ha : dlt 65536 a) (hb : dlt 65536 b) (la : 16 ≤ a.length) (lb : 16 ≤ b.length) : Tri Try.prog 37 [.one (.sl 0 0 1 16), .one (.sl 1 0 1 16)] [(0, ⟨.arr Nat natL a, wa⟩), (1, ⟨.arr Nat natL b, wb⟩)] (.c (.one (.sl 2 0 1 16))) [(0, ⟨.arr Nat natL a, wa⟩), (1, ⟨.arr Nat natL b, wb⟩), (2, ⟨.arr Nat natL (minL 65536 a b), true⟩)] := by
  refine tri_of (envR_ok ga0_ok 33 [0, 1]) Try.func37 rfl rfl (rs := [.tmp 4]) rfl rfl (by simp [envR]) rfl [(2, 500)] ?_
  simp only [envR, con0, conN0, conN1, conN2, natsOf_arr, rowOf_arr, natsOf_cells, rowOf_cells, toN, natL_st, natL_d, natL_enc, natL_up, ga0, go_sem, reduceCtorEq, ↓reduceIte, Nat.reduceAdd, Nat.reduceMul, Nat.reduceSub, Nat.reduceEqDiff, Nat.reduceLT, Nat.reduceBEq, Nat.reduceBNe, Nat.reduceLeDiff, Int.reduceLE, Int.reduceLT, Int.reduceToNat, Int.reduceEq, Int.reduceAdd, UInt8.reduceToNat, UInt32.reduceToNat, UInt64.reduceToNat, UInt8.reduceOfNat, UInt32.reduceOfNat, UInt64.reduceOfNat, Fin.isValue, Int.reduceSub, Int.reduceMul, Int.reduceNeg, Int.reduceMod, Int.reduceDiv, Int.reduceTDiv, Int.reduceTMod, Int.reduceBEq, Int.reduceBNe, Nat.reduceDiv, Nat.reducePow]
  refine loop_inv (envR_ok ga0_ok 33 [0, 1]) (gminInv a b wa wb) (fun i => i ≤ 16) (fun i => 16 - i) 0 [] (by omega) ?_ ?_
  · simp only [gminInv, go_sem, reduceCtorEq, ↓reduceIte, Nat.reduceAdd, Nat.reduceMul, Nat.reduceSub, Nat.reduceEqDiff, Nat.reduceLT, Nat.reduceBEq, Nat.reduceBNe, Nat.reduceLeDiff, Int.reduceLE, Int.reduceLT, Int.reduceToNat, Int.reduceEq, Int.reduceAdd, UInt8.reduceToNat, UInt32.reduceToNat, UInt64.reduceToNat, UInt8.reduceOfNat, UInt32.reduceOfNat, UInt64.reduceOfNat, Fin.isValue, Int.reduceSub, Int.reduceMul, Int.reduceNeg, Int.reduceMod, Int.reduceDiv, Int.reduceTDiv, Int.reduceTMod, Int.reduceBEq, Int.reduceBNe, Nat.reduceDiv, Nat.reducePow]
    exact ⟨rfl, id, id⟩
  · intro i hi
    have bx := ha i
    have by' := hb i
    have bc := minG_car 65536 a b i
    have hlen := minG_len 65536 a b i
    have w1 : IntKind.i64.wrap (((a.getD i 0 : Nat) : Int) - ((b.getD i 0 : Nat) : Int)) = ((a.getD i 0 : Nat) : Int) - ((b.getD i 0 : Nat) : Int) := by rw [IntKind.wrap_i64]; omega
    have w2 : IntKind.i64.wrap (((a.getD i 0 : Nat) : Int) - ((b.getD i 0 : Nat) : Int) - ((minG 65536 a b i).2 : Int)) = ((a.getD i 0 : Nat) : Int) - ((b.getD i 0 : Nat) : Int) - ((minG 65536 a b i).2 : Int) := by rw [IntKind.wrap_i64]; omega
    by_cases h16 : i = 16
    · subst h16
      have hmin : (minG 65536 a b (15 + 1)).1 = minL 65536 a b := rfl
      simp only [show gminInv a b wa wb 16 = gminInv a b wa wb (15 + 1) from rfl]
      simp only [gminInv, hmin, envR, con0, conN0, conN1, conN2, natsOf_arr, rowOf_arr, natsOf_cells, rowOf_cells, toN, natL_st, natL_d, natL_enc, natL_up, ga0, go_sem, reduceCtorEq, ↓reduceIte, Nat.reduceAdd, Nat.reduceMul, Nat.reduceSub, Nat.reduceEqDiff, Nat.reduceLT, Nat.reduceBEq, Nat.reduceBNe, Nat.reduceLeDiff, Int.reduceLE, Int.reduceLT, Int.reduceToNat, Int.reduceEq, Int.reduceAdd, UInt8.reduceToNat, UInt32.reduceToNat, UInt64.reduceToNat, UInt8.reduceOfNat, UInt32.reduceOfNat, UInt64.reduceOfNat, Fin.isValue, Int.reduceSub, Int.reduceMul, Int.reduceNeg, Int.reduceMod, Int.reduceDiv, Int.reduceTDiv, Int.reduceTMod, Int.reduceBEq, Int.reduceBNe, Nat.reduceDiv, Nat.reducePow]
      exact ⟨rfl, id, id⟩
    rcases i with _ | i
    · have z0 : (minG 65536 a b 0).2 = 0 := rfl
      have hm0 : minT 65536 a b 0 0 = a.getD 0 0 + 65536 - b.getD 0 0 := rfl
      cases c2 : decide (((a.getD 0 0 : Nat) : Int) - ((b.getD 0 0 : Nat) : Int) < 0) with
      | true =>
        have g2 := of_decide_eq_true c2
        have w3 : IntKind.i64.wrap (((a.getD 0 0 : Nat) : Int) - ((b.getD 0 0 : Nat) : Int) + 65536) = ((minT 65536 a b 0 0 : Nat) : Int) := by
          rw [IntKind.wrap_i64]; omega
        have hlt : minT 65536 a b 0 0 < 65536 := by omega
        have gl : (minG 65536 a b 1).1 = [minT 65536 a b 0 0] := by
          show [] ++ [minT 65536 a b 0 0 % 65536] = _
          rw [Nat.mod_eq_of_lt hlt]; rfl
        have gc : (minG 65536 a b 1).2 = 1 := if_pos hlt
        simp only [gminInv, c2, w1, w3, envR, con0, conN0, conN1, conN2, natsOf_arr, rowOf_arr, natsOf_cells, rowOf_cells, toN, natL_st, natL_d, natL_enc, natL_up, ga0, go_sem, reduceCtorEq, ↓reduceIte, Nat.reduceAdd, Nat.reduceMul, Nat.reduceSub, Nat.reduceEqDiff, Nat.reduceLT, Nat.reduceBEq, Nat.reduceBNe, Nat.reduceLeDiff, Int.reduceLE, Int.reduceLT, Int.reduceToNat, Int.reduceEq, Int.reduceAdd, UInt8.reduceToNat, UInt32.reduceToNat, UInt64.reduceToNat, UInt8.reduceOfNat, UInt32.reduceOfNat, UInt64.reduceOfNat, Fin.isValue, Int.reduceSub, Int.reduceMul, Int.reduceNeg, Int.reduceMod, Int.reduceDiv, Int.reduceTDiv, Int.reduceTMod, Int.reduceBEq, Int.reduceBNe, Nat.reduceDiv, Nat.reducePow]
        repeat' apply And.intro
        all_goals first
          | omega
          | rfl
          | exact hlen
          | skip
        refine again (0 + 1) [(500, 120024)] (by omega) (by omega) ?_
        simp only [gminInv, gl, gc, envR, con0, conN0, conN1, conN2, natsOf_arr, rowOf_arr, natsOf_cells, rowOf_cells, toN, natL_st, natL_d, natL_enc, natL_up, ga0, go_sem, reduceCtorEq, ↓reduceIte, Nat.reduceAdd, Nat.reduceMul, Nat.reduceSub, Nat.reduceEqDiff, Nat.reduceLT, Nat.reduceBEq, Nat.reduceBNe, Nat.reduceLeDiff, Int.reduceLE, Int.reduceLT, Int.reduceToNat, Int.reduceEq, Int.reduceAdd, UInt8.reduceToNat, UInt32.reduceToNat, UInt64.reduceToNat, UInt8.reduceOfNat, UInt32.reduceOfNat, UInt64.reduceOfNat, Fin.isValue, Int.reduceSub, Int.reduceMul, Int.reduceNeg, Int.reduceMod, Int.reduceDiv, Int.reduceTDiv, Int.reduceTMod, Int.reduceBEq, Int.reduceBNe, Nat.reduceDiv, Nat.reducePow]
        exact ⟨rfl, id, id⟩
      | false =>
        have g2 := of_decide_eq_false c2
        obtain ⟨U, hU⟩ : ∃ U, U = a.getD 0 0 - b.getD 0 0 := ⟨_, rfl⟩
        have w4 : ((a.getD 0 0 : Nat) : Int) - ((b.getD 0 0 : Nat) : Int) = ((U : Nat) : Int) := by omega
        have hge : ¬ minT 65536 a b 0 0 < 65536 := by omega
        have hmod : minT 65536 a b 0 0 % 65536 = U := by omega
        have gl : (minG 65536 a b 1).1 = [U] := by
          show [] ++ [minT 65536 a b 0 0 % 65536] = _
          rw [hmod]; rfl
        have gc : (minG 65536 a b 1).2 = 0 := if_neg hge
        have w5 : IntKind.i64.wrap ((U : Nat) : Int) = ((U : Nat) : Int) := by rw [IntKind.wrap_i64]; omega
        rw [w4] at c2 w1
        simp only [gminInv, c2, w1, w4, w5, envR, con0, conN0, conN1, conN2, natsOf_arr, rowOf_arr, natsOf_cells, rowOf_cells, toN, natL_st, natL_d, natL_enc, natL_up, ga0, go_sem, reduceCtorEq, ↓reduceIte, Nat.reduceAdd, Nat.reduceMul, Nat.reduceSub, Nat.reduceEqDiff, Nat.reduceLT, Nat.reduceBEq, Nat.reduceBNe, Nat.reduceLeDiff, Int.reduceLE, Int.reduceLT, Int.reduceToNat, Int.reduceEq, Int.reduceAdd, UInt8.reduceToNat, UInt32.reduceToNat, UInt64.reduceToNat, UInt8.reduceOfNat, UInt32.reduceOfNat, UInt64.reduceOfNat, Fin.isValue, Int.reduceSub, Int.reduceMul, Int.reduceNeg, Int.reduceMod, Int.reduceDiv, Int.reduceTDiv, Int.reduceTMod, Int.reduceBEq, Int.reduceBNe, Nat.reduceDiv, Nat.reducePow]
        repeat' apply And.intro
        all_goals first
          | omega
          | rfl
          | exact hlen
          | skip
        refine again (0 + 1) [(500, 120024)] (by omega) (by omega) ?_
        simp only [gminInv, gl, gc, envR, con0, conN0, conN1, conN2, natsOf_arr, rowOf_arr, natsOf_cells, rowOf_cells, toN, natL_st, natL_d, natL_enc, natL_up, ga0, go_sem, reduceCtorEq, ↓reduceIte, Nat.reduceAdd, Nat.reduceMul, Nat.reduceSub, Nat.reduceEqDiff, Nat.reduceLT, Nat.reduceBEq, Nat.reduceBNe, Nat.reduceLeDiff, Int.reduceLE, Int.reduceLT, Int.reduceToNat, Int.reduceEq, Int.reduceAdd, UInt8.reduceToNat, UInt32.reduceToNat, UInt64.reduceToNat, UInt8.reduceOfNat, UInt32.reduceOfNat, UInt64.reduceOfNat, Fin.isValue, Int.reduceSub, Int.reduceMul, Int.reduceNeg, Int.reduceMod, Int.reduceDiv, Int.reduceTDiv, Int.reduceTMod, Int.reduceBEq, Int.reduceBNe, Nat.reduceDiv, Nat.reducePow]
        exact ⟨rfl, id, id⟩
    · have hw : IntKind.i64.wrap (((i + 1 : Nat) : Int) + 1) = ((i + 1 + 1 : Nat) : Int) := by rw [IntKind.wrap_i64]; omega
      have c1 : decide (((i + 1 : Nat) : Int) < 16) = true := decide_eq_true (by omega)
      cases c2 : decide (((a.getD (i + 1) 0 : Nat) : Int) - ((b.getD (i + 1) 0 : Nat) : Int) - ((minG 65536 a b (i + 1)).2 : Int) < 0) with
      | true =>
        have g2 := of_decide_eq_true c2
        have w3 : IntKind.i64.wrap (((a.getD (i + 1) 0 : Nat) : Int) - ((b.getD (i + 1) 0 : Nat) : Int) - ((minG 65536 a b (i + 1)).2 : Int) + 65536) = ((minT 65536 a b (minG 65536 a b (i + 1)).2 (i + 1) : Nat) : Int) := by
          rw [IntKind.wrap_i64]; unfold minT; omega
        have hlt : minT 65536 a b (minG 65536 a b (i + 1)).2 (i + 1) < 65536 := by unfold minT; omega
        have gl : (minG 65536 a b (i + 1 + 1)).1 = (minG 65536 a b (i + 1)).1 ++ [minT 65536 a b (minG 65536 a b (i + 1)).2 (i + 1)] := by rw [minG, Nat.mod_eq_of_lt hlt]
        have gc : (minG 65536 a b (i + 1 + 1)).2 = 1 := by rw [minG]; exact if_pos hlt
        simp only [gminInv, c1, c2, w1, w2, w3, hw, envR, con0, conN0, conN1, conN2, natsOf_arr, rowOf_arr, natsOf_cells, rowOf_cells, toN, natL_st, natL_d, natL_enc, natL_up, ga0, go_sem, reduceCtorEq, ↓reduceIte, Nat.reduceAdd, Nat.reduceMul, Nat.reduceSub, Nat.reduceEqDiff, Nat.reduceLT, Nat.reduceBEq, Nat.reduceBNe, Nat.reduceLeDiff, Int.reduceLE, Int.reduceLT, Int.reduceToNat, Int.reduceEq, Int.reduceAdd, UInt8.reduceToNat, UInt32.reduceToNat, UInt64.reduceToNat, UInt8.reduceOfNat, UInt32.reduceOfNat, UInt64.reduceOfNat, Fin.isValue, Int.reduceSub, Int.reduceMul, Int.reduceNeg, Int.reduceMod, Int.reduceDiv, Int.reduceTDiv, Int.reduceTMod, Int.reduceBEq, Int.reduceBNe, Nat.reduceDiv, Nat.reducePow]
        repeat' apply And.intro
        all_goals first
          | omega
          | rfl
          | exact hlen
          | skip
        refine again (i + 1 + 1) [(500, 120024)] (by omega) (by omega) ?_
        simp only [gminInv, gl, gc, envR, con0, conN0, conN1, conN2, natsOf_arr, rowOf_arr, natsOf_cells, rowOf_cells, toN, natL_st, natL_d, natL_enc, natL_up, ga0, go_sem, reduceCtorEq, ↓reduceIte, Nat.reduceAdd, Nat.reduceMul, Nat.reduceSub, Nat.reduceEqDiff, Nat.reduceLT, Nat.reduceBEq, Nat.reduceBNe, Nat.reduceLeDiff, Int.reduceLE, Int.reduceLT, Int.reduceToNat, Int.reduceEq, Int.reduceAdd, UInt8.reduceToNat, UInt32.reduceToNat, UInt64.reduceToNat, UInt8.reduceOfNat, UInt32.reduceOfNat, UInt64.reduceOfNat, Fin.isValue, Int.reduceSub, Int.reduceMul, Int.reduceNeg, Int.reduceMod, Int.reduceDiv, Int.reduceTDiv, Int.reduceTMod, Int.reduceBEq, Int.reduceBNe, Nat.reduceDiv, Nat.reducePow]
        exact ⟨rfl, id, id⟩
      | false =>
        have g2 := of_decide_eq_false c2
        obtain ⟨U, hU⟩ : ∃ U, U = a.getD (i + 1) 0 - b.getD (i + 1) 0 - (minG 65536 a b (i + 1)).2 := ⟨_, rfl⟩
        have w4 : ((a.getD (i + 1) 0 : Nat) : Int) - ((b.getD (i + 1) 0 : Nat) : Int) - ((minG 65536 a b (i + 1)).2 : Int) = ((U : Nat) : Int) := by omega
        have hge : ¬ minT 65536 a b (minG 65536 a b (i + 1)).2 (i + 1) < 65536 := by unfold minT; omega
        have hmod : minT 65536 a b (minG 65536 a b (i + 1)).2 (i + 1) % 65536 = U := by unfold minT; omega
        have gl : (minG 65536 a b (i + 1 + 1)).1 = (minG 65536 a b (i + 1)).1 ++ [U] := by rw [minG, hmod]
        have gc : (minG 65536 a b (i + 1 + 1)).2 = 0 := by rw [minG]; exact if_neg hge
        rw [w4] at c2 w2
        simp only [gminInv, c1, c2, w1, w2, w4, hw, envR, con0, conN0, conN1, conN2, natsOf_arr, rowOf_arr, natsOf_cells, rowOf_cells, toN, natL_st, natL_d, natL_enc, natL_up, ga0, go_sem, reduceCtorEq, ↓reduceIte, Nat.reduceAdd, Nat.reduceMul, Nat.reduceSub, Nat.reduceEqDiff, Nat.reduceLT, Nat.reduceBEq, Nat.reduceBNe, Nat.reduceLeDiff, Int.reduceLE, Int.reduceLT, Int.reduceToNat, Int.reduceEq, Int.reduceAdd, UInt8.reduceToNat, UInt32.reduceToNat, UInt64.reduceToNat, UInt8.reduceOfNat, UInt32.reduceOfNat, UInt64.reduceOfNat, Fin.isValue, Int.reduceSub, Int.reduceMul, Int.reduceNeg, Int.reduceMod, Int.reduceDiv, Int.reduceTDiv, Int.reduceTMod, Int.reduceBEq, Int.reduceBNe, Nat.reduceDiv, Nat.reducePow]
        repeat' apply And.intro
        all_goals first
          | omega
          | rfl
          | exact hlen
          | skip
        refine again (i + 1 + 1) [(500, 120024)] (by omega) (by omega) ?_
        simp only [gminInv, gl, gc, envR, con0, conN0, conN1, conN2, natsOf_arr, rowOf_arr, natsOf_cells, rowOf_cells, toN, natL_st, natL_d, natL_enc, natL_up, ga0, go_sem, reduceCtorEq, ↓reduceIte, Nat.reduceAdd, Nat.reduceMul, Nat.reduceSub, Nat.reduceEqDiff, Nat.reduceLT, Nat.reduceBEq, Nat.reduceBNe, Nat.reduceLeDiff, Int.reduceLE, Int.reduceLT, Int.reduceToNat, Int.reduceEq, Int.reduceAdd, UInt8.reduceToNat, UInt32.reduceToNat, UInt64.reduceToNat, UInt8.reduceOfNat, UInt32.reduceOfNat, UInt64.reduceOfNat, Fin.isValue, Int.reduceSub, Int.reduceMul, Int.reduceNeg, Int.reduceMod, Int.reduceDiv, Int.reduceTDiv, Int.reduceTMod, Int.reduceBEq, Int.reduceBNe, Nat.reduceDiv, Nat.reducePow]
        exact ⟨rfl, id, id⟩
set_option maxRecDepth 100000 in
theorem gprime_tri : Tri Try.prog 38 [] [] (.c (.one (.sl 0 0 1 16))) [(0, ⟨.arr Nat natL primeL, true⟩)] := by
  refine tri_ofx (envR_ok ga0_ok 14 []) Try.func38 rfl rfl (rs := [.tmp 0]) rfl rfl (by simp [envR]) rfl ?_
  simp only [envR, con0, conN0, conN1, conN2, natsOf_arr, rowOf_arr, natsOf_cells, rowOf_cells, toN, natL_st, natL_d, natL_enc, natL_up, ga0, retQx, go_sem, reduceCtorEq, ↓reduceIte, Nat.reduceAdd, Nat.reduceMul, Nat.reduceSub, Nat.reduceEqDiff, Nat.reduceLT, Nat.reduceBEq, Nat.reduceBNe, Nat.reduceLeDiff, Int.reduceLE, Int.reduceLT, Int.reduceToNat, Int.reduceEq, Int.reduceAdd, UInt8.reduceToNat, UInt32.reduceToNat, UInt64.reduceToNat, UInt8.reduceOfNat, UInt32.reduceOfNat, UInt64.reduceOfNat, Fin.isValue, Int.reduceSub, Int.reduceMul, Int.reduceNeg, Int.reduceMod, Int.reduceDiv, Int.reduceTDiv, Int.reduceTMod, Int.reduceBEq, Int.reduceBNe, Nat.reduceDiv, Nat.reducePow]
  refine loop_rounds (envR_ok ga0_ok 14 []) 15 ?_
  simp only [envR, con0, conN0, conN1, conN2, natsOf_arr, rowOf_arr, natsOf_cells, rowOf_cells, toN, natL_st, natL_d, natL_enc, natL_up, ga0, retQx, go_sem, reduceCtorEq, ↓reduceIte, Nat.reduceAdd, Nat.reduceMul, Nat.reduceSub, Nat.reduceEqDiff, Nat.reduceLT, Nat.reduceBEq, Nat.reduceBNe, Nat.reduceLeDiff, Int.reduceLE, Int.reduceLT, Int.reduceToNat, Int.reduceEq, Int.reduceAdd, UInt8.reduceToNat, UInt32.reduceToNat, UInt64.reduceToNat, UInt8.reduceOfNat, UInt32.reduceOfNat, UInt64.reduceOfNat, Fin.isValue, Int.reduceSub, Int.reduceMul, Int.reduceNeg, Int.reduceMod, Int.reduceDiv, Int.reduceTDiv, Int.reduceTMod, Int.reduceBEq, Int.reduceBNe, Nat.reduceDiv, Nat.reducePow]
  refine endX [(0, 70016)] ?_
  simp only [primeL, envR, con0, conN0, conN1, conN2, natsOf_arr, rowOf_arr, natsOf_cells, rowOf_cells, toN, natL_st, natL_d, natL_enc, natL_up, ga0, go_sem, reduceCtorEq, ↓reduceIte, Nat.reduceAdd, Nat.reduceMul, Nat.reduceSub, Nat.reduceEqDiff, Nat.reduceLT, Nat.reduceBEq, Nat.reduceBNe, Nat.reduceLeDiff, Int.reduceLE, Int.reduceLT, Int.reduceToNat, Int.reduceEq, Int.reduceAdd, UInt8.reduceToNat, UInt32.reduceToNat, UInt64.reduceToNat, UInt8.reduceOfNat, UInt32.reduceOfNat, UInt64.reduceOfNat, Fin.isValue, Int.reduceSub, Int.reduceMul, Int.reduceNeg, Int.reduceMod, Int.reduceDiv, Int.reduceTDiv, Int.reduceTMod, Int.reduceBEq, Int.reduceBNe, Nat.reduceDiv, Nat.reducePow]
def gbInv (A B a b : List Nat) (wa wb : Bool) : Nat → St
  | 0 => ⟨[(0, .c (.one (.sl 0 0 1 16))), (1, .c (.one (.sl 1 0 1 16))), (4, .c (.one (.bo false))), (5, .c (.one (.num (-1))))], [(0, ⟨.arr Nat natL A, wa⟩), (1, ⟨.arr Nat natL B, wb⟩)]⟩
  | k + 1 => ⟨[(0, .c (.one (.sl 0 0 1 16))), (1, .c (.one (.sl 1 0 1 16))), (4, .c (.one (.bo false))), (5, .c (.one (.num (k : Nat))))], [(0, ⟨.arr Nat natL A, wa⟩), (1, ⟨.arr Nat natL B, wb⟩)]⟩
set_option maxRecDepth 100000 in
theorem gbelow_tri (A B a b : List Nat) (wa wb : Bool) (hA : 16 ≤ A.length) (hB : 16 ≤ B.length) (pA : ∀ i, i < 16 → A.getD i 0 = a.getD i 0) (pB : ∀ i, i < 16 → B.getD i 0 = b.getD i 0) (ha : dlt 65536 a) (hb : dlt 65536 b) (la : a.length = 16) (lb : b.length = 16) : Tri Try.prog 47 [.one (.sl 0 0 1 16), .one (.sl 1 0 1 16)] [(0, ⟨.arr Nat natL A, wa⟩), (1, ⟨.arr Nat natL B, wb⟩)] (.c (.one (.bo (decide (dv 65536 a < dv 65536 b))))) [(0, ⟨.arr Nat natL A, wa⟩), (1, ⟨.arr Nat natL B, wb⟩)] := by
  refine tri_of (envR_ok ga0_ok 28 [0, 1]) Try.func47 rfl rfl (rs := [.tmp 4]) rfl rfl (by simp [envR]) rfl [] ?_
  simp only [envR, con0, conN0, conN1, conN2, natsOf_arr, rowOf_arr, natsOf_cells, rowOf_cells, toN, natL_st, natL_d, natL_enc, natL_up, ga0, go_sem, reduceCtorEq, ↓reduceIte, Nat.reduceAdd, Nat.reduceMul, Nat.reduceSub, Nat.reduceEqDiff, Nat.reduceLT, Nat.reduceBEq, Nat.reduceBNe, Nat.reduceLeDiff, Int.reduceLE, Int.reduceLT, Int.reduceToNat, Int.reduceEq, Int.reduceAdd, UInt8.reduceToNat, UInt32.reduceToNat, UInt64.reduceToNat, UInt8.reduceOfNat, UInt32.reduceOfNat, UInt64.reduceOfNat, Fin.isValue, Int.reduceSub, Int.reduceMul, Int.reduceNeg, Int.reduceMod, Int.reduceDiv, Int.reduceTDiv, Int.reduceTMod, Int.reduceBEq, Int.reduceBNe, Nat.reduceDiv, Nat.reducePow]
  refine loop_inv (envR_ok ga0_ok 28 [0, 1]) (gbInv A B a b wa wb) (fun k => k ≤ 16 ∧ a.drop k = b.drop k) (fun k => k) (15 + 1) [] ⟨by omega, by rw [List.drop_eq_nil_of_le (by omega), List.drop_eq_nil_of_le (by omega)]⟩ ?_ ?_
  · simp only [gbInv, go_sem, reduceCtorEq, ↓reduceIte, Nat.reduceAdd, Nat.reduceMul, Nat.reduceSub, Nat.reduceEqDiff, Nat.reduceLT, Nat.reduceBEq, Nat.reduceBNe, Nat.reduceLeDiff, Int.reduceLE, Int.reduceLT, Int.reduceToNat, Int.reduceEq, Int.reduceAdd, UInt8.reduceToNat, UInt32.reduceToNat, UInt64.reduceToNat, UInt8.reduceOfNat, UInt32.reduceOfNat, UInt64.reduceOfNat, Fin.isValue, Int.reduceSub, Int.reduceMul, Int.reduceNeg, Int.reduceMod, Int.reduceDiv, Int.reduceTDiv, Int.reduceTMod, Int.reduceBEq, Int.reduceBNe, Nat.reduceDiv, Nat.reducePow]
    exact ⟨rfl, id, id⟩
  · rintro k ⟨k1, k2⟩
    rcases k with _ | k
    · obtain rfl : a = b := by simpa using k2
      have hf : decide (dv 65536 a < dv 65536 a) = false := decide_eq_false (Nat.lt_irrefl _)
      simp only [gbInv, hf, envR, con0, conN0, conN1, conN2, natsOf_arr, rowOf_arr, natsOf_cells, rowOf_cells, toN, natL_st, natL_d, natL_enc, natL_up, ga0, go_sem, reduceCtorEq, ↓reduceIte, Nat.reduceAdd, Nat.reduceMul, Nat.reduceSub, Nat.reduceEqDiff, Nat.reduceLT, Nat.reduceBEq, Nat.reduceBNe, Nat.reduceLeDiff, Int.reduceLE, Int.reduceLT, Int.reduceToNat, Int.reduceEq, Int.reduceAdd, UInt8.reduceToNat, UInt32.reduceToNat, UInt64.reduceToNat, UInt8.reduceOfNat, UInt32.reduceOfNat, UInt64.reduceOfNat, Fin.isValue, Int.reduceSub, Int.reduceMul, Int.reduceNeg, Int.reduceMod, Int.reduceDiv, Int.reduceTDiv, Int.reduceTMod, Int.reduceBEq, Int.reduceBNe, Nat.reduceDiv, Nat.reducePow]
      exact ⟨rfl, id, id⟩
    · have rA := pA k (by omega)
      have rB := pB k (by omega)
      have c1 : decide ((0 : Int) ≤ ((k : Nat) : Int)) = true := decide_eq_true (by omega)
      cases c2 : (((a.getD k 0 : Nat) : Int) == ((b.getD k 0 : Nat) : Int)) with
      | true =>
        have g2 : a.getD k 0 = b.getD k 0 := by have := eq_of_beq c2; omega
        have hdr : a.drop k = b.drop k := by
          rw [List.drop_eq_getElem_cons (by omega : k < a.length), List.drop_eq_getElem_cons (by omega : k < b.length), k2]
          congr 1
          rw [List.getD_eq_getElem?_getD, List.getD_eq_getElem?_getD, List.getElem?_eq_getElem (by omega : k < a.length), List.getElem?_eq_getElem (by omega : k < b.length)] at g2
          exact g2
        rcases k with _ | k
        · have w1 : IntKind.i64.wrap ((0 : Int) - 1) = -1 := by rw [IntKind.wrap_i64]; rfl
          have w2 : IntKind.i64.wrap (-1) = -1 := by rw [IntKind.wrap_i64]; rfl
          simp only [gbInv, rA, rB, c1, c2, w1, w2, envR, con0, conN0, conN1, conN2, natsOf_arr, rowOf_arr, natsOf_cells, rowOf_cells, toN, natL_st, natL_d, natL_enc, natL_up, ga0, go_sem, reduceCtorEq, ↓reduceIte, Nat.reduceAdd, Nat.reduceMul, Nat.reduceSub, Nat.reduceEqDiff, Nat.reduceLT, Nat.reduceBEq, Nat.reduceBNe, Nat.reduceLeDiff, Int.reduceLE, Int.reduceLT, Int.reduceToNat, Int.reduceEq, Int.reduceAdd, UInt8.reduceToNat, UInt32.reduceToNat, UInt64.reduceToNat, UInt8.reduceOfNat, UInt32.reduceOfNat, UInt64.reduceOfNat, Fin.isValue, Int.reduceSub, Int.reduceMul, Int.reduceNeg, Int.reduceMod, Int.reduceDiv, Int.reduceTDiv, Int.reduceTMod, Int.reduceBEq, Int.reduceBNe, Nat.reduceDiv, Nat.reducePow]
          repeat' apply And.intro
          all_goals first
            | omega
            | rfl
            | exact rfl
            | skip
          refine again 0 [] ⟨by omega, hdr⟩ (by omega) ?_
          simp only [gbInv, envR, con0, conN0, conN1, conN2, natsOf_arr, rowOf_arr, natsOf_cells, rowOf_cells, toN, natL_st, natL_d, natL_enc, natL_up, ga0, go_sem, reduceCtorEq, ↓reduceIte, Nat.reduceAdd, Nat.reduceMul, Nat.reduceSub, Nat.reduceEqDiff, Nat.reduceLT, Nat.reduceBEq, Nat.reduceBNe, Nat.reduceLeDiff, Int.reduceLE, Int.reduceLT, Int.reduceToNat, Int.reduceEq, Int.reduceAdd, UInt8.reduceToNat, UInt32.reduceToNat, UInt64.reduceToNat, UInt8.reduceOfNat, UInt32.reduceOfNat, UInt64.reduceOfNat, Fin.isValue, Int.reduceSub, Int.reduceMul, Int.reduceNeg, Int.reduceMod, Int.reduceDiv, Int.reduceTDiv, Int.reduceTMod, Int.reduceBEq, Int.reduceBNe, Nat.reduceDiv, Nat.reducePow]
          exact ⟨rfl, id, id⟩
        · have w1 : IntKind.i64.wrap (((k + 1 : Nat) : Int) - 1) = ((k : Nat) : Int) := by rw [IntKind.wrap_i64]; omega
          simp only [gbInv, rA, rB, c1, c2, w1, envR, con0, conN0, conN1, conN2, natsOf_arr, rowOf_arr, natsOf_cells, rowOf_cells, toN, natL_st, natL_d, natL_enc, natL_up, ga0, go_sem, reduceCtorEq, ↓reduceIte, Nat.reduceAdd, Nat.reduceMul, Nat.reduceSub, Nat.reduceEqDiff, Nat.reduceLT, Nat.reduceBEq, Nat.reduceBNe, Nat.reduceLeDiff, Int.reduceLE, Int.reduceLT, Int.reduceToNat, Int.reduceEq, Int.reduceAdd, UInt8.reduceToNat, UInt32.reduceToNat, UInt64.reduceToNat, UInt8.reduceOfNat, UInt32.reduceOfNat, UInt64.reduceOfNat, Fin.isValue, Int.reduceSub, Int.reduceMul, Int.reduceNeg, Int.reduceMod, Int.reduceDiv, Int.reduceTDiv, Int.reduceTMod, Int.reduceBEq, Int.reduceBNe, Nat.reduceDiv, Nat.reducePow]
          repeat' apply And.intro
          all_goals first
            | omega
            | rfl
            | exact rfl
            | skip
          refine again (k + 1) [] ⟨by omega, hdr⟩ (by omega) ?_
          simp only [gbInv, envR, con0, conN0, conN1, conN2, natsOf_arr, rowOf_arr, natsOf_cells, rowOf_cells, toN, natL_st, natL_d, natL_enc, natL_up, ga0, go_sem, reduceCtorEq, ↓reduceIte, Nat.reduceAdd, Nat.reduceMul, Nat.reduceSub, Nat.reduceEqDiff, Nat.reduceLT, Nat.reduceBEq, Nat.reduceBNe, Nat.reduceLeDiff, Int.reduceLE, Int.reduceLT, Int.reduceToNat, Int.reduceEq, Int.reduceAdd, UInt8.reduceToNat, UInt32.reduceToNat, UInt64.reduceToNat, UInt8.reduceOfNat, UInt32.reduceOfNat, UInt64.reduceOfNat, Fin.isValue, Int.reduceSub, Int.reduceMul, Int.reduceNeg, Int.reduceMod, Int.reduceDiv, Int.reduceTDiv, Int.reduceTMod, Int.reduceBEq, Int.reduceBNe, Nat.reduceDiv, Nat.reducePow]
          exact ⟨rfl, id, id⟩
      | false =>
        have g2 : a.getD k 0 ≠ b.getD k 0 := by have := ne_of_beq_false c2; omega
        have hs := below_step ha hb k (by omega) (by omega) k2 g2
        have hd : decide (((a.getD k 0 : Nat) : Int) < ((b.getD k 0 : Nat) : Int)) = decide (dv 65536 a < dv 65536 b) := by
          rw [hs]; exact decide_eq_decide.2 (by omega)
        simp only [gbInv, rA, rB, c1, c2, hd, envR, con0, conN0, conN1, conN2, natsOf_arr, rowOf_arr, natsOf_cells, rowOf_cells, toN, natL_st, natL_d, natL_enc, natL_up, ga0, go_sem, reduceCtorEq, ↓reduceIte, Nat.reduceAdd, Nat.reduceMul, Nat.reduceSub, Nat.reduceEqDiff, Nat.reduceLT, Nat.reduceBEq, Nat.reduceBNe, Nat.reduceLeDiff, Int.reduceLE, Int.reduceLT, Int.reduceToNat, Int.reduceEq, Int.reduceAdd, UInt8.reduceToNat, UInt32.reduceToNat, UInt64.reduceToNat, UInt8.reduceOfNat, UInt32.reduceOfNat, UInt64.reduceOfNat, Fin.isValue, Int.reduceSub, Int.reduceMul, Int.reduceNeg, Int.reduceMod, Int.reduceDiv, Int.reduceTDiv, Int.reduceTMod, Int.reduceBEq, Int.reduceBNe, Nat.reduceDiv, Nat.reducePow]
        repeat' apply And.intro
        all_goals first
          | omega
          | rfl
          | exact fun h => h
theorem take16_getD (l : List Nat) (i : Nat) (h : i < 16) : l.getD i 0 = (l.take 16).getD i 0 := by
  rw [List.getD_eq_getElem?_getD, List.getD_eq_getElem?_getD, List.getElem?_take_of_lt h]
theorem dltT {B : Nat} {l : List Nat} (h : dlt B l) (n : Nat) : dlt B (l.take n) := fun i => by
  have hB := h 0
  rw [List.getD_eq_getElem?_getD, List.getElem?_take]
  split
  · rw [← List.getD_eq_getElem?_getD]; exact h i
  · simp; omega
def gbelowC : Con := conB2 fun args a b => match args with
  | [.one (.sl 0 0 1 16), .one (.sl 1 0 1 16)] => some (.c (.one (.bo (decide (dv 65536 (a.take 16) < dv 65536 (b.take 16))))), [16 ≤ a.length, 16 ≤ b.length, dlt 65536 a, dlt 65536 b])
  | _ => none
theorem gbelowC_ok : ConOk Try.prog 47 gbelowC := conB2_ok Try.func47 rfl rfl fun args a b v ob h hob wa wb => by
  split at h
  · injection h with h; injection h with h1 h2; subst h1; subst h2
    obtain ⟨o1, o2, o3, o4, _⟩ := hob
    exact gbelow_tri a b _ _ wa wb o1 o2 (fun i hi => take16_getD a i hi) (fun i hi => take16_getD b i hi) (dltT o3 16) (dltT o4 16) (by rw [List.length_take]; omega) (by rw [List.length_take]; omega)
  · cases h
def gminC : Con := conN2 fun args a b => match args with
  | [.one (.sl 0 0 1 16), .one (.sl 1 0 1 16)] => some (.c (.one (.sl 2 0 1 16)), minL 65536 a b, [16 ≤ a.length, 16 ≤ b.length, dlt 65536 a, dlt 65536 b])
  | _ => none
theorem gminC_ok : ConOk Try.prog 37 gminC := conN2_ok Try.func37 rfl rfl fun args a b v r ob h hob wa wb => by
  split at h
  · injection h with h; injection h with h1 h2; injection h2 with h2 h3; subst h1; subst h2; subst h3
    obtain ⟨o1, o2, o3, o4, _⟩ := hob
    exact gmin_tri a b wa wb o3 o4 o1 o2
  · cases h
def gprimeC : Con := conN0 fun args => match args with
  | [] => some (.c (.one (.sl 0 0 1 16)), primeL, [])
  | _ => none
theorem gprimeC_ok : ConOk Try.prog 38 gprimeC := conN0_ok Try.func38 rfl rfl fun args v r ob h hob => by
  split at h
  · injection h with h; injection h with h1 h2; injection h2 with h2 h3; subst h1; subst h2; subst h3
    exact gprime_tri
  · cases h
end Go.Proofs.Ytdkmkifebhggeaa
