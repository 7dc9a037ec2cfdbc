/-
  The document's digits to the base 65536: products of a row with itself.
-/
import Derived.Test.YtdkmkifebhggeaaSz
import Derived.Test.YtdkmkifebhggeaaKl
namespace Go.Proofs.Ytdkmkifebhggeaa
open Go Go.RowKit
set_option maxHeartbeats 4000000
set_option linter.unusedSimpArgs false
set_option linter.unusedVariables false
/-- Two contracts, by the number of objects. -/
def conOr (c1 c2 : Con) : Con := ⟨false, fun args os => match os with
  | [] => none
  | [_] => c1.run args os
  | _ :: _ :: _ => c2.run args os⟩
theorem conOr_ok {P : Program} {f : FuncId} {fn : Func} (hf : P.funcs[f]? = some fn) (hb : fn.body.isSome = true) (hn : (fn.name == "runtime.NumGoroutine") = false) {c1 c2 : Con} (h1 : ConOk P f c1) (h2 : ConOk P f c2) : ConOk P f (conOr c1 c2) := by
  refine .inl ⟨⟨fn, hf, hb, hn⟩, fun args es res upd news ob hr hob hw => ?_⟩
  unfold conOr at hr
  simp only at hr
  match es, hr with
  | [], hr => cases hr
  | [e], hr =>
    rcases h1 with ⟨_, h1⟩ | h1
    · exact h1 args [e] res upd news ob hr hob hw
    · exact absurd (h1 args _ res upd news ob hr).1 (by simp)
  | e :: e' :: es, hr =>
    rcases h2 with ⟨_, h2⟩ | h2
    · exact h2 args (e :: e' :: es) res upd news ob hr hob hw
    · exact absurd (h2 args _ res upd news ob hr).1 (by simp)
def gsInv (A a : List Nat) (wa : Bool) (i : Nat) : St := ⟨[(0, .c (.one (.sl 0 0 1 a.length))), (1, .c (.one (.sl 0 0 1 a.length))), (5, .c (.one (.sl 20040 0 1 (a.length + a.length)))), (6, .c (.one (.num i)))], [(0, ⟨.arr Nat natL A, wa⟩), (20040, ⟨.arr Nat natL (mulOut 65536 a a i), true⟩)]⟩
def gsIn (A a : List Nat) (wa : Bool) (i k : Nat) : St := ⟨[(0, .c (.one (.sl 0 0 1 a.length))), (1, .c (.one (.sl 0 0 1 a.length))), (5, .c (.one (.sl 20040 0 1 (a.length + a.length)))), (6, .c (.one (.num i))), (7, .c (.one (.num (mulIn 65536 (mulOut 65536 a a i) a (a.getD i 0) i k).2))), (8, .c (.one (.num k)))], [(0, ⟨.arr Nat natL A, wa⟩), (20040, ⟨.arr Nat natL (mulIn 65536 (mulOut 65536 a a i) a (a.getD i 0) i k).1, true⟩)]⟩
set_option maxRecDepth 100000 in
theorem gsquare_tri (A a : List Nat) (wa : Bool) (hA : a.length ≤ A.length) (hB : a.length ≤ A.length) (pA : ∀ i, i < a.length → A.getD i 0 = a.getD i 0) (pB : ∀ i, i < a.length → A.getD i 0 = a.getD i 0) (ha : dlt 65536 a) (hb : dlt 65536 a) (la : a.length ≤ 1000) (lb : a.length ≤ 1000) : Tri Try.prog 41 [.one (.sl 0 0 1 a.length), .one (.sl 0 0 1 a.length)] [(0, ⟨.arr Nat natL A, wa⟩)] (.c (.one (.sl 1 0 1 (timesL 65536 a a).length))) [(0, ⟨.arr Nat natL A, wa⟩), (1, ⟨.arr Nat natL (timesL 65536 a a), true⟩)] := by
  refine tri_of (envR_ok ga0_ok 66 [0]) Try.func41 rfl rfl (rs := [.tmp 4]) rfl rfl (by simp [envR]) rfl [(1, 20040)] ?_
  have hw0 : IntKind.i64.wrap ((a.length : Int) + (a.length : Int)) = ((a.length + a.length : Nat) : Int) := by rw [IntKind.wrap_i64]; omega
  simp only [envR, con0, conN0, conN1, conN2, natsOf_arr, rowOf_arr, natsOf_cells, rowOf_cells, toN, natL_st, natL_d, natL_enc, natL_up, ga0, hw0, go_sem, reduceCtorEq, ↓reduceIte, Nat.reduceAdd, Nat.reduceMul, Nat.reduceSub, Nat.reduceEqDiff, Nat.reduceLT, Nat.reduceBEq, Nat.reduceBNe, Nat.reduceLeDiff, Int.reduceLE, Int.reduceLT, Int.reduceToNat, Int.reduceEq, Int.reduceAdd, UInt8.reduceToNat, UInt32.reduceToNat, UInt64.reduceToNat, UInt8.reduceOfNat, UInt32.reduceOfNat, UInt64.reduceOfNat, Fin.isValue, Int.reduceSub, Int.reduceMul, Int.reduceNeg, Int.reduceMod, Int.reduceDiv, Int.reduceTDiv, Int.reduceTMod, Int.reduceBEq, Int.reduceBNe, Nat.reduceDiv, Nat.reducePow]
  refine ⟨⟨by omega, by omega, by omega⟩, ?_⟩
  refine loop_inv (envR_ok ga0_ok 66 [0]) (gsInv A a wa) (fun i => i ≤ a.length) (fun i => a.length - i) 0 [] (by omega) ?_ ?_
  · have h0 : (mulOut 65536 a a 0).flatMap natL.enc = List.replicate (a.length + a.length) (AV.num 0) := zeros_flat _
    simp only [gsInv, h0, envR, con0, conN0, conN1, conN2, natsOf_arr, rowOf_arr, natsOf_cells, rowOf_cells, toN, natL_st, natL_d, natL_enc, natL_up, ga0, go_sem, reduceCtorEq, ↓reduceIte, Nat.reduceAdd, Nat.reduceMul, Nat.reduceSub, Nat.reduceEqDiff, Nat.reduceLT, Nat.reduceBEq, Nat.reduceBNe, Nat.reduceLeDiff, Int.reduceLE, Int.reduceLT, Int.reduceToNat, Int.reduceEq, Int.reduceAdd, UInt8.reduceToNat, UInt32.reduceToNat, UInt64.reduceToNat, UInt8.reduceOfNat, UInt32.reduceOfNat, UInt64.reduceOfNat, Fin.isValue, Int.reduceSub, Int.reduceMul, Int.reduceNeg, Int.reduceMod, Int.reduceDiv, Int.reduceTDiv, Int.reduceTMod, Int.reduceBEq, Int.reduceBNe, Nat.reduceDiv, Nat.reducePow]
    exact ⟨rfl, id⟩
  · intro i hi
    have hlen := mulOut_len 65536 a a i
    have hlt := mulOut_lt (by decide : 1 < 65536) ha hb i hi
    have hw : IntKind.i64.wrap ((i : Int) + 1) = ((i + 1 : Nat) : Int) := by rw [IntKind.wrap_i64]; omega
    simp only [gsInv, envR, con0, conN0, conN1, conN2, natsOf_arr, rowOf_arr, natsOf_cells, rowOf_cells, toN, natL_st, natL_d, natL_enc, natL_up, ga0, go_sem, reduceCtorEq, ↓reduceIte, Nat.reduceAdd, Nat.reduceMul, Nat.reduceSub, Nat.reduceEqDiff, Nat.reduceLT, Nat.reduceBEq, Nat.reduceBNe, Nat.reduceLeDiff, Int.reduceLE, Int.reduceLT, Int.reduceToNat, Int.reduceEq, Int.reduceAdd, UInt8.reduceToNat, UInt32.reduceToNat, UInt64.reduceToNat, UInt8.reduceOfNat, UInt32.reduceOfNat, UInt64.reduceOfNat, Fin.isValue, Int.reduceSub, Int.reduceMul, Int.reduceNeg, Int.reduceMod, Int.reduceDiv, Int.reduceTDiv, Int.reduceTMod, Int.reduceBEq, Int.reduceBNe, Nat.reduceDiv, Nat.reducePow]
    refine br (fun h => ?_) fun h => ?_
    · have g1 : i < a.length := by have := of_decide_eq_true h; omega
      simp only [h, hw, envR, con0, conN0, conN1, conN2, natsOf_arr, rowOf_arr, natsOf_cells, rowOf_cells, toN, natL_st, natL_d, natL_enc, natL_up, ga0, go_sem, reduceCtorEq, ↓reduceIte, Nat.reduceAdd, Nat.reduceMul, Nat.reduceSub, Nat.reduceEqDiff, Nat.reduceLT, Nat.reduceBEq, Nat.reduceBNe, Nat.reduceLeDiff, Int.reduceLE, Int.reduceLT, Int.reduceToNat, Int.reduceEq, Int.reduceAdd, UInt8.reduceToNat, UInt32.reduceToNat, UInt64.reduceToNat, UInt8.reduceOfNat, UInt32.reduceOfNat, UInt64.reduceOfNat, Fin.isValue, Int.reduceSub, Int.reduceMul, Int.reduceNeg, Int.reduceMod, Int.reduceDiv, Int.reduceTDiv, Int.reduceTMod, Int.reduceBEq, Int.reduceBNe, Nat.reduceDiv, Nat.reducePow]
      refine loop_inv (envR_ok ga0_ok 66 [0]) (gsIn A a wa i) (fun k => k ≤ a.length) (fun k => a.length - k) 0 [] (by omega) ?_ ?_
      · simp only [gsIn, mulIn, Int.natCast_zero, envR, con0, conN0, conN1, conN2, natsOf_arr, rowOf_arr, natsOf_cells, rowOf_cells, toN, natL_st, natL_d, natL_enc, natL_up, ga0, go_sem, reduceCtorEq, ↓reduceIte, Nat.reduceAdd, Nat.reduceMul, Nat.reduceSub, Nat.reduceEqDiff, Nat.reduceLT, Nat.reduceBEq, Nat.reduceBNe, Nat.reduceLeDiff, Int.reduceLE, Int.reduceLT, Int.reduceToNat, Int.reduceEq, Int.reduceAdd, UInt8.reduceToNat, UInt32.reduceToNat, UInt64.reduceToNat, UInt8.reduceOfNat, UInt32.reduceOfNat, UInt64.reduceOfNat, Fin.isValue, Int.reduceSub, Int.reduceMul, Int.reduceNeg, Int.reduceMod, Int.reduceDiv, Int.reduceTDiv, Int.reduceTMod, Int.reduceBEq, Int.reduceBNe, Nat.reduceDiv, Nat.reducePow]
        exact ⟨rfl, id⟩
      · intro k hk
        obtain ⟨q1, q2⟩ := mulIn_lt (by decide : 1 < 65536) hlt.1 hb (ha i) i k
        have ql := mulIn_len 65536 (mulOut 65536 a a i) a (a.getD i 0) i k
        rw [hlen] at ql
        have qs : mulIn 65536 (mulOut 65536 a a i) a (a.getD i 0) i (k + 1) = ((mulIn 65536 (mulOut 65536 a a i) a (a.getD i 0) i k).1.set (i + k) (((mulIn 65536 (mulOut 65536 a a i) a (a.getD i 0) i k).1.getD (i + k) 0 + a.getD i 0 * a.getD k 0 + (mulIn 65536 (mulOut 65536 a a i) a (a.getD i 0) i k).2) % 65536), ((mulIn 65536 (mulOut 65536 a a i) a (a.getD i 0) i k).1.getD (i + k) 0 + a.getD i 0 * a.getD k 0 + (mulIn 65536 (mulOut 65536 a a i) a (a.getD i 0) i k).2) / 65536) := rfl
        have qf := mulIn_far 65536 (mulOut 65536 a a i) a (a.getD i 0) i k
        have qo : k = a.length → mulOut 65536 a a (i + 1) = (mulIn 65536 (mulOut 65536 a a i) a (a.getD i 0) i k).1.set (i + k) ((mulIn 65536 (mulOut 65536 a a i) a (a.getD i 0) i k).1.getD (i + k) 0 + (mulIn 65536 (mulOut 65536 a a i) a (a.getD i 0) i k).2) := fun e => by subst e; rfl
        simp only [gsIn]
        obtain ⟨L, hL⟩ : ∃ L, L = (mulIn 65536 (mulOut 65536 a a i) a (a.getD i 0) i k).1 := ⟨_, rfl⟩
        obtain ⟨c, hc⟩ : ∃ c, c = (mulIn 65536 (mulOut 65536 a a i) a (a.getD i 0) i k).2 := ⟨_, rfl⟩
        obtain ⟨x, hx⟩ : ∃ x, x = a.getD i 0 := ⟨_, rfl⟩
        obtain ⟨z, hz⟩ : ∃ z, z = a.getD k 0 := ⟨_, rfl⟩
        obtain ⟨y, hy⟩ : ∃ y, y = L.getD (i + k) 0 := ⟨_, rfl⟩
        have bx : x < 65536 := by rw [hx]; exact ha i
        have bz : z < 65536 := by rw [hz]; exact hb k
        have by' : y < 65536 := by rw [hy, hL]; exact q1 (i + k)
        have bp : x * z ≤ 65535 * 65535 := Nat.mul_le_mul (by omega) (by omega)
        rw [← hL] at q1 ql qs qo qf ⊢
        rw [← hc] at q2 qs qo ⊢
        rw [← hx, ← hz, ← hy] at qs
        have w1 : IntKind.i64.wrap ((i : Int) + (k : Int)) = ((i + k : Nat) : Int) := by rw [IntKind.wrap_i64]; omega
        have w2 : IntKind.i64.wrap ((x : Int) * (z : Int)) = ((x * z : Nat) : Int) := by rw [IntKind.wrap_i64, ← Int.natCast_mul]; omega
        have w3 : IntKind.i64.wrap ((y : Int) + ((x * z : Nat) : Int)) = ((y + x * z : Nat) : Int) := by rw [IntKind.wrap_i64]; omega
        have w4 : IntKind.i64.wrap (((y + x * z : Nat) : Int) + (c : Int)) = ((y + x * z + c : Nat) : Int) := by rw [IntKind.wrap_i64]; omega
        have w5 : ((y + x * z + c : Nat) : Int).tmod 65536 = (((y + x * z + c) % 65536 : Nat) : Int) := by rw [show (65536 : Int) = ((65536 : Nat) : Int) from rfl, ← Int.ofNat_tmod]
        have w6 : IntKind.i64.wrap (((y + x * z + c : Nat) : Int).tdiv 65536) = (((y + x * z + c) / 65536 : Nat) : Int) := by
          rw [show (65536 : Int) = ((65536 : Nat) : Int) from rfl, ← Int.ofNat_tdiv, IntKind.wrap_i64]; omega
        have w7 : IntKind.i64.wrap ((k : Int) + 1) = ((k + 1 : Nat) : Int) := by rw [IntKind.wrap_i64]; omega
        have w8 : IntKind.i64.wrap ((y : Int) + (c : Int)) = ((y + c : Nat) : Int) := by rw [IntKind.wrap_i64]; omega
        simp only [envR, con0, conN0, conN1, conN2, natsOf_arr, rowOf_arr, natsOf_cells, rowOf_cells, toN, natL_st, natL_d, natL_enc, natL_up, ga0, go_sem, reduceCtorEq, ↓reduceIte, Nat.reduceAdd, Nat.reduceMul, Nat.reduceSub, Nat.reduceEqDiff, Nat.reduceLT, Nat.reduceBEq, Nat.reduceBNe, Nat.reduceLeDiff, Int.reduceLE, Int.reduceLT, Int.reduceToNat, Int.reduceEq, Int.reduceAdd, UInt8.reduceToNat, UInt32.reduceToNat, UInt64.reduceToNat, UInt8.reduceOfNat, UInt32.reduceOfNat, UInt64.reduceOfNat, Fin.isValue, Int.reduceSub, Int.reduceMul, Int.reduceNeg, Int.reduceMod, Int.reduceDiv, Int.reduceTDiv, Int.reduceTMod, Int.reduceBEq, Int.reduceBNe, Nat.reduceDiv, Nat.reducePow]
        refine br (fun h2 => ?_) fun h2 => ?_
        · have g2 : k < a.length := by have := of_decide_eq_true h2; omega
          have rA := pA i g1
          have rB := pB k g2
          simp only [h2, rA, rB, w1, w2, w3, w4, w5, w6, w7, ← hx, ← hz, ← hy, ql, envR, con0, conN0, conN1, conN2, natsOf_arr, rowOf_arr, natsOf_cells, rowOf_cells, toN, natL_st, natL_d, natL_enc, natL_up, ga0, go_sem, reduceCtorEq, ↓reduceIte, Nat.reduceAdd, Nat.reduceMul, Nat.reduceSub, Nat.reduceEqDiff, Nat.reduceLT, Nat.reduceBEq, Nat.reduceBNe, Nat.reduceLeDiff, Int.reduceLE, Int.reduceLT, Int.reduceToNat, Int.reduceEq, Int.reduceAdd, UInt8.reduceToNat, UInt32.reduceToNat, UInt64.reduceToNat, UInt8.reduceOfNat, UInt32.reduceOfNat, UInt64.reduceOfNat, Fin.isValue, Int.reduceSub, Int.reduceMul, Int.reduceNeg, Int.reduceMod, Int.reduceDiv, Int.reduceTDiv, Int.reduceTMod, Int.reduceBEq, Int.reduceBNe, Nat.reduceDiv, Nat.reducePow]
          refine ⟨⟨by omega, by omega⟩, by omega, ⟨by omega, by omega⟩, by omega, ⟨by omega, by omega⟩, by omega, rfl, ⟨by omega, by omega⟩, by omega, again (k + 1) [] (by omega) (by omega) ?_⟩
          simp only [gsIn, ← hx, qs, envR, con0, conN0, conN1, conN2, natsOf_arr, rowOf_arr, natsOf_cells, rowOf_cells, toN, natL_st, natL_d, natL_enc, natL_up, ga0, go_sem, reduceCtorEq, ↓reduceIte, Nat.reduceAdd, Nat.reduceMul, Nat.reduceSub, Nat.reduceEqDiff, Nat.reduceLT, Nat.reduceBEq, Nat.reduceBNe, Nat.reduceLeDiff, Int.reduceLE, Int.reduceLT, Int.reduceToNat, Int.reduceEq, Int.reduceAdd, UInt8.reduceToNat, UInt32.reduceToNat, UInt64.reduceToNat, UInt8.reduceOfNat, UInt32.reduceOfNat, UInt64.reduceOfNat, Fin.isValue, Int.reduceSub, Int.reduceMul, Int.reduceNeg, Int.reduceMod, Int.reduceDiv, Int.reduceTDiv, Int.reduceTMod, Int.reduceBEq, Int.reduceBNe, Nat.reduceDiv, Nat.reducePow]
          exact ⟨rfl, id⟩
        · have he : k = a.length := by have := of_decide_eq_false h2; omega
          have qo := qo he
          rw [← hy] at qo
          simp only [h2, hw, ← he, w1, w8, ← hy, ql, envR, con0, conN0, conN1, conN2, natsOf_arr, rowOf_arr, natsOf_cells, rowOf_cells, toN, natL_st, natL_d, natL_enc, natL_up, ga0, go_sem, reduceCtorEq, ↓reduceIte, Nat.reduceAdd, Nat.reduceMul, Nat.reduceSub, Nat.reduceEqDiff, Nat.reduceLT, Nat.reduceBEq, Nat.reduceBNe, Nat.reduceLeDiff, Int.reduceLE, Int.reduceLT, Int.reduceToNat, Int.reduceEq, Int.reduceAdd, UInt8.reduceToNat, UInt32.reduceToNat, UInt64.reduceToNat, UInt8.reduceOfNat, UInt32.reduceOfNat, UInt64.reduceOfNat, Fin.isValue, Int.reduceSub, Int.reduceMul, Int.reduceNeg, Int.reduceMod, Int.reduceDiv, Int.reduceTDiv, Int.reduceTMod, Int.reduceBEq, Int.reduceBNe, Nat.reduceDiv, Nat.reducePow]
          repeat' apply And.intro
          all_goals first
            | omega
            | skip
          refine again (i + 1) [] (by omega) (by omega) ?_
          simp only [gsInv, ← he, qo, envR, con0, conN0, conN1, conN2, natsOf_arr, rowOf_arr, natsOf_cells, rowOf_cells, toN, natL_st, natL_d, natL_enc, natL_up, ga0, go_sem, reduceCtorEq, ↓reduceIte, Nat.reduceAdd, Nat.reduceMul, Nat.reduceSub, Nat.reduceEqDiff, Nat.reduceLT, Nat.reduceBEq, Nat.reduceBNe, Nat.reduceLeDiff, Int.reduceLE, Int.reduceLT, Int.reduceToNat, Int.reduceEq, Int.reduceAdd, UInt8.reduceToNat, UInt32.reduceToNat, UInt64.reduceToNat, UInt8.reduceOfNat, UInt32.reduceOfNat, UInt64.reduceOfNat, Fin.isValue, Int.reduceSub, Int.reduceMul, Int.reduceNeg, Int.reduceMod, Int.reduceDiv, Int.reduceTDiv, Int.reduceTMod, Int.reduceBEq, Int.reduceBNe, Nat.reduceDiv, Nat.reducePow]
          exact ⟨rfl, id⟩
    · have he : i = a.length := by have := of_decide_eq_false h; omega
      have hr : mulOut 65536 a a i = timesL 65536 a a := by rw [timesL, he]
      have hl2 := timesL_len 65536 a a
      simp only [h, hr, hl2, envR, con0, conN0, conN1, conN2, natsOf_arr, rowOf_arr, natsOf_cells, rowOf_cells, toN, natL_st, natL_d, natL_enc, natL_up, ga0, go_sem, reduceCtorEq, ↓reduceIte, Nat.reduceAdd, Nat.reduceMul, Nat.reduceSub, Nat.reduceEqDiff, Nat.reduceLT, Nat.reduceBEq, Nat.reduceBNe, Nat.reduceLeDiff, Int.reduceLE, Int.reduceLT, Int.reduceToNat, Int.reduceEq, Int.reduceAdd, UInt8.reduceToNat, UInt32.reduceToNat, UInt64.reduceToNat, UInt8.reduceOfNat, UInt32.reduceOfNat, UInt64.reduceOfNat, Fin.isValue, Int.reduceSub, Int.reduceMul, Int.reduceNeg, Int.reduceMod, Int.reduceDiv, Int.reduceTDiv, Int.reduceTMod, Int.reduceBEq, Int.reduceBNe, Nat.reduceDiv, Nat.reducePow]
      exact ⟨rfl, id⟩
def gsquareC : Con := conN1 fun args a => match args with
  | [.one (.sl 0 0 1 n), .one (.sl 0 0 1 m)] => some (.c (.one (.sl 1 0 1 (timesL 65536 (a.take n) (a.take n)).length)), timesL 65536 (a.take n) (a.take n), [m = n, n ≤ a.length, dlt 65536 (a.take n), n ≤ 1000])
  | _ => none
theorem gsquareC_ok : ConOk Try.prog 41 gsquareC := conN1_ok Try.func41 rfl rfl fun args a v r ob h hob wa => by
  split at h
  · rename_i n m
    injection h with h; injection h with h1 h2; injection h2 with h2 h3; subst h1; subst h2; subst h3
    obtain ⟨rfl, o1, o3, o5, _⟩ := hob
    have e1 : (a.take m).length = m := by rw [List.length_take]; omega
    have := gsquare_tri a (a.take m) wa (by omega) (by omega) (fun i hi => take_getD a m i hi) (fun i hi => take_getD a m i hi) o3 o3 (by omega) (by omega)
    rw [e1] at this
    exact this
  · cases h
def gtimes2C : Con := conOr gsquareC gtimesC
theorem gtimes2C_ok : ConOk Try.prog 41 gtimes2C := conOr_ok Try.func41 rfl rfl gsquareC_ok gtimesC_ok
end Go.Proofs.Ytdkmkifebhggeaa
