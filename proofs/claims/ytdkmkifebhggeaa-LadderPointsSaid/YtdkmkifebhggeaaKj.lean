/-
  The document's digits to the base 65536: products, of first parts of rows.
-/
import Derived.Test.YtdkmkifebhggeaaSz
import Derived.Test.YtdkmkifebhggeaaKi
namespace Go.Proofs.Ytdkmkifebhggeaa
open Go Go.RowKit
set_option maxHeartbeats 4000000
set_option linter.unusedSimpArgs false
set_option linter.unusedVariables false
theorem zeros_flat (n : Nat) : (List.replicate n 0).flatMap natL.enc = List.replicate n (AV.num 0) := by
  rw [nat_flat, List.map_replicate]; rfl
def gtInv (A B a b : List Nat) (wa wb : Bool) (i : Nat) : St := ⟨[(0, .c (.one (.sl 0 0 1 a.length))), (1, .c (.one (.sl 1 0 1 b.length))), (5, .c (.one (.sl 20040 0 1 (a.length + b.length)))), (6, .c (.one (.num i)))], [(0, ⟨.arr Nat natL A, wa⟩), (1, ⟨.arr Nat natL B, wb⟩), (20040, ⟨.arr Nat natL (mulOut 65536 a b i), true⟩)]⟩
def gtIn (A B a b : List Nat) (wa wb : Bool) (i k : Nat) : St := ⟨[(0, .c (.one (.sl 0 0 1 a.length))), (1, .c (.one (.sl 1 0 1 b.length))), (5, .c (.one (.sl 20040 0 1 (a.length + b.length)))), (6, .c (.one (.num i))), (7, .c (.one (.num (mulIn 65536 (mulOut 65536 a b i) b (a.getD i 0) i k).2))), (8, .c (.one (.num k)))], [(0, ⟨.arr Nat natL A, wa⟩), (1, ⟨.arr Nat natL B, wb⟩), (20040, ⟨.arr Nat natL (mulIn 65536 (mulOut 65536 a b i) b (a.getD i 0) i k).1, true⟩)]⟩
set_option maxRecDepth 100000 in
theorem gtimes_tri (A B a b : List Nat) (wa wb : Bool) (hA : a.length ≤ A.length) (hB : b.length ≤ B.length) (pA : ∀ i, i < a.length → A.getD i 0 = a.getD i 0) (pB : ∀ i, i < b.length → B.getD i 0 = b.getD i 0) (ha : dlt 65536 a) (hb : dlt 65536 b) (la : a.length ≤ 1000) (lb : b.length ≤ 1000) : Tri Try.prog 41 [.one (.sl 0 0 1 a.length), .one (.sl 1 0 1 b.length)] [(0, ⟨.arr Nat natL A, wa⟩), (1, ⟨.arr Nat natL B, wb⟩)] (.c (.one (.sl 2 0 1 (timesL 65536 a b).length))) [(0, ⟨.arr Nat natL A, wa⟩), (1, ⟨.arr Nat natL B, wb⟩), (2, ⟨.arr Nat natL (timesL 65536 a b), true⟩)] := by
  refine tri_of (envR_ok ga0_ok 66 [0, 1]) Try.func41 rfl rfl (rs := [.tmp 4]) rfl rfl (by simp [envR]) rfl [(2, 20040)] ?_
  have hw0 : IntKind.i64.wrap ((a.length : Int) + (b.length : Int)) = ((a.length + b.length : Nat) : Int) := by rw [IntKind.wrap_i64]; omega
  simp only [envR, con0, conN0, conN1, conN2, natsOf_arr, rowOf_arr, natsOf_cells, rowOf_cells, toN, natL_st, natL_d, natL_enc, natL_up, ga0, hw0, go_sem, reduceCtorEq, ↓reduceIte, Nat.reduceAdd, Nat.reduceMul, Nat.reduceSub, Nat.reduceEqDiff, Nat.reduceLT, Nat.reduceBEq, Nat.reduceBNe, Nat.reduceLeDiff, Int.reduceLE, Int.reduceLT, Int.reduceToNat, Int.reduceEq, Int.reduceAdd, UInt8.reduceToNat, UInt32.reduceToNat, UInt64.reduceToNat, UInt8.reduceOfNat, UInt32.reduceOfNat, UInt64.reduceOfNat, Fin.isValue, Int.reduceSub, Int.reduceMul, Int.reduceNeg, Int.reduceMod, Int.reduceDiv, Int.reduceTDiv, Int.reduceTMod, Int.reduceBEq, Int.reduceBNe, Nat.reduceDiv, Nat.reducePow]
  refine ⟨⟨by omega, by omega, by omega⟩, ?_⟩
  refine loop_inv (envR_ok ga0_ok 66 [0, 1]) (gtInv A B a b wa wb) (fun i => i ≤ a.length) (fun i => a.length - i) 0 [] (by omega) ?_ ?_
  · have h0 : (mulOut 65536 a b 0).flatMap natL.enc = List.replicate (a.length + b.length) (AV.num 0) := zeros_flat _
    simp only [gtInv, h0, envR, con0, conN0, conN1, conN2, natsOf_arr, rowOf_arr, natsOf_cells, rowOf_cells, toN, natL_st, natL_d, natL_enc, natL_up, ga0, go_sem, reduceCtorEq, ↓reduceIte, Nat.reduceAdd, Nat.reduceMul, Nat.reduceSub, Nat.reduceEqDiff, Nat.reduceLT, Nat.reduceBEq, Nat.reduceBNe, Nat.reduceLeDiff, Int.reduceLE, Int.reduceLT, Int.reduceToNat, Int.reduceEq, Int.reduceAdd, UInt8.reduceToNat, UInt32.reduceToNat, UInt64.reduceToNat, UInt8.reduceOfNat, UInt32.reduceOfNat, UInt64.reduceOfNat, Fin.isValue, Int.reduceSub, Int.reduceMul, Int.reduceNeg, Int.reduceMod, Int.reduceDiv, Int.reduceTDiv, Int.reduceTMod, Int.reduceBEq, Int.reduceBNe, Nat.reduceDiv, Nat.reducePow]
    exact ⟨rfl, id, id⟩
  · intro i hi
    have hlen := mulOut_len 65536 a b i
    have hlt := mulOut_lt (by decide : 1 < 65536) ha hb i hi
    have hw : IntKind.i64.wrap ((i : Int) + 1) = ((i + 1 : Nat) : Int) := by rw [IntKind.wrap_i64]; omega
    simp only [gtInv, envR, con0, conN0, conN1, conN2, natsOf_arr, rowOf_arr, natsOf_cells, rowOf_cells, toN, natL_st, natL_d, natL_enc, natL_up, ga0, go_sem, reduceCtorEq, ↓reduceIte, Nat.reduceAdd, Nat.reduceMul, Nat.reduceSub, Nat.reduceEqDiff, Nat.reduceLT, Nat.reduceBEq, Nat.reduceBNe, Nat.reduceLeDiff, Int.reduceLE, Int.reduceLT, Int.reduceToNat, Int.reduceEq, Int.reduceAdd, UInt8.reduceToNat, UInt32.reduceToNat, UInt64.reduceToNat, UInt8.reduceOfNat, UInt32.reduceOfNat, UInt64.reduceOfNat, Fin.isValue, Int.reduceSub, Int.reduceMul, Int.reduceNeg, Int.reduceMod, Int.reduceDiv, Int.reduceTDiv, Int.reduceTMod, Int.reduceBEq, Int.reduceBNe, Nat.reduceDiv, Nat.reducePow]
    refine br (fun h => ?_) fun h => ?_
    · have g1 : i < a.length := by have := of_decide_eq_true h; omega
      simp only [h, hw, envR, con0, conN0, conN1, conN2, natsOf_arr, rowOf_arr, natsOf_cells, rowOf_cells, toN, natL_st, natL_d, natL_enc, natL_up, ga0, go_sem, reduceCtorEq, ↓reduceIte, Nat.reduceAdd, Nat.reduceMul, Nat.reduceSub, Nat.reduceEqDiff, Nat.reduceLT, Nat.reduceBEq, Nat.reduceBNe, Nat.reduceLeDiff, Int.reduceLE, Int.reduceLT, Int.reduceToNat, Int.reduceEq, Int.reduceAdd, UInt8.reduceToNat, UInt32.reduceToNat, UInt64.reduceToNat, UInt8.reduceOfNat, UInt32.reduceOfNat, UInt64.reduceOfNat, Fin.isValue, Int.reduceSub, Int.reduceMul, Int.reduceNeg, Int.reduceMod, Int.reduceDiv, Int.reduceTDiv, Int.reduceTMod, Int.reduceBEq, Int.reduceBNe, Nat.reduceDiv, Nat.reducePow]
      refine loop_inv (envR_ok ga0_ok 66 [0, 1]) (gtIn A B a b wa wb i) (fun k => k ≤ b.length) (fun k => b.length - k) 0 [] (by omega) ?_ ?_
      · simp only [gtIn, mulIn, Int.natCast_zero, envR, con0, conN0, conN1, conN2, natsOf_arr, rowOf_arr, natsOf_cells, rowOf_cells, toN, natL_st, natL_d, natL_enc, natL_up, ga0, go_sem, reduceCtorEq, ↓reduceIte, Nat.reduceAdd, Nat.reduceMul, Nat.reduceSub, Nat.reduceEqDiff, Nat.reduceLT, Nat.reduceBEq, Nat.reduceBNe, Nat.reduceLeDiff, Int.reduceLE, Int.reduceLT, Int.reduceToNat, Int.reduceEq, Int.reduceAdd, UInt8.reduceToNat, UInt32.reduceToNat, UInt64.reduceToNat, UInt8.reduceOfNat, UInt32.reduceOfNat, UInt64.reduceOfNat, Fin.isValue, Int.reduceSub, Int.reduceMul, Int.reduceNeg, Int.reduceMod, Int.reduceDiv, Int.reduceTDiv, Int.reduceTMod, Int.reduceBEq, Int.reduceBNe, Nat.reduceDiv, Nat.reducePow]
        exact ⟨rfl, id, id⟩
      · intro k hk
        obtain ⟨q1, q2⟩ := mulIn_lt (by decide : 1 < 65536) hlt.1 hb (ha i) i k
        have ql := mulIn_len 65536 (mulOut 65536 a b i) b (a.getD i 0) i k
        rw [hlen] at ql
        have qs : mulIn 65536 (mulOut 65536 a b i) b (a.getD i 0) i (k + 1) = ((mulIn 65536 (mulOut 65536 a b i) b (a.getD i 0) i k).1.set (i + k) (((mulIn 65536 (mulOut 65536 a b i) b (a.getD i 0) i k).1.getD (i + k) 0 + a.getD i 0 * b.getD k 0 + (mulIn 65536 (mulOut 65536 a b i) b (a.getD i 0) i k).2) % 65536), ((mulIn 65536 (mulOut 65536 a b i) b (a.getD i 0) i k).1.getD (i + k) 0 + a.getD i 0 * b.getD k 0 + (mulIn 65536 (mulOut 65536 a b i) b (a.getD i 0) i k).2) / 65536) := rfl
        have qf := mulIn_far 65536 (mulOut 65536 a b i) b (a.getD i 0) i k
        have qo : k = b.length → mulOut 65536 a b (i + 1) = (mulIn 65536 (mulOut 65536 a b i) b (a.getD i 0) i k).1.set (i + k) ((mulIn 65536 (mulOut 65536 a b i) b (a.getD i 0) i k).1.getD (i + k) 0 + (mulIn 65536 (mulOut 65536 a b i) b (a.getD i 0) i k).2) := fun e => by subst e; rfl
        simp only [gtIn]
        obtain ⟨L, hL⟩ : ∃ L, L = (mulIn 65536 (mulOut 65536 a b i) b (a.getD i 0) i k).1 := ⟨_, rfl⟩
        obtain ⟨c, hc⟩ : ∃ c, c = (mulIn 65536 (mulOut 65536 a b i) b (a.getD i 0) i k).2 := ⟨_, rfl⟩
        obtain ⟨x, hx⟩ : ∃ x, x = a.getD i 0 := ⟨_, rfl⟩
        obtain ⟨z, hz⟩ : ∃ z, z = b.getD k 0 := ⟨_, rfl⟩
        obtain ⟨y, hy⟩ : ∃ y, y = L.getD (i + k) 0 := ⟨_, rfl⟩
        have bx : x < 65536 := by rw [hx]; exact ha i
        have bz : z < 65536 := by rw [hz]; exact hb k
        have by' : y < 65536 := by rw [hy, hL]; exact q1 (i + k)
        have bp : x * z ≤ 65535 * 65535 := Nat.mul_le_mul (by omega) (by omega)
        rw [← hL] at q1 ql qs qo qf ⊢
        rw [← hc] at q2 qs qo ⊢
        rw [← hx, ← hz, ← hy] at qs
        have w1 : IntKind.i64.wrap ((i : Int) + (k : Int)) = ((i + k : Nat) : Int) := by rw [IntKind.wrap_i64]; omega
        have w2 : IntKind.i64.wrap ((x : Int) * (z : Int)) = ((x * z : Nat) : Int) := by rw [IntKind.wrap_i64, ← Int.natCast_mul]; omega
        have w3 : IntKind.i64.wrap ((y : Int) + ((x * z : Nat) : Int)) = ((y + x * z : Nat) : Int) := by rw [IntKind.wrap_i64]; omega
        have w4 : IntKind.i64.wrap (((y + x * z : Nat) : Int) + (c : Int)) = ((y + x * z + c : Nat) : Int) := by rw [IntKind.wrap_i64]; omega
        have w5 : ((y + x * z + c : Nat) : Int).tmod 65536 = (((y + x * z + c) % 65536 : Nat) : Int) := by rw [show (65536 : Int) = ((65536 : Nat) : Int) from rfl, ← Int.ofNat_tmod]
        have w6 : IntKind.i64.wrap (((y + x * z + c : Nat) : Int).tdiv 65536) = (((y + x * z + c) / 65536 : Nat) : Int) := by
          rw [show (65536 : Int) = ((65536 : Nat) : Int) from rfl, ← Int.ofNat_tdiv, IntKind.wrap_i64]; omega
        have w7 : IntKind.i64.wrap ((k : Int) + 1) = ((k + 1 : Nat) : Int) := by rw [IntKind.wrap_i64]; omega
        have w8 : IntKind.i64.wrap ((y : Int) + (c : Int)) = ((y + c : Nat) : Int) := by rw [IntKind.wrap_i64]; omega
        simp only [envR, con0, conN0, conN1, conN2, natsOf_arr, rowOf_arr, natsOf_cells, rowOf_cells, toN, natL_st, natL_d, natL_enc, natL_up, ga0, go_sem, reduceCtorEq, ↓reduceIte, Nat.reduceAdd, Nat.reduceMul, Nat.reduceSub, Nat.reduceEqDiff, Nat.reduceLT, Nat.reduceBEq, Nat.reduceBNe, Nat.reduceLeDiff, Int.reduceLE, Int.reduceLT, Int.reduceToNat, Int.reduceEq, Int.reduceAdd, UInt8.reduceToNat, UInt32.reduceToNat, UInt64.reduceToNat, UInt8.reduceOfNat, UInt32.reduceOfNat, UInt64.reduceOfNat, Fin.isValue, Int.reduceSub, Int.reduceMul, Int.reduceNeg, Int.reduceMod, Int.reduceDiv, Int.reduceTDiv, Int.reduceTMod, Int.reduceBEq, Int.reduceBNe, Nat.reduceDiv, Nat.reducePow]
        refine br (fun h2 => ?_) fun h2 => ?_
        · have g2 : k < b.length := by have := of_decide_eq_true h2; omega
          have rA := pA i g1
          have rB := pB k g2
          simp only [h2, rA, rB, w1, w2, w3, w4, w5, w6, w7, ← hx, ← hz, ← hy, ql, envR, con0, conN0, conN1, conN2, natsOf_arr, rowOf_arr, natsOf_cells, rowOf_cells, toN, natL_st, natL_d, natL_enc, natL_up, ga0, go_sem, reduceCtorEq, ↓reduceIte, Nat.reduceAdd, Nat.reduceMul, Nat.reduceSub, Nat.reduceEqDiff, Nat.reduceLT, Nat.reduceBEq, Nat.reduceBNe, Nat.reduceLeDiff, Int.reduceLE, Int.reduceLT, Int.reduceToNat, Int.reduceEq, Int.reduceAdd, UInt8.reduceToNat, UInt32.reduceToNat, UInt64.reduceToNat, UInt8.reduceOfNat, UInt32.reduceOfNat, UInt64.reduceOfNat, Fin.isValue, Int.reduceSub, Int.reduceMul, Int.reduceNeg, Int.reduceMod, Int.reduceDiv, Int.reduceTDiv, Int.reduceTMod, Int.reduceBEq, Int.reduceBNe, Nat.reduceDiv, Nat.reducePow]
          refine ⟨⟨by omega, by omega⟩, by omega, ⟨by omega, by omega⟩, by omega, ⟨by omega, by omega⟩, by omega, rfl, ⟨by omega, by omega⟩, by omega, again (k + 1) [] (by omega) (by omega) ?_⟩
          simp only [gtIn, ← hx, qs, envR, con0, conN0, conN1, conN2, natsOf_arr, rowOf_arr, natsOf_cells, rowOf_cells, toN, natL_st, natL_d, natL_enc, natL_up, ga0, go_sem, reduceCtorEq, ↓reduceIte, Nat.reduceAdd, Nat.reduceMul, Nat.reduceSub, Nat.reduceEqDiff, Nat.reduceLT, Nat.reduceBEq, Nat.reduceBNe, Nat.reduceLeDiff, Int.reduceLE, Int.reduceLT, Int.reduceToNat, Int.reduceEq, Int.reduceAdd, UInt8.reduceToNat, UInt32.reduceToNat, UInt64.reduceToNat, UInt8.reduceOfNat, UInt32.reduceOfNat, UInt64.reduceOfNat, Fin.isValue, Int.reduceSub, Int.reduceMul, Int.reduceNeg, Int.reduceMod, Int.reduceDiv, Int.reduceTDiv, Int.reduceTMod, Int.reduceBEq, Int.reduceBNe, Nat.reduceDiv, Nat.reducePow]
          exact ⟨rfl, id, id⟩
        · have he : k = b.length := by have := of_decide_eq_false h2; omega
          have qo := qo he
          rw [← hy] at qo
          simp only [h2, hw, ← he, w1, w8, ← hy, ql, envR, con0, conN0, conN1, conN2, natsOf_arr, rowOf_arr, natsOf_cells, rowOf_cells, toN, natL_st, natL_d, natL_enc, natL_up, ga0, go_sem, reduceCtorEq, ↓reduceIte, Nat.reduceAdd, Nat.reduceMul, Nat.reduceSub, Nat.reduceEqDiff, Nat.reduceLT, Nat.reduceBEq, Nat.reduceBNe, Nat.reduceLeDiff, Int.reduceLE, Int.reduceLT, Int.reduceToNat, Int.reduceEq, Int.reduceAdd, UInt8.reduceToNat, UInt32.reduceToNat, UInt64.reduceToNat, UInt8.reduceOfNat, UInt32.reduceOfNat, UInt64.reduceOfNat, Fin.isValue, Int.reduceSub, Int.reduceMul, Int.reduceNeg, Int.reduceMod, Int.reduceDiv, Int.reduceTDiv, Int.reduceTMod, Int.reduceBEq, Int.reduceBNe, Nat.reduceDiv, Nat.reducePow]
          repeat' apply And.intro
          all_goals first
            | omega
            | skip
          refine again (i + 1) [] (by omega) (by omega) ?_
          simp only [gtInv, ← he, qo, envR, con0, conN0, conN1, conN2, natsOf_arr, rowOf_arr, natsOf_cells, rowOf_cells, toN, natL_st, natL_d, natL_enc, natL_up, ga0, go_sem, reduceCtorEq, ↓reduceIte, Nat.reduceAdd, Nat.reduceMul, Nat.reduceSub, Nat.reduceEqDiff, Nat.reduceLT, Nat.reduceBEq, Nat.reduceBNe, Nat.reduceLeDiff, Int.reduceLE, Int.reduceLT, Int.reduceToNat, Int.reduceEq, Int.reduceAdd, UInt8.reduceToNat, UInt32.reduceToNat, UInt64.reduceToNat, UInt8.reduceOfNat, UInt32.reduceOfNat, UInt64.reduceOfNat, Fin.isValue, Int.reduceSub, Int.reduceMul, Int.reduceNeg, Int.reduceMod, Int.reduceDiv, Int.reduceTDiv, Int.reduceTMod, Int.reduceBEq, Int.reduceBNe, Nat.reduceDiv, Nat.reducePow]
          exact ⟨rfl, id, id⟩
    · have he : i = a.length := by have := of_decide_eq_false h; omega
      have hr : mulOut 65536 a b i = timesL 65536 a b := by rw [timesL, he]
      have hl2 := timesL_len 65536 a b
      simp only [h, hr, hl2, envR, con0, conN0, conN1, conN2, natsOf_arr, rowOf_arr, natsOf_cells, rowOf_cells, toN, natL_st, natL_d, natL_enc, natL_up, ga0, go_sem, reduceCtorEq, ↓reduceIte, Nat.reduceAdd, Nat.reduceMul, Nat.reduceSub, Nat.reduceEqDiff, Nat.reduceLT, Nat.reduceBEq, Nat.reduceBNe, Nat.reduceLeDiff, Int.reduceLE, Int.reduceLT, Int.reduceToNat, Int.reduceEq, Int.reduceAdd, UInt8.reduceToNat, UInt32.reduceToNat, UInt64.reduceToNat, UInt8.reduceOfNat, UInt32.reduceOfNat, UInt64.reduceOfNat, Fin.isValue, Int.reduceSub, Int.reduceMul, Int.reduceNeg, Int.reduceMod, Int.reduceDiv, Int.reduceTDiv, Int.reduceTMod, Int.reduceBEq, Int.reduceBNe, Nat.reduceDiv, Nat.reducePow]
      exact ⟨rfl, id, id⟩
def gtimesC : Con := conN2 fun args a b => match args with
  | [.one (.sl 0 0 1 n), .one (.sl 1 0 1 m)] => some (.c (.one (.sl 2 0 1 (timesL 65536 (a.take n) (b.take m)).length)), timesL 65536 (a.take n) (b.take m), [n ≤ a.length, m ≤ b.length, dlt 65536 (a.take n), dlt 65536 (b.take m), n ≤ 1000, m ≤ 1000])
  | _ => none
theorem gtimesC_ok : ConOk Try.prog 41 gtimesC := conN2_ok Try.func41 rfl rfl fun args a b v r ob h hob wa wb => by
  split at h
  · rename_i n m
    injection h with h; injection h with h1 h2; injection h2 with h2 h3; subst h1; subst h2; subst h3
    obtain ⟨o1, o2, o3, o4, o5, o6, _⟩ := hob
    have e1 : (a.take n).length = n := by rw [List.length_take]; omega
    have e2 : (b.take m).length = m := by rw [List.length_take]; omega
    have := gtimes_tri a b (a.take n) (b.take m) wa wb (by omega) (by omega) (fun i hi => take_getD a n i hi) (fun i hi => take_getD b m i hi) o3 o4 (by omega) (by omega)
    rw [e1, e2] at this
    exact this
  · cases h
end Go.Proofs.Ytdkmkifebhggeaa
