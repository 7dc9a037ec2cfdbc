/-
  The document's digits to the base 256: products.
-/
import Derived.Test.YthgemadhhkocgaaSz
import Derived.Test.YthgemadhhkocgaaDb
namespace Go.Proofs.Ythgemadhhkocgaa
open Go Go.RowKit
set_option maxHeartbeats 4000000
set_option linter.unusedSimpArgs false
set_option linter.unusedVariables false
theorem zeros_flat (n : Nat) : (List.replicate n 0).flatMap natL.enc = List.replicate n (AV.num 0) := by
  rw [nat_flat, List.map_replicate]; rfl
def dtInv (a b : List Nat) (wa wb : Bool) (i : Nat) : St := ⟨[(0, .c (.one (.sl 0 0 1 a.length))), (1, .c (.one (.sl 1 0 1 b.length))), (5, .c (.one (.sl 20040 0 1 (a.length + b.length)))), (6, .c (.one (.num i)))], [(0, ⟨.arr Nat natL a, wa⟩), (1, ⟨.arr Nat natL b, wb⟩), (20040, ⟨.arr Nat natL (mulOut 256 a b i), true⟩)]⟩
def dtIn (a b : List Nat) (wa wb : Bool) (i k : Nat) : St := ⟨[(0, .c (.one (.sl 0 0 1 a.length))), (1, .c (.one (.sl 1 0 1 b.length))), (5, .c (.one (.sl 20040 0 1 (a.length + b.length)))), (6, .c (.one (.num i))), (7, .c (.one (.num (mulIn 256 (mulOut 256 a b i) b (a.getD i 0) i k).2))), (8, .c (.one (.num k)))], [(0, ⟨.arr Nat natL a, wa⟩), (1, ⟨.arr Nat natL b, wb⟩), (20040, ⟨.arr Nat natL (mulIn 256 (mulOut 256 a b i) b (a.getD i 0) i k).1, true⟩)]⟩
set_option maxRecDepth 100000 in
theorem dtimes_tri (a b : List Nat) (wa wb : Bool) (ha : dlt 256 a) (hb : dlt 256 b) (la : a.length ≤ 1000) (lb : b.length ≤ 1000) : Tri Try.prog 47 [.one (.sl 0 0 1 a.length), .one (.sl 1 0 1 b.length)] [(0, ⟨.arr Nat natL a, wa⟩), (1, ⟨.arr Nat natL b, wb⟩)] (.c (.one (.sl 2 0 1 (timesL 256 a b).length))) [(0, ⟨.arr Nat natL a, wa⟩), (1, ⟨.arr Nat natL b, wb⟩), (2, ⟨.arr Nat natL (timesL 256 a b), true⟩)] := by
  refine tri_of (envR_ok ga0_ok 66 [0, 1]) Try.func47 rfl rfl (rs := [.tmp 4]) rfl rfl (by simp [envR]) rfl [(2, 20040)] ?_
  have hw0 : IntKind.i64.wrap ((a.length : Int) + (b.length : Int)) = ((a.length + b.length : Nat) : Int) := by rw [IntKind.wrap_i64]; omega
  simp only [envR, con0, conN0, conN1, conN2, natsOf_arr, rowOf_arr, natsOf_cells, rowOf_cells, toN, natL_st, natL_d, natL_enc, natL_up, ga0, hw0, go_sem, reduceCtorEq, ↓reduceIte, Nat.reduceAdd, Nat.reduceMul, Nat.reduceSub, Nat.reduceEqDiff, Nat.reduceLT, Nat.reduceBEq, Nat.reduceBNe, Nat.reduceLeDiff, Int.reduceLE, Int.reduceLT, Int.reduceToNat, Int.reduceEq, Int.reduceAdd, UInt8.reduceToNat, UInt32.reduceToNat, UInt64.reduceToNat, UInt8.reduceOfNat, UInt32.reduceOfNat, UInt64.reduceOfNat, Fin.isValue, Int.reduceSub, Int.reduceMul, Int.reduceNeg, Int.reduceMod, Int.reduceDiv, Int.reduceTDiv, Int.reduceTMod, Int.reduceBEq, Int.reduceBNe, Nat.reduceDiv, Nat.reducePow]
  refine ⟨⟨by omega, by omega, by omega⟩, ?_⟩
  refine loop_inv (envR_ok ga0_ok 66 [0, 1]) (dtInv a b wa wb) (fun i => i ≤ a.length) (fun i => a.length - i) 0 [] (by omega) ?_ ?_
  · have h0 : (mulOut 256 a b 0).flatMap natL.enc = List.replicate (a.length + b.length) (AV.num 0) := zeros_flat _
    simp only [dtInv, h0, envR, con0, conN0, conN1, conN2, natsOf_arr, rowOf_arr, natsOf_cells, rowOf_cells, toN, natL_st, natL_d, natL_enc, natL_up, ga0, go_sem, reduceCtorEq, ↓reduceIte, Nat.reduceAdd, Nat.reduceMul, Nat.reduceSub, Nat.reduceEqDiff, Nat.reduceLT, Nat.reduceBEq, Nat.reduceBNe, Nat.reduceLeDiff, Int.reduceLE, Int.reduceLT, Int.reduceToNat, Int.reduceEq, Int.reduceAdd, UInt8.reduceToNat, UInt32.reduceToNat, UInt64.reduceToNat, UInt8.reduceOfNat, UInt32.reduceOfNat, UInt64.reduceOfNat, Fin.isValue, Int.reduceSub, Int.reduceMul, Int.reduceNeg, Int.reduceMod, Int.reduceDiv, Int.reduceTDiv, Int.reduceTMod, Int.reduceBEq, Int.reduceBNe, Nat.reduceDiv, Nat.reducePow]
    exact ⟨rfl, id, id⟩
  · intro i hi
    have hlen := mulOut_len 256 a b i
    have hlt := mulOut_lt (by decide : 1 < 256) ha hb i hi
    have hw : IntKind.i64.wrap ((i : Int) + 1) = ((i + 1 : Nat) : Int) := by rw [IntKind.wrap_i64]; omega
    simp only [dtInv, envR, con0, conN0, conN1, conN2, natsOf_arr, rowOf_arr, natsOf_cells, rowOf_cells, toN, natL_st, natL_d, natL_enc, natL_up, ga0, go_sem, reduceCtorEq, ↓reduceIte, Nat.reduceAdd, Nat.reduceMul, Nat.reduceSub, Nat.reduceEqDiff, Nat.reduceLT, Nat.reduceBEq, Nat.reduceBNe, Nat.reduceLeDiff, Int.reduceLE, Int.reduceLT, Int.reduceToNat, Int.reduceEq, Int.reduceAdd, UInt8.reduceToNat, UInt32.reduceToNat, UInt64.reduceToNat, UInt8.reduceOfNat, UInt32.reduceOfNat, UInt64.reduceOfNat, Fin.isValue, Int.reduceSub, Int.reduceMul, Int.reduceNeg, Int.reduceMod, Int.reduceDiv, Int.reduceTDiv, Int.reduceTMod, Int.reduceBEq, Int.reduceBNe, Nat.reduceDiv, Nat.reducePow]
    refine br (fun h => ?_) fun h => ?_
    · have g1 : i < a.length := by have := of_decide_eq_true h; omega
      simp only [h, hw, envR, con0, conN0, conN1, conN2, natsOf_arr, rowOf_arr, natsOf_cells, rowOf_cells, toN, natL_st, natL_d, natL_enc, natL_up, ga0, go_sem, reduceCtorEq, ↓reduceIte, Nat.reduceAdd, Nat.reduceMul, Nat.reduceSub, Nat.reduceEqDiff, Nat.reduceLT, Nat.reduceBEq, Nat.reduceBNe, Nat.reduceLeDiff, Int.reduceLE, Int.reduceLT, Int.reduceToNat, Int.reduceEq, Int.reduceAdd, UInt8.reduceToNat, UInt32.reduceToNat, UInt64.reduceToNat, UInt8.reduceOfNat, UInt32.reduceOfNat, UInt64.reduceOfNat, Fin.isValue, Int.reduceSub, Int.reduceMul, Int.reduceNeg, Int.reduceMod, Int.reduceDiv, Int.reduceTDiv, Int.reduceTMod, Int.reduceBEq, Int.reduceBNe, Nat.reduceDiv, Nat.reducePow]
      refine loop_inv (envR_ok ga0_ok 66 [0, 1]) (dtIn a b wa wb i) (fun k => k ≤ b.length) (fun k => b.length - k) 0 [] (by omega) ?_ ?_
      · simp only [dtIn, mulIn, Int.natCast_zero, envR, con0, conN0, conN1, conN2, natsOf_arr, rowOf_arr, natsOf_cells, rowOf_cells, toN, natL_st, natL_d, natL_enc, natL_up, ga0, go_sem, reduceCtorEq, ↓reduceIte, Nat.reduceAdd, Nat.reduceMul, Nat.reduceSub, Nat.reduceEqDiff, Nat.reduceLT, Nat.reduceBEq, Nat.reduceBNe, Nat.reduceLeDiff, Int.reduceLE, Int.reduceLT, Int.reduceToNat, Int.reduceEq, Int.reduceAdd, UInt8.reduceToNat, UInt32.reduceToNat, UInt64.reduceToNat, UInt8.reduceOfNat, UInt32.reduceOfNat, UInt64.reduceOfNat, Fin.isValue, Int.reduceSub, Int.reduceMul, Int.reduceNeg, Int.reduceMod, Int.reduceDiv, Int.reduceTDiv, Int.reduceTMod, Int.reduceBEq, Int.reduceBNe, Nat.reduceDiv, Nat.reducePow]
        exact ⟨rfl, id, id⟩
      · intro k hk
        obtain ⟨q1, q2⟩ := mulIn_lt (by decide : 1 < 256) hlt.1 hb (ha i) i k
        have ql := mulIn_len 256 (mulOut 256 a b i) b (a.getD i 0) i k
        rw [hlen] at ql
        have qs : mulIn 256 (mulOut 256 a b i) b (a.getD i 0) i (k + 1) = ((mulIn 256 (mulOut 256 a b i) b (a.getD i 0) i k).1.set (i + k) (((mulIn 256 (mulOut 256 a b i) b (a.getD i 0) i k).1.getD (i + k) 0 + a.getD i 0 * b.getD k 0 + (mulIn 256 (mulOut 256 a b i) b (a.getD i 0) i k).2) % 256), ((mulIn 256 (mulOut 256 a b i) b (a.getD i 0) i k).1.getD (i + k) 0 + a.getD i 0 * b.getD k 0 + (mulIn 256 (mulOut 256 a b i) b (a.getD i 0) i k).2) / 256) := rfl
        have qf := mulIn_far 256 (mulOut 256 a b i) b (a.getD i 0) i k
        have qo : k = b.length → mulOut 256 a b (i + 1) = (mulIn 256 (mulOut 256 a b i) b (a.getD i 0) i k).1.set (i + k) ((mulIn 256 (mulOut 256 a b i) b (a.getD i 0) i k).1.getD (i + k) 0 + (mulIn 256 (mulOut 256 a b i) b (a.getD i 0) i k).2) := fun e => by subst e; rfl
        simp only [dtIn]
        obtain ⟨L, hL⟩ : ∃ L, L = (mulIn 256 (mulOut 256 a b i) b (a.getD i 0) i k).1 := ⟨_, rfl⟩
        obtain ⟨c, hc⟩ : ∃ c, c = (mulIn 256 (mulOut 256 a b i) b (a.getD i 0) i k).2 := ⟨_, rfl⟩
        obtain ⟨x, hx⟩ : ∃ x, x = a.getD i 0 := ⟨_, rfl⟩
        obtain ⟨z, hz⟩ : ∃ z, z = b.getD k 0 := ⟨_, rfl⟩
        obtain ⟨y, hy⟩ : ∃ y, y = L.getD (i + k) 0 := ⟨_, rfl⟩
        have bx : x < 256 := by rw [hx]; exact ha i
        have bz : z < 256 := by rw [hz]; exact hb k
        have by' : y < 256 := by rw [hy, hL]; exact q1 (i + k)
        have bp : x * z ≤ 255 * 255 := Nat.mul_le_mul (by omega) (by omega)
        rw [← hL] at q1 ql qs qo qf ⊢
        rw [← hc] at q2 qs qo ⊢
        rw [← hx, ← hz, ← hy] at qs
        have w1 : IntKind.i64.wrap ((i : Int) + (k : Int)) = ((i + k : Nat) : Int) := by rw [IntKind.wrap_i64]; omega
        have w2 : IntKind.i64.wrap ((x : Int) * (z : Int)) = ((x * z : Nat) : Int) := by rw [IntKind.wrap_i64, ← Int.natCast_mul]; omega
        have w3 : IntKind.i64.wrap ((y : Int) + ((x * z : Nat) : Int)) = ((y + x * z : Nat) : Int) := by rw [IntKind.wrap_i64]; omega
        have w4 : IntKind.i64.wrap (((y + x * z : Nat) : Int) + (c : Int)) = ((y + x * z + c : Nat) : Int) := by rw [IntKind.wrap_i64]; omega
        have w5 : ((y + x * z + c : Nat) : Int).tmod 256 = (((y + x * z + c) % 256 : Nat) : Int) := by rw [show (256 : Int) = ((256 : Nat) : Int) from rfl, ← Int.ofNat_tmod]
        have w6 : IntKind.i64.wrap (((y + x * z + c : Nat) : Int).tdiv 256) = (((y + x * z + c) / 256 : Nat) : Int) := by
          rw [show (256 : Int) = ((256 : Nat) : Int) from rfl, ← Int.ofNat_tdiv, IntKind.wrap_i64]; omega
        have w7 : IntKind.i64.wrap ((k : Int) + 1) = ((k + 1 : Nat) : Int) := by rw [IntKind.wrap_i64]; omega
        have w8 : IntKind.i64.wrap ((y : Int) + (c : Int)) = ((y + c : Nat) : Int) := by rw [IntKind.wrap_i64]; omega
        simp only [envR, con0, conN0, conN1, conN2, natsOf_arr, rowOf_arr, natsOf_cells, rowOf_cells, toN, natL_st, natL_d, natL_enc, natL_up, ga0, go_sem, reduceCtorEq, ↓reduceIte, Nat.reduceAdd, Nat.reduceMul, Nat.reduceSub, Nat.reduceEqDiff, Nat.reduceLT, Nat.reduceBEq, Nat.reduceBNe, Nat.reduceLeDiff, Int.reduceLE, Int.reduceLT, Int.reduceToNat, Int.reduceEq, Int.reduceAdd, UInt8.reduceToNat, UInt32.reduceToNat, UInt64.reduceToNat, UInt8.reduceOfNat, UInt32.reduceOfNat, UInt64.reduceOfNat, Fin.isValue, Int.reduceSub, Int.reduceMul, Int.reduceNeg, Int.reduceMod, Int.reduceDiv, Int.reduceTDiv, Int.reduceTMod, Int.reduceBEq, Int.reduceBNe, Nat.reduceDiv, Nat.reducePow]
        refine br (fun h2 => ?_) fun h2 => ?_
        · have g2 : k < b.length := by have := of_decide_eq_true h2; omega
          simp only [h2, w1, w2, w3, w4, w5, w6, w7, ← hx, ← hz, ← hy, ql, envR, con0, conN0, conN1, conN2, natsOf_arr, rowOf_arr, natsOf_cells, rowOf_cells, toN, natL_st, natL_d, natL_enc, natL_up, ga0, go_sem, reduceCtorEq, ↓reduceIte, Nat.reduceAdd, Nat.reduceMul, Nat.reduceSub, Nat.reduceEqDiff, Nat.reduceLT, Nat.reduceBEq, Nat.reduceBNe, Nat.reduceLeDiff, Int.reduceLE, Int.reduceLT, Int.reduceToNat, Int.reduceEq, Int.reduceAdd, UInt8.reduceToNat, UInt32.reduceToNat, UInt64.reduceToNat, UInt8.reduceOfNat, UInt32.reduceOfNat, UInt64.reduceOfNat, Fin.isValue, Int.reduceSub, Int.reduceMul, Int.reduceNeg, Int.reduceMod, Int.reduceDiv, Int.reduceTDiv, Int.reduceTMod, Int.reduceBEq, Int.reduceBNe, Nat.reduceDiv, Nat.reducePow]
          refine ⟨⟨by omega, by omega⟩, by omega, ⟨by omega, by omega⟩, by omega, ⟨by omega, by omega⟩, by omega, rfl, ⟨by omega, by omega⟩, by omega, again (k + 1) [] (by omega) (by omega) ?_⟩
          simp only [dtIn, ← hx, qs, envR, con0, conN0, conN1, conN2, natsOf_arr, rowOf_arr, natsOf_cells, rowOf_cells, toN, natL_st, natL_d, natL_enc, natL_up, ga0, go_sem, reduceCtorEq, ↓reduceIte, Nat.reduceAdd, Nat.reduceMul, Nat.reduceSub, Nat.reduceEqDiff, Nat.reduceLT, Nat.reduceBEq, Nat.reduceBNe, Nat.reduceLeDiff, Int.reduceLE, Int.reduceLT, Int.reduceToNat, Int.reduceEq, Int.reduceAdd, UInt8.reduceToNat, UInt32.reduceToNat, UInt64.reduceToNat, UInt8.reduceOfNat, UInt32.reduceOfNat, UInt64.reduceOfNat, Fin.isValue, Int.reduceSub, Int.reduceMul, Int.reduceNeg, Int.reduceMod, Int.reduceDiv, Int.reduceTDiv, Int.reduceTMod, Int.reduceBEq, Int.reduceBNe, Nat.reduceDiv, Nat.reducePow]
          exact ⟨rfl, id, id⟩
        · have he : k = b.length := by have := of_decide_eq_false h2; omega
          have qo := qo he
          rw [← hy] at qo
          simp only [h2, hw, ← he, w1, w8, ← hy, ql, envR, con0, conN0, conN1, conN2, natsOf_arr, rowOf_arr, natsOf_cells, rowOf_cells, toN, natL_st, natL_d, natL_enc, natL_up, ga0, go_sem, reduceCtorEq, ↓reduceIte, Nat.reduceAdd, Nat.reduceMul, Nat.reduceSub, Nat.reduceEqDiff, Nat.reduceLT, Nat.reduceBEq, Nat.reduceBNe, Nat.reduceLeDiff, Int.reduceLE, Int.reduceLT, Int.reduceToNat, Int.reduceEq, Int.reduceAdd, UInt8.reduceToNat, UInt32.reduceToNat, UInt64.reduceToNat, UInt8.reduceOfNat, UInt32.reduceOfNat, UInt64.reduceOfNat, Fin.isValue, Int.reduceSub, Int.reduceMul, Int.reduceNeg, Int.reduceMod, Int.reduceDiv, Int.reduceTDiv, Int.reduceTMod, Int.reduceBEq, Int.reduceBNe, Nat.reduceDiv, Nat.reducePow]
          repeat' apply And.intro
          all_goals first
            | omega
            | skip
          refine again (i + 1) [] (by omega) (by omega) ?_
          simp only [dtInv, ← he, qo, envR, con0, conN0, conN1, conN2, natsOf_arr, rowOf_arr, natsOf_cells, rowOf_cells, toN, natL_st, natL_d, natL_enc, natL_up, ga0, go_sem, reduceCtorEq, ↓reduceIte, Nat.reduceAdd, Nat.reduceMul, Nat.reduceSub, Nat.reduceEqDiff, Nat.reduceLT, Nat.reduceBEq, Nat.reduceBNe, Nat.reduceLeDiff, Int.reduceLE, Int.reduceLT, Int.reduceToNat, Int.reduceEq, Int.reduceAdd, UInt8.reduceToNat, UInt32.reduceToNat, UInt64.reduceToNat, UInt8.reduceOfNat, UInt32.reduceOfNat, UInt64.reduceOfNat, Fin.isValue, Int.reduceSub, Int.reduceMul, Int.reduceNeg, Int.reduceMod, Int.reduceDiv, Int.reduceTDiv, Int.reduceTMod, Int.reduceBEq, Int.reduceBNe, Nat.reduceDiv, Nat.reducePow]
          exact ⟨rfl, id, id⟩
    · have he : i = a.length := by have := of_decide_eq_false h; omega
      have hr : mulOut 256 a b i = timesL 256 a b := by rw [timesL, he]
      have hl2 := timesL_len 256 a b
      simp only [h, hr, hl2, envR, con0, conN0, conN1, conN2, natsOf_arr, rowOf_arr, natsOf_cells, rowOf_cells, toN, natL_st, natL_d, natL_enc, natL_up, ga0, go_sem, reduceCtorEq, ↓reduceIte, Nat.reduceAdd, Nat.reduceMul, Nat.reduceSub, Nat.reduceEqDiff, Nat.reduceLT, Nat.reduceBEq, Nat.reduceBNe, Nat.reduceLeDiff, Int.reduceLE, Int.reduceLT, Int.reduceToNat, Int.reduceEq, Int.reduceAdd, UInt8.reduceToNat, UInt32.reduceToNat, UInt64.reduceToNat, UInt8.reduceOfNat, UInt32.reduceOfNat, UInt64.reduceOfNat, Fin.isValue, Int.reduceSub, Int.reduceMul, Int.reduceNeg, Int.reduceMod, Int.reduceDiv, Int.reduceTDiv, Int.reduceTMod, Int.reduceBEq, Int.reduceBNe, Nat.reduceDiv, Nat.reducePow]
      exact ⟨rfl, id, id⟩
def dtimesC : Con := conN2 fun args a b => match args with
  | [.one (.sl 0 0 1 n), .one (.sl 1 0 1 m)] => some (.c (.one (.sl 2 0 1 (timesL 256 a b).length)), timesL 256 a b, [n = a.length, m = b.length, dlt 256 a, dlt 256 b, a.length ≤ 1000, b.length ≤ 1000])
  | _ => none
theorem dtimesC_ok : ConOk Try.prog 47 dtimesC := conN2_ok Try.func47 rfl rfl fun args a b v r ob h hob wa wb => by
  split at h
  · injection h with h; injection h with h1 h2; injection h2 with h2 h3; subst h1; subst h2; subst h3
    obtain ⟨rfl, rfl, o3, o4, o5, o6, _⟩ := hob
    exact dtimes_tri _ _ _ _ o3 o4 o5 o6
  · cases h
def gd5 : Nat → Option Con := fun f => match f with
  | 48 => some daddC
  | 47 => some dtimesC
  | _ => none
theorem gd5_ok : GaOk Try.prog gd5 := fun f con h => by
  unfold gd5 at h
  split at h
  · injection h with h; subst h; exact daddC_ok
  · injection h with h; subst h; exact dtimesC_ok
  · cases h
end Go.Proofs.Ythgemadhhkocgaa
