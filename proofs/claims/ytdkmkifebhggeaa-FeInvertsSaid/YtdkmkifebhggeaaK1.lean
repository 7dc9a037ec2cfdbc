/-
  Layer 3: the document's number out of parts, walked.
-/
import Derived.Test.YtdkmkifebhggeaaSz
import Derived.Test.YtdkmkifebhggeaaKu
namespace Go.Proofs.Ytdkmkifebhggeaa
open Go Go.RowKit
set_option maxHeartbeats 4000000
set_option linter.unusedSimpArgs false
set_option linter.unusedVariables false
def pI : Nat → Int
  | 0 => 4
  | 1 => 3
  | 2 => 2
  | 3 => 1
  | 4 => 0
  | _ => -1
theorem wrap_dig (u : UInt64) : IntKind.i64.wrap (((u % 65536).toNat : Nat) : Int) = (((u % 65536).toNat : Nat) : Int) := by
  have : (u % 65536).toNat = u.toNat % 65536 := UInt64.toNat_mod _ _
  rw [IntKind.wrap_i64]; omega
theorem wrap_top (u : UInt64) : IntKind.i64.wrap (((u / 281474976710656).toNat : Nat) : Int) = (((u / 281474976710656).toNat : Nat) : Int) := by
  have : (u / 281474976710656).toNat = u.toNat / 281474976710656 := UInt64.toNat_div _ _
  have := u.toNat_lt
  rw [IntKind.wrap_i64]; omega
def pInv (x : N5) (wa : Bool) (j : Nat) : St := ⟨[(0, .c (.one (.sl 0 0 1 5))), (3, .c (.one (.sl 500 0 1 (pS x j).2))), (4, .c (.one (.num (pI j))))], [(0, ⟨.cells 1 [.u64 x.a, .u64 x.b, .u64 x.c, .u64 x.d, .u64 x.e], wa⟩), (500, ⟨.arr Nat natL (pS x j).1, true⟩)]⟩
def gu1 : Nat → Option Con := fun f => match f with
  | 36 => some gaddC
  | 41 => some gtimes2C
  | 35 => some redQC
  | _ => none
theorem gu1_ok : GaOk Try.prog gu1 := fun f con h => by
  unfold gu1 at h
  split at h
  · injection h with h; subst h; exact gaddC_ok
  · injection h with h; subst h; exact gtimes2C_ok
  · injection h with h; subst h; exact redQC_ok
  · cases h
set_option maxRecDepth 100000 in
theorem rparts_tri (x : N5) (wa : Bool) : Tri Try.prog 32 [.one (.sl 0 0 1 5)] [(0, ⟨.cells 1 [.u64 x.a, .u64 x.b, .u64 x.c, .u64 x.d, .u64 x.e], wa⟩)] (.c (.one (.sl 1 0 1 16))) [(0, ⟨.cells 1 [.u64 x.a, .u64 x.b, .u64 x.c, .u64 x.d, .u64 x.e], wa⟩), (1, ⟨.arr Nat natL (partsRow x), true⟩)] := by
  have hz : List.replicate 17 (AV.num 0) = [.num 0, .num 0, .num 0, .num 0, .num 0, .num 0, .num 0, .num 0, .num 0, .num 0, .num 0, .num 0, .num 0, .num 0, .num 0, .num 0, .num 0] := rfl
  refine tri_ofx (envR_ok gu1_ok 45 [0]) Try.func32 rfl rfl (rs := [.tmp 2]) rfl rfl (by simp [envR]) rfl ?_
  simp only [hz, retQx, envR, con0, conN0, conN1, conN2, natsOf_arr, rowOf_arr, natsOf_cells, rowOf_cells, toN, natL_st, natL_d, natL_enc, natL_up, gu1, gaddC, gtimes2C, redQC, go_sem, reduceCtorEq, ↓reduceIte, Nat.reduceAdd, Nat.reduceMul, Nat.reduceSub, Nat.reduceEqDiff, Nat.reduceLT, Nat.reduceBEq, Nat.reduceBNe, Nat.reduceLeDiff, Int.reduceLE, Int.reduceLT, Int.reduceToNat, Int.reduceEq, Int.reduceAdd, UInt8.reduceToNat, UInt32.reduceToNat, UInt64.reduceToNat, UInt8.reduceOfNat, UInt32.reduceOfNat, UInt64.reduceOfNat, Fin.isValue, Int.reduceSub, Int.reduceMul, Int.reduceNeg, Int.reduceMod, Int.reduceDiv, Int.reduceTDiv, Int.reduceTMod, Int.reduceBEq, Int.reduceBNe, Nat.reduceDiv, Nat.reducePow]
  refine loop_inv (envR_ok gu1_ok 45 [0]) (pInv x wa) (fun j => j ≤ 5) (fun j => 5 - j) 0 [(500, 20000)] (by omega) ?_ ?_
  · simp only [pInv, pS, pz, pI, envR, con0, conN0, conN1, conN2, natsOf_arr, rowOf_arr, natsOf_cells, rowOf_cells, toN, natL_st, natL_d, natL_enc, natL_up, gu1, gaddC, gtimes2C, redQC, go_sem, reduceCtorEq, ↓reduceIte, Nat.reduceAdd, Nat.reduceMul, Nat.reduceSub, Nat.reduceEqDiff, Nat.reduceLT, Nat.reduceBEq, Nat.reduceBNe, Nat.reduceLeDiff, Int.reduceLE, Int.reduceLT, Int.reduceToNat, Int.reduceEq, Int.reduceAdd, UInt8.reduceToNat, UInt32.reduceToNat, UInt64.reduceToNat, UInt8.reduceOfNat, UInt32.reduceOfNat, UInt64.reduceOfNat, Fin.isValue, Int.reduceSub, Int.reduceMul, Int.reduceNeg, Int.reduceMod, Int.reduceDiv, Int.reduceTDiv, Int.reduceTMod, Int.reduceBEq, Int.reduceBNe, Nat.reduceDiv, Nat.reducePow]
    exact ⟨rfl, id⟩
  · intro j hj
    have hok := pS_ok x j
    have hsu : pS x (j + 1) = (redRow (pA (pS x j).1 (pS x j).2 (pu x j)), 16) := rfl
    obtain ⟨R, n, hR⟩ : ∃ R n, pS x j = (R, n) := ⟨_, _, rfl⟩
    rw [hR] at hok hsu
    simp only at hok hsu
    have h16 : 1 ≤ j → n = 16 := fun h => by
      obtain ⟨j, rfl⟩ : ∃ i, j = i + 1 := ⟨j - 1, by omega⟩
      have := congrArg Prod.snd hR
      exact this.symm
    obtain ⟨o1, o2, o3, o4⟩ := hok
    have d1 := dltT o1 n
    obtain ⟨t1, t2⟩ := pT_lt ⟨o1, o2, o3, o4⟩
    have hg := (pA_good ⟨o1, o2, o3, o4⟩ (pu x j)).1
    have v2 := (dig4_v (pu x j)).2
    unfold pA pT at hsu hg
    unfold pT at t1 t2
    obtain rfl | rfl | rfl | rfl | rfl | rfl : j = 0 ∨ j = 1 ∨ j = 2 ∨ j = 3 ∨ j = 4 ∨ j = 5 := by omega
    · simp only [pu] at hsu hg v2
      unfold dig4 at hsu hg v2
      cases hst : redStop (addL 65536 (timesL 65536 (R.take n) [0, 0, 0, 8]) (dig4 (pu x 0))) with
      | true =>
        have hr := redRow_stop hst
        simp only [pu] at hst hr
        unfold dig4 at hst hr
        simp only [pInv, pI, hR, hst, wrap_dig, wrap_top, conQ, conOr, gsquareC, gtimesC, gtimes2C, redQF, retQx, List.take_length, envR, con0, conN0, conN1, conN2, natsOf_arr, rowOf_arr, natsOf_cells, rowOf_cells, toN, natL_st, natL_d, natL_enc, natL_up, gu1, gaddC, gtimes2C, redQC, go_sem, reduceCtorEq, ↓reduceIte, Nat.reduceAdd, Nat.reduceMul, Nat.reduceSub, Nat.reduceEqDiff, Nat.reduceLT, Nat.reduceBEq, Nat.reduceBNe, Nat.reduceLeDiff, Int.reduceLE, Int.reduceLT, Int.reduceToNat, Int.reduceEq, Int.reduceAdd, UInt8.reduceToNat, UInt32.reduceToNat, UInt64.reduceToNat, UInt8.reduceOfNat, UInt32.reduceOfNat, UInt64.reduceOfNat, Fin.isValue, Int.reduceSub, Int.reduceMul, Int.reduceNeg, Int.reduceMod, Int.reduceDiv, Int.reduceTDiv, Int.reduceTMod, Int.reduceBEq, Int.reduceBNe, Nat.reduceDiv, Nat.reducePow]
        repeat' apply And.intro
        all_goals first
          | omega
          | exact d1
          | exact d8_lt
          | exact t1
          | exact v2
          | exact hg
          | decide
          | rfl
          | skip
        refine again 1 [(500, 70224)] (by omega) (by omega) ?_
        simp only [pInv, pI, hsu, hr, envR, con0, conN0, conN1, conN2, natsOf_arr, rowOf_arr, natsOf_cells, rowOf_cells, toN, natL_st, natL_d, natL_enc, natL_up, gu1, gaddC, gtimes2C, redQC, go_sem, reduceCtorEq, ↓reduceIte, Nat.reduceAdd, Nat.reduceMul, Nat.reduceSub, Nat.reduceEqDiff, Nat.reduceLT, Nat.reduceBEq, Nat.reduceBNe, Nat.reduceLeDiff, Int.reduceLE, Int.reduceLT, Int.reduceToNat, Int.reduceEq, Int.reduceAdd, UInt8.reduceToNat, UInt32.reduceToNat, UInt64.reduceToNat, UInt8.reduceOfNat, UInt32.reduceOfNat, UInt64.reduceOfNat, Fin.isValue, Int.reduceSub, Int.reduceMul, Int.reduceNeg, Int.reduceMod, Int.reduceDiv, Int.reduceTDiv, Int.reduceTMod, Int.reduceBEq, Int.reduceBNe, Nat.reduceDiv, Nat.reducePow]
        exact ⟨rfl, id⟩
      | false =>
        simp only [pu] at hst
        unfold dig4 at hst
        simp only [pInv, pI, hR, hst, wrap_dig, wrap_top, conQ, conOr, gsquareC, gtimesC, gtimes2C, redQF, retQx, List.take_length, envR, con0, conN0, conN1, conN2, natsOf_arr, rowOf_arr, natsOf_cells, rowOf_cells, toN, natL_st, natL_d, natL_enc, natL_up, gu1, gaddC, gtimes2C, redQC, go_sem, reduceCtorEq, ↓reduceIte, Nat.reduceAdd, Nat.reduceMul, Nat.reduceSub, Nat.reduceEqDiff, Nat.reduceLT, Nat.reduceBEq, Nat.reduceBNe, Nat.reduceLeDiff, Int.reduceLE, Int.reduceLT, Int.reduceToNat, Int.reduceEq, Int.reduceAdd, UInt8.reduceToNat, UInt32.reduceToNat, UInt64.reduceToNat, UInt8.reduceOfNat, UInt32.reduceOfNat, UInt64.reduceOfNat, Fin.isValue, Int.reduceSub, Int.reduceMul, Int.reduceNeg, Int.reduceMod, Int.reduceDiv, Int.reduceTDiv, Int.reduceTMod, Int.reduceBEq, Int.reduceBNe, Nat.reduceDiv, Nat.reducePow]
        repeat' apply And.intro
        all_goals first
          | omega
          | exact d1
          | exact d8_lt
          | exact t1
          | exact v2
          | exact hg
          | decide
          | rfl
          | skip
        refine again 1 [(500, 80008)] (by omega) (by omega) ?_
        simp only [pInv, pI, hsu, envR, con0, conN0, conN1, conN2, natsOf_arr, rowOf_arr, natsOf_cells, rowOf_cells, toN, natL_st, natL_d, natL_enc, natL_up, gu1, gaddC, gtimes2C, redQC, go_sem, reduceCtorEq, ↓reduceIte, Nat.reduceAdd, Nat.reduceMul, Nat.reduceSub, Nat.reduceEqDiff, Nat.reduceLT, Nat.reduceBEq, Nat.reduceBNe, Nat.reduceLeDiff, Int.reduceLE, Int.reduceLT, Int.reduceToNat, Int.reduceEq, Int.reduceAdd, UInt8.reduceToNat, UInt32.reduceToNat, UInt64.reduceToNat, UInt8.reduceOfNat, UInt32.reduceOfNat, UInt64.reduceOfNat, Fin.isValue, Int.reduceSub, Int.reduceMul, Int.reduceNeg, Int.reduceMod, Int.reduceDiv, Int.reduceTDiv, Int.reduceTMod, Int.reduceBEq, Int.reduceBNe, Nat.reduceDiv, Nat.reducePow]
        exact ⟨rfl, id⟩
    · simp only [pu] at hsu hg v2
      unfold dig4 at hsu hg v2
      cases hst : redStop (addL 65536 (timesL 65536 (R.take n) [0, 0, 0, 8]) (dig4 (pu x 1))) with
      | true =>
        have hr := redRow_stop hst
        simp only [pu] at hst hr
        unfold dig4 at hst hr
        simp only [pInv, pI, hR, hst, wrap_dig, wrap_top, conQ, conOr, gsquareC, gtimesC, gtimes2C, redQF, retQx, List.take_length, envR, con0, conN0, conN1, conN2, natsOf_arr, rowOf_arr, natsOf_cells, rowOf_cells, toN, natL_st, natL_d, natL_enc, natL_up, gu1, gaddC, gtimes2C, redQC, go_sem, reduceCtorEq, ↓reduceIte, Nat.reduceAdd, Nat.reduceMul, Nat.reduceSub, Nat.reduceEqDiff, Nat.reduceLT, Nat.reduceBEq, Nat.reduceBNe, Nat.reduceLeDiff, Int.reduceLE, Int.reduceLT, Int.reduceToNat, Int.reduceEq, Int.reduceAdd, UInt8.reduceToNat, UInt32.reduceToNat, UInt64.reduceToNat, UInt8.reduceOfNat, UInt32.reduceOfNat, UInt64.reduceOfNat, Fin.isValue, Int.reduceSub, Int.reduceMul, Int.reduceNeg, Int.reduceMod, Int.reduceDiv, Int.reduceTDiv, Int.reduceTMod, Int.reduceBEq, Int.reduceBNe, Nat.reduceDiv, Nat.reducePow]
        repeat' apply And.intro
        all_goals first
          | omega
          | exact d1
          | exact d8_lt
          | exact t1
          | exact v2
          | exact hg
          | decide
          | rfl
          | skip
        refine again 2 [(500, 70224)] (by omega) (by omega) ?_
        simp only [pInv, pI, hsu, hr, envR, con0, conN0, conN1, conN2, natsOf_arr, rowOf_arr, natsOf_cells, rowOf_cells, toN, natL_st, natL_d, natL_enc, natL_up, gu1, gaddC, gtimes2C, redQC, go_sem, reduceCtorEq, ↓reduceIte, Nat.reduceAdd, Nat.reduceMul, Nat.reduceSub, Nat.reduceEqDiff, Nat.reduceLT, Nat.reduceBEq, Nat.reduceBNe, Nat.reduceLeDiff, Int.reduceLE, Int.reduceLT, Int.reduceToNat, Int.reduceEq, Int.reduceAdd, UInt8.reduceToNat, UInt32.reduceToNat, UInt64.reduceToNat, UInt8.reduceOfNat, UInt32.reduceOfNat, UInt64.reduceOfNat, Fin.isValue, Int.reduceSub, Int.reduceMul, Int.reduceNeg, Int.reduceMod, Int.reduceDiv, Int.reduceTDiv, Int.reduceTMod, Int.reduceBEq, Int.reduceBNe, Nat.reduceDiv, Nat.reducePow]
        exact ⟨rfl, id⟩
      | false =>
        simp only [pu] at hst
        unfold dig4 at hst
        simp only [pInv, pI, hR, hst, wrap_dig, wrap_top, conQ, conOr, gsquareC, gtimesC, gtimes2C, redQF, retQx, List.take_length, envR, con0, conN0, conN1, conN2, natsOf_arr, rowOf_arr, natsOf_cells, rowOf_cells, toN, natL_st, natL_d, natL_enc, natL_up, gu1, gaddC, gtimes2C, redQC, go_sem, reduceCtorEq, ↓reduceIte, Nat.reduceAdd, Nat.reduceMul, Nat.reduceSub, Nat.reduceEqDiff, Nat.reduceLT, Nat.reduceBEq, Nat.reduceBNe, Nat.reduceLeDiff, Int.reduceLE, Int.reduceLT, Int.reduceToNat, Int.reduceEq, Int.reduceAdd, UInt8.reduceToNat, UInt32.reduceToNat, UInt64.reduceToNat, UInt8.reduceOfNat, UInt32.reduceOfNat, UInt64.reduceOfNat, Fin.isValue, Int.reduceSub, Int.reduceMul, Int.reduceNeg, Int.reduceMod, Int.reduceDiv, Int.reduceTDiv, Int.reduceTMod, Int.reduceBEq, Int.reduceBNe, Nat.reduceDiv, Nat.reducePow]
        repeat' apply And.intro
        all_goals first
          | omega
          | exact d1
          | exact d8_lt
          | exact t1
          | exact v2
          | exact hg
          | decide
          | rfl
          | skip
        refine again 2 [(500, 80008)] (by omega) (by omega) ?_
        simp only [pInv, pI, hsu, envR, con0, conN0, conN1, conN2, natsOf_arr, rowOf_arr, natsOf_cells, rowOf_cells, toN, natL_st, natL_d, natL_enc, natL_up, gu1, gaddC, gtimes2C, redQC, go_sem, reduceCtorEq, ↓reduceIte, Nat.reduceAdd, Nat.reduceMul, Nat.reduceSub, Nat.reduceEqDiff, Nat.reduceLT, Nat.reduceBEq, Nat.reduceBNe, Nat.reduceLeDiff, Int.reduceLE, Int.reduceLT, Int.reduceToNat, Int.reduceEq, Int.reduceAdd, UInt8.reduceToNat, UInt32.reduceToNat, UInt64.reduceToNat, UInt8.reduceOfNat, UInt32.reduceOfNat, UInt64.reduceOfNat, Fin.isValue, Int.reduceSub, Int.reduceMul, Int.reduceNeg, Int.reduceMod, Int.reduceDiv, Int.reduceTDiv, Int.reduceTMod, Int.reduceBEq, Int.reduceBNe, Nat.reduceDiv, Nat.reducePow]
        exact ⟨rfl, id⟩
    · simp only [pu] at hsu hg v2
      unfold dig4 at hsu hg v2
      cases hst : redStop (addL 65536 (timesL 65536 (R.take n) [0, 0, 0, 8]) (dig4 (pu x 2))) with
      | true =>
        have hr := redRow_stop hst
        simp only [pu] at hst hr
        unfold dig4 at hst hr
        simp only [pInv, pI, hR, hst, wrap_dig, wrap_top, conQ, conOr, gsquareC, gtimesC, gtimes2C, redQF, retQx, List.take_length, envR, con0, conN0, conN1, conN2, natsOf_arr, rowOf_arr, natsOf_cells, rowOf_cells, toN, natL_st, natL_d, natL_enc, natL_up, gu1, gaddC, gtimes2C, redQC, go_sem, reduceCtorEq, ↓reduceIte, Nat.reduceAdd, Nat.reduceMul, Nat.reduceSub, Nat.reduceEqDiff, Nat.reduceLT, Nat.reduceBEq, Nat.reduceBNe, Nat.reduceLeDiff, Int.reduceLE, Int.reduceLT, Int.reduceToNat, Int.reduceEq, Int.reduceAdd, UInt8.reduceToNat, UInt32.reduceToNat, UInt64.reduceToNat, UInt8.reduceOfNat, UInt32.reduceOfNat, UInt64.reduceOfNat, Fin.isValue, Int.reduceSub, Int.reduceMul, Int.reduceNeg, Int.reduceMod, Int.reduceDiv, Int.reduceTDiv, Int.reduceTMod, Int.reduceBEq, Int.reduceBNe, Nat.reduceDiv, Nat.reducePow]
        repeat' apply And.intro
        all_goals first
          | omega
          | exact d1
          | exact d8_lt
          | exact t1
          | exact v2
          | exact hg
          | decide
          | rfl
          | skip
        refine again 3 [(500, 70224)] (by omega) (by omega) ?_
        simp only [pInv, pI, hsu, hr, envR, con0, conN0, conN1, conN2, natsOf_arr, rowOf_arr, natsOf_cells, rowOf_cells, toN, natL_st, natL_d, natL_enc, natL_up, gu1, gaddC, gtimes2C, redQC, go_sem, reduceCtorEq, ↓reduceIte, Nat.reduceAdd, Nat.reduceMul, Nat.reduceSub, Nat.reduceEqDiff, Nat.reduceLT, Nat.reduceBEq, Nat.reduceBNe, Nat.reduceLeDiff, Int.reduceLE, Int.reduceLT, Int.reduceToNat, Int.reduceEq, Int.reduceAdd, UInt8.reduceToNat, UInt32.reduceToNat, UInt64.reduceToNat, UInt8.reduceOfNat, UInt32.reduceOfNat, UInt64.reduceOfNat, Fin.isValue, Int.reduceSub, Int.reduceMul, Int.reduceNeg, Int.reduceMod, Int.reduceDiv, Int.reduceTDiv, Int.reduceTMod, Int.reduceBEq, Int.reduceBNe, Nat.reduceDiv, Nat.reducePow]
        exact ⟨rfl, id⟩
      | false =>
        simp only [pu] at hst
        unfold dig4 at hst
        simp only [pInv, pI, hR, hst, wrap_dig, wrap_top, conQ, conOr, gsquareC, gtimesC, gtimes2C, redQF, retQx, List.take_length, envR, con0, conN0, conN1, conN2, natsOf_arr, rowOf_arr, natsOf_cells, rowOf_cells, toN, natL_st, natL_d, natL_enc, natL_up, gu1, gaddC, gtimes2C, redQC, go_sem, reduceCtorEq, ↓reduceIte, Nat.reduceAdd, Nat.reduceMul, Nat.reduceSub, Nat.reduceEqDiff, Nat.reduceLT, Nat.reduceBEq, Nat.reduceBNe, Nat.reduceLeDiff, Int.reduceLE, Int.reduceLT, Int.reduceToNat, Int.reduceEq, Int.reduceAdd, UInt8.reduceToNat, UInt32.reduceToNat, UInt64.reduceToNat, UInt8.reduceOfNat, UInt32.reduceOfNat, UInt64.reduceOfNat, Fin.isValue, Int.reduceSub, Int.reduceMul, Int.reduceNeg, Int.reduceMod, Int.reduceDiv, Int.reduceTDiv, Int.reduceTMod, Int.reduceBEq, Int.reduceBNe, Nat.reduceDiv, Nat.reducePow]
        repeat' apply And.intro
        all_goals first
          | omega
          | exact d1
          | exact d8_lt
          | exact t1
          | exact v2
          | exact hg
          | decide
          | rfl
          | skip
        refine again 3 [(500, 80008)] (by omega) (by omega) ?_
        simp only [pInv, pI, hsu, envR, con0, conN0, conN1, conN2, natsOf_arr, rowOf_arr, natsOf_cells, rowOf_cells, toN, natL_st, natL_d, natL_enc, natL_up, gu1, gaddC, gtimes2C, redQC, go_sem, reduceCtorEq, ↓reduceIte, Nat.reduceAdd, Nat.reduceMul, Nat.reduceSub, Nat.reduceEqDiff, Nat.reduceLT, Nat.reduceBEq, Nat.reduceBNe, Nat.reduceLeDiff, Int.reduceLE, Int.reduceLT, Int.reduceToNat, Int.reduceEq, Int.reduceAdd, UInt8.reduceToNat, UInt32.reduceToNat, UInt64.reduceToNat, UInt8.reduceOfNat, UInt32.reduceOfNat, UInt64.reduceOfNat, Fin.isValue, Int.reduceSub, Int.reduceMul, Int.reduceNeg, Int.reduceMod, Int.reduceDiv, Int.reduceTDiv, Int.reduceTMod, Int.reduceBEq, Int.reduceBNe, Nat.reduceDiv, Nat.reducePow]
        exact ⟨rfl, id⟩
    · simp only [pu] at hsu hg v2
      unfold dig4 at hsu hg v2
      cases hst : redStop (addL 65536 (timesL 65536 (R.take n) [0, 0, 0, 8]) (dig4 (pu x 3))) with
      | true =>
        have hr := redRow_stop hst
        simp only [pu] at hst hr
        unfold dig4 at hst hr
        simp only [pInv, pI, hR, hst, wrap_dig, wrap_top, conQ, conOr, gsquareC, gtimesC, gtimes2C, redQF, retQx, List.take_length, envR, con0, conN0, conN1, conN2, natsOf_arr, rowOf_arr, natsOf_cells, rowOf_cells, toN, natL_st, natL_d, natL_enc, natL_up, gu1, gaddC, gtimes2C, redQC, go_sem, reduceCtorEq, ↓reduceIte, Nat.reduceAdd, Nat.reduceMul, Nat.reduceSub, Nat.reduceEqDiff, Nat.reduceLT, Nat.reduceBEq, Nat.reduceBNe, Nat.reduceLeDiff, Int.reduceLE, Int.reduceLT, Int.reduceToNat, Int.reduceEq, Int.reduceAdd, UInt8.reduceToNat, UInt32.reduceToNat, UInt64.reduceToNat, UInt8.reduceOfNat, UInt32.reduceOfNat, UInt64.reduceOfNat, Fin.isValue, Int.reduceSub, Int.reduceMul, Int.reduceNeg, Int.reduceMod, Int.reduceDiv, Int.reduceTDiv, Int.reduceTMod, Int.reduceBEq, Int.reduceBNe, Nat.reduceDiv, Nat.reducePow]
        repeat' apply And.intro
        all_goals first
          | omega
          | exact d1
          | exact d8_lt
          | exact t1
          | exact v2
          | exact hg
          | decide
          | rfl
          | skip
        refine again 4 [(500, 70224)] (by omega) (by omega) ?_
        simp only [pInv, pI, hsu, hr, envR, con0, conN0, conN1, conN2, natsOf_arr, rowOf_arr, natsOf_cells, rowOf_cells, toN, natL_st, natL_d, natL_enc, natL_up, gu1, gaddC, gtimes2C, redQC, go_sem, reduceCtorEq, ↓reduceIte, Nat.reduceAdd, Nat.reduceMul, Nat.reduceSub, Nat.reduceEqDiff, Nat.reduceLT, Nat.reduceBEq, Nat.reduceBNe, Nat.reduceLeDiff, Int.reduceLE, Int.reduceLT, Int.reduceToNat, Int.reduceEq, Int.reduceAdd, UInt8.reduceToNat, UInt32.reduceToNat, UInt64.reduceToNat, UInt8.reduceOfNat, UInt32.reduceOfNat, UInt64.reduceOfNat, Fin.isValue, Int.reduceSub, Int.reduceMul, Int.reduceNeg, Int.reduceMod, Int.reduceDiv, Int.reduceTDiv, Int.reduceTMod, Int.reduceBEq, Int.reduceBNe, Nat.reduceDiv, Nat.reducePow]
        exact ⟨rfl, id⟩
      | false =>
        simp only [pu] at hst
        unfold dig4 at hst
        simp only [pInv, pI, hR, hst, wrap_dig, wrap_top, conQ, conOr, gsquareC, gtimesC, gtimes2C, redQF, retQx, List.take_length, envR, con0, conN0, conN1, conN2, natsOf_arr, rowOf_arr, natsOf_cells, rowOf_cells, toN, natL_st, natL_d, natL_enc, natL_up, gu1, gaddC, gtimes2C, redQC, go_sem, reduceCtorEq, ↓reduceIte, Nat.reduceAdd, Nat.reduceMul, Nat.reduceSub, Nat.reduceEqDiff, Nat.reduceLT, Nat.reduceBEq, Nat.reduceBNe, Nat.reduceLeDiff, Int.reduceLE, Int.reduceLT, Int.reduceToNat, Int.reduceEq, Int.reduceAdd, UInt8.reduceToNat, UInt32.reduceToNat, UInt64.reduceToNat, UInt8.reduceOfNat, UInt32.reduceOfNat, UInt64.reduceOfNat, Fin.isValue, Int.reduceSub, Int.reduceMul, Int.reduceNeg, Int.reduceMod, Int.reduceDiv, Int.reduceTDiv, Int.reduceTMod, Int.reduceBEq, Int.reduceBNe, Nat.reduceDiv, Nat.reducePow]
        repeat' apply And.intro
        all_goals first
          | omega
          | exact d1
          | exact d8_lt
          | exact t1
          | exact v2
          | exact hg
          | decide
          | rfl
          | skip
        refine again 4 [(500, 80008)] (by omega) (by omega) ?_
        simp only [pInv, pI, hsu, envR, con0, conN0, conN1, conN2, natsOf_arr, rowOf_arr, natsOf_cells, rowOf_cells, toN, natL_st, natL_d, natL_enc, natL_up, gu1, gaddC, gtimes2C, redQC, go_sem, reduceCtorEq, ↓reduceIte, Nat.reduceAdd, Nat.reduceMul, Nat.reduceSub, Nat.reduceEqDiff, Nat.reduceLT, Nat.reduceBEq, Nat.reduceBNe, Nat.reduceLeDiff, Int.reduceLE, Int.reduceLT, Int.reduceToNat, Int.reduceEq, Int.reduceAdd, UInt8.reduceToNat, UInt32.reduceToNat, UInt64.reduceToNat, UInt8.reduceOfNat, UInt32.reduceOfNat, UInt64.reduceOfNat, Fin.isValue, Int.reduceSub, Int.reduceMul, Int.reduceNeg, Int.reduceMod, Int.reduceDiv, Int.reduceTDiv, Int.reduceTMod, Int.reduceBEq, Int.reduceBNe, Nat.reduceDiv, Nat.reducePow]
        exact ⟨rfl, id⟩
    · simp only [pu] at hsu hg v2
      unfold dig4 at hsu hg v2
      cases hst : redStop (addL 65536 (timesL 65536 (R.take n) [0, 0, 0, 8]) (dig4 (pu x 4))) with
      | true =>
        have hr := redRow_stop hst
        simp only [pu] at hst hr
        unfold dig4 at hst hr
        simp only [pInv, pI, hR, hst, wrap_dig, wrap_top, conQ, conOr, gsquareC, gtimesC, gtimes2C, redQF, retQx, List.take_length, envR, con0, conN0, conN1, conN2, natsOf_arr, rowOf_arr, natsOf_cells, rowOf_cells, toN, natL_st, natL_d, natL_enc, natL_up, gu1, gaddC, gtimes2C, redQC, go_sem, reduceCtorEq, ↓reduceIte, Nat.reduceAdd, Nat.reduceMul, Nat.reduceSub, Nat.reduceEqDiff, Nat.reduceLT, Nat.reduceBEq, Nat.reduceBNe, Nat.reduceLeDiff, Int.reduceLE, Int.reduceLT, Int.reduceToNat, Int.reduceEq, Int.reduceAdd, UInt8.reduceToNat, UInt32.reduceToNat, UInt64.reduceToNat, UInt8.reduceOfNat, UInt32.reduceOfNat, UInt64.reduceOfNat, Fin.isValue, Int.reduceSub, Int.reduceMul, Int.reduceNeg, Int.reduceMod, Int.reduceDiv, Int.reduceTDiv, Int.reduceTMod, Int.reduceBEq, Int.reduceBNe, Nat.reduceDiv, Nat.reducePow]
        repeat' apply And.intro
        all_goals first
          | omega
          | exact d1
          | exact d8_lt
          | exact t1
          | exact v2
          | exact hg
          | decide
          | rfl
          | skip
        refine again 5 [(500, 70224)] (by omega) (by omega) ?_
        simp only [pInv, pI, hsu, hr, envR, con0, conN0, conN1, conN2, natsOf_arr, rowOf_arr, natsOf_cells, rowOf_cells, toN, natL_st, natL_d, natL_enc, natL_up, gu1, gaddC, gtimes2C, redQC, go_sem, reduceCtorEq, ↓reduceIte, Nat.reduceAdd, Nat.reduceMul, Nat.reduceSub, Nat.reduceEqDiff, Nat.reduceLT, Nat.reduceBEq, Nat.reduceBNe, Nat.reduceLeDiff, Int.reduceLE, Int.reduceLT, Int.reduceToNat, Int.reduceEq, Int.reduceAdd, UInt8.reduceToNat, UInt32.reduceToNat, UInt64.reduceToNat, UInt8.reduceOfNat, UInt32.reduceOfNat, UInt64.reduceOfNat, Fin.isValue, Int.reduceSub, Int.reduceMul, Int.reduceNeg, Int.reduceMod, Int.reduceDiv, Int.reduceTDiv, Int.reduceTMod, Int.reduceBEq, Int.reduceBNe, Nat.reduceDiv, Nat.reducePow]
        exact ⟨rfl, id⟩
      | false =>
        simp only [pu] at hst
        unfold dig4 at hst
        simp only [pInv, pI, hR, hst, wrap_dig, wrap_top, conQ, conOr, gsquareC, gtimesC, gtimes2C, redQF, retQx, List.take_length, envR, con0, conN0, conN1, conN2, natsOf_arr, rowOf_arr, natsOf_cells, rowOf_cells, toN, natL_st, natL_d, natL_enc, natL_up, gu1, gaddC, gtimes2C, redQC, go_sem, reduceCtorEq, ↓reduceIte, Nat.reduceAdd, Nat.reduceMul, Nat.reduceSub, Nat.reduceEqDiff, Nat.reduceLT, Nat.reduceBEq, Nat.reduceBNe, Nat.reduceLeDiff, Int.reduceLE, Int.reduceLT, Int.reduceToNat, Int.reduceEq, Int.reduceAdd, UInt8.reduceToNat, UInt32.reduceToNat, UInt64.reduceToNat, UInt8.reduceOfNat, UInt32.reduceOfNat, UInt64.reduceOfNat, Fin.isValue, Int.reduceSub, Int.reduceMul, Int.reduceNeg, Int.reduceMod, Int.reduceDiv, Int.reduceTDiv, Int.reduceTMod, Int.reduceBEq, Int.reduceBNe, Nat.reduceDiv, Nat.reducePow]
        repeat' apply And.intro
        all_goals first
          | omega
          | exact d1
          | exact d8_lt
          | exact t1
          | exact v2
          | exact hg
          | decide
          | rfl
          | skip
        refine again 5 [(500, 80008)] (by omega) (by omega) ?_
        simp only [pInv, pI, hsu, envR, con0, conN0, conN1, conN2, natsOf_arr, rowOf_arr, natsOf_cells, rowOf_cells, toN, natL_st, natL_d, natL_enc, natL_up, gu1, gaddC, gtimes2C, redQC, go_sem, reduceCtorEq, ↓reduceIte, Nat.reduceAdd, Nat.reduceMul, Nat.reduceSub, Nat.reduceEqDiff, Nat.reduceLT, Nat.reduceBEq, Nat.reduceBNe, Nat.reduceLeDiff, Int.reduceLE, Int.reduceLT, Int.reduceToNat, Int.reduceEq, Int.reduceAdd, UInt8.reduceToNat, UInt32.reduceToNat, UInt64.reduceToNat, UInt8.reduceOfNat, UInt32.reduceOfNat, UInt64.reduceOfNat, Fin.isValue, Int.reduceSub, Int.reduceMul, Int.reduceNeg, Int.reduceMod, Int.reduceDiv, Int.reduceTDiv, Int.reduceTMod, Int.reduceBEq, Int.reduceBNe, Nat.reduceDiv, Nat.reducePow]
        exact ⟨rfl, id⟩
    · have hn := h16 (by omega)
      subst hn
      have hp : partsRow x = R := congrArg Prod.fst hR
      simp only [pInv, pI, hR, retQx, envR, con0, conN0, conN1, conN2, natsOf_arr, rowOf_arr, natsOf_cells, rowOf_cells, toN, natL_st, natL_d, natL_enc, natL_up, gu1, gaddC, gtimes2C, redQC, go_sem, reduceCtorEq, ↓reduceIte, Nat.reduceAdd, Nat.reduceMul, Nat.reduceSub, Nat.reduceEqDiff, Nat.reduceLT, Nat.reduceBEq, Nat.reduceBNe, Nat.reduceLeDiff, Int.reduceLE, Int.reduceLT, Int.reduceToNat, Int.reduceEq, Int.reduceAdd, UInt8.reduceToNat, UInt32.reduceToNat, UInt64.reduceToNat, UInt8.reduceOfNat, UInt32.reduceOfNat, UInt64.reduceOfNat, Fin.isValue, Int.reduceSub, Int.reduceMul, Int.reduceNeg, Int.reduceMod, Int.reduceDiv, Int.reduceTDiv, Int.reduceTMod, Int.reduceBEq, Int.reduceBNe, Nat.reduceDiv, Nat.reducePow]
      refine endX [(1, 500)] ?_
      simp only [hp, envR, con0, conN0, conN1, conN2, natsOf_arr, rowOf_arr, natsOf_cells, rowOf_cells, toN, natL_st, natL_d, natL_enc, natL_up, gu1, gaddC, gtimes2C, redQC, go_sem, reduceCtorEq, ↓reduceIte, Nat.reduceAdd, Nat.reduceMul, Nat.reduceSub, Nat.reduceEqDiff, Nat.reduceLT, Nat.reduceBEq, Nat.reduceBNe, Nat.reduceLeDiff, Int.reduceLE, Int.reduceLT, Int.reduceToNat, Int.reduceEq, Int.reduceAdd, UInt8.reduceToNat, UInt32.reduceToNat, UInt64.reduceToNat, UInt8.reduceOfNat, UInt32.reduceOfNat, UInt64.reduceOfNat, Fin.isValue, Int.reduceSub, Int.reduceMul, Int.reduceNeg, Int.reduceMod, Int.reduceDiv, Int.reduceTDiv, Int.reduceTMod, Int.reduceBEq, Int.reduceBNe, Nat.reduceDiv, Nat.reducePow]
      exact ⟨rfl, id⟩
def rpartsF : List CV → List SObj → Option (SV × List SObj × List Prop)
  | [.one (.sl 0 0 1 5)], [.cells 1 [.u64 a, .u64 b, .u64 c, .u64 d, .u64 e]] => some (.c (.one (.sl 1 0 1 16)), [.arr Nat natL (partsRow ⟨a, b, c, d, e⟩)], [])
  | _, _ => none
def rpartsC : Con := conQ rpartsF
theorem rpartsC_ok : ConOk Try.prog 32 rpartsC := conQ_ok Try.func32 rfl rfl fun args es v nw ob h hob => by
  unfold rpartsF at h
  split at h
  · rename_i a b c d e heq
    match es, heq with
    | [⟨o, wr⟩], heq =>
      simp only [List.map_cons, List.map_nil, List.cons.injEq, and_true] at heq
      subst heq
      simp only [Option.some.injEq, Prod.mk.injEq] at h
      obtain ⟨rfl, rfl, rfl⟩ := h
      exact rparts_tri ⟨a, b, c, d, e⟩ wr
  · cases h
def gu2 : Nat → Option Con := fun f => match f with
  | 32 => some rpartsC
  | _ => none
theorem gu2_ok : GaOk Try.prog gu2 := fun f con h => by
  unfold gu2 at h
  split at h
  · injection h with h; subst h; exact rpartsC_ok
  · cases h
set_option maxRecDepth 100000 in
theorem num_tri (x : N5) : Tri Try.prog 11 [x.cv] [] (.c (.one (.sl 0 0 1 16))) [(0, ⟨.arr Nat natL (partsRow x), true⟩)] := by
  refine tri_ofx (envR_ok gu2_ok 5 []) Try.func11 rfl rfl (rs := [.tmp 2]) rfl rfl (by simp [envR]) rfl ?_
  simp only [N5.cv, N5.eta, conQ, rpartsF, sliceArrA, retQx, envR, con0, conN0, conN1, conN2, natsOf_arr, rowOf_arr, natsOf_cells, rowOf_cells, toN, natL_st, natL_d, natL_enc, natL_up, gu2, rpartsC, go_sem, reduceCtorEq, ↓reduceIte, Nat.reduceAdd, Nat.reduceMul, Nat.reduceSub, Nat.reduceEqDiff, Nat.reduceLT, Nat.reduceBEq, Nat.reduceBNe, Nat.reduceLeDiff, Int.reduceLE, Int.reduceLT, Int.reduceToNat, Int.reduceEq, Int.reduceAdd, UInt8.reduceToNat, UInt32.reduceToNat, UInt64.reduceToNat, UInt8.reduceOfNat, UInt32.reduceOfNat, UInt64.reduceOfNat, Fin.isValue, Int.reduceSub, Int.reduceMul, Int.reduceNeg, Int.reduceMod, Int.reduceDiv, Int.reduceTDiv, Int.reduceTMod, Int.reduceBEq, Int.reduceBNe, Nat.reduceDiv, Nat.reducePow]
  refine endX [(0, 20008)] ?_
  simp only [envR, con0, conN0, conN1, conN2, natsOf_arr, rowOf_arr, natsOf_cells, rowOf_cells, toN, natL_st, natL_d, natL_enc, natL_up, gu2, rpartsC, go_sem, reduceCtorEq, ↓reduceIte, Nat.reduceAdd, Nat.reduceMul, Nat.reduceSub, Nat.reduceEqDiff, Nat.reduceLT, Nat.reduceBEq, Nat.reduceBNe, Nat.reduceLeDiff, Int.reduceLE, Int.reduceLT, Int.reduceToNat, Int.reduceEq, Int.reduceAdd, UInt8.reduceToNat, UInt32.reduceToNat, UInt64.reduceToNat, UInt8.reduceOfNat, UInt32.reduceOfNat, UInt64.reduceOfNat, Fin.isValue, Int.reduceSub, Int.reduceMul, Int.reduceNeg, Int.reduceMod, Int.reduceDiv, Int.reduceTDiv, Int.reduceTMod, Int.reduceBEq, Int.reduceBNe, Nat.reduceDiv, Nat.reducePow]
end Go.Proofs.Ytdkmkifebhggeaa
