/-
  Layer 1: the document's digest, walked.
-/
import Derived.Test.YtdkogjjebbdngaaDoorSz
import Derived.Test.YtdkogjjebbdngaaDoorHk
namespace Go.Proofs.YtdkogjjebbdngaaDoor
open Go Go.RowKit
set_option maxHeartbeats 4000000
set_option linter.unusedSimpArgs false
set_option linter.unusedVariables false
def hl1 : Nat → Option Con := fun f => match f with
  | 12 => some rblockQC
  | 13 => some roundsC
  | 25 => some rstateC
  | _ => none
theorem hl1_ok : GaOkG Tryd.prog GS hl1 := fun f con h => by
  unfold hl1 at h
  split at h
  · injection h with h; subst h; exact rblockQC_ok
  · injection h with h; subst h; exact roundsC_ok
  · injection h with h; subst h; exact rstateC_ok
  · cases h
def allP (s : List UInt8) (j : Nat) : List UInt8 := s ++ 128 :: List.replicate j 0
theorem allP_len (s : List UInt8) (j : Nat) : (allP s j).length = s.length + 1 + j := by
  unfold allP
  rw [List.length_append, List.length_cons, List.length_replicate]; omega
theorem allP_succ (s : List UInt8) (j : Nat) : allP s j ++ [0] = allP s (j + 1) := by
  unfold allP
  rw [List.append_assoc, List.cons_append, ← List.replicate_succ']
theorem allP_end (s : List UInt8) : allP s (padZ s.length) = s ++ padP s.length 0 := rfl
def fullS (s : List UInt8) : List UInt8 := s ++ padP s.length 8
theorem foldB_pre (v : W8) (a b : List UInt8) : ∀ q, 64 * q ≤ a.length → foldB v (a ++ b) q = foldB v a q
  | 0, _ => rfl
  | q + 1, h => by
    rw [foldB, foldB, foldB_pre v a b q (by omega), List.drop_append_of_le_length (by omega), List.take_append_of_le_length (by rw [List.length_drop]; omega)]
theorem foldB_app (v : W8) (a b : List UInt8) (m : Nat) (h : a.length = 64 * m) : ∀ q, foldB v (a ++ b) (m + q) = foldB (foldB v a m) b q
  | 0 => foldB_pre v a b m (by omega)
  | q + 1 => by
    rw [← Nat.add_assoc, foldB, foldB, foldB_app v a b m h q, List.drop_append, show 64 * (m + q) - a.length = 64 * q by omega, List.drop_eq_nil_of_le (by omega), List.nil_append]
theorem fullS_sum (s : List UInt8) : outV (foldB init8 (fullS s) ((fullS s).length / 64)) = sumL s := by
  have ha : (s.take (64 * (s.length / 64))).length = 64 * (s.length / 64) := by rw [List.length_take]; omega
  have he : fullS s = s.take (64 * (s.length / 64)) ++ lastS s := by
    unfold fullS lastS
    rw [← List.append_assoc, List.take_append_drop]
  have hl : (fullS s).length / 64 = s.length / 64 + (lastS s).length / 64 := by
    rw [he, List.length_append, ha, Nat.mul_add_div (by decide)]
  have hm : foldB init8 (s.take (64 * (s.length / 64))) (s.length / 64) = midS s := by
    have := foldB_pre init8 (s.take (64 * (s.length / 64))) (s.drop (64 * (s.length / 64))) (s.length / 64) (by omega)
    rw [List.take_append_drop] at this
    exact this.symm
  rw [hl, he, foldB_app _ _ _ _ ha, hm]
  rfl
def rs1 (s : List UInt8) (j : Nat) : St := ⟨[(0, .c (.one (.str s))), (3, .c (.one (.num s.length))), (4, .c (.one (.sl 500 0 1 (s.length + 1 + j))))], [(500, ⟨.arr UInt8 u8L (allP s j), true⟩)]⟩
def rs2 (s : List UInt8) (j : Nat) : St := ⟨[(3, .c (.one (.num s.length))), (4, .c (.one (.sl 500 0 1 (s.length + 1 + padZ s.length + j)))), (5, .c (.one (.num (7 - (j : Int)))))], [(500, ⟨.arr UInt8 u8L (s ++ padP s.length j), true⟩)]⟩
def rs3 (s : List UInt8) (q : Nat) : St := ⟨[(4, .c (.one (.sl 500 0 1 (fullS s).length))), (6, .c (.one (.sl 600 0 1 64))), (7, .c (.one (.sl 700 0 1 8))), (8, .c (.one (.num (64 * q : Nat))))], [(500, ⟨.arr UInt8 u8L (fullS s), true⟩), (600, ⟨.arr UInt32 u32L kL, true⟩), (700, ⟨.arr UInt32 u32L (foldB init8 (fullS s) q).l, true⟩)]⟩
def outI (V : W8) : Nat → List UInt8
  | 0 => []
  | i + 1 => outI V i ++ [(shr32 (V.l.getD i 0) 24).toUInt8] ++ [(shr32 (V.l.getD i 0) 16).toUInt8] ++ [(shr32 (V.l.getD i 0) 8).toUInt8] ++ [(V.l.getD i 0).toUInt8]
theorem outI_len (V : W8) : ∀ i, (outI V i).length = 4 * i
  | 0 => rfl
  | i + 1 => by simp only [outI, List.length_append, List.length_singleton, outI_len V i]; omega
theorem outI_end (V : W8) : outI V 8 = outV V := by
  obtain ⟨a, b, c, d, e, f, g, h⟩ := V
  simp only [outI, outV, W8.l, List.nil_append, List.cons_append, List.getD_cons_zero, List.getD_cons_succ]
def rs4 (V : W8) : Nat → St
  | 0 => ⟨[(9, .c (.one (.val (.slice none 0 0)))), (56, .c (.one (.sl 700 0 1 8))), (57, .c (.one (.num 8))), (58, .c (.one (.num 0)))], [(700, ⟨.arr UInt32 u32L V.l, true⟩)]⟩
  | i + 1 => ⟨[(9, .c (.one (.sl 800 0 1 (4 * (i + 1))))), (56, .c (.one (.sl 700 0 1 8))), (57, .c (.one (.num 8))), (58, .c (.one (.num (i + 1 : Nat))))], [(700, ⟨.arr UInt32 u32L V.l, true⟩), (800, ⟨.arr UInt8 u8L (outI V (i + 1)), true⟩)]⟩
set_option maxRecDepth 100000 in
theorem rsum_tri (s : List UInt8) (hs : s.length ≤ 1000000) : TriG Tryd.prog GS 10 [.one (.str s)] [] (.c (.one (.str (sumL s)))) [] := by
  refine tri_ofx (envSK_ok hl1_ok 85 []) Tryd.func10 rfl rfl (rs := [.tmp 2]) rfl rfl (by simp [envSK]) rfl ?_
  have hz : padZ s.length < 64 := Nat.mod_lt _ (by decide)
  simp only [envSK, con0, conS, strsOf_arr, rowS_arr, strsOf_cells, rowS_cells, toS, strL_st, strL_d, strL_enc, strL_up, hpN_nil, hpN_cons, hl1, rblockQC, roundsC, rstateC, retQx, go_sem, reduceCtorEq, ↓reduceIte, Nat.reduceAdd, Nat.reduceMul, Nat.reduceSub, Nat.reduceEqDiff, Nat.reduceLT, Nat.reduceBEq, Nat.reduceBNe, Nat.reduceLeDiff, Int.reduceLE, Int.reduceLT, Int.reduceToNat, Int.reduceEq, Int.reduceAdd, UInt8.reduceToNat, UInt32.reduceToNat, UInt64.reduceToNat, UInt8.reduceOfNat, UInt32.reduceOfNat, UInt64.reduceOfNat, Fin.isValue, Int.reduceSub, Int.reduceMul, Int.reduceNeg, Int.reduceMod, Int.reduceDiv, Int.reduceTDiv, Int.reduceTMod, Int.reduceBEq, Int.reduceBNe, Nat.reduceDiv, Nat.reducePow]
  repeat' apply And.intro
  all_goals first
    | omega
    | rfl
    | skip
  refine loop_inv (envSK_ok hl1_ok 85 []) (rs1 s) (fun j => j ≤ padZ s.length) (fun j => padZ s.length - j) 0 [(500, 30024)] (by omega) ?_ ?_
  · simp only [rs1, allP, envSK, con0, conS, strsOf_arr, rowS_arr, strsOf_cells, rowS_cells, toS, strL_st, strL_d, strL_enc, strL_up, hpN_nil, hpN_cons, hl1, rblockQC, roundsC, rstateC, go_sem, reduceCtorEq, ↓reduceIte, Nat.reduceAdd, Nat.reduceMul, Nat.reduceSub, Nat.reduceEqDiff, Nat.reduceLT, Nat.reduceBEq, Nat.reduceBNe, Nat.reduceLeDiff, Int.reduceLE, Int.reduceLT, Int.reduceToNat, Int.reduceEq, Int.reduceAdd, UInt8.reduceToNat, UInt32.reduceToNat, UInt64.reduceToNat, UInt8.reduceOfNat, UInt32.reduceOfNat, UInt64.reduceOfNat, Fin.isValue, Int.reduceSub, Int.reduceMul, Int.reduceNeg, Int.reduceMod, Int.reduceDiv, Int.reduceTDiv, Int.reduceTMod, Int.reduceBEq, Int.reduceBNe, Nat.reduceDiv, Nat.reducePow]
    all_goals first
      | trivial
      | trace_state
  · intro j hj
    have hl := allP_len s j
    have m1 : ((s.length + 1 + j : Nat) : Int).tmod 64 = (((s.length + 1 + j) % 64 : Nat) : Int) := by rw [show (64 : Int) = ((64 : Nat) : Int) from rfl, ← Int.ofNat_tmod]
    cases hk : ((((s.length + 1 + j) % 64 : Nat) : Int) == 56) with
    | false =>
      have hne : (s.length + 1 + j) % 64 ≠ 56 := fun e => by rw [e] at hk; cases hk
      have hlt : j < padZ s.length := by unfold padZ at hj hz ⊢; omega
      have hsu := allP_succ s j
      have hln : s.length + 1 + j + 1 = s.length + 1 + (j + 1) := rfl
      simp only [rs1, m1, hk, envSK, con0, conS, strsOf_arr, rowS_arr, strsOf_cells, rowS_cells, toS, strL_st, strL_d, strL_enc, strL_up, hpN_nil, hpN_cons, hl1, rblockQC, roundsC, rstateC, retQx, go_sem, reduceCtorEq, ↓reduceIte, Nat.reduceAdd, Nat.reduceMul, Nat.reduceSub, Nat.reduceEqDiff, Nat.reduceLT, Nat.reduceBEq, Nat.reduceBNe, Nat.reduceLeDiff, Int.reduceLE, Int.reduceLT, Int.reduceToNat, Int.reduceEq, Int.reduceAdd, UInt8.reduceToNat, UInt32.reduceToNat, UInt64.reduceToNat, UInt8.reduceOfNat, UInt32.reduceOfNat, UInt64.reduceOfNat, Fin.isValue, Int.reduceSub, Int.reduceMul, Int.reduceNeg, Int.reduceMod, Int.reduceDiv, Int.reduceTDiv, Int.reduceTMod, Int.reduceBEq, Int.reduceBNe, Nat.reduceDiv, Nat.reducePow]
      repeat' apply And.intro
      all_goals first
        | omega
        | rfl
        | skip
      refine again (j + 1) [(500, 50016)] (by omega) (by omega) ?_
      simp only [rs1, hsu, hln, envSK, con0, conS, strsOf_arr, rowS_arr, strsOf_cells, rowS_cells, toS, strL_st, strL_d, strL_enc, strL_up, hpN_nil, hpN_cons, hl1, rblockQC, roundsC, rstateC, go_sem, reduceCtorEq, ↓reduceIte, Nat.reduceAdd, Nat.reduceMul, Nat.reduceSub, Nat.reduceEqDiff, Nat.reduceLT, Nat.reduceBEq, Nat.reduceBNe, Nat.reduceLeDiff, Int.reduceLE, Int.reduceLT, Int.reduceToNat, Int.reduceEq, Int.reduceAdd, UInt8.reduceToNat, UInt32.reduceToNat, UInt64.reduceToNat, UInt8.reduceOfNat, UInt32.reduceOfNat, UInt64.reduceOfNat, Fin.isValue, Int.reduceSub, Int.reduceMul, Int.reduceNeg, Int.reduceMod, Int.reduceDiv, Int.reduceTDiv, Int.reduceTMod, Int.reduceBEq, Int.reduceBNe, Nat.reduceDiv, Nat.reducePow]
      all_goals first
        | trivial
        | trace_state
    | true =>
      have he : (s.length + 1 + j) % 64 = 56 := by have := eq_of_beq hk; omega
      obtain rfl : j = padZ s.length := by unfold padZ at hj hz ⊢; omega
      have hen := allP_end s
      simp only [rs1, m1, hk, hen, envSK, con0, conS, strsOf_arr, rowS_arr, strsOf_cells, rowS_cells, toS, strL_st, strL_d, strL_enc, strL_up, hpN_nil, hpN_cons, hl1, rblockQC, roundsC, rstateC, retQx, go_sem, reduceCtorEq, ↓reduceIte, Nat.reduceAdd, Nat.reduceMul, Nat.reduceSub, Nat.reduceEqDiff, Nat.reduceLT, Nat.reduceBEq, Nat.reduceBNe, Nat.reduceLeDiff, Int.reduceLE, Int.reduceLT, Int.reduceToNat, Int.reduceEq, Int.reduceAdd, UInt8.reduceToNat, UInt32.reduceToNat, UInt64.reduceToNat, UInt8.reduceOfNat, UInt32.reduceOfNat, UInt64.reduceOfNat, Fin.isValue, Int.reduceSub, Int.reduceMul, Int.reduceNeg, Int.reduceMod, Int.reduceDiv, Int.reduceTDiv, Int.reduceTMod, Int.reduceBEq, Int.reduceBNe, Nat.reduceDiv, Nat.reducePow]
      refine loop_inv (envSK_ok hl1_ok 85 []) (rs2 s) (fun j => j ≤ 8) (fun j => 8 - j) 0 [] (by omega) ?_ ?_
      · simp only [rs2, envSK, con0, conS, strsOf_arr, rowS_arr, strsOf_cells, rowS_cells, toS, strL_st, strL_d, strL_enc, strL_up, hpN_nil, hpN_cons, hl1, rblockQC, roundsC, rstateC, go_sem, reduceCtorEq, ↓reduceIte, Nat.reduceAdd, Nat.reduceMul, Nat.reduceSub, Nat.reduceEqDiff, Nat.reduceLT, Nat.reduceBEq, Nat.reduceBNe, Nat.reduceLeDiff, Int.reduceLE, Int.reduceLT, Int.reduceToNat, Int.reduceEq, Int.reduceAdd, UInt8.reduceToNat, UInt32.reduceToNat, UInt64.reduceToNat, UInt8.reduceOfNat, UInt32.reduceOfNat, UInt64.reduceOfNat, Fin.isValue, Int.reduceSub, Int.reduceMul, Int.reduceNeg, Int.reduceMod, Int.reduceDiv, Int.reduceTDiv, Int.reduceTMod, Int.reduceBEq, Int.reduceBNe, Nat.reduceDiv, Nat.reducePow]
        all_goals first
          | trivial
          | trace_state
      · intro j hj
        have hl := padP_len s.length j
        have hl2 : (s ++ padP s.length j).length = s.length + 1 + padZ s.length + j := by rw [List.length_append, hl]; omega
        have i1 : IntKind.i64.wrap (7 - (j : Int) - 1) = 7 - ((j + 1 : Nat) : Int) := by rw [IntKind.wrap_i64]; omega
        simp only [rs2, envSK, con0, conS, strsOf_arr, rowS_arr, strsOf_cells, rowS_cells, toS, strL_st, strL_d, strL_enc, strL_up, hpN_nil, hpN_cons, hl1, rblockQC, roundsC, rstateC, retQx, go_sem, reduceCtorEq, ↓reduceIte, Nat.reduceAdd, Nat.reduceMul, Nat.reduceSub, Nat.reduceEqDiff, Nat.reduceLT, Nat.reduceBEq, Nat.reduceBNe, Nat.reduceLeDiff, Int.reduceLE, Int.reduceLT, Int.reduceToNat, Int.reduceEq, Int.reduceAdd, UInt8.reduceToNat, UInt32.reduceToNat, UInt64.reduceToNat, UInt8.reduceOfNat, UInt32.reduceOfNat, UInt64.reduceOfNat, Fin.isValue, Int.reduceSub, Int.reduceMul, Int.reduceNeg, Int.reduceMod, Int.reduceDiv, Int.reduceTDiv, Int.reduceTMod, Int.reduceBEq, Int.reduceBNe, Nat.reduceDiv, Nat.reducePow]
        refine br (fun hc => ?_) fun hc => ?_
        · have hc' := of_decide_eq_true hc
          have i2 : IntKind.i64.wrap (8 * (7 - (j : Int))) = ((8 * (7 - j) : Nat) : Int) := by rw [IntKind.wrap_i64]; omega
          have hbc : by64 ((s.length : Nat) : Int) * 8 = bcN s.length := rfl
          have hln : s.length + 1 + padZ s.length + j + 1 = s.length + 1 + padZ s.length + (j + 1) := rfl
          simp only [hc, i1, i2, hbc, hl2, envSK, con0, conS, strsOf_arr, rowS_arr, strsOf_cells, rowS_cells, toS, strL_st, strL_d, strL_enc, strL_up, hpN_nil, hpN_cons, hl1, rblockQC, roundsC, rstateC, retQx, go_sem, reduceCtorEq, ↓reduceIte, Nat.reduceAdd, Nat.reduceMul, Nat.reduceSub, Nat.reduceEqDiff, Nat.reduceLT, Nat.reduceBEq, Nat.reduceBNe, Nat.reduceLeDiff, Int.reduceLE, Int.reduceLT, Int.reduceToNat, Int.reduceEq, Int.reduceAdd, UInt8.reduceToNat, UInt32.reduceToNat, UInt64.reduceToNat, UInt8.reduceOfNat, UInt32.reduceOfNat, UInt64.reduceOfNat, Fin.isValue, Int.reduceSub, Int.reduceMul, Int.reduceNeg, Int.reduceMod, Int.reduceDiv, Int.reduceTDiv, Int.reduceTMod, Int.reduceBEq, Int.reduceBNe, Nat.reduceDiv, Nat.reducePow]
          repeat' apply And.intro
          all_goals first
            | omega
            | rfl
            | skip
          refine again (j + 1) [(500, 90072)] (by omega) (by omega) ?_
          simp only [rs2, padP, hln, List.append_assoc, envSK, con0, conS, strsOf_arr, rowS_arr, strsOf_cells, rowS_cells, toS, strL_st, strL_d, strL_enc, strL_up, hpN_nil, hpN_cons, hl1, rblockQC, roundsC, rstateC, retQx, go_sem, reduceCtorEq, ↓reduceIte, Nat.reduceAdd, Nat.reduceMul, Nat.reduceSub, Nat.reduceEqDiff, Nat.reduceLT, Nat.reduceBEq, Nat.reduceBNe, Nat.reduceLeDiff, Int.reduceLE, Int.reduceLT, Int.reduceToNat, Int.reduceEq, Int.reduceAdd, UInt8.reduceToNat, UInt32.reduceToNat, UInt64.reduceToNat, UInt8.reduceOfNat, UInt32.reduceOfNat, UInt64.reduceOfNat, Fin.isValue, Int.reduceSub, Int.reduceMul, Int.reduceNeg, Int.reduceMod, Int.reduceDiv, Int.reduceTDiv, Int.reduceTMod, Int.reduceBEq, Int.reduceBNe, Nat.reduceDiv, Nat.reducePow]
          all_goals first
            | trivial
            | trace_state
        · obtain rfl : j = 8 := by have := of_decide_eq_false hc; omega
          simp only [hc, envSK, con0, conS, strsOf_arr, rowS_arr, strsOf_cells, rowS_cells, toS, strL_st, strL_d, strL_enc, strL_up, hpN_nil, hpN_cons, hl1, rblockQC, roundsC, rstateC, conQ, roundsF, rstateF, retQx, go_sem, reduceCtorEq, ↓reduceIte, Nat.reduceAdd, Nat.reduceMul, Nat.reduceSub, Nat.reduceEqDiff, Nat.reduceLT, Nat.reduceBEq, Nat.reduceBNe, Nat.reduceLeDiff, Int.reduceLE, Int.reduceLT, Int.reduceToNat, Int.reduceEq, Int.reduceAdd, UInt8.reduceToNat, UInt32.reduceToNat, UInt64.reduceToNat, UInt8.reduceOfNat, UInt32.reduceOfNat, UInt64.reduceOfNat, Fin.isValue, Int.reduceSub, Int.reduceMul, Int.reduceNeg, Int.reduceMod, Int.reduceDiv, Int.reduceTDiv, Int.reduceTMod, Int.reduceBEq, Int.reduceBNe, Nat.reduceDiv, Nat.reducePow]
          have hfl : s ++ padP s.length 8 = fullS s := rfl
          have hfn : s.length + 1 + padZ s.length + 8 = (fullS s).length := hl2.symm
          have hf64 : (fullS s).length % 64 = 0 := by rw [← hfn]; unfold padZ; omega
          have hfb : (fullS s).length ≤ 1000100 := by rw [← hfn]; omega
          rw [hfl, hfn]
          refine loop_inv (envSK_ok hl1_ok 85 []) (rs3 s) (fun q => 64 * q ≤ (fullS s).length) (fun q => (fullS s).length - 64 * q) 0 [(600, 100000), (700, 100008)] (by omega) ?_ ?_
          · simp only [rs3, foldB, envSK, con0, conS, strsOf_arr, rowS_arr, strsOf_cells, rowS_cells, toS, strL_st, strL_d, strL_enc, strL_up, hpN_nil, hpN_cons, hl1, rblockQC, roundsC, rstateC, go_sem, reduceCtorEq, ↓reduceIte, Nat.reduceAdd, Nat.reduceMul, Nat.reduceSub, Nat.reduceEqDiff, Nat.reduceLT, Nat.reduceBEq, Nat.reduceBNe, Nat.reduceLeDiff, Int.reduceLE, Int.reduceLT, Int.reduceToNat, Int.reduceEq, Int.reduceAdd, UInt8.reduceToNat, UInt32.reduceToNat, UInt64.reduceToNat, UInt8.reduceOfNat, UInt32.reduceOfNat, UInt64.reduceOfNat, Fin.isValue, Int.reduceSub, Int.reduceMul, Int.reduceNeg, Int.reduceMod, Int.reduceDiv, Int.reduceTDiv, Int.reduceTMod, Int.reduceBEq, Int.reduceBNe, Nat.reduceDiv, Nat.reducePow]
            all_goals first
              | trivial
              | trace_state
          · intro q hq
            have hh8 := W8.l_len (foldB init8 (fullS s) q)
            simp only [rs3, envSK, con0, conS, strsOf_arr, rowS_arr, strsOf_cells, rowS_cells, toS, strL_st, strL_d, strL_enc, strL_up, hpN_nil, hpN_cons, hl1, rblockQC, roundsC, rstateC, conQ, rblockQF, retQx, go_sem, reduceCtorEq, ↓reduceIte, Nat.reduceAdd, Nat.reduceMul, Nat.reduceSub, Nat.reduceEqDiff, Nat.reduceLT, Nat.reduceBEq, Nat.reduceBNe, Nat.reduceLeDiff, Int.reduceLE, Int.reduceLT, Int.reduceToNat, Int.reduceEq, Int.reduceAdd, UInt8.reduceToNat, UInt32.reduceToNat, UInt64.reduceToNat, UInt8.reduceOfNat, UInt32.reduceOfNat, UInt64.reduceOfNat, Fin.isValue, Int.reduceSub, Int.reduceMul, Int.reduceNeg, Int.reduceMod, Int.reduceDiv, Int.reduceTDiv, Int.reduceTMod, Int.reduceBEq, Int.reduceBNe, Nat.reduceDiv, Nat.reducePow]
            refine br (fun hc => ?_) fun hc => ?_
            · have hc' := of_decide_eq_true hc
              have a1 : IntKind.i64.wrap (((64 * q : Nat) : Int) + 64) = ((64 * (q + 1) : Nat) : Int) := by rw [IntKind.wrap_i64]; omega
              simp only [hc, a1, hh8, ursOf_arr, rowU_arr, w8_l, kL_len, block_eq, envSK, con0, conS, strsOf_arr, rowS_arr, strsOf_cells, rowS_cells, toS, strL_st, strL_d, strL_enc, strL_up, hpN_nil, hpN_cons, hl1, rblockQC, roundsC, rstateC, conQ, rblockQF, retQx, go_sem, reduceCtorEq, ↓reduceIte, Nat.reduceAdd, Nat.reduceMul, Nat.reduceSub, Nat.reduceEqDiff, Nat.reduceLT, Nat.reduceBEq, Nat.reduceBNe, Nat.reduceLeDiff, Int.reduceLE, Int.reduceLT, Int.reduceToNat, Int.reduceEq, Int.reduceAdd, UInt8.reduceToNat, UInt32.reduceToNat, UInt64.reduceToNat, UInt8.reduceOfNat, UInt32.reduceOfNat, UInt64.reduceOfNat, Fin.isValue, Int.reduceSub, Int.reduceMul, Int.reduceNeg, Int.reduceMod, Int.reduceDiv, Int.reduceTDiv, Int.reduceTMod, Int.reduceBEq, Int.reduceBNe, Nat.reduceDiv, Nat.reducePow]
              repeat' apply And.intro
              all_goals first
                | omega
                | rfl
                | skip
              · rw [List.length_take, List.length_drop]; omega
              refine again (q + 1) [(700, 140064)] (by omega) (by omega) ?_
              have h64 : 64 * (q + 1) - 64 * q = 64 := by omega
              simp only [rs3, foldB, h64, envSK, con0, conS, strsOf_arr, rowS_arr, strsOf_cells, rowS_cells, toS, strL_st, strL_d, strL_enc, strL_up, hpN_nil, hpN_cons, hl1, rblockQC, roundsC, rstateC, go_sem, reduceCtorEq, ↓reduceIte, Nat.reduceAdd, Nat.reduceMul, Nat.reduceSub, Nat.reduceEqDiff, Nat.reduceLT, Nat.reduceBEq, Nat.reduceBNe, Nat.reduceLeDiff, Int.reduceLE, Int.reduceLT, Int.reduceToNat, Int.reduceEq, Int.reduceAdd, UInt8.reduceToNat, UInt32.reduceToNat, UInt64.reduceToNat, UInt8.reduceOfNat, UInt32.reduceOfNat, UInt64.reduceOfNat, Fin.isValue, Int.reduceSub, Int.reduceMul, Int.reduceNeg, Int.reduceMod, Int.reduceDiv, Int.reduceTDiv, Int.reduceTMod, Int.reduceBEq, Int.reduceBNe, Nat.reduceDiv, Nat.reducePow]
              all_goals first
                | trivial
                | trace_state
            · have hQ : q = (fullS s).length / 64 := by have := of_decide_eq_false hc; omega
              have hou := fullS_sum s
              rw [← hQ] at hou
              generalize foldB init8 (fullS s) q = V at hou ⊢
              have hl8 := W8.l_len V
              simp only [hc, hl8, u32L_st, u32L_d, u32L_enc, envSK, con0, conS, strsOf_arr, rowS_arr, strsOf_cells, rowS_cells, toS, strL_st, strL_d, strL_enc, strL_up, hpN_nil, hpN_cons, hl1, rblockQC, roundsC, rstateC, retQx, go_sem, reduceCtorEq, ↓reduceIte, Nat.reduceAdd, Nat.reduceMul, Nat.reduceSub, Nat.reduceEqDiff, Nat.reduceLT, Nat.reduceBEq, Nat.reduceBNe, Nat.reduceLeDiff, Int.reduceLE, Int.reduceLT, Int.reduceToNat, Int.reduceEq, Int.reduceAdd, UInt8.reduceToNat, UInt32.reduceToNat, UInt64.reduceToNat, UInt8.reduceOfNat, UInt32.reduceOfNat, UInt64.reduceOfNat, Fin.isValue, Int.reduceSub, Int.reduceMul, Int.reduceNeg, Int.reduceMod, Int.reduceDiv, Int.reduceTDiv, Int.reduceTMod, Int.reduceBEq, Int.reduceBNe, Nat.reduceDiv, Nat.reducePow]
              repeat' apply And.intro
              all_goals first
                | omega
                | rfl
                | skip
              refine loop_inv (envSK_ok hl1_ok 85 []) (rs4 V) (fun i => i ≤ 8) (fun i => 8 - i) 0 [] (by omega) ?_ ?_
              · simp only [rs4, envSK, con0, conS, strsOf_arr, rowS_arr, strsOf_cells, rowS_cells, toS, strL_st, strL_d, strL_enc, strL_up, hpN_nil, hpN_cons, hl1, rblockQC, roundsC, rstateC, go_sem, reduceCtorEq, ↓reduceIte, Nat.reduceAdd, Nat.reduceMul, Nat.reduceSub, Nat.reduceEqDiff, Nat.reduceLT, Nat.reduceBEq, Nat.reduceBNe, Nat.reduceLeDiff, Int.reduceLE, Int.reduceLT, Int.reduceToNat, Int.reduceEq, Int.reduceAdd, UInt8.reduceToNat, UInt32.reduceToNat, UInt64.reduceToNat, UInt8.reduceOfNat, UInt32.reduceOfNat, UInt64.reduceOfNat, Fin.isValue, Int.reduceSub, Int.reduceMul, Int.reduceNeg, Int.reduceMod, Int.reduceDiv, Int.reduceTDiv, Int.reduceTMod, Int.reduceBEq, Int.reduceBNe, Nat.reduceDiv, Nat.reducePow]
                all_goals first
                  | trivial
                  | trace_state
              · intro i hi
                have hol := outI_len V i
                rcases i with _ | i
                · simp only [rs4, hl8, u32L_st, u32L_d, u32L_enc, u32L_up, envSK, con0, conS, strsOf_arr, rowS_arr, strsOf_cells, rowS_cells, toS, strL_st, strL_d, strL_enc, strL_up, hpN_nil, hpN_cons, hl1, rblockQC, roundsC, rstateC, retQx, go_sem, reduceCtorEq, ↓reduceIte, Nat.reduceAdd, Nat.reduceMul, Nat.reduceSub, Nat.reduceEqDiff, Nat.reduceLT, Nat.reduceBEq, Nat.reduceBNe, Nat.reduceLeDiff, Int.reduceLE, Int.reduceLT, Int.reduceToNat, Int.reduceEq, Int.reduceAdd, UInt8.reduceToNat, UInt32.reduceToNat, UInt64.reduceToNat, UInt8.reduceOfNat, UInt32.reduceOfNat, UInt64.reduceOfNat, Fin.isValue, Int.reduceSub, Int.reduceMul, Int.reduceNeg, Int.reduceMod, Int.reduceDiv, Int.reduceTDiv, Int.reduceTMod, Int.reduceBEq, Int.reduceBNe, Nat.reduceDiv, Nat.reducePow]
                  repeat' apply And.intro
                  all_goals first
                    | omega
                    | rfl
                    | skip
                  refine again (0 + 1) [(800, 190152)] (by omega) (by omega) ?_
                  simp only [rs4, outI, List.nil_append, List.cons_append, u8L_st, u8L_enc, u8L, envSK, con0, conS, strsOf_arr, rowS_arr, strsOf_cells, rowS_cells, toS, strL_st, strL_d, strL_enc, strL_up, hpN_nil, hpN_cons, hl1, rblockQC, roundsC, rstateC, go_sem, reduceCtorEq, ↓reduceIte, Nat.reduceAdd, Nat.reduceMul, Nat.reduceSub, Nat.reduceEqDiff, Nat.reduceLT, Nat.reduceBEq, Nat.reduceBNe, Nat.reduceLeDiff, Int.reduceLE, Int.reduceLT, Int.reduceToNat, Int.reduceEq, Int.reduceAdd, UInt8.reduceToNat, UInt32.reduceToNat, UInt64.reduceToNat, UInt8.reduceOfNat, UInt32.reduceOfNat, UInt64.reduceOfNat, Fin.isValue, Int.reduceSub, Int.reduceMul, Int.reduceNeg, Int.reduceMod, Int.reduceDiv, Int.reduceTDiv, Int.reduceTMod, Int.reduceBEq, Int.reduceBNe, Nat.reduceDiv, Nat.reducePow]
                  all_goals first
                    | trivial
                    | trace_state
                · have a4 : IntKind.i64.wrap (((i + 1 : Nat) : Int) + 1) = ((i + 1 + 1 : Nat) : Int) := by rw [IntKind.wrap_i64]; omega
                  have h4 : 4 * (i + 1 + 1) = 4 * (i + 1) + 1 + 1 + 1 + 1 := by omega
                  have hou2 : outI V (i + 1 + 1) = outI V (i + 1) ++ [(shr32 (V.l.getD (i + 1) 0) 24).toUInt8] ++ [(shr32 (V.l.getD (i + 1) 0) 16).toUInt8] ++ [(shr32 (V.l.getD (i + 1) 0) 8).toUInt8] ++ [(V.l.getD (i + 1) 0).toUInt8] := rfl
                  simp only [rs4, envSK, con0, conS, strsOf_arr, rowS_arr, strsOf_cells, rowS_cells, toS, strL_st, strL_d, strL_enc, strL_up, hpN_nil, hpN_cons, hl1, rblockQC, roundsC, rstateC, retQx, go_sem, reduceCtorEq, ↓reduceIte, Nat.reduceAdd, Nat.reduceMul, Nat.reduceSub, Nat.reduceEqDiff, Nat.reduceLT, Nat.reduceBEq, Nat.reduceBNe, Nat.reduceLeDiff, Int.reduceLE, Int.reduceLT, Int.reduceToNat, Int.reduceEq, Int.reduceAdd, UInt8.reduceToNat, UInt32.reduceToNat, UInt64.reduceToNat, UInt8.reduceOfNat, UInt32.reduceOfNat, UInt64.reduceOfNat, Fin.isValue, Int.reduceSub, Int.reduceMul, Int.reduceNeg, Int.reduceMod, Int.reduceDiv, Int.reduceTDiv, Int.reduceTMod, Int.reduceBEq, Int.reduceBNe, Nat.reduceDiv, Nat.reducePow]
                  refine br (fun hc => ?_) fun hc => ?_
                  · have hc' := of_decide_eq_true hc
                    simp only [hc, a4, hl8, hol, u32L_st, u32L_d, u32L_enc, u32L_up, envSK, con0, conS, strsOf_arr, rowS_arr, strsOf_cells, rowS_cells, toS, strL_st, strL_d, strL_enc, strL_up, hpN_nil, hpN_cons, hl1, rblockQC, roundsC, rstateC, retQx, go_sem, reduceCtorEq, ↓reduceIte, Nat.reduceAdd, Nat.reduceMul, Nat.reduceSub, Nat.reduceEqDiff, Nat.reduceLT, Nat.reduceBEq, Nat.reduceBNe, Nat.reduceLeDiff, Int.reduceLE, Int.reduceLT, Int.reduceToNat, Int.reduceEq, Int.reduceAdd, UInt8.reduceToNat, UInt32.reduceToNat, UInt64.reduceToNat, UInt8.reduceOfNat, UInt32.reduceOfNat, UInt64.reduceOfNat, Fin.isValue, Int.reduceSub, Int.reduceMul, Int.reduceNeg, Int.reduceMod, Int.reduceDiv, Int.reduceTDiv, Int.reduceTMod, Int.reduceBEq, Int.reduceBNe, Nat.reduceDiv, Nat.reducePow]
                    repeat' apply And.intro
                    all_goals first
                      | omega
                      | rfl
                      | (simp only [List.length_append, List.length_singleton, hol]; done)
                      | skip
                    refine again (i + 1 + 1) [(800, 190152)] (by omega) (by omega) ?_
                    simp only [rs4, hou2, h4, envSK, con0, conS, strsOf_arr, rowS_arr, strsOf_cells, rowS_cells, toS, strL_st, strL_d, strL_enc, strL_up, hpN_nil, hpN_cons, hl1, rblockQC, roundsC, rstateC, go_sem, reduceCtorEq, ↓reduceIte, Nat.reduceAdd, Nat.reduceMul, Nat.reduceSub, Nat.reduceEqDiff, Nat.reduceLT, Nat.reduceBEq, Nat.reduceBNe, Nat.reduceLeDiff, Int.reduceLE, Int.reduceLT, Int.reduceToNat, Int.reduceEq, Int.reduceAdd, UInt8.reduceToNat, UInt32.reduceToNat, UInt64.reduceToNat, UInt8.reduceOfNat, UInt32.reduceOfNat, UInt64.reduceOfNat, Fin.isValue, Int.reduceSub, Int.reduceMul, Int.reduceNeg, Int.reduceMod, Int.reduceDiv, Int.reduceTDiv, Int.reduceTMod, Int.reduceBEq, Int.reduceBNe, Nat.reduceDiv, Nat.reducePow]
                    all_goals first
                      | trivial
                      | trace_state
                  · obtain rfl : i = 7 := by have := of_decide_eq_false hc; omega
                    have hoe := outI_end V
                    rw [hou] at hoe
                    have hsl : (sumL s).length = 32 := by rw [← hoe, hol]
                    have htk : (sumL s).take 32 = sumL s := List.take_of_length_le (by omega)
                    simp only [hc, hoe, htk, hsl, envSK, con0, conS, strsOf_arr, rowS_arr, strsOf_cells, rowS_cells, toS, strL_st, strL_d, strL_enc, strL_up, hpN_nil, hpN_cons, hl1, rblockQC, roundsC, rstateC, retQx, go_sem, reduceCtorEq, ↓reduceIte, Nat.reduceAdd, Nat.reduceMul, Nat.reduceSub, Nat.reduceEqDiff, Nat.reduceLT, Nat.reduceBEq, Nat.reduceBNe, Nat.reduceLeDiff, Int.reduceLE, Int.reduceLT, Int.reduceToNat, Int.reduceEq, Int.reduceAdd, UInt8.reduceToNat, UInt32.reduceToNat, UInt64.reduceToNat, UInt8.reduceOfNat, UInt32.reduceOfNat, UInt64.reduceOfNat, Fin.isValue, Int.reduceSub, Int.reduceMul, Int.reduceNeg, Int.reduceMod, Int.reduceDiv, Int.reduceTDiv, Int.reduceTMod, Int.reduceBEq, Int.reduceBNe, Nat.reduceDiv, Nat.reducePow]
                    repeat' apply And.intro
                    all_goals first
                      | omega
                      | rfl
                      | skip
                    refine endX [] ?_
                    simp only [htk, envSK, con0, conS, strsOf_arr, rowS_arr, strsOf_cells, rowS_cells, toS, strL_st, strL_d, strL_enc, strL_up, hpN_nil, hpN_cons, hl1, rblockQC, roundsC, rstateC, retQx, go_sem, reduceCtorEq, ↓reduceIte, Nat.reduceAdd, Nat.reduceMul, Nat.reduceSub, Nat.reduceEqDiff, Nat.reduceLT, Nat.reduceBEq, Nat.reduceBNe, Nat.reduceLeDiff, Int.reduceLE, Int.reduceLT, Int.reduceToNat, Int.reduceEq, Int.reduceAdd, UInt8.reduceToNat, UInt32.reduceToNat, UInt64.reduceToNat, UInt8.reduceOfNat, UInt32.reduceOfNat, UInt64.reduceOfNat, Fin.isValue, Int.reduceSub, Int.reduceMul, Int.reduceNeg, Int.reduceMod, Int.reduceDiv, Int.reduceTDiv, Int.reduceTMod, Int.reduceBEq, Int.reduceBNe, Nat.reduceDiv, Nat.reducePow]
                    all_goals first
                      | trivial
                      | trace_state
end Go.Proofs.YtdkogjjebbdngaaDoor
