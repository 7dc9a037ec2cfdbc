/-
  Layer 2: bytes drawn out of a secret.
-/
import Derived.Test.YtdkogjjebbdngaaDoorSz
import Derived.Test.YtdkogjjebbdngaaDoorHp
namespace Go.Proofs.YtdkogjjebbdngaaDoor
open Go Go.RowKit
set_option maxHeartbeats 4000000
set_option linter.unusedSimpArgs false
set_option linter.unusedVariables false
set_option linter.unusedSectionVars false
def bD (key info : List UInt8) : Nat → List UInt8
  | 0 => []
  | n + 1 => sumM key (bD key info n ++ info ++ [by8 ((n + 1 : Nat) : Int)])
def outD (key info : List UInt8) : Nat → List UInt8
  | 0 => []
  | n + 1 => outD key info n ++ bD key info (n + 1)
theorem bD_len (key info : List UInt8) (n : Nat) : (bD key info (n + 1)).length = 32 := rfl
theorem outD_len (key info : List UInt8) : ∀ n, (outD key info n).length = 32 * n
  | 0 => rfl
  | n + 1 => by rw [outD, List.length_append, outD_len key info n, bD_len]; omega
theorem bD_bd (key info : List UInt8) (n : Nat) : (bD key info n).length ≤ 32 := by
  cases n with
  | zero => exact Nat.zero_le _
  | succ n => rw [bD_len]; decide
def drawD (secret salt info : List UInt8) (z : Nat) : List UInt8 := (outD (sumM salt secret) info ((z + 31) / 32)).take z
def hq1 : Nat → Option Con := fun f => match f with
  | 15 => some macSumC
  | _ => none
theorem hq1_ok : GaOkG Tryd.prog GS hq1 := fun f con h => by
  unfold hq1 at h
  split at h
  · injection h with h; subst h; exact macSumC_ok
  · cases h
def dwI (key info : List UInt8) (z : Int) : Nat → St
  | 0 => ⟨[(2, .c (.one (.str info))), (3, .c (.one (.num z))), (10, .c (.one (.str key))), (11, .c (.one (.val (.slice none 0 0)))), (12, .c (.one (.str []))), (13, .c (.one (.num 1)))], []⟩
  | n + 1 => ⟨[(2, .c (.one (.str info))), (3, .c (.one (.num z))), (10, .c (.one (.str key))), (11, .c (.one (.sl 500 0 1 (32 * (n + 1))))), (12, .c (.one (.str (bD key info (n + 1))))), (13, .c (.one (.num ((n + 1 + 1 : Nat) : Int))))], [(500, ⟨.arr UInt8 u8L (outD key info (n + 1)), true⟩)]⟩
set_option maxRecDepth 100000 in
theorem draw_tri (secret salt info : List UInt8) (z : Nat) (h1 : secret.length ≤ 1000) (h2 : salt.length ≤ 1000) (h3 : info.length ≤ 1000) (hz : z ≤ 8160) : TriG Tryd.prog GS 19 [.one (.str secret), .one (.str salt), .one (.str info), .one (.num (z : Nat))] [] (.tup [.one (.str (drawD secret salt info z)), .one (.num 0)]) [] := by
  have d1 : decide ((z : Int) < 0) = false := decide_eq_false (by omega)
  have d2 : decide ((8160 : Int) < (z : Int)) = false := decide_eq_false (by omega)
  have kl := sumM_len salt secret
  have hv : drawD secret salt info z = (outD (sumM salt secret) info ((z + 31) / 32)).take z := rfl
  refine tri_ofx (envSK_ok hq1_ok 46 []) Tryd.func19 rfl rfl (rs := [.tmp 8, .tmp 9]) rfl rfl (by simp [envSK]) rfl ?_
  generalize hkey : sumM salt secret = key at *
  simp only [d1, d2, hkey, envSK, con0, conS, strsOf_arr, rowS_arr, strsOf_cells, rowS_cells, toS, strL_st, strL_d, strL_enc, strL_up, hpN_nil, hpN_cons, hq1, macSumC, retQx, go_sem, reduceCtorEq, ↓reduceIte, Nat.reduceAdd, Nat.reduceMul, Nat.reduceSub, Nat.reduceEqDiff, Nat.reduceLT, Nat.reduceBEq, Nat.reduceBNe, Nat.reduceLeDiff, Int.reduceLE, Int.reduceLT, Int.reduceToNat, Int.reduceEq, Int.reduceAdd, UInt8.reduceToNat, UInt32.reduceToNat, UInt64.reduceToNat, UInt8.reduceOfNat, UInt32.reduceOfNat, UInt64.reduceOfNat, Fin.isValue, Int.reduceSub, Int.reduceMul, Int.reduceNeg, Int.reduceMod, Int.reduceDiv, Int.reduceTDiv, Int.reduceTMod, Int.reduceBEq, Int.reduceBNe, Nat.reduceDiv, Nat.reducePow]
  repeat' apply And.intro
  all_goals first
    | omega
    | (show ckDraw _; rfl)
    | skip
  refine loop_inv (envSK_ok hq1_ok 46 []) (dwI key info (z : Nat)) (fun n => n ≤ (z + 31) / 32) (fun n => (z + 31) / 32 - n) 0 [] (by omega) ?_ ?_
  · simp only [dwI, envSK, con0, conS, strsOf_arr, rowS_arr, strsOf_cells, rowS_cells, toS, strL_st, strL_d, strL_enc, strL_up, hpN_nil, hpN_cons, hq1, macSumC, go_sem, reduceCtorEq, ↓reduceIte, Nat.reduceAdd, Nat.reduceMul, Nat.reduceSub, Nat.reduceEqDiff, Nat.reduceLT, Nat.reduceBEq, Nat.reduceBNe, Nat.reduceLeDiff, Int.reduceLE, Int.reduceLT, Int.reduceToNat, Int.reduceEq, Int.reduceAdd, UInt8.reduceToNat, UInt32.reduceToNat, UInt64.reduceToNat, UInt8.reduceOfNat, UInt32.reduceOfNat, UInt64.reduceOfNat, Fin.isValue, Int.reduceSub, Int.reduceMul, Int.reduceNeg, Int.reduceMod, Int.reduceDiv, Int.reduceTDiv, Int.reduceTMod, Int.reduceBEq, Int.reduceBNe, Nat.reduceDiv, Nat.reducePow]
    all_goals first
      | trivial
      | trace_state
  · intro n hn
    have hb := bD_bd key info n
    have hol := outD_len key info n
    rcases n with _ | n
    · have e1 : sumM key (info ++ [by8 1]) = bD key info 1 := rfl
      have e2 : bD key info 1 = outD key info 1 := rfl
      have bl := bD_len key info 0
      simp only [dwI, envSK, con0, conS, strsOf_arr, rowS_arr, strsOf_cells, rowS_cells, toS, strL_st, strL_d, strL_enc, strL_up, hpN_nil, hpN_cons, hq1, macSumC, retQx, go_sem, reduceCtorEq, ↓reduceIte, Nat.reduceAdd, Nat.reduceMul, Nat.reduceSub, Nat.reduceEqDiff, Nat.reduceLT, Nat.reduceBEq, Nat.reduceBNe, Nat.reduceLeDiff, Int.reduceLE, Int.reduceLT, Int.reduceToNat, Int.reduceEq, Int.reduceAdd, UInt8.reduceToNat, UInt32.reduceToNat, UInt64.reduceToNat, UInt8.reduceOfNat, UInt32.reduceOfNat, UInt64.reduceOfNat, Fin.isValue, Int.reduceSub, Int.reduceMul, Int.reduceNeg, Int.reduceMod, Int.reduceDiv, Int.reduceTDiv, Int.reduceTMod, Int.reduceBEq, Int.reduceBNe, Nat.reduceDiv, Nat.reducePow]
      refine br (fun hg => ?_) fun hg => ?_
      · have hg' := of_decide_eq_true hg
        simp only [hg, e1, bl, envSK, con0, conS, strsOf_arr, rowS_arr, strsOf_cells, rowS_cells, toS, strL_st, strL_d, strL_enc, strL_up, hpN_nil, hpN_cons, hq1, macSumC, retQx, go_sem, reduceCtorEq, ↓reduceIte, Nat.reduceAdd, Nat.reduceMul, Nat.reduceSub, Nat.reduceEqDiff, Nat.reduceLT, Nat.reduceBEq, Nat.reduceBNe, Nat.reduceLeDiff, Int.reduceLE, Int.reduceLT, Int.reduceToNat, Int.reduceEq, Int.reduceAdd, UInt8.reduceToNat, UInt32.reduceToNat, UInt64.reduceToNat, UInt8.reduceOfNat, UInt32.reduceOfNat, UInt64.reduceOfNat, Fin.isValue, Int.reduceSub, Int.reduceMul, Int.reduceNeg, Int.reduceMod, Int.reduceDiv, Int.reduceTDiv, Int.reduceTMod, Int.reduceBEq, Int.reduceBNe, Nat.reduceDiv, Nat.reducePow]
        repeat' apply And.intro
        all_goals first
          | omega
          | (simp only [List.length_append, List.length_singleton]; omega)
          | (show ckDraw _; rfl)
          | skip
        refine again (0 + 1) [(500, 110016)] (by omega) (by omega) ?_
        simp only [dwI, e2, envSK, con0, conS, strsOf_arr, rowS_arr, strsOf_cells, rowS_cells, toS, strL_st, strL_d, strL_enc, strL_up, hpN_nil, hpN_cons, hq1, macSumC, go_sem, reduceCtorEq, ↓reduceIte, Nat.reduceAdd, Nat.reduceMul, Nat.reduceSub, Nat.reduceEqDiff, Nat.reduceLT, Nat.reduceBEq, Nat.reduceBNe, Nat.reduceLeDiff, Int.reduceLE, Int.reduceLT, Int.reduceToNat, Int.reduceEq, Int.reduceAdd, UInt8.reduceToNat, UInt32.reduceToNat, UInt64.reduceToNat, UInt8.reduceOfNat, UInt32.reduceOfNat, UInt64.reduceOfNat, Fin.isValue, Int.reduceSub, Int.reduceMul, Int.reduceNeg, Int.reduceMod, Int.reduceDiv, Int.reduceTDiv, Int.reduceTMod, Int.reduceBEq, Int.reduceBNe, Nat.reduceDiv, Nat.reducePow]
        all_goals first
          | trivial
          | trace_state
      · obtain rfl : z = 0 := by have := of_decide_eq_false hg; omega
        have hv0 : drawD secret salt info 0 = [] := List.take_zero
        simp only [hg, hv0, envSK, con0, conS, strsOf_arr, rowS_arr, strsOf_cells, rowS_cells, toS, strL_st, strL_d, strL_enc, strL_up, hpN_nil, hpN_cons, hq1, macSumC, retQx, go_sem, reduceCtorEq, ↓reduceIte, Nat.reduceAdd, Nat.reduceMul, Nat.reduceSub, Nat.reduceEqDiff, Nat.reduceLT, Nat.reduceBEq, Nat.reduceBNe, Nat.reduceLeDiff, Int.reduceLE, Int.reduceLT, Int.reduceToNat, Int.reduceEq, Int.reduceAdd, UInt8.reduceToNat, UInt32.reduceToNat, UInt64.reduceToNat, UInt8.reduceOfNat, UInt32.reduceOfNat, UInt64.reduceOfNat, Fin.isValue, Int.reduceSub, Int.reduceMul, Int.reduceNeg, Int.reduceMod, Int.reduceDiv, Int.reduceTDiv, Int.reduceTMod, Int.reduceBEq, Int.reduceBNe, Nat.reduceDiv, Nat.reducePow]
        repeat' apply And.intro
        all_goals first
          | omega
          | skip
        refine endX [] ?_
        simp only [envSK, con0, conS, strsOf_arr, rowS_arr, strsOf_cells, rowS_cells, toS, strL_st, strL_d, strL_enc, strL_up, hpN_nil, hpN_cons, hq1, macSumC, retQx, go_sem, reduceCtorEq, ↓reduceIte, Nat.reduceAdd, Nat.reduceMul, Nat.reduceSub, Nat.reduceEqDiff, Nat.reduceLT, Nat.reduceBEq, Nat.reduceBNe, Nat.reduceLeDiff, Int.reduceLE, Int.reduceLT, Int.reduceToNat, Int.reduceEq, Int.reduceAdd, UInt8.reduceToNat, UInt32.reduceToNat, UInt64.reduceToNat, UInt8.reduceOfNat, UInt32.reduceOfNat, UInt64.reduceOfNat, Fin.isValue, Int.reduceSub, Int.reduceMul, Int.reduceNeg, Int.reduceMod, Int.reduceDiv, Int.reduceTDiv, Int.reduceTMod, Int.reduceBEq, Int.reduceBNe, Nat.reduceDiv, Nat.reducePow]
        all_goals first
          | trivial
          | trace_state
    · have bl := bD_len key info n
      have bl1 := bD_len key info (n + 1)
      have e1 : sumM key (bD key info (n + 1) ++ info ++ [by8 ((n + 1 + 1 : Nat) : Int)]) = bD key info (n + 1 + 1) := rfl
      have e2 : outD key info (n + 1) ++ bD key info (n + 1 + 1) = outD key info (n + 1 + 1) := rfl
      have w1 : IntKind.i64.wrap (((n + 1 + 1 : Nat) : Int) + 1) = ((n + 1 + 1 + 1 : Nat) : Int) := by rw [IntKind.wrap_i64]; omega
      have h32 : 32 * (n + 1) + 32 = 32 * (n + 1 + 1) := by omega
      simp only [dwI, envSK, con0, conS, strsOf_arr, rowS_arr, strsOf_cells, rowS_cells, toS, strL_st, strL_d, strL_enc, strL_up, hpN_nil, hpN_cons, hq1, macSumC, retQx, go_sem, reduceCtorEq, ↓reduceIte, Nat.reduceAdd, Nat.reduceMul, Nat.reduceSub, Nat.reduceEqDiff, Nat.reduceLT, Nat.reduceBEq, Nat.reduceBNe, Nat.reduceLeDiff, Int.reduceLE, Int.reduceLT, Int.reduceToNat, Int.reduceEq, Int.reduceAdd, UInt8.reduceToNat, UInt32.reduceToNat, UInt64.reduceToNat, UInt8.reduceOfNat, UInt32.reduceOfNat, UInt64.reduceOfNat, Fin.isValue, Int.reduceSub, Int.reduceMul, Int.reduceNeg, Int.reduceMod, Int.reduceDiv, Int.reduceTDiv, Int.reduceTMod, Int.reduceBEq, Int.reduceBNe, Nat.reduceDiv, Nat.reducePow]
      refine br (fun hg => ?_) fun hg => ?_
      · have hg' := of_decide_eq_true hg
        simp only [hg, e1, w1, bl1, hol, envSK, con0, conS, strsOf_arr, rowS_arr, strsOf_cells, rowS_cells, toS, strL_st, strL_d, strL_enc, strL_up, hpN_nil, hpN_cons, hq1, macSumC, retQx, go_sem, reduceCtorEq, ↓reduceIte, Nat.reduceAdd, Nat.reduceMul, Nat.reduceSub, Nat.reduceEqDiff, Nat.reduceLT, Nat.reduceBEq, Nat.reduceBNe, Nat.reduceLeDiff, Int.reduceLE, Int.reduceLT, Int.reduceToNat, Int.reduceEq, Int.reduceAdd, UInt8.reduceToNat, UInt32.reduceToNat, UInt64.reduceToNat, UInt8.reduceOfNat, UInt32.reduceOfNat, UInt64.reduceOfNat, Fin.isValue, Int.reduceSub, Int.reduceMul, Int.reduceNeg, Int.reduceMod, Int.reduceDiv, Int.reduceTDiv, Int.reduceTMod, Int.reduceBEq, Int.reduceBNe, Nat.reduceDiv, Nat.reducePow]
        repeat' apply And.intro
        all_goals first
          | omega
          | (simp only [List.length_append, List.length_singleton, bl]; omega)
          | (show ckDraw _; rfl)
          | skip
        refine again (n + 1 + 1) [(500, 110016)] (by omega) (by omega) ?_
        simp only [dwI, e2, h32, envSK, con0, conS, strsOf_arr, rowS_arr, strsOf_cells, rowS_cells, toS, strL_st, strL_d, strL_enc, strL_up, hpN_nil, hpN_cons, hq1, macSumC, go_sem, reduceCtorEq, ↓reduceIte, Nat.reduceAdd, Nat.reduceMul, Nat.reduceSub, Nat.reduceEqDiff, Nat.reduceLT, Nat.reduceBEq, Nat.reduceBNe, Nat.reduceLeDiff, Int.reduceLE, Int.reduceLT, Int.reduceToNat, Int.reduceEq, Int.reduceAdd, UInt8.reduceToNat, UInt32.reduceToNat, UInt64.reduceToNat, UInt8.reduceOfNat, UInt32.reduceOfNat, UInt64.reduceOfNat, Fin.isValue, Int.reduceSub, Int.reduceMul, Int.reduceNeg, Int.reduceMod, Int.reduceDiv, Int.reduceTDiv, Int.reduceTMod, Int.reduceBEq, Int.reduceBNe, Nat.reduceDiv, Nat.reducePow]
        all_goals first
          | trivial
          | trace_state
      · have hN : n + 1 = (z + 31) / 32 := by have := of_decide_eq_false hg; omega
        rw [← hN] at hv
        simp only [hg, hv, hol, Nat.sub_zero, envSK, con0, conS, strsOf_arr, rowS_arr, strsOf_cells, rowS_cells, toS, strL_st, strL_d, strL_enc, strL_up, hpN_nil, hpN_cons, hq1, macSumC, retQx, go_sem, reduceCtorEq, ↓reduceIte, Nat.reduceAdd, Nat.reduceMul, Nat.reduceSub, Nat.reduceEqDiff, Nat.reduceLT, Nat.reduceBEq, Nat.reduceBNe, Nat.reduceLeDiff, Int.reduceLE, Int.reduceLT, Int.reduceToNat, Int.reduceEq, Int.reduceAdd, UInt8.reduceToNat, UInt32.reduceToNat, UInt64.reduceToNat, UInt8.reduceOfNat, UInt32.reduceOfNat, UInt64.reduceOfNat, Fin.isValue, Int.reduceSub, Int.reduceMul, Int.reduceNeg, Int.reduceMod, Int.reduceDiv, Int.reduceTDiv, Int.reduceTMod, Int.reduceBEq, Int.reduceBNe, Nat.reduceDiv, Nat.reducePow]
        repeat' apply And.intro
        all_goals first
          | omega
          | skip
        refine endX [] ?_
        simp only [hv, envSK, con0, conS, strsOf_arr, rowS_arr, strsOf_cells, rowS_cells, toS, strL_st, strL_d, strL_enc, strL_up, hpN_nil, hpN_cons, hq1, macSumC, retQx, go_sem, reduceCtorEq, ↓reduceIte, Nat.reduceAdd, Nat.reduceMul, Nat.reduceSub, Nat.reduceEqDiff, Nat.reduceLT, Nat.reduceBEq, Nat.reduceBNe, Nat.reduceLeDiff, Int.reduceLE, Int.reduceLT, Int.reduceToNat, Int.reduceEq, Int.reduceAdd, UInt8.reduceToNat, UInt32.reduceToNat, UInt64.reduceToNat, UInt8.reduceOfNat, UInt32.reduceOfNat, UInt64.reduceOfNat, Fin.isValue, Int.reduceSub, Int.reduceMul, Int.reduceNeg, Int.reduceMod, Int.reduceDiv, Int.reduceTDiv, Int.reduceTMod, Int.reduceBEq, Int.reduceBNe, Nat.reduceDiv, Nat.reducePow]
        all_goals first
          | trivial
          | trace_state
set_option maxRecDepth 100000 in
theorem drawBad_tri (secret salt info : List UInt8) (z : Int) (hz : z < 0 ∨ 8160 < z) : TriG Tryd.prog GS 19 [.one (.str secret), .one (.str salt), .one (.str info), .one (.num z)] [] (.tup [.one (.str []), .one (.num 1)]) [] := by
  refine tri_ofx (envSK_ok hq1_ok 46 []) Tryd.func19 rfl rfl (rs := [.tmp 8, .tmp 9]) rfl rfl (by simp [envSK]) rfl ?_
  cases d1 : decide (z < 0) with
  | true =>
    simp only [d1, envSK, con0, conS, strsOf_arr, rowS_arr, strsOf_cells, rowS_cells, toS, strL_st, strL_d, strL_enc, strL_up, hpN_nil, hpN_cons, hq1, macSumC, retQx, go_sem, reduceCtorEq, ↓reduceIte, Nat.reduceAdd, Nat.reduceMul, Nat.reduceSub, Nat.reduceEqDiff, Nat.reduceLT, Nat.reduceBEq, Nat.reduceBNe, Nat.reduceLeDiff, Int.reduceLE, Int.reduceLT, Int.reduceToNat, Int.reduceEq, Int.reduceAdd, UInt8.reduceToNat, UInt32.reduceToNat, UInt64.reduceToNat, UInt8.reduceOfNat, UInt32.reduceOfNat, UInt64.reduceOfNat, Fin.isValue, Int.reduceSub, Int.reduceMul, Int.reduceNeg, Int.reduceMod, Int.reduceDiv, Int.reduceTDiv, Int.reduceTMod, Int.reduceBEq, Int.reduceBNe, Nat.reduceDiv, Nat.reducePow]
    refine endX [] ?_
    simp only [envSK, con0, conS, strsOf_arr, rowS_arr, strsOf_cells, rowS_cells, toS, strL_st, strL_d, strL_enc, strL_up, hpN_nil, hpN_cons, hq1, macSumC, retQx, go_sem, reduceCtorEq, ↓reduceIte, Nat.reduceAdd, Nat.reduceMul, Nat.reduceSub, Nat.reduceEqDiff, Nat.reduceLT, Nat.reduceBEq, Nat.reduceBNe, Nat.reduceLeDiff, Int.reduceLE, Int.reduceLT, Int.reduceToNat, Int.reduceEq, Int.reduceAdd, UInt8.reduceToNat, UInt32.reduceToNat, UInt64.reduceToNat, UInt8.reduceOfNat, UInt32.reduceOfNat, UInt64.reduceOfNat, Fin.isValue, Int.reduceSub, Int.reduceMul, Int.reduceNeg, Int.reduceMod, Int.reduceDiv, Int.reduceTDiv, Int.reduceTMod, Int.reduceBEq, Int.reduceBNe, Nat.reduceDiv, Nat.reducePow]
    all_goals first
      | trivial
      | trace_state
  | false =>
    have d2 : decide ((8160 : Int) < z) = true := decide_eq_true (by have := of_decide_eq_false d1; omega)
    simp only [d1, d2, envSK, con0, conS, strsOf_arr, rowS_arr, strsOf_cells, rowS_cells, toS, strL_st, strL_d, strL_enc, strL_up, hpN_nil, hpN_cons, hq1, macSumC, retQx, go_sem, reduceCtorEq, ↓reduceIte, Nat.reduceAdd, Nat.reduceMul, Nat.reduceSub, Nat.reduceEqDiff, Nat.reduceLT, Nat.reduceBEq, Nat.reduceBNe, Nat.reduceLeDiff, Int.reduceLE, Int.reduceLT, Int.reduceToNat, Int.reduceEq, Int.reduceAdd, UInt8.reduceToNat, UInt32.reduceToNat, UInt64.reduceToNat, UInt8.reduceOfNat, UInt32.reduceOfNat, UInt64.reduceOfNat, Fin.isValue, Int.reduceSub, Int.reduceMul, Int.reduceNeg, Int.reduceMod, Int.reduceDiv, Int.reduceTDiv, Int.reduceTMod, Int.reduceBEq, Int.reduceBNe, Nat.reduceDiv, Nat.reducePow]
    refine endX [] ?_
    simp only [envSK, con0, conS, strsOf_arr, rowS_arr, strsOf_cells, rowS_cells, toS, strL_st, strL_d, strL_enc, strL_up, hpN_nil, hpN_cons, hq1, macSumC, retQx, go_sem, reduceCtorEq, ↓reduceIte, Nat.reduceAdd, Nat.reduceMul, Nat.reduceSub, Nat.reduceEqDiff, Nat.reduceLT, Nat.reduceBEq, Nat.reduceBNe, Nat.reduceLeDiff, Int.reduceLE, Int.reduceLT, Int.reduceToNat, Int.reduceEq, Int.reduceAdd, UInt8.reduceToNat, UInt32.reduceToNat, UInt64.reduceToNat, UInt8.reduceOfNat, UInt32.reduceOfNat, UInt64.reduceOfNat, Fin.isValue, Int.reduceSub, Int.reduceMul, Int.reduceNeg, Int.reduceMod, Int.reduceDiv, Int.reduceTDiv, Int.reduceTMod, Int.reduceBEq, Int.reduceBNe, Nat.reduceDiv, Nat.reducePow]
    all_goals first
      | trivial
      | trace_state
-- THE DOCUMENT'S
def hq2 : Nat → Option Con := fun f => match f with
  | 16 => some rmacC
  | _ => none
theorem hq2_ok : GaOkG Tryd.prog GS hq2 := fun f con h => by
  unfold hq2 at h
  split at h
  · injection h with h; subst h; exact rmacC_ok
  · cases h
def qdI (key info : List UInt8) (z : Int) (n : Nat) : St := ⟨[(2, .c (.one (.str info))), (3, .c (.one (.num z))), (9, .c (.one (.str key))), (10, .c (.one (.str (outD key info n)))), (11, .c (.one (.str (bD key info n)))), (12, .c (.one (.num ((n + 1 : Nat) : Int))))], []⟩
set_option maxRecDepth 100000 in
theorem rdraw_tri (secret salt info : List UInt8) (z : Nat) (h1 : secret.length ≤ 1000) (h2 : salt.length ≤ 1000) (h3 : info.length ≤ 1000) (hz : z ≤ 8160) : TriG Tryd.prog GS 20 [.one (.str secret), .one (.str salt), .one (.str info), .one (.num (z : Nat))] [] (.c (.one (.str (drawD secret salt info z)))) [] := by
  have kl := sumM_len salt secret
  have hv : drawD secret salt info z = (outD (sumM salt secret) info ((z + 31) / 32)).take z := rfl
  refine tri_ofx (envSK_ok hq2_ok 38 []) Tryd.func20 rfl rfl (rs := [.tmp 8]) rfl rfl (by simp [envSK]) rfl ?_
  generalize hkey : sumM salt secret = key at *
  simp only [hkey, envSK, con0, conS, strsOf_arr, rowS_arr, strsOf_cells, rowS_cells, toS, strL_st, strL_d, strL_enc, strL_up, hpN_nil, hpN_cons, hq2, rmacC, retQx, go_sem, reduceCtorEq, ↓reduceIte, Nat.reduceAdd, Nat.reduceMul, Nat.reduceSub, Nat.reduceEqDiff, Nat.reduceLT, Nat.reduceBEq, Nat.reduceBNe, Nat.reduceLeDiff, Int.reduceLE, Int.reduceLT, Int.reduceToNat, Int.reduceEq, Int.reduceAdd, UInt8.reduceToNat, UInt32.reduceToNat, UInt64.reduceToNat, UInt8.reduceOfNat, UInt32.reduceOfNat, UInt64.reduceOfNat, Fin.isValue, Int.reduceSub, Int.reduceMul, Int.reduceNeg, Int.reduceMod, Int.reduceDiv, Int.reduceTDiv, Int.reduceTMod, Int.reduceBEq, Int.reduceBNe, Nat.reduceDiv, Nat.reducePow]
  repeat' apply And.intro
  all_goals first
    | omega
    | (show ckDraw _; rfl)
    | skip
  refine loop_inv (envSK_ok hq2_ok 38 []) (qdI key info (z : Nat)) (fun n => n ≤ (z + 31) / 32) (fun n => (z + 31) / 32 - n) 0 [] (by omega) ?_ ?_
  · simp only [qdI, bD, outD, envSK, con0, conS, strsOf_arr, rowS_arr, strsOf_cells, rowS_cells, toS, strL_st, strL_d, strL_enc, strL_up, hpN_nil, hpN_cons, hq2, rmacC, go_sem, reduceCtorEq, ↓reduceIte, Nat.reduceAdd, Nat.reduceMul, Nat.reduceSub, Nat.reduceEqDiff, Nat.reduceLT, Nat.reduceBEq, Nat.reduceBNe, Nat.reduceLeDiff, Int.reduceLE, Int.reduceLT, Int.reduceToNat, Int.reduceEq, Int.reduceAdd, UInt8.reduceToNat, UInt32.reduceToNat, UInt64.reduceToNat, UInt8.reduceOfNat, UInt32.reduceOfNat, UInt64.reduceOfNat, Fin.isValue, Int.reduceSub, Int.reduceMul, Int.reduceNeg, Int.reduceMod, Int.reduceDiv, Int.reduceTDiv, Int.reduceTMod, Int.reduceBEq, Int.reduceBNe, Nat.reduceDiv, Nat.reducePow]
    all_goals first
      | trivial
      | rfl
      | trace_state
  · intro n hn
    have hb := bD_bd key info n
    have bl1 := bD_len key info n
    have hol := outD_len key info n
    have e1 : sumM key (bD key info n ++ info ++ [by8 ((n + 1 : Nat) : Int)]) = bD key info (n + 1) := rfl
    have e2 : outD key info n ++ bD key info (n + 1) = outD key info (n + 1) := rfl
    have w1 : IntKind.i64.wrap (((n + 1 : Nat) : Int) + 1) = ((n + 1 + 1 : Nat) : Int) := by rw [IntKind.wrap_i64]; omega
    simp only [qdI, hol, envSK, con0, conS, strsOf_arr, rowS_arr, strsOf_cells, rowS_cells, toS, strL_st, strL_d, strL_enc, strL_up, hpN_nil, hpN_cons, hq2, rmacC, retQx, go_sem, reduceCtorEq, ↓reduceIte, Nat.reduceAdd, Nat.reduceMul, Nat.reduceSub, Nat.reduceEqDiff, Nat.reduceLT, Nat.reduceBEq, Nat.reduceBNe, Nat.reduceLeDiff, Int.reduceLE, Int.reduceLT, Int.reduceToNat, Int.reduceEq, Int.reduceAdd, UInt8.reduceToNat, UInt32.reduceToNat, UInt64.reduceToNat, UInt8.reduceOfNat, UInt32.reduceOfNat, UInt64.reduceOfNat, Fin.isValue, Int.reduceSub, Int.reduceMul, Int.reduceNeg, Int.reduceMod, Int.reduceDiv, Int.reduceTDiv, Int.reduceTMod, Int.reduceBEq, Int.reduceBNe, Nat.reduceDiv, Nat.reducePow]
    refine br (fun hg => ?_) fun hg => ?_
    · have hg' := of_decide_eq_true hg
      simp only [hg, e1, w1, envSK, con0, conS, strsOf_arr, rowS_arr, strsOf_cells, rowS_cells, toS, strL_st, strL_d, strL_enc, strL_up, hpN_nil, hpN_cons, hq2, rmacC, retQx, go_sem, reduceCtorEq, ↓reduceIte, Nat.reduceAdd, Nat.reduceMul, Nat.reduceSub, Nat.reduceEqDiff, Nat.reduceLT, Nat.reduceBEq, Nat.reduceBNe, Nat.reduceLeDiff, Int.reduceLE, Int.reduceLT, Int.reduceToNat, Int.reduceEq, Int.reduceAdd, UInt8.reduceToNat, UInt32.reduceToNat, UInt64.reduceToNat, UInt8.reduceOfNat, UInt32.reduceOfNat, UInt64.reduceOfNat, Fin.isValue, Int.reduceSub, Int.reduceMul, Int.reduceNeg, Int.reduceMod, Int.reduceDiv, Int.reduceTDiv, Int.reduceTMod, Int.reduceBEq, Int.reduceBNe, Nat.reduceDiv, Nat.reducePow]
      repeat' apply And.intro
      all_goals first
        | omega
        | (simp only [List.length_append, List.length_singleton]; omega)
        | (show ckDraw _; rfl)
        | skip
      refine again (n + 1) [] (by omega) (by omega) ?_
      simp only [qdI, e2, envSK, con0, conS, strsOf_arr, rowS_arr, strsOf_cells, rowS_cells, toS, strL_st, strL_d, strL_enc, strL_up, hpN_nil, hpN_cons, hq2, rmacC, go_sem, reduceCtorEq, ↓reduceIte, Nat.reduceAdd, Nat.reduceMul, Nat.reduceSub, Nat.reduceEqDiff, Nat.reduceLT, Nat.reduceBEq, Nat.reduceBNe, Nat.reduceLeDiff, Int.reduceLE, Int.reduceLT, Int.reduceToNat, Int.reduceEq, Int.reduceAdd, UInt8.reduceToNat, UInt32.reduceToNat, UInt64.reduceToNat, UInt8.reduceOfNat, UInt32.reduceOfNat, UInt64.reduceOfNat, Fin.isValue, Int.reduceSub, Int.reduceMul, Int.reduceNeg, Int.reduceMod, Int.reduceDiv, Int.reduceTDiv, Int.reduceTMod, Int.reduceBEq, Int.reduceBNe, Nat.reduceDiv, Nat.reducePow]
      all_goals first
        | trivial
        | trace_state
    · have hN : n = (z + 31) / 32 := by have := of_decide_eq_false hg; omega
      rw [← hN] at hv
      simp only [hg, hv, hol, Nat.sub_zero, envSK, con0, conS, strsOf_arr, rowS_arr, strsOf_cells, rowS_cells, toS, strL_st, strL_d, strL_enc, strL_up, hpN_nil, hpN_cons, hq2, rmacC, retQx, go_sem, reduceCtorEq, ↓reduceIte, Nat.reduceAdd, Nat.reduceMul, Nat.reduceSub, Nat.reduceEqDiff, Nat.reduceLT, Nat.reduceBEq, Nat.reduceBNe, Nat.reduceLeDiff, Int.reduceLE, Int.reduceLT, Int.reduceToNat, Int.reduceEq, Int.reduceAdd, UInt8.reduceToNat, UInt32.reduceToNat, UInt64.reduceToNat, UInt8.reduceOfNat, UInt32.reduceOfNat, UInt64.reduceOfNat, Fin.isValue, Int.reduceSub, Int.reduceMul, Int.reduceNeg, Int.reduceMod, Int.reduceDiv, Int.reduceTDiv, Int.reduceTMod, Int.reduceBEq, Int.reduceBNe, Nat.reduceDiv, Nat.reducePow]
      repeat' apply And.intro
      all_goals first
        | omega
        | skip
      refine endX [] ?_
      simp only [hv, envSK, con0, conS, strsOf_arr, rowS_arr, strsOf_cells, rowS_cells, toS, strL_st, strL_d, strL_enc, strL_up, hpN_nil, hpN_cons, hq2, rmacC, retQx, go_sem, reduceCtorEq, ↓reduceIte, Nat.reduceAdd, Nat.reduceMul, Nat.reduceSub, Nat.reduceEqDiff, Nat.reduceLT, Nat.reduceBEq, Nat.reduceBNe, Nat.reduceLeDiff, Int.reduceLE, Int.reduceLT, Int.reduceToNat, Int.reduceEq, Int.reduceAdd, UInt8.reduceToNat, UInt32.reduceToNat, UInt64.reduceToNat, UInt8.reduceOfNat, UInt32.reduceOfNat, UInt64.reduceOfNat, Fin.isValue, Int.reduceSub, Int.reduceMul, Int.reduceNeg, Int.reduceMod, Int.reduceDiv, Int.reduceTDiv, Int.reduceTMod, Int.reduceBEq, Int.reduceBNe, Nat.reduceDiv, Nat.reducePow]
      all_goals first
        | trivial
        | trace_state
end Go.Proofs.YtdkogjjebbdngaaDoor
