/-
  Layer 2: the key of a password.
-/
import Derived.Test.YtdkogjjebbdngaaDoorSz
import Derived.Test.YtdkogjjebbdngaaDoorHo
namespace Go.Proofs.YtdkogjjebbdngaaDoor
open Go Go.RowKit
set_option maxHeartbeats 4000000
set_option linter.unusedSimpArgs false
set_option linter.unusedVariables false
set_option linter.unusedSectionVars false
def saltP (salt : List UInt8) : List UInt8 := salt ++ [0, 0, 0, 1]
def uP (pw salt : List UInt8) : Nat → List UInt8
  | 0 => saltP salt
  | n + 1 => sumM pw (uP pw salt n)
theorem uP_len (pw salt : List UInt8) (n : Nat) : (uP pw salt (n + 1)).length = 32 := rfl
def xorW (l u : List UInt8) : Nat → List UInt8
  | 0 => l
  | i + 1 => (xorW l u i).set i ((xorW l u i).getD i 0 ^^^ u.getD i 0)
theorem xorW_len (l u : List UInt8) : ∀ i, (xorW l u i).length = l.length
  | 0 => rfl
  | i + 1 => by rw [xorW, List.length_set, xorW_len l u i]
theorem xorW_zero {u : List UInt8} (hu : u.length = 32) : ∀ i, i ≤ 32 → xorW (List.replicate 32 0) u i = u.take i ++ List.replicate (32 - i) 0
  | 0, _ => rfl
  | i + 1, h => by
    have ht : (u.take i).length = i := by rw [List.length_take]; omega
    rw [xorW, xorW_zero hu i (by omega), List.getD_eq_getElem?_getD, List.getElem?_append_right (by omega), ht, Nat.sub_self, show 32 - i = (31 - i) + 1 by omega, List.replicate_succ, List.getElem?_cons_zero, List.set_append_right _ _ (by omega), ht, Nat.sub_self, List.set_cons_zero, List.take_add_one, show 32 - (i + 1) = 31 - i by omega, List.append_assoc]
    congr 1
    rw [List.getD_eq_getElem?_getD, List.getElem?_eq_getElem (by omega)]
    simp
def kP (pw salt : List UInt8) : Nat → List UInt8
  | 0 => List.replicate 32 0
  | n + 1 => xorW (kP pw salt n) (uP pw salt (n + 1)) 32
theorem kP_len (pw salt : List UInt8) : ∀ n, (kP pw salt n).length = 32
  | 0 => List.length_replicate
  | n + 1 => by rw [kP, xorW_len, kP_len pw salt n]
theorem kP_one (pw salt : List UInt8) : kP pw salt 1 = uP pw salt 1 := by
  rw [kP, kP, xorW_zero (uP_len pw salt 0) 32 (Nat.le_refl _), Nat.sub_self, List.replicate_zero, List.append_nil, List.take_of_length_le (Nat.le_of_eq (uP_len pw salt 0))]
def hp1 : Nat → Option Con := fun f => match f with
  | 15 => some macSumC
  | _ => none
theorem hp1_ok : GaOkG Tryd.prog GS hp1 := fun f con h => by
  unfold hp1 at h
  split at h
  · injection h with h; subst h; exact macSumC_ok
  · cases h
def pwO (pw salt : List UInt8) (n : Nat) (r : Int) : St := ⟨[(0, .c (.one (.str pw))), (8, .c (.one (.str (uP pw salt (n + 1))))), (9, .c (.one (.sl 500 0 1 32))), (24, .c (.one (.num r))), (25, .c (.one (.num n)))], [(500, ⟨.arr UInt8 u8L (kP pw salt (n + 1)), true⟩)]⟩
def pwI (pw salt : List UInt8) (n : Nat) (r : Int) (i : Nat) : St := ⟨[(0, .c (.one (.str pw))), (8, .c (.one (.str (uP pw salt (n + 1 + 1))))), (9, .c (.one (.sl 500 0 1 32))), (24, .c (.one (.num r))), (25, .c (.one (.num n))), (31, .c (.one (.num 32))), (32, .c (.one (.num i)))], [(500, ⟨.arr UInt8 u8L (xorW (kP pw salt (n + 1)) (uP pw salt (n + 1 + 1)) i), true⟩)]⟩
set_option maxRecDepth 100000 in
theorem password_tri (pw salt : List UInt8) (z : Nat) (h1 : pw.length ≤ 1000) (h2 : salt.length ≤ 1000) (hz : 1 ≤ z ∧ z ≤ 64) : TriG Tryd.prog GS 17 [.one (.str pw), .one (.str salt), .one (.num (z : Nat))] [] (.tup [.one (.str (kP pw salt z)), .one (.num 0)]) [] := by
  obtain ⟨z1, z2⟩ := hz
  have d1 : decide ((z : Int) < 1) = false := decide_eq_false (by omega)
  have d2 : decide ((64 : Int) < (z : Int)) = false := decide_eq_false (by omega)
  have sl : (saltP salt).length = salt.length + 4 := by unfold saltP; rw [List.length_append]; rfl
  have e0 : salt ++ [0, 0, 0, 1] = saltP salt := rfl
  have e1 : sumM pw (saltP salt) = uP pw salt 1 := rfl
  have w0 : IntKind.i64.wrap ((z : Int) - 1) = ((z - 1 : Nat) : Int) := by rw [IntKind.wrap_i64]; omega
  have ul := uP_len pw salt 0
  refine tri_ofx (envSK_ok hp1_ok 48 []) Tryd.func17 rfl rfl (rs := [.tmp 6, .tmp 7]) rfl rfl (by simp [envSK]) rfl ?_
  simp only [d1, d2, e0, e1, w0, ul, envSK, con0, conS, strsOf_arr, rowS_arr, strsOf_cells, rowS_cells, toS, strL_st, strL_d, strL_enc, strL_up, hpN_nil, hpN_cons, hp1, macSumC, retQx, go_sem, reduceCtorEq, ↓reduceIte, Nat.reduceAdd, Nat.reduceMul, Nat.reduceSub, Nat.reduceEqDiff, Nat.reduceLT, Nat.reduceBEq, Nat.reduceBNe, Nat.reduceLeDiff, Int.reduceLE, Int.reduceLT, Int.reduceToNat, Int.reduceEq, Int.reduceAdd, UInt8.reduceToNat, UInt32.reduceToNat, UInt64.reduceToNat, UInt8.reduceOfNat, UInt32.reduceOfNat, UInt64.reduceOfNat, Fin.isValue, Int.reduceSub, Int.reduceMul, Int.reduceNeg, Int.reduceMod, Int.reduceDiv, Int.reduceTDiv, Int.reduceTMod, Int.reduceBEq, Int.reduceBNe, Nat.reduceDiv, Nat.reducePow]
  repeat' apply And.intro
  all_goals first
    | omega
    | (show ckDraw _; rfl)
    | skip
  refine loop_inv (envSK_ok hp1_ok 48 []) (fun n => pwO pw salt n ((z - 1 : Nat) : Int)) (fun n => n ≤ z - 1) (fun n => z - 1 - n) 0 [(500, 50008)] (by omega) ?_ ?_
  · simp only [pwO, kP_one, envSK, con0, conS, strsOf_arr, rowS_arr, strsOf_cells, rowS_cells, toS, strL_st, strL_d, strL_enc, strL_up, hpN_nil, hpN_cons, hp1, macSumC, go_sem, reduceCtorEq, ↓reduceIte, Nat.reduceAdd, Nat.reduceMul, Nat.reduceSub, Nat.reduceEqDiff, Nat.reduceLT, Nat.reduceBEq, Nat.reduceBNe, Nat.reduceLeDiff, Int.reduceLE, Int.reduceLT, Int.reduceToNat, Int.reduceEq, Int.reduceAdd, UInt8.reduceToNat, UInt32.reduceToNat, UInt64.reduceToNat, UInt8.reduceOfNat, UInt32.reduceOfNat, UInt64.reduceOfNat, Fin.isValue, Int.reduceSub, Int.reduceMul, Int.reduceNeg, Int.reduceMod, Int.reduceDiv, Int.reduceTDiv, Int.reduceTMod, Int.reduceBEq, Int.reduceBNe, Nat.reduceDiv, Nat.reducePow]
    all_goals first
      | trivial
      | trace_state
  · intro n hn
    have un := uP_len pw salt n
    have un1 := uP_len pw salt (n + 1)
    have kn := kP_len pw salt (n + 1)
    have e2 : sumM pw (uP pw salt (n + 1)) = uP pw salt (n + 1 + 1) := rfl
    have w1 : IntKind.i64.wrap ((n : Int) + 1) = ((n + 1 : Nat) : Int) := by rw [IntKind.wrap_i64]; omega
    simp only [pwO, envSK, con0, conS, strsOf_arr, rowS_arr, strsOf_cells, rowS_cells, toS, strL_st, strL_d, strL_enc, strL_up, hpN_nil, hpN_cons, hp1, macSumC, retQx, go_sem, reduceCtorEq, ↓reduceIte, Nat.reduceAdd, Nat.reduceMul, Nat.reduceSub, Nat.reduceEqDiff, Nat.reduceLT, Nat.reduceBEq, Nat.reduceBNe, Nat.reduceLeDiff, Int.reduceLE, Int.reduceLT, Int.reduceToNat, Int.reduceEq, Int.reduceAdd, UInt8.reduceToNat, UInt32.reduceToNat, UInt64.reduceToNat, UInt8.reduceOfNat, UInt32.reduceOfNat, UInt64.reduceOfNat, Fin.isValue, Int.reduceSub, Int.reduceMul, Int.reduceNeg, Int.reduceMod, Int.reduceDiv, Int.reduceTDiv, Int.reduceTMod, Int.reduceBEq, Int.reduceBNe, Nat.reduceDiv, Nat.reducePow]
    refine br (fun hg => ?_) fun hg => ?_
    · have hg' := of_decide_eq_true hg
      simp only [hg, un, e2, envSK, con0, conS, strsOf_arr, rowS_arr, strsOf_cells, rowS_cells, toS, strL_st, strL_d, strL_enc, strL_up, hpN_nil, hpN_cons, hp1, macSumC, retQx, go_sem, reduceCtorEq, ↓reduceIte, Nat.reduceAdd, Nat.reduceMul, Nat.reduceSub, Nat.reduceEqDiff, Nat.reduceLT, Nat.reduceBEq, Nat.reduceBNe, Nat.reduceLeDiff, Int.reduceLE, Int.reduceLT, Int.reduceToNat, Int.reduceEq, Int.reduceAdd, UInt8.reduceToNat, UInt32.reduceToNat, UInt64.reduceToNat, UInt8.reduceOfNat, UInt32.reduceOfNat, UInt64.reduceOfNat, Fin.isValue, Int.reduceSub, Int.reduceMul, Int.reduceNeg, Int.reduceMod, Int.reduceDiv, Int.reduceTDiv, Int.reduceTMod, Int.reduceBEq, Int.reduceBNe, Nat.reduceDiv, Nat.reducePow]
      repeat' apply And.intro
      all_goals first
        | omega
        | (show ckDraw _; rfl)
        | skip
      trace_state
      refine loop_inv (envSK_ok hp1_ok 48 []) (pwI pw salt n ((z - 1 : Nat) : Int)) (fun i => i ≤ 32) (fun i => 32 - i) 0 [] (by omega) ?_ ?_
      · simp only [pwI, xorW, envSK, con0, conS, strsOf_arr, rowS_arr, strsOf_cells, rowS_cells, toS, strL_st, strL_d, strL_enc, strL_up, hpN_nil, hpN_cons, hp1, macSumC, go_sem, reduceCtorEq, ↓reduceIte, Nat.reduceAdd, Nat.reduceMul, Nat.reduceSub, Nat.reduceEqDiff, Nat.reduceLT, Nat.reduceBEq, Nat.reduceBNe, Nat.reduceLeDiff, Int.reduceLE, Int.reduceLT, Int.reduceToNat, Int.reduceEq, Int.reduceAdd, UInt8.reduceToNat, UInt32.reduceToNat, UInt64.reduceToNat, UInt8.reduceOfNat, UInt32.reduceOfNat, UInt64.reduceOfNat, Fin.isValue, Int.reduceSub, Int.reduceMul, Int.reduceNeg, Int.reduceMod, Int.reduceDiv, Int.reduceTDiv, Int.reduceTMod, Int.reduceBEq, Int.reduceBNe, Nat.reduceDiv, Nat.reducePow]
        all_goals first
          | trivial
          | trace_state
      · intro i hi
        have xn := xorW_len (kP pw salt (n + 1)) (uP pw salt (n + 1 + 1)) i
        rw [kn] at xn
        have w2 : IntKind.i64.wrap ((i : Int) + 1) = ((i + 1 : Nat) : Int) := by rw [IntKind.wrap_i64]; omega
        have e3 : xorW (kP pw salt (n + 1)) (uP pw salt (n + 1 + 1)) (i + 1) = (xorW (kP pw salt (n + 1)) (uP pw salt (n + 1 + 1)) i).set i ((xorW (kP pw salt (n + 1)) (uP pw salt (n + 1 + 1)) i).getD i 0 ^^^ (uP pw salt (n + 1 + 1)).getD i 0) := rfl
        simp only [pwI, envSK, con0, conS, strsOf_arr, rowS_arr, strsOf_cells, rowS_cells, toS, strL_st, strL_d, strL_enc, strL_up, hpN_nil, hpN_cons, hp1, macSumC, retQx, go_sem, reduceCtorEq, ↓reduceIte, Nat.reduceAdd, Nat.reduceMul, Nat.reduceSub, Nat.reduceEqDiff, Nat.reduceLT, Nat.reduceBEq, Nat.reduceBNe, Nat.reduceLeDiff, Int.reduceLE, Int.reduceLT, Int.reduceToNat, Int.reduceEq, Int.reduceAdd, UInt8.reduceToNat, UInt32.reduceToNat, UInt64.reduceToNat, UInt8.reduceOfNat, UInt32.reduceOfNat, UInt64.reduceOfNat, Fin.isValue, Int.reduceSub, Int.reduceMul, Int.reduceNeg, Int.reduceMod, Int.reduceDiv, Int.reduceTDiv, Int.reduceTMod, Int.reduceBEq, Int.reduceBNe, Nat.reduceDiv, Nat.reducePow]
        refine br (fun hj => ?_) fun hj => ?_
        · have hj' := of_decide_eq_true hj
          simp only [hj, w2, un1, xn, envSK, con0, conS, strsOf_arr, rowS_arr, strsOf_cells, rowS_cells, toS, strL_st, strL_d, strL_enc, strL_up, hpN_nil, hpN_cons, hp1, macSumC, retQx, go_sem, reduceCtorEq, ↓reduceIte, Nat.reduceAdd, Nat.reduceMul, Nat.reduceSub, Nat.reduceEqDiff, Nat.reduceLT, Nat.reduceBEq, Nat.reduceBNe, Nat.reduceLeDiff, Int.reduceLE, Int.reduceLT, Int.reduceToNat, Int.reduceEq, Int.reduceAdd, UInt8.reduceToNat, UInt32.reduceToNat, UInt64.reduceToNat, UInt8.reduceOfNat, UInt32.reduceOfNat, UInt64.reduceOfNat, Fin.isValue, Int.reduceSub, Int.reduceMul, Int.reduceNeg, Int.reduceMod, Int.reduceDiv, Int.reduceTDiv, Int.reduceTMod, Int.reduceBEq, Int.reduceBNe, Nat.reduceDiv, Nat.reducePow]
          repeat' apply And.intro
          all_goals first
            | omega
            | (show ckDraw _; rfl)
            | skip
          refine again (i + 1) [] (by omega) (by omega) ?_
          simp only [pwI, e3, envSK, con0, conS, strsOf_arr, rowS_arr, strsOf_cells, rowS_cells, toS, strL_st, strL_d, strL_enc, strL_up, hpN_nil, hpN_cons, hp1, macSumC, go_sem, reduceCtorEq, ↓reduceIte, Nat.reduceAdd, Nat.reduceMul, Nat.reduceSub, Nat.reduceEqDiff, Nat.reduceLT, Nat.reduceBEq, Nat.reduceBNe, Nat.reduceLeDiff, Int.reduceLE, Int.reduceLT, Int.reduceToNat, Int.reduceEq, Int.reduceAdd, UInt8.reduceToNat, UInt32.reduceToNat, UInt64.reduceToNat, UInt8.reduceOfNat, UInt32.reduceOfNat, UInt64.reduceOfNat, Fin.isValue, Int.reduceSub, Int.reduceMul, Int.reduceNeg, Int.reduceMod, Int.reduceDiv, Int.reduceTDiv, Int.reduceTMod, Int.reduceBEq, Int.reduceBNe, Nat.reduceDiv, Nat.reducePow]
          all_goals first
            | trivial
            | trace_state
        · obtain rfl : i = 32 := by have := of_decide_eq_false hj; omega
          have e4 : xorW (kP pw salt (n + 1)) (uP pw salt (n + 1 + 1)) 32 = kP pw salt (n + 1 + 1) := rfl
          simp only [hj, w1, e4, envSK, con0, conS, strsOf_arr, rowS_arr, strsOf_cells, rowS_cells, toS, strL_st, strL_d, strL_enc, strL_up, hpN_nil, hpN_cons, hp1, macSumC, retQx, go_sem, reduceCtorEq, ↓reduceIte, Nat.reduceAdd, Nat.reduceMul, Nat.reduceSub, Nat.reduceEqDiff, Nat.reduceLT, Nat.reduceBEq, Nat.reduceBNe, Nat.reduceLeDiff, Int.reduceLE, Int.reduceLT, Int.reduceToNat, Int.reduceEq, Int.reduceAdd, UInt8.reduceToNat, UInt32.reduceToNat, UInt64.reduceToNat, UInt8.reduceOfNat, UInt32.reduceOfNat, UInt64.reduceOfNat, Fin.isValue, Int.reduceSub, Int.reduceMul, Int.reduceNeg, Int.reduceMod, Int.reduceDiv, Int.reduceTDiv, Int.reduceTMod, Int.reduceBEq, Int.reduceBNe, Nat.reduceDiv, Nat.reducePow]
          refine again (n + 1) [] (by omega) (by omega) ?_
          simp only [pwO, envSK, con0, conS, strsOf_arr, rowS_arr, strsOf_cells, rowS_cells, toS, strL_st, strL_d, strL_enc, strL_up, hpN_nil, hpN_cons, hp1, macSumC, go_sem, reduceCtorEq, ↓reduceIte, Nat.reduceAdd, Nat.reduceMul, Nat.reduceSub, Nat.reduceEqDiff, Nat.reduceLT, Nat.reduceBEq, Nat.reduceBNe, Nat.reduceLeDiff, Int.reduceLE, Int.reduceLT, Int.reduceToNat, Int.reduceEq, Int.reduceAdd, UInt8.reduceToNat, UInt32.reduceToNat, UInt64.reduceToNat, UInt8.reduceOfNat, UInt32.reduceOfNat, UInt64.reduceOfNat, Fin.isValue, Int.reduceSub, Int.reduceMul, Int.reduceNeg, Int.reduceMod, Int.reduceDiv, Int.reduceTDiv, Int.reduceTMod, Int.reduceBEq, Int.reduceBNe, Nat.reduceDiv, Nat.reducePow]
          all_goals first
            | trivial
            | trace_state
    · obtain rfl : n = z - 1 := by have := of_decide_eq_false hg; omega
      have ez : z - 1 + 1 = z := by omega
      have tk : (kP pw salt z).take 32 = kP pw salt z := List.take_of_length_le (Nat.le_of_eq (kP_len pw salt z))
      rw [ez] at kn
      simp only [hg, ez, tk, kn, envSK, con0, conS, strsOf_arr, rowS_arr, strsOf_cells, rowS_cells, toS, strL_st, strL_d, strL_enc, strL_up, hpN_nil, hpN_cons, hp1, macSumC, retQx, go_sem, reduceCtorEq, ↓reduceIte, Nat.reduceAdd, Nat.reduceMul, Nat.reduceSub, Nat.reduceEqDiff, Nat.reduceLT, Nat.reduceBEq, Nat.reduceBNe, Nat.reduceLeDiff, Int.reduceLE, Int.reduceLT, Int.reduceToNat, Int.reduceEq, Int.reduceAdd, UInt8.reduceToNat, UInt32.reduceToNat, UInt64.reduceToNat, UInt8.reduceOfNat, UInt32.reduceOfNat, UInt64.reduceOfNat, Fin.isValue, Int.reduceSub, Int.reduceMul, Int.reduceNeg, Int.reduceMod, Int.reduceDiv, Int.reduceTDiv, Int.reduceTMod, Int.reduceBEq, Int.reduceBNe, Nat.reduceDiv, Nat.reducePow]
      repeat' apply And.intro
      all_goals first
        | omega
        | skip
      refine endX [] ?_
      simp only [envSK, con0, conS, strsOf_arr, rowS_arr, strsOf_cells, rowS_cells, toS, strL_st, strL_d, strL_enc, strL_up, hpN_nil, hpN_cons, hp1, macSumC, retQx, go_sem, reduceCtorEq, ↓reduceIte, Nat.reduceAdd, Nat.reduceMul, Nat.reduceSub, Nat.reduceEqDiff, Nat.reduceLT, Nat.reduceBEq, Nat.reduceBNe, Nat.reduceLeDiff, Int.reduceLE, Int.reduceLT, Int.reduceToNat, Int.reduceEq, Int.reduceAdd, UInt8.reduceToNat, UInt32.reduceToNat, UInt64.reduceToNat, UInt8.reduceOfNat, UInt32.reduceOfNat, UInt64.reduceOfNat, Fin.isValue, Int.reduceSub, Int.reduceMul, Int.reduceNeg, Int.reduceMod, Int.reduceDiv, Int.reduceTDiv, Int.reduceTMod, Int.reduceBEq, Int.reduceBNe, Nat.reduceDiv, Nat.reducePow]
      all_goals first
        | trivial
        | trace_state
set_option maxRecDepth 100000 in
theorem passwordBad_tri (pw salt : List UInt8) (z : Int) (hz : z < 1 ∨ 64 < z) : TriG Tryd.prog GS 17 [.one (.str pw), .one (.str salt), .one (.num z)] [] (.tup [.one (.str []), .one (.num 1)]) [] := by
  refine tri_ofx (envSK_ok hp1_ok 48 []) Tryd.func17 rfl rfl (rs := [.tmp 6, .tmp 7]) rfl rfl (by simp [envSK]) rfl ?_
  cases d1 : decide (z < 1) with
  | true =>
    simp only [d1, envSK, con0, conS, strsOf_arr, rowS_arr, strsOf_cells, rowS_cells, toS, strL_st, strL_d, strL_enc, strL_up, hpN_nil, hpN_cons, hp1, macSumC, retQx, go_sem, reduceCtorEq, ↓reduceIte, Nat.reduceAdd, Nat.reduceMul, Nat.reduceSub, Nat.reduceEqDiff, Nat.reduceLT, Nat.reduceBEq, Nat.reduceBNe, Nat.reduceLeDiff, Int.reduceLE, Int.reduceLT, Int.reduceToNat, Int.reduceEq, Int.reduceAdd, UInt8.reduceToNat, UInt32.reduceToNat, UInt64.reduceToNat, UInt8.reduceOfNat, UInt32.reduceOfNat, UInt64.reduceOfNat, Fin.isValue, Int.reduceSub, Int.reduceMul, Int.reduceNeg, Int.reduceMod, Int.reduceDiv, Int.reduceTDiv, Int.reduceTMod, Int.reduceBEq, Int.reduceBNe, Nat.reduceDiv, Nat.reducePow]
    refine endX [] ?_
    simp only [envSK, con0, conS, strsOf_arr, rowS_arr, strsOf_cells, rowS_cells, toS, strL_st, strL_d, strL_enc, strL_up, hpN_nil, hpN_cons, hp1, macSumC, retQx, go_sem, reduceCtorEq, ↓reduceIte, Nat.reduceAdd, Nat.reduceMul, Nat.reduceSub, Nat.reduceEqDiff, Nat.reduceLT, Nat.reduceBEq, Nat.reduceBNe, Nat.reduceLeDiff, Int.reduceLE, Int.reduceLT, Int.reduceToNat, Int.reduceEq, Int.reduceAdd, UInt8.reduceToNat, UInt32.reduceToNat, UInt64.reduceToNat, UInt8.reduceOfNat, UInt32.reduceOfNat, UInt64.reduceOfNat, Fin.isValue, Int.reduceSub, Int.reduceMul, Int.reduceNeg, Int.reduceMod, Int.reduceDiv, Int.reduceTDiv, Int.reduceTMod, Int.reduceBEq, Int.reduceBNe, Nat.reduceDiv, Nat.reducePow]
    all_goals first
      | trivial
      | trace_state
  | false =>
    have d2 : decide ((64 : Int) < z) = true := decide_eq_true (by have := of_decide_eq_false d1; omega)
    simp only [d1, d2, envSK, con0, conS, strsOf_arr, rowS_arr, strsOf_cells, rowS_cells, toS, strL_st, strL_d, strL_enc, strL_up, hpN_nil, hpN_cons, hp1, macSumC, retQx, go_sem, reduceCtorEq, ↓reduceIte, Nat.reduceAdd, Nat.reduceMul, Nat.reduceSub, Nat.reduceEqDiff, Nat.reduceLT, Nat.reduceBEq, Nat.reduceBNe, Nat.reduceLeDiff, Int.reduceLE, Int.reduceLT, Int.reduceToNat, Int.reduceEq, Int.reduceAdd, UInt8.reduceToNat, UInt32.reduceToNat, UInt64.reduceToNat, UInt8.reduceOfNat, UInt32.reduceOfNat, UInt64.reduceOfNat, Fin.isValue, Int.reduceSub, Int.reduceMul, Int.reduceNeg, Int.reduceMod, Int.reduceDiv, Int.reduceTDiv, Int.reduceTMod, Int.reduceBEq, Int.reduceBNe, Nat.reduceDiv, Nat.reducePow]
    refine endX [] ?_
    simp only [envSK, con0, conS, strsOf_arr, rowS_arr, strsOf_cells, rowS_cells, toS, strL_st, strL_d, strL_enc, strL_up, hpN_nil, hpN_cons, hp1, macSumC, retQx, go_sem, reduceCtorEq, ↓reduceIte, Nat.reduceAdd, Nat.reduceMul, Nat.reduceSub, Nat.reduceEqDiff, Nat.reduceLT, Nat.reduceBEq, Nat.reduceBNe, Nat.reduceLeDiff, Int.reduceLE, Int.reduceLT, Int.reduceToNat, Int.reduceEq, Int.reduceAdd, UInt8.reduceToNat, UInt32.reduceToNat, UInt64.reduceToNat, UInt8.reduceOfNat, UInt32.reduceOfNat, UInt64.reduceOfNat, Fin.isValue, Int.reduceSub, Int.reduceMul, Int.reduceNeg, Int.reduceMod, Int.reduceDiv, Int.reduceTDiv, Int.reduceTMod, Int.reduceBEq, Int.reduceBNe, Nat.reduceDiv, Nat.reducePow]
    all_goals first
      | trivial
      | trace_state
-- THE DOCUMENT'S
def hp2 : Nat → Option Con := fun f => match f with
  | 16 => some rmacC
  | _ => none
theorem hp2_ok : GaOkG Tryd.prog GS hp2 := fun f con h => by
  unfold hp2 at h
  split at h
  · injection h with h; subst h; exact rmacC_ok
  · cases h
theorem z32_flat : (List.replicate 32 (0 : UInt8)).flatMap u8L.enc = List.replicate 32 (AV.u8 0) := by
  rw [u8_map, List.map_replicate]
def qwO (pw salt : List UInt8) (r : Int) (n : Nat) : St := ⟨[(0, .c (.one (.str pw))), (2, .c (.one (.num r))), (7, .c (.one (.sl 500 0 1 32))), (8, .c (.one (.str (uP pw salt n)))), (9, .c (.one (.num n)))], [(500, ⟨.arr UInt8 u8L (kP pw salt n), true⟩)]⟩
def qwI (pw salt : List UInt8) (r : Int) (n : Nat) (i : Nat) : St := ⟨[(0, .c (.one (.str pw))), (2, .c (.one (.num r))), (7, .c (.one (.sl 500 0 1 32))), (8, .c (.one (.str (uP pw salt (n + 1))))), (9, .c (.one (.num n))), (10, .c (.one (.num i)))], [(500, ⟨.arr UInt8 u8L (xorW (kP pw salt n) (uP pw salt (n + 1)) i), true⟩)]⟩
set_option maxRecDepth 100000 in
theorem rpassword_tri (pw salt : List UInt8) (z : Nat) (h1 : pw.length ≤ 1000) (h2 : salt.length ≤ 1000) (hz : z ≤ 64) : TriG Tryd.prog GS 18 [.one (.str pw), .one (.str salt), .one (.num (z : Nat))] [] (.c (.one (.str (kP pw salt z)))) [] := by
  have sl : (saltP salt).length = salt.length + 4 := by unfold saltP; rw [List.length_append]; rfl
  have e0 : salt ++ [0, 0, 0, 1] = saltP salt := rfl
  have e00 : saltP salt = uP pw salt 0 := rfl
  refine tri_ofx (envSK_ok hp2_ok 41 []) Tryd.func18 rfl rfl (rs := [.tmp 6]) rfl rfl (by simp [envSK]) rfl ?_
  simp only [e0, List.length_replicate, envSK, con0, conS, strsOf_arr, rowS_arr, strsOf_cells, rowS_cells, toS, strL_st, strL_d, strL_enc, strL_up, hpN_nil, hpN_cons, hp2, rmacC, retQx, go_sem, reduceCtorEq, ↓reduceIte, Nat.reduceAdd, Nat.reduceMul, Nat.reduceSub, Nat.reduceEqDiff, Nat.reduceLT, Nat.reduceBEq, Nat.reduceBNe, Nat.reduceLeDiff, Int.reduceLE, Int.reduceLT, Int.reduceToNat, Int.reduceEq, Int.reduceAdd, UInt8.reduceToNat, UInt32.reduceToNat, UInt64.reduceToNat, UInt8.reduceOfNat, UInt32.reduceOfNat, UInt64.reduceOfNat, Fin.isValue, Int.reduceSub, Int.reduceMul, Int.reduceNeg, Int.reduceMod, Int.reduceDiv, Int.reduceTDiv, Int.reduceTMod, Int.reduceBEq, Int.reduceBNe, Nat.reduceDiv, Nat.reducePow]
  repeat' apply And.intro
  all_goals first
    | omega
    | (show ckDraw _; rfl)
    | skip
  trace_state
  refine loop_inv (envSK_ok hp2_ok 41 []) (qwO pw salt (z : Nat)) (fun n => n ≤ z) (fun n => z - n) 0 [(500, 20000)] (by omega) ?_ ?_
  · simp only [qwO, kP, z32_flat, e00, envSK, con0, conS, strsOf_arr, rowS_arr, strsOf_cells, rowS_cells, toS, strL_st, strL_d, strL_enc, strL_up, hpN_nil, hpN_cons, hp2, rmacC, go_sem, reduceCtorEq, ↓reduceIte, Nat.reduceAdd, Nat.reduceMul, Nat.reduceSub, Nat.reduceEqDiff, Nat.reduceLT, Nat.reduceBEq, Nat.reduceBNe, Nat.reduceLeDiff, Int.reduceLE, Int.reduceLT, Int.reduceToNat, Int.reduceEq, Int.reduceAdd, UInt8.reduceToNat, UInt32.reduceToNat, UInt64.reduceToNat, UInt8.reduceOfNat, UInt32.reduceOfNat, UInt64.reduceOfNat, Fin.isValue, Int.reduceSub, Int.reduceMul, Int.reduceNeg, Int.reduceMod, Int.reduceDiv, Int.reduceTDiv, Int.reduceTMod, Int.reduceBEq, Int.reduceBNe, Nat.reduceDiv, Nat.reducePow]
    all_goals first
      | trivial
      | trace_state
  · intro n hn
    have un : (uP pw salt n).length ≤ 1004 := by
      cases n with
      | zero => show (saltP salt).length ≤ 1004; omega
      | succ n => rw [uP_len]; decide
    have un1 := uP_len pw salt n
    have kn := kP_len pw salt n
    have e2 : sumM pw (uP pw salt n) = uP pw salt (n + 1) := rfl
    have w1 : IntKind.i64.wrap ((n : Int) + 1) = ((n + 1 : Nat) : Int) := by rw [IntKind.wrap_i64]; omega
    simp only [qwO, envSK, con0, conS, strsOf_arr, rowS_arr, strsOf_cells, rowS_cells, toS, strL_st, strL_d, strL_enc, strL_up, hpN_nil, hpN_cons, hp2, rmacC, retQx, go_sem, reduceCtorEq, ↓reduceIte, Nat.reduceAdd, Nat.reduceMul, Nat.reduceSub, Nat.reduceEqDiff, Nat.reduceLT, Nat.reduceBEq, Nat.reduceBNe, Nat.reduceLeDiff, Int.reduceLE, Int.reduceLT, Int.reduceToNat, Int.reduceEq, Int.reduceAdd, UInt8.reduceToNat, UInt32.reduceToNat, UInt64.reduceToNat, UInt8.reduceOfNat, UInt32.reduceOfNat, UInt64.reduceOfNat, Fin.isValue, Int.reduceSub, Int.reduceMul, Int.reduceNeg, Int.reduceMod, Int.reduceDiv, Int.reduceTDiv, Int.reduceTMod, Int.reduceBEq, Int.reduceBNe, Nat.reduceDiv, Nat.reducePow]
    refine br (fun hg => ?_) fun hg => ?_
    · have hg' := of_decide_eq_true hg
      simp only [hg, e2, envSK, con0, conS, strsOf_arr, rowS_arr, strsOf_cells, rowS_cells, toS, strL_st, strL_d, strL_enc, strL_up, hpN_nil, hpN_cons, hp2, rmacC, retQx, go_sem, reduceCtorEq, ↓reduceIte, Nat.reduceAdd, Nat.reduceMul, Nat.reduceSub, Nat.reduceEqDiff, Nat.reduceLT, Nat.reduceBEq, Nat.reduceBNe, Nat.reduceLeDiff, Int.reduceLE, Int.reduceLT, Int.reduceToNat, Int.reduceEq, Int.reduceAdd, UInt8.reduceToNat, UInt32.reduceToNat, UInt64.reduceToNat, UInt8.reduceOfNat, UInt32.reduceOfNat, UInt64.reduceOfNat, Fin.isValue, Int.reduceSub, Int.reduceMul, Int.reduceNeg, Int.reduceMod, Int.reduceDiv, Int.reduceTDiv, Int.reduceTMod, Int.reduceBEq, Int.reduceBNe, Nat.reduceDiv, Nat.reducePow]
      repeat' apply And.intro
      all_goals first
        | omega
        | (show ckDraw _; rfl)
        | skip
      refine loop_inv (envSK_ok hp2_ok 41 []) (qwI pw salt (z : Nat) n) (fun i => i ≤ 32) (fun i => 32 - i) 0 [] (by omega) ?_ ?_
      · simp only [qwI, xorW, envSK, con0, conS, strsOf_arr, rowS_arr, strsOf_cells, rowS_cells, toS, strL_st, strL_d, strL_enc, strL_up, hpN_nil, hpN_cons, hp2, rmacC, go_sem, reduceCtorEq, ↓reduceIte, Nat.reduceAdd, Nat.reduceMul, Nat.reduceSub, Nat.reduceEqDiff, Nat.reduceLT, Nat.reduceBEq, Nat.reduceBNe, Nat.reduceLeDiff, Int.reduceLE, Int.reduceLT, Int.reduceToNat, Int.reduceEq, Int.reduceAdd, UInt8.reduceToNat, UInt32.reduceToNat, UInt64.reduceToNat, UInt8.reduceOfNat, UInt32.reduceOfNat, UInt64.reduceOfNat, Fin.isValue, Int.reduceSub, Int.reduceMul, Int.reduceNeg, Int.reduceMod, Int.reduceDiv, Int.reduceTDiv, Int.reduceTMod, Int.reduceBEq, Int.reduceBNe, Nat.reduceDiv, Nat.reducePow]
        all_goals first
          | trivial
          | trace_state
      · intro i hi
        have xn := xorW_len (kP pw salt n) (uP pw salt (n + 1)) i
        rw [kn] at xn
        have w2 : IntKind.i64.wrap ((i : Int) + 1) = ((i + 1 : Nat) : Int) := by rw [IntKind.wrap_i64]; omega
        have e3 : xorW (kP pw salt n) (uP pw salt (n + 1)) (i + 1) = (xorW (kP pw salt n) (uP pw salt (n + 1)) i).set i ((xorW (kP pw salt n) (uP pw salt (n + 1)) i).getD i 0 ^^^ (uP pw salt (n + 1)).getD i 0) := rfl
        simp only [qwI, envSK, con0, conS, strsOf_arr, rowS_arr, strsOf_cells, rowS_cells, toS, strL_st, strL_d, strL_enc, strL_up, hpN_nil, hpN_cons, hp2, rmacC, retQx, go_sem, reduceCtorEq, ↓reduceIte, Nat.reduceAdd, Nat.reduceMul, Nat.reduceSub, Nat.reduceEqDiff, Nat.reduceLT, Nat.reduceBEq, Nat.reduceBNe, Nat.reduceLeDiff, Int.reduceLE, Int.reduceLT, Int.reduceToNat, Int.reduceEq, Int.reduceAdd, UInt8.reduceToNat, UInt32.reduceToNat, UInt64.reduceToNat, UInt8.reduceOfNat, UInt32.reduceOfNat, UInt64.reduceOfNat, Fin.isValue, Int.reduceSub, Int.reduceMul, Int.reduceNeg, Int.reduceMod, Int.reduceDiv, Int.reduceTDiv, Int.reduceTMod, Int.reduceBEq, Int.reduceBNe, Nat.reduceDiv, Nat.reducePow]
        refine br (fun hj => ?_) fun hj => ?_
        · have hj' := of_decide_eq_true hj
          simp only [hj, w2, un1, xn, envSK, con0, conS, strsOf_arr, rowS_arr, strsOf_cells, rowS_cells, toS, strL_st, strL_d, strL_enc, strL_up, hpN_nil, hpN_cons, hp2, rmacC, retQx, go_sem, reduceCtorEq, ↓reduceIte, Nat.reduceAdd, Nat.reduceMul, Nat.reduceSub, Nat.reduceEqDiff, Nat.reduceLT, Nat.reduceBEq, Nat.reduceBNe, Nat.reduceLeDiff, Int.reduceLE, Int.reduceLT, Int.reduceToNat, Int.reduceEq, Int.reduceAdd, UInt8.reduceToNat, UInt32.reduceToNat, UInt64.reduceToNat, UInt8.reduceOfNat, UInt32.reduceOfNat, UInt64.reduceOfNat, Fin.isValue, Int.reduceSub, Int.reduceMul, Int.reduceNeg, Int.reduceMod, Int.reduceDiv, Int.reduceTDiv, Int.reduceTMod, Int.reduceBEq, Int.reduceBNe, Nat.reduceDiv, Nat.reducePow]
          repeat' apply And.intro
          all_goals first
            | omega
            | (show ckDraw _; rfl)
            | skip
          refine again (i + 1) [] (by omega) (by omega) ?_
          simp only [qwI, e3, envSK, con0, conS, strsOf_arr, rowS_arr, strsOf_cells, rowS_cells, toS, strL_st, strL_d, strL_enc, strL_up, hpN_nil, hpN_cons, hp2, rmacC, go_sem, reduceCtorEq, ↓reduceIte, Nat.reduceAdd, Nat.reduceMul, Nat.reduceSub, Nat.reduceEqDiff, Nat.reduceLT, Nat.reduceBEq, Nat.reduceBNe, Nat.reduceLeDiff, Int.reduceLE, Int.reduceLT, Int.reduceToNat, Int.reduceEq, Int.reduceAdd, UInt8.reduceToNat, UInt32.reduceToNat, UInt64.reduceToNat, UInt8.reduceOfNat, UInt32.reduceOfNat, UInt64.reduceOfNat, Fin.isValue, Int.reduceSub, Int.reduceMul, Int.reduceNeg, Int.reduceMod, Int.reduceDiv, Int.reduceTDiv, Int.reduceTMod, Int.reduceBEq, Int.reduceBNe, Nat.reduceDiv, Nat.reducePow]
          all_goals first
            | trivial
            | trace_state
        · obtain rfl : i = 32 := by have := of_decide_eq_false hj; omega
          have e4 : xorW (kP pw salt n) (uP pw salt (n + 1)) 32 = kP pw salt (n + 1) := rfl
          simp only [hj, w1, e4, envSK, con0, conS, strsOf_arr, rowS_arr, strsOf_cells, rowS_cells, toS, strL_st, strL_d, strL_enc, strL_up, hpN_nil, hpN_cons, hp2, rmacC, retQx, go_sem, reduceCtorEq, ↓reduceIte, Nat.reduceAdd, Nat.reduceMul, Nat.reduceSub, Nat.reduceEqDiff, Nat.reduceLT, Nat.reduceBEq, Nat.reduceBNe, Nat.reduceLeDiff, Int.reduceLE, Int.reduceLT, Int.reduceToNat, Int.reduceEq, Int.reduceAdd, UInt8.reduceToNat, UInt32.reduceToNat, UInt64.reduceToNat, UInt8.reduceOfNat, UInt32.reduceOfNat, UInt64.reduceOfNat, Fin.isValue, Int.reduceSub, Int.reduceMul, Int.reduceNeg, Int.reduceMod, Int.reduceDiv, Int.reduceTDiv, Int.reduceTMod, Int.reduceBEq, Int.reduceBNe, Nat.reduceDiv, Nat.reducePow]
          refine again (n + 1) [] (by omega) (by omega) ?_
          simp only [qwO, envSK, con0, conS, strsOf_arr, rowS_arr, strsOf_cells, rowS_cells, toS, strL_st, strL_d, strL_enc, strL_up, hpN_nil, hpN_cons, hp2, rmacC, go_sem, reduceCtorEq, ↓reduceIte, Nat.reduceAdd, Nat.reduceMul, Nat.reduceSub, Nat.reduceEqDiff, Nat.reduceLT, Nat.reduceBEq, Nat.reduceBNe, Nat.reduceLeDiff, Int.reduceLE, Int.reduceLT, Int.reduceToNat, Int.reduceEq, Int.reduceAdd, UInt8.reduceToNat, UInt32.reduceToNat, UInt64.reduceToNat, UInt8.reduceOfNat, UInt32.reduceOfNat, UInt64.reduceOfNat, Fin.isValue, Int.reduceSub, Int.reduceMul, Int.reduceNeg, Int.reduceMod, Int.reduceDiv, Int.reduceTDiv, Int.reduceTMod, Int.reduceBEq, Int.reduceBNe, Nat.reduceDiv, Nat.reducePow]
          all_goals first
            | trivial
            | trace_state
    · obtain rfl : n = z := by have := of_decide_eq_false hg; omega
      have tk : (kP pw salt n).take 32 = kP pw salt n := List.take_of_length_le (Nat.le_of_eq (kP_len pw salt n))
      simp only [hg, tk, kn, envSK, con0, conS, strsOf_arr, rowS_arr, strsOf_cells, rowS_cells, toS, strL_st, strL_d, strL_enc, strL_up, hpN_nil, hpN_cons, hp2, rmacC, retQx, go_sem, reduceCtorEq, ↓reduceIte, Nat.reduceAdd, Nat.reduceMul, Nat.reduceSub, Nat.reduceEqDiff, Nat.reduceLT, Nat.reduceBEq, Nat.reduceBNe, Nat.reduceLeDiff, Int.reduceLE, Int.reduceLT, Int.reduceToNat, Int.reduceEq, Int.reduceAdd, UInt8.reduceToNat, UInt32.reduceToNat, UInt64.reduceToNat, UInt8.reduceOfNat, UInt32.reduceOfNat, UInt64.reduceOfNat, Fin.isValue, Int.reduceSub, Int.reduceMul, Int.reduceNeg, Int.reduceMod, Int.reduceDiv, Int.reduceTDiv, Int.reduceTMod, Int.reduceBEq, Int.reduceBNe, Nat.reduceDiv, Nat.reducePow]
      repeat' apply And.intro
      all_goals first
        | omega
        | skip
      refine endX [] ?_
      simp only [envSK, con0, conS, strsOf_arr, rowS_arr, strsOf_cells, rowS_cells, toS, strL_st, strL_d, strL_enc, strL_up, hpN_nil, hpN_cons, hp2, rmacC, retQx, go_sem, reduceCtorEq, ↓reduceIte, Nat.reduceAdd, Nat.reduceMul, Nat.reduceSub, Nat.reduceEqDiff, Nat.reduceLT, Nat.reduceBEq, Nat.reduceBNe, Nat.reduceLeDiff, Int.reduceLE, Int.reduceLT, Int.reduceToNat, Int.reduceEq, Int.reduceAdd, UInt8.reduceToNat, UInt32.reduceToNat, UInt64.reduceToNat, UInt8.reduceOfNat, UInt32.reduceOfNat, UInt64.reduceOfNat, Fin.isValue, Int.reduceSub, Int.reduceMul, Int.reduceNeg, Int.reduceMod, Int.reduceDiv, Int.reduceTDiv, Int.reduceTMod, Int.reduceBEq, Int.reduceBNe, Nat.reduceDiv, Nat.reducePow]
      all_goals first
        | trivial
        | trace_state
end Go.Proofs.YtdkogjjebbdngaaDoor
