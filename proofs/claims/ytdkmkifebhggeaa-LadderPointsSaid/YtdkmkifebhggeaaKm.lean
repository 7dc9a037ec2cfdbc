/-
  Layer 3: the document's number out of bytes, its bytes, its power: walked, and their values.
-/
import Derived.Test.YtdkmkifebhggeaaSz
import Derived.Test.YtdkmkifebhggeaaKu
namespace Go.Proofs.Ytdkmkifebhggeaa
open Go Go.RowKit
set_option maxHeartbeats 4000000
set_option linter.unusedSimpArgs false
set_option linter.unusedVariables false
-- BYTES
def outW (R : List Nat) : Nat → List UInt8
  | 0 => []
  | j + 1 => (outW R j ++ [UInt8.ofNat (R.getD j 0 % 256)]) ++ [UInt8.ofNat (R.getD j 0 / 256)]
theorem outW_len (R : List Nat) : ∀ j, (outW R j).length = 2 * j
  | 0 => rfl
  | j + 1 => by rw [outW, List.length_append, List.length_append, outW_len R j, List.length_singleton, List.length_singleton]; omega
theorem outW_v {R : List Nat} (h : dlt 65536 R) : ∀ j, leN (outW R j) = dv 65536 (R.take j)
  | 0 => rfl
  | j + 1 => by
    have hj := h j
    rw [outW, List.append_assoc, leN_append, outW_len, outW_v h j, dv_take, show 8 * (2 * j) = 16 * j by omega, Nat.pow_mul, show (2 : Nat) ^ 16 = 65536 from rfl]
    have e : leN ([UInt8.ofNat (R.getD j 0 % 256)] ++ [UInt8.ofNat (R.getD j 0 / 256)]) = R.getD j 0 := by
      simp only [List.cons_append, List.nil_append, leN, UInt8.toNat_ofNat', Nat.reducePow]
      omega
    rw [e, Nat.mul_comm]
theorem bytes_eq {R : List Nat} {x : N5} (h : goodR R) (e : fw R = fv x) : outW R 16 = bytesF x := by
  refine leN_inj _ _ (by rw [outW_len]; rfl) ?_
  rw [outW_v h.w.lt, bytesF_v]
  have e' : vW R % p25519 = x.w % p25519 := congrArg Fin.val e
  rw [← e']
  exact (Nat.mod_eq_of_lt h.v).symm
def bInv (R : List Nat) (wa : Bool) : Nat → St
  | 0 => ⟨[(0, .c (.one (.sl 0 0 1 16))), (3, .c (.one (.val (.slice none 0 0)))), (4, .c (.one (.num 0)))], [(0, ⟨.arr Nat natL R, wa⟩)]⟩
  | j + 1 => ⟨[(0, .c (.one (.sl 0 0 1 16))), (3, .c (.one (.sl 500 0 1 (2 * (j + 1))))), (4, .c (.one (.num (j + 1 : Nat))))], [(0, ⟨.arr Nat natL R, wa⟩), (500, ⟨.arr UInt8 u8L (outW R (j + 1)), true⟩)]⟩
set_option maxRecDepth 100000 in
theorem rbytes_tri (R : List Nat) (wa : Bool) (h : goodW R) : Tri Try.prog 14 [.one (.sl 0 0 1 16)] [(0, ⟨.arr Nat natL R, wa⟩)] (.c (.one (.str (outW R 16)))) [(0, ⟨.arr Nat natL R, wa⟩)] := by
  refine tri_of (envR_ok ga0_ok 28 [0]) Try.func14 rfl rfl (rs := [.tmp 2]) rfl rfl (by simp [envR]) rfl [] ?_
  simp only [envR, con0, conN0, conN1, conN2, natsOf_arr, rowOf_arr, natsOf_cells, rowOf_cells, toN, natL_st, natL_d, natL_enc, natL_up, ga0, go_sem, reduceCtorEq, ↓reduceIte, Nat.reduceAdd, Nat.reduceMul, Nat.reduceSub, Nat.reduceEqDiff, Nat.reduceLT, Nat.reduceBEq, Nat.reduceBNe, Nat.reduceLeDiff, Int.reduceLE, Int.reduceLT, Int.reduceToNat, Int.reduceEq, Int.reduceAdd, UInt8.reduceToNat, UInt32.reduceToNat, UInt64.reduceToNat, UInt8.reduceOfNat, UInt32.reduceOfNat, UInt64.reduceOfNat, Fin.isValue, Int.reduceSub, Int.reduceMul, Int.reduceNeg, Int.reduceMod, Int.reduceDiv, Int.reduceTDiv, Int.reduceTMod, Int.reduceBEq, Int.reduceBNe, Nat.reduceDiv, Nat.reducePow]
  refine loop_inv (envR_ok ga0_ok 28 [0]) (bInv R wa) (fun j => j ≤ 16) (fun j => 16 - j) 0 [] (by omega) ?_ ?_
  · simp only [bInv, go_sem, reduceCtorEq, ↓reduceIte, Nat.reduceAdd, Nat.reduceMul, Nat.reduceSub, Nat.reduceEqDiff, Nat.reduceLT, Nat.reduceBEq, Nat.reduceBNe, Nat.reduceLeDiff, Int.reduceLE, Int.reduceLT, Int.reduceToNat, Int.reduceEq, Int.reduceAdd, UInt8.reduceToNat, UInt32.reduceToNat, UInt64.reduceToNat, UInt8.reduceOfNat, UInt32.reduceOfNat, UInt64.reduceOfNat, Fin.isValue, Int.reduceSub, Int.reduceMul, Int.reduceNeg, Int.reduceMod, Int.reduceDiv, Int.reduceTDiv, Int.reduceTMod, Int.reduceBEq, Int.reduceBNe, Nat.reduceDiv, Nat.reducePow]
    exact ⟨rfl, id⟩
  · intro j hj
    obtain ⟨h1, h2, h3⟩ := h
    have bj := h1 j
    have m1 : ((R.getD j 0 : Nat) : Int).tmod 256 = ((R.getD j 0 % 256 : Nat) : Int) := by rw [show (256 : Int) = ((256 : Nat) : Int) from rfl, ← Int.ofNat_tmod]
    have q1 : IntKind.i64.wrap (((R.getD j 0 : Nat) : Int).tdiv 256) = ((R.getD j 0 / 256 : Nat) : Int) := by
      rw [show (256 : Int) = ((256 : Nat) : Int) from rfl, ← Int.ofNat_tdiv, IntKind.wrap_i64]; omega
    have hl := outW_len R j
    rcases j with _ | j
    · have e1 : outW R (0 + 1) = [UInt8.ofNat (R.getD 0 0 % 256), UInt8.ofNat (R.getD 0 0 / 256)] := rfl
      simp only [bInv, m1, q1, by8_nat', envR, con0, conN0, conN1, conN2, natsOf_arr, rowOf_arr, natsOf_cells, rowOf_cells, toN, natL_st, natL_d, natL_enc, natL_up, ga0, go_sem, reduceCtorEq, ↓reduceIte, Nat.reduceAdd, Nat.reduceMul, Nat.reduceSub, Nat.reduceEqDiff, Nat.reduceLT, Nat.reduceBEq, Nat.reduceBNe, Nat.reduceLeDiff, Int.reduceLE, Int.reduceLT, Int.reduceToNat, Int.reduceEq, Int.reduceAdd, UInt8.reduceToNat, UInt32.reduceToNat, UInt64.reduceToNat, UInt8.reduceOfNat, UInt32.reduceOfNat, UInt64.reduceOfNat, Fin.isValue, Int.reduceSub, Int.reduceMul, Int.reduceNeg, Int.reduceMod, Int.reduceDiv, Int.reduceTDiv, Int.reduceTMod, Int.reduceBEq, Int.reduceBNe, Nat.reduceDiv, Nat.reducePow]
      repeat' apply And.intro
      all_goals first
        | omega
        | rfl
        | skip
      refine again (0 + 1) [(500, 60128)] (by omega) (by omega) ?_
      simp only [bInv, e1, envR, con0, conN0, conN1, conN2, natsOf_arr, rowOf_arr, natsOf_cells, rowOf_cells, toN, natL_st, natL_d, natL_enc, natL_up, ga0, go_sem, reduceCtorEq, ↓reduceIte, Nat.reduceAdd, Nat.reduceMul, Nat.reduceSub, Nat.reduceEqDiff, Nat.reduceLT, Nat.reduceBEq, Nat.reduceBNe, Nat.reduceLeDiff, Int.reduceLE, Int.reduceLT, Int.reduceToNat, Int.reduceEq, Int.reduceAdd, UInt8.reduceToNat, UInt32.reduceToNat, UInt64.reduceToNat, UInt8.reduceOfNat, UInt32.reduceOfNat, UInt64.reduceOfNat, Fin.isValue, Int.reduceSub, Int.reduceMul, Int.reduceNeg, Int.reduceMod, Int.reduceDiv, Int.reduceTDiv, Int.reduceTMod, Int.reduceBEq, Int.reduceBNe, Nat.reduceDiv, Nat.reducePow]
      exact ⟨rfl, id⟩
    · simp only [bInv, envR, con0, conN0, conN1, conN2, natsOf_arr, rowOf_arr, natsOf_cells, rowOf_cells, toN, natL_st, natL_d, natL_enc, natL_up, ga0, go_sem, reduceCtorEq, ↓reduceIte, Nat.reduceAdd, Nat.reduceMul, Nat.reduceSub, Nat.reduceEqDiff, Nat.reduceLT, Nat.reduceBEq, Nat.reduceBNe, Nat.reduceLeDiff, Int.reduceLE, Int.reduceLT, Int.reduceToNat, Int.reduceEq, Int.reduceAdd, UInt8.reduceToNat, UInt32.reduceToNat, UInt64.reduceToNat, UInt8.reduceOfNat, UInt32.reduceOfNat, UInt64.reduceOfNat, Fin.isValue, Int.reduceSub, Int.reduceMul, Int.reduceNeg, Int.reduceMod, Int.reduceDiv, Int.reduceTDiv, Int.reduceTMod, Int.reduceBEq, Int.reduceBNe, Nat.reduceDiv, Nat.reducePow]
      have w1 : IntKind.i64.wrap (((j + 1 : Nat) : Int) + 1) = ((j + 1 + 1 : Nat) : Int) := by rw [IntKind.wrap_i64]; omega
      refine br (fun hc => ?_) fun hc => ?_
      · have hc' := of_decide_eq_true hc
        have hq : 2 * (j + 1 + 1) = 2 * (j + 1) + 1 + 1 := by omega
        have e1 : outW R (j + 1 + 1) = (outW R (j + 1) ++ [UInt8.ofNat (R.getD (j + 1) 0 % 256)]) ++ [UInt8.ofNat (R.getD (j + 1) 0 / 256)] := rfl
        simp only [hc, m1, q1, w1, by8_nat', envR, con0, conN0, conN1, conN2, natsOf_arr, rowOf_arr, natsOf_cells, rowOf_cells, toN, natL_st, natL_d, natL_enc, natL_up, ga0, go_sem, reduceCtorEq, ↓reduceIte, Nat.reduceAdd, Nat.reduceMul, Nat.reduceSub, Nat.reduceEqDiff, Nat.reduceLT, Nat.reduceBEq, Nat.reduceBNe, Nat.reduceLeDiff, Int.reduceLE, Int.reduceLT, Int.reduceToNat, Int.reduceEq, Int.reduceAdd, UInt8.reduceToNat, UInt32.reduceToNat, UInt64.reduceToNat, UInt8.reduceOfNat, UInt32.reduceOfNat, UInt64.reduceOfNat, Fin.isValue, Int.reduceSub, Int.reduceMul, Int.reduceNeg, Int.reduceMod, Int.reduceDiv, Int.reduceTDiv, Int.reduceTMod, Int.reduceBEq, Int.reduceBNe, Nat.reduceDiv, Nat.reducePow]
        repeat' apply And.intro
        all_goals first
          | omega
          | rfl
          | (rw [List.length_append, hl]; rfl)
          | skip
        refine again (j + 1 + 1) [(500, 60128)] (by omega) (by omega) ?_
        simp only [bInv, hq, e1, envR, con0, conN0, conN1, conN2, natsOf_arr, rowOf_arr, natsOf_cells, rowOf_cells, toN, natL_st, natL_d, natL_enc, natL_up, ga0, go_sem, reduceCtorEq, ↓reduceIte, Nat.reduceAdd, Nat.reduceMul, Nat.reduceSub, Nat.reduceEqDiff, Nat.reduceLT, Nat.reduceBEq, Nat.reduceBNe, Nat.reduceLeDiff, Int.reduceLE, Int.reduceLT, Int.reduceToNat, Int.reduceEq, Int.reduceAdd, UInt8.reduceToNat, UInt32.reduceToNat, UInt64.reduceToNat, UInt8.reduceOfNat, UInt32.reduceOfNat, UInt64.reduceOfNat, Fin.isValue, Int.reduceSub, Int.reduceMul, Int.reduceNeg, Int.reduceMod, Int.reduceDiv, Int.reduceTDiv, Int.reduceTMod, Int.reduceBEq, Int.reduceBNe, Nat.reduceDiv, Nat.reducePow]
        exact ⟨rfl, id⟩
      · obtain rfl : j = 15 := by have := of_decide_eq_false hc; omega
        have ht : (outW R (15 + 1)).take (2 * (15 + 1)) = outW R 16 := List.take_of_length_le (by rw [outW_len]; exact Nat.le_refl _)
        have ht' : (outW R 16).take 32 = outW R 16 := List.take_of_length_le (by rw [outW_len]; exact Nat.le_refl _)
        have hl' : (outW R 16).length = 32 := outW_len R 16
        simp only [hc, hl', ht, ht', envR, con0, conN0, conN1, conN2, natsOf_arr, rowOf_arr, natsOf_cells, rowOf_cells, toN, natL_st, natL_d, natL_enc, natL_up, ga0, go_sem, reduceCtorEq, ↓reduceIte, Nat.reduceAdd, Nat.reduceMul, Nat.reduceSub, Nat.reduceEqDiff, Nat.reduceLT, Nat.reduceBEq, Nat.reduceBNe, Nat.reduceLeDiff, Int.reduceLE, Int.reduceLT, Int.reduceToNat, Int.reduceEq, Int.reduceAdd, UInt8.reduceToNat, UInt32.reduceToNat, UInt64.reduceToNat, UInt8.reduceOfNat, UInt32.reduceOfNat, UInt64.reduceOfNat, Fin.isValue, Int.reduceSub, Int.reduceMul, Int.reduceNeg, Int.reduceMod, Int.reduceDiv, Int.reduceTDiv, Int.reduceTMod, Int.reduceBEq, Int.reduceBNe, Nat.reduceDiv, Nat.reducePow]
        all_goals first
          | exact ⟨rfl, id⟩
          | trace_state
def rbytesF : List CV → List SObj → Option (SV × List SObj × List Prop)
  | [.one (.sl 0 0 1 16)], [o] => some (.c (.one (.str (outW (natsOf o) 16))), [], [rowOf o, goodW (natsOf o)])
  | _, _ => none
def rbytesC : Con := conQ rbytesF
theorem rbytesC_ok : ConOk Try.prog 14 rbytesC := conQ_ok Try.func14 rfl rfl fun args es v nw ob h hob => by
  unfold rbytesF at h
  split at h
  · rename_i o heq
    match es, heq with
    | [e], heq =>
      simp only [List.map_cons, List.map_nil, List.cons.injEq, and_true] at heq
      subst heq
      simp only [Option.some.injEq, Prod.mk.injEq] at h
      obtain ⟨rfl, rfl, rfl⟩ := h
      obtain ⟨o1, o2, _⟩ := hob
      exact (rbytes_tri _ e.wr o2).sim (.cons (simE_row o1 e.wr) .nil) (.cons (simE_row o1 e.wr) .nil)
  · cases h
-- OF
def ofD (s : List UInt8) : Nat → List Nat
  | 0 => []
  | j + 1 => ofD s j ++ [(s.getD (2 * j) 0).toNat + 256 * (s.getD (2 * j + 1) 0).toNat]
theorem ofD_len (s : List UInt8) : ∀ j, (ofD s j).length = j
  | 0 => rfl
  | j + 1 => by rw [ofD, List.length_append, ofD_len s j]; rfl
theorem ofD_lt (s : List UInt8) : ∀ j, dlt 65536 (ofD s j)
  | 0 => dlt_nil (by decide)
  | j + 1 => dlt_append (ofD_lt s j) (dlt_mk (by
      have h1 := (s.getD (2 * j) 0).toNat_lt
      have h2 := (s.getD (2 * j + 1) 0).toNat_lt
      omega) (dlt_nil (by decide)))
theorem ofD_v (s : List UInt8) : ∀ j, 2 * j ≤ s.length → dv 65536 (ofD s j) = leN (s.take (2 * j))
  | 0, _ => rfl
  | j + 1, h => by
    rw [ofD, dv_append, ofD_len, ofD_v s j (by omega), show 2 * (j + 1) = 2 * j + 1 + 1 by omega, leN_take _ _ (by omega), leN_take _ _ (by omega)]
    simp only [dv, Nat.mul_zero, Nat.add_zero]
    rw [show 8 * (2 * j + 1) = 16 * j + 8 by omega, show 8 * (2 * j) = 16 * j by omega, Nat.pow_add, Nat.pow_mul, show (2 : Nat) ^ 16 = 65536 from rfl, show (2 : Nat) ^ 8 = 256 from rfl]
    grind
def ofM (s : List UInt8) : List Nat := (ofD s 16).set 15 ((ofD s 16).getD 15 0 % 32768)
def ofRow (s : List UInt8) : List Nat := redRow (ofM s)
theorem ofM_good (s : List UInt8) : goodW (ofM s) := by
  have h := ofD_len s 16
  refine ⟨dlt_set (ofD_lt s 16) _ _ (by omega), ?_, ?_⟩
  · unfold ofM; rw [List.length_set]; omega
  · unfold ofM; rw [List.length_set]; omega
theorem ofM_v (s : List UInt8) (hs : s.length = 32) : dv 65536 (ofM s) = leN s % 57896044618658097711785492504343953926634992332820282019728792003956564819968 := by
  have hl := ofD_len s 16
  have hv := ofD_v s 16 (by omega)
  rw [List.take_of_length_le (by omega)] at hv
  have hset := dv_set 65536 (ofD s 16) 15 ((ofD s 16).getD 15 0 % 32768) (by omega)
  have ht := dv_take 65536 (ofD s 16) 15
  rw [dv_all 65536 (ofD s 16) 16 (by omega)] at ht
  have hlo := dv_lt (by decide : 0 < 65536) (dltT (ofD_lt s 16) 15)
  rw [List.length_take, Nat.min_eq_left (by omega)] at hlo
  unfold ofM
  rw [← hv]
  generalize (ofD s 16).getD 15 0 = x at *
  generalize dv 65536 ((ofD s 16).set 15 (x % 32768)) = S at *
  generalize dv 65536 ((ofD s 16).take 15) = L at *
  generalize dv 65536 (ofD s 16) = V at *
  simp only [Nat.reducePow] at *
  omega
theorem of_good (s : List UInt8) : goodR (ofRow s) := (red_good (ofM_good s)).1
theorem fw_of (s : List UInt8) (hs : s.length = 32) : fw (ofRow s) = fv (ofN s) := by
  rw [fv_of s hs]
  unfold fw ofRow
  rw [(red_good (ofM_good s)).2, ofM_v s hs]
  exact fn_eq.2 (Nat.mod_mod _ _)
def oInv (s : List UInt8) : Nat → St
  | 0 => ⟨[(0, .c (.one (.str s))), (3, .c (.one (.val (.slice none 0 0)))), (4, .c (.one (.num 0)))], []⟩
  | j + 1 => ⟨[(0, .c (.one (.str s))), (3, .c (.one (.sl 500 0 1 (j + 1)))), (4, .c (.one (.num (2 * (j + 1) : Nat))))], [(500, ⟨.arr Nat natL (ofD s (j + 1)), true⟩)]⟩
def gm1 : Nat → Option Con := fun f => match f with
  | 35 => some redQC
  | _ => none
theorem gm1_ok : GaOk Try.prog gm1 := fun f con h => by
  unfold gm1 at h
  split at h
  · injection h with h; subst h; exact redQC_ok
  · cases h
set_option maxRecDepth 100000 in
theorem rof_tri (s : List UInt8) (hs : s.length = 32) : Tri Try.prog 44 [.one (.str s)] [] (.c (.one (.sl 0 0 1 16))) [(0, ⟨.arr Nat natL (ofRow s), true⟩)] := by
  refine tri_ofx (envR_ok gm1_ok 31 []) Try.func44 rfl rfl (rs := [.tmp 2]) rfl rfl (by simp [envR]) rfl ?_
  simp only [retQx, envR, con0, conN0, conN1, conN2, natsOf_arr, rowOf_arr, natsOf_cells, rowOf_cells, toN, natL_st, natL_d, natL_enc, natL_up, gm1, redQC, go_sem, reduceCtorEq, ↓reduceIte, Nat.reduceAdd, Nat.reduceMul, Nat.reduceSub, Nat.reduceEqDiff, Nat.reduceLT, Nat.reduceBEq, Nat.reduceBNe, Nat.reduceLeDiff, Int.reduceLE, Int.reduceLT, Int.reduceToNat, Int.reduceEq, Int.reduceAdd, UInt8.reduceToNat, UInt32.reduceToNat, UInt64.reduceToNat, UInt8.reduceOfNat, UInt32.reduceOfNat, UInt64.reduceOfNat, Fin.isValue, Int.reduceSub, Int.reduceMul, Int.reduceNeg, Int.reduceMod, Int.reduceDiv, Int.reduceTDiv, Int.reduceTMod, Int.reduceBEq, Int.reduceBNe, Nat.reduceDiv, Nat.reducePow]
  refine loop_inv (envR_ok gm1_ok 31 []) (oInv s) (fun j => j ≤ 16) (fun j => 16 - j) 0 [] (by omega) ?_ ?_
  · simp only [oInv, go_sem, reduceCtorEq, ↓reduceIte, Nat.reduceAdd, Nat.reduceMul, Nat.reduceSub, Nat.reduceEqDiff, Nat.reduceLT, Nat.reduceBEq, Nat.reduceBNe, Nat.reduceLeDiff, Int.reduceLE, Int.reduceLT, Int.reduceToNat, Int.reduceEq, Int.reduceAdd, UInt8.reduceToNat, UInt32.reduceToNat, UInt64.reduceToNat, UInt8.reduceOfNat, UInt32.reduceOfNat, UInt64.reduceOfNat, Fin.isValue, Int.reduceSub, Int.reduceMul, Int.reduceNeg, Int.reduceMod, Int.reduceDiv, Int.reduceTDiv, Int.reduceTMod, Int.reduceBEq, Int.reduceBNe, Nat.reduceDiv, Nat.reducePow]
  · intro j hj
    have b1 := (s.getD (2 * j) 0).toNat_lt
    have b2 := (s.getD (2 * j + 1) 0).toNat_lt
    have w2 : IntKind.i64.wrap (256 * ((s.getD (2 * j + 1) 0).toNat : Int)) = ((256 * (s.getD (2 * j + 1) 0).toNat : Nat) : Int) := by rw [IntKind.wrap_i64]; omega
    have w3 : IntKind.i64.wrap (((s.getD (2 * j) 0).toNat : Int) + ((256 * (s.getD (2 * j + 1) 0).toNat : Nat) : Int)) = (((s.getD (2 * j) 0).toNat + 256 * (s.getD (2 * j + 1) 0).toNat : Nat) : Int) := by rw [IntKind.wrap_i64]; omega
    have hl := ofD_len s j
    rcases j with _ | j
    · have e1 : ofD s (0 + 1) = [(s.getD 0 0).toNat + 256 * (s.getD 1 0).toNat] := rfl
      simp only [Nat.mul_zero, Nat.zero_add] at w2 w3
      simp only [oInv, w2, w3, hs, retQx, envR, con0, conN0, conN1, conN2, natsOf_arr, rowOf_arr, natsOf_cells, rowOf_cells, toN, natL_st, natL_d, natL_enc, natL_up, gm1, redQC, go_sem, reduceCtorEq, ↓reduceIte, Nat.reduceAdd, Nat.reduceMul, Nat.reduceSub, Nat.reduceEqDiff, Nat.reduceLT, Nat.reduceBEq, Nat.reduceBNe, Nat.reduceLeDiff, Int.reduceLE, Int.reduceLT, Int.reduceToNat, Int.reduceEq, Int.reduceAdd, UInt8.reduceToNat, UInt32.reduceToNat, UInt64.reduceToNat, UInt8.reduceOfNat, UInt32.reduceOfNat, UInt64.reduceOfNat, Fin.isValue, Int.reduceSub, Int.reduceMul, Int.reduceNeg, Int.reduceMod, Int.reduceDiv, Int.reduceTDiv, Int.reduceTMod, Int.reduceBEq, Int.reduceBNe, Nat.reduceDiv, Nat.reducePow]
      repeat' apply And.intro
      all_goals first
        | omega
        | rfl
        | skip
      refine again (0 + 1) [(500, 60104)] (by omega) (by omega) ?_
      simp only [oInv, e1, envR, con0, conN0, conN1, conN2, natsOf_arr, rowOf_arr, natsOf_cells, rowOf_cells, toN, natL_st, natL_d, natL_enc, natL_up, gm1, redQC, go_sem, reduceCtorEq, ↓reduceIte, Nat.reduceAdd, Nat.reduceMul, Nat.reduceSub, Nat.reduceEqDiff, Nat.reduceLT, Nat.reduceBEq, Nat.reduceBNe, Nat.reduceLeDiff, Int.reduceLE, Int.reduceLT, Int.reduceToNat, Int.reduceEq, Int.reduceAdd, UInt8.reduceToNat, UInt32.reduceToNat, UInt64.reduceToNat, UInt8.reduceOfNat, UInt32.reduceOfNat, UInt64.reduceOfNat, Fin.isValue, Int.reduceSub, Int.reduceMul, Int.reduceNeg, Int.reduceMod, Int.reduceDiv, Int.reduceTDiv, Int.reduceTMod, Int.reduceBEq, Int.reduceBNe, Nat.reduceDiv, Nat.reducePow]
    · have w1 : IntKind.i64.wrap (((2 * (j + 1) : Nat) : Int) + 1) = ((2 * (j + 1) + 1 : Nat) : Int) := by rw [IntKind.wrap_i64]; omega
      have w4 : IntKind.i64.wrap (((2 * (j + 1) : Nat) : Int) + 2) = ((2 * (j + 1 + 1) : Nat) : Int) := by rw [IntKind.wrap_i64]; omega
      simp only [oInv, retQx, envR, con0, conN0, conN1, conN2, natsOf_arr, rowOf_arr, natsOf_cells, rowOf_cells, toN, natL_st, natL_d, natL_enc, natL_up, gm1, redQC, go_sem, reduceCtorEq, ↓reduceIte, Nat.reduceAdd, Nat.reduceMul, Nat.reduceSub, Nat.reduceEqDiff, Nat.reduceLT, Nat.reduceBEq, Nat.reduceBNe, Nat.reduceLeDiff, Int.reduceLE, Int.reduceLT, Int.reduceToNat, Int.reduceEq, Int.reduceAdd, UInt8.reduceToNat, UInt32.reduceToNat, UInt64.reduceToNat, UInt8.reduceOfNat, UInt32.reduceOfNat, UInt64.reduceOfNat, Fin.isValue, Int.reduceSub, Int.reduceMul, Int.reduceNeg, Int.reduceMod, Int.reduceDiv, Int.reduceTDiv, Int.reduceTMod, Int.reduceBEq, Int.reduceBNe, Nat.reduceDiv, Nat.reducePow]
      refine br (fun hc => ?_) fun hc => ?_
      · have hc' := of_decide_eq_true hc
        have e1 : ofD s (j + 1 + 1) = ofD s (j + 1) ++ [(s.getD (2 * (j + 1)) 0).toNat + 256 * (s.getD (2 * (j + 1) + 1) 0).toNat] := rfl
        simp only [hc, hs, w1, w2, w3, w4, retQx, envR, con0, conN0, conN1, conN2, natsOf_arr, rowOf_arr, natsOf_cells, rowOf_cells, toN, natL_st, natL_d, natL_enc, natL_up, gm1, redQC, go_sem, reduceCtorEq, ↓reduceIte, Nat.reduceAdd, Nat.reduceMul, Nat.reduceSub, Nat.reduceEqDiff, Nat.reduceLT, Nat.reduceBEq, Nat.reduceBNe, Nat.reduceLeDiff, Int.reduceLE, Int.reduceLT, Int.reduceToNat, Int.reduceEq, Int.reduceAdd, UInt8.reduceToNat, UInt32.reduceToNat, UInt64.reduceToNat, UInt8.reduceOfNat, UInt32.reduceOfNat, UInt64.reduceOfNat, Fin.isValue, Int.reduceSub, Int.reduceMul, Int.reduceNeg, Int.reduceMod, Int.reduceDiv, Int.reduceTDiv, Int.reduceTMod, Int.reduceBEq, Int.reduceBNe, Nat.reduceDiv, Nat.reducePow]
        repeat' apply And.intro
        all_goals first
          | omega
          | rfl
          | skip
        refine again (j + 1 + 1) [(500, 60104)] (by omega) (by omega) ?_
        simp only [oInv, e1, envR, con0, conN0, conN1, conN2, natsOf_arr, rowOf_arr, natsOf_cells, rowOf_cells, toN, natL_st, natL_d, natL_enc, natL_up, gm1, redQC, go_sem, reduceCtorEq, ↓reduceIte, Nat.reduceAdd, Nat.reduceMul, Nat.reduceSub, Nat.reduceEqDiff, Nat.reduceLT, Nat.reduceBEq, Nat.reduceBNe, Nat.reduceLeDiff, Int.reduceLE, Int.reduceLT, Int.reduceToNat, Int.reduceEq, Int.reduceAdd, UInt8.reduceToNat, UInt32.reduceToNat, UInt64.reduceToNat, UInt8.reduceOfNat, UInt32.reduceOfNat, UInt64.reduceOfNat, Fin.isValue, Int.reduceSub, Int.reduceMul, Int.reduceNeg, Int.reduceMod, Int.reduceDiv, Int.reduceTDiv, Int.reduceTMod, Int.reduceBEq, Int.reduceBNe, Nat.reduceDiv, Nat.reducePow]
      · obtain rfl : j = 15 := by have := of_decide_eq_false hc; omega
        have hl16 : (ofD s 16).length = 16 := ofD_len s 16
        have m1 : (((ofD s 16).getD 15 0 : Nat) : Int).tmod 32768 = (((ofD s 16).getD 15 0 % 32768 : Nat) : Int) := by rw [show (32768 : Int) = ((32768 : Nat) : Int) from rfl, ← Int.ofNat_tmod]
        have hg := ofM_good s
        cases hst : redStop (ofM s) with
        | true =>
          have hr := redRow_stop hst
          unfold ofM at hst hg hr
          simp only [hc, hl16, m1, hst, conQ, redQF, List.length_set, retQx, envR, con0, conN0, conN1, conN2, natsOf_arr, rowOf_arr, natsOf_cells, rowOf_cells, toN, natL_st, natL_d, natL_enc, natL_up, gm1, redQC, go_sem, reduceCtorEq, ↓reduceIte, Nat.reduceAdd, Nat.reduceMul, Nat.reduceSub, Nat.reduceEqDiff, Nat.reduceLT, Nat.reduceBEq, Nat.reduceBNe, Nat.reduceLeDiff, Int.reduceLE, Int.reduceLT, Int.reduceToNat, Int.reduceEq, Int.reduceAdd, UInt8.reduceToNat, UInt32.reduceToNat, UInt64.reduceToNat, UInt8.reduceOfNat, UInt32.reduceOfNat, UInt64.reduceOfNat, Fin.isValue, Int.reduceSub, Int.reduceMul, Int.reduceNeg, Int.reduceMod, Int.reduceDiv, Int.reduceTDiv, Int.reduceTMod, Int.reduceBEq, Int.reduceBNe, Nat.reduceDiv, Nat.reducePow]
          repeat' apply And.intro
          all_goals first
            | omega
            | exact hg
            | rfl
            | skip
          refine endX [(0, 500)] ?_
          simp only [ofRow, ofM, hr, envR, con0, conN0, conN1, conN2, natsOf_arr, rowOf_arr, natsOf_cells, rowOf_cells, toN, natL_st, natL_d, natL_enc, natL_up, gm1, redQC, go_sem, reduceCtorEq, ↓reduceIte, Nat.reduceAdd, Nat.reduceMul, Nat.reduceSub, Nat.reduceEqDiff, Nat.reduceLT, Nat.reduceBEq, Nat.reduceBNe, Nat.reduceLeDiff, Int.reduceLE, Int.reduceLT, Int.reduceToNat, Int.reduceEq, Int.reduceAdd, UInt8.reduceToNat, UInt32.reduceToNat, UInt64.reduceToNat, UInt8.reduceOfNat, UInt32.reduceOfNat, UInt64.reduceOfNat, Fin.isValue, Int.reduceSub, Int.reduceMul, Int.reduceNeg, Int.reduceMod, Int.reduceDiv, Int.reduceTDiv, Int.reduceTMod, Int.reduceBEq, Int.reduceBNe, Nat.reduceDiv, Nat.reducePow]
        | false =>
          unfold ofM at hst hg
          simp only [hc, hl16, m1, hst, conQ, redQF, List.length_set, retQx, envR, con0, conN0, conN1, conN2, natsOf_arr, rowOf_arr, natsOf_cells, rowOf_cells, toN, natL_st, natL_d, natL_enc, natL_up, gm1, redQC, go_sem, reduceCtorEq, ↓reduceIte, Nat.reduceAdd, Nat.reduceMul, Nat.reduceSub, Nat.reduceEqDiff, Nat.reduceLT, Nat.reduceBEq, Nat.reduceBNe, Nat.reduceLeDiff, Int.reduceLE, Int.reduceLT, Int.reduceToNat, Int.reduceEq, Int.reduceAdd, UInt8.reduceToNat, UInt32.reduceToNat, UInt64.reduceToNat, UInt8.reduceOfNat, UInt32.reduceOfNat, UInt64.reduceOfNat, Fin.isValue, Int.reduceSub, Int.reduceMul, Int.reduceNeg, Int.reduceMod, Int.reduceDiv, Int.reduceTDiv, Int.reduceTMod, Int.reduceBEq, Int.reduceBNe, Nat.reduceDiv, Nat.reducePow]
          repeat' apply And.intro
          all_goals first
            | omega
            | exact hg
            | rfl
            | skip
          refine endX [(0, 80008)] ?_
          simp only [ofRow, ofM, envR, con0, conN0, conN1, conN2, natsOf_arr, rowOf_arr, natsOf_cells, rowOf_cells, toN, natL_st, natL_d, natL_enc, natL_up, gm1, redQC, go_sem, reduceCtorEq, ↓reduceIte, Nat.reduceAdd, Nat.reduceMul, Nat.reduceSub, Nat.reduceEqDiff, Nat.reduceLT, Nat.reduceBEq, Nat.reduceBNe, Nat.reduceLeDiff, Int.reduceLE, Int.reduceLT, Int.reduceToNat, Int.reduceEq, Int.reduceAdd, UInt8.reduceToNat, UInt32.reduceToNat, UInt64.reduceToNat, UInt8.reduceOfNat, UInt32.reduceOfNat, UInt64.reduceOfNat, Fin.isValue, Int.reduceSub, Int.reduceMul, Int.reduceNeg, Int.reduceMod, Int.reduceDiv, Int.reduceTDiv, Int.reduceTMod, Int.reduceBEq, Int.reduceBNe, Nat.reduceDiv, Nat.reducePow]
def rofF : List CV → List SObj → Option (SV × List SObj × List Prop)
  | [.one (.str s)], [] => some (.c (.one (.sl 0 0 1 16)), [.arr Nat natL (ofRow s)], [s.length = 32])
  | _, _ => none
def rofC : Con := conQ rofF
theorem rofC_ok : ConOk Try.prog 44 rofC := conQ_ok Try.func44 rfl rfl fun args es v nw ob h hob => by
  unfold rofF at h
  split at h
  · rename_i z heq
    obtain rfl : es = [] := List.map_eq_nil_iff.1 heq
    simp only [Option.some.injEq, Prod.mk.injEq] at h
    obtain ⟨rfl, rfl, rfl⟩ := h
    exact rof_tri _ hob.1
  · cases h
-- POWER
def powW (a : List Nat) : Nat → List Nat → List Nat
  | 0, R => R
  | b + 1, R => powW a b (if b = 2 ∨ b = 4 then rMul R R else rMul (rMul R R) a)
def powRow (a : List Nat) : List Nat := powW a 255 (smallL 1)
theorem fw_small (n : Nat) (hn : n < 4294967296) : fw (smallL n) = Fin.ofNat p25519 n := by unfold fw; rw [(small_good n hn).2]
theorem powW_good {a : List Nat} (ha : goodR a) : ∀ (b : Nat) (R : List Nat), goodR R → goodR (powW a b R) ∧ fw (powW a b R) = vinvR (fw a) b (fw R)
  | 0, R, h => ⟨h, rfl⟩
  | b + 1, R, h => by
    rw [powW, vinvR]
    split
    · have := powW_good ha b (rMul R R) (h.mul h)
      rw [fw_mul h h] at this
      exact this
    · have := powW_good ha b (rMul (rMul R R) a) ((h.mul h).mul ha)
      rw [fw_mul (h.mul h) ha, fw_mul h h] at this
      exact this
theorem pow_good {a : List Nat} (ha : goodR a) : goodR (powRow a) ∧ fw (powRow a) = vinvR (fw a) 255 1 := by
  have := powW_good ha 255 (smallL 1) (small_good 1 (by decide)).1
  rw [fw_small 1 (by decide)] at this
  exact this
def pwInv (a : List Nat) (wa : Bool) (s : Nat × List Nat) : St := ⟨[(0, .c (.one (.sl 0 0 1 16))), (3, .c (.one (.sl 500 0 1 16))), (4, .c (.one (.num (bitN s.1))))], [(0, ⟨.arr Nat natL a, wa⟩), (500, ⟨.arr Nat natL s.2, true⟩)]⟩
def gm2 : Nat → Option Con := fun f => match f with
  | 20 => some rmulC
  | 22 => some rsmallC
  | _ => none
theorem gm2_ok : GaOk Try.prog gm2 := fun f con h => by
  unfold gm2 at h
  split at h
  · injection h with h; subst h; exact rmulC_ok
  · injection h with h; subst h; exact rsmallC_ok
  · cases h
set_option maxRecDepth 100000 in
theorem rpow_tri (a : List Nat) (wa : Bool) (ha : goodR a) : Tri Try.prog 24 [.one (.sl 0 0 1 16)] [(0, ⟨.arr Nat natL a, wa⟩)] (.c (.one (.sl 1 0 1 16))) [(0, ⟨.arr Nat natL a, wa⟩), (1, ⟨.arr Nat natL (powRow a), true⟩)] := by
  refine tri_ofx (envR_ok gm2_ok 23 [0]) Try.func24 rfl rfl (rs := [.tmp 2]) rfl rfl (by simp [envR]) rfl ?_
  simp only [conQ, rsmallF, retQx, envR, con0, conN0, conN1, conN2, natsOf_arr, rowOf_arr, natsOf_cells, rowOf_cells, toN, natL_st, natL_d, natL_enc, natL_up, gm2, rmulC, rsmallC, go_sem, reduceCtorEq, ↓reduceIte, Nat.reduceAdd, Nat.reduceMul, Nat.reduceSub, Nat.reduceEqDiff, Nat.reduceLT, Nat.reduceBEq, Nat.reduceBNe, Nat.reduceLeDiff, Int.reduceLE, Int.reduceLT, Int.reduceToNat, Int.reduceEq, Int.reduceAdd, UInt8.reduceToNat, UInt32.reduceToNat, UInt64.reduceToNat, UInt8.reduceOfNat, UInt32.reduceOfNat, UInt64.reduceOfNat, Fin.isValue, Int.reduceSub, Int.reduceMul, Int.reduceNeg, Int.reduceMod, Int.reduceDiv, Int.reduceTDiv, Int.reduceTMod, Int.reduceBEq, Int.reduceBNe, Nat.reduceDiv, Nat.reducePow]
  repeat' apply And.intro
  all_goals first
    | omega
    | rfl
    | skip
  refine loop_inv (envR_ok gm2_ok 23 [0]) (pwInv a wa) (fun s => powW a s.1 s.2 = powRow a ∧ s.1 ≤ 255 ∧ goodR s.2) (fun s => s.1) (255, smallL 1) [(500, 20000)] ⟨rfl, Nat.le_refl _, (small_good 1 (by decide)).1⟩ ?_ ?_
  · simp only [pwInv, bitN, envR, con0, conN0, conN1, conN2, natsOf_arr, rowOf_arr, natsOf_cells, rowOf_cells, toN, natL_st, natL_d, natL_enc, natL_up, gm2, rmulC, rsmallC, go_sem, reduceCtorEq, ↓reduceIte, Nat.reduceAdd, Nat.reduceMul, Nat.reduceSub, Nat.reduceEqDiff, Nat.reduceLT, Nat.reduceBEq, Nat.reduceBNe, Nat.reduceLeDiff, Int.reduceLE, Int.reduceLT, Int.reduceToNat, Int.reduceEq, Int.reduceAdd, UInt8.reduceToNat, UInt32.reduceToNat, UInt64.reduceToNat, UInt8.reduceOfNat, UInt32.reduceOfNat, UInt64.reduceOfNat, Fin.isValue, Int.reduceSub, Int.reduceMul, Int.reduceNeg, Int.reduceMod, Int.reduceDiv, Int.reduceTDiv, Int.reduceTMod, Int.reduceBEq, Int.reduceBNe, Nat.reduceDiv, Nat.reducePow]
    exact ⟨rfl, id⟩
  · rintro ⟨c, R⟩ ⟨h1, h2, h3⟩
    simp only at h3
    rcases c with _ | c
    · have hr : powRow a = R := h1.symm
      simp only [pwInv, bitN, retQx, envR, con0, conN0, conN1, conN2, natsOf_arr, rowOf_arr, natsOf_cells, rowOf_cells, toN, natL_st, natL_d, natL_enc, natL_up, gm2, rmulC, rsmallC, go_sem, reduceCtorEq, ↓reduceIte, Nat.reduceAdd, Nat.reduceMul, Nat.reduceSub, Nat.reduceEqDiff, Nat.reduceLT, Nat.reduceBEq, Nat.reduceBNe, Nat.reduceLeDiff, Int.reduceLE, Int.reduceLT, Int.reduceToNat, Int.reduceEq, Int.reduceAdd, UInt8.reduceToNat, UInt32.reduceToNat, UInt64.reduceToNat, UInt8.reduceOfNat, UInt32.reduceOfNat, UInt64.reduceOfNat, Fin.isValue, Int.reduceSub, Int.reduceMul, Int.reduceNeg, Int.reduceMod, Int.reduceDiv, Int.reduceTDiv, Int.reduceTMod, Int.reduceBEq, Int.reduceBNe, Nat.reduceDiv, Nat.reducePow]
      refine endX [(1, 500)] ?_
      simp only [hr, envR, con0, conN0, conN1, conN2, natsOf_arr, rowOf_arr, natsOf_cells, rowOf_cells, toN, natL_st, natL_d, natL_enc, natL_up, gm2, rmulC, rsmallC, go_sem, reduceCtorEq, ↓reduceIte, Nat.reduceAdd, Nat.reduceMul, Nat.reduceSub, Nat.reduceEqDiff, Nat.reduceLT, Nat.reduceBEq, Nat.reduceBNe, Nat.reduceLeDiff, Int.reduceLE, Int.reduceLT, Int.reduceToNat, Int.reduceEq, Int.reduceAdd, UInt8.reduceToNat, UInt32.reduceToNat, UInt64.reduceToNat, UInt8.reduceOfNat, UInt32.reduceOfNat, UInt64.reduceOfNat, Fin.isValue, Int.reduceSub, Int.reduceMul, Int.reduceNeg, Int.reduceMod, Int.reduceDiv, Int.reduceTDiv, Int.reduceTMod, Int.reduceBEq, Int.reduceBNe, Nat.reduceDiv, Nat.reducePow]
      exact ⟨rfl, id⟩
    · have hle' : c ≤ 254 := by have : c + 1 ≤ 255 := h2; omega
      have h0 : decide ((0 : Int) ≤ (c : Int)) = true := decide_eq_true (by omega)
      have hw := bitN_next (c := c) (by omega)
      have g2 := h3.mul h3
      have g3 := g2.mul ha
      by_cases c2 : c = 2
      · subst c2
        simp only [pwInv, bitN_succ, h0, hw, conQ, row2F, bne, retQx, envR, con0, conN0, conN1, conN2, natsOf_arr, rowOf_arr, natsOf_cells, rowOf_cells, toN, natL_st, natL_d, natL_enc, natL_up, gm2, rmulC, rsmallC, go_sem, reduceCtorEq, ↓reduceIte, Nat.reduceAdd, Nat.reduceMul, Nat.reduceSub, Nat.reduceEqDiff, Nat.reduceLT, Nat.reduceBEq, Nat.reduceBNe, Nat.reduceLeDiff, Int.reduceLE, Int.reduceLT, Int.reduceToNat, Int.reduceEq, Int.reduceAdd, UInt8.reduceToNat, UInt32.reduceToNat, UInt64.reduceToNat, UInt8.reduceOfNat, UInt32.reduceOfNat, UInt64.reduceOfNat, Fin.isValue, Int.reduceSub, Int.reduceMul, Int.reduceNeg, Int.reduceMod, Int.reduceDiv, Int.reduceTDiv, Int.reduceTMod, Int.reduceBEq, Int.reduceBNe, Nat.reduceDiv, Nat.reducePow]
        repeat' apply And.intro
        all_goals first
          | exact h3
          | exact g2
          | exact ha
          | skip
        refine again (2, rMul R R) [(500, 60016)] ⟨h1, by show 2 ≤ 255; decide, g2⟩ (by show 2 < 2 + 1; decide) ?_
        simp only [pwInv, envR, con0, conN0, conN1, conN2, natsOf_arr, rowOf_arr, natsOf_cells, rowOf_cells, toN, natL_st, natL_d, natL_enc, natL_up, gm2, rmulC, rsmallC, go_sem, reduceCtorEq, ↓reduceIte, Nat.reduceAdd, Nat.reduceMul, Nat.reduceSub, Nat.reduceEqDiff, Nat.reduceLT, Nat.reduceBEq, Nat.reduceBNe, Nat.reduceLeDiff, Int.reduceLE, Int.reduceLT, Int.reduceToNat, Int.reduceEq, Int.reduceAdd, UInt8.reduceToNat, UInt32.reduceToNat, UInt64.reduceToNat, UInt8.reduceOfNat, UInt32.reduceOfNat, UInt64.reduceOfNat, Fin.isValue, Int.reduceSub, Int.reduceMul, Int.reduceNeg, Int.reduceMod, Int.reduceDiv, Int.reduceTDiv, Int.reduceTMod, Int.reduceBEq, Int.reduceBNe, Nat.reduceDiv, Nat.reducePow]
        exact ⟨rfl, rfl, id⟩
      · by_cases c4 : c = 4
        · subst c4
          simp only [pwInv, bitN_succ, h0, hw, conQ, row2F, bne, retQx, envR, con0, conN0, conN1, conN2, natsOf_arr, rowOf_arr, natsOf_cells, rowOf_cells, toN, natL_st, natL_d, natL_enc, natL_up, gm2, rmulC, rsmallC, go_sem, reduceCtorEq, ↓reduceIte, Nat.reduceAdd, Nat.reduceMul, Nat.reduceSub, Nat.reduceEqDiff, Nat.reduceLT, Nat.reduceBEq, Nat.reduceBNe, Nat.reduceLeDiff, Int.reduceLE, Int.reduceLT, Int.reduceToNat, Int.reduceEq, Int.reduceAdd, UInt8.reduceToNat, UInt32.reduceToNat, UInt64.reduceToNat, UInt8.reduceOfNat, UInt32.reduceOfNat, UInt64.reduceOfNat, Fin.isValue, Int.reduceSub, Int.reduceMul, Int.reduceNeg, Int.reduceMod, Int.reduceDiv, Int.reduceTDiv, Int.reduceTMod, Int.reduceBEq, Int.reduceBNe, Nat.reduceDiv, Nat.reducePow]
          repeat' apply And.intro
          all_goals first
            | exact h3
            | exact g2
            | exact ha
            | skip
          refine again (4, rMul R R) [(500, 60016)] ⟨h1, by show 4 ≤ 255; decide, g2⟩ (by show 4 < 4 + 1; decide) ?_
          simp only [pwInv, envR, con0, conN0, conN1, conN2, natsOf_arr, rowOf_arr, natsOf_cells, rowOf_cells, toN, natL_st, natL_d, natL_enc, natL_up, gm2, rmulC, rsmallC, go_sem, reduceCtorEq, ↓reduceIte, Nat.reduceAdd, Nat.reduceMul, Nat.reduceSub, Nat.reduceEqDiff, Nat.reduceLT, Nat.reduceBEq, Nat.reduceBNe, Nat.reduceLeDiff, Int.reduceLE, Int.reduceLT, Int.reduceToNat, Int.reduceEq, Int.reduceAdd, UInt8.reduceToNat, UInt32.reduceToNat, UInt64.reduceToNat, UInt8.reduceOfNat, UInt32.reduceOfNat, UInt64.reduceOfNat, Fin.isValue, Int.reduceSub, Int.reduceMul, Int.reduceNeg, Int.reduceMod, Int.reduceDiv, Int.reduceTDiv, Int.reduceTMod, Int.reduceBEq, Int.reduceBNe, Nat.reduceDiv, Nat.reducePow]
          exact ⟨rfl, rfl, id⟩
        · have e2 : ((c : Int) == 2) = false := beq_eq_false_iff_ne.2 (by omega)
          have e4 : ((c : Int) == 4) = false := beq_eq_false_iff_ne.2 (by omega)
          simp only [pwInv, bitN_succ, h0, hw, e2, e4, conQ, row2F, bne, retQx, envR, con0, conN0, conN1, conN2, natsOf_arr, rowOf_arr, natsOf_cells, rowOf_cells, toN, natL_st, natL_d, natL_enc, natL_up, gm2, rmulC, rsmallC, go_sem, reduceCtorEq, ↓reduceIte, Nat.reduceAdd, Nat.reduceMul, Nat.reduceSub, Nat.reduceEqDiff, Nat.reduceLT, Nat.reduceBEq, Nat.reduceBNe, Nat.reduceLeDiff, Int.reduceLE, Int.reduceLT, Int.reduceToNat, Int.reduceEq, Int.reduceAdd, UInt8.reduceToNat, UInt32.reduceToNat, UInt64.reduceToNat, UInt8.reduceOfNat, UInt32.reduceOfNat, UInt64.reduceOfNat, Fin.isValue, Int.reduceSub, Int.reduceMul, Int.reduceNeg, Int.reduceMod, Int.reduceDiv, Int.reduceTDiv, Int.reduceTMod, Int.reduceBEq, Int.reduceBNe, Nat.reduceDiv, Nat.reducePow]
          repeat' apply And.intro
          all_goals first
            | exact h3
            | exact g2
            | exact ha
            | skip
          refine again (c, rMul (rMul R R) a) [(500, 80016)] ⟨?_, by show c ≤ 255; omega, g3⟩ (by show c < c + 1; omega) ?_
          · rw [← h1]
            show _ = powW a c (if c = 2 ∨ c = 4 then rMul R R else rMul (rMul R R) a)
            rw [if_neg (by omega)]
          · simp only [pwInv, envR, con0, conN0, conN1, conN2, natsOf_arr, rowOf_arr, natsOf_cells, rowOf_cells, toN, natL_st, natL_d, natL_enc, natL_up, gm2, rmulC, rsmallC, go_sem, reduceCtorEq, ↓reduceIte, Nat.reduceAdd, Nat.reduceMul, Nat.reduceSub, Nat.reduceEqDiff, Nat.reduceLT, Nat.reduceBEq, Nat.reduceBNe, Nat.reduceLeDiff, Int.reduceLE, Int.reduceLT, Int.reduceToNat, Int.reduceEq, Int.reduceAdd, UInt8.reduceToNat, UInt32.reduceToNat, UInt64.reduceToNat, UInt8.reduceOfNat, UInt32.reduceOfNat, UInt64.reduceOfNat, Fin.isValue, Int.reduceSub, Int.reduceMul, Int.reduceNeg, Int.reduceMod, Int.reduceDiv, Int.reduceTDiv, Int.reduceTMod, Int.reduceBEq, Int.reduceBNe, Nat.reduceDiv, Nat.reducePow]
            exact ⟨rfl, id⟩
def rpowF : List CV → List SObj → Option (SV × List SObj × List Prop)
  | [.one (.sl 0 0 1 16)], [o] => some (.c (.one (.sl 1 0 1 16)), [.arr Nat natL (powRow (natsOf o))], [rowOf o, goodR (natsOf o)])
  | _, _ => none
def rpowC : Con := conQ rpowF
theorem rpowC_ok : ConOk Try.prog 24 rpowC := conQ_ok Try.func24 rfl rfl fun args es v nw ob h hob => by
  unfold rpowF at h
  split at h
  · rename_i o heq
    match es, heq with
    | [e], heq =>
      simp only [List.map_cons, List.map_nil, List.cons.injEq, and_true] at heq
      subst heq
      simp only [Option.some.injEq, Prod.mk.injEq] at h
      obtain ⟨rfl, rfl, rfl⟩ := h
      obtain ⟨o1, o2, _⟩ := hob
      exact (rpow_tri _ e.wr o2).sim (.cons (simE_row o1 e.wr) .nil) (.cons (simE_row o1 e.wr) (.cons (.refl _) .nil))
  · cases h
end Go.Proofs.Ytdkmkifebhggeaa
