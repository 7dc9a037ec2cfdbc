/-
  Layer 6: the document's tag, walked.
-/
import Derived.Test.YthgemadhhkocgaaSz
import Derived.Test.YthgemadhhkocgaaDe
namespace Go.Proofs.Ythgemadhhkocgaa
open Go Go.RowKit
set_option maxHeartbeats 4000000
set_option linter.unusedSimpArgs false
set_option linter.unusedVariables false
def dredC : Con := conN1 fun args a => match args with
  | [.one (.sl 0 0 1 n)] => some (.c (.one (.sl 1 0 1 17)), redL a, [n = a.length, dlt 256 a, a.length ≤ 100, 17 ≤ a.length])
  | _ => none
theorem dredC_ok : ConOk Try.prog 46 dredC := conN1_ok Try.func46 rfl rfl fun args a v r ob h hob wa => by
  split at h
  · injection h with h; injection h with h1 h2; injection h2 with h2 h3; subst h1; subst h2; subst h3
    obtain ⟨rfl, o2, o3, o4, _⟩ := hob
    exact dred_tri _ _ o2 o3 o4
  · cases h
def gd6 : Nat → Option Con := fun f => match f with
  | 45 => some numberC
  | 48 => some daddC
  | 47 => some dtimesC
  | 46 => some dredC
  | _ => none
theorem gd6_ok : GaOk Try.prog gd6 := fun f con h => by
  unfold gd6 at h
  split at h
  · injection h with h; subst h; exact numberC_ok
  · injection h with h; subst h; exact daddC_ok
  · injection h with h; subst h; exact dtimesC_ok
  · injection h with h; subst h; exact dredC_ok
  · cases h
theorem tmod16 (n : Nat) : ((n : Int)).tmod 16 = ((n % 16 : Nat) : Int) := by rw [show (16 : Int) = ((16 : Nat) : Int) from rfl, ← Int.ofNat_tmod]
theorem tdiv4 (x : UInt8) : IntKind.i64.wrap (((x.toNat : Nat) : Int).tdiv 4) = ((x.toNat / 4 : Nat) : Int) := by
  have := x.toNat_lt
  rw [show (4 : Int) = ((4 : Nat) : Int) from rfl, ← Int.ofNat_tdiv, IntKind.wrap_i64]; omega
theorem mul4 (x : UInt8) : IntKind.i64.wrap (((x.toNat / 4 : Nat) : Int) * 4) = ((x.toNat / 4 * 4 : Nat) : Int) := by
  have := x.toNat_lt
  rw [IntKind.wrap_i64]; omega
theorem and15 (x : UInt8) : (x &&& 15).toNat = x.toNat % 16 := by
  rw [UInt8.toNat_and]
  show x.toNat &&& (2 ^ 4 - 1) = _
  rw [Nat.and_two_pow_sub_one_eq_mod]
theorem and252 (x : UInt8) : (x &&& 252).toNat = x.toNat / 4 * 4 := by
  have h : ∀ n : Fin 256, (n.val &&& 252) = n.val / 4 * 4 := by decide +kernel
  rw [UInt8.toNat_and]
  exact h ⟨x.toNat, x.toNat_lt⟩
theorem natL_one (x : Nat) : natL.up x 0 [.num 1] = some 1 := natL_up x 1
def toInv (k s : List UInt8) : Nat → St
  | 0 => ⟨[(7, .c (.one (.sl 180032 0 1 (hF k s).length))), (10, .c (.one (.val (.slice none 0 0)))), (11, .c (.one (.num 0)))], [(180032, ⟨.arr Nat natL (hF k s), true⟩)]⟩
  | i + 1 => ⟨[(7, .c (.one (.sl 180032 0 1 (hF k s).length))), (10, .c (.one (.sl 500 0 1 (i + 1)))), (11, .c (.one (.num (i + 1 : Nat))))], [(500, ⟨.arr UInt8 u8L (outR k s (i + 1)), true⟩), (180032, ⟨.arr Nat natL (hF k s), true⟩)]⟩
def tgInv (k s : List UInt8) (q : Nat) : St := ⟨[(0, .c (.one (.str k))), (1, .c (.one (.str s))), (5, .c (.one (.sl 20016 0 1 16))), (7, .c (.one (.sl 600 0 1 (hD k s q).length))), (8, .c (.one (.num (16 * q : Nat))))], [(600, ⟨.arr Nat natL (hD k s q), true⟩), (20016, ⟨.arr Nat natL (rD k), true⟩)]⟩
set_option maxRecDepth 100000 in
theorem refTag_tri (k s : List UInt8) (hk : k.length = 32) (hs : s.length ≤ 4096) : Tri Try.prog 27 [.one (.str k), .one (.str s)] [] (.c (.one (.str (tagL k s)))) [] := by
  have hk16 : (k.take 16).length = 16 := by rw [List.length_take]; omega
  obtain ⟨x0, x1, x2, x3, x4, x5, x6, x7, x8, x9, xa, xb, xc, xd, xe, xf, hx⟩ := split16b (k.take 16) hk16
  have hr : rD k = [x0.toNat, x1.toNat, x2.toNat, x3.toNat % 16, x4.toNat / 4 * 4, x5.toNat, x6.toNat, x7.toNat % 16, x8.toNat / 4 * 4, x9.toNat, xa.toNat, xb.toNat % 16, xc.toNat / 4 * 4, xd.toNat, xe.toNat, xf.toNat % 16] := by
    unfold rD
    rw [hx]
    simp only [clampL, natsB, List.foldl_cons, List.foldl_nil, List.set_cons_zero, List.set_cons_succ, List.getD_cons_zero, List.getD_cons_succ, List.map_cons, List.map_nil, and15, and252]
  refine tri_of (envR_ok gd6_ok 98 []) Try.func27 rfl rfl (rs := [.tmp 4]) rfl rfl (by simp [envR]) rfl [] ?_
  simp only [envR, con0, conN0, conN1, conN2, natsOf_arr, rowOf_arr, natsOf_cells, rowOf_cells, toN, natL_st, natL_d, natL_enc, natL_up, gd6, numberC, daddC, dtimesC, dredC, hk, hk16, hx, natsB, natL_one, go_sem, reduceCtorEq, ↓reduceIte, Nat.reduceAdd, Nat.reduceMul, Nat.reduceSub, Nat.reduceEqDiff, Nat.reduceLT, Nat.reduceBEq, Nat.reduceBNe, Nat.reduceLeDiff, Int.reduceLE, Int.reduceLT, Int.reduceToNat, Int.reduceEq, Int.reduceAdd, UInt8.reduceToNat, UInt32.reduceToNat, UInt64.reduceToNat, UInt8.reduceOfNat, UInt32.reduceOfNat, UInt64.reduceOfNat, Fin.isValue, Int.reduceSub, Int.reduceMul, Int.reduceNeg, Int.reduceMod, Int.reduceDiv, Int.reduceTDiv, Int.reduceTMod, Int.reduceBEq, Int.reduceBNe, Nat.reduceDiv, Nat.reducePow]
  refine loop_rounds (envR_ok gd6_ok 98 []) 17 ?_
  simp only [envR, con0, conN0, conN1, conN2, natsOf_arr, rowOf_arr, natsOf_cells, rowOf_cells, toN, natL_st, natL_d, natL_enc, natL_up, gd6, numberC, daddC, dtimesC, dredC, hk, tmod16, tdiv4, mul4, natL_one, go_sem, reduceCtorEq, ↓reduceIte, Nat.reduceAdd, Nat.reduceMul, Nat.reduceSub, Nat.reduceEqDiff, Nat.reduceLT, Nat.reduceBEq, Nat.reduceBNe, Nat.reduceLeDiff, Int.reduceLE, Int.reduceLT, Int.reduceToNat, Int.reduceEq, Int.reduceAdd, UInt8.reduceToNat, UInt32.reduceToNat, UInt64.reduceToNat, UInt8.reduceOfNat, UInt32.reduceOfNat, UInt64.reduceOfNat, Fin.isValue, Int.reduceSub, Int.reduceMul, Int.reduceNeg, Int.reduceMod, Int.reduceDiv, Int.reduceTDiv, Int.reduceTMod, Int.reduceBEq, Int.reduceBNe, Nat.reduceDiv, Nat.reducePow]
  have lr : (rD k).length = 16 := by rw [hr]; rfl
  have ltr : dlt 256 (rD k) := natsB_lt _
  refine loop_inv (envR_ok gd6_ok 98 []) (tgInv k s) (fun q => 16 * q ≤ s.length + 15) (fun q => s.length + 16 - 16 * q) 0 [(600, 100000)] (by omega) ?_ ?_
  · simp only [tgInv, hr, hD, envR, con0, conN0, conN1, conN2, natsOf_arr, rowOf_arr, natsOf_cells, rowOf_cells, toN, natL_st, natL_d, natL_enc, natL_up, gd6, numberC, daddC, dtimesC, dredC, Int.natCast_zero, go_sem, reduceCtorEq, ↓reduceIte, Nat.reduceAdd, Nat.reduceMul, Nat.reduceSub, Nat.reduceEqDiff, Nat.reduceLT, Nat.reduceBEq, Nat.reduceBNe, Nat.reduceLeDiff, Int.reduceLE, Int.reduceLT, Int.reduceToNat, Int.reduceEq, Int.reduceAdd, UInt8.reduceToNat, UInt32.reduceToNat, UInt64.reduceToNat, UInt8.reduceOfNat, UInt32.reduceOfNat, UInt64.reduceOfNat, Fin.isValue, Int.reduceSub, Int.reduceMul, Int.reduceNeg, Int.reduceMod, Int.reduceDiv, Int.reduceTDiv, Int.reduceTMod, Int.reduceBEq, Int.reduceBNe, Nat.reduceDiv, Nat.reducePow]
  · intro q hq
    obtain ⟨h1, h2, h3⟩ := hD_spec k s q
    have lh : (hD k s (q + 1)).length = 17 := by rw [hD, redL_len]
    simp only [tgInv, envR, con0, conN0, conN1, conN2, natsOf_arr, rowOf_arr, natsOf_cells, rowOf_cells, toN, natL_st, natL_d, natL_enc, natL_up, gd6, numberC, daddC, dtimesC, dredC, go_sem, reduceCtorEq, ↓reduceIte, Nat.reduceAdd, Nat.reduceMul, Nat.reduceSub, Nat.reduceEqDiff, Nat.reduceLT, Nat.reduceBEq, Nat.reduceBNe, Nat.reduceLeDiff, Int.reduceLE, Int.reduceLT, Int.reduceToNat, Int.reduceEq, Int.reduceAdd, UInt8.reduceToNat, UInt32.reduceToNat, UInt64.reduceToNat, UInt8.reduceOfNat, UInt32.reduceOfNat, UInt64.reduceOfNat, Fin.isValue, Int.reduceSub, Int.reduceMul, Int.reduceNeg, Int.reduceMod, Int.reduceDiv, Int.reduceTDiv, Int.reduceTMod, Int.reduceBEq, Int.reduceBNe, Nat.reduceDiv, Nat.reducePow]
    refine br (fun h => ?_) fun h => ?_
    · have hlt : 16 * q < s.length := by have := of_decide_eq_true h; omega
      have w1 : IntKind.i64.wrap (((16 * q : Nat) : Int) + 16) = ((16 * q + 16 : Nat) : Int) := by rw [IntKind.wrap_i64]; omega
      have hbl : (blkL s q).length = min 16 (s.length - 16 * q) := by unfold blkL; rw [List.length_take, List.length_drop]
      have hq1 : 16 * q + 16 = 16 * (q + 1) := by omega
      cases c2 : decide ((s.length : Int) < ((16 * q + 16 : Nat) : Int)) with
      | true =>
        have g2 := of_decide_eq_true c2
        have e1 : (s.drop (16 * q)).take (s.length - 16 * q) = blkL s q := by
          unfold blkL; rw [List.take_of_length_le (by rw [List.length_drop]; exact Nat.le_refl _), List.take_of_length_le (by rw [List.length_drop]; omega)]
        have la : (natsB (blkL s q) ++ [1]).length = (blkL s q).length + 1 := by rw [List.length_append, natsB_len]; rfl
        have hA := addLen_bd 256 (hD k s q) (natsB (blkL s q) ++ [1])
        rw [la] at hA
        have lA : (addL 256 (hD k s q) (natsB (blkL s q) ++ [1])).length = addLen 256 (hD k s q) (natsB (blkL s q) ++ [1]) := addL_len _ _ _
        have lT : (timesL 256 (addL 256 (hD k s q) (natsB (blkL s q) ++ [1])) (rD k)).length = addLen 256 (hD k s q) (natsB (blkL s q) ++ [1]) + 16 := by rw [timesL_len, lA, lr]
        have dB : dlt 256 (natsB (blkL s q) ++ [1]) := by rw [natsB_one]; exact natsB_lt _
        have dA : dlt 256 (addL 256 (hD k s q) (natsB (blkL s q) ++ [1])) := addL_lt (by decide) _ _
        have dT := timesL_lt (by decide : 1 < 256) dA ltr
        have nl := natsB_len (blkL s q)
        simp only [h, w1, c2, e1, natL_one, lr, redL_len, envR, con0, conN0, conN1, conN2, natsOf_arr, rowOf_arr, natsOf_cells, rowOf_cells, toN, natL_st, natL_d, natL_enc, natL_up, gd6, numberC, daddC, dtimesC, dredC, go_sem, reduceCtorEq, ↓reduceIte, Nat.reduceAdd, Nat.reduceMul, Nat.reduceSub, Nat.reduceEqDiff, Nat.reduceLT, Nat.reduceBEq, Nat.reduceBNe, Nat.reduceLeDiff, Int.reduceLE, Int.reduceLT, Int.reduceToNat, Int.reduceEq, Int.reduceAdd, UInt8.reduceToNat, UInt32.reduceToNat, UInt64.reduceToNat, UInt8.reduceOfNat, UInt32.reduceOfNat, UInt64.reduceOfNat, Fin.isValue, Int.reduceSub, Int.reduceMul, Int.reduceNeg, Int.reduceMod, Int.reduceDiv, Int.reduceTDiv, Int.reduceTMod, Int.reduceBEq, Int.reduceBNe, Nat.reduceDiv, Nat.reducePow]
        refine ⟨⟨by omega, by omega⟩, ⟨by omega, by omega⟩, ⟨nl, by omega, by omega⟩, ⟨la.symm, h1, dB, by omega, by omega, h2⟩, ⟨dA, ltr, by omega⟩, ⟨dT, by omega, by omega⟩, again (q + 1) [(600, 170088)] (by omega) (by omega) ?_⟩
        simp only [tgInv, hD, redL_len, ← hq1, envR, con0, conN0, conN1, conN2, natsOf_arr, rowOf_arr, natsOf_cells, rowOf_cells, toN, natL_st, natL_d, natL_enc, natL_up, gd6, numberC, daddC, dtimesC, dredC, go_sem, reduceCtorEq, ↓reduceIte, Nat.reduceAdd, Nat.reduceMul, Nat.reduceSub, Nat.reduceEqDiff, Nat.reduceLT, Nat.reduceBEq, Nat.reduceBNe, Nat.reduceLeDiff, Int.reduceLE, Int.reduceLT, Int.reduceToNat, Int.reduceEq, Int.reduceAdd, UInt8.reduceToNat, UInt32.reduceToNat, UInt64.reduceToNat, UInt8.reduceOfNat, UInt32.reduceOfNat, UInt64.reduceOfNat, Fin.isValue, Int.reduceSub, Int.reduceMul, Int.reduceNeg, Int.reduceMod, Int.reduceDiv, Int.reduceTDiv, Int.reduceTMod, Int.reduceBEq, Int.reduceBNe, Nat.reduceDiv, Nat.reducePow]
      | false =>
        have g2 := of_decide_eq_false c2
        have e1 : (s.drop (16 * q)).take 16 = blkL s q := rfl
        have la : (natsB (blkL s q) ++ [1]).length = (blkL s q).length + 1 := by rw [List.length_append, natsB_len]; rfl
        have hA := addLen_bd 256 (hD k s q) (natsB (blkL s q) ++ [1])
        rw [la] at hA
        have lA : (addL 256 (hD k s q) (natsB (blkL s q) ++ [1])).length = addLen 256 (hD k s q) (natsB (blkL s q) ++ [1]) := addL_len _ _ _
        have lT : (timesL 256 (addL 256 (hD k s q) (natsB (blkL s q) ++ [1])) (rD k)).length = addLen 256 (hD k s q) (natsB (blkL s q) ++ [1]) + 16 := by rw [timesL_len, lA, lr]
        have dB : dlt 256 (natsB (blkL s q) ++ [1]) := by rw [natsB_one]; exact natsB_lt _
        have dA : dlt 256 (addL 256 (hD k s q) (natsB (blkL s q) ++ [1])) := addL_lt (by decide) _ _
        have dT := timesL_lt (by decide : 1 < 256) dA ltr
        have nl := natsB_len (blkL s q)
        simp only [h, w1, c2, e1, natL_one, lr, redL_len, Nat.add_sub_cancel_left, envR, con0, conN0, conN1, conN2, natsOf_arr, rowOf_arr, natsOf_cells, rowOf_cells, toN, natL_st, natL_d, natL_enc, natL_up, gd6, numberC, daddC, dtimesC, dredC, go_sem, reduceCtorEq, ↓reduceIte, Nat.reduceAdd, Nat.reduceMul, Nat.reduceSub, Nat.reduceEqDiff, Nat.reduceLT, Nat.reduceBEq, Nat.reduceBNe, Nat.reduceLeDiff, Int.reduceLE, Int.reduceLT, Int.reduceToNat, Int.reduceEq, Int.reduceAdd, UInt8.reduceToNat, UInt32.reduceToNat, UInt64.reduceToNat, UInt8.reduceOfNat, UInt32.reduceOfNat, UInt64.reduceOfNat, Fin.isValue, Int.reduceSub, Int.reduceMul, Int.reduceNeg, Int.reduceMod, Int.reduceDiv, Int.reduceTDiv, Int.reduceTMod, Int.reduceBEq, Int.reduceBNe, Nat.reduceDiv, Nat.reducePow]
        refine ⟨⟨by omega, by omega, by omega⟩, ⟨by omega, by omega⟩, ⟨nl, by omega, by omega⟩, ⟨la.symm, h1, dB, by omega, by omega, h2⟩, ⟨dA, ltr, by omega⟩, ⟨dT, by omega, by omega⟩, again (q + 1) [(600, 170088)] (by omega) (by omega) ?_⟩
        simp only [tgInv, hD, redL_len, ← hq1, envR, con0, conN0, conN1, conN2, natsOf_arr, rowOf_arr, natsOf_cells, rowOf_cells, toN, natL_st, natL_d, natL_enc, natL_up, gd6, numberC, daddC, dtimesC, dredC, go_sem, reduceCtorEq, ↓reduceIte, Nat.reduceAdd, Nat.reduceMul, Nat.reduceSub, Nat.reduceEqDiff, Nat.reduceLT, Nat.reduceBEq, Nat.reduceBNe, Nat.reduceLeDiff, Int.reduceLE, Int.reduceLT, Int.reduceToNat, Int.reduceEq, Int.reduceAdd, UInt8.reduceToNat, UInt32.reduceToNat, UInt64.reduceToNat, UInt8.reduceOfNat, UInt32.reduceOfNat, UInt64.reduceOfNat, Fin.isValue, Int.reduceSub, Int.reduceMul, Int.reduceNeg, Int.reduceMod, Int.reduceDiv, Int.reduceTDiv, Int.reduceTMod, Int.reduceBEq, Int.reduceBNe, Nat.reduceDiv, Nat.reducePow]
    · have hQ : q = (s.length + 15) / 16 := by have := of_decide_eq_false h; omega
      have hd : (k.drop 16).length = 16 := by rw [List.length_drop]; omega
      have hFe : addL 256 (hD k s q) (natsB (k.drop 16)) = hF k s := by rw [hF, ← hQ]
      simp only [h, hk, hd, hFe, envR, con0, conN0, conN1, conN2, natsOf_arr, rowOf_arr, natsOf_cells, rowOf_cells, toN, natL_st, natL_d, natL_enc, natL_up, gd6, numberC, daddC, dtimesC, dredC, go_sem, reduceCtorEq, ↓reduceIte, Nat.reduceAdd, Nat.reduceMul, Nat.reduceSub, Nat.reduceEqDiff, Nat.reduceLT, Nat.reduceBEq, Nat.reduceBNe, Nat.reduceLeDiff, Int.reduceLE, Int.reduceLT, Int.reduceToNat, Int.reduceEq, Int.reduceAdd, UInt8.reduceToNat, UInt32.reduceToNat, UInt64.reduceToNat, UInt8.reduceOfNat, UInt32.reduceOfNat, UInt64.reduceOfNat, Fin.isValue, Int.reduceSub, Int.reduceMul, Int.reduceNeg, Int.reduceMod, Int.reduceDiv, Int.reduceTDiv, Int.reduceTMod, Int.reduceBEq, Int.reduceBNe, Nat.reduceDiv, Nat.reducePow]
      have nd := natsB_len (k.drop 16)
      refine ⟨⟨by rw [nd, hd], h1, natsB_lt _, by omega, by omega, h2⟩, ?_⟩
      have hF16 := hF_len k s hk
      refine loop_inv (envR_ok gd6_ok 98 []) (toInv k s) (fun i => i ≤ 16) (fun i => 16 - i) 0 [] (by omega) ?_ ?_
      · simp only [toInv, envR, con0, conN0, conN1, conN2, natsOf_arr, rowOf_arr, natsOf_cells, rowOf_cells, toN, natL_st, natL_d, natL_enc, natL_up, gd6, numberC, daddC, dtimesC, dredC, go_sem, reduceCtorEq, ↓reduceIte, Nat.reduceAdd, Nat.reduceMul, Nat.reduceSub, Nat.reduceEqDiff, Nat.reduceLT, Nat.reduceBEq, Nat.reduceBNe, Nat.reduceLeDiff, Int.reduceLE, Int.reduceLT, Int.reduceToNat, Int.reduceEq, Int.reduceAdd, UInt8.reduceToNat, UInt32.reduceToNat, UInt64.reduceToNat, UInt8.reduceOfNat, UInt32.reduceOfNat, UInt64.reduceOfNat, Fin.isValue, Int.reduceSub, Int.reduceMul, Int.reduceNeg, Int.reduceMod, Int.reduceDiv, Int.reduceTDiv, Int.reduceTMod, Int.reduceBEq, Int.reduceBNe, Nat.reduceDiv, Nat.reducePow]
      · intro i hi
        have hsu := outR_succ k s i
        have hol := outR_len k s i
        have h8 : by8 (((hF k s).getD i 0 : Nat) : Int) = UInt8.ofNat ((hF k s).getD i 0) := by
          unfold by8
          apply UInt8.toNat_inj.1
          simp only [UInt8.toNat_ofNat']
          omega
        rcases i with _ | i
        · have c5 : decide ((0 : Int) < ((hF k s).length : Int)) = true := decide_eq_true (by omega)
          have hs1 : outR k s 1 = [UInt8.ofNat ((hF k s).getD 0 0)] := rfl
          simp only [toInv, c5, h8, envR, con0, conN0, conN1, conN2, natsOf_arr, rowOf_arr, natsOf_cells, rowOf_cells, toN, natL_st, natL_d, natL_enc, natL_up, gd6, numberC, daddC, dtimesC, dredC, go_sem, reduceCtorEq, ↓reduceIte, Nat.reduceAdd, Nat.reduceMul, Nat.reduceSub, Nat.reduceEqDiff, Nat.reduceLT, Nat.reduceBEq, Nat.reduceBNe, Nat.reduceLeDiff, Int.reduceLE, Int.reduceLT, Int.reduceToNat, Int.reduceEq, Int.reduceAdd, UInt8.reduceToNat, UInt32.reduceToNat, UInt64.reduceToNat, UInt8.reduceOfNat, UInt32.reduceOfNat, UInt64.reduceOfNat, Fin.isValue, Int.reduceSub, Int.reduceMul, Int.reduceNeg, Int.reduceMod, Int.reduceDiv, Int.reduceTDiv, Int.reduceTMod, Int.reduceBEq, Int.reduceBNe, Nat.reduceDiv, Nat.reducePow]
          refine ⟨by omega, by omega, again (0 + 1) [(500, 260032)] (by omega) (by omega) ?_⟩
          simp only [toInv, hs1, envR, con0, conN0, conN1, conN2, natsOf_arr, rowOf_arr, natsOf_cells, rowOf_cells, toN, natL_st, natL_d, natL_enc, natL_up, gd6, numberC, daddC, dtimesC, dredC, go_sem, reduceCtorEq, ↓reduceIte, Nat.reduceAdd, Nat.reduceMul, Nat.reduceSub, Nat.reduceEqDiff, Nat.reduceLT, Nat.reduceBEq, Nat.reduceBNe, Nat.reduceLeDiff, Int.reduceLE, Int.reduceLT, Int.reduceToNat, Int.reduceEq, Int.reduceAdd, UInt8.reduceToNat, UInt32.reduceToNat, UInt64.reduceToNat, UInt8.reduceOfNat, UInt32.reduceOfNat, UInt64.reduceOfNat, Fin.isValue, Int.reduceSub, Int.reduceMul, Int.reduceNeg, Int.reduceMod, Int.reduceDiv, Int.reduceTDiv, Int.reduceTMod, Int.reduceBEq, Int.reduceBNe, Nat.reduceDiv, Nat.reducePow]
        · simp only [toInv, envR, con0, conN0, conN1, conN2, natsOf_arr, rowOf_arr, natsOf_cells, rowOf_cells, toN, natL_st, natL_d, natL_enc, natL_up, gd6, numberC, daddC, dtimesC, dredC, go_sem, reduceCtorEq, ↓reduceIte, Nat.reduceAdd, Nat.reduceMul, Nat.reduceSub, Nat.reduceEqDiff, Nat.reduceLT, Nat.reduceBEq, Nat.reduceBNe, Nat.reduceLeDiff, Int.reduceLE, Int.reduceLT, Int.reduceToNat, Int.reduceEq, Int.reduceAdd, UInt8.reduceToNat, UInt32.reduceToNat, UInt64.reduceToNat, UInt8.reduceOfNat, UInt32.reduceOfNat, UInt64.reduceOfNat, Fin.isValue, Int.reduceSub, Int.reduceMul, Int.reduceNeg, Int.reduceMod, Int.reduceDiv, Int.reduceTDiv, Int.reduceTMod, Int.reduceBEq, Int.reduceBNe, Nat.reduceDiv, Nat.reducePow]
          refine br (fun h' => ?_) fun h' => ?_
          · have g5 : i + 1 < 16 := by have := of_decide_eq_true h'; omega
            have c5 : decide (((i + 1 : Nat) : Int) < ((hF k s).length : Int)) = true := decide_eq_true (by omega)
            have w5 : IntKind.i64.wrap (((i + 1 : Nat) : Int) + 1) = ((i + 1 + 1 : Nat) : Int) := by rw [IntKind.wrap_i64]; omega
            simp only [h', c5, w5, h8, envR, con0, conN0, conN1, conN2, natsOf_arr, rowOf_arr, natsOf_cells, rowOf_cells, toN, natL_st, natL_d, natL_enc, natL_up, gd6, numberC, daddC, dtimesC, dredC, go_sem, reduceCtorEq, ↓reduceIte, Nat.reduceAdd, Nat.reduceMul, Nat.reduceSub, Nat.reduceEqDiff, Nat.reduceLT, Nat.reduceBEq, Nat.reduceBNe, Nat.reduceLeDiff, Int.reduceLE, Int.reduceLT, Int.reduceToNat, Int.reduceEq, Int.reduceAdd, UInt8.reduceToNat, UInt32.reduceToNat, UInt64.reduceToNat, UInt8.reduceOfNat, UInt32.reduceOfNat, UInt64.reduceOfNat, Fin.isValue, Int.reduceSub, Int.reduceMul, Int.reduceNeg, Int.reduceMod, Int.reduceDiv, Int.reduceTDiv, Int.reduceTMod, Int.reduceBEq, Int.reduceBNe, Nat.reduceDiv, Nat.reducePow]
            refine ⟨⟨by omega, by omega⟩, by omega, ⟨hol, by omega, by omega⟩, again (i + 1 + 1) [(500, 260032)] (by omega) (by omega) ?_⟩
            simp only [toInv, hsu, envR, con0, conN0, conN1, conN2, natsOf_arr, rowOf_arr, natsOf_cells, rowOf_cells, toN, natL_st, natL_d, natL_enc, natL_up, gd6, numberC, daddC, dtimesC, dredC, go_sem, reduceCtorEq, ↓reduceIte, Nat.reduceAdd, Nat.reduceMul, Nat.reduceSub, Nat.reduceEqDiff, Nat.reduceLT, Nat.reduceBEq, Nat.reduceBNe, Nat.reduceLeDiff, Int.reduceLE, Int.reduceLT, Int.reduceToNat, Int.reduceEq, Int.reduceAdd, UInt8.reduceToNat, UInt32.reduceToNat, UInt64.reduceToNat, UInt8.reduceOfNat, UInt32.reduceOfNat, UInt64.reduceOfNat, Fin.isValue, Int.reduceSub, Int.reduceMul, Int.reduceNeg, Int.reduceMod, Int.reduceDiv, Int.reduceTDiv, Int.reduceTMod, Int.reduceBEq, Int.reduceBNe, Nat.reduceDiv, Nat.reducePow]
          · obtain rfl : i = 15 := by have := of_decide_eq_false h'; omega
            have hr16 := tag_ref k s hk
            have ht : (outR k s 16).take 16 = tagL k s := by rw [List.take_of_length_le (by rw [outR_len]; exact Nat.le_refl _), hr16]
            have hol : (outR k s 16).length = 16 := outR_len _ _ _
            simp only [h', ht, hol, envR, con0, conN0, conN1, conN2, natsOf_arr, rowOf_arr, natsOf_cells, rowOf_cells, toN, natL_st, natL_d, natL_enc, natL_up, gd6, numberC, daddC, dtimesC, dredC, go_sem, reduceCtorEq, ↓reduceIte, Nat.reduceAdd, Nat.reduceMul, Nat.reduceSub, Nat.reduceEqDiff, Nat.reduceLT, Nat.reduceBEq, Nat.reduceBNe, Nat.reduceLeDiff, Int.reduceLE, Int.reduceLT, Int.reduceToNat, Int.reduceEq, Int.reduceAdd, UInt8.reduceToNat, UInt32.reduceToNat, UInt64.reduceToNat, UInt8.reduceOfNat, UInt32.reduceOfNat, UInt64.reduceOfNat, Fin.isValue, Int.reduceSub, Int.reduceMul, Int.reduceNeg, Int.reduceMod, Int.reduceDiv, Int.reduceTDiv, Int.reduceTMod, Int.reduceBEq, Int.reduceBNe, Nat.reduceDiv, Nat.reducePow]
end Go.Proofs.Ythgemadhhkocgaa
