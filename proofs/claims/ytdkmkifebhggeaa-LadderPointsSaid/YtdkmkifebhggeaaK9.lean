/-
  Layer 4: the document's ladder, walked; the law LadderPoints.
-/
import Derived.Test.YtdkmkifebhggeaaSz
import Derived.Test.YtdkmkifebhggeaaK3
import Derived.Test.YtdkmkifebhggeaaKo
namespace Go.Proofs.Ytdkmkifebhggeaa
open Go Go.RowKit
set_option maxHeartbeats 8000000
set_option linter.unusedSimpArgs false
set_option linter.unusedVariables false
def ptI (k : List UInt8) (x : List Nat) : Option (Nat × R4) → St
  | none => ⟨[(5, .c (.one (.str k))), (6, .c (.one (.sl 500 0 1 16))), (7, .c (.one (.sl 501 0 1 16))), (8, .c (.one (.sl 502 0 1 16))), (9, .c (.one (.sl 500 0 1 16))), (10, .c (.one (.sl 504 0 1 16))), (11, .c (.one (.num 254)))], [(500, ⟨.arr Nat natL x, true⟩), (501, ⟨.arr Nat natL (startR x).px, true⟩), (502, ⟨.arr Nat natL (startR x).pz, true⟩), (504, ⟨.arr Nat natL (startR x).qz, true⟩)]⟩
  | some (c, s) => ⟨[(5, .c (.one (.str k))), (6, .c (.one (.sl 500 0 1 16))), (7, .c (.one (.sl 501 0 1 16))), (8, .c (.one (.sl 502 0 1 16))), (9, .c (.one (.sl 503 0 1 16))), (10, .c (.one (.sl 504 0 1 16))), (11, .c (.one (.num (bitN c))))], [(500, ⟨.arr Nat natL x, true⟩), (501, ⟨.arr Nat natL s.px, true⟩), (502, ⟨.arr Nat natL s.pz, true⟩), (503, ⟨.arr Nat natL s.qx, true⟩), (504, ⟨.arr Nat natL s.qz, true⟩)]⟩
def ptJn (k : List UInt8) (x : List Nat) (s : R4) (t j : Nat) : St := ⟨[(5, .c (.one (.str k))), (6, .c (.one (.sl 500 0 1 16))), (7, .c (.one (.sl 501 0 1 16))), (8, .c (.one (.sl 502 0 1 16))), (9, .c (.one (.sl 500 0 1 16))), (10, .c (.one (.sl 504 0 1 16))), (11, .c (.one (.num t))), (12, .c (.one (.num ((k.getD (t / 8) 0).toNat / 2 ^ j : Nat)))), (13, .c (.one (.num j)))], [(500, ⟨.arr Nat natL x, true⟩), (501, ⟨.arr Nat natL s.px, true⟩), (502, ⟨.arr Nat natL s.pz, true⟩), (504, ⟨.arr Nat natL s.qz, true⟩)]⟩
def ptJs (k : List UInt8) (x : List Nat) (s : R4) (t j : Nat) : St := ⟨[(5, .c (.one (.str k))), (6, .c (.one (.sl 500 0 1 16))), (7, .c (.one (.sl 501 0 1 16))), (8, .c (.one (.sl 502 0 1 16))), (9, .c (.one (.sl 503 0 1 16))), (10, .c (.one (.sl 504 0 1 16))), (11, .c (.one (.num t))), (12, .c (.one (.num ((k.getD (t / 8) 0).toNat / 2 ^ j : Nat)))), (13, .c (.one (.num j)))], [(500, ⟨.arr Nat natL x, true⟩), (501, ⟨.arr Nat natL s.px, true⟩), (502, ⟨.arr Nat natL s.pz, true⟩), (503, ⟨.arr Nat natL s.qx, true⟩), (504, ⟨.arr Nat natL s.qz, true⟩)]⟩
def ptOk (k : List UInt8) (x : List Nat) : Option (Nat × R4) → Prop
  | none => True
  | some (c, s) => ladR x (kbit k) c s = ladR x (kbit k) 255 (startR x) ∧ c ≤ 255 ∧ good4 s
def ptMu : Option (Nat × R4) → Nat
  | none => 256
  | some (c, _) => c
def gb2 : Nat → Option Con := fun f => match f with
  | 27 => some rclampC
  | 44 => some rofC
  | 22 => some rsmallC
  | 45 => some bothC
  | 46 => some twiceC
  | 24 => some rpowC
  | 20 => some rmulC
  | 14 => some rbytesC
  | _ => none
theorem gb2_ok : GaOk Try.prog gb2 := fun f con h => by
  unfold gb2 at h
  split at h
  · injection h with h; subst h; exact rclampC_ok
  · injection h with h; subst h; exact rofC_ok
  · injection h with h; subst h; exact rsmallC_ok
  · injection h with h; subst h; exact bothC_ok
  · injection h with h; subst h; exact twiceC_ok
  · injection h with h; subst h; exact rpowC_ok
  · injection h with h; subst h; exact rmulC_ok
  · injection h with h; subst h; exact rbytesC_ok
  · cases h
set_option maxRecDepth 100000 in
theorem rpoint_tri (sc u : List UInt8) (hsc : sc.length = 32) (hu : u.length = 32) : Tri Try.prog 30 [.one (.str sc), .one (.str u)] [] (.c (.one (.str (pointR (clampK sc) u)))) [] := by
  obtain ⟨k, hk0⟩ : ∃ k, k = clampK sc := ⟨_, rfl⟩
  have hk : k.length = 32 := by rw [hk0, clampK_len]; exact hsc
  have hcl : clampR sc = k := by rw [hk0]; exact clampR_eq sc hsc
  rw [← hk0]
  have gx := of_good u
  have hres : pointR k u = outW (pointW k u) 16 := rfl
  have hpw : pointW k u = rMul (ladR (ofRow u) (kbit k) 255 (startR (ofRow u))).px (powRow (ladR (ofRow u) (kbit k) 255 (startR (ofRow u))).pz) := rfl
  have hpg := pointW_good k u
  obtain ⟨x, hx⟩ : ∃ x, x = ofRow u := ⟨_, rfl⟩
  rw [← hx] at gx hpw
  refine tri_ofx (envR_ok gb2_ok 74 []) Try.func30 rfl rfl (rs := [.tmp 4]) rfl rfl (by simp [envR]) rfl ?_
  simp only [hcl, ← hx, envR, con0, conN0, conN1, conN2, natsOf_arr, rowOf_arr, natsOf_cells, rowOf_cells, toN, natL_st, natL_d, natL_enc, natL_up, gb2, rclampC, rofC, rsmallC, bothC, twiceC, rpowC, rmulC, rbytesC, conQ, bothF, twiceF, rofF, rsmallF, row2F, rpowF, rbytesF, retQx, go_sem, reduceCtorEq, ↓reduceIte, Nat.reduceAdd, Nat.reduceMul, Nat.reduceSub, Nat.reduceEqDiff, Nat.reduceLT, Nat.reduceBEq, Nat.reduceBNe, Nat.reduceLeDiff, Int.reduceLE, Int.reduceLT, Int.reduceToNat, Int.reduceEq, Int.reduceAdd, UInt8.reduceToNat, UInt32.reduceToNat, UInt64.reduceToNat, UInt8.reduceOfNat, UInt32.reduceOfNat, UInt64.reduceOfNat, Fin.isValue, Int.reduceSub, Int.reduceMul, Int.reduceNeg, Int.reduceMod, Int.reduceDiv, Int.reduceTDiv, Int.reduceTMod, Int.reduceBEq, Int.reduceBNe, Nat.reduceDiv, Nat.reducePow]
  repeat' apply And.intro
  all_goals first
    | with_reducible assumption
    | omega
    | rfl
    | skip
  refine loop_inv (envR_ok gb2_ok 74 []) (ptI k x) (ptOk k x) ptMu none [(500, 30008), (501, 40000), (502, 40008), (504, 40024)] trivial ?_ ?_
  · simp only [ptI, startR, envR, con0, conN0, conN1, conN2, natsOf_arr, rowOf_arr, natsOf_cells, rowOf_cells, toN, natL_st, natL_d, natL_enc, natL_up, gb2, rclampC, rofC, rsmallC, bothC, twiceC, rpowC, rmulC, rbytesC, conQ, bothF, twiceF, rofF, rsmallF, row2F, rpowF, rbytesF, retQx, go_sem, reduceCtorEq, ↓reduceIte, Nat.reduceAdd, Nat.reduceMul, Nat.reduceSub, Nat.reduceEqDiff, Nat.reduceLT, Nat.reduceBEq, Nat.reduceBNe, Nat.reduceLeDiff, Int.reduceLE, Int.reduceLT, Int.reduceToNat, Int.reduceEq, Int.reduceAdd, UInt8.reduceToNat, UInt32.reduceToNat, UInt64.reduceToNat, UInt8.reduceOfNat, UInt32.reduceOfNat, UInt64.reduceOfNat, Fin.isValue, Int.reduceSub, Int.reduceMul, Int.reduceNeg, Int.reduceMod, Int.reduceDiv, Int.reduceTDiv, Int.reduceTMod, Int.reduceBEq, Int.reduceBNe, Nat.reduceDiv, Nat.reducePow]
    all_goals first
      | trivial
      | trace_state
  · rintro y hy
    rcases y with _ | ⟨c, s⟩
    · obtain ⟨s, hs⟩ : ∃ s, s = startR x := ⟨_, rfl⟩
      have hgood0 : good4 s := by rw [hs]; exact good_start gx
      have hgood := hgood0
      have hqx : s.qx = x := by rw [hs]; rfl
      have hsI : ptI k x none = ⟨[(5, .c (.one (.str k))), (6, .c (.one (.sl 500 0 1 16))), (7, .c (.one (.sl 501 0 1 16))), (8, .c (.one (.sl 502 0 1 16))), (9, .c (.one (.sl 500 0 1 16))), (10, .c (.one (.sl 504 0 1 16))), (11, .c (.one (.num (254 : Nat))))], [(500, ⟨.arr Nat natL x, true⟩), (501, ⟨.arr Nat natL s.px, true⟩), (502, ⟨.arr Nat natL s.pz, true⟩), (504, ⟨.arr Nat natL s.qz, true⟩)]⟩ := by rw [hs]; rfl
      obtain ⟨t, ht⟩ : ∃ t, t = 254 := ⟨_, rfl⟩
      rw [← ht] at hsI
      have hrun : ladR x (kbit k) t (stepR x (kbit k t) s) = ladR x (kbit k) 255 (startR x) := by rw [hs, ht]; rfl
      rw [hsI]
      have hd := tdiv8 t (by omega)
      have hm := tmod8 t
      have h0 : decide ((0 : Int) ≤ (t : Int)) = true := decide_eq_true (by omega)
      have hw := bitN_next (c := t) (by omega)
      have hbl := (k.getD (t / 8) 0).toNat_lt
      simp only [h0, hd, hm, hk, envR, con0, conN0, conN1, conN2, natsOf_arr, rowOf_arr, natsOf_cells, rowOf_cells, toN, natL_st, natL_d, natL_enc, natL_up, gb2, rclampC, rofC, rsmallC, bothC, twiceC, rpowC, rmulC, rbytesC, conQ, bothF, twiceF, rofF, rsmallF, row2F, rpowF, rbytesF, retQx, go_sem, reduceCtorEq, ↓reduceIte, Nat.reduceAdd, Nat.reduceMul, Nat.reduceSub, Nat.reduceEqDiff, Nat.reduceLT, Nat.reduceBEq, Nat.reduceBNe, Nat.reduceLeDiff, Int.reduceLE, Int.reduceLT, Int.reduceToNat, Int.reduceEq, Int.reduceAdd, UInt8.reduceToNat, UInt32.reduceToNat, UInt64.reduceToNat, UInt8.reduceOfNat, UInt32.reduceOfNat, UInt64.reduceOfNat, Fin.isValue, Int.reduceSub, Int.reduceMul, Int.reduceNeg, Int.reduceMod, Int.reduceDiv, Int.reduceTDiv, Int.reduceTMod, Int.reduceBEq, Int.reduceBNe, Nat.reduceDiv, Nat.reducePow]
      repeat' apply And.intro
      all_goals first
        | omega
        | rfl
        | skip
      refine loop_inv (envR_ok gb2_ok 74 []) (ptJn k x s t) (fun j => j ≤ t % 8) (fun j => t % 8 - j) 0 [] (Nat.zero_le _) ?_ ?_
      · have hz : (k.getD (t / 8) 0).toNat / 2 ^ 0 = (k.getD (t / 8) 0).toNat := by rw [Nat.pow_zero, Nat.div_one]
        simp only [ptJn, hz, envR, con0, conN0, conN1, conN2, natsOf_arr, rowOf_arr, natsOf_cells, rowOf_cells, toN, natL_st, natL_d, natL_enc, natL_up, gb2, rclampC, rofC, rsmallC, bothC, twiceC, rpowC, rmulC, rbytesC, conQ, bothF, twiceF, rofF, rsmallF, row2F, rpowF, rbytesF, retQx, go_sem, reduceCtorEq, ↓reduceIte, Nat.reduceAdd, Nat.reduceMul, Nat.reduceSub, Nat.reduceEqDiff, Nat.reduceLT, Nat.reduceBEq, Nat.reduceBNe, Nat.reduceLeDiff, Int.reduceLE, Int.reduceLT, Int.reduceToNat, Int.reduceEq, Int.reduceAdd, UInt8.reduceToNat, UInt32.reduceToNat, UInt64.reduceToNat, UInt8.reduceOfNat, UInt32.reduceOfNat, UInt64.reduceOfNat, Fin.isValue, Int.reduceSub, Int.reduceMul, Int.reduceNeg, Int.reduceMod, Int.reduceDiv, Int.reduceTDiv, Int.reduceTMod, Int.reduceBEq, Int.reduceBNe, Nat.reduceDiv, Nat.reducePow]
      · intro j hj
        have w1 : IntKind.i64.wrap ((j : Int) + 1) = ((j + 1 : Nat) : Int) := by rw [IntKind.wrap_i64]; omega
        have hle : (k.getD (t / 8) 0).toNat / 2 ^ j ≤ (k.getD (t / 8) 0).toNat := Nat.div_le_self _ _
        have w2 : IntKind.i64.wrap ((((k.getD (t / 8) 0).toNat / 2 ^ j : Nat) : Int).tdiv 2) = (((k.getD (t / 8) 0).toNat / 2 ^ (j + 1) : Nat) : Int) := by
          have hq : (k.getD (t / 8) 0).toNat / 2 ^ (j + 1) ≤ 255 := Nat.le_trans (Nat.div_le_self _ _) (by omega)
          rw [show (2 : Int) = ((2 : Nat) : Int) from rfl, ← Int.ofNat_tdiv, Nat.div_div_eq_div_mul, show 2 ^ j * 2 = 2 ^ (j + 1) from rfl, IntKind.wrap_i64]
          generalize (k.getD (t / 8) 0).toNat / 2 ^ (j + 1) = q at hq ⊢
          omega
        simp only [ptJn, hm, envR, con0, conN0, conN1, conN2, natsOf_arr, rowOf_arr, natsOf_cells, rowOf_cells, toN, natL_st, natL_d, natL_enc, natL_up, gb2, rclampC, rofC, rsmallC, bothC, twiceC, rpowC, rmulC, rbytesC, conQ, bothF, twiceF, rofF, rsmallF, row2F, rpowF, rbytesF, retQx, go_sem, reduceCtorEq, ↓reduceIte, Nat.reduceAdd, Nat.reduceMul, Nat.reduceSub, Nat.reduceEqDiff, Nat.reduceLT, Nat.reduceBEq, Nat.reduceBNe, Nat.reduceLeDiff, Int.reduceLE, Int.reduceLT, Int.reduceToNat, Int.reduceEq, Int.reduceAdd, UInt8.reduceToNat, UInt32.reduceToNat, UInt64.reduceToNat, UInt8.reduceOfNat, UInt32.reduceOfNat, UInt64.reduceOfNat, Fin.isValue, Int.reduceSub, Int.reduceMul, Int.reduceNeg, Int.reduceMod, Int.reduceDiv, Int.reduceTDiv, Int.reduceTMod, Int.reduceBEq, Int.reduceBNe, Nat.reduceDiv, Nat.reducePow]
        refine br (fun hc => ?_) fun hc => ?_
        · have hc' := of_decide_eq_true hc
          simp only [hc, w1, w2, envR, con0, conN0, conN1, conN2, natsOf_arr, rowOf_arr, natsOf_cells, rowOf_cells, toN, natL_st, natL_d, natL_enc, natL_up, gb2, rclampC, rofC, rsmallC, bothC, twiceC, rpowC, rmulC, rbytesC, conQ, bothF, twiceF, rofF, rsmallF, row2F, rpowF, rbytesF, retQx, go_sem, reduceCtorEq, ↓reduceIte, Nat.reduceAdd, Nat.reduceMul, Nat.reduceSub, Nat.reduceEqDiff, Nat.reduceLT, Nat.reduceBEq, Nat.reduceBNe, Nat.reduceLeDiff, Int.reduceLE, Int.reduceLT, Int.reduceToNat, Int.reduceEq, Int.reduceAdd, UInt8.reduceToNat, UInt32.reduceToNat, UInt64.reduceToNat, UInt8.reduceOfNat, UInt32.reduceOfNat, UInt64.reduceOfNat, Fin.isValue, Int.reduceSub, Int.reduceMul, Int.reduceNeg, Int.reduceMod, Int.reduceDiv, Int.reduceTDiv, Int.reduceTMod, Int.reduceBEq, Int.reduceBNe, Nat.reduceDiv, Nat.reducePow]
          refine again (j + 1) [] (by omega) (by omega) ?_
          simp only [ptJn, envR, con0, conN0, conN1, conN2, natsOf_arr, rowOf_arr, natsOf_cells, rowOf_cells, toN, natL_st, natL_d, natL_enc, natL_up, gb2, rclampC, rofC, rsmallC, bothC, twiceC, rpowC, rmulC, rbytesC, conQ, bothF, twiceF, rofF, rsmallF, row2F, rpowF, rbytesF, retQx, go_sem, reduceCtorEq, ↓reduceIte, Nat.reduceAdd, Nat.reduceMul, Nat.reduceSub, Nat.reduceEqDiff, Nat.reduceLT, Nat.reduceBEq, Nat.reduceBNe, Nat.reduceLeDiff, Int.reduceLE, Int.reduceLT, Int.reduceToNat, Int.reduceEq, Int.reduceAdd, UInt8.reduceToNat, UInt32.reduceToNat, UInt64.reduceToNat, UInt8.reduceOfNat, UInt32.reduceOfNat, UInt64.reduceOfNat, Fin.isValue, Int.reduceSub, Int.reduceMul, Int.reduceNeg, Int.reduceMod, Int.reduceDiv, Int.reduceTDiv, Int.reduceTMod, Int.reduceBEq, Int.reduceBNe, Nat.reduceDiv, Nat.reducePow]
        · obtain rfl : j = t % 8 := by have := of_decide_eq_false hc; omega
          have m2 : (((k.getD (t / 8) 0).toNat / 2 ^ (t % 8) : Nat) : Int).tmod 2 = (((k.getD (t / 8) 0).toNat / 2 ^ (t % 8) % 2 : Nat) : Int) := by rw [show (2 : Int) = ((2 : Nat) : Int) from rfl, ← Int.ofNat_tmod]
          have hbit := kbit_div k t
          obtain ⟨gp, gq, gr, gs⟩ := hgood
          rw [hqx] at gr
          obtain ⟨nx, hnx⟩ : ∃ nx, nx = stepR x (kbit k t) s := ⟨_, rfl⟩
          have hgn := good_step gx (kbit k t) s hgood0
          have hrn : ladR x (kbit k) t nx = ladR x (kbit k) 255 (startR x) := by rw [hnx]; exact hrun
          rw [← hnx] at hgn
          cases hkb : kbit k t with
          | true =>
            rw [hkb] at hbit hnx
            simp only [hc, m2, hbit, hw, envR, con0, conN0, conN1, conN2, natsOf_arr, rowOf_arr, natsOf_cells, rowOf_cells, toN, natL_st, natL_d, natL_enc, natL_up, gb2, rclampC, rofC, rsmallC, bothC, twiceC, rpowC, rmulC, rbytesC, conQ, bothF, twiceF, rofF, rsmallF, row2F, rpowF, rbytesF, retQx, go_sem, reduceCtorEq, ↓reduceIte, Nat.reduceAdd, Nat.reduceMul, Nat.reduceSub, Nat.reduceEqDiff, Nat.reduceLT, Nat.reduceBEq, Nat.reduceBNe, Nat.reduceLeDiff, Int.reduceLE, Int.reduceLT, Int.reduceToNat, Int.reduceEq, Int.reduceAdd, UInt8.reduceToNat, UInt32.reduceToNat, UInt64.reduceToNat, UInt8.reduceOfNat, UInt32.reduceOfNat, UInt64.reduceOfNat, Fin.isValue, Int.reduceSub, Int.reduceMul, Int.reduceNeg, Int.reduceMod, Int.reduceDiv, Int.reduceTDiv, Int.reduceTMod, Int.reduceBEq, Int.reduceBNe, Nat.reduceDiv, Nat.reducePow]
            repeat' apply And.intro
            all_goals first
              | with_reducible assumption
              | omega
              | rfl
              | skip
            refine again (some (t, nx) : Option (Nat × R4)) [(501, 130040), (502, 130041), (503, 150016), (504, 150017)] ⟨hrn, by show t ≤ 255; omega, hgn⟩ (by simp only [ptMu]; omega) ?_
            simp only [ptI, hnx, stepR, hqx, envR, con0, conN0, conN1, conN2, natsOf_arr, rowOf_arr, natsOf_cells, rowOf_cells, toN, natL_st, natL_d, natL_enc, natL_up, gb2, rclampC, rofC, rsmallC, bothC, twiceC, rpowC, rmulC, rbytesC, conQ, bothF, twiceF, rofF, rsmallF, row2F, rpowF, rbytesF, retQx, go_sem, reduceCtorEq, ↓reduceIte, Nat.reduceAdd, Nat.reduceMul, Nat.reduceSub, Nat.reduceEqDiff, Nat.reduceLT, Nat.reduceBEq, Nat.reduceBNe, Nat.reduceLeDiff, Int.reduceLE, Int.reduceLT, Int.reduceToNat, Int.reduceEq, Int.reduceAdd, UInt8.reduceToNat, UInt32.reduceToNat, UInt64.reduceToNat, UInt8.reduceOfNat, UInt32.reduceOfNat, UInt64.reduceOfNat, Fin.isValue, Int.reduceSub, Int.reduceMul, Int.reduceNeg, Int.reduceMod, Int.reduceDiv, Int.reduceTDiv, Int.reduceTMod, Int.reduceBEq, Int.reduceBNe, Nat.reduceDiv, Nat.reducePow]
            all_goals trivial
          | false =>
            rw [hkb] at hbit hnx
            simp only [hc, m2, hbit, hw, envR, con0, conN0, conN1, conN2, natsOf_arr, rowOf_arr, natsOf_cells, rowOf_cells, toN, natL_st, natL_d, natL_enc, natL_up, gb2, rclampC, rofC, rsmallC, bothC, twiceC, rpowC, rmulC, rbytesC, conQ, bothF, twiceF, rofF, rsmallF, row2F, rpowF, rbytesF, retQx, go_sem, reduceCtorEq, ↓reduceIte, Nat.reduceAdd, Nat.reduceMul, Nat.reduceSub, Nat.reduceEqDiff, Nat.reduceLT, Nat.reduceBEq, Nat.reduceBNe, Nat.reduceLeDiff, Int.reduceLE, Int.reduceLT, Int.reduceToNat, Int.reduceEq, Int.reduceAdd, UInt8.reduceToNat, UInt32.reduceToNat, UInt64.reduceToNat, UInt8.reduceOfNat, UInt32.reduceOfNat, UInt64.reduceOfNat, Fin.isValue, Int.reduceSub, Int.reduceMul, Int.reduceNeg, Int.reduceMod, Int.reduceDiv, Int.reduceTDiv, Int.reduceTMod, Int.reduceBEq, Int.reduceBNe, Nat.reduceDiv, Nat.reducePow]
            repeat' apply And.intro
            all_goals first
              | with_reducible assumption
              | omega
              | rfl
              | skip
            refine again (some (t, nx) : Option (Nat × R4)) [(501, 170016), (502, 170017), (503, 130040), (504, 130041)] ⟨hrn, by show t ≤ 255; omega, hgn⟩ (by simp only [ptMu]; omega) ?_
            simp only [ptI, hnx, stepR, hqx, envR, con0, conN0, conN1, conN2, natsOf_arr, rowOf_arr, natsOf_cells, rowOf_cells, toN, natL_st, natL_d, natL_enc, natL_up, gb2, rclampC, rofC, rsmallC, bothC, twiceC, rpowC, rmulC, rbytesC, conQ, bothF, twiceF, rofF, rsmallF, row2F, rpowF, rbytesF, retQx, go_sem, reduceCtorEq, ↓reduceIte, Nat.reduceAdd, Nat.reduceMul, Nat.reduceSub, Nat.reduceEqDiff, Nat.reduceLT, Nat.reduceBEq, Nat.reduceBNe, Nat.reduceLeDiff, Int.reduceLE, Int.reduceLT, Int.reduceToNat, Int.reduceEq, Int.reduceAdd, UInt8.reduceToNat, UInt32.reduceToNat, UInt64.reduceToNat, UInt8.reduceOfNat, UInt32.reduceOfNat, UInt64.reduceOfNat, Fin.isValue, Int.reduceSub, Int.reduceMul, Int.reduceNeg, Int.reduceMod, Int.reduceDiv, Int.reduceTDiv, Int.reduceTMod, Int.reduceBEq, Int.reduceBNe, Nat.reduceDiv, Nat.reducePow]
            all_goals trivial
    · obtain ⟨y1, y2, hgood⟩ := hy
      have hgood0 := hgood
      rcases c with _ | t
      · have y1 : s = ladR x (kbit k) 255 (startR x) := y1
        rw [← y1] at hpw
        obtain ⟨g1, g2, g3, g4⟩ := hgood
        have gpw := (pow_good g2).1
        rw [hpw] at hpg hres
        have gw := hpg.w
        simp only [ptI, bitN, hres, envR, con0, conN0, conN1, conN2, natsOf_arr, rowOf_arr, natsOf_cells, rowOf_cells, toN, natL_st, natL_d, natL_enc, natL_up, gb2, rclampC, rofC, rsmallC, bothC, twiceC, rpowC, rmulC, rbytesC, conQ, bothF, twiceF, rofF, rsmallF, row2F, rpowF, rbytesF, retQx, go_sem, reduceCtorEq, ↓reduceIte, Nat.reduceAdd, Nat.reduceMul, Nat.reduceSub, Nat.reduceEqDiff, Nat.reduceLT, Nat.reduceBEq, Nat.reduceBNe, Nat.reduceLeDiff, Int.reduceLE, Int.reduceLT, Int.reduceToNat, Int.reduceEq, Int.reduceAdd, UInt8.reduceToNat, UInt32.reduceToNat, UInt64.reduceToNat, UInt8.reduceOfNat, UInt32.reduceOfNat, UInt64.reduceOfNat, Fin.isValue, Int.reduceSub, Int.reduceMul, Int.reduceNeg, Int.reduceMod, Int.reduceDiv, Int.reduceTDiv, Int.reduceTMod, Int.reduceBEq, Int.reduceBNe, Nat.reduceDiv, Nat.reducePow]
        repeat' apply And.intro
        all_goals first
          | with_reducible assumption
          | omega
          | rfl
          | skip
        refine endX [] ?_
        simp only [envR, con0, conN0, conN1, conN2, natsOf_arr, rowOf_arr, natsOf_cells, rowOf_cells, toN, natL_st, natL_d, natL_enc, natL_up, gb2, rclampC, rofC, rsmallC, bothC, twiceC, rpowC, rmulC, rbytesC, conQ, bothF, twiceF, rofF, rsmallF, row2F, rpowF, rbytesF, retQx, go_sem, reduceCtorEq, ↓reduceIte, Nat.reduceAdd, Nat.reduceMul, Nat.reduceSub, Nat.reduceEqDiff, Nat.reduceLT, Nat.reduceBEq, Nat.reduceBNe, Nat.reduceLeDiff, Int.reduceLE, Int.reduceLT, Int.reduceToNat, Int.reduceEq, Int.reduceAdd, UInt8.reduceToNat, UInt32.reduceToNat, UInt64.reduceToNat, UInt8.reduceOfNat, UInt32.reduceOfNat, UInt64.reduceOfNat, Fin.isValue, Int.reduceSub, Int.reduceMul, Int.reduceNeg, Int.reduceMod, Int.reduceDiv, Int.reduceTDiv, Int.reduceTMod, Int.reduceBEq, Int.reduceBNe, Nat.reduceDiv, Nat.reducePow]
      · have hrun : ladR x (kbit k) t (stepR x (kbit k t) s) = ladR x (kbit k) 255 (startR x) := y1
        have y2' : t ≤ 254 := by have : t + 1 ≤ 255 := y2; omega
        have hd := tdiv8 t (by omega)
        have hm := tmod8 t
        have h0 : decide ((0 : Int) ≤ (t : Int)) = true := decide_eq_true (by omega)
        have hw := bitN_next (c := t) (by omega)
        have hbl := (k.getD (t / 8) 0).toNat_lt
        simp only [ptI, bitN_succ, h0, hd, hm, hk, envR, con0, conN0, conN1, conN2, natsOf_arr, rowOf_arr, natsOf_cells, rowOf_cells, toN, natL_st, natL_d, natL_enc, natL_up, gb2, rclampC, rofC, rsmallC, bothC, twiceC, rpowC, rmulC, rbytesC, conQ, bothF, twiceF, rofF, rsmallF, row2F, rpowF, rbytesF, retQx, go_sem, reduceCtorEq, ↓reduceIte, Nat.reduceAdd, Nat.reduceMul, Nat.reduceSub, Nat.reduceEqDiff, Nat.reduceLT, Nat.reduceBEq, Nat.reduceBNe, Nat.reduceLeDiff, Int.reduceLE, Int.reduceLT, Int.reduceToNat, Int.reduceEq, Int.reduceAdd, UInt8.reduceToNat, UInt32.reduceToNat, UInt64.reduceToNat, UInt8.reduceOfNat, UInt32.reduceOfNat, UInt64.reduceOfNat, Fin.isValue, Int.reduceSub, Int.reduceMul, Int.reduceNeg, Int.reduceMod, Int.reduceDiv, Int.reduceTDiv, Int.reduceTMod, Int.reduceBEq, Int.reduceBNe, Nat.reduceDiv, Nat.reducePow]
        repeat' apply And.intro
        all_goals first
          | omega
          | rfl
          | skip
        refine loop_inv (envR_ok gb2_ok 74 []) (ptJs k x s t) (fun j => j ≤ t % 8) (fun j => t % 8 - j) 0 [] (Nat.zero_le _) ?_ ?_
        · have hz : (k.getD (t / 8) 0).toNat / 2 ^ 0 = (k.getD (t / 8) 0).toNat := by rw [Nat.pow_zero, Nat.div_one]
          simp only [ptJs, hz, envR, con0, conN0, conN1, conN2, natsOf_arr, rowOf_arr, natsOf_cells, rowOf_cells, toN, natL_st, natL_d, natL_enc, natL_up, gb2, rclampC, rofC, rsmallC, bothC, twiceC, rpowC, rmulC, rbytesC, conQ, bothF, twiceF, rofF, rsmallF, row2F, rpowF, rbytesF, retQx, go_sem, reduceCtorEq, ↓reduceIte, Nat.reduceAdd, Nat.reduceMul, Nat.reduceSub, Nat.reduceEqDiff, Nat.reduceLT, Nat.reduceBEq, Nat.reduceBNe, Nat.reduceLeDiff, Int.reduceLE, Int.reduceLT, Int.reduceToNat, Int.reduceEq, Int.reduceAdd, UInt8.reduceToNat, UInt32.reduceToNat, UInt64.reduceToNat, UInt8.reduceOfNat, UInt32.reduceOfNat, UInt64.reduceOfNat, Fin.isValue, Int.reduceSub, Int.reduceMul, Int.reduceNeg, Int.reduceMod, Int.reduceDiv, Int.reduceTDiv, Int.reduceTMod, Int.reduceBEq, Int.reduceBNe, Nat.reduceDiv, Nat.reducePow]
        · intro j hj
          have w1 : IntKind.i64.wrap ((j : Int) + 1) = ((j + 1 : Nat) : Int) := by rw [IntKind.wrap_i64]; omega
          have hle : (k.getD (t / 8) 0).toNat / 2 ^ j ≤ (k.getD (t / 8) 0).toNat := Nat.div_le_self _ _
          have w2 : IntKind.i64.wrap ((((k.getD (t / 8) 0).toNat / 2 ^ j : Nat) : Int).tdiv 2) = (((k.getD (t / 8) 0).toNat / 2 ^ (j + 1) : Nat) : Int) := by
            have hq : (k.getD (t / 8) 0).toNat / 2 ^ (j + 1) ≤ 255 := Nat.le_trans (Nat.div_le_self _ _) (by omega)
            rw [show (2 : Int) = ((2 : Nat) : Int) from rfl, ← Int.ofNat_tdiv, Nat.div_div_eq_div_mul, show 2 ^ j * 2 = 2 ^ (j + 1) from rfl, IntKind.wrap_i64]
            generalize (k.getD (t / 8) 0).toNat / 2 ^ (j + 1) = q at hq ⊢
            omega
          simp only [ptJs, hm, envR, con0, conN0, conN1, conN2, natsOf_arr, rowOf_arr, natsOf_cells, rowOf_cells, toN, natL_st, natL_d, natL_enc, natL_up, gb2, rclampC, rofC, rsmallC, bothC, twiceC, rpowC, rmulC, rbytesC, conQ, bothF, twiceF, rofF, rsmallF, row2F, rpowF, rbytesF, retQx, go_sem, reduceCtorEq, ↓reduceIte, Nat.reduceAdd, Nat.reduceMul, Nat.reduceSub, Nat.reduceEqDiff, Nat.reduceLT, Nat.reduceBEq, Nat.reduceBNe, Nat.reduceLeDiff, Int.reduceLE, Int.reduceLT, Int.reduceToNat, Int.reduceEq, Int.reduceAdd, UInt8.reduceToNat, UInt32.reduceToNat, UInt64.reduceToNat, UInt8.reduceOfNat, UInt32.reduceOfNat, UInt64.reduceOfNat, Fin.isValue, Int.reduceSub, Int.reduceMul, Int.reduceNeg, Int.reduceMod, Int.reduceDiv, Int.reduceTDiv, Int.reduceTMod, Int.reduceBEq, Int.reduceBNe, Nat.reduceDiv, Nat.reducePow]
          refine br (fun hc => ?_) fun hc => ?_
          · have hc' := of_decide_eq_true hc
            simp only [hc, w1, w2, envR, con0, conN0, conN1, conN2, natsOf_arr, rowOf_arr, natsOf_cells, rowOf_cells, toN, natL_st, natL_d, natL_enc, natL_up, gb2, rclampC, rofC, rsmallC, bothC, twiceC, rpowC, rmulC, rbytesC, conQ, bothF, twiceF, rofF, rsmallF, row2F, rpowF, rbytesF, retQx, go_sem, reduceCtorEq, ↓reduceIte, Nat.reduceAdd, Nat.reduceMul, Nat.reduceSub, Nat.reduceEqDiff, Nat.reduceLT, Nat.reduceBEq, Nat.reduceBNe, Nat.reduceLeDiff, Int.reduceLE, Int.reduceLT, Int.reduceToNat, Int.reduceEq, Int.reduceAdd, UInt8.reduceToNat, UInt32.reduceToNat, UInt64.reduceToNat, UInt8.reduceOfNat, UInt32.reduceOfNat, UInt64.reduceOfNat, Fin.isValue, Int.reduceSub, Int.reduceMul, Int.reduceNeg, Int.reduceMod, Int.reduceDiv, Int.reduceTDiv, Int.reduceTMod, Int.reduceBEq, Int.reduceBNe, Nat.reduceDiv, Nat.reducePow]
            refine again (j + 1) [] (by omega) (by omega) ?_
            simp only [ptJs, envR, con0, conN0, conN1, conN2, natsOf_arr, rowOf_arr, natsOf_cells, rowOf_cells, toN, natL_st, natL_d, natL_enc, natL_up, gb2, rclampC, rofC, rsmallC, bothC, twiceC, rpowC, rmulC, rbytesC, conQ, bothF, twiceF, rofF, rsmallF, row2F, rpowF, rbytesF, retQx, go_sem, reduceCtorEq, ↓reduceIte, Nat.reduceAdd, Nat.reduceMul, Nat.reduceSub, Nat.reduceEqDiff, Nat.reduceLT, Nat.reduceBEq, Nat.reduceBNe, Nat.reduceLeDiff, Int.reduceLE, Int.reduceLT, Int.reduceToNat, Int.reduceEq, Int.reduceAdd, UInt8.reduceToNat, UInt32.reduceToNat, UInt64.reduceToNat, UInt8.reduceOfNat, UInt32.reduceOfNat, UInt64.reduceOfNat, Fin.isValue, Int.reduceSub, Int.reduceMul, Int.reduceNeg, Int.reduceMod, Int.reduceDiv, Int.reduceTDiv, Int.reduceTMod, Int.reduceBEq, Int.reduceBNe, Nat.reduceDiv, Nat.reducePow]
          · obtain rfl : j = t % 8 := by have := of_decide_eq_false hc; omega
            have m2 : (((k.getD (t / 8) 0).toNat / 2 ^ (t % 8) : Nat) : Int).tmod 2 = (((k.getD (t / 8) 0).toNat / 2 ^ (t % 8) % 2 : Nat) : Int) := by rw [show (2 : Int) = ((2 : Nat) : Int) from rfl, ← Int.ofNat_tmod]
            have hbit := kbit_div k t
            obtain ⟨gp, gq, gr, gs⟩ := hgood
            obtain ⟨nx, hnx⟩ : ∃ nx, nx = stepR x (kbit k t) s := ⟨_, rfl⟩
            have hgn := good_step gx (kbit k t) s hgood0
            have hrn : ladR x (kbit k) t nx = ladR x (kbit k) 255 (startR x) := by rw [hnx]; exact hrun
            rw [← hnx] at hgn
            cases hkb : kbit k t with
            | true =>
              rw [hkb] at hbit hnx
              simp only [hc, m2, hbit, hw, envR, con0, conN0, conN1, conN2, natsOf_arr, rowOf_arr, natsOf_cells, rowOf_cells, toN, natL_st, natL_d, natL_enc, natL_up, gb2, rclampC, rofC, rsmallC, bothC, twiceC, rpowC, rmulC, rbytesC, conQ, bothF, twiceF, rofF, rsmallF, row2F, rpowF, rbytesF, retQx, go_sem, reduceCtorEq, ↓reduceIte, Nat.reduceAdd, Nat.reduceMul, Nat.reduceSub, Nat.reduceEqDiff, Nat.reduceLT, Nat.reduceBEq, Nat.reduceBNe, Nat.reduceLeDiff, Int.reduceLE, Int.reduceLT, Int.reduceToNat, Int.reduceEq, Int.reduceAdd, UInt8.reduceToNat, UInt32.reduceToNat, UInt64.reduceToNat, UInt8.reduceOfNat, UInt32.reduceOfNat, UInt64.reduceOfNat, Fin.isValue, Int.reduceSub, Int.reduceMul, Int.reduceNeg, Int.reduceMod, Int.reduceDiv, Int.reduceTDiv, Int.reduceTMod, Int.reduceBEq, Int.reduceBNe, Nat.reduceDiv, Nat.reducePow]
              repeat' apply And.intro
              all_goals first
                | with_reducible assumption
                | omega
                | rfl
                | skip
              refine again (some (t, nx) : Option (Nat × R4)) [(501, 130040), (502, 130041), (503, 150016), (504, 150017)] ⟨hrn, by show t ≤ 255; omega, hgn⟩ (by simp only [ptMu]; omega) ?_
              simp only [ptI, hnx, stepR, envR, con0, conN0, conN1, conN2, natsOf_arr, rowOf_arr, natsOf_cells, rowOf_cells, toN, natL_st, natL_d, natL_enc, natL_up, gb2, rclampC, rofC, rsmallC, bothC, twiceC, rpowC, rmulC, rbytesC, conQ, bothF, twiceF, rofF, rsmallF, row2F, rpowF, rbytesF, retQx, go_sem, reduceCtorEq, ↓reduceIte, Nat.reduceAdd, Nat.reduceMul, Nat.reduceSub, Nat.reduceEqDiff, Nat.reduceLT, Nat.reduceBEq, Nat.reduceBNe, Nat.reduceLeDiff, Int.reduceLE, Int.reduceLT, Int.reduceToNat, Int.reduceEq, Int.reduceAdd, UInt8.reduceToNat, UInt32.reduceToNat, UInt64.reduceToNat, UInt8.reduceOfNat, UInt32.reduceOfNat, UInt64.reduceOfNat, Fin.isValue, Int.reduceSub, Int.reduceMul, Int.reduceNeg, Int.reduceMod, Int.reduceDiv, Int.reduceTDiv, Int.reduceTMod, Int.reduceBEq, Int.reduceBNe, Nat.reduceDiv, Nat.reducePow]
              all_goals trivial
            | false =>
              rw [hkb] at hbit hnx
              simp only [hc, m2, hbit, hw, envR, con0, conN0, conN1, conN2, natsOf_arr, rowOf_arr, natsOf_cells, rowOf_cells, toN, natL_st, natL_d, natL_enc, natL_up, gb2, rclampC, rofC, rsmallC, bothC, twiceC, rpowC, rmulC, rbytesC, conQ, bothF, twiceF, rofF, rsmallF, row2F, rpowF, rbytesF, retQx, go_sem, reduceCtorEq, ↓reduceIte, Nat.reduceAdd, Nat.reduceMul, Nat.reduceSub, Nat.reduceEqDiff, Nat.reduceLT, Nat.reduceBEq, Nat.reduceBNe, Nat.reduceLeDiff, Int.reduceLE, Int.reduceLT, Int.reduceToNat, Int.reduceEq, Int.reduceAdd, UInt8.reduceToNat, UInt32.reduceToNat, UInt64.reduceToNat, UInt8.reduceOfNat, UInt32.reduceOfNat, UInt64.reduceOfNat, Fin.isValue, Int.reduceSub, Int.reduceMul, Int.reduceNeg, Int.reduceMod, Int.reduceDiv, Int.reduceTDiv, Int.reduceTMod, Int.reduceBEq, Int.reduceBNe, Nat.reduceDiv, Nat.reducePow]
              repeat' apply And.intro
              all_goals first
                | with_reducible assumption
                | omega
                | rfl
                | skip
              refine again (some (t, nx) : Option (Nat × R4)) [(501, 170016), (502, 170017), (503, 130040), (504, 130041)] ⟨hrn, by show t ≤ 255; omega, hgn⟩ (by simp only [ptMu]; omega) ?_
              simp only [ptI, hnx, stepR, envR, con0, conN0, conN1, conN2, natsOf_arr, rowOf_arr, natsOf_cells, rowOf_cells, toN, natL_st, natL_d, natL_enc, natL_up, gb2, rclampC, rofC, rsmallC, bothC, twiceC, rpowC, rmulC, rbytesC, conQ, bothF, twiceF, rofF, rsmallF, row2F, rpowF, rbytesF, retQx, go_sem, reduceCtorEq, ↓reduceIte, Nat.reduceAdd, Nat.reduceMul, Nat.reduceSub, Nat.reduceEqDiff, Nat.reduceLT, Nat.reduceBEq, Nat.reduceBNe, Nat.reduceLeDiff, Int.reduceLE, Int.reduceLT, Int.reduceToNat, Int.reduceEq, Int.reduceAdd, UInt8.reduceToNat, UInt32.reduceToNat, UInt64.reduceToNat, UInt8.reduceOfNat, UInt32.reduceOfNat, UInt64.reduceOfNat, Fin.isValue, Int.reduceSub, Int.reduceMul, Int.reduceNeg, Int.reduceMod, Int.reduceDiv, Int.reduceTDiv, Int.reduceTMod, Int.reduceBEq, Int.reduceBNe, Nat.reduceDiv, Nat.reducePow]
              all_goals trivial
def rpointC : Con := con0 fun args => match args with
  | [.one (.str s), .one (.str u)] => some (.c (.one (.str (pointR (clampK s) u))), [s.length = 32, u.length = 32])
  | _ => none
theorem rpointC_ok : ConOk Try.prog 30 rpointC := con0_ok Try.func30 rfl rfl fun args res ob h hob => by
  split at h
  · injection h with h; injection h with h1 h2; subst h1; subst h2; exact rpoint_tri _ _ hob.1 hob.2.1
  · cases h
def gb3 : Nat → Option Con := fun f => match f with
  | 29 => some pointC
  | 25 => some awake4C
  | 30 => some rpointC
  | _ => none
theorem gb3_ok : GaOk Try.prog gb3 := fun f con h => by
  unfold gb3 at h
  split at h
  · injection h with h; subst h; exact pointC_ok
  · injection h with h; subst h; exact awake4C_ok
  · injection h with h; subst h; exact rpointC_ok
  · cases h
set_option maxRecDepth 100000 in
theorem lpoints_tri (s u : List UInt8) : Tri Try.prog 7 [.one (.str s), .one (.str u)] [] (.c (.one (.bo true))) [] := by
  refine tri_of (envOf_ok gb3_ok 50) Try.func7 rfl rfl (rs := [.tmp 4]) rfl rfl (by simp [envOf]) rfl [] ?_
  cases c1 : decide ((100 : Int) < (s.length : Int)) with
  | true => simp only [envOf, gb3, pointC, awake4C, rpointC, c1, go_sem, reduceCtorEq, ↓reduceIte, Nat.reduceAdd, Nat.reduceMul, Nat.reduceSub, Nat.reduceEqDiff, Nat.reduceLT, Nat.reduceBEq, Nat.reduceBNe, Nat.reduceLeDiff, Int.reduceLE, Int.reduceLT, Int.reduceToNat, Int.reduceEq, Int.reduceAdd, UInt8.reduceToNat, UInt32.reduceToNat, UInt64.reduceToNat, UInt8.reduceOfNat, UInt32.reduceOfNat, UInt64.reduceOfNat, Fin.isValue, Int.reduceSub, Int.reduceMul, Int.reduceNeg, Int.reduceMod, Int.reduceDiv, Int.reduceTDiv, Int.reduceTMod, Int.reduceBEq, Int.reduceBNe, Nat.reduceDiv, Nat.reducePow]
  | false =>
    cases c2 : decide ((100 : Int) < (u.length : Int)) with
    | true => simp only [envOf, gb3, pointC, awake4C, rpointC, c1, c2, go_sem, reduceCtorEq, ↓reduceIte, Nat.reduceAdd, Nat.reduceMul, Nat.reduceSub, Nat.reduceEqDiff, Nat.reduceLT, Nat.reduceBEq, Nat.reduceBNe, Nat.reduceLeDiff, Int.reduceLE, Int.reduceLT, Int.reduceToNat, Int.reduceEq, Int.reduceAdd, UInt8.reduceToNat, UInt32.reduceToNat, UInt64.reduceToNat, UInt8.reduceOfNat, UInt32.reduceOfNat, UInt64.reduceOfNat, Fin.isValue, Int.reduceSub, Int.reduceMul, Int.reduceNeg, Int.reduceMod, Int.reduceDiv, Int.reduceTDiv, Int.reduceTMod, Int.reduceBEq, Int.reduceBNe, Nat.reduceDiv, Nat.reducePow]
    | false =>
      cases h1 : ((s.length : Int) == 32) with
      | false =>
        have hn : s.length ≠ 32 := fun e => by rw [e] at h1; exact absurd h1 (by decide)
        have hv : pointV s u = .tup [.one (.str []), .one (.bo false)] := if_neg fun h => hn h.1
        simp only [envOf, gb3, pointC, awake4C, rpointC, c1, c2, h1, hv, go_sem, reduceCtorEq, ↓reduceIte, Nat.reduceAdd, Nat.reduceMul, Nat.reduceSub, Nat.reduceEqDiff, Nat.reduceLT, Nat.reduceBEq, Nat.reduceBNe, Nat.reduceLeDiff, Int.reduceLE, Int.reduceLT, Int.reduceToNat, Int.reduceEq, Int.reduceAdd, UInt8.reduceToNat, UInt32.reduceToNat, UInt64.reduceToNat, UInt8.reduceOfNat, UInt32.reduceOfNat, UInt64.reduceOfNat, Fin.isValue, Int.reduceSub, Int.reduceMul, Int.reduceNeg, Int.reduceMod, Int.reduceDiv, Int.reduceTDiv, Int.reduceTMod, Int.reduceBEq, Int.reduceBNe, Nat.reduceDiv, Nat.reducePow]
        all_goals try rfl
      | true =>
        have hs : s.length = 32 := by have := beq_iff_eq.1 h1; omega
        cases h2 : ((u.length : Int) == 32) with
        | false =>
          have hn : u.length ≠ 32 := fun e => by rw [e] at h2; exact absurd h2 (by decide)
          have hv : pointV s u = .tup [.one (.str []), .one (.bo false)] := if_neg fun h => hn h.2
          simp only [envOf, gb3, pointC, awake4C, rpointC, c1, c2, h1, h2, hv, go_sem, reduceCtorEq, ↓reduceIte, Nat.reduceAdd, Nat.reduceMul, Nat.reduceSub, Nat.reduceEqDiff, Nat.reduceLT, Nat.reduceBEq, Nat.reduceBNe, Nat.reduceLeDiff, Int.reduceLE, Int.reduceLT, Int.reduceToNat, Int.reduceEq, Int.reduceAdd, UInt8.reduceToNat, UInt32.reduceToNat, UInt64.reduceToNat, UInt8.reduceOfNat, UInt32.reduceOfNat, UInt64.reduceOfNat, Fin.isValue, Int.reduceSub, Int.reduceMul, Int.reduceNeg, Int.reduceMod, Int.reduceDiv, Int.reduceTDiv, Int.reduceTMod, Int.reduceBEq, Int.reduceBNe, Nat.reduceDiv, Nat.reducePow]
          all_goals try rfl
        | true =>
          have hu : u.length = 32 := by have := beq_iff_eq.1 h2; omega
          have hv : pointV s u = .tup [.one (.str (pointS s u)), .one (.bo true)] := if_pos ⟨hs, hu⟩
          have hr : pointR (clampK s) u = pointS s u := pointR_eq _ _ hu
          simp only [envOf, gb3, pointC, awake4C, rpointC, c1, c2, h1, h2, hs, hu, hv, hr, go_sem, reduceCtorEq, ↓reduceIte, Nat.reduceAdd, Nat.reduceMul, Nat.reduceSub, Nat.reduceEqDiff, Nat.reduceLT, Nat.reduceBEq, Nat.reduceBNe, Nat.reduceLeDiff, Int.reduceLE, Int.reduceLT, Int.reduceToNat, Int.reduceEq, Int.reduceAdd, UInt8.reduceToNat, UInt32.reduceToNat, UInt64.reduceToNat, UInt8.reduceOfNat, UInt32.reduceOfNat, UInt64.reduceOfNat, Fin.isValue, Int.reduceSub, Int.reduceMul, Int.reduceNeg, Int.reduceMod, Int.reduceDiv, Int.reduceTDiv, Int.reduceTMod, Int.reduceBEq, Int.reduceBNe, Nat.reduceDiv, Nat.reducePow]
          all_goals first
            | rfl
            | trace_state
theorem lpoints_law (a : ByteArray) (wa : a.size ≤ maxLen) (b : ByteArray) (wb : b.size ≤ maxLen) (w : World) :
    Calls Try.prog 7 #[.string a, .string b] w fun e w' => e = .returned (.bool true) ∧ Below w.heap.size w w' := by
  refine (tri_calls (lpoints_tri a.data.toList b.data.toList) w (vals := [.string a, .string b]) ⟨rfl, rfl, trivial⟩).mono ?_
  rintro e w' ⟨u, r', rfl, hr, hb⟩
  exact ⟨by rw [show u = .bool true from hr], hb⟩
end Go.Proofs.Ytdkmkifebhggeaa
