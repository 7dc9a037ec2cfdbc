/-
  Layer 3: the document's least number, walked.
-/
import Derived.Test.YtdkmkifebhggeaaSz
import Derived.Test.YtdkmkifebhggeaaKp
namespace Go.Proofs.Ytdkmkifebhggeaa
open Go Go.RowKit
set_option maxHeartbeats 8000000
set_option linter.unusedSimpArgs false
set_option linter.unusedVariables false
def gr1 : Nat → Option Con := fun f => match f with
  | 36 => some gaddC
  | 41 => some gtimesC
  | 38 => some gprimeC
  | 47 => some gbelowC
  | 37 => some gminC
  | _ => none
theorem gr1_ok : GaOk Try.prog gr1 := fun f con h => by
  unfold gr1 at h
  split at h
  · injection h with h; subst h; exact gaddC_ok
  · injection h with h; subst h; exact gtimesC_ok
  · injection h with h; subst h; exact gprimeC_ok
  · injection h with h; subst h; exact gbelowC_ok
  · injection h with h; subst h; exact gminC_ok
  · cases h
def redOut0 (a : List Nat) (wa : Bool) : Option (Nat × List Nat × Nat) → St
  | none => ⟨[(0, .c (.one (.sl 0 0 1 a.length)))], [(0, ⟨.arr Nat natL a, wa⟩)]⟩
  | some (_, R, n) => ⟨[(0, .c (.one (.sl 600 0 1 n)))], [(0, ⟨.arr Nat natL a, wa⟩), (600, ⟨.arr Nat natL R, true⟩)]⟩
def redOk0 (a : List Nat) : Option (Nat × List Nat × Nat) → Prop
  | none => True
  | some (f, R, n) => redRun f (R, n) = redEnd a ∧ redMeas (R, n) < f ∧ redInv (R, n)
def redMu (a : List Nat) : Option (Nat × List Nat × Nat) → Nat
  | none => redMeas (a, a.length) + 1
  | some (f, _, _) => f
def rdI1 (X n : Nat) (H : List (Nat × Ent)) (D : List Nat) : Nat ⊕ Nat → St
  | .inl i => ⟨[(0, .c (.one (.sl X 0 1 n))), (3, .c (.one (.sl 700 0 1 16))), (4, .c (.one (.val (.slice none 0 0)))), (5, .c (.one (.num i)))], H ++ [(700, ⟨.arr Nat natL (lowI D i), true⟩)]⟩
  | .inr m => ⟨[(0, .c (.one (.sl X 0 1 n))), (3, .c (.one (.sl 700 0 1 16))), (4, .c (.one (.sl 800 0 1 (m + 1)))), (5, .c (.one (.num (16 + m : Nat))))], H ++ [(700, ⟨.arr Nat natL (lowW D), true⟩), (800, ⟨.arr Nat natL (highW D (m + 1)), true⟩)]⟩
def rdIx : Nat ⊕ Nat → Nat
  | .inl i => i
  | .inr m => 16 + m
def rdOk1 (n : Nat) : Nat ⊕ Nat → Prop
  | .inl i => i ≤ 15
  | .inr m => 16 + m ≤ n
def rdI2 (a : List Nat) (wa : Bool) (D : List Nat) (K k : Nat) : St := ⟨[(3, .c (.one (.sl 700 0 1 16))), (4, .c (.one (.sl 800 0 1 k)))], [(0, ⟨.arr Nat natL a, wa⟩), (700, ⟨.arr Nat natL (lowW D), true⟩), (800, ⟨.arr Nat natL (highW D K), true⟩)]⟩
def rdI4 (a : List Nat) (wa : Bool) (R : List Nat) (q : Nat) : St := ⟨[(0, .c (.one (.sl 900 0 1 q)))], [(0, ⟨.arr Nat natL a, wa⟩), (900, ⟨.arr Nat natL R, true⟩)]⟩
set_option maxRecDepth 100000 in
theorem redA_tri (a : List Nat) (wa : Bool) (hg : goodW a) (hs : redStop a = true) : Tri Try.prog 35 [.one (.sl 0 0 1 a.length)] [(0, ⟨.arr Nat natL a, wa⟩)] (.c (.one (.sl 0 0 1 16))) [(0, ⟨.arr Nat natL a, wa⟩)] := by
  simp only [redStop, redGo, Bool.and_eq_true, Bool.not_eq_true', Bool.or_eq_false_iff] at hs
  obtain ⟨⟨h1, h2⟩, h3⟩ := hs
  obtain ⟨o1, o2, o3⟩ := hg
  have la : a.length = 16 := by have := of_decide_eq_false h1; omega
  have c3 : decide ((32767 : Int) < ((a.getD 15 0 : Nat) : Int)) = false := decide_eq_false (by have := of_decide_eq_false h2; omega)
  have hpt : primeL.take 16 = primeL := rfl
  have hpl : primeL.length = 16 := rfl
  refine tri_ofx (envR_ok gr1_ok 132 [0]) Try.func35 rfl rfl (rs := [.tmp 2]) rfl rfl (by simp [envR]) rfl ?_
  simp only [la, envR, con0, conN0, conN1, conN2, natsOf_arr, rowOf_arr, natsOf_cells, rowOf_cells, toN, natL_st, natL_d, natL_enc, natL_up, gr1, gaddC, gtimesC, gprimeC, gbelowC, gminC, conB2, retQx, Nat.sub_zero, go_sem, reduceCtorEq, ↓reduceIte, Nat.reduceAdd, Nat.reduceMul, Nat.reduceSub, Nat.reduceEqDiff, Nat.reduceLT, Nat.reduceBEq, Nat.reduceBNe, Nat.reduceLeDiff, Int.reduceLE, Int.reduceLT, Int.reduceToNat, Int.reduceEq, Int.reduceAdd, UInt8.reduceToNat, UInt32.reduceToNat, UInt64.reduceToNat, UInt8.reduceOfNat, UInt32.reduceOfNat, UInt64.reduceOfNat, Fin.isValue, Int.reduceSub, Int.reduceMul, Int.reduceNeg, Int.reduceMod, Int.reduceDiv, Int.reduceTDiv, Int.reduceTMod, Int.reduceBEq, Int.reduceBNe, Nat.reduceDiv, Nat.reducePow]
  refine loop_rounds (envR_ok gr1_ok 132 [0]) 1 ?_
  simp only [la, c3, envR, con0, conN0, conN1, conN2, natsOf_arr, rowOf_arr, natsOf_cells, rowOf_cells, toN, natL_st, natL_d, natL_enc, natL_up, gr1, gaddC, gtimesC, gprimeC, gbelowC, gminC, conB2, retQx, Nat.sub_zero, go_sem, reduceCtorEq, ↓reduceIte, Nat.reduceAdd, Nat.reduceMul, Nat.reduceSub, Nat.reduceEqDiff, Nat.reduceLT, Nat.reduceBEq, Nat.reduceBNe, Nat.reduceLeDiff, Int.reduceLE, Int.reduceLT, Int.reduceToNat, Int.reduceEq, Int.reduceAdd, UInt8.reduceToNat, UInt32.reduceToNat, UInt64.reduceToNat, UInt8.reduceOfNat, UInt32.reduceOfNat, UInt64.reduceOfNat, Fin.isValue, Int.reduceSub, Int.reduceMul, Int.reduceNeg, Int.reduceMod, Int.reduceDiv, Int.reduceTDiv, Int.reduceTMod, Int.reduceBEq, Int.reduceBNe, Nat.reduceDiv, Nat.reducePow]
  refine loop_rounds (envR_ok gr1_ok 132 [0]) 1 ?_
  simp only [la, c3, h3, hpt, hpl, envR, con0, conN0, conN1, conN2, natsOf_arr, rowOf_arr, natsOf_cells, rowOf_cells, toN, natL_st, natL_d, natL_enc, natL_up, gr1, gaddC, gtimesC, gprimeC, gbelowC, gminC, conB2, retQx, Nat.sub_zero, go_sem, reduceCtorEq, ↓reduceIte, Nat.reduceAdd, Nat.reduceMul, Nat.reduceSub, Nat.reduceEqDiff, Nat.reduceLT, Nat.reduceBEq, Nat.reduceBNe, Nat.reduceLeDiff, Int.reduceLE, Int.reduceLT, Int.reduceToNat, Int.reduceEq, Int.reduceAdd, UInt8.reduceToNat, UInt32.reduceToNat, UInt64.reduceToNat, UInt8.reduceOfNat, UInt32.reduceOfNat, UInt64.reduceOfNat, Fin.isValue, Int.reduceSub, Int.reduceMul, Int.reduceNeg, Int.reduceMod, Int.reduceDiv, Int.reduceTDiv, Int.reduceTMod, Int.reduceBEq, Int.reduceBNe, Nat.reduceDiv, Nat.reducePow]
  repeat' apply And.intro
  all_goals first
    | omega
    | exact o1
    | exact prime_lt
    | rfl
    | skip
  refine endX [] ?_
  simp only [envR, con0, conN0, conN1, conN2, natsOf_arr, rowOf_arr, natsOf_cells, rowOf_cells, toN, natL_st, natL_d, natL_enc, natL_up, gr1, gaddC, gtimesC, gprimeC, gbelowC, gminC, conB2, retQx, Nat.sub_zero, go_sem, reduceCtorEq, ↓reduceIte, Nat.reduceAdd, Nat.reduceMul, Nat.reduceSub, Nat.reduceEqDiff, Nat.reduceLT, Nat.reduceBEq, Nat.reduceBNe, Nat.reduceLeDiff, Int.reduceLE, Int.reduceLT, Int.reduceToNat, Int.reduceEq, Int.reduceAdd, UInt8.reduceToNat, UInt32.reduceToNat, UInt64.reduceToNat, UInt8.reduceOfNat, UInt32.reduceOfNat, UInt64.reduceOfNat, Fin.isValue, Int.reduceSub, Int.reduceMul, Int.reduceNeg, Int.reduceMod, Int.reduceDiv, Int.reduceTDiv, Int.reduceTMod, Int.reduceBEq, Int.reduceBNe, Nat.reduceDiv, Nat.reducePow]
  exact ⟨rfl, id⟩
set_option maxRecDepth 100000 in
theorem redB_tri (a : List Nat) (wa : Bool) (hg : goodW a) (hns : ¬ redStop a = true) : Tri Try.prog 35 [.one (.sl 0 0 1 a.length)] [(0, ⟨.arr Nat natL a, wa⟩)] (.c (.one (.sl 1 0 1 16))) [(0, ⟨.arr Nat natL a, wa⟩), (1, ⟨.arr Nat natL (redRow a), true⟩)] := by
  refine tri_ofx (envR_ok gr1_ok 132 [0]) Try.func35 rfl rfl (rs := [.tmp 2]) rfl rfl (by simp [envR]) rfl ?_
  simp only [envR, con0, conN0, conN1, conN2, natsOf_arr, rowOf_arr, natsOf_cells, rowOf_cells, toN, natL_st, natL_d, natL_enc, natL_up, gr1, gaddC, gtimesC, gprimeC, gbelowC, gminC, conB2, retQx, Nat.sub_zero, go_sem, reduceCtorEq, ↓reduceIte, Nat.reduceAdd, Nat.reduceMul, Nat.reduceSub, Nat.reduceEqDiff, Nat.reduceLT, Nat.reduceBEq, Nat.reduceBNe, Nat.reduceLeDiff, Int.reduceLE, Int.reduceLT, Int.reduceToNat, Int.reduceEq, Int.reduceAdd, UInt8.reduceToNat, UInt32.reduceToNat, UInt64.reduceToNat, UInt8.reduceOfNat, UInt32.reduceOfNat, UInt64.reduceOfNat, Fin.isValue, Int.reduceSub, Int.reduceMul, Int.reduceNeg, Int.reduceMod, Int.reduceDiv, Int.reduceTDiv, Int.reduceTMod, Int.reduceBEq, Int.reduceBNe, Nat.reduceDiv, Nat.reducePow]
  refine loop_inv (envR_ok gr1_ok 132 [0]) (redOut0 a wa) (redOk0 a) (redMu a) none [] trivial ?_ ?_
  · simp only [redOut0, envR, con0, conN0, conN1, conN2, natsOf_arr, rowOf_arr, natsOf_cells, rowOf_cells, toN, natL_st, natL_d, natL_enc, natL_up, gr1, gaddC, gtimesC, gprimeC, gbelowC, gminC, conB2, retQx, Nat.sub_zero, go_sem, reduceCtorEq, ↓reduceIte, Nat.reduceAdd, Nat.reduceMul, Nat.reduceSub, Nat.reduceEqDiff, Nat.reduceLT, Nat.reduceBEq, Nat.reduceBNe, Nat.reduceLeDiff, Int.reduceLE, Int.reduceLT, Int.reduceToNat, Int.reduceEq, Int.reduceAdd, UInt8.reduceToNat, UInt32.reduceToNat, UInt64.reduceToNat, UInt8.reduceOfNat, UInt32.reduceOfNat, UInt64.reduceOfNat, Fin.isValue, Int.reduceSub, Int.reduceMul, Int.reduceNeg, Int.reduceMod, Int.reduceDiv, Int.reduceTDiv, Int.reduceTMod, Int.reduceBEq, Int.reduceBNe, Nat.reduceDiv, Nat.reducePow]
    exact ⟨rfl, id⟩
  · rintro x hx
    rcases x with _ | ⟨f, R, n⟩
    · have x3 : redInv (a, a.length) := hg.inv
      obtain ⟨f', hf'⟩ : ∃ f', f' = redMeas (a, a.length) := ⟨_, rfl⟩
      obtain ⟨s, hs⟩ : ∃ s, s = (a, a.length) := ⟨_, rfl⟩
      obtain ⟨D, hD⟩ : ∃ D, D = a.take a.length := ⟨_, rfl⟩
      have x3' : redInv s := by rw [hs]; exact x3
      obtain ⟨i1, i2, i3, i4⟩ := x3
      simp only at i1 i2 i3 i4
      have hsD : s.1.take s.2 = D := by rw [hs, hD]
      have dl : D.length = a.length := by rw [hD, List.length_take]; omega
      have bD : dlt 65536 D := by rw [hD]; exact dlt_take i1 _
      have bR : dlt 65536 a := i1
      have rD : ∀ i, i < a.length → a.getD i 0 = D.getD i 0 := fun i hi => by rw [hD]; exact take_getD _ _ _ (by rw [List.length_take]; omega)
      have hll : (lowW D).length = 16 := lowW_len (by omega)
      have hlow : dlt 65536 (lowW D) := lowW_lt bD
      have hHi : redHi s = highW D (a.length - 15) := by unfold redHi; rw [hsD, hs]
      have hK : redK s = trimW (highW D (a.length - 15)) 0 (a.length - 15) := by unfold redK; rw [hHi, hs]
      have b15 := bD 15
      have r15 : a.getD 15 0 = D.getD 15 0 := rD 15 (by omega)
      have Xg : redGo s = true → redRun f' (redNext s) = redEnd a := fun hgo => by
        unfold redEnd redF
        rw [← hf', ← hs, redRun, if_pos hgo]
      have Xm : redGo s = true → redMeas (redNext s) < f' := fun hgo => by
        have := (redNext_spec x3' hgo).2.2
        rw [hf', ← hs]; exact this
      cases c1 : decide ((16 : Int) < (a.length : Int)) with
      | true =>
        have g1 : 16 < a.length := by have := of_decide_eq_true c1; omega
        have hgo : redGo s = true := by unfold redGo; rw [hs, decide_eq_true g1]; rfl
        have X1 := Xg hgo
        have X2 := Xm hgo
        have X3 := (redNext_spec x3' hgo).1
        simp only [redOut0, c1, envR, con0, conN0, conN1, conN2, natsOf_arr, rowOf_arr, natsOf_cells, rowOf_cells, toN, natL_st, natL_d, natL_enc, natL_up, gr1, gaddC, gtimesC, gprimeC, gbelowC, gminC, conB2, retQx, Nat.sub_zero, go_sem, reduceCtorEq, ↓reduceIte, Nat.reduceAdd, Nat.reduceMul, Nat.reduceSub, Nat.reduceEqDiff, Nat.reduceLT, Nat.reduceBEq, Nat.reduceBNe, Nat.reduceLeDiff, Int.reduceLE, Int.reduceLT, Int.reduceToNat, Int.reduceEq, Int.reduceAdd, UInt8.reduceToNat, UInt32.reduceToNat, UInt64.reduceToNat, UInt8.reduceOfNat, UInt32.reduceOfNat, UInt64.reduceOfNat, Fin.isValue, Int.reduceSub, Int.reduceMul, Int.reduceNeg, Int.reduceMod, Int.reduceDiv, Int.reduceTDiv, Int.reduceTMod, Int.reduceBEq, Int.reduceBNe, Nat.reduceDiv, Nat.reducePow]
        refine loop_inv (envR_ok gr1_ok 132 [0]) (rdI1 0 a.length [(0, ⟨.arr Nat natL a, wa⟩)] D) (rdOk1 a.length) (fun x => a.length - rdIx x) (.inl 0) [(700, 30000)] (Nat.zero_le _) ?_ ?_
        · simp only [rdI1, lowI_0, envR, con0, conN0, conN1, conN2, natsOf_arr, rowOf_arr, natsOf_cells, rowOf_cells, toN, natL_st, natL_d, natL_enc, natL_up, gr1, gaddC, gtimesC, gprimeC, gbelowC, gminC, conB2, retQx, Nat.sub_zero, go_sem, reduceCtorEq, ↓reduceIte, Nat.reduceAdd, Nat.reduceMul, Nat.reduceSub, Nat.reduceEqDiff, Nat.reduceLT, Nat.reduceBEq, Nat.reduceBNe, Nat.reduceLeDiff, Int.reduceLE, Int.reduceLT, Int.reduceToNat, Int.reduceEq, Int.reduceAdd, UInt8.reduceToNat, UInt32.reduceToNat, UInt64.reduceToNat, UInt8.reduceOfNat, UInt32.reduceOfNat, UInt64.reduceOfNat, Fin.isValue, Int.reduceSub, Int.reduceMul, Int.reduceNeg, Int.reduceMod, Int.reduceDiv, Int.reduceTDiv, Int.reduceTMod, Int.reduceBEq, Int.reduceBNe, Nat.reduceDiv, Nat.reducePow]
          exact ⟨rfl, id, rfl⟩
        · rintro y hy
          rcases y with i | m
          · simp only [rdOk1] at hy
            have ll := lowI_len D i (by omega) (by omega)
            have c0 : decide ((i : Int) < (a.length : Int)) = true := decide_eq_true (by omega)
            have rA : a.getD i 0 = D.getD i 0 := rD i (by omega)
            have bA := bD i
            by_cases hi : i < 15
            · have c15 : decide ((i : Int) < 15) = true := decide_eq_true (by omega)
              have e15 : ((i : Int) == 15) = false := beq_eq_false_iff_ne.2 (by omega)
              have g15 : decide ((15 : Int) ≤ (i : Int)) = false := decide_eq_false (by omega)
              have w1 : IntKind.i64.wrap ((i : Int) + 1) = ((i + 1 : Nat) : Int) := by rw [IntKind.wrap_i64]; omega
              have st := lowI_step D i hi (by omega)
              simp only [rdI1, c0, c15, e15, g15, w1, rA, envR, con0, conN0, conN1, conN2, natsOf_arr, rowOf_arr, natsOf_cells, rowOf_cells, toN, natL_st, natL_d, natL_enc, natL_up, gr1, gaddC, gtimesC, gprimeC, gbelowC, gminC, conB2, retQx, Nat.sub_zero, go_sem, reduceCtorEq, ↓reduceIte, Nat.reduceAdd, Nat.reduceMul, Nat.reduceSub, Nat.reduceEqDiff, Nat.reduceLT, Nat.reduceBEq, Nat.reduceBNe, Nat.reduceLeDiff, Int.reduceLE, Int.reduceLT, Int.reduceToNat, Int.reduceEq, Int.reduceAdd, UInt8.reduceToNat, UInt32.reduceToNat, UInt64.reduceToNat, UInt8.reduceOfNat, UInt32.reduceOfNat, UInt64.reduceOfNat, Fin.isValue, Int.reduceSub, Int.reduceMul, Int.reduceNeg, Int.reduceMod, Int.reduceDiv, Int.reduceTDiv, Int.reduceTMod, Int.reduceBEq, Int.reduceBNe, Nat.reduceDiv, Nat.reducePow]
              repeat' apply And.intro
              all_goals first
                | omega
                | exact n19_lt
                | exact prime_lt
                | exact bD
                | exact bR
                | exact hlow
                | exact ht
                | exact hT
                | rfl
                | skip
              refine again (Sum.inl (i + 1) : Nat ⊕ Nat) [] (by simp only [rdOk1]; omega) (by simp only [rdIx]; omega) ?_
              simp only [rdI1, st, envR, con0, conN0, conN1, conN2, natsOf_arr, rowOf_arr, natsOf_cells, rowOf_cells, toN, natL_st, natL_d, natL_enc, natL_up, gr1, gaddC, gtimesC, gprimeC, gbelowC, gminC, conB2, retQx, Nat.sub_zero, go_sem, reduceCtorEq, ↓reduceIte, Nat.reduceAdd, Nat.reduceMul, Nat.reduceSub, Nat.reduceEqDiff, Nat.reduceLT, Nat.reduceBEq, Nat.reduceBNe, Nat.reduceLeDiff, Int.reduceLE, Int.reduceLT, Int.reduceToNat, Int.reduceEq, Int.reduceAdd, UInt8.reduceToNat, UInt32.reduceToNat, UInt64.reduceToNat, UInt8.reduceOfNat, UInt32.reduceOfNat, UInt64.reduceOfNat, Fin.isValue, Int.reduceSub, Int.reduceMul, Int.reduceNeg, Int.reduceMod, Int.reduceDiv, Int.reduceTDiv, Int.reduceTMod, Int.reduceBEq, Int.reduceBNe, Nat.reduceDiv, Nat.reducePow]
              exact ⟨rfl, id⟩
            · obtain rfl : i = 15 := by omega
              have c0 : decide ((15 : Int) < (a.length : Int)) = true := decide_eq_true (by omega)
              have u1 : ((D.getD 15 0 : Nat) : Int).tmod 32768 = ((D.getD 15 0 % 32768 : Nat) : Int) := by rw [show (32768 : Int) = ((32768 : Nat) : Int) from rfl, ← Int.ofNat_tmod]
              have u2 : IntKind.i64.wrap (((D.getD 15 0 : Nat) : Int).tdiv 32768) = ((D.getD 15 0 / 32768 : Nat) : Int) := by
                rw [show (32768 : Int) = ((32768 : Nat) : Int) from rfl, ← Int.ofNat_tdiv, IntKind.wrap_i64]; omega
              have st := lowI_end D (by omega)
              have hh1 : highW D 1 = [nW D 0] := rfl
              have bn := nW_lt bD 0
              have u6 : ((nW D 0 : Nat) : Int).tmod 65536 = ((nW D 0 : Nat) : Int) := by rw [show (65536 : Int) = ((65536 : Nat) : Int) from rfl, ← Int.ofNat_tmod, Nat.mod_eq_of_lt bn]
              have rB : a.getD 16 0 = D.getD 16 0 := rD 16 (by omega)
              have bB := bD 16
              have u3 : ((D.getD 16 0 : Nat) : Int).tmod 32768 = ((D.getD 16 0 % 32768 : Nat) : Int) := by rw [show (32768 : Int) = ((32768 : Nat) : Int) from rfl, ← Int.ofNat_tmod]
              have u4 : IntKind.i64.wrap (((D.getD 16 0 % 32768 : Nat) : Int) * 2) = ((D.getD 16 0 % 32768 * 2 : Nat) : Int) := by rw [IntKind.wrap_i64]; omega
              have u5 : IntKind.i64.wrap (((D.getD 15 0 / 32768 : Nat) : Int) + ((D.getD 16 0 % 32768 * 2 : Nat) : Int)) = ((nW D 0 : Nat) : Int) := by
                rw [IntKind.wrap_i64]; simp only [nW, Nat.add_zero, Nat.reduceAdd]; omega
              simp only [rdI1, c0, c1, u1, u2, u3, u4, u5, u6, rA, rB, envR, con0, conN0, conN1, conN2, natsOf_arr, rowOf_arr, natsOf_cells, rowOf_cells, toN, natL_st, natL_d, natL_enc, natL_up, gr1, gaddC, gtimesC, gprimeC, gbelowC, gminC, conB2, retQx, Nat.sub_zero, go_sem, reduceCtorEq, ↓reduceIte, Nat.reduceAdd, Nat.reduceMul, Nat.reduceSub, Nat.reduceEqDiff, Nat.reduceLT, Nat.reduceBEq, Nat.reduceBNe, Nat.reduceLeDiff, Int.reduceLE, Int.reduceLT, Int.reduceToNat, Int.reduceEq, Int.reduceAdd, UInt8.reduceToNat, UInt32.reduceToNat, UInt64.reduceToNat, UInt8.reduceOfNat, UInt32.reduceOfNat, UInt64.reduceOfNat, Fin.isValue, Int.reduceSub, Int.reduceMul, Int.reduceNeg, Int.reduceMod, Int.reduceDiv, Int.reduceTDiv, Int.reduceTMod, Int.reduceBEq, Int.reduceBNe, Nat.reduceDiv, Nat.reducePow]
              repeat' apply And.intro
              all_goals first
                | omega
                | exact n19_lt
                | exact prime_lt
                | exact bD
                | exact bR
                | exact hlow
                | exact ht
                | exact hT
                | rfl
                | skip
              refine again (Sum.inr 0 : Nat ⊕ Nat) [(800, 160032)] (by simp only [rdOk1]; omega) (by simp only [rdIx]; omega) ?_
              simp only [rdI1, st, hh1, envR, con0, conN0, conN1, conN2, natsOf_arr, rowOf_arr, natsOf_cells, rowOf_cells, toN, natL_st, natL_d, natL_enc, natL_up, gr1, gaddC, gtimesC, gprimeC, gbelowC, gminC, conB2, retQx, Nat.sub_zero, go_sem, reduceCtorEq, ↓reduceIte, Nat.reduceAdd, Nat.reduceMul, Nat.reduceSub, Nat.reduceEqDiff, Nat.reduceLT, Nat.reduceBEq, Nat.reduceBNe, Nat.reduceLeDiff, Int.reduceLE, Int.reduceLT, Int.reduceToNat, Int.reduceEq, Int.reduceAdd, UInt8.reduceToNat, UInt32.reduceToNat, UInt64.reduceToNat, UInt8.reduceOfNat, UInt32.reduceOfNat, UInt64.reduceOfNat, Fin.isValue, Int.reduceSub, Int.reduceMul, Int.reduceNeg, Int.reduceMod, Int.reduceDiv, Int.reduceTDiv, Int.reduceTMod, Int.reduceBEq, Int.reduceBNe, Nat.reduceDiv, Nat.reducePow]
              exact ⟨rfl, id⟩
          · simp only [rdOk1] at hy
            have bA := bD (16 + m)
            have bB := bD (16 + m + 1)
            have hhl := highW_len D (m + 1)
            cases c0 : decide (((16 + m : Nat) : Int) < (a.length : Int)) with
            | true =>
              have g0 : 16 + m < a.length := by have := of_decide_eq_true c0; omega
              have c15 : decide (((16 + m : Nat) : Int) < 15) = false := decide_eq_false (by omega)
              have e15 : (((16 + m : Nat) : Int) == 15) = false := beq_eq_false_iff_ne.2 (by omega)
              have g15 : decide ((15 : Int) ≤ ((16 + m : Nat) : Int)) = true := decide_eq_true (by omega)
              have w1 : IntKind.i64.wrap (((16 + m : Nat) : Int) + 1) = ((16 + m + 1 : Nat) : Int) := by rw [IntKind.wrap_i64]; omega
              have rA : a.getD (16 + m) 0 = D.getD (16 + m) 0 := rD _ (by omega)
              have u2 : IntKind.i64.wrap (((D.getD (16 + m) 0 : Nat) : Int).tdiv 32768) = ((D.getD (16 + m) 0 / 32768 : Nat) : Int) := by
                rw [show (32768 : Int) = ((32768 : Nat) : Int) from rfl, ← Int.ofNat_tdiv, IntKind.wrap_i64]; omega
              have hn : nW D (m + 1) = D.getD (16 + m) 0 / 32768 + D.getD (16 + m + 1) 0 % 32768 * 2 := by
                unfold nW; rw [show 15 + (m + 1) = 16 + m by omega]
              have bn := nW_lt bD (m + 1)
              have u6 : ((nW D (m + 1) : Nat) : Int).tmod 65536 = ((nW D (m + 1) : Nat) : Int) := by rw [show (65536 : Int) = ((65536 : Nat) : Int) from rfl, ← Int.ofNat_tmod, Nat.mod_eq_of_lt bn]
              have hh1 := highW_succ D (m + 1)
              have hidx : 16 + (m + 1) = 16 + m + 1 := rfl
              cases c4 : decide (((16 + m + 1 : Nat) : Int) < (a.length : Int)) with
              | true =>
                have g4 : 16 + m + 1 < a.length := by have := of_decide_eq_true c4; omega
                have rB : a.getD (16 + m + 1) 0 = D.getD (16 + m + 1) 0 := rD _ (by omega)
                have u3 : ((D.getD (16 + m + 1) 0 : Nat) : Int).tmod 32768 = ((D.getD (16 + m + 1) 0 % 32768 : Nat) : Int) := by rw [show (32768 : Int) = ((32768 : Nat) : Int) from rfl, ← Int.ofNat_tmod]
                have u4 : IntKind.i64.wrap (((D.getD (16 + m + 1) 0 % 32768 : Nat) : Int) * 2) = ((D.getD (16 + m + 1) 0 % 32768 * 2 : Nat) : Int) := by rw [IntKind.wrap_i64]; omega
                have u5 : IntKind.i64.wrap (((D.getD (16 + m) 0 / 32768 : Nat) : Int) + ((D.getD (16 + m + 1) 0 % 32768 * 2 : Nat) : Int)) = ((nW D (m + 1) : Nat) : Int) := by
                  rw [IntKind.wrap_i64, hn]; omega
                simp only [rdI1, c0, c15, e15, g15, c4, w1, u2, u3, u4, u5, u6, rA, rB, envR, con0, conN0, conN1, conN2, natsOf_arr, rowOf_arr, natsOf_cells, rowOf_cells, toN, natL_st, natL_d, natL_enc, natL_up, gr1, gaddC, gtimesC, gprimeC, gbelowC, gminC, conB2, retQx, Nat.sub_zero, go_sem, reduceCtorEq, ↓reduceIte, Nat.reduceAdd, Nat.reduceMul, Nat.reduceSub, Nat.reduceEqDiff, Nat.reduceLT, Nat.reduceBEq, Nat.reduceBNe, Nat.reduceLeDiff, Int.reduceLE, Int.reduceLT, Int.reduceToNat, Int.reduceEq, Int.reduceAdd, UInt8.reduceToNat, UInt32.reduceToNat, UInt64.reduceToNat, UInt8.reduceOfNat, UInt32.reduceOfNat, UInt64.reduceOfNat, Fin.isValue, Int.reduceSub, Int.reduceMul, Int.reduceNeg, Int.reduceMod, Int.reduceDiv, Int.reduceTDiv, Int.reduceTMod, Int.reduceBEq, Int.reduceBNe, Nat.reduceDiv, Nat.reducePow]
                repeat' apply And.intro
                all_goals first
                  | omega
                  | exact n19_lt
                  | exact prime_lt
                  | exact bD
                  | exact bR
                  | exact hlow
                  | exact ht
                  | exact hT
                  | rfl
                  | skip
                refine again (Sum.inr (m + 1) : Nat ⊕ Nat) [(800, 160032)] (by simp only [rdOk1]; omega) (by simp only [rdIx]; omega) ?_
                simp only [rdI1, hh1, hidx, envR, con0, conN0, conN1, conN2, natsOf_arr, rowOf_arr, natsOf_cells, rowOf_cells, toN, natL_st, natL_d, natL_enc, natL_up, gr1, gaddC, gtimesC, gprimeC, gbelowC, gminC, conB2, retQx, Nat.sub_zero, go_sem, reduceCtorEq, ↓reduceIte, Nat.reduceAdd, Nat.reduceMul, Nat.reduceSub, Nat.reduceEqDiff, Nat.reduceLT, Nat.reduceBEq, Nat.reduceBNe, Nat.reduceLeDiff, Int.reduceLE, Int.reduceLT, Int.reduceToNat, Int.reduceEq, Int.reduceAdd, UInt8.reduceToNat, UInt32.reduceToNat, UInt64.reduceToNat, UInt8.reduceOfNat, UInt32.reduceOfNat, UInt64.reduceOfNat, Fin.isValue, Int.reduceSub, Int.reduceMul, Int.reduceNeg, Int.reduceMod, Int.reduceDiv, Int.reduceTDiv, Int.reduceTMod, Int.reduceBEq, Int.reduceBNe, Nat.reduceDiv, Nat.reducePow]
                exact ⟨rfl, id⟩
              | false =>
                have z := getD_out (l := D) (i := 16 + m + 1) (by have := of_decide_eq_false c4; omega)
                have u5 : ((D.getD (16 + m) 0 / 32768 : Nat) : Int) = ((nW D (m + 1) : Nat) : Int) := by
                  rw [hn, z]; omega
                simp only [rdI1, c0, c15, e15, g15, c4, w1, u2, u5, u6, rA, envR, con0, conN0, conN1, conN2, natsOf_arr, rowOf_arr, natsOf_cells, rowOf_cells, toN, natL_st, natL_d, natL_enc, natL_up, gr1, gaddC, gtimesC, gprimeC, gbelowC, gminC, conB2, retQx, Nat.sub_zero, go_sem, reduceCtorEq, ↓reduceIte, Nat.reduceAdd, Nat.reduceMul, Nat.reduceSub, Nat.reduceEqDiff, Nat.reduceLT, Nat.reduceBEq, Nat.reduceBNe, Nat.reduceLeDiff, Int.reduceLE, Int.reduceLT, Int.reduceToNat, Int.reduceEq, Int.reduceAdd, UInt8.reduceToNat, UInt32.reduceToNat, UInt64.reduceToNat, UInt8.reduceOfNat, UInt32.reduceOfNat, UInt64.reduceOfNat, Fin.isValue, Int.reduceSub, Int.reduceMul, Int.reduceNeg, Int.reduceMod, Int.reduceDiv, Int.reduceTDiv, Int.reduceTMod, Int.reduceBEq, Int.reduceBNe, Nat.reduceDiv, Nat.reducePow]
                repeat' apply And.intro
                all_goals first
                  | omega
                  | exact n19_lt
                  | exact prime_lt
                  | exact bD
                  | exact bR
                  | exact hlow
                  | exact ht
                  | exact hT
                  | rfl
                  | skip
                refine again (Sum.inr (m + 1) : Nat ⊕ Nat) [(800, 160032)] (by simp only [rdOk1]; omega) (by simp only [rdIx]; omega) ?_
                simp only [rdI1, hh1, hidx, envR, con0, conN0, conN1, conN2, natsOf_arr, rowOf_arr, natsOf_cells, rowOf_cells, toN, natL_st, natL_d, natL_enc, natL_up, gr1, gaddC, gtimesC, gprimeC, gbelowC, gminC, conB2, retQx, Nat.sub_zero, go_sem, reduceCtorEq, ↓reduceIte, Nat.reduceAdd, Nat.reduceMul, Nat.reduceSub, Nat.reduceEqDiff, Nat.reduceLT, Nat.reduceBEq, Nat.reduceBNe, Nat.reduceLeDiff, Int.reduceLE, Int.reduceLT, Int.reduceToNat, Int.reduceEq, Int.reduceAdd, UInt8.reduceToNat, UInt32.reduceToNat, UInt64.reduceToNat, UInt8.reduceOfNat, UInt32.reduceOfNat, UInt64.reduceOfNat, Fin.isValue, Int.reduceSub, Int.reduceMul, Int.reduceNeg, Int.reduceMod, Int.reduceDiv, Int.reduceTDiv, Int.reduceTMod, Int.reduceBEq, Int.reduceBNe, Nat.reduceDiv, Nat.reducePow]
                exact ⟨rfl, id⟩
            | false =>
              have ge : m + 1 = a.length - 15 := by have := of_decide_eq_false c0; omega
              have hbh := highW_lt bD (m + 1)
              rw [← ge] at hHi hK
              simp only [rdI1, c0, envR, con0, conN0, conN1, conN2, natsOf_arr, rowOf_arr, natsOf_cells, rowOf_cells, toN, natL_st, natL_d, natL_enc, natL_up, gr1, gaddC, gtimesC, gprimeC, gbelowC, gminC, conB2, retQx, Nat.sub_zero, go_sem, reduceCtorEq, ↓reduceIte, Nat.reduceAdd, Nat.reduceMul, Nat.reduceSub, Nat.reduceEqDiff, Nat.reduceLT, Nat.reduceBEq, Nat.reduceBNe, Nat.reduceLeDiff, Int.reduceLE, Int.reduceLT, Int.reduceToNat, Int.reduceEq, Int.reduceAdd, UInt8.reduceToNat, UInt32.reduceToNat, UInt64.reduceToNat, UInt8.reduceOfNat, UInt32.reduceOfNat, UInt64.reduceOfNat, Fin.isValue, Int.reduceSub, Int.reduceMul, Int.reduceNeg, Int.reduceMod, Int.reduceDiv, Int.reduceTDiv, Int.reduceTMod, Int.reduceBEq, Int.reduceBNe, Nat.reduceDiv, Nat.reducePow]
              refine loop_inv (envR_ok gr1_ok 132 [0]) (rdI2 a wa D (m + 1)) (fun k => trimW (highW D (m + 1)) 0 k = trimW (highW D (m + 1)) 0 (m + 1) ∧ k ≤ m + 1) (fun k => k) (m + 1) [] ⟨rfl, Nat.le_refl _⟩ ?_ ?_
              · simp only [rdI2, envR, con0, conN0, conN1, conN2, natsOf_arr, rowOf_arr, natsOf_cells, rowOf_cells, toN, natL_st, natL_d, natL_enc, natL_up, gr1, gaddC, gtimesC, gprimeC, gbelowC, gminC, conB2, retQx, Nat.sub_zero, go_sem, reduceCtorEq, ↓reduceIte, Nat.reduceAdd, Nat.reduceMul, Nat.reduceSub, Nat.reduceEqDiff, Nat.reduceLT, Nat.reduceBEq, Nat.reduceBNe, Nat.reduceLeDiff, Int.reduceLE, Int.reduceLT, Int.reduceToNat, Int.reduceEq, Int.reduceAdd, UInt8.reduceToNat, UInt32.reduceToNat, UInt64.reduceToNat, UInt8.reduceOfNat, UInt32.reduceOfNat, UInt64.reduceOfNat, Fin.isValue, Int.reduceSub, Int.reduceMul, Int.reduceNeg, Int.reduceMod, Int.reduceDiv, Int.reduceTDiv, Int.reduceTMod, Int.reduceBEq, Int.reduceBNe, Nat.reduceDiv, Nat.reducePow]
                exact ⟨rfl, id⟩
              · rintro k ⟨k1, k2⟩
                rcases k with _ | j
                · have hk0 : redK s = 0 := hK.trans k1.symm
                  have hr0 : redR s = lowW D := by unfold redR; rw [if_pos hk0, hsD]
                  have hnx : redNext s = (lowW D, 16) := by
                    unfold redNext
                    rw [hr0, hll]
                    exact congrArg _ (trimW_stop (.inr (.inl (Nat.le_refl _))))
                  rw [hnx] at X1 X2 X3
                  simp only [rdI2, envR, con0, conN0, conN1, conN2, natsOf_arr, rowOf_arr, natsOf_cells, rowOf_cells, toN, natL_st, natL_d, natL_enc, natL_up, gr1, gaddC, gtimesC, gprimeC, gbelowC, gminC, conB2, retQx, Nat.sub_zero, go_sem, reduceCtorEq, ↓reduceIte, Nat.reduceAdd, Nat.reduceMul, Nat.reduceSub, Nat.reduceEqDiff, Nat.reduceLT, Nat.reduceBEq, Nat.reduceBNe, Nat.reduceLeDiff, Int.reduceLE, Int.reduceLT, Int.reduceToNat, Int.reduceEq, Int.reduceAdd, UInt8.reduceToNat, UInt32.reduceToNat, UInt64.reduceToNat, UInt8.reduceOfNat, UInt32.reduceOfNat, UInt64.reduceOfNat, Fin.isValue, Int.reduceSub, Int.reduceMul, Int.reduceNeg, Int.reduceMod, Int.reduceDiv, Int.reduceTDiv, Int.reduceTMod, Int.reduceBEq, Int.reduceBNe, Nat.reduceDiv, Nat.reducePow]
                  refine loop_rounds (envR_ok gr1_ok 132 [0]) 1 ?_
                  simp only [rdI2, envR, con0, conN0, conN1, conN2, natsOf_arr, rowOf_arr, natsOf_cells, rowOf_cells, toN, natL_st, natL_d, natL_enc, natL_up, gr1, gaddC, gtimesC, gprimeC, gbelowC, gminC, conB2, retQx, Nat.sub_zero, go_sem, reduceCtorEq, ↓reduceIte, Nat.reduceAdd, Nat.reduceMul, Nat.reduceSub, Nat.reduceEqDiff, Nat.reduceLT, Nat.reduceBEq, Nat.reduceBNe, Nat.reduceLeDiff, Int.reduceLE, Int.reduceLT, Int.reduceToNat, Int.reduceEq, Int.reduceAdd, UInt8.reduceToNat, UInt32.reduceToNat, UInt64.reduceToNat, UInt8.reduceOfNat, UInt32.reduceOfNat, UInt64.reduceOfNat, Fin.isValue, Int.reduceSub, Int.reduceMul, Int.reduceNeg, Int.reduceMod, Int.reduceDiv, Int.reduceTDiv, Int.reduceTMod, Int.reduceBEq, Int.reduceBNe, Nat.reduceDiv, Nat.reducePow]
                  refine again (some (f', lowW D, 16) : Option (Nat × List Nat × Nat)) [(600, 700)] ⟨X1, X2, X3⟩ (by simp only [redMu]; omega) ?_
                  simp only [redOut0, envR, con0, conN0, conN1, conN2, natsOf_arr, rowOf_arr, natsOf_cells, rowOf_cells, toN, natL_st, natL_d, natL_enc, natL_up, gr1, gaddC, gtimesC, gprimeC, gbelowC, gminC, conB2, retQx, Nat.sub_zero, go_sem, reduceCtorEq, ↓reduceIte, Nat.reduceAdd, Nat.reduceMul, Nat.reduceSub, Nat.reduceEqDiff, Nat.reduceLT, Nat.reduceBEq, Nat.reduceBNe, Nat.reduceLeDiff, Int.reduceLE, Int.reduceLT, Int.reduceToNat, Int.reduceEq, Int.reduceAdd, UInt8.reduceToNat, UInt32.reduceToNat, UInt64.reduceToNat, UInt8.reduceOfNat, UInt32.reduceOfNat, UInt64.reduceOfNat, Fin.isValue, Int.reduceSub, Int.reduceMul, Int.reduceNeg, Int.reduceMod, Int.reduceDiv, Int.reduceTDiv, Int.reduceTMod, Int.reduceBEq, Int.reduceBNe, Nat.reduceDiv, Nat.reducePow]
                  exact ⟨rfl, id⟩
                · have hwj : IntKind.i64.wrap (((j + 1 : Nat) : Int) - 1) = (j : Int) := by rw [IntKind.wrap_i64]; omega
                  have cpos : decide ((0 : Int) < ((j + 1 : Nat) : Int)) = true := decide_eq_true (by omega)
                  cases cz : ((((highW D (m + 1)).getD j 0 : Nat) : Int) == 0) with
                  | true =>
                    have gz : (highW D (m + 1)).getD j 0 = 0 := by have := eq_of_beq cz; omega
                    have k1' := (trimW_go (Nat.zero_le j) gz).symm.trans k1
                    simp only [rdI2, hwj, cpos, cz, envR, con0, conN0, conN1, conN2, natsOf_arr, rowOf_arr, natsOf_cells, rowOf_cells, toN, natL_st, natL_d, natL_enc, natL_up, gr1, gaddC, gtimesC, gprimeC, gbelowC, gminC, conB2, retQx, Nat.sub_zero, go_sem, reduceCtorEq, ↓reduceIte, Nat.reduceAdd, Nat.reduceMul, Nat.reduceSub, Nat.reduceEqDiff, Nat.reduceLT, Nat.reduceBEq, Nat.reduceBNe, Nat.reduceLeDiff, Int.reduceLE, Int.reduceLT, Int.reduceToNat, Int.reduceEq, Int.reduceAdd, UInt8.reduceToNat, UInt32.reduceToNat, UInt64.reduceToNat, UInt8.reduceOfNat, UInt32.reduceOfNat, UInt64.reduceOfNat, Fin.isValue, Int.reduceSub, Int.reduceMul, Int.reduceNeg, Int.reduceMod, Int.reduceDiv, Int.reduceTDiv, Int.reduceTMod, Int.reduceBEq, Int.reduceBNe, Nat.reduceDiv, Nat.reducePow]
                    repeat' apply And.intro
                    all_goals first
                      | omega
                      | exact n19_lt
                      | exact prime_lt
                      | exact bD
                      | exact bR
                      | exact hlow
                      | exact ht
                      | exact hT
                      | rfl
                      | skip
                    refine again j [] ⟨k1', by omega⟩ (by omega) ?_
                    simp only [rdI2, envR, con0, conN0, conN1, conN2, natsOf_arr, rowOf_arr, natsOf_cells, rowOf_cells, toN, natL_st, natL_d, natL_enc, natL_up, gr1, gaddC, gtimesC, gprimeC, gbelowC, gminC, conB2, retQx, Nat.sub_zero, go_sem, reduceCtorEq, ↓reduceIte, Nat.reduceAdd, Nat.reduceMul, Nat.reduceSub, Nat.reduceEqDiff, Nat.reduceLT, Nat.reduceBEq, Nat.reduceBNe, Nat.reduceLeDiff, Int.reduceLE, Int.reduceLT, Int.reduceToNat, Int.reduceEq, Int.reduceAdd, UInt8.reduceToNat, UInt32.reduceToNat, UInt64.reduceToNat, UInt8.reduceOfNat, UInt32.reduceOfNat, UInt64.reduceOfNat, Fin.isValue, Int.reduceSub, Int.reduceMul, Int.reduceNeg, Int.reduceMod, Int.reduceDiv, Int.reduceTDiv, Int.reduceTMod, Int.reduceBEq, Int.reduceBNe, Nat.reduceDiv, Nat.reducePow]
                    exact ⟨rfl, id⟩
                  | false =>
                    have gz : (highW D (m + 1)).getD j 0 ≠ 0 := by have := ne_of_beq_false cz; omega
                    have hk1 : redK s = j + 1 := (hK.trans k1.symm).trans (trimW_stop (.inr (.inr gz)))
                    have hr1 : redR s = addL 65536 (lowW D) (timesL 65536 ((highW D (m + 1)).take (j + 1)) [19]) := by unfold redR; rw [if_neg (by rw [hk1]; omega), hk1, hHi, hsD]
                    have ht : dlt 65536 ((highW D (m + 1)).take (j + 1)) := dlt_take hbh _
                    have hT : dlt 65536 (timesL 65536 ((highW D (m + 1)).take (j + 1)) [19]) := timesL_lt (by decide) ht n19_lt
                    have hTl : (timesL 65536 ((highW D (m + 1)).take (j + 1)) [19]).length = j + 1 + 1 := by rw [timesL_len, List.length_take, hhl, Nat.min_eq_left k2]; rfl
                    have htl : (lowW D).take 16 = lowW D := List.take_of_length_le (by omega)
                    have l19 : [19].take 1 = [19] := rfl
                    have hAl := addLen_bd 65536 (lowW D) (timesL 65536 ((highW D (m + 1)).take (j + 1)) [19])
                    rw [← addL_len, hll, hTl] at hAl
                    simp only [rdI2, hwj, cpos, cz, htl, List.take_length, envR, con0, conN0, conN1, conN2, natsOf_arr, rowOf_arr, natsOf_cells, rowOf_cells, toN, natL_st, natL_d, natL_enc, natL_up, gr1, gaddC, gtimesC, gprimeC, gbelowC, gminC, conB2, retQx, Nat.sub_zero, go_sem, reduceCtorEq, ↓reduceIte, Nat.reduceAdd, Nat.reduceMul, Nat.reduceSub, Nat.reduceEqDiff, Nat.reduceLT, Nat.reduceBEq, Nat.reduceBNe, Nat.reduceLeDiff, Int.reduceLE, Int.reduceLT, Int.reduceToNat, Int.reduceEq, Int.reduceAdd, UInt8.reduceToNat, UInt32.reduceToNat, UInt64.reduceToNat, UInt8.reduceOfNat, UInt32.reduceOfNat, UInt64.reduceOfNat, Fin.isValue, Int.reduceSub, Int.reduceMul, Int.reduceNeg, Int.reduceMod, Int.reduceDiv, Int.reduceTDiv, Int.reduceTMod, Int.reduceBEq, Int.reduceBNe, Nat.reduceDiv, Nat.reducePow]
                    repeat' apply And.intro
                    all_goals first
                      | omega
                      | exact n19_lt
                      | exact prime_lt
                      | exact bD
                      | exact bR
                      | exact hlow
                      | exact ht
                      | exact hT
                      | rfl
                      | skip
                    obtain ⟨R', hR'⟩ : ∃ R', R' = addL 65536 (lowW D) (timesL 65536 ((highW D (m + 1)).take (j + 1)) [19]) := ⟨_, rfl⟩
                    rw [← hR'] at hr1 hAl ⊢
                    refine loop_inv (envR_ok gr1_ok 132 [0]) (rdI4 a wa R') (fun q => trimW R' 16 q = trimW R' 16 R'.length ∧ 16 ≤ q ∧ q ≤ R'.length) (fun q => q) R'.length [(900, 210032)] ⟨rfl, by omega, Nat.le_refl _⟩ ?_ ?_
                    · simp only [rdI4, envR, con0, conN0, conN1, conN2, natsOf_arr, rowOf_arr, natsOf_cells, rowOf_cells, toN, natL_st, natL_d, natL_enc, natL_up, gr1, gaddC, gtimesC, gprimeC, gbelowC, gminC, conB2, retQx, Nat.sub_zero, go_sem, reduceCtorEq, ↓reduceIte, Nat.reduceAdd, Nat.reduceMul, Nat.reduceSub, Nat.reduceEqDiff, Nat.reduceLT, Nat.reduceBEq, Nat.reduceBNe, Nat.reduceLeDiff, Int.reduceLE, Int.reduceLT, Int.reduceToNat, Int.reduceEq, Int.reduceAdd, UInt8.reduceToNat, UInt32.reduceToNat, UInt64.reduceToNat, UInt8.reduceOfNat, UInt32.reduceOfNat, UInt64.reduceOfNat, Fin.isValue, Int.reduceSub, Int.reduceMul, Int.reduceNeg, Int.reduceMod, Int.reduceDiv, Int.reduceTDiv, Int.reduceTMod, Int.reduceBEq, Int.reduceBNe, Nat.reduceDiv, Nat.reducePow]
                      exact ⟨rfl, id⟩
                    · rintro q ⟨q1, q2, q3⟩
                      have hnx : ∀ p, trimW R' 16 q = p → redNext s = (R', p) := fun p hp => by
                        unfold redNext
                        rw [hr1, ← q1, hp]
                      cases c16 : decide ((16 : Int) < (q : Int)) with
                      | false =>
                        obtain rfl : q = 16 := by have := of_decide_eq_false c16; omega
                        rw [hnx 16 (trimW_stop (.inr (.inl (Nat.le_refl _))))] at X1 X2 X3
                        simp only [rdI4, envR, con0, conN0, conN1, conN2, natsOf_arr, rowOf_arr, natsOf_cells, rowOf_cells, toN, natL_st, natL_d, natL_enc, natL_up, gr1, gaddC, gtimesC, gprimeC, gbelowC, gminC, conB2, retQx, Nat.sub_zero, go_sem, reduceCtorEq, ↓reduceIte, Nat.reduceAdd, Nat.reduceMul, Nat.reduceSub, Nat.reduceEqDiff, Nat.reduceLT, Nat.reduceBEq, Nat.reduceBNe, Nat.reduceLeDiff, Int.reduceLE, Int.reduceLT, Int.reduceToNat, Int.reduceEq, Int.reduceAdd, UInt8.reduceToNat, UInt32.reduceToNat, UInt64.reduceToNat, UInt8.reduceOfNat, UInt32.reduceOfNat, UInt64.reduceOfNat, Fin.isValue, Int.reduceSub, Int.reduceMul, Int.reduceNeg, Int.reduceMod, Int.reduceDiv, Int.reduceTDiv, Int.reduceTMod, Int.reduceBEq, Int.reduceBNe, Nat.reduceDiv, Nat.reducePow]
                        refine again (some (f', R', 16) : Option (Nat × List Nat × Nat)) [(600, 900)] ⟨X1, X2, X3⟩ (by simp only [redMu]; omega) ?_
                        simp only [redOut0, envR, con0, conN0, conN1, conN2, natsOf_arr, rowOf_arr, natsOf_cells, rowOf_cells, toN, natL_st, natL_d, natL_enc, natL_up, gr1, gaddC, gtimesC, gprimeC, gbelowC, gminC, conB2, retQx, Nat.sub_zero, go_sem, reduceCtorEq, ↓reduceIte, Nat.reduceAdd, Nat.reduceMul, Nat.reduceSub, Nat.reduceEqDiff, Nat.reduceLT, Nat.reduceBEq, Nat.reduceBNe, Nat.reduceLeDiff, Int.reduceLE, Int.reduceLT, Int.reduceToNat, Int.reduceEq, Int.reduceAdd, UInt8.reduceToNat, UInt32.reduceToNat, UInt64.reduceToNat, UInt8.reduceOfNat, UInt32.reduceOfNat, UInt64.reduceOfNat, Fin.isValue, Int.reduceSub, Int.reduceMul, Int.reduceNeg, Int.reduceMod, Int.reduceDiv, Int.reduceTDiv, Int.reduceTMod, Int.reduceBEq, Int.reduceBNe, Nat.reduceDiv, Nat.reducePow]
                        exact ⟨rfl, id⟩
                      | true =>
                        obtain ⟨j', rfl⟩ : ∃ j', q = j' + 1 := ⟨q - 1, by have := of_decide_eq_true c16; omega⟩
                        have hj : 16 ≤ j' := by have := of_decide_eq_true c16; omega
                        have hwj' : IntKind.i64.wrap (((j' + 1 : Nat) : Int) - 1) = (j' : Int) := by rw [IntKind.wrap_i64]; omega
                        cases cy : (((R'.getD j' 0 : Nat) : Int) == 0) with
                        | true =>
                          have gy : R'.getD j' 0 = 0 := by have := eq_of_beq cy; omega
                          have q1' := (trimW_go hj gy).symm.trans q1
                          simp only [rdI4, c16, hwj', cy, envR, con0, conN0, conN1, conN2, natsOf_arr, rowOf_arr, natsOf_cells, rowOf_cells, toN, natL_st, natL_d, natL_enc, natL_up, gr1, gaddC, gtimesC, gprimeC, gbelowC, gminC, conB2, retQx, Nat.sub_zero, go_sem, reduceCtorEq, ↓reduceIte, Nat.reduceAdd, Nat.reduceMul, Nat.reduceSub, Nat.reduceEqDiff, Nat.reduceLT, Nat.reduceBEq, Nat.reduceBNe, Nat.reduceLeDiff, Int.reduceLE, Int.reduceLT, Int.reduceToNat, Int.reduceEq, Int.reduceAdd, UInt8.reduceToNat, UInt32.reduceToNat, UInt64.reduceToNat, UInt8.reduceOfNat, UInt32.reduceOfNat, UInt64.reduceOfNat, Fin.isValue, Int.reduceSub, Int.reduceMul, Int.reduceNeg, Int.reduceMod, Int.reduceDiv, Int.reduceTDiv, Int.reduceTMod, Int.reduceBEq, Int.reduceBNe, Nat.reduceDiv, Nat.reducePow]
                          repeat' apply And.intro
                          all_goals first
                            | omega
                            | exact n19_lt
                            | exact prime_lt
                            | exact bD
                            | exact bR
                            | exact hlow
                            | exact ht
                            | exact hT
                            | rfl
                            | skip
                          refine again j' [] ⟨q1', by omega⟩ (by omega) ?_
                          simp only [rdI4, envR, con0, conN0, conN1, conN2, natsOf_arr, rowOf_arr, natsOf_cells, rowOf_cells, toN, natL_st, natL_d, natL_enc, natL_up, gr1, gaddC, gtimesC, gprimeC, gbelowC, gminC, conB2, retQx, Nat.sub_zero, go_sem, reduceCtorEq, ↓reduceIte, Nat.reduceAdd, Nat.reduceMul, Nat.reduceSub, Nat.reduceEqDiff, Nat.reduceLT, Nat.reduceBEq, Nat.reduceBNe, Nat.reduceLeDiff, Int.reduceLE, Int.reduceLT, Int.reduceToNat, Int.reduceEq, Int.reduceAdd, UInt8.reduceToNat, UInt32.reduceToNat, UInt64.reduceToNat, UInt8.reduceOfNat, UInt32.reduceOfNat, UInt64.reduceOfNat, Fin.isValue, Int.reduceSub, Int.reduceMul, Int.reduceNeg, Int.reduceMod, Int.reduceDiv, Int.reduceTDiv, Int.reduceTMod, Int.reduceBEq, Int.reduceBNe, Nat.reduceDiv, Nat.reducePow]
                          exact ⟨rfl, id⟩
                        | false =>
                          have gy : R'.getD j' 0 ≠ 0 := by have := ne_of_beq_false cy; omega
                          rw [hnx (j' + 1) (trimW_stop (.inr (.inr gy)))] at X1 X2 X3
                          simp only [rdI4, c16, hwj', cy, envR, con0, conN0, conN1, conN2, natsOf_arr, rowOf_arr, natsOf_cells, rowOf_cells, toN, natL_st, natL_d, natL_enc, natL_up, gr1, gaddC, gtimesC, gprimeC, gbelowC, gminC, conB2, retQx, Nat.sub_zero, go_sem, reduceCtorEq, ↓reduceIte, Nat.reduceAdd, Nat.reduceMul, Nat.reduceSub, Nat.reduceEqDiff, Nat.reduceLT, Nat.reduceBEq, Nat.reduceBNe, Nat.reduceLeDiff, Int.reduceLE, Int.reduceLT, Int.reduceToNat, Int.reduceEq, Int.reduceAdd, UInt8.reduceToNat, UInt32.reduceToNat, UInt64.reduceToNat, UInt8.reduceOfNat, UInt32.reduceOfNat, UInt64.reduceOfNat, Fin.isValue, Int.reduceSub, Int.reduceMul, Int.reduceNeg, Int.reduceMod, Int.reduceDiv, Int.reduceTDiv, Int.reduceTMod, Int.reduceBEq, Int.reduceBNe, Nat.reduceDiv, Nat.reducePow]
                          repeat' apply And.intro
                          all_goals first
                            | omega
                            | exact n19_lt
                            | exact prime_lt
                            | exact bD
                            | exact bR
                            | exact hlow
                            | exact ht
                            | exact hT
                            | rfl
                            | skip
                          refine again (some (f', R', j' + 1) : Option (Nat × List Nat × Nat)) [(600, 900)] ⟨X1, X2, X3⟩ (by simp only [redMu]; omega) ?_
                          simp only [redOut0, envR, con0, conN0, conN1, conN2, natsOf_arr, rowOf_arr, natsOf_cells, rowOf_cells, toN, natL_st, natL_d, natL_enc, natL_up, gr1, gaddC, gtimesC, gprimeC, gbelowC, gminC, conB2, retQx, Nat.sub_zero, go_sem, reduceCtorEq, ↓reduceIte, Nat.reduceAdd, Nat.reduceMul, Nat.reduceSub, Nat.reduceEqDiff, Nat.reduceLT, Nat.reduceBEq, Nat.reduceBNe, Nat.reduceLeDiff, Int.reduceLE, Int.reduceLT, Int.reduceToNat, Int.reduceEq, Int.reduceAdd, UInt8.reduceToNat, UInt32.reduceToNat, UInt64.reduceToNat, UInt8.reduceOfNat, UInt32.reduceOfNat, UInt64.reduceOfNat, Fin.isValue, Int.reduceSub, Int.reduceMul, Int.reduceNeg, Int.reduceMod, Int.reduceDiv, Int.reduceTDiv, Int.reduceTMod, Int.reduceBEq, Int.reduceBNe, Nat.reduceDiv, Nat.reducePow]
                          exact ⟨rfl, id⟩
      | false =>
        have g1 : a.length = 16 := by have := of_decide_eq_false c1; omega
        have c2 : ((a.length : Int) == 16) = true := by rw [g1]; rfl
        cases c3 : decide ((32767 : Int) < ((a.getD 15 0 : Nat) : Int)) with
        | true =>
          have hgo : redGo s = true := by
            unfold redGo
            rw [hs]
            have : decide (32767 < a.getD 15 0) = true := decide_eq_true (by have := of_decide_eq_true c3; omega)
            simp only [this, Bool.or_true]
          have X1 := Xg hgo
          have X2 := Xm hgo
          have X3 := (redNext_spec x3' hgo).1
          simp only [redOut0, c1, c2, c3, envR, con0, conN0, conN1, conN2, natsOf_arr, rowOf_arr, natsOf_cells, rowOf_cells, toN, natL_st, natL_d, natL_enc, natL_up, gr1, gaddC, gtimesC, gprimeC, gbelowC, gminC, conB2, retQx, Nat.sub_zero, go_sem, reduceCtorEq, ↓reduceIte, Nat.reduceAdd, Nat.reduceMul, Nat.reduceSub, Nat.reduceEqDiff, Nat.reduceLT, Nat.reduceBEq, Nat.reduceBNe, Nat.reduceLeDiff, Int.reduceLE, Int.reduceLT, Int.reduceToNat, Int.reduceEq, Int.reduceAdd, UInt8.reduceToNat, UInt32.reduceToNat, UInt64.reduceToNat, UInt8.reduceOfNat, UInt32.reduceOfNat, UInt64.reduceOfNat, Fin.isValue, Int.reduceSub, Int.reduceMul, Int.reduceNeg, Int.reduceMod, Int.reduceDiv, Int.reduceTDiv, Int.reduceTMod, Int.reduceBEq, Int.reduceBNe, Nat.reduceDiv, Nat.reducePow]
          repeat' apply And.intro
          all_goals first
            | omega
            | exact n19_lt
            | exact prime_lt
            | exact bD
            | exact bR
            | exact hlow
            | exact ht
            | exact hT
            | rfl
            | skip
          refine loop_inv (envR_ok gr1_ok 132 [0]) (rdI1 0 a.length [(0, ⟨.arr Nat natL a, wa⟩)] D) (rdOk1 a.length) (fun x => a.length - rdIx x) (.inl 0) [(700, 30000)] (Nat.zero_le _) ?_ ?_
          · simp only [rdI1, lowI_0, envR, con0, conN0, conN1, conN2, natsOf_arr, rowOf_arr, natsOf_cells, rowOf_cells, toN, natL_st, natL_d, natL_enc, natL_up, gr1, gaddC, gtimesC, gprimeC, gbelowC, gminC, conB2, retQx, Nat.sub_zero, go_sem, reduceCtorEq, ↓reduceIte, Nat.reduceAdd, Nat.reduceMul, Nat.reduceSub, Nat.reduceEqDiff, Nat.reduceLT, Nat.reduceBEq, Nat.reduceBNe, Nat.reduceLeDiff, Int.reduceLE, Int.reduceLT, Int.reduceToNat, Int.reduceEq, Int.reduceAdd, UInt8.reduceToNat, UInt32.reduceToNat, UInt64.reduceToNat, UInt8.reduceOfNat, UInt32.reduceOfNat, UInt64.reduceOfNat, Fin.isValue, Int.reduceSub, Int.reduceMul, Int.reduceNeg, Int.reduceMod, Int.reduceDiv, Int.reduceTDiv, Int.reduceTMod, Int.reduceBEq, Int.reduceBNe, Nat.reduceDiv, Nat.reducePow]
            exact ⟨rfl, id, rfl⟩
          · rintro y hy
            rcases y with i | m
            · simp only [rdOk1] at hy
              have ll := lowI_len D i (by omega) (by omega)
              have c0 : decide ((i : Int) < (a.length : Int)) = true := decide_eq_true (by omega)
              have rA : a.getD i 0 = D.getD i 0 := rD i (by omega)
              have bA := bD i
              by_cases hi : i < 15
              · have c15 : decide ((i : Int) < 15) = true := decide_eq_true (by omega)
                have e15 : ((i : Int) == 15) = false := beq_eq_false_iff_ne.2 (by omega)
                have g15 : decide ((15 : Int) ≤ (i : Int)) = false := decide_eq_false (by omega)
                have w1 : IntKind.i64.wrap ((i : Int) + 1) = ((i + 1 : Nat) : Int) := by rw [IntKind.wrap_i64]; omega
                have st := lowI_step D i hi (by omega)
                simp only [rdI1, c0, c15, e15, g15, w1, rA, envR, con0, conN0, conN1, conN2, natsOf_arr, rowOf_arr, natsOf_cells, rowOf_cells, toN, natL_st, natL_d, natL_enc, natL_up, gr1, gaddC, gtimesC, gprimeC, gbelowC, gminC, conB2, retQx, Nat.sub_zero, go_sem, reduceCtorEq, ↓reduceIte, Nat.reduceAdd, Nat.reduceMul, Nat.reduceSub, Nat.reduceEqDiff, Nat.reduceLT, Nat.reduceBEq, Nat.reduceBNe, Nat.reduceLeDiff, Int.reduceLE, Int.reduceLT, Int.reduceToNat, Int.reduceEq, Int.reduceAdd, UInt8.reduceToNat, UInt32.reduceToNat, UInt64.reduceToNat, UInt8.reduceOfNat, UInt32.reduceOfNat, UInt64.reduceOfNat, Fin.isValue, Int.reduceSub, Int.reduceMul, Int.reduceNeg, Int.reduceMod, Int.reduceDiv, Int.reduceTDiv, Int.reduceTMod, Int.reduceBEq, Int.reduceBNe, Nat.reduceDiv, Nat.reducePow]
                repeat' apply And.intro
                all_goals first
                  | omega
                  | exact n19_lt
                  | exact prime_lt
                  | exact bD
                  | exact bR
                  | exact hlow
                  | exact ht
                  | exact hT
                  | rfl
                  | skip
                refine again (Sum.inl (i + 1) : Nat ⊕ Nat) [] (by simp only [rdOk1]; omega) (by simp only [rdIx]; omega) ?_
                simp only [rdI1, st, envR, con0, conN0, conN1, conN2, natsOf_arr, rowOf_arr, natsOf_cells, rowOf_cells, toN, natL_st, natL_d, natL_enc, natL_up, gr1, gaddC, gtimesC, gprimeC, gbelowC, gminC, conB2, retQx, Nat.sub_zero, go_sem, reduceCtorEq, ↓reduceIte, Nat.reduceAdd, Nat.reduceMul, Nat.reduceSub, Nat.reduceEqDiff, Nat.reduceLT, Nat.reduceBEq, Nat.reduceBNe, Nat.reduceLeDiff, Int.reduceLE, Int.reduceLT, Int.reduceToNat, Int.reduceEq, Int.reduceAdd, UInt8.reduceToNat, UInt32.reduceToNat, UInt64.reduceToNat, UInt8.reduceOfNat, UInt32.reduceOfNat, UInt64.reduceOfNat, Fin.isValue, Int.reduceSub, Int.reduceMul, Int.reduceNeg, Int.reduceMod, Int.reduceDiv, Int.reduceTDiv, Int.reduceTMod, Int.reduceBEq, Int.reduceBNe, Nat.reduceDiv, Nat.reducePow]
                exact ⟨rfl, id⟩
              · obtain rfl : i = 15 := by omega
                have c0 : decide ((15 : Int) < (a.length : Int)) = true := decide_eq_true (by omega)
                have u1 : ((D.getD 15 0 : Nat) : Int).tmod 32768 = ((D.getD 15 0 % 32768 : Nat) : Int) := by rw [show (32768 : Int) = ((32768 : Nat) : Int) from rfl, ← Int.ofNat_tmod]
                have u2 : IntKind.i64.wrap (((D.getD 15 0 : Nat) : Int).tdiv 32768) = ((D.getD 15 0 / 32768 : Nat) : Int) := by
                  rw [show (32768 : Int) = ((32768 : Nat) : Int) from rfl, ← Int.ofNat_tdiv, IntKind.wrap_i64]; omega
                have st := lowI_end D (by omega)
                have hh1 : highW D 1 = [nW D 0] := rfl
                have bn := nW_lt bD 0
                have u6 : ((nW D 0 : Nat) : Int).tmod 65536 = ((nW D 0 : Nat) : Int) := by rw [show (65536 : Int) = ((65536 : Nat) : Int) from rfl, ← Int.ofNat_tmod, Nat.mod_eq_of_lt bn]
                have z := getD_out (l := D) (i := 16) (by omega)
                have u5 : ((D.getD 15 0 / 32768 : Nat) : Int) = ((nW D 0 : Nat) : Int) := by
                  simp only [nW, Nat.add_zero, Nat.reduceAdd, z]; omega
                simp only [rdI1, c0, c1, u1, u2, u5, u6, rA, envR, con0, conN0, conN1, conN2, natsOf_arr, rowOf_arr, natsOf_cells, rowOf_cells, toN, natL_st, natL_d, natL_enc, natL_up, gr1, gaddC, gtimesC, gprimeC, gbelowC, gminC, conB2, retQx, Nat.sub_zero, go_sem, reduceCtorEq, ↓reduceIte, Nat.reduceAdd, Nat.reduceMul, Nat.reduceSub, Nat.reduceEqDiff, Nat.reduceLT, Nat.reduceBEq, Nat.reduceBNe, Nat.reduceLeDiff, Int.reduceLE, Int.reduceLT, Int.reduceToNat, Int.reduceEq, Int.reduceAdd, UInt8.reduceToNat, UInt32.reduceToNat, UInt64.reduceToNat, UInt8.reduceOfNat, UInt32.reduceOfNat, UInt64.reduceOfNat, Fin.isValue, Int.reduceSub, Int.reduceMul, Int.reduceNeg, Int.reduceMod, Int.reduceDiv, Int.reduceTDiv, Int.reduceTMod, Int.reduceBEq, Int.reduceBNe, Nat.reduceDiv, Nat.reducePow]
                repeat' apply And.intro
                all_goals first
                  | omega
                  | exact n19_lt
                  | exact prime_lt
                  | exact bD
                  | exact bR
                  | exact hlow
                  | exact ht
                  | exact hT
                  | rfl
                  | skip
                refine again (Sum.inr 0 : Nat ⊕ Nat) [(800, 160032)] (by simp only [rdOk1]; omega) (by simp only [rdIx]; omega) ?_
                simp only [rdI1, st, hh1, envR, con0, conN0, conN1, conN2, natsOf_arr, rowOf_arr, natsOf_cells, rowOf_cells, toN, natL_st, natL_d, natL_enc, natL_up, gr1, gaddC, gtimesC, gprimeC, gbelowC, gminC, conB2, retQx, Nat.sub_zero, go_sem, reduceCtorEq, ↓reduceIte, Nat.reduceAdd, Nat.reduceMul, Nat.reduceSub, Nat.reduceEqDiff, Nat.reduceLT, Nat.reduceBEq, Nat.reduceBNe, Nat.reduceLeDiff, Int.reduceLE, Int.reduceLT, Int.reduceToNat, Int.reduceEq, Int.reduceAdd, UInt8.reduceToNat, UInt32.reduceToNat, UInt64.reduceToNat, UInt8.reduceOfNat, UInt32.reduceOfNat, UInt64.reduceOfNat, Fin.isValue, Int.reduceSub, Int.reduceMul, Int.reduceNeg, Int.reduceMod, Int.reduceDiv, Int.reduceTDiv, Int.reduceTMod, Int.reduceBEq, Int.reduceBNe, Nat.reduceDiv, Nat.reducePow]
                exact ⟨rfl, id⟩
            · simp only [rdOk1] at hy
              have bA := bD (16 + m)
              have bB := bD (16 + m + 1)
              have hhl := highW_len D (m + 1)
              cases c0 : decide (((16 + m : Nat) : Int) < (a.length : Int)) with
              | true =>
                exfalso; have := of_decide_eq_true c0; omega
              | false =>
                have ge : m + 1 = a.length - 15 := by have := of_decide_eq_false c0; omega
                have hbh := highW_lt bD (m + 1)
                rw [← ge] at hHi hK
                simp only [rdI1, c0, envR, con0, conN0, conN1, conN2, natsOf_arr, rowOf_arr, natsOf_cells, rowOf_cells, toN, natL_st, natL_d, natL_enc, natL_up, gr1, gaddC, gtimesC, gprimeC, gbelowC, gminC, conB2, retQx, Nat.sub_zero, go_sem, reduceCtorEq, ↓reduceIte, Nat.reduceAdd, Nat.reduceMul, Nat.reduceSub, Nat.reduceEqDiff, Nat.reduceLT, Nat.reduceBEq, Nat.reduceBNe, Nat.reduceLeDiff, Int.reduceLE, Int.reduceLT, Int.reduceToNat, Int.reduceEq, Int.reduceAdd, UInt8.reduceToNat, UInt32.reduceToNat, UInt64.reduceToNat, UInt8.reduceOfNat, UInt32.reduceOfNat, UInt64.reduceOfNat, Fin.isValue, Int.reduceSub, Int.reduceMul, Int.reduceNeg, Int.reduceMod, Int.reduceDiv, Int.reduceTDiv, Int.reduceTMod, Int.reduceBEq, Int.reduceBNe, Nat.reduceDiv, Nat.reducePow]
                refine loop_inv (envR_ok gr1_ok 132 [0]) (rdI2 a wa D (m + 1)) (fun k => trimW (highW D (m + 1)) 0 k = trimW (highW D (m + 1)) 0 (m + 1) ∧ k ≤ m + 1) (fun k => k) (m + 1) [] ⟨rfl, Nat.le_refl _⟩ ?_ ?_
                · simp only [rdI2, envR, con0, conN0, conN1, conN2, natsOf_arr, rowOf_arr, natsOf_cells, rowOf_cells, toN, natL_st, natL_d, natL_enc, natL_up, gr1, gaddC, gtimesC, gprimeC, gbelowC, gminC, conB2, retQx, Nat.sub_zero, go_sem, reduceCtorEq, ↓reduceIte, Nat.reduceAdd, Nat.reduceMul, Nat.reduceSub, Nat.reduceEqDiff, Nat.reduceLT, Nat.reduceBEq, Nat.reduceBNe, Nat.reduceLeDiff, Int.reduceLE, Int.reduceLT, Int.reduceToNat, Int.reduceEq, Int.reduceAdd, UInt8.reduceToNat, UInt32.reduceToNat, UInt64.reduceToNat, UInt8.reduceOfNat, UInt32.reduceOfNat, UInt64.reduceOfNat, Fin.isValue, Int.reduceSub, Int.reduceMul, Int.reduceNeg, Int.reduceMod, Int.reduceDiv, Int.reduceTDiv, Int.reduceTMod, Int.reduceBEq, Int.reduceBNe, Nat.reduceDiv, Nat.reducePow]
                  exact ⟨rfl, id⟩
                · rintro k ⟨k1, k2⟩
                  rcases k with _ | j
                  · have hk0 : redK s = 0 := hK.trans k1.symm
                    have hr0 : redR s = lowW D := by unfold redR; rw [if_pos hk0, hsD]
                    have hnx : redNext s = (lowW D, 16) := by
                      unfold redNext
                      rw [hr0, hll]
                      exact congrArg _ (trimW_stop (.inr (.inl (Nat.le_refl _))))
                    rw [hnx] at X1 X2 X3
                    simp only [rdI2, envR, con0, conN0, conN1, conN2, natsOf_arr, rowOf_arr, natsOf_cells, rowOf_cells, toN, natL_st, natL_d, natL_enc, natL_up, gr1, gaddC, gtimesC, gprimeC, gbelowC, gminC, conB2, retQx, Nat.sub_zero, go_sem, reduceCtorEq, ↓reduceIte, Nat.reduceAdd, Nat.reduceMul, Nat.reduceSub, Nat.reduceEqDiff, Nat.reduceLT, Nat.reduceBEq, Nat.reduceBNe, Nat.reduceLeDiff, Int.reduceLE, Int.reduceLT, Int.reduceToNat, Int.reduceEq, Int.reduceAdd, UInt8.reduceToNat, UInt32.reduceToNat, UInt64.reduceToNat, UInt8.reduceOfNat, UInt32.reduceOfNat, UInt64.reduceOfNat, Fin.isValue, Int.reduceSub, Int.reduceMul, Int.reduceNeg, Int.reduceMod, Int.reduceDiv, Int.reduceTDiv, Int.reduceTMod, Int.reduceBEq, Int.reduceBNe, Nat.reduceDiv, Nat.reducePow]
                    refine loop_rounds (envR_ok gr1_ok 132 [0]) 1 ?_
                    simp only [rdI2, envR, con0, conN0, conN1, conN2, natsOf_arr, rowOf_arr, natsOf_cells, rowOf_cells, toN, natL_st, natL_d, natL_enc, natL_up, gr1, gaddC, gtimesC, gprimeC, gbelowC, gminC, conB2, retQx, Nat.sub_zero, go_sem, reduceCtorEq, ↓reduceIte, Nat.reduceAdd, Nat.reduceMul, Nat.reduceSub, Nat.reduceEqDiff, Nat.reduceLT, Nat.reduceBEq, Nat.reduceBNe, Nat.reduceLeDiff, Int.reduceLE, Int.reduceLT, Int.reduceToNat, Int.reduceEq, Int.reduceAdd, UInt8.reduceToNat, UInt32.reduceToNat, UInt64.reduceToNat, UInt8.reduceOfNat, UInt32.reduceOfNat, UInt64.reduceOfNat, Fin.isValue, Int.reduceSub, Int.reduceMul, Int.reduceNeg, Int.reduceMod, Int.reduceDiv, Int.reduceTDiv, Int.reduceTMod, Int.reduceBEq, Int.reduceBNe, Nat.reduceDiv, Nat.reducePow]
                    refine again (some (f', lowW D, 16) : Option (Nat × List Nat × Nat)) [(600, 700)] ⟨X1, X2, X3⟩ (by simp only [redMu]; omega) ?_
                    simp only [redOut0, envR, con0, conN0, conN1, conN2, natsOf_arr, rowOf_arr, natsOf_cells, rowOf_cells, toN, natL_st, natL_d, natL_enc, natL_up, gr1, gaddC, gtimesC, gprimeC, gbelowC, gminC, conB2, retQx, Nat.sub_zero, go_sem, reduceCtorEq, ↓reduceIte, Nat.reduceAdd, Nat.reduceMul, Nat.reduceSub, Nat.reduceEqDiff, Nat.reduceLT, Nat.reduceBEq, Nat.reduceBNe, Nat.reduceLeDiff, Int.reduceLE, Int.reduceLT, Int.reduceToNat, Int.reduceEq, Int.reduceAdd, UInt8.reduceToNat, UInt32.reduceToNat, UInt64.reduceToNat, UInt8.reduceOfNat, UInt32.reduceOfNat, UInt64.reduceOfNat, Fin.isValue, Int.reduceSub, Int.reduceMul, Int.reduceNeg, Int.reduceMod, Int.reduceDiv, Int.reduceTDiv, Int.reduceTMod, Int.reduceBEq, Int.reduceBNe, Nat.reduceDiv, Nat.reducePow]
                    exact ⟨rfl, id⟩
                  · have hwj : IntKind.i64.wrap (((j + 1 : Nat) : Int) - 1) = (j : Int) := by rw [IntKind.wrap_i64]; omega
                    have cpos : decide ((0 : Int) < ((j + 1 : Nat) : Int)) = true := decide_eq_true (by omega)
                    cases cz : ((((highW D (m + 1)).getD j 0 : Nat) : Int) == 0) with
                    | true =>
                      have gz : (highW D (m + 1)).getD j 0 = 0 := by have := eq_of_beq cz; omega
                      have k1' := (trimW_go (Nat.zero_le j) gz).symm.trans k1
                      simp only [rdI2, hwj, cpos, cz, envR, con0, conN0, conN1, conN2, natsOf_arr, rowOf_arr, natsOf_cells, rowOf_cells, toN, natL_st, natL_d, natL_enc, natL_up, gr1, gaddC, gtimesC, gprimeC, gbelowC, gminC, conB2, retQx, Nat.sub_zero, go_sem, reduceCtorEq, ↓reduceIte, Nat.reduceAdd, Nat.reduceMul, Nat.reduceSub, Nat.reduceEqDiff, Nat.reduceLT, Nat.reduceBEq, Nat.reduceBNe, Nat.reduceLeDiff, Int.reduceLE, Int.reduceLT, Int.reduceToNat, Int.reduceEq, Int.reduceAdd, UInt8.reduceToNat, UInt32.reduceToNat, UInt64.reduceToNat, UInt8.reduceOfNat, UInt32.reduceOfNat, UInt64.reduceOfNat, Fin.isValue, Int.reduceSub, Int.reduceMul, Int.reduceNeg, Int.reduceMod, Int.reduceDiv, Int.reduceTDiv, Int.reduceTMod, Int.reduceBEq, Int.reduceBNe, Nat.reduceDiv, Nat.reducePow]
                      repeat' apply And.intro
                      all_goals first
                        | omega
                        | exact n19_lt
                        | exact prime_lt
                        | exact bD
                        | exact bR
                        | exact hlow
                        | exact ht
                        | exact hT
                        | rfl
                        | skip
                      refine again j [] ⟨k1', by omega⟩ (by omega) ?_
                      simp only [rdI2, envR, con0, conN0, conN1, conN2, natsOf_arr, rowOf_arr, natsOf_cells, rowOf_cells, toN, natL_st, natL_d, natL_enc, natL_up, gr1, gaddC, gtimesC, gprimeC, gbelowC, gminC, conB2, retQx, Nat.sub_zero, go_sem, reduceCtorEq, ↓reduceIte, Nat.reduceAdd, Nat.reduceMul, Nat.reduceSub, Nat.reduceEqDiff, Nat.reduceLT, Nat.reduceBEq, Nat.reduceBNe, Nat.reduceLeDiff, Int.reduceLE, Int.reduceLT, Int.reduceToNat, Int.reduceEq, Int.reduceAdd, UInt8.reduceToNat, UInt32.reduceToNat, UInt64.reduceToNat, UInt8.reduceOfNat, UInt32.reduceOfNat, UInt64.reduceOfNat, Fin.isValue, Int.reduceSub, Int.reduceMul, Int.reduceNeg, Int.reduceMod, Int.reduceDiv, Int.reduceTDiv, Int.reduceTMod, Int.reduceBEq, Int.reduceBNe, Nat.reduceDiv, Nat.reducePow]
                      exact ⟨rfl, id⟩
                    | false =>
                      have gz : (highW D (m + 1)).getD j 0 ≠ 0 := by have := ne_of_beq_false cz; omega
                      have hk1 : redK s = j + 1 := (hK.trans k1.symm).trans (trimW_stop (.inr (.inr gz)))
                      have hr1 : redR s = addL 65536 (lowW D) (timesL 65536 ((highW D (m + 1)).take (j + 1)) [19]) := by unfold redR; rw [if_neg (by rw [hk1]; omega), hk1, hHi, hsD]
                      have ht : dlt 65536 ((highW D (m + 1)).take (j + 1)) := dlt_take hbh _
                      have hT : dlt 65536 (timesL 65536 ((highW D (m + 1)).take (j + 1)) [19]) := timesL_lt (by decide) ht n19_lt
                      have hTl : (timesL 65536 ((highW D (m + 1)).take (j + 1)) [19]).length = j + 1 + 1 := by rw [timesL_len, List.length_take, hhl, Nat.min_eq_left k2]; rfl
                      have htl : (lowW D).take 16 = lowW D := List.take_of_length_le (by omega)
                      have l19 : [19].take 1 = [19] := rfl
                      have hAl := addLen_bd 65536 (lowW D) (timesL 65536 ((highW D (m + 1)).take (j + 1)) [19])
                      rw [← addL_len, hll, hTl] at hAl
                      simp only [rdI2, hwj, cpos, cz, htl, List.take_length, envR, con0, conN0, conN1, conN2, natsOf_arr, rowOf_arr, natsOf_cells, rowOf_cells, toN, natL_st, natL_d, natL_enc, natL_up, gr1, gaddC, gtimesC, gprimeC, gbelowC, gminC, conB2, retQx, Nat.sub_zero, go_sem, reduceCtorEq, ↓reduceIte, Nat.reduceAdd, Nat.reduceMul, Nat.reduceSub, Nat.reduceEqDiff, Nat.reduceLT, Nat.reduceBEq, Nat.reduceBNe, Nat.reduceLeDiff, Int.reduceLE, Int.reduceLT, Int.reduceToNat, Int.reduceEq, Int.reduceAdd, UInt8.reduceToNat, UInt32.reduceToNat, UInt64.reduceToNat, UInt8.reduceOfNat, UInt32.reduceOfNat, UInt64.reduceOfNat, Fin.isValue, Int.reduceSub, Int.reduceMul, Int.reduceNeg, Int.reduceMod, Int.reduceDiv, Int.reduceTDiv, Int.reduceTMod, Int.reduceBEq, Int.reduceBNe, Nat.reduceDiv, Nat.reducePow]
                      repeat' apply And.intro
                      all_goals first
                        | omega
                        | exact n19_lt
                        | exact prime_lt
                        | exact bD
                        | exact bR
                        | exact hlow
                        | exact ht
                        | exact hT
                        | rfl
                        | skip
                      obtain ⟨R', hR'⟩ : ∃ R', R' = addL 65536 (lowW D) (timesL 65536 ((highW D (m + 1)).take (j + 1)) [19]) := ⟨_, rfl⟩
                      rw [← hR'] at hr1 hAl ⊢
                      refine loop_inv (envR_ok gr1_ok 132 [0]) (rdI4 a wa R') (fun q => trimW R' 16 q = trimW R' 16 R'.length ∧ 16 ≤ q ∧ q ≤ R'.length) (fun q => q) R'.length [(900, 210032)] ⟨rfl, by omega, Nat.le_refl _⟩ ?_ ?_
                      · simp only [rdI4, envR, con0, conN0, conN1, conN2, natsOf_arr, rowOf_arr, natsOf_cells, rowOf_cells, toN, natL_st, natL_d, natL_enc, natL_up, gr1, gaddC, gtimesC, gprimeC, gbelowC, gminC, conB2, retQx, Nat.sub_zero, go_sem, reduceCtorEq, ↓reduceIte, Nat.reduceAdd, Nat.reduceMul, Nat.reduceSub, Nat.reduceEqDiff, Nat.reduceLT, Nat.reduceBEq, Nat.reduceBNe, Nat.reduceLeDiff, Int.reduceLE, Int.reduceLT, Int.reduceToNat, Int.reduceEq, Int.reduceAdd, UInt8.reduceToNat, UInt32.reduceToNat, UInt64.reduceToNat, UInt8.reduceOfNat, UInt32.reduceOfNat, UInt64.reduceOfNat, Fin.isValue, Int.reduceSub, Int.reduceMul, Int.reduceNeg, Int.reduceMod, Int.reduceDiv, Int.reduceTDiv, Int.reduceTMod, Int.reduceBEq, Int.reduceBNe, Nat.reduceDiv, Nat.reducePow]
                        exact ⟨rfl, id⟩
                      · rintro q ⟨q1, q2, q3⟩
                        have hnx : ∀ p, trimW R' 16 q = p → redNext s = (R', p) := fun p hp => by
                          unfold redNext
                          rw [hr1, ← q1, hp]
                        cases c16 : decide ((16 : Int) < (q : Int)) with
                        | false =>
                          obtain rfl : q = 16 := by have := of_decide_eq_false c16; omega
                          rw [hnx 16 (trimW_stop (.inr (.inl (Nat.le_refl _))))] at X1 X2 X3
                          simp only [rdI4, envR, con0, conN0, conN1, conN2, natsOf_arr, rowOf_arr, natsOf_cells, rowOf_cells, toN, natL_st, natL_d, natL_enc, natL_up, gr1, gaddC, gtimesC, gprimeC, gbelowC, gminC, conB2, retQx, Nat.sub_zero, go_sem, reduceCtorEq, ↓reduceIte, Nat.reduceAdd, Nat.reduceMul, Nat.reduceSub, Nat.reduceEqDiff, Nat.reduceLT, Nat.reduceBEq, Nat.reduceBNe, Nat.reduceLeDiff, Int.reduceLE, Int.reduceLT, Int.reduceToNat, Int.reduceEq, Int.reduceAdd, UInt8.reduceToNat, UInt32.reduceToNat, UInt64.reduceToNat, UInt8.reduceOfNat, UInt32.reduceOfNat, UInt64.reduceOfNat, Fin.isValue, Int.reduceSub, Int.reduceMul, Int.reduceNeg, Int.reduceMod, Int.reduceDiv, Int.reduceTDiv, Int.reduceTMod, Int.reduceBEq, Int.reduceBNe, Nat.reduceDiv, Nat.reducePow]
                          refine again (some (f', R', 16) : Option (Nat × List Nat × Nat)) [(600, 900)] ⟨X1, X2, X3⟩ (by simp only [redMu]; omega) ?_
                          simp only [redOut0, envR, con0, conN0, conN1, conN2, natsOf_arr, rowOf_arr, natsOf_cells, rowOf_cells, toN, natL_st, natL_d, natL_enc, natL_up, gr1, gaddC, gtimesC, gprimeC, gbelowC, gminC, conB2, retQx, Nat.sub_zero, go_sem, reduceCtorEq, ↓reduceIte, Nat.reduceAdd, Nat.reduceMul, Nat.reduceSub, Nat.reduceEqDiff, Nat.reduceLT, Nat.reduceBEq, Nat.reduceBNe, Nat.reduceLeDiff, Int.reduceLE, Int.reduceLT, Int.reduceToNat, Int.reduceEq, Int.reduceAdd, UInt8.reduceToNat, UInt32.reduceToNat, UInt64.reduceToNat, UInt8.reduceOfNat, UInt32.reduceOfNat, UInt64.reduceOfNat, Fin.isValue, Int.reduceSub, Int.reduceMul, Int.reduceNeg, Int.reduceMod, Int.reduceDiv, Int.reduceTDiv, Int.reduceTMod, Int.reduceBEq, Int.reduceBNe, Nat.reduceDiv, Nat.reducePow]
                          exact ⟨rfl, id⟩
                        | true =>
                          obtain ⟨j', rfl⟩ : ∃ j', q = j' + 1 := ⟨q - 1, by have := of_decide_eq_true c16; omega⟩
                          have hj : 16 ≤ j' := by have := of_decide_eq_true c16; omega
                          have hwj' : IntKind.i64.wrap (((j' + 1 : Nat) : Int) - 1) = (j' : Int) := by rw [IntKind.wrap_i64]; omega
                          cases cy : (((R'.getD j' 0 : Nat) : Int) == 0) with
                          | true =>
                            have gy : R'.getD j' 0 = 0 := by have := eq_of_beq cy; omega
                            have q1' := (trimW_go hj gy).symm.trans q1
                            simp only [rdI4, c16, hwj', cy, envR, con0, conN0, conN1, conN2, natsOf_arr, rowOf_arr, natsOf_cells, rowOf_cells, toN, natL_st, natL_d, natL_enc, natL_up, gr1, gaddC, gtimesC, gprimeC, gbelowC, gminC, conB2, retQx, Nat.sub_zero, go_sem, reduceCtorEq, ↓reduceIte, Nat.reduceAdd, Nat.reduceMul, Nat.reduceSub, Nat.reduceEqDiff, Nat.reduceLT, Nat.reduceBEq, Nat.reduceBNe, Nat.reduceLeDiff, Int.reduceLE, Int.reduceLT, Int.reduceToNat, Int.reduceEq, Int.reduceAdd, UInt8.reduceToNat, UInt32.reduceToNat, UInt64.reduceToNat, UInt8.reduceOfNat, UInt32.reduceOfNat, UInt64.reduceOfNat, Fin.isValue, Int.reduceSub, Int.reduceMul, Int.reduceNeg, Int.reduceMod, Int.reduceDiv, Int.reduceTDiv, Int.reduceTMod, Int.reduceBEq, Int.reduceBNe, Nat.reduceDiv, Nat.reducePow]
                            repeat' apply And.intro
                            all_goals first
                              | omega
                              | exact n19_lt
                              | exact prime_lt
                              | exact bD
                              | exact bR
                              | exact hlow
                              | exact ht
                              | exact hT
                              | rfl
                              | skip
                            refine again j' [] ⟨q1', by omega⟩ (by omega) ?_
                            simp only [rdI4, envR, con0, conN0, conN1, conN2, natsOf_arr, rowOf_arr, natsOf_cells, rowOf_cells, toN, natL_st, natL_d, natL_enc, natL_up, gr1, gaddC, gtimesC, gprimeC, gbelowC, gminC, conB2, retQx, Nat.sub_zero, go_sem, reduceCtorEq, ↓reduceIte, Nat.reduceAdd, Nat.reduceMul, Nat.reduceSub, Nat.reduceEqDiff, Nat.reduceLT, Nat.reduceBEq, Nat.reduceBNe, Nat.reduceLeDiff, Int.reduceLE, Int.reduceLT, Int.reduceToNat, Int.reduceEq, Int.reduceAdd, UInt8.reduceToNat, UInt32.reduceToNat, UInt64.reduceToNat, UInt8.reduceOfNat, UInt32.reduceOfNat, UInt64.reduceOfNat, Fin.isValue, Int.reduceSub, Int.reduceMul, Int.reduceNeg, Int.reduceMod, Int.reduceDiv, Int.reduceTDiv, Int.reduceTMod, Int.reduceBEq, Int.reduceBNe, Nat.reduceDiv, Nat.reducePow]
                            exact ⟨rfl, id⟩
                          | false =>
                            have gy : R'.getD j' 0 ≠ 0 := by have := ne_of_beq_false cy; omega
                            rw [hnx (j' + 1) (trimW_stop (.inr (.inr gy)))] at X1 X2 X3
                            simp only [rdI4, c16, hwj', cy, envR, con0, conN0, conN1, conN2, natsOf_arr, rowOf_arr, natsOf_cells, rowOf_cells, toN, natL_st, natL_d, natL_enc, natL_up, gr1, gaddC, gtimesC, gprimeC, gbelowC, gminC, conB2, retQx, Nat.sub_zero, go_sem, reduceCtorEq, ↓reduceIte, Nat.reduceAdd, Nat.reduceMul, Nat.reduceSub, Nat.reduceEqDiff, Nat.reduceLT, Nat.reduceBEq, Nat.reduceBNe, Nat.reduceLeDiff, Int.reduceLE, Int.reduceLT, Int.reduceToNat, Int.reduceEq, Int.reduceAdd, UInt8.reduceToNat, UInt32.reduceToNat, UInt64.reduceToNat, UInt8.reduceOfNat, UInt32.reduceOfNat, UInt64.reduceOfNat, Fin.isValue, Int.reduceSub, Int.reduceMul, Int.reduceNeg, Int.reduceMod, Int.reduceDiv, Int.reduceTDiv, Int.reduceTMod, Int.reduceBEq, Int.reduceBNe, Nat.reduceDiv, Nat.reducePow]
                            repeat' apply And.intro
                            all_goals first
                              | omega
                              | exact n19_lt
                              | exact prime_lt
                              | exact bD
                              | exact bR
                              | exact hlow
                              | exact ht
                              | exact hT
                              | rfl
                              | skip
                            refine again (some (f', R', j' + 1) : Option (Nat × List Nat × Nat)) [(600, 900)] ⟨X1, X2, X3⟩ (by simp only [redMu]; omega) ?_
                            simp only [redOut0, envR, con0, conN0, conN1, conN2, natsOf_arr, rowOf_arr, natsOf_cells, rowOf_cells, toN, natL_st, natL_d, natL_enc, natL_up, gr1, gaddC, gtimesC, gprimeC, gbelowC, gminC, conB2, retQx, Nat.sub_zero, go_sem, reduceCtorEq, ↓reduceIte, Nat.reduceAdd, Nat.reduceMul, Nat.reduceSub, Nat.reduceEqDiff, Nat.reduceLT, Nat.reduceBEq, Nat.reduceBNe, Nat.reduceLeDiff, Int.reduceLE, Int.reduceLT, Int.reduceToNat, Int.reduceEq, Int.reduceAdd, UInt8.reduceToNat, UInt32.reduceToNat, UInt64.reduceToNat, UInt8.reduceOfNat, UInt32.reduceOfNat, UInt64.reduceOfNat, Fin.isValue, Int.reduceSub, Int.reduceMul, Int.reduceNeg, Int.reduceMod, Int.reduceDiv, Int.reduceTDiv, Int.reduceTMod, Int.reduceBEq, Int.reduceBNe, Nat.reduceDiv, Nat.reducePow]
                            exact ⟨rfl, id⟩
        | false =>
          have hgo : redGo s = false := by
            unfold redGo
            rw [hs]
            have h1 : decide (32767 < a.getD 15 0) = false := decide_eq_false (by have := of_decide_eq_false c3; omega)
            have h2 : decide (16 < a.length) = false := decide_eq_false (by omega)
            simp only [h1, h2, Bool.or_false]
          have hend : redEnd a = (a, a.length) := redEnd_no (by rw [← hs]; exact hgo)
          have hrow : redRow a = if decide (dv 65536 (a.take 16) < dv 65536 primeL) = true then a else minL 65536 a primeL := by unfold redRow; rw [hend]; rfl
          have hpt : primeL.take 16 = primeL := rfl
          have hpl : primeL.length = 16 := rfl
          simp only [redOut0, g1, c1, c2, c3, envR, con0, conN0, conN1, conN2, natsOf_arr, rowOf_arr, natsOf_cells, rowOf_cells, toN, natL_st, natL_d, natL_enc, natL_up, gr1, gaddC, gtimesC, gprimeC, gbelowC, gminC, conB2, retQx, Nat.sub_zero, go_sem, reduceCtorEq, ↓reduceIte, Nat.reduceAdd, Nat.reduceMul, Nat.reduceSub, Nat.reduceEqDiff, Nat.reduceLT, Nat.reduceBEq, Nat.reduceBNe, Nat.reduceLeDiff, Int.reduceLE, Int.reduceLT, Int.reduceToNat, Int.reduceEq, Int.reduceAdd, UInt8.reduceToNat, UInt32.reduceToNat, UInt64.reduceToNat, UInt8.reduceOfNat, UInt32.reduceOfNat, UInt64.reduceOfNat, Fin.isValue, Int.reduceSub, Int.reduceMul, Int.reduceNeg, Int.reduceMod, Int.reduceDiv, Int.reduceTDiv, Int.reduceTMod, Int.reduceBEq, Int.reduceBNe, Nat.reduceDiv, Nat.reducePow]
          all_goals try (repeat' apply And.intro)
          all_goals first | omega | skip
          refine loop_rounds (envR_ok gr1_ok 132 [0]) 1 ?_
          simp only [g1, envR, con0, conN0, conN1, conN2, natsOf_arr, rowOf_arr, natsOf_cells, rowOf_cells, toN, natL_st, natL_d, natL_enc, natL_up, gr1, gaddC, gtimesC, gprimeC, gbelowC, gminC, conB2, retQx, Nat.sub_zero, go_sem, reduceCtorEq, ↓reduceIte, Nat.reduceAdd, Nat.reduceMul, Nat.reduceSub, Nat.reduceEqDiff, Nat.reduceLT, Nat.reduceBEq, Nat.reduceBNe, Nat.reduceLeDiff, Int.reduceLE, Int.reduceLT, Int.reduceToNat, Int.reduceEq, Int.reduceAdd, UInt8.reduceToNat, UInt32.reduceToNat, UInt64.reduceToNat, UInt8.reduceOfNat, UInt32.reduceOfNat, UInt64.reduceOfNat, Fin.isValue, Int.reduceSub, Int.reduceMul, Int.reduceNeg, Int.reduceMod, Int.reduceDiv, Int.reduceTDiv, Int.reduceTMod, Int.reduceBEq, Int.reduceBNe, Nat.reduceDiv, Nat.reducePow]
          cases hb : decide (dv 65536 (a.take 16) < dv 65536 primeL) with
          | true =>
            rw [hb, if_pos rfl] at hrow
            exact absurd (by unfold redStop; rw [← hs, hgo, hb]; rfl) hns
          | false =>
            rw [hb, if_neg (by decide)] at hrow
            simp only [g1, hb, hpt, hpl, envR, con0, conN0, conN1, conN2, natsOf_arr, rowOf_arr, natsOf_cells, rowOf_cells, toN, natL_st, natL_d, natL_enc, natL_up, gr1, gaddC, gtimesC, gprimeC, gbelowC, gminC, conB2, retQx, Nat.sub_zero, go_sem, reduceCtorEq, ↓reduceIte, Nat.reduceAdd, Nat.reduceMul, Nat.reduceSub, Nat.reduceEqDiff, Nat.reduceLT, Nat.reduceBEq, Nat.reduceBNe, Nat.reduceLeDiff, Int.reduceLE, Int.reduceLT, Int.reduceToNat, Int.reduceEq, Int.reduceAdd, UInt8.reduceToNat, UInt32.reduceToNat, UInt64.reduceToNat, UInt8.reduceOfNat, UInt32.reduceOfNat, UInt64.reduceOfNat, Fin.isValue, Int.reduceSub, Int.reduceMul, Int.reduceNeg, Int.reduceMod, Int.reduceDiv, Int.reduceTDiv, Int.reduceTMod, Int.reduceBEq, Int.reduceBNe, Nat.reduceDiv, Nat.reducePow]
            repeat' apply And.intro
            all_goals first
              | omega
              | exact n19_lt
              | exact prime_lt
              | exact bD
              | exact bR
              | exact hlow
              | exact ht
              | exact hT
              | rfl
              | skip
            refine endX [(1, 280016)] ?_
            simp only [hrow, envR, con0, conN0, conN1, conN2, natsOf_arr, rowOf_arr, natsOf_cells, rowOf_cells, toN, natL_st, natL_d, natL_enc, natL_up, gr1, gaddC, gtimesC, gprimeC, gbelowC, gminC, conB2, retQx, Nat.sub_zero, go_sem, reduceCtorEq, ↓reduceIte, Nat.reduceAdd, Nat.reduceMul, Nat.reduceSub, Nat.reduceEqDiff, Nat.reduceLT, Nat.reduceBEq, Nat.reduceBNe, Nat.reduceLeDiff, Int.reduceLE, Int.reduceLT, Int.reduceToNat, Int.reduceEq, Int.reduceAdd, UInt8.reduceToNat, UInt32.reduceToNat, UInt64.reduceToNat, UInt8.reduceOfNat, UInt32.reduceOfNat, UInt64.reduceOfNat, Fin.isValue, Int.reduceSub, Int.reduceMul, Int.reduceNeg, Int.reduceMod, Int.reduceDiv, Int.reduceTDiv, Int.reduceTMod, Int.reduceBEq, Int.reduceBNe, Nat.reduceDiv, Nat.reducePow]
            exact ⟨rfl, id⟩
    · obtain ⟨x1, x2, x3⟩ := hx
      obtain ⟨f', rfl⟩ : ∃ f', f = f' + 1 := ⟨f - 1, by omega⟩
      obtain ⟨s, hs⟩ : ∃ s, s = (R, n) := ⟨_, rfl⟩
      obtain ⟨D, hD⟩ : ∃ D, D = R.take n := ⟨_, rfl⟩
      have x3' : redInv s := by rw [hs]; exact x3
      obtain ⟨i1, i2, i3, i4⟩ := x3
      simp only at i1 i2 i3 i4
      have hsD : s.1.take s.2 = D := by rw [hs, hD]
      have dl : D.length = n := by rw [hD, List.length_take]; omega
      have bD : dlt 65536 D := by rw [hD]; exact dlt_take i1 _
      have bR : dlt 65536 R := i1
      have rD : ∀ i, i < n → R.getD i 0 = D.getD i 0 := fun i hi => by rw [hD]; exact take_getD _ _ _ (by rw [List.length_take]; omega)
      have hll : (lowW D).length = 16 := lowW_len (by omega)
      have hlow : dlt 65536 (lowW D) := lowW_lt bD
      have hHi : redHi s = highW D (n - 15) := by unfold redHi; rw [hsD, hs]
      have hK : redK s = trimW (highW D (n - 15)) 0 (n - 15) := by unfold redK; rw [hHi, hs]
      have b15 := bD 15
      have r15 : R.getD 15 0 = D.getD 15 0 := rD 15 (by omega)
      have Xg : redGo s = true → redRun f' (redNext s) = redEnd a := fun hgo => by
        rw [← x1, ← hs, redRun, if_pos hgo]
      have Xm : redGo s = true → redMeas (redNext s) < f' := fun hgo => by
        have := (redNext_spec x3' hgo).2.2
        rw [← hs] at x2; omega
      cases c1 : decide ((16 : Int) < (n : Int)) with
      | true =>
        have g1 : 16 < n := by have := of_decide_eq_true c1; omega
        have hgo : redGo s = true := by unfold redGo; rw [hs, decide_eq_true g1]; rfl
        have X1 := Xg hgo
        have X2 := Xm hgo
        have X3 := (redNext_spec x3' hgo).1
        simp only [redOut0, c1, envR, con0, conN0, conN1, conN2, natsOf_arr, rowOf_arr, natsOf_cells, rowOf_cells, toN, natL_st, natL_d, natL_enc, natL_up, gr1, gaddC, gtimesC, gprimeC, gbelowC, gminC, conB2, retQx, Nat.sub_zero, go_sem, reduceCtorEq, ↓reduceIte, Nat.reduceAdd, Nat.reduceMul, Nat.reduceSub, Nat.reduceEqDiff, Nat.reduceLT, Nat.reduceBEq, Nat.reduceBNe, Nat.reduceLeDiff, Int.reduceLE, Int.reduceLT, Int.reduceToNat, Int.reduceEq, Int.reduceAdd, UInt8.reduceToNat, UInt32.reduceToNat, UInt64.reduceToNat, UInt8.reduceOfNat, UInt32.reduceOfNat, UInt64.reduceOfNat, Fin.isValue, Int.reduceSub, Int.reduceMul, Int.reduceNeg, Int.reduceMod, Int.reduceDiv, Int.reduceTDiv, Int.reduceTMod, Int.reduceBEq, Int.reduceBNe, Nat.reduceDiv, Nat.reducePow]
        refine loop_inv (envR_ok gr1_ok 132 [0]) (rdI1 600 n [(0, ⟨.arr Nat natL a, wa⟩), (600, ⟨.arr Nat natL R, true⟩)] D) (rdOk1 n) (fun x => n - rdIx x) (.inl 0) [(700, 30000)] (Nat.zero_le _) ?_ ?_
        · simp only [rdI1, lowI_0, envR, con0, conN0, conN1, conN2, natsOf_arr, rowOf_arr, natsOf_cells, rowOf_cells, toN, natL_st, natL_d, natL_enc, natL_up, gr1, gaddC, gtimesC, gprimeC, gbelowC, gminC, conB2, retQx, Nat.sub_zero, go_sem, reduceCtorEq, ↓reduceIte, Nat.reduceAdd, Nat.reduceMul, Nat.reduceSub, Nat.reduceEqDiff, Nat.reduceLT, Nat.reduceBEq, Nat.reduceBNe, Nat.reduceLeDiff, Int.reduceLE, Int.reduceLT, Int.reduceToNat, Int.reduceEq, Int.reduceAdd, UInt8.reduceToNat, UInt32.reduceToNat, UInt64.reduceToNat, UInt8.reduceOfNat, UInt32.reduceOfNat, UInt64.reduceOfNat, Fin.isValue, Int.reduceSub, Int.reduceMul, Int.reduceNeg, Int.reduceMod, Int.reduceDiv, Int.reduceTDiv, Int.reduceTMod, Int.reduceBEq, Int.reduceBNe, Nat.reduceDiv, Nat.reducePow]
          exact ⟨rfl, id, rfl⟩
        · rintro y hy
          rcases y with i | m
          · simp only [rdOk1] at hy
            have ll := lowI_len D i (by omega) (by omega)
            have c0 : decide ((i : Int) < (n : Int)) = true := decide_eq_true (by omega)
            have rA : R.getD i 0 = D.getD i 0 := rD i (by omega)
            have bA := bD i
            by_cases hi : i < 15
            · have c15 : decide ((i : Int) < 15) = true := decide_eq_true (by omega)
              have e15 : ((i : Int) == 15) = false := beq_eq_false_iff_ne.2 (by omega)
              have g15 : decide ((15 : Int) ≤ (i : Int)) = false := decide_eq_false (by omega)
              have w1 : IntKind.i64.wrap ((i : Int) + 1) = ((i + 1 : Nat) : Int) := by rw [IntKind.wrap_i64]; omega
              have st := lowI_step D i hi (by omega)
              simp only [rdI1, c0, c15, e15, g15, w1, rA, envR, con0, conN0, conN1, conN2, natsOf_arr, rowOf_arr, natsOf_cells, rowOf_cells, toN, natL_st, natL_d, natL_enc, natL_up, gr1, gaddC, gtimesC, gprimeC, gbelowC, gminC, conB2, retQx, Nat.sub_zero, go_sem, reduceCtorEq, ↓reduceIte, Nat.reduceAdd, Nat.reduceMul, Nat.reduceSub, Nat.reduceEqDiff, Nat.reduceLT, Nat.reduceBEq, Nat.reduceBNe, Nat.reduceLeDiff, Int.reduceLE, Int.reduceLT, Int.reduceToNat, Int.reduceEq, Int.reduceAdd, UInt8.reduceToNat, UInt32.reduceToNat, UInt64.reduceToNat, UInt8.reduceOfNat, UInt32.reduceOfNat, UInt64.reduceOfNat, Fin.isValue, Int.reduceSub, Int.reduceMul, Int.reduceNeg, Int.reduceMod, Int.reduceDiv, Int.reduceTDiv, Int.reduceTMod, Int.reduceBEq, Int.reduceBNe, Nat.reduceDiv, Nat.reducePow]
              repeat' apply And.intro
              all_goals first
                | omega
                | exact n19_lt
                | exact prime_lt
                | exact bD
                | exact bR
                | exact hlow
                | exact ht
                | exact hT
                | rfl
                | skip
              refine again (Sum.inl (i + 1) : Nat ⊕ Nat) [] (by simp only [rdOk1]; omega) (by simp only [rdIx]; omega) ?_
              simp only [rdI1, st, envR, con0, conN0, conN1, conN2, natsOf_arr, rowOf_arr, natsOf_cells, rowOf_cells, toN, natL_st, natL_d, natL_enc, natL_up, gr1, gaddC, gtimesC, gprimeC, gbelowC, gminC, conB2, retQx, Nat.sub_zero, go_sem, reduceCtorEq, ↓reduceIte, Nat.reduceAdd, Nat.reduceMul, Nat.reduceSub, Nat.reduceEqDiff, Nat.reduceLT, Nat.reduceBEq, Nat.reduceBNe, Nat.reduceLeDiff, Int.reduceLE, Int.reduceLT, Int.reduceToNat, Int.reduceEq, Int.reduceAdd, UInt8.reduceToNat, UInt32.reduceToNat, UInt64.reduceToNat, UInt8.reduceOfNat, UInt32.reduceOfNat, UInt64.reduceOfNat, Fin.isValue, Int.reduceSub, Int.reduceMul, Int.reduceNeg, Int.reduceMod, Int.reduceDiv, Int.reduceTDiv, Int.reduceTMod, Int.reduceBEq, Int.reduceBNe, Nat.reduceDiv, Nat.reducePow]
              exact ⟨rfl, id⟩
            · obtain rfl : i = 15 := by omega
              have c0 : decide ((15 : Int) < (n : Int)) = true := decide_eq_true (by omega)
              have u1 : ((D.getD 15 0 : Nat) : Int).tmod 32768 = ((D.getD 15 0 % 32768 : Nat) : Int) := by rw [show (32768 : Int) = ((32768 : Nat) : Int) from rfl, ← Int.ofNat_tmod]
              have u2 : IntKind.i64.wrap (((D.getD 15 0 : Nat) : Int).tdiv 32768) = ((D.getD 15 0 / 32768 : Nat) : Int) := by
                rw [show (32768 : Int) = ((32768 : Nat) : Int) from rfl, ← Int.ofNat_tdiv, IntKind.wrap_i64]; omega
              have st := lowI_end D (by omega)
              have hh1 : highW D 1 = [nW D 0] := rfl
              have bn := nW_lt bD 0
              have u6 : ((nW D 0 : Nat) : Int).tmod 65536 = ((nW D 0 : Nat) : Int) := by rw [show (65536 : Int) = ((65536 : Nat) : Int) from rfl, ← Int.ofNat_tmod, Nat.mod_eq_of_lt bn]
              have rB : R.getD 16 0 = D.getD 16 0 := rD 16 (by omega)
              have bB := bD 16
              have u3 : ((D.getD 16 0 : Nat) : Int).tmod 32768 = ((D.getD 16 0 % 32768 : Nat) : Int) := by rw [show (32768 : Int) = ((32768 : Nat) : Int) from rfl, ← Int.ofNat_tmod]
              have u4 : IntKind.i64.wrap (((D.getD 16 0 % 32768 : Nat) : Int) * 2) = ((D.getD 16 0 % 32768 * 2 : Nat) : Int) := by rw [IntKind.wrap_i64]; omega
              have u5 : IntKind.i64.wrap (((D.getD 15 0 / 32768 : Nat) : Int) + ((D.getD 16 0 % 32768 * 2 : Nat) : Int)) = ((nW D 0 : Nat) : Int) := by
                rw [IntKind.wrap_i64]; simp only [nW, Nat.add_zero, Nat.reduceAdd]; omega
              simp only [rdI1, c0, c1, u1, u2, u3, u4, u5, u6, rA, rB, envR, con0, conN0, conN1, conN2, natsOf_arr, rowOf_arr, natsOf_cells, rowOf_cells, toN, natL_st, natL_d, natL_enc, natL_up, gr1, gaddC, gtimesC, gprimeC, gbelowC, gminC, conB2, retQx, Nat.sub_zero, go_sem, reduceCtorEq, ↓reduceIte, Nat.reduceAdd, Nat.reduceMul, Nat.reduceSub, Nat.reduceEqDiff, Nat.reduceLT, Nat.reduceBEq, Nat.reduceBNe, Nat.reduceLeDiff, Int.reduceLE, Int.reduceLT, Int.reduceToNat, Int.reduceEq, Int.reduceAdd, UInt8.reduceToNat, UInt32.reduceToNat, UInt64.reduceToNat, UInt8.reduceOfNat, UInt32.reduceOfNat, UInt64.reduceOfNat, Fin.isValue, Int.reduceSub, Int.reduceMul, Int.reduceNeg, Int.reduceMod, Int.reduceDiv, Int.reduceTDiv, Int.reduceTMod, Int.reduceBEq, Int.reduceBNe, Nat.reduceDiv, Nat.reducePow]
              repeat' apply And.intro
              all_goals first
                | omega
                | exact n19_lt
                | exact prime_lt
                | exact bD
                | exact bR
                | exact hlow
                | exact ht
                | exact hT
                | rfl
                | skip
              refine again (Sum.inr 0 : Nat ⊕ Nat) [(800, 160032)] (by simp only [rdOk1]; omega) (by simp only [rdIx]; omega) ?_
              simp only [rdI1, st, hh1, envR, con0, conN0, conN1, conN2, natsOf_arr, rowOf_arr, natsOf_cells, rowOf_cells, toN, natL_st, natL_d, natL_enc, natL_up, gr1, gaddC, gtimesC, gprimeC, gbelowC, gminC, conB2, retQx, Nat.sub_zero, go_sem, reduceCtorEq, ↓reduceIte, Nat.reduceAdd, Nat.reduceMul, Nat.reduceSub, Nat.reduceEqDiff, Nat.reduceLT, Nat.reduceBEq, Nat.reduceBNe, Nat.reduceLeDiff, Int.reduceLE, Int.reduceLT, Int.reduceToNat, Int.reduceEq, Int.reduceAdd, UInt8.reduceToNat, UInt32.reduceToNat, UInt64.reduceToNat, UInt8.reduceOfNat, UInt32.reduceOfNat, UInt64.reduceOfNat, Fin.isValue, Int.reduceSub, Int.reduceMul, Int.reduceNeg, Int.reduceMod, Int.reduceDiv, Int.reduceTDiv, Int.reduceTMod, Int.reduceBEq, Int.reduceBNe, Nat.reduceDiv, Nat.reducePow]
              exact ⟨rfl, id⟩
          · simp only [rdOk1] at hy
            have bA := bD (16 + m)
            have bB := bD (16 + m + 1)
            have hhl := highW_len D (m + 1)
            cases c0 : decide (((16 + m : Nat) : Int) < (n : Int)) with
            | true =>
              have g0 : 16 + m < n := by have := of_decide_eq_true c0; omega
              have c15 : decide (((16 + m : Nat) : Int) < 15) = false := decide_eq_false (by omega)
              have e15 : (((16 + m : Nat) : Int) == 15) = false := beq_eq_false_iff_ne.2 (by omega)
              have g15 : decide ((15 : Int) ≤ ((16 + m : Nat) : Int)) = true := decide_eq_true (by omega)
              have w1 : IntKind.i64.wrap (((16 + m : Nat) : Int) + 1) = ((16 + m + 1 : Nat) : Int) := by rw [IntKind.wrap_i64]; omega
              have rA : R.getD (16 + m) 0 = D.getD (16 + m) 0 := rD _ (by omega)
              have u2 : IntKind.i64.wrap (((D.getD (16 + m) 0 : Nat) : Int).tdiv 32768) = ((D.getD (16 + m) 0 / 32768 : Nat) : Int) := by
                rw [show (32768 : Int) = ((32768 : Nat) : Int) from rfl, ← Int.ofNat_tdiv, IntKind.wrap_i64]; omega
              have hn : nW D (m + 1) = D.getD (16 + m) 0 / 32768 + D.getD (16 + m + 1) 0 % 32768 * 2 := by
                unfold nW; rw [show 15 + (m + 1) = 16 + m by omega]
              have bn := nW_lt bD (m + 1)
              have u6 : ((nW D (m + 1) : Nat) : Int).tmod 65536 = ((nW D (m + 1) : Nat) : Int) := by rw [show (65536 : Int) = ((65536 : Nat) : Int) from rfl, ← Int.ofNat_tmod, Nat.mod_eq_of_lt bn]
              have hh1 := highW_succ D (m + 1)
              have hidx : 16 + (m + 1) = 16 + m + 1 := rfl
              cases c4 : decide (((16 + m + 1 : Nat) : Int) < (n : Int)) with
              | true =>
                have g4 : 16 + m + 1 < n := by have := of_decide_eq_true c4; omega
                have rB : R.getD (16 + m + 1) 0 = D.getD (16 + m + 1) 0 := rD _ (by omega)
                have u3 : ((D.getD (16 + m + 1) 0 : Nat) : Int).tmod 32768 = ((D.getD (16 + m + 1) 0 % 32768 : Nat) : Int) := by rw [show (32768 : Int) = ((32768 : Nat) : Int) from rfl, ← Int.ofNat_tmod]
                have u4 : IntKind.i64.wrap (((D.getD (16 + m + 1) 0 % 32768 : Nat) : Int) * 2) = ((D.getD (16 + m + 1) 0 % 32768 * 2 : Nat) : Int) := by rw [IntKind.wrap_i64]; omega
                have u5 : IntKind.i64.wrap (((D.getD (16 + m) 0 / 32768 : Nat) : Int) + ((D.getD (16 + m + 1) 0 % 32768 * 2 : Nat) : Int)) = ((nW D (m + 1) : Nat) : Int) := by
                  rw [IntKind.wrap_i64, hn]; omega
                simp only [rdI1, c0, c15, e15, g15, c4, w1, u2, u3, u4, u5, u6, rA, rB, envR, con0, conN0, conN1, conN2, natsOf_arr, rowOf_arr, natsOf_cells, rowOf_cells, toN, natL_st, natL_d, natL_enc, natL_up, gr1, gaddC, gtimesC, gprimeC, gbelowC, gminC, conB2, retQx, Nat.sub_zero, go_sem, reduceCtorEq, ↓reduceIte, Nat.reduceAdd, Nat.reduceMul, Nat.reduceSub, Nat.reduceEqDiff, Nat.reduceLT, Nat.reduceBEq, Nat.reduceBNe, Nat.reduceLeDiff, Int.reduceLE, Int.reduceLT, Int.reduceToNat, Int.reduceEq, Int.reduceAdd, UInt8.reduceToNat, UInt32.reduceToNat, UInt64.reduceToNat, UInt8.reduceOfNat, UInt32.reduceOfNat, UInt64.reduceOfNat, Fin.isValue, Int.reduceSub, Int.reduceMul, Int.reduceNeg, Int.reduceMod, Int.reduceDiv, Int.reduceTDiv, Int.reduceTMod, Int.reduceBEq, Int.reduceBNe, Nat.reduceDiv, Nat.reducePow]
                repeat' apply And.intro
                all_goals first
                  | omega
                  | exact n19_lt
                  | exact prime_lt
                  | exact bD
                  | exact bR
                  | exact hlow
                  | exact ht
                  | exact hT
                  | rfl
                  | skip
                refine again (Sum.inr (m + 1) : Nat ⊕ Nat) [(800, 160032)] (by simp only [rdOk1]; omega) (by simp only [rdIx]; omega) ?_
                simp only [rdI1, hh1, hidx, envR, con0, conN0, conN1, conN2, natsOf_arr, rowOf_arr, natsOf_cells, rowOf_cells, toN, natL_st, natL_d, natL_enc, natL_up, gr1, gaddC, gtimesC, gprimeC, gbelowC, gminC, conB2, retQx, Nat.sub_zero, go_sem, reduceCtorEq, ↓reduceIte, Nat.reduceAdd, Nat.reduceMul, Nat.reduceSub, Nat.reduceEqDiff, Nat.reduceLT, Nat.reduceBEq, Nat.reduceBNe, Nat.reduceLeDiff, Int.reduceLE, Int.reduceLT, Int.reduceToNat, Int.reduceEq, Int.reduceAdd, UInt8.reduceToNat, UInt32.reduceToNat, UInt64.reduceToNat, UInt8.reduceOfNat, UInt32.reduceOfNat, UInt64.reduceOfNat, Fin.isValue, Int.reduceSub, Int.reduceMul, Int.reduceNeg, Int.reduceMod, Int.reduceDiv, Int.reduceTDiv, Int.reduceTMod, Int.reduceBEq, Int.reduceBNe, Nat.reduceDiv, Nat.reducePow]
                exact ⟨rfl, id⟩
              | false =>
                have z := getD_out (l := D) (i := 16 + m + 1) (by have := of_decide_eq_false c4; omega)
                have u5 : ((D.getD (16 + m) 0 / 32768 : Nat) : Int) = ((nW D (m + 1) : Nat) : Int) := by
                  rw [hn, z]; omega
                simp only [rdI1, c0, c15, e15, g15, c4, w1, u2, u5, u6, rA, envR, con0, conN0, conN1, conN2, natsOf_arr, rowOf_arr, natsOf_cells, rowOf_cells, toN, natL_st, natL_d, natL_enc, natL_up, gr1, gaddC, gtimesC, gprimeC, gbelowC, gminC, conB2, retQx, Nat.sub_zero, go_sem, reduceCtorEq, ↓reduceIte, Nat.reduceAdd, Nat.reduceMul, Nat.reduceSub, Nat.reduceEqDiff, Nat.reduceLT, Nat.reduceBEq, Nat.reduceBNe, Nat.reduceLeDiff, Int.reduceLE, Int.reduceLT, Int.reduceToNat, Int.reduceEq, Int.reduceAdd, UInt8.reduceToNat, UInt32.reduceToNat, UInt64.reduceToNat, UInt8.reduceOfNat, UInt32.reduceOfNat, UInt64.reduceOfNat, Fin.isValue, Int.reduceSub, Int.reduceMul, Int.reduceNeg, Int.reduceMod, Int.reduceDiv, Int.reduceTDiv, Int.reduceTMod, Int.reduceBEq, Int.reduceBNe, Nat.reduceDiv, Nat.reducePow]
                repeat' apply And.intro
                all_goals first
                  | omega
                  | exact n19_lt
                  | exact prime_lt
                  | exact bD
                  | exact bR
                  | exact hlow
                  | exact ht
                  | exact hT
                  | rfl
                  | skip
                refine again (Sum.inr (m + 1) : Nat ⊕ Nat) [(800, 160032)] (by simp only [rdOk1]; omega) (by simp only [rdIx]; omega) ?_
                simp only [rdI1, hh1, hidx, envR, con0, conN0, conN1, conN2, natsOf_arr, rowOf_arr, natsOf_cells, rowOf_cells, toN, natL_st, natL_d, natL_enc, natL_up, gr1, gaddC, gtimesC, gprimeC, gbelowC, gminC, conB2, retQx, Nat.sub_zero, go_sem, reduceCtorEq, ↓reduceIte, Nat.reduceAdd, Nat.reduceMul, Nat.reduceSub, Nat.reduceEqDiff, Nat.reduceLT, Nat.reduceBEq, Nat.reduceBNe, Nat.reduceLeDiff, Int.reduceLE, Int.reduceLT, Int.reduceToNat, Int.reduceEq, Int.reduceAdd, UInt8.reduceToNat, UInt32.reduceToNat, UInt64.reduceToNat, UInt8.reduceOfNat, UInt32.reduceOfNat, UInt64.reduceOfNat, Fin.isValue, Int.reduceSub, Int.reduceMul, Int.reduceNeg, Int.reduceMod, Int.reduceDiv, Int.reduceTDiv, Int.reduceTMod, Int.reduceBEq, Int.reduceBNe, Nat.reduceDiv, Nat.reducePow]
                exact ⟨rfl, id⟩
            | false =>
              have ge : m + 1 = n - 15 := by have := of_decide_eq_false c0; omega
              have hbh := highW_lt bD (m + 1)
              rw [← ge] at hHi hK
              simp only [rdI1, c0, envR, con0, conN0, conN1, conN2, natsOf_arr, rowOf_arr, natsOf_cells, rowOf_cells, toN, natL_st, natL_d, natL_enc, natL_up, gr1, gaddC, gtimesC, gprimeC, gbelowC, gminC, conB2, retQx, Nat.sub_zero, go_sem, reduceCtorEq, ↓reduceIte, Nat.reduceAdd, Nat.reduceMul, Nat.reduceSub, Nat.reduceEqDiff, Nat.reduceLT, Nat.reduceBEq, Nat.reduceBNe, Nat.reduceLeDiff, Int.reduceLE, Int.reduceLT, Int.reduceToNat, Int.reduceEq, Int.reduceAdd, UInt8.reduceToNat, UInt32.reduceToNat, UInt64.reduceToNat, UInt8.reduceOfNat, UInt32.reduceOfNat, UInt64.reduceOfNat, Fin.isValue, Int.reduceSub, Int.reduceMul, Int.reduceNeg, Int.reduceMod, Int.reduceDiv, Int.reduceTDiv, Int.reduceTMod, Int.reduceBEq, Int.reduceBNe, Nat.reduceDiv, Nat.reducePow]
              refine loop_inv (envR_ok gr1_ok 132 [0]) (rdI2 a wa D (m + 1)) (fun k => trimW (highW D (m + 1)) 0 k = trimW (highW D (m + 1)) 0 (m + 1) ∧ k ≤ m + 1) (fun k => k) (m + 1) [] ⟨rfl, Nat.le_refl _⟩ ?_ ?_
              · simp only [rdI2, envR, con0, conN0, conN1, conN2, natsOf_arr, rowOf_arr, natsOf_cells, rowOf_cells, toN, natL_st, natL_d, natL_enc, natL_up, gr1, gaddC, gtimesC, gprimeC, gbelowC, gminC, conB2, retQx, Nat.sub_zero, go_sem, reduceCtorEq, ↓reduceIte, Nat.reduceAdd, Nat.reduceMul, Nat.reduceSub, Nat.reduceEqDiff, Nat.reduceLT, Nat.reduceBEq, Nat.reduceBNe, Nat.reduceLeDiff, Int.reduceLE, Int.reduceLT, Int.reduceToNat, Int.reduceEq, Int.reduceAdd, UInt8.reduceToNat, UInt32.reduceToNat, UInt64.reduceToNat, UInt8.reduceOfNat, UInt32.reduceOfNat, UInt64.reduceOfNat, Fin.isValue, Int.reduceSub, Int.reduceMul, Int.reduceNeg, Int.reduceMod, Int.reduceDiv, Int.reduceTDiv, Int.reduceTMod, Int.reduceBEq, Int.reduceBNe, Nat.reduceDiv, Nat.reducePow]
                exact ⟨rfl, id⟩
              · rintro k ⟨k1, k2⟩
                rcases k with _ | j
                · have hk0 : redK s = 0 := hK.trans k1.symm
                  have hr0 : redR s = lowW D := by unfold redR; rw [if_pos hk0, hsD]
                  have hnx : redNext s = (lowW D, 16) := by
                    unfold redNext
                    rw [hr0, hll]
                    exact congrArg _ (trimW_stop (.inr (.inl (Nat.le_refl _))))
                  rw [hnx] at X1 X2 X3
                  simp only [rdI2, envR, con0, conN0, conN1, conN2, natsOf_arr, rowOf_arr, natsOf_cells, rowOf_cells, toN, natL_st, natL_d, natL_enc, natL_up, gr1, gaddC, gtimesC, gprimeC, gbelowC, gminC, conB2, retQx, Nat.sub_zero, go_sem, reduceCtorEq, ↓reduceIte, Nat.reduceAdd, Nat.reduceMul, Nat.reduceSub, Nat.reduceEqDiff, Nat.reduceLT, Nat.reduceBEq, Nat.reduceBNe, Nat.reduceLeDiff, Int.reduceLE, Int.reduceLT, Int.reduceToNat, Int.reduceEq, Int.reduceAdd, UInt8.reduceToNat, UInt32.reduceToNat, UInt64.reduceToNat, UInt8.reduceOfNat, UInt32.reduceOfNat, UInt64.reduceOfNat, Fin.isValue, Int.reduceSub, Int.reduceMul, Int.reduceNeg, Int.reduceMod, Int.reduceDiv, Int.reduceTDiv, Int.reduceTMod, Int.reduceBEq, Int.reduceBNe, Nat.reduceDiv, Nat.reducePow]
                  refine loop_rounds (envR_ok gr1_ok 132 [0]) 1 ?_
                  simp only [rdI2, envR, con0, conN0, conN1, conN2, natsOf_arr, rowOf_arr, natsOf_cells, rowOf_cells, toN, natL_st, natL_d, natL_enc, natL_up, gr1, gaddC, gtimesC, gprimeC, gbelowC, gminC, conB2, retQx, Nat.sub_zero, go_sem, reduceCtorEq, ↓reduceIte, Nat.reduceAdd, Nat.reduceMul, Nat.reduceSub, Nat.reduceEqDiff, Nat.reduceLT, Nat.reduceBEq, Nat.reduceBNe, Nat.reduceLeDiff, Int.reduceLE, Int.reduceLT, Int.reduceToNat, Int.reduceEq, Int.reduceAdd, UInt8.reduceToNat, UInt32.reduceToNat, UInt64.reduceToNat, UInt8.reduceOfNat, UInt32.reduceOfNat, UInt64.reduceOfNat, Fin.isValue, Int.reduceSub, Int.reduceMul, Int.reduceNeg, Int.reduceMod, Int.reduceDiv, Int.reduceTDiv, Int.reduceTMod, Int.reduceBEq, Int.reduceBNe, Nat.reduceDiv, Nat.reducePow]
                  refine again (some (f', lowW D, 16) : Option (Nat × List Nat × Nat)) [(600, 700)] ⟨X1, X2, X3⟩ (by simp only [redMu]; omega) ?_
                  simp only [redOut0, envR, con0, conN0, conN1, conN2, natsOf_arr, rowOf_arr, natsOf_cells, rowOf_cells, toN, natL_st, natL_d, natL_enc, natL_up, gr1, gaddC, gtimesC, gprimeC, gbelowC, gminC, conB2, retQx, Nat.sub_zero, go_sem, reduceCtorEq, ↓reduceIte, Nat.reduceAdd, Nat.reduceMul, Nat.reduceSub, Nat.reduceEqDiff, Nat.reduceLT, Nat.reduceBEq, Nat.reduceBNe, Nat.reduceLeDiff, Int.reduceLE, Int.reduceLT, Int.reduceToNat, Int.reduceEq, Int.reduceAdd, UInt8.reduceToNat, UInt32.reduceToNat, UInt64.reduceToNat, UInt8.reduceOfNat, UInt32.reduceOfNat, UInt64.reduceOfNat, Fin.isValue, Int.reduceSub, Int.reduceMul, Int.reduceNeg, Int.reduceMod, Int.reduceDiv, Int.reduceTDiv, Int.reduceTMod, Int.reduceBEq, Int.reduceBNe, Nat.reduceDiv, Nat.reducePow]
                  exact ⟨rfl, id⟩
                · have hwj : IntKind.i64.wrap (((j + 1 : Nat) : Int) - 1) = (j : Int) := by rw [IntKind.wrap_i64]; omega
                  have cpos : decide ((0 : Int) < ((j + 1 : Nat) : Int)) = true := decide_eq_true (by omega)
                  cases cz : ((((highW D (m + 1)).getD j 0 : Nat) : Int) == 0) with
                  | true =>
                    have gz : (highW D (m + 1)).getD j 0 = 0 := by have := eq_of_beq cz; omega
                    have k1' := (trimW_go (Nat.zero_le j) gz).symm.trans k1
                    simp only [rdI2, hwj, cpos, cz, envR, con0, conN0, conN1, conN2, natsOf_arr, rowOf_arr, natsOf_cells, rowOf_cells, toN, natL_st, natL_d, natL_enc, natL_up, gr1, gaddC, gtimesC, gprimeC, gbelowC, gminC, conB2, retQx, Nat.sub_zero, go_sem, reduceCtorEq, ↓reduceIte, Nat.reduceAdd, Nat.reduceMul, Nat.reduceSub, Nat.reduceEqDiff, Nat.reduceLT, Nat.reduceBEq, Nat.reduceBNe, Nat.reduceLeDiff, Int.reduceLE, Int.reduceLT, Int.reduceToNat, Int.reduceEq, Int.reduceAdd, UInt8.reduceToNat, UInt32.reduceToNat, UInt64.reduceToNat, UInt8.reduceOfNat, UInt32.reduceOfNat, UInt64.reduceOfNat, Fin.isValue, Int.reduceSub, Int.reduceMul, Int.reduceNeg, Int.reduceMod, Int.reduceDiv, Int.reduceTDiv, Int.reduceTMod, Int.reduceBEq, Int.reduceBNe, Nat.reduceDiv, Nat.reducePow]
                    repeat' apply And.intro
                    all_goals first
                      | omega
                      | exact n19_lt
                      | exact prime_lt
                      | exact bD
                      | exact bR
                      | exact hlow
                      | exact ht
                      | exact hT
                      | rfl
                      | skip
                    refine again j [] ⟨k1', by omega⟩ (by omega) ?_
                    simp only [rdI2, envR, con0, conN0, conN1, conN2, natsOf_arr, rowOf_arr, natsOf_cells, rowOf_cells, toN, natL_st, natL_d, natL_enc, natL_up, gr1, gaddC, gtimesC, gprimeC, gbelowC, gminC, conB2, retQx, Nat.sub_zero, go_sem, reduceCtorEq, ↓reduceIte, Nat.reduceAdd, Nat.reduceMul, Nat.reduceSub, Nat.reduceEqDiff, Nat.reduceLT, Nat.reduceBEq, Nat.reduceBNe, Nat.reduceLeDiff, Int.reduceLE, Int.reduceLT, Int.reduceToNat, Int.reduceEq, Int.reduceAdd, UInt8.reduceToNat, UInt32.reduceToNat, UInt64.reduceToNat, UInt8.reduceOfNat, UInt32.reduceOfNat, UInt64.reduceOfNat, Fin.isValue, Int.reduceSub, Int.reduceMul, Int.reduceNeg, Int.reduceMod, Int.reduceDiv, Int.reduceTDiv, Int.reduceTMod, Int.reduceBEq, Int.reduceBNe, Nat.reduceDiv, Nat.reducePow]
                    exact ⟨rfl, id⟩
                  | false =>
                    have gz : (highW D (m + 1)).getD j 0 ≠ 0 := by have := ne_of_beq_false cz; omega
                    have hk1 : redK s = j + 1 := (hK.trans k1.symm).trans (trimW_stop (.inr (.inr gz)))
                    have hr1 : redR s = addL 65536 (lowW D) (timesL 65536 ((highW D (m + 1)).take (j + 1)) [19]) := by unfold redR; rw [if_neg (by rw [hk1]; omega), hk1, hHi, hsD]
                    have ht : dlt 65536 ((highW D (m + 1)).take (j + 1)) := dlt_take hbh _
                    have hT : dlt 65536 (timesL 65536 ((highW D (m + 1)).take (j + 1)) [19]) := timesL_lt (by decide) ht n19_lt
                    have hTl : (timesL 65536 ((highW D (m + 1)).take (j + 1)) [19]).length = j + 1 + 1 := by rw [timesL_len, List.length_take, hhl, Nat.min_eq_left k2]; rfl
                    have htl : (lowW D).take 16 = lowW D := List.take_of_length_le (by omega)
                    have l19 : [19].take 1 = [19] := rfl
                    have hAl := addLen_bd 65536 (lowW D) (timesL 65536 ((highW D (m + 1)).take (j + 1)) [19])
                    rw [← addL_len, hll, hTl] at hAl
                    simp only [rdI2, hwj, cpos, cz, htl, List.take_length, envR, con0, conN0, conN1, conN2, natsOf_arr, rowOf_arr, natsOf_cells, rowOf_cells, toN, natL_st, natL_d, natL_enc, natL_up, gr1, gaddC, gtimesC, gprimeC, gbelowC, gminC, conB2, retQx, Nat.sub_zero, go_sem, reduceCtorEq, ↓reduceIte, Nat.reduceAdd, Nat.reduceMul, Nat.reduceSub, Nat.reduceEqDiff, Nat.reduceLT, Nat.reduceBEq, Nat.reduceBNe, Nat.reduceLeDiff, Int.reduceLE, Int.reduceLT, Int.reduceToNat, Int.reduceEq, Int.reduceAdd, UInt8.reduceToNat, UInt32.reduceToNat, UInt64.reduceToNat, UInt8.reduceOfNat, UInt32.reduceOfNat, UInt64.reduceOfNat, Fin.isValue, Int.reduceSub, Int.reduceMul, Int.reduceNeg, Int.reduceMod, Int.reduceDiv, Int.reduceTDiv, Int.reduceTMod, Int.reduceBEq, Int.reduceBNe, Nat.reduceDiv, Nat.reducePow]
                    repeat' apply And.intro
                    all_goals first
                      | omega
                      | exact n19_lt
                      | exact prime_lt
                      | exact bD
                      | exact bR
                      | exact hlow
                      | exact ht
                      | exact hT
                      | rfl
                      | skip
                    obtain ⟨R', hR'⟩ : ∃ R', R' = addL 65536 (lowW D) (timesL 65536 ((highW D (m + 1)).take (j + 1)) [19]) := ⟨_, rfl⟩
                    rw [← hR'] at hr1 hAl ⊢
                    refine loop_inv (envR_ok gr1_ok 132 [0]) (rdI4 a wa R') (fun q => trimW R' 16 q = trimW R' 16 R'.length ∧ 16 ≤ q ∧ q ≤ R'.length) (fun q => q) R'.length [(900, 210032)] ⟨rfl, by omega, Nat.le_refl _⟩ ?_ ?_
                    · simp only [rdI4, envR, con0, conN0, conN1, conN2, natsOf_arr, rowOf_arr, natsOf_cells, rowOf_cells, toN, natL_st, natL_d, natL_enc, natL_up, gr1, gaddC, gtimesC, gprimeC, gbelowC, gminC, conB2, retQx, Nat.sub_zero, go_sem, reduceCtorEq, ↓reduceIte, Nat.reduceAdd, Nat.reduceMul, Nat.reduceSub, Nat.reduceEqDiff, Nat.reduceLT, Nat.reduceBEq, Nat.reduceBNe, Nat.reduceLeDiff, Int.reduceLE, Int.reduceLT, Int.reduceToNat, Int.reduceEq, Int.reduceAdd, UInt8.reduceToNat, UInt32.reduceToNat, UInt64.reduceToNat, UInt8.reduceOfNat, UInt32.reduceOfNat, UInt64.reduceOfNat, Fin.isValue, Int.reduceSub, Int.reduceMul, Int.reduceNeg, Int.reduceMod, Int.reduceDiv, Int.reduceTDiv, Int.reduceTMod, Int.reduceBEq, Int.reduceBNe, Nat.reduceDiv, Nat.reducePow]
                      exact ⟨rfl, id⟩
                    · rintro q ⟨q1, q2, q3⟩
                      have hnx : ∀ p, trimW R' 16 q = p → redNext s = (R', p) := fun p hp => by
                        unfold redNext
                        rw [hr1, ← q1, hp]
                      cases c16 : decide ((16 : Int) < (q : Int)) with
                      | false =>
                        obtain rfl : q = 16 := by have := of_decide_eq_false c16; omega
                        rw [hnx 16 (trimW_stop (.inr (.inl (Nat.le_refl _))))] at X1 X2 X3
                        simp only [rdI4, envR, con0, conN0, conN1, conN2, natsOf_arr, rowOf_arr, natsOf_cells, rowOf_cells, toN, natL_st, natL_d, natL_enc, natL_up, gr1, gaddC, gtimesC, gprimeC, gbelowC, gminC, conB2, retQx, Nat.sub_zero, go_sem, reduceCtorEq, ↓reduceIte, Nat.reduceAdd, Nat.reduceMul, Nat.reduceSub, Nat.reduceEqDiff, Nat.reduceLT, Nat.reduceBEq, Nat.reduceBNe, Nat.reduceLeDiff, Int.reduceLE, Int.reduceLT, Int.reduceToNat, Int.reduceEq, Int.reduceAdd, UInt8.reduceToNat, UInt32.reduceToNat, UInt64.reduceToNat, UInt8.reduceOfNat, UInt32.reduceOfNat, UInt64.reduceOfNat, Fin.isValue, Int.reduceSub, Int.reduceMul, Int.reduceNeg, Int.reduceMod, Int.reduceDiv, Int.reduceTDiv, Int.reduceTMod, Int.reduceBEq, Int.reduceBNe, Nat.reduceDiv, Nat.reducePow]
                        refine again (some (f', R', 16) : Option (Nat × List Nat × Nat)) [(600, 900)] ⟨X1, X2, X3⟩ (by simp only [redMu]; omega) ?_
                        simp only [redOut0, envR, con0, conN0, conN1, conN2, natsOf_arr, rowOf_arr, natsOf_cells, rowOf_cells, toN, natL_st, natL_d, natL_enc, natL_up, gr1, gaddC, gtimesC, gprimeC, gbelowC, gminC, conB2, retQx, Nat.sub_zero, go_sem, reduceCtorEq, ↓reduceIte, Nat.reduceAdd, Nat.reduceMul, Nat.reduceSub, Nat.reduceEqDiff, Nat.reduceLT, Nat.reduceBEq, Nat.reduceBNe, Nat.reduceLeDiff, Int.reduceLE, Int.reduceLT, Int.reduceToNat, Int.reduceEq, Int.reduceAdd, UInt8.reduceToNat, UInt32.reduceToNat, UInt64.reduceToNat, UInt8.reduceOfNat, UInt32.reduceOfNat, UInt64.reduceOfNat, Fin.isValue, Int.reduceSub, Int.reduceMul, Int.reduceNeg, Int.reduceMod, Int.reduceDiv, Int.reduceTDiv, Int.reduceTMod, Int.reduceBEq, Int.reduceBNe, Nat.reduceDiv, Nat.reducePow]
                        exact ⟨rfl, id⟩
                      | true =>
                        obtain ⟨j', rfl⟩ : ∃ j', q = j' + 1 := ⟨q - 1, by have := of_decide_eq_true c16; omega⟩
                        have hj : 16 ≤ j' := by have := of_decide_eq_true c16; omega
                        have hwj' : IntKind.i64.wrap (((j' + 1 : Nat) : Int) - 1) = (j' : Int) := by rw [IntKind.wrap_i64]; omega
                        cases cy : (((R'.getD j' 0 : Nat) : Int) == 0) with
                        | true =>
                          have gy : R'.getD j' 0 = 0 := by have := eq_of_beq cy; omega
                          have q1' := (trimW_go hj gy).symm.trans q1
                          simp only [rdI4, c16, hwj', cy, envR, con0, conN0, conN1, conN2, natsOf_arr, rowOf_arr, natsOf_cells, rowOf_cells, toN, natL_st, natL_d, natL_enc, natL_up, gr1, gaddC, gtimesC, gprimeC, gbelowC, gminC, conB2, retQx, Nat.sub_zero, go_sem, reduceCtorEq, ↓reduceIte, Nat.reduceAdd, Nat.reduceMul, Nat.reduceSub, Nat.reduceEqDiff, Nat.reduceLT, Nat.reduceBEq, Nat.reduceBNe, Nat.reduceLeDiff, Int.reduceLE, Int.reduceLT, Int.reduceToNat, Int.reduceEq, Int.reduceAdd, UInt8.reduceToNat, UInt32.reduceToNat, UInt64.reduceToNat, UInt8.reduceOfNat, UInt32.reduceOfNat, UInt64.reduceOfNat, Fin.isValue, Int.reduceSub, Int.reduceMul, Int.reduceNeg, Int.reduceMod, Int.reduceDiv, Int.reduceTDiv, Int.reduceTMod, Int.reduceBEq, Int.reduceBNe, Nat.reduceDiv, Nat.reducePow]
                          repeat' apply And.intro
                          all_goals first
                            | omega
                            | exact n19_lt
                            | exact prime_lt
                            | exact bD
                            | exact bR
                            | exact hlow
                            | exact ht
                            | exact hT
                            | rfl
                            | skip
                          refine again j' [] ⟨q1', by omega⟩ (by omega) ?_
                          simp only [rdI4, envR, con0, conN0, conN1, conN2, natsOf_arr, rowOf_arr, natsOf_cells, rowOf_cells, toN, natL_st, natL_d, natL_enc, natL_up, gr1, gaddC, gtimesC, gprimeC, gbelowC, gminC, conB2, retQx, Nat.sub_zero, go_sem, reduceCtorEq, ↓reduceIte, Nat.reduceAdd, Nat.reduceMul, Nat.reduceSub, Nat.reduceEqDiff, Nat.reduceLT, Nat.reduceBEq, Nat.reduceBNe, Nat.reduceLeDiff, Int.reduceLE, Int.reduceLT, Int.reduceToNat, Int.reduceEq, Int.reduceAdd, UInt8.reduceToNat, UInt32.reduceToNat, UInt64.reduceToNat, UInt8.reduceOfNat, UInt32.reduceOfNat, UInt64.reduceOfNat, Fin.isValue, Int.reduceSub, Int.reduceMul, Int.reduceNeg, Int.reduceMod, Int.reduceDiv, Int.reduceTDiv, Int.reduceTMod, Int.reduceBEq, Int.reduceBNe, Nat.reduceDiv, Nat.reducePow]
                          exact ⟨rfl, id⟩
                        | false =>
                          have gy : R'.getD j' 0 ≠ 0 := by have := ne_of_beq_false cy; omega
                          rw [hnx (j' + 1) (trimW_stop (.inr (.inr gy)))] at X1 X2 X3
                          simp only [rdI4, c16, hwj', cy, envR, con0, conN0, conN1, conN2, natsOf_arr, rowOf_arr, natsOf_cells, rowOf_cells, toN, natL_st, natL_d, natL_enc, natL_up, gr1, gaddC, gtimesC, gprimeC, gbelowC, gminC, conB2, retQx, Nat.sub_zero, go_sem, reduceCtorEq, ↓reduceIte, Nat.reduceAdd, Nat.reduceMul, Nat.reduceSub, Nat.reduceEqDiff, Nat.reduceLT, Nat.reduceBEq, Nat.reduceBNe, Nat.reduceLeDiff, Int.reduceLE, Int.reduceLT, Int.reduceToNat, Int.reduceEq, Int.reduceAdd, UInt8.reduceToNat, UInt32.reduceToNat, UInt64.reduceToNat, UInt8.reduceOfNat, UInt32.reduceOfNat, UInt64.reduceOfNat, Fin.isValue, Int.reduceSub, Int.reduceMul, Int.reduceNeg, Int.reduceMod, Int.reduceDiv, Int.reduceTDiv, Int.reduceTMod, Int.reduceBEq, Int.reduceBNe, Nat.reduceDiv, Nat.reducePow]
                          repeat' apply And.intro
                          all_goals first
                            | omega
                            | exact n19_lt
                            | exact prime_lt
                            | exact bD
                            | exact bR
                            | exact hlow
                            | exact ht
                            | exact hT
                            | rfl
                            | skip
                          refine again (some (f', R', j' + 1) : Option (Nat × List Nat × Nat)) [(600, 900)] ⟨X1, X2, X3⟩ (by simp only [redMu]; omega) ?_
                          simp only [redOut0, envR, con0, conN0, conN1, conN2, natsOf_arr, rowOf_arr, natsOf_cells, rowOf_cells, toN, natL_st, natL_d, natL_enc, natL_up, gr1, gaddC, gtimesC, gprimeC, gbelowC, gminC, conB2, retQx, Nat.sub_zero, go_sem, reduceCtorEq, ↓reduceIte, Nat.reduceAdd, Nat.reduceMul, Nat.reduceSub, Nat.reduceEqDiff, Nat.reduceLT, Nat.reduceBEq, Nat.reduceBNe, Nat.reduceLeDiff, Int.reduceLE, Int.reduceLT, Int.reduceToNat, Int.reduceEq, Int.reduceAdd, UInt8.reduceToNat, UInt32.reduceToNat, UInt64.reduceToNat, UInt8.reduceOfNat, UInt32.reduceOfNat, UInt64.reduceOfNat, Fin.isValue, Int.reduceSub, Int.reduceMul, Int.reduceNeg, Int.reduceMod, Int.reduceDiv, Int.reduceTDiv, Int.reduceTMod, Int.reduceBEq, Int.reduceBNe, Nat.reduceDiv, Nat.reducePow]
                          exact ⟨rfl, id⟩
      | false =>
        have g1 : n = 16 := by have := of_decide_eq_false c1; omega
        have c2 : ((n : Int) == 16) = true := by rw [g1]; rfl
        cases c3 : decide ((32767 : Int) < ((R.getD 15 0 : Nat) : Int)) with
        | true =>
          have hgo : redGo s = true := by
            unfold redGo
            rw [hs]
            have : decide (32767 < R.getD 15 0) = true := decide_eq_true (by have := of_decide_eq_true c3; omega)
            simp only [this, Bool.or_true]
          have X1 := Xg hgo
          have X2 := Xm hgo
          have X3 := (redNext_spec x3' hgo).1
          simp only [redOut0, c1, c2, c3, envR, con0, conN0, conN1, conN2, natsOf_arr, rowOf_arr, natsOf_cells, rowOf_cells, toN, natL_st, natL_d, natL_enc, natL_up, gr1, gaddC, gtimesC, gprimeC, gbelowC, gminC, conB2, retQx, Nat.sub_zero, go_sem, reduceCtorEq, ↓reduceIte, Nat.reduceAdd, Nat.reduceMul, Nat.reduceSub, Nat.reduceEqDiff, Nat.reduceLT, Nat.reduceBEq, Nat.reduceBNe, Nat.reduceLeDiff, Int.reduceLE, Int.reduceLT, Int.reduceToNat, Int.reduceEq, Int.reduceAdd, UInt8.reduceToNat, UInt32.reduceToNat, UInt64.reduceToNat, UInt8.reduceOfNat, UInt32.reduceOfNat, UInt64.reduceOfNat, Fin.isValue, Int.reduceSub, Int.reduceMul, Int.reduceNeg, Int.reduceMod, Int.reduceDiv, Int.reduceTDiv, Int.reduceTMod, Int.reduceBEq, Int.reduceBNe, Nat.reduceDiv, Nat.reducePow]
          repeat' apply And.intro
          all_goals first
            | omega
            | exact n19_lt
            | exact prime_lt
            | exact bD
            | exact bR
            | exact hlow
            | exact ht
            | exact hT
            | rfl
            | skip
          refine loop_inv (envR_ok gr1_ok 132 [0]) (rdI1 600 n [(0, ⟨.arr Nat natL a, wa⟩), (600, ⟨.arr Nat natL R, true⟩)] D) (rdOk1 n) (fun x => n - rdIx x) (.inl 0) [(700, 30000)] (Nat.zero_le _) ?_ ?_
          · simp only [rdI1, lowI_0, envR, con0, conN0, conN1, conN2, natsOf_arr, rowOf_arr, natsOf_cells, rowOf_cells, toN, natL_st, natL_d, natL_enc, natL_up, gr1, gaddC, gtimesC, gprimeC, gbelowC, gminC, conB2, retQx, Nat.sub_zero, go_sem, reduceCtorEq, ↓reduceIte, Nat.reduceAdd, Nat.reduceMul, Nat.reduceSub, Nat.reduceEqDiff, Nat.reduceLT, Nat.reduceBEq, Nat.reduceBNe, Nat.reduceLeDiff, Int.reduceLE, Int.reduceLT, Int.reduceToNat, Int.reduceEq, Int.reduceAdd, UInt8.reduceToNat, UInt32.reduceToNat, UInt64.reduceToNat, UInt8.reduceOfNat, UInt32.reduceOfNat, UInt64.reduceOfNat, Fin.isValue, Int.reduceSub, Int.reduceMul, Int.reduceNeg, Int.reduceMod, Int.reduceDiv, Int.reduceTDiv, Int.reduceTMod, Int.reduceBEq, Int.reduceBNe, Nat.reduceDiv, Nat.reducePow]
            exact ⟨rfl, id, rfl⟩
          · rintro y hy
            rcases y with i | m
            · simp only [rdOk1] at hy
              have ll := lowI_len D i (by omega) (by omega)
              have c0 : decide ((i : Int) < (n : Int)) = true := decide_eq_true (by omega)
              have rA : R.getD i 0 = D.getD i 0 := rD i (by omega)
              have bA := bD i
              by_cases hi : i < 15
              · have c15 : decide ((i : Int) < 15) = true := decide_eq_true (by omega)
                have e15 : ((i : Int) == 15) = false := beq_eq_false_iff_ne.2 (by omega)
                have g15 : decide ((15 : Int) ≤ (i : Int)) = false := decide_eq_false (by omega)
                have w1 : IntKind.i64.wrap ((i : Int) + 1) = ((i + 1 : Nat) : Int) := by rw [IntKind.wrap_i64]; omega
                have st := lowI_step D i hi (by omega)
                simp only [rdI1, c0, c15, e15, g15, w1, rA, envR, con0, conN0, conN1, conN2, natsOf_arr, rowOf_arr, natsOf_cells, rowOf_cells, toN, natL_st, natL_d, natL_enc, natL_up, gr1, gaddC, gtimesC, gprimeC, gbelowC, gminC, conB2, retQx, Nat.sub_zero, go_sem, reduceCtorEq, ↓reduceIte, Nat.reduceAdd, Nat.reduceMul, Nat.reduceSub, Nat.reduceEqDiff, Nat.reduceLT, Nat.reduceBEq, Nat.reduceBNe, Nat.reduceLeDiff, Int.reduceLE, Int.reduceLT, Int.reduceToNat, Int.reduceEq, Int.reduceAdd, UInt8.reduceToNat, UInt32.reduceToNat, UInt64.reduceToNat, UInt8.reduceOfNat, UInt32.reduceOfNat, UInt64.reduceOfNat, Fin.isValue, Int.reduceSub, Int.reduceMul, Int.reduceNeg, Int.reduceMod, Int.reduceDiv, Int.reduceTDiv, Int.reduceTMod, Int.reduceBEq, Int.reduceBNe, Nat.reduceDiv, Nat.reducePow]
                repeat' apply And.intro
                all_goals first
                  | omega
                  | exact n19_lt
                  | exact prime_lt
                  | exact bD
                  | exact bR
                  | exact hlow
                  | exact ht
                  | exact hT
                  | rfl
                  | skip
                refine again (Sum.inl (i + 1) : Nat ⊕ Nat) [] (by simp only [rdOk1]; omega) (by simp only [rdIx]; omega) ?_
                simp only [rdI1, st, envR, con0, conN0, conN1, conN2, natsOf_arr, rowOf_arr, natsOf_cells, rowOf_cells, toN, natL_st, natL_d, natL_enc, natL_up, gr1, gaddC, gtimesC, gprimeC, gbelowC, gminC, conB2, retQx, Nat.sub_zero, go_sem, reduceCtorEq, ↓reduceIte, Nat.reduceAdd, Nat.reduceMul, Nat.reduceSub, Nat.reduceEqDiff, Nat.reduceLT, Nat.reduceBEq, Nat.reduceBNe, Nat.reduceLeDiff, Int.reduceLE, Int.reduceLT, Int.reduceToNat, Int.reduceEq, Int.reduceAdd, UInt8.reduceToNat, UInt32.reduceToNat, UInt64.reduceToNat, UInt8.reduceOfNat, UInt32.reduceOfNat, UInt64.reduceOfNat, Fin.isValue, Int.reduceSub, Int.reduceMul, Int.reduceNeg, Int.reduceMod, Int.reduceDiv, Int.reduceTDiv, Int.reduceTMod, Int.reduceBEq, Int.reduceBNe, Nat.reduceDiv, Nat.reducePow]
                exact ⟨rfl, id⟩
              · obtain rfl : i = 15 := by omega
                have c0 : decide ((15 : Int) < (n : Int)) = true := decide_eq_true (by omega)
                have u1 : ((D.getD 15 0 : Nat) : Int).tmod 32768 = ((D.getD 15 0 % 32768 : Nat) : Int) := by rw [show (32768 : Int) = ((32768 : Nat) : Int) from rfl, ← Int.ofNat_tmod]
                have u2 : IntKind.i64.wrap (((D.getD 15 0 : Nat) : Int).tdiv 32768) = ((D.getD 15 0 / 32768 : Nat) : Int) := by
                  rw [show (32768 : Int) = ((32768 : Nat) : Int) from rfl, ← Int.ofNat_tdiv, IntKind.wrap_i64]; omega
                have st := lowI_end D (by omega)
                have hh1 : highW D 1 = [nW D 0] := rfl
                have bn := nW_lt bD 0
                have u6 : ((nW D 0 : Nat) : Int).tmod 65536 = ((nW D 0 : Nat) : Int) := by rw [show (65536 : Int) = ((65536 : Nat) : Int) from rfl, ← Int.ofNat_tmod, Nat.mod_eq_of_lt bn]
                have z := getD_out (l := D) (i := 16) (by omega)
                have u5 : ((D.getD 15 0 / 32768 : Nat) : Int) = ((nW D 0 : Nat) : Int) := by
                  simp only [nW, Nat.add_zero, Nat.reduceAdd, z]; omega
                simp only [rdI1, c0, c1, u1, u2, u5, u6, rA, envR, con0, conN0, conN1, conN2, natsOf_arr, rowOf_arr, natsOf_cells, rowOf_cells, toN, natL_st, natL_d, natL_enc, natL_up, gr1, gaddC, gtimesC, gprimeC, gbelowC, gminC, conB2, retQx, Nat.sub_zero, go_sem, reduceCtorEq, ↓reduceIte, Nat.reduceAdd, Nat.reduceMul, Nat.reduceSub, Nat.reduceEqDiff, Nat.reduceLT, Nat.reduceBEq, Nat.reduceBNe, Nat.reduceLeDiff, Int.reduceLE, Int.reduceLT, Int.reduceToNat, Int.reduceEq, Int.reduceAdd, UInt8.reduceToNat, UInt32.reduceToNat, UInt64.reduceToNat, UInt8.reduceOfNat, UInt32.reduceOfNat, UInt64.reduceOfNat, Fin.isValue, Int.reduceSub, Int.reduceMul, Int.reduceNeg, Int.reduceMod, Int.reduceDiv, Int.reduceTDiv, Int.reduceTMod, Int.reduceBEq, Int.reduceBNe, Nat.reduceDiv, Nat.reducePow]
                repeat' apply And.intro
                all_goals first
                  | omega
                  | exact n19_lt
                  | exact prime_lt
                  | exact bD
                  | exact bR
                  | exact hlow
                  | exact ht
                  | exact hT
                  | rfl
                  | skip
                refine again (Sum.inr 0 : Nat ⊕ Nat) [(800, 160032)] (by simp only [rdOk1]; omega) (by simp only [rdIx]; omega) ?_
                simp only [rdI1, st, hh1, envR, con0, conN0, conN1, conN2, natsOf_arr, rowOf_arr, natsOf_cells, rowOf_cells, toN, natL_st, natL_d, natL_enc, natL_up, gr1, gaddC, gtimesC, gprimeC, gbelowC, gminC, conB2, retQx, Nat.sub_zero, go_sem, reduceCtorEq, ↓reduceIte, Nat.reduceAdd, Nat.reduceMul, Nat.reduceSub, Nat.reduceEqDiff, Nat.reduceLT, Nat.reduceBEq, Nat.reduceBNe, Nat.reduceLeDiff, Int.reduceLE, Int.reduceLT, Int.reduceToNat, Int.reduceEq, Int.reduceAdd, UInt8.reduceToNat, UInt32.reduceToNat, UInt64.reduceToNat, UInt8.reduceOfNat, UInt32.reduceOfNat, UInt64.reduceOfNat, Fin.isValue, Int.reduceSub, Int.reduceMul, Int.reduceNeg, Int.reduceMod, Int.reduceDiv, Int.reduceTDiv, Int.reduceTMod, Int.reduceBEq, Int.reduceBNe, Nat.reduceDiv, Nat.reducePow]
                exact ⟨rfl, id⟩
            · simp only [rdOk1] at hy
              have bA := bD (16 + m)
              have bB := bD (16 + m + 1)
              have hhl := highW_len D (m + 1)
              cases c0 : decide (((16 + m : Nat) : Int) < (n : Int)) with
              | true =>
                exfalso; have := of_decide_eq_true c0; omega
              | false =>
                have ge : m + 1 = n - 15 := by have := of_decide_eq_false c0; omega
                have hbh := highW_lt bD (m + 1)
                rw [← ge] at hHi hK
                simp only [rdI1, c0, envR, con0, conN0, conN1, conN2, natsOf_arr, rowOf_arr, natsOf_cells, rowOf_cells, toN, natL_st, natL_d, natL_enc, natL_up, gr1, gaddC, gtimesC, gprimeC, gbelowC, gminC, conB2, retQx, Nat.sub_zero, go_sem, reduceCtorEq, ↓reduceIte, Nat.reduceAdd, Nat.reduceMul, Nat.reduceSub, Nat.reduceEqDiff, Nat.reduceLT, Nat.reduceBEq, Nat.reduceBNe, Nat.reduceLeDiff, Int.reduceLE, Int.reduceLT, Int.reduceToNat, Int.reduceEq, Int.reduceAdd, UInt8.reduceToNat, UInt32.reduceToNat, UInt64.reduceToNat, UInt8.reduceOfNat, UInt32.reduceOfNat, UInt64.reduceOfNat, Fin.isValue, Int.reduceSub, Int.reduceMul, Int.reduceNeg, Int.reduceMod, Int.reduceDiv, Int.reduceTDiv, Int.reduceTMod, Int.reduceBEq, Int.reduceBNe, Nat.reduceDiv, Nat.reducePow]
                refine loop_inv (envR_ok gr1_ok 132 [0]) (rdI2 a wa D (m + 1)) (fun k => trimW (highW D (m + 1)) 0 k = trimW (highW D (m + 1)) 0 (m + 1) ∧ k ≤ m + 1) (fun k => k) (m + 1) [] ⟨rfl, Nat.le_refl _⟩ ?_ ?_
                · simp only [rdI2, envR, con0, conN0, conN1, conN2, natsOf_arr, rowOf_arr, natsOf_cells, rowOf_cells, toN, natL_st, natL_d, natL_enc, natL_up, gr1, gaddC, gtimesC, gprimeC, gbelowC, gminC, conB2, retQx, Nat.sub_zero, go_sem, reduceCtorEq, ↓reduceIte, Nat.reduceAdd, Nat.reduceMul, Nat.reduceSub, Nat.reduceEqDiff, Nat.reduceLT, Nat.reduceBEq, Nat.reduceBNe, Nat.reduceLeDiff, Int.reduceLE, Int.reduceLT, Int.reduceToNat, Int.reduceEq, Int.reduceAdd, UInt8.reduceToNat, UInt32.reduceToNat, UInt64.reduceToNat, UInt8.reduceOfNat, UInt32.reduceOfNat, UInt64.reduceOfNat, Fin.isValue, Int.reduceSub, Int.reduceMul, Int.reduceNeg, Int.reduceMod, Int.reduceDiv, Int.reduceTDiv, Int.reduceTMod, Int.reduceBEq, Int.reduceBNe, Nat.reduceDiv, Nat.reducePow]
                  exact ⟨rfl, id⟩
                · rintro k ⟨k1, k2⟩
                  rcases k with _ | j
                  · have hk0 : redK s = 0 := hK.trans k1.symm
                    have hr0 : redR s = lowW D := by unfold redR; rw [if_pos hk0, hsD]
                    have hnx : redNext s = (lowW D, 16) := by
                      unfold redNext
                      rw [hr0, hll]
                      exact congrArg _ (trimW_stop (.inr (.inl (Nat.le_refl _))))
                    rw [hnx] at X1 X2 X3
                    simp only [rdI2, envR, con0, conN0, conN1, conN2, natsOf_arr, rowOf_arr, natsOf_cells, rowOf_cells, toN, natL_st, natL_d, natL_enc, natL_up, gr1, gaddC, gtimesC, gprimeC, gbelowC, gminC, conB2, retQx, Nat.sub_zero, go_sem, reduceCtorEq, ↓reduceIte, Nat.reduceAdd, Nat.reduceMul, Nat.reduceSub, Nat.reduceEqDiff, Nat.reduceLT, Nat.reduceBEq, Nat.reduceBNe, Nat.reduceLeDiff, Int.reduceLE, Int.reduceLT, Int.reduceToNat, Int.reduceEq, Int.reduceAdd, UInt8.reduceToNat, UInt32.reduceToNat, UInt64.reduceToNat, UInt8.reduceOfNat, UInt32.reduceOfNat, UInt64.reduceOfNat, Fin.isValue, Int.reduceSub, Int.reduceMul, Int.reduceNeg, Int.reduceMod, Int.reduceDiv, Int.reduceTDiv, Int.reduceTMod, Int.reduceBEq, Int.reduceBNe, Nat.reduceDiv, Nat.reducePow]
                    refine loop_rounds (envR_ok gr1_ok 132 [0]) 1 ?_
                    simp only [rdI2, envR, con0, conN0, conN1, conN2, natsOf_arr, rowOf_arr, natsOf_cells, rowOf_cells, toN, natL_st, natL_d, natL_enc, natL_up, gr1, gaddC, gtimesC, gprimeC, gbelowC, gminC, conB2, retQx, Nat.sub_zero, go_sem, reduceCtorEq, ↓reduceIte, Nat.reduceAdd, Nat.reduceMul, Nat.reduceSub, Nat.reduceEqDiff, Nat.reduceLT, Nat.reduceBEq, Nat.reduceBNe, Nat.reduceLeDiff, Int.reduceLE, Int.reduceLT, Int.reduceToNat, Int.reduceEq, Int.reduceAdd, UInt8.reduceToNat, UInt32.reduceToNat, UInt64.reduceToNat, UInt8.reduceOfNat, UInt32.reduceOfNat, UInt64.reduceOfNat, Fin.isValue, Int.reduceSub, Int.reduceMul, Int.reduceNeg, Int.reduceMod, Int.reduceDiv, Int.reduceTDiv, Int.reduceTMod, Int.reduceBEq, Int.reduceBNe, Nat.reduceDiv, Nat.reducePow]
                    refine again (some (f', lowW D, 16) : Option (Nat × List Nat × Nat)) [(600, 700)] ⟨X1, X2, X3⟩ (by simp only [redMu]; omega) ?_
                    simp only [redOut0, envR, con0, conN0, conN1, conN2, natsOf_arr, rowOf_arr, natsOf_cells, rowOf_cells, toN, natL_st, natL_d, natL_enc, natL_up, gr1, gaddC, gtimesC, gprimeC, gbelowC, gminC, conB2, retQx, Nat.sub_zero, go_sem, reduceCtorEq, ↓reduceIte, Nat.reduceAdd, Nat.reduceMul, Nat.reduceSub, Nat.reduceEqDiff, Nat.reduceLT, Nat.reduceBEq, Nat.reduceBNe, Nat.reduceLeDiff, Int.reduceLE, Int.reduceLT, Int.reduceToNat, Int.reduceEq, Int.reduceAdd, UInt8.reduceToNat, UInt32.reduceToNat, UInt64.reduceToNat, UInt8.reduceOfNat, UInt32.reduceOfNat, UInt64.reduceOfNat, Fin.isValue, Int.reduceSub, Int.reduceMul, Int.reduceNeg, Int.reduceMod, Int.reduceDiv, Int.reduceTDiv, Int.reduceTMod, Int.reduceBEq, Int.reduceBNe, Nat.reduceDiv, Nat.reducePow]
                    exact ⟨rfl, id⟩
                  · have hwj : IntKind.i64.wrap (((j + 1 : Nat) : Int) - 1) = (j : Int) := by rw [IntKind.wrap_i64]; omega
                    have cpos : decide ((0 : Int) < ((j + 1 : Nat) : Int)) = true := decide_eq_true (by omega)
                    cases cz : ((((highW D (m + 1)).getD j 0 : Nat) : Int) == 0) with
                    | true =>
                      have gz : (highW D (m + 1)).getD j 0 = 0 := by have := eq_of_beq cz; omega
                      have k1' := (trimW_go (Nat.zero_le j) gz).symm.trans k1
                      simp only [rdI2, hwj, cpos, cz, envR, con0, conN0, conN1, conN2, natsOf_arr, rowOf_arr, natsOf_cells, rowOf_cells, toN, natL_st, natL_d, natL_enc, natL_up, gr1, gaddC, gtimesC, gprimeC, gbelowC, gminC, conB2, retQx, Nat.sub_zero, go_sem, reduceCtorEq, ↓reduceIte, Nat.reduceAdd, Nat.reduceMul, Nat.reduceSub, Nat.reduceEqDiff, Nat.reduceLT, Nat.reduceBEq, Nat.reduceBNe, Nat.reduceLeDiff, Int.reduceLE, Int.reduceLT, Int.reduceToNat, Int.reduceEq, Int.reduceAdd, UInt8.reduceToNat, UInt32.reduceToNat, UInt64.reduceToNat, UInt8.reduceOfNat, UInt32.reduceOfNat, UInt64.reduceOfNat, Fin.isValue, Int.reduceSub, Int.reduceMul, Int.reduceNeg, Int.reduceMod, Int.reduceDiv, Int.reduceTDiv, Int.reduceTMod, Int.reduceBEq, Int.reduceBNe, Nat.reduceDiv, Nat.reducePow]
                      repeat' apply And.intro
                      all_goals first
                        | omega
                        | exact n19_lt
                        | exact prime_lt
                        | exact bD
                        | exact bR
                        | exact hlow
                        | exact ht
                        | exact hT
                        | rfl
                        | skip
                      refine again j [] ⟨k1', by omega⟩ (by omega) ?_
                      simp only [rdI2, envR, con0, conN0, conN1, conN2, natsOf_arr, rowOf_arr, natsOf_cells, rowOf_cells, toN, natL_st, natL_d, natL_enc, natL_up, gr1, gaddC, gtimesC, gprimeC, gbelowC, gminC, conB2, retQx, Nat.sub_zero, go_sem, reduceCtorEq, ↓reduceIte, Nat.reduceAdd, Nat.reduceMul, Nat.reduceSub, Nat.reduceEqDiff, Nat.reduceLT, Nat.reduceBEq, Nat.reduceBNe, Nat.reduceLeDiff, Int.reduceLE, Int.reduceLT, Int.reduceToNat, Int.reduceEq, Int.reduceAdd, UInt8.reduceToNat, UInt32.reduceToNat, UInt64.reduceToNat, UInt8.reduceOfNat, UInt32.reduceOfNat, UInt64.reduceOfNat, Fin.isValue, Int.reduceSub, Int.reduceMul, Int.reduceNeg, Int.reduceMod, Int.reduceDiv, Int.reduceTDiv, Int.reduceTMod, Int.reduceBEq, Int.reduceBNe, Nat.reduceDiv, Nat.reducePow]
                      exact ⟨rfl, id⟩
                    | false =>
                      have gz : (highW D (m + 1)).getD j 0 ≠ 0 := by have := ne_of_beq_false cz; omega
                      have hk1 : redK s = j + 1 := (hK.trans k1.symm).trans (trimW_stop (.inr (.inr gz)))
                      have hr1 : redR s = addL 65536 (lowW D) (timesL 65536 ((highW D (m + 1)).take (j + 1)) [19]) := by unfold redR; rw [if_neg (by rw [hk1]; omega), hk1, hHi, hsD]
                      have ht : dlt 65536 ((highW D (m + 1)).take (j + 1)) := dlt_take hbh _
                      have hT : dlt 65536 (timesL 65536 ((highW D (m + 1)).take (j + 1)) [19]) := timesL_lt (by decide) ht n19_lt
                      have hTl : (timesL 65536 ((highW D (m + 1)).take (j + 1)) [19]).length = j + 1 + 1 := by rw [timesL_len, List.length_take, hhl, Nat.min_eq_left k2]; rfl
                      have htl : (lowW D).take 16 = lowW D := List.take_of_length_le (by omega)
                      have l19 : [19].take 1 = [19] := rfl
                      have hAl := addLen_bd 65536 (lowW D) (timesL 65536 ((highW D (m + 1)).take (j + 1)) [19])
                      rw [← addL_len, hll, hTl] at hAl
                      simp only [rdI2, hwj, cpos, cz, htl, List.take_length, envR, con0, conN0, conN1, conN2, natsOf_arr, rowOf_arr, natsOf_cells, rowOf_cells, toN, natL_st, natL_d, natL_enc, natL_up, gr1, gaddC, gtimesC, gprimeC, gbelowC, gminC, conB2, retQx, Nat.sub_zero, go_sem, reduceCtorEq, ↓reduceIte, Nat.reduceAdd, Nat.reduceMul, Nat.reduceSub, Nat.reduceEqDiff, Nat.reduceLT, Nat.reduceBEq, Nat.reduceBNe, Nat.reduceLeDiff, Int.reduceLE, Int.reduceLT, Int.reduceToNat, Int.reduceEq, Int.reduceAdd, UInt8.reduceToNat, UInt32.reduceToNat, UInt64.reduceToNat, UInt8.reduceOfNat, UInt32.reduceOfNat, UInt64.reduceOfNat, Fin.isValue, Int.reduceSub, Int.reduceMul, Int.reduceNeg, Int.reduceMod, Int.reduceDiv, Int.reduceTDiv, Int.reduceTMod, Int.reduceBEq, Int.reduceBNe, Nat.reduceDiv, Nat.reducePow]
                      repeat' apply And.intro
                      all_goals first
                        | omega
                        | exact n19_lt
                        | exact prime_lt
                        | exact bD
                        | exact bR
                        | exact hlow
                        | exact ht
                        | exact hT
                        | rfl
                        | skip
                      obtain ⟨R', hR'⟩ : ∃ R', R' = addL 65536 (lowW D) (timesL 65536 ((highW D (m + 1)).take (j + 1)) [19]) := ⟨_, rfl⟩
                      rw [← hR'] at hr1 hAl ⊢
                      refine loop_inv (envR_ok gr1_ok 132 [0]) (rdI4 a wa R') (fun q => trimW R' 16 q = trimW R' 16 R'.length ∧ 16 ≤ q ∧ q ≤ R'.length) (fun q => q) R'.length [(900, 210032)] ⟨rfl, by omega, Nat.le_refl _⟩ ?_ ?_
                      · simp only [rdI4, envR, con0, conN0, conN1, conN2, natsOf_arr, rowOf_arr, natsOf_cells, rowOf_cells, toN, natL_st, natL_d, natL_enc, natL_up, gr1, gaddC, gtimesC, gprimeC, gbelowC, gminC, conB2, retQx, Nat.sub_zero, go_sem, reduceCtorEq, ↓reduceIte, Nat.reduceAdd, Nat.reduceMul, Nat.reduceSub, Nat.reduceEqDiff, Nat.reduceLT, Nat.reduceBEq, Nat.reduceBNe, Nat.reduceLeDiff, Int.reduceLE, Int.reduceLT, Int.reduceToNat, Int.reduceEq, Int.reduceAdd, UInt8.reduceToNat, UInt32.reduceToNat, UInt64.reduceToNat, UInt8.reduceOfNat, UInt32.reduceOfNat, UInt64.reduceOfNat, Fin.isValue, Int.reduceSub, Int.reduceMul, Int.reduceNeg, Int.reduceMod, Int.reduceDiv, Int.reduceTDiv, Int.reduceTMod, Int.reduceBEq, Int.reduceBNe, Nat.reduceDiv, Nat.reducePow]
                        exact ⟨rfl, id⟩
                      · rintro q ⟨q1, q2, q3⟩
                        have hnx : ∀ p, trimW R' 16 q = p → redNext s = (R', p) := fun p hp => by
                          unfold redNext
                          rw [hr1, ← q1, hp]
                        cases c16 : decide ((16 : Int) < (q : Int)) with
                        | false =>
                          obtain rfl : q = 16 := by have := of_decide_eq_false c16; omega
                          rw [hnx 16 (trimW_stop (.inr (.inl (Nat.le_refl _))))] at X1 X2 X3
                          simp only [rdI4, envR, con0, conN0, conN1, conN2, natsOf_arr, rowOf_arr, natsOf_cells, rowOf_cells, toN, natL_st, natL_d, natL_enc, natL_up, gr1, gaddC, gtimesC, gprimeC, gbelowC, gminC, conB2, retQx, Nat.sub_zero, go_sem, reduceCtorEq, ↓reduceIte, Nat.reduceAdd, Nat.reduceMul, Nat.reduceSub, Nat.reduceEqDiff, Nat.reduceLT, Nat.reduceBEq, Nat.reduceBNe, Nat.reduceLeDiff, Int.reduceLE, Int.reduceLT, Int.reduceToNat, Int.reduceEq, Int.reduceAdd, UInt8.reduceToNat, UInt32.reduceToNat, UInt64.reduceToNat, UInt8.reduceOfNat, UInt32.reduceOfNat, UInt64.reduceOfNat, Fin.isValue, Int.reduceSub, Int.reduceMul, Int.reduceNeg, Int.reduceMod, Int.reduceDiv, Int.reduceTDiv, Int.reduceTMod, Int.reduceBEq, Int.reduceBNe, Nat.reduceDiv, Nat.reducePow]
                          refine again (some (f', R', 16) : Option (Nat × List Nat × Nat)) [(600, 900)] ⟨X1, X2, X3⟩ (by simp only [redMu]; omega) ?_
                          simp only [redOut0, envR, con0, conN0, conN1, conN2, natsOf_arr, rowOf_arr, natsOf_cells, rowOf_cells, toN, natL_st, natL_d, natL_enc, natL_up, gr1, gaddC, gtimesC, gprimeC, gbelowC, gminC, conB2, retQx, Nat.sub_zero, go_sem, reduceCtorEq, ↓reduceIte, Nat.reduceAdd, Nat.reduceMul, Nat.reduceSub, Nat.reduceEqDiff, Nat.reduceLT, Nat.reduceBEq, Nat.reduceBNe, Nat.reduceLeDiff, Int.reduceLE, Int.reduceLT, Int.reduceToNat, Int.reduceEq, Int.reduceAdd, UInt8.reduceToNat, UInt32.reduceToNat, UInt64.reduceToNat, UInt8.reduceOfNat, UInt32.reduceOfNat, UInt64.reduceOfNat, Fin.isValue, Int.reduceSub, Int.reduceMul, Int.reduceNeg, Int.reduceMod, Int.reduceDiv, Int.reduceTDiv, Int.reduceTMod, Int.reduceBEq, Int.reduceBNe, Nat.reduceDiv, Nat.reducePow]
                          exact ⟨rfl, id⟩
                        | true =>
                          obtain ⟨j', rfl⟩ : ∃ j', q = j' + 1 := ⟨q - 1, by have := of_decide_eq_true c16; omega⟩
                          have hj : 16 ≤ j' := by have := of_decide_eq_true c16; omega
                          have hwj' : IntKind.i64.wrap (((j' + 1 : Nat) : Int) - 1) = (j' : Int) := by rw [IntKind.wrap_i64]; omega
                          cases cy : (((R'.getD j' 0 : Nat) : Int) == 0) with
                          | true =>
                            have gy : R'.getD j' 0 = 0 := by have := eq_of_beq cy; omega
                            have q1' := (trimW_go hj gy).symm.trans q1
                            simp only [rdI4, c16, hwj', cy, envR, con0, conN0, conN1, conN2, natsOf_arr, rowOf_arr, natsOf_cells, rowOf_cells, toN, natL_st, natL_d, natL_enc, natL_up, gr1, gaddC, gtimesC, gprimeC, gbelowC, gminC, conB2, retQx, Nat.sub_zero, go_sem, reduceCtorEq, ↓reduceIte, Nat.reduceAdd, Nat.reduceMul, Nat.reduceSub, Nat.reduceEqDiff, Nat.reduceLT, Nat.reduceBEq, Nat.reduceBNe, Nat.reduceLeDiff, Int.reduceLE, Int.reduceLT, Int.reduceToNat, Int.reduceEq, Int.reduceAdd, UInt8.reduceToNat, UInt32.reduceToNat, UInt64.reduceToNat, UInt8.reduceOfNat, UInt32.reduceOfNat, UInt64.reduceOfNat, Fin.isValue, Int.reduceSub, Int.reduceMul, Int.reduceNeg, Int.reduceMod, Int.reduceDiv, Int.reduceTDiv, Int.reduceTMod, Int.reduceBEq, Int.reduceBNe, Nat.reduceDiv, Nat.reducePow]
                            repeat' apply And.intro
                            all_goals first
                              | omega
                              | exact n19_lt
                              | exact prime_lt
                              | exact bD
                              | exact bR
                              | exact hlow
                              | exact ht
                              | exact hT
                              | rfl
                              | skip
                            refine again j' [] ⟨q1', by omega⟩ (by omega) ?_
                            simp only [rdI4, envR, con0, conN0, conN1, conN2, natsOf_arr, rowOf_arr, natsOf_cells, rowOf_cells, toN, natL_st, natL_d, natL_enc, natL_up, gr1, gaddC, gtimesC, gprimeC, gbelowC, gminC, conB2, retQx, Nat.sub_zero, go_sem, reduceCtorEq, ↓reduceIte, Nat.reduceAdd, Nat.reduceMul, Nat.reduceSub, Nat.reduceEqDiff, Nat.reduceLT, Nat.reduceBEq, Nat.reduceBNe, Nat.reduceLeDiff, Int.reduceLE, Int.reduceLT, Int.reduceToNat, Int.reduceEq, Int.reduceAdd, UInt8.reduceToNat, UInt32.reduceToNat, UInt64.reduceToNat, UInt8.reduceOfNat, UInt32.reduceOfNat, UInt64.reduceOfNat, Fin.isValue, Int.reduceSub, Int.reduceMul, Int.reduceNeg, Int.reduceMod, Int.reduceDiv, Int.reduceTDiv, Int.reduceTMod, Int.reduceBEq, Int.reduceBNe, Nat.reduceDiv, Nat.reducePow]
                            exact ⟨rfl, id⟩
                          | false =>
                            have gy : R'.getD j' 0 ≠ 0 := by have := ne_of_beq_false cy; omega
                            rw [hnx (j' + 1) (trimW_stop (.inr (.inr gy)))] at X1 X2 X3
                            simp only [rdI4, c16, hwj', cy, envR, con0, conN0, conN1, conN2, natsOf_arr, rowOf_arr, natsOf_cells, rowOf_cells, toN, natL_st, natL_d, natL_enc, natL_up, gr1, gaddC, gtimesC, gprimeC, gbelowC, gminC, conB2, retQx, Nat.sub_zero, go_sem, reduceCtorEq, ↓reduceIte, Nat.reduceAdd, Nat.reduceMul, Nat.reduceSub, Nat.reduceEqDiff, Nat.reduceLT, Nat.reduceBEq, Nat.reduceBNe, Nat.reduceLeDiff, Int.reduceLE, Int.reduceLT, Int.reduceToNat, Int.reduceEq, Int.reduceAdd, UInt8.reduceToNat, UInt32.reduceToNat, UInt64.reduceToNat, UInt8.reduceOfNat, UInt32.reduceOfNat, UInt64.reduceOfNat, Fin.isValue, Int.reduceSub, Int.reduceMul, Int.reduceNeg, Int.reduceMod, Int.reduceDiv, Int.reduceTDiv, Int.reduceTMod, Int.reduceBEq, Int.reduceBNe, Nat.reduceDiv, Nat.reducePow]
                            repeat' apply And.intro
                            all_goals first
                              | omega
                              | exact n19_lt
                              | exact prime_lt
                              | exact bD
                              | exact bR
                              | exact hlow
                              | exact ht
                              | exact hT
                              | rfl
                              | skip
                            refine again (some (f', R', j' + 1) : Option (Nat × List Nat × Nat)) [(600, 900)] ⟨X1, X2, X3⟩ (by simp only [redMu]; omega) ?_
                            simp only [redOut0, envR, con0, conN0, conN1, conN2, natsOf_arr, rowOf_arr, natsOf_cells, rowOf_cells, toN, natL_st, natL_d, natL_enc, natL_up, gr1, gaddC, gtimesC, gprimeC, gbelowC, gminC, conB2, retQx, Nat.sub_zero, go_sem, reduceCtorEq, ↓reduceIte, Nat.reduceAdd, Nat.reduceMul, Nat.reduceSub, Nat.reduceEqDiff, Nat.reduceLT, Nat.reduceBEq, Nat.reduceBNe, Nat.reduceLeDiff, Int.reduceLE, Int.reduceLT, Int.reduceToNat, Int.reduceEq, Int.reduceAdd, UInt8.reduceToNat, UInt32.reduceToNat, UInt64.reduceToNat, UInt8.reduceOfNat, UInt32.reduceOfNat, UInt64.reduceOfNat, Fin.isValue, Int.reduceSub, Int.reduceMul, Int.reduceNeg, Int.reduceMod, Int.reduceDiv, Int.reduceTDiv, Int.reduceTMod, Int.reduceBEq, Int.reduceBNe, Nat.reduceDiv, Nat.reducePow]
                            exact ⟨rfl, id⟩
        | false =>
          have hgo : redGo s = false := by
            unfold redGo
            rw [hs]
            have h1 : decide (32767 < R.getD 15 0) = false := decide_eq_false (by have := of_decide_eq_false c3; omega)
            have h2 : decide (16 < n) = false := decide_eq_false (by omega)
            simp only [h1, h2, Bool.or_false]
          have hend : redEnd a = (R, n) := by rw [← x1, ← hs, redRun, hgo]; rfl
          have hrow : redRow a = if decide (dv 65536 (R.take 16) < dv 65536 primeL) = true then R else minL 65536 R primeL := by unfold redRow; rw [hend]; rfl
          have hpt : primeL.take 16 = primeL := rfl
          have hpl : primeL.length = 16 := rfl
          subst g1
          simp only [redOut0, c1, c2, c3, envR, con0, conN0, conN1, conN2, natsOf_arr, rowOf_arr, natsOf_cells, rowOf_cells, toN, natL_st, natL_d, natL_enc, natL_up, gr1, gaddC, gtimesC, gprimeC, gbelowC, gminC, conB2, retQx, Nat.sub_zero, go_sem, reduceCtorEq, ↓reduceIte, Nat.reduceAdd, Nat.reduceMul, Nat.reduceSub, Nat.reduceEqDiff, Nat.reduceLT, Nat.reduceBEq, Nat.reduceBNe, Nat.reduceLeDiff, Int.reduceLE, Int.reduceLT, Int.reduceToNat, Int.reduceEq, Int.reduceAdd, UInt8.reduceToNat, UInt32.reduceToNat, UInt64.reduceToNat, UInt8.reduceOfNat, UInt32.reduceOfNat, UInt64.reduceOfNat, Fin.isValue, Int.reduceSub, Int.reduceMul, Int.reduceNeg, Int.reduceMod, Int.reduceDiv, Int.reduceTDiv, Int.reduceTMod, Int.reduceBEq, Int.reduceBNe, Nat.reduceDiv, Nat.reducePow]
          all_goals try (repeat' apply And.intro)
          all_goals first | omega | skip
          refine loop_rounds (envR_ok gr1_ok 132 [0]) 1 ?_
          simp only [envR, con0, conN0, conN1, conN2, natsOf_arr, rowOf_arr, natsOf_cells, rowOf_cells, toN, natL_st, natL_d, natL_enc, natL_up, gr1, gaddC, gtimesC, gprimeC, gbelowC, gminC, conB2, retQx, Nat.sub_zero, go_sem, reduceCtorEq, ↓reduceIte, Nat.reduceAdd, Nat.reduceMul, Nat.reduceSub, Nat.reduceEqDiff, Nat.reduceLT, Nat.reduceBEq, Nat.reduceBNe, Nat.reduceLeDiff, Int.reduceLE, Int.reduceLT, Int.reduceToNat, Int.reduceEq, Int.reduceAdd, UInt8.reduceToNat, UInt32.reduceToNat, UInt64.reduceToNat, UInt8.reduceOfNat, UInt32.reduceOfNat, UInt64.reduceOfNat, Fin.isValue, Int.reduceSub, Int.reduceMul, Int.reduceNeg, Int.reduceMod, Int.reduceDiv, Int.reduceTDiv, Int.reduceTMod, Int.reduceBEq, Int.reduceBNe, Nat.reduceDiv, Nat.reducePow]
          cases hb : decide (dv 65536 (R.take 16) < dv 65536 primeL) with
          | true =>
            rw [hb, if_pos rfl] at hrow
            simp only [hb, hpt, hpl, envR, con0, conN0, conN1, conN2, natsOf_arr, rowOf_arr, natsOf_cells, rowOf_cells, toN, natL_st, natL_d, natL_enc, natL_up, gr1, gaddC, gtimesC, gprimeC, gbelowC, gminC, conB2, retQx, Nat.sub_zero, go_sem, reduceCtorEq, ↓reduceIte, Nat.reduceAdd, Nat.reduceMul, Nat.reduceSub, Nat.reduceEqDiff, Nat.reduceLT, Nat.reduceBEq, Nat.reduceBNe, Nat.reduceLeDiff, Int.reduceLE, Int.reduceLT, Int.reduceToNat, Int.reduceEq, Int.reduceAdd, UInt8.reduceToNat, UInt32.reduceToNat, UInt64.reduceToNat, UInt8.reduceOfNat, UInt32.reduceOfNat, UInt64.reduceOfNat, Fin.isValue, Int.reduceSub, Int.reduceMul, Int.reduceNeg, Int.reduceMod, Int.reduceDiv, Int.reduceTDiv, Int.reduceTMod, Int.reduceBEq, Int.reduceBNe, Nat.reduceDiv, Nat.reducePow]
            repeat' apply And.intro
            all_goals first
              | omega
              | exact n19_lt
              | exact prime_lt
              | exact bD
              | exact bR
              | exact hlow
              | exact ht
              | exact hT
              | rfl
              | skip
            refine endX [(1, 600)] ?_
            simp only [hrow, envR, con0, conN0, conN1, conN2, natsOf_arr, rowOf_arr, natsOf_cells, rowOf_cells, toN, natL_st, natL_d, natL_enc, natL_up, gr1, gaddC, gtimesC, gprimeC, gbelowC, gminC, conB2, retQx, Nat.sub_zero, go_sem, reduceCtorEq, ↓reduceIte, Nat.reduceAdd, Nat.reduceMul, Nat.reduceSub, Nat.reduceEqDiff, Nat.reduceLT, Nat.reduceBEq, Nat.reduceBNe, Nat.reduceLeDiff, Int.reduceLE, Int.reduceLT, Int.reduceToNat, Int.reduceEq, Int.reduceAdd, UInt8.reduceToNat, UInt32.reduceToNat, UInt64.reduceToNat, UInt8.reduceOfNat, UInt32.reduceOfNat, UInt64.reduceOfNat, Fin.isValue, Int.reduceSub, Int.reduceMul, Int.reduceNeg, Int.reduceMod, Int.reduceDiv, Int.reduceTDiv, Int.reduceTMod, Int.reduceBEq, Int.reduceBNe, Nat.reduceDiv, Nat.reducePow]
            exact ⟨rfl, id⟩
          | false =>
            rw [hb, if_neg (by decide)] at hrow
            simp only [hb, hpt, hpl, envR, con0, conN0, conN1, conN2, natsOf_arr, rowOf_arr, natsOf_cells, rowOf_cells, toN, natL_st, natL_d, natL_enc, natL_up, gr1, gaddC, gtimesC, gprimeC, gbelowC, gminC, conB2, retQx, Nat.sub_zero, go_sem, reduceCtorEq, ↓reduceIte, Nat.reduceAdd, Nat.reduceMul, Nat.reduceSub, Nat.reduceEqDiff, Nat.reduceLT, Nat.reduceBEq, Nat.reduceBNe, Nat.reduceLeDiff, Int.reduceLE, Int.reduceLT, Int.reduceToNat, Int.reduceEq, Int.reduceAdd, UInt8.reduceToNat, UInt32.reduceToNat, UInt64.reduceToNat, UInt8.reduceOfNat, UInt32.reduceOfNat, UInt64.reduceOfNat, Fin.isValue, Int.reduceSub, Int.reduceMul, Int.reduceNeg, Int.reduceMod, Int.reduceDiv, Int.reduceTDiv, Int.reduceTMod, Int.reduceBEq, Int.reduceBNe, Nat.reduceDiv, Nat.reducePow]
            repeat' apply And.intro
            all_goals first
              | omega
              | exact n19_lt
              | exact prime_lt
              | exact bD
              | exact bR
              | exact hlow
              | exact ht
              | exact hT
              | rfl
              | skip
            refine endX [(1, 280016)] ?_
            simp only [hrow, envR, con0, conN0, conN1, conN2, natsOf_arr, rowOf_arr, natsOf_cells, rowOf_cells, toN, natL_st, natL_d, natL_enc, natL_up, gr1, gaddC, gtimesC, gprimeC, gbelowC, gminC, conB2, retQx, Nat.sub_zero, go_sem, reduceCtorEq, ↓reduceIte, Nat.reduceAdd, Nat.reduceMul, Nat.reduceSub, Nat.reduceEqDiff, Nat.reduceLT, Nat.reduceBEq, Nat.reduceBNe, Nat.reduceLeDiff, Int.reduceLE, Int.reduceLT, Int.reduceToNat, Int.reduceEq, Int.reduceAdd, UInt8.reduceToNat, UInt32.reduceToNat, UInt64.reduceToNat, UInt8.reduceOfNat, UInt32.reduceOfNat, UInt64.reduceOfNat, Fin.isValue, Int.reduceSub, Int.reduceMul, Int.reduceNeg, Int.reduceMod, Int.reduceDiv, Int.reduceTDiv, Int.reduceTMod, Int.reduceBEq, Int.reduceBNe, Nat.reduceDiv, Nat.reducePow]
            exact ⟨rfl, id⟩
end Go.Proofs.Ytdkmkifebhggeaa
