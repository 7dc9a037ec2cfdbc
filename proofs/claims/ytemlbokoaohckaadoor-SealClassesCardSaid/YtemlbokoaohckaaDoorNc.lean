/-
  Layer 8: what classes there are.
-/
import Derived.Test.YtemlbokoaohckaaDoorSz
import Derived.Test.YtemlbokoaohckaaDoorNb
namespace Go.Proofs.YtemlbokoaohckaaDoor
open Go Go.RowKit Go.Proofs
set_option maxHeartbeats 4000000
set_option linter.unusedSimpArgs false
set_option linter.unusedVariables false
theorem cls_four {a : Int} (h0 : 0 ≤ a) (h1 : a ≤ 700) : cls a = 128 ∨ cls a = 256 ∨ cls a = 512 ∨ cls a = 704 := by
  unfold cls
  rw [if_neg (by omega), if_neg (by omega)]
  split
  · exact .inl rfl
  · split
    · exact .inr (.inl rfl)
    · split
      · exact .inr (.inr (.inl rfl))
      · exact .inr (.inr (.inr rfl))
theorem cls_mono {a b : Int} (h0 : 0 ≤ a) (hab : a ≤ b) (h1 : b ≤ 700) : cls a ≤ cls b := by
  unfold cls
  (repeat' split) <;> omega
def gnk : Nat → Option Con := fun f => match f with
  | 8 => some classC
  | 6 => some awake08C
  | _ => none
theorem gnk_ok : GaOkG Tryd.prog GN gnk := fun f con h => by
  unfold gnk at h
  split at h
  · injection h with h; subst h; exact classC_ok
  · injection h with h; subst h; exact awake08C_ok
  · cases h
set_option maxRecDepth 100000 in
theorem lawClasses_tri (n m : Int) (hn : 0 ≤ n ∧ n ≤ 65535) (hm : 0 ≤ m ∧ m ≤ 65535) : TriG Tryd.prog GN 5 [.one (.int .u16 n), .one (.int .u16 m)] [] (.c (.one (.bo true))) [] := by
  refine tri_ofx (envNK_ok gnk_ok 66 []) Tryd.func5 rfl rfl (rs := [.tmp 4]) rfl rfl (by simp [envNK]) rfl ?_
  obtain ⟨a, ha, ha0, ha1⟩ : ∃ a : Int, n.tmod 701 = a ∧ 0 ≤ a ∧ a ≤ 700 := by
    refine ⟨n.tmod 701, rfl, ?_, ?_⟩
    · rw [Int.tmod_eq_emod_of_nonneg hn.1]; omega
    · rw [Int.tmod_eq_emod_of_nonneg hn.1]; omega
  have w0 : IntKind.i64.wrap a = a := by rw [IntKind.wrap_i64]; omega
  have w1 : IntKind.i64.wrap m = m := by rw [IntKind.wrap_i64]; omega
  have w2 : IntKind.i64.wrap (a + m) = a + m := by rw [IntKind.wrap_i64]; omega
  have w3 : IntKind.i64.wrap (a + 2) = a + 2 := by rw [IntKind.wrap_i64]; omega
  have w4 : IntKind.i64.wrap (-1 - a) = -1 - a := by rw [IntKind.wrap_i64]; omega
  have hca := cls_spec a
  have hz : cls (-1 - a) = 0 := by unfold cls; rw [if_pos (by omega)]
  rcases cls_four ha0 ha1 with hc | hc | hc | hc
  all_goals
    have hlt : decide (cls a < a + 2) = false := decide_eq_false (by omega)
    rw [hc] at hlt
    cases h7 : decide (a + m ≤ 700) with
    | true =>
      have hmo := cls_mono ha0 (show a ≤ a + m by omega) (of_decide_eq_true h7)
      rw [hc] at hmo
      have hge := decide_eq_true hmo
      simp only [envNK, con0, conS, strsOf_arr, rowS_arr, strsOf_cells, rowS_cells, toS, strL_st, strL_d, strL_enc, strL_up, hpN_nil, hpN_cons, gnk, classC, awake08C, ha, w0, w1, w2, w3, w4, hc, hlt, h7, hge, hz, bne, beq_self_eq_true, Bool.not_true, Bool.not_false, go_sem, reduceCtorEq, ↓reduceIte, Nat.reduceAdd, Nat.reduceMul, Nat.reduceSub, Nat.reduceEqDiff, Nat.reduceLT, Nat.reduceBEq, Nat.reduceBNe, Nat.reduceLeDiff, Int.reduceLE, Int.reduceLT, Int.reduceToNat, Int.reduceEq, Int.reduceAdd, UInt8.reduceToNat, UInt32.reduceToNat, UInt64.reduceToNat, UInt8.reduceOfNat, UInt32.reduceOfNat, UInt64.reduceOfNat, Fin.isValue, Int.reduceSub, Int.reduceMul, Int.reduceNeg, Int.reduceMod, Int.reduceDiv, Int.reduceTDiv, Int.reduceTMod, Int.reduceBEq, Int.reduceBNe, Nat.reduceDiv, Nat.reducePow]
      (repeat' apply And.intro)
      rotate_right
      · refine endX [] ?_
        simp only [envNK, con0, conS, strsOf_arr, rowS_arr, strsOf_cells, rowS_cells, toS, strL_st, strL_d, strL_enc, strL_up, hpN_nil, hpN_cons, gnk, classC, awake08C, go_sem, reduceCtorEq, ↓reduceIte, Nat.reduceAdd, Nat.reduceMul, Nat.reduceSub, Nat.reduceEqDiff, Nat.reduceLT, Nat.reduceBEq, Nat.reduceBNe, Nat.reduceLeDiff, Int.reduceLE, Int.reduceLT, Int.reduceToNat, Int.reduceEq, Int.reduceAdd, UInt8.reduceToNat, UInt32.reduceToNat, UInt64.reduceToNat, UInt8.reduceOfNat, UInt32.reduceOfNat, UInt64.reduceOfNat, Fin.isValue, Int.reduceSub, Int.reduceMul, Int.reduceNeg, Int.reduceMod, Int.reduceDiv, Int.reduceTDiv, Int.reduceTMod, Int.reduceBEq, Int.reduceBNe, Nat.reduceDiv, Nat.reducePow]
      all_goals first | omega | exact rfl | exact id | decide
    | false =>
      have h7' := of_decide_eq_false h7
      have hgt : decide (700 < a + m) = true := decide_eq_true (by omega)
      have hd : cls (a + m) = 0 := by unfold cls; rw [if_neg (by omega), if_pos (by omega)]
      simp only [envNK, con0, conS, strsOf_arr, rowS_arr, strsOf_cells, rowS_cells, toS, strL_st, strL_d, strL_enc, strL_up, hpN_nil, hpN_cons, gnk, classC, awake08C, ha, w0, w1, w2, w3, w4, hc, hlt, h7, hgt, hd, hz, bne, beq_self_eq_true, Bool.not_true, Bool.not_false, go_sem, reduceCtorEq, ↓reduceIte, Nat.reduceAdd, Nat.reduceMul, Nat.reduceSub, Nat.reduceEqDiff, Nat.reduceLT, Nat.reduceBEq, Nat.reduceBNe, Nat.reduceLeDiff, Int.reduceLE, Int.reduceLT, Int.reduceToNat, Int.reduceEq, Int.reduceAdd, UInt8.reduceToNat, UInt32.reduceToNat, UInt64.reduceToNat, UInt8.reduceOfNat, UInt32.reduceOfNat, UInt64.reduceOfNat, Fin.isValue, Int.reduceSub, Int.reduceMul, Int.reduceNeg, Int.reduceMod, Int.reduceDiv, Int.reduceTDiv, Int.reduceTMod, Int.reduceBEq, Int.reduceBNe, Nat.reduceDiv, Nat.reducePow]
      (repeat' apply And.intro)
      rotate_right
      · refine endX [] ?_
        simp only [envNK, con0, conS, strsOf_arr, rowS_arr, strsOf_cells, rowS_cells, toS, strL_st, strL_d, strL_enc, strL_up, hpN_nil, hpN_cons, gnk, classC, awake08C, go_sem, reduceCtorEq, ↓reduceIte, Nat.reduceAdd, Nat.reduceMul, Nat.reduceSub, Nat.reduceEqDiff, Nat.reduceLT, Nat.reduceBEq, Nat.reduceBNe, Nat.reduceLeDiff, Int.reduceLE, Int.reduceLT, Int.reduceToNat, Int.reduceEq, Int.reduceAdd, UInt8.reduceToNat, UInt32.reduceToNat, UInt64.reduceToNat, UInt8.reduceOfNat, UInt32.reduceOfNat, UInt64.reduceOfNat, Fin.isValue, Int.reduceSub, Int.reduceMul, Int.reduceNeg, Int.reduceMod, Int.reduceDiv, Int.reduceTDiv, Int.reduceTMod, Int.reduceBEq, Int.reduceBNe, Nat.reduceDiv, Nat.reducePow]
      all_goals first | omega | exact rfl | exact id | decide
theorem sealClasses_law (n : Int) (wn : (Lit.int .u16 n).wf = true) (m : Int) (wm : (Lit.int .u16 m).wf = true) (w : World) (hg : ∀ f ∈ GN, f.p w) : Calls Tryd.prog 5 #[.int .u16 n, .int .u16 m] w fun e w' => e = .returned (.bool true) ∧ Below w.heap.size w w' := by
  have hn : 0 ≤ n ∧ n ≤ 65535 := by
    simp only [Lit.wf, Bool.and_eq_true, decide_eq_true_eq] at wn
    exact wn
  have hm : 0 ≤ m ∧ m ≤ 65535 := by
    simp only [Lit.wf, Bool.and_eq_true, decide_eq_true_eq] at wm
    exact wm
  refine (tri_callsG (lawClasses_tri n m hn hm) w (vals := [.int .u16 n, .int .u16 m]) ⟨rfl, rfl, trivial⟩ hg).mono ?_
  rintro e w' ⟨u, r', rfl, hr, hb⟩
  exact ⟨by rw [show u = .bool true from hr], hb⟩
end Go.Proofs.YtemlbokoaohckaaDoor
