/-
  Layer 1: the laws ShaSums and ShaBlocks.
-/
import Derived.Test.YtdkogjjebbdngaaDoorSz
import Derived.Test.YtdkogjjebbdngaaDoorHl
import Derived.Test.YtdkogjjebbdngaaDoorHn
import Derived.Test.YtdkogjjebbdngaaDoorRows
import Derived.Lib.LaidTab
import Derived.MakeChecks
import Derived.Stop.LaidErr
namespace Go.Proofs.YtdkogjjebbdngaaDoor
open Go Go.RowKit Go.ChangeShapes
set_option maxHeartbeats 4000000
set_option linter.unusedSimpArgs false
set_option linter.unusedVariables false
set_option linter.unusedSectionVars false
theorem gl_sha {W : World} (hsh : W.ShapedOpen Tryd.prog) (hL : laidMetH Tryd.prog [("mailsack/sha.constants", Rows.laid_mailsack_sha_constants)] W) : ∀ f ∈ GS, f.p W := by
  rw [MakeChecks.laidMetH_plain _ _ _ (by kernel_rfl)] at hL
  have h' : laidMet Tryd.prog [("mailsack/sha.constants", Lib.tabData .u32 (kL.map fun x => (x.toNat : Int)))] W := hL
  have ht := Lib.tabIs_of_head (P := Tryd.prog) (k := .u32) (t := 48) (e := 25) (n := 64) (g := 0) (by kernel_rfl) (by kernel_rfl) Tryd.underlying48 Tryd.underlying25 (by kernel_rfl) (by kernel_rfl) h'
  intro f hf
  simp only [GS, List.mem_cons, List.not_mem_nil, or_false] at hf
  subst hf
  exact ht
def awake1C : Con := con0 fun args => match args with
  | [] => some (.c (.one (.bo true)), [])
  | _ => none
theorem awake1C_ok : ConOkG Tryd.prog GS 8 awake1C := con0_okG Tryd.func8 rfl rfl fun args res ob h hob => by
  split at h
  · injection h with h; injection h with h1 h2; subst h1; subst h2; exact awake1_tri
  · cases h
def rsumC : Con := con0 fun args => match args with
  | [.one (.str s)] => some (.c (.one (.str (sumL s))), [s.length ≤ 1000000])
  | _ => none
theorem rsumC_ok : ConOkG Tryd.prog GS 10 rsumC := con0_okG Tryd.func10 rfl rfl fun args res ob h hob => by
  split at h
  · injection h with h; injection h with h1 h2; subst h1; subst h2; exact rsum_tri _ hob.1
  · cases h
def hm1 : Nat → Option Con := fun f => match f with
  | 8 => some awake1C
  | 10 => some rsumC
  | 9 => some ssumC
  | _ => none
theorem hm1_ok : GaOkG Tryd.prog GS hm1 := fun f con h => by
  unfold hm1 at h
  split at h
  · injection h with h; subst h; exact awake1C_ok
  · injection h with h; subst h; exact rsumC_ok
  · injection h with h; subst h; exact ssumC_ok
  · cases h
set_option maxRecDepth 100000 in
theorem lawSums_tri (s : List UInt8) : TriG Tryd.prog GS 3 [.one (.str s)] [] (.c (.one (.bo true))) [] := by
  refine tri_ofx (envSK_ok hm1_ok 15 []) Tryd.func3 rfl rfl (rs := [.tmp 2]) rfl rfl (by simp [envSK]) rfl ?_
  cases hk : decide ((1024 : Int) < (s.length : Int)) with
  | true =>
    simp only [hk, envSK, con0, conS, strsOf_arr, rowS_arr, strsOf_cells, rowS_cells, toS, strL_st, strL_d, strL_enc, strL_up, hpN_nil, hpN_cons, hm1, awake1C, rsumC, ssumC, retQx, go_sem, reduceCtorEq, ↓reduceIte, Nat.reduceAdd, Nat.reduceMul, Nat.reduceSub, Nat.reduceEqDiff, Nat.reduceLT, Nat.reduceBEq, Nat.reduceBNe, Nat.reduceLeDiff, Int.reduceLE, Int.reduceLT, Int.reduceToNat, Int.reduceEq, Int.reduceAdd, UInt8.reduceToNat, UInt32.reduceToNat, UInt64.reduceToNat, UInt8.reduceOfNat, UInt32.reduceOfNat, UInt64.reduceOfNat, Fin.isValue, Int.reduceSub, Int.reduceMul, Int.reduceNeg, Int.reduceMod, Int.reduceDiv, Int.reduceTDiv, Int.reduceTMod, Int.reduceBEq, Int.reduceBNe, Nat.reduceDiv, Nat.reducePow]
    refine endX [] ?_
    simp only [envSK, con0, conS, strsOf_arr, rowS_arr, strsOf_cells, rowS_cells, toS, strL_st, strL_d, strL_enc, strL_up, hpN_nil, hpN_cons, hm1, awake1C, rsumC, ssumC, retQx, go_sem, reduceCtorEq, ↓reduceIte, Nat.reduceAdd, Nat.reduceMul, Nat.reduceSub, Nat.reduceEqDiff, Nat.reduceLT, Nat.reduceBEq, Nat.reduceBNe, Nat.reduceLeDiff, Int.reduceLE, Int.reduceLT, Int.reduceToNat, Int.reduceEq, Int.reduceAdd, UInt8.reduceToNat, UInt32.reduceToNat, UInt64.reduceToNat, UInt8.reduceOfNat, UInt32.reduceOfNat, UInt64.reduceOfNat, Fin.isValue, Int.reduceSub, Int.reduceMul, Int.reduceNeg, Int.reduceMod, Int.reduceDiv, Int.reduceTDiv, Int.reduceTMod, Int.reduceBEq, Int.reduceBNe, Nat.reduceDiv, Nat.reducePow]
    all_goals first
      | trivial
      | trace_state
  | false =>
    have hk' := of_decide_eq_false hk
    simp only [hk, beq_self_eq_true, envSK, con0, conS, strsOf_arr, rowS_arr, strsOf_cells, rowS_cells, toS, strL_st, strL_d, strL_enc, strL_up, hpN_nil, hpN_cons, hm1, awake1C, rsumC, ssumC, retQx, go_sem, reduceCtorEq, ↓reduceIte, Nat.reduceAdd, Nat.reduceMul, Nat.reduceSub, Nat.reduceEqDiff, Nat.reduceLT, Nat.reduceBEq, Nat.reduceBNe, Nat.reduceLeDiff, Int.reduceLE, Int.reduceLT, Int.reduceToNat, Int.reduceEq, Int.reduceAdd, UInt8.reduceToNat, UInt32.reduceToNat, UInt64.reduceToNat, UInt8.reduceOfNat, UInt32.reduceOfNat, UInt64.reduceOfNat, Fin.isValue, Int.reduceSub, Int.reduceMul, Int.reduceNeg, Int.reduceMod, Int.reduceDiv, Int.reduceTDiv, Int.reduceTMod, Int.reduceBEq, Int.reduceBNe, Nat.reduceDiv, Nat.reducePow]
    repeat' apply And.intro
    all_goals first
      | omega
      | rfl
      | skip
    refine endX [] ?_
    simp only [beq_self_eq_true, envSK, con0, conS, strsOf_arr, rowS_arr, strsOf_cells, rowS_cells, toS, strL_st, strL_d, strL_enc, strL_up, hpN_nil, hpN_cons, hm1, awake1C, rsumC, ssumC, retQx, go_sem, reduceCtorEq, ↓reduceIte, Nat.reduceAdd, Nat.reduceMul, Nat.reduceSub, Nat.reduceEqDiff, Nat.reduceLT, Nat.reduceBEq, Nat.reduceBNe, Nat.reduceLeDiff, Int.reduceLE, Int.reduceLT, Int.reduceToNat, Int.reduceEq, Int.reduceAdd, UInt8.reduceToNat, UInt32.reduceToNat, UInt64.reduceToNat, UInt8.reduceOfNat, UInt32.reduceOfNat, UInt64.reduceOfNat, Fin.isValue, Int.reduceSub, Int.reduceMul, Int.reduceNeg, Int.reduceMod, Int.reduceDiv, Int.reduceTDiv, Int.reduceTMod, Int.reduceBEq, Int.reduceBNe, Nat.reduceDiv, Nat.reducePow]
    all_goals first
      | trivial
      | trace_state
theorem shaSums_law (s : ByteArray) (ws : s.size ≤ maxLen) (w : World) (hg : ∀ f ∈ GS, f.p w) : Calls Tryd.prog 3 #[.string s] w fun e w' => e = .returned (.bool true) ∧ Below w.heap.size w w' := by
  refine (tri_callsG (lawSums_tri s.data.toList) w (vals := [.string s]) ⟨rfl, trivial⟩ hg).mono ?_
  rintro e w' ⟨u, r', rfl, hr, hb⟩
  exact ⟨by rw [show u = .bool true from hr], hb⟩
def blockX (v : W8) (s : List UInt8) : W8 := if s.length = 64 then blockW v s else v
def blockXC : Con := con0 fun args => match args with
  | [.agg [.u32 a, .u32 b, .u32 c, .u32 d, .u32 e, .u32 f, .u32 g, .u32 h], .one (.str s)] => some (.c (blockX ⟨a, b, c, d, e, f, g, h⟩ s).cv, [])
  | _ => none
theorem blockXC_ok : ConOkG Tryd.prog GS 11 blockXC := con0_okG Tryd.func11 rfl rfl fun args res ob h hob => by
  split at h
  · rename_i a b c d e f g h' s
    injection h with h; injection h with h1 h2; subst h1; subst h2
    exact block_tri ⟨a, b, c, d, e, f, g, h'⟩ s
  · cases h
def hm2 : Nat → Option Con := fun f => match f with
  | 8 => some awake1C
  | 11 => some blockXC
  | 12 => some rblockQC
  | 13 => some roundsC
  | _ => none
theorem hm2_ok : GaOkG Tryd.prog GS hm2 := fun f con h => by
  unfold hm2 at h
  split at h
  · injection h with h; subst h; exact awake1C_ok
  · injection h with h; subst h; exact blockXC_ok
  · injection h with h; subst h; exact rblockQC_ok
  · injection h with h; subst h; exact roundsC_ok
  · cases h
set_option maxRecDepth 100000 in
theorem lawBlocks_tri (v : W8) (s : List UInt8) : TriG Tryd.prog GS 4 [v.cv, .one (.str s)] [] (.c (.one (.bo true))) [] := by
  refine tri_ofx (envSK_ok hm2_ok 41 []) Tryd.func4 rfl rfl (rs := [.tmp 4]) rfl rfl (by simp [envSK]) rfl ?_
  cases hk : decide ((1024 : Int) < (s.length : Int)) with
  | true =>
    simp only [hk, W8.cv, envSK, con0, conS, strsOf_arr, rowS_arr, strsOf_cells, rowS_cells, toS, strL_st, strL_d, strL_enc, strL_up, hpN_nil, hpN_cons, hm2, awake1C, blockXC, rblockQC, roundsC, retQx, go_sem, reduceCtorEq, ↓reduceIte, Nat.reduceAdd, Nat.reduceMul, Nat.reduceSub, Nat.reduceEqDiff, Nat.reduceLT, Nat.reduceBEq, Nat.reduceBNe, Nat.reduceLeDiff, Int.reduceLE, Int.reduceLT, Int.reduceToNat, Int.reduceEq, Int.reduceAdd, UInt8.reduceToNat, UInt32.reduceToNat, UInt64.reduceToNat, UInt8.reduceOfNat, UInt32.reduceOfNat, UInt64.reduceOfNat, Fin.isValue, Int.reduceSub, Int.reduceMul, Int.reduceNeg, Int.reduceMod, Int.reduceDiv, Int.reduceTDiv, Int.reduceTMod, Int.reduceBEq, Int.reduceBNe, Nat.reduceDiv, Nat.reducePow]
    refine endX [] ?_
    simp only [envSK, con0, conS, strsOf_arr, rowS_arr, strsOf_cells, rowS_cells, toS, strL_st, strL_d, strL_enc, strL_up, hpN_nil, hpN_cons, hm2, awake1C, blockXC, rblockQC, roundsC, retQx, go_sem, reduceCtorEq, ↓reduceIte, Nat.reduceAdd, Nat.reduceMul, Nat.reduceSub, Nat.reduceEqDiff, Nat.reduceLT, Nat.reduceBEq, Nat.reduceBNe, Nat.reduceLeDiff, Int.reduceLE, Int.reduceLT, Int.reduceToNat, Int.reduceEq, Int.reduceAdd, UInt8.reduceToNat, UInt32.reduceToNat, UInt64.reduceToNat, UInt8.reduceOfNat, UInt32.reduceOfNat, UInt64.reduceOfNat, Fin.isValue, Int.reduceSub, Int.reduceMul, Int.reduceNeg, Int.reduceMod, Int.reduceDiv, Int.reduceTDiv, Int.reduceTMod, Int.reduceBEq, Int.reduceBNe, Nat.reduceDiv, Nat.reducePow]
    all_goals first
      | trivial
      | trace_state
  | false =>
    by_cases hl : s.length = 64
    · have hx : blockX v s = blockW v s := if_pos hl
      have hw : w8 [v.a, v.b, v.c, v.d, v.e, v.f, v.g, v.h] = v := rfl
      simp only [hk, hl, hx, hw, W8.cv, W8.eta, kL_len, ursOf_arr, rowU_arr, ursOf_cells, rowU_cells, toU, List.map_cons, List.map_nil, conQ, rblockQF, roundsF, block_eq, envSK, con0, conS, strsOf_arr, rowS_arr, strsOf_cells, rowS_cells, toS, strL_st, strL_d, strL_enc, strL_up, hpN_nil, hpN_cons, hm2, awake1C, blockXC, rblockQC, roundsC, retQx, go_sem, reduceCtorEq, ↓reduceIte, Nat.reduceAdd, Nat.reduceMul, Nat.reduceSub, Nat.reduceEqDiff, Nat.reduceLT, Nat.reduceBEq, Nat.reduceBNe, Nat.reduceLeDiff, Int.reduceLE, Int.reduceLT, Int.reduceToNat, Int.reduceEq, Int.reduceAdd, UInt8.reduceToNat, UInt32.reduceToNat, UInt64.reduceToNat, UInt8.reduceOfNat, UInt32.reduceOfNat, UInt64.reduceOfNat, Fin.isValue, Int.reduceSub, Int.reduceMul, Int.reduceNeg, Int.reduceMod, Int.reduceDiv, Int.reduceTDiv, Int.reduceTMod, Int.reduceBEq, Int.reduceBNe, Nat.reduceDiv, Nat.reducePow]
      repeat' apply And.intro
      all_goals first
        | omega
        | rfl
        | skip
      generalize blockW v s = V
      refine loop_rounds (envSK_ok hm2_ok 41 []) 9 ?_
      simp only [W8.l, u32L_st, u32L_d, u32L_enc, u32L_up, beq_self_eq_true, envSK, con0, conS, strsOf_arr, rowS_arr, strsOf_cells, rowS_cells, toS, strL_st, strL_d, strL_enc, strL_up, hpN_nil, hpN_cons, hm2, awake1C, blockXC, rblockQC, roundsC, retQx, go_sem, reduceCtorEq, ↓reduceIte, Nat.reduceAdd, Nat.reduceMul, Nat.reduceSub, Nat.reduceEqDiff, Nat.reduceLT, Nat.reduceBEq, Nat.reduceBNe, Nat.reduceLeDiff, Int.reduceLE, Int.reduceLT, Int.reduceToNat, Int.reduceEq, Int.reduceAdd, UInt8.reduceToNat, UInt32.reduceToNat, UInt64.reduceToNat, UInt8.reduceOfNat, UInt32.reduceOfNat, UInt64.reduceOfNat, Fin.isValue, Int.reduceSub, Int.reduceMul, Int.reduceNeg, Int.reduceMod, Int.reduceDiv, Int.reduceTDiv, Int.reduceTMod, Int.reduceBEq, Int.reduceBNe, Nat.reduceDiv, Nat.reducePow]
      repeat' apply And.intro
      all_goals first
        | omega
        | rfl
        | skip
      refine endX [] ?_
      simp only [beq_self_eq_true, envSK, con0, conS, strsOf_arr, rowS_arr, strsOf_cells, rowS_cells, toS, strL_st, strL_d, strL_enc, strL_up, hpN_nil, hpN_cons, hm2, awake1C, blockXC, rblockQC, roundsC, retQx, go_sem, reduceCtorEq, ↓reduceIte, Nat.reduceAdd, Nat.reduceMul, Nat.reduceSub, Nat.reduceEqDiff, Nat.reduceLT, Nat.reduceBEq, Nat.reduceBNe, Nat.reduceLeDiff, Int.reduceLE, Int.reduceLT, Int.reduceToNat, Int.reduceEq, Int.reduceAdd, UInt8.reduceToNat, UInt32.reduceToNat, UInt64.reduceToNat, UInt8.reduceOfNat, UInt32.reduceOfNat, UInt64.reduceOfNat, Fin.isValue, Int.reduceSub, Int.reduceMul, Int.reduceNeg, Int.reduceMod, Int.reduceDiv, Int.reduceTDiv, Int.reduceTMod, Int.reduceBEq, Int.reduceBNe, Nat.reduceDiv, Nat.reducePow]
      all_goals first
        | trivial
        | trace_state
    · have hx : blockX v s = v := if_neg hl
      have hn : ((s.length : Int) == 64) = false := by rw [beq_eq_false_iff_ne]; omega
      simp only [hk, hn, hx, W8.cv, W8.eta, beq_self_eq_true, envSK, con0, conS, strsOf_arr, rowS_arr, strsOf_cells, rowS_cells, toS, strL_st, strL_d, strL_enc, strL_up, hpN_nil, hpN_cons, hm2, awake1C, blockXC, rblockQC, roundsC, retQx, go_sem, reduceCtorEq, ↓reduceIte, Nat.reduceAdd, Nat.reduceMul, Nat.reduceSub, Nat.reduceEqDiff, Nat.reduceLT, Nat.reduceBEq, Nat.reduceBNe, Nat.reduceLeDiff, Int.reduceLE, Int.reduceLT, Int.reduceToNat, Int.reduceEq, Int.reduceAdd, UInt8.reduceToNat, UInt32.reduceToNat, UInt64.reduceToNat, UInt8.reduceOfNat, UInt32.reduceOfNat, UInt64.reduceOfNat, Fin.isValue, Int.reduceSub, Int.reduceMul, Int.reduceNeg, Int.reduceMod, Int.reduceDiv, Int.reduceTDiv, Int.reduceTMod, Int.reduceBEq, Int.reduceBNe, Nat.reduceDiv, Nat.reducePow]
      repeat' apply And.intro
      all_goals first
        | omega
        | rfl
        | skip
      refine endX [] ?_
      simp only [beq_self_eq_true, envSK, con0, conS, strsOf_arr, rowS_arr, strsOf_cells, rowS_cells, toS, strL_st, strL_d, strL_enc, strL_up, hpN_nil, hpN_cons, hm2, awake1C, blockXC, rblockQC, roundsC, retQx, go_sem, reduceCtorEq, ↓reduceIte, Nat.reduceAdd, Nat.reduceMul, Nat.reduceSub, Nat.reduceEqDiff, Nat.reduceLT, Nat.reduceBEq, Nat.reduceBNe, Nat.reduceLeDiff, Int.reduceLE, Int.reduceLT, Int.reduceToNat, Int.reduceEq, Int.reduceAdd, UInt8.reduceToNat, UInt32.reduceToNat, UInt64.reduceToNat, UInt8.reduceOfNat, UInt32.reduceOfNat, UInt64.reduceOfNat, Fin.isValue, Int.reduceSub, Int.reduceMul, Int.reduceNeg, Int.reduceMod, Int.reduceDiv, Int.reduceTDiv, Int.reduceTMod, Int.reduceBEq, Int.reduceBNe, Nat.reduceDiv, Nat.reducePow]
      all_goals first
        | trivial
        | trace_state
theorem shaBlocks_law (x : W8) (s : ByteArray) (ws : s.size ≤ maxLen) (w : World) (hg : ∀ f ∈ GS, f.p w) : Calls Tryd.prog 4 #[x.val, .string s] w fun e w' => e = .returned (.bool true) ∧ Below w.heap.size w w' := by
  refine (tri_callsG (lawBlocks_tri x s.data.toList) w (vals := [x.val, .string s]) ⟨⟨_, rfl, ⟨rfl, rfl, rfl, rfl, rfl, rfl, rfl, rfl, trivial⟩⟩, rfl, trivial⟩ hg).mono ?_
  rintro e w' ⟨u, r', rfl, hr, hb⟩
  exact ⟨by rw [show u = .bool true from hr], hb⟩
end Go.Proofs.YtdkogjjebbdngaaDoor
