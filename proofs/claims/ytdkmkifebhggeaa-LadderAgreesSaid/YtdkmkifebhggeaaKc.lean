/-
  Layer 3: a number to the power of 2^255 - 21.
-/
import Derived.Test.YtdkmkifebhggeaaSz
import Derived.Test.YtdkmkifebhggeaaKb
namespace Go.Proofs.Ytdkmkifebhggeaa
open Go Go.RowKit
set_option maxHeartbeats 4000000
set_option linter.unusedSimpArgs false
set_option linter.unusedVariables false
def N5.cells (x : N5) : SObj := .cells 1 [.u64 x.a, .u64 x.b, .u64 x.c, .u64 x.d, .u64 x.e]
def bitN : Nat → Int
  | 0 => -1
  | c + 1 => (c : Int)
theorem bitN_next {c : Nat} (h : c ≤ 1000) : IntKind.i64.wrap ((c : Int) - 1) = bitN c := by
  rw [IntKind.wrap_i64]
  cases c with
  | zero => rfl
  | succ c => simp only [bitN]; omega
def finvInv (x : N5) (s : Nat × N5) : St := ⟨[(1, .c (.one (.ptr 10000 0 0 0))), (2, .c (.one (.ptr 10008 0 0 0))), (3, .c (.one (.ptr 30008 0 0 0))), (4, .c (.one (.num (bitN s.1))))], [(10000, ⟨(fcarry x).cells, true⟩), (10008, ⟨zeroF.cells, true⟩), (30008, ⟨s.2.cells, true⟩)]⟩
def finvOk (x : N5) (s : Nat × N5) : Prop := invR (fcarry x) s.1 s.2 = finv x ∧ s.1 ≤ 255
def gk2 : Nat → Option Con := fun f => match f with
  | 34 => some fcarryC
  | 19 => some fmulC
  | _ => none
theorem gk2_ok : GaOk Try.prog gk2 := fun f con h => by
  unfold gk2 at h
  split at h
  · injection h with h; subst h; exact fcarryC_ok
  · injection h with h; subst h; exact fmulC_ok
  · cases h
set_option maxRecDepth 100000 in
theorem finv_tri (x : N5) : Tri Try.prog 23 [x.cv] [] (.c (finv x).cv) [] := by
  refine tri_of (envOf_ok gk2_ok 25) Try.func23 rfl rfl (rs := [.cell 2 24]) rfl rfl (by simp [envOf]) rfl [] ?_
  simp only [envOf, gk2, fcarryC, fmulC, N5.cv, N5.eta, go_sem, reduceCtorEq, ↓reduceIte, Nat.reduceAdd, Nat.reduceMul, Nat.reduceSub, Nat.reduceEqDiff, Nat.reduceLT, Nat.reduceBEq, Nat.reduceBNe, Nat.reduceLeDiff, Int.reduceLE, Int.reduceLT, Int.reduceToNat, Int.reduceEq, Int.reduceAdd, UInt8.reduceToNat, UInt32.reduceToNat, UInt64.reduceToNat, UInt8.reduceOfNat, UInt32.reduceOfNat, UInt64.reduceOfNat, Fin.isValue, Int.reduceSub, Int.reduceMul, Int.reduceNeg, Int.reduceMod, Int.reduceDiv, Int.reduceTDiv, Int.reduceTMod, Int.reduceBEq, Int.reduceBNe, Nat.reduceDiv, Nat.reducePow]
  refine loop_inv (envOf_ok gk2_ok 25) (finvInv x) (finvOk x) (fun s => s.1) (255, oneF) [] ⟨rfl, Nat.le_refl _⟩ ?_ ?_
  · simp only [finvInv, N5.cells, zeroF, oneF, bitN, go_sem, reduceCtorEq, ↓reduceIte, Nat.reduceAdd, Nat.reduceMul, Nat.reduceSub, Nat.reduceEqDiff, Nat.reduceLT, Nat.reduceBEq, Nat.reduceBNe, Nat.reduceLeDiff, Int.reduceLE, Int.reduceLT, Int.reduceToNat, Int.reduceEq, Int.reduceAdd, UInt8.reduceToNat, UInt32.reduceToNat, UInt64.reduceToNat, UInt8.reduceOfNat, UInt32.reduceOfNat, UInt64.reduceOfNat, Fin.isValue, Int.reduceSub, Int.reduceMul, Int.reduceNeg, Int.reduceMod, Int.reduceDiv, Int.reduceTDiv, Int.reduceTMod, Int.reduceBEq, Int.reduceBNe, Nat.reduceDiv, Nat.reducePow]
    all_goals try exact ⟨rfl, rfl⟩
  · rintro ⟨b, r⟩ ⟨hb, hle⟩
    cases b with
    | zero =>
      have hr : finv x = r := hb.symm
      simp only [envOf, gk2, fcarryC, fmulC, finvInv, N5.cells, zeroF, bitN, hr, N5.cv, N5.eta, go_sem, reduceCtorEq, ↓reduceIte, Nat.reduceAdd, Nat.reduceMul, Nat.reduceSub, Nat.reduceEqDiff, Nat.reduceLT, Nat.reduceBEq, Nat.reduceBNe, Nat.reduceLeDiff, Int.reduceLE, Int.reduceLT, Int.reduceToNat, Int.reduceEq, Int.reduceAdd, UInt8.reduceToNat, UInt32.reduceToNat, UInt64.reduceToNat, UInt8.reduceOfNat, UInt32.reduceOfNat, UInt64.reduceOfNat, Fin.isValue, Int.reduceSub, Int.reduceMul, Int.reduceNeg, Int.reduceMod, Int.reduceDiv, Int.reduceTDiv, Int.reduceTMod, Int.reduceBEq, Int.reduceBNe, Nat.reduceDiv, Nat.reducePow]
      all_goals try rfl
    | succ c =>
      have hle' : c ≤ 254 := by have : c + 1 ≤ 255 := hle; omega
      have h0 : decide ((0 : Int) ≤ (c : Int)) = true := decide_eq_true (by omega)
      have hw := bitN_next (c := c) (by omega)
      by_cases h2 : c = 2
      · subst h2
        simp only [envOf, gk2, fcarryC, fmulC, finvInv, N5.cells, zeroF, bitN, h0, hw, bne, N5.cv, N5.eta, go_sem, reduceCtorEq, ↓reduceIte, Nat.reduceAdd, Nat.reduceMul, Nat.reduceSub, Nat.reduceEqDiff, Nat.reduceLT, Nat.reduceBEq, Nat.reduceBNe, Nat.reduceLeDiff, Int.reduceLE, Int.reduceLT, Int.reduceToNat, Int.reduceEq, Int.reduceAdd, UInt8.reduceToNat, UInt32.reduceToNat, UInt64.reduceToNat, UInt8.reduceOfNat, UInt32.reduceOfNat, UInt64.reduceOfNat, Fin.isValue, Int.reduceSub, Int.reduceMul, Int.reduceNeg, Int.reduceMod, Int.reduceDiv, Int.reduceTDiv, Int.reduceTMod, Int.reduceBEq, Int.reduceBNe, Nat.reduceDiv, Nat.reducePow]
        refine again (2, fmul r r) [] ⟨hb, by show 2 ≤ 255; decide⟩ (by show 2 < 2 + 1; decide) ?_
        simp only [finvInv, N5.cells, zeroF, bitN, go_sem, reduceCtorEq, ↓reduceIte, Nat.reduceAdd, Nat.reduceMul, Nat.reduceSub, Nat.reduceEqDiff, Nat.reduceLT, Nat.reduceBEq, Nat.reduceBNe, Nat.reduceLeDiff, Int.reduceLE, Int.reduceLT, Int.reduceToNat, Int.reduceEq, Int.reduceAdd, UInt8.reduceToNat, UInt32.reduceToNat, UInt64.reduceToNat, UInt8.reduceOfNat, UInt32.reduceOfNat, UInt64.reduceOfNat, Fin.isValue, Int.reduceSub, Int.reduceMul, Int.reduceNeg, Int.reduceMod, Int.reduceDiv, Int.reduceTDiv, Int.reduceTMod, Int.reduceBEq, Int.reduceBNe, Nat.reduceDiv, Nat.reducePow]
        all_goals trivial
      · by_cases h4 : c = 4
        · subst h4
          simp only [envOf, gk2, fcarryC, fmulC, finvInv, N5.cells, zeroF, bitN, h0, hw, bne, N5.cv, N5.eta, go_sem, reduceCtorEq, ↓reduceIte, Nat.reduceAdd, Nat.reduceMul, Nat.reduceSub, Nat.reduceEqDiff, Nat.reduceLT, Nat.reduceBEq, Nat.reduceBNe, Nat.reduceLeDiff, Int.reduceLE, Int.reduceLT, Int.reduceToNat, Int.reduceEq, Int.reduceAdd, UInt8.reduceToNat, UInt32.reduceToNat, UInt64.reduceToNat, UInt8.reduceOfNat, UInt32.reduceOfNat, UInt64.reduceOfNat, Fin.isValue, Int.reduceSub, Int.reduceMul, Int.reduceNeg, Int.reduceMod, Int.reduceDiv, Int.reduceTDiv, Int.reduceTMod, Int.reduceBEq, Int.reduceBNe, Nat.reduceDiv, Nat.reducePow]
          refine again (4, fmul r r) [] ⟨hb, by show 4 ≤ 255; decide⟩ (by show 4 < 4 + 1; decide) ?_
          simp only [finvInv, N5.cells, zeroF, bitN, go_sem, reduceCtorEq, ↓reduceIte, Nat.reduceAdd, Nat.reduceMul, Nat.reduceSub, Nat.reduceEqDiff, Nat.reduceLT, Nat.reduceBEq, Nat.reduceBNe, Nat.reduceLeDiff, Int.reduceLE, Int.reduceLT, Int.reduceToNat, Int.reduceEq, Int.reduceAdd, UInt8.reduceToNat, UInt32.reduceToNat, UInt64.reduceToNat, UInt8.reduceOfNat, UInt32.reduceOfNat, UInt64.reduceOfNat, Fin.isValue, Int.reduceSub, Int.reduceMul, Int.reduceNeg, Int.reduceMod, Int.reduceDiv, Int.reduceTDiv, Int.reduceTMod, Int.reduceBEq, Int.reduceBNe, Nat.reduceDiv, Nat.reducePow]
          all_goals trivial
        · have e2 : ((c : Int) == 2) = false := beq_eq_false_iff_ne.2 (by omega)
          have e4 : ((c : Int) == 4) = false := beq_eq_false_iff_ne.2 (by omega)
          simp only [envOf, gk2, fcarryC, fmulC, finvInv, N5.cells, zeroF, bitN, h0, hw, bne, e2, e4, N5.cv, N5.eta, go_sem, reduceCtorEq, ↓reduceIte, Nat.reduceAdd, Nat.reduceMul, Nat.reduceSub, Nat.reduceEqDiff, Nat.reduceLT, Nat.reduceBEq, Nat.reduceBNe, Nat.reduceLeDiff, Int.reduceLE, Int.reduceLT, Int.reduceToNat, Int.reduceEq, Int.reduceAdd, UInt8.reduceToNat, UInt32.reduceToNat, UInt64.reduceToNat, UInt8.reduceOfNat, UInt32.reduceOfNat, UInt64.reduceOfNat, Fin.isValue, Int.reduceSub, Int.reduceMul, Int.reduceNeg, Int.reduceMod, Int.reduceDiv, Int.reduceTDiv, Int.reduceTMod, Int.reduceBEq, Int.reduceBNe, Nat.reduceDiv, Nat.reducePow]
          refine again (c, fmul (fmul r r) (fcarry x)) [] ⟨?_, by show c ≤ 255; omega⟩ (by show c < c + 1; omega) ?_
          · rw [← hb]
            show _ = invR (fcarry x) c (if c = 2 ∨ c = 4 then fmul r r else fmul (fmul r r) (fcarry x))
            rw [if_neg (by omega)]
          · simp only [finvInv, N5.cells, zeroF, bitN, go_sem, reduceCtorEq, ↓reduceIte, Nat.reduceAdd, Nat.reduceMul, Nat.reduceSub, Nat.reduceEqDiff, Nat.reduceLT, Nat.reduceBEq, Nat.reduceBNe, Nat.reduceLeDiff, Int.reduceLE, Int.reduceLT, Int.reduceToNat, Int.reduceEq, Int.reduceAdd, UInt8.reduceToNat, UInt32.reduceToNat, UInt64.reduceToNat, UInt8.reduceOfNat, UInt32.reduceOfNat, UInt64.reduceOfNat, Fin.isValue, Int.reduceSub, Int.reduceMul, Int.reduceNeg, Int.reduceMod, Int.reduceDiv, Int.reduceTDiv, Int.reduceTMod, Int.reduceBEq, Int.reduceBNe, Nat.reduceDiv, Nat.reducePow]
            all_goals trivial
def finvC : Con := con0 fun args => match args with
  | [.agg [.u64 a, .u64 b, .u64 c, .u64 d, .u64 e]] => some (.c (finv ⟨a, b, c, d, e⟩).cv, [])
  | _ => none
theorem finvC_ok : ConOk Try.prog 23 finvC := con0_ok Try.func23 rfl rfl fun args res ob h hob => by
  split at h
  · injection h with h; injection h with h1 h2; subst h1; subst h2; exact finv_tri ⟨_, _, _, _, _⟩
  · cases h
end Go.Proofs.Ytdkmkifebhggeaa
