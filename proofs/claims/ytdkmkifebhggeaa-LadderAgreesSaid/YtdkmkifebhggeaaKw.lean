/-
  Layer 3: the program's small functions.
-/
import Derived.Test.YtdkmkifebhggeaaSz
import Derived.Test.YtdkmkifebhggeaaKv
namespace Go.Proofs.Ytdkmkifebhggeaa
open Go Go.RowKit
set_option maxHeartbeats 4000000
set_option linter.unusedSimpArgs false
set_option linter.unusedVariables false
set_option maxRecDepth 100000 in
theorem fcarry_tri (x : N5) : Tri Try.prog 34 [x.cv] [] (.c (fcarry x).cv) [] := by
  refine tri_of (envOf_ok ga0_ok 40) Try.func34 rfl rfl (rs := [.cell 2 24]) rfl rfl (by simp [envOf]) rfl [] ?_
  simp only [envOf, ga0, N5.cv, go_sem, reduceCtorEq, ↓reduceIte, Nat.reduceAdd, Nat.reduceMul, Nat.reduceSub, Nat.reduceEqDiff, Nat.reduceLT, Nat.reduceBEq, Nat.reduceBNe, Nat.reduceLeDiff, Int.reduceLE, Int.reduceLT, Int.reduceToNat, Int.reduceEq, Int.reduceAdd, UInt8.reduceToNat, UInt32.reduceToNat, UInt64.reduceToNat, UInt8.reduceOfNat, UInt32.reduceOfNat, UInt64.reduceOfNat, Fin.isValue, Int.reduceSub, Int.reduceMul, Int.reduceNeg, Int.reduceMod, Int.reduceDiv, Int.reduceTDiv, Int.reduceTMod, Int.reduceBEq, Int.reduceBNe, Nat.reduceDiv, Nat.reducePow]
  exact ⟨rfl, rfl, rfl, rfl, rfl⟩
def fcarryC : Con := con0 fun args => match args with
  | [.agg [.u64 a, .u64 b, .u64 c, .u64 d, .u64 e]] => some (.c (fcarry ⟨a, b, c, d, e⟩).cv, [])
  | _ => none
theorem fcarryC_ok : ConOk Try.prog 34 fcarryC := con0_ok Try.func34 rfl rfl fun args res ob h hob => by
  split at h
  · injection h with h; injection h with h1 h2; subst h1; subst h2; exact fcarry_tri ⟨_, _, _, _, _⟩
  · cases h
def gf1 : Nat → Option Con := fun f => match f with
  | 34 => some fcarryC
  | _ => none
theorem gf1_ok : GaOk Try.prog gf1 := fun f con h => by
  unfold gf1 at h
  split at h
  · injection h with h; subst h; exact fcarryC_ok
  · cases h
set_option maxRecDepth 100000 in
theorem fadd_tri (x y : N5) : Tri Try.prog 13 [x.cv, y.cv] [] (.c (fadd x y).cv) [] := by
  refine tri_of (envOf_ok gf1_ok 24) Try.func13 rfl rfl (rs := [.cell 4 24]) rfl rfl (by simp [envOf]) rfl [] ?_
  simp only [envOf, gf1, fcarryC, N5.cv, N5.eta, go_sem, reduceCtorEq, ↓reduceIte, Nat.reduceAdd, Nat.reduceMul, Nat.reduceSub, Nat.reduceEqDiff, Nat.reduceLT, Nat.reduceBEq, Nat.reduceBNe, Nat.reduceLeDiff, Int.reduceLE, Int.reduceLT, Int.reduceToNat, Int.reduceEq, Int.reduceAdd, UInt8.reduceToNat, UInt32.reduceToNat, UInt64.reduceToNat, UInt8.reduceOfNat, UInt32.reduceOfNat, UInt64.reduceOfNat, Fin.isValue, Int.reduceSub, Int.reduceMul, Int.reduceNeg, Int.reduceMod, Int.reduceDiv, Int.reduceTDiv, Int.reduceTMod, Int.reduceBEq, Int.reduceBNe, Nat.reduceDiv, Nat.reducePow]
  repeat' apply And.intro
  all_goals try rfl
  refine loop_rounds (envOf_ok gf1_ok 24) 6 ?_
  simp only [envOf, gf1, fcarryC, N5.cv, N5.eta, fadd, go_sem, reduceCtorEq, ↓reduceIte, Nat.reduceAdd, Nat.reduceMul, Nat.reduceSub, Nat.reduceEqDiff, Nat.reduceLT, Nat.reduceBEq, Nat.reduceBNe, Nat.reduceLeDiff, Int.reduceLE, Int.reduceLT, Int.reduceToNat, Int.reduceEq, Int.reduceAdd, UInt8.reduceToNat, UInt32.reduceToNat, UInt64.reduceToNat, UInt8.reduceOfNat, UInt32.reduceOfNat, UInt64.reduceOfNat, Fin.isValue, Int.reduceSub, Int.reduceMul, Int.reduceNeg, Int.reduceMod, Int.reduceDiv, Int.reduceTDiv, Int.reduceTMod, Int.reduceBEq, Int.reduceBNe, Nat.reduceDiv, Nat.reducePow]
  repeat' apply And.intro
  all_goals rfl
set_option maxRecDepth 100000 in
theorem fsub_tri (x y : N5) : Tri Try.prog 16 [x.cv, y.cv] [] (.c (fsub x y).cv) [] := by
  refine tri_of (envOf_ok gf1_ok 32) Try.func16 rfl rfl (rs := [.cell 4 24]) rfl rfl (by simp [envOf]) rfl [] ?_
  simp only [envOf, gf1, fcarryC, N5.cv, N5.eta, go_sem, reduceCtorEq, ↓reduceIte, Nat.reduceAdd, Nat.reduceMul, Nat.reduceSub, Nat.reduceEqDiff, Nat.reduceLT, Nat.reduceBEq, Nat.reduceBNe, Nat.reduceLeDiff, Int.reduceLE, Int.reduceLT, Int.reduceToNat, Int.reduceEq, Int.reduceAdd, UInt8.reduceToNat, UInt32.reduceToNat, UInt64.reduceToNat, UInt8.reduceOfNat, UInt32.reduceOfNat, UInt64.reduceOfNat, Fin.isValue, Int.reduceSub, Int.reduceMul, Int.reduceNeg, Int.reduceMod, Int.reduceDiv, Int.reduceTDiv, Int.reduceTMod, Int.reduceBEq, Int.reduceBNe, Nat.reduceDiv, Nat.reducePow]
  repeat' apply And.intro
  all_goals try rfl
  refine loop_rounds (envOf_ok gf1_ok 32) 5 ?_
  simp only [envOf, gf1, fcarryC, N5.cv, N5.eta, fsub, go_sem, reduceCtorEq, ↓reduceIte, Nat.reduceAdd, Nat.reduceMul, Nat.reduceSub, Nat.reduceEqDiff, Nat.reduceLT, Nat.reduceBEq, Nat.reduceBNe, Nat.reduceLeDiff, Int.reduceLE, Int.reduceLT, Int.reduceToNat, Int.reduceEq, Int.reduceAdd, UInt8.reduceToNat, UInt32.reduceToNat, UInt64.reduceToNat, UInt8.reduceOfNat, UInt32.reduceOfNat, UInt64.reduceOfNat, Fin.isValue, Int.reduceSub, Int.reduceMul, Int.reduceNeg, Int.reduceMod, Int.reduceDiv, Int.reduceTDiv, Int.reduceTMod, Int.reduceBEq, Int.reduceBNe, Nat.reduceDiv, Nat.reducePow]
  repeat' apply And.intro
  all_goals rfl
set_option maxRecDepth 100000 in
theorem fsmall_tri (x : N5) : Tri Try.prog 33 [x.cv] [] (.c (fsmall x).cv) [] := by
  refine tri_of (envOf_ok gf1_ok 46) Try.func33 rfl rfl (rs := [.cell 2 24]) rfl rfl (by simp [envOf]) rfl [] ?_
  simp only [envOf, gf1, fcarryC, N5.cv, N5.eta, go_sem, reduceCtorEq, ↓reduceIte, Nat.reduceAdd, Nat.reduceMul, Nat.reduceSub, Nat.reduceEqDiff, Nat.reduceLT, Nat.reduceBEq, Nat.reduceBNe, Nat.reduceLeDiff, Int.reduceLE, Int.reduceLT, Int.reduceToNat, Int.reduceEq, Int.reduceAdd, UInt8.reduceToNat, UInt32.reduceToNat, UInt64.reduceToNat, UInt8.reduceOfNat, UInt32.reduceOfNat, UInt64.reduceOfNat, Fin.isValue, Int.reduceSub, Int.reduceMul, Int.reduceNeg, Int.reduceMod, Int.reduceDiv, Int.reduceTDiv, Int.reduceTMod, Int.reduceBEq, Int.reduceBNe, Nat.reduceDiv, Nat.reducePow]
  repeat' apply And.intro
  all_goals try rfl
  refine loop_rounds (envOf_ok gf1_ok 46) 5 ?_
  simp only [envOf, gf1, fcarryC, N5.cv, N5.eta, go_sem, reduceCtorEq, ↓reduceIte, Nat.reduceAdd, Nat.reduceMul, Nat.reduceSub, Nat.reduceEqDiff, Nat.reduceLT, Nat.reduceBEq, Nat.reduceBNe, Nat.reduceLeDiff, Int.reduceLE, Int.reduceLT, Int.reduceToNat, Int.reduceEq, Int.reduceAdd, UInt8.reduceToNat, UInt32.reduceToNat, UInt64.reduceToNat, UInt8.reduceOfNat, UInt32.reduceOfNat, UInt64.reduceOfNat, Fin.isValue, Int.reduceSub, Int.reduceMul, Int.reduceNeg, Int.reduceMod, Int.reduceDiv, Int.reduceTDiv, Int.reduceTMod, Int.reduceBEq, Int.reduceBNe, Nat.reduceDiv, Nat.reducePow]
  repeat' apply And.intro
  all_goals try rfl
  refine loop_rounds (envOf_ok gf1_ok 46) 6 ?_
  simp only [envOf, gf1, fcarryC, N5.cv, N5.eta, go_sem, reduceCtorEq, ↓reduceIte, Nat.reduceAdd, Nat.reduceMul, Nat.reduceSub, Nat.reduceEqDiff, Nat.reduceLT, Nat.reduceBEq, Nat.reduceBNe, Nat.reduceLeDiff, Int.reduceLE, Int.reduceLT, Int.reduceToNat, Int.reduceEq, Int.reduceAdd, UInt8.reduceToNat, UInt32.reduceToNat, UInt64.reduceToNat, UInt8.reduceOfNat, UInt32.reduceOfNat, UInt64.reduceOfNat, Fin.isValue, Int.reduceSub, Int.reduceMul, Int.reduceNeg, Int.reduceMod, Int.reduceDiv, Int.reduceTDiv, Int.reduceTMod, Int.reduceBEq, Int.reduceBNe, Nat.reduceDiv, Nat.reducePow]
  repeat' apply And.intro
  all_goals rfl
def fsmallC : Con := con0 fun args => match args with
  | [.agg [.u64 a, .u64 b, .u64 c, .u64 d, .u64 e]] => some (.c (fsmall ⟨a, b, c, d, e⟩).cv, [])
  | _ => none
theorem fsmallC_ok : ConOk Try.prog 33 fsmallC := con0_ok Try.func33 rfl rfl fun args res ob h hob => by
  split at h
  · injection h with h; injection h with h1 h2; subst h1; subst h2; exact fsmall_tri ⟨_, _, _, _, _⟩
  · cases h
def faddC : Con := con0 fun args => match args with
  | [.agg [.u64 a, .u64 b, .u64 c, .u64 d, .u64 e], .agg [.u64 a', .u64 b', .u64 c', .u64 d', .u64 e']] => some (.c (fadd ⟨a, b, c, d, e⟩ ⟨a', b', c', d', e'⟩).cv, [])
  | _ => none
theorem faddC_ok : ConOk Try.prog 13 faddC := con0_ok Try.func13 rfl rfl fun args res ob h hob => by
  split at h
  · injection h with h; injection h with h1 h2; subst h1; subst h2; exact fadd_tri ⟨_, _, _, _, _⟩ ⟨_, _, _, _, _⟩
  · cases h
def fsubC : Con := con0 fun args => match args with
  | [.agg [.u64 a, .u64 b, .u64 c, .u64 d, .u64 e], .agg [.u64 a', .u64 b', .u64 c', .u64 d', .u64 e']] => some (.c (fsub ⟨a, b, c, d, e⟩ ⟨a', b', c', d', e'⟩).cv, [])
  | _ => none
theorem fsubC_ok : ConOk Try.prog 16 fsubC := con0_ok Try.func16 rfl rfl fun args res ob h hob => by
  split at h
  · injection h with h; injection h with h1 h2; subst h1; subst h2; exact fsub_tri ⟨_, _, _, _, _⟩ ⟨_, _, _, _, _⟩
  · cases h
end Go.Proofs.Ytdkmkifebhggeaa
