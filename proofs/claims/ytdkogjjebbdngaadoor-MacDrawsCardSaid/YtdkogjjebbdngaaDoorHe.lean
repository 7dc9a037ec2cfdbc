/-
  Layer 1: the first state, a state's bytes, what is added to a text.
-/
import Derived.Test.YtdkogjjebbdngaaDoorSz
import Derived.Test.YtdkogjjebbdngaaDoorHd
namespace Go.Proofs.YtdkogjjebbdngaaDoor
open Go Go.RowKit
set_option maxHeartbeats 4000000
set_option linter.unusedSimpArgs false
set_option linter.unusedVariables false
def init8 : W8 := ⟨0x6a09e667, 0xbb67ae85, 0x3c6ef372, 0xa54ff53a, 0x510e527f, 0x9b05688c, 0x1f83d9ab, 0x5be0cd19⟩
theorem initial_tri : Tri Tryd.prog 22 [] [] (.c init8.cv) [] := by
  refine tri_of (envOf_ok ga0_ok 2) Tryd.func22 rfl rfl (rs := [.cell 0 26]) rfl rfl (by simp [envOf]) rfl [] ?_
  simp only [envOf, ga0, W8.cv, init8, go_sem, reduceCtorEq, ↓reduceIte, Nat.reduceAdd, Nat.reduceMul, Nat.reduceSub, Nat.reduceEqDiff, Nat.reduceLT, Nat.reduceBEq, Nat.reduceBNe, Nat.reduceLeDiff, Int.reduceLE, Int.reduceLT, Int.reduceToNat, Int.reduceEq, Int.reduceAdd, UInt8.reduceToNat, UInt32.reduceToNat, UInt64.reduceToNat, UInt8.reduceOfNat, UInt32.reduceOfNat, UInt64.reduceOfNat, Fin.isValue, Int.reduceSub, Int.reduceMul, Int.reduceNeg, Int.reduceMod, Int.reduceDiv, Int.reduceTDiv, Int.reduceTMod, Int.reduceBEq, Int.reduceBNe, Nat.reduceDiv, Nat.reducePow]
  all_goals rfl
def initialC : Con := con0 fun args => match args with
  | [] => some (.c init8.cv, [])
  | _ => none
theorem initialC_ok : ConOk Tryd.prog 22 initialC := con0_ok Tryd.func22 rfl rfl fun args res ob h hob => by
  split at h
  · injection h with h; injection h with h1 h2; subst h1; subst h2; exact initial_tri
  · cases h
def wordO (w : UInt32) : List UInt8 := [(shr32 w 24).toUInt8, (shr32 w 16).toUInt8, (shr32 w 8).toUInt8, w.toUInt8]
def outV (v : W8) : List UInt8 := [(shr32 v.a 24).toUInt8, (shr32 v.a 16).toUInt8, (shr32 v.a 8).toUInt8, v.a.toUInt8, (shr32 v.b 24).toUInt8, (shr32 v.b 16).toUInt8, (shr32 v.b 8).toUInt8, v.b.toUInt8, (shr32 v.c 24).toUInt8, (shr32 v.c 16).toUInt8, (shr32 v.c 8).toUInt8, v.c.toUInt8, (shr32 v.d 24).toUInt8, (shr32 v.d 16).toUInt8, (shr32 v.d 8).toUInt8, v.d.toUInt8, (shr32 v.e 24).toUInt8, (shr32 v.e 16).toUInt8, (shr32 v.e 8).toUInt8, v.e.toUInt8, (shr32 v.f 24).toUInt8, (shr32 v.f 16).toUInt8, (shr32 v.f 8).toUInt8, v.f.toUInt8, (shr32 v.g 24).toUInt8, (shr32 v.g 16).toUInt8, (shr32 v.g 8).toUInt8, v.g.toUInt8, (shr32 v.h 24).toUInt8, (shr32 v.h 16).toUInt8, (shr32 v.h 8).toUInt8, v.h.toUInt8]
set_option maxRecDepth 100000 in
theorem output_tri (v : W8) : Tri Tryd.prog 24 [v.cv] [] (.c (.one (.str (outV v)))) [] := by
  refine tri_of (envOf_ok ga0_ok 28) Tryd.func24 rfl rfl (rs := [.tmp 2]) rfl rfl (by simp [envOf]) rfl [] ?_
  simp only [envOf, ga0, W8.cv, go_sem, reduceCtorEq, ↓reduceIte, Nat.reduceAdd, Nat.reduceMul, Nat.reduceSub, Nat.reduceEqDiff, Nat.reduceLT, Nat.reduceBEq, Nat.reduceBNe, Nat.reduceLeDiff, Int.reduceLE, Int.reduceLT, Int.reduceToNat, Int.reduceEq, Int.reduceAdd, UInt8.reduceToNat, UInt32.reduceToNat, UInt64.reduceToNat, UInt8.reduceOfNat, UInt32.reduceOfNat, UInt64.reduceOfNat, Fin.isValue, Int.reduceSub, Int.reduceMul, Int.reduceNeg, Int.reduceMod, Int.reduceDiv, Int.reduceTDiv, Int.reduceTMod, Int.reduceBEq, Int.reduceBNe, Nat.reduceDiv, Nat.reducePow]
  repeat' apply And.intro
  all_goals first
    | omega
    | rfl
    | skip
  refine loop_rounds (envOf_ok ga0_ok 28) 9 ?_
  simp only [envOf, ga0, outV, go_sem, reduceCtorEq, ↓reduceIte, Nat.reduceAdd, Nat.reduceMul, Nat.reduceSub, Nat.reduceEqDiff, Nat.reduceLT, Nat.reduceBEq, Nat.reduceBNe, Nat.reduceLeDiff, Int.reduceLE, Int.reduceLT, Int.reduceToNat, Int.reduceEq, Int.reduceAdd, UInt8.reduceToNat, UInt32.reduceToNat, UInt64.reduceToNat, UInt8.reduceOfNat, UInt32.reduceOfNat, UInt64.reduceOfNat, Fin.isValue, Int.reduceSub, Int.reduceMul, Int.reduceNeg, Int.reduceMod, Int.reduceDiv, Int.reduceTDiv, Int.reduceTMod, Int.reduceBEq, Int.reduceBNe, Nat.reduceDiv, Nat.reducePow]
  repeat' apply And.intro
  all_goals first
    | omega
    | rfl
    | trace_state
def outputC : Con := con0 fun args => match args with
  | [.agg [.u32 a, .u32 b, .u32 c, .u32 d, .u32 e, .u32 f, .u32 g, .u32 h]] => some (.c (.one (.str (outV ⟨a, b, c, d, e, f, g, h⟩))), [])
  | _ => none
theorem outputC_ok : ConOk Tryd.prog 24 outputC := con0_ok Tryd.func24 rfl rfl fun args res ob h hob => by
  split at h
  · injection h with h; injection h with h1 h2; subst h1; subst h2; exact output_tri ⟨_, _, _, _, _, _, _, _⟩
  · cases h
end Go.Proofs.YtdkogjjebbdngaaDoor
