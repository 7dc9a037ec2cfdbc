/-
  Layer 2: a key, padded; the keyed digest.
-/
import Derived.Test.YtdkogjjebbdngaaDoorSz
import Derived.Test.YtdkogjjebbdngaaDoorHi
namespace Go.Proofs.YtdkogjjebbdngaaDoor
open Go Go.RowKit
set_option maxHeartbeats 4000000
set_option linter.unusedSimpArgs false
set_option linter.unusedVariables false
def keyZ (k : List UInt8) : List UInt8 := k ++ List.replicate (64 - k.length) 0
def xorM (l : List UInt8) (m : UInt8) : Nat → List UInt8
  | 0 => l
  | i + 1 => (xorM l m i).set i ((xorM l m i).getD i 0 ^^^ m)
theorem xorM_len (l : List UInt8) (m : UInt8) : ∀ i, (xorM l m i).length = l.length
  | 0 => rfl
  | i + 1 => by rw [xorM, List.length_set, xorM_len l m i]
theorem keyZ_len {k : List UInt8} (h : k.length ≤ 64) : (keyZ k).length = 64 := by
  unfold keyZ
  rw [List.length_append, List.length_replicate]; omega
def padM (k : List UInt8) (m : UInt8) : List UInt8 := xorM (keyZ k) m 64
theorem padM_len {k : List UInt8} (h : k.length ≤ 64) (m : UInt8) : (padM k m).length = 64 := by unfold padM; rw [xorM_len, keyZ_len h]
theorem u8_map (l : List UInt8) : l.flatMap u8L.enc = l.map AV.u8 := by
  show l.flatMap (fun x : UInt8 => [AV.u8 x]) = _
  induction l with
  | nil => rfl
  | cons x l ih => rw [List.flatMap_cons, ih]; rfl
theorem keyZ_flat (k : List UInt8) : (keyZ k).flatMap u8L.enc = k.map AV.u8 ++ List.replicate (64 - k.length) (AV.u8 0) := by
  rw [u8_map, keyZ, List.map_append, List.map_replicate]
def pmI (k : List UInt8) (m : UInt8) (i : Nat) : St := ⟨[(1, .c (.one (.u8 m))), (5, .c (.one (.sl 500 0 1 64))), (12, .c (.one (.num 64))), (13, .c (.one (.num i)))], [(500, ⟨.arr UInt8 u8L (xorM (keyZ k) m i), true⟩)]⟩
set_option maxRecDepth 100000 in
theorem mpad_tri (k : List UInt8) (m : UInt8) (hk : k.length ≤ 64) : Tri Tryd.prog 30 [.one (.str k), .one (.u8 m)] [] (.c (.one (.str (padM k m)))) [] := by
  have hmin : min 64 k.length = k.length := by omega
  have hmin' : min k.length 64 = k.length := by omega
  have htk : k.take k.length = k := List.take_length
  have hdr : (List.replicate 64 (AV.u8 0)).drop k.length = List.replicate (64 - k.length) (AV.u8 0) := List.drop_replicate
  refine tri_of (envOf_ok ga0_ok 26) Tryd.func30 rfl rfl (rs := [.tmp 4]) rfl rfl (by simp [envOf]) rfl [] ?_
  have htf : (k.flatMap u8L.enc).take k.length = k.map AV.u8 := by rw [u8_map]; exact List.take_of_length_le (by rw [List.length_map]; exact Nat.le_refl _)
  simp only [envOf, ga0, hmin, hmin', htk, hdr, htf, List.length_replicate, go_sem, reduceCtorEq, ↓reduceIte, Nat.reduceAdd, Nat.reduceMul, Nat.reduceSub, Nat.reduceEqDiff, Nat.reduceLT, Nat.reduceBEq, Nat.reduceBNe, Nat.reduceLeDiff, Int.reduceLE, Int.reduceLT, Int.reduceToNat, Int.reduceEq, Int.reduceAdd, UInt8.reduceToNat, UInt32.reduceToNat, UInt64.reduceToNat, UInt8.reduceOfNat, UInt32.reduceOfNat, UInt64.reduceOfNat, Fin.isValue, Int.reduceSub, Int.reduceMul, Int.reduceNeg, Int.reduceMod, Int.reduceDiv, Int.reduceTDiv, Int.reduceTMod, Int.reduceBEq, Int.reduceBNe, Nat.reduceDiv, Nat.reducePow]
  refine loop_inv (envOf_ok ga0_ok 26) (pmI k m) (fun i => i ≤ 64) (fun i => 64 - i) 0 [(500, 20000)] (by omega) ?_ ?_
  · simp only [pmI, xorM, keyZ_flat, go_sem, reduceCtorEq, ↓reduceIte, Nat.reduceAdd, Nat.reduceMul, Nat.reduceSub, Nat.reduceEqDiff, Nat.reduceLT, Nat.reduceBEq, Nat.reduceBNe, Nat.reduceLeDiff, Int.reduceLE, Int.reduceLT, Int.reduceToNat, Int.reduceEq, Int.reduceAdd, UInt8.reduceToNat, UInt32.reduceToNat, UInt64.reduceToNat, UInt8.reduceOfNat, UInt32.reduceOfNat, UInt64.reduceOfNat, Fin.isValue, Int.reduceSub, Int.reduceMul, Int.reduceNeg, Int.reduceMod, Int.reduceDiv, Int.reduceTDiv, Int.reduceTMod, Int.reduceBEq, Int.reduceBNe, Nat.reduceDiv, Nat.reducePow]
    all_goals first
      | trivial
      | trace_state
  · intro i hi
    have hl := xorM_len (keyZ k) m i
    rw [keyZ_len hk] at hl
    simp only [pmI, envOf, ga0, go_sem, reduceCtorEq, ↓reduceIte, Nat.reduceAdd, Nat.reduceMul, Nat.reduceSub, Nat.reduceEqDiff, Nat.reduceLT, Nat.reduceBEq, Nat.reduceBNe, Nat.reduceLeDiff, Int.reduceLE, Int.reduceLT, Int.reduceToNat, Int.reduceEq, Int.reduceAdd, UInt8.reduceToNat, UInt32.reduceToNat, UInt64.reduceToNat, UInt8.reduceOfNat, UInt32.reduceOfNat, UInt64.reduceOfNat, Fin.isValue, Int.reduceSub, Int.reduceMul, Int.reduceNeg, Int.reduceMod, Int.reduceDiv, Int.reduceTDiv, Int.reduceTMod, Int.reduceBEq, Int.reduceBNe, Nat.reduceDiv, Nat.reducePow]
    refine br (fun hc => ?_) fun hc => ?_
    · have hc' := of_decide_eq_true hc
      have w4 : IntKind.i64.wrap ((i : Int) + 1) = ((i + 1 : Nat) : Int) := by rw [IntKind.wrap_i64]; omega
      simp only [hc, w4, envOf, ga0, go_sem, reduceCtorEq, ↓reduceIte, Nat.reduceAdd, Nat.reduceMul, Nat.reduceSub, Nat.reduceEqDiff, Nat.reduceLT, Nat.reduceBEq, Nat.reduceBNe, Nat.reduceLeDiff, Int.reduceLE, Int.reduceLT, Int.reduceToNat, Int.reduceEq, Int.reduceAdd, UInt8.reduceToNat, UInt32.reduceToNat, UInt64.reduceToNat, UInt8.reduceOfNat, UInt32.reduceOfNat, UInt64.reduceOfNat, Fin.isValue, Int.reduceSub, Int.reduceMul, Int.reduceNeg, Int.reduceMod, Int.reduceDiv, Int.reduceTDiv, Int.reduceTMod, Int.reduceBEq, Int.reduceBNe, Nat.reduceDiv, Nat.reducePow]
      repeat' apply And.intro
      all_goals first
        | omega
        | rfl
        | skip
      refine again (i + 1) [] (by omega) (by omega) ?_
      simp only [pmI, xorM, go_sem, reduceCtorEq, ↓reduceIte, Nat.reduceAdd, Nat.reduceMul, Nat.reduceSub, Nat.reduceEqDiff, Nat.reduceLT, Nat.reduceBEq, Nat.reduceBNe, Nat.reduceLeDiff, Int.reduceLE, Int.reduceLT, Int.reduceToNat, Int.reduceEq, Int.reduceAdd, UInt8.reduceToNat, UInt32.reduceToNat, UInt64.reduceToNat, UInt8.reduceOfNat, UInt32.reduceOfNat, UInt64.reduceOfNat, Fin.isValue, Int.reduceSub, Int.reduceMul, Int.reduceNeg, Int.reduceMod, Int.reduceDiv, Int.reduceTDiv, Int.reduceTMod, Int.reduceBEq, Int.reduceBNe, Nat.reduceDiv, Nat.reducePow]
      all_goals first
        | trivial
        | trace_state
    · obtain rfl : i = 64 := by have := of_decide_eq_false hc; omega
      have ht : (xorM (keyZ k) m 64).take 64 = padM k m := List.take_of_length_le (by omega)
      simp only [hc, hl, ht, envOf, ga0, go_sem, reduceCtorEq, ↓reduceIte, Nat.reduceAdd, Nat.reduceMul, Nat.reduceSub, Nat.reduceEqDiff, Nat.reduceLT, Nat.reduceBEq, Nat.reduceBNe, Nat.reduceLeDiff, Int.reduceLE, Int.reduceLT, Int.reduceToNat, Int.reduceEq, Int.reduceAdd, UInt8.reduceToNat, UInt32.reduceToNat, UInt64.reduceToNat, UInt8.reduceOfNat, UInt32.reduceOfNat, UInt64.reduceOfNat, Fin.isValue, Int.reduceSub, Int.reduceMul, Int.reduceNeg, Int.reduceMod, Int.reduceDiv, Int.reduceTDiv, Int.reduceTMod, Int.reduceBEq, Int.reduceBNe, Nat.reduceDiv, Nat.reducePow]
      all_goals first
        | trivial
        | omega
        | trace_state
def mpadC : Con := con0 fun args => match args with
  | [.one (.str k), .one (.u8 m)] => some (.c (.one (.str (padM k m))), [k.length ≤ 64])
  | _ => none
theorem mpadC_ok : ConOk Tryd.prog 30 mpadC := con0_ok Tryd.func30 rfl rfl fun args res ob h hob => by
  split at h
  · injection h with h; injection h with h1 h2; subst h1; subst h2; exact mpad_tri _ _ hob.1
  · cases h
end Go.Proofs.YtdkogjjebbdngaaDoor
