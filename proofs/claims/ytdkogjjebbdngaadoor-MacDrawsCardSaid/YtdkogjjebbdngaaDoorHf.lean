/-
  Layer 1: what is added to a text.
-/
import Derived.Test.YtdkogjjebbdngaaDoorSz
import Derived.Test.YtdkogjjebbdngaaDoorHe
namespace Go.Proofs.YtdkogjjebbdngaaDoor
open Go Go.RowKit
set_option maxHeartbeats 4000000
set_option linter.unusedSimpArgs false
set_option linter.unusedVariables false
def padZ (n : Nat) : Nat := (119 - n % 64) % 64
def bcN (n : Nat) : UInt64 := by64 (n : Int) * 8
def padP (n : Nat) : Nat → List UInt8
  | 0 => 128 :: List.replicate (padZ n) 0
  | j + 1 => padP n j ++ [(shr64 (bcN n) (8 * (7 - j))).toUInt8]
theorem padP_len (n : Nat) : ∀ j, (padP n j).length = 1 + padZ n + j
  | 0 => by rw [padP, List.length_cons, List.length_replicate]; omega
  | j + 1 => by rw [padP, List.length_append, padP_len n j, List.length_singleton]; omega
theorem pad_flat (z : Nat) : (128 :: List.replicate z (0 : UInt8)).flatMap u8L.enc = AV.u8 128 :: List.replicate z (AV.u8 0) := by
  rw [List.flatMap_cons]
  show AV.u8 128 :: (List.replicate z (0 : UInt8)).flatMap u8L.enc = _
  congr 1
  induction z with
  | zero => rfl
  | succ z ih => rw [List.replicate_succ, List.flatMap_cons, ih, List.replicate_succ]; rfl
def pdI (n : Nat) (j : Nat) : St := ⟨[(4, .c (.one (.sl 500 0 1 (1 + padZ n + j)))), (5, .c (.one (.u64 (bcN n)))), (6, .c (.one (.num (7 - (j : Int)))))], [(500, ⟨.arr UInt8 u8L (padP n j), true⟩)]⟩
set_option maxRecDepth 100000 in
theorem padding_tri (n : Nat) (hn : n ≤ 1000000000) : Tri Tryd.prog 23 [.one (.num (n : Nat))] [] (.c (.one (.str (padP n 8)))) [] := by
  have m1 : ((n : Nat) : Int).tmod 64 = ((n % 64 : Nat) : Int) := by rw [show (64 : Int) = ((64 : Nat) : Int) from rfl, ← Int.ofNat_tmod]
  have w1 : IntKind.i64.wrap (119 - ((n % 64 : Nat) : Int)) = ((119 - n % 64 : Nat) : Int) := by rw [IntKind.wrap_i64]; omega
  have m2 : ((119 - n % 64 : Nat) : Int).tmod 64 = ((padZ n : Nat) : Int) := by rw [show (64 : Int) = ((64 : Nat) : Int) from rfl, ← Int.ofNat_tmod]; rfl
  have hz : padZ n < 64 := Nat.mod_lt _ (by decide)
  have w2 : IntKind.i64.wrap (1 + ((padZ n : Nat) : Int)) = ((1 + padZ n : Nat) : Int) := by rw [IntKind.wrap_i64]; omega
  have w3 : IntKind.i64.wrap (9 + ((padZ n : Nat) : Int)) = ((9 + padZ n : Nat) : Int) := by rw [IntKind.wrap_i64]; omega
  have hdr : (List.replicate (1 + padZ n) (AV.u8 0)).drop 1 = List.replicate (padZ n) (AV.u8 0) := by rw [List.drop_replicate, Nat.add_sub_cancel_left]
  have hbc : by64 ((n : Nat) : Int) * 8 = bcN n := rfl
  refine tri_of (envOf_ok ga0_ok 35) Tryd.func23 rfl rfl (rs := [.tmp 2]) rfl rfl (by simp [envOf]) rfl [] ?_
  simp only [envOf, ga0, m1, w1, m2, w2, w3, hdr, hbc, List.length_replicate, go_sem, reduceCtorEq, ↓reduceIte, Nat.reduceAdd, Nat.reduceMul, Nat.reduceSub, Nat.reduceEqDiff, Nat.reduceLT, Nat.reduceBEq, Nat.reduceBNe, Nat.reduceLeDiff, Int.reduceLE, Int.reduceLT, Int.reduceToNat, Int.reduceEq, Int.reduceAdd, UInt8.reduceToNat, UInt32.reduceToNat, UInt64.reduceToNat, UInt8.reduceOfNat, UInt32.reduceOfNat, UInt64.reduceOfNat, Fin.isValue, Int.reduceSub, Int.reduceMul, Int.reduceNeg, Int.reduceMod, Int.reduceDiv, Int.reduceTDiv, Int.reduceTMod, Int.reduceBEq, Int.reduceBNe, Nat.reduceDiv, Nat.reducePow]
  repeat' apply And.intro
  all_goals first
    | omega
    | rfl
    | skip
  refine loop_inv (envOf_ok ga0_ok 35) (pdI n) (fun j => j ≤ 8) (fun j => 8 - j) 0 [(500, 30032)] (by omega) ?_ ?_
  · simp only [pdI, padP, pad_flat, hdr, go_sem, reduceCtorEq, ↓reduceIte, Nat.reduceAdd, Nat.reduceMul, Nat.reduceSub, Nat.reduceEqDiff, Nat.reduceLT, Nat.reduceBEq, Nat.reduceBNe, Nat.reduceLeDiff, Int.reduceLE, Int.reduceLT, Int.reduceToNat, Int.reduceEq, Int.reduceAdd, UInt8.reduceToNat, UInt32.reduceToNat, UInt64.reduceToNat, UInt8.reduceOfNat, UInt32.reduceOfNat, UInt64.reduceOfNat, Fin.isValue, Int.reduceSub, Int.reduceMul, Int.reduceNeg, Int.reduceMod, Int.reduceDiv, Int.reduceTDiv, Int.reduceTMod, Int.reduceBEq, Int.reduceBNe, Nat.reduceDiv, Nat.reducePow]
    all_goals first
      | trivial
      | trace_state
  · intro j hj
    have hl := padP_len n j
    have i1 : IntKind.i64.wrap (7 - (j : Int) - 1) = 7 - ((j + 1 : Nat) : Int) := by rw [IntKind.wrap_i64]; omega
    simp only [pdI, envOf, ga0, go_sem, reduceCtorEq, ↓reduceIte, Nat.reduceAdd, Nat.reduceMul, Nat.reduceSub, Nat.reduceEqDiff, Nat.reduceLT, Nat.reduceBEq, Nat.reduceBNe, Nat.reduceLeDiff, Int.reduceLE, Int.reduceLT, Int.reduceToNat, Int.reduceEq, Int.reduceAdd, UInt8.reduceToNat, UInt32.reduceToNat, UInt64.reduceToNat, UInt8.reduceOfNat, UInt32.reduceOfNat, UInt64.reduceOfNat, Fin.isValue, Int.reduceSub, Int.reduceMul, Int.reduceNeg, Int.reduceMod, Int.reduceDiv, Int.reduceTDiv, Int.reduceTMod, Int.reduceBEq, Int.reduceBNe, Nat.reduceDiv, Nat.reducePow]
    refine br (fun hc => ?_) fun hc => ?_
    · have hc' := of_decide_eq_true hc
      have i2 : IntKind.i64.wrap (8 * (7 - (j : Int))) = ((8 * (7 - j) : Nat) : Int) := by rw [IntKind.wrap_i64]; omega
      have hs : 1 + padZ n + (j + 1) = 1 + padZ n + j + 1 := by omega
      simp only [hc, i1, i2, envOf, ga0, go_sem, reduceCtorEq, ↓reduceIte, Nat.reduceAdd, Nat.reduceMul, Nat.reduceSub, Nat.reduceEqDiff, Nat.reduceLT, Nat.reduceBEq, Nat.reduceBNe, Nat.reduceLeDiff, Int.reduceLE, Int.reduceLT, Int.reduceToNat, Int.reduceEq, Int.reduceAdd, UInt8.reduceToNat, UInt32.reduceToNat, UInt64.reduceToNat, UInt8.reduceOfNat, UInt32.reduceOfNat, UInt64.reduceOfNat, Fin.isValue, Int.reduceSub, Int.reduceMul, Int.reduceNeg, Int.reduceMod, Int.reduceDiv, Int.reduceTDiv, Int.reduceTMod, Int.reduceBEq, Int.reduceBNe, Nat.reduceDiv, Nat.reducePow]
      repeat' apply And.intro
      all_goals first
        | omega
        | rfl
        | skip
      refine again (j + 1) [(500, 90056)] (by omega) (by omega) ?_
      simp only [pdI, padP, hs, envOf, ga0, go_sem, reduceCtorEq, ↓reduceIte, Nat.reduceAdd, Nat.reduceMul, Nat.reduceSub, Nat.reduceEqDiff, Nat.reduceLT, Nat.reduceBEq, Nat.reduceBNe, Nat.reduceLeDiff, Int.reduceLE, Int.reduceLT, Int.reduceToNat, Int.reduceEq, Int.reduceAdd, UInt8.reduceToNat, UInt32.reduceToNat, UInt64.reduceToNat, UInt8.reduceOfNat, UInt32.reduceOfNat, UInt64.reduceOfNat, Fin.isValue, Int.reduceSub, Int.reduceMul, Int.reduceNeg, Int.reduceMod, Int.reduceDiv, Int.reduceTDiv, Int.reduceTMod, Int.reduceBEq, Int.reduceBNe, Nat.reduceDiv, Nat.reducePow]
      all_goals first
        | trivial
        | trace_state
    · obtain rfl : j = 8 := by have := of_decide_eq_false hc; omega
      have ht : (padP n 8).take (1 + padZ n + 8) = padP n 8 := List.take_of_length_le (by rw [hl]; exact Nat.le_refl _)
      simp only [hc, ht, envOf, ga0, go_sem, reduceCtorEq, ↓reduceIte, Nat.reduceAdd, Nat.reduceMul, Nat.reduceSub, Nat.reduceEqDiff, Nat.reduceLT, Nat.reduceBEq, Nat.reduceBNe, Nat.reduceLeDiff, Int.reduceLE, Int.reduceLT, Int.reduceToNat, Int.reduceEq, Int.reduceAdd, UInt8.reduceToNat, UInt32.reduceToNat, UInt64.reduceToNat, UInt8.reduceOfNat, UInt32.reduceOfNat, UInt64.reduceOfNat, Fin.isValue, Int.reduceSub, Int.reduceMul, Int.reduceNeg, Int.reduceMod, Int.reduceDiv, Int.reduceTDiv, Int.reduceTMod, Int.reduceBEq, Int.reduceBNe, Nat.reduceDiv, Nat.reducePow]
      repeat' apply And.intro
      all_goals first
        | omega
        | rfl
        | trace_state
def paddingC : Con := con0 fun args => match args with
  | [.one (.num z)] => some (.c (.one (.str (padP z.toNat 8))), [0 ≤ z, z ≤ 1000000000])
  | _ => none
theorem paddingC_ok : ConOk Tryd.prog 23 paddingC := con0_ok Tryd.func23 rfl rfl fun args res ob h hob => by
  split at h
  · rename_i z
    injection h with h; injection h with h1 h2; subst h1; subst h2
    have := padding_tri z.toNat (by have := hob.2.1; omega)
    rw [Int.toNat_of_nonneg hob.1] at this
    exact this
  · cases h
end Go.Proofs.YtdkogjjebbdngaaDoor
