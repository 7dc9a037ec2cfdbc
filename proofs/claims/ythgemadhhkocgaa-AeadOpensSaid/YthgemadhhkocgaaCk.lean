/-
  Layer 5: a string turned, by definition.
-/
import Derived.Test.YthgemadhhkocgaaSz
import Derived.Test.YthgemadhhkocgaaCj
namespace Go.Proofs.Ythgemadhhkocgaa
open Go Go.RowKit
set_option maxHeartbeats 4000000
set_option linter.unusedSimpArgs false
set_option linter.unusedVariables false
def strm (k n : List UInt8) (c : UInt32) : Nat → List UInt8
  | 0 => []
  | q + 1 => strm k n c q ++ blockL k n (c + UInt32.ofNat q)
theorem blockL_len (k n : List UInt8) (c : UInt32) : (blockL k n c).length = 64 := stirL_len _ rfl
theorem strm_len (k n : List UInt8) (c : UInt32) : ∀ q, (strm k n c q).length = 64 * q
  | 0 => rfl
  | q + 1 => by rw [strm, List.length_append, strm_len, blockL_len]; omega
theorem strm_get (k n : List UInt8) (c : UInt32) : ∀ q i, i < 64 * q → (strm k n c q).getD i 0 = ksAt k n c i
  | 0, i, h => by omega
  | q + 1, i, h => by
    have hl := strm_len k n c q
    rw [strm, List.getD_eq_getElem?_getD]
    by_cases hi : i < 64 * q
    · rw [List.getElem?_append_left (by omega), ← List.getD_eq_getElem?_getD]
      exact strm_get k n c q i hi
    · rw [List.getElem?_append_right (by omega), ← List.getD_eq_getElem?_getD]
      unfold ksAt
      rw [hl, show i / 64 = q by omega, show i % 64 = i - 64 * q by omega]
      rfl
theorem outT_succ (k n : List UInt8) (c : UInt32) (s : List UInt8) (q i : Nat) (hi : i < s.length) (hq : s.length ≤ 64 * q) : (turnL k n c s).take (i + 1) = (turnL k n c s).take i ++ [s.getD i 0 ^^^ (strm k n c q).getD i 0] := by
  rw [strm_get k n c q i (by omega), List.take_add_one, turnL_getElem?, List.getElem?_eq_getElem hi, List.getD_eq_getElem?_getD, List.getElem?_eq_getElem hi]
  rfl
def outTInv (k n : List UInt8) (c : UInt32) (s : List UInt8) (q : Nat) : Nat → St
  | 0 => ⟨[(3, .c (.one (.str s))), (9, .c (.one (.str (strm k n c q)))), (10, .c (.one (.val (.slice none 0 0)))), (11, .c (.one (.num 0)))], []⟩
  | i + 1 => ⟨[(3, .c (.one (.str s))), (9, .c (.one (.str (strm k n c q)))), (10, .c (.one (.sl 500 0 1 (i + 1)))), (11, .c (.one (.num (i + 1 : Nat))))], [(500, ⟨.arr UInt8 u8L ((turnL k n c s).take (i + 1)), true⟩)]⟩
def strmInv (k n : List UInt8) (c : UInt32) (s : List UInt8) (q : Nat) : St := ⟨[(0, .c (.one (.str k))), (1, .c (.one (.str n))), (2, .c (.one (.u32 (c + UInt32.ofNat q)))), (3, .c (.one (.str s))), (9, .c (.one (.str (strm k n c q))))], []⟩
set_option maxRecDepth 100000 in
set_option maxHeartbeats 4000000 in
theorem refTurn_tri (k n : List UInt8) (c : UInt32) (s : List UInt8) (hk : k.length = 32) (hn : n.length = 12) (hs : s.length ≤ 4096) : Tri Try.prog 24 [.one (.str k), .one (.str n), .one (.u32 c), .one (.str s)] [] (.c (.one (.str (turnL k n c s)))) [] := by
  refine tri_of (envOf_ok ga9_ok 43) Try.func24 rfl rfl (rs := [.tmp 8]) rfl rfl (by simp [envOf]) rfl [] ?_
  simp only [envOf, ga9, blockRefC, go_sem, reduceCtorEq, ↓reduceIte, Nat.reduceAdd, Nat.reduceMul, Nat.reduceSub, Nat.reduceEqDiff, Nat.reduceLT, Nat.reduceBEq, Nat.reduceBNe, Nat.reduceLeDiff, Int.reduceLE, Int.reduceLT, Int.reduceToNat, Int.reduceEq, Int.reduceAdd, UInt8.reduceToNat, UInt32.reduceToNat, UInt64.reduceToNat, UInt8.reduceOfNat, UInt32.reduceOfNat, UInt64.reduceOfNat, Fin.isValue, Int.reduceSub, Int.reduceMul, Int.reduceNeg, Int.reduceMod, Int.reduceDiv, Int.reduceTDiv, Int.reduceTMod, Int.reduceBEq, Int.reduceBNe, Nat.reduceDiv, Nat.reducePow]
  refine loop_inv (envOf_ok ga9_ok 43) (strmInv k n c s) (fun q => 64 * q ≤ s.length + 63) (fun q => s.length + 64 - 64 * q) 0 [] (by omega) ?_ ?_
  · simp only [strmInv, strm, UInt32.reduceOfNat, UInt32.add_zero, go_sem, reduceCtorEq, ↓reduceIte, Nat.reduceAdd, Nat.reduceMul, Nat.reduceSub, Nat.reduceEqDiff, Nat.reduceLT, Nat.reduceBEq, Nat.reduceBNe, Nat.reduceLeDiff, Int.reduceLE, Int.reduceLT, Int.reduceToNat, Int.reduceEq, Int.reduceAdd, UInt8.reduceToNat, UInt32.reduceToNat, UInt64.reduceToNat, UInt8.reduceOfNat, UInt32.reduceOfNat, UInt64.reduceOfNat, Fin.isValue, Int.reduceSub, Int.reduceMul, Int.reduceNeg, Int.reduceMod, Int.reduceDiv, Int.reduceTDiv, Int.reduceTMod, Int.reduceBEq, Int.reduceBNe, Nat.reduceDiv, Nat.reducePow]
  · intro q hq
    have hl := strm_len k n c q
    simp only [strmInv, envOf, ga9, blockRefC, hl, go_sem, reduceCtorEq, ↓reduceIte, Nat.reduceAdd, Nat.reduceMul, Nat.reduceSub, Nat.reduceEqDiff, Nat.reduceLT, Nat.reduceBEq, Nat.reduceBNe, Nat.reduceLeDiff, Int.reduceLE, Int.reduceLT, Int.reduceToNat, Int.reduceEq, Int.reduceAdd, UInt8.reduceToNat, UInt32.reduceToNat, UInt64.reduceToNat, UInt8.reduceOfNat, UInt32.reduceOfNat, UInt64.reduceOfNat, Fin.isValue, Int.reduceSub, Int.reduceMul, Int.reduceNeg, Int.reduceMod, Int.reduceDiv, Int.reduceTDiv, Int.reduceTMod, Int.reduceBEq, Int.reduceBNe, Nat.reduceDiv, Nat.reducePow]
    refine br (fun h => ?_) fun h => ?_
    · have hlt : 64 * q < s.length := by have := of_decide_eq_true h; omega
      have hc : c + UInt32.ofNat q + 1 = c + UInt32.ofNat (q + 1) := by
        rw [UInt32.ofNat_add, UInt32.add_assoc]; rfl
      simp only [h, ga9, blockRefC, hc, hl, hk, hn, blockL_len, go_sem, reduceCtorEq, ↓reduceIte, Nat.reduceAdd, Nat.reduceMul, Nat.reduceSub, Nat.reduceEqDiff, Nat.reduceLT, Nat.reduceBEq, Nat.reduceBNe, Nat.reduceLeDiff, Int.reduceLE, Int.reduceLT, Int.reduceToNat, Int.reduceEq, Int.reduceAdd, UInt8.reduceToNat, UInt32.reduceToNat, UInt64.reduceToNat, UInt8.reduceOfNat, UInt32.reduceOfNat, UInt64.reduceOfNat, Fin.isValue, Int.reduceSub, Int.reduceMul, Int.reduceNeg, Int.reduceMod, Int.reduceDiv, Int.reduceTDiv, Int.reduceTMod, Int.reduceBEq, Int.reduceBNe, Nat.reduceDiv, Nat.reducePow]
      refine ⟨by omega, again (q + 1) [] (by omega) (by omega) ?_⟩
      simp only [strmInv, strm, go_sem, reduceCtorEq, ↓reduceIte, Nat.reduceAdd, Nat.reduceMul, Nat.reduceSub, Nat.reduceEqDiff, Nat.reduceLT, Nat.reduceBEq, Nat.reduceBNe, Nat.reduceLeDiff, Int.reduceLE, Int.reduceLT, Int.reduceToNat, Int.reduceEq, Int.reduceAdd, UInt8.reduceToNat, UInt32.reduceToNat, UInt64.reduceToNat, UInt8.reduceOfNat, UInt32.reduceOfNat, UInt64.reduceOfNat, Fin.isValue, Int.reduceSub, Int.reduceMul, Int.reduceNeg, Int.reduceMod, Int.reduceDiv, Int.reduceTDiv, Int.reduceTMod, Int.reduceBEq, Int.reduceBNe, Nat.reduceDiv, Nat.reducePow]
    · have hge : s.length ≤ 64 * q := by have := of_decide_eq_false h; omega
      simp only [h, ga9, blockRefC, hl, go_sem, reduceCtorEq, ↓reduceIte, Nat.reduceAdd, Nat.reduceMul, Nat.reduceSub, Nat.reduceEqDiff, Nat.reduceLT, Nat.reduceBEq, Nat.reduceBNe, Nat.reduceLeDiff, Int.reduceLE, Int.reduceLT, Int.reduceToNat, Int.reduceEq, Int.reduceAdd, UInt8.reduceToNat, UInt32.reduceToNat, UInt64.reduceToNat, UInt8.reduceOfNat, UInt32.reduceOfNat, UInt64.reduceOfNat, Fin.isValue, Int.reduceSub, Int.reduceMul, Int.reduceNeg, Int.reduceMod, Int.reduceDiv, Int.reduceTDiv, Int.reduceTMod, Int.reduceBEq, Int.reduceBNe, Nat.reduceDiv, Nat.reducePow]
      refine loop_inv (envOf_ok ga9_ok 43) (outTInv k n c s q) (fun i => i ≤ s.length) (fun i => s.length - i) 0 [] (by omega) ?_ ?_
      · simp only [outTInv, go_sem, reduceCtorEq, ↓reduceIte, Nat.reduceAdd, Nat.reduceMul, Nat.reduceSub, Nat.reduceEqDiff, Nat.reduceLT, Nat.reduceBEq, Nat.reduceBNe, Nat.reduceLeDiff, Int.reduceLE, Int.reduceLT, Int.reduceToNat, Int.reduceEq, Int.reduceAdd, UInt8.reduceToNat, UInt32.reduceToNat, UInt64.reduceToNat, UInt8.reduceOfNat, UInt32.reduceOfNat, UInt64.reduceOfNat, Fin.isValue, Int.reduceSub, Int.reduceMul, Int.reduceNeg, Int.reduceMod, Int.reduceDiv, Int.reduceTDiv, Int.reduceTMod, Int.reduceBEq, Int.reduceBNe, Nat.reduceDiv, Nat.reducePow]
      · intro i hi
        have hx := outT_succ k n c s q i
        have hlt := turnL_len k n c s
        rcases i with _ | i
        · simp only [outTInv, envOf, ga9, go_sem, reduceCtorEq, ↓reduceIte, Nat.reduceAdd, Nat.reduceMul, Nat.reduceSub, Nat.reduceEqDiff, Nat.reduceLT, Nat.reduceBEq, Nat.reduceBNe, Nat.reduceLeDiff, Int.reduceLE, Int.reduceLT, Int.reduceToNat, Int.reduceEq, Int.reduceAdd, UInt8.reduceToNat, UInt32.reduceToNat, UInt64.reduceToNat, UInt8.reduceOfNat, UInt32.reduceOfNat, UInt64.reduceOfNat, Fin.isValue, Int.reduceSub, Int.reduceMul, Int.reduceNeg, Int.reduceMod, Int.reduceDiv, Int.reduceTDiv, Int.reduceTMod, Int.reduceBEq, Int.reduceBNe, Nat.reduceDiv, Nat.reducePow]
          refine br (fun h2 => ?_) fun h2 => ?_
          · have h2' : 0 < s.length := by have := of_decide_eq_true h2; omega
            have hx := hx h2' hge
            simp only [Nat.zero_add, List.take_zero, List.nil_append] at hx
            simp only [h2, ga9, hl, go_sem, reduceCtorEq, ↓reduceIte, Nat.reduceAdd, Nat.reduceMul, Nat.reduceSub, Nat.reduceEqDiff, Nat.reduceLT, Nat.reduceBEq, Nat.reduceBNe, Nat.reduceLeDiff, Int.reduceLE, Int.reduceLT, Int.reduceToNat, Int.reduceEq, Int.reduceAdd, UInt8.reduceToNat, UInt32.reduceToNat, UInt64.reduceToNat, UInt8.reduceOfNat, UInt32.reduceOfNat, UInt64.reduceOfNat, Fin.isValue, Int.reduceSub, Int.reduceMul, Int.reduceNeg, Int.reduceMod, Int.reduceDiv, Int.reduceTDiv, Int.reduceTMod, Int.reduceBEq, Int.reduceBNe, Nat.reduceDiv, Nat.reducePow]
            refine ⟨by omega, by omega, rfl, again 1 [(500, 100072)] (by omega) (by omega) ?_⟩
            simp only [outTInv, hx, go_sem, reduceCtorEq, ↓reduceIte, Nat.reduceAdd, Nat.reduceMul, Nat.reduceSub, Nat.reduceEqDiff, Nat.reduceLT, Nat.reduceBEq, Nat.reduceBNe, Nat.reduceLeDiff, Int.reduceLE, Int.reduceLT, Int.reduceToNat, Int.reduceEq, Int.reduceAdd, UInt8.reduceToNat, UInt32.reduceToNat, UInt64.reduceToNat, UInt8.reduceOfNat, UInt32.reduceOfNat, UInt64.reduceOfNat, Fin.isValue, Int.reduceSub, Int.reduceMul, Int.reduceNeg, Int.reduceMod, Int.reduceDiv, Int.reduceTDiv, Int.reduceTMod, Int.reduceBEq, Int.reduceBNe, Nat.reduceDiv, Nat.reducePow]
          · have hs0 : s = [] := by
              have := of_decide_eq_false h2
              exact List.eq_nil_of_length_eq_zero (by omega)
            subst hs0
            simp only [h2, ga9, hl, go_sem, reduceCtorEq, ↓reduceIte, Nat.reduceAdd, Nat.reduceMul, Nat.reduceSub, Nat.reduceEqDiff, Nat.reduceLT, Nat.reduceBEq, Nat.reduceBNe, Nat.reduceLeDiff, Int.reduceLE, Int.reduceLT, Int.reduceToNat, Int.reduceEq, Int.reduceAdd, UInt8.reduceToNat, UInt32.reduceToNat, UInt64.reduceToNat, UInt8.reduceOfNat, UInt32.reduceOfNat, UInt64.reduceOfNat, Fin.isValue, Int.reduceSub, Int.reduceMul, Int.reduceNeg, Int.reduceMod, Int.reduceDiv, Int.reduceTDiv, Int.reduceTMod, Int.reduceBEq, Int.reduceBNe, Nat.reduceDiv, Nat.reducePow]
            all_goals rfl
        · simp only [outTInv, envOf, ga9, go_sem, reduceCtorEq, ↓reduceIte, Nat.reduceAdd, Nat.reduceMul, Nat.reduceSub, Nat.reduceEqDiff, Nat.reduceLT, Nat.reduceBEq, Nat.reduceBNe, Nat.reduceLeDiff, Int.reduceLE, Int.reduceLT, Int.reduceToNat, Int.reduceEq, Int.reduceAdd, UInt8.reduceToNat, UInt32.reduceToNat, UInt64.reduceToNat, UInt8.reduceOfNat, UInt32.reduceOfNat, UInt64.reduceOfNat, Fin.isValue, Int.reduceSub, Int.reduceMul, Int.reduceNeg, Int.reduceMod, Int.reduceDiv, Int.reduceTDiv, Int.reduceTMod, Int.reduceBEq, Int.reduceBNe, Nat.reduceDiv, Nat.reducePow]
          have hw : IntKind.i64.wrap (((i + 1 : Nat) : Int) + 1) = ((i + 1 + 1 : Nat) : Int) := by rw [IntKind.wrap_i64]; omega
          refine br (fun h2 => ?_) fun h2 => ?_
          · have h2' : i + 1 < s.length := by have := of_decide_eq_true h2; omega
            have hx := hx h2' hge
            simp only [h2, ga9, hl, hw, go_sem, reduceCtorEq, ↓reduceIte, Nat.reduceAdd, Nat.reduceMul, Nat.reduceSub, Nat.reduceEqDiff, Nat.reduceLT, Nat.reduceBEq, Nat.reduceBNe, Nat.reduceLeDiff, Int.reduceLE, Int.reduceLT, Int.reduceToNat, Int.reduceEq, Int.reduceAdd, UInt8.reduceToNat, UInt32.reduceToNat, UInt64.reduceToNat, UInt8.reduceOfNat, UInt32.reduceOfNat, UInt64.reduceOfNat, Fin.isValue, Int.reduceSub, Int.reduceMul, Int.reduceNeg, Int.reduceMod, Int.reduceDiv, Int.reduceTDiv, Int.reduceTMod, Int.reduceBEq, Int.reduceBNe, Nat.reduceDiv, Nat.reducePow]
            refine ⟨⟨by omega, by omega⟩, ⟨by omega, by omega⟩, ⟨by rw [List.length_take]; omega, by omega, by omega⟩, rfl, again (i + 1 + 1) [(500, 100072)] (by omega) (by omega) ?_⟩
            simp only [outTInv, hx, go_sem, reduceCtorEq, ↓reduceIte, Nat.reduceAdd, Nat.reduceMul, Nat.reduceSub, Nat.reduceEqDiff, Nat.reduceLT, Nat.reduceBEq, Nat.reduceBNe, Nat.reduceLeDiff, Int.reduceLE, Int.reduceLT, Int.reduceToNat, Int.reduceEq, Int.reduceAdd, UInt8.reduceToNat, UInt32.reduceToNat, UInt64.reduceToNat, UInt8.reduceOfNat, UInt32.reduceOfNat, UInt64.reduceOfNat, Fin.isValue, Int.reduceSub, Int.reduceMul, Int.reduceNeg, Int.reduceMod, Int.reduceDiv, Int.reduceTDiv, Int.reduceTMod, Int.reduceBEq, Int.reduceBNe, Nat.reduceDiv, Nat.reducePow]
          · have hi' : i + 1 = s.length := by have := of_decide_eq_false h2; omega
            have ht : ((turnL k n c s).take (i + 1)).take (i + 1) = turnL k n c s := by
              rw [List.take_take, Nat.min_self, List.take_of_length_le (by omega)]
            have hlen : ((turnL k n c s).take (i + 1)).length = i + 1 := by rw [List.length_take]; omega
            simp only [h2, ga9, hl, ht, hlen, go_sem, reduceCtorEq, ↓reduceIte, Nat.reduceAdd, Nat.reduceMul, Nat.reduceSub, Nat.reduceEqDiff, Nat.reduceLT, Nat.reduceBEq, Nat.reduceBNe, Nat.reduceLeDiff, Int.reduceLE, Int.reduceLT, Int.reduceToNat, Int.reduceEq, Int.reduceAdd, UInt8.reduceToNat, UInt32.reduceToNat, UInt64.reduceToNat, UInt8.reduceOfNat, UInt32.reduceOfNat, UInt64.reduceOfNat, Fin.isValue, Int.reduceSub, Int.reduceMul, Int.reduceNeg, Int.reduceMod, Int.reduceDiv, Int.reduceTDiv, Int.reduceTMod, Int.reduceBEq, Int.reduceBNe, Nat.reduceDiv, Nat.reducePow]
def turnRefC : Con := con0 fun args => match args with
  | [.one (.str k), .one (.str n), .one (.u32 c), .one (.str s)] => some (.c (.one (.str (turnL k n c s))), [k.length = 32, n.length = 12, s.length ≤ 4096])
  | _ => none
theorem turnRefC_ok : ConOk Try.prog 24 turnRefC := con0_ok Try.func24 rfl rfl fun args res ob h hob => by
  split at h
  · injection h with h; injection h with h1 h2; subst h1; subst h2; exact refTurn_tri _ _ _ _ hob.1 hob.2.1 hob.2.2.1
  · cases h
def gaa : Nat → Option Con := fun f => match f with
  | 23 => some turnC
  | 24 => some turnRefC
  | 20 => some awakeC
  | _ => none
theorem gaa_ok : GaOk Try.prog gaa := fun f con h => by
  unfold gaa at h
  split at h
  · injection h with h; subst h; exact turnC_ok
  · injection h with h; subst h; exact turnRefC_ok
  · injection h with h; subst h; exact awakeC_ok
  · cases h
set_option maxRecDepth 100000 in
theorem turns_tri (k n : List UInt8) (c : UInt32) (s : List UInt8) : Tri Try.prog 5 [.one (.str k), .one (.str n), .one (.u32 c), .one (.str s)] [] (.c (.one (.bo true))) [] := by
  refine tri_of (envOf_ok gaa_ok 63) Try.func5 rfl rfl (rs := [.tmp 8]) rfl rfl (by simp [envOf]) rfl [] ?_
  cases h1 : decide ((100 : Int) < k.length) with
  | true => simp only [envOf, gaa, turnC, turnRefC, awakeC, h1, go_sem, reduceCtorEq, ↓reduceIte, Nat.reduceAdd, Nat.reduceMul, Nat.reduceSub, Nat.reduceEqDiff, Nat.reduceLT, Nat.reduceBEq, Nat.reduceBNe, Nat.reduceLeDiff, Int.reduceLE, Int.reduceLT, Int.reduceToNat, Int.reduceEq, Int.reduceAdd, UInt8.reduceToNat, UInt32.reduceToNat, UInt64.reduceToNat, UInt8.reduceOfNat, UInt32.reduceOfNat, UInt64.reduceOfNat, Fin.isValue, Int.reduceSub, Int.reduceMul, Int.reduceNeg, Int.reduceMod, Int.reduceDiv, Int.reduceTDiv, Int.reduceTMod, Int.reduceBEq, Int.reduceBNe, Nat.reduceDiv, Nat.reducePow]
  | false =>
    cases h2 : decide ((100 : Int) < n.length) with
    | true => simp only [envOf, gaa, turnC, turnRefC, awakeC, h1, h2, go_sem, reduceCtorEq, ↓reduceIte, Nat.reduceAdd, Nat.reduceMul, Nat.reduceSub, Nat.reduceEqDiff, Nat.reduceLT, Nat.reduceBEq, Nat.reduceBNe, Nat.reduceLeDiff, Int.reduceLE, Int.reduceLT, Int.reduceToNat, Int.reduceEq, Int.reduceAdd, UInt8.reduceToNat, UInt32.reduceToNat, UInt64.reduceToNat, UInt8.reduceOfNat, UInt32.reduceOfNat, UInt64.reduceOfNat, Fin.isValue, Int.reduceSub, Int.reduceMul, Int.reduceNeg, Int.reduceMod, Int.reduceDiv, Int.reduceTDiv, Int.reduceTMod, Int.reduceBEq, Int.reduceBNe, Nat.reduceDiv, Nat.reducePow]
    | false =>
      cases h3 : decide ((1024 : Int) < s.length) with
      | true => simp only [envOf, gaa, turnC, turnRefC, awakeC, h1, h2, h3, go_sem, reduceCtorEq, ↓reduceIte, Nat.reduceAdd, Nat.reduceMul, Nat.reduceSub, Nat.reduceEqDiff, Nat.reduceLT, Nat.reduceBEq, Nat.reduceBNe, Nat.reduceLeDiff, Int.reduceLE, Int.reduceLT, Int.reduceToNat, Int.reduceEq, Int.reduceAdd, UInt8.reduceToNat, UInt32.reduceToNat, UInt64.reduceToNat, UInt8.reduceOfNat, UInt32.reduceOfNat, UInt64.reduceOfNat, Fin.isValue, Int.reduceSub, Int.reduceMul, Int.reduceNeg, Int.reduceMod, Int.reduceDiv, Int.reduceTDiv, Int.reduceTMod, Int.reduceBEq, Int.reduceBNe, Nat.reduceDiv, Nat.reducePow]
      | false =>
        have hs : s.length ≤ 1024 := by have := of_decide_eq_false h3; omega
        cases hk : ((k.length : Int) == 32) with
        | false =>
          have hr : rightB k n = false := by simp only [rightB, hk, Bool.false_and]
          simp only [envOf, gaa, turnC, turnRefC, awakeC, h1, h2, h3, hk, hr, go_sem, reduceCtorEq, ↓reduceIte, Nat.reduceAdd, Nat.reduceMul, Nat.reduceSub, Nat.reduceEqDiff, Nat.reduceLT, Nat.reduceBEq, Nat.reduceBNe, Nat.reduceLeDiff, Int.reduceLE, Int.reduceLT, Int.reduceToNat, Int.reduceEq, Int.reduceAdd, UInt8.reduceToNat, UInt32.reduceToNat, UInt64.reduceToNat, UInt8.reduceOfNat, UInt32.reduceOfNat, UInt64.reduceOfNat, Fin.isValue, Int.reduceSub, Int.reduceMul, Int.reduceNeg, Int.reduceMod, Int.reduceDiv, Int.reduceTDiv, Int.reduceTMod, Int.reduceBEq, Int.reduceBNe, Nat.reduceDiv, Nat.reducePow]
          omega
        | true =>
          cases hn : ((n.length : Int) == 12) with
          | false =>
            have hr : rightB k n = false := by simp only [rightB, hk, hn, Bool.and_false]
            simp only [envOf, gaa, turnC, turnRefC, awakeC, h1, h2, h3, hk, hn, hr, go_sem, reduceCtorEq, ↓reduceIte, Nat.reduceAdd, Nat.reduceMul, Nat.reduceSub, Nat.reduceEqDiff, Nat.reduceLT, Nat.reduceBEq, Nat.reduceBNe, Nat.reduceLeDiff, Int.reduceLE, Int.reduceLT, Int.reduceToNat, Int.reduceEq, Int.reduceAdd, UInt8.reduceToNat, UInt32.reduceToNat, UInt64.reduceToNat, UInt8.reduceOfNat, UInt32.reduceOfNat, UInt64.reduceOfNat, Fin.isValue, Int.reduceSub, Int.reduceMul, Int.reduceNeg, Int.reduceMod, Int.reduceDiv, Int.reduceTDiv, Int.reduceTMod, Int.reduceBEq, Int.reduceBNe, Nat.reduceDiv, Nat.reducePow]
            omega
          | true =>
            have hr : rightB k n = true := by simp only [rightB, hk, hn]; rfl
            have hh := (rightB_iff k n).1 hr
            simp only [envOf, gaa, turnC, turnRefC, awakeC, h1, h2, h3, hk, hn, hr, hh.1, hh.2, go_sem, reduceCtorEq, ↓reduceIte, Nat.reduceAdd, Nat.reduceMul, Nat.reduceSub, Nat.reduceEqDiff, Nat.reduceLT, Nat.reduceBEq, Nat.reduceBNe, Nat.reduceLeDiff, Int.reduceLE, Int.reduceLT, Int.reduceToNat, Int.reduceEq, Int.reduceAdd, UInt8.reduceToNat, UInt32.reduceToNat, UInt64.reduceToNat, UInt8.reduceOfNat, UInt32.reduceOfNat, UInt64.reduceOfNat, Fin.isValue, Int.reduceSub, Int.reduceMul, Int.reduceNeg, Int.reduceMod, Int.reduceDiv, Int.reduceTDiv, Int.reduceTMod, Int.reduceBEq, Int.reduceBNe, Nat.reduceDiv, Nat.reducePow]
            exact ⟨by omega, by omega⟩
theorem turns_law (a : ByteArray) (wa : a.size ≤ maxLen) (b : ByteArray) (wb : b.size ≤ maxLen) (c : Int) (wc : (Lit.int .u32 c).wf = true) (s : ByteArray) (ws : s.size ≤ maxLen) (w : World) :
    Calls Try.prog 5 #[.string a, .string b, .int .u32 c, .string s] w fun e w' => e = .returned (.bool true) ∧ Below w.heap.size w w' := by
  obtain ⟨x, rfl⟩ := u32_of_wf wc
  refine (tri_calls (turns_tri a.data.toList b.data.toList x s.data.toList) w (vals := [.string a, .string b, .int .u32 (x.toNat : Int), .string s]) ⟨rfl, rfl, rfl, rfl, trivial⟩).mono ?_
  rintro e w' ⟨u, r', rfl, hr, hb⟩
  exact ⟨by rw [show u = .bool true from hr], hb⟩
end Go.Proofs.Ythgemadhhkocgaa
