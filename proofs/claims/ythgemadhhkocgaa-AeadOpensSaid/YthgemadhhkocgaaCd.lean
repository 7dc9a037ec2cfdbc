/-
  Layer 5: the rounds.
-/
import Derived.Test.YthgemadhhkocgaaSz
import Derived.Test.YthgemadhhkocgaaCb
namespace Go.Proofs.Ythgemadhhkocgaa
open Go Go.RowKit
set_option linter.unusedSimpArgs false
set_option linter.unusedVariables false
def ga3 : Nat → Option Con := fun f => match f with
  | 18 => some quarterC
  | _ => none
theorem ga3_ok : GaOk Try.prog ga3 := fun f con h => by
  unfold ga3 at h
  split at h
  · injection h with h; subst h; exact quarterC_ok
  · cases h
def dround : List UInt32 → List UInt32
  | [x0, x1, x2, x3, x4, x5, x6, x7, x8, x9, xa, xb, xc, xd, xe, xf] =>
    let q0 := qr x0 x4 x8 xc
    let q1 := qr x1 x5 x9 xd
    let q2 := qr x2 x6 xa xe
    let q3 := qr x3 x7 xb xf
    let q4 := qr q0.1 q1.2.1 q2.2.2.1 q3.2.2.2
    let q5 := qr q1.1 q2.2.1 q3.2.2.1 q0.2.2.2
    let q6 := qr q2.1 q3.2.1 q0.2.2.1 q1.2.2.2
    let q7 := qr q3.1 q0.2.1 q1.2.2.1 q2.2.2.2
    [q4.1, q5.1, q6.1, q7.1, q7.2.1, q4.2.1, q5.2.1, q6.2.1, q6.2.2.1, q7.2.2.1, q4.2.2.1, q5.2.2.1, q5.2.2.2, q6.2.2.2, q7.2.2.2, q4.2.2.2]
  | l => l
def dtimes : Nat → List UInt32 → List UInt32
  | 0, l => l
  | n + 1, l => dround (dtimes n l)
theorem dround_len : ∀ (l : List UInt32), l.length = 16 → (dround l).length = 16
  | [x0, x1, x2, x3, x4, x5, x6, x7, x8, x9, xa, xb, xc, xd, xe, xf], _ => rfl
theorem dtimes_len (l : List UInt32) (h : l.length = 16) : ∀ n, (dtimes n l).length = 16
  | 0 => h
  | n + 1 => dround_len _ (dtimes_len l h n)
theorem split16 (l : List UInt32) (hl : l.length = 16) : ∃ x0 x1 x2 x3 x4 x5 x6 x7 x8 x9 xa xb xc xd xe xf, l = [x0, x1, x2, x3, x4, x5, x6, x7, x8, x9, xa, xb, xc, xd, xe, xf] := by
  match l, hl with
  | [x0, x1, x2, x3, x4, x5, x6, x7, x8, x9, xa, xb, xc, xd, xe, xf], _ => exact ⟨_, _, _, _, _, _, _, _, _, _, _, _, _, _, _, _, rfl⟩
def w4 (w : UInt32) : List UInt8 := [w.toUInt8, (shr32 w 8).toUInt8, (shr32 w 16).toUInt8, (shr32 w 24).toUInt8]
def outL : List UInt32 → List UInt32 → List UInt8
  | y :: ys, x :: xs => w4 (y + x) ++ outL ys xs
  | _, _ => []
def stirL (l : List UInt32) : List UInt8 := outL (dtimes 10 l) l
def stirInv (l : List UInt32) (x : Nat × List UInt32) : St := ⟨[(1, .c (.one (.ptr 10000 0 0 0))), (2, .c (.one (.str []))), (3, .c (.one (.ptr 20008 0 0 0))), (13, .c (.one (.num x.1)))], [(10000, ⟨.cells 1 (l.map .u32), true⟩), (20008, ⟨.cells 1 (x.2.map .u32), true⟩)]⟩
set_option maxRecDepth 100000 in
set_option maxHeartbeats 4000000 in
theorem stir_tri (l : List UInt32) (hl : l.length = 16) : Tri Try.prog 36 [.agg (l.map .u32)] [] (.c (.one (.str (stirL l)))) [] := by
  obtain ⟨x0, x1, x2, x3, x4, x5, x6, x7, x8, x9, xa, xb, xc, xd, xe, xf, rfl⟩ := split16 l hl
  refine tri_of (envOf_ok ga3_ok 122) Try.func36 rfl rfl (rs := [.tmp 2]) rfl rfl (by simp [envOf]) rfl [] ?_
  simp only [envOf, ga3, quarterC, go_sem, reduceCtorEq, ↓reduceIte, Nat.reduceAdd, Nat.reduceMul, Nat.reduceSub, Nat.reduceEqDiff, Nat.reduceLT, Nat.reduceBEq, Nat.reduceBNe, Nat.reduceLeDiff, Int.reduceLE, Int.reduceLT, Int.reduceToNat, Int.reduceEq, Int.reduceAdd, UInt8.reduceToNat, UInt32.reduceToNat, UInt64.reduceToNat, UInt8.reduceOfNat, UInt32.reduceOfNat, UInt64.reduceOfNat, Fin.isValue, Int.reduceSub, Int.reduceMul, Int.reduceNeg, Int.reduceMod, Int.reduceDiv, Int.reduceTDiv, Int.reduceTMod, Int.reduceBEq, Int.reduceBNe, Nat.reduceDiv, Nat.reducePow]
  refine loop_inv (envOf_ok ga3_ok 122) (stirInv [x0, x1, x2, x3, x4, x5, x6, x7, x8, x9, xa, xb, xc, xd, xe, xf]) (fun x => x.1 ≤ 10 ∧ x.2 = dtimes x.1 [x0, x1, x2, x3, x4, x5, x6, x7, x8, x9, xa, xb, xc, xd, xe, xf]) (fun x => 10 - x.1) (0, [x0, x1, x2, x3, x4, x5, x6, x7, x8, x9, xa, xb, xc, xd, xe, xf]) [] ⟨by omega, rfl⟩ ?_ ?_
  · simp only [stirInv, go_sem, reduceCtorEq, ↓reduceIte, Nat.reduceAdd, Nat.reduceMul, Nat.reduceSub, Nat.reduceEqDiff, Nat.reduceLT, Nat.reduceBEq, Nat.reduceBNe, Nat.reduceLeDiff, Int.reduceLE, Int.reduceLT, Int.reduceToNat, Int.reduceEq, Int.reduceAdd, UInt8.reduceToNat, UInt32.reduceToNat, UInt64.reduceToNat, UInt8.reduceOfNat, UInt32.reduceOfNat, UInt64.reduceOfNat, Fin.isValue, Int.reduceSub, Int.reduceMul, Int.reduceNeg, Int.reduceMod, Int.reduceDiv, Int.reduceTDiv, Int.reduceTMod, Int.reduceBEq, Int.reduceBNe, Nat.reduceDiv, Nat.reducePow]
  · rintro ⟨j, vs⟩ ⟨hj, hv⟩
    simp only at hj hv
    have hv' : vs.length = 16 := by rw [hv]; exact dtimes_len _ hl _
    obtain ⟨y0, y1, y2, y3, y4, y5, y6, y7, y8, y9, ya, yb, yc, yd, ye, yf, rfl⟩ := split16 vs hv'
    simp only [stirInv, envOf, ga3, quarterC, go_sem, reduceCtorEq, ↓reduceIte, Nat.reduceAdd, Nat.reduceMul, Nat.reduceSub, Nat.reduceEqDiff, Nat.reduceLT, Nat.reduceBEq, Nat.reduceBNe, Nat.reduceLeDiff, Int.reduceLE, Int.reduceLT, Int.reduceToNat, Int.reduceEq, Int.reduceAdd, UInt8.reduceToNat, UInt32.reduceToNat, UInt64.reduceToNat, UInt8.reduceOfNat, UInt32.reduceOfNat, UInt64.reduceOfNat, Fin.isValue, Int.reduceSub, Int.reduceMul, Int.reduceNeg, Int.reduceMod, Int.reduceDiv, Int.reduceTDiv, Int.reduceTMod, Int.reduceBEq, Int.reduceBNe, Nat.reduceDiv, Nat.reducePow]
    refine br (fun h => ?_) fun h => ?_ <;> simp only [h, go_sem, reduceCtorEq, ↓reduceIte, Nat.reduceAdd, Nat.reduceMul, Nat.reduceSub, Nat.reduceEqDiff, Nat.reduceLT, Nat.reduceBEq, Nat.reduceBNe, Nat.reduceLeDiff, Int.reduceLE, Int.reduceLT, Int.reduceToNat, Int.reduceEq, Int.reduceAdd, UInt8.reduceToNat, UInt32.reduceToNat, UInt64.reduceToNat, UInt8.reduceOfNat, UInt32.reduceOfNat, UInt64.reduceOfNat, Fin.isValue, Int.reduceSub, Int.reduceMul, Int.reduceNeg, Int.reduceMod, Int.reduceDiv, Int.reduceTDiv, Int.reduceTMod, Int.reduceBEq, Int.reduceBNe, Nat.reduceDiv, Nat.reducePow]
    · have hj' : j + 1 ≤ 10 := by have := of_decide_eq_true h; omega
      have hw : IntKind.i64.wrap ((j : Int) + 1) = ((j + 1 : Nat) : Int) := by rw [IntKind.wrap_i64]; omega
      refine loop_rounds (envOf_ok ga3_ok 122) 5 ?_
      simp (maxSteps := 2000000) only [ga3, quarterC, go_sem, reduceCtorEq, ↓reduceIte, Nat.reduceAdd, Nat.reduceMul, Nat.reduceSub, Nat.reduceEqDiff, Nat.reduceLT, Nat.reduceBEq, Nat.reduceBNe, Nat.reduceLeDiff, Int.reduceLE, Int.reduceLT, Int.reduceToNat, Int.reduceEq, Int.reduceAdd, UInt8.reduceToNat, UInt32.reduceToNat, UInt64.reduceToNat, UInt8.reduceOfNat, UInt32.reduceOfNat, UInt64.reduceOfNat, Fin.isValue, Int.reduceSub, Int.reduceMul, Int.reduceNeg, Int.reduceMod, Int.reduceDiv, Int.reduceTDiv, Int.reduceTMod, Int.reduceBEq, Int.reduceBNe, Nat.reduceDiv, Nat.reducePow]
      repeat' apply And.intro
      rotate_right
      · refine loop_rounds (envOf_ok ga3_ok 122) 5 ?_
        simp (maxSteps := 2000000) only [ga3, quarterC, hw, go_sem, reduceCtorEq, ↓reduceIte, Nat.reduceAdd, Nat.reduceMul, Nat.reduceSub, Nat.reduceEqDiff, Nat.reduceLT, Nat.reduceBEq, Nat.reduceBNe, Nat.reduceLeDiff, Int.reduceLE, Int.reduceLT, Int.reduceToNat, Int.reduceEq, Int.reduceAdd, UInt8.reduceToNat, UInt32.reduceToNat, UInt64.reduceToNat, UInt8.reduceOfNat, UInt32.reduceOfNat, UInt64.reduceOfNat, Fin.isValue, Int.reduceSub, Int.reduceMul, Int.reduceNeg, Int.reduceMod, Int.reduceDiv, Int.reduceTDiv, Int.reduceTMod, Int.reduceBEq, Int.reduceBNe, Nat.reduceDiv, Nat.reducePow]
        repeat' apply And.intro
        rotate_right
        · refine again (j + 1, dround [y0, y1, y2, y3, y4, y5, y6, y7, y8, y9, ya, yb, yc, yd, ye, yf]) [] ⟨hj', ?_⟩ (by simp only; omega) ?_
          · simp only [dtimes, hv]
          · simp only [stirInv, dround, go_sem, reduceCtorEq, ↓reduceIte, Nat.reduceAdd, Nat.reduceMul, Nat.reduceSub, Nat.reduceEqDiff, Nat.reduceLT, Nat.reduceBEq, Nat.reduceBNe, Nat.reduceLeDiff, Int.reduceLE, Int.reduceLT, Int.reduceToNat, Int.reduceEq, Int.reduceAdd, UInt8.reduceToNat, UInt32.reduceToNat, UInt64.reduceToNat, UInt8.reduceOfNat, UInt32.reduceOfNat, UInt64.reduceOfNat, Fin.isValue, Int.reduceSub, Int.reduceMul, Int.reduceNeg, Int.reduceMod, Int.reduceDiv, Int.reduceTDiv, Int.reduceTMod, Int.reduceBEq, Int.reduceBNe, Nat.reduceDiv, Nat.reducePow]
        all_goals rfl
      all_goals rfl
    · have hj' : j = 10 := by have := of_decide_eq_false h; omega
      subst hj'
      refine loop_rounds (envOf_ok ga3_ok 122) 17 ?_
      simp (maxSteps := 2000000) only [ga3, quarterC, stirL, ← hv, outL, w4, go_sem, reduceCtorEq, ↓reduceIte, Nat.reduceAdd, Nat.reduceMul, Nat.reduceSub, Nat.reduceEqDiff, Nat.reduceLT, Nat.reduceBEq, Nat.reduceBNe, Nat.reduceLeDiff, Int.reduceLE, Int.reduceLT, Int.reduceToNat, Int.reduceEq, Int.reduceAdd, UInt8.reduceToNat, UInt32.reduceToNat, UInt64.reduceToNat, UInt8.reduceOfNat, UInt32.reduceOfNat, UInt64.reduceOfNat, Fin.isValue, Int.reduceSub, Int.reduceMul, Int.reduceNeg, Int.reduceMod, Int.reduceDiv, Int.reduceTDiv, Int.reduceTMod, Int.reduceBEq, Int.reduceBNe, Nat.reduceDiv, Nat.reducePow]
      repeat' apply And.intro
      all_goals rfl
def u32s : List AV → List UInt32
  | [] => []
  | .u32 y :: l => y :: u32s l
  | _ :: l => 0 :: u32s l
theorem u32s_map : ∀ (l : List UInt32), u32s (l.map .u32) = l
  | [] => rfl
  | x :: l => by rw [List.map_cons, u32s, u32s_map l]
theorem u32s_len : ∀ (l : List AV), (u32s l).length = l.length
  | [] => rfl
  | x :: l => by cases x <;> simp [u32s, u32s_len l]
def stirC : Con := con0 fun args => match args with
  | [.agg l] => some (.c (.one (.str (stirL (u32s l)))), [l.length = 16, l = (u32s l).map .u32])
  | _ => none
theorem stirC_ok : ConOk Try.prog 36 stirC := con0_ok Try.func36 rfl rfl fun args res ob h hob => by
  split at h
  · injection h with h; injection h with h1 h2; subst h1; subst h2
    have h1 := hob.1
    have e := hob.2.1
    have := stir_tri _ (by rw [u32s_len]; exact h1)
    rw [← e] at this
    exact this
  · cases h
end Go.Proofs.Ythgemadhhkocgaa
