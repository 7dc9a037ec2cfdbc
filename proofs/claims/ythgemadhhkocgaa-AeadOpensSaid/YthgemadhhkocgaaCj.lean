/-
  Layer 5: the document's block and string; the laws of blocks and of strings.
-/
import Derived.Test.YthgemadhhkocgaaSz
import Derived.Test.YthgemadhhkocgaaCi
import Derived.Test.YthgemadhhkocgaaRows
namespace Go.Proofs.Ythgemadhhkocgaa
open Go Go.RowKit
set_option maxHeartbeats 4000000
set_option linter.unusedSimpArgs false
set_option linter.unusedVariables false
def blockRefC : Con := con0 fun args => match args with
  | [.one (.str k), .one (.str n), .one (.u32 c)] => some (.c (.one (.str (blockL k n c))), [k.length = 32, n.length = 12])
  | _ => none
theorem blockRefC_ok : ConOk Try.prog 22 blockRefC := con0_ok Try.func22 rfl rfl fun args res ob h hob => by
  split at h
  · injection h with h; injection h with h1 h2; subst h1; subst h2; exact refBlock_tri _ _ _ hob.1 hob.2.1
  · cases h
def ga9 : Nat → Option Con := fun f => match f with
  | 21 => some blockC
  | 23 => some turnC
  | 22 => some blockRefC
  | 20 => some awakeC
  | _ => none
theorem ga9_ok : GaOk Try.prog ga9 := fun f con h => by
  unfold ga9 at h
  split at h
  · injection h with h; subst h; exact blockC_ok
  · injection h with h; subst h; exact turnC_ok
  · injection h with h; subst h; exact blockRefC_ok
  · injection h with h; subst h; exact awakeC_ok
  · cases h
set_option maxRecDepth 100000 in
theorem blocks_tri (k n : List UInt8) (c : UInt32) : Tri Try.prog 4 [.one (.str k), .one (.str n), .one (.u32 c)] [] (.c (.one (.bo true))) [] := by
  refine tri_of (envOf_ok ga9_ok 54) Try.func4 rfl rfl (rs := [.tmp 6]) rfl rfl (by simp [envOf]) rfl [] ?_
  cases h1 : decide ((100 : Int) < k.length) with
  | true => simp only [envOf, ga9, blockC, awakeC, blockRefC, h1, go_sem, reduceCtorEq, ↓reduceIte, Nat.reduceAdd, Nat.reduceMul, Nat.reduceSub, Nat.reduceEqDiff, Nat.reduceLT, Nat.reduceBEq, Nat.reduceBNe, Nat.reduceLeDiff, Int.reduceLE, Int.reduceLT, Int.reduceToNat, Int.reduceEq, Int.reduceAdd, UInt8.reduceToNat, UInt32.reduceToNat, UInt64.reduceToNat, UInt8.reduceOfNat, UInt32.reduceOfNat, UInt64.reduceOfNat, Fin.isValue, Int.reduceSub, Int.reduceMul, Int.reduceNeg, Int.reduceMod, Int.reduceDiv, Int.reduceTDiv, Int.reduceTMod, Int.reduceBEq, Int.reduceBNe, Nat.reduceDiv, Nat.reducePow]
  | false =>
    cases h2 : decide ((100 : Int) < n.length) with
    | true => simp only [envOf, ga9, blockC, awakeC, blockRefC, h1, h2, go_sem, reduceCtorEq, ↓reduceIte, Nat.reduceAdd, Nat.reduceMul, Nat.reduceSub, Nat.reduceEqDiff, Nat.reduceLT, Nat.reduceBEq, Nat.reduceBNe, Nat.reduceLeDiff, Int.reduceLE, Int.reduceLT, Int.reduceToNat, Int.reduceEq, Int.reduceAdd, UInt8.reduceToNat, UInt32.reduceToNat, UInt64.reduceToNat, UInt8.reduceOfNat, UInt32.reduceOfNat, UInt64.reduceOfNat, Fin.isValue, Int.reduceSub, Int.reduceMul, Int.reduceNeg, Int.reduceMod, Int.reduceDiv, Int.reduceTDiv, Int.reduceTMod, Int.reduceBEq, Int.reduceBNe, Nat.reduceDiv, Nat.reducePow]
    | false =>
      cases hk : ((k.length : Int) == 32) with
      | false =>
        have hr : rightB k n = false := by simp only [rightB, hk, Bool.false_and]
        simp only [envOf, ga9, blockC, awakeC, blockRefC, h1, h2, hk, hr, go_sem, reduceCtorEq, ↓reduceIte, Nat.reduceAdd, Nat.reduceMul, Nat.reduceSub, Nat.reduceEqDiff, Nat.reduceLT, Nat.reduceBEq, Nat.reduceBNe, Nat.reduceLeDiff, Int.reduceLE, Int.reduceLT, Int.reduceToNat, Int.reduceEq, Int.reduceAdd, UInt8.reduceToNat, UInt32.reduceToNat, UInt64.reduceToNat, UInt8.reduceOfNat, UInt32.reduceOfNat, UInt64.reduceOfNat, Fin.isValue, Int.reduceSub, Int.reduceMul, Int.reduceNeg, Int.reduceMod, Int.reduceDiv, Int.reduceTDiv, Int.reduceTMod, Int.reduceBEq, Int.reduceBNe, Nat.reduceDiv, Nat.reducePow]
      | true =>
        cases hn : ((n.length : Int) == 12) with
        | false =>
          have hr : rightB k n = false := by simp only [rightB, hk, hn, Bool.and_false]
          simp only [envOf, ga9, blockC, awakeC, blockRefC, h1, h2, hk, hn, hr, go_sem, reduceCtorEq, ↓reduceIte, Nat.reduceAdd, Nat.reduceMul, Nat.reduceSub, Nat.reduceEqDiff, Nat.reduceLT, Nat.reduceBEq, Nat.reduceBNe, Nat.reduceLeDiff, Int.reduceLE, Int.reduceLT, Int.reduceToNat, Int.reduceEq, Int.reduceAdd, UInt8.reduceToNat, UInt32.reduceToNat, UInt64.reduceToNat, UInt8.reduceOfNat, UInt32.reduceOfNat, UInt64.reduceOfNat, Fin.isValue, Int.reduceSub, Int.reduceMul, Int.reduceNeg, Int.reduceMod, Int.reduceDiv, Int.reduceTDiv, Int.reduceTMod, Int.reduceBEq, Int.reduceBNe, Nat.reduceDiv, Nat.reducePow]
        | true =>
          have hr : rightB k n = true := by simp only [rightB, hk, hn]; rfl
          have hh := (rightB_iff k n).1 hr
          simp only [envOf, ga9, blockC, awakeC, blockRefC, h1, h2, hk, hn, hr, hh.1, hh.2, go_sem, reduceCtorEq, ↓reduceIte, Nat.reduceAdd, Nat.reduceMul, Nat.reduceSub, Nat.reduceEqDiff, Nat.reduceLT, Nat.reduceBEq, Nat.reduceBNe, Nat.reduceLeDiff, Int.reduceLE, Int.reduceLT, Int.reduceToNat, Int.reduceEq, Int.reduceAdd, UInt8.reduceToNat, UInt32.reduceToNat, UInt64.reduceToNat, UInt8.reduceOfNat, UInt32.reduceOfNat, UInt64.reduceOfNat, Fin.isValue, Int.reduceSub, Int.reduceMul, Int.reduceNeg, Int.reduceMod, Int.reduceDiv, Int.reduceTDiv, Int.reduceTMod, Int.reduceBEq, Int.reduceBNe, Nat.reduceDiv, Nat.reducePow]
theorem blocks_law (a : ByteArray) (wa : a.size ≤ maxLen) (b : ByteArray) (wb : b.size ≤ maxLen) (c : Int) (wc : (Lit.int .u32 c).wf = true) (w : World) :
    Calls Try.prog 4 #[.string a, .string b, .int .u32 c] w fun e w' => e = .returned (.bool true) ∧ Below w.heap.size w w' := by
  obtain ⟨x, rfl⟩ := u32_of_wf wc
  refine (tri_calls (blocks_tri a.data.toList b.data.toList x) w (vals := [.string a, .string b, .int .u32 (x.toNat : Int)]) ⟨rfl, rfl, rfl, trivial⟩).mono ?_
  rintro e w' ⟨u, r', rfl, hr, hb⟩
  exact ⟨by rw [show u = .bool true from hr], hb⟩
end Go.Proofs.Ythgemadhhkocgaa
