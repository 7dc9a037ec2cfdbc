/-
  Layer 6: the tag is what the document says.
-/
import Derived.Test.YthgemadhhkocgaaSz
import Derived.Test.YthgemadhhkocgaaDf
import Derived.Test.YthgemadhhkocgaaRows
namespace Go.Proofs.Ythgemadhhkocgaa
open Go Go.RowKit
set_option maxHeartbeats 4000000
set_option linter.unusedSimpArgs false
set_option linter.unusedVariables false
def refTagC : Con := con0 fun args => match args with
  | [.one (.str k), .one (.str s)] => some (.c (.one (.str (tagL k s))), [k.length = 32, s.length ≤ 4096])
  | _ => none
theorem refTagC_ok : ConOk Try.prog 27 refTagC := con0_ok Try.func27 rfl rfl fun args res ob h hob => by
  split at h
  · injection h with h; injection h with h1 h2; subst h1; subst h2; exact refTag_tri _ _ hob.1 hob.2.1
  · cases h
def gd7 : Nat → Option Con := fun f => match f with
  | 26 => some tagC
  | 27 => some refTagC
  | 25 => some pawakeC
  | _ => none
theorem gd7_ok : GaOk Try.prog gd7 := fun f con h => by
  unfold gd7 at h
  split at h
  · injection h with h; subst h; exact tagC_ok
  · injection h with h; subst h; exact refTagC_ok
  · injection h with h; subst h; exact pawakeC_ok
  · cases h
set_option maxRecDepth 100000 in
theorem polytags_tri (k s : List UInt8) : Tri Try.prog 9 [.one (.str k), .one (.str s)] [] (.c (.one (.bo true))) [] := by
  refine tri_of (envOf_ok gd7_ok 45) Try.func9 rfl rfl (rs := [.tmp 4]) rfl rfl (by simp [envOf]) rfl [] ?_
  cases h1 : decide ((100 : Int) < k.length) with
  | true => simp only [envOf, gd7, tagC, refTagC, pawakeC, h1, go_sem, reduceCtorEq, ↓reduceIte, Nat.reduceAdd, Nat.reduceMul, Nat.reduceSub, Nat.reduceEqDiff, Nat.reduceLT, Nat.reduceBEq, Nat.reduceBNe, Nat.reduceLeDiff, Int.reduceLE, Int.reduceLT, Int.reduceToNat, Int.reduceEq, Int.reduceAdd, UInt8.reduceToNat, UInt32.reduceToNat, UInt64.reduceToNat, UInt8.reduceOfNat, UInt32.reduceOfNat, UInt64.reduceOfNat, Fin.isValue, Int.reduceSub, Int.reduceMul, Int.reduceNeg, Int.reduceMod, Int.reduceDiv, Int.reduceTDiv, Int.reduceTMod, Int.reduceBEq, Int.reduceBNe, Nat.reduceDiv, Nat.reducePow]
  | false =>
    cases h2 : decide ((1024 : Int) < s.length) with
    | true => simp only [envOf, gd7, tagC, refTagC, pawakeC, h1, h2, go_sem, reduceCtorEq, ↓reduceIte, Nat.reduceAdd, Nat.reduceMul, Nat.reduceSub, Nat.reduceEqDiff, Nat.reduceLT, Nat.reduceBEq, Nat.reduceBNe, Nat.reduceLeDiff, Int.reduceLE, Int.reduceLT, Int.reduceToNat, Int.reduceEq, Int.reduceAdd, UInt8.reduceToNat, UInt32.reduceToNat, UInt64.reduceToNat, UInt8.reduceOfNat, UInt32.reduceOfNat, UInt64.reduceOfNat, Fin.isValue, Int.reduceSub, Int.reduceMul, Int.reduceNeg, Int.reduceMod, Int.reduceDiv, Int.reduceTDiv, Int.reduceTMod, Int.reduceBEq, Int.reduceBNe, Nat.reduceDiv, Nat.reducePow]
    | false =>
      have hs : s.length ≤ 1024 := by have := of_decide_eq_false h2; omega
      cases hk : ((k.length : Int) == 32) with
      | false =>
        have hb : keyB k = false := hk
        simp only [envOf, gd7, tagC, refTagC, pawakeC, h1, h2, hk, hb, go_sem, reduceCtorEq, ↓reduceIte, Nat.reduceAdd, Nat.reduceMul, Nat.reduceSub, Nat.reduceEqDiff, Nat.reduceLT, Nat.reduceBEq, Nat.reduceBNe, Nat.reduceLeDiff, Int.reduceLE, Int.reduceLT, Int.reduceToNat, Int.reduceEq, Int.reduceAdd, UInt8.reduceToNat, UInt32.reduceToNat, UInt64.reduceToNat, UInt8.reduceOfNat, UInt32.reduceOfNat, UInt64.reduceOfNat, Fin.isValue, Int.reduceSub, Int.reduceMul, Int.reduceNeg, Int.reduceMod, Int.reduceDiv, Int.reduceTDiv, Int.reduceTMod, Int.reduceBEq, Int.reduceBNe, Nat.reduceDiv, Nat.reducePow]
        omega
      | true =>
        have hb : keyB k = true := hk
        have hk' : k.length = 32 := by have := eq_of_beq hk; omega
        simp only [envOf, gd7, tagC, refTagC, pawakeC, h1, h2, hk, hb, hk', go_sem, reduceCtorEq, ↓reduceIte, Nat.reduceAdd, Nat.reduceMul, Nat.reduceSub, Nat.reduceEqDiff, Nat.reduceLT, Nat.reduceBEq, Nat.reduceBNe, Nat.reduceLeDiff, Int.reduceLE, Int.reduceLT, Int.reduceToNat, Int.reduceEq, Int.reduceAdd, UInt8.reduceToNat, UInt32.reduceToNat, UInt64.reduceToNat, UInt8.reduceOfNat, UInt32.reduceOfNat, UInt64.reduceOfNat, Fin.isValue, Int.reduceSub, Int.reduceMul, Int.reduceNeg, Int.reduceMod, Int.reduceDiv, Int.reduceTDiv, Int.reduceTMod, Int.reduceBEq, Int.reduceBNe, Nat.reduceDiv, Nat.reducePow]
        exact ⟨by omega, by omega⟩
theorem polytags_law (a : ByteArray) (wa : a.size ≤ maxLen) (b : ByteArray) (wb : b.size ≤ maxLen) (w : World) :
    Calls Try.prog 9 #[.string a, .string b] w fun e w' => e = .returned (.bool true) ∧ Below w.heap.size w w' := by
  refine (tri_calls (polytags_tri a.data.toList b.data.toList) w (vals := [.string a, .string b]) ⟨rfl, rfl, trivial⟩).mono ?_
  rintro e w' ⟨u, r', rfl, hr, hb⟩
  exact ⟨by rw [show u = .bool true from hr], hb⟩
end Go.Proofs.Ythgemadhhkocgaa
