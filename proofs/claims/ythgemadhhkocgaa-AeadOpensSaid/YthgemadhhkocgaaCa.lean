/-
  Layer 5: contracts of the small functions.
-/
import Derived.Test.YthgemadhhkocgaaSz
import Derived.Test.YthgemadhhkocgaaTy
namespace Go.Proofs.Ythgemadhhkocgaa
open Go Go.RowKit
set_option linter.unusedSimpArgs false
set_option linter.unusedVariables false

def leAt (l : List UInt8) (i : Nat) : UInt32 := (l.getD i 0).toUInt32 ||| shl32 (l.getD (i + 1) 0).toUInt32 8 ||| shl32 (l.getD (i + 2) 0).toUInt32 16 ||| shl32 (l.getD (i + 3) 0).toUInt32 24
def ga0 : Nat → Option Con := fun _ => none
theorem ga0_ok : GaOk Try.prog ga0 := fun f con h => by cases h
noncomputable def envOf (ga : Nat → Option Con) (nt : Nat) : Env := ⟨ty, ga, [], nt, [], []⟩
theorem envOf_ok {ga : Nat → Option Con} (h : GaOk Try.prog ga) (nt : Nat) : EnvOk Try.prog (envOf ga nt) := ⟨ty_ok, h, by first | rfl | decide⟩
theorem word_tri (s : List UInt8) (h : s.length = 4) : Tri Try.prog 53 [.one (.str s)] [] (.c (.one (.u32 (leAt s 0)))) [] := by
  refine tri_of (envOf_ok ga0_ok 21) Try.func53 rfl rfl (rs := [.tmp 2]) rfl rfl (by simp [envOf]) rfl [] ?_
  simp only [envOf, go_sem, reduceCtorEq, ↓reduceIte, Nat.reduceAdd, Nat.reduceMul, Nat.reduceSub, Nat.reduceEqDiff, Nat.reduceLT, Nat.reduceBEq, Nat.reduceBNe, Nat.reduceLeDiff, Int.reduceLE, Int.reduceLT, Int.reduceToNat, Int.reduceEq, Int.reduceAdd, UInt8.reduceToNat, UInt32.reduceToNat, UInt64.reduceToNat, UInt8.reduceOfNat, UInt32.reduceOfNat, UInt64.reduceOfNat, Fin.isValue, Int.reduceSub, Int.reduceMul, Int.reduceNeg, Int.reduceMod, Int.reduceDiv, Int.reduceTDiv, Int.reduceTMod, Int.reduceBEq, Int.reduceBNe, Nat.reduceDiv, Nat.reducePow]
  refine ⟨by omega, by omega, by omega, by omega, rfl, ?_⟩
  rfl
def wordC : Con := con0 fun args => match args with
  | [.one (.str s)] => some (.c (.one (.u32 (leAt s 0))), [s.length = 4])
  | _ => none
theorem wordC_ok : ConOk Try.prog 53 wordC := con0_ok Try.func53 rfl rfl fun args res ob h hob => by
  split at h
  · injection h with h; injection h with h1 h2; subst h1; subst h2; exact word_tri _ hob.1
  · cases h
def rot32 (x : UInt32) (k : Int) : UInt32 := shl32 x (by64 k &&& 31).toNat ||| shr32 x (32 - (by64 k &&& 31)).toNat
theorem rot_tri (x : UInt32) (k : Int) : Tri Try.prog 33 [.one (.u32 x), .one (.num k)] [] (.c (.one (.u32 (rot32 x k)))) [] := by
  refine tri_of (envOf_ok ga0_ok 17) Try.func33 rfl rfl (rs := [.tmp 4]) rfl rfl (by simp [envOf]) rfl [] ?_
  simp only [envOf, go_sem, reduceCtorEq, ↓reduceIte, Nat.reduceAdd, Nat.reduceMul, Nat.reduceSub, Nat.reduceEqDiff, Nat.reduceLT, Nat.reduceBEq, Nat.reduceBNe, Nat.reduceLeDiff, Int.reduceLE, Int.reduceLT, Int.reduceToNat, Int.reduceEq, Int.reduceAdd, UInt8.reduceToNat, UInt32.reduceToNat, UInt64.reduceToNat, UInt8.reduceOfNat, UInt32.reduceOfNat, UInt64.reduceOfNat, Fin.isValue, Int.reduceSub, Int.reduceMul, Int.reduceNeg, Int.reduceMod, Int.reduceDiv, Int.reduceTDiv, Int.reduceTMod, Int.reduceBEq, Int.reduceBNe, Nat.reduceDiv, Nat.reducePow]
  rfl
def rotC : Con := con0 fun args => match args with
  | [.one (.u32 x), .one (.num k)] => some (.c (.one (.u32 (rot32 x k))), [])
  | _ => none
theorem rotC_ok : ConOk Try.prog 33 rotC := con0_ok Try.func33 rfl rfl fun args res ob h hob => by
  split at h
  · injection h with h; injection h with h1 h2; subst h1; subst h2; exact rot_tri _ _
  · cases h
def ga1 : Nat → Option Con := fun f => match f with
  | 33 => some rotC
  | _ => none
theorem ga1_ok : GaOk Try.prog ga1 := fun f con h => by
  unfold ga1 at h
  split at h
  · injection h with h; subst h; exact rotC_ok
  · cases h
def qr (a b c d : UInt32) : UInt32 × UInt32 × UInt32 × UInt32 :=
  let a1 := a + b
  let d1 := rot32 (d ^^^ a1) 16
  let c1 := c + d1
  let b1 := rot32 (b ^^^ c1) 12
  let a2 := a1 + b1
  let d2 := rot32 (d1 ^^^ a2) 8
  let c2 := c1 + d2
  let b2 := rot32 (b1 ^^^ c2) 7
  (a2, b2, c2, d2)
set_option maxRecDepth 100000 in
theorem quarter_tri (a b c d : UInt32) : Tri Try.prog 18 [.one (.u32 a), .one (.u32 b), .one (.u32 c), .one (.u32 d)] [] (.tup [.one (.u32 (qr a b c d).1), .one (.u32 (qr a b c d).2.1), .one (.u32 (qr a b c d).2.2.1), .one (.u32 (qr a b c d).2.2.2)]) [] := by
  refine tri_of (envOf_ok ga1_ok 44) Try.func18 rfl rfl (rs := [.tmp 8, .tmp 9, .tmp 10, .tmp 11]) rfl rfl (by simp [envOf]) rfl [] ?_
  simp only [envOf, ga1, rotC, go_sem, reduceCtorEq, ↓reduceIte, Nat.reduceAdd, Nat.reduceMul, Nat.reduceSub, Nat.reduceEqDiff, Nat.reduceLT, Nat.reduceBEq, Nat.reduceBNe, Nat.reduceLeDiff, Int.reduceLE, Int.reduceLT, Int.reduceToNat, Int.reduceEq, Int.reduceAdd, UInt8.reduceToNat, UInt32.reduceToNat, UInt64.reduceToNat, UInt8.reduceOfNat, UInt32.reduceOfNat, UInt64.reduceOfNat, Fin.isValue, Int.reduceSub, Int.reduceMul, Int.reduceNeg, Int.reduceMod, Int.reduceDiv, Int.reduceTDiv, Int.reduceTMod, Int.reduceBEq, Int.reduceBNe, Nat.reduceDiv, Nat.reducePow]
  exact ⟨rfl, rfl, rfl, rfl⟩
def quarterC : Con := con0 fun args => match args with
  | [.one (.u32 a), .one (.u32 b), .one (.u32 c), .one (.u32 d)] => some (.tup [.one (.u32 (qr a b c d).1), .one (.u32 (qr a b c d).2.1), .one (.u32 (qr a b c d).2.2.1), .one (.u32 (qr a b c d).2.2.2)], [])
  | _ => none
theorem quarterC_ok : ConOk Try.prog 18 quarterC := con0_ok Try.func18 rfl rfl fun args res ob h hob => by
  split at h
  · injection h with h; injection h with h1 h2; subst h1; subst h2; exact quarter_tri _ _ _ _
  · cases h
def rightB (k n : List UInt8) : Bool := ((k.length : Int) == 32) && ((n.length : Int) == 12)
theorem rightB_iff (k n : List UInt8) : rightB k n = true ↔ k.length = 32 ∧ n.length = 12 := by
  simp only [rightB, Bool.and_eq_true, beq_iff_eq]
  omega
theorem right_tri (k n : List UInt8) : Tri Try.prog 35 [.one (.str k), .one (.str n)] [] (.c (.one (.bo (rightB k n)))) [] := by
  refine tri_of (envOf_ok ga0_ok 13) Try.func35 rfl rfl (rs := [.tmp 4]) rfl rfl (by simp [envOf]) rfl [] ?_
  simp only [envOf, go_sem, reduceCtorEq, ↓reduceIte, Nat.reduceAdd, Nat.reduceMul, Nat.reduceSub, Nat.reduceEqDiff, Nat.reduceLT, Nat.reduceBEq, Nat.reduceBNe, Nat.reduceLeDiff, Int.reduceLE, Int.reduceLT, Int.reduceToNat, Int.reduceEq, Int.reduceAdd, UInt8.reduceToNat, UInt32.reduceToNat, UInt64.reduceToNat, UInt8.reduceOfNat, UInt32.reduceOfNat, UInt64.reduceOfNat, Fin.isValue, Int.reduceSub, Int.reduceMul, Int.reduceNeg, Int.reduceMod, Int.reduceDiv, Int.reduceTDiv, Int.reduceTMod, Int.reduceBEq, Int.reduceBNe, Nat.reduceDiv, Nat.reducePow]
  refine br (fun h => ?_) fun h => ?_ <;> simp only [h, rightB, go_sem, reduceCtorEq, ↓reduceIte, Nat.reduceAdd, Nat.reduceMul, Nat.reduceSub, Nat.reduceEqDiff, Nat.reduceLT, Nat.reduceBEq, Nat.reduceBNe, Nat.reduceLeDiff, Int.reduceLE, Int.reduceLT, Int.reduceToNat, Int.reduceEq, Int.reduceAdd, UInt8.reduceToNat, UInt32.reduceToNat, UInt64.reduceToNat, UInt8.reduceOfNat, UInt32.reduceOfNat, UInt64.reduceOfNat, Fin.isValue, Int.reduceSub, Int.reduceMul, Int.reduceNeg, Int.reduceMod, Int.reduceDiv, Int.reduceTDiv, Int.reduceTMod, Int.reduceBEq, Int.reduceBNe, Nat.reduceDiv, Nat.reducePow]
def rightC : Con := con0 fun args => match args with
  | [.one (.str k), .one (.str n)] => some (.c (.one (.bo (rightB k n))), [])
  | _ => none
theorem rightC_ok : ConOk Try.prog 35 rightC := con0_ok Try.func35 rfl rfl fun args res ob h hob => by
  split at h
  · injection h with h; injection h with h1 h2; subst h1; subst h2; exact right_tri _ _
  · cases h
end Go.Proofs.Ythgemadhhkocgaa
