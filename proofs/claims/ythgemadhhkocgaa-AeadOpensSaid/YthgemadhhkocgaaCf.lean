/-
  Layer 5: the laws of a string turned.
-/
import Derived.Test.YthgemadhhkocgaaSz
import Derived.Test.YthgemadhhkocgaaCe
import Derived.Test.YthgemadhhkocgaaRows
namespace Go.Proofs.Ythgemadhhkocgaa
open Go Go.RowKit
set_option linter.unusedSimpArgs false
set_option linter.unusedVariables false
def blockC : Con := con0 fun args => match args with
  | [.one (.str k), .one (.str n), .one (.u32 c)] => some (.tup [.one (.str (if rightB k n = true then blockL k n c else [])), .one (.bo (rightB k n))], [])
  | _ => none
theorem blockC_ok : ConOk Try.prog 21 blockC := con0_ok Try.func21 rfl rfl fun args res ob h hob => by
  split at h
  · injection h with h; injection h with h1 h2; subst h1; subst h2; exact block_tri _ _ _
  · cases h
def turnC : Con := con0 fun args => match args with
  | [.one (.str k), .one (.str n), .one (.u32 c), .one (.str s)] => some (.tup [.one (.str (if rightB k n = true then turnL k n c s else [])), .one (.bo (rightB k n))], [s.length ≤ 1048576])
  | _ => none
theorem turnC_ok : ConOk Try.prog 23 turnC := con0_ok Try.func23 rfl rfl fun args res ob h hob => by
  split at h
  · injection h with h; injection h with h1 h2; subst h1; subst h2; exact turn_tri _ _ _ _ hob.1
  · cases h
def ga5 : Nat → Option Con := fun f => match f with
  | 18 => some quarterC
  | 21 => some blockC
  | 23 => some turnC
  | _ => none
theorem ga5_ok : GaOk Try.prog ga5 := fun f con h => by
  unfold ga5 at h
  split at h
  · injection h with h; subst h; exact quarterC_ok
  · injection h with h; subst h; exact blockC_ok
  · injection h with h; subst h; exact turnC_ok
  · cases h
set_option maxRecDepth 100000 in
theorem awake_tri : Tri Try.prog 20 [] [] (.c (.one (.bo true))) [] := by
  refine tri_of (envOf_ok ga5_ok 35) Try.func20 rfl rfl (rs := [.tmp 0]) rfl rfl (by simp [envOf]) rfl [] ?_
  have hq : qr 286331153 16909060 2609737539 19088743 = (3928658676, 3407673550, 1166100270, 1484899515) := by decide +kernel
  have hr : rightB [115, 104, 111, 114, 116] [] = false := by decide
  simp only [envOf, ga5, quarterC, blockC, turnC, hq, hr, go_sem, reduceCtorEq, ↓reduceIte, Nat.reduceAdd, Nat.reduceMul, Nat.reduceSub, Nat.reduceEqDiff, Nat.reduceLT, Nat.reduceBEq, Nat.reduceBNe, Nat.reduceLeDiff, Int.reduceLE, Int.reduceLT, Int.reduceToNat, Int.reduceEq, Int.reduceAdd, UInt8.reduceToNat, UInt32.reduceToNat, UInt64.reduceToNat, UInt8.reduceOfNat, UInt32.reduceOfNat, UInt64.reduceOfNat, Fin.isValue, Int.reduceSub, Int.reduceMul, Int.reduceNeg, Int.reduceMod, Int.reduceDiv, Int.reduceTDiv, Int.reduceTMod, Int.reduceBEq, Int.reduceBNe, Nat.reduceDiv, Nat.reducePow]
def awakeC : Con := con0 fun args => match args with
  | [] => some (.c (.one (.bo true)), [])
  | _ => none
theorem awakeC_ok : ConOk Try.prog 20 awakeC := con0_ok Try.func20 rfl rfl fun args res ob h hob => by
  split at h
  · injection h with h; injection h with h1 h2; subst h1; subst h2; exact awake_tri
  · cases h
def ga6 : Nat → Option Con := fun f => match f with
  | 18 => some quarterC
  | 21 => some blockC
  | 23 => some turnC
  | 20 => some awakeC
  | _ => none
theorem ga6_ok : GaOk Try.prog ga6 := fun f con h => by
  unfold ga6 at h
  split at h
  · injection h with h; subst h; exact quarterC_ok
  · injection h with h; subst h; exact blockC_ok
  · injection h with h; subst h; exact turnC_ok
  · injection h with h; subst h; exact awakeC_ok
  · cases h
theorem turnL_len (k n : List UInt8) (c : UInt32) (s : List UInt8) : (turnL k n c s).length = s.length := fro_len _ _ _
theorem turnL_getElem? (k n : List UInt8) (c : UInt32) (s : List UInt8) (i : Nat) : (turnL k n c s)[i]? = s[i]?.map fun b => b ^^^ ksAt k n c i := by
  simp only [turnL, fro, List.getElem?_mapIdx]
  by_cases h : i < s.length
  · rw [List.getElem?_eq_getElem h]; simp [h]
  · rw [List.getElem?_eq_none (by omega)]; rfl
theorem turn_turn (k n : List UInt8) (c : UInt32) (s : List UInt8) : turnL k n c (turnL k n c s) = s := by
  apply List.ext_getElem?; intro i
  rw [turnL_getElem?, turnL_getElem?]
  cases s[i]? with
  | none => rfl
  | some b => simp [UInt8.xor_assoc]
theorem turn_drop (k n : List UInt8) (c : UInt32) (s : List UInt8) : turnL k n (c + 1) (s.drop 64) = (turnL k n c s).drop 64 := by
  apply List.ext_getElem?; intro i
  rw [turnL_getElem?, List.getElem?_drop, List.getElem?_drop, turnL_getElem?]
  have : ksAt k n (c + 1) i = ksAt k n c (64 + i) := by
    unfold ksAt
    rw [show (64 + i) / 64 = 1 + i / 64 by omega, show (64 + i) % 64 = i % 64 by omega, UInt32.ofNat_add, ← UInt32.add_assoc]
    rfl
  rw [this]
set_option maxRecDepth 100000 in
theorem twice_tri (k n : List UInt8) (c : UInt32) (s : List UInt8) : Tri Try.prog 6 [.one (.str k), .one (.str n), .one (.u32 c), .one (.str s)] [] (.c (.one (.bo true))) [] := by
  refine tri_of (envOf_ok ga6_ok 87) Try.func6 rfl rfl (rs := [.tmp 8]) rfl rfl (by simp [envOf]) rfl [] ?_
  cases hk : ((k.length : Int) == 32) with
  | false => simp only [envOf, ga6, quarterC, blockC, turnC, awakeC, hk, go_sem, reduceCtorEq, ↓reduceIte, Nat.reduceAdd, Nat.reduceMul, Nat.reduceSub, Nat.reduceEqDiff, Nat.reduceLT, Nat.reduceBEq, Nat.reduceBNe, Nat.reduceLeDiff, Int.reduceLE, Int.reduceLT, Int.reduceToNat, Int.reduceEq, Int.reduceAdd, UInt8.reduceToNat, UInt32.reduceToNat, UInt64.reduceToNat, UInt8.reduceOfNat, UInt32.reduceOfNat, UInt64.reduceOfNat, Fin.isValue, Int.reduceSub, Int.reduceMul, Int.reduceNeg, Int.reduceMod, Int.reduceDiv, Int.reduceTDiv, Int.reduceTMod, Int.reduceBEq, Int.reduceBNe, Nat.reduceDiv, Nat.reducePow]
  | true =>
    cases hn : ((n.length : Int) == 12) with
    | false => simp only [envOf, ga6, quarterC, blockC, turnC, awakeC, hk, hn, go_sem, reduceCtorEq, ↓reduceIte, Nat.reduceAdd, Nat.reduceMul, Nat.reduceSub, Nat.reduceEqDiff, Nat.reduceLT, Nat.reduceBEq, Nat.reduceBNe, Nat.reduceLeDiff, Int.reduceLE, Int.reduceLT, Int.reduceToNat, Int.reduceEq, Int.reduceAdd, UInt8.reduceToNat, UInt32.reduceToNat, UInt64.reduceToNat, UInt8.reduceOfNat, UInt32.reduceOfNat, UInt64.reduceOfNat, Fin.isValue, Int.reduceSub, Int.reduceMul, Int.reduceNeg, Int.reduceMod, Int.reduceDiv, Int.reduceTDiv, Int.reduceTMod, Int.reduceBEq, Int.reduceBNe, Nat.reduceDiv, Nat.reducePow]
    | true =>
      have hr : rightB k n = true := by simp only [rightB, hk, hn]; rfl
      cases hs : decide ((4096 : Int) < s.length) with
      | true => simp only [envOf, ga6, quarterC, blockC, turnC, awakeC, hk, hn, hs, go_sem, reduceCtorEq, ↓reduceIte, Nat.reduceAdd, Nat.reduceMul, Nat.reduceSub, Nat.reduceEqDiff, Nat.reduceLT, Nat.reduceBEq, Nat.reduceBNe, Nat.reduceLeDiff, Int.reduceLE, Int.reduceLT, Int.reduceToNat, Int.reduceEq, Int.reduceAdd, UInt8.reduceToNat, UInt32.reduceToNat, UInt64.reduceToNat, UInt8.reduceOfNat, UInt32.reduceOfNat, UInt64.reduceOfNat, Fin.isValue, Int.reduceSub, Int.reduceMul, Int.reduceNeg, Int.reduceMod, Int.reduceDiv, Int.reduceTDiv, Int.reduceTMod, Int.reduceBEq, Int.reduceBNe, Nat.reduceDiv, Nat.reducePow]
      | false =>
        simp only [envOf, ga6, quarterC, blockC, turnC, awakeC, hk, hn, hs, hr, turn_turn, turnL_len, go_sem, reduceCtorEq, ↓reduceIte, Nat.reduceAdd, Nat.reduceMul, Nat.reduceSub, Nat.reduceEqDiff, Nat.reduceLT, Nat.reduceBEq, Nat.reduceBNe, Nat.reduceLeDiff, Int.reduceLE, Int.reduceLT, Int.reduceToNat, Int.reduceEq, Int.reduceAdd, UInt8.reduceToNat, UInt32.reduceToNat, UInt64.reduceToNat, UInt8.reduceOfNat, UInt32.reduceOfNat, UInt64.reduceOfNat, Fin.isValue, Int.reduceSub, Int.reduceMul, Int.reduceNeg, Int.reduceMod, Int.reduceDiv, Int.reduceTDiv, Int.reduceTMod, Int.reduceBEq, Int.reduceBNe, Nat.reduceDiv, Nat.reducePow]
        have hle : s.length ≤ 4096 := by have := of_decide_eq_false hs; omega
        refine ⟨by omega, by omega, br (fun h => ?_) fun h => ?_⟩
        · simp only [h, ga6, awakeC, go_sem, reduceCtorEq, ↓reduceIte, Nat.reduceAdd, Nat.reduceMul, Nat.reduceSub, Nat.reduceEqDiff, Nat.reduceLT, Nat.reduceBEq, Nat.reduceBNe, Nat.reduceLeDiff, Int.reduceLE, Int.reduceLT, Int.reduceToNat, Int.reduceEq, Int.reduceAdd, UInt8.reduceToNat, UInt32.reduceToNat, UInt64.reduceToNat, UInt8.reduceOfNat, UInt32.reduceOfNat, UInt64.reduceOfNat, Fin.isValue, Int.reduceSub, Int.reduceMul, Int.reduceNeg, Int.reduceMod, Int.reduceDiv, Int.reduceTDiv, Int.reduceTMod, Int.reduceBEq, Int.reduceBNe, Nat.reduceDiv, Nat.reducePow]
        · have h64 : 64 ≤ s.length := by have := of_decide_eq_false h; omega
          simp only [h, ga6, quarterC, blockC, turnC, awakeC, hr, turn_drop, turnL_len, go_sem, reduceCtorEq, ↓reduceIte, Nat.reduceAdd, Nat.reduceMul, Nat.reduceSub, Nat.reduceEqDiff, Nat.reduceLT, Nat.reduceBEq, Nat.reduceBNe, Nat.reduceLeDiff, Int.reduceLE, Int.reduceLT, Int.reduceToNat, Int.reduceEq, Int.reduceAdd, UInt8.reduceToNat, UInt32.reduceToNat, UInt64.reduceToNat, UInt8.reduceOfNat, UInt32.reduceOfNat, UInt64.reduceOfNat, Fin.isValue, Int.reduceSub, Int.reduceMul, Int.reduceNeg, Int.reduceMod, Int.reduceDiv, Int.reduceTDiv, Int.reduceTMod, Int.reduceBEq, Int.reduceBNe, Nat.reduceDiv, Nat.reducePow]
          exact ⟨by omega, by rw [List.length_drop]; omega, by omega⟩
theorem u32_of_wf {x : Int} (h : (Lit.int .u32 x).wf = true) : ∃ a : UInt32, x = (a.toNat : Int) := by
  have h' : 0 ≤ x ∧ x ≤ 4294967295 := by simpa [Lit.wf, IntKind.min, IntKind.max, IntKind.signed, IntKind.bits] using h
  exact ⟨UInt32.ofNat x.toNat, by rw [UInt32.toNat_ofNat_of_lt' (by show x.toNat < 4294967296; omega)]; omega⟩
theorem twice_law (a : ByteArray) (wa : a.size ≤ maxLen) (b : ByteArray) (wb : b.size ≤ maxLen) (c : Int) (wc : (Lit.int .u32 c).wf = true) (s : ByteArray) (ws : s.size ≤ maxLen) (w : World) :
    Calls Try.prog 6 #[.string a, .string b, .int .u32 c, .string s] w fun e w' => e = .returned (.bool true) ∧ Below w.heap.size w w' := by
  obtain ⟨x, rfl⟩ := u32_of_wf wc
  refine (tri_calls (twice_tri a.data.toList b.data.toList x s.data.toList) w (vals := [.string a, .string b, .int .u32 (x.toNat : Int), .string s]) ⟨rfl, rfl, rfl, rfl, trivial⟩).mono ?_
  rintro e w' ⟨u, r', rfl, hr, hb⟩
  exact ⟨by rw [show u = .bool true from hr], hb⟩
end Go.Proofs.Ythgemadhhkocgaa
