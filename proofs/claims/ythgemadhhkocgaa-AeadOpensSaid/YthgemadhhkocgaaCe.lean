/-
  Layer 5: a string turned.
-/
import Derived.Test.YthgemadhhkocgaaSz
import Derived.Test.YthgemadhhkocgaaCd
namespace Go.Proofs.Ythgemadhhkocgaa
open Go Go.RowKit
set_option linter.unusedSimpArgs false
set_option linter.unusedVariables false
def ga4 : Nat → Option Con := fun f => match f with
  | 35 => some rightC
  | 37 => some initialC
  | 36 => some stirC
  | _ => none
theorem ga4_ok : GaOk Try.prog ga4 := fun f con h => by
  unfold ga4 at h
  split at h
  · injection h with h; subst h; exact rightC_ok
  · injection h with h; subst h; exact initialC_ok
  · injection h with h; subst h; exact stirC_ok
  · cases h
def blockL (k n : List UInt8) (c : UInt32) : List UInt8 := stirL (iniL k n c)
set_option maxRecDepth 100000 in
theorem block_tri (k n : List UInt8) (c : UInt32) : Tri Try.prog 21 [.one (.str k), .one (.str n), .one (.u32 c)] [] (.tup [.one (.str (if rightB k n = true then blockL k n c else [])), .one (.bo (rightB k n))]) [] := by
  refine tri_of (envOf_ok ga4_ok 17) Try.func21 rfl rfl (rs := [.tmp 6, .tmp 7]) rfl rfl (by simp [envOf]) rfl [] ?_
  cases hr : rightB k n with
  | true =>
    have hh := (rightB_iff k n).1 hr
    simp only [envOf, ga4, rightC, initialC, stirC, hr, hh.1, hh.2, iniL, u32s, blockL, go_sem, reduceCtorEq, ↓reduceIte, Nat.reduceAdd, Nat.reduceMul, Nat.reduceSub, Nat.reduceEqDiff, Nat.reduceLT, Nat.reduceBEq, Nat.reduceBNe, Nat.reduceLeDiff, Int.reduceLE, Int.reduceLT, Int.reduceToNat, Int.reduceEq, Int.reduceAdd, UInt8.reduceToNat, UInt32.reduceToNat, UInt64.reduceToNat, UInt8.reduceOfNat, UInt32.reduceOfNat, UInt64.reduceOfNat, Fin.isValue, Int.reduceSub, Int.reduceMul, Int.reduceNeg, Int.reduceMod, Int.reduceDiv, Int.reduceTDiv, Int.reduceTMod, Int.reduceBEq, Int.reduceBNe, Nat.reduceDiv, Nat.reducePow]
  | false => simp only [envOf, ga4, rightC, initialC, stirC, hr, go_sem, reduceCtorEq, ↓reduceIte, Nat.reduceAdd, Nat.reduceMul, Nat.reduceSub, Nat.reduceEqDiff, Nat.reduceLT, Nat.reduceBEq, Nat.reduceBNe, Nat.reduceLeDiff, Int.reduceLE, Int.reduceLT, Int.reduceToNat, Int.reduceEq, Int.reduceAdd, UInt8.reduceToNat, UInt32.reduceToNat, UInt64.reduceToNat, UInt8.reduceOfNat, UInt32.reduceOfNat, UInt64.reduceOfNat, Fin.isValue, Int.reduceSub, Int.reduceMul, Int.reduceNeg, Int.reduceMod, Int.reduceDiv, Int.reduceTDiv, Int.reduceTMod, Int.reduceBEq, Int.reduceBNe, Nat.reduceDiv, Nat.reducePow]
def ksAt (k n : List UInt8) (c : UInt32) (p : Nat) : UInt8 := (stirL (iniL k n (c + UInt32.ofNat (p / 64)))).getD (p % 64) 0
def fro (g : Nat → UInt8) (s : List UInt8) (f : Nat) : List UInt8 := s.mapIdx fun p b => if p < f then b ^^^ g p else b
theorem fro_len (g : Nat → UInt8) (s : List UInt8) (f : Nat) : (fro g s f).length = s.length := List.length_mapIdx
theorem fro_zero (g : Nat → UInt8) (s : List UInt8) : fro g s 0 = s := by
  apply List.ext_getElem?; intro i
  simp [fro]
theorem fro_getD (g : Nat → UInt8) (s : List UInt8) (f : Nat) : (fro g s f).getD f 0 = s.getD f 0 := by
  simp [fro, List.getD_eq_getElem?_getD]
theorem fro_set (g : Nat → UInt8) (s : List UInt8) (f : Nat) : (fro g s f).set f ((fro g s f).getD f 0 ^^^ g f) = fro g s (f + 1) := by
  apply List.ext_getElem?; intro i
  rw [fro_getD, List.getElem?_set]
  by_cases h : f = i
  · subst h
    rw [if_pos rfl, fro_len]
    by_cases hl : f < s.length
    · rw [if_pos hl]
      simp [fro, hl]
    · rw [if_neg hl]
      simp [fro, hl]
  · rw [if_neg h]
    simp only [fro, List.getElem?_mapIdx]
    by_cases hl : i < s.length
    · have : (i < f) = (i < f + 1) := by simp only [eq_iff_iff]; omega
      simp only [this]
    · rw [List.getElem?_eq_none (by omega)]; rfl
theorem fro_end (g : Nat → UInt8) (s : List UInt8) (f : Nat) (h : s.length ≤ f) : fro g s f = fro g s s.length := by
  apply List.ext_getElem?; intro i
  simp only [fro, List.getElem?_mapIdx]
  by_cases hl : i < s.length
  · have e : (i < f) = (i < s.length) := by simp only [eq_iff_iff]; omega
    simp only [e]
  · rw [List.getElem?_eq_none (by omega)]; rfl
def turnL (k n : List UInt8) (c : UInt32) (s : List UInt8) : List UInt8 := fro (ksAt k n c) s s.length
def turnInv (k n : List UInt8) (c : UInt32) (s : List UInt8) (q : Nat) : St := ⟨[(10, .c (.one (.ptr 40032 0 0 0))), (11, .c (.one (.sl 50008 0 1 s.length))), (12, .c (.one (.num (64 * q : Nat))))], [(40032, ⟨.cells 1 ((iniL k n (c + UInt32.ofNat q)).map .u32), true⟩), (50008, ⟨.arr UInt8 u8L (fro (ksAt k n c) s (64 * q)), true⟩)]⟩
theorem outL_len : ∀ (y x : List UInt32), y.length = x.length → (outL y x).length = 4 * x.length
  | [], [], _ => rfl
  | y :: ys, x :: xs, h => by
    have := outL_len ys xs (by simpa using h)
    rw [outL, List.length_append, this]
    simp [w4]; omega
theorem stirL_len (l : List UInt32) (h : l.length = 16) : (stirL l).length = 64 := by
  have h10 := dtimes_len l h 10
  rw [stirL, outL_len _ _ (by rw [h10, h]), h]
def partInv (k n : List UInt8) (c : UInt32) (s : List UInt8) (q m i : Nat) : St := ⟨[(10, .c (.one (.ptr 40032 0 0 0))), (11, .c (.one (.sl 50008 0 1 s.length))), (12, .c (.one (.num (64 * q : Nat)))), (13, .c (.one (.str (stirL (iniL k n (c + UInt32.ofNat q)))))), (14, .c (.one (.sl 50008 (64 * q) 1 m))), (43, .c (.one (.num m))), (44, .c (.one (.num i)))], [(40032, ⟨.cells 1 ((iniL k n (c + UInt32.ofNat q)).map .u32), true⟩), (50008, ⟨.arr UInt8 u8L (fro (ksAt k n c) s (64 * q + i)), true⟩)]⟩
set_option maxRecDepth 100000 in
set_option maxHeartbeats 4000000 in
theorem turn_tri (k n : List UInt8) (c : UInt32) (s : List UInt8) (hs : s.length ≤ 1048576) : Tri Try.prog 23 [.one (.str k), .one (.str n), .one (.u32 c), .one (.str s)] [] (.tup [.one (.str (if rightB k n = true then turnL k n c s else [])), .one (.bo (rightB k n))]) [] := by
  refine tri_of (envOf_ok ga4_ok 63) Try.func23 rfl rfl (rs := [.tmp 8, .tmp 9]) rfl rfl (by simp [envOf]) rfl [] ?_
  cases hr : rightB k n with
  | false => simp only [envOf, ga4, rightC, initialC, stirC, hr, go_sem, reduceCtorEq, ↓reduceIte, Nat.reduceAdd, Nat.reduceMul, Nat.reduceSub, Nat.reduceEqDiff, Nat.reduceLT, Nat.reduceBEq, Nat.reduceBNe, Nat.reduceLeDiff, Int.reduceLE, Int.reduceLT, Int.reduceToNat, Int.reduceEq, Int.reduceAdd, UInt8.reduceToNat, UInt32.reduceToNat, UInt64.reduceToNat, UInt8.reduceOfNat, UInt32.reduceOfNat, UInt64.reduceOfNat, Fin.isValue, Int.reduceSub, Int.reduceMul, Int.reduceNeg, Int.reduceMod, Int.reduceDiv, Int.reduceTDiv, Int.reduceTMod, Int.reduceBEq, Int.reduceBNe, Nat.reduceDiv, Nat.reducePow]
  | true =>
    have hh := (rightB_iff k n).1 hr
    simp only [envOf, ga4, rightC, initialC, stirC, hr, hh.1, hh.2, iniL, u32s, go_sem, reduceCtorEq, ↓reduceIte, Nat.reduceAdd, Nat.reduceMul, Nat.reduceSub, Nat.reduceEqDiff, Nat.reduceLT, Nat.reduceBEq, Nat.reduceBNe, Nat.reduceLeDiff, Int.reduceLE, Int.reduceLT, Int.reduceToNat, Int.reduceEq, Int.reduceAdd, UInt8.reduceToNat, UInt32.reduceToNat, UInt64.reduceToNat, UInt8.reduceOfNat, UInt32.reduceOfNat, UInt64.reduceOfNat, Fin.isValue, Int.reduceSub, Int.reduceMul, Int.reduceNeg, Int.reduceMod, Int.reduceDiv, Int.reduceTDiv, Int.reduceTMod, Int.reduceBEq, Int.reduceBNe, Nat.reduceDiv, Nat.reducePow]
    refine loop_inv (envOf_ok ga4_ok 63) (turnInv k n c s) (fun q => 64 * q ≤ s.length + 63) (fun q => s.length + 64 - 64 * q) 0 [] (by omega) ?_ ?_
    · simp only [turnInv, iniL, fro_zero, UInt32.add_zero, go_sem, reduceCtorEq, ↓reduceIte, Nat.reduceAdd, Nat.reduceMul, Nat.reduceSub, Nat.reduceEqDiff, Nat.reduceLT, Nat.reduceBEq, Nat.reduceBNe, Nat.reduceLeDiff, Int.reduceLE, Int.reduceLT, Int.reduceToNat, Int.reduceEq, Int.reduceAdd, UInt8.reduceToNat, UInt32.reduceToNat, UInt64.reduceToNat, UInt8.reduceOfNat, UInt32.reduceOfNat, UInt64.reduceOfNat, Fin.isValue, Int.reduceSub, Int.reduceMul, Int.reduceNeg, Int.reduceMod, Int.reduceDiv, Int.reduceTDiv, Int.reduceTMod, Int.reduceBEq, Int.reduceBNe, Nat.reduceDiv, Nat.reducePow]
    · intro q hq
      simp only [turnInv, envOf, ga4, stirC, iniL, u32s, go_sem, reduceCtorEq, ↓reduceIte, Nat.reduceAdd, Nat.reduceMul, Nat.reduceSub, Nat.reduceEqDiff, Nat.reduceLT, Nat.reduceBEq, Nat.reduceBNe, Nat.reduceLeDiff, Int.reduceLE, Int.reduceLT, Int.reduceToNat, Int.reduceEq, Int.reduceAdd, UInt8.reduceToNat, UInt32.reduceToNat, UInt64.reduceToNat, UInt8.reduceOfNat, UInt32.reduceOfNat, UInt64.reduceOfNat, Fin.isValue, Int.reduceSub, Int.reduceMul, Int.reduceNeg, Int.reduceMod, Int.reduceDiv, Int.reduceTDiv, Int.reduceTMod, Int.reduceBEq, Int.reduceBNe, Nat.reduceDiv, Nat.reducePow]
      refine br (fun h => ?_) fun h => ?_
      · have hlt : 64 * q < s.length := by have := of_decide_eq_true h; omega
        obtain ⟨m, hm⟩ : ∃ m, m = min 64 (s.length - 64 * q) := ⟨_, rfl⟩
        have hw : IntKind.i64.wrap (((64 * q : Nat) : Int) + 64) = ((64 * q + 64 : Nat) : Int) := by rw [IntKind.wrap_i64]; omega
        have hmin : min ((64 * q + 64 : Nat) : Int) (s.length : Int) = ((64 * q + m : Nat) : Int) := by omega
        simp only [h, ga4, stirC, iniL, u32s, hw, hmin, Nat.add_sub_cancel_left, go_sem, reduceCtorEq, ↓reduceIte, Nat.reduceAdd, Nat.reduceMul, Nat.reduceSub, Nat.reduceEqDiff, Nat.reduceLT, Nat.reduceBEq, Nat.reduceBNe, Nat.reduceLeDiff, Int.reduceLE, Int.reduceLT, Int.reduceToNat, Int.reduceEq, Int.reduceAdd, UInt8.reduceToNat, UInt32.reduceToNat, UInt64.reduceToNat, UInt8.reduceOfNat, UInt32.reduceOfNat, UInt64.reduceOfNat, Fin.isValue, Int.reduceSub, Int.reduceMul, Int.reduceNeg, Int.reduceMod, Int.reduceDiv, Int.reduceTDiv, Int.reduceTMod, Int.reduceBEq, Int.reduceBNe, Nat.reduceDiv, Nat.reducePow]
        refine ⟨by omega, ?_⟩
        refine loop_inv (envOf_ok ga4_ok 63) (partInv k n c s q m) (fun i => i ≤ m) (fun i => m - i) 0 [] (by omega) ?_ ?_
        · simp only [partInv, iniL, Nat.add_zero, go_sem, reduceCtorEq, ↓reduceIte, Nat.reduceAdd, Nat.reduceMul, Nat.reduceSub, Nat.reduceEqDiff, Nat.reduceLT, Nat.reduceBEq, Nat.reduceBNe, Nat.reduceLeDiff, Int.reduceLE, Int.reduceLT, Int.reduceToNat, Int.reduceEq, Int.reduceAdd, UInt8.reduceToNat, UInt32.reduceToNat, UInt64.reduceToNat, UInt8.reduceOfNat, UInt32.reduceOfNat, UInt64.reduceOfNat, Fin.isValue, Int.reduceSub, Int.reduceMul, Int.reduceNeg, Int.reduceMod, Int.reduceDiv, Int.reduceTDiv, Int.reduceTMod, Int.reduceBEq, Int.reduceBNe, Nat.reduceDiv, Nat.reducePow]
        · intro i hi
          simp only [partInv, envOf, ga4, stirC, iniL, u32s, go_sem, reduceCtorEq, ↓reduceIte, Nat.reduceAdd, Nat.reduceMul, Nat.reduceSub, Nat.reduceEqDiff, Nat.reduceLT, Nat.reduceBEq, Nat.reduceBNe, Nat.reduceLeDiff, Int.reduceLE, Int.reduceLT, Int.reduceToNat, Int.reduceEq, Int.reduceAdd, UInt8.reduceToNat, UInt32.reduceToNat, UInt64.reduceToNat, UInt8.reduceOfNat, UInt32.reduceOfNat, UInt64.reduceOfNat, Fin.isValue, Int.reduceSub, Int.reduceMul, Int.reduceNeg, Int.reduceMod, Int.reduceDiv, Int.reduceTDiv, Int.reduceTMod, Int.reduceBEq, Int.reduceBNe, Nat.reduceDiv, Nat.reducePow]
          refine br (fun h' => ?_) fun h' => ?_
          · have hlt' : i < m := by have := of_decide_eq_true h'; omega
            have hw' : IntKind.i64.wrap ((i : Int) + 1) = ((i + 1 : Nat) : Int) := by rw [IntKind.wrap_i64]; omega
            simp only [h', ga4, stirC, iniL, u32s, hw', go_sem, reduceCtorEq, ↓reduceIte, Nat.reduceAdd, Nat.reduceMul, Nat.reduceSub, Nat.reduceEqDiff, Nat.reduceLT, Nat.reduceBEq, Nat.reduceBNe, Nat.reduceLeDiff, Int.reduceLE, Int.reduceLT, Int.reduceToNat, Int.reduceEq, Int.reduceAdd, UInt8.reduceToNat, UInt32.reduceToNat, UInt64.reduceToNat, UInt8.reduceOfNat, UInt32.reduceOfNat, UInt64.reduceOfNat, Fin.isValue, Int.reduceSub, Int.reduceMul, Int.reduceNeg, Int.reduceMod, Int.reduceDiv, Int.reduceTDiv, Int.reduceTMod, Int.reduceBEq, Int.reduceBNe, Nat.reduceDiv, Nat.reducePow]
            have hS : (stirL (iniL k n (c + UInt32.ofNat q))).length = 64 := stirL_len _ rfl
            have hk : (stirL (iniL k n (c + UInt32.ofNat q))).getD i 0 = ksAt k n c (64 * q + i) := by
              unfold ksAt
              rw [show (64 * q + i) / 64 = q by omega, show (64 * q + i) % 64 = i by omega]
            have hset : (fro (ksAt k n c) s (64 * q + i)).set (64 * q + i) ((fro (ksAt k n c) s (64 * q + i)).getD (64 * q + i) 0 ^^^ (stirL (iniL k n (c + UInt32.ofNat q))).getD i 0) = fro (ksAt k n c) s (64 * q + (i + 1)) := by
              rw [hk]; exact fro_set _ _ _
            simp only [iniL] at hS hset
            refine ⟨by omega, by rw [fro_len]; omega, by rw [hS]; omega, by omega, by rw [fro_len]; omega, rfl, again (i + 1) [] (by omega) (by omega) ?_⟩
            simp only [partInv, iniL, hset, go_sem, reduceCtorEq, ↓reduceIte, Nat.reduceAdd, Nat.reduceMul, Nat.reduceSub, Nat.reduceEqDiff, Nat.reduceLT, Nat.reduceBEq, Nat.reduceBNe, Nat.reduceLeDiff, Int.reduceLE, Int.reduceLT, Int.reduceToNat, Int.reduceEq, Int.reduceAdd, UInt8.reduceToNat, UInt32.reduceToNat, UInt64.reduceToNat, UInt8.reduceOfNat, UInt32.reduceOfNat, UInt64.reduceOfNat, Fin.isValue, Int.reduceSub, Int.reduceMul, Int.reduceNeg, Int.reduceMod, Int.reduceDiv, Int.reduceTDiv, Int.reduceTMod, Int.reduceBEq, Int.reduceBNe, Nat.reduceDiv, Nat.reducePow]
          · have hi' : i = m := by have := of_decide_eq_false h'; omega
            subst hi'
            have hw2 : IntKind.i64.wrap (((64 * q : Nat) : Int) + 64) = ((64 * (q + 1) : Nat) : Int) := by rw [IntKind.wrap_i64]; omega
            have hfe : fro (ksAt k n c) s (64 * q + i) = fro (ksAt k n c) s (64 * (q + 1)) := by
              by_cases h64 : i = 64
              · rw [h64]; rfl
              · rw [fro_end _ _ (64 * q + i) (by omega), fro_end _ _ (64 * (q + 1)) (by omega)]
            have hc : c + UInt32.ofNat q + 1 = c + UInt32.ofNat (q + 1) := by
              rw [UInt32.ofNat_add, UInt32.add_assoc]; rfl
            simp only [h', ga4, stirC, iniL, u32s, hw2, hc, hfe, go_sem, reduceCtorEq, ↓reduceIte, Nat.reduceAdd, Nat.reduceMul, Nat.reduceSub, Nat.reduceEqDiff, Nat.reduceLT, Nat.reduceBEq, Nat.reduceBNe, Nat.reduceLeDiff, Int.reduceLE, Int.reduceLT, Int.reduceToNat, Int.reduceEq, Int.reduceAdd, UInt8.reduceToNat, UInt32.reduceToNat, UInt64.reduceToNat, UInt8.reduceOfNat, UInt32.reduceOfNat, UInt64.reduceOfNat, Fin.isValue, Int.reduceSub, Int.reduceMul, Int.reduceNeg, Int.reduceMod, Int.reduceDiv, Int.reduceTDiv, Int.reduceTMod, Int.reduceBEq, Int.reduceBNe, Nat.reduceDiv, Nat.reducePow]
            refine again (q + 1) [] (by omega) (by omega) ?_
            simp only [turnInv, iniL, go_sem, reduceCtorEq, ↓reduceIte, Nat.reduceAdd, Nat.reduceMul, Nat.reduceSub, Nat.reduceEqDiff, Nat.reduceLT, Nat.reduceBEq, Nat.reduceBNe, Nat.reduceLeDiff, Int.reduceLE, Int.reduceLT, Int.reduceToNat, Int.reduceEq, Int.reduceAdd, UInt8.reduceToNat, UInt32.reduceToNat, UInt64.reduceToNat, UInt8.reduceOfNat, UInt32.reduceOfNat, UInt64.reduceOfNat, Fin.isValue, Int.reduceSub, Int.reduceMul, Int.reduceNeg, Int.reduceMod, Int.reduceDiv, Int.reduceTDiv, Int.reduceTMod, Int.reduceBEq, Int.reduceBNe, Nat.reduceDiv, Nat.reducePow]
      · have hge : s.length ≤ 64 * q := by have := of_decide_eq_false h; omega
        have hfull := fro_end (ksAt k n c) s (64 * q) hge
        have ht : List.take s.length (fro (ksAt k n c) s s.length) = fro (ksAt k n c) s s.length := List.take_of_length_le (by rw [fro_len]; exact Nat.le_refl _)
        simp only [h, ga4, stirC, iniL, u32s, hfull, ht, turnL, fro_len, go_sem, reduceCtorEq, ↓reduceIte, Nat.reduceAdd, Nat.reduceMul, Nat.reduceSub, Nat.reduceEqDiff, Nat.reduceLT, Nat.reduceBEq, Nat.reduceBNe, Nat.reduceLeDiff, Int.reduceLE, Int.reduceLT, Int.reduceToNat, Int.reduceEq, Int.reduceAdd, UInt8.reduceToNat, UInt32.reduceToNat, UInt64.reduceToNat, UInt8.reduceOfNat, UInt32.reduceOfNat, UInt64.reduceOfNat, Fin.isValue, Int.reduceSub, Int.reduceMul, Int.reduceNeg, Int.reduceMod, Int.reduceDiv, Int.reduceTDiv, Int.reduceTMod, Int.reduceBEq, Int.reduceBNe, Nat.reduceDiv, Nat.reducePow]
end Go.Proofs.Ythgemadhhkocgaa
