/-
  Closed facts of the program's first row, told without running over all of it. No condition.
-/
import Derived.Test.YtahiopdkekkibaaGreatDoorRows
import Derived.Test.YtahiopdkekkibaaGreatDoorChecked
import Derived.JoinedOf
import Derived.WalkKit
import Derived.ProofKit
namespace Go.Proofs.YtahiopdkekkibaaGreatDoor
open Go
def chs (l : List Nat) : List Char := l.map Char.ofNat
def firstB : List Nat := [97, 116, 32, 109, 97, 105, 108, 115, 97, 99, 107, 47, 109, 97, 105, 108, 115, 97, 99, 107, 108, 97, 119, 48, 56, 46, 83, 101, 97, 108, 66, 111, 120, 101, 115, 32, 109, 97, 105, 108, 115, 97, 99, 107, 47, 109, 97, 105, 108, 115, 97, 99, 107, 108, 97, 119, 48, 56, 46, 83, 101, 97, 108, 79, 112, 101, 110, 115, 32, 109, 97, 105, 108, 115, 97, 99, 107, 47, 109, 97, 105, 108, 115, 97, 99, 107, 108, 97, 119, 49, 51, 46, 82, 105, 110, 103, 77, 97, 107, 101, 115, 32, 109, 97, 105, 108, 115, 97, 99, 107, 47, 109, 97, 105, 108, 115, 97, 99, 107, 108, 97, 119, 49, 51, 46, 82, 105, 110, 103, 85, 110, 108, 111, 99, 107, 115, 32, 109, 97, 105, 108, 115, 97, 99, 107, 47, 109, 97, 105, 108, 115, 97, 99, 107, 108, 97, 119, 49, 51, 46, 82, 105, 110, 103, 84, 117, 114, 110, 115]
def firstAll (B : List Nat) : List Nat := [104, 97, 114, 110, 101, 115, 115] ++ 32 :: ([102, 49, 100, 48, 54, 52, 49, 56, 52, 97, 102, 49, 97, 52, 52, 98, 48, 98, 57, 56, 49, 54, 56, 100, 48, 98, 57, 57, 98, 56, 48, 97, 55, 48, 99, 102, 53, 57, 101, 99, 97, 54, 50, 53, 97, 102, 100, 57, 102, 48, 102, 50, 56, 49, 51, 97, 50, 49, 48, 55, 56, 50, 101, 54] ++ 32 :: ([99, 117, 116] ++ 32 :: B))
theorem order_eq : Tryz.prog.initOrder = String.ofList (chs (firstAll firstB)) := by kernel_rfl
theorem words_split : ∀ (a : List Char) (b : List Char), (a.all fun c => c != Char.ofNat 32) = true → wordsSigns (a ++ Char.ofNat 32 :: b) = a :: wordsSigns b
  | [], b, _ => rfl
  | c :: a, b, h => by
    simp only [List.all_cons, Bool.and_eq_true] at h
    have ih := words_split a b h.2
    have hc : c ≠ Char.ofNat 32 := by simpa using h.1
    rw [List.cons_append, wordsSigns.eq_def]
    split
    · rename_i e; cases e
    · rename_i r e; injection e with e1 e2; exact (hc e1).elim
    · rename_i c' r hne e
      injection e with e1 e2
      subst e1; subst e2
      rw [ih]
theorem words_gen (B : List Nat) : behindMainWord (wordsSigns (chs (firstAll B))) = chs [99, 117, 116] :: wordsSigns (chs B) := by
  have e : chs (firstAll B) = chs [104, 97, 114, 110, 101, 115, 115] ++ Char.ofNat 32 :: (chs [102, 49, 100, 48, 54, 52, 49, 56, 52, 97, 102, 49, 97, 52, 52, 98, 48, 98, 57, 56, 49, 54, 56, 100, 48, 98, 57, 57, 98, 56, 48, 97, 55, 48, 99, 102, 53, 57, 101, 99, 97, 54, 50, 53, 97, 102, 100, 57, 102, 48, 102, 50, 56, 49, 51, 97, 50, 49, 48, 55, 56, 50, 101, 54] ++ Char.ofNat 32 :: (chs [99, 117, 116] ++ Char.ofNat 32 :: chs B)) := by
    simp only [chs, firstAll, List.map_append, List.map_cons]
  have h1 : ((chs [104, 97, 114, 110, 101, 115, 115] == "harness".toList || chs [104, 97, 114, 110, 101, 115, 115] == "ownmain".toList) && isSumSigns (chs [102, 49, 100, 48, 54, 52, 49, 56, 52, 97, 102, 49, 97, 52, 52, 98, 48, 98, 57, 56, 49, 54, 56, 100, 48, 98, 57, 57, 98, 56, 48, 97, 55, 48, 99, 102, 53, 57, 101, 99, 97, 54, 50, 53, 97, 102, 100, 57, 102, 48, 102, 50, 56, 49, 51, 97, 50, 49, 48, 55, 56, 50, 101, 54])) = true := by decide +kernel
  rw [e, words_split _ _ (by decide), words_split _ _ (by decide), words_split _ _ (by decide), behindMainWord, h1]
  rfl
theorem words_eq : ∃ R, behindMainWord (wordsSigns Tryz.prog.initOrder.toList) = chs [99, 117, 116] :: R := by
  rw [order_eq, String.toList_ofList]
  exact ⟨_, words_gen firstB⟩
theorem strip_eq (R : List (List Char)) : stripLifts liftWords (chs [99, 117, 116] :: R) = ([], chs [99, 117, 116] :: R) := by kernel_rfl
theorem laysLater_ok : Tryz.prog.laysLater = false := by kernel_rfl
theorem bearsReflect_ok : Tryz.prog.bearsReflect = false := by kernel_rfl
theorem doorFits_ok : Tryz.prog.doorFits [] = true := by kernel_rfl
theorem mayEnter_gen (R : List (List Char)) (P : Program) (hR : behindMainWord (wordsSigns P.initOrder.toList) = chs [99, 117, 116] :: R) (h5 : P.laysLater = false) (h6 : P.bearsReflect = false) (h7 : P.doorFits [] = true) : P.mayEnter = true := by
  unfold Program.mayEnter
  rw [hR]
  simp only [strip_eq]
  have h2 : (chs [99, 117, 116] == "gc".toList || chs [99, 117, 116] == "spec".toList) = false := by decide +kernel
  have h3 : (chs [99, 117, 116] == "carried".toList) = false := by decide +kernel
  have h4 : (some (chs [99, 117, 116]) == some "cut".toList) = true := by decide +kernel
  simp only [h2, h3, List.head?_cons, h4, h5, h6, h7, Bool.false_and, Bool.true_and, Bool.not_false, Bool.or_true, Bool.false_or, List.contains_nil]
theorem mayEnter_ok : Tryz.prog.mayEnter = true := by
  obtain ⟨R, hR⟩ := words_eq
  exact mayEnter_gen R _ hR laysLater_ok bearsReflect_ok doorFits_ok
theorem headLifts_ok : Tryz.prog.headLifts = [] := by
  obtain ⟨R, hR⟩ := words_eq
  unfold Program.headLifts
  rw [hR, strip_eq]
  exact ite_self _
theorem liftsFinal_ok : Tryz.prog.liftsFinal = false := by
  obtain ⟨R, hR⟩ := words_eq
  unfold Program.liftsFinal
  rw [headLifts_ok, hR]
  have h3 : (some (chs [99, 117, 116]) == some "carried".toList) = false := by decide +kernel
  simp only [List.head?_cons, h3, Bool.false_and, Bool.false_or]
  rfl
theorem make_gen (R : List (List Char)) (P : Program) (h : behindMainWord (wordsSigns P.initOrder.toList) = chs [99, 117, 116] :: R) : P.make = some .cut := by
  have h2 : (chs [99, 117, 116] == "gc".toList || chs [99, 117, 116] == "spec".toList) = false := by decide +kernel
  have h4 : (chs [99, 117, 116] == "cut".toList) = true := by decide +kernel
  unfold Program.make
  rw [h]
  simp only [h2, h4, Bool.true_or, if_true, Bool.false_eq_true, if_false]
theorem make_ok : Tryz.prog.make = some .cut := by
  obtain ⟨R, hR⟩ := words_eq
  exact make_gen R _ hR
end Go.Proofs.YtahiopdkekkibaaGreatDoor
