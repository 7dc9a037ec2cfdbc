/-
  Layer 17: the laws of one line, and of a command.
-/
import Derived.Test.YtgfcdkbbkgamnaaDoorSz
import Derived.Test.YtgfcdkbbkgamnaaDoorLe
import Derived.Test.YtgfcdkbbkgamnaaDoorLg
namespace Go.Proofs.YtgfcdkbbkgamnaaDoor
open Go Go.RowKit
set_option maxHeartbeats 4000000
set_option linter.unusedSimpArgs false
set_option linter.unusedVariables false
def gaN : Nat → Option Con := fun f => match f with
  | 29 => some nextC
  | 30 => some refNextC
  | 31 => some literalC
  | 32 => some refLiteralC
  | 28 => some awake17C
  | _ => none
theorem gaN_ok : GaOkG Tryd.prog GL gaN := fun f con h => by
  unfold gaN at h
  split at h
  · injection h with h; subst h; exact nextC_ok
  · injection h with h; subst h; exact refNextC_ok
  · injection h with h; subst h; exact literalC_ok
  · injection h with h; subst h; exact refLiteralC_ok
  · injection h with h; subst h; exact awake17C_ok
  · cases h
set_option maxRecDepth 100000 in
theorem lawNext_tri (s : List UInt8) : TriG Tryd.prog GL 8 [.one (.str s)] [] (.c (.one (.bo true))) [] := by
  refine tri_of (envL_ok gaN_ok 76) Tryd.func8 rfl rfl (rs := [.tmp 2]) rfl rfl (by simp [envL]) rfl [] ?_
  cases hs : decide ((4096 : Int) < s.length) with
  | true => simp only [envL, gaN, nextC, refNextC, literalC, refLiteralC, awake17C, hs, go_sem, reduceCtorEq, ↓reduceIte, Nat.reduceAdd, Nat.reduceMul, Nat.reduceSub, Nat.reduceEqDiff, Nat.reduceLT, Nat.reduceBEq, Nat.reduceBNe, Nat.reduceLeDiff, Int.reduceLE, Int.reduceLT, Int.reduceToNat, Int.reduceEq, Int.reduceAdd, UInt8.reduceToNat, UInt32.reduceToNat, UInt64.reduceToNat, UInt8.reduceOfNat, UInt32.reduceOfNat, UInt64.reduceOfNat, Fin.isValue, Int.reduceSub, Int.reduceMul, Int.reduceNeg, Int.reduceMod, Int.reduceDiv, Int.reduceTDiv, Int.reduceTMod, Int.reduceBEq, Int.reduceBNe, Nat.reduceDiv, Nat.reducePow]
  | false =>
    have hle : s.length ≤ 4096 := by have := of_decide_eq_false hs; omega
    cases hl : litO s with
    | none =>
      have e1 : liT s = s := by unfold liT; rw [hl]
      have e2 : liN s = 0 := by unfold liN; rw [hl]
      have e3 : liB s = false := by unfold liB; rw [hl]; rfl
      have e4 : refLV s = -1 := by unfold refLV; rw [hl]
      have e5 : refLA s = 0 := by unfold refLA; rw [hl]
      have ht : s.take s.length = s := List.take_length
      simp only [envL, gaN, nextC, refNextC, literalC, refLiteralC, awake17C, hs, e1, e2, e3, e4, e5, ht, go_sem, reduceCtorEq, ↓reduceIte, Nat.reduceAdd, Nat.reduceMul, Nat.reduceSub, Nat.reduceEqDiff, Nat.reduceLT, Nat.reduceBEq, Nat.reduceBNe, Nat.reduceLeDiff, Int.reduceLE, Int.reduceLT, Int.reduceToNat, Int.reduceEq, Int.reduceAdd, UInt8.reduceToNat, UInt32.reduceToNat, UInt64.reduceToNat, UInt8.reduceOfNat, UInt32.reduceOfNat, UInt64.reduceOfNat, Fin.isValue, Int.reduceSub, Int.reduceMul, Int.reduceNeg, Int.reduceMod, Int.reduceDiv, Int.reduceTDiv, Int.reduceTMod, Int.reduceBEq, Int.reduceBNe, Nat.reduceDiv, Nat.reducePow]
      ((repeat' apply And.intro) <;> first | omega | exact rfl | exact id)
    | some q =>
      obtain ⟨a, n⟩ := q
      have e1 : liT s = s.take a := by unfold liT; rw [hl]
      have e2 : liN s = n := by unfold liN; rw [hl]
      have e3 : liB s = true := by unfold liB; rw [hl]; rfl
      have e4 : refLV s = n := by unfold refLV; rw [hl]
      have e5 : refLA s = a := by unfold refLA; rw [hl]
      have hn : decide ((n : Int) < 0) = false := decide_eq_false (by omega)
      obtain ⟨hab, _⟩ := litO_bound hl
      simp only [envL, gaN, nextC, refNextC, literalC, refLiteralC, awake17C, hs, e1, e2, e3, e4, e5, hn, go_sem, reduceCtorEq, ↓reduceIte, Nat.reduceAdd, Nat.reduceMul, Nat.reduceSub, Nat.reduceEqDiff, Nat.reduceLT, Nat.reduceBEq, Nat.reduceBNe, Nat.reduceLeDiff, Int.reduceLE, Int.reduceLT, Int.reduceToNat, Int.reduceEq, Int.reduceAdd, UInt8.reduceToNat, UInt32.reduceToNat, UInt64.reduceToNat, UInt8.reduceOfNat, UInt32.reduceOfNat, UInt64.reduceOfNat, Fin.isValue, Int.reduceSub, Int.reduceMul, Int.reduceNeg, Int.reduceMod, Int.reduceDiv, Int.reduceTDiv, Int.reduceTMod, Int.reduceBEq, Int.reduceBNe, Nat.reduceDiv, Nat.reducePow]
      ((repeat' apply And.intro) <;> first | omega | exact rfl | exact id)
theorem linesNext_law (s : ByteArray) (ws : s.size ≤ maxLen) (w : World) (hg : ∀ f ∈ GL, f.p w) :
    Calls Tryd.prog 8 #[.string s] w fun e w' => e = .returned (.bool true) ∧ Below w.heap.size w w' := by
  refine (tri_callsG (lawNext_tri s.data.toList) w (vals := [.string s]) ⟨rfl, trivial⟩ hg).mono ?_
  rintro e w' ⟨u, r', rfl, hr, hb⟩
  exact ⟨by rw [show u = .bool true from hr], hb⟩
theorem takeS_nil : ∀ (f : Nat) (T L : List (List UInt8)) (r : List UInt8), (takeS f T L r).T = [] → (takeS f T L r).L = []
  | 0, _, _, _, _ => rfl
  | f + 1, T, L, r, h => by
    unfold takeS at h ⊢
    split
    · rename_i h1
      rw [if_pos h1] at h
      split
      · rename_i h2
        rw [h2] at h
        simp at h
      · rename_i a n h2
        rw [h2] at h
        simp only at h ⊢
        split
        · rfl
        · rename_i h3
          rw [if_neg h3] at h
          split
          · rfl
          · rename_i h4
            rw [if_neg h4] at h
            exact takeS_nil f _ _ _ h
    · rfl
theorem takeS_len : ∀ (f : Nat) (T L : List (List UInt8)) (r : List UInt8), (takeS f T L r).T.length ≤ T.length + f ∧ (takeS f T L r).L.length ≤ L.length + f
  | 0, _, _, _ => by simp [takeS]
  | f + 1, T, L, r => by
    unfold takeS
    split
    · split
      · simp
      · rename_i a n _
        split
        · simp
        · split
          · simp
          · have := takeS_len f (T ++ [(nxA r).take a]) (L ++ [(nxB r).take n]) ((nxB r).drop n)
            simp only [List.length_append, List.length_cons, List.length_nil] at this
            exact ⟨Nat.le_trans this.1 (by omega), Nat.le_trans this.2 (by omega)⟩
    · simp
theorem takeL_len (s : List UInt8) : (takeL s).T.length ≤ 5 ∧ (takeL s).L.length ≤ 5 := by
  have := takeS_len 5 [] [] s
  simp only [List.length_nil, Nat.zero_add] at this
  exact this
def gaTk : Nat → Option Con := fun f => match f with
  | 33 => some takeC
  | 34 => some takeRC
  | 35 => some same17C
  | 28 => some awake17C
  | _ => none
theorem gaTk_ok : GaOkG Tryd.prog GL gaTk := fun f con h => by
  unfold gaTk at h
  split at h
  · injection h with h; subst h; exact takeC_ok
  · injection h with h; subst h; exact takeRC_ok
  · injection h with h; subst h; exact same17C_ok
  · injection h with h; subst h; exact awake17C_ok
  · cases h
set_option maxRecDepth 100000 in
theorem lawTakes_tri (s : List UInt8) : TriG Tryd.prog GL 9 [.one (.str s)] [] (.c (.one (.bo true))) [] := by
  refine tri_of (envL_ok gaTk_ok 59) Tryd.func9 rfl rfl (rs := [.tmp 2]) rfl rfl (by simp [envL]) rfl [] ?_
  cases hs : decide ((4096 : Int) < s.length) with
  | true => simp only [envLK, con0, conS, strsOf_arr, rowS_arr, strsOf_cells, rowS_cells, toS, strL_st, strL_d, strL_enc, strL_up, hpN_nil, hpN_cons, gaTk, takeC, takeRC, same17C, awake17C, envL, hs, go_sem, reduceCtorEq, ↓reduceIte, Nat.reduceAdd, Nat.reduceMul, Nat.reduceSub, Nat.reduceEqDiff, Nat.reduceLT, Nat.reduceBEq, Nat.reduceBNe, Nat.reduceLeDiff, Int.reduceLE, Int.reduceLT, Int.reduceToNat, Int.reduceEq, Int.reduceAdd, UInt8.reduceToNat, UInt32.reduceToNat, UInt64.reduceToNat, UInt8.reduceOfNat, UInt32.reduceOfNat, UInt64.reduceOfNat, Fin.isValue, Int.reduceSub, Int.reduceMul, Int.reduceNeg, Int.reduceMod, Int.reduceDiv, Int.reduceTDiv, Int.reduceTMod, Int.reduceBEq, Int.reduceBNe, Nat.reduceDiv, Nat.reducePow]
  | false =>
    have hle : s.length ≤ 4096 := by have := of_decide_eq_false hs; omega
    obtain ⟨hlT, hlL⟩ := takeL_len s
    cases hT : (takeL s).T.isEmpty with
    | true =>
      have hL : (takeL s).L.isEmpty = true := by
        have := takeS_nil 5 [] [] s (List.isEmpty_iff.1 hT)
        show (takeS 5 [] [] s).L.isEmpty = true
        rw [this]; rfl
      simp only [envLK, con0, conS, strsOf_arr, rowS_arr, strsOf_cells, rowS_cells, toS, strL_st, strL_d, strL_enc, strL_up, hpN_nil, hpN_cons, gaTk, takeC, takeRC, same17C, awake17C, envL, takeF, takeRF, same17F, rowAV, takeO, hT, hL, hs, go_sem, reduceCtorEq, ↓reduceIte, Nat.reduceAdd, Nat.reduceMul, Nat.reduceSub, Nat.reduceEqDiff, Nat.reduceLT, Nat.reduceBEq, Nat.reduceBNe, Nat.reduceLeDiff, Int.reduceLE, Int.reduceLT, Int.reduceToNat, Int.reduceEq, Int.reduceAdd, UInt8.reduceToNat, UInt32.reduceToNat, UInt64.reduceToNat, UInt8.reduceOfNat, UInt32.reduceOfNat, UInt64.reduceOfNat, Fin.isValue, Int.reduceSub, Int.reduceMul, Int.reduceNeg, Int.reduceMod, Int.reduceDiv, Int.reduceTDiv, Int.reduceTMod, Int.reduceBEq, Int.reduceBNe, Nat.reduceDiv, Nat.reducePow]
      ((repeat' apply And.intro) <;> first | omega | exact rfl | exact id)
    | false =>
      cases hL : (takeL s).L.isEmpty with
      | true =>
        simp only [envLK, con0, conS, strsOf_arr, rowS_arr, strsOf_cells, rowS_cells, toS, strL_st, strL_d, strL_enc, strL_up, hpN_nil, hpN_cons, gaTk, takeC, takeRC, same17C, awake17C, envL, takeF, takeRF, same17F, rowAV, takeO, hT, hL, hs, go_sem, reduceCtorEq, ↓reduceIte, Nat.reduceAdd, Nat.reduceMul, Nat.reduceSub, Nat.reduceEqDiff, Nat.reduceLT, Nat.reduceBEq, Nat.reduceBNe, Nat.reduceLeDiff, Int.reduceLE, Int.reduceLT, Int.reduceToNat, Int.reduceEq, Int.reduceAdd, UInt8.reduceToNat, UInt32.reduceToNat, UInt64.reduceToNat, UInt8.reduceOfNat, UInt32.reduceOfNat, UInt64.reduceOfNat, Fin.isValue, Int.reduceSub, Int.reduceMul, Int.reduceNeg, Int.reduceMod, Int.reduceDiv, Int.reduceTDiv, Int.reduceTMod, Int.reduceBEq, Int.reduceBNe, Nat.reduceDiv, Nat.reducePow]
        ((repeat' apply And.intro) <;> first | omega | exact rfl | exact id)
      | false =>
        simp only [envLK, con0, conS, strsOf_arr, rowS_arr, strsOf_cells, rowS_cells, toS, strL_st, strL_d, strL_enc, strL_up, hpN_nil, hpN_cons, gaTk, takeC, takeRC, same17C, awake17C, envL, takeF, takeRF, same17F, rowAV, takeO, hT, hL, hs, go_sem, reduceCtorEq, ↓reduceIte, Nat.reduceAdd, Nat.reduceMul, Nat.reduceSub, Nat.reduceEqDiff, Nat.reduceLT, Nat.reduceBEq, Nat.reduceBNe, Nat.reduceLeDiff, Int.reduceLE, Int.reduceLT, Int.reduceToNat, Int.reduceEq, Int.reduceAdd, UInt8.reduceToNat, UInt32.reduceToNat, UInt64.reduceToNat, UInt8.reduceOfNat, UInt32.reduceOfNat, UInt64.reduceOfNat, Fin.isValue, Int.reduceSub, Int.reduceMul, Int.reduceNeg, Int.reduceMod, Int.reduceDiv, Int.reduceTDiv, Int.reduceTMod, Int.reduceBEq, Int.reduceBNe, Nat.reduceDiv, Nat.reducePow]
        ((repeat' apply And.intro) <;> first | omega | exact rfl | exact id)
theorem linesTakes_law (s : ByteArray) (ws : s.size ≤ maxLen) (w : World) (hg : ∀ f ∈ GL, f.p w) :
    Calls Tryd.prog 9 #[.string s] w fun e w' => e = .returned (.bool true) ∧ Below w.heap.size w w' := by
  refine (tri_callsG (lawTakes_tri s.data.toList) w (vals := [.string s]) ⟨rfl, trivial⟩ hg).mono ?_
  rintro e w' ⟨u, r', rfl, hr, hb⟩
  exact ⟨by rw [show u = .bool true from hr], hb⟩
end Go.Proofs.YtgfcdkbbkgamnaaDoor
