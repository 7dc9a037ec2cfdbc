/-
  Layer 19, by definition: where a body begins, lines, letters, texts in texts.
-/
import Derived.Test.YtgfcdkbbkgamnaaDoorSz
import Derived.Test.YtgfcdkbbkgamnaaDoorQl
namespace Go.Proofs.YtgfcdkbbkgamnaaDoor
open Go Go.RowKit
set_option maxHeartbeats 4000000
set_option linter.unusedSimpArgs false
set_option linter.unusedVariables false
def qr0 : Nat → Option Con := fun f => match f with
  | _ => none
theorem qr0_ok : GaOkG Tryd.prog GM qr0 := fun f con h => by
  unfold qr0 at h
  split at h
  · cases h
theorem crAt_iff {s : List UInt8} {i : Nat} (h : i + 1 < s.length) : crAt s i ↔ s.getD i 0 = 13 ∧ s.getD (i + 1) 0 = 10 := by
  unfold crAt
  simp [List.getD_eq_getElem?_getD, List.getElem?_eq_getElem h, List.getElem?_eq_getElem (show i < s.length by omega)]
structure SpX where
  fr : Nat
  i : Nat
def spInv (s : List UInt8) (x : SpX) : St := ⟨[(0, .c (.one (.str s))), (3, .c (.one (.num x.fr))), (4, .c (.one (.num x.i)))], []⟩
def spOk (s : List UInt8) (x : SpX) : Prop := x.i ≤ s.length ∧ x.fr ≤ x.i + 1 ∧ (x.fr = 0 ∨ ∃ k, x.fr = k + 2 ∧ crAt s k) ∧ (∀ k, k < x.i → crAt s k → k + 2 ≤ x.fr) ∧ ∀ j, j < x.i → ¬ (crAt s j ∧ stAt s j)
theorem spOk_step {s : List UInt8} {x : SpX} (h : spOk s x) (hi : x.i < s.length) (hn : crAt s x.i → x.i < x.fr) : spOk s ⟨x.fr, x.i + 1⟩ := by
  obtain ⟨fr, i⟩ := x
  obtain ⟨h1, h2, h3, h4, h5⟩ := h
  simp only at h1 h2 h3 h4 h5 hi hn
  have hno : ¬ crAt s i := fun hc => by
    have hlt := hn hc
    rcases h3 with rfl | ⟨k, hk, hck⟩
    · omega
    · have : i = k + 1 := by omega
      subst this
      exact crAt_next hck hc
  refine ⟨by simp only; omega, by simp only; omega, h3, fun k hk hc => ?_, fun j hj hc => ?_⟩
  · simp only at hk
    rcases Nat.lt_or_ge k i with h' | h'
    · exact h4 k h' hc
    · have : k = i := by omega
      subst this; exact (hno hc).elim
  · simp only at hj
    rcases Nat.lt_or_ge j i with h' | h'
    · exact h5 j h' hc
    · have : j = i := by omega
      subst this; exact hno hc.1
theorem spOk_far {s : List UInt8} {x : SpX} (h : spOk s x) (hc : crAt s x.i) (hf : x.fr ≤ x.i) (hne : x.i ≠ x.fr) : spOk s ⟨x.i + 2, x.i + 1⟩ := by
  obtain ⟨fr, i⟩ := x
  obtain ⟨h1, h2, h3, h4, h5⟩ := h
  simp only at h1 h2 h3 h4 h5 hc hf hne
  have hl := crAt_lt hc
  refine ⟨by simp only; omega, by simp only; omega, .inr ⟨i, rfl, hc⟩, fun k hk _ => by simp only at hk ⊢; omega, fun j hj hj2 => ?_⟩
  simp only at hj
  rcases Nat.lt_or_ge j i with h' | h'
  · exact h5 j h' hj2
  · have : j = i := by omega
    subst this
    rcases hj2.2 with e | ⟨k, e, hk⟩
    · omega
    · have := h4 k (by omega) hk
      omega
theorem spOk_end {s : List UInt8} {x : SpX} (h : spOk s x) (hc : crAt s x.i) (he : x.i = x.fr) : headN s = x.i + 2 := by
  obtain ⟨fr, i⟩ := x
  obtain ⟨h1, h2, h3, h4, h5⟩ := h
  simp only at h1 h2 h3 h4 h5 hc he
  subst he
  exact headAt_unique (headN_at s) (.inl ⟨i, hc, h3, h5, rfl⟩)
theorem spOk_none {s : List UInt8} {x : SpX} (h : spOk s x) (hc : s.length ≤ x.i + 1) : headN s = s.length := by
  refine headAt_unique (headN_at s) (.inr ⟨fun j hj => ?_, rfl⟩)
  have := crAt_lt hj.1
  exact h.2.2.2.2 j (by omega) hj
set_option maxRecDepth 100000 in
theorem refSplit_tri (s : List UInt8) (hs : s.length ≤ 1048576) : TriG Tryd.prog GM 38 [.one (.str s)] [] (.c (.one (.num (headN s)))) [] := by
  refine tri_of (envM_ok qr0_ok 37) Tryd.func38 rfl rfl (rs := [.tmp 2]) rfl rfl (by simp [envM]) rfl [] ?_
  simp only [envM, qr0, go_sem, reduceCtorEq, ↓reduceIte, Nat.reduceAdd, Nat.reduceMul, Nat.reduceSub, Nat.reduceEqDiff, Nat.reduceLT, Nat.reduceBEq, Nat.reduceBNe, Nat.reduceLeDiff, Int.reduceLE, Int.reduceLT, Int.reduceToNat, Int.reduceEq, Int.reduceAdd, UInt8.reduceToNat, UInt32.reduceToNat, UInt64.reduceToNat, UInt8.reduceOfNat, UInt32.reduceOfNat, UInt64.reduceOfNat, Fin.isValue, Int.reduceSub, Int.reduceMul, Int.reduceNeg, Int.reduceMod, Int.reduceDiv, Int.reduceTDiv, Int.reduceTMod, Int.reduceBEq, Int.reduceBNe, Nat.reduceDiv, Nat.reducePow]
  refine loop_inv (envM_ok qr0_ok 37) (spInv s) (spOk s) (fun x => s.length - x.i) ⟨0, 0⟩ [] ⟨Nat.zero_le _, by simp only; omega, .inl rfl, fun k hk => by simp only at hk; omega, fun j hj => by simp only at hj; omega⟩ ?_ ?_
  · simp only [spInv, go_sem, reduceCtorEq, ↓reduceIte, Nat.reduceAdd, Nat.reduceMul, Nat.reduceSub, Nat.reduceEqDiff, Nat.reduceLT, Nat.reduceBEq, Nat.reduceBNe, Nat.reduceLeDiff, Int.reduceLE, Int.reduceLT, Int.reduceToNat, Int.reduceEq, Int.reduceAdd, UInt8.reduceToNat, UInt32.reduceToNat, UInt64.reduceToNat, UInt8.reduceOfNat, UInt32.reduceOfNat, UInt64.reduceOfNat, Fin.isValue, Int.reduceSub, Int.reduceMul, Int.reduceNeg, Int.reduceMod, Int.reduceDiv, Int.reduceTDiv, Int.reduceTMod, Int.reduceBEq, Int.reduceBNe, Nat.reduceDiv, Nat.reducePow]
  · intro x hx
    obtain ⟨fr, i⟩ := x
    have hi := hx.1
    have hf := hx.2.1
    simp only at hi hf
    have hw : IntKind.i64.wrap ((i : Int) + 1) = ((i + 1 : Nat) : Int) := by rw [IntKind.wrap_i64]; omega
    have hw2 : IntKind.i64.wrap ((i : Int) + 2) = ((i + 2 : Nat) : Int) := by rw [IntKind.wrap_i64]; omega
    simp only [envM, qr0, spInv, hw, hw2, go_sem, reduceCtorEq, ↓reduceIte, Nat.reduceAdd, Nat.reduceMul, Nat.reduceSub, Nat.reduceEqDiff, Nat.reduceLT, Nat.reduceBEq, Nat.reduceBNe, Nat.reduceLeDiff, Int.reduceLE, Int.reduceLT, Int.reduceToNat, Int.reduceEq, Int.reduceAdd, UInt8.reduceToNat, UInt32.reduceToNat, UInt64.reduceToNat, UInt8.reduceOfNat, UInt32.reduceOfNat, UInt64.reduceOfNat, Fin.isValue, Int.reduceSub, Int.reduceMul, Int.reduceNeg, Int.reduceMod, Int.reduceDiv, Int.reduceTDiv, Int.reduceTMod, Int.reduceBEq, Int.reduceBNe, Nat.reduceDiv, Nat.reducePow]
    refine br (fun h => ?_) fun h => ?_
    · have hlt : i + 1 < s.length := by have := of_decide_eq_true h; omega
      have hci := crAt_iff hlt
      cases h1 : (s.getD i 0 == 13) with
      | false =>
        simp only [envM, qr0, hw, hw2, h1, go_sem, reduceCtorEq, ↓reduceIte, Nat.reduceAdd, Nat.reduceMul, Nat.reduceSub, Nat.reduceEqDiff, Nat.reduceLT, Nat.reduceBEq, Nat.reduceBNe, Nat.reduceLeDiff, Int.reduceLE, Int.reduceLT, Int.reduceToNat, Int.reduceEq, Int.reduceAdd, UInt8.reduceToNat, UInt32.reduceToNat, UInt64.reduceToNat, UInt8.reduceOfNat, UInt32.reduceOfNat, UInt64.reduceOfNat, Fin.isValue, Int.reduceSub, Int.reduceMul, Int.reduceNeg, Int.reduceMod, Int.reduceDiv, Int.reduceTDiv, Int.reduceTMod, Int.reduceBEq, Int.reduceBNe, Nat.reduceDiv, Nat.reducePow]
        repeat' apply And.intro
        rotate_right
        · refine again ⟨fr, i + 1⟩ [] (spOk_step hx (by simp only; omega) fun hc => by rw [beq_eq_false_iff_ne] at h1; exact (h1 (hci.1 hc).1).elim) (by simp only; omega) ?_
          simp only [spInv, go_sem, reduceCtorEq, ↓reduceIte, Nat.reduceAdd, Nat.reduceMul, Nat.reduceSub, Nat.reduceEqDiff, Nat.reduceLT, Nat.reduceBEq, Nat.reduceBNe, Nat.reduceLeDiff, Int.reduceLE, Int.reduceLT, Int.reduceToNat, Int.reduceEq, Int.reduceAdd, UInt8.reduceToNat, UInt32.reduceToNat, UInt64.reduceToNat, UInt8.reduceOfNat, UInt32.reduceOfNat, UInt64.reduceOfNat, Fin.isValue, Int.reduceSub, Int.reduceMul, Int.reduceNeg, Int.reduceMod, Int.reduceDiv, Int.reduceTDiv, Int.reduceTMod, Int.reduceBEq, Int.reduceBNe, Nat.reduceDiv, Nat.reducePow]
        all_goals first | omega | exact rfl | exact id
      | true =>
        cases h2 : (s.getD (i + 1) 0 == 10) with
        | false =>
          simp only [envM, qr0, hw, hw2, h1, h2, go_sem, reduceCtorEq, ↓reduceIte, Nat.reduceAdd, Nat.reduceMul, Nat.reduceSub, Nat.reduceEqDiff, Nat.reduceLT, Nat.reduceBEq, Nat.reduceBNe, Nat.reduceLeDiff, Int.reduceLE, Int.reduceLT, Int.reduceToNat, Int.reduceEq, Int.reduceAdd, UInt8.reduceToNat, UInt32.reduceToNat, UInt64.reduceToNat, UInt8.reduceOfNat, UInt32.reduceOfNat, UInt64.reduceOfNat, Fin.isValue, Int.reduceSub, Int.reduceMul, Int.reduceNeg, Int.reduceMod, Int.reduceDiv, Int.reduceTDiv, Int.reduceTMod, Int.reduceBEq, Int.reduceBNe, Nat.reduceDiv, Nat.reducePow]
          repeat' apply And.intro
          rotate_right
          · refine again ⟨fr, i + 1⟩ [] (spOk_step hx (by simp only; omega) fun hc => by rw [beq_eq_false_iff_ne] at h2; exact (h2 (hci.1 hc).2).elim) (by simp only; omega) ?_
            simp only [spInv, go_sem, reduceCtorEq, ↓reduceIte, Nat.reduceAdd, Nat.reduceMul, Nat.reduceSub, Nat.reduceEqDiff, Nat.reduceLT, Nat.reduceBEq, Nat.reduceBNe, Nat.reduceLeDiff, Int.reduceLE, Int.reduceLT, Int.reduceToNat, Int.reduceEq, Int.reduceAdd, UInt8.reduceToNat, UInt32.reduceToNat, UInt64.reduceToNat, UInt8.reduceOfNat, UInt32.reduceOfNat, UInt64.reduceOfNat, Fin.isValue, Int.reduceSub, Int.reduceMul, Int.reduceNeg, Int.reduceMod, Int.reduceDiv, Int.reduceTDiv, Int.reduceTMod, Int.reduceBEq, Int.reduceBNe, Nat.reduceDiv, Nat.reducePow]
          all_goals first | omega | exact rfl | exact id
        | true =>
          have hc : crAt s i := hci.2 ⟨eq_of_beq h1, eq_of_beq h2⟩
          cases h3 : decide ((i : Int) < fr) with
          | true =>
            simp only [envM, qr0, hw, hw2, h1, h2, h3, go_sem, reduceCtorEq, ↓reduceIte, Nat.reduceAdd, Nat.reduceMul, Nat.reduceSub, Nat.reduceEqDiff, Nat.reduceLT, Nat.reduceBEq, Nat.reduceBNe, Nat.reduceLeDiff, Int.reduceLE, Int.reduceLT, Int.reduceToNat, Int.reduceEq, Int.reduceAdd, UInt8.reduceToNat, UInt32.reduceToNat, UInt64.reduceToNat, UInt8.reduceOfNat, UInt32.reduceOfNat, UInt64.reduceOfNat, Fin.isValue, Int.reduceSub, Int.reduceMul, Int.reduceNeg, Int.reduceMod, Int.reduceDiv, Int.reduceTDiv, Int.reduceTMod, Int.reduceBEq, Int.reduceBNe, Nat.reduceDiv, Nat.reducePow]
            repeat' apply And.intro
            rotate_right
            · refine again ⟨fr, i + 1⟩ [] (spOk_step hx (by simp only; omega) fun _ => by simp only; have := of_decide_eq_true h3; omega) (by simp only; omega) ?_
              simp only [spInv, go_sem, reduceCtorEq, ↓reduceIte, Nat.reduceAdd, Nat.reduceMul, Nat.reduceSub, Nat.reduceEqDiff, Nat.reduceLT, Nat.reduceBEq, Nat.reduceBNe, Nat.reduceLeDiff, Int.reduceLE, Int.reduceLT, Int.reduceToNat, Int.reduceEq, Int.reduceAdd, UInt8.reduceToNat, UInt32.reduceToNat, UInt64.reduceToNat, UInt8.reduceOfNat, UInt32.reduceOfNat, UInt64.reduceOfNat, Fin.isValue, Int.reduceSub, Int.reduceMul, Int.reduceNeg, Int.reduceMod, Int.reduceDiv, Int.reduceTDiv, Int.reduceTMod, Int.reduceBEq, Int.reduceBNe, Nat.reduceDiv, Nat.reducePow]
            all_goals first | omega | exact rfl | exact id
          | false =>
            have h3' := of_decide_eq_false h3
            cases h4 : ((i : Int) == fr) with
            | true =>
              have h4' : i = fr := by have := eq_of_beq h4; omega
              have he := spOk_end hx hc h4'
              simp only at he
              simp only [envM, qr0, hw, hw2, h1, h2, h3, h4, he, go_sem, reduceCtorEq, ↓reduceIte, Nat.reduceAdd, Nat.reduceMul, Nat.reduceSub, Nat.reduceEqDiff, Nat.reduceLT, Nat.reduceBEq, Nat.reduceBNe, Nat.reduceLeDiff, Int.reduceLE, Int.reduceLT, Int.reduceToNat, Int.reduceEq, Int.reduceAdd, UInt8.reduceToNat, UInt32.reduceToNat, UInt64.reduceToNat, UInt8.reduceOfNat, UInt32.reduceOfNat, UInt64.reduceOfNat, Fin.isValue, Int.reduceSub, Int.reduceMul, Int.reduceNeg, Int.reduceMod, Int.reduceDiv, Int.reduceTDiv, Int.reduceTMod, Int.reduceBEq, Int.reduceBNe, Nat.reduceDiv, Nat.reducePow]
              ((repeat' apply And.intro) <;> first | omega | exact rfl | exact id)
            | false =>
              have h4' : i ≠ fr := fun e => by rw [e] at h4; simp at h4
              simp only [envM, qr0, hw, hw2, h1, h2, h3, h4, go_sem, reduceCtorEq, ↓reduceIte, Nat.reduceAdd, Nat.reduceMul, Nat.reduceSub, Nat.reduceEqDiff, Nat.reduceLT, Nat.reduceBEq, Nat.reduceBNe, Nat.reduceLeDiff, Int.reduceLE, Int.reduceLT, Int.reduceToNat, Int.reduceEq, Int.reduceAdd, UInt8.reduceToNat, UInt32.reduceToNat, UInt64.reduceToNat, UInt8.reduceOfNat, UInt32.reduceOfNat, UInt64.reduceOfNat, Fin.isValue, Int.reduceSub, Int.reduceMul, Int.reduceNeg, Int.reduceMod, Int.reduceDiv, Int.reduceTDiv, Int.reduceTMod, Int.reduceBEq, Int.reduceBNe, Nat.reduceDiv, Nat.reducePow]
              repeat' apply And.intro
              rotate_right
              · refine again ⟨i + 2, i + 1⟩ [] (spOk_far hx hc (by simp only; omega) h4') (by simp only; omega) ?_
                simp only [spInv, go_sem, reduceCtorEq, ↓reduceIte, Nat.reduceAdd, Nat.reduceMul, Nat.reduceSub, Nat.reduceEqDiff, Nat.reduceLT, Nat.reduceBEq, Nat.reduceBNe, Nat.reduceLeDiff, Int.reduceLE, Int.reduceLT, Int.reduceToNat, Int.reduceEq, Int.reduceAdd, UInt8.reduceToNat, UInt32.reduceToNat, UInt64.reduceToNat, UInt8.reduceOfNat, UInt32.reduceOfNat, UInt64.reduceOfNat, Fin.isValue, Int.reduceSub, Int.reduceMul, Int.reduceNeg, Int.reduceMod, Int.reduceDiv, Int.reduceTDiv, Int.reduceTMod, Int.reduceBEq, Int.reduceBNe, Nat.reduceDiv, Nat.reducePow]
              all_goals first | omega | exact rfl | exact id
    · have hge : s.length ≤ i + 1 := by have := of_decide_eq_false h; omega
      have he := spOk_none hx hge
      simp only [envM, qr0, he, go_sem, reduceCtorEq, ↓reduceIte, Nat.reduceAdd, Nat.reduceMul, Nat.reduceSub, Nat.reduceEqDiff, Nat.reduceLT, Nat.reduceBEq, Nat.reduceBNe, Nat.reduceLeDiff, Int.reduceLE, Int.reduceLT, Int.reduceToNat, Int.reduceEq, Int.reduceAdd, UInt8.reduceToNat, UInt32.reduceToNat, UInt64.reduceToNat, UInt8.reduceOfNat, UInt32.reduceOfNat, UInt64.reduceOfNat, Fin.isValue, Int.reduceSub, Int.reduceMul, Int.reduceNeg, Int.reduceMod, Int.reduceDiv, Int.reduceTDiv, Int.reduceTMod, Int.reduceBEq, Int.reduceBNe, Nat.reduceDiv, Nat.reducePow]
def refSplitC : Con := con0 fun args => match args with
  | [.one (.str s)] => some (.c (.one (.num (headN s))), [s.length ≤ 1048576])
  | _ => none
theorem refSplitC_ok : ConOkG Tryd.prog GM 38 refSplitC := con0_okG Tryd.func38 rfl rfl fun args res ob h hob => by
  split at h
  · injection h with h; injection h with h1 h2; subst h1; subst h2; exact refSplit_tri _ hob.1
  · cases h
def smallInv (s : List UInt8) : Nat → St
  | 0 => ⟨[(0, .c (.one (.str s))), (3, .c (.one (.val (.slice none 0 0)))), (4, .c (.one (.num (0 : Nat))))], []⟩
  | j + 1 => ⟨[(0, .c (.one (.str s))), (3, .c (.one (.sl 500 0 1 (j + 1)))), (4, .c (.one (.num (j + 1 : Nat))))], [(500, ⟨.arr UInt8 u8L ((s.take (j + 1)).map smc), true⟩)]⟩
theorem small_step (s : List UInt8) {i : Nat} (h : i < s.length) : (s.take i).map smc ++ [smc (s.getD i 0)] = (s.take (i + 1)).map smc := by
  rw [List.take_add_one, List.map_append]
  congr 1
  simp [List.getD_eq_getElem?_getD, h]
set_option maxRecDepth 100000 in
theorem small_tri (s : List UInt8) (hs : s.length ≤ 1048576) : TriG Tryd.prog GM 44 [.one (.str s)] [] (.c (.one (.str (smL s)))) [] := by
  refine tri_of (envM_ok qr0_ok 29) Tryd.func44 rfl rfl (rs := [.tmp 2]) rfl rfl (by simp [envM]) rfl [] ?_
  simp only [envM, qr0, go_sem, reduceCtorEq, ↓reduceIte, Nat.reduceAdd, Nat.reduceMul, Nat.reduceSub, Nat.reduceEqDiff, Nat.reduceLT, Nat.reduceBEq, Nat.reduceBNe, Nat.reduceLeDiff, Int.reduceLE, Int.reduceLT, Int.reduceToNat, Int.reduceEq, Int.reduceAdd, UInt8.reduceToNat, UInt32.reduceToNat, UInt64.reduceToNat, UInt8.reduceOfNat, UInt32.reduceOfNat, UInt64.reduceOfNat, Fin.isValue, Int.reduceSub, Int.reduceMul, Int.reduceNeg, Int.reduceMod, Int.reduceDiv, Int.reduceTDiv, Int.reduceTMod, Int.reduceBEq, Int.reduceBNe, Nat.reduceDiv, Nat.reducePow]
  refine loop_inv (envM_ok qr0_ok 29) (smallInv s) (fun i => i ≤ s.length) (fun i => s.length - i) 0 [] (Nat.zero_le _) ?_ ?_
  · simp only [smallInv, go_sem, reduceCtorEq, ↓reduceIte, Nat.reduceAdd, Nat.reduceMul, Nat.reduceSub, Nat.reduceEqDiff, Nat.reduceLT, Nat.reduceBEq, Nat.reduceBNe, Nat.reduceLeDiff, Int.reduceLE, Int.reduceLT, Int.reduceToNat, Int.reduceEq, Int.reduceAdd, UInt8.reduceToNat, UInt32.reduceToNat, UInt64.reduceToNat, UInt8.reduceOfNat, UInt32.reduceOfNat, UInt64.reduceOfNat, Fin.isValue, Int.reduceSub, Int.reduceMul, Int.reduceNeg, Int.reduceMod, Int.reduceDiv, Int.reduceTDiv, Int.reduceTMod, Int.reduceBEq, Int.reduceBNe, Nat.reduceDiv, Nat.reducePow]
  · intro i hi
    have hw : IntKind.i64.wrap ((i : Int) + 1) = ((i + 1 : Nat) : Int) := by rw [IntKind.wrap_i64]; omega
    have hend : s.length ≤ i → (s.take i).map smc = smL s := fun h => by rw [List.take_of_length_le h]; rfl
    have hlen : ((s.take i).map smc).length = i := by rw [List.length_map, List.length_take]; omega
    have hst : i < s.length → (s.take i).map smc ++ [smc (s.getD i 0)] = (s.take (i + 1)).map smc := fun h => small_step s h
    rcases i with _ | i
    · simp only [envM, qr0, smallInv, hw, go_sem, reduceCtorEq, ↓reduceIte, Nat.reduceAdd, Nat.reduceMul, Nat.reduceSub, Nat.reduceEqDiff, Nat.reduceLT, Nat.reduceBEq, Nat.reduceBNe, Nat.reduceLeDiff, Int.reduceLE, Int.reduceLT, Int.reduceToNat, Int.reduceEq, Int.reduceAdd, UInt8.reduceToNat, UInt32.reduceToNat, UInt64.reduceToNat, UInt8.reduceOfNat, UInt32.reduceOfNat, UInt64.reduceOfNat, Fin.isValue, Int.reduceSub, Int.reduceMul, Int.reduceNeg, Int.reduceMod, Int.reduceDiv, Int.reduceTDiv, Int.reduceTMod, Int.reduceBEq, Int.reduceBNe, Nat.reduceDiv, Nat.reducePow]
      refine br (fun h => ?_) fun h => ?_
      · have hlt : 0 < s.length := by have := of_decide_eq_true h; omega
        have hst := small_step s hlt
        cases h1 : decide (65 ≤ s.getD (0) 0) with
        | false =>
          have he : smc (s.getD (0) 0) = s.getD (0) 0 := by unfold smc; rw [if_neg (fun e => of_decide_eq_false h1 e.1)]
          rw [he] at hst
          simp only [envM, qr0, h, h1, hw, hlen, go_sem, reduceCtorEq, ↓reduceIte, Nat.reduceAdd, Nat.reduceMul, Nat.reduceSub, Nat.reduceEqDiff, Nat.reduceLT, Nat.reduceBEq, Nat.reduceBNe, Nat.reduceLeDiff, Int.reduceLE, Int.reduceLT, Int.reduceToNat, Int.reduceEq, Int.reduceAdd, UInt8.reduceToNat, UInt32.reduceToNat, UInt64.reduceToNat, UInt8.reduceOfNat, UInt32.reduceOfNat, UInt64.reduceOfNat, Fin.isValue, Int.reduceSub, Int.reduceMul, Int.reduceNeg, Int.reduceMod, Int.reduceDiv, Int.reduceTDiv, Int.reduceTMod, Int.reduceBEq, Int.reduceBNe, Nat.reduceDiv, Nat.reducePow]
          repeat' apply And.intro
          rotate_right
          · refine again (0 + 1) [(500, 90024)] (by omega) (by omega) ?_
            simp only [envM, qr0, smallInv, ← hst, List.take_zero, go_sem, reduceCtorEq, ↓reduceIte, Nat.reduceAdd, Nat.reduceMul, Nat.reduceSub, Nat.reduceEqDiff, Nat.reduceLT, Nat.reduceBEq, Nat.reduceBNe, Nat.reduceLeDiff, Int.reduceLE, Int.reduceLT, Int.reduceToNat, Int.reduceEq, Int.reduceAdd, UInt8.reduceToNat, UInt32.reduceToNat, UInt64.reduceToNat, UInt8.reduceOfNat, UInt32.reduceOfNat, UInt64.reduceOfNat, Fin.isValue, Int.reduceSub, Int.reduceMul, Int.reduceNeg, Int.reduceMod, Int.reduceDiv, Int.reduceTDiv, Int.reduceTMod, Int.reduceBEq, Int.reduceBNe, Nat.reduceDiv, Nat.reducePow]
          all_goals first | omega | exact rfl | exact id
        | true =>
          cases h2 : decide (s.getD (0) 0 ≤ 90) with
          | false =>
            have he : smc (s.getD (0) 0) = s.getD (0) 0 := by unfold smc; rw [if_neg (fun e => of_decide_eq_false h2 e.2)]
            rw [he] at hst
            simp only [envM, qr0, h, h1, h2, hw, hlen, go_sem, reduceCtorEq, ↓reduceIte, Nat.reduceAdd, Nat.reduceMul, Nat.reduceSub, Nat.reduceEqDiff, Nat.reduceLT, Nat.reduceBEq, Nat.reduceBNe, Nat.reduceLeDiff, Int.reduceLE, Int.reduceLT, Int.reduceToNat, Int.reduceEq, Int.reduceAdd, UInt8.reduceToNat, UInt32.reduceToNat, UInt64.reduceToNat, UInt8.reduceOfNat, UInt32.reduceOfNat, UInt64.reduceOfNat, Fin.isValue, Int.reduceSub, Int.reduceMul, Int.reduceNeg, Int.reduceMod, Int.reduceDiv, Int.reduceTDiv, Int.reduceTMod, Int.reduceBEq, Int.reduceBNe, Nat.reduceDiv, Nat.reducePow]
            repeat' apply And.intro
            rotate_right
            · refine again (0 + 1) [(500, 90024)] (by omega) (by omega) ?_
              simp only [envM, qr0, smallInv, ← hst, List.take_zero, go_sem, reduceCtorEq, ↓reduceIte, Nat.reduceAdd, Nat.reduceMul, Nat.reduceSub, Nat.reduceEqDiff, Nat.reduceLT, Nat.reduceBEq, Nat.reduceBNe, Nat.reduceLeDiff, Int.reduceLE, Int.reduceLT, Int.reduceToNat, Int.reduceEq, Int.reduceAdd, UInt8.reduceToNat, UInt32.reduceToNat, UInt64.reduceToNat, UInt8.reduceOfNat, UInt32.reduceOfNat, UInt64.reduceOfNat, Fin.isValue, Int.reduceSub, Int.reduceMul, Int.reduceNeg, Int.reduceMod, Int.reduceDiv, Int.reduceTDiv, Int.reduceTMod, Int.reduceBEq, Int.reduceBNe, Nat.reduceDiv, Nat.reducePow]
            all_goals first | omega | exact rfl | exact id
          | true =>
            have he : smc (s.getD (0) 0) = s.getD (0) 0 + 32 := by unfold smc; rw [if_pos ⟨of_decide_eq_true h1, of_decide_eq_true h2⟩]
            rw [he] at hst
            simp only [envM, qr0, h, h1, h2, hw, hlen, go_sem, reduceCtorEq, ↓reduceIte, Nat.reduceAdd, Nat.reduceMul, Nat.reduceSub, Nat.reduceEqDiff, Nat.reduceLT, Nat.reduceBEq, Nat.reduceBNe, Nat.reduceLeDiff, Int.reduceLE, Int.reduceLT, Int.reduceToNat, Int.reduceEq, Int.reduceAdd, UInt8.reduceToNat, UInt32.reduceToNat, UInt64.reduceToNat, UInt8.reduceOfNat, UInt32.reduceOfNat, UInt64.reduceOfNat, Fin.isValue, Int.reduceSub, Int.reduceMul, Int.reduceNeg, Int.reduceMod, Int.reduceDiv, Int.reduceTDiv, Int.reduceTMod, Int.reduceBEq, Int.reduceBNe, Nat.reduceDiv, Nat.reducePow]
            repeat' apply And.intro
            rotate_right
            · refine again (0 + 1) [(500, 90024)] (by omega) (by omega) ?_
              simp only [envM, qr0, smallInv, ← hst, List.take_zero, go_sem, reduceCtorEq, ↓reduceIte, Nat.reduceAdd, Nat.reduceMul, Nat.reduceSub, Nat.reduceEqDiff, Nat.reduceLT, Nat.reduceBEq, Nat.reduceBNe, Nat.reduceLeDiff, Int.reduceLE, Int.reduceLT, Int.reduceToNat, Int.reduceEq, Int.reduceAdd, UInt8.reduceToNat, UInt32.reduceToNat, UInt64.reduceToNat, UInt8.reduceOfNat, UInt32.reduceOfNat, UInt64.reduceOfNat, Fin.isValue, Int.reduceSub, Int.reduceMul, Int.reduceNeg, Int.reduceMod, Int.reduceDiv, Int.reduceTDiv, Int.reduceTMod, Int.reduceBEq, Int.reduceBNe, Nat.reduceDiv, Nat.reducePow]
            all_goals first | omega | exact rfl | exact id
      · have hge : s.length ≤ 0 := by have := of_decide_eq_false h; omega
        have he := hend hge
        have he' : smL s = [] := by rw [← he]; rfl
        simp only [envM, qr0, he', go_sem, reduceCtorEq, ↓reduceIte, Nat.reduceAdd, Nat.reduceMul, Nat.reduceSub, Nat.reduceEqDiff, Nat.reduceLT, Nat.reduceBEq, Nat.reduceBNe, Nat.reduceLeDiff, Int.reduceLE, Int.reduceLT, Int.reduceToNat, Int.reduceEq, Int.reduceAdd, UInt8.reduceToNat, UInt32.reduceToNat, UInt64.reduceToNat, UInt8.reduceOfNat, UInt32.reduceOfNat, UInt64.reduceOfNat, Fin.isValue, Int.reduceSub, Int.reduceMul, Int.reduceNeg, Int.reduceMod, Int.reduceDiv, Int.reduceTDiv, Int.reduceTMod, Int.reduceBEq, Int.reduceBNe, Nat.reduceDiv, Nat.reducePow]
    · simp only [envM, qr0, smallInv, hw, go_sem, reduceCtorEq, ↓reduceIte, Nat.reduceAdd, Nat.reduceMul, Nat.reduceSub, Nat.reduceEqDiff, Nat.reduceLT, Nat.reduceBEq, Nat.reduceBNe, Nat.reduceLeDiff, Int.reduceLE, Int.reduceLT, Int.reduceToNat, Int.reduceEq, Int.reduceAdd, UInt8.reduceToNat, UInt32.reduceToNat, UInt64.reduceToNat, UInt8.reduceOfNat, UInt32.reduceOfNat, UInt64.reduceOfNat, Fin.isValue, Int.reduceSub, Int.reduceMul, Int.reduceNeg, Int.reduceMod, Int.reduceDiv, Int.reduceTDiv, Int.reduceTMod, Int.reduceBEq, Int.reduceBNe, Nat.reduceDiv, Nat.reducePow]
      refine br (fun h => ?_) fun h => ?_
      · have hlt : i + 1 < s.length := by have := of_decide_eq_true h; omega
        have hst := small_step s hlt
        cases h1 : decide (65 ≤ s.getD (i + 1) 0) with
        | false =>
          have he : smc (s.getD (i + 1) 0) = s.getD (i + 1) 0 := by unfold smc; rw [if_neg (fun e => of_decide_eq_false h1 e.1)]
          rw [he] at hst
          simp only [envM, qr0, h, h1, hw, hlen, go_sem, reduceCtorEq, ↓reduceIte, Nat.reduceAdd, Nat.reduceMul, Nat.reduceSub, Nat.reduceEqDiff, Nat.reduceLT, Nat.reduceBEq, Nat.reduceBNe, Nat.reduceLeDiff, Int.reduceLE, Int.reduceLT, Int.reduceToNat, Int.reduceEq, Int.reduceAdd, UInt8.reduceToNat, UInt32.reduceToNat, UInt64.reduceToNat, UInt8.reduceOfNat, UInt32.reduceOfNat, UInt64.reduceOfNat, Fin.isValue, Int.reduceSub, Int.reduceMul, Int.reduceNeg, Int.reduceMod, Int.reduceDiv, Int.reduceTDiv, Int.reduceTMod, Int.reduceBEq, Int.reduceBNe, Nat.reduceDiv, Nat.reducePow]
          repeat' apply And.intro
          rotate_right
          · refine again (i + 1 + 1) [(500, 90024)] (by omega) (by omega) ?_
            simp only [envM, qr0, smallInv, ← hst, List.take_zero, go_sem, reduceCtorEq, ↓reduceIte, Nat.reduceAdd, Nat.reduceMul, Nat.reduceSub, Nat.reduceEqDiff, Nat.reduceLT, Nat.reduceBEq, Nat.reduceBNe, Nat.reduceLeDiff, Int.reduceLE, Int.reduceLT, Int.reduceToNat, Int.reduceEq, Int.reduceAdd, UInt8.reduceToNat, UInt32.reduceToNat, UInt64.reduceToNat, UInt8.reduceOfNat, UInt32.reduceOfNat, UInt64.reduceOfNat, Fin.isValue, Int.reduceSub, Int.reduceMul, Int.reduceNeg, Int.reduceMod, Int.reduceDiv, Int.reduceTDiv, Int.reduceTMod, Int.reduceBEq, Int.reduceBNe, Nat.reduceDiv, Nat.reducePow]
          all_goals first | omega | exact rfl | exact id
        | true =>
          cases h2 : decide (s.getD (i + 1) 0 ≤ 90) with
          | false =>
            have he : smc (s.getD (i + 1) 0) = s.getD (i + 1) 0 := by unfold smc; rw [if_neg (fun e => of_decide_eq_false h2 e.2)]
            rw [he] at hst
            simp only [envM, qr0, h, h1, h2, hw, hlen, go_sem, reduceCtorEq, ↓reduceIte, Nat.reduceAdd, Nat.reduceMul, Nat.reduceSub, Nat.reduceEqDiff, Nat.reduceLT, Nat.reduceBEq, Nat.reduceBNe, Nat.reduceLeDiff, Int.reduceLE, Int.reduceLT, Int.reduceToNat, Int.reduceEq, Int.reduceAdd, UInt8.reduceToNat, UInt32.reduceToNat, UInt64.reduceToNat, UInt8.reduceOfNat, UInt32.reduceOfNat, UInt64.reduceOfNat, Fin.isValue, Int.reduceSub, Int.reduceMul, Int.reduceNeg, Int.reduceMod, Int.reduceDiv, Int.reduceTDiv, Int.reduceTMod, Int.reduceBEq, Int.reduceBNe, Nat.reduceDiv, Nat.reducePow]
            repeat' apply And.intro
            rotate_right
            · refine again (i + 1 + 1) [(500, 90024)] (by omega) (by omega) ?_
              simp only [envM, qr0, smallInv, ← hst, List.take_zero, go_sem, reduceCtorEq, ↓reduceIte, Nat.reduceAdd, Nat.reduceMul, Nat.reduceSub, Nat.reduceEqDiff, Nat.reduceLT, Nat.reduceBEq, Nat.reduceBNe, Nat.reduceLeDiff, Int.reduceLE, Int.reduceLT, Int.reduceToNat, Int.reduceEq, Int.reduceAdd, UInt8.reduceToNat, UInt32.reduceToNat, UInt64.reduceToNat, UInt8.reduceOfNat, UInt32.reduceOfNat, UInt64.reduceOfNat, Fin.isValue, Int.reduceSub, Int.reduceMul, Int.reduceNeg, Int.reduceMod, Int.reduceDiv, Int.reduceTDiv, Int.reduceTMod, Int.reduceBEq, Int.reduceBNe, Nat.reduceDiv, Nat.reducePow]
            all_goals first | omega | exact rfl | exact id
          | true =>
            have he : smc (s.getD (i + 1) 0) = s.getD (i + 1) 0 + 32 := by unfold smc; rw [if_pos ⟨of_decide_eq_true h1, of_decide_eq_true h2⟩]
            rw [he] at hst
            simp only [envM, qr0, h, h1, h2, hw, hlen, go_sem, reduceCtorEq, ↓reduceIte, Nat.reduceAdd, Nat.reduceMul, Nat.reduceSub, Nat.reduceEqDiff, Nat.reduceLT, Nat.reduceBEq, Nat.reduceBNe, Nat.reduceLeDiff, Int.reduceLE, Int.reduceLT, Int.reduceToNat, Int.reduceEq, Int.reduceAdd, UInt8.reduceToNat, UInt32.reduceToNat, UInt64.reduceToNat, UInt8.reduceOfNat, UInt32.reduceOfNat, UInt64.reduceOfNat, Fin.isValue, Int.reduceSub, Int.reduceMul, Int.reduceNeg, Int.reduceMod, Int.reduceDiv, Int.reduceTDiv, Int.reduceTMod, Int.reduceBEq, Int.reduceBNe, Nat.reduceDiv, Nat.reducePow]
            repeat' apply And.intro
            rotate_right
            · refine again (i + 1 + 1) [(500, 90024)] (by omega) (by omega) ?_
              simp only [envM, qr0, smallInv, ← hst, List.take_zero, go_sem, reduceCtorEq, ↓reduceIte, Nat.reduceAdd, Nat.reduceMul, Nat.reduceSub, Nat.reduceEqDiff, Nat.reduceLT, Nat.reduceBEq, Nat.reduceBNe, Nat.reduceLeDiff, Int.reduceLE, Int.reduceLT, Int.reduceToNat, Int.reduceEq, Int.reduceAdd, UInt8.reduceToNat, UInt32.reduceToNat, UInt64.reduceToNat, UInt8.reduceOfNat, UInt32.reduceOfNat, UInt64.reduceOfNat, Fin.isValue, Int.reduceSub, Int.reduceMul, Int.reduceNeg, Int.reduceMod, Int.reduceDiv, Int.reduceTDiv, Int.reduceTMod, Int.reduceBEq, Int.reduceBNe, Nat.reduceDiv, Nat.reducePow]
            all_goals first | omega | exact rfl | exact id
      · have hge : s.length ≤ i + 1 := by have := of_decide_eq_false h; omega
        have he := hend hge
        simp only [envM, qr0, ← he, hlen, go_sem, reduceCtorEq, ↓reduceIte, Nat.reduceAdd, Nat.reduceMul, Nat.reduceSub, Nat.reduceEqDiff, Nat.reduceLT, Nat.reduceBEq, Nat.reduceBNe, Nat.reduceLeDiff, Int.reduceLE, Int.reduceLT, Int.reduceToNat, Int.reduceEq, Int.reduceAdd, UInt8.reduceToNat, UInt32.reduceToNat, UInt64.reduceToNat, UInt8.reduceOfNat, UInt32.reduceOfNat, UInt64.reduceOfNat, Fin.isValue, Int.reduceSub, Int.reduceMul, Int.reduceNeg, Int.reduceMod, Int.reduceDiv, Int.reduceTDiv, Int.reduceTMod, Int.reduceBEq, Int.reduceBNe, Nat.reduceDiv, Nat.reducePow]
        exact congrArg AV.str (List.take_of_length_le (by rw [hlen]; exact Nat.le_refl _)).symm
def smallC : Con := con0 fun args => match args with
  | [.one (.str s)] => some (.c (.one (.str (smL s))), [s.length ≤ 1048576])
  | _ => none
theorem smallC_ok : ConOkG Tryd.prog GM 44 smallC := con0_okG Tryd.func44 rfl rfl fun args res ob h hob => by
  split at h
  · injection h with h; injection h with h1 h2; subst h1; subst h2; exact small_tri _ hob.1
  · cases h
theorem occ_take {s t : List UInt8} {i : Nat} : Lib.occAt s t i = ((s.drop i).take t.length == t) := by
  unfold Lib.occAt
  rw [Bool.eq_iff_iff, List.isPrefixOf_iff_prefix, beq_iff_eq, List.prefix_iff_eq_take]
  exact ⟨fun h => h.symm, fun h => h.symm⟩
theorem has_no {s t : List UInt8} (h : ∀ i, i + t.length ≤ s.length → Lib.occAt s t i = false) : Lib.contains s t = false := by
  unfold Lib.contains
  rcases Lib.index_spec s t with ⟨h1, _⟩ | ⟨k, h1, h2, h3, _⟩
  · rw [h1]; rfl
  · exfalso
    have hp : t <+: s.drop k := List.isPrefixOf_iff_prefix.1 h3
    have hl := hp.length_le
    rw [List.length_drop] at hl
    have := h k (by omega)
    rw [h3] at this
    cases this
def qr1 : Nat → Option Con := fun f => match f with
  | 44 => some smallC
  | _ => none
theorem qr1_ok : GaOkG Tryd.prog GM qr1 := fun f con h => by
  unfold qr1 at h
  split at h
  · injection h with h; subst h; exact smallC_ok
  · cases h
def rhasInv (S T : List UInt8) (i : Nat) : St := ⟨[(0, .c (.one (.str S))), (1, .c (.one (.str T))), (5, .c (.one (.num i)))], []⟩
set_option maxRecDepth 100000 in
theorem refHas_tri (s t : List UInt8) (hs : s.length ≤ 1048576) (ht : t.length ≤ 1048576) : TriG Tryd.prog GM 42 [.one (.str s), .one (.str t)] [] (.c (.one (.bo (Lib.contains (smL s) (smL t))))) [] := by
  refine tri_of (envM_ok qr1_ok 28) Tryd.func42 rfl rfl (rs := [.tmp 4]) rfl rfl (by simp [envM]) rfl [] ?_
  have hS := smL_len s
  have hT := smL_len t
  generalize hSe : smL s = S at hS ⊢
  generalize hTe : smL t = T at hT ⊢
  simp only [envM, qr1, smallC, hSe, hTe, go_sem, reduceCtorEq, ↓reduceIte, Nat.reduceAdd, Nat.reduceMul, Nat.reduceSub, Nat.reduceEqDiff, Nat.reduceLT, Nat.reduceBEq, Nat.reduceBNe, Nat.reduceLeDiff, Int.reduceLE, Int.reduceLT, Int.reduceToNat, Int.reduceEq, Int.reduceAdd, UInt8.reduceToNat, UInt32.reduceToNat, UInt64.reduceToNat, UInt8.reduceOfNat, UInt32.reduceOfNat, UInt64.reduceOfNat, Fin.isValue, Int.reduceSub, Int.reduceMul, Int.reduceNeg, Int.reduceMod, Int.reduceDiv, Int.reduceTDiv, Int.reduceTMod, Int.reduceBEq, Int.reduceBNe, Nat.reduceDiv, Nat.reducePow]
  refine ⟨hs, ht, loop_inv (envM_ok qr1_ok 28) (rhasInv S T) (fun i => i ≤ S.length + 1 ∧ ∀ j, j < i → Lib.occAt S T j = false) (fun i => S.length + 1 - i) 0 [] ⟨Nat.zero_le _, fun j hj => by omega⟩ ?_ ?_⟩
  · simp only [rhasInv, go_sem, reduceCtorEq, ↓reduceIte, Nat.reduceAdd, Nat.reduceMul, Nat.reduceSub, Nat.reduceEqDiff, Nat.reduceLT, Nat.reduceBEq, Nat.reduceBNe, Nat.reduceLeDiff, Int.reduceLE, Int.reduceLT, Int.reduceToNat, Int.reduceEq, Int.reduceAdd, UInt8.reduceToNat, UInt32.reduceToNat, UInt64.reduceToNat, UInt8.reduceOfNat, UInt32.reduceOfNat, UInt64.reduceOfNat, Fin.isValue, Int.reduceSub, Int.reduceMul, Int.reduceNeg, Int.reduceMod, Int.reduceDiv, Int.reduceTDiv, Int.reduceTMod, Int.reduceBEq, Int.reduceBNe, Nat.reduceDiv, Nat.reducePow]
  · intro i hi
    have hw : IntKind.i64.wrap ((i : Int) + 1) = ((i + 1 : Nat) : Int) := by rw [IntKind.wrap_i64]; omega
    have hw2 : IntKind.i64.wrap ((i : Int) + T.length) = ((i + T.length : Nat) : Int) := by rw [IntKind.wrap_i64]; omega
    simp only [envM, qr1, smallC, rhasInv, hw, hw2, go_sem, reduceCtorEq, ↓reduceIte, Nat.reduceAdd, Nat.reduceMul, Nat.reduceSub, Nat.reduceEqDiff, Nat.reduceLT, Nat.reduceBEq, Nat.reduceBNe, Nat.reduceLeDiff, Int.reduceLE, Int.reduceLT, Int.reduceToNat, Int.reduceEq, Int.reduceAdd, UInt8.reduceToNat, UInt32.reduceToNat, UInt64.reduceToNat, UInt8.reduceOfNat, UInt32.reduceOfNat, UInt64.reduceOfNat, Fin.isValue, Int.reduceSub, Int.reduceMul, Int.reduceNeg, Int.reduceMod, Int.reduceDiv, Int.reduceTDiv, Int.reduceTMod, Int.reduceBEq, Int.reduceBNe, Nat.reduceDiv, Nat.reducePow]
    refine br (fun h => ?_) fun h => ?_
    · have hlt : i + T.length ≤ S.length := by have := of_decide_eq_true h; omega
      have ho := occ_take (s := S) (t := T) (i := i)
      have hsub : i + T.length - i = T.length := by omega
      simp only [envM, qr1, smallC, h, hw, hw2, hsub, go_sem, reduceCtorEq, ↓reduceIte, Nat.reduceAdd, Nat.reduceMul, Nat.reduceSub, Nat.reduceEqDiff, Nat.reduceLT, Nat.reduceBEq, Nat.reduceBNe, Nat.reduceLeDiff, Int.reduceLE, Int.reduceLT, Int.reduceToNat, Int.reduceEq, Int.reduceAdd, UInt8.reduceToNat, UInt32.reduceToNat, UInt64.reduceToNat, UInt8.reduceOfNat, UInt32.reduceOfNat, UInt64.reduceOfNat, Fin.isValue, Int.reduceSub, Int.reduceMul, Int.reduceNeg, Int.reduceMod, Int.reduceDiv, Int.reduceTDiv, Int.reduceTMod, Int.reduceBEq, Int.reduceBNe, Nat.reduceDiv, Nat.reducePow]
      refine ⟨⟨by omega, by omega, by omega⟩, br (fun h2 => ?_) fun h2 => ?_⟩
      · have he : Lib.contains S T = true := has_of_occ (i := i) (by omega) (ho.trans h2)
        simp only [envM, qr1, smallC, h2, he, hw, hw2, hsub, go_sem, reduceCtorEq, ↓reduceIte, Nat.reduceAdd, Nat.reduceMul, Nat.reduceSub, Nat.reduceEqDiff, Nat.reduceLT, Nat.reduceBEq, Nat.reduceBNe, Nat.reduceLeDiff, Int.reduceLE, Int.reduceLT, Int.reduceToNat, Int.reduceEq, Int.reduceAdd, UInt8.reduceToNat, UInt32.reduceToNat, UInt64.reduceToNat, UInt8.reduceOfNat, UInt32.reduceOfNat, UInt64.reduceOfNat, Fin.isValue, Int.reduceSub, Int.reduceMul, Int.reduceNeg, Int.reduceMod, Int.reduceDiv, Int.reduceTDiv, Int.reduceTMod, Int.reduceBEq, Int.reduceBNe, Nat.reduceDiv, Nat.reducePow]
      · have hno := ho.trans h2
        simp only [envM, qr1, smallC, h2, hw, hw2, hsub, go_sem, reduceCtorEq, ↓reduceIte, Nat.reduceAdd, Nat.reduceMul, Nat.reduceSub, Nat.reduceEqDiff, Nat.reduceLT, Nat.reduceBEq, Nat.reduceBNe, Nat.reduceLeDiff, Int.reduceLE, Int.reduceLT, Int.reduceToNat, Int.reduceEq, Int.reduceAdd, UInt8.reduceToNat, UInt32.reduceToNat, UInt64.reduceToNat, UInt8.reduceOfNat, UInt32.reduceOfNat, UInt64.reduceOfNat, Fin.isValue, Int.reduceSub, Int.reduceMul, Int.reduceNeg, Int.reduceMod, Int.reduceDiv, Int.reduceTDiv, Int.reduceTMod, Int.reduceBEq, Int.reduceBNe, Nat.reduceDiv, Nat.reducePow]
        refine again (i + 1) [] ⟨by omega, fun j hj => ?_⟩ (by omega) ?_
        · rcases Nat.lt_or_ge j i with h' | h'
          · exact hi.2 j h'
          · have : j = i := by omega
            subst this; exact hno
        · simp only [rhasInv, go_sem, reduceCtorEq, ↓reduceIte, Nat.reduceAdd, Nat.reduceMul, Nat.reduceSub, Nat.reduceEqDiff, Nat.reduceLT, Nat.reduceBEq, Nat.reduceBNe, Nat.reduceLeDiff, Int.reduceLE, Int.reduceLT, Int.reduceToNat, Int.reduceEq, Int.reduceAdd, UInt8.reduceToNat, UInt32.reduceToNat, UInt64.reduceToNat, UInt8.reduceOfNat, UInt32.reduceOfNat, UInt64.reduceOfNat, Fin.isValue, Int.reduceSub, Int.reduceMul, Int.reduceNeg, Int.reduceMod, Int.reduceDiv, Int.reduceTDiv, Int.reduceTMod, Int.reduceBEq, Int.reduceBNe, Nat.reduceDiv, Nat.reducePow]
    · have hge : S.length < i + T.length := by have := of_decide_eq_false h; omega
      have he : Lib.contains S T = false := has_no fun k hk => hi.2 k (by omega)
      simp only [envM, qr1, smallC, he, go_sem, reduceCtorEq, ↓reduceIte, Nat.reduceAdd, Nat.reduceMul, Nat.reduceSub, Nat.reduceEqDiff, Nat.reduceLT, Nat.reduceBEq, Nat.reduceBNe, Nat.reduceLeDiff, Int.reduceLE, Int.reduceLT, Int.reduceToNat, Int.reduceEq, Int.reduceAdd, UInt8.reduceToNat, UInt32.reduceToNat, UInt64.reduceToNat, UInt8.reduceOfNat, UInt32.reduceOfNat, UInt64.reduceOfNat, Fin.isValue, Int.reduceSub, Int.reduceMul, Int.reduceNeg, Int.reduceMod, Int.reduceDiv, Int.reduceTDiv, Int.reduceTMod, Int.reduceBEq, Int.reduceBNe, Nat.reduceDiv, Nat.reducePow]
def refHasC : Con := con0 fun args => match args with
  | [.one (.str s), .one (.str t)] => some (.c (.one (.bo (Lib.contains (smL s) (smL t)))), [s.length ≤ 1048576, t.length ≤ 1048576])
  | _ => none
theorem refHasC_ok : ConOkG Tryd.prog GM 42 refHasC := con0_okG Tryd.func42 rfl rfl fun args res ob h hob => by
  split at h
  · injection h with h; injection h with h1 h2; subst h1; subst h2; exact refHas_tri _ _ hob.1 hob.2.1
  · cases h
structure RowX where
  fr : Nat
  i : Nat
  acc : List (List UInt8)
def rowsInv (s : List UInt8) (x : RowX) : St := match x.acc.length with
  | 0 => ⟨[(0, .c (.one (.str s))), (3, .c (.one (.val (.slice none 0 0)))), (4, .c (.one (.num x.fr))), (5, .c (.one (.num x.i)))], []⟩
  | j + 1 => ⟨[(0, .c (.one (.str s))), (3, .c (.one (.sl 500 0 1 (j + 1)))), (4, .c (.one (.num x.fr))), (5, .c (.one (.num x.i)))], [(500, ⟨.arr _ strL x.acc, true⟩)]⟩
def rowsOk (s : List UInt8) (x : RowX) : Prop := x.i ≤ s.length ∧ x.fr ≤ s.length ∧ x.fr ≤ x.i + 1 ∧ x.acc.length ≤ x.i ∧ (∀ k, x.fr ≤ k → k < x.i → ¬ crAt s k) ∧ x.acc ++ rowsL (s.drop x.fr) = rowsL s
theorem rowsOk_step {s : List UInt8} {x : RowX} (h : rowsOk s x) (hi : x.i < s.length) (hn : x.fr ≤ x.i → ¬ crAt s x.i) : rowsOk s ⟨x.fr, x.i + 1, x.acc⟩ := by
  obtain ⟨h1, h2, h3, h4, h5, h6⟩ := h
  refine ⟨hi, h2, by simp only; omega, by simp only; omega, fun k k1 k2 => ?_, h6⟩
  simp only at k1 k2
  rcases Nat.lt_or_ge k x.i with h' | h'
  · exact h5 k k1 h'
  · have : k = x.i := by omega
    rw [this]; exact hn (by omega)
theorem crAt_drop {s : List UInt8} {a k : Nat} : crAt (s.drop a) k ↔ crAt s (a + k) := by
  unfold crAt
  rw [List.getElem?_drop, List.getElem?_drop, Nat.add_assoc]
theorem rowsOk_row {s : List UInt8} {x : RowX} (h : rowsOk s x) (hf : x.fr ≤ x.i) (hc : crAt s x.i) : rowsOk s ⟨x.i + 2, x.i + 1, x.acc ++ [(s.drop x.fr).take (x.i - x.fr)]⟩ := by
  obtain ⟨h1, h2, h3, h4, h5, h6⟩ := h
  have hl := crAt_lt hc
  have he : eol (s.drop x.fr) = some (x.i - x.fr) := by
    have hc' : crAt (s.drop x.fr) (x.i - x.fr) := crAt_drop.2 (by rw [show x.fr + (x.i - x.fr) = x.i by omega]; exact hc)
    exact eol_first hc'.1 hc'.2 fun j hj hcj => h5 (x.fr + j) (by omega) (by omega) (crAt_drop.1 hcj)
  refine ⟨by simp only; omega, by simp only; omega, by simp only; omega, by simp only [List.length_append, List.length_cons, List.length_nil]; omega, fun k k1 k2 => by simp only at k1 k2; omega, ?_⟩
  rw [← h6, rowsL_some he, List.drop_drop, List.append_assoc, show x.fr + (x.i - x.fr + 2) = x.i + 2 by omega]
  rfl
theorem rowsOk_end {s : List UInt8} {x : RowX} (h : rowsOk s x) (hi : s.length ≤ x.i) : x.acc ++ [s.drop x.fr] = rowsL s := by
  obtain ⟨h1, h2, h3, h4, h5, h6⟩ := h
  rw [← h6]
  cases he : eol (s.drop x.fr) with
  | none => rw [rowsL_none he]
  | some i =>
    obtain ⟨k1, k2, k3, _⟩ := eol_spec he
    have hc : crAt s (x.fr + i) := crAt_drop.1 ⟨k2, k3⟩
    rw [List.length_drop] at k1
    exact (h5 _ (by omega) (by omega) hc).elim
set_option maxRecDepth 100000 in
theorem refRows_tri (s : List UInt8) (hs : s.length ≤ 1048576) : TriG Tryd.prog GM 40 [.one (.str s)] [] (.c (.one (.sl 0 0 1 (rowsL s).length))) (hpN 0 [.arr _ strL (rowsL s)]) := by
  refine tri_ofx (envMK_ok qr0_ok 50 []) Tryd.func40 rfl rfl (rs := [.tmp 2]) rfl rfl (by simp [envMK]) rfl ?_
  simp only [envMK, con0, conS, strsOf_arr, rowS_arr, strsOf_cells, rowS_cells, toS, strL_st, strL_d, strL_enc, strL_up, hpN_nil, hpN_cons, qr0, go_sem, reduceCtorEq, ↓reduceIte, Nat.reduceAdd, Nat.reduceMul, Nat.reduceSub, Nat.reduceEqDiff, Nat.reduceLT, Nat.reduceBEq, Nat.reduceBNe, Nat.reduceLeDiff, Int.reduceLE, Int.reduceLT, Int.reduceToNat, Int.reduceEq, Int.reduceAdd, UInt8.reduceToNat, UInt32.reduceToNat, UInt64.reduceToNat, UInt8.reduceOfNat, UInt32.reduceOfNat, UInt64.reduceOfNat, Fin.isValue, Int.reduceSub, Int.reduceMul, Int.reduceNeg, Int.reduceMod, Int.reduceDiv, Int.reduceTDiv, Int.reduceTMod, Int.reduceBEq, Int.reduceBNe, Nat.reduceDiv, Nat.reducePow]
  refine loop_inv (envMK_ok qr0_ok 50 []) (rowsInv s) (rowsOk s) (fun x => s.length - x.i) ⟨0, 0, []⟩ [] ⟨Nat.zero_le _, Nat.zero_le _, by simp only; omega, Nat.le_refl _, fun k k1 k2 => by simp only at k2; omega, rfl⟩ ?_ ?_
  · simp only [rowsInv, go_sem, reduceCtorEq, ↓reduceIte, Nat.reduceAdd, Nat.reduceMul, Nat.reduceSub, Nat.reduceEqDiff, Nat.reduceLT, Nat.reduceBEq, Nat.reduceBNe, Nat.reduceLeDiff, Int.reduceLE, Int.reduceLT, Int.reduceToNat, Int.reduceEq, Int.reduceAdd, UInt8.reduceToNat, UInt32.reduceToNat, UInt64.reduceToNat, UInt8.reduceOfNat, UInt32.reduceOfNat, UInt64.reduceOfNat, Fin.isValue, Int.reduceSub, Int.reduceMul, Int.reduceNeg, Int.reduceMod, Int.reduceDiv, Int.reduceTDiv, Int.reduceTMod, Int.reduceBEq, Int.reduceBNe, Nat.reduceDiv, Nat.reducePow]
  · intro x hx
    obtain ⟨fr, i, acc⟩ := x
    have hi := hx.1
    have hf := hx.2.1
    have hfi := hx.2.2.1
    have hal := hx.2.2.2.1
    simp only at hi hf hfi hal
    have hw : IntKind.i64.wrap ((i : Int) + 1) = ((i + 1 : Nat) : Int) := by rw [IntKind.wrap_i64]; omega
    have hw2 : IntKind.i64.wrap ((i : Int) + 2) = ((i + 2 : Nat) : Int) := by rw [IntKind.wrap_i64]; omega
    generalize hj : acc.length = j at hal
    rcases j with _ | j
    · obtain rfl := List.eq_nil_of_length_eq_zero hj
      simp only [envMK, con0, conS, strsOf_arr, rowS_arr, strsOf_cells, rowS_cells, toS, strL_st, strL_d, strL_enc, strL_up, hpN_nil, hpN_cons, qr0, rowsInv, hw, hw2, hj, go_sem, reduceCtorEq, ↓reduceIte, Nat.reduceAdd, Nat.reduceMul, Nat.reduceSub, Nat.reduceEqDiff, Nat.reduceLT, Nat.reduceBEq, Nat.reduceBNe, Nat.reduceLeDiff, Int.reduceLE, Int.reduceLT, Int.reduceToNat, Int.reduceEq, Int.reduceAdd, UInt8.reduceToNat, UInt32.reduceToNat, UInt64.reduceToNat, UInt8.reduceOfNat, UInt32.reduceOfNat, UInt64.reduceOfNat, Fin.isValue, Int.reduceSub, Int.reduceMul, Int.reduceNeg, Int.reduceMod, Int.reduceDiv, Int.reduceTDiv, Int.reduceTMod, Int.reduceBEq, Int.reduceBNe, Nat.reduceDiv, Nat.reducePow]
      refine br (fun h => ?_) fun h => ?_
      · have hlt : i < s.length := by have := of_decide_eq_true h; omega
        cases h1 : decide ((fr : Int) ≤ i) with
        | false =>
          simp only [envMK, con0, conS, strsOf_arr, rowS_arr, strsOf_cells, rowS_cells, toS, strL_st, strL_d, strL_enc, strL_up, hpN_nil, hpN_cons, qr0, h, h1, hw, hw2, hj, go_sem, reduceCtorEq, ↓reduceIte, Nat.reduceAdd, Nat.reduceMul, Nat.reduceSub, Nat.reduceEqDiff, Nat.reduceLT, Nat.reduceBEq, Nat.reduceBNe, Nat.reduceLeDiff, Int.reduceLE, Int.reduceLT, Int.reduceToNat, Int.reduceEq, Int.reduceAdd, UInt8.reduceToNat, UInt32.reduceToNat, UInt64.reduceToNat, UInt8.reduceOfNat, UInt32.reduceOfNat, UInt64.reduceOfNat, Fin.isValue, Int.reduceSub, Int.reduceMul, Int.reduceNeg, Int.reduceMod, Int.reduceDiv, Int.reduceTDiv, Int.reduceTMod, Int.reduceBEq, Int.reduceBNe, Nat.reduceDiv, Nat.reducePow]
          repeat' apply And.intro
          rotate_right
          · refine again ⟨fr, i + 1, []⟩ [] (rowsOk_step hx hlt fun hc => (of_decide_eq_false h1 (by simp only at hc; omega)).elim) (by simp only; omega) ?_
            simp only [rowsInv, envMK, con0, conS, strsOf_arr, rowS_arr, strsOf_cells, rowS_cells, toS, strL_st, strL_d, strL_enc, strL_up, hpN_nil, hpN_cons, qr0, go_sem, reduceCtorEq, ↓reduceIte, Nat.reduceAdd, Nat.reduceMul, Nat.reduceSub, Nat.reduceEqDiff, Nat.reduceLT, Nat.reduceBEq, Nat.reduceBNe, Nat.reduceLeDiff, Int.reduceLE, Int.reduceLT, Int.reduceToNat, Int.reduceEq, Int.reduceAdd, UInt8.reduceToNat, UInt32.reduceToNat, UInt64.reduceToNat, UInt8.reduceOfNat, UInt32.reduceOfNat, UInt64.reduceOfNat, Fin.isValue, Int.reduceSub, Int.reduceMul, Int.reduceNeg, Int.reduceMod, Int.reduceDiv, Int.reduceTDiv, Int.reduceTMod, Int.reduceBEq, Int.reduceBNe, Nat.reduceDiv, Nat.reducePow]
          all_goals first | omega | exact rfl | exact id
        | true =>
          cases h2 : decide (((i + 1 : Nat) : Int) < s.length) with
          | false =>
            simp only [envMK, con0, conS, strsOf_arr, rowS_arr, strsOf_cells, rowS_cells, toS, strL_st, strL_d, strL_enc, strL_up, hpN_nil, hpN_cons, qr0, h, h1, h2, hw, hw2, hj, go_sem, reduceCtorEq, ↓reduceIte, Nat.reduceAdd, Nat.reduceMul, Nat.reduceSub, Nat.reduceEqDiff, Nat.reduceLT, Nat.reduceBEq, Nat.reduceBNe, Nat.reduceLeDiff, Int.reduceLE, Int.reduceLT, Int.reduceToNat, Int.reduceEq, Int.reduceAdd, UInt8.reduceToNat, UInt32.reduceToNat, UInt64.reduceToNat, UInt8.reduceOfNat, UInt32.reduceOfNat, UInt64.reduceOfNat, Fin.isValue, Int.reduceSub, Int.reduceMul, Int.reduceNeg, Int.reduceMod, Int.reduceDiv, Int.reduceTDiv, Int.reduceTMod, Int.reduceBEq, Int.reduceBNe, Nat.reduceDiv, Nat.reducePow]
            repeat' apply And.intro
            rotate_right
            · refine again ⟨fr, i + 1, []⟩ [] (rowsOk_step hx hlt fun _ hc => by have := crAt_lt hc; simp only at this; exact of_decide_eq_false h2 (by omega)) (by simp only; omega) ?_
              simp only [rowsInv, envMK, con0, conS, strsOf_arr, rowS_arr, strsOf_cells, rowS_cells, toS, strL_st, strL_d, strL_enc, strL_up, hpN_nil, hpN_cons, qr0, go_sem, reduceCtorEq, ↓reduceIte, Nat.reduceAdd, Nat.reduceMul, Nat.reduceSub, Nat.reduceEqDiff, Nat.reduceLT, Nat.reduceBEq, Nat.reduceBNe, Nat.reduceLeDiff, Int.reduceLE, Int.reduceLT, Int.reduceToNat, Int.reduceEq, Int.reduceAdd, UInt8.reduceToNat, UInt32.reduceToNat, UInt64.reduceToNat, UInt8.reduceOfNat, UInt32.reduceOfNat, UInt64.reduceOfNat, Fin.isValue, Int.reduceSub, Int.reduceMul, Int.reduceNeg, Int.reduceMod, Int.reduceDiv, Int.reduceTDiv, Int.reduceTMod, Int.reduceBEq, Int.reduceBNe, Nat.reduceDiv, Nat.reducePow]
            all_goals first | omega | exact rfl | exact id
          | true =>
            have hl2 : i + 1 < s.length := by have := of_decide_eq_true h2; omega
            have hci := crAt_iff hl2
            cases h3 : (s.getD i 0 == 13) with
            | false =>
              simp only [envMK, con0, conS, strsOf_arr, rowS_arr, strsOf_cells, rowS_cells, toS, strL_st, strL_d, strL_enc, strL_up, hpN_nil, hpN_cons, qr0, h, h1, h2, h3, hw, hw2, hj, go_sem, reduceCtorEq, ↓reduceIte, Nat.reduceAdd, Nat.reduceMul, Nat.reduceSub, Nat.reduceEqDiff, Nat.reduceLT, Nat.reduceBEq, Nat.reduceBNe, Nat.reduceLeDiff, Int.reduceLE, Int.reduceLT, Int.reduceToNat, Int.reduceEq, Int.reduceAdd, UInt8.reduceToNat, UInt32.reduceToNat, UInt64.reduceToNat, UInt8.reduceOfNat, UInt32.reduceOfNat, UInt64.reduceOfNat, Fin.isValue, Int.reduceSub, Int.reduceMul, Int.reduceNeg, Int.reduceMod, Int.reduceDiv, Int.reduceTDiv, Int.reduceTMod, Int.reduceBEq, Int.reduceBNe, Nat.reduceDiv, Nat.reducePow]
              repeat' apply And.intro
              rotate_right
              · refine again ⟨fr, i + 1, []⟩ [] (rowsOk_step hx hlt fun _ hc => by rw [beq_eq_false_iff_ne] at h3; exact h3 (hci.1 hc).1) (by simp only; omega) ?_
                simp only [rowsInv, envMK, con0, conS, strsOf_arr, rowS_arr, strsOf_cells, rowS_cells, toS, strL_st, strL_d, strL_enc, strL_up, hpN_nil, hpN_cons, qr0, go_sem, reduceCtorEq, ↓reduceIte, Nat.reduceAdd, Nat.reduceMul, Nat.reduceSub, Nat.reduceEqDiff, Nat.reduceLT, Nat.reduceBEq, Nat.reduceBNe, Nat.reduceLeDiff, Int.reduceLE, Int.reduceLT, Int.reduceToNat, Int.reduceEq, Int.reduceAdd, UInt8.reduceToNat, UInt32.reduceToNat, UInt64.reduceToNat, UInt8.reduceOfNat, UInt32.reduceOfNat, UInt64.reduceOfNat, Fin.isValue, Int.reduceSub, Int.reduceMul, Int.reduceNeg, Int.reduceMod, Int.reduceDiv, Int.reduceTDiv, Int.reduceTMod, Int.reduceBEq, Int.reduceBNe, Nat.reduceDiv, Nat.reducePow]
              all_goals first | omega | exact rfl | exact id
            | true =>
              cases h4 : (s.getD (i + 1) 0 == 10) with
              | false =>
                simp only [envMK, con0, conS, strsOf_arr, rowS_arr, strsOf_cells, rowS_cells, toS, strL_st, strL_d, strL_enc, strL_up, hpN_nil, hpN_cons, qr0, h, h1, h2, h3, h4, hw, hw2, hj, go_sem, reduceCtorEq, ↓reduceIte, Nat.reduceAdd, Nat.reduceMul, Nat.reduceSub, Nat.reduceEqDiff, Nat.reduceLT, Nat.reduceBEq, Nat.reduceBNe, Nat.reduceLeDiff, Int.reduceLE, Int.reduceLT, Int.reduceToNat, Int.reduceEq, Int.reduceAdd, UInt8.reduceToNat, UInt32.reduceToNat, UInt64.reduceToNat, UInt8.reduceOfNat, UInt32.reduceOfNat, UInt64.reduceOfNat, Fin.isValue, Int.reduceSub, Int.reduceMul, Int.reduceNeg, Int.reduceMod, Int.reduceDiv, Int.reduceTDiv, Int.reduceTMod, Int.reduceBEq, Int.reduceBNe, Nat.reduceDiv, Nat.reducePow]
                repeat' apply And.intro
                rotate_right
                · refine again ⟨fr, i + 1, []⟩ [] (rowsOk_step hx hlt fun _ hc => by rw [beq_eq_false_iff_ne] at h4; exact h4 (hci.1 hc).2) (by simp only; omega) ?_
                  simp only [rowsInv, envMK, con0, conS, strsOf_arr, rowS_arr, strsOf_cells, rowS_cells, toS, strL_st, strL_d, strL_enc, strL_up, hpN_nil, hpN_cons, qr0, go_sem, reduceCtorEq, ↓reduceIte, Nat.reduceAdd, Nat.reduceMul, Nat.reduceSub, Nat.reduceEqDiff, Nat.reduceLT, Nat.reduceBEq, Nat.reduceBNe, Nat.reduceLeDiff, Int.reduceLE, Int.reduceLT, Int.reduceToNat, Int.reduceEq, Int.reduceAdd, UInt8.reduceToNat, UInt32.reduceToNat, UInt64.reduceToNat, UInt8.reduceOfNat, UInt32.reduceOfNat, UInt64.reduceOfNat, Fin.isValue, Int.reduceSub, Int.reduceMul, Int.reduceNeg, Int.reduceMod, Int.reduceDiv, Int.reduceTDiv, Int.reduceTMod, Int.reduceBEq, Int.reduceBNe, Nat.reduceDiv, Nat.reducePow]
                all_goals first | omega | exact rfl | exact id
              | true =>
                have hc : crAt s i := hci.2 ⟨eq_of_beq h3, eq_of_beq h4⟩
                have hfr : fr ≤ i := by have := of_decide_eq_true h1; omega
                simp only [envMK, con0, conS, strsOf_arr, rowS_arr, strsOf_cells, rowS_cells, toS, strL_st, strL_d, strL_enc, strL_up, hpN_nil, hpN_cons, qr0, h, h1, h2, h3, h4, hw, hw2, hj, go_sem, reduceCtorEq, ↓reduceIte, Nat.reduceAdd, Nat.reduceMul, Nat.reduceSub, Nat.reduceEqDiff, Nat.reduceLT, Nat.reduceBEq, Nat.reduceBNe, Nat.reduceLeDiff, Int.reduceLE, Int.reduceLT, Int.reduceToNat, Int.reduceEq, Int.reduceAdd, UInt8.reduceToNat, UInt32.reduceToNat, UInt64.reduceToNat, UInt8.reduceOfNat, UInt32.reduceOfNat, UInt64.reduceOfNat, Fin.isValue, Int.reduceSub, Int.reduceMul, Int.reduceNeg, Int.reduceMod, Int.reduceDiv, Int.reduceTDiv, Int.reduceTMod, Int.reduceBEq, Int.reduceBNe, Nat.reduceDiv, Nat.reducePow]
                repeat' apply And.intro
                rotate_right
                · refine again ⟨i + 2, i + 1, [] ++ [(s.drop fr).take (i - fr)]⟩ [(500, 80048)] (rowsOk_row hx hfr hc) (by simp only; omega) ?_
                  simp only [rowsInv, envMK, con0, conS, strsOf_arr, rowS_arr, strsOf_cells, rowS_cells, toS, strL_st, strL_d, strL_enc, strL_up, hpN_nil, hpN_cons, qr0, go_sem, reduceCtorEq, ↓reduceIte, Nat.reduceAdd, Nat.reduceMul, Nat.reduceSub, Nat.reduceEqDiff, Nat.reduceLT, Nat.reduceBEq, Nat.reduceBNe, Nat.reduceLeDiff, Int.reduceLE, Int.reduceLT, Int.reduceToNat, Int.reduceEq, Int.reduceAdd, UInt8.reduceToNat, UInt32.reduceToNat, UInt64.reduceToNat, UInt8.reduceOfNat, UInt32.reduceOfNat, UInt64.reduceOfNat, Fin.isValue, Int.reduceSub, Int.reduceMul, Int.reduceNeg, Int.reduceMod, Int.reduceDiv, Int.reduceTDiv, Int.reduceTMod, Int.reduceBEq, Int.reduceBNe, Nat.reduceDiv, Nat.reducePow]
                all_goals first | omega | exact rfl | exact id
      · have hge : s.length ≤ i := by have := of_decide_eq_false h; omega
        have he := rowsOk_end hx hge
        simp only at he
        simp only [envMK, con0, conS, strsOf_arr, rowS_arr, strsOf_cells, rowS_cells, toS, strL_st, strL_d, strL_enc, strL_up, hpN_nil, hpN_cons, qr0, hw, hw2, hj, go_sem, reduceCtorEq, ↓reduceIte, Nat.reduceAdd, Nat.reduceMul, Nat.reduceSub, Nat.reduceEqDiff, Nat.reduceLT, Nat.reduceBEq, Nat.reduceBNe, Nat.reduceLeDiff, Int.reduceLE, Int.reduceLT, Int.reduceToNat, Int.reduceEq, Int.reduceAdd, UInt8.reduceToNat, UInt32.reduceToNat, UInt64.reduceToNat, UInt8.reduceOfNat, UInt32.reduceOfNat, UInt64.reduceOfNat, Fin.isValue, Int.reduceSub, Int.reduceMul, Int.reduceNeg, Int.reduceMod, Int.reduceDiv, Int.reduceTDiv, Int.reduceTMod, Int.reduceBEq, Int.reduceBNe, Nat.reduceDiv, Nat.reducePow]
        repeat' apply And.intro
        rotate_right
        · refine endX [(0, 100040)] ?_
          simp only [← he, envMK, con0, conS, strsOf_arr, rowS_arr, strsOf_cells, rowS_cells, toS, strL_st, strL_d, strL_enc, strL_up, hpN_nil, hpN_cons, qr0, go_sem, reduceCtorEq, ↓reduceIte, Nat.reduceAdd, Nat.reduceMul, Nat.reduceSub, Nat.reduceEqDiff, Nat.reduceLT, Nat.reduceBEq, Nat.reduceBNe, Nat.reduceLeDiff, Int.reduceLE, Int.reduceLT, Int.reduceToNat, Int.reduceEq, Int.reduceAdd, UInt8.reduceToNat, UInt32.reduceToNat, UInt64.reduceToNat, UInt8.reduceOfNat, UInt32.reduceOfNat, UInt64.reduceOfNat, Fin.isValue, Int.reduceSub, Int.reduceMul, Int.reduceNeg, Int.reduceMod, Int.reduceDiv, Int.reduceTDiv, Int.reduceTMod, Int.reduceBEq, Int.reduceBNe, Nat.reduceDiv, Nat.reducePow]
        all_goals first | omega | exact rfl | exact id
    · simp only [envMK, con0, conS, strsOf_arr, rowS_arr, strsOf_cells, rowS_cells, toS, strL_st, strL_d, strL_enc, strL_up, hpN_nil, hpN_cons, qr0, rowsInv, hw, hw2, hj, go_sem, reduceCtorEq, ↓reduceIte, Nat.reduceAdd, Nat.reduceMul, Nat.reduceSub, Nat.reduceEqDiff, Nat.reduceLT, Nat.reduceBEq, Nat.reduceBNe, Nat.reduceLeDiff, Int.reduceLE, Int.reduceLT, Int.reduceToNat, Int.reduceEq, Int.reduceAdd, UInt8.reduceToNat, UInt32.reduceToNat, UInt64.reduceToNat, UInt8.reduceOfNat, UInt32.reduceOfNat, UInt64.reduceOfNat, Fin.isValue, Int.reduceSub, Int.reduceMul, Int.reduceNeg, Int.reduceMod, Int.reduceDiv, Int.reduceTDiv, Int.reduceTMod, Int.reduceBEq, Int.reduceBNe, Nat.reduceDiv, Nat.reducePow]
      refine br (fun h => ?_) fun h => ?_
      · have hlt : i < s.length := by have := of_decide_eq_true h; omega
        cases h1 : decide ((fr : Int) ≤ i) with
        | false =>
          simp only [envMK, con0, conS, strsOf_arr, rowS_arr, strsOf_cells, rowS_cells, toS, strL_st, strL_d, strL_enc, strL_up, hpN_nil, hpN_cons, qr0, h, h1, hw, hw2, hj, go_sem, reduceCtorEq, ↓reduceIte, Nat.reduceAdd, Nat.reduceMul, Nat.reduceSub, Nat.reduceEqDiff, Nat.reduceLT, Nat.reduceBEq, Nat.reduceBNe, Nat.reduceLeDiff, Int.reduceLE, Int.reduceLT, Int.reduceToNat, Int.reduceEq, Int.reduceAdd, UInt8.reduceToNat, UInt32.reduceToNat, UInt64.reduceToNat, UInt8.reduceOfNat, UInt32.reduceOfNat, UInt64.reduceOfNat, Fin.isValue, Int.reduceSub, Int.reduceMul, Int.reduceNeg, Int.reduceMod, Int.reduceDiv, Int.reduceTDiv, Int.reduceTMod, Int.reduceBEq, Int.reduceBNe, Nat.reduceDiv, Nat.reducePow]
          repeat' apply And.intro
          rotate_right
          · refine again ⟨fr, i + 1, acc⟩ [] (rowsOk_step hx hlt fun hc => (of_decide_eq_false h1 (by simp only at hc; omega)).elim) (by simp only; omega) ?_
            simp only [rowsInv, hj, envMK, con0, conS, strsOf_arr, rowS_arr, strsOf_cells, rowS_cells, toS, strL_st, strL_d, strL_enc, strL_up, hpN_nil, hpN_cons, qr0, go_sem, reduceCtorEq, ↓reduceIte, Nat.reduceAdd, Nat.reduceMul, Nat.reduceSub, Nat.reduceEqDiff, Nat.reduceLT, Nat.reduceBEq, Nat.reduceBNe, Nat.reduceLeDiff, Int.reduceLE, Int.reduceLT, Int.reduceToNat, Int.reduceEq, Int.reduceAdd, UInt8.reduceToNat, UInt32.reduceToNat, UInt64.reduceToNat, UInt8.reduceOfNat, UInt32.reduceOfNat, UInt64.reduceOfNat, Fin.isValue, Int.reduceSub, Int.reduceMul, Int.reduceNeg, Int.reduceMod, Int.reduceDiv, Int.reduceTDiv, Int.reduceTMod, Int.reduceBEq, Int.reduceBNe, Nat.reduceDiv, Nat.reducePow]
          all_goals first | omega | exact rfl | exact id
        | true =>
          cases h2 : decide (((i + 1 : Nat) : Int) < s.length) with
          | false =>
            simp only [envMK, con0, conS, strsOf_arr, rowS_arr, strsOf_cells, rowS_cells, toS, strL_st, strL_d, strL_enc, strL_up, hpN_nil, hpN_cons, qr0, h, h1, h2, hw, hw2, hj, go_sem, reduceCtorEq, ↓reduceIte, Nat.reduceAdd, Nat.reduceMul, Nat.reduceSub, Nat.reduceEqDiff, Nat.reduceLT, Nat.reduceBEq, Nat.reduceBNe, Nat.reduceLeDiff, Int.reduceLE, Int.reduceLT, Int.reduceToNat, Int.reduceEq, Int.reduceAdd, UInt8.reduceToNat, UInt32.reduceToNat, UInt64.reduceToNat, UInt8.reduceOfNat, UInt32.reduceOfNat, UInt64.reduceOfNat, Fin.isValue, Int.reduceSub, Int.reduceMul, Int.reduceNeg, Int.reduceMod, Int.reduceDiv, Int.reduceTDiv, Int.reduceTMod, Int.reduceBEq, Int.reduceBNe, Nat.reduceDiv, Nat.reducePow]
            repeat' apply And.intro
            rotate_right
            · refine again ⟨fr, i + 1, acc⟩ [] (rowsOk_step hx hlt fun _ hc => by have := crAt_lt hc; simp only at this; exact of_decide_eq_false h2 (by omega)) (by simp only; omega) ?_
              simp only [rowsInv, hj, envMK, con0, conS, strsOf_arr, rowS_arr, strsOf_cells, rowS_cells, toS, strL_st, strL_d, strL_enc, strL_up, hpN_nil, hpN_cons, qr0, go_sem, reduceCtorEq, ↓reduceIte, Nat.reduceAdd, Nat.reduceMul, Nat.reduceSub, Nat.reduceEqDiff, Nat.reduceLT, Nat.reduceBEq, Nat.reduceBNe, Nat.reduceLeDiff, Int.reduceLE, Int.reduceLT, Int.reduceToNat, Int.reduceEq, Int.reduceAdd, UInt8.reduceToNat, UInt32.reduceToNat, UInt64.reduceToNat, UInt8.reduceOfNat, UInt32.reduceOfNat, UInt64.reduceOfNat, Fin.isValue, Int.reduceSub, Int.reduceMul, Int.reduceNeg, Int.reduceMod, Int.reduceDiv, Int.reduceTDiv, Int.reduceTMod, Int.reduceBEq, Int.reduceBNe, Nat.reduceDiv, Nat.reducePow]
            all_goals first | omega | exact rfl | exact id
          | true =>
            have hl2 : i + 1 < s.length := by have := of_decide_eq_true h2; omega
            have hci := crAt_iff hl2
            cases h3 : (s.getD i 0 == 13) with
            | false =>
              simp only [envMK, con0, conS, strsOf_arr, rowS_arr, strsOf_cells, rowS_cells, toS, strL_st, strL_d, strL_enc, strL_up, hpN_nil, hpN_cons, qr0, h, h1, h2, h3, hw, hw2, hj, go_sem, reduceCtorEq, ↓reduceIte, Nat.reduceAdd, Nat.reduceMul, Nat.reduceSub, Nat.reduceEqDiff, Nat.reduceLT, Nat.reduceBEq, Nat.reduceBNe, Nat.reduceLeDiff, Int.reduceLE, Int.reduceLT, Int.reduceToNat, Int.reduceEq, Int.reduceAdd, UInt8.reduceToNat, UInt32.reduceToNat, UInt64.reduceToNat, UInt8.reduceOfNat, UInt32.reduceOfNat, UInt64.reduceOfNat, Fin.isValue, Int.reduceSub, Int.reduceMul, Int.reduceNeg, Int.reduceMod, Int.reduceDiv, Int.reduceTDiv, Int.reduceTMod, Int.reduceBEq, Int.reduceBNe, Nat.reduceDiv, Nat.reducePow]
              repeat' apply And.intro
              rotate_right
              · refine again ⟨fr, i + 1, acc⟩ [] (rowsOk_step hx hlt fun _ hc => by rw [beq_eq_false_iff_ne] at h3; exact h3 (hci.1 hc).1) (by simp only; omega) ?_
                simp only [rowsInv, hj, envMK, con0, conS, strsOf_arr, rowS_arr, strsOf_cells, rowS_cells, toS, strL_st, strL_d, strL_enc, strL_up, hpN_nil, hpN_cons, qr0, go_sem, reduceCtorEq, ↓reduceIte, Nat.reduceAdd, Nat.reduceMul, Nat.reduceSub, Nat.reduceEqDiff, Nat.reduceLT, Nat.reduceBEq, Nat.reduceBNe, Nat.reduceLeDiff, Int.reduceLE, Int.reduceLT, Int.reduceToNat, Int.reduceEq, Int.reduceAdd, UInt8.reduceToNat, UInt32.reduceToNat, UInt64.reduceToNat, UInt8.reduceOfNat, UInt32.reduceOfNat, UInt64.reduceOfNat, Fin.isValue, Int.reduceSub, Int.reduceMul, Int.reduceNeg, Int.reduceMod, Int.reduceDiv, Int.reduceTDiv, Int.reduceTMod, Int.reduceBEq, Int.reduceBNe, Nat.reduceDiv, Nat.reducePow]
              all_goals first | omega | exact rfl | exact id
            | true =>
              cases h4 : (s.getD (i + 1) 0 == 10) with
              | false =>
                simp only [envMK, con0, conS, strsOf_arr, rowS_arr, strsOf_cells, rowS_cells, toS, strL_st, strL_d, strL_enc, strL_up, hpN_nil, hpN_cons, qr0, h, h1, h2, h3, h4, hw, hw2, hj, go_sem, reduceCtorEq, ↓reduceIte, Nat.reduceAdd, Nat.reduceMul, Nat.reduceSub, Nat.reduceEqDiff, Nat.reduceLT, Nat.reduceBEq, Nat.reduceBNe, Nat.reduceLeDiff, Int.reduceLE, Int.reduceLT, Int.reduceToNat, Int.reduceEq, Int.reduceAdd, UInt8.reduceToNat, UInt32.reduceToNat, UInt64.reduceToNat, UInt8.reduceOfNat, UInt32.reduceOfNat, UInt64.reduceOfNat, Fin.isValue, Int.reduceSub, Int.reduceMul, Int.reduceNeg, Int.reduceMod, Int.reduceDiv, Int.reduceTDiv, Int.reduceTMod, Int.reduceBEq, Int.reduceBNe, Nat.reduceDiv, Nat.reducePow]
                repeat' apply And.intro
                rotate_right
                · refine again ⟨fr, i + 1, acc⟩ [] (rowsOk_step hx hlt fun _ hc => by rw [beq_eq_false_iff_ne] at h4; exact h4 (hci.1 hc).2) (by simp only; omega) ?_
                  simp only [rowsInv, hj, envMK, con0, conS, strsOf_arr, rowS_arr, strsOf_cells, rowS_cells, toS, strL_st, strL_d, strL_enc, strL_up, hpN_nil, hpN_cons, qr0, go_sem, reduceCtorEq, ↓reduceIte, Nat.reduceAdd, Nat.reduceMul, Nat.reduceSub, Nat.reduceEqDiff, Nat.reduceLT, Nat.reduceBEq, Nat.reduceBNe, Nat.reduceLeDiff, Int.reduceLE, Int.reduceLT, Int.reduceToNat, Int.reduceEq, Int.reduceAdd, UInt8.reduceToNat, UInt32.reduceToNat, UInt64.reduceToNat, UInt8.reduceOfNat, UInt32.reduceOfNat, UInt64.reduceOfNat, Fin.isValue, Int.reduceSub, Int.reduceMul, Int.reduceNeg, Int.reduceMod, Int.reduceDiv, Int.reduceTDiv, Int.reduceTMod, Int.reduceBEq, Int.reduceBNe, Nat.reduceDiv, Nat.reducePow]
                all_goals first | omega | exact rfl | exact id
              | true =>
                have hc : crAt s i := hci.2 ⟨eq_of_beq h3, eq_of_beq h4⟩
                have hfr : fr ≤ i := by have := of_decide_eq_true h1; omega
                simp only [envMK, con0, conS, strsOf_arr, rowS_arr, strsOf_cells, rowS_cells, toS, strL_st, strL_d, strL_enc, strL_up, hpN_nil, hpN_cons, qr0, h, h1, h2, h3, h4, hw, hw2, hj, go_sem, reduceCtorEq, ↓reduceIte, Nat.reduceAdd, Nat.reduceMul, Nat.reduceSub, Nat.reduceEqDiff, Nat.reduceLT, Nat.reduceBEq, Nat.reduceBNe, Nat.reduceLeDiff, Int.reduceLE, Int.reduceLT, Int.reduceToNat, Int.reduceEq, Int.reduceAdd, UInt8.reduceToNat, UInt32.reduceToNat, UInt64.reduceToNat, UInt8.reduceOfNat, UInt32.reduceOfNat, UInt64.reduceOfNat, Fin.isValue, Int.reduceSub, Int.reduceMul, Int.reduceNeg, Int.reduceMod, Int.reduceDiv, Int.reduceTDiv, Int.reduceTMod, Int.reduceBEq, Int.reduceBNe, Nat.reduceDiv, Nat.reducePow]
                repeat' apply And.intro
                rotate_right
                · refine again ⟨i + 2, i + 1, acc ++ [(s.drop fr).take (i - fr)]⟩ [(500, 80048)] (rowsOk_row hx hfr hc) (by simp only; omega) ?_
                  simp only [rowsInv, envMK, con0, conS, strsOf_arr, rowS_arr, strsOf_cells, rowS_cells, toS, strL_st, strL_d, strL_enc, strL_up, hpN_nil, hpN_cons, qr0, List.length_append, hj, go_sem, reduceCtorEq, ↓reduceIte, Nat.reduceAdd, Nat.reduceMul, Nat.reduceSub, Nat.reduceEqDiff, Nat.reduceLT, Nat.reduceBEq, Nat.reduceBNe, Nat.reduceLeDiff, Int.reduceLE, Int.reduceLT, Int.reduceToNat, Int.reduceEq, Int.reduceAdd, UInt8.reduceToNat, UInt32.reduceToNat, UInt64.reduceToNat, UInt8.reduceOfNat, UInt32.reduceOfNat, UInt64.reduceOfNat, Fin.isValue, Int.reduceSub, Int.reduceMul, Int.reduceNeg, Int.reduceMod, Int.reduceDiv, Int.reduceTDiv, Int.reduceTMod, Int.reduceBEq, Int.reduceBNe, Nat.reduceDiv, Nat.reducePow]
                all_goals first | omega | exact rfl | exact id
      · have hge : s.length ≤ i := by have := of_decide_eq_false h; omega
        have he := rowsOk_end hx hge
        simp only at he
        have hel : (acc ++ [s.drop fr]).length = j + 1 + 1 := by rw [List.length_append, hj]; rfl
        rw [← he, hel]
        simp only [envMK, con0, conS, strsOf_arr, rowS_arr, strsOf_cells, rowS_cells, toS, strL_st, strL_d, strL_enc, strL_up, hpN_nil, hpN_cons, qr0, hw, hw2, hj, go_sem, reduceCtorEq, ↓reduceIte, Nat.reduceAdd, Nat.reduceMul, Nat.reduceSub, Nat.reduceEqDiff, Nat.reduceLT, Nat.reduceBEq, Nat.reduceBNe, Nat.reduceLeDiff, Int.reduceLE, Int.reduceLT, Int.reduceToNat, Int.reduceEq, Int.reduceAdd, UInt8.reduceToNat, UInt32.reduceToNat, UInt64.reduceToNat, UInt8.reduceOfNat, UInt32.reduceOfNat, UInt64.reduceOfNat, Fin.isValue, Int.reduceSub, Int.reduceMul, Int.reduceNeg, Int.reduceMod, Int.reduceDiv, Int.reduceTDiv, Int.reduceTMod, Int.reduceBEq, Int.reduceBNe, Nat.reduceDiv, Nat.reducePow]
        repeat' apply And.intro
        rotate_right
        · refine endX [(0, 100040)] ?_
          simp only [envMK, con0, conS, strsOf_arr, rowS_arr, strsOf_cells, rowS_cells, toS, strL_st, strL_d, strL_enc, strL_up, hpN_nil, hpN_cons, qr0, hj, go_sem, reduceCtorEq, ↓reduceIte, Nat.reduceAdd, Nat.reduceMul, Nat.reduceSub, Nat.reduceEqDiff, Nat.reduceLT, Nat.reduceBEq, Nat.reduceBNe, Nat.reduceLeDiff, Int.reduceLE, Int.reduceLT, Int.reduceToNat, Int.reduceEq, Int.reduceAdd, UInt8.reduceToNat, UInt32.reduceToNat, UInt64.reduceToNat, UInt8.reduceOfNat, UInt32.reduceOfNat, UInt64.reduceOfNat, Fin.isValue, Int.reduceSub, Int.reduceMul, Int.reduceNeg, Int.reduceMod, Int.reduceDiv, Int.reduceTDiv, Int.reduceTMod, Int.reduceBEq, Int.reduceBNe, Nat.reduceDiv, Nat.reducePow]
        all_goals first | omega | exact rfl | exact id
def rRowsF : List CV → List (List (List UInt8)) → Option (SV × List SObj × List Prop)
  | [.one (.str s)], [] => some (.c (.one (.sl 0 0 1 (rowsL s).length)), [.arr _ strL (rowsL s)], [s.length ≤ 1048576])
  | _, _ => none
def rRowsC : Con := conS rRowsF
theorem rRowsC_ok : ConOkG Tryd.prog GM 40 rRowsC := conS_ok Tryd.func40 rfl rfl
  (fun args v news ob h hob => by
    unfold rRowsF at h
    split at h
    · simp only [Option.some.injEq, Prod.mk.injEq] at h
      obtain ⟨rfl, rfl, rfl⟩ := h
      exact refRows_tri _ hob.1
    · cases h)
  (fun args a v news ob h hob => by simp [rRowsF] at h) (fun args a b v news ob h hob => by simp [rRowsF] at h) (fun args a b c l => by simp [rRowsF])
end Go.Proofs.YtgfcdkbbkgamnaaDoor
