/-
  Layer 19: a head ends with an empty line, or is all; a body turns no field.
-/
import Derived.Test.YtgfcdkbbkgamnaaDoorSz
import Derived.Test.YtgfcdkbbkgamnaaDoorQe
namespace Go.Proofs.YtgfcdkbbkgamnaaDoor
open Go Go.RowKit
set_option maxHeartbeats 4000000
set_option linter.unusedSimpArgs false
set_option linter.unusedVariables false
theorem crAt_app {h : List UInt8} {j : Nat} (m : List UInt8) (hj : j + 1 < h.length) : crAt (h ++ m) j ↔ crAt h j := by
  unfold crAt
  rw [List.getElem?_append_left (by omega), List.getElem?_append_left (by omega)]
theorem crAt_take {s : List UInt8} {j n : Nat} (hj : j + 1 < n) : crAt (s.take n) j ↔ crAt s j := by
  unfold crAt
  rw [List.getElem?_take, List.getElem?_take, if_pos (by omega), if_pos (by omega)]
/-- A head that ends, with more behind it. -/
theorem head_more {s : List UInt8} {i : Nat} (hc : crAt s i) (hs : stAt s i) (hf : ∀ j, j < i → ¬ (crAt s j ∧ stAt s j)) (m : List UInt8) : headN (s.take (i + 2) ++ m) = i + 2 := by
  have hl := crAt_lt hc
  have ht : (s.take (i + 2)).length = i + 2 := by rw [List.length_take]; omega
  have hA : ∀ j, j < i + 1 → (crAt (s.take (i + 2) ++ m) j ↔ crAt s j) := fun j hj => by
    rw [crAt_app m (by omega), crAt_take (by omega)]
  have hS : ∀ j, j < i + 1 → (stAt (s.take (i + 2) ++ m) j → stAt s j) := fun j hj h => by
    rcases h with h | ⟨k, e, hk⟩
    · exact .inl h
    · exact .inr ⟨k, e, (hA k (by omega)).1 hk⟩
  refine headAt_unique (headN_at _) (.inl ⟨i, (hA i (by omega)).2 hc, ?_, fun j hj ⟨h1, h2⟩ => hf j hj ⟨(hA j (by omega)).1 h1, hS j (by omega) h2⟩, rfl⟩)
  rcases hs with h | ⟨k, e, hk⟩
  · exact .inl h
  · exact .inr ⟨k, e, (hA k (by omega)).2 hk⟩
theorem two_at {h : List UInt8} {j : Nat} (hc : crAt h j) (hl : h.length = j + 2) : h.drop j = [13, 10] := by
  obtain ⟨h1, h2⟩ := hc
  have e1 : (h.drop j)[0]? = some 13 := by rw [List.getElem?_drop]; exact h1
  have e2 : (h.drop j)[1]? = some 10 := by rw [List.getElem?_drop]; exact h2
  have e3 : (h.drop j).length = 2 := by rw [List.length_drop]; omega
  generalize h.drop j = d at e1 e2 e3
  match d, e1, e2, e3 with
  | [a, b], e1, e2, _ => simp at e1 e2; rw [e1, e2]
theorem four_at {h : List UInt8} {j : Nat} (hc : crAt h j) (hc2 : crAt h (j + 2)) (hl : h.length = j + 4) : h.drop j = [13, 10, 13, 10] := by
  obtain ⟨h1, h2⟩ := hc
  obtain ⟨h3, h4⟩ := hc2
  have e1 : (h.drop j)[0]? = some 13 := by rw [List.getElem?_drop]; exact h1
  have e2 : (h.drop j)[1]? = some 10 := by rw [List.getElem?_drop]; exact h2
  have e3 : (h.drop j)[2]? = some 13 := by rw [List.getElem?_drop]; exact h3
  have e4 : (h.drop j)[3]? = some 10 := by rw [List.getElem?_drop]; exact h4
  have e5 : (h.drop j).length = 4 := by rw [List.length_drop]; omega
  generalize h.drop j = d at e1 e2 e3 e4 e5
  match d, e1, e2, e3, e4, e5 with
  | [a, b, c, e], e1, e2, e3, e4, _ => simp at e1 e2 e3 e4; rw [e1, e2, e3, e4]
theorem at_two {s : List UInt8} (h : s = [13, 10]) : crAt s 0 ∧ stAt s 0 := by subst h; exact ⟨⟨rfl, rfl⟩, .inl rfl⟩
theorem at_four {s : List UInt8} {j : Nat} (h : s.drop j = [13, 10, 13, 10]) : crAt s (j + 2) ∧ stAt s (j + 2) := by
  have hg : ∀ k : Nat, s[j + k]? = ([13, 10, 13, 10] : List UInt8)[k]? := fun k => by rw [← h, List.getElem?_drop]
  exact ⟨⟨hg 2, hg 3⟩, .inr ⟨j, rfl, hg 0, hg 1⟩⟩
def qw0 : Nat → Option Con := fun f => match f with
  | 37 => some splitC
  | 43 => some fieldC
  | 36 => some awake19C
  | _ => none
theorem qw0_ok : GaOkG Tryd.prog GM qw0 := fun f con h => by
  unfold qw0 at h
  split at h
  · injection h with h; subst h; exact splitC_ok
  · injection h with h; subst h; exact fieldC_ok
  · injection h with h; subst h; exact awake19C_ok
  · cases h
set_option maxRecDepth 100000 in
theorem lawWhole_tri (s more name : List UInt8) : TriG Tryd.prog GM 14 [.one (.str s), .one (.str more), .one (.str name)] [] (.c (.one (.bo true))) [] := by
  refine tri_of (envM_ok qw0_ok 138) Tryd.func14 rfl rfl (rs := [.tmp 6]) rfl rfl (by simp [envM]) rfl [] ?_
  cases hs : decide ((2048 : Int) < s.length) with
  | true => simp (config := { maxSteps := 4000000 }) only [envM, qw0, splitC, fieldC, awake19C, hs, go_sem, reduceCtorEq, ↓reduceIte, Nat.reduceAdd, Nat.reduceMul, Nat.reduceSub, Nat.reduceEqDiff, Nat.reduceLT, Nat.reduceBEq, Nat.reduceBNe, Nat.reduceLeDiff, Int.reduceLE, Int.reduceLT, Int.reduceToNat, Int.reduceEq, Int.reduceAdd, UInt8.reduceToNat, UInt32.reduceToNat, UInt64.reduceToNat, UInt8.reduceOfNat, UInt32.reduceOfNat, UInt64.reduceOfNat, Fin.isValue, Int.reduceSub, Int.reduceMul, Int.reduceNeg, Int.reduceMod, Int.reduceDiv, Int.reduceTDiv, Int.reduceTMod, Int.reduceBEq, Int.reduceBNe, Nat.reduceDiv, Nat.reducePow]
  | false =>
  cases hm : decide ((2048 : Int) < more.length) with
  | true => simp (config := { maxSteps := 4000000 }) only [envM, qw0, splitC, fieldC, awake19C, hs, hm, go_sem, reduceCtorEq, ↓reduceIte, Nat.reduceAdd, Nat.reduceMul, Nat.reduceSub, Nat.reduceEqDiff, Nat.reduceLT, Nat.reduceBEq, Nat.reduceBNe, Nat.reduceLeDiff, Int.reduceLE, Int.reduceLT, Int.reduceToNat, Int.reduceEq, Int.reduceAdd, UInt8.reduceToNat, UInt32.reduceToNat, UInt64.reduceToNat, UInt8.reduceOfNat, UInt32.reduceOfNat, UInt64.reduceOfNat, Fin.isValue, Int.reduceSub, Int.reduceMul, Int.reduceNeg, Int.reduceMod, Int.reduceDiv, Int.reduceTDiv, Int.reduceTMod, Int.reduceBEq, Int.reduceBNe, Nat.reduceDiv, Nat.reducePow]
  | false =>
  cases hn : decide ((2048 : Int) < name.length) with
  | true => simp (config := { maxSteps := 4000000 }) only [envM, qw0, splitC, fieldC, awake19C, hs, hm, hn, go_sem, reduceCtorEq, ↓reduceIte, Nat.reduceAdd, Nat.reduceMul, Nat.reduceSub, Nat.reduceEqDiff, Nat.reduceLT, Nat.reduceBEq, Nat.reduceBNe, Nat.reduceLeDiff, Int.reduceLE, Int.reduceLT, Int.reduceToNat, Int.reduceEq, Int.reduceAdd, UInt8.reduceToNat, UInt32.reduceToNat, UInt64.reduceToNat, UInt8.reduceOfNat, UInt32.reduceOfNat, UInt64.reduceOfNat, Fin.isValue, Int.reduceSub, Int.reduceMul, Int.reduceNeg, Int.reduceMod, Int.reduceDiv, Int.reduceTDiv, Int.reduceTMod, Int.reduceBEq, Int.reduceBNe, Nat.reduceDiv, Nat.reducePow]
  | false =>
  have hls : s.length ≤ 2048 := by have := of_decide_eq_false hs; omega
  have hlm : more.length ≤ 2048 := by have := of_decide_eq_false hm; omega
  have hln : name.length ≤ 2048 := by have := of_decide_eq_false hn; omega
  have hle := headN_le s
  have hab : s.take (headN s) ++ s.drop (headN s) = s := List.take_append_drop _ _
  have hhl : (s.take (headN s)).length = headN s := by rw [List.length_take]; omega
  have hbl : (s.drop (headN s)).length = s.length - headN s := List.length_drop
  rcases headN_at s with ⟨i, hc, hst, hf, hi⟩ | ⟨hno, hi⟩
  · have hmore := head_more hc hst hf more
    rw [← hi] at hmore
    have q1 : (s.take (headN s) ++ more).take (headN (s.take (headN s) ++ more)) = s.take (headN s) := by rw [hmore, List.take_append_of_le_length (by omega), List.take_take, Nat.min_self]
    have q2 : (s.take (headN s) ++ more).drop (headN (s.take (headN s) ++ more)) = more := by rw [hmore, List.drop_append, List.drop_eq_nil_of_le (by omega), hhl, Nat.sub_self]; rfl
    have hc' : crAt (s.take (headN s)) i := (crAt_take (by omega)).2 hc
    have hml : (s.take (headN s) ++ more).length ≤ 1048576 := by rw [List.length_append]; omega
    have hsum : (s.take (headN s)).length + (s.drop (headN s)).length ≤ 9223372036854775807 := by omega
    rcases hst with h0 | ⟨k, hk, hck⟩
    · have hh : s.take (headN s) = [13, 10] := by
        have := two_at hc' (by omega)
        rw [h0] at this
        exact this
      rw [hh] at q1 q2 hml hsum hab
      have q1 : (13 :: 10 :: more : List UInt8).take (headN (13 :: 10 :: more)) = [13, 10] := q1
      have q2 : (13 :: 10 :: more : List UInt8).drop (headN (13 :: 10 :: more)) = more := q2
      cases hb : s.drop (headN s) with
      | nil =>
        rw [hb] at hab hsum
        simp (config := { maxSteps := 4000000 }) only [envM, qw0, splitC, fieldC, awake19C, hs, hm, hn, hh, hb, hab, q1, q2, go_sem, reduceCtorEq, ↓reduceIte, Nat.reduceAdd, Nat.reduceMul, Nat.reduceSub, Nat.reduceEqDiff, Nat.reduceLT, Nat.reduceBEq, Nat.reduceBNe, Nat.reduceLeDiff, Int.reduceLE, Int.reduceLT, Int.reduceToNat, Int.reduceEq, Int.reduceAdd, UInt8.reduceToNat, UInt32.reduceToNat, UInt64.reduceToNat, UInt8.reduceOfNat, UInt32.reduceOfNat, UInt64.reduceOfNat, Fin.isValue, Int.reduceSub, Int.reduceMul, Int.reduceNeg, Int.reduceMod, Int.reduceDiv, Int.reduceTDiv, Int.reduceTMod, Int.reduceBEq, Int.reduceBNe, Nat.reduceDiv, Nat.reducePow]
        ((repeat' apply And.intro) <;> first | omega | exact rfl | exact id | assumption)
      | cons b0 bl =>
        have hbe : ((b0 :: bl : List UInt8) == []) = false := rfl
        rw [hb] at hab hsum
        simp (config := { maxSteps := 4000000 }) only [envM, qw0, splitC, fieldC, awake19C, hs, hm, hn, hh, hb, hab, q1, q2, hbe, go_sem, reduceCtorEq, ↓reduceIte, Nat.reduceAdd, Nat.reduceMul, Nat.reduceSub, Nat.reduceEqDiff, Nat.reduceLT, Nat.reduceBEq, Nat.reduceBNe, Nat.reduceLeDiff, Int.reduceLE, Int.reduceLT, Int.reduceToNat, Int.reduceEq, Int.reduceAdd, UInt8.reduceToNat, UInt32.reduceToNat, UInt64.reduceToNat, UInt8.reduceOfNat, UInt32.reduceOfNat, UInt64.reduceOfNat, Fin.isValue, Int.reduceSub, Int.reduceMul, Int.reduceNeg, Int.reduceMod, Int.reduceDiv, Int.reduceTDiv, Int.reduceTMod, Int.reduceBEq, Int.reduceBNe, Nat.reduceDiv, Nat.reducePow]
        ((repeat' apply And.intro) <;> first | omega | exact rfl | exact id | assumption)
    · have hck' : crAt (s.take (headN s)) k := (crAt_take (by omega)).2 hck
      have hhl' : (s.take (headN s)).length = k + 4 := by omega
      have d2 := two_at hc' (by omega)
      rw [hk] at d2
      have d4 := four_at hck' (by rw [← hk]; exact hc') hhl'
      generalize hh : s.take (headN s) = h at q1 q2 hml hsum hab hhl' d2 d4
      have w2 : IntKind.i64.wrap (((k + 4 : Nat) : Int) - 2) = ((k + 2 : Nat) : Int) := by rw [IntKind.wrap_i64]; omega
      have w4 : IntKind.i64.wrap (((k + 4 : Nat) : Int) - 4) = (k : Int) := by rw [IntKind.wrap_i64]; omega
      have c1 : decide (((k + 4 : Nat) : Int) < 2) = false := decide_eq_false (by omega)
      have c2 : decide ((2 : Int) < ((k + 4 : Nat) : Int)) = true := decide_eq_true (by omega)
      have c3 : decide (((k + 4 : Nat) : Int) < 4) = false := decide_eq_false (by omega)
      have c4 : (((k + 4 : Nat) : Int) == 2) = false := by rw [beq_eq_false_iff_ne]; omega
      have c5 : decide ((3 : Int) < ((k + 4 : Nat) : Int)) = true := decide_eq_true (by omega)
      cases hb : s.drop (headN s) with
      | nil =>
        rw [hb] at hab hsum
        simp (config := { maxSteps := 4000000 }) only [envM, qw0, splitC, fieldC, awake19C, hs, hm, hn, hh, hb, hab, q1, q2, hhl', d2, d4, w2, w4, c1, c2, c3, c4, c5, go_sem, reduceCtorEq, ↓reduceIte, Nat.reduceAdd, Nat.reduceMul, Nat.reduceSub, Nat.reduceEqDiff, Nat.reduceLT, Nat.reduceBEq, Nat.reduceBNe, Nat.reduceLeDiff, Int.reduceLE, Int.reduceLT, Int.reduceToNat, Int.reduceEq, Int.reduceAdd, UInt8.reduceToNat, UInt32.reduceToNat, UInt64.reduceToNat, UInt8.reduceOfNat, UInt32.reduceOfNat, UInt64.reduceOfNat, Fin.isValue, Int.reduceSub, Int.reduceMul, Int.reduceNeg, Int.reduceMod, Int.reduceDiv, Int.reduceTDiv, Int.reduceTMod, Int.reduceBEq, Int.reduceBNe, Nat.reduceDiv, Nat.reducePow]
        ((repeat' apply And.intro) <;> first | omega | exact rfl | exact id | assumption)
      | cons b0 bl =>
        have hbe : ((b0 :: bl : List UInt8) == []) = false := rfl
        rw [hb] at hab hsum
        have hsum' : h.length + (bl.length + 1) ≤ 9223372036854775807 := hsum
        simp (config := { maxSteps := 4000000 }) only [envM, qw0, splitC, fieldC, awake19C, hs, hm, hn, hh, hb, hab, q1, q2, hhl', d2, d4, w2, w4, c1, c2, c3, c4, c5, hbe, go_sem, reduceCtorEq, ↓reduceIte, Nat.reduceAdd, Nat.reduceMul, Nat.reduceSub, Nat.reduceEqDiff, Nat.reduceLT, Nat.reduceBEq, Nat.reduceBNe, Nat.reduceLeDiff, Int.reduceLE, Int.reduceLT, Int.reduceToNat, Int.reduceEq, Int.reduceAdd, UInt8.reduceToNat, UInt32.reduceToNat, UInt64.reduceToNat, UInt8.reduceOfNat, UInt32.reduceOfNat, UInt64.reduceOfNat, Fin.isValue, Int.reduceSub, Int.reduceMul, Int.reduceNeg, Int.reduceMod, Int.reduceDiv, Int.reduceTDiv, Int.reduceTMod, Int.reduceBEq, Int.reduceBNe, Nat.reduceDiv, Nat.reducePow]
        ((repeat' apply And.intro) <;> first | omega | exact rfl | exact id | assumption)
  · have hh : s.take (headN s) = s := by rw [hi, List.take_length]
    have hb : s.drop (headN s) = [] := by rw [hi, List.drop_length]
    have hml : (s ++ more).length ≤ 1048576 := by rw [List.length_append]; omega
    have hap : s ++ ([] : List UInt8) = s := List.append_nil s
    cases c4 : ((s.length : Int) == 2) with
    | true =>
      have e1 : (s == [13, 10]) = false := by
        rw [beq_eq_false_iff_ne]; intro e; exact hno 0 (at_two e)
      have c5 : decide ((3 : Int) < (s.length : Int)) = false := decide_eq_false (by have := eq_of_beq c4; omega)
      simp (config := { maxSteps := 4000000 }) only [envM, qw0, splitC, fieldC, awake19C, hs, hm, hn, hh, hb, hap, c4, c5, e1, go_sem, reduceCtorEq, ↓reduceIte, Nat.reduceAdd, Nat.reduceMul, Nat.reduceSub, Nat.reduceEqDiff, Nat.reduceLT, Nat.reduceBEq, Nat.reduceBNe, Nat.reduceLeDiff, Int.reduceLE, Int.reduceLT, Int.reduceToNat, Int.reduceEq, Int.reduceAdd, UInt8.reduceToNat, UInt32.reduceToNat, UInt64.reduceToNat, UInt8.reduceOfNat, UInt32.reduceOfNat, UInt64.reduceOfNat, Fin.isValue, Int.reduceSub, Int.reduceMul, Int.reduceNeg, Int.reduceMod, Int.reduceDiv, Int.reduceTDiv, Int.reduceTMod, Int.reduceBEq, Int.reduceBNe, Nat.reduceDiv, Nat.reducePow]
      ((repeat' apply And.intro) <;> first | omega | exact rfl | exact id | assumption)
    | false =>
      cases c5 : decide ((3 : Int) < (s.length : Int)) with
      | true =>
        have hl4 : 4 ≤ s.length := by have := of_decide_eq_true c5; omega
        have w4 : IntKind.i64.wrap ((s.length : Int) - 4) = ((s.length - 4 : Nat) : Int) := by rw [IntKind.wrap_i64]; omega
        have e1 : (s.drop (s.length - 4) == [13, 10, 13, 10]) = false := by
          rw [beq_eq_false_iff_ne]; intro e; exact hno _ (at_four e)
        simp (config := { maxSteps := 4000000 }) only [envM, qw0, splitC, fieldC, awake19C, hs, hm, hn, hh, hb, hap, c4, c5, w4, e1, go_sem, reduceCtorEq, ↓reduceIte, Nat.reduceAdd, Nat.reduceMul, Nat.reduceSub, Nat.reduceEqDiff, Nat.reduceLT, Nat.reduceBEq, Nat.reduceBNe, Nat.reduceLeDiff, Int.reduceLE, Int.reduceLT, Int.reduceToNat, Int.reduceEq, Int.reduceAdd, UInt8.reduceToNat, UInt32.reduceToNat, UInt64.reduceToNat, UInt8.reduceOfNat, UInt32.reduceOfNat, UInt64.reduceOfNat, Fin.isValue, Int.reduceSub, Int.reduceMul, Int.reduceNeg, Int.reduceMod, Int.reduceDiv, Int.reduceTDiv, Int.reduceTMod, Int.reduceBEq, Int.reduceBNe, Nat.reduceDiv, Nat.reducePow]
        ((repeat' apply And.intro) <;> first | omega | exact rfl | exact id | assumption)
      | false =>
        simp (config := { maxSteps := 4000000 }) only [envM, qw0, splitC, fieldC, awake19C, hs, hm, hn, hh, hb, hap, c4, c5, go_sem, reduceCtorEq, ↓reduceIte, Nat.reduceAdd, Nat.reduceMul, Nat.reduceSub, Nat.reduceEqDiff, Nat.reduceLT, Nat.reduceBEq, Nat.reduceBNe, Nat.reduceLeDiff, Int.reduceLE, Int.reduceLT, Int.reduceToNat, Int.reduceEq, Int.reduceAdd, UInt8.reduceToNat, UInt32.reduceToNat, UInt64.reduceToNat, UInt8.reduceOfNat, UInt32.reduceOfNat, UInt64.reduceOfNat, Fin.isValue, Int.reduceSub, Int.reduceMul, Int.reduceNeg, Int.reduceMod, Int.reduceDiv, Int.reduceTDiv, Int.reduceTMod, Int.reduceBEq, Int.reduceBNe, Nat.reduceDiv, Nat.reducePow]
        ((repeat' apply And.intro) <;> first | omega | exact rfl | exact id | assumption)
theorem partWhole_law (a : ByteArray) (wa : a.size ≤ maxLen) (b : ByteArray) (wb : b.size ≤ maxLen) (c : ByteArray) (wc : c.size ≤ maxLen) (w : World) (hg : ∀ f ∈ GM, f.p w) :
    Calls Tryd.prog 14 #[.string a, .string b, .string c] w fun e w' => e = .returned (.bool true) ∧ Below w.heap.size w w' := by
  refine (tri_callsG (lawWhole_tri a.data.toList b.data.toList c.data.toList) w (vals := [.string a, .string b, .string c]) ⟨rfl, rfl, rfl, trivial⟩ hg).mono ?_
  rintro e w' ⟨u, r', rfl, hr, hb⟩
  exact ⟨by rw [show u = .bool true from hr], hb⟩
end Go.Proofs.YtgfcdkbbkgamnaaDoor
