/-
  Layer 14: the text of numbers that rise is parsed to ranges that have just these.
-/
import Derived.Test.YtgfcdkbbkgamnaaDoorSz
import Derived.Test.YtgfcdkbbkgamnaaDoorTp
namespace Go.Proofs.YtgfcdkbbkgamnaaDoor
open Go Go.RowKit
set_option maxHeartbeats 4000000
set_option linter.unusedSimpArgs false
set_option linter.unusedVariables false
theorem partsR_all (l : List Int) : ∀ (f a : Nat), l.length - a ≤ f → (partsR l a).length ≤ l.length - a ∧ ∀ p ∈ partsR l a, ∃ i k, p = partL l i k
  | 0, a, h => by rw [partsR_end (by omega)]; exact ⟨by simp, fun p hp => by cases hp⟩
  | f + 1, a, h => by
    rcases Nat.lt_or_ge a l.length with ha | ha
    · obtain ⟨t1, t2, _⟩ := toN_spec ha
      obtain ⟨i1, i2⟩ := partsR_all l f (toN l a + 1) (by omega)
      rw [partsR_step ha]
      refine ⟨by simp only [List.length_cons]; omega, fun p hp => ?_⟩
      rcases List.mem_cons.1 hp with rfl | hp
      · exact ⟨_, _, rfl⟩
      · exact i2 p hp
    · rw [partsR_end ha]; exact ⟨by simp, fun p hp => by cases hp⟩
theorem textL_len {l : List Int} (h : inR l) : (textL l).length ≤ 44 * l.length := by
  obtain ⟨h1, h2⟩ := partsR_all l l.length 0 (by omega)
  have := joined_len (partsR l 0) fun p hp => by
    obtain ⟨i, k, rfl⟩ := h2 p hp
    exact part_len h i k
  unfold textL
  have h3 := Nat.mul_le_mul_left 44 h1
  omega
structure SbX where
  i : Nat
  acc : List Int
  k : Int
  b : Bool
def sbInv (s : List UInt8) (n g : Int) (x : SbX) : St := match x.acc.length with
  | 0 => ⟨[(1, .c (.one (.num n))), (2, .c (.one (.num g))), (7, .c (.one (.val (.slice none 0 0)))), (8, .c (.one (.num x.k))), (9, .c (.one (.bo x.b))), (24, .c (.one (.sl 0 0 1 s.length))), (25, .c (.one (.num s.length))), (26, .c (.one (.num x.i)))], [(0, ⟨.arr _ u8L s, false⟩)]⟩
  | j + 1 => ⟨[(1, .c (.one (.num n))), (2, .c (.one (.num g))), (7, .c (.one (.sl 500 0 1 (j + 1)))), (8, .c (.one (.num x.k))), (9, .c (.one (.bo x.b))), (24, .c (.one (.sl 0 0 1 s.length))), (25, .c (.one (.num s.length))), (26, .c (.one (.num x.i)))], [(0, ⟨.arr _ u8L s, false⟩), (500, ⟨.arr _ intL x.acc, true⟩)]⟩
def sbOk (s : List UInt8) (n : Int) (x : SbX) : Prop := x.i ≤ s.length ∧ x.acc = rise 0 (s.take x.i) ∧ x.k = sumS (s.take x.i) ∧ x.b = x.acc.any (· == n)
theorem sbOk_add {s : List UInt8} {n : Int} {x : SbX} (h : sbOk s n x) (hi : x.i < s.length) : sbOk s n ⟨x.i + 1, x.acc ++ [x.k + stp (s.getD x.i 0)], x.k + stp (s.getD x.i 0), x.b || (x.k + stp (s.getD x.i 0) == n)⟩ := by
  obtain ⟨h1, h2, h3, h4⟩ := h
  have e : s.take (x.i + 1) = s.take x.i ++ [s.getD x.i 0] := by rw [List.take_add_one, List.getD_eq_getElem?_getD, List.getElem?_eq_getElem hi]; rfl
  refine ⟨hi, ?_, ?_, ?_⟩
  · show x.acc ++ _ = rise 0 (s.take (x.i + 1))
    rw [e, rise_snoc, ← h2, ← h3, Int.zero_add]
  · show x.k + _ = sumS (s.take (x.i + 1))
    rw [e, sumS_snoc, ← h3]
  · show (x.b || _) = (x.acc ++ [_]).any _
    rw [List.any_append, ← h4]
    simp
theorem any_contains (l : List Int) (n : Int) : l.any (· == n) = l.contains n := by
  rw [Bool.eq_iff_iff]
  simp [List.any_eq_true]
def qtf : Nat → Option Con := fun f => match f with
  | 27 => some textQC
  | 21 => some parseC
  | 24 => some hasQC
  | 26 => some pickQC
  | 20 => some awake14C
  | _ => none
theorem qtf_ok : GaOkG Tryd.prog GL qtf := fun f con h => by
  unfold qtf at h
  split at h
  · injection h with h; subst h; exact textQC_ok
  · injection h with h; subst h; exact parseC_ok
  · injection h with h; subst h; exact hasQC_ok
  · injection h with h; subst h; exact pickQC_ok
  · injection h with h; subst h; exact awake14C_ok
  · cases h
set_option maxRecDepth 100000 in
theorem lawBack_tri (s : List UInt8) (n g : Int) : TriG Tryd.prog GL 5 [.one (.sl 0 0 1 s.length), .one (.num n), .one (.num g)] [(0, ⟨.arr _ u8L s, false⟩)] (.c (.one (.bo true))) [(0, ⟨.arr _ u8L s, false⟩)] := by
  refine tri_ofx (envLK_ok qtf_ok 74 [0]) Tryd.func5 rfl rfl (rs := [.tmp 6]) rfl rfl (by simp [envLK]) rfl ?_
  cases hb : decide ((100 : Int) < s.length) with
  | true =>
    simp only [envLK, con0, conS, strsOf_arr, rowS_arr, strsOf_cells, rowS_cells, toS, strL_st, strL_d, strL_enc, strL_up, hpN_nil, hpN_cons, qtf, textQC, parseC, hasQC, pickQC, awake14C, hb, go_sem, reduceCtorEq, ↓reduceIte, Nat.reduceAdd, Nat.reduceMul, Nat.reduceSub, Nat.reduceEqDiff, Nat.reduceLT, Nat.reduceBEq, Nat.reduceBNe, Nat.reduceLeDiff, Int.reduceLE, Int.reduceLT, Int.reduceToNat, Int.reduceEq, Int.reduceAdd, UInt8.reduceToNat, UInt32.reduceToNat, UInt64.reduceToNat, UInt8.reduceOfNat, UInt32.reduceOfNat, UInt64.reduceOfNat, Fin.isValue, Int.reduceSub, Int.reduceMul, Int.reduceNeg, Int.reduceMod, Int.reduceDiv, Int.reduceTDiv, Int.reduceTMod, Int.reduceBEq, Int.reduceBNe, Nat.reduceDiv, Nat.reducePow]
    refine endX [] ?_
    simp only [envLK, con0, conS, strsOf_arr, rowS_arr, strsOf_cells, rowS_cells, toS, strL_st, strL_d, strL_enc, strL_up, hpN_nil, hpN_cons, qtf, textQC, parseC, hasQC, pickQC, awake14C, go_sem, reduceCtorEq, ↓reduceIte, Nat.reduceAdd, Nat.reduceMul, Nat.reduceSub, Nat.reduceEqDiff, Nat.reduceLT, Nat.reduceBEq, Nat.reduceBNe, Nat.reduceLeDiff, Int.reduceLE, Int.reduceLT, Int.reduceToNat, Int.reduceEq, Int.reduceAdd, UInt8.reduceToNat, UInt32.reduceToNat, UInt64.reduceToNat, UInt8.reduceOfNat, UInt32.reduceOfNat, UInt64.reduceOfNat, Fin.isValue, Int.reduceSub, Int.reduceMul, Int.reduceNeg, Int.reduceMod, Int.reduceDiv, Int.reduceTDiv, Int.reduceTMod, Int.reduceBEq, Int.reduceBNe, Nat.reduceDiv, Nat.reducePow]
    all_goals ((repeat' apply And.intro) <;> first | omega | exact rfl | exact id)
  | false =>
    cases hb2 : ((s.length : Int) == 0) with
    | true =>
      simp only [envLK, con0, conS, strsOf_arr, rowS_arr, strsOf_cells, rowS_cells, toS, strL_st, strL_d, strL_enc, strL_up, hpN_nil, hpN_cons, qtf, textQC, parseC, hasQC, pickQC, awake14C, hb, hb2, go_sem, reduceCtorEq, ↓reduceIte, Nat.reduceAdd, Nat.reduceMul, Nat.reduceSub, Nat.reduceEqDiff, Nat.reduceLT, Nat.reduceBEq, Nat.reduceBNe, Nat.reduceLeDiff, Int.reduceLE, Int.reduceLT, Int.reduceToNat, Int.reduceEq, Int.reduceAdd, UInt8.reduceToNat, UInt32.reduceToNat, UInt64.reduceToNat, UInt8.reduceOfNat, UInt32.reduceOfNat, UInt64.reduceOfNat, Fin.isValue, Int.reduceSub, Int.reduceMul, Int.reduceNeg, Int.reduceMod, Int.reduceDiv, Int.reduceTDiv, Int.reduceTMod, Int.reduceBEq, Int.reduceBNe, Nat.reduceDiv, Nat.reducePow]
      refine endX [] ?_
      simp only [envLK, con0, conS, strsOf_arr, rowS_arr, strsOf_cells, rowS_cells, toS, strL_st, strL_d, strL_enc, strL_up, hpN_nil, hpN_cons, qtf, textQC, parseC, hasQC, pickQC, awake14C, go_sem, reduceCtorEq, ↓reduceIte, Nat.reduceAdd, Nat.reduceMul, Nat.reduceSub, Nat.reduceEqDiff, Nat.reduceLT, Nat.reduceBEq, Nat.reduceBNe, Nat.reduceLeDiff, Int.reduceLE, Int.reduceLT, Int.reduceToNat, Int.reduceEq, Int.reduceAdd, UInt8.reduceToNat, UInt32.reduceToNat, UInt64.reduceToNat, UInt8.reduceOfNat, UInt32.reduceOfNat, UInt64.reduceOfNat, Fin.isValue, Int.reduceSub, Int.reduceMul, Int.reduceNeg, Int.reduceMod, Int.reduceDiv, Int.reduceTDiv, Int.reduceTMod, Int.reduceBEq, Int.reduceBNe, Nat.reduceDiv, Nat.reducePow]
      all_goals ((repeat' apply And.intro) <;> first | omega | exact rfl | exact id)
    | false =>
      have hl : s.length ≤ 100 := by have := of_decide_eq_false hb; omega
      have hpos : 0 < s.length := by
        rcases Nat.eq_zero_or_pos s.length with h | h
        · rw [h] at hb2; cases hb2
        · exact h
      simp only [envLK, con0, conS, strsOf_arr, rowS_arr, strsOf_cells, rowS_cells, toS, strL_st, strL_d, strL_enc, strL_up, hpN_nil, hpN_cons, qtf, textQC, parseC, hasQC, pickQC, awake14C, hb, hb2, go_sem, reduceCtorEq, ↓reduceIte, Nat.reduceAdd, Nat.reduceMul, Nat.reduceSub, Nat.reduceEqDiff, Nat.reduceLT, Nat.reduceBEq, Nat.reduceBNe, Nat.reduceLeDiff, Int.reduceLE, Int.reduceLT, Int.reduceToNat, Int.reduceEq, Int.reduceAdd, UInt8.reduceToNat, UInt32.reduceToNat, UInt64.reduceToNat, UInt8.reduceOfNat, UInt32.reduceOfNat, UInt64.reduceOfNat, Fin.isValue, Int.reduceSub, Int.reduceMul, Int.reduceNeg, Int.reduceMod, Int.reduceDiv, Int.reduceTDiv, Int.reduceTMod, Int.reduceBEq, Int.reduceBNe, Nat.reduceDiv, Nat.reducePow]
      refine loop_inv (envLK_ok qtf_ok 74 [0]) (sbInv s n g) (sbOk s n) (fun x => s.length - x.i) ⟨0, [], 0, false⟩ [] ⟨Nat.zero_le _, rfl, rfl, rfl⟩ ?_ ?_
      · simp only [sbInv, go_sem, reduceCtorEq, ↓reduceIte, Nat.reduceAdd, Nat.reduceMul, Nat.reduceSub, Nat.reduceEqDiff, Nat.reduceLT, Nat.reduceBEq, Nat.reduceBNe, Nat.reduceLeDiff, Int.reduceLE, Int.reduceLT, Int.reduceToNat, Int.reduceEq, Int.reduceAdd, UInt8.reduceToNat, UInt32.reduceToNat, UInt64.reduceToNat, UInt8.reduceOfNat, UInt32.reduceOfNat, UInt64.reduceOfNat, Fin.isValue, Int.reduceSub, Int.reduceMul, Int.reduceNeg, Int.reduceMod, Int.reduceDiv, Int.reduceTDiv, Int.reduceTMod, Int.reduceBEq, Int.reduceBNe, Nat.reduceDiv, Nat.reducePow]
        all_goals ((repeat' apply And.intro) <;> first | omega | exact rfl | exact id)
      · rintro ⟨i, acc, k, b⟩ hx
        have hi1 : i ≤ s.length := hx.1
        have hal : acc.length = i := by have := hx.2.1; simp only at this; rw [this, rise_len, List.length_take]; omega
        have hks : 0 ≤ k ∧ k ≤ 400 := by
          have h1 := hx.2.2.1
          simp only at h1
          have h2 := sumS_le (s.take i)
          rw [List.length_take] at h2
          rw [h1]; omega
        have hw : IntKind.i64.wrap ((i : Int) + 1) = ((i + 1 : Nat) : Int) := by rw [IntKind.wrap_i64]; omega
        generalize hj : acc.length = j at hal
        rcases j with _ | j
        · obtain rfl := List.eq_nil_of_length_eq_zero hj
          simp only [envLK, con0, conS, strsOf_arr, rowS_arr, strsOf_cells, rowS_cells, toS, strL_st, strL_d, strL_enc, strL_up, hpN_nil, hpN_cons, qtf, textQC, parseC, hasQC, pickQC, awake14C, sbInv, hj, go_sem, reduceCtorEq, ↓reduceIte, Nat.reduceAdd, Nat.reduceMul, Nat.reduceSub, Nat.reduceEqDiff, Nat.reduceLT, Nat.reduceBEq, Nat.reduceBNe, Nat.reduceLeDiff, Int.reduceLE, Int.reduceLT, Int.reduceToNat, Int.reduceEq, Int.reduceAdd, UInt8.reduceToNat, UInt32.reduceToNat, UInt64.reduceToNat, UInt8.reduceOfNat, UInt32.reduceOfNat, UInt64.reduceOfNat, Fin.isValue, Int.reduceSub, Int.reduceMul, Int.reduceNeg, Int.reduceMod, Int.reduceDiv, Int.reduceTDiv, Int.reduceTMod, Int.reduceBEq, Int.reduceBNe, Nat.reduceDiv, Nat.reducePow]
          refine br (fun h => ?_) fun h => ?_
          · have hlt : i < s.length := by have := of_decide_eq_true h; omega
            have hnx := sbOk_add hx hlt
            simp only at hnx
            have hst := stp_le (s.getD i 0)
            have hs1 : IntKind.i64.wrap (1 + (((s.getD i 0) % 4).toNat : Int)) = stp (s.getD i 0) := by
              have : (1 : Int) + (((s.getD i 0) % 4).toNat : Int) = stp (s.getD i 0) := rfl
              rw [this, IntKind.wrap_i64]; omega
            have hs2 : IntKind.i64.wrap (k + stp (s.getD i 0)) = k + stp (s.getD i 0) := by rw [IntKind.wrap_i64]; omega
            obtain rfl : b = false := hx.2.2.2
            simp only [Bool.false_or] at hnx
            simp only [envLK, con0, conS, strsOf_arr, rowS_arr, strsOf_cells, rowS_cells, toS, strL_st, strL_d, strL_enc, strL_up, hpN_nil, hpN_cons, qtf, textQC, parseC, hasQC, pickQC, awake14C, h, hj, hw, hs1, hs2, u8L, intL_st, intL_d, intL_enc, intL_up, go_sem, reduceCtorEq, ↓reduceIte, Nat.reduceAdd, Nat.reduceMul, Nat.reduceSub, Nat.reduceEqDiff, Nat.reduceLT, Nat.reduceBEq, Nat.reduceBNe, Nat.reduceLeDiff, Int.reduceLE, Int.reduceLT, Int.reduceToNat, Int.reduceEq, Int.reduceAdd, UInt8.reduceToNat, UInt32.reduceToNat, UInt64.reduceToNat, UInt8.reduceOfNat, UInt32.reduceOfNat, UInt64.reduceOfNat, Fin.isValue, Int.reduceSub, Int.reduceMul, Int.reduceNeg, Int.reduceMod, Int.reduceDiv, Int.reduceTDiv, Int.reduceTMod, Int.reduceBEq, Int.reduceBNe, Nat.reduceDiv, Nat.reducePow]
            (repeat' apply And.intro)
            rotate_right
            · refine again ⟨i + 1, [] ++ [k + stp (s.getD i 0)], k + stp (s.getD i 0), (k + stp (s.getD i 0) == n)⟩ [(500, 100024)] hnx (by show s.length - (i + 1) < s.length - i; omega) ?_
              simp only [sbInv, List.length_append, hj, intL_st, intL_d, intL_enc, intL_up, envLK, con0, conS, strsOf_arr, rowS_arr, strsOf_cells, rowS_cells, toS, strL_st, strL_d, strL_enc, strL_up, hpN_nil, hpN_cons, qtf, textQC, parseC, hasQC, pickQC, awake14C, go_sem, reduceCtorEq, ↓reduceIte, Nat.reduceAdd, Nat.reduceMul, Nat.reduceSub, Nat.reduceEqDiff, Nat.reduceLT, Nat.reduceBEq, Nat.reduceBNe, Nat.reduceLeDiff, Int.reduceLE, Int.reduceLT, Int.reduceToNat, Int.reduceEq, Int.reduceAdd, UInt8.reduceToNat, UInt32.reduceToNat, UInt64.reduceToNat, UInt8.reduceOfNat, UInt32.reduceOfNat, UInt64.reduceOfNat, Fin.isValue, Int.reduceSub, Int.reduceMul, Int.reduceNeg, Int.reduceMod, Int.reduceDiv, Int.reduceTDiv, Int.reduceTMod, Int.reduceBEq, Int.reduceBNe, Nat.reduceDiv, Nat.reducePow]
              all_goals ((repeat' apply And.intro) <;> first | omega | exact rfl | exact id)
            all_goals first | omega | exact rfl | exact id | trivial
          · have hge : s.length ≤ i := by have := of_decide_eq_false h; omega
            omega
        · simp only [envLK, con0, conS, strsOf_arr, rowS_arr, strsOf_cells, rowS_cells, toS, strL_st, strL_d, strL_enc, strL_up, hpN_nil, hpN_cons, qtf, textQC, parseC, hasQC, pickQC, awake14C, sbInv, hj, go_sem, reduceCtorEq, ↓reduceIte, Nat.reduceAdd, Nat.reduceMul, Nat.reduceSub, Nat.reduceEqDiff, Nat.reduceLT, Nat.reduceBEq, Nat.reduceBNe, Nat.reduceLeDiff, Int.reduceLE, Int.reduceLT, Int.reduceToNat, Int.reduceEq, Int.reduceAdd, UInt8.reduceToNat, UInt32.reduceToNat, UInt64.reduceToNat, UInt8.reduceOfNat, UInt32.reduceOfNat, UInt64.reduceOfNat, Fin.isValue, Int.reduceSub, Int.reduceMul, Int.reduceNeg, Int.reduceMod, Int.reduceDiv, Int.reduceTDiv, Int.reduceTMod, Int.reduceBEq, Int.reduceBNe, Nat.reduceDiv, Nat.reducePow]
          refine br (fun h => ?_) fun h => ?_
          · have hlt : i < s.length := by have := of_decide_eq_true h; omega
            have hnx := sbOk_add hx hlt
            simp only at hnx
            have hst := stp_le (s.getD i 0)
            have hs1 : IntKind.i64.wrap (1 + (((s.getD i 0) % 4).toNat : Int)) = stp (s.getD i 0) := by
              have : (1 : Int) + (((s.getD i 0) % 4).toNat : Int) = stp (s.getD i 0) := rfl
              rw [this, IntKind.wrap_i64]; omega
            have hs2 : IntKind.i64.wrap (k + stp (s.getD i 0)) = k + stp (s.getD i 0) := by rw [IntKind.wrap_i64]; omega
            cases b with
            | false =>
              simp only [Bool.false_or] at hnx
              simp only [envLK, con0, conS, strsOf_arr, rowS_arr, strsOf_cells, rowS_cells, toS, strL_st, strL_d, strL_enc, strL_up, hpN_nil, hpN_cons, qtf, textQC, parseC, hasQC, pickQC, awake14C, h, hj, hw, hs1, hs2, u8L, intL_st, intL_d, intL_enc, intL_up, go_sem, reduceCtorEq, ↓reduceIte, Nat.reduceAdd, Nat.reduceMul, Nat.reduceSub, Nat.reduceEqDiff, Nat.reduceLT, Nat.reduceBEq, Nat.reduceBNe, Nat.reduceLeDiff, Int.reduceLE, Int.reduceLT, Int.reduceToNat, Int.reduceEq, Int.reduceAdd, UInt8.reduceToNat, UInt32.reduceToNat, UInt64.reduceToNat, UInt8.reduceOfNat, UInt32.reduceOfNat, UInt64.reduceOfNat, Fin.isValue, Int.reduceSub, Int.reduceMul, Int.reduceNeg, Int.reduceMod, Int.reduceDiv, Int.reduceTDiv, Int.reduceTMod, Int.reduceBEq, Int.reduceBNe, Nat.reduceDiv, Nat.reducePow]
              (repeat' apply And.intro)
              rotate_right
              · refine again ⟨i + 1, acc ++ [k + stp (s.getD i 0)], k + stp (s.getD i 0), (k + stp (s.getD i 0) == n)⟩ [(500, 100024)] hnx (by show s.length - (i + 1) < s.length - i; omega) ?_
                simp only [sbInv, List.length_append, hj, intL_st, intL_d, intL_enc, intL_up, envLK, con0, conS, strsOf_arr, rowS_arr, strsOf_cells, rowS_cells, toS, strL_st, strL_d, strL_enc, strL_up, hpN_nil, hpN_cons, qtf, textQC, parseC, hasQC, pickQC, awake14C, go_sem, reduceCtorEq, ↓reduceIte, Nat.reduceAdd, Nat.reduceMul, Nat.reduceSub, Nat.reduceEqDiff, Nat.reduceLT, Nat.reduceBEq, Nat.reduceBNe, Nat.reduceLeDiff, Int.reduceLE, Int.reduceLT, Int.reduceToNat, Int.reduceEq, Int.reduceAdd, UInt8.reduceToNat, UInt32.reduceToNat, UInt64.reduceToNat, UInt8.reduceOfNat, UInt32.reduceOfNat, UInt64.reduceOfNat, Fin.isValue, Int.reduceSub, Int.reduceMul, Int.reduceNeg, Int.reduceMod, Int.reduceDiv, Int.reduceTDiv, Int.reduceTMod, Int.reduceBEq, Int.reduceBNe, Nat.reduceDiv, Nat.reducePow]
                all_goals ((repeat' apply And.intro) <;> first | omega | exact rfl | exact id)
              all_goals first | omega | exact rfl | exact id | trivial
            | true =>
              simp only [Bool.true_or] at hnx
              simp only [envLK, con0, conS, strsOf_arr, rowS_arr, strsOf_cells, rowS_cells, toS, strL_st, strL_d, strL_enc, strL_up, hpN_nil, hpN_cons, qtf, textQC, parseC, hasQC, pickQC, awake14C, h, hj, hw, hs1, hs2, u8L, intL_st, intL_d, intL_enc, intL_up, go_sem, reduceCtorEq, ↓reduceIte, Nat.reduceAdd, Nat.reduceMul, Nat.reduceSub, Nat.reduceEqDiff, Nat.reduceLT, Nat.reduceBEq, Nat.reduceBNe, Nat.reduceLeDiff, Int.reduceLE, Int.reduceLT, Int.reduceToNat, Int.reduceEq, Int.reduceAdd, UInt8.reduceToNat, UInt32.reduceToNat, UInt64.reduceToNat, UInt8.reduceOfNat, UInt32.reduceOfNat, UInt64.reduceOfNat, Fin.isValue, Int.reduceSub, Int.reduceMul, Int.reduceNeg, Int.reduceMod, Int.reduceDiv, Int.reduceTDiv, Int.reduceTMod, Int.reduceBEq, Int.reduceBNe, Nat.reduceDiv, Nat.reducePow]
              (repeat' apply And.intro)
              rotate_right
              · refine again ⟨i + 1, acc ++ [k + stp (s.getD i 0)], k + stp (s.getD i 0), true⟩ [(500, 100024)] hnx (by show s.length - (i + 1) < s.length - i; omega) ?_
                simp only [sbInv, List.length_append, hj, intL_st, intL_d, intL_enc, intL_up, envLK, con0, conS, strsOf_arr, rowS_arr, strsOf_cells, rowS_cells, toS, strL_st, strL_d, strL_enc, strL_up, hpN_nil, hpN_cons, qtf, textQC, parseC, hasQC, pickQC, awake14C, go_sem, reduceCtorEq, ↓reduceIte, Nat.reduceAdd, Nat.reduceMul, Nat.reduceSub, Nat.reduceEqDiff, Nat.reduceLT, Nat.reduceBEq, Nat.reduceBNe, Nat.reduceLeDiff, Int.reduceLE, Int.reduceLT, Int.reduceToNat, Int.reduceEq, Int.reduceAdd, UInt8.reduceToNat, UInt32.reduceToNat, UInt64.reduceToNat, UInt8.reduceOfNat, UInt32.reduceOfNat, UInt64.reduceOfNat, Fin.isValue, Int.reduceSub, Int.reduceMul, Int.reduceNeg, Int.reduceMod, Int.reduceDiv, Int.reduceTDiv, Int.reduceTMod, Int.reduceBEq, Int.reduceBNe, Nat.reduceDiv, Nat.reducePow]
                all_goals ((repeat' apply And.intro) <;> first | omega | exact rfl | exact id)
              all_goals first | omega | exact rfl | exact id | trivial
          · have hge : s.length ≤ i := by have := of_decide_eq_false h; omega
            have hac : acc = rise 0 s := by have := hx.2.1; simp only at this; rw [this, List.take_of_length_le hge]
            have hU : ∀ x ∈ acc, 1 ≤ x ∧ x ≤ 400 := fun x hxm => by
              rw [hac] at hxm
              have := rise_in s 0 (Int.le_refl _) x hxm
              omega
            have hinU : inU acc := fun x hxm => by have := hU x hxm; omega
            have hinR : inR acc := fun x hxm => by have := hU x hxm; omega
            obtain ⟨R, hR, hRm⟩ := parse_text hinU (by omega)
            have htl := textL_len hinR
            obtain ⟨r0, r1⟩ := prsL_len hR
            have hsp := split_le 44 (textL acc)
            have hs1 : (textL acc).length ≤ 65536 := by omega
            have hs2 : (Lib.split (textL acc) [44]).length ≤ 65537 := by omega
            have hRl : R.length ≤ 1048576 := by omega
            have hne : R.isEmpty = false := by cases R with | nil => simp at r0 | cons _ _ => rfl
            have hae : acc.isEmpty = false := by cases acc with | nil => simp at hj | cons _ _ => rfl
            have hpk := pick_all hRm
            have hbv : hasF R n g = b := by rw [hRm]; have := hx.2.2.2; simp only at this; rw [this, any_contains]
            have hal1 : j + 1 ≤ 1000 := by omega
            have hal2 : j + 1 ≤ 1048576 := by omega
            cases b with
            | false =>
              simp only [envLK, con0, conS, strsOf_arr, rowS_arr, strsOf_cells, rowS_cells, toS, strL_st, strL_d, strL_enc, strL_up, hpN_nil, hpN_cons, qtf, textQC, parseC, hasQC, pickQC, awake14C, conQ, textQF, parseF, prsV, prsO, hasQF, pickQF, pickV, pickO, hpk, hR, hne, hae, hbv, hj, h, hs1, hs2, hRl, hal1, hal2, hinR, pairsOf_arr, rowP_arr, intsOf_arr, rowI_arr, Bool.false_eq_true, if_false, if_true, reduceIte, beq_self_eq_true, go_sem, reduceCtorEq, ↓reduceIte, Nat.reduceAdd, Nat.reduceMul, Nat.reduceSub, Nat.reduceEqDiff, Nat.reduceLT, Nat.reduceBEq, Nat.reduceBNe, Nat.reduceLeDiff, Int.reduceLE, Int.reduceLT, Int.reduceToNat, Int.reduceEq, Int.reduceAdd, UInt8.reduceToNat, UInt32.reduceToNat, UInt64.reduceToNat, UInt8.reduceOfNat, UInt32.reduceOfNat, UInt64.reduceOfNat, Fin.isValue, Int.reduceSub, Int.reduceMul, Int.reduceNeg, Int.reduceMod, Int.reduceDiv, Int.reduceTDiv, Int.reduceTMod, Int.reduceBEq, Int.reduceBNe, Nat.reduceDiv, Nat.reducePow]
              repeat' apply And.intro
              rotate_right
              · refine endX [] ?_
                simp only [envLK, con0, conS, strsOf_arr, rowS_arr, strsOf_cells, rowS_cells, toS, strL_st, strL_d, strL_enc, strL_up, hpN_nil, hpN_cons, qtf, textQC, parseC, hasQC, pickQC, awake14C, go_sem, reduceCtorEq, ↓reduceIte, Nat.reduceAdd, Nat.reduceMul, Nat.reduceSub, Nat.reduceEqDiff, Nat.reduceLT, Nat.reduceBEq, Nat.reduceBNe, Nat.reduceLeDiff, Int.reduceLE, Int.reduceLT, Int.reduceToNat, Int.reduceEq, Int.reduceAdd, UInt8.reduceToNat, UInt32.reduceToNat, UInt64.reduceToNat, UInt8.reduceOfNat, UInt32.reduceOfNat, UInt64.reduceOfNat, Fin.isValue, Int.reduceSub, Int.reduceMul, Int.reduceNeg, Int.reduceMod, Int.reduceDiv, Int.reduceTDiv, Int.reduceTMod, Int.reduceBEq, Int.reduceBNe, Nat.reduceDiv, Nat.reducePow]
                all_goals ((repeat' apply And.intro) <;> first | omega | exact rfl | exact id)
              all_goals first | omega | exact rfl | exact id
            | true =>
              simp only [envLK, con0, conS, strsOf_arr, rowS_arr, strsOf_cells, rowS_cells, toS, strL_st, strL_d, strL_enc, strL_up, hpN_nil, hpN_cons, qtf, textQC, parseC, hasQC, pickQC, awake14C, conQ, textQF, parseF, prsV, prsO, hasQF, pickQF, pickV, pickO, hpk, hR, hne, hae, hbv, hj, h, hs1, hs2, hRl, hal1, hal2, hinR, pairsOf_arr, rowP_arr, intsOf_arr, rowI_arr, Bool.false_eq_true, if_false, if_true, reduceIte, beq_self_eq_true, go_sem, reduceCtorEq, ↓reduceIte, Nat.reduceAdd, Nat.reduceMul, Nat.reduceSub, Nat.reduceEqDiff, Nat.reduceLT, Nat.reduceBEq, Nat.reduceBNe, Nat.reduceLeDiff, Int.reduceLE, Int.reduceLT, Int.reduceToNat, Int.reduceEq, Int.reduceAdd, UInt8.reduceToNat, UInt32.reduceToNat, UInt64.reduceToNat, UInt8.reduceOfNat, UInt32.reduceOfNat, UInt64.reduceOfNat, Fin.isValue, Int.reduceSub, Int.reduceMul, Int.reduceNeg, Int.reduceMod, Int.reduceDiv, Int.reduceTDiv, Int.reduceTMod, Int.reduceBEq, Int.reduceBNe, Nat.reduceDiv, Nat.reducePow]
              repeat' apply And.intro
              rotate_right
              · refine endX [] ?_
                simp only [envLK, con0, conS, strsOf_arr, rowS_arr, strsOf_cells, rowS_cells, toS, strL_st, strL_d, strL_enc, strL_up, hpN_nil, hpN_cons, qtf, textQC, parseC, hasQC, pickQC, awake14C, go_sem, reduceCtorEq, ↓reduceIte, Nat.reduceAdd, Nat.reduceMul, Nat.reduceSub, Nat.reduceEqDiff, Nat.reduceLT, Nat.reduceBEq, Nat.reduceBNe, Nat.reduceLeDiff, Int.reduceLE, Int.reduceLT, Int.reduceToNat, Int.reduceEq, Int.reduceAdd, UInt8.reduceToNat, UInt32.reduceToNat, UInt64.reduceToNat, UInt8.reduceOfNat, UInt32.reduceOfNat, UInt64.reduceOfNat, Fin.isValue, Int.reduceSub, Int.reduceMul, Int.reduceNeg, Int.reduceMod, Int.reduceDiv, Int.reduceTDiv, Int.reduceTMod, Int.reduceBEq, Int.reduceBNe, Nat.reduceDiv, Nat.reducePow]
                all_goals ((repeat' apply And.intro) <;> first | omega | exact rfl | exact id)
              all_goals first | omega | exact rfl | exact id
theorem spanBack_law (w : World) {v0 : Value} (s : List UInt8) (p : Option (Blk × Nat)) (ha : ArgR w (.arr _ u8L s) 1 s.length v0 p) (hl : s.length ≤ maxLen) (hq : ∀ x ∈ s, True)
    (n : Int) (wn : (Lit.int .i64 n).wf = true) (g : Int) (wg : (Lit.int .i64 g).wf = true) (hg : ∀ f ∈ GL, f.p w) :
    Calls Tryd.prog 5 #[v0, .int .i64 n, .int .i64 g] w fun e w' => e = .returned (.bool true) ∧ Below w.heap.size w w' := by
  refine (tri_callsR (os := [.arr _ u8L s]) (lawBack_tri s n g) w [p] rfl (fun i o q h1 h2 r => ?_) (vals := [v0, .int .i64 n, .int .i64 g]) ⟨ha.rel _ 0 rfl, rfl, rfl, trivial⟩ hg).mono ?_
  · match i with
    | 0 => simp at h1 h2; subst h1; subst h2; exact ha.obj r
    | i + 1 => simp at h1
  · rintro e w' ⟨u, r', rfl, hr, hb⟩
    exact ⟨by rw [show u = .bool true from hr], hb⟩
end Go.Proofs.YtgfcdkbbkgamnaaDoor
