/-
  Layer 14: a set by definition; any text is the set that the document says.
-/
import Derived.Test.YtgfcdkbbkgamnaaDoorSz
import Derived.Test.YtgfcdkbbkgamnaaDoorTh
import Derived.Test.YtgfcdkbbkgamnaaDoorTg
namespace Go.Proofs.YtgfcdkbbkgamnaaDoor
open Go Go.RowKit
set_option maxHeartbeats 4000000
set_option linter.unusedSimpArgs false
set_option linter.unusedVariables false
structure RpX where
  a : Nat
  acc : List Rng
def rpInv (s : List UInt8) (x : RpX) : St := match x.acc.length with
  | 0 => ⟨[(0, .c (.one (.str s))), (4, .c (.one (.val (.slice none 0 0)))), (5, .c (.one (.num x.a)))], []⟩
  | j + 1 => ⟨[(0, .c (.one (.str s))), (4, .c (.one (.sl 500 0 2 (j + 1)))), (5, .c (.one (.num x.a)))], [(500, ⟨.arr _ rngL x.acc, true⟩)]⟩
def rpOk (s : List UInt8) (x : RpX) : Prop := x.a ≤ s.length ∧ x.acc.length ≤ x.a ∧ (parL s x.a).map (x.acc ++ ·) = prsL s
def refPV : Option (List Rng) → SV
  | none => .tup [.one (.val (.slice none 0 0)), .one (.bo false)]
  | some l => .tup [.one (if l.isEmpty then .val (.slice none 0 0) else .sl 0 0 2 l.length), .one (.bo true)]
theorem parR_bad1 {s : List UInt8} {a : Nat} (h : rnA s a < 0) : parR s a = none := by unfold parR; rw [if_pos h]
theorem parR_bad2 {s : List UInt8} {a : Nat} (h : ¬ rnA s a < 0) (h2 : rpA s a < 0) : parR s a = none := by unfold parR; rw [if_neg h, if_pos h2]
theorem parR_end {s : List UInt8} {a : Nat} (h : ¬ rnA s a < 0) (h2 : ¬ rpA s a < 0) (h3 : rpN s a = s.length) : parR s a = some [(rnV s a, rpV s a)] := by unfold parR; rw [if_neg h, if_neg h2, if_pos h3]
theorem parR_more {s : List UInt8} {a : Nat} (h : ¬ rnA s a < 0) (h2 : ¬ rpA s a < 0) (h3 : ¬ rpN s a = s.length) (h4 : s.getD (rpN s a) 0 = 44) : parR s a = (parL s (rpN s a + 1)).map ((rnV s a, rpV s a) :: ·) := by
  unfold parR; rw [if_neg h, if_neg h2, if_neg h3, if_pos h4]
theorem parR_bad3 {s : List UInt8} {a : Nat} (h : ¬ rnA s a < 0) (h2 : ¬ rpA s a < 0) (h3 : ¬ rpN s a = s.length) (h4 : s.getD (rpN s a) 0 ≠ 44) : parR s a = none := by
  unfold parR; rw [if_neg h, if_neg h2, if_neg h3, if_neg h4]
theorem rpOk_bad {s : List UInt8} {x : RpX} (h : rpOk s x) (hb : parR s x.a = none) : prsL s = none := by
  obtain ⟨h1, _, h2⟩ := h
  rw [par_eq s x.a h1, hb] at h2
  exact h2.symm
theorem rpOk_end {s : List UInt8} {x : RpX} {r : Rng} (h : rpOk s x) (hb : parR s x.a = some [r]) : prsL s = some (x.acc ++ [r]) := by
  obtain ⟨h1, _, h2⟩ := h
  rw [par_eq s x.a h1, hb] at h2
  exact h2.symm
theorem rpOk_more {s : List UInt8} {x : RpX} {r : Rng} {n : Nat} (h : rpOk s x) (hn : n < s.length) (hxn : x.a ≤ n) (hb : parR s x.a = (parL s (n + 1)).map (r :: ·)) : rpOk s ⟨n + 1, x.acc ++ [r]⟩ := by
  obtain ⟨h1, h0, h2⟩ := h
  rw [par_eq s x.a h1, hb] at h2
  refine ⟨hn, by simp only [List.length_append, List.length_cons, List.length_nil]; omega, ?_⟩
  rw [← h2]
  show (parL s (n + 1)).map _ = _
  cases parL s (n + 1) <;> simp
theorem dec_lt (a b : Nat) : decide ((a : Int) < (b : Int)) = decide (a < b) := by
  rw [Bool.eq_iff_iff]; simp
def qta : Nat → Option Con := fun f => match f with
  | 54 => some refNumber14C
  | _ => none
theorem qta_ok : GaOkG Tryd.prog GL qta := fun f con h => by
  unfold qta at h
  split at h
  · injection h with h; subst h; exact refNumber14C_ok
  · cases h
set_option maxRecDepth 100000 in
theorem refParse_tri (s : List UInt8) (hs : s.length ≤ 65536) : TriG Tryd.prog GL 22 [.one (.str s)] [] (refPV (prsL s)) (hpN 0 (prsO (prsL s))) := by
  refine tri_ofx (envLK_ok qta_ok 55 []) Tryd.func22 rfl rfl (rs := [.tmp 2, .tmp 3]) rfl rfl (by simp [envLK]) rfl ?_
  simp only [envLK, con0, conS, strsOf_arr, rowS_arr, strsOf_cells, rowS_cells, toS, strL_st, strL_d, strL_enc, strL_up, hpN_nil, hpN_cons, qta, refNumber14C, go_sem, reduceCtorEq, ↓reduceIte, Nat.reduceAdd, Nat.reduceMul, Nat.reduceSub, Nat.reduceEqDiff, Nat.reduceLT, Nat.reduceBEq, Nat.reduceBNe, Nat.reduceLeDiff, Int.reduceLE, Int.reduceLT, Int.reduceToNat, Int.reduceEq, Int.reduceAdd, UInt8.reduceToNat, UInt32.reduceToNat, UInt64.reduceToNat, UInt8.reduceOfNat, UInt32.reduceOfNat, UInt64.reduceOfNat, Fin.isValue, Int.reduceSub, Int.reduceMul, Int.reduceNeg, Int.reduceMod, Int.reduceDiv, Int.reduceTDiv, Int.reduceTMod, Int.reduceBEq, Int.reduceBNe, Nat.reduceDiv, Nat.reducePow]
  refine loop_inv (envLK_ok qta_ok 55 []) (rpInv s) (rpOk s) (fun x => s.length + 1 - x.a) ⟨0, []⟩ [] ⟨Nat.zero_le _, Nat.le_refl _, by show (parL s 0).map _ = _; unfold parL; rw [List.drop_zero]; show (prsL s).map _ = _; cases prsL s <;> rfl⟩ ?_ ?_
  · simp only [rpInv, go_sem, reduceCtorEq, ↓reduceIte, Nat.reduceAdd, Nat.reduceMul, Nat.reduceSub, Nat.reduceEqDiff, Nat.reduceLT, Nat.reduceBEq, Nat.reduceBNe, Nat.reduceLeDiff, Int.reduceLE, Int.reduceLT, Int.reduceToNat, Int.reduceEq, Int.reduceAdd, UInt8.reduceToNat, UInt32.reduceToNat, UInt64.reduceToNat, UInt8.reduceOfNat, UInt32.reduceOfNat, UInt64.reduceOfNat, Fin.isValue, Int.reduceSub, Int.reduceMul, Int.reduceNeg, Int.reduceMod, Int.reduceDiv, Int.reduceTDiv, Int.reduceTMod, Int.reduceBEq, Int.reduceBNe, Nat.reduceDiv, Nat.reducePow]
  · intro x hx
    obtain ⟨a, acc⟩ := x
    have ha := hx.1
    have hal := hx.2.1
    simp only at ha hal
    have hal' : acc.length ≤ 65536 := by omega
    have bad : prsL s = none → refPV (prsL s) = .tup [.one (.val (.slice none 0 0)), .one (.bo false)] ∧ prsO (prsL s) = [] := fun h => by rw [h]; exact ⟨rfl, rfl⟩
    obtain ⟨b1, b2, b3⟩ := rnA_le s a ha
    generalize hj : acc.length = j at hal
    rcases Int.lt_or_le (rnA s a) 0 with hneg | hpos
    · -- no number
      obtain ⟨e1, e2⟩ := bad (rpOk_bad hx (parR_bad1 hneg))
      have hd : decide (rnA s a < 0) = true := decide_eq_true hneg
      rw [e1, e2]
      rcases j with _ | j
      · obtain rfl := List.eq_nil_of_length_eq_zero hj
        simp only [envLK, con0, conS, strsOf_arr, rowS_arr, strsOf_cells, rowS_cells, toS, strL_st, strL_d, strL_enc, strL_up, hpN_nil, hpN_cons, qta, refNumber14C, rpInv, hj, hd, Int.toNat_natCast, go_sem, reduceCtorEq, ↓reduceIte, Nat.reduceAdd, Nat.reduceMul, Nat.reduceSub, Nat.reduceEqDiff, Nat.reduceLT, Nat.reduceBEq, Nat.reduceBNe, Nat.reduceLeDiff, Int.reduceLE, Int.reduceLT, Int.reduceToNat, Int.reduceEq, Int.reduceAdd, UInt8.reduceToNat, UInt32.reduceToNat, UInt64.reduceToNat, UInt8.reduceOfNat, UInt32.reduceOfNat, UInt64.reduceOfNat, Fin.isValue, Int.reduceSub, Int.reduceMul, Int.reduceNeg, Int.reduceMod, Int.reduceDiv, Int.reduceTDiv, Int.reduceTMod, Int.reduceBEq, Int.reduceBNe, Nat.reduceDiv, Nat.reducePow]
        repeat' apply And.intro
        rotate_right
        · refine endX [] ?_
          simp only [envLK, con0, conS, strsOf_arr, rowS_arr, strsOf_cells, rowS_cells, toS, strL_st, strL_d, strL_enc, strL_up, hpN_nil, hpN_cons, qta, refNumber14C, go_sem, reduceCtorEq, ↓reduceIte, Nat.reduceAdd, Nat.reduceMul, Nat.reduceSub, Nat.reduceEqDiff, Nat.reduceLT, Nat.reduceBEq, Nat.reduceBNe, Nat.reduceLeDiff, Int.reduceLE, Int.reduceLT, Int.reduceToNat, Int.reduceEq, Int.reduceAdd, UInt8.reduceToNat, UInt32.reduceToNat, UInt64.reduceToNat, UInt8.reduceOfNat, UInt32.reduceOfNat, UInt64.reduceOfNat, Fin.isValue, Int.reduceSub, Int.reduceMul, Int.reduceNeg, Int.reduceMod, Int.reduceDiv, Int.reduceTDiv, Int.reduceTMod, Int.reduceBEq, Int.reduceBNe, Nat.reduceDiv, Nat.reducePow]
          all_goals ((repeat' apply And.intro) <;> first | omega | exact rfl | exact id)
        all_goals first | omega | exact rfl | exact id
      · simp only [envLK, con0, conS, strsOf_arr, rowS_arr, strsOf_cells, rowS_cells, toS, strL_st, strL_d, strL_enc, strL_up, hpN_nil, hpN_cons, qta, refNumber14C, rpInv, hj, hd, Int.toNat_natCast, go_sem, reduceCtorEq, ↓reduceIte, Nat.reduceAdd, Nat.reduceMul, Nat.reduceSub, Nat.reduceEqDiff, Nat.reduceLT, Nat.reduceBEq, Nat.reduceBNe, Nat.reduceLeDiff, Int.reduceLE, Int.reduceLT, Int.reduceToNat, Int.reduceEq, Int.reduceAdd, UInt8.reduceToNat, UInt32.reduceToNat, UInt64.reduceToNat, UInt8.reduceOfNat, UInt32.reduceOfNat, UInt64.reduceOfNat, Fin.isValue, Int.reduceSub, Int.reduceMul, Int.reduceNeg, Int.reduceMod, Int.reduceDiv, Int.reduceTDiv, Int.reduceTMod, Int.reduceBEq, Int.reduceBNe, Nat.reduceDiv, Nat.reducePow]
        repeat' apply And.intro
        rotate_right
        · refine endX [] ?_
          simp only [envLK, con0, conS, strsOf_arr, rowS_arr, strsOf_cells, rowS_cells, toS, strL_st, strL_d, strL_enc, strL_up, hpN_nil, hpN_cons, qta, refNumber14C, go_sem, reduceCtorEq, ↓reduceIte, Nat.reduceAdd, Nat.reduceMul, Nat.reduceSub, Nat.reduceEqDiff, Nat.reduceLT, Nat.reduceBEq, Nat.reduceBNe, Nat.reduceLeDiff, Int.reduceLE, Int.reduceLT, Int.reduceToNat, Int.reduceEq, Int.reduceAdd, UInt8.reduceToNat, UInt32.reduceToNat, UInt64.reduceToNat, UInt8.reduceOfNat, UInt32.reduceOfNat, UInt64.reduceOfNat, Fin.isValue, Int.reduceSub, Int.reduceMul, Int.reduceNeg, Int.reduceMod, Int.reduceDiv, Int.reduceTDiv, Int.reduceTMod, Int.reduceBEq, Int.reduceBNe, Nat.reduceDiv, Nat.reducePow]
          all_goals ((repeat' apply And.intro) <;> first | omega | exact rfl | exact id)
        all_goals first | omega | exact rfl | exact id
    · obtain ⟨q, hq⟩ : ∃ q : Nat, rnA s a = (q : Int) := ⟨(rnA s a).toNat, by omega⟩
      have hn1 : ¬ rnA s a < 0 := by omega
      have haq : a ≤ q := by have := b3 hpos; omega
      have hql : q ≤ s.length := by omega
      have hQ : rpQ s a = q := by unfold rpQ; rw [hq]; rfl
      have hd0 : decide ((q : Int) < 0) = false := decide_eq_false (by omega)
      have hwq : IntKind.i64.wrap ((q : Int) + 1) = ((q + 1 : Nat) : Int) := by rw [IntKind.wrap_i64]; omega
      have hlt := dec_lt q s.length
      -- the second number
      have two : ∀ t : Bool, rpT s a = t → (t = true → q < s.length ∧ (s.getD q 0 == 58) = true) ∧ (t = false → q < s.length → (s.getD q 0 == 58) = false) := fun t ht => by
        unfold rpT at ht
        rw [hQ] at ht
        refine ⟨fun e => ?_, fun e hl => ?_⟩
        · rw [e] at ht; simp only [Bool.and_eq_true, decide_eq_true_eq] at ht; exact ht
        · rw [e, decide_eq_true hl, Bool.true_and] at ht; exact ht
      cases hT : rpT s a with
      | false =>
        have hA : rpA s a = (q : Int) := by unfold rpA; rw [hT, if_neg (by decide), hq]
        have hV : rpV s a = rnV s a := by unfold rpV; rw [hT, if_neg (by decide)]
        have hN : rpN s a = q := by unfold rpN; rw [hA]; rfl
        have hn2 : ¬ rpA s a < 0 := by omega
        have ht := (two _ hT).2 rfl
        cases hl : decide (q < s.length) with
        | false =>
          have hqe : q = s.length := by have := of_decide_eq_false hl; omega
          have he := rpOk_end hx (parR_end hn1 hn2 (by rw [hN]; exact hqe))
          rw [hV] at he
          have hbe : ((q : Int) == (s.length : Int)) = true := by rw [hqe]; simp
          rw [hl] at hlt
          rcases j with _ | j
          · obtain rfl := List.eq_nil_of_length_eq_zero hj
            have e1 : refPV (prsL s) = .tup [.one (.sl 0 0 2 1), .one (.bo true)] := by rw [he]; unfold refPV; simp
            have e2 : prsO (prsL s) = [.arr _ rngL ([] ++ [(rnV s a, rnV s a)])] := by rw [he]; unfold prsO; simp
            rw [e1, e2]
            simp only [envLK, con0, conS, strsOf_arr, rowS_arr, strsOf_cells, rowS_cells, toS, strL_st, strL_d, strL_enc, strL_up, hpN_nil, hpN_cons, qta, refNumber14C, rpInv, hj, hq, hd0, hwq, hlt, hbe, rngL_st, rngL_d, rngL_enc, rngL_up, Int.toNat_natCast, go_sem, reduceCtorEq, ↓reduceIte, Nat.reduceAdd, Nat.reduceMul, Nat.reduceSub, Nat.reduceEqDiff, Nat.reduceLT, Nat.reduceBEq, Nat.reduceBNe, Nat.reduceLeDiff, Int.reduceLE, Int.reduceLT, Int.reduceToNat, Int.reduceEq, Int.reduceAdd, UInt8.reduceToNat, UInt32.reduceToNat, UInt64.reduceToNat, UInt8.reduceOfNat, UInt32.reduceOfNat, UInt64.reduceOfNat, Fin.isValue, Int.reduceSub, Int.reduceMul, Int.reduceNeg, Int.reduceMod, Int.reduceDiv, Int.reduceTDiv, Int.reduceTMod, Int.reduceBEq, Int.reduceBNe, Nat.reduceDiv, Nat.reducePow]
            (repeat' apply And.intro)
            rotate_right
            · refine endX [(0, 120024)] ?_
              simp only [envLK, con0, conS, strsOf_arr, rowS_arr, strsOf_cells, rowS_cells, toS, strL_st, strL_d, strL_enc, strL_up, hpN_nil, hpN_cons, qta, refNumber14C, List.length_append, hj, rngL_st, rngL_d, rngL_enc, rngL_up, go_sem, reduceCtorEq, ↓reduceIte, Nat.reduceAdd, Nat.reduceMul, Nat.reduceSub, Nat.reduceEqDiff, Nat.reduceLT, Nat.reduceBEq, Nat.reduceBNe, Nat.reduceLeDiff, Int.reduceLE, Int.reduceLT, Int.reduceToNat, Int.reduceEq, Int.reduceAdd, UInt8.reduceToNat, UInt32.reduceToNat, UInt64.reduceToNat, UInt8.reduceOfNat, UInt32.reduceOfNat, UInt64.reduceOfNat, Fin.isValue, Int.reduceSub, Int.reduceMul, Int.reduceNeg, Int.reduceMod, Int.reduceDiv, Int.reduceTDiv, Int.reduceTMod, Int.reduceBEq, Int.reduceBNe, Nat.reduceDiv, Nat.reducePow]
              all_goals ((repeat' apply And.intro) <;> first | omega | exact rfl | exact id)
            all_goals first | omega | exact rfl | exact id
          · have e1 : refPV (prsL s) = .tup [.one (.sl 0 0 2 (j + 1 + 1)), .one (.bo true)] := by rw [he]; unfold refPV; simp [hj]
            have e2 : prsO (prsL s) = [.arr _ rngL (acc ++ [(rnV s a, rnV s a)])] := by rw [he]; unfold prsO; simp
            rw [e1, e2]
            simp only [envLK, con0, conS, strsOf_arr, rowS_arr, strsOf_cells, rowS_cells, toS, strL_st, strL_d, strL_enc, strL_up, hpN_nil, hpN_cons, qta, refNumber14C, rpInv, hj, hq, hd0, hwq, hlt, hbe, rngL_st, rngL_d, rngL_enc, rngL_up, Int.toNat_natCast, go_sem, reduceCtorEq, ↓reduceIte, Nat.reduceAdd, Nat.reduceMul, Nat.reduceSub, Nat.reduceEqDiff, Nat.reduceLT, Nat.reduceBEq, Nat.reduceBNe, Nat.reduceLeDiff, Int.reduceLE, Int.reduceLT, Int.reduceToNat, Int.reduceEq, Int.reduceAdd, UInt8.reduceToNat, UInt32.reduceToNat, UInt64.reduceToNat, UInt8.reduceOfNat, UInt32.reduceOfNat, UInt64.reduceOfNat, Fin.isValue, Int.reduceSub, Int.reduceMul, Int.reduceNeg, Int.reduceMod, Int.reduceDiv, Int.reduceTDiv, Int.reduceTMod, Int.reduceBEq, Int.reduceBNe, Nat.reduceDiv, Nat.reducePow]
            (repeat' apply And.intro)
            rotate_right
            · refine endX [(0, 120024)] ?_
              simp only [envLK, con0, conS, strsOf_arr, rowS_arr, strsOf_cells, rowS_cells, toS, strL_st, strL_d, strL_enc, strL_up, hpN_nil, hpN_cons, qta, refNumber14C, List.length_append, hj, rngL_st, rngL_d, rngL_enc, rngL_up, go_sem, reduceCtorEq, ↓reduceIte, Nat.reduceAdd, Nat.reduceMul, Nat.reduceSub, Nat.reduceEqDiff, Nat.reduceLT, Nat.reduceBEq, Nat.reduceBNe, Nat.reduceLeDiff, Int.reduceLE, Int.reduceLT, Int.reduceToNat, Int.reduceEq, Int.reduceAdd, UInt8.reduceToNat, UInt32.reduceToNat, UInt64.reduceToNat, UInt8.reduceOfNat, UInt32.reduceOfNat, UInt64.reduceOfNat, Fin.isValue, Int.reduceSub, Int.reduceMul, Int.reduceNeg, Int.reduceMod, Int.reduceDiv, Int.reduceTDiv, Int.reduceTMod, Int.reduceBEq, Int.reduceBNe, Nat.reduceDiv, Nat.reducePow]
              all_goals ((repeat' apply And.intro) <;> first | omega | exact rfl | exact id)
            all_goals first | omega | exact rfl | exact id
        | true =>
          have hql2 : q < s.length := of_decide_eq_true hl
          have h58 := ht hql2
          have hg : (0 : Int) ≤ (q : Int) ∧ (q : Int) < (s.length : Int) := ⟨by omega, by omega⟩
          have hbe : ((q : Int) == (s.length : Int)) = false := beq_eq_false_iff_ne.2 (by omega)
          rw [hl] at hlt
          cases h44 : (s.getD q 0 == 44) with
          | true =>
            have hm := rpOk_more hx hql2 haq (by have := parR_more hn1 hn2 (by rw [hN]; omega) (by rw [hN]; simpa using h44); rw [hN, hV] at this; exact this)
            simp only at hm
            rcases j with _ | j
            · obtain rfl := List.eq_nil_of_length_eq_zero hj
              simp only [envLK, con0, conS, strsOf_arr, rowS_arr, strsOf_cells, rowS_cells, toS, strL_st, strL_d, strL_enc, strL_up, hpN_nil, hpN_cons, qta, refNumber14C, rpInv, hj, hq, hd0, hwq, hlt, h58, hbe, h44, hg, rngL_st, rngL_d, rngL_enc, rngL_up, Int.toNat_natCast, go_sem, reduceCtorEq, ↓reduceIte, Nat.reduceAdd, Nat.reduceMul, Nat.reduceSub, Nat.reduceEqDiff, Nat.reduceLT, Nat.reduceBEq, Nat.reduceBNe, Nat.reduceLeDiff, Int.reduceLE, Int.reduceLT, Int.reduceToNat, Int.reduceEq, Int.reduceAdd, UInt8.reduceToNat, UInt32.reduceToNat, UInt64.reduceToNat, UInt8.reduceOfNat, UInt32.reduceOfNat, UInt64.reduceOfNat, Fin.isValue, Int.reduceSub, Int.reduceMul, Int.reduceNeg, Int.reduceMod, Int.reduceDiv, Int.reduceTDiv, Int.reduceTMod, Int.reduceBEq, Int.reduceBNe, Nat.reduceDiv, Nat.reducePow]
              (repeat' apply And.intro)
              rotate_right
              · refine again ⟨q + 1, [] ++ [(rnV s a, rnV s a)]⟩ [(500, 120024)] hm (by show s.length + 1 - (q + 1) < s.length + 1 - a; omega) ?_
                simp only [rpInv, List.length_append, hj, rngL_st, rngL_d, rngL_enc, rngL_up, envLK, con0, conS, strsOf_arr, rowS_arr, strsOf_cells, rowS_cells, toS, strL_st, strL_d, strL_enc, strL_up, hpN_nil, hpN_cons, qta, refNumber14C, go_sem, reduceCtorEq, ↓reduceIte, Nat.reduceAdd, Nat.reduceMul, Nat.reduceSub, Nat.reduceEqDiff, Nat.reduceLT, Nat.reduceBEq, Nat.reduceBNe, Nat.reduceLeDiff, Int.reduceLE, Int.reduceLT, Int.reduceToNat, Int.reduceEq, Int.reduceAdd, UInt8.reduceToNat, UInt32.reduceToNat, UInt64.reduceToNat, UInt8.reduceOfNat, UInt32.reduceOfNat, UInt64.reduceOfNat, Fin.isValue, Int.reduceSub, Int.reduceMul, Int.reduceNeg, Int.reduceMod, Int.reduceDiv, Int.reduceTDiv, Int.reduceTMod, Int.reduceBEq, Int.reduceBNe, Nat.reduceDiv, Nat.reducePow]
                all_goals ((repeat' apply And.intro) <;> first | omega | exact rfl | exact id)
              all_goals first | omega | exact rfl | exact id
            · simp only [envLK, con0, conS, strsOf_arr, rowS_arr, strsOf_cells, rowS_cells, toS, strL_st, strL_d, strL_enc, strL_up, hpN_nil, hpN_cons, qta, refNumber14C, rpInv, hj, hq, hd0, hwq, hlt, h58, hbe, h44, hg, rngL_st, rngL_d, rngL_enc, rngL_up, Int.toNat_natCast, go_sem, reduceCtorEq, ↓reduceIte, Nat.reduceAdd, Nat.reduceMul, Nat.reduceSub, Nat.reduceEqDiff, Nat.reduceLT, Nat.reduceBEq, Nat.reduceBNe, Nat.reduceLeDiff, Int.reduceLE, Int.reduceLT, Int.reduceToNat, Int.reduceEq, Int.reduceAdd, UInt8.reduceToNat, UInt32.reduceToNat, UInt64.reduceToNat, UInt8.reduceOfNat, UInt32.reduceOfNat, UInt64.reduceOfNat, Fin.isValue, Int.reduceSub, Int.reduceMul, Int.reduceNeg, Int.reduceMod, Int.reduceDiv, Int.reduceTDiv, Int.reduceTMod, Int.reduceBEq, Int.reduceBNe, Nat.reduceDiv, Nat.reducePow]
              (repeat' apply And.intro)
              rotate_right
              · refine again ⟨q + 1, acc ++ [(rnV s a, rnV s a)]⟩ [(500, 120024)] hm (by show s.length + 1 - (q + 1) < s.length + 1 - a; omega) ?_
                simp only [rpInv, List.length_append, hj, rngL_st, rngL_d, rngL_enc, rngL_up, envLK, con0, conS, strsOf_arr, rowS_arr, strsOf_cells, rowS_cells, toS, strL_st, strL_d, strL_enc, strL_up, hpN_nil, hpN_cons, qta, refNumber14C, go_sem, reduceCtorEq, ↓reduceIte, Nat.reduceAdd, Nat.reduceMul, Nat.reduceSub, Nat.reduceEqDiff, Nat.reduceLT, Nat.reduceBEq, Nat.reduceBNe, Nat.reduceLeDiff, Int.reduceLE, Int.reduceLT, Int.reduceToNat, Int.reduceEq, Int.reduceAdd, UInt8.reduceToNat, UInt32.reduceToNat, UInt64.reduceToNat, UInt8.reduceOfNat, UInt32.reduceOfNat, UInt64.reduceOfNat, Fin.isValue, Int.reduceSub, Int.reduceMul, Int.reduceNeg, Int.reduceMod, Int.reduceDiv, Int.reduceTDiv, Int.reduceTMod, Int.reduceBEq, Int.reduceBNe, Nat.reduceDiv, Nat.reducePow]
                all_goals ((repeat' apply And.intro) <;> first | omega | exact rfl | exact id)
              all_goals first | omega | exact rfl | exact id
          | false =>
            obtain ⟨e1, e2⟩ := bad (rpOk_bad hx (parR_bad3 hn1 hn2 (by rw [hN]; omega) (by rw [hN]; simpa using h44)))
            rw [e1, e2]
            rcases j with _ | j
            · obtain rfl := List.eq_nil_of_length_eq_zero hj
              simp only [envLK, con0, conS, strsOf_arr, rowS_arr, strsOf_cells, rowS_cells, toS, strL_st, strL_d, strL_enc, strL_up, hpN_nil, hpN_cons, qta, refNumber14C, rpInv, hj, hq, hd0, hwq, hlt, h58, hbe, h44, hg, rngL_st, rngL_d, rngL_enc, rngL_up, Int.toNat_natCast, go_sem, reduceCtorEq, ↓reduceIte, Nat.reduceAdd, Nat.reduceMul, Nat.reduceSub, Nat.reduceEqDiff, Nat.reduceLT, Nat.reduceBEq, Nat.reduceBNe, Nat.reduceLeDiff, Int.reduceLE, Int.reduceLT, Int.reduceToNat, Int.reduceEq, Int.reduceAdd, UInt8.reduceToNat, UInt32.reduceToNat, UInt64.reduceToNat, UInt8.reduceOfNat, UInt32.reduceOfNat, UInt64.reduceOfNat, Fin.isValue, Int.reduceSub, Int.reduceMul, Int.reduceNeg, Int.reduceMod, Int.reduceDiv, Int.reduceTDiv, Int.reduceTMod, Int.reduceBEq, Int.reduceBNe, Nat.reduceDiv, Nat.reducePow]
              (repeat' apply And.intro)
              rotate_right
              · refine endX [] ?_
                simp only [envLK, con0, conS, strsOf_arr, rowS_arr, strsOf_cells, rowS_cells, toS, strL_st, strL_d, strL_enc, strL_up, hpN_nil, hpN_cons, qta, refNumber14C, go_sem, reduceCtorEq, ↓reduceIte, Nat.reduceAdd, Nat.reduceMul, Nat.reduceSub, Nat.reduceEqDiff, Nat.reduceLT, Nat.reduceBEq, Nat.reduceBNe, Nat.reduceLeDiff, Int.reduceLE, Int.reduceLT, Int.reduceToNat, Int.reduceEq, Int.reduceAdd, UInt8.reduceToNat, UInt32.reduceToNat, UInt64.reduceToNat, UInt8.reduceOfNat, UInt32.reduceOfNat, UInt64.reduceOfNat, Fin.isValue, Int.reduceSub, Int.reduceMul, Int.reduceNeg, Int.reduceMod, Int.reduceDiv, Int.reduceTDiv, Int.reduceTMod, Int.reduceBEq, Int.reduceBNe, Nat.reduceDiv, Nat.reducePow]
                all_goals ((repeat' apply And.intro) <;> first | omega | exact rfl | exact id)
              all_goals first | omega | exact rfl | exact id
            · simp only [envLK, con0, conS, strsOf_arr, rowS_arr, strsOf_cells, rowS_cells, toS, strL_st, strL_d, strL_enc, strL_up, hpN_nil, hpN_cons, qta, refNumber14C, rpInv, hj, hq, hd0, hwq, hlt, h58, hbe, h44, hg, rngL_st, rngL_d, rngL_enc, rngL_up, Int.toNat_natCast, go_sem, reduceCtorEq, ↓reduceIte, Nat.reduceAdd, Nat.reduceMul, Nat.reduceSub, Nat.reduceEqDiff, Nat.reduceLT, Nat.reduceBEq, Nat.reduceBNe, Nat.reduceLeDiff, Int.reduceLE, Int.reduceLT, Int.reduceToNat, Int.reduceEq, Int.reduceAdd, UInt8.reduceToNat, UInt32.reduceToNat, UInt64.reduceToNat, UInt8.reduceOfNat, UInt32.reduceOfNat, UInt64.reduceOfNat, Fin.isValue, Int.reduceSub, Int.reduceMul, Int.reduceNeg, Int.reduceMod, Int.reduceDiv, Int.reduceTDiv, Int.reduceTMod, Int.reduceBEq, Int.reduceBNe, Nat.reduceDiv, Nat.reducePow]
              (repeat' apply And.intro)
              rotate_right
              · refine endX [] ?_
                simp only [envLK, con0, conS, strsOf_arr, rowS_arr, strsOf_cells, rowS_cells, toS, strL_st, strL_d, strL_enc, strL_up, hpN_nil, hpN_cons, qta, refNumber14C, go_sem, reduceCtorEq, ↓reduceIte, Nat.reduceAdd, Nat.reduceMul, Nat.reduceSub, Nat.reduceEqDiff, Nat.reduceLT, Nat.reduceBEq, Nat.reduceBNe, Nat.reduceLeDiff, Int.reduceLE, Int.reduceLT, Int.reduceToNat, Int.reduceEq, Int.reduceAdd, UInt8.reduceToNat, UInt32.reduceToNat, UInt64.reduceToNat, UInt8.reduceOfNat, UInt32.reduceOfNat, UInt64.reduceOfNat, Fin.isValue, Int.reduceSub, Int.reduceMul, Int.reduceNeg, Int.reduceMod, Int.reduceDiv, Int.reduceTDiv, Int.reduceTMod, Int.reduceBEq, Int.reduceBNe, Nat.reduceDiv, Nat.reducePow]
                all_goals ((repeat' apply And.intro) <;> first | omega | exact rfl | exact id)
              all_goals first | omega | exact rfl | exact id
      | true =>
        obtain ⟨hql2, h58⟩ := (two _ hT).1 rfl
        have hg : (0 : Int) ≤ (q : Int) ∧ (q : Int) < (s.length : Int) := ⟨by omega, by omega⟩
        have hA : rpA s a = rnA s (q + 1) := by unfold rpA; rw [hT, if_pos rfl, hQ]
        have hV : rpV s a = rnV s (q + 1) := by unfold rpV; rw [hT, if_pos rfl, hQ]
        obtain ⟨c1, c2, c3⟩ := rnA_le s (q + 1) (by omega)
        have hlt1 : decide ((q : Int) < (s.length : Int)) = true := decide_eq_true (by omega)
        rcases Int.lt_or_le (rnA s (q + 1)) 0 with hneg | hpos2
        · obtain ⟨e1, e2⟩ := bad (rpOk_bad hx (parR_bad2 hn1 (by rw [hA]; exact hneg)))
          have hdn : decide (rnA s (q + 1) < 0) = true := decide_eq_true hneg
          rw [e1, e2]
          rcases j with _ | j
          · obtain rfl := List.eq_nil_of_length_eq_zero hj
            simp only [envLK, con0, conS, strsOf_arr, rowS_arr, strsOf_cells, rowS_cells, toS, strL_st, strL_d, strL_enc, strL_up, hpN_nil, hpN_cons, qta, refNumber14C, rpInv, hj, hq, hd0, hwq, hlt1, h58, hdn, hg, rngL_st, rngL_d, rngL_enc, rngL_up, Int.toNat_natCast, go_sem, reduceCtorEq, ↓reduceIte, Nat.reduceAdd, Nat.reduceMul, Nat.reduceSub, Nat.reduceEqDiff, Nat.reduceLT, Nat.reduceBEq, Nat.reduceBNe, Nat.reduceLeDiff, Int.reduceLE, Int.reduceLT, Int.reduceToNat, Int.reduceEq, Int.reduceAdd, UInt8.reduceToNat, UInt32.reduceToNat, UInt64.reduceToNat, UInt8.reduceOfNat, UInt32.reduceOfNat, UInt64.reduceOfNat, Fin.isValue, Int.reduceSub, Int.reduceMul, Int.reduceNeg, Int.reduceMod, Int.reduceDiv, Int.reduceTDiv, Int.reduceTMod, Int.reduceBEq, Int.reduceBNe, Nat.reduceDiv, Nat.reducePow]
            (repeat' apply And.intro)
            rotate_right
            · refine endX [] ?_
              simp only [envLK, con0, conS, strsOf_arr, rowS_arr, strsOf_cells, rowS_cells, toS, strL_st, strL_d, strL_enc, strL_up, hpN_nil, hpN_cons, qta, refNumber14C, go_sem, reduceCtorEq, ↓reduceIte, Nat.reduceAdd, Nat.reduceMul, Nat.reduceSub, Nat.reduceEqDiff, Nat.reduceLT, Nat.reduceBEq, Nat.reduceBNe, Nat.reduceLeDiff, Int.reduceLE, Int.reduceLT, Int.reduceToNat, Int.reduceEq, Int.reduceAdd, UInt8.reduceToNat, UInt32.reduceToNat, UInt64.reduceToNat, UInt8.reduceOfNat, UInt32.reduceOfNat, UInt64.reduceOfNat, Fin.isValue, Int.reduceSub, Int.reduceMul, Int.reduceNeg, Int.reduceMod, Int.reduceDiv, Int.reduceTDiv, Int.reduceTMod, Int.reduceBEq, Int.reduceBNe, Nat.reduceDiv, Nat.reducePow]
              all_goals ((repeat' apply And.intro) <;> first | omega | exact rfl | exact id)
            all_goals first | omega | exact rfl | exact id
          · simp only [envLK, con0, conS, strsOf_arr, rowS_arr, strsOf_cells, rowS_cells, toS, strL_st, strL_d, strL_enc, strL_up, hpN_nil, hpN_cons, qta, refNumber14C, rpInv, hj, hq, hd0, hwq, hlt1, h58, hdn, hg, rngL_st, rngL_d, rngL_enc, rngL_up, Int.toNat_natCast, go_sem, reduceCtorEq, ↓reduceIte, Nat.reduceAdd, Nat.reduceMul, Nat.reduceSub, Nat.reduceEqDiff, Nat.reduceLT, Nat.reduceBEq, Nat.reduceBNe, Nat.reduceLeDiff, Int.reduceLE, Int.reduceLT, Int.reduceToNat, Int.reduceEq, Int.reduceAdd, UInt8.reduceToNat, UInt32.reduceToNat, UInt64.reduceToNat, UInt8.reduceOfNat, UInt32.reduceOfNat, UInt64.reduceOfNat, Fin.isValue, Int.reduceSub, Int.reduceMul, Int.reduceNeg, Int.reduceMod, Int.reduceDiv, Int.reduceTDiv, Int.reduceTMod, Int.reduceBEq, Int.reduceBNe, Nat.reduceDiv, Nat.reducePow]
            (repeat' apply And.intro)
            rotate_right
            · refine endX [] ?_
              simp only [envLK, con0, conS, strsOf_arr, rowS_arr, strsOf_cells, rowS_cells, toS, strL_st, strL_d, strL_enc, strL_up, hpN_nil, hpN_cons, qta, refNumber14C, go_sem, reduceCtorEq, ↓reduceIte, Nat.reduceAdd, Nat.reduceMul, Nat.reduceSub, Nat.reduceEqDiff, Nat.reduceLT, Nat.reduceBEq, Nat.reduceBNe, Nat.reduceLeDiff, Int.reduceLE, Int.reduceLT, Int.reduceToNat, Int.reduceEq, Int.reduceAdd, UInt8.reduceToNat, UInt32.reduceToNat, UInt64.reduceToNat, UInt8.reduceOfNat, UInt32.reduceOfNat, UInt64.reduceOfNat, Fin.isValue, Int.reduceSub, Int.reduceMul, Int.reduceNeg, Int.reduceMod, Int.reduceDiv, Int.reduceTDiv, Int.reduceTMod, Int.reduceBEq, Int.reduceBNe, Nat.reduceDiv, Nat.reducePow]
              all_goals ((repeat' apply And.intro) <;> first | omega | exact rfl | exact id)
            all_goals first | omega | exact rfl | exact id
        · obtain ⟨n, hn⟩ : ∃ n : Nat, rnA s (q + 1) = (n : Int) := ⟨(rnA s (q + 1)).toNat, by omega⟩
          have hqn : q + 1 ≤ n := by have := c3 hpos2; omega
          have hnl : n ≤ s.length := by omega
          have hN : rpN s a = n := by unfold rpN; rw [hA, hn]; rfl
          have hn2 : ¬ rpA s a < 0 := by omega
          have hdn : decide ((n : Int) < 0) = false := decide_eq_false (by omega)
          have hwn : IntKind.i64.wrap ((n : Int) + 1) = ((n + 1 : Nat) : Int) := by rw [IntKind.wrap_i64]; omega
          have hgn : n < s.length → (0 : Int) ≤ (n : Int) ∧ (n : Int) < (s.length : Int) := fun h => ⟨by omega, by omega⟩
          rcases Nat.lt_or_ge n s.length with hnl2 | hge
          · have hgn2 := hgn hnl2
            have hbe : ((n : Int) == (s.length : Int)) = false := beq_eq_false_iff_ne.2 (by omega)
            cases h44 : (s.getD n 0 == 44) with
            | true =>
              have hm := rpOk_more hx hnl2 (show a ≤ n by omega) (by have := parR_more hn1 hn2 (by rw [hN]; omega) (by rw [hN]; simpa using h44); rw [hN, hV] at this; exact this)
              simp only at hm
              rcases j with _ | j
              · obtain rfl := List.eq_nil_of_length_eq_zero hj
                simp only [envLK, con0, conS, strsOf_arr, rowS_arr, strsOf_cells, rowS_cells, toS, strL_st, strL_d, strL_enc, strL_up, hpN_nil, hpN_cons, qta, refNumber14C, rpInv, hj, hq, hd0, hwq, hlt1, h58, hn, hdn, hwn, hbe, h44, hg, hgn2, rngL_st, rngL_d, rngL_enc, rngL_up, Int.toNat_natCast, go_sem, reduceCtorEq, ↓reduceIte, Nat.reduceAdd, Nat.reduceMul, Nat.reduceSub, Nat.reduceEqDiff, Nat.reduceLT, Nat.reduceBEq, Nat.reduceBNe, Nat.reduceLeDiff, Int.reduceLE, Int.reduceLT, Int.reduceToNat, Int.reduceEq, Int.reduceAdd, UInt8.reduceToNat, UInt32.reduceToNat, UInt64.reduceToNat, UInt8.reduceOfNat, UInt32.reduceOfNat, UInt64.reduceOfNat, Fin.isValue, Int.reduceSub, Int.reduceMul, Int.reduceNeg, Int.reduceMod, Int.reduceDiv, Int.reduceTDiv, Int.reduceTMod, Int.reduceBEq, Int.reduceBNe, Nat.reduceDiv, Nat.reducePow]
                (repeat' apply And.intro)
                rotate_right
                · refine again ⟨n + 1, [] ++ [(rnV s a, rnV s (q + 1))]⟩ [(500, 120024)] hm (by show s.length + 1 - (n + 1) < s.length + 1 - a; omega) ?_
                  simp only [rpInv, List.length_append, hj, rngL_st, rngL_d, rngL_enc, rngL_up, envLK, con0, conS, strsOf_arr, rowS_arr, strsOf_cells, rowS_cells, toS, strL_st, strL_d, strL_enc, strL_up, hpN_nil, hpN_cons, qta, refNumber14C, go_sem, reduceCtorEq, ↓reduceIte, Nat.reduceAdd, Nat.reduceMul, Nat.reduceSub, Nat.reduceEqDiff, Nat.reduceLT, Nat.reduceBEq, Nat.reduceBNe, Nat.reduceLeDiff, Int.reduceLE, Int.reduceLT, Int.reduceToNat, Int.reduceEq, Int.reduceAdd, UInt8.reduceToNat, UInt32.reduceToNat, UInt64.reduceToNat, UInt8.reduceOfNat, UInt32.reduceOfNat, UInt64.reduceOfNat, Fin.isValue, Int.reduceSub, Int.reduceMul, Int.reduceNeg, Int.reduceMod, Int.reduceDiv, Int.reduceTDiv, Int.reduceTMod, Int.reduceBEq, Int.reduceBNe, Nat.reduceDiv, Nat.reducePow]
                  all_goals ((repeat' apply And.intro) <;> first | omega | exact rfl | exact id)
                all_goals first | omega | exact rfl | exact id
              · simp only [envLK, con0, conS, strsOf_arr, rowS_arr, strsOf_cells, rowS_cells, toS, strL_st, strL_d, strL_enc, strL_up, hpN_nil, hpN_cons, qta, refNumber14C, rpInv, hj, hq, hd0, hwq, hlt1, h58, hn, hdn, hwn, hbe, h44, hg, hgn2, rngL_st, rngL_d, rngL_enc, rngL_up, Int.toNat_natCast, go_sem, reduceCtorEq, ↓reduceIte, Nat.reduceAdd, Nat.reduceMul, Nat.reduceSub, Nat.reduceEqDiff, Nat.reduceLT, Nat.reduceBEq, Nat.reduceBNe, Nat.reduceLeDiff, Int.reduceLE, Int.reduceLT, Int.reduceToNat, Int.reduceEq, Int.reduceAdd, UInt8.reduceToNat, UInt32.reduceToNat, UInt64.reduceToNat, UInt8.reduceOfNat, UInt32.reduceOfNat, UInt64.reduceOfNat, Fin.isValue, Int.reduceSub, Int.reduceMul, Int.reduceNeg, Int.reduceMod, Int.reduceDiv, Int.reduceTDiv, Int.reduceTMod, Int.reduceBEq, Int.reduceBNe, Nat.reduceDiv, Nat.reducePow]
                (repeat' apply And.intro)
                rotate_right
                · refine again ⟨n + 1, acc ++ [(rnV s a, rnV s (q + 1))]⟩ [(500, 120024)] hm (by show s.length + 1 - (n + 1) < s.length + 1 - a; omega) ?_
                  simp only [rpInv, List.length_append, hj, rngL_st, rngL_d, rngL_enc, rngL_up, envLK, con0, conS, strsOf_arr, rowS_arr, strsOf_cells, rowS_cells, toS, strL_st, strL_d, strL_enc, strL_up, hpN_nil, hpN_cons, qta, refNumber14C, go_sem, reduceCtorEq, ↓reduceIte, Nat.reduceAdd, Nat.reduceMul, Nat.reduceSub, Nat.reduceEqDiff, Nat.reduceLT, Nat.reduceBEq, Nat.reduceBNe, Nat.reduceLeDiff, Int.reduceLE, Int.reduceLT, Int.reduceToNat, Int.reduceEq, Int.reduceAdd, UInt8.reduceToNat, UInt32.reduceToNat, UInt64.reduceToNat, UInt8.reduceOfNat, UInt32.reduceOfNat, UInt64.reduceOfNat, Fin.isValue, Int.reduceSub, Int.reduceMul, Int.reduceNeg, Int.reduceMod, Int.reduceDiv, Int.reduceTDiv, Int.reduceTMod, Int.reduceBEq, Int.reduceBNe, Nat.reduceDiv, Nat.reducePow]
                  all_goals ((repeat' apply And.intro) <;> first | omega | exact rfl | exact id)
                all_goals first | omega | exact rfl | exact id
            | false =>
              obtain ⟨e1, e2⟩ := bad (rpOk_bad hx (parR_bad3 hn1 hn2 (by rw [hN]; omega) (by rw [hN]; simpa using h44)))
              rw [e1, e2]
              rcases j with _ | j
              · obtain rfl := List.eq_nil_of_length_eq_zero hj
                simp only [envLK, con0, conS, strsOf_arr, rowS_arr, strsOf_cells, rowS_cells, toS, strL_st, strL_d, strL_enc, strL_up, hpN_nil, hpN_cons, qta, refNumber14C, rpInv, hj, hq, hd0, hwq, hlt1, h58, hn, hdn, hbe, h44, hg, hgn2, rngL_st, rngL_d, rngL_enc, rngL_up, Int.toNat_natCast, go_sem, reduceCtorEq, ↓reduceIte, Nat.reduceAdd, Nat.reduceMul, Nat.reduceSub, Nat.reduceEqDiff, Nat.reduceLT, Nat.reduceBEq, Nat.reduceBNe, Nat.reduceLeDiff, Int.reduceLE, Int.reduceLT, Int.reduceToNat, Int.reduceEq, Int.reduceAdd, UInt8.reduceToNat, UInt32.reduceToNat, UInt64.reduceToNat, UInt8.reduceOfNat, UInt32.reduceOfNat, UInt64.reduceOfNat, Fin.isValue, Int.reduceSub, Int.reduceMul, Int.reduceNeg, Int.reduceMod, Int.reduceDiv, Int.reduceTDiv, Int.reduceTMod, Int.reduceBEq, Int.reduceBNe, Nat.reduceDiv, Nat.reducePow]
                (repeat' apply And.intro)
                rotate_right
                · refine endX [] ?_
                  simp only [envLK, con0, conS, strsOf_arr, rowS_arr, strsOf_cells, rowS_cells, toS, strL_st, strL_d, strL_enc, strL_up, hpN_nil, hpN_cons, qta, refNumber14C, go_sem, reduceCtorEq, ↓reduceIte, Nat.reduceAdd, Nat.reduceMul, Nat.reduceSub, Nat.reduceEqDiff, Nat.reduceLT, Nat.reduceBEq, Nat.reduceBNe, Nat.reduceLeDiff, Int.reduceLE, Int.reduceLT, Int.reduceToNat, Int.reduceEq, Int.reduceAdd, UInt8.reduceToNat, UInt32.reduceToNat, UInt64.reduceToNat, UInt8.reduceOfNat, UInt32.reduceOfNat, UInt64.reduceOfNat, Fin.isValue, Int.reduceSub, Int.reduceMul, Int.reduceNeg, Int.reduceMod, Int.reduceDiv, Int.reduceTDiv, Int.reduceTMod, Int.reduceBEq, Int.reduceBNe, Nat.reduceDiv, Nat.reducePow]
                  all_goals ((repeat' apply And.intro) <;> first | omega | exact rfl | exact id)
                all_goals first | omega | exact rfl | exact id
              · simp only [envLK, con0, conS, strsOf_arr, rowS_arr, strsOf_cells, rowS_cells, toS, strL_st, strL_d, strL_enc, strL_up, hpN_nil, hpN_cons, qta, refNumber14C, rpInv, hj, hq, hd0, hwq, hlt1, h58, hn, hdn, hbe, h44, hg, hgn2, rngL_st, rngL_d, rngL_enc, rngL_up, Int.toNat_natCast, go_sem, reduceCtorEq, ↓reduceIte, Nat.reduceAdd, Nat.reduceMul, Nat.reduceSub, Nat.reduceEqDiff, Nat.reduceLT, Nat.reduceBEq, Nat.reduceBNe, Nat.reduceLeDiff, Int.reduceLE, Int.reduceLT, Int.reduceToNat, Int.reduceEq, Int.reduceAdd, UInt8.reduceToNat, UInt32.reduceToNat, UInt64.reduceToNat, UInt8.reduceOfNat, UInt32.reduceOfNat, UInt64.reduceOfNat, Fin.isValue, Int.reduceSub, Int.reduceMul, Int.reduceNeg, Int.reduceMod, Int.reduceDiv, Int.reduceTDiv, Int.reduceTMod, Int.reduceBEq, Int.reduceBNe, Nat.reduceDiv, Nat.reducePow]
                (repeat' apply And.intro)
                rotate_right
                · refine endX [] ?_
                  simp only [envLK, con0, conS, strsOf_arr, rowS_arr, strsOf_cells, rowS_cells, toS, strL_st, strL_d, strL_enc, strL_up, hpN_nil, hpN_cons, qta, refNumber14C, go_sem, reduceCtorEq, ↓reduceIte, Nat.reduceAdd, Nat.reduceMul, Nat.reduceSub, Nat.reduceEqDiff, Nat.reduceLT, Nat.reduceBEq, Nat.reduceBNe, Nat.reduceLeDiff, Int.reduceLE, Int.reduceLT, Int.reduceToNat, Int.reduceEq, Int.reduceAdd, UInt8.reduceToNat, UInt32.reduceToNat, UInt64.reduceToNat, UInt8.reduceOfNat, UInt32.reduceOfNat, UInt64.reduceOfNat, Fin.isValue, Int.reduceSub, Int.reduceMul, Int.reduceNeg, Int.reduceMod, Int.reduceDiv, Int.reduceTDiv, Int.reduceTMod, Int.reduceBEq, Int.reduceBNe, Nat.reduceDiv, Nat.reducePow]
                  all_goals ((repeat' apply And.intro) <;> first | omega | exact rfl | exact id)
                all_goals first | omega | exact rfl | exact id
          · have hne : n = s.length := by omega
            have hbe : ((n : Int) == (s.length : Int)) = true := by rw [hne]; simp
            have he := rpOk_end hx (parR_end hn1 hn2 (by rw [hN]; exact hne))
            rw [hV] at he
            rcases j with _ | j
            · obtain rfl := List.eq_nil_of_length_eq_zero hj
              have e1 : refPV (prsL s) = .tup [.one (.sl 0 0 2 1), .one (.bo true)] := by rw [he]; unfold refPV; simp
              have e2 : prsO (prsL s) = [.arr _ rngL ([] ++ [(rnV s a, rnV s (q + 1))])] := by rw [he]; unfold prsO; simp
              rw [e1, e2]
              simp only [envLK, con0, conS, strsOf_arr, rowS_arr, strsOf_cells, rowS_cells, toS, strL_st, strL_d, strL_enc, strL_up, hpN_nil, hpN_cons, qta, refNumber14C, rpInv, hj, hq, hd0, hwq, hlt1, h58, hn, hdn, hbe, hg, rngL_st, rngL_d, rngL_enc, rngL_up, Int.toNat_natCast, go_sem, reduceCtorEq, ↓reduceIte, Nat.reduceAdd, Nat.reduceMul, Nat.reduceSub, Nat.reduceEqDiff, Nat.reduceLT, Nat.reduceBEq, Nat.reduceBNe, Nat.reduceLeDiff, Int.reduceLE, Int.reduceLT, Int.reduceToNat, Int.reduceEq, Int.reduceAdd, UInt8.reduceToNat, UInt32.reduceToNat, UInt64.reduceToNat, UInt8.reduceOfNat, UInt32.reduceOfNat, UInt64.reduceOfNat, Fin.isValue, Int.reduceSub, Int.reduceMul, Int.reduceNeg, Int.reduceMod, Int.reduceDiv, Int.reduceTDiv, Int.reduceTMod, Int.reduceBEq, Int.reduceBNe, Nat.reduceDiv, Nat.reducePow]
              (repeat' apply And.intro)
              rotate_right
              · refine endX [(0, 120024)] ?_
                simp only [envLK, con0, conS, strsOf_arr, rowS_arr, strsOf_cells, rowS_cells, toS, strL_st, strL_d, strL_enc, strL_up, hpN_nil, hpN_cons, qta, refNumber14C, List.length_append, hj, rngL_st, rngL_d, rngL_enc, rngL_up, go_sem, reduceCtorEq, ↓reduceIte, Nat.reduceAdd, Nat.reduceMul, Nat.reduceSub, Nat.reduceEqDiff, Nat.reduceLT, Nat.reduceBEq, Nat.reduceBNe, Nat.reduceLeDiff, Int.reduceLE, Int.reduceLT, Int.reduceToNat, Int.reduceEq, Int.reduceAdd, UInt8.reduceToNat, UInt32.reduceToNat, UInt64.reduceToNat, UInt8.reduceOfNat, UInt32.reduceOfNat, UInt64.reduceOfNat, Fin.isValue, Int.reduceSub, Int.reduceMul, Int.reduceNeg, Int.reduceMod, Int.reduceDiv, Int.reduceTDiv, Int.reduceTMod, Int.reduceBEq, Int.reduceBNe, Nat.reduceDiv, Nat.reducePow]
                all_goals ((repeat' apply And.intro) <;> first | omega | exact rfl | exact id)
              all_goals first | omega | exact rfl | exact id
            · have e1 : refPV (prsL s) = .tup [.one (.sl 0 0 2 (j + 1 + 1)), .one (.bo true)] := by rw [he]; unfold refPV; simp [hj]
              have e2 : prsO (prsL s) = [.arr _ rngL (acc ++ [(rnV s a, rnV s (q + 1))])] := by rw [he]; unfold prsO; simp
              rw [e1, e2]
              simp only [envLK, con0, conS, strsOf_arr, rowS_arr, strsOf_cells, rowS_cells, toS, strL_st, strL_d, strL_enc, strL_up, hpN_nil, hpN_cons, qta, refNumber14C, rpInv, hj, hq, hd0, hwq, hlt1, h58, hn, hdn, hbe, hg, rngL_st, rngL_d, rngL_enc, rngL_up, Int.toNat_natCast, go_sem, reduceCtorEq, ↓reduceIte, Nat.reduceAdd, Nat.reduceMul, Nat.reduceSub, Nat.reduceEqDiff, Nat.reduceLT, Nat.reduceBEq, Nat.reduceBNe, Nat.reduceLeDiff, Int.reduceLE, Int.reduceLT, Int.reduceToNat, Int.reduceEq, Int.reduceAdd, UInt8.reduceToNat, UInt32.reduceToNat, UInt64.reduceToNat, UInt8.reduceOfNat, UInt32.reduceOfNat, UInt64.reduceOfNat, Fin.isValue, Int.reduceSub, Int.reduceMul, Int.reduceNeg, Int.reduceMod, Int.reduceDiv, Int.reduceTDiv, Int.reduceTMod, Int.reduceBEq, Int.reduceBNe, Nat.reduceDiv, Nat.reducePow]
              (repeat' apply And.intro)
              rotate_right
              · refine endX [(0, 120024)] ?_
                simp only [envLK, con0, conS, strsOf_arr, rowS_arr, strsOf_cells, rowS_cells, toS, strL_st, strL_d, strL_enc, strL_up, hpN_nil, hpN_cons, qta, refNumber14C, List.length_append, hj, rngL_st, rngL_d, rngL_enc, rngL_up, go_sem, reduceCtorEq, ↓reduceIte, Nat.reduceAdd, Nat.reduceMul, Nat.reduceSub, Nat.reduceEqDiff, Nat.reduceLT, Nat.reduceBEq, Nat.reduceBNe, Nat.reduceLeDiff, Int.reduceLE, Int.reduceLT, Int.reduceToNat, Int.reduceEq, Int.reduceAdd, UInt8.reduceToNat, UInt32.reduceToNat, UInt64.reduceToNat, UInt8.reduceOfNat, UInt32.reduceOfNat, UInt64.reduceOfNat, Fin.isValue, Int.reduceSub, Int.reduceMul, Int.reduceNeg, Int.reduceMod, Int.reduceDiv, Int.reduceTDiv, Int.reduceTMod, Int.reduceBEq, Int.reduceBNe, Nat.reduceDiv, Nat.reducePow]
                all_goals ((repeat' apply And.intro) <;> first | omega | exact rfl | exact id)
              all_goals first | omega | exact rfl | exact id

def refPF : List CV → List SObj → Option (SV × List SObj × List Prop)
  | [.one (.str s)], [] => some (refPV (prsL s), prsO (prsL s), [s.length ≤ 65536])
  | _, _ => none
def refPC : Con := conQ refPF
theorem refPC_ok : ConOkG Tryd.prog GL 22 refPC := conQ_ok Tryd.func22 rfl rfl fun args es v nw ob h hob => by
  unfold refPF at h
  split at h
  · rename_i s heq
    obtain rfl : es = [] := List.map_eq_nil_iff.1 heq
    simp only [Option.some.injEq, Prod.mk.injEq] at h
    obtain ⟨rfl, rfl, rfl⟩ := h
    exact refParse_tri s hob.1
  · cases h
end Go.Proofs.YtgfcdkbbkgamnaaDoor
