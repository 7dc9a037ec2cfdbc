/-
  Layer 14: the text of numbers.
-/
import Derived.Test.YtgfcdkbbkgamnaaDoorSz
import Derived.Test.YtgfcdkbbkgamnaaDoorTe
import Derived.Lib.ItoaLen
namespace Go.Proofs.YtgfcdkbbkgamnaaDoor
open Go Go.RowKit
set_option maxHeartbeats 4000000
set_option linter.unusedSimpArgs false
set_option linter.unusedVariables false
def intL : Lay Int where
  st := 1
  enc x := [.num x]
  d := 0
  up x j ys := match ys with
    | [.num y] => if j = 0 then some y else none
    | _ => none
  toB := none
  ofB := none
  len _ := rfl
  put x j ys y h := by
    split at h
    · split at h
      · rename_i h0; injection h with h; subst h; subst h0; simp
      · cases h
    · cases h
  plain x v h := by simp at h; subst h; trivial
  bare x v h := by simp at h; subst h; trivial
  toB_ok f h x := by cases h
  ofB_ok f h x := by cases h
theorem intL_st : intL.st = 1 := rfl
theorem intL_d : intL.d = 0 := rfl
theorem intL_enc (x : Int) : intL.enc x = [.num x] := rfl
def goes (l : List Int) (k : Nat) : Bool := fol (l.getD k 0) (l.getD (k + 1) 0)
def lastN (l : List Int) : Nat → Nat → Nat
  | 0, k => k
  | f + 1, k => if k + 1 < l.length ∧ goes l k = true then lastN l f (k + 1) else k
theorem lastN_ge (l : List Int) : ∀ f k, k ≤ lastN l f k
  | 0, k => Nat.le_refl _
  | f + 1, k => by
    unfold lastN
    split
    · exact Nat.le_trans (Nat.le_succ _) (lastN_ge l f (k + 1))
    · exact Nat.le_refl _
theorem lastN_at (l : List Int) : ∀ (f k q : Nat), k ≤ q → q - k ≤ f → (∀ j, k ≤ j → j < q → j + 1 < l.length ∧ goes l j = true) → ¬ (q + 1 < l.length ∧ goes l q = true) → lastN l f k = q
  | 0, k, q, h1, h2, _, _ => by show k = q; omega
  | f + 1, k, q, h1, h2, h3, h4 => by
    unfold lastN
    by_cases hk : k = q
    · subst hk; rw [if_neg h4]
    · rw [if_pos (h3 k (Nat.le_refl _) (by omega))]
      exact lastN_at l f (k + 1) q (by omega) (by omega) (fun j j1 j2 => h3 j (by omega) j2) h4
def toN (l : List Int) (k : Nat) : Nat := lastN l l.length k
def partL (l : List Int) (a b : Nat) : List UInt8 := if a < b then Lib.itoa (l.getD a 0) ++ 58 :: Lib.itoa (l.getD b 0) else Lib.itoa (l.getD a 0)
def partsF (l : List Int) : Nat → Nat → List (List UInt8)
  | 0, _ => []
  | f + 1, a => if a < l.length then partL l a (toN l a) :: partsF l f (toN l a + 1) else []
theorem partsF_more (l : List Int) : ∀ (f g a : Nat), l.length - a ≤ f → l.length - a ≤ g → partsF l f a = partsF l g a
  | 0, 0, a, _, _ => rfl
  | 0, g + 1, a, h, _ => by rw [partsF, partsF, if_neg (by omega)]
  | f + 1, 0, a, _, h => by rw [partsF, partsF, if_neg (by omega)]
  | f + 1, g + 1, a, h1, h2 => by
    have := lastN_ge l l.length a
    rw [partsF, partsF]
    split
    · rw [partsF_more l f g (toN l a + 1) (by unfold toN; omega) (by unfold toN; omega)]
    · rfl
def partsR (l : List Int) (a : Nat) : List (List UInt8) := partsF l l.length a
theorem partsR_step {l : List Int} {a : Nat} (h : a < l.length) : partsR l a = partL l a (toN l a) :: partsR l (toN l a + 1) := by
  have := lastN_ge l l.length a
  have hn : l.length = (l.length - 1) + 1 := by omega
  unfold partsR
  rw [partsF_more l l.length ((l.length - 1) + 1) a (by omega) (by omega), partsF, if_pos h, partsF_more l (l.length - 1) l.length (toN l a + 1) (by unfold toN; omega) (by unfold toN; omega)]
theorem partsR_end {l : List Int} {a : Nat} (h : l.length ≤ a) : partsR l a = [] := by
  unfold partsR
  rw [partsF_more l l.length 0 a (by omega) (by omega)]; rfl
def textL (l : List Int) : List UInt8 := Lib.join (partsR l 0) [44]
def inR (l : List Int) : Prop := ∀ x ∈ l, -9223372036854775808 ≤ x ∧ x ≤ 9223372036854775807
theorem inR_at {l : List Int} (h : inR l) (k : Nat) : -9223372036854775808 ≤ l.getD k 0 ∧ l.getD k 0 ≤ 9223372036854775807 := by
  rcases Nat.lt_or_ge k l.length with hk | hk
  · rw [List.getD_eq_getElem?_getD, List.getElem?_eq_getElem hk]; exact h _ (List.getElem_mem hk)
  · rw [List.getD_eq_getElem?_getD, List.getElem?_eq_none hk]; decide
theorem part_len {l : List Int} (h : inR l) (a b : Nat) : (partL l a b).length ≤ 43 := by
  have h1 := Lib.itoa_length_le _ (inR_at h a).1 (inR_at h a).2
  have h2 := Lib.itoa_length_le _ (inR_at h b).1 (inR_at h b).2
  unfold partL
  split
  · rw [List.length_append, List.length_cons]; omega
  · omega
theorem tail_len : ∀ (r : List (List UInt8)), (∀ p ∈ r, p.length ≤ 43) → (Lib.joinTail [44] r).length ≤ 44 * r.length
  | [], _ => Nat.le_refl _
  | x :: r, h => by
    have h1 := h x (List.mem_cons_self ..)
    have h2 := tail_len r fun p hp => h p (List.mem_cons_of_mem _ hp)
    have e : Lib.joinTail [44] (x :: r) = ([44] ++ x) ++ Lib.joinTail [44] r := by simp [Lib.joinTail]
    rw [e]
    simp only [List.length_append, List.length_cons, List.length_nil]
    omega
theorem joined_len (r : List (List UInt8)) (h : ∀ p ∈ r, p.length ≤ 43) : (Lib.join r [44]).length ≤ 44 * r.length := by
  cases r with
  | nil => exact Nat.le_refl _
  | cons x r =>
    have h1 := h x (List.mem_cons_self ..)
    have h2 := tail_len r fun p hp => h p (List.mem_cons_of_mem _ hp)
    rw [Lib.join_cons, List.length_append, List.length_cons]
    omega
structure TxX where
  a : Nat
  acc : List (List UInt8)
def txInv (l : List Int) (wa : Bool) (x : TxX) : St := match x.acc.length with
  | 0 => ⟨[(0, .c (.one (.sl 0 0 1 l.length))), (3, .c (.one (.val (.slice none 0 0)))), (4, .c (.one (.num x.a)))], [(0, ⟨.arr _ intL l, wa⟩)]⟩
  | j + 1 => ⟨[(0, .c (.one (.sl 0 0 1 l.length))), (3, .c (.one (.sl 500 0 1 (j + 1)))), (4, .c (.one (.num x.a)))], [(0, ⟨.arr _ intL l, wa⟩), (500, ⟨.arr _ strL x.acc, true⟩)]⟩
def tyInv (l : List Int) (wa : Bool) (a : Nat) (acc : List (List UInt8)) (q : Nat) : St := match acc.length with
  | 0 => ⟨[(0, .c (.one (.sl 0 0 1 l.length))), (3, .c (.one (.val (.slice none 0 0)))), (4, .c (.one (.num a))), (5, .c (.one (.num q)))], [(0, ⟨.arr _ intL l, wa⟩)]⟩
  | j + 1 => ⟨[(0, .c (.one (.sl 0 0 1 l.length))), (3, .c (.one (.sl 500 0 1 (j + 1)))), (4, .c (.one (.num a))), (5, .c (.one (.num q)))], [(0, ⟨.arr _ intL l, wa⟩), (500, ⟨.arr _ strL acc, true⟩)]⟩
def txOk (l : List Int) (x : TxX) : Prop := x.a ≤ l.length ∧ x.acc.length ≤ x.a ∧ (∀ p ∈ x.acc, p.length ≤ 43) ∧ x.acc ++ partsR l x.a = partsR l 0
theorem txOk_add {l : List Int} {x : TxX} {q : Nat} (hr : inR l) (h : txOk l x) (hi : x.a < l.length) (hq : x.a ≤ q) (hq2 : q < l.length) (ht : toN l x.a = q) : txOk l ⟨q + 1, x.acc ++ [partL l x.a q]⟩ := by
  obtain ⟨h1, h2, h3, h4⟩ := h
  refine ⟨hq2, by simp only [List.length_append, List.length_cons, List.length_nil]; omega, fun p hp => ?_, ?_⟩
  · rcases List.mem_append.1 hp with hp | hp
    · exact h3 p hp
    · rw [List.mem_singleton.1 hp]; exact part_len hr _ _
  · rw [partsR_step hi, ht] at h4
    rw [List.append_assoc]
    exact h4
theorem txOk_end {l : List Int} {x : TxX} (h : txOk l x) (hi : l.length ≤ x.a) : x.acc = partsR l 0 := by
  obtain ⟨h1, h2, h3, h4⟩ := h
  rw [partsR_end hi, List.append_nil] at h4
  exact h4
def qt6 : Nat → Option Con := fun f => match f with
  | 56 => some followsC
  | 57 => some itoaC
  | 58 => some tJoinC
  | _ => none
theorem qt6_ok : GaOkG Tryd.prog GL qt6 := fun f con h => by
  unfold qt6 at h
  split at h
  · injection h with h; subst h; exact followsC_ok
  · injection h with h; subst h; exact itoaC_ok
  · injection h with h; subst h; exact tJoinC_ok
  · cases h
set_option maxRecDepth 100000 in
theorem text_tri (l : List Int) (wa : Bool) (hl : l.length ≤ 1000) (h0 : 0 < l.length) (hr : inR l) : TriG Tryd.prog GL 27 [.one (.sl 0 0 1 l.length)] [(0, ⟨.arr _ intL l, wa⟩)] (.c (.one (.str (textL l)))) [(0, ⟨.arr _ intL l, wa⟩)] := by
  refine tri_ofx (envLK_ok qt6_ok 55 [0]) Tryd.func27 rfl rfl (rs := [.tmp 2]) rfl rfl (by simp [envLK]) rfl ?_
  simp only [envLK, con0, conS, strsOf_arr, rowS_arr, strsOf_cells, rowS_cells, toS, strL_st, strL_d, strL_enc, strL_up, hpN_nil, hpN_cons, qt6, followsC, itoaC, tJoinC, go_sem, reduceCtorEq, ↓reduceIte, Nat.reduceAdd, Nat.reduceMul, Nat.reduceSub, Nat.reduceEqDiff, Nat.reduceLT, Nat.reduceBEq, Nat.reduceBNe, Nat.reduceLeDiff, Int.reduceLE, Int.reduceLT, Int.reduceToNat, Int.reduceEq, Int.reduceAdd, UInt8.reduceToNat, UInt32.reduceToNat, UInt64.reduceToNat, UInt8.reduceOfNat, UInt32.reduceOfNat, UInt64.reduceOfNat, Fin.isValue, Int.reduceSub, Int.reduceMul, Int.reduceNeg, Int.reduceMod, Int.reduceDiv, Int.reduceTDiv, Int.reduceTMod, Int.reduceBEq, Int.reduceBNe, Nat.reduceDiv, Nat.reducePow]
  refine loop_inv (envLK_ok qt6_ok 55 [0]) (txInv l wa) (txOk l) (fun x => l.length - x.a) ⟨0, []⟩ [] ⟨Nat.zero_le _, Nat.le_refl _, fun p hp => (by cases hp), rfl⟩ ?_ ?_
  · simp only [txInv, go_sem, reduceCtorEq, ↓reduceIte, Nat.reduceAdd, Nat.reduceMul, Nat.reduceSub, Nat.reduceEqDiff, Nat.reduceLT, Nat.reduceBEq, Nat.reduceBNe, Nat.reduceLeDiff, Int.reduceLE, Int.reduceLT, Int.reduceToNat, Int.reduceEq, Int.reduceAdd, UInt8.reduceToNat, UInt32.reduceToNat, UInt64.reduceToNat, UInt8.reduceOfNat, UInt32.reduceOfNat, UInt64.reduceOfNat, Fin.isValue, Int.reduceSub, Int.reduceMul, Int.reduceNeg, Int.reduceMod, Int.reduceDiv, Int.reduceTDiv, Int.reduceTMod, Int.reduceBEq, Int.reduceBNe, Nat.reduceDiv, Nat.reducePow]
    all_goals ((repeat' apply And.intro) <;> first | omega | exact rfl | exact id)
  · intro x hx
    obtain ⟨a, acc⟩ := x
    have ha := hx.1
    have hal := hx.2.1
    simp only at ha hal
    generalize hj : acc.length = j at hal
    rcases j with _ | j
    · obtain rfl := List.eq_nil_of_length_eq_zero hj
      simp only [envLK, con0, conS, strsOf_arr, rowS_arr, strsOf_cells, rowS_cells, toS, strL_st, strL_d, strL_enc, strL_up, hpN_nil, hpN_cons, qt6, followsC, itoaC, tJoinC, txInv, hj, go_sem, reduceCtorEq, ↓reduceIte, Nat.reduceAdd, Nat.reduceMul, Nat.reduceSub, Nat.reduceEqDiff, Nat.reduceLT, Nat.reduceBEq, Nat.reduceBNe, Nat.reduceLeDiff, Int.reduceLE, Int.reduceLT, Int.reduceToNat, Int.reduceEq, Int.reduceAdd, UInt8.reduceToNat, UInt32.reduceToNat, UInt64.reduceToNat, UInt8.reduceOfNat, UInt32.reduceOfNat, UInt64.reduceOfNat, Fin.isValue, Int.reduceSub, Int.reduceMul, Int.reduceNeg, Int.reduceMod, Int.reduceDiv, Int.reduceTDiv, Int.reduceTMod, Int.reduceBEq, Int.reduceBNe, Nat.reduceDiv, Nat.reducePow]
      refine br (fun h => ?_) fun h => ?_
      · have hlt : a < l.length := by have := of_decide_eq_true h; omega
        simp only [envLK, con0, conS, strsOf_arr, rowS_arr, strsOf_cells, rowS_cells, toS, strL_st, strL_d, strL_enc, strL_up, hpN_nil, hpN_cons, qt6, followsC, itoaC, tJoinC, h, hj, go_sem, reduceCtorEq, ↓reduceIte, Nat.reduceAdd, Nat.reduceMul, Nat.reduceSub, Nat.reduceEqDiff, Nat.reduceLT, Nat.reduceBEq, Nat.reduceBNe, Nat.reduceLeDiff, Int.reduceLE, Int.reduceLT, Int.reduceToNat, Int.reduceEq, Int.reduceAdd, UInt8.reduceToNat, UInt32.reduceToNat, UInt64.reduceToNat, UInt8.reduceOfNat, UInt32.reduceOfNat, UInt64.reduceOfNat, Fin.isValue, Int.reduceSub, Int.reduceMul, Int.reduceNeg, Int.reduceMod, Int.reduceDiv, Int.reduceTDiv, Int.reduceTMod, Int.reduceBEq, Int.reduceBNe, Nat.reduceDiv, Nat.reducePow]
        refine loop_inv (envLK_ok qt6_ok 55 [0]) (tyInv l wa a []) (fun q => a ≤ q ∧ q < l.length ∧ ∀ j, a ≤ j → j < q → j + 1 < l.length ∧ goes l j = true) (fun q => l.length - q) a [] ⟨Nat.le_refl _, hlt, fun j j1 j2 => by omega⟩ ?_ ?_
        · simp only [tyInv, hj, go_sem, reduceCtorEq, ↓reduceIte, Nat.reduceAdd, Nat.reduceMul, Nat.reduceSub, Nat.reduceEqDiff, Nat.reduceLT, Nat.reduceBEq, Nat.reduceBNe, Nat.reduceLeDiff, Int.reduceLE, Int.reduceLT, Int.reduceToNat, Int.reduceEq, Int.reduceAdd, UInt8.reduceToNat, UInt32.reduceToNat, UInt64.reduceToNat, UInt8.reduceOfNat, UInt32.reduceOfNat, UInt64.reduceOfNat, Fin.isValue, Int.reduceSub, Int.reduceMul, Int.reduceNeg, Int.reduceMod, Int.reduceDiv, Int.reduceTDiv, Int.reduceTMod, Int.reduceBEq, Int.reduceBNe, Nat.reduceDiv, Nat.reducePow]
          all_goals ((repeat' apply And.intro) <;> first | omega | exact rfl | exact id)
        · intro q hq
          obtain ⟨hq1, hq2, hq3⟩ := hq
          have hwq : IntKind.i64.wrap ((q : Int) + 1) = ((q + 1 : Nat) : Int) := by rw [IntKind.wrap_i64]; omega
          have ra := inR_at hr a
          have rq := inR_at hr q
          have rq1 := inR_at hr (q + 1)
          have il1 := Lib.itoa_length_le _ ra.1 ra.2
          have il2 := Lib.itoa_length_le _ rq.1 rq.2
          simp only [envLK, con0, conS, strsOf_arr, rowS_arr, strsOf_cells, rowS_cells, toS, strL_st, strL_d, strL_enc, strL_up, hpN_nil, hpN_cons, qt6, followsC, itoaC, tJoinC, tyInv, hwq, hj, go_sem, reduceCtorEq, ↓reduceIte, Nat.reduceAdd, Nat.reduceMul, Nat.reduceSub, Nat.reduceEqDiff, Nat.reduceLT, Nat.reduceBEq, Nat.reduceBNe, Nat.reduceLeDiff, Int.reduceLE, Int.reduceLT, Int.reduceToNat, Int.reduceEq, Int.reduceAdd, UInt8.reduceToNat, UInt32.reduceToNat, UInt64.reduceToNat, UInt8.reduceOfNat, UInt32.reduceOfNat, UInt64.reduceOfNat, Fin.isValue, Int.reduceSub, Int.reduceMul, Int.reduceNeg, Int.reduceMod, Int.reduceDiv, Int.reduceTDiv, Int.reduceTMod, Int.reduceBEq, Int.reduceBNe, Nat.reduceDiv, Nat.reducePow]
          refine br (fun h3 => ?_) fun h3 => ?_
          · have hq4 : q + 1 < l.length := by have := of_decide_eq_true h3; omega
            cases h4 : fol (l.getD q 0) (l.getD (q + 1) 0) with
            | true =>
              simp only [envLK, con0, conS, strsOf_arr, rowS_arr, strsOf_cells, rowS_cells, toS, strL_st, strL_d, strL_enc, strL_up, hpN_nil, hpN_cons, qt6, followsC, itoaC, tJoinC, h3, h4, hwq, hj, rq1, intL_st, intL_d, intL_enc, go_sem, reduceCtorEq, ↓reduceIte, Nat.reduceAdd, Nat.reduceMul, Nat.reduceSub, Nat.reduceEqDiff, Nat.reduceLT, Nat.reduceBEq, Nat.reduceBNe, Nat.reduceLeDiff, Int.reduceLE, Int.reduceLT, Int.reduceToNat, Int.reduceEq, Int.reduceAdd, UInt8.reduceToNat, UInt32.reduceToNat, UInt64.reduceToNat, UInt8.reduceOfNat, UInt32.reduceOfNat, UInt64.reduceOfNat, Fin.isValue, Int.reduceSub, Int.reduceMul, Int.reduceNeg, Int.reduceMod, Int.reduceDiv, Int.reduceTDiv, Int.reduceTMod, Int.reduceBEq, Int.reduceBNe, Nat.reduceDiv, Nat.reducePow]
              repeat' apply And.intro
              rotate_right
              · refine again (q + 1) [] ⟨by omega, hq4, fun j j1 j2 => by rcases Nat.lt_or_ge j q with h' | h'; exact hq3 j j1 h'; exact (show j = q by omega) ▸ ⟨hq4, h4⟩⟩ (by show l.length - (q + 1) < l.length - q; omega) ?_
                simp only [tyInv, hj, envLK, con0, conS, strsOf_arr, rowS_arr, strsOf_cells, rowS_cells, toS, strL_st, strL_d, strL_enc, strL_up, hpN_nil, hpN_cons, qt6, followsC, itoaC, tJoinC, go_sem, reduceCtorEq, ↓reduceIte, Nat.reduceAdd, Nat.reduceMul, Nat.reduceSub, Nat.reduceEqDiff, Nat.reduceLT, Nat.reduceBEq, Nat.reduceBNe, Nat.reduceLeDiff, Int.reduceLE, Int.reduceLT, Int.reduceToNat, Int.reduceEq, Int.reduceAdd, UInt8.reduceToNat, UInt32.reduceToNat, UInt64.reduceToNat, UInt8.reduceOfNat, UInt32.reduceOfNat, UInt64.reduceOfNat, Fin.isValue, Int.reduceSub, Int.reduceMul, Int.reduceNeg, Int.reduceMod, Int.reduceDiv, Int.reduceTDiv, Int.reduceTMod, Int.reduceBEq, Int.reduceBNe, Nat.reduceDiv, Nat.reducePow]
                all_goals ((repeat' apply And.intro) <;> first | omega | exact rfl | exact id)
              all_goals first | omega | exact rfl | exact id
            | false =>
              have hto : toN l a = q := lastN_at l l.length a q hq1 (by omega) hq3 (fun e => by have := e.2; unfold goes at this; rw [h4] at this; cases this)
              have hnx := txOk_add hr hx hlt hq1 hq2 hto
              simp only at hnx
              cases c : decide ((a : Int) < (q : Int)) with
              | true =>
                have haq : a < q := by have := of_decide_eq_true c; omega
                have hp : partL l a q = Lib.itoa (l.getD a 0) ++ 58 :: Lib.itoa (l.getD q 0) := by unfold partL; rw [if_pos haq]
                rw [hp] at hnx
                simp only [envLK, con0, conS, strsOf_arr, rowS_arr, strsOf_cells, rowS_cells, toS, strL_st, strL_d, strL_enc, strL_up, hpN_nil, hpN_cons, qt6, followsC, itoaC, tJoinC, h3, h4, c, hwq, hj, ra, rq, rq1, il1, il2, intL_st, intL_d, intL_enc, strL_st, strL_d, strL_enc, strL_up, go_sem, reduceCtorEq, ↓reduceIte, Nat.reduceAdd, Nat.reduceMul, Nat.reduceSub, Nat.reduceEqDiff, Nat.reduceLT, Nat.reduceBEq, Nat.reduceBNe, Nat.reduceLeDiff, Int.reduceLE, Int.reduceLT, Int.reduceToNat, Int.reduceEq, Int.reduceAdd, UInt8.reduceToNat, UInt32.reduceToNat, UInt64.reduceToNat, UInt8.reduceOfNat, UInt32.reduceOfNat, UInt64.reduceOfNat, Fin.isValue, Int.reduceSub, Int.reduceMul, Int.reduceNeg, Int.reduceMod, Int.reduceDiv, Int.reduceTDiv, Int.reduceTMod, Int.reduceBEq, Int.reduceBNe, Nat.reduceDiv, Nat.reducePow]
                repeat' apply And.intro
                rotate_right
                · refine again ⟨q + 1, [] ++ [_]⟩ [(500, 110024)] hnx (by show l.length - (q + 1) < l.length - a; omega) ?_
                  simp only [txInv, List.length_append, hj, strL_st, strL_d, strL_enc, strL_up, envLK, con0, conS, strsOf_arr, rowS_arr, strsOf_cells, rowS_cells, toS, strL_st, strL_d, strL_enc, strL_up, hpN_nil, hpN_cons, qt6, followsC, itoaC, tJoinC, go_sem, reduceCtorEq, ↓reduceIte, Nat.reduceAdd, Nat.reduceMul, Nat.reduceSub, Nat.reduceEqDiff, Nat.reduceLT, Nat.reduceBEq, Nat.reduceBNe, Nat.reduceLeDiff, Int.reduceLE, Int.reduceLT, Int.reduceToNat, Int.reduceEq, Int.reduceAdd, UInt8.reduceToNat, UInt32.reduceToNat, UInt64.reduceToNat, UInt8.reduceOfNat, UInt32.reduceOfNat, UInt64.reduceOfNat, Fin.isValue, Int.reduceSub, Int.reduceMul, Int.reduceNeg, Int.reduceMod, Int.reduceDiv, Int.reduceTDiv, Int.reduceTMod, Int.reduceBEq, Int.reduceBNe, Nat.reduceDiv, Nat.reducePow]
                  ((repeat' apply And.intro) <;> first | omega | exact rfl | exact id)
                all_goals first | omega | exact rfl | exact id
              | false =>
                have haq : ¬ a < q := by have := of_decide_eq_false c; omega
                have hp : partL l a q = Lib.itoa (l.getD a 0) := by unfold partL; rw [if_neg haq]
                rw [hp] at hnx
                simp only [envLK, con0, conS, strsOf_arr, rowS_arr, strsOf_cells, rowS_cells, toS, strL_st, strL_d, strL_enc, strL_up, hpN_nil, hpN_cons, qt6, followsC, itoaC, tJoinC, h3, h4, c, hwq, hj, ra, rq, rq1, il1, il2, intL_st, intL_d, intL_enc, strL_st, strL_d, strL_enc, strL_up, go_sem, reduceCtorEq, ↓reduceIte, Nat.reduceAdd, Nat.reduceMul, Nat.reduceSub, Nat.reduceEqDiff, Nat.reduceLT, Nat.reduceBEq, Nat.reduceBNe, Nat.reduceLeDiff, Int.reduceLE, Int.reduceLT, Int.reduceToNat, Int.reduceEq, Int.reduceAdd, UInt8.reduceToNat, UInt32.reduceToNat, UInt64.reduceToNat, UInt8.reduceOfNat, UInt32.reduceOfNat, UInt64.reduceOfNat, Fin.isValue, Int.reduceSub, Int.reduceMul, Int.reduceNeg, Int.reduceMod, Int.reduceDiv, Int.reduceTDiv, Int.reduceTMod, Int.reduceBEq, Int.reduceBNe, Nat.reduceDiv, Nat.reducePow]
                repeat' apply And.intro
                rotate_right
                · refine again ⟨q + 1, [] ++ [_]⟩ [(500, 110024)] hnx (by show l.length - (q + 1) < l.length - a; omega) ?_
                  simp only [txInv, List.length_append, hj, strL_st, strL_d, strL_enc, strL_up, envLK, con0, conS, strsOf_arr, rowS_arr, strsOf_cells, rowS_cells, toS, strL_st, strL_d, strL_enc, strL_up, hpN_nil, hpN_cons, qt6, followsC, itoaC, tJoinC, go_sem, reduceCtorEq, ↓reduceIte, Nat.reduceAdd, Nat.reduceMul, Nat.reduceSub, Nat.reduceEqDiff, Nat.reduceLT, Nat.reduceBEq, Nat.reduceBNe, Nat.reduceLeDiff, Int.reduceLE, Int.reduceLT, Int.reduceToNat, Int.reduceEq, Int.reduceAdd, UInt8.reduceToNat, UInt32.reduceToNat, UInt64.reduceToNat, UInt8.reduceOfNat, UInt32.reduceOfNat, UInt64.reduceOfNat, Fin.isValue, Int.reduceSub, Int.reduceMul, Int.reduceNeg, Int.reduceMod, Int.reduceDiv, Int.reduceTDiv, Int.reduceTMod, Int.reduceBEq, Int.reduceBNe, Nat.reduceDiv, Nat.reducePow]
                  ((repeat' apply And.intro) <;> first | omega | exact rfl | exact id)
                all_goals first | omega | exact rfl | exact id
          · have hto : toN l a = q := lastN_at l l.length a q hq1 (by omega) hq3 (fun e => by have := of_decide_eq_false h3; have := e.1; omega)
            have hnx := txOk_add hr hx hlt hq1 hq2 hto
            simp only at hnx
            cases c : decide ((a : Int) < (q : Int)) with
            | true =>
              have haq : a < q := by have := of_decide_eq_true c; omega
              have hp : partL l a q = Lib.itoa (l.getD a 0) ++ 58 :: Lib.itoa (l.getD q 0) := by unfold partL; rw [if_pos haq]
              rw [hp] at hnx
              simp only [envLK, con0, conS, strsOf_arr, rowS_arr, strsOf_cells, rowS_cells, toS, strL_st, strL_d, strL_enc, strL_up, hpN_nil, hpN_cons, qt6, followsC, itoaC, tJoinC, h3, c, hwq, hj, ra, rq, rq1, il1, il2, intL_st, intL_d, intL_enc, strL_st, strL_d, strL_enc, strL_up, go_sem, reduceCtorEq, ↓reduceIte, Nat.reduceAdd, Nat.reduceMul, Nat.reduceSub, Nat.reduceEqDiff, Nat.reduceLT, Nat.reduceBEq, Nat.reduceBNe, Nat.reduceLeDiff, Int.reduceLE, Int.reduceLT, Int.reduceToNat, Int.reduceEq, Int.reduceAdd, UInt8.reduceToNat, UInt32.reduceToNat, UInt64.reduceToNat, UInt8.reduceOfNat, UInt32.reduceOfNat, UInt64.reduceOfNat, Fin.isValue, Int.reduceSub, Int.reduceMul, Int.reduceNeg, Int.reduceMod, Int.reduceDiv, Int.reduceTDiv, Int.reduceTMod, Int.reduceBEq, Int.reduceBNe, Nat.reduceDiv, Nat.reducePow]
              repeat' apply And.intro
              rotate_right
              · refine again ⟨q + 1, [] ++ [_]⟩ [(500, 110024)] hnx (by show l.length - (q + 1) < l.length - a; omega) ?_
                simp only [txInv, List.length_append, hj, strL_st, strL_d, strL_enc, strL_up, envLK, con0, conS, strsOf_arr, rowS_arr, strsOf_cells, rowS_cells, toS, strL_st, strL_d, strL_enc, strL_up, hpN_nil, hpN_cons, qt6, followsC, itoaC, tJoinC, go_sem, reduceCtorEq, ↓reduceIte, Nat.reduceAdd, Nat.reduceMul, Nat.reduceSub, Nat.reduceEqDiff, Nat.reduceLT, Nat.reduceBEq, Nat.reduceBNe, Nat.reduceLeDiff, Int.reduceLE, Int.reduceLT, Int.reduceToNat, Int.reduceEq, Int.reduceAdd, UInt8.reduceToNat, UInt32.reduceToNat, UInt64.reduceToNat, UInt8.reduceOfNat, UInt32.reduceOfNat, UInt64.reduceOfNat, Fin.isValue, Int.reduceSub, Int.reduceMul, Int.reduceNeg, Int.reduceMod, Int.reduceDiv, Int.reduceTDiv, Int.reduceTMod, Int.reduceBEq, Int.reduceBNe, Nat.reduceDiv, Nat.reducePow]
                ((repeat' apply And.intro) <;> first | omega | exact rfl | exact id)
              all_goals first | omega | exact rfl | exact id
            | false =>
              have haq : ¬ a < q := by have := of_decide_eq_false c; omega
              have hp : partL l a q = Lib.itoa (l.getD a 0) := by unfold partL; rw [if_neg haq]
              rw [hp] at hnx
              simp only [envLK, con0, conS, strsOf_arr, rowS_arr, strsOf_cells, rowS_cells, toS, strL_st, strL_d, strL_enc, strL_up, hpN_nil, hpN_cons, qt6, followsC, itoaC, tJoinC, h3, c, hwq, hj, ra, rq, rq1, il1, il2, intL_st, intL_d, intL_enc, strL_st, strL_d, strL_enc, strL_up, go_sem, reduceCtorEq, ↓reduceIte, Nat.reduceAdd, Nat.reduceMul, Nat.reduceSub, Nat.reduceEqDiff, Nat.reduceLT, Nat.reduceBEq, Nat.reduceBNe, Nat.reduceLeDiff, Int.reduceLE, Int.reduceLT, Int.reduceToNat, Int.reduceEq, Int.reduceAdd, UInt8.reduceToNat, UInt32.reduceToNat, UInt64.reduceToNat, UInt8.reduceOfNat, UInt32.reduceOfNat, UInt64.reduceOfNat, Fin.isValue, Int.reduceSub, Int.reduceMul, Int.reduceNeg, Int.reduceMod, Int.reduceDiv, Int.reduceTDiv, Int.reduceTMod, Int.reduceBEq, Int.reduceBNe, Nat.reduceDiv, Nat.reducePow]
              repeat' apply And.intro
              rotate_right
              · refine again ⟨q + 1, [] ++ [_]⟩ [(500, 110024)] hnx (by show l.length - (q + 1) < l.length - a; omega) ?_
                simp only [txInv, List.length_append, hj, strL_st, strL_d, strL_enc, strL_up, envLK, con0, conS, strsOf_arr, rowS_arr, strsOf_cells, rowS_cells, toS, strL_st, strL_d, strL_enc, strL_up, hpN_nil, hpN_cons, qt6, followsC, itoaC, tJoinC, go_sem, reduceCtorEq, ↓reduceIte, Nat.reduceAdd, Nat.reduceMul, Nat.reduceSub, Nat.reduceEqDiff, Nat.reduceLT, Nat.reduceBEq, Nat.reduceBNe, Nat.reduceLeDiff, Int.reduceLE, Int.reduceLT, Int.reduceToNat, Int.reduceEq, Int.reduceAdd, UInt8.reduceToNat, UInt32.reduceToNat, UInt64.reduceToNat, UInt8.reduceOfNat, UInt32.reduceOfNat, UInt64.reduceOfNat, Fin.isValue, Int.reduceSub, Int.reduceMul, Int.reduceNeg, Int.reduceMod, Int.reduceDiv, Int.reduceTDiv, Int.reduceTMod, Int.reduceBEq, Int.reduceBNe, Nat.reduceDiv, Nat.reducePow]
                ((repeat' apply And.intro) <;> first | omega | exact rfl | exact id)
              all_goals first | omega | exact rfl | exact id
      · have hge : l.length ≤ a := by have := of_decide_eq_false h; omega
        have he := txOk_end hx hge
        simp only at he
        rw [partsR_step h0] at he
        cases he
    · simp only [envLK, con0, conS, strsOf_arr, rowS_arr, strsOf_cells, rowS_cells, toS, strL_st, strL_d, strL_enc, strL_up, hpN_nil, hpN_cons, qt6, followsC, itoaC, tJoinC, txInv, hj, go_sem, reduceCtorEq, ↓reduceIte, Nat.reduceAdd, Nat.reduceMul, Nat.reduceSub, Nat.reduceEqDiff, Nat.reduceLT, Nat.reduceBEq, Nat.reduceBNe, Nat.reduceLeDiff, Int.reduceLE, Int.reduceLT, Int.reduceToNat, Int.reduceEq, Int.reduceAdd, UInt8.reduceToNat, UInt32.reduceToNat, UInt64.reduceToNat, UInt8.reduceOfNat, UInt32.reduceOfNat, UInt64.reduceOfNat, Fin.isValue, Int.reduceSub, Int.reduceMul, Int.reduceNeg, Int.reduceMod, Int.reduceDiv, Int.reduceTDiv, Int.reduceTMod, Int.reduceBEq, Int.reduceBNe, Nat.reduceDiv, Nat.reducePow]
      refine br (fun h => ?_) fun h => ?_
      · have hlt : a < l.length := by have := of_decide_eq_true h; omega
        simp only [envLK, con0, conS, strsOf_arr, rowS_arr, strsOf_cells, rowS_cells, toS, strL_st, strL_d, strL_enc, strL_up, hpN_nil, hpN_cons, qt6, followsC, itoaC, tJoinC, h, hj, go_sem, reduceCtorEq, ↓reduceIte, Nat.reduceAdd, Nat.reduceMul, Nat.reduceSub, Nat.reduceEqDiff, Nat.reduceLT, Nat.reduceBEq, Nat.reduceBNe, Nat.reduceLeDiff, Int.reduceLE, Int.reduceLT, Int.reduceToNat, Int.reduceEq, Int.reduceAdd, UInt8.reduceToNat, UInt32.reduceToNat, UInt64.reduceToNat, UInt8.reduceOfNat, UInt32.reduceOfNat, UInt64.reduceOfNat, Fin.isValue, Int.reduceSub, Int.reduceMul, Int.reduceNeg, Int.reduceMod, Int.reduceDiv, Int.reduceTDiv, Int.reduceTMod, Int.reduceBEq, Int.reduceBNe, Nat.reduceDiv, Nat.reducePow]
        refine loop_inv (envLK_ok qt6_ok 55 [0]) (tyInv l wa a acc) (fun q => a ≤ q ∧ q < l.length ∧ ∀ j, a ≤ j → j < q → j + 1 < l.length ∧ goes l j = true) (fun q => l.length - q) a [] ⟨Nat.le_refl _, hlt, fun j j1 j2 => by omega⟩ ?_ ?_
        · simp only [tyInv, hj, go_sem, reduceCtorEq, ↓reduceIte, Nat.reduceAdd, Nat.reduceMul, Nat.reduceSub, Nat.reduceEqDiff, Nat.reduceLT, Nat.reduceBEq, Nat.reduceBNe, Nat.reduceLeDiff, Int.reduceLE, Int.reduceLT, Int.reduceToNat, Int.reduceEq, Int.reduceAdd, UInt8.reduceToNat, UInt32.reduceToNat, UInt64.reduceToNat, UInt8.reduceOfNat, UInt32.reduceOfNat, UInt64.reduceOfNat, Fin.isValue, Int.reduceSub, Int.reduceMul, Int.reduceNeg, Int.reduceMod, Int.reduceDiv, Int.reduceTDiv, Int.reduceTMod, Int.reduceBEq, Int.reduceBNe, Nat.reduceDiv, Nat.reducePow]
          all_goals ((repeat' apply And.intro) <;> first | omega | exact rfl | exact id)
        · intro q hq
          obtain ⟨hq1, hq2, hq3⟩ := hq
          have hwq : IntKind.i64.wrap ((q : Int) + 1) = ((q + 1 : Nat) : Int) := by rw [IntKind.wrap_i64]; omega
          have ra := inR_at hr a
          have rq := inR_at hr q
          have rq1 := inR_at hr (q + 1)
          have il1 := Lib.itoa_length_le _ ra.1 ra.2
          have il2 := Lib.itoa_length_le _ rq.1 rq.2
          simp only [envLK, con0, conS, strsOf_arr, rowS_arr, strsOf_cells, rowS_cells, toS, strL_st, strL_d, strL_enc, strL_up, hpN_nil, hpN_cons, qt6, followsC, itoaC, tJoinC, tyInv, hwq, hj, go_sem, reduceCtorEq, ↓reduceIte, Nat.reduceAdd, Nat.reduceMul, Nat.reduceSub, Nat.reduceEqDiff, Nat.reduceLT, Nat.reduceBEq, Nat.reduceBNe, Nat.reduceLeDiff, Int.reduceLE, Int.reduceLT, Int.reduceToNat, Int.reduceEq, Int.reduceAdd, UInt8.reduceToNat, UInt32.reduceToNat, UInt64.reduceToNat, UInt8.reduceOfNat, UInt32.reduceOfNat, UInt64.reduceOfNat, Fin.isValue, Int.reduceSub, Int.reduceMul, Int.reduceNeg, Int.reduceMod, Int.reduceDiv, Int.reduceTDiv, Int.reduceTMod, Int.reduceBEq, Int.reduceBNe, Nat.reduceDiv, Nat.reducePow]
          refine br (fun h3 => ?_) fun h3 => ?_
          · have hq4 : q + 1 < l.length := by have := of_decide_eq_true h3; omega
            cases h4 : fol (l.getD q 0) (l.getD (q + 1) 0) with
            | true =>
              simp only [envLK, con0, conS, strsOf_arr, rowS_arr, strsOf_cells, rowS_cells, toS, strL_st, strL_d, strL_enc, strL_up, hpN_nil, hpN_cons, qt6, followsC, itoaC, tJoinC, h3, h4, hwq, hj, rq1, intL_st, intL_d, intL_enc, go_sem, reduceCtorEq, ↓reduceIte, Nat.reduceAdd, Nat.reduceMul, Nat.reduceSub, Nat.reduceEqDiff, Nat.reduceLT, Nat.reduceBEq, Nat.reduceBNe, Nat.reduceLeDiff, Int.reduceLE, Int.reduceLT, Int.reduceToNat, Int.reduceEq, Int.reduceAdd, UInt8.reduceToNat, UInt32.reduceToNat, UInt64.reduceToNat, UInt8.reduceOfNat, UInt32.reduceOfNat, UInt64.reduceOfNat, Fin.isValue, Int.reduceSub, Int.reduceMul, Int.reduceNeg, Int.reduceMod, Int.reduceDiv, Int.reduceTDiv, Int.reduceTMod, Int.reduceBEq, Int.reduceBNe, Nat.reduceDiv, Nat.reducePow]
              repeat' apply And.intro
              rotate_right
              · refine again (q + 1) [] ⟨by omega, hq4, fun j j1 j2 => by rcases Nat.lt_or_ge j q with h' | h'; exact hq3 j j1 h'; exact (show j = q by omega) ▸ ⟨hq4, h4⟩⟩ (by show l.length - (q + 1) < l.length - q; omega) ?_
                simp only [tyInv, hj, envLK, con0, conS, strsOf_arr, rowS_arr, strsOf_cells, rowS_cells, toS, strL_st, strL_d, strL_enc, strL_up, hpN_nil, hpN_cons, qt6, followsC, itoaC, tJoinC, go_sem, reduceCtorEq, ↓reduceIte, Nat.reduceAdd, Nat.reduceMul, Nat.reduceSub, Nat.reduceEqDiff, Nat.reduceLT, Nat.reduceBEq, Nat.reduceBNe, Nat.reduceLeDiff, Int.reduceLE, Int.reduceLT, Int.reduceToNat, Int.reduceEq, Int.reduceAdd, UInt8.reduceToNat, UInt32.reduceToNat, UInt64.reduceToNat, UInt8.reduceOfNat, UInt32.reduceOfNat, UInt64.reduceOfNat, Fin.isValue, Int.reduceSub, Int.reduceMul, Int.reduceNeg, Int.reduceMod, Int.reduceDiv, Int.reduceTDiv, Int.reduceTMod, Int.reduceBEq, Int.reduceBNe, Nat.reduceDiv, Nat.reducePow]
                all_goals ((repeat' apply And.intro) <;> first | omega | exact rfl | exact id)
              all_goals first | omega | exact rfl | exact id
            | false =>
              have hto : toN l a = q := lastN_at l l.length a q hq1 (by omega) hq3 (fun e => by have := e.2; unfold goes at this; rw [h4] at this; cases this)
              have hnx := txOk_add hr hx hlt hq1 hq2 hto
              simp only at hnx
              cases c : decide ((a : Int) < (q : Int)) with
              | true =>
                have haq : a < q := by have := of_decide_eq_true c; omega
                have hp : partL l a q = Lib.itoa (l.getD a 0) ++ 58 :: Lib.itoa (l.getD q 0) := by unfold partL; rw [if_pos haq]
                rw [hp] at hnx
                simp only [envLK, con0, conS, strsOf_arr, rowS_arr, strsOf_cells, rowS_cells, toS, strL_st, strL_d, strL_enc, strL_up, hpN_nil, hpN_cons, qt6, followsC, itoaC, tJoinC, h3, h4, c, hwq, hj, ra, rq, rq1, il1, il2, intL_st, intL_d, intL_enc, strL_st, strL_d, strL_enc, strL_up, go_sem, reduceCtorEq, ↓reduceIte, Nat.reduceAdd, Nat.reduceMul, Nat.reduceSub, Nat.reduceEqDiff, Nat.reduceLT, Nat.reduceBEq, Nat.reduceBNe, Nat.reduceLeDiff, Int.reduceLE, Int.reduceLT, Int.reduceToNat, Int.reduceEq, Int.reduceAdd, UInt8.reduceToNat, UInt32.reduceToNat, UInt64.reduceToNat, UInt8.reduceOfNat, UInt32.reduceOfNat, UInt64.reduceOfNat, Fin.isValue, Int.reduceSub, Int.reduceMul, Int.reduceNeg, Int.reduceMod, Int.reduceDiv, Int.reduceTDiv, Int.reduceTMod, Int.reduceBEq, Int.reduceBNe, Nat.reduceDiv, Nat.reducePow]
                repeat' apply And.intro
                rotate_right
                · refine again ⟨q + 1, acc ++ [_]⟩ [(500, 110024)] hnx (by show l.length - (q + 1) < l.length - a; omega) ?_
                  simp only [txInv, List.length_append, hj, strL_st, strL_d, strL_enc, strL_up, envLK, con0, conS, strsOf_arr, rowS_arr, strsOf_cells, rowS_cells, toS, strL_st, strL_d, strL_enc, strL_up, hpN_nil, hpN_cons, qt6, followsC, itoaC, tJoinC, go_sem, reduceCtorEq, ↓reduceIte, Nat.reduceAdd, Nat.reduceMul, Nat.reduceSub, Nat.reduceEqDiff, Nat.reduceLT, Nat.reduceBEq, Nat.reduceBNe, Nat.reduceLeDiff, Int.reduceLE, Int.reduceLT, Int.reduceToNat, Int.reduceEq, Int.reduceAdd, UInt8.reduceToNat, UInt32.reduceToNat, UInt64.reduceToNat, UInt8.reduceOfNat, UInt32.reduceOfNat, UInt64.reduceOfNat, Fin.isValue, Int.reduceSub, Int.reduceMul, Int.reduceNeg, Int.reduceMod, Int.reduceDiv, Int.reduceTDiv, Int.reduceTMod, Int.reduceBEq, Int.reduceBNe, Nat.reduceDiv, Nat.reducePow]
                  ((repeat' apply And.intro) <;> first | omega | exact rfl | exact id)
                all_goals first | omega | exact rfl | exact id
              | false =>
                have haq : ¬ a < q := by have := of_decide_eq_false c; omega
                have hp : partL l a q = Lib.itoa (l.getD a 0) := by unfold partL; rw [if_neg haq]
                rw [hp] at hnx
                simp only [envLK, con0, conS, strsOf_arr, rowS_arr, strsOf_cells, rowS_cells, toS, strL_st, strL_d, strL_enc, strL_up, hpN_nil, hpN_cons, qt6, followsC, itoaC, tJoinC, h3, h4, c, hwq, hj, ra, rq, rq1, il1, il2, intL_st, intL_d, intL_enc, strL_st, strL_d, strL_enc, strL_up, go_sem, reduceCtorEq, ↓reduceIte, Nat.reduceAdd, Nat.reduceMul, Nat.reduceSub, Nat.reduceEqDiff, Nat.reduceLT, Nat.reduceBEq, Nat.reduceBNe, Nat.reduceLeDiff, Int.reduceLE, Int.reduceLT, Int.reduceToNat, Int.reduceEq, Int.reduceAdd, UInt8.reduceToNat, UInt32.reduceToNat, UInt64.reduceToNat, UInt8.reduceOfNat, UInt32.reduceOfNat, UInt64.reduceOfNat, Fin.isValue, Int.reduceSub, Int.reduceMul, Int.reduceNeg, Int.reduceMod, Int.reduceDiv, Int.reduceTDiv, Int.reduceTMod, Int.reduceBEq, Int.reduceBNe, Nat.reduceDiv, Nat.reducePow]
                repeat' apply And.intro
                rotate_right
                · refine again ⟨q + 1, acc ++ [_]⟩ [(500, 110024)] hnx (by show l.length - (q + 1) < l.length - a; omega) ?_
                  simp only [txInv, List.length_append, hj, strL_st, strL_d, strL_enc, strL_up, envLK, con0, conS, strsOf_arr, rowS_arr, strsOf_cells, rowS_cells, toS, strL_st, strL_d, strL_enc, strL_up, hpN_nil, hpN_cons, qt6, followsC, itoaC, tJoinC, go_sem, reduceCtorEq, ↓reduceIte, Nat.reduceAdd, Nat.reduceMul, Nat.reduceSub, Nat.reduceEqDiff, Nat.reduceLT, Nat.reduceBEq, Nat.reduceBNe, Nat.reduceLeDiff, Int.reduceLE, Int.reduceLT, Int.reduceToNat, Int.reduceEq, Int.reduceAdd, UInt8.reduceToNat, UInt32.reduceToNat, UInt64.reduceToNat, UInt8.reduceOfNat, UInt32.reduceOfNat, UInt64.reduceOfNat, Fin.isValue, Int.reduceSub, Int.reduceMul, Int.reduceNeg, Int.reduceMod, Int.reduceDiv, Int.reduceTDiv, Int.reduceTMod, Int.reduceBEq, Int.reduceBNe, Nat.reduceDiv, Nat.reducePow]
                  ((repeat' apply And.intro) <;> first | omega | exact rfl | exact id)
                all_goals first | omega | exact rfl | exact id
          · have hto : toN l a = q := lastN_at l l.length a q hq1 (by omega) hq3 (fun e => by have := of_decide_eq_false h3; have := e.1; omega)
            have hnx := txOk_add hr hx hlt hq1 hq2 hto
            simp only at hnx
            cases c : decide ((a : Int) < (q : Int)) with
            | true =>
              have haq : a < q := by have := of_decide_eq_true c; omega
              have hp : partL l a q = Lib.itoa (l.getD a 0) ++ 58 :: Lib.itoa (l.getD q 0) := by unfold partL; rw [if_pos haq]
              rw [hp] at hnx
              simp only [envLK, con0, conS, strsOf_arr, rowS_arr, strsOf_cells, rowS_cells, toS, strL_st, strL_d, strL_enc, strL_up, hpN_nil, hpN_cons, qt6, followsC, itoaC, tJoinC, h3, c, hwq, hj, ra, rq, rq1, il1, il2, intL_st, intL_d, intL_enc, strL_st, strL_d, strL_enc, strL_up, go_sem, reduceCtorEq, ↓reduceIte, Nat.reduceAdd, Nat.reduceMul, Nat.reduceSub, Nat.reduceEqDiff, Nat.reduceLT, Nat.reduceBEq, Nat.reduceBNe, Nat.reduceLeDiff, Int.reduceLE, Int.reduceLT, Int.reduceToNat, Int.reduceEq, Int.reduceAdd, UInt8.reduceToNat, UInt32.reduceToNat, UInt64.reduceToNat, UInt8.reduceOfNat, UInt32.reduceOfNat, UInt64.reduceOfNat, Fin.isValue, Int.reduceSub, Int.reduceMul, Int.reduceNeg, Int.reduceMod, Int.reduceDiv, Int.reduceTDiv, Int.reduceTMod, Int.reduceBEq, Int.reduceBNe, Nat.reduceDiv, Nat.reducePow]
              repeat' apply And.intro
              rotate_right
              · refine again ⟨q + 1, acc ++ [_]⟩ [(500, 110024)] hnx (by show l.length - (q + 1) < l.length - a; omega) ?_
                simp only [txInv, List.length_append, hj, strL_st, strL_d, strL_enc, strL_up, envLK, con0, conS, strsOf_arr, rowS_arr, strsOf_cells, rowS_cells, toS, strL_st, strL_d, strL_enc, strL_up, hpN_nil, hpN_cons, qt6, followsC, itoaC, tJoinC, go_sem, reduceCtorEq, ↓reduceIte, Nat.reduceAdd, Nat.reduceMul, Nat.reduceSub, Nat.reduceEqDiff, Nat.reduceLT, Nat.reduceBEq, Nat.reduceBNe, Nat.reduceLeDiff, Int.reduceLE, Int.reduceLT, Int.reduceToNat, Int.reduceEq, Int.reduceAdd, UInt8.reduceToNat, UInt32.reduceToNat, UInt64.reduceToNat, UInt8.reduceOfNat, UInt32.reduceOfNat, UInt64.reduceOfNat, Fin.isValue, Int.reduceSub, Int.reduceMul, Int.reduceNeg, Int.reduceMod, Int.reduceDiv, Int.reduceTDiv, Int.reduceTMod, Int.reduceBEq, Int.reduceBNe, Nat.reduceDiv, Nat.reducePow]
                ((repeat' apply And.intro) <;> first | omega | exact rfl | exact id)
              all_goals first | omega | exact rfl | exact id
            | false =>
              have haq : ¬ a < q := by have := of_decide_eq_false c; omega
              have hp : partL l a q = Lib.itoa (l.getD a 0) := by unfold partL; rw [if_neg haq]
              rw [hp] at hnx
              simp only [envLK, con0, conS, strsOf_arr, rowS_arr, strsOf_cells, rowS_cells, toS, strL_st, strL_d, strL_enc, strL_up, hpN_nil, hpN_cons, qt6, followsC, itoaC, tJoinC, h3, c, hwq, hj, ra, rq, rq1, il1, il2, intL_st, intL_d, intL_enc, strL_st, strL_d, strL_enc, strL_up, go_sem, reduceCtorEq, ↓reduceIte, Nat.reduceAdd, Nat.reduceMul, Nat.reduceSub, Nat.reduceEqDiff, Nat.reduceLT, Nat.reduceBEq, Nat.reduceBNe, Nat.reduceLeDiff, Int.reduceLE, Int.reduceLT, Int.reduceToNat, Int.reduceEq, Int.reduceAdd, UInt8.reduceToNat, UInt32.reduceToNat, UInt64.reduceToNat, UInt8.reduceOfNat, UInt32.reduceOfNat, UInt64.reduceOfNat, Fin.isValue, Int.reduceSub, Int.reduceMul, Int.reduceNeg, Int.reduceMod, Int.reduceDiv, Int.reduceTDiv, Int.reduceTMod, Int.reduceBEq, Int.reduceBNe, Nat.reduceDiv, Nat.reducePow]
              repeat' apply And.intro
              rotate_right
              · refine again ⟨q + 1, acc ++ [_]⟩ [(500, 110024)] hnx (by show l.length - (q + 1) < l.length - a; omega) ?_
                simp only [txInv, List.length_append, hj, strL_st, strL_d, strL_enc, strL_up, envLK, con0, conS, strsOf_arr, rowS_arr, strsOf_cells, rowS_cells, toS, strL_st, strL_d, strL_enc, strL_up, hpN_nil, hpN_cons, qt6, followsC, itoaC, tJoinC, go_sem, reduceCtorEq, ↓reduceIte, Nat.reduceAdd, Nat.reduceMul, Nat.reduceSub, Nat.reduceEqDiff, Nat.reduceLT, Nat.reduceBEq, Nat.reduceBNe, Nat.reduceLeDiff, Int.reduceLE, Int.reduceLT, Int.reduceToNat, Int.reduceEq, Int.reduceAdd, UInt8.reduceToNat, UInt32.reduceToNat, UInt64.reduceToNat, UInt8.reduceOfNat, UInt32.reduceOfNat, UInt64.reduceOfNat, Fin.isValue, Int.reduceSub, Int.reduceMul, Int.reduceNeg, Int.reduceMod, Int.reduceDiv, Int.reduceTDiv, Int.reduceTMod, Int.reduceBEq, Int.reduceBNe, Nat.reduceDiv, Nat.reducePow]
                ((repeat' apply And.intro) <;> first | omega | exact rfl | exact id)
              all_goals first | omega | exact rfl | exact id
      · have hge : l.length ≤ a := by have := of_decide_eq_false h; omega
        have he := txOk_end hx hge
        simp only at he
        have hjn := joined_len acc hx.2.2.1
        have ht : textL l = Lib.join acc [44] := by unfold textL; rw [← he]
        have htk : acc.take (j + 1) = acc := List.take_of_length_le (by omega)
        simp only [envLK, con0, conS, strsOf_arr, rowS_arr, strsOf_cells, rowS_cells, toS, strL_st, strL_d, strL_enc, strL_up, hpN_nil, hpN_cons, qt6, followsC, itoaC, tJoinC, qJoinF, h, hj, htk, ht, strL_st, strL_d, strL_enc, strsOf_arr, rowS_arr, List.drop_zero, go_sem, reduceCtorEq, ↓reduceIte, Nat.reduceAdd, Nat.reduceMul, Nat.reduceSub, Nat.reduceEqDiff, Nat.reduceLT, Nat.reduceBEq, Nat.reduceBNe, Nat.reduceLeDiff, Int.reduceLE, Int.reduceLT, Int.reduceToNat, Int.reduceEq, Int.reduceAdd, UInt8.reduceToNat, UInt32.reduceToNat, UInt64.reduceToNat, UInt8.reduceOfNat, UInt32.reduceOfNat, UInt64.reduceOfNat, Fin.isValue, Int.reduceSub, Int.reduceMul, Int.reduceNeg, Int.reduceMod, Int.reduceDiv, Int.reduceTDiv, Int.reduceTMod, Int.reduceBEq, Int.reduceBNe, Nat.reduceDiv, Nat.reducePow]
        repeat' apply And.intro
        rotate_right
        · refine endX [] ?_
          simp only [envLK, con0, conS, strsOf_arr, rowS_arr, strsOf_cells, rowS_cells, toS, strL_st, strL_d, strL_enc, strL_up, hpN_nil, hpN_cons, qt6, followsC, itoaC, tJoinC, ht, go_sem, reduceCtorEq, ↓reduceIte, Nat.reduceAdd, Nat.reduceMul, Nat.reduceSub, Nat.reduceEqDiff, Nat.reduceLT, Nat.reduceBEq, Nat.reduceBNe, Nat.reduceLeDiff, Int.reduceLE, Int.reduceLT, Int.reduceToNat, Int.reduceEq, Int.reduceAdd, UInt8.reduceToNat, UInt32.reduceToNat, UInt64.reduceToNat, UInt8.reduceOfNat, UInt32.reduceOfNat, UInt64.reduceOfNat, Fin.isValue, Int.reduceSub, Int.reduceMul, Int.reduceNeg, Int.reduceMod, Int.reduceDiv, Int.reduceTDiv, Int.reduceTMod, Int.reduceBEq, Int.reduceBNe, Nat.reduceDiv, Nat.reducePow]
          all_goals ((repeat' apply And.intro) <;> first | omega | exact rfl | exact id)
        all_goals first | omega | exact rfl | exact id
end Go.Proofs.YtgfcdkbbkgamnaaDoor
