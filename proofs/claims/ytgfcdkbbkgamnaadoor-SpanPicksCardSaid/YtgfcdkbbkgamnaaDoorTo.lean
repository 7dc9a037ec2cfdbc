/-
  Layer 14: what is picked of numbers are some of them, in their order.
-/
import Derived.Test.YtgfcdkbbkgamnaaDoorSz
import Derived.Test.YtgfcdkbbkgamnaaDoorTm
namespace Go.Proofs.YtgfcdkbbkgamnaaDoor
open Go Go.RowKit
set_option maxHeartbeats 4000000
set_option linter.unusedSimpArgs false
set_option linter.unusedVariables false
theorem hasF_star (k g : Int) : hasF [(0, 0)] k g = (k == g) := by
  have e : knw 0 g = g := rfl
  unfold hasF hasR
  simp only [List.any_cons, List.any_nil, Bool.or_false, e]
  rw [Bool.eq_iff_iff]
  simp only [Bool.and_eq_true, decide_eq_true_eq, beq_iff_eq]
  omega
def starL (ns : List Int) : List Int := pickL [(0, 0)] ns
theorem star_mem {ns : List Int} {k : Int} (h : k ∈ starL ns) : k = lastI ns := by
  have := (List.mem_filter.1 h).2
  rw [hasF_star] at this
  simpa using this
theorem star_pos {ns : List Int} (h : 0 < ns.length) : 0 < (starL ns).length := by
  refine List.length_pos_iff.2 fun e => ?_
  have hm : lastI ns ∈ ns := by
    unfold lastI
    rw [List.getD_eq_getElem?_getD, List.getElem?_eq_getElem (by omega)]
    exact List.getElem_mem _
  have : lastI ns ∈ starL ns := List.mem_filter.2 ⟨hm, by rw [hasF_star]; simp⟩
  rw [e] at this
  cases this
theorem star_at {ns : List Int} {m : Nat} (h : (starL ns).length = m + 1) : (starL ns).getD m 0 = lastI ns := by
  refine star_mem ?_
  rw [List.getD_eq_getElem?_getD, List.getElem?_eq_getElem (by omega)]
  exact List.getElem_mem _
structure SqX where
  i : Nat
  at' : Nat
def soInv (l : List Rng) (ns p : List Int) (j : Nat) (x : SqX) : St := ⟨[(1, .c (.one (.sl 1 0 1 ns.length))), (5, .c (.one (.sl 500 0 1 (j + 1)))), (6, .c (.one (.num x.at'))), (22, .c (.one (.sl 500 0 1 (j + 1)))), (23, .c (.one (.num (j + 1 : Nat)))), (24, .c (.one (.num x.i)))], [(0, ⟨.arr _ rngL l, false⟩), (1, ⟨.arr _ intL ns, false⟩), (500, ⟨.arr _ intL p, true⟩)]⟩
def siInv (l : List Rng) (ns p : List Int) (j i b : Nat) : St := ⟨[(1, .c (.one (.sl 1 0 1 ns.length))), (5, .c (.one (.sl 500 0 1 (j + 1)))), (6, .c (.one (.num b))), (8, .c (.one (.num (p.getD i 0)))), (22, .c (.one (.sl 500 0 1 (j + 1)))), (23, .c (.one (.num (j + 1 : Nat)))), (24, .c (.one (.num i)))], [(0, ⟨.arr _ rngL l, false⟩), (1, ⟨.arr _ intL ns, false⟩), (500, ⟨.arr _ intL p, true⟩)]⟩
def sqOk (l : List Rng) (ns : List Int) (x : SqX) : Prop := x.i ≤ (pickL l ns).length ∧ x.at' ≤ ns.length ∧ (ns.drop x.at').filter (pP l ns) = (pickL l ns).drop x.i
def siOk (l : List Rng) (ns : List Int) (i b : Nat) : Prop := b ≤ ns.length ∧ (ns.drop b).filter (pP l ns) = (pickL l ns).drop i
theorem drop_int {p : List Int} {i : Nat} (h : i < p.length) : p.drop i = p.getD i 0 :: p.drop (i + 1) := pk_drop h
theorem siOk_no {l : List Rng} {ns : List Int} {i b : Nat} (h : siOk l ns i b) (hi : i < (pickL l ns).length) (hb : b < ns.length) (hn : (ns.getD b 0 == (pickL l ns).getD i 0) = false) : siOk l ns i (b + 1) := by
  obtain ⟨h1, h2⟩ := h
  refine ⟨hb, ?_⟩
  rw [drop_int hi, pk_drop hb] at h2
  rw [drop_int hi]
  cases hp : pP l ns (ns.getD b 0) with
  | true =>
    rw [List.filter_cons_of_pos hp] at h2
    have := (List.cons.inj h2).1
    rw [this] at hn
    simp at hn
  | false =>
    rw [List.filter_cons_of_neg (by rw [hp]; decide)] at h2
    exact h2
theorem siOk_yes {l : List Rng} {ns : List Int} {i b : Nat} (h : siOk l ns i b) (hi : i < (pickL l ns).length) (hb : b < ns.length) (hn : (ns.getD b 0 == (pickL l ns).getD i 0) = true) : sqOk l ns ⟨i + 1, b + 1⟩ := by
  obtain ⟨h1, h2⟩ := h
  refine ⟨hi, hb, ?_⟩
  show (ns.drop (b + 1)).filter _ = (pickL l ns).drop (i + 1)
  rw [drop_int hi, pk_drop hb] at h2
  have hm : (pickL l ns).getD i 0 ∈ pickL l ns := by
    rw [List.getD_eq_getElem?_getD, List.getElem?_eq_getElem hi]; exact List.getElem_mem hi
  have hp : pP l ns (ns.getD b 0) = true := by
    rw [eq_of_beq hn]
    exact (List.mem_filter.1 hm).2
  rw [List.filter_cons_of_pos hp] at h2
  exact (List.cons.inj h2).2
theorem siOk_end {l : List Rng} {ns : List Int} {i b : Nat} (h : siOk l ns i b) (hi : i < (pickL l ns).length) (hb : ns.length ≤ b) : False := by
  obtain ⟨h1, h2⟩ := h
  rw [drop_int hi, List.drop_eq_nil_of_le hb] at h2
  cases h2
def qte : Nat → Option Con := fun f => match f with
  | 26 => some pickQC
  | 20 => some awake14C
  | _ => none
theorem qte_ok : GaOkG Tryd.prog GL qte := fun f con h => by
  unfold qte at h
  split at h
  · injection h with h; subst h; exact pickQC_ok
  · injection h with h; subst h; exact awake14C_ok
  · cases h
set_option maxRecDepth 100000 in
theorem lawPicks_tri (l : List Rng) (ns : List Int) : TriG Tryd.prog GL 7 [.one (.sl 0 0 2 l.length), .one (.sl 1 0 1 ns.length)] [(0, ⟨.arr _ rngL l, false⟩), (1, ⟨.arr _ intL ns, false⟩)] (.c (.one (.bo true))) [(0, ⟨.arr _ rngL l, false⟩), (1, ⟨.arr _ intL ns, false⟩)] := by
  refine tri_ofx (envLK_ok qte_ok 86 [0, 1]) Tryd.func7 rfl rfl (rs := [.tmp 4]) rfl rfl (by simp [envLK]) rfl ?_
  cases hb : decide ((100 : Int) < l.length) with
  | true =>
    simp only [envLK, con0, conS, strsOf_arr, rowS_arr, strsOf_cells, rowS_cells, toS, strL_st, strL_d, strL_enc, strL_up, hpN_nil, hpN_cons, qte, pickQC, awake14C, hb, go_sem, reduceCtorEq, ↓reduceIte, Nat.reduceAdd, Nat.reduceMul, Nat.reduceSub, Nat.reduceEqDiff, Nat.reduceLT, Nat.reduceBEq, Nat.reduceBNe, Nat.reduceLeDiff, Int.reduceLE, Int.reduceLT, Int.reduceToNat, Int.reduceEq, Int.reduceAdd, UInt8.reduceToNat, UInt32.reduceToNat, UInt64.reduceToNat, UInt8.reduceOfNat, UInt32.reduceOfNat, UInt64.reduceOfNat, Fin.isValue, Int.reduceSub, Int.reduceMul, Int.reduceNeg, Int.reduceMod, Int.reduceDiv, Int.reduceTDiv, Int.reduceTMod, Int.reduceBEq, Int.reduceBNe, Nat.reduceDiv, Nat.reducePow]
    refine endX [] ?_
    simp only [envLK, con0, conS, strsOf_arr, rowS_arr, strsOf_cells, rowS_cells, toS, strL_st, strL_d, strL_enc, strL_up, hpN_nil, hpN_cons, qte, pickQC, awake14C, go_sem, reduceCtorEq, ↓reduceIte, Nat.reduceAdd, Nat.reduceMul, Nat.reduceSub, Nat.reduceEqDiff, Nat.reduceLT, Nat.reduceBEq, Nat.reduceBNe, Nat.reduceLeDiff, Int.reduceLE, Int.reduceLT, Int.reduceToNat, Int.reduceEq, Int.reduceAdd, UInt8.reduceToNat, UInt32.reduceToNat, UInt64.reduceToNat, UInt8.reduceOfNat, UInt32.reduceOfNat, UInt64.reduceOfNat, Fin.isValue, Int.reduceSub, Int.reduceMul, Int.reduceNeg, Int.reduceMod, Int.reduceDiv, Int.reduceTDiv, Int.reduceTMod, Int.reduceBEq, Int.reduceBNe, Nat.reduceDiv, Nat.reducePow]
    all_goals ((repeat' apply And.intro) <;> first | omega | exact rfl | exact id)
  | false =>
    cases hb2 : decide ((100 : Int) < ns.length) with
    | true =>
      simp only [envLK, con0, conS, strsOf_arr, rowS_arr, strsOf_cells, rowS_cells, toS, strL_st, strL_d, strL_enc, strL_up, hpN_nil, hpN_cons, qte, pickQC, awake14C, hb, hb2, go_sem, reduceCtorEq, ↓reduceIte, Nat.reduceAdd, Nat.reduceMul, Nat.reduceSub, Nat.reduceEqDiff, Nat.reduceLT, Nat.reduceBEq, Nat.reduceBNe, Nat.reduceLeDiff, Int.reduceLE, Int.reduceLT, Int.reduceToNat, Int.reduceEq, Int.reduceAdd, UInt8.reduceToNat, UInt32.reduceToNat, UInt64.reduceToNat, UInt8.reduceOfNat, UInt32.reduceOfNat, UInt64.reduceOfNat, Fin.isValue, Int.reduceSub, Int.reduceMul, Int.reduceNeg, Int.reduceMod, Int.reduceDiv, Int.reduceTDiv, Int.reduceTMod, Int.reduceBEq, Int.reduceBNe, Nat.reduceDiv, Nat.reducePow]
      refine endX [] ?_
      simp only [envLK, con0, conS, strsOf_arr, rowS_arr, strsOf_cells, rowS_cells, toS, strL_st, strL_d, strL_enc, strL_up, hpN_nil, hpN_cons, qte, pickQC, awake14C, go_sem, reduceCtorEq, ↓reduceIte, Nat.reduceAdd, Nat.reduceMul, Nat.reduceSub, Nat.reduceEqDiff, Nat.reduceLT, Nat.reduceBEq, Nat.reduceBNe, Nat.reduceLeDiff, Int.reduceLE, Int.reduceLT, Int.reduceToNat, Int.reduceEq, Int.reduceAdd, UInt8.reduceToNat, UInt32.reduceToNat, UInt64.reduceToNat, UInt8.reduceOfNat, UInt32.reduceOfNat, UInt64.reduceOfNat, Fin.isValue, Int.reduceSub, Int.reduceMul, Int.reduceNeg, Int.reduceMod, Int.reduceDiv, Int.reduceTDiv, Int.reduceTMod, Int.reduceBEq, Int.reduceBNe, Nat.reduceDiv, Nat.reducePow]
      all_goals ((repeat' apply And.intro) <;> first | omega | exact rfl | exact id)
    | false =>
      have hl : l.length ≤ 100 := by have := of_decide_eq_false hb; omega
      have hn : ns.length ≤ 100 := by have := of_decide_eq_false hb2; omega
      have hl' : l.length ≤ 1048576 := by omega
      have hn' : ns.length ≤ 1048576 := by omega
      have hpl := pick_len l ns
      have hsl : (starL ns).length ≤ ns.length := pick_len _ ns
      have w1 : 0 < ns.length → IntKind.i64.wrap ((ns.length : Int) - 1) = ((ns.length - 1 : Nat) : Int) := fun h => by rw [IntKind.wrap_i64]; omega
      have eL : ns.getD (ns.length - 1) 0 = lastI ns := rfl
      have eS : pickL [(0, 0)] ns = starL ns := rfl
      cases hpe : (pickL l ns).isEmpty
      · -- something is picked
        obtain ⟨j, hj⟩ : ∃ j, (pickL l ns).length = j + 1 := by cases hc : pickL l ns with | nil => rw [hc] at hpe; cases hpe | cons a b => exact ⟨_, rfl⟩
        simp only [envLK, con0, conS, strsOf_arr, rowS_arr, strsOf_cells, rowS_cells, toS, strL_st, strL_d, strL_enc, strL_up, hpN_nil, hpN_cons, qte, pickQC, awake14C, conQ, pickQF, pickV, pickO, pairsOf_arr, rowP_arr, pairsOf_cells, rowP_cells, pairs, intsOf_arr, rowI_arr, hb, hb2, hpe, hj, hl', hn', Bool.false_eq_true, if_false, if_true, reduceIte, beq_self_eq_true, Bool.not_true, Bool.not_false, rngL_st, rngL_d, rngL_enc, intL_st, intL_d, intL_enc, go_sem, reduceCtorEq, ↓reduceIte, Nat.reduceAdd, Nat.reduceMul, Nat.reduceSub, Nat.reduceEqDiff, Nat.reduceLT, Nat.reduceBEq, Nat.reduceBNe, Nat.reduceLeDiff, Int.reduceLE, Int.reduceLT, Int.reduceToNat, Int.reduceEq, Int.reduceAdd, UInt8.reduceToNat, UInt32.reduceToNat, UInt64.reduceToNat, UInt8.reduceOfNat, UInt32.reduceOfNat, UInt64.reduceOfNat, Fin.isValue, Int.reduceSub, Int.reduceMul, Int.reduceNeg, Int.reduceMod, Int.reduceDiv, Int.reduceTDiv, Int.reduceTMod, Int.reduceBEq, Int.reduceBNe, Nat.reduceDiv, Nat.reducePow]
        (repeat' apply And.intro)
        rotate_right
        · refine loop_inv (envLK_ok qte_ok 86 [0, 1]) (soInv l ns (pickL l ns) j) (sqOk l ns) (fun x => j + 1 - x.i) ⟨0, 0⟩ [(500, 40016)] ⟨Nat.zero_le _, Nat.zero_le _, rfl⟩ ?_ ?_
          · simp only [soInv, hj, go_sem, reduceCtorEq, ↓reduceIte, Nat.reduceAdd, Nat.reduceMul, Nat.reduceSub, Nat.reduceEqDiff, Nat.reduceLT, Nat.reduceBEq, Nat.reduceBNe, Nat.reduceLeDiff, Int.reduceLE, Int.reduceLT, Int.reduceToNat, Int.reduceEq, Int.reduceAdd, UInt8.reduceToNat, UInt32.reduceToNat, UInt64.reduceToNat, UInt8.reduceOfNat, UInt32.reduceOfNat, UInt64.reduceOfNat, Fin.isValue, Int.reduceSub, Int.reduceMul, Int.reduceNeg, Int.reduceMod, Int.reduceDiv, Int.reduceTDiv, Int.reduceTMod, Int.reduceBEq, Int.reduceBNe, Nat.reduceDiv, Nat.reducePow]
            all_goals ((repeat' apply And.intro) <;> first | omega | exact rfl | exact id)
          · rintro ⟨i, a⟩ hx
            have hx1 : i ≤ j + 1 := by rw [← hj]; exact hx.1
            have hx2 : a ≤ ns.length := hx.2.1
            have hw : IntKind.i64.wrap ((i : Int) + 1) = ((i + 1 : Nat) : Int) := by rw [IntKind.wrap_i64]; omega
            simp only [envLK, con0, conS, strsOf_arr, rowS_arr, strsOf_cells, rowS_cells, toS, strL_st, strL_d, strL_enc, strL_up, hpN_nil, hpN_cons, qte, pickQC, awake14C, soInv, hj, go_sem, reduceCtorEq, ↓reduceIte, Nat.reduceAdd, Nat.reduceMul, Nat.reduceSub, Nat.reduceEqDiff, Nat.reduceLT, Nat.reduceBEq, Nat.reduceBNe, Nat.reduceLeDiff, Int.reduceLE, Int.reduceLT, Int.reduceToNat, Int.reduceEq, Int.reduceAdd, UInt8.reduceToNat, UInt32.reduceToNat, UInt64.reduceToNat, UInt8.reduceOfNat, UInt32.reduceOfNat, UInt64.reduceOfNat, Fin.isValue, Int.reduceSub, Int.reduceMul, Int.reduceNeg, Int.reduceMod, Int.reduceDiv, Int.reduceTDiv, Int.reduceTMod, Int.reduceBEq, Int.reduceBNe, Nat.reduceDiv, Nat.reducePow]
            refine br (fun h => ?_) fun h => ?_
            · have hlt0 : i < j + 1 := by have := of_decide_eq_true h; omega
              have hlt : i < (pickL l ns).length := by omega
              have hs0 : siOk l ns i a := ⟨hx2, hx.2.2⟩
              simp only [envLK, con0, conS, strsOf_arr, rowS_arr, strsOf_cells, rowS_cells, toS, strL_st, strL_d, strL_enc, strL_up, hpN_nil, hpN_cons, qte, pickQC, awake14C, h, hj, intL_st, intL_d, intL_enc, go_sem, reduceCtorEq, ↓reduceIte, Nat.reduceAdd, Nat.reduceMul, Nat.reduceSub, Nat.reduceEqDiff, Nat.reduceLT, Nat.reduceBEq, Nat.reduceBNe, Nat.reduceLeDiff, Int.reduceLE, Int.reduceLT, Int.reduceToNat, Int.reduceEq, Int.reduceAdd, UInt8.reduceToNat, UInt32.reduceToNat, UInt64.reduceToNat, UInt8.reduceOfNat, UInt32.reduceOfNat, UInt64.reduceOfNat, Fin.isValue, Int.reduceSub, Int.reduceMul, Int.reduceNeg, Int.reduceMod, Int.reduceDiv, Int.reduceTDiv, Int.reduceTMod, Int.reduceBEq, Int.reduceBNe, Nat.reduceDiv, Nat.reducePow]
              (repeat' apply And.intro)
              rotate_right
              · refine loop_inv (envLK_ok qte_ok 86 [0, 1]) (siInv l ns (pickL l ns) j i) (siOk l ns i) (fun b => ns.length - b) a [] hs0 ?_ ?_
                · simp only [siInv, hj, go_sem, reduceCtorEq, ↓reduceIte, Nat.reduceAdd, Nat.reduceMul, Nat.reduceSub, Nat.reduceEqDiff, Nat.reduceLT, Nat.reduceBEq, Nat.reduceBNe, Nat.reduceLeDiff, Int.reduceLE, Int.reduceLT, Int.reduceToNat, Int.reduceEq, Int.reduceAdd, UInt8.reduceToNat, UInt32.reduceToNat, UInt64.reduceToNat, UInt8.reduceOfNat, UInt32.reduceOfNat, UInt64.reduceOfNat, Fin.isValue, Int.reduceSub, Int.reduceMul, Int.reduceNeg, Int.reduceMod, Int.reduceDiv, Int.reduceTDiv, Int.reduceTMod, Int.reduceBEq, Int.reduceBNe, Nat.reduceDiv, Nat.reducePow]
                  all_goals ((repeat' apply And.intro) <;> first | omega | exact rfl | exact id)
                · intro b hb3
                  have hb1 : b ≤ ns.length := hb3.1
                  have hwb : IntKind.i64.wrap ((b : Int) + 1) = ((b + 1 : Nat) : Int) := by rw [IntKind.wrap_i64]; omega
                  simp only [envLK, con0, conS, strsOf_arr, rowS_arr, strsOf_cells, rowS_cells, toS, strL_st, strL_d, strL_enc, strL_up, hpN_nil, hpN_cons, qte, pickQC, awake14C, siInv, hj, go_sem, reduceCtorEq, ↓reduceIte, Nat.reduceAdd, Nat.reduceMul, Nat.reduceSub, Nat.reduceEqDiff, Nat.reduceLT, Nat.reduceBEq, Nat.reduceBNe, Nat.reduceLeDiff, Int.reduceLE, Int.reduceLT, Int.reduceToNat, Int.reduceEq, Int.reduceAdd, UInt8.reduceToNat, UInt32.reduceToNat, UInt64.reduceToNat, UInt8.reduceOfNat, UInt32.reduceOfNat, UInt64.reduceOfNat, Fin.isValue, Int.reduceSub, Int.reduceMul, Int.reduceNeg, Int.reduceMod, Int.reduceDiv, Int.reduceTDiv, Int.reduceTMod, Int.reduceBEq, Int.reduceBNe, Nat.reduceDiv, Nat.reducePow]
                  refine br (fun h3 => ?_) fun h3 => ?_
                  · have hbl : b < ns.length := by have := of_decide_eq_true h3; omega
                    cases hc : (ns.getD b 0 == (pickL l ns).getD i 0) with
                    | false =>
                      have hnx := siOk_no hb3 hlt hbl hc
                      simp only [envLK, con0, conS, strsOf_arr, rowS_arr, strsOf_cells, rowS_cells, toS, strL_st, strL_d, strL_enc, strL_up, hpN_nil, hpN_cons, qte, pickQC, awake14C, h3, hc, hwb, hj, Bool.not_false, intL_st, intL_d, intL_enc, go_sem, reduceCtorEq, ↓reduceIte, Nat.reduceAdd, Nat.reduceMul, Nat.reduceSub, Nat.reduceEqDiff, Nat.reduceLT, Nat.reduceBEq, Nat.reduceBNe, Nat.reduceLeDiff, Int.reduceLE, Int.reduceLT, Int.reduceToNat, Int.reduceEq, Int.reduceAdd, UInt8.reduceToNat, UInt32.reduceToNat, UInt64.reduceToNat, UInt8.reduceOfNat, UInt32.reduceOfNat, UInt64.reduceOfNat, Fin.isValue, Int.reduceSub, Int.reduceMul, Int.reduceNeg, Int.reduceMod, Int.reduceDiv, Int.reduceTDiv, Int.reduceTMod, Int.reduceBEq, Int.reduceBNe, Nat.reduceDiv, Nat.reducePow]
                      repeat' apply And.intro
                      rotate_right
                      · refine again (b + 1) [] hnx (by show ns.length - (b + 1) < ns.length - b; omega) ?_
                        simp only [siInv, hj, envLK, con0, conS, strsOf_arr, rowS_arr, strsOf_cells, rowS_cells, toS, strL_st, strL_d, strL_enc, strL_up, hpN_nil, hpN_cons, qte, pickQC, awake14C, go_sem, reduceCtorEq, ↓reduceIte, Nat.reduceAdd, Nat.reduceMul, Nat.reduceSub, Nat.reduceEqDiff, Nat.reduceLT, Nat.reduceBEq, Nat.reduceBNe, Nat.reduceLeDiff, Int.reduceLE, Int.reduceLT, Int.reduceToNat, Int.reduceEq, Int.reduceAdd, UInt8.reduceToNat, UInt32.reduceToNat, UInt64.reduceToNat, UInt8.reduceOfNat, UInt32.reduceOfNat, UInt64.reduceOfNat, Fin.isValue, Int.reduceSub, Int.reduceMul, Int.reduceNeg, Int.reduceMod, Int.reduceDiv, Int.reduceTDiv, Int.reduceTMod, Int.reduceBEq, Int.reduceBNe, Nat.reduceDiv, Nat.reducePow]
                        all_goals ((repeat' apply And.intro) <;> first | omega | exact rfl | exact id)
                      all_goals first | omega | exact rfl | exact id
                    | true =>
                      have hnx := siOk_yes hb3 hlt hbl hc
                      have hne : ((b : Int) == (ns.length : Int)) = false := beq_eq_false_iff_ne.2 (by omega)
                      simp only [envLK, con0, conS, strsOf_arr, rowS_arr, strsOf_cells, rowS_cells, toS, strL_st, strL_d, strL_enc, strL_up, hpN_nil, hpN_cons, qte, pickQC, awake14C, h3, hc, hw, hwb, hne, hj, Bool.not_true, intL_st, intL_d, intL_enc, go_sem, reduceCtorEq, ↓reduceIte, Nat.reduceAdd, Nat.reduceMul, Nat.reduceSub, Nat.reduceEqDiff, Nat.reduceLT, Nat.reduceBEq, Nat.reduceBNe, Nat.reduceLeDiff, Int.reduceLE, Int.reduceLT, Int.reduceToNat, Int.reduceEq, Int.reduceAdd, UInt8.reduceToNat, UInt32.reduceToNat, UInt64.reduceToNat, UInt8.reduceOfNat, UInt32.reduceOfNat, UInt64.reduceOfNat, Fin.isValue, Int.reduceSub, Int.reduceMul, Int.reduceNeg, Int.reduceMod, Int.reduceDiv, Int.reduceTDiv, Int.reduceTMod, Int.reduceBEq, Int.reduceBNe, Nat.reduceDiv, Nat.reducePow]
                      repeat' apply And.intro
                      rotate_right
                      · refine again ⟨i + 1, b + 1⟩ [] hnx (by show j + 1 - (i + 1) < j + 1 - i; omega) ?_
                        simp only [soInv, hj, envLK, con0, conS, strsOf_arr, rowS_arr, strsOf_cells, rowS_cells, toS, strL_st, strL_d, strL_enc, strL_up, hpN_nil, hpN_cons, qte, pickQC, awake14C, go_sem, reduceCtorEq, ↓reduceIte, Nat.reduceAdd, Nat.reduceMul, Nat.reduceSub, Nat.reduceEqDiff, Nat.reduceLT, Nat.reduceBEq, Nat.reduceBNe, Nat.reduceLeDiff, Int.reduceLE, Int.reduceLT, Int.reduceToNat, Int.reduceEq, Int.reduceAdd, UInt8.reduceToNat, UInt32.reduceToNat, UInt64.reduceToNat, UInt8.reduceOfNat, UInt32.reduceOfNat, UInt64.reduceOfNat, Fin.isValue, Int.reduceSub, Int.reduceMul, Int.reduceNeg, Int.reduceMod, Int.reduceDiv, Int.reduceTDiv, Int.reduceTMod, Int.reduceBEq, Int.reduceBNe, Nat.reduceDiv, Nat.reducePow]
                        all_goals ((repeat' apply And.intro) <;> first | omega | exact rfl | exact id)
                      all_goals first | omega | exact rfl | exact id
                  · exact (siOk_end hb3 hlt (by have := of_decide_eq_false h3; omega)).elim
              all_goals first | omega | exact rfl | exact id | trivial
            · -- behind it
              have hz : 0 < ns.length := by omega
              obtain ⟨m, hm⟩ : ∃ m, (starL ns).length = m + 1 := ⟨(starL ns).length - 1, by have := star_pos hz; omega⟩
              have hse : (starL ns).isEmpty = false := by cases hc : starL ns with | nil => rw [hc] at hm; cases hm | cons _ _ => rfl
              have hzb : ((ns.length : Int) == 0) = false := beq_eq_false_iff_ne.2 (by omega)
              have hsa := star_at hm
              have w1 := w1 hz
              have w2 : IntKind.i64.wrap (((m + 1 : Nat) : Int) - 1) = ((m : Nat) : Int) := by rw [IntKind.wrap_i64]; omega
              have hgt : decide ((0 : Int) < ((m + 1 : Nat) : Int)) = true := decide_eq_true (by omega)
              have hg1 : (0 : Int) ≤ ((ns.length - 1 : Nat) : Int) ∧ ((ns.length - 1 : Nat) : Int) < (ns.length : Int) := ⟨by omega, by omega⟩
              have hg2 : (0 : Int) ≤ ((m : Nat) : Int) ∧ ((m : Nat) : Int) < ((m + 1 : Nat) : Int) := ⟨by omega, by omega⟩
              simp only [envLK, con0, conS, strsOf_arr, rowS_arr, strsOf_cells, rowS_cells, toS, strL_st, strL_d, strL_enc, strL_up, hpN_nil, hpN_cons, qte, pickQC, awake14C, conQ, pickQF, pickV, pickO, pairsOf_arr, rowP_arr, pairsOf_cells, rowP_cells, pairs, intsOf_arr, rowI_arr, hb, hb2, hpe, eS, hse, hzb, hm, hsa, w1, w2, eL, hgt, hg1, hg2, h, hj, hl', hn', Bool.false_eq_true, if_false, if_true, reduceIte, beq_self_eq_true, Bool.not_true, Bool.not_false, rngL_st, rngL_d, rngL_enc, intL_st, intL_d, intL_enc, go_sem, reduceCtorEq, ↓reduceIte, Nat.reduceAdd, Nat.reduceMul, Nat.reduceSub, Nat.reduceEqDiff, Nat.reduceLT, Nat.reduceBEq, Nat.reduceBNe, Nat.reduceLeDiff, Int.reduceLE, Int.reduceLT, Int.reduceToNat, Int.reduceEq, Int.reduceAdd, UInt8.reduceToNat, UInt32.reduceToNat, UInt64.reduceToNat, UInt8.reduceOfNat, UInt32.reduceOfNat, UInt64.reduceOfNat, Fin.isValue, Int.reduceSub, Int.reduceMul, Int.reduceNeg, Int.reduceMod, Int.reduceDiv, Int.reduceTDiv, Int.reduceTMod, Int.reduceBEq, Int.reduceBNe, Nat.reduceDiv, Nat.reducePow]
              repeat' apply And.intro
              rotate_right
              · refine endX [] ?_
                simp only [envLK, con0, conS, strsOf_arr, rowS_arr, strsOf_cells, rowS_cells, toS, strL_st, strL_d, strL_enc, strL_up, hpN_nil, hpN_cons, qte, pickQC, awake14C, go_sem, reduceCtorEq, ↓reduceIte, Nat.reduceAdd, Nat.reduceMul, Nat.reduceSub, Nat.reduceEqDiff, Nat.reduceLT, Nat.reduceBEq, Nat.reduceBNe, Nat.reduceLeDiff, Int.reduceLE, Int.reduceLT, Int.reduceToNat, Int.reduceEq, Int.reduceAdd, UInt8.reduceToNat, UInt32.reduceToNat, UInt64.reduceToNat, UInt8.reduceOfNat, UInt32.reduceOfNat, UInt64.reduceOfNat, Fin.isValue, Int.reduceSub, Int.reduceMul, Int.reduceNeg, Int.reduceMod, Int.reduceDiv, Int.reduceTDiv, Int.reduceTMod, Int.reduceBEq, Int.reduceBNe, Nat.reduceDiv, Nat.reducePow]
                all_goals ((repeat' apply And.intro) <;> first | omega | exact rfl | exact id)
              all_goals first | omega | exact rfl | exact id
        all_goals first | omega | exact rfl | exact id | trivial
      · -- nothing is picked
        rcases Nat.eq_zero_or_pos ns.length with hz | hz
        · have hns : ns = [] := List.eq_nil_of_length_eq_zero hz
          have hse : (starL ns).isEmpty = true := by rw [hns]; rfl
          have hzb : ((ns.length : Int) == 0) = true := by rw [hz]; rfl
          simp only [envLK, con0, conS, strsOf_arr, rowS_arr, strsOf_cells, rowS_cells, toS, strL_st, strL_d, strL_enc, strL_up, hpN_nil, hpN_cons, qte, pickQC, awake14C, conQ, pickQF, pickV, pickO, pairsOf_arr, rowP_arr, pairsOf_cells, rowP_cells, pairs, intsOf_arr, rowI_arr, hb, hb2, hpe, eS, hse, hzb, hl', hn', Bool.false_eq_true, if_false, if_true, reduceIte, beq_self_eq_true, Bool.not_true, Bool.not_false, rngL_st, rngL_d, rngL_enc, intL_st, intL_d, intL_enc, go_sem, reduceCtorEq, ↓reduceIte, Nat.reduceAdd, Nat.reduceMul, Nat.reduceSub, Nat.reduceEqDiff, Nat.reduceLT, Nat.reduceBEq, Nat.reduceBNe, Nat.reduceLeDiff, Int.reduceLE, Int.reduceLT, Int.reduceToNat, Int.reduceEq, Int.reduceAdd, UInt8.reduceToNat, UInt32.reduceToNat, UInt64.reduceToNat, UInt8.reduceOfNat, UInt32.reduceOfNat, UInt64.reduceOfNat, Fin.isValue, Int.reduceSub, Int.reduceMul, Int.reduceNeg, Int.reduceMod, Int.reduceDiv, Int.reduceTDiv, Int.reduceTMod, Int.reduceBEq, Int.reduceBNe, Nat.reduceDiv, Nat.reducePow]
          (repeat' apply And.intro)
          rotate_right
          · refine loop_rounds (envLK_ok qte_ok 86 [0, 1]) 2 ?_
            simp only [envLK, con0, conS, strsOf_arr, rowS_arr, strsOf_cells, rowS_cells, toS, strL_st, strL_d, strL_enc, strL_up, hpN_nil, hpN_cons, qte, pickQC, awake14C, conQ, pickQF, pickV, pickO, pairsOf_arr, rowP_arr, pairsOf_cells, rowP_cells, pairs, intsOf_arr, rowI_arr, hb, hb2, hpe, eS, hse, hzb, hl', hn', Bool.false_eq_true, if_false, if_true, reduceIte, beq_self_eq_true, Bool.not_true, Bool.not_false, rngL_st, rngL_d, rngL_enc, intL_st, intL_d, intL_enc, go_sem, reduceCtorEq, ↓reduceIte, Nat.reduceAdd, Nat.reduceMul, Nat.reduceSub, Nat.reduceEqDiff, Nat.reduceLT, Nat.reduceBEq, Nat.reduceBNe, Nat.reduceLeDiff, Int.reduceLE, Int.reduceLT, Int.reduceToNat, Int.reduceEq, Int.reduceAdd, UInt8.reduceToNat, UInt32.reduceToNat, UInt64.reduceToNat, UInt8.reduceOfNat, UInt32.reduceOfNat, UInt64.reduceOfNat, Fin.isValue, Int.reduceSub, Int.reduceMul, Int.reduceNeg, Int.reduceMod, Int.reduceDiv, Int.reduceTDiv, Int.reduceTMod, Int.reduceBEq, Int.reduceBNe, Nat.reduceDiv, Nat.reducePow]
            repeat' apply And.intro
            rotate_right
            · refine endX [] ?_
              simp only [envLK, con0, conS, strsOf_arr, rowS_arr, strsOf_cells, rowS_cells, toS, strL_st, strL_d, strL_enc, strL_up, hpN_nil, hpN_cons, qte, pickQC, awake14C, go_sem, reduceCtorEq, ↓reduceIte, Nat.reduceAdd, Nat.reduceMul, Nat.reduceSub, Nat.reduceEqDiff, Nat.reduceLT, Nat.reduceBEq, Nat.reduceBNe, Nat.reduceLeDiff, Int.reduceLE, Int.reduceLT, Int.reduceToNat, Int.reduceEq, Int.reduceAdd, UInt8.reduceToNat, UInt32.reduceToNat, UInt64.reduceToNat, UInt8.reduceOfNat, UInt32.reduceOfNat, UInt64.reduceOfNat, Fin.isValue, Int.reduceSub, Int.reduceMul, Int.reduceNeg, Int.reduceMod, Int.reduceDiv, Int.reduceTDiv, Int.reduceTMod, Int.reduceBEq, Int.reduceBNe, Nat.reduceDiv, Nat.reducePow]
              all_goals ((repeat' apply And.intro) <;> first | omega | exact rfl | exact id)
            all_goals first | omega | exact rfl | exact id
          all_goals first | omega | exact rfl | exact id | trivial
        · obtain ⟨m, hm⟩ : ∃ m, (starL ns).length = m + 1 := ⟨(starL ns).length - 1, by have := star_pos hz; omega⟩
          have hse : (starL ns).isEmpty = false := by cases hc : starL ns with | nil => rw [hc] at hm; cases hm | cons _ _ => rfl
          have hzb : ((ns.length : Int) == 0) = false := beq_eq_false_iff_ne.2 (by omega)
          have hsa := star_at hm
          have w1 := w1 hz
          have w2 : IntKind.i64.wrap (((m + 1 : Nat) : Int) - 1) = ((m : Nat) : Int) := by rw [IntKind.wrap_i64]; omega
          have hgt : decide ((0 : Int) < ((m + 1 : Nat) : Int)) = true := decide_eq_true (by omega)
          have hg1 : (0 : Int) ≤ ((ns.length - 1 : Nat) : Int) ∧ ((ns.length - 1 : Nat) : Int) < (ns.length : Int) := ⟨by omega, by omega⟩
          have hg2 : (0 : Int) ≤ ((m : Nat) : Int) ∧ ((m : Nat) : Int) < ((m + 1 : Nat) : Int) := ⟨by omega, by omega⟩
          simp only [envLK, con0, conS, strsOf_arr, rowS_arr, strsOf_cells, rowS_cells, toS, strL_st, strL_d, strL_enc, strL_up, hpN_nil, hpN_cons, qte, pickQC, awake14C, conQ, pickQF, pickV, pickO, pairsOf_arr, rowP_arr, pairsOf_cells, rowP_cells, pairs, intsOf_arr, rowI_arr, hb, hb2, hpe, eS, hse, hzb, hm, hsa, w1, w2, eL, hgt, hg1, hg2, hl', hn', Bool.false_eq_true, if_false, if_true, reduceIte, beq_self_eq_true, Bool.not_true, Bool.not_false, rngL_st, rngL_d, rngL_enc, intL_st, intL_d, intL_enc, go_sem, reduceCtorEq, ↓reduceIte, Nat.reduceAdd, Nat.reduceMul, Nat.reduceSub, Nat.reduceEqDiff, Nat.reduceLT, Nat.reduceBEq, Nat.reduceBNe, Nat.reduceLeDiff, Int.reduceLE, Int.reduceLT, Int.reduceToNat, Int.reduceEq, Int.reduceAdd, UInt8.reduceToNat, UInt32.reduceToNat, UInt64.reduceToNat, UInt8.reduceOfNat, UInt32.reduceOfNat, UInt64.reduceOfNat, Fin.isValue, Int.reduceSub, Int.reduceMul, Int.reduceNeg, Int.reduceMod, Int.reduceDiv, Int.reduceTDiv, Int.reduceTMod, Int.reduceBEq, Int.reduceBNe, Nat.reduceDiv, Nat.reducePow]
          (repeat' apply And.intro)
          rotate_right
          · refine loop_rounds (envLK_ok qte_ok 86 [0, 1]) 2 ?_
            simp only [envLK, con0, conS, strsOf_arr, rowS_arr, strsOf_cells, rowS_cells, toS, strL_st, strL_d, strL_enc, strL_up, hpN_nil, hpN_cons, qte, pickQC, awake14C, conQ, pickQF, pickV, pickO, pairsOf_arr, rowP_arr, pairsOf_cells, rowP_cells, pairs, intsOf_arr, rowI_arr, hb, hb2, hpe, eS, hse, hzb, hm, hsa, w1, w2, eL, hgt, hg1, hg2, hl', hn', Bool.false_eq_true, if_false, if_true, reduceIte, beq_self_eq_true, Bool.not_true, Bool.not_false, rngL_st, rngL_d, rngL_enc, intL_st, intL_d, intL_enc, go_sem, reduceCtorEq, ↓reduceIte, Nat.reduceAdd, Nat.reduceMul, Nat.reduceSub, Nat.reduceEqDiff, Nat.reduceLT, Nat.reduceBEq, Nat.reduceBNe, Nat.reduceLeDiff, Int.reduceLE, Int.reduceLT, Int.reduceToNat, Int.reduceEq, Int.reduceAdd, UInt8.reduceToNat, UInt32.reduceToNat, UInt64.reduceToNat, UInt8.reduceOfNat, UInt32.reduceOfNat, UInt64.reduceOfNat, Fin.isValue, Int.reduceSub, Int.reduceMul, Int.reduceNeg, Int.reduceMod, Int.reduceDiv, Int.reduceTDiv, Int.reduceTMod, Int.reduceBEq, Int.reduceBNe, Nat.reduceDiv, Nat.reducePow]
            repeat' apply And.intro
            rotate_right
            · refine endX [] ?_
              simp only [envLK, con0, conS, strsOf_arr, rowS_arr, strsOf_cells, rowS_cells, toS, strL_st, strL_d, strL_enc, strL_up, hpN_nil, hpN_cons, qte, pickQC, awake14C, go_sem, reduceCtorEq, ↓reduceIte, Nat.reduceAdd, Nat.reduceMul, Nat.reduceSub, Nat.reduceEqDiff, Nat.reduceLT, Nat.reduceBEq, Nat.reduceBNe, Nat.reduceLeDiff, Int.reduceLE, Int.reduceLT, Int.reduceToNat, Int.reduceEq, Int.reduceAdd, UInt8.reduceToNat, UInt32.reduceToNat, UInt64.reduceToNat, UInt8.reduceOfNat, UInt32.reduceOfNat, UInt64.reduceOfNat, Fin.isValue, Int.reduceSub, Int.reduceMul, Int.reduceNeg, Int.reduceMod, Int.reduceDiv, Int.reduceTDiv, Int.reduceTMod, Int.reduceBEq, Int.reduceBNe, Nat.reduceDiv, Nat.reducePow]
              all_goals ((repeat' apply And.intro) <;> first | omega | exact rfl | exact id)
            all_goals first | omega | exact rfl | exact id
          all_goals first | omega | exact rfl | exact id | trivial
theorem spanPicks_law (w : World) {v0 v1 : Value} (l : List Rng) (p : Option (Blk × Nat)) (ha : ArgR w (.arr _ rngL l) 2 l.length v0 p) (hl : l.length ≤ maxLen) (hq : ∀ x ∈ l, (Lit.int .i64 x.1).wf = true ∧ (Lit.int .i64 x.2).wf = true)
    (ns : List Int) (p1 : Option (Blk × Nat)) (ha1 : ArgR w (.arr _ intL ns) 1 ns.length v1 p1) (hl1 : ns.length ≤ maxLen) (hq1 : ∀ x ∈ ns, (Lit.int .i64 x).wf = true) (hg : ∀ f ∈ GL, f.p w) :
    Calls Tryd.prog 7 #[v0, v1] w fun e w' => e = .returned (.bool true) ∧ Below w.heap.size w w' := by
  refine (tri_callsR (os := [.arr _ rngL l, .arr _ intL ns]) (lawPicks_tri l ns) w [p, p1] rfl (fun i o q h1 h2 r => ?_) (vals := [v0, v1]) ⟨ha.rel _ 0 rfl, ha1.rel _ 1 rfl, trivial⟩ hg).mono ?_
  · match i with
    | 0 => simp at h1 h2; subst h1; subst h2; exact ha.obj r
    | 1 => simp at h1 h2; subst h1; subst h2; exact ha1.obj r
    | i + 2 => simp at h1
  · rintro e w' ⟨u, r', rfl, hr, hb⟩
    exact ⟨by rw [show u = .bool true from hr], hb⟩
end Go.Proofs.YtgfcdkbbkgamnaaDoor
