/-
  Layer 8: classes, and what is padded.
-/
import Derived.Test.YtemlbokoaohckaaDoorSz
import Derived.Test.YtemlbokoaohckaaDoorSz
import Derived.Test.YtemlbokoaohckaaDoorRs
import Derived.Test.YtemlbokoaohckaaDoorGf
import Derived.Test.YtemlbokoaohckaaDoorShg
namespace Go.Proofs.YtemlbokoaohckaaDoor
open Go Go.RowKit Go.Proofs
set_option maxHeartbeats 4000000
set_option linter.unusedSimpArgs false
set_option linter.unusedVariables false
def GN : List GFact := []
noncomputable def envN (ga : Nat → Option Con) (nt : Nat) : Env := ⟨ty, ga, [], nt, [], GN⟩
theorem envN_ok {ga : Nat → Option Con} (h : GaOkG Tryd.prog GN ga) (nt : Nat) : EnvOk Tryd.prog (envN ga nt) := ⟨ty_ok, h, by first | rfl | decide⟩
noncomputable def envNK (ga : Nat → Option Con) (nt : Nat) (keys : List Nat) : Env := ⟨ty, ga, [], nt, keys, GN⟩
theorem envNK_ok {ga : Nat → Option Con} (h : GaOkG Tryd.prog GN ga) (nt : Nat) (keys : List Nat) : EnvOk Tryd.prog (envNK ga nt keys) := ⟨ty_ok, h, by first | rfl | decide⟩
theorem gn_all {W : World} {p q : Prop} (_ : p) (_ : q) : ∀ f ∈ GN, f.p W := fun f hf => by cases hf
/-- The class of a number of bytes. -/
def cls (n : Int) : Int := if n < 0 then 0 else if 700 < n then 0 else if n ≤ 126 then 128 else if n ≤ 254 then 256 else if n ≤ 510 then 512 else 704
def gna : Nat → Option Con := fun f => match f with
  | _ => none
theorem gna_ok : GaOkG Tryd.prog GN gna := fun f con h => by
  unfold gna at h
  split at h
  · cases h
set_option maxRecDepth 100000 in
theorem class_tri (n : Int) : TriG Tryd.prog GN 8 [.one (.num n)] [] (.c (.one (.num (cls n)))) [] := by
  refine tri_ofx (envNK_ok gna_ok 21 []) Tryd.func8 rfl rfl (rs := [.tmp 2]) rfl rfl (by simp [envNK]) rfl ?_
  cases h0 : decide (n < 0) with
  | true =>
    have hv : cls n = 0 := by unfold cls; rw [if_pos (of_decide_eq_true h0)]
    simp only [envNK, con0, conS, strsOf_arr, rowS_arr, strsOf_cells, rowS_cells, toS, strL_st, strL_d, strL_enc, strL_up, hpN_nil, hpN_cons, gna, h0, hv, go_sem, reduceCtorEq, ↓reduceIte, Nat.reduceAdd, Nat.reduceMul, Nat.reduceSub, Nat.reduceEqDiff, Nat.reduceLT, Nat.reduceBEq, Nat.reduceBNe, Nat.reduceLeDiff, Int.reduceLE, Int.reduceLT, Int.reduceToNat, Int.reduceEq, Int.reduceAdd, UInt8.reduceToNat, UInt32.reduceToNat, UInt64.reduceToNat, UInt8.reduceOfNat, UInt32.reduceOfNat, UInt64.reduceOfNat, Fin.isValue, Int.reduceSub, Int.reduceMul, Int.reduceNeg, Int.reduceMod, Int.reduceDiv, Int.reduceTDiv, Int.reduceTMod, Int.reduceBEq, Int.reduceBNe, Nat.reduceDiv, Nat.reducePow]
    repeat' apply And.intro
    rotate_right
    · refine endX [] ?_
      simp only [envNK, con0, conS, strsOf_arr, rowS_arr, strsOf_cells, rowS_cells, toS, strL_st, strL_d, strL_enc, strL_up, hpN_nil, hpN_cons, gna, hv, go_sem, reduceCtorEq, ↓reduceIte, Nat.reduceAdd, Nat.reduceMul, Nat.reduceSub, Nat.reduceEqDiff, Nat.reduceLT, Nat.reduceBEq, Nat.reduceBNe, Nat.reduceLeDiff, Int.reduceLE, Int.reduceLT, Int.reduceToNat, Int.reduceEq, Int.reduceAdd, UInt8.reduceToNat, UInt32.reduceToNat, UInt64.reduceToNat, UInt8.reduceOfNat, UInt32.reduceOfNat, UInt64.reduceOfNat, Fin.isValue, Int.reduceSub, Int.reduceMul, Int.reduceNeg, Int.reduceMod, Int.reduceDiv, Int.reduceTDiv, Int.reduceTMod, Int.reduceBEq, Int.reduceBNe, Nat.reduceDiv, Nat.reducePow]
    all_goals first | omega | exact rfl | exact id
  | false =>
    cases h1 : decide (700 < n) with
    | true =>
      have hv : cls n = 0 := by unfold cls; rw [if_neg (of_decide_eq_false h0), if_pos (of_decide_eq_true h1)]
      simp only [envNK, con0, conS, strsOf_arr, rowS_arr, strsOf_cells, rowS_cells, toS, strL_st, strL_d, strL_enc, strL_up, hpN_nil, hpN_cons, gna, h0, h1, hv, go_sem, reduceCtorEq, ↓reduceIte, Nat.reduceAdd, Nat.reduceMul, Nat.reduceSub, Nat.reduceEqDiff, Nat.reduceLT, Nat.reduceBEq, Nat.reduceBNe, Nat.reduceLeDiff, Int.reduceLE, Int.reduceLT, Int.reduceToNat, Int.reduceEq, Int.reduceAdd, UInt8.reduceToNat, UInt32.reduceToNat, UInt64.reduceToNat, UInt8.reduceOfNat, UInt32.reduceOfNat, UInt64.reduceOfNat, Fin.isValue, Int.reduceSub, Int.reduceMul, Int.reduceNeg, Int.reduceMod, Int.reduceDiv, Int.reduceTDiv, Int.reduceTMod, Int.reduceBEq, Int.reduceBNe, Nat.reduceDiv, Nat.reducePow]
      repeat' apply And.intro
      rotate_right
      · refine endX [] ?_
        simp only [envNK, con0, conS, strsOf_arr, rowS_arr, strsOf_cells, rowS_cells, toS, strL_st, strL_d, strL_enc, strL_up, hpN_nil, hpN_cons, gna, hv, go_sem, reduceCtorEq, ↓reduceIte, Nat.reduceAdd, Nat.reduceMul, Nat.reduceSub, Nat.reduceEqDiff, Nat.reduceLT, Nat.reduceBEq, Nat.reduceBNe, Nat.reduceLeDiff, Int.reduceLE, Int.reduceLT, Int.reduceToNat, Int.reduceEq, Int.reduceAdd, UInt8.reduceToNat, UInt32.reduceToNat, UInt64.reduceToNat, UInt8.reduceOfNat, UInt32.reduceOfNat, UInt64.reduceOfNat, Fin.isValue, Int.reduceSub, Int.reduceMul, Int.reduceNeg, Int.reduceMod, Int.reduceDiv, Int.reduceTDiv, Int.reduceTMod, Int.reduceBEq, Int.reduceBNe, Nat.reduceDiv, Nat.reducePow]
      all_goals first | omega | exact rfl | exact id
    | false =>
      have i0 := of_decide_eq_false h0
      have i1 := of_decide_eq_false h1
      have hw : IntKind.i64.wrap (2 + n) = 2 + n := by rw [IntKind.wrap_i64]; omega
      have hv0 : cls n = if n ≤ 126 then 128 else if n ≤ 254 then 256 else if n ≤ 510 then 512 else 704 := by unfold cls; rw [if_neg i0, if_neg i1]
      have q1 : decide (2 + n ≤ 128) = decide (n ≤ 126) := decide_eq_decide.2 (by omega)
      have q2 : decide (2 + n ≤ 256) = decide (n ≤ 254) := decide_eq_decide.2 (by omega)
      have q3 : decide (2 + n ≤ 512) = decide (n ≤ 510) := decide_eq_decide.2 (by omega)
      simp only [envNK, con0, conS, strsOf_arr, rowS_arr, strsOf_cells, rowS_cells, toS, strL_st, strL_d, strL_enc, strL_up, hpN_nil, hpN_cons, gna, h0, h1, hw, go_sem, reduceCtorEq, ↓reduceIte, Nat.reduceAdd, Nat.reduceMul, Nat.reduceSub, Nat.reduceEqDiff, Nat.reduceLT, Nat.reduceBEq, Nat.reduceBNe, Nat.reduceLeDiff, Int.reduceLE, Int.reduceLT, Int.reduceToNat, Int.reduceEq, Int.reduceAdd, UInt8.reduceToNat, UInt32.reduceToNat, UInt64.reduceToNat, UInt8.reduceOfNat, UInt32.reduceOfNat, UInt64.reduceOfNat, Fin.isValue, Int.reduceSub, Int.reduceMul, Int.reduceNeg, Int.reduceMod, Int.reduceDiv, Int.reduceTDiv, Int.reduceTMod, Int.reduceBEq, Int.reduceBNe, Nat.reduceDiv, Nat.reducePow]
      refine loop_rounds (envNK_ok gna_ok 21 []) 4 ?_
      cases c1 : decide (n ≤ 126) with
      | true =>
        have hv : cls n = 128 := by rw [hv0, if_pos (of_decide_eq_true c1)]
        simp only [envNK, con0, conS, strsOf_arr, rowS_arr, strsOf_cells, rowS_cells, toS, strL_st, strL_d, strL_enc, strL_up, hpN_nil, hpN_cons, gna, hw, q1, c1, hv, go_sem, reduceCtorEq, ↓reduceIte, Nat.reduceAdd, Nat.reduceMul, Nat.reduceSub, Nat.reduceEqDiff, Nat.reduceLT, Nat.reduceBEq, Nat.reduceBNe, Nat.reduceLeDiff, Int.reduceLE, Int.reduceLT, Int.reduceToNat, Int.reduceEq, Int.reduceAdd, UInt8.reduceToNat, UInt32.reduceToNat, UInt64.reduceToNat, UInt8.reduceOfNat, UInt32.reduceOfNat, UInt64.reduceOfNat, Fin.isValue, Int.reduceSub, Int.reduceMul, Int.reduceNeg, Int.reduceMod, Int.reduceDiv, Int.reduceTDiv, Int.reduceTMod, Int.reduceBEq, Int.reduceBNe, Nat.reduceDiv, Nat.reducePow]
        repeat' apply And.intro
        rotate_right
        · refine endX [] ?_
          simp only [envNK, con0, conS, strsOf_arr, rowS_arr, strsOf_cells, rowS_cells, toS, strL_st, strL_d, strL_enc, strL_up, hpN_nil, hpN_cons, gna, hv, go_sem, reduceCtorEq, ↓reduceIte, Nat.reduceAdd, Nat.reduceMul, Nat.reduceSub, Nat.reduceEqDiff, Nat.reduceLT, Nat.reduceBEq, Nat.reduceBNe, Nat.reduceLeDiff, Int.reduceLE, Int.reduceLT, Int.reduceToNat, Int.reduceEq, Int.reduceAdd, UInt8.reduceToNat, UInt32.reduceToNat, UInt64.reduceToNat, UInt8.reduceOfNat, UInt32.reduceOfNat, UInt64.reduceOfNat, Fin.isValue, Int.reduceSub, Int.reduceMul, Int.reduceNeg, Int.reduceMod, Int.reduceDiv, Int.reduceTDiv, Int.reduceTMod, Int.reduceBEq, Int.reduceBNe, Nat.reduceDiv, Nat.reducePow]
        all_goals first | omega | exact rfl | exact id
      | false =>
        cases c2 : decide (n ≤ 254) with
        | true =>
          have hv : cls n = 256 := by rw [hv0, if_neg (of_decide_eq_false c1), if_pos (of_decide_eq_true c2)]
          simp only [envNK, con0, conS, strsOf_arr, rowS_arr, strsOf_cells, rowS_cells, toS, strL_st, strL_d, strL_enc, strL_up, hpN_nil, hpN_cons, gna, hw, q1, q2, c1, c2, hv, go_sem, reduceCtorEq, ↓reduceIte, Nat.reduceAdd, Nat.reduceMul, Nat.reduceSub, Nat.reduceEqDiff, Nat.reduceLT, Nat.reduceBEq, Nat.reduceBNe, Nat.reduceLeDiff, Int.reduceLE, Int.reduceLT, Int.reduceToNat, Int.reduceEq, Int.reduceAdd, UInt8.reduceToNat, UInt32.reduceToNat, UInt64.reduceToNat, UInt8.reduceOfNat, UInt32.reduceOfNat, UInt64.reduceOfNat, Fin.isValue, Int.reduceSub, Int.reduceMul, Int.reduceNeg, Int.reduceMod, Int.reduceDiv, Int.reduceTDiv, Int.reduceTMod, Int.reduceBEq, Int.reduceBNe, Nat.reduceDiv, Nat.reducePow]
          repeat' apply And.intro
          rotate_right
          · refine endX [] ?_
            simp only [envNK, con0, conS, strsOf_arr, rowS_arr, strsOf_cells, rowS_cells, toS, strL_st, strL_d, strL_enc, strL_up, hpN_nil, hpN_cons, gna, hv, go_sem, reduceCtorEq, ↓reduceIte, Nat.reduceAdd, Nat.reduceMul, Nat.reduceSub, Nat.reduceEqDiff, Nat.reduceLT, Nat.reduceBEq, Nat.reduceBNe, Nat.reduceLeDiff, Int.reduceLE, Int.reduceLT, Int.reduceToNat, Int.reduceEq, Int.reduceAdd, UInt8.reduceToNat, UInt32.reduceToNat, UInt64.reduceToNat, UInt8.reduceOfNat, UInt32.reduceOfNat, UInt64.reduceOfNat, Fin.isValue, Int.reduceSub, Int.reduceMul, Int.reduceNeg, Int.reduceMod, Int.reduceDiv, Int.reduceTDiv, Int.reduceTMod, Int.reduceBEq, Int.reduceBNe, Nat.reduceDiv, Nat.reducePow]
          all_goals first | omega | exact rfl | exact id
        | false =>
          cases c3 : decide (n ≤ 510) with
          | true =>
            have hv : cls n = 512 := by rw [hv0, if_neg (of_decide_eq_false c1), if_neg (of_decide_eq_false c2), if_pos (of_decide_eq_true c3)]
            simp only [envNK, con0, conS, strsOf_arr, rowS_arr, strsOf_cells, rowS_cells, toS, strL_st, strL_d, strL_enc, strL_up, hpN_nil, hpN_cons, gna, hw, q1, q2, q3, c1, c2, c3, hv, go_sem, reduceCtorEq, ↓reduceIte, Nat.reduceAdd, Nat.reduceMul, Nat.reduceSub, Nat.reduceEqDiff, Nat.reduceLT, Nat.reduceBEq, Nat.reduceBNe, Nat.reduceLeDiff, Int.reduceLE, Int.reduceLT, Int.reduceToNat, Int.reduceEq, Int.reduceAdd, UInt8.reduceToNat, UInt32.reduceToNat, UInt64.reduceToNat, UInt8.reduceOfNat, UInt32.reduceOfNat, UInt64.reduceOfNat, Fin.isValue, Int.reduceSub, Int.reduceMul, Int.reduceNeg, Int.reduceMod, Int.reduceDiv, Int.reduceTDiv, Int.reduceTMod, Int.reduceBEq, Int.reduceBNe, Nat.reduceDiv, Nat.reducePow]
            repeat' apply And.intro
            rotate_right
            · refine endX [] ?_
              simp only [envNK, con0, conS, strsOf_arr, rowS_arr, strsOf_cells, rowS_cells, toS, strL_st, strL_d, strL_enc, strL_up, hpN_nil, hpN_cons, gna, hv, go_sem, reduceCtorEq, ↓reduceIte, Nat.reduceAdd, Nat.reduceMul, Nat.reduceSub, Nat.reduceEqDiff, Nat.reduceLT, Nat.reduceBEq, Nat.reduceBNe, Nat.reduceLeDiff, Int.reduceLE, Int.reduceLT, Int.reduceToNat, Int.reduceEq, Int.reduceAdd, UInt8.reduceToNat, UInt32.reduceToNat, UInt64.reduceToNat, UInt8.reduceOfNat, UInt32.reduceOfNat, UInt64.reduceOfNat, Fin.isValue, Int.reduceSub, Int.reduceMul, Int.reduceNeg, Int.reduceMod, Int.reduceDiv, Int.reduceTDiv, Int.reduceTMod, Int.reduceBEq, Int.reduceBNe, Nat.reduceDiv, Nat.reducePow]
            all_goals first | omega | exact rfl | exact id
          | false =>
            have hv : cls n = 704 := by rw [hv0, if_neg (of_decide_eq_false c1), if_neg (of_decide_eq_false c2), if_neg (of_decide_eq_false c3)]
            simp only [envNK, con0, conS, strsOf_arr, rowS_arr, strsOf_cells, rowS_cells, toS, strL_st, strL_d, strL_enc, strL_up, hpN_nil, hpN_cons, gna, hw, q1, q2, q3, c1, c2, c3, hv, go_sem, reduceCtorEq, ↓reduceIte, Nat.reduceAdd, Nat.reduceMul, Nat.reduceSub, Nat.reduceEqDiff, Nat.reduceLT, Nat.reduceBEq, Nat.reduceBNe, Nat.reduceLeDiff, Int.reduceLE, Int.reduceLT, Int.reduceToNat, Int.reduceEq, Int.reduceAdd, UInt8.reduceToNat, UInt32.reduceToNat, UInt64.reduceToNat, UInt8.reduceOfNat, UInt32.reduceOfNat, UInt64.reduceOfNat, Fin.isValue, Int.reduceSub, Int.reduceMul, Int.reduceNeg, Int.reduceMod, Int.reduceDiv, Int.reduceTDiv, Int.reduceTMod, Int.reduceBEq, Int.reduceBNe, Nat.reduceDiv, Nat.reducePow]
            repeat' apply And.intro
            rotate_right
            · refine endX [] ?_
              simp only [envNK, con0, conS, strsOf_arr, rowS_arr, strsOf_cells, rowS_cells, toS, strL_st, strL_d, strL_enc, strL_up, hpN_nil, hpN_cons, gna, hv, go_sem, reduceCtorEq, ↓reduceIte, Nat.reduceAdd, Nat.reduceMul, Nat.reduceSub, Nat.reduceEqDiff, Nat.reduceLT, Nat.reduceBEq, Nat.reduceBNe, Nat.reduceLeDiff, Int.reduceLE, Int.reduceLT, Int.reduceToNat, Int.reduceEq, Int.reduceAdd, UInt8.reduceToNat, UInt32.reduceToNat, UInt64.reduceToNat, UInt8.reduceOfNat, UInt32.reduceOfNat, UInt64.reduceOfNat, Fin.isValue, Int.reduceSub, Int.reduceMul, Int.reduceNeg, Int.reduceMod, Int.reduceDiv, Int.reduceTDiv, Int.reduceTMod, Int.reduceBEq, Int.reduceBNe, Nat.reduceDiv, Nat.reducePow]
            all_goals first | omega | exact rfl | exact id
def classC : Con := con0 fun args => match args with
  | [.one (.num n)] => some (.c (.one (.num (cls n))), [])
  | _ => none
theorem classC_ok : ConOkG Tryd.prog GN 8 classC := con0_okG Tryd.func8 rfl rfl fun args res ob h hob => by
  split at h
  · injection h with h; injection h with h1 h2; subst h1; subst h2; exact class_tri _
  · cases h
theorem refClass_tri (n : Int) : TriG Tryd.prog GN 9 [.one (.num n)] [] (.c (.one (.num (cls n)))) [] := by
  refine tri_ofx (envNK_ok gna_ok 15 []) Tryd.func9 rfl rfl (rs := [.tmp 2]) rfl rfl (by simp [envNK]) rfl ?_
  cases h0 : decide (n < 0) <;> cases h1 : decide (700 < n) <;> cases c1 : decide (n ≤ 126) <;> cases c2 : decide (n ≤ 254) <;> cases c3 : decide (n ≤ 510)
  all_goals
    simp only [decide_eq_true_eq, decide_eq_false_iff_not] at h0 h1 c1 c2 c3
    have hv : cls n = if n < 0 then 0 else if 700 < n then 0 else if n ≤ 126 then 128 else if n ≤ 254 then 256 else if n ≤ 510 then 512 else 704 := rfl
    simp only [h0, h1, c1, c2, c3, if_true, if_false] at hv
    simp only [envNK, con0, conS, strsOf_arr, rowS_arr, strsOf_cells, rowS_cells, toS, strL_st, strL_d, strL_enc, strL_up, hpN_nil, hpN_cons, gna, h0, h1, c1, c2, c3, decide_true, decide_false, hv, go_sem, reduceCtorEq, ↓reduceIte, Nat.reduceAdd, Nat.reduceMul, Nat.reduceSub, Nat.reduceEqDiff, Nat.reduceLT, Nat.reduceBEq, Nat.reduceBNe, Nat.reduceLeDiff, Int.reduceLE, Int.reduceLT, Int.reduceToNat, Int.reduceEq, Int.reduceAdd, UInt8.reduceToNat, UInt32.reduceToNat, UInt64.reduceToNat, UInt8.reduceOfNat, UInt32.reduceOfNat, UInt64.reduceOfNat, Fin.isValue, Int.reduceSub, Int.reduceMul, Int.reduceNeg, Int.reduceMod, Int.reduceDiv, Int.reduceTDiv, Int.reduceTMod, Int.reduceBEq, Int.reduceBNe, Nat.reduceDiv, Nat.reducePow]
    refine endX [] ?_
    simp only [envNK, con0, conS, strsOf_arr, rowS_arr, strsOf_cells, rowS_cells, toS, strL_st, strL_d, strL_enc, strL_up, hpN_nil, hpN_cons, gna, hv, go_sem, reduceCtorEq, ↓reduceIte, Nat.reduceAdd, Nat.reduceMul, Nat.reduceSub, Nat.reduceEqDiff, Nat.reduceLT, Nat.reduceBEq, Nat.reduceBNe, Nat.reduceLeDiff, Int.reduceLE, Int.reduceLT, Int.reduceToNat, Int.reduceEq, Int.reduceAdd, UInt8.reduceToNat, UInt32.reduceToNat, UInt64.reduceToNat, UInt8.reduceOfNat, UInt32.reduceOfNat, UInt64.reduceOfNat, Fin.isValue, Int.reduceSub, Int.reduceMul, Int.reduceNeg, Int.reduceMod, Int.reduceDiv, Int.reduceTDiv, Int.reduceTMod, Int.reduceBEq, Int.reduceBNe, Nat.reduceDiv, Nat.reducePow]
def refClassC : Con := con0 fun args => match args with
  | [.one (.num n)] => some (.c (.one (.num (cls n))), [])
  | _ => none
theorem refClassC_ok : ConOkG Tryd.prog GN 9 refClassC := con0_okG Tryd.func9 rfl rfl fun args res ob h hob => by
  split at h
  · injection h with h; injection h with h1 h2; subst h1; subst h2; exact refClass_tri _
  · cases h
theorem cls_spec (n : Int) : (cls n = 0 ∧ (n < 0 ∨ 700 < n)) ∨ (0 ≤ n ∧ n ≤ 700 ∧ n + 2 ≤ cls n ∧ cls n ≤ 704 ∧ 128 ≤ cls n) := by
  unfold cls
  split
  · exact .inl ⟨rfl, .inl ‹_›⟩
  · split
    · exact .inl ⟨rfl, .inr ‹_›⟩
    · right
      split
      · omega
      · split
        · omega
        · split <;> omega
/-- strings.Repeat; strings.Trim with one sign. -/
theorem repeat8_tri (p : List UInt8) (c : Int) (h0 : 0 ≤ c) (h1 : c ≤ 100000) (hp : p.length ≤ 1000) : TriG Tryd.prog GN 14 [.one (.str p), .one (.num c)] [] (.c (.one (.str (Lib.repeatL p c.toNat)))) [] := by
  refine tri_shelf fun w vals hg hv => ?_
  obtain ⟨u, v, rfl, hu, hv⟩ := all2_two hv
  obtain ⟨k, rfl⟩ : ∃ k : Nat, c = (k : Int) := ⟨c.toNat, by omega⟩
  rw [show u = .string ⟨p.toArray⟩ from hu, show v = .int .i64 (k : Int) from hv]
  have hsz : (⟨p.toArray⟩ : ByteArray).size = p.length := rfl
  refine (Tryd.strings_Repeat ⟨p.toArray⟩ k w (by omega) (by rw [hsz]; exact Nat.le_trans (Nat.mul_le_mul (show p.length ≤ 1000 from hp) (show k ≤ 100000 by omega)) (by decide))).mono ?_
  rintro e w' ⟨rfl, hb⟩
  exact ⟨_, rfl, rfl, hb⟩
def repeat8C : Con := con0 fun args => match args with
  | [.one (.str p), .one (.num c)] => some (.c (.one (.str (Lib.repeatL p c.toNat))), [0 ≤ c, c ≤ 100000, p.length ≤ 1000])
  | _ => none
theorem repeat8C_ok : ConOkG Tryd.prog GN 14 repeat8C := con0_okG Tryd.func14 rfl rfl fun args res ob h hob => by
  split at h
  · injection h with h; injection h with h1 h2; subst h1; subst h2; exact repeat8_tri _ _ hob.1 hob.2.1 hob.2.2.1
  · cases h
theorem trim8_tri (s : List UInt8) (c : UInt8) (hc : c.toNat < 128) (hs : s.length ≤ 9223372036854775807) : TriG Tryd.prog GN 15 [.one (.str s), .one (.str [c])] [] (.c (.one (.str (Lib.trimB s c)))) [] := by
  refine tri_shelf fun w vals hg hv => ?_
  obtain ⟨u, v, rfl, hu, hv⟩ := all2_two hv
  rw [show u = .string ⟨s.toArray⟩ from hu, show v = .string ⟨#[c]⟩ from hv]
  refine (Tryd.strings_Trim_one ⟨s.toArray⟩ c hc w hs).mono ?_
  rintro e w' ⟨rfl, hw⟩
  refine ⟨_, rfl, rfl, ?_⟩
  rcases hw with rfl | rfl
  · exact Below.refl _ _
  · exact ⟨rfl, rfl, rfl, Nat.le_refl _, fun _ _ => rfl⟩
def trim8C : Con := con0 fun args => match args with
  | [.one (.str s), .one (.str [c])] => some (.c (.one (.str (Lib.trimB s c))), [c.toNat < 128, s.length ≤ 9223372036854775807])
  | _ => none
theorem trim8C_ok : ConOkG Tryd.prog GN 15 trim8C := con0_okG Tryd.func15 rfl rfl fun args res ob h hob => by
  split at h
  · injection h with h; injection h with h1 h2; subst h1; subst h2; exact trim8_tri _ _ hob.1 hob.2.1
  · cases h
/-- What is padded. -/
def padT (s : List UInt8) : List UInt8 := s ++ List.replicate (cls s.length - 2 - s.length).toNat 0
def padL (s : List UInt8) : List UInt8 := by8 s.length :: by8 ((s.length / 256 : Nat) : Int) :: padT s
theorem rep_zero : ∀ k : Nat, Lib.repeatL [0] k = List.replicate k 0
  | 0 => rfl
  | k + 1 => by rw [Lib.repeatL, rep_zero k, List.replicate_succ]; rfl
def padV (s : List UInt8) : SV := if s.length ≤ 700 then .tup [.one (.str (padL s)), .one (.num 0)] else .tup [.one (.str []), .one (.num 4)]
def gnb : Nat → Option Con := fun f => match f with
  | 8 => some classC
  | 14 => some repeat8C
  | _ => none
theorem gnb_ok : GaOkG Tryd.prog GN gnb := fun f con h => by
  unfold gnb at h
  split at h
  · injection h with h; subst h; exact classC_ok
  · injection h with h; subst h; exact repeat8C_ok
  · cases h
set_option maxRecDepth 100000 in
theorem pad_tri (s : List UInt8) (hs : s.length ≤ 100000) : TriG Tryd.prog GN 7 [.one (.str s)] [] (padV s) [] := by
  refine tri_ofx (envNK_ok gnb_ok 30 []) Tryd.func7 rfl rfl (rs := [.tmp 2, .tmp 3]) rfl rfl (by simp [envNK]) rfl ?_
  rcases cls_spec s.length with ⟨h0, h1⟩ | ⟨h0, h1, h2, h3, h4⟩
  · have hv : padV s = .tup [.one (.str []), .one (.num 4)] := by unfold padV; rw [if_neg (by omega)]
    simp only [envNK, con0, conS, strsOf_arr, rowS_arr, strsOf_cells, rowS_cells, toS, strL_st, strL_d, strL_enc, strL_up, hpN_nil, hpN_cons, gnb, classC, repeat8C, h0, hv, go_sem, reduceCtorEq, ↓reduceIte, Nat.reduceAdd, Nat.reduceMul, Nat.reduceSub, Nat.reduceEqDiff, Nat.reduceLT, Nat.reduceBEq, Nat.reduceBNe, Nat.reduceLeDiff, Int.reduceLE, Int.reduceLT, Int.reduceToNat, Int.reduceEq, Int.reduceAdd, UInt8.reduceToNat, UInt32.reduceToNat, UInt64.reduceToNat, UInt8.reduceOfNat, UInt32.reduceOfNat, UInt64.reduceOfNat, Fin.isValue, Int.reduceSub, Int.reduceMul, Int.reduceNeg, Int.reduceMod, Int.reduceDiv, Int.reduceTDiv, Int.reduceTMod, Int.reduceBEq, Int.reduceBNe, Nat.reduceDiv, Nat.reducePow]
    repeat' apply And.intro
    rotate_right
    · refine endX [] ?_
      simp only [envNK, con0, conS, strsOf_arr, rowS_arr, strsOf_cells, rowS_cells, toS, strL_st, strL_d, strL_enc, strL_up, hpN_nil, hpN_cons, gnb, classC, repeat8C, hv, go_sem, reduceCtorEq, ↓reduceIte, Nat.reduceAdd, Nat.reduceMul, Nat.reduceSub, Nat.reduceEqDiff, Nat.reduceLT, Nat.reduceBEq, Nat.reduceBNe, Nat.reduceLeDiff, Int.reduceLE, Int.reduceLT, Int.reduceToNat, Int.reduceEq, Int.reduceAdd, UInt8.reduceToNat, UInt32.reduceToNat, UInt64.reduceToNat, UInt8.reduceOfNat, UInt32.reduceOfNat, UInt64.reduceOfNat, Fin.isValue, Int.reduceSub, Int.reduceMul, Int.reduceNeg, Int.reduceMod, Int.reduceDiv, Int.reduceTDiv, Int.reduceTMod, Int.reduceBEq, Int.reduceBNe, Nat.reduceDiv, Nat.reducePow]
    all_goals first | omega | exact rfl | exact id
  · have hv : padV s = .tup [.one (.str (padL s)), .one (.num 0)] := by unfold padV; rw [if_pos (by omega)]
    have hne : (cls s.length == 0) = false := beq_eq_false_iff_ne.2 (by omega)
    have w1 : IntKind.i64.wrap (cls s.length - 2) = cls s.length - 2 := by rw [IntKind.wrap_i64]; omega
    have w2 : IntKind.i64.wrap (cls s.length - 2 - s.length) = cls s.length - 2 - s.length := by rw [IntKind.wrap_i64]; omega
    have hf : (s.length : Int).fdiv (2 ^ (min 8 64)) = ((s.length / 256 : Nat) : Int) := by
      have e : (2 : Int) ^ (min 8 64) = 256 := by decide
      rw [e, Int.fdiv_eq_ediv_of_nonneg _ (by decide)]
      omega
    simp only [envNK, con0, conS, strsOf_arr, rowS_arr, strsOf_cells, rowS_cells, toS, strL_st, strL_d, strL_enc, strL_up, hpN_nil, hpN_cons, gnb, classC, repeat8C, hne, w1, w2, hf, rep_zero, go_sem, reduceCtorEq, ↓reduceIte, Nat.reduceAdd, Nat.reduceMul, Nat.reduceSub, Nat.reduceEqDiff, Nat.reduceLT, Nat.reduceBEq, Nat.reduceBNe, Nat.reduceLeDiff, Int.reduceLE, Int.reduceLT, Int.reduceToNat, Int.reduceEq, Int.reduceAdd, UInt8.reduceToNat, UInt32.reduceToNat, UInt64.reduceToNat, UInt8.reduceOfNat, UInt32.reduceOfNat, UInt64.reduceOfNat, Fin.isValue, Int.reduceSub, Int.reduceMul, Int.reduceNeg, Int.reduceMod, Int.reduceDiv, Int.reduceTDiv, Int.reduceTMod, Int.reduceBEq, Int.reduceBNe, Nat.reduceDiv, Nat.reducePow]
    (repeat' apply And.intro)
    rotate_right
    · refine endX [] ?_
      simp only [envNK, con0, conS, strsOf_arr, rowS_arr, strsOf_cells, rowS_cells, toS, strL_st, strL_d, strL_enc, strL_up, hpN_nil, hpN_cons, gnb, classC, repeat8C, hv, padL, padT, go_sem, reduceCtorEq, ↓reduceIte, Nat.reduceAdd, Nat.reduceMul, Nat.reduceSub, Nat.reduceEqDiff, Nat.reduceLT, Nat.reduceBEq, Nat.reduceBNe, Nat.reduceLeDiff, Int.reduceLE, Int.reduceLT, Int.reduceToNat, Int.reduceEq, Int.reduceAdd, UInt8.reduceToNat, UInt32.reduceToNat, UInt64.reduceToNat, UInt8.reduceOfNat, UInt32.reduceOfNat, UInt64.reduceOfNat, Fin.isValue, Int.reduceSub, Int.reduceMul, Int.reduceNeg, Int.reduceMod, Int.reduceDiv, Int.reduceTDiv, Int.reduceTMod, Int.reduceBEq, Int.reduceBNe, Nat.reduceDiv, Nat.reducePow]
    all_goals first | omega | exact rfl | exact id | (simp only [List.length_replicate]; omega)
def padC : Con := con0 fun args => match args with
  | [.one (.str s)] => some (padV s, [s.length ≤ 100000])
  | _ => none
theorem padC_ok : ConOkG Tryd.prog GN 7 padC := con0_okG Tryd.func7 rfl rfl fun args res ob h hob => by
  split at h
  · injection h with h; injection h with h1 h2; subst h1; subst h2; exact pad_tri _ hob.1
  · cases h
theorem by8_mod (n : Nat) : by8 ((n % 256 : Nat) : Int) = by8 (n : Int) := by
  unfold by8
  congr 1
  omega
def rqL (s : List UInt8) (i : Nat) : List UInt8 := by8 s.length :: by8 ((s.length / 256 : Nat) : Int) :: (s ++ List.replicate i 0)
theorem rqL_len (s : List UInt8) (i : Nat) : (rqL s i).length = 2 + s.length + i := by unfold rqL; simp; omega
theorem rqL_add (s : List UInt8) (i : Nat) : rqL s i ++ [0] = rqL s (i + 1) := by unfold rqL; simp [List.replicate_succ']
def rqInv (s : List UInt8) (i : Nat) : St := ⟨[(0, .c (.one (.str s))), (3, .c (.one (.sl 500 0 1 (2 + s.length + i))))], [(500, ⟨.arr _ u8L (rqL s i), true⟩)]⟩
def rqOk (s : List UInt8) (i : Nat) : Prop := i ≤ (cls s.length - 2 - s.length).toNat
theorem rqOk_of {s : List UInt8} {i : Nat} (h : i ≤ (cls s.length - 2 - s.length).toNat) : rqOk s i := h
def gnc : Nat → Option Con := fun f => match f with
  | 9 => some refClassC
  | _ => none
theorem gnc_ok : GaOkG Tryd.prog GN gnc := fun f con h => by
  unfold gnc at h
  split at h
  · injection h with h; subst h; exact refClassC_ok
  · cases h
set_option maxRecDepth 100000 in
theorem refPad_tri (s : List UInt8) (hs : s.length ≤ 100000) : TriG Tryd.prog GN 11 [.one (.str s)] [] (.c (.one (.str (padL s)))) [] := by
  refine tri_ofx (envNK_ok gnc_ok 27 []) Tryd.func11 rfl rfl (rs := [.tmp 2]) rfl rfl (by simp [envNK]) rfl ?_
  have q1 : (s.length : Int).tmod 256 = ((s.length % 256 : Nat) : Int) := rfl
  have q2 : IntKind.i64.wrap ((s.length : Int).tdiv 256) = ((s.length / 256 : Nat) : Int) := by
    have : (s.length : Int).tdiv 256 = ((s.length / 256 : Nat) : Int) := rfl
    rw [this, IntKind.wrap_i64]; omega
  have hc := cls_spec s.length
  simp only [envNK, con0, conS, strsOf_arr, rowS_arr, strsOf_cells, rowS_cells, toS, strL_st, strL_d, strL_enc, strL_up, hpN_nil, hpN_cons, gnc, refClassC, q1, q2, by8_mod, List.take_length, go_sem, reduceCtorEq, ↓reduceIte, Nat.reduceAdd, Nat.reduceMul, Nat.reduceSub, Nat.reduceEqDiff, Nat.reduceLT, Nat.reduceBEq, Nat.reduceBNe, Nat.reduceLeDiff, Int.reduceLE, Int.reduceLT, Int.reduceToNat, Int.reduceEq, Int.reduceAdd, UInt8.reduceToNat, UInt32.reduceToNat, UInt64.reduceToNat, UInt8.reduceOfNat, UInt32.reduceOfNat, UInt64.reduceOfNat, Fin.isValue, Int.reduceSub, Int.reduceMul, Int.reduceNeg, Int.reduceMod, Int.reduceDiv, Int.reduceTDiv, Int.reduceTMod, Int.reduceBEq, Int.reduceBNe, Nat.reduceDiv, Nat.reducePow]
  (repeat' apply And.intro)
  rotate_right
  · refine loop_inv (envNK_ok gnc_ok 27 []) (rqInv s) (rqOk s) (fun i => (cls s.length - 2 - s.length).toNat - i) 0 [(500, 20088)] (rqOk_of (Nat.zero_le _)) ?_ ?_
    · simp only [rqInv, rqL, List.replicate_zero, List.append_nil, List.take_length, go_sem, reduceCtorEq, ↓reduceIte, Nat.reduceAdd, Nat.reduceMul, Nat.reduceSub, Nat.reduceEqDiff, Nat.reduceLT, Nat.reduceBEq, Nat.reduceBNe, Nat.reduceLeDiff, Int.reduceLE, Int.reduceLT, Int.reduceToNat, Int.reduceEq, Int.reduceAdd, UInt8.reduceToNat, UInt32.reduceToNat, UInt64.reduceToNat, UInt8.reduceOfNat, UInt32.reduceOfNat, UInt64.reduceOfNat, Fin.isValue, Int.reduceSub, Int.reduceMul, Int.reduceNeg, Int.reduceMod, Int.reduceDiv, Int.reduceTDiv, Int.reduceTMod, Int.reduceBEq, Int.reduceBNe, Nat.reduceDiv, Nat.reducePow]
      all_goals ((repeat' apply And.intro) <;> first | omega | exact rfl | exact id)
    · intro i hi
      have hi1 : i ≤ (cls s.length - 2 - s.length).toNat := hi
      have hL := rqL_len s i
      simp only [envNK, con0, conS, strsOf_arr, rowS_arr, strsOf_cells, rowS_cells, toS, strL_st, strL_d, strL_enc, strL_up, hpN_nil, hpN_cons, gnc, refClassC, rqInv, go_sem, reduceCtorEq, ↓reduceIte, Nat.reduceAdd, Nat.reduceMul, Nat.reduceSub, Nat.reduceEqDiff, Nat.reduceLT, Nat.reduceBEq, Nat.reduceBNe, Nat.reduceLeDiff, Int.reduceLE, Int.reduceLT, Int.reduceToNat, Int.reduceEq, Int.reduceAdd, UInt8.reduceToNat, UInt32.reduceToNat, UInt64.reduceToNat, UInt8.reduceOfNat, UInt32.reduceOfNat, UInt64.reduceOfNat, Fin.isValue, Int.reduceSub, Int.reduceMul, Int.reduceNeg, Int.reduceMod, Int.reduceDiv, Int.reduceTDiv, Int.reduceTMod, Int.reduceBEq, Int.reduceBNe, Nat.reduceDiv, Nat.reducePow]
      refine br (fun h => ?_) fun h => ?_
      · have hlt : i < (cls s.length - 2 - s.length).toNat := by have := of_decide_eq_true h; omega
        have hA := rqL_add s i
        simp only [envNK, con0, conS, strsOf_arr, rowS_arr, strsOf_cells, rowS_cells, toS, strL_st, strL_d, strL_enc, strL_up, hpN_nil, hpN_cons, gnc, refClassC, h, u8L, go_sem, reduceCtorEq, ↓reduceIte, Nat.reduceAdd, Nat.reduceMul, Nat.reduceSub, Nat.reduceEqDiff, Nat.reduceLT, Nat.reduceBEq, Nat.reduceBNe, Nat.reduceLeDiff, Int.reduceLE, Int.reduceLT, Int.reduceToNat, Int.reduceEq, Int.reduceAdd, UInt8.reduceToNat, UInt32.reduceToNat, UInt64.reduceToNat, UInt8.reduceOfNat, UInt32.reduceOfNat, UInt64.reduceOfNat, Fin.isValue, Int.reduceSub, Int.reduceMul, Int.reduceNeg, Int.reduceMod, Int.reduceDiv, Int.reduceTDiv, Int.reduceTMod, Int.reduceBEq, Int.reduceBNe, Nat.reduceDiv, Nat.reducePow]
        repeat' apply And.intro
        rotate_right
        · refine again (i + 1) [(500, 40016)] (rqOk_of hlt) (by show (cls s.length - 2 - s.length).toNat - (i + 1) < (cls s.length - 2 - s.length).toNat - i; omega) ?_
          simp only [rqInv, ← hA, u8L, envNK, con0, conS, strsOf_arr, rowS_arr, strsOf_cells, rowS_cells, toS, strL_st, strL_d, strL_enc, strL_up, hpN_nil, hpN_cons, gnc, refClassC, go_sem, reduceCtorEq, ↓reduceIte, Nat.reduceAdd, Nat.reduceMul, Nat.reduceSub, Nat.reduceEqDiff, Nat.reduceLT, Nat.reduceBEq, Nat.reduceBNe, Nat.reduceLeDiff, Int.reduceLE, Int.reduceLT, Int.reduceToNat, Int.reduceEq, Int.reduceAdd, UInt8.reduceToNat, UInt32.reduceToNat, UInt64.reduceToNat, UInt8.reduceOfNat, UInt32.reduceOfNat, UInt64.reduceOfNat, Fin.isValue, Int.reduceSub, Int.reduceMul, Int.reduceNeg, Int.reduceMod, Int.reduceDiv, Int.reduceTDiv, Int.reduceTMod, Int.reduceBEq, Int.reduceBNe, Nat.reduceDiv, Nat.reducePow]
          all_goals ((repeat' apply And.intro) <;> first | omega | exact rfl | exact id)
        all_goals first | omega | exact rfl | exact id
      · have hge : (cls s.length - 2 - s.length).toNat ≤ i := by have := of_decide_eq_false h; omega
        have hie : i = (cls s.length - 2 - s.length).toNat := by omega
        have hP : rqL s i = padL s := by unfold rqL padL padT; rw [hie]
        have hPl : (padL s).length = 2 + s.length + i := by rw [← hP]; exact hL
        have htk : (padL s).take (2 + s.length + i) = padL s := List.take_of_length_le (by omega)
        have hmap : (padL s).map (fun x => x) = padL s := List.map_id _
        simp only [envNK, con0, conS, strsOf_arr, rowS_arr, strsOf_cells, rowS_cells, toS, strL_st, strL_d, strL_enc, strL_up, hpN_nil, hpN_cons, gnc, refClassC, h, u8L, List.drop_zero, htk, hmap, hP, go_sem, reduceCtorEq, ↓reduceIte, Nat.reduceAdd, Nat.reduceMul, Nat.reduceSub, Nat.reduceEqDiff, Nat.reduceLT, Nat.reduceBEq, Nat.reduceBNe, Nat.reduceLeDiff, Int.reduceLE, Int.reduceLT, Int.reduceToNat, Int.reduceEq, Int.reduceAdd, UInt8.reduceToNat, UInt32.reduceToNat, UInt64.reduceToNat, UInt8.reduceOfNat, UInt32.reduceOfNat, UInt64.reduceOfNat, Fin.isValue, Int.reduceSub, Int.reduceMul, Int.reduceNeg, Int.reduceMod, Int.reduceDiv, Int.reduceTDiv, Int.reduceTMod, Int.reduceBEq, Int.reduceBNe, Nat.reduceDiv, Nat.reducePow]
        repeat' apply And.intro
        rotate_right
        · refine endX [] ?_
          simp only [envNK, con0, conS, strsOf_arr, rowS_arr, strsOf_cells, rowS_cells, toS, strL_st, strL_d, strL_enc, strL_up, hpN_nil, hpN_cons, gnc, refClassC, hP, go_sem, reduceCtorEq, ↓reduceIte, Nat.reduceAdd, Nat.reduceMul, Nat.reduceSub, Nat.reduceEqDiff, Nat.reduceLT, Nat.reduceBEq, Nat.reduceBNe, Nat.reduceLeDiff, Int.reduceLE, Int.reduceLT, Int.reduceToNat, Int.reduceEq, Int.reduceAdd, UInt8.reduceToNat, UInt32.reduceToNat, UInt64.reduceToNat, UInt8.reduceOfNat, UInt32.reduceOfNat, UInt64.reduceOfNat, Fin.isValue, Int.reduceSub, Int.reduceMul, Int.reduceNeg, Int.reduceMod, Int.reduceDiv, Int.reduceTDiv, Int.reduceTMod, Int.reduceBEq, Int.reduceBNe, Nat.reduceDiv, Nat.reducePow]
          all_goals ((repeat' apply And.intro) <;> first | omega | exact rfl | exact id)
        all_goals first | omega | exact rfl | exact id
  all_goals first | omega | exact rfl | exact id | trivial
def refPadC : Con := con0 fun args => match args with
  | [.one (.str s)] => some (.c (.one (.str (padL s))), [s.length ≤ 100000])
  | _ => none
theorem refPadC_ok : ConOkG Tryd.prog GN 11 refPadC := con0_okG Tryd.func11 rfl rfl fun args res ob h hob => by
  split at h
  · injection h with h; injection h with h1 h2; subst h1; subst h2; exact refPad_tri _ hob.1
  · cases h
end Go.Proofs.YtemlbokoaohckaaDoor
