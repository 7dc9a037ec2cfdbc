/-
  Layer 19: the fields of a head.
-/
import Derived.Test.YtgfcdkbbkgamnaaDoorSz
import Derived.Test.YtgfcdkbbkgamnaaDoorQa
namespace Go.Proofs.YtgfcdkbbkgamnaaDoor
open Go Go.RowKit
set_option maxHeartbeats 4000000
set_option linter.unusedSimpArgs false
set_option linter.unusedVariables false
def fldL : Lay (List UInt8 × List UInt8) where
  st := 2
  enc x := [.str x.1, .str x.2]
  d := ([], [])
  up x j ys := match ys with
    | [.str y] => if j = 0 then some (y, x.2) else if j = 1 then some (x.1, y) else none
    | [.str y, .str z] => if j = 0 then some (y, z) else none
    | _ => none
  toB := none
  ofB := none
  len _ := rfl
  put x j ys y h := by
    split at h
    · split at h
      · rename_i h0; injection h with h; subst h; subst h0; simp
      · split at h
        · rename_i h0; injection h with h; subst h; subst h0; simp
        · cases h
    · split at h
      · rename_i h0; injection h with h; subst h; subst h0; simp
      · cases h
    · cases h
  plain x v h := by simp at h; rcases h with rfl | rfl <;> trivial
  bare x v h := by simp at h; rcases h with rfl | rfl <;> trivial
  toB_ok f h x := by cases h
  ofB_ok f h x := by cases h
theorem fldL_st : fldL.st = 2 := rfl
theorem fldL_d : fldL.d = ([], []) := rfl
theorem fldL_enc (x : List UInt8 × List UInt8) : fldL.enc x = [.str x.1, .str x.2] := rfl
theorem fldL_up (x : List UInt8 × List UInt8) (y z : List UInt8) : fldL.up x 0 [.str y, .str z] = some (y, z) := rfl
abbrev Fld := List UInt8 × List UInt8
/-- A line's colon; whether a field begins with it; the field. -/
def colon (l : List UInt8) : List UInt8 × List UInt8 × Bool := Lib.cut l [58]
def fldB (l : List UInt8) : Bool := (colon l).2.2 && !contL l
def fldV (l : List UInt8) (ls : List (List UInt8)) : Fld := ((colon l).1, Lib.trimS ((colon l).2.1 ++ Lib.join (ls.takeWhile contL) []) [32, 9])
def fldF : List (List UInt8) → List Fld
  | [] => []
  | l :: ls => if fldB l = true then fldV l ls :: fldF ls else fldF ls
def fieldsL (h : List UInt8) : List Fld := fldF (rowsL h)
def fieldsO (h : List UInt8) : List SObj := if (fieldsL h).isEmpty then [] else [.arr _ fldL (fieldsL h)]
def fldAV (l : List Fld) : AV := if l.isEmpty then .val (.slice none 0 0) else .sl 0 0 2 l.length
structure FlX where
  i : Nat
  acc : List Fld
def flInv (R : List (List UInt8)) (x : FlX) : St := match x.acc.length with
  | 0 => ⟨[(3, .c (.one (.val (.slice none 0 0)))), (4, .c (.one (.sl 400 0 1 R.length))), (14, .c (.one (.sl 400 0 1 R.length))), (15, .c (.one (.num R.length))), (16, .c (.one (.num x.i)))], [(400, ⟨.arr _ strL R, true⟩)]⟩
  | j + 1 => ⟨[(3, .c (.one (.sl 500 0 2 (j + 1)))), (4, .c (.one (.sl 400 0 1 R.length))), (14, .c (.one (.sl 400 0 1 R.length))), (15, .c (.one (.num R.length))), (16, .c (.one (.num x.i)))], [(400, ⟨.arr _ strL R, true⟩), (500, ⟨.arr _ fldL x.acc, true⟩)]⟩
def flIn (R : List (List UInt8)) (acc : List Fld) (i : Nat) (l : List UInt8) (q : Nat) : St := match acc.length with
  | 0 => ⟨[(3, .c (.one (.val (.slice none 0 0)))), (4, .c (.one (.sl 400 0 1 R.length))), (5, .c (.one (.num i))), (7, .c (.one (.str (Lib.cut l [58]).1))), (8, .c (.one (.str (Lib.cut l [58]).2.1))), (10, .c (.one (.num q))), (14, .c (.one (.sl 400 0 1 R.length))), (15, .c (.one (.num R.length))), (16, .c (.one (.num i)))], [(400, ⟨.arr _ strL R, true⟩)]⟩
  | j + 1 => ⟨[(3, .c (.one (.sl 500 0 2 (j + 1)))), (4, .c (.one (.sl 400 0 1 R.length))), (5, .c (.one (.num i))), (7, .c (.one (.str (Lib.cut l [58]).1))), (8, .c (.one (.str (Lib.cut l [58]).2.1))), (10, .c (.one (.num q))), (14, .c (.one (.sl 400 0 1 R.length))), (15, .c (.one (.num R.length))), (16, .c (.one (.num i)))], [(400, ⟨.arr _ strL R, true⟩), (500, ⟨.arr _ fldL acc, true⟩)]⟩
def flOk (R : List (List UInt8)) (x : FlX) : Prop := x.i ≤ R.length ∧ x.acc.length ≤ x.i ∧ x.acc ++ fldF (R.drop x.i) = fldF R
theorem crs_le : ∀ (s : List UInt8), crs s ≤ s.length
  | [] => Nat.le_refl _
  | [_] => Nat.zero_le _
  | a :: b :: l => by
    rw [crs_cons]
    have := crs_le (b :: l)
    simp only [List.length_cons] at this ⊢
    split <;> omega
theorem rowsL_total : ∀ (n : Nat) (s : List UInt8), s.length ≤ n → ((rowsL s).map List.length).sum ≤ s.length
  | 0, s, h => by
    have : s = [] := List.eq_nil_of_length_eq_zero (by omega)
    subst this; exact Nat.le_refl _
  | n + 1, s, h => by
    cases he : eol s with
    | none => rw [rowsL_none he]; simp
    | some i =>
      obtain ⟨hi, _⟩ := eol_spec he
      have := rowsL_total n (s.drop (i + 2)) (by rw [List.length_drop]; omega)
      rw [rowsL_some he, List.map_cons, List.sum_cons, List.length_take]
      rw [List.length_drop] at this
      omega
theorem rowsL_mem (s l : List UInt8) (h : l ∈ rowsL s) : l.length ≤ s.length := by
  have h1 := rowsL_total _ s (Nat.le_refl _)
  have h2 : l.length ≤ ((rowsL s).map List.length).sum := by
    generalize rowsL s = R at h
    induction R with
    | nil => cases h
    | cons a R ih =>
      rw [List.map_cons, List.sum_cons]
      rcases List.mem_cons.1 h with rfl | h
      · omega
      · have := ih h; omega
  omega
theorem join_len : ∀ (R : List (List UInt8)), (Lib.join R []).length = (R.map List.length).sum
  | [] => rfl
  | [a] => by simp [Lib.join]
  | a :: b :: R => by
    have := join_len (b :: R)
    simp [Lib.join, List.intercalate, List.intersperse] at this ⊢
    omega
theorem sum_drop : ∀ (R : List (List UInt8)) (k : Nat), ((R.drop k).map List.length).sum ≤ (R.map List.length).sum
  | [], k => by simp
  | a :: R, 0 => Nat.le_refl _
  | a :: R, k + 1 => by
    have := sum_drop R k
    simp only [List.drop_succ_cons, List.map_cons, List.sum_cons]; omega
theorem sum_take : ∀ (R : List (List UInt8)) (k : Nat), ((R.take k).map List.length).sum ≤ (R.map List.length).sum
  | [], k => by simp
  | a :: R, 0 => by simp
  | a :: R, k + 1 => by
    have := sum_take R k
    simp only [List.take_succ_cons, List.map_cons, List.sum_cons]; omega
theorem rowsL_join (s : List UInt8) (k n : Nat) : (Lib.join (((rowsL s).drop k).take n) []).length ≤ s.length := by
  rw [join_len]
  exact Nat.le_trans (sum_take _ _) (Nat.le_trans (sum_drop _ _) (rowsL_total _ s (Nat.le_refl _)))
theorem drop_at {α : Type _} (R : List α) (d : α) {i : Nat} (h : i < R.length) : R.drop i = R.getD i d :: R.drop (i + 1) := by
  rw [List.drop_eq_getElem_cons h, List.getD_eq_getElem?_getD, List.getElem?_eq_getElem h]; rfl
theorem flOk_skip {R : List (List UInt8)} {x : FlX} (h : flOk R x) (hi : x.i < R.length) (hb : fldB (R.getD x.i []) = false) : flOk R ⟨x.i + 1, x.acc⟩ := by
  obtain ⟨h1, h2, h3⟩ := h
  refine ⟨hi, by simp only; omega, ?_⟩
  rw [drop_at R [] hi, fldF, if_neg (by rw [hb]; simp)] at h3
  exact h3
theorem flOk_add {R : List (List UInt8)} {x : FlX} (h : flOk R x) (hi : x.i < R.length) (hb : fldB (R.getD x.i []) = true) : flOk R ⟨x.i + 1, x.acc ++ [fldV (R.getD x.i []) (R.drop (x.i + 1))]⟩ := by
  obtain ⟨h1, h2, h3⟩ := h
  refine ⟨hi, by simp only [List.length_append, List.length_cons, List.length_nil]; omega, ?_⟩
  rw [drop_at R [] hi, fldF, if_pos hb] at h3
  rw [List.append_assoc]
  exact h3
theorem flOk_end {R : List (List UInt8)} {x : FlX} (h : flOk R x) (hi : R.length ≤ x.i) : x.acc = fldF R := by
  obtain ⟨h1, h2, h3⟩ := h
  rw [List.drop_eq_nil_of_le hi, fldF, List.append_nil] at h3
  exact h3
theorem while_at (p : List UInt8 → Bool) : ∀ (l : List (List UInt8)) (n : Nat), n ≤ l.length → (∀ k, k < n → p (l.getD k []) = true) → (l.length ≤ n ∨ p (l.getD n []) = false) → l.takeWhile p = l.take n
  | [], n, h1, _, _ => by simp
  | a :: l, 0, _, _, h3 => by
    rcases h3 with h | h
    · simp at h
    · have h' : p a = false := h
      simp [List.takeWhile_cons, h']
  | a :: l, n + 1, h1, h2, h3 => by
    have h' : p a = true := h2 0 (by omega)
    rw [List.takeWhile_cons, if_pos h', List.take_succ_cons, while_at p l n (by simpa using h1) (fun k hk => h2 (k + 1) (by omega)) (by
      rcases h3 with h | h
      · exact .inl (by simpa using h)
      · exact .inr h)]
theorem flOk_more {R : List (List UInt8)} {i q : Nat} (h : ∀ k, i + 1 ≤ k → k < q → contL (R.getD k []) = true) (h4 : contL (R.getD q []) = true) (k : Nat) (k1 : i + 1 ≤ k) (k2 : k < q + 1) : contL (R.getD k []) = true := by
  rcases Nat.lt_or_ge k q with h' | h'
  · exact h k k1 h'
  · have : k = q := by omega
    rw [this]; exact h4
theorem getD_drop (R : List (List UInt8)) (a k : Nat) : (R.drop a).getD k [] = R.getD (a + k) [] := by
  rw [List.getD_eq_getElem?_getD, List.getD_eq_getElem?_getD, List.getElem?_drop]
theorem fldV_at (R : List (List UInt8)) (l : List UInt8) (i q : Nat) (h1 : i + 1 ≤ q) (h2 : q ≤ R.length) (h : ∀ k, i + 1 ≤ k → k < q → contL (R.getD k []) = true) (h4 : R.length ≤ q ∨ contL (R.getD q []) = false) :
    fldV l (R.drop (i + 1)) = ((Lib.cut l [58]).1, Lib.trimS ((Lib.cut l [58]).2.1 ++ Lib.join ((R.drop (i + 1)).take (q - (i + 1))) []) [32, 9]) := by
  unfold fldV colon
  rw [while_at contL (R.drop (i + 1)) (q - (i + 1)) (by rw [List.length_drop]; omega) (fun k hk => by rw [getD_drop]; exact h _ (by omega) (by omega)) (by
    rcases h4 with h4 | h4
    · exact .inl (by rw [List.length_drop]; omega)
    · exact .inr (by rw [getD_drop, show i + 1 + (q - (i + 1)) = q by omega]; exact h4))]
theorem cut_len (l p : List UInt8) : (Lib.cut l p).1.length ≤ l.length ∧ (Lib.cut l p).2.1.length ≤ l.length := by
  unfold Lib.cut
  split
  · simp only [List.length_take, List.length_drop]; omega
  · exact ⟨Nat.le_refl _, Nat.zero_le _⟩
def qb0 : Nat → Option Con := fun f => match f with
  | 52 => some qSplitC
  | 59 => some qCutC
  | 92 => some continuesC
  | 58 => some qJoinC
  | 93 => some qTrimC
  | _ => none
theorem qb0_ok : GaOkG Tryd.prog GM qb0 := fun f con h => by
  unfold qb0 at h
  split at h
  · injection h with h; subst h; exact qSplitC_ok
  · injection h with h; subst h; exact qCutC_ok
  · injection h with h; subst h; exact continuesC_ok
  · injection h with h; subst h; exact qJoinC_ok
  · injection h with h; subst h; exact qTrimC_ok
  · cases h
set_option maxRecDepth 100000 in
theorem fields_tri (s : List UInt8) (hs : s.length ≤ 65536) : TriG Tryd.prog GM 69 [.one (.str s)] [] (.c (.one (fldAV (fieldsL s)))) (hpN 0 (fieldsO s)) := by
  refine tri_ofx (envMK_ok qb0_ok 65 []) Tryd.func69 rfl rfl (rs := [.tmp 2]) rfl rfl (by simp [envMK]) rfl ?_
  have hR : Lib.split s [13, 10] = rowsL s := by
    unfold Lib.split
    rw [count_crs]
    exact splitK_rows _ s rfl
  have hRl : (rowsL s).length ≤ 65537 := by rw [rowsL_len]; have := crs_le s; omega
  have hRs : ∀ l ∈ rowsL s, l.length ≤ 65536 := fun l hl => Nat.le_trans (rowsL_mem s l hl) hs
  have hRj : ∀ k n, (Lib.join (((rowsL s).drop k).take n) []).length ≤ 65536 := fun k n => Nat.le_trans (rowsL_join s k n) hs
  simp only [envMK, con0, conS, strsOf_arr, rowS_arr, strsOf_cells, rowS_cells, toS, strL_st, strL_d, strL_enc, strL_up, hpN_nil, hpN_cons, qb0, qSplitC, qCutC, continuesC, qJoinC, qTrimC, qSplitF, hR, go_sem, reduceCtorEq, ↓reduceIte, Nat.reduceAdd, Nat.reduceMul, Nat.reduceSub, Nat.reduceEqDiff, Nat.reduceLT, Nat.reduceBEq, Nat.reduceBNe, Nat.reduceLeDiff, Int.reduceLE, Int.reduceLT, Int.reduceToNat, Int.reduceEq, Int.reduceAdd, UInt8.reduceToNat, UInt32.reduceToNat, UInt64.reduceToNat, UInt8.reduceOfNat, UInt32.reduceOfNat, UInt64.reduceOfNat, Fin.isValue, Int.reduceSub, Int.reduceMul, Int.reduceNeg, Int.reduceMod, Int.reduceDiv, Int.reduceTDiv, Int.reduceTMod, Int.reduceBEq, Int.reduceBNe, Nat.reduceDiv, Nat.reducePow]
  generalize hRe : rowsL s = R at hRl hRs hRj ⊢
  have hfe : fieldsL s = fldF R := by unfold fieldsL; rw [hRe]
  refine ⟨by omega, loop_inv (envMK_ok qb0_ok 65 []) (flInv R) (flOk R) (fun x => R.length - x.i) ⟨0, []⟩ [(400, 30008)] ⟨Nat.zero_le _, Nat.le_refl _, rfl⟩ ?_ ?_⟩
  · simp only [flInv, go_sem, reduceCtorEq, ↓reduceIte, Nat.reduceAdd, Nat.reduceMul, Nat.reduceSub, Nat.reduceEqDiff, Nat.reduceLT, Nat.reduceBEq, Nat.reduceBNe, Nat.reduceLeDiff, Int.reduceLE, Int.reduceLT, Int.reduceToNat, Int.reduceEq, Int.reduceAdd, UInt8.reduceToNat, UInt32.reduceToNat, UInt64.reduceToNat, UInt8.reduceOfNat, UInt32.reduceOfNat, UInt64.reduceOfNat, Fin.isValue, Int.reduceSub, Int.reduceMul, Int.reduceNeg, Int.reduceMod, Int.reduceDiv, Int.reduceTDiv, Int.reduceTMod, Int.reduceBEq, Int.reduceBNe, Nat.reduceDiv, Nat.reducePow]
  · intro x hx
    obtain ⟨i, acc⟩ := x
    have hi := hx.1
    have hal := hx.2.1
    simp only at hi hal
    have hw : IntKind.i64.wrap ((i : Int) + 1) = ((i + 1 : Nat) : Int) := by rw [IntKind.wrap_i64]; omega
    generalize hj : acc.length = j at hal
    rcases j with _ | j
    · obtain rfl := List.eq_nil_of_length_eq_zero hj
      simp only [envMK, con0, conS, strsOf_arr, rowS_arr, strsOf_cells, rowS_cells, toS, strL_st, strL_d, strL_enc, strL_up, hpN_nil, hpN_cons, qb0, qSplitC, qCutC, continuesC, qJoinC, qTrimC, flInv, hw, hj, go_sem, reduceCtorEq, ↓reduceIte, Nat.reduceAdd, Nat.reduceMul, Nat.reduceSub, Nat.reduceEqDiff, Nat.reduceLT, Nat.reduceBEq, Nat.reduceBNe, Nat.reduceLeDiff, Int.reduceLE, Int.reduceLT, Int.reduceToNat, Int.reduceEq, Int.reduceAdd, UInt8.reduceToNat, UInt32.reduceToNat, UInt64.reduceToNat, UInt8.reduceOfNat, UInt32.reduceOfNat, UInt64.reduceOfNat, Fin.isValue, Int.reduceSub, Int.reduceMul, Int.reduceNeg, Int.reduceMod, Int.reduceDiv, Int.reduceTDiv, Int.reduceTMod, Int.reduceBEq, Int.reduceBNe, Nat.reduceDiv, Nat.reducePow]
      refine br (fun h => ?_) fun h => ?_
      · have hlt : i < R.length := by have := of_decide_eq_true h; omega
        have hlm : (R.getD i []).length ≤ 65536 := hRs _ (by rw [List.getD_eq_getElem?_getD, List.getElem?_eq_getElem hlt]; exact List.getElem_mem hlt)
        generalize hl : R.getD i [] = l at hlm
        cases h1 : (Lib.cut l [58]).2.2 with
        | false =>
          have hnx := flOk_skip hx hlt (by rw [hl]; unfold fldB colon; rw [h1]; rfl)
          simp only [envMK, con0, conS, strsOf_arr, rowS_arr, strsOf_cells, rowS_cells, toS, strL_st, strL_d, strL_enc, strL_up, hpN_nil, hpN_cons, qb0, qSplitC, qCutC, continuesC, qJoinC, qTrimC, hl, h1, hw, hj, strL_st, strL_d, strL_enc, go_sem, reduceCtorEq, ↓reduceIte, Nat.reduceAdd, Nat.reduceMul, Nat.reduceSub, Nat.reduceEqDiff, Nat.reduceLT, Nat.reduceBEq, Nat.reduceBNe, Nat.reduceLeDiff, Int.reduceLE, Int.reduceLT, Int.reduceToNat, Int.reduceEq, Int.reduceAdd, UInt8.reduceToNat, UInt32.reduceToNat, UInt64.reduceToNat, UInt8.reduceOfNat, UInt32.reduceOfNat, UInt64.reduceOfNat, Fin.isValue, Int.reduceSub, Int.reduceMul, Int.reduceNeg, Int.reduceMod, Int.reduceDiv, Int.reduceTDiv, Int.reduceTMod, Int.reduceBEq, Int.reduceBNe, Nat.reduceDiv, Nat.reducePow]
          repeat' apply And.intro
          rotate_right
          · refine again ⟨i + 1, []⟩ [] hnx (by simp only; omega) ?_
            simp only [flInv, envMK, con0, conS, strsOf_arr, rowS_arr, strsOf_cells, rowS_cells, toS, strL_st, strL_d, strL_enc, strL_up, hpN_nil, hpN_cons, qb0, qSplitC, qCutC, continuesC, qJoinC, qTrimC, go_sem, reduceCtorEq, ↓reduceIte, Nat.reduceAdd, Nat.reduceMul, Nat.reduceSub, Nat.reduceEqDiff, Nat.reduceLT, Nat.reduceBEq, Nat.reduceBNe, Nat.reduceLeDiff, Int.reduceLE, Int.reduceLT, Int.reduceToNat, Int.reduceEq, Int.reduceAdd, UInt8.reduceToNat, UInt32.reduceToNat, UInt64.reduceToNat, UInt8.reduceOfNat, UInt32.reduceOfNat, UInt64.reduceOfNat, Fin.isValue, Int.reduceSub, Int.reduceMul, Int.reduceNeg, Int.reduceMod, Int.reduceDiv, Int.reduceTDiv, Int.reduceTMod, Int.reduceBEq, Int.reduceBNe, Nat.reduceDiv, Nat.reducePow]
          all_goals first | omega | exact rfl | exact id
        | true =>
          cases h2 : contL l with
          | true =>
            have hnx := flOk_skip hx hlt (by rw [hl]; unfold fldB; rw [h2]; simp)
            simp only [envMK, con0, conS, strsOf_arr, rowS_arr, strsOf_cells, rowS_cells, toS, strL_st, strL_d, strL_enc, strL_up, hpN_nil, hpN_cons, qb0, qSplitC, qCutC, continuesC, qJoinC, qTrimC, hl, h1, h2, hw, hj, strL_st, strL_d, strL_enc, go_sem, reduceCtorEq, ↓reduceIte, Nat.reduceAdd, Nat.reduceMul, Nat.reduceSub, Nat.reduceEqDiff, Nat.reduceLT, Nat.reduceBEq, Nat.reduceBNe, Nat.reduceLeDiff, Int.reduceLE, Int.reduceLT, Int.reduceToNat, Int.reduceEq, Int.reduceAdd, UInt8.reduceToNat, UInt32.reduceToNat, UInt64.reduceToNat, UInt8.reduceOfNat, UInt32.reduceOfNat, UInt64.reduceOfNat, Fin.isValue, Int.reduceSub, Int.reduceMul, Int.reduceNeg, Int.reduceMod, Int.reduceDiv, Int.reduceTDiv, Int.reduceTMod, Int.reduceBEq, Int.reduceBNe, Nat.reduceDiv, Nat.reducePow]
            repeat' apply And.intro
            rotate_right
            · refine again ⟨i + 1, []⟩ [] hnx (by simp only; omega) ?_
              simp only [flInv, envMK, con0, conS, strsOf_arr, rowS_arr, strsOf_cells, rowS_cells, toS, strL_st, strL_d, strL_enc, strL_up, hpN_nil, hpN_cons, qb0, qSplitC, qCutC, continuesC, qJoinC, qTrimC, go_sem, reduceCtorEq, ↓reduceIte, Nat.reduceAdd, Nat.reduceMul, Nat.reduceSub, Nat.reduceEqDiff, Nat.reduceLT, Nat.reduceBEq, Nat.reduceBNe, Nat.reduceLeDiff, Int.reduceLE, Int.reduceLT, Int.reduceToNat, Int.reduceEq, Int.reduceAdd, UInt8.reduceToNat, UInt32.reduceToNat, UInt64.reduceToNat, UInt8.reduceOfNat, UInt32.reduceOfNat, UInt64.reduceOfNat, Fin.isValue, Int.reduceSub, Int.reduceMul, Int.reduceNeg, Int.reduceMod, Int.reduceDiv, Int.reduceTDiv, Int.reduceTMod, Int.reduceBEq, Int.reduceBNe, Nat.reduceDiv, Nat.reducePow]
            all_goals first | omega | exact rfl | exact id
          | false =>
            have hnx := flOk_add hx hlt (by rw [hl]; unfold fldB colon; rw [h1, h2]; rfl)
            simp only [envMK, con0, conS, strsOf_arr, rowS_arr, strsOf_cells, rowS_cells, toS, strL_st, strL_d, strL_enc, strL_up, hpN_nil, hpN_cons, qb0, qSplitC, qCutC, continuesC, qJoinC, qTrimC, hl, h1, h2, hw, hj, strL_st, strL_d, strL_enc, go_sem, reduceCtorEq, ↓reduceIte, Nat.reduceAdd, Nat.reduceMul, Nat.reduceSub, Nat.reduceEqDiff, Nat.reduceLT, Nat.reduceBEq, Nat.reduceBNe, Nat.reduceLeDiff, Int.reduceLE, Int.reduceLT, Int.reduceToNat, Int.reduceEq, Int.reduceAdd, UInt8.reduceToNat, UInt32.reduceToNat, UInt64.reduceToNat, UInt8.reduceOfNat, UInt32.reduceOfNat, UInt64.reduceOfNat, Fin.isValue, Int.reduceSub, Int.reduceMul, Int.reduceNeg, Int.reduceMod, Int.reduceDiv, Int.reduceTDiv, Int.reduceTMod, Int.reduceBEq, Int.reduceBNe, Nat.reduceDiv, Nat.reducePow]
            refine ⟨⟨by omega, by omega⟩, hlt, by omega, by omega, loop_inv (envMK_ok qb0_ok 65 []) (flIn R [] i l) (fun q => i + 1 ≤ q ∧ q ≤ R.length ∧ ∀ k, i + 1 ≤ k → k < q → contL (R.getD k []) = true) (fun q => R.length - q) (i + 1) [] ⟨Nat.le_refl _, hlt, fun k k1 k2 => by omega⟩ ?_ ?_⟩
            · simp only [flIn, flInv, go_sem, reduceCtorEq, ↓reduceIte, Nat.reduceAdd, Nat.reduceMul, Nat.reduceSub, Nat.reduceEqDiff, Nat.reduceLT, Nat.reduceBEq, Nat.reduceBNe, Nat.reduceLeDiff, Int.reduceLE, Int.reduceLT, Int.reduceToNat, Int.reduceEq, Int.reduceAdd, UInt8.reduceToNat, UInt32.reduceToNat, UInt64.reduceToNat, UInt8.reduceOfNat, UInt32.reduceOfNat, UInt64.reduceOfNat, Fin.isValue, Int.reduceSub, Int.reduceMul, Int.reduceNeg, Int.reduceMod, Int.reduceDiv, Int.reduceTDiv, Int.reduceTMod, Int.reduceBEq, Int.reduceBNe, Nat.reduceDiv, Nat.reducePow]
            · intro q hq
              have hq1 := hq.1
              have hq2 := hq.2.1
              have hwq : IntKind.i64.wrap ((q : Int) + 1) = ((q + 1 : Nat) : Int) := by rw [IntKind.wrap_i64]; omega
              simp only [envMK, con0, conS, strsOf_arr, rowS_arr, strsOf_cells, rowS_cells, toS, strL_st, strL_d, strL_enc, strL_up, hpN_nil, hpN_cons, qb0, qSplitC, qCutC, continuesC, qJoinC, qTrimC, flIn, hw, hwq, hj, go_sem, reduceCtorEq, ↓reduceIte, Nat.reduceAdd, Nat.reduceMul, Nat.reduceSub, Nat.reduceEqDiff, Nat.reduceLT, Nat.reduceBEq, Nat.reduceBNe, Nat.reduceLeDiff, Int.reduceLE, Int.reduceLT, Int.reduceToNat, Int.reduceEq, Int.reduceAdd, UInt8.reduceToNat, UInt32.reduceToNat, UInt64.reduceToNat, UInt8.reduceOfNat, UInt32.reduceOfNat, UInt64.reduceOfNat, Fin.isValue, Int.reduceSub, Int.reduceMul, Int.reduceNeg, Int.reduceMod, Int.reduceDiv, Int.reduceTDiv, Int.reduceTMod, Int.reduceBEq, Int.reduceBNe, Nat.reduceDiv, Nat.reducePow]
              refine br (fun h3 => ?_) fun h3 => ?_
              · have hql : q < R.length := by have := of_decide_eq_true h3; omega
                have hqm : (R.getD q []).length ≤ 65536 := hRs _ (by rw [List.getD_eq_getElem?_getD, List.getElem?_eq_getElem hql]; exact List.getElem_mem hql)
                cases h4 : contL (R.getD q []) with
                | true =>
                  simp only [envMK, con0, conS, strsOf_arr, rowS_arr, strsOf_cells, rowS_cells, toS, strL_st, strL_d, strL_enc, strL_up, hpN_nil, hpN_cons, qb0, qSplitC, qCutC, continuesC, qJoinC, qTrimC, h3, h4, hw, hwq, hj, strL_st, strL_d, strL_enc, go_sem, reduceCtorEq, ↓reduceIte, Nat.reduceAdd, Nat.reduceMul, Nat.reduceSub, Nat.reduceEqDiff, Nat.reduceLT, Nat.reduceBEq, Nat.reduceBNe, Nat.reduceLeDiff, Int.reduceLE, Int.reduceLT, Int.reduceToNat, Int.reduceEq, Int.reduceAdd, UInt8.reduceToNat, UInt32.reduceToNat, UInt64.reduceToNat, UInt8.reduceOfNat, UInt32.reduceOfNat, UInt64.reduceOfNat, Fin.isValue, Int.reduceSub, Int.reduceMul, Int.reduceNeg, Int.reduceMod, Int.reduceDiv, Int.reduceTDiv, Int.reduceTMod, Int.reduceBEq, Int.reduceBNe, Nat.reduceDiv, Nat.reducePow]
                  repeat' apply And.intro
                  rotate_right
                  · refine again (q + 1) [] ⟨by omega, by omega, fun k k1 k2 => flOk_more hq.2.2 h4 k k1 k2⟩ (by show R.length - (q + 1) < R.length - q; omega) ?_
                    simp only [flIn, hj, envMK, con0, conS, strsOf_arr, rowS_arr, strsOf_cells, rowS_cells, toS, strL_st, strL_d, strL_enc, strL_up, hpN_nil, hpN_cons, qb0, qSplitC, qCutC, continuesC, qJoinC, qTrimC, go_sem, reduceCtorEq, ↓reduceIte, Nat.reduceAdd, Nat.reduceMul, Nat.reduceSub, Nat.reduceEqDiff, Nat.reduceLT, Nat.reduceBEq, Nat.reduceBNe, Nat.reduceLeDiff, Int.reduceLE, Int.reduceLT, Int.reduceToNat, Int.reduceEq, Int.reduceAdd, UInt8.reduceToNat, UInt32.reduceToNat, UInt64.reduceToNat, UInt8.reduceOfNat, UInt32.reduceOfNat, UInt64.reduceOfNat, Fin.isValue, Int.reduceSub, Int.reduceMul, Int.reduceNeg, Int.reduceMod, Int.reduceDiv, Int.reduceTDiv, Int.reduceTMod, Int.reduceBEq, Int.reduceBNe, Nat.reduceDiv, Nat.reducePow]
                  all_goals first | omega | exact rfl | exact id
                | false =>
                  have hV := fldV_at R l i q hq1 hq2 hq.2.2 (.inr h4)
                  have hJ := hRj (i + 1) (q - (i + 1))
                  have hC := cut_len l [58]
                  have hnx' : flOk R ⟨i + 1, [] ++ [((Lib.cut l [58]).1, Lib.trimS ((Lib.cut l [58]).2.1 ++ Lib.join ((R.drop (i + 1)).take (q - (i + 1))) []) [32, 9])]⟩ := by
                    have := hnx
                    simp only [hl, hV] at this
                    exact this
                  have hA : ((Lib.cut l [58]).2.1 ++ Lib.join ((R.drop (i + 1)).take (q - (i + 1))) []).length ≤ 9223372036854775807 := by rw [List.length_append]; omega
                  simp only [envMK, con0, conS, strsOf_arr, rowS_arr, strsOf_cells, rowS_cells, toS, strL_st, strL_d, strL_enc, strL_up, hpN_nil, hpN_cons, qb0, qSplitC, qCutC, continuesC, qJoinC, qTrimC, qJoinF, h3, h4, hw, hwq, hj, strL_st, strL_d, strL_enc, go_sem, reduceCtorEq, ↓reduceIte, Nat.reduceAdd, Nat.reduceMul, Nat.reduceSub, Nat.reduceEqDiff, Nat.reduceLT, Nat.reduceBEq, Nat.reduceBNe, Nat.reduceLeDiff, Int.reduceLE, Int.reduceLT, Int.reduceToNat, Int.reduceEq, Int.reduceAdd, UInt8.reduceToNat, UInt32.reduceToNat, UInt64.reduceToNat, UInt8.reduceOfNat, UInt32.reduceOfNat, UInt64.reduceOfNat, Fin.isValue, Int.reduceSub, Int.reduceMul, Int.reduceNeg, Int.reduceMod, Int.reduceDiv, Int.reduceTDiv, Int.reduceTMod, Int.reduceBEq, Int.reduceBNe, Nat.reduceDiv, Nat.reducePow]
                  repeat' apply And.intro
                  rotate_right
                  · refine again ⟨i + 1, [] ++ [_]⟩ [(500, 130048)] hnx' (by simp only; omega) ?_
                    simp only [flInv, fldL_st, fldL_d, fldL_enc, fldL_up, envMK, con0, conS, strsOf_arr, rowS_arr, strsOf_cells, rowS_cells, toS, strL_st, strL_d, strL_enc, strL_up, hpN_nil, hpN_cons, qb0, qSplitC, qCutC, continuesC, qJoinC, qTrimC, go_sem, reduceCtorEq, ↓reduceIte, Nat.reduceAdd, Nat.reduceMul, Nat.reduceSub, Nat.reduceEqDiff, Nat.reduceLT, Nat.reduceBEq, Nat.reduceBNe, Nat.reduceLeDiff, Int.reduceLE, Int.reduceLT, Int.reduceToNat, Int.reduceEq, Int.reduceAdd, UInt8.reduceToNat, UInt32.reduceToNat, UInt64.reduceToNat, UInt8.reduceOfNat, UInt32.reduceOfNat, UInt64.reduceOfNat, Fin.isValue, Int.reduceSub, Int.reduceMul, Int.reduceNeg, Int.reduceMod, Int.reduceDiv, Int.reduceTDiv, Int.reduceTMod, Int.reduceBEq, Int.reduceBNe, Nat.reduceDiv, Nat.reducePow]
                  all_goals first | omega | exact hA
              · have hqe : q = R.length := by have := of_decide_eq_false h3; omega
                have hV := fldV_at R l i q hq1 hq2 hq.2.2 (.inl (by omega))
                have hJ := hRj (i + 1) (q - (i + 1))
                have hC := cut_len l [58]
                have hnx' : flOk R ⟨i + 1, [] ++ [((Lib.cut l [58]).1, Lib.trimS ((Lib.cut l [58]).2.1 ++ Lib.join ((R.drop (i + 1)).take (q - (i + 1))) []) [32, 9])]⟩ := by
                  have := hnx
                  simp only [hl, hV] at this
                  exact this
                have hA : ((Lib.cut l [58]).2.1 ++ Lib.join ((R.drop (i + 1)).take (q - (i + 1))) []).length ≤ 9223372036854775807 := by rw [List.length_append]; omega
                simp only [envMK, con0, conS, strsOf_arr, rowS_arr, strsOf_cells, rowS_cells, toS, strL_st, strL_d, strL_enc, strL_up, hpN_nil, hpN_cons, qb0, qSplitC, qCutC, continuesC, qJoinC, qTrimC, qJoinF, h3, hw, hwq, hj, strL_st, strL_d, strL_enc, go_sem, reduceCtorEq, ↓reduceIte, Nat.reduceAdd, Nat.reduceMul, Nat.reduceSub, Nat.reduceEqDiff, Nat.reduceLT, Nat.reduceBEq, Nat.reduceBNe, Nat.reduceLeDiff, Int.reduceLE, Int.reduceLT, Int.reduceToNat, Int.reduceEq, Int.reduceAdd, UInt8.reduceToNat, UInt32.reduceToNat, UInt64.reduceToNat, UInt8.reduceOfNat, UInt32.reduceOfNat, UInt64.reduceOfNat, Fin.isValue, Int.reduceSub, Int.reduceMul, Int.reduceNeg, Int.reduceMod, Int.reduceDiv, Int.reduceTDiv, Int.reduceTMod, Int.reduceBEq, Int.reduceBNe, Nat.reduceDiv, Nat.reducePow]
                repeat' apply And.intro
                rotate_right
                · refine again ⟨i + 1, [] ++ [_]⟩ [(500, 130048)] hnx' (by simp only; omega) ?_
                  simp only [flInv, fldL_st, fldL_d, fldL_enc, fldL_up, envMK, con0, conS, strsOf_arr, rowS_arr, strsOf_cells, rowS_cells, toS, strL_st, strL_d, strL_enc, strL_up, hpN_nil, hpN_cons, qb0, qSplitC, qCutC, continuesC, qJoinC, qTrimC, go_sem, reduceCtorEq, ↓reduceIte, Nat.reduceAdd, Nat.reduceMul, Nat.reduceSub, Nat.reduceEqDiff, Nat.reduceLT, Nat.reduceBEq, Nat.reduceBNe, Nat.reduceLeDiff, Int.reduceLE, Int.reduceLT, Int.reduceToNat, Int.reduceEq, Int.reduceAdd, UInt8.reduceToNat, UInt32.reduceToNat, UInt64.reduceToNat, UInt8.reduceOfNat, UInt32.reduceOfNat, UInt64.reduceOfNat, Fin.isValue, Int.reduceSub, Int.reduceMul, Int.reduceNeg, Int.reduceMod, Int.reduceDiv, Int.reduceTDiv, Int.reduceTMod, Int.reduceBEq, Int.reduceBNe, Nat.reduceDiv, Nat.reducePow]
                all_goals first | omega | exact hA
      · have hge : R.length ≤ i := by have := of_decide_eq_false h; omega
        have he := flOk_end hx hge
        simp only at he
        have e1 : fldAV (fieldsL s) = .val (.slice none 0 0) := by rw [hfe, ← he]; rfl
        have e2 : fieldsO s = [] := by unfold fieldsO; rw [hfe, ← he]; rfl
        rw [e1, e2]
        simp only [envMK, con0, conS, strsOf_arr, rowS_arr, strsOf_cells, rowS_cells, toS, strL_st, strL_d, strL_enc, strL_up, hpN_nil, hpN_cons, qb0, qSplitC, qCutC, continuesC, qJoinC, qTrimC, go_sem, reduceCtorEq, ↓reduceIte, Nat.reduceAdd, Nat.reduceMul, Nat.reduceSub, Nat.reduceEqDiff, Nat.reduceLT, Nat.reduceBEq, Nat.reduceBNe, Nat.reduceLeDiff, Int.reduceLE, Int.reduceLT, Int.reduceToNat, Int.reduceEq, Int.reduceAdd, UInt8.reduceToNat, UInt32.reduceToNat, UInt64.reduceToNat, UInt8.reduceOfNat, UInt32.reduceOfNat, UInt64.reduceOfNat, Fin.isValue, Int.reduceSub, Int.reduceMul, Int.reduceNeg, Int.reduceMod, Int.reduceDiv, Int.reduceTDiv, Int.reduceTMod, Int.reduceBEq, Int.reduceBNe, Nat.reduceDiv, Nat.reducePow]
        refine endX [] ?_
        simp only [envMK, con0, conS, strsOf_arr, rowS_arr, strsOf_cells, rowS_cells, toS, strL_st, strL_d, strL_enc, strL_up, hpN_nil, hpN_cons, qb0, qSplitC, qCutC, continuesC, qJoinC, qTrimC, go_sem, reduceCtorEq, ↓reduceIte, Nat.reduceAdd, Nat.reduceMul, Nat.reduceSub, Nat.reduceEqDiff, Nat.reduceLT, Nat.reduceBEq, Nat.reduceBNe, Nat.reduceLeDiff, Int.reduceLE, Int.reduceLT, Int.reduceToNat, Int.reduceEq, Int.reduceAdd, UInt8.reduceToNat, UInt32.reduceToNat, UInt64.reduceToNat, UInt8.reduceOfNat, UInt32.reduceOfNat, UInt64.reduceOfNat, Fin.isValue, Int.reduceSub, Int.reduceMul, Int.reduceNeg, Int.reduceMod, Int.reduceDiv, Int.reduceTDiv, Int.reduceTMod, Int.reduceBEq, Int.reduceBNe, Nat.reduceDiv, Nat.reducePow]
    · simp only [envMK, con0, conS, strsOf_arr, rowS_arr, strsOf_cells, rowS_cells, toS, strL_st, strL_d, strL_enc, strL_up, hpN_nil, hpN_cons, qb0, qSplitC, qCutC, continuesC, qJoinC, qTrimC, flInv, hw, hj, go_sem, reduceCtorEq, ↓reduceIte, Nat.reduceAdd, Nat.reduceMul, Nat.reduceSub, Nat.reduceEqDiff, Nat.reduceLT, Nat.reduceBEq, Nat.reduceBNe, Nat.reduceLeDiff, Int.reduceLE, Int.reduceLT, Int.reduceToNat, Int.reduceEq, Int.reduceAdd, UInt8.reduceToNat, UInt32.reduceToNat, UInt64.reduceToNat, UInt8.reduceOfNat, UInt32.reduceOfNat, UInt64.reduceOfNat, Fin.isValue, Int.reduceSub, Int.reduceMul, Int.reduceNeg, Int.reduceMod, Int.reduceDiv, Int.reduceTDiv, Int.reduceTMod, Int.reduceBEq, Int.reduceBNe, Nat.reduceDiv, Nat.reducePow]
      refine br (fun h => ?_) fun h => ?_
      · have hlt : i < R.length := by have := of_decide_eq_true h; omega
        have hlm : (R.getD i []).length ≤ 65536 := hRs _ (by rw [List.getD_eq_getElem?_getD, List.getElem?_eq_getElem hlt]; exact List.getElem_mem hlt)
        generalize hl : R.getD i [] = l at hlm
        cases h1 : (Lib.cut l [58]).2.2 with
        | false =>
          have hnx := flOk_skip hx hlt (by rw [hl]; unfold fldB colon; rw [h1]; rfl)
          simp only [envMK, con0, conS, strsOf_arr, rowS_arr, strsOf_cells, rowS_cells, toS, strL_st, strL_d, strL_enc, strL_up, hpN_nil, hpN_cons, qb0, qSplitC, qCutC, continuesC, qJoinC, qTrimC, hl, h1, hw, hj, strL_st, strL_d, strL_enc, fldL_st, fldL_d, fldL_enc, fldL_up, go_sem, reduceCtorEq, ↓reduceIte, Nat.reduceAdd, Nat.reduceMul, Nat.reduceSub, Nat.reduceEqDiff, Nat.reduceLT, Nat.reduceBEq, Nat.reduceBNe, Nat.reduceLeDiff, Int.reduceLE, Int.reduceLT, Int.reduceToNat, Int.reduceEq, Int.reduceAdd, UInt8.reduceToNat, UInt32.reduceToNat, UInt64.reduceToNat, UInt8.reduceOfNat, UInt32.reduceOfNat, UInt64.reduceOfNat, Fin.isValue, Int.reduceSub, Int.reduceMul, Int.reduceNeg, Int.reduceMod, Int.reduceDiv, Int.reduceTDiv, Int.reduceTMod, Int.reduceBEq, Int.reduceBNe, Nat.reduceDiv, Nat.reducePow]
          repeat' apply And.intro
          rotate_right
          · refine again ⟨i + 1, acc⟩ [] hnx (by simp only; omega) ?_
            simp only [flInv, hj, List.length_append, envMK, con0, conS, strsOf_arr, rowS_arr, strsOf_cells, rowS_cells, toS, strL_st, strL_d, strL_enc, strL_up, hpN_nil, hpN_cons, qb0, qSplitC, qCutC, continuesC, qJoinC, qTrimC, go_sem, reduceCtorEq, ↓reduceIte, Nat.reduceAdd, Nat.reduceMul, Nat.reduceSub, Nat.reduceEqDiff, Nat.reduceLT, Nat.reduceBEq, Nat.reduceBNe, Nat.reduceLeDiff, Int.reduceLE, Int.reduceLT, Int.reduceToNat, Int.reduceEq, Int.reduceAdd, UInt8.reduceToNat, UInt32.reduceToNat, UInt64.reduceToNat, UInt8.reduceOfNat, UInt32.reduceOfNat, UInt64.reduceOfNat, Fin.isValue, Int.reduceSub, Int.reduceMul, Int.reduceNeg, Int.reduceMod, Int.reduceDiv, Int.reduceTDiv, Int.reduceTMod, Int.reduceBEq, Int.reduceBNe, Nat.reduceDiv, Nat.reducePow]
          all_goals first | omega | exact rfl | exact id
        | true =>
          cases h2 : contL l with
          | true =>
            have hnx := flOk_skip hx hlt (by rw [hl]; unfold fldB; rw [h2]; simp)
            simp only [envMK, con0, conS, strsOf_arr, rowS_arr, strsOf_cells, rowS_cells, toS, strL_st, strL_d, strL_enc, strL_up, hpN_nil, hpN_cons, qb0, qSplitC, qCutC, continuesC, qJoinC, qTrimC, hl, h1, h2, hw, hj, strL_st, strL_d, strL_enc, fldL_st, fldL_d, fldL_enc, fldL_up, go_sem, reduceCtorEq, ↓reduceIte, Nat.reduceAdd, Nat.reduceMul, Nat.reduceSub, Nat.reduceEqDiff, Nat.reduceLT, Nat.reduceBEq, Nat.reduceBNe, Nat.reduceLeDiff, Int.reduceLE, Int.reduceLT, Int.reduceToNat, Int.reduceEq, Int.reduceAdd, UInt8.reduceToNat, UInt32.reduceToNat, UInt64.reduceToNat, UInt8.reduceOfNat, UInt32.reduceOfNat, UInt64.reduceOfNat, Fin.isValue, Int.reduceSub, Int.reduceMul, Int.reduceNeg, Int.reduceMod, Int.reduceDiv, Int.reduceTDiv, Int.reduceTMod, Int.reduceBEq, Int.reduceBNe, Nat.reduceDiv, Nat.reducePow]
            repeat' apply And.intro
            rotate_right
            · refine again ⟨i + 1, acc⟩ [] hnx (by simp only; omega) ?_
              simp only [flInv, hj, List.length_append, envMK, con0, conS, strsOf_arr, rowS_arr, strsOf_cells, rowS_cells, toS, strL_st, strL_d, strL_enc, strL_up, hpN_nil, hpN_cons, qb0, qSplitC, qCutC, continuesC, qJoinC, qTrimC, go_sem, reduceCtorEq, ↓reduceIte, Nat.reduceAdd, Nat.reduceMul, Nat.reduceSub, Nat.reduceEqDiff, Nat.reduceLT, Nat.reduceBEq, Nat.reduceBNe, Nat.reduceLeDiff, Int.reduceLE, Int.reduceLT, Int.reduceToNat, Int.reduceEq, Int.reduceAdd, UInt8.reduceToNat, UInt32.reduceToNat, UInt64.reduceToNat, UInt8.reduceOfNat, UInt32.reduceOfNat, UInt64.reduceOfNat, Fin.isValue, Int.reduceSub, Int.reduceMul, Int.reduceNeg, Int.reduceMod, Int.reduceDiv, Int.reduceTDiv, Int.reduceTMod, Int.reduceBEq, Int.reduceBNe, Nat.reduceDiv, Nat.reducePow]
            all_goals first | omega | exact rfl | exact id
          | false =>
            have hnx := flOk_add hx hlt (by rw [hl]; unfold fldB colon; rw [h1, h2]; rfl)
            simp only [envMK, con0, conS, strsOf_arr, rowS_arr, strsOf_cells, rowS_cells, toS, strL_st, strL_d, strL_enc, strL_up, hpN_nil, hpN_cons, qb0, qSplitC, qCutC, continuesC, qJoinC, qTrimC, hl, h1, h2, hw, hj, strL_st, strL_d, strL_enc, fldL_st, fldL_d, fldL_enc, fldL_up, go_sem, reduceCtorEq, ↓reduceIte, Nat.reduceAdd, Nat.reduceMul, Nat.reduceSub, Nat.reduceEqDiff, Nat.reduceLT, Nat.reduceBEq, Nat.reduceBNe, Nat.reduceLeDiff, Int.reduceLE, Int.reduceLT, Int.reduceToNat, Int.reduceEq, Int.reduceAdd, UInt8.reduceToNat, UInt32.reduceToNat, UInt64.reduceToNat, UInt8.reduceOfNat, UInt32.reduceOfNat, UInt64.reduceOfNat, Fin.isValue, Int.reduceSub, Int.reduceMul, Int.reduceNeg, Int.reduceMod, Int.reduceDiv, Int.reduceTDiv, Int.reduceTMod, Int.reduceBEq, Int.reduceBNe, Nat.reduceDiv, Nat.reducePow]
            refine ⟨⟨by omega, by omega⟩, hlt, by omega, by omega, loop_inv (envMK_ok qb0_ok 65 []) (flIn R acc i l) (fun q => i + 1 ≤ q ∧ q ≤ R.length ∧ ∀ k, i + 1 ≤ k → k < q → contL (R.getD k []) = true) (fun q => R.length - q) (i + 1) [] ⟨Nat.le_refl _, hlt, fun k k1 k2 => by omega⟩ ?_ ?_⟩
            · simp only [flIn, flInv, hj, go_sem, reduceCtorEq, ↓reduceIte, Nat.reduceAdd, Nat.reduceMul, Nat.reduceSub, Nat.reduceEqDiff, Nat.reduceLT, Nat.reduceBEq, Nat.reduceBNe, Nat.reduceLeDiff, Int.reduceLE, Int.reduceLT, Int.reduceToNat, Int.reduceEq, Int.reduceAdd, UInt8.reduceToNat, UInt32.reduceToNat, UInt64.reduceToNat, UInt8.reduceOfNat, UInt32.reduceOfNat, UInt64.reduceOfNat, Fin.isValue, Int.reduceSub, Int.reduceMul, Int.reduceNeg, Int.reduceMod, Int.reduceDiv, Int.reduceTDiv, Int.reduceTMod, Int.reduceBEq, Int.reduceBNe, Nat.reduceDiv, Nat.reducePow]
            · intro q hq
              have hq1 := hq.1
              have hq2 := hq.2.1
              have hwq : IntKind.i64.wrap ((q : Int) + 1) = ((q + 1 : Nat) : Int) := by rw [IntKind.wrap_i64]; omega
              simp only [envMK, con0, conS, strsOf_arr, rowS_arr, strsOf_cells, rowS_cells, toS, strL_st, strL_d, strL_enc, strL_up, hpN_nil, hpN_cons, qb0, qSplitC, qCutC, continuesC, qJoinC, qTrimC, flIn, hw, hwq, hj, go_sem, reduceCtorEq, ↓reduceIte, Nat.reduceAdd, Nat.reduceMul, Nat.reduceSub, Nat.reduceEqDiff, Nat.reduceLT, Nat.reduceBEq, Nat.reduceBNe, Nat.reduceLeDiff, Int.reduceLE, Int.reduceLT, Int.reduceToNat, Int.reduceEq, Int.reduceAdd, UInt8.reduceToNat, UInt32.reduceToNat, UInt64.reduceToNat, UInt8.reduceOfNat, UInt32.reduceOfNat, UInt64.reduceOfNat, Fin.isValue, Int.reduceSub, Int.reduceMul, Int.reduceNeg, Int.reduceMod, Int.reduceDiv, Int.reduceTDiv, Int.reduceTMod, Int.reduceBEq, Int.reduceBNe, Nat.reduceDiv, Nat.reducePow]
              refine br (fun h3 => ?_) fun h3 => ?_
              · have hql : q < R.length := by have := of_decide_eq_true h3; omega
                have hqm : (R.getD q []).length ≤ 65536 := hRs _ (by rw [List.getD_eq_getElem?_getD, List.getElem?_eq_getElem hql]; exact List.getElem_mem hql)
                cases h4 : contL (R.getD q []) with
                | true =>
                  simp only [envMK, con0, conS, strsOf_arr, rowS_arr, strsOf_cells, rowS_cells, toS, strL_st, strL_d, strL_enc, strL_up, hpN_nil, hpN_cons, qb0, qSplitC, qCutC, continuesC, qJoinC, qTrimC, h3, h4, hw, hwq, hj, strL_st, strL_d, strL_enc, fldL_st, fldL_d, fldL_enc, fldL_up, go_sem, reduceCtorEq, ↓reduceIte, Nat.reduceAdd, Nat.reduceMul, Nat.reduceSub, Nat.reduceEqDiff, Nat.reduceLT, Nat.reduceBEq, Nat.reduceBNe, Nat.reduceLeDiff, Int.reduceLE, Int.reduceLT, Int.reduceToNat, Int.reduceEq, Int.reduceAdd, UInt8.reduceToNat, UInt32.reduceToNat, UInt64.reduceToNat, UInt8.reduceOfNat, UInt32.reduceOfNat, UInt64.reduceOfNat, Fin.isValue, Int.reduceSub, Int.reduceMul, Int.reduceNeg, Int.reduceMod, Int.reduceDiv, Int.reduceTDiv, Int.reduceTMod, Int.reduceBEq, Int.reduceBNe, Nat.reduceDiv, Nat.reducePow]
                  repeat' apply And.intro
                  rotate_right
                  · refine again (q + 1) [] ⟨by omega, by omega, fun k k1 k2 => flOk_more hq.2.2 h4 k k1 k2⟩ (by show R.length - (q + 1) < R.length - q; omega) ?_
                    simp only [flIn, hj, envMK, con0, conS, strsOf_arr, rowS_arr, strsOf_cells, rowS_cells, toS, strL_st, strL_d, strL_enc, strL_up, hpN_nil, hpN_cons, qb0, qSplitC, qCutC, continuesC, qJoinC, qTrimC, go_sem, reduceCtorEq, ↓reduceIte, Nat.reduceAdd, Nat.reduceMul, Nat.reduceSub, Nat.reduceEqDiff, Nat.reduceLT, Nat.reduceBEq, Nat.reduceBNe, Nat.reduceLeDiff, Int.reduceLE, Int.reduceLT, Int.reduceToNat, Int.reduceEq, Int.reduceAdd, UInt8.reduceToNat, UInt32.reduceToNat, UInt64.reduceToNat, UInt8.reduceOfNat, UInt32.reduceOfNat, UInt64.reduceOfNat, Fin.isValue, Int.reduceSub, Int.reduceMul, Int.reduceNeg, Int.reduceMod, Int.reduceDiv, Int.reduceTDiv, Int.reduceTMod, Int.reduceBEq, Int.reduceBNe, Nat.reduceDiv, Nat.reducePow]
                  all_goals first | omega | exact rfl | exact id
                | false =>
                  have hV := fldV_at R l i q hq1 hq2 hq.2.2 (.inr h4)
                  have hJ := hRj (i + 1) (q - (i + 1))
                  have hC := cut_len l [58]
                  have hnx' : flOk R ⟨i + 1, acc ++ [((Lib.cut l [58]).1, Lib.trimS ((Lib.cut l [58]).2.1 ++ Lib.join ((R.drop (i + 1)).take (q - (i + 1))) []) [32, 9])]⟩ := by
                    have := hnx
                    simp only [hl, hV] at this
                    exact this
                  have hA : ((Lib.cut l [58]).2.1 ++ Lib.join ((R.drop (i + 1)).take (q - (i + 1))) []).length ≤ 9223372036854775807 := by rw [List.length_append]; omega
                  simp only [envMK, con0, conS, strsOf_arr, rowS_arr, strsOf_cells, rowS_cells, toS, strL_st, strL_d, strL_enc, strL_up, hpN_nil, hpN_cons, qb0, qSplitC, qCutC, continuesC, qJoinC, qTrimC, qJoinF, h3, h4, hw, hwq, hj, strL_st, strL_d, strL_enc, fldL_st, fldL_d, fldL_enc, fldL_up, go_sem, reduceCtorEq, ↓reduceIte, Nat.reduceAdd, Nat.reduceMul, Nat.reduceSub, Nat.reduceEqDiff, Nat.reduceLT, Nat.reduceBEq, Nat.reduceBNe, Nat.reduceLeDiff, Int.reduceLE, Int.reduceLT, Int.reduceToNat, Int.reduceEq, Int.reduceAdd, UInt8.reduceToNat, UInt32.reduceToNat, UInt64.reduceToNat, UInt8.reduceOfNat, UInt32.reduceOfNat, UInt64.reduceOfNat, Fin.isValue, Int.reduceSub, Int.reduceMul, Int.reduceNeg, Int.reduceMod, Int.reduceDiv, Int.reduceTDiv, Int.reduceTMod, Int.reduceBEq, Int.reduceBNe, Nat.reduceDiv, Nat.reducePow]
                  repeat' apply And.intro
                  rotate_right
                  · refine again ⟨i + 1, acc ++ [_]⟩ [(500, 130048)] hnx' (by simp only; omega) ?_
                    simp only [flInv, hj, List.length_append, fldL_st, fldL_d, fldL_enc, fldL_up, envMK, con0, conS, strsOf_arr, rowS_arr, strsOf_cells, rowS_cells, toS, strL_st, strL_d, strL_enc, strL_up, hpN_nil, hpN_cons, qb0, qSplitC, qCutC, continuesC, qJoinC, qTrimC, go_sem, reduceCtorEq, ↓reduceIte, Nat.reduceAdd, Nat.reduceMul, Nat.reduceSub, Nat.reduceEqDiff, Nat.reduceLT, Nat.reduceBEq, Nat.reduceBNe, Nat.reduceLeDiff, Int.reduceLE, Int.reduceLT, Int.reduceToNat, Int.reduceEq, Int.reduceAdd, UInt8.reduceToNat, UInt32.reduceToNat, UInt64.reduceToNat, UInt8.reduceOfNat, UInt32.reduceOfNat, UInt64.reduceOfNat, Fin.isValue, Int.reduceSub, Int.reduceMul, Int.reduceNeg, Int.reduceMod, Int.reduceDiv, Int.reduceTDiv, Int.reduceTMod, Int.reduceBEq, Int.reduceBNe, Nat.reduceDiv, Nat.reducePow]
                  all_goals first | omega | exact hA
              · have hqe : q = R.length := by have := of_decide_eq_false h3; omega
                have hV := fldV_at R l i q hq1 hq2 hq.2.2 (.inl (by omega))
                have hJ := hRj (i + 1) (q - (i + 1))
                have hC := cut_len l [58]
                have hnx' : flOk R ⟨i + 1, acc ++ [((Lib.cut l [58]).1, Lib.trimS ((Lib.cut l [58]).2.1 ++ Lib.join ((R.drop (i + 1)).take (q - (i + 1))) []) [32, 9])]⟩ := by
                  have := hnx
                  simp only [hl, hV] at this
                  exact this
                have hA : ((Lib.cut l [58]).2.1 ++ Lib.join ((R.drop (i + 1)).take (q - (i + 1))) []).length ≤ 9223372036854775807 := by rw [List.length_append]; omega
                simp only [envMK, con0, conS, strsOf_arr, rowS_arr, strsOf_cells, rowS_cells, toS, strL_st, strL_d, strL_enc, strL_up, hpN_nil, hpN_cons, qb0, qSplitC, qCutC, continuesC, qJoinC, qTrimC, qJoinF, h3, hw, hwq, hj, strL_st, strL_d, strL_enc, fldL_st, fldL_d, fldL_enc, fldL_up, go_sem, reduceCtorEq, ↓reduceIte, Nat.reduceAdd, Nat.reduceMul, Nat.reduceSub, Nat.reduceEqDiff, Nat.reduceLT, Nat.reduceBEq, Nat.reduceBNe, Nat.reduceLeDiff, Int.reduceLE, Int.reduceLT, Int.reduceToNat, Int.reduceEq, Int.reduceAdd, UInt8.reduceToNat, UInt32.reduceToNat, UInt64.reduceToNat, UInt8.reduceOfNat, UInt32.reduceOfNat, UInt64.reduceOfNat, Fin.isValue, Int.reduceSub, Int.reduceMul, Int.reduceNeg, Int.reduceMod, Int.reduceDiv, Int.reduceTDiv, Int.reduceTMod, Int.reduceBEq, Int.reduceBNe, Nat.reduceDiv, Nat.reducePow]
                repeat' apply And.intro
                rotate_right
                · refine again ⟨i + 1, acc ++ [_]⟩ [(500, 130048)] hnx' (by simp only; omega) ?_
                  simp only [flInv, hj, List.length_append, fldL_st, fldL_d, fldL_enc, fldL_up, envMK, con0, conS, strsOf_arr, rowS_arr, strsOf_cells, rowS_cells, toS, strL_st, strL_d, strL_enc, strL_up, hpN_nil, hpN_cons, qb0, qSplitC, qCutC, continuesC, qJoinC, qTrimC, go_sem, reduceCtorEq, ↓reduceIte, Nat.reduceAdd, Nat.reduceMul, Nat.reduceSub, Nat.reduceEqDiff, Nat.reduceLT, Nat.reduceBEq, Nat.reduceBNe, Nat.reduceLeDiff, Int.reduceLE, Int.reduceLT, Int.reduceToNat, Int.reduceEq, Int.reduceAdd, UInt8.reduceToNat, UInt32.reduceToNat, UInt64.reduceToNat, UInt8.reduceOfNat, UInt32.reduceOfNat, UInt64.reduceOfNat, Fin.isValue, Int.reduceSub, Int.reduceMul, Int.reduceNeg, Int.reduceMod, Int.reduceDiv, Int.reduceTDiv, Int.reduceTMod, Int.reduceBEq, Int.reduceBNe, Nat.reduceDiv, Nat.reducePow]
                all_goals first | omega | exact hA
      · have hge : R.length ≤ i := by have := of_decide_eq_false h; omega
        have he := flOk_end hx hge
        simp only at he
        have hne : acc.isEmpty = false := by cases acc with | nil => simp at hj | cons _ _ => rfl
        have e1 : fldAV (fieldsL s) = .sl 0 0 2 (j + 1) := by rw [hfe, ← he]; unfold fldAV; rw [hne, hj]; rfl
        have e2 : fieldsO s = [.arr _ fldL acc] := by unfold fieldsO; rw [hfe, ← he, hne]; rfl
        rw [e1, e2]
        simp only [envMK, con0, conS, strsOf_arr, rowS_arr, strsOf_cells, rowS_cells, toS, strL_st, strL_d, strL_enc, strL_up, hpN_nil, hpN_cons, qb0, qSplitC, qCutC, continuesC, qJoinC, qTrimC, hj, go_sem, reduceCtorEq, ↓reduceIte, Nat.reduceAdd, Nat.reduceMul, Nat.reduceSub, Nat.reduceEqDiff, Nat.reduceLT, Nat.reduceBEq, Nat.reduceBNe, Nat.reduceLeDiff, Int.reduceLE, Int.reduceLT, Int.reduceToNat, Int.reduceEq, Int.reduceAdd, UInt8.reduceToNat, UInt32.reduceToNat, UInt64.reduceToNat, UInt8.reduceOfNat, UInt32.reduceOfNat, UInt64.reduceOfNat, Fin.isValue, Int.reduceSub, Int.reduceMul, Int.reduceNeg, Int.reduceMod, Int.reduceDiv, Int.reduceTDiv, Int.reduceTMod, Int.reduceBEq, Int.reduceBNe, Nat.reduceDiv, Nat.reducePow]
        refine endX [(0, 500)] ?_
        simp only [envMK, con0, conS, strsOf_arr, rowS_arr, strsOf_cells, rowS_cells, toS, strL_st, strL_d, strL_enc, strL_up, hpN_nil, hpN_cons, qb0, qSplitC, qCutC, continuesC, qJoinC, qTrimC, hj, go_sem, reduceCtorEq, ↓reduceIte, Nat.reduceAdd, Nat.reduceMul, Nat.reduceSub, Nat.reduceEqDiff, Nat.reduceLT, Nat.reduceBEq, Nat.reduceBNe, Nat.reduceLeDiff, Int.reduceLE, Int.reduceLT, Int.reduceToNat, Int.reduceEq, Int.reduceAdd, UInt8.reduceToNat, UInt32.reduceToNat, UInt64.reduceToNat, UInt8.reduceOfNat, UInt32.reduceOfNat, UInt64.reduceOfNat, Fin.isValue, Int.reduceSub, Int.reduceMul, Int.reduceNeg, Int.reduceMod, Int.reduceDiv, Int.reduceTDiv, Int.reduceTMod, Int.reduceBEq, Int.reduceBNe, Nat.reduceDiv, Nat.reducePow]

end Go.Proofs.YtgfcdkbbkgamnaaDoor
