/-
  The document's digits to the base 256: the least number modulo 2^130 - 5.
-/
import Derived.Test.YthgemadhhkocgaaSz
import Derived.Test.YthgemadhhkocgaaDc
namespace Go.Proofs.Ythgemadhhkocgaa
open Go Go.RowKit
set_option maxHeartbeats 4000000
set_option linter.unusedSimpArgs false
set_option linter.unusedVariables false
def nAt (l : List Nat) (j : Nat) : Nat := l.getD (16 + j) 0 / 4 + l.getD (16 + j + 1) 0 % 4 * 64
def highL (l : List Nat) (m : Nat) : List Nat := (List.range m).map (nAt l)
def moreB (l : List Nat) : Nat → Bool
  | 0 => false
  | m + 1 => moreB l m || decide (0 < nAt l m)
def lowF (l : List Nat) : List Nat := l.take 16 ++ [l.getD 16 0 % 4]
theorem highL_len (l : List Nat) (m : Nat) : (highL l m).length = m := by simp [highL]
theorem highL_succ (l : List Nat) (m : Nat) : highL l (m + 1) = highL l m ++ [nAt l m] := by simp [highL, List.range_succ]
theorem nAt_lt {l : List Nat} (h : dlt 256 l) (j : Nat) : nAt l j < 256 := by
  have h1 := h (16 + j)
  have h2 := h (16 + j + 1)
  unfold nAt; omega
theorem highL_lt {l : List Nat} (h : dlt 256 l) : ∀ m, dlt 256 (highL l m)
  | 0 => dlt_nil (by decide)
  | m + 1 => by rw [highL_succ]; exact dlt_append (highL_lt h m) (dlt_mk (nAt_lt h m) (dlt_nil (by decide)))
theorem high_tele (l : List Nat) : ∀ m, 4 * dv 256 (highL l m) + l.getD 16 0 % 4 = dv 256 ((l.drop 16).take m) + (l.getD (16 + m) 0 % 4) * 256 ^ m
  | 0 => by simp [highL, dv]
  | m + 1 => by
    have ih := high_tele l m
    have hg : (l.drop 16).getD m 0 = l.getD (16 + m) 0 := by simp only [List.getD_eq_getElem?_getD, List.getElem?_drop]
    have hd := Nat.div_add_mod (l.getD (16 + m) 0) 4
    rw [highL_succ, dv_append, highL_len, dv_take, hg, Nat.pow_succ, show 16 + (m + 1) = 16 + m + 1 by omega]
    simp only [dv, Nat.mul_zero, Nat.add_zero, nAt]
    generalize l.getD (16 + m) 0 = x at *
    generalize l.getD (16 + m + 1) 0 % 4 = y at *
    generalize x / 4 = q at *
    generalize x % 4 = r at *
    generalize 256 ^ m = Q at *
    generalize dv 256 (highL l m) = H at *
    generalize dv 256 ((l.drop 16).take m) = D at *
    generalize l.getD 16 0 % 4 = z at *
    subst hd
    have e : 4 * (H + Q * (q + y * 64)) + z = (4 * H + z) + 4 * (Q * q) + y * (Q * 256) := by grind
    rw [e, ih]
    grind
theorem low_lt {l : List Nat} (h : dlt 256 l) : dlt 256 (lowF l) := by
  have ht : dlt 256 (l.take 16) := fun i => by
    rw [List.getD_eq_getElem?_getD, List.getElem?_take]
    split
    · rw [← List.getD_eq_getElem?_getD]; exact h i
    · simp
  exact dlt_append ht (dlt_mk (by omega) (dlt_nil (by decide)))
theorem low_len {l : List Nat} (h : 17 ≤ l.length) : (lowF l).length = 17 := by simp [lowF]; omega
theorem take16 {l : List Nat} (h : dlt 256 l) (hl : 16 ≤ l.length) : dv 256 (l.take 16) < 256 ^ 16 := by
  have ht : dlt 256 (l.take 16) := fun i => by
    rw [List.getD_eq_getElem?_getD, List.getElem?_take]
    split
    · rw [← List.getD_eq_getElem?_getD]; exact h i
    · simp
  have := dv_lt (by decide : 0 < 256) ht
  rwa [List.length_take, Nat.min_eq_left hl] at this
theorem low_v {l : List Nat} (h : 17 ≤ l.length) : dv 256 (lowF l) = dv 256 (l.take 16) + 256 ^ 16 * (l.getD 16 0 % 4) := by
  rw [lowF, dv_append, List.length_take, Nat.min_eq_left (by omega)]
  simp [dv]
theorem low_bd {l : List Nat} (hd : dlt 256 l) (h : 17 ≤ l.length) : dv 256 (lowF l) < 1361129467683753853853498429727072845824 := by
  have := take16 hd (by omega)
  rw [low_v h]
  simp only [Nat.reducePow] at *
  omega
theorem split_v {l : List Nat} (h : 17 ≤ l.length) : dv 256 (lowF l) + 1361129467683753853853498429727072845824 * dv 256 (highL l (l.length - 16)) = dv 256 l := by
  have ht := high_tele l (l.length - 16)
  have h0 : l.getD (16 + (l.length - 16)) 0 = 0 := getD_out (by omega)
  rw [h0, List.take_of_length_le (by rw [List.length_drop]; omega)] at ht
  have hs : dv 256 l = dv 256 (l.take 16) + 256 ^ 16 * dv 256 (l.drop 16) := by
    conv => lhs; rw [← List.take_append_drop 16 l]
    rw [dv_append, List.length_take, Nat.min_eq_left (by omega)]
  rw [low_v h, hs]
  simp only [Nat.reducePow] at *
  omega
theorem more_no (l : List Nat) : ∀ m, moreB l m = false → dv 256 (highL l m) = 0
  | 0, _ => rfl
  | m + 1, h => by
    simp only [moreB, Bool.or_eq_false_iff] at h
    have h1 := more_no l m h.1
    have h2 := of_decide_eq_false h.2
    have h3 : nAt l m = 0 := by omega
    rw [highL_succ, dv_append, h1]
    simp [dv, h3]
theorem more_yes (l : List Nat) : ∀ m, moreB l m = true → 0 < dv 256 (highL l m)
  | 0, h => by cases h
  | m + 1, h => by
    simp only [moreB, Bool.or_eq_true] at h
    rw [highL_succ, dv_append]
    have hp : 0 < 256 ^ (highL l m).length := Nat.pow_pos (by decide)
    rcases h with h | h
    · have := more_yes l m h; omega
    · have h2 := of_decide_eq_true h
      simp only [dv, Nat.mul_zero, Nat.add_zero]
      exact Nat.lt_of_lt_of_le (Nat.mul_pos hp h2) (Nat.le_add_left _ _)
def nextL (l : List Nat) : List Nat := addL 256 (lowF l) (timesL 256 (highL l (l.length - 16)) [5])
theorem five_lt : dlt 256 [5] := dlt_mk (by decide) (dlt_nil (by decide))
theorem next_spec {l : List Nat} (hd : dlt 256 l) (h : 17 ≤ l.length) (h' : l.length ≤ 100) : dlt 256 (nextL l) ∧ 17 ≤ (nextL l).length ∧ (nextL l).length ≤ 100 ∧ dv 256 (nextL l) % 1361129467683753853853498429727072845819 = dv 256 l % 1361129467683753853853498429727072845819 ∧ (moreB l (l.length - 16) = true → dv 256 (nextL l) < dv 256 l) := by
  have hl := low_lt hd
  have ht := timesL_lt (by decide : 1 < 256) (highL_lt hd (l.length - 16)) five_lt
  have hv := addL_v (by decide : 1 < 256) hl ht
  rw [timesL_v] at hv
  have e5 : dv 256 [5] = 5 := rfl
  rw [e5] at hv
  have hs := split_v h
  have hlen := addLen_bd 256 (lowF l) (timesL 256 (highL l (l.length - 16)) [5])
  rw [timesL_len, highL_len, low_len h] at hlen
  have e1 : [5].length = 1 := rfl
  rw [e1] at hlen
  have hn : (nextL l).length = addLen 256 (lowF l) (timesL 256 (highL l (l.length - 16)) [5]) := addL_len _ _ _
  refine ⟨addL_lt (by decide) _ _, by omega, by omega, ?_, fun hm => ?_⟩
  · rw [← hs]
    show dv 256 (nextL l) % _ = _
    rw [show dv 256 (nextL l) = dv 256 (lowF l) + dv 256 (highL l (l.length - 16)) * 5 from hv]
    have e : dv 256 (lowF l) + 1361129467683753853853498429727072845824 * dv 256 (highL l (l.length - 16)) = dv 256 (lowF l) + dv 256 (highL l (l.length - 16)) * 5 + 1361129467683753853853498429727072845819 * dv 256 (highL l (l.length - 16)) := by omega
    rw [e, Nat.add_mul_mod_self_left]
  · have := more_yes l _ hm
    rw [show dv 256 (nextL l) = dv 256 (lowF l) + dv 256 (highL l (l.length - 16)) * 5 from hv, ← hs]
    omega
def fiveL (w : List Nat) : List Nat := addL 256 w [5]
theorem digit_at {l : List Nat} (hd : dlt 256 l) (h : l.length = 17) : l.getD 16 0 = dv 256 l / 256 ^ 16 := by
  have ht := take16 hd (by omega)
  have hs := dv_take 256 l 16
  rw [dv_all 256 l 17 (by omega)] at hs
  rw [hs]
  simp only [Nat.reducePow] at *
  omega
theorem five_spec {w : List Nat} (hd : dlt 256 w) (h : w.length = 17) (hv : dv 256 w < 1361129467683753853853498429727072845824) : (fiveL w).length = 17 ∧ dv 256 (fiveL w) = dv 256 w + 5 ∧ dlt 256 (fiveL w) := by
  have h1 := addL_v (by decide : 1 < 256) hd five_lt
  have e5 : dv 256 [5] = 5 := rfl
  rw [e5] at h1
  refine ⟨?_, h1, addL_lt (by decide) _ _⟩
  show (addL 256 w [5]).length = 17
  rw [addL_len]
  have hm : max w.length [5].length = 17 := by rw [h]; rfl
  unfold addLen
  rw [hm]
  have hg := addG_v 256 w [5] 17
  rw [dv_all 256 w 17 (by omega), dv_all 256 [5] 17 (by decide), e5] at hg
  rw [if_pos]
  rcases Nat.eq_zero_or_pos (addG 256 w [5] 17).2 with h0 | h0
  · exact h0
  · have : 256 ^ 17 ≤ (addG 256 w [5] 17).2 * 256 ^ 17 := Nat.le_mul_of_pos_left _ h0
    simp only [Nat.reducePow] at *
    omega
theorem red_low {a l : List Nat} (hd : dlt 256 l) (h : 17 ≤ l.length) (hm : moreB l (l.length - 16) = false) (hv : dv 256 l % 1361129467683753853853498429727072845819 = dv 256 a % 1361129467683753853853498429727072845819) (h3 : (fiveL (lowF l)).getD 16 0 ≤ 3) : lowF l = digD 256 17 (dv 256 a % 1361129467683753853853498429727072845819) := by
  have hs := split_v h
  rw [more_no l _ hm, Nat.mul_zero, Nat.add_zero] at hs
  obtain ⟨f1, f2, f3⟩ := five_spec (low_lt hd) (low_len h) (low_bd hd h)
  rw [digit_at f3 f1, f2] at h3
  have hlt : dv 256 (lowF l) < 1361129467683753853853498429727072845819 := by
    simp only [Nat.reducePow] at h3
    omega
  have := dig_eq (by decide : 0 < 256) (low_lt hd)
  rw [low_len h] at this
  rw [this, ← hv, ← hs, Nat.mod_eq_of_lt hlt]
theorem red_high {a l : List Nat} (hd : dlt 256 l) (h : 17 ≤ l.length) (hm : moreB l (l.length - 16) = false) (hv : dv 256 l % 1361129467683753853853498429727072845819 = dv 256 a % 1361129467683753853853498429727072845819) (h3 : 3 < (fiveL (lowF l)).getD 16 0) : (fiveL (lowF l)).set 16 ((fiveL (lowF l)).getD 16 0 - 4) = digD 256 17 (dv 256 a % 1361129467683753853853498429727072845819) := by
  have hs := split_v h
  rw [more_no l _ hm, Nat.mul_zero, Nat.add_zero] at hs
  obtain ⟨f1, f2, f3⟩ := five_spec (low_lt hd) (low_len h) (low_bd hd h)
  have hb := low_bd hd h
  have hst := dv_set 256 (fiveL (lowF l)) 16 ((fiveL (lowF l)).getD 16 0 - 4) (by omega)
  have hd16 := digit_at f3 f1
  have hlt := f3 16
  have hset : dlt 256 ((fiveL (lowF l)).set 16 ((fiveL (lowF l)).getD 16 0 - 4)) := dlt_set f3 _ _ (by omega)
  refine dv_inj hset (digD_lt (by decide) _ _) (by rw [List.length_set, f1, digD_len]) ?_
  rw [digD_v, ← hv, ← hs]
  rw [f2] at hst hd16
  generalize (fiveL (lowF l)).getD 16 0 = x at *
  generalize dv 256 (lowF l) = W at *
  generalize dv 256 ((fiveL (lowF l)).set 16 (x - 4)) = R at *
  simp only [Nat.reducePow] at *
  have hge : 1361129467683753853853498429727072845819 ≤ W := by omega
  rw [Nat.mod_eq_sub_mod hge, Nat.mod_eq_of_lt (by omega), Nat.mod_eq_of_lt (by omega)]
  omega
def redL (a : List Nat) : List Nat := digD 256 17 (dv 256 a % 1361129467683753853853498429727072845819)
def redOut (a : List Nat) (wa : Bool) : Option (List Nat) → St
  | none => ⟨[(0, .c (.one (.sl 0 0 1 a.length)))], [(0, ⟨.arr Nat natL a, wa⟩)]⟩
  | some l => ⟨[(0, .c (.one (.sl 600 0 1 l.length)))], [(0, ⟨.arr Nat natL a, wa⟩), (600, ⟨.arr Nat natL l, true⟩)]⟩
def redCur (a : List Nat) : Option (List Nat) → List Nat
  | none => a
  | some l => l
def redIn (X : Nat) (H : List (Nat × Ent)) (l : List Nat) : Nat ⊕ Nat → St
  | .inl 0 => ⟨[(0, .c (.one (.sl X 0 1 l.length))), (3, .c (.one (.val (.slice none 0 0)))), (4, .c (.one (.val (.slice none 0 0)))), (5, .c (.one (.bo false))), (6, .c (.one (.num 0)))], H⟩
  | .inl (i + 1) => ⟨[(0, .c (.one (.sl X 0 1 l.length))), (3, .c (.one (.sl 700 0 1 (i + 1)))), (4, .c (.one (.val (.slice none 0 0)))), (5, .c (.one (.bo false))), (6, .c (.one (.num (i + 1 : Nat))))], H ++ [(700, ⟨.arr Nat natL (l.take (i + 1)), true⟩)]⟩
  | .inr m => ⟨[(0, .c (.one (.sl X 0 1 l.length))), (3, .c (.one (.sl 700 0 1 17))), (4, .c (.one (.sl 800 0 1 (m + 1)))), (5, .c (.one (.bo (moreB l (m + 1))))), (6, .c (.one (.num (17 + m : Nat))))], H ++ [(700, ⟨.arr Nat natL (lowF l), true⟩), (800, ⟨.arr Nat natL (highL l (m + 1)), true⟩)]⟩
def redIx : Nat ⊕ Nat → Nat
  | .inl i => i
  | .inr m => 17 + m
def redOkx (l : List Nat) : Nat ⊕ Nat → Prop
  | .inl i => i ≤ 16
  | .inr m => 17 + m ≤ l.length
theorem take_step (l : List Nat) (i : Nat) (h : i < l.length) : l.take (i + 1) = l.take i ++ [l.getD i 0] := by
  rw [List.take_add_one, List.getD_eq_getElem?_getD, List.getElem?_eq_getElem h]; rfl
set_option maxRecDepth 100000 in
theorem dred_tri (a : List Nat) (wa : Bool) (ha : dlt 256 a) (la : a.length ≤ 100) (l0 : 17 ≤ a.length) : Tri Try.prog 46 [.one (.sl 0 0 1 a.length)] [(0, ⟨.arr Nat natL a, wa⟩)] (.c (.one (.sl 1 0 1 17))) [(0, ⟨.arr Nat natL a, wa⟩), (1, ⟨.arr Nat natL (redL a), true⟩)] := by
  refine tri_ofx (envR_ok gd5_ok 98 [0]) Try.func46 rfl rfl (rs := [.tmp 2]) rfl rfl (by simp [envR]) rfl ?_
  simp only [envR, con0, conN0, conN1, conN2, natsOf_arr, rowOf_arr, natsOf_cells, rowOf_cells, toN, natL_st, natL_d, natL_enc, natL_up, gd5, daddC, dtimesC, retQx, go_sem, reduceCtorEq, ↓reduceIte, Nat.reduceAdd, Nat.reduceMul, Nat.reduceSub, Nat.reduceEqDiff, Nat.reduceLT, Nat.reduceBEq, Nat.reduceBNe, Nat.reduceLeDiff, Int.reduceLE, Int.reduceLT, Int.reduceToNat, Int.reduceEq, Int.reduceAdd, UInt8.reduceToNat, UInt32.reduceToNat, UInt64.reduceToNat, UInt8.reduceOfNat, UInt32.reduceOfNat, UInt64.reduceOfNat, Fin.isValue, Int.reduceSub, Int.reduceMul, Int.reduceNeg, Int.reduceMod, Int.reduceDiv, Int.reduceTDiv, Int.reduceTMod, Int.reduceBEq, Int.reduceBNe, Nat.reduceDiv, Nat.reducePow]
  refine loop_inv (envR_ok gd5_ok 98 [0]) (redOut a wa) (fun x => dlt 256 (redCur a x) ∧ 17 ≤ (redCur a x).length ∧ (redCur a x).length ≤ 100 ∧ dv 256 (redCur a x) % 1361129467683753853853498429727072845819 = dv 256 a % 1361129467683753853853498429727072845819) (fun x => dv 256 (redCur a x)) none [] ⟨ha, l0, la, rfl⟩ ?_ ?_
  · simp only [redOut, go_sem, reduceCtorEq, ↓reduceIte, Nat.reduceAdd, Nat.reduceMul, Nat.reduceSub, Nat.reduceEqDiff, Nat.reduceLT, Nat.reduceBEq, Nat.reduceBNe, Nat.reduceLeDiff, Int.reduceLE, Int.reduceLT, Int.reduceToNat, Int.reduceEq, Int.reduceAdd, UInt8.reduceToNat, UInt32.reduceToNat, UInt64.reduceToNat, UInt8.reduceOfNat, UInt32.reduceOfNat, UInt64.reduceOfNat, Fin.isValue, Int.reduceSub, Int.reduceMul, Int.reduceNeg, Int.reduceMod, Int.reduceDiv, Int.reduceTDiv, Int.reduceTMod, Int.reduceBEq, Int.reduceBNe, Nat.reduceDiv, Nat.reducePow]
    exact ⟨rfl, id⟩
  · rintro x ⟨x1, x2, x3, x4⟩
    rcases x with _ | l
    · simp only [redCur] at x1 x2 x3 x4
      have bA := x1
      have t1 : a.take 1 = [a.getD 0 0] := take_step a 0 (by omega)
      simp only [redOut, envR, con0, conN0, conN1, conN2, natsOf_arr, rowOf_arr, natsOf_cells, rowOf_cells, toN, natL_st, natL_d, natL_enc, natL_up, gd5, daddC, dtimesC, retQx, go_sem, reduceCtorEq, ↓reduceIte, Nat.reduceAdd, Nat.reduceMul, Nat.reduceSub, Nat.reduceEqDiff, Nat.reduceLT, Nat.reduceBEq, Nat.reduceBNe, Nat.reduceLeDiff, Int.reduceLE, Int.reduceLT, Int.reduceToNat, Int.reduceEq, Int.reduceAdd, UInt8.reduceToNat, UInt32.reduceToNat, UInt64.reduceToNat, UInt8.reduceOfNat, UInt32.reduceOfNat, UInt64.reduceOfNat, Fin.isValue, Int.reduceSub, Int.reduceMul, Int.reduceNeg, Int.reduceMod, Int.reduceDiv, Int.reduceTDiv, Int.reduceTMod, Int.reduceBEq, Int.reduceBNe, Nat.reduceDiv, Nat.reducePow]
      refine loop_inv (envR_ok gd5_ok 98 [0]) (redIn 0 [(0, ⟨.arr Nat natL a, wa⟩)] a) (redOkx a) (fun x => a.length - redIx x) (.inl 0) [] (Nat.zero_le _) ?_ ?_
      · simp only [redIn, go_sem, reduceCtorEq, ↓reduceIte, Nat.reduceAdd, Nat.reduceMul, Nat.reduceSub, Nat.reduceEqDiff, Nat.reduceLT, Nat.reduceBEq, Nat.reduceBNe, Nat.reduceLeDiff, Int.reduceLE, Int.reduceLT, Int.reduceToNat, Int.reduceEq, Int.reduceAdd, UInt8.reduceToNat, UInt32.reduceToNat, UInt64.reduceToNat, UInt8.reduceOfNat, UInt32.reduceOfNat, UInt64.reduceOfNat, Fin.isValue, Int.reduceSub, Int.reduceMul, Int.reduceNeg, Int.reduceMod, Int.reduceDiv, Int.reduceTDiv, Int.reduceTMod, Int.reduceBEq, Int.reduceBNe, Nat.reduceDiv, Nat.reducePow]
        exact ⟨rfl, id⟩
      · rintro y hy
        rcases y with i | m
        · simp only [redOkx] at hy
          rcases i with _ | i
          · have c1 : decide ((0 : Int) < (a.length : Int)) = true := decide_eq_true (by omega)
            simp only [redIn, c1, envR, con0, conN0, conN1, conN2, natsOf_arr, rowOf_arr, natsOf_cells, rowOf_cells, toN, natL_st, natL_d, natL_enc, natL_up, gd5, daddC, dtimesC, retQx, go_sem, reduceCtorEq, ↓reduceIte, Nat.reduceAdd, Nat.reduceMul, Nat.reduceSub, Nat.reduceEqDiff, Nat.reduceLT, Nat.reduceBEq, Nat.reduceBNe, Nat.reduceLeDiff, Int.reduceLE, Int.reduceLT, Int.reduceToNat, Int.reduceEq, Int.reduceAdd, UInt8.reduceToNat, UInt32.reduceToNat, UInt64.reduceToNat, UInt8.reduceOfNat, UInt32.reduceOfNat, UInt64.reduceOfNat, Fin.isValue, Int.reduceSub, Int.reduceMul, Int.reduceNeg, Int.reduceMod, Int.reduceDiv, Int.reduceTDiv, Int.reduceTMod, Int.reduceBEq, Int.reduceBNe, Nat.reduceDiv, Nat.reducePow]
            refine ⟨by omega, by omega, again (.inl (0 + 1)) [(700, 80048)] (by simp only [redOkx]; omega) (by simp only [redIx]; omega) ?_⟩
            simp only [redIn, t1, envR, con0, conN0, conN1, conN2, natsOf_arr, rowOf_arr, natsOf_cells, rowOf_cells, toN, natL_st, natL_d, natL_enc, natL_up, gd5, daddC, dtimesC, go_sem, reduceCtorEq, ↓reduceIte, Nat.reduceAdd, Nat.reduceMul, Nat.reduceSub, Nat.reduceEqDiff, Nat.reduceLT, Nat.reduceBEq, Nat.reduceBNe, Nat.reduceLeDiff, Int.reduceLE, Int.reduceLT, Int.reduceToNat, Int.reduceEq, Int.reduceAdd, UInt8.reduceToNat, UInt32.reduceToNat, UInt64.reduceToNat, UInt8.reduceOfNat, UInt32.reduceOfNat, UInt64.reduceOfNat, Fin.isValue, Int.reduceSub, Int.reduceMul, Int.reduceNeg, Int.reduceMod, Int.reduceDiv, Int.reduceTDiv, Int.reduceTMod, Int.reduceBEq, Int.reduceBNe, Nat.reduceDiv, Nat.reducePow]
            exact ⟨rfl, id⟩
          · cases c2 : decide (((i + 1 : Nat) : Int) < 16) with
            | true =>
              have g2 : i + 1 < 16 := by have := of_decide_eq_true c2; omega
              have c1 : decide (((i + 1 : Nat) : Int) < (a.length : Int)) = true := decide_eq_true (by omega)
              have w1 : IntKind.i64.wrap (((i + 1 : Nat) : Int) + 1) = ((i + 1 + 1 : Nat) : Int) := by rw [IntKind.wrap_i64]; omega
              have htl : (a.take (i + 1)).length = i + 1 := by rw [List.length_take]; omega
              have hts := take_step a (i + 1) (by omega)
              simp only [redIn, c1, c2, w1, envR, con0, conN0, conN1, conN2, natsOf_arr, rowOf_arr, natsOf_cells, rowOf_cells, toN, natL_st, natL_d, natL_enc, natL_up, gd5, daddC, dtimesC, retQx, go_sem, reduceCtorEq, ↓reduceIte, Nat.reduceAdd, Nat.reduceMul, Nat.reduceSub, Nat.reduceEqDiff, Nat.reduceLT, Nat.reduceBEq, Nat.reduceBNe, Nat.reduceLeDiff, Int.reduceLE, Int.reduceLT, Int.reduceToNat, Int.reduceEq, Int.reduceAdd, UInt8.reduceToNat, UInt32.reduceToNat, UInt64.reduceToNat, UInt8.reduceOfNat, UInt32.reduceOfNat, UInt64.reduceOfNat, Fin.isValue, Int.reduceSub, Int.reduceMul, Int.reduceNeg, Int.reduceMod, Int.reduceDiv, Int.reduceTDiv, Int.reduceTMod, Int.reduceBEq, Int.reduceBNe, Nat.reduceDiv, Nat.reducePow]
              refine ⟨⟨by omega, by omega⟩, by omega, ⟨htl, by omega, by omega⟩, again (.inl (i + 1 + 1)) [(700, 80048)] (by simp only [redOkx]; omega) (by simp only [redIx]; omega) ?_⟩
              simp only [redIn, hts, envR, con0, conN0, conN1, conN2, natsOf_arr, rowOf_arr, natsOf_cells, rowOf_cells, toN, natL_st, natL_d, natL_enc, natL_up, gd5, daddC, dtimesC, go_sem, reduceCtorEq, ↓reduceIte, Nat.reduceAdd, Nat.reduceMul, Nat.reduceSub, Nat.reduceEqDiff, Nat.reduceLT, Nat.reduceBEq, Nat.reduceBNe, Nat.reduceLeDiff, Int.reduceLE, Int.reduceLT, Int.reduceToNat, Int.reduceEq, Int.reduceAdd, UInt8.reduceToNat, UInt32.reduceToNat, UInt64.reduceToNat, UInt8.reduceOfNat, UInt32.reduceOfNat, UInt64.reduceOfNat, Fin.isValue, Int.reduceSub, Int.reduceMul, Int.reduceNeg, Int.reduceMod, Int.reduceDiv, Int.reduceTDiv, Int.reduceTMod, Int.reduceBEq, Int.reduceBNe, Nat.reduceDiv, Nat.reducePow]
              exact ⟨rfl, id⟩
            | false =>
              obtain rfl : i = 15 := by have := of_decide_eq_false c2; omega
              have c1 : decide ((16 : Int) < (a.length : Int)) = true := decide_eq_true (by omega)
              have b16 := bA 16
              have b17 := bA 17
              have htl : (a.take 16).length = 16 := by rw [List.length_take]; omega
              have u1 : ((a.getD 16 0 : Nat) : Int).tmod 4 = ((a.getD 16 0 % 4 : Nat) : Int) := by rw [show (4 : Int) = ((4 : Nat) : Int) from rfl, ← Int.ofNat_tmod]
              have u2 : IntKind.i64.wrap (((a.getD 16 0 : Nat) : Int).tdiv 4) = ((a.getD 16 0 / 4 : Nat) : Int) := by
                rw [show (4 : Int) = ((4 : Nat) : Int) from rfl, ← Int.ofNat_tdiv, IntKind.wrap_i64]; omega
              have hh1 : highL a 1 = [nAt a 0] := rfl
              have hm1 : moreB a 1 = decide ((0 : Int) < ((nAt a 0 : Nat) : Int)) := by simp [moreB]
              have hlo : lowF a = a.take 16 ++ [a.getD 16 0 % 4] := rfl
              cases c3 : decide ((17 : Int) < (a.length : Int)) with
              | true =>
                have g3 : 17 < a.length := by have := of_decide_eq_true c3; omega
                have u3 : ((a.getD 17 0 : Nat) : Int).tmod 4 = ((a.getD 17 0 % 4 : Nat) : Int) := by rw [show (4 : Int) = ((4 : Nat) : Int) from rfl, ← Int.ofNat_tmod]
                have u4 : IntKind.i64.wrap (((a.getD 17 0 % 4 : Nat) : Int) * 64) = ((a.getD 17 0 % 4 * 64 : Nat) : Int) := by rw [IntKind.wrap_i64]; omega
                have u5 : IntKind.i64.wrap (((a.getD 16 0 / 4 : Nat) : Int) + ((a.getD 17 0 % 4 * 64 : Nat) : Int)) = ((nAt a 0 : Nat) : Int) := by
                  rw [IntKind.wrap_i64]; simp only [nAt, Nat.add_zero, Nat.reduceAdd]; omega
                simp only [redIn, c1, c3, u1, u2, u3, u4, u5, htl, envR, con0, conN0, conN1, conN2, natsOf_arr, rowOf_arr, natsOf_cells, rowOf_cells, toN, natL_st, natL_d, natL_enc, natL_up, gd5, daddC, dtimesC, retQx, go_sem, reduceCtorEq, ↓reduceIte, Nat.reduceAdd, Nat.reduceMul, Nat.reduceSub, Nat.reduceEqDiff, Nat.reduceLT, Nat.reduceBEq, Nat.reduceBNe, Nat.reduceLeDiff, Int.reduceLE, Int.reduceLT, Int.reduceToNat, Int.reduceEq, Int.reduceAdd, UInt8.reduceToNat, UInt32.reduceToNat, UInt64.reduceToNat, UInt8.reduceOfNat, UInt32.reduceOfNat, UInt64.reduceOfNat, Fin.isValue, Int.reduceSub, Int.reduceMul, Int.reduceNeg, Int.reduceMod, Int.reduceDiv, Int.reduceTDiv, Int.reduceTMod, Int.reduceBEq, Int.reduceBNe, Nat.reduceDiv, Nat.reducePow]
                repeat' apply And.intro
                all_goals first
                  | omega
                  | skip
                refine again (Sum.inr 0 : Nat ⊕ Nat) [(700, 100056), (800, 140024)] (by simp only [redOkx]; omega) (by simp only [redIx]; omega) ?_
                simp only [redIn, hm1, hh1, hlo, envR, con0, conN0, conN1, conN2, natsOf_arr, rowOf_arr, natsOf_cells, rowOf_cells, toN, natL_st, natL_d, natL_enc, natL_up, gd5, daddC, dtimesC, go_sem, reduceCtorEq, ↓reduceIte, Nat.reduceAdd, Nat.reduceMul, Nat.reduceSub, Nat.reduceEqDiff, Nat.reduceLT, Nat.reduceBEq, Nat.reduceBNe, Nat.reduceLeDiff, Int.reduceLE, Int.reduceLT, Int.reduceToNat, Int.reduceEq, Int.reduceAdd, UInt8.reduceToNat, UInt32.reduceToNat, UInt64.reduceToNat, UInt8.reduceOfNat, UInt32.reduceOfNat, UInt64.reduceOfNat, Fin.isValue, Int.reduceSub, Int.reduceMul, Int.reduceNeg, Int.reduceMod, Int.reduceDiv, Int.reduceTDiv, Int.reduceTMod, Int.reduceBEq, Int.reduceBNe, Nat.reduceDiv, Nat.reducePow]
                exact ⟨rfl, id⟩
              | false =>
                have z17 := getD_out (l := a) (i := 17) (by have := of_decide_eq_false c3; omega)
                have u5 : ((a.getD 16 0 / 4 : Nat) : Int) = ((nAt a 0 : Nat) : Int) := by
                  simp only [nAt, Nat.add_zero, Nat.reduceAdd, z17]; omega
                simp only [redIn, c1, c3, u1, u2, u5, htl, envR, con0, conN0, conN1, conN2, natsOf_arr, rowOf_arr, natsOf_cells, rowOf_cells, toN, natL_st, natL_d, natL_enc, natL_up, gd5, daddC, dtimesC, retQx, go_sem, reduceCtorEq, ↓reduceIte, Nat.reduceAdd, Nat.reduceMul, Nat.reduceSub, Nat.reduceEqDiff, Nat.reduceLT, Nat.reduceBEq, Nat.reduceBNe, Nat.reduceLeDiff, Int.reduceLE, Int.reduceLT, Int.reduceToNat, Int.reduceEq, Int.reduceAdd, UInt8.reduceToNat, UInt32.reduceToNat, UInt64.reduceToNat, UInt8.reduceOfNat, UInt32.reduceOfNat, UInt64.reduceOfNat, Fin.isValue, Int.reduceSub, Int.reduceMul, Int.reduceNeg, Int.reduceMod, Int.reduceDiv, Int.reduceTDiv, Int.reduceTMod, Int.reduceBEq, Int.reduceBNe, Nat.reduceDiv, Nat.reducePow]
                repeat' apply And.intro
                all_goals first
                  | omega
                  | skip
                refine again (Sum.inr 0 : Nat ⊕ Nat) [(700, 100056), (800, 140024)] (by simp only [redOkx]; omega) (by simp only [redIx]; omega) ?_
                simp only [redIn, hm1, hh1, hlo, envR, con0, conN0, conN1, conN2, natsOf_arr, rowOf_arr, natsOf_cells, rowOf_cells, toN, natL_st, natL_d, natL_enc, natL_up, gd5, daddC, dtimesC, go_sem, reduceCtorEq, ↓reduceIte, Nat.reduceAdd, Nat.reduceMul, Nat.reduceSub, Nat.reduceEqDiff, Nat.reduceLT, Nat.reduceBEq, Nat.reduceBNe, Nat.reduceLeDiff, Int.reduceLE, Int.reduceLT, Int.reduceToNat, Int.reduceEq, Int.reduceAdd, UInt8.reduceToNat, UInt32.reduceToNat, UInt64.reduceToNat, UInt8.reduceOfNat, UInt32.reduceOfNat, UInt64.reduceOfNat, Fin.isValue, Int.reduceSub, Int.reduceMul, Int.reduceNeg, Int.reduceMod, Int.reduceDiv, Int.reduceTDiv, Int.reduceTMod, Int.reduceBEq, Int.reduceBNe, Nat.reduceDiv, Nat.reducePow]
                exact ⟨rfl, id⟩
        · simp only [redOkx] at hy
          have bp := bA (17 + m)
          have bq := bA (17 + m + 1)
          have c2 : decide (((17 + m : Nat) : Int) < 16) = false := decide_eq_false (by omega)
          have c5 : (((17 + m : Nat) : Int) == 16) = false := beq_eq_false_iff_ne.2 (by omega)
          have w1 : IntKind.i64.wrap (((17 + m : Nat) : Int) + 1) = ((17 + m + 1 : Nat) : Int) := by rw [IntKind.wrap_i64]; omega
          have hlw := low_len x2
          have hhl := highL_len a (m + 1)
          cases c1 : decide (((17 + m : Nat) : Int) < (a.length : Int)) with
          | true =>
            have g1 : 17 + m < a.length := by have := of_decide_eq_true c1; omega
            have hn : nAt a (m + 1) = a.getD (17 + m) 0 / 4 + a.getD (17 + m + 1) 0 % 4 * 64 := by
              unfold nAt; rw [show 16 + (m + 1) = 17 + m by omega]
            have u2 : IntKind.i64.wrap (((a.getD (17 + m) 0 : Nat) : Int).tdiv 4) = ((a.getD (17 + m) 0 / 4 : Nat) : Int) := by
              rw [show (4 : Int) = ((4 : Nat) : Int) from rfl, ← Int.ofNat_tdiv, IntKind.wrap_i64]; omega
            have hh1 := highL_succ a (m + 1)
            have hm1 : moreB a (m + 1 + 1) = (moreB a (m + 1) || decide ((0 : Int) < ((nAt a (m + 1) : Nat) : Int))) := by simp [moreB]
            cases c3 : decide (((17 + m + 1 : Nat) : Int) < (a.length : Int)) with
            | true =>
              have g3 : 17 + m + 1 < a.length := by have := of_decide_eq_true c3; omega
              have u3 : ((a.getD (17 + m + 1) 0 : Nat) : Int).tmod 4 = ((a.getD (17 + m + 1) 0 % 4 : Nat) : Int) := by rw [show (4 : Int) = ((4 : Nat) : Int) from rfl, ← Int.ofNat_tmod]
              have u4 : IntKind.i64.wrap (((a.getD (17 + m + 1) 0 % 4 : Nat) : Int) * 64) = ((a.getD (17 + m + 1) 0 % 4 * 64 : Nat) : Int) := by rw [IntKind.wrap_i64]; omega
              have u5 : IntKind.i64.wrap (((a.getD (17 + m) 0 / 4 : Nat) : Int) + ((a.getD (17 + m + 1) 0 % 4 * 64 : Nat) : Int)) = ((nAt a (m + 1) : Nat) : Int) := by
                rw [IntKind.wrap_i64, hn]; omega
              cases hmo : moreB a (m + 1) <;>
              · rw [hmo] at hm1
                simp only [redIn, c1, c2, c3, c5, w1, u2, u3, u4, u5, hmo, envR, con0, conN0, conN1, conN2, natsOf_arr, rowOf_arr, natsOf_cells, rowOf_cells, toN, natL_st, natL_d, natL_enc, natL_up, gd5, daddC, dtimesC, retQx, go_sem, reduceCtorEq, ↓reduceIte, Nat.reduceAdd, Nat.reduceMul, Nat.reduceSub, Nat.reduceEqDiff, Nat.reduceLT, Nat.reduceBEq, Nat.reduceBNe, Nat.reduceLeDiff, Int.reduceLE, Int.reduceLT, Int.reduceToNat, Int.reduceEq, Int.reduceAdd, UInt8.reduceToNat, UInt32.reduceToNat, UInt64.reduceToNat, UInt8.reduceOfNat, UInt32.reduceOfNat, UInt64.reduceOfNat, Fin.isValue, Int.reduceSub, Int.reduceMul, Int.reduceNeg, Int.reduceMod, Int.reduceDiv, Int.reduceTDiv, Int.reduceTMod, Int.reduceBEq, Int.reduceBNe, Nat.reduceDiv, Nat.reducePow]
                repeat' apply And.intro
                all_goals first
                  | omega
                  | skip
                refine again (Sum.inr (m + 1) : Nat ⊕ Nat) [(800, 140024)] (by simp only [redOkx]; omega) (by simp only [redIx]; omega) ?_
                have hidx : 17 + (m + 1) = 17 + m + 1 := rfl
                simp only [redIn, hm1, hh1, hidx, envR, con0, conN0, conN1, conN2, natsOf_arr, rowOf_arr, natsOf_cells, rowOf_cells, toN, natL_st, natL_d, natL_enc, natL_up, gd5, daddC, dtimesC, go_sem, reduceCtorEq, ↓reduceIte, Nat.reduceAdd, Nat.reduceMul, Nat.reduceSub, Nat.reduceEqDiff, Nat.reduceLT, Nat.reduceBEq, Nat.reduceBNe, Nat.reduceLeDiff, Int.reduceLE, Int.reduceLT, Int.reduceToNat, Int.reduceEq, Int.reduceAdd, UInt8.reduceToNat, UInt32.reduceToNat, UInt64.reduceToNat, UInt8.reduceOfNat, UInt32.reduceOfNat, UInt64.reduceOfNat, Fin.isValue, Int.reduceSub, Int.reduceMul, Int.reduceNeg, Int.reduceMod, Int.reduceDiv, Int.reduceTDiv, Int.reduceTMod, Int.reduceBEq, Int.reduceBNe, Nat.reduceDiv, Nat.reducePow]
                exact ⟨rfl, id⟩
            | false =>
              have z17 := getD_out (l := a) (i := 17 + m + 1) (by have := of_decide_eq_false c3; omega)
              have u5 : ((a.getD (17 + m) 0 / 4 : Nat) : Int) = ((nAt a (m + 1) : Nat) : Int) := by
                rw [hn, z17]; omega
              cases hmo : moreB a (m + 1) <;>
              · rw [hmo] at hm1
                simp only [redIn, c1, c2, c3, c5, w1, u2, u5, hmo, envR, con0, conN0, conN1, conN2, natsOf_arr, rowOf_arr, natsOf_cells, rowOf_cells, toN, natL_st, natL_d, natL_enc, natL_up, gd5, daddC, dtimesC, retQx, go_sem, reduceCtorEq, ↓reduceIte, Nat.reduceAdd, Nat.reduceMul, Nat.reduceSub, Nat.reduceEqDiff, Nat.reduceLT, Nat.reduceBEq, Nat.reduceBNe, Nat.reduceLeDiff, Int.reduceLE, Int.reduceLT, Int.reduceToNat, Int.reduceEq, Int.reduceAdd, UInt8.reduceToNat, UInt32.reduceToNat, UInt64.reduceToNat, UInt8.reduceOfNat, UInt32.reduceOfNat, UInt64.reduceOfNat, Fin.isValue, Int.reduceSub, Int.reduceMul, Int.reduceNeg, Int.reduceMod, Int.reduceDiv, Int.reduceTDiv, Int.reduceTMod, Int.reduceBEq, Int.reduceBNe, Nat.reduceDiv, Nat.reducePow]
                repeat' apply And.intro
                all_goals first
                  | omega
                  | skip
                refine again (Sum.inr (m + 1) : Nat ⊕ Nat) [(800, 140024)] (by simp only [redOkx]; omega) (by simp only [redIx]; omega) ?_
                have hidx : 17 + (m + 1) = 17 + m + 1 := rfl
                simp only [redIn, hm1, hh1, hidx, envR, con0, conN0, conN1, conN2, natsOf_arr, rowOf_arr, natsOf_cells, rowOf_cells, toN, natL_st, natL_d, natL_enc, natL_up, gd5, daddC, dtimesC, go_sem, reduceCtorEq, ↓reduceIte, Nat.reduceAdd, Nat.reduceMul, Nat.reduceSub, Nat.reduceEqDiff, Nat.reduceLT, Nat.reduceBEq, Nat.reduceBNe, Nat.reduceLeDiff, Int.reduceLE, Int.reduceLT, Int.reduceToNat, Int.reduceEq, Int.reduceAdd, UInt8.reduceToNat, UInt32.reduceToNat, UInt64.reduceToNat, UInt8.reduceOfNat, UInt32.reduceOfNat, UInt64.reduceOfNat, Fin.isValue, Int.reduceSub, Int.reduceMul, Int.reduceNeg, Int.reduceMod, Int.reduceDiv, Int.reduceTDiv, Int.reduceTMod, Int.reduceBEq, Int.reduceBNe, Nat.reduceDiv, Nat.reducePow]
                exact ⟨rfl, id⟩
          | false =>
            have ge : m + 1 = a.length - 16 := by have := of_decide_eq_false c1; omega
            cases hmo : moreB a (m + 1) with
            | true =>
              obtain ⟨n1, n2, n3, n4, n5⟩ := next_spec bA x2 x3
              have n5 := n5 (by rw [← ge]; exact hmo)
              simp only [redIn, c1, hmo, envR, con0, conN0, conN1, conN2, natsOf_arr, rowOf_arr, natsOf_cells, rowOf_cells, toN, natL_st, natL_d, natL_enc, natL_up, gd5, daddC, dtimesC, retQx, go_sem, reduceCtorEq, ↓reduceIte, Nat.reduceAdd, Nat.reduceMul, Nat.reduceSub, Nat.reduceEqDiff, Nat.reduceLT, Nat.reduceBEq, Nat.reduceBNe, Nat.reduceLeDiff, Int.reduceLE, Int.reduceLT, Int.reduceToNat, Int.reduceEq, Int.reduceAdd, UInt8.reduceToNat, UInt32.reduceToNat, UInt64.reduceToNat, UInt8.reduceOfNat, UInt32.reduceOfNat, UInt64.reduceOfNat, Fin.isValue, Int.reduceSub, Int.reduceMul, Int.reduceNeg, Int.reduceMod, Int.reduceDiv, Int.reduceTDiv, Int.reduceTMod, Int.reduceBEq, Int.reduceBNe, Nat.reduceDiv, Nat.reducePow]
              refine ⟨⟨hhl.symm, highL_lt bA _, five_lt, by rw [hhl]; omega⟩, ⟨hlw.symm, low_lt bA, timesL_lt (by decide) (highL_lt bA _) five_lt, by omega, by rw [timesL_len, hhl]; simp only [List.length_cons, List.length_nil]; omega, by omega⟩, again (some (nextL a)) [(600, 180032)] ⟨n1, n2, n3, n4⟩ n5 ?_⟩
              simp only [redOut, nextL, ← ge, envR, con0, conN0, conN1, conN2, natsOf_arr, rowOf_arr, natsOf_cells, rowOf_cells, toN, natL_st, natL_d, natL_enc, natL_up, gd5, daddC, dtimesC, go_sem, reduceCtorEq, ↓reduceIte, Nat.reduceAdd, Nat.reduceMul, Nat.reduceSub, Nat.reduceEqDiff, Nat.reduceLT, Nat.reduceBEq, Nat.reduceBNe, Nat.reduceLeDiff, Int.reduceLE, Int.reduceLT, Int.reduceToNat, Int.reduceEq, Int.reduceAdd, UInt8.reduceToNat, UInt32.reduceToNat, UInt64.reduceToNat, UInt8.reduceOfNat, UInt32.reduceOfNat, UInt64.reduceOfNat, Fin.isValue, Int.reduceSub, Int.reduceMul, Int.reduceNeg, Int.reduceMod, Int.reduceDiv, Int.reduceTDiv, Int.reduceTMod, Int.reduceBEq, Int.reduceBNe, Nat.reduceDiv, Nat.reducePow]
              exact ⟨rfl, id⟩
            | false =>
              obtain ⟨f1, f2, f3⟩ := five_spec (low_lt bA) hlw (low_bd bA x2)
              have f1 : (addL 256 (lowF a) [5]).length = 17 := f1
              have rl := red_low (a := a) bA x2 (by rw [← ge]; exact hmo) rfl
              have rh := red_high (a := a) bA x2 (by rw [← ge]; exact hmo) rfl
              unfold fiveL at rl rh
              obtain ⟨v, hv⟩ : ∃ v, v = (addL 256 (lowF a) [5]).getD 16 0 := ⟨_, rfl⟩
              have bv : v < 256 := by rw [hv]; exact f3 16
              rw [← hv] at rl rh
              simp only [redIn, c1, hmo, envR, con0, conN0, conN1, conN2, natsOf_arr, rowOf_arr, natsOf_cells, rowOf_cells, toN, natL_st, natL_d, natL_enc, natL_up, gd5, daddC, dtimesC, retQx, go_sem, reduceCtorEq, ↓reduceIte, Nat.reduceAdd, Nat.reduceMul, Nat.reduceSub, Nat.reduceEqDiff, Nat.reduceLT, Nat.reduceBEq, Nat.reduceBNe, Nat.reduceLeDiff, Int.reduceLE, Int.reduceLT, Int.reduceToNat, Int.reduceEq, Int.reduceAdd, UInt8.reduceToNat, UInt32.reduceToNat, UInt64.reduceToNat, UInt8.reduceOfNat, UInt32.reduceOfNat, UInt64.reduceOfNat, Fin.isValue, Int.reduceSub, Int.reduceMul, Int.reduceNeg, Int.reduceMod, Int.reduceDiv, Int.reduceTDiv, Int.reduceTMod, Int.reduceBEq, Int.reduceBNe, Nat.reduceDiv, Nat.reducePow]
              refine loop_rounds (envR_ok gd5_ok 98 [0]) 1 ?_
              cases c4 : decide ((3 : Int) < (v : Int)) with
              | true =>
                have w4 : IntKind.i64.wrap ((v : Int) - 4) = ((v - 4 : Nat) : Int) := by rw [IntKind.wrap_i64]; have := of_decide_eq_true c4; omega
                have rh := rh (by have := of_decide_eq_true c4; omega)
                simp only [c4, w4, hlw, f1, ← hv, envR, con0, conN0, conN1, conN2, natsOf_arr, rowOf_arr, natsOf_cells, rowOf_cells, toN, natL_st, natL_d, natL_enc, natL_up, gd5, daddC, dtimesC, retQx, go_sem, reduceCtorEq, ↓reduceIte, Nat.reduceAdd, Nat.reduceMul, Nat.reduceSub, Nat.reduceEqDiff, Nat.reduceLT, Nat.reduceBEq, Nat.reduceBNe, Nat.reduceLeDiff, Int.reduceLE, Int.reduceLT, Int.reduceToNat, Int.reduceEq, Int.reduceAdd, UInt8.reduceToNat, UInt32.reduceToNat, UInt64.reduceToNat, UInt8.reduceOfNat, UInt32.reduceOfNat, UInt64.reduceOfNat, Fin.isValue, Int.reduceSub, Int.reduceMul, Int.reduceNeg, Int.reduceMod, Int.reduceDiv, Int.reduceTDiv, Int.reduceTMod, Int.reduceBEq, Int.reduceBNe, Nat.reduceDiv, Nat.reducePow]
                refine ⟨⟨low_lt bA, five_lt⟩, endX [(1, 210016)] ?_⟩
                simp only [rh, redL, envR, con0, conN0, conN1, conN2, natsOf_arr, rowOf_arr, natsOf_cells, rowOf_cells, toN, natL_st, natL_d, natL_enc, natL_up, gd5, daddC, dtimesC, go_sem, reduceCtorEq, ↓reduceIte, Nat.reduceAdd, Nat.reduceMul, Nat.reduceSub, Nat.reduceEqDiff, Nat.reduceLT, Nat.reduceBEq, Nat.reduceBNe, Nat.reduceLeDiff, Int.reduceLE, Int.reduceLT, Int.reduceToNat, Int.reduceEq, Int.reduceAdd, UInt8.reduceToNat, UInt32.reduceToNat, UInt64.reduceToNat, UInt8.reduceOfNat, UInt32.reduceOfNat, UInt64.reduceOfNat, Fin.isValue, Int.reduceSub, Int.reduceMul, Int.reduceNeg, Int.reduceMod, Int.reduceDiv, Int.reduceTDiv, Int.reduceTMod, Int.reduceBEq, Int.reduceBNe, Nat.reduceDiv, Nat.reducePow]
                exact ⟨rfl, id⟩
              | false =>
                have rl := rl (by have := of_decide_eq_false c4; omega)
                simp only [c4, hlw, f1, ← hv, envR, con0, conN0, conN1, conN2, natsOf_arr, rowOf_arr, natsOf_cells, rowOf_cells, toN, natL_st, natL_d, natL_enc, natL_up, gd5, daddC, dtimesC, retQx, go_sem, reduceCtorEq, ↓reduceIte, Nat.reduceAdd, Nat.reduceMul, Nat.reduceSub, Nat.reduceEqDiff, Nat.reduceLT, Nat.reduceBEq, Nat.reduceBNe, Nat.reduceLeDiff, Int.reduceLE, Int.reduceLT, Int.reduceToNat, Int.reduceEq, Int.reduceAdd, UInt8.reduceToNat, UInt32.reduceToNat, UInt64.reduceToNat, UInt8.reduceOfNat, UInt32.reduceOfNat, UInt64.reduceOfNat, Fin.isValue, Int.reduceSub, Int.reduceMul, Int.reduceNeg, Int.reduceMod, Int.reduceDiv, Int.reduceTDiv, Int.reduceTMod, Int.reduceBEq, Int.reduceBNe, Nat.reduceDiv, Nat.reducePow]
                refine ⟨⟨low_lt bA, five_lt⟩, endX [(1, 700)] ?_⟩
                simp only [← rl, redL, envR, con0, conN0, conN1, conN2, natsOf_arr, rowOf_arr, natsOf_cells, rowOf_cells, toN, natL_st, natL_d, natL_enc, natL_up, gd5, daddC, dtimesC, go_sem, reduceCtorEq, ↓reduceIte, Nat.reduceAdd, Nat.reduceMul, Nat.reduceSub, Nat.reduceEqDiff, Nat.reduceLT, Nat.reduceBEq, Nat.reduceBNe, Nat.reduceLeDiff, Int.reduceLE, Int.reduceLT, Int.reduceToNat, Int.reduceEq, Int.reduceAdd, UInt8.reduceToNat, UInt32.reduceToNat, UInt64.reduceToNat, UInt8.reduceOfNat, UInt32.reduceOfNat, UInt64.reduceOfNat, Fin.isValue, Int.reduceSub, Int.reduceMul, Int.reduceNeg, Int.reduceMod, Int.reduceDiv, Int.reduceTDiv, Int.reduceTMod, Int.reduceBEq, Int.reduceBNe, Nat.reduceDiv, Nat.reducePow]
                exact ⟨rfl, id⟩
    · simp only [redCur] at x1 x2 x3 x4
      have bA := x1
      have t1 : l.take 1 = [l.getD 0 0] := take_step l 0 (by omega)
      simp only [redOut, envR, con0, conN0, conN1, conN2, natsOf_arr, rowOf_arr, natsOf_cells, rowOf_cells, toN, natL_st, natL_d, natL_enc, natL_up, gd5, daddC, dtimesC, retQx, go_sem, reduceCtorEq, ↓reduceIte, Nat.reduceAdd, Nat.reduceMul, Nat.reduceSub, Nat.reduceEqDiff, Nat.reduceLT, Nat.reduceBEq, Nat.reduceBNe, Nat.reduceLeDiff, Int.reduceLE, Int.reduceLT, Int.reduceToNat, Int.reduceEq, Int.reduceAdd, UInt8.reduceToNat, UInt32.reduceToNat, UInt64.reduceToNat, UInt8.reduceOfNat, UInt32.reduceOfNat, UInt64.reduceOfNat, Fin.isValue, Int.reduceSub, Int.reduceMul, Int.reduceNeg, Int.reduceMod, Int.reduceDiv, Int.reduceTDiv, Int.reduceTMod, Int.reduceBEq, Int.reduceBNe, Nat.reduceDiv, Nat.reducePow]
      refine loop_inv (envR_ok gd5_ok 98 [0]) (redIn 600 [(0, ⟨.arr Nat natL a, wa⟩), (600, ⟨.arr Nat natL l, true⟩)] l) (redOkx l) (fun x => l.length - redIx x) (.inl 0) [] (Nat.zero_le _) ?_ ?_
      · simp only [redIn, go_sem, reduceCtorEq, ↓reduceIte, Nat.reduceAdd, Nat.reduceMul, Nat.reduceSub, Nat.reduceEqDiff, Nat.reduceLT, Nat.reduceBEq, Nat.reduceBNe, Nat.reduceLeDiff, Int.reduceLE, Int.reduceLT, Int.reduceToNat, Int.reduceEq, Int.reduceAdd, UInt8.reduceToNat, UInt32.reduceToNat, UInt64.reduceToNat, UInt8.reduceOfNat, UInt32.reduceOfNat, UInt64.reduceOfNat, Fin.isValue, Int.reduceSub, Int.reduceMul, Int.reduceNeg, Int.reduceMod, Int.reduceDiv, Int.reduceTDiv, Int.reduceTMod, Int.reduceBEq, Int.reduceBNe, Nat.reduceDiv, Nat.reducePow]
        exact ⟨rfl, id⟩
      · rintro y hy
        rcases y with i | m
        · simp only [redOkx] at hy
          rcases i with _ | i
          · have c1 : decide ((0 : Int) < (l.length : Int)) = true := decide_eq_true (by omega)
            simp only [redIn, c1, envR, con0, conN0, conN1, conN2, natsOf_arr, rowOf_arr, natsOf_cells, rowOf_cells, toN, natL_st, natL_d, natL_enc, natL_up, gd5, daddC, dtimesC, retQx, go_sem, reduceCtorEq, ↓reduceIte, Nat.reduceAdd, Nat.reduceMul, Nat.reduceSub, Nat.reduceEqDiff, Nat.reduceLT, Nat.reduceBEq, Nat.reduceBNe, Nat.reduceLeDiff, Int.reduceLE, Int.reduceLT, Int.reduceToNat, Int.reduceEq, Int.reduceAdd, UInt8.reduceToNat, UInt32.reduceToNat, UInt64.reduceToNat, UInt8.reduceOfNat, UInt32.reduceOfNat, UInt64.reduceOfNat, Fin.isValue, Int.reduceSub, Int.reduceMul, Int.reduceNeg, Int.reduceMod, Int.reduceDiv, Int.reduceTDiv, Int.reduceTMod, Int.reduceBEq, Int.reduceBNe, Nat.reduceDiv, Nat.reducePow]
            refine ⟨by omega, by omega, again (.inl (0 + 1)) [(700, 80048)] (by simp only [redOkx]; omega) (by simp only [redIx]; omega) ?_⟩
            simp only [redIn, t1, envR, con0, conN0, conN1, conN2, natsOf_arr, rowOf_arr, natsOf_cells, rowOf_cells, toN, natL_st, natL_d, natL_enc, natL_up, gd5, daddC, dtimesC, go_sem, reduceCtorEq, ↓reduceIte, Nat.reduceAdd, Nat.reduceMul, Nat.reduceSub, Nat.reduceEqDiff, Nat.reduceLT, Nat.reduceBEq, Nat.reduceBNe, Nat.reduceLeDiff, Int.reduceLE, Int.reduceLT, Int.reduceToNat, Int.reduceEq, Int.reduceAdd, UInt8.reduceToNat, UInt32.reduceToNat, UInt64.reduceToNat, UInt8.reduceOfNat, UInt32.reduceOfNat, UInt64.reduceOfNat, Fin.isValue, Int.reduceSub, Int.reduceMul, Int.reduceNeg, Int.reduceMod, Int.reduceDiv, Int.reduceTDiv, Int.reduceTMod, Int.reduceBEq, Int.reduceBNe, Nat.reduceDiv, Nat.reducePow]
            exact ⟨rfl, id⟩
          · cases c2 : decide (((i + 1 : Nat) : Int) < 16) with
            | true =>
              have g2 : i + 1 < 16 := by have := of_decide_eq_true c2; omega
              have c1 : decide (((i + 1 : Nat) : Int) < (l.length : Int)) = true := decide_eq_true (by omega)
              have w1 : IntKind.i64.wrap (((i + 1 : Nat) : Int) + 1) = ((i + 1 + 1 : Nat) : Int) := by rw [IntKind.wrap_i64]; omega
              have htl : (l.take (i + 1)).length = i + 1 := by rw [List.length_take]; omega
              have hts := take_step l (i + 1) (by omega)
              simp only [redIn, c1, c2, w1, envR, con0, conN0, conN1, conN2, natsOf_arr, rowOf_arr, natsOf_cells, rowOf_cells, toN, natL_st, natL_d, natL_enc, natL_up, gd5, daddC, dtimesC, retQx, go_sem, reduceCtorEq, ↓reduceIte, Nat.reduceAdd, Nat.reduceMul, Nat.reduceSub, Nat.reduceEqDiff, Nat.reduceLT, Nat.reduceBEq, Nat.reduceBNe, Nat.reduceLeDiff, Int.reduceLE, Int.reduceLT, Int.reduceToNat, Int.reduceEq, Int.reduceAdd, UInt8.reduceToNat, UInt32.reduceToNat, UInt64.reduceToNat, UInt8.reduceOfNat, UInt32.reduceOfNat, UInt64.reduceOfNat, Fin.isValue, Int.reduceSub, Int.reduceMul, Int.reduceNeg, Int.reduceMod, Int.reduceDiv, Int.reduceTDiv, Int.reduceTMod, Int.reduceBEq, Int.reduceBNe, Nat.reduceDiv, Nat.reducePow]
              refine ⟨⟨by omega, by omega⟩, by omega, ⟨htl, by omega, by omega⟩, again (.inl (i + 1 + 1)) [(700, 80048)] (by simp only [redOkx]; omega) (by simp only [redIx]; omega) ?_⟩
              simp only [redIn, hts, envR, con0, conN0, conN1, conN2, natsOf_arr, rowOf_arr, natsOf_cells, rowOf_cells, toN, natL_st, natL_d, natL_enc, natL_up, gd5, daddC, dtimesC, go_sem, reduceCtorEq, ↓reduceIte, Nat.reduceAdd, Nat.reduceMul, Nat.reduceSub, Nat.reduceEqDiff, Nat.reduceLT, Nat.reduceBEq, Nat.reduceBNe, Nat.reduceLeDiff, Int.reduceLE, Int.reduceLT, Int.reduceToNat, Int.reduceEq, Int.reduceAdd, UInt8.reduceToNat, UInt32.reduceToNat, UInt64.reduceToNat, UInt8.reduceOfNat, UInt32.reduceOfNat, UInt64.reduceOfNat, Fin.isValue, Int.reduceSub, Int.reduceMul, Int.reduceNeg, Int.reduceMod, Int.reduceDiv, Int.reduceTDiv, Int.reduceTMod, Int.reduceBEq, Int.reduceBNe, Nat.reduceDiv, Nat.reducePow]
              exact ⟨rfl, id⟩
            | false =>
              obtain rfl : i = 15 := by have := of_decide_eq_false c2; omega
              have c1 : decide ((16 : Int) < (l.length : Int)) = true := decide_eq_true (by omega)
              have b16 := bA 16
              have b17 := bA 17
              have htl : (l.take 16).length = 16 := by rw [List.length_take]; omega
              have u1 : ((l.getD 16 0 : Nat) : Int).tmod 4 = ((l.getD 16 0 % 4 : Nat) : Int) := by rw [show (4 : Int) = ((4 : Nat) : Int) from rfl, ← Int.ofNat_tmod]
              have u2 : IntKind.i64.wrap (((l.getD 16 0 : Nat) : Int).tdiv 4) = ((l.getD 16 0 / 4 : Nat) : Int) := by
                rw [show (4 : Int) = ((4 : Nat) : Int) from rfl, ← Int.ofNat_tdiv, IntKind.wrap_i64]; omega
              have hh1 : highL l 1 = [nAt l 0] := rfl
              have hm1 : moreB l 1 = decide ((0 : Int) < ((nAt l 0 : Nat) : Int)) := by simp [moreB]
              have hlo : lowF l = l.take 16 ++ [l.getD 16 0 % 4] := rfl
              cases c3 : decide ((17 : Int) < (l.length : Int)) with
              | true =>
                have g3 : 17 < l.length := by have := of_decide_eq_true c3; omega
                have u3 : ((l.getD 17 0 : Nat) : Int).tmod 4 = ((l.getD 17 0 % 4 : Nat) : Int) := by rw [show (4 : Int) = ((4 : Nat) : Int) from rfl, ← Int.ofNat_tmod]
                have u4 : IntKind.i64.wrap (((l.getD 17 0 % 4 : Nat) : Int) * 64) = ((l.getD 17 0 % 4 * 64 : Nat) : Int) := by rw [IntKind.wrap_i64]; omega
                have u5 : IntKind.i64.wrap (((l.getD 16 0 / 4 : Nat) : Int) + ((l.getD 17 0 % 4 * 64 : Nat) : Int)) = ((nAt l 0 : Nat) : Int) := by
                  rw [IntKind.wrap_i64]; simp only [nAt, Nat.add_zero, Nat.reduceAdd]; omega
                simp only [redIn, c1, c3, u1, u2, u3, u4, u5, htl, envR, con0, conN0, conN1, conN2, natsOf_arr, rowOf_arr, natsOf_cells, rowOf_cells, toN, natL_st, natL_d, natL_enc, natL_up, gd5, daddC, dtimesC, retQx, go_sem, reduceCtorEq, ↓reduceIte, Nat.reduceAdd, Nat.reduceMul, Nat.reduceSub, Nat.reduceEqDiff, Nat.reduceLT, Nat.reduceBEq, Nat.reduceBNe, Nat.reduceLeDiff, Int.reduceLE, Int.reduceLT, Int.reduceToNat, Int.reduceEq, Int.reduceAdd, UInt8.reduceToNat, UInt32.reduceToNat, UInt64.reduceToNat, UInt8.reduceOfNat, UInt32.reduceOfNat, UInt64.reduceOfNat, Fin.isValue, Int.reduceSub, Int.reduceMul, Int.reduceNeg, Int.reduceMod, Int.reduceDiv, Int.reduceTDiv, Int.reduceTMod, Int.reduceBEq, Int.reduceBNe, Nat.reduceDiv, Nat.reducePow]
                repeat' apply And.intro
                all_goals first
                  | omega
                  | skip
                refine again (Sum.inr 0 : Nat ⊕ Nat) [(700, 100056), (800, 140024)] (by simp only [redOkx]; omega) (by simp only [redIx]; omega) ?_
                simp only [redIn, hm1, hh1, hlo, envR, con0, conN0, conN1, conN2, natsOf_arr, rowOf_arr, natsOf_cells, rowOf_cells, toN, natL_st, natL_d, natL_enc, natL_up, gd5, daddC, dtimesC, go_sem, reduceCtorEq, ↓reduceIte, Nat.reduceAdd, Nat.reduceMul, Nat.reduceSub, Nat.reduceEqDiff, Nat.reduceLT, Nat.reduceBEq, Nat.reduceBNe, Nat.reduceLeDiff, Int.reduceLE, Int.reduceLT, Int.reduceToNat, Int.reduceEq, Int.reduceAdd, UInt8.reduceToNat, UInt32.reduceToNat, UInt64.reduceToNat, UInt8.reduceOfNat, UInt32.reduceOfNat, UInt64.reduceOfNat, Fin.isValue, Int.reduceSub, Int.reduceMul, Int.reduceNeg, Int.reduceMod, Int.reduceDiv, Int.reduceTDiv, Int.reduceTMod, Int.reduceBEq, Int.reduceBNe, Nat.reduceDiv, Nat.reducePow]
                exact ⟨rfl, id⟩
              | false =>
                have z17 := getD_out (l := l) (i := 17) (by have := of_decide_eq_false c3; omega)
                have u5 : ((l.getD 16 0 / 4 : Nat) : Int) = ((nAt l 0 : Nat) : Int) := by
                  simp only [nAt, Nat.add_zero, Nat.reduceAdd, z17]; omega
                simp only [redIn, c1, c3, u1, u2, u5, htl, envR, con0, conN0, conN1, conN2, natsOf_arr, rowOf_arr, natsOf_cells, rowOf_cells, toN, natL_st, natL_d, natL_enc, natL_up, gd5, daddC, dtimesC, retQx, go_sem, reduceCtorEq, ↓reduceIte, Nat.reduceAdd, Nat.reduceMul, Nat.reduceSub, Nat.reduceEqDiff, Nat.reduceLT, Nat.reduceBEq, Nat.reduceBNe, Nat.reduceLeDiff, Int.reduceLE, Int.reduceLT, Int.reduceToNat, Int.reduceEq, Int.reduceAdd, UInt8.reduceToNat, UInt32.reduceToNat, UInt64.reduceToNat, UInt8.reduceOfNat, UInt32.reduceOfNat, UInt64.reduceOfNat, Fin.isValue, Int.reduceSub, Int.reduceMul, Int.reduceNeg, Int.reduceMod, Int.reduceDiv, Int.reduceTDiv, Int.reduceTMod, Int.reduceBEq, Int.reduceBNe, Nat.reduceDiv, Nat.reducePow]
                repeat' apply And.intro
                all_goals first
                  | omega
                  | skip
                refine again (Sum.inr 0 : Nat ⊕ Nat) [(700, 100056), (800, 140024)] (by simp only [redOkx]; omega) (by simp only [redIx]; omega) ?_
                simp only [redIn, hm1, hh1, hlo, envR, con0, conN0, conN1, conN2, natsOf_arr, rowOf_arr, natsOf_cells, rowOf_cells, toN, natL_st, natL_d, natL_enc, natL_up, gd5, daddC, dtimesC, go_sem, reduceCtorEq, ↓reduceIte, Nat.reduceAdd, Nat.reduceMul, Nat.reduceSub, Nat.reduceEqDiff, Nat.reduceLT, Nat.reduceBEq, Nat.reduceBNe, Nat.reduceLeDiff, Int.reduceLE, Int.reduceLT, Int.reduceToNat, Int.reduceEq, Int.reduceAdd, UInt8.reduceToNat, UInt32.reduceToNat, UInt64.reduceToNat, UInt8.reduceOfNat, UInt32.reduceOfNat, UInt64.reduceOfNat, Fin.isValue, Int.reduceSub, Int.reduceMul, Int.reduceNeg, Int.reduceMod, Int.reduceDiv, Int.reduceTDiv, Int.reduceTMod, Int.reduceBEq, Int.reduceBNe, Nat.reduceDiv, Nat.reducePow]
                exact ⟨rfl, id⟩
        · simp only [redOkx] at hy
          have bp := bA (17 + m)
          have bq := bA (17 + m + 1)
          have c2 : decide (((17 + m : Nat) : Int) < 16) = false := decide_eq_false (by omega)
          have c5 : (((17 + m : Nat) : Int) == 16) = false := beq_eq_false_iff_ne.2 (by omega)
          have w1 : IntKind.i64.wrap (((17 + m : Nat) : Int) + 1) = ((17 + m + 1 : Nat) : Int) := by rw [IntKind.wrap_i64]; omega
          have hlw := low_len x2
          have hhl := highL_len l (m + 1)
          cases c1 : decide (((17 + m : Nat) : Int) < (l.length : Int)) with
          | true =>
            have g1 : 17 + m < l.length := by have := of_decide_eq_true c1; omega
            have hn : nAt l (m + 1) = l.getD (17 + m) 0 / 4 + l.getD (17 + m + 1) 0 % 4 * 64 := by
              unfold nAt; rw [show 16 + (m + 1) = 17 + m by omega]
            have u2 : IntKind.i64.wrap (((l.getD (17 + m) 0 : Nat) : Int).tdiv 4) = ((l.getD (17 + m) 0 / 4 : Nat) : Int) := by
              rw [show (4 : Int) = ((4 : Nat) : Int) from rfl, ← Int.ofNat_tdiv, IntKind.wrap_i64]; omega
            have hh1 := highL_succ l (m + 1)
            have hm1 : moreB l (m + 1 + 1) = (moreB l (m + 1) || decide ((0 : Int) < ((nAt l (m + 1) : Nat) : Int))) := by simp [moreB]
            cases c3 : decide (((17 + m + 1 : Nat) : Int) < (l.length : Int)) with
            | true =>
              have g3 : 17 + m + 1 < l.length := by have := of_decide_eq_true c3; omega
              have u3 : ((l.getD (17 + m + 1) 0 : Nat) : Int).tmod 4 = ((l.getD (17 + m + 1) 0 % 4 : Nat) : Int) := by rw [show (4 : Int) = ((4 : Nat) : Int) from rfl, ← Int.ofNat_tmod]
              have u4 : IntKind.i64.wrap (((l.getD (17 + m + 1) 0 % 4 : Nat) : Int) * 64) = ((l.getD (17 + m + 1) 0 % 4 * 64 : Nat) : Int) := by rw [IntKind.wrap_i64]; omega
              have u5 : IntKind.i64.wrap (((l.getD (17 + m) 0 / 4 : Nat) : Int) + ((l.getD (17 + m + 1) 0 % 4 * 64 : Nat) : Int)) = ((nAt l (m + 1) : Nat) : Int) := by
                rw [IntKind.wrap_i64, hn]; omega
              cases hmo : moreB l (m + 1) <;>
              · rw [hmo] at hm1
                simp only [redIn, c1, c2, c3, c5, w1, u2, u3, u4, u5, hmo, envR, con0, conN0, conN1, conN2, natsOf_arr, rowOf_arr, natsOf_cells, rowOf_cells, toN, natL_st, natL_d, natL_enc, natL_up, gd5, daddC, dtimesC, retQx, go_sem, reduceCtorEq, ↓reduceIte, Nat.reduceAdd, Nat.reduceMul, Nat.reduceSub, Nat.reduceEqDiff, Nat.reduceLT, Nat.reduceBEq, Nat.reduceBNe, Nat.reduceLeDiff, Int.reduceLE, Int.reduceLT, Int.reduceToNat, Int.reduceEq, Int.reduceAdd, UInt8.reduceToNat, UInt32.reduceToNat, UInt64.reduceToNat, UInt8.reduceOfNat, UInt32.reduceOfNat, UInt64.reduceOfNat, Fin.isValue, Int.reduceSub, Int.reduceMul, Int.reduceNeg, Int.reduceMod, Int.reduceDiv, Int.reduceTDiv, Int.reduceTMod, Int.reduceBEq, Int.reduceBNe, Nat.reduceDiv, Nat.reducePow]
                repeat' apply And.intro
                all_goals first
                  | omega
                  | skip
                refine again (Sum.inr (m + 1) : Nat ⊕ Nat) [(800, 140024)] (by simp only [redOkx]; omega) (by simp only [redIx]; omega) ?_
                have hidx : 17 + (m + 1) = 17 + m + 1 := rfl
                simp only [redIn, hm1, hh1, hidx, envR, con0, conN0, conN1, conN2, natsOf_arr, rowOf_arr, natsOf_cells, rowOf_cells, toN, natL_st, natL_d, natL_enc, natL_up, gd5, daddC, dtimesC, go_sem, reduceCtorEq, ↓reduceIte, Nat.reduceAdd, Nat.reduceMul, Nat.reduceSub, Nat.reduceEqDiff, Nat.reduceLT, Nat.reduceBEq, Nat.reduceBNe, Nat.reduceLeDiff, Int.reduceLE, Int.reduceLT, Int.reduceToNat, Int.reduceEq, Int.reduceAdd, UInt8.reduceToNat, UInt32.reduceToNat, UInt64.reduceToNat, UInt8.reduceOfNat, UInt32.reduceOfNat, UInt64.reduceOfNat, Fin.isValue, Int.reduceSub, Int.reduceMul, Int.reduceNeg, Int.reduceMod, Int.reduceDiv, Int.reduceTDiv, Int.reduceTMod, Int.reduceBEq, Int.reduceBNe, Nat.reduceDiv, Nat.reducePow]
                exact ⟨rfl, id⟩
            | false =>
              have z17 := getD_out (l := l) (i := 17 + m + 1) (by have := of_decide_eq_false c3; omega)
              have u5 : ((l.getD (17 + m) 0 / 4 : Nat) : Int) = ((nAt l (m + 1) : Nat) : Int) := by
                rw [hn, z17]; omega
              cases hmo : moreB l (m + 1) <;>
              · rw [hmo] at hm1
                simp only [redIn, c1, c2, c3, c5, w1, u2, u5, hmo, envR, con0, conN0, conN1, conN2, natsOf_arr, rowOf_arr, natsOf_cells, rowOf_cells, toN, natL_st, natL_d, natL_enc, natL_up, gd5, daddC, dtimesC, retQx, go_sem, reduceCtorEq, ↓reduceIte, Nat.reduceAdd, Nat.reduceMul, Nat.reduceSub, Nat.reduceEqDiff, Nat.reduceLT, Nat.reduceBEq, Nat.reduceBNe, Nat.reduceLeDiff, Int.reduceLE, Int.reduceLT, Int.reduceToNat, Int.reduceEq, Int.reduceAdd, UInt8.reduceToNat, UInt32.reduceToNat, UInt64.reduceToNat, UInt8.reduceOfNat, UInt32.reduceOfNat, UInt64.reduceOfNat, Fin.isValue, Int.reduceSub, Int.reduceMul, Int.reduceNeg, Int.reduceMod, Int.reduceDiv, Int.reduceTDiv, Int.reduceTMod, Int.reduceBEq, Int.reduceBNe, Nat.reduceDiv, Nat.reducePow]
                repeat' apply And.intro
                all_goals first
                  | omega
                  | skip
                refine again (Sum.inr (m + 1) : Nat ⊕ Nat) [(800, 140024)] (by simp only [redOkx]; omega) (by simp only [redIx]; omega) ?_
                have hidx : 17 + (m + 1) = 17 + m + 1 := rfl
                simp only [redIn, hm1, hh1, hidx, envR, con0, conN0, conN1, conN2, natsOf_arr, rowOf_arr, natsOf_cells, rowOf_cells, toN, natL_st, natL_d, natL_enc, natL_up, gd5, daddC, dtimesC, go_sem, reduceCtorEq, ↓reduceIte, Nat.reduceAdd, Nat.reduceMul, Nat.reduceSub, Nat.reduceEqDiff, Nat.reduceLT, Nat.reduceBEq, Nat.reduceBNe, Nat.reduceLeDiff, Int.reduceLE, Int.reduceLT, Int.reduceToNat, Int.reduceEq, Int.reduceAdd, UInt8.reduceToNat, UInt32.reduceToNat, UInt64.reduceToNat, UInt8.reduceOfNat, UInt32.reduceOfNat, UInt64.reduceOfNat, Fin.isValue, Int.reduceSub, Int.reduceMul, Int.reduceNeg, Int.reduceMod, Int.reduceDiv, Int.reduceTDiv, Int.reduceTMod, Int.reduceBEq, Int.reduceBNe, Nat.reduceDiv, Nat.reducePow]
                exact ⟨rfl, id⟩
          | false =>
            have ge : m + 1 = l.length - 16 := by have := of_decide_eq_false c1; omega
            cases hmo : moreB l (m + 1) with
            | true =>
              obtain ⟨n1, n2, n3, n4, n5⟩ := next_spec bA x2 x3
              have n5 := n5 (by rw [← ge]; exact hmo)
              simp only [redIn, c1, hmo, envR, con0, conN0, conN1, conN2, natsOf_arr, rowOf_arr, natsOf_cells, rowOf_cells, toN, natL_st, natL_d, natL_enc, natL_up, gd5, daddC, dtimesC, retQx, go_sem, reduceCtorEq, ↓reduceIte, Nat.reduceAdd, Nat.reduceMul, Nat.reduceSub, Nat.reduceEqDiff, Nat.reduceLT, Nat.reduceBEq, Nat.reduceBNe, Nat.reduceLeDiff, Int.reduceLE, Int.reduceLT, Int.reduceToNat, Int.reduceEq, Int.reduceAdd, UInt8.reduceToNat, UInt32.reduceToNat, UInt64.reduceToNat, UInt8.reduceOfNat, UInt32.reduceOfNat, UInt64.reduceOfNat, Fin.isValue, Int.reduceSub, Int.reduceMul, Int.reduceNeg, Int.reduceMod, Int.reduceDiv, Int.reduceTDiv, Int.reduceTMod, Int.reduceBEq, Int.reduceBNe, Nat.reduceDiv, Nat.reducePow]
              refine ⟨⟨hhl.symm, highL_lt bA _, five_lt, by rw [hhl]; omega⟩, ⟨hlw.symm, low_lt bA, timesL_lt (by decide) (highL_lt bA _) five_lt, by omega, by rw [timesL_len, hhl]; simp only [List.length_cons, List.length_nil]; omega, by omega⟩, again (some (nextL l)) [(600, 180032)] ⟨n1, n2, n3, n4.trans x4⟩ n5 ?_⟩
              simp only [redOut, nextL, ← ge, envR, con0, conN0, conN1, conN2, natsOf_arr, rowOf_arr, natsOf_cells, rowOf_cells, toN, natL_st, natL_d, natL_enc, natL_up, gd5, daddC, dtimesC, go_sem, reduceCtorEq, ↓reduceIte, Nat.reduceAdd, Nat.reduceMul, Nat.reduceSub, Nat.reduceEqDiff, Nat.reduceLT, Nat.reduceBEq, Nat.reduceBNe, Nat.reduceLeDiff, Int.reduceLE, Int.reduceLT, Int.reduceToNat, Int.reduceEq, Int.reduceAdd, UInt8.reduceToNat, UInt32.reduceToNat, UInt64.reduceToNat, UInt8.reduceOfNat, UInt32.reduceOfNat, UInt64.reduceOfNat, Fin.isValue, Int.reduceSub, Int.reduceMul, Int.reduceNeg, Int.reduceMod, Int.reduceDiv, Int.reduceTDiv, Int.reduceTMod, Int.reduceBEq, Int.reduceBNe, Nat.reduceDiv, Nat.reducePow]
              exact ⟨rfl, id⟩
            | false =>
              obtain ⟨f1, f2, f3⟩ := five_spec (low_lt bA) hlw (low_bd bA x2)
              have f1 : (addL 256 (lowF l) [5]).length = 17 := f1
              have rl := red_low (a := a) bA x2 (by rw [← ge]; exact hmo) x4
              have rh := red_high (a := a) bA x2 (by rw [← ge]; exact hmo) x4
              unfold fiveL at rl rh
              obtain ⟨v, hv⟩ : ∃ v, v = (addL 256 (lowF l) [5]).getD 16 0 := ⟨_, rfl⟩
              have bv : v < 256 := by rw [hv]; exact f3 16
              rw [← hv] at rl rh
              simp only [redIn, c1, hmo, envR, con0, conN0, conN1, conN2, natsOf_arr, rowOf_arr, natsOf_cells, rowOf_cells, toN, natL_st, natL_d, natL_enc, natL_up, gd5, daddC, dtimesC, retQx, go_sem, reduceCtorEq, ↓reduceIte, Nat.reduceAdd, Nat.reduceMul, Nat.reduceSub, Nat.reduceEqDiff, Nat.reduceLT, Nat.reduceBEq, Nat.reduceBNe, Nat.reduceLeDiff, Int.reduceLE, Int.reduceLT, Int.reduceToNat, Int.reduceEq, Int.reduceAdd, UInt8.reduceToNat, UInt32.reduceToNat, UInt64.reduceToNat, UInt8.reduceOfNat, UInt32.reduceOfNat, UInt64.reduceOfNat, Fin.isValue, Int.reduceSub, Int.reduceMul, Int.reduceNeg, Int.reduceMod, Int.reduceDiv, Int.reduceTDiv, Int.reduceTMod, Int.reduceBEq, Int.reduceBNe, Nat.reduceDiv, Nat.reducePow]
              refine loop_rounds (envR_ok gd5_ok 98 [0]) 1 ?_
              cases c4 : decide ((3 : Int) < (v : Int)) with
              | true =>
                have w4 : IntKind.i64.wrap ((v : Int) - 4) = ((v - 4 : Nat) : Int) := by rw [IntKind.wrap_i64]; have := of_decide_eq_true c4; omega
                have rh := rh (by have := of_decide_eq_true c4; omega)
                simp only [c4, w4, hlw, f1, ← hv, envR, con0, conN0, conN1, conN2, natsOf_arr, rowOf_arr, natsOf_cells, rowOf_cells, toN, natL_st, natL_d, natL_enc, natL_up, gd5, daddC, dtimesC, retQx, go_sem, reduceCtorEq, ↓reduceIte, Nat.reduceAdd, Nat.reduceMul, Nat.reduceSub, Nat.reduceEqDiff, Nat.reduceLT, Nat.reduceBEq, Nat.reduceBNe, Nat.reduceLeDiff, Int.reduceLE, Int.reduceLT, Int.reduceToNat, Int.reduceEq, Int.reduceAdd, UInt8.reduceToNat, UInt32.reduceToNat, UInt64.reduceToNat, UInt8.reduceOfNat, UInt32.reduceOfNat, UInt64.reduceOfNat, Fin.isValue, Int.reduceSub, Int.reduceMul, Int.reduceNeg, Int.reduceMod, Int.reduceDiv, Int.reduceTDiv, Int.reduceTMod, Int.reduceBEq, Int.reduceBNe, Nat.reduceDiv, Nat.reducePow]
                refine ⟨⟨low_lt bA, five_lt⟩, endX [(1, 210016)] ?_⟩
                simp only [rh, redL, envR, con0, conN0, conN1, conN2, natsOf_arr, rowOf_arr, natsOf_cells, rowOf_cells, toN, natL_st, natL_d, natL_enc, natL_up, gd5, daddC, dtimesC, go_sem, reduceCtorEq, ↓reduceIte, Nat.reduceAdd, Nat.reduceMul, Nat.reduceSub, Nat.reduceEqDiff, Nat.reduceLT, Nat.reduceBEq, Nat.reduceBNe, Nat.reduceLeDiff, Int.reduceLE, Int.reduceLT, Int.reduceToNat, Int.reduceEq, Int.reduceAdd, UInt8.reduceToNat, UInt32.reduceToNat, UInt64.reduceToNat, UInt8.reduceOfNat, UInt32.reduceOfNat, UInt64.reduceOfNat, Fin.isValue, Int.reduceSub, Int.reduceMul, Int.reduceNeg, Int.reduceMod, Int.reduceDiv, Int.reduceTDiv, Int.reduceTMod, Int.reduceBEq, Int.reduceBNe, Nat.reduceDiv, Nat.reducePow]
                exact ⟨rfl, id⟩
              | false =>
                have rl := rl (by have := of_decide_eq_false c4; omega)
                simp only [c4, hlw, f1, ← hv, envR, con0, conN0, conN1, conN2, natsOf_arr, rowOf_arr, natsOf_cells, rowOf_cells, toN, natL_st, natL_d, natL_enc, natL_up, gd5, daddC, dtimesC, retQx, go_sem, reduceCtorEq, ↓reduceIte, Nat.reduceAdd, Nat.reduceMul, Nat.reduceSub, Nat.reduceEqDiff, Nat.reduceLT, Nat.reduceBEq, Nat.reduceBNe, Nat.reduceLeDiff, Int.reduceLE, Int.reduceLT, Int.reduceToNat, Int.reduceEq, Int.reduceAdd, UInt8.reduceToNat, UInt32.reduceToNat, UInt64.reduceToNat, UInt8.reduceOfNat, UInt32.reduceOfNat, UInt64.reduceOfNat, Fin.isValue, Int.reduceSub, Int.reduceMul, Int.reduceNeg, Int.reduceMod, Int.reduceDiv, Int.reduceTDiv, Int.reduceTMod, Int.reduceBEq, Int.reduceBNe, Nat.reduceDiv, Nat.reducePow]
                refine ⟨⟨low_lt bA, five_lt⟩, endX [(1, 700)] ?_⟩
                simp only [← rl, redL, envR, con0, conN0, conN1, conN2, natsOf_arr, rowOf_arr, natsOf_cells, rowOf_cells, toN, natL_st, natL_d, natL_enc, natL_up, gd5, daddC, dtimesC, go_sem, reduceCtorEq, ↓reduceIte, Nat.reduceAdd, Nat.reduceMul, Nat.reduceSub, Nat.reduceEqDiff, Nat.reduceLT, Nat.reduceBEq, Nat.reduceBNe, Nat.reduceLeDiff, Int.reduceLE, Int.reduceLT, Int.reduceToNat, Int.reduceEq, Int.reduceAdd, UInt8.reduceToNat, UInt32.reduceToNat, UInt64.reduceToNat, UInt8.reduceOfNat, UInt32.reduceOfNat, UInt64.reduceOfNat, Fin.isValue, Int.reduceSub, Int.reduceMul, Int.reduceNeg, Int.reduceMod, Int.reduceDiv, Int.reduceTDiv, Int.reduceTMod, Int.reduceBEq, Int.reduceBNe, Nat.reduceDiv, Nat.reducePow]
                exact ⟨rfl, id⟩
end Go.Proofs.Ythgemadhhkocgaa
