/-
  Layer 2: the keyed digest, walked, and the document's.
-/
import Derived.Test.YtdkogjjebbdngaaDoorSz
import Derived.Test.YtdkogjjebbdngaaDoorHj
import Derived.Test.YtdkogjjebbdngaaDoorHm
namespace Go.Proofs.YtdkogjjebbdngaaDoor
open Go Go.RowKit
set_option maxHeartbeats 4000000
set_option linter.unusedSimpArgs false
set_option linter.unusedVariables false
set_option linter.unusedSectionVars false
theorem sumL_len (s : List UInt8) : (sumL s).length = 32 := rfl
def keyM (k : List UInt8) : List UInt8 := if 64 < k.length then sumL k else k
theorem keyM_len (k : List UInt8) : (keyM k).length ≤ 64 := by
  unfold keyM
  split
  · rw [sumL_len]; decide
  · omega
def sumM (k s : List UInt8) : List UInt8 := sumL (padM (keyM k) 92 ++ sumL (padM (keyM k) 54 ++ s))
theorem sumM_len (k s : List UInt8) : (sumM k s).length = 32 := rfl
theorem mpadU_ok : ConOkG Tryd.prog GS 30 mpadC := ConOk.up mpadC_ok
def mpadU : Con := mpadC
def ho1 : Nat → Option Con := fun f => match f with
  | 30 => some mpadC
  | 9 => some ssumC
  | _ => none
theorem ho1_ok : GaOkG Tryd.prog GS ho1 := fun f con h => by
  unfold ho1 at h
  split at h
  · injection h with h; subst h; exact ConOk.up mpadC_ok
  · injection h with h; subst h; exact ssumC_ok
  · cases h
set_option maxRecDepth 100000 in
theorem macSum_tri (k s : List UInt8) (hk : k.length ≤ 10000) (hs : s.length ≤ 10000) : TriG Tryd.prog GS 15 [.one (.str k), .one (.str s)] [] (.c (.one (.str (sumM k s)))) [] := by
  have hkl := keyM_len k
  have l1 := padM_len hkl 54
  have l2 := padM_len hkl 92
  have e0 : sumL (padM (keyM k) 92 ++ sumL (padM (keyM k) 54 ++ s)) = sumM k s := rfl
  refine tri_ofx (envSK_ok ho1_ok 21 []) Tryd.func15 rfl rfl (rs := [.tmp 4]) rfl rfl (by simp [envSK]) rfl ?_
  cases hc : decide ((64 : Int) < (k.length : Int)) with
  | true =>
    have hkm : sumL k = keyM k := by unfold keyM; rw [if_pos (by have := of_decide_eq_true hc; omega)]
    simp only [hc, hkm, e0, l1, l2, sumL_len, ssumC, mpadC, envSK, con0, conS, strsOf_arr, rowS_arr, strsOf_cells, rowS_cells, toS, strL_st, strL_d, strL_enc, strL_up, hpN_nil, hpN_cons, ho1, retQx, go_sem, reduceCtorEq, ↓reduceIte, Nat.reduceAdd, Nat.reduceMul, Nat.reduceSub, Nat.reduceEqDiff, Nat.reduceLT, Nat.reduceBEq, Nat.reduceBNe, Nat.reduceLeDiff, Int.reduceLE, Int.reduceLT, Int.reduceToNat, Int.reduceEq, Int.reduceAdd, UInt8.reduceToNat, UInt32.reduceToNat, UInt64.reduceToNat, UInt8.reduceOfNat, UInt32.reduceOfNat, UInt64.reduceOfNat, Fin.isValue, Int.reduceSub, Int.reduceMul, Int.reduceNeg, Int.reduceMod, Int.reduceDiv, Int.reduceTDiv, Int.reduceTMod, Int.reduceBEq, Int.reduceBNe, Nat.reduceDiv, Nat.reducePow]
    repeat' apply And.intro
    all_goals first
      | omega
      | (simp only [List.length_append, l1, l2, sumL_len]; omega)
      | rfl
      | skip
    refine endX [] ?_
    simp only [envSK, con0, conS, strsOf_arr, rowS_arr, strsOf_cells, rowS_cells, toS, strL_st, strL_d, strL_enc, strL_up, hpN_nil, hpN_cons, ho1, retQx, go_sem, reduceCtorEq, ↓reduceIte, Nat.reduceAdd, Nat.reduceMul, Nat.reduceSub, Nat.reduceEqDiff, Nat.reduceLT, Nat.reduceBEq, Nat.reduceBNe, Nat.reduceLeDiff, Int.reduceLE, Int.reduceLT, Int.reduceToNat, Int.reduceEq, Int.reduceAdd, UInt8.reduceToNat, UInt32.reduceToNat, UInt64.reduceToNat, UInt8.reduceOfNat, UInt32.reduceOfNat, UInt64.reduceOfNat, Fin.isValue, Int.reduceSub, Int.reduceMul, Int.reduceNeg, Int.reduceMod, Int.reduceDiv, Int.reduceTDiv, Int.reduceTMod, Int.reduceBEq, Int.reduceBNe, Nat.reduceDiv, Nat.reducePow]
    all_goals first
      | trivial
      | trace_state
  | false =>
    have hkm : keyM k = k := by unfold keyM; rw [if_neg (by have := of_decide_eq_false hc; omega)]
    rw [hkm] at hkl l1 l2 e0
    simp only [hc, e0, l1, l2, sumL_len, ssumC, mpadC, envSK, con0, conS, strsOf_arr, rowS_arr, strsOf_cells, rowS_cells, toS, strL_st, strL_d, strL_enc, strL_up, hpN_nil, hpN_cons, ho1, retQx, go_sem, reduceCtorEq, ↓reduceIte, Nat.reduceAdd, Nat.reduceMul, Nat.reduceSub, Nat.reduceEqDiff, Nat.reduceLT, Nat.reduceBEq, Nat.reduceBNe, Nat.reduceLeDiff, Int.reduceLE, Int.reduceLT, Int.reduceToNat, Int.reduceEq, Int.reduceAdd, UInt8.reduceToNat, UInt32.reduceToNat, UInt64.reduceToNat, UInt8.reduceOfNat, UInt32.reduceOfNat, UInt64.reduceOfNat, Fin.isValue, Int.reduceSub, Int.reduceMul, Int.reduceNeg, Int.reduceMod, Int.reduceDiv, Int.reduceTDiv, Int.reduceTMod, Int.reduceBEq, Int.reduceBNe, Nat.reduceDiv, Nat.reducePow]
    repeat' apply And.intro
    all_goals first
      | omega
      | (simp only [List.length_append, l1, l2, sumL_len]; omega)
      | rfl
      | skip
    refine endX [] ?_
    simp only [envSK, con0, conS, strsOf_arr, rowS_arr, strsOf_cells, rowS_cells, toS, strL_st, strL_d, strL_enc, strL_up, hpN_nil, hpN_cons, ho1, retQx, go_sem, reduceCtorEq, ↓reduceIte, Nat.reduceAdd, Nat.reduceMul, Nat.reduceSub, Nat.reduceEqDiff, Nat.reduceLT, Nat.reduceBEq, Nat.reduceBNe, Nat.reduceLeDiff, Int.reduceLE, Int.reduceLT, Int.reduceToNat, Int.reduceEq, Int.reduceAdd, UInt8.reduceToNat, UInt32.reduceToNat, UInt64.reduceToNat, UInt8.reduceOfNat, UInt32.reduceOfNat, UInt64.reduceOfNat, Fin.isValue, Int.reduceSub, Int.reduceMul, Int.reduceNeg, Int.reduceMod, Int.reduceDiv, Int.reduceTDiv, Int.reduceTMod, Int.reduceBEq, Int.reduceBNe, Nat.reduceDiv, Nat.reducePow]
    all_goals first
      | trivial
      | trace_state
def macSumC : Con := con0 fun args => match args with
  | [.one (.str k), .one (.str s)] => some (.c (.one (.str (sumM k s))), [k.length ≤ 10000, s.length ≤ 10000])
  | _ => none
theorem macSumC_ok : ConOkG Tryd.prog GS 15 macSumC := con0_okG Tryd.func15 rfl rfl fun args res ob h hob => by
  split at h
  · injection h with h; injection h with h1 h2; subst h1; subst h2; exact macSum_tri _ _ hob.1 hob.2.1
  · cases h
-- THE DOCUMENT'S
def kpad (k : List UInt8) (m : UInt8) : Nat → List UInt8
  | 0 => List.replicate 64 0
  | i + 1 => (kpad k m i).set i ((if i < k.length then k.getD i 0 else 0) ^^^ m)
theorem kpad_len (k : List UInt8) (m : UInt8) : ∀ i, (kpad k m i).length = 64
  | 0 => List.length_replicate
  | i + 1 => by rw [kpad, List.length_set, kpad_len k m i]
theorem keyZ_get {k : List UInt8} (hk : k.length ≤ 64) (i : Nat) : (keyZ k).getD i 0 = if i < k.length then k.getD i 0 else 0 := by
  unfold keyZ
  split
  · rename_i h
    rw [List.getD_eq_getElem?_getD, List.getElem?_append_left h, ← List.getD_eq_getElem?_getD]
  · rename_i h
    rw [List.getD_eq_getElem?_getD, List.getElem?_append_right (by omega), List.getElem?_replicate]
    split <;> rfl
theorem xorM_get (l : List UInt8) (m : UInt8) : ∀ i j, (xorM l m i).getD j 0 = if j < i ∧ j < l.length then l.getD j 0 ^^^ m else l.getD j 0
  | 0, j => by rw [if_neg (by omega)]; rfl
  | i + 1, j => by
    rw [xorM, List.getD_eq_getElem?_getD, List.getElem?_set, xorM_len]
    by_cases hij : i = j
    · subst hij
      rw [if_pos rfl]
      by_cases hl : i < l.length
      · rw [if_pos hl, if_pos ⟨by omega, hl⟩, xorM_get l m i i, if_neg (by omega)]; rfl
      · rw [if_neg hl, if_neg (by omega), List.getD_eq_getElem?_getD, List.getElem?_eq_none (by omega)]
    · rw [if_neg hij, ← List.getD_eq_getElem?_getD, xorM_get l m i j]
      by_cases h : j < i ∧ j < l.length
      · rw [if_pos h, if_pos (by omega)]
      · rw [if_neg h, if_neg (by omega)]
theorem kpad_get (k : List UInt8) (m : UInt8) : ∀ i j, i ≤ 64 → (kpad k m i).getD j 0 = if j < i then (if j < k.length then k.getD j 0 else 0) ^^^ m else 0
  | 0, j, _ => by
    rw [if_neg (by omega), kpad, List.getD_eq_getElem?_getD, List.getElem?_replicate]
    split <;> rfl
  | i + 1, j, hi => by
    rw [kpad, List.getD_eq_getElem?_getD, List.getElem?_set, kpad_len]
    by_cases hij : i = j
    · subst hij
      rw [if_pos rfl, if_pos (show i < 64 by omega), if_pos (show i < i + 1 by omega)]; rfl
    · rw [if_neg hij, ← List.getD_eq_getElem?_getD, kpad_get k m i j (by omega)]
      by_cases h : j < i
      · rw [if_pos h, if_pos (show j < i + 1 by omega)]
      · rw [if_neg h, if_neg (show ¬ j < i + 1 by omega)]
theorem kpad_eq {k : List UInt8} (hk : k.length ≤ 64) (m : UInt8) : kpad k m 64 = padM k m := by
  apply List.ext_getElem
  · rw [kpad_len, padM_len hk]
  · intro j h1 h2
    have a := kpad_get k m 64 j (Nat.le_refl _)
    have b := xorM_get (keyZ k) m 64 j
    have hj : j < 64 := by rw [kpad_len] at h1; exact h1
    rw [if_pos hj] at a
    rw [if_pos ⟨hj, by rw [keyZ_len hk]; exact hj⟩, keyZ_get hk] at b
    have c : (kpad k m 64).getD j 0 = (padM k m).getD j 0 := a.trans b.symm
    rw [List.getD_eq_getElem?_getD, List.getElem?_eq_getElem h1, List.getD_eq_getElem?_getD, List.getElem?_eq_getElem h2] at c
    exact c
theorem zer_flat : (List.replicate 64 (0 : UInt8)).flatMap u8L.enc = List.replicate 64 (AV.u8 0) := by
  rw [u8_map, List.map_replicate]
def ho2 : Nat → Option Con := fun f => match f with
  | 10 => some rsumC
  | _ => none
theorem ho2_ok : GaOkG Tryd.prog GS ho2 := fun f con h => by
  unfold ho2 at h
  split at h
  · injection h with h; subst h; exact rsumC_ok
  · cases h
def rmI (k s : List UInt8) (i : Nat) : St := ⟨[(0, .c (.one (.str k))), (1, .c (.one (.str s))), (5, .c (.one (.sl 500 0 1 64))), (6, .c (.one (.sl 600 0 1 64))), (7, .c (.one (.num i)))], [(500, ⟨.arr UInt8 u8L (kpad k 54 i), true⟩), (600, ⟨.arr UInt8 u8L (kpad k 92 i), true⟩)]⟩
set_option maxRecDepth 100000 in
theorem rmac_tri (k s : List UInt8) (hk : k.length ≤ 10000) (hs : s.length ≤ 10000) : TriG Tryd.prog GS 16 [.one (.str k), .one (.str s)] [] (.c (.one (.str (sumM k s)))) [] := by
  have hkl := keyM_len k
  have l1 := padM_len hkl 54
  have l2 := padM_len hkl 92
  have e0 : sumL (padM (keyM k) 92 ++ sumL (padM (keyM k) 54 ++ s)) = sumM k s := rfl
  have p1 := kpad_eq hkl 54
  have p2 := kpad_eq hkl 92
  refine tri_ofx (envSK_ok ho2_ok 46 []) Tryd.func16 rfl rfl (rs := [.tmp 4]) rfl rfl (by simp [envSK]) rfl ?_
  cases hc : decide ((64 : Int) < (k.length : Int)) with
  | true =>
    have hkm : sumL k = keyM k := by unfold keyM; rw [if_pos (by have := of_decide_eq_true hc; omega)]
    simp only [hc, hkm, List.length_replicate, envSK, con0, conS, strsOf_arr, rowS_arr, strsOf_cells, rowS_cells, toS, strL_st, strL_d, strL_enc, strL_up, hpN_nil, hpN_cons, ho2, rsumC, retQx, go_sem, reduceCtorEq, ↓reduceIte, Nat.reduceAdd, Nat.reduceMul, Nat.reduceSub, Nat.reduceEqDiff, Nat.reduceLT, Nat.reduceBEq, Nat.reduceBNe, Nat.reduceLeDiff, Int.reduceLE, Int.reduceLT, Int.reduceToNat, Int.reduceEq, Int.reduceAdd, UInt8.reduceToNat, UInt32.reduceToNat, UInt64.reduceToNat, UInt8.reduceOfNat, UInt32.reduceOfNat, UInt64.reduceOfNat, Fin.isValue, Int.reduceSub, Int.reduceMul, Int.reduceNeg, Int.reduceMod, Int.reduceDiv, Int.reduceTDiv, Int.reduceTMod, Int.reduceBEq, Int.reduceBNe, Nat.reduceDiv, Nat.reducePow]
    repeat' apply And.intro
    all_goals first
      | omega
      | (show ckDraw _; rfl)
      | skip
    refine loop_inv (envSK_ok ho2_ok 46 []) (rmI (keyM k) s) (fun i => i ≤ 64) (fun i => 64 - i) 0 [(500, 40000), (600, 40008)] (by omega) ?_ ?_
    · simp only [rmI, kpad, zer_flat, hkm, List.length_replicate, envSK, con0, conS, strsOf_arr, rowS_arr, strsOf_cells, rowS_cells, toS, strL_st, strL_d, strL_enc, strL_up, hpN_nil, hpN_cons, ho2, rsumC, go_sem, reduceCtorEq, ↓reduceIte, Nat.reduceAdd, Nat.reduceMul, Nat.reduceSub, Nat.reduceEqDiff, Nat.reduceLT, Nat.reduceBEq, Nat.reduceBNe, Nat.reduceLeDiff, Int.reduceLE, Int.reduceLT, Int.reduceToNat, Int.reduceEq, Int.reduceAdd, UInt8.reduceToNat, UInt32.reduceToNat, UInt64.reduceToNat, UInt8.reduceOfNat, UInt32.reduceOfNat, UInt64.reduceOfNat, Fin.isValue, Int.reduceSub, Int.reduceMul, Int.reduceNeg, Int.reduceMod, Int.reduceDiv, Int.reduceTDiv, Int.reduceTMod, Int.reduceBEq, Int.reduceBNe, Nat.reduceDiv, Nat.reducePow]
      all_goals first
        | trivial
        | trace_state
    · intro i hi
      have a1 := kpad_len (keyM k) 54 i
      have a2 := kpad_len (keyM k) 92 i
      simp only [rmI, envSK, con0, conS, strsOf_arr, rowS_arr, strsOf_cells, rowS_cells, toS, strL_st, strL_d, strL_enc, strL_up, hpN_nil, hpN_cons, ho2, rsumC, retQx, go_sem, reduceCtorEq, ↓reduceIte, Nat.reduceAdd, Nat.reduceMul, Nat.reduceSub, Nat.reduceEqDiff, Nat.reduceLT, Nat.reduceBEq, Nat.reduceBNe, Nat.reduceLeDiff, Int.reduceLE, Int.reduceLT, Int.reduceToNat, Int.reduceEq, Int.reduceAdd, UInt8.reduceToNat, UInt32.reduceToNat, UInt64.reduceToNat, UInt8.reduceOfNat, UInt32.reduceOfNat, UInt64.reduceOfNat, Fin.isValue, Int.reduceSub, Int.reduceMul, Int.reduceNeg, Int.reduceMod, Int.reduceDiv, Int.reduceTDiv, Int.reduceTMod, Int.reduceBEq, Int.reduceBNe, Nat.reduceDiv, Nat.reducePow]
      refine br (fun hg => ?_) fun hg => ?_
      · have hg' := of_decide_eq_true hg
        have w4 : IntKind.i64.wrap ((i : Int) + 1) = ((i + 1 : Nat) : Int) := by rw [IntKind.wrap_i64]; omega
        cases hd : decide ((i : Int) < ((keyM k).length : Int)) with
        | true =>
          have hd' : i < (keyM k).length := by have := of_decide_eq_true hd; omega
          have b1 : kpad (keyM k) 54 (i + 1) = (kpad (keyM k) 54 i).set i ((keyM k).getD i 0 ^^^ 54) := by rw [kpad, if_pos hd']
          have b2 : kpad (keyM k) 92 (i + 1) = (kpad (keyM k) 92 i).set i ((keyM k).getD i 0 ^^^ 92) := by rw [kpad, if_pos hd']
          simp only [hg, hd, w4, a1, a2, envSK, con0, conS, strsOf_arr, rowS_arr, strsOf_cells, rowS_cells, toS, strL_st, strL_d, strL_enc, strL_up, hpN_nil, hpN_cons, ho2, rsumC, retQx, go_sem, reduceCtorEq, ↓reduceIte, Nat.reduceAdd, Nat.reduceMul, Nat.reduceSub, Nat.reduceEqDiff, Nat.reduceLT, Nat.reduceBEq, Nat.reduceBNe, Nat.reduceLeDiff, Int.reduceLE, Int.reduceLT, Int.reduceToNat, Int.reduceEq, Int.reduceAdd, UInt8.reduceToNat, UInt32.reduceToNat, UInt64.reduceToNat, UInt8.reduceOfNat, UInt32.reduceOfNat, UInt64.reduceOfNat, Fin.isValue, Int.reduceSub, Int.reduceMul, Int.reduceNeg, Int.reduceMod, Int.reduceDiv, Int.reduceTDiv, Int.reduceTMod, Int.reduceBEq, Int.reduceBNe, Nat.reduceDiv, Nat.reducePow]
          repeat' apply And.intro
          all_goals first
            | omega
            | rfl
            | skip
          refine again (i + 1) [] (by omega) (by omega) ?_
          simp only [rmI, b1, b2, envSK, con0, conS, strsOf_arr, rowS_arr, strsOf_cells, rowS_cells, toS, strL_st, strL_d, strL_enc, strL_up, hpN_nil, hpN_cons, ho2, rsumC, go_sem, reduceCtorEq, ↓reduceIte, Nat.reduceAdd, Nat.reduceMul, Nat.reduceSub, Nat.reduceEqDiff, Nat.reduceLT, Nat.reduceBEq, Nat.reduceBNe, Nat.reduceLeDiff, Int.reduceLE, Int.reduceLT, Int.reduceToNat, Int.reduceEq, Int.reduceAdd, UInt8.reduceToNat, UInt32.reduceToNat, UInt64.reduceToNat, UInt8.reduceOfNat, UInt32.reduceOfNat, UInt64.reduceOfNat, Fin.isValue, Int.reduceSub, Int.reduceMul, Int.reduceNeg, Int.reduceMod, Int.reduceDiv, Int.reduceTDiv, Int.reduceTMod, Int.reduceBEq, Int.reduceBNe, Nat.reduceDiv, Nat.reducePow]
          all_goals first
            | trivial
            | trace_state
        | false =>
          have hd' : ¬ i < (keyM k).length := by have := of_decide_eq_false hd; omega
          have b1 : kpad (keyM k) 54 (i + 1) = (kpad (keyM k) 54 i).set i (0 ^^^ 54) := by rw [kpad, if_neg hd']
          have b2 : kpad (keyM k) 92 (i + 1) = (kpad (keyM k) 92 i).set i (0 ^^^ 92) := by rw [kpad, if_neg hd']
          simp only [hg, hd, w4, a1, a2, envSK, con0, conS, strsOf_arr, rowS_arr, strsOf_cells, rowS_cells, toS, strL_st, strL_d, strL_enc, strL_up, hpN_nil, hpN_cons, ho2, rsumC, retQx, go_sem, reduceCtorEq, ↓reduceIte, Nat.reduceAdd, Nat.reduceMul, Nat.reduceSub, Nat.reduceEqDiff, Nat.reduceLT, Nat.reduceBEq, Nat.reduceBNe, Nat.reduceLeDiff, Int.reduceLE, Int.reduceLT, Int.reduceToNat, Int.reduceEq, Int.reduceAdd, UInt8.reduceToNat, UInt32.reduceToNat, UInt64.reduceToNat, UInt8.reduceOfNat, UInt32.reduceOfNat, UInt64.reduceOfNat, Fin.isValue, Int.reduceSub, Int.reduceMul, Int.reduceNeg, Int.reduceMod, Int.reduceDiv, Int.reduceTDiv, Int.reduceTMod, Int.reduceBEq, Int.reduceBNe, Nat.reduceDiv, Nat.reducePow]
          repeat' apply And.intro
          all_goals first
            | omega
            | rfl
            | skip
          refine again (i + 1) [] (by omega) (by omega) ?_
          simp only [rmI, b1, b2, envSK, con0, conS, strsOf_arr, rowS_arr, strsOf_cells, rowS_cells, toS, strL_st, strL_d, strL_enc, strL_up, hpN_nil, hpN_cons, ho2, rsumC, go_sem, reduceCtorEq, ↓reduceIte, Nat.reduceAdd, Nat.reduceMul, Nat.reduceSub, Nat.reduceEqDiff, Nat.reduceLT, Nat.reduceBEq, Nat.reduceBNe, Nat.reduceLeDiff, Int.reduceLE, Int.reduceLT, Int.reduceToNat, Int.reduceEq, Int.reduceAdd, UInt8.reduceToNat, UInt32.reduceToNat, UInt64.reduceToNat, UInt8.reduceOfNat, UInt32.reduceOfNat, UInt64.reduceOfNat, Fin.isValue, Int.reduceSub, Int.reduceMul, Int.reduceNeg, Int.reduceMod, Int.reduceDiv, Int.reduceTDiv, Int.reduceTMod, Int.reduceBEq, Int.reduceBNe, Nat.reduceDiv, Nat.reducePow]
          all_goals first
            | trivial
            | rfl
            | trace_state
      · obtain rfl : i = 64 := by have := of_decide_eq_false hg; omega
        have t1 : (padM (keyM k) 54).take 64 = padM (keyM k) 54 := List.take_of_length_le (by omega)
        have t2 : (padM (keyM k) 92).take 64 = padM (keyM k) 92 := List.take_of_length_le (by omega)
        simp only [hg, p1, p2, t1, t2, l1, l2, e0, envSK, con0, conS, strsOf_arr, rowS_arr, strsOf_cells, rowS_cells, toS, strL_st, strL_d, strL_enc, strL_up, hpN_nil, hpN_cons, ho2, rsumC, retQx, go_sem, reduceCtorEq, ↓reduceIte, Nat.reduceAdd, Nat.reduceMul, Nat.reduceSub, Nat.reduceEqDiff, Nat.reduceLT, Nat.reduceBEq, Nat.reduceBNe, Nat.reduceLeDiff, Int.reduceLE, Int.reduceLT, Int.reduceToNat, Int.reduceEq, Int.reduceAdd, UInt8.reduceToNat, UInt32.reduceToNat, UInt64.reduceToNat, UInt8.reduceOfNat, UInt32.reduceOfNat, UInt64.reduceOfNat, Fin.isValue, Int.reduceSub, Int.reduceMul, Int.reduceNeg, Int.reduceMod, Int.reduceDiv, Int.reduceTDiv, Int.reduceTMod, Int.reduceBEq, Int.reduceBNe, Nat.reduceDiv, Nat.reducePow]
        repeat' apply And.intro
        all_goals first
          | omega
          | (simp only [List.length_append, l1, l2, sumL_len]; omega)
          | rfl
          | skip
        refine endX [] ?_
        simp only [e0, envSK, con0, conS, strsOf_arr, rowS_arr, strsOf_cells, rowS_cells, toS, strL_st, strL_d, strL_enc, strL_up, hpN_nil, hpN_cons, ho2, rsumC, retQx, go_sem, reduceCtorEq, ↓reduceIte, Nat.reduceAdd, Nat.reduceMul, Nat.reduceSub, Nat.reduceEqDiff, Nat.reduceLT, Nat.reduceBEq, Nat.reduceBNe, Nat.reduceLeDiff, Int.reduceLE, Int.reduceLT, Int.reduceToNat, Int.reduceEq, Int.reduceAdd, UInt8.reduceToNat, UInt32.reduceToNat, UInt64.reduceToNat, UInt8.reduceOfNat, UInt32.reduceOfNat, UInt64.reduceOfNat, Fin.isValue, Int.reduceSub, Int.reduceMul, Int.reduceNeg, Int.reduceMod, Int.reduceDiv, Int.reduceTDiv, Int.reduceTMod, Int.reduceBEq, Int.reduceBNe, Nat.reduceDiv, Nat.reducePow]
        all_goals first
          | trivial
          | trace_state
  | false =>
    have hkm : keyM k = k := by unfold keyM; rw [if_neg (by have := of_decide_eq_false hc; omega)]
    simp only [hc, List.length_replicate, envSK, con0, conS, strsOf_arr, rowS_arr, strsOf_cells, rowS_cells, toS, strL_st, strL_d, strL_enc, strL_up, hpN_nil, hpN_cons, ho2, rsumC, retQx, go_sem, reduceCtorEq, ↓reduceIte, Nat.reduceAdd, Nat.reduceMul, Nat.reduceSub, Nat.reduceEqDiff, Nat.reduceLT, Nat.reduceBEq, Nat.reduceBNe, Nat.reduceLeDiff, Int.reduceLE, Int.reduceLT, Int.reduceToNat, Int.reduceEq, Int.reduceAdd, UInt8.reduceToNat, UInt32.reduceToNat, UInt64.reduceToNat, UInt8.reduceOfNat, UInt32.reduceOfNat, UInt64.reduceOfNat, Fin.isValue, Int.reduceSub, Int.reduceMul, Int.reduceNeg, Int.reduceMod, Int.reduceDiv, Int.reduceTDiv, Int.reduceTMod, Int.reduceBEq, Int.reduceBNe, Nat.reduceDiv, Nat.reducePow]
    repeat' apply And.intro
    all_goals first
      | omega
      | (show ckDraw _; rfl)
      | skip
    refine loop_inv (envSK_ok ho2_ok 46 []) (rmI (keyM k) s) (fun i => i ≤ 64) (fun i => 64 - i) 0 [(500, 40000), (600, 40008)] (by omega) ?_ ?_
    · simp only [rmI, kpad, zer_flat, hkm, List.length_replicate, envSK, con0, conS, strsOf_arr, rowS_arr, strsOf_cells, rowS_cells, toS, strL_st, strL_d, strL_enc, strL_up, hpN_nil, hpN_cons, ho2, rsumC, go_sem, reduceCtorEq, ↓reduceIte, Nat.reduceAdd, Nat.reduceMul, Nat.reduceSub, Nat.reduceEqDiff, Nat.reduceLT, Nat.reduceBEq, Nat.reduceBNe, Nat.reduceLeDiff, Int.reduceLE, Int.reduceLT, Int.reduceToNat, Int.reduceEq, Int.reduceAdd, UInt8.reduceToNat, UInt32.reduceToNat, UInt64.reduceToNat, UInt8.reduceOfNat, UInt32.reduceOfNat, UInt64.reduceOfNat, Fin.isValue, Int.reduceSub, Int.reduceMul, Int.reduceNeg, Int.reduceMod, Int.reduceDiv, Int.reduceTDiv, Int.reduceTMod, Int.reduceBEq, Int.reduceBNe, Nat.reduceDiv, Nat.reducePow]
      all_goals first
        | trivial
        | trace_state
    · intro i hi
      have a1 := kpad_len (keyM k) 54 i
      have a2 := kpad_len (keyM k) 92 i
      simp only [rmI, envSK, con0, conS, strsOf_arr, rowS_arr, strsOf_cells, rowS_cells, toS, strL_st, strL_d, strL_enc, strL_up, hpN_nil, hpN_cons, ho2, rsumC, retQx, go_sem, reduceCtorEq, ↓reduceIte, Nat.reduceAdd, Nat.reduceMul, Nat.reduceSub, Nat.reduceEqDiff, Nat.reduceLT, Nat.reduceBEq, Nat.reduceBNe, Nat.reduceLeDiff, Int.reduceLE, Int.reduceLT, Int.reduceToNat, Int.reduceEq, Int.reduceAdd, UInt8.reduceToNat, UInt32.reduceToNat, UInt64.reduceToNat, UInt8.reduceOfNat, UInt32.reduceOfNat, UInt64.reduceOfNat, Fin.isValue, Int.reduceSub, Int.reduceMul, Int.reduceNeg, Int.reduceMod, Int.reduceDiv, Int.reduceTDiv, Int.reduceTMod, Int.reduceBEq, Int.reduceBNe, Nat.reduceDiv, Nat.reducePow]
      refine br (fun hg => ?_) fun hg => ?_
      · have hg' := of_decide_eq_true hg
        have w4 : IntKind.i64.wrap ((i : Int) + 1) = ((i + 1 : Nat) : Int) := by rw [IntKind.wrap_i64]; omega
        cases hd : decide ((i : Int) < ((keyM k).length : Int)) with
        | true =>
          have hd' : i < (keyM k).length := by have := of_decide_eq_true hd; omega
          have b1 : kpad (keyM k) 54 (i + 1) = (kpad (keyM k) 54 i).set i ((keyM k).getD i 0 ^^^ 54) := by rw [kpad, if_pos hd']
          have b2 : kpad (keyM k) 92 (i + 1) = (kpad (keyM k) 92 i).set i ((keyM k).getD i 0 ^^^ 92) := by rw [kpad, if_pos hd']
          simp only [hg, hd, w4, a1, a2, envSK, con0, conS, strsOf_arr, rowS_arr, strsOf_cells, rowS_cells, toS, strL_st, strL_d, strL_enc, strL_up, hpN_nil, hpN_cons, ho2, rsumC, retQx, go_sem, reduceCtorEq, ↓reduceIte, Nat.reduceAdd, Nat.reduceMul, Nat.reduceSub, Nat.reduceEqDiff, Nat.reduceLT, Nat.reduceBEq, Nat.reduceBNe, Nat.reduceLeDiff, Int.reduceLE, Int.reduceLT, Int.reduceToNat, Int.reduceEq, Int.reduceAdd, UInt8.reduceToNat, UInt32.reduceToNat, UInt64.reduceToNat, UInt8.reduceOfNat, UInt32.reduceOfNat, UInt64.reduceOfNat, Fin.isValue, Int.reduceSub, Int.reduceMul, Int.reduceNeg, Int.reduceMod, Int.reduceDiv, Int.reduceTDiv, Int.reduceTMod, Int.reduceBEq, Int.reduceBNe, Nat.reduceDiv, Nat.reducePow]
          repeat' apply And.intro
          all_goals first
            | omega
            | rfl
            | skip
          refine again (i + 1) [] (by omega) (by omega) ?_
          simp only [rmI, b1, b2, envSK, con0, conS, strsOf_arr, rowS_arr, strsOf_cells, rowS_cells, toS, strL_st, strL_d, strL_enc, strL_up, hpN_nil, hpN_cons, ho2, rsumC, go_sem, reduceCtorEq, ↓reduceIte, Nat.reduceAdd, Nat.reduceMul, Nat.reduceSub, Nat.reduceEqDiff, Nat.reduceLT, Nat.reduceBEq, Nat.reduceBNe, Nat.reduceLeDiff, Int.reduceLE, Int.reduceLT, Int.reduceToNat, Int.reduceEq, Int.reduceAdd, UInt8.reduceToNat, UInt32.reduceToNat, UInt64.reduceToNat, UInt8.reduceOfNat, UInt32.reduceOfNat, UInt64.reduceOfNat, Fin.isValue, Int.reduceSub, Int.reduceMul, Int.reduceNeg, Int.reduceMod, Int.reduceDiv, Int.reduceTDiv, Int.reduceTMod, Int.reduceBEq, Int.reduceBNe, Nat.reduceDiv, Nat.reducePow]
          all_goals first
            | trivial
            | trace_state
        | false =>
          have hd' : ¬ i < (keyM k).length := by have := of_decide_eq_false hd; omega
          have b1 : kpad (keyM k) 54 (i + 1) = (kpad (keyM k) 54 i).set i (0 ^^^ 54) := by rw [kpad, if_neg hd']
          have b2 : kpad (keyM k) 92 (i + 1) = (kpad (keyM k) 92 i).set i (0 ^^^ 92) := by rw [kpad, if_neg hd']
          simp only [hg, hd, w4, a1, a2, envSK, con0, conS, strsOf_arr, rowS_arr, strsOf_cells, rowS_cells, toS, strL_st, strL_d, strL_enc, strL_up, hpN_nil, hpN_cons, ho2, rsumC, retQx, go_sem, reduceCtorEq, ↓reduceIte, Nat.reduceAdd, Nat.reduceMul, Nat.reduceSub, Nat.reduceEqDiff, Nat.reduceLT, Nat.reduceBEq, Nat.reduceBNe, Nat.reduceLeDiff, Int.reduceLE, Int.reduceLT, Int.reduceToNat, Int.reduceEq, Int.reduceAdd, UInt8.reduceToNat, UInt32.reduceToNat, UInt64.reduceToNat, UInt8.reduceOfNat, UInt32.reduceOfNat, UInt64.reduceOfNat, Fin.isValue, Int.reduceSub, Int.reduceMul, Int.reduceNeg, Int.reduceMod, Int.reduceDiv, Int.reduceTDiv, Int.reduceTMod, Int.reduceBEq, Int.reduceBNe, Nat.reduceDiv, Nat.reducePow]
          repeat' apply And.intro
          all_goals first
            | omega
            | rfl
            | skip
          refine again (i + 1) [] (by omega) (by omega) ?_
          simp only [rmI, b1, b2, envSK, con0, conS, strsOf_arr, rowS_arr, strsOf_cells, rowS_cells, toS, strL_st, strL_d, strL_enc, strL_up, hpN_nil, hpN_cons, ho2, rsumC, go_sem, reduceCtorEq, ↓reduceIte, Nat.reduceAdd, Nat.reduceMul, Nat.reduceSub, Nat.reduceEqDiff, Nat.reduceLT, Nat.reduceBEq, Nat.reduceBNe, Nat.reduceLeDiff, Int.reduceLE, Int.reduceLT, Int.reduceToNat, Int.reduceEq, Int.reduceAdd, UInt8.reduceToNat, UInt32.reduceToNat, UInt64.reduceToNat, UInt8.reduceOfNat, UInt32.reduceOfNat, UInt64.reduceOfNat, Fin.isValue, Int.reduceSub, Int.reduceMul, Int.reduceNeg, Int.reduceMod, Int.reduceDiv, Int.reduceTDiv, Int.reduceTMod, Int.reduceBEq, Int.reduceBNe, Nat.reduceDiv, Nat.reducePow]
          all_goals first
            | trivial
            | rfl
            | trace_state
      · obtain rfl : i = 64 := by have := of_decide_eq_false hg; omega
        have t1 : (padM (keyM k) 54).take 64 = padM (keyM k) 54 := List.take_of_length_le (by omega)
        have t2 : (padM (keyM k) 92).take 64 = padM (keyM k) 92 := List.take_of_length_le (by omega)
        simp only [hg, p1, p2, t1, t2, l1, l2, e0, envSK, con0, conS, strsOf_arr, rowS_arr, strsOf_cells, rowS_cells, toS, strL_st, strL_d, strL_enc, strL_up, hpN_nil, hpN_cons, ho2, rsumC, retQx, go_sem, reduceCtorEq, ↓reduceIte, Nat.reduceAdd, Nat.reduceMul, Nat.reduceSub, Nat.reduceEqDiff, Nat.reduceLT, Nat.reduceBEq, Nat.reduceBNe, Nat.reduceLeDiff, Int.reduceLE, Int.reduceLT, Int.reduceToNat, Int.reduceEq, Int.reduceAdd, UInt8.reduceToNat, UInt32.reduceToNat, UInt64.reduceToNat, UInt8.reduceOfNat, UInt32.reduceOfNat, UInt64.reduceOfNat, Fin.isValue, Int.reduceSub, Int.reduceMul, Int.reduceNeg, Int.reduceMod, Int.reduceDiv, Int.reduceTDiv, Int.reduceTMod, Int.reduceBEq, Int.reduceBNe, Nat.reduceDiv, Nat.reducePow]
        repeat' apply And.intro
        all_goals first
          | omega
          | (simp only [List.length_append, l1, l2, sumL_len]; omega)
          | rfl
          | skip
        refine endX [] ?_
        simp only [e0, envSK, con0, conS, strsOf_arr, rowS_arr, strsOf_cells, rowS_cells, toS, strL_st, strL_d, strL_enc, strL_up, hpN_nil, hpN_cons, ho2, rsumC, retQx, go_sem, reduceCtorEq, ↓reduceIte, Nat.reduceAdd, Nat.reduceMul, Nat.reduceSub, Nat.reduceEqDiff, Nat.reduceLT, Nat.reduceBEq, Nat.reduceBNe, Nat.reduceLeDiff, Int.reduceLE, Int.reduceLT, Int.reduceToNat, Int.reduceEq, Int.reduceAdd, UInt8.reduceToNat, UInt32.reduceToNat, UInt64.reduceToNat, UInt8.reduceOfNat, UInt32.reduceOfNat, UInt64.reduceOfNat, Fin.isValue, Int.reduceSub, Int.reduceMul, Int.reduceNeg, Int.reduceMod, Int.reduceDiv, Int.reduceTDiv, Int.reduceTMod, Int.reduceBEq, Int.reduceBNe, Nat.reduceDiv, Nat.reducePow]
        all_goals first
          | trivial
          | trace_state
def rmacC : Con := con0 fun args => match args with
  | [.one (.str k), .one (.str s)] => some (.c (.one (.str (sumM k s))), [k.length ≤ 10000, s.length ≤ 10000])
  | _ => none
theorem rmacC_ok : ConOkG Tryd.prog GS 16 rmacC := con0_okG Tryd.func16 rfl rfl fun args res ob h hob => by
  split at h
  · injection h with h; injection h with h1 h2; subst h1; subst h2; exact rmac_tri _ _ hob.1 hob.2.1
  · cases h
end Go.Proofs.YtdkogjjebbdngaaDoor
