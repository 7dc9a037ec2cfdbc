/-
  Layer 19: the laws of texts in texts, of heads, of ends of lines.
-/
import Derived.Test.YtgfcdkbbkgamnaaDoorSz
import Derived.Test.YtgfcdkbbkgamnaaDoorQc
import Derived.Test.YtgfcdkbbkgamnaaDoorQr
import Derived.Test.YtgfcdkbbkgamnaaDoorQg
namespace Go.Proofs.YtgfcdkbbkgamnaaDoor
open Go Go.RowKit
set_option maxHeartbeats 4000000
set_option linter.unusedSimpArgs false
set_option linter.unusedVariables false
theorem upL_app (s t : List UInt8) : upL (s ++ t) = upL s ++ upL t := List.map_append
def qe0 : Nat → Option Con := fun f => match f with
  | 41 => some hasC
  | 42 => some refHasC
  | 36 => some awake19C
  | _ => none
theorem qe0_ok : GaOkG Tryd.prog GM qe0 := fun f con h => by
  unfold qe0 at h
  split at h
  · injection h with h; subst h; exact hasC_ok
  · injection h with h; subst h; exact refHasC_ok
  · injection h with h; subst h; exact awake19C_ok
  · cases h
set_option maxRecDepth 100000 in
theorem lawHas_tri (s t : List UInt8) : TriG Tryd.prog GM 13 [.one (.str s), .one (.str t)] [] (.c (.one (.bo true))) [] := by
  refine tri_of (envM_ok qe0_ok 31) Tryd.func13 rfl rfl (rs := [.tmp 4]) rfl rfl (by simp [envM]) rfl [] ?_
  cases hs : decide ((512 : Int) < s.length) with
  | true => simp only [envM, qe0, hasC, refHasC, awake19C, hs, go_sem, reduceCtorEq, ↓reduceIte, Nat.reduceAdd, Nat.reduceMul, Nat.reduceSub, Nat.reduceEqDiff, Nat.reduceLT, Nat.reduceBEq, Nat.reduceBNe, Nat.reduceLeDiff, Int.reduceLE, Int.reduceLT, Int.reduceToNat, Int.reduceEq, Int.reduceAdd, UInt8.reduceToNat, UInt32.reduceToNat, UInt64.reduceToNat, UInt8.reduceOfNat, UInt32.reduceOfNat, UInt64.reduceOfNat, Fin.isValue, Int.reduceSub, Int.reduceMul, Int.reduceNeg, Int.reduceMod, Int.reduceDiv, Int.reduceTDiv, Int.reduceTMod, Int.reduceBEq, Int.reduceBNe, Nat.reduceDiv, Nat.reducePow]
  | false =>
    cases ht : decide ((512 : Int) < t.length) with
    | true => simp only [envM, qe0, hasC, refHasC, awake19C, hs, ht, go_sem, reduceCtorEq, ↓reduceIte, Nat.reduceAdd, Nat.reduceMul, Nat.reduceSub, Nat.reduceEqDiff, Nat.reduceLT, Nat.reduceBEq, Nat.reduceBNe, Nat.reduceLeDiff, Int.reduceLE, Int.reduceLT, Int.reduceToNat, Int.reduceEq, Int.reduceAdd, UInt8.reduceToNat, UInt32.reduceToNat, UInt64.reduceToNat, UInt8.reduceOfNat, UInt32.reduceOfNat, UInt64.reduceOfNat, Fin.isValue, Int.reduceSub, Int.reduceMul, Int.reduceNeg, Int.reduceMod, Int.reduceDiv, Int.reduceTDiv, Int.reduceTMod, Int.reduceBEq, Int.reduceBNe, Nat.reduceDiv, Nat.reducePow]
    | false =>
      have hls : s.length ≤ 512 := by have := of_decide_eq_false hs; omega
      have hlt : t.length ≤ 512 := by have := of_decide_eq_false ht; omega
      have e1 := has_same s t
      have e2 : Lib.contains (upL (s ++ t)) (upL t) = true := by
        have := has_app (upL s) (upL t) []
        rw [List.append_nil] at this
        rw [upL_app]; exact this
      have hst : (s ++ t).length ≤ 1048576 := by rw [List.length_append]; omega
      cases e3 : Lib.contains (smL s) (smL t) <;> rw [e3] at e1
      · simp only [envM, qe0, hasC, refHasC, awake19C, hs, ht, e1, e2, e3, go_sem, reduceCtorEq, ↓reduceIte, Nat.reduceAdd, Nat.reduceMul, Nat.reduceSub, Nat.reduceEqDiff, Nat.reduceLT, Nat.reduceBEq, Nat.reduceBNe, Nat.reduceLeDiff, Int.reduceLE, Int.reduceLT, Int.reduceToNat, Int.reduceEq, Int.reduceAdd, UInt8.reduceToNat, UInt32.reduceToNat, UInt64.reduceToNat, UInt8.reduceOfNat, UInt32.reduceOfNat, UInt64.reduceOfNat, Fin.isValue, Int.reduceSub, Int.reduceMul, Int.reduceNeg, Int.reduceMod, Int.reduceDiv, Int.reduceTDiv, Int.reduceTMod, Int.reduceBEq, Int.reduceBNe, Nat.reduceDiv, Nat.reducePow]
        ((repeat' apply And.intro) <;> first | omega | exact rfl | exact id)
      · simp only [envM, qe0, hasC, refHasC, awake19C, hs, ht, e1, e2, e3, go_sem, reduceCtorEq, ↓reduceIte, Nat.reduceAdd, Nat.reduceMul, Nat.reduceSub, Nat.reduceEqDiff, Nat.reduceLT, Nat.reduceBEq, Nat.reduceBNe, Nat.reduceLeDiff, Int.reduceLE, Int.reduceLT, Int.reduceToNat, Int.reduceEq, Int.reduceAdd, UInt8.reduceToNat, UInt32.reduceToNat, UInt64.reduceToNat, UInt8.reduceOfNat, UInt32.reduceOfNat, UInt64.reduceOfNat, Fin.isValue, Int.reduceSub, Int.reduceMul, Int.reduceNeg, Int.reduceMod, Int.reduceDiv, Int.reduceTDiv, Int.reduceTMod, Int.reduceBEq, Int.reduceBNe, Nat.reduceDiv, Nat.reducePow]
        ((repeat' apply And.intro) <;> first | omega | exact rfl | exact id)
theorem partHas_law (a : ByteArray) (wa : a.size ≤ maxLen) (b : ByteArray) (wb : b.size ≤ maxLen) (w : World) (hg : ∀ f ∈ GM, f.p w) :
    Calls Tryd.prog 13 #[.string a, .string b] w fun e w' => e = .returned (.bool true) ∧ Below w.heap.size w w' := by
  refine (tri_callsG (lawHas_tri a.data.toList b.data.toList) w (vals := [.string a, .string b]) ⟨rfl, rfl, trivial⟩ hg).mono ?_
  rintro e w' ⟨u, r', rfl, hr, hb⟩
  exact ⟨by rw [show u = .bool true from hr], hb⟩
def qe1 : Nat → Option Con := fun f => match f with
  | 37 => some splitC
  | 38 => some refSplitC
  | 39 => some linesC
  | 40 => some rRowsC
  | 36 => some awake19C
  | _ => none
theorem qe1_ok : GaOkG Tryd.prog GM qe1 := fun f con h => by
  unfold qe1 at h
  split at h
  · injection h with h; subst h; exact splitC_ok
  · injection h with h; subst h; exact refSplitC_ok
  · injection h with h; subst h; exact linesC_ok
  · injection h with h; subst h; exact rRowsC_ok
  · injection h with h; subst h; exact awake19C_ok
  · cases h
set_option maxRecDepth 100000 in
theorem lawSplits_tri (s : List UInt8) : TriG Tryd.prog GM 12 [.one (.str s)] [] (.c (.one (.bo true))) [] := by
  refine tri_of (envM_ok qe1_ok 41) Tryd.func12 rfl rfl (rs := [.tmp 2]) rfl rfl (by simp [envM]) rfl [] ?_
  cases hs : decide ((2048 : Int) < s.length) with
  | true => simp only [envMK, con0, conS, strsOf_arr, rowS_arr, strsOf_cells, rowS_cells, toS, strL_st, strL_d, strL_enc, strL_up, hpN_nil, hpN_cons, qe1, splitC, refSplitC, linesC, rRowsC, awake19C, envM, hs, go_sem, reduceCtorEq, ↓reduceIte, Nat.reduceAdd, Nat.reduceMul, Nat.reduceSub, Nat.reduceEqDiff, Nat.reduceLT, Nat.reduceBEq, Nat.reduceBNe, Nat.reduceLeDiff, Int.reduceLE, Int.reduceLT, Int.reduceToNat, Int.reduceEq, Int.reduceAdd, UInt8.reduceToNat, UInt32.reduceToNat, UInt64.reduceToNat, UInt8.reduceOfNat, UInt32.reduceOfNat, UInt64.reduceOfNat, Fin.isValue, Int.reduceSub, Int.reduceMul, Int.reduceNeg, Int.reduceMod, Int.reduceDiv, Int.reduceTDiv, Int.reduceTMod, Int.reduceBEq, Int.reduceBNe, Nat.reduceDiv, Nat.reducePow]
  | false =>
    have hls : s.length ≤ 2048 := by have := of_decide_eq_false hs; omega
    have hle := headN_le s
    have hR := rowsL_len s
    have hc := crs_le s
    have hw : IntKind.i64.wrap (((crs s + 1 : Nat) : Int) - 1) = (crs s : Int) := by rw [IntKind.wrap_i64]; omega
    have ht : (s.take (headN s)).length = headN s := by rw [List.length_take]; omega
    simp only [envMK, con0, conS, strsOf_arr, rowS_arr, strsOf_cells, rowS_cells, toS, strL_st, strL_d, strL_enc, strL_up, hpN_nil, hpN_cons, qe1, splitC, refSplitC, linesC, rRowsC, awake19C, envM, rRowsF, hs, hR, hw, go_sem, reduceCtorEq, ↓reduceIte, Nat.reduceAdd, Nat.reduceMul, Nat.reduceSub, Nat.reduceEqDiff, Nat.reduceLT, Nat.reduceBEq, Nat.reduceBNe, Nat.reduceLeDiff, Int.reduceLE, Int.reduceLT, Int.reduceToNat, Int.reduceEq, Int.reduceAdd, UInt8.reduceToNat, UInt32.reduceToNat, UInt64.reduceToNat, UInt8.reduceOfNat, UInt32.reduceOfNat, UInt64.reduceOfNat, Fin.isValue, Int.reduceSub, Int.reduceMul, Int.reduceNeg, Int.reduceMod, Int.reduceDiv, Int.reduceTDiv, Int.reduceTMod, Int.reduceBEq, Int.reduceBNe, Nat.reduceDiv, Nat.reducePow]
    ((repeat' apply And.intro) <;> first | omega | exact rfl | exact id)
theorem partSplits_law (a : ByteArray) (wa : a.size ≤ maxLen) (w : World) (hg : ∀ f ∈ GM, f.p w) :
    Calls Tryd.prog 12 #[.string a] w fun e w' => e = .returned (.bool true) ∧ Below w.heap.size w w' := by
  refine (tri_callsG (lawSplits_tri a.data.toList) w (vals := [.string a]) ⟨rfl, trivial⟩ hg).mono ?_
  rintro e w' ⟨u, r', rfl, hr, hb⟩
  exact ⟨by rw [show u = .bool true from hr], hb⟩
theorem u8_of_wf {x : Int} (h : (Lit.int .u8 x).wf = true) : ∃ a : UInt8, x = (a.toNat : Int) := by
  have h' : 0 ≤ x ∧ x ≤ 255 := by simpa [Lit.wf, IntKind.min, IntKind.max, IntKind.signed, IntKind.bits] using h
  exact ⟨UInt8.ofNat x.toNat, by rw [UInt8.toNat_ofNat_of_lt' (by show x.toNat < 256; omega)]; omega⟩
/-- More ends of lines. -/
def xs : Nat → List UInt8
  | 0 => []
  | k + 1 => xs k ++ [120, 13, 10]
theorem xs_len : ∀ k, (xs k).length = 3 * k
  | 0 => rfl
  | k + 1 => by rw [xs, List.length_append, xs_len k]; simp; omega
theorem crs_xs (a : List UInt8) : ∀ k, crs (a ++ xs k) = crs a + k
  | 0 => by simp [xs]
  | k + 1 => by
    rw [xs, ← List.append_assoc, crs_app _ _ (by simp), crs_xs a k]
    rfl
def linInv (a b : List UInt8) (n m : UInt8) (i : Nat) : St := ⟨[(0, .c (.one (.str a))), (1, .c (.one (.str b))), (2, .c (.one (.u8 n))), (7, .c (.one (.str (a ++ xs i)))), (19, .c (.one (.u8 m))), (20, .c (.one (.u8 (UInt8.ofNat i))))], []⟩
def qe2 : Nat → Option Con := fun f => match f with
  | 41 => some hasC
  | 39 => some linesC
  | 44 => some smallC
  | 36 => some awake19C
  | _ => none
theorem qe2_ok : GaOkG Tryd.prog GM qe2 := fun f con h => by
  unfold qe2 at h
  split at h
  · injection h with h; subst h; exact hasC_ok
  · injection h with h; subst h; exact linesC_ok
  · injection h with h; subst h; exact smallC_ok
  · injection h with h; subst h; exact awake19C_ok
  · cases h
set_option maxRecDepth 100000 in
theorem lawLines_tri (a b : List UInt8) (n : UInt8) : TriG Tryd.prog GM 16 [.one (.str a), .one (.str b), .one (.u8 n)] [] (.c (.one (.bo true))) [] := by
  refine tri_of (envM_ok qe2_ok 54) Tryd.func16 rfl rfl (rs := [.tmp 6]) rfl rfl (by simp [envM]) rfl [] ?_
  cases hs : decide ((512 : Int) < a.length) with
  | true => simp only [envM, qe2, hasC, linesC, smallC, awake19C, hs, go_sem, reduceCtorEq, ↓reduceIte, Nat.reduceAdd, Nat.reduceMul, Nat.reduceSub, Nat.reduceEqDiff, Nat.reduceLT, Nat.reduceBEq, Nat.reduceBNe, Nat.reduceLeDiff, Int.reduceLE, Int.reduceLT, Int.reduceToNat, Int.reduceEq, Int.reduceAdd, UInt8.reduceToNat, UInt32.reduceToNat, UInt64.reduceToNat, UInt8.reduceOfNat, UInt32.reduceOfNat, UInt64.reduceOfNat, Fin.isValue, Int.reduceSub, Int.reduceMul, Int.reduceNeg, Int.reduceMod, Int.reduceDiv, Int.reduceTDiv, Int.reduceTMod, Int.reduceBEq, Int.reduceBNe, Nat.reduceDiv, Nat.reducePow]
  | false =>
    cases ht : decide ((512 : Int) < b.length) with
    | true => simp only [envM, qe2, hasC, linesC, smallC, awake19C, hs, ht, go_sem, reduceCtorEq, ↓reduceIte, Nat.reduceAdd, Nat.reduceMul, Nat.reduceSub, Nat.reduceEqDiff, Nat.reduceLT, Nat.reduceBEq, Nat.reduceBNe, Nat.reduceLeDiff, Int.reduceLE, Int.reduceLT, Int.reduceToNat, Int.reduceEq, Int.reduceAdd, UInt8.reduceToNat, UInt32.reduceToNat, UInt64.reduceToNat, UInt8.reduceOfNat, UInt32.reduceOfNat, UInt64.reduceOfNat, Fin.isValue, Int.reduceSub, Int.reduceMul, Int.reduceNeg, Int.reduceMod, Int.reduceDiv, Int.reduceTDiv, Int.reduceTMod, Int.reduceBEq, Int.reduceBNe, Nat.reduceDiv, Nat.reducePow]
    | false =>
      have hla : a.length ≤ 512 := by have := of_decide_eq_false hs; omega
      have hlb : b.length ≤ 512 := by have := of_decide_eq_false ht; omega
      have hca := crs_le a
      have hm8 : (n % 8).toNat < 8 := by rw [UInt8.toNat_mod]; exact Nat.mod_lt _ (by decide)
      generalize hm : n % 8 = m at hm8
      simp only [envM, qe2, hasC, linesC, smallC, awake19C, hs, ht, hm, go_sem, reduceCtorEq, ↓reduceIte, Nat.reduceAdd, Nat.reduceMul, Nat.reduceSub, Nat.reduceEqDiff, Nat.reduceLT, Nat.reduceBEq, Nat.reduceBNe, Nat.reduceLeDiff, Int.reduceLE, Int.reduceLT, Int.reduceToNat, Int.reduceEq, Int.reduceAdd, UInt8.reduceToNat, UInt32.reduceToNat, UInt64.reduceToNat, UInt8.reduceOfNat, UInt32.reduceOfNat, UInt64.reduceOfNat, Fin.isValue, Int.reduceSub, Int.reduceMul, Int.reduceNeg, Int.reduceMod, Int.reduceDiv, Int.reduceTDiv, Int.reduceTMod, Int.reduceBEq, Int.reduceBNe, Nat.reduceDiv, Nat.reducePow]
      refine ⟨by decide, loop_inv (envM_ok qe2_ok 54) (linInv a b n m) (fun i => i ≤ m.toNat) (fun i => m.toNat - i) 0 [] (Nat.zero_le _) ?_ ?_⟩
      · simp only [linInv, xs, List.append_nil, go_sem, reduceCtorEq, ↓reduceIte, Nat.reduceAdd, Nat.reduceMul, Nat.reduceSub, Nat.reduceEqDiff, Nat.reduceLT, Nat.reduceBEq, Nat.reduceBNe, Nat.reduceLeDiff, Int.reduceLE, Int.reduceLT, Int.reduceToNat, Int.reduceEq, Int.reduceAdd, UInt8.reduceToNat, UInt32.reduceToNat, UInt64.reduceToNat, UInt8.reduceOfNat, UInt32.reduceOfNat, UInt64.reduceOfNat, Fin.isValue, Int.reduceSub, Int.reduceMul, Int.reduceNeg, Int.reduceMod, Int.reduceDiv, Int.reduceTDiv, Int.reduceTMod, Int.reduceBEq, Int.reduceBNe, Nat.reduceDiv, Nat.reducePow]
        try rfl
      · intro i hi
        have hxl : (a ++ xs i).length = a.length + 3 * i := by rw [List.length_append, xs_len]
        have hlt : (UInt8.ofNat i < m) ↔ i < m.toNat := by
          rw [UInt8.lt_iff_toNat_lt, UInt8.toNat_ofNat', Nat.mod_eq_of_lt (by omega)]
        have hnx : UInt8.ofNat i + 1 = UInt8.ofNat (i + 1) := by
          rw [UInt8.ofNat_add]; rfl
        have hcr := crs_xs a i
        simp only [envM, qe2, hasC, linesC, smallC, awake19C, linInv, hxl, hnx, go_sem, reduceCtorEq, ↓reduceIte, Nat.reduceAdd, Nat.reduceMul, Nat.reduceSub, Nat.reduceEqDiff, Nat.reduceLT, Nat.reduceBEq, Nat.reduceBNe, Nat.reduceLeDiff, Int.reduceLE, Int.reduceLT, Int.reduceToNat, Int.reduceEq, Int.reduceAdd, UInt8.reduceToNat, UInt32.reduceToNat, UInt64.reduceToNat, UInt8.reduceOfNat, UInt32.reduceOfNat, UInt64.reduceOfNat, Fin.isValue, Int.reduceSub, Int.reduceMul, Int.reduceNeg, Int.reduceMod, Int.reduceDiv, Int.reduceTDiv, Int.reduceTMod, Int.reduceBEq, Int.reduceBNe, Nat.reduceDiv, Nat.reducePow]
        refine br (fun h => ?_) fun h => ?_
        · have hi' : i < m.toNat := hlt.1 (of_decide_eq_true h)
          simp only [envM, qe2, hasC, linesC, smallC, awake19C, h, hxl, hnx, go_sem, reduceCtorEq, ↓reduceIte, Nat.reduceAdd, Nat.reduceMul, Nat.reduceSub, Nat.reduceEqDiff, Nat.reduceLT, Nat.reduceBEq, Nat.reduceBNe, Nat.reduceLeDiff, Int.reduceLE, Int.reduceLT, Int.reduceToNat, Int.reduceEq, Int.reduceAdd, UInt8.reduceToNat, UInt32.reduceToNat, UInt64.reduceToNat, UInt8.reduceOfNat, UInt32.reduceOfNat, UInt64.reduceOfNat, Fin.isValue, Int.reduceSub, Int.reduceMul, Int.reduceNeg, Int.reduceMod, Int.reduceDiv, Int.reduceTDiv, Int.reduceTMod, Int.reduceBEq, Int.reduceBNe, Nat.reduceDiv, Nat.reducePow]
          repeat' apply And.intro
          rotate_right
          · refine again (i + 1) [] hi' (by show m.toNat - (i + 1) < m.toNat - i; omega) ?_
            simp only [linInv, xs, List.append_assoc, envM, qe2, hasC, linesC, smallC, awake19C, go_sem, reduceCtorEq, ↓reduceIte, Nat.reduceAdd, Nat.reduceMul, Nat.reduceSub, Nat.reduceEqDiff, Nat.reduceLT, Nat.reduceBEq, Nat.reduceBNe, Nat.reduceLeDiff, Int.reduceLE, Int.reduceLT, Int.reduceToNat, Int.reduceEq, Int.reduceAdd, UInt8.reduceToNat, UInt32.reduceToNat, UInt64.reduceToNat, UInt8.reduceOfNat, UInt32.reduceOfNat, UInt64.reduceOfNat, Fin.isValue, Int.reduceSub, Int.reduceMul, Int.reduceNeg, Int.reduceMod, Int.reduceDiv, Int.reduceTDiv, Int.reduceTMod, Int.reduceBEq, Int.reduceBNe, Nat.reduceDiv, Nat.reducePow]
          all_goals first | omega | exact rfl | exact id
        · have hi' : i = m.toNat := by
            rcases Nat.lt_or_ge i m.toNat with h' | h'
            · exact (of_decide_eq_false h (hlt.2 h')).elim
            · omega
          have hw : IntKind.i64.wrap ((crs a : Int) + (m.toNat : Int)) = ((crs a + i : Nat) : Int) := by rw [IntKind.wrap_i64]; omega
          have e1 : Lib.contains (upL (a ++ b ++ a)) (upL b) = true := by rw [upL_app, upL_app]; exact has_app _ _ _
          have e2 : Lib.contains (upL (smL (a ++ b))) (upL b) = true := by
            have := has_app (upL a) (upL b) []
            rw [List.append_nil] at this
            rw [upL_sm, upL_app]; exact this
          have l1 : (a ++ b).length ≤ 1048576 := by rw [List.length_append]; omega
          have l2 : (a ++ b ++ a).length ≤ 1048576 := by rw [List.length_append, List.length_append]; omega
          have l3 := smL_len (a ++ b)
          simp only [envM, qe2, hasC, linesC, smallC, awake19C, h, hxl, hcr, hw, e1, e2, hm, go_sem, reduceCtorEq, ↓reduceIte, Nat.reduceAdd, Nat.reduceMul, Nat.reduceSub, Nat.reduceEqDiff, Nat.reduceLT, Nat.reduceBEq, Nat.reduceBNe, Nat.reduceLeDiff, Int.reduceLE, Int.reduceLT, Int.reduceToNat, Int.reduceEq, Int.reduceAdd, UInt8.reduceToNat, UInt32.reduceToNat, UInt64.reduceToNat, UInt8.reduceOfNat, UInt32.reduceOfNat, UInt64.reduceOfNat, Fin.isValue, Int.reduceSub, Int.reduceMul, Int.reduceNeg, Int.reduceMod, Int.reduceDiv, Int.reduceTDiv, Int.reduceTMod, Int.reduceBEq, Int.reduceBNe, Nat.reduceDiv, Nat.reducePow]
          ((repeat' apply And.intro) <;> first | omega | decide)
theorem partLines_law (a : ByteArray) (wa : a.size ≤ maxLen) (b : ByteArray) (wb : b.size ≤ maxLen) (x : Int) (wx : (Lit.int .u8 x).wf = true) (w : World) (hg : ∀ f ∈ GM, f.p w) :
    Calls Tryd.prog 16 #[.string a, .string b, .int .u8 x] w fun e w' => e = .returned (.bool true) ∧ Below w.heap.size w w' := by
  obtain ⟨n, rfl⟩ := u8_of_wf wx
  refine (tri_callsG (lawLines_tri a.data.toList b.data.toList n) w (vals := [.string a, .string b, .int .u8 (n.toNat : Int)]) ⟨rfl, rfl, rfl, trivial⟩ hg).mono ?_
  rintro e w' ⟨u, r', rfl, hr, hb⟩
  exact ⟨by rw [show u = .bool true from hr], hb⟩
end Go.Proofs.YtgfcdkbbkgamnaaDoor
