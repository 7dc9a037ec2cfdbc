/-
  Layer 14: any text is the set that the document says, or none.
-/
import Derived.Test.YtgfcdkbbkgamnaaDoorSz
import Derived.Test.YtgfcdkbbkgamnaaDoorTj
import Derived.Test.YtgfcdkbbkgamnaaDoorTi
namespace Go.Proofs.YtgfcdkbbkgamnaaDoor
open Go Go.RowKit
set_option maxHeartbeats 4000000
set_option linter.unusedSimpArgs false
set_option linter.unusedVariables false
theorem count_le (c : UInt8) : ∀ (f : Nat) (s : List UInt8), Lib.countFrom [c] f s ≤ s.length
  | 0, s => Nat.zero_le _
  | f + 1, s => by
    obtain ⟨p, r, rfl, hp, hr⟩ := first_of c s
    rcases hr with rfl | ⟨t, rfl⟩
    · rw [List.append_nil, Lib.countFrom, idx_miss hp]; exact Nat.zero_le _
    · rw [Lib.countFrom, idx_hit hp]
      have : ((p.length : Int) == -1) = false := beq_eq_false_iff_ne.2 (by omega)
      rw [this, if_neg (by decide)]
      have hd : (p ++ c :: t).drop ((p.length : Int).toNat + ([c] : List UInt8).length) = t := by simp
      rw [hd]
      have := count_le c f t
      simp only [List.length_append, List.length_cons]
      omega
theorem split_le (c : UInt8) (s : List UInt8) : (Lib.split s [c]).length ≤ s.length + 1 := by
  have h1 := split_len (Lib.count s [c]) s [c]
  have h2 : Lib.count s [c] ≤ s.length := count_le c _ s
  unfold Lib.split
  omega
theorem split_ne (k : Nat) (s p : List UInt8) : Lib.splitK p 0 k s ≠ [] := by
  cases k with
  | zero => simp [Lib.splitK]
  | succ k => rw [Lib.splitK]; split <;> simp
theorem prsF_len : ∀ (R : List (List UInt8)) (L : List Rng), prsF R = some L → L.length = R.length
  | [], L, h => by simp only [prsF, Option.some.injEq] at h; subst h; rfl
  | p :: ps, L, h => by
    rw [prsF] at h
    split at h
    · cases hq : prsF ps with
      | none => rw [hq] at h; cases h
      | some l =>
        rw [hq] at h
        simp only [Option.map_some, Option.some.injEq] at h
        subst h
        simp [prsF_len ps l hq]
    · cases h
theorem prsL_len {s : List UInt8} {L : List Rng} (h : prsL s = some L) : 0 < L.length ∧ L.length ≤ s.length + 1 := by
  have h1 := prsF_len _ _ h
  have h2 := split_ne (Lib.count s [44]) s [44]
  have h3 := split_le 44 s
  refine ⟨?_, by omega⟩
  rw [h1]
  unfold Lib.split
  exact List.length_pos_iff.2 h2
def spInv (L : List Rng) (i : Nat) : St := ⟨[(5, .c (.one (.sl 500 0 2 L.length))), (7, .c (.one (.sl 501 0 2 L.length))), (47, .c (.one (.num L.length))), (48, .c (.one (.num i)))], [(500, ⟨.arr _ rngL L, true⟩), (501, ⟨.arr _ rngL L, true⟩)]⟩
def spOk (L : List Rng) (i : Nat) : Prop := i ≤ L.length
theorem spOk_of {L : List Rng} {i : Nat} (h : i ≤ L.length) : spOk L i := h
def qtb : Nat → Option Con := fun f => match f with
  | 21 => some parseC
  | 22 => some refPC
  | 23 => some refsQC
  | 20 => some awake14C
  | _ => none
theorem qtb_ok : GaOkG Tryd.prog GL qtb := fun f con h => by
  unfold qtb at h
  split at h
  · injection h with h; subst h; exact parseC_ok
  · injection h with h; subst h; exact refPC_ok
  · injection h with h; subst h; exact refsQC_ok
  · injection h with h; subst h; exact awake14C_ok
  · cases h
set_option maxRecDepth 100000 in
theorem lawParses_tri (s : List UInt8) : TriG Tryd.prog GL 3 [.one (.str s)] [] (.c (.one (.bo true))) [] := by
  refine tri_ofx (envLK_ok qtb_ok 62 []) Tryd.func3 rfl rfl (rs := [.tmp 2]) rfl rfl (by simp [envLK]) rfl ?_
  cases hb : decide ((1024 : Int) < s.length) with
  | true =>
    simp only [envLK, con0, conS, strsOf_arr, rowS_arr, strsOf_cells, rowS_cells, toS, strL_st, strL_d, strL_enc, strL_up, hpN_nil, hpN_cons, qtb, parseC, refPC, refsQC, awake14C, hb, go_sem, reduceCtorEq, ↓reduceIte, Nat.reduceAdd, Nat.reduceMul, Nat.reduceSub, Nat.reduceEqDiff, Nat.reduceLT, Nat.reduceBEq, Nat.reduceBNe, Nat.reduceLeDiff, Int.reduceLE, Int.reduceLT, Int.reduceToNat, Int.reduceEq, Int.reduceAdd, UInt8.reduceToNat, UInt32.reduceToNat, UInt64.reduceToNat, UInt8.reduceOfNat, UInt32.reduceOfNat, UInt64.reduceOfNat, Fin.isValue, Int.reduceSub, Int.reduceMul, Int.reduceNeg, Int.reduceMod, Int.reduceDiv, Int.reduceTDiv, Int.reduceTMod, Int.reduceBEq, Int.reduceBNe, Nat.reduceDiv, Nat.reducePow]
    refine endX [] ?_
    simp only [envLK, con0, conS, strsOf_arr, rowS_arr, strsOf_cells, rowS_cells, toS, strL_st, strL_d, strL_enc, strL_up, hpN_nil, hpN_cons, qtb, parseC, refPC, refsQC, awake14C, go_sem, reduceCtorEq, ↓reduceIte, Nat.reduceAdd, Nat.reduceMul, Nat.reduceSub, Nat.reduceEqDiff, Nat.reduceLT, Nat.reduceBEq, Nat.reduceBNe, Nat.reduceLeDiff, Int.reduceLE, Int.reduceLT, Int.reduceToNat, Int.reduceEq, Int.reduceAdd, UInt8.reduceToNat, UInt32.reduceToNat, UInt64.reduceToNat, UInt8.reduceOfNat, UInt32.reduceOfNat, UInt64.reduceOfNat, Fin.isValue, Int.reduceSub, Int.reduceMul, Int.reduceNeg, Int.reduceMod, Int.reduceDiv, Int.reduceTDiv, Int.reduceTMod, Int.reduceBEq, Int.reduceBNe, Nat.reduceDiv, Nat.reducePow]
  | false =>
    have hs : s.length ≤ 1024 := by have := of_decide_eq_false hb; omega
    have hsp := split_le 44 s
    have hs1 : s.length ≤ 65536 := by omega
    have hs2 : (Lib.split s [44]).length ≤ 65537 := by omega
    cases hp : prsL s with
    | none =>
      simp only [envLK, con0, conS, strsOf_arr, rowS_arr, strsOf_cells, rowS_cells, toS, strL_st, strL_d, strL_enc, strL_up, hpN_nil, hpN_cons, qtb, parseC, refPC, refsQC, awake14C, parseF, refPF, conQ, prsV, prsO, refPV, hb, hp, hs1, hs2, go_sem, reduceCtorEq, ↓reduceIte, Nat.reduceAdd, Nat.reduceMul, Nat.reduceSub, Nat.reduceEqDiff, Nat.reduceLT, Nat.reduceBEq, Nat.reduceBNe, Nat.reduceLeDiff, Int.reduceLE, Int.reduceLT, Int.reduceToNat, Int.reduceEq, Int.reduceAdd, UInt8.reduceToNat, UInt32.reduceToNat, UInt64.reduceToNat, UInt8.reduceOfNat, UInt32.reduceOfNat, UInt64.reduceOfNat, Fin.isValue, Int.reduceSub, Int.reduceMul, Int.reduceNeg, Int.reduceMod, Int.reduceDiv, Int.reduceTDiv, Int.reduceTMod, Int.reduceBEq, Int.reduceBNe, Nat.reduceDiv, Nat.reducePow]
      repeat' apply And.intro
      rotate_right
      · refine endX [] ?_
        simp only [envLK, con0, conS, strsOf_arr, rowS_arr, strsOf_cells, rowS_cells, toS, strL_st, strL_d, strL_enc, strL_up, hpN_nil, hpN_cons, qtb, parseC, refPC, refsQC, awake14C, go_sem, reduceCtorEq, ↓reduceIte, Nat.reduceAdd, Nat.reduceMul, Nat.reduceSub, Nat.reduceEqDiff, Nat.reduceLT, Nat.reduceBEq, Nat.reduceBNe, Nat.reduceLeDiff, Int.reduceLE, Int.reduceLT, Int.reduceToNat, Int.reduceEq, Int.reduceAdd, UInt8.reduceToNat, UInt32.reduceToNat, UInt64.reduceToNat, UInt8.reduceOfNat, UInt32.reduceOfNat, UInt64.reduceOfNat, Fin.isValue, Int.reduceSub, Int.reduceMul, Int.reduceNeg, Int.reduceMod, Int.reduceDiv, Int.reduceTDiv, Int.reduceTMod, Int.reduceBEq, Int.reduceBNe, Nat.reduceDiv, Nat.reducePow]
      all_goals first | omega | exact rfl | exact id
    | some L =>
      obtain ⟨h0, h1⟩ := prsL_len hp
      have hL : L.length ≤ 1048576 := by omega
      have hne : L.isEmpty = false := by cases L with | nil => simp at h0 | cons _ _ => rfl
      simp only [envLK, con0, conS, strsOf_arr, rowS_arr, strsOf_cells, rowS_cells, toS, strL_st, strL_d, strL_enc, strL_up, hpN_nil, hpN_cons, qtb, parseC, refPC, refsQC, awake14C, parseF, refPF, refsQF, refsV, refsO, conQ, prsV, prsO, refPV, pairsOf_arr, rowP_arr, hb, hp, hne, hs1, hs2, hL, Bool.false_eq_true, if_false, beq_self_eq_true, go_sem, reduceCtorEq, ↓reduceIte, Nat.reduceAdd, Nat.reduceMul, Nat.reduceSub, Nat.reduceEqDiff, Nat.reduceLT, Nat.reduceBEq, Nat.reduceBNe, Nat.reduceLeDiff, Int.reduceLE, Int.reduceLT, Int.reduceToNat, Int.reduceEq, Int.reduceAdd, UInt8.reduceToNat, UInt32.reduceToNat, UInt64.reduceToNat, UInt8.reduceOfNat, UInt32.reduceOfNat, UInt64.reduceOfNat, Fin.isValue, Int.reduceSub, Int.reduceMul, Int.reduceNeg, Int.reduceMod, Int.reduceDiv, Int.reduceTDiv, Int.reduceTMod, Int.reduceBEq, Int.reduceBNe, Nat.reduceDiv, Nat.reducePow]
      (repeat' apply And.intro)
      rotate_right
      · refine loop_inv (envLK_ok qtb_ok 62 []) (spInv L) (spOk L) (fun i => L.length - i) 0 [(500, 50008), (501, 80008)] (spOk_of (Nat.zero_le _)) ?_ ?_
        · simp only [spInv, go_sem, reduceCtorEq, ↓reduceIte, Nat.reduceAdd, Nat.reduceMul, Nat.reduceSub, Nat.reduceEqDiff, Nat.reduceLT, Nat.reduceBEq, Nat.reduceBNe, Nat.reduceLeDiff, Int.reduceLE, Int.reduceLT, Int.reduceToNat, Int.reduceEq, Int.reduceAdd, UInt8.reduceToNat, UInt32.reduceToNat, UInt64.reduceToNat, UInt8.reduceOfNat, UInt32.reduceOfNat, UInt64.reduceOfNat, Fin.isValue, Int.reduceSub, Int.reduceMul, Int.reduceNeg, Int.reduceMod, Int.reduceDiv, Int.reduceTDiv, Int.reduceTMod, Int.reduceBEq, Int.reduceBNe, Nat.reduceDiv, Nat.reducePow]
        · intro i hi
          have hi1 : i ≤ L.length := hi
          have hw : IntKind.i64.wrap ((i : Int) + 1) = ((i + 1 : Nat) : Int) := by rw [IntKind.wrap_i64]; omega
          simp only [envLK, con0, conS, strsOf_arr, rowS_arr, strsOf_cells, rowS_cells, toS, strL_st, strL_d, strL_enc, strL_up, hpN_nil, hpN_cons, qtb, parseC, refPC, refsQC, awake14C, spInv, hw, go_sem, reduceCtorEq, ↓reduceIte, Nat.reduceAdd, Nat.reduceMul, Nat.reduceSub, Nat.reduceEqDiff, Nat.reduceLT, Nat.reduceBEq, Nat.reduceBNe, Nat.reduceLeDiff, Int.reduceLE, Int.reduceLT, Int.reduceToNat, Int.reduceEq, Int.reduceAdd, UInt8.reduceToNat, UInt32.reduceToNat, UInt64.reduceToNat, UInt8.reduceOfNat, UInt32.reduceOfNat, UInt64.reduceOfNat, Fin.isValue, Int.reduceSub, Int.reduceMul, Int.reduceNeg, Int.reduceMod, Int.reduceDiv, Int.reduceTDiv, Int.reduceTMod, Int.reduceBEq, Int.reduceBNe, Nat.reduceDiv, Nat.reducePow]
          refine br (fun h => ?_) fun h => ?_
          · have hlt : i < L.length := by have := of_decide_eq_true h; omega
            simp only [envLK, con0, conS, strsOf_arr, rowS_arr, strsOf_cells, rowS_cells, toS, strL_st, strL_d, strL_enc, strL_up, hpN_nil, hpN_cons, qtb, parseC, refPC, refsQC, awake14C, h, hw, rngL_st, rngL_d, rngL_enc, rngL_up, beq_self_eq_true, Bool.and_self, Bool.not_true, go_sem, reduceCtorEq, ↓reduceIte, Nat.reduceAdd, Nat.reduceMul, Nat.reduceSub, Nat.reduceEqDiff, Nat.reduceLT, Nat.reduceBEq, Nat.reduceBNe, Nat.reduceLeDiff, Int.reduceLE, Int.reduceLT, Int.reduceToNat, Int.reduceEq, Int.reduceAdd, UInt8.reduceToNat, UInt32.reduceToNat, UInt64.reduceToNat, UInt8.reduceOfNat, UInt32.reduceOfNat, UInt64.reduceOfNat, Fin.isValue, Int.reduceSub, Int.reduceMul, Int.reduceNeg, Int.reduceMod, Int.reduceDiv, Int.reduceTDiv, Int.reduceTMod, Int.reduceBEq, Int.reduceBNe, Nat.reduceDiv, Nat.reducePow]
            repeat' apply And.intro
            rotate_right
            · refine again (i + 1) [] (spOk_of hlt) (by show L.length - (i + 1) < L.length - i; omega) ?_
              simp only [spInv, envLK, con0, conS, strsOf_arr, rowS_arr, strsOf_cells, rowS_cells, toS, strL_st, strL_d, strL_enc, strL_up, hpN_nil, hpN_cons, qtb, parseC, refPC, refsQC, awake14C, go_sem, reduceCtorEq, ↓reduceIte, Nat.reduceAdd, Nat.reduceMul, Nat.reduceSub, Nat.reduceEqDiff, Nat.reduceLT, Nat.reduceBEq, Nat.reduceBNe, Nat.reduceLeDiff, Int.reduceLE, Int.reduceLT, Int.reduceToNat, Int.reduceEq, Int.reduceAdd, UInt8.reduceToNat, UInt32.reduceToNat, UInt64.reduceToNat, UInt8.reduceOfNat, UInt32.reduceOfNat, UInt64.reduceOfNat, Fin.isValue, Int.reduceSub, Int.reduceMul, Int.reduceNeg, Int.reduceMod, Int.reduceDiv, Int.reduceTDiv, Int.reduceTMod, Int.reduceBEq, Int.reduceBNe, Nat.reduceDiv, Nat.reducePow]
              all_goals ((repeat' apply And.intro) <;> first | omega | exact rfl | exact id)
            all_goals first | omega | exact rfl | exact id
          · simp only [envLK, con0, conS, strsOf_arr, rowS_arr, strsOf_cells, rowS_cells, toS, strL_st, strL_d, strL_enc, strL_up, hpN_nil, hpN_cons, qtb, parseC, refPC, refsQC, awake14C, h, go_sem, reduceCtorEq, ↓reduceIte, Nat.reduceAdd, Nat.reduceMul, Nat.reduceSub, Nat.reduceEqDiff, Nat.reduceLT, Nat.reduceBEq, Nat.reduceBNe, Nat.reduceLeDiff, Int.reduceLE, Int.reduceLT, Int.reduceToNat, Int.reduceEq, Int.reduceAdd, UInt8.reduceToNat, UInt32.reduceToNat, UInt64.reduceToNat, UInt8.reduceOfNat, UInt32.reduceOfNat, UInt64.reduceOfNat, Fin.isValue, Int.reduceSub, Int.reduceMul, Int.reduceNeg, Int.reduceMod, Int.reduceDiv, Int.reduceTDiv, Int.reduceTMod, Int.reduceBEq, Int.reduceBNe, Nat.reduceDiv, Nat.reducePow]
            refine endX [] ?_
            simp only [envLK, con0, conS, strsOf_arr, rowS_arr, strsOf_cells, rowS_cells, toS, strL_st, strL_d, strL_enc, strL_up, hpN_nil, hpN_cons, qtb, parseC, refPC, refsQC, awake14C, go_sem, reduceCtorEq, ↓reduceIte, Nat.reduceAdd, Nat.reduceMul, Nat.reduceSub, Nat.reduceEqDiff, Nat.reduceLT, Nat.reduceBEq, Nat.reduceBNe, Nat.reduceLeDiff, Int.reduceLE, Int.reduceLT, Int.reduceToNat, Int.reduceEq, Int.reduceAdd, UInt8.reduceToNat, UInt32.reduceToNat, UInt64.reduceToNat, UInt8.reduceOfNat, UInt32.reduceOfNat, UInt64.reduceOfNat, Fin.isValue, Int.reduceSub, Int.reduceMul, Int.reduceNeg, Int.reduceMod, Int.reduceDiv, Int.reduceTDiv, Int.reduceTMod, Int.reduceBEq, Int.reduceBNe, Nat.reduceDiv, Nat.reducePow]
      all_goals first | omega | exact rfl | exact id | trivial
theorem spanParses_law (s : ByteArray) (ws : s.size ≤ maxLen) (w : World) (hg : ∀ f ∈ GL, f.p w) :
    Calls Tryd.prog 3 #[.string s] w fun e w' => e = .returned (.bool true) ∧ Below w.heap.size w w' := by
  refine (tri_callsG (lawParses_tri s.data.toList) w (vals := [.string s]) ⟨rfl, trivial⟩ hg).mono ?_
  rintro e w' ⟨u, r', rfl, hr, hb⟩
  exact ⟨by rw [show u = .bool true from hr], hb⟩
end Go.Proofs.YtgfcdkbbkgamnaaDoor
