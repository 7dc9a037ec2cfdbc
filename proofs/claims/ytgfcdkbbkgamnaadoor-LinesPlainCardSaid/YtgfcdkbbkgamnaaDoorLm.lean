/-
  Layer 17: more bytes behind a command.
-/
import Derived.Test.YtgfcdkbbkgamnaaDoorSz
import Derived.Test.YtgfcdkbbkgamnaaDoorLf
namespace Go.Proofs.YtgfcdkbbkgamnaaDoor
open Go Go.RowKit
set_option maxHeartbeats 4000000
set_option linter.unusedSimpArgs false
set_option linter.unusedVariables false
theorem eol_ext {r : List UInt8} {i : Nat} (t : List UInt8) (h : eol r = some i) : eol (r.take (i + 2) ++ t) = some i := by
  obtain ⟨h1, h2, h3, h4⟩ := eol_spec h
  have hl : (r.take (i + 2)).length = i + 2 := by rw [List.length_take]; omega
  have hg : ∀ j : Nat, j < i + 2 → (r.take (i + 2) ++ t)[j]? = r[j]? := fun j hj => by
    rw [List.getElem?_append_left (by omega), List.getElem?_take, if_pos hj]
  exact eol_first (by rw [hg _ (by omega)]; exact h2) (by rw [hg _ (by omega)]; exact h3) fun j hj => by
    rw [hg _ (by omega), hg _ (by omega)]; exact h4 j hj
theorem nx_whole {r : List UInt8} (h : nxC r = 1) : ∃ i, eol r = some i ∧ i ≤ 512 ∧ i + 2 ≤ r.length ∧ nxA r = r.take i ∧ nxB r = r.drop (i + 2) ∧ ∀ t, nxC (r.take (i + 2) ++ t) = 1 ∧ nxA (r.take (i + 2) ++ t) = r.take i ∧ nxB (r.take (i + 2) ++ t) = t := by
  cases he : eol r with
  | none =>
    exfalso
    unfold nxC at h
    rw [he] at h
    simp only at h
    split at h <;> omega
  | some i =>
    have hi : ¬ 512 < i := fun hc => by
      unfold nxC at h
      rw [he] at h
      simp only at h
      rw [if_pos hc] at h
      omega
    obtain ⟨h1, _⟩ := eol_spec he
    have hl : (r.take (i + 2)).length = i + 2 := by rw [List.length_take]; omega
    refine ⟨i, rfl, by omega, h1, ?_, ?_, fun t => ?_⟩
    · simp only [nxA, he, hi, if_false]
    · simp only [nxB, he]
    · have hx := eol_ext t he
      refine ⟨?_, ?_, ?_⟩
      · simp only [nxC, hx, hi, if_false]
      · simp only [nxA, hx, hi, if_false]
        rw [List.take_append_of_le_length (by omega), List.take_take, Nat.min_eq_left (by omega)]
      · simp only [nxB, hx]
        rw [List.drop_append, List.drop_eq_nil_of_le (by omega), hl, Nat.sub_self]; rfl
theorem takeS_more : ∀ (f : Nat) (T L : List (List UInt8)) (r : List UInt8), (takeS f T L r).st = 1 → ∃ p, r = p ++ (takeS f T L r).rest ∧ ∀ t, takeS f T L (p ++ t) = ⟨(takeS f T L r).T, (takeS f T L r).L, t, 1, (takeS f T L r).n⟩
  | 0, T, L, r, h => by simp [takeS] at h
  | f + 1, T, L, r, h => by
    by_cases h1 : nxC r = 1
    · obtain ⟨i, he, hi, hir, hA, hB, hx⟩ := nx_whole h1
      cases hl : litO (nxA r) with
      | none =>
        have e : takeS (f + 1) T L r = ⟨T ++ [nxA r], L, nxB r, 1, L.length⟩ := by rw [takeS, if_pos h1, hl]
        rw [e]
        refine ⟨r.take (i + 2), ?_, fun t => ?_⟩
        · show r = _ ++ nxB r
          rw [hB, List.take_append_drop]
        · obtain ⟨x1, x2, x3⟩ := hx t
          rw [takeS, if_pos x1, x2, x3, ← hA, hl]
      | some q =>
        obtain ⟨a, n⟩ := q
        by_cases h2 : 700 < n ∨ L.length = 4
        · have e : takeS (f + 1) T L r = ⟨[], [], nxB r, 2, L.length⟩ := by rw [takeS, if_pos h1, hl]; simp only; rw [if_pos h2]
          rw [e] at h; simp at h
        · by_cases h3 : (nxB r).length < n
          · have e : takeS (f + 1) T L r = ⟨[], [], [], 0, L.length + 1⟩ := by rw [takeS, if_pos h1, hl]; simp only; rw [if_neg h2, if_pos h3]
            rw [e] at h; simp at h
          · have e : takeS (f + 1) T L r = takeS f (T ++ [(nxA r).take a]) (L ++ [(nxB r).take n]) ((nxB r).drop n) := by
              conv => lhs; rw [takeS, if_pos h1, hl]
              simp only
              rw [if_neg h2, if_neg h3]
            rw [e] at h ⊢
            obtain ⟨p, hp, hq⟩ := takeS_more f _ _ _ h
            refine ⟨r.take (i + 2) ++ ((nxB r).take n ++ p), ?_, fun t => ?_⟩
            · rw [List.append_assoc, List.append_assoc, ← hp, List.take_append_drop, hB, List.take_append_drop]
            · obtain ⟨x1, x2, x3⟩ := hx ((nxB r).take n ++ p ++ t)
              have hn : ((nxB r).take n).length = n := by rw [List.length_take]; omega
              have ha : ((nxB r).take n ++ p ++ t).take n = (nxB r).take n := by
                rw [List.append_assoc, List.take_append_of_le_length (by omega)]; exact List.take_of_length_le (by omega)
              have hd : ((nxB r).take n ++ p ++ t).drop n = p ++ t := by
                rw [List.append_assoc, List.drop_append, List.drop_eq_nil_of_le (by omega), hn, Nat.sub_self]; rfl
              rw [List.append_assoc, takeS, if_pos x1, x2, x3, ← hA, hl]
              simp only
              rw [if_neg h2, if_neg (by simp only [List.length_append]; omega), ha, hd]
              exact hq t
    · have e : takeS (f + 1) T L r = ⟨[], [], nxB r, nxC r, L.length⟩ := by rw [takeS, if_neg h1]
      rw [e] at h
      exact (h1 h).elim
theorem takeS_wf : ∀ (f : Nat) (T L : List (List UInt8)) (r : List UInt8), T.length = L.length → (takeS f T L r).st = 1 → (takeS f T L r).T.length = (takeS f T L r).L.length + 1 ∧ (takeS f T L r).n = (takeS f T L r).L.length
  | 0, T, L, r, _, h => by simp [takeS] at h
  | f + 1, T, L, r, ht, h => by
    by_cases h1 : nxC r = 1
    · cases hl : litO (nxA r) with
      | none =>
        have e : takeS (f + 1) T L r = ⟨T ++ [nxA r], L, nxB r, 1, L.length⟩ := by rw [takeS, if_pos h1, hl]
        rw [e]
        simp [ht]
      | some q =>
        obtain ⟨a, n⟩ := q
        by_cases h2 : 700 < n ∨ L.length = 4
        · have e : takeS (f + 1) T L r = ⟨[], [], nxB r, 2, L.length⟩ := by rw [takeS, if_pos h1, hl]; simp only; rw [if_pos h2]
          rw [e] at h; simp at h
        · by_cases h3 : (nxB r).length < n
          · have e : takeS (f + 1) T L r = ⟨[], [], [], 0, L.length + 1⟩ := by rw [takeS, if_pos h1, hl]; simp only; rw [if_neg h2, if_pos h3]
            rw [e] at h; simp at h
          · have e : takeS (f + 1) T L r = takeS f (T ++ [(nxA r).take a]) (L ++ [(nxB r).take n]) ((nxB r).drop n) := by
              conv => lhs; rw [takeS, if_pos h1, hl]
              simp only
              rw [if_neg h2, if_neg h3]
            rw [e] at h ⊢
            exact takeS_wf f _ _ _ (by simp [ht]) h
    · have e : takeS (f + 1) T L r = ⟨[], [], nxB r, nxC r, L.length⟩ := by rw [takeS, if_neg h1]
      rw [e] at h
      exact (h1 h).elim
theorem takeS_bad : ∀ (f : Nat) (T L : List (List UInt8)) (r : List UInt8), (takeS f T L r).st ≠ 1 → (takeS f T L r).T = [] ∧ (takeS f T L r).L = []
  | 0, T, L, r, _ => ⟨rfl, rfl⟩
  | f + 1, T, L, r, h => by
    unfold takeS at h ⊢
    split
    · rename_i h1
      rw [if_pos h1] at h
      split
      · rename_i h2
        rw [h2] at h
        simp at h
      · rename_i a n h2
        rw [h2] at h
        simp only at h ⊢
        split
        · exact ⟨rfl, rfl⟩
        · rename_i h3
          rw [if_neg h3] at h
          split
          · exact ⟨rfl, rfl⟩
          · rename_i h4
            rw [if_neg h4] at h
            exact takeS_bad f _ _ _ h
    · exact ⟨rfl, rfl⟩
set_option maxRecDepth 100000 in
theorem lawMore_tri (s more : List UInt8) : TriG Tryd.prog GL 10 [.one (.str s), .one (.str more)] [] (.c (.one (.bo true))) [] := by
  refine tri_of (envL_ok gaTk_ok 150) Tryd.func10 rfl rfl (rs := [.tmp 4]) rfl rfl (by simp [envL]) rfl [] ?_
  cases hs : decide ((4096 : Int) < s.length) with
  | true => simp only [envLK, con0, conS, strsOf_arr, rowS_arr, strsOf_cells, rowS_cells, toS, strL_st, strL_d, strL_enc, strL_up, hpN_nil, hpN_cons, gaTk, takeC, takeRC, same17C, awake17C, envL, hs, go_sem, reduceCtorEq, ↓reduceIte, Nat.reduceAdd, Nat.reduceMul, Nat.reduceSub, Nat.reduceEqDiff, Nat.reduceLT, Nat.reduceBEq, Nat.reduceBNe, Nat.reduceLeDiff, Int.reduceLE, Int.reduceLT, Int.reduceToNat, Int.reduceEq, Int.reduceAdd, UInt8.reduceToNat, UInt32.reduceToNat, UInt64.reduceToNat, UInt8.reduceOfNat, UInt32.reduceOfNat, UInt64.reduceOfNat, Fin.isValue, Int.reduceSub, Int.reduceMul, Int.reduceNeg, Int.reduceMod, Int.reduceDiv, Int.reduceTDiv, Int.reduceTMod, Int.reduceBEq, Int.reduceBNe, Nat.reduceDiv, Nat.reducePow]
  | false =>
    cases hm : decide ((4096 : Int) < more.length) with
    | true => simp only [envLK, con0, conS, strsOf_arr, rowS_arr, strsOf_cells, rowS_cells, toS, strL_st, strL_d, strL_enc, strL_up, hpN_nil, hpN_cons, gaTk, takeC, takeRC, same17C, awake17C, envL, hs, hm, go_sem, reduceCtorEq, ↓reduceIte, Nat.reduceAdd, Nat.reduceMul, Nat.reduceSub, Nat.reduceEqDiff, Nat.reduceLT, Nat.reduceBEq, Nat.reduceBNe, Nat.reduceLeDiff, Int.reduceLE, Int.reduceLT, Int.reduceToNat, Int.reduceEq, Int.reduceAdd, UInt8.reduceToNat, UInt32.reduceToNat, UInt64.reduceToNat, UInt8.reduceOfNat, UInt32.reduceOfNat, UInt64.reduceOfNat, Fin.isValue, Int.reduceSub, Int.reduceMul, Int.reduceNeg, Int.reduceMod, Int.reduceDiv, Int.reduceTDiv, Int.reduceTMod, Int.reduceBEq, Int.reduceBNe, Nat.reduceDiv, Nat.reducePow]
    | false =>
      have hle : s.length ≤ 4096 := by have := of_decide_eq_false hs; omega
      have hlm : more.length ≤ 4096 := by have := of_decide_eq_false hm; omega
      obtain ⟨hlT, hlL⟩ := takeL_len s
      cases hst : (((takeL s).st : Int) == 1) with
      | false =>
        have hb : (takeL s).T = [] ∧ (takeL s).L = [] := takeS_bad 5 [] [] s fun e => by
          have e' : (takeL s).st = 1 := e
          rw [e'] at hst; simp at hst
        have hT : (takeL s).T.isEmpty = true := by rw [hb.1]; rfl
        have hL : (takeL s).L.isEmpty = true := by rw [hb.2]; rfl
        simp only [envLK, con0, conS, strsOf_arr, rowS_arr, strsOf_cells, rowS_cells, toS, strL_st, strL_d, strL_enc, strL_up, hpN_nil, hpN_cons, gaTk, takeC, takeRC, same17C, awake17C, envL, takeF, rowAV, takeO, hT, hL, hs, hm, hst, go_sem, reduceCtorEq, ↓reduceIte, Nat.reduceAdd, Nat.reduceMul, Nat.reduceSub, Nat.reduceEqDiff, Nat.reduceLT, Nat.reduceBEq, Nat.reduceBNe, Nat.reduceLeDiff, Int.reduceLE, Int.reduceLT, Int.reduceToNat, Int.reduceEq, Int.reduceAdd, UInt8.reduceToNat, UInt32.reduceToNat, UInt64.reduceToNat, UInt8.reduceOfNat, UInt32.reduceOfNat, UInt64.reduceOfNat, Fin.isValue, Int.reduceSub, Int.reduceMul, Int.reduceNeg, Int.reduceMod, Int.reduceDiv, Int.reduceTDiv, Int.reduceTMod, Int.reduceBEq, Int.reduceBNe, Nat.reduceDiv, Nat.reducePow]
        ((repeat' apply And.intro) <;> first | omega | exact rfl | exact id)
      | true =>
        have hst' : (takeL s).st = 1 := by have := eq_of_beq hst; omega
        obtain ⟨hTl, hn⟩ : (takeL s).T.length = (takeL s).L.length + 1 ∧ (takeL s).n = (takeL s).L.length := takeS_wf 5 [] [] s rfl hst'
        obtain ⟨p, hp, hq⟩ : ∃ p, s = p ++ (takeL s).rest ∧ ∀ t, takeL (p ++ t) = ⟨(takeL s).T, (takeL s).L, t, 1, (takeL s).n⟩ := takeS_more 5 [] [] s hst'
        have q1 : takeL (s ++ more) = ⟨(takeL s).T, (takeL s).L, (takeL s).rest ++ more, 1, (takeL s).n⟩ := by
          have := hq ((takeL s).rest ++ more)
          rw [← List.append_assoc, ← hp] at this
          exact this
        have hrl : (takeL s).rest.length ≤ s.length := by
          conv => rhs; rw [hp]
          simp
        have hpl : p = s.take (s.length - (takeL s).rest.length) := by
          have h1 : ∀ p R : List UInt8, p = (p ++ R).take ((p ++ R).length - R.length) := fun p R => by simp
          have h2 := h1 p (takeL s).rest
          rw [← hp] at h2
          exact h2
        have q2 : takeL (s.take (s.length - (takeL s).rest.length)) = ⟨(takeL s).T, (takeL s).L, [], 1, (takeL s).n⟩ := by
          have := hq []
          rw [List.append_nil, hpl] at this
          exact this
        have hT : (takeL s).T.isEmpty = false := by
          cases hq : (takeL s).T with
          | nil => rw [hq] at hTl; simp at hTl
          | cons _ _ => rfl
        have w1 : IntKind.i64.wrap ((s.length : Int) - ((takeL s).rest.length : Int)) = ((s.length - (takeL s).rest.length : Nat) : Int) := by rw [IntKind.wrap_i64]; omega
        have c1 : decide ((s.length : Int) < ((takeL s).rest.length : Int)) = false := decide_eq_false (by omega)
        have hsl : (s ++ more).length ≤ 1048576 := by rw [List.length_append]; omega
        have htl : (s.take (s.length - (takeL s).rest.length)).length ≤ 1048576 := by rw [List.length_take]; omega
        cases hL : (takeL s).L.isEmpty with
        | true =>
          have hL0 : (takeL s).L.length = 0 := by rw [List.isEmpty_iff.1 hL]; rfl
          have hT1 : (takeL s).T.length = 1 := by omega
          have hn0 : (takeL s).n = 0 := by omega
          simp (config := { maxSteps := 4000000 }) only [envLK, con0, conS, strsOf_arr, rowS_arr, strsOf_cells, rowS_cells, toS, strL_st, strL_d, strL_enc, strL_up, hpN_nil, hpN_cons, gaTk, takeC, takeRC, same17C, awake17C, envL, takeF, same17F, rowAV, takeO, hT, hL, hs, hm, hst, hst', hT1, hn0, q1, q2, w1, c1, go_sem, reduceCtorEq, ↓reduceIte, Nat.reduceAdd, Nat.reduceMul, Nat.reduceSub, Nat.reduceEqDiff, Nat.reduceLT, Nat.reduceBEq, Nat.reduceBNe, Nat.reduceLeDiff, Int.reduceLE, Int.reduceLT, Int.reduceToNat, Int.reduceEq, Int.reduceAdd, UInt8.reduceToNat, UInt32.reduceToNat, UInt64.reduceToNat, UInt8.reduceOfNat, UInt32.reduceOfNat, UInt64.reduceOfNat, Fin.isValue, Int.reduceSub, Int.reduceMul, Int.reduceNeg, Int.reduceMod, Int.reduceDiv, Int.reduceTDiv, Int.reduceTMod, Int.reduceBEq, Int.reduceBNe, Nat.reduceDiv, Nat.reducePow]
          ((repeat' apply And.intro) <;> first | omega | exact rfl | exact id)
        | false =>
          have w2 : IntKind.i64.wrap (((takeL s).L.length : Int) + 1) = (((takeL s).T.length : Nat) : Int) := by rw [IntKind.wrap_i64]; omega
          simp (config := { maxSteps := 4000000 }) only [envLK, con0, conS, strsOf_arr, rowS_arr, strsOf_cells, rowS_cells, toS, strL_st, strL_d, strL_enc, strL_up, hpN_nil, hpN_cons, gaTk, takeC, takeRC, same17C, awake17C, envL, takeF, same17F, rowAV, takeO, hT, hL, hs, hm, hst, hst', hn, q1, q2, w1, w2, c1, go_sem, reduceCtorEq, ↓reduceIte, Nat.reduceAdd, Nat.reduceMul, Nat.reduceSub, Nat.reduceEqDiff, Nat.reduceLT, Nat.reduceBEq, Nat.reduceBNe, Nat.reduceLeDiff, Int.reduceLE, Int.reduceLT, Int.reduceToNat, Int.reduceEq, Int.reduceAdd, UInt8.reduceToNat, UInt32.reduceToNat, UInt64.reduceToNat, UInt8.reduceOfNat, UInt32.reduceOfNat, UInt64.reduceOfNat, Fin.isValue, Int.reduceSub, Int.reduceMul, Int.reduceNeg, Int.reduceMod, Int.reduceDiv, Int.reduceTDiv, Int.reduceTMod, Int.reduceBEq, Int.reduceBNe, Nat.reduceDiv, Nat.reducePow]
          ((repeat' apply And.intro) <;> first | omega | exact rfl | exact id)
theorem linesMore_law (a : ByteArray) (wa : a.size ≤ maxLen) (b : ByteArray) (wb : b.size ≤ maxLen) (w : World) (hg : ∀ f ∈ GL, f.p w) :
    Calls Tryd.prog 10 #[.string a, .string b] w fun e w' => e = .returned (.bool true) ∧ Below w.heap.size w w' := by
  refine (tri_callsG (lawMore_tri a.data.toList b.data.toList) w (vals := [.string a, .string b]) ⟨rfl, rfl, trivial⟩ hg).mono ?_
  rintro e w' ⟨u, r', rfl, hr, hb⟩
  exact ⟨by rw [show u = .bool true from hr], hb⟩
end Go.Proofs.YtgfcdkbbkgamnaaDoor
