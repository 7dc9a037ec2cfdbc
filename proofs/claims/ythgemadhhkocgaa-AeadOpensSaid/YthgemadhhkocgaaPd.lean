/-
  Layer 6: laws of the tag that need no values.
-/
import Derived.Test.YthgemadhhkocgaaSz
import Derived.Test.YthgemadhhkocgaaPc
import Derived.Test.YthgemadhhkocgaaCg
import Derived.Test.YthgemadhhkocgaaRows
namespace Go.Proofs.Ythgemadhhkocgaa
open Go Go.RowKit
set_option maxHeartbeats 4000000
set_option linter.unusedSimpArgs false
set_option linter.unusedVariables false
def key1 : List UInt8 := [1, 0, 0, 0, 0, 0, 0, 0, 0, 0, 0, 0, 0, 0, 0, 0, 2, 0, 0, 0, 0, 0, 0, 0, 0, 0, 0, 0, 0, 0, 0, 0]
def gp4 : Nat → Option Con := fun f => match f with
  | 26 => some tagC
  | _ => none
theorem gp4_ok : GaOk Try.prog gp4 := fun f con h => by
  unfold gp4 at h
  split at h
  · injection h with h; subst h; exact tagC_ok
  · cases h
set_option maxRecDepth 100000 in
theorem pawake_tri : Tri Try.prog 25 [] [] (.c (.one (.bo true))) [] := by
  refine tri_of (envOf_ok gp4_ok 33) Try.func25 rfl rfl (rs := [.tmp 0]) rfl rfl (by simp [envOf]) rfl [] ?_
  have h1 : tagL [1, 0, 0, 0, 0, 0, 0, 0, 0, 0, 0, 0, 0, 0, 0, 0, 2, 0, 0, 0, 0, 0, 0, 0, 0, 0, 0, 0, 0, 0, 0, 0] [5] = [7, 1, 0, 0, 0, 0, 0, 0, 0, 0, 0, 0, 0, 0, 0, 0] := by decide +kernel
  have h2 : keyB [1, 0, 0, 0, 0, 0, 0, 0, 0, 0, 0, 0, 0, 0, 0, 0, 2, 0, 0, 0, 0, 0, 0, 0, 0, 0, 0, 0, 0, 0, 0, 0] = true := by decide
  have h3 : keyB [115, 104, 111, 114, 116] = false := by decide
  simp only [envOf, gp4, tagC, h1, h2, h3, go_sem, reduceCtorEq, ↓reduceIte, Nat.reduceAdd, Nat.reduceMul, Nat.reduceSub, Nat.reduceEqDiff, Nat.reduceLT, Nat.reduceBEq, Nat.reduceBNe, Nat.reduceLeDiff, Int.reduceLE, Int.reduceLT, Int.reduceToNat, Int.reduceEq, Int.reduceAdd, UInt8.reduceToNat, UInt32.reduceToNat, UInt64.reduceToNat, UInt8.reduceOfNat, UInt32.reduceOfNat, UInt64.reduceOfNat, Fin.isValue, Int.reduceSub, Int.reduceMul, Int.reduceNeg, Int.reduceMod, Int.reduceDiv, Int.reduceTDiv, Int.reduceTMod, Int.reduceBEq, Int.reduceBNe, Nat.reduceDiv, Nat.reducePow]
def pawakeC : Con := con0 fun args => match args with
  | [] => some (.c (.one (.bo true)), [])
  | _ => none
theorem pawakeC_ok : ConOk Try.prog 25 pawakeC := con0_ok Try.func25 rfl rfl fun args res ob h hob => by
  split at h
  · injection h with h; injection h with h1 h2; subst h1; subst h2; exact pawake_tri
  · cases h
def gp5 : Nat → Option Con := fun f => match f with
  | 26 => some tagC
  | 25 => some pawakeC
  | _ => none
theorem gp5_ok : GaOk Try.prog gp5 := fun f con h => by
  unfold gp5 at h
  split at h
  · injection h with h; subst h; exact tagC_ok
  · injection h with h; subst h; exact pawakeC_ok
  · cases h
def zero5 : N5 := ⟨0, 0, 0, 0, 0⟩
theorem byteOf_zero : ∀ i, i < 16 → byteOfL zero5 i = 0 := by decide
theorem addB_zero (s : List UInt8) (hs : s.length = 16) : ∀ n, n ≤ 16 → pcar zero5 s n = 0 ∧ addB zero5 s n = s.take n
  | 0, _ => ⟨rfl, rfl⟩
  | n + 1, h => by
    obtain ⟨h1, h2⟩ := addB_zero s hs n (by omega)
    have hb := byteOf_zero n (by omega)
    have hd := (s.getD n 0).toNat_lt
    refine ⟨by rw [pcar, h1, hb]; show (0 + 0 + (s.getD n 0).toNat) / 256 = 0; omega, ?_⟩
    rw [addB_succ', h2, List.take_add_one]
    congr 1
    rw [List.getElem?_eq_getElem (by omega : n < s.length)]
    simp only [addAt, h1, hb, Option.toList]
    rw [List.getD_eq_getElem?_getD, List.getElem?_eq_getElem (by omega : n < s.length)]
    simp
theorem psmall_zero : psmall zero5 = zero5 := by decide
theorem praw_zero (x : N5) : praw x zero5 = zero5 := by
  simp [praw, zero5]
theorem ptimes_zero (x : N5) : ptimes x zero5 = zero5 := by
  rw [ptimes, praw_zero]; decide
theorem tagN_zero (s : List UInt8) : ∀ q, tagN zero5 s q = zero5
  | 0 => rfl
  | q + 1 => by rw [tagN, ptimes_zero]
theorem keyR_zero (d : List UInt8) : keyR (List.replicate 16 0 ++ d) = zero5 := by
  unfold keyR
  rw [List.take_left' (by simp)]
  decide +kernel
theorem tag_nil (k : List UInt8) (hk : k.length = 32) : tagL k [] = k.drop 16 := by
  have hd : (k.drop 16).length = 16 := by rw [List.length_drop]; omega
  show addB (psmall zero5) (k.drop 16) 16 = _
  rw [psmall_zero, (addB_zero _ hd 16 (Nat.le_refl _)).2, List.take_of_length_le (by omega)]
theorem tag_zero (d s : List UInt8) (hd : d.length = 16) : tagL (List.replicate 16 0 ++ d) s = d := by
  unfold tagL
  rw [keyR_zero, tagN_zero, psmall_zero, List.drop_left' (by simp), (addB_zero _ hd 16 (Nat.le_refl _)).2, List.take_of_length_le (by omega)]
theorem tagL_len (k s : List UInt8) : (tagL k s).length = 16 := addB_len' _ _ _
set_option maxRecDepth 100000 in
theorem pplain_tri (k s : List UInt8) : Tri Try.prog 10 [.one (.str k), .one (.str s)] [] (.c (.one (.bo true))) [] := by
  refine tri_of (envOf_ok gp5_ok 52) Try.func10 rfl rfl (rs := [.tmp 4]) rfl rfl (by simp [envOf]) rfl [] ?_
  cases hk : ((k.length : Int) == 32) with
  | false => simp only [envOf, gp5, tagC, pawakeC, hk, go_sem, reduceCtorEq, ↓reduceIte, Nat.reduceAdd, Nat.reduceMul, Nat.reduceSub, Nat.reduceEqDiff, Nat.reduceLT, Nat.reduceBEq, Nat.reduceBNe, Nat.reduceLeDiff, Int.reduceLE, Int.reduceLT, Int.reduceToNat, Int.reduceEq, Int.reduceAdd, UInt8.reduceToNat, UInt32.reduceToNat, UInt64.reduceToNat, UInt8.reduceOfNat, UInt32.reduceOfNat, UInt64.reduceOfNat, Fin.isValue, Int.reduceSub, Int.reduceMul, Int.reduceNeg, Int.reduceMod, Int.reduceDiv, Int.reduceTDiv, Int.reduceTMod, Int.reduceBEq, Int.reduceBNe, Nat.reduceDiv, Nat.reducePow]
  | true =>
    cases hs : decide ((4096 : Int) < s.length) with
    | true => simp only [envOf, gp5, tagC, pawakeC, hk, hs, go_sem, reduceCtorEq, ↓reduceIte, Nat.reduceAdd, Nat.reduceMul, Nat.reduceSub, Nat.reduceEqDiff, Nat.reduceLT, Nat.reduceBEq, Nat.reduceBNe, Nat.reduceLeDiff, Int.reduceLE, Int.reduceLT, Int.reduceToNat, Int.reduceEq, Int.reduceAdd, UInt8.reduceToNat, UInt32.reduceToNat, UInt64.reduceToNat, UInt8.reduceOfNat, UInt32.reduceOfNat, UInt64.reduceOfNat, Fin.isValue, Int.reduceSub, Int.reduceMul, Int.reduceNeg, Int.reduceMod, Int.reduceDiv, Int.reduceTDiv, Int.reduceTMod, Int.reduceBEq, Int.reduceBNe, Nat.reduceDiv, Nat.reducePow]
    | false =>
      have hk' : k.length = 32 := by have := eq_of_beq hk; omega
      have hs' : s.length ≤ 4096 := by have := of_decide_eq_false hs; omega
      have hd : (k.drop 16).length = 16 := by rw [List.length_drop]; omega
      have hb : keyB k = true := hk
      have hb2 : keyB (List.replicate 16 0 ++ k.drop 16) = true := by simp [keyB, hd]
      have e1 := tag_nil k hk'
      have e2 := tag_zero (k.drop 16) s hd
      simp only [envOf, gp5, tagC, pawakeC, hk, hs, hb, hb2, e1, e2, toBytes_rep, take_rep, hk', hd, List.length_replicate, go_sem, reduceCtorEq, ↓reduceIte, Nat.reduceAdd, Nat.reduceMul, Nat.reduceSub, Nat.reduceEqDiff, Nat.reduceLT, Nat.reduceBEq, Nat.reduceBNe, Nat.reduceLeDiff, Int.reduceLE, Int.reduceLT, Int.reduceToNat, Int.reduceEq, Int.reduceAdd, UInt8.reduceToNat, UInt32.reduceToNat, UInt64.reduceToNat, UInt8.reduceOfNat, UInt32.reduceOfNat, UInt64.reduceOfNat, Fin.isValue, Int.reduceSub, Int.reduceMul, Int.reduceNeg, Int.reduceMod, Int.reduceDiv, Int.reduceTDiv, Int.reduceTMod, Int.reduceBEq, Int.reduceBNe, Nat.reduceDiv, Nat.reducePow]
      exact ⟨by omega, rfl⟩
def sumX (k s : List UInt8) : N5 := psmall (tagN (keyR k) s ((s.length + 15) / 16))
theorem getD_addB (x : N5) (d : List UInt8) (i : Nat) (h : i < 16) : (addB x d 16).getD i 0 = addAt x d i := by
  rw [List.getD_eq_getElem?_getD, List.getElem?_eq_getElem (by rw [addB_len']; exact h)]
  simp [addB]
theorem zeros_get : ∀ i, i < 16 → (List.replicate 16 (0 : UInt8)).getD i 0 = 0 := by decide
theorem pcar_zeros (x : N5) : ∀ i, i ≤ 16 → pcar x (List.replicate 16 0) i = 0
  | 0, _ => rfl
  | i + 1, h => by
    have hb := (byteOfL x i).toNat_lt
    have hz := zeros_get i (by omega)
    rw [pcar, pcar_zeros x i (by omega), hz]
    show (0 + (byteOfL x i).toNat + 0) / 256 = 0
    omega
theorem tag_half (k s : List UInt8) (hk : k.length = 32) (i : Nat) (h : i < 16) : (tagL (k.take 16 ++ List.replicate 16 0) s).getD i 0 = byteOfL (sumX k s) i := by
  have hr : keyR (k.take 16 ++ List.replicate 16 0) = keyR k := by
    unfold keyR
    rw [List.take_left' (by rw [List.length_take]; omega)]
  unfold tagL
  rw [hr, List.drop_left' (by rw [List.length_take]; omega), getD_addB _ _ _ h]
  have hz := zeros_get i (by omega)
  unfold addAt
  rw [pcar_zeros _ i (by omega), hz]
  show UInt8.ofNat (0 + (byteOfL (sumX k s) i).toNat + 0) = _
  simp
theorem tag_at (k s : List UInt8) (i : Nat) (h : i < 16) : ((tagL k s).getD i 0).toNat = (pcar (sumX k s) (k.drop 16) i + (byteOfL (sumX k s) i).toNat + ((k.drop 16).getD i 0).toNat) % 256 := by
  unfold tagL
  rw [getD_addB _ _ _ h]
  simp [addAt, sumX]
def shiftInv (k s : List UInt8) (i : Nat) : St := ⟨[(0, .c (.one (.str k))), (5, .c (.one (.str (tagL (k.take 16 ++ List.replicate 16 0) s)))), (7, .c (.one (.str (tagL k s)))), (9, .c (.one (.num (pcar (sumX k s) (k.drop 16) i)))), (10, .c (.one (.num i)))], []⟩
set_option maxRecDepth 100000 in
theorem pshift_tri (k s : List UInt8) : Tri Try.prog 11 [.one (.str k), .one (.str s)] [] (.c (.one (.bo true))) [] := by
  refine tri_of (envOf_ok gp5_ok 79) Try.func11 rfl rfl (rs := [.tmp 4]) rfl rfl (by simp [envOf]) rfl [] ?_
  cases hk : ((k.length : Int) == 32) with
  | false => simp only [envOf, gp5, tagC, pawakeC, hk, go_sem, reduceCtorEq, ↓reduceIte, Nat.reduceAdd, Nat.reduceMul, Nat.reduceSub, Nat.reduceEqDiff, Nat.reduceLT, Nat.reduceBEq, Nat.reduceBNe, Nat.reduceLeDiff, Int.reduceLE, Int.reduceLT, Int.reduceToNat, Int.reduceEq, Int.reduceAdd, UInt8.reduceToNat, UInt32.reduceToNat, UInt64.reduceToNat, UInt8.reduceOfNat, UInt32.reduceOfNat, UInt64.reduceOfNat, Fin.isValue, Int.reduceSub, Int.reduceMul, Int.reduceNeg, Int.reduceMod, Int.reduceDiv, Int.reduceTDiv, Int.reduceTMod, Int.reduceBEq, Int.reduceBNe, Nat.reduceDiv, Nat.reducePow]
  | true =>
    cases hs : decide ((4096 : Int) < s.length) with
    | true => simp only [envOf, gp5, tagC, pawakeC, hk, hs, go_sem, reduceCtorEq, ↓reduceIte, Nat.reduceAdd, Nat.reduceMul, Nat.reduceSub, Nat.reduceEqDiff, Nat.reduceLT, Nat.reduceBEq, Nat.reduceBNe, Nat.reduceLeDiff, Int.reduceLE, Int.reduceLT, Int.reduceToNat, Int.reduceEq, Int.reduceAdd, UInt8.reduceToNat, UInt32.reduceToNat, UInt64.reduceToNat, UInt8.reduceOfNat, UInt32.reduceOfNat, UInt64.reduceOfNat, Fin.isValue, Int.reduceSub, Int.reduceMul, Int.reduceNeg, Int.reduceMod, Int.reduceDiv, Int.reduceTDiv, Int.reduceTMod, Int.reduceBEq, Int.reduceBNe, Nat.reduceDiv, Nat.reducePow]
    | false =>
      have hk' : k.length = 32 := by have := eq_of_beq hk; omega
      have hs' : s.length ≤ 4096 := by have := of_decide_eq_false hs; omega
      have hd : (k.take 16).length = 16 := by rw [List.length_take]; omega
      have hb : keyB k = true := hk
      have hb2 : keyB (k.take 16 ++ List.replicate 16 0) = true := by simp [keyB, hd]
      simp only [envOf, gp5, tagC, pawakeC, hk, hs, hb, hb2, toBytes_rep, take_rep, hk', hd, tagL_len, List.length_replicate, go_sem, reduceCtorEq, ↓reduceIte, Nat.reduceAdd, Nat.reduceMul, Nat.reduceSub, Nat.reduceEqDiff, Nat.reduceLT, Nat.reduceBEq, Nat.reduceBNe, Nat.reduceLeDiff, Int.reduceLE, Int.reduceLT, Int.reduceToNat, Int.reduceEq, Int.reduceAdd, UInt8.reduceToNat, UInt32.reduceToNat, UInt64.reduceToNat, UInt8.reduceOfNat, UInt32.reduceOfNat, UInt64.reduceOfNat, Fin.isValue, Int.reduceSub, Int.reduceMul, Int.reduceNeg, Int.reduceMod, Int.reduceDiv, Int.reduceTDiv, Int.reduceTMod, Int.reduceBEq, Int.reduceBNe, Nat.reduceDiv, Nat.reducePow]
      refine ⟨by omega, rfl, by omega, ?_⟩
      refine loop_inv (envOf_ok gp5_ok 79) (shiftInv k s) (fun i => i ≤ 16) (fun i => 16 - i) 0 [] (by omega) ?_ ?_
      · simp only [shiftInv, pcar, Int.natCast_zero, go_sem, reduceCtorEq, ↓reduceIte, Nat.reduceAdd, Nat.reduceMul, Nat.reduceSub, Nat.reduceEqDiff, Nat.reduceLT, Nat.reduceBEq, Nat.reduceBNe, Nat.reduceLeDiff, Int.reduceLE, Int.reduceLT, Int.reduceToNat, Int.reduceEq, Int.reduceAdd, UInt8.reduceToNat, UInt32.reduceToNat, UInt64.reduceToNat, UInt8.reduceOfNat, UInt32.reduceOfNat, UInt64.reduceOfNat, Fin.isValue, Int.reduceSub, Int.reduceMul, Int.reduceNeg, Int.reduceMod, Int.reduceDiv, Int.reduceTDiv, Int.reduceTMod, Int.reduceBEq, Int.reduceBNe, Nat.reduceDiv, Nat.reducePow]
      · intro i hi
        simp only [shiftInv, envOf, gp5, tagC, pawakeC, go_sem, reduceCtorEq, ↓reduceIte, Nat.reduceAdd, Nat.reduceMul, Nat.reduceSub, Nat.reduceEqDiff, Nat.reduceLT, Nat.reduceBEq, Nat.reduceBNe, Nat.reduceLeDiff, Int.reduceLE, Int.reduceLT, Int.reduceToNat, Int.reduceEq, Int.reduceAdd, UInt8.reduceToNat, UInt32.reduceToNat, UInt64.reduceToNat, UInt8.reduceOfNat, UInt32.reduceOfNat, UInt64.reduceOfNat, Fin.isValue, Int.reduceSub, Int.reduceMul, Int.reduceNeg, Int.reduceMod, Int.reduceDiv, Int.reduceTDiv, Int.reduceTMod, Int.reduceBEq, Int.reduceBNe, Nat.reduceDiv, Nat.reducePow]
        refine br (fun h => ?_) fun h => ?_
        · have hlt : i < 16 := by have := of_decide_eq_true h; omega
          have hp := pcar_le' (sumX k s) (k.drop 16) i
          have hB := (byteOfL (sumX k s) i).toNat_lt
          have hD := ((k.drop 16).getD i 0).toNat_lt
          have g1 := tag_half k s hk' i hlt
          have g2 := tag_at k s i hlt
          have g3 : k.getD (16 + i) 0 = (k.drop 16).getD i 0 := by
            simp only [List.getD_eq_getElem?_getD, List.getElem?_drop]
          obtain ⟨T, hT⟩ : ∃ T, T = pcar (sumX k s) (k.drop 16) i + (byteOfL (sumX k s) i).toNat + ((k.drop 16).getD i 0).toNat := ⟨_, rfl⟩
          have hn : pcar (sumX k s) (k.drop 16) (i + 1) = T / 256 := by rw [pcar, ← hT]
          rw [← hT] at g2
          have h1 : IntKind.i64.wrap ((i : Int) + 1) = ((i + 1 : Nat) : Int) := by rw [IntKind.wrap_i64]; omega
          have h2 : IntKind.i64.wrap (16 + (i : Int)) = ((16 + i : Nat) : Int) := by rw [IntKind.wrap_i64]; omega
          have h3 : IntKind.i64.wrap (((byteOfL (sumX k s) i).toNat : Int) + (((k.drop 16).getD i 0).toNat : Int)) = (((byteOfL (sumX k s) i).toNat + ((k.drop 16).getD i 0).toNat : Nat) : Int) := by rw [IntKind.wrap_i64]; omega
          have h4 : IntKind.i64.wrap ((((byteOfL (sumX k s) i).toNat + ((k.drop 16).getD i 0).toNat : Nat) : Int) + (pcar (sumX k s) (k.drop 16) i : Int)) = ((T : Nat) : Int) := by rw [IntKind.wrap_i64]; omega
          have h5 : ((T : Nat) : Int).tmod 256 = ((T % 256 : Nat) : Int) := by rw [show (256 : Int) = ((256 : Nat) : Int) from rfl, ← Int.ofNat_tmod]
          have h6 : IntKind.i64.wrap (((T : Nat) : Int).tdiv 256) = ((T / 256 : Nat) : Int) := by
            rw [show (256 : Int) = ((256 : Nat) : Int) from rfl, ← Int.ofNat_tdiv, IntKind.wrap_i64]; omega
          simp only [h, envOf, gp5, tagC, pawakeC, h1, h2, h3, h4, h5, h6, g1, g2, g3, tagL_len, hk', go_sem, reduceCtorEq, ↓reduceIte, Nat.reduceAdd, Nat.reduceMul, Nat.reduceSub, Nat.reduceEqDiff, Nat.reduceLT, Nat.reduceBEq, Nat.reduceBNe, Nat.reduceLeDiff, Int.reduceLE, Int.reduceLT, Int.reduceToNat, Int.reduceEq, Int.reduceAdd, UInt8.reduceToNat, UInt32.reduceToNat, UInt64.reduceToNat, UInt8.reduceOfNat, UInt32.reduceOfNat, UInt64.reduceOfNat, Fin.isValue, Int.reduceSub, Int.reduceMul, Int.reduceNeg, Int.reduceMod, Int.reduceDiv, Int.reduceTDiv, Int.reduceTMod, Int.reduceBEq, Int.reduceBNe, Nat.reduceDiv, Nat.reducePow]
          refine ⟨⟨by omega, by omega⟩, ⟨by omega, by omega⟩, rfl, ⟨by omega, by omega⟩, again (i + 1) [] (by omega) (by omega) ?_⟩
          simp only [shiftInv, hn, go_sem, reduceCtorEq, ↓reduceIte, Nat.reduceAdd, Nat.reduceMul, Nat.reduceSub, Nat.reduceEqDiff, Nat.reduceLT, Nat.reduceBEq, Nat.reduceBNe, Nat.reduceLeDiff, Int.reduceLE, Int.reduceLT, Int.reduceToNat, Int.reduceEq, Int.reduceAdd, UInt8.reduceToNat, UInt32.reduceToNat, UInt64.reduceToNat, UInt8.reduceOfNat, UInt32.reduceOfNat, UInt64.reduceOfNat, Fin.isValue, Int.reduceSub, Int.reduceMul, Int.reduceNeg, Int.reduceMod, Int.reduceDiv, Int.reduceTDiv, Int.reduceTMod, Int.reduceBEq, Int.reduceBNe, Nat.reduceDiv, Nat.reducePow]
        · simp only [h, envOf, gp5, tagC, pawakeC, go_sem, reduceCtorEq, ↓reduceIte, Nat.reduceAdd, Nat.reduceMul, Nat.reduceSub, Nat.reduceEqDiff, Nat.reduceLT, Nat.reduceBEq, Nat.reduceBNe, Nat.reduceLeDiff, Int.reduceLE, Int.reduceLT, Int.reduceToNat, Int.reduceEq, Int.reduceAdd, UInt8.reduceToNat, UInt32.reduceToNat, UInt64.reduceToNat, UInt8.reduceOfNat, UInt32.reduceOfNat, UInt64.reduceOfNat, Fin.isValue, Int.reduceSub, Int.reduceMul, Int.reduceNeg, Int.reduceMod, Int.reduceDiv, Int.reduceTDiv, Int.reduceTMod, Int.reduceBEq, Int.reduceBNe, Nat.reduceDiv, Nat.reducePow]
theorem pplain_law (a : ByteArray) (wa : a.size ≤ maxLen) (b : ByteArray) (wb : b.size ≤ maxLen) (w : World) :
    Calls Try.prog 10 #[.string a, .string b] w fun e w' => e = .returned (.bool true) ∧ Below w.heap.size w w' := by
  refine (tri_calls (pplain_tri a.data.toList b.data.toList) w (vals := [.string a, .string b]) ⟨rfl, rfl, trivial⟩).mono ?_
  rintro e w' ⟨u, r', rfl, hr, hb⟩
  exact ⟨by rw [show u = .bool true from hr], hb⟩
theorem pshift_law (a : ByteArray) (wa : a.size ≤ maxLen) (b : ByteArray) (wb : b.size ≤ maxLen) (w : World) :
    Calls Try.prog 11 #[.string a, .string b] w fun e w' => e = .returned (.bool true) ∧ Below w.heap.size w w' := by
  refine (tri_calls (pshift_tri a.data.toList b.data.toList) w (vals := [.string a, .string b]) ⟨rfl, rfl, trivial⟩).mono ?_
  rintro e w' ⟨u, r', rfl, hr, hb⟩
  exact ⟨by rw [show u = .bool true from hr], hb⟩
end Go.Proofs.Ythgemadhhkocgaa
