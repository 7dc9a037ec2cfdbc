/-
  Layer 4: what is clamped; the laws Clamps, Same, Small.
-/
import Derived.Test.YtdkmkifebhggeaaSz
import Derived.Test.YtdkmkifebhggeaaKg
namespace Go.Proofs.Ytdkmkifebhggeaa
open Go Go.RowKit
set_option maxHeartbeats 4000000
set_option linter.unusedSimpArgs false
set_option linter.unusedVariables false
theorem tmodB (x : UInt8) (B : Nat) : ((x.toNat : Nat) : Int).tmod ((B : Nat) : Int) = ((x.toNat % B : Nat) : Int) := by rw [← Int.ofNat_tmod]
theorem by8_nat (n : Nat) : by8 ((n : Nat) : Int) = UInt8.ofNat n := by
  unfold by8
  apply UInt8.toNat_inj.1
  simp only [UInt8.toNat_ofNat']
  omega
set_option maxRecDepth 100000 in
theorem rclamp_tri (s : List UInt8) (hs : s.length = 32) : Tri Try.prog 27 [.one (.str s)] [] (.c (.one (.str (clampR s)))) [] := by
  refine tri_of (envOf_ok ga0_ok 28) Try.func27 rfl rfl (rs := [.tmp 2]) rfl rfl (by simp [envOf]) rfl [] ?_
  have m8 : ((s.getD 0 0).toNat : Int).tmod 8 = (((s.getD 0 0).toNat % 8 : Nat) : Int) := tmodB _ 8
  have m64 : ((s.getD 31 0).toNat : Int).tmod 64 = (((s.getD 31 0).toNat % 64 : Nat) : Int) := tmodB _ 64
  have w1 : IntKind.i64.wrap (((s.getD 0 0).toNat : Int) - (((s.getD 0 0).toNat % 8 : Nat) : Int)) = (((s.getD 0 0).toNat - (s.getD 0 0).toNat % 8 : Nat) : Int) := by
    have := (s.getD 0 0).toNat_lt
    rw [IntKind.wrap_i64]; omega
  have w2 : IntKind.i64.wrap ((((s.getD 31 0).toNat % 64 : Nat) : Int) + 64) = (((s.getD 31 0).toNat % 64 + 64 : Nat) : Int) := by
    rw [IntKind.wrap_i64]; omega
  simp only [envOf, ga0, hs, m8, m64, w1, w2, by8_nat, go_sem, reduceCtorEq, ↓reduceIte, Nat.reduceAdd, Nat.reduceMul, Nat.reduceSub, Nat.reduceEqDiff, Nat.reduceLT, Nat.reduceBEq, Nat.reduceBNe, Nat.reduceLeDiff, Int.reduceLE, Int.reduceLT, Int.reduceToNat, Int.reduceEq, Int.reduceAdd, UInt8.reduceToNat, UInt32.reduceToNat, UInt64.reduceToNat, UInt8.reduceOfNat, UInt32.reduceOfNat, UInt64.reduceOfNat, Fin.isValue, Int.reduceSub, Int.reduceMul, Int.reduceNeg, Int.reduceMod, Int.reduceDiv, Int.reduceTDiv, Int.reduceTMod, Int.reduceBEq, Int.reduceBNe, Nat.reduceDiv, Nat.reducePow]
  repeat' apply And.intro
  all_goals first
    | omega
    | rfl
    | (rw [List.length_take]; omega)
def rclampC : Con := con0 fun args => match args with
  | [.one (.str s)] => some (.c (.one (.str (clampR s))), [s.length = 32])
  | _ => none
theorem rclampC_ok : ConOk Try.prog 27 rclampC := con0_ok Try.func27 rfl rfl fun args res ob h hob => by
  split at h
  · injection h with h; injection h with h1 h2; subst h1; subst h2; exact rclamp_tri _ hob.1
  · cases h
def gk9 : Nat → Option Con := fun f => match f with
  | 26 => some clampC
  | 28 => some baseC
  | 29 => some pointC
  | 31 => some publicC
  | 25 => some awake4C
  | 27 => some rclampC
  | _ => none
theorem gk9_ok : GaOk Try.prog gk9 := fun f con h => by
  unfold gk9 at h
  split at h
  · injection h with h; subst h; exact clampC_ok
  · injection h with h; subst h; exact baseC_ok
  · injection h with h; subst h; exact pointC_ok
  · injection h with h; subst h; exact publicC_ok
  · injection h with h; subst h; exact awake4C_ok
  · injection h with h; subst h; exact rclampC_ok
  · cases h
theorem base9_eq : base9 = 9 :: nought32.drop 1 := rfl
set_option maxRecDepth 100000 in
theorem lclamps_tri (s : List UInt8) : Tri Try.prog 6 [.one (.str s)] [] (.c (.one (.bo true))) [] := by
  refine tri_of (envOf_ok gk9_ok 42) Try.func6 rfl rfl (rs := [.tmp 2]) rfl rfl (by simp [envOf]) rfl [] ?_
  cases h0 : decide ((100 : Int) < (s.length : Int)) with
  | true => simp only [envOf, gk9, clampC, baseC, pointC, publicC, awake4C, rclampC, h0, go_sem, reduceCtorEq, ↓reduceIte, Nat.reduceAdd, Nat.reduceMul, Nat.reduceSub, Nat.reduceEqDiff, Nat.reduceLT, Nat.reduceBEq, Nat.reduceBNe, Nat.reduceLeDiff, Int.reduceLE, Int.reduceLT, Int.reduceToNat, Int.reduceEq, Int.reduceAdd, UInt8.reduceToNat, UInt32.reduceToNat, UInt64.reduceToNat, UInt8.reduceOfNat, UInt32.reduceOfNat, UInt64.reduceOfNat, Fin.isValue, Int.reduceSub, Int.reduceMul, Int.reduceNeg, Int.reduceMod, Int.reduceDiv, Int.reduceTDiv, Int.reduceTMod, Int.reduceBEq, Int.reduceBNe, Nat.reduceDiv, Nat.reducePow]
  | false =>
    cases h : ((s.length : Int) == 32) with
    | false =>
      have hn : s.length ≠ 32 := fun e => by rw [e] at h; exact absurd h (by decide)
      have hv : clampV s = .tup [.one (.str []), .one (.bo false)] := if_neg hn
      simp only [envOf, gk9, clampC, baseC, pointC, publicC, awake4C, rclampC, h0, h, hv, go_sem, reduceCtorEq, ↓reduceIte, Nat.reduceAdd, Nat.reduceMul, Nat.reduceSub, Nat.reduceEqDiff, Nat.reduceLT, Nat.reduceBEq, Nat.reduceBNe, Nat.reduceLeDiff, Int.reduceLE, Int.reduceLT, Int.reduceToNat, Int.reduceEq, Int.reduceAdd, UInt8.reduceToNat, UInt32.reduceToNat, UInt64.reduceToNat, UInt8.reduceOfNat, UInt32.reduceOfNat, UInt64.reduceOfNat, Fin.isValue, Int.reduceSub, Int.reduceMul, Int.reduceNeg, Int.reduceMod, Int.reduceDiv, Int.reduceTDiv, Int.reduceTMod, Int.reduceBEq, Int.reduceBNe, Nat.reduceDiv, Nat.reducePow]
      | true =>
      have hs : s.length = 32 := by have := beq_iff_eq.1 h; omega
      have hv : clampV s = .tup [.one (.str (clampK s)), .one (.bo true)] := if_pos hs
      have hr := clampR_eq s hs
      simp only [envOf, gk9, clampC, baseC, pointC, publicC, awake4C, rclampC, h0, hs, hv, hr, base9, go_sem, reduceCtorEq, ↓reduceIte, Nat.reduceAdd, Nat.reduceMul, Nat.reduceSub, Nat.reduceEqDiff, Nat.reduceLT, Nat.reduceBEq, Nat.reduceBNe, Nat.reduceLeDiff, Int.reduceLE, Int.reduceLT, Int.reduceToNat, Int.reduceEq, Int.reduceAdd, UInt8.reduceToNat, UInt32.reduceToNat, UInt64.reduceToNat, UInt8.reduceOfNat, UInt32.reduceOfNat, UInt64.reduceOfNat, Fin.isValue, Int.reduceSub, Int.reduceMul, Int.reduceNeg, Int.reduceMod, Int.reduceDiv, Int.reduceTDiv, Int.reduceTMod, Int.reduceBEq, Int.reduceBNe, Nat.reduceDiv, Nat.reducePow]
      all_goals rfl
set_option maxRecDepth 100000 in
theorem lsmall_tri (s : List UInt8) : Tri Try.prog 10 [.one (.str s)] [] (.c (.one (.bo true))) [] := by
  refine tri_of (envOf_ok gk9_ok 64) Try.func10 rfl rfl (rs := [.tmp 2]) rfl rfl (by simp [envOf]) rfl [] ?_
  cases h : ((s.length : Int) == 32) with
  | false => simp only [envOf, gk9, clampC, baseC, pointC, publicC, awake4C, rclampC, h, go_sem, reduceCtorEq, ↓reduceIte, Nat.reduceAdd, Nat.reduceMul, Nat.reduceSub, Nat.reduceEqDiff, Nat.reduceLT, Nat.reduceBEq, Nat.reduceBNe, Nat.reduceLeDiff, Int.reduceLE, Int.reduceLT, Int.reduceToNat, Int.reduceEq, Int.reduceAdd, UInt8.reduceToNat, UInt32.reduceToNat, UInt64.reduceToNat, UInt8.reduceOfNat, UInt32.reduceOfNat, UInt64.reduceOfNat, Fin.isValue, Int.reduceSub, Int.reduceMul, Int.reduceNeg, Int.reduceMod, Int.reduceDiv, Int.reduceTDiv, Int.reduceTMod, Int.reduceBEq, Int.reduceBNe, Nat.reduceDiv, Nat.reducePow]
  | true =>
    have hs : s.length = 32 := by have := beq_iff_eq.1 h; omega
    have hA : pointV s nought32 = .tup [.one (.str nought32), .one (.bo true)] := (if_pos ⟨hs, rfl⟩).trans (by rw [small_0])
    have hB : pointV s (1 :: nought32.drop 1) = .tup [.one (.str nought32), .one (.bo true)] := (if_pos ⟨hs, rfl⟩).trans (by rw [small_1 s hs])
    have hC : pointV s base9 = .tup [.one (.str (pointS s base9)), .one (.bo true)] := if_pos ⟨hs, rfl⟩
    simp only [nought32, List.drop_succ_cons, List.drop_zero] at hA hB
    simp only [envOf, gk9, clampC, baseC, pointC, publicC, awake4C, rclampC, hs, hA, hB, hC, go_sem, reduceCtorEq, ↓reduceIte, Nat.reduceAdd, Nat.reduceMul, Nat.reduceSub, Nat.reduceEqDiff, Nat.reduceLT, Nat.reduceBEq, Nat.reduceBNe, Nat.reduceLeDiff, Int.reduceLE, Int.reduceLT, Int.reduceToNat, Int.reduceEq, Int.reduceAdd, UInt8.reduceToNat, UInt32.reduceToNat, UInt64.reduceToNat, UInt8.reduceOfNat, UInt32.reduceOfNat, UInt64.reduceOfNat, Fin.isValue, Int.reduceSub, Int.reduceMul, Int.reduceNeg, Int.reduceMod, Int.reduceDiv, Int.reduceTDiv, Int.reduceTMod, Int.reduceBEq, Int.reduceBNe, Nat.reduceDiv, Nat.reducePow]
set_option maxRecDepth 100000 in
theorem lsame_tri (s u : List UInt8) (l h : UInt8) : Tri Try.prog 9 [.one (.str s), .one (.str u), .one (.u8 l), .one (.u8 h)] [] (.c (.one (.bo true))) [] := by
  refine tri_of (envOf_ok gk9_ok 78) Try.func9 rfl rfl (rs := [.tmp 8]) rfl rfl (by simp [envOf]) rfl [] ?_
  cases h1 : ((s.length : Int) == 32) with
  | false => simp only [envOf, gk9, clampC, baseC, pointC, publicC, awake4C, rclampC, h1, go_sem, reduceCtorEq, ↓reduceIte, Nat.reduceAdd, Nat.reduceMul, Nat.reduceSub, Nat.reduceEqDiff, Nat.reduceLT, Nat.reduceBEq, Nat.reduceBNe, Nat.reduceLeDiff, Int.reduceLE, Int.reduceLT, Int.reduceToNat, Int.reduceEq, Int.reduceAdd, UInt8.reduceToNat, UInt32.reduceToNat, UInt64.reduceToNat, UInt8.reduceOfNat, UInt32.reduceOfNat, UInt64.reduceOfNat, Fin.isValue, Int.reduceSub, Int.reduceMul, Int.reduceNeg, Int.reduceMod, Int.reduceDiv, Int.reduceTDiv, Int.reduceTMod, Int.reduceBEq, Int.reduceBNe, Nat.reduceDiv, Nat.reducePow]
  | true =>
    have hs : s.length = 32 := by have := beq_iff_eq.1 h1; omega
    cases h2 : ((u.length : Int) == 32) with
    | false => simp only [envOf, gk9, clampC, baseC, pointC, publicC, awake4C, rclampC, h1, h2, go_sem, reduceCtorEq, ↓reduceIte, Nat.reduceAdd, Nat.reduceMul, Nat.reduceSub, Nat.reduceEqDiff, Nat.reduceLT, Nat.reduceBEq, Nat.reduceBNe, Nat.reduceLeDiff, Int.reduceLE, Int.reduceLT, Int.reduceToNat, Int.reduceEq, Int.reduceAdd, UInt8.reduceToNat, UInt32.reduceToNat, UInt64.reduceToNat, UInt8.reduceOfNat, UInt32.reduceOfNat, UInt64.reduceOfNat, Fin.isValue, Int.reduceSub, Int.reduceMul, Int.reduceNeg, Int.reduceMod, Int.reduceDiv, Int.reduceTDiv, Int.reduceTMod, Int.reduceBEq, Int.reduceBNe, Nat.reduceDiv, Nat.reducePow]
    | true =>
      have hu : u.length = 32 := by have := beq_iff_eq.1 h2; omega
      have hP : pointV s u = .tup [.one (.str (pointS s u)), .one (.bo true)] := if_pos ⟨hs, hu⟩
      have la : (sameA s l h).length = 32 := by unfold sameA; rw [List.length_set, List.length_set]; exact hs
      have lu : (sameU u).length = 32 := by unfold sameU; rw [List.length_set]; exact hu
      have hQ : pointV (sameA s l h) (sameU u) = .tup [.one (.str (pointS s u)), .one (.bo true)] := (if_pos ⟨la, lu⟩).trans (by rw [same_point s u l h hs hu])
      have ta : (sameA s l h).take 32 = sameA s l h := List.take_of_length_le (by omega)
      have tu : (sameU u).take 32 = sameU u := List.take_of_length_le (by omega)
      have hl := pointS_len s u
      unfold sameA at hQ ta
      unfold sameU at hQ tu
      simp only [envOf, gk9, clampC, baseC, pointC, publicC, awake4C, rclampC, hs, hu, hP, hQ, ta, tu, hl, List.length_set, go_sem, reduceCtorEq, ↓reduceIte, Nat.reduceAdd, Nat.reduceMul, Nat.reduceSub, Nat.reduceEqDiff, Nat.reduceLT, Nat.reduceBEq, Nat.reduceBNe, Nat.reduceLeDiff, Int.reduceLE, Int.reduceLT, Int.reduceToNat, Int.reduceEq, Int.reduceAdd, UInt8.reduceToNat, UInt32.reduceToNat, UInt64.reduceToNat, UInt8.reduceOfNat, UInt32.reduceOfNat, UInt64.reduceOfNat, Fin.isValue, Int.reduceSub, Int.reduceMul, Int.reduceNeg, Int.reduceMod, Int.reduceDiv, Int.reduceTDiv, Int.reduceTMod, Int.reduceBEq, Int.reduceBNe, Nat.reduceDiv, Nat.reducePow]
      repeat' apply And.intro
      all_goals first
        | omega
        | rfl
theorem lclamps_law (a : ByteArray) (wa : a.size ≤ maxLen) (w : World) :
    Calls Try.prog 6 #[.string a] w fun e w' => e = .returned (.bool true) ∧ Below w.heap.size w w' := by
  refine (tri_calls (lclamps_tri a.data.toList) w (vals := [.string a]) ⟨rfl, trivial⟩).mono ?_
  rintro e w' ⟨u, r', rfl, hr, hb⟩
  exact ⟨by rw [show u = .bool true from hr], hb⟩
theorem lsmall_law (a : ByteArray) (wa : a.size ≤ maxLen) (w : World) :
    Calls Try.prog 10 #[.string a] w fun e w' => e = .returned (.bool true) ∧ Below w.heap.size w w' := by
  refine (tri_calls (lsmall_tri a.data.toList) w (vals := [.string a]) ⟨rfl, trivial⟩).mono ?_
  rintro e w' ⟨u, r', rfl, hr, hb⟩
  exact ⟨by rw [show u = .bool true from hr], hb⟩
theorem lsame_law (a : ByteArray) (wa : a.size ≤ maxLen) (b : ByteArray) (wb : b.size ≤ maxLen) (n : Int) (wn : (Lit.int .u8 n).wf = true) (m : Int) (wm : (Lit.int .u8 m).wf = true) (w : World) :
    Calls Try.prog 9 #[.string a, .string b, .int .u8 n, .int .u8 m] w fun e w' => e = .returned (.bool true) ∧ Below w.heap.size w w' := by
  obtain ⟨n, rfl⟩ : ∃ x : UInt8, n = (x.toNat : Int) := by
    have h' : 0 ≤ n ∧ n ≤ 255 := by simpa [Lit.wf, IntKind.min, IntKind.max, IntKind.signed, IntKind.bits] using wn
    exact ⟨UInt8.ofNat n.toNat, by rw [UInt8.toNat_ofNat_of_lt' (by show n.toNat < 256; omega)]; omega⟩
  obtain ⟨m, rfl⟩ : ∃ x : UInt8, m = (x.toNat : Int) := by
    have h' : 0 ≤ m ∧ m ≤ 255 := by simpa [Lit.wf, IntKind.min, IntKind.max, IntKind.signed, IntKind.bits] using wm
    exact ⟨UInt8.ofNat m.toNat, by rw [UInt8.toNat_ofNat_of_lt' (by show m.toNat < 256; omega)]; omega⟩
  refine (tri_calls (lsame_tri a.data.toList b.data.toList n m) w (vals := [.string a, .string b, .int .u8 (n.toNat : Int), .int .u8 (m.toNat : Int)]) ⟨rfl, rfl, rfl, rfl, trivial⟩).mono ?_
  rintro e w' ⟨u, r', rfl, hr, hb⟩
  exact ⟨by rw [show u = .bool true from hr], hb⟩
end Go.Proofs.Ytdkmkifebhggeaa
