/-
  Layer 6: bytes in parts, and the sum with bytes.
-/
import Derived.Test.YthgemadhhkocgaaSz
import Derived.Test.YthgemadhhkocgaaPb
namespace Go.Proofs.Ythgemadhhkocgaa
open Go Go.RowKit
set_option maxHeartbeats 4000000
set_option linter.unusedSimpArgs false
set_option linter.unusedVariables false
def limbsInv (s : List UInt8) (i : Nat) : St := ⟨[(0, .c (.one (.str s))), (2, .c (.one (.ptr 10000 0 0 0))), (3, .c (.one (.ptr 20000 0 0 0))), (6, .c (.one (.str s))), (7, .c (.one (.num s.length))), (8, .c (.one (.num i)))], [(10000, ⟨.cells 1 [.u64 0, .u64 0, .u64 0, .u64 0, .u64 0], true⟩), (20000, ⟨.arr UInt64 u64L (limbsL s i), true⟩)]⟩
set_option maxRecDepth 100000 in
theorem limbs_tri (s : List UInt8) (hs : s.length ≤ 17) : Tri Try.prog 42 [.one (.str s)] [] (.c (limbsN s).cv) [] := by
  refine tri_of (envOf_ok gp1_ok 29) Try.func42 rfl rfl (rs := [.cell 2 59]) rfl rfl (by simp [envOf]) rfl [] ?_
  simp only [envOf, gp1, pcarryC, N5.cv, go_sem, reduceCtorEq, ↓reduceIte, Nat.reduceAdd, Nat.reduceMul, Nat.reduceSub, Nat.reduceEqDiff, Nat.reduceLT, Nat.reduceBEq, Nat.reduceBNe, Nat.reduceLeDiff, Int.reduceLE, Int.reduceLT, Int.reduceToNat, Int.reduceEq, Int.reduceAdd, UInt8.reduceToNat, UInt32.reduceToNat, UInt64.reduceToNat, UInt8.reduceOfNat, UInt32.reduceOfNat, UInt64.reduceOfNat, Fin.isValue, Int.reduceSub, Int.reduceMul, Int.reduceNeg, Int.reduceMod, Int.reduceDiv, Int.reduceTDiv, Int.reduceTMod, Int.reduceBEq, Int.reduceBNe, Nat.reduceDiv, Nat.reducePow]
  refine loop_inv (envOf_ok gp1_ok 29) (limbsInv s) (fun i => i ≤ s.length) (fun i => s.length - i) 0 [] (by omega) ?_ ?_
  · simp only [limbsInv, limbsL, u64L_st, u64L_enc, go_sem, reduceCtorEq, ↓reduceIte, Nat.reduceAdd, Nat.reduceMul, Nat.reduceSub, Nat.reduceEqDiff, Nat.reduceLT, Nat.reduceBEq, Nat.reduceBNe, Nat.reduceLeDiff, Int.reduceLE, Int.reduceLT, Int.reduceToNat, Int.reduceEq, Int.reduceAdd, UInt8.reduceToNat, UInt32.reduceToNat, UInt64.reduceToNat, UInt8.reduceOfNat, UInt32.reduceOfNat, UInt64.reduceOfNat, Fin.isValue, Int.reduceSub, Int.reduceMul, Int.reduceNeg, Int.reduceMod, Int.reduceDiv, Int.reduceTDiv, Int.reduceTMod, Int.reduceBEq, Int.reduceBNe, Nat.reduceDiv, Nat.reducePow]
  · intro i hi
    simp only [limbsInv, envOf, gp1, pcarryC, N5.cv, go_sem, reduceCtorEq, ↓reduceIte, Nat.reduceAdd, Nat.reduceMul, Nat.reduceSub, Nat.reduceEqDiff, Nat.reduceLT, Nat.reduceBEq, Nat.reduceBNe, Nat.reduceLeDiff, Int.reduceLE, Int.reduceLT, Int.reduceToNat, Int.reduceEq, Int.reduceAdd, UInt8.reduceToNat, UInt32.reduceToNat, UInt64.reduceToNat, UInt8.reduceOfNat, UInt32.reduceOfNat, UInt64.reduceOfNat, Fin.isValue, Int.reduceSub, Int.reduceMul, Int.reduceNeg, Int.reduceMod, Int.reduceDiv, Int.reduceTDiv, Int.reduceTMod, Int.reduceBEq, Int.reduceBNe, Nat.reduceDiv, Nat.reducePow]
    refine br (fun h => ?_) fun h => ?_
    · have hlt : i < s.length := by have := of_decide_eq_true h; omega
      have h1 : IntKind.i64.wrap ((i : Int) + 1) = ((i + 1 : Nat) : Int) := by rw [IntKind.wrap_i64]; omega
      have h2 : IntKind.i64.wrap (8 * (i : Int)) = ((8 * i : Nat) : Int) := by rw [IntKind.wrap_i64]; omega
      have h3 : IntKind.i64.wrap (((8 * i : Nat) : Int).tdiv 26) = ((8 * i / 26 : Nat) : Int) := by
        rw [show (26 : Int) = ((26 : Nat) : Int) from rfl, ← Int.ofNat_tdiv, IntKind.wrap_i64]; omega
      have h4 : ((8 * i : Nat) : Int).tmod 26 = ((8 * i % 26 : Nat) : Int) := by
        rw [show (26 : Int) = ((26 : Nat) : Int) from rfl, ← Int.ofNat_tmod]
      have h5 := limbsL_len s i
      simp only [h, gp1, pcarryC, N5.cv, h1, h2, h3, h4, u64L_st, u64L_enc, u64L_d, u64L_up, h5, go_sem, reduceCtorEq, ↓reduceIte, Nat.reduceAdd, Nat.reduceMul, Nat.reduceSub, Nat.reduceEqDiff, Nat.reduceLT, Nat.reduceBEq, Nat.reduceBNe, Nat.reduceLeDiff, Int.reduceLE, Int.reduceLT, Int.reduceToNat, Int.reduceEq, Int.reduceAdd, UInt8.reduceToNat, UInt32.reduceToNat, UInt64.reduceToNat, UInt8.reduceOfNat, UInt32.reduceOfNat, UInt64.reduceOfNat, Fin.isValue, Int.reduceSub, Int.reduceMul, Int.reduceNeg, Int.reduceMod, Int.reduceDiv, Int.reduceTDiv, Int.reduceTMod, Int.reduceBEq, Int.reduceBNe, Nat.reduceDiv, Nat.reducePow]
      refine ⟨⟨by omega, by omega⟩, by omega, ⟨by omega, by omega⟩, by omega, ⟨by omega, by omega⟩, by omega, rfl, again (i + 1) [] (by omega) (by omega) ?_⟩
      simp only [limbsInv, limbsL, go_sem, reduceCtorEq, ↓reduceIte, Nat.reduceAdd, Nat.reduceMul, Nat.reduceSub, Nat.reduceEqDiff, Nat.reduceLT, Nat.reduceBEq, Nat.reduceBNe, Nat.reduceLeDiff, Int.reduceLE, Int.reduceLT, Int.reduceToNat, Int.reduceEq, Int.reduceAdd, UInt8.reduceToNat, UInt32.reduceToNat, UInt64.reduceToNat, UInt8.reduceOfNat, UInt32.reduceOfNat, UInt64.reduceOfNat, Fin.isValue, Int.reduceSub, Int.reduceMul, Int.reduceNeg, Int.reduceMod, Int.reduceDiv, Int.reduceTDiv, Int.reduceTMod, Int.reduceBEq, Int.reduceBNe, Nat.reduceDiv, Nat.reducePow]
    · have hi' : i = s.length := by have := of_decide_eq_false h; omega
      subst hi'
      obtain ⟨a, b, c, d, e, hl⟩ := split5 (limbsL s s.length) (limbsL_len s _)
      have e : limbsN s = pcarry ⟨a, b, c, d, e⟩ := by unfold limbsN; rw [hl]; rfl
      simp only [h, gp1, pcarryC, N5.cv, hl, e, u64L_st, u64L_enc, go_sem, reduceCtorEq, ↓reduceIte, Nat.reduceAdd, Nat.reduceMul, Nat.reduceSub, Nat.reduceEqDiff, Nat.reduceLT, Nat.reduceBEq, Nat.reduceBNe, Nat.reduceLeDiff, Int.reduceLE, Int.reduceLT, Int.reduceToNat, Int.reduceEq, Int.reduceAdd, UInt8.reduceToNat, UInt32.reduceToNat, UInt64.reduceToNat, UInt8.reduceOfNat, UInt32.reduceOfNat, UInt64.reduceOfNat, Fin.isValue, Int.reduceSub, Int.reduceMul, Int.reduceNeg, Int.reduceMod, Int.reduceDiv, Int.reduceTDiv, Int.reduceTMod, Int.reduceBEq, Int.reduceBNe, Nat.reduceDiv, Nat.reducePow]
def limbsC : Con := con0 fun args => match args with
  | [.one (.str s)] => some (.c (limbsN s).cv, [s.length ≤ 17])
  | _ => none
theorem limbsC_ok : ConOk Try.prog 42 limbsC := con0_ok Try.func42 rfl rfl fun args res ob h hob => by
  split at h
  · injection h with h; injection h with h1 h2; subst h1; subst h2; exact limbs_tri _ hob.1
  · cases h
def byteOfC : Con := con0 fun args => match args with
  | [.agg [.u64 a, .u64 b, .u64 c, .u64 d, .u64 e], .one (.num i)] => some (.c (.one (.u8 (byteOfL ⟨a, b, c, d, e⟩ i.toNat))), [0 ≤ i, i.toNat < 16])
  | _ => none
theorem byteOfC_ok : ConOk Try.prog 55 byteOfC := con0_ok Try.func55 rfl rfl fun args res ob h hob => by
  split at h
  · injection h with h; injection h with h1 h2; subst h1; subst h2; (rename_i a b c d e i; have := byteOf_tri ⟨a, b, c, d, e⟩ i.toNat hob.2.1; rw [Int.toNat_of_nonneg hob.1] at this; exact this)
  · cases h
def gp2 : Nat → Option Con := fun f => match f with
  | 54 => some pcarryC
  | 42 => some limbsC
  | 55 => some byteOfC
  | _ => none
theorem gp2_ok : GaOk Try.prog gp2 := fun f con h => by
  unfold gp2 at h
  split at h
  · injection h with h; subst h; exact pcarryC_ok
  · injection h with h; subst h; exact limbsC_ok
  · injection h with h; subst h; exact byteOfC_ok
  · cases h
theorem pcar_le' (x : N5) (s : List UInt8) : ∀ i, pcar x s i ≤ 1
  | 0 => Nat.zero_le _
  | i + 1 => by
    have h1 := pcar_le' x s i
    have h2 := (byteOfL x i).toNat_lt
    have h3 := (s.getD i 0).toNat_lt
    rw [pcar]; omega
theorem addB_len' (x : N5) (s : List UInt8) (n : Nat) : (addB x s n).length = n := by simp [addB]
theorem addB_succ' (x : N5) (s : List UInt8) (n : Nat) : addB x s (n + 1) = addB x s n ++ [addAt x s n] := by simp [addB, List.range_succ]
def addInv (x : N5) (s : List UInt8) (i : Nat) : St := ⟨[(0, .c x.cv), (1, .c (.one (.str s))), (2, .c (.one (.ptr 10000 0 0 0))), (4, .c (.one (.str []))), (5, .c (.one (.sl 20000 0 1 i))), (6, .c (.one (.num (pcar x s i)))), (9, .c (.one (.num i)))], [(10000, ⟨.cells 1 [.u64 x.a, .u64 x.b, .u64 x.c, .u64 x.d, .u64 x.e], true⟩), (20000, ⟨.arr UInt8 u8L (addB x s i), true⟩)]⟩
set_option maxRecDepth 100000 in
theorem add128_tri (x : N5) (s : List UInt8) (hs : s.length = 16) : Tri Try.prog 43 [x.cv, .one (.str s)] [] (.c (.one (.str (addB x s 16)))) [] := by
  refine tri_of (envOf_ok gp2_ok 33) Try.func43 rfl rfl (rs := [.tmp 4]) rfl rfl (by simp [envOf]) rfl [] ?_
  simp only [envOf, gp2, pcarryC, limbsC, byteOfC, N5.cv, N5.eta, go_sem, reduceCtorEq, ↓reduceIte, Nat.reduceAdd, Nat.reduceMul, Nat.reduceSub, Nat.reduceEqDiff, Nat.reduceLT, Nat.reduceBEq, Nat.reduceBNe, Nat.reduceLeDiff, Int.reduceLE, Int.reduceLT, Int.reduceToNat, Int.reduceEq, Int.reduceAdd, UInt8.reduceToNat, UInt32.reduceToNat, UInt64.reduceToNat, UInt8.reduceOfNat, UInt32.reduceOfNat, UInt64.reduceOfNat, Fin.isValue, Int.reduceSub, Int.reduceMul, Int.reduceNeg, Int.reduceMod, Int.reduceDiv, Int.reduceTDiv, Int.reduceTMod, Int.reduceBEq, Int.reduceBNe, Nat.reduceDiv, Nat.reducePow]
  refine loop_inv (envOf_ok gp2_ok 33) (addInv x s) (fun i => i ≤ 16) (fun i => 16 - i) 0 [] (by omega) ?_ ?_
  · simp only [addInv, N5.cv, addB, pcar, Int.natCast_zero, go_sem, reduceCtorEq, ↓reduceIte, Nat.reduceAdd, Nat.reduceMul, Nat.reduceSub, Nat.reduceEqDiff, Nat.reduceLT, Nat.reduceBEq, Nat.reduceBNe, Nat.reduceLeDiff, Int.reduceLE, Int.reduceLT, Int.reduceToNat, Int.reduceEq, Int.reduceAdd, UInt8.reduceToNat, UInt32.reduceToNat, UInt64.reduceToNat, UInt8.reduceOfNat, UInt32.reduceOfNat, UInt64.reduceOfNat, Fin.isValue, Int.reduceSub, Int.reduceMul, Int.reduceNeg, Int.reduceMod, Int.reduceDiv, Int.reduceTDiv, Int.reduceTMod, Int.reduceBEq, Int.reduceBNe, Nat.reduceDiv, Nat.reducePow]
  · intro i hi
    simp only [addInv, envOf, gp2, pcarryC, limbsC, byteOfC, N5.cv, N5.eta, go_sem, reduceCtorEq, ↓reduceIte, Nat.reduceAdd, Nat.reduceMul, Nat.reduceSub, Nat.reduceEqDiff, Nat.reduceLT, Nat.reduceBEq, Nat.reduceBNe, Nat.reduceLeDiff, Int.reduceLE, Int.reduceLT, Int.reduceToNat, Int.reduceEq, Int.reduceAdd, UInt8.reduceToNat, UInt32.reduceToNat, UInt64.reduceToNat, UInt8.reduceOfNat, UInt32.reduceOfNat, UInt64.reduceOfNat, Fin.isValue, Int.reduceSub, Int.reduceMul, Int.reduceNeg, Int.reduceMod, Int.reduceDiv, Int.reduceTDiv, Int.reduceTMod, Int.reduceBEq, Int.reduceBNe, Nat.reduceDiv, Nat.reducePow]
    refine br (fun h => ?_) fun h => ?_
    · have hlt : i < 16 := by have := of_decide_eq_true h; omega
      have hp := pcar_le' x s i
      have hb := (byteOfL x i).toNat_lt
      have hd := (s.getD i 0).toNat_lt
      have h1 : IntKind.i64.wrap ((i : Int) + 1) = ((i + 1 : Nat) : Int) := by rw [IntKind.wrap_i64]; omega
      have h2 : IntKind.i64.wrap (((byteOfL x i).toNat : Int) + ((s.getD i 0).toNat : Int)) = (((byteOfL x i).toNat + (s.getD i 0).toNat : Nat) : Int) := by rw [IntKind.wrap_i64]; omega
      have h3 : IntKind.i64.wrap ((pcar x s i : Int) + (((byteOfL x i).toNat + (s.getD i 0).toNat : Nat) : Int)) = ((pcar x s i + (byteOfL x i).toNat + (s.getD i 0).toNat : Nat) : Int) := by rw [IntKind.wrap_i64]; omega
      have h4 : ((pcar x s i + (byteOfL x i).toNat + (s.getD i 0).toNat : Nat) : Int).fdiv (2 ^ min 8 64) = ((pcar x s (i + 1) : Nat) : Int) := by
        have e : (2 : Int) ^ min 8 64 = 256 := rfl
        rw [e, Int.fdiv_eq_ediv_of_nonneg _ (by decide), pcar]; omega
      have h5 : by8 ((pcar x s i + (byteOfL x i).toNat + (s.getD i 0).toNat : Nat) : Int) = addAt x s i := by
        unfold by8 addAt
        apply UInt8.toNat_inj.1
        simp only [UInt8.toNat_ofNat']
        omega
      simp only [h, envOf, gp2, pcarryC, limbsC, byteOfC, N5.cv, N5.eta, h1, h2, h3, h4, h5, go_sem, reduceCtorEq, ↓reduceIte, Nat.reduceAdd, Nat.reduceMul, Nat.reduceSub, Nat.reduceEqDiff, Nat.reduceLT, Nat.reduceBEq, Nat.reduceBNe, Nat.reduceLeDiff, Int.reduceLE, Int.reduceLT, Int.reduceToNat, Int.reduceEq, Int.reduceAdd, UInt8.reduceToNat, UInt32.reduceToNat, UInt64.reduceToNat, UInt8.reduceOfNat, UInt32.reduceOfNat, UInt64.reduceOfNat, Fin.isValue, Int.reduceSub, Int.reduceMul, Int.reduceNeg, Int.reduceMod, Int.reduceDiv, Int.reduceTDiv, Int.reduceTMod, Int.reduceBEq, Int.reduceBNe, Nat.reduceDiv, Nat.reducePow]
      refine ⟨⟨by omega, by omega⟩, ⟨by omega, by omega⟩, rfl, ⟨addB_len' _ _ _, by omega, by omega⟩, again (i + 1) [(20000, 80032)] (by omega) (by omega) ?_⟩
      simp only [addInv, N5.cv, addB_succ', go_sem, reduceCtorEq, ↓reduceIte, Nat.reduceAdd, Nat.reduceMul, Nat.reduceSub, Nat.reduceEqDiff, Nat.reduceLT, Nat.reduceBEq, Nat.reduceBNe, Nat.reduceLeDiff, Int.reduceLE, Int.reduceLT, Int.reduceToNat, Int.reduceEq, Int.reduceAdd, UInt8.reduceToNat, UInt32.reduceToNat, UInt64.reduceToNat, UInt8.reduceOfNat, UInt32.reduceOfNat, UInt64.reduceOfNat, Fin.isValue, Int.reduceSub, Int.reduceMul, Int.reduceNeg, Int.reduceMod, Int.reduceDiv, Int.reduceTDiv, Int.reduceTMod, Int.reduceBEq, Int.reduceBNe, Nat.reduceDiv, Nat.reducePow]
    · have hi' : i = 16 := by have := of_decide_eq_false h; omega
      subst hi'
      simp only [h, envOf, gp2, pcarryC, limbsC, byteOfC, N5.cv, N5.eta, go_sem, reduceCtorEq, ↓reduceIte, Nat.reduceAdd, Nat.reduceMul, Nat.reduceSub, Nat.reduceEqDiff, Nat.reduceLT, Nat.reduceBEq, Nat.reduceBNe, Nat.reduceLeDiff, Int.reduceLE, Int.reduceLT, Int.reduceToNat, Int.reduceEq, Int.reduceAdd, UInt8.reduceToNat, UInt32.reduceToNat, UInt64.reduceToNat, UInt8.reduceOfNat, UInt32.reduceOfNat, UInt64.reduceOfNat, Fin.isValue, Int.reduceSub, Int.reduceMul, Int.reduceNeg, Int.reduceMod, Int.reduceDiv, Int.reduceTDiv, Int.reduceTMod, Int.reduceBEq, Int.reduceBNe, Nat.reduceDiv, Nat.reducePow]
      exact ⟨by rw [addB_len']; exact Nat.le_refl _, by rw [List.take_of_length_le (by rw [addB_len']; exact Nat.le_refl _)]⟩
def clampL (s : List UInt8) : List UInt8 := [(3, 15), (7, 15), (11, 15), (15, 15), (4, 252), (8, 252), (12, 252)].foldl (fun l (p : Nat × UInt8) => l.set p.1 (l.getD p.1 0 &&& p.2)) s
theorem clampL_len (s : List UInt8) : (clampL s).length = s.length := by simp [clampL]
theorem split16b (s : List UInt8) (h : s.length = 16) : ∃ x0 x1 x2 x3 x4 x5 x6 x7 x8 x9 xa xb xc xd xe xf, s = [x0, x1, x2, x3, x4, x5, x6, x7, x8, x9, xa, xb, xc, xd, xe, xf] := by
  match s, h with
  | [x0, x1, x2, x3, x4, x5, x6, x7, x8, x9, xa, xb, xc, xd, xe, xf], _ => exact ⟨_, _, _, _, _, _, _, _, _, _, _, _, _, _, _, _, rfl⟩
set_option maxRecDepth 100000 in
theorem clamped_tri (s : List UInt8) (hs : s.length = 16) : Tri Try.prog 39 [.one (.str s)] [] (.c (limbsN (clampL s)).cv) [] := by
  obtain ⟨x0, x1, x2, x3, x4, x5, x6, x7, x8, x9, xa, xb, xc, xd, xe, xf, rfl⟩ := split16b s hs
  refine tri_of (envOf_ok gp2_ok 35) Try.func39 rfl rfl (rs := [.cell 2 59]) rfl rfl (by simp [envOf]) rfl [] ?_
  simp only [envOf, gp2, pcarryC, limbsC, byteOfC, N5.cv, go_sem, reduceCtorEq, ↓reduceIte, Nat.reduceAdd, Nat.reduceMul, Nat.reduceSub, Nat.reduceEqDiff, Nat.reduceLT, Nat.reduceBEq, Nat.reduceBNe, Nat.reduceLeDiff, Int.reduceLE, Int.reduceLT, Int.reduceToNat, Int.reduceEq, Int.reduceAdd, UInt8.reduceToNat, UInt32.reduceToNat, UInt64.reduceToNat, UInt8.reduceOfNat, UInt32.reduceOfNat, UInt64.reduceOfNat, Fin.isValue, Int.reduceSub, Int.reduceMul, Int.reduceNeg, Int.reduceMod, Int.reduceDiv, Int.reduceTDiv, Int.reduceTMod, Int.reduceBEq, Int.reduceBNe, Nat.reduceDiv, Nat.reducePow]
  refine loop_rounds (envOf_ok gp2_ok 35) 5 ?_
  simp only [envOf, gp2, pcarryC, limbsC, byteOfC, N5.cv, go_sem, reduceCtorEq, ↓reduceIte, Nat.reduceAdd, Nat.reduceMul, Nat.reduceSub, Nat.reduceEqDiff, Nat.reduceLT, Nat.reduceBEq, Nat.reduceBNe, Nat.reduceLeDiff, Int.reduceLE, Int.reduceLT, Int.reduceToNat, Int.reduceEq, Int.reduceAdd, UInt8.reduceToNat, UInt32.reduceToNat, UInt64.reduceToNat, UInt8.reduceOfNat, UInt32.reduceOfNat, UInt64.reduceOfNat, Fin.isValue, Int.reduceSub, Int.reduceMul, Int.reduceNeg, Int.reduceMod, Int.reduceDiv, Int.reduceTDiv, Int.reduceTMod, Int.reduceBEq, Int.reduceBNe, Nat.reduceDiv, Nat.reducePow]
  refine loop_rounds (envOf_ok gp2_ok 35) 4 ?_
  simp only [envOf, gp2, pcarryC, limbsC, byteOfC, N5.cv, clampL, go_sem, reduceCtorEq, ↓reduceIte, Nat.reduceAdd, Nat.reduceMul, Nat.reduceSub, Nat.reduceEqDiff, Nat.reduceLT, Nat.reduceBEq, Nat.reduceBNe, Nat.reduceLeDiff, Int.reduceLE, Int.reduceLT, Int.reduceToNat, Int.reduceEq, Int.reduceAdd, UInt8.reduceToNat, UInt32.reduceToNat, UInt64.reduceToNat, UInt8.reduceOfNat, UInt32.reduceOfNat, UInt64.reduceOfNat, Fin.isValue, Int.reduceSub, Int.reduceMul, Int.reduceNeg, Int.reduceMod, Int.reduceDiv, Int.reduceTDiv, Int.reduceTMod, Int.reduceBEq, Int.reduceBNe, Nat.reduceDiv, Nat.reducePow]
def clampedC : Con := con0 fun args => match args with
  | [.one (.str s)] => some (.c (limbsN (clampL s)).cv, [s.length = 16])
  | _ => none
theorem clampedC_ok : ConOk Try.prog 39 clampedC := con0_ok Try.func39 rfl rfl fun args res ob h hob => by
  split at h
  · injection h with h; injection h with h1 h2; subst h1; subst h2; exact clamped_tri _ hob.1
  · cases h
def add128C : Con := con0 fun args => match args with
  | [.agg [.u64 a, .u64 b, .u64 c, .u64 d, .u64 e], .one (.str s)] => some (.c (.one (.str (addB ⟨a, b, c, d, e⟩ s 16))), [s.length = 16])
  | _ => none
theorem add128C_ok : ConOk Try.prog 43 add128C := con0_ok Try.func43 rfl rfl fun args res ob h hob => by
  split at h
  · injection h with h; injection h with h1 h2; subst h1; subst h2; exact add128_tri ⟨_, _, _, _, _⟩ _ hob.1
  · cases h
def gp3 : Nat → Option Con := fun f => match f with
  | 39 => some clampedC
  | 42 => some limbsC
  | 41 => some pplusC
  | 40 => some ptimesC
  | 44 => some psmallC
  | 43 => some add128C
  | _ => none
theorem gp3_ok : GaOk Try.prog gp3 := fun f con h => by
  unfold gp3 at h
  split at h
  · injection h with h; subst h; exact clampedC_ok
  · injection h with h; subst h; exact limbsC_ok
  · injection h with h; subst h; exact pplusC_ok
  · injection h with h; subst h; exact ptimesC_ok
  · injection h with h; subst h; exact psmallC_ok
  · injection h with h; subst h; exact add128C_ok
  · cases h
def tagN (r : N5) (s : List UInt8) : Nat → N5
  | 0 => ⟨0, 0, 0, 0, 0⟩
  | q + 1 => ptimes (pplus (tagN r s q) (limbsN ((s.drop (16 * q)).take 16 ++ [1]))) r
def keyR (k : List UInt8) : N5 := limbsN (clampL (k.take 16))
def tagL (k s : List UInt8) : List UInt8 := addB (psmall (tagN (keyR k) s ((s.length + 15) / 16))) (k.drop 16) 16
def keyB (k : List UInt8) : Bool := (k.length : Int) == 32
def tagInv (k s : List UInt8) (q : Nat) : St := ⟨[(0, .c (.one (.str k))), (1, .c (.one (.str s))), (6, .c (.one (.ptr 40024 0 0 0))), (7, .c (.one (.ptr 50000 0 0 0))), (8, .c (.one (.num (16 * q : Nat))))], [(40024, ⟨.cells 1 [.u64 (keyR k).a, .u64 (keyR k).b, .u64 (keyR k).c, .u64 (keyR k).d, .u64 (keyR k).e], true⟩), (50000, ⟨.cells 1 [.u64 (tagN (keyR k) s q).a, .u64 (tagN (keyR k) s q).b, .u64 (tagN (keyR k) s q).c, .u64 (tagN (keyR k) s q).d, .u64 (tagN (keyR k) s q).e], true⟩)]⟩
set_option maxRecDepth 100000 in
theorem tag_tri (k s : List UInt8) (hs : s.length ≤ 1048576) : Tri Try.prog 26 [.one (.str k), .one (.str s)] [] (.tup [.one (.str (if keyB k = true then tagL k s else [])), .one (.bo (keyB k))]) [] := by
  refine tri_of (envOf_ok gp3_ok 42) Try.func26 rfl rfl (rs := [.tmp 4, .tmp 5]) rfl rfl (by simp [envOf]) rfl [] ?_
  cases hk : ((k.length : Int) == 32) with
  | false =>
    simp only [envOf, gp3, clampedC, limbsC, pplusC, ptimesC, psmallC, add128C, N5.cv, keyB, hk, go_sem, reduceCtorEq, ↓reduceIte, Nat.reduceAdd, Nat.reduceMul, Nat.reduceSub, Nat.reduceEqDiff, Nat.reduceLT, Nat.reduceBEq, Nat.reduceBNe, Nat.reduceLeDiff, Int.reduceLE, Int.reduceLT, Int.reduceToNat, Int.reduceEq, Int.reduceAdd, UInt8.reduceToNat, UInt32.reduceToNat, UInt64.reduceToNat, UInt8.reduceOfNat, UInt32.reduceOfNat, UInt64.reduceOfNat, Fin.isValue, Int.reduceSub, Int.reduceMul, Int.reduceNeg, Int.reduceMod, Int.reduceDiv, Int.reduceTDiv, Int.reduceTMod, Int.reduceBEq, Int.reduceBNe, Nat.reduceDiv, Nat.reducePow]
  | true =>
    have hk' : k.length = 32 := by have := eq_of_beq hk; omega
    have ht : (k.take 16).length = 16 := by rw [List.length_take]; omega
    simp only [envOf, gp3, clampedC, limbsC, pplusC, ptimesC, psmallC, add128C, N5.cv, N5.eta, keyB, hk, hk', ht, go_sem, reduceCtorEq, ↓reduceIte, Nat.reduceAdd, Nat.reduceMul, Nat.reduceSub, Nat.reduceEqDiff, Nat.reduceLT, Nat.reduceBEq, Nat.reduceBNe, Nat.reduceLeDiff, Int.reduceLE, Int.reduceLT, Int.reduceToNat, Int.reduceEq, Int.reduceAdd, UInt8.reduceToNat, UInt32.reduceToNat, UInt64.reduceToNat, UInt8.reduceOfNat, UInt32.reduceOfNat, UInt64.reduceOfNat, Fin.isValue, Int.reduceSub, Int.reduceMul, Int.reduceNeg, Int.reduceMod, Int.reduceDiv, Int.reduceTDiv, Int.reduceTMod, Int.reduceBEq, Int.reduceBNe, Nat.reduceDiv, Nat.reducePow]
    refine loop_inv (envOf_ok gp3_ok 42) (tagInv k s) (fun q => 16 * q ≤ s.length + 15) (fun q => s.length + 16 - 16 * q) 0 [] (by omega) ?_ ?_
    · simp only [tagInv, keyR, tagN, go_sem, reduceCtorEq, ↓reduceIte, Nat.reduceAdd, Nat.reduceMul, Nat.reduceSub, Nat.reduceEqDiff, Nat.reduceLT, Nat.reduceBEq, Nat.reduceBNe, Nat.reduceLeDiff, Int.reduceLE, Int.reduceLT, Int.reduceToNat, Int.reduceEq, Int.reduceAdd, UInt8.reduceToNat, UInt32.reduceToNat, UInt64.reduceToNat, UInt8.reduceOfNat, UInt32.reduceOfNat, UInt64.reduceOfNat, Fin.isValue, Int.reduceSub, Int.reduceMul, Int.reduceNeg, Int.reduceMod, Int.reduceDiv, Int.reduceTDiv, Int.reduceTMod, Int.reduceBEq, Int.reduceBNe, Nat.reduceDiv, Nat.reducePow]
    · intro q hq
      simp only [tagInv, envOf, gp3, clampedC, limbsC, pplusC, ptimesC, psmallC, add128C, N5.cv, N5.eta, go_sem, reduceCtorEq, ↓reduceIte, Nat.reduceAdd, Nat.reduceMul, Nat.reduceSub, Nat.reduceEqDiff, Nat.reduceLT, Nat.reduceBEq, Nat.reduceBNe, Nat.reduceLeDiff, Int.reduceLE, Int.reduceLT, Int.reduceToNat, Int.reduceEq, Int.reduceAdd, UInt8.reduceToNat, UInt32.reduceToNat, UInt64.reduceToNat, UInt8.reduceOfNat, UInt32.reduceOfNat, UInt64.reduceOfNat, Fin.isValue, Int.reduceSub, Int.reduceMul, Int.reduceNeg, Int.reduceMod, Int.reduceDiv, Int.reduceTDiv, Int.reduceTMod, Int.reduceBEq, Int.reduceBNe, Nat.reduceDiv, Nat.reducePow]
      refine br (fun h => ?_) fun h => ?_
      · have hlt : 16 * q < s.length := by have := of_decide_eq_true h; omega
        obtain ⟨m, hm⟩ : ∃ m, m = min 16 (s.length - 16 * q) := ⟨_, rfl⟩
        have h1 : IntKind.i64.wrap (((16 * q : Nat) : Int) + 16) = ((16 * q + 16 : Nat) : Int) := by rw [IntKind.wrap_i64]; omega
        have h2 : min ((16 * q + 16 : Nat) : Int) (s.length : Int) = ((16 * q + m : Nat) : Int) := by omega
        have h3 : (s.drop (16 * q)).take m = (s.drop (16 * q)).take 16 := by
          by_cases h16 : m = 16
          · rw [h16]
          · rw [List.take_of_length_le (by rw [List.length_drop]; omega), List.take_of_length_le (by rw [List.length_drop]; omega)]
        have h4 : ((s.drop (16 * q)).take 16).length ≤ 16 := by rw [List.length_take]; omega
        simp only [h, envOf, gp3, clampedC, limbsC, pplusC, ptimesC, psmallC, add128C, N5.cv, N5.eta, h1, h2, h3, Nat.add_sub_cancel_left, go_sem, reduceCtorEq, ↓reduceIte, Nat.reduceAdd, Nat.reduceMul, Nat.reduceSub, Nat.reduceEqDiff, Nat.reduceLT, Nat.reduceBEq, Nat.reduceBNe, Nat.reduceLeDiff, Int.reduceLE, Int.reduceLT, Int.reduceToNat, Int.reduceEq, Int.reduceAdd, UInt8.reduceToNat, UInt32.reduceToNat, UInt64.reduceToNat, UInt8.reduceOfNat, UInt32.reduceOfNat, UInt64.reduceOfNat, Fin.isValue, Int.reduceSub, Int.reduceMul, Int.reduceNeg, Int.reduceMod, Int.reduceDiv, Int.reduceTDiv, Int.reduceTMod, Int.reduceBEq, Int.reduceBNe, Nat.reduceDiv, Nat.reducePow]
        have hw : ((16 * q + 16 : Nat) : Int) = ((16 * (q + 1) : Nat) : Int) := by omega
        simp only [hw]
        refine ⟨⟨by omega, by omega, by omega⟩, by omega, by rw [List.length_append]; simp only [List.length_cons, List.length_nil]; omega, rfl, again (q + 1) [] (by omega) (by omega) ?_⟩
        simp only [tagInv, tagN, go_sem, reduceCtorEq, ↓reduceIte, Nat.reduceAdd, Nat.reduceMul, Nat.reduceSub, Nat.reduceEqDiff, Nat.reduceLT, Nat.reduceBEq, Nat.reduceBNe, Nat.reduceLeDiff, Int.reduceLE, Int.reduceLT, Int.reduceToNat, Int.reduceEq, Int.reduceAdd, UInt8.reduceToNat, UInt32.reduceToNat, UInt64.reduceToNat, UInt8.reduceOfNat, UInt32.reduceOfNat, UInt64.reduceOfNat, Fin.isValue, Int.reduceSub, Int.reduceMul, Int.reduceNeg, Int.reduceMod, Int.reduceDiv, Int.reduceTDiv, Int.reduceTMod, Int.reduceBEq, Int.reduceBNe, Nat.reduceDiv, Nat.reducePow]
      · have hq' : q = (s.length + 15) / 16 := by have := of_decide_eq_false h; omega
        have hd : (k.drop 16).length = 16 := by rw [List.length_drop]; omega
        simp only [h, envOf, gp3, clampedC, limbsC, pplusC, ptimesC, psmallC, add128C, N5.cv, N5.eta, hd, hk', ← hq', tagL, go_sem, reduceCtorEq, ↓reduceIte, Nat.reduceAdd, Nat.reduceMul, Nat.reduceSub, Nat.reduceEqDiff, Nat.reduceLT, Nat.reduceBEq, Nat.reduceBNe, Nat.reduceLeDiff, Int.reduceLE, Int.reduceLT, Int.reduceToNat, Int.reduceEq, Int.reduceAdd, UInt8.reduceToNat, UInt32.reduceToNat, UInt64.reduceToNat, UInt8.reduceOfNat, UInt32.reduceOfNat, UInt64.reduceOfNat, Fin.isValue, Int.reduceSub, Int.reduceMul, Int.reduceNeg, Int.reduceMod, Int.reduceDiv, Int.reduceTDiv, Int.reduceTMod, Int.reduceBEq, Int.reduceBNe, Nat.reduceDiv, Nat.reducePow]
        rfl
def tagC : Con := con0 fun args => match args with
  | [.one (.str k), .one (.str s)] => some (.tup [.one (.str (if keyB k = true then tagL k s else [])), .one (.bo (keyB k))], [s.length ≤ 1048576])
  | _ => none
theorem tagC_ok : ConOk Try.prog 26 tagC := con0_ok Try.func26 rfl rfl fun args res ob h hob => by
  split at h
  · injection h with h; injection h with h1 h2; subst h1; subst h2; exact tag_tri _ _ hob.1
  · cases h
end Go.Proofs.Ythgemadhhkocgaa
