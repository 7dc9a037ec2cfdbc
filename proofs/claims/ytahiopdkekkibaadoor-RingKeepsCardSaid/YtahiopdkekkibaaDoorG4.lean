/-
  Put together: Kb, Kz, Kf, Kq, Kg, Ca, Pa, Pb, Pc, Cb, Cd, Ce, Cf, Pd, Cg, Aa, Ab, Na, Nb, Za, Ma.
-/
import Derived.Test.YtahiopdkekkibaaDoorSz
import Derived.Test.YtahiopdkekkibaaDoorG1
import Derived.Laws.Externs
import Derived.Test.YtahiopdkekkibaaDoorG3
import Derived.Test.YtahiopdkekkibaaDoorRows
import Derived.WideKeyPair
import Derived.ChangeShapes
import Derived.Lib.LaidTab
import Derived.MakeChecks
import Derived.Stop.LaidErr
/-
  Layer 3: a number out of bytes; a number to a power.
-/
namespace Go.Proofs.YtahiopdkekkibaaDoor.FK
open Go Go.RowKit
set_option maxHeartbeats 4000000
set_option linter.unusedSimpArgs false
set_option linter.unusedVariables false
def w64 (s : List UInt8) : UInt64 := 0 ||| shl64 (s.getD 0 0).toUInt64 0 ||| shl64 (s.getD 1 0).toUInt64 8 ||| shl64 (s.getD 2 0).toUInt64 16 ||| shl64 (s.getD 3 0).toUInt64 24 ||| shl64 (s.getD 4 0).toUInt64 32 ||| shl64 (s.getD 5 0).toUInt64 40 ||| shl64 (s.getD 6 0).toUInt64 48 ||| shl64 (s.getD 7 0).toUInt64 56
set_option maxRecDepth 100000 in
theorem fword_tri (s : List UInt8) (hs : s.length = 8) : Tri Tryd.prog 61 [.one (.str s)] [] (.c (.one (.u64 (w64 s)))) [] := by
  refine tri_of (envOf_ok ga0_ok 19) Tryd.func61 rfl rfl (rs := [.tmp 2]) rfl rfl (by simp [envOf]) rfl [] ?_
  simp only [envOf, ga0, go_sem, reduceCtorEq, ↓reduceIte, Nat.reduceAdd, Nat.reduceMul, Nat.reduceSub, Nat.reduceEqDiff, Nat.reduceLT, Nat.reduceBEq, Nat.reduceBNe, Nat.reduceLeDiff, Int.reduceLE, Int.reduceLT, Int.reduceToNat, Int.reduceEq, Int.reduceAdd, UInt8.reduceToNat, UInt32.reduceToNat, UInt64.reduceToNat, UInt8.reduceOfNat, UInt32.reduceOfNat, UInt64.reduceOfNat, Fin.isValue, Int.reduceSub, Int.reduceMul, Int.reduceNeg, Int.reduceMod, Int.reduceDiv, Int.reduceTDiv, Int.reduceTMod, Int.reduceBEq, Int.reduceBNe, Nat.reduceDiv, Nat.reducePow]
  refine loop_rounds (envOf_ok ga0_ok 19) 9 ?_
  simp only [envOf, ga0, hs, go_sem, reduceCtorEq, ↓reduceIte, Nat.reduceAdd, Nat.reduceMul, Nat.reduceSub, Nat.reduceEqDiff, Nat.reduceLT, Nat.reduceBEq, Nat.reduceBNe, Nat.reduceLeDiff, Int.reduceLE, Int.reduceLT, Int.reduceToNat, Int.reduceEq, Int.reduceAdd, UInt8.reduceToNat, UInt32.reduceToNat, UInt64.reduceToNat, UInt8.reduceOfNat, UInt32.reduceOfNat, UInt64.reduceOfNat, Fin.isValue, Int.reduceSub, Int.reduceMul, Int.reduceNeg, Int.reduceMod, Int.reduceDiv, Int.reduceTDiv, Int.reduceTMod, Int.reduceBEq, Int.reduceBNe, Nat.reduceDiv, Nat.reducePow]
  repeat' apply And.intro
  all_goals first | omega | rfl
def fwordC : Con := con0 fun args => match args with
  | [.one (.str s)] => some (.c (.one (.u64 (w64 s))), [s.length = 8])
  | _ => none
theorem fwordC_ok : ConOk Tryd.prog 61 fwordC := con0_ok Tryd.func61 rfl rfl fun args res ob h hob => by
  split at h
  · injection h with h; injection h with h1 h2; subst h1; subst h2; exact fword_tri _ hob.1
  · cases h
def ofN (s : List UInt8) : N5 :=
  let w0 := w64 ((s.drop 0).take 8)
  let w1 := w64 ((s.drop 8).take 8)
  let w2 := w64 ((s.drop 16).take 8)
  let w3 := w64 ((s.drop 24).take 8)
  ⟨w0 &&& 2251799813685247, (shr64 w0 51 ||| shl64 w1 13) &&& 2251799813685247, (shr64 w1 38 ||| shl64 w2 26) &&& 2251799813685247, (shr64 w2 25 ||| shl64 w3 39) &&& 2251799813685247, shr64 w3 12 &&& 2251799813685247⟩
def ofV (s : List UInt8) : SV := if s.length = 32 then .tup [(ofN s).cv, .one (.bo true)] else .tup [zeroF.cv, .one (.bo false)]
def gk1 : Nat → Option Con := fun f => match f with
  | 61 => some fwordC
  | _ => none
theorem gk1_ok : GaOk Tryd.prog gk1 := fun f con h => by
  unfold gk1 at h
  split at h
  · injection h with h; subst h; exact fwordC_ok
  · cases h
set_option maxRecDepth 100000 in
theorem fof_tri (s : List UInt8) : Tri Tryd.prog 38 [.one (.str s)] [] (ofV s) [] := by
  refine tri_of (envOf_ok gk1_ok 48) Tryd.func38 rfl rfl (rs := [.cell 2 69, .tmp 3]) rfl rfl (by simp [envOf]) rfl [] ?_
  cases h : ((s.length : Int) == 32) with
  | false =>
    have hn : s.length ≠ 32 := fun e => by rw [e] at h; exact absurd h (by decide)
    have hv : ofV s = .tup [zeroF.cv, .one (.bo false)] := if_neg hn
    simp only [envOf, gk1, fwordC, h, hv, N5.cv, zeroF, go_sem, reduceCtorEq, ↓reduceIte, Nat.reduceAdd, Nat.reduceMul, Nat.reduceSub, Nat.reduceEqDiff, Nat.reduceLT, Nat.reduceBEq, Nat.reduceBNe, Nat.reduceLeDiff, Int.reduceLE, Int.reduceLT, Int.reduceToNat, Int.reduceEq, Int.reduceAdd, UInt8.reduceToNat, UInt32.reduceToNat, UInt64.reduceToNat, UInt8.reduceOfNat, UInt32.reduceOfNat, UInt64.reduceOfNat, Fin.isValue, Int.reduceSub, Int.reduceMul, Int.reduceNeg, Int.reduceMod, Int.reduceDiv, Int.reduceTDiv, Int.reduceTMod, Int.reduceBEq, Int.reduceBNe, Nat.reduceDiv, Nat.reducePow]
    all_goals try rfl
  | true =>
    have hs : s.length = 32 := by have := beq_iff_eq.1 h; omega
    have hv : ofV s = .tup [(ofN s).cv, .one (.bo true)] := if_pos hs
    simp only [envOf, gk1, fwordC, hs, hv, N5.cv, ofN, List.length_take, List.length_drop, go_sem, reduceCtorEq, ↓reduceIte, Nat.reduceAdd, Nat.reduceMul, Nat.reduceSub, Nat.reduceEqDiff, Nat.reduceLT, Nat.reduceBEq, Nat.reduceBNe, Nat.reduceLeDiff, Int.reduceLE, Int.reduceLT, Int.reduceToNat, Int.reduceEq, Int.reduceAdd, UInt8.reduceToNat, UInt32.reduceToNat, UInt64.reduceToNat, UInt8.reduceOfNat, UInt32.reduceOfNat, UInt64.reduceOfNat, Fin.isValue, Int.reduceSub, Int.reduceMul, Int.reduceNeg, Int.reduceMod, Int.reduceDiv, Int.reduceTDiv, Int.reduceTMod, Int.reduceBEq, Int.reduceBNe, Nat.reduceDiv, Nat.reducePow]
    repeat' apply And.intro
    all_goals first | omega | rfl
def fofC : Con := con0 fun args => match args with
  | [.one (.str s)] => some (ofV s, [])
  | _ => none
theorem fofC_ok : ConOk Tryd.prog 38 fofC := con0_ok Tryd.func38 rfl rfl fun args res ob h hob => by
  split at h
  · injection h with h; injection h with h1 h2; subst h1; subst h2; exact fof_tri _
  · cases h
end Go.Proofs.YtahiopdkekkibaaDoor.FK

/-
  Layer 3: the bytes of a number, numbers changed; the laws that ask no document's answer.
-/
namespace Go.Proofs.YtahiopdkekkibaaDoor.FK
open Go Go.RowKit
set_option maxHeartbeats 4000000
set_option linter.unusedSimpArgs false
set_option linter.unusedVariables false
def gf4 : Nat → Option Con := fun f => match f with
  | 62 => some fsmallC
  | _ => none
theorem gf4_ok : GaOk Tryd.prog gf4 := fun f con h => by
  unfold gf4 at h
  split at h
  · injection h with h; subst h; exact fsmallC_ok
  · cases h
set_option maxRecDepth 100000 in
theorem fbytes_tri (x : N5) : Tri Tryd.prog 39 [x.cv] [] (.c (.one (.str (bytesF x)))) [] := by
  refine tri_of (envOf_ok gf4_ok 59) Tryd.func39 rfl rfl (rs := [.tmp 2]) rfl rfl (by simp [envOf]) rfl [] ?_
  simp only [envOf, gf4, fsmallC, N5.cv, N5.eta, go_sem, reduceCtorEq, ↓reduceIte, Nat.reduceAdd, Nat.reduceMul, Nat.reduceSub, Nat.reduceEqDiff, Nat.reduceLT, Nat.reduceBEq, Nat.reduceBNe, Nat.reduceLeDiff, Int.reduceLE, Int.reduceLT, Int.reduceToNat, Int.reduceEq, Int.reduceAdd, UInt8.reduceToNat, UInt32.reduceToNat, UInt64.reduceToNat, UInt8.reduceOfNat, UInt32.reduceOfNat, UInt64.reduceOfNat, Fin.isValue, Int.reduceSub, Int.reduceMul, Int.reduceNeg, Int.reduceMod, Int.reduceDiv, Int.reduceTDiv, Int.reduceTMod, Int.reduceBEq, Int.reduceBNe, Nat.reduceDiv, Nat.reducePow]
  refine loop_rounds (envOf_ok gf4_ok 59) 5 ?_
  simp only [envOf, gf4, fsmallC, N5.cv, N5.eta, go_sem, reduceCtorEq, ↓reduceIte, Nat.reduceAdd, Nat.reduceMul, Nat.reduceSub, Nat.reduceEqDiff, Nat.reduceLT, Nat.reduceBEq, Nat.reduceBNe, Nat.reduceLeDiff, Int.reduceLE, Int.reduceLT, Int.reduceToNat, Int.reduceEq, Int.reduceAdd, UInt8.reduceToNat, UInt32.reduceToNat, UInt64.reduceToNat, UInt8.reduceOfNat, UInt32.reduceOfNat, UInt64.reduceOfNat, Fin.isValue, Int.reduceSub, Int.reduceMul, Int.reduceNeg, Int.reduceMod, Int.reduceDiv, Int.reduceTDiv, Int.reduceTMod, Int.reduceBEq, Int.reduceBNe, Nat.reduceDiv, Nat.reducePow]
  iterate 4
    refine loop_rounds (envOf_ok gf4_ok 59) 9 ?_
    simp only [envOf, gf4, fsmallC, N5.cv, N5.eta, go_sem, reduceCtorEq, ↓reduceIte, Nat.reduceAdd, Nat.reduceMul, Nat.reduceSub, Nat.reduceEqDiff, Nat.reduceLT, Nat.reduceBEq, Nat.reduceBNe, Nat.reduceLeDiff, Int.reduceLE, Int.reduceLT, Int.reduceToNat, Int.reduceEq, Int.reduceAdd, UInt8.reduceToNat, UInt32.reduceToNat, UInt64.reduceToNat, UInt8.reduceOfNat, UInt32.reduceOfNat, UInt64.reduceOfNat, Fin.isValue, Int.reduceSub, Int.reduceMul, Int.reduceNeg, Int.reduceMod, Int.reduceDiv, Int.reduceTDiv, Int.reduceTMod, Int.reduceBEq, Int.reduceBNe, Nat.reduceDiv, Nat.reducePow]
    repeat' apply And.intro
    all_goals try rfl
def fbytesC : Con := con0 fun args => match args with
  | [.agg [.u64 a, .u64 b, .u64 c, .u64 d, .u64 e]] => some (.c (.one (.str (bytesF ⟨a, b, c, d, e⟩))), [])
  | _ => none
theorem fbytesC_ok : ConOk Tryd.prog 39 fbytesC := con0_ok Tryd.func39 rfl rfl fun args res ob h hob => by
  split at h
  · injection h with h; injection h with h1 h2; subst h1; subst h2; exact fbytes_tri ⟨_, _, _, _, _⟩
  · cases h
end Go.Proofs.YtahiopdkekkibaaDoor.FK

/-
  Layer 4: the key of a scalar and a point; what each scalar makes of the base; the fixed answer.
-/
namespace Go.Proofs.YtahiopdkekkibaaDoor.FK
open Go Go.RowKit
set_option maxHeartbeats 4000000
set_option linter.unusedSimpArgs false
set_option linter.unusedVariables false
def pointS (s u : List UInt8) : List UInt8 := bytesF (climbF (clampK s) (ofN u))
def pointV (s u : List UInt8) : SV := if s.length = 32 ∧ u.length = 32 then .tup [.one (.str (pointS s u)), .one (.bo true)] else .tup [.one (.str []), .one (.bo false)]
def gk6 : Nat → Option Con := fun f => match f with
  | 37 => some clampC
  | 38 => some fofC
  | 40 => some climbC
  | 39 => some fbytesC
  | _ => none
theorem gk6_ok : GaOk Tryd.prog gk6 := fun f con h => by
  unfold gk6 at h
  split at h
  · injection h with h; subst h; exact clampC_ok
  · injection h with h; subst h; exact fofC_ok
  · injection h with h; subst h; exact climbC_ok
  · injection h with h; subst h; exact fbytesC_ok
  · cases h
set_option maxRecDepth 100000 in
theorem point_tri (s u : List UInt8) : Tri Tryd.prog 21 [.one (.str s), .one (.str u)] [] (pointV s u) [] := by
  refine tri_of (envOf_ok gk6_ok 27) Tryd.func21 rfl rfl (rs := [.tmp 4, .tmp 5]) rfl rfl (by simp [envOf]) rfl [] ?_
  by_cases hs : s.length = 32
  · have hc : clampV s = .tup [.one (.str (clampK s)), .one (.bo true)] := if_pos hs
    have hcl : (clampK s).length = 32 := by rw [clampK_len]; exact hs
    by_cases hu : u.length = 32
    · have ho : ofV u = .tup [(ofN u).cv, .one (.bo true)] := if_pos hu
      have hv : pointV s u = .tup [.one (.str (pointS s u)), .one (.bo true)] := if_pos ⟨hs, hu⟩
      simp only [envOf, gk6, clampC, fofC, climbC, fbytesC, hc, ho, hv, hcl, pointS, N5.cv, N5.eta, go_sem, reduceCtorEq, ↓reduceIte, Nat.reduceAdd, Nat.reduceMul, Nat.reduceSub, Nat.reduceEqDiff, Nat.reduceLT, Nat.reduceBEq, Nat.reduceBNe, Nat.reduceLeDiff, Int.reduceLE, Int.reduceLT, Int.reduceToNat, Int.reduceEq, Int.reduceAdd, UInt8.reduceToNat, UInt32.reduceToNat, UInt64.reduceToNat, UInt8.reduceOfNat, UInt32.reduceOfNat, UInt64.reduceOfNat, Fin.isValue, Int.reduceSub, Int.reduceMul, Int.reduceNeg, Int.reduceMod, Int.reduceDiv, Int.reduceTDiv, Int.reduceTMod, Int.reduceBEq, Int.reduceBNe, Nat.reduceDiv, Nat.reducePow]
    · have ho : ofV u = .tup [zeroF.cv, .one (.bo false)] := if_neg hu
      have hv : pointV s u = .tup [.one (.str []), .one (.bo false)] := if_neg fun h => hu h.2
      simp only [envOf, gk6, clampC, fofC, climbC, fbytesC, hc, ho, hv, hcl, N5.cv, zeroF, N5.eta, go_sem, reduceCtorEq, ↓reduceIte, Nat.reduceAdd, Nat.reduceMul, Nat.reduceSub, Nat.reduceEqDiff, Nat.reduceLT, Nat.reduceBEq, Nat.reduceBNe, Nat.reduceLeDiff, Int.reduceLE, Int.reduceLT, Int.reduceToNat, Int.reduceEq, Int.reduceAdd, UInt8.reduceToNat, UInt32.reduceToNat, UInt64.reduceToNat, UInt8.reduceOfNat, UInt32.reduceOfNat, UInt64.reduceOfNat, Fin.isValue, Int.reduceSub, Int.reduceMul, Int.reduceNeg, Int.reduceMod, Int.reduceDiv, Int.reduceTDiv, Int.reduceTMod, Int.reduceBEq, Int.reduceBNe, Nat.reduceDiv, Nat.reducePow]
  · have hc : clampV s = .tup [.one (.str []), .one (.bo false)] := if_neg hs
    have hv : pointV s u = .tup [.one (.str []), .one (.bo false)] := if_neg fun h => hs h.1
    simp only [envOf, gk6, clampC, fofC, climbC, fbytesC, hc, hv, go_sem, reduceCtorEq, ↓reduceIte, Nat.reduceAdd, Nat.reduceMul, Nat.reduceSub, Nat.reduceEqDiff, Nat.reduceLT, Nat.reduceBEq, Nat.reduceBNe, Nat.reduceLeDiff, Int.reduceLE, Int.reduceLT, Int.reduceToNat, Int.reduceEq, Int.reduceAdd, UInt8.reduceToNat, UInt32.reduceToNat, UInt64.reduceToNat, UInt8.reduceOfNat, UInt32.reduceOfNat, UInt64.reduceOfNat, Fin.isValue, Int.reduceSub, Int.reduceMul, Int.reduceNeg, Int.reduceMod, Int.reduceDiv, Int.reduceTDiv, Int.reduceTMod, Int.reduceBEq, Int.reduceBNe, Nat.reduceDiv, Nat.reducePow]
def pointC : Con := con0 fun args => match args with
  | [.one (.str s), .one (.str u)] => some (pointV s u, [])
  | _ => none
theorem pointC_ok : ConOk Tryd.prog 21 pointC := con0_ok Tryd.func21 rfl rfl fun args res ob h hob => by
  split at h
  · injection h with h; injection h with h1 h2; subst h1; subst h2; exact point_tri _ _
  · cases h
def gk7 : Nat → Option Con := fun f => match f with
  | 21 => some pointC
  | 22 => some baseC
  | _ => none
theorem gk7_ok : GaOk Tryd.prog gk7 := fun f con h => by
  unfold gk7 at h
  split at h
  · injection h with h; subst h; exact pointC_ok
  · injection h with h; subst h; exact baseC_ok
  · cases h
set_option maxRecDepth 100000 in
theorem public_tri (s : List UInt8) : Tri Tryd.prog 7 [.one (.str s)] [] (pointV s base9) [] := by
  refine tri_of (envOf_ok gk7_ok 9) Tryd.func7 rfl rfl (rs := [.tmp 2, .tmp 3]) rfl rfl (by simp [envOf]) rfl [] ?_
  by_cases hs : s.length = 32
  · have hv : pointV s base9 = .tup [.one (.str (pointS s base9)), .one (.bo true)] := if_pos ⟨hs, rfl⟩
    simp only [envOf, gk7, pointC, baseC, hv, go_sem, reduceCtorEq, ↓reduceIte, Nat.reduceAdd, Nat.reduceMul, Nat.reduceSub, Nat.reduceEqDiff, Nat.reduceLT, Nat.reduceBEq, Nat.reduceBNe, Nat.reduceLeDiff, Int.reduceLE, Int.reduceLT, Int.reduceToNat, Int.reduceEq, Int.reduceAdd, UInt8.reduceToNat, UInt32.reduceToNat, UInt64.reduceToNat, UInt8.reduceOfNat, UInt32.reduceOfNat, UInt64.reduceOfNat, Fin.isValue, Int.reduceSub, Int.reduceMul, Int.reduceNeg, Int.reduceMod, Int.reduceDiv, Int.reduceTDiv, Int.reduceTMod, Int.reduceBEq, Int.reduceBNe, Nat.reduceDiv, Nat.reducePow]
  · have hv : pointV s base9 = .tup [.one (.str []), .one (.bo false)] := if_neg fun h => hs h.1
    simp only [envOf, gk7, pointC, baseC, hv, go_sem, reduceCtorEq, ↓reduceIte, Nat.reduceAdd, Nat.reduceMul, Nat.reduceSub, Nat.reduceEqDiff, Nat.reduceLT, Nat.reduceBEq, Nat.reduceBNe, Nat.reduceLeDiff, Int.reduceLE, Int.reduceLT, Int.reduceToNat, Int.reduceEq, Int.reduceAdd, UInt8.reduceToNat, UInt32.reduceToNat, UInt64.reduceToNat, UInt8.reduceOfNat, UInt32.reduceOfNat, UInt64.reduceOfNat, Fin.isValue, Int.reduceSub, Int.reduceMul, Int.reduceNeg, Int.reduceMod, Int.reduceDiv, Int.reduceTDiv, Int.reduceTMod, Int.reduceBEq, Int.reduceBNe, Nat.reduceDiv, Nat.reducePow]
def publicC : Con := con0 fun args => match args with
  | [.one (.str s)] => some (pointV s base9, [])
  | _ => none
theorem publicC_ok : ConOk Tryd.prog 7 publicC := con0_ok Tryd.func7 rfl rfl fun args res ob h hob => by
  split at h
  · injection h with h; injection h with h1 h2; subst h1; subst h2; exact public_tri _
  · cases h
end Go.Proofs.YtahiopdkekkibaaDoor.FK

/-
  Layer 3: the bytes of a number, their value.
-/
namespace Go.Proofs.YtahiopdkekkibaaDoor.FK
open Go Go.RowKit
set_option maxHeartbeats 4000000
set_option linter.unusedSimpArgs false
set_option linter.unusedVariables false
def leN : List UInt8 → Nat
  | [] => 0
  | b :: l => b.toNat + 256 * leN l
theorem leN_append : ∀ (a b : List UInt8), leN (a ++ b) = leN a + 2 ^ (8 * a.length) * leN b
  | [], b => by simp [leN]
  | x :: a, b => by
    rw [List.cons_append, leN, leN, leN_append a b, List.length_cons, show 8 * (a.length + 1) = 8 * a.length + 8 by omega, Nat.pow_add]
    have : (2 : Nat) ^ 8 = 256 := rfl
    rw [this]
    grind
theorem shl64n {b : UInt64} {k : Nat} (hk : k < 64) (h : b.toNat * 2 ^ k < 18446744073709551616) : (shl64 b k).toNat = b.toNat * 2 ^ k := by
  unfold shl64
  rw [if_pos hk, UInt64.toNat_shiftLeft, UInt64.toNat_ofNat_of_lt' (by show k < 18446744073709551616; omega), Nat.mod_eq_of_lt hk, Nat.shiftLeft_eq]
  exact Nat.mod_eq_of_lt h
theorem shr64n {b : UInt64} {k : Nat} (hk : k < 64) : (shr64 b k).toNat = b.toNat / 2 ^ k := by
  unfold shr64
  rw [if_pos hk, UInt64.toNat_shiftRight, UInt64.toNat_ofNat_of_lt' (by show k < 18446744073709551616; omega), Nat.mod_eq_of_lt hk, Nat.shiftRight_eq_div_pow]
theorem orshl {a b : UInt64} (k : Nat) (hk : k < 64) (ha : a.toNat < 2 ^ k) (hb : b.toNat * 2 ^ k < 18446744073709551616) : (a ||| shl64 b k).toNat = a.toNat + b.toNat * 2 ^ k := by
  rw [UInt64.toNat_or, shl64n hk hb, Nat.or_comm, ← Nat.shiftLeft_eq, ← Nat.shiftLeft_add_eq_or_of_lt ha, Nat.add_comm]
theorem wordB_v (w : UInt64) : leN (wordB w) = w.toNat := by
  have h := w.toNat_lt
  have e : ∀ k, k < 64 → ((shr64 w k).toUInt8).toNat = w.toNat / 2 ^ k % 256 := fun k hk => by
    rw [UInt64.toNat_toUInt8, shr64n hk]
  simp only [wordB, leN, e 0 (by decide), e 8 (by decide), e 16 (by decide), e 24 (by decide), e 32 (by decide), e 40 (by decide), e 48 (by decide), e 56 (by decide), Nat.reducePow]
  omega
theorem or_word (a b : UInt64) (k : Nat) (hk : k < 64) (ha : a.toNat < 2 ^ k) : (a ||| shl64 b k).toNat = a.toNat + b.toNat * 2 ^ k % 18446744073709551616 := by
  have e1 : (shl64 b k).toNat = b.toNat * 2 ^ k % 18446744073709551616 := by
    unfold shl64
    rw [if_pos hk, UInt64.toNat_shiftLeft, UInt64.toNat_ofNat_of_lt' (by show k < 18446744073709551616; omega), Nat.mod_eq_of_lt hk, Nat.shiftLeft_eq]
  have e2 : b.toNat * 2 ^ k % 18446744073709551616 = (b.toNat % 2 ^ (64 - k)) * 2 ^ k := by
    have : (18446744073709551616 : Nat) = 2 ^ (64 - k) * 2 ^ k := by rw [← Nat.pow_add, Nat.sub_add_cancel (by omega)]
    rw [this, Nat.mul_mod_mul_right]
  rw [UInt64.toNat_or, e1, e2, Nat.or_comm, ← Nat.shiftLeft_eq, ← Nat.shiftLeft_add_eq_or_of_lt ha, Nat.add_comm]
theorem feB_v (t : N5) (ht : t.lt 2251799813685248) : leN (feB t) = t.w := by
  obtain ⟨h0, h1, h2, h3, h4⟩ := ht
  have b1 : (shr64 t.b 13).toNat = t.b.toNat / 8192 := shr64n (by decide)
  have b2 : (shr64 t.c 26).toNat = t.c.toNat / 67108864 := shr64n (by decide)
  have b3 : (shr64 t.d 39).toNat = t.d.toNat / 549755813888 := shr64n (by decide)
  have w0 := or_word t.a t.b 51 (by decide) (by simp only [Nat.reducePow]; omega)
  have w1 := or_word (shr64 t.b 13) t.c 38 (by decide) (by rw [b1]; simp only [Nat.reducePow]; omega)
  have w2 := or_word (shr64 t.c 26) t.d 25 (by decide) (by rw [b2]; simp only [Nat.reducePow]; omega)
  have w3 := or_word (shr64 t.d 39) t.e 12 (by decide) (by rw [b3]; simp only [Nat.reducePow]; omega)
  have l8 : ∀ w, (wordB w).length = 8 := fun _ => rfl
  unfold feB
  rw [leN_append, leN_append, leN_append, wordB_v, wordB_v, wordB_v, wordB_v, w0, w1, w2, w3, b1, b2, b3]
  simp only [List.length_append, l8, N5.w, Nat.reduceAdd, Nat.reduceMul, Nat.reducePow]
  generalize t.a.toNat = a at *
  generalize t.b.toNat = b at *
  generalize t.c.toNat = c at *
  generalize t.d.toNat = d at *
  generalize t.e.toNat = e at *
  clear w0 w1 w2 w3 b1 b2 b3
  omega
theorem bytesF_v (x : N5) : leN (bytesF x) = x.w % p25519 := by
  obtain ⟨h1, h2⟩ := fsmall_spec x
  unfold bytesF
  rw [feB_v _ h2, h1]
end Go.Proofs.YtahiopdkekkibaaDoor.FK

/-
  Layer 4: the laws that ask no document's ladder.
-/
namespace Go.Proofs.YtahiopdkekkibaaDoor.FK
open Go Go.RowKit
set_option maxHeartbeats 4000000
set_option linter.unusedSimpArgs false
set_option linter.unusedVariables false
theorem take_st (l : List UInt8) (i : Nat) (h : i < l.length) : l.take (i + 1) = l.take i ++ [l.getD i 0] := by
  rw [List.take_add_one, List.getD_eq_getElem?_getD, List.getElem?_eq_getElem h]; rfl
theorem split8b (s : List UInt8) (h : s.length = 8) : s = [s.getD 0 0, s.getD 1 0, s.getD 2 0, s.getD 3 0, s.getD 4 0, s.getD 5 0, s.getD 6 0, s.getD 7 0] := by
  have e : s.take 8 = s := List.take_of_length_le (by omega)
  rw [take_st s 7 (by omega), take_st s 6 (by omega), take_st s 5 (by omega), take_st s 4 (by omega), take_st s 3 (by omega), take_st s 2 (by omega), take_st s 1 (by omega), take_st s 0 (by omega)] at e
  exact e.symm
theorem b64 (x : UInt8) : x.toUInt64.toNat = x.toNat := UInt8.toNat_toUInt64 x
theorem w64_v (s : List UInt8) (h : s.length = 8) : (w64 s).toNat = leN s := by
  have e := split8b s h
  unfold w64
  generalize s.getD 0 0 = a at *
  generalize s.getD 1 0 = b at *
  generalize s.getD 2 0 = c at *
  generalize s.getD 3 0 = d at *
  generalize s.getD 4 0 = f at *
  generalize s.getD 5 0 = g at *
  generalize s.getD 6 0 = i at *
  generalize s.getD 7 0 = j at *
  subst e
  have ha := a.toNat_lt
  have hb := b.toNat_lt
  have hc := c.toNat_lt
  have hd := d.toNat_lt
  have hf := f.toNat_lt
  have hg := g.toNat_lt
  have hi := i.toNat_lt
  have hj := j.toNat_lt
  have z : (0 : UInt64).toNat = 0 := rfl
  have q0 := orshl (a := 0) (b := a.toUInt64) 0 (by decide) (by decide) (by rw [b64]; omega)
  rw [z, b64] at q0
  have q1 := orshl (a := 0 ||| shl64 a.toUInt64 0) (b := b.toUInt64) 8 (by decide) (by rw [q0]; omega) (by rw [b64]; omega)
  rw [q0, b64] at q1
  have q2 := orshl (b := c.toUInt64) 16 (by decide) (by rw [q1]; omega) (by rw [b64]; omega)
  rw [q1, b64] at q2
  have q3 := orshl (b := d.toUInt64) 24 (by decide) (by rw [q2]; omega) (by rw [b64]; omega)
  rw [q2, b64] at q3
  have q4 := orshl (b := f.toUInt64) 32 (by decide) (by rw [q3]; omega) (by rw [b64]; omega)
  rw [q3, b64] at q4
  have q5 := orshl (b := g.toUInt64) 40 (by decide) (by rw [q4]; omega) (by rw [b64]; omega)
  rw [q4, b64] at q5
  have q6 := orshl (b := i.toUInt64) 48 (by decide) (by rw [q5]; omega) (by rw [b64]; omega)
  rw [q5, b64] at q6
  have q7 := orshl (b := j.toUInt64) 56 (by decide) (by rw [q6]; omega) (by rw [b64]; omega)
  rw [q6, b64] at q7
  rw [q7]
  simp only [leN]
  omega
theorem parts_v (W0 W1 W2 W3 : Nat) (h0 : W0 < 18446744073709551616) (h1 : W1 < 18446744073709551616) (h2 : W2 < 18446744073709551616) (h3 : W3 < 18446744073709551616) :
    W0 % 2251799813685248 + (W0 / 2251799813685248 + W1 * 8192 % 18446744073709551616) % 2251799813685248 * 2251799813685248 + (W1 / 274877906944 + W2 * 67108864 % 18446744073709551616) % 2251799813685248 * 5070602400912917605986812821504 + (W2 / 33554432 + W3 * 549755813888 % 18446744073709551616) % 2251799813685248 * 11417981541647679048466287755595961091061972992 + W3 / 4096 % 2251799813685248 * 25711008708143844408671393477458601640355247900524685364822016
    = (W0 + 18446744073709551616 * (W1 + 18446744073709551616 * (W2 + 18446744073709551616 * W3))) % 57896044618658097711785492504343953926634992332820282019728792003956564819968 := by
  omega
theorem ofN_w (s : List UInt8) (h : s.length = 32) : (ofN s).w = leN s % 57896044618658097711785492504343953926634992332820282019728792003956564819968 := by
  have e8 : ∀ k, k ≤ 24 → ((s.drop k).take 8).length = 8 := fun k hk => by rw [List.length_take, List.length_drop]; omega
  have v0 := w64_v _ (e8 0 (by omega))
  have v1 := w64_v _ (e8 8 (by omega))
  have v2 := w64_v _ (e8 16 (by omega))
  have v3 := w64_v _ (e8 24 (by omega))
  have hs : leN s = leN ((s.drop 0).take 8) + 18446744073709551616 * (leN ((s.drop 8).take 8) + 18446744073709551616 * (leN ((s.drop 16).take 8) + 18446744073709551616 * leN ((s.drop 24).take 8))) := by
    have step : ∀ l : List UInt8, 8 ≤ l.length → leN l = leN (l.take 8) + 18446744073709551616 * leN (l.drop 8) := fun l hl => by
      conv => lhs; rw [← List.take_append_drop 8 l]
      rw [leN_append, List.length_take, Nat.min_eq_left hl]
    rw [List.drop_zero, step s (by omega), step (s.drop 8) (by rw [List.length_drop]; omega), List.drop_drop, step (s.drop 16) (by rw [List.length_drop]; omega), List.drop_drop, List.take_of_length_le (i := 8) (l := s.drop 24) (by rw [List.length_drop]; omega)]
  rw [hs, ← v0, ← v1, ← v2, ← v3]
  have l0 := (w64 ((s.drop 0).take 8)).toNat_lt
  have l1 := (w64 ((s.drop 8).take 8)).toNat_lt
  have l2 := (w64 ((s.drop 16).take 8)).toNat_lt
  have l3 := (w64 ((s.drop 24).take 8)).toNat_lt
  unfold ofN
  simp only [N5.w]
  clear v0 v1 v2 v3 hs e8
  generalize w64 ((s.drop 0).take 8) = w0 at *
  generalize w64 ((s.drop 8).take 8) = w1 at *
  generalize w64 ((s.drop 16).take 8) = w2 at *
  generalize w64 ((s.drop 24).take 8) = w3 at *
  have b0 : (shr64 w0 51).toNat = w0.toNat / 2251799813685248 := shr64n (by decide)
  have b1 : (shr64 w1 38).toNat = w1.toNat / 274877906944 := shr64n (by decide)
  have b2 : (shr64 w2 25).toNat = w2.toNat / 33554432 := shr64n (by decide)
  have b3 : (shr64 w3 12).toNat = w3.toNat / 4096 := shr64n (by decide)
  have o0 := or_word (shr64 w0 51) w1 13 (by decide) (by rw [b0]; simp only [Nat.reducePow]; omega)
  have o1 := or_word (shr64 w1 38) w2 26 (by decide) (by rw [b1]; simp only [Nat.reducePow]; omega)
  have o2 := or_word (shr64 w2 25) w3 39 (by decide) (by rw [b2]; simp only [Nat.reducePow]; omega)
  rw [b0] at o0
  rw [b1] at o1
  rw [b2] at o2
  simp only [Nat.reducePow] at o0 o1 o2
  rw [and51, and51, and51, and51, and51, o0, o1, o2, b3]
  exact parts_v _ _ _ _ l0 l1 l2 l3
theorem fv_of (s : List UInt8) (h : s.length = 32) : fv (ofN s) = Fin.ofNat p25519 (leN s % 57896044618658097711785492504343953926634992332820282019728792003956564819968) := by
  unfold fv; rw [ofN_w s h]
theorem split32 (s : List UInt8) (h : s.length = 32) : ∃ x m y, s = x :: (m ++ [y]) ∧ m.length = 30 := by
  match s, h with
  | x :: l, h =>
    have hl : l.length = 31 := by simpa using h
    have e := take_st l 30 (by omega)
    rw [List.take_of_length_le (by omega)] at e
    refine ⟨x, l.take 30, l.getD 30 0, ?_, by rw [List.length_take]; omega⟩
    rw [← e]
theorem getD_mid (x : UInt8) (m : List UInt8) (y : UInt8) (h : m.length = 30) : (x :: (m ++ [y])).getD 31 0 = y := by
  rw [List.getD_cons_succ, List.getD_eq_getElem?_getD, List.getElem?_append_right (by omega), h]; rfl
theorem set_mid (x : UInt8) (m : List UInt8) (y z : UInt8) (h : m.length = 30) : (x :: (m ++ [y])).set 31 z = x :: (m ++ [z]) := by
  rw [List.set_cons_succ, List.set_append_right _ _ (by omega), h]; rfl
theorem clampK_mid (x : UInt8) (m : List UInt8) (y : UInt8) (h : m.length = 30) : clampK (x :: (m ++ [y])) = (x &&& 248) :: (m ++ [(y &&& 127) ||| 64]) := by
  unfold clampK
  rw [List.set_cons_zero, List.getD_cons_zero, getD_mid _ _ _ h, set_mid _ _ _ _ h]
theorem kbit0 (s : List UInt8) (h : s.length = 32) : kbit (clampK s) 0 = false ∧ kbit (clampK s) 1 = false := by
  obtain ⟨x, m, y, rfl, hm⟩ := split32 s h
  rw [clampK_mid _ _ _ hm]
  have h0 : ∀ n : Fin 256, (shr8 (UInt8.ofNat n.val &&& 248) 0 &&& 1 == 1) = false ∧ (shr8 (UInt8.ofNat n.val &&& 248) 1 &&& 1 == 1) = false := by decide +kernel
  have := h0 ⟨x.toNat, x.toNat_lt⟩
  simp only [UInt8.ofNat_toNat] at this
  exact this
theorem pointS_len (s u : List UInt8) : (pointS s u).length = 32 := rfl
end Go.Proofs.YtahiopdkekkibaaDoor.FK

/-
  Layer 5: contracts of the small functions.
-/
namespace Go.Proofs.YtahiopdkekkibaaDoor.FC
open Go Go.RowKit
set_option linter.unusedSimpArgs false
set_option linter.unusedVariables false

def leAt (l : List UInt8) (i : Nat) : UInt32 := (l.getD i 0).toUInt32 ||| shl32 (l.getD (i + 1) 0).toUInt32 8 ||| shl32 (l.getD (i + 2) 0).toUInt32 16 ||| shl32 (l.getD (i + 3) 0).toUInt32 24
def ga0 : Nat → Option Con := fun _ => none
theorem ga0_ok : GaOk Tryd.prog ga0 := fun f con h => by cases h
noncomputable def envOf (ga : Nat → Option Con) (nt : Nat) : Env := ⟨ty, ga, [], nt, [], []⟩
theorem envOf_ok {ga : Nat → Option Con} (h : GaOk Tryd.prog ga) (nt : Nat) : EnvOk Tryd.prog (envOf ga nt) := ⟨ty_ok, h, by first | rfl | decide⟩
theorem word_tri (s : List UInt8) (h : s.length = 4) : Tri Tryd.prog 92 [.one (.str s)] [] (.c (.one (.u32 (leAt s 0)))) [] := by
  refine tri_of (envOf_ok ga0_ok 21) Tryd.func92 rfl rfl (rs := [.tmp 2]) rfl rfl (by simp [envOf]) rfl [] ?_
  simp only [envOf, go_sem, reduceCtorEq, ↓reduceIte, Nat.reduceAdd, Nat.reduceMul, Nat.reduceSub, Nat.reduceEqDiff, Nat.reduceLT, Nat.reduceBEq, Nat.reduceBNe, Nat.reduceLeDiff, Int.reduceLE, Int.reduceLT, Int.reduceToNat, Int.reduceEq, Int.reduceAdd, UInt8.reduceToNat, UInt32.reduceToNat, UInt64.reduceToNat, UInt8.reduceOfNat, UInt32.reduceOfNat, UInt64.reduceOfNat, Fin.isValue, Int.reduceSub, Int.reduceMul, Int.reduceNeg, Int.reduceMod, Int.reduceDiv, Int.reduceTDiv, Int.reduceTMod, Int.reduceBEq, Int.reduceBNe, Nat.reduceDiv, Nat.reducePow]
  refine ⟨by omega, by omega, by omega, by omega, rfl, ?_⟩
  rfl
def wordC : Con := con0 fun args => match args with
  | [.one (.str s)] => some (.c (.one (.u32 (leAt s 0))), [s.length = 4])
  | _ => none
theorem wordC_ok : ConOk Tryd.prog 92 wordC := con0_ok Tryd.func92 rfl rfl fun args res ob h hob => by
  split at h
  · injection h with h; injection h with h1 h2; subst h1; subst h2; exact word_tri _ hob.1
  · cases h
def rot32 (x : UInt32) (k : Int) : UInt32 := shl32 x (by64 k &&& 31).toNat ||| shr32 x (32 - (by64 k &&& 31)).toNat
theorem rot_tri (x : UInt32) (k : Int) : Tri Tryd.prog 110 [.one (.u32 x), .one (.num k)] [] (.c (.one (.u32 (rot32 x k)))) [] := by
  refine tri_of (envOf_ok ga0_ok 17) Tryd.func110 rfl rfl (rs := [.tmp 4]) rfl rfl (by simp [envOf]) rfl [] ?_
  simp only [envOf, go_sem, reduceCtorEq, ↓reduceIte, Nat.reduceAdd, Nat.reduceMul, Nat.reduceSub, Nat.reduceEqDiff, Nat.reduceLT, Nat.reduceBEq, Nat.reduceBNe, Nat.reduceLeDiff, Int.reduceLE, Int.reduceLT, Int.reduceToNat, Int.reduceEq, Int.reduceAdd, UInt8.reduceToNat, UInt32.reduceToNat, UInt64.reduceToNat, UInt8.reduceOfNat, UInt32.reduceOfNat, UInt64.reduceOfNat, Fin.isValue, Int.reduceSub, Int.reduceMul, Int.reduceNeg, Int.reduceMod, Int.reduceDiv, Int.reduceTDiv, Int.reduceTMod, Int.reduceBEq, Int.reduceBNe, Nat.reduceDiv, Nat.reducePow]
  rfl
def rotC : Con := con0 fun args => match args with
  | [.one (.u32 x), .one (.num k)] => some (.c (.one (.u32 (rot32 x k))), [])
  | _ => none
theorem rotC_ok : ConOk Tryd.prog 110 rotC := con0_ok Tryd.func110 rfl rfl fun args res ob h hob => by
  split at h
  · injection h with h; injection h with h1 h2; subst h1; subst h2; exact rot_tri _ _
  · cases h
def ga1 : Nat → Option Con := fun f => match f with
  | 110 => some rotC
  | _ => none
theorem ga1_ok : GaOk Tryd.prog ga1 := fun f con h => by
  unfold ga1 at h
  split at h
  · injection h with h; subst h; exact rotC_ok
  · cases h
def qr (a b c d : UInt32) : UInt32 × UInt32 × UInt32 × UInt32 :=
  let a1 := a + b
  let d1 := rot32 (d ^^^ a1) 16
  let c1 := c + d1
  let b1 := rot32 (b ^^^ c1) 12
  let a2 := a1 + b1
  let d2 := rot32 (d1 ^^^ a2) 8
  let c2 := c1 + d2
  let b2 := rot32 (b1 ^^^ c2) 7
  (a2, b2, c2, d2)
set_option maxRecDepth 100000 in
theorem quarter_tri (a b c d : UInt32) : Tri Tryd.prog 93 [.one (.u32 a), .one (.u32 b), .one (.u32 c), .one (.u32 d)] [] (.tup [.one (.u32 (qr a b c d).1), .one (.u32 (qr a b c d).2.1), .one (.u32 (qr a b c d).2.2.1), .one (.u32 (qr a b c d).2.2.2)]) [] := by
  refine tri_of (envOf_ok ga1_ok 44) Tryd.func93 rfl rfl (rs := [.tmp 8, .tmp 9, .tmp 10, .tmp 11]) rfl rfl (by simp [envOf]) rfl [] ?_
  simp only [envOf, ga1, rotC, go_sem, reduceCtorEq, ↓reduceIte, Nat.reduceAdd, Nat.reduceMul, Nat.reduceSub, Nat.reduceEqDiff, Nat.reduceLT, Nat.reduceBEq, Nat.reduceBNe, Nat.reduceLeDiff, Int.reduceLE, Int.reduceLT, Int.reduceToNat, Int.reduceEq, Int.reduceAdd, UInt8.reduceToNat, UInt32.reduceToNat, UInt64.reduceToNat, UInt8.reduceOfNat, UInt32.reduceOfNat, UInt64.reduceOfNat, Fin.isValue, Int.reduceSub, Int.reduceMul, Int.reduceNeg, Int.reduceMod, Int.reduceDiv, Int.reduceTDiv, Int.reduceTMod, Int.reduceBEq, Int.reduceBNe, Nat.reduceDiv, Nat.reducePow]
  exact ⟨rfl, rfl, rfl, rfl⟩
def quarterC : Con := con0 fun args => match args with
  | [.one (.u32 a), .one (.u32 b), .one (.u32 c), .one (.u32 d)] => some (.tup [.one (.u32 (qr a b c d).1), .one (.u32 (qr a b c d).2.1), .one (.u32 (qr a b c d).2.2.1), .one (.u32 (qr a b c d).2.2.2)], [])
  | _ => none
theorem quarterC_ok : ConOk Tryd.prog 93 quarterC := con0_ok Tryd.func93 rfl rfl fun args res ob h hob => by
  split at h
  · injection h with h; injection h with h1 h2; subst h1; subst h2; exact quarter_tri _ _ _ _
  · cases h
def rightB (k n : List UInt8) : Bool := ((k.length : Int) == 32) && ((n.length : Int) == 12)
theorem rightB_iff (k n : List UInt8) : rightB k n = true ↔ k.length = 32 ∧ n.length = 12 := by
  simp only [rightB, Bool.and_eq_true, beq_iff_eq]
  omega
theorem right_tri (k n : List UInt8) : Tri Tryd.prog 67 [.one (.str k), .one (.str n)] [] (.c (.one (.bo (rightB k n)))) [] := by
  refine tri_of (envOf_ok ga0_ok 13) Tryd.func67 rfl rfl (rs := [.tmp 4]) rfl rfl (by simp [envOf]) rfl [] ?_
  simp only [envOf, go_sem, reduceCtorEq, ↓reduceIte, Nat.reduceAdd, Nat.reduceMul, Nat.reduceSub, Nat.reduceEqDiff, Nat.reduceLT, Nat.reduceBEq, Nat.reduceBNe, Nat.reduceLeDiff, Int.reduceLE, Int.reduceLT, Int.reduceToNat, Int.reduceEq, Int.reduceAdd, UInt8.reduceToNat, UInt32.reduceToNat, UInt64.reduceToNat, UInt8.reduceOfNat, UInt32.reduceOfNat, UInt64.reduceOfNat, Fin.isValue, Int.reduceSub, Int.reduceMul, Int.reduceNeg, Int.reduceMod, Int.reduceDiv, Int.reduceTDiv, Int.reduceTMod, Int.reduceBEq, Int.reduceBNe, Nat.reduceDiv, Nat.reducePow]
  refine br (fun h => ?_) fun h => ?_ <;> simp only [h, rightB, go_sem, reduceCtorEq, ↓reduceIte, Nat.reduceAdd, Nat.reduceMul, Nat.reduceSub, Nat.reduceEqDiff, Nat.reduceLT, Nat.reduceBEq, Nat.reduceBNe, Nat.reduceLeDiff, Int.reduceLE, Int.reduceLT, Int.reduceToNat, Int.reduceEq, Int.reduceAdd, UInt8.reduceToNat, UInt32.reduceToNat, UInt64.reduceToNat, UInt8.reduceOfNat, UInt32.reduceOfNat, UInt64.reduceOfNat, Fin.isValue, Int.reduceSub, Int.reduceMul, Int.reduceNeg, Int.reduceMod, Int.reduceDiv, Int.reduceTDiv, Int.reduceTMod, Int.reduceBEq, Int.reduceBNe, Nat.reduceDiv, Nat.reducePow]
def rightC : Con := con0 fun args => match args with
  | [.one (.str k), .one (.str n)] => some (.c (.one (.bo (rightB k n))), [])
  | _ => none
theorem rightC_ok : ConOk Tryd.prog 67 rightC := con0_ok Tryd.func67 rfl rfl fun args res ob h hob => by
  split at h
  · injection h with h; injection h with h1 h2; subst h1; subst h2; exact right_tri _ _
  · cases h
end Go.Proofs.YtahiopdkekkibaaDoor.FC

/-
  Layer 6: numbers of five parts; what the program's small functions make of them.
-/
namespace Go.Proofs.YtahiopdkekkibaaDoor.FC
open Go Go.RowKit
set_option maxHeartbeats 4000000
set_option linter.unusedSimpArgs false
set_option linter.unusedVariables false
@[ext] structure N5 where
  (a b c d e : UInt64)
deriving DecidableEq
def N5.l (x : N5) : List UInt64 := [x.a, x.b, x.c, x.d, x.e]
def N5.cv (x : N5) : CV := .agg [.u64 x.a, .u64 x.b, .u64 x.c, .u64 x.d, .u64 x.e]
theorem N5.eta (x : N5) : N5.mk x.a x.b x.c x.d x.e = x := rfl
def pcarry (x : N5) : N5 :=
  let b1 := x.b + shr64 x.a 26
  let c1 := x.c + shr64 b1 26
  let d1 := x.d + shr64 c1 26
  let e1 := x.e + shr64 d1 26
  ⟨(x.a &&& 67108863) + 5 * shr64 e1 26, b1 &&& 67108863, c1 &&& 67108863, d1 &&& 67108863, e1 &&& 67108863⟩
set_option maxRecDepth 100000 in
theorem pcarry_tri (x : N5) : Tri Tryd.prog 111 [x.cv] [] (.c (pcarry x).cv) [] := by
  refine tri_of (envOf_ok ga0_ok 36) Tryd.func111 rfl rfl (rs := [.cell 2 132]) rfl rfl (by simp [envOf]) rfl [] ?_
  simp only [envOf, ga0, N5.cv, go_sem, reduceCtorEq, ↓reduceIte, Nat.reduceAdd, Nat.reduceMul, Nat.reduceSub, Nat.reduceEqDiff, Nat.reduceLT, Nat.reduceBEq, Nat.reduceBNe, Nat.reduceLeDiff, Int.reduceLE, Int.reduceLT, Int.reduceToNat, Int.reduceEq, Int.reduceAdd, UInt8.reduceToNat, UInt32.reduceToNat, UInt64.reduceToNat, UInt8.reduceOfNat, UInt32.reduceOfNat, UInt64.reduceOfNat, Fin.isValue, Int.reduceSub, Int.reduceMul, Int.reduceNeg, Int.reduceMod, Int.reduceDiv, Int.reduceTDiv, Int.reduceTMod, Int.reduceBEq, Int.reduceBNe, Nat.reduceDiv, Nat.reducePow]
  refine loop_rounds (envOf_ok ga0_ok 36) 5 ?_
  simp only [ga0, go_sem, reduceCtorEq, ↓reduceIte, Nat.reduceAdd, Nat.reduceMul, Nat.reduceSub, Nat.reduceEqDiff, Nat.reduceLT, Nat.reduceBEq, Nat.reduceBNe, Nat.reduceLeDiff, Int.reduceLE, Int.reduceLT, Int.reduceToNat, Int.reduceEq, Int.reduceAdd, UInt8.reduceToNat, UInt32.reduceToNat, UInt64.reduceToNat, UInt8.reduceOfNat, UInt32.reduceOfNat, UInt64.reduceOfNat, Fin.isValue, Int.reduceSub, Int.reduceMul, Int.reduceNeg, Int.reduceMod, Int.reduceDiv, Int.reduceTDiv, Int.reduceTMod, Int.reduceBEq, Int.reduceBNe, Nat.reduceDiv, Nat.reducePow]
  repeat' apply And.intro
  all_goals rfl
def pcarryC : Con := con0 fun args => match args with
  | [.agg [.u64 a, .u64 b, .u64 c, .u64 d, .u64 e]] => some (.c (pcarry ⟨a, b, c, d, e⟩).cv, [])
  | _ => none
theorem pcarryC_ok : ConOk Tryd.prog 111 pcarryC := con0_ok Tryd.func111 rfl rfl fun args res ob h hob => by
  split at h
  · injection h with h; injection h with h1 h2; subst h1; subst h2; exact pcarry_tri ⟨_, _, _, _, _⟩
  · cases h
def gp1 : Nat → Option Con := fun f => match f with
  | 111 => some pcarryC
  | _ => none
theorem gp1_ok : GaOk Tryd.prog gp1 := fun f con h => by
  unfold gp1 at h
  split at h
  · injection h with h; subst h; exact pcarryC_ok
  · cases h
def pplus (x y : N5) : N5 := pcarry ⟨x.a + y.a, x.b + y.b, x.c + y.c, x.d + y.d, x.e + y.e⟩
set_option maxRecDepth 100000 in
theorem pplus_tri (x y : N5) : Tri Tryd.prog 96 [x.cv, y.cv] [] (.c (pplus x y).cv) [] := by
  refine tri_of (envOf_ok gp1_ok 20) Tryd.func96 rfl rfl (rs := [.cell 4 132]) rfl rfl (by simp [envOf]) rfl [] ?_
  simp only [envOf, gp1, pcarryC, N5.cv, go_sem, reduceCtorEq, ↓reduceIte, Nat.reduceAdd, Nat.reduceMul, Nat.reduceSub, Nat.reduceEqDiff, Nat.reduceLT, Nat.reduceBEq, Nat.reduceBNe, Nat.reduceLeDiff, Int.reduceLE, Int.reduceLT, Int.reduceToNat, Int.reduceEq, Int.reduceAdd, UInt8.reduceToNat, UInt32.reduceToNat, UInt64.reduceToNat, UInt8.reduceOfNat, UInt32.reduceOfNat, UInt64.reduceOfNat, Fin.isValue, Int.reduceSub, Int.reduceMul, Int.reduceNeg, Int.reduceMod, Int.reduceDiv, Int.reduceTDiv, Int.reduceTMod, Int.reduceBEq, Int.reduceBNe, Nat.reduceDiv, Nat.reducePow]
  refine loop_rounds (envOf_ok gp1_ok 20) 6 ?_
  simp only [gp1, pcarryC, N5.cv, pplus, go_sem, reduceCtorEq, ↓reduceIte, Nat.reduceAdd, Nat.reduceMul, Nat.reduceSub, Nat.reduceEqDiff, Nat.reduceLT, Nat.reduceBEq, Nat.reduceBNe, Nat.reduceLeDiff, Int.reduceLE, Int.reduceLT, Int.reduceToNat, Int.reduceEq, Int.reduceAdd, UInt8.reduceToNat, UInt32.reduceToNat, UInt64.reduceToNat, UInt8.reduceOfNat, UInt32.reduceOfNat, UInt64.reduceOfNat, Fin.isValue, Int.reduceSub, Int.reduceMul, Int.reduceNeg, Int.reduceMod, Int.reduceDiv, Int.reduceTDiv, Int.reduceTMod, Int.reduceBEq, Int.reduceBNe, Nat.reduceDiv, Nat.reducePow]
  all_goals rfl
def pplusC : Con := con0 fun args => match args with
  | [.agg [.u64 a, .u64 b, .u64 c, .u64 d, .u64 e], .agg [.u64 a', .u64 b', .u64 c', .u64 d', .u64 e']] => some (.c (pplus ⟨a, b, c, d, e⟩ ⟨a', b', c', d', e'⟩).cv, [])
  | _ => none
theorem pplusC_ok : ConOk Tryd.prog 96 pplusC := con0_ok Tryd.func96 rfl rfl fun args res ob h hob => by
  split at h
  · injection h with h; injection h with h1 h2; subst h1; subst h2; exact pplus_tri ⟨_, _, _, _, _⟩ ⟨_, _, _, _, _⟩
  · cases h
def praw (x y : N5) : N5 := ⟨
  0 + x.a * y.a + x.b * y.e * 5 + x.c * y.d * 5 + x.d * y.c * 5 + x.e * y.b * 5,
  0 + x.a * y.b + x.b * y.a + x.c * y.e * 5 + x.d * y.d * 5 + x.e * y.c * 5,
  0 + x.a * y.c + x.b * y.b + x.c * y.a + x.d * y.e * 5 + x.e * y.d * 5,
  0 + x.a * y.d + x.b * y.c + x.c * y.b + x.d * y.a + x.e * y.e * 5,
  0 + x.a * y.e + x.b * y.d + x.c * y.c + x.d * y.b + x.e * y.a⟩
def ptimes (x y : N5) : N5 := pcarry (pcarry (praw x y))
set_option maxRecDepth 100000 in
set_option maxHeartbeats 4000000 in
theorem ptimes_tri (x y : N5) : Tri Tryd.prog 95 [x.cv, y.cv] [] (.c (ptimes x y).cv) [] := by
  refine tri_of (envOf_ok gp1_ok 53) Tryd.func95 rfl rfl (rs := [.cell 4 132]) rfl rfl (by simp [envOf]) rfl [] ?_
  simp only [envOf, gp1, pcarryC, N5.cv, go_sem, reduceCtorEq, ↓reduceIte, Nat.reduceAdd, Nat.reduceMul, Nat.reduceSub, Nat.reduceEqDiff, Nat.reduceLT, Nat.reduceBEq, Nat.reduceBNe, Nat.reduceLeDiff, Int.reduceLE, Int.reduceLT, Int.reduceToNat, Int.reduceEq, Int.reduceAdd, UInt8.reduceToNat, UInt32.reduceToNat, UInt64.reduceToNat, UInt8.reduceOfNat, UInt32.reduceOfNat, UInt64.reduceOfNat, Fin.isValue, Int.reduceSub, Int.reduceMul, Int.reduceNeg, Int.reduceMod, Int.reduceDiv, Int.reduceTDiv, Int.reduceTMod, Int.reduceBEq, Int.reduceBNe, Nat.reduceDiv, Nat.reducePow]
  refine loop_rounds (envOf_ok gp1_ok 53) 6 ?_
  simp only [gp1, pcarryC, N5.cv, go_sem, reduceCtorEq, ↓reduceIte, Nat.reduceAdd, Nat.reduceMul, Nat.reduceSub, Nat.reduceEqDiff, Nat.reduceLT, Nat.reduceBEq, Nat.reduceBNe, Nat.reduceLeDiff, Int.reduceLE, Int.reduceLT, Int.reduceToNat, Int.reduceEq, Int.reduceAdd, UInt8.reduceToNat, UInt32.reduceToNat, UInt64.reduceToNat, UInt8.reduceOfNat, UInt32.reduceOfNat, UInt64.reduceOfNat, Fin.isValue, Int.reduceSub, Int.reduceMul, Int.reduceNeg, Int.reduceMod, Int.reduceDiv, Int.reduceTDiv, Int.reduceTMod, Int.reduceBEq, Int.reduceBNe, Nat.reduceDiv, Nat.reducePow]
  iterate 5
    refine loop_rounds (envOf_ok gp1_ok 53) 6 ?_
    simp only [gp1, pcarryC, N5.cv, N5.eta, go_sem, reduceCtorEq, ↓reduceIte, Nat.reduceAdd, Nat.reduceMul, Nat.reduceSub, Nat.reduceEqDiff, Nat.reduceLT, Nat.reduceBEq, Nat.reduceBNe, Nat.reduceLeDiff, Int.reduceLE, Int.reduceLT, Int.reduceToNat, Int.reduceEq, Int.reduceAdd, UInt8.reduceToNat, UInt32.reduceToNat, UInt64.reduceToNat, UInt8.reduceOfNat, UInt32.reduceOfNat, UInt64.reduceOfNat, Fin.isValue, Int.reduceSub, Int.reduceMul, Int.reduceNeg, Int.reduceMod, Int.reduceDiv, Int.reduceTDiv, Int.reduceTMod, Int.reduceBEq, Int.reduceBNe, Nat.reduceDiv, Nat.reducePow]
    repeat' apply And.intro
    all_goals try rfl
def ptimesC : Con := con0 fun args => match args with
  | [.agg [.u64 a, .u64 b, .u64 c, .u64 d, .u64 e], .agg [.u64 a', .u64 b', .u64 c', .u64 d', .u64 e']] => some (.c (ptimes ⟨a, b, c, d, e⟩ ⟨a', b', c', d', e'⟩).cv, [])
  | _ => none
theorem ptimesC_ok : ConOk Tryd.prog 95 ptimesC := con0_ok Tryd.func95 rfl rfl fun args res ob h hob => by
  split at h
  · injection h with h; injection h with h1 h2; subst h1; subst h2; exact ptimes_tri ⟨_, _, _, _, _⟩ ⟨_, _, _, _, _⟩
  · cases h
end Go.Proofs.YtahiopdkekkibaaDoor.FC

/-
  Layer 6: the least number, parts of bytes, and their sum with bytes.
-/
namespace Go.Proofs.YtahiopdkekkibaaDoor.FC
open Go Go.RowKit
set_option maxHeartbeats 4000000
set_option linter.unusedSimpArgs false
set_option linter.unusedVariables false
/-- Numbers of 64 bits in a row. -/
def u64L : Lay UInt64 where
  st := 1
  enc x := [.u64 x]
  d := 0
  up x j ys := match ys with
    | [.u64 y] => if j = 0 then some y else none
    | _ => none
  toB := none
  ofB := none
  len _ := rfl
  put x j ys y h := by
    split at h
    · split at h
      · rename_i h0; injection h with h; subst h; subst h0; simp
      · cases h
    · cases h
  plain x v h := by simp at h; subst h; trivial
  bare x v h := by simp at h; subst h; trivial
  toB_ok f h x := by cases h
  ofB_ok f h x := by cases h
theorem u64L_st : u64L.st = 1 := rfl
theorem u64L_d : u64L.d = 0 := rfl
theorem u64L_enc (x : UInt64) : u64L.enc x = [.u64 x] := rfl
theorem u64L_up (x y : UInt64) : u64L.up x 0 [.u64 y] = some y := rfl
theorem split5 (l : List UInt64) (h : l.length = 5) : ∃ a b c d e, l = [a, b, c, d, e] := by
  match l, h with
  | [a, b, c, d, e], _ => exact ⟨_, _, _, _, _, rfl⟩
def pless (y : N5) : N5 :=
  let a0 := y.a + 5
  let b1 := y.b + shr64 a0 26
  let c1 := y.c + shr64 b1 26
  let d1 := y.d + shr64 c1 26
  let e1 := y.e + shr64 d1 26
  ⟨a0 &&& 67108863, b1 &&& 67108863, c1 &&& 67108863, d1 &&& 67108863, e1⟩
def psmall (x : N5) : N5 :=
  let y := pcarry (pcarry x)
  let z := pless y
  if (shr64 z.e 26 == 0) = true then y else ⟨z.a, z.b, z.c, z.d, z.e &&& 67108863⟩
set_option maxRecDepth 100000 in
theorem psmall_tri (x : N5) : Tri Tryd.prog 99 [x.cv] [] (.c (psmall x).cv) [] := by
  refine tri_of (envOf_ok gp1_ok 42) Tryd.func99 rfl rfl (rs := [.cell 2 132]) rfl rfl (by simp [envOf]) rfl [] ?_
  simp only [envOf, gp1, pcarryC, N5.cv, N5.eta, go_sem, reduceCtorEq, ↓reduceIte, Nat.reduceAdd, Nat.reduceMul, Nat.reduceSub, Nat.reduceEqDiff, Nat.reduceLT, Nat.reduceBEq, Nat.reduceBNe, Nat.reduceLeDiff, Int.reduceLE, Int.reduceLT, Int.reduceToNat, Int.reduceEq, Int.reduceAdd, UInt8.reduceToNat, UInt32.reduceToNat, UInt64.reduceToNat, UInt8.reduceOfNat, UInt32.reduceOfNat, UInt64.reduceOfNat, Fin.isValue, Int.reduceSub, Int.reduceMul, Int.reduceNeg, Int.reduceMod, Int.reduceDiv, Int.reduceTDiv, Int.reduceTMod, Int.reduceBEq, Int.reduceBNe, Nat.reduceDiv, Nat.reducePow]
  refine loop_rounds (envOf_ok gp1_ok 42) 5 ?_
  simp only [gp1, pcarryC, N5.cv, N5.eta, go_sem, reduceCtorEq, ↓reduceIte, Nat.reduceAdd, Nat.reduceMul, Nat.reduceSub, Nat.reduceEqDiff, Nat.reduceLT, Nat.reduceBEq, Nat.reduceBNe, Nat.reduceLeDiff, Int.reduceLE, Int.reduceLT, Int.reduceToNat, Int.reduceEq, Int.reduceAdd, UInt8.reduceToNat, UInt32.reduceToNat, UInt64.reduceToNat, UInt8.reduceOfNat, UInt32.reduceOfNat, UInt64.reduceOfNat, Fin.isValue, Int.reduceSub, Int.reduceMul, Int.reduceNeg, Int.reduceMod, Int.reduceDiv, Int.reduceTDiv, Int.reduceTMod, Int.reduceBEq, Int.reduceBNe, Nat.reduceDiv, Nat.reducePow]
  cases h : (shr64 (pless (pcarry (pcarry x))).e 26 == 0) with
  | true =>
    have e : psmall x = pcarry (pcarry x) := by simp only [psmall, h]; rfl
    refine ⟨rfl, rfl, rfl, rfl, br (fun h' => ?_) fun h' => ?_⟩
    · simp only [h', e, gp1, pcarryC, N5.cv, N5.eta, go_sem, reduceCtorEq, ↓reduceIte, Nat.reduceAdd, Nat.reduceMul, Nat.reduceSub, Nat.reduceEqDiff, Nat.reduceLT, Nat.reduceBEq, Nat.reduceBNe, Nat.reduceLeDiff, Int.reduceLE, Int.reduceLT, Int.reduceToNat, Int.reduceEq, Int.reduceAdd, UInt8.reduceToNat, UInt32.reduceToNat, UInt64.reduceToNat, UInt8.reduceOfNat, UInt32.reduceOfNat, UInt64.reduceOfNat, Fin.isValue, Int.reduceSub, Int.reduceMul, Int.reduceNeg, Int.reduceMod, Int.reduceDiv, Int.reduceTDiv, Int.reduceTMod, Int.reduceBEq, Int.reduceBNe, Nat.reduceDiv, Nat.reducePow]
    · exact absurd (h.symm.trans h') (by decide)
  | false =>
    have e : psmall x = ⟨(pless (pcarry (pcarry x))).a, (pless (pcarry (pcarry x))).b, (pless (pcarry (pcarry x))).c, (pless (pcarry (pcarry x))).d, (pless (pcarry (pcarry x))).e &&& 67108863⟩ := by simp only [psmall, h]; rfl
    refine ⟨rfl, rfl, rfl, rfl, br (fun h' => ?_) fun h' => ?_⟩
    · exact absurd (h.symm.trans h') (by decide)
    · simp only [h', e, gp1, pcarryC, N5.cv, N5.eta, go_sem, reduceCtorEq, ↓reduceIte, Nat.reduceAdd, Nat.reduceMul, Nat.reduceSub, Nat.reduceEqDiff, Nat.reduceLT, Nat.reduceBEq, Nat.reduceBNe, Nat.reduceLeDiff, Int.reduceLE, Int.reduceLT, Int.reduceToNat, Int.reduceEq, Int.reduceAdd, UInt8.reduceToNat, UInt32.reduceToNat, UInt64.reduceToNat, UInt8.reduceOfNat, UInt32.reduceOfNat, UInt64.reduceOfNat, Fin.isValue, Int.reduceSub, Int.reduceMul, Int.reduceNeg, Int.reduceMod, Int.reduceDiv, Int.reduceTDiv, Int.reduceTMod, Int.reduceBEq, Int.reduceBNe, Nat.reduceDiv, Nat.reducePow]
      exact ⟨rfl, rfl, rfl, rfl, rfl⟩
def psmallC : Con := con0 fun args => match args with
  | [.agg [.u64 a, .u64 b, .u64 c, .u64 d, .u64 e]] => some (.c (psmall ⟨a, b, c, d, e⟩).cv, [])
  | _ => none
theorem psmallC_ok : ConOk Tryd.prog 99 psmallC := con0_ok Tryd.func99 rfl rfl fun args res ob h hob => by
  split at h
  · injection h with h; injection h with h1 h2; subst h1; subst h2; exact psmall_tri ⟨_, _, _, _, _⟩
  · cases h
def limbsL (s : List UInt8) : Nat → List UInt64
  | 0 => [0, 0, 0, 0, 0]
  | i + 1 => (limbsL s i).set (8 * i / 26) ((limbsL s i).getD (8 * i / 26) 0 ||| shl64 (s.getD i 0).toUInt64 (8 * i % 26))
def n5of (l : List UInt64) : N5 := ⟨l.getD 0 0, l.getD 1 0, l.getD 2 0, l.getD 3 0, l.getD 4 0⟩
def limbsN (s : List UInt8) : N5 := pcarry (n5of (limbsL s s.length))
theorem limbsL_len (s : List UInt8) : ∀ i, (limbsL s i).length = 5
  | 0 => rfl
  | i + 1 => by rw [limbsL, List.length_set, limbsL_len s i]
def byteOfL (x : N5) (i : Nat) : UInt8 :=
  if 8 * i / 26 + 1 < 5 then (shr64 (x.l.getD (8 * i / 26) 0) (8 * i % 26) ||| shl64 (x.l.getD (8 * i / 26 + 1) 0) (26 - 8 * i % 26)).toUInt8
  else (shr64 (x.l.getD (8 * i / 26) 0) (8 * i % 26)).toUInt8
def pcar (x : N5) (s : List UInt8) : Nat → Nat
  | 0 => 0
  | i + 1 => (pcar x s i + (byteOfL x i).toNat + (s.getD i 0).toNat) / 256
def addAt (x : N5) (s : List UInt8) (i : Nat) : UInt8 := UInt8.ofNat (pcar x s i + (byteOfL x i).toNat + (s.getD i 0).toNat)
def addB (x : N5) (s : List UInt8) (n : Nat) : List UInt8 := (List.range n).map (addAt x s)
set_option maxRecDepth 100000 in
theorem byteOf_tri (x : N5) (i : Nat) (hi : i < 16) : Tri Tryd.prog 112 [x.cv, .one (.num i)] [] (.c (.one (.u8 (byteOfL x i)))) [] := by
  refine tri_of (envOf_ok gp1_ok 33) Tryd.func112 rfl rfl (rs := [.tmp 4]) rfl rfl (by simp [envOf]) rfl [] ?_
  have hc : i = 0 ∨ i = 1 ∨ i = 2 ∨ i = 3 ∨ i = 4 ∨ i = 5 ∨ i = 6 ∨ i = 7 ∨ i = 8 ∨ i = 9 ∨ i = 10 ∨ i = 11 ∨ i = 12 ∨ i = 13 ∨ i = 14 ∨ i = 15 := by omega
  rcases hc with rfl | rfl | rfl | rfl | rfl | rfl | rfl | rfl | rfl | rfl | rfl | rfl | rfl | rfl | rfl | rfl
  all_goals
    simp only [envOf, gp1, N5.cv, go_sem, reduceCtorEq, ↓reduceIte, Nat.reduceAdd, Nat.reduceMul, Nat.reduceSub, Nat.reduceEqDiff, Nat.reduceLT, Nat.reduceBEq, Nat.reduceBNe, Nat.reduceLeDiff, Int.reduceLE, Int.reduceLT, Int.reduceToNat, Int.reduceEq, Int.reduceAdd, UInt8.reduceToNat, UInt32.reduceToNat, UInt64.reduceToNat, UInt8.reduceOfNat, UInt32.reduceOfNat, UInt64.reduceOfNat, Fin.isValue, Int.reduceSub, Int.reduceMul, Int.reduceNeg, Int.reduceMod, Int.reduceDiv, Int.reduceTDiv, Int.reduceTMod, Int.reduceBEq, Int.reduceBNe, Nat.reduceDiv, Nat.reducePow]
    all_goals rfl
end Go.Proofs.YtahiopdkekkibaaDoor.FC

/-
  Layer 6: bytes in parts, and the sum with bytes.
-/
namespace Go.Proofs.YtahiopdkekkibaaDoor.FC
open Go Go.RowKit
set_option maxHeartbeats 4000000
set_option linter.unusedSimpArgs false
set_option linter.unusedVariables false
def limbsInv (s : List UInt8) (i : Nat) : St := ⟨[(0, .c (.one (.str s))), (2, .c (.one (.ptr 10000 0 0 0))), (3, .c (.one (.ptr 20000 0 0 0))), (6, .c (.one (.str s))), (7, .c (.one (.num s.length))), (8, .c (.one (.num i)))], [(10000, ⟨.cells 1 [.u64 0, .u64 0, .u64 0, .u64 0, .u64 0], true⟩), (20000, ⟨.arr UInt64 u64L (limbsL s i), true⟩)]⟩
set_option maxRecDepth 100000 in
theorem limbs_tri (s : List UInt8) (hs : s.length ≤ 17) : Tri Tryd.prog 97 [.one (.str s)] [] (.c (limbsN s).cv) [] := by
  refine tri_of (envOf_ok gp1_ok 29) Tryd.func97 rfl rfl (rs := [.cell 2 132]) rfl rfl (by simp [envOf]) rfl [] ?_
  simp only [envOf, gp1, pcarryC, N5.cv, go_sem, reduceCtorEq, ↓reduceIte, Nat.reduceAdd, Nat.reduceMul, Nat.reduceSub, Nat.reduceEqDiff, Nat.reduceLT, Nat.reduceBEq, Nat.reduceBNe, Nat.reduceLeDiff, Int.reduceLE, Int.reduceLT, Int.reduceToNat, Int.reduceEq, Int.reduceAdd, UInt8.reduceToNat, UInt32.reduceToNat, UInt64.reduceToNat, UInt8.reduceOfNat, UInt32.reduceOfNat, UInt64.reduceOfNat, Fin.isValue, Int.reduceSub, Int.reduceMul, Int.reduceNeg, Int.reduceMod, Int.reduceDiv, Int.reduceTDiv, Int.reduceTMod, Int.reduceBEq, Int.reduceBNe, Nat.reduceDiv, Nat.reducePow]
  refine loop_inv (envOf_ok gp1_ok 29) (limbsInv s) (fun i => i ≤ s.length) (fun i => s.length - i) 0 [] (by omega) ?_ ?_
  · simp only [limbsInv, limbsL, u64L_st, u64L_enc, go_sem, reduceCtorEq, ↓reduceIte, Nat.reduceAdd, Nat.reduceMul, Nat.reduceSub, Nat.reduceEqDiff, Nat.reduceLT, Nat.reduceBEq, Nat.reduceBNe, Nat.reduceLeDiff, Int.reduceLE, Int.reduceLT, Int.reduceToNat, Int.reduceEq, Int.reduceAdd, UInt8.reduceToNat, UInt32.reduceToNat, UInt64.reduceToNat, UInt8.reduceOfNat, UInt32.reduceOfNat, UInt64.reduceOfNat, Fin.isValue, Int.reduceSub, Int.reduceMul, Int.reduceNeg, Int.reduceMod, Int.reduceDiv, Int.reduceTDiv, Int.reduceTMod, Int.reduceBEq, Int.reduceBNe, Nat.reduceDiv, Nat.reducePow]
  · intro i hi
    simp only [limbsInv, envOf, gp1, pcarryC, N5.cv, go_sem, reduceCtorEq, ↓reduceIte, Nat.reduceAdd, Nat.reduceMul, Nat.reduceSub, Nat.reduceEqDiff, Nat.reduceLT, Nat.reduceBEq, Nat.reduceBNe, Nat.reduceLeDiff, Int.reduceLE, Int.reduceLT, Int.reduceToNat, Int.reduceEq, Int.reduceAdd, UInt8.reduceToNat, UInt32.reduceToNat, UInt64.reduceToNat, UInt8.reduceOfNat, UInt32.reduceOfNat, UInt64.reduceOfNat, Fin.isValue, Int.reduceSub, Int.reduceMul, Int.reduceNeg, Int.reduceMod, Int.reduceDiv, Int.reduceTDiv, Int.reduceTMod, Int.reduceBEq, Int.reduceBNe, Nat.reduceDiv, Nat.reducePow]
    refine br (fun h => ?_) fun h => ?_
    · have hlt : i < s.length := by have := of_decide_eq_true h; omega
      have h1 : IntKind.i64.wrap ((i : Int) + 1) = ((i + 1 : Nat) : Int) := by rw [IntKind.wrap_i64]; omega
      have h2 : IntKind.i64.wrap (8 * (i : Int)) = ((8 * i : Nat) : Int) := by rw [IntKind.wrap_i64]; omega
      have h3 : IntKind.i64.wrap (((8 * i : Nat) : Int).tdiv 26) = ((8 * i / 26 : Nat) : Int) := by
        rw [show (26 : Int) = ((26 : Nat) : Int) from rfl, ← Int.ofNat_tdiv, IntKind.wrap_i64]; omega
      have h4 : ((8 * i : Nat) : Int).tmod 26 = ((8 * i % 26 : Nat) : Int) := by
        rw [show (26 : Int) = ((26 : Nat) : Int) from rfl, ← Int.ofNat_tmod]
      have h5 := limbsL_len s i
      simp only [h, gp1, pcarryC, N5.cv, h1, h2, h3, h4, u64L_st, u64L_enc, u64L_d, u64L_up, h5, go_sem, reduceCtorEq, ↓reduceIte, Nat.reduceAdd, Nat.reduceMul, Nat.reduceSub, Nat.reduceEqDiff, Nat.reduceLT, Nat.reduceBEq, Nat.reduceBNe, Nat.reduceLeDiff, Int.reduceLE, Int.reduceLT, Int.reduceToNat, Int.reduceEq, Int.reduceAdd, UInt8.reduceToNat, UInt32.reduceToNat, UInt64.reduceToNat, UInt8.reduceOfNat, UInt32.reduceOfNat, UInt64.reduceOfNat, Fin.isValue, Int.reduceSub, Int.reduceMul, Int.reduceNeg, Int.reduceMod, Int.reduceDiv, Int.reduceTDiv, Int.reduceTMod, Int.reduceBEq, Int.reduceBNe, Nat.reduceDiv, Nat.reducePow]
      refine ⟨⟨by omega, by omega⟩, by omega, ⟨by omega, by omega⟩, by omega, ⟨by omega, by omega⟩, by omega, rfl, again (i + 1) [] (by omega) (by omega) ?_⟩
      simp only [limbsInv, limbsL, go_sem, reduceCtorEq, ↓reduceIte, Nat.reduceAdd, Nat.reduceMul, Nat.reduceSub, Nat.reduceEqDiff, Nat.reduceLT, Nat.reduceBEq, Nat.reduceBNe, Nat.reduceLeDiff, Int.reduceLE, Int.reduceLT, Int.reduceToNat, Int.reduceEq, Int.reduceAdd, UInt8.reduceToNat, UInt32.reduceToNat, UInt64.reduceToNat, UInt8.reduceOfNat, UInt32.reduceOfNat, UInt64.reduceOfNat, Fin.isValue, Int.reduceSub, Int.reduceMul, Int.reduceNeg, Int.reduceMod, Int.reduceDiv, Int.reduceTDiv, Int.reduceTMod, Int.reduceBEq, Int.reduceBNe, Nat.reduceDiv, Nat.reducePow]
    · have hi' : i = s.length := by have := of_decide_eq_false h; omega
      subst hi'
      obtain ⟨a, b, c, d, e, hl⟩ := split5 (limbsL s s.length) (limbsL_len s _)
      have e : limbsN s = pcarry ⟨a, b, c, d, e⟩ := by unfold limbsN; rw [hl]; rfl
      simp only [h, gp1, pcarryC, N5.cv, hl, e, u64L_st, u64L_enc, go_sem, reduceCtorEq, ↓reduceIte, Nat.reduceAdd, Nat.reduceMul, Nat.reduceSub, Nat.reduceEqDiff, Nat.reduceLT, Nat.reduceBEq, Nat.reduceBNe, Nat.reduceLeDiff, Int.reduceLE, Int.reduceLT, Int.reduceToNat, Int.reduceEq, Int.reduceAdd, UInt8.reduceToNat, UInt32.reduceToNat, UInt64.reduceToNat, UInt8.reduceOfNat, UInt32.reduceOfNat, UInt64.reduceOfNat, Fin.isValue, Int.reduceSub, Int.reduceMul, Int.reduceNeg, Int.reduceMod, Int.reduceDiv, Int.reduceTDiv, Int.reduceTMod, Int.reduceBEq, Int.reduceBNe, Nat.reduceDiv, Nat.reducePow]
def limbsC : Con := con0 fun args => match args with
  | [.one (.str s)] => some (.c (limbsN s).cv, [s.length ≤ 17])
  | _ => none
theorem limbsC_ok : ConOk Tryd.prog 97 limbsC := con0_ok Tryd.func97 rfl rfl fun args res ob h hob => by
  split at h
  · injection h with h; injection h with h1 h2; subst h1; subst h2; exact limbs_tri _ hob.1
  · cases h
def byteOfC : Con := con0 fun args => match args with
  | [.agg [.u64 a, .u64 b, .u64 c, .u64 d, .u64 e], .one (.num i)] => some (.c (.one (.u8 (byteOfL ⟨a, b, c, d, e⟩ i.toNat))), [0 ≤ i, i.toNat < 16])
  | _ => none
theorem byteOfC_ok : ConOk Tryd.prog 112 byteOfC := con0_ok Tryd.func112 rfl rfl fun args res ob h hob => by
  split at h
  · injection h with h; injection h with h1 h2; subst h1; subst h2; (rename_i a b c d e i; have := byteOf_tri ⟨a, b, c, d, e⟩ i.toNat hob.2.1; rw [Int.toNat_of_nonneg hob.1] at this; exact this)
  · cases h
def gp2 : Nat → Option Con := fun f => match f with
  | 111 => some pcarryC
  | 97 => some limbsC
  | 112 => some byteOfC
  | _ => none
theorem gp2_ok : GaOk Tryd.prog gp2 := fun f con h => by
  unfold gp2 at h
  split at h
  · injection h with h; subst h; exact pcarryC_ok
  · injection h with h; subst h; exact limbsC_ok
  · injection h with h; subst h; exact byteOfC_ok
  · cases h
theorem pcar_le' (x : N5) (s : List UInt8) : ∀ i, pcar x s i ≤ 1
  | 0 => Nat.zero_le _
  | i + 1 => by
    have h1 := pcar_le' x s i
    have h2 := (byteOfL x i).toNat_lt
    have h3 := (s.getD i 0).toNat_lt
    rw [pcar]; omega
theorem addB_len' (x : N5) (s : List UInt8) (n : Nat) : (addB x s n).length = n := by simp [addB]
theorem addB_succ' (x : N5) (s : List UInt8) (n : Nat) : addB x s (n + 1) = addB x s n ++ [addAt x s n] := by simp [addB, List.range_succ]
def addInv (x : N5) (s : List UInt8) (i : Nat) : St := ⟨[(0, .c x.cv), (1, .c (.one (.str s))), (2, .c (.one (.ptr 10000 0 0 0))), (4, .c (.one (.str []))), (5, .c (.one (.sl 20000 0 1 i))), (6, .c (.one (.num (pcar x s i)))), (9, .c (.one (.num i)))], [(10000, ⟨.cells 1 [.u64 x.a, .u64 x.b, .u64 x.c, .u64 x.d, .u64 x.e], true⟩), (20000, ⟨.arr UInt8 u8L (addB x s i), true⟩)]⟩
set_option maxRecDepth 100000 in
theorem add128_tri (x : N5) (s : List UInt8) (hs : s.length = 16) : Tri Tryd.prog 98 [x.cv, .one (.str s)] [] (.c (.one (.str (addB x s 16)))) [] := by
  refine tri_of (envOf_ok gp2_ok 33) Tryd.func98 rfl rfl (rs := [.tmp 4]) rfl rfl (by simp [envOf]) rfl [] ?_
  simp only [envOf, gp2, pcarryC, limbsC, byteOfC, N5.cv, N5.eta, go_sem, reduceCtorEq, ↓reduceIte, Nat.reduceAdd, Nat.reduceMul, Nat.reduceSub, Nat.reduceEqDiff, Nat.reduceLT, Nat.reduceBEq, Nat.reduceBNe, Nat.reduceLeDiff, Int.reduceLE, Int.reduceLT, Int.reduceToNat, Int.reduceEq, Int.reduceAdd, UInt8.reduceToNat, UInt32.reduceToNat, UInt64.reduceToNat, UInt8.reduceOfNat, UInt32.reduceOfNat, UInt64.reduceOfNat, Fin.isValue, Int.reduceSub, Int.reduceMul, Int.reduceNeg, Int.reduceMod, Int.reduceDiv, Int.reduceTDiv, Int.reduceTMod, Int.reduceBEq, Int.reduceBNe, Nat.reduceDiv, Nat.reducePow]
  refine loop_inv (envOf_ok gp2_ok 33) (addInv x s) (fun i => i ≤ 16) (fun i => 16 - i) 0 [] (by omega) ?_ ?_
  · simp only [addInv, N5.cv, addB, pcar, Int.natCast_zero, go_sem, reduceCtorEq, ↓reduceIte, Nat.reduceAdd, Nat.reduceMul, Nat.reduceSub, Nat.reduceEqDiff, Nat.reduceLT, Nat.reduceBEq, Nat.reduceBNe, Nat.reduceLeDiff, Int.reduceLE, Int.reduceLT, Int.reduceToNat, Int.reduceEq, Int.reduceAdd, UInt8.reduceToNat, UInt32.reduceToNat, UInt64.reduceToNat, UInt8.reduceOfNat, UInt32.reduceOfNat, UInt64.reduceOfNat, Fin.isValue, Int.reduceSub, Int.reduceMul, Int.reduceNeg, Int.reduceMod, Int.reduceDiv, Int.reduceTDiv, Int.reduceTMod, Int.reduceBEq, Int.reduceBNe, Nat.reduceDiv, Nat.reducePow]
  · intro i hi
    simp only [addInv, envOf, gp2, pcarryC, limbsC, byteOfC, N5.cv, N5.eta, go_sem, reduceCtorEq, ↓reduceIte, Nat.reduceAdd, Nat.reduceMul, Nat.reduceSub, Nat.reduceEqDiff, Nat.reduceLT, Nat.reduceBEq, Nat.reduceBNe, Nat.reduceLeDiff, Int.reduceLE, Int.reduceLT, Int.reduceToNat, Int.reduceEq, Int.reduceAdd, UInt8.reduceToNat, UInt32.reduceToNat, UInt64.reduceToNat, UInt8.reduceOfNat, UInt32.reduceOfNat, UInt64.reduceOfNat, Fin.isValue, Int.reduceSub, Int.reduceMul, Int.reduceNeg, Int.reduceMod, Int.reduceDiv, Int.reduceTDiv, Int.reduceTMod, Int.reduceBEq, Int.reduceBNe, Nat.reduceDiv, Nat.reducePow]
    refine br (fun h => ?_) fun h => ?_
    · have hlt : i < 16 := by have := of_decide_eq_true h; omega
      have hp := pcar_le' x s i
      have hb := (byteOfL x i).toNat_lt
      have hd := (s.getD i 0).toNat_lt
      have h1 : IntKind.i64.wrap ((i : Int) + 1) = ((i + 1 : Nat) : Int) := by rw [IntKind.wrap_i64]; omega
      have h2 : IntKind.i64.wrap (((byteOfL x i).toNat : Int) + ((s.getD i 0).toNat : Int)) = (((byteOfL x i).toNat + (s.getD i 0).toNat : Nat) : Int) := by rw [IntKind.wrap_i64]; omega
      have h3 : IntKind.i64.wrap ((pcar x s i : Int) + (((byteOfL x i).toNat + (s.getD i 0).toNat : Nat) : Int)) = ((pcar x s i + (byteOfL x i).toNat + (s.getD i 0).toNat : Nat) : Int) := by rw [IntKind.wrap_i64]; omega
      have h4 : ((pcar x s i + (byteOfL x i).toNat + (s.getD i 0).toNat : Nat) : Int).fdiv (2 ^ min 8 64) = ((pcar x s (i + 1) : Nat) : Int) := by
        have e : (2 : Int) ^ min 8 64 = 256 := rfl
        rw [e, Int.fdiv_eq_ediv_of_nonneg _ (by decide), pcar]; omega
      have h5 : by8 ((pcar x s i + (byteOfL x i).toNat + (s.getD i 0).toNat : Nat) : Int) = addAt x s i := by
        unfold by8 addAt
        apply UInt8.toNat_inj.1
        simp only [UInt8.toNat_ofNat']
        omega
      simp only [h, envOf, gp2, pcarryC, limbsC, byteOfC, N5.cv, N5.eta, h1, h2, h3, h4, h5, go_sem, reduceCtorEq, ↓reduceIte, Nat.reduceAdd, Nat.reduceMul, Nat.reduceSub, Nat.reduceEqDiff, Nat.reduceLT, Nat.reduceBEq, Nat.reduceBNe, Nat.reduceLeDiff, Int.reduceLE, Int.reduceLT, Int.reduceToNat, Int.reduceEq, Int.reduceAdd, UInt8.reduceToNat, UInt32.reduceToNat, UInt64.reduceToNat, UInt8.reduceOfNat, UInt32.reduceOfNat, UInt64.reduceOfNat, Fin.isValue, Int.reduceSub, Int.reduceMul, Int.reduceNeg, Int.reduceMod, Int.reduceDiv, Int.reduceTDiv, Int.reduceTMod, Int.reduceBEq, Int.reduceBNe, Nat.reduceDiv, Nat.reducePow]
      refine ⟨⟨by omega, by omega⟩, ⟨by omega, by omega⟩, rfl, ⟨addB_len' _ _ _, by omega, by omega⟩, again (i + 1) [(20000, 80032)] (by omega) (by omega) ?_⟩
      simp only [addInv, N5.cv, addB_succ', go_sem, reduceCtorEq, ↓reduceIte, Nat.reduceAdd, Nat.reduceMul, Nat.reduceSub, Nat.reduceEqDiff, Nat.reduceLT, Nat.reduceBEq, Nat.reduceBNe, Nat.reduceLeDiff, Int.reduceLE, Int.reduceLT, Int.reduceToNat, Int.reduceEq, Int.reduceAdd, UInt8.reduceToNat, UInt32.reduceToNat, UInt64.reduceToNat, UInt8.reduceOfNat, UInt32.reduceOfNat, UInt64.reduceOfNat, Fin.isValue, Int.reduceSub, Int.reduceMul, Int.reduceNeg, Int.reduceMod, Int.reduceDiv, Int.reduceTDiv, Int.reduceTMod, Int.reduceBEq, Int.reduceBNe, Nat.reduceDiv, Nat.reducePow]
    · have hi' : i = 16 := by have := of_decide_eq_false h; omega
      subst hi'
      simp only [h, envOf, gp2, pcarryC, limbsC, byteOfC, N5.cv, N5.eta, go_sem, reduceCtorEq, ↓reduceIte, Nat.reduceAdd, Nat.reduceMul, Nat.reduceSub, Nat.reduceEqDiff, Nat.reduceLT, Nat.reduceBEq, Nat.reduceBNe, Nat.reduceLeDiff, Int.reduceLE, Int.reduceLT, Int.reduceToNat, Int.reduceEq, Int.reduceAdd, UInt8.reduceToNat, UInt32.reduceToNat, UInt64.reduceToNat, UInt8.reduceOfNat, UInt32.reduceOfNat, UInt64.reduceOfNat, Fin.isValue, Int.reduceSub, Int.reduceMul, Int.reduceNeg, Int.reduceMod, Int.reduceDiv, Int.reduceTDiv, Int.reduceTMod, Int.reduceBEq, Int.reduceBNe, Nat.reduceDiv, Nat.reducePow]
      exact ⟨by rw [addB_len']; exact Nat.le_refl _, by rw [List.take_of_length_le (by rw [addB_len']; exact Nat.le_refl _)]⟩
def clampL (s : List UInt8) : List UInt8 := [(3, 15), (7, 15), (11, 15), (15, 15), (4, 252), (8, 252), (12, 252)].foldl (fun l (p : Nat × UInt8) => l.set p.1 (l.getD p.1 0 &&& p.2)) s
theorem split16b (s : List UInt8) (h : s.length = 16) : ∃ x0 x1 x2 x3 x4 x5 x6 x7 x8 x9 xa xb xc xd xe xf, s = [x0, x1, x2, x3, x4, x5, x6, x7, x8, x9, xa, xb, xc, xd, xe, xf] := by
  match s, h with
  | [x0, x1, x2, x3, x4, x5, x6, x7, x8, x9, xa, xb, xc, xd, xe, xf], _ => exact ⟨_, _, _, _, _, _, _, _, _, _, _, _, _, _, _, _, rfl⟩
set_option maxRecDepth 100000 in
theorem clamped_tri (s : List UInt8) (hs : s.length = 16) : Tri Tryd.prog 94 [.one (.str s)] [] (.c (limbsN (clampL s)).cv) [] := by
  obtain ⟨x0, x1, x2, x3, x4, x5, x6, x7, x8, x9, xa, xb, xc, xd, xe, xf, rfl⟩ := split16b s hs
  refine tri_of (envOf_ok gp2_ok 35) Tryd.func94 rfl rfl (rs := [.cell 2 132]) rfl rfl (by simp [envOf]) rfl [] ?_
  simp only [envOf, gp2, pcarryC, limbsC, byteOfC, N5.cv, go_sem, reduceCtorEq, ↓reduceIte, Nat.reduceAdd, Nat.reduceMul, Nat.reduceSub, Nat.reduceEqDiff, Nat.reduceLT, Nat.reduceBEq, Nat.reduceBNe, Nat.reduceLeDiff, Int.reduceLE, Int.reduceLT, Int.reduceToNat, Int.reduceEq, Int.reduceAdd, UInt8.reduceToNat, UInt32.reduceToNat, UInt64.reduceToNat, UInt8.reduceOfNat, UInt32.reduceOfNat, UInt64.reduceOfNat, Fin.isValue, Int.reduceSub, Int.reduceMul, Int.reduceNeg, Int.reduceMod, Int.reduceDiv, Int.reduceTDiv, Int.reduceTMod, Int.reduceBEq, Int.reduceBNe, Nat.reduceDiv, Nat.reducePow]
  refine loop_rounds (envOf_ok gp2_ok 35) 5 ?_
  simp only [envOf, gp2, pcarryC, limbsC, byteOfC, N5.cv, go_sem, reduceCtorEq, ↓reduceIte, Nat.reduceAdd, Nat.reduceMul, Nat.reduceSub, Nat.reduceEqDiff, Nat.reduceLT, Nat.reduceBEq, Nat.reduceBNe, Nat.reduceLeDiff, Int.reduceLE, Int.reduceLT, Int.reduceToNat, Int.reduceEq, Int.reduceAdd, UInt8.reduceToNat, UInt32.reduceToNat, UInt64.reduceToNat, UInt8.reduceOfNat, UInt32.reduceOfNat, UInt64.reduceOfNat, Fin.isValue, Int.reduceSub, Int.reduceMul, Int.reduceNeg, Int.reduceMod, Int.reduceDiv, Int.reduceTDiv, Int.reduceTMod, Int.reduceBEq, Int.reduceBNe, Nat.reduceDiv, Nat.reducePow]
  refine loop_rounds (envOf_ok gp2_ok 35) 4 ?_
  simp only [envOf, gp2, pcarryC, limbsC, byteOfC, N5.cv, clampL, go_sem, reduceCtorEq, ↓reduceIte, Nat.reduceAdd, Nat.reduceMul, Nat.reduceSub, Nat.reduceEqDiff, Nat.reduceLT, Nat.reduceBEq, Nat.reduceBNe, Nat.reduceLeDiff, Int.reduceLE, Int.reduceLT, Int.reduceToNat, Int.reduceEq, Int.reduceAdd, UInt8.reduceToNat, UInt32.reduceToNat, UInt64.reduceToNat, UInt8.reduceOfNat, UInt32.reduceOfNat, UInt64.reduceOfNat, Fin.isValue, Int.reduceSub, Int.reduceMul, Int.reduceNeg, Int.reduceMod, Int.reduceDiv, Int.reduceTDiv, Int.reduceTMod, Int.reduceBEq, Int.reduceBNe, Nat.reduceDiv, Nat.reducePow]
def clampedC : Con := con0 fun args => match args with
  | [.one (.str s)] => some (.c (limbsN (clampL s)).cv, [s.length = 16])
  | _ => none
theorem clampedC_ok : ConOk Tryd.prog 94 clampedC := con0_ok Tryd.func94 rfl rfl fun args res ob h hob => by
  split at h
  · injection h with h; injection h with h1 h2; subst h1; subst h2; exact clamped_tri _ hob.1
  · cases h
def add128C : Con := con0 fun args => match args with
  | [.agg [.u64 a, .u64 b, .u64 c, .u64 d, .u64 e], .one (.str s)] => some (.c (.one (.str (addB ⟨a, b, c, d, e⟩ s 16))), [s.length = 16])
  | _ => none
theorem add128C_ok : ConOk Tryd.prog 98 add128C := con0_ok Tryd.func98 rfl rfl fun args res ob h hob => by
  split at h
  · injection h with h; injection h with h1 h2; subst h1; subst h2; exact add128_tri ⟨_, _, _, _, _⟩ _ hob.1
  · cases h
def gp3 : Nat → Option Con := fun f => match f with
  | 94 => some clampedC
  | 97 => some limbsC
  | 96 => some pplusC
  | 95 => some ptimesC
  | 99 => some psmallC
  | 98 => some add128C
  | _ => none
theorem gp3_ok : GaOk Tryd.prog gp3 := fun f con h => by
  unfold gp3 at h
  split at h
  · injection h with h; subst h; exact clampedC_ok
  · injection h with h; subst h; exact limbsC_ok
  · injection h with h; subst h; exact pplusC_ok
  · injection h with h; subst h; exact ptimesC_ok
  · injection h with h; subst h; exact psmallC_ok
  · injection h with h; subst h; exact add128C_ok
  · cases h
def tagN (r : N5) (s : List UInt8) : Nat → N5
  | 0 => ⟨0, 0, 0, 0, 0⟩
  | q + 1 => ptimes (pplus (tagN r s q) (limbsN ((s.drop (16 * q)).take 16 ++ [1]))) r
def keyR (k : List UInt8) : N5 := limbsN (clampL (k.take 16))
def tagL (k s : List UInt8) : List UInt8 := addB (psmall (tagN (keyR k) s ((s.length + 15) / 16))) (k.drop 16) 16
def keyB (k : List UInt8) : Bool := (k.length : Int) == 32
def tagInv (k s : List UInt8) (q : Nat) : St := ⟨[(0, .c (.one (.str k))), (1, .c (.one (.str s))), (6, .c (.one (.ptr 40024 0 0 0))), (7, .c (.one (.ptr 50000 0 0 0))), (8, .c (.one (.num (16 * q : Nat))))], [(40024, ⟨.cells 1 [.u64 (keyR k).a, .u64 (keyR k).b, .u64 (keyR k).c, .u64 (keyR k).d, .u64 (keyR k).e], true⟩), (50000, ⟨.cells 1 [.u64 (tagN (keyR k) s q).a, .u64 (tagN (keyR k) s q).b, .u64 (tagN (keyR k) s q).c, .u64 (tagN (keyR k) s q).d, .u64 (tagN (keyR k) s q).e], true⟩)]⟩
set_option maxRecDepth 100000 in
theorem tag_tri (k s : List UInt8) (hs : s.length ≤ 1048576) : Tri Tryd.prog 71 [.one (.str k), .one (.str s)] [] (.tup [.one (.str (if keyB k = true then tagL k s else [])), .one (.bo (keyB k))]) [] := by
  refine tri_of (envOf_ok gp3_ok 42) Tryd.func71 rfl rfl (rs := [.tmp 4, .tmp 5]) rfl rfl (by simp [envOf]) rfl [] ?_
  cases hk : ((k.length : Int) == 32) with
  | false =>
    simp only [envOf, gp3, clampedC, limbsC, pplusC, ptimesC, psmallC, add128C, N5.cv, keyB, hk, go_sem, reduceCtorEq, ↓reduceIte, Nat.reduceAdd, Nat.reduceMul, Nat.reduceSub, Nat.reduceEqDiff, Nat.reduceLT, Nat.reduceBEq, Nat.reduceBNe, Nat.reduceLeDiff, Int.reduceLE, Int.reduceLT, Int.reduceToNat, Int.reduceEq, Int.reduceAdd, UInt8.reduceToNat, UInt32.reduceToNat, UInt64.reduceToNat, UInt8.reduceOfNat, UInt32.reduceOfNat, UInt64.reduceOfNat, Fin.isValue, Int.reduceSub, Int.reduceMul, Int.reduceNeg, Int.reduceMod, Int.reduceDiv, Int.reduceTDiv, Int.reduceTMod, Int.reduceBEq, Int.reduceBNe, Nat.reduceDiv, Nat.reducePow]
  | true =>
    have hk' : k.length = 32 := by have := eq_of_beq hk; omega
    have ht : (k.take 16).length = 16 := by rw [List.length_take]; omega
    simp only [envOf, gp3, clampedC, limbsC, pplusC, ptimesC, psmallC, add128C, N5.cv, N5.eta, keyB, hk, hk', ht, go_sem, reduceCtorEq, ↓reduceIte, Nat.reduceAdd, Nat.reduceMul, Nat.reduceSub, Nat.reduceEqDiff, Nat.reduceLT, Nat.reduceBEq, Nat.reduceBNe, Nat.reduceLeDiff, Int.reduceLE, Int.reduceLT, Int.reduceToNat, Int.reduceEq, Int.reduceAdd, UInt8.reduceToNat, UInt32.reduceToNat, UInt64.reduceToNat, UInt8.reduceOfNat, UInt32.reduceOfNat, UInt64.reduceOfNat, Fin.isValue, Int.reduceSub, Int.reduceMul, Int.reduceNeg, Int.reduceMod, Int.reduceDiv, Int.reduceTDiv, Int.reduceTMod, Int.reduceBEq, Int.reduceBNe, Nat.reduceDiv, Nat.reducePow]
    refine loop_inv (envOf_ok gp3_ok 42) (tagInv k s) (fun q => 16 * q ≤ s.length + 15) (fun q => s.length + 16 - 16 * q) 0 [] (by omega) ?_ ?_
    · simp only [tagInv, keyR, tagN, go_sem, reduceCtorEq, ↓reduceIte, Nat.reduceAdd, Nat.reduceMul, Nat.reduceSub, Nat.reduceEqDiff, Nat.reduceLT, Nat.reduceBEq, Nat.reduceBNe, Nat.reduceLeDiff, Int.reduceLE, Int.reduceLT, Int.reduceToNat, Int.reduceEq, Int.reduceAdd, UInt8.reduceToNat, UInt32.reduceToNat, UInt64.reduceToNat, UInt8.reduceOfNat, UInt32.reduceOfNat, UInt64.reduceOfNat, Fin.isValue, Int.reduceSub, Int.reduceMul, Int.reduceNeg, Int.reduceMod, Int.reduceDiv, Int.reduceTDiv, Int.reduceTMod, Int.reduceBEq, Int.reduceBNe, Nat.reduceDiv, Nat.reducePow]
    · intro q hq
      simp only [tagInv, envOf, gp3, clampedC, limbsC, pplusC, ptimesC, psmallC, add128C, N5.cv, N5.eta, go_sem, reduceCtorEq, ↓reduceIte, Nat.reduceAdd, Nat.reduceMul, Nat.reduceSub, Nat.reduceEqDiff, Nat.reduceLT, Nat.reduceBEq, Nat.reduceBNe, Nat.reduceLeDiff, Int.reduceLE, Int.reduceLT, Int.reduceToNat, Int.reduceEq, Int.reduceAdd, UInt8.reduceToNat, UInt32.reduceToNat, UInt64.reduceToNat, UInt8.reduceOfNat, UInt32.reduceOfNat, UInt64.reduceOfNat, Fin.isValue, Int.reduceSub, Int.reduceMul, Int.reduceNeg, Int.reduceMod, Int.reduceDiv, Int.reduceTDiv, Int.reduceTMod, Int.reduceBEq, Int.reduceBNe, Nat.reduceDiv, Nat.reducePow]
      refine br (fun h => ?_) fun h => ?_
      · have hlt : 16 * q < s.length := by have := of_decide_eq_true h; omega
        obtain ⟨m, hm⟩ : ∃ m, m = min 16 (s.length - 16 * q) := ⟨_, rfl⟩
        have h1 : IntKind.i64.wrap (((16 * q : Nat) : Int) + 16) = ((16 * q + 16 : Nat) : Int) := by rw [IntKind.wrap_i64]; omega
        have h2 : min ((16 * q + 16 : Nat) : Int) (s.length : Int) = ((16 * q + m : Nat) : Int) := by omega
        have h3 : (s.drop (16 * q)).take m = (s.drop (16 * q)).take 16 := by
          by_cases h16 : m = 16
          · rw [h16]
          · rw [List.take_of_length_le (by rw [List.length_drop]; omega), List.take_of_length_le (by rw [List.length_drop]; omega)]
        have h4 : ((s.drop (16 * q)).take 16).length ≤ 16 := by rw [List.length_take]; omega
        simp only [h, envOf, gp3, clampedC, limbsC, pplusC, ptimesC, psmallC, add128C, N5.cv, N5.eta, h1, h2, h3, Nat.add_sub_cancel_left, go_sem, reduceCtorEq, ↓reduceIte, Nat.reduceAdd, Nat.reduceMul, Nat.reduceSub, Nat.reduceEqDiff, Nat.reduceLT, Nat.reduceBEq, Nat.reduceBNe, Nat.reduceLeDiff, Int.reduceLE, Int.reduceLT, Int.reduceToNat, Int.reduceEq, Int.reduceAdd, UInt8.reduceToNat, UInt32.reduceToNat, UInt64.reduceToNat, UInt8.reduceOfNat, UInt32.reduceOfNat, UInt64.reduceOfNat, Fin.isValue, Int.reduceSub, Int.reduceMul, Int.reduceNeg, Int.reduceMod, Int.reduceDiv, Int.reduceTDiv, Int.reduceTMod, Int.reduceBEq, Int.reduceBNe, Nat.reduceDiv, Nat.reducePow]
        have hw : ((16 * q + 16 : Nat) : Int) = ((16 * (q + 1) : Nat) : Int) := by omega
        simp only [hw]
        refine ⟨⟨by omega, by omega, by omega⟩, by omega, by rw [List.length_append]; simp only [List.length_cons, List.length_nil]; omega, rfl, again (q + 1) [] (by omega) (by omega) ?_⟩
        simp only [tagInv, tagN, go_sem, reduceCtorEq, ↓reduceIte, Nat.reduceAdd, Nat.reduceMul, Nat.reduceSub, Nat.reduceEqDiff, Nat.reduceLT, Nat.reduceBEq, Nat.reduceBNe, Nat.reduceLeDiff, Int.reduceLE, Int.reduceLT, Int.reduceToNat, Int.reduceEq, Int.reduceAdd, UInt8.reduceToNat, UInt32.reduceToNat, UInt64.reduceToNat, UInt8.reduceOfNat, UInt32.reduceOfNat, UInt64.reduceOfNat, Fin.isValue, Int.reduceSub, Int.reduceMul, Int.reduceNeg, Int.reduceMod, Int.reduceDiv, Int.reduceTDiv, Int.reduceTMod, Int.reduceBEq, Int.reduceBNe, Nat.reduceDiv, Nat.reducePow]
      · have hq' : q = (s.length + 15) / 16 := by have := of_decide_eq_false h; omega
        have hd : (k.drop 16).length = 16 := by rw [List.length_drop]; omega
        simp only [h, envOf, gp3, clampedC, limbsC, pplusC, ptimesC, psmallC, add128C, N5.cv, N5.eta, hd, hk', ← hq', tagL, go_sem, reduceCtorEq, ↓reduceIte, Nat.reduceAdd, Nat.reduceMul, Nat.reduceSub, Nat.reduceEqDiff, Nat.reduceLT, Nat.reduceBEq, Nat.reduceBNe, Nat.reduceLeDiff, Int.reduceLE, Int.reduceLT, Int.reduceToNat, Int.reduceEq, Int.reduceAdd, UInt8.reduceToNat, UInt32.reduceToNat, UInt64.reduceToNat, UInt8.reduceOfNat, UInt32.reduceOfNat, UInt64.reduceOfNat, Fin.isValue, Int.reduceSub, Int.reduceMul, Int.reduceNeg, Int.reduceMod, Int.reduceDiv, Int.reduceTDiv, Int.reduceTMod, Int.reduceBEq, Int.reduceBNe, Nat.reduceDiv, Nat.reducePow]
        rfl
def tagC : Con := con0 fun args => match args with
  | [.one (.str k), .one (.str s)] => some (.tup [.one (.str (if keyB k = true then tagL k s else [])), .one (.bo (keyB k))], [s.length ≤ 1048576])
  | _ => none
theorem tagC_ok : ConOk Tryd.prog 71 tagC := con0_ok Tryd.func71 rfl rfl fun args res ob h hob => by
  split at h
  · injection h with h; injection h with h1 h2; subst h1; subst h2; exact tag_tri _ _ hob.1
  · cases h
end Go.Proofs.YtahiopdkekkibaaDoor.FC

/-
  Layer 5: the first state of a block.
-/
namespace Go.Proofs.YtahiopdkekkibaaDoor.FC
open Go Go.RowKit
set_option linter.unusedSimpArgs false
set_option linter.unusedVariables false
def ga2 : Nat → Option Con := fun f => match f with
  | 92 => some wordC
  | _ => none
theorem ga2_ok : GaOk Tryd.prog ga2 := fun f con h => by
  unfold ga2 at h
  split at h
  · injection h with h; subst h; exact wordC_ok
  · cases h
theorem getD_cut (l : List UInt8) (a n i : Nat) (h : i < n) : ((l.drop a).take n).getD i 0 = l.getD (a + i) 0 := by
  simp only [List.getD_eq_getElem?_getD]
  rw [List.getElem?_take_of_lt h, List.getElem?_drop]
theorem leAt_cut (l : List UInt8) (a : Nat) : leAt ((l.drop a).take 4) 0 = leAt l a := by
  unfold leAt
  rw [getD_cut _ _ _ _ (by omega), getD_cut _ _ _ _ (by omega), getD_cut _ _ _ _ (by omega), getD_cut _ _ _ _ (by omega)]
  simp only [Nat.zero_add, Nat.add_zero]
theorem leAt_drop (l : List UInt8) (a : Nat) : leAt (l.drop a) 0 = leAt l a := by
  unfold leAt
  simp only [List.getD_eq_getElem?_getD, List.getElem?_drop, Nat.zero_add, Nat.add_zero]
theorem leAt_take (l : List UInt8) : leAt (l.take 4) 0 = leAt l 0 := leAt_cut l 0
def iniL (k n : List UInt8) (c : UInt32) : List UInt32 := [1634760805, 857760878, 2036477234, 1797285236, leAt k 0, leAt k 4, leAt k 8, leAt k 12, leAt k 16, leAt k 20, leAt k 24, leAt k 28, c, leAt n 0, leAt n 4, leAt n 8]
set_option maxRecDepth 100000 in
set_option maxHeartbeats 4000000 in
theorem initial_tri (k n : List UInt8) (c : UInt32) (hk : k.length = 32) (hn : n.length = 12) : Tri Tryd.prog 68 [.one (.str k), .one (.str n), .one (.u32 c)] [] (.c (.agg ((iniL k n c).map .u32))) [] := by
  refine tri_of (envOf_ok ga2_ok 44) Tryd.func68 rfl rfl (rs := [.cell 6 108]) rfl rfl (by simp [envOf]) rfl [] ?_
  simp only [envOf, ga2, wordC, go_sem, reduceCtorEq, ↓reduceIte, Nat.reduceAdd, Nat.reduceMul, Nat.reduceSub, Nat.reduceEqDiff, Nat.reduceLT, Nat.reduceBEq, Nat.reduceBNe, Nat.reduceLeDiff, Int.reduceLE, Int.reduceLT, Int.reduceToNat, Int.reduceEq, Int.reduceAdd, UInt8.reduceToNat, UInt32.reduceToNat, UInt64.reduceToNat, UInt8.reduceOfNat, UInt32.reduceOfNat, UInt64.reduceOfNat, Fin.isValue, Int.reduceSub, Int.reduceMul, Int.reduceNeg, Int.reduceMod, Int.reduceDiv, Int.reduceTDiv, Int.reduceTMod, Int.reduceBEq, Int.reduceBNe, Nat.reduceDiv, Nat.reducePow]
  refine loop_rounds (envOf_ok ga2_ok 44) 9 ?_
  simp only [ga2, wordC, go_sem, reduceCtorEq, ↓reduceIte, Nat.reduceAdd, Nat.reduceMul, Nat.reduceSub, Nat.reduceEqDiff, Nat.reduceLT, Nat.reduceBEq, Nat.reduceBNe, Nat.reduceLeDiff, Int.reduceLE, Int.reduceLT, Int.reduceToNat, Int.reduceEq, Int.reduceAdd, UInt8.reduceToNat, UInt32.reduceToNat, UInt64.reduceToNat, UInt8.reduceOfNat, UInt32.reduceOfNat, UInt64.reduceOfNat, Fin.isValue, Int.reduceSub, Int.reduceMul, Int.reduceNeg, Int.reduceMod, Int.reduceDiv, Int.reduceTDiv, Int.reduceTMod, Int.reduceBEq, Int.reduceBNe, Nat.reduceDiv, Nat.reducePow]
  repeat' apply And.intro
  rotate_right
  · refine loop_rounds (envOf_ok ga2_ok 44) 4 ?_
    simp only [ga2, wordC, leAt_drop, leAt_take, go_sem, reduceCtorEq, ↓reduceIte, Nat.reduceAdd, Nat.reduceMul, Nat.reduceSub, Nat.reduceEqDiff, Nat.reduceLT, Nat.reduceBEq, Nat.reduceBNe, Nat.reduceLeDiff, Int.reduceLE, Int.reduceLT, Int.reduceToNat, Int.reduceEq, Int.reduceAdd, UInt8.reduceToNat, UInt32.reduceToNat, UInt64.reduceToNat, UInt8.reduceOfNat, UInt32.reduceOfNat, UInt64.reduceOfNat, Fin.isValue, Int.reduceSub, Int.reduceMul, Int.reduceNeg, Int.reduceMod, Int.reduceDiv, Int.reduceTDiv, Int.reduceTMod, Int.reduceBEq, Int.reduceBNe, Nat.reduceDiv, Nat.reducePow]
    repeat' apply And.intro
    all_goals first
      | omega
      | (simp only [List.length_take, List.length_drop]; omega)
      | rfl
  all_goals first
    | omega
    | (simp only [List.length_take, List.length_drop]; omega)
def initialC : Con := con0 fun args => match args with
  | [.one (.str k), .one (.str n), .one (.u32 c)] => some (.c (.agg ((iniL k n c).map .u32)), [k.length = 32, n.length = 12])
  | _ => none
theorem initialC_ok : ConOk Tryd.prog 68 initialC := con0_ok Tryd.func68 rfl rfl fun args res ob h hob => by
  split at h
  · injection h with h; injection h with h1 h2; subst h1; subst h2; exact initial_tri _ _ _ hob.1 hob.2.1
  · cases h
end Go.Proofs.YtahiopdkekkibaaDoor.FC

/-
  Layer 5: the rounds.
-/
namespace Go.Proofs.YtahiopdkekkibaaDoor.FC
open Go Go.RowKit
set_option linter.unusedSimpArgs false
set_option linter.unusedVariables false
def ga3 : Nat → Option Con := fun f => match f with
  | 93 => some quarterC
  | _ => none
theorem ga3_ok : GaOk Tryd.prog ga3 := fun f con h => by
  unfold ga3 at h
  split at h
  · injection h with h; subst h; exact quarterC_ok
  · cases h
def dround : List UInt32 → List UInt32
  | [x0, x1, x2, x3, x4, x5, x6, x7, x8, x9, xa, xb, xc, xd, xe, xf] =>
    let q0 := qr x0 x4 x8 xc
    let q1 := qr x1 x5 x9 xd
    let q2 := qr x2 x6 xa xe
    let q3 := qr x3 x7 xb xf
    let q4 := qr q0.1 q1.2.1 q2.2.2.1 q3.2.2.2
    let q5 := qr q1.1 q2.2.1 q3.2.2.1 q0.2.2.2
    let q6 := qr q2.1 q3.2.1 q0.2.2.1 q1.2.2.2
    let q7 := qr q3.1 q0.2.1 q1.2.2.1 q2.2.2.2
    [q4.1, q5.1, q6.1, q7.1, q7.2.1, q4.2.1, q5.2.1, q6.2.1, q6.2.2.1, q7.2.2.1, q4.2.2.1, q5.2.2.1, q5.2.2.2, q6.2.2.2, q7.2.2.2, q4.2.2.2]
  | l => l
def dtimes : Nat → List UInt32 → List UInt32
  | 0, l => l
  | n + 1, l => dround (dtimes n l)
theorem dround_len : ∀ (l : List UInt32), l.length = 16 → (dround l).length = 16
  | [x0, x1, x2, x3, x4, x5, x6, x7, x8, x9, xa, xb, xc, xd, xe, xf], _ => rfl
theorem dtimes_len (l : List UInt32) (h : l.length = 16) : ∀ n, (dtimes n l).length = 16
  | 0 => h
  | n + 1 => dround_len _ (dtimes_len l h n)
theorem split16 (l : List UInt32) (hl : l.length = 16) : ∃ x0 x1 x2 x3 x4 x5 x6 x7 x8 x9 xa xb xc xd xe xf, l = [x0, x1, x2, x3, x4, x5, x6, x7, x8, x9, xa, xb, xc, xd, xe, xf] := by
  match l, hl with
  | [x0, x1, x2, x3, x4, x5, x6, x7, x8, x9, xa, xb, xc, xd, xe, xf], _ => exact ⟨_, _, _, _, _, _, _, _, _, _, _, _, _, _, _, _, rfl⟩
def w4 (w : UInt32) : List UInt8 := [w.toUInt8, (shr32 w 8).toUInt8, (shr32 w 16).toUInt8, (shr32 w 24).toUInt8]
def outL : List UInt32 → List UInt32 → List UInt8
  | y :: ys, x :: xs => w4 (y + x) ++ outL ys xs
  | _, _ => []
def stirL (l : List UInt32) : List UInt8 := outL (dtimes 10 l) l
def stirInv (l : List UInt32) (x : Nat × List UInt32) : St := ⟨[(1, .c (.one (.ptr 10000 0 0 0))), (2, .c (.one (.str []))), (3, .c (.one (.ptr 20008 0 0 0))), (13, .c (.one (.num x.1)))], [(10000, ⟨.cells 1 (l.map .u32), true⟩), (20008, ⟨.cells 1 (x.2.map .u32), true⟩)]⟩
set_option maxRecDepth 100000 in
set_option maxHeartbeats 4000000 in
theorem stir_tri (l : List UInt32) (hl : l.length = 16) : Tri Tryd.prog 69 [.agg (l.map .u32)] [] (.c (.one (.str (stirL l)))) [] := by
  obtain ⟨x0, x1, x2, x3, x4, x5, x6, x7, x8, x9, xa, xb, xc, xd, xe, xf, rfl⟩ := split16 l hl
  refine tri_of (envOf_ok ga3_ok 122) Tryd.func69 rfl rfl (rs := [.tmp 2]) rfl rfl (by simp [envOf]) rfl [] ?_
  simp only [envOf, ga3, quarterC, go_sem, reduceCtorEq, ↓reduceIte, Nat.reduceAdd, Nat.reduceMul, Nat.reduceSub, Nat.reduceEqDiff, Nat.reduceLT, Nat.reduceBEq, Nat.reduceBNe, Nat.reduceLeDiff, Int.reduceLE, Int.reduceLT, Int.reduceToNat, Int.reduceEq, Int.reduceAdd, UInt8.reduceToNat, UInt32.reduceToNat, UInt64.reduceToNat, UInt8.reduceOfNat, UInt32.reduceOfNat, UInt64.reduceOfNat, Fin.isValue, Int.reduceSub, Int.reduceMul, Int.reduceNeg, Int.reduceMod, Int.reduceDiv, Int.reduceTDiv, Int.reduceTMod, Int.reduceBEq, Int.reduceBNe, Nat.reduceDiv, Nat.reducePow]
  refine loop_inv (envOf_ok ga3_ok 122) (stirInv [x0, x1, x2, x3, x4, x5, x6, x7, x8, x9, xa, xb, xc, xd, xe, xf]) (fun x => x.1 ≤ 10 ∧ x.2 = dtimes x.1 [x0, x1, x2, x3, x4, x5, x6, x7, x8, x9, xa, xb, xc, xd, xe, xf]) (fun x => 10 - x.1) (0, [x0, x1, x2, x3, x4, x5, x6, x7, x8, x9, xa, xb, xc, xd, xe, xf]) [] ⟨by omega, rfl⟩ ?_ ?_
  · simp only [stirInv, go_sem, reduceCtorEq, ↓reduceIte, Nat.reduceAdd, Nat.reduceMul, Nat.reduceSub, Nat.reduceEqDiff, Nat.reduceLT, Nat.reduceBEq, Nat.reduceBNe, Nat.reduceLeDiff, Int.reduceLE, Int.reduceLT, Int.reduceToNat, Int.reduceEq, Int.reduceAdd, UInt8.reduceToNat, UInt32.reduceToNat, UInt64.reduceToNat, UInt8.reduceOfNat, UInt32.reduceOfNat, UInt64.reduceOfNat, Fin.isValue, Int.reduceSub, Int.reduceMul, Int.reduceNeg, Int.reduceMod, Int.reduceDiv, Int.reduceTDiv, Int.reduceTMod, Int.reduceBEq, Int.reduceBNe, Nat.reduceDiv, Nat.reducePow]
  · rintro ⟨j, vs⟩ ⟨hj, hv⟩
    simp only at hj hv
    have hv' : vs.length = 16 := by rw [hv]; exact dtimes_len _ hl _
    obtain ⟨y0, y1, y2, y3, y4, y5, y6, y7, y8, y9, ya, yb, yc, yd, ye, yf, rfl⟩ := split16 vs hv'
    simp only [stirInv, envOf, ga3, quarterC, go_sem, reduceCtorEq, ↓reduceIte, Nat.reduceAdd, Nat.reduceMul, Nat.reduceSub, Nat.reduceEqDiff, Nat.reduceLT, Nat.reduceBEq, Nat.reduceBNe, Nat.reduceLeDiff, Int.reduceLE, Int.reduceLT, Int.reduceToNat, Int.reduceEq, Int.reduceAdd, UInt8.reduceToNat, UInt32.reduceToNat, UInt64.reduceToNat, UInt8.reduceOfNat, UInt32.reduceOfNat, UInt64.reduceOfNat, Fin.isValue, Int.reduceSub, Int.reduceMul, Int.reduceNeg, Int.reduceMod, Int.reduceDiv, Int.reduceTDiv, Int.reduceTMod, Int.reduceBEq, Int.reduceBNe, Nat.reduceDiv, Nat.reducePow]
    refine br (fun h => ?_) fun h => ?_ <;> simp only [h, go_sem, reduceCtorEq, ↓reduceIte, Nat.reduceAdd, Nat.reduceMul, Nat.reduceSub, Nat.reduceEqDiff, Nat.reduceLT, Nat.reduceBEq, Nat.reduceBNe, Nat.reduceLeDiff, Int.reduceLE, Int.reduceLT, Int.reduceToNat, Int.reduceEq, Int.reduceAdd, UInt8.reduceToNat, UInt32.reduceToNat, UInt64.reduceToNat, UInt8.reduceOfNat, UInt32.reduceOfNat, UInt64.reduceOfNat, Fin.isValue, Int.reduceSub, Int.reduceMul, Int.reduceNeg, Int.reduceMod, Int.reduceDiv, Int.reduceTDiv, Int.reduceTMod, Int.reduceBEq, Int.reduceBNe, Nat.reduceDiv, Nat.reducePow]
    · have hj' : j + 1 ≤ 10 := by have := of_decide_eq_true h; omega
      have hw : IntKind.i64.wrap ((j : Int) + 1) = ((j + 1 : Nat) : Int) := by rw [IntKind.wrap_i64]; omega
      refine loop_rounds (envOf_ok ga3_ok 122) 5 ?_
      simp (maxSteps := 2000000) only [ga3, quarterC, go_sem, reduceCtorEq, ↓reduceIte, Nat.reduceAdd, Nat.reduceMul, Nat.reduceSub, Nat.reduceEqDiff, Nat.reduceLT, Nat.reduceBEq, Nat.reduceBNe, Nat.reduceLeDiff, Int.reduceLE, Int.reduceLT, Int.reduceToNat, Int.reduceEq, Int.reduceAdd, UInt8.reduceToNat, UInt32.reduceToNat, UInt64.reduceToNat, UInt8.reduceOfNat, UInt32.reduceOfNat, UInt64.reduceOfNat, Fin.isValue, Int.reduceSub, Int.reduceMul, Int.reduceNeg, Int.reduceMod, Int.reduceDiv, Int.reduceTDiv, Int.reduceTMod, Int.reduceBEq, Int.reduceBNe, Nat.reduceDiv, Nat.reducePow]
      repeat' apply And.intro
      rotate_right
      · refine loop_rounds (envOf_ok ga3_ok 122) 5 ?_
        simp (maxSteps := 2000000) only [ga3, quarterC, hw, go_sem, reduceCtorEq, ↓reduceIte, Nat.reduceAdd, Nat.reduceMul, Nat.reduceSub, Nat.reduceEqDiff, Nat.reduceLT, Nat.reduceBEq, Nat.reduceBNe, Nat.reduceLeDiff, Int.reduceLE, Int.reduceLT, Int.reduceToNat, Int.reduceEq, Int.reduceAdd, UInt8.reduceToNat, UInt32.reduceToNat, UInt64.reduceToNat, UInt8.reduceOfNat, UInt32.reduceOfNat, UInt64.reduceOfNat, Fin.isValue, Int.reduceSub, Int.reduceMul, Int.reduceNeg, Int.reduceMod, Int.reduceDiv, Int.reduceTDiv, Int.reduceTMod, Int.reduceBEq, Int.reduceBNe, Nat.reduceDiv, Nat.reducePow]
        repeat' apply And.intro
        rotate_right
        · refine again (j + 1, dround [y0, y1, y2, y3, y4, y5, y6, y7, y8, y9, ya, yb, yc, yd, ye, yf]) [] ⟨hj', ?_⟩ (by simp only; omega) ?_
          · simp only [dtimes, hv]
          · simp only [stirInv, dround, go_sem, reduceCtorEq, ↓reduceIte, Nat.reduceAdd, Nat.reduceMul, Nat.reduceSub, Nat.reduceEqDiff, Nat.reduceLT, Nat.reduceBEq, Nat.reduceBNe, Nat.reduceLeDiff, Int.reduceLE, Int.reduceLT, Int.reduceToNat, Int.reduceEq, Int.reduceAdd, UInt8.reduceToNat, UInt32.reduceToNat, UInt64.reduceToNat, UInt8.reduceOfNat, UInt32.reduceOfNat, UInt64.reduceOfNat, Fin.isValue, Int.reduceSub, Int.reduceMul, Int.reduceNeg, Int.reduceMod, Int.reduceDiv, Int.reduceTDiv, Int.reduceTMod, Int.reduceBEq, Int.reduceBNe, Nat.reduceDiv, Nat.reducePow]
        all_goals rfl
      all_goals rfl
    · have hj' : j = 10 := by have := of_decide_eq_false h; omega
      subst hj'
      refine loop_rounds (envOf_ok ga3_ok 122) 17 ?_
      simp (maxSteps := 2000000) only [ga3, quarterC, stirL, ← hv, outL, w4, go_sem, reduceCtorEq, ↓reduceIte, Nat.reduceAdd, Nat.reduceMul, Nat.reduceSub, Nat.reduceEqDiff, Nat.reduceLT, Nat.reduceBEq, Nat.reduceBNe, Nat.reduceLeDiff, Int.reduceLE, Int.reduceLT, Int.reduceToNat, Int.reduceEq, Int.reduceAdd, UInt8.reduceToNat, UInt32.reduceToNat, UInt64.reduceToNat, UInt8.reduceOfNat, UInt32.reduceOfNat, UInt64.reduceOfNat, Fin.isValue, Int.reduceSub, Int.reduceMul, Int.reduceNeg, Int.reduceMod, Int.reduceDiv, Int.reduceTDiv, Int.reduceTMod, Int.reduceBEq, Int.reduceBNe, Nat.reduceDiv, Nat.reducePow]
      repeat' apply And.intro
      all_goals rfl
def u32s : List AV → List UInt32
  | [] => []
  | .u32 y :: l => y :: u32s l
  | _ :: l => 0 :: u32s l
theorem u32s_len : ∀ (l : List AV), (u32s l).length = l.length
  | [] => rfl
  | x :: l => by cases x <;> simp [u32s, u32s_len l]
def stirC : Con := con0 fun args => match args with
  | [.agg l] => some (.c (.one (.str (stirL (u32s l)))), [l.length = 16, l = (u32s l).map .u32])
  | _ => none
theorem stirC_ok : ConOk Tryd.prog 69 stirC := con0_ok Tryd.func69 rfl rfl fun args res ob h hob => by
  split at h
  · injection h with h; injection h with h1 h2; subst h1; subst h2
    have h1 := hob.1
    have e := hob.2.1
    have := stir_tri _ (by rw [u32s_len]; exact h1)
    rw [← e] at this
    exact this
  · cases h
end Go.Proofs.YtahiopdkekkibaaDoor.FC

/-
  Layer 5: a string turned.
-/
namespace Go.Proofs.YtahiopdkekkibaaDoor.FC
open Go Go.RowKit
set_option linter.unusedSimpArgs false
set_option linter.unusedVariables false
def ga4 : Nat → Option Con := fun f => match f with
  | 67 => some rightC
  | 68 => some initialC
  | 69 => some stirC
  | _ => none
theorem ga4_ok : GaOk Tryd.prog ga4 := fun f con h => by
  unfold ga4 at h
  split at h
  · injection h with h; subst h; exact rightC_ok
  · injection h with h; subst h; exact initialC_ok
  · injection h with h; subst h; exact stirC_ok
  · cases h
def blockL (k n : List UInt8) (c : UInt32) : List UInt8 := stirL (iniL k n c)
set_option maxRecDepth 100000 in
theorem block_tri (k n : List UInt8) (c : UInt32) : Tri Tryd.prog 70 [.one (.str k), .one (.str n), .one (.u32 c)] [] (.tup [.one (.str (if rightB k n = true then blockL k n c else [])), .one (.bo (rightB k n))]) [] := by
  refine tri_of (envOf_ok ga4_ok 17) Tryd.func70 rfl rfl (rs := [.tmp 6, .tmp 7]) rfl rfl (by simp [envOf]) rfl [] ?_
  cases hr : rightB k n with
  | true =>
    have hh := (rightB_iff k n).1 hr
    simp only [envOf, ga4, rightC, initialC, stirC, hr, hh.1, hh.2, iniL, u32s, blockL, go_sem, reduceCtorEq, ↓reduceIte, Nat.reduceAdd, Nat.reduceMul, Nat.reduceSub, Nat.reduceEqDiff, Nat.reduceLT, Nat.reduceBEq, Nat.reduceBNe, Nat.reduceLeDiff, Int.reduceLE, Int.reduceLT, Int.reduceToNat, Int.reduceEq, Int.reduceAdd, UInt8.reduceToNat, UInt32.reduceToNat, UInt64.reduceToNat, UInt8.reduceOfNat, UInt32.reduceOfNat, UInt64.reduceOfNat, Fin.isValue, Int.reduceSub, Int.reduceMul, Int.reduceNeg, Int.reduceMod, Int.reduceDiv, Int.reduceTDiv, Int.reduceTMod, Int.reduceBEq, Int.reduceBNe, Nat.reduceDiv, Nat.reducePow]
  | false => simp only [envOf, ga4, rightC, initialC, stirC, hr, go_sem, reduceCtorEq, ↓reduceIte, Nat.reduceAdd, Nat.reduceMul, Nat.reduceSub, Nat.reduceEqDiff, Nat.reduceLT, Nat.reduceBEq, Nat.reduceBNe, Nat.reduceLeDiff, Int.reduceLE, Int.reduceLT, Int.reduceToNat, Int.reduceEq, Int.reduceAdd, UInt8.reduceToNat, UInt32.reduceToNat, UInt64.reduceToNat, UInt8.reduceOfNat, UInt32.reduceOfNat, UInt64.reduceOfNat, Fin.isValue, Int.reduceSub, Int.reduceMul, Int.reduceNeg, Int.reduceMod, Int.reduceDiv, Int.reduceTDiv, Int.reduceTMod, Int.reduceBEq, Int.reduceBNe, Nat.reduceDiv, Nat.reducePow]
def ksAt (k n : List UInt8) (c : UInt32) (p : Nat) : UInt8 := (stirL (iniL k n (c + UInt32.ofNat (p / 64)))).getD (p % 64) 0
def fro (g : Nat → UInt8) (s : List UInt8) (f : Nat) : List UInt8 := s.mapIdx fun p b => if p < f then b ^^^ g p else b
theorem fro_len (g : Nat → UInt8) (s : List UInt8) (f : Nat) : (fro g s f).length = s.length := List.length_mapIdx
theorem fro_zero (g : Nat → UInt8) (s : List UInt8) : fro g s 0 = s := by
  apply List.ext_getElem?; intro i
  simp [fro]
theorem fro_getD (g : Nat → UInt8) (s : List UInt8) (f : Nat) : (fro g s f).getD f 0 = s.getD f 0 := by
  simp [fro, List.getD_eq_getElem?_getD]
theorem fro_set (g : Nat → UInt8) (s : List UInt8) (f : Nat) : (fro g s f).set f ((fro g s f).getD f 0 ^^^ g f) = fro g s (f + 1) := by
  apply List.ext_getElem?; intro i
  rw [fro_getD, List.getElem?_set]
  by_cases h : f = i
  · subst h
    rw [if_pos rfl, fro_len]
    by_cases hl : f < s.length
    · rw [if_pos hl]
      simp [fro, hl]
    · rw [if_neg hl]
      simp [fro, hl]
  · rw [if_neg h]
    simp only [fro, List.getElem?_mapIdx]
    by_cases hl : i < s.length
    · have : (i < f) = (i < f + 1) := by simp only [eq_iff_iff]; omega
      simp only [this]
    · rw [List.getElem?_eq_none (by omega)]; rfl
theorem fro_end (g : Nat → UInt8) (s : List UInt8) (f : Nat) (h : s.length ≤ f) : fro g s f = fro g s s.length := by
  apply List.ext_getElem?; intro i
  simp only [fro, List.getElem?_mapIdx]
  by_cases hl : i < s.length
  · have e : (i < f) = (i < s.length) := by simp only [eq_iff_iff]; omega
    simp only [e]
  · rw [List.getElem?_eq_none (by omega)]; rfl
def turnL (k n : List UInt8) (c : UInt32) (s : List UInt8) : List UInt8 := fro (ksAt k n c) s s.length
def turnInv (k n : List UInt8) (c : UInt32) (s : List UInt8) (q : Nat) : St := ⟨[(10, .c (.one (.ptr 40032 0 0 0))), (11, .c (.one (.sl 50008 0 1 s.length))), (12, .c (.one (.num (64 * q : Nat))))], [(40032, ⟨.cells 1 ((iniL k n (c + UInt32.ofNat q)).map .u32), true⟩), (50008, ⟨.arr UInt8 u8L (fro (ksAt k n c) s (64 * q)), true⟩)]⟩
theorem outL_len : ∀ (y x : List UInt32), y.length = x.length → (outL y x).length = 4 * x.length
  | [], [], _ => rfl
  | y :: ys, x :: xs, h => by
    have := outL_len ys xs (by simpa using h)
    rw [outL, List.length_append, this]
    simp [w4]; omega
theorem stirL_len (l : List UInt32) (h : l.length = 16) : (stirL l).length = 64 := by
  have h10 := dtimes_len l h 10
  rw [stirL, outL_len _ _ (by rw [h10, h]), h]
def partInv (k n : List UInt8) (c : UInt32) (s : List UInt8) (q m i : Nat) : St := ⟨[(10, .c (.one (.ptr 40032 0 0 0))), (11, .c (.one (.sl 50008 0 1 s.length))), (12, .c (.one (.num (64 * q : Nat)))), (13, .c (.one (.str (stirL (iniL k n (c + UInt32.ofNat q)))))), (14, .c (.one (.sl 50008 (64 * q) 1 m))), (43, .c (.one (.num m))), (44, .c (.one (.num i)))], [(40032, ⟨.cells 1 ((iniL k n (c + UInt32.ofNat q)).map .u32), true⟩), (50008, ⟨.arr UInt8 u8L (fro (ksAt k n c) s (64 * q + i)), true⟩)]⟩
set_option maxRecDepth 100000 in
set_option maxHeartbeats 4000000 in
theorem turn_tri (k n : List UInt8) (c : UInt32) (s : List UInt8) (hs : s.length ≤ 1048576) : Tri Tryd.prog 42 [.one (.str k), .one (.str n), .one (.u32 c), .one (.str s)] [] (.tup [.one (.str (if rightB k n = true then turnL k n c s else [])), .one (.bo (rightB k n))]) [] := by
  refine tri_of (envOf_ok ga4_ok 63) Tryd.func42 rfl rfl (rs := [.tmp 8, .tmp 9]) rfl rfl (by simp [envOf]) rfl [] ?_
  cases hr : rightB k n with
  | false => simp only [envOf, ga4, rightC, initialC, stirC, hr, go_sem, reduceCtorEq, ↓reduceIte, Nat.reduceAdd, Nat.reduceMul, Nat.reduceSub, Nat.reduceEqDiff, Nat.reduceLT, Nat.reduceBEq, Nat.reduceBNe, Nat.reduceLeDiff, Int.reduceLE, Int.reduceLT, Int.reduceToNat, Int.reduceEq, Int.reduceAdd, UInt8.reduceToNat, UInt32.reduceToNat, UInt64.reduceToNat, UInt8.reduceOfNat, UInt32.reduceOfNat, UInt64.reduceOfNat, Fin.isValue, Int.reduceSub, Int.reduceMul, Int.reduceNeg, Int.reduceMod, Int.reduceDiv, Int.reduceTDiv, Int.reduceTMod, Int.reduceBEq, Int.reduceBNe, Nat.reduceDiv, Nat.reducePow]
  | true =>
    have hh := (rightB_iff k n).1 hr
    simp only [envOf, ga4, rightC, initialC, stirC, hr, hh.1, hh.2, iniL, u32s, go_sem, reduceCtorEq, ↓reduceIte, Nat.reduceAdd, Nat.reduceMul, Nat.reduceSub, Nat.reduceEqDiff, Nat.reduceLT, Nat.reduceBEq, Nat.reduceBNe, Nat.reduceLeDiff, Int.reduceLE, Int.reduceLT, Int.reduceToNat, Int.reduceEq, Int.reduceAdd, UInt8.reduceToNat, UInt32.reduceToNat, UInt64.reduceToNat, UInt8.reduceOfNat, UInt32.reduceOfNat, UInt64.reduceOfNat, Fin.isValue, Int.reduceSub, Int.reduceMul, Int.reduceNeg, Int.reduceMod, Int.reduceDiv, Int.reduceTDiv, Int.reduceTMod, Int.reduceBEq, Int.reduceBNe, Nat.reduceDiv, Nat.reducePow]
    refine loop_inv (envOf_ok ga4_ok 63) (turnInv k n c s) (fun q => 64 * q ≤ s.length + 63) (fun q => s.length + 64 - 64 * q) 0 [] (by omega) ?_ ?_
    · simp only [turnInv, iniL, fro_zero, UInt32.add_zero, go_sem, reduceCtorEq, ↓reduceIte, Nat.reduceAdd, Nat.reduceMul, Nat.reduceSub, Nat.reduceEqDiff, Nat.reduceLT, Nat.reduceBEq, Nat.reduceBNe, Nat.reduceLeDiff, Int.reduceLE, Int.reduceLT, Int.reduceToNat, Int.reduceEq, Int.reduceAdd, UInt8.reduceToNat, UInt32.reduceToNat, UInt64.reduceToNat, UInt8.reduceOfNat, UInt32.reduceOfNat, UInt64.reduceOfNat, Fin.isValue, Int.reduceSub, Int.reduceMul, Int.reduceNeg, Int.reduceMod, Int.reduceDiv, Int.reduceTDiv, Int.reduceTMod, Int.reduceBEq, Int.reduceBNe, Nat.reduceDiv, Nat.reducePow]
    · intro q hq
      simp only [turnInv, envOf, ga4, stirC, iniL, u32s, go_sem, reduceCtorEq, ↓reduceIte, Nat.reduceAdd, Nat.reduceMul, Nat.reduceSub, Nat.reduceEqDiff, Nat.reduceLT, Nat.reduceBEq, Nat.reduceBNe, Nat.reduceLeDiff, Int.reduceLE, Int.reduceLT, Int.reduceToNat, Int.reduceEq, Int.reduceAdd, UInt8.reduceToNat, UInt32.reduceToNat, UInt64.reduceToNat, UInt8.reduceOfNat, UInt32.reduceOfNat, UInt64.reduceOfNat, Fin.isValue, Int.reduceSub, Int.reduceMul, Int.reduceNeg, Int.reduceMod, Int.reduceDiv, Int.reduceTDiv, Int.reduceTMod, Int.reduceBEq, Int.reduceBNe, Nat.reduceDiv, Nat.reducePow]
      refine br (fun h => ?_) fun h => ?_
      · have hlt : 64 * q < s.length := by have := of_decide_eq_true h; omega
        obtain ⟨m, hm⟩ : ∃ m, m = min 64 (s.length - 64 * q) := ⟨_, rfl⟩
        have hw : IntKind.i64.wrap (((64 * q : Nat) : Int) + 64) = ((64 * q + 64 : Nat) : Int) := by rw [IntKind.wrap_i64]; omega
        have hmin : min ((64 * q + 64 : Nat) : Int) (s.length : Int) = ((64 * q + m : Nat) : Int) := by omega
        simp only [h, ga4, stirC, iniL, u32s, hw, hmin, Nat.add_sub_cancel_left, go_sem, reduceCtorEq, ↓reduceIte, Nat.reduceAdd, Nat.reduceMul, Nat.reduceSub, Nat.reduceEqDiff, Nat.reduceLT, Nat.reduceBEq, Nat.reduceBNe, Nat.reduceLeDiff, Int.reduceLE, Int.reduceLT, Int.reduceToNat, Int.reduceEq, Int.reduceAdd, UInt8.reduceToNat, UInt32.reduceToNat, UInt64.reduceToNat, UInt8.reduceOfNat, UInt32.reduceOfNat, UInt64.reduceOfNat, Fin.isValue, Int.reduceSub, Int.reduceMul, Int.reduceNeg, Int.reduceMod, Int.reduceDiv, Int.reduceTDiv, Int.reduceTMod, Int.reduceBEq, Int.reduceBNe, Nat.reduceDiv, Nat.reducePow]
        refine ⟨by omega, ?_⟩
        refine loop_inv (envOf_ok ga4_ok 63) (partInv k n c s q m) (fun i => i ≤ m) (fun i => m - i) 0 [] (by omega) ?_ ?_
        · simp only [partInv, iniL, Nat.add_zero, go_sem, reduceCtorEq, ↓reduceIte, Nat.reduceAdd, Nat.reduceMul, Nat.reduceSub, Nat.reduceEqDiff, Nat.reduceLT, Nat.reduceBEq, Nat.reduceBNe, Nat.reduceLeDiff, Int.reduceLE, Int.reduceLT, Int.reduceToNat, Int.reduceEq, Int.reduceAdd, UInt8.reduceToNat, UInt32.reduceToNat, UInt64.reduceToNat, UInt8.reduceOfNat, UInt32.reduceOfNat, UInt64.reduceOfNat, Fin.isValue, Int.reduceSub, Int.reduceMul, Int.reduceNeg, Int.reduceMod, Int.reduceDiv, Int.reduceTDiv, Int.reduceTMod, Int.reduceBEq, Int.reduceBNe, Nat.reduceDiv, Nat.reducePow]
        · intro i hi
          simp only [partInv, envOf, ga4, stirC, iniL, u32s, go_sem, reduceCtorEq, ↓reduceIte, Nat.reduceAdd, Nat.reduceMul, Nat.reduceSub, Nat.reduceEqDiff, Nat.reduceLT, Nat.reduceBEq, Nat.reduceBNe, Nat.reduceLeDiff, Int.reduceLE, Int.reduceLT, Int.reduceToNat, Int.reduceEq, Int.reduceAdd, UInt8.reduceToNat, UInt32.reduceToNat, UInt64.reduceToNat, UInt8.reduceOfNat, UInt32.reduceOfNat, UInt64.reduceOfNat, Fin.isValue, Int.reduceSub, Int.reduceMul, Int.reduceNeg, Int.reduceMod, Int.reduceDiv, Int.reduceTDiv, Int.reduceTMod, Int.reduceBEq, Int.reduceBNe, Nat.reduceDiv, Nat.reducePow]
          refine br (fun h' => ?_) fun h' => ?_
          · have hlt' : i < m := by have := of_decide_eq_true h'; omega
            have hw' : IntKind.i64.wrap ((i : Int) + 1) = ((i + 1 : Nat) : Int) := by rw [IntKind.wrap_i64]; omega
            simp only [h', ga4, stirC, iniL, u32s, hw', go_sem, reduceCtorEq, ↓reduceIte, Nat.reduceAdd, Nat.reduceMul, Nat.reduceSub, Nat.reduceEqDiff, Nat.reduceLT, Nat.reduceBEq, Nat.reduceBNe, Nat.reduceLeDiff, Int.reduceLE, Int.reduceLT, Int.reduceToNat, Int.reduceEq, Int.reduceAdd, UInt8.reduceToNat, UInt32.reduceToNat, UInt64.reduceToNat, UInt8.reduceOfNat, UInt32.reduceOfNat, UInt64.reduceOfNat, Fin.isValue, Int.reduceSub, Int.reduceMul, Int.reduceNeg, Int.reduceMod, Int.reduceDiv, Int.reduceTDiv, Int.reduceTMod, Int.reduceBEq, Int.reduceBNe, Nat.reduceDiv, Nat.reducePow]
            have hS : (stirL (iniL k n (c + UInt32.ofNat q))).length = 64 := stirL_len _ rfl
            have hk : (stirL (iniL k n (c + UInt32.ofNat q))).getD i 0 = ksAt k n c (64 * q + i) := by
              unfold ksAt
              rw [show (64 * q + i) / 64 = q by omega, show (64 * q + i) % 64 = i by omega]
            have hset : (fro (ksAt k n c) s (64 * q + i)).set (64 * q + i) ((fro (ksAt k n c) s (64 * q + i)).getD (64 * q + i) 0 ^^^ (stirL (iniL k n (c + UInt32.ofNat q))).getD i 0) = fro (ksAt k n c) s (64 * q + (i + 1)) := by
              rw [hk]; exact fro_set _ _ _
            simp only [iniL] at hS hset
            refine ⟨by omega, by rw [fro_len]; omega, by rw [hS]; omega, by omega, by rw [fro_len]; omega, rfl, again (i + 1) [] (by omega) (by omega) ?_⟩
            simp only [partInv, iniL, hset, go_sem, reduceCtorEq, ↓reduceIte, Nat.reduceAdd, Nat.reduceMul, Nat.reduceSub, Nat.reduceEqDiff, Nat.reduceLT, Nat.reduceBEq, Nat.reduceBNe, Nat.reduceLeDiff, Int.reduceLE, Int.reduceLT, Int.reduceToNat, Int.reduceEq, Int.reduceAdd, UInt8.reduceToNat, UInt32.reduceToNat, UInt64.reduceToNat, UInt8.reduceOfNat, UInt32.reduceOfNat, UInt64.reduceOfNat, Fin.isValue, Int.reduceSub, Int.reduceMul, Int.reduceNeg, Int.reduceMod, Int.reduceDiv, Int.reduceTDiv, Int.reduceTMod, Int.reduceBEq, Int.reduceBNe, Nat.reduceDiv, Nat.reducePow]
          · have hi' : i = m := by have := of_decide_eq_false h'; omega
            subst hi'
            have hw2 : IntKind.i64.wrap (((64 * q : Nat) : Int) + 64) = ((64 * (q + 1) : Nat) : Int) := by rw [IntKind.wrap_i64]; omega
            have hfe : fro (ksAt k n c) s (64 * q + i) = fro (ksAt k n c) s (64 * (q + 1)) := by
              by_cases h64 : i = 64
              · rw [h64]; rfl
              · rw [fro_end _ _ (64 * q + i) (by omega), fro_end _ _ (64 * (q + 1)) (by omega)]
            have hc : c + UInt32.ofNat q + 1 = c + UInt32.ofNat (q + 1) := by
              rw [UInt32.ofNat_add, UInt32.add_assoc]; rfl
            simp only [h', ga4, stirC, iniL, u32s, hw2, hc, hfe, go_sem, reduceCtorEq, ↓reduceIte, Nat.reduceAdd, Nat.reduceMul, Nat.reduceSub, Nat.reduceEqDiff, Nat.reduceLT, Nat.reduceBEq, Nat.reduceBNe, Nat.reduceLeDiff, Int.reduceLE, Int.reduceLT, Int.reduceToNat, Int.reduceEq, Int.reduceAdd, UInt8.reduceToNat, UInt32.reduceToNat, UInt64.reduceToNat, UInt8.reduceOfNat, UInt32.reduceOfNat, UInt64.reduceOfNat, Fin.isValue, Int.reduceSub, Int.reduceMul, Int.reduceNeg, Int.reduceMod, Int.reduceDiv, Int.reduceTDiv, Int.reduceTMod, Int.reduceBEq, Int.reduceBNe, Nat.reduceDiv, Nat.reducePow]
            refine again (q + 1) [] (by omega) (by omega) ?_
            simp only [turnInv, iniL, go_sem, reduceCtorEq, ↓reduceIte, Nat.reduceAdd, Nat.reduceMul, Nat.reduceSub, Nat.reduceEqDiff, Nat.reduceLT, Nat.reduceBEq, Nat.reduceBNe, Nat.reduceLeDiff, Int.reduceLE, Int.reduceLT, Int.reduceToNat, Int.reduceEq, Int.reduceAdd, UInt8.reduceToNat, UInt32.reduceToNat, UInt64.reduceToNat, UInt8.reduceOfNat, UInt32.reduceOfNat, UInt64.reduceOfNat, Fin.isValue, Int.reduceSub, Int.reduceMul, Int.reduceNeg, Int.reduceMod, Int.reduceDiv, Int.reduceTDiv, Int.reduceTMod, Int.reduceBEq, Int.reduceBNe, Nat.reduceDiv, Nat.reducePow]
      · have hge : s.length ≤ 64 * q := by have := of_decide_eq_false h; omega
        have hfull := fro_end (ksAt k n c) s (64 * q) hge
        have ht : List.take s.length (fro (ksAt k n c) s s.length) = fro (ksAt k n c) s s.length := List.take_of_length_le (by rw [fro_len]; exact Nat.le_refl _)
        simp only [h, ga4, stirC, iniL, u32s, hfull, ht, turnL, fro_len, go_sem, reduceCtorEq, ↓reduceIte, Nat.reduceAdd, Nat.reduceMul, Nat.reduceSub, Nat.reduceEqDiff, Nat.reduceLT, Nat.reduceBEq, Nat.reduceBNe, Nat.reduceLeDiff, Int.reduceLE, Int.reduceLT, Int.reduceToNat, Int.reduceEq, Int.reduceAdd, UInt8.reduceToNat, UInt32.reduceToNat, UInt64.reduceToNat, UInt8.reduceOfNat, UInt32.reduceOfNat, UInt64.reduceOfNat, Fin.isValue, Int.reduceSub, Int.reduceMul, Int.reduceNeg, Int.reduceMod, Int.reduceDiv, Int.reduceTDiv, Int.reduceTMod, Int.reduceBEq, Int.reduceBNe, Nat.reduceDiv, Nat.reducePow]
end Go.Proofs.YtahiopdkekkibaaDoor.FC

/-
  Layer 5: the laws of a string turned.
-/
namespace Go.Proofs.YtahiopdkekkibaaDoor.FC
open Go Go.RowKit
set_option linter.unusedSimpArgs false
set_option linter.unusedVariables false
def blockC : Con := con0 fun args => match args with
  | [.one (.str k), .one (.str n), .one (.u32 c)] => some (.tup [.one (.str (if rightB k n = true then blockL k n c else [])), .one (.bo (rightB k n))], [])
  | _ => none
theorem blockC_ok : ConOk Tryd.prog 70 blockC := con0_ok Tryd.func70 rfl rfl fun args res ob h hob => by
  split at h
  · injection h with h; injection h with h1 h2; subst h1; subst h2; exact block_tri _ _ _
  · cases h
def turnC : Con := con0 fun args => match args with
  | [.one (.str k), .one (.str n), .one (.u32 c), .one (.str s)] => some (.tup [.one (.str (if rightB k n = true then turnL k n c s else [])), .one (.bo (rightB k n))], [s.length ≤ 1048576])
  | _ => none
theorem turnC_ok : ConOk Tryd.prog 42 turnC := con0_ok Tryd.func42 rfl rfl fun args res ob h hob => by
  split at h
  · injection h with h; injection h with h1 h2; subst h1; subst h2; exact turn_tri _ _ _ _ hob.1
  · cases h
theorem turnL_len (k n : List UInt8) (c : UInt32) (s : List UInt8) : (turnL k n c s).length = s.length := fro_len _ _ _
theorem turnL_getElem? (k n : List UInt8) (c : UInt32) (s : List UInt8) (i : Nat) : (turnL k n c s)[i]? = s[i]?.map fun b => b ^^^ ksAt k n c i := by
  simp only [turnL, fro, List.getElem?_mapIdx]
  by_cases h : i < s.length
  · rw [List.getElem?_eq_getElem h]; simp [h]
  · rw [List.getElem?_eq_none (by omega)]; rfl
theorem turn_turn (k n : List UInt8) (c : UInt32) (s : List UInt8) : turnL k n c (turnL k n c s) = s := by
  apply List.ext_getElem?; intro i
  rw [turnL_getElem?, turnL_getElem?]
  cases s[i]? with
  | none => rfl
  | some b => simp [UInt8.xor_assoc]
end Go.Proofs.YtahiopdkekkibaaDoor.FC

/-
  Layer 6: laws of the tag that need no values.
-/
namespace Go.Proofs.YtahiopdkekkibaaDoor.FC
open Go Go.RowKit
set_option maxHeartbeats 4000000
set_option linter.unusedSimpArgs false
set_option linter.unusedVariables false
theorem tagL_len (k s : List UInt8) : (tagL k s).length = 16 := addB_len' _ _ _
end Go.Proofs.YtahiopdkekkibaaDoor.FC

/-
  Layer 5: noughts, turned, are the stream.
-/
namespace Go.Proofs.YtahiopdkekkibaaDoor.FC
open Go Go.RowKit
set_option linter.unusedSimpArgs false
set_option linter.unusedVariables false
theorem toBytes_rep (n : Nat) : toBytes (List.replicate n (.u8 0)) = some (List.replicate n 0) := by
  induction n with
  | zero => rfl
  | succ n ih => rw [List.replicate_succ, toBytes, ih]; rfl
theorem take_rep {α : Type _} (n : Nat) (a : α) : (List.replicate n a).take n = List.replicate n a := by
  rw [List.take_of_length_le (by rw [List.length_replicate]; exact Nat.le_refl _)]
end Go.Proofs.YtahiopdkekkibaaDoor.FC

/-
  Layer 7: what goes with the text.
-/
namespace Go.Proofs.YtahiopdkekkibaaDoor.FC
open Go Go.RowKit
set_option maxHeartbeats 4000000
set_option linter.unusedSimpArgs false
set_option linter.unusedVariables false
def fillL (s : List UInt8) : List UInt8 := s ++ List.replicate ((16 - s.length % 16) % 16) 0
set_option maxRecDepth 100000 in
theorem fill_tri (s : List UInt8) (hs : s.length ≤ 1048576) : Tri Tryd.prog 72 [.one (.str s)] [] (.c (.one (.str (fillL s)))) [] := by
  refine tri_of (envOf_ok ga0_ok 12) Tryd.func72 rfl rfl (rs := [.tmp 2]) rfl rfl (by simp [envOf]) rfl [] ?_
  have h1 : ((s.length : Nat) : Int).tmod 16 = ((s.length % 16 : Nat) : Int) := by rw [show (16 : Int) = ((16 : Nat) : Int) from rfl, ← Int.ofNat_tmod]
  have h2 : IntKind.i64.wrap (16 - ((s.length % 16 : Nat) : Int)) = ((16 - s.length % 16 : Nat) : Int) := by rw [IntKind.wrap_i64]; omega
  have h3 : ((16 - s.length % 16 : Nat) : Int).tmod 16 = (((16 - s.length % 16) % 16 : Nat) : Int) := by rw [show (16 : Int) = ((16 : Nat) : Int) from rfl, ← Int.ofNat_tmod]
  simp only [envOf, ga0, h1, h2, h3, toBytes_rep, take_rep, List.length_replicate, fillL, go_sem, reduceCtorEq, ↓reduceIte, Nat.reduceAdd, Nat.reduceMul, Nat.reduceSub, Nat.reduceEqDiff, Nat.reduceLT, Nat.reduceBEq, Nat.reduceBNe, Nat.reduceLeDiff, Int.reduceLE, Int.reduceLT, Int.reduceToNat, Int.reduceEq, Int.reduceAdd, UInt8.reduceToNat, UInt32.reduceToNat, UInt64.reduceToNat, UInt8.reduceOfNat, UInt32.reduceOfNat, UInt64.reduceOfNat, Fin.isValue, Int.reduceSub, Int.reduceMul, Int.reduceNeg, Int.reduceMod, Int.reduceDiv, Int.reduceTDiv, Int.reduceTMod, Int.reduceBEq, Int.reduceBNe, Nat.reduceDiv, Nat.reducePow]
  exact ⟨⟨by omega, by omega, by omega⟩, by omega⟩
def lenB (n : Nat) : List UInt8 := [(shr64 (by64 (n : Int)) 0).toUInt8, (shr64 (by64 (n : Int)) 8).toUInt8, (shr64 (by64 (n : Int)) 16).toUInt8, (shr64 (by64 (n : Int)) 24).toUInt8, (shr64 (by64 (n : Int)) 32).toUInt8, (shr64 (by64 (n : Int)) 40).toUInt8, (shr64 (by64 (n : Int)) 48).toUInt8, (shr64 (by64 (n : Int)) 56).toUInt8]
set_option maxRecDepth 100000 in
theorem length_tri (s : List UInt8) : Tri Tryd.prog 73 [.one (.str s)] [] (.c (.one (.str (lenB s.length)))) [] := by
  refine tri_of (envOf_ok ga0_ok 22) Tryd.func73 rfl rfl (rs := [.tmp 2]) rfl rfl (by simp [envOf]) rfl [] ?_
  simp only [envOf, ga0, go_sem, reduceCtorEq, ↓reduceIte, Nat.reduceAdd, Nat.reduceMul, Nat.reduceSub, Nat.reduceEqDiff, Nat.reduceLT, Nat.reduceBEq, Nat.reduceBNe, Nat.reduceLeDiff, Int.reduceLE, Int.reduceLT, Int.reduceToNat, Int.reduceEq, Int.reduceAdd, UInt8.reduceToNat, UInt32.reduceToNat, UInt64.reduceToNat, UInt8.reduceOfNat, UInt32.reduceOfNat, UInt64.reduceOfNat, Fin.isValue, Int.reduceSub, Int.reduceMul, Int.reduceNeg, Int.reduceMod, Int.reduceDiv, Int.reduceTDiv, Int.reduceTMod, Int.reduceBEq, Int.reduceBNe, Nat.reduceDiv, Nat.reducePow]
  refine loop_rounds (envOf_ok ga0_ok 22) 9 ?_
  simp only [envOf, ga0, lenB, go_sem, reduceCtorEq, ↓reduceIte, Nat.reduceAdd, Nat.reduceMul, Nat.reduceSub, Nat.reduceEqDiff, Nat.reduceLT, Nat.reduceBEq, Nat.reduceBNe, Nat.reduceLeDiff, Int.reduceLE, Int.reduceLT, Int.reduceToNat, Int.reduceEq, Int.reduceAdd, UInt8.reduceToNat, UInt32.reduceToNat, UInt64.reduceToNat, UInt8.reduceOfNat, UInt32.reduceOfNat, UInt64.reduceOfNat, Fin.isValue, Int.reduceSub, Int.reduceMul, Int.reduceNeg, Int.reduceMod, Int.reduceDiv, Int.reduceTDiv, Int.reduceTMod, Int.reduceBEq, Int.reduceBNe, Nat.reduceDiv, Nat.reducePow]
def fillC : Con := con0 fun args => match args with
  | [.one (.str s)] => some (.c (.one (.str (fillL s))), [s.length ≤ 1048576])
  | _ => none
theorem fillC_ok : ConOk Tryd.prog 72 fillC := con0_ok Tryd.func72 rfl rfl fun args res ob h hob => by
  split at h
  · injection h with h; injection h with h1 h2; subst h1; subst h2; exact fill_tri _ hob.1
  · cases h
def lengthC : Con := con0 fun args => match args with
  | [.one (.str s)] => some (.c (.one (.str (lenB s.length))), [])
  | _ => none
theorem lengthC_ok : ConOk Tryd.prog 73 lengthC := con0_ok Tryd.func73 rfl rfl fun args res ob h hob => by
  split at h
  · injection h with h; injection h with h1 h2; subst h1; subst h2; exact length_tri _
  · cases h
def difA (a b : List UInt8) : Nat → UInt8
  | 0 => 0
  | i + 1 => difA a b i ||| (a.getD i 0 ^^^ b.getD i 0)
theorem difA_zero (a b : List UInt8) : ∀ n, difA a b n = 0 ↔ ∀ i, i < n → a.getD i 0 = b.getD i 0
  | 0 => by simp [difA]
  | n + 1 => by
    rw [difA, UInt8.or_eq_zero_iff, difA_zero a b n, UInt8.xor_eq_zero_iff]
    constructor
    · rintro ⟨h1, h2⟩ i hi
      by_cases e : i = n
      · rw [e]; exact h2
      · exact h1 i (by omega)
    · intro h
      exact ⟨fun i hi => h i (by omega), h n (by omega)⟩
theorem difA_eq (a b : List UInt8) (h : a.length = b.length) : (difA a b a.length == 0) = (a == b) := by
  rw [Bool.eq_iff_iff, beq_iff_eq, beq_iff_eq, difA_zero]
  constructor
  · intro hi
    apply List.ext_getElem h
    intro i h1 h2
    have := hi i h1
    rw [List.getD_eq_getElem?_getD, List.getD_eq_getElem?_getD, List.getElem?_eq_getElem h1, List.getElem?_eq_getElem h2] at this
    exact this
  · intro e i _
    rw [e]
def sameInv (a b : List UInt8) (i : Nat) : St := ⟨[(0, .c (.one (.str a))), (1, .c (.one (.str b))), (4, .c (.one (.bo false))), (5, .c (.one (.u8 (difA a b i)))), (12, .c (.one (.str a))), (13, .c (.one (.num a.length))), (14, .c (.one (.num i)))], []⟩
set_option maxRecDepth 100000 in
theorem same_tri (a b : List UInt8) (hl : a.length ≤ 1048576) : Tri Tryd.prog 44 [.one (.str a), .one (.str b)] [] (.c (.one (.bo (a == b)))) [] := by
  refine tri_of (envOf_ok ga0_ok 29) Tryd.func44 rfl rfl (rs := [.tmp 4]) rfl rfl (by simp [envOf]) rfl [] ?_
  cases h : ((a.length : Int) == (b.length : Int)) with
  | false =>
    have e : (a == b) = false := by
      rw [beq_eq_false_iff_ne]
      intro e
      subst e
      simp at h
    simp only [envOf, ga0, h, e, go_sem, reduceCtorEq, ↓reduceIte, Nat.reduceAdd, Nat.reduceMul, Nat.reduceSub, Nat.reduceEqDiff, Nat.reduceLT, Nat.reduceBEq, Nat.reduceBNe, Nat.reduceLeDiff, Int.reduceLE, Int.reduceLT, Int.reduceToNat, Int.reduceEq, Int.reduceAdd, UInt8.reduceToNat, UInt32.reduceToNat, UInt64.reduceToNat, UInt8.reduceOfNat, UInt32.reduceOfNat, UInt64.reduceOfNat, Fin.isValue, Int.reduceSub, Int.reduceMul, Int.reduceNeg, Int.reduceMod, Int.reduceDiv, Int.reduceTDiv, Int.reduceTMod, Int.reduceBEq, Int.reduceBNe, Nat.reduceDiv, Nat.reducePow]
  | true =>
    have hab : a.length = b.length := by have := eq_of_beq h; omega
    have e := difA_eq a b hab
    simp only [envOf, ga0, h, go_sem, reduceCtorEq, ↓reduceIte, Nat.reduceAdd, Nat.reduceMul, Nat.reduceSub, Nat.reduceEqDiff, Nat.reduceLT, Nat.reduceBEq, Nat.reduceBNe, Nat.reduceLeDiff, Int.reduceLE, Int.reduceLT, Int.reduceToNat, Int.reduceEq, Int.reduceAdd, UInt8.reduceToNat, UInt32.reduceToNat, UInt64.reduceToNat, UInt8.reduceOfNat, UInt32.reduceOfNat, UInt64.reduceOfNat, Fin.isValue, Int.reduceSub, Int.reduceMul, Int.reduceNeg, Int.reduceMod, Int.reduceDiv, Int.reduceTDiv, Int.reduceTMod, Int.reduceBEq, Int.reduceBNe, Nat.reduceDiv, Nat.reducePow]
    refine loop_inv (envOf_ok ga0_ok 29) (sameInv a b) (fun i => i ≤ a.length) (fun i => a.length - i) 0 [] (by omega) ?_ ?_
    · simp only [sameInv, difA, go_sem, reduceCtorEq, ↓reduceIte, Nat.reduceAdd, Nat.reduceMul, Nat.reduceSub, Nat.reduceEqDiff, Nat.reduceLT, Nat.reduceBEq, Nat.reduceBNe, Nat.reduceLeDiff, Int.reduceLE, Int.reduceLT, Int.reduceToNat, Int.reduceEq, Int.reduceAdd, UInt8.reduceToNat, UInt32.reduceToNat, UInt64.reduceToNat, UInt8.reduceOfNat, UInt32.reduceOfNat, UInt64.reduceOfNat, Fin.isValue, Int.reduceSub, Int.reduceMul, Int.reduceNeg, Int.reduceMod, Int.reduceDiv, Int.reduceTDiv, Int.reduceTMod, Int.reduceBEq, Int.reduceBNe, Nat.reduceDiv, Nat.reducePow]
    · intro i hi
      simp only [sameInv, envOf, ga0, go_sem, reduceCtorEq, ↓reduceIte, Nat.reduceAdd, Nat.reduceMul, Nat.reduceSub, Nat.reduceEqDiff, Nat.reduceLT, Nat.reduceBEq, Nat.reduceBNe, Nat.reduceLeDiff, Int.reduceLE, Int.reduceLT, Int.reduceToNat, Int.reduceEq, Int.reduceAdd, UInt8.reduceToNat, UInt32.reduceToNat, UInt64.reduceToNat, UInt8.reduceOfNat, UInt32.reduceOfNat, UInt64.reduceOfNat, Fin.isValue, Int.reduceSub, Int.reduceMul, Int.reduceNeg, Int.reduceMod, Int.reduceDiv, Int.reduceTDiv, Int.reduceTMod, Int.reduceBEq, Int.reduceBNe, Nat.reduceDiv, Nat.reducePow]
      refine br (fun h2 => ?_) fun h2 => ?_
      · have hlt : i < a.length := by have := of_decide_eq_true h2; omega
        have hw : IntKind.i64.wrap ((i : Int) + 1) = ((i + 1 : Nat) : Int) := by rw [IntKind.wrap_i64]; omega
        simp only [h2, ga0, hw, go_sem, reduceCtorEq, ↓reduceIte, Nat.reduceAdd, Nat.reduceMul, Nat.reduceSub, Nat.reduceEqDiff, Nat.reduceLT, Nat.reduceBEq, Nat.reduceBNe, Nat.reduceLeDiff, Int.reduceLE, Int.reduceLT, Int.reduceToNat, Int.reduceEq, Int.reduceAdd, UInt8.reduceToNat, UInt32.reduceToNat, UInt64.reduceToNat, UInt8.reduceOfNat, UInt32.reduceOfNat, UInt64.reduceOfNat, Fin.isValue, Int.reduceSub, Int.reduceMul, Int.reduceNeg, Int.reduceMod, Int.reduceDiv, Int.reduceTDiv, Int.reduceTMod, Int.reduceBEq, Int.reduceBNe, Nat.reduceDiv, Nat.reducePow]
        refine ⟨⟨by omega, by omega⟩, ⟨by omega, by omega⟩, rfl, again (i + 1) [] (by omega) (by omega) ?_⟩
        simp only [sameInv, difA, go_sem, reduceCtorEq, ↓reduceIte, Nat.reduceAdd, Nat.reduceMul, Nat.reduceSub, Nat.reduceEqDiff, Nat.reduceLT, Nat.reduceBEq, Nat.reduceBNe, Nat.reduceLeDiff, Int.reduceLE, Int.reduceLT, Int.reduceToNat, Int.reduceEq, Int.reduceAdd, UInt8.reduceToNat, UInt32.reduceToNat, UInt64.reduceToNat, UInt8.reduceOfNat, UInt32.reduceOfNat, UInt64.reduceOfNat, Fin.isValue, Int.reduceSub, Int.reduceMul, Int.reduceNeg, Int.reduceMod, Int.reduceDiv, Int.reduceTDiv, Int.reduceTMod, Int.reduceBEq, Int.reduceBNe, Nat.reduceDiv, Nat.reducePow]
      · have hi' : i = a.length := by have := of_decide_eq_false h2; omega
        subst hi'
        simp only [h2, ga0, e, go_sem, reduceCtorEq, ↓reduceIte, Nat.reduceAdd, Nat.reduceMul, Nat.reduceSub, Nat.reduceEqDiff, Nat.reduceLT, Nat.reduceBEq, Nat.reduceBNe, Nat.reduceLeDiff, Int.reduceLE, Int.reduceLT, Int.reduceToNat, Int.reduceEq, Int.reduceAdd, UInt8.reduceToNat, UInt32.reduceToNat, UInt64.reduceToNat, UInt8.reduceOfNat, UInt32.reduceOfNat, UInt64.reduceOfNat, Fin.isValue, Int.reduceSub, Int.reduceMul, Int.reduceNeg, Int.reduceMod, Int.reduceDiv, Int.reduceTDiv, Int.reduceTMod, Int.reduceBEq, Int.reduceBNe, Nat.reduceDiv, Nat.reducePow]
def sameC : Con := con0 fun args => match args with
  | [.one (.str a), .one (.str b)] => some (.c (.one (.bo (a == b))), [a.length ≤ 1048576])
  | _ => none
theorem sameC_ok : ConOk Tryd.prog 44 sameC := con0_ok Tryd.func44 rfl rfl fun args res ob h hob => by
  split at h
  · injection h with h; injection h with h1 h2; subst h1; subst h2; exact same_tri _ _ hob.1
  · cases h
end Go.Proofs.YtahiopdkekkibaaDoor.FC

/-
  Layer 7: what is sealed, and opened; the laws that ask no document's answer.
-/
namespace Go.Proofs.YtahiopdkekkibaaDoor.FC
open Go Go.RowKit
set_option maxHeartbeats 4000000
set_option linter.unusedSimpArgs false
set_option linter.unusedVariables false
theorem fillL_len (s : List UInt8) : (fillL s).length = s.length + (16 - s.length % 16) % 16 := by simp [fillL]
theorem fillL_le (s : List UInt8) : (fillL s).length ≤ s.length + 15 := by rw [fillL_len]; omega
theorem lenB_len (n : Nat) : (lenB n).length = 8 := rfl
theorem blkLen (k n : List UInt8) (c : UInt32) : (blockL k n c).length = 64 := stirL_len _ rfl
def tagA (k n w t : List UInt8) : List UInt8 := tagL ((blockL k n 0).take 32) (fillL w ++ fillL t ++ lenB w.length ++ lenB t.length)
theorem tagA_len (k n w t : List UInt8) : (tagA k n w t).length = 16 := tagL_len _ _
theorem keyB_blk (k n : List UInt8) (c : UInt32) : keyB ((blockL k n c).take 32) = true := by
  have h : ((blockL k n c).take 32).length = 32 := by rw [List.length_take, blkLen]; rfl
  simp [keyB, h]
def gd1 : Nat → Option Con := fun f => match f with
  | 70 => some blockC
  | 71 => some tagC
  | 72 => some fillC
  | 73 => some lengthC
  | _ => none
theorem gd1_ok : GaOk Tryd.prog gd1 := fun f con h => by
  unfold gd1 at h
  split at h
  · injection h with h; subst h; exact blockC_ok
  · injection h with h; subst h; exact tagC_ok
  · injection h with h; subst h; exact fillC_ok
  · injection h with h; subst h; exact lengthC_ok
  · cases h
set_option maxRecDepth 100000 in
theorem tagA_tri (k n w t : List UInt8) (hr : rightB k n = true) (hw : w.length ≤ 65536) (ht : t.length ≤ 65536) : Tri Tryd.prog 43 [.one (.str k), .one (.str n), .one (.str w), .one (.str t)] [] (.c (.one (.str (tagA k n w t)))) [] := by
  refine tri_of (envOf_ok gd1_ok 37) Tryd.func43 rfl rfl (rs := [.tmp 8]) rfl rfl (by simp [envOf]) rfl [] ?_
  have h1 := keyB_blk k n 0
  have h2 := blkLen k n 0
  have f1 := fillL_le w
  have f2 := fillL_le t
  simp only [envOf, gd1, blockC, tagC, fillC, lengthC, hr, h1, h2, tagA, go_sem, reduceCtorEq, ↓reduceIte, Nat.reduceAdd, Nat.reduceMul, Nat.reduceSub, Nat.reduceEqDiff, Nat.reduceLT, Nat.reduceBEq, Nat.reduceBNe, Nat.reduceLeDiff, Int.reduceLE, Int.reduceLT, Int.reduceToNat, Int.reduceEq, Int.reduceAdd, UInt8.reduceToNat, UInt32.reduceToNat, UInt64.reduceToNat, UInt8.reduceOfNat, UInt32.reduceOfNat, UInt64.reduceOfNat, Fin.isValue, Int.reduceSub, Int.reduceMul, Int.reduceNeg, Int.reduceMod, Int.reduceDiv, Int.reduceTDiv, Int.reduceTMod, Int.reduceBEq, Int.reduceBNe, Nat.reduceDiv, Nat.reducePow]
  simp only [List.length_append, lenB_len]
  exact ⟨by omega, by omega, by omega, by omega, by omega, by omega, rfl⟩
def tagAC : Con := con0 fun args => match args with
  | [.one (.str k), .one (.str n), .one (.str w), .one (.str t)] => some (.c (.one (.str (tagA k n w t))), [rightB k n = true, w.length ≤ 65536, t.length ≤ 65536])
  | _ => none
theorem tagAC_ok : ConOk Tryd.prog 43 tagAC := con0_ok Tryd.func43 rfl rfl fun args res ob h hob => by
  split at h
  · injection h with h; injection h with h1 h2; subst h1; subst h2; exact tagA_tri _ _ _ _ hob.1 hob.2.1 hob.2.2.1
  · cases h
def gd2 : Nat → Option Con := fun f => match f with
  | 42 => some turnC
  | 43 => some tagAC
  | 44 => some sameC
  | _ => none
theorem gd2_ok : GaOk Tryd.prog gd2 := fun f con h => by
  unfold gd2 at h
  split at h
  · injection h with h; subst h; exact turnC_ok
  · injection h with h; subst h; exact tagAC_ok
  · injection h with h; subst h; exact sameC_ok
  · cases h
def sealL (k n w s : List UInt8) : List UInt8 := turnL k n 1 s ++ tagA k n w (turnL k n 1 s)
theorem sealL_len (k n w s : List UInt8) : (sealL k n w s).length = s.length + 16 := by rw [sealL, List.length_append, tagA_len, turnL_len]
set_option maxRecDepth 100000 in
theorem seal_tri (k n w s : List UInt8) (hw : w.length ≤ 65536) (hs : s.length ≤ 65536) : Tri Tryd.prog 24 [.one (.str k), .one (.str n), .one (.str w), .one (.str s)] [] (.tup [.one (.str (if rightB k n = true then sealL k n w s else [])), .one (.num (if rightB k n = true then 0 else 1))]) [] := by
  refine tri_of (envOf_ok gd2_ok 28) Tryd.func24 rfl rfl (rs := [.tmp 8, .tmp 9]) rfl rfl (by simp [envOf]) rfl [] ?_
  cases hr : rightB k n with
  | false =>
    simp only [envOf, gd2, turnC, tagAC, sameC, hr, go_sem, reduceCtorEq, ↓reduceIte, Nat.reduceAdd, Nat.reduceMul, Nat.reduceSub, Nat.reduceEqDiff, Nat.reduceLT, Nat.reduceBEq, Nat.reduceBNe, Nat.reduceLeDiff, Int.reduceLE, Int.reduceLT, Int.reduceToNat, Int.reduceEq, Int.reduceAdd, UInt8.reduceToNat, UInt32.reduceToNat, UInt64.reduceToNat, UInt8.reduceOfNat, UInt32.reduceOfNat, UInt64.reduceOfNat, Fin.isValue, Int.reduceSub, Int.reduceMul, Int.reduceNeg, Int.reduceMod, Int.reduceDiv, Int.reduceTDiv, Int.reduceTMod, Int.reduceBEq, Int.reduceBNe, Nat.reduceDiv, Nat.reducePow]
    omega
  | true =>
    simp only [envOf, gd2, turnC, tagAC, sameC, hr, sealL, turnL_len, tagA_len, go_sem, reduceCtorEq, ↓reduceIte, Nat.reduceAdd, Nat.reduceMul, Nat.reduceSub, Nat.reduceEqDiff, Nat.reduceLT, Nat.reduceBEq, Nat.reduceBNe, Nat.reduceLeDiff, Int.reduceLE, Int.reduceLT, Int.reduceToNat, Int.reduceEq, Int.reduceAdd, UInt8.reduceToNat, UInt32.reduceToNat, UInt64.reduceToNat, UInt8.reduceOfNat, UInt32.reduceOfNat, UInt64.reduceOfNat, Fin.isValue, Int.reduceSub, Int.reduceMul, Int.reduceNeg, Int.reduceMod, Int.reduceDiv, Int.reduceTDiv, Int.reduceTMod, Int.reduceBEq, Int.reduceBNe, Nat.reduceDiv, Nat.reducePow]
    exact ⟨by omega, ⟨hw, hs⟩, by omega⟩
def sealC : Con := con0 fun args => match args with
  | [.one (.str k), .one (.str n), .one (.str w), .one (.str s)] => some (.tup [.one (.str (if rightB k n = true then sealL k n w s else [])), .one (.num (if rightB k n = true then 0 else 1))], [w.length ≤ 65536, s.length ≤ 65536])
  | _ => none
theorem sealC_ok : ConOk Tryd.prog 24 sealC := con0_ok Tryd.func24 rfl rfl fun args res ob h hob => by
  split at h
  · injection h with h; injection h with h1 h2; subst h1; subst h2; exact seal_tri _ _ _ _ hob.1 hob.2.1
  · cases h
def openB (k n w box : List UInt8) : Bool := box.drop (box.length - 16) == tagA k n w (box.take (box.length - 16))
def openS (k n w box : List UInt8) : List UInt8 := if rightB k n = true then if box.length < 16 then [] else if openB k n w box = true then turnL k n 1 (box.take (box.length - 16)) else [] else []
def openE (k n w box : List UInt8) : Int := if rightB k n = true then if box.length < 16 then 7 else if openB k n w box = true then 0 else 7 else 1
set_option maxRecDepth 100000 in
theorem open_tri (k n w box : List UInt8) (hw : w.length ≤ 65536) (hs : box.length ≤ 65536) : Tri Tryd.prog 25 [.one (.str k), .one (.str n), .one (.str w), .one (.str box)] [] (.tup [.one (.str (openS k n w box)), .one (.num (openE k n w box))]) [] := by
  refine tri_of (envOf_ok gd2_ok 51) Tryd.func25 rfl rfl (rs := [.tmp 8, .tmp 9]) rfl rfl (by simp [envOf]) rfl [] ?_
  cases hk : ((k.length : Int) == 32) with
  | false =>
    have hr : rightB k n = false := by simp only [rightB, hk, Bool.false_and]
    simp only [envOf, gd2, turnC, tagAC, sameC, hk, hr, openS, openE, go_sem, reduceCtorEq, ↓reduceIte, Nat.reduceAdd, Nat.reduceMul, Nat.reduceSub, Nat.reduceEqDiff, Nat.reduceLT, Nat.reduceBEq, Nat.reduceBNe, Nat.reduceLeDiff, Int.reduceLE, Int.reduceLT, Int.reduceToNat, Int.reduceEq, Int.reduceAdd, UInt8.reduceToNat, UInt32.reduceToNat, UInt64.reduceToNat, UInt8.reduceOfNat, UInt32.reduceOfNat, UInt64.reduceOfNat, Fin.isValue, Int.reduceSub, Int.reduceMul, Int.reduceNeg, Int.reduceMod, Int.reduceDiv, Int.reduceTDiv, Int.reduceTMod, Int.reduceBEq, Int.reduceBNe, Nat.reduceDiv, Nat.reducePow]
  | true =>
    cases hn : ((n.length : Int) == 12) with
    | false =>
      have hr : rightB k n = false := by simp only [rightB, hk, hn, Bool.and_false]
      simp only [envOf, gd2, turnC, tagAC, sameC, hk, hn, hr, openS, openE, go_sem, reduceCtorEq, ↓reduceIte, Nat.reduceAdd, Nat.reduceMul, Nat.reduceSub, Nat.reduceEqDiff, Nat.reduceLT, Nat.reduceBEq, Nat.reduceBNe, Nat.reduceLeDiff, Int.reduceLE, Int.reduceLT, Int.reduceToNat, Int.reduceEq, Int.reduceAdd, UInt8.reduceToNat, UInt32.reduceToNat, UInt64.reduceToNat, UInt8.reduceOfNat, UInt32.reduceOfNat, UInt64.reduceOfNat, Fin.isValue, Int.reduceSub, Int.reduceMul, Int.reduceNeg, Int.reduceMod, Int.reduceDiv, Int.reduceTDiv, Int.reduceTMod, Int.reduceBEq, Int.reduceBNe, Nat.reduceDiv, Nat.reducePow]
    | true =>
      have hr : rightB k n = true := by simp only [rightB, hk, hn]; rfl
      cases hb : decide ((box.length : Int) < 16) with
      | true =>
        have hb' : box.length < 16 := by have := of_decide_eq_true hb; omega
        simp only [envOf, gd2, turnC, tagAC, sameC, hk, hn, hr, hb, hb', openS, openE, go_sem, reduceCtorEq, ↓reduceIte, Nat.reduceAdd, Nat.reduceMul, Nat.reduceSub, Nat.reduceEqDiff, Nat.reduceLT, Nat.reduceBEq, Nat.reduceBNe, Nat.reduceLeDiff, Int.reduceLE, Int.reduceLT, Int.reduceToNat, Int.reduceEq, Int.reduceAdd, UInt8.reduceToNat, UInt32.reduceToNat, UInt64.reduceToNat, UInt8.reduceOfNat, UInt32.reduceOfNat, UInt64.reduceOfNat, Fin.isValue, Int.reduceSub, Int.reduceMul, Int.reduceNeg, Int.reduceMod, Int.reduceDiv, Int.reduceTDiv, Int.reduceTMod, Int.reduceBEq, Int.reduceBNe, Nat.reduceDiv, Nat.reducePow]
      | false =>
        have hb' : ¬ box.length < 16 := by have := of_decide_eq_false hb; omega
        have hw1 : IntKind.i64.wrap ((box.length : Int) - 16) = ((box.length - 16 : Nat) : Int) := by rw [IntKind.wrap_i64]; omega
        cases ho : openB k n w box with
        | false =>
          have ho' := ho
          unfold openB at ho'
          simp only [envOf, gd2, turnC, tagAC, sameC, hk, hn, hr, hb, hb', hw1, ho, ho', openS, openE, go_sem, reduceCtorEq, ↓reduceIte, Nat.reduceAdd, Nat.reduceMul, Nat.reduceSub, Nat.reduceEqDiff, Nat.reduceLT, Nat.reduceBEq, Nat.reduceBNe, Nat.reduceLeDiff, Int.reduceLE, Int.reduceLT, Int.reduceToNat, Int.reduceEq, Int.reduceAdd, UInt8.reduceToNat, UInt32.reduceToNat, UInt64.reduceToNat, UInt8.reduceOfNat, UInt32.reduceOfNat, UInt64.reduceOfNat, Fin.isValue, Int.reduceSub, Int.reduceMul, Int.reduceNeg, Int.reduceMod, Int.reduceDiv, Int.reduceTDiv, Int.reduceTMod, Int.reduceBEq, Int.reduceBNe, Nat.reduceDiv, Nat.reducePow]
          exact ⟨⟨by omega, by omega⟩, ⟨by omega, by omega⟩, rfl, ⟨hw, by rw [List.length_take]; omega⟩, by rw [List.length_drop]; omega⟩
        | true =>
          have ho' := ho
          unfold openB at ho'
          simp only [envOf, gd2, turnC, tagAC, sameC, hk, hn, hr, hb, hb', hw1, ho, ho', openS, openE, go_sem, reduceCtorEq, ↓reduceIte, Nat.reduceAdd, Nat.reduceMul, Nat.reduceSub, Nat.reduceEqDiff, Nat.reduceLT, Nat.reduceBEq, Nat.reduceBNe, Nat.reduceLeDiff, Int.reduceLE, Int.reduceLT, Int.reduceToNat, Int.reduceEq, Int.reduceAdd, UInt8.reduceToNat, UInt32.reduceToNat, UInt64.reduceToNat, UInt8.reduceOfNat, UInt32.reduceOfNat, UInt64.reduceOfNat, Fin.isValue, Int.reduceSub, Int.reduceMul, Int.reduceNeg, Int.reduceMod, Int.reduceDiv, Int.reduceTDiv, Int.reduceTMod, Int.reduceBEq, Int.reduceBNe, Nat.reduceDiv, Nat.reducePow]
          exact ⟨⟨by omega, by omega⟩, ⟨by omega, by omega⟩, rfl, ⟨hw, by rw [List.length_take]; omega⟩, by rw [List.length_drop]; omega, by rw [List.length_take]; omega⟩
def openC : Con := con0 fun args => match args with
  | [.one (.str k), .one (.str n), .one (.str w), .one (.str box)] => some (.tup [.one (.str (openS k n w box)), .one (.num (openE k n w box))], [w.length ≤ 65536, box.length ≤ 65536])
  | _ => none
theorem openC_ok : ConOk Tryd.prog 25 openC := con0_ok Tryd.func25 rfl rfl fun args res ob h hob => by
  split at h
  · injection h with h; injection h with h1 h2; subst h1; subst h2; exact open_tri _ _ _ _ hob.1 hob.2.1
  · cases h
theorem take_seal (k n w s : List UInt8) : (sealL k n w s).take s.length = turnL k n 1 s := by
  rw [sealL, List.take_left' (turnL_len k n 1 s)]
theorem drop_seal (k n w s : List UInt8) : (sealL k n w s).drop s.length = tagA k n w (turnL k n 1 s) := by
  rw [sealL, List.drop_left' (turnL_len k n 1 s)]
theorem open_seal (k n w s : List UInt8) (hr : rightB k n = true) : openS k n w (sealL k n w s) = s ∧ openE k n w (sealL k n w s) = 0 := by
  have hl := sealL_len k n w s
  have hb : openB k n w (sealL k n w s) = true := by
    unfold openB
    rw [hl, Nat.add_sub_cancel, take_seal, drop_seal]
    simp
  have h16 : ¬ (sealL k n w s).length < 16 := by omega
  simp only [openS, openE, hr, h16, hb, if_true, if_false]
  refine ⟨?_, trivial⟩
  rw [hl, Nat.add_sub_cancel, take_seal, turn_turn]
theorem seal_open (k n w box : List UInt8) (h : openE k n w box = 0) : rightB k n = true ∧ sealL k n w (openS k n w box) = box ∧ (openS k n w box).length + 16 = box.length := by
  unfold openE at h
  split at h
  case isFalse => cases h
  rename_i hr
  split at h
  case isTrue => cases h
  rename_i h16
  split at h
  case isFalse => cases h
  rename_i hb
  have hs : openS k n w box = turnL k n 1 (box.take (box.length - 16)) := by simp only [openS, hr, h16, hb, if_true, if_false]
  refine ⟨hr, ?_, ?_⟩
  · rw [hs, sealL, turn_turn]
    unfold openB at hb
    rw [← eq_of_beq hb, List.take_append_drop]
  · rw [hs, turnL_len, List.length_take]; omega
end Go.Proofs.YtahiopdkekkibaaDoor.FC

/-
  Layer 8: classes, and what is padded.
-/
namespace Go.Proofs.YtahiopdkekkibaaDoor.FN
open Go Go.RowKit Go.Proofs
set_option maxHeartbeats 4000000
set_option linter.unusedSimpArgs false
set_option linter.unusedVariables false
def GN : List GFact := []
noncomputable def envN (ga : Nat → Option Con) (nt : Nat) : Env := ⟨ty, ga, [], nt, [], GN⟩
theorem envN_ok {ga : Nat → Option Con} (h : GaOkG Tryd.prog GN ga) (nt : Nat) : EnvOk Tryd.prog (envN ga nt) := ⟨ty_ok, h, by first | rfl | decide⟩
noncomputable def envNK (ga : Nat → Option Con) (nt : Nat) (keys : List Nat) : Env := ⟨ty, ga, [], nt, keys, GN⟩
theorem envNK_ok {ga : Nat → Option Con} (h : GaOkG Tryd.prog GN ga) (nt : Nat) (keys : List Nat) : EnvOk Tryd.prog (envNK ga nt keys) := ⟨ty_ok, h, by first | rfl | decide⟩
/-- The class of a number of bytes. -/
def cls (n : Int) : Int := if n < 0 then 0 else if 700 < n then 0 else if n ≤ 126 then 128 else if n ≤ 254 then 256 else if n ≤ 510 then 512 else 704
def gna : Nat → Option Con := fun f => match f with
  | _ => none
theorem gna_ok : GaOkG Tryd.prog GN gna := fun f con h => by
  unfold gna at h
  split at h
  · cases h
set_option maxRecDepth 100000 in
theorem class_tri (n : Int) : TriG Tryd.prog GN 10 [.one (.num n)] [] (.c (.one (.num (cls n)))) [] := by
  refine tri_ofx (envNK_ok gna_ok 21 []) Tryd.func10 rfl rfl (rs := [.tmp 2]) rfl rfl (by simp [envNK]) rfl ?_
  cases h0 : decide (n < 0) with
  | true =>
    have hv : cls n = 0 := by unfold cls; rw [if_pos (of_decide_eq_true h0)]
    simp only [envNK, con0, conS, strsOf_arr, rowS_arr, strsOf_cells, rowS_cells, toS, strL_st, strL_d, strL_enc, strL_up, hpN_nil, hpN_cons, gna, h0, hv, go_sem, reduceCtorEq, ↓reduceIte, Nat.reduceAdd, Nat.reduceMul, Nat.reduceSub, Nat.reduceEqDiff, Nat.reduceLT, Nat.reduceBEq, Nat.reduceBNe, Nat.reduceLeDiff, Int.reduceLE, Int.reduceLT, Int.reduceToNat, Int.reduceEq, Int.reduceAdd, UInt8.reduceToNat, UInt32.reduceToNat, UInt64.reduceToNat, UInt8.reduceOfNat, UInt32.reduceOfNat, UInt64.reduceOfNat, Fin.isValue, Int.reduceSub, Int.reduceMul, Int.reduceNeg, Int.reduceMod, Int.reduceDiv, Int.reduceTDiv, Int.reduceTMod, Int.reduceBEq, Int.reduceBNe, Nat.reduceDiv, Nat.reducePow]
    repeat' apply And.intro
    rotate_right
    · refine endX [] ?_
      simp only [envNK, con0, conS, strsOf_arr, rowS_arr, strsOf_cells, rowS_cells, toS, strL_st, strL_d, strL_enc, strL_up, hpN_nil, hpN_cons, gna, hv, go_sem, reduceCtorEq, ↓reduceIte, Nat.reduceAdd, Nat.reduceMul, Nat.reduceSub, Nat.reduceEqDiff, Nat.reduceLT, Nat.reduceBEq, Nat.reduceBNe, Nat.reduceLeDiff, Int.reduceLE, Int.reduceLT, Int.reduceToNat, Int.reduceEq, Int.reduceAdd, UInt8.reduceToNat, UInt32.reduceToNat, UInt64.reduceToNat, UInt8.reduceOfNat, UInt32.reduceOfNat, UInt64.reduceOfNat, Fin.isValue, Int.reduceSub, Int.reduceMul, Int.reduceNeg, Int.reduceMod, Int.reduceDiv, Int.reduceTDiv, Int.reduceTMod, Int.reduceBEq, Int.reduceBNe, Nat.reduceDiv, Nat.reducePow]
    all_goals first | omega | exact rfl | exact id
  | false =>
    cases h1 : decide (700 < n) with
    | true =>
      have hv : cls n = 0 := by unfold cls; rw [if_neg (of_decide_eq_false h0), if_pos (of_decide_eq_true h1)]
      simp only [envNK, con0, conS, strsOf_arr, rowS_arr, strsOf_cells, rowS_cells, toS, strL_st, strL_d, strL_enc, strL_up, hpN_nil, hpN_cons, gna, h0, h1, hv, go_sem, reduceCtorEq, ↓reduceIte, Nat.reduceAdd, Nat.reduceMul, Nat.reduceSub, Nat.reduceEqDiff, Nat.reduceLT, Nat.reduceBEq, Nat.reduceBNe, Nat.reduceLeDiff, Int.reduceLE, Int.reduceLT, Int.reduceToNat, Int.reduceEq, Int.reduceAdd, UInt8.reduceToNat, UInt32.reduceToNat, UInt64.reduceToNat, UInt8.reduceOfNat, UInt32.reduceOfNat, UInt64.reduceOfNat, Fin.isValue, Int.reduceSub, Int.reduceMul, Int.reduceNeg, Int.reduceMod, Int.reduceDiv, Int.reduceTDiv, Int.reduceTMod, Int.reduceBEq, Int.reduceBNe, Nat.reduceDiv, Nat.reducePow]
      repeat' apply And.intro
      rotate_right
      · refine endX [] ?_
        simp only [envNK, con0, conS, strsOf_arr, rowS_arr, strsOf_cells, rowS_cells, toS, strL_st, strL_d, strL_enc, strL_up, hpN_nil, hpN_cons, gna, hv, go_sem, reduceCtorEq, ↓reduceIte, Nat.reduceAdd, Nat.reduceMul, Nat.reduceSub, Nat.reduceEqDiff, Nat.reduceLT, Nat.reduceBEq, Nat.reduceBNe, Nat.reduceLeDiff, Int.reduceLE, Int.reduceLT, Int.reduceToNat, Int.reduceEq, Int.reduceAdd, UInt8.reduceToNat, UInt32.reduceToNat, UInt64.reduceToNat, UInt8.reduceOfNat, UInt32.reduceOfNat, UInt64.reduceOfNat, Fin.isValue, Int.reduceSub, Int.reduceMul, Int.reduceNeg, Int.reduceMod, Int.reduceDiv, Int.reduceTDiv, Int.reduceTMod, Int.reduceBEq, Int.reduceBNe, Nat.reduceDiv, Nat.reducePow]
      all_goals first | omega | exact rfl | exact id
    | false =>
      have i0 := of_decide_eq_false h0
      have i1 := of_decide_eq_false h1
      have hw : IntKind.i64.wrap (2 + n) = 2 + n := by rw [IntKind.wrap_i64]; omega
      have hv0 : cls n = if n ≤ 126 then 128 else if n ≤ 254 then 256 else if n ≤ 510 then 512 else 704 := by unfold cls; rw [if_neg i0, if_neg i1]
      have q1 : decide (2 + n ≤ 128) = decide (n ≤ 126) := decide_eq_decide.2 (by omega)
      have q2 : decide (2 + n ≤ 256) = decide (n ≤ 254) := decide_eq_decide.2 (by omega)
      have q3 : decide (2 + n ≤ 512) = decide (n ≤ 510) := decide_eq_decide.2 (by omega)
      simp only [envNK, con0, conS, strsOf_arr, rowS_arr, strsOf_cells, rowS_cells, toS, strL_st, strL_d, strL_enc, strL_up, hpN_nil, hpN_cons, gna, h0, h1, hw, go_sem, reduceCtorEq, ↓reduceIte, Nat.reduceAdd, Nat.reduceMul, Nat.reduceSub, Nat.reduceEqDiff, Nat.reduceLT, Nat.reduceBEq, Nat.reduceBNe, Nat.reduceLeDiff, Int.reduceLE, Int.reduceLT, Int.reduceToNat, Int.reduceEq, Int.reduceAdd, UInt8.reduceToNat, UInt32.reduceToNat, UInt64.reduceToNat, UInt8.reduceOfNat, UInt32.reduceOfNat, UInt64.reduceOfNat, Fin.isValue, Int.reduceSub, Int.reduceMul, Int.reduceNeg, Int.reduceMod, Int.reduceDiv, Int.reduceTDiv, Int.reduceTMod, Int.reduceBEq, Int.reduceBNe, Nat.reduceDiv, Nat.reducePow]
      refine loop_rounds (envNK_ok gna_ok 21 []) 4 ?_
      cases c1 : decide (n ≤ 126) with
      | true =>
        have hv : cls n = 128 := by rw [hv0, if_pos (of_decide_eq_true c1)]
        simp only [envNK, con0, conS, strsOf_arr, rowS_arr, strsOf_cells, rowS_cells, toS, strL_st, strL_d, strL_enc, strL_up, hpN_nil, hpN_cons, gna, hw, q1, c1, hv, go_sem, reduceCtorEq, ↓reduceIte, Nat.reduceAdd, Nat.reduceMul, Nat.reduceSub, Nat.reduceEqDiff, Nat.reduceLT, Nat.reduceBEq, Nat.reduceBNe, Nat.reduceLeDiff, Int.reduceLE, Int.reduceLT, Int.reduceToNat, Int.reduceEq, Int.reduceAdd, UInt8.reduceToNat, UInt32.reduceToNat, UInt64.reduceToNat, UInt8.reduceOfNat, UInt32.reduceOfNat, UInt64.reduceOfNat, Fin.isValue, Int.reduceSub, Int.reduceMul, Int.reduceNeg, Int.reduceMod, Int.reduceDiv, Int.reduceTDiv, Int.reduceTMod, Int.reduceBEq, Int.reduceBNe, Nat.reduceDiv, Nat.reducePow]
        repeat' apply And.intro
        rotate_right
        · refine endX [] ?_
          simp only [envNK, con0, conS, strsOf_arr, rowS_arr, strsOf_cells, rowS_cells, toS, strL_st, strL_d, strL_enc, strL_up, hpN_nil, hpN_cons, gna, hv, go_sem, reduceCtorEq, ↓reduceIte, Nat.reduceAdd, Nat.reduceMul, Nat.reduceSub, Nat.reduceEqDiff, Nat.reduceLT, Nat.reduceBEq, Nat.reduceBNe, Nat.reduceLeDiff, Int.reduceLE, Int.reduceLT, Int.reduceToNat, Int.reduceEq, Int.reduceAdd, UInt8.reduceToNat, UInt32.reduceToNat, UInt64.reduceToNat, UInt8.reduceOfNat, UInt32.reduceOfNat, UInt64.reduceOfNat, Fin.isValue, Int.reduceSub, Int.reduceMul, Int.reduceNeg, Int.reduceMod, Int.reduceDiv, Int.reduceTDiv, Int.reduceTMod, Int.reduceBEq, Int.reduceBNe, Nat.reduceDiv, Nat.reducePow]
        all_goals first | omega | exact rfl | exact id
      | false =>
        cases c2 : decide (n ≤ 254) with
        | true =>
          have hv : cls n = 256 := by rw [hv0, if_neg (of_decide_eq_false c1), if_pos (of_decide_eq_true c2)]
          simp only [envNK, con0, conS, strsOf_arr, rowS_arr, strsOf_cells, rowS_cells, toS, strL_st, strL_d, strL_enc, strL_up, hpN_nil, hpN_cons, gna, hw, q1, q2, c1, c2, hv, go_sem, reduceCtorEq, ↓reduceIte, Nat.reduceAdd, Nat.reduceMul, Nat.reduceSub, Nat.reduceEqDiff, Nat.reduceLT, Nat.reduceBEq, Nat.reduceBNe, Nat.reduceLeDiff, Int.reduceLE, Int.reduceLT, Int.reduceToNat, Int.reduceEq, Int.reduceAdd, UInt8.reduceToNat, UInt32.reduceToNat, UInt64.reduceToNat, UInt8.reduceOfNat, UInt32.reduceOfNat, UInt64.reduceOfNat, Fin.isValue, Int.reduceSub, Int.reduceMul, Int.reduceNeg, Int.reduceMod, Int.reduceDiv, Int.reduceTDiv, Int.reduceTMod, Int.reduceBEq, Int.reduceBNe, Nat.reduceDiv, Nat.reducePow]
          repeat' apply And.intro
          rotate_right
          · refine endX [] ?_
            simp only [envNK, con0, conS, strsOf_arr, rowS_arr, strsOf_cells, rowS_cells, toS, strL_st, strL_d, strL_enc, strL_up, hpN_nil, hpN_cons, gna, hv, go_sem, reduceCtorEq, ↓reduceIte, Nat.reduceAdd, Nat.reduceMul, Nat.reduceSub, Nat.reduceEqDiff, Nat.reduceLT, Nat.reduceBEq, Nat.reduceBNe, Nat.reduceLeDiff, Int.reduceLE, Int.reduceLT, Int.reduceToNat, Int.reduceEq, Int.reduceAdd, UInt8.reduceToNat, UInt32.reduceToNat, UInt64.reduceToNat, UInt8.reduceOfNat, UInt32.reduceOfNat, UInt64.reduceOfNat, Fin.isValue, Int.reduceSub, Int.reduceMul, Int.reduceNeg, Int.reduceMod, Int.reduceDiv, Int.reduceTDiv, Int.reduceTMod, Int.reduceBEq, Int.reduceBNe, Nat.reduceDiv, Nat.reducePow]
          all_goals first | omega | exact rfl | exact id
        | false =>
          cases c3 : decide (n ≤ 510) with
          | true =>
            have hv : cls n = 512 := by rw [hv0, if_neg (of_decide_eq_false c1), if_neg (of_decide_eq_false c2), if_pos (of_decide_eq_true c3)]
            simp only [envNK, con0, conS, strsOf_arr, rowS_arr, strsOf_cells, rowS_cells, toS, strL_st, strL_d, strL_enc, strL_up, hpN_nil, hpN_cons, gna, hw, q1, q2, q3, c1, c2, c3, hv, go_sem, reduceCtorEq, ↓reduceIte, Nat.reduceAdd, Nat.reduceMul, Nat.reduceSub, Nat.reduceEqDiff, Nat.reduceLT, Nat.reduceBEq, Nat.reduceBNe, Nat.reduceLeDiff, Int.reduceLE, Int.reduceLT, Int.reduceToNat, Int.reduceEq, Int.reduceAdd, UInt8.reduceToNat, UInt32.reduceToNat, UInt64.reduceToNat, UInt8.reduceOfNat, UInt32.reduceOfNat, UInt64.reduceOfNat, Fin.isValue, Int.reduceSub, Int.reduceMul, Int.reduceNeg, Int.reduceMod, Int.reduceDiv, Int.reduceTDiv, Int.reduceTMod, Int.reduceBEq, Int.reduceBNe, Nat.reduceDiv, Nat.reducePow]
            repeat' apply And.intro
            rotate_right
            · refine endX [] ?_
              simp only [envNK, con0, conS, strsOf_arr, rowS_arr, strsOf_cells, rowS_cells, toS, strL_st, strL_d, strL_enc, strL_up, hpN_nil, hpN_cons, gna, hv, go_sem, reduceCtorEq, ↓reduceIte, Nat.reduceAdd, Nat.reduceMul, Nat.reduceSub, Nat.reduceEqDiff, Nat.reduceLT, Nat.reduceBEq, Nat.reduceBNe, Nat.reduceLeDiff, Int.reduceLE, Int.reduceLT, Int.reduceToNat, Int.reduceEq, Int.reduceAdd, UInt8.reduceToNat, UInt32.reduceToNat, UInt64.reduceToNat, UInt8.reduceOfNat, UInt32.reduceOfNat, UInt64.reduceOfNat, Fin.isValue, Int.reduceSub, Int.reduceMul, Int.reduceNeg, Int.reduceMod, Int.reduceDiv, Int.reduceTDiv, Int.reduceTMod, Int.reduceBEq, Int.reduceBNe, Nat.reduceDiv, Nat.reducePow]
            all_goals first | omega | exact rfl | exact id
          | false =>
            have hv : cls n = 704 := by rw [hv0, if_neg (of_decide_eq_false c1), if_neg (of_decide_eq_false c2), if_neg (of_decide_eq_false c3)]
            simp only [envNK, con0, conS, strsOf_arr, rowS_arr, strsOf_cells, rowS_cells, toS, strL_st, strL_d, strL_enc, strL_up, hpN_nil, hpN_cons, gna, hw, q1, q2, q3, c1, c2, c3, hv, go_sem, reduceCtorEq, ↓reduceIte, Nat.reduceAdd, Nat.reduceMul, Nat.reduceSub, Nat.reduceEqDiff, Nat.reduceLT, Nat.reduceBEq, Nat.reduceBNe, Nat.reduceLeDiff, Int.reduceLE, Int.reduceLT, Int.reduceToNat, Int.reduceEq, Int.reduceAdd, UInt8.reduceToNat, UInt32.reduceToNat, UInt64.reduceToNat, UInt8.reduceOfNat, UInt32.reduceOfNat, UInt64.reduceOfNat, Fin.isValue, Int.reduceSub, Int.reduceMul, Int.reduceNeg, Int.reduceMod, Int.reduceDiv, Int.reduceTDiv, Int.reduceTMod, Int.reduceBEq, Int.reduceBNe, Nat.reduceDiv, Nat.reducePow]
            repeat' apply And.intro
            rotate_right
            · refine endX [] ?_
              simp only [envNK, con0, conS, strsOf_arr, rowS_arr, strsOf_cells, rowS_cells, toS, strL_st, strL_d, strL_enc, strL_up, hpN_nil, hpN_cons, gna, hv, go_sem, reduceCtorEq, ↓reduceIte, Nat.reduceAdd, Nat.reduceMul, Nat.reduceSub, Nat.reduceEqDiff, Nat.reduceLT, Nat.reduceBEq, Nat.reduceBNe, Nat.reduceLeDiff, Int.reduceLE, Int.reduceLT, Int.reduceToNat, Int.reduceEq, Int.reduceAdd, UInt8.reduceToNat, UInt32.reduceToNat, UInt64.reduceToNat, UInt8.reduceOfNat, UInt32.reduceOfNat, UInt64.reduceOfNat, Fin.isValue, Int.reduceSub, Int.reduceMul, Int.reduceNeg, Int.reduceMod, Int.reduceDiv, Int.reduceTDiv, Int.reduceTMod, Int.reduceBEq, Int.reduceBNe, Nat.reduceDiv, Nat.reducePow]
            all_goals first | omega | exact rfl | exact id
def classC : Con := con0 fun args => match args with
  | [.one (.num n)] => some (.c (.one (.num (cls n))), [])
  | _ => none
theorem classC_ok : ConOkG Tryd.prog GN 10 classC := con0_okG Tryd.func10 rfl rfl fun args res ob h hob => by
  split at h
  · injection h with h; injection h with h1 h2; subst h1; subst h2; exact class_tri _
  · cases h
theorem cls_spec (n : Int) : (cls n = 0 ∧ (n < 0 ∨ 700 < n)) ∨ (0 ≤ n ∧ n ≤ 700 ∧ n + 2 ≤ cls n ∧ cls n ≤ 704 ∧ 128 ≤ cls n) := by
  unfold cls
  split
  · exact .inl ⟨rfl, .inl ‹_›⟩
  · split
    · exact .inl ⟨rfl, .inr ‹_›⟩
    · right
      split
      · omega
      · split
        · omega
        · split <;> omega
/-- strings.Repeat; strings.Trim with one sign. -/
theorem repeat8_tri (p : List UInt8) (c : Int) (h0 : 0 ≤ c) (h1 : c ≤ 100000) (hp : p.length ≤ 1000) : TriG Tryd.prog GN 26 [.one (.str p), .one (.num c)] [] (.c (.one (.str (Lib.repeatL p c.toNat)))) [] := by
  refine tri_shelf fun w vals hg hv => ?_
  obtain ⟨u, v, rfl, hu, hv⟩ := all2_two hv
  obtain ⟨k, rfl⟩ : ∃ k : Nat, c = (k : Int) := ⟨c.toNat, by omega⟩
  rw [show u = .string ⟨p.toArray⟩ from hu, show v = .int .i64 (k : Int) from hv]
  have hsz : (⟨p.toArray⟩ : ByteArray).size = p.length := rfl
  refine (Tryd.strings_Repeat ⟨p.toArray⟩ k w (by omega) (by rw [hsz]; exact Nat.le_trans (Nat.mul_le_mul (show p.length ≤ 1000 from hp) (show k ≤ 100000 by omega)) (by decide))).mono ?_
  rintro e w' ⟨rfl, hb⟩
  exact ⟨_, rfl, rfl, hb⟩
def repeat8C : Con := con0 fun args => match args with
  | [.one (.str p), .one (.num c)] => some (.c (.one (.str (Lib.repeatL p c.toNat))), [0 ≤ c, c ≤ 100000, p.length ≤ 1000])
  | _ => none
theorem repeat8C_ok : ConOkG Tryd.prog GN 26 repeat8C := con0_okG Tryd.func26 rfl rfl fun args res ob h hob => by
  split at h
  · injection h with h; injection h with h1 h2; subst h1; subst h2; exact repeat8_tri _ _ hob.1 hob.2.1 hob.2.2.1
  · cases h
theorem trim8_tri (s : List UInt8) (c : UInt8) (hc : c.toNat < 128) (hs : s.length ≤ 9223372036854775807) : TriG Tryd.prog GN 36 [.one (.str s), .one (.str [c])] [] (.c (.one (.str (Lib.trimB s c)))) [] := by
  refine tri_shelf fun w vals hg hv => ?_
  obtain ⟨u, v, rfl, hu, hv⟩ := all2_two hv
  rw [show u = .string ⟨s.toArray⟩ from hu, show v = .string ⟨#[c]⟩ from hv]
  refine (Tryd.strings_Trim_one ⟨s.toArray⟩ c hc w hs).mono ?_
  rintro e w' ⟨rfl, hw⟩
  refine ⟨_, rfl, rfl, ?_⟩
  rcases hw with rfl | rfl
  · exact Below.refl _ _
  · exact ⟨rfl, rfl, rfl, Nat.le_refl _, fun _ _ => rfl⟩
def trim8C : Con := con0 fun args => match args with
  | [.one (.str s), .one (.str [c])] => some (.c (.one (.str (Lib.trimB s c))), [c.toNat < 128, s.length ≤ 9223372036854775807])
  | _ => none
theorem trim8C_ok : ConOkG Tryd.prog GN 36 trim8C := con0_okG Tryd.func36 rfl rfl fun args res ob h hob => by
  split at h
  · injection h with h; injection h with h1 h2; subst h1; subst h2; exact trim8_tri _ _ hob.1 hob.2.1
  · cases h
/-- What is padded. -/
def padT (s : List UInt8) : List UInt8 := s ++ List.replicate (cls s.length - 2 - s.length).toNat 0
def padL (s : List UInt8) : List UInt8 := by8 s.length :: by8 ((s.length / 256 : Nat) : Int) :: padT s
theorem rep_zero : ∀ k : Nat, Lib.repeatL [0] k = List.replicate k 0
  | 0 => rfl
  | k + 1 => by rw [Lib.repeatL, rep_zero k, List.replicate_succ]; rfl
def padV (s : List UInt8) : SV := if s.length ≤ 700 then .tup [.one (.str (padL s)), .one (.num 0)] else .tup [.one (.str []), .one (.num 4)]
def gnb : Nat → Option Con := fun f => match f with
  | 10 => some classC
  | 26 => some repeat8C
  | _ => none
theorem gnb_ok : GaOkG Tryd.prog GN gnb := fun f con h => by
  unfold gnb at h
  split at h
  · injection h with h; subst h; exact classC_ok
  · injection h with h; subst h; exact repeat8C_ok
  · cases h
set_option maxRecDepth 100000 in
theorem pad_tri (s : List UInt8) (hs : s.length ≤ 100000) : TriG Tryd.prog GN 11 [.one (.str s)] [] (padV s) [] := by
  refine tri_ofx (envNK_ok gnb_ok 30 []) Tryd.func11 rfl rfl (rs := [.tmp 2, .tmp 3]) rfl rfl (by simp [envNK]) rfl ?_
  rcases cls_spec s.length with ⟨h0, h1⟩ | ⟨h0, h1, h2, h3, h4⟩
  · have hv : padV s = .tup [.one (.str []), .one (.num 4)] := by unfold padV; rw [if_neg (by omega)]
    simp only [envNK, con0, conS, strsOf_arr, rowS_arr, strsOf_cells, rowS_cells, toS, strL_st, strL_d, strL_enc, strL_up, hpN_nil, hpN_cons, gnb, classC, repeat8C, h0, hv, go_sem, reduceCtorEq, ↓reduceIte, Nat.reduceAdd, Nat.reduceMul, Nat.reduceSub, Nat.reduceEqDiff, Nat.reduceLT, Nat.reduceBEq, Nat.reduceBNe, Nat.reduceLeDiff, Int.reduceLE, Int.reduceLT, Int.reduceToNat, Int.reduceEq, Int.reduceAdd, UInt8.reduceToNat, UInt32.reduceToNat, UInt64.reduceToNat, UInt8.reduceOfNat, UInt32.reduceOfNat, UInt64.reduceOfNat, Fin.isValue, Int.reduceSub, Int.reduceMul, Int.reduceNeg, Int.reduceMod, Int.reduceDiv, Int.reduceTDiv, Int.reduceTMod, Int.reduceBEq, Int.reduceBNe, Nat.reduceDiv, Nat.reducePow]
    repeat' apply And.intro
    rotate_right
    · refine endX [] ?_
      simp only [envNK, con0, conS, strsOf_arr, rowS_arr, strsOf_cells, rowS_cells, toS, strL_st, strL_d, strL_enc, strL_up, hpN_nil, hpN_cons, gnb, classC, repeat8C, hv, go_sem, reduceCtorEq, ↓reduceIte, Nat.reduceAdd, Nat.reduceMul, Nat.reduceSub, Nat.reduceEqDiff, Nat.reduceLT, Nat.reduceBEq, Nat.reduceBNe, Nat.reduceLeDiff, Int.reduceLE, Int.reduceLT, Int.reduceToNat, Int.reduceEq, Int.reduceAdd, UInt8.reduceToNat, UInt32.reduceToNat, UInt64.reduceToNat, UInt8.reduceOfNat, UInt32.reduceOfNat, UInt64.reduceOfNat, Fin.isValue, Int.reduceSub, Int.reduceMul, Int.reduceNeg, Int.reduceMod, Int.reduceDiv, Int.reduceTDiv, Int.reduceTMod, Int.reduceBEq, Int.reduceBNe, Nat.reduceDiv, Nat.reducePow]
    all_goals first | omega | exact rfl | exact id
  · have hv : padV s = .tup [.one (.str (padL s)), .one (.num 0)] := by unfold padV; rw [if_pos (by omega)]
    have hne : (cls s.length == 0) = false := beq_eq_false_iff_ne.2 (by omega)
    have w1 : IntKind.i64.wrap (cls s.length - 2) = cls s.length - 2 := by rw [IntKind.wrap_i64]; omega
    have w2 : IntKind.i64.wrap (cls s.length - 2 - s.length) = cls s.length - 2 - s.length := by rw [IntKind.wrap_i64]; omega
    have hf : (s.length : Int).fdiv (2 ^ (min 8 64)) = ((s.length / 256 : Nat) : Int) := by
      have e : (2 : Int) ^ (min 8 64) = 256 := by decide
      rw [e, Int.fdiv_eq_ediv_of_nonneg _ (by decide)]
      omega
    simp only [envNK, con0, conS, strsOf_arr, rowS_arr, strsOf_cells, rowS_cells, toS, strL_st, strL_d, strL_enc, strL_up, hpN_nil, hpN_cons, gnb, classC, repeat8C, hne, w1, w2, hf, rep_zero, go_sem, reduceCtorEq, ↓reduceIte, Nat.reduceAdd, Nat.reduceMul, Nat.reduceSub, Nat.reduceEqDiff, Nat.reduceLT, Nat.reduceBEq, Nat.reduceBNe, Nat.reduceLeDiff, Int.reduceLE, Int.reduceLT, Int.reduceToNat, Int.reduceEq, Int.reduceAdd, UInt8.reduceToNat, UInt32.reduceToNat, UInt64.reduceToNat, UInt8.reduceOfNat, UInt32.reduceOfNat, UInt64.reduceOfNat, Fin.isValue, Int.reduceSub, Int.reduceMul, Int.reduceNeg, Int.reduceMod, Int.reduceDiv, Int.reduceTDiv, Int.reduceTMod, Int.reduceBEq, Int.reduceBNe, Nat.reduceDiv, Nat.reducePow]
    (repeat' apply And.intro)
    rotate_right
    · refine endX [] ?_
      simp only [envNK, con0, conS, strsOf_arr, rowS_arr, strsOf_cells, rowS_cells, toS, strL_st, strL_d, strL_enc, strL_up, hpN_nil, hpN_cons, gnb, classC, repeat8C, hv, padL, padT, go_sem, reduceCtorEq, ↓reduceIte, Nat.reduceAdd, Nat.reduceMul, Nat.reduceSub, Nat.reduceEqDiff, Nat.reduceLT, Nat.reduceBEq, Nat.reduceBNe, Nat.reduceLeDiff, Int.reduceLE, Int.reduceLT, Int.reduceToNat, Int.reduceEq, Int.reduceAdd, UInt8.reduceToNat, UInt32.reduceToNat, UInt64.reduceToNat, UInt8.reduceOfNat, UInt32.reduceOfNat, UInt64.reduceOfNat, Fin.isValue, Int.reduceSub, Int.reduceMul, Int.reduceNeg, Int.reduceMod, Int.reduceDiv, Int.reduceTDiv, Int.reduceTMod, Int.reduceBEq, Int.reduceBNe, Nat.reduceDiv, Nat.reducePow]
    all_goals first | omega | exact rfl | exact id | (simp only [List.length_replicate]; omega)
def padC : Con := con0 fun args => match args with
  | [.one (.str s)] => some (padV s, [s.length ≤ 100000])
  | _ => none
theorem padC_ok : ConOkG Tryd.prog GN 11 padC := con0_okG Tryd.func11 rfl rfl fun args res ob h hob => by
  split at h
  · injection h with h; injection h with h1 h2; subst h1; subst h2; exact pad_tri _ hob.1
  · cases h
end Go.Proofs.YtahiopdkekkibaaDoor.FN

/-
  Layer 8: what was padded is told; the laws.
-/
namespace Go.Proofs.YtahiopdkekkibaaDoor.FN
open Go Go.RowKit Go.Proofs
set_option maxHeartbeats 4000000
set_option linter.unusedSimpArgs false
set_option linter.unusedVariables false
theorem dw_nil (c : UInt8) : ∀ l : List UInt8, (∀ x ∈ l.dropWhile (· == c), x = c) → l.dropWhile (· == c) = []
  | [], _ => rfl
  | a :: t, h => by
    rw [List.dropWhile_cons] at h ⊢
    split
    · rename_i ha
      rw [if_pos ha] at h
      exact dw_nil c t h
    · rename_i ha
      rw [if_neg ha] at h
      exact absurd (beq_iff_eq.2 (h a (by simp))) ha
theorem dw_all {c : UInt8} {l : List UInt8} : l.dropWhile (· == c) = [] ↔ ∀ x ∈ l, x = c := by
  induction l with
  | nil => simp
  | cons a t ih =>
    rw [List.dropWhile_cons]
    constructor
    · intro h x hx
      split at h
      · rename_i ha
        rcases List.mem_cons.1 hx with rfl | hx
        · exact beq_iff_eq.1 ha
        · exact ih.1 h x hx
      · cases h
    · intro h
      rw [if_pos (beq_iff_eq.2 (h a (by simp)))]
      exact ih.2 fun x hx => h x (by simp [hx])
theorem trim_nil {l : List UInt8} {c : UInt8} : Lib.trimB l c = [] ↔ ∀ x ∈ l, x = c := by
  unfold Lib.trimB Lib.trimLeftB Lib.trimRightB
  rw [dw_all]
  constructor
  · intro h x hx
    have h2 := dw_nil c l.reverse fun y hy => h y (List.mem_reverse.2 hy)
    exact dw_all.1 h2 x (List.mem_reverse.2 hx)
  · intro h x hx
    have h2 : l.reverse.dropWhile (· == c) = [] := dw_all.2 fun y hy => h y (List.mem_reverse.1 hy)
    rw [h2] at hx
    cases hx
def upN (s : List UInt8) : Nat := (s.getD 0 0).toNat + 256 * (s.getD 1 0).toNat
def upT (s : List UInt8) : List UInt8 := (s.drop 2).take (2 + upN s - 2)
def unOk (s : List UInt8) : Bool := decide (2 ≤ s.length) && (cls (upN s) == (s.length : Int)) && (Lib.trimB (s.drop (2 + upN s)) 0 == [])
def unV (s : List UInt8) : SV := if unOk s then .tup [.one (.str (upT s)), .one (.num 0)] else .tup [.one (.str []), .one (.num 3)]
theorem upN_lt (s : List UInt8) : upN s < 65536 := by
  unfold upN
  have h1 := (s.getD 0 0).toNat_lt
  have h2 := (s.getD 1 0).toNat_lt
  omega
def gnd : Nat → Option Con := fun f => match f with
  | 10 => some classC
  | 36 => some trim8C
  | _ => none
theorem gnd_ok : GaOkG Tryd.prog GN gnd := fun f con h => by
  unfold gnd at h
  split at h
  · injection h with h; subst h; exact classC_ok
  · injection h with h; subst h; exact trim8C_ok
  · cases h
set_option maxRecDepth 100000 in
theorem unpad_tri (s : List UInt8) (hs : s.length ≤ 100000) : TriG Tryd.prog GN 20 [.one (.str s)] [] (unV s) [] := by
  refine tri_ofx (envNK_ok gnd_ok 33 []) Tryd.func20 rfl rfl (rs := [.tmp 2, .tmp 3]) rfl rfl (by simp [envNK]) rfl ?_
  have bad : unOk s = false → unV s = .tup [.one (.str []), .one (.num 3)] := fun h => by unfold unV; rw [h]; rfl
  cases h2 : decide ((s.length : Int) < 2) with
  | true =>
    have hv := bad (by unfold unOk; rw [decide_eq_false (show ¬ 2 ≤ s.length by have := of_decide_eq_true h2; omega)]; rfl)
    simp only [envNK, con0, conS, strsOf_arr, rowS_arr, strsOf_cells, rowS_cells, toS, strL_st, strL_d, strL_enc, strL_up, hpN_nil, hpN_cons, gnd, classC, trim8C, h2, hv, go_sem, reduceCtorEq, ↓reduceIte, Nat.reduceAdd, Nat.reduceMul, Nat.reduceSub, Nat.reduceEqDiff, Nat.reduceLT, Nat.reduceBEq, Nat.reduceBNe, Nat.reduceLeDiff, Int.reduceLE, Int.reduceLT, Int.reduceToNat, Int.reduceEq, Int.reduceAdd, UInt8.reduceToNat, UInt32.reduceToNat, UInt64.reduceToNat, UInt8.reduceOfNat, UInt32.reduceOfNat, UInt64.reduceOfNat, Fin.isValue, Int.reduceSub, Int.reduceMul, Int.reduceNeg, Int.reduceMod, Int.reduceDiv, Int.reduceTDiv, Int.reduceTMod, Int.reduceBEq, Int.reduceBNe, Nat.reduceDiv, Nat.reducePow]
    repeat' apply And.intro
    rotate_right
    · refine endX [] ?_
      simp only [envNK, con0, conS, strsOf_arr, rowS_arr, strsOf_cells, rowS_cells, toS, strL_st, strL_d, strL_enc, strL_up, hpN_nil, hpN_cons, gnd, classC, trim8C, hv, go_sem, reduceCtorEq, ↓reduceIte, Nat.reduceAdd, Nat.reduceMul, Nat.reduceSub, Nat.reduceEqDiff, Nat.reduceLT, Nat.reduceBEq, Nat.reduceBNe, Nat.reduceLeDiff, Int.reduceLE, Int.reduceLT, Int.reduceToNat, Int.reduceEq, Int.reduceAdd, UInt8.reduceToNat, UInt32.reduceToNat, UInt64.reduceToNat, UInt8.reduceOfNat, UInt32.reduceOfNat, UInt64.reduceOfNat, Fin.isValue, Int.reduceSub, Int.reduceMul, Int.reduceNeg, Int.reduceMod, Int.reduceDiv, Int.reduceTDiv, Int.reduceTMod, Int.reduceBEq, Int.reduceBNe, Nat.reduceDiv, Nat.reducePow]
    all_goals first | omega | exact rfl | exact id
  | false =>
    have hl2 : 2 ≤ s.length := by have := of_decide_eq_false h2; omega
    have g0 : (0 : Int) ≤ 0 ∧ (0 : Int) < (s.length : Int) := ⟨by omega, by omega⟩
    have g1 : (0 : Int) ≤ 1 ∧ (1 : Int) < (s.length : Int) := ⟨by omega, by omega⟩
    have hn := upN_lt s
    have hlt1 := (s.getD 1 0).toNat_lt
    have f1 : IntKind.i64.wrap (((s.getD 1 0).toNat : Int) * 2 ^ (min 8 64)) = ((256 * (s.getD 1 0).toNat : Nat) : Int) := by
      have e : (2 : Int) ^ (min 8 64) = 256 := by decide
      rw [e, IntKind.wrap_i64]; omega
    have f2 : orI ((s.getD 0 0).toNat : Int) ((256 * (s.getD 1 0).toNat : Nat) : Int) = (upN s : Int) := orI_cat _ _ (s.getD 0 0).toNat_lt (s.getD 1 0).toNat_lt
    have w1 : IntKind.i64.wrap (2 + (upN s : Int)) = ((2 + upN s : Nat) : Int) := by rw [IntKind.wrap_i64]; omega
    cases hc : (cls (upN s) == (s.length : Int)) with
    | false =>
      have hv := bad (by unfold unOk; rw [hc, Bool.and_false]; rfl)
      simp only [envNK, con0, conS, strsOf_arr, rowS_arr, strsOf_cells, rowS_cells, toS, strL_st, strL_d, strL_enc, strL_up, hpN_nil, hpN_cons, gnd, classC, trim8C, h2, f1, f2, hc, Bool.not_true, Bool.not_false, hv, go_sem, reduceCtorEq, ↓reduceIte, Nat.reduceAdd, Nat.reduceMul, Nat.reduceSub, Nat.reduceEqDiff, Nat.reduceLT, Nat.reduceBEq, Nat.reduceBNe, Nat.reduceLeDiff, Int.reduceLE, Int.reduceLT, Int.reduceToNat, Int.reduceEq, Int.reduceAdd, UInt8.reduceToNat, UInt32.reduceToNat, UInt64.reduceToNat, UInt8.reduceOfNat, UInt32.reduceOfNat, UInt64.reduceOfNat, Fin.isValue, Int.reduceSub, Int.reduceMul, Int.reduceNeg, Int.reduceMod, Int.reduceDiv, Int.reduceTDiv, Int.reduceTMod, Int.reduceBEq, Int.reduceBNe, Nat.reduceDiv, Nat.reducePow]
      repeat' apply And.intro
      rotate_right
      · refine endX [] ?_
        simp only [envNK, con0, conS, strsOf_arr, rowS_arr, strsOf_cells, rowS_cells, toS, strL_st, strL_d, strL_enc, strL_up, hpN_nil, hpN_cons, gnd, classC, trim8C, hv, go_sem, reduceCtorEq, ↓reduceIte, Nat.reduceAdd, Nat.reduceMul, Nat.reduceSub, Nat.reduceEqDiff, Nat.reduceLT, Nat.reduceBEq, Nat.reduceBNe, Nat.reduceLeDiff, Int.reduceLE, Int.reduceLT, Int.reduceToNat, Int.reduceEq, Int.reduceAdd, UInt8.reduceToNat, UInt32.reduceToNat, UInt64.reduceToNat, UInt8.reduceOfNat, UInt32.reduceOfNat, UInt64.reduceOfNat, Fin.isValue, Int.reduceSub, Int.reduceMul, Int.reduceNeg, Int.reduceMod, Int.reduceDiv, Int.reduceTDiv, Int.reduceTMod, Int.reduceBEq, Int.reduceBNe, Nat.reduceDiv, Nat.reducePow]
      all_goals first | omega | exact rfl | exact id
    | true =>
      have hce := eq_of_beq hc
      have hsp : upN s + 2 ≤ s.length := by
        rcases cls_spec (upN s) with ⟨e, _⟩ | ⟨_, _, e, _, _⟩ <;> omega
      have hdl : (s.drop (2 + upN s)).length ≤ 9223372036854775807 := by simp only [List.length_drop]; omega
      have hc0 : (0 : UInt8).toNat < 128 := by decide
      cases hz : (Lib.trimB (s.drop (2 + upN s)) 0 == []) with
      | false =>
        have hv := bad (by unfold unOk; rw [hz, Bool.and_false])
        simp only [envNK, con0, conS, strsOf_arr, rowS_arr, strsOf_cells, rowS_cells, toS, strL_st, strL_d, strL_enc, strL_up, hpN_nil, hpN_cons, gnd, classC, trim8C, h2, f1, f2, w1, hc, hz, Bool.not_true, Bool.not_false, hv, Int.toNat_natCast, go_sem, reduceCtorEq, ↓reduceIte, Nat.reduceAdd, Nat.reduceMul, Nat.reduceSub, Nat.reduceEqDiff, Nat.reduceLT, Nat.reduceBEq, Nat.reduceBNe, Nat.reduceLeDiff, Int.reduceLE, Int.reduceLT, Int.reduceToNat, Int.reduceEq, Int.reduceAdd, UInt8.reduceToNat, UInt32.reduceToNat, UInt64.reduceToNat, UInt8.reduceOfNat, UInt32.reduceOfNat, UInt64.reduceOfNat, Fin.isValue, Int.reduceSub, Int.reduceMul, Int.reduceNeg, Int.reduceMod, Int.reduceDiv, Int.reduceTDiv, Int.reduceTMod, Int.reduceBEq, Int.reduceBNe, Nat.reduceDiv, Nat.reducePow]
        repeat' apply And.intro
        rotate_right
        · refine endX [] ?_
          simp only [envNK, con0, conS, strsOf_arr, rowS_arr, strsOf_cells, rowS_cells, toS, strL_st, strL_d, strL_enc, strL_up, hpN_nil, hpN_cons, gnd, classC, trim8C, hv, go_sem, reduceCtorEq, ↓reduceIte, Nat.reduceAdd, Nat.reduceMul, Nat.reduceSub, Nat.reduceEqDiff, Nat.reduceLT, Nat.reduceBEq, Nat.reduceBNe, Nat.reduceLeDiff, Int.reduceLE, Int.reduceLT, Int.reduceToNat, Int.reduceEq, Int.reduceAdd, UInt8.reduceToNat, UInt32.reduceToNat, UInt64.reduceToNat, UInt8.reduceOfNat, UInt32.reduceOfNat, UInt64.reduceOfNat, Fin.isValue, Int.reduceSub, Int.reduceMul, Int.reduceNeg, Int.reduceMod, Int.reduceDiv, Int.reduceTDiv, Int.reduceTMod, Int.reduceBEq, Int.reduceBNe, Nat.reduceDiv, Nat.reducePow]
        all_goals first | omega | exact rfl | exact id
      | true =>
        have hok : unOk s = true := by unfold unOk; rw [hz, hc, decide_eq_true hl2]; rfl
        have hv : unV s = .tup [.one (.str (upT s)), .one (.num 0)] := by unfold unV; rw [hok]; rfl
        simp only [envNK, con0, conS, strsOf_arr, rowS_arr, strsOf_cells, rowS_cells, toS, strL_st, strL_d, strL_enc, strL_up, hpN_nil, hpN_cons, gnd, classC, trim8C, h2, f1, f2, w1, hc, hz, Bool.not_true, Bool.not_false, hv, upT, Int.toNat_natCast, go_sem, reduceCtorEq, ↓reduceIte, Nat.reduceAdd, Nat.reduceMul, Nat.reduceSub, Nat.reduceEqDiff, Nat.reduceLT, Nat.reduceBEq, Nat.reduceBNe, Nat.reduceLeDiff, Int.reduceLE, Int.reduceLT, Int.reduceToNat, Int.reduceEq, Int.reduceAdd, UInt8.reduceToNat, UInt32.reduceToNat, UInt64.reduceToNat, UInt8.reduceOfNat, UInt32.reduceOfNat, UInt64.reduceOfNat, Fin.isValue, Int.reduceSub, Int.reduceMul, Int.reduceNeg, Int.reduceMod, Int.reduceDiv, Int.reduceTDiv, Int.reduceTMod, Int.reduceBEq, Int.reduceBNe, Nat.reduceDiv, Nat.reducePow]
        repeat' apply And.intro
        rotate_right
        · refine endX [] ?_
          simp only [envNK, con0, conS, strsOf_arr, rowS_arr, strsOf_cells, rowS_cells, toS, strL_st, strL_d, strL_enc, strL_up, hpN_nil, hpN_cons, gnd, classC, trim8C, upT, go_sem, reduceCtorEq, ↓reduceIte, Nat.reduceAdd, Nat.reduceMul, Nat.reduceSub, Nat.reduceEqDiff, Nat.reduceLT, Nat.reduceBEq, Nat.reduceBNe, Nat.reduceLeDiff, Int.reduceLE, Int.reduceLT, Int.reduceToNat, Int.reduceEq, Int.reduceAdd, UInt8.reduceToNat, UInt32.reduceToNat, UInt64.reduceToNat, UInt8.reduceOfNat, UInt32.reduceOfNat, UInt64.reduceOfNat, Fin.isValue, Int.reduceSub, Int.reduceMul, Int.reduceNeg, Int.reduceMod, Int.reduceDiv, Int.reduceTDiv, Int.reduceTMod, Int.reduceBEq, Int.reduceBNe, Nat.reduceDiv, Nat.reducePow]
          all_goals ((repeat' apply And.intro) <;> first | omega | exact rfl | exact id)
        all_goals first | omega | exact rfl | exact id
def unpadC : Con := con0 fun args => match args with
  | [.one (.str s)] => some (unV s, [s.length ≤ 100000])
  | _ => none
theorem unpadC_ok : ConOkG Tryd.prog GN 20 unpadC := con0_okG Tryd.func20 rfl rfl fun args res ob h hob => by
  split at h
  · injection h with h; injection h with h1 h2; subst h1; subst h2; exact unpad_tri _ hob.1
  · cases h
theorem upT_len {s : List UInt8} (h : upN s + 2 ≤ s.length) : (upT s).length = upN s := by
  unfold upT; simp only [List.length_take, List.length_drop]; omega
theorem s_parts {s : List UInt8} (h : 2 ≤ s.length) (hn : upN s + 2 ≤ s.length) : s = s.getD 0 0 :: s.getD 1 0 :: (upT s ++ s.drop (2 + upN s)) := by
  match s, h with
  | a :: b :: t, _ =>
    show a :: b :: t = a :: b :: (upT (a :: b :: t) ++ (a :: b :: t).drop (2 + upN (a :: b :: t)))
    unfold upT
    generalize upN (a :: b :: t) = n
    have e1 : 2 + n - 2 = n := by omega
    have e2 : (a :: b :: t).drop (2 + n) = t.drop n := by rw [Nat.add_comm]; rfl
    rw [e1, e2]
    show a :: b :: t = a :: b :: (t.take n ++ t.drop n)
    rw [List.take_append_drop]
theorem by8_up (s : List UInt8) : by8 (upN s : Int) = s.getD 0 0 ∧ by8 ((upN s / 256 : Nat) : Int) = s.getD 1 0 := by
  have h1 := (s.getD 0 0).toNat_lt
  have h2 := (s.getD 1 0).toNat_lt
  constructor
  · apply UInt8.toNat_inj.1
    unfold by8 upN
    rw [UInt8.toNat_ofNat']
    omega
  · apply UInt8.toNat_inj.1
    unfold by8 upN
    rw [UInt8.toNat_ofNat']
    omega
theorem pad_un {s : List UInt8} (h : 2 ≤ s.length) (hn : upN s + 2 ≤ s.length) (h7 : upN s ≤ 700) : (padL (upT s) == s) = unOk s := by
  have hl := upT_len hn
  obtain ⟨e1, e2⟩ := by8_up s
  have hp := s_parts h hn
  have hc := cls_spec (upN s)
  have hpad : padL (upT s) = s.getD 0 0 :: s.getD 1 0 :: (upT s ++ List.replicate (cls (upN s) - 2 - upN s).toNat 0) := by
    unfold padL padT
    rw [hl, e1, e2]
  have hiff : padL (upT s) = s ↔ List.replicate (cls (upN s) - 2 - upN s).toNat 0 = s.drop (2 + upN s) := by
    rw [hpad]
    constructor
    · intro e
      have e := e.trans hp
      exact List.append_cancel_left (List.cons.inj (List.cons.inj e).2).2
    · intro e
      rw [e]
      exact hp.symm
  rw [Bool.eq_iff_iff, beq_iff_eq, hiff]
  unfold unOk
  rw [decide_eq_true h, Bool.true_and, Bool.and_eq_true, beq_iff_eq, beq_iff_eq, trim_nil]
  have hdl : (s.drop (2 + upN s)).length = s.length - (2 + upN s) := List.length_drop
  constructor
  · intro e
    have := congrArg List.length e
    rw [List.length_replicate, hdl] at this
    refine ⟨by omega, fun x hx => ?_⟩
    rw [← e] at hx
    exact (List.mem_replicate.1 hx).2
  · rintro ⟨e, hz⟩
    refine (List.eq_replicate_iff.2 ⟨by omega, hz⟩).symm
theorem unpad_pad {s : List UInt8} (h : s.length ≤ 700) : unOk (padL s) = true ∧ upT (padL s) = s ∧ 2 ≤ (padL s).length ∧ (padL s).length ≤ 704 ∧ ((padL s).length : Int) = cls s.length := by
  have hc := cls_spec s.length
  have hpl : ((padL s).length : Int) = cls s.length := by
    unfold padL padT
    simp only [List.length_cons, List.length_append, List.length_replicate]
    omega
  have hN : upN (padL s) = s.length := by
    show (by8 (s.length : Int)).toNat + 256 * (by8 ((s.length / 256 : Nat) : Int)).toNat = _
    unfold by8
    rw [UInt8.toNat_ofNat', UInt8.toNat_ofNat']
    omega
  have hT : upT (padL s) = s := by
    unfold upT
    rw [hN]
    have e : 2 + s.length - 2 = s.length := by omega
    rw [e]
    show (padT s).take s.length = s
    unfold padT
    exact List.take_left' rfl
  have hu := pad_un (s := padL s) (by omega) (by rw [hN]; omega) (by rw [hN]; omega)
  rw [hT] at hu
  refine ⟨by rw [← hu]; simp, hT, by omega, by omega, hpl⟩
def gnf : Nat → Option Con := fun f => match f with
  | _ => none
theorem gnf_ok : GaOkG Tryd.prog GN gnf := fun f con h => by
  unfold gnf at h
  split at h
  · cases h
theorem clamp8_tri : TriG Tryd.prog GN 37 [.one (.str [])] [] (.tup [.one (.str []), .one (.bo false)]) [] := by
  refine tri_ofx (envNK_ok gnf_ok 24 []) Tryd.func37 rfl rfl (rs := [.tmp 2, .tmp 3]) rfl rfl (by simp [envNK]) rfl ?_
  simp only [envNK, con0, conS, strsOf_arr, rowS_arr, strsOf_cells, rowS_cells, toS, strL_st, strL_d, strL_enc, strL_up, hpN_nil, hpN_cons, gnf, List.length_nil, go_sem, reduceCtorEq, ↓reduceIte, Nat.reduceAdd, Nat.reduceMul, Nat.reduceSub, Nat.reduceEqDiff, Nat.reduceLT, Nat.reduceBEq, Nat.reduceBNe, Nat.reduceLeDiff, Int.reduceLE, Int.reduceLT, Int.reduceToNat, Int.reduceEq, Int.reduceAdd, UInt8.reduceToNat, UInt32.reduceToNat, UInt64.reduceToNat, UInt8.reduceOfNat, UInt32.reduceOfNat, UInt64.reduceOfNat, Fin.isValue, Int.reduceSub, Int.reduceMul, Int.reduceNeg, Int.reduceMod, Int.reduceDiv, Int.reduceTDiv, Int.reduceTMod, Int.reduceBEq, Int.reduceBNe, Nat.reduceDiv, Nat.reducePow]
  repeat' apply And.intro
  rotate_right
  · refine endX [] ?_
    simp only [envNK, con0, conS, strsOf_arr, rowS_arr, strsOf_cells, rowS_cells, toS, strL_st, strL_d, strL_enc, strL_up, hpN_nil, hpN_cons, gnf, go_sem, reduceCtorEq, ↓reduceIte, Nat.reduceAdd, Nat.reduceMul, Nat.reduceSub, Nat.reduceEqDiff, Nat.reduceLT, Nat.reduceBEq, Nat.reduceBNe, Nat.reduceLeDiff, Int.reduceLE, Int.reduceLT, Int.reduceToNat, Int.reduceEq, Int.reduceAdd, UInt8.reduceToNat, UInt32.reduceToNat, UInt64.reduceToNat, UInt8.reduceOfNat, UInt32.reduceOfNat, UInt64.reduceOfNat, Fin.isValue, Int.reduceSub, Int.reduceMul, Int.reduceNeg, Int.reduceMod, Int.reduceDiv, Int.reduceTDiv, Int.reduceTMod, Int.reduceBEq, Int.reduceBNe, Nat.reduceDiv, Nat.reducePow]
  all_goals first | omega | exact rfl | exact id
def clamp8C : Con := con0 fun args => match args with
  | [.one (.str [])] => some (.tup [.one (.str []), .one (.bo false)], [])
  | _ => none
theorem clamp8C_ok : ConOkG Tryd.prog GN 37 clamp8C := con0_okG Tryd.func37 rfl rfl fun args res ob h hob => by
  split at h
  · injection h with h; injection h with h1 h2; subst h1; subst h2; exact clamp8_tri
  · cases h
def gng : Nat → Option Con := fun f => match f with
  | 37 => some clamp8C
  | _ => none
theorem gng_ok : GaOkG Tryd.prog GN gng := fun f con h => by
  unfold gng at h
  split at h
  · injection h with h; subst h; exact clamp8C_ok
  · cases h
theorem point8_tri (u : List UInt8) : TriG Tryd.prog GN 21 [.one (.str []), .one (.str u)] [] (.tup [.one (.str []), .one (.bo false)]) [] := by
  refine tri_ofx (envNK_ok gng_ok 27 []) Tryd.func21 rfl rfl (rs := [.tmp 4, .tmp 5]) rfl rfl (by simp [envNK]) rfl ?_
  simp only [envNK, con0, conS, strsOf_arr, rowS_arr, strsOf_cells, rowS_cells, toS, strL_st, strL_d, strL_enc, strL_up, hpN_nil, hpN_cons, gng, clamp8C, go_sem, reduceCtorEq, ↓reduceIte, Nat.reduceAdd, Nat.reduceMul, Nat.reduceSub, Nat.reduceEqDiff, Nat.reduceLT, Nat.reduceBEq, Nat.reduceBNe, Nat.reduceLeDiff, Int.reduceLE, Int.reduceLT, Int.reduceToNat, Int.reduceEq, Int.reduceAdd, UInt8.reduceToNat, UInt32.reduceToNat, UInt64.reduceToNat, UInt8.reduceOfNat, UInt32.reduceOfNat, UInt64.reduceOfNat, Fin.isValue, Int.reduceSub, Int.reduceMul, Int.reduceNeg, Int.reduceMod, Int.reduceDiv, Int.reduceTDiv, Int.reduceTMod, Int.reduceBEq, Int.reduceBNe, Nat.reduceDiv, Nat.reducePow]
  repeat' apply And.intro
  rotate_right
  · refine endX [] ?_
    simp only [envNK, con0, conS, strsOf_arr, rowS_arr, strsOf_cells, rowS_cells, toS, strL_st, strL_d, strL_enc, strL_up, hpN_nil, hpN_cons, gng, clamp8C, go_sem, reduceCtorEq, ↓reduceIte, Nat.reduceAdd, Nat.reduceMul, Nat.reduceSub, Nat.reduceEqDiff, Nat.reduceLT, Nat.reduceBEq, Nat.reduceBNe, Nat.reduceLeDiff, Int.reduceLE, Int.reduceLT, Int.reduceToNat, Int.reduceEq, Int.reduceAdd, UInt8.reduceToNat, UInt32.reduceToNat, UInt64.reduceToNat, UInt8.reduceOfNat, UInt32.reduceOfNat, UInt64.reduceOfNat, Fin.isValue, Int.reduceSub, Int.reduceMul, Int.reduceNeg, Int.reduceMod, Int.reduceDiv, Int.reduceTDiv, Int.reduceTMod, Int.reduceBEq, Int.reduceBNe, Nat.reduceDiv, Nat.reducePow]
  all_goals first | omega | exact rfl | exact id
def point8C : Con := con0 fun args => match args with
  | [.one (.str []), .one (.str u)] => some (.tup [.one (.str []), .one (.bo false)], [])
  | _ => none
theorem point8C_ok : ConOkG Tryd.prog GN 21 point8C := con0_okG Tryd.func21 rfl rfl fun args res ob h hob => by
  split at h
  · injection h with h; injection h with h1 h2; subst h1; subst h2; exact point8_tri _
  · cases h
def gnh : Nat → Option Con := fun f => match f with
  | 21 => some point8C
  | _ => none
theorem gnh_ok : GaOkG Tryd.prog GN gnh := fun f con h => by
  unfold gnh at h
  split at h
  · injection h with h; subst h; exact point8C_ok
  · cases h
theorem box8_tri (u s : List UInt8) : TriG Tryd.prog GN 8 [.one (.str u), .one (.str []), .one (.str s)] [] (.tup [.one (.str []), .one (.num 1)]) [] := by
  refine tri_ofx (envNK_ok gnh_ok 56 []) Tryd.func8 rfl rfl (rs := [.tmp 6, .tmp 7]) rfl rfl (by simp [envNK]) rfl ?_
  simp only [envNK, con0, conS, strsOf_arr, rowS_arr, strsOf_cells, rowS_cells, toS, strL_st, strL_d, strL_enc, strL_up, hpN_nil, hpN_cons, gnh, point8C, go_sem, reduceCtorEq, ↓reduceIte, Nat.reduceAdd, Nat.reduceMul, Nat.reduceSub, Nat.reduceEqDiff, Nat.reduceLT, Nat.reduceBEq, Nat.reduceBNe, Nat.reduceLeDiff, Int.reduceLE, Int.reduceLT, Int.reduceToNat, Int.reduceEq, Int.reduceAdd, UInt8.reduceToNat, UInt32.reduceToNat, UInt64.reduceToNat, UInt8.reduceOfNat, UInt32.reduceOfNat, UInt64.reduceOfNat, Fin.isValue, Int.reduceSub, Int.reduceMul, Int.reduceNeg, Int.reduceMod, Int.reduceDiv, Int.reduceTDiv, Int.reduceTMod, Int.reduceBEq, Int.reduceBNe, Nat.reduceDiv, Nat.reducePow]
  repeat' apply And.intro
  rotate_right
  · refine endX [] ?_
    simp only [envNK, con0, conS, strsOf_arr, rowS_arr, strsOf_cells, rowS_cells, toS, strL_st, strL_d, strL_enc, strL_up, hpN_nil, hpN_cons, gnh, point8C, go_sem, reduceCtorEq, ↓reduceIte, Nat.reduceAdd, Nat.reduceMul, Nat.reduceSub, Nat.reduceEqDiff, Nat.reduceLT, Nat.reduceBEq, Nat.reduceBNe, Nat.reduceLeDiff, Int.reduceLE, Int.reduceLT, Int.reduceToNat, Int.reduceEq, Int.reduceAdd, UInt8.reduceToNat, UInt32.reduceToNat, UInt64.reduceToNat, UInt8.reduceOfNat, UInt32.reduceOfNat, UInt64.reduceOfNat, Fin.isValue, Int.reduceSub, Int.reduceMul, Int.reduceNeg, Int.reduceMod, Int.reduceDiv, Int.reduceTDiv, Int.reduceTMod, Int.reduceBEq, Int.reduceBNe, Nat.reduceDiv, Nat.reducePow]
  all_goals first | omega | exact rfl | exact id
def box8C : Con := con0 fun args => match args with
  | [.one (.str u), .one (.str []), .one (.str s)] => some (.tup [.one (.str []), .one (.num 1)], [])
  | _ => none
theorem box8C_ok : ConOkG Tryd.prog GN 8 box8C := con0_okG Tryd.func8 rfl rfl fun args res ob h hob => by
  split at h
  · injection h with h; injection h with h1 h2; subst h1; subst h2; exact box8_tri _ _
  · cases h
def gni : Nat → Option Con := fun f => match f with
  | 11 => some padC
  | 20 => some unpadC
  | 8 => some box8C
  | 10 => some classC
  | _ => none
theorem gni_ok : GaOkG Tryd.prog GN gni := fun f con h => by
  unfold gni at h
  split at h
  · injection h with h; subst h; exact padC_ok
  · injection h with h; subst h; exact unpadC_ok
  · injection h with h; subst h; exact box8C_ok
  · injection h with h; subst h; exact classC_ok
  · cases h
set_option maxRecDepth 100000 in
theorem awake08_tri : TriG Tryd.prog GN 6 [] [] (.c (.one (.bo true))) [] := by
  refine tri_ofx (envNK_ok gni_ok 43 []) Tryd.func6 rfl rfl (rs := [.tmp 0]) rfl rfl (by simp [envNK]) rfl ?_
  have hp : padV [109, 97, 105, 108] = .tup [.one (.str (padL [109, 97, 105, 108])), .one (.num 0)] := rfl
  obtain ⟨u1, u2, u3, u4, u5⟩ := unpad_pad (s := [109, 97, 105, 108]) (by decide)
  have hc4 : cls (([109, 97, 105, 108] : List UInt8).length : Int) = 128 := by decide
  have hu : unV (padL [109, 97, 105, 108]) = .tup [.one (.str [109, 97, 105, 108]), .one (.num 0)] := by unfold unV; rw [u1, u2]; rfl
  have hlen : ((padL [109, 97, 105, 108]).length : Int) = 128 := by rw [u5, hc4]
  have hl2 : (padL [109, 97, 105, 108]).length ≤ 100000 := by omega
  have hcl : cls 127 = 256 := by decide
  generalize padL [109, 97, 105, 108] = p at hp hu hlen hl2
  simp only [envNK, con0, conS, strsOf_arr, rowS_arr, strsOf_cells, rowS_cells, toS, strL_st, strL_d, strL_enc, strL_up, hpN_nil, hpN_cons, gni, padC, unpadC, box8C, classC, hp, hu, hlen, hl2, hcl, List.length_cons, List.length_nil, go_sem, reduceCtorEq, ↓reduceIte, Nat.reduceAdd, Nat.reduceMul, Nat.reduceSub, Nat.reduceEqDiff, Nat.reduceLT, Nat.reduceBEq, Nat.reduceBNe, Nat.reduceLeDiff, Int.reduceLE, Int.reduceLT, Int.reduceToNat, Int.reduceEq, Int.reduceAdd, UInt8.reduceToNat, UInt32.reduceToNat, UInt64.reduceToNat, UInt8.reduceOfNat, UInt32.reduceOfNat, UInt64.reduceOfNat, Fin.isValue, Int.reduceSub, Int.reduceMul, Int.reduceNeg, Int.reduceMod, Int.reduceDiv, Int.reduceTDiv, Int.reduceTMod, Int.reduceBEq, Int.reduceBNe, Nat.reduceDiv, Nat.reducePow]
  repeat' apply And.intro
  rotate_right
  · refine endX [] ?_
    simp only [envNK, con0, conS, strsOf_arr, rowS_arr, strsOf_cells, rowS_cells, toS, strL_st, strL_d, strL_enc, strL_up, hpN_nil, hpN_cons, gni, padC, unpadC, box8C, classC, go_sem, reduceCtorEq, ↓reduceIte, Nat.reduceAdd, Nat.reduceMul, Nat.reduceSub, Nat.reduceEqDiff, Nat.reduceLT, Nat.reduceBEq, Nat.reduceBNe, Nat.reduceLeDiff, Int.reduceLE, Int.reduceLT, Int.reduceToNat, Int.reduceEq, Int.reduceAdd, UInt8.reduceToNat, UInt32.reduceToNat, UInt64.reduceToNat, UInt8.reduceOfNat, UInt32.reduceOfNat, UInt64.reduceOfNat, Fin.isValue, Int.reduceSub, Int.reduceMul, Int.reduceNeg, Int.reduceMod, Int.reduceDiv, Int.reduceTDiv, Int.reduceTMod, Int.reduceBEq, Int.reduceBNe, Nat.reduceDiv, Nat.reducePow]
  all_goals first | omega | exact rfl | exact id
def awake08C : Con := con0 fun args => match args with
  | [] => some (.c (.one (.bo true)), [])
  | _ => none
theorem awake08C_ok : ConOkG Tryd.prog GN 6 awake08C := con0_okG Tryd.func6 rfl rfl fun args res ob h hob => by
  split at h
  · injection h with h; injection h with h1 h2; subst h1; subst h2; exact awake08_tri
  · cases h
end Go.Proofs.YtahiopdkekkibaaDoor.FN

/-
  Layer 8: a box made, and opened.
-/
namespace Go.Proofs.YtahiopdkekkibaaDoor.FZ
open Go Go.RowKit
set_option maxHeartbeats 4000000
set_option linter.unusedSimpArgs false
set_option linter.unusedVariables false
set_option linter.unusedSectionVars false
noncomputable abbrev GZ : List GFact := FH.GS
noncomputable def envZ (ga : Nat → Option Con) (nt : Nat) : Env := ⟨ty, ga, [], nt, [], GZ⟩
theorem envZ_ok {ga : Nat → Option Con} (h : GaOkG Tryd.prog GZ ga) (nt : Nat) : EnvOk Tryd.prog (envZ ga nt) := ⟨ty_ok, h, by first | rfl | decide⟩
noncomputable def envZK (ga : Nat → Option Con) (nt : Nat) (keys : List Nat) : Env := ⟨ty, ga, [], nt, keys, GZ⟩
theorem envZK_ok {ga : Nat → Option Con} (h : GaOkG Tryd.prog GZ ga) (nt : Nat) (keys : List Nat) : EnvOk Tryd.prog (envZK ga nt keys) := ⟨ty_ok, h, by first | rfl | decide⟩
def zPoint : Con := FK.pointC
theorem zPoint_ok : ConOkG Tryd.prog GZ 21 zPoint := ConOk.up FK.pointC_ok
def zPublic : Con := FK.publicC
theorem zPublic_ok : ConOkG Tryd.prog GZ 7 zPublic := ConOk.up FK.publicC_ok
def zSeal : Con := FC.sealC
theorem zSeal_ok : ConOkG Tryd.prog GZ 24 zSeal := ConOk.up FC.sealC_ok
def zOpen : Con := FC.openC
theorem zOpen_ok : ConOkG Tryd.prog GZ 25 zOpen := ConOk.up FC.openC_ok
def zPad : Con := FN.padC
theorem zPad_ok : ConOkG Tryd.prog GZ 11 zPad := ConOk.up FN.padC_ok
def zUnpad : Con := FN.unpadC
theorem zUnpad_ok : ConOkG Tryd.prog GZ 20 zUnpad := ConOk.up FN.unpadC_ok
def zDraw : Con := FH.drawC
theorem zDraw_ok : ConOkG Tryd.prog GZ 41 zDraw := FH.drawC_ok
def mailP : List UInt8 := [109, 97, 105, 108]
def drawn (sh se pu : List UInt8) : List UInt8 := FH.drawD sh (se ++ pu) mailP 44
theorem drawD_len (a b c : List UInt8) (z : Nat) : (FH.drawD a b c z).length = z := by
  unfold FH.drawD
  rw [List.length_take, FH.outD_len]; omega
def kK (sh se pu : List UInt8) : List UInt8 := (drawn sh se pu).take 32
def kN (sh se pu : List UInt8) : List UInt8 := (drawn sh se pu).drop 32
theorem kK_len (sh se pu : List UInt8) : (kK sh se pu).length = 32 := by unfold kK drawn; rw [List.length_take, drawD_len]; decide
theorem kN_len (sh se pu : List UInt8) : (kN sh se pu).length = 12 := by unfold kN drawn; rw [List.length_drop, drawD_len]
theorem right_k (sh se pu : List UInt8) : FC.rightB (kK sh se pu) (kN sh se pu) = true := by
  unfold FC.rightB
  rw [kK_len, kN_len]; rfl
def za1 : Nat → Option Con := fun f => match f with
  | 41 => some zDraw
  | _ => none
theorem za1_ok : GaOkG Tryd.prog GZ za1 := fun f con h => by
  unfold za1 at h
  split at h
  · injection h with h; subst h; exact zDraw_ok
  · cases h
set_option maxRecDepth 100000 in
theorem keys_tri (sh se pu : List UInt8) (h1 : sh.length = 32) (h2 : se.length = 32) (h3 : pu.length = 32) : TriG Tryd.prog GZ 23 [.one (.str sh), .one (.str se), .one (.str pu)] [] (.tup [.one (.str (kK sh se pu)), .one (.str (kN sh se pu))]) [] := by
  have hl : (se ++ pu).length = 64 := by rw [List.length_append]; omega
  have hd : FH.drawV sh (se ++ pu) [109, 97, 105, 108] 44 = .tup [.one (.str (drawn sh se pu)), .one (.num 0)] := by unfold FH.drawV; rw [if_pos (by decide)]; rfl
  have hdl : (drawn sh se pu).length = 44 := drawD_len _ _ _ _
  have e1 : (drawn sh se pu).take 32 = kK sh se pu := rfl
  have e2 : (drawn sh se pu).drop 32 = kN sh se pu := rfl
  have e3 : (kN sh se pu).take 12 = kN sh se pu := List.take_of_length_le (Nat.le_of_eq (kN_len sh se pu))
  refine tri_ofx (envZK_ok za1_ok 22 []) Tryd.func23 rfl rfl (rs := [.tmp 6, .tmp 7]) rfl rfl (by simp [envZK]) rfl ?_
  simp only [hd, hdl, hl, e1, e2, e3, envZK, con0, conS, strsOf_arr, rowS_arr, strsOf_cells, rowS_cells, toS, strL_st, strL_d, strL_enc, strL_up, hpN_nil, hpN_cons, za1, zDraw, FH.drawC, retQx, go_sem, reduceCtorEq, ↓reduceIte, Nat.reduceAdd, Nat.reduceMul, Nat.reduceSub, Nat.reduceEqDiff, Nat.reduceLT, Nat.reduceBEq, Nat.reduceBNe, Nat.reduceLeDiff, Int.reduceLE, Int.reduceLT, Int.reduceToNat, Int.reduceEq, Int.reduceAdd, UInt8.reduceToNat, UInt32.reduceToNat, UInt64.reduceToNat, UInt8.reduceOfNat, UInt32.reduceOfNat, UInt64.reduceOfNat, Fin.isValue, Int.reduceSub, Int.reduceMul, Int.reduceNeg, Int.reduceMod, Int.reduceDiv, Int.reduceTDiv, Int.reduceTMod, Int.reduceBEq, Int.reduceBNe, Nat.reduceDiv, Nat.reducePow]
  repeat' apply And.intro
  all_goals first
    | omega
    | (show ckDraw _; rfl)
    | skip
  refine endX [] ?_
  simp only [e1, e2, e3, envZK, con0, conS, strsOf_arr, rowS_arr, strsOf_cells, rowS_cells, toS, strL_st, strL_d, strL_enc, strL_up, hpN_nil, hpN_cons, za1, zDraw, retQx, go_sem, reduceCtorEq, ↓reduceIte, Nat.reduceAdd, Nat.reduceMul, Nat.reduceSub, Nat.reduceEqDiff, Nat.reduceLT, Nat.reduceBEq, Nat.reduceBNe, Nat.reduceLeDiff, Int.reduceLE, Int.reduceLT, Int.reduceToNat, Int.reduceEq, Int.reduceAdd, UInt8.reduceToNat, UInt32.reduceToNat, UInt64.reduceToNat, UInt8.reduceOfNat, UInt32.reduceOfNat, UInt64.reduceOfNat, Fin.isValue, Int.reduceSub, Int.reduceMul, Int.reduceNeg, Int.reduceMod, Int.reduceDiv, Int.reduceTDiv, Int.reduceTMod, Int.reduceBEq, Int.reduceBNe, Nat.reduceDiv, Nat.reducePow]
  all_goals first
    | trivial
    | rfl
    | trace_state
def keysC : Con := con0 fun args => match args with
  | [.one (.str sh), .one (.str se), .one (.str pu)] => some (.tup [.one (.str (kK sh se pu)), .one (.str (kN sh se pu))], [sh.length = 32, se.length = 32, pu.length = 32])
  | _ => none
theorem keysC_ok : ConOkG Tryd.prog GZ 23 keysC := con0_okG Tryd.func23 rfl rfl fun args res ob h hob => by
  split at h
  · injection h with h; injection h with h1 h2; subst h1; subst h2; exact keys_tri _ _ _ hob.1 hob.2.1 hob.2.2.1
  · cases h
def boxL (pub once s : List UInt8) : List UInt8 := FK.pointS once FK.base9 ++ FC.sealL (kK (FK.pointS once pub) (FK.pointS once FK.base9) pub) (kN (FK.pointS once pub) (FK.pointS once FK.base9) pub) [] (FN.padL s)
def boxV (pub once s : List UInt8) : SV := if once.length = 32 ∧ pub.length = 32 then if s.length ≤ 700 then .tup [.one (.str (boxL pub once s)), .one (.num 0)] else .tup [.one (.str []), .one (.num 4)] else .tup [.one (.str []), .one (.num 1)]
def za2 : Nat → Option Con := fun f => match f with
  | 21 => some zPoint
  | 7 => some zPublic
  | 11 => some zPad
  | 23 => some keysC
  | 24 => some zSeal
  | _ => none
theorem za2_ok : GaOkG Tryd.prog GZ za2 := fun f con h => by
  unfold za2 at h
  split at h
  · injection h with h; subst h; exact zPoint_ok
  · injection h with h; subst h; exact zPublic_ok
  · injection h with h; subst h; exact zPad_ok
  · injection h with h; subst h; exact keysC_ok
  · injection h with h; subst h; exact zSeal_ok
  · cases h
set_option maxRecDepth 100000 in
theorem box_tri (pub once s : List UInt8) (hs : s.length ≤ 10000) : TriG Tryd.prog GZ 8 [.one (.str pub), .one (.str once), .one (.str s)] [] (boxV pub once s) [] := by
  refine tri_ofx (envZK_ok za2_ok 56 []) Tryd.func8 rfl rfl (rs := [.tmp 6, .tmp 7]) rfl rfl (by simp [envZK]) rfl ?_
  by_cases hl : once.length = 32 ∧ pub.length = 32
  · have hp : FK.pointV once pub = .tup [.one (.str (FK.pointS once pub)), .one (.bo true)] := if_pos hl
    have hq : FK.pointV once FK.base9 = .tup [.one (.str (FK.pointS once FK.base9)), .one (.bo true)] := if_pos ⟨hl.1, rfl⟩
    have p1 := FK.pointS_len once pub
    have p2 := FK.pointS_len once FK.base9
    obtain ⟨hl1, hl2⟩ := hl
    by_cases h7 : s.length ≤ 700
    · have hd : FN.padV s = .tup [.one (.str (FN.padL s)), .one (.num 0)] := if_pos h7
      obtain ⟨-, -, -, d1, -⟩ := FN.unpad_pad h7
      have hv : boxV pub once s = .tup [.one (.str (boxL pub once s)), .one (.num 0)] := by unfold boxV; rw [if_pos ⟨hl1, hl2⟩, if_pos h7]
      have hr := right_k (FK.pointS once pub) (FK.pointS once FK.base9) pub
      have e1 : FK.pointS once FK.base9 ++ FC.sealL (kK (FK.pointS once pub) (FK.pointS once FK.base9) pub) (kN (FK.pointS once pub) (FK.pointS once FK.base9) pub) [] (FN.padL s) = boxL pub once s := rfl
      simp only [hv, hp, hq, hd, hr, if_true, e1, p1, p2, hl2, beq_self_eq_true, envZK, con0, conS, strsOf_arr, rowS_arr, strsOf_cells, rowS_cells, toS, strL_st, strL_d, strL_enc, strL_up, hpN_nil, hpN_cons, za2, zPoint, FK.pointC, zPublic, FK.publicC, zPad, FN.padC, keysC, zSeal, FC.sealC, FK.pointC, FK.publicC, FN.padC, FC.sealC, retQx, go_sem, reduceCtorEq, ↓reduceIte, Nat.reduceAdd, Nat.reduceMul, Nat.reduceSub, Nat.reduceEqDiff, Nat.reduceLT, Nat.reduceBEq, Nat.reduceBNe, Nat.reduceLeDiff, Int.reduceLE, Int.reduceLT, Int.reduceToNat, Int.reduceEq, Int.reduceAdd, UInt8.reduceToNat, UInt32.reduceToNat, UInt64.reduceToNat, UInt8.reduceOfNat, UInt32.reduceOfNat, UInt64.reduceOfNat, Fin.isValue, Int.reduceSub, Int.reduceMul, Int.reduceNeg, Int.reduceMod, Int.reduceDiv, Int.reduceTDiv, Int.reduceTMod, Int.reduceBEq, Int.reduceBNe, Nat.reduceDiv, Nat.reducePow]
      repeat' apply And.intro
      all_goals first
        | omega
        | (simp only [FC.sealL_len]; omega)
        | (show ckDraw _; rfl)
        | skip
      refine endX [] ?_
      simp only [e1, envZK, con0, conS, strsOf_arr, rowS_arr, strsOf_cells, rowS_cells, toS, strL_st, strL_d, strL_enc, strL_up, hpN_nil, hpN_cons, za2, zPoint, FK.pointC, zPublic, FK.publicC, zPad, FN.padC, keysC, zSeal, FC.sealC, retQx, go_sem, reduceCtorEq, ↓reduceIte, Nat.reduceAdd, Nat.reduceMul, Nat.reduceSub, Nat.reduceEqDiff, Nat.reduceLT, Nat.reduceBEq, Nat.reduceBNe, Nat.reduceLeDiff, Int.reduceLE, Int.reduceLT, Int.reduceToNat, Int.reduceEq, Int.reduceAdd, UInt8.reduceToNat, UInt32.reduceToNat, UInt64.reduceToNat, UInt8.reduceOfNat, UInt32.reduceOfNat, UInt64.reduceOfNat, Fin.isValue, Int.reduceSub, Int.reduceMul, Int.reduceNeg, Int.reduceMod, Int.reduceDiv, Int.reduceTDiv, Int.reduceTMod, Int.reduceBEq, Int.reduceBNe, Nat.reduceDiv, Nat.reducePow]
      all_goals first
        | trivial
        | rfl
        | trace_state
    · have hd : FN.padV s = .tup [.one (.str []), .one (.num 4)] := if_neg h7
      have hv : boxV pub once s = .tup [.one (.str []), .one (.num 4)] := by unfold boxV; rw [if_pos ⟨hl1, hl2⟩, if_neg h7]
      simp only [hv, hp, hd, envZK, con0, conS, strsOf_arr, rowS_arr, strsOf_cells, rowS_cells, toS, strL_st, strL_d, strL_enc, strL_up, hpN_nil, hpN_cons, za2, zPoint, FK.pointC, zPublic, FK.publicC, zPad, FN.padC, keysC, zSeal, FC.sealC, FK.pointC, FK.publicC, FN.padC, retQx, go_sem, reduceCtorEq, ↓reduceIte, Nat.reduceAdd, Nat.reduceMul, Nat.reduceSub, Nat.reduceEqDiff, Nat.reduceLT, Nat.reduceBEq, Nat.reduceBNe, Nat.reduceLeDiff, Int.reduceLE, Int.reduceLT, Int.reduceToNat, Int.reduceEq, Int.reduceAdd, UInt8.reduceToNat, UInt32.reduceToNat, UInt64.reduceToNat, UInt8.reduceOfNat, UInt32.reduceOfNat, UInt64.reduceOfNat, Fin.isValue, Int.reduceSub, Int.reduceMul, Int.reduceNeg, Int.reduceMod, Int.reduceDiv, Int.reduceTDiv, Int.reduceTMod, Int.reduceBEq, Int.reduceBNe, Nat.reduceDiv, Nat.reducePow]
      repeat' apply And.intro
      all_goals first
        | omega
        | (show ckDraw _; rfl)
        | skip
      refine endX [] ?_
      simp only [envZK, con0, conS, strsOf_arr, rowS_arr, strsOf_cells, rowS_cells, toS, strL_st, strL_d, strL_enc, strL_up, hpN_nil, hpN_cons, za2, zPoint, FK.pointC, zPublic, FK.publicC, zPad, FN.padC, keysC, zSeal, FC.sealC, retQx, go_sem, reduceCtorEq, ↓reduceIte, Nat.reduceAdd, Nat.reduceMul, Nat.reduceSub, Nat.reduceEqDiff, Nat.reduceLT, Nat.reduceBEq, Nat.reduceBNe, Nat.reduceLeDiff, Int.reduceLE, Int.reduceLT, Int.reduceToNat, Int.reduceEq, Int.reduceAdd, UInt8.reduceToNat, UInt32.reduceToNat, UInt64.reduceToNat, UInt8.reduceOfNat, UInt32.reduceOfNat, UInt64.reduceOfNat, Fin.isValue, Int.reduceSub, Int.reduceMul, Int.reduceNeg, Int.reduceMod, Int.reduceDiv, Int.reduceTDiv, Int.reduceTMod, Int.reduceBEq, Int.reduceBNe, Nat.reduceDiv, Nat.reducePow]
      all_goals first
        | trivial
        | rfl
        | trace_state
  · have hp : FK.pointV once pub = .tup [.one (.str []), .one (.bo false)] := if_neg hl
    have hv : boxV pub once s = .tup [.one (.str []), .one (.num 1)] := if_neg hl
    simp only [hv, hp, envZK, con0, conS, strsOf_arr, rowS_arr, strsOf_cells, rowS_cells, toS, strL_st, strL_d, strL_enc, strL_up, hpN_nil, hpN_cons, za2, zPoint, FK.pointC, zPublic, FK.publicC, zPad, FN.padC, keysC, zSeal, FC.sealC, FK.pointC, retQx, go_sem, reduceCtorEq, ↓reduceIte, Nat.reduceAdd, Nat.reduceMul, Nat.reduceSub, Nat.reduceEqDiff, Nat.reduceLT, Nat.reduceBEq, Nat.reduceBNe, Nat.reduceLeDiff, Int.reduceLE, Int.reduceLT, Int.reduceToNat, Int.reduceEq, Int.reduceAdd, UInt8.reduceToNat, UInt32.reduceToNat, UInt64.reduceToNat, UInt8.reduceOfNat, UInt32.reduceOfNat, UInt64.reduceOfNat, Fin.isValue, Int.reduceSub, Int.reduceMul, Int.reduceNeg, Int.reduceMod, Int.reduceDiv, Int.reduceTDiv, Int.reduceTMod, Int.reduceBEq, Int.reduceBNe, Nat.reduceDiv, Nat.reducePow]
    repeat' apply And.intro
    all_goals first
      | omega
      | (show ckDraw _; rfl)
      | skip
    refine endX [] ?_
    simp only [envZK, con0, conS, strsOf_arr, rowS_arr, strsOf_cells, rowS_cells, toS, strL_st, strL_d, strL_enc, strL_up, hpN_nil, hpN_cons, za2, zPoint, FK.pointC, zPublic, FK.publicC, zPad, FN.padC, keysC, zSeal, FC.sealC, retQx, go_sem, reduceCtorEq, ↓reduceIte, Nat.reduceAdd, Nat.reduceMul, Nat.reduceSub, Nat.reduceEqDiff, Nat.reduceLT, Nat.reduceBEq, Nat.reduceBNe, Nat.reduceLeDiff, Int.reduceLE, Int.reduceLT, Int.reduceToNat, Int.reduceEq, Int.reduceAdd, UInt8.reduceToNat, UInt32.reduceToNat, UInt64.reduceToNat, UInt8.reduceOfNat, UInt32.reduceOfNat, UInt64.reduceOfNat, Fin.isValue, Int.reduceSub, Int.reduceMul, Int.reduceNeg, Int.reduceMod, Int.reduceDiv, Int.reduceTDiv, Int.reduceTMod, Int.reduceBEq, Int.reduceBNe, Nat.reduceDiv, Nat.reducePow]
    all_goals first
      | trivial
      | rfl
      | trace_state
def boxC : Con := con0 fun args => match args with
  | [.one (.str pub), .one (.str once), .one (.str s)] => some (boxV pub once s, [s.length ≤ 10000])
  | _ => none
theorem boxC_ok : ConOkG Tryd.prog GZ 8 boxC := con0_okG Tryd.func8 rfl rfl fun args res ob h hob => by
  split at h
  · injection h with h; injection h with h1 h2; subst h1; subst h2; exact box_tri _ _ _ hob.1
  · cases h
def opS (prv box : List UInt8) : List UInt8 := FC.openS (kK (FK.pointS prv (box.take 32)) (box.take 32) (FK.pointS prv FK.base9)) (kN (FK.pointS prv (box.take 32)) (box.take 32) (FK.pointS prv FK.base9)) [] (box.drop 32)
def opE (prv box : List UInt8) : Int := FC.openE (kK (FK.pointS prv (box.take 32)) (box.take 32) (FK.pointS prv FK.base9)) (kN (FK.pointS prv (box.take 32)) (box.take 32) (FK.pointS prv FK.base9)) [] (box.drop 32)
def opV (prv box : List UInt8) : SV := if prv.length = 32 then if box.length < 32 then .tup [.one (.str []), .one (.num 3)] else if opE prv box = 0 then FN.unV (opS prv box) else .tup [.one (.str []), .one (.num (opE prv box))] else .tup [.one (.str []), .one (.num 1)]
def za3 : Nat → Option Con := fun f => match f with
  | 21 => some zPoint
  | 7 => some zPublic
  | 20 => some zUnpad
  | 23 => some keysC
  | 25 => some zOpen
  | _ => none
theorem za3_ok : GaOkG Tryd.prog GZ za3 := fun f con h => by
  unfold za3 at h
  split at h
  · injection h with h; subst h; exact zPoint_ok
  · injection h with h; subst h; exact zPublic_ok
  · injection h with h; subst h; exact zUnpad_ok
  · injection h with h; subst h; exact keysC_ok
  · injection h with h; subst h; exact zOpen_ok
  · cases h
set_option maxRecDepth 100000 in
theorem zopen_tri (prv box : List UInt8) (hs : box.length ≤ 10000) : TriG Tryd.prog GZ 9 [.one (.str prv), .one (.str box)] [] (opV prv box) [] := by
  refine tri_ofx (envZK_ok za3_ok 55 []) Tryd.func9 rfl rfl (rs := [.tmp 4, .tmp 5]) rfl rfl (by simp [envZK]) rfl ?_
  by_cases hl : prv.length = 32
  · have hq : FK.pointV prv FK.base9 = .tup [.one (.str (FK.pointS prv FK.base9)), .one (.bo true)] := if_pos ⟨hl, rfl⟩
    have p2 := FK.pointS_len prv FK.base9
    cases h3 : decide ((box.length : Int) < 32) with
    | true =>
      have h3' : box.length < 32 := by have := of_decide_eq_true h3; omega
      have hv : opV prv box = .tup [.one (.str []), .one (.num 3)] := by unfold opV; rw [if_pos hl, if_pos h3']
      simp only [hv, hq, h3, envZK, con0, conS, strsOf_arr, rowS_arr, strsOf_cells, rowS_cells, toS, strL_st, strL_d, strL_enc, strL_up, hpN_nil, hpN_cons, za3, zPoint, FK.pointC, zPublic, FK.publicC, zUnpad, FN.unpadC, keysC, zOpen, FC.openC, FK.publicC, retQx, go_sem, reduceCtorEq, ↓reduceIte, Nat.reduceAdd, Nat.reduceMul, Nat.reduceSub, Nat.reduceEqDiff, Nat.reduceLT, Nat.reduceBEq, Nat.reduceBNe, Nat.reduceLeDiff, Int.reduceLE, Int.reduceLT, Int.reduceToNat, Int.reduceEq, Int.reduceAdd, UInt8.reduceToNat, UInt32.reduceToNat, UInt64.reduceToNat, UInt8.reduceOfNat, UInt32.reduceOfNat, UInt64.reduceOfNat, Fin.isValue, Int.reduceSub, Int.reduceMul, Int.reduceNeg, Int.reduceMod, Int.reduceDiv, Int.reduceTDiv, Int.reduceTMod, Int.reduceBEq, Int.reduceBNe, Nat.reduceDiv, Nat.reducePow]
      repeat' apply And.intro
      all_goals first
        | omega
        | (show ckDraw _; rfl)
        | skip
      refine endX [] ?_
      simp only [envZK, con0, conS, strsOf_arr, rowS_arr, strsOf_cells, rowS_cells, toS, strL_st, strL_d, strL_enc, strL_up, hpN_nil, hpN_cons, za3, zPoint, FK.pointC, zPublic, FK.publicC, zUnpad, FN.unpadC, keysC, zOpen, FC.openC, retQx, go_sem, reduceCtorEq, ↓reduceIte, Nat.reduceAdd, Nat.reduceMul, Nat.reduceSub, Nat.reduceEqDiff, Nat.reduceLT, Nat.reduceBEq, Nat.reduceBNe, Nat.reduceLeDiff, Int.reduceLE, Int.reduceLT, Int.reduceToNat, Int.reduceEq, Int.reduceAdd, UInt8.reduceToNat, UInt32.reduceToNat, UInt64.reduceToNat, UInt8.reduceOfNat, UInt32.reduceOfNat, UInt64.reduceOfNat, Fin.isValue, Int.reduceSub, Int.reduceMul, Int.reduceNeg, Int.reduceMod, Int.reduceDiv, Int.reduceTDiv, Int.reduceTMod, Int.reduceBEq, Int.reduceBNe, Nat.reduceDiv, Nat.reducePow]
      all_goals first
        | trivial
        | rfl
        | trace_state
    | false =>
      have h3' : ¬ box.length < 32 := by have := of_decide_eq_false h3; omega
      have hbl : (box.take 32).length = 32 := by rw [List.length_take]; omega
      have hdl : (box.drop 32).length = box.length - 32 := List.length_drop
      have htk : (box.drop 32).take (box.length - 32) = box.drop 32 := List.take_of_length_le (by omega)
      have hp : FK.pointV prv (box.take 32) = .tup [.one (.str (FK.pointS prv (box.take 32))), .one (.bo true)] := if_pos ⟨hl, hbl⟩
      have p1 := FK.pointS_len prv (box.take 32)
      have hv0 : opV prv box = if opE prv box = 0 then FN.unV (opS prv box) else .tup [.one (.str []), .one (.num (opE prv box))] := by unfold opV; rw [if_pos hl, if_neg h3']
      have e1 : FC.openS (kK (FK.pointS prv (box.take 32)) (box.take 32) (FK.pointS prv FK.base9)) (kN (FK.pointS prv (box.take 32)) (box.take 32) (FK.pointS prv FK.base9)) [] (box.drop 32) = opS prv box := rfl
      have e2 : FC.openE (kK (FK.pointS prv (box.take 32)) (box.take 32) (FK.pointS prv FK.base9)) (kN (FK.pointS prv (box.take 32)) (box.take 32) (FK.pointS prv FK.base9)) [] (box.drop 32) = opE prv box := rfl
      by_cases hE : opE prv box = 0
      · obtain ⟨-, -, hle⟩ := FC.seal_open _ _ _ _ (show FC.openE _ _ _ _ = 0 from hE)
        have hle' : (opS prv box).length ≤ 10000 := by
          have : (opS prv box).length + 16 = (box.drop 32).length := hle
          omega
        cases hu : FN.unOk (opS prv box) with
        | true =>
          have hw : FN.unV (opS prv box) = .tup [.one (.str (FN.upT (opS prv box))), .one (.num 0)] := by unfold FN.unV; rw [hu]; rfl
          have hv : opV prv box = .tup [.one (.str (FN.upT (opS prv box))), .one (.num 0)] := by rw [hv0, if_pos hE, hw]
          simp only [hv, hq, hp, h3, hbl, hdl, htk, p1, p2, e1, e2, hE, hw, beq_self_eq_true, envZK, con0, conS, strsOf_arr, rowS_arr, strsOf_cells, rowS_cells, toS, strL_st, strL_d, strL_enc, strL_up, hpN_nil, hpN_cons, za3, zPoint, FK.pointC, zPublic, FK.publicC, zUnpad, FN.unpadC, keysC, zOpen, FC.openC, FK.publicC, FK.pointC, FC.openC, FN.unpadC, retQx, go_sem, reduceCtorEq, ↓reduceIte, Nat.reduceAdd, Nat.reduceMul, Nat.reduceSub, Nat.reduceEqDiff, Nat.reduceLT, Nat.reduceBEq, Nat.reduceBNe, Nat.reduceLeDiff, Int.reduceLE, Int.reduceLT, Int.reduceToNat, Int.reduceEq, Int.reduceAdd, UInt8.reduceToNat, UInt32.reduceToNat, UInt64.reduceToNat, UInt8.reduceOfNat, UInt32.reduceOfNat, UInt64.reduceOfNat, Fin.isValue, Int.reduceSub, Int.reduceMul, Int.reduceNeg, Int.reduceMod, Int.reduceDiv, Int.reduceTDiv, Int.reduceTMod, Int.reduceBEq, Int.reduceBNe, Nat.reduceDiv, Nat.reducePow]
          repeat' apply And.intro
          all_goals first
            | omega
            | (show ckDraw _; rfl)
            | skip
          refine endX [] ?_
          simp only [envZK, con0, conS, strsOf_arr, rowS_arr, strsOf_cells, rowS_cells, toS, strL_st, strL_d, strL_enc, strL_up, hpN_nil, hpN_cons, za3, zPoint, FK.pointC, zPublic, FK.publicC, zUnpad, FN.unpadC, keysC, zOpen, FC.openC, retQx, go_sem, reduceCtorEq, ↓reduceIte, Nat.reduceAdd, Nat.reduceMul, Nat.reduceSub, Nat.reduceEqDiff, Nat.reduceLT, Nat.reduceBEq, Nat.reduceBNe, Nat.reduceLeDiff, Int.reduceLE, Int.reduceLT, Int.reduceToNat, Int.reduceEq, Int.reduceAdd, UInt8.reduceToNat, UInt32.reduceToNat, UInt64.reduceToNat, UInt8.reduceOfNat, UInt32.reduceOfNat, UInt64.reduceOfNat, Fin.isValue, Int.reduceSub, Int.reduceMul, Int.reduceNeg, Int.reduceMod, Int.reduceDiv, Int.reduceTDiv, Int.reduceTMod, Int.reduceBEq, Int.reduceBNe, Nat.reduceDiv, Nat.reducePow]
          all_goals first
            | trivial
            | rfl
            | trace_state
        | false =>
          have hw : FN.unV (opS prv box) = .tup [.one (.str []), .one (.num 3)] := by unfold FN.unV; rw [hu]; rfl
          have hv : opV prv box = .tup [.one (.str []), .one (.num 3)] := by rw [hv0, if_pos hE, hw]
          simp only [hv, hq, hp, h3, hbl, hdl, htk, p1, p2, e1, e2, hE, hw, beq_self_eq_true, envZK, con0, conS, strsOf_arr, rowS_arr, strsOf_cells, rowS_cells, toS, strL_st, strL_d, strL_enc, strL_up, hpN_nil, hpN_cons, za3, zPoint, FK.pointC, zPublic, FK.publicC, zUnpad, FN.unpadC, keysC, zOpen, FC.openC, FK.publicC, FK.pointC, FC.openC, FN.unpadC, retQx, go_sem, reduceCtorEq, ↓reduceIte, Nat.reduceAdd, Nat.reduceMul, Nat.reduceSub, Nat.reduceEqDiff, Nat.reduceLT, Nat.reduceBEq, Nat.reduceBNe, Nat.reduceLeDiff, Int.reduceLE, Int.reduceLT, Int.reduceToNat, Int.reduceEq, Int.reduceAdd, UInt8.reduceToNat, UInt32.reduceToNat, UInt64.reduceToNat, UInt8.reduceOfNat, UInt32.reduceOfNat, UInt64.reduceOfNat, Fin.isValue, Int.reduceSub, Int.reduceMul, Int.reduceNeg, Int.reduceMod, Int.reduceDiv, Int.reduceTDiv, Int.reduceTMod, Int.reduceBEq, Int.reduceBNe, Nat.reduceDiv, Nat.reducePow]
          repeat' apply And.intro
          all_goals first
            | omega
            | (show ckDraw _; rfl)
            | skip
          refine endX [] ?_
          simp only [envZK, con0, conS, strsOf_arr, rowS_arr, strsOf_cells, rowS_cells, toS, strL_st, strL_d, strL_enc, strL_up, hpN_nil, hpN_cons, za3, zPoint, FK.pointC, zPublic, FK.publicC, zUnpad, FN.unpadC, keysC, zOpen, FC.openC, retQx, go_sem, reduceCtorEq, ↓reduceIte, Nat.reduceAdd, Nat.reduceMul, Nat.reduceSub, Nat.reduceEqDiff, Nat.reduceLT, Nat.reduceBEq, Nat.reduceBNe, Nat.reduceLeDiff, Int.reduceLE, Int.reduceLT, Int.reduceToNat, Int.reduceEq, Int.reduceAdd, UInt8.reduceToNat, UInt32.reduceToNat, UInt64.reduceToNat, UInt8.reduceOfNat, UInt32.reduceOfNat, UInt64.reduceOfNat, Fin.isValue, Int.reduceSub, Int.reduceMul, Int.reduceNeg, Int.reduceMod, Int.reduceDiv, Int.reduceTDiv, Int.reduceTMod, Int.reduceBEq, Int.reduceBNe, Nat.reduceDiv, Nat.reducePow]
          all_goals first
            | trivial
            | rfl
            | trace_state
      · have hv : opV prv box = .tup [.one (.str []), .one (.num (opE prv box))] := by rw [hv0, if_neg hE]
        have hb : (opE prv box == 0) = false := by rw [beq_eq_false_iff_ne]; exact hE
        simp only [hv, hq, hp, h3, hbl, hdl, htk, p1, p2, e1, e2, hb, envZK, con0, conS, strsOf_arr, rowS_arr, strsOf_cells, rowS_cells, toS, strL_st, strL_d, strL_enc, strL_up, hpN_nil, hpN_cons, za3, zPoint, FK.pointC, zPublic, FK.publicC, zUnpad, FN.unpadC, keysC, zOpen, FC.openC, FK.publicC, FK.pointC, FC.openC, FN.unpadC, retQx, go_sem, reduceCtorEq, ↓reduceIte, Nat.reduceAdd, Nat.reduceMul, Nat.reduceSub, Nat.reduceEqDiff, Nat.reduceLT, Nat.reduceBEq, Nat.reduceBNe, Nat.reduceLeDiff, Int.reduceLE, Int.reduceLT, Int.reduceToNat, Int.reduceEq, Int.reduceAdd, UInt8.reduceToNat, UInt32.reduceToNat, UInt64.reduceToNat, UInt8.reduceOfNat, UInt32.reduceOfNat, UInt64.reduceOfNat, Fin.isValue, Int.reduceSub, Int.reduceMul, Int.reduceNeg, Int.reduceMod, Int.reduceDiv, Int.reduceTDiv, Int.reduceTMod, Int.reduceBEq, Int.reduceBNe, Nat.reduceDiv, Nat.reducePow]
        repeat' apply And.intro
        all_goals first
          | omega
          | (show ckDraw _; rfl)
          | skip
        refine endX [] ?_
        simp only [envZK, con0, conS, strsOf_arr, rowS_arr, strsOf_cells, rowS_cells, toS, strL_st, strL_d, strL_enc, strL_up, hpN_nil, hpN_cons, za3, zPoint, FK.pointC, zPublic, FK.publicC, zUnpad, FN.unpadC, keysC, zOpen, FC.openC, retQx, go_sem, reduceCtorEq, ↓reduceIte, Nat.reduceAdd, Nat.reduceMul, Nat.reduceSub, Nat.reduceEqDiff, Nat.reduceLT, Nat.reduceBEq, Nat.reduceBNe, Nat.reduceLeDiff, Int.reduceLE, Int.reduceLT, Int.reduceToNat, Int.reduceEq, Int.reduceAdd, UInt8.reduceToNat, UInt32.reduceToNat, UInt64.reduceToNat, UInt8.reduceOfNat, UInt32.reduceOfNat, UInt64.reduceOfNat, Fin.isValue, Int.reduceSub, Int.reduceMul, Int.reduceNeg, Int.reduceMod, Int.reduceDiv, Int.reduceTDiv, Int.reduceTMod, Int.reduceBEq, Int.reduceBNe, Nat.reduceDiv, Nat.reducePow]
        all_goals first
          | trivial
          | rfl
          | trace_state
  · have hq : FK.pointV prv FK.base9 = .tup [.one (.str []), .one (.bo false)] := if_neg fun h => hl h.1
    have hv : opV prv box = .tup [.one (.str []), .one (.num 1)] := if_neg hl
    simp only [hv, hq, envZK, con0, conS, strsOf_arr, rowS_arr, strsOf_cells, rowS_cells, toS, strL_st, strL_d, strL_enc, strL_up, hpN_nil, hpN_cons, za3, zPoint, FK.pointC, zPublic, FK.publicC, zUnpad, FN.unpadC, keysC, zOpen, FC.openC, FK.publicC, retQx, go_sem, reduceCtorEq, ↓reduceIte, Nat.reduceAdd, Nat.reduceMul, Nat.reduceSub, Nat.reduceEqDiff, Nat.reduceLT, Nat.reduceBEq, Nat.reduceBNe, Nat.reduceLeDiff, Int.reduceLE, Int.reduceLT, Int.reduceToNat, Int.reduceEq, Int.reduceAdd, UInt8.reduceToNat, UInt32.reduceToNat, UInt64.reduceToNat, UInt8.reduceOfNat, UInt32.reduceOfNat, UInt64.reduceOfNat, Fin.isValue, Int.reduceSub, Int.reduceMul, Int.reduceNeg, Int.reduceMod, Int.reduceDiv, Int.reduceTDiv, Int.reduceTMod, Int.reduceBEq, Int.reduceBNe, Nat.reduceDiv, Nat.reducePow]
    repeat' apply And.intro
    all_goals first
      | omega
      | (show ckDraw _; rfl)
      | skip
    refine endX [] ?_
    simp only [envZK, con0, conS, strsOf_arr, rowS_arr, strsOf_cells, rowS_cells, toS, strL_st, strL_d, strL_enc, strL_up, hpN_nil, hpN_cons, za3, zPoint, FK.pointC, zPublic, FK.publicC, zUnpad, FN.unpadC, keysC, zOpen, FC.openC, retQx, go_sem, reduceCtorEq, ↓reduceIte, Nat.reduceAdd, Nat.reduceMul, Nat.reduceSub, Nat.reduceEqDiff, Nat.reduceLT, Nat.reduceBEq, Nat.reduceBNe, Nat.reduceLeDiff, Int.reduceLE, Int.reduceLT, Int.reduceToNat, Int.reduceEq, Int.reduceAdd, UInt8.reduceToNat, UInt32.reduceToNat, UInt64.reduceToNat, UInt8.reduceOfNat, UInt32.reduceOfNat, UInt64.reduceOfNat, Fin.isValue, Int.reduceSub, Int.reduceMul, Int.reduceNeg, Int.reduceMod, Int.reduceDiv, Int.reduceTDiv, Int.reduceTMod, Int.reduceBEq, Int.reduceBNe, Nat.reduceDiv, Nat.reducePow]
    all_goals first
      | trivial
      | rfl
      | trace_state
def zopenC : Con := con0 fun args => match args with
  | [.one (.str prv), .one (.str box)] => some (opV prv box, [box.length ≤ 10000])
  | _ => none
theorem zopenC_ok : ConOkG Tryd.prog GZ 9 zopenC := con0_okG Tryd.func9 rfl rfl fun args res ob h hob => by
  split at h
  · injection h with h; injection h with h1 h2; subst h1; subst h2; exact zopen_tri _ _ hob.1
  · cases h
end Go.Proofs.YtahiopdkekkibaaDoor.FZ

/-
  Layer 13: names, and what accounts are right.
-/
namespace Go.Proofs.YtahiopdkekkibaaDoor.FR
open Go Go.RowKit
set_option maxHeartbeats 4000000
set_option linter.unusedSimpArgs false
set_option linter.unusedVariables false

def GN : List GFact := []
noncomputable def envN (ga : Nat → Option Con) (nt : Nat) : Env := ⟨ty, ga, [], nt, [], GN⟩
theorem envN_ok {ga : Nat → Option Con} (h : GaOkG Tryd.prog GN ga) (nt : Nat) : EnvOk Tryd.prog (envN ga nt) := ⟨ty_ok, h, by first | rfl | decide⟩
noncomputable def envNK (ga : Nat → Option Con) (nt : Nat) (keys : List Nat) : Env := ⟨ty, ga, [], nt, keys, GN⟩
theorem envNK_ok {ga : Nat → Option Con} (h : GaOkG Tryd.prog GN ga) (nt : Nat) (keys : List Nat) : EnvOk Tryd.prog (envNK ga nt keys) := ⟨ty_ok, h, by first | rfl | decide⟩
def okc (c : UInt8) : Bool := (decide (97 ≤ c) && decide (c ≤ 122)) || (decide (48 ≤ c) && decide (c ≤ 57))
def usrB (s : List UInt8) : Bool := decide (1 ≤ s.length) && decide (s.length ≤ 8) && s.all okc
theorem all_bad {s : List UInt8} {i : Nat} (h : i < s.length) (hb : okc (s.getD i 0) = false) : s.all okc = false := by
  rw [List.all_eq_false]
  exact ⟨s.getD i 0, by rw [List.getD_eq_getElem?_getD, List.getElem?_eq_getElem h]; exact List.getElem_mem h, by rw [hb]; decide⟩
theorem all_good {s : List UInt8} (h : ∀ j, j < s.length → okc (s.getD j 0) = true) : s.all okc = true := by
  rw [List.all_eq_true]
  intro c hc
  obtain ⟨j, hj, rfl⟩ := List.mem_iff_getElem.1 hc
  have := h j hj
  rwa [List.getD_eq_getElem?_getD, List.getElem?_eq_getElem hj] at this
def usOk (s : List UInt8) (i : Nat) : Prop := i ≤ s.length ∧ ∀ j, j < i → okc (s.getD j 0) = true
theorem usOk_add {s : List UInt8} {i : Nat} (h : usOk s i) (hi : i < s.length) (ho : okc (s.getD i 0) = true) : usOk s (i + 1) := ⟨hi, fun j hj => by
  rcases Nat.lt_or_ge j i with h' | h'
  · exact h.2 j h'
  · rw [show j = i by omega]; exact ho⟩
def ruInv (s : List UInt8) (i : Nat) : St := ⟨[(0, .c (.one (.str s))), (15, .c (.one (.num s.length))), (16, .c (.one (.num i)))], []⟩
def gm0 : Nat → Option Con := fun f => match f with
  | _ => none
theorem gm0_ok : GaOkG Tryd.prog GN gm0 := fun f con h => by
  unfold gm0 at h
  split at h
  · cases h
set_option maxRecDepth 100000 in
theorem rightUser_tri (s : List UInt8) (hs : s.length ≤ 9223372036854775807) : TriG Tryd.prog GN 29 [.one (.str s)] [] (.c (.one (.bo (usrB s)))) [] := by
  refine tri_ofx (envNK_ok gm0_ok 46 []) Tryd.func29 rfl rfl (rs := [.tmp 2]) rfl rfl (by simp [envNK]) rfl ?_
  cases hn1 : decide ((s.length : Int) < 1) with
  | true =>
    have hu : usrB s = false := by unfold usrB; rw [decide_eq_false (show ¬ 1 ≤ s.length by have := of_decide_eq_true hn1; omega)]; rfl
    simp only [envNK, con0, conS, strsOf_arr, rowS_arr, strsOf_cells, rowS_cells, toS, strL_st, strL_d, strL_enc, strL_up, hpN_nil, hpN_cons, gm0, hn1, hu, go_sem, reduceCtorEq, ↓reduceIte, Nat.reduceAdd, Nat.reduceMul, Nat.reduceSub, Nat.reduceEqDiff, Nat.reduceLT, Nat.reduceBEq, Nat.reduceBNe, Nat.reduceLeDiff, Int.reduceLE, Int.reduceLT, Int.reduceToNat, Int.reduceEq, Int.reduceAdd, UInt8.reduceToNat, UInt32.reduceToNat, UInt64.reduceToNat, UInt8.reduceOfNat, UInt32.reduceOfNat, UInt64.reduceOfNat, Fin.isValue, Int.reduceSub, Int.reduceMul, Int.reduceNeg, Int.reduceMod, Int.reduceDiv, Int.reduceTDiv, Int.reduceTMod, Int.reduceBEq, Int.reduceBNe, Nat.reduceDiv, Nat.reducePow]
    refine endX [] ?_
    simp only [envNK, con0, conS, strsOf_arr, rowS_arr, strsOf_cells, rowS_cells, toS, strL_st, strL_d, strL_enc, strL_up, hpN_nil, hpN_cons, gm0, hu, go_sem, reduceCtorEq, ↓reduceIte, Nat.reduceAdd, Nat.reduceMul, Nat.reduceSub, Nat.reduceEqDiff, Nat.reduceLT, Nat.reduceBEq, Nat.reduceBNe, Nat.reduceLeDiff, Int.reduceLE, Int.reduceLT, Int.reduceToNat, Int.reduceEq, Int.reduceAdd, UInt8.reduceToNat, UInt32.reduceToNat, UInt64.reduceToNat, UInt8.reduceOfNat, UInt32.reduceOfNat, UInt64.reduceOfNat, Fin.isValue, Int.reduceSub, Int.reduceMul, Int.reduceNeg, Int.reduceMod, Int.reduceDiv, Int.reduceTDiv, Int.reduceTMod, Int.reduceBEq, Int.reduceBNe, Nat.reduceDiv, Nat.reducePow]
  | false =>
    cases hn2 : decide ((8 : Int) < s.length) with
    | true =>
      have hu : usrB s = false := by unfold usrB; rw [decide_eq_false (show ¬ s.length ≤ 8 by have := of_decide_eq_true hn2; omega), Bool.and_false]; rfl
      simp only [envNK, con0, conS, strsOf_arr, rowS_arr, strsOf_cells, rowS_cells, toS, strL_st, strL_d, strL_enc, strL_up, hpN_nil, hpN_cons, gm0, hn1, hn2, hu, go_sem, reduceCtorEq, ↓reduceIte, Nat.reduceAdd, Nat.reduceMul, Nat.reduceSub, Nat.reduceEqDiff, Nat.reduceLT, Nat.reduceBEq, Nat.reduceBNe, Nat.reduceLeDiff, Int.reduceLE, Int.reduceLT, Int.reduceToNat, Int.reduceEq, Int.reduceAdd, UInt8.reduceToNat, UInt32.reduceToNat, UInt64.reduceToNat, UInt8.reduceOfNat, UInt32.reduceOfNat, UInt64.reduceOfNat, Fin.isValue, Int.reduceSub, Int.reduceMul, Int.reduceNeg, Int.reduceMod, Int.reduceDiv, Int.reduceTDiv, Int.reduceTMod, Int.reduceBEq, Int.reduceBNe, Nat.reduceDiv, Nat.reducePow]
      refine endX [] ?_
      simp only [envNK, con0, conS, strsOf_arr, rowS_arr, strsOf_cells, rowS_cells, toS, strL_st, strL_d, strL_enc, strL_up, hpN_nil, hpN_cons, gm0, hu, go_sem, reduceCtorEq, ↓reduceIte, Nat.reduceAdd, Nat.reduceMul, Nat.reduceSub, Nat.reduceEqDiff, Nat.reduceLT, Nat.reduceBEq, Nat.reduceBNe, Nat.reduceLeDiff, Int.reduceLE, Int.reduceLT, Int.reduceToNat, Int.reduceEq, Int.reduceAdd, UInt8.reduceToNat, UInt32.reduceToNat, UInt64.reduceToNat, UInt8.reduceOfNat, UInt32.reduceOfNat, UInt64.reduceOfNat, Fin.isValue, Int.reduceSub, Int.reduceMul, Int.reduceNeg, Int.reduceMod, Int.reduceDiv, Int.reduceTDiv, Int.reduceTMod, Int.reduceBEq, Int.reduceBNe, Nat.reduceDiv, Nat.reducePow]
    | false =>
      have hz : usrB s = s.all okc := by
        have h1 := of_decide_eq_false hn1
        have h2 := of_decide_eq_false hn2
        unfold usrB
        rw [decide_eq_true (show 1 ≤ s.length by omega), decide_eq_true (show s.length ≤ 8 by omega)]; rfl
      simp only [envNK, con0, conS, strsOf_arr, rowS_arr, strsOf_cells, rowS_cells, toS, strL_st, strL_d, strL_enc, strL_up, hpN_nil, hpN_cons, gm0, hn1, hn2, go_sem, reduceCtorEq, ↓reduceIte, Nat.reduceAdd, Nat.reduceMul, Nat.reduceSub, Nat.reduceEqDiff, Nat.reduceLT, Nat.reduceBEq, Nat.reduceBNe, Nat.reduceLeDiff, Int.reduceLE, Int.reduceLT, Int.reduceToNat, Int.reduceEq, Int.reduceAdd, UInt8.reduceToNat, UInt32.reduceToNat, UInt64.reduceToNat, UInt8.reduceOfNat, UInt32.reduceOfNat, UInt64.reduceOfNat, Fin.isValue, Int.reduceSub, Int.reduceMul, Int.reduceNeg, Int.reduceMod, Int.reduceDiv, Int.reduceTDiv, Int.reduceTMod, Int.reduceBEq, Int.reduceBNe, Nat.reduceDiv, Nat.reducePow]
      refine loop_inv (envNK_ok gm0_ok 46 []) (ruInv s) (usOk s) (fun i => s.length - i) 0 [] ⟨Nat.zero_le _, fun j hj => by omega⟩ ?_ ?_
      · simp only [ruInv, go_sem, reduceCtorEq, ↓reduceIte, Nat.reduceAdd, Nat.reduceMul, Nat.reduceSub, Nat.reduceEqDiff, Nat.reduceLT, Nat.reduceBEq, Nat.reduceBNe, Nat.reduceLeDiff, Int.reduceLE, Int.reduceLT, Int.reduceToNat, Int.reduceEq, Int.reduceAdd, UInt8.reduceToNat, UInt32.reduceToNat, UInt64.reduceToNat, UInt8.reduceOfNat, UInt32.reduceOfNat, UInt64.reduceOfNat, Fin.isValue, Int.reduceSub, Int.reduceMul, Int.reduceNeg, Int.reduceMod, Int.reduceDiv, Int.reduceTDiv, Int.reduceTMod, Int.reduceBEq, Int.reduceBNe, Nat.reduceDiv, Nat.reducePow]
      · intro i hi
        have hi1 : i ≤ s.length := hi.1
        simp only [envNK, con0, conS, strsOf_arr, rowS_arr, strsOf_cells, rowS_cells, toS, strL_st, strL_d, strL_enc, strL_up, hpN_nil, hpN_cons, gm0, ruInv, go_sem, reduceCtorEq, ↓reduceIte, Nat.reduceAdd, Nat.reduceMul, Nat.reduceSub, Nat.reduceEqDiff, Nat.reduceLT, Nat.reduceBEq, Nat.reduceBNe, Nat.reduceLeDiff, Int.reduceLE, Int.reduceLT, Int.reduceToNat, Int.reduceEq, Int.reduceAdd, UInt8.reduceToNat, UInt32.reduceToNat, UInt64.reduceToNat, UInt8.reduceOfNat, UInt32.reduceOfNat, UInt64.reduceOfNat, Fin.isValue, Int.reduceSub, Int.reduceMul, Int.reduceNeg, Int.reduceMod, Int.reduceDiv, Int.reduceTDiv, Int.reduceTMod, Int.reduceBEq, Int.reduceBNe, Nat.reduceDiv, Nat.reducePow]
        refine br (fun h => ?_) fun h => ?_
        · have hlt : i < s.length := by have := of_decide_eq_true h; omega
          have hw : IntKind.i64.wrap ((i : Int) + 1) = ((i + 1 : Nat) : Int) := by rw [IntKind.wrap_i64]; omega
          have hg : (0 : Int) ≤ (i : Int) ∧ (i : Int) < (s.length : Int) := ⟨by omega, by omega⟩
          cases ho : okc (s.getD i 0) with
          | true =>
            have hnx := usOk_add hi hlt ho
            unfold okc at ho
            cases a1 : decide (97 ≤ s.getD i 0) <;> cases a2 : decide (s.getD i 0 ≤ 122) <;> cases a3 : decide (48 ≤ s.getD i 0) <;> cases a4 : decide (s.getD i 0 ≤ 57) <;> first
              | (rw [a1, a2, a3, a4] at ho; cases ho; done)
              | skip
            all_goals
              simp only [envNK, con0, conS, strsOf_arr, rowS_arr, strsOf_cells, rowS_cells, toS, strL_st, strL_d, strL_enc, strL_up, hpN_nil, hpN_cons, gm0, h, hw, hg, a1, a2, a3, a4, go_sem, reduceCtorEq, ↓reduceIte, Nat.reduceAdd, Nat.reduceMul, Nat.reduceSub, Nat.reduceEqDiff, Nat.reduceLT, Nat.reduceBEq, Nat.reduceBNe, Nat.reduceLeDiff, Int.reduceLE, Int.reduceLT, Int.reduceToNat, Int.reduceEq, Int.reduceAdd, UInt8.reduceToNat, UInt32.reduceToNat, UInt64.reduceToNat, UInt8.reduceOfNat, UInt32.reduceOfNat, UInt64.reduceOfNat, Fin.isValue, Int.reduceSub, Int.reduceMul, Int.reduceNeg, Int.reduceMod, Int.reduceDiv, Int.reduceTDiv, Int.reduceTMod, Int.reduceBEq, Int.reduceBNe, Nat.reduceDiv, Nat.reducePow]
              ((repeat' apply And.intro)
               rotate_right
               · refine again (i + 1) [] hnx (by show s.length - (i + 1) < s.length - i; omega) ?_
                 simp only [ruInv, envNK, con0, conS, strsOf_arr, rowS_arr, strsOf_cells, rowS_cells, toS, strL_st, strL_d, strL_enc, strL_up, hpN_nil, hpN_cons, gm0, go_sem, reduceCtorEq, ↓reduceIte, Nat.reduceAdd, Nat.reduceMul, Nat.reduceSub, Nat.reduceEqDiff, Nat.reduceLT, Nat.reduceBEq, Nat.reduceBNe, Nat.reduceLeDiff, Int.reduceLE, Int.reduceLT, Int.reduceToNat, Int.reduceEq, Int.reduceAdd, UInt8.reduceToNat, UInt32.reduceToNat, UInt64.reduceToNat, UInt8.reduceOfNat, UInt32.reduceOfNat, UInt64.reduceOfNat, Fin.isValue, Int.reduceSub, Int.reduceMul, Int.reduceNeg, Int.reduceMod, Int.reduceDiv, Int.reduceTDiv, Int.reduceTMod, Int.reduceBEq, Int.reduceBNe, Nat.reduceDiv, Nat.reducePow]
               all_goals first | omega | exact rfl | exact id)
          | false =>
            have hb := all_bad hlt ho
            have hu : usrB s = false := by unfold usrB; rw [hb, Bool.and_false]
            unfold okc at ho
            cases a1 : decide (97 ≤ s.getD i 0) <;> cases a2 : decide (s.getD i 0 ≤ 122) <;> cases a3 : decide (48 ≤ s.getD i 0) <;> cases a4 : decide (s.getD i 0 ≤ 57) <;> first
              | (rw [a1, a2, a3, a4] at ho; cases ho; done)
              | skip
            all_goals
              simp only [envNK, con0, conS, strsOf_arr, rowS_arr, strsOf_cells, rowS_cells, toS, strL_st, strL_d, strL_enc, strL_up, hpN_nil, hpN_cons, gm0, h, hw, hg, hu, a1, a2, a3, a4, go_sem, reduceCtorEq, ↓reduceIte, Nat.reduceAdd, Nat.reduceMul, Nat.reduceSub, Nat.reduceEqDiff, Nat.reduceLT, Nat.reduceBEq, Nat.reduceBNe, Nat.reduceLeDiff, Int.reduceLE, Int.reduceLT, Int.reduceToNat, Int.reduceEq, Int.reduceAdd, UInt8.reduceToNat, UInt32.reduceToNat, UInt64.reduceToNat, UInt8.reduceOfNat, UInt32.reduceOfNat, UInt64.reduceOfNat, Fin.isValue, Int.reduceSub, Int.reduceMul, Int.reduceNeg, Int.reduceMod, Int.reduceDiv, Int.reduceTDiv, Int.reduceTMod, Int.reduceBEq, Int.reduceBNe, Nat.reduceDiv, Nat.reducePow]
              ((repeat' apply And.intro)
               rotate_right
               · refine endX [] ?_
                 simp only [envNK, con0, conS, strsOf_arr, rowS_arr, strsOf_cells, rowS_cells, toS, strL_st, strL_d, strL_enc, strL_up, hpN_nil, hpN_cons, gm0, hu, go_sem, reduceCtorEq, ↓reduceIte, Nat.reduceAdd, Nat.reduceMul, Nat.reduceSub, Nat.reduceEqDiff, Nat.reduceLT, Nat.reduceBEq, Nat.reduceBNe, Nat.reduceLeDiff, Int.reduceLE, Int.reduceLT, Int.reduceToNat, Int.reduceEq, Int.reduceAdd, UInt8.reduceToNat, UInt32.reduceToNat, UInt64.reduceToNat, UInt8.reduceOfNat, UInt32.reduceOfNat, UInt64.reduceOfNat, Fin.isValue, Int.reduceSub, Int.reduceMul, Int.reduceNeg, Int.reduceMod, Int.reduceDiv, Int.reduceTDiv, Int.reduceTMod, Int.reduceBEq, Int.reduceBNe, Nat.reduceDiv, Nat.reducePow]
               all_goals first | omega | exact rfl | exact id)
        · have hge : s.length ≤ i := by have := of_decide_eq_false h; omega
          have hall := all_good fun j hj => hi.2 j (by omega)
          have hu : usrB s = true := by rw [hz, hall]
          simp only [envNK, con0, conS, strsOf_arr, rowS_arr, strsOf_cells, rowS_cells, toS, strL_st, strL_d, strL_enc, strL_up, hpN_nil, hpN_cons, gm0, h, hu, go_sem, reduceCtorEq, ↓reduceIte, Nat.reduceAdd, Nat.reduceMul, Nat.reduceSub, Nat.reduceEqDiff, Nat.reduceLT, Nat.reduceBEq, Nat.reduceBNe, Nat.reduceLeDiff, Int.reduceLE, Int.reduceLT, Int.reduceToNat, Int.reduceEq, Int.reduceAdd, UInt8.reduceToNat, UInt32.reduceToNat, UInt64.reduceToNat, UInt8.reduceOfNat, UInt32.reduceOfNat, UInt64.reduceOfNat, Fin.isValue, Int.reduceSub, Int.reduceMul, Int.reduceNeg, Int.reduceMod, Int.reduceDiv, Int.reduceTDiv, Int.reduceTMod, Int.reduceBEq, Int.reduceBNe, Nat.reduceDiv, Nat.reducePow]
          refine endX [] ?_
          simp only [envNK, con0, conS, strsOf_arr, rowS_arr, strsOf_cells, rowS_cells, toS, strL_st, strL_d, strL_enc, strL_up, hpN_nil, hpN_cons, gm0, hu, go_sem, reduceCtorEq, ↓reduceIte, Nat.reduceAdd, Nat.reduceMul, Nat.reduceSub, Nat.reduceEqDiff, Nat.reduceLT, Nat.reduceBEq, Nat.reduceBNe, Nat.reduceLeDiff, Int.reduceLE, Int.reduceLT, Int.reduceToNat, Int.reduceEq, Int.reduceAdd, UInt8.reduceToNat, UInt32.reduceToNat, UInt64.reduceToNat, UInt8.reduceOfNat, UInt32.reduceOfNat, UInt64.reduceOfNat, Fin.isValue, Int.reduceSub, Int.reduceMul, Int.reduceNeg, Int.reduceMod, Int.reduceDiv, Int.reduceTDiv, Int.reduceTMod, Int.reduceBEq, Int.reduceBNe, Nat.reduceDiv, Nat.reducePow]
def rightUserC : Con := con0 fun args => match args with
  | [.one (.str s)] => some (.c (.one (.bo (usrB s))), [s.length ≤ 9223372036854775807])
  | _ => none
theorem rightUserC_ok : ConOkG Tryd.prog GN 29 rightUserC := con0_okG Tryd.func29 rfl rfl fun args res ob h hob => by
  split at h
  · injection h with h; injection h with h1 h2; subst h1; subst h2; exact rightUser_tri _ hob.1
  · cases h
theorem rightRounds_tri (n : Int) : TriG Tryd.prog GN 52 [.one (.num n)] [] (.c (.one (.bo (decide (1 ≤ n) && decide (n ≤ 64))))) [] := by
  refine tri_of (envN_ok gm0_ok 9) Tryd.func52 rfl rfl (rs := [.tmp 2]) rfl rfl (by simp [envN]) rfl [] ?_
  cases h1 : decide (1 ≤ n) <;> cases h2 : decide (n ≤ 64) <;> simp only [envNK, con0, conS, strsOf_arr, rowS_arr, strsOf_cells, rowS_cells, toS, strL_st, strL_d, strL_enc, strL_up, hpN_nil, hpN_cons, gm0, envN, h1, h2, Bool.and_true, Bool.and_false, go_sem, reduceCtorEq, ↓reduceIte, Nat.reduceAdd, Nat.reduceMul, Nat.reduceSub, Nat.reduceEqDiff, Nat.reduceLT, Nat.reduceBEq, Nat.reduceBNe, Nat.reduceLeDiff, Int.reduceLE, Int.reduceLT, Int.reduceToNat, Int.reduceEq, Int.reduceAdd, UInt8.reduceToNat, UInt32.reduceToNat, UInt64.reduceToNat, UInt8.reduceOfNat, UInt32.reduceOfNat, UInt64.reduceOfNat, Fin.isValue, Int.reduceSub, Int.reduceMul, Int.reduceNeg, Int.reduceMod, Int.reduceDiv, Int.reduceTDiv, Int.reduceTMod, Int.reduceBEq, Int.reduceBNe, Nat.reduceDiv, Nat.reducePow]
def rightRoundsC : Con := con0 fun args => match args with
  | [.one (.num n)] => some (.c (.one (.bo (decide (1 ≤ n) && decide (n ≤ 64)))), [])
  | _ => none
theorem rightRoundsC_ok : ConOkG Tryd.prog GN 52 rightRoundsC := con0_okG Tryd.func52 rfl rfl fun args res ob h hob => by
  split at h
  · injection h with h; injection h with h1 h2; subst h1; subst h2; exact rightRounds_tri _
  · cases h
/-- An account. -/
structure Acc where
  (u s : List UInt8) (r e : Int) (p n w o : List UInt8)
def Acc.cs (a : Acc) : List AV := [.str a.u, .str a.s, .num a.r, .num a.e, .str a.p, .str a.n, .str a.w, .str a.o]
def rightB (a : Acc) : Bool := usrB a.u && ((a.s.length : Int) == 16) && (decide (1 ≤ a.r) && decide (a.r ≤ 64)) && ((a.e == 0) || (a.e == 1)) && ((a.p.length : Int) == 32) && ((a.n.length : Int) == 12) && ((a.w.length : Int) == 48) && (((a.o.length : Int) == 0) || ((a.o.length : Int) == 48))
def gm1 : Nat → Option Con := fun f => match f with
  | 29 => some rightUserC
  | 52 => some rightRoundsC
  | _ => none
theorem gm1_ok : GaOkG Tryd.prog GN gm1 := fun f con h => by
  unfold gm1 at h
  split at h
  · injection h with h; subst h; exact rightUserC_ok
  · injection h with h; subst h; exact rightRoundsC_ok
  · cases h
set_option maxRecDepth 100000 in
theorem right_tri (a : Acc) (hu : a.u.length ≤ 9223372036854775807) : TriG Tryd.prog GN 32 [.agg a.cs] [] (.c (.one (.bo (rightB a)))) [] := by
  refine tri_ofx (envNK_ok gm1_ok 57 []) Tryd.func32 rfl rfl (rs := [.tmp 2]) rfl rfl (by simp [envNK]) rfl ?_
  obtain ⟨u, s, r, e, p, n, w, o⟩ := a
  cases h1 : usrB u with
  | false =>
    have hv : rightB ⟨u, s, r, e, p, n, w, o⟩ = false := by unfold rightB; simp only [h1, Bool.true_and, Bool.and_true, Bool.false_and, Bool.and_false, Bool.true_or, Bool.or_true, Bool.false_or, Bool.or_false]
    simp only [envNK, con0, conS, strsOf_arr, rowS_arr, strsOf_cells, rowS_cells, toS, strL_st, strL_d, strL_enc, strL_up, hpN_nil, hpN_cons, gm1, rightUserC, rightRoundsC, Acc.cs, hv, h1, Bool.true_and, Bool.and_true, Bool.false_and, Bool.and_false, go_sem, reduceCtorEq, ↓reduceIte, Nat.reduceAdd, Nat.reduceMul, Nat.reduceSub, Nat.reduceEqDiff, Nat.reduceLT, Nat.reduceBEq, Nat.reduceBNe, Nat.reduceLeDiff, Int.reduceLE, Int.reduceLT, Int.reduceToNat, Int.reduceEq, Int.reduceAdd, UInt8.reduceToNat, UInt32.reduceToNat, UInt64.reduceToNat, UInt8.reduceOfNat, UInt32.reduceOfNat, UInt64.reduceOfNat, Fin.isValue, Int.reduceSub, Int.reduceMul, Int.reduceNeg, Int.reduceMod, Int.reduceDiv, Int.reduceTDiv, Int.reduceTMod, Int.reduceBEq, Int.reduceBNe, Nat.reduceDiv, Nat.reducePow]
    (repeat' apply And.intro)
    rotate_right
    · refine endX [] ?_
      simp only [envNK, con0, conS, strsOf_arr, rowS_arr, strsOf_cells, rowS_cells, toS, strL_st, strL_d, strL_enc, strL_up, hpN_nil, hpN_cons, gm1, rightUserC, rightRoundsC, hv, go_sem, reduceCtorEq, ↓reduceIte, Nat.reduceAdd, Nat.reduceMul, Nat.reduceSub, Nat.reduceEqDiff, Nat.reduceLT, Nat.reduceBEq, Nat.reduceBNe, Nat.reduceLeDiff, Int.reduceLE, Int.reduceLT, Int.reduceToNat, Int.reduceEq, Int.reduceAdd, UInt8.reduceToNat, UInt32.reduceToNat, UInt64.reduceToNat, UInt8.reduceOfNat, UInt32.reduceOfNat, UInt64.reduceOfNat, Fin.isValue, Int.reduceSub, Int.reduceMul, Int.reduceNeg, Int.reduceMod, Int.reduceDiv, Int.reduceTDiv, Int.reduceTMod, Int.reduceBEq, Int.reduceBNe, Nat.reduceDiv, Nat.reducePow]
    all_goals first | omega | exact rfl | exact id | assumption
  | true =>
    cases h2 : ((s.length : Int) == 16) with
    | false =>
      have hv : rightB ⟨u, s, r, e, p, n, w, o⟩ = false := by unfold rightB; simp only [h1, h2, Bool.true_and, Bool.and_true, Bool.false_and, Bool.and_false, Bool.true_or, Bool.or_true, Bool.false_or, Bool.or_false]
      simp only [envNK, con0, conS, strsOf_arr, rowS_arr, strsOf_cells, rowS_cells, toS, strL_st, strL_d, strL_enc, strL_up, hpN_nil, hpN_cons, gm1, rightUserC, rightRoundsC, Acc.cs, hv, h1, h2, Bool.true_and, Bool.and_true, Bool.false_and, Bool.and_false, go_sem, reduceCtorEq, ↓reduceIte, Nat.reduceAdd, Nat.reduceMul, Nat.reduceSub, Nat.reduceEqDiff, Nat.reduceLT, Nat.reduceBEq, Nat.reduceBNe, Nat.reduceLeDiff, Int.reduceLE, Int.reduceLT, Int.reduceToNat, Int.reduceEq, Int.reduceAdd, UInt8.reduceToNat, UInt32.reduceToNat, UInt64.reduceToNat, UInt8.reduceOfNat, UInt32.reduceOfNat, UInt64.reduceOfNat, Fin.isValue, Int.reduceSub, Int.reduceMul, Int.reduceNeg, Int.reduceMod, Int.reduceDiv, Int.reduceTDiv, Int.reduceTMod, Int.reduceBEq, Int.reduceBNe, Nat.reduceDiv, Nat.reducePow]
      (repeat' apply And.intro)
      rotate_right
      · refine endX [] ?_
        simp only [envNK, con0, conS, strsOf_arr, rowS_arr, strsOf_cells, rowS_cells, toS, strL_st, strL_d, strL_enc, strL_up, hpN_nil, hpN_cons, gm1, rightUserC, rightRoundsC, hv, go_sem, reduceCtorEq, ↓reduceIte, Nat.reduceAdd, Nat.reduceMul, Nat.reduceSub, Nat.reduceEqDiff, Nat.reduceLT, Nat.reduceBEq, Nat.reduceBNe, Nat.reduceLeDiff, Int.reduceLE, Int.reduceLT, Int.reduceToNat, Int.reduceEq, Int.reduceAdd, UInt8.reduceToNat, UInt32.reduceToNat, UInt64.reduceToNat, UInt8.reduceOfNat, UInt32.reduceOfNat, UInt64.reduceOfNat, Fin.isValue, Int.reduceSub, Int.reduceMul, Int.reduceNeg, Int.reduceMod, Int.reduceDiv, Int.reduceTDiv, Int.reduceTMod, Int.reduceBEq, Int.reduceBNe, Nat.reduceDiv, Nat.reducePow]
      all_goals first | omega | exact rfl | exact id | assumption
    | true =>
      cases h3 : decide (1 ≤ r) with
      | false =>
        have hv : rightB ⟨u, s, r, e, p, n, w, o⟩ = false := by unfold rightB; simp only [h1, h2, h3, Bool.true_and, Bool.and_true, Bool.false_and, Bool.and_false, Bool.true_or, Bool.or_true, Bool.false_or, Bool.or_false]
        simp only [envNK, con0, conS, strsOf_arr, rowS_arr, strsOf_cells, rowS_cells, toS, strL_st, strL_d, strL_enc, strL_up, hpN_nil, hpN_cons, gm1, rightUserC, rightRoundsC, Acc.cs, hv, h1, h2, h3, Bool.true_and, Bool.and_true, Bool.false_and, Bool.and_false, go_sem, reduceCtorEq, ↓reduceIte, Nat.reduceAdd, Nat.reduceMul, Nat.reduceSub, Nat.reduceEqDiff, Nat.reduceLT, Nat.reduceBEq, Nat.reduceBNe, Nat.reduceLeDiff, Int.reduceLE, Int.reduceLT, Int.reduceToNat, Int.reduceEq, Int.reduceAdd, UInt8.reduceToNat, UInt32.reduceToNat, UInt64.reduceToNat, UInt8.reduceOfNat, UInt32.reduceOfNat, UInt64.reduceOfNat, Fin.isValue, Int.reduceSub, Int.reduceMul, Int.reduceNeg, Int.reduceMod, Int.reduceDiv, Int.reduceTDiv, Int.reduceTMod, Int.reduceBEq, Int.reduceBNe, Nat.reduceDiv, Nat.reducePow]
        (repeat' apply And.intro)
        rotate_right
        · refine endX [] ?_
          simp only [envNK, con0, conS, strsOf_arr, rowS_arr, strsOf_cells, rowS_cells, toS, strL_st, strL_d, strL_enc, strL_up, hpN_nil, hpN_cons, gm1, rightUserC, rightRoundsC, hv, go_sem, reduceCtorEq, ↓reduceIte, Nat.reduceAdd, Nat.reduceMul, Nat.reduceSub, Nat.reduceEqDiff, Nat.reduceLT, Nat.reduceBEq, Nat.reduceBNe, Nat.reduceLeDiff, Int.reduceLE, Int.reduceLT, Int.reduceToNat, Int.reduceEq, Int.reduceAdd, UInt8.reduceToNat, UInt32.reduceToNat, UInt64.reduceToNat, UInt8.reduceOfNat, UInt32.reduceOfNat, UInt64.reduceOfNat, Fin.isValue, Int.reduceSub, Int.reduceMul, Int.reduceNeg, Int.reduceMod, Int.reduceDiv, Int.reduceTDiv, Int.reduceTMod, Int.reduceBEq, Int.reduceBNe, Nat.reduceDiv, Nat.reducePow]
        all_goals first | omega | exact rfl | exact id | assumption
      | true =>
        cases h4 : decide (r ≤ 64) with
        | false =>
          have hv : rightB ⟨u, s, r, e, p, n, w, o⟩ = false := by unfold rightB; simp only [h1, h2, h3, h4, Bool.true_and, Bool.and_true, Bool.false_and, Bool.and_false, Bool.true_or, Bool.or_true, Bool.false_or, Bool.or_false]
          simp only [envNK, con0, conS, strsOf_arr, rowS_arr, strsOf_cells, rowS_cells, toS, strL_st, strL_d, strL_enc, strL_up, hpN_nil, hpN_cons, gm1, rightUserC, rightRoundsC, Acc.cs, hv, h1, h2, h3, h4, Bool.true_and, Bool.and_true, Bool.false_and, Bool.and_false, go_sem, reduceCtorEq, ↓reduceIte, Nat.reduceAdd, Nat.reduceMul, Nat.reduceSub, Nat.reduceEqDiff, Nat.reduceLT, Nat.reduceBEq, Nat.reduceBNe, Nat.reduceLeDiff, Int.reduceLE, Int.reduceLT, Int.reduceToNat, Int.reduceEq, Int.reduceAdd, UInt8.reduceToNat, UInt32.reduceToNat, UInt64.reduceToNat, UInt8.reduceOfNat, UInt32.reduceOfNat, UInt64.reduceOfNat, Fin.isValue, Int.reduceSub, Int.reduceMul, Int.reduceNeg, Int.reduceMod, Int.reduceDiv, Int.reduceTDiv, Int.reduceTMod, Int.reduceBEq, Int.reduceBNe, Nat.reduceDiv, Nat.reducePow]
          (repeat' apply And.intro)
          rotate_right
          · refine endX [] ?_
            simp only [envNK, con0, conS, strsOf_arr, rowS_arr, strsOf_cells, rowS_cells, toS, strL_st, strL_d, strL_enc, strL_up, hpN_nil, hpN_cons, gm1, rightUserC, rightRoundsC, hv, go_sem, reduceCtorEq, ↓reduceIte, Nat.reduceAdd, Nat.reduceMul, Nat.reduceSub, Nat.reduceEqDiff, Nat.reduceLT, Nat.reduceBEq, Nat.reduceBNe, Nat.reduceLeDiff, Int.reduceLE, Int.reduceLT, Int.reduceToNat, Int.reduceEq, Int.reduceAdd, UInt8.reduceToNat, UInt32.reduceToNat, UInt64.reduceToNat, UInt8.reduceOfNat, UInt32.reduceOfNat, UInt64.reduceOfNat, Fin.isValue, Int.reduceSub, Int.reduceMul, Int.reduceNeg, Int.reduceMod, Int.reduceDiv, Int.reduceTDiv, Int.reduceTMod, Int.reduceBEq, Int.reduceBNe, Nat.reduceDiv, Nat.reducePow]
          all_goals first | omega | exact rfl | exact id | assumption
        | true =>
          cases h5 : (e == 0) with
          | true =>
            cases h7 : ((p.length : Int) == 32) with
            | false =>
              have hv : rightB ⟨u, s, r, e, p, n, w, o⟩ = false := by unfold rightB; simp only [h1, h2, h3, h4, h5, h7, Bool.true_and, Bool.and_true, Bool.false_and, Bool.and_false, Bool.true_or, Bool.or_true, Bool.false_or, Bool.or_false]
              simp only [envNK, con0, conS, strsOf_arr, rowS_arr, strsOf_cells, rowS_cells, toS, strL_st, strL_d, strL_enc, strL_up, hpN_nil, hpN_cons, gm1, rightUserC, rightRoundsC, Acc.cs, hv, h1, h2, h3, h4, h5, h7, Bool.true_and, Bool.and_true, Bool.false_and, Bool.and_false, go_sem, reduceCtorEq, ↓reduceIte, Nat.reduceAdd, Nat.reduceMul, Nat.reduceSub, Nat.reduceEqDiff, Nat.reduceLT, Nat.reduceBEq, Nat.reduceBNe, Nat.reduceLeDiff, Int.reduceLE, Int.reduceLT, Int.reduceToNat, Int.reduceEq, Int.reduceAdd, UInt8.reduceToNat, UInt32.reduceToNat, UInt64.reduceToNat, UInt8.reduceOfNat, UInt32.reduceOfNat, UInt64.reduceOfNat, Fin.isValue, Int.reduceSub, Int.reduceMul, Int.reduceNeg, Int.reduceMod, Int.reduceDiv, Int.reduceTDiv, Int.reduceTMod, Int.reduceBEq, Int.reduceBNe, Nat.reduceDiv, Nat.reducePow]
              (repeat' apply And.intro)
              rotate_right
              · refine endX [] ?_
                simp only [envNK, con0, conS, strsOf_arr, rowS_arr, strsOf_cells, rowS_cells, toS, strL_st, strL_d, strL_enc, strL_up, hpN_nil, hpN_cons, gm1, rightUserC, rightRoundsC, hv, go_sem, reduceCtorEq, ↓reduceIte, Nat.reduceAdd, Nat.reduceMul, Nat.reduceSub, Nat.reduceEqDiff, Nat.reduceLT, Nat.reduceBEq, Nat.reduceBNe, Nat.reduceLeDiff, Int.reduceLE, Int.reduceLT, Int.reduceToNat, Int.reduceEq, Int.reduceAdd, UInt8.reduceToNat, UInt32.reduceToNat, UInt64.reduceToNat, UInt8.reduceOfNat, UInt32.reduceOfNat, UInt64.reduceOfNat, Fin.isValue, Int.reduceSub, Int.reduceMul, Int.reduceNeg, Int.reduceMod, Int.reduceDiv, Int.reduceTDiv, Int.reduceTMod, Int.reduceBEq, Int.reduceBNe, Nat.reduceDiv, Nat.reducePow]
              all_goals first | omega | exact rfl | exact id | assumption
            | true =>
              cases h8 : ((n.length : Int) == 12) with
              | false =>
                have hv : rightB ⟨u, s, r, e, p, n, w, o⟩ = false := by unfold rightB; simp only [h1, h2, h3, h4, h5, h7, h8, Bool.true_and, Bool.and_true, Bool.false_and, Bool.and_false, Bool.true_or, Bool.or_true, Bool.false_or, Bool.or_false]
                simp only [envNK, con0, conS, strsOf_arr, rowS_arr, strsOf_cells, rowS_cells, toS, strL_st, strL_d, strL_enc, strL_up, hpN_nil, hpN_cons, gm1, rightUserC, rightRoundsC, Acc.cs, hv, h1, h2, h3, h4, h5, h7, h8, Bool.true_and, Bool.and_true, Bool.false_and, Bool.and_false, go_sem, reduceCtorEq, ↓reduceIte, Nat.reduceAdd, Nat.reduceMul, Nat.reduceSub, Nat.reduceEqDiff, Nat.reduceLT, Nat.reduceBEq, Nat.reduceBNe, Nat.reduceLeDiff, Int.reduceLE, Int.reduceLT, Int.reduceToNat, Int.reduceEq, Int.reduceAdd, UInt8.reduceToNat, UInt32.reduceToNat, UInt64.reduceToNat, UInt8.reduceOfNat, UInt32.reduceOfNat, UInt64.reduceOfNat, Fin.isValue, Int.reduceSub, Int.reduceMul, Int.reduceNeg, Int.reduceMod, Int.reduceDiv, Int.reduceTDiv, Int.reduceTMod, Int.reduceBEq, Int.reduceBNe, Nat.reduceDiv, Nat.reducePow]
                (repeat' apply And.intro)
                rotate_right
                · refine endX [] ?_
                  simp only [envNK, con0, conS, strsOf_arr, rowS_arr, strsOf_cells, rowS_cells, toS, strL_st, strL_d, strL_enc, strL_up, hpN_nil, hpN_cons, gm1, rightUserC, rightRoundsC, hv, go_sem, reduceCtorEq, ↓reduceIte, Nat.reduceAdd, Nat.reduceMul, Nat.reduceSub, Nat.reduceEqDiff, Nat.reduceLT, Nat.reduceBEq, Nat.reduceBNe, Nat.reduceLeDiff, Int.reduceLE, Int.reduceLT, Int.reduceToNat, Int.reduceEq, Int.reduceAdd, UInt8.reduceToNat, UInt32.reduceToNat, UInt64.reduceToNat, UInt8.reduceOfNat, UInt32.reduceOfNat, UInt64.reduceOfNat, Fin.isValue, Int.reduceSub, Int.reduceMul, Int.reduceNeg, Int.reduceMod, Int.reduceDiv, Int.reduceTDiv, Int.reduceTMod, Int.reduceBEq, Int.reduceBNe, Nat.reduceDiv, Nat.reducePow]
                all_goals first | omega | exact rfl | exact id | assumption
              | true =>
                cases h9 : ((w.length : Int) == 48) with
                | false =>
                  have hv : rightB ⟨u, s, r, e, p, n, w, o⟩ = false := by unfold rightB; simp only [h1, h2, h3, h4, h5, h7, h8, h9, Bool.true_and, Bool.and_true, Bool.false_and, Bool.and_false, Bool.true_or, Bool.or_true, Bool.false_or, Bool.or_false]
                  simp only [envNK, con0, conS, strsOf_arr, rowS_arr, strsOf_cells, rowS_cells, toS, strL_st, strL_d, strL_enc, strL_up, hpN_nil, hpN_cons, gm1, rightUserC, rightRoundsC, Acc.cs, hv, h1, h2, h3, h4, h5, h7, h8, h9, Bool.true_and, Bool.and_true, Bool.false_and, Bool.and_false, go_sem, reduceCtorEq, ↓reduceIte, Nat.reduceAdd, Nat.reduceMul, Nat.reduceSub, Nat.reduceEqDiff, Nat.reduceLT, Nat.reduceBEq, Nat.reduceBNe, Nat.reduceLeDiff, Int.reduceLE, Int.reduceLT, Int.reduceToNat, Int.reduceEq, Int.reduceAdd, UInt8.reduceToNat, UInt32.reduceToNat, UInt64.reduceToNat, UInt8.reduceOfNat, UInt32.reduceOfNat, UInt64.reduceOfNat, Fin.isValue, Int.reduceSub, Int.reduceMul, Int.reduceNeg, Int.reduceMod, Int.reduceDiv, Int.reduceTDiv, Int.reduceTMod, Int.reduceBEq, Int.reduceBNe, Nat.reduceDiv, Nat.reducePow]
                  (repeat' apply And.intro)
                  rotate_right
                  · refine endX [] ?_
                    simp only [envNK, con0, conS, strsOf_arr, rowS_arr, strsOf_cells, rowS_cells, toS, strL_st, strL_d, strL_enc, strL_up, hpN_nil, hpN_cons, gm1, rightUserC, rightRoundsC, hv, go_sem, reduceCtorEq, ↓reduceIte, Nat.reduceAdd, Nat.reduceMul, Nat.reduceSub, Nat.reduceEqDiff, Nat.reduceLT, Nat.reduceBEq, Nat.reduceBNe, Nat.reduceLeDiff, Int.reduceLE, Int.reduceLT, Int.reduceToNat, Int.reduceEq, Int.reduceAdd, UInt8.reduceToNat, UInt32.reduceToNat, UInt64.reduceToNat, UInt8.reduceOfNat, UInt32.reduceOfNat, UInt64.reduceOfNat, Fin.isValue, Int.reduceSub, Int.reduceMul, Int.reduceNeg, Int.reduceMod, Int.reduceDiv, Int.reduceTDiv, Int.reduceTMod, Int.reduceBEq, Int.reduceBNe, Nat.reduceDiv, Nat.reducePow]
                  all_goals first | omega | exact rfl | exact id | assumption
                | true =>
                  cases h10 : ((o.length : Int) == 0) with
                  | true =>
                    have hv : rightB ⟨u, s, r, e, p, n, w, o⟩ = true := by unfold rightB; simp only [h1, h2, h3, h4, h5, h7, h8, h9, h10, Bool.true_and, Bool.and_true, Bool.false_and, Bool.and_false, Bool.true_or, Bool.or_true, Bool.false_or, Bool.or_false]
                    simp only [envNK, con0, conS, strsOf_arr, rowS_arr, strsOf_cells, rowS_cells, toS, strL_st, strL_d, strL_enc, strL_up, hpN_nil, hpN_cons, gm1, rightUserC, rightRoundsC, Acc.cs, hv, h1, h2, h3, h4, h5, h7, h8, h9, h10, Bool.true_and, Bool.and_true, Bool.false_and, Bool.and_false, go_sem, reduceCtorEq, ↓reduceIte, Nat.reduceAdd, Nat.reduceMul, Nat.reduceSub, Nat.reduceEqDiff, Nat.reduceLT, Nat.reduceBEq, Nat.reduceBNe, Nat.reduceLeDiff, Int.reduceLE, Int.reduceLT, Int.reduceToNat, Int.reduceEq, Int.reduceAdd, UInt8.reduceToNat, UInt32.reduceToNat, UInt64.reduceToNat, UInt8.reduceOfNat, UInt32.reduceOfNat, UInt64.reduceOfNat, Fin.isValue, Int.reduceSub, Int.reduceMul, Int.reduceNeg, Int.reduceMod, Int.reduceDiv, Int.reduceTDiv, Int.reduceTMod, Int.reduceBEq, Int.reduceBNe, Nat.reduceDiv, Nat.reducePow]
                    (repeat' apply And.intro)
                    rotate_right
                    · refine endX [] ?_
                      simp only [envNK, con0, conS, strsOf_arr, rowS_arr, strsOf_cells, rowS_cells, toS, strL_st, strL_d, strL_enc, strL_up, hpN_nil, hpN_cons, gm1, rightUserC, rightRoundsC, hv, go_sem, reduceCtorEq, ↓reduceIte, Nat.reduceAdd, Nat.reduceMul, Nat.reduceSub, Nat.reduceEqDiff, Nat.reduceLT, Nat.reduceBEq, Nat.reduceBNe, Nat.reduceLeDiff, Int.reduceLE, Int.reduceLT, Int.reduceToNat, Int.reduceEq, Int.reduceAdd, UInt8.reduceToNat, UInt32.reduceToNat, UInt64.reduceToNat, UInt8.reduceOfNat, UInt32.reduceOfNat, UInt64.reduceOfNat, Fin.isValue, Int.reduceSub, Int.reduceMul, Int.reduceNeg, Int.reduceMod, Int.reduceDiv, Int.reduceTDiv, Int.reduceTMod, Int.reduceBEq, Int.reduceBNe, Nat.reduceDiv, Nat.reducePow]
                    all_goals first | omega | exact rfl | exact id | assumption
                  | false =>
                    cases h11 : ((o.length : Int) == 48) with
                    | true =>
                      have hv : rightB ⟨u, s, r, e, p, n, w, o⟩ = true := by unfold rightB; simp only [h1, h2, h3, h4, h5, h7, h8, h9, h10, h11, Bool.true_and, Bool.and_true, Bool.false_and, Bool.and_false, Bool.true_or, Bool.or_true, Bool.false_or, Bool.or_false]
                      simp only [envNK, con0, conS, strsOf_arr, rowS_arr, strsOf_cells, rowS_cells, toS, strL_st, strL_d, strL_enc, strL_up, hpN_nil, hpN_cons, gm1, rightUserC, rightRoundsC, Acc.cs, hv, h1, h2, h3, h4, h5, h7, h8, h9, h10, h11, Bool.true_and, Bool.and_true, Bool.false_and, Bool.and_false, go_sem, reduceCtorEq, ↓reduceIte, Nat.reduceAdd, Nat.reduceMul, Nat.reduceSub, Nat.reduceEqDiff, Nat.reduceLT, Nat.reduceBEq, Nat.reduceBNe, Nat.reduceLeDiff, Int.reduceLE, Int.reduceLT, Int.reduceToNat, Int.reduceEq, Int.reduceAdd, UInt8.reduceToNat, UInt32.reduceToNat, UInt64.reduceToNat, UInt8.reduceOfNat, UInt32.reduceOfNat, UInt64.reduceOfNat, Fin.isValue, Int.reduceSub, Int.reduceMul, Int.reduceNeg, Int.reduceMod, Int.reduceDiv, Int.reduceTDiv, Int.reduceTMod, Int.reduceBEq, Int.reduceBNe, Nat.reduceDiv, Nat.reducePow]
                      (repeat' apply And.intro)
                      rotate_right
                      · refine endX [] ?_
                        simp only [envNK, con0, conS, strsOf_arr, rowS_arr, strsOf_cells, rowS_cells, toS, strL_st, strL_d, strL_enc, strL_up, hpN_nil, hpN_cons, gm1, rightUserC, rightRoundsC, hv, go_sem, reduceCtorEq, ↓reduceIte, Nat.reduceAdd, Nat.reduceMul, Nat.reduceSub, Nat.reduceEqDiff, Nat.reduceLT, Nat.reduceBEq, Nat.reduceBNe, Nat.reduceLeDiff, Int.reduceLE, Int.reduceLT, Int.reduceToNat, Int.reduceEq, Int.reduceAdd, UInt8.reduceToNat, UInt32.reduceToNat, UInt64.reduceToNat, UInt8.reduceOfNat, UInt32.reduceOfNat, UInt64.reduceOfNat, Fin.isValue, Int.reduceSub, Int.reduceMul, Int.reduceNeg, Int.reduceMod, Int.reduceDiv, Int.reduceTDiv, Int.reduceTMod, Int.reduceBEq, Int.reduceBNe, Nat.reduceDiv, Nat.reducePow]
                      all_goals first | omega | exact rfl | exact id | assumption
                    | false =>
                      have hv : rightB ⟨u, s, r, e, p, n, w, o⟩ = false := by unfold rightB; simp only [h1, h2, h3, h4, h5, h7, h8, h9, h10, h11, Bool.true_and, Bool.and_true, Bool.false_and, Bool.and_false, Bool.true_or, Bool.or_true, Bool.false_or, Bool.or_false]
                      simp only [envNK, con0, conS, strsOf_arr, rowS_arr, strsOf_cells, rowS_cells, toS, strL_st, strL_d, strL_enc, strL_up, hpN_nil, hpN_cons, gm1, rightUserC, rightRoundsC, Acc.cs, hv, h1, h2, h3, h4, h5, h7, h8, h9, h10, h11, Bool.true_and, Bool.and_true, Bool.false_and, Bool.and_false, go_sem, reduceCtorEq, ↓reduceIte, Nat.reduceAdd, Nat.reduceMul, Nat.reduceSub, Nat.reduceEqDiff, Nat.reduceLT, Nat.reduceBEq, Nat.reduceBNe, Nat.reduceLeDiff, Int.reduceLE, Int.reduceLT, Int.reduceToNat, Int.reduceEq, Int.reduceAdd, UInt8.reduceToNat, UInt32.reduceToNat, UInt64.reduceToNat, UInt8.reduceOfNat, UInt32.reduceOfNat, UInt64.reduceOfNat, Fin.isValue, Int.reduceSub, Int.reduceMul, Int.reduceNeg, Int.reduceMod, Int.reduceDiv, Int.reduceTDiv, Int.reduceTMod, Int.reduceBEq, Int.reduceBNe, Nat.reduceDiv, Nat.reducePow]
                      (repeat' apply And.intro)
                      rotate_right
                      · refine endX [] ?_
                        simp only [envNK, con0, conS, strsOf_arr, rowS_arr, strsOf_cells, rowS_cells, toS, strL_st, strL_d, strL_enc, strL_up, hpN_nil, hpN_cons, gm1, rightUserC, rightRoundsC, hv, go_sem, reduceCtorEq, ↓reduceIte, Nat.reduceAdd, Nat.reduceMul, Nat.reduceSub, Nat.reduceEqDiff, Nat.reduceLT, Nat.reduceBEq, Nat.reduceBNe, Nat.reduceLeDiff, Int.reduceLE, Int.reduceLT, Int.reduceToNat, Int.reduceEq, Int.reduceAdd, UInt8.reduceToNat, UInt32.reduceToNat, UInt64.reduceToNat, UInt8.reduceOfNat, UInt32.reduceOfNat, UInt64.reduceOfNat, Fin.isValue, Int.reduceSub, Int.reduceMul, Int.reduceNeg, Int.reduceMod, Int.reduceDiv, Int.reduceTDiv, Int.reduceTMod, Int.reduceBEq, Int.reduceBNe, Nat.reduceDiv, Nat.reducePow]
                      all_goals first | omega | exact rfl | exact id | assumption
          | false =>
            cases h6 : (e == 1) with
            | true =>
              cases h7 : ((p.length : Int) == 32) with
              | false =>
                have hv : rightB ⟨u, s, r, e, p, n, w, o⟩ = false := by unfold rightB; simp only [h1, h2, h3, h4, h5, h6, h7, Bool.true_and, Bool.and_true, Bool.false_and, Bool.and_false, Bool.true_or, Bool.or_true, Bool.false_or, Bool.or_false]
                simp only [envNK, con0, conS, strsOf_arr, rowS_arr, strsOf_cells, rowS_cells, toS, strL_st, strL_d, strL_enc, strL_up, hpN_nil, hpN_cons, gm1, rightUserC, rightRoundsC, Acc.cs, hv, h1, h2, h3, h4, h5, h6, h7, Bool.true_and, Bool.and_true, Bool.false_and, Bool.and_false, go_sem, reduceCtorEq, ↓reduceIte, Nat.reduceAdd, Nat.reduceMul, Nat.reduceSub, Nat.reduceEqDiff, Nat.reduceLT, Nat.reduceBEq, Nat.reduceBNe, Nat.reduceLeDiff, Int.reduceLE, Int.reduceLT, Int.reduceToNat, Int.reduceEq, Int.reduceAdd, UInt8.reduceToNat, UInt32.reduceToNat, UInt64.reduceToNat, UInt8.reduceOfNat, UInt32.reduceOfNat, UInt64.reduceOfNat, Fin.isValue, Int.reduceSub, Int.reduceMul, Int.reduceNeg, Int.reduceMod, Int.reduceDiv, Int.reduceTDiv, Int.reduceTMod, Int.reduceBEq, Int.reduceBNe, Nat.reduceDiv, Nat.reducePow]
                (repeat' apply And.intro)
                rotate_right
                · refine endX [] ?_
                  simp only [envNK, con0, conS, strsOf_arr, rowS_arr, strsOf_cells, rowS_cells, toS, strL_st, strL_d, strL_enc, strL_up, hpN_nil, hpN_cons, gm1, rightUserC, rightRoundsC, hv, go_sem, reduceCtorEq, ↓reduceIte, Nat.reduceAdd, Nat.reduceMul, Nat.reduceSub, Nat.reduceEqDiff, Nat.reduceLT, Nat.reduceBEq, Nat.reduceBNe, Nat.reduceLeDiff, Int.reduceLE, Int.reduceLT, Int.reduceToNat, Int.reduceEq, Int.reduceAdd, UInt8.reduceToNat, UInt32.reduceToNat, UInt64.reduceToNat, UInt8.reduceOfNat, UInt32.reduceOfNat, UInt64.reduceOfNat, Fin.isValue, Int.reduceSub, Int.reduceMul, Int.reduceNeg, Int.reduceMod, Int.reduceDiv, Int.reduceTDiv, Int.reduceTMod, Int.reduceBEq, Int.reduceBNe, Nat.reduceDiv, Nat.reducePow]
                all_goals first | omega | exact rfl | exact id | assumption
              | true =>
                cases h8 : ((n.length : Int) == 12) with
                | false =>
                  have hv : rightB ⟨u, s, r, e, p, n, w, o⟩ = false := by unfold rightB; simp only [h1, h2, h3, h4, h5, h6, h7, h8, Bool.true_and, Bool.and_true, Bool.false_and, Bool.and_false, Bool.true_or, Bool.or_true, Bool.false_or, Bool.or_false]
                  simp only [envNK, con0, conS, strsOf_arr, rowS_arr, strsOf_cells, rowS_cells, toS, strL_st, strL_d, strL_enc, strL_up, hpN_nil, hpN_cons, gm1, rightUserC, rightRoundsC, Acc.cs, hv, h1, h2, h3, h4, h5, h6, h7, h8, Bool.true_and, Bool.and_true, Bool.false_and, Bool.and_false, go_sem, reduceCtorEq, ↓reduceIte, Nat.reduceAdd, Nat.reduceMul, Nat.reduceSub, Nat.reduceEqDiff, Nat.reduceLT, Nat.reduceBEq, Nat.reduceBNe, Nat.reduceLeDiff, Int.reduceLE, Int.reduceLT, Int.reduceToNat, Int.reduceEq, Int.reduceAdd, UInt8.reduceToNat, UInt32.reduceToNat, UInt64.reduceToNat, UInt8.reduceOfNat, UInt32.reduceOfNat, UInt64.reduceOfNat, Fin.isValue, Int.reduceSub, Int.reduceMul, Int.reduceNeg, Int.reduceMod, Int.reduceDiv, Int.reduceTDiv, Int.reduceTMod, Int.reduceBEq, Int.reduceBNe, Nat.reduceDiv, Nat.reducePow]
                  (repeat' apply And.intro)
                  rotate_right
                  · refine endX [] ?_
                    simp only [envNK, con0, conS, strsOf_arr, rowS_arr, strsOf_cells, rowS_cells, toS, strL_st, strL_d, strL_enc, strL_up, hpN_nil, hpN_cons, gm1, rightUserC, rightRoundsC, hv, go_sem, reduceCtorEq, ↓reduceIte, Nat.reduceAdd, Nat.reduceMul, Nat.reduceSub, Nat.reduceEqDiff, Nat.reduceLT, Nat.reduceBEq, Nat.reduceBNe, Nat.reduceLeDiff, Int.reduceLE, Int.reduceLT, Int.reduceToNat, Int.reduceEq, Int.reduceAdd, UInt8.reduceToNat, UInt32.reduceToNat, UInt64.reduceToNat, UInt8.reduceOfNat, UInt32.reduceOfNat, UInt64.reduceOfNat, Fin.isValue, Int.reduceSub, Int.reduceMul, Int.reduceNeg, Int.reduceMod, Int.reduceDiv, Int.reduceTDiv, Int.reduceTMod, Int.reduceBEq, Int.reduceBNe, Nat.reduceDiv, Nat.reducePow]
                  all_goals first | omega | exact rfl | exact id | assumption
                | true =>
                  cases h9 : ((w.length : Int) == 48) with
                  | false =>
                    have hv : rightB ⟨u, s, r, e, p, n, w, o⟩ = false := by unfold rightB; simp only [h1, h2, h3, h4, h5, h6, h7, h8, h9, Bool.true_and, Bool.and_true, Bool.false_and, Bool.and_false, Bool.true_or, Bool.or_true, Bool.false_or, Bool.or_false]
                    simp only [envNK, con0, conS, strsOf_arr, rowS_arr, strsOf_cells, rowS_cells, toS, strL_st, strL_d, strL_enc, strL_up, hpN_nil, hpN_cons, gm1, rightUserC, rightRoundsC, Acc.cs, hv, h1, h2, h3, h4, h5, h6, h7, h8, h9, Bool.true_and, Bool.and_true, Bool.false_and, Bool.and_false, go_sem, reduceCtorEq, ↓reduceIte, Nat.reduceAdd, Nat.reduceMul, Nat.reduceSub, Nat.reduceEqDiff, Nat.reduceLT, Nat.reduceBEq, Nat.reduceBNe, Nat.reduceLeDiff, Int.reduceLE, Int.reduceLT, Int.reduceToNat, Int.reduceEq, Int.reduceAdd, UInt8.reduceToNat, UInt32.reduceToNat, UInt64.reduceToNat, UInt8.reduceOfNat, UInt32.reduceOfNat, UInt64.reduceOfNat, Fin.isValue, Int.reduceSub, Int.reduceMul, Int.reduceNeg, Int.reduceMod, Int.reduceDiv, Int.reduceTDiv, Int.reduceTMod, Int.reduceBEq, Int.reduceBNe, Nat.reduceDiv, Nat.reducePow]
                    (repeat' apply And.intro)
                    rotate_right
                    · refine endX [] ?_
                      simp only [envNK, con0, conS, strsOf_arr, rowS_arr, strsOf_cells, rowS_cells, toS, strL_st, strL_d, strL_enc, strL_up, hpN_nil, hpN_cons, gm1, rightUserC, rightRoundsC, hv, go_sem, reduceCtorEq, ↓reduceIte, Nat.reduceAdd, Nat.reduceMul, Nat.reduceSub, Nat.reduceEqDiff, Nat.reduceLT, Nat.reduceBEq, Nat.reduceBNe, Nat.reduceLeDiff, Int.reduceLE, Int.reduceLT, Int.reduceToNat, Int.reduceEq, Int.reduceAdd, UInt8.reduceToNat, UInt32.reduceToNat, UInt64.reduceToNat, UInt8.reduceOfNat, UInt32.reduceOfNat, UInt64.reduceOfNat, Fin.isValue, Int.reduceSub, Int.reduceMul, Int.reduceNeg, Int.reduceMod, Int.reduceDiv, Int.reduceTDiv, Int.reduceTMod, Int.reduceBEq, Int.reduceBNe, Nat.reduceDiv, Nat.reducePow]
                    all_goals first | omega | exact rfl | exact id | assumption
                  | true =>
                    cases h10 : ((o.length : Int) == 0) with
                    | true =>
                      have hv : rightB ⟨u, s, r, e, p, n, w, o⟩ = true := by unfold rightB; simp only [h1, h2, h3, h4, h5, h6, h7, h8, h9, h10, Bool.true_and, Bool.and_true, Bool.false_and, Bool.and_false, Bool.true_or, Bool.or_true, Bool.false_or, Bool.or_false]
                      simp only [envNK, con0, conS, strsOf_arr, rowS_arr, strsOf_cells, rowS_cells, toS, strL_st, strL_d, strL_enc, strL_up, hpN_nil, hpN_cons, gm1, rightUserC, rightRoundsC, Acc.cs, hv, h1, h2, h3, h4, h5, h6, h7, h8, h9, h10, Bool.true_and, Bool.and_true, Bool.false_and, Bool.and_false, go_sem, reduceCtorEq, ↓reduceIte, Nat.reduceAdd, Nat.reduceMul, Nat.reduceSub, Nat.reduceEqDiff, Nat.reduceLT, Nat.reduceBEq, Nat.reduceBNe, Nat.reduceLeDiff, Int.reduceLE, Int.reduceLT, Int.reduceToNat, Int.reduceEq, Int.reduceAdd, UInt8.reduceToNat, UInt32.reduceToNat, UInt64.reduceToNat, UInt8.reduceOfNat, UInt32.reduceOfNat, UInt64.reduceOfNat, Fin.isValue, Int.reduceSub, Int.reduceMul, Int.reduceNeg, Int.reduceMod, Int.reduceDiv, Int.reduceTDiv, Int.reduceTMod, Int.reduceBEq, Int.reduceBNe, Nat.reduceDiv, Nat.reducePow]
                      (repeat' apply And.intro)
                      rotate_right
                      · refine endX [] ?_
                        simp only [envNK, con0, conS, strsOf_arr, rowS_arr, strsOf_cells, rowS_cells, toS, strL_st, strL_d, strL_enc, strL_up, hpN_nil, hpN_cons, gm1, rightUserC, rightRoundsC, hv, go_sem, reduceCtorEq, ↓reduceIte, Nat.reduceAdd, Nat.reduceMul, Nat.reduceSub, Nat.reduceEqDiff, Nat.reduceLT, Nat.reduceBEq, Nat.reduceBNe, Nat.reduceLeDiff, Int.reduceLE, Int.reduceLT, Int.reduceToNat, Int.reduceEq, Int.reduceAdd, UInt8.reduceToNat, UInt32.reduceToNat, UInt64.reduceToNat, UInt8.reduceOfNat, UInt32.reduceOfNat, UInt64.reduceOfNat, Fin.isValue, Int.reduceSub, Int.reduceMul, Int.reduceNeg, Int.reduceMod, Int.reduceDiv, Int.reduceTDiv, Int.reduceTMod, Int.reduceBEq, Int.reduceBNe, Nat.reduceDiv, Nat.reducePow]
                      all_goals first | omega | exact rfl | exact id | assumption
                    | false =>
                      cases h11 : ((o.length : Int) == 48) with
                      | true =>
                        have hv : rightB ⟨u, s, r, e, p, n, w, o⟩ = true := by unfold rightB; simp only [h1, h2, h3, h4, h5, h6, h7, h8, h9, h10, h11, Bool.true_and, Bool.and_true, Bool.false_and, Bool.and_false, Bool.true_or, Bool.or_true, Bool.false_or, Bool.or_false]
                        simp only [envNK, con0, conS, strsOf_arr, rowS_arr, strsOf_cells, rowS_cells, toS, strL_st, strL_d, strL_enc, strL_up, hpN_nil, hpN_cons, gm1, rightUserC, rightRoundsC, Acc.cs, hv, h1, h2, h3, h4, h5, h6, h7, h8, h9, h10, h11, Bool.true_and, Bool.and_true, Bool.false_and, Bool.and_false, go_sem, reduceCtorEq, ↓reduceIte, Nat.reduceAdd, Nat.reduceMul, Nat.reduceSub, Nat.reduceEqDiff, Nat.reduceLT, Nat.reduceBEq, Nat.reduceBNe, Nat.reduceLeDiff, Int.reduceLE, Int.reduceLT, Int.reduceToNat, Int.reduceEq, Int.reduceAdd, UInt8.reduceToNat, UInt32.reduceToNat, UInt64.reduceToNat, UInt8.reduceOfNat, UInt32.reduceOfNat, UInt64.reduceOfNat, Fin.isValue, Int.reduceSub, Int.reduceMul, Int.reduceNeg, Int.reduceMod, Int.reduceDiv, Int.reduceTDiv, Int.reduceTMod, Int.reduceBEq, Int.reduceBNe, Nat.reduceDiv, Nat.reducePow]
                        (repeat' apply And.intro)
                        rotate_right
                        · refine endX [] ?_
                          simp only [envNK, con0, conS, strsOf_arr, rowS_arr, strsOf_cells, rowS_cells, toS, strL_st, strL_d, strL_enc, strL_up, hpN_nil, hpN_cons, gm1, rightUserC, rightRoundsC, hv, go_sem, reduceCtorEq, ↓reduceIte, Nat.reduceAdd, Nat.reduceMul, Nat.reduceSub, Nat.reduceEqDiff, Nat.reduceLT, Nat.reduceBEq, Nat.reduceBNe, Nat.reduceLeDiff, Int.reduceLE, Int.reduceLT, Int.reduceToNat, Int.reduceEq, Int.reduceAdd, UInt8.reduceToNat, UInt32.reduceToNat, UInt64.reduceToNat, UInt8.reduceOfNat, UInt32.reduceOfNat, UInt64.reduceOfNat, Fin.isValue, Int.reduceSub, Int.reduceMul, Int.reduceNeg, Int.reduceMod, Int.reduceDiv, Int.reduceTDiv, Int.reduceTMod, Int.reduceBEq, Int.reduceBNe, Nat.reduceDiv, Nat.reducePow]
                        all_goals first | omega | exact rfl | exact id | assumption
                      | false =>
                        have hv : rightB ⟨u, s, r, e, p, n, w, o⟩ = false := by unfold rightB; simp only [h1, h2, h3, h4, h5, h6, h7, h8, h9, h10, h11, Bool.true_and, Bool.and_true, Bool.false_and, Bool.and_false, Bool.true_or, Bool.or_true, Bool.false_or, Bool.or_false]
                        simp only [envNK, con0, conS, strsOf_arr, rowS_arr, strsOf_cells, rowS_cells, toS, strL_st, strL_d, strL_enc, strL_up, hpN_nil, hpN_cons, gm1, rightUserC, rightRoundsC, Acc.cs, hv, h1, h2, h3, h4, h5, h6, h7, h8, h9, h10, h11, Bool.true_and, Bool.and_true, Bool.false_and, Bool.and_false, go_sem, reduceCtorEq, ↓reduceIte, Nat.reduceAdd, Nat.reduceMul, Nat.reduceSub, Nat.reduceEqDiff, Nat.reduceLT, Nat.reduceBEq, Nat.reduceBNe, Nat.reduceLeDiff, Int.reduceLE, Int.reduceLT, Int.reduceToNat, Int.reduceEq, Int.reduceAdd, UInt8.reduceToNat, UInt32.reduceToNat, UInt64.reduceToNat, UInt8.reduceOfNat, UInt32.reduceOfNat, UInt64.reduceOfNat, Fin.isValue, Int.reduceSub, Int.reduceMul, Int.reduceNeg, Int.reduceMod, Int.reduceDiv, Int.reduceTDiv, Int.reduceTMod, Int.reduceBEq, Int.reduceBNe, Nat.reduceDiv, Nat.reducePow]
                        (repeat' apply And.intro)
                        rotate_right
                        · refine endX [] ?_
                          simp only [envNK, con0, conS, strsOf_arr, rowS_arr, strsOf_cells, rowS_cells, toS, strL_st, strL_d, strL_enc, strL_up, hpN_nil, hpN_cons, gm1, rightUserC, rightRoundsC, hv, go_sem, reduceCtorEq, ↓reduceIte, Nat.reduceAdd, Nat.reduceMul, Nat.reduceSub, Nat.reduceEqDiff, Nat.reduceLT, Nat.reduceBEq, Nat.reduceBNe, Nat.reduceLeDiff, Int.reduceLE, Int.reduceLT, Int.reduceToNat, Int.reduceEq, Int.reduceAdd, UInt8.reduceToNat, UInt32.reduceToNat, UInt64.reduceToNat, UInt8.reduceOfNat, UInt32.reduceOfNat, UInt64.reduceOfNat, Fin.isValue, Int.reduceSub, Int.reduceMul, Int.reduceNeg, Int.reduceMod, Int.reduceDiv, Int.reduceTDiv, Int.reduceTMod, Int.reduceBEq, Int.reduceBNe, Nat.reduceDiv, Nat.reducePow]
                        all_goals first | omega | exact rfl | exact id | assumption
            | false =>
              have hv : rightB ⟨u, s, r, e, p, n, w, o⟩ = false := by unfold rightB; simp only [h1, h2, h3, h4, h5, h6, Bool.true_and, Bool.and_true, Bool.false_and, Bool.and_false, Bool.true_or, Bool.or_true, Bool.false_or, Bool.or_false]
              simp only [envNK, con0, conS, strsOf_arr, rowS_arr, strsOf_cells, rowS_cells, toS, strL_st, strL_d, strL_enc, strL_up, hpN_nil, hpN_cons, gm1, rightUserC, rightRoundsC, Acc.cs, hv, h1, h2, h3, h4, h5, h6, Bool.true_and, Bool.and_true, Bool.false_and, Bool.and_false, go_sem, reduceCtorEq, ↓reduceIte, Nat.reduceAdd, Nat.reduceMul, Nat.reduceSub, Nat.reduceEqDiff, Nat.reduceLT, Nat.reduceBEq, Nat.reduceBNe, Nat.reduceLeDiff, Int.reduceLE, Int.reduceLT, Int.reduceToNat, Int.reduceEq, Int.reduceAdd, UInt8.reduceToNat, UInt32.reduceToNat, UInt64.reduceToNat, UInt8.reduceOfNat, UInt32.reduceOfNat, UInt64.reduceOfNat, Fin.isValue, Int.reduceSub, Int.reduceMul, Int.reduceNeg, Int.reduceMod, Int.reduceDiv, Int.reduceTDiv, Int.reduceTMod, Int.reduceBEq, Int.reduceBNe, Nat.reduceDiv, Nat.reducePow]
              (repeat' apply And.intro)
              rotate_right
              · refine endX [] ?_
                simp only [envNK, con0, conS, strsOf_arr, rowS_arr, strsOf_cells, rowS_cells, toS, strL_st, strL_d, strL_enc, strL_up, hpN_nil, hpN_cons, gm1, rightUserC, rightRoundsC, hv, go_sem, reduceCtorEq, ↓reduceIte, Nat.reduceAdd, Nat.reduceMul, Nat.reduceSub, Nat.reduceEqDiff, Nat.reduceLT, Nat.reduceBEq, Nat.reduceBNe, Nat.reduceLeDiff, Int.reduceLE, Int.reduceLT, Int.reduceToNat, Int.reduceEq, Int.reduceAdd, UInt8.reduceToNat, UInt32.reduceToNat, UInt64.reduceToNat, UInt8.reduceOfNat, UInt32.reduceOfNat, UInt64.reduceOfNat, Fin.isValue, Int.reduceSub, Int.reduceMul, Int.reduceNeg, Int.reduceMod, Int.reduceDiv, Int.reduceTDiv, Int.reduceTMod, Int.reduceBEq, Int.reduceBNe, Nat.reduceDiv, Nat.reducePow]
              all_goals first | omega | exact rfl | exact id | assumption
def rightC : Con := con0 fun args => match args with
  | [.agg [.str u, .str s, .num r, .num e, .str p, .str n, .str w, .str o]] => some (.c (.one (.bo (rightB ⟨u, s, r, e, p, n, w, o⟩))), [u.length ≤ 9223372036854775807])
  | _ => none
theorem rightC_ok : ConOkG Tryd.prog GN 32 rightC := con0_okG Tryd.func32 rfl rfl fun args res ob h hob => by
  split at h
  · injection h with h; injection h with h1 h2; subst h1; subst h2; exact right_tri ⟨_, _, _, _, _, _, _, _⟩ hob.1
  · cases h
end Go.Proofs.YtahiopdkekkibaaDoor.FR

