/-
  Layer 4: a scalar clamped; the base; a step of the ladder.
-/
import Derived.Test.YtdkmkifebhggeaaSz
import Derived.Test.YtdkmkifebhggeaaKc
import Derived.Test.YtdkmkifebhggeaaKs
namespace Go.Proofs.Ytdkmkifebhggeaa
open Go Go.RowKit
set_option maxHeartbeats 4000000
set_option linter.unusedSimpArgs false
set_option linter.unusedVariables false
def clampK (s : List UInt8) : List UInt8 := (s.set 0 (s.getD 0 0 &&& 248)).set 31 (((s.set 0 (s.getD 0 0 &&& 248)).getD 31 0 &&& 127) ||| 64)
def clampV (s : List UInt8) : SV := if s.length = 32 then .tup [.one (.str (clampK s)), .one (.bo true)] else .tup [.one (.str []), .one (.bo false)]
theorem clampK_len (s : List UInt8) : (clampK s).length = s.length := by unfold clampK; simp
set_option maxRecDepth 100000 in
theorem clamp_tri (s : List UInt8) : Tri Try.prog 26 [.one (.str s)] [] (clampV s) [] := by
  refine tri_of (envOf_ok ga0_ok 24) Try.func26 rfl rfl (rs := [.tmp 2, .tmp 3]) rfl rfl (by simp [envOf]) rfl [] ?_
  cases h : ((s.length : Int) == 32) with
  | false =>
    have hn : s.length ≠ 32 := fun e => by rw [e] at h; exact absurd h (by decide)
    have hv : clampV s = .tup [.one (.str []), .one (.bo false)] := if_neg hn
    simp only [envOf, ga0, h, hv, go_sem, reduceCtorEq, ↓reduceIte, Nat.reduceAdd, Nat.reduceMul, Nat.reduceSub, Nat.reduceEqDiff, Nat.reduceLT, Nat.reduceBEq, Nat.reduceBNe, Nat.reduceLeDiff, Int.reduceLE, Int.reduceLT, Int.reduceToNat, Int.reduceEq, Int.reduceAdd, UInt8.reduceToNat, UInt32.reduceToNat, UInt64.reduceToNat, UInt8.reduceOfNat, UInt32.reduceOfNat, UInt64.reduceOfNat, Fin.isValue, Int.reduceSub, Int.reduceMul, Int.reduceNeg, Int.reduceMod, Int.reduceDiv, Int.reduceTDiv, Int.reduceTMod, Int.reduceBEq, Int.reduceBNe, Nat.reduceDiv, Nat.reducePow]
  | true =>
    have hs : s.length = 32 := by have := beq_iff_eq.1 h; omega
    have hv : clampV s = .tup [.one (.str (clampK s)), .one (.bo true)] := if_pos hs
    have ht : (clampK s).take 32 = clampK s := List.take_of_length_le (by rw [clampK_len]; omega)
    unfold clampK at ht hv
    simp only [envOf, ga0, hs, hv, ht, List.length_set, go_sem, reduceCtorEq, ↓reduceIte, Nat.reduceAdd, Nat.reduceMul, Nat.reduceSub, Nat.reduceEqDiff, Nat.reduceLT, Nat.reduceBEq, Nat.reduceBNe, Nat.reduceLeDiff, Int.reduceLE, Int.reduceLT, Int.reduceToNat, Int.reduceEq, Int.reduceAdd, UInt8.reduceToNat, UInt32.reduceToNat, UInt64.reduceToNat, UInt8.reduceOfNat, UInt32.reduceOfNat, UInt64.reduceOfNat, Fin.isValue, Int.reduceSub, Int.reduceMul, Int.reduceNeg, Int.reduceMod, Int.reduceDiv, Int.reduceTDiv, Int.reduceTMod, Int.reduceBEq, Int.reduceBNe, Nat.reduceDiv, Nat.reducePow]
    repeat' apply And.intro
    all_goals first | omega | rfl
def clampC : Con := con0 fun args => match args with
  | [.one (.str s)] => some (clampV s, [])
  | _ => none
theorem clampC_ok : ConOk Try.prog 26 clampC := con0_ok Try.func26 rfl rfl fun args res ob h hob => by
  split at h
  · injection h with h; injection h with h1 h2; subst h1; subst h2; exact clamp_tri _
  · cases h
def base9 : List UInt8 := [9, 0, 0, 0, 0, 0, 0, 0, 0, 0, 0, 0, 0, 0, 0, 0, 0, 0, 0, 0, 0, 0, 0, 0, 0, 0, 0, 0, 0, 0, 0, 0]
set_option maxRecDepth 100000 in
theorem base_tri : Tri Try.prog 28 [] [] (.c (.one (.str base9))) [] := by
  refine tri_of (envOf_ok ga0_ok 7) Try.func28 rfl rfl (rs := [.tmp 0]) rfl rfl (by simp [envOf]) rfl [] ?_
  have hz : List.replicate 32 (AV.u8 0) = [.u8 0, .u8 0, .u8 0, .u8 0, .u8 0, .u8 0, .u8 0, .u8 0, .u8 0, .u8 0, .u8 0, .u8 0, .u8 0, .u8 0, .u8 0, .u8 0, .u8 0, .u8 0, .u8 0, .u8 0, .u8 0, .u8 0, .u8 0, .u8 0, .u8 0, .u8 0, .u8 0, .u8 0, .u8 0, .u8 0, .u8 0, .u8 0] := rfl
  simp only [envOf, ga0, hz, go_sem, reduceCtorEq, ↓reduceIte, Nat.reduceAdd, Nat.reduceMul, Nat.reduceSub, Nat.reduceEqDiff, Nat.reduceLT, Nat.reduceBEq, Nat.reduceBNe, Nat.reduceLeDiff, Int.reduceLE, Int.reduceLT, Int.reduceToNat, Int.reduceEq, Int.reduceAdd, UInt8.reduceToNat, UInt32.reduceToNat, UInt64.reduceToNat, UInt8.reduceOfNat, UInt32.reduceOfNat, UInt64.reduceOfNat, Fin.isValue, Int.reduceSub, Int.reduceMul, Int.reduceNeg, Int.reduceMod, Int.reduceDiv, Int.reduceTDiv, Int.reduceTMod, Int.reduceBEq, Int.reduceBNe, Nat.reduceDiv, Nat.reducePow]
  repeat' apply And.intro
  all_goals first | omega | rfl
def baseC : Con := con0 fun args => match args with
  | [] => some (.c (.one (.str base9)), [])
  | _ => none
theorem baseC_ok : ConOk Try.prog 28 baseC := con0_ok Try.func28 rfl rfl fun args res ob h hob => by
  split at h
  · injection h with h; injection h with h1 h2; subst h1; subst h2; exact base_tri
  · cases h
def PN.cv (p : PN) : CV := .agg [.u64 p.x.a, .u64 p.x.b, .u64 p.x.c, .u64 p.x.d, .u64 p.x.e, .u64 p.z.a, .u64 p.z.b, .u64 p.z.c, .u64 p.z.d, .u64 p.z.e]
def gk3 : Nat → Option Con := fun f => match f with
  | 13 => some faddC
  | 16 => some fsubC
  | 19 => some fmulC
  | 21 => some fscaleC
  | _ => none
theorem gk3_ok : GaOk Try.prog gk3 := fun f con h => by
  unfold gk3 at h
  split at h
  · injection h with h; subst h; exact faddC_ok
  · injection h with h; subst h; exact fsubC_ok
  · injection h with h; subst h; exact fmulC_ok
  · injection h with h; subst h; exact fscaleC_ok
  · cases h
set_option maxRecDepth 100000 in
theorem lstep_tri (p q : PN) (u : N5) : Tri Try.prog 52 [p.cv, q.cv, u.cv] [] (.tup [(dblN p).cv, (smN u p q).cv]) [] := by
  refine tri_of (envOf_ok gk3_ok 79) Try.func52 rfl rfl (rs := [.cell 6 74, .cell 7 74]) rfl rfl (by simp [envOf]) rfl [] ?_
  simp only [envOf, gk3, faddC, fsubC, fmulC, fscaleC, N5.cv, PN.cv, N5.eta, go_sem, reduceCtorEq, ↓reduceIte, Nat.reduceAdd, Nat.reduceMul, Nat.reduceSub, Nat.reduceEqDiff, Nat.reduceLT, Nat.reduceBEq, Nat.reduceBNe, Nat.reduceLeDiff, Int.reduceLE, Int.reduceLT, Int.reduceToNat, Int.reduceEq, Int.reduceAdd, UInt8.reduceToNat, UInt32.reduceToNat, UInt64.reduceToNat, UInt8.reduceOfNat, UInt32.reduceOfNat, UInt64.reduceOfNat, Fin.isValue, Int.reduceSub, Int.reduceMul, Int.reduceNeg, Int.reduceMod, Int.reduceDiv, Int.reduceTDiv, Int.reduceTMod, Int.reduceBEq, Int.reduceBNe, Nat.reduceDiv, Nat.reducePow, Try.underlying74]
  repeat' apply And.intro
  all_goals rfl
def lstepC : Con := con0 fun args => match args with
  | [.agg [.u64 a, .u64 b, .u64 c, .u64 d, .u64 e, .u64 f, .u64 g, .u64 h, .u64 i, .u64 j], .agg [.u64 a', .u64 b', .u64 c', .u64 d', .u64 e', .u64 f', .u64 g', .u64 h', .u64 i', .u64 j'], .agg [.u64 k, .u64 l, .u64 m, .u64 n, .u64 o]] => some (.tup [(dblN ⟨⟨a, b, c, d, e⟩, ⟨f, g, h, i, j⟩⟩).cv, (smN ⟨k, l, m, n, o⟩ ⟨⟨a, b, c, d, e⟩, ⟨f, g, h, i, j⟩⟩ ⟨⟨a', b', c', d', e'⟩, ⟨f', g', h', i', j'⟩⟩).cv], [])
  | _ => none
theorem lstepC_ok : ConOk Try.prog 52 lstepC := con0_ok Try.func52 rfl rfl fun args res ob h hob => by
  split at h
  · injection h with h; injection h with h1 h2; subst h1; subst h2; exact lstep_tri ⟨⟨_, _, _, _, _⟩, ⟨_, _, _, _, _⟩⟩ ⟨⟨_, _, _, _, _⟩, ⟨_, _, _, _, _⟩⟩ ⟨_, _, _, _, _⟩
  · cases h
def gk4 : Nat → Option Con := fun f => match f with
  | 53 => some fswapC
  | _ => none
theorem gk4_ok : GaOk Try.prog gk4 := fun f con h => by
  unfold gk4 at h
  split at h
  · injection h with h; subst h; exact fswapC_ok
  · cases h
set_option maxRecDepth 100000 in
theorem lswap_tri (p q : PN) (y : Bool) : Tri Try.prog 51 [p.cv, q.cv, .one (.bo y)] [] (.tup [(if y = true then q else p).cv, (if y = true then p else q).cv]) [] := by
  refine tri_of (envOf_ok gk4_ok 32) Try.func51 rfl rfl (rs := [.cell 6 74, .cell 7 74]) rfl rfl (by simp [envOf]) rfl [] ?_
  cases y
  all_goals
    simp only [envOf, gk4, fswapC, N5.cv, PN.cv, N5.eta, go_sem, reduceCtorEq, ↓reduceIte, Nat.reduceAdd, Nat.reduceMul, Nat.reduceSub, Nat.reduceEqDiff, Nat.reduceLT, Nat.reduceBEq, Nat.reduceBNe, Nat.reduceLeDiff, Int.reduceLE, Int.reduceLT, Int.reduceToNat, Int.reduceEq, Int.reduceAdd, UInt8.reduceToNat, UInt32.reduceToNat, UInt64.reduceToNat, UInt8.reduceOfNat, UInt32.reduceOfNat, UInt64.reduceOfNat, Fin.isValue, Int.reduceSub, Int.reduceMul, Int.reduceNeg, Int.reduceMod, Int.reduceDiv, Int.reduceTDiv, Int.reduceTMod, Int.reduceBEq, Int.reduceBNe, Nat.reduceDiv, Nat.reducePow, Try.underlying74]
    repeat' apply And.intro
    all_goals rfl
end Go.Proofs.Ytdkmkifebhggeaa
