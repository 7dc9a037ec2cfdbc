/-
  Layer 3: products.
-/
import Derived.Test.YtdkmkifebhggeaaSz
import Derived.Test.YtdkmkifebhggeaaKw
import Derived.Laws.Externs
namespace Go.Proofs.Ytdkmkifebhggeaa
open Go Go.RowKit
set_option maxHeartbeats 4000000
set_option linter.unusedSimpArgs false
set_option linter.unusedVariables false
def W2.cv (x : W2) : CV := .agg [.u64 x.h, .u64 x.l]
theorem W2.eta (x : W2) : W2.mk x.h x.l = x := rfl
theorem add64_run (x y : UInt64) (w : World) : (callFunc 49 #[.int .u64 (x.toNat : Int), .int .u64 (y.toNat : Int), .int .u64 (((0 : UInt64).toNat : Nat) : Int)]).run Try.prog w = .ok (.value (.tuple #[.int .u64 ((x + y).toNat : Int), .int .u64 ((addCar x y).toNat : Int)])) w := by
  have hx := x.toNat_lt
  have hy := y.toNat_lt
  have e1 : (((x.toNat : Int) + (y.toNat : Int) + 0) % 18446744073709551616) = ((x + y).toNat : Int) := by
    rw [UInt64.toNat_add]; simp only [Nat.reducePow]; omega
  have e2 : (((x.toNat : Int) + (y.toNat : Int) + 0) / 18446744073709551616) = ((addCar x y).toNat : Int) := by
    unfold addCar
    rw [UInt64.toNat_ofNat_of_lt' (by show _ < 18446744073709551616; omega)]
    omega
  rw [run_callFunc_extern Try.func49 (by kernel_rfl) (by kernel_rfl) (by kernel_rfl) (e := add64Entry) (by kernel_rfl)]
  have hz : (((0 : UInt64).toNat : Nat) : Int) = 0 := rfl
  rw [hz, run_add64 _ _ _ (by omega) (by omega) (by omega) (by omega), e1, e2]
  rfl
def add64C : Con := con0 fun args => match args with
  | [.one (.u64 x), .one (.u64 y), .one (.u64 c)] => some (.tup [.one (.u64 (x + y)), .one (.u64 (addCar x y))], [c = 0])
  | _ => none
theorem add64C_ok : ConOk Try.prog 49 add64C := con0_ext fun args res ob h hob r w vals hv => by
  split at h
  · rename_i x y c
    injection h with h; injection h with h1 h2; subst h1; subst h2
    have hc : c = 0 := hob.1
    subst hc
    match vals, hv with
    | [a, b, d], ⟨ha, hb, hd, _⟩ =>
      have ha : a = .int .u64 (x.toNat : Int) := ha
      have hb : b = .int .u64 (y.toNat : Int) := hb
      have hd : d = .int .u64 (((0 : UInt64).toNat : Nat) : Int) := hd
      subst ha; subst hb; subst hd
      exact ⟨_, add64_run x y w, _, rfl, rfl, rfl, trivial⟩
  · cases h
set_option maxRecDepth 100000 in
theorem mul64_tri (x y : UInt64) : Tri Try.prog 48 [.one (.u64 x), .one (.u64 y)] [] (.tup [.one (.u64 (mulHi x y)), .one (.u64 (x * y))]) [] := by
  refine tri_of (envOf_ok ga0_ok 51) Try.func48 rfl rfl (rs := [.tmp 4, .tmp 5]) rfl rfl (by simp [envOf]) rfl [] ?_
  simp only [envOf, ga0, go_sem, reduceCtorEq, ↓reduceIte, Nat.reduceAdd, Nat.reduceMul, Nat.reduceSub, Nat.reduceEqDiff, Nat.reduceLT, Nat.reduceBEq, Nat.reduceBNe, Nat.reduceLeDiff, Int.reduceLE, Int.reduceLT, Int.reduceToNat, Int.reduceEq, Int.reduceAdd, UInt8.reduceToNat, UInt32.reduceToNat, UInt64.reduceToNat, UInt8.reduceOfNat, UInt32.reduceOfNat, UInt64.reduceOfNat, Fin.isValue, Int.reduceSub, Int.reduceMul, Int.reduceNeg, Int.reduceMod, Int.reduceDiv, Int.reduceTDiv, Int.reduceTMod, Int.reduceBEq, Int.reduceBNe, Nat.reduceDiv, Nat.reducePow]
  all_goals rfl
def mul64C : Con := con0 fun args => match args with
  | [.one (.u64 x), .one (.u64 y)] => some (.tup [.one (.u64 (mulHi x y)), .one (.u64 (x * y))], [])
  | _ => none
theorem mul64C_ok : ConOk Try.prog 48 mul64C := con0_ok Try.func48 rfl rfl fun args res ob h hob => by
  split at h
  · injection h with h; injection h with h1 h2; subst h1; subst h2; exact mul64_tri _ _
  · cases h
def gf2 : Nat → Option Con := fun f => match f with
  | 49 => some add64C
  | 48 => some mul64C
  | 34 => some fcarryC
  | _ => none
theorem gf2_ok : GaOk Try.prog gf2 := fun f con h => by
  unfold gf2 at h
  split at h
  · injection h with h; subst h; exact add64C_ok
  · injection h with h; subst h; exact mul64C_ok
  · injection h with h; subst h; exact fcarryC_ok
  · cases h
set_option maxRecDepth 100000 in
theorem wplus_tri (w : W2) (x y : UInt64) : Tri Try.prog 39 [w.cv, .one (.u64 x), .one (.u64 y)] [] (.c (wplus w x y).cv) [] := by
  refine tri_of (envOf_ok gf2_ok 31) Try.func39 rfl rfl (rs := [.cell 6 57]) rfl rfl (by simp [envOf]) rfl [] ?_
  simp only [envOf, gf2, add64C, mul64C, fcarryC, W2.cv, go_sem, reduceCtorEq, ↓reduceIte, Nat.reduceAdd, Nat.reduceMul, Nat.reduceSub, Nat.reduceEqDiff, Nat.reduceLT, Nat.reduceBEq, Nat.reduceBNe, Nat.reduceLeDiff, Int.reduceLE, Int.reduceLT, Int.reduceToNat, Int.reduceEq, Int.reduceAdd, UInt8.reduceToNat, UInt32.reduceToNat, UInt64.reduceToNat, UInt8.reduceOfNat, UInt32.reduceOfNat, UInt64.reduceOfNat, Fin.isValue, Int.reduceSub, Int.reduceMul, Int.reduceNeg, Int.reduceMod, Int.reduceDiv, Int.reduceTDiv, Int.reduceTMod, Int.reduceBEq, Int.reduceBNe, Nat.reduceDiv, Nat.reducePow, Try.underlying57]
  repeat' apply And.intro
  all_goals rfl
def wplusC : Con := con0 fun args => match args with
  | [.agg [.u64 h, .u64 l], .one (.u64 x), .one (.u64 y)] => some (.c (wplus ⟨h, l⟩ x y).cv, [])
  | _ => none
theorem wplusC_ok : ConOk Try.prog 39 wplusC := con0_ok Try.func39 rfl rfl fun args res ob h hob => by
  split at h
  · injection h with h; injection h with h1 h2; subst h1; subst h2; exact wplus_tri ⟨_, _⟩ _ _
  · cases h
def W5.cv (s : W5) : CV := .agg [.u64 s.a.h, .u64 s.a.l, .u64 s.b.h, .u64 s.b.l, .u64 s.c.h, .u64 s.c.l, .u64 s.d.h, .u64 s.d.l, .u64 s.e.h, .u64 s.e.l]
set_option maxRecDepth 100000 in
theorem narrow_tri (s : W5) : Tri Try.prog 40 [s.cv] [] (.c (narrowN s).cv) [] := by
  refine tri_of (envOf_ok gf2_ok 76) Try.func40 rfl rfl (rs := [.cell 2 24]) rfl rfl (by simp [envOf]) rfl [] ?_
  simp only [envOf, gf2, add64C, mul64C, fcarryC, W5.cv, N5.cv, go_sem, reduceCtorEq, ↓reduceIte, Nat.reduceAdd, Nat.reduceMul, Nat.reduceSub, Nat.reduceEqDiff, Nat.reduceLT, Nat.reduceBEq, Nat.reduceBNe, Nat.reduceLeDiff, Int.reduceLE, Int.reduceLT, Int.reduceToNat, Int.reduceEq, Int.reduceAdd, UInt8.reduceToNat, UInt32.reduceToNat, UInt64.reduceToNat, UInt8.reduceOfNat, UInt32.reduceOfNat, UInt64.reduceOfNat, Fin.isValue, Int.reduceSub, Int.reduceMul, Int.reduceNeg, Int.reduceMod, Int.reduceDiv, Int.reduceTDiv, Int.reduceTMod, Int.reduceBEq, Int.reduceBNe, Nat.reduceDiv, Nat.reducePow, Try.underlying57]
  repeat' apply And.intro
  all_goals try rfl
  refine loop_rounds (envOf_ok gf2_ok 76) 6 ?_
  simp only [envOf, gf2, add64C, mul64C, fcarryC, W5.cv, N5.cv, go_sem, reduceCtorEq, ↓reduceIte, Nat.reduceAdd, Nat.reduceMul, Nat.reduceSub, Nat.reduceEqDiff, Nat.reduceLT, Nat.reduceBEq, Nat.reduceBNe, Nat.reduceLeDiff, Int.reduceLE, Int.reduceLT, Int.reduceToNat, Int.reduceEq, Int.reduceAdd, UInt8.reduceToNat, UInt32.reduceToNat, UInt64.reduceToNat, UInt8.reduceOfNat, UInt32.reduceOfNat, UInt64.reduceOfNat, Fin.isValue, Int.reduceSub, Int.reduceMul, Int.reduceNeg, Int.reduceMod, Int.reduceDiv, Int.reduceTDiv, Int.reduceTMod, Int.reduceBEq, Int.reduceBNe, Nat.reduceDiv, Nat.reducePow, Try.underlying57]
  repeat' apply And.intro
  all_goals rfl
end Go.Proofs.Ytdkmkifebhggeaa
