/-
  Numbers of five parts: what does not hang on a layer.
-/
import Derived.Test.YtdkmkifebhggeaaTy
namespace Go.Proofs.Ytdkmkifebhggeaa
open Go Go.RowKit
set_option linter.unusedSimpArgs false
set_option linter.unusedVariables false
def ga0 : Nat → Option Con := fun _ => none
theorem ga0_ok : GaOk Try.prog ga0 := fun f con h => by cases h
noncomputable def envOf (ga : Nat → Option Con) (nt : Nat) : Env := ⟨ty, ga, [], nt, [], []⟩
theorem envOf_ok {ga : Nat → Option Con} (h : GaOk Try.prog ga) (nt : Nat) : EnvOk Try.prog (envOf ga nt) := ⟨ty_ok, h, by first | rfl | decide⟩
@[ext] structure N5 where
  (a b c d e : UInt64)
deriving DecidableEq
def N5.cv (x : N5) : CV := .agg [.u64 x.a, .u64 x.b, .u64 x.c, .u64 x.d, .u64 x.e]
theorem N5.eta (x : N5) : N5.mk x.a x.b x.c x.d x.e = x := rfl
def N5.lt (x : N5) (n : Nat) : Prop := x.a.toNat < n ∧ x.b.toNat < n ∧ x.c.toNat < n ∧ x.d.toNat < n ∧ x.e.toNat < n
theorem add64n {x y : UInt64} (h : x.toNat + y.toNat < 18446744073709551616) : (x + y).toNat = x.toNat + y.toNat := by
  rw [UInt64.toNat_add]; exact Nat.mod_eq_of_lt h
theorem mul64n {x y : UInt64} {A B : Nat} (hx : x.toNat < A) (hy : y.toNat < B) (h : A * B ≤ 18446744073709551616) : (x * y).toNat = x.toNat * y.toNat := by
  rw [UInt64.toNat_mul]
  exact Nat.mod_eq_of_lt (Nat.lt_of_lt_of_le (Nat.mul_lt_mul'' hx hy) h)
end Go.Proofs.Ytdkmkifebhggeaa
