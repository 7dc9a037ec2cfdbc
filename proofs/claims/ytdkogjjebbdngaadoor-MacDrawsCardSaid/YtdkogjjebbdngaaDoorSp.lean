/-
  A walk by reckoning, part 3: arithmetic on what is known. It speaks of no program.
-/
import Derived.Test.YtdkogjjebbdngaaDoorSh
namespace Go.Proofs.YtdkogjjebbdngaaDoor
open Go
set_option linter.unusedSimpArgs false
set_option linter.unusedVariables false

def AllT : List Prop → Prop
  | [] => True
  | p :: l => p ∧ AllT l
theorem AllT.append : ∀ {a b : List Prop}, AllT (a ++ b) ↔ AllT a ∧ AllT b
  | [], _ => by simp [AllT]
  | _ :: a, b => by simp only [List.cons_append, AllT, AllT.append (a := a) (b := b), and_assoc]


def shl8 (x : UInt8) (n : Nat) : UInt8 := if n < 8 then x <<< UInt8.ofNat n else 0
def shr8 (x : UInt8) (n : Nat) : UInt8 := if n < 8 then x >>> UInt8.ofNat n else 0
theorem ofI8 (x : UInt8) : BitVec.ofInt 8 (x.toNat : Int) = x.toBitVec := by
  apply BitVec.eq_of_toNat_eq; simp
theorem wr8 (n : Nat) : IntKind.u8.wrap (n : Int) = ((UInt8.ofNat n).toNat : Int) := by
  rw [IntKind.wrap_u8]; simp
theorem wb8 (b : BitVec 8) : IntKind.u8.wrap (b.toNat : Int) = ((UInt8.ofBitVec b).toNat : Int) := by
  rw [wr8]; simp
theorem add8 (x y : UInt8) : IntKind.u8.wrap ((x.toNat : Int) + (y.toNat : Int)) = ((x + y).toNat : Int) := by
  rw [IntKind.wrap_u8, UInt8.toNat_add]; omega
theorem sub8 (x y : UInt8) : IntKind.u8.wrap ((x.toNat : Int) - (y.toNat : Int)) = ((x - y).toNat : Int) := by
  have := x.toNat_lt; have := y.toNat_lt
  rw [IntKind.wrap_u8, UInt8.toNat_sub]; omega
theorem mul8 (x y : UInt8) : IntKind.u8.wrap ((x.toNat : Int) * (y.toNat : Int)) = ((x * y).toNat : Int) := by
  rw [IntKind.wrap_u8, UInt8.toNat_mul, ← Int.natCast_mul, Int.natCast_emod]; rfl
theorem shlw8 (x : UInt8) (n : Nat) : IntKind.u8.wrap ((x.toNat : Int) * 2 ^ (min n 8)) = ((shl8 x n).toNat : Int) := by
  rw [IntKind.wrap_u8]
  unfold shl8
  by_cases h : n < 8
  · have h1 : (UInt8.ofNat n).toNat = n := by simp; omega
    rw [if_pos h, UInt8.toNat_shiftLeft, h1, Nat.mod_eq_of_lt h, Nat.shiftLeft_eq, Nat.min_eq_left (Nat.le_of_lt h), Int.natCast_emod, Int.natCast_mul]; simp
  · rw [if_neg h, Nat.min_eq_right (by omega)]; simp
theorem shrw8 (x : UInt8) (n : Nat) : ((x.toNat : Int)).fdiv (2 ^ (min n 8)) = ((shr8 x n).toNat : Int) := by
  have hx := x.toNat_lt
  have e : ∀ m : Nat, ((x.toNat : Int)).fdiv (2 ^ m) = ((x.toNat / 2 ^ m : Nat) : Int) := fun m => by
    rw [Int.fdiv_eq_ediv_of_nonneg _ (by exact Int.le_of_lt (Int.pow_pos (by decide)))]; simp
  rw [e]
  unfold shr8
  by_cases h : n < 8
  · have h1 : (UInt8.ofNat n).toNat = n := by simp; omega
    rw [if_pos h, UInt8.toNat_shiftRight, h1, Nat.mod_eq_of_lt h, Nat.shiftRight_eq_div_pow, Nat.min_eq_left (Nat.le_of_lt h)]
  · rw [if_neg h, Nat.min_eq_right (by omega)]
    rw [Nat.div_eq_of_lt (by simpa using hx)]; rfl
theorem and8 (x y : UInt8) : IntKind.u8.wrap (((BitVec.ofInt IntKind.u8.bits (x.toNat : Int) &&& BitVec.ofInt IntKind.u8.bits (y.toNat : Int)).toNat : Nat) : Int) = ((x &&& y).toNat : Int) := by
  show IntKind.u8.wrap (((BitVec.ofInt 8 (x.toNat : Int) &&& BitVec.ofInt 8 (y.toNat : Int)).toNat : Nat) : Int) = _
  rw [ofI8, ofI8, wb8]; rfl
theorem or8 (x y : UInt8) : IntKind.u8.wrap (((BitVec.ofInt IntKind.u8.bits (x.toNat : Int) ||| BitVec.ofInt IntKind.u8.bits (y.toNat : Int)).toNat : Nat) : Int) = ((x ||| y).toNat : Int) := by
  show IntKind.u8.wrap (((BitVec.ofInt 8 (x.toNat : Int) ||| BitVec.ofInt 8 (y.toNat : Int)).toNat : Nat) : Int) = _
  rw [ofI8, ofI8, wb8]; rfl
theorem xor8 (x y : UInt8) : IntKind.u8.wrap (((BitVec.ofInt IntKind.u8.bits (x.toNat : Int) ^^^ BitVec.ofInt IntKind.u8.bits (y.toNat : Int)).toNat : Nat) : Int) = ((x ^^^ y).toNat : Int) := by
  show IntKind.u8.wrap (((BitVec.ofInt 8 (x.toNat : Int) ^^^ BitVec.ofInt 8 (y.toNat : Int)).toNat : Nat) : Int) = _
  rw [ofI8, ofI8, wb8]; rfl
theorem quo8 (x y : UInt8) : IntKind.u8.wrap ((x.toNat : Int).tdiv (y.toNat : Int)) = ((x / y).toNat : Int) := by
  have := x.toNat_lt
  have h := Nat.div_le_self x.toNat y.toNat
  have h2 : x.toNat / y.toNat < 256 := by omega
  rw [← Int.ofNat_tdiv, IntKind.wrap_u8, UInt8.toNat_div]; generalize x.toNat / y.toNat = z at h2; omega
theorem rem8 (x y : UInt8) : (x.toNat : Int).tmod (y.toNat : Int) = ((x % y).toNat : Int) := by
  rw [← Int.ofNat_tmod, UInt8.toNat_mod]
theorem nz8 (y : UInt8) (h : y ≠ 0) : ¬ ((y.toNat : Int) = 0) := fun e => h (UInt8.toNat_inj.1 (by simp; omega))
theorem eqw8 (x y : UInt8) : ((x.toNat : Int) == (y.toNat : Int)) = (x == y) := by
  by_cases h : x = y
  · subst h; simp
  · rw [beq_eq_false_iff_ne.2 h]
    exact beq_eq_false_iff_ne.2 fun e => h (UInt8.toNat_inj.1 (by omega))
theorem ltw8 (x y : UInt8) : decide ((x.toNat : Int) < (y.toNat : Int)) = decide (x < y) := by
  simp [UInt8.lt_iff_toNat_lt]
theorem lew8 (x y : UInt8) : decide ((x.toNat : Int) ≤ (y.toNat : Int)) = decide (x ≤ y) := by
  simp [UInt8.le_iff_toNat_le]
theorem ofInt8 (n : Int) : IntKind.u8.wrap n = ((UInt8.ofNat (n % 256).toNat).toNat : Int) := by
  rw [IntKind.wrap_u8]
  have := Int.emod_nonneg n (show (256 : Int) ≠ 0 by decide)
  have := Int.emod_lt_of_pos n (show (0 : Int) < 256 by decide)
  simp; omega


def shl32 (x : UInt32) (n : Nat) : UInt32 := if n < 32 then x <<< UInt32.ofNat n else 0
def shr32 (x : UInt32) (n : Nat) : UInt32 := if n < 32 then x >>> UInt32.ofNat n else 0
theorem ofI32 (x : UInt32) : BitVec.ofInt 32 (x.toNat : Int) = x.toBitVec := by
  apply BitVec.eq_of_toNat_eq; simp
theorem wr32 (n : Nat) : IntKind.u32.wrap (n : Int) = ((UInt32.ofNat n).toNat : Int) := by
  rw [IntKind.wrap_u32]; simp
theorem wb32 (b : BitVec 32) : IntKind.u32.wrap (b.toNat : Int) = ((UInt32.ofBitVec b).toNat : Int) := by
  rw [wr32]; simp
theorem add32 (x y : UInt32) : IntKind.u32.wrap ((x.toNat : Int) + (y.toNat : Int)) = ((x + y).toNat : Int) := by
  rw [IntKind.wrap_u32, UInt32.toNat_add]; omega
theorem sub32 (x y : UInt32) : IntKind.u32.wrap ((x.toNat : Int) - (y.toNat : Int)) = ((x - y).toNat : Int) := by
  have := x.toNat_lt; have := y.toNat_lt
  rw [IntKind.wrap_u32, UInt32.toNat_sub]; omega
theorem mul32 (x y : UInt32) : IntKind.u32.wrap ((x.toNat : Int) * (y.toNat : Int)) = ((x * y).toNat : Int) := by
  rw [IntKind.wrap_u32, UInt32.toNat_mul, ← Int.natCast_mul, Int.natCast_emod]; rfl
theorem shlw32 (x : UInt32) (n : Nat) : IntKind.u32.wrap ((x.toNat : Int) * 2 ^ (min n 32)) = ((shl32 x n).toNat : Int) := by
  rw [IntKind.wrap_u32]
  unfold shl32
  by_cases h : n < 32
  · have h1 : (UInt32.ofNat n).toNat = n := by simp; omega
    rw [if_pos h, UInt32.toNat_shiftLeft, h1, Nat.mod_eq_of_lt h, Nat.shiftLeft_eq, Nat.min_eq_left (Nat.le_of_lt h), Int.natCast_emod, Int.natCast_mul]; simp
  · rw [if_neg h, Nat.min_eq_right (by omega)]; simp
theorem shrw32 (x : UInt32) (n : Nat) : ((x.toNat : Int)).fdiv (2 ^ (min n 32)) = ((shr32 x n).toNat : Int) := by
  have hx := x.toNat_lt
  have e : ∀ m : Nat, ((x.toNat : Int)).fdiv (2 ^ m) = ((x.toNat / 2 ^ m : Nat) : Int) := fun m => by
    rw [Int.fdiv_eq_ediv_of_nonneg _ (by exact Int.le_of_lt (Int.pow_pos (by decide)))]; simp
  rw [e]
  unfold shr32
  by_cases h : n < 32
  · have h1 : (UInt32.ofNat n).toNat = n := by simp; omega
    rw [if_pos h, UInt32.toNat_shiftRight, h1, Nat.mod_eq_of_lt h, Nat.shiftRight_eq_div_pow, Nat.min_eq_left (Nat.le_of_lt h)]
  · rw [if_neg h, Nat.min_eq_right (by omega)]
    rw [Nat.div_eq_of_lt (by simpa using hx)]; rfl
theorem and32 (x y : UInt32) : IntKind.u32.wrap (((BitVec.ofInt IntKind.u32.bits (x.toNat : Int) &&& BitVec.ofInt IntKind.u32.bits (y.toNat : Int)).toNat : Nat) : Int) = ((x &&& y).toNat : Int) := by
  show IntKind.u32.wrap (((BitVec.ofInt 32 (x.toNat : Int) &&& BitVec.ofInt 32 (y.toNat : Int)).toNat : Nat) : Int) = _
  rw [ofI32, ofI32, wb32]; rfl
theorem or32 (x y : UInt32) : IntKind.u32.wrap (((BitVec.ofInt IntKind.u32.bits (x.toNat : Int) ||| BitVec.ofInt IntKind.u32.bits (y.toNat : Int)).toNat : Nat) : Int) = ((x ||| y).toNat : Int) := by
  show IntKind.u32.wrap (((BitVec.ofInt 32 (x.toNat : Int) ||| BitVec.ofInt 32 (y.toNat : Int)).toNat : Nat) : Int) = _
  rw [ofI32, ofI32, wb32]; rfl
theorem xor32 (x y : UInt32) : IntKind.u32.wrap (((BitVec.ofInt IntKind.u32.bits (x.toNat : Int) ^^^ BitVec.ofInt IntKind.u32.bits (y.toNat : Int)).toNat : Nat) : Int) = ((x ^^^ y).toNat : Int) := by
  show IntKind.u32.wrap (((BitVec.ofInt 32 (x.toNat : Int) ^^^ BitVec.ofInt 32 (y.toNat : Int)).toNat : Nat) : Int) = _
  rw [ofI32, ofI32, wb32]; rfl
theorem quo32 (x y : UInt32) : IntKind.u32.wrap ((x.toNat : Int).tdiv (y.toNat : Int)) = ((x / y).toNat : Int) := by
  have := x.toNat_lt
  have h := Nat.div_le_self x.toNat y.toNat
  have h2 : x.toNat / y.toNat < 4294967296 := by omega
  rw [← Int.ofNat_tdiv, IntKind.wrap_u32, UInt32.toNat_div]; generalize x.toNat / y.toNat = z at h2; omega
theorem rem32 (x y : UInt32) : (x.toNat : Int).tmod (y.toNat : Int) = ((x % y).toNat : Int) := by
  rw [← Int.ofNat_tmod, UInt32.toNat_mod]
theorem nz32 (y : UInt32) (h : y ≠ 0) : ¬ ((y.toNat : Int) = 0) := fun e => h (UInt32.toNat_inj.1 (by simp; omega))
theorem eqw32 (x y : UInt32) : ((x.toNat : Int) == (y.toNat : Int)) = (x == y) := by
  by_cases h : x = y
  · subst h; simp
  · rw [beq_eq_false_iff_ne.2 h]
    exact beq_eq_false_iff_ne.2 fun e => h (UInt32.toNat_inj.1 (by omega))
theorem ltw32 (x y : UInt32) : decide ((x.toNat : Int) < (y.toNat : Int)) = decide (x < y) := by
  simp [UInt32.lt_iff_toNat_lt]
theorem lew32 (x y : UInt32) : decide ((x.toNat : Int) ≤ (y.toNat : Int)) = decide (x ≤ y) := by
  simp [UInt32.le_iff_toNat_le]
theorem ofInt32 (n : Int) : IntKind.u32.wrap n = ((UInt32.ofNat (n % 4294967296).toNat).toNat : Int) := by
  rw [IntKind.wrap_u32]
  have := Int.emod_nonneg n (show (4294967296 : Int) ≠ 0 by decide)
  have := Int.emod_lt_of_pos n (show (0 : Int) < 4294967296 by decide)
  simp; omega


def shl64 (x : UInt64) (n : Nat) : UInt64 := if n < 64 then x <<< UInt64.ofNat n else 0
def shr64 (x : UInt64) (n : Nat) : UInt64 := if n < 64 then x >>> UInt64.ofNat n else 0
theorem ofI64 (x : UInt64) : BitVec.ofInt 64 (x.toNat : Int) = x.toBitVec := by
  apply BitVec.eq_of_toNat_eq; simp
theorem wr64 (n : Nat) : IntKind.u64.wrap (n : Int) = ((UInt64.ofNat n).toNat : Int) := by
  rw [IntKind.wrap_u64]; simp
theorem wb64 (b : BitVec 64) : IntKind.u64.wrap (b.toNat : Int) = ((UInt64.ofBitVec b).toNat : Int) := by
  rw [wr64]; simp
theorem add64 (x y : UInt64) : IntKind.u64.wrap ((x.toNat : Int) + (y.toNat : Int)) = ((x + y).toNat : Int) := by
  rw [IntKind.wrap_u64, UInt64.toNat_add]; omega
theorem sub64 (x y : UInt64) : IntKind.u64.wrap ((x.toNat : Int) - (y.toNat : Int)) = ((x - y).toNat : Int) := by
  have := x.toNat_lt; have := y.toNat_lt
  rw [IntKind.wrap_u64, UInt64.toNat_sub]; omega
theorem mul64 (x y : UInt64) : IntKind.u64.wrap ((x.toNat : Int) * (y.toNat : Int)) = ((x * y).toNat : Int) := by
  rw [IntKind.wrap_u64, UInt64.toNat_mul, ← Int.natCast_mul, Int.natCast_emod]; rfl
theorem shlw64 (x : UInt64) (n : Nat) : IntKind.u64.wrap ((x.toNat : Int) * 2 ^ (min n 64)) = ((shl64 x n).toNat : Int) := by
  rw [IntKind.wrap_u64]
  unfold shl64
  by_cases h : n < 64
  · have h1 : (UInt64.ofNat n).toNat = n := by simp; omega
    rw [if_pos h, UInt64.toNat_shiftLeft, h1, Nat.mod_eq_of_lt h, Nat.shiftLeft_eq, Nat.min_eq_left (Nat.le_of_lt h), Int.natCast_emod, Int.natCast_mul]; simp
  · rw [if_neg h, Nat.min_eq_right (by omega)]; simp
theorem shrw64 (x : UInt64) (n : Nat) : ((x.toNat : Int)).fdiv (2 ^ (min n 64)) = ((shr64 x n).toNat : Int) := by
  have hx := x.toNat_lt
  have e : ∀ m : Nat, ((x.toNat : Int)).fdiv (2 ^ m) = ((x.toNat / 2 ^ m : Nat) : Int) := fun m => by
    rw [Int.fdiv_eq_ediv_of_nonneg _ (by exact Int.le_of_lt (Int.pow_pos (by decide)))]; simp
  rw [e]
  unfold shr64
  by_cases h : n < 64
  · have h1 : (UInt64.ofNat n).toNat = n := by simp; omega
    rw [if_pos h, UInt64.toNat_shiftRight, h1, Nat.mod_eq_of_lt h, Nat.shiftRight_eq_div_pow, Nat.min_eq_left (Nat.le_of_lt h)]
  · rw [if_neg h, Nat.min_eq_right (by omega)]
    rw [Nat.div_eq_of_lt (by simpa using hx)]; rfl
theorem and64 (x y : UInt64) : IntKind.u64.wrap (((BitVec.ofInt IntKind.u64.bits (x.toNat : Int) &&& BitVec.ofInt IntKind.u64.bits (y.toNat : Int)).toNat : Nat) : Int) = ((x &&& y).toNat : Int) := by
  show IntKind.u64.wrap (((BitVec.ofInt 64 (x.toNat : Int) &&& BitVec.ofInt 64 (y.toNat : Int)).toNat : Nat) : Int) = _
  rw [ofI64, ofI64, wb64]; rfl
theorem or64 (x y : UInt64) : IntKind.u64.wrap (((BitVec.ofInt IntKind.u64.bits (x.toNat : Int) ||| BitVec.ofInt IntKind.u64.bits (y.toNat : Int)).toNat : Nat) : Int) = ((x ||| y).toNat : Int) := by
  show IntKind.u64.wrap (((BitVec.ofInt 64 (x.toNat : Int) ||| BitVec.ofInt 64 (y.toNat : Int)).toNat : Nat) : Int) = _
  rw [ofI64, ofI64, wb64]; rfl
theorem xor64 (x y : UInt64) : IntKind.u64.wrap (((BitVec.ofInt IntKind.u64.bits (x.toNat : Int) ^^^ BitVec.ofInt IntKind.u64.bits (y.toNat : Int)).toNat : Nat) : Int) = ((x ^^^ y).toNat : Int) := by
  show IntKind.u64.wrap (((BitVec.ofInt 64 (x.toNat : Int) ^^^ BitVec.ofInt 64 (y.toNat : Int)).toNat : Nat) : Int) = _
  rw [ofI64, ofI64, wb64]; rfl
theorem quo64 (x y : UInt64) : IntKind.u64.wrap ((x.toNat : Int).tdiv (y.toNat : Int)) = ((x / y).toNat : Int) := by
  have := x.toNat_lt
  have h := Nat.div_le_self x.toNat y.toNat
  have h2 : x.toNat / y.toNat < 18446744073709551616 := by omega
  rw [← Int.ofNat_tdiv, IntKind.wrap_u64, UInt64.toNat_div]; generalize x.toNat / y.toNat = z at h2; omega
theorem rem64 (x y : UInt64) : (x.toNat : Int).tmod (y.toNat : Int) = ((x % y).toNat : Int) := by
  rw [← Int.ofNat_tmod, UInt64.toNat_mod]
theorem nz64 (y : UInt64) (h : y ≠ 0) : ¬ ((y.toNat : Int) = 0) := fun e => h (UInt64.toNat_inj.1 (by simp; omega))
theorem eqw64 (x y : UInt64) : ((x.toNat : Int) == (y.toNat : Int)) = (x == y) := by
  by_cases h : x = y
  · subst h; simp
  · rw [beq_eq_false_iff_ne.2 h]
    exact beq_eq_false_iff_ne.2 fun e => h (UInt64.toNat_inj.1 (by omega))
theorem ltw64 (x y : UInt64) : decide ((x.toNat : Int) < (y.toNat : Int)) = decide (x < y) := by
  simp [UInt64.lt_iff_toNat_lt]
theorem lew64 (x y : UInt64) : decide ((x.toNat : Int) ≤ (y.toNat : Int)) = decide (x ≤ y) := by
  simp [UInt64.le_iff_toNat_le]
theorem ofInt64 (n : Int) : IntKind.u64.wrap n = ((UInt64.ofNat (n % 18446744073709551616).toNat).toNat : Int) := by
  rw [IntKind.wrap_u64]
  have := Int.emod_nonneg n (show (18446744073709551616 : Int) ≠ 0 by decide)
  have := Int.emod_lt_of_pos n (show (0 : Int) < 18446744073709551616 by decide)
  simp; omega


/-- The number of an index or of a count. -/
def AV.toI : AV → Option Int
  | .num x => some x
  | .int _ x => some x
  | .u8 x => some (x.toNat : Int)
  | .u32 x => some (x.toNat : Int)
  | .u64 x => some (x.toNat : Int)
  | _ => none
theorem AV.toI_rel {r : Lc} {x : AV} {i : Int} {u : Value} (h : x.toI = some i) (hr : x.rel r u) : ∃ k, u = .int k i := by
  cases x <;> simp only [AV.toI, Option.some.injEq, reduceCtorEq] at h <;> subst h <;> exact ⟨_, hr⟩
def orI (a b : Int) : Int := IntKind.i64.wrap ((BitVec.ofInt 64 a ||| BitVec.ofInt 64 b).toNat : Int)
def andI (a b : Int) : Int := IntKind.i64.wrap ((BitVec.ofInt 64 a &&& BitVec.ofInt 64 b).toNat : Int)
theorem orI_cat (a c : Nat) (ha : a < 256) (hc : c < 256) : orI (a : Int) ((256 * c : Nat) : Int) = ((a + 256 * c : Nat) : Int) := by
  have h : a ||| 256 * c = a + 256 * c := by
    have := Nat.two_pow_add_eq_or_of_lt (i := 8) (b := a) (by omega) c
    rw [Nat.or_comm, Nat.add_comm]
    exact this.symm
  unfold orI
  rw [BitVec.ofInt_natCast, BitVec.ofInt_natCast, BitVec.toNat_or, BitVec.toNat_ofNat, BitVec.toNat_ofNat, Nat.mod_eq_of_lt (by omega), Nat.mod_eq_of_lt (by omega), h, IntKind.wrap_i64]
  omega
/-- An operator on two cells. -/
def binAV (op : BinOp) (x y : AV) : Option (AV × List Prop) :=
  match x with
  | .num a => match y with
    | .num b => match op with
      | .add => some (.num (IntKind.i64.wrap (a + b)), [])
      | .sub => some (.num (IntKind.i64.wrap (a - b)), [])
      | .mul => some (.num (IntKind.i64.wrap (a * b)), [])
      | .quo => some (.num (IntKind.i64.wrap (a.tdiv b)), [b ≠ 0])
      | .rem => some (.num (a.tmod b), [b ≠ 0])
      | .eql => some (.bo (a == b), [])
      | .neq => some (.bo (a != b), [])
      | .lss => some (.bo (decide (a < b)), [])
      | .leq => some (.bo (decide (a ≤ b)), [])
      | .gtr => some (.bo (decide (b < a)), [])
      | .geq => some (.bo (decide (b ≤ a)), [])
      | .or => some (.num (orI a b), [])
      | .and => some (.num (andI a b), [])
      | .shl => some (.num (IntKind.i64.wrap (a * 2 ^ (min b.toNat 64))), [0 ≤ b])
      | .shr => some (.num (a.fdiv (2 ^ (min b.toNat 64))), [0 ≤ b])
      | _ => none
    | .u64 b => match op with
      | .shl => some (.num (IntKind.i64.wrap (a * 2 ^ (min b.toNat 64))), [])
      | .shr => some (.num (a.fdiv (2 ^ (min b.toNat 64))), [])
      | _ => none
    | _ => none
  | .u8 a => match y with
    | .u8 b => match op with
      | .add => some (.u8 (a + b), [])
      | .sub => some (.u8 (a - b), [])
      | .mul => some (.u8 (a * b), [])
      | .quo => some (.u8 (a / b), [b ≠ 0])
      | .rem => some (.u8 (a % b), [b ≠ 0])
      | .and => some (.u8 (a &&& b), [])
      | .or => some (.u8 (a ||| b), [])
      | .xor => some (.u8 (a ^^^ b), [])
      | .eql => some (.bo (a == b), [])
      | .neq => some (.bo (a != b), [])
      | .lss => some (.bo (decide (a < b)), [])
      | .leq => some (.bo (decide (a ≤ b)), [])
      | .gtr => some (.bo (decide (b < a)), [])
      | .geq => some (.bo (decide (b ≤ a)), [])
      | .shl => some (.u8 (shl8 a b.toNat), [])
      | .shr => some (.u8 (shr8 a b.toNat), [])
      | _ => none
    | .num b => match op with
      | .shl => some (.u8 (shl8 a b.toNat), [0 ≤ b])
      | .shr => some (.u8 (shr8 a b.toNat), [0 ≤ b])
      | _ => none
    | .u64 b => match op with
      | .shl => some (.u8 (shl8 a b.toNat), [])
      | .shr => some (.u8 (shr8 a b.toNat), [])
      | _ => none
    | _ => none
  | .u32 a => match y with
    | .u32 b => match op with
      | .add => some (.u32 (a + b), [])
      | .sub => some (.u32 (a - b), [])
      | .mul => some (.u32 (a * b), [])
      | .quo => some (.u32 (a / b), [b ≠ 0])
      | .rem => some (.u32 (a % b), [b ≠ 0])
      | .and => some (.u32 (a &&& b), [])
      | .or => some (.u32 (a ||| b), [])
      | .xor => some (.u32 (a ^^^ b), [])
      | .eql => some (.bo (a == b), [])
      | .neq => some (.bo (a != b), [])
      | .lss => some (.bo (decide (a < b)), [])
      | .leq => some (.bo (decide (a ≤ b)), [])
      | .gtr => some (.bo (decide (b < a)), [])
      | .geq => some (.bo (decide (b ≤ a)), [])
      | .shl => some (.u32 (shl32 a b.toNat), [])
      | .shr => some (.u32 (shr32 a b.toNat), [])
      | _ => none
    | .num b => match op with
      | .shl => some (.u32 (shl32 a b.toNat), [0 ≤ b])
      | .shr => some (.u32 (shr32 a b.toNat), [0 ≤ b])
      | _ => none
    | .u64 b => match op with
      | .shl => some (.u32 (shl32 a b.toNat), [])
      | .shr => some (.u32 (shr32 a b.toNat), [])
      | _ => none
    | _ => none
  | .u64 a => match y with
    | .u64 b => match op with
      | .add => some (.u64 (a + b), [])
      | .sub => some (.u64 (a - b), [])
      | .mul => some (.u64 (a * b), [])
      | .quo => some (.u64 (a / b), [b ≠ 0])
      | .rem => some (.u64 (a % b), [b ≠ 0])
      | .and => some (.u64 (a &&& b), [])
      | .or => some (.u64 (a ||| b), [])
      | .xor => some (.u64 (a ^^^ b), [])
      | .eql => some (.bo (a == b), [])
      | .neq => some (.bo (a != b), [])
      | .lss => some (.bo (decide (a < b)), [])
      | .leq => some (.bo (decide (a ≤ b)), [])
      | .gtr => some (.bo (decide (b < a)), [])
      | .geq => some (.bo (decide (b ≤ a)), [])
      | .shl => some (.u64 (shl64 a b.toNat), [])
      | .shr => some (.u64 (shr64 a b.toNat), [])
      | _ => none
    | .num b => match op with
      | .shl => some (.u64 (shl64 a b.toNat), [0 ≤ b])
      | .shr => some (.u64 (shr64 a b.toNat), [0 ≤ b])
      | _ => none
    | _ => none
  | .int .u16 a => match y with
    | .int .u16 b => match op with
      | .rem => some (.int .u16 (a.tmod b), [b ≠ 0])
      | _ => none
    | _ => none
  | .str a => match y with
    | .str b => match op with
      | .add => some (.str (a ++ b), [a.length + b.length ≤ 9223372036854775807])
      | .eql => some (.bo (a == b), [])
      | .neq => some (.bo (a != b), [])
      | _ => none
    | _ => none
  | _ => none


theorem beq_bytes (x y : List UInt8) : ((⟨x.toArray⟩ : ByteArray).toList == (⟨y.toArray⟩ : ByteArray).toList) = (x == y) := by
  rw [ByteArray.toList_eq, ByteArray.toList_eq]
section
variable (P : Program) (w : World) (t : TypeId) (p q : Operand) (k k' : IntKind) (a b : Int)
theorem run_add : ((do eqGuard .add t p q (.int k a) (.int k b); binOp .add t (.int k a) (.int k b) : Sem Value)).run P w = .ok (.int k (k.wrap (a + b))) w := by simp [eqGuard, binOp, Op.intArith]
theorem run_sub : ((do eqGuard .sub t p q (.int k a) (.int k b); binOp .sub t (.int k a) (.int k b) : Sem Value)).run P w = .ok (.int k (k.wrap (a - b))) w := by simp [eqGuard, binOp, Op.intArith]
theorem run_mul : ((do eqGuard .mul t p q (.int k a) (.int k b); binOp .mul t (.int k a) (.int k b) : Sem Value)).run P w = .ok (.int k (k.wrap (a * b))) w := by simp [eqGuard, binOp, Op.intArith]
theorem run_quo (h : ¬ b = 0) : ((do eqGuard .quo t p q (.int k a) (.int k b); binOp .quo t (.int k a) (.int k b) : Sem Value)).run P w = .ok (.int k (k.wrap (a.tdiv b))) w := by simp [eqGuard, binOp, Op.intDiv, h]
theorem run_rem (h : ¬ b = 0) : ((do eqGuard .rem t p q (.int k a) (.int k b); binOp .rem t (.int k a) (.int k b) : Sem Value)).run P w = .ok (.int k (a.tmod b)) w := by simp [eqGuard, binOp, Op.intDiv, h]
theorem run_and : ((do eqGuard .and t p q (.int k a) (.int k b); binOp .and t (.int k a) (.int k b) : Sem Value)).run P w = .ok (.int k (k.wrap ((BitVec.ofInt k.bits a &&& BitVec.ofInt k.bits b).toNat : Int))) w := by simp [eqGuard, binOp, Op.intBits]
theorem run_or : ((do eqGuard .or t p q (.int k a) (.int k b); binOp .or t (.int k a) (.int k b) : Sem Value)).run P w = .ok (.int k (k.wrap ((BitVec.ofInt k.bits a ||| BitVec.ofInt k.bits b).toNat : Int))) w := by simp [eqGuard, binOp, Op.intBits]
theorem run_xor : ((do eqGuard .xor t p q (.int k a) (.int k b); binOp .xor t (.int k a) (.int k b) : Sem Value)).run P w = .ok (.int k (k.wrap ((BitVec.ofInt k.bits a ^^^ BitVec.ofInt k.bits b).toNat : Int))) w := by simp [eqGuard, binOp, Op.intBits]
theorem run_shl (h : 0 ≤ b) : ((do eqGuard .shl t p q (.int k a) (.int k' b); binOp .shl t (.int k a) (.int k' b) : Sem Value)).run P w = .ok (.int k (k.wrap (a * 2 ^ (min b.toNat k.bits)))) w := by
  simp [eqGuard, binOp, Op.shift, Int.not_lt.2 h]
theorem run_shr (h : 0 ≤ b) : ((do eqGuard .shr t p q (.int k a) (.int k' b); binOp .shr t (.int k a) (.int k' b) : Sem Value)).run P w = .ok (.int k (a.fdiv (2 ^ (min b.toNat k.bits)))) w := by
  simp [eqGuard, binOp, Op.shift, Int.not_lt.2 h]
theorem run_eql : ((do eqGuard .eql t p q (.int k a) (.int k b); binOp .eql t (.int k a) (.int k b) : Sem Value)).run P w = .ok (.bool (a == b)) w := by simp [eqGuard, binOp, Op.intCmp]
theorem run_neq : ((do eqGuard .neq t p q (.int k a) (.int k b); binOp .neq t (.int k a) (.int k b) : Sem Value)).run P w = .ok (.bool (a != b)) w := by simp [eqGuard, binOp, Op.intCmp]
theorem run_lss : ((do eqGuard .lss t p q (.int k a) (.int k b); binOp .lss t (.int k a) (.int k b) : Sem Value)).run P w = .ok (.bool (decide (a < b))) w := by simp [eqGuard, binOp, Op.intCmp]
theorem run_leq : ((do eqGuard .leq t p q (.int k a) (.int k b); binOp .leq t (.int k a) (.int k b) : Sem Value)).run P w = .ok (.bool (decide (a ≤ b))) w := by simp [eqGuard, binOp, Op.intCmp]
theorem run_gtr : ((do eqGuard .gtr t p q (.int k a) (.int k b); binOp .gtr t (.int k a) (.int k b) : Sem Value)).run P w = .ok (.bool (decide (b < a))) w := by simp [eqGuard, binOp, Op.intCmp]
theorem run_geq : ((do eqGuard .geq t p q (.int k a) (.int k b); binOp .geq t (.int k a) (.int k b) : Sem Value)).run P w = .ok (.bool (decide (b ≤ a))) w := by simp [eqGuard, binOp, Op.intCmp]
theorem run_cat (x y : ByteArray) (h : x.size + y.size ≤ 9223372036854775807) : ((do eqGuard .add t p q (.string x) (.string y); binOp .add t (.string x) (.string y) : Sem Value)).run P w = .ok (.string (x ++ y)) w := by
  have : ¬ (((x.size + y.size : Nat) : Int) > IntKind.i64.max) := by
    rw [show IntKind.i64.max = 9223372036854775807 from rfl]; omega
  simp only [eqGuard, binOp, Op.stringOp, this, if_false]; simp
theorem run_seq (x y : ByteArray) : ((do eqGuard .eql t p q (.string x) (.string y); binOp .eql t (.string x) (.string y) : Sem Value)).run P w = .ok (.bool (x.toList == y.toList)) w := by simp [eqGuard, binOp, Op.stringOp]
theorem run_sne (x y : ByteArray) : ((do eqGuard .neq t p q (.string x) (.string y); binOp .neq t (.string x) (.string y) : Sem Value)).run P w = .ok (.bool !(x.toList == y.toList)) w := by simp [eqGuard, binOp, Op.stringOp]
end
theorem cat_mk (x y : List UInt8) : (⟨x.toArray⟩ ++ ⟨y.toArray⟩ : ByteArray) = ⟨(x ++ y).toArray⟩ := by
  apply ByteArray.ext; simp
theorem binNum_run {op : BinOp} {x : Int} {y v : AV} {ob : List Prop} (h : binAV op (.num x) y = some (v, ob)) (hob : AllT ob) {r : Lc} {a b : Value} (ha : AV.rel r (.num x) a) (hb : y.rel r b)
    (P : Program) (w : World) (t : TypeId) (p q : Operand) : ∃ u, ((do eqGuard op t p q a b; binOp op t a b : Sem Value)).run P w = .ok u w ∧ v.rel r u := by
  simp only [binAV] at h
  cases y <;> simp only [reduceCtorEq] at h
  case num =>
    cases op <;> simp only [reduceCtorEq, Option.some.injEq, Prod.mk.injEq] at h <;> obtain ⟨rfl, rfl⟩ := h <;> simp only [AV.rel] at ha hb <;> subst ha <;> subst hb <;> simp only [AllT, and_true] at hob
    case add => exact ⟨_, run_add _ _ _ _ _ _ _ _, rfl⟩
    case sub => exact ⟨_, run_sub _ _ _ _ _ _ _ _, rfl⟩
    case mul => exact ⟨_, run_mul _ _ _ _ _ _ _ _, rfl⟩
    case quo => exact ⟨_, run_quo _ _ _ _ _ _ _ _ hob, rfl⟩
    case rem => exact ⟨_, run_rem _ _ _ _ _ _ _ _ hob, rfl⟩
    case or => exact ⟨_, run_or _ _ _ _ _ _ _ _, rfl⟩
    case and => exact ⟨_, run_and _ _ _ _ _ _ _ _, rfl⟩
    case shl => exact ⟨_, run_shl _ _ _ _ _ _ _ _ _ hob, rfl⟩
    case shr => exact ⟨_, run_shr _ _ _ _ _ _ _ _ _ hob, rfl⟩
    case eql => exact ⟨_, run_eql _ _ _ _ _ _ _ _, rfl⟩
    case neq => exact ⟨_, run_neq _ _ _ _ _ _ _ _, rfl⟩
    case lss => exact ⟨_, run_lss _ _ _ _ _ _ _ _, rfl⟩
    case leq => exact ⟨_, run_leq _ _ _ _ _ _ _ _, rfl⟩
    case gtr => exact ⟨_, run_gtr _ _ _ _ _ _ _ _, rfl⟩
    case geq => exact ⟨_, run_geq _ _ _ _ _ _ _ _, rfl⟩
  case u64 =>
    cases op <;> simp only [reduceCtorEq, Option.some.injEq, Prod.mk.injEq] at h <;> obtain ⟨rfl, rfl⟩ := h <;> simp only [AV.rel] at ha hb <;> subst ha <;> subst hb <;> simp only [AllT, and_true] at hob
    case shl => exact ⟨_, run_shl _ _ _ _ _ _ _ _ _ (Int.natCast_nonneg _), rfl⟩
    case shr => exact ⟨_, run_shr _ _ _ _ _ _ _ _ _ (Int.natCast_nonneg _), rfl⟩
theorem binU8_run {op : BinOp} {x : UInt8} {y v : AV} {ob : List Prop} (h : binAV op (.u8 x) y = some (v, ob)) (hob : AllT ob) {r : Lc} {a b : Value} (ha : AV.rel r (.u8 x) a) (hb : y.rel r b)
    (P : Program) (w : World) (t : TypeId) (p q : Operand) : ∃ u, ((do eqGuard op t p q a b; binOp op t a b : Sem Value)).run P w = .ok u w ∧ v.rel r u := by
  simp only [binAV] at h
  cases y <;> simp only [reduceCtorEq] at h
  case num =>
    cases op <;> simp only [reduceCtorEq, Option.some.injEq, Prod.mk.injEq] at h <;> obtain ⟨rfl, rfl⟩ := h <;> simp only [AV.rel] at ha hb <;> subst ha <;> subst hb <;> simp only [AllT, and_true] at hob
    case shl => exact ⟨_, run_shl _ _ _ _ _ _ _ _ _ hob, congrArg (Value.int _) (shlw8 _ _)⟩
    case shr => exact ⟨_, run_shr _ _ _ _ _ _ _ _ _ hob, congrArg (Value.int _) (shrw8 _ _)⟩
  case u8 =>
    cases op <;> simp only [reduceCtorEq, Option.some.injEq, Prod.mk.injEq] at h <;> obtain ⟨rfl, rfl⟩ := h <;> simp only [AV.rel] at ha hb <;> subst ha <;> subst hb <;> simp only [AllT, and_true] at hob
    case add => exact ⟨_, run_add _ _ _ _ _ _ _ _, congrArg (Value.int _) (add8 _ _)⟩
    case sub => exact ⟨_, run_sub _ _ _ _ _ _ _ _, congrArg (Value.int _) (sub8 _ _)⟩
    case mul => exact ⟨_, run_mul _ _ _ _ _ _ _ _, congrArg (Value.int _) (mul8 _ _)⟩
    case and => exact ⟨_, run_and _ _ _ _ _ _ _ _, congrArg (Value.int _) (and8 _ _)⟩
    case or => exact ⟨_, run_or _ _ _ _ _ _ _ _, congrArg (Value.int _) (or8 _ _)⟩
    case xor => exact ⟨_, run_xor _ _ _ _ _ _ _ _, congrArg (Value.int _) (xor8 _ _)⟩
    case quo => exact ⟨_, run_quo _ _ _ _ _ _ _ _ (nz8 _ hob), congrArg (Value.int _) (quo8 _ _)⟩
    case rem => exact ⟨_, run_rem _ _ _ _ _ _ _ _ (nz8 _ hob), congrArg (Value.int _) (rem8 _ _)⟩
    case shl => exact ⟨_, run_shl _ _ _ _ _ _ _ _ _ (Int.natCast_nonneg _), congrArg (Value.int _) (shlw8 _ _)⟩
    case shr => exact ⟨_, run_shr _ _ _ _ _ _ _ _ _ (Int.natCast_nonneg _), congrArg (Value.int _) (shrw8 _ _)⟩
    case eql => exact ⟨_, run_eql _ _ _ _ _ _ _ _, congrArg Value.bool (eqw8 _ _)⟩
    case neq => exact ⟨_, run_neq _ _ _ _ _ _ _ _, congrArg (fun z => Value.bool !z) (eqw8 _ _)⟩
    case lss => exact ⟨_, run_lss _ _ _ _ _ _ _ _, congrArg Value.bool (ltw8 _ _)⟩
    case leq => exact ⟨_, run_leq _ _ _ _ _ _ _ _, congrArg Value.bool (lew8 _ _)⟩
    case gtr => exact ⟨_, run_gtr _ _ _ _ _ _ _ _, congrArg Value.bool (ltw8 _ _)⟩
    case geq => exact ⟨_, run_geq _ _ _ _ _ _ _ _, congrArg Value.bool (lew8 _ _)⟩
  case u64 =>
    cases op <;> simp only [reduceCtorEq, Option.some.injEq, Prod.mk.injEq] at h <;> obtain ⟨rfl, rfl⟩ := h <;> simp only [AV.rel] at ha hb <;> subst ha <;> subst hb <;> simp only [AllT, and_true] at hob
    case shl => exact ⟨_, run_shl _ _ _ _ _ _ _ _ _ (Int.natCast_nonneg _), congrArg (Value.int _) (shlw8 _ _)⟩
    case shr => exact ⟨_, run_shr _ _ _ _ _ _ _ _ _ (Int.natCast_nonneg _), congrArg (Value.int _) (shrw8 _ _)⟩
theorem binU32_run {op : BinOp} {x : UInt32} {y v : AV} {ob : List Prop} (h : binAV op (.u32 x) y = some (v, ob)) (hob : AllT ob) {r : Lc} {a b : Value} (ha : AV.rel r (.u32 x) a) (hb : y.rel r b)
    (P : Program) (w : World) (t : TypeId) (p q : Operand) : ∃ u, ((do eqGuard op t p q a b; binOp op t a b : Sem Value)).run P w = .ok u w ∧ v.rel r u := by
  simp only [binAV] at h
  cases y <;> simp only [reduceCtorEq] at h
  case num =>
    cases op <;> simp only [reduceCtorEq, Option.some.injEq, Prod.mk.injEq] at h <;> obtain ⟨rfl, rfl⟩ := h <;> simp only [AV.rel] at ha hb <;> subst ha <;> subst hb <;> simp only [AllT, and_true] at hob
    case shl => exact ⟨_, run_shl _ _ _ _ _ _ _ _ _ hob, congrArg (Value.int _) (shlw32 _ _)⟩
    case shr => exact ⟨_, run_shr _ _ _ _ _ _ _ _ _ hob, congrArg (Value.int _) (shrw32 _ _)⟩
  case u32 =>
    cases op <;> simp only [reduceCtorEq, Option.some.injEq, Prod.mk.injEq] at h <;> obtain ⟨rfl, rfl⟩ := h <;> simp only [AV.rel] at ha hb <;> subst ha <;> subst hb <;> simp only [AllT, and_true] at hob
    case add => exact ⟨_, run_add _ _ _ _ _ _ _ _, congrArg (Value.int _) (add32 _ _)⟩
    case sub => exact ⟨_, run_sub _ _ _ _ _ _ _ _, congrArg (Value.int _) (sub32 _ _)⟩
    case mul => exact ⟨_, run_mul _ _ _ _ _ _ _ _, congrArg (Value.int _) (mul32 _ _)⟩
    case and => exact ⟨_, run_and _ _ _ _ _ _ _ _, congrArg (Value.int _) (and32 _ _)⟩
    case or => exact ⟨_, run_or _ _ _ _ _ _ _ _, congrArg (Value.int _) (or32 _ _)⟩
    case xor => exact ⟨_, run_xor _ _ _ _ _ _ _ _, congrArg (Value.int _) (xor32 _ _)⟩
    case quo => exact ⟨_, run_quo _ _ _ _ _ _ _ _ (nz32 _ hob), congrArg (Value.int _) (quo32 _ _)⟩
    case rem => exact ⟨_, run_rem _ _ _ _ _ _ _ _ (nz32 _ hob), congrArg (Value.int _) (rem32 _ _)⟩
    case shl => exact ⟨_, run_shl _ _ _ _ _ _ _ _ _ (Int.natCast_nonneg _), congrArg (Value.int _) (shlw32 _ _)⟩
    case shr => exact ⟨_, run_shr _ _ _ _ _ _ _ _ _ (Int.natCast_nonneg _), congrArg (Value.int _) (shrw32 _ _)⟩
    case eql => exact ⟨_, run_eql _ _ _ _ _ _ _ _, congrArg Value.bool (eqw32 _ _)⟩
    case neq => exact ⟨_, run_neq _ _ _ _ _ _ _ _, congrArg (fun z => Value.bool !z) (eqw32 _ _)⟩
    case lss => exact ⟨_, run_lss _ _ _ _ _ _ _ _, congrArg Value.bool (ltw32 _ _)⟩
    case leq => exact ⟨_, run_leq _ _ _ _ _ _ _ _, congrArg Value.bool (lew32 _ _)⟩
    case gtr => exact ⟨_, run_gtr _ _ _ _ _ _ _ _, congrArg Value.bool (ltw32 _ _)⟩
    case geq => exact ⟨_, run_geq _ _ _ _ _ _ _ _, congrArg Value.bool (lew32 _ _)⟩
  case u64 =>
    cases op <;> simp only [reduceCtorEq, Option.some.injEq, Prod.mk.injEq] at h <;> obtain ⟨rfl, rfl⟩ := h <;> simp only [AV.rel] at ha hb <;> subst ha <;> subst hb <;> simp only [AllT, and_true] at hob
    case shl => exact ⟨_, run_shl _ _ _ _ _ _ _ _ _ (Int.natCast_nonneg _), congrArg (Value.int _) (shlw32 _ _)⟩
    case shr => exact ⟨_, run_shr _ _ _ _ _ _ _ _ _ (Int.natCast_nonneg _), congrArg (Value.int _) (shrw32 _ _)⟩
theorem binU64_run {op : BinOp} {x : UInt64} {y v : AV} {ob : List Prop} (h : binAV op (.u64 x) y = some (v, ob)) (hob : AllT ob) {r : Lc} {a b : Value} (ha : AV.rel r (.u64 x) a) (hb : y.rel r b)
    (P : Program) (w : World) (t : TypeId) (p q : Operand) : ∃ u, ((do eqGuard op t p q a b; binOp op t a b : Sem Value)).run P w = .ok u w ∧ v.rel r u := by
  simp only [binAV] at h
  cases y <;> simp only [reduceCtorEq] at h
  case num =>
    cases op <;> simp only [reduceCtorEq, Option.some.injEq, Prod.mk.injEq] at h <;> obtain ⟨rfl, rfl⟩ := h <;> simp only [AV.rel] at ha hb <;> subst ha <;> subst hb <;> simp only [AllT, and_true] at hob
    case shl => exact ⟨_, run_shl _ _ _ _ _ _ _ _ _ hob, congrArg (Value.int _) (shlw64 _ _)⟩
    case shr => exact ⟨_, run_shr _ _ _ _ _ _ _ _ _ hob, congrArg (Value.int _) (shrw64 _ _)⟩
  case u64 =>
    cases op <;> simp only [reduceCtorEq, Option.some.injEq, Prod.mk.injEq] at h <;> obtain ⟨rfl, rfl⟩ := h <;> simp only [AV.rel] at ha hb <;> subst ha <;> subst hb <;> simp only [AllT, and_true] at hob
    case add => exact ⟨_, run_add _ _ _ _ _ _ _ _, congrArg (Value.int _) (add64 _ _)⟩
    case sub => exact ⟨_, run_sub _ _ _ _ _ _ _ _, congrArg (Value.int _) (sub64 _ _)⟩
    case mul => exact ⟨_, run_mul _ _ _ _ _ _ _ _, congrArg (Value.int _) (mul64 _ _)⟩
    case and => exact ⟨_, run_and _ _ _ _ _ _ _ _, congrArg (Value.int _) (and64 _ _)⟩
    case or => exact ⟨_, run_or _ _ _ _ _ _ _ _, congrArg (Value.int _) (or64 _ _)⟩
    case xor => exact ⟨_, run_xor _ _ _ _ _ _ _ _, congrArg (Value.int _) (xor64 _ _)⟩
    case quo => exact ⟨_, run_quo _ _ _ _ _ _ _ _ (nz64 _ hob), congrArg (Value.int _) (quo64 _ _)⟩
    case rem => exact ⟨_, run_rem _ _ _ _ _ _ _ _ (nz64 _ hob), congrArg (Value.int _) (rem64 _ _)⟩
    case shl => exact ⟨_, run_shl _ _ _ _ _ _ _ _ _ (Int.natCast_nonneg _), congrArg (Value.int _) (shlw64 _ _)⟩
    case shr => exact ⟨_, run_shr _ _ _ _ _ _ _ _ _ (Int.natCast_nonneg _), congrArg (Value.int _) (shrw64 _ _)⟩
    case eql => exact ⟨_, run_eql _ _ _ _ _ _ _ _, congrArg Value.bool (eqw64 _ _)⟩
    case neq => exact ⟨_, run_neq _ _ _ _ _ _ _ _, congrArg (fun z => Value.bool !z) (eqw64 _ _)⟩
    case lss => exact ⟨_, run_lss _ _ _ _ _ _ _ _, congrArg Value.bool (ltw64 _ _)⟩
    case leq => exact ⟨_, run_leq _ _ _ _ _ _ _ _, congrArg Value.bool (lew64 _ _)⟩
    case gtr => exact ⟨_, run_gtr _ _ _ _ _ _ _ _, congrArg Value.bool (ltw64 _ _)⟩
    case geq => exact ⟨_, run_geq _ _ _ _ _ _ _ _, congrArg Value.bool (lew64 _ _)⟩
theorem binStr_run {op : BinOp} {x : List UInt8} {y v : AV} {ob : List Prop} (h : binAV op (.str x) y = some (v, ob)) (hob : AllT ob) {r : Lc} {a b : Value} (ha : AV.rel r (.str x) a) (hb : y.rel r b)
    (P : Program) (w : World) (t : TypeId) (p q : Operand) : ∃ u, ((do eqGuard op t p q a b; binOp op t a b : Sem Value)).run P w = .ok u w ∧ v.rel r u := by
  simp only [binAV] at h
  cases y <;> simp only [reduceCtorEq] at h
  case str =>
    cases op <;> simp only [reduceCtorEq, Option.some.injEq, Prod.mk.injEq] at h <;> obtain ⟨rfl, rfl⟩ := h <;> simp only [AV.rel] at ha hb <;> subst ha <;> subst hb <;> simp only [AllT, and_true] at hob
    case add => exact ⟨_, run_cat _ _ _ _ _ _ _ hob, congrArg Value.string (cat_mk _ _)⟩
    case eql => exact ⟨_, run_seq .., congrArg Value.bool (beq_bytes _ _)⟩
    case neq => exact ⟨_, run_sne .., congrArg (fun z => Value.bool !z) (beq_bytes _ _)⟩
/-- An operator, run. -/
theorem binAV_run {op : BinOp} {x y v : AV} {ob : List Prop} (h : binAV op x y = some (v, ob)) (hob : AllT ob) {r : Lc} {a b : Value} (ha : x.rel r a) (hb : y.rel r b)
    (P : Program) (w : World) (t : TypeId) (p q : Operand) : ∃ u, ((do eqGuard op t p q a b; binOp op t a b : Sem Value)).run P w = .ok u w ∧ v.rel r u := by
  cases x
  case num => exact binNum_run h hob ha hb P w t p q
  case u8 => exact binU8_run h hob ha hb P w t p q
  case u32 => exact binU32_run h hob ha hb P w t p q
  case u64 => exact binU64_run h hob ha hb P w t p q
  case str => exact binStr_run h hob ha hb P w t p q
  case int k x =>
    cases k <;> simp only [binAV, reduceCtorEq] at h
    cases y <;> try simp only [reduceCtorEq] at h
    rename_i k' y
    cases k' <;> try simp only [reduceCtorEq] at h
    cases op <;> simp only [reduceCtorEq, Option.some.injEq, Prod.mk.injEq] at h
    obtain ⟨rfl, rfl⟩ := h
    simp only [AV.rel] at ha hb
    subst ha; subst hb
    simp only [AllT, and_true] at hob
    exact ⟨_, run_rem _ _ _ _ _ _ _ _ hob, rfl⟩
  all_goals simp only [binAV, reduceCtorEq] at h

end Go.Proofs.YtdkogjjebbdngaaDoor
