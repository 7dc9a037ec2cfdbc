/-
  Words of 32 bits as UInt32: how the walk's terms over Int read as UInt32's own operations. It speaks of no program.
-/
import Derived.WalkKit
namespace Go.Proofs.YtdpfhlopcempmaaDoor
open Go

/-- The number of a word, as the walk has it. -/
def W (a : UInt32) : Int := (a.toNat : Int)
theorem W_lt (a : UInt32) : W a < 4294967296 := by have := a.toNat_lt; unfold W; omega
theorem W_nn (a : UInt32) : 0 ≤ W a := by unfold W; omega
theorem W_inj {a b : UInt32} (h : W a = W b) : a = b := by
  unfold W at h
  exact UInt32.toNat_inj.1 (by omega)
theorem W_beq (a b : UInt32) : (W a == W b) = (a == b) := by
  by_cases h : a = b
  · subst h; simp
  · rw [beq_eq_false_iff_ne.2 h]; exact beq_eq_false_iff_ne.2 fun e => h (W_inj e)
theorem W_of (n : Nat) (h : n < 4294967296) : W (UInt32.ofNat n) = (n : Int) := by
  unfold W; simp; omega
theorem W_ofInt (a : UInt32) : BitVec.ofInt 32 (W a) = a.toBitVec := by
  apply BitVec.eq_of_toNat_eq
  simp [W]
theorem W_wrap_nat (n : Nat) : IntKind.u32.wrap (n : Int) = W (UInt32.ofNat n) := by
  rw [IntKind.wrap_u32]; simp [W]
theorem W_and (a b : UInt32) : bits .and .u32 (W a) (W b) = W (a &&& b) := by
  show IntKind.u32.wrap ((BitVec.ofInt 32 (W a) &&& BitVec.ofInt 32 (W b)).toNat : Int) = _
  rw [W_ofInt, W_ofInt, W_wrap_nat, ← UInt32.toBitVec_and]; simp
theorem W_or (a b : UInt32) : bits .or .u32 (W a) (W b) = W (a ||| b) := by
  show IntKind.u32.wrap ((BitVec.ofInt 32 (W a) ||| BitVec.ofInt 32 (W b)).toNat : Int) = _
  rw [W_ofInt, W_ofInt, W_wrap_nat, ← UInt32.toBitVec_or]; simp
theorem W_xor (a b : UInt32) : bits .xor .u32 (W a) (W b) = W (a ^^^ b) := by
  show IntKind.u32.wrap ((BitVec.ofInt 32 (W a) ^^^ BitVec.ofInt 32 (W b)).toNat : Int) = _
  rw [W_ofInt, W_ofInt, W_wrap_nat, ← UInt32.toBitVec_xor]; simp
theorem W_add (a b : UInt32) : (W a + W b) % 4294967296 = W (a + b) := by
  unfold W; rw [UInt32.toNat_add]; omega
theorem W_sub (a b : UInt32) : (W a - W b) % 4294967296 = W (a - b) := by
  unfold W
  have := a.toNat_lt; have := b.toNat_lt; rw [UInt32.toNat_sub]; omega
theorem W_shl (x : UInt32) (s : Nat) (m : Int) (hs : s < 32) (hm : m = ((2 ^ s : Nat) : Int)) : W x * m % 4294967296 = W (x <<< UInt32.ofNat s) := by
  subst hm
  unfold W
  have h1 : (UInt32.ofNat s).toNat = s := by simp; omega
  rw [UInt32.toNat_shiftLeft, h1, Nat.mod_eq_of_lt hs, Nat.shiftLeft_eq, Int.natCast_emod, Int.natCast_mul]; rfl
theorem W_shr (x : UInt32) (s : Nat) (m : Int) (hs : s < 32) (hm : m = ((2 ^ s : Nat) : Int)) : W x / m = W (x >>> UInt32.ofNat s) := by
  subst hm
  unfold W
  have h1 : (UInt32.ofNat s).toNat = s := by simp; omega
  rw [UInt32.toNat_shiftRight, h1, Nat.mod_eq_of_lt hs, Nat.shiftRight_eq_div_pow, Int.natCast_ediv]
/-- A word turned to the left. -/
def rotl (x : UInt32) (s : Nat) : UInt32 := x <<< UInt32.ofNat s ||| x >>> UInt32.ofNat (32 - s)
theorem W_rot (x : UInt32) (s : Nat) (m m' : Int) (hs : s < 32) (hs0 : 0 < s) (hm : m = ((2 ^ s : Nat) : Int)) (hm' : m' = ((2 ^ (32 - s) : Nat) : Int)) :
    bits .or .u32 (W x * m % 4294967296) (W x / m') = W (rotl x s) := by
  rw [W_shl x s m hs hm, W_shr x (32 - s) m' (by omega) hm', W_or]; rfl
theorem W_rot' (x : UInt32) (s : Nat) (m m' : Int) (hs : s < 32) (hs0 : 0 < s) (hm : m = ((2 ^ s : Nat) : Int)) (hm' : m' = ((2 ^ (32 - s) : Nat) : Int)) :
    bits .or .u32 (W x / m') (W x * m % 4294967296) = W (rotl x s) := by
  rw [W_shl x s m hs hm, W_shr x (32 - s) m' (by omega) hm', W_or, UInt32.or_comm]; rfl
theorem rotl_bits (x : UInt32) (s : Nat) (h0 : 0 < s) (h : s < 32) (i : Nat) (hi : i < 32) :
    (rotl x s).toBitVec.getLsbD i = if i < s then x.toBitVec.getLsbD (i + (32 - s)) else x.toBitVec.getLsbD (i - s) := by
  have m1 : s % 32 = s := Nat.mod_eq_of_lt h
  have m2 : (32 - s) % 32 = 32 - s := Nat.mod_eq_of_lt (by omega)
  unfold rotl
  rw [UInt32.toBitVec_or, UInt32.toBitVec_shiftLeft, UInt32.toBitVec_shiftRight, BitVec.getLsbD_or]
  simp only [BitVec.shiftLeft_eq', BitVec.ushiftRight_eq', BitVec.toNat_umod, BitVec.getLsbD_shiftLeft, BitVec.getLsbD_ushiftRight]
  by_cases c : i < s
  · simp [c, hi, m1, m2, Nat.add_comm]
  · have : x.toBitVec.getLsbD (32 - s + i) = false := BitVec.getLsbD_of_ge _ _ (by omega)
    simp [c, hi, m1, m2, this]
theorem rotl_rotl (x : UInt32) (s : Nat) (h0 : 0 < s) (h : s < 32) : rotl (rotl x s) (32 - s) = x := by
  apply UInt32.toBitVec_inj.1
  apply BitVec.eq_of_getLsbD_eq
  intro i hi
  rw [rotl_bits _ _ (by omega) (by omega) i hi]
  split
  · rw [rotl_bits _ _ h0 h _ (by omega), if_neg (by omega)]
    congr 1; omega
  · rw [rotl_bits _ _ h0 h _ (by omega), if_pos (by omega)]
    congr 1; omega
theorem xor_back (x y : UInt32) : x ^^^ y ^^^ y = x := by
  rw [UInt32.xor_assoc, UInt32.xor_self, UInt32.xor_zero]
theorem add_back (x y : UInt32) : x + y - y = x := by simp
theorem W_byte (b : UInt8) : ((b.toNat : Nat) : Int) % 4294967296 = W b.toUInt32 := by
  unfold W
  have := b.toNat_lt
  simp; omega
theorem W_not (a : UInt32) : bits .xor .u32 IntKind.u32.max (W a) = W (~~~a) := by
  have h : IntKind.u32.max = W 4294967295 := rfl
  rw [h, W_xor]
  congr 1
theorem W_addw (a b : UInt32) : IntKind.u32.wrap (W a + W b) = W (a + b) := by rw [IntKind.wrap_u32, W_add]
theorem W_subw (a b : UInt32) : IntKind.u32.wrap (W a - W b) = W (a - b) := by rw [IntKind.wrap_u32, W_sub]
theorem W_shlw (x : UInt32) (s : Nat) (m : Int) (hs : s < 32) (hm : m = ((2 ^ s : Nat) : Int)) : IntKind.u32.wrap (W x * m) = W (x <<< UInt32.ofNat s) := by rw [IntKind.wrap_u32, W_shl x s m hs hm]
theorem W_bytew (b : UInt8) : IntKind.u32.wrap ((b.toNat : Nat) : Int) = W b.toUInt32 := by rw [IntKind.wrap_u32, W_byte]
/-- A word's value in a cell. -/
def wv (x : UInt32) : Value := .int .u32 (W x)
/-- The cells of words. -/
def cellsW (xs : List UInt32) : Array Value := (xs.map wv).toArray
theorem cellsW_size (xs : List UInt32) : (cellsW xs).size = xs.length := by simp [cellsW]
theorem cellsW_get (xs : List UInt32) (i : Nat) (h : i < xs.length) : (cellsW xs)[i]? = some (.int .u32 (W (xs[i]?.getD 0))) := by
  simp [cellsW, h, wv]
theorem cellsW_set (xs : List UInt32) (i : Nat) (v : UInt32) : (cellsW xs).setIfInBounds i (.int .u32 (W v)) = cellsW (xs.set i v) := by
  simp only [cellsW, List.setIfInBounds_toArray, List.map_set]; rfl
theorem cellsW_one (xs : List UInt32) : (cellsW xs).all (·.oneCell') = true := by
  rw [Array.all_eq_true_iff_forall_mem]
  intro v hv
  simp only [cellsW, List.mem_toArray, List.mem_map] at hv
  obtain ⟨x, _, rfl⟩ := hv
  rfl
/-- Four bytes as a word, the lowest first. -/
def leW (b0 b1 b2 b3 : UInt8) : UInt32 := b0.toUInt32 ||| b1.toUInt32 <<< 8 ||| b2.toUInt32 <<< 16 ||| b3.toUInt32 <<< 24
/-- Four bytes as a word, the highest first. -/
def beW (b0 b1 b2 b3 : UInt8) : UInt32 := b0.toUInt32 <<< 24 ||| b1.toUInt32 <<< 16 ||| b2.toUInt32 <<< 8 ||| b3.toUInt32
end Go.Proofs.YtdpfhlopcempmaaDoor
