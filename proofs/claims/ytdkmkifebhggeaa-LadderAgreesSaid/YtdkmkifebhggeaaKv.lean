/-
  Layer 3: numbers of five parts of 51 bits, and their values. It speaks of no program.
-/
import Derived.Test.YtdkmkifebhggeaaKn
namespace Go.Proofs.Ytdkmkifebhggeaa
open Go Go.RowKit
set_option maxHeartbeats 4000000
set_option linter.unusedSimpArgs false
set_option linter.unusedVariables false
def p25519 : Nat := 57896044618658097711785492504343953926634992332820282019728792003956564819949
def N5.w (x : N5) : Nat := x.a.toNat + x.b.toNat * 2251799813685248 + x.c.toNat * 5070602400912917605986812821504 + x.d.toNat * 11417981541647679048466287755595961091061972992 + x.e.toNat * 25711008708143844408671393477458601640355247900524685364822016
def fcarry (x : N5) : N5 := ⟨(x.a &&& 2251799813685247) + 19 * shr64 x.e 51, (x.b &&& 2251799813685247) + shr64 x.a 51, (x.c &&& 2251799813685247) + shr64 x.b 51, (x.d &&& 2251799813685247) + shr64 x.c 51, (x.e &&& 2251799813685247) + shr64 x.d 51⟩
theorem shr51 (x : UInt64) : (shr64 x 51).toNat = x.toNat / 2251799813685248 := by
  unfold shr64
  rw [if_pos (by decide), UInt64.toNat_shiftRight]
  show x.toNat >>> 51 = _
  rw [Nat.shiftRight_eq_div_pow]
theorem and51 (x : UInt64) : (x &&& 2251799813685247).toNat = x.toNat % 2251799813685248 := by
  rw [UInt64.toNat_and]
  show x.toNat &&& (2 ^ 51 - 1) = _
  rw [Nat.and_two_pow_sub_one_eq_mod]
theorem add51 (x y : UInt64) : ((x &&& 2251799813685247) + shr64 y 51).toNat = x.toNat % 2251799813685248 + y.toNat / 2251799813685248 := by
  have := y.toNat_lt
  rw [add64n (by rw [and51, shr51]; omega), and51, shr51]
theorem mul19 (y : UInt64) : (19 * shr64 y 51).toNat = 19 * (y.toNat / 2251799813685248) := by
  have := y.toNat_lt
  rw [UInt64.toNat_mul, shr51]
  show 19 * _ % _ = _
  omega
theorem fcarry_spec (x : N5) : (fcarry x).w + p25519 * (x.e.toNat / 2251799813685248) = x.w ∧ (fcarry x).lt 2251799813947392 := by
  have h0 : (fcarry x).a.toNat = x.a.toNat % 2251799813685248 + 19 * (x.e.toNat / 2251799813685248) := by
    have := x.e.toNat_lt
    show ((x.a &&& 2251799813685247) + 19 * shr64 x.e 51).toNat = _
    rw [add64n (by rw [and51, mul19]; omega), and51, mul19]
  have h1 : (fcarry x).b.toNat = x.b.toNat % 2251799813685248 + x.a.toNat / 2251799813685248 := add51 _ _
  have h2 : (fcarry x).c.toNat = x.c.toNat % 2251799813685248 + x.b.toNat / 2251799813685248 := add51 _ _
  have h3 : (fcarry x).d.toNat = x.d.toNat % 2251799813685248 + x.c.toNat / 2251799813685248 := add51 _ _
  have h4 : (fcarry x).e.toNat = x.e.toNat % 2251799813685248 + x.d.toNat / 2251799813685248 := add51 _ _
  have := x.a.toNat_lt; have := x.b.toNat_lt; have := x.c.toNat_lt; have := x.d.toNat_lt; have := x.e.toNat_lt
  unfold N5.lt
  simp only [N5.w, p25519, h0, h1, h2, h3, h4]
  refine ⟨by omega, by omega, by omega, by omega, by omega, by omega⟩
theorem fcarry_mod (x : N5) : (fcarry x).w % p25519 = x.w % p25519 := by
  rw [← (fcarry_spec x).1, Nat.add_mul_mod_self_left]
def fadd (x y : N5) : N5 := fcarry ⟨(fcarry x).a + (fcarry y).a, (fcarry x).b + (fcarry y).b, (fcarry x).c + (fcarry y).c, (fcarry x).d + (fcarry y).d, (fcarry x).e + (fcarry y).e⟩
theorem fadd_mod (x y : N5) : (fadd x y).w % p25519 = (x.w + y.w) % p25519 := by
  obtain ⟨_, a0, a1, a2, a3, a4⟩ := fcarry_spec x
  obtain ⟨_, b0, b1, b2, b3, b4⟩ := fcarry_spec y
  unfold fadd
  rw [fcarry_mod, Nat.add_mod, ← fcarry_mod x, ← fcarry_mod y, ← Nat.add_mod]
  congr 1
  simp only [N5.w]
  rw [add64n (by omega), add64n (by omega), add64n (by omega), add64n (by omega), add64n (by omega)]
  omega
def fsub (x y : N5) : N5 := fcarry ⟨(fcarry x).a + (9007199254740916 - (fcarry y).a), (fcarry x).b + (9007199254740988 - (fcarry y).b), (fcarry x).c + (9007199254740988 - (fcarry y).c), (fcarry x).d + (9007199254740988 - (fcarry y).d), (fcarry x).e + (9007199254740988 - (fcarry y).e)⟩
theorem subn (c x : UInt64) (h : x.toNat ≤ c.toNat) : (c - x).toNat = c.toNat - x.toNat := by
  have := c.toNat_lt
  rw [UInt64.toNat_sub]; omega
theorem fsub_mod (x y : N5) : ((fsub x y).w + y.w) % p25519 = x.w % p25519 := by
  obtain ⟨e1, a0, a1, a2, a3, a4⟩ := fcarry_spec x
  obtain ⟨e2, b0, b1, b2, b3, b4⟩ := fcarry_spec y
  unfold fsub
  rw [Nat.add_mod, fcarry_mod, ← fcarry_mod y, ← fcarry_mod x, ← Nat.add_mod]
  generalize fcarry x = u at *
  generalize fcarry y = v at *
  have c0 : (9007199254740916 - v.a).toNat = 9007199254740916 - v.a.toNat := subn _ _ (by show _ ≤ 9007199254740916; omega)
  have c1 : (9007199254740988 - v.b).toNat = 9007199254740988 - v.b.toNat := subn _ _ (by show _ ≤ 9007199254740988; omega)
  have c2 : (9007199254740988 - v.c).toNat = 9007199254740988 - v.c.toNat := subn _ _ (by show _ ≤ 9007199254740988; omega)
  have c3 : (9007199254740988 - v.d).toNat = 9007199254740988 - v.d.toNat := subn _ _ (by show _ ≤ 9007199254740988; omega)
  have c4 : (9007199254740988 - v.e).toNat = 9007199254740988 - v.e.toNat := subn _ _ (by show _ ≤ 9007199254740988; omega)
  have key : (N5.mk (u.a + (9007199254740916 - v.a)) (u.b + (9007199254740988 - v.b)) (u.c + (9007199254740988 - v.c)) (u.d + (9007199254740988 - v.d)) (u.e + (9007199254740988 - v.e))).w + v.w = u.w + p25519 * 4 := by
    simp only [N5.w, p25519]
    rw [add64n (by rw [c0]; omega), add64n (by rw [c1]; omega), add64n (by rw [c2]; omega), add64n (by rw [c3]; omega), add64n (by rw [c4]; omega), c0, c1, c2, c3, c4]
    omega
  rw [key, Nat.add_mul_mod_self_left]
/-- The least number: how much is over. -/
def fover (t : N5) : UInt64 :=
  let o0 := shr64 (t.a + 19) 51
  let o1 := shr64 (t.b + o0) 51
  let o2 := shr64 (t.c + o1) 51
  let o3 := shr64 (t.d + o2) 51
  shr64 (t.e + o3) 51
def frest (t : N5) (r : UInt64) : N5 :=
  let a := t.a + r
  let b := t.b + shr64 a 51
  let c := t.c + shr64 b 51
  let d := t.d + shr64 c 51
  let e := t.e + shr64 d 51
  ⟨a &&& 2251799813685247, b &&& 2251799813685247, c &&& 2251799813685247, d &&& 2251799813685247, e &&& 2251799813685247⟩
def fsmall (x : N5) : N5 := frest (fcarry x) (19 * fover (fcarry x))
theorem fover_spec (t : N5) (ht : t.lt 2251799813947392) : (fover t).toNat = (t.w + 19) / 57896044618658097711785492504343953926634992332820282019728792003956564819968 := by
  obtain ⟨h0, h1, h2, h3, h4⟩ := ht
  have e0 : (t.a + 19).toNat = t.a.toNat + 19 := add64n (by show _ + 19 < _; omega)
  have e1 : (t.b + shr64 (t.a + 19) 51).toNat = t.b.toNat + (t.a.toNat + 19) / 2251799813685248 := by rw [add64n, shr51, e0]; rw [shr51, e0]; omega
  have e2 : (t.c + shr64 (t.b + shr64 (t.a + 19) 51) 51).toNat = t.c.toNat + (t.b.toNat + (t.a.toNat + 19) / 2251799813685248) / 2251799813685248 := by rw [add64n, shr51, e1]; rw [shr51, e1]; omega
  have e3 : (t.d + shr64 (t.c + shr64 (t.b + shr64 (t.a + 19) 51) 51) 51).toNat = t.d.toNat + (t.c.toNat + (t.b.toNat + (t.a.toNat + 19) / 2251799813685248) / 2251799813685248) / 2251799813685248 := by rw [add64n, shr51, e2]; rw [shr51, e2]; omega
  have e4 : (t.e + shr64 (t.d + shr64 (t.c + shr64 (t.b + shr64 (t.a + 19) 51) 51) 51) 51).toNat = t.e.toNat + (t.d.toNat + (t.c.toNat + (t.b.toNat + (t.a.toNat + 19) / 2251799813685248) / 2251799813685248) / 2251799813685248) / 2251799813685248 := by rw [add64n, shr51, e3]; rw [shr51, e3]; omega
  show (shr64 (t.e + shr64 (t.d + shr64 (t.c + shr64 (t.b + shr64 (t.a + 19) 51) 51) 51) 51) 51).toNat = _
  rw [shr51, e4]
  simp only [N5.w]
  generalize t.a.toNat = a at *
  generalize t.b.toNat = b at *
  generalize t.c.toNat = c at *
  generalize t.d.toNat = d at *
  generalize t.e.toNat = e at *
  clear e0 e1 e2 e3 e4
  omega
theorem frest_spec (t : N5) (ht : t.lt 2251799813947392) (r : UInt64) (hr : r.toNat ≤ 19) : (frest t r).w = (t.w + r.toNat) % 57896044618658097711785492504343953926634992332820282019728792003956564819968 ∧ (frest t r).lt 2251799813685248 := by
  obtain ⟨h0, h1, h2, h3, h4⟩ := ht
  have e0 : (t.a + r).toNat = t.a.toNat + r.toNat := add64n (by omega)
  have e1 : (t.b + shr64 (t.a + r) 51).toNat = t.b.toNat + (t.a.toNat + r.toNat) / 2251799813685248 := by rw [add64n, shr51, e0]; rw [shr51, e0]; omega
  have e2 : (t.c + shr64 (t.b + shr64 (t.a + r) 51) 51).toNat = t.c.toNat + (t.b.toNat + (t.a.toNat + r.toNat) / 2251799813685248) / 2251799813685248 := by rw [add64n, shr51, e1]; rw [shr51, e1]; omega
  have e3 : (t.d + shr64 (t.c + shr64 (t.b + shr64 (t.a + r) 51) 51) 51).toNat = t.d.toNat + (t.c.toNat + (t.b.toNat + (t.a.toNat + r.toNat) / 2251799813685248) / 2251799813685248) / 2251799813685248 := by rw [add64n, shr51, e2]; rw [shr51, e2]; omega
  have e4 : (t.e + shr64 (t.d + shr64 (t.c + shr64 (t.b + shr64 (t.a + r) 51) 51) 51) 51).toNat = t.e.toNat + (t.d.toNat + (t.c.toNat + (t.b.toNat + (t.a.toNat + r.toNat) / 2251799813685248) / 2251799813685248) / 2251799813685248) / 2251799813685248 := by rw [add64n, shr51, e3]; rw [shr51, e3]; omega
  have f0 : (frest t r).a.toNat = (t.a.toNat + r.toNat) % 2251799813685248 := by show ((t.a + r) &&& 2251799813685247).toNat = _; rw [and51, e0]
  have f1 : (frest t r).b.toNat = (t.b.toNat + (t.a.toNat + r.toNat) / 2251799813685248) % 2251799813685248 := by show ((t.b + shr64 (t.a + r) 51) &&& 2251799813685247).toNat = _; rw [and51, e1]
  have f2 : (frest t r).c.toNat = (t.c.toNat + (t.b.toNat + (t.a.toNat + r.toNat) / 2251799813685248) / 2251799813685248) % 2251799813685248 := by show ((t.c + shr64 (t.b + shr64 (t.a + r) 51) 51) &&& 2251799813685247).toNat = _; rw [and51, e2]
  have f3 : (frest t r).d.toNat = (t.d.toNat + (t.c.toNat + (t.b.toNat + (t.a.toNat + r.toNat) / 2251799813685248) / 2251799813685248) / 2251799813685248) % 2251799813685248 := by show ((t.d + shr64 (t.c + shr64 (t.b + shr64 (t.a + r) 51) 51) 51) &&& 2251799813685247).toNat = _; rw [and51, e3]
  have f4 : (frest t r).e.toNat = (t.e.toNat + (t.d.toNat + (t.c.toNat + (t.b.toNat + (t.a.toNat + r.toNat) / 2251799813685248) / 2251799813685248) / 2251799813685248) / 2251799813685248) % 2251799813685248 := by show ((t.e + shr64 (t.d + shr64 (t.c + shr64 (t.b + shr64 (t.a + r) 51) 51) 51) 51) &&& 2251799813685247).toNat = _; rw [and51, e4]
  unfold N5.lt
  simp only [N5.w, f0, f1, f2, f3, f4]
  generalize t.a.toNat = a at *
  generalize t.b.toNat = b at *
  generalize t.c.toNat = c at *
  generalize t.d.toNat = d at *
  generalize t.e.toNat = e at *
  clear e0 e1 e2 e3 e4 f0 f1 f2 f3 f4
  refine ⟨?_, ?_, ?_, ?_, ?_, ?_⟩ <;> omega
theorem fsmall_spec (x : N5) : (fsmall x).w = x.w % p25519 ∧ (fsmall x).lt 2251799813685248 := by
  obtain ⟨h1, h2⟩ := fcarry_spec x
  have hm := fcarry_mod x
  have ho := fover_spec _ h2
  generalize hy : fcarry x = y at *
  have hlt : y.w < 57896044618658097711785492504343953926634992332820282019728792003956564819968 + 13479973333575319897333507543509815336818572211270286240551805124608 := by
    obtain ⟨a0, a1, a2, a3, a4⟩ := h2
    simp only [N5.w]
    omega
  have hov : (fover y).toNat ≤ 1 := by rw [ho]; omega
  have hr : (19 * fover y).toNat = 19 * (fover y).toNat := by
    rw [UInt64.toNat_mul]
    show 19 * _ % _ = _
    omega
  obtain ⟨h3, h4⟩ := frest_spec y h2 (19 * fover y) (by omega)
  refine ⟨?_, by unfold fsmall; rw [hy]; exact h4⟩
  unfold fsmall
  rw [hy, h3, ← hm, hr]
  simp only [p25519]
  generalize y.w = v at *
  generalize (fover y).toNat = o at *
  clear h3 h4 hr hm h1
  rcases (show o = 0 ∨ o = 1 by omega) with rfl | rfl
  · rw [Nat.mod_eq_of_lt (by omega), Nat.mod_eq_of_lt (by omega), Nat.mul_zero, Nat.add_zero]
  · rw [Nat.mod_eq_sub_mod (by omega : 57896044618658097711785492504343953926634992332820282019728792003956564819968 ≤ v + 19 * 1), Nat.mod_eq_of_lt (by omega), Nat.mod_eq_sub_mod (by omega : 57896044618658097711785492504343953926634992332820282019728792003956564819949 ≤ v), Nat.mod_eq_of_lt (by omega)]
    omega
structure W2 where
  (h l : UInt64)
def W2.v (x : W2) : Nat := x.h.toNat * 18446744073709551616 + x.l.toNat
/-- The high half of a product. -/
def mulHi (x y : UInt64) : UInt64 :=
  let x0 := x &&& 4294967295
  let x1 := shr64 x 32
  let y0 := y &&& 4294967295
  let y1 := shr64 y 32
  let w0 := x0 * y0
  let t := x1 * y0 + shr64 w0 32
  let w1 := (t &&& 4294967295) + x0 * y1
  x1 * y1 + shr64 t 32 + shr64 w1 32
theorem shr32n (x : UInt64) : (shr64 x 32).toNat = x.toNat / 4294967296 := by
  unfold shr64
  rw [if_pos (by decide), UInt64.toNat_shiftRight]
  show x.toNat >>> 32 = _
  rw [Nat.shiftRight_eq_div_pow]
theorem and32n (x : UInt64) : (x &&& 4294967295).toNat = x.toNat % 4294967296 := by
  rw [UInt64.toNat_and]
  show x.toNat &&& (2 ^ 32 - 1) = _
  rw [Nat.and_two_pow_sub_one_eq_mod]
theorem mul32n {x y : UInt64} (hx : x.toNat < 4294967296) (hy : y.toNat < 4294967296) : (x * y).toNat = x.toNat * y.toNat ∧ x.toNat * y.toNat ≤ 18446744065119617025 := by
  have h1 : x.toNat * y.toNat ≤ 4294967295 * 4294967295 := Nat.mul_le_mul (by omega) (by omega)
  exact ⟨by rw [UInt64.toNat_mul]; exact Nat.mod_eq_of_lt (by omega), by omega⟩
theorem mulHi_v (x y : UInt64) : (mulHi x y).toNat = x.toNat * y.toNat / 18446744073709551616 := by
  have hx := x.toNat_lt
  have hy := y.toNat_lt
  have a0 := and32n x
  have a1 := shr32n x
  have b0 := and32n y
  have b1 := shr32n y
  generalize hX0 : x &&& 4294967295 = x0 at *
  generalize hX1 : shr64 x 32 = x1 at *
  generalize hY0 : y &&& 4294967295 = y0 at *
  generalize hY1 : shr64 y 32 = y1 at *
  have lx0 : x0.toNat < 4294967296 := by omega
  have lx1 : x1.toNat < 4294967296 := by omega
  have ly0 : y0.toNat < 4294967296 := by omega
  have ly1 : y1.toNat < 4294967296 := by omega
  obtain ⟨m00, k00⟩ := mul32n lx0 ly0
  obtain ⟨m10, k10⟩ := mul32n lx1 ly0
  obtain ⟨m01, k01⟩ := mul32n lx0 ly1
  obtain ⟨m11, k11⟩ := mul32n lx1 ly1
  have ht : (x1 * y0 + shr64 (x0 * y0) 32).toNat = x1.toNat * y0.toNat + x0.toNat * y0.toNat / 4294967296 := by
    rw [add64n (by rw [m10, shr32n, m00]; omega), m10, shr32n, m00]
  generalize hT : x1 * y0 + shr64 (x0 * y0) 32 = t at *
  have hw : ((t &&& 4294967295) + x0 * y1).toNat = t.toNat % 4294967296 + x0.toNat * y1.toNat := by
    rw [add64n (by rw [and32n, m01]; omega), and32n, m01]
  generalize hW : (t &&& 4294967295) + x0 * y1 = w1 at *
  have hm : (mulHi x y).toNat = x1.toNat * y1.toNat + t.toNat / 4294967296 + w1.toNat / 4294967296 := by
    unfold mulHi
    simp only [hX0, hX1, hY0, hY1, hT, hW]
    have s1 : (x1 * y1 + shr64 t 32).toNat = x1.toNat * y1.toNat + t.toNat / 4294967296 := by
      rw [add64n (by rw [m11, shr32n]; have := t.toNat_lt; omega), m11, shr32n]
    rw [add64n (by rw [s1, shr32n]; have := w1.toNat_lt; omega), s1, shr32n]
  rw [hm, hw, ht]
  have ex : x.toNat = x1.toNat * 4294967296 + x0.toNat := by omega
  have ey : y.toNat = y1.toNat * 4294967296 + y0.toNat := by omega
  have key : x.toNat * y.toNat = x1.toNat * y1.toNat * 18446744073709551616 + (x1.toNat * y0.toNat + x0.toNat * y1.toNat) * 4294967296 + x0.toNat * y0.toNat := by
    rw [ex, ey]; grind
  rw [key]
  generalize x1.toNat * y1.toNat = A at *
  generalize x1.toNat * y0.toNat = B at *
  generalize x0.toNat * y1.toNat = C at *
  generalize x0.toNat * y0.toNat = D at *
  clear key ex ey hm hw ht m00 m10 m01 m11
  omega
theorem mul_lo (x y : UInt64) : (mulHi x y).toNat * 18446744073709551616 + (x * y).toNat = x.toNat * y.toNat := by
  rw [mulHi_v, UInt64.toNat_mul]
  simp only [Nat.reducePow]
  omega
/-- What is carried out of a sum. -/
def addCar (x y : UInt64) : UInt64 := UInt64.ofNat ((x.toNat + y.toNat) / 18446744073709551616)
theorem addCar_v (x y : UInt64) : (addCar x y).toNat * 18446744073709551616 + (x + y).toNat = x.toNat + y.toNat := by
  have := x.toNat_lt
  have := y.toNat_lt
  unfold addCar
  rw [UInt64.toNat_ofNat_of_lt' (by show _ < 18446744073709551616; omega), UInt64.toNat_add]
  simp only [Nat.reducePow]
  omega
def wplus (w : W2) (x y : UInt64) : W2 := ⟨w.h + mulHi x y + addCar w.l (x * y), w.l + x * y⟩
theorem wplus_alg (B H m c q L p X : Nat) (h1 : m * B + p = X) (h2 : c * B + q = L + p) : (H + m + c) * B + q = H * B + L + X := by
  rw [Nat.add_mul, Nat.add_mul]; omega
theorem wplus_v (w : W2) (x y : UInt64) (h : w.v + x.toNat * y.toNat < 340282366920938463463374607431768211456) : (wplus w x y).v = w.v + x.toNat * y.toNat := by
  have h1 := mul_lo x y
  have h2 := addCar_v w.l (x * y)
  unfold W2.v at h ⊢
  have key := wplus_alg _ w.h.toNat _ _ _ _ _ _ h1 h2
  have hq := (w.l + x * y).toNat_lt
  have e1 : (w.h + mulHi x y).toNat = w.h.toNat + (mulHi x y).toNat := add64n (by omega)
  have e2 : (w.h + mulHi x y + addCar w.l (x * y)).toNat = w.h.toNat + (mulHi x y).toNat + (addCar w.l (x * y)).toNat := by
    rw [add64n (by rw [e1]; omega), e1]
  rw [← key, ← e2]
  rfl
/-- One part of a sum, and what is left of it. -/
def nlow (w r : W2) : UInt64 := w.l + r.l
def nhigh (w r : W2) : UInt64 := w.h + r.h + addCar w.l r.l
def nrest (w r : W2) : W2 := ⟨shr64 (nhigh w r) 51, shl64 (nhigh w r) 13 ||| shr64 (nlow w r) 51⟩
theorem or_dis (h l : UInt64) : (shl64 h 13 ||| shr64 l 51).toNat = (h.toNat % 2251799813685248) * 8192 + l.toNat / 2251799813685248 := by
  have hl := l.toNat_lt
  have e1 : (shl64 h 13).toNat = (h.toNat % 2251799813685248) * 8192 := by
    unfold shl64
    rw [if_pos (by decide), UInt64.toNat_shiftLeft]
    show h.toNat <<< 13 % 18446744073709551616 = _
    rw [Nat.shiftLeft_eq]
    omega
  have e2 : (shr64 l 51).toNat = l.toNat / 2251799813685248 := shr51 l
  rw [UInt64.toNat_or, e1, e2]
  have h3 : l.toNat / 2251799813685248 < 2 ^ 13 := by omega
  have e4 : h.toNat % 2251799813685248 * 8192 = (h.toNat % 2251799813685248) <<< 13 := by rw [Nat.shiftLeft_eq]
  rw [e4, ← Nat.shiftLeft_add_eq_or_of_lt h3]
theorem nstep (w r : W2) (h : w.v + r.v < 340282366920938463463374607431768211456) : (nlow w r &&& 2251799813685247).toNat + (nrest w r).v * 2251799813685248 = w.v + r.v := by
  have h2 := addCar_v w.l r.l
  unfold W2.v at h ⊢
  have e1 : (w.h + r.h).toNat = w.h.toNat + r.h.toNat := add64n (by omega)
  have e2 : (nhigh w r).toNat = w.h.toNat + r.h.toNat + (addCar w.l r.l).toNat := by
    unfold nhigh; rw [add64n (by rw [e1]; omega), e1]
  have e3 : (nlow w r).toNat = (w.l + r.l).toNat := rfl
  have hl := (w.l + r.l).toNat_lt
  have hh := (nhigh w r).toNat_lt
  rw [and51]
  show (nlow w r).toNat % 2251799813685248 + ((shr64 (nhigh w r) 51).toNat * 18446744073709551616 + (shl64 (nhigh w r) 13 ||| shr64 (nlow w r) 51).toNat) * 2251799813685248 = _
  rw [shr51, or_dis]
  generalize (nhigh w r).toNat = H at *
  generalize (nlow w r).toNat = L at *
  omega

/-- Five sums, carried on. -/
structure W5 where
  (a b c d e : W2)
def W5.v (s : W5) : Nat := s.a.v + s.b.v * 2251799813685248 + s.c.v * 5070602400912917605986812821504 + s.d.v * 11417981541647679048466287755595961091061972992 + s.e.v * 25711008708143844408671393477458601640355247900524685364822016
def W5.lt (s : W5) (n : Nat) : Prop := s.a.v < n ∧ s.b.v < n ∧ s.c.v < n ∧ s.d.v < n ∧ s.e.v < n
def w0 : W2 := ⟨0, 0⟩
def nfin (l0 l1 l2 l3 l4 r : UInt64) : N5 :=
  let h := mulHi r 19 + addCar (r * 19) l0
  let l := r * 19 + l0
  fcarry ⟨l &&& 2251799813685247, l1 + (shl64 h 13 ||| shr64 l 51), l2, l3, l4⟩
def narrowN (s : W5) : N5 :=
  let r0 := nrest s.a w0
  let r1 := nrest s.b r0
  let r2 := nrest s.c r1
  let r3 := nrest s.d r2
  let r4 := nrest s.e r3
  nfin (nlow s.a w0 &&& 2251799813685247) (nlow s.b r0 &&& 2251799813685247) (nlow s.c r1 &&& 2251799813685247) (nlow s.d r2 &&& 2251799813685247) (nlow s.e r3 &&& 2251799813685247) r4.l
theorem and51_lt (x : UInt64) : (x &&& 2251799813685247).toNat < 2251799813685248 := by rw [and51]; omega
theorem nfin_v (l0 l1 l2 l3 l4 r : UInt64) (h0 : l0.toNat < 2251799813685248) (h1 : l1.toNat < 2251799813685248) (hr : r.toNat < 4611686018427387904) :
    (nfin l0 l1 l2 l3 l4 r).w % p25519 = (l0.toNat + l1.toNat * 2251799813685248 + l2.toNat * 5070602400912917605986812821504 + l3.toNat * 11417981541647679048466287755595961091061972992 + l4.toNat * 25711008708143844408671393477458601640355247900524685364822016 + r.toNat * 57896044618658097711785492504343953926634992332820282019728792003956564819968) % p25519 := by
  have m1 := mul_lo r 19
  have m2 := addCar_v (r * 19) l0
  have h19 : (19 : UInt64).toNat = 19 := rfl
  rw [h19] at m1
  have hm4 : (mulHi r 19).toNat ≤ 4 := by omega
  have hc1 : (addCar (r * 19) l0).toNat ≤ 1 := by have := (r * 19).toNat_lt; omega
  have e1 : (mulHi r 19 + addCar (r * 19) l0).toNat = (mulHi r 19).toNat + (addCar (r * 19) l0).toNat := add64n (by omega)
  have e2 := or_dis (mulHi r 19 + addCar (r * 19) l0) (r * 19 + l0)
  rw [Nat.mod_eq_of_lt (by omega : (mulHi r 19 + addCar (r * 19) l0).toNat < 2251799813685248)] at e2
  have e3 := and51 (r * 19 + l0)
  unfold nfin
  simp only [fcarry_mod]
  have hL := (r * 19 + l0).toNat_lt
  have hP := (r * 19).toNat_lt
  have e4 : (l1 + (shl64 (mulHi r 19 + addCar (r * 19) l0) 13 ||| shr64 (r * 19 + l0) 51)).toNat = l1.toNat + (shl64 (mulHi r 19 + addCar (r * 19) l0) 13 ||| shr64 (r * 19 + l0) 51).toNat := add64n (by rw [e2, e1]; omega)
  have key : (N5.mk ((r * 19 + l0) &&& 2251799813685247) (l1 + (shl64 (mulHi r 19 + addCar (r * 19) l0) 13 ||| shr64 (r * 19 + l0) 51)) l2 l3 l4).w + p25519 * r.toNat = l0.toNat + l1.toNat * 2251799813685248 + l2.toNat * 5070602400912917605986812821504 + l3.toNat * 11417981541647679048466287755595961091061972992 + l4.toNat * 25711008708143844408671393477458601640355247900524685364822016 + r.toNat * 57896044618658097711785492504343953926634992332820282019728792003956564819968 := by
    simp only [N5.w, e3, e4, e2, e1, p25519]
    clear e1 e2 e3 e4
    generalize (mulHi r 19).toNat = m at *
    generalize (addCar (r * 19) l0).toNat = c at *
    generalize (r * 19 + l0).toNat = q at *
    generalize (r * 19).toNat = p at *
    omega
  rw [← key, Nat.add_mul_mod_self_left]
theorem n1 (B l0 l1 l2 l3 l4 R0 R1 R2 R3 R4 a b c d e : Nat) (s0 : l0 + R0 * B = a) (s1 : l1 + R1 * B = b + R0) (s2 : l2 + R2 * B = c + R1) (s3 : l3 + R3 * B = d + R2) (s4 : l4 + R4 * B = e + R3) :
  l0 + l1 * B + l2 * (B * B) + l3 * (B * B * B) + l4 * (B * B * B * B) + R4 * (B * B * B * B * B) = a + b * B + c * (B * B) + d * (B * B * B) + e * (B * B * B * B) := by
  have t1 : l1 * B + R1 * (B * B) = b * B + R0 * B := by have := congrArg (· * B) s1; grind
  have t2 : l2 * (B * B) + R2 * (B * B * B) = c * (B * B) + R1 * (B * B) := by have := congrArg (· * (B * B)) s2; grind
  have t3 : l3 * (B * B * B) + R3 * (B * B * B * B) = d * (B * B * B) + R2 * (B * B * B) := by have := congrArg (· * (B * B * B)) s3; grind
  have t4 : l4 * (B * B * B * B) + R4 * (B * B * B * B * B) = e * (B * B * B * B) + R3 * (B * B * B * B) := by have := congrArg (· * (B * B * B * B)) s4; grind
  omega
theorem narrowN_v (s : W5) (hs : s.lt 5192296858534827628530496329220096) : (narrowN s).w % p25519 = s.v % p25519 := by
  obtain ⟨ha, hb, hc, hd, he⟩ := hs
  have z : w0.v = 0 := rfl
  have s0 := nstep s.a w0 (by omega)
  have s1 := nstep s.b (nrest s.a w0) (by omega)
  have s2 := nstep s.c (nrest s.b (nrest s.a w0)) (by omega)
  have s3 := nstep s.d (nrest s.c (nrest s.b (nrest s.a w0))) (by omega)
  have s4 := nstep s.e (nrest s.d (nrest s.c (nrest s.b (nrest s.a w0)))) (by omega)
  have b0 := and51_lt (nlow s.a w0)
  have b1 := and51_lt (nlow s.b (nrest s.a w0))
  have hv : (nrest s.e (nrest s.d (nrest s.c (nrest s.b (nrest s.a w0))))).v < 4611686018427387904 := by omega
  have hl : (nrest s.e (nrest s.d (nrest s.c (nrest s.b (nrest s.a w0))))).v = (nrest s.e (nrest s.d (nrest s.c (nrest s.b (nrest s.a w0))))).l.toNat := by
    unfold W2.v at hv ⊢; omega
  unfold narrowN
  simp only
  rw [nfin_v _ _ _ _ _ _ b0 b1 (by rw [← hl]; omega), ← hl]
  have key := n1 2251799813685248 _ _ _ _ _ _ _ _ _ _ _ _ _ _ _ (s0.trans (by rw [z, Nat.add_zero])) s1 s2 s3 s4
  simp only [Nat.reduceMul] at key
  exact congrArg (· % p25519) key
def fsums (x y : N5) : W5 := ⟨
  wplus (wplus (wplus (wplus (wplus w0 x.a y.a) x.b (y.e * 19)) x.c (y.d * 19)) x.d (y.c * 19)) x.e (y.b * 19),
  wplus (wplus (wplus (wplus (wplus w0 x.a y.b) x.b y.a) x.c (y.e * 19)) x.d (y.d * 19)) x.e (y.c * 19),
  wplus (wplus (wplus (wplus (wplus w0 x.a y.c) x.b y.b) x.c y.a) x.d (y.e * 19)) x.e (y.d * 19),
  wplus (wplus (wplus (wplus (wplus w0 x.a y.d) x.b y.c) x.c y.b) x.d y.a) x.e (y.e * 19),
  wplus (wplus (wplus (wplus (wplus w0 x.a y.e) x.b y.d) x.c y.c) x.d y.b) x.e y.a⟩
def fmul (x y : N5) : N5 := narrowN (fsums (fcarry x) (fcarry y))
theorem wsum5 (a b c d e a' b' c' d' e' : UInt64) (ha : a.toNat < 4503599627370496) (hb : b.toNat < 4503599627370496) (hc : c.toNat < 4503599627370496) (hd : d.toNat < 4503599627370496) (he : e.toNat < 4503599627370496)
    (ha' : a'.toNat < 144115188075855872) (hb' : b'.toNat < 144115188075855872) (hc' : c'.toNat < 144115188075855872) (hd' : d'.toNat < 144115188075855872) (he' : e'.toNat < 144115188075855872) :
    (wplus (wplus (wplus (wplus (wplus w0 a a') b b') c c') d d') e e').v = a.toNat * a'.toNat + b.toNat * b'.toNat + c.toNat * c'.toNat + d.toNat * d'.toNat + e.toNat * e'.toNat ∧
    (wplus (wplus (wplus (wplus (wplus w0 a a') b b') c c') d d') e e').v < 5192296858534827628530496329220096 := by
  have m1 : a.toNat * a'.toNat ≤ 4503599627370496 * 144115188075855872 := Nat.mul_le_mul (by omega) (by omega)
  have m2 : b.toNat * b'.toNat ≤ 4503599627370496 * 144115188075855872 := Nat.mul_le_mul (by omega) (by omega)
  have m3 : c.toNat * c'.toNat ≤ 4503599627370496 * 144115188075855872 := Nat.mul_le_mul (by omega) (by omega)
  have m4 : d.toNat * d'.toNat ≤ 4503599627370496 * 144115188075855872 := Nat.mul_le_mul (by omega) (by omega)
  have m5 : e.toNat * e'.toNat ≤ 4503599627370496 * 144115188075855872 := Nat.mul_le_mul (by omega) (by omega)
  simp only [Nat.reduceMul] at m1 m2 m3 m4 m5
  have z : w0.v = 0 := rfl
  have s1 := wplus_v w0 a a' (by omega)
  have s2 := wplus_v (wplus w0 a a') b b' (by omega)
  have s3 := wplus_v (wplus (wplus w0 a a') b b') c c' (by omega)
  have s4 := wplus_v (wplus (wplus (wplus w0 a a') b b') c c') d d' (by omega)
  have s5 := wplus_v (wplus (wplus (wplus (wplus w0 a a') b b') c c') d d') e e' (by omega)
  constructor <;> omega
theorem mul19n (y : UInt64) (h : y.toNat < 4503599627370496) : (y * 19).toNat = y.toNat * 19 := by
  rw [UInt64.toNat_mul]
  show y.toNat * 19 % _ = _
  omega
theorem fsums_spec (x y : N5) (hx : x.lt 4503599627370496) (hy : y.lt 4503599627370496) : (fsums x y).v % p25519 = (x.w * y.w) % p25519 ∧ (fsums x y).lt 5192296858534827628530496329220096 := by
  obtain ⟨xa, xb, xc, xd, xe⟩ := hx
  obtain ⟨ya, yb, yc, yd, ye⟩ := hy
  have nb := mul19n _ yb
  have nc := mul19n _ yc
  have nd := mul19n _ yd
  have ne := mul19n _ ye
  obtain ⟨s0, l0⟩ := wsum5 x.a x.b x.c x.d x.e y.a (y.e * 19) (y.d * 19) (y.c * 19) (y.b * 19) xa xb xc xd xe (by omega) (by omega) (by omega) (by omega) (by omega)
  obtain ⟨s1, l1⟩ := wsum5 x.a x.b x.c x.d x.e y.b y.a (y.e * 19) (y.d * 19) (y.c * 19) xa xb xc xd xe (by omega) (by omega) (by omega) (by omega) (by omega)
  obtain ⟨s2, l2⟩ := wsum5 x.a x.b x.c x.d x.e y.c y.b y.a (y.e * 19) (y.d * 19) xa xb xc xd xe (by omega) (by omega) (by omega) (by omega) (by omega)
  obtain ⟨s3, l3⟩ := wsum5 x.a x.b x.c x.d x.e y.d y.c y.b y.a (y.e * 19) xa xb xc xd xe (by omega) (by omega) (by omega) (by omega) (by omega)
  obtain ⟨s4, l4⟩ := wsum5 x.a x.b x.c x.d x.e y.e y.d y.c y.b y.a xa xb xc xd xe (by omega) (by omega) (by omega) (by omega) (by omega)
  refine ⟨?_, l0, l1, l2, l3, l4⟩
  rw [nb, nc, nd, ne] at s0
  rw [nc, nd, ne] at s1
  rw [nd, ne] at s2
  rw [ne] at s3
  have key : x.w * y.w = (fsums x y).v + p25519 * ((x.b.toNat * y.e.toNat + x.c.toNat * y.d.toNat + x.d.toNat * y.c.toNat + x.e.toNat * y.b.toNat) + (x.c.toNat * y.e.toNat + x.d.toNat * y.d.toNat + x.e.toNat * y.c.toNat) * 2251799813685248 + (x.d.toNat * y.e.toNat + x.e.toNat * y.d.toNat) * 5070602400912917605986812821504 + x.e.toNat * y.e.toNat * 11417981541647679048466287755595961091061972992) := by
    show _ = (_ + _ * _ + _ * _ + _ * _ + _ * _) + _
    simp only [N5.w]
    unfold fsums
    simp only
    rw [s0, s1, s2, s3, s4]
    simp only [p25519]
    generalize x.a.toNat = a0
    generalize x.b.toNat = a1
    generalize x.c.toNat = a2
    generalize x.d.toNat = a3
    generalize x.e.toNat = a4
    generalize y.a.toNat = b0
    generalize y.b.toNat = b1
    generalize y.c.toNat = b2
    generalize y.d.toNat = b3
    generalize y.e.toNat = b4
    grind
  rw [key, Nat.add_mul_mod_self_left]
theorem N5.lt_le {x : N5} {m n : Nat} (h : x.lt m) (hmn : m ≤ n) : x.lt n := by
  obtain ⟨a, b, c, d, e⟩ := h
  exact ⟨by omega, by omega, by omega, by omega, by omega⟩
theorem fmul_mod (x y : N5) : (fmul x y).w % p25519 = (x.w * y.w) % p25519 := by
  obtain ⟨_, hx⟩ := fcarry_spec x
  obtain ⟨_, hy⟩ := fcarry_spec y
  obtain ⟨h1, h2⟩ := fsums_spec _ _ (N5.lt_le hx (by decide)) (N5.lt_le hy (by decide))
  unfold fmul
  rw [narrowN_v _ h2, h1, Nat.mul_mod, fcarry_mod, fcarry_mod, ← Nat.mul_mod]
def fscale (x : N5) (n : UInt64) : N5 := narrowN ⟨wplus w0 (fcarry x).a n, wplus w0 (fcarry x).b n, wplus w0 (fcarry x).c n, wplus w0 (fcarry x).d n, wplus w0 (fcarry x).e n⟩
theorem wone (a n : UInt64) (ha : a.toNat < 4503599627370496) (hn : n.toNat < 4294967296) : (wplus w0 a n).v = a.toNat * n.toNat ∧ (wplus w0 a n).v < 5192296858534827628530496329220096 := by
  have m1 : a.toNat * n.toNat ≤ 4503599627370496 * 4294967296 := Nat.mul_le_mul (by omega) (by omega)
  simp only [Nat.reduceMul] at m1
  have z : w0.v = 0 := rfl
  have s1 := wplus_v w0 a n (by rw [z, Nat.zero_add]; exact Nat.lt_of_le_of_lt m1 (by decide))
  rw [z, Nat.zero_add] at s1
  exact ⟨s1, by rw [s1]; exact Nat.lt_of_le_of_lt m1 (by decide)⟩
theorem fscale_mod (x : N5) (n : UInt64) (hn : n.toNat < 4294967296) : (fscale x n).w % p25519 = (x.w * n.toNat) % p25519 := by
  obtain ⟨_, a, b, c, d, e⟩ := fcarry_spec x
  obtain ⟨s0, l0⟩ := wone (fcarry x).a n (by omega) hn
  obtain ⟨s1, l1⟩ := wone (fcarry x).b n (by omega) hn
  obtain ⟨s2, l2⟩ := wone (fcarry x).c n (by omega) hn
  obtain ⟨s3, l3⟩ := wone (fcarry x).d n (by omega) hn
  obtain ⟨s4, l4⟩ := wone (fcarry x).e n (by omega) hn
  have e : (x.w * n.toNat) % p25519 = ((fcarry x).w * n.toNat) % p25519 := by
    rw [Nat.mul_mod, ← fcarry_mod x, ← Nat.mul_mod]
  rw [e]
  have hb : W5.lt ⟨wplus w0 (fcarry x).a n, wplus w0 (fcarry x).b n, wplus w0 (fcarry x).c n, wplus w0 (fcarry x).d n, wplus w0 (fcarry x).e n⟩ 5192296858534827628530496329220096 := by
    simp only [W5.lt]
    exact ⟨l0, l1, l2, l3, l4⟩
  unfold fscale
  refine (narrowN_v _ hb).trans (congrArg (· % p25519) ?_)
  unfold W5.v
  simp only
  rw [s0, s1, s2, s3, s4]
  simp only [N5.w]
  generalize (fcarry x).a.toNat = a0
  generalize (fcarry x).b.toNat = a1
  generalize (fcarry x).c.toNat = a2
  generalize (fcarry x).d.toNat = a3
  generalize (fcarry x).e.toNat = a4
  generalize n.toNat = m
  grind
theorem N5.w_inj (x y : N5) (hx : x.lt 2251799813685248) (hy : y.lt 2251799813685248) (h : x.w = y.w) : x = y := by
  obtain ⟨a, b, c, d, e⟩ := hx
  obtain ⟨a', b', c', d', e'⟩ := hy
  unfold N5.w at h
  apply N5.ext <;> apply UInt64.toNat_inj.1 <;> omega
theorem fsmall_congr {x y : N5} (h : x.w % p25519 = y.w % p25519) : fsmall x = fsmall y := by
  obtain ⟨a, b⟩ := fsmall_spec x
  obtain ⟨c, d⟩ := fsmall_spec y
  exact N5.w_inj _ _ b d (by rw [a, c, h])
def wordB (w : UInt64) : List UInt8 := [(shr64 w 0).toUInt8, (shr64 w 8).toUInt8, (shr64 w 16).toUInt8, (shr64 w 24).toUInt8, (shr64 w 32).toUInt8, (shr64 w 40).toUInt8, (shr64 w 48).toUInt8, (shr64 w 56).toUInt8]
def feB (t : N5) : List UInt8 := wordB (t.a ||| shl64 t.b 51) ++ wordB (shr64 t.b 13 ||| shl64 t.c 38) ++ wordB (shr64 t.c 26 ||| shl64 t.d 25) ++ wordB (shr64 t.d 39 ||| shl64 t.e 12)
def bytesF (x : N5) : List UInt8 := feB (fsmall x)
theorem bytesF_congr {x y : N5} (h : x.w % p25519 = y.w % p25519) : bytesF x = bytesF y := by
  unfold bytesF; rw [fsmall_congr h]
theorem bytesF_len (x : N5) : (bytesF x).length = 32 := rfl
theorem mod_cancel {a b c p : Nat} (h : (a + c) % p = (b + c) % p) : a % p = b % p := by
  by_cases hp : p = 0
  · subst hp; simp at h; omega
  · have e : ∀ u : Nat, (u + c + (p * c - c)) % p = u % p := fun u => by
      have : c ≤ p * c := Nat.le_mul_of_pos_left c (by omega)
      rw [Nat.add_assoc, Nat.add_sub_cancel' this, Nat.add_mul_mod_self_left]
    rw [← e a, ← e b, Nat.add_mod, h, ← Nat.add_mod]
theorem law_addc (a b : N5) : bytesF (fadd a b) = bytesF (fadd b a) := bytesF_congr (by rw [fadd_mod, fadd_mod, Nat.add_comm])
theorem law_mulc (a b : N5) : bytesF (fmul a b) = bytesF (fmul b a) := bytesF_congr (by rw [fmul_mod, fmul_mod, Nat.mul_comm])
theorem law_sub (a b : N5) : bytesF (fadd (fsub a b) b) = bytesF a := bytesF_congr (by rw [fadd_mod, fsub_mod])
theorem law_mula (a b c : N5) : bytesF (fmul a (fmul b c)) = bytesF (fmul (fmul a b) c) := bytesF_congr (by
  rw [fmul_mod, fmul_mod, Nat.mul_mod, fmul_mod b c, ← Nat.mul_mod, Nat.mul_mod (fmul a b).w, fmul_mod a b, ← Nat.mul_mod, Nat.mul_assoc])
theorem law_dist (a b c : N5) : bytesF (fmul a (fadd b c)) = bytesF (fadd (fmul a b) (fmul a c)) := bytesF_congr (by
  rw [fmul_mod, fadd_mod, Nat.mul_mod, fadd_mod b c, ← Nat.mul_mod, Nat.add_mod, fmul_mod a b, fmul_mod a c, ← Nat.add_mod, Nat.mul_add])
def zeroF : N5 := ⟨0, 0, 0, 0, 0⟩
theorem zeroF_w : zeroF.w = 0 := rfl
theorem law_self (a : N5) : bytesF (fsub a a) = bytesF zeroF := bytesF_congr (by
  apply mod_cancel (c := a.w)
  rw [fsub_mod, zeroF_w, Nat.zero_add])
theorem law_neg (a : N5) : bytesF (fsub zeroF (fsub zeroF a)) = bytesF a := bytesF_congr (by
  apply mod_cancel (c := (fsub zeroF a).w)
  rw [fsub_mod, Nat.add_comm, fsub_mod])
theorem law_small (a : N5) (n m nm : UInt64) (hn : n.toNat < 4294967296) (hm : m.toNat < 4294967296) (h : nm.toNat = n.toNat + m.toNat) : bytesF (fadd (fscale a n) (fscale a m)) = bytesF (fmul a ⟨nm, 0, 0, 0, 0⟩) := bytesF_congr (by
  have e : (N5.mk nm 0 0 0 0).w = nm.toNat := by simp [N5.w]
  rw [fadd_mod, fmul_mod, Nat.add_mod, fscale_mod a n hn, fscale_mod a m hm, ← Nat.add_mod, e, h, Nat.mul_add])
theorem law_two (a : N5) : bytesF (fscale a 2) = bytesF (fadd a a) := bytesF_congr (by
  rw [fscale_mod a 2 (by decide), fadd_mod]
  show (a.w * 2) % _ = _
  rw [Nat.mul_two])
theorem fparts_w (a b c d e : UInt64) (hb : b.toNat ≤ 9223372036854775808) (hc : c.toNat ≤ 9223372036854775808) (hd : d.toNat ≤ 9223372036854775808) (he : e.toNat ≤ 9223372036854775808) :
    (N5.mk (a &&& 2251799813685247) ((b + shr64 a 51) &&& 2251799813685247) ((c + shr64 (b + shr64 a 51) 51) &&& 2251799813685247) ((d + shr64 (c + shr64 (b + shr64 a 51) 51) 51) &&& 2251799813685247) (e + shr64 (d + shr64 (c + shr64 (b + shr64 a 51) 51) 51) 51)).w = (N5.mk a b c d e).w := by
  have ha := a.toNat_lt
  have e1 : (b + shr64 a 51).toNat = b.toNat + a.toNat / 2251799813685248 := by rw [add64n, shr51]; rw [shr51]; omega
  have e2 : (c + shr64 (b + shr64 a 51) 51).toNat = c.toNat + (b.toNat + a.toNat / 2251799813685248) / 2251799813685248 := by rw [add64n, shr51, e1]; rw [shr51, e1]; omega
  have e3 : (d + shr64 (c + shr64 (b + shr64 a 51) 51) 51).toNat = d.toNat + (c.toNat + (b.toNat + a.toNat / 2251799813685248) / 2251799813685248) / 2251799813685248 := by rw [add64n, shr51, e2]; rw [shr51, e2]; omega
  have e4 : (e + shr64 (d + shr64 (c + shr64 (b + shr64 a 51) 51) 51) 51).toNat = e.toNat + (d.toNat + (c.toNat + (b.toNat + a.toNat / 2251799813685248) / 2251799813685248) / 2251799813685248) / 2251799813685248 := by rw [add64n, shr51, e3]; rw [shr51, e3]; omega
  simp only [N5.w, and51, e1, e2, e3, e4]
  generalize a.toNat = A at *
  generalize b.toNat = B at *
  generalize c.toNat = C at *
  generalize d.toNat = D at *
  generalize e.toNat = E at *
  clear e1 e2 e3 e4
  omega
theorem and_full (x : UInt64) : x &&& 18446744073709551615 = x := by
  apply UInt64.toNat_inj.1
  rw [UInt64.toNat_and]
  show x.toNat &&& (2 ^ 64 - 1) = _
  rw [Nat.and_two_pow_sub_one_eq_mod]
  exact Nat.mod_eq_of_lt x.toNat_lt
theorem swap_l (a b : UInt64) : a ^^^ ((a ^^^ b) &&& 18446744073709551615) = b := by
  rw [and_full, ← UInt64.xor_assoc, UInt64.xor_self, UInt64.zero_xor]
theorem swap_r (a b : UInt64) : b ^^^ ((a ^^^ b) &&& 18446744073709551615) = a := by
  rw [and_full, UInt64.xor_comm a b, ← UInt64.xor_assoc, UInt64.xor_self, UInt64.zero_xor]
theorem swap_no (a d : UInt64) : a ^^^ (d &&& 0) = a := by simp
end Go.Proofs.Ytdkmkifebhggeaa
