/-
  Layer 6: the values of numbers of five parts. It speaks of no program.
-/
import Derived.Test.YthgemadhhkocgaaSz
import Derived.Test.YthgemadhhkocgaaPd
namespace Go.Proofs.Ythgemadhhkocgaa
open Go Go.RowKit
set_option maxHeartbeats 4000000
set_option linter.unusedSimpArgs false
set_option linter.unusedVariables false
def N5.v (x : N5) : Nat := x.a.toNat + x.b.toNat * 67108864 + x.c.toNat * 4503599627370496 + x.d.toNat * 302231454903657293676544 + x.e.toNat * 20282409603651670423947251286016
def N5.lt (x : N5) (n : Nat) : Prop := x.a.toNat < n ∧ x.b.toNat < n ∧ x.c.toNat < n ∧ x.d.toNat < n ∧ x.e.toNat < n
def p1305 : Nat := 1361129467683753853853498429727072845819
theorem shr26 (x : UInt64) : (shr64 x 26).toNat = x.toNat / 67108864 := by
  unfold shr64
  rw [if_pos (by decide), UInt64.toNat_shiftRight]
  show x.toNat >>> 26 = _
  rw [Nat.shiftRight_eq_div_pow]
theorem and26 (x : UInt64) : (x &&& 67108863).toNat = x.toNat % 67108864 := by
  rw [UInt64.toNat_and]
  show x.toNat &&& (2 ^ 26 - 1) = _
  rw [Nat.and_two_pow_sub_one_eq_mod]
theorem add64n {x y : UInt64} (h : x.toNat + y.toNat < 18446744073709551616) : (x + y).toNat = x.toNat + y.toNat := by
  rw [UInt64.toNat_add]; exact Nat.mod_eq_of_lt h
theorem mul64n {x y : UInt64} {A B : Nat} (hx : x.toNat < A) (hy : y.toNat < B) (h : A * B ≤ 18446744073709551616) : (x * y).toNat = x.toNat * y.toNat ∧ x.toNat * y.toNat < A * B := by
  have h1 : x.toNat * y.toNat < A * B := Nat.mul_lt_mul'' hx hy
  exact ⟨by rw [UInt64.toNat_mul]; exact Nat.mod_eq_of_lt (by omega), h1⟩
/-- One carry: how much is taken off, and how small the parts are. -/
theorem pcarry_spec (x : N5) (M : Nat) (hM : M ≤ 4611686018427387904) (h : x.lt M) : ∃ q, (pcarry x).v + p1305 * q = x.v ∧ 67108864 * q ≤ x.e.toNat + M / 67108864 + 2048 ∧ (pcarry x).a.toNat < 67108864 + 5 * q ∧ (pcarry x).b.toNat < 67108864 ∧ (pcarry x).c.toNat < 67108864 ∧ (pcarry x).d.toNat < 67108864 ∧ (pcarry x).e.toNat < 67108864 ∧ 5 * q ≤ (pcarry x).a.toNat := by
  obtain ⟨ha, hb, hc, hd, he⟩ := h
  have e1 : (x.b + shr64 x.a 26).toNat = x.b.toNat + x.a.toNat / 67108864 := by rw [add64n, shr26]; rw [shr26]; omega
  have e2 : (x.c + shr64 (x.b + shr64 x.a 26) 26).toNat = x.c.toNat + (x.b.toNat + x.a.toNat / 67108864) / 67108864 := by rw [add64n, shr26, e1]; rw [shr26, e1]; omega
  have e3 : (x.d + shr64 (x.c + shr64 (x.b + shr64 x.a 26) 26) 26).toNat = x.d.toNat + (x.c.toNat + (x.b.toNat + x.a.toNat / 67108864) / 67108864) / 67108864 := by rw [add64n, shr26, e2]; rw [shr26, e2]; omega
  have e4 : (x.e + shr64 (x.d + shr64 (x.c + shr64 (x.b + shr64 x.a 26) 26) 26) 26).toNat = x.e.toNat + (x.d.toNat + (x.c.toNat + (x.b.toNat + x.a.toNat / 67108864) / 67108864) / 67108864) / 67108864 := by rw [add64n, shr26, e3]; rw [shr26, e3]; omega
  have e5 : (5 * shr64 (x.e + shr64 (x.d + shr64 (x.c + shr64 (x.b + shr64 x.a 26) 26) 26) 26) 26).toNat = 5 * ((x.e.toNat + (x.d.toNat + (x.c.toNat + (x.b.toNat + x.a.toNat / 67108864) / 67108864) / 67108864) / 67108864) / 67108864) := by
    rw [UInt64.toNat_mul, shr26, e4]
    show 5 * _ % _ = _
    omega
  have e6 : (x.a &&& 67108863).toNat = x.a.toNat % 67108864 := and26 _
  refine ⟨(x.e.toNat + (x.d.toNat + (x.c.toNat + (x.b.toNat + x.a.toNat / 67108864) / 67108864) / 67108864) / 67108864) / 67108864, ?_⟩
  have f0 : (pcarry x).a.toNat = x.a.toNat % 67108864 + 5 * ((x.e.toNat + (x.d.toNat + (x.c.toNat + (x.b.toNat + x.a.toNat / 67108864) / 67108864) / 67108864) / 67108864) / 67108864) := by
    show ((x.a &&& 67108863) + 5 * shr64 (x.e + shr64 (x.d + shr64 (x.c + shr64 (x.b + shr64 x.a 26) 26) 26) 26) 26).toNat = _
    rw [add64n (by rw [e5, e6]; omega), e5, e6]
  have f1 : (pcarry x).b.toNat = (x.b.toNat + x.a.toNat / 67108864) % 67108864 := by
    show ((x.b + shr64 x.a 26) &&& 67108863).toNat = _; rw [and26, e1]
  have f2 : (pcarry x).c.toNat = (x.c.toNat + (x.b.toNat + x.a.toNat / 67108864) / 67108864) % 67108864 := by
    show ((x.c + shr64 (x.b + shr64 x.a 26) 26) &&& 67108863).toNat = _; rw [and26, e2]
  have f3 : (pcarry x).d.toNat = (x.d.toNat + (x.c.toNat + (x.b.toNat + x.a.toNat / 67108864) / 67108864) / 67108864) % 67108864 := by
    show ((x.d + shr64 (x.c + shr64 (x.b + shr64 x.a 26) 26) 26) &&& 67108863).toNat = _; rw [and26, e3]
  have f4 : (pcarry x).e.toNat = (x.e.toNat + (x.d.toNat + (x.c.toNat + (x.b.toNat + x.a.toNat / 67108864) / 67108864) / 67108864) / 67108864) % 67108864 := by
    show ((x.e + shr64 (x.d + shr64 (x.c + shr64 (x.b + shr64 x.a 26) 26) 26) 26) &&& 67108863).toNat = _; rw [and26, e4]
  simp only [N5.v, f0, f1, f2, f3, f4, p1305]
  generalize x.a.toNat = a at *
  generalize x.b.toNat = b at *
  generalize x.c.toNat = c at *
  generalize x.d.toNat = d at *
  generalize x.e.toNat = e at *
  generalize hA : a / 67108864 = A at *
  generalize hB : (b + A) / 67108864 = B at *
  generalize hC : (c + B) / 67108864 = C at *
  generalize hD : (d + C) / 67108864 = D at *
  generalize hE : (e + D) / 67108864 = E at *
  clear e1 e2 e3 e4 e5 e6 f0 f1 f2 f3 f4
  refine ⟨?_, ?_, ?_, ?_, ?_, ?_, ?_, ?_⟩ <;> omega

theorem mul5 {x y : UInt64} (hx : x.toNat < 134217728) (hy : y.toNat < 134217728) : (x * y).toNat = x.toNat * y.toNat ∧ (x * y * 5).toNat = x.toNat * y.toNat * 5 ∧ x.toNat * y.toNat < 18014398509481984 := by
  obtain ⟨h1, h2⟩ := mul64n hx hy (by decide)
  refine ⟨h1, ?_, h2⟩
  rw [UInt64.toNat_mul, h1]
  show _ * 5 % _ = _
  omega
theorem sum5 {p q r s t : UInt64} (h : p.toNat + q.toNat + r.toNat + s.toNat + t.toNat < 18446744073709551616) : (0 + p + q + r + s + t).toNat = p.toNat + q.toNat + r.toNat + s.toNat + t.toNat := by
  simp only [UInt64.toNat_add, UInt64.toNat_ofNat]
  omega
theorem praw_spec (x y : N5) (hx : x.lt 134217728) (hy : y.lt 134217728) : (praw x y).v % p1305 = (x.v * y.v) % p1305 ∧ (praw x y).lt 4611686018427387904 := by
  obtain ⟨xa, xb, xc, xd, xe⟩ := hx
  obtain ⟨ya, yb, yc, yd, ye⟩ := hy
  have s0 : (praw x y).a.toNat = x.a.toNat * y.a.toNat + x.b.toNat * y.e.toNat * 5 + x.c.toNat * y.d.toNat * 5 + x.d.toNat * y.c.toNat * 5 + x.e.toNat * y.b.toNat * 5 := by
    have h1 := mul5 xa ya; have h2 := mul5 xb ye; have h3 := mul5 xc yd; have h4 := mul5 xd yc; have h5 := mul5 xe yb
    show (0 + x.a * y.a + x.b * y.e * 5 + x.c * y.d * 5 + x.d * y.c * 5 + x.e * y.b * 5).toNat = _
    rw [sum5, h1.1, h2.2.1, h3.2.1, h4.2.1, h5.2.1]
    rw [h1.1, h2.2.1, h3.2.1, h4.2.1, h5.2.1]; omega
  have s1 : (praw x y).b.toNat = x.a.toNat * y.b.toNat + x.b.toNat * y.a.toNat + x.c.toNat * y.e.toNat * 5 + x.d.toNat * y.d.toNat * 5 + x.e.toNat * y.c.toNat * 5 := by
    have h1 := mul5 xa yb; have h2 := mul5 xb ya; have h3 := mul5 xc ye; have h4 := mul5 xd yd; have h5 := mul5 xe yc
    show (0 + x.a * y.b + x.b * y.a + x.c * y.e * 5 + x.d * y.d * 5 + x.e * y.c * 5).toNat = _
    rw [sum5, h1.1, h2.1, h3.2.1, h4.2.1, h5.2.1]
    rw [h1.1, h2.1, h3.2.1, h4.2.1, h5.2.1]; omega
  have s2 : (praw x y).c.toNat = x.a.toNat * y.c.toNat + x.b.toNat * y.b.toNat + x.c.toNat * y.a.toNat + x.d.toNat * y.e.toNat * 5 + x.e.toNat * y.d.toNat * 5 := by
    have h1 := mul5 xa yc; have h2 := mul5 xb yb; have h3 := mul5 xc ya; have h4 := mul5 xd ye; have h5 := mul5 xe yd
    show (0 + x.a * y.c + x.b * y.b + x.c * y.a + x.d * y.e * 5 + x.e * y.d * 5).toNat = _
    rw [sum5, h1.1, h2.1, h3.1, h4.2.1, h5.2.1]
    rw [h1.1, h2.1, h3.1, h4.2.1, h5.2.1]; omega
  have s3 : (praw x y).d.toNat = x.a.toNat * y.d.toNat + x.b.toNat * y.c.toNat + x.c.toNat * y.b.toNat + x.d.toNat * y.a.toNat + x.e.toNat * y.e.toNat * 5 := by
    have h1 := mul5 xa yd; have h2 := mul5 xb yc; have h3 := mul5 xc yb; have h4 := mul5 xd ya; have h5 := mul5 xe ye
    show (0 + x.a * y.d + x.b * y.c + x.c * y.b + x.d * y.a + x.e * y.e * 5).toNat = _
    rw [sum5, h1.1, h2.1, h3.1, h4.1, h5.2.1]
    rw [h1.1, h2.1, h3.1, h4.1, h5.2.1]; omega
  have s4 : (praw x y).e.toNat = x.a.toNat * y.e.toNat + x.b.toNat * y.d.toNat + x.c.toNat * y.c.toNat + x.d.toNat * y.b.toNat + x.e.toNat * y.a.toNat := by
    have h1 := mul5 xa ye; have h2 := mul5 xb yd; have h3 := mul5 xc yc; have h4 := mul5 xd yb; have h5 := mul5 xe ya
    show (0 + x.a * y.e + x.b * y.d + x.c * y.c + x.d * y.b + x.e * y.a).toNat = _
    rw [sum5, h1.1, h2.1, h3.1, h4.1, h5.1]
    rw [h1.1, h2.1, h3.1, h4.1, h5.1]; omega
  constructor
  · have key : x.v * y.v = (praw x y).v + p1305 * ((x.b.toNat * y.e.toNat + x.c.toNat * y.d.toNat + x.d.toNat * y.c.toNat + x.e.toNat * y.b.toNat) + (x.c.toNat * y.e.toNat + x.d.toNat * y.d.toNat + x.e.toNat * y.c.toNat) * 67108864 + (x.d.toNat * y.e.toNat + x.e.toNat * y.d.toNat) * 4503599627370496 + x.e.toNat * y.e.toNat * 302231454903657293676544) := by
      simp only [N5.v, s0, s1, s2, s3, s4, p1305]
      generalize x.a.toNat = a0
      generalize x.b.toNat = a1
      generalize x.c.toNat = a2
      generalize x.d.toNat = a3
      generalize x.e.toNat = a4
      generalize y.a.toNat = b0
      generalize y.b.toNat = b1
      generalize y.c.toNat = b2
      generalize y.d.toNat = b3
      generalize y.e.toNat = b4
      grind
    rw [key, Nat.add_mul_mod_self_left]
  · have := (mul5 xa ya).2.2; have := (mul5 xb ye).2.2; have := (mul5 xc yd).2.2; have := (mul5 xd yc).2.2; have := (mul5 xe yb).2.2
    have := (mul5 xa yb).2.2; have := (mul5 xb ya).2.2; have := (mul5 xc ye).2.2; have := (mul5 xd yd).2.2; have := (mul5 xe yc).2.2
    have := (mul5 xa yc).2.2; have := (mul5 xb yb).2.2; have := (mul5 xc ya).2.2; have := (mul5 xd ye).2.2; have := (mul5 xe yd).2.2
    have := (mul5 xa yd).2.2; have := (mul5 xb yc).2.2; have := (mul5 xc yb).2.2; have := (mul5 xd ya).2.2; have := (mul5 xe ye).2.2
    have := (mul5 xa ye).2.2; have := (mul5 xb yd).2.2; have := (mul5 xc yc).2.2; have := (mul5 xd yb).2.2; have := (mul5 xe ya).2.2
    refine ⟨?_, ?_, ?_, ?_, ?_⟩
    · rw [s0]; omega
    · rw [s1]; omega
    · rw [s2]; omega
    · rw [s3]; omega
    · rw [s4]; omega
theorem ptimes_spec (x y : N5) (hx : x.lt 134217728) (hy : y.lt 134217728) : (ptimes x y).v % p1305 = (x.v * y.v) % p1305 ∧ (ptimes x y).lt 134217728 := by
  obtain ⟨h1, h2⟩ := praw_spec x y hx hy
  obtain ⟨q, a1, a2, a3, a4, a5, a6, a7, a8⟩ := pcarry_spec (praw x y) _ (Nat.le_refl _) h2
  have h3 := h2.2.2.2.2
  have hq : (pcarry (praw x y)).lt 412316860416 := ⟨by omega, by omega, by omega, by omega, by omega⟩
  obtain ⟨q', b1, b2, b3, b4, b5, b6, b7, b8⟩ := pcarry_spec (pcarry (praw x y)) _ (by decide) hq
  refine ⟨?_, by show (pcarry (pcarry (praw x y))).a.toNat < _; omega, by show (pcarry (pcarry (praw x y))).b.toNat < _; omega, by show (pcarry (pcarry (praw x y))).c.toNat < _; omega, by show (pcarry (pcarry (praw x y))).d.toNat < _; omega, by show (pcarry (pcarry (praw x y))).e.toNat < _; omega⟩
  rw [← h1, ← a1, ← b1, Nat.add_mul_mod_self_left, Nat.add_mul_mod_self_left]; rfl
theorem pplus_spec (x y : N5) (hx : x.lt 134217728) (hy : y.lt 134217728) : (pplus x y).v % p1305 = (x.v + y.v) % p1305 ∧ (pplus x y).lt 134217728 := by
  obtain ⟨xa, xb, xc, xd, xe⟩ := hx
  obtain ⟨ya, yb, yc, yd, ye⟩ := hy
  have ea : (x.a + y.a).toNat = x.a.toNat + y.a.toNat := add64n (by omega)
  have eb : (x.b + y.b).toNat = x.b.toNat + y.b.toNat := add64n (by omega)
  have ec : (x.c + y.c).toNat = x.c.toNat + y.c.toNat := add64n (by omega)
  have ed : (x.d + y.d).toNat = x.d.toNat + y.d.toNat := add64n (by omega)
  have ee : (x.e + y.e).toNat = x.e.toNat + y.e.toNat := add64n (by omega)
  obtain ⟨q, a1, a2, a3, a4, a5, a6, a7, a8⟩ := pcarry_spec ⟨x.a + y.a, x.b + y.b, x.c + y.c, x.d + y.d, x.e + y.e⟩ 268435456 (by decide) ⟨by show (x.a + y.a).toNat < _; omega, by show (x.b + y.b).toNat < _; omega, by show (x.c + y.c).toNat < _; omega, by show (x.d + y.d).toNat < _; omega, by show (x.e + y.e).toNat < _; omega⟩
  have hv : (N5.mk (x.a + y.a) (x.b + y.b) (x.c + y.c) (x.d + y.d) (x.e + y.e)).v = x.v + y.v := by
    simp only [N5.v, ea, eb, ec, ed, ee]; omega
  rw [hv] at a1
  have a2' : 67108864 * q ≤ (x.e + y.e).toNat + 268435456 / 67108864 + 2048 := a2
  refine ⟨?_, by show (pcarry _).a.toNat < _; omega, by show (pcarry _).b.toNat < _; omega, by show (pcarry _).c.toNat < _; omega, by show (pcarry _).d.toNat < _; omega, by show (pcarry _).e.toNat < _; omega⟩
  rw [← a1, Nat.add_mul_mod_self_left]; rfl
/-- The least number, in parts. -/
theorem psmall_spec (x : N5) (hx : x.lt 134217728) : (psmall x).v = x.v % p1305 ∧ (psmall x).lt 67108864 := by
  obtain ⟨q, a1, a2, a3, a4, a5, a6, a7, a8⟩ := pcarry_spec x _ (by decide) hx
  have he := hx.2.2.2.2
  have hq : (pcarry x).lt 67109888 := ⟨by omega, by omega, by omega, by omega, by omega⟩
  obtain ⟨q', b1, b2, b3, b4, b5, b6, b7, b8⟩ := pcarry_spec (pcarry x) _ (by decide) hq
  generalize hy : pcarry (pcarry x) = y at *
  have hv : y.v % p1305 = x.v % p1305 := by rw [← a1, ← b1, Nat.add_mul_mod_self_left, Nat.add_mul_mod_self_left]
  have hya : y.lt 67108864 ∧ y.v < p1305 + 5 := by
    unfold N5.lt
    simp only [N5.v, p1305] at *
    generalize y.a.toNat = A at *
    generalize y.b.toNat = B at *
    generalize y.c.toNat = C at *
    generalize y.d.toNat = D at *
    generalize y.e.toNat = E at *
    generalize (pcarry x).a.toNat = A' at *
    generalize (pcarry x).b.toNat = B' at *
    generalize (pcarry x).c.toNat = C' at *
    generalize (pcarry x).d.toNat = D' at *
    generalize (pcarry x).e.toNat = E' at *
    clear hv a1 hy
    refine ⟨⟨?_, ?_, ?_, ?_, ?_⟩, ?_⟩ <;> omega
  obtain ⟨hl, hlt⟩ := hya
  have hl' := hl
  obtain ⟨la, lb, lc, ld, le⟩ := hl'
  have e0 : (y.a + 5).toNat = y.a.toNat + 5 := add64n (by show _ + 5 < _; omega)
  have e1 : (y.b + shr64 (y.a + 5) 26).toNat = y.b.toNat + (y.a.toNat + 5) / 67108864 := by rw [add64n, shr26, e0]; rw [shr26, e0]; omega
  have e2 : (y.c + shr64 (y.b + shr64 (y.a + 5) 26) 26).toNat = y.c.toNat + (y.b.toNat + (y.a.toNat + 5) / 67108864) / 67108864 := by rw [add64n, shr26, e1]; rw [shr26, e1]; omega
  have e3 : (y.d + shr64 (y.c + shr64 (y.b + shr64 (y.a + 5) 26) 26) 26).toNat = y.d.toNat + (y.c.toNat + (y.b.toNat + (y.a.toNat + 5) / 67108864) / 67108864) / 67108864 := by rw [add64n, shr26, e2]; rw [shr26, e2]; omega
  have f4 : (pless y).e.toNat = y.e.toNat + (y.d.toNat + (y.c.toNat + (y.b.toNat + (y.a.toNat + 5) / 67108864) / 67108864) / 67108864) / 67108864 := by
    show (y.e + shr64 (y.d + shr64 (y.c + shr64 (y.b + shr64 (y.a + 5) 26) 26) 26) 26).toNat = _
    rw [add64n, shr26, e3]; rw [shr26, e3]; omega
  have f0 : (pless y).a.toNat = (y.a.toNat + 5) % 67108864 := by show ((y.a + 5) &&& 67108863).toNat = _; rw [and26, e0]
  have f1 : (pless y).b.toNat = (y.b.toNat + (y.a.toNat + 5) / 67108864) % 67108864 := by show ((y.b + shr64 (y.a + 5) 26) &&& 67108863).toNat = _; rw [and26, e1]
  have f2 : (pless y).c.toNat = (y.c.toNat + (y.b.toNat + (y.a.toNat + 5) / 67108864) / 67108864) % 67108864 := by show ((y.c + shr64 (y.b + shr64 (y.a + 5) 26) 26) &&& 67108863).toNat = _; rw [and26, e2]
  have f3 : (pless y).d.toNat = (y.d.toNat + (y.c.toNat + (y.b.toNat + (y.a.toNat + 5) / 67108864) / 67108864) / 67108864) % 67108864 := by show ((y.d + shr64 (y.c + shr64 (y.b + shr64 (y.a + 5) 26) 26) 26) &&& 67108863).toNat = _; rw [and26, e3]
  have hs : (shr64 (pless y).e 26 == 0) = decide ((pless y).e.toNat / 67108864 = 0) := by
    rw [Bool.eq_iff_iff]
    simp only [beq_iff_eq, decide_eq_true_eq, ← UInt64.toNat_inj, shr26]
    rfl
  unfold psmall
  simp only [hy, hs, decide_eq_true_eq]
  by_cases h : (pless y).e.toNat / 67108864 = 0
  · rw [if_pos h]
    refine ⟨?_, hl⟩
    rw [← hv]
    refine (Nat.mod_eq_of_lt ?_).symm
    rw [f4] at h
    simp only [N5.v, p1305] at *
    generalize y.a.toNat = A at *
    generalize y.b.toNat = B at *
    generalize y.c.toNat = C at *
    generalize y.d.toNat = D at *
    generalize y.e.toNat = E at *
    clear hv hy hs a1 b1 f0 f1 f2 f3 f4 e0 e1 e2 e3
    omega
  · rw [if_neg h]
    have f5 : ((pless y).e &&& 67108863).toNat = (pless y).e.toNat % 67108864 := and26 _
    have hge : p1305 ≤ y.v := by
      rw [f4] at h
      simp only [N5.v, p1305] at *
      generalize y.a.toNat = A at *
      generalize y.b.toNat = B at *
      generalize y.c.toNat = C at *
      generalize y.d.toNat = D at *
      generalize y.e.toNat = E at *
      clear hv hy hs a1 b1 f0 f1 f2 f3 f4 f5 e0 e1 e2 e3
      omega
    refine ⟨?_, by show (pless y).a.toNat < _; omega, by show (pless y).b.toNat < _; omega, by show (pless y).c.toNat < _; omega, by show (pless y).d.toNat < _; omega, by show ((pless y).e &&& 67108863).toNat < _; omega⟩
    rw [← hv, Nat.mod_eq_sub_mod hge, Nat.mod_eq_of_lt (by have h5 : 5 < p1305 := (by decide); omega)]
    show (pless y).a.toNat + (pless y).b.toNat * 67108864 + (pless y).c.toNat * 4503599627370496 + (pless y).d.toNat * 302231454903657293676544 + ((pless y).e &&& 67108863).toNat * 20282409603651670423947251286016 = _
    rw [f5, f0, f1, f2, f3, f4]
    simp only [N5.v, p1305] at *
    generalize y.a.toNat = A at *
    generalize y.b.toNat = B at *
    generalize y.c.toNat = C at *
    generalize y.d.toNat = D at *
    generalize y.e.toNat = E at *
    clear hv hy hs a1 b1 f0 f1 f2 f3 f4 f5 e0 e1 e2 e3
    omega
def leN : List UInt8 → Nat
  | [] => 0
  | b :: l => b.toNat + 256 * leN l
theorem leN_append : ∀ (a b : List UInt8), leN (a ++ b) = leN a + 2 ^ (8 * a.length) * leN b
  | [], b => by simp [leN]
  | x :: a, b => by
    rw [List.cons_append, leN, leN, leN_append a b, List.length_cons, show 8 * (a.length + 1) = 8 * a.length + 8 by omega, Nat.pow_add]
    have : (2 : Nat) ^ 8 = 256 := rfl
    rw [this]
    grind
theorem leN_lt : ∀ (a : List UInt8), leN a < 2 ^ (8 * a.length)
  | [] => by simp [leN]
  | x :: a => by
    have h := leN_lt a
    have hx := x.toNat_lt
    rw [leN, List.length_cons, show 8 * (a.length + 1) = 8 * a.length + 8 by omega, Nat.pow_add]
    have : (2 : Nat) ^ 8 = 256 := rfl
    rw [this]
    omega
theorem leN_take (s : List UInt8) (i : Nat) (h : i < s.length) : leN (s.take (i + 1)) = leN (s.take i) + (s.getD i 0).toNat * 2 ^ (8 * i) := by
  rw [List.take_add_one, leN_append, List.length_take, Nat.min_eq_left (by omega), List.getD_eq_getElem?_getD, List.getElem?_eq_getElem h]
  simp [leN, Nat.mul_comm]
theorem n5of_l (l : List UInt64) (h : l.length = 5) : (n5of l).l = l := by
  match l, h with
  | [a, b, c, d, e], _ => rfl
theorem shl64n {b : UInt64} {k : Nat} (hk : k < 64) (h : b.toNat * 2 ^ k < 18446744073709551616) : (shl64 b k).toNat = b.toNat * 2 ^ k := by
  unfold shl64
  rw [if_pos hk, UInt64.toNat_shiftLeft, UInt64.toNat_ofNat_of_lt' (by show k < 18446744073709551616; omega), Nat.mod_eq_of_lt hk, Nat.shiftLeft_eq]
  exact Nat.mod_eq_of_lt h
theorem shr64n {b : UInt64} {k : Nat} (hk : k < 64) : (shr64 b k).toNat = b.toNat / 2 ^ k := by
  unfold shr64
  rw [if_pos hk, UInt64.toNat_shiftRight, UInt64.toNat_ofNat_of_lt' (by show k < 18446744073709551616; omega), Nat.mod_eq_of_lt hk, Nat.shiftRight_eq_div_pow]
theorem orshl {a b : UInt64} (k : Nat) (hk : k < 64) (ha : a.toNat < 2 ^ k) (hb : b.toNat * 2 ^ k < 18446744073709551616) : (a ||| shl64 b k).toNat = a.toNat + b.toNat * 2 ^ k := by
  rw [UInt64.toNat_or, shl64n hk hb, Nat.or_comm, ← Nat.shiftLeft_eq, ← Nat.shiftLeft_add_eq_or_of_lt ha, Nat.add_comm]
theorem limb_step (x : N5) (b : UInt8) (i : Nat) (hi : i < 17) (hx : x.lt 17179869184) (hv : x.v < 2 ^ (8 * i)) :
    (n5of (x.l.set (8 * i / 26) (x.l.getD (8 * i / 26) 0 ||| shl64 b.toUInt64 (8 * i % 26)))).v = x.v + b.toNat * 2 ^ (8 * i) ∧ (n5of (x.l.set (8 * i / 26) (x.l.getD (8 * i / 26) 0 ||| shl64 b.toUInt64 (8 * i % 26)))).lt 17179869184 := by
  obtain ⟨h0, h1, h2, h3, h4⟩ := hx
  have hb := b.toNat_lt
  have hbn : b.toUInt64.toNat = b.toNat := by simp
  have hc : i = 0 ∨ i = 1 ∨ i = 2 ∨ i = 3 ∨ i = 4 ∨ i = 5 ∨ i = 6 ∨ i = 7 ∨ i = 8 ∨ i = 9 ∨ i = 10 ∨ i = 11 ∨ i = 12 ∨ i = 13 ∨ i = 14 ∨ i = 15 ∨ i = 16 := by omega
  unfold N5.v at hv
  rcases hc with rfl | rfl | rfl | rfl | rfl | rfl | rfl | rfl | rfl | rfl | rfl | rfl | rfl | rfl | rfl | rfl | rfl
  all_goals
    simp only [Nat.reduceMul, Nat.reduceDiv, Nat.reduceMod, Nat.reducePow, N5.l, List.set_cons_zero, List.set_cons_succ, List.getD_cons_zero, List.getD_cons_succ, n5of, N5.v, N5.lt] at hv ⊢
    rw [orshl _ (by decide) (by simp only [Nat.reducePow]; omega) (by rw [hbn]; simp only [Nat.reducePow]; omega), hbn]
    simp only [Nat.reducePow]
    refine ⟨by omega, ?_⟩
    refine ⟨?_, ?_, ?_, ?_, ?_⟩ <;> omega
theorem limbsL_v (s : List UInt8) : ∀ i, i ≤ 17 → i ≤ s.length → (n5of (limbsL s i)).v = leN (s.take i) ∧ (n5of (limbsL s i)).lt 17179869184
  | 0, _, _ => by
    have e : n5of (limbsL s 0) = ⟨0, 0, 0, 0, 0⟩ := rfl
    rw [e, List.take_zero]
    unfold N5.lt
    decide
  | i + 1, h, h' => by
    obtain ⟨h1, h2⟩ := limbsL_v s i (by omega) (by omega)
    have hv : (n5of (limbsL s i)).v < 2 ^ (8 * i) := by
      rw [h1]
      refine Nat.lt_of_lt_of_le (leN_lt _) (Nat.pow_le_pow_right (by decide) ?_)
      rw [List.length_take]; omega
    have := limb_step (n5of (limbsL s i)) (s.getD i 0) i (by omega) h2 hv
    rw [n5of_l _ (limbsL_len s i)] at this
    rw [leN_take s i (by omega), ← h1]
    exact this
theorem limbsN_spec (s : List UInt8) (h : s.length ≤ 17) : (limbsN s).v % p1305 = leN s % p1305 ∧ (limbsN s).lt 134217728 := by
  obtain ⟨h1, h2⟩ := limbsL_v s s.length h (Nat.le_refl _)
  rw [List.take_length] at h1
  obtain ⟨q, a1, a2, a3, a4, a5, a6, a7, a8⟩ := pcarry_spec _ _ (by decide) h2
  have := h2.2.2.2.2
  refine ⟨?_, by show (pcarry _).a.toNat < _; omega, by show (pcarry _).b.toNat < _; omega, by show (pcarry _).c.toNat < _; omega, by show (pcarry _).d.toNat < _; omega, by show (pcarry _).e.toNat < _; omega⟩
  rw [← h1, ← a1, Nat.add_mul_mod_self_left]; rfl
theorem ormod {u w : UInt64} (m : Nat) (hm : m ≤ 26) (hu : u.toNat < 2 ^ m) (hw : w.toNat < 67108864) : (u ||| shl64 w m).toUInt8.toNat = (u.toNat + w.toNat * 2 ^ m) % 256 := by
  have hp : (2 : Nat) ^ m ≤ 2 ^ 26 := Nat.pow_le_pow_right (by decide) hm
  have : w.toNat * 2 ^ m ≤ 67108864 * 2 ^ 26 := Nat.mul_le_mul (by omega) hp
  rw [UInt64.toNat_toUInt8, orshl m (by omega) hu (by omega)]
theorem byteOf_spec (x : N5) (hx : x.lt 67108864) (i : Nat) (hi : i < 16) : (byteOfL x i).toNat = x.v / 2 ^ (8 * i) % 256 := by
  obtain ⟨h0, h1, h2, h3, h4⟩ := hx
  have hc : i = 0 ∨ i = 1 ∨ i = 2 ∨ i = 3 ∨ i = 4 ∨ i = 5 ∨ i = 6 ∨ i = 7 ∨ i = 8 ∨ i = 9 ∨ i = 10 ∨ i = 11 ∨ i = 12 ∨ i = 13 ∨ i = 14 ∨ i = 15 := by omega
  rcases hc with rfl | rfl | rfl | rfl | rfl | rfl | rfl | rfl | rfl | rfl | rfl | rfl | rfl | rfl | rfl | rfl
  all_goals
    simp only [byteOfL, Nat.reduceMul, Nat.reduceDiv, Nat.reduceMod, Nat.reduceSub, Nat.reduceAdd, Nat.reduceLT, Nat.reducePow, N5.l, List.getD_cons_zero, List.getD_cons_succ, if_true, if_false, N5.v]
    first
      | (rw [ormod _ (by decide) (by rw [shr64n (by decide)]; simp only [Nat.reducePow]; omega) (by omega), shr64n (by decide)]
         simp only [Nat.reducePow]
         omega)
      | (rw [UInt64.toNat_toUInt8, shr64n (by decide)]
         simp only [Nat.reducePow]
         omega)
theorem pcar_lev (x : N5) (s : List UInt8) : ∀ i, pcar x s i ≤ 1
  | 0 => Nat.zero_le _
  | i + 1 => by
    have h1 := pcar_lev x s i
    have h2 := (byteOfL x i).toNat_lt
    have h3 := (s.getD i 0).toNat_lt
    rw [pcar]; omega
theorem addB_alg (L P T c B d V K : Nat) (ih : L + c * P = V + K) (hT : T = c + B + d) : L + P * (T % 256) + T / 256 * (P * 256) = V + P * B + (K + d * P) := by
  have h := Nat.mod_add_div T 256
  have e : P * (T % 256) + T / 256 * (P * 256) = P * T := by
    rw [Nat.mul_comm (T / 256), Nat.mul_assoc, ← Nat.mul_add, h]
  rw [Nat.add_assoc, e, hT, Nat.mul_add, Nat.mul_add, Nat.mul_comm P c, Nat.mul_comm P d]
  omega
theorem addB_v (x : N5) (hx : x.lt 67108864) (s : List UInt8) (hs : s.length = 16) : ∀ n, n ≤ 16 → leN (addB x s n) + pcar x s n * 2 ^ (8 * n) = x.v % 2 ^ (8 * n) + leN (s.take n)
  | 0, _ => by simp [addB, pcar, leN, Nat.mod_one]
  | n + 1, h => by
    have ih := addB_v x hx s hs n (by omega)
    have hb := byteOf_spec x hx n (by omega)
    have hd : leN [addAt x s n] = (pcar x s n + (byteOfL x n).toNat + (s.getD n 0).toNat) % 256 := by simp [addAt, leN]
    have e8 : 8 * (n + 1) = 8 * n + 8 := by omega
    rw [addB_succ', leN_append, addB_len', leN_take s n (by omega), pcar, hd, e8, Nat.pow_add, Nat.mod_mul, ← hb]
    exact addB_alg _ _ _ _ _ _ _ _ ih rfl
theorem leN_inj : ∀ (a b : List UInt8), a.length = b.length → leN a = leN b → a = b
  | [], [], _, _ => rfl
  | [], _ :: _, h, _ => by simp at h
  | _ :: _, [], h, _ => by simp at h
  | x :: a, y :: b, h, e => by
    have hx := x.toNat_lt
    have hy := y.toNat_lt
    simp only [leN] at e
    have h1 : x = y := UInt8.toNat_inj.1 (by omega)
    have h2 := leN_inj a b (by simpa using h) (by omega)
    rw [h1, h2]
theorem leN_zeros (n : Nat) : leN (List.replicate n 0) = 0 := by
  induction n with
  | zero => rfl
  | succ n ih => rw [List.replicate_succ, leN, ih]; rfl
def one5 : N5 := ⟨1, 0, 0, 0, 0⟩
theorem keyR_one : keyR ([1] ++ List.replicate 31 0) = one5 := by decide +kernel
theorem tag_small (s : List UInt8) (h0 : 0 < s.length) (h : s.length ≤ 15) : tagL ([1] ++ List.replicate 31 0) s = s ++ [1] ++ List.replicate (15 - s.length) 0 := by
  have hdr : ([1] ++ List.replicate 31 (0 : UInt8)).drop 16 = List.replicate 16 0 := by decide
  have hq : (s.length + 15) / 16 = 1 := by omega
  unfold tagL
  rw [keyR_one, hq, hdr]
  have e1 : tagN one5 s 1 = ptimes (pplus zero5 (limbsN (s ++ [1]))) one5 := by
    show ptimes (pplus (tagN one5 s 0) (limbsN ((s.drop (16 * 0)).take 16 ++ [1]))) one5 = _
    rw [Nat.mul_zero, List.drop_zero, List.take_of_length_le (by omega)]; rfl
  rw [e1]
  have hz : zero5.lt 134217728 := by unfold N5.lt; decide
  have ho : one5.lt 134217728 := by unfold N5.lt; decide
  have hl : (s ++ [1]).length = s.length + 1 := by simp
  obtain ⟨a1, a2⟩ := limbsN_spec (s ++ [1]) (by omega)
  obtain ⟨b1, b2⟩ := pplus_spec _ _ hz a2
  obtain ⟨c1, c2⟩ := ptimes_spec _ _ b2 ho
  obtain ⟨d1, d2⟩ := psmall_spec _ c2
  have hone : one5.v = 1 := rfl
  have hzero : zero5.v = 0 := rfl
  have hlt : leN (s ++ [1]) < 2 ^ 128 := Nat.lt_of_lt_of_le (leN_lt _) (Nat.pow_le_pow_right (by decide) (by omega))
  have hv : (psmall (ptimes (pplus zero5 (limbsN (s ++ [1]))) one5)).v = leN (s ++ [1]) := by
    rw [d1, c1, hone, Nat.mul_one, b1, hzero, Nat.zero_add, a1]
    refine Nat.mod_eq_of_lt (Nat.lt_trans hlt ?_)
    decide
  have key := addB_v _ d2 (List.replicate 16 0) (by simp) 16 (Nat.le_refl _)
  rw [pcar_zeros _ 16 (Nat.le_refl _), hv, Nat.zero_mul, Nat.add_zero, List.take_of_length_le (by simp), leN_zeros, Nat.add_zero, Nat.mod_eq_of_lt hlt] at key
  refine leN_inj _ _ (by rw [addB_len']; simp; omega) ?_
  rw [key, leN_append (s ++ [1]), leN_zeros, Nat.mul_zero, Nat.add_zero]
set_option maxRecDepth 100000 in
theorem psmalllaw_tri (s : List UInt8) : Tri Try.prog 12 [.one (.str s)] [] (.c (.one (.bo true))) [] := by
  refine tri_of (envOf_ok gp5_ok 38) Try.func12 rfl rfl (rs := [.tmp 2]) rfl rfl (by simp [envOf]) rfl [] ?_
  cases h0 : ((s.length : Int) == 0) with
  | true => simp only [envOf, gp5, tagC, pawakeC, h0, go_sem, reduceCtorEq, ↓reduceIte, Nat.reduceAdd, Nat.reduceMul, Nat.reduceSub, Nat.reduceEqDiff, Nat.reduceLT, Nat.reduceBEq, Nat.reduceBNe, Nat.reduceLeDiff, Int.reduceLE, Int.reduceLT, Int.reduceToNat, Int.reduceEq, Int.reduceAdd, UInt8.reduceToNat, UInt32.reduceToNat, UInt64.reduceToNat, UInt8.reduceOfNat, UInt32.reduceOfNat, UInt64.reduceOfNat, Fin.isValue, Int.reduceSub, Int.reduceMul, Int.reduceNeg, Int.reduceMod, Int.reduceDiv, Int.reduceTDiv, Int.reduceTMod, Int.reduceBEq, Int.reduceBNe, Nat.reduceDiv, Nat.reducePow]
  | false =>
    cases h1 : decide ((15 : Int) < s.length) with
    | true => simp only [envOf, gp5, tagC, pawakeC, h0, h1, go_sem, reduceCtorEq, ↓reduceIte, Nat.reduceAdd, Nat.reduceMul, Nat.reduceSub, Nat.reduceEqDiff, Nat.reduceLT, Nat.reduceBEq, Nat.reduceBNe, Nat.reduceLeDiff, Int.reduceLE, Int.reduceLT, Int.reduceToNat, Int.reduceEq, Int.reduceAdd, UInt8.reduceToNat, UInt32.reduceToNat, UInt64.reduceToNat, UInt8.reduceOfNat, UInt32.reduceOfNat, UInt64.reduceOfNat, Fin.isValue, Int.reduceSub, Int.reduceMul, Int.reduceNeg, Int.reduceMod, Int.reduceDiv, Int.reduceTDiv, Int.reduceTMod, Int.reduceBEq, Int.reduceBNe, Nat.reduceDiv, Nat.reducePow]
    | false =>
      have h0' : 0 < s.length := by have := ne_of_beq_false h0; omega
      have h1' : s.length ≤ 15 := by have := of_decide_eq_false h1; omega
      have hb : keyB ([1] ++ List.replicate 31 0) = true := by decide
      have ht := tag_small s h0' h1'
      have hw : IntKind.i64.wrap (15 - (s.length : Int)) = ((15 - s.length : Nat) : Int) := by rw [IntKind.wrap_i64]; omega
      simp only [List.cons_append, List.nil_append] at hb ht
      simp only [envOf, gp5, tagC, pawakeC, h0, h1, hb, ht, hw, toBytes_rep, take_rep, List.length_replicate, go_sem, reduceCtorEq, ↓reduceIte, Nat.reduceAdd, Nat.reduceMul, Nat.reduceSub, Nat.reduceEqDiff, Nat.reduceLT, Nat.reduceBEq, Nat.reduceBNe, Nat.reduceLeDiff, Int.reduceLE, Int.reduceLT, Int.reduceToNat, Int.reduceEq, Int.reduceAdd, UInt8.reduceToNat, UInt32.reduceToNat, UInt64.reduceToNat, UInt8.reduceOfNat, UInt32.reduceOfNat, UInt64.reduceOfNat, Fin.isValue, Int.reduceSub, Int.reduceMul, Int.reduceNeg, Int.reduceMod, Int.reduceDiv, Int.reduceTDiv, Int.reduceTMod, Int.reduceBEq, Int.reduceBNe, Nat.reduceDiv, Nat.reducePow]
      refine ⟨by omega, by omega, ⟨by omega, by omega, by omega⟩, ?_⟩
      rw [List.length_append]
      simp only [List.length_cons, List.length_nil]
      omega
theorem psmall_law (a : ByteArray) (wa : a.size ≤ maxLen) (w : World) :
    Calls Try.prog 12 #[.string a] w fun e w' => e = .returned (.bool true) ∧ Below w.heap.size w w' := by
  refine (tri_calls (psmalllaw_tri a.data.toList) w (vals := [.string a]) ⟨rfl, trivial⟩).mono ?_
  rintro e w' ⟨u, r', rfl, hr, hb⟩
  exact ⟨by rw [show u = .bool true from hr], hb⟩
end Go.Proofs.Ythgemadhhkocgaa
