/-
  The ladder of layer 4 over the numbers modulo the prime; what is 0 of it. It speaks of no program.
-/
import Derived.Test.YtdkmkifebhggeaaKv
namespace Go.Proofs.Ytdkmkifebhggeaa
open Go Go.RowKit
set_option maxHeartbeats 4000000
set_option linter.unusedSimpArgs false
set_option linter.unusedVariables false
set_option linter.unusedSectionVars false
theorem fn_add (n : Nat) [NeZero n] (a b : Nat) : Fin.ofNat n (a + b) = Fin.ofNat n a + Fin.ofNat n b := by
  apply Fin.ext
  rw [Fin.val_add]
  show (a + b) % n = (a % n + b % n) % n
  rw [Nat.add_mod]
theorem fn_mul (n : Nat) [NeZero n] (a b : Nat) : Fin.ofNat n (a * b) = Fin.ofNat n a * Fin.ofNat n b := by
  apply Fin.ext
  rw [Fin.val_mul]
  show (a * b) % n = (a % n * (b % n)) % n
  rw [Nat.mul_mod]
theorem fn_eq {n : Nat} [NeZero n] {a b : Nat} : Fin.ofNat n a = Fin.ofNat n b ↔ a % n = b % n :=
  ⟨fun h => congrArg Fin.val h, fun h => Fin.ext h⟩
theorem fn_sub (n : Nat) [NeZero n] {a b c : Nat} (h : (c + b) % n = a % n) : Fin.ofNat n c = Fin.ofNat n a - Fin.ofNat n b := by
  have e := fn_add n c b
  rw [fn_eq.2 h] at e
  rw [e]
  grind
structure P2 (n : Nat) where
  (x z : Fin n)
section
variable {n : Nat} [NeZero n]
def dbl (c : Fin n) (p : P2 n) : P2 n :=
  ⟨(p.x + p.z) * (p.x + p.z) * ((p.x - p.z) * (p.x - p.z)),
   ((p.x + p.z) * (p.x + p.z) - (p.x - p.z) * (p.x - p.z)) * ((p.x + p.z) * (p.x + p.z) + ((p.x + p.z) * (p.x + p.z) - (p.x - p.z) * (p.x - p.z)) * c)⟩
def sm (u : Fin n) (p q : P2 n) : P2 n :=
  ⟨((q.x - q.z) * (p.x + p.z) + (q.x + q.z) * (p.x - p.z)) * ((q.x - q.z) * (p.x + p.z) + (q.x + q.z) * (p.x - p.z)),
   u * (((q.x - q.z) * (p.x + p.z) - (q.x + q.z) * (p.x - p.z)) * ((q.x - q.z) * (p.x + p.z) - (q.x + q.z) * (p.x - p.z)))⟩
theorem sm_comm (u : Fin n) (p q : P2 n) : sm u p q = sm u q p := by
  unfold sm
  congr 1 <;> grind
theorem dbl_o (c : Fin n) (p : P2 n) (h : p.z = 0) : (dbl c p).z = 0 := by unfold dbl; simp only [h]; grind
theorem dbl_1 (c : Fin n) (p : P2 n) (h : p.x = p.z) : (dbl c p).x = 0 := by unfold dbl; simp only [h]; grind
theorem dbl_2 (c : Fin n) (p : P2 n) (h : p.x = 0) : (dbl c p).z = 0 := by unfold dbl; simp only [h]; grind
theorem sm_1 (p q : P2 n) (h : p.x = p.z) : (sm 1 p q).x = (sm 1 p q).z := by unfold sm; simp only [h]; grind
theorem sm_0 (p q : P2 n) : (sm 0 p q).z = 0 := by unfold sm; grind
/-- The ladder, bit by bit; A is so often the point, B once more. -/
def ladV (c u : Fin n) (bit : Nat → Bool) : Nat → P2 n × P2 n → P2 n × P2 n
  | 0, s => s
  | t + 1, s => ladV c u bit t (if bit t = true then (sm u s.1 s.2, dbl c s.2) else (dbl c s.1, sm u s.1 s.2))
/-- The same with both changed lately. -/
def ladS (c u : Fin n) (bit : Nat → Bool) : Nat → P2 n × P2 n × Bool → P2 n × P2 n × Bool
  | 0, s => s
  | t + 1, s => ladS c u bit t (if (s.2.2 != bit t) = true then (dbl c s.2.1, sm u s.2.1 s.1, bit t) else (dbl c s.1, sm u s.1 s.2.1, bit t))
def un (s : P2 n × P2 n × Bool) : P2 n × P2 n := if s.2.2 = true then (s.2.1, s.1) else (s.1, s.2.1)
theorem ladS_un (c u : Fin n) (bit : Nat → Bool) : ∀ (t : Nat) (s : P2 n × P2 n × Bool), un (ladS c u bit t s) = ladV c u bit t (un s)
  | 0, s => rfl
  | t + 1, (a, b, sw) => by
    rw [ladS, ladV, ladS_un c u bit t]
    congr 1
    cases sw <;> cases h : bit t <;> simp [un]
    all_goals exact sm_comm _ _ _
theorem ladS_sw (c u : Fin n) (bit : Nat → Bool) : ∀ (t : Nat) (s : P2 n × P2 n × Bool), (ladS c u bit (t + 1) s).2.2 = bit 0
  | 0, (a, b, sw) => by
    rw [ladS, ladS]; split <;> rfl
  | t + 1, s => by rw [ladS, ladS_sw c u bit t]
/-- Of 0: what stands below is always 0. -/
theorem ladV_0 (c : Fin n) (bit : Nat → Bool) : ∀ (t : Nat) (s : P2 n × P2 n), s.1.z = 0 → (s.2.z = 0 ∨ s.2.x = 0) → (ladV c 0 bit t s).1.z = 0
  | 0, s, h, _ => h
  | t + 1, (a, b), h, hb => by
    rw [ladV]
    cases bit t
    · exact ladV_0 c bit t _ (dbl_o c a h) (.inl (sm_0 _ _))
    · exact ladV_0 c bit t _ (sm_0 _ _) (.inl (hb.elim (dbl_o c b) (dbl_2 c b)))
def Odd (p : P2 n) : Prop := p.x = p.z
def Evn (p : P2 n) : Prop := p.x = 0 ∨ p.z = 0
theorem dbl_even (c : Fin n) {p : P2 n} (h : Odd p ∨ Evn p) : Evn (dbl c p) := by
  rcases h with h | h | h
  · exact .inl (dbl_1 c p h)
  · exact .inr (dbl_2 c p h)
  · exact .inr (dbl_o c p h)
theorem dbl_dbl (c : Fin n) {p : P2 n} (h : Odd p ∨ Evn p) : (dbl c (dbl c p)).z = 0 := by
  rcases dbl_even c h with h | h
  · exact dbl_2 c _ h
  · exact dbl_o c _ h
def Sh (s : P2 n × P2 n) : Prop := (Odd s.1 ∧ Evn s.2) ∨ (Evn s.1 ∧ Odd s.2)
theorem sh_step (c : Fin n) (s : P2 n × P2 n) (b : Bool) (h : Sh s) : Sh (if b = true then (sm 1 s.1 s.2, dbl c s.2) else (dbl c s.1, sm 1 s.1 s.2)) := by
  have ho : Odd (sm 1 s.1 s.2) := by
    rcases h with ⟨h, _⟩ | ⟨_, h⟩
    · exact sm_1 _ _ h
    · rw [sm_comm]; exact sm_1 _ _ h
  cases b
  · exact .inr ⟨dbl_even c (h.elim (fun h => .inl h.1) fun h => .inr h.1), ho⟩
  · exact .inl ⟨ho, dbl_even c (h.elim (fun h => .inr h.2) fun h => .inl h.2)⟩
theorem ladV_1 (c : Fin n) (bit : Nat → Bool) (h0 : bit 0 = false) (h1 : bit 1 = false) : ∀ (t : Nat) (s : P2 n × P2 n), Sh s → (ladV c 1 bit (t + 2) s).1.z = 0
  | 0, s, h => by
    rw [ladV, ladV, ladV, h0, h1]
    exact dbl_dbl c (h.elim (fun h => .inl h.1) fun h => .inr h.1)
  | t + 1, s, h => by rw [ladV]; exact ladV_1 c bit h0 h1 t _ (sh_step c s _ h)
end
section
variable {n : Nat} [NeZero n]
/-- To the power of 2^255 - 21. -/
def vinvR (a : Fin n) : Nat → Fin n → Fin n
  | 0, r => r
  | b + 1, r => vinvR a b (if b = 2 ∨ b = 4 then r * r else r * r * a)
theorem vinvR_0 : ∀ (t : Nat) (r : Fin n), vinvR 0 (t + 1) r = 0
  | 0, r => by
    rw [vinvR, vinvR, if_neg (by decide)]
    grind
  | t + 1, r => by rw [vinvR]; exact vinvR_0 t _
end
instance : NeZero p25519 := ⟨by decide⟩
def fv (x : N5) : Fin p25519 := Fin.ofNat p25519 x.w
theorem fv_eq {x y : N5} : fv x = fv y ↔ x.w % p25519 = y.w % p25519 := fn_eq
theorem fv_add (x y : N5) : fv (fadd x y) = fv x + fv y := by
  unfold fv; rw [← fn_add]; exact fn_eq.2 (fadd_mod x y)
theorem fv_mul (x y : N5) : fv (fmul x y) = fv x * fv y := by
  unfold fv; rw [← fn_mul]; exact fn_eq.2 (fmul_mod x y)
theorem fv_sub (x y : N5) : fv (fsub x y) = fv x - fv y := fn_sub _ (fsub_mod x y)
theorem fv_scale (x : N5) (k : UInt64) (hk : k.toNat < 4294967296) : fv (fscale x k) = fv x * Fin.ofNat p25519 k.toNat := by
  unfold fv; rw [← fn_mul]; exact fn_eq.2 (fscale_mod x k hk)
theorem fv_carry (x : N5) : fv (fcarry x) = fv x := fn_eq.2 (fcarry_mod x)
def oneF : N5 := ⟨1, 0, 0, 0, 0⟩
theorem fv_one : fv oneF = 1 := by decide +kernel
theorem fv_zero : fv zeroF = 0 := by decide +kernel
def invR (a : N5) : Nat → N5 → N5
  | 0, r => r
  | b + 1, r => invR a b (if b = 2 ∨ b = 4 then fmul r r else fmul (fmul r r) a)
theorem fv_invR (a : N5) : ∀ (t : Nat) (r : N5), fv (invR a t r) = vinvR (fv a) t (fv r)
  | 0, r => rfl
  | t + 1, r => by
    rw [invR, vinvR, fv_invR a t]
    congr 1
    split <;> simp only [fv_mul]
def finv (a : N5) : N5 := invR (fcarry a) 255 oneF
theorem fv_inv (a : N5) : fv (finv a) = vinvR (fv a) 255 1 := by
  unfold finv; rw [fv_invR, fv_carry, fv_one]
structure PN where
  (x z : N5)
def a24 : UInt64 := (121665 : UInt32).toUInt64
def dblN (p : PN) : PN :=
  ⟨fmul (fmul (fadd p.x p.z) (fadd p.x p.z)) (fmul (fsub p.x p.z) (fsub p.x p.z)),
   fmul (fsub (fmul (fadd p.x p.z) (fadd p.x p.z)) (fmul (fsub p.x p.z) (fsub p.x p.z))) (fadd (fmul (fadd p.x p.z) (fadd p.x p.z)) (fscale (fsub (fmul (fadd p.x p.z) (fadd p.x p.z)) (fmul (fsub p.x p.z) (fsub p.x p.z))) a24))⟩
def smN (u : N5) (p q : PN) : PN :=
  ⟨fmul (fadd (fmul (fsub q.x q.z) (fadd p.x p.z)) (fmul (fadd q.x q.z) (fsub p.x p.z))) (fadd (fmul (fsub q.x q.z) (fadd p.x p.z)) (fmul (fadd q.x q.z) (fsub p.x p.z))),
   fmul u (fmul (fsub (fmul (fsub q.x q.z) (fadd p.x p.z)) (fmul (fadd q.x q.z) (fsub p.x p.z))) (fsub (fmul (fsub q.x q.z) (fadd p.x p.z)) (fmul (fadd q.x q.z) (fsub p.x p.z))))⟩
def pv (p : PN) : P2 p25519 := ⟨fv p.x, fv p.z⟩
def c24 : Fin p25519 := Fin.ofNat p25519 121665
theorem pv_dbl (p : PN) : pv (dblN p) = dbl c24 (pv p) := by
  have h := fun x => fv_scale x a24 (by decide)
  have e : a24.toNat = 121665 := rfl
  unfold pv dblN dbl c24
  simp only [fv_mul, fv_add, fv_sub, h, e]
theorem pv_sm (u : N5) (p q : PN) : pv (smN u p q) = sm (fv u) (pv p) (pv q) := by
  unfold pv smN sm
  simp only [fv_mul, fv_add, fv_sub]
def stepS (u : N5) (bit : Bool) (s : PN × PN × Bool) : PN × PN × Bool :=
  if (s.2.2 != bit) = true then (dblN s.2.1, smN u s.2.1 s.1, bit) else (dblN s.1, smN u s.1 s.2.1, bit)
def climbS (u : N5) (bit : Nat → Bool) : Nat → PN × PN × Bool → PN × PN × Bool
  | 0, s => s
  | t + 1, s => climbS u bit t (stepS u (bit t) s)
def pvs (s : PN × PN × Bool) : P2 p25519 × P2 p25519 × Bool := (pv s.1, pv s.2.1, s.2.2)
theorem pvs_climb (u : N5) (bit : Nat → Bool) : ∀ (t : Nat) (s : PN × PN × Bool), pvs (climbS u bit t s) = ladS c24 (fv u) bit t (pvs s)
  | 0, s => rfl
  | t + 1, (a, b, sw) => by
    rw [climbS, ladS, pvs_climb u bit t]
    congr 1
    unfold stepS pvs
    cases sw <;> cases bit t <;> simp [pv_dbl, pv_sm]
def kbit (k : List UInt8) (t : Nat) : Bool := (shr8 (k.getD (t / 8) 0) (t % 8) &&& 1) == 1
def start (x : N5) : PN × PN × Bool := (⟨oneF, zeroF⟩, ⟨x, oneF⟩, false)
def endS (s : PN × PN × Bool) : N5 := fmul (if s.2.2 = true then s.2.1 else s.1).x (finv (if s.2.2 = true then s.2.1 else s.1).z)
def climbF (k : List UInt8) (x : N5) : N5 := endS (climbS x (kbit k) 255 (start x))
theorem fv_climb (k : List UInt8) (x : N5) : fv (climbF k x) = (ladV c24 (fv x) (kbit k) 255 (⟨1, 0⟩, ⟨fv x, 1⟩)).1.x * vinvR (ladV c24 (fv x) (kbit k) 255 (⟨1, 0⟩, ⟨fv x, 1⟩)).1.z 255 1 := by
  have h := pvs_climb x (kbit k) 255 (start x)
  have h2 := ladS_un c24 (fv x) (kbit k) 255 (pvs (start x))
  have h3 : un (pvs (start x)) = (⟨1, 0⟩, ⟨fv x, 1⟩) := by
    unfold un pvs start pv
    simp only [fv_one, fv_zero]
    rfl
  rw [h3, ← h] at h2
  rw [← h2]
  unfold climbF endS
  rw [fv_mul, fv_inv]
  generalize climbS x (kbit k) 255 (start x) = s
  obtain ⟨a, b, sw⟩ := s
  cases sw <;> rfl
theorem climb_z {k : List UInt8} {x : N5} (h : (ladV c24 (fv x) (kbit k) 255 (⟨1, 0⟩, ⟨fv x, 1⟩)).1.z = 0) : bytesF (climbF k x) = bytesF zeroF := by
  apply bytesF_congr
  apply fv_eq.1
  rw [fv_climb, h, vinvR_0, fv_zero]
  grind
theorem climb_0 (k : List UInt8) (x : N5) (h : fv x = 0) : bytesF (climbF k x) = bytesF zeroF := by
  apply climb_z
  rw [h]
  exact ladV_0 _ _ _ _ rfl (.inr rfl)
theorem climb_1 (k : List UInt8) (x : N5) (h : fv x = 1) (h0 : kbit k 0 = false) (h1 : kbit k 1 = false) : bytesF (climbF k x) = bytesF zeroF := by
  apply climb_z
  rw [h]
  exact ladV_1 _ _ h0 h1 253 _ (.inr ⟨.inr rfl, rfl⟩)
theorem climb_congr {k : List UInt8} {x y : N5} (h : fv x = fv y) : bytesF (climbF k x) = bytesF (climbF k y) := by
  apply bytesF_congr
  apply fv_eq.1
  rw [fv_climb, fv_climb, h]
end Go.Proofs.Ytdkmkifebhggeaa
