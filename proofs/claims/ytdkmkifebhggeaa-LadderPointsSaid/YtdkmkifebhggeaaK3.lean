/-
  Layer 4: the document's ladder, walked, and its value; the law LadderPoints.
-/
import Derived.Test.YtdkmkifebhggeaaK7
namespace Go.Proofs.Ytdkmkifebhggeaa
open Go Go.RowKit
set_option maxHeartbeats 400000
set_option linter.unusedSectionVars false
set_option linter.unusedSimpArgs false
set_option linter.unusedVariables false
structure R4 where
  (px pz qx qz : List Nat)
structure good4 (s : R4) : Prop where
  px : goodR s.px
  pz : goodR s.pz
  qx : goodR s.qx
  qz : goodR s.qz
def stepR (x : List Nat) (bit : Bool) (s : R4) : R4 :=
  if bit = true then ⟨bX s.px s.pz s.qx s.qz, bZ s.px s.pz s.qx s.qz x, tX s.qx s.qz, tZ s.qx s.qz⟩ else ⟨tX s.px s.pz, tZ s.px s.pz, bX s.px s.pz s.qx s.qz, bZ s.px s.pz s.qx s.qz x⟩
def ladR (x : List Nat) (bit : Nat → Bool) : Nat → R4 → R4
  | 0, s => s
  | t + 1, s => ladR x bit t (stepR x (bit t) s)
def startR (x : List Nat) : R4 := ⟨smallL 1, smallL 0, x, smallL 1⟩
theorem good_bX {a b c d : List Nat} (ha : goodR a) (hb : goodR b) (hc : goodR c) (hd : goodR d) : goodR (bX a b c d) := by
  have h := ((hc.sub hd).mul (ha.add hb)).add ((hc.add hd).mul (ha.sub hb))
  unfold bX bM bN
  exact h.mul h
theorem good_bZ {a b c d x : List Nat} (ha : goodR a) (hb : goodR b) (hc : goodR c) (hd : goodR d) (hx : goodR x) : goodR (bZ a b c d x) := by
  have h := ((hc.sub hd).mul (ha.add hb)).sub ((hc.add hd).mul (ha.sub hb))
  unfold bZ bM bN
  exact hx.mul (h.mul h)
theorem good_tX {a b : List Nat} (ha : goodR a) (hb : goodR b) : goodR (tX a b) := by
  have h1 := ha.add hb
  have h2 := ha.sub hb
  unfold tX tA tB
  exact (h1.mul h1).mul (h2.mul h2)
theorem good_tE {a b : List Nat} (ha : goodR a) (hb : goodR b) : goodR (tE a b) := by
  have h1 := ha.add hb
  have h2 := ha.sub hb
  unfold tE tA tB
  exact (h1.mul h1).sub (h2.mul h2)
theorem good_tZ {a b : List Nat} (ha : goodR a) (hb : goodR b) : goodR (tZ a b) := by
  have h1 := ha.add hb
  have h3 := good_tE ha hb
  have h4 := (small_good 121665 (by decide)).1
  unfold tZ tA
  exact h3.mul ((h1.mul h1).add (h4.mul h3))
section
variable {n : Nat} [NeZero n]
theorem dbl_x (c a b : Fin n) : (dbl c ⟨a, b⟩).x = (a + b) * (a + b) * ((a - b) * (a - b)) := rfl
theorem dbl_z (c a b : Fin n) : (dbl c ⟨a, b⟩).z = ((a + b) * (a + b) - (a - b) * (a - b)) * ((a + b) * (a + b) + c * ((a + b) * (a + b) - (a - b) * (a - b))) := by
  show ((a + b) * (a + b) - (a - b) * (a - b)) * ((a + b) * (a + b) + ((a + b) * (a + b) - (a - b) * (a - b)) * c) = _
  grind
theorem sm_x (u a b c d : Fin n) : (sm u ⟨a, b⟩ ⟨c, d⟩).x = ((c - d) * (a + b) + (c + d) * (a - b)) * ((c - d) * (a + b) + (c + d) * (a - b)) := rfl
theorem sm_z (u a b c d : Fin n) : (sm u ⟨a, b⟩ ⟨c, d⟩).z = u * (((c - d) * (a + b) - (c + d) * (a - b)) * ((c - d) * (a + b) - (c + d) * (a - b))) := rfl
theorem p2_eta (q : P2 n) {a b : Fin n} (h1 : a = q.x) (h2 : b = q.z) : (⟨a, b⟩ : P2 n) = q := by
  cases q; simp only at h1 h2; rw [h1, h2]
end
theorem good4_mk {a b c d : List Nat} (ha : goodR a) (hb : goodR b) (hc : goodR c) (hd : goodR d) : good4 ⟨a, b, c, d⟩ := ⟨ha, hb, hc, hd⟩
theorem good_step {x : List Nat} (hx : goodR x) (bit : Bool) (s : R4) (h : good4 s) : good4 (stepR x bit s) := by
  have a1 := good_tX h.px h.pz
  have a2 := good_tZ h.px h.pz
  have a3 := good_bX h.px h.pz h.qx h.qz
  have a4 := good_bZ h.px h.pz h.qx h.qz hx
  have a5 := good_tX h.qx h.qz
  have a6 := good_tZ h.qx h.qz
  unfold stepR
  cases bit
  · rw [if_neg (by decide)]
    exact good4_mk a1 a2 a3 a4
  · rw [if_pos rfl]
    exact good4_mk a3 a4 a5 a6
theorem good_lad {x : List Nat} (hx : goodR x) (bit : Nat → Bool) : ∀ (t : Nat) (s : R4), good4 s → good4 (ladR x bit t s)
  | 0, s, h => h
  | t + 1, s, h => by rw [ladR]; exact good_lad hx bit t _ (good_step hx _ s h)
theorem fw_bX {a b c d : List Nat} (ha : goodR a) (hb : goodR b) (hc : goodR c) (hd : goodR d) : fw (bX a b c d) = ((fw c - fw d) * (fw a + fw b) + (fw c + fw d) * (fw a - fw b)) * ((fw c - fw d) * (fw a + fw b) + (fw c + fw d) * (fw a - fw b)) := by
  have h := ((hc.sub hd).mul (ha.add hb)).add ((hc.add hd).mul (ha.sub hb))
  unfold bX bM bN
  rw [fw_mul h h, fw_add ((hc.sub hd).mul (ha.add hb)) ((hc.add hd).mul (ha.sub hb)), fw_mul (hc.sub hd) (ha.add hb), fw_mul (hc.add hd) (ha.sub hb), fw_sub hc hd, fw_add ha hb, fw_add hc hd, fw_sub ha hb]
theorem fw_bZ {a b c d x : List Nat} (ha : goodR a) (hb : goodR b) (hc : goodR c) (hd : goodR d) (hx : goodR x) : fw (bZ a b c d x) = fw x * (((fw c - fw d) * (fw a + fw b) - (fw c + fw d) * (fw a - fw b)) * ((fw c - fw d) * (fw a + fw b) - (fw c + fw d) * (fw a - fw b))) := by
  have h := ((hc.sub hd).mul (ha.add hb)).sub ((hc.add hd).mul (ha.sub hb))
  unfold bZ bM bN
  rw [fw_mul hx (h.mul h), fw_mul h h, fw_sub ((hc.sub hd).mul (ha.add hb)) ((hc.add hd).mul (ha.sub hb)), fw_mul (hc.sub hd) (ha.add hb), fw_mul (hc.add hd) (ha.sub hb), fw_sub hc hd, fw_add ha hb, fw_add hc hd, fw_sub ha hb]
theorem fw_tA {a b : List Nat} (ha : goodR a) (hb : goodR b) : fw (tA a b) = (fw a + fw b) * (fw a + fw b) := by unfold tA; rw [fw_mul (ha.add hb) (ha.add hb), fw_add ha hb]
theorem fw_tB {a b : List Nat} (ha : goodR a) (hb : goodR b) : fw (tB a b) = (fw a - fw b) * (fw a - fw b) := by unfold tB; rw [fw_mul (ha.sub hb) (ha.sub hb), fw_sub ha hb]
theorem fw_tX {a b : List Nat} (ha : goodR a) (hb : goodR b) : fw (tX a b) = (dbl c24 ⟨fw a, fw b⟩).x := by
  have hA : goodR (tA a b) := by unfold tA; exact (ha.add hb).mul (ha.add hb)
  have hB : goodR (tB a b) := by unfold tB; exact (ha.sub hb).mul (ha.sub hb)
  rw [dbl_x]
  unfold tX
  rw [fw_mul hA hB, fw_tA ha hb, fw_tB ha hb]
theorem fw_tE {a b : List Nat} (ha : goodR a) (hb : goodR b) : fw (tE a b) = (fw a + fw b) * (fw a + fw b) - (fw a - fw b) * (fw a - fw b) := by
  have hA : goodR (tA a b) := by unfold tA; exact (ha.add hb).mul (ha.add hb)
  have hB : goodR (tB a b) := by unfold tB; exact (ha.sub hb).mul (ha.sub hb)
  unfold tE
  rw [fw_sub hA hB, fw_tA ha hb, fw_tB ha hb]
theorem fw_tZ {a b : List Nat} (ha : goodR a) (hb : goodR b) : fw (tZ a b) = (dbl c24 ⟨fw a, fw b⟩).z := by
  have he := good_tE ha hb
  have hA : goodR (tA a b) := by unfold tA; exact (ha.add hb).mul (ha.add hb)
  have hs := (small_good 121665 (by decide)).1
  have hc : fw (smallL 121665) = c24 := fw_small 121665 (by decide)
  rw [dbl_z]
  unfold tZ
  rw [fw_mul he (hA.add (hs.mul he)), fw_add hA (hs.mul he), fw_mul hs he, fw_tA ha hb, fw_tE ha hb, hc]
theorem fw_bX' {a b c d : List Nat} (u : Fin p25519) (ha : goodR a) (hb : goodR b) (hc : goodR c) (hd : goodR d) : fw (bX a b c d) = (sm u ⟨fw a, fw b⟩ ⟨fw c, fw d⟩).x := by
  rw [sm_x]; exact fw_bX ha hb hc hd
theorem fw_bZ' {a b c d x : List Nat} (ha : goodR a) (hb : goodR b) (hc : goodR c) (hd : goodR d) (hx : goodR x) : fw (bZ a b c d x) = (sm (fw x) ⟨fw a, fw b⟩ ⟨fw c, fw d⟩).z := by
  rw [sm_z]; exact fw_bZ ha hb hc hd hx
def pvR (s : R4) : P2 p25519 × P2 p25519 := (⟨fw s.px, fw s.pz⟩, ⟨fw s.qx, fw s.qz⟩)
theorem pvR_x (s : R4) : (pvR s).1.x = fw s.px := rfl
theorem pvR_z (s : R4) : (pvR s).1.z = fw s.pz := rfl
theorem pv_stepR {x : List Nat} (hx : goodR x) (bit : Bool) (s : R4) (h : good4 s) : pvR (stepR x bit s) = if bit = true then (sm (fw x) (pvR s).1 (pvR s).2, dbl c24 (pvR s).2) else (dbl c24 (pvR s).1, sm (fw x) (pvR s).1 (pvR s).2) := by
  obtain ⟨h1, h2, h3, h4⟩ := h
  have e1 : (⟨fw (tX s.px s.pz), fw (tZ s.px s.pz)⟩ : P2 p25519) = dbl c24 ⟨fw s.px, fw s.pz⟩ := p2_eta _ (fw_tX h1 h2) (fw_tZ h1 h2)
  have e2 : (⟨fw (tX s.qx s.qz), fw (tZ s.qx s.qz)⟩ : P2 p25519) = dbl c24 ⟨fw s.qx, fw s.qz⟩ := p2_eta _ (fw_tX h3 h4) (fw_tZ h3 h4)
  have e3 : (⟨fw (bX s.px s.pz s.qx s.qz), fw (bZ s.px s.pz s.qx s.qz x)⟩ : P2 p25519) = sm (fw x) ⟨fw s.px, fw s.pz⟩ ⟨fw s.qx, fw s.qz⟩ := p2_eta _ (fw_bX' (fw x) h1 h2 h3 h4) (fw_bZ' h1 h2 h3 h4 hx)
  unfold stepR pvR
  cases bit
  · simp only [Bool.false_eq_true, if_false]
    rw [e1, e3]
  · simp only [if_true]
    rw [e2, e3]
theorem pv_ladR {x : List Nat} (hx : goodR x) (bit : Nat → Bool) : ∀ (t : Nat) (s : R4), good4 s → pvR (ladR x bit t s) = ladV c24 (fw x) bit t (pvR s)
  | 0, s, h => rfl
  | t + 1, s, h => by rw [ladR, ladV, pv_ladR hx bit t _ (good_step hx _ s h), pv_stepR hx _ s h]
theorem good_start {x : List Nat} (hx : goodR x) : good4 (startR x) := good4_mk (small_good 1 (by decide)).1 (small_good 0 (by decide)).1 hx (small_good 1 (by decide)).1
def pointW (k u : List UInt8) : List Nat := rMul (ladR (ofRow u) (kbit k) 255 (startR (ofRow u))).px (powRow (ladR (ofRow u) (kbit k) 255 (startR (ofRow u))).pz)
def pointR (k u : List UInt8) : List UInt8 := outW (pointW k u) 16
theorem pointW_good (k u : List UInt8) : goodR (pointW k u) := by
  have h := good_lad (of_good u) (kbit k) 255 _ (good_start (of_good u))
  unfold pointW
  exact h.px.mul (pow_good h.pz).1
theorem pointR_eq (k u : List UInt8) (hu : u.length = 32) : pointR k u = bytesF (climbF k (ofN u)) := by
  refine bytes_eq (pointW_good k u) ?_
  have h := good_lad (of_good u) (kbit k) 255 _ (good_start (of_good u))
  have hl := pv_ladR (of_good u) (kbit k) 255 _ (good_start (of_good u))
  have hs : pvR (startR (ofRow u)) = (⟨1, 0⟩, ⟨fw (ofRow u), 1⟩) := by
    have o1 : fw (smallL 1) = 1 := (fw_small 1 (by decide)).trans (by decide +kernel)
    have o0 : fw (smallL 0) = 0 := (fw_small 0 (by decide)).trans (by decide +kernel)
    unfold pvR startR
    simp only [o1, o0]
  rw [hs, fw_of u hu] at hl
  rw [fv_climb]
  unfold pointW
  rw [fw_mul h.px (pow_good h.pz).1, (pow_good h.pz).2, ← hl, pvR_x, pvR_z]
theorem kbit_div (k : List UInt8) (t : Nat) : ((((k.getD (t / 8) 0).toNat / 2 ^ (t % 8) % 2 : Nat) : Int) == 1) = kbit k t := by
  have h : ∀ n : Fin 256, ∀ m : Fin 8, (((n.val / 2 ^ m.val % 2 : Nat) : Int) == 1) = ((shr8 (UInt8.ofNat n.val) m.val &&& 1) == 1) := by decide +kernel
  have := h ⟨(k.getD (t / 8) 0).toNat, (k.getD (t / 8) 0).toNat_lt⟩ ⟨t % 8, Nat.mod_lt _ (by decide)⟩
  simp only [UInt8.ofNat_toNat] at this
  exact this
end Go.Proofs.Ytdkmkifebhggeaa
