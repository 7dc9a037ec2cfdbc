/-
  The curve of Edwards, and the ladder over it: scalars change places. It speaks of no program.
-/
import Derived.Test.YtdkmkifebhggeaaKa
namespace Go.Proofs.Ytdkmkifebhggeaa
open Go Go.RowKit
set_option maxHeartbeats 4000000
set_option linter.unusedSimpArgs false
set_option linter.unusedVariables false
set_option linter.unusedSectionVars false
-- THE CURVE OF EDWARDS
section
set_option linter.unusedSectionVars false
variable {n : Nat} [NeZero n]
structure Fld (inv : Fin n → Fin n) : Prop where
  mul : ∀ a, a ≠ 0 → a * inv a = 1
  zero : inv 0 = 0
  two : (1 + 1 : Fin n) ≠ 0
theorem fl_cancel0 {a b c i : Fin n} (h : c * i = 1) (e : a * c = b * c) : a = b := by grind
theorem Fld.cancel {inv : Fin n → Fin n} (h : Fld inv) {a b c : Fin n} (hc : c ≠ 0) (e : a * c = b * c) : a = b := fl_cancel0 (h.mul c hc) e
theorem Fld.nz {inv : Fin n → Fin n} (h : Fld inv) {a b : Fin n} (ha : a ≠ 0) (hb : b ≠ 0) : a * b ≠ 0 := fun e => hb (h.cancel ha (by grind))
theorem Fld.one {inv : Fin n → Fin n} (h : Fld inv) : (1 : Fin n) ≠ 0 := fun e => h.two (by grind)
structure EP (n : Nat) where
  (x y : Fin n)
def On (D : Fin n) (P : EP n) : Prop := P.x * P.x + P.y * P.y = 1 + D * (P.x * P.x * P.y * P.y)
def NSq (D : Fin n) : Prop := ∀ s, D ≠ s * s
theorem NSq.nz {D : Fin n} (h : NSq D) : D ≠ 0 := fun e => h 0 (by rw [e]; grind)
theorem ed_C1 (x1 y1 x2 y2 D e : Fin n) (he : e * e = 1) (ht : D * (x1*x2*y1*y2) = e) (h1 : x1*x1+y1*y1 = 1 + D*(x1*x1*y1*y1)) (h2 : x2*x2+y2*y2 = 1 + D*(x2*x2*y2*y2)) :
  D * ((x1*y1*(x2+y2)) * (x1*y1*(x2+y2))) = (x1 + e*y1)*(x1+e*y1) := by grind
theorem ed_C2 (x1 y1 x2 y2 D e : Fin n) (he : e * e = 1) (ht : D * (x1*x2*y1*y2) = e) (h1 : x1*x1+y1*y1 = 1 + D*(x1*x1*y1*y1)) (h2 : x2*x2+y2*y2 = 1 + D*(x2*x2*y2*y2)) :
  D * ((x1*y1*(x2-y2)) * (x1*y1*(x2-y2))) = (x1 - e*y1)*(x1-e*y1) := by grind
theorem ed_sq {D a b i : Fin n} (h1 : D * (b * b) = a * a) (h2 : b * i = 1) : D = (a * i) * (a * i) := by grind
theorem ed_e0 {x1 y1 x2 y2 D e : Fin n} (ht : D * (x1*x2*y1*y2) = e) (b : x1*y1*(x2+y2) = 0) (d : x1*y1*(x2-y2) = 0) : e * (1 + 1) = 0 := by grind
theorem ed_complete {inv : Fin n → Fin n} (h : Fld inv) {D : Fin n} (hD : NSq D) {P Q : EP n} (o1 : On D P) (o2 : On D Q) {e : Fin n} (he : e * e = 1) : D * (P.x*Q.x*P.y*Q.y) ≠ e := by
  intro ht
  have c1 := ed_C1 P.x P.y Q.x Q.y D e he ht o1 o2
  have c2 := ed_C2 P.x P.y Q.x Q.y D e he ht o1 o2
  by_cases b : P.x*P.y*(Q.x+Q.y) = 0
  · by_cases d : P.x*P.y*(Q.x-Q.y) = 0
    · have e0 : e ≠ 0 := fun h0 => h.one (by rw [h0] at he; grind)
      exact h.nz e0 h.two (ed_e0 ht b d)
    · exact hD _ (ed_sq c2 (h.mul _ d))
  · exact hD _ (ed_sq c1 (h.mul _ b))
theorem ed_p {inv : Fin n → Fin n} (h : Fld inv) {D : Fin n} (hD : NSq D) {P Q : EP n} (o1 : On D P) (o2 : On D Q) : 1 + D * (P.x*Q.x*P.y*Q.y) ≠ 0 := fun h0 =>
  ed_complete h hD o1 o2 (e := -1) (by grind) (by grind)
theorem ed_m {inv : Fin n → Fin n} (h : Fld inv) {D : Fin n} (hD : NSq D) {P Q : EP n} (o1 : On D P) (o2 : On D Q) : 1 - D * (P.x*Q.x*P.y*Q.y) ≠ 0 := fun h0 =>
  ed_complete h hD o1 o2 (e := 1) (by grind) (by grind)
def eadd (inv : Fin n → Fin n) (D : Fin n) (P Q : EP n) : EP n := ⟨(P.x*Q.y + P.y*Q.x) * inv (1 + D*(P.x*Q.x*P.y*Q.y)), (P.y*Q.y - P.x*Q.x) * inv (1 - D*(P.x*Q.x*P.y*Q.y))⟩
theorem ed_mul {a d i : Fin n} (h : d * i = 1) : a * i * d = a := by grind
theorem eadd_x {inv : Fin n → Fin n} (h : Fld inv) {D : Fin n} (hD : NSq D) {P Q : EP n} (o1 : On D P) (o2 : On D Q) : (eadd inv D P Q).x * (1 + D*(P.x*Q.x*P.y*Q.y)) = P.x*Q.y + P.y*Q.x := ed_mul (h.mul _ (ed_p h hD o1 o2))
theorem eadd_y {inv : Fin n → Fin n} (h : Fld inv) {D : Fin n} (hD : NSq D) {P Q : EP n} (o1 : On D P) (o2 : On D Q) : (eadd inv D P Q).y * (1 - D*(P.x*Q.x*P.y*Q.y)) = P.y*Q.y - P.x*Q.x := ed_mul (h.mul _ (ed_m h hD o1 o2))
theorem on_di {D i x y : Fin n} (hd : D * i = 1) (h : x*x + y*y = 1 + D*(x*x*y*y)) : x*x*y*y = i * (x*x + y*y - 1) := by grind
theorem ed_K1 (x1 y1 x2 y2 D Di : Fin n) (hd : D * Di = 1) (h1 : x1*x1*y1*y1 = Di*(x1*x1+y1*y1-1)) (h2 : x2*x2*y2*y2 = Di*(x2*x2+y2*y2-1)) :
  (x1*y2+y1*x2)*(x1*y2+y1*x2)*((1-D*(x1*x2*y1*y2))*(1-D*(x1*x2*y1*y2))) + (y1*y2-x1*x2)*(y1*y2-x1*x2)*((1+D*(x1*x2*y1*y2))*(1+D*(x1*x2*y1*y2)))
  = (1+D*(x1*x2*y1*y2))*(1+D*(x1*x2*y1*y2))*((1-D*(x1*x2*y1*y2))*(1-D*(x1*x2*y1*y2))) + D*((x1*y2+y1*x2)*(x1*y2+y1*x2)*(y1*y2-x1*x2)*(y1*y2-x1*x2)) := by grind
theorem on_of {x y p m X Y D : Fin n} (hx : x*p = X) (hy : y*m = Y) (k : X*X*(m*m) + Y*Y*(p*p) = p*p*(m*m) + D*(X*X*Y*Y)) : (x*x+y*y)*(p*m*(p*m)) = (1+D*(x*x*y*y))*(p*m*(p*m)) := by
  subst hx; subst hy; grind
theorem eadd_on {inv : Fin n → Fin n} (h : Fld inv) {D : Fin n} (hD : NSq D) {P Q : EP n} (o1 : On D P) (o2 : On D Q) : On D (eadd inv D P Q) := by
  have hd := h.mul D hD.nz
  have k := ed_K1 P.x P.y Q.x Q.y D (inv D) hd (on_di hd o1) (on_di hd o2)
  have p := ed_p h hD o1 o2
  have m := ed_m h hD o1 o2
  exact h.cancel (h.nz (h.nz p m) (h.nz p m)) (on_of (eadd_x h hD o1 o2) (eadd_y h hD o1 o2) k)
theorem ed_G1 (x1 y1 x2 y2 x3 y3 D Di : Fin n) (hd : D * Di = 1) (h1 : x1*x1*y1*y1 = Di*(x1*x1+y1*y1-1)) (h2 : x2*x2*y2*y2 = Di*(x2*x2+y2*y2-1)) (h3 : x3*x3*y3*y3 = Di*(x3*x3+y3*y3-1)) :
  ((x1*y2+y1*x2)*(1-D*(x1*x2*y1*y2))*y3 + (y1*y2-x1*x2)*(1+D*(x1*x2*y1*y2))*x3) * ((1+D*(x2*x3*y2*y3))*(1-D*(x2*x3*y2*y3)) + D*((x2*y3+y2*x3)*(y2*y3-x2*x3)*x1*y1))
  = (x1*((y2*y3-x2*x3)*(1+D*(x2*x3*y2*y3))) + y1*((x2*y3+y2*x3)*(1-D*(x2*x3*y2*y3)))) * ((1+D*(x1*x2*y1*y2))*(1-D*(x1*x2*y1*y2)) + D*((x1*y2+y1*x2)*(y1*y2-x1*x2)*x3*y3)) := by grind
theorem ed_G2 (x1 y1 x2 y2 x3 y3 D Di : Fin n) (hd : D * Di = 1) (h1 : x1*x1*y1*y1 = Di*(x1*x1+y1*y1-1)) (h2 : x2*x2*y2*y2 = Di*(x2*x2+y2*y2-1)) (h3 : x3*x3*y3*y3 = Di*(x3*x3+y3*y3-1)) :
  ((y1*y2-x1*x2)*(1+D*(x1*x2*y1*y2))*y3 - (x1*y2+y1*x2)*(1-D*(x1*x2*y1*y2))*x3) * ((1+D*(x2*x3*y2*y3))*(1-D*(x2*x3*y2*y3)) - D*((x2*y3+y2*x3)*(y2*y3-x2*x3)*x1*y1))
  = (y1*((y2*y3-x2*x3)*(1+D*(x2*x3*y2*y3))) - x1*((x2*y3+y2*x3)*(1-D*(x2*x3*y2*y3)))) * ((1+D*(x1*x2*y1*y2))*(1-D*(x1*x2*y1*y2)) - D*((x1*y2+y1*x2)*(y1*y2-x1*x2)*x3*y3)) := by grind
theorem ed_l1 {l a b p m X Y x y D : Fin n} (h : l * (1 + D*(a*x*b*y)) = a*y + b*x) (hx : a*p = X) (hy : b*m = Y) : l * (p*m + D*(X*Y*x*y)) = X*m*y + Y*p*x ∧ p*m + D*(X*Y*x*y) = p*m*(1 + D*(a*x*b*y)) := by
  subst hx; subst hy; constructor <;> grind
theorem ed_l2 {l a b p m X Y x y D : Fin n} (h : l * (1 - D*(a*x*b*y)) = b*y - a*x) (hx : a*p = X) (hy : b*m = Y) : l * (p*m - D*(X*Y*x*y)) = Y*p*y - X*m*x ∧ p*m - D*(X*Y*x*y) = p*m*(1 - D*(a*x*b*y)) := by
  subst hx; subst hy; constructor <;> grind
theorem ed_r1 {l a b p m X Y x y D : Fin n} (h : l * (1 + D*(x*a*y*b)) = x*b + y*a) (hx : a*p = X) (hy : b*m = Y) : l * (p*m + D*(X*Y*x*y)) = x*(Y*p) + y*(X*m) ∧ p*m + D*(X*Y*x*y) = p*m*(1 + D*(x*a*y*b)) := by
  subst hx; subst hy; constructor <;> grind
theorem ed_r2 {l a b p m X Y x y D : Fin n} (h : l * (1 - D*(x*a*y*b)) = y*b - x*a) (hx : a*p = X) (hy : b*m = Y) : l * (p*m - D*(X*Y*x*y)) = y*(Y*p) - x*(X*m) ∧ p*m - D*(X*Y*x*y) = p*m*(1 - D*(x*a*y*b)) := by
  subst hx; subst hy; constructor <;> grind
theorem ed_join {l r N1 N2 E1 E2 : Fin n} (h1 : l * E1 = N1) (h2 : r * E2 = N2) (g : N1 * E2 = N2 * E1) : l * (E1 * E2) = r * (E1 * E2) := by grind
theorem EP.ext' {P Q : EP n} (h1 : P.x = Q.x) (h2 : P.y = Q.y) : P = Q := by cases P; cases Q; simp only at h1 h2; rw [h1, h2]
theorem nz_of {a b : Fin n} (e : a = b) (h : b ≠ 0) : a ≠ 0 := by rw [e]; exact h
theorem eadd_assoc {inv : Fin n → Fin n} (h : Fld inv) {D : Fin n} (hD : NSq D) {P Q R : EP n} (o1 : On D P) (o2 : On D Q) (o3 : On D R) : eadd inv D (eadd inv D P Q) R = eadd inv D P (eadd inv D Q R) := by
  have hd := h.mul D hD.nz
  have d1 := on_di hd o1
  have d2 := on_di hd o2
  have d3 := on_di hd o3
  have oa := eadd_on h hD o1 o2
  have ob := eadd_on h hD o2 o3
  have pa := ed_p h hD o1 o2
  have ma := ed_m h hD o1 o2
  have pb := ed_p h hD o2 o3
  have mb := ed_m h hD o2 o3
  have ax := eadd_x h hD o1 o2
  have ay := eadd_y h hD o1 o2
  have bx := eadd_x h hD o2 o3
  have by' := eadd_y h hD o2 o3
  obtain ⟨l1, l2⟩ := ed_l1 (eadd_x h hD oa o3) ax ay
  obtain ⟨l3, l4⟩ := ed_l2 (eadd_y h hD oa o3) ax ay
  obtain ⟨r1, r2⟩ := ed_r1 (eadd_x h hD o1 ob) bx by'
  obtain ⟨r3, r4⟩ := ed_r2 (eadd_y h hD o1 ob) bx by'
  have n1 := nz_of l2 (h.nz (h.nz pa ma) (ed_p h hD oa o3))
  have n2 := nz_of r2 (h.nz (h.nz pb mb) (ed_p h hD o1 ob))
  have n3 := nz_of l4 (h.nz (h.nz pa ma) (ed_m h hD oa o3))
  have n4 := nz_of r4 (h.nz (h.nz pb mb) (ed_m h hD o1 ob))
  exact EP.ext' (h.cancel (h.nz n1 n2) (ed_join l1 r1 (ed_G1 P.x P.y Q.x Q.y R.x R.y D (inv D) hd d1 d2 d3))) (h.cancel (h.nz n3 n4) (ed_join l3 r3 (ed_G2 P.x P.y Q.x Q.y R.x R.y D (inv D) hd d1 d2 d3)))
def eO : EP n := ⟨0, 1⟩
theorem eO_on (D : Fin n) : On D eO := by show (0 : Fin n) * 0 + 1 * 1 = 1 + D * (0 * 0 * 1 * 1); grind
theorem inv_1 {inv : Fin n → Fin n} (h : Fld inv) : inv 1 = 1 := by have := h.mul 1 h.one; grind
theorem eadd_O {inv : Fin n → Fin n} (h : Fld inv) (D : Fin n) (P : EP n) : eadd inv D P eO = P := by
  have e1 : 1 + D * (P.x * 0 * P.y * 1) = 1 := by grind
  have e2 : 1 - D * (P.x * 0 * P.y * 1) = 1 := by grind
  refine EP.ext' ?_ ?_
  · show (P.x * 1 + P.y * 0) * inv (1 + D * (P.x * 0 * P.y * 1)) = P.x
    rw [e1, inv_1 h]; grind
  · show (P.y * 1 - P.x * 0) * inv (1 - D * (P.x * 0 * P.y * 1)) = P.y
    rw [e2, inv_1 h]; grind
theorem eadd_comm (inv : Fin n → Fin n) (D : Fin n) (P Q : EP n) : eadd inv D P Q = eadd inv D Q P := by
  have e1 : 1 + D * (P.x * Q.x * P.y * Q.y) = 1 + D * (Q.x * P.x * Q.y * P.y) := by grind
  have e2 : 1 - D * (P.x * Q.x * P.y * Q.y) = 1 - D * (Q.x * P.x * Q.y * P.y) := by grind
  refine EP.ext' ?_ ?_
  · show (P.x*Q.y + P.y*Q.x) * inv (1 + D * (P.x * Q.x * P.y * Q.y)) = (Q.x*P.y + Q.y*P.x) * inv (1 + D * (Q.x * P.x * Q.y * P.y))
    rw [e1]; grind
  · show (P.y*Q.y - P.x*Q.x) * inv (1 - D * (P.x * Q.x * P.y * Q.y)) = (Q.y*P.y - Q.x*P.x) * inv (1 - D * (Q.x * P.x * Q.y * P.y))
    rw [e2]; grind
def eneg (P : EP n) : EP n := ⟨-P.x, P.y⟩
theorem eneg_on {D : Fin n} {P : EP n} (h : On D P) : On D (eneg P) := by
  have h : P.x * P.x + P.y * P.y = 1 + D * (P.x * P.x * P.y * P.y) := h
  show -P.x * -P.x + P.y * P.y = 1 + D * (-P.x * -P.x * P.y * P.y)
  grind
theorem eadd_neg {inv : Fin n → Fin n} (h : Fld inv) {D : Fin n} (hD : NSq D) {P : EP n} (o : On D P) : eadd inv D P (eneg P) = eO := by
  have hy := eadd_y h hD o (eneg_on o)
  have hm := ed_m h hD o (eneg_on o)
  have o' : P.x * P.x + P.y * P.y = 1 + D * (P.x * P.x * P.y * P.y) := o
  refine EP.ext' ?_ ?_
  · show (P.x * P.y + P.y * -P.x) * inv (1 + D * (P.x * -P.x * P.y * P.y)) = 0
    grind
  · refine h.cancel hm (hy.trans ?_)
    show P.y * P.y - P.x * -P.x = 1 * (1 - D * (P.x * -P.x * P.y * P.y))
    grind
def npt (inv : Fin n → Fin n) (D : Fin n) (P : EP n) : Nat → EP n
  | 0 => eO
  | k + 1 => eadd inv D P (npt inv D P k)
theorem npt_on {inv : Fin n → Fin n} (h : Fld inv) {D : Fin n} (hD : NSq D) {P : EP n} (o : On D P) : ∀ k, On D (npt inv D P k)
  | 0 => eO_on D
  | k + 1 => eadd_on h hD o (npt_on h hD o k)
theorem npt_add {inv : Fin n → Fin n} (h : Fld inv) {D : Fin n} (hD : NSq D) {P : EP n} (o : On D P) (b : Nat) : ∀ a, npt inv D P (a + b) = eadd inv D (npt inv D P a) (npt inv D P b)
  | 0 => by rw [Nat.zero_add]; show _ = eadd inv D eO _; rw [eadd_comm, eadd_O h]
  | a + 1 => by
    rw [show a + 1 + b = (a + b) + 1 by omega, npt, npt_add h hD o b a, npt, eadd_assoc h hD o (npt_on h hD o a) (npt_on h hD o b)]
theorem npt_mul {inv : Fin n → Fin n} (h : Fld inv) {D : Fin n} (hD : NSq D) {P : EP n} (o : On D P) (b : Nat) : ∀ a, npt inv D (npt inv D P b) a = npt inv D P (a * b)
  | 0 => by rw [Nat.zero_mul]; rfl
  | a + 1 => by
    rw [npt, npt_mul h hD o b a, ← npt_add h hD o, show b + a * b = (a + 1) * b by rw [Nat.add_mul]; omega]
theorem npt_one {inv : Fin n → Fin n} (h : Fld inv) (D : Fin n) (P : EP n) : npt inv D P 1 = P := eadd_O h D P
/-- What is added, and one taken off again. -/
theorem npt_diff {inv : Fin n → Fin n} (h : Fld inv) {D : Fin n} (hD : NSq D) {P : EP n} (o : On D P) (k : Nat) : eadd inv D (npt inv D P (k + 1)) (eneg (npt inv D P k)) = P := by
  have ok := npt_on h hD o k
  rw [npt, eadd_assoc h hD o ok (eneg_on ok), eadd_neg h hD ok, eadd_O h]
end
-- THE LADDER OVER IT
section
set_option linter.unusedSectionVars false
variable {n : Nat} [NeZero n]
structure Rep (s : Fin n) (p : P2 n) (y : Fin n) : Prop where
  eq : p.x * (1 - y) = s * (p.z * (1 + y))
  ne : ¬ (p.x = 0 ∧ p.z = 0)
/-- What a curve, its sign, and the doubling's constant have to do with one another. -/
structure Cur (inv : Fin n → Fin n) (D s c : Fin n) : Prop where
  fld : Fld inv
  ns : NSq D
  ss : s * s = 1
  hc : (1 + (c + c)) * s * (1 - D) = 1 + D
theorem Cur.s0 {inv : Fin n → Fin n} {D s c : Fin n} (h : Cur inv D s c) : s ≠ 0 := fun e => h.fld.one (by have := h.ss; rw [e] at this; grind)
theorem Cur.d1 {inv : Fin n → Fin n} {D s c : Fin n} (h : Cur inv D s c) : 1 - D ≠ 0 := fun e => h.ns 1 (by grind)
theorem rep_l0 {s X Z y i l : Fin n} (ss : s * s = 1) (h : X * (1 - y) = s * (Z * (1 + y))) (hi : (1 + 1) * i = 1) (hl : l = (s * X + Z) * i) : X = l * (s * (1 + y)) ∧ Z = l * (1 - y) := by
  subst hl; constructor <;> grind
theorem rep_l {inv : Fin n → Fin n} {D s c : Fin n} (h : Cur inv D s c) {p : P2 n} {y : Fin n} (r : Rep s p y) : ∃ l, l ≠ 0 ∧ p.x = l * (s * (1 + y)) ∧ p.z = l * (1 - y) := by
  obtain ⟨h1, h2⟩ := rep_l0 h.ss r.eq (h.fld.mul _ h.fld.two) rfl
  refine ⟨_, fun e => r.ne ?_, h1, h2⟩
  rw [h1, h2, e]
  exact ⟨by grind, by grind⟩
theorem dbl_xx {s l y : Fin n} (ss : s * s = 1) : (l * (s * (1 + y)) + l * (1 - y)) * (l * (s * (1 + y)) + l * (1 - y)) * ((l * (s * (1 + y)) - l * (1 - y)) * (l * (s * (1 + y)) - l * (1 - y))) = (1+1)*(1+1)*((1+1)*(1+1)) * (l*l*(l*l)) * (y * y) := by grind
theorem dbl_zz {s l y c : Fin n} (ss : s * s = 1) : ((l * (s * (1 + y)) + l * (1 - y)) * (l * (s * (1 + y)) + l * (1 - y)) - (l * (s * (1 + y)) - l * (1 - y)) * (l * (s * (1 + y)) - l * (1 - y))) * ((l * (s * (1 + y)) + l * (1 - y)) * (l * (s * (1 + y)) + l * (1 - y)) + ((l * (s * (1 + y)) + l * (1 - y)) * (l * (s * (1 + y)) + l * (1 - y)) - (l * (s * (1 + y)) - l * (1 - y)) * (l * (s * (1 + y)) - l * (1 - y))) * c)
    = (1+1)*(1+1)*(1+1) * (l*l*(l*l)) * (s * (1 - y*y) * (1 + y*y + (1 + (c + c)) * s * (1 - y*y))) := by grind
theorem dbl_key {x y D w : Fin n} (o : x*x + y*y = 1 + D*(x*x*y*y)) (hc : w * (1 - D) = 1 + D) : (1 + 1) * (y * y) * (1 - D) = (1 + y*y + w * (1 - y*y)) * (1 - x*x) * (1 - D) := by grind
theorem dbl_fin {s X Z y x Y m : Fin n} (ss : s * s = 1) (hY : Y * m = y*y - x*x) (hm : m = 1 + 1 - x*x - y*y) {L W : Fin n} (hX : X = (1+1)*(1+1)*((1+1)*(1+1)) * L * (y*y)) (hZ : Z = (1+1)*(1+1)*(1+1) * L * (s * (1 - y*y) * W)) (k : (1 + 1) * (y * y) = W * (1 - x*x)) : X * (1 - Y) * m = s * (Z * (1 + Y)) * m := by
  subst hX; subst hZ; grind
theorem dbl_rep {inv : Fin n → Fin n} {D s c : Fin n} (h : Cur inv D s c) {p : P2 n} {P : EP n} (o : On D P) (r : Rep s p P.y) : Rep s (dbl c p) (eadd inv D P P).y := by
  obtain ⟨l, hl, h1, h2⟩ := rep_l h r
  have o' : P.x*P.x + P.y*P.y = 1 + D*(P.x*P.x*P.y*P.y) := o
  have hY := eadd_y h.fld h.ns o o
  have hm := ed_m h.fld h.ns o o
  have hL : l*l*(l*l) ≠ 0 := h.fld.nz (h.fld.nz hl hl) (h.fld.nz hl hl)
  have k := h.fld.cancel h.d1 (dbl_key (w := (1 + (c + c)) * s) o' h.hc)
  have hX : (dbl c p).x = (1+1)*(1+1)*((1+1)*(1+1)) * (l*l*(l*l)) * (P.y * P.y) := by
    show (p.x + p.z) * (p.x + p.z) * ((p.x - p.z) * (p.x - p.z)) = _
    rw [h1, h2]; exact dbl_xx h.ss
  have hZ : (dbl c p).z = (1+1)*(1+1)*(1+1) * (l*l*(l*l)) * (s * (1 - P.y*P.y) * (1 + P.y*P.y + (1 + (c + c)) * s * (1 - P.y*P.y))) := by
    show ((p.x + p.z) * (p.x + p.z) - (p.x - p.z) * (p.x - p.z)) * ((p.x + p.z) * (p.x + p.z) + ((p.x + p.z) * (p.x + p.z) - (p.x - p.z) * (p.x - p.z)) * c) = _
    rw [h1, h2]; exact dbl_zz h.ss
  refine ⟨h.fld.cancel hm (dbl_fin h.ss hY (by grind) hX hZ k), ?_⟩
  rintro ⟨e1, e2⟩
  have t2 := h.fld.two
  have t4 := h.fld.nz t2 t2
  rw [hX] at e1
  rw [hZ] at e2
  have y0 : P.y = 0 := Classical.byContradiction fun hy => h.fld.nz (h.fld.nz (h.fld.nz t4 t4) hL) (h.fld.nz hy hy) e1
  rw [y0] at e2
  have e3 : (1 + 1) * (1 + 1) * (1 + 1) * (l*l*(l*l)) * s * (1 + (1 + (c + c)) * s) = 0 := by grind
  have hc := h.hc
  refine h.fld.nz (h.fld.nz (h.fld.nz (h.fld.nz t4 t2) hL) h.s0) (fun e4 => t2 ?_) e3
  grind
theorem sm_X {s l m y1 y2 : Fin n} (ss : s * s = 1) : (m*(s*(1+y2)) - m*(1-y2)) * (l*(s*(1+y1)) + l*(1-y1)) + (m*(s*(1+y2)) + m*(1-y2)) * (l*(s*(1+y1)) - l*(1-y1)) = (1+1)*(1+1)*(l*m)*(y1+y2) := by grind
theorem sm_Z {s l m y1 y2 : Fin n} (ss : s * s = 1) : (m*(s*(1+y2)) - m*(1-y2)) * (l*(s*(1+y1)) + l*(1-y1)) - (m*(s*(1+y2)) + m*(1-y2)) * (l*(s*(1+y1)) - l*(1-y1)) = (1+1)*(1+1)*(l*m)*s*(y2-y1) := by grind
theorem sm_S1 (x1 y1 x2 y2 D Di : Fin n) (hd : D * Di = 1) (h1 : x1*x1*y1*y1 = Di*(x1*x1+y1*y1-1)) (h2 : x2*x2*y2*y2 = Di*(x2*x2+y2*y2-1)) :
  ((1 - D*(x1*x2*y1*y2)) + (y1*y2 - x1*x2)) * ((1 + D*(x1*x2*y1*y2)) + (y1*y2 + x1*x2)) * ((y1-y2)*(y1-y2)) = ((1 - D*(x1*x2*y1*y2)) - (y1*y2 - x1*x2)) * ((1 + D*(x1*x2*y1*y2)) - (y1*y2 + x1*x2)) * ((y1+y2)*(y1+y2)) := by grind
theorem sm_fin {u s ys yd a b m p A B y1 y2 k : Fin n} (ss : s * s = 1) (hs : ys * m = a) (hd : yd * p = b) (hu : u * (1 - yd) = s * (1 + yd)) (S : (m + a) * (p + b) * ((y1-y2)*(y1-y2)) = (m - a) * (p - b) * ((y1+y2)*(y1+y2))) (hA : A = (1+1)*(1+1)*k*(y1+y2)) (hB : B = (1+1)*(1+1)*k*s*(y2-y1)) :
    A * A * (1 - ys) * (m * p * (1 - yd)) = s * (u * (B * B) * (1 + ys)) * (m * p * (1 - yd)) := by
  subst hs; subst hd; subst hA; subst hB
  have e1 : (1+1)*(1+1)*k*(y1+y2) * ((1+1)*(1+1)*k*(y1+y2)) * (1 - ys) * (m * p * (1 - yd)) = (1+1)*(1+1)*((1+1)*(1+1))*(k*k) * ((m - ys*m) * (p - yd*p) * ((y1+y2)*(y1+y2))) := by grind
  have e2 : s * (u * ((1+1)*(1+1)*k*s*(y2-y1) * ((1+1)*(1+1)*k*s*(y2-y1))) * (1 + ys)) * (m * p * (1 - yd)) = (1+1)*(1+1)*((1+1)*(1+1))*(k*k) * ((m + ys*m) * (p + yd*p) * ((y1-y2)*(y1-y2))) := by grind
  rw [e1, e2, S]
theorem sm_yd {p D rx qx ry qy : Fin n} (h : p*(1 - D*(rx*(-qx)*ry*qy)) = ry*qy - rx*(-qx)) : p*(1 + D*(qx*rx*qy*ry)) = qy*ry + qx*rx := by grind
theorem sm_dy {u s y : Fin n} (hu : u * (1 - y) = s * (1 + y)) (e : 1 - y = 0) : s * (1 + 1) = 0 := by grind
theorem sm_rep {inv : Fin n → Fin n} {D s c : Fin n} (h : Cur inv D s c) {u : Fin n} {a b : P2 n} {P Q R : EP n} (oQ : On D Q) (oR : On D R) (hP : eadd inv D R (eneg Q) = P) (hu : u * (1 - P.y) = s * (1 + P.y)) (u0 : u ≠ 0) (ra : Rep s a Q.y) (rb : Rep s b R.y) : Rep s (sm u a b) (eadd inv D Q R).y := by
  obtain ⟨l, hl, a1, a2⟩ := rep_l h ra
  obtain ⟨m, hm, b1, b2⟩ := rep_l h rb
  have t2 := h.fld.two
  have hd := h.fld.mul D h.ns.nz
  have S := sm_S1 Q.x Q.y R.x R.y D (inv D) hd (on_di hd oQ) (on_di hd oR)
  have hs := eadd_y h.fld h.ns oQ oR
  have dm := ed_m h.fld h.ns oQ oR
  have dp := ed_p h.fld h.ns oQ oR
  have hyd : P.y * (1 + D*(Q.x*R.x*Q.y*R.y)) = Q.y*R.y + Q.x*R.x := by
    have := eadd_y h.fld h.ns oR (eneg_on oQ)
    rw [hP] at this
    exact sm_yd this
  have dy : 1 - P.y ≠ 0 := fun e => h.fld.nz h.s0 t2 (sm_dy hu e)
  have hA : (b.x - b.z) * (a.x + a.z) + (b.x + b.z) * (a.x - a.z) = (1+1)*(1+1)*(l*m)*(Q.y+R.y) := by
    rw [a1, a2, b1, b2]; exact sm_X h.ss
  have hB : (b.x - b.z) * (a.x + a.z) - (b.x + b.z) * (a.x - a.z) = (1+1)*(1+1)*(l*m)*s*(R.y-Q.y) := by
    rw [a1, a2, b1, b2]; exact sm_Z h.ss
  refine ⟨h.fld.cancel (h.fld.nz (h.fld.nz dm dp) dy) (sm_fin h.ss hs hyd hu S hA hB), ?_⟩
  rintro ⟨e1, e2⟩
  have e1 : ((b.x - b.z) * (a.x + a.z) + (b.x + b.z) * (a.x - a.z)) * ((b.x - b.z) * (a.x + a.z) + (b.x + b.z) * (a.x - a.z)) = 0 := e1
  have e2 : u * (((b.x - b.z) * (a.x + a.z) - (b.x + b.z) * (a.x - a.z)) * ((b.x - b.z) * (a.x + a.z) - (b.x + b.z) * (a.x - a.z))) = 0 := e2
  rw [hA] at e1
  rw [hB] at e2
  have hk : (1+1)*(1+1)*(l*m) ≠ 0 := h.fld.nz (h.fld.nz t2 t2) (h.fld.nz hl hm)
  have q1 : Q.y + R.y = 0 := Classical.byContradiction fun hq => h.fld.nz (h.fld.nz hk hq) (h.fld.nz hk hq) e1
  have q2 : R.y - Q.y = 0 := Classical.byContradiction fun hq => h.fld.nz u0 (h.fld.nz (h.fld.nz (h.fld.nz hk h.s0) hq) (h.fld.nz (h.fld.nz hk h.s0) hq)) e2
  have qy : Q.y = 0 := Classical.byContradiction fun hq => h.fld.nz hq t2 (by grind)
  have ry : R.y = 0 := by grind
  have oQ' : Q.x*Q.x + Q.y*Q.y = 1 + D*(Q.x*Q.x*Q.y*Q.y) := oQ
  have oR' : R.x*R.x + R.y*R.y = 1 + D*(R.x*R.x*R.y*R.y) := oR
  rw [qy] at oQ' hyd
  rw [ry] at oR' hyd
  have py : P.y = Q.x * R.x := by grind
  have pq : (1 - P.y) * (1 + P.y) = 0 := by rw [py]; grind
  have pz : 1 + P.y = 0 := Classical.byContradiction fun hq => h.fld.nz dy hq pq
  rw [pz] at hu
  exact h.fld.nz u0 dy (by rw [hu]; grind)
def bval (bit : Nat → Bool) : Nat → Nat
  | 0 => 0
  | t + 1 => (if bit t = true then 2 ^ t else 0) + bval bit t
theorem lad_rep {inv : Fin n → Fin n} {D s c : Fin n} (h : Cur inv D s c) {u : Fin n} {P : EP n} (o : On D P) (hu : u * (1 - P.y) = s * (1 + P.y)) (u0 : u ≠ 0) (bit : Nat → Bool) : ∀ (t N : Nat) (S : P2 n × P2 n), Rep s S.1 (npt inv D P N).y → Rep s S.2 (npt inv D P (N + 1)).y → Rep s (ladV c u bit t S).1 (npt inv D P (N * 2 ^ t + bval bit t)).y
  | 0, N, S, h1, _ => by
    rw [ladV, bval, Nat.pow_zero, Nat.mul_one, Nat.add_zero]; exact h1
  | t + 1, N, S, h1, h2 => by
    have o1 := npt_on h.fld h.ns o N
    have o2 := npt_on h.fld h.ns o (N + 1)
    have d := npt_diff h.fld h.ns o N
    have a1 := dbl_rep h o1 h1
    have a2 := dbl_rep h o2 h2
    have a3 := sm_rep h o1 o2 d hu u0 h1 h2
    rw [← npt_add h.fld h.ns o] at a1 a2 a3
    rw [ladV, bval]
    cases hb : bit t with
    | true =>
      rw [if_pos rfl, if_pos rfl]
      have := lad_rep h o hu u0 bit t (N + (N + 1)) (sm u S.1 S.2, dbl c S.2) a3 (by
        show Rep s (dbl c S.2) (npt inv D P (N + (N + 1) + 1)).y
        rw [show N + (N + 1) + 1 = N + 1 + (N + 1) by omega]; exact a2)
      rw [show N * 2 ^ (t + 1) + (2 ^ t + bval bit t) = (N + (N + 1)) * 2 ^ t + bval bit t by rw [Nat.pow_succ]; grind]
      exact this
    | false =>
      rw [if_neg (by decide), if_neg (by decide)]
      have := lad_rep h o hu u0 bit t (N + N) (dbl c S.1, sm u S.1 S.2) a1 (by
        show Rep s (sm u S.1 S.2) (npt inv D P (N + N + 1)).y
        rw [show N + N + 1 = N + (N + 1) by omega]; exact a3)
      rw [show N * 2 ^ (t + 1) + (0 + bval bit t) = (N + N) * 2 ^ t + bval bit t by rw [Nat.pow_succ]; grind]
      exact this
def ladF (inv : Fin n → Fin n) (c : Fin n) (bit : Nat → Bool) (T : Nat) (u : Fin n) : Fin n := (ladV c u bit T (⟨1, 0⟩, ⟨u, 1⟩)).1.x * inv (ladV c u bit T (⟨1, 0⟩, ⟨u, 1⟩)).1.z
/-- A value that is the coordinate of a point, or 0. -/
structure Fits (s v y : Fin n) : Prop where
  o : y = 1 → v = 0
  a : y ≠ 1 → v * (1 - y) = s * (1 + y)
theorem fits_q {X Z i s y l : Fin n} (hi : Z * i = 1) (h1 : X = l * (s * (1 + y))) (h2 : Z = l * (1 - y)) : X * i * (1 - y) * l = s * (1 + y) * l := by
  subst h1; subst h2; grind
theorem lad_fits {inv : Fin n → Fin n} {D s c : Fin n} (h : Cur inv D s c) {u : Fin n} {P : EP n} (o : On D P) (hu : u * (1 - P.y) = s * (1 + P.y)) (u0 : u ≠ 0) (bit : Nat → Bool) (T : Nat) : Fits s (ladF inv c bit T u) (npt inv D P (bval bit T)).y := by
  have r := lad_rep h o hu u0 bit T 0 (⟨1, 0⟩, ⟨u, 1⟩) ⟨by show (1 : Fin n) * (1 - 1) = s * (0 * (1 + 1)); grind, fun e => h.fld.one e.1⟩ ⟨by
      rw [npt_one h.fld]
      show u * (1 - P.y) = s * (1 * (1 + P.y))
      grind, fun e => h.fld.one e.2⟩
  rw [Nat.zero_mul, Nat.zero_add] at r
  obtain ⟨l, hl, h1, h2⟩ := rep_l h r
  unfold ladF
  generalize (ladV c u bit T (⟨1, 0⟩, ⟨u, 1⟩)).1 = A at *
  refine ⟨fun e => ?_, fun e => ?_⟩
  · have z0 : A.z = 0 := by rw [h2, e]; grind
    rw [z0, h.fld.zero]; grind
  · have d : 1 - (npt inv D P (bval bit T)).y ≠ 0 := fun q => e (by grind)
    have z0 : A.z ≠ 0 := by rw [h2]; exact h.fld.nz hl d
    exact h.fld.cancel hl (fits_q (h.fld.mul _ z0) h1 h2)
theorem fits_eq {inv : Fin n → Fin n} (h : Fld inv) {s v w y : Fin n} (h1 : Fits s v y) (h2 : Fits s w y) : v = w := by
  by_cases e : y = 1
  · rw [h1.o e, h2.o e]
  · exact h.cancel (c := 1 - y) (fun q => e (by grind)) ((h1.a e).trans (h2.a e).symm)
theorem ladF_0 {inv : Fin n → Fin n} (h : Fld inv) (c : Fin n) (bit : Nat → Bool) (T : Nat) : ladF inv c bit T 0 = 0 := by
  unfold ladF
  rw [ladV_0 c bit T _ rfl (.inr rfl), h.zero]; grind
theorem bval_even {bit : Nat → Bool} (hb : bit 0 = false) : ∀ t, ∃ a, bval bit t = a * 2
  | 0 => ⟨0, rfl⟩
  | 1 => ⟨0, by rw [bval, hb]; rfl⟩
  | t + 2 => by
    obtain ⟨a, ha⟩ := bval_even hb (t + 1)
    rw [bval, ha]
    split
    · exact ⟨2 ^ t + a, by rw [Nat.pow_succ]; omega⟩
    · exact ⟨a, by omega⟩
theorem npt_O {inv : Fin n → Fin n} (h : Fld inv) (D : Fin n) : ∀ a, npt inv D eO a = (eO : EP n)
  | 0 => rfl
  | a + 1 => by rw [npt, npt_O h D a, eadd_O h]
/-- Scalars that are even, one behind the other. -/
theorem lad_two {inv : Fin n → Fin n} {D s c : Fin n} (h : Cur inv D s c) {u : Fin n} {P : EP n} (o : On D P) (hu : u * (1 - P.y) = s * (1 + P.y)) (u0 : u ≠ 0) (al be : Nat → Bool) (ha : al 0 = false) (T : Nat) : Fits s (ladF inv c al T (ladF inv c be T u)) (npt inv D P (bval al T * bval be T)).y := by
  have f := lad_fits h o hu u0 be T
  have oQ := npt_on h.fld h.ns o (bval be T)
  rw [← npt_mul h.fld h.ns o]
  generalize npt inv D P (bval be T) = Q at *
  generalize ladF inv c be T u = v at *
  by_cases v0 : v = 0
  · rw [v0, ladF_0 h.fld]
    have oQ' : Q.x*Q.x + Q.y*Q.y = 1 + D*(Q.x*Q.x*Q.y*Q.y) := oQ
    have y1 : (1 - Q.y) * (1 + Q.y) = 0 := by
      by_cases e : Q.y = 1
      · rw [e]; grind
      · have e2 := f.a e
        rw [v0] at e2
        have : 1 + Q.y = 0 := Classical.byContradiction fun hq => h.fld.nz h.s0 hq (by rw [← e2]; grind)
        rw [this]; grind
    have x0 : Q.x = 0 := Classical.byContradiction fun hx => h.fld.nz (h.fld.nz hx hx) h.d1 (by grind)
    have q2 : npt inv D Q 2 = eO := by
      rw [npt, npt_one h.fld]
      refine EP.ext' ?_ ?_
      · show (Q.x*Q.y + Q.y*Q.x) * _ = 0
        rw [x0]; grind
      · show (Q.y*Q.y - Q.x*Q.x) * inv (1 - D*(Q.x*Q.x*Q.y*Q.y)) = 1
        rw [x0, show 1 - D*(0*0*Q.y*Q.y) = 1 by grind, inv_1 h.fld]; grind
    obtain ⟨a, ha⟩ := bval_even ha T
    rw [ha, ← npt_mul h.fld h.ns oQ, q2, npt_O h.fld]
    exact ⟨fun _ => rfl, fun e => absurd rfl e⟩
  · have e : Q.y ≠ 1 := fun e => v0 (f.o e)
    exact lad_fits h oQ (f.a e) v0 al T
/-- Where a coordinate's point lies: on one of two curves. -/
structure Two (inv : Fin n → Fin n) (D0 D1 c : Fin n) : Prop where
  fld : Fld inv
  ns : NSq D0
  dd : D0 * D1 = 1
  hc : (1 + (c + c)) * (1 - D0) = 1 + D0
  sq : ∀ a : Fin n, a ≠ 0 → ∃ s, a = s * s ∨ a = (1 + 1) * (s * s)
theorem Two.c0 {inv : Fin n → Fin n} {D0 D1 c : Fin n} (h : Two inv D0 D1 c) : Cur inv D0 1 c := ⟨h.fld, h.ns, by grind, by have := h.hc; grind⟩
theorem Two.c1 {inv : Fin n → Fin n} {D0 D1 c : Fin n} (h : Two inv D0 D1 c) : Cur inv D1 (-1) c := by
  refine ⟨h.fld, fun s e => h.ns (D0 * s) ?_, by grind, ?_⟩
  · have := h.dd
    rw [e] at this
    grind
  · have h1 := h.dd
    have h2 := h.hc
    refine h.fld.cancel h.ns.nz ?_
    grind
theorem two_on0 {a N M s y D : Fin n} (ha : a * M = N) (hs : a = s * s) (hN : N = 1 - y * y) (hM : M = 1 - D * (y * y)) : s * s + y * y = 1 + D * (s * s * y * y) := by
  subst hs; grind
theorem two_on1 {a N M s y y' t D0 D1 : Fin n} (ha : a * M = N) (hs : a = (1 + 1) * (s * s)) (ht : D0 = (1 + 1) * (t * t)) (hd : D0 * D1 = 1) (hy : y * y' = 1) (hN : N = 1 - y * y) (hM : M = 1 - D0 * (y * y)) : ((1+1)*t*s) * ((1+1)*t*s) + y' * y' = 1 + D1 * (((1+1)*t*s) * ((1+1)*t*s) * y' * y') := by
  have hz : ((1+1)*t*s) * ((1+1)*t*s) * M = D0 * N := by rw [← ha, hs, ht]; grind
  generalize ((1+1)*t*s) * ((1+1)*t*s) = Z at *
  subst hN; subst hM
  grind
theorem two_pt {inv : Fin n → Fin n} {D0 D1 c : Fin n} (h : Two inv D0 D1 c) {u : Fin n} (u0 : u ≠ 0) : ∃ D s P, Cur inv D s c ∧ On D P ∧ u * (1 - P.y) = s * (1 + P.y) := by
  have t2 := h.fld.two
  by_cases um : u + 1 = 0
  · refine ⟨D1, -1, ⟨1, 0⟩, h.c1, ?_, ?_⟩
    · show (1 : Fin n) * 1 + 0 * 0 = 1 + D1 * (1 * 1 * 0 * 0); grind
    · show u * (1 - 0) = -1 * (1 + 0); grind
  · have hi := h.fld.mul _ um
    obtain ⟨y, hy⟩ : ∃ y, y = (u - 1) * inv (u + 1) := ⟨_, rfl⟩
    have hyu : y * (u + 1) = u - 1 := by rw [hy]; grind
    have hu : u * (1 - y) = 1 * (1 + y) := by grind
    by_cases y0 : y = 0
    · refine ⟨D0, 1, ⟨1, 0⟩, h.c0, ?_, ?_⟩
      · show (1 : Fin n) * 1 + 0 * 0 = 1 + D0 * (1 * 1 * 0 * 0); grind
      · show u * (1 - 0) = 1 * (1 + 0)
        rw [y0] at hu; exact hu
    · have hyi := h.fld.mul y y0
      have M0 : 1 - D0 * (y * y) ≠ 0 := fun e => h.ns (inv y) (by grind)
      have N0 : 1 - y * y ≠ 0 := fun e => by
        have e1 : 1 - y ≠ 0 := fun q => t2 (by grind)
        have e2 : 1 + y ≠ 0 := fun q => h.fld.nz u0 t2 (by grind)
        exact h.fld.nz e1 e2 (by grind)
      have hM := h.fld.mul _ M0
      have im0 : inv (1 - D0 * (y * y)) ≠ 0 := fun e => h.fld.one (by rw [← hM, e]; grind)
      have ha : ((1 - y * y) * inv (1 - D0 * (y * y))) * (1 - D0 * (y * y)) = 1 - y * y := ed_mul hM
      obtain ⟨s, hs | hs⟩ := h.sq ((1 - y * y) * inv (1 - D0 * (y * y))) (h.fld.nz N0 im0)
      · exact ⟨D0, 1, ⟨s, y⟩, h.c0, two_on0 ha hs rfl rfl, hu⟩
      · obtain ⟨t, ht | ht⟩ := h.sq D0 h.ns.nz
        · exact absurd ht (h.ns t)
        · refine ⟨D1, -1, ⟨(1+1)*t*s, inv y⟩, h.c1, two_on1 ha hs ht h.dd hyi rfl rfl, ?_⟩
          show u * (1 - inv y) = -1 * (1 + inv y)
          refine h.fld.cancel y0 ?_
          grind
/-- Of two scalars either one, behind the other, makes the same. -/
theorem lad_comm {inv : Fin n → Fin n} {D0 D1 c : Fin n} (h : Two inv D0 D1 c) (al be : Nat → Bool) (ha : al 0 = false) (hb : be 0 = false) (T : Nat) (u : Fin n) : ladF inv c al T (ladF inv c be T u) = ladF inv c be T (ladF inv c al T u) := by
  by_cases u0 : u = 0
  · rw [u0, ladF_0 h.fld, ladF_0 h.fld, ladF_0 h.fld]
  · obtain ⟨D, s, P, hC, o, hu⟩ := two_pt h u0
    have f1 := lad_two hC o hu u0 al be ha T
    have f2 := lad_two hC o hu u0 be al hb T
    rw [Nat.mul_comm] at f2
    exact fits_eq h.fld f1 f2
end
end Go.Proofs.Ytdkmkifebhggeaa
