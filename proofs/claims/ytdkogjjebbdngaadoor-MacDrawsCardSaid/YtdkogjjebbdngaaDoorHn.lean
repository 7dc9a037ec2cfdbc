/-
  A state of eight words as an argument: how it is read, and laid. It speaks of no program.
-/
import Derived.Test.YtdkogjjebbdngaaDoorHa
import Derived.WideKeyPair
import Derived.ChangeShapes
namespace Go.Proofs.YtdkogjjebbdngaaDoor
open Go Go.ChangeShapes Go.WideShapes
set_option linter.unusedSimpArgs false
set_option linter.unusedVariables false
set_option linter.unusedSectionVars false
section
variable {H : Type} {enc : TypeId × Value → H} {P : Program} {k e : TypeId} {W : World} {base : Nat} {sp : Nat → Bool} {held : Bool}
def W8.val (x : W8) : Value := .agg #[.int .u32 (x.a.toNat : Int), .int .u32 (x.b.toNat : Int), .int .u32 (x.c.toNat : Int), .int .u32 (x.d.toNat : Int), .int .u32 (x.e.toNat : Int), .int .u32 (x.f.toNat : Int), .int .u32 (x.g.toNat : Int), .int .u32 (x.h.toNat : Int)]
def W8.data (x : W8) : DataW H := .agg [.lit (.int .u32 (x.a.toNat : Int)), .lit (.int .u32 (x.b.toNat : Int)), .lit (.int .u32 (x.c.toNat : Int)), .lit (.int .u32 (x.d.toNat : Int)), .lit (.int .u32 (x.e.toNat : Int)), .lit (.int .u32 (x.f.toNat : Int)), .lit (.int .u32 (x.g.toNat : Int)), .lit (.int .u32 (x.h.toNat : Int))]
theorem u32_of_wf {x : Int} (h : (Lit.int .u32 x).wf = true) : ∃ a : UInt32, x = (a.toNat : Int) := by
  have h' : 0 ≤ x ∧ x ≤ 4294967295 := by simpa [Lit.wf, IntKind.min, IntKind.max, IntKind.signed, IntKind.bits] using h
  exact ⟨UInt32.ofNat x.toNat, by rw [UInt32.toNat_ofNat_of_lt' (by show x.toNat < 4294967296; omega)]; omega⟩
theorem u32_wf (a : UInt32) : (Lit.int .u32 (a.toNat : Int)).wf = true := by
  have := a.toNat_lt
  simp [Lit.wf, IntKind.min, IntKind.max, IntKind.signed, IntKind.bits]
  omega
theorem open_n8 (hu : P.underlying k = some (.array 8 e)) (he : P.underlying e = some (.int .u32)) (h1 : P.cellsOf e = 1) (h5 : P.cellsOf k = 8) {r : Reach} {b0 : Nat} {v : Value} {d : DataW H} {ps : List MemPlace} (hval : Value.okWide P W r b0 k v) (hd : DataW.Trod enc P W base sp held k v d ps) :
    ∃ x : W8, v = x.val ∧ d = x.data ∧ ps = [] := by
  obtain ⟨c0, c1, c2, c3, c4, c5, c6, c7, rfl⟩ : ∃ c0 c1 c2 c3 c4 c5 c6 c7, v = .agg #[c0, c1, c2, c3, c4, c5, c6, c7] := by
    simp only [Value.okWide, hu] at hval
    obtain ⟨cs, q1, q2, _⟩ := hval
    rw [h5] at q2
    obtain ⟨l⟩ := cs
    match l, q2 with
    | [c0, c1, c2, c3, c4, c5, c6, c7], _ => exact ⟨c0, c1, c2, c3, c4, c5, c6, c7, q1⟩
  obtain ⟨fuel, hf⟩ := hd
  cases fuel with
  | zero => simp [DataW.trod] at hf
  | succ n =>
    rw [DataW.trod_step] at hf
    unfold DataW.trodStep at hf
    simp only [hu, Value.cells] at hf
    rw [if_pos (by rw [h5]; rfl)] at hf
    simp only [Option.map_eq_some_iff] at hf
    obtain ⟨xs, hx, e1⟩ := hf
    rw [show List.range 8 = [0, 1, 2, 3, 4, 5, 6, 7] from rfl, List.mapM_cons, List.mapM_cons, List.mapM_cons, List.mapM_cons, List.mapM_cons, List.mapM_cons, List.mapM_cons, List.mapM_cons, List.mapM_nil] at hx
    simp only [bind, Option.bind_eq_some_iff, pure, Option.some.injEq, h1] at hx
    obtain ⟨y0, q0, _, ⟨y1, q1, _, ⟨y2, q2, _, ⟨y3, q3, _, ⟨y4, q4, _, ⟨y5, q5, _, ⟨y6, q6, _, ⟨y7, q7, _, rfl, rfl⟩, rfl⟩, rfl⟩, rfl⟩, rfl⟩, rfl⟩, rfl⟩, rfl⟩ := hx
    obtain ⟨z0, e10, rfl, w0⟩ := DataW.trod_int he q0
    obtain ⟨z1, e11, rfl, w1⟩ := DataW.trod_int he q1
    obtain ⟨z2, e12, rfl, w2⟩ := DataW.trod_int he q2
    obtain ⟨z3, e13, rfl, w3⟩ := DataW.trod_int he q3
    obtain ⟨z4, e14, rfl, w4⟩ := DataW.trod_int he q4
    obtain ⟨z5, e15, rfl, w5⟩ := DataW.trod_int he q5
    obtain ⟨z6, e16, rfl, w6⟩ := DataW.trod_int he q6
    obtain ⟨z7, e17, rfl, w7⟩ := DataW.trod_int he q7
    simp at e10 e11 e12 e13 e14 e15 e16 e17
    subst e10
    subst e11
    subst e12
    subst e13
    subst e14
    subst e15
    subst e16
    subst e17
    simp only [Prod.mk.injEq] at e1
    obtain ⟨z0, rfl⟩ := u32_of_wf w0
    obtain ⟨z1, rfl⟩ := u32_of_wf w1
    obtain ⟨z2, rfl⟩ := u32_of_wf w2
    obtain ⟨z3, rfl⟩ := u32_of_wf w3
    obtain ⟨z4, rfl⟩ := u32_of_wf w4
    obtain ⟨z5, rfl⟩ := u32_of_wf w5
    obtain ⟨z6, rfl⟩ := u32_of_wf w6
    obtain ⟨z7, rfl⟩ := u32_of_wf w7
    exact ⟨⟨z0, z1, z2, z3, z4, z5, z6, z7⟩, rfl, by rw [← e1.1]; rfl, by rw [← e1.2]; rfl⟩
theorem shut_n8 (hu : P.underlying k = some (.array 8 e)) (he : P.underlying e = some (.int .u32)) (h1 : P.cellsOf e = 1) (h5 : P.cellsOf k = 8) (x : W8) :
    DataW.Trod enc P W base sp held k x.val x.data [] :=
  ⟨2, by
    show DataW.trod enc P W base sp held (1 + 1) k [.int .u32 (x.a.toNat : Int), .int .u32 (x.b.toNat : Int), .int .u32 (x.c.toNat : Int), .int .u32 (x.d.toNat : Int), .int .u32 (x.e.toNat : Int), .int .u32 (x.f.toNat : Int), .int .u32 (x.g.toNat : Int), .int .u32 (x.h.toNat : Int)] = _
    rw [DataW.trod_step]
    unfold DataW.trodStep
    simp only [hu]
    rw [if_pos (by rw [h5]; rfl), show List.range 8 = [0, 1, 2, 3, 4, 5, 6, 7] from rfl, List.mapM_cons, List.mapM_cons, List.mapM_cons, List.mapM_cons, List.mapM_cons, List.mapM_cons, List.mapM_cons, List.mapM_cons, List.mapM_nil]
    simp [h1, DataW.trod, he, u32_wf, W8.data]⟩
end
end Go.Proofs.YtdkogjjebbdngaaDoor
