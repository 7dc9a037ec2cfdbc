/-
  A number of five parts as an argument: how it is read, and laid. It speaks of no program.
-/
import Derived.Test.YtdkmkifebhggeaaKn
import Derived.WideKeyPair
import Derived.ChangeShapes
namespace Go.Proofs.Ytdkmkifebhggeaa
open Go Go.ChangeShapes Go.WideShapes
set_option linter.unusedSimpArgs false
set_option linter.unusedVariables false
section
variable {H : Type} {enc : TypeId × Value → H} {P : Program} {k e : TypeId} {W : World} {base : Nat} {sp : Nat → Bool} {held : Bool}
def N5.val (x : N5) : Value := .agg #[.int .u64 (x.a.toNat : Int), .int .u64 (x.b.toNat : Int), .int .u64 (x.c.toNat : Int), .int .u64 (x.d.toNat : Int), .int .u64 (x.e.toNat : Int)]
def N5.data (x : N5) : DataW H := .agg [.lit (.int .u64 (x.a.toNat : Int)), .lit (.int .u64 (x.b.toNat : Int)), .lit (.int .u64 (x.c.toNat : Int)), .lit (.int .u64 (x.d.toNat : Int)), .lit (.int .u64 (x.e.toNat : Int))]
theorem u64_of_wf {x : Int} (h : (Lit.int .u64 x).wf = true) : ∃ a : UInt64, x = (a.toNat : Int) := by
  have h' : 0 ≤ x ∧ x ≤ 18446744073709551615 := by simpa [Lit.wf, IntKind.min, IntKind.max, IntKind.signed, IntKind.bits] using h
  exact ⟨UInt64.ofNat x.toNat, by rw [UInt64.toNat_ofNat_of_lt' (by show x.toNat < 18446744073709551616; omega)]; omega⟩
theorem u64_wf (a : UInt64) : (Lit.int .u64 (a.toNat : Int)).wf = true := by
  have := a.toNat_lt
  simp [Lit.wf, IntKind.min, IntKind.max, IntKind.signed, IntKind.bits]
  omega
theorem open_n5 (hu : P.underlying k = some (.array 5 e)) (he : P.underlying e = some (.int .u64)) (h1 : P.cellsOf e = 1) (h5 : P.cellsOf k = 5) {r : Reach} {b0 : Nat} {v : Value} {d : DataW H} {ps : List MemPlace} (hval : Value.okWide P W r b0 k v) (hd : DataW.Trod enc P W base sp held k v d ps) :
    ∃ x : N5, v = x.val ∧ d = x.data ∧ ps = [] := by
  obtain ⟨c0, c1, c2, c3, c4, rfl⟩ : ∃ c0 c1 c2 c3 c4, v = .agg #[c0, c1, c2, c3, c4] := by
    simp only [Value.okWide, hu] at hval
    obtain ⟨cs, q1, q2, _⟩ := hval
    rw [h5] at q2
    obtain ⟨l⟩ := cs
    match l, q2 with
    | [c0, c1, c2, c3, c4], _ => exact ⟨c0, c1, c2, c3, c4, q1⟩
  obtain ⟨fuel, hf⟩ := hd
  cases fuel with
  | zero => simp [DataW.trod] at hf
  | succ n =>
    rw [DataW.trod_step] at hf
    unfold DataW.trodStep at hf
    simp only [hu, Value.cells] at hf
    rw [if_pos (by rw [h5]; rfl)] at hf
    simp only [Option.map_eq_some_iff] at hf
    obtain ⟨xs, hx, e1⟩ := hf
    rw [show List.range 5 = [0, 1, 2, 3, 4] from rfl, List.mapM_cons, List.mapM_cons, List.mapM_cons, List.mapM_cons, List.mapM_cons, List.mapM_nil] at hx
    simp only [bind, Option.bind_eq_some_iff, pure, Option.some.injEq, h1] at hx
    obtain ⟨y0, q0, _, ⟨y1, q1, _, ⟨y2, q2, _, ⟨y3, q3, _, ⟨y4, q4, _, rfl, rfl⟩, rfl⟩, rfl⟩, rfl⟩, rfl⟩ := hx
    obtain ⟨a, ea, rfl, wa⟩ := DataW.trod_int he q0
    obtain ⟨b, eb, rfl, wb⟩ := DataW.trod_int he q1
    obtain ⟨c, ec, rfl, wc⟩ := DataW.trod_int he q2
    obtain ⟨d', ed, rfl, wd⟩ := DataW.trod_int he q3
    obtain ⟨f, ef, rfl, wf⟩ := DataW.trod_int he q4
    simp at ea eb ec ed ef
    subst ea; subst eb; subst ec; subst ed; subst ef
    simp only [Prod.mk.injEq] at e1
    obtain ⟨a, rfl⟩ := u64_of_wf wa
    obtain ⟨b, rfl⟩ := u64_of_wf wb
    obtain ⟨c, rfl⟩ := u64_of_wf wc
    obtain ⟨d', rfl⟩ := u64_of_wf wd
    obtain ⟨f, rfl⟩ := u64_of_wf wf
    exact ⟨⟨a, b, c, d', f⟩, rfl, by rw [← e1.1]; rfl, by rw [← e1.2]; rfl⟩
theorem shut_n5 (hu : P.underlying k = some (.array 5 e)) (he : P.underlying e = some (.int .u64)) (h1 : P.cellsOf e = 1) (h5 : P.cellsOf k = 5) (x : N5) :
    DataW.Trod enc P W base sp held k x.val x.data [] :=
  ⟨2, by
    show DataW.trod enc P W base sp held (1 + 1) k [.int .u64 (x.a.toNat : Int), .int .u64 (x.b.toNat : Int), .int .u64 (x.c.toNat : Int), .int .u64 (x.d.toNat : Int), .int .u64 (x.e.toNat : Int)] = _
    rw [DataW.trod_step]
    unfold DataW.trodStep
    simp only [hu]
    rw [if_pos (by rw [h5]; rfl), show List.range 5 = [0, 1, 2, 3, 4] from rfl, List.mapM_cons, List.mapM_cons, List.mapM_cons, List.mapM_cons, List.mapM_cons, List.mapM_nil]
    simp [h1, DataW.trod, he, u64_wf, N5.data]⟩
theorem N5.rel (r : Lc) (x : N5) : CV.rel r x.cv x.val := ⟨[.int .u64 (x.a.toNat : Int), .int .u64 (x.b.toNat : Int), .int .u64 (x.c.toNat : Int), .int .u64 (x.d.toNat : Int), .int .u64 (x.e.toNat : Int)], rfl, rfl, rfl, rfl, rfl, rfl, trivial⟩
end
end Go.Proofs.Ytdkmkifebhggeaa
