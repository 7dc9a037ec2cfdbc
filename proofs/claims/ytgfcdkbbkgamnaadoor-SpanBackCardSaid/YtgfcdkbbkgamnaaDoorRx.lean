/-
  Rows of numbers and of pairs of numbers, and a pair, handed in. It speaks of no program.
-/
import Derived.Test.YtgfcdkbbkgamnaaDoorRo
import Derived.Test.YtgfcdkbbkgamnaaDoorTb
import Derived.Test.YtgfcdkbbkgamnaaDoorTf
namespace Go.Proofs.YtgfcdkbbkgamnaaDoor
open Go Go.RowKit Go.ChangeShapes Go.WideShapes
set_option linter.unusedVariables false
set_option linter.unusedSimpArgs false
section
variable {H : Type} {enc : TypeId × Value → H} {P : Program} {W : World}
theorem open_rowI {T E : TypeId} (hT : P.underlying T = some (.slice E)) (hE : P.underlying E = some (.int .i64)) (hz : P.cellsOf E = 1) {rc : Reach} {b0 : Nat} {v : Value} {d : DataW H} {ps : List MemPlace} (hval : Value.okWide P W rc b0 T v)
    (h : DataW.Trod enc P W 0 (fun _ => true) true T v d ps) : ∃ (l : List Int) (p : Option (Blk × Nat)), ArgR W (.arr _ intL l) 1 l.length v p ∧ l.length ≤ maxLen ∧ ∀ x ∈ l, (Lit.int .i64 x).wf = true :=
  open_row (L := intL) hT hz (by decide) (fun n cs y hy _ => by
    obtain ⟨x, h1, _, h3⟩ := DataW.trod_int hE hy
    exact ⟨x, h3, one_of h1 fun r => rfl⟩) hval h
theorem open_rowP {T E : TypeId} {f0 f1 : Field} (hT : P.underlying T = some (.slice E)) (hE : P.underlying E = some (.struct #[f0, f1])) (hz : P.cellsOf E = 2) (h0 : P.underlying f0.type = some (.int .i64)) (h1 : P.underlying f1.type = some (.int .i64))
    (o0 : f0.offset = 0) (o1 : f1.offset = 1) (c0 : P.cellsOf f0.type = 1) (c1 : P.cellsOf f1.type = 1) {rc : Reach} {b0 : Nat} {v : Value} {d : DataW H} {ps : List MemPlace} (hval : Value.okWide P W rc b0 T v)
    (h : DataW.Trod enc P W 0 (fun _ => true) true T v d ps) : ∃ (l : List (Int × Int)) (p : Option (Blk × Nat)), ArgR W (.arr _ rngL l) 2 l.length v p ∧ l.length ≤ maxLen ∧ ∀ x ∈ l, (Lit.int .i64 x.1).wf = true ∧ (Lit.int .i64 x.2).wf = true :=
  open_row (L := rngL) hT hz (by decide) (fun n cs y hy hl => by
    obtain ⟨y0, y1, m, _, _, h3, h4⟩ := trod_struct2 hE hy
    rw [o0, c0] at h3
    rw [o1, c1] at h4
    obtain ⟨a, e1, _, w1⟩ := DataW.trod_int h0 h3
    obtain ⟨b, e2, _, w2⟩ := DataW.trod_int h1 h4
    have hl : cs.length = 2 := hl
    match cs, hl, e1, e2 with
    | [u, w], _, e1, e2 =>
      simp at e1 e2
      subst e1; subst e2
      exact ⟨(a, b), ⟨w1, w2⟩, fun r => ⟨rfl, rfl, trivial⟩⟩) hval h
theorem open_pair {E : TypeId} {f0 f1 : Field} (hE : P.underlying E = some (.struct #[f0, f1])) (hz : P.cellsOf E = 2) (h0 : P.underlying f0.type = some (.int .i64)) (h1 : P.underlying f1.type = some (.int .i64))
    (o0 : f0.offset = 0) (o1 : f1.offset = 1) (c0 : P.cellsOf f0.type = 1) (c1 : P.cellsOf f1.type = 1) {rc : Reach} {b0 : Nat} {v : Value} {d : DataW H} {ps : List MemPlace} (hval : Value.okWide P W rc b0 E v)
    (h : DataW.Trod enc P W 0 (fun _ => true) true E v d ps) : ∃ a b : Int, v = .agg #[.int .i64 a, .int .i64 b] ∧ (Lit.int .i64 a).wf = true ∧ (Lit.int .i64 b).wf = true := by
  obtain ⟨cs, rfl, hs⟩ := okWide_struct hE hval
  obtain ⟨fuel, hf⟩ := h
  obtain ⟨y0, y1, m, _, hl, h3, h4⟩ := trod_struct2 hE hf
  rw [o0, c0] at h3
  rw [o1, c1] at h4
  obtain ⟨a, e1, _, w1⟩ := DataW.trod_int h0 h3
  obtain ⟨b, e2, _, w2⟩ := DataW.trod_int h1 h4
  rw [hz] at hl
  obtain ⟨l⟩ := cs
  have hl : l.length = 2 := by simpa [Value.cells] using hl
  match l, hl, e1, e2 with
  | [u, w], _, e1, e2 =>
    simp [Value.cells] at e1 e2
    subst e1; subst e2
    exact ⟨a, b, rfl, w1, w2⟩
end
end Go.Proofs.YtgfcdkbbkgamnaaDoor
