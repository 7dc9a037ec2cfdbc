/-
  Rows of texts and of bytes, handed in. It speaks of no program.
-/
import Derived.Test.YtgfcdkbbkgamnaaDoorRw
import Derived.Test.YtgfcdkbbkgamnaaDoorRs
namespace Go.Proofs.YtgfcdkbbkgamnaaDoor
open Go Go.RowKit Go.ChangeShapes Go.WideShapes
set_option linter.unusedVariables false
set_option linter.unusedSimpArgs false
section
variable {H : Type} {enc : TypeId × Value → H} {P : Program} {W : World}
theorem one_of {cs : List Value} {v : Value} (h : cs = [v]) {x : AV} (hr : ∀ r, x.rel r v) : ∀ r, All2 (AV.rel r) [x] cs := fun r => by subst h; exact ⟨hr r, trivial⟩
theorem open_rowS {T E : TypeId} (hT : P.underlying T = some (.slice E)) (hE : P.underlying E = some .string) (hz : P.cellsOf E = 1) {rc : Reach} {b0 : Nat} {v : Value} {d : DataW H} {ps : List MemPlace} (hval : Value.okWide P W rc b0 T v)
    (h : DataW.Trod enc P W 0 (fun _ => true) true T v d ps) : ∃ (l : List (List UInt8)) (p : Option (Blk × Nat)), ArgR W (.arr _ strL l) 1 l.length v p ∧ l.length ≤ maxLen ∧ ∀ x ∈ l, x.length ≤ maxLen :=
  open_row (L := strL) hT hz (by decide) (fun n cs y hy _ => by
    obtain ⟨s, h1, _, h3⟩ := DataW.trod_string hE hy
    exact ⟨s.data.toList, by simpa using h3, one_of h1 fun r => by show Value.string s = .string ⟨s.data.toList.toArray⟩; simp⟩) hval h
theorem open_rowB {T E : TypeId} (hT : P.underlying T = some (.slice E)) (hE : P.underlying E = some (.int .u8)) (hz : P.cellsOf E = 1) {rc : Reach} {b0 : Nat} {v : Value} {d : DataW H} {ps : List MemPlace} (hval : Value.okWide P W rc b0 T v)
    (h : DataW.Trod enc P W 0 (fun _ => true) true T v d ps) : ∃ (l : List UInt8) (p : Option (Blk × Nat)), ArgR W (.arr _ u8L l) 1 l.length v p ∧ l.length ≤ maxLen ∧ ∀ x ∈ l, True :=
  open_row (L := u8L) hT hz (by decide) (fun n cs y hy _ => by
    obtain ⟨x, h1, _, h3⟩ := DataW.trod_int hE hy
    simp only [Lit.wf, Bool.and_eq_true, decide_eq_true_eq] at h3
    have hx : (0 : Int) ≤ x ∧ x ≤ 255 := h3
    refine ⟨UInt8.ofNat x.toNat, trivial, one_of h1 fun r => ?_⟩
    show Value.int .u8 x = .int .u8 ((UInt8.ofNat x.toNat).toNat : Int)
    congr 1
    simp only [UInt8.toNat_ofNat']
    omega) hval h
end
end Go.Proofs.YtgfcdkbbkgamnaaDoor
