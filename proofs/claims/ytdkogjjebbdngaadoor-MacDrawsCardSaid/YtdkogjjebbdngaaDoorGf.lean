/-
  What is known of variables that nobody writes; contracts of library functions as the walk by reckoning takes them.
-/
import Derived.Test.YtdkogjjebbdngaaDoorSt
import Derived.Test.YtdkogjjebbdngaaDoorProg
import Derived.Lib.LaidTab
import Derived.Lib.AtoiErrMem
import Derived.Sort.Grow
import Derived.Lib.ItoaNum
import Derived.Lib.Itoa
import Derived.Shelf.Vars
namespace Go.Proofs.YtdkogjjebbdngaaDoor
open Go Go.RowKit
set_option linter.unusedSimpArgs false
set_option linter.unusedVariables false
theorem cell_same {w w' : World} {g : Nat} (h : w'.heap[g]? = w.heap[g]?) (j : Nat) : w'.cell? ⟨g, j, none⟩ = w.cell? ⟨g, j, none⟩ := by
  simp only [World.cell?, h]
def gInt (g : Nat) : GFact where
  g := g
  p w := ∃ m, w.cell? ⟨g, 0, none⟩ = some (.int .i64 m)
  lt w h := by obtain ⟨m, hm⟩ := h; exact Lib.lt_of_cell hm
  st w w' h hp := by obtain ⟨m, hm⟩ := hp; exact ⟨m, by rw [cell_same h]; exact hm⟩
def gIface (g : Nat) : GFact where
  g := g
  p w := ∃ v, w.cell? ⟨g, 0, none⟩ = some v ∧ (v = .nilIface ∨ ∃ te pe, v = .iface te pe)
  lt w h := by obtain ⟨m, hm, _⟩ := h; exact Lib.lt_of_cell hm
  st w w' h hp := by obtain ⟨m, hm, hv⟩ := hp; exact ⟨m, by rw [cell_same h]; exact hm, hv⟩
theorem tab_lt {P : Program} {w : World} {name : String} {k : IntKind} {zs : List Int} {g : Nat} (hg : P.globalNamed name = some g) (h : Lib.TabIs P w name k zs) : g < w.heap.size := by
  unfold Lib.TabIs World.var? at h
  rw [hg] at h
  simp only [Option.bind_some] at h
  cases hq : w.heap[g]? with
  | none => rw [hq] at h; cases h
  | some o => exact (Array.getElem?_eq_some_iff.1 hq).1
def gTab (P : Program) (name : String) (k : IntKind) (zs : List Int) (g : Nat) (hg : P.globalNamed name = some g) : GFact where
  g := g
  p w := Lib.TabIs P w name k zs
  lt w h := tab_lt hg h
  st w w' h hp := by
    unfold Lib.TabIs World.var? at hp ⊢
    rw [hg] at hp ⊢
    simp only [Option.bind_some] at hp ⊢
    rw [h]; exact hp
theorem below_drewN (w : World) (n : Nat) : Below w.heap.size w (w.drewN n) := ⟨rfl, rfl, rfl, Nat.le_refl _, fun _ _ => rfl⟩
theorem below_growN (w : World) (k : Nat) (os : Array Obj) : Below w.heap.size w (Sort.grow (w.drewN k) os) := ⟨rfl, rfl, rfl, by simp [Sort.grow, World.drewN], fun j hj => by
  show (w.heap ++ os)[j]? = _
  rw [Array.getElem?_append_left hj]⟩
theorem all2_one {R : CV → Value → Prop} {a : CV} {vals : List Value} (h : All2 R [a] vals) : ∃ u, vals = [u] ∧ R a u := by
  match vals, h with
  | [u], ⟨h1, _⟩ => exact ⟨u, rfl, h1⟩
theorem all2_two {R : CV → Value → Prop} {a b : CV} {vals : List Value} (h : All2 R [a, b] vals) : ∃ u v, vals = [u, v] ∧ R a u ∧ R b v := by
  match vals, h with
  | [u, v], ⟨h1, h2, _⟩ => exact ⟨u, v, rfl, h1, h2⟩
end Go.Proofs.YtdkogjjebbdngaaDoor
