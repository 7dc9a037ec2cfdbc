/-
  A region that draws its order, whose callees may make memory: one walk, in the order of the text, over a class of worlds. It speaks of no program.
-/
import Derived.Test.YtdpfhlopcempmaaDoorMem
import Derived.Deep.QuietTactic
import Derived.BigQuiet
namespace Go.Proofs.YtdpfhlopcempmaaDoor
open Go Go.RowKit

/-- A world of the class. -/
structure RW (R : World → Prop) where
  u : World
  h : R u
theorem region_class {P : Program} {R : World → Prop} {id : Nat} {Q : Exit → Act → World → Prop} {a : Act} {w : World} {l : List Oper} (hR : R w.drew) (hm : P.follows .mixedOrders = true) (hB : Region.lexB .any l.toArray = true)
    (h : Nonempty (RW R) → wpQuiet P l.toArray (fun w' => ∃ x : RW R, w' = x.u) (fun a' => ∀ x : RW R, Q .normal a' x.u) l a) : (Code.region id l.toArray true).wp P Q a w := by
  refine wp_region_quiet (C := fun w' => ∃ x : RW R, w' = x.u) hm hB ⟨⟨_, hR⟩, rfl⟩ ?_
  have e : (fun a' : Act => ∀ w', (∃ x : RW R, w' = x.u) → Q .normal a' w') = (fun a' => ∀ x : RW R, Q .normal a' x.u) := by
    funext a'
    exact propext ⟨fun h x => h _ ⟨x, rfl⟩, fun h w' ⟨x, hx⟩ => hx ▸ h x⟩
  rw [e]
  exact h ⟨⟨_, hR⟩⟩
theorem class_of {P : Program} {R : World → Prop} {f : FuncId} {args : Array Value} {v : Value} {x : RW R} (hR : ∀ w', R x.u → Below x.u.heap.size x.u w' → R w')
    (h : Calls P f args x.u fun e w' => e = .returned v ∧ Below x.u.heap.size x.u w') : Calls P f args x.u fun e w'' => e = .returned v ∧ ∃ y : RW R, w'' = y.u :=
  h.mono fun _ _ ⟨h1, h2⟩ => ⟨h1, ⟨_, hR _ x.h h2⟩, rfl⟩
end Go.Proofs.YtdpfhlopcempmaaDoor
