/-
  From the condition of layer 14's rows to the facts on variables.
-/
import Derived.Test.YtgfcdkbbkgamnaaDoorLg
namespace Go.Proofs.YtgfcdkbbkgamnaaDoor
open Go Go.RowKit Go.ChangeShapes
theorem gl_span {W : World} (hsh : W.ShapedOpen Tryd.prog) (hL : laidMetH Tryd.prog Rows.spanParsesRow.laid W) : ∀ f ∈ GL, f.p W := by
  rw [MakeChecks.laidMetH_plain _ _ _ (by kernel_rfl)] at hL
  have h2 : laidMet Tryd.prog (_ :: _ :: _ :: _ :: _ :: _ :: _ :: []) W := hL
  intro f hf
  simp only [GL, List.mem_cons, List.not_mem_nil, or_false] at hf
  rcases hf with rfl | rfl | rfl | rfl
  · exact max_of hsh
  · exact iface_of (by kernel_rfl) (by kernel_rfl) h2.tail.tail.tail.tail.tail
  · exact iface_of (by kernel_rfl) (by kernel_rfl) h2.tail.tail.tail.tail
  · exact pow_of h2.tail.tail
end Go.Proofs.YtgfcdkbbkgamnaaDoor
