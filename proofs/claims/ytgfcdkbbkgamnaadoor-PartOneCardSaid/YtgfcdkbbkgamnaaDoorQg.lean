/-
  From the row's condition to the facts on variables, layer 19.
-/
import Derived.Test.YtgfcdkbbkgamnaaDoorQl
import Derived.Test.YtgfcdkbbkgamnaaDoorRows
import Derived.MakeChecks
import Derived.Stop.LaidErr
namespace Go.Proofs.YtgfcdkbbkgamnaaDoor
open Go Go.RowKit Go.ChangeShapes
theorem gl_part {W : World} {p : Prop} (hsh : W.ShapedOpen Tryd.prog) (_hL : p) : ∀ f ∈ GM, f.p W := by
  intro f hf
  simp only [GM, List.mem_cons, List.not_mem_nil, or_false] at hf
  subst hf
  exact cell_of_shapedOpen_int (P := Tryd.prog) (g := 0) (t := 3) (zero := #[.int .i64 0]) hsh (of_decide_eq_true (by kernel_rfl)) (by kernel_rfl) rfl (by kernel_rfl) (by kernel_rfl) Tryd.underlying3
end Go.Proofs.YtgfcdkbbkgamnaaDoor
