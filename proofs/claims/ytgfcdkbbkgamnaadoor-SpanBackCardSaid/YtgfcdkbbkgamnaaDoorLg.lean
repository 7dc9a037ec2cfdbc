/-
  From the row's condition to the facts on variables.
-/
import Derived.Test.YtgfcdkbbkgamnaaDoorLl
import Derived.Test.YtgfcdkbbkgamnaaDoorRows
import Derived.MakeChecks
import Derived.Stop.LaidErr
namespace Go.Proofs.YtgfcdkbbkgamnaaDoor
open Go Go.RowKit Go.ChangeShapes
theorem max_of {W : World} (hsh : W.ShapedOpen Tryd.prog) : gMax.p W :=
  cell_of_shapedOpen_int (P := Tryd.prog) (g := 0) (t := 3) (zero := #[.int .i64 0]) hsh (of_decide_eq_true (by kernel_rfl)) (by kernel_rfl) rfl (by kernel_rfl) (by kernel_rfl) Tryd.underlying3
theorem pow_of {W : World} {r : List (String × DataW Unit)} (h : laidMet Tryd.prog (("internal/strconv.uint64pow10", Rows.laid_internal_strconv_uint64pow10) :: r) W) : gPow.p W := by
  have h' : laidMet Tryd.prog (("internal/strconv.uint64pow10", Lib.tabData .u64 Lib.pow10Tab) :: r) W := h
  exact Lib.tabIs_of_head (P := Tryd.prog) (k := .u64) (t := 145) (e := 128) (n := 20) (g := 1) (by kernel_rfl) (by kernel_rfl) Tryd.underlying145 Tryd.underlying128 (by kernel_rfl) (by kernel_rfl) h'
theorem iface_of {W : World} {n nm : String} {d : DataW Unit} {r : List (String × DataW Unit)} {g : Nat} (hg : Tryd.prog.globalNamed n = some g) (ht : (Tryd.prog.globals[g]?).map (·.type) = some 97) (h : laidMet Tryd.prog ((n, .iface nm d) :: r) W) : (gIface g).p W := by
  obtain ⟨ps, ⟨g0, t0, cs0, f0, p0, q0, hg0, ht0, hv0, hd0, _, e0⟩, _⟩ := h
  obtain rfl := Option.some.inj (hg.symm.trans hg0)
  obtain rfl := Option.some.inj (ht.symm.trans ht0)
  obtain ⟨l0⟩ := cs0
  obtain ⟨_, u, v, e, _⟩ := iface_of_trod Tryd.underlying97 hd0
  have e : l0 = [.iface u v] := e
  subst e
  have hc := World.var?_cell hg0 hv0 0
  exact ⟨.iface u v, by simpa using hc, .inr ⟨u, v, rfl⟩⟩
theorem gl_lines {W : World} (hsh : W.ShapedOpen Tryd.prog) (hL : laidMetH Tryd.prog Rows.linesNextRow.laid W) : ∀ f ∈ GL, f.p W := by
  rw [MakeChecks.laidMetH_plain _ _ _ (by kernel_rfl)] at hL
  have h2 : laidMet Tryd.prog (_ :: _ :: _ :: _ :: _ :: []) W := hL
  intro f hf
  simp only [GL, List.mem_cons, List.not_mem_nil, or_false] at hf
  rcases hf with rfl | rfl | rfl | rfl
  · exact max_of hsh
  · exact iface_of (by kernel_rfl) (by kernel_rfl) h2.tail.tail.tail.tail
  · exact iface_of (by kernel_rfl) (by kernel_rfl) h2.tail.tail.tail
  · exact pow_of h2.tail.tail
end Go.Proofs.YtgfcdkbbkgamnaaDoor
