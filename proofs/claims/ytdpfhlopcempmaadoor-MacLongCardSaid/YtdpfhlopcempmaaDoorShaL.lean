/-
  Layer 1: from the row's condition on the table to the walks' fact.
-/
import Derived.Test.YtdpfhlopcempmaaDoorShaH
import Derived.MakeChecks
namespace Go.Proofs.YtdpfhlopcempmaaDoor
open Go Go.RowKit

theorem laid_of {w : World} (h : laidMetH Tryd.prog [("mailsack/sha.constants", Rows.laid_mailsack_sha_constants)] w) : Laid w := by
  rw [MakeChecks.laidMetH_plain _ _ _ (by kernel_rfl)] at h
  have h' : laidMet Tryd.prog [("mailsack/sha.constants", Lib.tabData .u32 (KL.map W))] w := h
  have ht := Lib.tabIs_of_head (P := Tryd.prog) (k := .u32) (t := 50) (e := 25) (n := 64) (g := 0) (by kernel_rfl) (by kernel_rfl) Tryd.underlying50 Tryd.underlying25 (by kernel_rfl) (by kernel_rfl) h'
  intro i hi
  have := ht.cell (by kernel_rfl : Tryd.prog.globalNamed "mailsack/sha.constants" = some 0) i (by rw [List.length_map]; exact hi)
  rw [this]
  have hk : i < KL.length := hi
  simp [List.getD_eq_getElem?_getD, hk]
theorem digits_law (s : ByteArray) (_hs : s.size ≤ maxLen) (w : World) (hL : Laid w) :
    Calls Tryd.prog 7 #[.string s] w fun en w' => en = .returned (.bool true) ∧ Below w.heap.size w w' := digits_walk s w hL
end Go.Proofs.YtdpfhlopcempmaaDoor
