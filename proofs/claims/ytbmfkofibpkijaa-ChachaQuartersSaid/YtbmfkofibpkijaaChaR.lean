/-
  Layer 5: the document's Quarter; the walk of ChachaQuarters.
-/
import Derived.Test.YtbmfkofibpkijaaChaQ
namespace Go.Proofs.Ytbmfkofibpkijaa
open Go Go.RowKit

theorem quartQ_qr (a b c d : UInt32) : quartQ [a, b, c, d] 0 1 2 3 2 = [(qr a b c d).1, (qr a b c d).2.1, (qr a b c d).2.2.1, (qr a b c d).2.2.2] := rfl
set_option maxRecDepth 100000 in
theorem refQuarter_any (a b c d : UInt32) (w : World) :
    Calls Try.prog 10 #[.int .u32 (W a), .int .u32 (W b), .int .u32 (W c), .int .u32 (W d)] w fun e w' =>
      e = .returned (.slice (some ⟨w.heap.size, 0, none⟩) 4 4) ∧ Blk w' w.heap.size 22 (cellsW [(qr a b c d).1, (qr a b c d).2.1, (qr a b c d).2.2.1, (qr a b c d).2.2.2]) ∧ Below w.heap.size w w' := by
  have B0 : Blk (w.alloc (.cells (cellsW [a, b, c, d]) 22)) w.heap.size 22 (cellsW [a, b, c, d]) := Blk.new w _ _
  have hq := quarterQ_any [a, b, c, d] w.heap.size 4 0 1 2 3 rfl (by omega) (by omega) (by omega) (by omega) (by omega) _ _ B0
  rw [quartQ_qr] at hq
  generalize (qr a b c d) = q at *
  go_enter Try.func10, Try.ntmps10
  go_wp2_with (first | (go_at_call 17; refine Calls.mono hq ?_; rintro e w1 ⟨rfl, B1, O1⟩))
  go_ret
  exact ⟨rfl, B1, below_only ((Below.refl _ _).alloc (Nat.le_refl _) _) O1 (Nat.le_refl _) (Nat.le_refl _)⟩
set_option maxRecDepth 100000 in
theorem quarters_law (a : Int) (wa : (Lit.int .u32 a).wf = true) (b : Int) (wb : (Lit.int .u32 b).wf = true) (c : Int) (wc : (Lit.int .u32 c).wf = true) (d : Int) (wd : (Lit.int .u32 d).wf = true) (w : World) :
    Calls Try.prog 3 #[.int .u32 a, .int .u32 b, .int .u32 c, .int .u32 d] w fun e w' => e = .returned (.bool true) ∧ Below w.heap.size w w' := by
  obtain ⟨a, rfl⟩ := word_of_wf wa
  obtain ⟨b, rfl⟩ := word_of_wf wb
  obtain ⟨c, rfl⟩ := word_of_wf wc
  obtain ⟨d, rfl⟩ := word_of_wf wd
  have h1 := fun w => quarter_any a b c d w
  have h2 := refQuarter_any a b c d w
  generalize (qr a b c d) = q at *
  go_enter Try.func3, Try.ntmps3
  go_wp2_with (first
    | (go_at_call 9; refine (h1 _).mono ?_; rintro e w' ⟨rfl, rfl⟩)
    | (go_at_call 10; refine h2.mono ?_; rintro e w1 ⟨rfl, B1, L1⟩; have c0 : w1.cell? ⟨w.heap.size, 0, none⟩ = some (.int .u32 (W q.1)) := B1.wcell 0 (by simp); have c1 : w1.cell? ⟨w.heap.size, 1, none⟩ = some (.int .u32 (W q.2.1)) := B1.wcell 1 (by simp); have c2 : w1.cell? ⟨w.heap.size, 2, none⟩ = some (.int .u32 (W q.2.2.1)) := B1.wcell 2 (by simp); have c3 : w1.cell? ⟨w.heap.size, 3, none⟩ = some (.int .u32 (W q.2.2.2)) := B1.wcell 3 (by simp); clear B1)
    | (go_at_call 11; refine (awake_any _).mono ?_; rintro e w' ⟨rfl, rfl⟩))
  go_ret
  exact ⟨rfl, L1⟩
end Go.Proofs.Ytbmfkofibpkijaa
