/-
  Layer 5: the document's quarter round.
-/
import Derived.Test.YtbmfkofibpkijaaChaB
import Derived.Test.YtbmfkofibpkijaaMem
import Derived.Test.YtbmfkofibpkijaaPlan
import Derived.Deep.QuietTactic
import Derived.BigQuiet
import Derived.StillTailTactics
import Derived.Deep.RegionHeld3
import Derived.BigRegion
namespace Go.Proofs.Ytbmfkofibpkijaa
open Go Go.RowKit

theorem left16_any (x : UInt32) (w : World) :
    Calls Try.prog 22 #[.int .u32 (W x), .int .i64 16] w fun e w' => e = .returned (.int .u32 (W (rotl x 16))) ∧ ∃ n, w' = w.drewN n := by
  have h := W_rot x 16 65536 65536 (by decide) (by decide) (by decide) (by decide)
  go_enter Try.func22, Try.ntmps22
  go_wp2
  go_quiet (fail)
  go_wp2
  go_ret
  exact ⟨rfl, _, rfl⟩
theorem left12_any (x : UInt32) (w : World) :
    Calls Try.prog 22 #[.int .u32 (W x), .int .i64 12] w fun e w' => e = .returned (.int .u32 (W (rotl x 12))) ∧ ∃ n, w' = w.drewN n := by
  have h := W_rot x 12 4096 1048576 (by decide) (by decide) (by decide) (by decide)
  go_enter Try.func22, Try.ntmps22
  go_wp2
  go_quiet (fail)
  go_wp2
  go_ret
  exact ⟨rfl, _, rfl⟩
theorem left8_any (x : UInt32) (w : World) :
    Calls Try.prog 22 #[.int .u32 (W x), .int .i64 8] w fun e w' => e = .returned (.int .u32 (W (rotl x 8))) ∧ ∃ n, w' = w.drewN n := by
  have h := W_rot x 8 256 16777216 (by decide) (by decide) (by decide) (by decide)
  go_enter Try.func22, Try.ntmps22
  go_wp2
  go_quiet (fail)
  go_wp2
  go_ret
  exact ⟨rfl, _, rfl⟩
theorem left7_any (x : UInt32) (w : World) :
    Calls Try.prog 22 #[.int .u32 (W x), .int .i64 7] w fun e w' => e = .returned (.int .u32 (W (rotl x 7))) ∧ ∃ n, w' = w.drewN n := by
  have h := W_rot x 7 128 33554432 (by decide) (by decide) (by decide) (by decide)
  go_enter Try.func22, Try.ntmps22
  go_wp2
  go_quiet (fail)
  go_wp2
  go_ret
  exact ⟨rfl, _, rfl⟩
/-- The word at a place. -/
def gW (xs : List UInt32) (i : Nat) : UInt32 := xs[i]?.getD 0
theorem gW_set (xs : List UInt32) (i j : Nat) (x : UInt32) (hi : i < xs.length) : gW (xs.set i x) j = if i = j then x else gW xs j := by
  unfold gW
  rw [List.getElem?_set]
  by_cases h : i = j
  · subst h; simp [hi]
  · simp [h]
/-- Half a quarter round, at four places. -/
def halfQ (xs : List UInt32) (a b c d r t : Nat) : List UInt32 :=
  let x1 := xs.set a (gW xs a + gW xs b)
  let x2 := x1.set d (rotl (gW x1 d ^^^ gW x1 a) r)
  let x3 := x2.set c (gW x2 c + gW x2 d)
  x3.set b (rotl (gW x3 b ^^^ gW x3 c) t)
theorem halfQ_length (xs : List UInt32) (a b c d r t : Nat) : (halfQ xs a b c d r t).length = xs.length := by simp [halfQ]
/-- Behind k halves. -/
def quartQ (xs : List UInt32) (a b c d : Nat) : Nat → List UInt32
  | 0 => xs
  | 1 => halfQ xs a b c d 16 12
  | _ => halfQ (halfQ xs a b c d 16 12) a b c d 8 7
theorem quartQ_length (xs : List UInt32) (a b c d k : Nat) : (quartQ xs a b c d k).length = xs.length := by
  rcases k with _ | _ | k <;> simp [quartQ, halfQ_length]
/-- One operation of a half: what lies at i becomes x. -/
theorem Blk.wput {w : World} {g : Nat} {t : TypeId} {xs : List UInt32} (h : Blk w g t (cellsW xs)) (i : Nat) (x : UInt32) : Blk (w.setCell ⟨g, i, none⟩ (.int .u32 (W x))) g t (cellsW (xs.set i x)) := by
  rw [← cellsW_set]; exact h.put i _
theorem Blk.wcell {w : World} {g : Nat} {t : TypeId} {xs : List UInt32} (h : Blk w g t (cellsW xs)) (i : Nat) (hi : i < xs.length) : w.cell? ⟨g, i, none⟩ = some (.int .u32 (W (gW xs i))) :=
  (h.cell i).trans (cellsW_get xs i hi)
set_option maxRecDepth 100000 in
set_option maxHeartbeats 1000000 in
theorem quarterQ_any (xs : List UInt32) (g n a b c d : Nat) (hn : xs.length = n) (_hn2 : n ≤ 16) (ha : a < n) (hb : b < n) (hc : c < n) (hd : d < n) (w : World) (T : TypeId) (HB1 : Blk w g T (cellsW xs)) :
    Calls Try.prog 17 #[.slice (some ⟨g, 0, none⟩) n n, .int .i64 a, .int .i64 b, .int .i64 c, .int .i64 d] w fun e w' =>
      e = .returned (.tuple #[]) ∧ Blk w' g T (cellsW (quartQ xs a b c d 2)) ∧ w.grownBy w' (some g) := by
  have hadd := W_add
  have hx := W_xor
  have H := Lib.hid HB1
  have HN := Lib.hid hn
  clear HB1 hn
  go_enter Try.func17, Try.ntmps17
  go_wp2
  have H2 := Lib.hid (H.out.alloc (.cells #[.int .i64 16, .int .i64 8] 3))
  have N2 := Lib.hid (Blk.new w 3 #[.int .i64 16, .int .i64 8])
  have hgg : w.heap.size ≠ g := by have := H.out.lt; omega
  generalize hgn : w.heap.size = gn at *
  go_loopw [14] (fun i wr => ∃ k : Nat, k ≤ 2 ∧ i = .int .i64 k ∧ Hid (Blk wr g T (cellsW (quartQ xs a b c d k)) ∧ Blk wr gn 3 #[.int .i64 16, .int .i64 8] ∧ w.grownBy wr (some g))) (fun i _ => 2 - (intOf i).toNat)
  case atStart => exact ⟨0, by omega, rfl, Lib.hid ⟨H2.out, N2.out, only_alloc (only_refl _ _) _⟩⟩
  case round =>
    obtain ⟨k, hk, rfl, HH⟩ := hrel
    have iA : (a : Int) < (n : Int) := by omega
    have iB : (b : Int) < (n : Int) := by omega
    have iC : (c : Int) < (n : Int) := by omega
    have iD : (d : Int) < (n : Int) := by omega
    have nA : 0 ≤ (a : Int) := by omega
    have nB : 0 ≤ (b : Int) := by omega
    have nC : 0 ≤ (c : Int) := by omega
    have nD : 0 ≤ (d : Int) := by omega
    rcases k with _ | _ | _ | k
    · have cN := HH.out.2.1.cell 0
      obtain ⟨x0, hx0⟩ : ∃ q, q = quartQ xs a b c d 0 := ⟨_, rfl⟩
      have hl0 : x0.length = n := by rw [hx0, quartQ_length, HN.out]
      rw [← hx0] at HH
      have HX0 := Lib.hid hx0
      clear hx0
      have B0 := Lib.hid HH.out.1
      have O0 := Lib.hid HH.out.2.2
      have N0 := Lib.hid HH.out.2.1
      obtain ⟨w0, hw0⟩ : ∃ w0, w0 = wr := ⟨_, rfl⟩
      subst hw0
      have c1 := B0.out.wcell a (by omega)
      have c2 := B0.out.wcell b (by omega)
      have f1 := B0.out.free a
      go_wp2_with fail
      refine region_tail 12 (by kernel_rfl) (by kernel_rfl) ?_
      simp only [List.take_succ_cons, List.take_zero, List.drop_succ_cons, List.drop_zero]
      repeat still_step
      try refine wpStill_nil ?_
      go_wp2_with fail
      try rw [W_add]
      have B1 := Lib.hid ((B0.out.wput a (gW x0 a + gW x0 b)).drew)
      have O1 := Lib.hid (only_drew (only_setCell O0.out (p := ⟨g, a, none⟩) (Or.inl rfl) (.int .u32 (W (gW x0 a + gW x0 b)))))
      have N1 := Lib.hid ((N0.out.far (p := ⟨g, a, none⟩) hgg (.int .u32 (W (gW x0 a + gW x0 b)))).drew)
      generalize (w0.setCell ⟨g, a, none⟩ (.int .u32 (W (gW x0 a + gW x0 b)))).drew = w1 at B1 O1 N1 ⊢
      obtain ⟨x1, hx1⟩ : ∃ x, x = x0.set a (gW x0 a + gW x0 b) := ⟨_, rfl⟩
      rw [← hx1] at B1
      have hl1 : x1.length = n := by rw [hx1, List.length_set, hl0]
      clear f1 c1 c2 B0 O0 N0
      have HX1 := Lib.hid hx1
      clear hx1
      have c1 := B1.out.wcell d (by omega)
      have c2 := B1.out.wcell a (by omega)
      have f1 := B1.out.free d
      go_wp2_with fail
      refine region_plan [(0, [0, 1, 2, 3, 4, 6, 7, 8, 11]), (1, [5, 9]), (0, [10]), (2, [12, 13, 14])] (by kernel_rfl) (by kernel_rfl) ?_
      refine plan_pure ?_
      simp only [pickL, List.getElem?_toArray, List.getElem?_cons_succ, List.getElem?_cons_zero]
      repeat (go_big_quiet_step (fail))
      refine wpQuiet_nil ?_
      refine plan_still ?_
      simp only [pickL, List.getElem?_toArray, List.getElem?_cons_succ, List.getElem?_cons_zero]
      repeat still_step
      refine wpStill_nil ?_
      refine plan_pure ?_
      simp only [pickL, List.getElem?_toArray, List.getElem?_cons_succ, List.getElem?_cons_zero]
      repeat (go_big_quiet_step (fail))
      refine wpQuiet_nil ?_
      refine plan_seq ?_
      simp only [pickL, List.getElem?_toArray, List.getElem?_cons_succ, List.getElem?_cons_zero]
      go_wp2_with (first | (go_at_call 22; ((with_reducible refine (left16_any _ _).mono ?_); rintro e w' ⟨rfl, q2, rfl⟩)))
      refine plan_nil ?_
      have B2 := Lib.hid ((B1.out.drewN (1 + q2)).wput d (rotl (gW x1 d ^^^ gW x1 a) 16))
      have O2 := Lib.hid (only_setCell (only_drewN O1.out (1 + q2)) (p := ⟨g, d, none⟩) (Or.inl rfl) (.int .u32 (W (rotl (gW x1 d ^^^ gW x1 a) 16))))
      have N2 := Lib.hid ((N1.out.drewN (1 + q2)).far (p := ⟨g, d, none⟩) hgg (.int .u32 (W (rotl (gW x1 d ^^^ gW x1 a) 16))))
      generalize (w1.drewN (1 + q2)).setCell ⟨g, d, none⟩ (.int .u32 (W (rotl (gW x1 d ^^^ gW x1 a) 16))) = w2 at B2 O2 N2 ⊢
      obtain ⟨x2, hx2⟩ : ∃ x, x = x1.set d (rotl (gW x1 d ^^^ gW x1 a) 16) := ⟨_, rfl⟩
      rw [← hx2] at B2
      have hl2 : x2.length = n := by rw [hx2, List.length_set, hl1]
      clear f1 c1 c2 B1 O1 N1
      have HX2 := Lib.hid hx2
      clear hx2
      have c1 := B2.out.wcell c (by omega)
      have c2 := B2.out.wcell d (by omega)
      have f1 := B2.out.free c
      go_wp2_with fail
      refine region_tail 12 (by kernel_rfl) (by kernel_rfl) ?_
      simp only [List.take_succ_cons, List.take_zero, List.drop_succ_cons, List.drop_zero]
      repeat still_step
      try refine wpStill_nil ?_
      go_wp2_with fail
      try rw [W_add]
      have B3 := Lib.hid ((B2.out.wput c (gW x2 c + gW x2 d)).drew)
      have O3 := Lib.hid (only_drew (only_setCell O2.out (p := ⟨g, c, none⟩) (Or.inl rfl) (.int .u32 (W (gW x2 c + gW x2 d)))))
      have N3 := Lib.hid ((N2.out.far (p := ⟨g, c, none⟩) hgg (.int .u32 (W (gW x2 c + gW x2 d)))).drew)
      generalize (w2.setCell ⟨g, c, none⟩ (.int .u32 (W (gW x2 c + gW x2 d)))).drew = w3 at B3 O3 N3 ⊢
      obtain ⟨x3, hx3⟩ : ∃ x, x = x2.set c (gW x2 c + gW x2 d) := ⟨_, rfl⟩
      rw [← hx3] at B3
      have hl3 : x3.length = n := by rw [hx3, List.length_set, hl2]
      clear f1 c1 c2 B2 O2 N2
      have HX3 := Lib.hid hx3
      clear hx3
      have c1 := B3.out.wcell b (by omega)
      have c2 := B3.out.wcell c (by omega)
      have f1 := B3.out.free b
      go_wp2_with fail
      refine region_plan [(0, [0, 1, 2, 3, 4, 6, 7, 8]), (1, [5, 9]), (0, [10]), (2, [11, 12, 13])] (by kernel_rfl) (by kernel_rfl) ?_
      refine plan_pure ?_
      simp only [pickL, List.getElem?_toArray, List.getElem?_cons_succ, List.getElem?_cons_zero]
      repeat (go_big_quiet_step (fail))
      refine wpQuiet_nil ?_
      refine plan_still ?_
      simp only [pickL, List.getElem?_toArray, List.getElem?_cons_succ, List.getElem?_cons_zero]
      repeat still_step
      refine wpStill_nil ?_
      refine plan_pure ?_
      simp only [pickL, List.getElem?_toArray, List.getElem?_cons_succ, List.getElem?_cons_zero]
      repeat (go_big_quiet_step (fail))
      refine wpQuiet_nil ?_
      refine plan_seq ?_
      simp only [pickL, List.getElem?_toArray, List.getElem?_cons_succ, List.getElem?_cons_zero]
      go_wp2_with (first | (go_at_call 22; ((with_reducible refine (left12_any _ _).mono ?_); rintro e w' ⟨rfl, q4, rfl⟩)))
      refine plan_nil ?_
      have B4 := Lib.hid ((B3.out.drewN (1 + q4)).wput b (rotl (gW x3 b ^^^ gW x3 c) 12))
      have O4 := Lib.hid (only_setCell (only_drewN O3.out (1 + q4)) (p := ⟨g, b, none⟩) (Or.inl rfl) (.int .u32 (W (rotl (gW x3 b ^^^ gW x3 c) 12))))
      have N4 := Lib.hid ((N3.out.drewN (1 + q4)).far (p := ⟨g, b, none⟩) hgg (.int .u32 (W (rotl (gW x3 b ^^^ gW x3 c) 12))))
      generalize (w3.drewN (1 + q4)).setCell ⟨g, b, none⟩ (.int .u32 (W (rotl (gW x3 b ^^^ gW x3 c) 12))) = w4 at B4 O4 N4 ⊢
      obtain ⟨x4, hx4⟩ : ∃ x, x = x3.set b (rotl (gW x3 b ^^^ gW x3 c) 12) := ⟨_, rfl⟩
      rw [← hx4] at B4
      have hl4 : x4.length = n := by rw [hx4, List.length_set, hl3]
      clear f1 c1 c2 B3 O3 N3
      have HX4 := Lib.hid hx4
      clear hx4
      have HE : x4 = quartQ xs a b c d 1 := by
        rw [HX4.out, HX3.out, HX2.out, HX1.out, HX0.out]; rfl
      go_wp2
      go_roundw
      case rel => exact ⟨1, by omega, by go_num, Lib.hid ⟨by rw [← HE]; exact B4.out, N4.out, O4.out⟩⟩
      case measure => simp [intOf]
    · have cN := HH.out.2.1.cell 1
      obtain ⟨x0, hx0⟩ : ∃ q, q = quartQ xs a b c d (0 + 1) := ⟨_, rfl⟩
      have hl0 : x0.length = n := by rw [hx0, quartQ_length, HN.out]
      rw [← hx0] at HH
      have HX0 := Lib.hid hx0
      clear hx0
      have B0 := Lib.hid HH.out.1
      have O0 := Lib.hid HH.out.2.2
      have N0 := Lib.hid HH.out.2.1
      obtain ⟨w0, hw0⟩ : ∃ w0, w0 = wr := ⟨_, rfl⟩
      subst hw0
      have c1 := B0.out.wcell a (by omega)
      have c2 := B0.out.wcell b (by omega)
      have f1 := B0.out.free a
      go_wp2_with fail
      refine region_tail 12 (by kernel_rfl) (by kernel_rfl) ?_
      simp only [List.take_succ_cons, List.take_zero, List.drop_succ_cons, List.drop_zero]
      repeat still_step
      try refine wpStill_nil ?_
      go_wp2_with fail
      try rw [W_add]
      have B1 := Lib.hid ((B0.out.wput a (gW x0 a + gW x0 b)).drew)
      have O1 := Lib.hid (only_drew (only_setCell O0.out (p := ⟨g, a, none⟩) (Or.inl rfl) (.int .u32 (W (gW x0 a + gW x0 b)))))
      have N1 := Lib.hid ((N0.out.far (p := ⟨g, a, none⟩) hgg (.int .u32 (W (gW x0 a + gW x0 b)))).drew)
      generalize (w0.setCell ⟨g, a, none⟩ (.int .u32 (W (gW x0 a + gW x0 b)))).drew = w1 at B1 O1 N1 ⊢
      obtain ⟨x1, hx1⟩ : ∃ x, x = x0.set a (gW x0 a + gW x0 b) := ⟨_, rfl⟩
      rw [← hx1] at B1
      have hl1 : x1.length = n := by rw [hx1, List.length_set, hl0]
      clear f1 c1 c2 B0 O0 N0
      have HX1 := Lib.hid hx1
      clear hx1
      have c1 := B1.out.wcell d (by omega)
      have c2 := B1.out.wcell a (by omega)
      have f1 := B1.out.free d
      go_wp2_with fail
      refine region_plan [(0, [0, 1, 2, 3, 4, 6, 7, 8, 11]), (1, [5, 9]), (0, [10]), (2, [12, 13, 14])] (by kernel_rfl) (by kernel_rfl) ?_
      refine plan_pure ?_
      simp only [pickL, List.getElem?_toArray, List.getElem?_cons_succ, List.getElem?_cons_zero]
      repeat (go_big_quiet_step (fail))
      refine wpQuiet_nil ?_
      refine plan_still ?_
      simp only [pickL, List.getElem?_toArray, List.getElem?_cons_succ, List.getElem?_cons_zero]
      repeat still_step
      refine wpStill_nil ?_
      refine plan_pure ?_
      simp only [pickL, List.getElem?_toArray, List.getElem?_cons_succ, List.getElem?_cons_zero]
      repeat (go_big_quiet_step (fail))
      refine wpQuiet_nil ?_
      refine plan_seq ?_
      simp only [pickL, List.getElem?_toArray, List.getElem?_cons_succ, List.getElem?_cons_zero]
      go_wp2_with (first | (go_at_call 22; ((with_reducible refine (left8_any _ _).mono ?_); rintro e w' ⟨rfl, q2, rfl⟩)))
      refine plan_nil ?_
      have B2 := Lib.hid ((B1.out.drewN (1 + q2)).wput d (rotl (gW x1 d ^^^ gW x1 a) 8))
      have O2 := Lib.hid (only_setCell (only_drewN O1.out (1 + q2)) (p := ⟨g, d, none⟩) (Or.inl rfl) (.int .u32 (W (rotl (gW x1 d ^^^ gW x1 a) 8))))
      have N2 := Lib.hid ((N1.out.drewN (1 + q2)).far (p := ⟨g, d, none⟩) hgg (.int .u32 (W (rotl (gW x1 d ^^^ gW x1 a) 8))))
      generalize (w1.drewN (1 + q2)).setCell ⟨g, d, none⟩ (.int .u32 (W (rotl (gW x1 d ^^^ gW x1 a) 8))) = w2 at B2 O2 N2 ⊢
      obtain ⟨x2, hx2⟩ : ∃ x, x = x1.set d (rotl (gW x1 d ^^^ gW x1 a) 8) := ⟨_, rfl⟩
      rw [← hx2] at B2
      have hl2 : x2.length = n := by rw [hx2, List.length_set, hl1]
      clear f1 c1 c2 B1 O1 N1
      have HX2 := Lib.hid hx2
      clear hx2
      have c1 := B2.out.wcell c (by omega)
      have c2 := B2.out.wcell d (by omega)
      have f1 := B2.out.free c
      go_wp2_with fail
      refine region_tail 12 (by kernel_rfl) (by kernel_rfl) ?_
      simp only [List.take_succ_cons, List.take_zero, List.drop_succ_cons, List.drop_zero]
      repeat still_step
      try refine wpStill_nil ?_
      go_wp2_with fail
      try rw [W_add]
      have B3 := Lib.hid ((B2.out.wput c (gW x2 c + gW x2 d)).drew)
      have O3 := Lib.hid (only_drew (only_setCell O2.out (p := ⟨g, c, none⟩) (Or.inl rfl) (.int .u32 (W (gW x2 c + gW x2 d)))))
      have N3 := Lib.hid ((N2.out.far (p := ⟨g, c, none⟩) hgg (.int .u32 (W (gW x2 c + gW x2 d)))).drew)
      generalize (w2.setCell ⟨g, c, none⟩ (.int .u32 (W (gW x2 c + gW x2 d)))).drew = w3 at B3 O3 N3 ⊢
      obtain ⟨x3, hx3⟩ : ∃ x, x = x2.set c (gW x2 c + gW x2 d) := ⟨_, rfl⟩
      rw [← hx3] at B3
      have hl3 : x3.length = n := by rw [hx3, List.length_set, hl2]
      clear f1 c1 c2 B2 O2 N2
      have HX3 := Lib.hid hx3
      clear hx3
      have c1 := B3.out.wcell b (by omega)
      have c2 := B3.out.wcell c (by omega)
      have f1 := B3.out.free b
      go_wp2_with fail
      refine region_plan [(0, [0, 1, 2, 3, 4, 6, 7, 8]), (1, [5, 9]), (0, [10]), (2, [11, 12, 13])] (by kernel_rfl) (by kernel_rfl) ?_
      refine plan_pure ?_
      simp only [pickL, List.getElem?_toArray, List.getElem?_cons_succ, List.getElem?_cons_zero]
      repeat (go_big_quiet_step (fail))
      refine wpQuiet_nil ?_
      refine plan_still ?_
      simp only [pickL, List.getElem?_toArray, List.getElem?_cons_succ, List.getElem?_cons_zero]
      repeat still_step
      refine wpStill_nil ?_
      refine plan_pure ?_
      simp only [pickL, List.getElem?_toArray, List.getElem?_cons_succ, List.getElem?_cons_zero]
      repeat (go_big_quiet_step (fail))
      refine wpQuiet_nil ?_
      refine plan_seq ?_
      simp only [pickL, List.getElem?_toArray, List.getElem?_cons_succ, List.getElem?_cons_zero]
      go_wp2_with (first | (go_at_call 22; ((with_reducible refine (left7_any _ _).mono ?_); rintro e w' ⟨rfl, q4, rfl⟩)))
      refine plan_nil ?_
      have B4 := Lib.hid ((B3.out.drewN (1 + q4)).wput b (rotl (gW x3 b ^^^ gW x3 c) 7))
      have O4 := Lib.hid (only_setCell (only_drewN O3.out (1 + q4)) (p := ⟨g, b, none⟩) (Or.inl rfl) (.int .u32 (W (rotl (gW x3 b ^^^ gW x3 c) 7))))
      have N4 := Lib.hid ((N3.out.drewN (1 + q4)).far (p := ⟨g, b, none⟩) hgg (.int .u32 (W (rotl (gW x3 b ^^^ gW x3 c) 7))))
      generalize (w3.drewN (1 + q4)).setCell ⟨g, b, none⟩ (.int .u32 (W (rotl (gW x3 b ^^^ gW x3 c) 7))) = w4 at B4 O4 N4 ⊢
      obtain ⟨x4, hx4⟩ : ∃ x, x = x3.set b (rotl (gW x3 b ^^^ gW x3 c) 7) := ⟨_, rfl⟩
      rw [← hx4] at B4
      have hl4 : x4.length = n := by rw [hx4, List.length_set, hl3]
      clear f1 c1 c2 B3 O3 N3
      have HX4 := Lib.hid hx4
      clear hx4
      have HE : x4 = quartQ xs a b c d 2 := by
        rw [HX4.out, HX3.out, HX2.out, HX1.out, HX0.out]; rfl
      go_wp2
      go_roundw
      case rel => exact ⟨2, by omega, by go_num, Lib.hid ⟨by rw [← HE]; exact B4.out, N4.out, O4.out⟩⟩
      case measure => simp [intOf]
    · go_wp2
      exact bodyPost_end (results_none rfl _ _ _) rfl ⟨rfl, HH.out.1, HH.out.2.2⟩
    · omega
end Go.Proofs.Ytbmfkofibpkijaa
