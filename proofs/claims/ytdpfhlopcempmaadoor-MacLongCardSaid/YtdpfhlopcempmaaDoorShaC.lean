/-
  Layer 1: the contract of Block.
-/
import Derived.Test.YtdpfhlopcempmaaDoorShaB
import Derived.Lib.LaidTab
namespace Go.Proofs.YtdpfhlopcempmaaDoor
open Go Go.RowKit

/-- The round constants. -/
def KL : List UInt32 := [1116352408, 1899447441, 3049323471, 3921009573, 961987163, 1508970993, 2453635748, 2870763221, 3624381080, 310598401, 607225278, 1426881987, 1925078388, 2162078206, 2614888103, 3248222580, 3835390401, 4022224774, 264347078, 604807628, 770255983, 1249150122, 1555081692, 1996064986, 2554220882, 2821834349, 2952996808, 3210313671, 3336571891, 3584528711, 113926993, 338241895, 666307205, 773529912, 1294757372, 1396182291, 1695183700, 1986661051, 2177026350, 2456956037, 2730485921, 2820302411, 3259730800, 3345764771, 3516065817, 3600352804, 4094571909, 275423344, 430227734, 506948616, 659060556, 883997877, 958139571, 1322822218, 1537002063, 1747873779, 1955562222, 2024104815, 2227730452, 2361852424, 2428436474, 2756734187, 3204031479, 3329325298]
/-- The table of the constants lies in its variable. -/
def Laid (w : World) : Prop := ∀ i, i < 64 → w.cell? ⟨0, i, none⟩ = some (.int .u32 (W (KL[i]?.getD 0)))
theorem Laid.pos {w : World} (h : Laid w) : 0 < w.heap.size := block_lt_of_cell (h 0 (by decide))
theorem Laid.below {w w' : World} {B : Nat} (h : Laid w) (hb : Below B w w') (hB : 0 < B) : Laid w' := fun i hi => (hb.cell (p := ⟨0, i, none⟩) hB).trans (h i hi)
theorem Laid.only {w w' : World} {g : Nat} (h : Laid w) (hb : w.grownBy w' (some g)) (hg : 0 < g) : Laid w' := fun i hi =>
  (World.cell?_of_block (hb.block 0 h.pos (fun e => by injection e with e; omega))).trans (h i hi)
theorem Laid.alloc {w : World} (h : Laid w) (o : Obj) : Laid (w.alloc o) := fun i hi => (World.cell?_alloc_lt w o ⟨0, i, none⟩ h.pos).trans (h i hi)
theorem Laid.drew {w : World} (h : Laid w) : Laid w.drew := h
theorem Laid.drewN {w : World} (h : Laid w) (n : Nat) : Laid (w.drewN n) := h

theorem eight (xs : List UInt32) (h : xs.length = 8) : ∃ a b c d e f g i, xs = [a, b, c, d, e, f, g, i] := by
  match xs, h with
  | [a, b, c, d, e, f, g, i], _ => exact ⟨a, b, c, d, e, f, g, i, rfl⟩
theorem roundL_any (xs : List UInt32) (h : xs.length = 8) (x : UInt32) (w : World) :
    Calls Tryd.prog 37 #[.agg (cellsW xs), .int .u32 (W x)] w fun en w' => en = .returned (.agg (cellsW (rndL xs x))) ∧ Below w.heap.size w w' := by
  obtain ⟨a, b, c, d, e, f, g, i, rfl⟩ := eight xs h
  exact round_any a b c d e f g i x w
/-- The variables behind t rounds. -/
def vTo (st ws : List UInt32) : Nat → List UInt32
  | 0 => st
  | t + 1 => rndL (vTo st ws t) (ws[t]?.getD 0 + KL[t]?.getD 0)
/-- The state added, up to i. -/
def addTo (st v : List UInt32) : Nat → List UInt32
  | 0 => v
  | i + 1 => (addTo st v i).set i ((addTo st v i)[i]?.getD 0 + st[i]?.getD 0)
/-- The state behind a block. -/
def blkL (st : List UInt32) (l : List UInt8) : List UInt32 := addTo st (vTo st (schL l) 64) 8
theorem vTo_length (st ws : List UInt32) (t : Nat) : (vTo st ws t).length = st.length := by
  induction t with
  | zero => rfl
  | succ t ih => rw [vTo, rndL_length, ih]
theorem addTo_length (st v : List UInt32) (i : Nat) : (addTo st v i).length = v.length := by
  induction i with
  | zero => rfl
  | succ i ih => rw [addTo, List.length_set, ih]
theorem blkL_length (st : List UInt32) (l : List UInt8) : (blkL st l).length = st.length := by rw [blkL, addTo_length, vTo_length]

set_option maxRecDepth 100000 in
theorem block_other (st : List UInt32) (hst : st.length = 8) (s : ByteArray) (hs : s.size ≠ 64) (w : World) :
    Calls Tryd.prog 19 #[.agg (cellsW st), .string s] w fun en w' => en = .returned (.agg (cellsW st)) ∧ Below w.heap.size w w' := by
  have hne : ((s.size : Int) != 64) = true := bne_iff_ne.2 (by omega)
  have HB := Lib.hid ((Blk.new w 26 (cellsW st)).alloc (.cells #[.int .u32 0, .int .u32 0, .int .u32 0, .int .u32 0, .int .u32 0, .int .u32 0, .int .u32 0, .int .u32 0] 26))
  clear hs
  have HS := Lib.hid hst
  clear hst
  go_enter Tryd.func19, Tryd.ntmps19
  go_wp2_with (first | (refine wpList_load_blk 26 _ HB.out rfl rfl rfl _ Tryd.underlying26 rfl (by rw [cellsW_size, HS.out]; kernel_rfl) ?_) | (refine wpList_store_blk 26 _ _ (cellsW st) (Blk.new1 _ _ _ _) rfl rfl rfl rfl (by rw [cellsW_size, HS.out]; kernel_rfl) (by rw [cellsW_size, HS.out]; rfl) (cellsW_one _) ?_; intro w1 hb1 hg1 hs1))
  exact bodyPost_ret (results_cell_row rfl _ _ _ _ _ _ _ rfl hb1 Tryd.underlying26 rfl (by rw [cellsW_size, HS.out]; kernel_rfl)) rfl ⟨rfl, below_only (((Below.refl _ _).alloc (Nat.le_refl _) _).alloc (by simp) _) hg1 (by omega) (Nat.le_refl _)⟩
/-- What stays while Block runs. -/
def BF (w wr : World) (st : List UInt32) : Prop :=
  Blk wr w.heap.size 26 (cellsW st) ∧ (∃ z, z.size = 8 ∧ Blk wr (w.heap.size + 1) 26 z) ∧ Laid wr ∧ Below w.heap.size w wr
theorem BF.below {w wr w' : World} {st : List UInt32} {B : Nat} (h : BF w wr st) (hb : Below B wr w') (hB : w.heap.size + 2 ≤ B) : BF w w' st := by
  obtain ⟨h1, ⟨z, hz, h2⟩, h3, h4⟩ := h
  exact ⟨h1.below hb (by omega), ⟨z, hz, h2.below hb (by omega)⟩, h3.below hb (by omega), h4.trans (hb.mono (by omega))⟩
theorem BF.only {w wr w' : World} {st : List UInt32} {g : Nat} (h : BF w wr st) (hb : wr.grownBy w' (some g)) (hg : w.heap.size + 2 ≤ g) : BF w w' st := by
  obtain ⟨h1, ⟨z, hz, h2⟩, h3, h4⟩ := h
  exact ⟨h1.grown hb (by simp; omega), ⟨z, hz, h2.grown hb (by simp; omega)⟩, h3.only hb (by omega), below_only h4 hb (by omega) (Nat.le_refl _)⟩
theorem BF.alloc {w wr : World} {st : List UInt32} (h : BF w wr st) (o : Obj) : BF w (wr.alloc o) st := by
  obtain ⟨h1, ⟨z, hz, h2⟩, h3, h4⟩ := h
  exact ⟨h1.alloc o, ⟨z, hz, h2.alloc o⟩, h3.alloc o, h4.alloc h4.size o⟩
theorem BF.drew {w wr : World} {st : List UInt32} (h : BF w wr st) : BF w wr.drew st := ⟨h.1, h.2.1, h.2.2.1, h.2.2.2.drew⟩
theorem BF.drewN {w wr : World} {st : List UInt32} (h : BF w wr st) (n : Nat) : BF w (wr.drewN n) st := ⟨h.1, h.2.1, h.2.2.1, below_drewN h.2.2.2 n⟩
theorem BF.size {w wr : World} {st : List UInt32} (h : BF w wr st) : w.heap.size + 2 ≤ wr.heap.size := by
  obtain ⟨_, ⟨z, _, h2⟩, _⟩ := h
  have := h2.lt
  omega
theorem BF.start {w : World} (hL : Laid w) (st : List UInt32) (z : Array Value) (hz : z.size = 8) : BF w ((w.alloc (.cells (cellsW st) 26)).alloc (.cells z 26)) st :=
  ⟨(Blk.new _ _ _).alloc _, ⟨z, hz, Blk.new1 _ _ _ _⟩, (hL.alloc _).alloc _, ((Below.refl _ _).alloc (Nat.le_refl _) _).alloc (by simp) _⟩

set_option maxRecDepth 100000 in
theorem block_any (st : List UInt32) (hst : st.length = 8) (s : ByteArray) (hs : s.size = 64) (w : World) (hL : Laid w) :
    Calls Tryd.prog 19 #[.agg (cellsW st), .string s] w fun en w' => en = .returned (.agg (cellsW (blkL st s.data.toList))) ∧ Below w.heap.size w w' := by
  have hne : ((s.size : Int) != 64) = false := by simp [hs]
  have ha := W_add
  have haw := W_addw
  have F0 := BF.start hL st #[.int .u32 0, .int .u32 0, .int .u32 0, .int .u32 0, .int .u32 0, .int .u32 0, .int .u32 0, .int .u32 0] rfl
  have HS := Lib.hid hst
  have HSS := Lib.hid hs
  have HW : Hid ((cellsW (schL s.data.toList)).size = 64) := Lib.hid (by rw [cellsW_size, schL_length])
  have HT : Hid ((cellsW st).size = 8) := Lib.hid (by rw [cellsW_size, hst])
  clear hst hs hL
  go_enter Tryd.func19, Tryd.ntmps19
  go_wp2_with (first
    | (go_at_call 36; refine (schedule_any s _ HSS.out).mono ?_; rintro en w1 ⟨rfl, hb1⟩; have F1 := F0.below hb1 (by simp); have Z1 := F1.size; clear hb1)
    | (refine wpList_store_blk 50 _ _ (cellsW (schL s.data.toList)) (Blk.new w1 _ _) rfl rfl rfl rfl (by rw [HW.out]; kernel_rfl) (by rw [HW.out]; rfl) (cellsW_one _) ?_; intro w2 hb2 hg2 hs2; have F2 := (F1.alloc _).only hg2 Z1; have Z2 : w1.heap.size < w2.heap.size := hb2.lt; clear hs2 hg2)
    | (refine wpList_load_blk 26 _ F2.1 rfl rfl rfl _ Tryd.underlying26 rfl (by rw [HT.out]; kernel_rfl) ?_)
    | (refine wpList_store_blk 26 _ _ (cellsW st) (Blk.new w2 _ _) rfl rfl rfl rfl (by rw [HT.out]; kernel_rfl) (by rw [HT.out]; rfl) (cellsW_one _) ?_; intro w3 hb3 hg3 hs3; have F3 := (F2.alloc _).only hg3 (by omega); have B3 := (hb2.alloc _).grown hg3 (by simp; omega); clear hs3 hg3))
  clear hb2
  generalize w1.heap.size = gw at *
  generalize w2.heap.size = gv at *
  have HSCH := Lib.hid (schL_length s.data.toList)
  clear F0 F1 F2
  go_loopw [16] (fun c wr => ∃ t : Nat, t ≤ 64 ∧ c = .int .i64 t ∧ BF w wr st ∧ Hid (Blk wr gw 50 (cellsW (schL s.data.toList)) ∧ Blk wr gv 26 (cellsW (vTo st (schL s.data.toList) t)))) (fun c _ => 64 - (intOf c).toNat)
  case atStart => exact ⟨0, by omega, rfl, F3, Lib.hid ⟨B3, hb3⟩⟩
  case round =>
    obtain ⟨t, ht, rfl, G, H⟩ := hrel
    by_cases hlt : t < 64
    · have HV : Hid ((vTo st (schL s.data.toList) t).length = 8) := Lib.hid (by rw [vTo_length, HS.out])
      have HVC : Hid ((cellsW (vTo st (schL s.data.toList) t)).size = 8) := Lib.hid (by rw [cellsW_size, HV.out])
      have cw := (H.out.1.cell t).trans (cellsW_get _ t (by rw [schL_length]; exact hlt))
      have ck := G.2.2.1 t hlt
      have nt : 0 ≤ (t : Int) := by omega
      have it : (t : Int) < 64 := by omega
      go_wp2
      refine region_tail 8 (by kernel_rfl) (by kernel_rfl) ?_
      simp only [List.take_succ_cons, List.take_zero, List.drop_succ_cons, List.drop_zero]
      refine wpStill_load_blk 26 _ H.out.2.drew rfl rfl rfl _ Tryd.underlying26 rfl (by rw [HVC.out]; kernel_rfl) ?_
      repeat still_step
      try refine wpStill_nil ?_
      have HV' : Hid ((cellsW (vTo st (schL s.data.toList) (t + 1))).size = 8) := Lib.hid (by rw [cellsW_size, vTo_length, HS.out])
      clear cw ck
      go_wp2_with (first
        | (go_at_call 37; refine (roundL_any _ HV.out _ _).mono ?_; rintro en w4 ⟨rfl, hb4⟩; have G4 := G.drew.below hb4 G.size; have BV4 := H.out.2.drew.below hb4 H.out.2.lt; have BW4 := H.out.1.drew.below hb4 H.out.1.lt; clear hb4)
        | (refine wpList_store_blk 26 _ _ (cellsW (vTo st (schL s.data.toList) (t + 1))) BV4 rfl rfl rfl rfl (by rw [HV'.out]; kernel_rfl) (by rw [HV'.out, HVC.out]) (cellsW_one _) ?_; intro w5 hb5 hg5 hs5; have G5 := G4.only hg5 (by omega); have BW5 := BW4.grown hg5 (by simp; omega); clear hs5 hg5))
      go_roundw
      case rel => exact ⟨t + 1, by omega, by go_num, G5, Lib.hid ⟨BW5, hb5⟩⟩
      case measure => simp [intOf]; omega
    · obtain rfl : t = 64 := by omega
      go_wp2
      generalize hv : vTo st (schL s.data.toList) 64 = v at H
      have hvl : v.length = 8 := by rw [← hv, vTo_length, HS.out]
      have HVV := Lib.hid hv
      have HVL := Lib.hid hvl
      clear hv hvl
      go_loopw [29] (fun c wr => ∃ i : Nat, i ≤ 8 ∧ c = .int .i64 i ∧ BF w wr st ∧ Hid (Blk wr gv 26 (cellsW (addTo st v i)))) (fun c _ => 8 - (intOf c).toNat)
      case atStart => exact ⟨0, by omega, rfl, G, Lib.hid H.out.2⟩
      case round =>
        obtain ⟨i, hi, rfl, G2, H2⟩ := hrel
        by_cases hlt2 : i < 8
        · have c0 := (H2.out.cell i).trans (cellsW_get _ i (by rw [addTo_length, HVL.out]; exact hlt2))
          have f0 := H2.out.free i
          have c1 := (G2.1.cell i).trans (cellsW_get _ i (by rw [HS.out]; exact hlt2))
          have ni : 0 ≤ (i : Int) := by omega
          have ii : (i : Int) < 8 := by omega
          go_wp2
          refine region_tail 8 (by kernel_rfl) (by kernel_rfl) ?_
          simp only [List.take_succ_cons, List.take_zero, List.drop_succ_cons, List.drop_zero]
          repeat still_step
          try refine wpStill_nil ?_
          go_wp2
          go_roundw
          case rel =>
            (repeat apply Exists.intro)
            refine ⟨?rel2, ?fr2⟩
            case fr2 => rfl
            case rel2 =>
              refine ⟨i + 1, by omega, by go_num, ?_, Lib.hid ?_⟩
              · exact (G2.only (only_setCell (g := gv) (p := ⟨gv, i, none⟩) (only_refl _ _) (Or.inl rfl) _) (by omega)).drew
              · have := H2.out.put i (.int .u32 (W ((addTo st v i)[i]?.getD 0 + st[i]?.getD 0)))
                rw [cellsW_set] at this
                exact this.drew
          case measure => simp [intOf]; omega
        · obtain rfl : i = 8 := by omega
          have HAL : Hid ((cellsW (addTo st v 8)).size = 8) := Lib.hid (by rw [cellsW_size, addTo_length, HVL.out])
          have HFIN : Hid (addTo st v 8 = blkL st s.data.toList) := Lib.hid (by rw [blkL, HVV.out])
          obtain ⟨z, hz, hbz⟩ := G2.2.1
          have HZ := Lib.hid hz
          clear hz
          go_wp2_with (first
            | (refine wpList_load_blk 26 _ H2.out rfl rfl rfl _ Tryd.underlying26 rfl (by rw [HAL.out]; kernel_rfl) ?_)
            | (refine wpList_store_blk 26 _ _ (cellsW (addTo st v 8)) hbz rfl rfl rfl rfl (by rw [HAL.out]; kernel_rfl) (by rw [HAL.out, HZ.out]) (cellsW_one _) ?_; intro w6 hb6 hg6 hs6))
          exact bodyPost_ret (results_cell_row rfl _ _ _ _ _ _ _ rfl hb6 Tryd.underlying26 rfl (by rw [HAL.out]; kernel_rfl)) rfl ⟨by rw [HFIN.out], below_only G2.2.2.2 hg6 (by omega) (Nat.le_refl _)⟩
end Go.Proofs.YtdpfhlopcempmaaDoor
