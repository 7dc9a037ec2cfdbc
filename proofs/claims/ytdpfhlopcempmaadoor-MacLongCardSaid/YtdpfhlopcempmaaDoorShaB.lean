/-
  Layer 1: the contract of schedule.
-/
import Derived.Test.YtdpfhlopcempmaaDoorShaA
namespace Go.Proofs.YtdpfhlopcempmaaDoor
open Go Go.RowKit

theorem byte_at (s : ByteArray) (i : Nat) (h : i < s.size) : s[i] = s.data.toList.getD i 0 := by
  have h' : i < s.data.toList.length := by simpa using h
  rw [List.getD_eq_getElem?_getD, List.getElem?_eq_getElem h']; rfl
def beAt (l : List UInt8) (i : Nat) : UInt32 := beW (l.getD i 0) (l.getD (i + 1) 0) (l.getD (i + 2) 0) (l.getD (i + 3) 0)
/-- The schedule behind k of the first 16 words. -/
def sch1 (l : List UInt8) : Nat → List UInt32
  | 0 => List.replicate 64 0
  | k + 1 => (sch1 l k).set k (beAt l (4 * k))
/-- The word t of a schedule, t from 16 on. -/
def schW (ws : List UInt32) (t : Nat) : UInt32 :=
  ws[t - 16]?.getD 0 + (rotl (ws[t - 15]?.getD 0) 25 ^^^ rotl (ws[t - 15]?.getD 0) 14 ^^^ ws[t - 15]?.getD 0 >>> 3) + ws[t - 7]?.getD 0 +
    (rotl (ws[t - 2]?.getD 0) 15 ^^^ rotl (ws[t - 2]?.getD 0) 13 ^^^ ws[t - 2]?.getD 0 >>> 10)
/-- The schedule behind k more words. -/
def sch2 (ws : List UInt32) : Nat → List UInt32
  | 0 => ws
  | k + 1 => (sch2 ws k).set (k + 16) (schW (sch2 ws k) (k + 16))
def schL (l : List UInt8) : List UInt32 := sch2 (sch1 l 16) 48
theorem sch1_length (l : List UInt8) (k : Nat) : (sch1 l k).length = 64 := by
  induction k with
  | zero => simp [sch1]
  | succ k ih => rw [sch1, List.length_set, ih]
theorem sch2_length (ws : List UInt32) (k : Nat) : (sch2 ws k).length = ws.length := by
  induction k with
  | zero => rfl
  | succ k ih => rw [sch2, List.length_set, ih]
theorem schL_length (l : List UInt8) : (schL l).length = 64 := by rw [schL, sch2_length, sch1_length]

set_option maxRecDepth 100000 in
theorem schedule_any (s : ByteArray) (w : World) (hs : s.size = 64) :
    Calls Tryd.prog 36 #[.string s] w fun en w' => en = .returned (.agg (cellsW (schL s.data.toList))) ∧ Below w.heap.size w w' := by
  have hx := W_xor
  have ha := W_add
  have haw := W_addw
  have ho := W_or
  have hbw := W_bytew
  have hb := W_byte
  have r3 := fun x => W_shr x 3 8 (by decide) (by decide)
  have r10 := fun x => W_shr x 10 1024 (by decide) (by decide)
  have s24 := fun x => W_shl x 24 16777216 (by decide) (by decide)
  have s24w := fun x => W_shlw x 24 16777216 (by decide) (by decide)
  have s16 := fun x => W_shl x 16 65536 (by decide) (by decide)
  have s16w := fun x => W_shlw x 16 65536 (by decide) (by decide)
  have s8 := fun x => W_shl x 8 256 (by decide) (by decide)
  have s8w := fun x => W_shlw x 8 256 (by decide) (by decide)
  have hs1 : 64 ≤ s.size := by omega
  have HS := Lib.hid hs
  clear hs
  go_enter Tryd.func36, Tryd.ntmps36
  go_wp2
  go_loopw [10] (fun c wr => ∃ k : Nat, k ≤ 16 ∧ c = .int .i64 k ∧ Hid (Blk wr (w.heap.size + 1) 50 (cellsW (sch1 s.data.toList k)) ∧ (∃ z, z.size = 64 ∧ Blk wr w.heap.size 50 z) ∧ Below w.heap.size w wr)) (fun c _ => 16 - (intOf c).toNat)
  case atStart => exact ⟨0, by omega, rfl, Lib.hid ⟨Blk.new1 _ _ _ _, ⟨_, rfl, (Blk.new _ _ _).alloc _⟩, ((Below.refl _ _).alloc (Nat.le_refl _) _).alloc (by simp) _⟩⟩
  case round =>
    obtain ⟨k, hk, rfl, H1⟩ := hrel
    by_cases hlt : k < 16
    · have f0 := H1.out.1.free k
      have c0 := (H1.out.1.cell k).trans (cellsW_get _ k (by rw [sch1_length]; omega))
      have hfin : beW (s[4 * k]'(by omega)) (s[4 * k + 1]'(by omega)) (s[4 * k + 2]'(by omega)) (s[4 * k + 3]'(by omega)) = beAt s.data.toList (4 * k) := by
        rw [byte_at, byte_at, byte_at, byte_at]; rfl
      have HF := Lib.hid hfin
      clear hfin
      have i0 : (4 * (k : Int)) < (s.size : Int) := by omega
      have i1 : (4 * (k : Int) + 1) < (s.size : Int) := by omega
      have i2 : (4 * (k : Int) + 2) < (s.size : Int) := by omega
      have i3 : (4 * (k : Int) + 3) < (s.size : Int) := by omega
      have nk : 0 ≤ (k : Int) := by omega
      have ik : (k : Int) < 64 := by omega
      have n0 : 0 ≤ (4 * (k : Int)) := by omega
      have n1 : 0 ≤ (4 * (k : Int) + 1) := by omega
      have n2 : 0 ≤ (4 * (k : Int) + 2) := by omega
      have n3 : 0 ≤ (4 * (k : Int) + 3) := by omega
      have e0 : IntKind.i64.wrap (4 * (k : Int)) = 4 * (k : Int) := IntWalk.i64_in _ (by omega)
      have e1 : IntKind.i64.wrap (4 * (k : Int) + 1) = 4 * (k : Int) + 1 := IntWalk.i64_in _ (by omega)
      have e2 : IntKind.i64.wrap (4 * (k : Int) + 2) = 4 * (k : Int) + 2 := IntWalk.i64_in _ (by omega)
      have e3 : IntKind.i64.wrap (4 * (k : Int) + 3) = 4 * (k : Int) + 3 := IntWalk.i64_in _ (by omega)
      have t0 : (4 * (k : Int)).toNat = 4 * k := by omega
      have t1 : (4 * (k : Int) + 1).toNat = 4 * k + 1 := by omega
      have t2 : (4 * (k : Int) + 2).toNat = 4 * k + 2 := by omega
      have t3 : (4 * (k : Int) + 3).toNat = 4 * k + 3 := by omega
      go_wp2
      refine region_tail 31 (by kernel_rfl) (by kernel_rfl) ?_
      simp only [List.take_succ_cons, List.take_zero, List.drop_succ_cons, List.drop_zero]
      repeat still_step
      try refine wpStill_nil ?_
      clear e0 e1 e2 e3
      go_wp2
      go_roundw
      case rel =>
        refine ⟨k + 1, by omega, by go_num, Lib.hid ⟨?_, ?_, ?_⟩⟩
        · have := H1.out.1.put k (.int .u32 (W (beAt s.data.toList (4 * k))))
          rw [cellsW_set, ← sch1, ← HF.out] at this
          exact this.drew
        · obtain ⟨z, hz, hb⟩ := H1.out.2.1
          exact ⟨z, hz, (hb.far (by simp) _).drew⟩
        · exact (H1.out.2.2.setCell (by simp) _).drew
      case measure => simp [intOf]; omega
    · obtain rfl : k = 16 := by omega
      go_wp2
      go_loopw [5] (fun c wr => ∃ t : Nat, 16 ≤ t ∧ t ≤ 64 ∧ c = .int .i64 t ∧ Hid (Blk wr (w.heap.size + 1) 50 (cellsW (sch2 (sch1 s.data.toList 16) (t - 16))) ∧ (∃ z, z.size = 64 ∧ Blk wr w.heap.size 50 z) ∧ Below w.heap.size w wr)) (fun c _ => 64 - (intOf c).toNat)
      case atStart => exact ⟨16, by omega, by omega, rfl, H1⟩
      case round =>
        obtain ⟨t, ht1, ht2, rfl, H2⟩ := hrel
        by_cases hlt2 : t < 64
        · generalize hws : sch2 (sch1 s.data.toList 16) (t - 16) = ws at H2
          have hl : ws.length = 64 := by rw [← hws, sch2_length, sch1_length]
          have hnext : sch2 (sch1 s.data.toList 16) (t + 1 - 16) = ws.set t (schW ws t) := by
            rw [show t + 1 - 16 = (t - 16) + 1 by omega, sch2, hws, show t - 16 + 16 = t by omega]
          have HN := Lib.hid hnext
          clear hws hnext
          have f0 := H2.out.1.free t
          have c0 := (H2.out.1.cell t).trans (cellsW_get _ t (by omega))
          have c15 := (H2.out.1.cell (t - 15)).trans (cellsW_get _ (t - 15) (by omega))
          have c2 := (H2.out.1.cell (t - 2)).trans (cellsW_get _ (t - 2) (by omega))
          have c16 := (H2.out.1.cell (t - 16)).trans (cellsW_get _ (t - 16) (by omega))
          have c7 := (H2.out.1.cell (t - 7)).trans (cellsW_get _ (t - 7) (by omega))
          have HL := Lib.hid hl
          clear hl
          have it : (t : Int) < 64 := by omega
          have i15 : (t : Int) - 15 < 64 := by omega
          have i2 : (t : Int) - 2 < 64 := by omega
          have i16 : (t : Int) - 16 < 64 := by omega
          have i7 : (t : Int) - 7 < 64 := by omega
          have nt : 0 ≤ (t : Int) := by omega
          have n15 : 0 ≤ (t : Int) - 15 := by omega
          have n2 : 0 ≤ (t : Int) - 2 := by omega
          have n16 : 0 ≤ (t : Int) - 16 := by omega
          have n7 : 0 ≤ (t : Int) - 7 := by omega
          have m15 : 15 ≤ (t : Int) := by omega
          have m2 : 2 ≤ (t : Int) := by omega
          have m16 : 16 ≤ (t : Int) := by omega
          have m7 : 7 ≤ (t : Int) := by omega
          have e15 : IntKind.i64.wrap ((t : Int) - 15) = (t : Int) - 15 := IntWalk.i64_in _ (by omega)
          have e2 : IntKind.i64.wrap ((t : Int) - 2) = (t : Int) - 2 := IntWalk.i64_in _ (by omega)
          have e16 : IntKind.i64.wrap ((t : Int) - 16) = (t : Int) - 16 := IntWalk.i64_in _ (by omega)
          have e7 : IntKind.i64.wrap ((t : Int) - 7) = (t : Int) - 7 := IntWalk.i64_in _ (by omega)
          have t15 : ((t : Int) - 15).toNat = t - 15 := by omega
          have t2 : ((t : Int) - 2).toNat = t - 2 := by omega
          have t16 : ((t : Int) - 16).toNat = t - 16 := by omega
          have t7 : ((t : Int) - 7).toNat = t - 7 := by omega
          go_wp2
          go_quiet (fail)
          go_wp2_with (first | (go_at_call 40; ((with_reducible refine (rotr7_any _ _).mono ?_); rintro e w' ⟨rfl, rfl⟩)) | (go_at_call 40; ((with_reducible refine (rotr18_any _ _).mono ?_); rintro e w' ⟨rfl, rfl⟩)) | (go_at_call 40; ((with_reducible refine (rotr17_any _ _).mono ?_); rintro e w' ⟨rfl, rfl⟩)) | (go_at_call 40; ((with_reducible refine (rotr19_any _ _).mono ?_); rintro e w' ⟨rfl, rfl⟩)))
          have B2 := Lib.hid (H2.out.1.drewN nq)
          have Z2 : Hid (∃ z, z.size = 64 ∧ Blk (wr.drewN nq) w.heap.size 50 z) := by
            obtain ⟨z, hz, hb⟩ := H2.out.2.1
            exact Lib.hid ⟨z, hz, hb.drewN _⟩
          have L2 := Lib.hid (below_drewN H2.out.2.2 nq)
          clear c15 c2 c16 c7 c0 f0
          generalize wr.drewN nq = w2 at B2 Z2 L2 ⊢
          have r16 := (B2.out.cell (t - 16)).trans (cellsW_get _ (t - 16) (by rw [HL.out]; omega))
          have r7 := (B2.out.cell (t - 7)).trans (cellsW_get _ (t - 7) (by rw [HL.out]; omega))
          have c0 := (B2.out.cell t).trans (cellsW_get _ t (by rw [HL.out]; omega))
          have f0 := B2.out.free t
          refine region_tail 15 (by kernel_rfl) (by kernel_rfl) ?_
          simp only [List.take_succ_cons, List.take_zero, List.drop_succ_cons, List.drop_zero]
          repeat still_step
          try refine wpStill_nil ?_
          clear r16 r7 e15 e2 e16 e7 t15 t2 t16 t7
          go_wp2
          go_roundw
          case rel =>
            (repeat apply Exists.intro)
            refine ⟨?rel2, ?fr2⟩
            case fr2 => rfl
            case rel2 =>
              refine ⟨t + 1, by omega, by omega, by go_num, Lib.hid ⟨?_, ?_, ?_⟩⟩
              · have := B2.out.put t (.int .u32 (W (schW ws t)))
                rw [cellsW_set, ← HN.out] at this
                exact this.drew
              · obtain ⟨z, hz, hb⟩ := Z2.out
                exact ⟨z, hz, (hb.far (by simp) _).drew⟩
              · exact (L2.out.setCell (by simp) _).drew
          case measure => simp [intOf]; omega
        · obtain rfl : t = 64 := by omega
          obtain ⟨z, hz, hbz⟩ := H2.out.2.1
          have HZ := Lib.hid hz
          have HBZ := Lib.hid hbz
          clear hz hbz
          have HLL := Lib.hid (schL_length s.data.toList)
          go_wp2_with (first | (refine wpList_load_blk 50 _ H2.out.1 rfl rfl rfl _ Tryd.underlying50 rfl (by rw [cellsW_size, sch2_length, sch1_length]; kernel_rfl) ?_) | (refine wpList_store_blk 50 _ _ (cellsW (schL s.data.toList)) HBZ.out rfl rfl rfl rfl (by rw [cellsW_size, schL_length]; kernel_rfl) (by rw [cellsW_size, schL_length, HZ.out]) (cellsW_one _) ?_; intro w1 hb1 hg1 hs1))
          exact bodyPost_ret (results_cell_row rfl _ _ _ _ _ _ _ rfl hb1 Tryd.underlying50 rfl (by rw [cellsW_size, schL_length]; kernel_rfl)) rfl ⟨rfl, below_only H2.out.2.2 hg1 (Nat.le_refl _) (Nat.le_refl _)⟩
end Go.Proofs.YtdpfhlopcempmaaDoor
