/-
  Layer 1: the contracts of output, padding, initial.
-/
import Derived.Test.YtdpfhlopcempmaaDoorShaC
import Derived.Test.YtdpfhlopcempmaaDoorBuf
namespace Go.Proofs.YtdpfhlopcempmaaDoor
open Go Go.RowKit

theorem byteTy : ByteTy Tryd.prog 33 5 9 := ⟨Tryd.underlying33, Tryd.underlying5, Tryd.underlying9, by kernel_rfl⟩
theorem ret_str {l l' : List UInt8} (h : l = l') : Ending.returned (.string ⟨l.toArray⟩) = .returned (.string ⟨l'.toArray⟩) := by rw [h]
/-- A word's bytes, the highest first. -/
def beB (x : UInt32) : List UInt8 := [(x >>> 24).toUInt8, (x >>> 16).toUInt8, (x >>> 8).toUInt8, x.toUInt8]
def outTo (st : List UInt32) : Nat → List UInt8
  | 0 => []
  | k + 1 => outTo st k ++ beB (st[k]?.getD 0)
theorem outTo_length (st : List UInt32) (k : Nat) : (outTo st k).length = 4 * k := by
  induction k with
  | zero => rfl
  | succ k ih => rw [outTo, List.length_append, ih]; simp [beB]; omega
set_option maxRecDepth 100000 in
theorem output_any (st : List UInt32) (hst : st.length = 8) (w : World) :
    Calls Tryd.prog 35 #[.agg (cellsW st)] w fun en w' => en = .returned (.string ⟨(outTo st 8).toArray⟩) ∧ Below w.heap.size w w' := by
  have r24 := fun x => W_shr x 24 16777216 (by decide) (by decide)
  have r16 := fun x => W_shr x 16 65536 (by decide) (by decide)
  have r8 := fun x => W_shr x 8 256 (by decide) (by decide)
  have h8 := W_to8
  have HS := Lib.hid hst
  have HB := Blk.new w 26 (cellsW st)
  have HT : Hid ((cellsW st).size = 8) := Lib.hid (by rw [cellsW_size, hst])
  clear hst
  go_enter Tryd.func35, Tryd.ntmps35
  go_wp2_with (first
    | (refine wpList_make_buf byteTy _ _ _ rfl rfl _ _ _ 32 rfl rfl rfl (by omega) ?_; intro w1 hb1 hg1; have B1 := HB.grown hg1 (by simp); have L1 := (((Below.refl w.heap.size w).alloc (Nat.le_refl _) _).grown hg1 (by simp) (fun _ h => by cases h)); clear hg1)
    | (refine wpList_load_blk 26 _ B1 rfl rfl rfl _ Tryd.underlying26 rfl (by rw [HT.out]; kernel_rfl) ?_))
  clear HB B1
  go_loopw [3, 8] (fun v c wr => ∃ k : Nat, k ≤ 8 ∧ c = .int .i64 k ∧ Buf wr w.heap.size 5 v (outTo st k) ∧ Below w.heap.size w wr) (fun _ c _ => 8 - (intOf c).toNat)
  case atStart => exact ⟨0, by omega, rfl, by have := hb1.down (B := w.heap.size) (by simp); simpa [outTo] using this, L1⟩
  case round =>
    obtain ⟨k, hk, rfl, hb, hL⟩ := hrel
    by_cases hlt : k < 8
    · have c0 := cellsW_get st k (by rw [HS.out]; exact hlt)
      have hix := fun wx => run_index_arr (P := Tryd.prog) wx 26 25 8 _ _ k _ Tryd.underlying26 Tryd.underlying25 rfl (by kernel_rfl) hlt c0
      clear c0
      have nk : 0 ≤ (k : Int) := by omega
      have ik : (k : Int) < 8 := by omega
      go_wp2_with (first
        | (at_builtin; refine wpList_append_buf byteTy (hb.alloc _) _ _ rfl rfl rfl wr.heap.size _ (beB (st[k]?.getD 0)) (0, 0) (heap_alloc_new _ _) 4 rfl rfl (by rw [outTo_length]; simp [beB]; omega) (by have := hL.size; simp; omega) ?_; intro v' w' hb' hg' ho'))
      go_roundw
      case rel => exact ⟨k + 1, by omega, by go_num, hb', (hb.alloc _).leaves (hL.alloc hL.size _) hg' (Nat.le_refl _) (by have := hL.size; simp; omega)⟩
      case measure => simp [intOf]; omega
    · obtain rfl : k = 8 := by omega
      go_wp2_with (first | (refine wpList_string_buf byteTy hb _ rfl rfl rfl ?_))
      go_ret
      exact ⟨rfl, hL⟩
/-- The first state. -/
def stI : List UInt32 := [1779033703, 3144134277, 1013904242, 2773480762, 1359893119, 2600822924, 528734635, 1541459225]
set_option maxRecDepth 100000 in
theorem initial_any (w : World) :
    Calls Tryd.prog 33 #[] w fun en w' => en = .returned (.agg (cellsW stI)) ∧ Below w.heap.size w w' := by
  go_enter Tryd.func33, Tryd.ntmps33
  go_wp2_with (first | (refine wpList_store_blk 26 _ _ (cellsW stI) (Blk.new w _ _) rfl rfl rfl rfl (by kernel_rfl) rfl (cellsW_one _) ?_; intro w1 hb1 hg1 hs1))
  exact bodyPost_ret (results_cell_row rfl _ _ _ _ _ _ _ rfl hb1 Tryd.underlying26 rfl (by kernel_rfl)) rfl ⟨rfl, below_only ((Below.refl _ _).alloc (Nat.le_refl _) _) hg1 (Nat.le_refl _) (Nat.le_refl _)⟩

/-- The bytes of the length: k of them, the highest first. -/
def lenTo (n : Nat) : Nat → List UInt8
  | 0 => []
  | k + 1 => lenTo n k ++ [UInt8.ofNat (8 * n / 2 ^ (8 * (7 - k)))]
def zerosN (n : Nat) : Nat := (119 - n % 64) % 64
/-- What is appended to n bytes. -/
def padL (n : Nat) : List UInt8 := (128 :: List.replicate (zerosN n) 0) ++ lenTo n 8
theorem lenTo_length (n k : Nat) : (lenTo n k).length = k := by
  induction k with
  | zero => rfl
  | succ k ih => rw [lenTo, List.length_append, ih]; rfl
theorem padL_length (n : Nat) : (padL n).length = 1 + zerosN n + 8 := by
  simp [padL, lenTo_length]; omega
theorem padL_dvd (n : Nat) : (n + (padL n).length) % 64 = 0 := by
  rw [padL_length]; unfold zerosN; omega
set_option maxRecDepth 100000 in
theorem padding_any (n : Nat) (hn : n ≤ 1099511627776) (w : World) :
    Calls Tryd.prog 34 #[.int .i64 (n : Int)] w fun en w' => en = .returned (.string ⟨(padL n).toArray⟩) ∧ Below w.heap.size w w' := by
  have hz : ((1 : Int) + (119 - (n : Int)) % 64) = ((1 + zerosN n : Nat) : Int) := by unfold zerosN; omega
  have hz9 : ((9 : Int) + (119 - (n : Int)) % 64) = ((9 + zerosN n : Nat) : Int) := by unfold zerosN; omega
  have hzb : zerosN n < 64 := by unfold zerosN; omega
  have HZ := Lib.hid hz
  have HZ9 := Lib.hid hz9
  clear hz hz9
  generalize hm : zerosN n = m at *
  have HM := Lib.hid hm
  clear hm
  go_enter Tryd.func34, Tryd.ntmps34
  go_wp2_with (first
    | (refine wpList_make_bufN byteTy _ _ _ rfl rfl _ _ _ _ (1 + m) (9 + m) rfl rfl HZ.out HZ9.out (by omega) (by omega) ?_; intro w1 hb1 hg1; have L1 := ((Below.refl w.heap.size w).grown hg1 (Nat.le_refl _) (fun _ h => by cases h)); have c0 := hb1.cell 0 (by rw [List.length_replicate]; omega); have f0 := hb1.free 0; clear hg1))
  have hb2 : Buf (w1.setCell ⟨w.heap.size, 0, none⟩ (.int .u8 128)) w.heap.size 5 (.slice (some ⟨w.heap.size, 0, none⟩) (1 + m) (9 + m)) (128 :: List.replicate m 0) := by
    have := hb1.put 0 128
    rw [Nat.add_comm 1 m, List.replicate_succ, List.set_cons_zero, Nat.add_comm m 1] at this
    exact this
  have L2 := L1.setCell (p := ⟨w.heap.size, 0, none⟩) (Nat.le_refl _) (.int .u8 128)
  clear c0 f0 hb1 L1
  go_loopw [4, 6] (fun v c wr => ∃ k : Nat, k ≤ 8 ∧ c = .int .i64 (7 - (k : Int)) ∧ Buf wr w.heap.size 5 v ((128 :: List.replicate m 0) ++ lenTo n k) ∧ Below w.heap.size w wr) (fun _ c _ => (intOf c + 1).toNat)
  case atStart => exact ⟨0, by omega, rfl, by simpa [lenTo] using hb2, L2⟩
  case round =>
    obtain ⟨k, hk, rfl, hb, hL⟩ := hrel
    by_cases hlt : k < 8
    · have hsh : (n : Int) * 8 / 2 ^ (8 * (7 - k)) % 256 = B8 (UInt8.ofNat (8 * n / 2 ^ (8 * (7 - k)))) := by
        unfold B8
        have e : ((n : Int) * 8 / 2 ^ (8 * (7 - k))) = ((8 * n / 2 ^ (8 * (7 - k)) : Nat) : Int) := by
          rw [Int.natCast_ediv, Int.natCast_mul, Int.natCast_pow, Int.mul_comm]; rfl
        rw [e, UInt8.toNat_ofNat']; omega
      go_wp2_with (first
        | (at_builtin; refine wpList_append_buf byteTy (hb.alloc _) _ _ rfl rfl rfl wr.heap.size _ [UInt8.ofNat (8 * n / 2 ^ (8 * (7 - k)))] (0, 0) (heap_alloc_new _ _) 1 rfl rfl (by simp [lenTo_length]; omega) (by have := hL.size; simp; omega) ?_; intro v' w' hb' hg' ho'))
      go_roundw
      case rel => exact ⟨k + 1, by omega, by go_num, by rw [lenTo, ← List.append_assoc]; exact hb', (hb.alloc _).leaves (hL.alloc hL.size _) hg' (Nat.le_refl _) (by have := hL.size; simp; omega)⟩
      case measure => simp [intOf]; omega
    · obtain rfl : k = 8 := by omega
      have HF : Hid ((128 :: List.replicate m 0) ++ lenTo n 8 = padL n) := Lib.hid (by rw [padL, HM.out])
      go_wp2_with (first | (refine wpList_string_buf byteTy hb _ rfl rfl rfl ?_))
      go_ret
      exact ⟨ret_str HF.out, hL⟩
end Go.Proofs.YtdpfhlopcempmaaDoor
