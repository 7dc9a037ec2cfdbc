/-
  Layer 1: the contract of Sum.
-/
import Derived.Test.YtdpfhlopcempmaaDoorShaD
namespace Go.Proofs.YtdpfhlopcempmaaDoor
open Go Go.RowKit

/-- The state behind k blocks of l. -/
def stTo (st : List UInt32) (l : List UInt8) : Nat → List UInt32
  | 0 => st
  | k + 1 => blkL (stTo st l k) ((l.drop (64 * k)).take 64)
theorem stTo_length (st : List UInt32) (l : List UInt8) (k : Nat) : (stTo st l k).length = st.length := by
  induction k with
  | zero => rfl
  | succ k ih => rw [stTo, blkL_length, ih]
/-- What is left of l behind its whole blocks, filled up. -/
def lastL (l : List UInt8) : List UInt8 := l.drop (64 * (l.length / 64)) ++ padL l.length
/-- The digest. -/
def sumL (l : List UInt8) : List UInt8 := outTo (stTo (stTo stI l (l.length / 64)) (lastL l) ((lastL l).length / 64)) 8

theorem extract_list (s : ByteArray) (i j : Nat) : (s.extract i j).data.toList = (s.data.toList.take j).drop i := by
  rw [ByteArray.data_extract, Array.toList_extract, List.extract_eq_take_drop, List.drop_take]
theorem list_length (s : ByteArray) : s.data.toList.length = s.size := by simp
theorem block_ex (st : List UInt32) (hst : st.length = 8) (s : ByteArray) (hs : s.size = 64) (w : World) (hL : Laid w) :
    Calls Tryd.prog 19 #[.agg (cellsW st), .string s] w fun en w' => ∃ st', en = .returned (.agg (cellsW st')) ∧ Hid (st' = blkL st s.data.toList ∧ (cellsW st').size = 8) ∧ Below w.heap.size w w' :=
  (block_any st hst s hs w hL).mono fun _ _ ⟨h1, h2⟩ => ⟨_, h1, Lib.hid ⟨rfl, by rw [cellsW_size, blkL_length, hst]⟩, h2⟩
theorem size_of {p : ByteArray} {l : List UInt8} (h : p.data.toList = l) : p.size = l.length := by rw [← h, list_length]
theorem padL_le (n : Nat) : (padL n).length ≤ 72 := by
  rw [padL_length]; unfold zerosN; omega
theorem padding_ex (n : Nat) (hn : n ≤ 1099511627776) (w : World) :
    Calls Tryd.prog 34 #[.int .i64 (n : Int)] w fun en w' => ∃ p : ByteArray, en = .returned (.string p) ∧ Hid (p.data.toList = padL n) ∧ p.size ≤ 72 ∧ Below w.heap.size w w' :=
  (padding_any n hn w).mono fun _ _ ⟨h1, h2⟩ => ⟨_, h1, Lib.hid (by simp), by rw [size_of (l := padL n) (by simp)]; exact padL_le n, h2⟩
theorem append_list (a b : ByteArray) : (a ++ b).data.toList = a.data.toList ++ b.data.toList := by simp
def szOf : Value → Nat
  | .string s => s.size
  | _ => 0
set_option maxRecDepth 100000 in
theorem sum_any (s : ByteArray) (hs : s.size ≤ 1099511627776) (w : World) (hL : Laid w) :
    Calls Tryd.prog 17 #[.string s] w fun en w' => en = .returned (.string ⟨(sumL s.data.toList).toArray⟩) ∧ Below w.heap.size w w' := by
  go_enter Tryd.func17, Tryd.ntmps17
  go_wp2_with (first
    | (go_at_call 33; refine (initial_any _).mono ?_; rintro en w1 ⟨rfl, hb1⟩; have L1 := hL.below hb1 hL.pos)
    | (refine wpList_store_blk 26 _ _ (cellsW stI) (Blk.new w1 _ _) rfl rfl rfl rfl (by kernel_rfl) rfl (cellsW_one _) ?_; intro w2 hb2 hg2 hs2))
  have hg0 : 0 < w1.heap.size := L1.pos
  have hg1' : w.heap.size ≤ w1.heap.size := hb1.size
  have L2 := (L1.alloc _).only hg2 hg0
  have B2 := below_only (hb1.alloc hb1.size _) hg2 hg1' (Nat.le_refl _)
  clear hg2 hs2 hb1 L1
  generalize w1.heap.size = g at *
  have HS := Lib.hid hs
  clear hs
  go_loopw [4] (fun v wr => ∃ (k : Nat) (r : ByteArray), v = .string r ∧ Hid (r.data.toList = (s.data.toList).drop (64 * k) ∧ r.size + 64 * k = (s.data.toList).length) ∧ Hid (Blk wr g 26 (cellsW (stTo stI (s.data.toList) k))) ∧ Laid wr ∧ Below w.heap.size w wr) (fun v _ => szOf v)
  case atStart => exact ⟨0, s, rfl, Lib.hid ⟨rfl, by rw [list_length]; rfl⟩, Lib.hid hb2, L2, B2⟩
  case round =>
    obtain ⟨k, r, rfl, HR, HB, GL, GB⟩ := hrel
    by_cases hlt : 64 ≤ r.size
    · have HK : Hid ((stTo stI (s.data.toList) k).length = 8) := Lib.hid (by rw [stTo_length]; exact rfl)
      have HC : Hid ((cellsW (stTo stI (s.data.toList) k)).size = 8) := Lib.hid (by rw [cellsW_size, HK.out])
      have HE : Hid ((r.extract 0 64).size = 64) := Lib.hid (by rw [← list_length, extract_list, List.drop_zero, List.length_take, list_length]; omega)
      have HK2 : Hid ((cellsW (blkL (stTo stI (s.data.toList) k) (r.extract 0 64).data.toList)).size = 8) := Lib.hid (by rw [cellsW_size, blkL_length, HK.out])
      have HST : Hid (stTo stI (s.data.toList) (k + 1) = blkL (stTo stI (s.data.toList) k) (r.extract 0 64).data.toList) := Lib.hid (by rw [stTo, extract_list, List.drop_zero, HR.out.1])
      have HZ : Hid ((r.extract 64 r.size).size + 64 = r.size) := Lib.hid (by rw [← list_length, extract_list, List.length_drop, List.length_take, list_length]; omega)
      have HN : Hid ((r.extract 64 r.size).data.toList = (s.data.toList).drop (64 * (k + 1)) ∧ (r.extract 64 r.size).size + 64 * (k + 1) = (s.data.toList).length) := Lib.hid ⟨by
          rw [extract_list, List.take_of_length_le (by rw [list_length]; exact Nat.le_refl _), HR.out.1, List.drop_drop]
          congr 1, by have := HZ.out; have := HR.out.2; omega⟩
      have h64 : 64 ≤ r.size := hlt
      have i64 : (64 : Int) ≤ (r.size : Int) := by omega

      go_wp2
      refine region_tail 3 (by kernel_rfl) (by kernel_rfl) ?_
      simp only [List.take_succ_cons, List.take_zero, List.drop_succ_cons, List.drop_zero]
      refine wpStill_load_blk 26 _ HB.out.drew rfl rfl rfl _ Tryd.underlying26 rfl (by rw [HC.out]; kernel_rfl) ?_
      repeat still_step
      try refine wpStill_nil ?_
      go_wp2_with (first
        | (go_at_call 19; refine (block_ex _ HK.out (r.extract 0 64) HE.out _ GL.drew).mono ?_; rintro en w4 ⟨st', rfl, HX, hb4⟩; have GL4 := GL.drew.below hb4 GL.pos; have GB4 := GB.drew.trans (hb4.mono GB.size); have HB4 := HB.out.drew.below hb4 HB.out.lt; clear hb4)
        | (refine wpList_store_blk 26 _ _ (cellsW st') HB4 rfl rfl rfl rfl (by rw [HX.out.2]; kernel_rfl) (by rw [HX.out.2, HC.out]) (cellsW_one _) ?_; intro w5 hb5 hg5 hs5; have GL5 := GL4.only hg5 hg0; have GB5 := below_only GB4 hg5 hg1' (Nat.le_refl _); clear hs5 hg5))
      go_roundw
      case rel => exact ⟨k + 1, _, rfl, HN, Lib.hid (by rw [HST.out, ← HX.out.1]; exact hb5), GL5, GB5⟩
      case measure => simp only [szOf]; have := HZ.out; omega
    · have hlt' : ¬ (64 : Int) ≤ (r.size : Int) := by omega
      go_wp2_with fail
      refine (padding_ex s.size HS.out _).mono ?_
      rintro en w6 ⟨p, rfl, HP, hpz, hb6⟩
      have GL6 := GL.below hb6 GL.pos
      have GB6 := GB.trans (hb6.mono GB.size)
      have HB6 := HB.out.below hb6 HB.out.lt
      have hbd : r.size + p.size ≤ 9223372036854775807 := by omega
      clear hb6
      go_wp2
      have hz : (r ++ p).data.toList = lastL s.data.toList := by
        have h1 := HR.out
        have h2 : k = s.data.toList.length / 64 := by omega
        rw [append_list, HP.out, lastL, h1.1, ← h2, list_length]
      have hk : k = s.data.toList.length / 64 := by have := HR.out.2; omega
      have hfin : sumL s.data.toList = outTo (stTo (stTo stI s.data.toList k) (r ++ p).data.toList ((r ++ p).data.toList.length / 64)) 8 := by rw [hz, hk]; rfl
      have hdv : (r ++ p).data.toList.length % 64 = 0 := by
        rw [append_list, List.length_append, HP.out, list_length]
        have h1 := padL_dvd s.size
        have h2 := HR.out.2
        rw [list_length] at h2
        omega
      have hst0 : (stTo stI s.data.toList k).length = 8 := by rw [stTo_length]; rfl
      clear hz hk HR HP hpz hbd hlt'
      generalize r ++ p = z at *
      generalize stTo stI s.data.toList k = st0 at *
      have HFIN := Lib.hid hfin
      have HDV := Lib.hid hdv
      have HST0 := Lib.hid hst0
      have HB6' := Lib.hid HB6
      clear hfin hdv hst0 HB
      go_loopw [5] (fun v wr => ∃ (k2 : Nat) (q : ByteArray), v = .string q ∧ Hid (q.data.toList = z.data.toList.drop (64 * k2) ∧ q.size + 64 * k2 = z.data.toList.length) ∧ Hid (Blk wr g 26 (cellsW (stTo st0 z.data.toList k2))) ∧ Laid wr ∧ Below w.heap.size w wr) (fun v _ => szOf v)
      case atStart => exact ⟨0, z, rfl, Lib.hid ⟨rfl, by rw [list_length]; rfl⟩, Lib.hid HB6, GL6, GB6⟩
      case round =>
        obtain ⟨k2, q, rfl, HR2, HB, GL, GB⟩ := hrel
        by_cases hlt : 0 < q.size
        · have h64 : 64 ≤ q.size := by have := HR2.out.2; have := HDV.out; omega
          have HK : Hid ((stTo st0 z.data.toList k2).length = 8) := Lib.hid (by rw [stTo_length]; exact HST0.out)
          have HC : Hid ((cellsW (stTo st0 z.data.toList k2)).size = 8) := Lib.hid (by rw [cellsW_size, HK.out])
          have HE : Hid ((q.extract 0 64).size = 64) := Lib.hid (by rw [← list_length, extract_list, List.drop_zero, List.length_take, list_length]; omega)
          have HK2 : Hid ((cellsW (blkL (stTo st0 z.data.toList k2) (q.extract 0 64).data.toList)).size = 8) := Lib.hid (by rw [cellsW_size, blkL_length, HK.out])
          have HST : Hid (stTo st0 z.data.toList (k2 + 1) = blkL (stTo st0 z.data.toList k2) (q.extract 0 64).data.toList) := Lib.hid (by rw [stTo, extract_list, List.drop_zero, HR2.out.1])
          have HZ : Hid ((q.extract 64 q.size).size + 64 = q.size) := Lib.hid (by rw [← list_length, extract_list, List.length_drop, List.length_take, list_length]; omega)
          have HN : Hid ((q.extract 64 q.size).data.toList = z.data.toList.drop (64 * (k2 + 1)) ∧ (q.extract 64 q.size).size + 64 * (k2 + 1) = z.data.toList.length) := Lib.hid ⟨by
              rw [extract_list, List.take_of_length_le (by rw [list_length]; exact Nat.le_refl _), HR2.out.1, List.drop_drop]
              congr 1, by have := HZ.out; have := HR2.out.2; omega⟩
      
          have i64 : (64 : Int) ≤ (q.size : Int) := by omega

          go_wp2
          refine region_tail 3 (by kernel_rfl) (by kernel_rfl) ?_
          simp only [List.take_succ_cons, List.take_zero, List.drop_succ_cons, List.drop_zero]
          refine wpStill_load_blk 26 _ HB.out.drew rfl rfl rfl _ Tryd.underlying26 rfl (by rw [HC.out]; kernel_rfl) ?_
          repeat still_step
          try refine wpStill_nil ?_
          go_wp2_with (first
            | (go_at_call 19; refine (block_ex _ HK.out (q.extract 0 64) HE.out _ GL.drew).mono ?_; rintro en w4 ⟨st', rfl, HX, hb4⟩; have GL4 := GL.drew.below hb4 GL.pos; have GB4 := GB.drew.trans (hb4.mono GB.size); have HB4 := HB.out.drew.below hb4 HB.out.lt; clear hb4)
            | (refine wpList_store_blk 26 _ _ (cellsW st') HB4 rfl rfl rfl rfl (by rw [HX.out.2]; kernel_rfl) (by rw [HX.out.2, HC.out]) (cellsW_one _) ?_; intro w5 hb5 hg5 hs5; have GL5 := GL4.only hg5 hg0; have GB5 := below_only GB4 hg5 hg1' (Nat.le_refl _); clear hs5 hg5))
          go_roundw
          case rel => exact ⟨k2 + 1, _, rfl, HN, Lib.hid (by rw [HST.out, ← HX.out.1]; exact hb5), GL5, GB5⟩
          case measure => simp only [szOf]; have := HZ.out; omega

        · have hq : q.size = 0 := by omega
          have hlt' : ¬ (0 : Int) < (q.size : Int) := by omega
          have HKQ : Hid (k2 = z.data.toList.length / 64) := Lib.hid (by have := HR2.out.2; omega)
          have HK : Hid ((stTo st0 z.data.toList k2).length = 8) := Lib.hid (by rw [stTo_length]; exact HST0.out)
          have HC : Hid ((cellsW (stTo st0 z.data.toList k2)).size = 8) := Lib.hid (by rw [cellsW_size, HK.out])
          clear hq
          go_wp2_with (first
            | (refine wpList_load_blk 26 _ HB.out rfl rfl rfl _ Tryd.underlying26 rfl (by rw [HC.out]; kernel_rfl) ?_)
            | (go_at_call 35; refine (output_any _ HK.out _).mono ?_; rintro en w7 ⟨rfl, hb7⟩))
          go_ret
          exact ⟨ret_str (by rw [HFIN.out, HKQ.out]), GB.trans (hb7.mono GB.size)⟩
end Go.Proofs.YtdpfhlopcempmaaDoor
