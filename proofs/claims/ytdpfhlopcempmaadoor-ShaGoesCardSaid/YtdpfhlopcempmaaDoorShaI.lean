/-
  Layer 1: the document's first state; the walk of ShaGoes.
-/
import Derived.Test.YtdpfhlopcempmaaDoorShaH
namespace Go.Proofs.YtdpfhlopcempmaaDoor
open Go Go.RowKit

theorem stTo_add (st : List UInt32) (m : List UInt8) (q : Nat) (j : Nat) : stTo (stTo st m q) (m.drop (64 * q)) j = stTo st m (q + j) := by
  induction j with
  | zero => rfl
  | succ j ih => rw [stTo, ih, ← Nat.add_assoc, stTo, List.drop_drop, show 64 * q + 64 * j = 64 * (q + j) by omega]
theorem stTo_front (st : List UInt32) (l p : List UInt8) (q : Nat) (hq : 64 * q ≤ l.length) : stTo st (l ++ p) q = stTo st l q := by
  induction q with
  | zero => rfl
  | succ q ih =>
    rw [stTo, stTo, ih (by omega), List.drop_append_of_le_length (by omega), List.take_append_of_le_length (by rw [List.length_drop]; omega)]
/-- All blocks. -/
def fullL (l : List UInt8) : List UInt8 := l ++ padL l.length
theorem fullL_dvd (l : List UInt8) : (fullL l).length % 64 = 0 := by rw [fullL, List.length_append]; exact padL_dvd _
theorem sumL_full (l : List UInt8) : sumL l = outTo (stTo stI (fullL l) ((fullL l).length / 64)) 8 := by
  have h1 : lastL l = (fullL l).drop (64 * (l.length / 64)) := by rw [lastL, fullL, List.drop_append_of_le_length (by omega)]
  have h2 : stTo stI l (l.length / 64) = stTo stI (fullL l) (l.length / 64) := (stTo_front _ _ _ _ (by omega)).symm
  have h3 : l.length / 64 + (lastL l).length / 64 = (fullL l).length / 64 := by
    have := fullL_dvd l
    rw [h1, List.length_drop]
    have h4 : l.length ≤ (fullL l).length := by rw [fullL, List.length_append]; omega
    omega
  rw [sumL, h2, ← h3, ← stTo_add, ← h1]
set_option maxRecDepth 100000 in
theorem state_any (w : World) :
    Calls Tryd.prog 24 #[] w fun en w' => en = .returned (.slice (some ⟨w.heap.size, 0, none⟩) 8 8) ∧ Blk w' w.heap.size 25 (cellsW stI) ∧ Below w.heap.size w w' := by
  go_enter Tryd.func24, Tryd.ntmps24
  go_wp2
  go_ret
  exact ⟨rfl, by exact Blk.new w _ _, (Below.refl _ _).alloc (Nat.le_refl _) _⟩
set_option maxRecDepth 100000 in
theorem len_bytes (w : World) (n : Nat) (hn : n ≤ 4096) :
    (convert 33 9 (.slice (some ⟨w.heap.size, 0, none⟩) 8 8)).run Tryd.prog (w.alloc (.cells #[.int .u8 0, .int .u8 0, .int .u8 0, .int .u8 0, .int .u8 (8 * (n : Int) / 16777216), .int .u8 (8 * (n : Int) / 65536), .int .u8 (8 * (n : Int) / 256), .int .u8 (8 * (n : Int) % 256)] 5)) =
      .ok (.string ⟨(lenTo n 8).toArray⟩) (w.alloc (.cells #[.int .u8 0, .int .u8 0, .int .u8 0, .int .u8 0, .int .u8 (8 * (n : Int) / 16777216), .int .u8 (8 * (n : Int) / 65536), .int .u8 (8 * (n : Int) / 256), .int .u8 (8 * (n : Int) % 256)] 5)) := by
  have e : (#[.int .u8 0, .int .u8 0, .int .u8 0, .int .u8 0, .int .u8 (8 * (n : Int) / 16777216), .int .u8 (8 * (n : Int) / 65536), .int .u8 (8 * (n : Int) / 256), .int .u8 (8 * (n : Int) % 256)] : Array Value) = cellsB (lenTo n 8) := by
    simp [lenTo, cellsB, bv, B8, UInt8.toNat_ofNat']
    omega
  rw [e]
  have hl : (lenTo n 8).length = 8 := lenTo_length n 8
  have := run_convert_bytes_back (P := Tryd.prog) (w.alloc (.cells (cellsB (lenTo n 8)) 5)) 33 9 5 ⟨w.heap.size, 0, none⟩ 8 (lenTo n 8) Tryd.underlying33 Tryd.underlying5 Tryd.underlying9 (fun j hj => by
    have : (⟨w.heap.size, 0, none⟩ : Addr).add j = ⟨w.heap.size, j, none⟩ := by unfold Addr.add; split <;> simp_all
    rw [this, cell_of_row _ w.heap.size j _ _ (0, 0) (heap_alloc_new _ _), cellsB_get _ _ hj]
    simp [hj, B8])
  rw [hl] at this
  exact this
/-- The first i words of the first state, and noughts. -/
def hTo (i : Nat) : List UInt32 := stI.take i ++ List.replicate (8 - i) 0
theorem hTo_set : ∀ i, i < 8 → (hTo i).set i (stI[i]?.getD 0) = hTo (i + 1) := by decide
theorem hTo_length : ∀ i, i ≤ 8 → (hTo i).length = 8 := by decide
theorem outTo_at (st : List UInt32) (n i j : Nat) (hi : i < n) (hj : j < 4) : (outTo st n).getD (4 * i + j) 0 = (beB (st[i]?.getD 0)).getD j 0 := by
  induction n with
  | zero => omega
  | succ n ih =>
    rw [outTo, List.getD_eq_getElem?_getD]
    by_cases h : i = n
    · subst h
      rw [List.getElem?_append_right (by rw [outTo_length]; omega), outTo_length, show 4 * i + j - 4 * i = j by omega, List.getD_eq_getElem?_getD]
    · rw [List.getElem?_append_left (by rw [outTo_length]; omega), ← List.getD_eq_getElem?_getD]
      exact ih (by omega)
theorem sum_ex (s : ByteArray) (hs : s.size ≤ 1099511627776) (w : World) (hL : Laid w) :
    Calls Tryd.prog 17 #[.string s] w fun en w' => ∃ d : ByteArray, en = .returned (.string d) ∧ Hid (d.data.toList = sumL s.data.toList) ∧ d.size = 32 ∧ Below w.heap.size w w' :=
  (sum_any s hs w hL).mono fun _ _ ⟨h1, h2⟩ => ⟨_, h1, Lib.hid rfl, by show (sumL s.data.toList).toArray.size = 32; rw [List.size_toArray, sumL, outTo_length], h2⟩
set_option maxRecDepth 100000 in
theorem goes_walk (s : ByteArray) (_hs : s.size ≤ maxLen) (w : World) (hL : Laid w) :
    Calls Tryd.prog 6 #[.string s] w fun en w' => en = .returned (.bool true) ∧ Below w.heap.size w w' := by
  by_cases hs : s.size ≤ 4096
  · have hs' : ¬ (4096 : Int) < (s.size : Int) := by omega
    have hb1 : s.size + 1 ≤ 9223372036854775807 := by omega
    go_enter Tryd.func6, Tryd.ntmps6
    go_wp2
    go_loopw [3] (fun v wr => ∃ (k : Nat) (o : ByteArray), k ≤ zerosN s.size ∧ v = .string o ∧ o.size = s.size + 1 + k ∧ Hid (o.data.toList = s.data.toList ++ 128 :: List.replicate k 0) ∧ Below w.heap.size w wr) (fun v _ => s.size + 100 - szOf v)
    case atStart => exact ⟨0, _, by omega, rfl, by rw [ByteArray.size_append]; rfl, Lib.hid (by rw [append_list]; rfl), Below.refl _ _⟩
    case round =>
      obtain ⟨k, o, hk, rfl, hz, HO, GB⟩ := hrel
      have hzl : zerosN s.size < 64 := by unfold zerosN; omega
      by_cases hlt : o.size % 64 = 56
      · have hne : ((o.size : Int) % 64 != 56) = false := by rw [bne_eq_false_iff_eq]; omega
        have hke : k = zerosN s.size := by unfold zerosN at *; omega
        have LB := Lib.hid (len_bytes wr s.size hs)
        have hz' : o.size + (⟨(lenTo s.size 8).toArray⟩ : ByteArray).size ≤ 9223372036854775807 := by
          show o.size + (lenTo s.size 8).toArray.size ≤ _
          rw [List.size_toArray, lenTo_length]; omega
        go_wp2_with fail
        rw [LB.out]
        have hall : (o ++ ⟨(lenTo s.size 8).toArray⟩).data.toList = fullL s.data.toList := by
          rw [append_list, HO.out, hke, fullL, list_length, padL, List.append_assoc]
        have GB1 := GB.trans (Below.alloc (Below.refl wr.heap.size wr) (Nat.le_refl _) (.cells #[.int .u8 0, .int .u8 0, .int .u8 0, .int .u8 0, .int .u8 (8 * (s.size : Int) / 16777216), .int .u8 (8 * (s.size : Int) / 65536), .int .u8 (8 * (s.size : Int) / 256), .int .u8 (8 * (s.size : Int) % 256)] 5) |>.mono GB.size)
        generalize wr.alloc (.cells #[.int .u8 0, .int .u8 0, .int .u8 0, .int .u8 0, .int .u8 (8 * (s.size : Int) / 16777216), .int .u8 (8 * (s.size : Int) / 65536), .int .u8 (8 * (s.size : Int) / 256), .int .u8 (8 * (s.size : Int) % 256)] 5) = w1 at GB1 ⊢
        clear LB GB
        go_wp2_with (first
          | (go_at_call 24; refine (state_any _).mono ?_; rintro en w2 ⟨rfl, B2, b2⟩))
        have B1 : Blk w2 w1.heap.size 26 (cellsW (hTo 0)) := (Blk.new w1 _ _).below b2 (by simp)
        have GB2 := GB1.trans (((Below.refl w1.heap.size w1).alloc (Nat.le_refl _) _).trans (b2.mono (by simp)) |>.mono GB1.size)
        rw [World.size_alloc] at B2
        have hgw := GB1.size
        clear b2 GB1 hne HO hz hz' hzl hk hke hb1
        generalize w1.heap.size = g at *
        have hzz : (fullL s.data.toList).length = 64 * ((fullL s.data.toList).length / 64) := by have := fullL_dvd s.data.toList; omega
        generalize hq : (fullL s.data.toList).length / 64 = q at *
        generalize o ++ ⟨(lenTo s.size 8).toArray⟩ = z at *
        have hqz : z.size = 64 * q := by rw [← list_length, hall, hzz]
        have hq2 : q ≤ 100 := by
          have h1 : (fullL s.data.toList).length ≤ 4096 + 72 := by rw [fullL, List.length_append, list_length]; have := padL_le s.size; omega
          omega
        have HALL := Lib.hid hall
        have HQ := Lib.hid hq
        have HQZ := Lib.hid hqz
        clear hall hzz hq hqz
        go_loopw [44] (fun c wr => ∃ i : Nat, i ≤ 8 ∧ c = .int .i64 i ∧ Hid (Blk wr g 26 (cellsW (hTo i))) ∧ Hid (Blk wr (g + 1) 25 (cellsW stI)) ∧ Below w.heap.size w wr) (fun c _ => 8 - (intOf c).toNat)
        case atStart => exact ⟨0, by omega, rfl, Lib.hid B1, Lib.hid B2, GB2⟩
        case round =>
          obtain ⟨i, hi, rfl, H1, H2, GB⟩ := hrel
          by_cases hlt : i < 8
          · have c0 := (H2.out.cell i).trans (cellsW_get stI i hlt)
            have c1 := (H1.out.cell i).trans (cellsW_get (hTo i) i (by rw [hTo_length i hi]; exact hlt))
            have f1 := H1.out.free i
            have ii : (i : Int) < 8 := by omega
            have ni : 0 ≤ (i : Int) := by omega
            go_wp2
            refine ⟨⟨i + 1, by omega, by go_num, Lib.hid (by rw [← hTo_set i hlt, ← cellsW_set]; exact H1.out.put i _), Lib.hid (H2.out.far (by simp) _), GB.setCell (p := ⟨g, i, none⟩) hgw _⟩, by simp [intOf]; omega⟩
          · obtain rfl : i = 8 := by omega
            have HS := Lib.hid (show Blk wr g 26 (cellsW (stTo stI z.data.toList 0)) from H1.out)
            clear H1 H2
            have GB3 := GB
            go_wp2
            go_loopw [8] (fun v wr => ∃ k : Nat, k ≤ q ∧ v = .int .i64 (64 * (k : Int)) ∧ Hid (Blk wr g 26 (cellsW (stTo stI z.data.toList k))) ∧ Below w.heap.size w wr) (fun v _ => 64 * q - (intOf v).toNat)
            case atStart => exact ⟨0, by omega, rfl, HS, GB3⟩
            case round =>
              obtain ⟨k, hk, rfl, HB, GB⟩ := hrel
              by_cases hlt3 : k < q
              · have GL := hL.below GB hL.pos
                have hg0 : 0 < g := Nat.lt_of_lt_of_le hL.pos hgw
                have HK : Hid ((stTo stI z.data.toList k).length = 8) := Lib.hid (by rw [stTo_length]; rfl)
                have HC : Hid ((cellsW (stTo stI z.data.toList k)).size = 8) := Lib.hid (by rw [cellsW_size, HK.out])
                have HE : Hid ((z.extract (64 * k) (64 * k + 64)).size = 64) := Lib.hid (by rw [← list_length, extract_list, List.length_drop, List.length_take, list_length, HQZ.out]; omega)
                have HST : Hid (stTo stI z.data.toList (k + 1) = blkL (stTo stI z.data.toList k) (z.extract (64 * k) (64 * k + 64)).data.toList) := Lib.hid (by
                  rw [stTo, extract_list, List.drop_take, show 64 * k + 64 - 64 * k = 64 by omega])
                have i1 : 64 * (k : Int) < (z.size : Int) := by have := HQZ.out; omega
                have i2 : 64 * (k : Int) + 64 ≤ (z.size : Int) := by have := HQZ.out; omega
                have n1 : 0 ≤ 64 * (k : Int) := by omega
                have n2 : 0 ≤ 64 * (k : Int) + 64 := by omega
                have n3 : 64 * (k : Int) ≤ 64 * (k : Int) + 64 := by omega
                have e2 : IntKind.i64.wrap (64 * (k : Int) + 64) = 64 * (k : Int) + 64 := IntWalk.i64_in _ (by omega)
                have t1 : (64 * (k : Int)).toNat = 64 * k := by omega
                have t2 : (64 * (k : Int) + 64).toNat = 64 * k + 64 := by omega
                have m2 : 64 * k + 64 ≤ z.size := by have := HQZ.out; omega
                have m3 : 64 * k ≤ 64 * k + 64 := by omega
                go_wp2
                refine region_tail 6 (by kernel_rfl) (by kernel_rfl) ?_
                simp only [List.take_succ_cons, List.take_zero, List.drop_succ_cons, List.drop_zero]
                refine wpStill_load_blk 26 _ HB.out.drew rfl rfl rfl _ Tryd.underlying26 rfl (by rw [HC.out]; kernel_rfl) ?_
                repeat still_step
                try refine wpStill_nil ?_
                go_wp2_with (first
                  | (go_at_call 19; refine (block_ex _ HK.out (z.extract (64 * k) (64 * k + 64)) HE.out _ GL.drew).mono ?_; rintro en w4 ⟨st', rfl, HX, hb4⟩; have GL4 := GL.drew.below hb4 GL.pos; have GB4 := GB.drew.trans (hb4.mono GB.size); have HB4 := HB.out.drew.below hb4 HB.out.lt; clear hb4)
                  | (refine wpList_store_blk 26 _ _ (cellsW st') HB4 rfl rfl rfl rfl (by rw [HX.out.2]; kernel_rfl) (by rw [HX.out.2, HC.out]) (cellsW_one _) ?_; intro w5 hb5 hg5 hs5; have GL5 := GL4.only hg5 hg0; have GB5 := below_only GB4 hg5 hgw (Nat.le_refl _); clear hs5 hg5))
                go_roundw
                case rel =>
                  (repeat apply Exists.intro)
                  refine ⟨?rel2, ?fr2⟩
                  case fr2 => rfl
                  case rel2 => exact ⟨k + 1, by omega, by go_num, Lib.hid (by rw [HST.out, ← HX.out.1]; exact hb5), GB5⟩
                case measure => simp [intOf]; omega
              · obtain rfl : k = q := by omega
                have i1 : ¬ 64 * (k : Int) < (z.size : Int) := by have := HQZ.out; omega
                have GL := hL.below GB hL.pos
                have HC : Hid ((cellsW (stTo stI z.data.toList k)).size = 8) := Lib.hid (by rw [cellsW_size, stTo_length]; rfl)
                go_wp2_with (first
                  | (go_at_call 17; refine (sum_ex s (by omega) _ GL).mono ?_; rintro en w4 ⟨d, rfl, HD, hd32, hb4⟩; have HB4 := HB.out.below hb4 HB.out.lt; have GB4 := GB.trans (hb4.mono GB.size); have hne : ((d.size : Int) != 32) = false := (by rw [bne_eq_false_iff_eq]; omega); clear hb4)
                  | (refine wpList_load_blk 26 _ HB4 rfl rfl rfl _ Tryd.underlying26 rfl (by rw [HC.out]; kernel_rfl) ?_))
                have hF : d.data.toList = outTo (stTo stI z.data.toList k) 8 := by
                  rw [HD.out, sumL_full, HQ.out, HALL.out]
                have hst : (stTo stI z.data.toList k).length = 8 := by rw [stTo_length]; rfl
                clear HD HQ HALL HB HB4 HC
                generalize stTo stI z.data.toList k = st at *
                have HF := Lib.hid hF
                have HT := Lib.hid hst
                clear hF hst
                have r24 := fun x => W_shr x 24 16777216 (by decide) (by decide)
                have r16 := fun x => W_shr x 16 65536 (by decide) (by decide)
                have r8 := fun x => W_shr x 8 256 (by decide) (by decide)
                have h8 := W_to8
                have GB5 := GB4
                go_loopw [72] (fun c wr => ∃ i : Nat, i ≤ 8 ∧ c = .int .i64 i ∧ Below w.heap.size w wr) (fun c _ => 8 - (intOf c).toNat)
                case atStart => exact ⟨0, by omega, rfl, GB5⟩
                case round =>
                  obtain ⟨i, hi, rfl, GB6⟩ := hrel
                  by_cases hlt4 : i < 8
                  · have c0 := cellsW_get st i (by rw [HT.out]; exact hlt4)
                    have hix := fun wx => run_index_arr (P := Tryd.prog) wx 26 25 8 _ _ i _ Tryd.underlying26 Tryd.underlying25 rfl (by kernel_rfl) hlt4 c0
                    clear c0
                    have p0 : 4 * i < d.size := by omega
                    have p1 : 4 * i + 1 < d.size := by omega
                    have p2 : 4 * i + 2 < d.size := by omega
                    have p3 : 4 * i + 3 < d.size := by omega
                    have o0 : ((d[4 * i]'p0).toNat : Int) = B8 ((st[i]?.getD 0) >>> 24).toUInt8 := by
                      rw [byte_at, HF.out]; exact congrArg B8 (outTo_at st 8 i 0 hlt4 (by omega))
                    have o1 : ((d[4 * i + 1]'p1).toNat : Int) = B8 ((st[i]?.getD 0) >>> 16).toUInt8 := by
                      rw [byte_at, HF.out]; exact congrArg B8 (outTo_at st 8 i 1 hlt4 (by omega))
                    have o2 : ((d[4 * i + 2]'p2).toNat : Int) = B8 ((st[i]?.getD 0) >>> 8).toUInt8 := by
                      rw [byte_at, HF.out]; exact congrArg B8 (outTo_at st 8 i 2 hlt4 (by omega))
                    have o3 : ((d[4 * i + 3]'p3).toNat : Int) = B8 (st[i]?.getD 0).toUInt8 := by
                      rw [byte_at, HF.out]; exact congrArg B8 (outTo_at st 8 i 3 hlt4 (by omega))
                    have i0 : (4 * (i : Int)) < (d.size : Int) := by omega
                    have i1 : (4 * (i : Int) + 1) < (d.size : Int) := by omega
                    have i2 : (4 * (i : Int) + 2) < (d.size : Int) := by omega
                    have i3 : (4 * (i : Int) + 3) < (d.size : Int) := by omega
                    have ik : (i : Int) < 8 := by omega
                    have n0 : 0 ≤ (4 * (i : Int)) := by omega
                    have n1 : 0 ≤ (4 * (i : Int) + 1) := by omega
                    have n2 : 0 ≤ (4 * (i : Int) + 2) := by omega
                    have n3 : 0 ≤ (4 * (i : Int) + 3) := by omega
                    have e0 : IntKind.i64.wrap (4 * (i : Int)) = 4 * (i : Int) := IntWalk.i64_in _ (by omega)
                    have e1 : IntKind.i64.wrap (4 * (i : Int) + 1) = 4 * (i : Int) + 1 := IntWalk.i64_in _ (by omega)
                    have e2 : IntKind.i64.wrap (4 * (i : Int) + 2) = 4 * (i : Int) + 2 := IntWalk.i64_in _ (by omega)
                    have e3 : IntKind.i64.wrap (4 * (i : Int) + 3) = 4 * (i : Int) + 3 := IntWalk.i64_in _ (by omega)
                    have t0 : (4 * (i : Int)).toNat = 4 * i := by omega
                    have t1 : (4 * (i : Int) + 1).toNat = 4 * i + 1 := by omega
                    have t2 : (4 * (i : Int) + 2).toNat = 4 * i + 2 := by omega
                    have t3 : (4 * (i : Int) + 3).toNat = 4 * i + 3 := by omega
                    have HD32 := Lib.hid hd32
                    clear hd32 hne
                    go_wp2
                    exact ⟨⟨i + 1, by omega, by go_num, GB6⟩, by simp [intOf]; omega⟩
                  · obtain rfl : i = 8 := by omega
                    have GL6 := hL.below GB6 hL.pos
                    go_wp2_with (first | (go_at_call 16; refine (awake01 _ GL6).mono ?_; rintro en w9 ⟨rfl, hb9⟩))
                    go_ret
                    exact ⟨rfl, GB6.trans (hb9.mono GB6.size)⟩
      · have hne : ((o.size : Int) % 64 != 56) = true := by rw [bne_iff_ne]; omega
        have hke : k < zerosN s.size := by unfold zerosN at *; omega
        have hb2 : o.size + 1 ≤ 9223372036854775807 := by omega
        go_wp2
        go_roundw
        case rel => exact ⟨k + 1, _, hke, rfl, by rw [ByteArray.size_append, hz]; show _ + 1 = _; omega, Lib.hid (by rw [append_list, HO.out, List.replicate_succ', List.append_assoc]; rfl), GB⟩
        case measure => simp only [szOf]; rw [ByteArray.size_append]; show _ - (_ + 1) < _; omega
  · have hs' : (4096 : Int) < (s.size : Int) := by omega
    go_enter Tryd.func6, Tryd.ntmps6
    go_wp2_with (first | (go_at_call 16; refine (awake01 _ hL).mono ?_; rintro en w2 ⟨rfl, hb2⟩))
    go_ret
    exact ⟨rfl, hb2⟩
end Go.Proofs.YtdpfhlopcempmaaDoor
