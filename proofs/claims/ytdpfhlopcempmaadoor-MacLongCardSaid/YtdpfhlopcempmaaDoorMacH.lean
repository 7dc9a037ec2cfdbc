/-
  Layer 2: MacLong.
-/
import Derived.Test.YtdpfhlopcempmaaDoorMacC
import Derived.Test.YtdpfhlopcempmaaDoorPlan
namespace Go.Proofs.YtdpfhlopcempmaaDoor
open Go Go.RowKit

section
variable {P : Program} {ops : Array Oper} {Q : Exit → Act → World → Prop}
theorem any_one {i f : Nat} {l : Array Bool} {a : Act} {w : World} (hr : Region.ready .any ops l = [i]) (h : wpOp P ops (OnlyN Q) i (wpAny P .any ops (OnlyN Q) f (l.setIfInBounds i true)) a w) : wpAny P .any ops (OnlyN Q) (f + 1) l a w :=
  wpAny_all (rs := [i]) hr (by simp) fun j hj => by
    obtain rfl : j = i := by simpa using hj
    exact h
theorem any_two {i k f : Nat} {l : Array Bool} {a : Act} {w : World} (hr : Region.ready .any ops l = [i, k]) (h : wpOp P ops (OnlyN Q) i (wpAny P .any ops (OnlyN Q) f (l.setIfInBounds i true)) a w)
    (h2 : wpOp P ops (OnlyN Q) k (wpAny P .any ops (OnlyN Q) f (l.setIfInBounds k true)) a w) : wpAny P .any ops (OnlyN Q) (f + 1) l a w :=
  wpAny_all (rs := [i, k]) hr (by simp) fun j hj => by
    have hj' : j = i ∨ j = k := by simpa using hj
    rcases hj' with rfl | rfl
    · exact h
    · exact h2
theorem op_list {i : Nat} {o : Oper} {K : Act → World → Prop} {a : Act} {w : World} (hi : ops[i]? = some o) (h : wpList P ops (fun e a' w' => e = .normal ∧ K a' w') [o] a w) : wpOp P ops (OnlyN Q) i K a w := by
  unfold wpOp
  simp only [hi]
  unfold wpList at h
  by_cases hw : Region.wanted o (yielded ops a.tmps) = true
  · rw [if_pos hw] at h ⊢
    rcases h with h | ⟨_, h⟩
    · exact .inl (wp_only (fun a w h => h.2) h)
    · obtain ⟨_, _, h1, _⟩ := h; cases h1
  · rw [if_neg hw] at h ⊢
    exact h.2
end
def zerosB (n : Nat) : ByteArray := ⟨(List.replicate n (0 : UInt8)).toArray⟩
theorem zerosB_size (n : Nat) : (zerosB n).size = n := by show (List.replicate n (0 : UInt8)).toArray.size = n; simp
theorem mac_zeros (key s : ByteArray) (n : Nat) (h : key.size + n ≤ 64) : macB (key ++ zerosB n) s = macB key s := by
  have hz : (key ++ zerosB n).size = key.size + n := by rw [ByteArray.size_append, zerosB_size]
  have h1 : keyB (key ++ zerosB n) = key ++ zerosB n := if_neg (by omega)
  have h2 : keyB key = key := if_neg (by omega)
  have h3 : ∀ m, padB (key ++ zerosB n) m = padB key m := fun m => by
    unfold padB padK
    rw [append_list, List.length_append, show (zerosB n).data.toList = List.replicate n 0 from rfl, List.length_replicate, List.append_assoc, List.replicate_append_replicate, show n + (64 - (key.data.toList.length + n)) = 64 - key.data.toList.length by rw [list_length]; omega]
  rw [macB, macB, h1, h2, h3, h3]
theorem mac_long (key s : ByteArray) (h : 64 < key.size) : macB (sumB key) s = macB key s := by
  have h1 : keyB (sumB key) = sumB key := if_neg (by rw [sumB_size]; omega)
  have h2 : keyB key = sumB key := if_pos h
  rw [macB, macB, h1, h2]
set_option maxRecDepth 100000 in
set_option maxHeartbeats 600000 in
theorem maclong_law (a : ByteArray) (_ha : a.size ≤ maxLen) (b : ByteArray) (_hb : b.size ≤ maxLen) (x : Int) (hx : (Lit.int .u8 x).wf = true) (w : World) (hL : Laid w) :
    Calls Tryd.prog 13 #[.string a, .string b, .int .u8 x] w fun en w' => en = .returned (.bool true) ∧ Below w.heap.size w w' := by
  have hx' : 0 ≤ x ∧ x ≤ 255 := by simpa [Lit.wf, IntKind.min, IntKind.max, IntKind.signed, IntKind.bits] using hx
  by_cases ha : a.size ≤ 512
  · have ia : ¬ (512 : Int) < (a.size : Int) := by omega
    by_cases hb : b.size ≤ 512
    · have ib : ¬ (512 : Int) < (b.size : Int) := by omega
      have s1 := Lib.hid (fun w hL => mac_any a b (by omega) (by omega) w hL)
      by_cases h64 : 64 < a.size
      · have i64 : (64 : Int) < (a.size : Int) := by omega
        have s2 := Lib.hid (fun w hL => sum_b a (by omega) w hL)
        have s3 := Lib.hid (fun w hL => mac_any (sumB a) b (by rw [sumB_size]; omega) (by omega) w hL)
        rw [mac_long a b h64] at s3
        have hq := beq_lists (rfl : (macB a b).data.toList = (macB a b).data.toList)
        generalize macB a b = d at *
        go_enter Tryd.func13, Tryd.ntmps13
        go_wp2_with (first
          | (go_at_call 26; ((with_reducible refine (s1.out _ hL).mono ?_); rintro en w1 ⟨rfl, L1, b1⟩))
          | (go_at_call 17; ((with_reducible refine (s2.out _ L1).mono ?_); rintro en w2 ⟨rfl, L2, b2⟩))
          | (go_at_call 26; ((with_reducible refine (s3.out _ L2).mono ?_); rintro en w3 ⟨rfl, L3, b3⟩))
          | (go_at_call 25; ((with_reducible refine (awake02 _ L3).mono ?_); rintro en w4 ⟨rfl, _, b4⟩)))
        go_ret
        have c1 := b1.size
        have c2 := b2.size
        have c3 := b3.size
        exact ⟨rfl, b1.trans ((b2.mono (by omega)).trans ((b3.mono (by omega)).trans (b4.mono (by omega))))⟩
      · have i64 : ¬ (64 : Int) < (a.size : Int) := by omega
        obtain ⟨n, hn, hcase⟩ : ∃ n : Nat, a.size + n ≤ 64 ∧ ((x = (n : Int) ∧ ¬ (64 - (a.size : Int) < x)) ∨ (64 - (a.size : Int) = (n : Int) ∧ 64 - (a.size : Int) < x)) := by
          by_cases h : 64 - (a.size : Int) < x
          · exact ⟨64 - a.size, by omega, .inr ⟨by omega, h⟩⟩
          · exact ⟨x.toNat, by omega, .inl ⟨by omega, h⟩⟩
        have s3 := Lib.hid (fun w hL => mac_any (a ++ zerosB n) b (by rw [ByteArray.size_append, zerosB_size]; omega) (by omega) w hL)
        rw [mac_zeros a b n hn] at s3
        have hq := beq_lists (rfl : (macB a b).data.toList = (macB a b).data.toList)
        generalize macB a b = d at *
        have hsz : a.size + (zerosB n).size ≤ 9223372036854775807 := by rw [zerosB_size]; omega
        have ez : zerosB n = ⟨Array.replicate n 0⟩ := by unfold zerosB; simp
        rw [ez] at s3 hsz
        have s3' := s3
        have hn64 : n ≤ 64 := by omega
        have hLd : Laid w.drew := hL
        clear s3
        have B0 : Below w.heap.size w w.drew := (Below.refl _ w).drew
        rcases hcase with ⟨rfl, hc⟩ | ⟨hc1, hc⟩
        case' inl => have hc' : (n : Int) ≤ 64 - (a.size : Int) := by omega
        all_goals
          go_enter Tryd.func13, Tryd.ntmps13
          go_wp2_with fail
          refine Code.wp_mono (Q := OnlyN _) (fun e a w h => by obtain ⟨rfl, h⟩ := h; exact h) ?_
          refine wp_region_any (by kernel_rfl) ?_
          refine pure_phase (by kernel_rfl) [0, 1, 3, 4, 8] _ _ w.drew 10 _ (by kernel_rfl) (fun a' h => h) ?_
          simp only [pickL, List.getElem?_toArray, List.getElem?_cons_succ, List.getElem?_cons_zero]
          repeat (go_big_quiet_step (fail))
          refine wpQuiet_nil ?_
          refine any_two (i := 2) (k := 5) (f := 9) (by kernel_rfl) ?_ ?_
          · refine op_list rfl ?_
            go_wp2_with (first
              | (go_at_call 26; ((with_reducible refine (s1.out _ hLd).mono ?_); rintro en w1 ⟨rfl, L1, b1⟩; have B1 := B0.trans (b1.mono B0.size))))
            refine seq_phase [5, 6, 7, 9, 10, 11, 12, 13, 14] _ _ _ 0 _ (by kernel_rfl) (fun a' w' h => h) ?_
            simp only [pickL, List.getElem?_toArray, List.getElem?_cons_succ, List.getElem?_cons_zero]
            go_wp2_with (first
              | (refine wpList_make_bufN byteTy _ _ _ rfl rfl _ _ _ _ n n rfl rfl rfl rfl (Nat.le_refl _) (by omega) ?_; intro w2 hb2 hg2; have b2 := ((Below.refl w1.heap.size w1).grown hg2 (Nat.le_refl _) (fun _ h => by cases h)); have L2 := L1.below b2 L1.pos; have B2 := B1.trans (b2.mono B1.size); clear hg2)
              | (refine wpList_string_buf byteTy hb2 _ rfl rfl rfl ?_)
              | (go_at_call 26; ((with_reducible refine (s3'.out _ L2).mono ?_); rintro en w4 ⟨rfl, L4, b4⟩; have B4 := B2.trans (b4.mono B2.size)))
              | (go_at_call 25; ((with_reducible refine (awake02 _ L4).mono ?_); rintro en w9 ⟨rfl, _, b9⟩; have B9 := B4.trans (b9.mono B4.size))))
            refine ⟨by kernel_rfl, rfl, ?_⟩
            go_wp2_with fail
            go_ret
            exact ⟨rfl, B9⟩
          · refine op_list rfl ?_
            go_wp2_with (first
              | (refine wpList_make_bufN byteTy _ _ _ rfl rfl _ _ _ _ n n rfl rfl rfl rfl (Nat.le_refl _) (by omega) ?_; intro w2 hb2 hg2; have b2 := ((Below.refl w.drew.heap.size w.drew).grown hg2 (Nat.le_refl _) (fun _ h => by cases h)); have L2 := hLd.below b2 hLd.pos; have B2 := B0.trans (b2.mono B0.size); clear hg2))
            refine any_two (i := 2) (k := 6) (f := 8) (by kernel_rfl) ?_ ?_
            · refine op_list rfl ?_
              go_wp2_with (first
                | (go_at_call 26; ((with_reducible refine (s1.out _ L2).mono ?_); rintro en w3 ⟨rfl, L3, b3⟩; have B3 := B2.trans (b3.mono B2.size))))
              have hb3 := hb2.below b3
              refine seq_phase [6, 7, 9, 10, 11, 12, 13, 14] _ _ _ 0 _ (by kernel_rfl) (fun a' w' h => h) ?_
              simp only [pickL, List.getElem?_toArray, List.getElem?_cons_succ, List.getElem?_cons_zero]
              go_wp2_with (first
                | (refine wpList_string_buf byteTy hb3 _ rfl rfl rfl ?_)
                | (go_at_call 26; ((with_reducible refine (s3'.out _ L3).mono ?_); rintro en w4 ⟨rfl, L4, b4⟩; have B4 := B3.trans (b4.mono B3.size)))
                | (go_at_call 25; ((with_reducible refine (awake02 _ L4).mono ?_); rintro en w9 ⟨rfl, _, b9⟩; have B9 := B4.trans (b9.mono B4.size))))
              refine ⟨by kernel_rfl, rfl, ?_⟩
              go_wp2_with fail
              go_ret
              exact ⟨rfl, B9⟩
            · refine op_list rfl ?_
              go_wp2_with (first
                | (refine wpList_string_buf byteTy hb2 _ rfl rfl rfl ?_))
              refine pure_phase (by kernel_rfl) [7] _ _ _ 7 _ (by kernel_rfl) (fun a' h => h) ?_
              simp only [pickL, List.getElem?_toArray, List.getElem?_cons_succ, List.getElem?_cons_zero]
              repeat (go_big_quiet_step (fail))
              refine wpQuiet_nil ?_
              refine seq_phase [2, 9, 10, 11, 12, 13, 14] _ _ _ 0 _ (by kernel_rfl) (fun a' w' h => h) ?_
              simp only [pickL, List.getElem?_toArray, List.getElem?_cons_succ, List.getElem?_cons_zero]
              go_wp2_with (first
                | (go_at_call 26; ((with_reducible refine (s1.out _ L2).mono ?_); rintro en w3 ⟨rfl, L3, b3⟩; have B3 := B2.trans (b3.mono B2.size)))
                | (go_at_call 26; ((with_reducible refine (s3'.out _ L3).mono ?_); rintro en w4 ⟨rfl, L4, b4⟩; have B4 := B3.trans (b4.mono B3.size)))
                | (go_at_call 25; ((with_reducible refine (awake02 _ L4).mono ?_); rintro en w9 ⟨rfl, _, b9⟩; have B9 := B4.trans (b9.mono B4.size))))
              refine ⟨by kernel_rfl, rfl, ?_⟩
              go_wp2_with fail
              go_ret
              exact ⟨rfl, B9⟩
    · have ib : (512 : Int) < (b.size : Int) := by omega
      go_enter Tryd.func13, Tryd.ntmps13
      go_wp2_with (first
        | (go_at_call 25; ((with_reducible refine (awake02 _ hL).mono ?_); rintro en w3 ⟨rfl, _, b3⟩)))
      go_ret
      exact ⟨rfl, b3⟩
  · have ia : (512 : Int) < (a.size : Int) := by omega
    go_enter Tryd.func13, Tryd.ntmps13
    go_wp2_with (first
      | (go_at_call 25; ((with_reducible refine (awake02 _ hL).mono ?_); rintro en w3 ⟨rfl, _, b3⟩)))
    go_ret
    exact ⟨rfl, b3⟩
end Go.Proofs.YtdpfhlopcempmaaDoor
