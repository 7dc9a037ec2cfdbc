/-
  Layer 2: mac.pad, mac.Sum, and the laws' fixed answer.
-/
import Derived.Test.YtdpfhlopcempmaaDoorMacA
import Derived.Lib.LazyBuf
namespace Go.Proofs.YtdpfhlopcempmaaDoor
open Go Go.RowKit

/-- The key in 64 bytes, turned by a mask. -/
def padK (l : List UInt8) (m : UInt8) : List UInt8 := (l ++ List.replicate (64 - l.length) 0).map (· ^^^ m)
/-- The first k bytes are turned. -/
def padTo (l : List UInt8) (m : UInt8) : Nat → List UInt8
  | 0 => l
  | k + 1 => (padTo l m k).set k (((padTo l m k)[k]?.getD 0) ^^^ m)
theorem padTo_length (l : List UInt8) (m : UInt8) (k : Nat) : (padTo l m k).length = l.length := by
  induction k with
  | zero => rfl
  | succ k ih => rw [padTo, List.length_set, ih]
theorem padTo_eq (l : List UInt8) (m : UInt8) (k : Nat) (hk : k ≤ l.length) : padTo l m k = (l.take k).map (· ^^^ m) ++ l.drop k := by
  induction k with
  | zero => simp [padTo]
  | succ k ih =>
    have hk' : k < l.length := by omega
    rw [padTo, ih (by omega)]
    apply List.ext_getElem (by simp; omega)
    intro i h1 h2
    simp only [List.length_set, List.length_append, List.length_map, List.length_take, List.length_drop] at h1
    rw [List.getElem_set]
    by_cases h : k = i
    · subst h
      simp [List.getElem_append, hk', List.getElem?_append, Nat.min_eq_left (Nat.le_of_lt hk')]
      omega
    · rw [if_neg h]
      by_cases h3 : i < k
      · rw [List.getElem_append_left (by simp; omega), List.getElem_append_left (by simp; omega)]; simp
      · rw [List.getElem_append_right (by simp; omega), List.getElem_append_right (by simp; omega)]; simp; congr 1; omega
/-- Bytes laid over a list from a place on. -/
def putL (l : List UInt8) (o : Nat) : List UInt8 → List UInt8
  | [] => l
  | b :: r => putL (l.set o b) (o + 1) r
theorem putL_length (r : List UInt8) : ∀ (l : List UInt8) (o : Nat), (putL l o r).length = l.length := by
  induction r with
  | nil => intro l o; rfl
  | cons b r ih => intro l o; rw [putL, ih, List.length_set]
theorem putL_eq (r : List UInt8) : ∀ (l : List UInt8) (o : Nat), o + r.length ≤ l.length → putL l o r = l.take o ++ r ++ l.drop (o + r.length) := by
  induction r with
  | nil => intro l o _; simp [putL]
  | cons b r ih =>
    intro l o h
    simp only [List.length_cons] at h
    rw [putL, ih _ _ (by rw [List.length_set]; omega)]
    apply List.ext_getElem? ; intro i
    have e1 : List.take (o + 1) (l.set o b) = List.take o l ++ [b] := by
      have ho : o < l.length := by omega
      rw [List.set_eq_take_append_cons_drop, if_pos ho, List.take_append, List.take_of_length_le (by simp; omega)]
      simp [Nat.min_eq_left (Nat.le_of_lt ho)]
    have e2 : List.drop (o + 1 + r.length) (l.set o b) = List.drop (o + (r.length + 1)) l := by
      rw [List.drop_set, if_pos (by omega)]; congr 1; omega
    rw [e1, e2]
    simp
section
variable {w : World} {base g cap n : Nat} {E : TypeId} {l : List UInt8}
theorem Buf.puts (r : List UInt8) : ∀ {w : World} {l : List UInt8} (o : Nat), Buf w base E (.slice (some ⟨g, 0, none⟩) n cap) l →
    Buf (w.setCells g o (r.map bv)) base E (.slice (some ⟨g, 0, none⟩) n cap) (putL l o r) := by
  induction r with
  | nil => intro w l o h; exact h
  | cons b r ih => intro w l o h; exact ih (o + 1) (h.put o b)
end
set_option maxRecDepth 100000 in
theorem pad_any (key : ByteArray) (m : UInt8) (hk : key.size ≤ 64) (w : World) :
    Calls Tryd.prog 39 #[.string key, .int .u8 (B8 m)] w fun en w' => ∃ d : ByteArray, en = .returned (.string d) ∧ Hid (d.data.toList = padK key.data.toList m) ∧ Below w.heap.size w w' := by
  go_enter Tryd.func39, Tryd.ntmps39
  go_wp2_with (first
    | (refine wpList_make_bufN byteTy _ _ _ rfl rfl _ _ _ _ 64 64 rfl rfl rfl (by omega) (by omega) (by omega) ?_; intro w1 hb1 hg1; have L1 := ((Below.refl w.heap.size w).grown hg1 (Nat.le_refl _) (fun _ h => by cases h)); clear hg1))
  have hc := run_copy_string (P := Tryd.prog) w1 33 9 3 5 w.heap.size 0 64 64 key (by kernel_rfl) (fun _ => by kernel_rfl) hk
    (fun j hj => by rw [hb1.cell (0 + j) (by rw [List.length_replicate]; omega)]; rfl) (fun j hj => hb1.free (0 + j))
  rw [hc]
  have hb2 := hb1.puts key.data.toList 0
  have L2 := below_setCells (b := w.heap.size) (Nat.le_refl _) (key.data.toList.map bv) 0 _ L1
  have hp : putL (List.replicate 64 0) 0 key.data.toList = key.data.toList ++ List.replicate (64 - key.data.toList.length) 0 := by
    rw [putL_eq _ _ _ (by rw [List.length_replicate, list_length]; omega), List.take_zero, List.nil_append, Nat.zero_add, List.drop_replicate]
  rw [hp] at hb2
  have hz : (key.data.toList ++ List.replicate (64 - key.data.toList.length) (0 : UInt8)).length = 64 := by rw [List.length_append, List.length_replicate, list_length]; omega
  rw [show (List.map (fun x : UInt8 => Value.int .u8 (x.toNat : Int)) key.data.toList) = key.data.toList.map bv from rfl]
  generalize w1.setCells w.heap.size 0 (key.data.toList.map bv) = w2 at hb2 L2 ⊢
  have HP := Lib.hid (show padTo (key.data.toList ++ List.replicate (64 - key.data.toList.length) (0 : UInt8)) m 64 = padK key.data.toList m from by
    rw [padTo_eq _ _ _ (by omega), List.take_of_length_le (by omega), List.drop_of_length_le (by omega), List.append_nil]; rfl)
  generalize key.data.toList ++ List.replicate (64 - key.data.toList.length) (0 : UInt8) = ks at hb2 HP hz
  have HZ := Lib.hid hz
  clear hc hb1 L1 hp hz
  go_wp2
  go_loopw [13] (fun c wr => ∃ k : Nat, k ≤ 64 ∧ c = .int .i64 k ∧ Buf wr w.heap.size 5 (.slice (some ⟨w.heap.size, 0, none⟩) 64 64) (padTo ks m k) ∧ Below w.heap.size w wr) (fun c _ => 64 - (intOf c).toNat)
  case atStart => exact ⟨0, by omega, rfl, hb2, L2⟩
  case round =>
    obtain ⟨k, hk64, rfl, hb, hL⟩ := hrel
    by_cases hlt : k < 64
    · have ik : (k : Int) < 64 := by omega
      have nk : 0 ≤ (k : Int) := by omega
      have hx := B8_xor
      have c0 := hb.cell k (by rw [padTo_length, HZ.out]; exact hlt)
      have f0 := hb.free k
      have HB := Lib.hid hb
      have HL := Lib.hid hL
      clear hb hL
      go_wp2
      refine ⟨⟨k + 1, by omega, by go_num, by rw [padTo]; exact HB.out.put k _, HL.out.setCell (p := ⟨w.heap.size, k, none⟩) (Nat.le_refl _) _⟩, by simp [intOf]; omega⟩
    · obtain rfl : k = 64 := by omega
      rw [HP.out] at hb
      go_wp2_with (first | (refine wpList_string_buf byteTy hb _ rfl rfl rfl ?_))
      go_ret
      exact ⟨_, rfl, Lib.hid rfl, hL⟩
def sumB (s : ByteArray) : ByteArray := ⟨(sumL s.data.toList).toArray⟩
def padB (key : ByteArray) (m : UInt8) : ByteArray := ⟨(padK key.data.toList m).toArray⟩
def keyB (key : ByteArray) : ByteArray := if 64 < key.size then sumB key else key
def macB (key s : ByteArray) : ByteArray := sumB (padB (keyB key) 92 ++ sumB (padB (keyB key) 54 ++ s))
theorem sumL_length (l : List UInt8) : (sumL l).length = 32 := by unfold sumL; rw [outTo_length]
theorem sumB_size (s : ByteArray) : (sumB s).size = 32 := by show (sumL s.data.toList).toArray.size = 32; rw [List.size_toArray, sumL_length]
theorem macB_size (key s : ByteArray) : (macB key s).size = 32 := sumB_size _
theorem keyB_size (key : ByteArray) : (keyB key).size ≤ 64 := by
  unfold keyB; split
  · rw [sumB_size]; omega
  · omega
theorem padB_size (key : ByteArray) (m : UInt8) (h : key.size ≤ 64) : (padB key m).size = 64 := by
  show (padK key.data.toList m).toArray.size = 64
  rw [List.size_toArray]; unfold padK; rw [List.length_map, List.length_append, List.length_replicate, list_length]; omega
theorem sum_b (s : ByteArray) (hs : s.size ≤ 1099511627776) (w : World) (hL : Laid w) :
    Calls Tryd.prog 17 #[.string s] w fun en w' => en = .returned (.string (sumB s)) ∧ Laid w' ∧ Below w.heap.size w w' :=
  (sum_any s hs w hL).mono fun _ _ ⟨h1, h2⟩ => ⟨h1, hL.below h2 hL.pos, h2⟩
theorem pad_b (key : ByteArray) (m : UInt8) (c : Int) (hc : c = B8 m) (hk : key.size ≤ 64) (w : World) (hL : Laid w) :
    Calls Tryd.prog 39 #[.string key, .int .u8 c] w fun en w' => en = .returned (.string (padB key m)) ∧ Laid w' ∧ Below w.heap.size w w' := by
  subst hc
  refine (pad_any key m hk w).mono ?_
  rintro _ _ ⟨d, h1, h2, h3⟩
  exact ⟨by rw [h1, mk_list h2.out]; rfl, hL.below h3 hL.pos, h3⟩
set_option maxRecDepth 100000 in
theorem mac_any (key s : ByteArray) (hk : key.size ≤ 1099511627776) (hs : s.size ≤ 549755813888) (w : World) (hL : Laid w) :
    Calls Tryd.prog 26 #[.string key, .string s] w fun en w' => en = .returned (.string (macB key s)) ∧ Laid w' ∧ Below w.heap.size w w' := by
  have HM := Lib.hid (show macB key s = sumB (padB (keyB key) 92 ++ sumB (padB (keyB key) 54 ++ s)) from rfl)
  have z1 := keyB_size key
  have z2 := padB_size (keyB key) 54 z1
  have z3 := padB_size (keyB key) 92 z1
  have z4 : (padB (keyB key) 54).size + s.size ≤ 9223372036854775807 := by omega
  have z5 : (padB (keyB key) 54 ++ s).size ≤ 1099511627776 := by rw [ByteArray.size_append]; omega
  have z6 := sumB_size (padB (keyB key) 54 ++ s)
  have z7 : (padB (keyB key) 92).size + (sumB (padB (keyB key) 54 ++ s)).size ≤ 9223372036854775807 := by omega
  have z8 : (padB (keyB key) 92 ++ sumB (padB (keyB key) 54 ++ s)).size ≤ 1099511627776 := by rw [ByteArray.size_append]; omega
  have Z2 := Lib.hid z2
  have Z3 := Lib.hid z3
  have Z6 := Lib.hid z6
  clear z2 z3 z6
  by_cases h64 : 64 < key.size
  · have hi : (64 : Int) < (key.size : Int) := by omega
    have HK : keyB key = sumB key := if_pos h64
    rw [HK] at HM z1 z4 z5 z7 z8 Z2 Z3 Z6
    clear HK
    go_enter Tryd.func26, Tryd.ntmps26
    go_wp2_with (first
      | (go_at_call 17; ((with_reducible refine (sum_b key hk _ hL).mono ?_); rintro en w1 ⟨rfl, L1, b1⟩))
      | (go_at_call 39; ((with_reducible refine (pad_b (sumB key) 54 54 rfl z1 _ L1).mono ?_); rintro en w2 ⟨rfl, L2, b2⟩))
      | (go_at_call 17; ((with_reducible refine (sum_b _ z5 _ L2).mono ?_); rintro en w3 ⟨rfl, L3, b3⟩))
      | (go_at_call 39; ((with_reducible refine (pad_b (sumB key) 92 92 rfl z1 _ L3).mono ?_); rintro en w4 ⟨rfl, L4, b4⟩))
      | (go_at_call 17; ((with_reducible refine (sum_b _ z8 _ L4).mono ?_); rintro en w5 ⟨rfl, L5, b5⟩)))
    go_ret
    have c1 := b1.size
    have c2 := b2.size
    have c3 := b3.size
    have c4 := b4.size
    exact ⟨by rw [HM.out]; rfl, L5, b1.trans ((b2.mono (by omega)).trans ((b3.mono (by omega)).trans ((b4.mono (by omega)).trans (b5.mono (by omega)))))⟩
  · have hi : ¬ (64 : Int) < (key.size : Int) := by omega
    have HK : keyB key = key := if_neg h64
    rw [HK] at HM z1 z4 z5 z7 z8 Z2 Z3 Z6
    clear HK
    go_enter Tryd.func26, Tryd.ntmps26
    go_wp2_with (first
      | (go_at_call 39; ((with_reducible refine (pad_b key 54 54 rfl z1 _ hL).mono ?_); rintro en w2 ⟨rfl, L2, b2⟩))
      | (go_at_call 17; ((with_reducible refine (sum_b _ z5 _ L2).mono ?_); rintro en w3 ⟨rfl, L3, b3⟩))
      | (go_at_call 39; ((with_reducible refine (pad_b key 92 92 rfl z1 _ L3).mono ?_); rintro en w4 ⟨rfl, L4, b4⟩))
      | (go_at_call 17; ((with_reducible refine (sum_b _ z8 _ L4).mono ?_); rintro en w5 ⟨rfl, L5, b5⟩)))
    go_ret
    have c2 := b2.size
    have c3 := b3.size
    have c4 := b4.size
    exact ⟨by rw [HM.out]; rfl, L5, b2.trans ((b3.mono (by omega)).trans ((b4.mono (by omega)).trans (b5.mono (by omega))))⟩
end Go.Proofs.YtdpfhlopcempmaaDoor
