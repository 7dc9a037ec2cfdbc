/-
  Layer 2: mac.Password, mac.Draw.
-/
import Derived.Test.YtdpfhlopcempmaaDoorMacC
import Derived.Lib.ConvBytes
namespace Go.Proofs.YtdpfhlopcempmaaDoor
open Go Go.RowKit

def one4 : ByteArray := ⟨#[0, 0, 0, 1]⟩
/-- The digests' chain. -/
def uB (p s : ByteArray) : Nat → ByteArray
  | 0 => macB p (s ++ one4)
  | k + 1 => macB p (uB p s k)
def xorL (a b : List UInt8) : List UInt8 := List.zipWith (· ^^^ ·) a b
/-- The first k bytes are turned. -/
def xorTo (a b : List UInt8) : Nat → List UInt8
  | 0 => a
  | k + 1 => (xorTo a b k).set k (((xorTo a b k)[k]?.getD 0) ^^^ (b.getD k 0))
theorem xorTo_length (a b : List UInt8) (k : Nat) : (xorTo a b k).length = a.length := by
  induction k with
  | zero => rfl
  | succ k ih => rw [xorTo, List.length_set, ih]
/-- A password's key behind k more rounds. -/
def keyTo (p s : ByteArray) : Nat → List UInt8
  | 0 => (uB p s 0).data.toList
  | k + 1 => xorTo (keyTo p s k) (uB p s (k + 1)).data.toList 32
theorem uB_size (p s : ByteArray) (k : Nat) : (uB p s k).size = 32 := by cases k <;> exact macB_size _ _
theorem keyTo_length (p s : ByteArray) (k : Nat) : (keyTo p s k).length = 32 := by
  induction k with
  | zero => rw [keyTo, list_length, uB_size]
  | succ k ih => rw [keyTo, xorTo_length, ih]
/-- A row that a string was turned into: its bytes, and what lies behind. -/
def KB (w : World) (g : Nat) (e : TypeId) (l : List UInt8) : Prop := ∃ (cs : Array Value) (f : Nat × Nat), w.heap[g]? = some (.cells cs e f) ∧ l.length ≤ f.1 ∧ ∀ j, j < l.length → cs[j]? = some (.int .u8 (B8 (l[j]?.getD 0)))
section
variable {w : World} {g : Nat} {e : TypeId} {l : List UInt8}
theorem KB.lt (h : KB w g e l) : g < w.heap.size := by
  obtain ⟨cs, f, h, _⟩ := h
  rcases Nat.lt_or_ge g w.heap.size with hlt | hge
  · exact hlt
  · rw [Array.getElem?_eq_none hge] at h; cases h
theorem KB.cell (h : KB w g e l) (j : Nat) (hj : j < l.length) : w.cell? ⟨g, j, none⟩ = some (.int .u8 (B8 (l[j]?.getD 0))) := by
  obtain ⟨cs, f, h, h1, h2⟩ := h
  rw [cell_of_row w g j cs e f h, h2 j hj]
theorem KB.free (h : KB w g e l) (j : Nat) (hj : j < l.length) : w.frozen? ⟨g, j, none⟩ = false := by
  obtain ⟨cs, f, h, h1, h2⟩ := h
  simp [World.frozen?, h]
  omega
theorem KB.drew (h : KB w g e l) : KB w.drew g e l := h
theorem KB.below {w' : World} (h : KB w g e l) (hb : Below w.heap.size w w') : KB w' g e l := by
  have hlt := h.lt
  obtain ⟨cs, f, h, h1, h2⟩ := h
  exact ⟨cs, f, (hb.block g hlt).trans h, h1, h2⟩
theorem KB.put (h : KB w g e l) (j : Nat) (b : UInt8) : KB (w.setCell ⟨g, j, none⟩ (.int .u8 (B8 b))) g e (l.set j b) := by
  obtain ⟨cs, f, h, h1, h2⟩ := h
  refine ⟨cs.setIfInBounds j (.int .u8 (B8 b)), f, by simp [World.setCell, Array.getElem?_modify, h], by rw [List.length_set]; exact h1, fun i hi => ?_⟩
  rw [List.length_set] at hi
  rw [Array.getElem?_setIfInBounds, List.getElem?_set]
  have := h2 i hi
  by_cases hij : j = i
  · subst hij
    have hlt : j < cs.size := by
      rcases Nat.lt_or_ge j cs.size with h' | h'
      · exact h'
      · rw [Array.getElem?_eq_none h'] at this; cases this
    simp [hlt, hi]
  · simp [hij, this]
theorem KB.new (w : World) (e : TypeId) (s : ByteArray) : KB (Lib.bytesWorld w e s) w.heap.size e s.data.toList :=
  ⟨_, _, Lib.bytesWorld_at_new w e s, by simp [Lib.bytesCells], fun j hj => by
    have hj' : j < s.size := by simpa using hj
    have hj2 : j < s.data.size := hj'
    simp [Lib.bytesCells, Array.getElem?_append, hj', hj2, B8]⟩
theorem bytesWorld_below' (w : World) (e : TypeId) (s : ByteArray) : Below w.heap.size w (Lib.bytesWorld w e s) :=
  ⟨rfl, rfl, rfl, by rw [Lib.bytesWorld_size]; omega, fun k hk => Lib.bytesWorld_at_old w e s k hk⟩
end
set_option maxRecDepth 100000 in
theorem password_any (p s : ByteArray) (n : Nat) (c : Int) (hc : c = (n : Int)) (hp : p.size ≤ 4096) (hs : s.size ≤ 4096) (h1 : 1 ≤ n) (h64 : n ≤ 64) (w : World) (hL : Laid w) :
    Calls Tryd.prog 28 #[.string p, .string s, .int .i64 c] w fun en w' => ∃ d : ByteArray, en = .returned (.tuple #[.string d, .int .i64 0]) ∧ Hid (d.data.toList = keyTo p s (n - 1)) ∧ Laid w' ∧ Below w.heap.size w w' := by
  subst hc
  have i1 : ¬ ((n : Int) < 1) := by omega
  have i2 : ¬ ((64 : Int) < (n : Int)) := by omega
  have iz : s.size + one4.size ≤ 9223372036854775807 := by rw [show one4.size = 4 from rfl]; omega
  have hz : (s ++ one4).size ≤ 549755813888 := by rw [ByteArray.size_append, show one4.size = 4 from rfl]; omega
  have m0 := Lib.hid (fun w hL => mac_any p (s ++ one4) (by omega) hz w hL)
  have mk := Lib.hid (fun k w hL => mac_any p (uB p s k) (by omega) (by rw [uB_size]; omega) w hL)
  go_enter Tryd.func28, Tryd.ntmps28
  have hu0 : macB p (s ++ one4) = uB p s 0 := rfl
  rw [hu0] at m0
  go_wp2_with (first
    | (go_at_call 26; ((refine (m0.out _ hL).mono ?_); rintro en w1 ⟨rfl, L1, b1⟩)))
  rw [Lib.run_convert_string_bytes w1 9 33 5 _ Tryd.underlying9 Tryd.underlying33 Tryd.underlying5]
  rw [uB_size]
  have kb := KB.new w1 5 (uB p s 0)
  rw [show (uB p s 0).data.toList = keyTo p s 0 from rfl] at kb
  have b2 := b1.trans ((bytesWorld_below' w1 5 (uB p s 0)).mono b1.size)
  have L2 := L1.below (bytesWorld_below' w1 5 (uB p s 0)) L1.pos
  have hg := b1.size
  generalize grownCap w1 32 0 5 = cap
  generalize Lib.bytesWorld w1 5 (uB p s 0) = w2 at kb b2 L2 ⊢
  clear b1 L1 hu0 m0
  generalize w1.heap.size = g at kb hg ⊢
  go_wp2
  go_loopw [8, 25] (fun u c wr => ∃ k : Nat, k ≤ n - 1 ∧ c = .int .i64 k ∧ u = .string (uB p s k) ∧ KB wr g 5 (keyTo p s k) ∧ Laid wr ∧ Below w.heap.size w wr) (fun _ c _ => (n - 1) - (intOf c).toNat)
  case atStart => exact ⟨0, by omega, rfl, rfl, kb, L2, b2⟩
  case round =>
    obtain ⟨k, hk, rfl, rfl, KBk, GL, GB⟩ := hrel
    by_cases hlt : k < n - 1
    · have ik : (k : Int) < (n : Int) - 1 := by omega
      go_wp2_with (first
        | (go_at_call 26; ((refine (mk.out k _ GL).mono ?_); rintro en w3 ⟨rfl, L3, b3⟩)))
      have B3 := GB.trans (b3.mono GB.size)
      have K3 := KBk.below b3
      clear b3 KBk GB GL L3
      have HM := Lib.hid (show macB p (uB p s k) = uB p s (k + 1) from rfl)
      rw [HM.out] at *
      generalize hu1 : uB p s (k + 1) = u1 at *
      have HU := Lib.hid hu1
      have zu : u1.size = 32 := by rw [← hu1]; exact uB_size _ _ _
      have ZK := Lib.hid (keyTo_length p s k)
      clear hu1
      go_loopw [32] (fun c wr => ∃ j : Nat, j ≤ 32 ∧ c = .int .i64 j ∧ KB wr g 5 (xorTo (keyTo p s k) u1.data.toList j) ∧ Below w.heap.size w wr) (fun c _ => 32 - (intOf c).toNat)
      case atStart => exact ⟨0, by omega, rfl, K3, B3⟩
      case round =>
        obtain ⟨j, hj, rfl, KBj, GB⟩ := hrel
        by_cases hlt2 : j < 32
        · have jk : (j : Int) < 32 := by omega
          have jn : 0 ≤ (j : Int) := by omega
          have ju : j < u1.size := by omega
          have c0 := KBj.cell j (by rw [xorTo_length, ZK.out]; exact hlt2)
          have f0 := KBj.free j (by rw [xorTo_length, ZK.out]; exact hlt2)
          have HG := Lib.hid (byte_at u1 j ju)
          have hx := B8_xor
          have KJ := Lib.hid KBj
          have hb8 : ((u1[j]).toNat : Int) = B8 u1[j] := rfl
          clear KBj
          go_wp2
          refine region_tail 9 (by kernel_rfl) (by kernel_rfl) ?_
          simp only [List.take_succ_cons, List.take_zero, List.drop_succ_cons, List.drop_zero]
          repeat still_step
          try refine wpStill_nil ?_
          go_wp2
          go_roundw
          case rel => exact ⟨j + 1, by omega, by go_num, by rw [xorTo, ← HG.out]; exact (KJ.out.put j _).drew, (GB.setCell (p := ⟨g, j, none⟩) hg _).drew⟩
          case measure => simp [intOf]; omega
        · obtain rfl : j = 32 := by omega
          have GL := hL.below GB hL.pos
          have hkey : xorTo (keyTo p s k) u1.data.toList 32 = keyTo p s (k + 1) := by rw [keyTo, HU.out]
          rw [hkey] at KBj
          have KJ := Lib.hid KBj
          clear KBj hkey
          go_wp2
          go_roundw
          case rel => exact ⟨k + 1, by omega, by go_num, by rw [HU.out], KJ.out, GL, GB⟩
          case measure => simp [intOf]; omega
    · obtain rfl : k = n - 1 := by omega
      have ik : ¬ (((n - 1 : Nat) : Int) < (n : Int) - 1) := by omega
      go_wp2
      have hcv := run_convert_bytes_back (P := Tryd.prog) wr 33 9 5 ⟨g, 0, none⟩ cap (keyTo p s (n - 1)) Tryd.underlying33 Tryd.underlying5 Tryd.underlying9 (fun j hj => by
        have : (⟨g, 0, none⟩ : Addr).add j = ⟨g, j, none⟩ := by unfold Addr.add; split <;> simp_all
        rw [this, KBk.cell j hj]; simp [hj, B8])
      rw [keyTo_length] at hcv
      rw [hcv]
      go_wp2
      refine bodyPost_ret (results_tmp2 rfl _ _ _) rfl ?_
      exact ⟨_, rfl, Lib.hid rfl, GL, GB⟩
end Go.Proofs.YtdpfhlopcempmaaDoor
