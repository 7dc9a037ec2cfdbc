/-
  Layer 2: mac.Draw.
-/
import Derived.Test.YtdpfhlopcempmaaDoorMacD
import Derived.Lib.AppendStr
namespace Go.Proofs.YtdpfhlopcempmaaDoor
open Go Go.RowKit

def byteB (k : Nat) : ByteArray := ⟨#[UInt8.ofNat k]⟩
/-- Block k of the bytes drawn (block 0 is empty). -/
def drB (x info : ByteArray) : Nat → ByteArray
  | 0 => ⟨#[]⟩
  | k + 1 => macB x (drB x info k ++ info ++ byteB (k + 1))
/-- The first k blocks. -/
def drTo (x info : ByteArray) : Nat → List UInt8
  | 0 => []
  | k + 1 => drTo x info k ++ (drB x info (k + 1)).data.toList
theorem drB_size (x info : ByteArray) (k : Nat) : (drB x info k).size ≤ 32 := by
  cases k with
  | zero => exact Nat.zero_le _
  | succ k => rw [drB, macB_size]; exact Nat.le_refl _
theorem drTo_length (x info : ByteArray) (k : Nat) : (drTo x info k).length = 32 * k := by
  induction k with
  | zero => rfl
  | succ k ih => rw [drTo, List.length_append, ih, list_length, drB, macB_size]; omega
theorem drTo_more (x info : ByteArray) (k j n : Nat) (h : n ≤ 32 * k) (hj : k ≤ j) : (drTo x info j).take n = (drTo x info k).take n := by
  induction j with
  | zero => rw [show k = 0 by omega]
  | succ j ih =>
    by_cases hk : k = j + 1
    · rw [hk]
    · rw [drTo, List.take_append_of_le_length (by rw [drTo_length]; omega)]
      exact ih (by omega)
theorem Buf.shape {w : World} {base : Nat} {E : TypeId} {v : Value} {l : List UInt8} (h : Buf w base E v l) : (v = .slice none 0 0 ∧ l = []) ∨ ∃ g cap, v = .slice (some ⟨g, 0, none⟩) l.length cap ∧ l.length ≤ cap := by
  obtain ⟨h0, h1⟩ := h
  rcases h1 with ⟨hv, hn⟩ | ⟨g, cap, cur, hv, _, _, hc, _⟩
  · exact .inl ⟨hv, List.eq_nil_of_length_eq_zero hn⟩
  · exact .inr ⟨g, cap, hv, by omega⟩
/-- append of a string's bytes. -/
theorem wpList_append_str {P : Program} {S E T : TypeId} {w : World} {base : Nat} {v : Value} {l : List UInt8} {ops : Array Oper} {rest : List Oper} {o : Oper} {a : Act} {Q : Exit → Act → World → Prop} (hT : ByteTy P S E T) (h : Buf w base E v l) (s x : Operand)
    (ho : o.op = .call { callee := .builtin .append, args := #[s, x], argTypes := #[S, T] }) (hgd : o.guard = none) (hs : a.eval s = v) (d : ByteArray) (hx : a.eval x = .string d)
    (hlen : l.length + d.size ≤ 140737488355328) (hbase : base ≤ w.heap.size)
    (hk : ∀ v' w', Buf w' base E v' (l ++ d.data.toList) → w.grownBy w' v.ownBlock → wpList P ops Q rest (a.put o.dst v') w') :
    wpList P ops Q (o :: rest) a w := by
  obtain ⟨i, hi, hz, hsz, hby⟩ := info_parts hT.inf
  refine Lib.wpList_append_own_string w hgd s x S T ho base E i hT.su hT.tu hi hz hsz hby v l.length (l.map bv) hs h d hx (by unfold maxLen; omega) hlen hbase (fun v' w' h1 h2 _ => hk v' w' ?_ h2)
  unfold Buf
  have e : (l ++ d.data.toList).map bv = l.map bv ++ Lib.strCells d := by rw [List.map_append]; rfl
  rw [e, List.length_append, list_length]
  exact h1
theorem one_byte (w : World) (k : Nat) (hk : k < 256) (c : Int) (hc : c = (k : Int)) :
    (convert 33 9 (.slice (some ⟨w.heap.size, 0, none⟩) 1 1)).run Tryd.prog (w.alloc (.cells #[.int .u8 c] 5)) = .ok (.string (byteB k)) (w.alloc (.cells #[.int .u8 c] 5)) := by
  subst hc
  refine run_convert_bytes_back (P := Tryd.prog) _ 33 9 5 ⟨w.heap.size, 0, none⟩ 1 [UInt8.ofNat k] Tryd.underlying33 Tryd.underlying5 Tryd.underlying9 (fun j hj => ?_)
  have : (⟨w.heap.size, 0, none⟩ : Addr).add j = ⟨w.heap.size, j, none⟩ := by unfold Addr.add; split <;> simp_all
  rw [this, cell_of_row _ w.heap.size j _ _ (0, 0) (heap_alloc_new _ _)]
  have hj0 : j = 0 := by simpa using hj
  subst hj0
  simp [UInt8.toNat_ofNat']
  omega
set_option maxRecDepth 100000 in
theorem draw_any (sec salt info : ByteArray) (n : Nat) (c : Int) (hc : c = (n : Int)) (hse : sec.size ≤ 4096) (hsa : salt.size ≤ 4096) (hin : info.size ≤ 4096) (hn : n ≤ 8160) (w : World) (hL : Laid w) :
    Calls Tryd.prog 30 #[.string sec, .string salt, .string info, .int .i64 c] w fun en w' => ∃ d : ByteArray, en = .returned (.tuple #[.string d, .int .i64 0]) ∧ Hid (d.data.toList = (drTo (macB salt sec) info 255).take n) ∧ Laid w' ∧ Below w.heap.size w w' := by
  subst hc
  have i1 : ¬ ((n : Int) < 0) := by omega
  have i2 : ¬ ((8160 : Int) < (n : Int)) := by omega
  have m0 := Lib.hid (fun w hL => mac_any salt sec (by omega) (by omega) w hL)
  have hx0 := macB_size salt sec
  generalize macB salt sec = x at *
  have hsz := drB_size x info
  have mk := Lib.hid (fun k w hL => mac_any x (drB x info k ++ info ++ byteB (k + 1)) (by omega) (by rw [ByteArray.size_append, ByteArray.size_append, show (byteB (k + 1)).size = 1 from rfl]; have := hsz k; omega) w hL)
  have HSZ := Lib.hid hsz
  clear hsz hx0
  go_enter Tryd.func30, Tryd.ntmps30
  go_wp2_with (first
    | (go_at_call 26; ((refine (m0.out _ hL).mono ?_); rintro en w1 ⟨rfl, L1, b1⟩)))
  go_loopw [11, 12, 13] (fun v u c wr => ∃ k : Nat, k ≤ 255 ∧ 32 * k < n + 32 ∧ c = .int .i64 ((k : Int) + 1) ∧ u = .string (drB x info k) ∧ (∃ a cap, v = .slice a (32 * k) cap) ∧ Buf wr w.heap.size 5 v (drTo x info k) ∧ Below w.heap.size w wr) (fun _ _ c _ => n + 32 - 32 * (intOf c).toNat)
  case atStart => exact ⟨0, by omega, by omega, rfl, rfl, ⟨none, 0, rfl⟩, Buf.nil _ _ _, b1⟩
  case round =>
    obtain ⟨k, hk, hkn, rfl, rfl, ⟨a, cap, rfl⟩, hb, hB⟩ := hrel
    have hle := Lib.hid (drTo_length x info k)
    by_cases hlt : 32 * k < n
    · have hk2 : k < 255 := by omega
      have ik : ((32 * k : Nat) : Int) < (n : Int) := by omega
      have hz1 : (drB x info k).size + info.size ≤ 9223372036854775807 := by have := HSZ.out k; omega
      have hz2 : (drB x info k ++ info).size + (byteB (k + 1)).size ≤ 9223372036854775807 := by rw [ByteArray.size_append, show (byteB (k + 1)).size = 1 from rfl]; have := HSZ.out k; omega
      have ho := Lib.hid (one_byte wr (k + 1) (by omega) ((k : Int) + 1) (by omega))
      have HB := Lib.hid hb
      have HL := Lib.hid hB
      clear hb hB
      go_wp2
      rw [ho.out]
      have L1 := (hL.below HL.out hL.pos).alloc (.cells #[.int .u8 ((k : Int) + 1)] 5)
      go_wp2_with (first
        | (go_at_call 26; ((with_reducible refine (mk.out k _ L1).mono ?_); rintro en w3 ⟨rfl, L3, b3⟩; have b4 := (Below.alloc (Below.refl wr.heap.size wr) (Nat.le_refl _) (.cells #[.int .u8 ((k : Int) + 1)] 5)).trans (b3.mono (by simp)); have HB3 := HB.out.below b4; have GB3 := HL.out.trans (b4.mono HL.out.size)))
        | (at_builtin; refine wpList_append_str byteTy HB3 _ _ rfl rfl rfl (drB x info (k + 1)) rfl (by rw [hle.out]; have := HSZ.out (k + 1); omega) GB3.size ?_; intro v' w' hb' hg'))
      have GB4 := HB3.leaves GB3 hg' (Nat.le_refl _) GB3.size
      rw [show macB x (drB x info k ++ info ++ byteB (k + 1)) = drB x info (k + 1) from rfl]
      have hle2 := drTo_length x info (k + 1)
      rw [← drTo] at hb'
      obtain ⟨a2, cap2, rfl⟩ : ∃ a cap, v' = .slice a (32 * (k + 1)) cap := by
        rcases hb'.shape with ⟨h1, h2⟩ | ⟨g, cap, h1, h2⟩
        · have : 32 * (k + 1) = 0 := by rw [← hle2, h2]; rfl
          omega
        · exact ⟨_, cap, by rw [h1, hle2]⟩
      go_roundw
      case rel => exact ⟨k + 1, by omega, by omega, by go_num, rfl, ⟨_, _, rfl⟩, hb', GB4⟩
      case measure => simp [intOf]; omega
    · have ik : ¬ ((32 * k : Nat) : Int) < (n : Int) := by omega
      have hF := drTo_more x info k 255 n (by omega) hk
      have hlen : ((drTo x info k).take n).length = n := by rw [List.length_take, hle.out]; omega
      rcases hb.shape with ⟨h1, h2⟩ | ⟨g, cap', h1, h2⟩
      · have h0 : 32 * k = 0 := by rw [← hle.out, h2]; rfl
        have hn0 : n = 0 := by omega
        have hk0 : k = 0 := by omega
        subst hn0
        subst hk0
        obtain ⟨rfl, rfl⟩ : a = none ∧ cap = 0 := by injection h1 with e1 e2 e3; exact ⟨e1, e3⟩
        have hcv : (convert 33 9 (.slice none 0 0)).run Tryd.prog wr = .ok (.string ⟨#[]⟩) wr := by
          rw [run_convert_bytes_string wr 33 9 5 none 0 0 Tryd.underlying33 Tryd.underlying5 Tryd.underlying9]; rfl
        have HC := Lib.hid hcv
        have GL := hL.below hB hL.pos
        clear hb hcv hF hlen h1 h2 h0
        go_wp2
        rw [HC.out]
        go_wp2
        refine bodyPost_ret (results_tmp2 rfl _ _ _) rfl ?_
        exact ⟨⟨#[]⟩, rfl, Lib.hid (by simp), GL, hB⟩
      · obtain ⟨rfl, -, rfl⟩ : a = some ⟨g, 0, none⟩ ∧ 32 * k = (drTo x info k).length ∧ cap = cap' := by injection h1 with e1 e2 e3; exact ⟨e1, e2, e3⟩
        rw [hle.out] at h2
        have hcap : n ≤ cap := by omega
        have hcv := run_convert_bytes_back (P := Tryd.prog) wr 33 9 5 ⟨g, 0, none⟩ cap ((drTo x info k).take n) Tryd.underlying33 Tryd.underlying5 Tryd.underlying9 (fun j hj => by
          have : (⟨g, 0, none⟩ : Addr).add j = ⟨g, j, none⟩ := by unfold Addr.add; split <;> simp_all
          rw [hlen] at hj
          have hj2 : j < (drTo x info k).length := by rw [hle.out]; omega
          rw [this, hb.cell j hj2]; simp [hj2, B8])
        rw [hlen, ← hF] at hcv
        have HC := Lib.hid hcv
        have HB := Lib.hid hb
        have GL := hL.below hB hL.pos
        clear hb hcv hF hlen h1
        go_wp2
        rw [HC.out]
        go_wp2
        refine bodyPost_ret (results_tmp2 rfl _ _ _) rfl ?_
        exact ⟨_, rfl, Lib.hid rfl, GL, hB⟩
end Go.Proofs.YtdpfhlopcempmaaDoor
