/-
  A byte slice that the call itself has made, as a list of bytes: make, append, copy out as a string. It speaks of no program.
-/
import Derived.Test.YtdpfhlopcempmaaDoorMem
import Derived.Test.YtdpfhlopcempmaaDoorU32
import Derived.Maps.AppendAt
import Derived.Laws.IdiomStrings
import Derived.OwnWalk
import Derived.Deep.AppendLies
namespace Go.Proofs.YtdpfhlopcempmaaDoor
open Go Go.RowKit

/-- The number of a byte, as the walk has it. -/
def B8 (b : UInt8) : Int := (b.toNat : Int)
def bv (b : UInt8) : Value := .int .u8 (B8 b)
theorem W_to8 (x : UInt32) : IntKind.u8.wrap (W x) = B8 x.toUInt8 := by
  rw [IntKind.wrap_u8]; unfold W B8; simp
/-- The cells of bytes. -/
def cellsB (l : List UInt8) : Array Value := (l.map bv).toArray
theorem bv_one (l : List UInt8) : ∀ u ∈ l.map bv, u.oneCell' = true := by
  intro u hu
  obtain ⟨b, _, rfl⟩ := List.mem_map.1 hu
  rfl
theorem cellsB_get (l : List UInt8) (i : Nat) (h : i < l.length) : (cellsB l)[i]? = some (.int .u8 (B8 (l[i]?.getD 0))) := by
  simp [cellsB, h, bv]
theorem cellsB_set (l : List UInt8) (i : Nat) (b : UInt8) : (cellsB l).setIfInBounds i (.int .u8 (B8 b)) = cellsB (l.set i b) := by
  simp only [cellsB, List.setIfInBounds_toArray, List.map_set]; rfl
theorem cellsB_size (l : List UInt8) : (cellsB l).size = l.length := by simp [cellsB]
/-- The types of bytes and of their slices. -/
structure ByteTy (P : Program) (S E T : TypeId) : Prop where
  su : P.underlying S = some (.slice E)
  eu : P.underlying E = some (.int .u8)
  tu : P.underlying T = some .string
  inf : (P.info? E).map (fun i => (i.zero, i.size, i.bytes)) = some (some (.int .u8 0), 1, 1)
/-- The slice v is the call's own and holds these bytes. -/
def Buf (w : World) (base : Nat) (E : TypeId) (v : Value) (l : List UInt8) : Prop := w.ownsRow base E 1 v l.length (l.map bv)

section
variable {P : Program} {w w' : World} {base S E T : Nat} {v : Value} {l : List UInt8}
theorem Buf.nil (w : World) (base : Nat) (E : TypeId) : Buf w base E (.slice none 0 0) [] := World.ownsRow_nil w base E 1
theorem Buf.kept {row : Option Nat} (h : Buf w base E v l) (hg : w.grownBy w' row) (hne : v.ownBlock = none ∨ v.ownBlock ≠ row) : Buf w' base E v l := World.ownsRow.kept h hg hne
theorem Buf.alloc (h : Buf w base E v l) (o : Obj) : Buf (w.alloc o) base E v l := World.ownsRow.alloc h o
theorem Buf.drew (h : Buf w base E v l) : Buf w.drew base E v l := h
theorem Buf.drewN (h : Buf w base E v l) (n : Nat) : Buf (w.drewN n) base E v l := h
theorem Buf.lt (h : Buf w base E v l) : ∀ k, v.ownBlock = some k → base ≤ k ∧ k < w.heap.size := World.ownsRow.lt h
theorem Buf.down {B : Nat} (h : Buf w base E v l) (hB : B ≤ base) : Buf w B E v l := by
  refine ⟨h.1, ?_⟩
  rcases h.2 with h2 | ⟨g, cap, cur, hv, hg, r⟩
  · exact Or.inl h2
  · exact Or.inr ⟨g, cap, cur, hv, Nat.le_trans hB hg, r⟩
/-- What an append's turn leaves of what lies below. -/
theorem Buf.leaves {B : Nat} {a : World} (h : Buf w base E v l) (hb : Below B a w) (hg : w.grownBy w' v.ownBlock) (hB : B ≤ base) (hs : B ≤ w.heap.size) : Below B a w' :=
  hb.grown hg hs (fun k hk => Nat.le_trans hB (h.lt k hk).1)
theorem Buf.below (h : Buf w base E v l) (hb : Below w.heap.size w w') : Buf w' base E v l := by
  refine ⟨h.1, ?_⟩
  rcases h.2 with h2 | ⟨g, cap, cur, hv, hg, hh, r⟩
  · exact Or.inl h2
  · exact Or.inr ⟨g, cap, cur, hv, hg, (hb.block g (by
      rcases Nat.lt_or_ge g w.heap.size with h' | h'
      · exact h'
      · rw [Array.getElem?_eq_none h'] at hh; cases hh)).trans hh, r⟩
theorem Buf.form (h : Buf w base E v l) (hl : 0 < l.length) : ∃ g cap, v = .slice (some ⟨g, 0, none⟩) l.length cap ∧ base ≤ g ∧ g < w.heap.size ∧ ∀ j, j < l.length → w.cell? ⟨g, j, none⟩ = some (.int .u8 (B8 (l[j]?.getD 0))) := by
  obtain ⟨g, cap, hv, hb, hlt⟩ := World.ownsRow.form h hl
  subst hv
  refine ⟨g, cap, rfl, hb, hlt, fun j hj => ?_⟩
  have := World.ownsRow.cellAt h j (by omega)
  rw [this]
  simp [hj, bv]
/-- append of bytes that lie in a block that is known. -/
theorem wpList_append_buf {ops : Array Oper} {rest : List Oper} {o : Oper} {a : Act} {Q : Exit → Act → World → Prop} (hT : ByteTy P S E T) (h : Buf w base E v l) (s x : Operand)
    (ho : o.op = .call { callee := .builtin .append, args := #[s, x], argTypes := #[S, S] }) (hgd : o.guard = none) (hs : a.eval s = v)
    (g c : Nat) (bs : List UInt8) (fr : Nat × Nat) (hB : w.heap[g]? = some (.cells (cellsB bs) E fr)) (m : Nat) (hm : m = bs.length) (hx : a.eval x = .slice (some ⟨g, 0, none⟩) m c)
    (hlen : l.length + bs.length ≤ 140737488355328) (hbase : base ≤ w.heap.size)
    (hk : ∀ v' w', Buf w' base E v' (l ++ bs) → w.grownBy w' v.ownBlock → (v'.ownBlock = v.ownBlock ∨ v'.ownBlock = some w.heap.size) → wpList P ops Q rest (a.put o.dst v') w') :
    wpList P ops Q (o :: rest) a w := by
  subst hm
  obtain ⟨i, hi, hz, hsz, hby⟩ := info_parts hT.inf
  refine wpList_append_own_at w hgd s x S ho base E i (.int .u8 0) 1 1 hT.su hi hz hsz hby rfl (by decide) v l.length (l.map bv) hs h ⟨g, 0, none⟩ bs.length c (bs.map bv) hx (by simp) ?_ (bv_one bs)
    (by unfold maxLen; omega) (by omega) hbase (fun v' w' h1 h2 _ h4 => hk v' w' (by unfold Buf; simpa using h1) h2 h4)
  intro j u hj
  have : (⟨g, 0, none⟩ : Addr).add j = ⟨g, j, none⟩ := by unfold Addr.add; split <;> simp_all
  rw [this, cell_of_row w g j _ E fr hB]
  simpa [cellsB] using hj
/-- The same at a step of a region that draws its order. -/
theorem step_append_buf {ops : Array Oper} {o : Oper} {a : Act} {K : Act → World → Prop} {Q : Exit → Act → World → Prop} {X : Prop} (hT : ByteTy P S E T) (h : Buf w base E v l) (s x : Operand)
    (ho : o.op = .call { callee := .builtin .append, args := #[s, x], argTypes := #[S, S] }) (hgd : o.guard = none) (hs : a.eval s = v)
    (g c : Nat) (bs : List UInt8) (fr : Nat × Nat) (hB : w.heap[g]? = some (.cells (cellsB bs) E fr)) (m : Nat) (hm : m = bs.length) (hx : a.eval x = .slice (some ⟨g, 0, none⟩) m c)
    (hlen : l.length + bs.length ≤ 140737488355328) (hbase : base ≤ w.heap.size)
    (hk : ∀ v' w', Buf w' base E v' (l ++ bs) → w.grownBy w' v.ownBlock → (v'.ownBlock = v.ownBlock ∨ v'.ownBlock = some w.heap.size) → K (a.put o.dst v') w') :
    if Region.wanted o (yielded ops a.tmps) = true then Oper.wp P o a w K Q else X := by
  have hw : Region.wanted o (yielded ops a.tmps) = true := by simp [Region.wanted, hgd]
  rw [if_pos hw]
  subst hm
  obtain ⟨i, hi, hz, hsz, hby⟩ := info_parts hT.inf
  obtain ⟨v', w', hr, h2, h3, _, h5⟩ := run_append_own_at (P := P) w base S o.type E i (.int .u8 0) 1 1 hT.su hi hz hsz hby rfl (by decide) v l.length (l.map bv) h ⟨g, 0, none⟩ bs.length c (bs.map bv) (by simp) (by
    intro j u hj
    have : (⟨g, 0, none⟩ : Addr).add j = ⟨g, j, none⟩ := by unfold Addr.add; split <;> simp_all
    rw [this, cell_of_row w g j _ E fr hB]
    simpa [cellsB] using hj) (bv_one bs) (by unfold maxLen; omega) (by omega) hbase
  unfold Oper.wp execOp
  simp only [ho, resolve, invoke, builtin, Sem.run_bind, Sem.run_pure, Result.andThen_ok, List.map_toArray, List.map_cons, List.map_nil, hs, hx, hr]
  exact hk v' w' (by unfold Buf; simpa using h2) h3 h5
/-- string(v). -/
theorem wpList_string_buf {ops : Array Oper} {rest : List Oper} {o : Oper} {a : Act} {Q : Exit → Act → World → Prop} (hT : ByteTy P S E T) (h : Buf w base E v l) (x : Operand)
    (ho : o.op = .convert S T x) (hgd : o.guard = none) (hs : a.eval x = v) (hk : wpList P ops Q rest (a.put o.dst (.string ⟨l.toArray⟩)) w) : wpList P ops Q (o :: rest) a w := by
  refine wpList_plain hgd fun K hK => ?_
  have hrun : (convert S T v).run P w = .ok (.string ⟨l.toArray⟩) w := by
    rcases Nat.eq_zero_or_pos l.length with hl | hl
    · have hn := List.eq_nil_of_length_eq_zero hl
      subst hn
      rcases h.2 with ⟨hv, _⟩ | ⟨g, cap, cur, hv, _⟩
      · subst hv
        rw [run_convert_bytes_string w S T E none 0 0 hT.su hT.eu hT.tu]
        rfl
      · subst hv
        exact run_convert_bytes_back w S T E _ cap [] hT.su hT.eu hT.tu (fun j hj => absurd hj (by simp))
    · obtain ⟨g, cap, hv, _, _, hc⟩ := h.form hl
      subst hv
      refine run_convert_bytes_back w S T E _ cap l hT.su hT.eu hT.tu (fun j hj => ?_)
      have : (⟨g, 0, none⟩ : Addr).add j = ⟨g, j, none⟩ := by unfold Addr.add; split <;> simp_all
      rw [this, hc j hj]
      simp [hj, B8]
  unfold Oper.wp execOp
  simp only [ho, hs, Sem.run_bind, Sem.run_pure, Result.andThen_ok, hrun]
  exact hK _ _ hk
/-- make([]byte, 0, n). -/
theorem wpList_make_buf {ops : Array Oper} {rest : List Oper} {o : Oper} {a : Act} {Q : Exit → Act → World → Prop} (hT : ByteTy P S E T) (w : World) (ln c : Operand) (ho : o.op = Op.makeSlice S ln c) (hgd : o.guard = none)
    (kl kc : IntKind) (C : Int) (n : Nat) (hl : a.eval ln = .int kl 0) (hc : a.eval c = .int kc C) (hC : C = (n : Int)) (hn : n ≤ 140737488355328)
    (hk : ∀ w', Buf w' w.heap.size E (.slice (some ⟨w.heap.size, 0, none⟩) 0 n) [] → w.grownBy w' none → wpList P ops Q rest (a.put o.dst (.slice (some ⟨w.heap.size, 0, none⟩) 0 n)) w') : wpList P ops Q (o :: rest) a w := by
  obtain ⟨i, hi, hz, hsz, hby⟩ := info_parts hT.inf
  exact wpList_make_own w hgd ln c S ho w.heap.size E i (.int .u8 0) 1 hT.su hi hz hsz kl kc C n hl hc hC (by rw [hby]; omega) (by unfold maxLen; omega) (Nat.le_refl _) (fun w' h1 h2 => hk w' h1 h2)
theorem madeCells_one (z : Value) (n : Nat) : madeCells #[z] n = Array.replicate n z := by
  apply Array.ext
  · simp [madeCells]
  · intro i h1 h2
    simp [madeCells, Nat.mod_one]
/-- make([]byte, n, c). -/
theorem wpList_make_bufN {ops : Array Oper} {rest : List Oper} {o : Oper} {a : Act} {Q : Exit → Act → World → Prop} (hT : ByteTy P S E T) (w : World) (ln c : Operand) (ho : o.op = Op.makeSlice S ln c) (hgd : o.guard = none)
    (kl kc : IntKind) (L C : Int) (n m : Nat) (hl : a.eval ln = .int kl L) (hc : a.eval c = .int kc C) (hL : L = (n : Int)) (hC : C = (m : Int)) (hnm : n ≤ m) (hn : m ≤ 140737488355328)
    (hk : ∀ w', Buf w' w.heap.size E (.slice (some ⟨w.heap.size, 0, none⟩) n m) (List.replicate n 0) → w.grownBy w' none → wpList P ops Q rest (a.put o.dst (.slice (some ⟨w.heap.size, 0, none⟩) n m)) w') : wpList P ops Q (o :: rest) a w := by
  obtain ⟨i, hi, hz, hsz, hby⟩ := info_parts hT.inf
  refine wpList_plain hgd fun K hK => ?_
  have hr := run_make (P := P) w S E i (.int .u8 0) hT.su hi hz kl kc (n : Int) (m : Int) (by omega) (by omega) (by rw [hby]; omega) (by omega)
  simp only [Int.toNat_natCast, hsz, Nat.mul_one] at hr
  subst hL
  subst hC
  unfold Oper.wp
  simp only [execOp, ho, hl, hc, Sem.run_bind, Sem.run_pure, hr, Result.andThen_ok]
  refine hK _ _ (hk _ ⟨by simp, .inr ⟨w.heap.size, m, _, by simp, Nat.le_refl _, heap_alloc_new w _, by simpa using hnm, by unfold maxLen; omega, by rw [size_madeCells]; omega, ?_⟩⟩ (World.grownBy_alloc w _ none))
  have : (Value.int IntKind.u8 0).cells = #[Value.int IntKind.u8 0] := rfl
  rw [this, madeCells_one]
  simp [bv, B8, List.take_replicate, Nat.min_eq_left hnm]
theorem Buf.put {g cap n : Nat} (h : Buf w base E (.slice (some ⟨g, 0, none⟩) n cap) l) (j : Nat) (b : UInt8) :
    Buf (w.setCell ⟨g, j, none⟩ (.int .u8 (B8 b))) base E (.slice (some ⟨g, 0, none⟩) n cap) (l.set j b) := by
  have hn : n = l.length := by
    rcases h.2 with ⟨hv, _⟩ | ⟨_, _, _, hv, _⟩
    · cases hv
    · injection hv
  subst hn
  have := World.ownsRow.stored h j (.int .u8 (B8 b))
  unfold Buf
  rw [List.length_set, List.map_set]
  exact this.1
theorem Buf.cell {g cap n : Nat} (h : Buf w base E (.slice (some ⟨g, 0, none⟩) n cap) l) (j : Nat) (hj : j < l.length) : w.cell? ⟨g, j, none⟩ = some (.int .u8 (B8 (l[j]?.getD 0))) := by
  obtain ⟨g', cap', hv, _, _, hc⟩ := h.form (by omega)
  injection hv with h1 h2 h3
  injection h1 with h1
  injection h1 with h1
  subst h1
  exact hc j hj
theorem Buf.free {g cap n : Nat} (h : Buf w base E (.slice (some ⟨g, 0, none⟩) n cap) l) (j : Nat) : w.frozen? ⟨g, j, none⟩ = false := by
  rcases h.2 with ⟨hv, _⟩ | ⟨g', cap', cur, hv, _, hh, _⟩
  · cases hv
  · injection hv with h1 h2 h3
    injection h1 with h1
    injection h1 with h1
    subst h1
    simp [World.frozen?, hh]
end
end Go.Proofs.YtdpfhlopcempmaaDoor
