/-
  A walk by reckoning, part 8: load, store, new variables, make, strings and bytes. It speaks of no program.
-/
import Derived.Test.YtdkogjjebbdngaaDoorSe
import Derived.Laws.MakeOwn
namespace Go.Proofs.YtdkogjjebbdngaaDoor
open Go Go.RowKit
set_option linter.unusedVariables false
set_option linter.unusedSimpArgs false

def PlainL (ys : List AV) : Prop := ∀ y ∈ ys, y.plain
def headS (row : Bool) (ys : List AV) : SV := if row then .c (.agg ys) else .c (.one (match ys with | x :: _ => x | [] => .junk))
def loadA (ti : TyI) (id k st j : Nat) : Actn := ⟨[id], false, fun es _ => match es with
  | [e] => match readAt e.o k st j ti.size with
    | some (ys, ob) => some ⟨headS ti.d.isRow ys, [], [], ob⟩
    | none => none
  | _ => none⟩
def storeA (ti : TyI) (id k st j : Nat) (c : CV) : Actn := ⟨[id], true, fun es _ => match es with
  | [e] => if e.wr then match writeAt e.o k st j c.cells with
    | some (o, ob) => some ⟨.c (.one .junk), [o], [], (c.cells.length = ti.size) :: PlainL c.cells :: ob⟩
    | none => none
    else none
  | _ => none⟩
section
variable {C : Ctx} {r : Lc} {hp : List (Nat × Ent)} {w : World}
theorem HeapOk.row (h : HeapOk C r hp w) {id : Nat} {e : Ent} {g : Blk} {c : Nat} (he : aget hp id = some e) (hl : e.o.live = true) (hr : r id = some (some (g, c))) : ∃ cs, RowAt w g cs ∧ c * e.o.stride ≤ cs.size ∧ Holds r e.o.flat cs := by
  rcases h.obj id e _ he hr hl with ⟨h1, _⟩ | ⟨g', c', cs, h1, h2, h3, h4⟩
  · cases h1
  · cases h1; exact ⟨cs, h2, h3, h4⟩
theorem rangeAt_of {g : Blk} {cs : Array Value} (h : RowAt w g cs) {o : Nat} {us : List Value} (hu : ∀ j v, us[j]? = some v → cs[o + j]? = some v) : w.rangeAt g.1 (o + g.off) us := fun j v hv => by
  rw [Nat.add_right_comm, h.cell]; exact hu j v hv
end
theorem cells_one {u : Value} (h : u.oneCell' = true) : u.cells = #[u] := by cases u <;> first | rfl | simp [Value.oneCell'] at h
theorem All2.plain {r : Lc} : ∀ {ys : List AV} {us : List Value}, PlainL ys → All2 (AV.rel r) ys us → ∀ v ∈ us, v.oneCell' = true
  | [], [], _, _ => by simp
  | y :: ys, u :: us, hp, ⟨h1, h2⟩ => by
    intro v hv
    rcases List.mem_cons.1 hv with rfl | hv
    · exact AV.plain_one (hp y (by simp)) h1
    · exact All2.plain (fun y' h' => hp y' (by simp [h'])) h2 v hv
/-- The cells of a value. -/
theorem CV.cells_rel {r : Lc} {c : CV} {u : Value} (h : c.rel r u) (hp : PlainL c.cells) : All2 (AV.rel r) c.cells u.cells.toList := by
  cases c with
  | one x =>
    have := AV.plain_one (hp x (by simp [CV.cells])) h
    rw [cells_one this]; exact ⟨h, trivial⟩
  | agg xs =>
    obtain ⟨cs, rfl, h2⟩ := h
    simpa [CV.cells, Value.cells] using h2
section
variable {P : Program} {G : List GFact} {T : Nat → Option TyI} {o : Oper} {sv : Operand → SV} {ev : Operand → Value} {r : Lc}
theorem actOk_load (hT : TyOk P T) (he : EvOk r sv ev) {t : TypeId} {x : Operand} (ho : o.op = .load t x) {ti : TyI} (ht : T t = some ti) (h1 : ti.d.isRow = false → ti.size = 1) {id k st j : Nat} (hx : sv x = .c (.one (.ptr id k st j))) :
    ActOk P G o ev r (loadA ti id k st j) := by
  intro C hp w es fresh R hh hg hr hob _ _ hsub
  obtain ⟨e, hid, rfl⟩ := getAll_one hg
  simp only [loadA] at hr
  cases hra : readAt e.o k st j ti.size with
  | none => rw [hra] at hr; cases hr
  | some q =>
    obtain ⟨ys, ob⟩ := q
    rw [hra] at hr
    injection hr with hr
    subst hr
    obtain ⟨hl, hlen, hys⟩ := readAt_flat hra hob (fun h => by rw [h]; rfl)
    have hx' := he x
    rw [hx] at hx'
    obtain ⟨g, c, hrid, hv⟩ := hx'
    obtain ⟨cs, hrow, _, hholds⟩ := hh.row hid hl hrid
    obtain ⟨us, hul, hus, hall⟩ := hholds.slice hlen
    rw [← hys] at hall
    have hrg := rangeAt_of hrow hus
    obtain ⟨hu, nf, hi1, hi2, _⟩ := hT t ti ht
    by_cases hd : ti.d.isRow = true
    · refine StepOk.of_value (u := .agg us.toArray) (w' := w) ?_ ⟨r, r.le_refl, ?_, hh⟩
      · unfold execOp
        rw [ho]
        have := run_loadAt_mid (P := P) w g.1 (k * st + j + g.off) t us ti.d hrg hu hd (by rw [hi1]; simp [hi2, hul])
        simp only [hv, Sem.run_bind, this, Result.andThen_ok, Sem.run_pure]
      · simp only [headS, hd, if_true]
        exact ⟨us, rfl, hall⟩
    · have hd' : ti.d.isRow = false := by simpa using hd
      have hz := h1 hd'
      rw [hz] at hul
      obtain ⟨u, rfl⟩ : ∃ u, us = [u] := by
        match us, hul with
        | [u], _ => exact ⟨u, rfl⟩
      obtain ⟨y, rfl⟩ : ∃ y, ys = [y] := by
        have := hall.length
        match ys, this with
        | [y], _ => exact ⟨y, rfl⟩
      refine StepOk.of_value (u := u) (w' := w) ?_ ⟨r, r.le_refl, ?_, hh⟩
      · unfold execOp
        rw [ho]
        have hc : w.cell? ⟨g.1, k * st + j + g.off, none⟩ = some u := by simpa using hrg 0 u (by simp)
        have hag := run_isAgg hT ht w
        rw [hd'] at hag
        simp only [hv, Sem.run_bind, Instr.loadAt, Instr.sureAddr, Sem.run_pure, Result.andThen_ok, loadVar, hag, run_load, hc]
        simp [hc]
      · simp only [headS, hd']
        exact hall.1
theorem run_storeAt_gen (hT : TyOk P T) {t : TypeId} {ti : TyI} (ht : T t = some ti) (w : World) (g off : Nat) (v : Value) (hth : w.there g off v.cells.size) (hs : v.cells.size = ti.size) (h1 : ∀ u ∈ v.cells.toList, u.oneCell' = true) :
    (Instr.storeAt t (.pointer (some ⟨g, off, none⟩)) v).run P w = .ok () (w.setCells g off v.cells.toList) := by
  have := run_storeCells_cells (P := P) g off v.cells.toList 0 w (fun j hj => by simpa using (hth j (by simpa using hj)).1) (fun j hj => by simpa using (hth j (by simpa using hj)).2) h1
  simp only [Nat.add_zero] at this
  simp only [Instr.storeAt, Instr.sureAddr, Sem.run_bind, Sem.run_pure, Result.andThen_ok, storeVar, run_size hT ht w, hs, ne_eq, not_true_eq_false, if_false, this]
theorem actOk_store (hT : TyOk P T) (he : EvOk r sv ev) {t : TypeId} {x y : Operand} (ho : o.op = .store t x y) {ti : TyI} (ht : T t = some ti) {id k st j : Nat} (hx : sv x = .c (.one (.ptr id k st j))) {c : CV} (hy : sv y = .c c) :
    ActOk P G o ev r (storeA ti id k st j c) := by
  intro C hp w es fresh R hh hg hr hob _ _ hsub
  obtain ⟨e, hid, rfl⟩ := getAll_one hg
  simp only [storeA] at hr
  by_cases hwr : e.wr = true
  case neg => rw [if_neg hwr] at hr; cases hr
  rw [if_pos hwr] at hr
  cases hra : writeAt e.o k st j c.cells with
  | none => rw [hra] at hr; cases hr
  | some q =>
    obtain ⟨o', ob⟩ := q
    rw [hra] at hr
    injection hr with hr
    subst hr
    obtain ⟨hsz, hpl, hob⟩ := hob
    obtain ⟨hl, hl', hst, hlen, hflat⟩ := writeAt_flat hra hob
    have hx' := he x
    rw [hx] at hx'
    obtain ⟨⟨g, z⟩, cc, hrid, hv⟩ := hx'
    obtain rfl : z = none := (hh.own id e _ _ hid hl hwr hrid).1
    have hv : ev x = .pointer (some ⟨g, k * st + j, none⟩) := hv
    have hy' := he y
    rw [hy] at hy'
    have hcr := CV.cells_rel hy' hpl
    have hcl := hcr.length
    obtain ⟨cs, hrow, hcap, hholds⟩ := hh.row hid hl hrid
    have hbd := hholds.bound
    have hcs : k * st + j + (ev y).cells.size ≤ cs.size := by
      have : (ev y).cells.size = c.cells.length := by rw [hcl]; simp
      omega
    have hth : w.there g (k * st + j) (ev y).cells.size := fun i hi => by
      have hlt : k * st + j + i < cs.size := by omega
      refine ⟨?_, hrow.free _ hlt⟩
      rw [hrow.cell0, Array.getElem?_eq_getElem hlt]; rfl
    have hrun := run_storeAt_gen (P := P) hT ht w g (k * st + j) (ev y) hth (by rw [← hsz, hcl]; simp) (All2.plain hpl hcr)
    obtain ⟨s1, s2, s3, s4, s5⟩ := setCells_same g (ev y).cells.toList w (k * st + j)
    refine StepOk.of_skip (w' := w.setCells g (k * st + j) (ev y).cells.toList) ?_ ⟨r, r.le_refl, trivial, ?_⟩
    · unfold execOp
      rw [ho]
      simp only [hv, Sem.run_bind, hrun, Result.andThen_ok, Sem.run_pure]
    · refine hh.turn hid hl hwr hrid o' s1 s2 s3 (by rw [s4]; exact Nat.le_refl _) (fun b _ hb => s5 b hb) fun _ => .inr ⟨(g, none), cc, putCells cs (k * st + j) (ev y).cells.toList, rfl, hrow.puts _ _ _ _, ?_, ?_⟩
      · rw [hst, putCells_size]; exact hcap
      · rw [hflat]
        exact hholds.splice hlen hcr (by simpa using hcs)
/-- What is made at once. -/
def strideOf (T : Nat → Option TyI) (d : TypeDesc) : Nat := match d with
  | .array _ e => match T e with
    | some ei => ei.size
    | none => 1
  | _ => 1
def newA (s : Nat) (xs : List AV) (ob : List Prop) : Actn := ⟨[], false, fun _ fresh => some ⟨.c (.one (.ptr (fresh 0) 0 0 0)), [], [.cells s xs], ob⟩⟩
theorem rowAt_alloc (w : World) (cs : Array Value) (t : TypeId) : RowAt (w.alloc (.cells cs t)) (w.heap.size, none) cs := ⟨cs, t, (0, 0), heap_alloc_new w _, fun _ => rfl, fun _ _ _ h => by omega⟩
theorem holds_of_all2 {r : Lc} {xs : List AV} {us : List Value} (h : All2 (AV.rel r) xs us) : Holds r xs us.toArray := fun j x hx => by
  obtain ⟨u, hu, hr⟩ := h.get j x hx
  exact ⟨u, by simpa using hu, hr⟩
theorem actOk_new {s : Nat} {xs : List AV} {ob : List Prop} (h : AllT ob → ∀ w, ∃ (cs : Array Value) (t : TypeId), (execOp ev o).run P w = .ok (.value (.pointer (some ⟨w.heap.size, 0, none⟩))) (w.alloc (.cells cs t)) ∧ Holds r xs cs) :
    ActOk P G o ev r (newA s xs ob) := by
  intro C hp w es fresh R hh hg hr hob hfr _ hsub
  simp only [newA, Option.some.injEq] at hr
  subst hr
  have hid := hfr 0 (by simp)
  obtain ⟨cs, t, hrun, hholds⟩ := h hob w
  refine StepOk.of_value hrun ⟨r.add (fresh 0) (some ((w.heap.size, none), 0)), Lc.add_le ((hh.dom _).2 hid) _, ⟨(w.heap.size, none), 0, Lc.add_same _ _ _, by simp⟩, ?_⟩
  refine hh.make hid _ _ rfl rfl rfl (by simp) (fun b hb => Below.heap_alloc w _ b hb) (fun g c e => by injection e with e; injection e with e1 e2; subst e1; exact ⟨Nat.le_refl _, rfl⟩) fun _ => .inr ⟨_, _, cs, rfl, rowAt_alloc w cs t, by simp, ?_⟩
  exact hholds.le (Lc.add_le ((hh.dom _).2 hid) _)
theorem actOk_alloc (hT : TyOk P T) {t : TypeId} (ho : o.op = .alloc t) {ti : TyI} (ht : T t = some ti) : ActOk P G o ev r (newA (strideOf T ti.d) ti.zero.cells []) :=
  actOk_new fun _ w => by
    obtain ⟨hu, nf, h1, h2, h3, z, hz, hzr, hzs, hzl, hzp, _⟩ := hT t ti ht
    refine ⟨z.cells, t, ?_, ?_⟩
    · unfold execOp
      rw [ho]
      simp [Instr.alloc, zeroValue, typeInfo, h1, hz, newVar, newRow]
    · have := CV.cells_rel (hzr r) (fun y hy => (hzp y hy).1)
      have := holds_of_all2 this
      simpa using this
theorem actOk_box (he : EvOk r sv ev) {t : TypeId} {x : Operand} (ho : o.op = .box t x) {c : CV} (hx : sv x = .c c) (s : Nat) : ActOk P G o ev r (newA s c.cells [PlainL c.cells]) :=
  actOk_new fun hob w => by
    have h := he x
    rw [hx] at h
    refine ⟨(ev x).cells, t, ?_, ?_⟩
    · unfold execOp
      rw [ho]
      simp [Instr.box, newVar, newRow]
    · have := holds_of_all2 (CV.cells_rel h hob.1)
      simpa using this
/-- make([]T, n, c). -/
def makeA (ei : TyI) (z : AV) (n c : Int) : Actn := ⟨[], false, fun _ fresh => some ⟨.c (.one (.sl (fresh 0) 0 1 n.toNat)), [], [.cells 1 (List.replicate n.toNat z)], [0 ≤ n ∧ n ≤ c ∧ (ei.bytes : Int) * c ≤ 281474976710656 ∧ c ≤ 9223372036854775807]⟩⟩
theorem madeCells_get (z : Value) (n j : Nat) (h : j < n) : (madeCells #[z] n)[j]? = some z := by
  simp [madeCells, h, Nat.mod_one]
theorem actOk_make (hT : TyOk P T) (he : EvOk r sv ev) {t : TypeId} {x y : Operand} (ho : o.op = .makeSlice t x y) {ti ei : TyI} (ht : T t = some ti) {e : TypeId} (hd : ti.d = .slice e) (hE : T e = some ei) (hs : ei.size = 1) {z : AV} (hz : ei.zero = .one z)
    {a b : AV} (hx : sv x = .c (.one a)) (hy : sv y = .c (.one b)) {n c : Int} (hn : a.toI = some n) (hc : b.toI = some c) : ActOk P G o ev r (makeA ei z n c) := by
  intro C hp w es fresh R hh hg hr hob hfr _ hsub
  simp only [makeA, Option.some.injEq] at hr
  subst hr
  have hid := hfr 0 (by simp)
  obtain ⟨⟨o1, o2, o3, o4⟩, _⟩ := hob
  have h1 := he x
  have h2 := he y
  rw [hx] at h1
  rw [hy] at h2
  obtain ⟨k1, hk1⟩ := AV.toI_rel hn h1
  obtain ⟨k2, hk2⟩ := AV.toI_rel hc h2
  obtain ⟨hu, nf, i1, i2, i3, zv, hzv, hzr, hzs, _, hzp, _⟩ := hT e ei hE
  have hut : P.underlying t = some (.slice e) := by rw [(hT t ti ht).1, hd]
  have hone : zv.oneCell' = true := by
    have := hzr r
    rw [hz] at this
    exact AV.plain_one (hzp z (by rw [hz]; simp [CV.cells])).1 this
  have hrun := run_make (P := P) w t e nf zv hut i1 hzv k1 k2 n c o1 o2 (by rw [i3]; exact o3) o4
  rw [i2, hs, Nat.mul_one, cells_one hone] at hrun
  have hsz : (madeCells #[zv] c.toNat).size = c.toNat := size_madeCells _ _
  refine StepOk.of_value (u := .slice (some ⟨w.heap.size, 0, none⟩) n.toNat c.toNat) (w' := w.alloc (.cells (madeCells #[zv] c.toNat) e)) ?_ ⟨r.add (fresh 0) (some ((w.heap.size, none), c.toNat)), Lc.add_le ((hh.dom _).2 hid) _, ?_, ?_⟩
  · unfold execOp
    rw [ho]
    simp only [hk1, hk2, Sem.run_bind, hrun, Result.andThen_ok, Sem.run_pure]
  · exact .inr ⟨(w.heap.size, none), c.toNat, 0, Lc.add_same _ _ _, by omega, fun _ => by simp, rfl⟩
  · refine hh.make hid _ _ rfl rfl rfl (by simp) (fun b hb => Below.heap_alloc w _ b hb) (fun g c e => by injection e with e; injection e with e1 e2; subst e1; exact ⟨Nat.le_refl _, rfl⟩) fun _ => .inr ⟨_, _, _, rfl, rowAt_alloc w _ e, ?_, ?_⟩
    · show c.toNat * 1 ≤ _; rw [hsz]; omega
    · intro j q hq
      have hj : j < n.toNat := by
        have hq' : (List.replicate n.toNat z)[j]? = some q := hq
        have := (List.getElem?_eq_some_iff.1 hq').1
        rwa [List.length_replicate] at this
      have hqz : q = z := by
        have : (List.replicate n.toNat z)[j]? = some q := hq
        rw [List.getElem?_replicate, if_pos hj] at this
        exact (Option.some.inj this).symm
      subst hqz
      have := hzr (r.add (fresh 0) (some ((w.heap.size, none), c.toNat)))
      rw [hz] at this
      exact ⟨zv, madeCells_get zv c.toNat j (by omega), this⟩
end
/-- Bytes. -/
def u8L : Lay UInt8 where
  st := 1
  enc x := [.u8 x]
  d := 0
  up x j ys := match ys with
    | [.u8 y] => if j = 0 then some y else none
    | _ => none
  toB := some fun x => x
  ofB := some fun x => x
  len _ := rfl
  put x j ys y h := by
    split at h
    · split at h
      · rename_i h0; injection h with h; subst h; subst h0; simp
      · cases h
    · cases h
  plain x v h := by simp at h; subst h; trivial
  bare x v h := by simp at h; subst h; trivial
  toB_ok f h x := by injection h with h; subst h; rfl
  ofB_ok f h x := by injection h with h; subst h; rfl
theorem u8_flat (l : List UInt8) : l.flatMap u8L.enc = l.map .u8 := by
  show l.flatMap (fun x => [AV.u8 x]) = _
  induction l with
  | nil => rfl
  | cons x l ih => rw [List.flatMap_cons, ih]; rfl
def bytesA (l : List UInt8) : Actn := ⟨[], false, fun _ fresh => some ⟨.c (.one (.sl (fresh 0) 0 1 l.length)), [], [.arr UInt8 u8L l], []⟩⟩
def toBytes : List AV → Option (List UInt8)
  | [] => some []
  | .u8 x :: l => match toBytes l with
    | some r => some (x :: r)
    | none => none
  | _ => none
/-- A piece of a row, as bytes. -/
def bytesOf (o : SObj) (k n : Nat) : Option (List UInt8 × List Prop) :=
  match o with
  | .cells _ xs => match toBytes ((xs.drop k).take n) with
    | some l => some (l, [k + n ≤ xs.length])
    | none => none
  | .arr _ L l => match L.toB with
    | some f => some (((l.drop k).take n).map f, [k + n ≤ l.length])
    | none => none
  | .dead => none
theorem toBytes_map : ∀ {xs : List AV} {l : List UInt8}, toBytes xs = some l → xs = l.map .u8
  | [], l, h => by simp [toBytes] at h; subst h; rfl
  | x :: xs, l, h => by
    cases x <;> simp only [toBytes, reduceCtorEq] at h
    case u8 y =>
      cases ht : toBytes xs with
      | none => rw [ht] at h; cases h
      | some r =>
        rw [ht] at h
        injection h with h
        subst h
        rw [toBytes_map ht]; rfl
section
variable {P : Program} {G : List GFact} {T : Nat → Option TyI} {o : Oper} {sv : Operand → SV} {ev : Operand → Value} {r : Lc}
theorem actOk_bytes (hT : TyOk P T) (he : EvOk r sv ev) {s d : TypeId} {x : Operand} (ho : o.op = .convert s d x) {si di ei : TyI} (hs : T s = some si) (hd : T d = some di) {e : TypeId} (hde : di.d = .slice e) (hE : T e = some ei) (he8 : ei.d = .int .u8)
    {l : List UInt8} (hx : sv x = .c (.one (.str l))) : ActOk P G o ev r (bytesA l) := by
  intro C hp w es fresh R hh hg hr hob hfr _ hsub
  simp only [bytesA, Option.some.injEq] at hr
  subst hr
  have hid := hfr 0 (by simp)
  have h1 := he x
  rw [hx] at h1
  have h1' : ev x = .string ⟨l.toArray⟩ := h1
  have hrun := Lib.run_convert_string_bytes (P := P) w s d e ⟨l.toArray⟩ (hT s si hs).1 (by rw [(hT d di hd).1, hde]) (by rw [(hT e ei hE).1, he8])
  have hsz : (⟨l.toArray⟩ : ByteArray).size = l.length := rfl
  have hge := grownCap_ge w l.length 0 e
  rw [hsz] at hrun
  have hcs : (Lib.bytesCells w e ⟨l.toArray⟩).size = grownCap w l.length 0 e := by
    simp [Lib.bytesCells, hsz]; omega
  refine StepOk.of_value (u := .slice (some ⟨w.heap.size, 0, none⟩) l.length (grownCap w l.length 0 e)) (w' := Lib.bytesWorld w e ⟨l.toArray⟩) ?_ ⟨r.add (fresh 0) (some ((w.heap.size, none), grownCap w l.length 0 e)), Lc.add_le ((hh.dom _).2 hid) _, ?_, ?_⟩
  · unfold execOp
    rw [ho]
    simp only [h1', Sem.run_bind, hrun, Result.andThen_ok, Sem.run_pure]
  · exact .inr ⟨(w.heap.size, none), grownCap w l.length 0 e, 0, Lc.add_same _ _ _, by omega, fun _ => by simp, rfl⟩
  · refine hh.make hid _ _ rfl rfl rfl (by rw [Lib.bytesWorld_size]; omega) (fun b hb => Lib.bytesWorld_at_old w e _ b hb) (fun g c e => by injection e with e; injection e with e1 e2; subst e1; exact ⟨Nat.le_refl _, rfl⟩) fun _ => .inr ⟨_, _, _, rfl, ⟨_, _, _, Lib.bytesWorld_at_new w e _, fun _ => rfl, fun _ => ?_⟩, ?_, ?_⟩
    · intro j hj hf; simp only at hf; omega
    · show _ * 1 ≤ _; rw [hcs]; omega
    · intro j q hq
      have hq' : (l.map AV.u8)[j]? = some q := by rw [← u8_flat]; exact hq
      rw [List.getElem?_map] at hq'
      cases hj : l[j]? with
      | none => rw [hj] at hq'; cases hq'
      | some b =>
        rw [hj] at hq'
        simp only [Option.map_some, Option.some.injEq] at hq'
        subst hq'
        have hlt : j < l.length := (List.getElem?_eq_some_iff.1 hj).1
        refine ⟨.int .u8 (b.toNat : Int), ?_, rfl⟩
        have hb : l[j] = b := by
          have := List.getElem?_eq_getElem hlt
          rw [this] at hj; exact Option.some.inj hj
        rw [Lib.bytesCells, Array.getElem?_append_left (by simpa using hlt)]
        simp [hlt, hb]
end
end Go.Proofs.YtdkogjjebbdngaaDoor
