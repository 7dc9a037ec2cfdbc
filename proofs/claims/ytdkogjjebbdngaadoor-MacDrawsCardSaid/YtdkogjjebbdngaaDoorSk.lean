/-
  A walk by reckoning, part 12: composites, choices, the least and the greatest. It speaks of no program.
-/
import Derived.Test.YtdkogjjebbdngaaDoorSj
import Derived.ChangeKeysEq
import Derived.Laws.Externs
namespace Go.Proofs.YtdkogjjebbdngaaDoor
open Go Go.RowKit
set_option linter.unusedVariables false
set_option linter.unusedSimpArgs false

theorem fold_put (off : Nat) : ∀ (l : List Value) (k : Nat) (cs : Array Value), (l.zipIdx k).foldl (fun (cs : Array Value) (p : Value × Nat) => cs.setIfInBounds (off + p.2) p.1) cs = putCells cs (off + k) l
  | [], _, _ => rfl
  | u :: l, k, cs => by
    rw [List.zipIdx_cons, List.foldl_cons, fold_put off l (k + 1)]; rfl
theorem fold_puts (off : Nat) (l cs : Array Value) : l.zipIdx.foldl (fun (cs : Array Value) (p : Value × Nat) => cs.setIfInBounds (off + p.2) p.1) cs = putCells cs off l.toList := by
  have := fold_put off l.toList 0 cs
  rw [Nat.add_zero] at this
  rw [← this, ← Array.foldl_toList]
  simp
/-- Parts, laid into cells. -/
def fillS (pl : List (Nat × Nat)) : List AV → List (Nat × SV) → Option (List AV × List Prop)
  | xs, [] => some (xs, [])
  | xs, (i, .c c) :: l => match pl[i]? with
    | some (off, size) => match fillS pl (xs.take off ++ c.cells ++ xs.drop (off + c.cells.length)) l with
      | some (ys, ob) => some (ys, (c.cells.length = size) :: (off + c.cells.length ≤ xs.length) :: PlainL c.cells :: ob)
      | none => none
    | none => none
  | _, _ => none
theorem fill_run {r : Lc} (pl : List (Nat × Nat)) (f : Nat → Option (Nat × Nat)) (hf : ∀ i, i < pl.length → f i = pl[i]?) : ∀ (ps : List (Nat × SV)) (vs : List (Nat × Value)) (xs ys : List AV) (cs : Array Value) (ob : List Prop),
    All2 (fun (p : Nat × SV) (q : Nat × Value) => p.1 = q.1 ∧ p.2.rel r q.2) ps vs → fillS pl xs ps = some (ys, ob) → AllT ob → xs.length = cs.size → Holds r xs cs → ∃ ds : Array Value, Instr.fill f cs vs = some ds ∧ ys.length = ds.size ∧ Holds r ys ds
  | [], [], xs, ys, cs, ob, _, h, _, hl, hh => by
    simp only [fillS, Option.some.injEq, Prod.mk.injEq] at h
    obtain ⟨rfl, rfl⟩ := h
    exact ⟨cs, rfl, hl, hh⟩
  | (i, .tup _) :: _, _ :: _, _, _, _, _, _, h, _, _, _ => by simp [fillS] at h
  | (i, .c c) :: ps, (j, v) :: vs, xs, ys, cs, ob, ⟨⟨hij, hcv⟩, hrest⟩, h, hob, hl, hh => by
    simp only at hij hcv
    subst hij
    simp only [fillS] at h
    cases hp : pl[i]? with
    | none => rw [hp] at h; cases h
    | some q =>
      obtain ⟨off, size⟩ := q
      rw [hp] at h
      simp only at h
      cases hq : fillS pl (xs.take off ++ c.cells ++ xs.drop (off + c.cells.length)) ps with
      | none => rw [hq] at h; cases h
      | some q =>
        obtain ⟨zs, ob'⟩ := q
        simp only [hq, Option.some.injEq, Prod.mk.injEq] at h
        obtain ⟨rfl, rfl⟩ := h
        obtain ⟨hsz, hfit, hpl, hob⟩ := hob
        have hcr := CV.cells_rel hcv hpl
        have hcl := hcr.length
        have hvs : v.cells.size = c.cells.length := by rw [hcl]; simp
        have hsp := hh.splice hfit hcr (by rw [← hcl]; omega)
        obtain ⟨ds, h1, h2, h3⟩ := fill_run pl f hf ps vs _ _ (putCells cs off v.cells.toList) ob' hrest hq hob (by rw [putCells_size]; simp; omega) hsp
        refine ⟨ds, ?_, h2, h3⟩
        have hi := hf i (List.getElem?_eq_some_iff.1 hp).1
        rw [hp] at hi
        unfold Instr.fill
        simp only [hi]
        rw [if_neg (by simp; omega)]
        rw [fold_puts]
        exact h1
theorem all2_of_holds {r : Lc} {xs : List AV} {cs : Array Value} (h : Holds r xs cs) (hl : xs.length = cs.size) : All2 (AV.rel r) xs cs.toList :=
  All2.of_get (by simpa using hl) fun j a b ha hb => by
    obtain ⟨u, hu, hr⟩ := h j a ha
    simp only [Array.getElem?_toList] at hb
    rw [hu] at hb
    cases hb
    exact hr
def placesT (T : Nat → Option TyI) : List Field → Option (List (Nat × Nat))
  | [] => some []
  | f :: l => match T f.type with
    | some i => match placesT T l with
      | some m => some ((f.offset, i.size) :: m)
      | none => none
    | none => none
theorem places_run {P : Program} {T : Nat → Option TyI} (hT : TyOk P T) (w : World) : ∀ (l : List Field) (m : List (Nat × Nat)), placesT T l = some m → (l.mapM (fun f => do pure (f.offset, ← sizeOf f.type) : Field → Sem (Nat × Nat))).run P w = .ok m w
  | [], m, h => by simp only [placesT, Option.some.injEq] at h; subst h; rfl
  | f :: l, m, h => by
    simp only [placesT] at h
    cases hi : T f.type with
    | none => rw [hi] at h; cases h
    | some i =>
      rw [hi] at h
      simp only at h
      cases hm : placesT T l with
      | none => rw [hm] at h; cases h
      | some q =>
        simp only [hm, Option.some.injEq] at h
        subst h
        have := places_run hT w l q hm
        simp only [List.mapM_cons, Sem.run_bind, run_size hT hi w, Result.andThen_ok, Sem.run_pure, this]
theorem places_runA {P : Program} {T : Nat → Option TyI} (hT : TyOk P T) (w : World) (fs : Array Field) (m : List (Nat × Nat)) (h : placesT T fs.toList = some m) : (fs.mapM (fun f => do pure (f.offset, ← sizeOf f.type) : Field → Sem (Nat × Nat))).run P w = .ok m.toArray w := by
  rw [Array.mapM_eq_mapM_toList]
  have e : ∀ q : Sem (List (Nat × Nat)), (List.toArray <$> q) = (q >>= fun a => pure a.toArray) := fun _ => rfl
  rw [e, Sem.run_bind, places_run hT w _ _ h]; rfl
theorem zero_run {P : Program} {t : TypeId} {nf : TypeInfo} {z : Value} (h : P.info? t = some nf) (hz : nf.zero = some z) (w : World) : (zeroValue t).run P w = .ok z w := by simp [zeroValue, typeInfo, h, hz]
def partsOf (sv : Operand → SV) (ps : List (Nat × Operand)) : List (Nat × SV) := ps.map fun p => (p.1, sv p.2)
def buildA (T : Nat → Option TyI) (ti : TyI) (ps : List (Nat × SV)) : Option Actn :=
  match ti.d with
  | .struct fs => match placesT T fs.toList with
    | some pl => match fillS pl ti.zero.cells ps with
      | some (ys, ob) => some (pureS (.c (.agg ys)) ob)
      | none => none
    | none => none
  | .array n e => match T e with
    | some ei => match fillS ((List.range n).map fun i => (i * ei.size, ei.size)) ti.zero.cells ps with
      | some (ys, ob) => some (pureS (.c (.agg ys)) ob)
      | none => none
    | none => none
  | _ => none
section
variable {P : Program} {G : List GFact} {T : Nat → Option TyI} {o : Oper} {sv : Operand → SV} {ev : Operand → Value} {r : Lc}
theorem parts_rel (he : EvOk r sv ev) (ps : List (Nat × Operand)) : All2 (fun (p : Nat × SV) (q : Nat × Value) => p.1 = q.1 ∧ p.2.rel r q.2) (partsOf sv ps) (ps.map fun p => (p.1, ev p.2)) :=
  All2.map fun c _ => ⟨rfl, he c.2⟩
theorem actOk_build (hT : TyOk P T) (he : EvOk r sv ev) {t : TypeId} {ps : List (Nat × Operand)} (ho : o.op = .build t ps.toArray) {ti : TyI} (ht : T t = some ti) {A : Actn} (hA : buildA T ti (partsOf sv ps) = some A) : ActOk P G o ev r A := by
  obtain ⟨hu, nf, i1, i2, i3, z, hz, hzr, hzs, hzl, hzp, _⟩ := hT t ti ht
  have hzh : Holds r ti.zero.cells z.cells := by
    have := holds_of_all2 (CV.cells_rel (hzr r) fun y hy => (hzp y hy).1)
    simpa using this
  have hexec : ∀ (w : World) u, (Instr.build t (ps.map fun p => (p.1, ev p.2)).toArray).run P w = .ok u w → (execOp ev o).run P w = .ok (.value u) w := fun w u h => by
    unfold execOp
    rw [ho]
    simp only [Sem.run_bind]
    have : (Array.map (fun (x : Nat × Operand) => match x with | (i, x) => (i, ev x)) ps.toArray) = (ps.map fun p => (p.1, ev p.2)).toArray := by simp
    rw [this, h]; rfl
  unfold buildA at hA
  split at hA
  · rename_i fs hd
    cases hpl : placesT T fs.toList with
    | none => rw [hpl] at hA; cases hA
    | some pl =>
      simp only [hpl] at hA
      cases hq : fillS pl ti.zero.cells (partsOf sv ps) with
      | none => rw [hq] at hA; cases hA
      | some q =>
        obtain ⟨ys, ob⟩ := q
        simp only [hq, Option.some.injEq] at hA
        subst hA
        refine actOk_pure fun hob w => ?_
        obtain ⟨ds, h1, h2, h3⟩ := fill_run (r := r) pl (fun i => pl.toArray[i]?) (fun i _ => by simp) _ _ _ _ z.cells ob (parts_rel he ps) hq hob (by omega) hzh
        refine ⟨.agg ds, hexec w _ ?_, ds.toList, by simp, all2_of_holds h3 h2⟩
        rw [hd] at hu
        have hpr := places_runA (P := P) hT w fs pl hpl
        unfold Instr.build
        simp only [Sem.run_bind, zero_run i1 hz w, Result.andThen_ok, run_underlying hu w, hpr, h1, Sem.run_pure]
  · rename_i n e hd
    cases hE : T e with
    | none => rw [hE] at hA; cases hA
    | some ei =>
      simp only [hE] at hA
      cases hq : fillS ((List.range n).map fun i => (i * ei.size, ei.size)) ti.zero.cells (partsOf sv ps) with
      | none => rw [hq] at hA; cases hA
      | some q =>
        obtain ⟨ys, ob⟩ := q
        simp only [hq, Option.some.injEq] at hA
        subst hA
        refine actOk_pure fun hob w => ?_
        obtain ⟨ds, h1, h2, h3⟩ := fill_run (r := r) _ (fun i => some (i * ei.size, ei.size)) (fun i hi => by
          simp only [List.length_map, List.length_range] at hi
          simp [hi]) _ _ _ _ z.cells ob (parts_rel he ps) hq hob (by omega) hzh
        refine ⟨.agg ds, hexec w _ ?_, ds.toList, by simp, all2_of_holds h3 h2⟩
        rw [hd] at hu
        unfold Instr.build
        simp only [Sem.run_bind, zero_run i1 hz w, Result.andThen_ok, run_underlying hu w, run_size hT hE w, h1, Sem.run_pure]
  · cases hA
/-- A row of so many members. -/
def zeroRow (z : List AV) : Nat → List AV
  | 0 => []
  | n + 1 => z ++ zeroRow z n
def rowA (ei : TyI) (n : Nat) (ys : List AV) (ob : List Prop) : Actn := ⟨[], false, fun _ fresh => some ⟨.c (.one (.sl (fresh 0) 0 ei.size n)), [], [.cells ei.size ys], ob⟩⟩
def buildSliceA (ei : TyI) (n : Nat) (ps : List (Nat × SV)) : Option Actn :=
  match fillS ((List.range n).map fun i => (i * ei.size, ei.size)) (zeroRow ei.zero.cells n) ps with
  | some (ys, ob) => if n * ei.size ≤ 16777216 then some (rowA ei n ys ob) else none
  | none => none
theorem zeroRow_get (z : List AV) (s : Nat) (hz : z.length = s) : ∀ (n j : Nat), (zeroRow z n)[j]? = if j < n * s then z[j % s]? else none
  | 0, j => by simp [zeroRow]
  | n + 1, j => by
    rw [zeroRow]
    by_cases hj : j < s
    · rw [List.getElem?_append_left (by omega), Nat.mod_eq_of_lt hj, if_pos (by rw [Nat.add_mul]; omega)]
    · rw [List.getElem?_append_right (by omega), zeroRow_get z s hz n, hz]
      rw [Nat.add_mul, Nat.one_mul]
      by_cases h : j - s < n * s
      · have e := Nat.mod_eq_sub_mod (a := j) (b := s) (by omega)
        rw [if_pos h, if_pos (by omega), e]
      · rw [if_neg h, if_neg (by omega)]
theorem zeroRow_length (z : List AV) (n : Nat) : (zeroRow z n).length = n * z.length := by
  induction n with
  | zero => simp [zeroRow]
  | succ n ih => rw [zeroRow, List.length_append, ih, Nat.add_mul]; omega
theorem actOk_buildSlice (hT : TyOk P T) (he : EvOk r sv ev) {t : TypeId} {n : Nat} {ps : List (Nat × Operand)} (ho : o.op = .buildSlice t n ps.toArray) {ti ei : TyI} (ht : T t = some ti) {e : TypeId} (hd : ti.d = .slice e) (hE : T e = some ei) {A : Actn} (hA : buildSliceA ei n (partsOf sv ps) = some A) : ActOk P G o ev r A := by
  unfold buildSliceA at hA
  cases hq : fillS ((List.range n).map fun i => (i * ei.size, ei.size)) (zeroRow ei.zero.cells n) (partsOf sv ps) with
  | none => rw [hq] at hA; cases hA
  | some q =>
    obtain ⟨ys, ob⟩ := q
    simp only [hq] at hA
    split at hA
    case isFalse => cases hA
    rename_i hbig
    injection hA with hA
    subst hA
    obtain ⟨_, nf, i1, i2, i3, z, hz, hzr, hzs, hzl, hzp, _⟩ := hT e ei hE
    have hut : P.underlying t = some (.slice e) := by rw [(hT t ti ht).1, hd]
    intro C hp w es fresh R hh hg hr hob hfr _ hsub
    simp only [rowA, Option.some.injEq] at hr
    subst hr
    have hid := hfr 0 (by simp)
    have hza := CV.cells_rel (hzr r) fun y hy => (hzp y hy).1
    have hzh : Holds r (zeroRow ei.zero.cells n) ((Array.range (n * ei.size)).map (z.cells[· % z.cells.size]!)) := fun j x hx => by
      rw [zeroRow_get _ ei.size hzl] at hx
      split at hx
      · rename_i hj
        obtain ⟨u, hu, hr⟩ := hza.get _ _ hx
        refine ⟨u, ?_, hr⟩
        have hlt : j % z.cells.size < z.cells.size := Nat.mod_lt _ (by
          have := (List.getElem?_eq_some_iff.1 hu).1
          simp at this; omega)
        simp only [Array.getElem?_toList] at hu
        rw [← hzs] at hu
        simp [hj]
        rw [getElem!_pos z.cells (j % z.cells.size) hlt]
        rw [Array.getElem?_eq_getElem hlt] at hu
        exact Option.some.inj hu
      · cases hx
    obtain ⟨ds, h1, h2, h3⟩ := fill_run (r := r) _ (fun i => some (i * ei.size, ei.size)) (fun i hi => by
      simp only [List.length_map, List.length_range] at hi
      simp [hi]) _ _ _ _ ((Array.range (n * ei.size)).map (z.cells[· % z.cells.size]!)) ob (parts_rel he ps) hq hob (by rw [zeroRow_length, hzl]; simp) hzh
    have hds : ds.size = n * ei.size := by
      have : ∀ (f : Nat → Option (Nat × Nat)) (vs : List (Nat × Value)) (cs ds : Array Value), Instr.fill f cs vs = some ds → ds.size = cs.size := fun f vs => by
        induction vs with
        | nil => intro cs ds h; simp only [Instr.fill, Option.some.injEq] at h; subst h; rfl
        | cons p vs ih =>
          intro cs ds h
          obtain ⟨i, v⟩ := p
          unfold Instr.fill at h
          split at h
          · cases h
          · split at h
            · cases h
            · rw [ih _ _ h, fold_puts, putCells_size]
      rw [this _ _ _ _ h1]; simp
    have hrun : (Instr.buildSlice t n (ps.map fun p => (p.1, ev p.2)).toArray).run P w = .ok (.slice (some ⟨w.heap.size, 0, none⟩) n n) (w.alloc (.cells ds e)) := by
      unfold Instr.buildSlice
      simp only [Sem.run_bind, run_underlying hut w, Result.andThen_ok, run_size hT hE w]
      have hb : ¬ (n * ei.size > 2 ^ 24) := by omega
      by_cases h0 : n * ei.size = 0
      · rw [h0] at h1
        simp only [Array.range_zero', Array.map_empty] at h1
        have hz' : ∀ zc : Array Value, ((Array.range 0).map fun x => zc[x % zc.size]!) = #[] := fun zc => by simp
        simp only [h0, Nat.not_lt_zero, gt_iff_lt, if_false, if_true, Sem.run_pure, Result.andThen_ok, Sem.run_bind, hz', h1, newRow]
        simp
      · simp [hb, h0, zeroValue, typeInfo, i1, hz, h1, newRow]
    refine StepOk.of_value (u := .slice (some ⟨w.heap.size, 0, none⟩) n n) (w' := w.alloc (.cells ds e)) ?_ ⟨r.add (fresh 0) (some ((w.heap.size, none), n)), Lc.add_le ((hh.dom _).2 hid) _, .inr ⟨(w.heap.size, none), n, 0, Lc.add_same _ _ _, by omega, fun _ => by simp, rfl⟩, ?_⟩
    · unfold execOp
      rw [ho]
      simp only [Sem.run_bind]
      have : (Array.map (fun (x : Nat × Operand) => match x with | (i, x) => (i, ev x)) ps.toArray) = (ps.map fun p => (p.1, ev p.2)).toArray := by simp
      rw [this, hrun]; rfl
    · refine hh.make hid _ _ rfl rfl rfl (by simp) (fun b hb => Below.heap_alloc w _ b hb) (fun g c e => by injection e with e; injection e with e1 e2; subst e1; exact ⟨Nat.le_refl _, rfl⟩) fun _ => .inr ⟨_, _, _, rfl, rowAt_alloc w ds e, ?_, ?_⟩
      · show n * ei.size ≤ ds.size; omega
      · exact h3.le (Lc.add_le ((hh.dom _).2 hid) _)
/-- A choice. -/
def pickS (c : Bool) (a b : SV) : SV :=
  match a, b with
  | .c (.one (.bo x)), .c (.one (.bo y)) => .c (.one (.bo (if c then x else y)))
  | _, _ => if c then a else b
theorem pickS_rel {c : Bool} {a b : SV} {u v : Value} (ha : a.rel r u) (hb : b.rel r v) : (pickS c a b).rel r (if c then u else v) := by
  unfold pickS
  split
  · simp only [SV.rel, CV.rel, AV.rel] at ha hb ⊢
    subst ha; subst hb
    cases c <;> rfl
  · cases c <;> simpa
theorem actOk_pick (he : EvOk r sv ev) {c a b : Operand} (ho : o.op = .pick c a b) {x : Bool} (hx : sv c = .c (.one (.bo x))) : ActOk P G o ev r (pureS (pickS x (sv a) (sv b)) []) :=
  actOk_pure fun _ w => by
    have h1 := he c
    rw [hx] at h1
    have h1' : ev c = .bool x := h1
    refine ⟨if x then ev a else ev b, ?_, pickS_rel (he a) (he b)⟩
    unfold execOp
    rw [ho]
    cases x <;> simp [h1', asBool]
theorem actOk_nil (he : EvOk r sv ev) {x : Operand} (ho : o.op = .nilCheck x) {id k st j : Nat} (hx : sv x = .c (.one (.ptr id k st j))) : ActOk P G o ev r (pureA (.ptr id k st j) []) :=
  actOk_pure fun _ w => by
    have h1 := he x
    rw [hx] at h1
    obtain ⟨g, c, h2, h3⟩ := h1
    refine ⟨ev x, ?_, g, c, h2, h3⟩
    unfold execOp
    rw [ho]
    simp only [h3]
    rfl
def minS (mx : Bool) (a b : Int) : Int := if mx then max a b else min a b
theorem actOk_minmax (he : EvOk r sv ev) {mx : Bool} {x y : Operand} {ats : Array TypeId} (ho : o.op = .call { callee := .builtin (if mx then .max else .min), args := #[x, y], argTypes := ats }) {a b : Int} (hx : sv x = .c (.one (.num a))) (hy : sv y = .c (.one (.num b))) : ActOk P G o ev r (pureA (.num (minS mx a b)) []) :=
  actOk_pure fun _ w => by
    have h1 := he x
    rw [hx] at h1
    have h2 := he y
    rw [hy] at h2
    have h1' : ev x = .int .i64 a := h1
    have h2' : ev y = .int .i64 b := h2
    refine ⟨.int .i64 (minS mx a b), ?_, rfl⟩
    unfold execOp
    rw [ho]
    cases mx
    · simp [resolve, invoke, builtin, Builtin.min_, Builtin.min2, h1', h2', minS]
      split <;> omega
    · simp [resolve, invoke, builtin, Builtin.max_, Builtin.max2, h1', h2', minS]
      split <;> omega
theorem actOk_boolEq (hT : TyOk P T) (he : EvOk r sv ev) {neg : Bool} {t yt : TypeId} {x y : Operand} (ho : o.op = .binOp (if neg then .neq else .eql) t x y yt) {ti : TyI} (ht : T t = some ti) (hd : ti.d = .bool) {a b : Bool} (hx : sv x = .c (.one (.bo a))) (hy : sv y = .c (.one (.bo b))) :
    ActOk P G o ev r (pureA (.bo (if neg then a != b else a == b)) []) :=
  actOk_pure fun _ w => by
    have h1 := he x
    rw [hx] at h1
    have h2 := he y
    rw [hy] at h2
    have h1' : ev x = .bool a := h1
    have h2' : ev y = .bool b := h2
    have hu : P.underlying t = some .bool := by rw [(hT t ti ht).1, hd]
    refine ⟨.bool (if neg then a != b else a == b), ?_, rfl⟩
    unfold execOp
    rw [ho]
    cases neg
    · have := run_eql_bool (P := P) w t a b hu
      simp only [h1', h2', Bool.false_eq_true, if_false, Sem.run_bind]
      simp [eqGuard, this]
    · have := run_neq_bool (P := P) w t a b hu
      simp only [h1', h2', if_true, Sem.run_bind]
      simp [eqGuard, this, bne]
theorem actOk_ifn (hT : TyOk P T) (he : EvOk r sv ev) {neg : Bool} {t yt : TypeId} {x : Operand} (ho : o.op = .binOp (if neg then .neq else .eql) t x (.const .nilIface) yt) (hc : ev (.const .nilIface) = .nilIface) {ti : TyI} (ht : T t = some ti) {ms : Array (String × TypeId)} (hd : ti.d = .interface ms) {b : Bool} (hx : sv x = .c (.one (.ifn b))) :
    ActOk P G o ev r (pureA (.bo (if neg then b else !b)) []) :=
  actOk_pure fun _ w => by
    have h1 := he x
    rw [hx] at h1
    have hu : P.underlying t = some (.interface ms) := by rw [(hT t ti ht).1, hd]
    have hu' : P.underlying t = some (.interface (P.methodsAt t)) := by
      rw [hu]; simp [Program.methodsAt, hu]
    refine ⟨.bool (if neg then b else !b), ?_, rfl⟩
    unfold execOp
    rw [ho]
    simp only [hc]
    cases b
    · have h1' : ev x = .nilIface := h1
      cases neg
      · have := run_eql_nil_nil (P := P) w t hu'
        simp only [h1', Bool.false_eq_true, if_false, Sem.run_bind]
        simp [eqGuard, this]
      · have := run_neq_nil_nil (P := P) w t hu'
        simp only [h1', if_true, Sem.run_bind]
        simp [eqGuard, this]
    · obtain ⟨u, v, h1'⟩ : ∃ u v, ev x = .iface u v := h1
      cases neg
      · have := run_eql_held_nil (P := P) w t u v hu'
        simp only [h1', Bool.false_eq_true, if_false, Sem.run_bind]
        simp [eqGuard, this]
      · have := run_neq_held_nil (P := P) w t u v hu'
        simp only [h1', if_true, Sem.run_bind]
        simp [eqGuard, this]
/-- Rows of numbers held against each other. -/
def eqCells : List AV → List AV → Option Bool
  | [], [] => some true
  | .num a :: x, .num b :: y => match eqCells x y with
    | some q => some ((a == b) && q)
    | none => none
  | .u8 a :: x, .u8 b :: y => match eqCells x y with
    | some q => some ((a == b) && q)
    | none => none
  | .u32 a :: x, .u32 b :: y => match eqCells x y with
    | some q => some ((a == b) && q)
    | none => none
  | .u64 a :: x, .u64 b :: y => match eqCells x y with
    | some q => some ((a == b) && q)
    | none => none
  | .str a :: x, .str b :: y => match eqCells x y with
    | some q => some ((a == b) && q)
    | none => none
  | .bo a :: x, .bo b :: y => match eqCells x y with
    | some q => some ((a == b) && q)
    | none => none
  | _, _ => none
def numsOk : List AV → Bool
  | [] => true
  | .num _ :: x => numsOk x
  | .u8 _ :: x => numsOk x
  | .u32 _ :: x => numsOk x
  | .u64 _ :: x => numsOk x
  | _ => false
def kindsOk : List Nat → List AV → Bool
  | [], [] => true
  | 0 :: k, .num _ :: x => kindsOk k x
  | 0 :: k, .u8 _ :: x => kindsOk k x
  | 0 :: k, .u32 _ :: x => kindsOk k x
  | 0 :: k, .u64 _ :: x => kindsOk k x
  | 1 :: k, .str _ :: x => kindsOk k x
  | 2 :: k, .bo _ :: x => kindsOk k x
  | _, _ => false
def allEq : List Value → List Value → Bool
  | [], [] => true
  | .int _ a :: x, .int _ b :: y => (a == b) && allEq x y
  | .string a :: x, .string b :: y => (a == b) && allEq x y
  | .bool a :: x, .bool b :: y => (a == b) && allEq x y
  | _, _ => false
def AllK : List Nat → List Value → List Value → Prop
  | [], [], [] => True
  | 0 :: k, .int a _ :: x, .int b _ :: y => a = b ∧ AllK k x y
  | 1 :: k, .string _ :: x, .string _ :: y => AllK k x y
  | 2 :: k, .bool _ :: x, .bool _ :: y => AllK k x y
  | _, _, _ => False
def AllInt : List Value → List Value → Prop
  | [], [] => True
  | .int k _ :: x, .int k' _ :: y => k = k' ∧ AllInt x y
  | _, _ => False
theorem eqCells_spec {r : Lc} : ∀ (xs ys : List AV) (b : Bool) (cs ds : List Value), eqCells xs ys = some b → All2 (AV.rel r) xs cs → All2 (AV.rel r) ys ds → b = allEq cs ds ∧ (numsOk xs = true → AllInt cs ds) ∧ ∀ ks, kindsOk ks xs = true → AllK ks cs ds
  | [], [], b, cs, ds, h, h1, h2 => by
    cases cs with
    | cons _ _ => exact h1.elim
    | nil => cases ds with
      | cons _ _ => exact h2.elim
      | nil => simp only [eqCells, Option.some.injEq] at h; exact ⟨h.symm, fun _ => trivial, fun ks hk => by cases ks with | nil => trivial | cons _ _ => simp [kindsOk] at hk⟩
  | [], _ :: _, b, cs, ds, h, h1, h2 => by simp [eqCells] at h
  | a :: xs, [], b, cs, ds, h, h1, h2 => by cases a <;> simp [eqCells] at h
  | a :: xs, a' :: ys, b, cs, ds, h, h1, h2 => by
    cases cs with
    | nil => exact h1.elim
    | cons c cs => cases ds with
      | nil => exact h2.elim
      | cons d ds =>
        obtain ⟨h1a, h1b⟩ := h1
        obtain ⟨h2a, h2b⟩ := h2
        cases a <;> cases a' <;> simp only [eqCells, reduceCtorEq] at h
        all_goals
          split at h
          case h_2 => cases h
          rename_i q hq
          injection h with h
          subst h
          simp only [AV.rel] at h1a h2a
          subst h1a; subst h2a
          obtain ⟨e1, e2, e3⟩ := eqCells_spec _ _ _ _ _ hq h1b h2b
          subst e1
          refine ⟨?_, fun hn => ?_, fun ks hk => ?_⟩
          · simp only [allEq] <;> first
              | rfl
              | rw [eqw8]
              | rw [eqw32]
              | rw [eqw64]
              | rw [beq_toListBytes, beq_bytes]
          · first
              | exact ⟨rfl, e2 hn⟩
              | simp [numsOk] at hn
          · match ks, hk with
            | 0 :: k, hk => first
              | exact ⟨rfl, e3 k hk⟩
              | simp [kindsOk] at hk
            | 1 :: k, hk => first
              | exact e3 k hk
              | simp [kindsOk] at hk
            | 2 :: k, hk => first
              | exact e3 k hk
              | simp [kindsOk] at hk
            | (_ + 3) :: k, hk => simp [kindsOk] at hk
            | [], hk => simp [kindsOk] at hk
theorem eqItems_run {P : Program} (w : World) {e : TypeId} {kk : IntKind} (he : P.underlying e = some (.int kk)) (d : Nat) (cs ds : List Value) : ∀ (m i : Nat), AllInt (cs.drop i) (ds.drop i) → i + m = cs.length → (Op.eqItems (d + 1) e 1 cs.toArray ds.toArray (List.range' i m)).run P w = .ok (allEq (cs.drop i) (ds.drop i)) w
  | 0, i, h, hl => by
    have h1 : cs.drop i = [] := List.drop_eq_nil_of_le (by omega)
    rw [h1] at h ⊢
    cases hd : ds.drop i with
    | nil => simp [Op.eqItems, allEq]
    | cons _ _ => rw [hd] at h; exact h.elim
  | m + 1, i, h, hl => by
    have hi : i < cs.length := by omega
    have hj : i < ds.length := by
      rcases Nat.lt_or_ge i ds.length with hj | hj
      · exact hj
      · rw [List.drop_eq_nil_of_le hj, List.drop_eq_getElem_cons hi] at h
        cases hc : cs[i] <;> rw [hc] at h <;> exact h.elim
    rw [List.drop_eq_getElem_cons hi, List.drop_eq_getElem_cons hj] at h ⊢
    have px : (part e cs.toArray (i * 1)).run P w = .ok cs[i] w := by simp [part, isAgg, run_underlying he, hi]
    have py : (part e ds.toArray (i * 1)).run P w = .ok ds[i] w := by simp [part, isAgg, run_underlying he, hj]
    cases hc : cs[i] <;> rw [hc] at h px <;> first | exact h.elim | skip
    cases hd : ds[i] <;> rw [hd] at h py <;> first | exact h.elim | skip
    rename_i k a k' a'
    obtain ⟨rfl, h⟩ := h
    have ih := eqItems_run w he d cs ds m (i + 1) h (by omega)
    rw [List.range'_succ]
    simp only [Op.eqItems, Sem.run_bind, px, py, run_equalIn_int w d e k kk a a' he, Result.andThen_ok, allEq]
    cases hb : (a == a')
    · simp
    · simp [ih]
theorem AllK.nil {k : List Nat} {y : List Value} (h : AllK k [] y) : k = [] ∧ y = [] := by
  unfold AllK at h
  split at h <;> first | exact ⟨rfl, rfl⟩ | exact h.elim | simp_all
theorem AllK.cons {k : List Nat} {u : Value} {x y : List Value} (h : AllK k (u :: x) y) : ∃ q k' v y', k = q :: k' ∧ y = v :: y' ∧ AllK k' x y' ∧ ((q = 0 ∧ ∃ a b c, u = .int a b ∧ v = .int a c) ∨ (q = 1 ∧ ∃ a b, u = .string a ∧ v = .string b) ∨ (q = 2 ∧ ∃ a b, u = .bool a ∧ v = .bool b)) := by
  match k, u, y, h with
  | 0 :: k, .int a b, .int a' c :: y, h => obtain ⟨rfl, h⟩ := h; exact ⟨_, _, _, _, rfl, rfl, h, .inl ⟨rfl, _, _, _, rfl, rfl⟩⟩
  | 1 :: k, .string a, .string b :: y, h => exact ⟨_, _, _, _, rfl, rfl, h, .inr (.inl ⟨rfl, _, _, rfl, rfl⟩)⟩
  | 2 :: k, .bool a, .bool b :: y, h => exact ⟨_, _, _, _, rfl, rfl, h, .inr (.inr ⟨rfl, _, _, rfl, rfl⟩)⟩
theorem eqFields_run {P : Program} (w : World) (d : Nat) (cs ds : List Value) : ∀ (fs : List Field) (ks : List Nat) (i : Nat), (∀ j f k, fs[j]? = some f → ks[j]? = some k → fldOk P (i + j) f k = true) → AllK ks (cs.drop i) (ds.drop i) → i + fs.length = cs.length → (Op.eqFields (d + 1) cs.toArray ds.toArray fs).run P w = .ok (allEq (cs.drop i) (ds.drop i)) w
  | [], ks, i, _, h, hl => by
    have h1 : cs.drop i = [] := List.drop_eq_nil_of_le (by simp at hl; omega)
    rw [h1] at h ⊢
    rw [h.nil.2]
    simp [Op.eqFields, allEq]
  | f :: fs, ks, i, hf, h, hl => by
    simp only [List.length_cons] at hl
    have hi : i < cs.length := by omega
    have hcd := List.drop_eq_getElem_cons hi
    rw [hcd] at h
    obtain ⟨q, k', v, y', rfl, hy, hk, hcase⟩ := h.cons
    have hj : i < ds.length := by
      rcases Nat.lt_or_ge i ds.length with hj | hj
      · exact hj
      · rw [List.drop_eq_nil_of_le hj] at hy; cases hy
    have hdd := List.drop_eq_getElem_cons hj
    rw [hdd] at hy
    injection hy with hv hy
    subst hy
    rw [hcd, hdd]
    have hf0 := hf 0 f q rfl rfl
    simp only [fldOk, Nat.add_zero, Bool.and_eq_true, bne_iff_ne, ne_eq, beq_iff_eq] at hf0
    obtain ⟨⟨hn, ho⟩, hu⟩ := hf0
    have ih := eqFields_run w d cs ds fs k' (i + 1) (fun j g k hg hkk => by have := hf (j + 1) g k hg hkk; rwa [show i + 1 + j = i + (j + 1) by omega]) hk (by omega)
    rcases hcase with ⟨rfl, a, b, c, e1, e2⟩ | ⟨rfl, a, b, e1, e2⟩ | ⟨rfl, a, b, e1, e2⟩
    · obtain ⟨kk, he⟩ : ∃ kk, P.underlying f.type = some (.int kk) := by
        split at hu <;> first | (rename_i kk hk; exact ⟨kk, hk⟩) | simp at hu
      have px : (part f.type cs.toArray f.offset).run P w = .ok cs[i] w := by simp [part, isAgg, run_underlying he, ho, hi]
      have py : (part f.type ds.toArray f.offset).run P w = .ok ds[i] w := by simp [part, isAgg, run_underlying he, ho, hj]
      rw [e1] at px
      rw [hv, e2] at py
      rw [e1, hv, e2]
      simp only [Op.eqFields, hn, ne_eq, not_false_eq_true, if_true, Sem.run_bind, px, py, run_equalIn_int w d f.type a kk b c he, Result.andThen_ok, allEq]
      cases hb : (b == c)
      · simp
      · simp [ih]
    · have he : P.underlying f.type = some .string := by
        split at hu <;> first | assumption | simp at hu
      have px : (part f.type cs.toArray f.offset).run P w = .ok cs[i] w := by simp [part, isAgg, run_underlying he, ho, hi]
      have py : (part f.type ds.toArray f.offset).run P w = .ok ds[i] w := by simp [part, isAgg, run_underlying he, ho, hj]
      rw [e1] at px
      rw [hv, e2] at py
      rw [e1, hv, e2]
      simp only [Op.eqFields, hn, ne_eq, not_false_eq_true, if_true, Sem.run_bind, px, py, run_equalIn_string w d f.type a b he, Result.andThen_ok, allEq, beq_toListBytes]
      cases hb : (a.toList == b.toList)
      · simp
      · simp [ih]
    · have he : P.underlying f.type = some .bool := by
        split at hu <;> first | assumption | simp at hu
      have px : (part f.type cs.toArray f.offset).run P w = .ok cs[i] w := by simp [part, isAgg, run_underlying he, ho, hi]
      have py : (part f.type ds.toArray f.offset).run P w = .ok ds[i] w := by simp [part, isAgg, run_underlying he, ho, hj]
      rw [e1] at px
      rw [hv, e2] at py
      rw [e1, hv, e2]
      simp only [Op.eqFields, hn, ne_eq, not_false_eq_true, if_true, Sem.run_bind, px, py, run_equalIn_bool' w d f.type a b he, Result.andThen_ok, allEq]
      cases hb : (a == b)
      · simp
      · simp [ih]
theorem actOk_aggEqS (hT : TyOk P T) (he : EvOk r sv ev) {neg : Bool} {t yt : TypeId} {x y : Operand} (ho : o.op = .binOp (if neg then .neq else .eql) t x y yt) {ti : TyI} (ht : T t = some ti) (hd : ti.eqs.isEmpty = false) {xs ys : List AV} (hl : kindsOk ti.eqs xs = true) {b : Bool} (heq : eqCells xs ys = some b)
    (hx : sv x = .c (.agg xs)) (hy : sv y = .c (.agg ys)) : ActOk P G o ev r (pureA (.bo (if neg then !b else b)) []) :=
  actOk_pure fun _ w => by
    have h1 := he x
    rw [hx] at h1
    have h2 := he y
    rw [hy] at h2
    obtain ⟨cs, h1', ha1⟩ := h1
    obtain ⟨ds, h2', ha2⟩ := h2
    obtain ⟨hb, _, hint⟩ := eqCells_spec _ _ _ _ _ heq ha1 ha2
    have hint := hint ti.eqs hl
    obtain ⟨_, nf, _, _, _, z, _, _, _, _, _, heqs⟩ := hT t ti ht
    obtain ⟨hq, hsz⟩ := heqs hd
    unfold eqB at hq
    simp only [Bool.and_eq_true, Bool.not_eq_true', beq_iff_eq] at hq
    obtain ⟨⟨⟨⟨hg, hp⟩, hst⟩, hfs⟩, hall⟩ := hq
    have hu : P.underlying t = some (.struct (P.fieldsOf t)) := by
      unfold Program.fieldsOf
      split at hst
      · rename_i fs hfs; rw [hfs]
      · cases hst
    have hkl : ∀ (ks : List Nat) (x : List AV), kindsOk ks x = true → x.length = ks.length := fun ks => by
      induction ks with
      | nil => intro x h; cases x with
        | nil => rfl
        | cons _ _ => simp [kindsOk] at h
      | cons k ks ih =>
        intro x h
        unfold kindsOk at h
        split at h <;> first | (simp; exact ih _ h) | simp_all
    have hlen : cs.length = ti.eqs.length := by rw [← ha1.length, hkl _ _ hl]
    have hin := run_equalIn_struct (P := P) w 9999 t cs.toArray ds.toArray hu hp
    rw [eqFields_run w 9998 cs ds (P.fieldsOf t).toList ti.eqs 0 (fun j f k hf hk => by
      have hf' : (P.fieldsOf t)[j]? = some f := by simpa using hf
      have hj := (List.getElem?_eq_some_iff.1 hk).1
      have := List.all_eq_true.1 hall j (by simpa using hj)
      rw [hf', List.getD_eq_getElem?_getD, hk] at this
      simpa using this) (by simpa using hint) (by simp; omega), List.drop_zero, List.drop_zero, ← hb] at hin
    refine ⟨.bool (if neg then !b else b), ?_, rfl⟩
    unfold execOp
    rw [ho]
    cases neg
    · simp only [h1', h2', Bool.false_eq_true, if_false, Sem.run_bind, run_eqGuard_agg w .eql t x y _ _ hg, Result.andThen_ok, run_eql_struct, hin, Sem.run_pure]
    · simp only [h1', h2', if_true, Sem.run_bind, run_eqGuard_agg w .neq t x y _ _ hg, Result.andThen_ok, run_neq_struct, hin, Sem.run_pure]
theorem actOk_aggEq (hT : TyOk P T) (he : EvOk r sv ev) {neg : Bool} {t yt : TypeId} {x y : Operand} (ho : o.op = .binOp (if neg then .neq else .eql) t x y yt) {ti ei : TyI} {n : Nat} {e : TypeId} {kk : IntKind} (ht : T t = some ti) (hd : ti.d = .array n e) (hE : T e = some ei) (hed : ei.d = .int kk) (hsz : ei.size = 1) {xs ys : List AV} (hl : xs.length = n) (hnm : numsOk xs = true) {b : Bool} (heq : eqCells xs ys = some b)
    (hx : sv x = .c (.agg xs)) (hy : sv y = .c (.agg ys)) : ActOk P G o ev r (pureA (.bo (if neg then !b else b)) []) :=
  actOk_pure fun _ w => by
    have h1 := he x
    rw [hx] at h1
    have h2 := he y
    rw [hy] at h2
    obtain ⟨cs, h1', ha1⟩ := h1
    obtain ⟨ds, h2', ha2⟩ := h2
    obtain ⟨hb, hint, _⟩ := eqCells_spec _ _ _ _ _ heq ha1 ha2
    have hint := hint hnm
    have hu : P.underlying t = some (.array n e) := by rw [(hT t ti ht).1, hd]
    have hue : P.underlying e = some (.int kk) := by rw [(hT e ei hE).1, hed]
    obtain ⟨_, nf, hinf, hs, _⟩ := hT e ei hE
    have hco : P.cellsOf e = 1 := by simp [Program.cellsOf, hinf, hs, hsz]
    have hg : P.eqGuardType P.depth t = false := by
      show P.eqGuardType (2 * (P.types.size + Made.depth) + 1 + 1) t = false
      simp [Program.eqGuardType, hu, hue]
    have hlen : cs.length = n := by rw [← ha1.length, hl]
    have hin := run_equalIn_array (P := P) w 9999 cs.toArray ds.toArray hu hinf
    rw [hco, List.range_eq_range', eqItems_run w hue 9998 cs ds n 0 (by simpa using hint) (by omega), List.drop_zero, List.drop_zero, ← hb] at hin
    refine ⟨.bool (if neg then !b else b), ?_, rfl⟩
    unfold execOp
    rw [ho]
    cases neg
    · simp only [h1', h2', Bool.false_eq_true, if_false, Sem.run_bind, run_eqGuard_agg w .eql t x y _ _ hg, Result.andThen_ok, run_eql_struct, hin, Sem.run_pure]
    · simp only [h1', h2', if_true, Sem.run_bind, run_eqGuard_agg w .neq t x y _ _ hg, Result.andThen_ok, run_neq_struct, hin, Sem.run_pure]
end
end Go.Proofs.YtdkogjjebbdngaaDoor
