/-
  A walk by reckoning, part 11: append to nil, copy, composites. It speaks of no program.
-/
import Derived.Test.YtdkogjjebbdngaaDoorSi
namespace Go.Proofs.YtdkogjjebbdngaaDoor
open Go Go.RowKit
set_option linter.unusedVariables false
set_option linter.unusedSimpArgs false

section
variable {P : Program} {G : List GFact} {T : Nat → Option TyI} {o : Oper} {sv : Operand → SV} {ev : Operand → Value} {r : Lc}
theorem actOk_appNil (hT : TyOk P T) (he : EvOk r sv ev) {x y : Operand} {t u : TypeId} (ho : o.op = .call { callee := .builtin .append, args := #[x, y], argTypes := #[t, u] }) {ti ei ui : TyI} (ht : T t = some ti) {e : TypeId} (hd : ti.d = .slice e) (hE : T e = some ei) (hu : T u = some ui)
    (hud : ui.d = .string ∨ ∃ e, ui.d = .slice e) (hmat : (∃ s, sv y = .c (.one (.str s))) → ui.d = .string) (hmat2 : (∀ s, sv y ≠ .c (.one (.str s))) → ∃ e, ui.d = .slice e)
    (hx : sv x = .c (.one (.val (.slice none 0 0)))) {fy : List Nat} (hf : srcF ei.size (sv y) = some fy) : ActOk P G o ev r (appNilA ei (sv y) fy) := by
  intro C hp w es fresh R hh hg hr hob hfr _ hsub
  have hg : getAll hp fy = some es := hg
  simp only [appNilA] at hr
  cases hso : srcO (sv y) es with
  | none => rw [hso] at hr; cases hr
  | some q =>
    obtain ⟨so, m, ob⟩ := q
    simp only [hso, Option.some.injEq] at hr
    subst hr
    obtain ⟨hstr, hlv, hby, h63, hob⟩ := hob
    obtain ⟨_, hsl, news, hsrc, hall⟩ := src_of (P := P) hT hh (he y) hf hg hso hob hstr hu hud hmat hmat2
    have hfresh := hfr 0 (by simp)
    obtain ⟨hut, _⟩ := hT t ti ht
    rw [hd] at hut
    obtain ⟨_, nf, i1, i2, i3, zv, hzv, _, hzs, _⟩ := hT e ei hE
    have hv : ev x = .slice none 0 0 := by have := he x; rw [hx] at this; exact this
    have hexec : ∀ v w', (Builtin.append_ #[t, u] o.type #[ev x, ev y]).run P w = .ok v w' → (execOp ev o).run P w = .ok (.value v) w' := fun v w' h => by
      unfold execOp
      rw [ho]
      simp [resolve, invoke, builtin, h]
    have hnl := hsrc.num
    simp only [appNilA, setAllH_nil, newAll]
    by_cases hm : m = 0
    · subst hm
      have hne2 : news = [] := List.eq_nil_of_length_eq_zero (by simpa using hnl)
      subst hne2
      have hrun : (Builtin.append_ #[t, u] o.type #[ev x, ev y]).run P w = .ok (.slice none 0 0) w := by
        obtain ⟨d, hdd, hnn⟩ := hsrc.ty
        have hnz : (match d with | .int _ => true | _ => false) = false := by cases d <;> first | rfl | exact (hnn _ rfl).elim
        unfold Builtin.append_
        simp only [List.getElem?_toArray, List.getElem?_cons_zero, List.getElem?_cons_succ, Sem.run_bind, run_underlying hut w, Result.andThen_ok, sizeOf, typeInfo, hv]
        have hc := hsrc.cells
        rw [← i2] at hc
        simp [i1, run_underlying hdd, hnz, hsrc.len, hc]
      refine StepOk.of_value (hexec _ _ hrun) ⟨r.add (fresh 0) none, Lc.add_le ((hh.dom _).2 hfresh) _, .inl ⟨Lc.add_same _ _ _, rfl, rfl, _, rfl⟩, ?_⟩
      refine hh.make hfresh _ _ rfl rfl rfl (Nat.le_refl _) (fun _ _ => rfl) (fun g c e => by cases e) fun _ => .inl ⟨rfl, ?_⟩
      have := hall.length
      simpa using this
    · have hrun := append_grow (P := P) (w := w) (u := u) (ty := o.type) (olds := []) hut i1 hzv (b := none) (n := 0) (c := 0) (v := ev y) (by rw [i2]; exact hsrc) rfl (by omega) (by rw [i3]; exact growslice_fits (by omega) (by rw [Nat.zero_add]; exact hby)) (by omega)
      rw [← hv] at hrun
      rw [Nat.zero_add] at hrun
      have hge' := grownCap_ge w m 0 e
      have hzc : ∀ k, (Builtin.zeroCells zv.cells k).size = k * ei.size := fun k => by rw [size_zeroCells, hzs]
      refine StepOk.of_value (hexec _ _ hrun) ⟨r.add (fresh 0) (some ((w.heap.size, none), grownCap w m 0 e)), Lc.add_le ((hh.dom _).2 hfresh) _, .inr ⟨(w.heap.size, none), grownCap w m 0 e, 0, Lc.add_same _ _ _, by omega, fun _ => by simp, rfl⟩, ?_⟩
      refine hh.drew.make hfresh _ _ rfl rfl rfl (by simp) (fun b hb => Below.heap_alloc w.drew _ b hb) (fun g c e => by injection e with e; injection e with e1 e2; subst e1; exact ⟨Nat.le_refl _, rfl⟩) fun _ => .inr ⟨_, _, _, rfl, rowAt_alloc w.drew _ e, ?_, ?_⟩
      · rw [hstr]
        simp only [Array.size_append, List.size_toArray, hzc, hnl, List.length_nil, Nat.zero_add, ← Nat.add_mul]
        exact Nat.mul_le_mul_right _ (by omega)
      · have := holds_grown (xs := []) (a := []) (r := r) trivial hall (Builtin.zeroCells zv.cells (grownCap w m 0 e - m))
        exact this.le (Lc.add_le ((hh.dom _).2 hfresh) _)
end
/-- copy: what is written, and how many members. -/
def copyObj (a b : SObj) (k n : Nat) (m : Nat) : Option SObj :=
  match a, b with
  | .arr α L l, .arr _ M s => if L.st = M.st then match L.ofB, M.toB with
    | some f, some g => some (.arr α L (l.take k ++ (s.take (min m n)).map (fun x => f (g x)) ++ l.drop (k + min m n)))
    | _, _ => none else none
  | .cells st xs, .arr _ M s => if st = M.st then some (.cells st (xs.take (k * st) ++ (s.flatMap M.enc).take (min m n * st) ++ xs.drop ((k + min m n) * st))) else none
  | _, _ => none
theorem copyObj_flat {a b o : SObj} {k n m : Nat} (h : copyObj a b k n m = some o) : a.live = true ∧ o.live = true ∧ o.stride = a.stride ∧ b.stride = a.stride ∧
    (k + n ≤ a.flat.length / a.stride → o.flat = a.flat.take (k * a.stride) ++ (b.flat.take (min m n * a.stride)) ++ a.flat.drop ((k + min m n) * a.stride)) := by
  unfold copyObj at h
  split at h
  · split at h
    · rename_i hs
      split at h
      · rename_i f g hf hg
        injection h with h; subst h
        refine ⟨rfl, rfl, rfl, hs.symm, fun _ => ?_⟩
        rename_i α L l β M s
        have hd : ∀ {α : Type} (L : Lay α) (k : Nat) (m : List α), (m.drop k).flatMap L.enc = (m.flatMap L.enc).drop (k * L.st) := fun L k => by
          induction k with
          | zero => intro m; simp
          | succ k ih =>
            intro m
            cases m with
            | nil => simp
            | cons x m => rw [List.drop_succ_cons, ih, List.flatMap_cons, drop_enc L x _ _ (by rw [Nat.add_mul]; omega), Nat.add_mul, Nat.one_mul, Nat.add_sub_cancel]
        have ht : ∀ {α : Type} (L : Lay α) (n : Nat) (m : List α), (m.take n).flatMap L.enc = (m.flatMap L.enc).take (n * L.st) := fun L n => by
          induction n with
          | zero => intro m; simp
          | succ n ih =>
            intro m
            cases m with
            | nil => simp
            | cons x m => rw [List.take_succ_cons, List.flatMap_cons, ih, List.flatMap_cons, take_enc L x _ _ (by rw [Nat.add_mul]; omega), Nat.add_mul, Nat.one_mul, Nat.add_sub_cancel]
        simp only [SObj.flat, SObj.stride, List.flatMap_append]
        rw [map_flat _ _ hf hg, ht, ht, hd, hs]
      · cases h
    · cases h
  · split at h
    · rename_i hs
      injection h with h; subst h
      refine ⟨rfl, rfl, rfl, hs.symm, fun _ => rfl⟩
    · cases h
  · cases h
def copyA (ei : TyI) (y : SV) (id k n : Nat) (fy : List Nat) : Actn := ⟨id :: fy, true, fun es _ => match es with
  | e :: es' => if e.wr then match srcO y es' with
    | some (so, m, ob) => match copyObj e.o so k n m with
      | some o => some ⟨.c (.one (.num ((min m n : Nat) : Int))), [o], [], (0 < ei.size ∧ e.o.stride = ei.size ∧ (k + n) * ei.size ≤ e.o.flat.length) :: plainO so :: ob⟩
      | none => none
    | none => none
    else none
  | [] => none⟩
section
variable {P : Program} {G : List GFact} {T : Nat → Option TyI} {o : Oper} {sv : Operand → SV} {ev : Operand → Value} {r : Lc}
theorem firstCells_take {P : Program} {w : World} {size m n : Nat} {v : Value} {news : List Value} {u : TypeId} (hs : Src P u size w v m news) (hform : (∃ a c, v = .slice a m c) ∨ ∃ s, v = .string s ∧ size = 1) (hn : n ≤ m) :
    (Builtin.firstCells size n v).run P w = .ok (news.take (n * size)).toArray w := by
  have hl := hs.num
  rcases hform with ⟨a, c, rfl⟩ | ⟨s, rfl, rfl⟩
  · cases a with
    | none =>
      have h := hs.cells
      simp [Builtin.firstCells] at h
      subst h
      simp [Builtin.firstCells]
    | some a =>
      have h := hs.cells
      have hb : n * size ≤ m * size := Nat.mul_le_mul_right _ hn
      simp only [Builtin.firstCells, loadCells] at h ⊢
      have key : ∀ (q p i : Nat) (acc res : Array Value), (loadCellsFrom a i (q + p) acc).run P w = .ok res w → (loadCellsFrom a i q acc).run P w = .ok (res.extract 0 (acc.size + q)) w := by
        intro q
        induction q with
        | zero =>
          intro p
          induction p with
          | zero => intro i acc res h; simp [loadCellsFrom] at h ⊢; subst h; simp
          | succ p ih =>
            intro i acc res h
            rw [show 0 + (p + 1) = (0 + p) + 1 by omega] at h
            simp only [loadCellsFrom, Sem.run_bind] at h
            cases hq : (load (a.add i)).run P w with
            | halt x w' => rw [hq] at h; simp [Result.andThen] at h
            | ok v w' =>
              have hw : w' = w := by
                rw [run_load] at hq
                split at hq
                · injection hq with _ h2; exact h2.symm
                · split at hq
                  · injection hq with _ h2; exact h2.symm
                  · cases hq
              subst hw
              rw [hq] at h
              simp only [Result.andThen_ok] at h
              have := ih (i + 1) (acc.push v) res h
              simp only [loadCellsFrom, Sem.run_pure, Result.ok.injEq] at this ⊢
              refine ⟨?_, trivial⟩
              have e1 := this.1
              have e2 := congrArg Array.size e1
              simp at e2
              have : acc = (acc.push v).extract 0 acc.size := by simp
              rw [this, e1]
              simp [Array.extract_extract]
              rw [Nat.min_eq_left (by omega)]
        | succ q ih =>
          intro p i acc res h
          rw [show q + 1 + p = (q + p) + 1 by omega] at h
          simp only [loadCellsFrom, Sem.run_bind] at h ⊢
          cases hq : (load (a.add i)).run P w with
          | halt x w' => rw [hq] at h; simp [Result.andThen] at h
          | ok v w' =>
            have hw : w' = w := by
              rw [run_load] at hq
              split at hq
              · injection hq with _ h2; exact h2.symm
              · split at hq
                · injection hq with _ h2; exact h2.symm
                · cases hq
            subst hw
            rw [hq] at h
            simp only [Result.andThen_ok] at h ⊢
            have := ih p (i + 1) (acc.push v) res h
            rw [this]
            simp [Nat.add_assoc, Nat.add_comm 1 q]
      obtain ⟨p, hp⟩ : ∃ p, m * size = n * size + p := ⟨m * size - n * size, by omega⟩
      rw [hp] at h
      have := key (n * size) p 0 #[] _ h
      rw [this]
      simp [List.extract_eq_take_drop]
  · have h := hs.cells
    have hlen := hs.len w
    simp [Builtin.lenOf] at hlen
    simp only [Builtin.firstCells, Sem.run_pure, Result.ok.injEq, and_true] at h ⊢
    apply Array.ext'
    have h2 := congrArg Array.toList h
    simp only [ByteArray.data_extract, Array.toList_map, Array.toList_extract, List.extract_eq_take_drop, List.drop_zero, Nat.sub_zero] at h2 ⊢
    simp only [Nat.mul_one]
    rw [← h2, ← List.map_take, List.take_take, Nat.min_eq_left hn]
theorem src_form {C : Ctx} {hp : List (Nat × Ent)} {w : World} (hT : TyOk P T) {y : SV} {v : Value} (hy : y.rel r v) {z : Nat} {fy : List Nat} (hf : srcF z y = some fy) {es : List Ent} {so : SObj} {m : Nat} {ob : List Prop} (hg : getAll hp fy = some es)
    (hs : srcO y es = some (so, m, ob)) : (∃ a c, v = .slice a m c) ∨ ∃ s, v = .string s ∧ z = 1 := by
  unfold srcF at hf
  split at hf
  · split at hf
    · injection hf with hf
      subst hf
      obtain ⟨e, _, rfl⟩ := getAll_one hg
      simp only [srcO, Option.some.injEq, Prod.mk.injEq] at hs
      obtain ⟨_, rfl, _⟩ := hs
      rcases hy with ⟨_, _, hn0, av, hv⟩ | ⟨g, c, off, _, _, _, hv⟩
      · subst hn0; exact .inl ⟨_, _, hv⟩
      · exact .inl ⟨_, _, hv⟩
    · cases hf
  · split at hf
    · rename_i hz; exact .inr ⟨_, hy, hz⟩
    · cases hf
  · cases hf
theorem actOk_copy (hT : TyOk P T) (he : EvOk r sv ev) {x y : Operand} {t u : TypeId} (ho : o.op = .call { callee := .builtin .copy, args := #[x, y], argTypes := #[t, u] }) {ti ei ui : TyI} (ht : T t = some ti) {e : TypeId} (hd : ti.d = .slice e) (hE : T e = some ei) (hu : T u = some ui)
    (hud : ui.d = .string ∨ ∃ e, ui.d = .slice e) (hmat : (∃ s, sv y = .c (.one (.str s))) → ui.d = .string) (hmat2 : (∀ s, sv y ≠ .c (.one (.str s))) → ∃ e, ui.d = .slice e)
    {id k n : Nat} (hx : sv x = .c (.one (.sl id k ei.size n))) {fy : List Nat} (hf : srcF ei.size (sv y) = some fy) : ActOk P G o ev r (copyA ei (sv y) id k n fy) := by
  intro C hp w es fresh R hh hg hr hob hfr _ hsub
  have hg : getAll hp (id :: fy) = some es := hg
  simp only [getAll] at hg
  cases hid : aget hp id with
  | none => rw [hid] at hg; cases hg
  | some en =>
    rw [hid] at hg
    cases hge : getAll hp fy with
    | none => simp only [hge] at hg; cases hg
    | some es' =>
      simp only [hge, Option.some.injEq] at hg
      subst hg
      simp only [copyA] at hr
      by_cases hwr : en.wr = true
      case neg => rw [if_neg hwr] at hr; cases hr
      rw [if_pos hwr] at hr
      cases hso : srcO (sv y) es' with
      | none => rw [hso] at hr; cases hr
      | some q =>
        obtain ⟨so, m, ob⟩ := q
        simp only [hso] at hr
        cases hca : copyObj en.o so k n m with
        | none => rw [hca] at hr; cases hr
        | some o' =>
          simp only [hca, Option.some.injEq] at hr
          subst hr
          obtain ⟨⟨hp0, hstr, hlen⟩, hpl, hob⟩ := hob
          obtain ⟨hl, hl', hs1, hs2, hfl⟩ := copyObj_flat hca
          rw [hstr] at hs1 hs2 hfl
          have hfl := hfl (by rw [Nat.le_div_iff_mul_le hp0]; exact hlen)
          obtain ⟨_, hsl, news, hsrc, hall⟩ := src_of (P := P) hT hh (he y) hf hge hso hob hs2 hu hud hmat hmat2
          have hfm := src_form (C := C) (w := w) (P := P) hT (he y) hf hge hso
          obtain ⟨hut, _⟩ := hT t ti ht
          rw [hd] at hut
          obtain ⟨_, nf, i1, i2, i3, zv, hzv, _, hzs, _⟩ := hT e ei hE
          have hx' := he x
          rw [hx] at hx'
          have hcells := firstCells_take hsrc hfm (Nat.min_le_left m n)
          have hnl := hsrc.num
          have hml : min m n * ei.size ≤ m * ei.size := Nat.mul_le_mul_right _ (Nat.min_le_left _ _)
          have hnn : min m n * ei.size ≤ n * ei.size := Nat.mul_le_mul_right _ (Nat.min_le_right _ _)
          have htl : (news.take (min m n * ei.size)).length = min m n * ei.size := by rw [List.length_take]; omega
          have hall' := hall.take (min m n * ei.size)
          have hone := fun v hv => All2.plain (plainO_flat hpl) hall v (List.mem_of_mem_take (i := min m n * ei.size) hv)
          have hexec : ∀ v w', (Builtin.copy_ #[t, u] o.type #[ev x, ev y]).run P w = .ok v w' → (execOp ev o).run P w = .ok (.value v) w' := fun v w' h => by
            unfold execOp
            rw [ho]
            simp [resolve, invoke, builtin, h]
          simp only [copyA, setAllH, setAllH_nil, newAll]
          rcases hx' with ⟨hid', hk0, hn0, av, hv⟩ | ⟨⟨g, z⟩, c, off, hrid, hkn, hoff, hv⟩
          · subst hn0; subst hk0
            have hrun : (Builtin.copy_ #[t, u] o.type #[ev x, ev y]).run P w = .ok (.int .i64 ((min m 0 : Nat) : Int)) w := by
              unfold Builtin.copy_
              simp only [List.getElem?_toArray, List.getElem?_cons_zero, List.getElem?_cons_succ, Sem.run_bind, run_underlying hut w, Result.andThen_ok, sizeOf, typeInfo, hv]
              simp only [Nat.min_zero, Nat.zero_mul] at hcells ⊢
              cases av <;> simp [i1, i2, hsrc.len, hcells, goInt, storeCells]
            refine StepOk.of_value (hexec _ _ hrun) ⟨r, r.le_refl, rfl, ?_⟩
            have hfe : o'.flat = en.o.flat := by
              rw [hfl]; simp
            have hob' := hh.obj id en _ hid hid' hl
            rcases hob' with ⟨_, h0⟩ | ⟨g, c, cs, hpp, _⟩
            · exact {
                dom := fun k => by
                  rw [aget_aset]
                  by_cases e' : id = k
                  · subst e'; simp [hid']
                  · rw [if_neg e']; exact hh.dom k
                obj := fun k f q hf' hq => by
                  rw [aget_aset] at hf'
                  by_cases e' : id = k
                  · subst e'
                    rw [if_pos rfl] at hf'
                    cases hf'
                    rw [hid'] at hq
                    cases hq
                    exact fun _ => .inl ⟨rfl, by rw [hfe]; exact h0⟩
                  · rw [if_neg e'] at hf'
                    exact hh.obj k f q hf' hq
                inj := fun i j e1 f1 g1 g2 c1 d1 hi hj li lj ri rj wi hg => by
                  rw [aget_aset] at hi hj
                  by_cases ei' : id = i
                  · subst ei'; rw [hid'] at ri; cases ri
                  · by_cases ej : id = j
                    · subst ej; rw [hid'] at rj; cases rj
                    · rw [if_neg ei'] at hi
                      rw [if_neg ej] at hj
                      exact hh.inj i j e1 f1 g1 g2 c1 d1 hi hj li lj ri rj wi hg
                own := fun k f g' c' hf' hlf hwf hq => by
                  rw [aget_aset] at hf'
                  by_cases e' : id = k
                  · subst e'; rw [hid'] at hq; cases hq
                  · rw [if_neg e'] at hf'
                    exact hh.own k f g' c' hf' hlf hwf hq
                os := hh.os
                tape := hh.tape
                glob := hh.glob
                output := hh.output
                size := hh.size
                same := hh.same }
            · cases hpp
          · obtain rfl : z = none := (hh.own id en _ _ hid hl hwr hrid).1
            have hoff : k < c → off = k * ei.size := hoff
            obtain ⟨cs, hrow, hcap, hholds⟩ := hh.row hid hl hrid
            have hbd := hholds.bound
            have hkn' : k * ei.size + n * ei.size ≤ en.o.flat.length := by rw [← Nat.add_mul]; exact hlen
            by_cases hkc : k < c
            · have hth : ∀ j, j < (news.take (min m n * ei.size)).length → k * ei.size + j < cs.size := fun j hj => by rw [htl] at hj; omega
              have hst := run_storeCells_cells (P := P) g (k * ei.size) (news.take (min m n * ei.size)) 0 w (fun j hj => by
                rw [Nat.add_zero, hrow.cell0, Array.getElem?_eq_getElem (hth j hj)]; rfl) (fun j hj => by rw [Nat.add_zero]; exact hrow.free _ (hth j hj)) hone
              simp only [Nat.add_zero] at hst
              have hrun : (Builtin.copy_ #[t, u] o.type #[ev x, ev y]).run P w = .ok (.int .i64 ((min m n : Nat) : Int)) (w.setCells g (k * ei.size) (news.take (min m n * ei.size))) := by
                unfold Builtin.copy_
                have hmm : Nat.min m n = min m n := rfl
                simp only [List.getElem?_toArray, List.getElem?_cons_zero, List.getElem?_cons_succ, Sem.run_bind, run_underlying hut w, Result.andThen_ok, hv, hoff hkc, hsrc.len, run_size hT hE w, hmm, hcells, hst, Sem.run_pure, goInt]
              obtain ⟨s1, s2, s3, s4, s5⟩ := setCells_same g (news.take (min m n * ei.size)) w (k * ei.size)
              refine StepOk.of_value (hexec _ _ hrun) ⟨r, r.le_refl, rfl, ?_⟩
              refine hh.turn hid hl hwr hrid o' s1 s2 s3 (by rw [s4]; exact Nat.le_refl _) (fun b _ hb => s5 b hb) fun _ => .inr ⟨(g, none), c, putCells cs (k * ei.size) (news.take (min m n * ei.size)), rfl, hrow.puts _ _ _ _, ?_, ?_⟩
              · rw [hs1, putCells_size, ← hstr]; exact hcap
              · have hyl : (so.flat.take (min m n * ei.size)).length = min m n * ei.size := by rw [List.length_take]; omega
                have := hholds.splice (o := k * ei.size) (ys := so.flat.take (min m n * ei.size)) (us := news.take (min m n * ei.size)) (by omega) hall' (by omega)
                rw [hyl, ← Nat.add_mul] at this
                rw [hfl]
                exact this
            · have hn0 : n = 0 := by omega
              subst hn0
              simp only [Nat.min_zero, Nat.zero_mul, List.take_zero] at hcells hfl
              have hrun : (Builtin.copy_ #[t, u] o.type #[ev x, ev y]).run P w = .ok (.int .i64 ((min m 0 : Nat) : Int)) w := by
                unfold Builtin.copy_
                simp only [List.getElem?_toArray, List.getElem?_cons_zero, List.getElem?_cons_succ, Sem.run_bind, run_underlying hut w, Result.andThen_ok, sizeOf, typeInfo, hv]
                simp [i1, i2, hsrc.len, hcells, goInt, storeCells]
              refine StepOk.of_value (hexec _ _ hrun) ⟨r, r.le_refl, rfl, ?_⟩
              have hfe : o'.flat = en.o.flat := by rw [hfl, Nat.add_zero]; simp
              refine hh.turn hid hl hwr hrid o' rfl rfl rfl (Nat.le_refl _) (fun _ _ _ => rfl) fun _ => .inr ⟨(g, none), c, cs, rfl, hrow, ?_, by rw [hfe]; exact hholds⟩
              rw [hs1, ← hstr]; exact hcap
end
end Go.Proofs.YtdkogjjebbdngaaDoor
