/-
  A walk by reckoning, part 10: append. It speaks of no program.
-/
import Derived.Test.YtdkogjjebbdngaaDoorSg
namespace Go.Proofs.YtdkogjjebbdngaaDoor
open Go Go.RowKit
set_option linter.unusedVariables false
set_option linter.unusedSimpArgs false

/-- What is appended: so many members, these cells. -/
structure Src (P : Program) (u : TypeId) (size : Nat) (w : World) (v : Value) (m : Nat) (news : List Value) : Prop where
  ty : ∃ d, P.underlying u = some d ∧ ∀ k, d ≠ .int k
  len : ∀ w', (Builtin.lenOf v).run P w' = .ok m w'
  num : news.length = m * size
  cells : (Builtin.firstCells size m v).run P w = .ok news.toArray w
  drew : (Builtin.firstCells size m v).run P w.drew = .ok news.toArray w.drew
section
variable {P : Program} {G : List GFact} {w : World}
theorem src_slice {t e : TypeId} (ht : P.underlying t = some (.slice e)) {size m : Nat} {a : Addr} {c : Nat} {news : List Value} (hl : news.length = m * size) (hc : ∀ j v, news[j]? = some v → w.cell? (a.add j) = some v) : Src P t size w (.slice (some a) m c) m news where
  ty := ⟨_, ht, fun k h => by cases h⟩
  len w' := rfl
  num := hl
  cells := run_firstCells_some (P := P) w size m a m c news hl hc
  drew := run_firstCells_some (P := P) w.drew size m a m c news hl hc
theorem src_nil {t e : TypeId} (ht : P.underlying t = some (.slice e)) {size c : Nat} {a : Option Addr} : Src P t size w (.slice a 0 c) 0 [] := by
  cases a with
  | none => exact {
    ty := ⟨_, ht, fun k h => by cases h⟩
    len := fun w' => rfl
    num := by simp
    cells := rfl
    drew := rfl }
  | some a => exact src_slice ht (by simp) fun j v h => by simp at h
theorem src_str {t : TypeId} (ht : P.underlying t = some .string) (l : List UInt8) : Src P t 1 w (.string ⟨l.toArray⟩) l.length (l.map fun b => .int .u8 (b.toNat : Int)) where
  ty := ⟨_, ht, fun k h => by cases h⟩
  len w' := rfl
  num := by simp
  cells := by simp [Builtin.firstCells, ByteArray.data_extract]
  drew := by simp [Builtin.firstCells, ByteArray.data_extract]
theorem append_room {t u ty e : TypeId} {i : TypeInfo} (ht : P.underlying t = some (.slice e)) (hi : P.info? e = some i) {g n c m : Nat} {v : Value} {news : List Value} (hs : Src P u i.size w v m news)
    (hroom : n + m ≤ c) (hth : w.there g (n * i.size) news.length) (h1 : ∀ x ∈ news, x.oneCell' = true) :
    (Builtin.append_ #[t, u] ty #[.slice (some ⟨g, 0, none⟩) n c, v]).run P w = .ok (.slice (some ⟨g, 0, none⟩) (n + m) c) (w.setCells g (n * i.size) news) := by
  have hst := run_storeCells_cells (P := P) g (n * i.size) news 0 w (fun j hj => by simpa using (hth j hj).1) (fun j hj => by simpa using (hth j hj).2) h1
  simp only [Nat.add_zero] at hst
  obtain ⟨d, hd, hn⟩ := hs.ty
  have hnz : (match d with | .int _ => true | _ => false) = false := by cases d <;> first | rfl | exact (hn _ rfl).elim
  unfold Builtin.append_
  simp only [List.getElem?_toArray, List.getElem?_cons_zero, List.getElem?_cons_succ, Sem.run_bind, run_underlying ht w, Result.andThen_ok, sizeOf, typeInfo]
  simp [hi, run_underlying hd, hnz, hs.len, hroom, hs.cells, Addr.add_plain, hst]
theorem append_grow {t u ty e : TypeId} {i : TypeInfo} {z : Value} (ht : P.underlying t = some (.slice e)) (hi : P.info? e = some i) (hz : i.zero = some z) {b : Option Addr} {n c m : Nat} {v : Value} {news olds : List Value} (hs : Src P u i.size w v m news)
    (hold : (Builtin.firstCells i.size n (.slice b n c)).run P w.drew = .ok olds.toArray w.drew) (hroom : c < n + m) (hfit : Builtin.nextslicecap (n + m) c * i.bytes ≤ 281474976710656) (h63 : n + m ≤ 9223372036854775807) :
    (Builtin.append_ #[t, u] ty #[.slice b n c, v]).run P w = .ok (.slice (some ⟨w.heap.size, 0, none⟩) (n + m) (grownCap w (n + m) c e))
      (w.drew.alloc (.cells (olds.toArray ++ news.toArray ++ Builtin.zeroCells z.cells (grownCap w (n + m) c e - (n + m))) e)) := by
  obtain ⟨d, hd, hn⟩ := hs.ty
  have hnz : (match d with | .int _ => true | _ => false) = false := by cases d <;> first | rfl | exact (hn _ rfl).elim
  have hno : ¬ (n + m ≤ c) := by omega
  have h63' : ¬ (9223372036854775807 < ((n : Int) + (m : Int))) := by omega
  have h48' : ¬ (281474976710656 < Builtin.nextslicecap (n + m) c * i.bytes) := by omega
  unfold Builtin.append_
  simp only [List.getElem?_toArray, List.getElem?_cons_zero, List.getElem?_cons_succ, Sem.run_bind, run_underlying ht w, Result.andThen_ok, sizeOf, typeInfo]
  simp [hi, run_underlying hd, hnz, hs.len, hno, h63', h48', Question.forced, hold, hs.drew, hz, zeroValue, typeInfo, newRow, grownCap]
  congr 2
  apply Array.ext'
  simp
end
def wholeP (o : SObj) (n : Nat) : Prop := match o with
  | .cells s xs => xs.length = n * s
  | .arr _ _ l => l.length = n
  | .dead => False
theorem wholeP_flat {o : SObj} {n : Nat} (h : wholeP o n) : o.live = true ∧ o.flat.length = n * o.stride := by
  cases o with
  | cells s xs => exact ⟨rfl, h⟩
  | dead => exact h.elim
  | arr α L l => exact ⟨rfl, by show (l.flatMap L.enc).length = n * L.st; rw [flat_length, show l.length = n from h]⟩
def plainO : SObj → Prop
  | .cells _ xs => PlainL xs
  | _ => True
theorem plainO_flat {o : SObj} (h : plainO o) : PlainL o.flat := by
  cases o with
  | cells s xs => exact h
  | dead => intro y hy; cases hy
  | arr α L l =>
    intro y hy
    obtain ⟨x, _, hx⟩ := List.mem_flatMap.1 hy
    exact L.plain x y hx
/-- What is to be appended: the objects that it lies in; it, how many members, and what it owes. -/
def srcF (z : Nat) : SV → Option (List Nat)
  | .c (.one (.sl id _ st _)) => if st = z then some [id] else none
  | .c (.one (.str _)) => if z = 1 then some [] else none
  | _ => none
def srcO : SV → List Ent → Option (SObj × Nat × List Prop)
  | .c (.one (.sl _ k _ m)), [e] => some ((subObj e.o k m).1, m, (subObj e.o k m).2)
  | .c (.one (.str s)), [] => some (.arr UInt8 u8L s, s.length, [])
  | _, _ => none
def appA (ei : TyI) (y : SV) (id n : Nat) (fy : List Nat) : Actn := ⟨id :: fy, true, fun es fresh => match es with
  | e :: es' => if e.wr then match srcO y es' with
    | some (so, m, ob) => match catObj e.o so with
      | some o => some ⟨.c (.one (.sl (fresh 0) 0 ei.size (n + m))), [.dead], [o], wholeP e.o n :: (e.o.stride = ei.size) :: plainO so :: ((n + m) * ei.bytes ≤ 140737488355328) :: (n + m ≤ 9223372036854775807) :: ob⟩
      | none => none
    | none => none
    else none
  | [] => none⟩
def appNilA (ei : TyI) (y : SV) (fy : List Nat) : Actn := ⟨fy, false, fun es fresh => match srcO y es with
    | some (so, m, ob) => some ⟨.c (.one (.sl (fresh 0) 0 ei.size m)), [], [so], (so.stride = ei.size) :: so.live :: (m * ei.bytes ≤ 140737488355328) :: (m ≤ 9223372036854775807) :: ob⟩
    | none => none⟩
theorem setAllH_nil (hp : List (Nat × Ent)) (l : List Nat) : setAllH hp l [] = hp := by cases l <;> rfl
theorem getAll_mem {hp : List (Nat × Ent)} : ∀ {l : List Nat} {es : List Ent}, getAll hp l = some es → l.length = es.length
  | [], es, h => by simp only [getAll, Option.some.injEq] at h; subst h; rfl
  | i :: l, es, h => by
    simp only [getAll] at h
    cases he : aget hp i with
    | none => rw [he] at h; cases h
    | some e =>
      rw [he] at h
      cases hr : getAll hp l with
      | none => simp only [hr] at h; cases h
      | some r =>
        simp only [hr, Option.some.injEq] at h
        subst h
        simp [getAll_mem hr]
section
variable {P : Program} {G : List GFact} {T : Nat → Option TyI} {o : Oper} {sv : Operand → SV} {ev : Operand → Value} {r : Lc}
/-- The cells to be appended. -/
theorem src_of {C : Ctx} {hp : List (Nat × Ent)} {w : World} (hT : TyOk P T) (hh : HeapOk C r hp w) {y : SV} {v : Value} (hy : y.rel r v) {z : Nat} {fy : List Nat} (hf : srcF z y = some fy) {es : List Ent} (hg : getAll hp fy = some es) {so : SObj} {m : Nat} {ob : List Prop}
    (hs : srcO y es = some (so, m, ob)) (hob : AllT ob) (hst : so.stride = z) {u : TypeId} {ui : TyI} (hu : T u = some ui) (hud : ui.d = .string ∨ ∃ e, ui.d = .slice e) (hmat : (∃ s, y = .c (.one (.str s))) → ui.d = .string) (hmat2 : (∀ s, y ≠ .c (.one (.str s))) → ∃ e, ui.d = .slice e) :
    so.live = true ∧ so.flat.length = m * z ∧ ∃ news, Src P u z w v m news ∧ All2 (AV.rel r) so.flat news := by
  unfold srcF at hf
  split at hf
  · rename_i id k st n
    split at hf
    · rename_i hz
      injection hf with hf
      subst hf; subst hz
      obtain ⟨e, hid, rfl⟩ := getAll_one hg
      simp only [srcO, Option.some.injEq, Prod.mk.injEq] at hs
      obtain ⟨rfl, rfl, rfl⟩ := hs
      obtain ⟨hl, hl2, hss, hlen, hfl⟩ := subObj_flat hob
      rw [hss] at hst
      rw [hst] at hlen hfl
      obtain ⟨e', he'⟩ := hmat2 (fun s h => by cases h)
      have hut : P.underlying u = some (.slice e') := by rw [(hT u ui hu).1, he']
      refine ⟨hl2, by rw [hfl, List.length_take, List.length_drop]; omega, ?_⟩
      rcases hy with ⟨hid', hk0, hn0, av, hv⟩ | ⟨g, c, off, hrid, hkn, hoff, hv⟩
      · subst hk0; subst hn0; subst hv
        exact ⟨[], src_nil hut, by rw [hfl]; simp [All2]⟩
      · obtain ⟨cs, hrow, hcap, hholds⟩ := hh.row hid hl hrid
        obtain ⟨us, hul, hus, hall⟩ := hholds.slice hlen
        subst hv
        refine ⟨us, src_slice hut hul (fun j x hx => ?_), by rw [hfl]; exact hall⟩
        rw [Addr.add_plain]
        by_cases hkc : k < c
        · rw [hoff hkc, Nat.add_right_comm, hrow.cell]; exact hus j x hx
        · have : n = 0 := by omega
          subst this
          have : us = [] := List.eq_nil_of_length_eq_zero (by rw [hul]; simp)
          subst this
          simp at hx
    · cases hf
  · rename_i s
    split at hf
    · rename_i hz
      injection hf with hf
      subst hf; subst hz
      simp only [getAll, Option.some.injEq] at hg
      subst hg
      simp only [srcO, Option.some.injEq, Prod.mk.injEq] at hs
      obtain ⟨rfl, rfl, rfl⟩ := hs
      have hv : v = .string ⟨s.toArray⟩ := hy
      subst hv
      have hus : P.underlying u = some .string := by rw [(hT u ui hu).1, hmat ⟨s, rfl⟩]
      refine ⟨rfl, by show (s.flatMap u8L.enc).length = _; rw [flat_length]; rfl, _, src_str hus s, ?_⟩
      show All2 (AV.rel r) (s.flatMap u8L.enc) _
      rw [u8_flat]
      exact All2.map fun c _ => rfl
    · cases hf
  · cases hf
/-- The cells of a new row: what was, what is new, noughts. -/
theorem holds_grown {r : Lc} {xs ys : List AV} {a b : List Value} (h1 : All2 (AV.rel r) xs a) (h2 : All2 (AV.rel r) ys b) (z : Array Value) : Holds r (xs ++ ys) (a.toArray ++ b.toArray ++ z) := fun j x hx => by
  obtain ⟨u, hu, hr⟩ := (h1.append h2).get j x hx
  refine ⟨u, ?_, hr⟩
  have hlt := (List.getElem?_eq_some_iff.1 hu).1
  rw [Array.getElem?_append_left (by simpa using hlt)]
  simpa using hu
theorem actOk_append (hT : TyOk P T) (he : EvOk r sv ev) {x y : Operand} {t u : TypeId} (ho : o.op = .call { callee := .builtin .append, args := #[x, y], argTypes := #[t, u] }) {ti ei ui : TyI} (ht : T t = some ti) {e : TypeId} (hd : ti.d = .slice e) (hE : T e = some ei) (hu : T u = some ui)
    (hud : ui.d = .string ∨ ∃ e, ui.d = .slice e) (hmat : (∃ s, sv y = .c (.one (.str s))) → ui.d = .string) (hmat2 : (∀ s, sv y ≠ .c (.one (.str s))) → ∃ e, ui.d = .slice e)
    {id n : Nat} (hx : sv x = .c (.one (.sl id 0 ei.size n))) {fy : List Nat} (hf : srcF ei.size (sv y) = some fy) : ActOk P G o ev r (appA ei (sv y) id n fy) := by
  intro C hp w es fresh R hh hg hr hob hfr _ hsub
  have hg : getAll hp (id :: fy) = some es := hg
  simp only [getAll] at hg
  cases hid : aget hp id with
  | none => rw [hid] at hg; cases hg
  | some en =>
    rw [hid] at hg
    cases hge : getAll hp fy with
    | none => simp only [hge] at hg; cases hg
    | some es' =>
      simp only [hge, Option.some.injEq] at hg
      subst hg
      simp only [appA] at hr
      by_cases hwr : en.wr = true
      case neg => rw [if_neg hwr] at hr; cases hr
      rw [if_pos hwr] at hr
      cases hso : srcO (sv y) es' with
      | none => rw [hso] at hr; cases hr
      | some q =>
        obtain ⟨so, m, ob⟩ := q
        simp only [hso] at hr
        cases hca : catObj en.o so with
        | none => rw [hca] at hr; cases hr
        | some o' =>
          simp only [hca, Option.some.injEq] at hr
          subst hr
          obtain ⟨hwhole, hstr, hpl, hby, h63, hob⟩ := hob
          obtain ⟨hl, hfl⟩ := wholeP_flat hwhole
          obtain ⟨_, hlso, hlo, hso1, hso2, hof⟩ := catObj_flat hca
          obtain ⟨_, hsl, news, hsrc, hall⟩ := src_of (P := P) hT hh (he y) hf hge hso hob (by rw [hso2, hstr]) hu hud hmat hmat2
          have hone := All2.plain (plainO_flat hpl) hall
          have hfresh := hfr 0 (by simp)
          have hne : id ≠ fresh 0 := fun h => by rw [← h, hid] at hfresh; cases hfresh
          have hfk : aget (aset hp id ⟨.dead, true⟩) (fresh 0) = none := by rw [aget_other _ _ hne]; exact hfresh
          obtain ⟨hut, _⟩ := hT t ti ht
          rw [hd] at hut
          obtain ⟨_, nf, i1, i2, i3, zv, hzv, _, hzs, _⟩ := hT e ei hE
          rw [hstr] at hfl
          have hx' := he x
          rw [hx] at hx'
          have hexec : ∀ v w', (Builtin.append_ #[t, u] o.type #[ev x, ev y]).run P w = .ok v w' → (execOp ev o).run P w = .ok (.value v) w' := fun v w' h => by
            unfold execOp
            rw [ho]
            simp [resolve, invoke, builtin, h]
          have hzc : ∀ k, (Builtin.zeroCells zv.cells k).size = k * ei.size := fun k => by rw [size_zeroCells, hzs]
          have hnl := hsrc.num
          -- the growing arm
          have grow : ∀ (b : Option Addr) (c : Nat) (olds : List Value), ev x = .slice b n c → All2 (AV.rel r) en.o.flat olds → (Builtin.firstCells nf.size n (.slice b n c)).run P w.drew = .ok olds.toArray w.drew → c < n + m →
              StepOk P o ev w fun u w' => ∃ r', r.le r' ∧ (SV.c (.one (.sl (fresh 0) 0 ei.size (n + m)))).rel r' u ∧ HeapOk C r' (aset (aset hp id ⟨.dead, true⟩) (fresh 0) ⟨o', true⟩) w' := fun b c olds hvx hao hfc hlt => by
            have hrun := append_grow (P := P) (w := w) (u := u) (ty := o.type) hut i1 hzv (b := b) (c := c) (v := ev y) (by rw [i2]; exact hsrc) hfc hlt (by rw [i3]; exact growslice_fits hlt hby) h63
            rw [← hvx] at hrun
            have hge' := grownCap_ge w (n + m) c e
            have hk := hh.kill hid
            have hdr := hk.drew
            refine StepOk.of_value (hexec _ _ hrun) ⟨r.add (fresh 0) (some ((w.heap.size, none), grownCap w (n + m) c e)), Lc.add_le ((hk.dom _).2 hfk) _, .inr ⟨(w.heap.size, none), grownCap w (n + m) c e, 0, Lc.add_same _ _ _, by omega, fun _ => by simp, rfl⟩, ?_⟩
            refine hdr.make hfk _ _ rfl rfl rfl (by simp) (fun b hb => Below.heap_alloc w.drew _ b hb) (fun g c e => by injection e with e; injection e with e1 e2; subst e1; exact ⟨Nat.le_refl _, rfl⟩) fun _ => .inr ⟨_, _, _, rfl, rowAt_alloc w.drew _ e, ?_, ?_⟩
            · rw [hso1, hstr]
              have := hao.length
              simp only [Array.size_append, List.size_toArray, hzc, hnl, ← this, hfl, ← Nat.add_mul]
              exact Nat.mul_le_mul_right _ (by omega)
            · rw [hof]
              exact (holds_grown hao hall _).le (Lc.add_le ((hk.dom _).2 hfk) _)
          simp only [appA, setAllH, setAllH_nil, newAll]
          rcases hx' with ⟨hid', _, hn0, av, hv⟩ | ⟨⟨g, z⟩, c, off, hrid, hkn, hoff, hv⟩
          · subst hn0
            have hfe : en.o.flat = [] := List.eq_nil_of_length_eq_zero (by simpa using hfl)
            by_cases hm : m = 0
            · subst hm
              have hne2 : news = [] := List.eq_nil_of_length_eq_zero (by simpa using hnl)
              subst hne2
              have hrun : (Builtin.append_ #[t, u] o.type #[ev x, ev y]).run P w = .ok (.slice av 0 0) w := by
                obtain ⟨d, hdd, hnn⟩ := hsrc.ty
                have hnz : (match d with | .int _ => true | _ => false) = false := by cases d <;> first | rfl | exact (hnn _ rfl).elim
                unfold Builtin.append_
                simp only [List.getElem?_toArray, List.getElem?_cons_zero, List.getElem?_cons_succ, Sem.run_bind, run_underlying hut w, Result.andThen_ok, sizeOf, typeInfo, hv]
                have hc := hsrc.cells
                rw [← i2] at hc
                cases av <;> simp [i1, run_underlying hdd, hnz, hsrc.len, hc, storeCells]
              have hk := hh.kill hid
              refine StepOk.of_value (hexec _ _ hrun) ⟨r.add (fresh 0) none, Lc.add_le ((hk.dom _).2 hfk) _, .inl ⟨Lc.add_same _ _ _, rfl, rfl, _, rfl⟩, ?_⟩
              refine hk.make hfk _ _ rfl rfl rfl (Nat.le_refl _) (fun _ _ => rfl) (fun g c e => by cases e) fun _ => .inl ⟨rfl, ?_⟩
              rw [hof, hfe]
              have := hall.length
              simpa using this
            · refine grow av 0 [] hv (by rw [hfe]; trivial) (src_nil (w := w.drew) hut).cells (by omega)
          · obtain rfl : z = none := (hh.own id en _ _ hid hl hwr hrid).1
            have ho0 : 0 < c → off = 0 := fun h => by rw [hoff h]; simp
            obtain ⟨cs, hrow, hcap, hholds⟩ := hh.row hid hl hrid
            obtain ⟨us, hul, hus, hao⟩ := hholds.slice (o := 0) (z := n * ei.size) (by omega)
            rw [List.drop_zero, List.take_of_length_le (by omega)] at hao
            have hcs : c * ei.size ≤ cs.size := by rw [← hstr]; exact hcap
            simp only [Nat.sub_zero, Nat.zero_add] at hv hkn
            by_cases hroom : n + m ≤ c
            · rcases Nat.eq_zero_or_pos c with hc0 | hc0
              · -- nothing at all
                subst hc0
                have hn0 : n = 0 := by omega
                have hm0 : m = 0 := by omega
                subst hn0; subst hm0
                have hne2 : news = [] := List.eq_nil_of_length_eq_zero (by simpa using hnl)
                subst hne2
                have hrun : (Builtin.append_ #[t, u] o.type #[ev x, ev y]).run P w = .ok (.slice (some ⟨g, off, none⟩) 0 0) w := by
                  obtain ⟨d, hdd, hnn⟩ := hsrc.ty
                  have hnz : (match d with | .int _ => true | _ => false) = false := by cases d <;> first | rfl | exact (hnn _ rfl).elim
                  unfold Builtin.append_
                  simp only [List.getElem?_toArray, List.getElem?_cons_zero, List.getElem?_cons_succ, Sem.run_bind, run_underlying hut w, Result.andThen_ok, sizeOf, typeInfo, hv]
                  have hc := hsrc.cells
                  rw [← i2] at hc
                  simp [i1, run_underlying hdd, hnz, hsrc.len, hc, storeCells]
                refine StepOk.of_value (hexec _ _ hrun) ⟨r.add (fresh 0) (some ((g, none), 0)), Lc.add_le ((hh.dom _).2 hfresh) _, .inr ⟨(g, none), 0, off, Lc.add_same _ _ _, by omega, fun h => by omega, rfl⟩, ?_⟩
                refine hh.pass hid hl hwr hrid hfresh o' rfl rfl rfl (Nat.le_refl _) (fun _ _ _ => rfl) fun _ => .inr ⟨(g, none), 0, cs, rfl, hrow, by simp, ?_⟩
                have hfe : en.o.flat = [] := List.eq_nil_of_length_eq_zero (by simpa using hfl)
                have hse : so.flat = [] := List.eq_nil_of_length_eq_zero (by have := hall.length; simpa using this)
                rw [hof, hfe, hse]
                intro j q hq
                simp at hq
              · have := ho0 hc0
                subst this
                have hth : w.there g (n * nf.size) news.length := fun j hj => by
                  rw [i2]
                  have hlt : n * ei.size + j < cs.size := by
                    have h1 : n * ei.size + m * ei.size ≤ c * ei.size := by rw [← Nat.add_mul]; exact Nat.mul_le_mul_right _ hroom
                    omega
                  refine ⟨?_, hrow.free _ hlt⟩
                  rw [hrow.cell0, Array.getElem?_eq_getElem hlt]; rfl
                have hrun := append_room (P := P) (w := w) (u := u) (ty := o.type) hut i1 (g := g) (c := c) (v := ev y) (by rw [i2]; exact hsrc) hroom hth hone
                rw [← hv, i2] at hrun
                obtain ⟨s1, s2, s3, s4, s5⟩ := setCells_same g news w (n * ei.size)
                refine StepOk.of_value (hexec _ _ hrun) ⟨r.add (fresh 0) (some ((g, none), c)), Lc.add_le ((hh.dom _).2 hfresh) _, .inr ⟨(g, none), c, 0, Lc.add_same _ _ _, by omega, fun _ => by simp, rfl⟩, ?_⟩
                refine hh.pass hid hl hwr hrid hfresh o' s1 s2 s3 (by rw [s4]; exact Nat.le_refl _) (fun b _ hb => s5 b hb) fun _ => .inr ⟨(g, none), c, putCells cs (n * ei.size) news, rfl, hrow.puts _ _ _ _, ?_, ?_⟩
                · rw [hso1, putCells_size]; exact hcap
                · rw [hof]
                  have hb : n * ei.size + news.length ≤ cs.size := by
                    have h1 : n * ei.size + m * ei.size ≤ c * ei.size := by rw [← Nat.add_mul]; exact Nat.mul_le_mul_right _ hroom
                    omega
                  have hal := hall.length
                  intro j q hq
                  rw [putCells_get news cs (n * ei.size) j hb]
                  by_cases hj : j < en.o.flat.length
                  · rw [List.getElem?_append_left hj] at hq
                    rw [if_neg (by omega)]
                    exact hholds j q hq
                  · rw [List.getElem?_append_right (by omega)] at hq
                    have hj2 : j - en.o.flat.length < so.flat.length := (List.getElem?_eq_some_iff.1 hq).1
                    rw [if_pos (by omega)]
                    rw [hfl] at hq
                    exact hall.get _ _ hq
            · refine grow (some ⟨g, off, none⟩) c us hv hao ?_ (by omega)
              refine run_firstCells_some (P := P) w.drew nf.size n ⟨g, off, none⟩ n c us (by rw [i2]; exact hul) fun j q hq => ?_
              rw [Addr.add_plain]
              rcases Nat.eq_zero_or_pos c with hc0 | hc0
              · have hn0 : n = 0 := by omega
                subst hn0
                have : us = [] := List.eq_nil_of_length_eq_zero (by simpa using hul)
                subst this
                simp at hq
              · rw [ho0 hc0]
                have := hus j q hq
                rw [← hrow.cell0] at this
                exact this
/-- An array, whole, as a slice: the row lives on under a new number. -/
def sliceArrA (ei : TyI) (n id : Nat) : Actn := ⟨[id], true, fun es fresh => match es with
  | [⟨.cells s xs, true⟩] => if s = ei.size then if xs.length = n * ei.size then some ⟨.c (.one (.sl (fresh 0) 0 ei.size n)), [.dead], [.cells ei.size xs], []⟩ else none else none
  | _ => none⟩
theorem actOk_sliceArr (hT : TyOk P T) (he : EvOk r sv ev) {t : TypeId} {x : Operand} (ho : o.op = .slice t x none none none) {ti ei : TyI} (ht : T t = some ti) {e : TypeId} {len : Nat} (hd : ti.d = .array len e) (hE : T e = some ei) {id : Nat} (hx : sv x = .c (.one (.ptr id 0 0 0))) : ActOk P G o ev r (sliceArrA ei len id) := by
  intro C hp w es fresh R hh hg hr hob hfr _ hsub
  obtain ⟨en, hid, rfl⟩ := getAll_one hg
  simp only [sliceArrA] at hr
  split at hr
  · rename_i s xs heq
    simp only [List.cons.injEq, and_true] at heq
    subst heq
    split at hr
    · rename_i hs
      split at hr
      · rename_i hl
        injection hr with hr
        subst hr
        have hxr := he x
        rw [hx] at hxr
        obtain ⟨g, c, hrid, hv⟩ := hxr
        have hfresh := hfr 0 (by simp)
        have hun : (underlying t).run P w = .ok (.array len e) w := by rw [← hd]; exact run_ty hT ht w
        rcases hh.obj id _ _ hid hrid rfl with ⟨h1, _⟩ | ⟨g', c', cs, h1, hrow, hcs, hho⟩
        · cases h1
        · injection h1 with h1
          injection h1 with h1 h2
          subst h1
          have hrun : (execOp ev o).run P w = .ok (.value (.slice (some ⟨g.1, g.off, none⟩) len len)) w := by
            unfold execOp
            rw [ho]
            simp only [hv, Sem.run_bind, Instr.sliceAt, hun, Result.andThen_ok, Option.map_none, Instr.sureAddr, Instr.sliceBounds, Sem.run_pure, run_size hT hE w, Addr.add_plain, Nat.zero_mul, Nat.zero_add, Nat.add_zero, Nat.sub_zero, ite_self]
          refine StepOk.of_value hrun ⟨r.add (fresh 0) (some (g, len)), Lc.add_le ((hh.dom _).2 hfresh) _, .inr ⟨g, len, g.off, Lc.add_same _ _ _, by omega, fun _ => by simp, rfl⟩, ?_⟩
          simp only [setAllH, setAllH_nil, newAll]
          refine hh.pass hid rfl rfl hrid hfresh (.cells ei.size xs) rfl rfl rfl (Nat.le_refl _) (fun _ _ _ => rfl) fun _ => .inr ⟨g, len, cs, rfl, hrow, ?_, hho⟩
          show len * ei.size ≤ cs.size
          rw [← hl]
          rcases Nat.eq_zero_or_pos xs.length with h0 | h0
          · omega
          · have hho' : Holds r xs cs := hho
            obtain ⟨u, hu, _⟩ := hho' (xs.length - 1) (xs[xs.length - 1]'(by omega)) (List.getElem?_eq_getElem (by omega))
            have := (Array.getElem?_eq_some_iff.1 hu).1
            omega
      · cases hr
    · cases hr
  · cases hr
end
end Go.Proofs.YtdkogjjebbdngaaDoor
