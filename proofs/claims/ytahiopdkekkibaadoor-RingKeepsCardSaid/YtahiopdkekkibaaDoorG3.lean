/-
  Put together: St, Su, Gf, Rs, Shg, Rw, Ha, Hb, Hk, Hn, Hm, Kn, Kv, Ka, K5, Kw, Kx, Ky, Kc, Ks, Kd, Ke, He, Hf, Hg, Hj, Ho, Hq, Hp, Hs.
-/
import Derived.Test.YtahiopdkekkibaaDoorG1
import Derived.Test.YtahiopdkekkibaaDoorProg
import Derived.Lib.LaidTab
import Derived.Lib.AtoiErrMem
import Derived.Sort.Grow
import Derived.Lib.ItoaNum
import Derived.Lib.Itoa
import Derived.Shelf.Vars
import Derived.Shelf.Strings.Builder1
import Derived.Shelf.Strings.Builder2
import Derived.Shelf.Strings.Trim
import Derived.Shelf.Small.Utf8
import Derived.Shelf.Small.Strs
import Derived.Shelf.Strings.BuilderF
import Derived.Shelf.Strings.BuilderK
import Derived.Shelf.Strings.Search1
import Derived.Shelf.Strings.Prefix
import Derived.Shelf.Unicode.Decode
import Derived.Shelf.Strings.Runes
import Derived.Shelf.Strings.AsciiSet
import Derived.Shelf.Bits.Mul64
import Derived.Shelf.Strings.Repeat
import Derived.Shelf.Unicode.DecodeSlow
import Derived.Shelf.Unicode.DecodeAny
import Derived.Shelf.Unicode.DecodeLast
import Derived.Deep.Slices
import Derived.ChangeSame
import Derived.Carry
import Derived.Test.YtahiopdkekkibaaDoorSz
import Derived.WideKeyPair
import Derived.ChangeShapes
import Derived.Test.YtahiopdkekkibaaDoorRows
import Derived.MakeChecks
import Derived.Stop.LaidErr
import Derived.Laws.Externs
/-
  A walk by reckoning, part 21: ends in more than one place; objects that read alike. It speaks of no program.
-/
namespace Go.Proofs.YtahiopdkekkibaaDoor
open Go Go.RowKit
set_option linter.unusedVariables false
set_option linter.unusedSimpArgs false
def SimE (e e' : Ent) : Prop := e.o.live = e'.o.live ∧ e.o.stride = e'.o.stride ∧ e.o.flat = e'.o.flat ∧ e.wr = e'.wr
def SimH (hp hp' : List (Nat × Ent)) : Prop := ∀ id, (∀ e, aget hp id = some e → ∃ e', aget hp' id = some e' ∧ SimE e e') ∧ (aget hp id = none → aget hp' id = none)
theorem SimE.symm {e e' : Ent} (h : SimE e e') : SimE e' e := ⟨h.1.symm, h.2.1.symm, h.2.2.1.symm, h.2.2.2.symm⟩
theorem SimH.symm {hp hp' : List (Nat × Ent)} (h : SimH hp hp') : SimH hp' hp := fun id => by
  obtain ⟨h1, h2⟩ := h id
  cases ha : aget hp id with
  | none => exact ⟨fun e he => (by rw [h2 ha] at he; cases he), fun _ => rfl⟩
  | some e0 =>
    obtain ⟨e', h3, h4⟩ := h1 e0 ha
    exact ⟨fun e he => (by rw [h3] at he; cases he; exact ⟨e0, rfl, h4.symm⟩), fun hn => (by rw [h3] at hn; cases hn)⟩
theorem ObjRel.sim {r : Lc} {w : World} {p : Option (Blk × Nat)} {o o' : SObj} (h1 : o.live = o'.live) (h2 : o.stride = o'.stride) (h3 : o.flat = o'.flat) (h : ObjRel r w p o) : ObjRel r w p o' := fun hl => by
  have := h (h1.trans hl)
  rw [h2, h3] at this
  exact this
theorem HeapOk.sim {C : Ctx} {r : Lc} {hp hp' : List (Nat × Ent)} {w : World} (hs : SimH hp hp') (h : HeapOk C r hp w) : HeapOk C r hp' w := {
  dom := fun id => by
    rw [h.dom id]
    exact ⟨(hs id).2, (hs.symm id).2⟩
  obj := fun id e p he hp => by
    obtain ⟨e', h1, h2, h3, h4, h5⟩ := (hs.symm id).1 e he
    exact (h.obj id e' p h1 hp).sim h2.symm h3.symm h4.symm
  inj := fun i j e f g g' c d hi hj li lj ri rj wi hgg => by
    obtain ⟨e', h1, h2, _, _, hw1⟩ := (hs.symm i).1 e hi
    obtain ⟨f', h3, h4, _⟩ := (hs.symm j).1 f hj
    exact h.inj i j e' f' g g' c d h1 h3 (h2.symm.trans li) (h4.symm.trans lj) ri rj (hw1.symm.trans wi) hgg
  own := fun id e g c he hl hw hr => by
    obtain ⟨e', h1, h2, _, _, h5⟩ := (hs.symm id).1 e he
    exact h.own id e' g c h1 (h2.symm.trans hl) (h5.symm.trans hw) hr
  os := h.os
  tape := h.tape
  glob := h.glob
  output := h.output
  size := h.size
  same := h.same }
theorem cw_sim {G : List GFact} {r : Lc} {hp hp' : List (Nat × Ent)} {w : World} (hs : SimH hp hp') : cw G r hp w = cw G r hp' w := by
  unfold cw
  congr 1
  funext b
  refine propext ⟨?_, ?_⟩
  · rintro ⟨id, e, g, c, h1, h2, h3, h4⟩
    obtain ⟨e', k1, k2, _, _, k5⟩ := (hs id).1 e h1
    exact ⟨id, e', g, c, k1, k5.symm.trans h2, k2.symm.trans h3, h4⟩
  · rintro ⟨id, e, g, c, h1, h2, h3, h4⟩
    obtain ⟨e', k1, k2, _, _, k5⟩ := (hs.symm id).1 e h1
    exact ⟨id, e', g, c, k1, k5.symm.trans h2, k2.symm.trans h3, h4⟩
theorem TriG.sim {P : Program} {G : List GFact} {f : FuncId} {args : List CV} {hp hp' : List (Nat × Ent)} {res : SV} {hq hq' : List (Nat × Ent)} (h1 : SimH hp hp') (h2 : SimH hq hq') (h : TriG P G f args hp res hq) : TriG P G f args hp' res hq' := fun r w vals ha hh => by
  have hh' : HeapOk (cw G r hp w) r hp w := by rw [cw_sim h1]; exact hh.sim h1.symm
  refine (h r w vals ha hh').mono fun e w' ⟨u, r', k1, k2, k3, k4⟩ => ⟨u, r', k1, k2, k3, ?_⟩
  rw [← cw_sim h1]
  exact k4.sim h2
theorem SimE.refl (e : Ent) : SimE e e := ⟨rfl, rfl, rfl, rfl⟩
theorem SimH.cons {i : Nat} {e e' : Ent} {l l' : List (Nat × Ent)} (h : SimE e e') (hl : SimH l l') : SimH ((i, e) :: l) ((i, e') :: l') := fun id => by
  simp only [aget]
  by_cases hi : i = id
  · simp only [hi, if_true]
    exact ⟨fun a ha => (by cases ha; exact ⟨e', rfl, h⟩), fun hn => (by cases hn)⟩
  · simp only [hi, if_false]
    exact hl id
theorem SimH.nil : SimH [] [] := fun id => ⟨fun e he => (by cases he), fun _ => rfl⟩
theorem Tri.sim {P : Program} {f : FuncId} {args : List CV} {hp hp' : List (Nat × Ent)} {res : SV} {hq hq' : List (Nat × Ent)} (h1 : SimH hp hp') (h2 : SimH hq hq') (h : Tri P f args hp res hq) : Tri P f args hp' res hq' := TriG.sim h1 h2 h
/-- The end of a function, where its object may come from more than one place. -/
def EndX (E : Env) (rs : List ResultVar) (res : SV) (hp' : List (Nat × Ent)) (st : St) : Prop := ∃ g, endQ E rs g res hp' st
def retQx (E : Env) (rs : List ResultVar) (res : SV) (hp' : List (Nat × Ent)) : Exit → St → Prop
  | .normal, st => EndX E rs res hp' st
  | .ret, st => EndX E rs res hp' st
  | _, _ => False
theorem endX {E : Env} {rs : List ResultVar} {res : SV} {hp' : List (Nat × Ent)} {st : St} (g : List (Nat × Nat)) (h : endQ E rs g res hp' st) : EndX E rs res hp' st := ⟨g, h⟩
section
variable {P : Program} {E : Env}
theorem tri_ofx (hE : EnvOk P E) {f : FuncId} {fn : Func} {body : Code} (hf : P.funcs[f]? = some fn) (hb : fn.body = some body) (hn : fn.ntmps = E.nt) {rs : List ResultVar} (hrs : fn.results.toList = rs) (hgl : E.gl = []) {args : List CV} {hp : List (Nat × Ent)} {res : SV} {hp' : List (Nat × Ent)} (hlen : args.length ≤ E.nt)
    (hkeys : keysOf hp = E.keys) (h : vc (⟨⟨numb 0 (args.map .c), hp⟩⟩ : VTag P E body (retQx E rs res hp'))) : TriG P E.G f args hp res hp' := by
  subst hrs
  intro r w vals hargs hh
  have hvl := hargs.length
  refine calls_of_wp hf hb ?_
  have hrep : RepE P E (cw E.G r hp w) r ⟨numb 0 (args.map .c), hp⟩ { tmps := vals.toArray ++ Array.replicate (fn.ntmps - vals.toArray.size) undef, defers := [] } w := {
    nt := by simp; omega
    defers := rfl
    fr := fun t x hx => by
      have hx' : (args.map SV.c)[t]? = some x := by
        have := aget_numb (args.map SV.c) 0 t
        simp only [Nat.zero_le, if_true, Nat.sub_zero] at this
        rw [← this]; exact hx
      rw [List.getElem?_map] at hx'
      cases hc : args[t]? with
      | none => rw [hc] at hx'; cases hx'
      | some c =>
        rw [hc] at hx'
        simp only [Option.map_some, Option.some.injEq] at hx'
        subst hx'
        obtain ⟨u, hu, hr⟩ := hargs.get t c hc
        have hlt : t < vals.length := (List.getElem?_eq_some_iff.1 hu).1
        rw [Array.getD_eq_getD_getElem?, Array.getElem?_append_left (by simpa using hlt)]
        simp only [List.getElem?_toArray, hu, Option.getD_some]
        exact hr
    hp := hh
    gl := fun k hk => by rw [hgl] at hk; cases hk
    keep := r.le_refl
    keys := fun id hid => by
      have : aget hp id ≠ none := fun he => hid ((hh.dom id).2 he)
      rw [← hkeys]
      rw [ne_eq, aget_keys, Decidable.not_not] at this
      exact this
    sub := fun f hf => hf }
  refine wp_mono (vc_sound hE body _ _ h (cw E.G r hp w) r _ w hrep) ?_
  rintro e a' w' ⟨st', r', h1, h2⟩
  have key : EndX E fn.results.toList res hp' st' → a'.defers = [] ∧ ∃ v, (results fn a'.tmps).run P w' = .ok v w' ∧ ∃ u r', Ending.returned v = .returned u ∧ r.le r' ∧ res.rel r' u ∧ HeapOk (cw E.G r hp w) r' hp' w' := fun ⟨g, hq⟩ => by
    unfold endQ at hq
    split at hq
    · rename_i cs ob hre
      obtain ⟨hob, hlv, hd, hks, hhp⟩ := hq
      obtain ⟨u, hu, hr⟩ := results_run hE h2 hre hob
      refine ⟨h2.defers, u, hu, u, r'.under g (keysOf hp'), rfl, fun id p hid => ?_, ?_, Canon.heap hd hhp h2.hp⟩
      · have hk := h2.keys id (by show r id ≠ none; rw [hid]; simp)
        have := List.all_eq_true.1 hks id hk
        simp only [Bool.and_eq_true] at this
        have e : rn g id = id := by simpa using this.1
        simp only [Lc.under, this.2, if_true, e]
        exact h2.keep id p hid
      · rcases hlv with hlv | ⟨h3, h4⟩
        · subst hlv; trivial
        · rw [← h3, SV.rel_ren] at hr
          exact SV.rel_agree (under_agree h4) hr
    · exact hq.elim
  cases e <;> first
    | exact key h1
    | exact h1.elim
end
end Go.Proofs.YtahiopdkekkibaaDoor

/-
  A walk by reckoning, part 22: a function that reads a package's table. It speaks of no program.
-/
namespace Go.Proofs.YtahiopdkekkibaaDoor
open Go Go.RowKit
set_option linter.unusedVariables false
set_option linter.unusedSimpArgs false
/-- A package's table as one more object: nobody writes it. -/
theorem HeapOk.table {G : List GFact} {r : Lc} {hp : List (Nat × Ent)} {w : World} (hh : HeapOk (cw G r hp w) r hp w) {id g c : Nat} {o : SObj} (hid : aget hp id = none) {f : GFact} (hf : f ∈ G) (hfg : f.g = g) (hob : ∀ r, f.p w → ObjRel r w (some ((g, some 0), c)) o) :
    HeapOk (cw G r hp w) (r.add id (some ((g, some 0), c))) (aset hp id ⟨o, false⟩) w := by
  have hle := Lc.add_le ((hh.dom id).2 hid) (some ((g, some 0), c))
  obtain ⟨hp0, hwb⟩ := hh.glob f hf
  have hp0 : f.p w := hp0
  have hlt := f.lt w hp0
  rw [hfg] at hlt hwb
  exact {
    dom := fun k => by
      rw [aget_aset]
      by_cases e : id = k
      · subst e; simp [Lc.add_same]
      · rw [if_neg e, Lc.add_other _ _ (Ne.symm e)]; exact hh.dom k
    obj := fun k e p he hp' => by
      rw [aget_aset] at he
      by_cases h : id = k
      · subst h
        rw [if_pos rfl] at he
        cases he
        rw [Lc.add_same] at hp'
        cases hp'
        exact hob _ hp0
      · rw [if_neg h] at he
        rw [Lc.add_other _ _ (Ne.symm h)] at hp'
        exact (hh.obj k e p he hp').le hle
    inj := fun i j e1 f1 g1 g2 c1 d1 hi hj li lj ri rj wi hg => by
      rw [aget_aset] at hi hj
      by_cases ei : id = i
      · subst ei
        rw [if_pos rfl] at hi
        cases hi
        cases wi
      · rw [if_neg ei] at hi
        rw [Lc.add_other _ _ (Ne.symm ei)] at ri
        by_cases ej : id = j
        · subst ej
          rw [Lc.add_same] at rj
          cases rj
          rcases (hh.own i e1 g1 c1 hi li wi ri).2 with h | h
          · rw [hg] at h; exact (hwb h).elim
          · rw [hg] at h
            have h : w.heap.size ≤ g := h
            omega
        · rw [if_neg ej] at hj
          rw [Lc.add_other _ _ (Ne.symm ej)] at rj
          exact hh.inj i j e1 f1 g1 g2 c1 d1 hi hj li lj ri rj wi hg
    own := fun k e g' c' he hl hw hr => by
      rw [aget_aset] at he
      by_cases h : id = k
      · subst h
        rw [if_pos rfl] at he
        cases he
        cases hw
      · rw [if_neg h] at he
        rw [Lc.add_other _ _ (Ne.symm h)] at hr
        exact hh.own k e g' c' he hl hw hr
    os := hh.os
    tape := hh.tape
    output := hh.output
    size := hh.size
    same := hh.same
    glob := hh.glob }
section
variable {P : Program} {E : Env}
theorem tri_ofg (hE : EnvOk P E) {f : FuncId} {fn : Func} {body : Code} (hf : P.funcs[f]? = some fn) (hb : fn.body = some body) (hn : fn.ntmps = E.nt) {rs : List ResultVar} (hrs : fn.results.toList = rs) {g c : Nat} {o : SObj} {gf : GFact} (hgl : E.gl = [g]) (hgf : gf ∈ E.G) (hgg : gf.g = g) (hob : ∀ r w, gf.p w → ObjRel r w (some ((g, some 0), c)) o) {args : List CV} {hp : List (Nat × Ent)} {res : SV} {hp' : List (Nat × Ent)} (hid : aget hp (gid g) = none) (hlen : args.length ≤ E.nt)
    (hkeys : keysOf hp = E.keys) (h : vc (⟨⟨numb 0 (args.map .c), aset hp (gid g) ⟨o, false⟩⟩⟩ : VTag P E body (retQx E rs res hp'))) : TriG P E.G f args hp res hp' := by
  subst hrs
  intro r w vals hargs hh
  have hvl := hargs.length
  refine calls_of_wp hf hb ?_
  have hle := Lc.add_le ((hh.dom (gid g)).2 hid) (some ((g, some 0), c))
  have hrep : RepE P E (cw E.G r hp w) (r.add (gid g) (some ((g, some 0), c))) ⟨numb 0 (args.map .c), aset hp (gid g) ⟨o, false⟩⟩ { tmps := vals.toArray ++ Array.replicate (fn.ntmps - vals.toArray.size) undef, defers := [] } w := {
    nt := by simp; omega
    defers := rfl
    fr := fun t x hx => by
      have hx' : (args.map SV.c)[t]? = some x := by
        have := aget_numb (args.map SV.c) 0 t
        simp only [Nat.zero_le, if_true, Nat.sub_zero] at this
        rw [← this]; exact hx
      rw [List.getElem?_map] at hx'
      cases hc : args[t]? with
      | none => rw [hc] at hx'; cases hx'
      | some c =>
        rw [hc] at hx'
        simp only [Option.map_some, Option.some.injEq] at hx'
        subst hx'
        obtain ⟨u, hu, hr⟩ := hargs.get t c hc
        have hlt : t < vals.length := (List.getElem?_eq_some_iff.1 hu).1
        rw [Array.getD_eq_getD_getElem?, Array.getElem?_append_left (by simpa using hlt)]
        simp only [List.getElem?_toArray, hu, Option.getD_some]
        exact SV.rel_le hle hr
    hp := hh.table hid hgf hgg (fun r hp => hob r w hp)
    gl := fun k hk => by
      rw [hgl] at hk
      obtain rfl : k = g := by simpa using hk
      exact ⟨some 0, c, Lc.add_same _ _ _, rfl⟩
    keep := hle
    keys := fun id hid => by
      have : aget hp id ≠ none := fun he => hid ((hh.dom id).2 he)
      rw [← hkeys]
      rw [ne_eq, aget_keys, Decidable.not_not] at this
      exact this
    sub := fun f hf => hf }
  refine wp_mono (vc_sound hE body _ _ h (cw E.G r hp w) _ _ w hrep) ?_
  rintro e a' w' ⟨st', r', h1, h2⟩
  have key : EndX E fn.results.toList res hp' st' → a'.defers = [] ∧ ∃ v, (results fn a'.tmps).run P w' = .ok v w' ∧ ∃ u r', Ending.returned v = .returned u ∧ r.le r' ∧ res.rel r' u ∧ HeapOk (cw E.G r hp w) r' hp' w' := fun ⟨g, hq⟩ => by
    unfold endQ at hq
    split at hq
    · rename_i cs ob hre
      obtain ⟨hob, hlv, hd, hks, hhp⟩ := hq
      obtain ⟨u, hu, hr⟩ := results_run hE h2 hre hob
      refine ⟨h2.defers, u, hu, u, r'.under g (keysOf hp'), rfl, fun id p hid => ?_, ?_, Canon.heap hd hhp h2.hp⟩
      · have hk := h2.keys id (by show r id ≠ none; rw [hid]; simp)
        have := List.all_eq_true.1 hks id hk
        simp only [Bool.and_eq_true] at this
        have e : rn g id = id := by simpa using this.1
        simp only [Lc.under, this.2, if_true, e]
        exact h2.keep id p hid
      · rcases hlv with hlv | ⟨h3, h4⟩
        · subst hlv; trivial
        · rw [← h3, SV.rel_ren] at hr
          exact SV.rel_agree (under_agree h4) hr
    · exact hq.elim
  cases e <;> first
    | exact key h1
    | exact h1.elim
end
end Go.Proofs.YtahiopdkekkibaaDoor

/-
  What is known of variables that nobody writes; contracts of library functions as the walk by reckoning takes them.
-/
namespace Go.Proofs.YtahiopdkekkibaaDoor
open Go Go.RowKit
set_option linter.unusedSimpArgs false
set_option linter.unusedVariables false
theorem cell_same {w w' : World} {g : Nat} (h : w'.heap[g]? = w.heap[g]?) (j : Nat) : w'.cell? ⟨g, j, none⟩ = w.cell? ⟨g, j, none⟩ := by
  simp only [World.cell?, h]
def gInt (g : Nat) : GFact where
  g := g
  p w := ∃ m, w.cell? ⟨g, 0, none⟩ = some (.int .i64 m)
  lt w h := by obtain ⟨m, hm⟩ := h; exact Lib.lt_of_cell hm
  st w w' h hp := by obtain ⟨m, hm⟩ := hp; exact ⟨m, by rw [cell_same h]; exact hm⟩
def gIface (g : Nat) : GFact where
  g := g
  p w := ∃ v, w.cell? ⟨g, 0, none⟩ = some v ∧ (v = .nilIface ∨ ∃ te pe, v = .iface te pe)
  lt w h := by obtain ⟨m, hm, _⟩ := h; exact Lib.lt_of_cell hm
  st w w' h hp := by obtain ⟨m, hm, hv⟩ := hp; exact ⟨m, by rw [cell_same h]; exact hm, hv⟩
theorem tab_lt {P : Program} {w : World} {name : String} {k : IntKind} {zs : List Int} {g : Nat} (hg : P.globalNamed name = some g) (h : Lib.TabIs P w name k zs) : g < w.heap.size := by
  unfold Lib.TabIs World.var? at h
  rw [hg] at h
  simp only [Option.bind_some] at h
  cases hq : w.heap[g]? with
  | none => rw [hq] at h; cases h
  | some o => exact (Array.getElem?_eq_some_iff.1 hq).1
def gTab (P : Program) (name : String) (k : IntKind) (zs : List Int) (g : Nat) (hg : P.globalNamed name = some g) : GFact where
  g := g
  p w := Lib.TabIs P w name k zs
  lt w h := tab_lt hg h
  st w w' h hp := by
    unfold Lib.TabIs World.var? at hp ⊢
    rw [hg] at hp ⊢
    simp only [Option.bind_some] at hp ⊢
    rw [h]; exact hp
theorem below_drewN (w : World) (n : Nat) : Below w.heap.size w (w.drewN n) := ⟨rfl, rfl, rfl, Nat.le_refl _, fun _ _ => rfl⟩
theorem below_growN (w : World) (k : Nat) (os : Array Obj) : Below w.heap.size w (Sort.grow (w.drewN k) os) := ⟨rfl, rfl, rfl, by simp [Sort.grow, World.drewN], fun j hj => by
  show (w.heap ++ os)[j]? = _
  rw [Array.getElem?_append_left hj]⟩
theorem all2_one {R : CV → Value → Prop} {a : CV} {vals : List Value} (h : All2 R [a] vals) : ∃ u, vals = [u] ∧ R a u := by
  match vals, h with
  | [u], ⟨h1, _⟩ => exact ⟨u, rfl, h1⟩
theorem all2_two {R : CV → Value → Prop} {a b : CV} {vals : List Value} (h : All2 R [a, b] vals) : ∃ u v, vals = [u, v] ∧ R a u ∧ R b v := by
  match vals, h with
  | [u, v], ⟨h1, h2, _⟩ => exact ⟨u, v, rfl, h1, h2⟩
end Go.Proofs.YtahiopdkekkibaaDoor

/-
  Rows of texts: as objects, and in contracts. It speaks of no program.
-/
namespace Go.Proofs.YtahiopdkekkibaaDoor
open Go Go.RowKit
set_option linter.unusedSimpArgs false
set_option linter.unusedVariables false
def strL : Lay (List UInt8) where
  st := 1
  enc x := [.str x]
  d := []
  up x j ys := match ys with
    | [.str y] => if j = 0 then some y else none
    | _ => none
  toB := none
  ofB := none
  len _ := rfl
  put x j ys y h := by
    split at h
    · split at h
      · rename_i h0; injection h with h; subst h; subst h0; simp
      · cases h
    · cases h
  plain x v h := by simp at h; subst h; trivial
  bare x v h := by simp at h; subst h; trivial
  toB_ok f h x := by cases h
  ofB_ok f h x := by cases h
theorem strL_st : strL.st = 1 := rfl
theorem strL_d : strL.d = [] := rfl
theorem strL_enc (x : List UInt8) : strL.enc x = [.str x] := rfl
theorem strL_up (x y : List UInt8) : strL.up x 0 [.str y] = some y := rfl
theorem str_flat (l : List (List UInt8)) : l.flatMap strL.enc = l.map .str := by
  show l.flatMap (fun x => [AV.str x]) = _
  induction l with
  | nil => rfl
  | cons x l ih => rw [List.flatMap_cons, ih]; rfl
def toS : AV → List UInt8
  | .str x => x
  | _ => []
def strsOf (o : SObj) : List (List UInt8) := o.flat.map toS
def rowS (o : SObj) : Prop := o.live = true ∧ o.stride = 1 ∧ o.flat = (strsOf o).map .str
theorem strsOf_arr (l : List (List UInt8)) : strsOf (.arr _ strL l) = l := by
  unfold strsOf
  show (l.flatMap strL.enc).map toS = l
  rw [str_flat, List.map_map]
  conv => rhs; rw [← List.map_id l]
  exact List.map_congr_left fun x _ => rfl
theorem strsOf_cells (s : Nat) (xs : List AV) : strsOf (.cells s xs) = xs.map toS := rfl
theorem rowS_arr (l : List (List UInt8)) : rowS (.arr _ strL l) = True := by
  refine propext ⟨fun _ => trivial, fun _ => ⟨rfl, rfl, ?_⟩⟩
  rw [strsOf_arr]
  exact str_flat l
theorem rowS_cells (xs : List AV) : rowS (.cells 1 xs) = (xs = (xs.map toS).map .str) :=
  propext ⟨fun h => h.2.2, fun h => ⟨rfl, rfl, h⟩⟩
theorem simE_rowS {o : SObj} (h : rowS o) (w : Bool) : SimE ⟨.arr _ strL (strsOf o), w⟩ ⟨o, w⟩ := ⟨h.1.symm, h.2.1.symm, (str_flat _).trans h.2.2.symm, rfl⟩
theorem SimH.refl (l : List (Nat × Ent)) : SimH l l := fun id => ⟨fun e he => ⟨e, he, .refl _⟩, fun h => h⟩
def hpN (i : Nat) (news : List SObj) : List (Nat × Ent) := numb i (news.map fun o => ⟨o, true⟩)
theorem hpN_nil (i : Nat) : hpN i [] = [] := rfl
theorem hpN_cons (i : Nat) (o : SObj) (l : List SObj) : hpN i (o :: l) = (i, ⟨o, true⟩) :: hpN (i + 1) l := rfl
theorem numb_append {β : Type _} : ∀ (l m : List β) (i : Nat), numb i (l ++ m) = numb i l ++ numb (i + l.length) m
  | [], m, i => rfl
  | x :: l, m, i => by
    simp only [List.cons_append, numb, List.length_cons]
    rw [numb_append l m (i + 1), show i + 1 + l.length = i + (l.length + 1) by omega]
theorem aset_numb {β : Type _} (l : List β) (e : β) : ∀ (i : Nat), aset (numb i l) (i + l.length) e = numb i (l ++ [e]) := by
  induction l with
  | nil => intro i; rfl
  | cons x l ih =>
    intro i
    simp only [numb, List.cons_append, List.length_cons, aset]
    rw [if_neg (by omega), if_neg (by omega), show i + (l.length + 1) = i + 1 + l.length by omega, ih]
theorem newAll_numb (n : Nat) : ∀ (news : List SObj) (l : List Ent) (m : Nat), l.length = n + m → newAll (fun k => n + k) (numb 0 l) m news = numb 0 (l ++ news.map fun o => ⟨o, true⟩)
  | [], l, m, _ => by simp [newAll]
  | o :: news, l, m, h => by
    have := aset_numb l (⟨o, true⟩ : Ent) 0
    rw [Nat.zero_add] at this
    rw [newAll, ← h, this, newAll_numb n news _ (m + 1) (by simp; omega)]
    simp
theorem post_news (es : List Ent) (news : List SObj) : Con.post es [] news = numb 0 (es ++ news.map fun o => ⟨o, true⟩) := by
  unfold Con.post
  rw [setAllH_nil]
  exact newAll_numb es.length news es 0 rfl
/-- Contracts that read rows of texts, and make objects. -/
def conS (F : List CV → List (List (List UInt8)) → Option (SV × List SObj × List Prop)) : Con := ⟨false, fun args os => match F args (os.map strsOf) with
  | some (v, news, ob) => some (v, [], news, os.map rowS ++ ob)
  | none => none⟩
theorem AllT_map {α : Type _} {p : α → Prop} : ∀ {l : List α}, AllT (l.map p) → ∀ x ∈ l, p x
  | [], _, x, h => by cases h
  | y :: l, ⟨h1, h2⟩, x, h => by
    rcases List.mem_cons.1 h with rfl | h
    · exact h1
    · exact AllT_map h2 x h
section
variable {P : Program} {G : List GFact} {f : FuncId} {fn : Func}
theorem conS_ok (hf : P.funcs[f]? = some fn) (hb : fn.body.isSome = true) (hn : (fn.name == "runtime.NumGoroutine") = false) {F : List CV → List (List (List UInt8)) → Option (SV × List SObj × List Prop)}
    (h0 : ∀ args v news ob, F args [] = some (v, news, ob) → AllT ob → TriG P G f args [] v (hpN 0 news))
    (h1 : ∀ args a v news ob, F args [a] = some (v, news, ob) → AllT ob → ∀ wa, TriG P G f args [(0, ⟨.arr _ strL a, wa⟩)] v ((0, ⟨.arr _ strL a, wa⟩) :: hpN 1 news))
    (h2 : ∀ args a b v news ob, F args [a, b] = some (v, news, ob) → AllT ob → ∀ wa wb, TriG P G f args [(0, ⟨.arr _ strL a, wa⟩), (1, ⟨.arr _ strL b, wb⟩)] v ((0, ⟨.arr _ strL a, wa⟩) :: (1, ⟨.arr _ strL b, wb⟩) :: hpN 2 news))
    (h3 : ∀ args a b c l, F args (a :: b :: c :: l) = none) : ConOkG P G f (conS F) := by
  refine .inl ⟨⟨fn, hf, hb, hn⟩, fun args es res upd news ob hr hob _ => ?_⟩
  unfold conS at hr
  simp only at hr
  cases hF : F args ((es.map (·.o)).map strsOf) with
  | none => rw [hF] at hr; cases hr
  | some q =>
    obtain ⟨v, nw, ob'⟩ := q
    simp only [hF, Option.some.injEq, Prod.mk.injEq] at hr
    obtain ⟨rfl, rfl, rfl, rfl⟩ := hr
    obtain ⟨o1, o2⟩ := AllT.append.1 hob
    rw [post_news]
    match es, hF, o1 with
    | [], hF, _ => exact h0 args _ _ _ hF o2
    | [e], hF, o1 =>
      have s1 := simE_rowS o1.1 e.wr
      exact (h1 args _ _ _ _ hF o2 e.wr).sim (.cons s1 .nil) (.cons s1 (.refl _))
    | [e, e'], hF, o1 =>
      have s1 := simE_rowS o1.1 e.wr
      have s2 := simE_rowS o1.2.1 e'.wr
      exact (h2 args _ _ _ _ _ hF o2 e.wr e'.wr).sim (.cons s1 (.cons s2 .nil)) (.cons s1 (.cons s2 (.refl _)))
    | _ :: _ :: _ :: _, hF, _ =>
      simp only [List.map_cons] at hF
      rw [h3] at hF
      cases hF
end
/-- A row that may be nil. -/
def rowAV {α : Type} (id : Nat) (l : List α) : AV := if l.isEmpty then .val (.slice none 0 0) else .sl id 0 1 l.length
end Go.Proofs.YtahiopdkekkibaaDoor

/-
  Contracts of the library functions that the program calls, at this translation (laid by the kit's own tool).
-/
namespace Go.Proofs
open Go.Shelf
def Tryd.lays160_ren : Go.Shelf.Ren := ⟨fun | 160 => 36 | 232 => 55 | 231 => 54 | 227 => 56 | 234 => 58 | 233 => 57 | 236 => 60 | 235 => 59 | 228 => 81 | 271 => 84 | 151 => 83 | 197 => 82 | 120 => 108 | 152 => 107 | 260 => 106 | 137 => 115 | 119 => 116 | 224 => 117 | 225 => 118 | 217 => 119 | 266 => 120 | n => n, fun | 9 => 9 | 4 => 4 | 3 => 3 | 5 => 5 | 117 => 95 | 116 => 94 | 0 => 0 | 124 => 98 | 21 => 21 | 105 => 118 | 46 => 54 | 119 => 153 | 139 => 156 | 138 => 155 | n => n, fun | 3 => 2 | 4 => 3 | n => n⟩
theorem Tryd.lays160 : Go.Proofs.Lays.n160 Tryd.prog Tryd.lays160_ren := {
  mixed := by kernel_rfl
  f119 := Tryd.func116.trans (congrArg some (by kernel_rfl))
  f120 := Tryd.func108.trans (congrArg some (by kernel_rfl))
  f137 := Tryd.func115.trans (congrArg some (by kernel_rfl))
  f151 := Tryd.func83.trans (congrArg some (by kernel_rfl))
  f152 := Tryd.func107.trans (congrArg some (by kernel_rfl))
  f160 := Tryd.func36.trans (congrArg some (by kernel_rfl))
  f197 := Tryd.func82.trans (congrArg some (by kernel_rfl))
  f217 := Tryd.func119.trans (congrArg some (by kernel_rfl))
  f224 := Tryd.func117.trans (congrArg some (by kernel_rfl))
  f225 := Tryd.func118.trans (congrArg some (by kernel_rfl))
  f227 := Tryd.func56.trans (congrArg some (by kernel_rfl))
  f228 := Tryd.func81.trans (congrArg some (by kernel_rfl))
  f231 := Tryd.func54.trans (congrArg some (by kernel_rfl))
  f232 := Tryd.func55.trans (congrArg some (by kernel_rfl))
  f233 := Tryd.func57.trans (congrArg some (by kernel_rfl))
  f234 := Tryd.func58.trans (congrArg some (by kernel_rfl))
  f235 := Tryd.func59.trans (congrArg some (by kernel_rfl))
  f236 := Tryd.func60.trans (congrArg some (by kernel_rfl))
  f260 := Tryd.func106.trans (congrArg some (by kernel_rfl))
  f266 := Tryd.func120.trans (congrArg some (by kernel_rfl))
  f271 := Tryd.func84.trans (congrArg some (by kernel_rfl))
  t0 := Tryd.underlying0
  a0 := Tryd.isAgg0
  z0 := Tryd.sizeOf0
  v0 := Tryd.zeroValue0
  t3 := Tryd.underlying3
  a3 := Tryd.isAgg3
  z3 := Tryd.sizeOf3
  v3 := Tryd.zeroValue3
  t4 := Tryd.underlying4
  a4 := Tryd.isAgg4
  z4 := Tryd.sizeOf4
  v4 := Tryd.zeroValue4
  t5 := Tryd.underlying5
  a5 := Tryd.isAgg5
  z5 := Tryd.sizeOf5
  v5 := Tryd.zeroValue5
  t9 := Tryd.underlying9
  a9 := Tryd.isAgg9
  z9 := Tryd.sizeOf9
  v9 := Tryd.zeroValue9
  t21 := Tryd.underlying21
  a21 := Tryd.isAgg21
  z21 := Tryd.sizeOf21
  v21 := Tryd.zeroValue21
  t46 := Tryd.underlying54
  a46 := Tryd.isAgg54
  z46 := Tryd.sizeOf54
  v46 := Tryd.zeroValue54
  t105 := Tryd.underlying118
  a105 := Tryd.isAgg118
  z105 := Tryd.sizeOf118
  v105 := Tryd.zeroValue118
  t116 := Tryd.underlying94
  a116 := Tryd.isAgg94
  z116 := Tryd.sizeOf94
  t117 := Tryd.underlying95
  a117 := Tryd.isAgg95
  z117 := Tryd.sizeOf95
  v117 := Tryd.zeroValue95
  t119 := Tryd.underlying153
  a119 := Tryd.isAgg153
  z119 := Tryd.sizeOf153
  t124 := Tryd.underlying98
  a124 := Tryd.isAgg98
  z124 := Tryd.sizeOf98
  v124 := Tryd.zeroValue98
  t138 := Tryd.underlying155
  a138 := Tryd.isAgg155
  z138 := Tryd.sizeOf155
  v138 := Tryd.zeroValue155
  t139 := Tryd.underlying156
  a139 := Tryd.isAgg156
  z139 := Tryd.sizeOf156
  v139 := Tryd.zeroValue156
  g3 := by kernel_rfl
  g4 := by kernel_rfl }
open Go.RowKit in
/-- strings.Trim: "Trim returns a slice of the string s with all leading and trailing Unicode code points contained in cutset removed.": AT A cutset OF ONE ASCII BYTE. THE WORLD BEHIND IT: as it was, or (where s is not empty) with ONE DRAW MORE off the tape: the statement 'return trimLeftByte(trimRightByte(s, c), c)' draws its order of evaluation. (LAID: no walk: one application.) -/
theorem Tryd.strings_Trim_one (s : ByteArray) (c : UInt8) (hc : c.toNat < 128) (w : World) (hs : s.size ≤ 9223372036854775807) :
    Calls Tryd.prog 36 #[.string s, .string ⟨#[c]⟩] w fun e w' => e = .returned (.string ⟨(Lib.trimB s.data.toList c).toArray⟩) ∧ (w' = w ∨ w' = w.drew) := Any.strings_Trim_one Tryd.lays160 s c hc w hs
def Tryd.lays105_ren : Go.Shelf.Ren := ⟨fun | 105 => 26 | 212 => 45 | 99 => 46 | 165 => 47 | 166 => 48 | 170 => 49 | 169 => 50 | 263 => 74 | 264 => 75 | 206 => 76 | 240 => 77 | 241 => 78 | 276 => 100 | 277 => 101 | n => n, fun | 9 => 9 | 3 => 3 | 4 => 4 | 20 => 20 | 0 => 0 | 46 => 54 | 109 => 79 | 5 => 5 | 72 => 83 | 76 => 87 | 51 => 76 | 146 => 112 | 53 => 67 | 148 => 114 | 70 => 81 | 37 => 55 | 75 => 86 | 127 => 116 | 164 => 137 | 80 => 49 | n => n, fun | n => n⟩
theorem Tryd.lays105 : Go.Proofs.Lays.n105 Tryd.prog Tryd.lays105_ren := {
  mixed := by kernel_rfl
  f99 := Tryd.func46.trans (congrArg some (by kernel_rfl))
  f105 := Tryd.func26.trans (congrArg some (by kernel_rfl))
  f165 := Tryd.func47.trans (congrArg some (by kernel_rfl))
  f166 := Tryd.func48.trans (congrArg some (by kernel_rfl))
  f169 := Tryd.func50.trans (congrArg some (by kernel_rfl))
  f170 := Tryd.func49.trans (congrArg some (by kernel_rfl))
  f206 := Tryd.func76.trans (congrArg some (by kernel_rfl))
  f212 := Tryd.func45.trans (congrArg some (by kernel_rfl))
  f240 := Tryd.func77.trans (congrArg some (by kernel_rfl))
  f241 := Tryd.func78.trans (congrArg some (by kernel_rfl))
  f263 := Tryd.func74.trans (congrArg some (by kernel_rfl))
  f264 := Tryd.func75.trans (congrArg some (by kernel_rfl))
  f276 := Tryd.func100.trans (congrArg some (by kernel_rfl))
  f277 := Tryd.func101.trans (congrArg some (by kernel_rfl))
  t0 := Tryd.underlying0
  a0 := Tryd.isAgg0
  z0 := Tryd.sizeOf0
  v0 := Tryd.zeroValue0
  t3 := Tryd.underlying3
  a3 := Tryd.isAgg3
  z3 := Tryd.sizeOf3
  v3 := Tryd.zeroValue3
  t4 := Tryd.underlying4
  a4 := Tryd.isAgg4
  z4 := Tryd.sizeOf4
  v4 := Tryd.zeroValue4
  t5 := Tryd.underlying5
  a5 := Tryd.isAgg5
  z5 := Tryd.sizeOf5
  v5 := Tryd.zeroValue5
  t9 := Tryd.underlying9
  a9 := Tryd.isAgg9
  z9 := Tryd.sizeOf9
  v9 := Tryd.zeroValue9
  t20 := Tryd.underlying20
  a20 := Tryd.isAgg20
  z20 := Tryd.sizeOf20
  v20 := Tryd.zeroValue20
  t37 := Tryd.underlying55
  a37 := Tryd.isAgg55
  z37 := Tryd.sizeOf55
  v37 := Tryd.zeroValue55
  t46 := Tryd.underlying54
  a46 := Tryd.isAgg54
  z46 := Tryd.sizeOf54
  v46 := Tryd.zeroValue54
  t51 := Tryd.underlying76
  a51 := Tryd.isAgg76
  z51 := Tryd.sizeOf76
  v51 := Tryd.zeroValue76
  t53 := Tryd.underlying67
  a53 := Tryd.isAgg67
  z53 := Tryd.sizeOf67
  v53 := Tryd.zeroValue67
  t70 := Tryd.underlying81
  a70 := Tryd.isAgg81
  z70 := Tryd.sizeOf81
  v70 := Tryd.zeroValue81
  t72 := Tryd.underlying83
  a72 := Tryd.isAgg83
  z72 := Tryd.sizeOf83
  v72 := Tryd.zeroValue83
  t75 := Tryd.underlying86
  a75 := Tryd.isAgg86
  z75 := Tryd.sizeOf86
  v75 := Tryd.zeroValue86
  t76 := Tryd.underlying87
  a76 := Tryd.isAgg87
  z76 := Tryd.sizeOf87
  v76 := Tryd.zeroValue87
  t109 := Tryd.underlying79
  a109 := Tryd.isAgg79
  z109 := Tryd.sizeOf79
  v109 := Tryd.zeroValue79
  t127 := Tryd.underlying116
  a127 := Tryd.isAgg116
  z127 := Tryd.sizeOf116
  v127 := Tryd.zeroValue116
  t146 := Tryd.underlying112
  a146 := Tryd.isAgg112
  z146 := Tryd.sizeOf112
  v146 := Tryd.zeroValue112
  t148 := Tryd.underlying114
  a148 := Tryd.isAgg114
  z148 := Tryd.sizeOf114
  v148 := Tryd.zeroValue114
  t164 := Tryd.underlying137
  a164 := Tryd.isAgg137
  z164 := Tryd.sizeOf137
  v164 := Tryd.zeroValue137 }
theorem Tryd.Builder_Extra_105 : Builder.Extra Tryd.prog Tryd.lays105_ren := {
  sizeBuilder := by kernel_rfl
  liesBuilder := by kernel_rfl
  t5 := Tryd.underlying5
  a5 := Tryd.isAgg5
  z5 := Tryd.sizeOf5
  v5 := Tryd.zeroValue5
  infoByte := by kernel_rfl
  cellsByte := by kernel_rfl
  sizeByte := by kernel_rfl
  neB5 := by decide }
open Go.RowKit Go.Lib in
/-- **strings.Repeat: count ≥ 0, the result within one allocation: count copies of s.** (LAID: no walk: one application.) -/
theorem Tryd.strings_Repeat (s : ByteArray) (c : Nat) (w : World) (hc : c ≤ 9223372036854775807) (hlen : s.size * c ≤ 140737488355328) :
    Calls Tryd.prog 26 #[.string s, .int .i64 c] w fun e w' => e = .returned (.string ⟨(Lib.repeatL s.data.toList c).toArray⟩) ∧ Below w.heap.size w w' := Any.strings_Repeat Tryd.lays105 Tryd.Builder_Extra_105 s c w hc hlen
end Go.Proofs

/-
  Rows that are handed in: read only, from any cell of a block on. It speaks of no program.
-/
namespace Go.Proofs.YtahiopdkekkibaaDoor
open Go Go.RowKit Go.ChangeShapes Go.WideShapes
set_option linter.unusedVariables false
set_option linter.unusedSimpArgs false

/-- Objects that are only read, under the numbers from k on. -/
def rdN : Nat → List SObj → List (Nat × Ent)
  | _, [] => []
  | k, o :: l => (k, ⟨o, false⟩) :: rdN (k + 1) l
theorem aget_rdN : ∀ (l : List SObj) (k id : Nat), aget (rdN k l) id = if k ≤ id then (l[id - k]?).map (fun o => (⟨o, false⟩ : Ent)) else none
  | [], k, id => by simp [rdN, aget]
  | o :: l, k, id => by
    unfold rdN aget
    by_cases h : k = id
    · subst h; simp
    · rw [if_neg h, aget_rdN l (k + 1) id]
      by_cases h2 : k + 1 ≤ id
      · rw [if_pos h2, if_pos (by omega), show id - k = (id - (k + 1)) + 1 by omega]; simp
      · rw [if_neg h2, if_neg (by omega)]
def lcOf (ps : List (Option (Blk × Nat))) : Lc := fun id => ps[id]?
/-- What it means for a caller outside who hands rows in: memory below is as it was. -/
theorem tri_callsR {P : Program} {G : List GFact} {f : FuncId} {args : List CV} {os : List SObj} {res : SV} {hp' : List (Nat × Ent)} (h : TriG P G f args (rdN 0 os) res hp') (w : World) (ps : List (Option (Blk × Nat))) (hl : ps.length = os.length)
    (ho : ∀ (i : Nat) o p, os[i]? = some o → ps[i]? = some p → ∀ r, ObjRel r w p o) {vals : List Value} (hv : All2 (CV.rel (lcOf ps)) args vals) (hg : ∀ f ∈ G, f.p w) :
    Calls P f vals.toArray w fun e w' => ∃ u r', e = .returned u ∧ res.rel r' u ∧ Below w.heap.size w w' := by
  have hwr : ∀ id e, aget (rdN 0 os) id = some e → e.wr = false := fun id e he => by
    rw [aget_rdN] at he
    simp only [Nat.zero_le, if_true, Nat.sub_zero, Option.map_eq_some_iff] at he
    obtain ⟨o, _, rfl⟩ := he
    rfl
  have hno : ∀ b, ¬ (cw G (lcOf ps) (rdN 0 os) w).wb b := fun b ⟨id, e, g, c, h1, h2, _⟩ => by
    rw [hwr id e h1] at h2; cases h2
  have hh : HeapOk (cw G (lcOf ps) (rdN 0 os) w) (lcOf ps) (rdN 0 os) w := {
    dom := fun id => by
      rw [aget_rdN]
      simp only [Nat.zero_le, if_true, Nat.sub_zero, lcOf, Option.map_eq_none_iff, List.getElem?_eq_none_iff, hl]
    obj := fun id e p he hp => by
      rw [aget_rdN] at he
      simp only [Nat.zero_le, if_true, Nat.sub_zero, Option.map_eq_some_iff] at he
      obtain ⟨o, h1, rfl⟩ := he
      exact ho id o p h1 hp _
    inj := fun i j e f g g' c d hi hj li lj ri rj wi => by rw [hwr i e hi] at wi; cases wi
    own := fun id e g c he hl hw => by rw [hwr id e he] at hw; cases hw
    glob := fun f hf => ⟨hg f hf, hno _⟩
    os := rfl
    tape := rfl
    output := rfl
    size := Nat.le_refl _
    same := fun _ _ _ => rfl }
  exact (h _ w vals hv hh).mono fun e w' ⟨u, r', h1, _, h2, h3⟩ => ⟨u, r', h1, h2, h3.os, h3.tape, h3.output, h3.size, fun b hb => h3.same b hb (hno b)⟩
/-- A row that was handed in: where it lies, and that it is it. -/
structure ArgR (w : World) (o : SObj) (st n : Nat) (v : Value) (p : Option (Blk × Nat)) : Prop where
  obj : ∀ r, ObjRel r w p o
  rel : ∀ (r : Lc) id, r id = some p → AV.rel r (.sl id 0 st n) v
theorem argR_nil {w : World} {α : Type} {L : Lay α} {st : Nat} {a : Option Addr} : ArgR w (.arr α L []) st 0 (.slice a 0 0) none :=
  ⟨fun r _ => .inl ⟨rfl, rfl⟩, fun r id h => .inl ⟨h, rfl, rfl, a, rfl⟩⟩
theorem argR_some {w : World} {a : Addr} {len cap st : Nat} {o : SObj} (hs : o.stride = st) (hst : 0 < st) (hlc : len ≤ cap) (hfl : o.flat.length = len * st) (hin : ∀ j, j < cap * st → ∃ u, w.cell? (a.add j) = some u)
    (hcell : ∀ (j : Nat) x, o.flat[j]? = some x → ∃ u, w.cell? (a.add j) = some u ∧ ∀ r, x.rel r u) : ∃ p, ArgR w o st len (.slice (some a) len cap) p := by
  rcases Nat.eq_zero_or_pos cap with h0 | h0
  · subst h0
    have hn : len = 0 := by omega
    subst hn
    have hf : o.flat = [] := List.eq_nil_of_length_eq_zero (by simpa using hfl)
    exact ⟨none, fun r _ => .inl ⟨rfl, hf⟩, fun r id h => .inl ⟨h, rfl, rfl, some a, rfl⟩⟩
  · have hpos : 0 < cap * st := Nat.mul_pos h0 hst
    obtain ⟨u0, hu0⟩ := hin 0 hpos
    rw [Addr.add, if_pos rfl] at hu0
    obtain ⟨b, off, spot⟩ := a
    unfold World.cell? at hu0
    split at hu0
    case h_2 => cases hu0
    rename_i ds t fz hds
    have hspot : spot = none := by
      cases spot with
      | none => rfl
      | some s => simp at hu0
    subst hspot
    have hc : ∀ j, w.cell? ((⟨b, off, none⟩ : Addr).add j) = ds[off + j]? := fun j => by
      rw [Addr.add_plain]
      exact cell_of_row w b (off + j) ds t fz hds
    have hlast : off + cap * st ≤ ds.size := by
      obtain ⟨u, hu⟩ := hin (cap * st - 1) (by omega)
      rw [hc] at hu
      have := (Array.getElem?_eq_some_iff.1 hu).1
      omega
    refine ⟨some ((b, some off), cap), fun r _ => .inr ⟨(b, some off), cap, ds.extract off ds.size, rfl, ⟨ds, t, fz, hds, fun j => ?_, fun h => by cases h⟩, ?_, fun j x hx => ?_⟩, fun r id h => .inr ⟨(b, some off), cap, off, h, by omega, fun _ => by simp [Blk.off], rfl⟩⟩
    · simp only [Blk.off, Option.getD_some, Array.getElem?_extract]
      by_cases hj : j < min ds.size ds.size - off
      · rw [if_pos hj, Nat.add_comm]
      · rw [if_neg hj, Array.getElem?_eq_none (by omega)]
    · rw [hs, Array.size_extract]; omega
    · obtain ⟨u, hu, hr⟩ := hcell j x hx
      rw [hc] at hu
      refine ⟨u, ?_, hr r⟩
      have := (Array.getElem?_eq_some_iff.1 hu).1
      rw [Array.getElem?_extract, if_pos (by omega)]
      exact hu
theorem flat_get {α : Type} (L : Lay α) (hst : 0 < L.st) : ∀ (l : List α) (j : Nat), (l.flatMap L.enc)[j]? = (l[j / L.st]?).bind fun x => (L.enc x)[j % L.st]?
  | [], j => by simp
  | x :: l, j => by
    rw [List.flatMap_cons]
    by_cases h : j < L.st
    · rw [List.getElem?_append_left (by rw [L.len]; exact h), Nat.div_eq_of_lt h, Nat.mod_eq_of_lt h]; rfl
    · obtain ⟨i, rfl⟩ : ∃ i, j = L.st + i := ⟨j - L.st, by omega⟩
      rw [List.getElem?_append_right (by rw [L.len]; omega), L.len, flat_get L hst l, Nat.add_sub_cancel_left, Nat.add_div_left _ hst, Nat.add_mod_left]
      rfl
section
variable {H : Type} {enc : TypeId × Value → H} {P : Program} {W : World}
/-- A slice among the arguments, opened as a row. -/
theorem open_row {α : Type} {L : Lay α} {T E : TypeId} {Q : α → Prop} (hT : P.underlying T = some (.slice E)) (hz : P.cellsOf E = L.st) (hst : 0 < L.st)
    (dec : ∀ (n : Nat) (cs : List Value) y, DataW.trod enc P W 0 (fun _ => true) true n E cs = some y → cs.length = L.st → ∃ x : α, Q x ∧ ∀ r, All2 (AV.rel r) (L.enc x) cs)
    {rc : Reach} {b0 : Nat} {v : Value} {d : DataW H} {ps : List MemPlace} (hval : Value.okWide P W rc b0 T v) (h : DataW.Trod enc P W 0 (fun _ => true) true T v d ps) :
    ∃ (l : List α) (p : Option (Blk × Nat)), ArgR W (.arr α L l) L.st l.length v p ∧ l.length ≤ maxLen ∧ ∀ x ∈ l, Q x := by
  obtain ⟨a0, len, cap, rfl⟩ := okWide_slice hT hval
  obtain ⟨fuel, hf⟩ := h
  rcases Deep.open_slice hT hf with ⟨hcs, _⟩ | ⟨a, len', cap', m, n, D, Pl, hcs, _, hl, hm, hmm, _, hx⟩
  · simp [Value.cells] at hcs
    obtain ⟨rfl, rfl, rfl⟩ := hcs
    exact ⟨[], none, argR_nil, Nat.zero_le _, fun x hx => by cases hx⟩
  · simp [Value.cells] at hcs
    obtain ⟨rfl, rfl, rfl⟩ := hcs
    simp only [if_true] at hmm
    subst hmm
    rw [hz] at hx
    have key : ∀ k, k ≤ m → ∃ l : List α, l.length = k ∧ (∀ x ∈ l, Q x) ∧ ∀ (i : Nat) x, l[i]? = some x → ∃ cs, W.cells? 0 (a.add (i * L.st)) L.st = some cs ∧ ∀ r, All2 (AV.rel r) (L.enc x) cs := fun k => by
      induction k with
      | zero => exact fun _ => ⟨[], rfl, (fun x h => by cases h), fun i x h => by simp at h⟩
      | succ k ih =>
        intro hk
        obtain ⟨l, h1, h2, h3⟩ := ih (by omega)
        obtain ⟨cs, h4, h5⟩ := hx k (by omega)
        obtain ⟨_, hcl, _⟩ := World.cells?_some h4
        obtain ⟨x, hq, hr⟩ := dec n cs _ h5 hcl
        refine ⟨l ++ [x], by simp [h1], fun y hy => ?_, fun i y hy => ?_⟩
        · rcases List.mem_append.1 hy with hy | hy
          · exact h2 y hy
          · rw [List.mem_singleton.1 hy]; exact hq
        · by_cases hi : i < l.length
          · rw [List.getElem?_append_left hi] at hy; exact h3 i y hy
          · rw [List.getElem?_append_right (by omega)] at hy
            have hi' : i = k := by
              have := (List.getElem?_eq_some_iff.1 hy).1
              simp at this
              omega
            subst hi'
            rw [h1, Nat.sub_self] at hy
            simp only [List.getElem?_cons_zero, Option.some.injEq] at hy
            subst hy
            exact ⟨cs, h4, hr⟩
    obtain ⟨l, h1, h2, h3⟩ := key len hl
    obtain ⟨p, hp⟩ := argR_some (w := W) (a := a) (len := len) (cap := m) (st := L.st) (o := .arr α L l) rfl hst hl (by show (l.flatMap L.enc).length = _; rw [flat_length, h1]) (fun j hj => by
      have hd : j / L.st < m := Nat.div_lt_of_lt_mul (by rw [Nat.mul_comm]; exact hj)
      obtain ⟨cs, h4, _⟩ := hx _ hd
      obtain ⟨_, hcl, hce⟩ := World.cells?_some h4
      have hmod := Nat.mod_lt j hst
      have := hce (j % L.st) hmod
      rw [Deep.add_add, Nat.div_add_mod'] at this
      rw [this, List.getElem?_eq_getElem (by omega)]
      exact ⟨_, rfl⟩) (fun j x hjx => by
      have hjx : (l.flatMap L.enc)[j]? = some x := hjx
      rw [flat_get L hst] at hjx
      obtain ⟨y, hy, hyx⟩ := Option.bind_eq_some_iff.1 hjx
      obtain ⟨cs, h4, hr⟩ := h3 _ y hy
      obtain ⟨_, hcl, hce⟩ := World.cells?_some h4
      have := hce (j % L.st) (Nat.mod_lt j hst)
      rw [Deep.add_add, Nat.div_add_mod'] at this
      obtain ⟨u, hu, _⟩ := (hr fun _ => none).get _ _ hyx
      refine ⟨u, by rw [this, hu], fun r => ?_⟩
      obtain ⟨u', hu', hr'⟩ := (hr r).get _ _ hyx
      rw [hu] at hu'
      cases hu'
      exact hr')
    refine ⟨l, p, by rw [h1]; exact hp, by omega, h2⟩
end
end Go.Proofs.YtahiopdkekkibaaDoor

/-
  Layer 1: words, a round, the schedule of a block.
-/
namespace Go.Proofs.YtahiopdkekkibaaDoor.FH
open Go Go.RowKit
set_option maxHeartbeats 4000000
set_option linter.unusedSimpArgs false
set_option linter.unusedVariables false
def ga0 : Nat → Option Con := fun _ => none
theorem ga0_ok : GaOk Tryd.prog ga0 := fun f con h => by cases h
noncomputable def envOf (ga : Nat → Option Con) (nt : Nat) : Env := ⟨ty, ga, [], nt, [], []⟩
theorem envOf_ok {ga : Nat → Option Con} (h : GaOk Tryd.prog ga) (nt : Nat) : EnvOk Tryd.prog (envOf ga nt) := ⟨ty_ok, h, by first | rfl | decide⟩
def u32L : Lay UInt32 where
  st := 1
  enc x := [.u32 x]
  d := 0
  up x j ys := match ys with
    | [.u32 y] => if j = 0 then some y else none
    | _ => none
  toB := none
  ofB := none
  len _ := rfl
  put x j ys y h := by
    split at h
    · split at h
      · rename_i h0
        injection h with h; subst h; subst h0; simp
      · cases h
    · cases h
  plain x v h := by simp at h; subst h; trivial
  bare x v h := by simp at h; subst h; trivial
  toB_ok f h x := by cases h
  ofB_ok f h x := by cases h
theorem u32L_st : u32L.st = 1 := rfl
theorem u32L_d : u32L.d = 0 := rfl
theorem u32L_enc (x : UInt32) : u32L.enc x = [.u32 x] := rfl
theorem u32L_up (x y : UInt32) : u32L.up x 0 [.u32 y] = some y := rfl
theorem u32_flat (l : List UInt32) : l.flatMap u32L.enc = l.map AV.u32 := by
  show l.flatMap (fun x : UInt32 => [AV.u32 x]) = _
  induction l with
  | nil => rfl
  | cons x l ih => rw [List.flatMap_cons, ih]; rfl
theorem u32_plain (l : List UInt32) : PlainL (l.map AV.u32) := fun y hy => by
  obtain ⟨x, _, rfl⟩ := List.mem_map.1 hy
  trivial
theorem u32_ren (f : Nat → Nat) (l : List UInt32) : (l.map AV.u32).map (AV.ren f) = l.map AV.u32 := by
  rw [List.map_map]; rfl
theorem u32_ids : ∀ l : List UInt32, (l.map AV.u32).flatMap AV.ids = []
  | [] => rfl
  | x :: l => by rw [List.map_cons, List.flatMap_cons, u32_ids l]; rfl
def rot32 (x : UInt32) (k : Int) : UInt32 := shl32 x (by64 k &&& 31).toNat ||| shr32 x (32 - (by64 k &&& 31)).toNat
theorem rot_tri (x : UInt32) (k : Int) : Tri Tryd.prog 110 [.one (.u32 x), .one (.num k)] [] (.c (.one (.u32 (rot32 x k)))) [] := by
  refine tri_of (envOf_ok ga0_ok 17) Tryd.func110 rfl rfl (rs := [.tmp 4]) rfl rfl (by simp [envOf]) rfl [] ?_
  simp only [envOf, go_sem, reduceCtorEq, ↓reduceIte, Nat.reduceAdd, Nat.reduceMul, Nat.reduceSub, Nat.reduceEqDiff, Nat.reduceLT, Nat.reduceBEq, Nat.reduceBNe, Nat.reduceLeDiff, Int.reduceLE, Int.reduceLT, Int.reduceToNat, Int.reduceEq, Int.reduceAdd, UInt8.reduceToNat, UInt32.reduceToNat, UInt64.reduceToNat, UInt8.reduceOfNat, UInt32.reduceOfNat, UInt64.reduceOfNat, Fin.isValue, Int.reduceSub, Int.reduceMul, Int.reduceNeg, Int.reduceMod, Int.reduceDiv, Int.reduceTDiv, Int.reduceTMod, Int.reduceBEq, Int.reduceBNe, Nat.reduceDiv, Nat.reducePow]
  rfl
def rotC : Con := con0 fun args => match args with
  | [.one (.u32 x), .one (.num k)] => some (.c (.one (.u32 (rot32 x k))), [])
  | _ => none
theorem rotC_ok : ConOk Tryd.prog 110 rotC := con0_ok Tryd.func110 rfl rfl fun args res ob h hob => by
  split at h
  · injection h with h; injection h with h1 h2; subst h1; subst h2; exact rot_tri _ _
  · cases h
structure W8 where
  (a b c d e f g h : UInt32)
def W8.cv (v : W8) : CV := .agg [.u32 v.a, .u32 v.b, .u32 v.c, .u32 v.d, .u32 v.e, .u32 v.f, .u32 v.g, .u32 v.h]
theorem W8.eta (v : W8) : W8.mk v.a v.b v.c v.d v.e v.f v.g v.h = v := rfl
def mixE (e : UInt32) : UInt32 := rot32 e (-6) ^^^ rot32 e (-11) ^^^ rot32 e (-25)
def mixA (a : UInt32) : UInt32 := rot32 a (-2) ^^^ rot32 a (-13) ^^^ rot32 a (-22)
def roundT (v : W8) (w : UInt32) : UInt32 := v.h + mixE v.e + (v.e &&& v.f ^^^ (4294967295 ^^^ v.e) &&& v.g) + w
def roundW (v : W8) (w : UInt32) : W8 := ⟨roundT v w + mixA v.a + (v.a &&& v.b ^^^ v.a &&& v.c ^^^ v.b &&& v.c), v.a, v.b, v.c, v.d + roundT v w, v.e, v.f, v.g⟩
def ha1 : Nat → Option Con := fun f => match f with
  | 110 => some rotC
  | _ => none
theorem ha1_ok : GaOk Tryd.prog ha1 := fun f con h => by
  unfold ha1 at h
  split at h
  · injection h with h; subst h; exact rotC_ok
  · cases h
set_option maxRecDepth 100000 in
theorem round_tri (v : W8) (w : UInt32) : Tri Tryd.prog 114 [v.cv, .one (.u32 w)] [] (.c (roundW v w).cv) [] := by
  refine tri_of (envOf_ok ha1_ok 91) Tryd.func114 rfl rfl (rs := [.cell 4 140]) rfl rfl (by simp [envOf]) rfl [] ?_
  simp only [envOf, ha1, rotC, W8.cv, W8.eta, go_sem, reduceCtorEq, ↓reduceIte, Nat.reduceAdd, Nat.reduceMul, Nat.reduceSub, Nat.reduceEqDiff, Nat.reduceLT, Nat.reduceBEq, Nat.reduceBNe, Nat.reduceLeDiff, Int.reduceLE, Int.reduceLT, Int.reduceToNat, Int.reduceEq, Int.reduceAdd, UInt8.reduceToNat, UInt32.reduceToNat, UInt64.reduceToNat, UInt8.reduceOfNat, UInt32.reduceOfNat, UInt64.reduceOfNat, Fin.isValue, Int.reduceSub, Int.reduceMul, Int.reduceNeg, Int.reduceMod, Int.reduceDiv, Int.reduceTDiv, Int.reduceTMod, Int.reduceBEq, Int.reduceBNe, Nat.reduceDiv, Nat.reducePow]
  repeat' apply And.intro
  all_goals first
    | rfl
    | trace_state
def roundC : Con := con0 fun args => match args with
  | [.agg [.u32 a, .u32 b, .u32 c, .u32 d, .u32 e, .u32 f, .u32 g, .u32 h], .one (.u32 w)] => some (.c (roundW ⟨a, b, c, d, e, f, g, h⟩ w).cv, [])
  | _ => none
theorem roundC_ok : ConOk Tryd.prog 114 roundC := con0_ok Tryd.func114 rfl rfl fun args res ob h hob => by
  split at h
  · injection h with h; injection h with h1 h2; subst h1; subst h2; exact round_tri ⟨_, _, _, _, _, _, _, _⟩ _
  · cases h
-- THE SCHEDULE
def wb (s : List UInt8) (t : Nat) : UInt32 := shl32 (s.getD (4 * t) 0).toUInt32 24 ||| shl32 (s.getD (4 * t + 1) 0).toUInt32 16 ||| shl32 (s.getD (4 * t + 2) 0).toUInt32 8 ||| (s.getD (4 * t + 3) 0).toUInt32
def nextW (l : List UInt32) (t : Nat) : UInt32 := l.getD (t - 16) 0 + (rot32 (l.getD (t - 15) 0) (-7) ^^^ rot32 (l.getD (t - 15) 0) (-18) ^^^ shr32 (l.getD (t - 15) 0) 3) + l.getD (t - 7) 0 + (rot32 (l.getD (t - 2) 0) (-17) ^^^ rot32 (l.getD (t - 2) 0) (-19) ^^^ shr32 (l.getD (t - 2) 0) 10)
def schedL (s : List UInt8) : Nat → List UInt32
  | 0 => []
  | t + 1 => schedL s t ++ [if t < 16 then wb s t else nextW (schedL s t) t]
theorem schedL_len (s : List UInt8) : ∀ t, (schedL s t).length = t
  | 0 => rfl
  | t + 1 => by rw [schedL, List.length_append, schedL_len s t]; rfl
def padW (l : List UInt32) : List UInt32 := l ++ List.replicate (64 - l.length) 0
theorem padW_get (l : List UInt32) (i : Nat) (h : i < l.length) : (padW l).getD i 0 = l.getD i 0 := by
  unfold padW
  rw [List.getD_eq_getElem?_getD, List.getElem?_append_left h, ← List.getD_eq_getElem?_getD]
theorem padW_set (l : List UInt32) (v : UInt32) (h : l.length < 64) : (padW l).set l.length v = padW (l ++ [v]) := by
  unfold padW
  rw [List.set_append_right _ _ (Nat.le_refl _), Nat.sub_self, show 64 - l.length = (63 - l.length) + 1 by omega, List.replicate_succ, List.set_cons_zero, List.length_append, List.length_singleton, show 64 - (l.length + 1) = 63 - l.length by omega, List.append_assoc]
  rfl
theorem padW_len (l : List UInt32) (h : l.length ≤ 64) : (padW l).length = 64 := by
  unfold padW
  rw [List.length_append, List.length_replicate]; omega
theorem padW_all (l : List UInt32) (h : l.length = 64) : padW l = l := by
  unfold padW
  rw [h, Nat.sub_self, List.replicate_zero, List.append_nil]
theorem padW_nil : (padW []).flatMap u32L.enc = [.u32 0, .u32 0, .u32 0, .u32 0, .u32 0, .u32 0, .u32 0, .u32 0, .u32 0, .u32 0, .u32 0, .u32 0, .u32 0, .u32 0, .u32 0, .u32 0, .u32 0, .u32 0, .u32 0, .u32 0, .u32 0, .u32 0, .u32 0, .u32 0, .u32 0, .u32 0, .u32 0, .u32 0, .u32 0, .u32 0, .u32 0, .u32 0, .u32 0, .u32 0, .u32 0, .u32 0, .u32 0, .u32 0, .u32 0, .u32 0, .u32 0, .u32 0, .u32 0, .u32 0, .u32 0, .u32 0, .u32 0, .u32 0, .u32 0, .u32 0, .u32 0, .u32 0, .u32 0, .u32 0, .u32 0, .u32 0, .u32 0, .u32 0, .u32 0, .u32 0, .u32 0, .u32 0, .u32 0, .u32 0] := by rw [u32_flat]; rfl
def z64 : List UInt32 := List.replicate 64 0
theorem z64_flat : z64.flatMap u32L.enc = [.u32 0, .u32 0, .u32 0, .u32 0, .u32 0, .u32 0, .u32 0, .u32 0, .u32 0, .u32 0, .u32 0, .u32 0, .u32 0, .u32 0, .u32 0, .u32 0, .u32 0, .u32 0, .u32 0, .u32 0, .u32 0, .u32 0, .u32 0, .u32 0, .u32 0, .u32 0, .u32 0, .u32 0, .u32 0, .u32 0, .u32 0, .u32 0, .u32 0, .u32 0, .u32 0, .u32 0, .u32 0, .u32 0, .u32 0, .u32 0, .u32 0, .u32 0, .u32 0, .u32 0, .u32 0, .u32 0, .u32 0, .u32 0, .u32 0, .u32 0, .u32 0, .u32 0, .u32 0, .u32 0, .u32 0, .u32 0, .u32 0, .u32 0, .u32 0, .u32 0, .u32 0, .u32 0, .u32 0, .u32 0] := by rw [u32_flat]; rfl
theorem z64_len : z64.length = 64 := rfl
def sc1 (s : List UInt8) (t : Nat) : St := ⟨[(0, .c (.one (.str s))), (2, .c (.one (.ptr 10000 0 0 0))), (3, .c (.one (.ptr 20000 0 0 0))), (10, .c (.one (.num t)))], [(10000, ⟨.arr UInt32 u32L z64, true⟩), (20000, ⟨.arr UInt32 u32L (padW (schedL s t)), true⟩)]⟩
def sc2 (s : List UInt8) (t : Nat) : St := ⟨[(2, .c (.one (.ptr 10000 0 0 0))), (3, .c (.one (.ptr 20000 0 0 0))), (5, .c (.one (.num t)))], [(10000, ⟨.arr UInt32 u32L z64, true⟩), (20000, ⟨.arr UInt32 u32L (padW (schedL s t)), true⟩)]⟩
set_option maxRecDepth 100000 in
theorem schedule_tri (s : List UInt8) (hs : s.length = 64) : Tri Tryd.prog 113 [.one (.str s)] [] (.c (.agg ((schedL s 64).map AV.u32))) [] := by
  refine tri_of (envOf_ok ha1_ok 89) Tryd.func113 rfl rfl (rs := [.cell 2 150]) rfl rfl (by simp [envOf]) rfl [] ?_
  simp only [envOf, ha1, rotC, go_sem, reduceCtorEq, ↓reduceIte, Nat.reduceAdd, Nat.reduceMul, Nat.reduceSub, Nat.reduceEqDiff, Nat.reduceLT, Nat.reduceBEq, Nat.reduceBNe, Nat.reduceLeDiff, Int.reduceLE, Int.reduceLT, Int.reduceToNat, Int.reduceEq, Int.reduceAdd, UInt8.reduceToNat, UInt32.reduceToNat, UInt64.reduceToNat, UInt8.reduceOfNat, UInt32.reduceOfNat, UInt64.reduceOfNat, Fin.isValue, Int.reduceSub, Int.reduceMul, Int.reduceNeg, Int.reduceMod, Int.reduceDiv, Int.reduceTDiv, Int.reduceTMod, Int.reduceBEq, Int.reduceBNe, Nat.reduceDiv, Nat.reducePow]
  refine loop_inv (envOf_ok ha1_ok 89) (sc1 s) (fun t => t ≤ 16) (fun t => 16 - t) 0 [] (by omega) ?_ ?_
  · simp only [sc1, schedL, padW_nil, z64_flat, u32L_st, go_sem, reduceCtorEq, ↓reduceIte, Nat.reduceAdd, Nat.reduceMul, Nat.reduceSub, Nat.reduceEqDiff, Nat.reduceLT, Nat.reduceBEq, Nat.reduceBNe, Nat.reduceLeDiff, Int.reduceLE, Int.reduceLT, Int.reduceToNat, Int.reduceEq, Int.reduceAdd, UInt8.reduceToNat, UInt32.reduceToNat, UInt64.reduceToNat, UInt8.reduceOfNat, UInt32.reduceOfNat, UInt64.reduceOfNat, Fin.isValue, Int.reduceSub, Int.reduceMul, Int.reduceNeg, Int.reduceMod, Int.reduceDiv, Int.reduceTDiv, Int.reduceTMod, Int.reduceBEq, Int.reduceBNe, Nat.reduceDiv, Nat.reducePow]
    all_goals first
      | exact ⟨rfl, rfl⟩
      | trace_state
  · intro t ht
    have hl := schedL_len s t
    have hp := padW_len (schedL s t) (by omega)
    simp only [sc1, envOf, ha1, rotC, go_sem, reduceCtorEq, ↓reduceIte, Nat.reduceAdd, Nat.reduceMul, Nat.reduceSub, Nat.reduceEqDiff, Nat.reduceLT, Nat.reduceBEq, Nat.reduceBNe, Nat.reduceLeDiff, Int.reduceLE, Int.reduceLT, Int.reduceToNat, Int.reduceEq, Int.reduceAdd, UInt8.reduceToNat, UInt32.reduceToNat, UInt64.reduceToNat, UInt8.reduceOfNat, UInt32.reduceOfNat, UInt64.reduceOfNat, Fin.isValue, Int.reduceSub, Int.reduceMul, Int.reduceNeg, Int.reduceMod, Int.reduceDiv, Int.reduceTDiv, Int.reduceTMod, Int.reduceBEq, Int.reduceBNe, Nat.reduceDiv, Nat.reducePow]
    refine br (fun hc => ?_) fun hc => ?_
    · have hc' := of_decide_eq_true hc
      have w0 : IntKind.i64.wrap (4 * (t : Int)) = ((4 * t : Nat) : Int) := by rw [IntKind.wrap_i64]; omega
      have w1 : IntKind.i64.wrap (((4 * t : Nat) : Int) + 1) = ((4 * t + 1 : Nat) : Int) := by rw [IntKind.wrap_i64]; omega
      have w2 : IntKind.i64.wrap (((4 * t : Nat) : Int) + 2) = ((4 * t + 2 : Nat) : Int) := by rw [IntKind.wrap_i64]; omega
      have w3 : IntKind.i64.wrap (((4 * t : Nat) : Int) + 3) = ((4 * t + 3 : Nat) : Int) := by rw [IntKind.wrap_i64]; omega
      have w4 : IntKind.i64.wrap ((t : Int) + 1) = ((t + 1 : Nat) : Int) := by rw [IntKind.wrap_i64]; omega
      have hst := padW_set (schedL s t) (wb s t) (by omega)
      rw [hl] at hst
      have hsu : schedL s (t + 1) = schedL s t ++ [wb s t] := by rw [schedL, if_pos (by omega)]
      unfold wb at hst hsu
      simp only [hc, w0, w1, w2, w3, w4, hs, u32L_st, u32L_d, u32L_enc, u32L_up, envOf, ha1, rotC, go_sem, reduceCtorEq, ↓reduceIte, Nat.reduceAdd, Nat.reduceMul, Nat.reduceSub, Nat.reduceEqDiff, Nat.reduceLT, Nat.reduceBEq, Nat.reduceBNe, Nat.reduceLeDiff, Int.reduceLE, Int.reduceLT, Int.reduceToNat, Int.reduceEq, Int.reduceAdd, UInt8.reduceToNat, UInt32.reduceToNat, UInt64.reduceToNat, UInt8.reduceOfNat, UInt32.reduceOfNat, UInt64.reduceOfNat, Fin.isValue, Int.reduceSub, Int.reduceMul, Int.reduceNeg, Int.reduceMod, Int.reduceDiv, Int.reduceTDiv, Int.reduceTMod, Int.reduceBEq, Int.reduceBNe, Nat.reduceDiv, Nat.reducePow]
      repeat' apply And.intro
      all_goals first
        | omega
        | rfl
        | skip
      refine again (t + 1) [] (by omega) (by omega) ?_
      simp only [sc1, hsu, hst, go_sem, reduceCtorEq, ↓reduceIte, Nat.reduceAdd, Nat.reduceMul, Nat.reduceSub, Nat.reduceEqDiff, Nat.reduceLT, Nat.reduceBEq, Nat.reduceBNe, Nat.reduceLeDiff, Int.reduceLE, Int.reduceLT, Int.reduceToNat, Int.reduceEq, Int.reduceAdd, UInt8.reduceToNat, UInt32.reduceToNat, UInt64.reduceToNat, UInt8.reduceOfNat, UInt32.reduceOfNat, UInt64.reduceOfNat, Fin.isValue, Int.reduceSub, Int.reduceMul, Int.reduceNeg, Int.reduceMod, Int.reduceDiv, Int.reduceTDiv, Int.reduceTMod, Int.reduceBEq, Int.reduceBNe, Nat.reduceDiv, Nat.reducePow]
      all_goals first
        | rfl
        | trace_state
    · obtain rfl : t = 16 := by have := of_decide_eq_false hc; omega
      simp only [hc, envOf, ha1, rotC, go_sem, reduceCtorEq, ↓reduceIte, Nat.reduceAdd, Nat.reduceMul, Nat.reduceSub, Nat.reduceEqDiff, Nat.reduceLT, Nat.reduceBEq, Nat.reduceBNe, Nat.reduceLeDiff, Int.reduceLE, Int.reduceLT, Int.reduceToNat, Int.reduceEq, Int.reduceAdd, UInt8.reduceToNat, UInt32.reduceToNat, UInt64.reduceToNat, UInt8.reduceOfNat, UInt32.reduceOfNat, UInt64.reduceOfNat, Fin.isValue, Int.reduceSub, Int.reduceMul, Int.reduceNeg, Int.reduceMod, Int.reduceDiv, Int.reduceTDiv, Int.reduceTMod, Int.reduceBEq, Int.reduceBNe, Nat.reduceDiv, Nat.reducePow]
      refine loop_inv (envOf_ok ha1_ok 89) (sc2 s) (fun t => 16 ≤ t ∧ t ≤ 64) (fun t => 64 - t) 16 [] ⟨by omega, by omega⟩ ?_ ?_
      · simp only [sc2, go_sem, reduceCtorEq, ↓reduceIte, Nat.reduceAdd, Nat.reduceMul, Nat.reduceSub, Nat.reduceEqDiff, Nat.reduceLT, Nat.reduceBEq, Nat.reduceBNe, Nat.reduceLeDiff, Int.reduceLE, Int.reduceLT, Int.reduceToNat, Int.reduceEq, Int.reduceAdd, UInt8.reduceToNat, UInt32.reduceToNat, UInt64.reduceToNat, UInt8.reduceOfNat, UInt32.reduceOfNat, UInt64.reduceOfNat, Fin.isValue, Int.reduceSub, Int.reduceMul, Int.reduceNeg, Int.reduceMod, Int.reduceDiv, Int.reduceTDiv, Int.reduceTMod, Int.reduceBEq, Int.reduceBNe, Nat.reduceDiv, Nat.reducePow]
      · rintro t ⟨t1, t2⟩
        have hl := schedL_len s t
        have hp := padW_len (schedL s t) (by omega)
        simp only [sc2, envOf, ha1, rotC, go_sem, reduceCtorEq, ↓reduceIte, Nat.reduceAdd, Nat.reduceMul, Nat.reduceSub, Nat.reduceEqDiff, Nat.reduceLT, Nat.reduceBEq, Nat.reduceBNe, Nat.reduceLeDiff, Int.reduceLE, Int.reduceLT, Int.reduceToNat, Int.reduceEq, Int.reduceAdd, UInt8.reduceToNat, UInt32.reduceToNat, UInt64.reduceToNat, UInt8.reduceOfNat, UInt32.reduceOfNat, UInt64.reduceOfNat, Fin.isValue, Int.reduceSub, Int.reduceMul, Int.reduceNeg, Int.reduceMod, Int.reduceDiv, Int.reduceTDiv, Int.reduceTMod, Int.reduceBEq, Int.reduceBNe, Nat.reduceDiv, Nat.reducePow]
        refine br (fun hc => ?_) fun hc => ?_
        · have hc' := of_decide_eq_true hc
          have w0 : IntKind.i64.wrap ((t : Int) - 15) = ((t - 15 : Nat) : Int) := by rw [IntKind.wrap_i64]; omega
          have w1 : IntKind.i64.wrap ((t : Int) - 2) = ((t - 2 : Nat) : Int) := by rw [IntKind.wrap_i64]; omega
          have w2 : IntKind.i64.wrap ((t : Int) - 16) = ((t - 16 : Nat) : Int) := by rw [IntKind.wrap_i64]; omega
          have w3 : IntKind.i64.wrap ((t : Int) - 7) = ((t - 7 : Nat) : Int) := by rw [IntKind.wrap_i64]; omega
          have w4 : IntKind.i64.wrap ((t : Int) + 1) = ((t + 1 : Nat) : Int) := by rw [IntKind.wrap_i64]; omega
          have r0 := padW_get (schedL s t) (t - 15) (by omega)
          have r1 := padW_get (schedL s t) (t - 2) (by omega)
          have r2 := padW_get (schedL s t) (t - 16) (by omega)
          have r3 := padW_get (schedL s t) (t - 7) (by omega)
          have hst := padW_set (schedL s t) (nextW (schedL s t) t) (by omega)
          rw [hl] at hst
          have hsu : schedL s (t + 1) = schedL s t ++ [nextW (schedL s t) t] := by rw [schedL, if_neg (by omega)]
          unfold nextW at hst hsu
          simp only [hc, w0, w1, w2, w3, w4, r0, r1, r2, r3, u32L_st, u32L_d, u32L_enc, u32L_up, envOf, ha1, rotC, go_sem, reduceCtorEq, ↓reduceIte, Nat.reduceAdd, Nat.reduceMul, Nat.reduceSub, Nat.reduceEqDiff, Nat.reduceLT, Nat.reduceBEq, Nat.reduceBNe, Nat.reduceLeDiff, Int.reduceLE, Int.reduceLT, Int.reduceToNat, Int.reduceEq, Int.reduceAdd, UInt8.reduceToNat, UInt32.reduceToNat, UInt64.reduceToNat, UInt8.reduceOfNat, UInt32.reduceOfNat, UInt64.reduceOfNat, Fin.isValue, Int.reduceSub, Int.reduceMul, Int.reduceNeg, Int.reduceMod, Int.reduceDiv, Int.reduceTDiv, Int.reduceTMod, Int.reduceBEq, Int.reduceBNe, Nat.reduceDiv, Nat.reducePow]
          repeat' apply And.intro
          all_goals first
            | omega
            | rfl
            | skip
          refine again (t + 1) [] ⟨by omega, by omega⟩ (by omega) ?_
          simp only [sc2, hsu, hst, go_sem, reduceCtorEq, ↓reduceIte, Nat.reduceAdd, Nat.reduceMul, Nat.reduceSub, Nat.reduceEqDiff, Nat.reduceLT, Nat.reduceBEq, Nat.reduceBNe, Nat.reduceLeDiff, Int.reduceLE, Int.reduceLT, Int.reduceToNat, Int.reduceEq, Int.reduceAdd, UInt8.reduceToNat, UInt32.reduceToNat, UInt64.reduceToNat, UInt8.reduceOfNat, UInt32.reduceOfNat, UInt64.reduceOfNat, Fin.isValue, Int.reduceSub, Int.reduceMul, Int.reduceNeg, Int.reduceMod, Int.reduceDiv, Int.reduceTDiv, Int.reduceTMod, Int.reduceBEq, Int.reduceBNe, Nat.reduceDiv, Nat.reducePow]
          all_goals first
            | rfl
            | trace_state
        · obtain rfl : t = 64 := by have := of_decide_eq_false hc; omega
          have h64 := schedL_len s 64
          have hpa := padW_all (schedL s 64) h64
          simp only [hc, hpa, u32_flat, u32L_st, List.length_map, h64, z64_len, envOf, ha1, rotC, go_sem, reduceCtorEq, ↓reduceIte, Nat.reduceAdd, Nat.reduceMul, Nat.reduceSub, Nat.reduceEqDiff, Nat.reduceLT, Nat.reduceBEq, Nat.reduceBNe, Nat.reduceLeDiff, Int.reduceLE, Int.reduceLT, Int.reduceToNat, Int.reduceEq, Int.reduceAdd, UInt8.reduceToNat, UInt32.reduceToNat, UInt64.reduceToNat, UInt8.reduceOfNat, UInt32.reduceOfNat, UInt64.reduceOfNat, Fin.isValue, Int.reduceSub, Int.reduceMul, Int.reduceNeg, Int.reduceMod, Int.reduceDiv, Int.reduceTDiv, Int.reduceTMod, Int.reduceBEq, Int.reduceBNe, Nat.reduceDiv, Nat.reducePow]
          exact ⟨u32_plain _, by rw [u32_ren, List.take_of_length_le (by rw [List.length_map, h64]; exact Nat.le_refl _)], by rw [u32_ids]; rfl⟩
def scheduleC : Con := con0 fun args => match args with
  | [.one (.str s)] => some (.c (.agg ((schedL s 64).map AV.u32)), [s.length = 64])
  | _ => none
theorem scheduleC_ok : ConOk Tryd.prog 113 scheduleC := con0_ok Tryd.func113 rfl rfl fun args res ob h hob => by
  split at h
  · injection h with h; injection h with h1 h2; subst h1; subst h2; exact schedule_tri _ hob.1
  · cases h
end Go.Proofs.YtahiopdkekkibaaDoor.FH

/-
  Layer 1: the table; the state behind a block.
-/
namespace Go.Proofs.YtahiopdkekkibaaDoor.FH
open Go Go.RowKit
set_option maxHeartbeats 4000000
set_option linter.unusedSimpArgs false
set_option linter.unusedVariables false
def kL : List UInt32 := [0x428a2f98, 0x71374491, 0xb5c0fbcf, 0xe9b5dba5, 0x3956c25b, 0x59f111f1, 0x923f82a4, 0xab1c5ed5, 0xd807aa98, 0x12835b01, 0x243185be, 0x550c7dc3, 0x72be5d74, 0x80deb1fe, 0x9bdc06a7, 0xc19bf174, 0xe49b69c1, 0xefbe4786, 0x0fc19dc6, 0x240ca1cc, 0x2de92c6f, 0x4a7484aa, 0x5cb0a9dc, 0x76f988da, 0x983e5152, 0xa831c66d, 0xb00327c8, 0xbf597fc7, 0xc6e00bf3, 0xd5a79147, 0x06ca6351, 0x14292967, 0x27b70a85, 0x2e1b2138, 0x4d2c6dfc, 0x53380d13, 0x650a7354, 0x766a0abb, 0x81c2c92e, 0x92722c85, 0xa2bfe8a1, 0xa81a664b, 0xc24b8b70, 0xc76c51a3, 0xd192e819, 0xd6990624, 0xf40e3585, 0x106aa070, 0x19a4c116, 0x1e376c08, 0x2748774c, 0x34b0bcb5, 0x391c0cb3, 0x4ed8aa4a, 0x5b9cca4f, 0x682e6ff3, 0x748f82ee, 0x78a5636f, 0x84c87814, 0x8cc70208, 0x90befffa, 0xa4506ceb, 0xbef9a3f7, 0xc67178f2]
theorem kL_len : kL.length = 64 := rfl
noncomputable def gK : GFact := gTab Tryd.prog "mailsack/sha.constants" .u32 (kL.map fun x => (x.toNat : Int)) 1 (by kernel_rfl)
theorem gK_obj (r : Lc) (w : World) (h : gK.p w) : ObjRel r w (some (((1 : Nat), some 0), 64)) (.arr UInt32 u32L kL) := fun _ => by
  have h : Lib.TabIs Tryd.prog w "mailsack/sha.constants" .u32 (kL.map fun x => (x.toNat : Int)) := h
  unfold Lib.TabIs World.var? at h
  rw [show Tryd.prog.globalNamed "mailsack/sha.constants" = some 1 from by kernel_rfl] at h
  simp only [Option.bind_some] at h
  split at h
  · rename_i cs t fz hq
    injection h with h
    refine .inr ⟨(1, some 0), 64, cs, rfl, ⟨cs, t, fz, hq, fun j => rfl, fun e => by cases e⟩, ?_, ?_⟩
    · rw [h]; simp [kL_len, SObj.stride, u32L_st]
    · intro j x hx
      have hx : (kL.flatMap u32L.enc)[j]? = some x := hx
      rw [u32_flat, List.getElem?_map] at hx
      cases hy : kL[j]? with
      | none => rw [hy] at hx; cases hx
      | some y =>
        rw [hy] at hx
        cases hx
        exact ⟨.int .u32 (y.toNat : Int), by rw [h]; simp [hy], rfl⟩
  · cases h
noncomputable def envH (ga : Nat → Option Con) (nt : Nat) : Env := ⟨ty, ga, [1], nt, [], [gK]⟩
theorem envH_ok {ga : Nat → Option Con} (h : GaOkG Tryd.prog [gK] ga) (nt : Nat) : EnvOk Tryd.prog (envH ga nt) := ⟨ty_ok, h, by first | rfl | decide⟩
def ha2 : Nat → Option Con := fun f => match f with
  | 113 => some scheduleC
  | 114 => some roundC
  | _ => none
theorem ha2_ok : GaOkG Tryd.prog [gK] ha2 := fun f con h => by
  unfold ha2 at h
  split at h
  · injection h with h; subst h; exact ConOk.up scheduleC_ok
  · injection h with h; subst h; exact ConOk.up roundC_ok
  · cases h
def vS (st : W8) (s : List UInt8) : Nat → W8
  | 0 => st
  | t + 1 => roundW (vS st s t) ((schedL s 64).getD t 0 + kL.getD t 0)
def blockW (st : W8) (s : List UInt8) : W8 := ⟨(vS st s 64).a + st.a, (vS st s 64).b + st.b, (vS st s 64).c + st.c, (vS st s 64).d + st.d, (vS st s 64).e + st.e, (vS st s 64).f + st.f, (vS st s 64).g + st.g, (vS st s 64).h + st.h⟩
def W8.cells (v : W8) : SObj := .cells 1 [.u32 v.a, .u32 v.b, .u32 v.c, .u32 v.d, .u32 v.e, .u32 v.f, .u32 v.g, .u32 v.h]
def zero8 : W8 := ⟨0, 0, 0, 0, 0, 0, 0, 0⟩
def blI (st : W8) (s : List UInt8) (t : Nat) : St := ⟨[(2, .c (.one (.ptr 10000 0 0 0))), (4, .c (.one (.ptr 10008 0 0 0))), (5, .c (.one (.ptr 40016 0 0 0))), (6, .c (.one (.ptr 50008 0 0 0))), (16, .c (.one (.num t)))], [(10000, ⟨st.cells, true⟩), (10008, ⟨zero8.cells, true⟩), (40016, ⟨.arr UInt32 u32L (schedL s 64), true⟩), (50008, ⟨(vS st s t).cells, true⟩), (1000000000000000 + 1, ⟨.arr UInt32 u32L kL, false⟩)]⟩
set_option maxRecDepth 100000 in
theorem block_tri (st : W8) (s : List UInt8) : TriG Tryd.prog [gK] 103 [st.cv, .one (.str s)] [] (.c (if s.length = 64 then blockW st s else st).cv) [] := by
  refine tri_ofg (envH_ok ha2_ok 42) Tryd.func103 rfl rfl (rs := [.cell 4 140]) rfl (gf := gK) rfl (List.mem_singleton.2 rfl) rfl gK_obj rfl (by simp [envH]) rfl ?_
  cases h : ((s.length : Int) == 64) with
  | false =>
    have hn : s.length ≠ 64 := fun e => by rw [e] at h; exact absurd h (by decide)
    rw [if_neg hn]
    simp only [envH, ha2, h, W8.cv, W8.eta, gid, retQx, u32L_st, bne, go_sem, reduceCtorEq, ↓reduceIte, Nat.reduceAdd, Nat.reduceMul, Nat.reduceSub, Nat.reduceEqDiff, Nat.reduceLT, Nat.reduceBEq, Nat.reduceBNe, Nat.reduceLeDiff, Int.reduceLE, Int.reduceLT, Int.reduceToNat, Int.reduceEq, Int.reduceAdd, UInt8.reduceToNat, UInt32.reduceToNat, UInt64.reduceToNat, UInt8.reduceOfNat, UInt32.reduceOfNat, UInt64.reduceOfNat, Fin.isValue, Int.reduceSub, Int.reduceMul, Int.reduceNeg, Int.reduceMod, Int.reduceDiv, Int.reduceTDiv, Int.reduceTMod, Int.reduceBEq, Int.reduceBNe, Nat.reduceDiv, Nat.reducePow]
    refine endX [] ?_
    simp only [envH, W8.cv, go_sem, reduceCtorEq, ↓reduceIte, Nat.reduceAdd, Nat.reduceMul, Nat.reduceSub, Nat.reduceEqDiff, Nat.reduceLT, Nat.reduceBEq, Nat.reduceBNe, Nat.reduceLeDiff, Int.reduceLE, Int.reduceLT, Int.reduceToNat, Int.reduceEq, Int.reduceAdd, UInt8.reduceToNat, UInt32.reduceToNat, UInt64.reduceToNat, UInt8.reduceOfNat, UInt32.reduceOfNat, UInt64.reduceOfNat, Fin.isValue, Int.reduceSub, Int.reduceMul, Int.reduceNeg, Int.reduceMod, Int.reduceDiv, Int.reduceTDiv, Int.reduceTMod, Int.reduceBEq, Int.reduceBNe, Nat.reduceDiv, Nat.reducePow]
    all_goals trace_state
  | true =>
    have hs : s.length = 64 := by have := beq_iff_eq.1 h; omega
    have h64 := schedL_len s 64
    rw [if_pos hs]
    simp only [h, hs, envH, ha2, scheduleC, roundC, con0, W8.cv, W8.eta, gid, retQx, u32L_st, u32L_d, u32L_enc, bne, List.length_map, h64, kL_len, u32_ren, u32_flat, go_sem, reduceCtorEq, ↓reduceIte, Nat.reduceAdd, Nat.reduceMul, Nat.reduceSub, Nat.reduceEqDiff, Nat.reduceLT, Nat.reduceBEq, Nat.reduceBNe, Nat.reduceLeDiff, Int.reduceLE, Int.reduceLT, Int.reduceToNat, Int.reduceEq, Int.reduceAdd, UInt8.reduceToNat, UInt32.reduceToNat, UInt64.reduceToNat, UInt8.reduceOfNat, UInt32.reduceOfNat, UInt64.reduceOfNat, Fin.isValue, Int.reduceSub, Int.reduceMul, Int.reduceNeg, Int.reduceMod, Int.reduceDiv, Int.reduceTDiv, Int.reduceTMod, Int.reduceBEq, Int.reduceBNe, Nat.reduceDiv, Nat.reducePow]
    refine ⟨u32_plain _, ?_⟩
    refine loop_inv (envH_ok ha2_ok 42) (blI st s) (fun t => t ≤ 64) (fun t => 64 - t) 0 [] (by omega) ?_ ?_
    · simp only [blI, vS, W8.cells, zero8, envH, ha2, scheduleC, roundC, con0, W8.cv, W8.eta, gid, retQx, u32L_st, u32L_d, u32L_enc, bne, List.length_map, h64, kL_len, u32_ren, u32_flat, go_sem, reduceCtorEq, ↓reduceIte, Nat.reduceAdd, Nat.reduceMul, Nat.reduceSub, Nat.reduceEqDiff, Nat.reduceLT, Nat.reduceBEq, Nat.reduceBNe, Nat.reduceLeDiff, Int.reduceLE, Int.reduceLT, Int.reduceToNat, Int.reduceEq, Int.reduceAdd, UInt8.reduceToNat, UInt32.reduceToNat, UInt64.reduceToNat, UInt8.reduceOfNat, UInt32.reduceOfNat, UInt64.reduceOfNat, Fin.isValue, Int.reduceSub, Int.reduceMul, Int.reduceNeg, Int.reduceMod, Int.reduceDiv, Int.reduceTDiv, Int.reduceTMod, Int.reduceBEq, Int.reduceBNe, Nat.reduceDiv, Nat.reducePow]
      repeat' apply And.intro
      all_goals first
        | rfl
        | exact fun x hx => by obtain ⟨y, _, rfl⟩ := List.mem_map.1 hx; rfl
        | trace_state
    · intro t ht
      simp only [blI, W8.cells, zero8, envH, ha2, scheduleC, roundC, con0, W8.cv, W8.eta, gid, retQx, u32L_st, u32L_d, u32L_enc, bne, List.length_map, h64, kL_len, u32_ren, u32_flat, go_sem, reduceCtorEq, ↓reduceIte, Nat.reduceAdd, Nat.reduceMul, Nat.reduceSub, Nat.reduceEqDiff, Nat.reduceLT, Nat.reduceBEq, Nat.reduceBNe, Nat.reduceLeDiff, Int.reduceLE, Int.reduceLT, Int.reduceToNat, Int.reduceEq, Int.reduceAdd, UInt8.reduceToNat, UInt32.reduceToNat, UInt64.reduceToNat, UInt8.reduceOfNat, UInt32.reduceOfNat, UInt64.reduceOfNat, Fin.isValue, Int.reduceSub, Int.reduceMul, Int.reduceNeg, Int.reduceMod, Int.reduceDiv, Int.reduceTDiv, Int.reduceTMod, Int.reduceBEq, Int.reduceBNe, Nat.reduceDiv, Nat.reducePow]
      refine br (fun hc => ?_) fun hc => ?_
      · have hc' := of_decide_eq_true hc
        have w4 : IntKind.i64.wrap ((t : Int) + 1) = ((t + 1 : Nat) : Int) := by rw [IntKind.wrap_i64]; omega
        simp only [hc, w4, envH, ha2, scheduleC, roundC, con0, W8.cv, W8.eta, gid, retQx, u32L_st, u32L_d, u32L_enc, bne, List.length_map, h64, kL_len, u32_ren, u32_flat, go_sem, reduceCtorEq, ↓reduceIte, Nat.reduceAdd, Nat.reduceMul, Nat.reduceSub, Nat.reduceEqDiff, Nat.reduceLT, Nat.reduceBEq, Nat.reduceBNe, Nat.reduceLeDiff, Int.reduceLE, Int.reduceLT, Int.reduceToNat, Int.reduceEq, Int.reduceAdd, UInt8.reduceToNat, UInt32.reduceToNat, UInt64.reduceToNat, UInt8.reduceOfNat, UInt32.reduceOfNat, UInt64.reduceOfNat, Fin.isValue, Int.reduceSub, Int.reduceMul, Int.reduceNeg, Int.reduceMod, Int.reduceDiv, Int.reduceTDiv, Int.reduceTMod, Int.reduceBEq, Int.reduceBNe, Nat.reduceDiv, Nat.reducePow]
        repeat' apply And.intro
        all_goals first
          | omega
          | rfl
          | skip
        refine again (t + 1) [] (by omega) (by omega) ?_
        simp only [blI, vS, W8.cells, zero8, envH, ha2, scheduleC, roundC, con0, W8.cv, W8.eta, gid, retQx, u32L_st, u32L_d, u32L_enc, bne, List.length_map, h64, kL_len, u32_ren, u32_flat, go_sem, reduceCtorEq, ↓reduceIte, Nat.reduceAdd, Nat.reduceMul, Nat.reduceSub, Nat.reduceEqDiff, Nat.reduceLT, Nat.reduceBEq, Nat.reduceBNe, Nat.reduceLeDiff, Int.reduceLE, Int.reduceLT, Int.reduceToNat, Int.reduceEq, Int.reduceAdd, UInt8.reduceToNat, UInt32.reduceToNat, UInt64.reduceToNat, UInt8.reduceOfNat, UInt32.reduceOfNat, UInt64.reduceOfNat, Fin.isValue, Int.reduceSub, Int.reduceMul, Int.reduceNeg, Int.reduceMod, Int.reduceDiv, Int.reduceTDiv, Int.reduceTMod, Int.reduceBEq, Int.reduceBNe, Nat.reduceDiv, Nat.reducePow]
        repeat' apply And.intro
        all_goals first
          | rfl
          | exact fun x hx => by obtain ⟨y, _, rfl⟩ := List.mem_map.1 hx; rfl
          | trace_state
      · obtain rfl : t = 64 := by have := of_decide_eq_false hc; omega
        simp only [hc, envH, ha2, scheduleC, roundC, con0, W8.cv, W8.eta, gid, retQx, u32L_st, u32L_d, u32L_enc, bne, List.length_map, h64, kL_len, u32_ren, u32_flat, go_sem, reduceCtorEq, ↓reduceIte, Nat.reduceAdd, Nat.reduceMul, Nat.reduceSub, Nat.reduceEqDiff, Nat.reduceLT, Nat.reduceBEq, Nat.reduceBNe, Nat.reduceLeDiff, Int.reduceLE, Int.reduceLT, Int.reduceToNat, Int.reduceEq, Int.reduceAdd, UInt8.reduceToNat, UInt32.reduceToNat, UInt64.reduceToNat, UInt8.reduceOfNat, UInt32.reduceOfNat, UInt64.reduceOfNat, Fin.isValue, Int.reduceSub, Int.reduceMul, Int.reduceNeg, Int.reduceMod, Int.reduceDiv, Int.reduceTDiv, Int.reduceTMod, Int.reduceBEq, Int.reduceBNe, Nat.reduceDiv, Nat.reducePow]
        refine loop_rounds (envH_ok ha2_ok 42) 9 ?_
        simp only [envH, ha2, scheduleC, roundC, con0, W8.cv, W8.eta, gid, retQx, u32L_st, u32L_d, u32L_enc, bne, List.length_map, h64, kL_len, u32_ren, u32_flat, go_sem, reduceCtorEq, ↓reduceIte, Nat.reduceAdd, Nat.reduceMul, Nat.reduceSub, Nat.reduceEqDiff, Nat.reduceLT, Nat.reduceBEq, Nat.reduceBNe, Nat.reduceLeDiff, Int.reduceLE, Int.reduceLT, Int.reduceToNat, Int.reduceEq, Int.reduceAdd, UInt8.reduceToNat, UInt32.reduceToNat, UInt64.reduceToNat, UInt8.reduceOfNat, UInt32.reduceOfNat, UInt64.reduceOfNat, Fin.isValue, Int.reduceSub, Int.reduceMul, Int.reduceNeg, Int.reduceMod, Int.reduceDiv, Int.reduceTDiv, Int.reduceTMod, Int.reduceBEq, Int.reduceBNe, Nat.reduceDiv, Nat.reducePow]
        repeat' apply And.intro
        all_goals first
          | rfl
          | skip
        refine endX [] ?_
        simp only [blockW, envH, ha2, scheduleC, roundC, con0, W8.cv, W8.eta, gid, retQx, u32L_st, u32L_d, u32L_enc, bne, List.length_map, h64, kL_len, u32_ren, u32_flat, go_sem, reduceCtorEq, ↓reduceIte, Nat.reduceAdd, Nat.reduceMul, Nat.reduceSub, Nat.reduceEqDiff, Nat.reduceLT, Nat.reduceBEq, Nat.reduceBNe, Nat.reduceLeDiff, Int.reduceLE, Int.reduceLT, Int.reduceToNat, Int.reduceEq, Int.reduceAdd, UInt8.reduceToNat, UInt32.reduceToNat, UInt64.reduceToNat, UInt8.reduceOfNat, UInt32.reduceOfNat, UInt64.reduceOfNat, Fin.isValue, Int.reduceSub, Int.reduceMul, Int.reduceNeg, Int.reduceMod, Int.reduceDiv, Int.reduceTDiv, Int.reduceTMod, Int.reduceBEq, Int.reduceBNe, Nat.reduceDiv, Nat.reducePow]
        all_goals first
          | rfl
          | trace_state
end Go.Proofs.YtahiopdkekkibaaDoor.FH

/-
  Layer 1: rows of words in contracts; the document's constants, first state and digest.
-/
namespace Go.Proofs.YtahiopdkekkibaaDoor.FH
open Go Go.RowKit
set_option maxHeartbeats 4000000
set_option linter.unusedSimpArgs false
set_option linter.unusedVariables false
noncomputable abbrev GS : List GFact := [gK]
noncomputable def envS (ga : Nat → Option Con) (nt : Nat) : Env := ⟨ty, ga, [], nt, [], GS⟩
theorem envS_ok {ga : Nat → Option Con} (h : GaOkG Tryd.prog GS ga) (nt : Nat) : EnvOk Tryd.prog (envS ga nt) := ⟨ty_ok, h, by first | rfl | decide⟩
noncomputable def envSK (ga : Nat → Option Con) (nt : Nat) (keys : List Nat) : Env := ⟨ty, ga, [], nt, keys, GS⟩
theorem envSK_ok {ga : Nat → Option Con} (h : GaOkG Tryd.prog GS ga) (nt : Nat) (keys : List Nat) : EnvOk Tryd.prog (envSK ga nt keys) := ⟨ty_ok, h, by first | rfl | decide⟩
/-- Contracts that read any rows, and make objects. -/
def conQ (F : List CV → List SObj → Option (SV × List SObj × List Prop)) : Con := ⟨false, fun args os => match F args os with
  | some (v, nw, ob) => some (v, [], nw, ob)
  | none => none⟩
theorem conQ_ok {P : Program} {G : List GFact} {f : FuncId} {fn : Func} (hf : P.funcs[f]? = some fn) (hb : fn.body.isSome = true) (hn : (fn.name == "runtime.NumGoroutine") = false) {F : List CV → List SObj → Option (SV × List SObj × List Prop)}
    (h1 : ∀ args (es : List Ent) v nw ob, F args (es.map (·.o)) = some (v, nw, ob) → AllT ob → TriG P G f args (numb 0 es) v (numb 0 (es ++ nw.map fun o => ⟨o, true⟩))) : ConOkG P G f (conQ F) := by
  refine .inl ⟨⟨fn, hf, hb, hn⟩, fun args es res upd news ob hr hob _ => ?_⟩
  unfold conQ at hr
  simp only at hr
  cases hF : F args (es.map (·.o)) with
  | none => rw [hF] at hr; cases hr
  | some q =>
    obtain ⟨v, nw, ob'⟩ := q
    simp only [hF, Option.some.injEq, Prod.mk.injEq] at hr
    obtain ⟨rfl, rfl, rfl, rfl⟩ := hr
    rw [post_news]
    exact h1 args es _ _ _ hF hob
end Go.Proofs.YtahiopdkekkibaaDoor.FH

/-
  A state of eight words as an argument: how it is read, and laid. It speaks of no program.
-/
namespace Go.Proofs.YtahiopdkekkibaaDoor.FH
open Go Go.ChangeShapes Go.WideShapes
set_option linter.unusedSimpArgs false
set_option linter.unusedVariables false
set_option linter.unusedSectionVars false
section
variable {H : Type} {enc : TypeId × Value → H} {P : Program} {k e : TypeId} {W : World} {base : Nat} {sp : Nat → Bool} {held : Bool}
def W8.val (x : W8) : Value := .agg #[.int .u32 (x.a.toNat : Int), .int .u32 (x.b.toNat : Int), .int .u32 (x.c.toNat : Int), .int .u32 (x.d.toNat : Int), .int .u32 (x.e.toNat : Int), .int .u32 (x.f.toNat : Int), .int .u32 (x.g.toNat : Int), .int .u32 (x.h.toNat : Int)]
def W8.data (x : W8) : DataW H := .agg [.lit (.int .u32 (x.a.toNat : Int)), .lit (.int .u32 (x.b.toNat : Int)), .lit (.int .u32 (x.c.toNat : Int)), .lit (.int .u32 (x.d.toNat : Int)), .lit (.int .u32 (x.e.toNat : Int)), .lit (.int .u32 (x.f.toNat : Int)), .lit (.int .u32 (x.g.toNat : Int)), .lit (.int .u32 (x.h.toNat : Int))]
end
end Go.Proofs.YtahiopdkekkibaaDoor.FH

/-
  Layer 1: the laws ShaSums and ShaBlocks.
-/
namespace Go.Proofs.YtahiopdkekkibaaDoor.FH
open Go Go.RowKit Go.ChangeShapes
set_option maxHeartbeats 4000000
set_option linter.unusedSimpArgs false
set_option linter.unusedVariables false
set_option linter.unusedSectionVars false
theorem gl_sha {W : World} (hsh : W.ShapedOpen Tryd.prog) (hL : laidMetH Tryd.prog [("mailsack/sha.constants", Rows.laid_mailsack_sha_constants)] W) : ∀ f ∈ GS, f.p W := by
  rw [MakeChecks.laidMetH_plain _ _ _ (by kernel_rfl)] at hL
  have h' : laidMet Tryd.prog [("mailsack/sha.constants", Lib.tabData .u32 (kL.map fun x => (x.toNat : Int)))] W := hL
  have ht := Lib.tabIs_of_head (P := Tryd.prog) (k := .u32) (t := 150) (e := 76) (n := 64) (g := 1) (by kernel_rfl) (by kernel_rfl) Tryd.underlying150 Tryd.underlying76 (by kernel_rfl) (by kernel_rfl) h'
  intro f hf
  simp only [GS, List.mem_cons, List.not_mem_nil, or_false] at hf
  subst hf
  exact ht
end Go.Proofs.YtahiopdkekkibaaDoor.FH

/-
  Numbers of five parts: what does not hang on a layer.
-/
namespace Go.Proofs.YtahiopdkekkibaaDoor.FK
open Go Go.RowKit
set_option linter.unusedSimpArgs false
set_option linter.unusedVariables false
def ga0 : Nat → Option Con := fun _ => none
theorem ga0_ok : GaOk Tryd.prog ga0 := fun f con h => by cases h
noncomputable def envOf (ga : Nat → Option Con) (nt : Nat) : Env := ⟨ty, ga, [], nt, [], []⟩
theorem envOf_ok {ga : Nat → Option Con} (h : GaOk Tryd.prog ga) (nt : Nat) : EnvOk Tryd.prog (envOf ga nt) := ⟨ty_ok, h, by first | rfl | decide⟩
@[ext] structure N5 where
  (a b c d e : UInt64)
deriving DecidableEq
def N5.cv (x : N5) : CV := .agg [.u64 x.a, .u64 x.b, .u64 x.c, .u64 x.d, .u64 x.e]
theorem N5.eta (x : N5) : N5.mk x.a x.b x.c x.d x.e = x := rfl
def N5.lt (x : N5) (n : Nat) : Prop := x.a.toNat < n ∧ x.b.toNat < n ∧ x.c.toNat < n ∧ x.d.toNat < n ∧ x.e.toNat < n
theorem add64n {x y : UInt64} (h : x.toNat + y.toNat < 18446744073709551616) : (x + y).toNat = x.toNat + y.toNat := by
  rw [UInt64.toNat_add]; exact Nat.mod_eq_of_lt h
end Go.Proofs.YtahiopdkekkibaaDoor.FK

/-
  Layer 3: numbers of five parts of 51 bits, and their values. It speaks of no program.
-/
namespace Go.Proofs.YtahiopdkekkibaaDoor.FK
open Go Go.RowKit
set_option maxHeartbeats 4000000
set_option linter.unusedSimpArgs false
set_option linter.unusedVariables false
def p25519 : Nat := 57896044618658097711785492504343953926634992332820282019728792003956564819949
def N5.w (x : N5) : Nat := x.a.toNat + x.b.toNat * 2251799813685248 + x.c.toNat * 5070602400912917605986812821504 + x.d.toNat * 11417981541647679048466287755595961091061972992 + x.e.toNat * 25711008708143844408671393477458601640355247900524685364822016
def fcarry (x : N5) : N5 := ⟨(x.a &&& 2251799813685247) + 19 * shr64 x.e 51, (x.b &&& 2251799813685247) + shr64 x.a 51, (x.c &&& 2251799813685247) + shr64 x.b 51, (x.d &&& 2251799813685247) + shr64 x.c 51, (x.e &&& 2251799813685247) + shr64 x.d 51⟩
theorem shr51 (x : UInt64) : (shr64 x 51).toNat = x.toNat / 2251799813685248 := by
  unfold shr64
  rw [if_pos (by decide), UInt64.toNat_shiftRight]
  show x.toNat >>> 51 = _
  rw [Nat.shiftRight_eq_div_pow]
theorem and51 (x : UInt64) : (x &&& 2251799813685247).toNat = x.toNat % 2251799813685248 := by
  rw [UInt64.toNat_and]
  show x.toNat &&& (2 ^ 51 - 1) = _
  rw [Nat.and_two_pow_sub_one_eq_mod]
theorem add51 (x y : UInt64) : ((x &&& 2251799813685247) + shr64 y 51).toNat = x.toNat % 2251799813685248 + y.toNat / 2251799813685248 := by
  have := y.toNat_lt
  rw [add64n (by rw [and51, shr51]; omega), and51, shr51]
theorem mul19 (y : UInt64) : (19 * shr64 y 51).toNat = 19 * (y.toNat / 2251799813685248) := by
  have := y.toNat_lt
  rw [UInt64.toNat_mul, shr51]
  show 19 * _ % _ = _
  omega
theorem fcarry_spec (x : N5) : (fcarry x).w + p25519 * (x.e.toNat / 2251799813685248) = x.w ∧ (fcarry x).lt 2251799813947392 := by
  have h0 : (fcarry x).a.toNat = x.a.toNat % 2251799813685248 + 19 * (x.e.toNat / 2251799813685248) := by
    have := x.e.toNat_lt
    show ((x.a &&& 2251799813685247) + 19 * shr64 x.e 51).toNat = _
    rw [add64n (by rw [and51, mul19]; omega), and51, mul19]
  have h1 : (fcarry x).b.toNat = x.b.toNat % 2251799813685248 + x.a.toNat / 2251799813685248 := add51 _ _
  have h2 : (fcarry x).c.toNat = x.c.toNat % 2251799813685248 + x.b.toNat / 2251799813685248 := add51 _ _
  have h3 : (fcarry x).d.toNat = x.d.toNat % 2251799813685248 + x.c.toNat / 2251799813685248 := add51 _ _
  have h4 : (fcarry x).e.toNat = x.e.toNat % 2251799813685248 + x.d.toNat / 2251799813685248 := add51 _ _
  have := x.a.toNat_lt; have := x.b.toNat_lt; have := x.c.toNat_lt; have := x.d.toNat_lt; have := x.e.toNat_lt
  unfold N5.lt
  simp only [N5.w, p25519, h0, h1, h2, h3, h4]
  refine ⟨by omega, by omega, by omega, by omega, by omega, by omega⟩
theorem fcarry_mod (x : N5) : (fcarry x).w % p25519 = x.w % p25519 := by
  rw [← (fcarry_spec x).1, Nat.add_mul_mod_self_left]
def fadd (x y : N5) : N5 := fcarry ⟨(fcarry x).a + (fcarry y).a, (fcarry x).b + (fcarry y).b, (fcarry x).c + (fcarry y).c, (fcarry x).d + (fcarry y).d, (fcarry x).e + (fcarry y).e⟩
theorem fadd_mod (x y : N5) : (fadd x y).w % p25519 = (x.w + y.w) % p25519 := by
  obtain ⟨_, a0, a1, a2, a3, a4⟩ := fcarry_spec x
  obtain ⟨_, b0, b1, b2, b3, b4⟩ := fcarry_spec y
  unfold fadd
  rw [fcarry_mod, Nat.add_mod, ← fcarry_mod x, ← fcarry_mod y, ← Nat.add_mod]
  congr 1
  simp only [N5.w]
  rw [add64n (by omega), add64n (by omega), add64n (by omega), add64n (by omega), add64n (by omega)]
  omega
def fsub (x y : N5) : N5 := fcarry ⟨(fcarry x).a + (9007199254740916 - (fcarry y).a), (fcarry x).b + (9007199254740988 - (fcarry y).b), (fcarry x).c + (9007199254740988 - (fcarry y).c), (fcarry x).d + (9007199254740988 - (fcarry y).d), (fcarry x).e + (9007199254740988 - (fcarry y).e)⟩
theorem subn (c x : UInt64) (h : x.toNat ≤ c.toNat) : (c - x).toNat = c.toNat - x.toNat := by
  have := c.toNat_lt
  rw [UInt64.toNat_sub]; omega
theorem fsub_mod (x y : N5) : ((fsub x y).w + y.w) % p25519 = x.w % p25519 := by
  obtain ⟨e1, a0, a1, a2, a3, a4⟩ := fcarry_spec x
  obtain ⟨e2, b0, b1, b2, b3, b4⟩ := fcarry_spec y
  unfold fsub
  rw [Nat.add_mod, fcarry_mod, ← fcarry_mod y, ← fcarry_mod x, ← Nat.add_mod]
  generalize fcarry x = u at *
  generalize fcarry y = v at *
  have c0 : (9007199254740916 - v.a).toNat = 9007199254740916 - v.a.toNat := subn _ _ (by show _ ≤ 9007199254740916; omega)
  have c1 : (9007199254740988 - v.b).toNat = 9007199254740988 - v.b.toNat := subn _ _ (by show _ ≤ 9007199254740988; omega)
  have c2 : (9007199254740988 - v.c).toNat = 9007199254740988 - v.c.toNat := subn _ _ (by show _ ≤ 9007199254740988; omega)
  have c3 : (9007199254740988 - v.d).toNat = 9007199254740988 - v.d.toNat := subn _ _ (by show _ ≤ 9007199254740988; omega)
  have c4 : (9007199254740988 - v.e).toNat = 9007199254740988 - v.e.toNat := subn _ _ (by show _ ≤ 9007199254740988; omega)
  have key : (N5.mk (u.a + (9007199254740916 - v.a)) (u.b + (9007199254740988 - v.b)) (u.c + (9007199254740988 - v.c)) (u.d + (9007199254740988 - v.d)) (u.e + (9007199254740988 - v.e))).w + v.w = u.w + p25519 * 4 := by
    simp only [N5.w, p25519]
    rw [add64n (by rw [c0]; omega), add64n (by rw [c1]; omega), add64n (by rw [c2]; omega), add64n (by rw [c3]; omega), add64n (by rw [c4]; omega), c0, c1, c2, c3, c4]
    omega
  rw [key, Nat.add_mul_mod_self_left]
/-- The least number: how much is over. -/
def fover (t : N5) : UInt64 :=
  let o0 := shr64 (t.a + 19) 51
  let o1 := shr64 (t.b + o0) 51
  let o2 := shr64 (t.c + o1) 51
  let o3 := shr64 (t.d + o2) 51
  shr64 (t.e + o3) 51
def frest (t : N5) (r : UInt64) : N5 :=
  let a := t.a + r
  let b := t.b + shr64 a 51
  let c := t.c + shr64 b 51
  let d := t.d + shr64 c 51
  let e := t.e + shr64 d 51
  ⟨a &&& 2251799813685247, b &&& 2251799813685247, c &&& 2251799813685247, d &&& 2251799813685247, e &&& 2251799813685247⟩
def fsmall (x : N5) : N5 := frest (fcarry x) (19 * fover (fcarry x))
theorem fover_spec (t : N5) (ht : t.lt 2251799813947392) : (fover t).toNat = (t.w + 19) / 57896044618658097711785492504343953926634992332820282019728792003956564819968 := by
  obtain ⟨h0, h1, h2, h3, h4⟩ := ht
  have e0 : (t.a + 19).toNat = t.a.toNat + 19 := add64n (by show _ + 19 < _; omega)
  have e1 : (t.b + shr64 (t.a + 19) 51).toNat = t.b.toNat + (t.a.toNat + 19) / 2251799813685248 := by rw [add64n, shr51, e0]; rw [shr51, e0]; omega
  have e2 : (t.c + shr64 (t.b + shr64 (t.a + 19) 51) 51).toNat = t.c.toNat + (t.b.toNat + (t.a.toNat + 19) / 2251799813685248) / 2251799813685248 := by rw [add64n, shr51, e1]; rw [shr51, e1]; omega
  have e3 : (t.d + shr64 (t.c + shr64 (t.b + shr64 (t.a + 19) 51) 51) 51).toNat = t.d.toNat + (t.c.toNat + (t.b.toNat + (t.a.toNat + 19) / 2251799813685248) / 2251799813685248) / 2251799813685248 := by rw [add64n, shr51, e2]; rw [shr51, e2]; omega
  have e4 : (t.e + shr64 (t.d + shr64 (t.c + shr64 (t.b + shr64 (t.a + 19) 51) 51) 51) 51).toNat = t.e.toNat + (t.d.toNat + (t.c.toNat + (t.b.toNat + (t.a.toNat + 19) / 2251799813685248) / 2251799813685248) / 2251799813685248) / 2251799813685248 := by rw [add64n, shr51, e3]; rw [shr51, e3]; omega
  show (shr64 (t.e + shr64 (t.d + shr64 (t.c + shr64 (t.b + shr64 (t.a + 19) 51) 51) 51) 51) 51).toNat = _
  rw [shr51, e4]
  simp only [N5.w]
  generalize t.a.toNat = a at *
  generalize t.b.toNat = b at *
  generalize t.c.toNat = c at *
  generalize t.d.toNat = d at *
  generalize t.e.toNat = e at *
  clear e0 e1 e2 e3 e4
  omega
theorem frest_spec (t : N5) (ht : t.lt 2251799813947392) (r : UInt64) (hr : r.toNat ≤ 19) : (frest t r).w = (t.w + r.toNat) % 57896044618658097711785492504343953926634992332820282019728792003956564819968 ∧ (frest t r).lt 2251799813685248 := by
  obtain ⟨h0, h1, h2, h3, h4⟩ := ht
  have e0 : (t.a + r).toNat = t.a.toNat + r.toNat := add64n (by omega)
  have e1 : (t.b + shr64 (t.a + r) 51).toNat = t.b.toNat + (t.a.toNat + r.toNat) / 2251799813685248 := by rw [add64n, shr51, e0]; rw [shr51, e0]; omega
  have e2 : (t.c + shr64 (t.b + shr64 (t.a + r) 51) 51).toNat = t.c.toNat + (t.b.toNat + (t.a.toNat + r.toNat) / 2251799813685248) / 2251799813685248 := by rw [add64n, shr51, e1]; rw [shr51, e1]; omega
  have e3 : (t.d + shr64 (t.c + shr64 (t.b + shr64 (t.a + r) 51) 51) 51).toNat = t.d.toNat + (t.c.toNat + (t.b.toNat + (t.a.toNat + r.toNat) / 2251799813685248) / 2251799813685248) / 2251799813685248 := by rw [add64n, shr51, e2]; rw [shr51, e2]; omega
  have e4 : (t.e + shr64 (t.d + shr64 (t.c + shr64 (t.b + shr64 (t.a + r) 51) 51) 51) 51).toNat = t.e.toNat + (t.d.toNat + (t.c.toNat + (t.b.toNat + (t.a.toNat + r.toNat) / 2251799813685248) / 2251799813685248) / 2251799813685248) / 2251799813685248 := by rw [add64n, shr51, e3]; rw [shr51, e3]; omega
  have f0 : (frest t r).a.toNat = (t.a.toNat + r.toNat) % 2251799813685248 := by show ((t.a + r) &&& 2251799813685247).toNat = _; rw [and51, e0]
  have f1 : (frest t r).b.toNat = (t.b.toNat + (t.a.toNat + r.toNat) / 2251799813685248) % 2251799813685248 := by show ((t.b + shr64 (t.a + r) 51) &&& 2251799813685247).toNat = _; rw [and51, e1]
  have f2 : (frest t r).c.toNat = (t.c.toNat + (t.b.toNat + (t.a.toNat + r.toNat) / 2251799813685248) / 2251799813685248) % 2251799813685248 := by show ((t.c + shr64 (t.b + shr64 (t.a + r) 51) 51) &&& 2251799813685247).toNat = _; rw [and51, e2]
  have f3 : (frest t r).d.toNat = (t.d.toNat + (t.c.toNat + (t.b.toNat + (t.a.toNat + r.toNat) / 2251799813685248) / 2251799813685248) / 2251799813685248) % 2251799813685248 := by show ((t.d + shr64 (t.c + shr64 (t.b + shr64 (t.a + r) 51) 51) 51) &&& 2251799813685247).toNat = _; rw [and51, e3]
  have f4 : (frest t r).e.toNat = (t.e.toNat + (t.d.toNat + (t.c.toNat + (t.b.toNat + (t.a.toNat + r.toNat) / 2251799813685248) / 2251799813685248) / 2251799813685248) / 2251799813685248) % 2251799813685248 := by show ((t.e + shr64 (t.d + shr64 (t.c + shr64 (t.b + shr64 (t.a + r) 51) 51) 51) 51) &&& 2251799813685247).toNat = _; rw [and51, e4]
  unfold N5.lt
  simp only [N5.w, f0, f1, f2, f3, f4]
  generalize t.a.toNat = a at *
  generalize t.b.toNat = b at *
  generalize t.c.toNat = c at *
  generalize t.d.toNat = d at *
  generalize t.e.toNat = e at *
  clear e0 e1 e2 e3 e4 f0 f1 f2 f3 f4
  refine ⟨?_, ?_, ?_, ?_, ?_, ?_⟩ <;> omega
theorem fsmall_spec (x : N5) : (fsmall x).w = x.w % p25519 ∧ (fsmall x).lt 2251799813685248 := by
  obtain ⟨h1, h2⟩ := fcarry_spec x
  have hm := fcarry_mod x
  have ho := fover_spec _ h2
  generalize hy : fcarry x = y at *
  have hlt : y.w < 57896044618658097711785492504343953926634992332820282019728792003956564819968 + 13479973333575319897333507543509815336818572211270286240551805124608 := by
    obtain ⟨a0, a1, a2, a3, a4⟩ := h2
    simp only [N5.w]
    omega
  have hov : (fover y).toNat ≤ 1 := by rw [ho]; omega
  have hr : (19 * fover y).toNat = 19 * (fover y).toNat := by
    rw [UInt64.toNat_mul]
    show 19 * _ % _ = _
    omega
  obtain ⟨h3, h4⟩ := frest_spec y h2 (19 * fover y) (by omega)
  refine ⟨?_, by unfold fsmall; rw [hy]; exact h4⟩
  unfold fsmall
  rw [hy, h3, ← hm, hr]
  simp only [p25519]
  generalize y.w = v at *
  generalize (fover y).toNat = o at *
  clear h3 h4 hr hm h1
  rcases (show o = 0 ∨ o = 1 by omega) with rfl | rfl
  · rw [Nat.mod_eq_of_lt (by omega), Nat.mod_eq_of_lt (by omega), Nat.mul_zero, Nat.add_zero]
  · rw [Nat.mod_eq_sub_mod (by omega : 57896044618658097711785492504343953926634992332820282019728792003956564819968 ≤ v + 19 * 1), Nat.mod_eq_of_lt (by omega), Nat.mod_eq_sub_mod (by omega : 57896044618658097711785492504343953926634992332820282019728792003956564819949 ≤ v), Nat.mod_eq_of_lt (by omega)]
    omega
structure W2 where
  (h l : UInt64)
def W2.v (x : W2) : Nat := x.h.toNat * 18446744073709551616 + x.l.toNat
/-- The high half of a product. -/
def mulHi (x y : UInt64) : UInt64 :=
  let x0 := x &&& 4294967295
  let x1 := shr64 x 32
  let y0 := y &&& 4294967295
  let y1 := shr64 y 32
  let w0 := x0 * y0
  let t := x1 * y0 + shr64 w0 32
  let w1 := (t &&& 4294967295) + x0 * y1
  x1 * y1 + shr64 t 32 + shr64 w1 32
theorem shr32n (x : UInt64) : (shr64 x 32).toNat = x.toNat / 4294967296 := by
  unfold shr64
  rw [if_pos (by decide), UInt64.toNat_shiftRight]
  show x.toNat >>> 32 = _
  rw [Nat.shiftRight_eq_div_pow]
theorem and32n (x : UInt64) : (x &&& 4294967295).toNat = x.toNat % 4294967296 := by
  rw [UInt64.toNat_and]
  show x.toNat &&& (2 ^ 32 - 1) = _
  rw [Nat.and_two_pow_sub_one_eq_mod]
theorem mul32n {x y : UInt64} (hx : x.toNat < 4294967296) (hy : y.toNat < 4294967296) : (x * y).toNat = x.toNat * y.toNat ∧ x.toNat * y.toNat ≤ 18446744065119617025 := by
  have h1 : x.toNat * y.toNat ≤ 4294967295 * 4294967295 := Nat.mul_le_mul (by omega) (by omega)
  exact ⟨by rw [UInt64.toNat_mul]; exact Nat.mod_eq_of_lt (by omega), by omega⟩
theorem mulHi_v (x y : UInt64) : (mulHi x y).toNat = x.toNat * y.toNat / 18446744073709551616 := by
  have hx := x.toNat_lt
  have hy := y.toNat_lt
  have a0 := and32n x
  have a1 := shr32n x
  have b0 := and32n y
  have b1 := shr32n y
  generalize hX0 : x &&& 4294967295 = x0 at *
  generalize hX1 : shr64 x 32 = x1 at *
  generalize hY0 : y &&& 4294967295 = y0 at *
  generalize hY1 : shr64 y 32 = y1 at *
  have lx0 : x0.toNat < 4294967296 := by omega
  have lx1 : x1.toNat < 4294967296 := by omega
  have ly0 : y0.toNat < 4294967296 := by omega
  have ly1 : y1.toNat < 4294967296 := by omega
  obtain ⟨m00, k00⟩ := mul32n lx0 ly0
  obtain ⟨m10, k10⟩ := mul32n lx1 ly0
  obtain ⟨m01, k01⟩ := mul32n lx0 ly1
  obtain ⟨m11, k11⟩ := mul32n lx1 ly1
  have ht : (x1 * y0 + shr64 (x0 * y0) 32).toNat = x1.toNat * y0.toNat + x0.toNat * y0.toNat / 4294967296 := by
    rw [add64n (by rw [m10, shr32n, m00]; omega), m10, shr32n, m00]
  generalize hT : x1 * y0 + shr64 (x0 * y0) 32 = t at *
  have hw : ((t &&& 4294967295) + x0 * y1).toNat = t.toNat % 4294967296 + x0.toNat * y1.toNat := by
    rw [add64n (by rw [and32n, m01]; omega), and32n, m01]
  generalize hW : (t &&& 4294967295) + x0 * y1 = w1 at *
  have hm : (mulHi x y).toNat = x1.toNat * y1.toNat + t.toNat / 4294967296 + w1.toNat / 4294967296 := by
    unfold mulHi
    simp only [hX0, hX1, hY0, hY1, hT, hW]
    have s1 : (x1 * y1 + shr64 t 32).toNat = x1.toNat * y1.toNat + t.toNat / 4294967296 := by
      rw [add64n (by rw [m11, shr32n]; have := t.toNat_lt; omega), m11, shr32n]
    rw [add64n (by rw [s1, shr32n]; have := w1.toNat_lt; omega), s1, shr32n]
  rw [hm, hw, ht]
  have ex : x.toNat = x1.toNat * 4294967296 + x0.toNat := by omega
  have ey : y.toNat = y1.toNat * 4294967296 + y0.toNat := by omega
  have key : x.toNat * y.toNat = x1.toNat * y1.toNat * 18446744073709551616 + (x1.toNat * y0.toNat + x0.toNat * y1.toNat) * 4294967296 + x0.toNat * y0.toNat := by
    rw [ex, ey]; grind
  rw [key]
  generalize x1.toNat * y1.toNat = A at *
  generalize x1.toNat * y0.toNat = B at *
  generalize x0.toNat * y1.toNat = C at *
  generalize x0.toNat * y0.toNat = D at *
  clear key ex ey hm hw ht m00 m10 m01 m11
  omega
theorem mul_lo (x y : UInt64) : (mulHi x y).toNat * 18446744073709551616 + (x * y).toNat = x.toNat * y.toNat := by
  rw [mulHi_v, UInt64.toNat_mul]
  simp only [Nat.reducePow]
  omega
/-- What is carried out of a sum. -/
def addCar (x y : UInt64) : UInt64 := UInt64.ofNat ((x.toNat + y.toNat) / 18446744073709551616)
theorem addCar_v (x y : UInt64) : (addCar x y).toNat * 18446744073709551616 + (x + y).toNat = x.toNat + y.toNat := by
  have := x.toNat_lt
  have := y.toNat_lt
  unfold addCar
  rw [UInt64.toNat_ofNat_of_lt' (by show _ < 18446744073709551616; omega), UInt64.toNat_add]
  simp only [Nat.reducePow]
  omega
def wplus (w : W2) (x y : UInt64) : W2 := ⟨w.h + mulHi x y + addCar w.l (x * y), w.l + x * y⟩
theorem wplus_alg (B H m c q L p X : Nat) (h1 : m * B + p = X) (h2 : c * B + q = L + p) : (H + m + c) * B + q = H * B + L + X := by
  rw [Nat.add_mul, Nat.add_mul]; omega
theorem wplus_v (w : W2) (x y : UInt64) (h : w.v + x.toNat * y.toNat < 340282366920938463463374607431768211456) : (wplus w x y).v = w.v + x.toNat * y.toNat := by
  have h1 := mul_lo x y
  have h2 := addCar_v w.l (x * y)
  unfold W2.v at h ⊢
  have key := wplus_alg _ w.h.toNat _ _ _ _ _ _ h1 h2
  have hq := (w.l + x * y).toNat_lt
  have e1 : (w.h + mulHi x y).toNat = w.h.toNat + (mulHi x y).toNat := add64n (by omega)
  have e2 : (w.h + mulHi x y + addCar w.l (x * y)).toNat = w.h.toNat + (mulHi x y).toNat + (addCar w.l (x * y)).toNat := by
    rw [add64n (by rw [e1]; omega), e1]
  rw [← key, ← e2]
  rfl
/-- One part of a sum, and what is left of it. -/
def nlow (w r : W2) : UInt64 := w.l + r.l
def nhigh (w r : W2) : UInt64 := w.h + r.h + addCar w.l r.l
def nrest (w r : W2) : W2 := ⟨shr64 (nhigh w r) 51, shl64 (nhigh w r) 13 ||| shr64 (nlow w r) 51⟩
theorem or_dis (h l : UInt64) : (shl64 h 13 ||| shr64 l 51).toNat = (h.toNat % 2251799813685248) * 8192 + l.toNat / 2251799813685248 := by
  have hl := l.toNat_lt
  have e1 : (shl64 h 13).toNat = (h.toNat % 2251799813685248) * 8192 := by
    unfold shl64
    rw [if_pos (by decide), UInt64.toNat_shiftLeft]
    show h.toNat <<< 13 % 18446744073709551616 = _
    rw [Nat.shiftLeft_eq]
    omega
  have e2 : (shr64 l 51).toNat = l.toNat / 2251799813685248 := shr51 l
  rw [UInt64.toNat_or, e1, e2]
  have h3 : l.toNat / 2251799813685248 < 2 ^ 13 := by omega
  have e4 : h.toNat % 2251799813685248 * 8192 = (h.toNat % 2251799813685248) <<< 13 := by rw [Nat.shiftLeft_eq]
  rw [e4, ← Nat.shiftLeft_add_eq_or_of_lt h3]
theorem nstep (w r : W2) (h : w.v + r.v < 340282366920938463463374607431768211456) : (nlow w r &&& 2251799813685247).toNat + (nrest w r).v * 2251799813685248 = w.v + r.v := by
  have h2 := addCar_v w.l r.l
  unfold W2.v at h ⊢
  have e1 : (w.h + r.h).toNat = w.h.toNat + r.h.toNat := add64n (by omega)
  have e2 : (nhigh w r).toNat = w.h.toNat + r.h.toNat + (addCar w.l r.l).toNat := by
    unfold nhigh; rw [add64n (by rw [e1]; omega), e1]
  have e3 : (nlow w r).toNat = (w.l + r.l).toNat := rfl
  have hl := (w.l + r.l).toNat_lt
  have hh := (nhigh w r).toNat_lt
  rw [and51]
  show (nlow w r).toNat % 2251799813685248 + ((shr64 (nhigh w r) 51).toNat * 18446744073709551616 + (shl64 (nhigh w r) 13 ||| shr64 (nlow w r) 51).toNat) * 2251799813685248 = _
  rw [shr51, or_dis]
  generalize (nhigh w r).toNat = H at *
  generalize (nlow w r).toNat = L at *
  omega

/-- Five sums, carried on. -/
structure W5 where
  (a b c d e : W2)
def W5.v (s : W5) : Nat := s.a.v + s.b.v * 2251799813685248 + s.c.v * 5070602400912917605986812821504 + s.d.v * 11417981541647679048466287755595961091061972992 + s.e.v * 25711008708143844408671393477458601640355247900524685364822016
def W5.lt (s : W5) (n : Nat) : Prop := s.a.v < n ∧ s.b.v < n ∧ s.c.v < n ∧ s.d.v < n ∧ s.e.v < n
def w0 : W2 := ⟨0, 0⟩
def nfin (l0 l1 l2 l3 l4 r : UInt64) : N5 :=
  let h := mulHi r 19 + addCar (r * 19) l0
  let l := r * 19 + l0
  fcarry ⟨l &&& 2251799813685247, l1 + (shl64 h 13 ||| shr64 l 51), l2, l3, l4⟩
def narrowN (s : W5) : N5 :=
  let r0 := nrest s.a w0
  let r1 := nrest s.b r0
  let r2 := nrest s.c r1
  let r3 := nrest s.d r2
  let r4 := nrest s.e r3
  nfin (nlow s.a w0 &&& 2251799813685247) (nlow s.b r0 &&& 2251799813685247) (nlow s.c r1 &&& 2251799813685247) (nlow s.d r2 &&& 2251799813685247) (nlow s.e r3 &&& 2251799813685247) r4.l
theorem and51_lt (x : UInt64) : (x &&& 2251799813685247).toNat < 2251799813685248 := by rw [and51]; omega
theorem nfin_v (l0 l1 l2 l3 l4 r : UInt64) (h0 : l0.toNat < 2251799813685248) (h1 : l1.toNat < 2251799813685248) (hr : r.toNat < 4611686018427387904) :
    (nfin l0 l1 l2 l3 l4 r).w % p25519 = (l0.toNat + l1.toNat * 2251799813685248 + l2.toNat * 5070602400912917605986812821504 + l3.toNat * 11417981541647679048466287755595961091061972992 + l4.toNat * 25711008708143844408671393477458601640355247900524685364822016 + r.toNat * 57896044618658097711785492504343953926634992332820282019728792003956564819968) % p25519 := by
  have m1 := mul_lo r 19
  have m2 := addCar_v (r * 19) l0
  have h19 : (19 : UInt64).toNat = 19 := rfl
  rw [h19] at m1
  have hm4 : (mulHi r 19).toNat ≤ 4 := by omega
  have hc1 : (addCar (r * 19) l0).toNat ≤ 1 := by have := (r * 19).toNat_lt; omega
  have e1 : (mulHi r 19 + addCar (r * 19) l0).toNat = (mulHi r 19).toNat + (addCar (r * 19) l0).toNat := add64n (by omega)
  have e2 := or_dis (mulHi r 19 + addCar (r * 19) l0) (r * 19 + l0)
  rw [Nat.mod_eq_of_lt (by omega : (mulHi r 19 + addCar (r * 19) l0).toNat < 2251799813685248)] at e2
  have e3 := and51 (r * 19 + l0)
  unfold nfin
  simp only [fcarry_mod]
  have hL := (r * 19 + l0).toNat_lt
  have hP := (r * 19).toNat_lt
  have e4 : (l1 + (shl64 (mulHi r 19 + addCar (r * 19) l0) 13 ||| shr64 (r * 19 + l0) 51)).toNat = l1.toNat + (shl64 (mulHi r 19 + addCar (r * 19) l0) 13 ||| shr64 (r * 19 + l0) 51).toNat := add64n (by rw [e2, e1]; omega)
  have key : (N5.mk ((r * 19 + l0) &&& 2251799813685247) (l1 + (shl64 (mulHi r 19 + addCar (r * 19) l0) 13 ||| shr64 (r * 19 + l0) 51)) l2 l3 l4).w + p25519 * r.toNat = l0.toNat + l1.toNat * 2251799813685248 + l2.toNat * 5070602400912917605986812821504 + l3.toNat * 11417981541647679048466287755595961091061972992 + l4.toNat * 25711008708143844408671393477458601640355247900524685364822016 + r.toNat * 57896044618658097711785492504343953926634992332820282019728792003956564819968 := by
    simp only [N5.w, e3, e4, e2, e1, p25519]
    clear e1 e2 e3 e4
    generalize (mulHi r 19).toNat = m at *
    generalize (addCar (r * 19) l0).toNat = c at *
    generalize (r * 19 + l0).toNat = q at *
    generalize (r * 19).toNat = p at *
    omega
  rw [← key, Nat.add_mul_mod_self_left]
theorem n1 (B l0 l1 l2 l3 l4 R0 R1 R2 R3 R4 a b c d e : Nat) (s0 : l0 + R0 * B = a) (s1 : l1 + R1 * B = b + R0) (s2 : l2 + R2 * B = c + R1) (s3 : l3 + R3 * B = d + R2) (s4 : l4 + R4 * B = e + R3) :
  l0 + l1 * B + l2 * (B * B) + l3 * (B * B * B) + l4 * (B * B * B * B) + R4 * (B * B * B * B * B) = a + b * B + c * (B * B) + d * (B * B * B) + e * (B * B * B * B) := by
  have t1 : l1 * B + R1 * (B * B) = b * B + R0 * B := by have := congrArg (· * B) s1; grind
  have t2 : l2 * (B * B) + R2 * (B * B * B) = c * (B * B) + R1 * (B * B) := by have := congrArg (· * (B * B)) s2; grind
  have t3 : l3 * (B * B * B) + R3 * (B * B * B * B) = d * (B * B * B) + R2 * (B * B * B) := by have := congrArg (· * (B * B * B)) s3; grind
  have t4 : l4 * (B * B * B * B) + R4 * (B * B * B * B * B) = e * (B * B * B * B) + R3 * (B * B * B * B) := by have := congrArg (· * (B * B * B * B)) s4; grind
  omega
theorem narrowN_v (s : W5) (hs : s.lt 5192296858534827628530496329220096) : (narrowN s).w % p25519 = s.v % p25519 := by
  obtain ⟨ha, hb, hc, hd, he⟩ := hs
  have z : w0.v = 0 := rfl
  have s0 := nstep s.a w0 (by omega)
  have s1 := nstep s.b (nrest s.a w0) (by omega)
  have s2 := nstep s.c (nrest s.b (nrest s.a w0)) (by omega)
  have s3 := nstep s.d (nrest s.c (nrest s.b (nrest s.a w0))) (by omega)
  have s4 := nstep s.e (nrest s.d (nrest s.c (nrest s.b (nrest s.a w0)))) (by omega)
  have b0 := and51_lt (nlow s.a w0)
  have b1 := and51_lt (nlow s.b (nrest s.a w0))
  have hv : (nrest s.e (nrest s.d (nrest s.c (nrest s.b (nrest s.a w0))))).v < 4611686018427387904 := by omega
  have hl : (nrest s.e (nrest s.d (nrest s.c (nrest s.b (nrest s.a w0))))).v = (nrest s.e (nrest s.d (nrest s.c (nrest s.b (nrest s.a w0))))).l.toNat := by
    unfold W2.v at hv ⊢; omega
  unfold narrowN
  simp only
  rw [nfin_v _ _ _ _ _ _ b0 b1 (by rw [← hl]; omega), ← hl]
  have key := n1 2251799813685248 _ _ _ _ _ _ _ _ _ _ _ _ _ _ _ (s0.trans (by rw [z, Nat.add_zero])) s1 s2 s3 s4
  simp only [Nat.reduceMul] at key
  exact congrArg (· % p25519) key
def fsums (x y : N5) : W5 := ⟨
  wplus (wplus (wplus (wplus (wplus w0 x.a y.a) x.b (y.e * 19)) x.c (y.d * 19)) x.d (y.c * 19)) x.e (y.b * 19),
  wplus (wplus (wplus (wplus (wplus w0 x.a y.b) x.b y.a) x.c (y.e * 19)) x.d (y.d * 19)) x.e (y.c * 19),
  wplus (wplus (wplus (wplus (wplus w0 x.a y.c) x.b y.b) x.c y.a) x.d (y.e * 19)) x.e (y.d * 19),
  wplus (wplus (wplus (wplus (wplus w0 x.a y.d) x.b y.c) x.c y.b) x.d y.a) x.e (y.e * 19),
  wplus (wplus (wplus (wplus (wplus w0 x.a y.e) x.b y.d) x.c y.c) x.d y.b) x.e y.a⟩
def fmul (x y : N5) : N5 := narrowN (fsums (fcarry x) (fcarry y))
theorem wsum5 (a b c d e a' b' c' d' e' : UInt64) (ha : a.toNat < 4503599627370496) (hb : b.toNat < 4503599627370496) (hc : c.toNat < 4503599627370496) (hd : d.toNat < 4503599627370496) (he : e.toNat < 4503599627370496)
    (ha' : a'.toNat < 144115188075855872) (hb' : b'.toNat < 144115188075855872) (hc' : c'.toNat < 144115188075855872) (hd' : d'.toNat < 144115188075855872) (he' : e'.toNat < 144115188075855872) :
    (wplus (wplus (wplus (wplus (wplus w0 a a') b b') c c') d d') e e').v = a.toNat * a'.toNat + b.toNat * b'.toNat + c.toNat * c'.toNat + d.toNat * d'.toNat + e.toNat * e'.toNat ∧
    (wplus (wplus (wplus (wplus (wplus w0 a a') b b') c c') d d') e e').v < 5192296858534827628530496329220096 := by
  have m1 : a.toNat * a'.toNat ≤ 4503599627370496 * 144115188075855872 := Nat.mul_le_mul (by omega) (by omega)
  have m2 : b.toNat * b'.toNat ≤ 4503599627370496 * 144115188075855872 := Nat.mul_le_mul (by omega) (by omega)
  have m3 : c.toNat * c'.toNat ≤ 4503599627370496 * 144115188075855872 := Nat.mul_le_mul (by omega) (by omega)
  have m4 : d.toNat * d'.toNat ≤ 4503599627370496 * 144115188075855872 := Nat.mul_le_mul (by omega) (by omega)
  have m5 : e.toNat * e'.toNat ≤ 4503599627370496 * 144115188075855872 := Nat.mul_le_mul (by omega) (by omega)
  simp only [Nat.reduceMul] at m1 m2 m3 m4 m5
  have z : w0.v = 0 := rfl
  have s1 := wplus_v w0 a a' (by omega)
  have s2 := wplus_v (wplus w0 a a') b b' (by omega)
  have s3 := wplus_v (wplus (wplus w0 a a') b b') c c' (by omega)
  have s4 := wplus_v (wplus (wplus (wplus w0 a a') b b') c c') d d' (by omega)
  have s5 := wplus_v (wplus (wplus (wplus (wplus w0 a a') b b') c c') d d') e e' (by omega)
  constructor <;> omega
theorem mul19n (y : UInt64) (h : y.toNat < 4503599627370496) : (y * 19).toNat = y.toNat * 19 := by
  rw [UInt64.toNat_mul]
  show y.toNat * 19 % _ = _
  omega
theorem fsums_spec (x y : N5) (hx : x.lt 4503599627370496) (hy : y.lt 4503599627370496) : (fsums x y).v % p25519 = (x.w * y.w) % p25519 ∧ (fsums x y).lt 5192296858534827628530496329220096 := by
  obtain ⟨xa, xb, xc, xd, xe⟩ := hx
  obtain ⟨ya, yb, yc, yd, ye⟩ := hy
  have nb := mul19n _ yb
  have nc := mul19n _ yc
  have nd := mul19n _ yd
  have ne := mul19n _ ye
  obtain ⟨s0, l0⟩ := wsum5 x.a x.b x.c x.d x.e y.a (y.e * 19) (y.d * 19) (y.c * 19) (y.b * 19) xa xb xc xd xe (by omega) (by omega) (by omega) (by omega) (by omega)
  obtain ⟨s1, l1⟩ := wsum5 x.a x.b x.c x.d x.e y.b y.a (y.e * 19) (y.d * 19) (y.c * 19) xa xb xc xd xe (by omega) (by omega) (by omega) (by omega) (by omega)
  obtain ⟨s2, l2⟩ := wsum5 x.a x.b x.c x.d x.e y.c y.b y.a (y.e * 19) (y.d * 19) xa xb xc xd xe (by omega) (by omega) (by omega) (by omega) (by omega)
  obtain ⟨s3, l3⟩ := wsum5 x.a x.b x.c x.d x.e y.d y.c y.b y.a (y.e * 19) xa xb xc xd xe (by omega) (by omega) (by omega) (by omega) (by omega)
  obtain ⟨s4, l4⟩ := wsum5 x.a x.b x.c x.d x.e y.e y.d y.c y.b y.a xa xb xc xd xe (by omega) (by omega) (by omega) (by omega) (by omega)
  refine ⟨?_, l0, l1, l2, l3, l4⟩
  rw [nb, nc, nd, ne] at s0
  rw [nc, nd, ne] at s1
  rw [nd, ne] at s2
  rw [ne] at s3
  have key : x.w * y.w = (fsums x y).v + p25519 * ((x.b.toNat * y.e.toNat + x.c.toNat * y.d.toNat + x.d.toNat * y.c.toNat + x.e.toNat * y.b.toNat) + (x.c.toNat * y.e.toNat + x.d.toNat * y.d.toNat + x.e.toNat * y.c.toNat) * 2251799813685248 + (x.d.toNat * y.e.toNat + x.e.toNat * y.d.toNat) * 5070602400912917605986812821504 + x.e.toNat * y.e.toNat * 11417981541647679048466287755595961091061972992) := by
    show _ = (_ + _ * _ + _ * _ + _ * _ + _ * _) + _
    simp only [N5.w]
    unfold fsums
    simp only
    rw [s0, s1, s2, s3, s4]
    simp only [p25519]
    generalize x.a.toNat = a0
    generalize x.b.toNat = a1
    generalize x.c.toNat = a2
    generalize x.d.toNat = a3
    generalize x.e.toNat = a4
    generalize y.a.toNat = b0
    generalize y.b.toNat = b1
    generalize y.c.toNat = b2
    generalize y.d.toNat = b3
    generalize y.e.toNat = b4
    grind
  rw [key, Nat.add_mul_mod_self_left]
theorem N5.lt_le {x : N5} {m n : Nat} (h : x.lt m) (hmn : m ≤ n) : x.lt n := by
  obtain ⟨a, b, c, d, e⟩ := h
  exact ⟨by omega, by omega, by omega, by omega, by omega⟩
theorem fmul_mod (x y : N5) : (fmul x y).w % p25519 = (x.w * y.w) % p25519 := by
  obtain ⟨_, hx⟩ := fcarry_spec x
  obtain ⟨_, hy⟩ := fcarry_spec y
  obtain ⟨h1, h2⟩ := fsums_spec _ _ (N5.lt_le hx (by decide)) (N5.lt_le hy (by decide))
  unfold fmul
  rw [narrowN_v _ h2, h1, Nat.mul_mod, fcarry_mod, fcarry_mod, ← Nat.mul_mod]
def fscale (x : N5) (n : UInt64) : N5 := narrowN ⟨wplus w0 (fcarry x).a n, wplus w0 (fcarry x).b n, wplus w0 (fcarry x).c n, wplus w0 (fcarry x).d n, wplus w0 (fcarry x).e n⟩
theorem wone (a n : UInt64) (ha : a.toNat < 4503599627370496) (hn : n.toNat < 4294967296) : (wplus w0 a n).v = a.toNat * n.toNat ∧ (wplus w0 a n).v < 5192296858534827628530496329220096 := by
  have m1 : a.toNat * n.toNat ≤ 4503599627370496 * 4294967296 := Nat.mul_le_mul (by omega) (by omega)
  simp only [Nat.reduceMul] at m1
  have z : w0.v = 0 := rfl
  have s1 := wplus_v w0 a n (by rw [z, Nat.zero_add]; exact Nat.lt_of_le_of_lt m1 (by decide))
  rw [z, Nat.zero_add] at s1
  exact ⟨s1, by rw [s1]; exact Nat.lt_of_le_of_lt m1 (by decide)⟩
theorem fscale_mod (x : N5) (n : UInt64) (hn : n.toNat < 4294967296) : (fscale x n).w % p25519 = (x.w * n.toNat) % p25519 := by
  obtain ⟨_, a, b, c, d, e⟩ := fcarry_spec x
  obtain ⟨s0, l0⟩ := wone (fcarry x).a n (by omega) hn
  obtain ⟨s1, l1⟩ := wone (fcarry x).b n (by omega) hn
  obtain ⟨s2, l2⟩ := wone (fcarry x).c n (by omega) hn
  obtain ⟨s3, l3⟩ := wone (fcarry x).d n (by omega) hn
  obtain ⟨s4, l4⟩ := wone (fcarry x).e n (by omega) hn
  have e : (x.w * n.toNat) % p25519 = ((fcarry x).w * n.toNat) % p25519 := by
    rw [Nat.mul_mod, ← fcarry_mod x, ← Nat.mul_mod]
  rw [e]
  have hb : W5.lt ⟨wplus w0 (fcarry x).a n, wplus w0 (fcarry x).b n, wplus w0 (fcarry x).c n, wplus w0 (fcarry x).d n, wplus w0 (fcarry x).e n⟩ 5192296858534827628530496329220096 := by
    simp only [W5.lt]
    exact ⟨l0, l1, l2, l3, l4⟩
  unfold fscale
  refine (narrowN_v _ hb).trans (congrArg (· % p25519) ?_)
  unfold W5.v
  simp only
  rw [s0, s1, s2, s3, s4]
  simp only [N5.w]
  generalize (fcarry x).a.toNat = a0
  generalize (fcarry x).b.toNat = a1
  generalize (fcarry x).c.toNat = a2
  generalize (fcarry x).d.toNat = a3
  generalize (fcarry x).e.toNat = a4
  generalize n.toNat = m
  grind
theorem N5.w_inj (x y : N5) (hx : x.lt 2251799813685248) (hy : y.lt 2251799813685248) (h : x.w = y.w) : x = y := by
  obtain ⟨a, b, c, d, e⟩ := hx
  obtain ⟨a', b', c', d', e'⟩ := hy
  unfold N5.w at h
  apply N5.ext <;> apply UInt64.toNat_inj.1 <;> omega
theorem fsmall_congr {x y : N5} (h : x.w % p25519 = y.w % p25519) : fsmall x = fsmall y := by
  obtain ⟨a, b⟩ := fsmall_spec x
  obtain ⟨c, d⟩ := fsmall_spec y
  exact N5.w_inj _ _ b d (by rw [a, c, h])
def wordB (w : UInt64) : List UInt8 := [(shr64 w 0).toUInt8, (shr64 w 8).toUInt8, (shr64 w 16).toUInt8, (shr64 w 24).toUInt8, (shr64 w 32).toUInt8, (shr64 w 40).toUInt8, (shr64 w 48).toUInt8, (shr64 w 56).toUInt8]
def feB (t : N5) : List UInt8 := wordB (t.a ||| shl64 t.b 51) ++ wordB (shr64 t.b 13 ||| shl64 t.c 38) ++ wordB (shr64 t.c 26 ||| shl64 t.d 25) ++ wordB (shr64 t.d 39 ||| shl64 t.e 12)
def bytesF (x : N5) : List UInt8 := feB (fsmall x)
theorem bytesF_congr {x y : N5} (h : x.w % p25519 = y.w % p25519) : bytesF x = bytesF y := by
  unfold bytesF; rw [fsmall_congr h]
def zeroF : N5 := ⟨0, 0, 0, 0, 0⟩
theorem and_full (x : UInt64) : x &&& 18446744073709551615 = x := by
  apply UInt64.toNat_inj.1
  rw [UInt64.toNat_and]
  show x.toNat &&& (2 ^ 64 - 1) = _
  rw [Nat.and_two_pow_sub_one_eq_mod]
  exact Nat.mod_eq_of_lt x.toNat_lt
theorem swap_l (a b : UInt64) : a ^^^ ((a ^^^ b) &&& 18446744073709551615) = b := by
  rw [and_full, ← UInt64.xor_assoc, UInt64.xor_self, UInt64.zero_xor]
theorem swap_r (a b : UInt64) : b ^^^ ((a ^^^ b) &&& 18446744073709551615) = a := by
  rw [and_full, UInt64.xor_comm a b, ← UInt64.xor_assoc, UInt64.xor_self, UInt64.zero_xor]
theorem swap_no (a d : UInt64) : a ^^^ (d &&& 0) = a := by simp
end Go.Proofs.YtahiopdkekkibaaDoor.FK

/-
  The ladder of layer 4 over the numbers modulo the prime; what is 0 of it. It speaks of no program.
-/
namespace Go.Proofs.YtahiopdkekkibaaDoor.FK
open Go Go.RowKit
set_option maxHeartbeats 4000000
set_option linter.unusedSimpArgs false
set_option linter.unusedVariables false
set_option linter.unusedSectionVars false
theorem fn_add (n : Nat) [NeZero n] (a b : Nat) : Fin.ofNat n (a + b) = Fin.ofNat n a + Fin.ofNat n b := by
  apply Fin.ext
  rw [Fin.val_add]
  show (a + b) % n = (a % n + b % n) % n
  rw [Nat.add_mod]
theorem fn_mul (n : Nat) [NeZero n] (a b : Nat) : Fin.ofNat n (a * b) = Fin.ofNat n a * Fin.ofNat n b := by
  apply Fin.ext
  rw [Fin.val_mul]
  show (a * b) % n = (a % n * (b % n)) % n
  rw [Nat.mul_mod]
theorem fn_eq {n : Nat} [NeZero n] {a b : Nat} : Fin.ofNat n a = Fin.ofNat n b ↔ a % n = b % n :=
  ⟨fun h => congrArg Fin.val h, fun h => Fin.ext h⟩
theorem fn_sub (n : Nat) [NeZero n] {a b c : Nat} (h : (c + b) % n = a % n) : Fin.ofNat n c = Fin.ofNat n a - Fin.ofNat n b := by
  have e := fn_add n c b
  rw [fn_eq.2 h] at e
  rw [e]
  grind
structure P2 (n : Nat) where
  (x z : Fin n)
section
variable {n : Nat} [NeZero n]
def dbl (c : Fin n) (p : P2 n) : P2 n :=
  ⟨(p.x + p.z) * (p.x + p.z) * ((p.x - p.z) * (p.x - p.z)),
   ((p.x + p.z) * (p.x + p.z) - (p.x - p.z) * (p.x - p.z)) * ((p.x + p.z) * (p.x + p.z) + ((p.x + p.z) * (p.x + p.z) - (p.x - p.z) * (p.x - p.z)) * c)⟩
def sm (u : Fin n) (p q : P2 n) : P2 n :=
  ⟨((q.x - q.z) * (p.x + p.z) + (q.x + q.z) * (p.x - p.z)) * ((q.x - q.z) * (p.x + p.z) + (q.x + q.z) * (p.x - p.z)),
   u * (((q.x - q.z) * (p.x + p.z) - (q.x + q.z) * (p.x - p.z)) * ((q.x - q.z) * (p.x + p.z) - (q.x + q.z) * (p.x - p.z)))⟩
theorem sm_comm (u : Fin n) (p q : P2 n) : sm u p q = sm u q p := by
  unfold sm
  congr 1 <;> grind
theorem dbl_o (c : Fin n) (p : P2 n) (h : p.z = 0) : (dbl c p).z = 0 := by unfold dbl; simp only [h]; grind
theorem dbl_2 (c : Fin n) (p : P2 n) (h : p.x = 0) : (dbl c p).z = 0 := by unfold dbl; simp only [h]; grind
theorem sm_0 (p q : P2 n) : (sm 0 p q).z = 0 := by unfold sm; grind
/-- The ladder, bit by bit; A is so often the point, B once more. -/
def ladV (c u : Fin n) (bit : Nat → Bool) : Nat → P2 n × P2 n → P2 n × P2 n
  | 0, s => s
  | t + 1, s => ladV c u bit t (if bit t = true then (sm u s.1 s.2, dbl c s.2) else (dbl c s.1, sm u s.1 s.2))
/-- The same with both changed lately. -/
def ladS (c u : Fin n) (bit : Nat → Bool) : Nat → P2 n × P2 n × Bool → P2 n × P2 n × Bool
  | 0, s => s
  | t + 1, s => ladS c u bit t (if (s.2.2 != bit t) = true then (dbl c s.2.1, sm u s.2.1 s.1, bit t) else (dbl c s.1, sm u s.1 s.2.1, bit t))
def un (s : P2 n × P2 n × Bool) : P2 n × P2 n := if s.2.2 = true then (s.2.1, s.1) else (s.1, s.2.1)
theorem ladS_un (c u : Fin n) (bit : Nat → Bool) : ∀ (t : Nat) (s : P2 n × P2 n × Bool), un (ladS c u bit t s) = ladV c u bit t (un s)
  | 0, s => rfl
  | t + 1, (a, b, sw) => by
    rw [ladS, ladV, ladS_un c u bit t]
    congr 1
    cases sw <;> cases h : bit t <;> simp [un]
    all_goals exact sm_comm _ _ _
/-- Of 0: what stands below is always 0. -/
theorem ladV_0 (c : Fin n) (bit : Nat → Bool) : ∀ (t : Nat) (s : P2 n × P2 n), s.1.z = 0 → (s.2.z = 0 ∨ s.2.x = 0) → (ladV c 0 bit t s).1.z = 0
  | 0, s, h, _ => h
  | t + 1, (a, b), h, hb => by
    rw [ladV]
    cases bit t
    · exact ladV_0 c bit t _ (dbl_o c a h) (.inl (sm_0 _ _))
    · exact ladV_0 c bit t _ (sm_0 _ _) (.inl (hb.elim (dbl_o c b) (dbl_2 c b)))
end
section
variable {n : Nat} [NeZero n]
/-- To the power of 2^255 - 21. -/
def vinvR (a : Fin n) : Nat → Fin n → Fin n
  | 0, r => r
  | b + 1, r => vinvR a b (if b = 2 ∨ b = 4 then r * r else r * r * a)
theorem vinvR_0 : ∀ (t : Nat) (r : Fin n), vinvR 0 (t + 1) r = 0
  | 0, r => by
    rw [vinvR, vinvR, if_neg (by decide)]
    grind
  | t + 1, r => by rw [vinvR]; exact vinvR_0 t _
end
instance : NeZero p25519 := ⟨by decide⟩
def fv (x : N5) : Fin p25519 := Fin.ofNat p25519 x.w
theorem fv_eq {x y : N5} : fv x = fv y ↔ x.w % p25519 = y.w % p25519 := fn_eq
theorem fv_add (x y : N5) : fv (fadd x y) = fv x + fv y := by
  unfold fv; rw [← fn_add]; exact fn_eq.2 (fadd_mod x y)
theorem fv_mul (x y : N5) : fv (fmul x y) = fv x * fv y := by
  unfold fv; rw [← fn_mul]; exact fn_eq.2 (fmul_mod x y)
theorem fv_sub (x y : N5) : fv (fsub x y) = fv x - fv y := fn_sub _ (fsub_mod x y)
theorem fv_scale (x : N5) (k : UInt64) (hk : k.toNat < 4294967296) : fv (fscale x k) = fv x * Fin.ofNat p25519 k.toNat := by
  unfold fv; rw [← fn_mul]; exact fn_eq.2 (fscale_mod x k hk)
theorem fv_carry (x : N5) : fv (fcarry x) = fv x := fn_eq.2 (fcarry_mod x)
def oneF : N5 := ⟨1, 0, 0, 0, 0⟩
theorem fv_one : fv oneF = 1 := by decide +kernel
theorem fv_zero : fv zeroF = 0 := by decide +kernel
def invR (a : N5) : Nat → N5 → N5
  | 0, r => r
  | b + 1, r => invR a b (if b = 2 ∨ b = 4 then fmul r r else fmul (fmul r r) a)
theorem fv_invR (a : N5) : ∀ (t : Nat) (r : N5), fv (invR a t r) = vinvR (fv a) t (fv r)
  | 0, r => rfl
  | t + 1, r => by
    rw [invR, vinvR, fv_invR a t]
    congr 1
    split <;> simp only [fv_mul]
def finv (a : N5) : N5 := invR (fcarry a) 255 oneF
theorem fv_inv (a : N5) : fv (finv a) = vinvR (fv a) 255 1 := by
  unfold finv; rw [fv_invR, fv_carry, fv_one]
structure PN where
  (x z : N5)
def a24 : UInt64 := (121665 : UInt32).toUInt64
def dblN (p : PN) : PN :=
  ⟨fmul (fmul (fadd p.x p.z) (fadd p.x p.z)) (fmul (fsub p.x p.z) (fsub p.x p.z)),
   fmul (fsub (fmul (fadd p.x p.z) (fadd p.x p.z)) (fmul (fsub p.x p.z) (fsub p.x p.z))) (fadd (fmul (fadd p.x p.z) (fadd p.x p.z)) (fscale (fsub (fmul (fadd p.x p.z) (fadd p.x p.z)) (fmul (fsub p.x p.z) (fsub p.x p.z))) a24))⟩
def smN (u : N5) (p q : PN) : PN :=
  ⟨fmul (fadd (fmul (fsub q.x q.z) (fadd p.x p.z)) (fmul (fadd q.x q.z) (fsub p.x p.z))) (fadd (fmul (fsub q.x q.z) (fadd p.x p.z)) (fmul (fadd q.x q.z) (fsub p.x p.z))),
   fmul u (fmul (fsub (fmul (fsub q.x q.z) (fadd p.x p.z)) (fmul (fadd q.x q.z) (fsub p.x p.z))) (fsub (fmul (fsub q.x q.z) (fadd p.x p.z)) (fmul (fadd q.x q.z) (fsub p.x p.z))))⟩
def pv (p : PN) : P2 p25519 := ⟨fv p.x, fv p.z⟩
def c24 : Fin p25519 := Fin.ofNat p25519 121665
theorem pv_dbl (p : PN) : pv (dblN p) = dbl c24 (pv p) := by
  have h := fun x => fv_scale x a24 (by decide)
  have e : a24.toNat = 121665 := rfl
  unfold pv dblN dbl c24
  simp only [fv_mul, fv_add, fv_sub, h, e]
theorem pv_sm (u : N5) (p q : PN) : pv (smN u p q) = sm (fv u) (pv p) (pv q) := by
  unfold pv smN sm
  simp only [fv_mul, fv_add, fv_sub]
def stepS (u : N5) (bit : Bool) (s : PN × PN × Bool) : PN × PN × Bool :=
  if (s.2.2 != bit) = true then (dblN s.2.1, smN u s.2.1 s.1, bit) else (dblN s.1, smN u s.1 s.2.1, bit)
def climbS (u : N5) (bit : Nat → Bool) : Nat → PN × PN × Bool → PN × PN × Bool
  | 0, s => s
  | t + 1, s => climbS u bit t (stepS u (bit t) s)
def pvs (s : PN × PN × Bool) : P2 p25519 × P2 p25519 × Bool := (pv s.1, pv s.2.1, s.2.2)
theorem pvs_climb (u : N5) (bit : Nat → Bool) : ∀ (t : Nat) (s : PN × PN × Bool), pvs (climbS u bit t s) = ladS c24 (fv u) bit t (pvs s)
  | 0, s => rfl
  | t + 1, (a, b, sw) => by
    rw [climbS, ladS, pvs_climb u bit t]
    congr 1
    unfold stepS pvs
    cases sw <;> cases bit t <;> simp [pv_dbl, pv_sm]
def kbit (k : List UInt8) (t : Nat) : Bool := (shr8 (k.getD (t / 8) 0) (t % 8) &&& 1) == 1
def start (x : N5) : PN × PN × Bool := (⟨oneF, zeroF⟩, ⟨x, oneF⟩, false)
def endS (s : PN × PN × Bool) : N5 := fmul (if s.2.2 = true then s.2.1 else s.1).x (finv (if s.2.2 = true then s.2.1 else s.1).z)
def climbF (k : List UInt8) (x : N5) : N5 := endS (climbS x (kbit k) 255 (start x))
theorem fv_climb (k : List UInt8) (x : N5) : fv (climbF k x) = (ladV c24 (fv x) (kbit k) 255 (⟨1, 0⟩, ⟨fv x, 1⟩)).1.x * vinvR (ladV c24 (fv x) (kbit k) 255 (⟨1, 0⟩, ⟨fv x, 1⟩)).1.z 255 1 := by
  have h := pvs_climb x (kbit k) 255 (start x)
  have h2 := ladS_un c24 (fv x) (kbit k) 255 (pvs (start x))
  have h3 : un (pvs (start x)) = (⟨1, 0⟩, ⟨fv x, 1⟩) := by
    unfold un pvs start pv
    simp only [fv_one, fv_zero]
    rfl
  rw [h3, ← h] at h2
  rw [← h2]
  unfold climbF endS
  rw [fv_mul, fv_inv]
  generalize climbS x (kbit k) 255 (start x) = s
  obtain ⟨a, b, sw⟩ := s
  cases sw <;> rfl
end Go.Proofs.YtahiopdkekkibaaDoor.FK

/-
  The curve of Edwards, and the ladder over it: scalars change places. It speaks of no program.
-/
namespace Go.Proofs.YtahiopdkekkibaaDoor.FK
open Go Go.RowKit
set_option maxHeartbeats 4000000
set_option linter.unusedSimpArgs false
set_option linter.unusedVariables false
set_option linter.unusedSectionVars false
-- THE CURVE OF EDWARDS
section
set_option linter.unusedSectionVars false
variable {n : Nat} [NeZero n]
structure Fld (inv : Fin n → Fin n) : Prop where
  mul : ∀ a, a ≠ 0 → a * inv a = 1
  zero : inv 0 = 0
  two : (1 + 1 : Fin n) ≠ 0
theorem fl_cancel0 {a b c i : Fin n} (h : c * i = 1) (e : a * c = b * c) : a = b := by grind
theorem Fld.cancel {inv : Fin n → Fin n} (h : Fld inv) {a b c : Fin n} (hc : c ≠ 0) (e : a * c = b * c) : a = b := fl_cancel0 (h.mul c hc) e
theorem Fld.nz {inv : Fin n → Fin n} (h : Fld inv) {a b : Fin n} (ha : a ≠ 0) (hb : b ≠ 0) : a * b ≠ 0 := fun e => hb (h.cancel ha (by grind))
theorem Fld.one {inv : Fin n → Fin n} (h : Fld inv) : (1 : Fin n) ≠ 0 := fun e => h.two (by grind)
structure EP (n : Nat) where
  (x y : Fin n)
def On (D : Fin n) (P : EP n) : Prop := P.x * P.x + P.y * P.y = 1 + D * (P.x * P.x * P.y * P.y)
def NSq (D : Fin n) : Prop := ∀ s, D ≠ s * s
theorem NSq.nz {D : Fin n} (h : NSq D) : D ≠ 0 := fun e => h 0 (by rw [e]; grind)
theorem ed_C1 (x1 y1 x2 y2 D e : Fin n) (he : e * e = 1) (ht : D * (x1*x2*y1*y2) = e) (h1 : x1*x1+y1*y1 = 1 + D*(x1*x1*y1*y1)) (h2 : x2*x2+y2*y2 = 1 + D*(x2*x2*y2*y2)) :
  D * ((x1*y1*(x2+y2)) * (x1*y1*(x2+y2))) = (x1 + e*y1)*(x1+e*y1) := by grind
theorem ed_C2 (x1 y1 x2 y2 D e : Fin n) (he : e * e = 1) (ht : D * (x1*x2*y1*y2) = e) (h1 : x1*x1+y1*y1 = 1 + D*(x1*x1*y1*y1)) (h2 : x2*x2+y2*y2 = 1 + D*(x2*x2*y2*y2)) :
  D * ((x1*y1*(x2-y2)) * (x1*y1*(x2-y2))) = (x1 - e*y1)*(x1-e*y1) := by grind
theorem ed_sq {D a b i : Fin n} (h1 : D * (b * b) = a * a) (h2 : b * i = 1) : D = (a * i) * (a * i) := by grind
theorem ed_e0 {x1 y1 x2 y2 D e : Fin n} (ht : D * (x1*x2*y1*y2) = e) (b : x1*y1*(x2+y2) = 0) (d : x1*y1*(x2-y2) = 0) : e * (1 + 1) = 0 := by grind
theorem ed_complete {inv : Fin n → Fin n} (h : Fld inv) {D : Fin n} (hD : NSq D) {P Q : EP n} (o1 : On D P) (o2 : On D Q) {e : Fin n} (he : e * e = 1) : D * (P.x*Q.x*P.y*Q.y) ≠ e := by
  intro ht
  have c1 := ed_C1 P.x P.y Q.x Q.y D e he ht o1 o2
  have c2 := ed_C2 P.x P.y Q.x Q.y D e he ht o1 o2
  by_cases b : P.x*P.y*(Q.x+Q.y) = 0
  · by_cases d : P.x*P.y*(Q.x-Q.y) = 0
    · have e0 : e ≠ 0 := fun h0 => h.one (by rw [h0] at he; grind)
      exact h.nz e0 h.two (ed_e0 ht b d)
    · exact hD _ (ed_sq c2 (h.mul _ d))
  · exact hD _ (ed_sq c1 (h.mul _ b))
theorem ed_p {inv : Fin n → Fin n} (h : Fld inv) {D : Fin n} (hD : NSq D) {P Q : EP n} (o1 : On D P) (o2 : On D Q) : 1 + D * (P.x*Q.x*P.y*Q.y) ≠ 0 := fun h0 =>
  ed_complete h hD o1 o2 (e := -1) (by grind) (by grind)
theorem ed_m {inv : Fin n → Fin n} (h : Fld inv) {D : Fin n} (hD : NSq D) {P Q : EP n} (o1 : On D P) (o2 : On D Q) : 1 - D * (P.x*Q.x*P.y*Q.y) ≠ 0 := fun h0 =>
  ed_complete h hD o1 o2 (e := 1) (by grind) (by grind)
def eadd (inv : Fin n → Fin n) (D : Fin n) (P Q : EP n) : EP n := ⟨(P.x*Q.y + P.y*Q.x) * inv (1 + D*(P.x*Q.x*P.y*Q.y)), (P.y*Q.y - P.x*Q.x) * inv (1 - D*(P.x*Q.x*P.y*Q.y))⟩
theorem ed_mul {a d i : Fin n} (h : d * i = 1) : a * i * d = a := by grind
theorem eadd_x {inv : Fin n → Fin n} (h : Fld inv) {D : Fin n} (hD : NSq D) {P Q : EP n} (o1 : On D P) (o2 : On D Q) : (eadd inv D P Q).x * (1 + D*(P.x*Q.x*P.y*Q.y)) = P.x*Q.y + P.y*Q.x := ed_mul (h.mul _ (ed_p h hD o1 o2))
theorem eadd_y {inv : Fin n → Fin n} (h : Fld inv) {D : Fin n} (hD : NSq D) {P Q : EP n} (o1 : On D P) (o2 : On D Q) : (eadd inv D P Q).y * (1 - D*(P.x*Q.x*P.y*Q.y)) = P.y*Q.y - P.x*Q.x := ed_mul (h.mul _ (ed_m h hD o1 o2))
theorem on_di {D i x y : Fin n} (hd : D * i = 1) (h : x*x + y*y = 1 + D*(x*x*y*y)) : x*x*y*y = i * (x*x + y*y - 1) := by grind
theorem ed_K1 (x1 y1 x2 y2 D Di : Fin n) (hd : D * Di = 1) (h1 : x1*x1*y1*y1 = Di*(x1*x1+y1*y1-1)) (h2 : x2*x2*y2*y2 = Di*(x2*x2+y2*y2-1)) :
  (x1*y2+y1*x2)*(x1*y2+y1*x2)*((1-D*(x1*x2*y1*y2))*(1-D*(x1*x2*y1*y2))) + (y1*y2-x1*x2)*(y1*y2-x1*x2)*((1+D*(x1*x2*y1*y2))*(1+D*(x1*x2*y1*y2)))
  = (1+D*(x1*x2*y1*y2))*(1+D*(x1*x2*y1*y2))*((1-D*(x1*x2*y1*y2))*(1-D*(x1*x2*y1*y2))) + D*((x1*y2+y1*x2)*(x1*y2+y1*x2)*(y1*y2-x1*x2)*(y1*y2-x1*x2)) := by grind
theorem on_of {x y p m X Y D : Fin n} (hx : x*p = X) (hy : y*m = Y) (k : X*X*(m*m) + Y*Y*(p*p) = p*p*(m*m) + D*(X*X*Y*Y)) : (x*x+y*y)*(p*m*(p*m)) = (1+D*(x*x*y*y))*(p*m*(p*m)) := by
  subst hx; subst hy; grind
theorem eadd_on {inv : Fin n → Fin n} (h : Fld inv) {D : Fin n} (hD : NSq D) {P Q : EP n} (o1 : On D P) (o2 : On D Q) : On D (eadd inv D P Q) := by
  have hd := h.mul D hD.nz
  have k := ed_K1 P.x P.y Q.x Q.y D (inv D) hd (on_di hd o1) (on_di hd o2)
  have p := ed_p h hD o1 o2
  have m := ed_m h hD o1 o2
  exact h.cancel (h.nz (h.nz p m) (h.nz p m)) (on_of (eadd_x h hD o1 o2) (eadd_y h hD o1 o2) k)
theorem ed_G1 (x1 y1 x2 y2 x3 y3 D Di : Fin n) (hd : D * Di = 1) (h1 : x1*x1*y1*y1 = Di*(x1*x1+y1*y1-1)) (h2 : x2*x2*y2*y2 = Di*(x2*x2+y2*y2-1)) (h3 : x3*x3*y3*y3 = Di*(x3*x3+y3*y3-1)) :
  ((x1*y2+y1*x2)*(1-D*(x1*x2*y1*y2))*y3 + (y1*y2-x1*x2)*(1+D*(x1*x2*y1*y2))*x3) * ((1+D*(x2*x3*y2*y3))*(1-D*(x2*x3*y2*y3)) + D*((x2*y3+y2*x3)*(y2*y3-x2*x3)*x1*y1))
  = (x1*((y2*y3-x2*x3)*(1+D*(x2*x3*y2*y3))) + y1*((x2*y3+y2*x3)*(1-D*(x2*x3*y2*y3)))) * ((1+D*(x1*x2*y1*y2))*(1-D*(x1*x2*y1*y2)) + D*((x1*y2+y1*x2)*(y1*y2-x1*x2)*x3*y3)) := by grind
theorem ed_G2 (x1 y1 x2 y2 x3 y3 D Di : Fin n) (hd : D * Di = 1) (h1 : x1*x1*y1*y1 = Di*(x1*x1+y1*y1-1)) (h2 : x2*x2*y2*y2 = Di*(x2*x2+y2*y2-1)) (h3 : x3*x3*y3*y3 = Di*(x3*x3+y3*y3-1)) :
  ((y1*y2-x1*x2)*(1+D*(x1*x2*y1*y2))*y3 - (x1*y2+y1*x2)*(1-D*(x1*x2*y1*y2))*x3) * ((1+D*(x2*x3*y2*y3))*(1-D*(x2*x3*y2*y3)) - D*((x2*y3+y2*x3)*(y2*y3-x2*x3)*x1*y1))
  = (y1*((y2*y3-x2*x3)*(1+D*(x2*x3*y2*y3))) - x1*((x2*y3+y2*x3)*(1-D*(x2*x3*y2*y3)))) * ((1+D*(x1*x2*y1*y2))*(1-D*(x1*x2*y1*y2)) - D*((x1*y2+y1*x2)*(y1*y2-x1*x2)*x3*y3)) := by grind
theorem ed_l1 {l a b p m X Y x y D : Fin n} (h : l * (1 + D*(a*x*b*y)) = a*y + b*x) (hx : a*p = X) (hy : b*m = Y) : l * (p*m + D*(X*Y*x*y)) = X*m*y + Y*p*x ∧ p*m + D*(X*Y*x*y) = p*m*(1 + D*(a*x*b*y)) := by
  subst hx; subst hy; constructor <;> grind
theorem ed_l2 {l a b p m X Y x y D : Fin n} (h : l * (1 - D*(a*x*b*y)) = b*y - a*x) (hx : a*p = X) (hy : b*m = Y) : l * (p*m - D*(X*Y*x*y)) = Y*p*y - X*m*x ∧ p*m - D*(X*Y*x*y) = p*m*(1 - D*(a*x*b*y)) := by
  subst hx; subst hy; constructor <;> grind
theorem ed_r1 {l a b p m X Y x y D : Fin n} (h : l * (1 + D*(x*a*y*b)) = x*b + y*a) (hx : a*p = X) (hy : b*m = Y) : l * (p*m + D*(X*Y*x*y)) = x*(Y*p) + y*(X*m) ∧ p*m + D*(X*Y*x*y) = p*m*(1 + D*(x*a*y*b)) := by
  subst hx; subst hy; constructor <;> grind
theorem ed_r2 {l a b p m X Y x y D : Fin n} (h : l * (1 - D*(x*a*y*b)) = y*b - x*a) (hx : a*p = X) (hy : b*m = Y) : l * (p*m - D*(X*Y*x*y)) = y*(Y*p) - x*(X*m) ∧ p*m - D*(X*Y*x*y) = p*m*(1 - D*(x*a*y*b)) := by
  subst hx; subst hy; constructor <;> grind
theorem ed_join {l r N1 N2 E1 E2 : Fin n} (h1 : l * E1 = N1) (h2 : r * E2 = N2) (g : N1 * E2 = N2 * E1) : l * (E1 * E2) = r * (E1 * E2) := by grind
theorem EP.ext' {P Q : EP n} (h1 : P.x = Q.x) (h2 : P.y = Q.y) : P = Q := by cases P; cases Q; simp only at h1 h2; rw [h1, h2]
theorem nz_of {a b : Fin n} (e : a = b) (h : b ≠ 0) : a ≠ 0 := by rw [e]; exact h
theorem eadd_assoc {inv : Fin n → Fin n} (h : Fld inv) {D : Fin n} (hD : NSq D) {P Q R : EP n} (o1 : On D P) (o2 : On D Q) (o3 : On D R) : eadd inv D (eadd inv D P Q) R = eadd inv D P (eadd inv D Q R) := by
  have hd := h.mul D hD.nz
  have d1 := on_di hd o1
  have d2 := on_di hd o2
  have d3 := on_di hd o3
  have oa := eadd_on h hD o1 o2
  have ob := eadd_on h hD o2 o3
  have pa := ed_p h hD o1 o2
  have ma := ed_m h hD o1 o2
  have pb := ed_p h hD o2 o3
  have mb := ed_m h hD o2 o3
  have ax := eadd_x h hD o1 o2
  have ay := eadd_y h hD o1 o2
  have bx := eadd_x h hD o2 o3
  have by' := eadd_y h hD o2 o3
  obtain ⟨l1, l2⟩ := ed_l1 (eadd_x h hD oa o3) ax ay
  obtain ⟨l3, l4⟩ := ed_l2 (eadd_y h hD oa o3) ax ay
  obtain ⟨r1, r2⟩ := ed_r1 (eadd_x h hD o1 ob) bx by'
  obtain ⟨r3, r4⟩ := ed_r2 (eadd_y h hD o1 ob) bx by'
  have n1 := nz_of l2 (h.nz (h.nz pa ma) (ed_p h hD oa o3))
  have n2 := nz_of r2 (h.nz (h.nz pb mb) (ed_p h hD o1 ob))
  have n3 := nz_of l4 (h.nz (h.nz pa ma) (ed_m h hD oa o3))
  have n4 := nz_of r4 (h.nz (h.nz pb mb) (ed_m h hD o1 ob))
  exact EP.ext' (h.cancel (h.nz n1 n2) (ed_join l1 r1 (ed_G1 P.x P.y Q.x Q.y R.x R.y D (inv D) hd d1 d2 d3))) (h.cancel (h.nz n3 n4) (ed_join l3 r3 (ed_G2 P.x P.y Q.x Q.y R.x R.y D (inv D) hd d1 d2 d3)))
def eO : EP n := ⟨0, 1⟩
theorem eO_on (D : Fin n) : On D eO := by show (0 : Fin n) * 0 + 1 * 1 = 1 + D * (0 * 0 * 1 * 1); grind
theorem inv_1 {inv : Fin n → Fin n} (h : Fld inv) : inv 1 = 1 := by have := h.mul 1 h.one; grind
theorem eadd_O {inv : Fin n → Fin n} (h : Fld inv) (D : Fin n) (P : EP n) : eadd inv D P eO = P := by
  have e1 : 1 + D * (P.x * 0 * P.y * 1) = 1 := by grind
  have e2 : 1 - D * (P.x * 0 * P.y * 1) = 1 := by grind
  refine EP.ext' ?_ ?_
  · show (P.x * 1 + P.y * 0) * inv (1 + D * (P.x * 0 * P.y * 1)) = P.x
    rw [e1, inv_1 h]; grind
  · show (P.y * 1 - P.x * 0) * inv (1 - D * (P.x * 0 * P.y * 1)) = P.y
    rw [e2, inv_1 h]; grind
theorem eadd_comm (inv : Fin n → Fin n) (D : Fin n) (P Q : EP n) : eadd inv D P Q = eadd inv D Q P := by
  have e1 : 1 + D * (P.x * Q.x * P.y * Q.y) = 1 + D * (Q.x * P.x * Q.y * P.y) := by grind
  have e2 : 1 - D * (P.x * Q.x * P.y * Q.y) = 1 - D * (Q.x * P.x * Q.y * P.y) := by grind
  refine EP.ext' ?_ ?_
  · show (P.x*Q.y + P.y*Q.x) * inv (1 + D * (P.x * Q.x * P.y * Q.y)) = (Q.x*P.y + Q.y*P.x) * inv (1 + D * (Q.x * P.x * Q.y * P.y))
    rw [e1]; grind
  · show (P.y*Q.y - P.x*Q.x) * inv (1 - D * (P.x * Q.x * P.y * Q.y)) = (Q.y*P.y - Q.x*P.x) * inv (1 - D * (Q.x * P.x * Q.y * P.y))
    rw [e2]; grind
def eneg (P : EP n) : EP n := ⟨-P.x, P.y⟩
theorem eneg_on {D : Fin n} {P : EP n} (h : On D P) : On D (eneg P) := by
  have h : P.x * P.x + P.y * P.y = 1 + D * (P.x * P.x * P.y * P.y) := h
  show -P.x * -P.x + P.y * P.y = 1 + D * (-P.x * -P.x * P.y * P.y)
  grind
theorem eadd_neg {inv : Fin n → Fin n} (h : Fld inv) {D : Fin n} (hD : NSq D) {P : EP n} (o : On D P) : eadd inv D P (eneg P) = eO := by
  have hy := eadd_y h hD o (eneg_on o)
  have hm := ed_m h hD o (eneg_on o)
  have o' : P.x * P.x + P.y * P.y = 1 + D * (P.x * P.x * P.y * P.y) := o
  refine EP.ext' ?_ ?_
  · show (P.x * P.y + P.y * -P.x) * inv (1 + D * (P.x * -P.x * P.y * P.y)) = 0
    grind
  · refine h.cancel hm (hy.trans ?_)
    show P.y * P.y - P.x * -P.x = 1 * (1 - D * (P.x * -P.x * P.y * P.y))
    grind
def npt (inv : Fin n → Fin n) (D : Fin n) (P : EP n) : Nat → EP n
  | 0 => eO
  | k + 1 => eadd inv D P (npt inv D P k)
theorem npt_on {inv : Fin n → Fin n} (h : Fld inv) {D : Fin n} (hD : NSq D) {P : EP n} (o : On D P) : ∀ k, On D (npt inv D P k)
  | 0 => eO_on D
  | k + 1 => eadd_on h hD o (npt_on h hD o k)
theorem npt_add {inv : Fin n → Fin n} (h : Fld inv) {D : Fin n} (hD : NSq D) {P : EP n} (o : On D P) (b : Nat) : ∀ a, npt inv D P (a + b) = eadd inv D (npt inv D P a) (npt inv D P b)
  | 0 => by rw [Nat.zero_add]; show _ = eadd inv D eO _; rw [eadd_comm, eadd_O h]
  | a + 1 => by
    rw [show a + 1 + b = (a + b) + 1 by omega, npt, npt_add h hD o b a, npt, eadd_assoc h hD o (npt_on h hD o a) (npt_on h hD o b)]
theorem npt_mul {inv : Fin n → Fin n} (h : Fld inv) {D : Fin n} (hD : NSq D) {P : EP n} (o : On D P) (b : Nat) : ∀ a, npt inv D (npt inv D P b) a = npt inv D P (a * b)
  | 0 => by rw [Nat.zero_mul]; rfl
  | a + 1 => by
    rw [npt, npt_mul h hD o b a, ← npt_add h hD o, show b + a * b = (a + 1) * b by rw [Nat.add_mul]; omega]
theorem npt_one {inv : Fin n → Fin n} (h : Fld inv) (D : Fin n) (P : EP n) : npt inv D P 1 = P := eadd_O h D P
/-- What is added, and one taken off again. -/
theorem npt_diff {inv : Fin n → Fin n} (h : Fld inv) {D : Fin n} (hD : NSq D) {P : EP n} (o : On D P) (k : Nat) : eadd inv D (npt inv D P (k + 1)) (eneg (npt inv D P k)) = P := by
  have ok := npt_on h hD o k
  rw [npt, eadd_assoc h hD o ok (eneg_on ok), eadd_neg h hD ok, eadd_O h]
end
-- THE LADDER OVER IT
section
set_option linter.unusedSectionVars false
variable {n : Nat} [NeZero n]
structure Rep (s : Fin n) (p : P2 n) (y : Fin n) : Prop where
  eq : p.x * (1 - y) = s * (p.z * (1 + y))
  ne : ¬ (p.x = 0 ∧ p.z = 0)
/-- What a curve, its sign, and the doubling's constant have to do with one another. -/
structure Cur (inv : Fin n → Fin n) (D s c : Fin n) : Prop where
  fld : Fld inv
  ns : NSq D
  ss : s * s = 1
  hc : (1 + (c + c)) * s * (1 - D) = 1 + D
theorem Cur.s0 {inv : Fin n → Fin n} {D s c : Fin n} (h : Cur inv D s c) : s ≠ 0 := fun e => h.fld.one (by have := h.ss; rw [e] at this; grind)
theorem Cur.d1 {inv : Fin n → Fin n} {D s c : Fin n} (h : Cur inv D s c) : 1 - D ≠ 0 := fun e => h.ns 1 (by grind)
theorem rep_l0 {s X Z y i l : Fin n} (ss : s * s = 1) (h : X * (1 - y) = s * (Z * (1 + y))) (hi : (1 + 1) * i = 1) (hl : l = (s * X + Z) * i) : X = l * (s * (1 + y)) ∧ Z = l * (1 - y) := by
  subst hl; constructor <;> grind
theorem rep_l {inv : Fin n → Fin n} {D s c : Fin n} (h : Cur inv D s c) {p : P2 n} {y : Fin n} (r : Rep s p y) : ∃ l, l ≠ 0 ∧ p.x = l * (s * (1 + y)) ∧ p.z = l * (1 - y) := by
  obtain ⟨h1, h2⟩ := rep_l0 h.ss r.eq (h.fld.mul _ h.fld.two) rfl
  refine ⟨_, fun e => r.ne ?_, h1, h2⟩
  rw [h1, h2, e]
  exact ⟨by grind, by grind⟩
theorem dbl_xx {s l y : Fin n} (ss : s * s = 1) : (l * (s * (1 + y)) + l * (1 - y)) * (l * (s * (1 + y)) + l * (1 - y)) * ((l * (s * (1 + y)) - l * (1 - y)) * (l * (s * (1 + y)) - l * (1 - y))) = (1+1)*(1+1)*((1+1)*(1+1)) * (l*l*(l*l)) * (y * y) := by grind
theorem dbl_zz {s l y c : Fin n} (ss : s * s = 1) : ((l * (s * (1 + y)) + l * (1 - y)) * (l * (s * (1 + y)) + l * (1 - y)) - (l * (s * (1 + y)) - l * (1 - y)) * (l * (s * (1 + y)) - l * (1 - y))) * ((l * (s * (1 + y)) + l * (1 - y)) * (l * (s * (1 + y)) + l * (1 - y)) + ((l * (s * (1 + y)) + l * (1 - y)) * (l * (s * (1 + y)) + l * (1 - y)) - (l * (s * (1 + y)) - l * (1 - y)) * (l * (s * (1 + y)) - l * (1 - y))) * c)
    = (1+1)*(1+1)*(1+1) * (l*l*(l*l)) * (s * (1 - y*y) * (1 + y*y + (1 + (c + c)) * s * (1 - y*y))) := by grind
theorem dbl_key {x y D w : Fin n} (o : x*x + y*y = 1 + D*(x*x*y*y)) (hc : w * (1 - D) = 1 + D) : (1 + 1) * (y * y) * (1 - D) = (1 + y*y + w * (1 - y*y)) * (1 - x*x) * (1 - D) := by grind
theorem dbl_fin {s X Z y x Y m : Fin n} (ss : s * s = 1) (hY : Y * m = y*y - x*x) (hm : m = 1 + 1 - x*x - y*y) {L W : Fin n} (hX : X = (1+1)*(1+1)*((1+1)*(1+1)) * L * (y*y)) (hZ : Z = (1+1)*(1+1)*(1+1) * L * (s * (1 - y*y) * W)) (k : (1 + 1) * (y * y) = W * (1 - x*x)) : X * (1 - Y) * m = s * (Z * (1 + Y)) * m := by
  subst hX; subst hZ; grind
theorem dbl_rep {inv : Fin n → Fin n} {D s c : Fin n} (h : Cur inv D s c) {p : P2 n} {P : EP n} (o : On D P) (r : Rep s p P.y) : Rep s (dbl c p) (eadd inv D P P).y := by
  obtain ⟨l, hl, h1, h2⟩ := rep_l h r
  have o' : P.x*P.x + P.y*P.y = 1 + D*(P.x*P.x*P.y*P.y) := o
  have hY := eadd_y h.fld h.ns o o
  have hm := ed_m h.fld h.ns o o
  have hL : l*l*(l*l) ≠ 0 := h.fld.nz (h.fld.nz hl hl) (h.fld.nz hl hl)
  have k := h.fld.cancel h.d1 (dbl_key (w := (1 + (c + c)) * s) o' h.hc)
  have hX : (dbl c p).x = (1+1)*(1+1)*((1+1)*(1+1)) * (l*l*(l*l)) * (P.y * P.y) := by
    show (p.x + p.z) * (p.x + p.z) * ((p.x - p.z) * (p.x - p.z)) = _
    rw [h1, h2]; exact dbl_xx h.ss
  have hZ : (dbl c p).z = (1+1)*(1+1)*(1+1) * (l*l*(l*l)) * (s * (1 - P.y*P.y) * (1 + P.y*P.y + (1 + (c + c)) * s * (1 - P.y*P.y))) := by
    show ((p.x + p.z) * (p.x + p.z) - (p.x - p.z) * (p.x - p.z)) * ((p.x + p.z) * (p.x + p.z) + ((p.x + p.z) * (p.x + p.z) - (p.x - p.z) * (p.x - p.z)) * c) = _
    rw [h1, h2]; exact dbl_zz h.ss
  refine ⟨h.fld.cancel hm (dbl_fin h.ss hY (by grind) hX hZ k), ?_⟩
  rintro ⟨e1, e2⟩
  have t2 := h.fld.two
  have t4 := h.fld.nz t2 t2
  rw [hX] at e1
  rw [hZ] at e2
  have y0 : P.y = 0 := Classical.byContradiction fun hy => h.fld.nz (h.fld.nz (h.fld.nz t4 t4) hL) (h.fld.nz hy hy) e1
  rw [y0] at e2
  have e3 : (1 + 1) * (1 + 1) * (1 + 1) * (l*l*(l*l)) * s * (1 + (1 + (c + c)) * s) = 0 := by grind
  have hc := h.hc
  refine h.fld.nz (h.fld.nz (h.fld.nz (h.fld.nz t4 t2) hL) h.s0) (fun e4 => t2 ?_) e3
  grind
theorem sm_X {s l m y1 y2 : Fin n} (ss : s * s = 1) : (m*(s*(1+y2)) - m*(1-y2)) * (l*(s*(1+y1)) + l*(1-y1)) + (m*(s*(1+y2)) + m*(1-y2)) * (l*(s*(1+y1)) - l*(1-y1)) = (1+1)*(1+1)*(l*m)*(y1+y2) := by grind
theorem sm_Z {s l m y1 y2 : Fin n} (ss : s * s = 1) : (m*(s*(1+y2)) - m*(1-y2)) * (l*(s*(1+y1)) + l*(1-y1)) - (m*(s*(1+y2)) + m*(1-y2)) * (l*(s*(1+y1)) - l*(1-y1)) = (1+1)*(1+1)*(l*m)*s*(y2-y1) := by grind
theorem sm_S1 (x1 y1 x2 y2 D Di : Fin n) (hd : D * Di = 1) (h1 : x1*x1*y1*y1 = Di*(x1*x1+y1*y1-1)) (h2 : x2*x2*y2*y2 = Di*(x2*x2+y2*y2-1)) :
  ((1 - D*(x1*x2*y1*y2)) + (y1*y2 - x1*x2)) * ((1 + D*(x1*x2*y1*y2)) + (y1*y2 + x1*x2)) * ((y1-y2)*(y1-y2)) = ((1 - D*(x1*x2*y1*y2)) - (y1*y2 - x1*x2)) * ((1 + D*(x1*x2*y1*y2)) - (y1*y2 + x1*x2)) * ((y1+y2)*(y1+y2)) := by grind
theorem sm_fin {u s ys yd a b m p A B y1 y2 k : Fin n} (ss : s * s = 1) (hs : ys * m = a) (hd : yd * p = b) (hu : u * (1 - yd) = s * (1 + yd)) (S : (m + a) * (p + b) * ((y1-y2)*(y1-y2)) = (m - a) * (p - b) * ((y1+y2)*(y1+y2))) (hA : A = (1+1)*(1+1)*k*(y1+y2)) (hB : B = (1+1)*(1+1)*k*s*(y2-y1)) :
    A * A * (1 - ys) * (m * p * (1 - yd)) = s * (u * (B * B) * (1 + ys)) * (m * p * (1 - yd)) := by
  subst hs; subst hd; subst hA; subst hB
  have e1 : (1+1)*(1+1)*k*(y1+y2) * ((1+1)*(1+1)*k*(y1+y2)) * (1 - ys) * (m * p * (1 - yd)) = (1+1)*(1+1)*((1+1)*(1+1))*(k*k) * ((m - ys*m) * (p - yd*p) * ((y1+y2)*(y1+y2))) := by grind
  have e2 : s * (u * ((1+1)*(1+1)*k*s*(y2-y1) * ((1+1)*(1+1)*k*s*(y2-y1))) * (1 + ys)) * (m * p * (1 - yd)) = (1+1)*(1+1)*((1+1)*(1+1))*(k*k) * ((m + ys*m) * (p + yd*p) * ((y1-y2)*(y1-y2))) := by grind
  rw [e1, e2, S]
theorem sm_yd {p D rx qx ry qy : Fin n} (h : p*(1 - D*(rx*(-qx)*ry*qy)) = ry*qy - rx*(-qx)) : p*(1 + D*(qx*rx*qy*ry)) = qy*ry + qx*rx := by grind
theorem sm_dy {u s y : Fin n} (hu : u * (1 - y) = s * (1 + y)) (e : 1 - y = 0) : s * (1 + 1) = 0 := by grind
theorem sm_rep {inv : Fin n → Fin n} {D s c : Fin n} (h : Cur inv D s c) {u : Fin n} {a b : P2 n} {P Q R : EP n} (oQ : On D Q) (oR : On D R) (hP : eadd inv D R (eneg Q) = P) (hu : u * (1 - P.y) = s * (1 + P.y)) (u0 : u ≠ 0) (ra : Rep s a Q.y) (rb : Rep s b R.y) : Rep s (sm u a b) (eadd inv D Q R).y := by
  obtain ⟨l, hl, a1, a2⟩ := rep_l h ra
  obtain ⟨m, hm, b1, b2⟩ := rep_l h rb
  have t2 := h.fld.two
  have hd := h.fld.mul D h.ns.nz
  have S := sm_S1 Q.x Q.y R.x R.y D (inv D) hd (on_di hd oQ) (on_di hd oR)
  have hs := eadd_y h.fld h.ns oQ oR
  have dm := ed_m h.fld h.ns oQ oR
  have dp := ed_p h.fld h.ns oQ oR
  have hyd : P.y * (1 + D*(Q.x*R.x*Q.y*R.y)) = Q.y*R.y + Q.x*R.x := by
    have := eadd_y h.fld h.ns oR (eneg_on oQ)
    rw [hP] at this
    exact sm_yd this
  have dy : 1 - P.y ≠ 0 := fun e => h.fld.nz h.s0 t2 (sm_dy hu e)
  have hA : (b.x - b.z) * (a.x + a.z) + (b.x + b.z) * (a.x - a.z) = (1+1)*(1+1)*(l*m)*(Q.y+R.y) := by
    rw [a1, a2, b1, b2]; exact sm_X h.ss
  have hB : (b.x - b.z) * (a.x + a.z) - (b.x + b.z) * (a.x - a.z) = (1+1)*(1+1)*(l*m)*s*(R.y-Q.y) := by
    rw [a1, a2, b1, b2]; exact sm_Z h.ss
  refine ⟨h.fld.cancel (h.fld.nz (h.fld.nz dm dp) dy) (sm_fin h.ss hs hyd hu S hA hB), ?_⟩
  rintro ⟨e1, e2⟩
  have e1 : ((b.x - b.z) * (a.x + a.z) + (b.x + b.z) * (a.x - a.z)) * ((b.x - b.z) * (a.x + a.z) + (b.x + b.z) * (a.x - a.z)) = 0 := e1
  have e2 : u * (((b.x - b.z) * (a.x + a.z) - (b.x + b.z) * (a.x - a.z)) * ((b.x - b.z) * (a.x + a.z) - (b.x + b.z) * (a.x - a.z))) = 0 := e2
  rw [hA] at e1
  rw [hB] at e2
  have hk : (1+1)*(1+1)*(l*m) ≠ 0 := h.fld.nz (h.fld.nz t2 t2) (h.fld.nz hl hm)
  have q1 : Q.y + R.y = 0 := Classical.byContradiction fun hq => h.fld.nz (h.fld.nz hk hq) (h.fld.nz hk hq) e1
  have q2 : R.y - Q.y = 0 := Classical.byContradiction fun hq => h.fld.nz u0 (h.fld.nz (h.fld.nz (h.fld.nz hk h.s0) hq) (h.fld.nz (h.fld.nz hk h.s0) hq)) e2
  have qy : Q.y = 0 := Classical.byContradiction fun hq => h.fld.nz hq t2 (by grind)
  have ry : R.y = 0 := by grind
  have oQ' : Q.x*Q.x + Q.y*Q.y = 1 + D*(Q.x*Q.x*Q.y*Q.y) := oQ
  have oR' : R.x*R.x + R.y*R.y = 1 + D*(R.x*R.x*R.y*R.y) := oR
  rw [qy] at oQ' hyd
  rw [ry] at oR' hyd
  have py : P.y = Q.x * R.x := by grind
  have pq : (1 - P.y) * (1 + P.y) = 0 := by rw [py]; grind
  have pz : 1 + P.y = 0 := Classical.byContradiction fun hq => h.fld.nz dy hq pq
  rw [pz] at hu
  exact h.fld.nz u0 dy (by rw [hu]; grind)
def bval (bit : Nat → Bool) : Nat → Nat
  | 0 => 0
  | t + 1 => (if bit t = true then 2 ^ t else 0) + bval bit t
theorem lad_rep {inv : Fin n → Fin n} {D s c : Fin n} (h : Cur inv D s c) {u : Fin n} {P : EP n} (o : On D P) (hu : u * (1 - P.y) = s * (1 + P.y)) (u0 : u ≠ 0) (bit : Nat → Bool) : ∀ (t N : Nat) (S : P2 n × P2 n), Rep s S.1 (npt inv D P N).y → Rep s S.2 (npt inv D P (N + 1)).y → Rep s (ladV c u bit t S).1 (npt inv D P (N * 2 ^ t + bval bit t)).y
  | 0, N, S, h1, _ => by
    rw [ladV, bval, Nat.pow_zero, Nat.mul_one, Nat.add_zero]; exact h1
  | t + 1, N, S, h1, h2 => by
    have o1 := npt_on h.fld h.ns o N
    have o2 := npt_on h.fld h.ns o (N + 1)
    have d := npt_diff h.fld h.ns o N
    have a1 := dbl_rep h o1 h1
    have a2 := dbl_rep h o2 h2
    have a3 := sm_rep h o1 o2 d hu u0 h1 h2
    rw [← npt_add h.fld h.ns o] at a1 a2 a3
    rw [ladV, bval]
    cases hb : bit t with
    | true =>
      rw [if_pos rfl, if_pos rfl]
      have := lad_rep h o hu u0 bit t (N + (N + 1)) (sm u S.1 S.2, dbl c S.2) a3 (by
        show Rep s (dbl c S.2) (npt inv D P (N + (N + 1) + 1)).y
        rw [show N + (N + 1) + 1 = N + 1 + (N + 1) by omega]; exact a2)
      rw [show N * 2 ^ (t + 1) + (2 ^ t + bval bit t) = (N + (N + 1)) * 2 ^ t + bval bit t by rw [Nat.pow_succ]; grind]
      exact this
    | false =>
      rw [if_neg (by decide), if_neg (by decide)]
      have := lad_rep h o hu u0 bit t (N + N) (dbl c S.1, sm u S.1 S.2) a1 (by
        show Rep s (sm u S.1 S.2) (npt inv D P (N + N + 1)).y
        rw [show N + N + 1 = N + (N + 1) by omega]; exact a3)
      rw [show N * 2 ^ (t + 1) + (0 + bval bit t) = (N + N) * 2 ^ t + bval bit t by rw [Nat.pow_succ]; grind]
      exact this
def ladF (inv : Fin n → Fin n) (c : Fin n) (bit : Nat → Bool) (T : Nat) (u : Fin n) : Fin n := (ladV c u bit T (⟨1, 0⟩, ⟨u, 1⟩)).1.x * inv (ladV c u bit T (⟨1, 0⟩, ⟨u, 1⟩)).1.z
/-- A value that is the coordinate of a point, or 0. -/
structure Fits (s v y : Fin n) : Prop where
  o : y = 1 → v = 0
  a : y ≠ 1 → v * (1 - y) = s * (1 + y)
theorem fits_q {X Z i s y l : Fin n} (hi : Z * i = 1) (h1 : X = l * (s * (1 + y))) (h2 : Z = l * (1 - y)) : X * i * (1 - y) * l = s * (1 + y) * l := by
  subst h1; subst h2; grind
theorem lad_fits {inv : Fin n → Fin n} {D s c : Fin n} (h : Cur inv D s c) {u : Fin n} {P : EP n} (o : On D P) (hu : u * (1 - P.y) = s * (1 + P.y)) (u0 : u ≠ 0) (bit : Nat → Bool) (T : Nat) : Fits s (ladF inv c bit T u) (npt inv D P (bval bit T)).y := by
  have r := lad_rep h o hu u0 bit T 0 (⟨1, 0⟩, ⟨u, 1⟩) ⟨by show (1 : Fin n) * (1 - 1) = s * (0 * (1 + 1)); grind, fun e => h.fld.one e.1⟩ ⟨by
      rw [npt_one h.fld]
      show u * (1 - P.y) = s * (1 * (1 + P.y))
      grind, fun e => h.fld.one e.2⟩
  rw [Nat.zero_mul, Nat.zero_add] at r
  obtain ⟨l, hl, h1, h2⟩ := rep_l h r
  unfold ladF
  generalize (ladV c u bit T (⟨1, 0⟩, ⟨u, 1⟩)).1 = A at *
  refine ⟨fun e => ?_, fun e => ?_⟩
  · have z0 : A.z = 0 := by rw [h2, e]; grind
    rw [z0, h.fld.zero]; grind
  · have d : 1 - (npt inv D P (bval bit T)).y ≠ 0 := fun q => e (by grind)
    have z0 : A.z ≠ 0 := by rw [h2]; exact h.fld.nz hl d
    exact h.fld.cancel hl (fits_q (h.fld.mul _ z0) h1 h2)
theorem fits_eq {inv : Fin n → Fin n} (h : Fld inv) {s v w y : Fin n} (h1 : Fits s v y) (h2 : Fits s w y) : v = w := by
  by_cases e : y = 1
  · rw [h1.o e, h2.o e]
  · exact h.cancel (c := 1 - y) (fun q => e (by grind)) ((h1.a e).trans (h2.a e).symm)
theorem ladF_0 {inv : Fin n → Fin n} (h : Fld inv) (c : Fin n) (bit : Nat → Bool) (T : Nat) : ladF inv c bit T 0 = 0 := by
  unfold ladF
  rw [ladV_0 c bit T _ rfl (.inr rfl), h.zero]; grind
theorem bval_even {bit : Nat → Bool} (hb : bit 0 = false) : ∀ t, ∃ a, bval bit t = a * 2
  | 0 => ⟨0, rfl⟩
  | 1 => ⟨0, by rw [bval, hb]; rfl⟩
  | t + 2 => by
    obtain ⟨a, ha⟩ := bval_even hb (t + 1)
    rw [bval, ha]
    split
    · exact ⟨2 ^ t + a, by rw [Nat.pow_succ]; omega⟩
    · exact ⟨a, by omega⟩
theorem npt_O {inv : Fin n → Fin n} (h : Fld inv) (D : Fin n) : ∀ a, npt inv D eO a = (eO : EP n)
  | 0 => rfl
  | a + 1 => by rw [npt, npt_O h D a, eadd_O h]
/-- Scalars that are even, one behind the other. -/
theorem lad_two {inv : Fin n → Fin n} {D s c : Fin n} (h : Cur inv D s c) {u : Fin n} {P : EP n} (o : On D P) (hu : u * (1 - P.y) = s * (1 + P.y)) (u0 : u ≠ 0) (al be : Nat → Bool) (ha : al 0 = false) (T : Nat) : Fits s (ladF inv c al T (ladF inv c be T u)) (npt inv D P (bval al T * bval be T)).y := by
  have f := lad_fits h o hu u0 be T
  have oQ := npt_on h.fld h.ns o (bval be T)
  rw [← npt_mul h.fld h.ns o]
  generalize npt inv D P (bval be T) = Q at *
  generalize ladF inv c be T u = v at *
  by_cases v0 : v = 0
  · rw [v0, ladF_0 h.fld]
    have oQ' : Q.x*Q.x + Q.y*Q.y = 1 + D*(Q.x*Q.x*Q.y*Q.y) := oQ
    have y1 : (1 - Q.y) * (1 + Q.y) = 0 := by
      by_cases e : Q.y = 1
      · rw [e]; grind
      · have e2 := f.a e
        rw [v0] at e2
        have : 1 + Q.y = 0 := Classical.byContradiction fun hq => h.fld.nz h.s0 hq (by rw [← e2]; grind)
        rw [this]; grind
    have x0 : Q.x = 0 := Classical.byContradiction fun hx => h.fld.nz (h.fld.nz hx hx) h.d1 (by grind)
    have q2 : npt inv D Q 2 = eO := by
      rw [npt, npt_one h.fld]
      refine EP.ext' ?_ ?_
      · show (Q.x*Q.y + Q.y*Q.x) * _ = 0
        rw [x0]; grind
      · show (Q.y*Q.y - Q.x*Q.x) * inv (1 - D*(Q.x*Q.x*Q.y*Q.y)) = 1
        rw [x0, show 1 - D*(0*0*Q.y*Q.y) = 1 by grind, inv_1 h.fld]; grind
    obtain ⟨a, ha⟩ := bval_even ha T
    rw [ha, ← npt_mul h.fld h.ns oQ, q2, npt_O h.fld]
    exact ⟨fun _ => rfl, fun e => absurd rfl e⟩
  · have e : Q.y ≠ 1 := fun e => v0 (f.o e)
    exact lad_fits h oQ (f.a e) v0 al T
/-- Where a coordinate's point lies: on one of two curves. -/
structure Two (inv : Fin n → Fin n) (D0 D1 c : Fin n) : Prop where
  fld : Fld inv
  ns : NSq D0
  dd : D0 * D1 = 1
  hc : (1 + (c + c)) * (1 - D0) = 1 + D0
  sq : ∀ a : Fin n, a ≠ 0 → ∃ s, a = s * s ∨ a = (1 + 1) * (s * s)
theorem Two.c0 {inv : Fin n → Fin n} {D0 D1 c : Fin n} (h : Two inv D0 D1 c) : Cur inv D0 1 c := ⟨h.fld, h.ns, by grind, by have := h.hc; grind⟩
theorem Two.c1 {inv : Fin n → Fin n} {D0 D1 c : Fin n} (h : Two inv D0 D1 c) : Cur inv D1 (-1) c := by
  refine ⟨h.fld, fun s e => h.ns (D0 * s) ?_, by grind, ?_⟩
  · have := h.dd
    rw [e] at this
    grind
  · have h1 := h.dd
    have h2 := h.hc
    refine h.fld.cancel h.ns.nz ?_
    grind
theorem two_on0 {a N M s y D : Fin n} (ha : a * M = N) (hs : a = s * s) (hN : N = 1 - y * y) (hM : M = 1 - D * (y * y)) : s * s + y * y = 1 + D * (s * s * y * y) := by
  subst hs; grind
theorem two_on1 {a N M s y y' t D0 D1 : Fin n} (ha : a * M = N) (hs : a = (1 + 1) * (s * s)) (ht : D0 = (1 + 1) * (t * t)) (hd : D0 * D1 = 1) (hy : y * y' = 1) (hN : N = 1 - y * y) (hM : M = 1 - D0 * (y * y)) : ((1+1)*t*s) * ((1+1)*t*s) + y' * y' = 1 + D1 * (((1+1)*t*s) * ((1+1)*t*s) * y' * y') := by
  have hz : ((1+1)*t*s) * ((1+1)*t*s) * M = D0 * N := by rw [← ha, hs, ht]; grind
  generalize ((1+1)*t*s) * ((1+1)*t*s) = Z at *
  subst hN; subst hM
  grind
theorem two_pt {inv : Fin n → Fin n} {D0 D1 c : Fin n} (h : Two inv D0 D1 c) {u : Fin n} (u0 : u ≠ 0) : ∃ D s P, Cur inv D s c ∧ On D P ∧ u * (1 - P.y) = s * (1 + P.y) := by
  have t2 := h.fld.two
  by_cases um : u + 1 = 0
  · refine ⟨D1, -1, ⟨1, 0⟩, h.c1, ?_, ?_⟩
    · show (1 : Fin n) * 1 + 0 * 0 = 1 + D1 * (1 * 1 * 0 * 0); grind
    · show u * (1 - 0) = -1 * (1 + 0); grind
  · have hi := h.fld.mul _ um
    obtain ⟨y, hy⟩ : ∃ y, y = (u - 1) * inv (u + 1) := ⟨_, rfl⟩
    have hyu : y * (u + 1) = u - 1 := by rw [hy]; grind
    have hu : u * (1 - y) = 1 * (1 + y) := by grind
    by_cases y0 : y = 0
    · refine ⟨D0, 1, ⟨1, 0⟩, h.c0, ?_, ?_⟩
      · show (1 : Fin n) * 1 + 0 * 0 = 1 + D0 * (1 * 1 * 0 * 0); grind
      · show u * (1 - 0) = 1 * (1 + 0)
        rw [y0] at hu; exact hu
    · have hyi := h.fld.mul y y0
      have M0 : 1 - D0 * (y * y) ≠ 0 := fun e => h.ns (inv y) (by grind)
      have N0 : 1 - y * y ≠ 0 := fun e => by
        have e1 : 1 - y ≠ 0 := fun q => t2 (by grind)
        have e2 : 1 + y ≠ 0 := fun q => h.fld.nz u0 t2 (by grind)
        exact h.fld.nz e1 e2 (by grind)
      have hM := h.fld.mul _ M0
      have im0 : inv (1 - D0 * (y * y)) ≠ 0 := fun e => h.fld.one (by rw [← hM, e]; grind)
      have ha : ((1 - y * y) * inv (1 - D0 * (y * y))) * (1 - D0 * (y * y)) = 1 - y * y := ed_mul hM
      obtain ⟨s, hs | hs⟩ := h.sq ((1 - y * y) * inv (1 - D0 * (y * y))) (h.fld.nz N0 im0)
      · exact ⟨D0, 1, ⟨s, y⟩, h.c0, two_on0 ha hs rfl rfl, hu⟩
      · obtain ⟨t, ht | ht⟩ := h.sq D0 h.ns.nz
        · exact absurd ht (h.ns t)
        · refine ⟨D1, -1, ⟨(1+1)*t*s, inv y⟩, h.c1, two_on1 ha hs ht h.dd hyi rfl rfl, ?_⟩
          show u * (1 - inv y) = -1 * (1 + inv y)
          refine h.fld.cancel y0 ?_
          grind
/-- Of two scalars either one, behind the other, makes the same. -/
theorem lad_comm {inv : Fin n → Fin n} {D0 D1 c : Fin n} (h : Two inv D0 D1 c) (al be : Nat → Bool) (ha : al 0 = false) (hb : be 0 = false) (T : Nat) (u : Fin n) : ladF inv c al T (ladF inv c be T u) = ladF inv c be T (ladF inv c al T u) := by
  by_cases u0 : u = 0
  · rw [u0, ladF_0 h.fld, ladF_0 h.fld, ladF_0 h.fld]
  · obtain ⟨D, s, P, hC, o, hu⟩ := two_pt h u0
    have f1 := lad_two hC o hu u0 al be ha T
    have f2 := lad_two hC o hu u0 be al hb T
    rw [Nat.mul_comm] at f2
    exact fits_eq h.fld f1 f2
end
end Go.Proofs.YtahiopdkekkibaaDoor.FK

/-
  Layer 3: the program's small functions.
-/
namespace Go.Proofs.YtahiopdkekkibaaDoor.FK
open Go Go.RowKit
set_option maxHeartbeats 4000000
set_option linter.unusedSimpArgs false
set_option linter.unusedVariables false
set_option maxRecDepth 100000 in
theorem fcarry_tri (x : N5) : Tri Tryd.prog 85 [x.cv] [] (.c (fcarry x).cv) [] := by
  refine tri_of (envOf_ok ga0_ok 40) Tryd.func85 rfl rfl (rs := [.cell 2 69]) rfl rfl (by simp [envOf]) rfl [] ?_
  simp only [envOf, ga0, N5.cv, go_sem, reduceCtorEq, ↓reduceIte, Nat.reduceAdd, Nat.reduceMul, Nat.reduceSub, Nat.reduceEqDiff, Nat.reduceLT, Nat.reduceBEq, Nat.reduceBNe, Nat.reduceLeDiff, Int.reduceLE, Int.reduceLT, Int.reduceToNat, Int.reduceEq, Int.reduceAdd, UInt8.reduceToNat, UInt32.reduceToNat, UInt64.reduceToNat, UInt8.reduceOfNat, UInt32.reduceOfNat, UInt64.reduceOfNat, Fin.isValue, Int.reduceSub, Int.reduceMul, Int.reduceNeg, Int.reduceMod, Int.reduceDiv, Int.reduceTDiv, Int.reduceTMod, Int.reduceBEq, Int.reduceBNe, Nat.reduceDiv, Nat.reducePow]
  exact ⟨rfl, rfl, rfl, rfl, rfl⟩
def fcarryC : Con := con0 fun args => match args with
  | [.agg [.u64 a, .u64 b, .u64 c, .u64 d, .u64 e]] => some (.c (fcarry ⟨a, b, c, d, e⟩).cv, [])
  | _ => none
theorem fcarryC_ok : ConOk Tryd.prog 85 fcarryC := con0_ok Tryd.func85 rfl rfl fun args res ob h hob => by
  split at h
  · injection h with h; injection h with h1 h2; subst h1; subst h2; exact fcarry_tri ⟨_, _, _, _, _⟩
  · cases h
def gf1 : Nat → Option Con := fun f => match f with
  | 85 => some fcarryC
  | _ => none
theorem gf1_ok : GaOk Tryd.prog gf1 := fun f con h => by
  unfold gf1 at h
  split at h
  · injection h with h; subst h; exact fcarryC_ok
  · cases h
set_option maxRecDepth 100000 in
theorem fadd_tri (x y : N5) : Tri Tryd.prog 87 [x.cv, y.cv] [] (.c (fadd x y).cv) [] := by
  refine tri_of (envOf_ok gf1_ok 24) Tryd.func87 rfl rfl (rs := [.cell 4 69]) rfl rfl (by simp [envOf]) rfl [] ?_
  simp only [envOf, gf1, fcarryC, N5.cv, N5.eta, go_sem, reduceCtorEq, ↓reduceIte, Nat.reduceAdd, Nat.reduceMul, Nat.reduceSub, Nat.reduceEqDiff, Nat.reduceLT, Nat.reduceBEq, Nat.reduceBNe, Nat.reduceLeDiff, Int.reduceLE, Int.reduceLT, Int.reduceToNat, Int.reduceEq, Int.reduceAdd, UInt8.reduceToNat, UInt32.reduceToNat, UInt64.reduceToNat, UInt8.reduceOfNat, UInt32.reduceOfNat, UInt64.reduceOfNat, Fin.isValue, Int.reduceSub, Int.reduceMul, Int.reduceNeg, Int.reduceMod, Int.reduceDiv, Int.reduceTDiv, Int.reduceTMod, Int.reduceBEq, Int.reduceBNe, Nat.reduceDiv, Nat.reducePow]
  repeat' apply And.intro
  all_goals try rfl
  refine loop_rounds (envOf_ok gf1_ok 24) 6 ?_
  simp only [envOf, gf1, fcarryC, N5.cv, N5.eta, fadd, go_sem, reduceCtorEq, ↓reduceIte, Nat.reduceAdd, Nat.reduceMul, Nat.reduceSub, Nat.reduceEqDiff, Nat.reduceLT, Nat.reduceBEq, Nat.reduceBNe, Nat.reduceLeDiff, Int.reduceLE, Int.reduceLT, Int.reduceToNat, Int.reduceEq, Int.reduceAdd, UInt8.reduceToNat, UInt32.reduceToNat, UInt64.reduceToNat, UInt8.reduceOfNat, UInt32.reduceOfNat, UInt64.reduceOfNat, Fin.isValue, Int.reduceSub, Int.reduceMul, Int.reduceNeg, Int.reduceMod, Int.reduceDiv, Int.reduceTDiv, Int.reduceTMod, Int.reduceBEq, Int.reduceBNe, Nat.reduceDiv, Nat.reducePow]
  repeat' apply And.intro
  all_goals rfl
set_option maxRecDepth 100000 in
theorem fsub_tri (x y : N5) : Tri Tryd.prog 88 [x.cv, y.cv] [] (.c (fsub x y).cv) [] := by
  refine tri_of (envOf_ok gf1_ok 32) Tryd.func88 rfl rfl (rs := [.cell 4 69]) rfl rfl (by simp [envOf]) rfl [] ?_
  simp only [envOf, gf1, fcarryC, N5.cv, N5.eta, go_sem, reduceCtorEq, ↓reduceIte, Nat.reduceAdd, Nat.reduceMul, Nat.reduceSub, Nat.reduceEqDiff, Nat.reduceLT, Nat.reduceBEq, Nat.reduceBNe, Nat.reduceLeDiff, Int.reduceLE, Int.reduceLT, Int.reduceToNat, Int.reduceEq, Int.reduceAdd, UInt8.reduceToNat, UInt32.reduceToNat, UInt64.reduceToNat, UInt8.reduceOfNat, UInt32.reduceOfNat, UInt64.reduceOfNat, Fin.isValue, Int.reduceSub, Int.reduceMul, Int.reduceNeg, Int.reduceMod, Int.reduceDiv, Int.reduceTDiv, Int.reduceTMod, Int.reduceBEq, Int.reduceBNe, Nat.reduceDiv, Nat.reducePow]
  repeat' apply And.intro
  all_goals try rfl
  refine loop_rounds (envOf_ok gf1_ok 32) 5 ?_
  simp only [envOf, gf1, fcarryC, N5.cv, N5.eta, fsub, go_sem, reduceCtorEq, ↓reduceIte, Nat.reduceAdd, Nat.reduceMul, Nat.reduceSub, Nat.reduceEqDiff, Nat.reduceLT, Nat.reduceBEq, Nat.reduceBNe, Nat.reduceLeDiff, Int.reduceLE, Int.reduceLT, Int.reduceToNat, Int.reduceEq, Int.reduceAdd, UInt8.reduceToNat, UInt32.reduceToNat, UInt64.reduceToNat, UInt8.reduceOfNat, UInt32.reduceOfNat, UInt64.reduceOfNat, Fin.isValue, Int.reduceSub, Int.reduceMul, Int.reduceNeg, Int.reduceMod, Int.reduceDiv, Int.reduceTDiv, Int.reduceTMod, Int.reduceBEq, Int.reduceBNe, Nat.reduceDiv, Nat.reducePow]
  repeat' apply And.intro
  all_goals rfl
set_option maxRecDepth 100000 in
theorem fsmall_tri (x : N5) : Tri Tryd.prog 62 [x.cv] [] (.c (fsmall x).cv) [] := by
  refine tri_of (envOf_ok gf1_ok 46) Tryd.func62 rfl rfl (rs := [.cell 2 69]) rfl rfl (by simp [envOf]) rfl [] ?_
  simp only [envOf, gf1, fcarryC, N5.cv, N5.eta, go_sem, reduceCtorEq, ↓reduceIte, Nat.reduceAdd, Nat.reduceMul, Nat.reduceSub, Nat.reduceEqDiff, Nat.reduceLT, Nat.reduceBEq, Nat.reduceBNe, Nat.reduceLeDiff, Int.reduceLE, Int.reduceLT, Int.reduceToNat, Int.reduceEq, Int.reduceAdd, UInt8.reduceToNat, UInt32.reduceToNat, UInt64.reduceToNat, UInt8.reduceOfNat, UInt32.reduceOfNat, UInt64.reduceOfNat, Fin.isValue, Int.reduceSub, Int.reduceMul, Int.reduceNeg, Int.reduceMod, Int.reduceDiv, Int.reduceTDiv, Int.reduceTMod, Int.reduceBEq, Int.reduceBNe, Nat.reduceDiv, Nat.reducePow]
  repeat' apply And.intro
  all_goals try rfl
  refine loop_rounds (envOf_ok gf1_ok 46) 5 ?_
  simp only [envOf, gf1, fcarryC, N5.cv, N5.eta, go_sem, reduceCtorEq, ↓reduceIte, Nat.reduceAdd, Nat.reduceMul, Nat.reduceSub, Nat.reduceEqDiff, Nat.reduceLT, Nat.reduceBEq, Nat.reduceBNe, Nat.reduceLeDiff, Int.reduceLE, Int.reduceLT, Int.reduceToNat, Int.reduceEq, Int.reduceAdd, UInt8.reduceToNat, UInt32.reduceToNat, UInt64.reduceToNat, UInt8.reduceOfNat, UInt32.reduceOfNat, UInt64.reduceOfNat, Fin.isValue, Int.reduceSub, Int.reduceMul, Int.reduceNeg, Int.reduceMod, Int.reduceDiv, Int.reduceTDiv, Int.reduceTMod, Int.reduceBEq, Int.reduceBNe, Nat.reduceDiv, Nat.reducePow]
  repeat' apply And.intro
  all_goals try rfl
  refine loop_rounds (envOf_ok gf1_ok 46) 6 ?_
  simp only [envOf, gf1, fcarryC, N5.cv, N5.eta, go_sem, reduceCtorEq, ↓reduceIte, Nat.reduceAdd, Nat.reduceMul, Nat.reduceSub, Nat.reduceEqDiff, Nat.reduceLT, Nat.reduceBEq, Nat.reduceBNe, Nat.reduceLeDiff, Int.reduceLE, Int.reduceLT, Int.reduceToNat, Int.reduceEq, Int.reduceAdd, UInt8.reduceToNat, UInt32.reduceToNat, UInt64.reduceToNat, UInt8.reduceOfNat, UInt32.reduceOfNat, UInt64.reduceOfNat, Fin.isValue, Int.reduceSub, Int.reduceMul, Int.reduceNeg, Int.reduceMod, Int.reduceDiv, Int.reduceTDiv, Int.reduceTMod, Int.reduceBEq, Int.reduceBNe, Nat.reduceDiv, Nat.reducePow]
  repeat' apply And.intro
  all_goals rfl
def fsmallC : Con := con0 fun args => match args with
  | [.agg [.u64 a, .u64 b, .u64 c, .u64 d, .u64 e]] => some (.c (fsmall ⟨a, b, c, d, e⟩).cv, [])
  | _ => none
theorem fsmallC_ok : ConOk Tryd.prog 62 fsmallC := con0_ok Tryd.func62 rfl rfl fun args res ob h hob => by
  split at h
  · injection h with h; injection h with h1 h2; subst h1; subst h2; exact fsmall_tri ⟨_, _, _, _, _⟩
  · cases h
def faddC : Con := con0 fun args => match args with
  | [.agg [.u64 a, .u64 b, .u64 c, .u64 d, .u64 e], .agg [.u64 a', .u64 b', .u64 c', .u64 d', .u64 e']] => some (.c (fadd ⟨a, b, c, d, e⟩ ⟨a', b', c', d', e'⟩).cv, [])
  | _ => none
theorem faddC_ok : ConOk Tryd.prog 87 faddC := con0_ok Tryd.func87 rfl rfl fun args res ob h hob => by
  split at h
  · injection h with h; injection h with h1 h2; subst h1; subst h2; exact fadd_tri ⟨_, _, _, _, _⟩ ⟨_, _, _, _, _⟩
  · cases h
def fsubC : Con := con0 fun args => match args with
  | [.agg [.u64 a, .u64 b, .u64 c, .u64 d, .u64 e], .agg [.u64 a', .u64 b', .u64 c', .u64 d', .u64 e']] => some (.c (fsub ⟨a, b, c, d, e⟩ ⟨a', b', c', d', e'⟩).cv, [])
  | _ => none
theorem fsubC_ok : ConOk Tryd.prog 88 fsubC := con0_ok Tryd.func88 rfl rfl fun args res ob h hob => by
  split at h
  · injection h with h; injection h with h1 h2; subst h1; subst h2; exact fsub_tri ⟨_, _, _, _, _⟩ ⟨_, _, _, _, _⟩
  · cases h
end Go.Proofs.YtahiopdkekkibaaDoor.FK

/-
  Layer 3: products.
-/
namespace Go.Proofs.YtahiopdkekkibaaDoor.FK
open Go Go.RowKit
set_option maxHeartbeats 4000000
set_option linter.unusedSimpArgs false
set_option linter.unusedVariables false
def W2.cv (x : W2) : CV := .agg [.u64 x.h, .u64 x.l]
theorem W2.eta (x : W2) : W2.mk x.h x.l = x := rfl
theorem add64_run (x y : UInt64) (w : World) : (callFunc 109 #[.int .u64 (x.toNat : Int), .int .u64 (y.toNat : Int), .int .u64 (((0 : UInt64).toNat : Nat) : Int)]).run Tryd.prog w = .ok (.value (.tuple #[.int .u64 ((x + y).toNat : Int), .int .u64 ((addCar x y).toNat : Int)])) w := by
  have hx := x.toNat_lt
  have hy := y.toNat_lt
  have e1 : (((x.toNat : Int) + (y.toNat : Int) + 0) % 18446744073709551616) = ((x + y).toNat : Int) := by
    rw [UInt64.toNat_add]; simp only [Nat.reducePow]; omega
  have e2 : (((x.toNat : Int) + (y.toNat : Int) + 0) / 18446744073709551616) = ((addCar x y).toNat : Int) := by
    unfold addCar
    rw [UInt64.toNat_ofNat_of_lt' (by show _ < 18446744073709551616; omega)]
    omega
  rw [run_callFunc_extern Tryd.func109 (by kernel_rfl) (by kernel_rfl) (by kernel_rfl) (e := add64Entry) (by kernel_rfl)]
  have hz : (((0 : UInt64).toNat : Nat) : Int) = 0 := rfl
  rw [hz, run_add64 _ _ _ (by omega) (by omega) (by omega) (by omega), e1, e2]
  rfl
def add64C : Con := con0 fun args => match args with
  | [.one (.u64 x), .one (.u64 y), .one (.u64 c)] => some (.tup [.one (.u64 (x + y)), .one (.u64 (addCar x y))], [c = 0])
  | _ => none
theorem add64C_ok : ConOk Tryd.prog 109 add64C := con0_ext fun args res ob h hob r w vals hv => by
  split at h
  · rename_i x y c
    injection h with h; injection h with h1 h2; subst h1; subst h2
    have hc : c = 0 := hob.1
    subst hc
    match vals, hv with
    | [a, b, d], ⟨ha, hb, hd, _⟩ =>
      have ha : a = .int .u64 (x.toNat : Int) := ha
      have hb : b = .int .u64 (y.toNat : Int) := hb
      have hd : d = .int .u64 (((0 : UInt64).toNat : Nat) : Int) := hd
      subst ha; subst hb; subst hd
      exact ⟨_, add64_run x y w, _, rfl, rfl, rfl, trivial⟩
  · cases h
set_option maxRecDepth 100000 in
theorem mul64_tri (x y : UInt64) : Tri Tryd.prog 75 [.one (.u64 x), .one (.u64 y)] [] (.tup [.one (.u64 (mulHi x y)), .one (.u64 (x * y))]) [] := by
  refine tri_of (envOf_ok ga0_ok 51) Tryd.func75 rfl rfl (rs := [.tmp 4, .tmp 5]) rfl rfl (by simp [envOf]) rfl [] ?_
  simp only [envOf, ga0, go_sem, reduceCtorEq, ↓reduceIte, Nat.reduceAdd, Nat.reduceMul, Nat.reduceSub, Nat.reduceEqDiff, Nat.reduceLT, Nat.reduceBEq, Nat.reduceBNe, Nat.reduceLeDiff, Int.reduceLE, Int.reduceLT, Int.reduceToNat, Int.reduceEq, Int.reduceAdd, UInt8.reduceToNat, UInt32.reduceToNat, UInt64.reduceToNat, UInt8.reduceOfNat, UInt32.reduceOfNat, UInt64.reduceOfNat, Fin.isValue, Int.reduceSub, Int.reduceMul, Int.reduceNeg, Int.reduceMod, Int.reduceDiv, Int.reduceTDiv, Int.reduceTMod, Int.reduceBEq, Int.reduceBNe, Nat.reduceDiv, Nat.reducePow]
  all_goals rfl
def mul64C : Con := con0 fun args => match args with
  | [.one (.u64 x), .one (.u64 y)] => some (.tup [.one (.u64 (mulHi x y)), .one (.u64 (x * y))], [])
  | _ => none
theorem mul64C_ok : ConOk Tryd.prog 75 mul64C := con0_ok Tryd.func75 rfl rfl fun args res ob h hob => by
  split at h
  · injection h with h; injection h with h1 h2; subst h1; subst h2; exact mul64_tri _ _
  · cases h
def gf2 : Nat → Option Con := fun f => match f with
  | 109 => some add64C
  | 75 => some mul64C
  | 85 => some fcarryC
  | _ => none
theorem gf2_ok : GaOk Tryd.prog gf2 := fun f con h => by
  unfold gf2 at h
  split at h
  · injection h with h; subst h; exact add64C_ok
  · injection h with h; subst h; exact mul64C_ok
  · injection h with h; subst h; exact fcarryC_ok
  · cases h
set_option maxRecDepth 100000 in
theorem wplus_tri (w : W2) (x y : UInt64) : Tri Tryd.prog 90 [w.cv, .one (.u64 x), .one (.u64 y)] [] (.c (wplus w x y).cv) [] := by
  refine tri_of (envOf_ok gf2_ok 31) Tryd.func90 rfl rfl (rs := [.cell 6 125]) rfl rfl (by simp [envOf]) rfl [] ?_
  simp only [envOf, gf2, add64C, mul64C, fcarryC, W2.cv, go_sem, reduceCtorEq, ↓reduceIte, Nat.reduceAdd, Nat.reduceMul, Nat.reduceSub, Nat.reduceEqDiff, Nat.reduceLT, Nat.reduceBEq, Nat.reduceBNe, Nat.reduceLeDiff, Int.reduceLE, Int.reduceLT, Int.reduceToNat, Int.reduceEq, Int.reduceAdd, UInt8.reduceToNat, UInt32.reduceToNat, UInt64.reduceToNat, UInt8.reduceOfNat, UInt32.reduceOfNat, UInt64.reduceOfNat, Fin.isValue, Int.reduceSub, Int.reduceMul, Int.reduceNeg, Int.reduceMod, Int.reduceDiv, Int.reduceTDiv, Int.reduceTMod, Int.reduceBEq, Int.reduceBNe, Nat.reduceDiv, Nat.reducePow, Tryd.underlying125]
  repeat' apply And.intro
  all_goals rfl
def wplusC : Con := con0 fun args => match args with
  | [.agg [.u64 h, .u64 l], .one (.u64 x), .one (.u64 y)] => some (.c (wplus ⟨h, l⟩ x y).cv, [])
  | _ => none
theorem wplusC_ok : ConOk Tryd.prog 90 wplusC := con0_ok Tryd.func90 rfl rfl fun args res ob h hob => by
  split at h
  · injection h with h; injection h with h1 h2; subst h1; subst h2; exact wplus_tri ⟨_, _⟩ _ _
  · cases h
def W5.cv (s : W5) : CV := .agg [.u64 s.a.h, .u64 s.a.l, .u64 s.b.h, .u64 s.b.l, .u64 s.c.h, .u64 s.c.l, .u64 s.d.h, .u64 s.d.l, .u64 s.e.h, .u64 s.e.l]
set_option maxRecDepth 100000 in
theorem narrow_tri (s : W5) : Tri Tryd.prog 91 [s.cv] [] (.c (narrowN s).cv) [] := by
  refine tri_of (envOf_ok gf2_ok 76) Tryd.func91 rfl rfl (rs := [.cell 2 69]) rfl rfl (by simp [envOf]) rfl [] ?_
  simp only [envOf, gf2, add64C, mul64C, fcarryC, W5.cv, N5.cv, go_sem, reduceCtorEq, ↓reduceIte, Nat.reduceAdd, Nat.reduceMul, Nat.reduceSub, Nat.reduceEqDiff, Nat.reduceLT, Nat.reduceBEq, Nat.reduceBNe, Nat.reduceLeDiff, Int.reduceLE, Int.reduceLT, Int.reduceToNat, Int.reduceEq, Int.reduceAdd, UInt8.reduceToNat, UInt32.reduceToNat, UInt64.reduceToNat, UInt8.reduceOfNat, UInt32.reduceOfNat, UInt64.reduceOfNat, Fin.isValue, Int.reduceSub, Int.reduceMul, Int.reduceNeg, Int.reduceMod, Int.reduceDiv, Int.reduceTDiv, Int.reduceTMod, Int.reduceBEq, Int.reduceBNe, Nat.reduceDiv, Nat.reducePow, Tryd.underlying125]
  repeat' apply And.intro
  all_goals try rfl
  refine loop_rounds (envOf_ok gf2_ok 76) 6 ?_
  simp only [envOf, gf2, add64C, mul64C, fcarryC, W5.cv, N5.cv, go_sem, reduceCtorEq, ↓reduceIte, Nat.reduceAdd, Nat.reduceMul, Nat.reduceSub, Nat.reduceEqDiff, Nat.reduceLT, Nat.reduceBEq, Nat.reduceBNe, Nat.reduceLeDiff, Int.reduceLE, Int.reduceLT, Int.reduceToNat, Int.reduceEq, Int.reduceAdd, UInt8.reduceToNat, UInt32.reduceToNat, UInt64.reduceToNat, UInt8.reduceOfNat, UInt32.reduceOfNat, UInt64.reduceOfNat, Fin.isValue, Int.reduceSub, Int.reduceMul, Int.reduceNeg, Int.reduceMod, Int.reduceDiv, Int.reduceTDiv, Int.reduceTMod, Int.reduceBEq, Int.reduceBNe, Nat.reduceDiv, Nat.reducePow, Tryd.underlying125]
  repeat' apply And.intro
  all_goals rfl
end Go.Proofs.YtahiopdkekkibaaDoor.FK

/-
  Layer 3: products, walked.
-/
namespace Go.Proofs.YtahiopdkekkibaaDoor.FK
open Go Go.RowKit
set_option maxHeartbeats 4000000
set_option linter.unusedSimpArgs false
set_option linter.unusedVariables false
def narrowC : Con := con0 fun args => match args with
  | [.agg [.u64 a, .u64 b, .u64 c, .u64 d, .u64 e, .u64 f, .u64 g, .u64 h, .u64 i, .u64 j]] => some (.c (narrowN ⟨⟨a, b⟩, ⟨c, d⟩, ⟨e, f⟩, ⟨g, h⟩, ⟨i, j⟩⟩).cv, [])
  | _ => none
theorem narrowC_ok : ConOk Tryd.prog 91 narrowC := con0_ok Tryd.func91 rfl rfl fun args res ob h hob => by
  split at h
  · injection h with h; injection h with h1 h2; subst h1; subst h2; exact narrow_tri ⟨⟨_, _⟩, ⟨_, _⟩, ⟨_, _⟩, ⟨_, _⟩, ⟨_, _⟩⟩
  · cases h
def gf3 : Nat → Option Con := fun f => match f with
  | 90 => some wplusC
  | 91 => some narrowC
  | 85 => some fcarryC
  | _ => none
theorem gf3_ok : GaOk Tryd.prog gf3 := fun f con h => by
  unfold gf3 at h
  split at h
  · injection h with h; subst h; exact wplusC_ok
  · injection h with h; subst h; exact narrowC_ok
  · injection h with h; subst h; exact fcarryC_ok
  · cases h
set_option maxRecDepth 100000 in
theorem fmul_tri (x y : N5) : Tri Tryd.prog 65 [x.cv, y.cv] [] (.c (fmul x y).cv) [] := by
  refine tri_of (envOf_ok gf3_ok 61) Tryd.func65 rfl rfl (rs := [.cell 4 69]) rfl rfl (by simp [envOf]) rfl [] ?_
  simp only [envOf, gf3, wplusC, narrowC, fcarryC, W2.cv, W5.cv, N5.cv, N5.eta, W2.eta, go_sem, reduceCtorEq, ↓reduceIte, Nat.reduceAdd, Nat.reduceMul, Nat.reduceSub, Nat.reduceEqDiff, Nat.reduceLT, Nat.reduceBEq, Nat.reduceBNe, Nat.reduceLeDiff, Int.reduceLE, Int.reduceLT, Int.reduceToNat, Int.reduceEq, Int.reduceAdd, UInt8.reduceToNat, UInt32.reduceToNat, UInt64.reduceToNat, UInt8.reduceOfNat, UInt32.reduceOfNat, UInt64.reduceOfNat, Fin.isValue, Int.reduceSub, Int.reduceMul, Int.reduceNeg, Int.reduceMod, Int.reduceDiv, Int.reduceTDiv, Int.reduceTMod, Int.reduceBEq, Int.reduceBNe, Nat.reduceDiv, Nat.reducePow, Tryd.underlying125]
  repeat' apply And.intro
  all_goals try rfl
  refine loop_rounds (envOf_ok gf3_ok 61) 6 ?_
  simp only [envOf, gf3, wplusC, narrowC, fcarryC, W2.cv, W5.cv, N5.cv, N5.eta, W2.eta, go_sem, reduceCtorEq, ↓reduceIte, Nat.reduceAdd, Nat.reduceMul, Nat.reduceSub, Nat.reduceEqDiff, Nat.reduceLT, Nat.reduceBEq, Nat.reduceBNe, Nat.reduceLeDiff, Int.reduceLE, Int.reduceLT, Int.reduceToNat, Int.reduceEq, Int.reduceAdd, UInt8.reduceToNat, UInt32.reduceToNat, UInt64.reduceToNat, UInt8.reduceOfNat, UInt32.reduceOfNat, UInt64.reduceOfNat, Fin.isValue, Int.reduceSub, Int.reduceMul, Int.reduceNeg, Int.reduceMod, Int.reduceDiv, Int.reduceTDiv, Int.reduceTMod, Int.reduceBEq, Int.reduceBNe, Nat.reduceDiv, Nat.reducePow, Tryd.underlying125]
  iterate 5
    refine loop_rounds (envOf_ok gf3_ok 61) 6 ?_
    simp only [envOf, gf3, wplusC, narrowC, fcarryC, W2.cv, W5.cv, N5.cv, N5.eta, W2.eta, go_sem, reduceCtorEq, ↓reduceIte, Nat.reduceAdd, Nat.reduceMul, Nat.reduceSub, Nat.reduceEqDiff, Nat.reduceLT, Nat.reduceBEq, Nat.reduceBNe, Nat.reduceLeDiff, Int.reduceLE, Int.reduceLT, Int.reduceToNat, Int.reduceEq, Int.reduceAdd, UInt8.reduceToNat, UInt32.reduceToNat, UInt64.reduceToNat, UInt8.reduceOfNat, UInt32.reduceOfNat, UInt64.reduceOfNat, Fin.isValue, Int.reduceSub, Int.reduceMul, Int.reduceNeg, Int.reduceMod, Int.reduceDiv, Int.reduceTDiv, Int.reduceTMod, Int.reduceBEq, Int.reduceBNe, Nat.reduceDiv, Nat.reducePow, Tryd.underlying125]
    repeat' apply And.intro
    all_goals try rfl
set_option maxRecDepth 100000 in
theorem fscale_tri (x : N5) (n : UInt32) : Tri Tryd.prog 89 [x.cv, .one (.u32 n)] [] (.c (fscale x n.toUInt64).cv) [] := by
  refine tri_of (envOf_ok gf3_ok 26) Tryd.func89 rfl rfl (rs := [.cell 4 69]) rfl rfl (by simp [envOf]) rfl [] ?_
  simp only [envOf, gf3, wplusC, narrowC, fcarryC, W2.cv, W5.cv, N5.cv, N5.eta, W2.eta, go_sem, reduceCtorEq, ↓reduceIte, Nat.reduceAdd, Nat.reduceMul, Nat.reduceSub, Nat.reduceEqDiff, Nat.reduceLT, Nat.reduceBEq, Nat.reduceBNe, Nat.reduceLeDiff, Int.reduceLE, Int.reduceLT, Int.reduceToNat, Int.reduceEq, Int.reduceAdd, UInt8.reduceToNat, UInt32.reduceToNat, UInt64.reduceToNat, UInt8.reduceOfNat, UInt32.reduceOfNat, UInt64.reduceOfNat, Fin.isValue, Int.reduceSub, Int.reduceMul, Int.reduceNeg, Int.reduceMod, Int.reduceDiv, Int.reduceTDiv, Int.reduceTMod, Int.reduceBEq, Int.reduceBNe, Nat.reduceDiv, Nat.reducePow, Tryd.underlying125]
  repeat' apply And.intro
  all_goals try rfl
  refine loop_rounds (envOf_ok gf3_ok 26) 6 ?_
  simp only [envOf, gf3, wplusC, narrowC, fcarryC, W2.cv, W5.cv, N5.cv, N5.eta, W2.eta, go_sem, reduceCtorEq, ↓reduceIte, Nat.reduceAdd, Nat.reduceMul, Nat.reduceSub, Nat.reduceEqDiff, Nat.reduceLT, Nat.reduceBEq, Nat.reduceBNe, Nat.reduceLeDiff, Int.reduceLE, Int.reduceLT, Int.reduceToNat, Int.reduceEq, Int.reduceAdd, UInt8.reduceToNat, UInt32.reduceToNat, UInt64.reduceToNat, UInt8.reduceOfNat, UInt32.reduceOfNat, UInt64.reduceOfNat, Fin.isValue, Int.reduceSub, Int.reduceMul, Int.reduceNeg, Int.reduceMod, Int.reduceDiv, Int.reduceTDiv, Int.reduceTMod, Int.reduceBEq, Int.reduceBNe, Nat.reduceDiv, Nat.reducePow, Tryd.underlying125]
  repeat' apply And.intro
  all_goals rfl
def fmulC : Con := con0 fun args => match args with
  | [.agg [.u64 a, .u64 b, .u64 c, .u64 d, .u64 e], .agg [.u64 a', .u64 b', .u64 c', .u64 d', .u64 e']] => some (.c (fmul ⟨a, b, c, d, e⟩ ⟨a', b', c', d', e'⟩).cv, [])
  | _ => none
theorem fmulC_ok : ConOk Tryd.prog 65 fmulC := con0_ok Tryd.func65 rfl rfl fun args res ob h hob => by
  split at h
  · injection h with h; injection h with h1 h2; subst h1; subst h2; exact fmul_tri ⟨_, _, _, _, _⟩ ⟨_, _, _, _, _⟩
  · cases h
def fscaleC : Con := con0 fun args => match args with
  | [.agg [.u64 a, .u64 b, .u64 c, .u64 d, .u64 e], .one (.u32 n)] => some (.c (fscale ⟨a, b, c, d, e⟩ n.toUInt64).cv, [])
  | _ => none
theorem fscaleC_ok : ConOk Tryd.prog 89 fscaleC := con0_ok Tryd.func89 rfl rfl fun args res ob h hob => by
  split at h
  · injection h with h; injection h with h1 h2; subst h1; subst h2; exact fscale_tri ⟨_, _, _, _, _⟩ _
  · cases h
end Go.Proofs.YtahiopdkekkibaaDoor.FK

/-
  Layer 3: a number to the power of 2^255 - 21.
-/
namespace Go.Proofs.YtahiopdkekkibaaDoor.FK
open Go Go.RowKit
set_option maxHeartbeats 4000000
set_option linter.unusedSimpArgs false
set_option linter.unusedVariables false
def N5.cells (x : N5) : SObj := .cells 1 [.u64 x.a, .u64 x.b, .u64 x.c, .u64 x.d, .u64 x.e]
def bitN : Nat → Int
  | 0 => -1
  | c + 1 => (c : Int)
theorem bitN_next {c : Nat} (h : c ≤ 1000) : IntKind.i64.wrap ((c : Int) - 1) = bitN c := by
  rw [IntKind.wrap_i64]
  cases c with
  | zero => rfl
  | succ c => simp only [bitN]; omega
def finvInv (x : N5) (s : Nat × N5) : St := ⟨[(1, .c (.one (.ptr 10000 0 0 0))), (2, .c (.one (.ptr 10008 0 0 0))), (3, .c (.one (.ptr 30008 0 0 0))), (4, .c (.one (.num (bitN s.1))))], [(10000, ⟨(fcarry x).cells, true⟩), (10008, ⟨zeroF.cells, true⟩), (30008, ⟨s.2.cells, true⟩)]⟩
def finvOk (x : N5) (s : Nat × N5) : Prop := invR (fcarry x) s.1 s.2 = finv x ∧ s.1 ≤ 255
def gk2 : Nat → Option Con := fun f => match f with
  | 85 => some fcarryC
  | 65 => some fmulC
  | _ => none
theorem gk2_ok : GaOk Tryd.prog gk2 := fun f con h => by
  unfold gk2 at h
  split at h
  · injection h with h; subst h; exact fcarryC_ok
  · injection h with h; subst h; exact fmulC_ok
  · cases h
set_option maxRecDepth 100000 in
theorem finv_tri (x : N5) : Tri Tryd.prog 66 [x.cv] [] (.c (finv x).cv) [] := by
  refine tri_of (envOf_ok gk2_ok 25) Tryd.func66 rfl rfl (rs := [.cell 2 69]) rfl rfl (by simp [envOf]) rfl [] ?_
  simp only [envOf, gk2, fcarryC, fmulC, N5.cv, N5.eta, go_sem, reduceCtorEq, ↓reduceIte, Nat.reduceAdd, Nat.reduceMul, Nat.reduceSub, Nat.reduceEqDiff, Nat.reduceLT, Nat.reduceBEq, Nat.reduceBNe, Nat.reduceLeDiff, Int.reduceLE, Int.reduceLT, Int.reduceToNat, Int.reduceEq, Int.reduceAdd, UInt8.reduceToNat, UInt32.reduceToNat, UInt64.reduceToNat, UInt8.reduceOfNat, UInt32.reduceOfNat, UInt64.reduceOfNat, Fin.isValue, Int.reduceSub, Int.reduceMul, Int.reduceNeg, Int.reduceMod, Int.reduceDiv, Int.reduceTDiv, Int.reduceTMod, Int.reduceBEq, Int.reduceBNe, Nat.reduceDiv, Nat.reducePow]
  refine loop_inv (envOf_ok gk2_ok 25) (finvInv x) (finvOk x) (fun s => s.1) (255, oneF) [] ⟨rfl, Nat.le_refl _⟩ ?_ ?_
  · simp only [finvInv, N5.cells, zeroF, oneF, bitN, go_sem, reduceCtorEq, ↓reduceIte, Nat.reduceAdd, Nat.reduceMul, Nat.reduceSub, Nat.reduceEqDiff, Nat.reduceLT, Nat.reduceBEq, Nat.reduceBNe, Nat.reduceLeDiff, Int.reduceLE, Int.reduceLT, Int.reduceToNat, Int.reduceEq, Int.reduceAdd, UInt8.reduceToNat, UInt32.reduceToNat, UInt64.reduceToNat, UInt8.reduceOfNat, UInt32.reduceOfNat, UInt64.reduceOfNat, Fin.isValue, Int.reduceSub, Int.reduceMul, Int.reduceNeg, Int.reduceMod, Int.reduceDiv, Int.reduceTDiv, Int.reduceTMod, Int.reduceBEq, Int.reduceBNe, Nat.reduceDiv, Nat.reducePow]
    all_goals try exact ⟨rfl, rfl⟩
  · rintro ⟨b, r⟩ ⟨hb, hle⟩
    cases b with
    | zero =>
      have hr : finv x = r := hb.symm
      simp only [envOf, gk2, fcarryC, fmulC, finvInv, N5.cells, zeroF, bitN, hr, N5.cv, N5.eta, go_sem, reduceCtorEq, ↓reduceIte, Nat.reduceAdd, Nat.reduceMul, Nat.reduceSub, Nat.reduceEqDiff, Nat.reduceLT, Nat.reduceBEq, Nat.reduceBNe, Nat.reduceLeDiff, Int.reduceLE, Int.reduceLT, Int.reduceToNat, Int.reduceEq, Int.reduceAdd, UInt8.reduceToNat, UInt32.reduceToNat, UInt64.reduceToNat, UInt8.reduceOfNat, UInt32.reduceOfNat, UInt64.reduceOfNat, Fin.isValue, Int.reduceSub, Int.reduceMul, Int.reduceNeg, Int.reduceMod, Int.reduceDiv, Int.reduceTDiv, Int.reduceTMod, Int.reduceBEq, Int.reduceBNe, Nat.reduceDiv, Nat.reducePow]
      all_goals try rfl
    | succ c =>
      have hle' : c ≤ 254 := by have : c + 1 ≤ 255 := hle; omega
      have h0 : decide ((0 : Int) ≤ (c : Int)) = true := decide_eq_true (by omega)
      have hw := bitN_next (c := c) (by omega)
      by_cases h2 : c = 2
      · subst h2
        simp only [envOf, gk2, fcarryC, fmulC, finvInv, N5.cells, zeroF, bitN, h0, hw, bne, N5.cv, N5.eta, go_sem, reduceCtorEq, ↓reduceIte, Nat.reduceAdd, Nat.reduceMul, Nat.reduceSub, Nat.reduceEqDiff, Nat.reduceLT, Nat.reduceBEq, Nat.reduceBNe, Nat.reduceLeDiff, Int.reduceLE, Int.reduceLT, Int.reduceToNat, Int.reduceEq, Int.reduceAdd, UInt8.reduceToNat, UInt32.reduceToNat, UInt64.reduceToNat, UInt8.reduceOfNat, UInt32.reduceOfNat, UInt64.reduceOfNat, Fin.isValue, Int.reduceSub, Int.reduceMul, Int.reduceNeg, Int.reduceMod, Int.reduceDiv, Int.reduceTDiv, Int.reduceTMod, Int.reduceBEq, Int.reduceBNe, Nat.reduceDiv, Nat.reducePow]
        refine again (2, fmul r r) [] ⟨hb, by show 2 ≤ 255; decide⟩ (by show 2 < 2 + 1; decide) ?_
        simp only [finvInv, N5.cells, zeroF, bitN, go_sem, reduceCtorEq, ↓reduceIte, Nat.reduceAdd, Nat.reduceMul, Nat.reduceSub, Nat.reduceEqDiff, Nat.reduceLT, Nat.reduceBEq, Nat.reduceBNe, Nat.reduceLeDiff, Int.reduceLE, Int.reduceLT, Int.reduceToNat, Int.reduceEq, Int.reduceAdd, UInt8.reduceToNat, UInt32.reduceToNat, UInt64.reduceToNat, UInt8.reduceOfNat, UInt32.reduceOfNat, UInt64.reduceOfNat, Fin.isValue, Int.reduceSub, Int.reduceMul, Int.reduceNeg, Int.reduceMod, Int.reduceDiv, Int.reduceTDiv, Int.reduceTMod, Int.reduceBEq, Int.reduceBNe, Nat.reduceDiv, Nat.reducePow]
        all_goals trivial
      · by_cases h4 : c = 4
        · subst h4
          simp only [envOf, gk2, fcarryC, fmulC, finvInv, N5.cells, zeroF, bitN, h0, hw, bne, N5.cv, N5.eta, go_sem, reduceCtorEq, ↓reduceIte, Nat.reduceAdd, Nat.reduceMul, Nat.reduceSub, Nat.reduceEqDiff, Nat.reduceLT, Nat.reduceBEq, Nat.reduceBNe, Nat.reduceLeDiff, Int.reduceLE, Int.reduceLT, Int.reduceToNat, Int.reduceEq, Int.reduceAdd, UInt8.reduceToNat, UInt32.reduceToNat, UInt64.reduceToNat, UInt8.reduceOfNat, UInt32.reduceOfNat, UInt64.reduceOfNat, Fin.isValue, Int.reduceSub, Int.reduceMul, Int.reduceNeg, Int.reduceMod, Int.reduceDiv, Int.reduceTDiv, Int.reduceTMod, Int.reduceBEq, Int.reduceBNe, Nat.reduceDiv, Nat.reducePow]
          refine again (4, fmul r r) [] ⟨hb, by show 4 ≤ 255; decide⟩ (by show 4 < 4 + 1; decide) ?_
          simp only [finvInv, N5.cells, zeroF, bitN, go_sem, reduceCtorEq, ↓reduceIte, Nat.reduceAdd, Nat.reduceMul, Nat.reduceSub, Nat.reduceEqDiff, Nat.reduceLT, Nat.reduceBEq, Nat.reduceBNe, Nat.reduceLeDiff, Int.reduceLE, Int.reduceLT, Int.reduceToNat, Int.reduceEq, Int.reduceAdd, UInt8.reduceToNat, UInt32.reduceToNat, UInt64.reduceToNat, UInt8.reduceOfNat, UInt32.reduceOfNat, UInt64.reduceOfNat, Fin.isValue, Int.reduceSub, Int.reduceMul, Int.reduceNeg, Int.reduceMod, Int.reduceDiv, Int.reduceTDiv, Int.reduceTMod, Int.reduceBEq, Int.reduceBNe, Nat.reduceDiv, Nat.reducePow]
          all_goals trivial
        · have e2 : ((c : Int) == 2) = false := beq_eq_false_iff_ne.2 (by omega)
          have e4 : ((c : Int) == 4) = false := beq_eq_false_iff_ne.2 (by omega)
          simp only [envOf, gk2, fcarryC, fmulC, finvInv, N5.cells, zeroF, bitN, h0, hw, bne, e2, e4, N5.cv, N5.eta, go_sem, reduceCtorEq, ↓reduceIte, Nat.reduceAdd, Nat.reduceMul, Nat.reduceSub, Nat.reduceEqDiff, Nat.reduceLT, Nat.reduceBEq, Nat.reduceBNe, Nat.reduceLeDiff, Int.reduceLE, Int.reduceLT, Int.reduceToNat, Int.reduceEq, Int.reduceAdd, UInt8.reduceToNat, UInt32.reduceToNat, UInt64.reduceToNat, UInt8.reduceOfNat, UInt32.reduceOfNat, UInt64.reduceOfNat, Fin.isValue, Int.reduceSub, Int.reduceMul, Int.reduceNeg, Int.reduceMod, Int.reduceDiv, Int.reduceTDiv, Int.reduceTMod, Int.reduceBEq, Int.reduceBNe, Nat.reduceDiv, Nat.reducePow]
          refine again (c, fmul (fmul r r) (fcarry x)) [] ⟨?_, by show c ≤ 255; omega⟩ (by show c < c + 1; omega) ?_
          · rw [← hb]
            show _ = invR (fcarry x) c (if c = 2 ∨ c = 4 then fmul r r else fmul (fmul r r) (fcarry x))
            rw [if_neg (by omega)]
          · simp only [finvInv, N5.cells, zeroF, bitN, go_sem, reduceCtorEq, ↓reduceIte, Nat.reduceAdd, Nat.reduceMul, Nat.reduceSub, Nat.reduceEqDiff, Nat.reduceLT, Nat.reduceBEq, Nat.reduceBNe, Nat.reduceLeDiff, Int.reduceLE, Int.reduceLT, Int.reduceToNat, Int.reduceEq, Int.reduceAdd, UInt8.reduceToNat, UInt32.reduceToNat, UInt64.reduceToNat, UInt8.reduceOfNat, UInt32.reduceOfNat, UInt64.reduceOfNat, Fin.isValue, Int.reduceSub, Int.reduceMul, Int.reduceNeg, Int.reduceMod, Int.reduceDiv, Int.reduceTDiv, Int.reduceTMod, Int.reduceBEq, Int.reduceBNe, Nat.reduceDiv, Nat.reducePow]
            all_goals trivial
def finvC : Con := con0 fun args => match args with
  | [.agg [.u64 a, .u64 b, .u64 c, .u64 d, .u64 e]] => some (.c (finv ⟨a, b, c, d, e⟩).cv, [])
  | _ => none
theorem finvC_ok : ConOk Tryd.prog 66 finvC := con0_ok Tryd.func66 rfl rfl fun args res ob h hob => by
  split at h
  · injection h with h; injection h with h1 h2; subst h1; subst h2; exact finv_tri ⟨_, _, _, _, _⟩
  · cases h
end Go.Proofs.YtahiopdkekkibaaDoor.FK

/-
  Layer 3: the bytes of a number, numbers changed; the laws that ask no document's answer.
-/
namespace Go.Proofs.YtahiopdkekkibaaDoor.FK
open Go Go.RowKit
set_option maxHeartbeats 4000000
set_option linter.unusedSimpArgs false
set_option linter.unusedVariables false
set_option maxRecDepth 100000 in
theorem fswap_tri (x y : N5) (yes : Bool) : Tri Tryd.prog 86 [x.cv, y.cv, .one (.bo yes)] [] (.tup [(if yes = true then y else x).cv, (if yes = true then x else y).cv]) [] := by
  refine tri_of (envOf_ok ga0_ok 39) Tryd.func86 rfl rfl (rs := [.cell 6 69, .cell 7 69]) rfl rfl (by simp [envOf]) rfl [] ?_
  cases yes with
  | true =>
    simp only [envOf, ga0, N5.cv, N5.eta, go_sem, reduceCtorEq, ↓reduceIte, Nat.reduceAdd, Nat.reduceMul, Nat.reduceSub, Nat.reduceEqDiff, Nat.reduceLT, Nat.reduceBEq, Nat.reduceBNe, Nat.reduceLeDiff, Int.reduceLE, Int.reduceLT, Int.reduceToNat, Int.reduceEq, Int.reduceAdd, UInt8.reduceToNat, UInt32.reduceToNat, UInt64.reduceToNat, UInt8.reduceOfNat, UInt32.reduceOfNat, UInt64.reduceOfNat, Fin.isValue, Int.reduceSub, Int.reduceMul, Int.reduceNeg, Int.reduceMod, Int.reduceDiv, Int.reduceTDiv, Int.reduceTMod, Int.reduceBEq, Int.reduceBNe, Nat.reduceDiv, Nat.reducePow]
    repeat' apply And.intro
    all_goals try rfl
    refine loop_rounds (envOf_ok ga0_ok 39) 6 ?_
    simp only [envOf, ga0, N5.cv, N5.eta, swap_l, swap_r, go_sem, reduceCtorEq, ↓reduceIte, Nat.reduceAdd, Nat.reduceMul, Nat.reduceSub, Nat.reduceEqDiff, Nat.reduceLT, Nat.reduceBEq, Nat.reduceBNe, Nat.reduceLeDiff, Int.reduceLE, Int.reduceLT, Int.reduceToNat, Int.reduceEq, Int.reduceAdd, UInt8.reduceToNat, UInt32.reduceToNat, UInt64.reduceToNat, UInt8.reduceOfNat, UInt32.reduceOfNat, UInt64.reduceOfNat, Fin.isValue, Int.reduceSub, Int.reduceMul, Int.reduceNeg, Int.reduceMod, Int.reduceDiv, Int.reduceTDiv, Int.reduceTMod, Int.reduceBEq, Int.reduceBNe, Nat.reduceDiv, Nat.reducePow]
    repeat' apply And.intro
    all_goals rfl
  | false =>
    simp only [envOf, ga0, N5.cv, N5.eta, go_sem, reduceCtorEq, ↓reduceIte, Nat.reduceAdd, Nat.reduceMul, Nat.reduceSub, Nat.reduceEqDiff, Nat.reduceLT, Nat.reduceBEq, Nat.reduceBNe, Nat.reduceLeDiff, Int.reduceLE, Int.reduceLT, Int.reduceToNat, Int.reduceEq, Int.reduceAdd, UInt8.reduceToNat, UInt32.reduceToNat, UInt64.reduceToNat, UInt8.reduceOfNat, UInt32.reduceOfNat, UInt64.reduceOfNat, Fin.isValue, Int.reduceSub, Int.reduceMul, Int.reduceNeg, Int.reduceMod, Int.reduceDiv, Int.reduceTDiv, Int.reduceTMod, Int.reduceBEq, Int.reduceBNe, Nat.reduceDiv, Nat.reducePow]
    repeat' apply And.intro
    all_goals try rfl
    refine loop_rounds (envOf_ok ga0_ok 39) 6 ?_
    simp only [envOf, ga0, N5.cv, N5.eta, swap_no, go_sem, reduceCtorEq, ↓reduceIte, Nat.reduceAdd, Nat.reduceMul, Nat.reduceSub, Nat.reduceEqDiff, Nat.reduceLT, Nat.reduceBEq, Nat.reduceBNe, Nat.reduceLeDiff, Int.reduceLE, Int.reduceLT, Int.reduceToNat, Int.reduceEq, Int.reduceAdd, UInt8.reduceToNat, UInt32.reduceToNat, UInt64.reduceToNat, UInt8.reduceOfNat, UInt32.reduceOfNat, UInt64.reduceOfNat, Fin.isValue, Int.reduceSub, Int.reduceMul, Int.reduceNeg, Int.reduceMod, Int.reduceDiv, Int.reduceTDiv, Int.reduceTMod, Int.reduceBEq, Int.reduceBNe, Nat.reduceDiv, Nat.reducePow]
    repeat' apply And.intro
    all_goals rfl
def fswapC : Con := con0 fun args => match args with
  | [.agg [.u64 a, .u64 b, .u64 c, .u64 d, .u64 e], .agg [.u64 a', .u64 b', .u64 c', .u64 d', .u64 e'], .one (.bo yes)] => some (.tup [(if yes = true then ⟨a', b', c', d', e'⟩ else ⟨a, b, c, d, e⟩ : N5).cv, (if yes = true then ⟨a, b, c, d, e⟩ else ⟨a', b', c', d', e'⟩ : N5).cv], [])
  | _ => none
theorem fswapC_ok : ConOk Tryd.prog 86 fswapC := con0_ok Tryd.func86 rfl rfl fun args res ob h hob => by
  split at h
  · injection h with h; injection h with h1 h2; subst h1; subst h2; exact fswap_tri ⟨_, _, _, _, _⟩ ⟨_, _, _, _, _⟩ _
  · cases h
end Go.Proofs.YtahiopdkekkibaaDoor.FK

/-
  Layer 4: a scalar clamped; the base; a step of the ladder.
-/
namespace Go.Proofs.YtahiopdkekkibaaDoor.FK
open Go Go.RowKit
set_option maxHeartbeats 4000000
set_option linter.unusedSimpArgs false
set_option linter.unusedVariables false
def clampK (s : List UInt8) : List UInt8 := (s.set 0 (s.getD 0 0 &&& 248)).set 31 (((s.set 0 (s.getD 0 0 &&& 248)).getD 31 0 &&& 127) ||| 64)
def clampV (s : List UInt8) : SV := if s.length = 32 then .tup [.one (.str (clampK s)), .one (.bo true)] else .tup [.one (.str []), .one (.bo false)]
theorem clampK_len (s : List UInt8) : (clampK s).length = s.length := by unfold clampK; simp
set_option maxRecDepth 100000 in
theorem clamp_tri (s : List UInt8) : Tri Tryd.prog 37 [.one (.str s)] [] (clampV s) [] := by
  refine tri_of (envOf_ok ga0_ok 24) Tryd.func37 rfl rfl (rs := [.tmp 2, .tmp 3]) rfl rfl (by simp [envOf]) rfl [] ?_
  cases h : ((s.length : Int) == 32) with
  | false =>
    have hn : s.length ≠ 32 := fun e => by rw [e] at h; exact absurd h (by decide)
    have hv : clampV s = .tup [.one (.str []), .one (.bo false)] := if_neg hn
    simp only [envOf, ga0, h, hv, go_sem, reduceCtorEq, ↓reduceIte, Nat.reduceAdd, Nat.reduceMul, Nat.reduceSub, Nat.reduceEqDiff, Nat.reduceLT, Nat.reduceBEq, Nat.reduceBNe, Nat.reduceLeDiff, Int.reduceLE, Int.reduceLT, Int.reduceToNat, Int.reduceEq, Int.reduceAdd, UInt8.reduceToNat, UInt32.reduceToNat, UInt64.reduceToNat, UInt8.reduceOfNat, UInt32.reduceOfNat, UInt64.reduceOfNat, Fin.isValue, Int.reduceSub, Int.reduceMul, Int.reduceNeg, Int.reduceMod, Int.reduceDiv, Int.reduceTDiv, Int.reduceTMod, Int.reduceBEq, Int.reduceBNe, Nat.reduceDiv, Nat.reducePow]
  | true =>
    have hs : s.length = 32 := by have := beq_iff_eq.1 h; omega
    have hv : clampV s = .tup [.one (.str (clampK s)), .one (.bo true)] := if_pos hs
    have ht : (clampK s).take 32 = clampK s := List.take_of_length_le (by rw [clampK_len]; omega)
    unfold clampK at ht hv
    simp only [envOf, ga0, hs, hv, ht, List.length_set, go_sem, reduceCtorEq, ↓reduceIte, Nat.reduceAdd, Nat.reduceMul, Nat.reduceSub, Nat.reduceEqDiff, Nat.reduceLT, Nat.reduceBEq, Nat.reduceBNe, Nat.reduceLeDiff, Int.reduceLE, Int.reduceLT, Int.reduceToNat, Int.reduceEq, Int.reduceAdd, UInt8.reduceToNat, UInt32.reduceToNat, UInt64.reduceToNat, UInt8.reduceOfNat, UInt32.reduceOfNat, UInt64.reduceOfNat, Fin.isValue, Int.reduceSub, Int.reduceMul, Int.reduceNeg, Int.reduceMod, Int.reduceDiv, Int.reduceTDiv, Int.reduceTMod, Int.reduceBEq, Int.reduceBNe, Nat.reduceDiv, Nat.reducePow]
    repeat' apply And.intro
    all_goals first | omega | rfl
def clampC : Con := con0 fun args => match args with
  | [.one (.str s)] => some (clampV s, [])
  | _ => none
theorem clampC_ok : ConOk Tryd.prog 37 clampC := con0_ok Tryd.func37 rfl rfl fun args res ob h hob => by
  split at h
  · injection h with h; injection h with h1 h2; subst h1; subst h2; exact clamp_tri _
  · cases h
def base9 : List UInt8 := [9, 0, 0, 0, 0, 0, 0, 0, 0, 0, 0, 0, 0, 0, 0, 0, 0, 0, 0, 0, 0, 0, 0, 0, 0, 0, 0, 0, 0, 0, 0, 0]
set_option maxRecDepth 100000 in
theorem base_tri : Tri Tryd.prog 22 [] [] (.c (.one (.str base9))) [] := by
  refine tri_of (envOf_ok ga0_ok 7) Tryd.func22 rfl rfl (rs := [.tmp 0]) rfl rfl (by simp [envOf]) rfl [] ?_
  have hz : List.replicate 32 (AV.u8 0) = [.u8 0, .u8 0, .u8 0, .u8 0, .u8 0, .u8 0, .u8 0, .u8 0, .u8 0, .u8 0, .u8 0, .u8 0, .u8 0, .u8 0, .u8 0, .u8 0, .u8 0, .u8 0, .u8 0, .u8 0, .u8 0, .u8 0, .u8 0, .u8 0, .u8 0, .u8 0, .u8 0, .u8 0, .u8 0, .u8 0, .u8 0, .u8 0] := rfl
  simp only [envOf, ga0, hz, go_sem, reduceCtorEq, ↓reduceIte, Nat.reduceAdd, Nat.reduceMul, Nat.reduceSub, Nat.reduceEqDiff, Nat.reduceLT, Nat.reduceBEq, Nat.reduceBNe, Nat.reduceLeDiff, Int.reduceLE, Int.reduceLT, Int.reduceToNat, Int.reduceEq, Int.reduceAdd, UInt8.reduceToNat, UInt32.reduceToNat, UInt64.reduceToNat, UInt8.reduceOfNat, UInt32.reduceOfNat, UInt64.reduceOfNat, Fin.isValue, Int.reduceSub, Int.reduceMul, Int.reduceNeg, Int.reduceMod, Int.reduceDiv, Int.reduceTDiv, Int.reduceTMod, Int.reduceBEq, Int.reduceBNe, Nat.reduceDiv, Nat.reducePow]
  repeat' apply And.intro
  all_goals first | omega | rfl
def baseC : Con := con0 fun args => match args with
  | [] => some (.c (.one (.str base9)), [])
  | _ => none
theorem baseC_ok : ConOk Tryd.prog 22 baseC := con0_ok Tryd.func22 rfl rfl fun args res ob h hob => by
  split at h
  · injection h with h; injection h with h1 h2; subst h1; subst h2; exact base_tri
  · cases h
def PN.cv (p : PN) : CV := .agg [.u64 p.x.a, .u64 p.x.b, .u64 p.x.c, .u64 p.x.d, .u64 p.x.e, .u64 p.z.a, .u64 p.z.b, .u64 p.z.c, .u64 p.z.d, .u64 p.z.e]
def gk3 : Nat → Option Con := fun f => match f with
  | 87 => some faddC
  | 88 => some fsubC
  | 65 => some fmulC
  | 89 => some fscaleC
  | _ => none
theorem gk3_ok : GaOk Tryd.prog gk3 := fun f con h => by
  unfold gk3 at h
  split at h
  · injection h with h; subst h; exact faddC_ok
  · injection h with h; subst h; exact fsubC_ok
  · injection h with h; subst h; exact fmulC_ok
  · injection h with h; subst h; exact fscaleC_ok
  · cases h
set_option maxRecDepth 100000 in
theorem lstep_tri (p q : PN) (u : N5) : Tri Tryd.prog 64 [p.cv, q.cv, u.cv] [] (.tup [(dblN p).cv, (smN u p q).cv]) [] := by
  refine tri_of (envOf_ok gk3_ok 79) Tryd.func64 rfl rfl (rs := [.cell 6 103, .cell 7 103]) rfl rfl (by simp [envOf]) rfl [] ?_
  simp only [envOf, gk3, faddC, fsubC, fmulC, fscaleC, N5.cv, PN.cv, N5.eta, go_sem, reduceCtorEq, ↓reduceIte, Nat.reduceAdd, Nat.reduceMul, Nat.reduceSub, Nat.reduceEqDiff, Nat.reduceLT, Nat.reduceBEq, Nat.reduceBNe, Nat.reduceLeDiff, Int.reduceLE, Int.reduceLT, Int.reduceToNat, Int.reduceEq, Int.reduceAdd, UInt8.reduceToNat, UInt32.reduceToNat, UInt64.reduceToNat, UInt8.reduceOfNat, UInt32.reduceOfNat, UInt64.reduceOfNat, Fin.isValue, Int.reduceSub, Int.reduceMul, Int.reduceNeg, Int.reduceMod, Int.reduceDiv, Int.reduceTDiv, Int.reduceTMod, Int.reduceBEq, Int.reduceBNe, Nat.reduceDiv, Nat.reducePow, Tryd.underlying103]
  repeat' apply And.intro
  all_goals rfl
def lstepC : Con := con0 fun args => match args with
  | [.agg [.u64 a, .u64 b, .u64 c, .u64 d, .u64 e, .u64 f, .u64 g, .u64 h, .u64 i, .u64 j], .agg [.u64 a', .u64 b', .u64 c', .u64 d', .u64 e', .u64 f', .u64 g', .u64 h', .u64 i', .u64 j'], .agg [.u64 k, .u64 l, .u64 m, .u64 n, .u64 o]] => some (.tup [(dblN ⟨⟨a, b, c, d, e⟩, ⟨f, g, h, i, j⟩⟩).cv, (smN ⟨k, l, m, n, o⟩ ⟨⟨a, b, c, d, e⟩, ⟨f, g, h, i, j⟩⟩ ⟨⟨a', b', c', d', e'⟩, ⟨f', g', h', i', j'⟩⟩).cv], [])
  | _ => none
theorem lstepC_ok : ConOk Tryd.prog 64 lstepC := con0_ok Tryd.func64 rfl rfl fun args res ob h hob => by
  split at h
  · injection h with h; injection h with h1 h2; subst h1; subst h2; exact lstep_tri ⟨⟨_, _, _, _, _⟩, ⟨_, _, _, _, _⟩⟩ ⟨⟨_, _, _, _, _⟩, ⟨_, _, _, _, _⟩⟩ ⟨_, _, _, _, _⟩
  · cases h
def gk4 : Nat → Option Con := fun f => match f with
  | 86 => some fswapC
  | _ => none
theorem gk4_ok : GaOk Tryd.prog gk4 := fun f con h => by
  unfold gk4 at h
  split at h
  · injection h with h; subst h; exact fswapC_ok
  · cases h
set_option maxRecDepth 100000 in
theorem lswap_tri (p q : PN) (y : Bool) : Tri Tryd.prog 63 [p.cv, q.cv, .one (.bo y)] [] (.tup [(if y = true then q else p).cv, (if y = true then p else q).cv]) [] := by
  refine tri_of (envOf_ok gk4_ok 32) Tryd.func63 rfl rfl (rs := [.cell 6 103, .cell 7 103]) rfl rfl (by simp [envOf]) rfl [] ?_
  cases y
  all_goals
    simp only [envOf, gk4, fswapC, N5.cv, PN.cv, N5.eta, go_sem, reduceCtorEq, ↓reduceIte, Nat.reduceAdd, Nat.reduceMul, Nat.reduceSub, Nat.reduceEqDiff, Nat.reduceLT, Nat.reduceBEq, Nat.reduceBNe, Nat.reduceLeDiff, Int.reduceLE, Int.reduceLT, Int.reduceToNat, Int.reduceEq, Int.reduceAdd, UInt8.reduceToNat, UInt32.reduceToNat, UInt64.reduceToNat, UInt8.reduceOfNat, UInt32.reduceOfNat, UInt64.reduceOfNat, Fin.isValue, Int.reduceSub, Int.reduceMul, Int.reduceNeg, Int.reduceMod, Int.reduceDiv, Int.reduceTDiv, Int.reduceTMod, Int.reduceBEq, Int.reduceBNe, Nat.reduceDiv, Nat.reducePow, Tryd.underlying103]
    repeat' apply And.intro
    all_goals rfl
end Go.Proofs.YtahiopdkekkibaaDoor.FK

/-
  Layer 4: the ladder, climbed.
-/
namespace Go.Proofs.YtahiopdkekkibaaDoor.FK
open Go Go.RowKit
set_option maxHeartbeats 4000000
set_option linter.unusedSimpArgs false
set_option linter.unusedVariables false
def lswapC : Con := con0 fun args => match args with
  | [.agg [.u64 a, .u64 b, .u64 c, .u64 d, .u64 e, .u64 f, .u64 g, .u64 h, .u64 i, .u64 j], .agg [.u64 a', .u64 b', .u64 c', .u64 d', .u64 e', .u64 f', .u64 g', .u64 h', .u64 i', .u64 j'], .one (.bo y)] => some (.tup [(if y = true then ⟨⟨a', b', c', d', e'⟩, ⟨f', g', h', i', j'⟩⟩ else ⟨⟨a, b, c, d, e⟩, ⟨f, g, h, i, j⟩⟩ : PN).cv, (if y = true then ⟨⟨a, b, c, d, e⟩, ⟨f, g, h, i, j⟩⟩ else ⟨⟨a', b', c', d', e'⟩, ⟨f', g', h', i', j'⟩⟩ : PN).cv], [])
  | _ => none
theorem lswapC_ok : ConOk Tryd.prog 63 lswapC := con0_ok Tryd.func63 rfl rfl fun args res ob h hob => by
  split at h
  · injection h with h; injection h with h1 h2; subst h1; subst h2; exact lswap_tri ⟨⟨_, _, _, _, _⟩, ⟨_, _, _, _, _⟩⟩ ⟨⟨_, _, _, _, _⟩, ⟨_, _, _, _, _⟩⟩ _
  · cases h
def gk5 : Nat → Option Con := fun f => match f with
  | 63 => some lswapC
  | 64 => some lstepC
  | 66 => some finvC
  | 65 => some fmulC
  | _ => none
theorem gk5_ok : GaOk Tryd.prog gk5 := fun f con h => by
  unfold gk5 at h
  split at h
  · injection h with h; subst h; exact lswapC_ok
  · injection h with h; subst h; exact lstepC_ok
  · injection h with h; subst h; exact finvC_ok
  · injection h with h; subst h; exact fmulC_ok
  · cases h
def PN.cells (p : PN) : SObj := .cells 1 [.u64 p.x.a, .u64 p.x.b, .u64 p.x.c, .u64 p.x.d, .u64 p.x.e, .u64 p.z.a, .u64 p.z.b, .u64 p.z.c, .u64 p.z.d, .u64 p.z.e]
def climbI (k : List UInt8) (x : N5) (s : Nat × PN × PN × Bool) : St := ⟨[(0, .c (.one (.str k))), (3, .c (.one (.ptr 10000 0 0 0))), (4, .c (.one (.ptr 10008 0 0 0))), (5, .c (.one (.ptr 20048 0 0 0))), (6, .c (.one (.ptr 20056 0 0 0))), (7, .c (.one (.bo s.2.2.2))), (8, .c (.one (.num (bitN s.1))))], [(10000, ⟨x.cells, true⟩), (10008, ⟨zeroF.cells, true⟩), (20048, ⟨s.2.1.cells, true⟩), (20056, ⟨s.2.2.1.cells, true⟩)]⟩
def climbOk (k : List UInt8) (x : N5) (s : Nat × PN × PN × Bool) : Prop := endS (climbS x (kbit k) s.1 s.2) = climbF k x ∧ s.1 ≤ 255
theorem bitN_succ (c : Nat) : bitN (c + 1) = (c : Int) := rfl
theorem tdiv8 (t : Nat) (h : t ≤ 1000) : IntKind.i64.wrap (((t : Nat) : Int).tdiv 8) = ((t / 8 : Nat) : Int) := by
  rw [show (8 : Int) = ((8 : Nat) : Int) from rfl, ← Int.ofNat_tdiv, IntKind.wrap_i64]; omega
theorem tmod8 (t : Nat) : ((t : Nat) : Int).tmod 8 = ((t % 8 : Nat) : Int) := by
  rw [show (8 : Int) = ((8 : Nat) : Int) from rfl, ← Int.ofNat_tmod]
set_option maxRecDepth 100000 in
theorem climb_tri (k : List UInt8) (x : N5) (hk : k.length = 32) : Tri Tryd.prog 40 [.one (.str k), x.cv] [] (.c (climbF k x).cv) [] := by
  refine tri_of (envOf_ok gk5_ok 59) Tryd.func40 rfl rfl (rs := [.cell 4 69]) rfl rfl (by simp [envOf]) rfl [] ?_
  simp only [envOf, gk5, lswapC, lstepC, finvC, fmulC, N5.cv, N5.eta, Tryd.underlying103, go_sem, reduceCtorEq, ↓reduceIte, Nat.reduceAdd, Nat.reduceMul, Nat.reduceSub, Nat.reduceEqDiff, Nat.reduceLT, Nat.reduceBEq, Nat.reduceBNe, Nat.reduceLeDiff, Int.reduceLE, Int.reduceLT, Int.reduceToNat, Int.reduceEq, Int.reduceAdd, UInt8.reduceToNat, UInt32.reduceToNat, UInt64.reduceToNat, UInt8.reduceOfNat, UInt32.reduceOfNat, UInt64.reduceOfNat, Fin.isValue, Int.reduceSub, Int.reduceMul, Int.reduceNeg, Int.reduceMod, Int.reduceDiv, Int.reduceTDiv, Int.reduceTMod, Int.reduceBEq, Int.reduceBNe, Nat.reduceDiv, Nat.reducePow]
  refine ⟨rfl, ?_⟩
  refine loop_inv (envOf_ok gk5_ok 59) (climbI k x) (climbOk k x) (fun s => s.1) (255, start x) [] ⟨rfl, Nat.le_refl _⟩ ?_ ?_
  · simp only [climbI, N5.cells, PN.cells, start, zeroF, oneF, bitN, go_sem, reduceCtorEq, ↓reduceIte, Nat.reduceAdd, Nat.reduceMul, Nat.reduceSub, Nat.reduceEqDiff, Nat.reduceLT, Nat.reduceBEq, Nat.reduceBNe, Nat.reduceLeDiff, Int.reduceLE, Int.reduceLT, Int.reduceToNat, Int.reduceEq, Int.reduceAdd, UInt8.reduceToNat, UInt32.reduceToNat, UInt64.reduceToNat, UInt8.reduceOfNat, UInt32.reduceOfNat, UInt64.reduceOfNat, Fin.isValue, Int.reduceSub, Int.reduceMul, Int.reduceNeg, Int.reduceMod, Int.reduceDiv, Int.reduceTDiv, Int.reduceTMod, Int.reduceBEq, Int.reduceBNe, Nat.reduceDiv, Nat.reducePow]
    all_goals try exact ⟨rfl, rfl⟩
  · rintro ⟨c, p, q, sw⟩ ⟨hb, hle⟩
    cases c with
    | zero =>
      have hr : climbF k x = endS (p, q, sw) := hb.symm
      cases sw
      all_goals
        simp only [envOf, gk5, lswapC, lstepC, finvC, fmulC, climbI, N5.cells, PN.cells, zeroF, bitN, hr, endS, N5.cv, PN.cv, N5.eta, Tryd.underlying103, go_sem, reduceCtorEq, ↓reduceIte, Nat.reduceAdd, Nat.reduceMul, Nat.reduceSub, Nat.reduceEqDiff, Nat.reduceLT, Nat.reduceBEq, Nat.reduceBNe, Nat.reduceLeDiff, Int.reduceLE, Int.reduceLT, Int.reduceToNat, Int.reduceEq, Int.reduceAdd, UInt8.reduceToNat, UInt32.reduceToNat, UInt64.reduceToNat, UInt8.reduceOfNat, UInt32.reduceOfNat, UInt64.reduceOfNat, Fin.isValue, Int.reduceSub, Int.reduceMul, Int.reduceNeg, Int.reduceMod, Int.reduceDiv, Int.reduceTDiv, Int.reduceTMod, Int.reduceBEq, Int.reduceBNe, Nat.reduceDiv, Nat.reducePow]
        all_goals try trivial
    | succ t =>
      have hle' : t ≤ 254 := by have : t + 1 ≤ 255 := hle; omega
      have h0 : decide ((0 : Int) ≤ (t : Int)) = true := decide_eq_true (by omega)
      have hw := bitN_next (c := t) (by omega)
      have hd := tdiv8 t (by omega)
      have hm := tmod8 t
      have hs : endS (climbS x (kbit k) t (stepS x (kbit k t) (p, q, sw))) = climbF k x := hb
      obtain ⟨nx, hnx⟩ : ∃ nx, nx = stepS x (kbit k t) (p, q, sw) := ⟨_, rfl⟩
      rw [← hnx] at hs
      cases hbit : kbit k t
      all_goals
        rw [hbit] at hnx
        unfold kbit at hbit
        cases sw
        all_goals
          simp only [envOf, gk5, lswapC, lstepC, finvC, fmulC, climbI, N5.cells, PN.cells, zeroF, bitN_succ, h0, hw, hd, hm, hk, hbit, bne, N5.cv, PN.cv, N5.eta, Tryd.underlying103, go_sem, reduceCtorEq, ↓reduceIte, Nat.reduceAdd, Nat.reduceMul, Nat.reduceSub, Nat.reduceEqDiff, Nat.reduceLT, Nat.reduceBEq, Nat.reduceBNe, Nat.reduceLeDiff, Int.reduceLE, Int.reduceLT, Int.reduceToNat, Int.reduceEq, Int.reduceAdd, UInt8.reduceToNat, UInt32.reduceToNat, UInt64.reduceToNat, UInt8.reduceOfNat, UInt32.reduceOfNat, UInt64.reduceOfNat, Fin.isValue, Int.reduceSub, Int.reduceMul, Int.reduceNeg, Int.reduceMod, Int.reduceDiv, Int.reduceTDiv, Int.reduceTMod, Int.reduceBEq, Int.reduceBNe, Nat.reduceDiv, Nat.reducePow]
          repeat' apply And.intro
          all_goals first
            | omega
            | skip
          refine again (t, nx) [] ⟨hs, by show t ≤ 255; omega⟩ (by show t < t + 1; omega) ?_
          simp only [climbI, hnx, stepS, N5.cells, PN.cells, zeroF, bne, go_sem, reduceCtorEq, ↓reduceIte, Nat.reduceAdd, Nat.reduceMul, Nat.reduceSub, Nat.reduceEqDiff, Nat.reduceLT, Nat.reduceBEq, Nat.reduceBNe, Nat.reduceLeDiff, Int.reduceLE, Int.reduceLT, Int.reduceToNat, Int.reduceEq, Int.reduceAdd, UInt8.reduceToNat, UInt32.reduceToNat, UInt64.reduceToNat, UInt8.reduceOfNat, UInt32.reduceOfNat, UInt64.reduceOfNat, Fin.isValue, Int.reduceSub, Int.reduceMul, Int.reduceNeg, Int.reduceMod, Int.reduceDiv, Int.reduceTDiv, Int.reduceTMod, Int.reduceBEq, Int.reduceBNe, Nat.reduceDiv, Nat.reducePow]
          all_goals trivial
def climbC : Con := con0 fun args => match args with
  | [.one (.str k), .agg [.u64 a, .u64 b, .u64 c, .u64 d, .u64 e]] => some (.c (climbF k ⟨a, b, c, d, e⟩).cv, [k.length = 32])
  | _ => none
theorem climbC_ok : ConOk Tryd.prog 40 climbC := con0_ok Tryd.func40 rfl rfl fun args res ob h hob => by
  split at h
  · injection h with h; injection h with h1 h2; subst h1; subst h2; exact climb_tri _ ⟨_, _, _, _, _⟩ hob.1
  · cases h
end Go.Proofs.YtahiopdkekkibaaDoor.FK

/-
  Layer 1: the first state, a state's bytes, what is added to a text.
-/
namespace Go.Proofs.YtahiopdkekkibaaDoor.FH
open Go Go.RowKit
set_option maxHeartbeats 4000000
set_option linter.unusedSimpArgs false
set_option linter.unusedVariables false
def init8 : W8 := ⟨0x6a09e667, 0xbb67ae85, 0x3c6ef372, 0xa54ff53a, 0x510e527f, 0x9b05688c, 0x1f83d9ab, 0x5be0cd19⟩
theorem initial_tri : Tri Tryd.prog 102 [] [] (.c init8.cv) [] := by
  refine tri_of (envOf_ok ga0_ok 2) Tryd.func102 rfl rfl (rs := [.cell 0 140]) rfl rfl (by simp [envOf]) rfl [] ?_
  simp only [envOf, ga0, W8.cv, init8, go_sem, reduceCtorEq, ↓reduceIte, Nat.reduceAdd, Nat.reduceMul, Nat.reduceSub, Nat.reduceEqDiff, Nat.reduceLT, Nat.reduceBEq, Nat.reduceBNe, Nat.reduceLeDiff, Int.reduceLE, Int.reduceLT, Int.reduceToNat, Int.reduceEq, Int.reduceAdd, UInt8.reduceToNat, UInt32.reduceToNat, UInt64.reduceToNat, UInt8.reduceOfNat, UInt32.reduceOfNat, UInt64.reduceOfNat, Fin.isValue, Int.reduceSub, Int.reduceMul, Int.reduceNeg, Int.reduceMod, Int.reduceDiv, Int.reduceTDiv, Int.reduceTMod, Int.reduceBEq, Int.reduceBNe, Nat.reduceDiv, Nat.reducePow]
  all_goals rfl
def initialC : Con := con0 fun args => match args with
  | [] => some (.c init8.cv, [])
  | _ => none
theorem initialC_ok : ConOk Tryd.prog 102 initialC := con0_ok Tryd.func102 rfl rfl fun args res ob h hob => by
  split at h
  · injection h with h; injection h with h1 h2; subst h1; subst h2; exact initial_tri
  · cases h
def outV (v : W8) : List UInt8 := [(shr32 v.a 24).toUInt8, (shr32 v.a 16).toUInt8, (shr32 v.a 8).toUInt8, v.a.toUInt8, (shr32 v.b 24).toUInt8, (shr32 v.b 16).toUInt8, (shr32 v.b 8).toUInt8, v.b.toUInt8, (shr32 v.c 24).toUInt8, (shr32 v.c 16).toUInt8, (shr32 v.c 8).toUInt8, v.c.toUInt8, (shr32 v.d 24).toUInt8, (shr32 v.d 16).toUInt8, (shr32 v.d 8).toUInt8, v.d.toUInt8, (shr32 v.e 24).toUInt8, (shr32 v.e 16).toUInt8, (shr32 v.e 8).toUInt8, v.e.toUInt8, (shr32 v.f 24).toUInt8, (shr32 v.f 16).toUInt8, (shr32 v.f 8).toUInt8, v.f.toUInt8, (shr32 v.g 24).toUInt8, (shr32 v.g 16).toUInt8, (shr32 v.g 8).toUInt8, v.g.toUInt8, (shr32 v.h 24).toUInt8, (shr32 v.h 16).toUInt8, (shr32 v.h 8).toUInt8, v.h.toUInt8]
set_option maxRecDepth 100000 in
theorem output_tri (v : W8) : Tri Tryd.prog 105 [v.cv] [] (.c (.one (.str (outV v)))) [] := by
  refine tri_of (envOf_ok ga0_ok 28) Tryd.func105 rfl rfl (rs := [.tmp 2]) rfl rfl (by simp [envOf]) rfl [] ?_
  simp only [envOf, ga0, W8.cv, go_sem, reduceCtorEq, ↓reduceIte, Nat.reduceAdd, Nat.reduceMul, Nat.reduceSub, Nat.reduceEqDiff, Nat.reduceLT, Nat.reduceBEq, Nat.reduceBNe, Nat.reduceLeDiff, Int.reduceLE, Int.reduceLT, Int.reduceToNat, Int.reduceEq, Int.reduceAdd, UInt8.reduceToNat, UInt32.reduceToNat, UInt64.reduceToNat, UInt8.reduceOfNat, UInt32.reduceOfNat, UInt64.reduceOfNat, Fin.isValue, Int.reduceSub, Int.reduceMul, Int.reduceNeg, Int.reduceMod, Int.reduceDiv, Int.reduceTDiv, Int.reduceTMod, Int.reduceBEq, Int.reduceBNe, Nat.reduceDiv, Nat.reducePow]
  repeat' apply And.intro
  all_goals first
    | omega
    | rfl
    | skip
  refine loop_rounds (envOf_ok ga0_ok 28) 9 ?_
  simp only [envOf, ga0, outV, go_sem, reduceCtorEq, ↓reduceIte, Nat.reduceAdd, Nat.reduceMul, Nat.reduceSub, Nat.reduceEqDiff, Nat.reduceLT, Nat.reduceBEq, Nat.reduceBNe, Nat.reduceLeDiff, Int.reduceLE, Int.reduceLT, Int.reduceToNat, Int.reduceEq, Int.reduceAdd, UInt8.reduceToNat, UInt32.reduceToNat, UInt64.reduceToNat, UInt8.reduceOfNat, UInt32.reduceOfNat, UInt64.reduceOfNat, Fin.isValue, Int.reduceSub, Int.reduceMul, Int.reduceNeg, Int.reduceMod, Int.reduceDiv, Int.reduceTDiv, Int.reduceTMod, Int.reduceBEq, Int.reduceBNe, Nat.reduceDiv, Nat.reducePow]
  repeat' apply And.intro
  all_goals first
    | omega
    | rfl
    | trace_state
def outputC : Con := con0 fun args => match args with
  | [.agg [.u32 a, .u32 b, .u32 c, .u32 d, .u32 e, .u32 f, .u32 g, .u32 h]] => some (.c (.one (.str (outV ⟨a, b, c, d, e, f, g, h⟩))), [])
  | _ => none
theorem outputC_ok : ConOk Tryd.prog 105 outputC := con0_ok Tryd.func105 rfl rfl fun args res ob h hob => by
  split at h
  · injection h with h; injection h with h1 h2; subst h1; subst h2; exact output_tri ⟨_, _, _, _, _, _, _, _⟩
  · cases h
end Go.Proofs.YtahiopdkekkibaaDoor.FH

/-
  Layer 1: what is added to a text.
-/
namespace Go.Proofs.YtahiopdkekkibaaDoor.FH
open Go Go.RowKit
set_option maxHeartbeats 4000000
set_option linter.unusedSimpArgs false
set_option linter.unusedVariables false
def padZ (n : Nat) : Nat := (119 - n % 64) % 64
def bcN (n : Nat) : UInt64 := by64 (n : Int) * 8
def padP (n : Nat) : Nat → List UInt8
  | 0 => 128 :: List.replicate (padZ n) 0
  | j + 1 => padP n j ++ [(shr64 (bcN n) (8 * (7 - j))).toUInt8]
theorem padP_len (n : Nat) : ∀ j, (padP n j).length = 1 + padZ n + j
  | 0 => by rw [padP, List.length_cons, List.length_replicate]; omega
  | j + 1 => by rw [padP, List.length_append, padP_len n j, List.length_singleton]; omega
theorem pad_flat (z : Nat) : (128 :: List.replicate z (0 : UInt8)).flatMap u8L.enc = AV.u8 128 :: List.replicate z (AV.u8 0) := by
  rw [List.flatMap_cons]
  show AV.u8 128 :: (List.replicate z (0 : UInt8)).flatMap u8L.enc = _
  congr 1
  induction z with
  | zero => rfl
  | succ z ih => rw [List.replicate_succ, List.flatMap_cons, ih, List.replicate_succ]; rfl
def pdI (n : Nat) (j : Nat) : St := ⟨[(4, .c (.one (.sl 500 0 1 (1 + padZ n + j)))), (5, .c (.one (.u64 (bcN n)))), (6, .c (.one (.num (7 - (j : Int)))))], [(500, ⟨.arr UInt8 u8L (padP n j), true⟩)]⟩
set_option maxRecDepth 100000 in
theorem padding_tri (n : Nat) (hn : n ≤ 1000000000) : Tri Tryd.prog 104 [.one (.num (n : Nat))] [] (.c (.one (.str (padP n 8)))) [] := by
  have m1 : ((n : Nat) : Int).tmod 64 = ((n % 64 : Nat) : Int) := by rw [show (64 : Int) = ((64 : Nat) : Int) from rfl, ← Int.ofNat_tmod]
  have w1 : IntKind.i64.wrap (119 - ((n % 64 : Nat) : Int)) = ((119 - n % 64 : Nat) : Int) := by rw [IntKind.wrap_i64]; omega
  have m2 : ((119 - n % 64 : Nat) : Int).tmod 64 = ((padZ n : Nat) : Int) := by rw [show (64 : Int) = ((64 : Nat) : Int) from rfl, ← Int.ofNat_tmod]; rfl
  have hz : padZ n < 64 := Nat.mod_lt _ (by decide)
  have w2 : IntKind.i64.wrap (1 + ((padZ n : Nat) : Int)) = ((1 + padZ n : Nat) : Int) := by rw [IntKind.wrap_i64]; omega
  have w3 : IntKind.i64.wrap (9 + ((padZ n : Nat) : Int)) = ((9 + padZ n : Nat) : Int) := by rw [IntKind.wrap_i64]; omega
  have hdr : (List.replicate (1 + padZ n) (AV.u8 0)).drop 1 = List.replicate (padZ n) (AV.u8 0) := by rw [List.drop_replicate, Nat.add_sub_cancel_left]
  have hbc : by64 ((n : Nat) : Int) * 8 = bcN n := rfl
  refine tri_of (envOf_ok ga0_ok 35) Tryd.func104 rfl rfl (rs := [.tmp 2]) rfl rfl (by simp [envOf]) rfl [] ?_
  simp only [envOf, ga0, m1, w1, m2, w2, w3, hdr, hbc, List.length_replicate, go_sem, reduceCtorEq, ↓reduceIte, Nat.reduceAdd, Nat.reduceMul, Nat.reduceSub, Nat.reduceEqDiff, Nat.reduceLT, Nat.reduceBEq, Nat.reduceBNe, Nat.reduceLeDiff, Int.reduceLE, Int.reduceLT, Int.reduceToNat, Int.reduceEq, Int.reduceAdd, UInt8.reduceToNat, UInt32.reduceToNat, UInt64.reduceToNat, UInt8.reduceOfNat, UInt32.reduceOfNat, UInt64.reduceOfNat, Fin.isValue, Int.reduceSub, Int.reduceMul, Int.reduceNeg, Int.reduceMod, Int.reduceDiv, Int.reduceTDiv, Int.reduceTMod, Int.reduceBEq, Int.reduceBNe, Nat.reduceDiv, Nat.reducePow]
  repeat' apply And.intro
  all_goals first
    | omega
    | rfl
    | skip
  refine loop_inv (envOf_ok ga0_ok 35) (pdI n) (fun j => j ≤ 8) (fun j => 8 - j) 0 [(500, 30032)] (by omega) ?_ ?_
  · simp only [pdI, padP, pad_flat, hdr, go_sem, reduceCtorEq, ↓reduceIte, Nat.reduceAdd, Nat.reduceMul, Nat.reduceSub, Nat.reduceEqDiff, Nat.reduceLT, Nat.reduceBEq, Nat.reduceBNe, Nat.reduceLeDiff, Int.reduceLE, Int.reduceLT, Int.reduceToNat, Int.reduceEq, Int.reduceAdd, UInt8.reduceToNat, UInt32.reduceToNat, UInt64.reduceToNat, UInt8.reduceOfNat, UInt32.reduceOfNat, UInt64.reduceOfNat, Fin.isValue, Int.reduceSub, Int.reduceMul, Int.reduceNeg, Int.reduceMod, Int.reduceDiv, Int.reduceTDiv, Int.reduceTMod, Int.reduceBEq, Int.reduceBNe, Nat.reduceDiv, Nat.reducePow]
    all_goals first
      | trivial
      | trace_state
  · intro j hj
    have hl := padP_len n j
    have i1 : IntKind.i64.wrap (7 - (j : Int) - 1) = 7 - ((j + 1 : Nat) : Int) := by rw [IntKind.wrap_i64]; omega
    simp only [pdI, envOf, ga0, go_sem, reduceCtorEq, ↓reduceIte, Nat.reduceAdd, Nat.reduceMul, Nat.reduceSub, Nat.reduceEqDiff, Nat.reduceLT, Nat.reduceBEq, Nat.reduceBNe, Nat.reduceLeDiff, Int.reduceLE, Int.reduceLT, Int.reduceToNat, Int.reduceEq, Int.reduceAdd, UInt8.reduceToNat, UInt32.reduceToNat, UInt64.reduceToNat, UInt8.reduceOfNat, UInt32.reduceOfNat, UInt64.reduceOfNat, Fin.isValue, Int.reduceSub, Int.reduceMul, Int.reduceNeg, Int.reduceMod, Int.reduceDiv, Int.reduceTDiv, Int.reduceTMod, Int.reduceBEq, Int.reduceBNe, Nat.reduceDiv, Nat.reducePow]
    refine br (fun hc => ?_) fun hc => ?_
    · have hc' := of_decide_eq_true hc
      have i2 : IntKind.i64.wrap (8 * (7 - (j : Int))) = ((8 * (7 - j) : Nat) : Int) := by rw [IntKind.wrap_i64]; omega
      have hs : 1 + padZ n + (j + 1) = 1 + padZ n + j + 1 := by omega
      simp only [hc, i1, i2, envOf, ga0, go_sem, reduceCtorEq, ↓reduceIte, Nat.reduceAdd, Nat.reduceMul, Nat.reduceSub, Nat.reduceEqDiff, Nat.reduceLT, Nat.reduceBEq, Nat.reduceBNe, Nat.reduceLeDiff, Int.reduceLE, Int.reduceLT, Int.reduceToNat, Int.reduceEq, Int.reduceAdd, UInt8.reduceToNat, UInt32.reduceToNat, UInt64.reduceToNat, UInt8.reduceOfNat, UInt32.reduceOfNat, UInt64.reduceOfNat, Fin.isValue, Int.reduceSub, Int.reduceMul, Int.reduceNeg, Int.reduceMod, Int.reduceDiv, Int.reduceTDiv, Int.reduceTMod, Int.reduceBEq, Int.reduceBNe, Nat.reduceDiv, Nat.reducePow]
      repeat' apply And.intro
      all_goals first
        | omega
        | rfl
        | skip
      refine again (j + 1) [(500, 90056)] (by omega) (by omega) ?_
      simp only [pdI, padP, hs, envOf, ga0, go_sem, reduceCtorEq, ↓reduceIte, Nat.reduceAdd, Nat.reduceMul, Nat.reduceSub, Nat.reduceEqDiff, Nat.reduceLT, Nat.reduceBEq, Nat.reduceBNe, Nat.reduceLeDiff, Int.reduceLE, Int.reduceLT, Int.reduceToNat, Int.reduceEq, Int.reduceAdd, UInt8.reduceToNat, UInt32.reduceToNat, UInt64.reduceToNat, UInt8.reduceOfNat, UInt32.reduceOfNat, UInt64.reduceOfNat, Fin.isValue, Int.reduceSub, Int.reduceMul, Int.reduceNeg, Int.reduceMod, Int.reduceDiv, Int.reduceTDiv, Int.reduceTMod, Int.reduceBEq, Int.reduceBNe, Nat.reduceDiv, Nat.reducePow]
      all_goals first
        | trivial
        | trace_state
    · obtain rfl : j = 8 := by have := of_decide_eq_false hc; omega
      have ht : (padP n 8).take (1 + padZ n + 8) = padP n 8 := List.take_of_length_le (by rw [hl]; exact Nat.le_refl _)
      simp only [hc, ht, envOf, ga0, go_sem, reduceCtorEq, ↓reduceIte, Nat.reduceAdd, Nat.reduceMul, Nat.reduceSub, Nat.reduceEqDiff, Nat.reduceLT, Nat.reduceBEq, Nat.reduceBNe, Nat.reduceLeDiff, Int.reduceLE, Int.reduceLT, Int.reduceToNat, Int.reduceEq, Int.reduceAdd, UInt8.reduceToNat, UInt32.reduceToNat, UInt64.reduceToNat, UInt8.reduceOfNat, UInt32.reduceOfNat, UInt64.reduceOfNat, Fin.isValue, Int.reduceSub, Int.reduceMul, Int.reduceNeg, Int.reduceMod, Int.reduceDiv, Int.reduceTDiv, Int.reduceTMod, Int.reduceBEq, Int.reduceBNe, Nat.reduceDiv, Nat.reducePow]
      repeat' apply And.intro
      all_goals first
        | omega
        | rfl
        | trace_state
def paddingC : Con := con0 fun args => match args with
  | [.one (.num z)] => some (.c (.one (.str (padP z.toNat 8))), [0 ≤ z, z ≤ 1000000000])
  | _ => none
theorem paddingC_ok : ConOk Tryd.prog 104 paddingC := con0_ok Tryd.func104 rfl rfl fun args res ob h hob => by
  split at h
  · rename_i z
    injection h with h; injection h with h1 h2; subst h1; subst h2
    have := padding_tri z.toNat (by have := hob.2.1; omega)
    rw [Int.toNat_of_nonneg hob.1] at this
    exact this
  · cases h
end Go.Proofs.YtahiopdkekkibaaDoor.FH

/-
  Layer 1: the digest.
-/
namespace Go.Proofs.YtahiopdkekkibaaDoor.FH
open Go Go.RowKit
set_option maxHeartbeats 4000000
set_option linter.unusedSimpArgs false
set_option linter.unusedVariables false
def blockC : Con := con0 fun args => match args with
  | [.agg [.u32 a, .u32 b, .u32 c, .u32 d, .u32 e, .u32 f, .u32 g, .u32 h], .one (.str s)] => some (.c (blockW ⟨a, b, c, d, e, f, g, h⟩ s).cv, [s.length = 64])
  | _ => none
theorem blockC_ok : ConOkG Tryd.prog [gK] 103 blockC := con0_okG Tryd.func103 rfl rfl fun args res ob h hob => by
  split at h
  · rename_i a b c d e f g h' s
    injection h with h; injection h with h1 h2; subst h1; subst h2
    have := block_tri ⟨a, b, c, d, e, f, g, h'⟩ s
    rw [if_pos hob.1] at this
    exact this
  · cases h
noncomputable def envJ (ga : Nat → Option Con) (nt : Nat) : Env := ⟨ty, ga, [], nt, [], [gK]⟩
theorem envJ_ok {ga : Nat → Option Con} (h : GaOkG Tryd.prog [gK] ga) (nt : Nat) : EnvOk Tryd.prog (envJ ga nt) := ⟨ty_ok, h, by first | rfl | decide⟩
def hg1 : Nat → Option Con := fun f => match f with
  | 103 => some blockC
  | 102 => some initialC
  | 104 => some paddingC
  | 105 => some outputC
  | _ => none
theorem hg1_ok : GaOkG Tryd.prog [gK] hg1 := fun f con h => by
  unfold hg1 at h
  split at h
  · injection h with h; subst h; exact blockC_ok
  · injection h with h; subst h; exact ConOk.up initialC_ok
  · injection h with h; subst h; exact ConOk.up paddingC_ok
  · injection h with h; subst h; exact ConOk.up outputC_ok
  · cases h
def foldB (v : W8) (l : List UInt8) : Nat → W8
  | 0 => v
  | q + 1 => blockW (foldB v l q) ((l.drop (64 * q)).take 64)
def midS (s : List UInt8) : W8 := foldB init8 s (s.length / 64)
def lastS (s : List UInt8) : List UInt8 := s.drop (64 * (s.length / 64)) ++ padP s.length 8
def sumL (s : List UInt8) : List UInt8 := outV (foldB (midS s) (lastS s) ((lastS s).length / 64))
theorem lastS_len (s : List UInt8) : (lastS s).length % 64 = 0 ∧ (lastS s).length ≤ 192 := by
  unfold lastS
  rw [List.length_append, List.length_drop, padP_len]
  unfold padZ
  omega
def sm1 (s : List UInt8) (q : Nat) : St := ⟨[(0, .c (.one (.str s))), (3, .c (.one (.ptr 20008 0 0 0))), (4, .c (.one (.str (s.drop (64 * q)))))], [(20008, ⟨(foldB init8 s q).cells, true⟩)]⟩
def sm2 (s : List UInt8) (q : Nat) : St := ⟨[(3, .c (.one (.ptr 20008 0 0 0))), (5, .c (.one (.str ((lastS s).drop (64 * q)))))], [(20008, ⟨(foldB (midS s) (lastS s) q).cells, true⟩)]⟩
set_option maxRecDepth 100000 in
theorem sum_tri (s : List UInt8) (hs : s.length ≤ 1000000000) : TriG Tryd.prog [gK] 79 [.one (.str s)] [] (.c (.one (.str (sumL s)))) [] := by
  refine tri_of (envJ_ok hg1_ok 33) Tryd.func79 rfl rfl (rs := [.tmp 2]) rfl rfl (by simp [envJ]) rfl [] ?_
  have h00 : s.drop (64 * 0) = s := rfl
  simp only [envJ, hg1, blockC, initialC, paddingC, outputC, W8.cv, W8.eta, go_sem, reduceCtorEq, ↓reduceIte, Nat.reduceAdd, Nat.reduceMul, Nat.reduceSub, Nat.reduceEqDiff, Nat.reduceLT, Nat.reduceBEq, Nat.reduceBNe, Nat.reduceLeDiff, Int.reduceLE, Int.reduceLT, Int.reduceToNat, Int.reduceEq, Int.reduceAdd, UInt8.reduceToNat, UInt32.reduceToNat, UInt64.reduceToNat, UInt8.reduceOfNat, UInt32.reduceOfNat, UInt64.reduceOfNat, Fin.isValue, Int.reduceSub, Int.reduceMul, Int.reduceNeg, Int.reduceMod, Int.reduceDiv, Int.reduceTDiv, Int.reduceTMod, Int.reduceBEq, Int.reduceBNe, Nat.reduceDiv, Nat.reducePow]
  repeat' apply And.intro
  all_goals first
    | rfl
    | skip
  refine loop_inv (envJ_ok hg1_ok 33) (sm1 s) (fun q => 64 * q ≤ s.length) (fun q => s.length - 64 * q) 0 [] (by omega) ?_ ?_
  · simp only [sm1, foldB, W8.cells, h00, go_sem, reduceCtorEq, ↓reduceIte, Nat.reduceAdd, Nat.reduceMul, Nat.reduceSub, Nat.reduceEqDiff, Nat.reduceLT, Nat.reduceBEq, Nat.reduceBNe, Nat.reduceLeDiff, Int.reduceLE, Int.reduceLT, Int.reduceToNat, Int.reduceEq, Int.reduceAdd, UInt8.reduceToNat, UInt32.reduceToNat, UInt64.reduceToNat, UInt8.reduceOfNat, UInt32.reduceOfNat, UInt64.reduceOfNat, Fin.isValue, Int.reduceSub, Int.reduceMul, Int.reduceNeg, Int.reduceMod, Int.reduceDiv, Int.reduceTDiv, Int.reduceTMod, Int.reduceBEq, Int.reduceBNe, Nat.reduceDiv, Nat.reducePow]
    all_goals first
      | trivial
      | rfl
      | trace_state
  · intro q hq
    have hd : (s.drop (64 * q)).length = s.length - 64 * q := List.length_drop
    simp only [sm1, W8.cells, envJ, hg1, blockC, initialC, paddingC, outputC, con0, W8.cv, W8.eta, go_sem, reduceCtorEq, ↓reduceIte, Nat.reduceAdd, Nat.reduceMul, Nat.reduceSub, Nat.reduceEqDiff, Nat.reduceLT, Nat.reduceBEq, Nat.reduceBNe, Nat.reduceLeDiff, Int.reduceLE, Int.reduceLT, Int.reduceToNat, Int.reduceEq, Int.reduceAdd, UInt8.reduceToNat, UInt32.reduceToNat, UInt64.reduceToNat, UInt8.reduceOfNat, UInt32.reduceOfNat, UInt64.reduceOfNat, Fin.isValue, Int.reduceSub, Int.reduceMul, Int.reduceNeg, Int.reduceMod, Int.reduceDiv, Int.reduceTDiv, Int.reduceTMod, Int.reduceBEq, Int.reduceBNe, Nat.reduceDiv, Nat.reducePow]
    refine br (fun hc => ?_) fun hc => ?_
    · have hc' := of_decide_eq_true hc
      have hdd : (s.drop (64 * q)).drop 64 = s.drop (64 * (q + 1)) := by rw [List.drop_drop, Nat.mul_add]
      have ht : ((s.drop (64 * q)).take 64).length = 64 := by rw [List.length_take]; omega
      have hta : (s.drop (64 * q)).take (s.length - 64 * q) = s.drop (64 * q) := List.take_of_length_le (by omega)
      simp only [hc, ht, hdd, envJ, hg1, blockC, con0, W8.cv, W8.eta, go_sem, reduceCtorEq, ↓reduceIte, Nat.reduceAdd, Nat.reduceMul, Nat.reduceSub, Nat.reduceEqDiff, Nat.reduceLT, Nat.reduceBEq, Nat.reduceBNe, Nat.reduceLeDiff, Int.reduceLE, Int.reduceLT, Int.reduceToNat, Int.reduceEq, Int.reduceAdd, UInt8.reduceToNat, UInt32.reduceToNat, UInt64.reduceToNat, UInt8.reduceOfNat, UInt32.reduceOfNat, UInt64.reduceOfNat, Fin.isValue, Int.reduceSub, Int.reduceMul, Int.reduceNeg, Int.reduceMod, Int.reduceDiv, Int.reduceTDiv, Int.reduceTMod, Int.reduceBEq, Int.reduceBNe, Nat.reduceDiv, Nat.reducePow]
      repeat' apply And.intro
      all_goals first
        | omega
        | rfl
        | skip
      refine again (q + 1) [] (by omega) (by omega) ?_
      simp only [sm1, foldB, W8.cells, envJ, go_sem, reduceCtorEq, ↓reduceIte, Nat.reduceAdd, Nat.reduceMul, Nat.reduceSub, Nat.reduceEqDiff, Nat.reduceLT, Nat.reduceBEq, Nat.reduceBNe, Nat.reduceLeDiff, Int.reduceLE, Int.reduceLT, Int.reduceToNat, Int.reduceEq, Int.reduceAdd, UInt8.reduceToNat, UInt32.reduceToNat, UInt64.reduceToNat, UInt8.reduceOfNat, UInt32.reduceOfNat, UInt64.reduceOfNat, Fin.isValue, Int.reduceSub, Int.reduceMul, Int.reduceNeg, Int.reduceMod, Int.reduceDiv, Int.reduceTDiv, Int.reduceTMod, Int.reduceBEq, Int.reduceBNe, Nat.reduceDiv, Nat.reducePow]
      all_goals first
        | trivial
        | rfl
        | trace_state
    · have hQ : q = s.length / 64 := by have := of_decide_eq_false hc; omega
      have hla : s.drop (64 * q) ++ padP s.length 8 = lastS s := by rw [hQ]; rfl
      have hmi : foldB init8 s q = midS s := by rw [hQ]; rfl
      obtain ⟨l1, l2⟩ := lastS_len s
      have hpl := padP_len s.length 8
      have hz : padZ s.length < 64 := Nat.mod_lt _ (by decide)
      have h01 : (lastS s).drop (64 * 0) = lastS s := rfl
      simp only [hc, hla, hmi, envJ, hg1, paddingC, con0, W8.cv, W8.eta, go_sem, reduceCtorEq, ↓reduceIte, Nat.reduceAdd, Nat.reduceMul, Nat.reduceSub, Nat.reduceEqDiff, Nat.reduceLT, Nat.reduceBEq, Nat.reduceBNe, Nat.reduceLeDiff, Int.reduceLE, Int.reduceLT, Int.reduceToNat, Int.reduceEq, Int.reduceAdd, UInt8.reduceToNat, UInt32.reduceToNat, UInt64.reduceToNat, UInt8.reduceOfNat, UInt32.reduceOfNat, UInt64.reduceOfNat, Fin.isValue, Int.reduceSub, Int.reduceMul, Int.reduceNeg, Int.reduceMod, Int.reduceDiv, Int.reduceTDiv, Int.reduceTMod, Int.reduceBEq, Int.reduceBNe, Nat.reduceDiv, Nat.reducePow]
      repeat' apply And.intro
      all_goals first
        | omega
        | rfl
        | skip
      refine loop_inv (envJ_ok hg1_ok 33) (sm2 s) (fun q => 64 * q ≤ (lastS s).length) (fun q => (lastS s).length - 64 * q) 0 [] (by omega) ?_ ?_
      · simp only [sm2, foldB, W8.cells, h01, envJ, go_sem, reduceCtorEq, ↓reduceIte, Nat.reduceAdd, Nat.reduceMul, Nat.reduceSub, Nat.reduceEqDiff, Nat.reduceLT, Nat.reduceBEq, Nat.reduceBNe, Nat.reduceLeDiff, Int.reduceLE, Int.reduceLT, Int.reduceToNat, Int.reduceEq, Int.reduceAdd, UInt8.reduceToNat, UInt32.reduceToNat, UInt64.reduceToNat, UInt8.reduceOfNat, UInt32.reduceOfNat, UInt64.reduceOfNat, Fin.isValue, Int.reduceSub, Int.reduceMul, Int.reduceNeg, Int.reduceMod, Int.reduceDiv, Int.reduceTDiv, Int.reduceTMod, Int.reduceBEq, Int.reduceBNe, Nat.reduceDiv, Nat.reducePow]
        all_goals first
          | trivial
          | rfl
          | trace_state
      · intro p hp
        have hd : ((lastS s).drop (64 * p)).length = (lastS s).length - 64 * p := List.length_drop
        simp only [sm2, W8.cells, envJ, hg1, con0, W8.cv, W8.eta, go_sem, reduceCtorEq, ↓reduceIte, Nat.reduceAdd, Nat.reduceMul, Nat.reduceSub, Nat.reduceEqDiff, Nat.reduceLT, Nat.reduceBEq, Nat.reduceBNe, Nat.reduceLeDiff, Int.reduceLE, Int.reduceLT, Int.reduceToNat, Int.reduceEq, Int.reduceAdd, UInt8.reduceToNat, UInt32.reduceToNat, UInt64.reduceToNat, UInt8.reduceOfNat, UInt32.reduceOfNat, UInt64.reduceOfNat, Fin.isValue, Int.reduceSub, Int.reduceMul, Int.reduceNeg, Int.reduceMod, Int.reduceDiv, Int.reduceTDiv, Int.reduceTMod, Int.reduceBEq, Int.reduceBNe, Nat.reduceDiv, Nat.reducePow]
        refine br (fun hc => ?_) fun hc => ?_
        · have hc' := of_decide_eq_true hc
          have hdd : ((lastS s).drop (64 * p)).drop 64 = (lastS s).drop (64 * (p + 1)) := by rw [List.drop_drop, Nat.mul_add]
          have ht : (((lastS s).drop (64 * p)).take 64).length = 64 := by rw [List.length_take]; omega
          simp only [hc, ht, hdd, envJ, hg1, blockC, con0, W8.cv, W8.eta, go_sem, reduceCtorEq, ↓reduceIte, Nat.reduceAdd, Nat.reduceMul, Nat.reduceSub, Nat.reduceEqDiff, Nat.reduceLT, Nat.reduceBEq, Nat.reduceBNe, Nat.reduceLeDiff, Int.reduceLE, Int.reduceLT, Int.reduceToNat, Int.reduceEq, Int.reduceAdd, UInt8.reduceToNat, UInt32.reduceToNat, UInt64.reduceToNat, UInt8.reduceOfNat, UInt32.reduceOfNat, UInt64.reduceOfNat, Fin.isValue, Int.reduceSub, Int.reduceMul, Int.reduceNeg, Int.reduceMod, Int.reduceDiv, Int.reduceTDiv, Int.reduceTMod, Int.reduceBEq, Int.reduceBNe, Nat.reduceDiv, Nat.reducePow]
          repeat' apply And.intro
          all_goals first
            | omega
            | rfl
            | skip
          refine again (p + 1) [] (by omega) (by omega) ?_
          simp only [sm2, foldB, W8.cells, envJ, go_sem, reduceCtorEq, ↓reduceIte, Nat.reduceAdd, Nat.reduceMul, Nat.reduceSub, Nat.reduceEqDiff, Nat.reduceLT, Nat.reduceBEq, Nat.reduceBNe, Nat.reduceLeDiff, Int.reduceLE, Int.reduceLT, Int.reduceToNat, Int.reduceEq, Int.reduceAdd, UInt8.reduceToNat, UInt32.reduceToNat, UInt64.reduceToNat, UInt8.reduceOfNat, UInt32.reduceOfNat, UInt64.reduceOfNat, Fin.isValue, Int.reduceSub, Int.reduceMul, Int.reduceNeg, Int.reduceMod, Int.reduceDiv, Int.reduceTDiv, Int.reduceTMod, Int.reduceBEq, Int.reduceBNe, Nat.reduceDiv, Nat.reducePow]
          all_goals first
            | trivial
            | rfl
            | trace_state
        · have hP : p = (lastS s).length / 64 := by have := of_decide_eq_false hc; omega
          have hou : outV (foldB (midS s) (lastS s) p) = sumL s := by rw [hP]; rfl
          simp only [hc, hou, envJ, hg1, outputC, con0, W8.cv, W8.eta, go_sem, reduceCtorEq, ↓reduceIte, Nat.reduceAdd, Nat.reduceMul, Nat.reduceSub, Nat.reduceEqDiff, Nat.reduceLT, Nat.reduceBEq, Nat.reduceBNe, Nat.reduceLeDiff, Int.reduceLE, Int.reduceLT, Int.reduceToNat, Int.reduceEq, Int.reduceAdd, UInt8.reduceToNat, UInt32.reduceToNat, UInt64.reduceToNat, UInt8.reduceOfNat, UInt32.reduceOfNat, UInt64.reduceOfNat, Fin.isValue, Int.reduceSub, Int.reduceMul, Int.reduceNeg, Int.reduceMod, Int.reduceDiv, Int.reduceTDiv, Int.reduceTMod, Int.reduceBEq, Int.reduceBNe, Nat.reduceDiv, Nat.reducePow]
          all_goals first
            | trivial
            | rfl
            | trace_state
def ssumC : Con := con0 fun args => match args with
  | [.one (.str s)] => some (.c (.one (.str (sumL s))), [s.length ≤ 1000000000])
  | _ => none
theorem ssumC_ok : ConOkG Tryd.prog [gK] 79 ssumC := con0_okG Tryd.func79 rfl rfl fun args res ob h hob => by
  split at h
  · injection h with h; injection h with h1 h2; subst h1; subst h2; exact sum_tri _ hob.1
  · cases h
end Go.Proofs.YtahiopdkekkibaaDoor.FH

/-
  Layer 2: a key, padded; the keyed digest.
-/
namespace Go.Proofs.YtahiopdkekkibaaDoor.FH
open Go Go.RowKit
set_option maxHeartbeats 4000000
set_option linter.unusedSimpArgs false
set_option linter.unusedVariables false
def keyZ (k : List UInt8) : List UInt8 := k ++ List.replicate (64 - k.length) 0
def xorM (l : List UInt8) (m : UInt8) : Nat → List UInt8
  | 0 => l
  | i + 1 => (xorM l m i).set i ((xorM l m i).getD i 0 ^^^ m)
theorem xorM_len (l : List UInt8) (m : UInt8) : ∀ i, (xorM l m i).length = l.length
  | 0 => rfl
  | i + 1 => by rw [xorM, List.length_set, xorM_len l m i]
theorem keyZ_len {k : List UInt8} (h : k.length ≤ 64) : (keyZ k).length = 64 := by
  unfold keyZ
  rw [List.length_append, List.length_replicate]; omega
def padM (k : List UInt8) (m : UInt8) : List UInt8 := xorM (keyZ k) m 64
theorem padM_len {k : List UInt8} (h : k.length ≤ 64) (m : UInt8) : (padM k m).length = 64 := by unfold padM; rw [xorM_len, keyZ_len h]
theorem u8_map (l : List UInt8) : l.flatMap u8L.enc = l.map AV.u8 := by
  show l.flatMap (fun x : UInt8 => [AV.u8 x]) = _
  induction l with
  | nil => rfl
  | cons x l ih => rw [List.flatMap_cons, ih]; rfl
theorem keyZ_flat (k : List UInt8) : (keyZ k).flatMap u8L.enc = k.map AV.u8 ++ List.replicate (64 - k.length) (AV.u8 0) := by
  rw [u8_map, keyZ, List.map_append, List.map_replicate]
def pmI (k : List UInt8) (m : UInt8) (i : Nat) : St := ⟨[(1, .c (.one (.u8 m))), (5, .c (.one (.sl 500 0 1 64))), (12, .c (.one (.num 64))), (13, .c (.one (.num i)))], [(500, ⟨.arr UInt8 u8L (xorM (keyZ k) m i), true⟩)]⟩
set_option maxRecDepth 100000 in
theorem mpad_tri (k : List UInt8) (m : UInt8) (hk : k.length ≤ 64) : Tri Tryd.prog 80 [.one (.str k), .one (.u8 m)] [] (.c (.one (.str (padM k m)))) [] := by
  have hmin : min 64 k.length = k.length := by omega
  have hmin' : min k.length 64 = k.length := by omega
  have htk : k.take k.length = k := List.take_length
  have hdr : (List.replicate 64 (AV.u8 0)).drop k.length = List.replicate (64 - k.length) (AV.u8 0) := List.drop_replicate
  refine tri_of (envOf_ok ga0_ok 26) Tryd.func80 rfl rfl (rs := [.tmp 4]) rfl rfl (by simp [envOf]) rfl [] ?_
  have htf : (k.flatMap u8L.enc).take k.length = k.map AV.u8 := by rw [u8_map]; exact List.take_of_length_le (by rw [List.length_map]; exact Nat.le_refl _)
  simp only [envOf, ga0, hmin, hmin', htk, hdr, htf, List.length_replicate, go_sem, reduceCtorEq, ↓reduceIte, Nat.reduceAdd, Nat.reduceMul, Nat.reduceSub, Nat.reduceEqDiff, Nat.reduceLT, Nat.reduceBEq, Nat.reduceBNe, Nat.reduceLeDiff, Int.reduceLE, Int.reduceLT, Int.reduceToNat, Int.reduceEq, Int.reduceAdd, UInt8.reduceToNat, UInt32.reduceToNat, UInt64.reduceToNat, UInt8.reduceOfNat, UInt32.reduceOfNat, UInt64.reduceOfNat, Fin.isValue, Int.reduceSub, Int.reduceMul, Int.reduceNeg, Int.reduceMod, Int.reduceDiv, Int.reduceTDiv, Int.reduceTMod, Int.reduceBEq, Int.reduceBNe, Nat.reduceDiv, Nat.reducePow]
  refine loop_inv (envOf_ok ga0_ok 26) (pmI k m) (fun i => i ≤ 64) (fun i => 64 - i) 0 [(500, 20000)] (by omega) ?_ ?_
  · simp only [pmI, xorM, keyZ_flat, go_sem, reduceCtorEq, ↓reduceIte, Nat.reduceAdd, Nat.reduceMul, Nat.reduceSub, Nat.reduceEqDiff, Nat.reduceLT, Nat.reduceBEq, Nat.reduceBNe, Nat.reduceLeDiff, Int.reduceLE, Int.reduceLT, Int.reduceToNat, Int.reduceEq, Int.reduceAdd, UInt8.reduceToNat, UInt32.reduceToNat, UInt64.reduceToNat, UInt8.reduceOfNat, UInt32.reduceOfNat, UInt64.reduceOfNat, Fin.isValue, Int.reduceSub, Int.reduceMul, Int.reduceNeg, Int.reduceMod, Int.reduceDiv, Int.reduceTDiv, Int.reduceTMod, Int.reduceBEq, Int.reduceBNe, Nat.reduceDiv, Nat.reducePow]
    all_goals first
      | trivial
      | trace_state
  · intro i hi
    have hl := xorM_len (keyZ k) m i
    rw [keyZ_len hk] at hl
    simp only [pmI, envOf, ga0, go_sem, reduceCtorEq, ↓reduceIte, Nat.reduceAdd, Nat.reduceMul, Nat.reduceSub, Nat.reduceEqDiff, Nat.reduceLT, Nat.reduceBEq, Nat.reduceBNe, Nat.reduceLeDiff, Int.reduceLE, Int.reduceLT, Int.reduceToNat, Int.reduceEq, Int.reduceAdd, UInt8.reduceToNat, UInt32.reduceToNat, UInt64.reduceToNat, UInt8.reduceOfNat, UInt32.reduceOfNat, UInt64.reduceOfNat, Fin.isValue, Int.reduceSub, Int.reduceMul, Int.reduceNeg, Int.reduceMod, Int.reduceDiv, Int.reduceTDiv, Int.reduceTMod, Int.reduceBEq, Int.reduceBNe, Nat.reduceDiv, Nat.reducePow]
    refine br (fun hc => ?_) fun hc => ?_
    · have hc' := of_decide_eq_true hc
      have w4 : IntKind.i64.wrap ((i : Int) + 1) = ((i + 1 : Nat) : Int) := by rw [IntKind.wrap_i64]; omega
      simp only [hc, w4, envOf, ga0, go_sem, reduceCtorEq, ↓reduceIte, Nat.reduceAdd, Nat.reduceMul, Nat.reduceSub, Nat.reduceEqDiff, Nat.reduceLT, Nat.reduceBEq, Nat.reduceBNe, Nat.reduceLeDiff, Int.reduceLE, Int.reduceLT, Int.reduceToNat, Int.reduceEq, Int.reduceAdd, UInt8.reduceToNat, UInt32.reduceToNat, UInt64.reduceToNat, UInt8.reduceOfNat, UInt32.reduceOfNat, UInt64.reduceOfNat, Fin.isValue, Int.reduceSub, Int.reduceMul, Int.reduceNeg, Int.reduceMod, Int.reduceDiv, Int.reduceTDiv, Int.reduceTMod, Int.reduceBEq, Int.reduceBNe, Nat.reduceDiv, Nat.reducePow]
      repeat' apply And.intro
      all_goals first
        | omega
        | rfl
        | skip
      refine again (i + 1) [] (by omega) (by omega) ?_
      simp only [pmI, xorM, go_sem, reduceCtorEq, ↓reduceIte, Nat.reduceAdd, Nat.reduceMul, Nat.reduceSub, Nat.reduceEqDiff, Nat.reduceLT, Nat.reduceBEq, Nat.reduceBNe, Nat.reduceLeDiff, Int.reduceLE, Int.reduceLT, Int.reduceToNat, Int.reduceEq, Int.reduceAdd, UInt8.reduceToNat, UInt32.reduceToNat, UInt64.reduceToNat, UInt8.reduceOfNat, UInt32.reduceOfNat, UInt64.reduceOfNat, Fin.isValue, Int.reduceSub, Int.reduceMul, Int.reduceNeg, Int.reduceMod, Int.reduceDiv, Int.reduceTDiv, Int.reduceTMod, Int.reduceBEq, Int.reduceBNe, Nat.reduceDiv, Nat.reducePow]
      all_goals first
        | trivial
        | trace_state
    · obtain rfl : i = 64 := by have := of_decide_eq_false hc; omega
      have ht : (xorM (keyZ k) m 64).take 64 = padM k m := List.take_of_length_le (by omega)
      simp only [hc, hl, ht, envOf, ga0, go_sem, reduceCtorEq, ↓reduceIte, Nat.reduceAdd, Nat.reduceMul, Nat.reduceSub, Nat.reduceEqDiff, Nat.reduceLT, Nat.reduceBEq, Nat.reduceBNe, Nat.reduceLeDiff, Int.reduceLE, Int.reduceLT, Int.reduceToNat, Int.reduceEq, Int.reduceAdd, UInt8.reduceToNat, UInt32.reduceToNat, UInt64.reduceToNat, UInt8.reduceOfNat, UInt32.reduceOfNat, UInt64.reduceOfNat, Fin.isValue, Int.reduceSub, Int.reduceMul, Int.reduceNeg, Int.reduceMod, Int.reduceDiv, Int.reduceTDiv, Int.reduceTMod, Int.reduceBEq, Int.reduceBNe, Nat.reduceDiv, Nat.reducePow]
      all_goals first
        | trivial
        | omega
        | trace_state
def mpadC : Con := con0 fun args => match args with
  | [.one (.str k), .one (.u8 m)] => some (.c (.one (.str (padM k m))), [k.length ≤ 64])
  | _ => none
theorem mpadC_ok : ConOk Tryd.prog 80 mpadC := con0_ok Tryd.func80 rfl rfl fun args res ob h hob => by
  split at h
  · injection h with h; injection h with h1 h2; subst h1; subst h2; exact mpad_tri _ _ hob.1
  · cases h
end Go.Proofs.YtahiopdkekkibaaDoor.FH

/-
  Layer 2: the keyed digest, walked, and the document's.
-/
namespace Go.Proofs.YtahiopdkekkibaaDoor.FH
open Go Go.RowKit
set_option maxHeartbeats 4000000
set_option linter.unusedSimpArgs false
set_option linter.unusedVariables false
set_option linter.unusedSectionVars false
theorem sumL_len (s : List UInt8) : (sumL s).length = 32 := rfl
def keyM (k : List UInt8) : List UInt8 := if 64 < k.length then sumL k else k
theorem keyM_len (k : List UInt8) : (keyM k).length ≤ 64 := by
  unfold keyM
  split
  · rw [sumL_len]; decide
  · omega
def sumM (k s : List UInt8) : List UInt8 := sumL (padM (keyM k) 92 ++ sumL (padM (keyM k) 54 ++ s))
theorem sumM_len (k s : List UInt8) : (sumM k s).length = 32 := rfl
def ho1 : Nat → Option Con := fun f => match f with
  | 80 => some mpadC
  | 79 => some ssumC
  | _ => none
theorem ho1_ok : GaOkG Tryd.prog GS ho1 := fun f con h => by
  unfold ho1 at h
  split at h
  · injection h with h; subst h; exact ConOk.up mpadC_ok
  · injection h with h; subst h; exact ssumC_ok
  · cases h
set_option maxRecDepth 100000 in
theorem macSum_tri (k s : List UInt8) (hk : k.length ≤ 10000) (hs : s.length ≤ 10000) : TriG Tryd.prog GS 53 [.one (.str k), .one (.str s)] [] (.c (.one (.str (sumM k s)))) [] := by
  have hkl := keyM_len k
  have l1 := padM_len hkl 54
  have l2 := padM_len hkl 92
  have e0 : sumL (padM (keyM k) 92 ++ sumL (padM (keyM k) 54 ++ s)) = sumM k s := rfl
  refine tri_ofx (envSK_ok ho1_ok 21 []) Tryd.func53 rfl rfl (rs := [.tmp 4]) rfl rfl (by simp [envSK]) rfl ?_
  cases hc : decide ((64 : Int) < (k.length : Int)) with
  | true =>
    have hkm : sumL k = keyM k := by unfold keyM; rw [if_pos (by have := of_decide_eq_true hc; omega)]
    simp only [hc, hkm, e0, l1, l2, sumL_len, ssumC, mpadC, envSK, con0, conS, strsOf_arr, rowS_arr, strsOf_cells, rowS_cells, toS, strL_st, strL_d, strL_enc, strL_up, hpN_nil, hpN_cons, ho1, retQx, go_sem, reduceCtorEq, ↓reduceIte, Nat.reduceAdd, Nat.reduceMul, Nat.reduceSub, Nat.reduceEqDiff, Nat.reduceLT, Nat.reduceBEq, Nat.reduceBNe, Nat.reduceLeDiff, Int.reduceLE, Int.reduceLT, Int.reduceToNat, Int.reduceEq, Int.reduceAdd, UInt8.reduceToNat, UInt32.reduceToNat, UInt64.reduceToNat, UInt8.reduceOfNat, UInt32.reduceOfNat, UInt64.reduceOfNat, Fin.isValue, Int.reduceSub, Int.reduceMul, Int.reduceNeg, Int.reduceMod, Int.reduceDiv, Int.reduceTDiv, Int.reduceTMod, Int.reduceBEq, Int.reduceBNe, Nat.reduceDiv, Nat.reducePow]
    repeat' apply And.intro
    all_goals first
      | omega
      | (simp only [List.length_append, l1, l2, sumL_len]; omega)
      | rfl
      | skip
    refine endX [] ?_
    simp only [envSK, con0, conS, strsOf_arr, rowS_arr, strsOf_cells, rowS_cells, toS, strL_st, strL_d, strL_enc, strL_up, hpN_nil, hpN_cons, ho1, retQx, go_sem, reduceCtorEq, ↓reduceIte, Nat.reduceAdd, Nat.reduceMul, Nat.reduceSub, Nat.reduceEqDiff, Nat.reduceLT, Nat.reduceBEq, Nat.reduceBNe, Nat.reduceLeDiff, Int.reduceLE, Int.reduceLT, Int.reduceToNat, Int.reduceEq, Int.reduceAdd, UInt8.reduceToNat, UInt32.reduceToNat, UInt64.reduceToNat, UInt8.reduceOfNat, UInt32.reduceOfNat, UInt64.reduceOfNat, Fin.isValue, Int.reduceSub, Int.reduceMul, Int.reduceNeg, Int.reduceMod, Int.reduceDiv, Int.reduceTDiv, Int.reduceTMod, Int.reduceBEq, Int.reduceBNe, Nat.reduceDiv, Nat.reducePow]
    all_goals first
      | trivial
      | trace_state
  | false =>
    have hkm : keyM k = k := by unfold keyM; rw [if_neg (by have := of_decide_eq_false hc; omega)]
    rw [hkm] at hkl l1 l2 e0
    simp only [hc, e0, l1, l2, sumL_len, ssumC, mpadC, envSK, con0, conS, strsOf_arr, rowS_arr, strsOf_cells, rowS_cells, toS, strL_st, strL_d, strL_enc, strL_up, hpN_nil, hpN_cons, ho1, retQx, go_sem, reduceCtorEq, ↓reduceIte, Nat.reduceAdd, Nat.reduceMul, Nat.reduceSub, Nat.reduceEqDiff, Nat.reduceLT, Nat.reduceBEq, Nat.reduceBNe, Nat.reduceLeDiff, Int.reduceLE, Int.reduceLT, Int.reduceToNat, Int.reduceEq, Int.reduceAdd, UInt8.reduceToNat, UInt32.reduceToNat, UInt64.reduceToNat, UInt8.reduceOfNat, UInt32.reduceOfNat, UInt64.reduceOfNat, Fin.isValue, Int.reduceSub, Int.reduceMul, Int.reduceNeg, Int.reduceMod, Int.reduceDiv, Int.reduceTDiv, Int.reduceTMod, Int.reduceBEq, Int.reduceBNe, Nat.reduceDiv, Nat.reducePow]
    repeat' apply And.intro
    all_goals first
      | omega
      | (simp only [List.length_append, l1, l2, sumL_len]; omega)
      | rfl
      | skip
    refine endX [] ?_
    simp only [envSK, con0, conS, strsOf_arr, rowS_arr, strsOf_cells, rowS_cells, toS, strL_st, strL_d, strL_enc, strL_up, hpN_nil, hpN_cons, ho1, retQx, go_sem, reduceCtorEq, ↓reduceIte, Nat.reduceAdd, Nat.reduceMul, Nat.reduceSub, Nat.reduceEqDiff, Nat.reduceLT, Nat.reduceBEq, Nat.reduceBNe, Nat.reduceLeDiff, Int.reduceLE, Int.reduceLT, Int.reduceToNat, Int.reduceEq, Int.reduceAdd, UInt8.reduceToNat, UInt32.reduceToNat, UInt64.reduceToNat, UInt8.reduceOfNat, UInt32.reduceOfNat, UInt64.reduceOfNat, Fin.isValue, Int.reduceSub, Int.reduceMul, Int.reduceNeg, Int.reduceMod, Int.reduceDiv, Int.reduceTDiv, Int.reduceTMod, Int.reduceBEq, Int.reduceBNe, Nat.reduceDiv, Nat.reducePow]
    all_goals first
      | trivial
      | trace_state
def macSumC : Con := con0 fun args => match args with
  | [.one (.str k), .one (.str s)] => some (.c (.one (.str (sumM k s))), [k.length ≤ 10000, s.length ≤ 10000])
  | _ => none
theorem macSumC_ok : ConOkG Tryd.prog GS 53 macSumC := con0_okG Tryd.func53 rfl rfl fun args res ob h hob => by
  split at h
  · injection h with h; injection h with h1 h2; subst h1; subst h2; exact macSum_tri _ _ hob.1 hob.2.1
  · cases h
-- THE DOCUMENT'S
end Go.Proofs.YtahiopdkekkibaaDoor.FH

/-
  Layer 2: bytes drawn out of a secret.
-/
namespace Go.Proofs.YtahiopdkekkibaaDoor.FH
open Go Go.RowKit
set_option maxHeartbeats 4000000
set_option linter.unusedSimpArgs false
set_option linter.unusedVariables false
set_option linter.unusedSectionVars false
def bD (key info : List UInt8) : Nat → List UInt8
  | 0 => []
  | n + 1 => sumM key (bD key info n ++ info ++ [by8 ((n + 1 : Nat) : Int)])
def outD (key info : List UInt8) : Nat → List UInt8
  | 0 => []
  | n + 1 => outD key info n ++ bD key info (n + 1)
theorem bD_len (key info : List UInt8) (n : Nat) : (bD key info (n + 1)).length = 32 := rfl
theorem outD_len (key info : List UInt8) : ∀ n, (outD key info n).length = 32 * n
  | 0 => rfl
  | n + 1 => by rw [outD, List.length_append, outD_len key info n, bD_len]; omega
theorem bD_bd (key info : List UInt8) (n : Nat) : (bD key info n).length ≤ 32 := by
  cases n with
  | zero => exact Nat.zero_le _
  | succ n => rw [bD_len]; decide
def drawD (secret salt info : List UInt8) (z : Nat) : List UInt8 := (outD (sumM salt secret) info ((z + 31) / 32)).take z
def hq1 : Nat → Option Con := fun f => match f with
  | 53 => some macSumC
  | _ => none
theorem hq1_ok : GaOkG Tryd.prog GS hq1 := fun f con h => by
  unfold hq1 at h
  split at h
  · injection h with h; subst h; exact macSumC_ok
  · cases h
def dwI (key info : List UInt8) (z : Int) : Nat → St
  | 0 => ⟨[(2, .c (.one (.str info))), (3, .c (.one (.num z))), (10, .c (.one (.str key))), (11, .c (.one (.val (.slice none 0 0)))), (12, .c (.one (.str []))), (13, .c (.one (.num 1)))], []⟩
  | n + 1 => ⟨[(2, .c (.one (.str info))), (3, .c (.one (.num z))), (10, .c (.one (.str key))), (11, .c (.one (.sl 500 0 1 (32 * (n + 1))))), (12, .c (.one (.str (bD key info (n + 1))))), (13, .c (.one (.num ((n + 1 + 1 : Nat) : Int))))], [(500, ⟨.arr UInt8 u8L (outD key info (n + 1)), true⟩)]⟩
set_option maxRecDepth 100000 in
theorem draw_tri (secret salt info : List UInt8) (z : Nat) (h1 : secret.length ≤ 1000) (h2 : salt.length ≤ 1000) (h3 : info.length ≤ 1000) (hz : z ≤ 8160) : TriG Tryd.prog GS 41 [.one (.str secret), .one (.str salt), .one (.str info), .one (.num (z : Nat))] [] (.tup [.one (.str (drawD secret salt info z)), .one (.num 0)]) [] := by
  have d1 : decide ((z : Int) < 0) = false := decide_eq_false (by omega)
  have d2 : decide ((8160 : Int) < (z : Int)) = false := decide_eq_false (by omega)
  have kl := sumM_len salt secret
  have hv : drawD secret salt info z = (outD (sumM salt secret) info ((z + 31) / 32)).take z := rfl
  refine tri_ofx (envSK_ok hq1_ok 46 []) Tryd.func41 rfl rfl (rs := [.tmp 8, .tmp 9]) rfl rfl (by simp [envSK]) rfl ?_
  generalize hkey : sumM salt secret = key at *
  simp only [d1, d2, hkey, envSK, con0, conS, strsOf_arr, rowS_arr, strsOf_cells, rowS_cells, toS, strL_st, strL_d, strL_enc, strL_up, hpN_nil, hpN_cons, hq1, macSumC, retQx, go_sem, reduceCtorEq, ↓reduceIte, Nat.reduceAdd, Nat.reduceMul, Nat.reduceSub, Nat.reduceEqDiff, Nat.reduceLT, Nat.reduceBEq, Nat.reduceBNe, Nat.reduceLeDiff, Int.reduceLE, Int.reduceLT, Int.reduceToNat, Int.reduceEq, Int.reduceAdd, UInt8.reduceToNat, UInt32.reduceToNat, UInt64.reduceToNat, UInt8.reduceOfNat, UInt32.reduceOfNat, UInt64.reduceOfNat, Fin.isValue, Int.reduceSub, Int.reduceMul, Int.reduceNeg, Int.reduceMod, Int.reduceDiv, Int.reduceTDiv, Int.reduceTMod, Int.reduceBEq, Int.reduceBNe, Nat.reduceDiv, Nat.reducePow]
  repeat' apply And.intro
  all_goals first
    | omega
    | (show ckDraw _; rfl)
    | skip
  refine loop_inv (envSK_ok hq1_ok 46 []) (dwI key info (z : Nat)) (fun n => n ≤ (z + 31) / 32) (fun n => (z + 31) / 32 - n) 0 [] (by omega) ?_ ?_
  · simp only [dwI, envSK, con0, conS, strsOf_arr, rowS_arr, strsOf_cells, rowS_cells, toS, strL_st, strL_d, strL_enc, strL_up, hpN_nil, hpN_cons, hq1, macSumC, go_sem, reduceCtorEq, ↓reduceIte, Nat.reduceAdd, Nat.reduceMul, Nat.reduceSub, Nat.reduceEqDiff, Nat.reduceLT, Nat.reduceBEq, Nat.reduceBNe, Nat.reduceLeDiff, Int.reduceLE, Int.reduceLT, Int.reduceToNat, Int.reduceEq, Int.reduceAdd, UInt8.reduceToNat, UInt32.reduceToNat, UInt64.reduceToNat, UInt8.reduceOfNat, UInt32.reduceOfNat, UInt64.reduceOfNat, Fin.isValue, Int.reduceSub, Int.reduceMul, Int.reduceNeg, Int.reduceMod, Int.reduceDiv, Int.reduceTDiv, Int.reduceTMod, Int.reduceBEq, Int.reduceBNe, Nat.reduceDiv, Nat.reducePow]
    all_goals first
      | trivial
      | trace_state
  · intro n hn
    have hb := bD_bd key info n
    have hol := outD_len key info n
    rcases n with _ | n
    · have e1 : sumM key (info ++ [by8 1]) = bD key info 1 := rfl
      have e2 : bD key info 1 = outD key info 1 := rfl
      have bl := bD_len key info 0
      simp only [dwI, envSK, con0, conS, strsOf_arr, rowS_arr, strsOf_cells, rowS_cells, toS, strL_st, strL_d, strL_enc, strL_up, hpN_nil, hpN_cons, hq1, macSumC, retQx, go_sem, reduceCtorEq, ↓reduceIte, Nat.reduceAdd, Nat.reduceMul, Nat.reduceSub, Nat.reduceEqDiff, Nat.reduceLT, Nat.reduceBEq, Nat.reduceBNe, Nat.reduceLeDiff, Int.reduceLE, Int.reduceLT, Int.reduceToNat, Int.reduceEq, Int.reduceAdd, UInt8.reduceToNat, UInt32.reduceToNat, UInt64.reduceToNat, UInt8.reduceOfNat, UInt32.reduceOfNat, UInt64.reduceOfNat, Fin.isValue, Int.reduceSub, Int.reduceMul, Int.reduceNeg, Int.reduceMod, Int.reduceDiv, Int.reduceTDiv, Int.reduceTMod, Int.reduceBEq, Int.reduceBNe, Nat.reduceDiv, Nat.reducePow]
      refine br (fun hg => ?_) fun hg => ?_
      · have hg' := of_decide_eq_true hg
        simp only [hg, e1, bl, envSK, con0, conS, strsOf_arr, rowS_arr, strsOf_cells, rowS_cells, toS, strL_st, strL_d, strL_enc, strL_up, hpN_nil, hpN_cons, hq1, macSumC, retQx, go_sem, reduceCtorEq, ↓reduceIte, Nat.reduceAdd, Nat.reduceMul, Nat.reduceSub, Nat.reduceEqDiff, Nat.reduceLT, Nat.reduceBEq, Nat.reduceBNe, Nat.reduceLeDiff, Int.reduceLE, Int.reduceLT, Int.reduceToNat, Int.reduceEq, Int.reduceAdd, UInt8.reduceToNat, UInt32.reduceToNat, UInt64.reduceToNat, UInt8.reduceOfNat, UInt32.reduceOfNat, UInt64.reduceOfNat, Fin.isValue, Int.reduceSub, Int.reduceMul, Int.reduceNeg, Int.reduceMod, Int.reduceDiv, Int.reduceTDiv, Int.reduceTMod, Int.reduceBEq, Int.reduceBNe, Nat.reduceDiv, Nat.reducePow]
        repeat' apply And.intro
        all_goals first
          | omega
          | (simp only [List.length_append, List.length_singleton]; omega)
          | (show ckDraw _; rfl)
          | skip
        refine again (0 + 1) [(500, 110016)] (by omega) (by omega) ?_
        simp only [dwI, e2, envSK, con0, conS, strsOf_arr, rowS_arr, strsOf_cells, rowS_cells, toS, strL_st, strL_d, strL_enc, strL_up, hpN_nil, hpN_cons, hq1, macSumC, go_sem, reduceCtorEq, ↓reduceIte, Nat.reduceAdd, Nat.reduceMul, Nat.reduceSub, Nat.reduceEqDiff, Nat.reduceLT, Nat.reduceBEq, Nat.reduceBNe, Nat.reduceLeDiff, Int.reduceLE, Int.reduceLT, Int.reduceToNat, Int.reduceEq, Int.reduceAdd, UInt8.reduceToNat, UInt32.reduceToNat, UInt64.reduceToNat, UInt8.reduceOfNat, UInt32.reduceOfNat, UInt64.reduceOfNat, Fin.isValue, Int.reduceSub, Int.reduceMul, Int.reduceNeg, Int.reduceMod, Int.reduceDiv, Int.reduceTDiv, Int.reduceTMod, Int.reduceBEq, Int.reduceBNe, Nat.reduceDiv, Nat.reducePow]
        all_goals first
          | trivial
          | trace_state
      · obtain rfl : z = 0 := by have := of_decide_eq_false hg; omega
        have hv0 : drawD secret salt info 0 = [] := List.take_zero
        simp only [hg, hv0, envSK, con0, conS, strsOf_arr, rowS_arr, strsOf_cells, rowS_cells, toS, strL_st, strL_d, strL_enc, strL_up, hpN_nil, hpN_cons, hq1, macSumC, retQx, go_sem, reduceCtorEq, ↓reduceIte, Nat.reduceAdd, Nat.reduceMul, Nat.reduceSub, Nat.reduceEqDiff, Nat.reduceLT, Nat.reduceBEq, Nat.reduceBNe, Nat.reduceLeDiff, Int.reduceLE, Int.reduceLT, Int.reduceToNat, Int.reduceEq, Int.reduceAdd, UInt8.reduceToNat, UInt32.reduceToNat, UInt64.reduceToNat, UInt8.reduceOfNat, UInt32.reduceOfNat, UInt64.reduceOfNat, Fin.isValue, Int.reduceSub, Int.reduceMul, Int.reduceNeg, Int.reduceMod, Int.reduceDiv, Int.reduceTDiv, Int.reduceTMod, Int.reduceBEq, Int.reduceBNe, Nat.reduceDiv, Nat.reducePow]
        repeat' apply And.intro
        all_goals first
          | omega
          | skip
        refine endX [] ?_
        simp only [envSK, con0, conS, strsOf_arr, rowS_arr, strsOf_cells, rowS_cells, toS, strL_st, strL_d, strL_enc, strL_up, hpN_nil, hpN_cons, hq1, macSumC, retQx, go_sem, reduceCtorEq, ↓reduceIte, Nat.reduceAdd, Nat.reduceMul, Nat.reduceSub, Nat.reduceEqDiff, Nat.reduceLT, Nat.reduceBEq, Nat.reduceBNe, Nat.reduceLeDiff, Int.reduceLE, Int.reduceLT, Int.reduceToNat, Int.reduceEq, Int.reduceAdd, UInt8.reduceToNat, UInt32.reduceToNat, UInt64.reduceToNat, UInt8.reduceOfNat, UInt32.reduceOfNat, UInt64.reduceOfNat, Fin.isValue, Int.reduceSub, Int.reduceMul, Int.reduceNeg, Int.reduceMod, Int.reduceDiv, Int.reduceTDiv, Int.reduceTMod, Int.reduceBEq, Int.reduceBNe, Nat.reduceDiv, Nat.reducePow]
        all_goals first
          | trivial
          | trace_state
    · have bl := bD_len key info n
      have bl1 := bD_len key info (n + 1)
      have e1 : sumM key (bD key info (n + 1) ++ info ++ [by8 ((n + 1 + 1 : Nat) : Int)]) = bD key info (n + 1 + 1) := rfl
      have e2 : outD key info (n + 1) ++ bD key info (n + 1 + 1) = outD key info (n + 1 + 1) := rfl
      have w1 : IntKind.i64.wrap (((n + 1 + 1 : Nat) : Int) + 1) = ((n + 1 + 1 + 1 : Nat) : Int) := by rw [IntKind.wrap_i64]; omega
      have h32 : 32 * (n + 1) + 32 = 32 * (n + 1 + 1) := by omega
      simp only [dwI, envSK, con0, conS, strsOf_arr, rowS_arr, strsOf_cells, rowS_cells, toS, strL_st, strL_d, strL_enc, strL_up, hpN_nil, hpN_cons, hq1, macSumC, retQx, go_sem, reduceCtorEq, ↓reduceIte, Nat.reduceAdd, Nat.reduceMul, Nat.reduceSub, Nat.reduceEqDiff, Nat.reduceLT, Nat.reduceBEq, Nat.reduceBNe, Nat.reduceLeDiff, Int.reduceLE, Int.reduceLT, Int.reduceToNat, Int.reduceEq, Int.reduceAdd, UInt8.reduceToNat, UInt32.reduceToNat, UInt64.reduceToNat, UInt8.reduceOfNat, UInt32.reduceOfNat, UInt64.reduceOfNat, Fin.isValue, Int.reduceSub, Int.reduceMul, Int.reduceNeg, Int.reduceMod, Int.reduceDiv, Int.reduceTDiv, Int.reduceTMod, Int.reduceBEq, Int.reduceBNe, Nat.reduceDiv, Nat.reducePow]
      refine br (fun hg => ?_) fun hg => ?_
      · have hg' := of_decide_eq_true hg
        simp only [hg, e1, w1, bl1, hol, envSK, con0, conS, strsOf_arr, rowS_arr, strsOf_cells, rowS_cells, toS, strL_st, strL_d, strL_enc, strL_up, hpN_nil, hpN_cons, hq1, macSumC, retQx, go_sem, reduceCtorEq, ↓reduceIte, Nat.reduceAdd, Nat.reduceMul, Nat.reduceSub, Nat.reduceEqDiff, Nat.reduceLT, Nat.reduceBEq, Nat.reduceBNe, Nat.reduceLeDiff, Int.reduceLE, Int.reduceLT, Int.reduceToNat, Int.reduceEq, Int.reduceAdd, UInt8.reduceToNat, UInt32.reduceToNat, UInt64.reduceToNat, UInt8.reduceOfNat, UInt32.reduceOfNat, UInt64.reduceOfNat, Fin.isValue, Int.reduceSub, Int.reduceMul, Int.reduceNeg, Int.reduceMod, Int.reduceDiv, Int.reduceTDiv, Int.reduceTMod, Int.reduceBEq, Int.reduceBNe, Nat.reduceDiv, Nat.reducePow]
        repeat' apply And.intro
        all_goals first
          | omega
          | (simp only [List.length_append, List.length_singleton, bl]; omega)
          | (show ckDraw _; rfl)
          | skip
        refine again (n + 1 + 1) [(500, 110016)] (by omega) (by omega) ?_
        simp only [dwI, e2, h32, envSK, con0, conS, strsOf_arr, rowS_arr, strsOf_cells, rowS_cells, toS, strL_st, strL_d, strL_enc, strL_up, hpN_nil, hpN_cons, hq1, macSumC, go_sem, reduceCtorEq, ↓reduceIte, Nat.reduceAdd, Nat.reduceMul, Nat.reduceSub, Nat.reduceEqDiff, Nat.reduceLT, Nat.reduceBEq, Nat.reduceBNe, Nat.reduceLeDiff, Int.reduceLE, Int.reduceLT, Int.reduceToNat, Int.reduceEq, Int.reduceAdd, UInt8.reduceToNat, UInt32.reduceToNat, UInt64.reduceToNat, UInt8.reduceOfNat, UInt32.reduceOfNat, UInt64.reduceOfNat, Fin.isValue, Int.reduceSub, Int.reduceMul, Int.reduceNeg, Int.reduceMod, Int.reduceDiv, Int.reduceTDiv, Int.reduceTMod, Int.reduceBEq, Int.reduceBNe, Nat.reduceDiv, Nat.reducePow]
        all_goals first
          | trivial
          | trace_state
      · have hN : n + 1 = (z + 31) / 32 := by have := of_decide_eq_false hg; omega
        rw [← hN] at hv
        simp only [hg, hv, hol, Nat.sub_zero, envSK, con0, conS, strsOf_arr, rowS_arr, strsOf_cells, rowS_cells, toS, strL_st, strL_d, strL_enc, strL_up, hpN_nil, hpN_cons, hq1, macSumC, retQx, go_sem, reduceCtorEq, ↓reduceIte, Nat.reduceAdd, Nat.reduceMul, Nat.reduceSub, Nat.reduceEqDiff, Nat.reduceLT, Nat.reduceBEq, Nat.reduceBNe, Nat.reduceLeDiff, Int.reduceLE, Int.reduceLT, Int.reduceToNat, Int.reduceEq, Int.reduceAdd, UInt8.reduceToNat, UInt32.reduceToNat, UInt64.reduceToNat, UInt8.reduceOfNat, UInt32.reduceOfNat, UInt64.reduceOfNat, Fin.isValue, Int.reduceSub, Int.reduceMul, Int.reduceNeg, Int.reduceMod, Int.reduceDiv, Int.reduceTDiv, Int.reduceTMod, Int.reduceBEq, Int.reduceBNe, Nat.reduceDiv, Nat.reducePow]
        repeat' apply And.intro
        all_goals first
          | omega
          | skip
        refine endX [] ?_
        simp only [hv, envSK, con0, conS, strsOf_arr, rowS_arr, strsOf_cells, rowS_cells, toS, strL_st, strL_d, strL_enc, strL_up, hpN_nil, hpN_cons, hq1, macSumC, retQx, go_sem, reduceCtorEq, ↓reduceIte, Nat.reduceAdd, Nat.reduceMul, Nat.reduceSub, Nat.reduceEqDiff, Nat.reduceLT, Nat.reduceBEq, Nat.reduceBNe, Nat.reduceLeDiff, Int.reduceLE, Int.reduceLT, Int.reduceToNat, Int.reduceEq, Int.reduceAdd, UInt8.reduceToNat, UInt32.reduceToNat, UInt64.reduceToNat, UInt8.reduceOfNat, UInt32.reduceOfNat, UInt64.reduceOfNat, Fin.isValue, Int.reduceSub, Int.reduceMul, Int.reduceNeg, Int.reduceMod, Int.reduceDiv, Int.reduceTDiv, Int.reduceTMod, Int.reduceBEq, Int.reduceBNe, Nat.reduceDiv, Nat.reducePow]
        all_goals first
          | trivial
          | trace_state
set_option maxRecDepth 100000 in
theorem drawBad_tri (secret salt info : List UInt8) (z : Int) (hz : z < 0 ∨ 8160 < z) : TriG Tryd.prog GS 41 [.one (.str secret), .one (.str salt), .one (.str info), .one (.num z)] [] (.tup [.one (.str []), .one (.num 1)]) [] := by
  refine tri_ofx (envSK_ok hq1_ok 46 []) Tryd.func41 rfl rfl (rs := [.tmp 8, .tmp 9]) rfl rfl (by simp [envSK]) rfl ?_
  cases d1 : decide (z < 0) with
  | true =>
    simp only [d1, envSK, con0, conS, strsOf_arr, rowS_arr, strsOf_cells, rowS_cells, toS, strL_st, strL_d, strL_enc, strL_up, hpN_nil, hpN_cons, hq1, macSumC, retQx, go_sem, reduceCtorEq, ↓reduceIte, Nat.reduceAdd, Nat.reduceMul, Nat.reduceSub, Nat.reduceEqDiff, Nat.reduceLT, Nat.reduceBEq, Nat.reduceBNe, Nat.reduceLeDiff, Int.reduceLE, Int.reduceLT, Int.reduceToNat, Int.reduceEq, Int.reduceAdd, UInt8.reduceToNat, UInt32.reduceToNat, UInt64.reduceToNat, UInt8.reduceOfNat, UInt32.reduceOfNat, UInt64.reduceOfNat, Fin.isValue, Int.reduceSub, Int.reduceMul, Int.reduceNeg, Int.reduceMod, Int.reduceDiv, Int.reduceTDiv, Int.reduceTMod, Int.reduceBEq, Int.reduceBNe, Nat.reduceDiv, Nat.reducePow]
    refine endX [] ?_
    simp only [envSK, con0, conS, strsOf_arr, rowS_arr, strsOf_cells, rowS_cells, toS, strL_st, strL_d, strL_enc, strL_up, hpN_nil, hpN_cons, hq1, macSumC, retQx, go_sem, reduceCtorEq, ↓reduceIte, Nat.reduceAdd, Nat.reduceMul, Nat.reduceSub, Nat.reduceEqDiff, Nat.reduceLT, Nat.reduceBEq, Nat.reduceBNe, Nat.reduceLeDiff, Int.reduceLE, Int.reduceLT, Int.reduceToNat, Int.reduceEq, Int.reduceAdd, UInt8.reduceToNat, UInt32.reduceToNat, UInt64.reduceToNat, UInt8.reduceOfNat, UInt32.reduceOfNat, UInt64.reduceOfNat, Fin.isValue, Int.reduceSub, Int.reduceMul, Int.reduceNeg, Int.reduceMod, Int.reduceDiv, Int.reduceTDiv, Int.reduceTMod, Int.reduceBEq, Int.reduceBNe, Nat.reduceDiv, Nat.reducePow]
    all_goals first
      | trivial
      | trace_state
  | false =>
    have d2 : decide ((8160 : Int) < z) = true := decide_eq_true (by have := of_decide_eq_false d1; omega)
    simp only [d1, d2, envSK, con0, conS, strsOf_arr, rowS_arr, strsOf_cells, rowS_cells, toS, strL_st, strL_d, strL_enc, strL_up, hpN_nil, hpN_cons, hq1, macSumC, retQx, go_sem, reduceCtorEq, ↓reduceIte, Nat.reduceAdd, Nat.reduceMul, Nat.reduceSub, Nat.reduceEqDiff, Nat.reduceLT, Nat.reduceBEq, Nat.reduceBNe, Nat.reduceLeDiff, Int.reduceLE, Int.reduceLT, Int.reduceToNat, Int.reduceEq, Int.reduceAdd, UInt8.reduceToNat, UInt32.reduceToNat, UInt64.reduceToNat, UInt8.reduceOfNat, UInt32.reduceOfNat, UInt64.reduceOfNat, Fin.isValue, Int.reduceSub, Int.reduceMul, Int.reduceNeg, Int.reduceMod, Int.reduceDiv, Int.reduceTDiv, Int.reduceTMod, Int.reduceBEq, Int.reduceBNe, Nat.reduceDiv, Nat.reducePow]
    refine endX [] ?_
    simp only [envSK, con0, conS, strsOf_arr, rowS_arr, strsOf_cells, rowS_cells, toS, strL_st, strL_d, strL_enc, strL_up, hpN_nil, hpN_cons, hq1, macSumC, retQx, go_sem, reduceCtorEq, ↓reduceIte, Nat.reduceAdd, Nat.reduceMul, Nat.reduceSub, Nat.reduceEqDiff, Nat.reduceLT, Nat.reduceBEq, Nat.reduceBNe, Nat.reduceLeDiff, Int.reduceLE, Int.reduceLT, Int.reduceToNat, Int.reduceEq, Int.reduceAdd, UInt8.reduceToNat, UInt32.reduceToNat, UInt64.reduceToNat, UInt8.reduceOfNat, UInt32.reduceOfNat, UInt64.reduceOfNat, Fin.isValue, Int.reduceSub, Int.reduceMul, Int.reduceNeg, Int.reduceMod, Int.reduceDiv, Int.reduceTDiv, Int.reduceTMod, Int.reduceBEq, Int.reduceBNe, Nat.reduceDiv, Nat.reducePow]
    all_goals first
      | trivial
      | trace_state
-- THE DOCUMENT'S
end Go.Proofs.YtahiopdkekkibaaDoor.FH

/-
  Layer 2: the key of a password.
-/
namespace Go.Proofs.YtahiopdkekkibaaDoor.FH
open Go Go.RowKit
set_option maxHeartbeats 4000000
set_option linter.unusedSimpArgs false
set_option linter.unusedVariables false
set_option linter.unusedSectionVars false
def saltP (salt : List UInt8) : List UInt8 := salt ++ [0, 0, 0, 1]
def uP (pw salt : List UInt8) : Nat → List UInt8
  | 0 => saltP salt
  | n + 1 => sumM pw (uP pw salt n)
theorem uP_len (pw salt : List UInt8) (n : Nat) : (uP pw salt (n + 1)).length = 32 := rfl
def xorW (l u : List UInt8) : Nat → List UInt8
  | 0 => l
  | i + 1 => (xorW l u i).set i ((xorW l u i).getD i 0 ^^^ u.getD i 0)
theorem xorW_len (l u : List UInt8) : ∀ i, (xorW l u i).length = l.length
  | 0 => rfl
  | i + 1 => by rw [xorW, List.length_set, xorW_len l u i]
theorem xorW_zero {u : List UInt8} (hu : u.length = 32) : ∀ i, i ≤ 32 → xorW (List.replicate 32 0) u i = u.take i ++ List.replicate (32 - i) 0
  | 0, _ => rfl
  | i + 1, h => by
    have ht : (u.take i).length = i := by rw [List.length_take]; omega
    rw [xorW, xorW_zero hu i (by omega), List.getD_eq_getElem?_getD, List.getElem?_append_right (by omega), ht, Nat.sub_self, show 32 - i = (31 - i) + 1 by omega, List.replicate_succ, List.getElem?_cons_zero, List.set_append_right _ _ (by omega), ht, Nat.sub_self, List.set_cons_zero, List.take_add_one, show 32 - (i + 1) = 31 - i by omega, List.append_assoc]
    congr 1
    rw [List.getD_eq_getElem?_getD, List.getElem?_eq_getElem (by omega)]
    simp
def kP (pw salt : List UInt8) : Nat → List UInt8
  | 0 => List.replicate 32 0
  | n + 1 => xorW (kP pw salt n) (uP pw salt (n + 1)) 32
theorem kP_len (pw salt : List UInt8) : ∀ n, (kP pw salt n).length = 32
  | 0 => List.length_replicate
  | n + 1 => by rw [kP, xorW_len, kP_len pw salt n]
theorem kP_one (pw salt : List UInt8) : kP pw salt 1 = uP pw salt 1 := by
  rw [kP, kP, xorW_zero (uP_len pw salt 0) 32 (Nat.le_refl _), Nat.sub_self, List.replicate_zero, List.append_nil, List.take_of_length_le (Nat.le_of_eq (uP_len pw salt 0))]
def hp1 : Nat → Option Con := fun f => match f with
  | 53 => some macSumC
  | _ => none
theorem hp1_ok : GaOkG Tryd.prog GS hp1 := fun f con h => by
  unfold hp1 at h
  split at h
  · injection h with h; subst h; exact macSumC_ok
  · cases h
def pwO (pw salt : List UInt8) (n : Nat) (r : Int) : St := ⟨[(0, .c (.one (.str pw))), (8, .c (.one (.str (uP pw salt (n + 1))))), (9, .c (.one (.sl 500 0 1 32))), (24, .c (.one (.num r))), (25, .c (.one (.num n)))], [(500, ⟨.arr UInt8 u8L (kP pw salt (n + 1)), true⟩)]⟩
def pwI (pw salt : List UInt8) (n : Nat) (r : Int) (i : Nat) : St := ⟨[(0, .c (.one (.str pw))), (8, .c (.one (.str (uP pw salt (n + 1 + 1))))), (9, .c (.one (.sl 500 0 1 32))), (24, .c (.one (.num r))), (25, .c (.one (.num n))), (31, .c (.one (.num 32))), (32, .c (.one (.num i)))], [(500, ⟨.arr UInt8 u8L (xorW (kP pw salt (n + 1)) (uP pw salt (n + 1 + 1)) i), true⟩)]⟩
set_option maxRecDepth 100000 in
theorem password_tri (pw salt : List UInt8) (z : Nat) (h1 : pw.length ≤ 1000) (h2 : salt.length ≤ 1000) (hz : 1 ≤ z ∧ z ≤ 64) : TriG Tryd.prog GS 33 [.one (.str pw), .one (.str salt), .one (.num (z : Nat))] [] (.tup [.one (.str (kP pw salt z)), .one (.num 0)]) [] := by
  obtain ⟨z1, z2⟩ := hz
  have d1 : decide ((z : Int) < 1) = false := decide_eq_false (by omega)
  have d2 : decide ((64 : Int) < (z : Int)) = false := decide_eq_false (by omega)
  have sl : (saltP salt).length = salt.length + 4 := by unfold saltP; rw [List.length_append]; rfl
  have e0 : salt ++ [0, 0, 0, 1] = saltP salt := rfl
  have e1 : sumM pw (saltP salt) = uP pw salt 1 := rfl
  have w0 : IntKind.i64.wrap ((z : Int) - 1) = ((z - 1 : Nat) : Int) := by rw [IntKind.wrap_i64]; omega
  have ul := uP_len pw salt 0
  refine tri_ofx (envSK_ok hp1_ok 48 []) Tryd.func33 rfl rfl (rs := [.tmp 6, .tmp 7]) rfl rfl (by simp [envSK]) rfl ?_
  simp only [d1, d2, e0, e1, w0, ul, envSK, con0, conS, strsOf_arr, rowS_arr, strsOf_cells, rowS_cells, toS, strL_st, strL_d, strL_enc, strL_up, hpN_nil, hpN_cons, hp1, macSumC, retQx, go_sem, reduceCtorEq, ↓reduceIte, Nat.reduceAdd, Nat.reduceMul, Nat.reduceSub, Nat.reduceEqDiff, Nat.reduceLT, Nat.reduceBEq, Nat.reduceBNe, Nat.reduceLeDiff, Int.reduceLE, Int.reduceLT, Int.reduceToNat, Int.reduceEq, Int.reduceAdd, UInt8.reduceToNat, UInt32.reduceToNat, UInt64.reduceToNat, UInt8.reduceOfNat, UInt32.reduceOfNat, UInt64.reduceOfNat, Fin.isValue, Int.reduceSub, Int.reduceMul, Int.reduceNeg, Int.reduceMod, Int.reduceDiv, Int.reduceTDiv, Int.reduceTMod, Int.reduceBEq, Int.reduceBNe, Nat.reduceDiv, Nat.reducePow]
  repeat' apply And.intro
  all_goals first
    | omega
    | (show ckDraw _; rfl)
    | skip
  refine loop_inv (envSK_ok hp1_ok 48 []) (fun n => pwO pw salt n ((z - 1 : Nat) : Int)) (fun n => n ≤ z - 1) (fun n => z - 1 - n) 0 [(500, 50008)] (by omega) ?_ ?_
  · simp only [pwO, kP_one, envSK, con0, conS, strsOf_arr, rowS_arr, strsOf_cells, rowS_cells, toS, strL_st, strL_d, strL_enc, strL_up, hpN_nil, hpN_cons, hp1, macSumC, go_sem, reduceCtorEq, ↓reduceIte, Nat.reduceAdd, Nat.reduceMul, Nat.reduceSub, Nat.reduceEqDiff, Nat.reduceLT, Nat.reduceBEq, Nat.reduceBNe, Nat.reduceLeDiff, Int.reduceLE, Int.reduceLT, Int.reduceToNat, Int.reduceEq, Int.reduceAdd, UInt8.reduceToNat, UInt32.reduceToNat, UInt64.reduceToNat, UInt8.reduceOfNat, UInt32.reduceOfNat, UInt64.reduceOfNat, Fin.isValue, Int.reduceSub, Int.reduceMul, Int.reduceNeg, Int.reduceMod, Int.reduceDiv, Int.reduceTDiv, Int.reduceTMod, Int.reduceBEq, Int.reduceBNe, Nat.reduceDiv, Nat.reducePow]
    all_goals first
      | trivial
      | trace_state
  · intro n hn
    have un := uP_len pw salt n
    have un1 := uP_len pw salt (n + 1)
    have kn := kP_len pw salt (n + 1)
    have e2 : sumM pw (uP pw salt (n + 1)) = uP pw salt (n + 1 + 1) := rfl
    have w1 : IntKind.i64.wrap ((n : Int) + 1) = ((n + 1 : Nat) : Int) := by rw [IntKind.wrap_i64]; omega
    simp only [pwO, envSK, con0, conS, strsOf_arr, rowS_arr, strsOf_cells, rowS_cells, toS, strL_st, strL_d, strL_enc, strL_up, hpN_nil, hpN_cons, hp1, macSumC, retQx, go_sem, reduceCtorEq, ↓reduceIte, Nat.reduceAdd, Nat.reduceMul, Nat.reduceSub, Nat.reduceEqDiff, Nat.reduceLT, Nat.reduceBEq, Nat.reduceBNe, Nat.reduceLeDiff, Int.reduceLE, Int.reduceLT, Int.reduceToNat, Int.reduceEq, Int.reduceAdd, UInt8.reduceToNat, UInt32.reduceToNat, UInt64.reduceToNat, UInt8.reduceOfNat, UInt32.reduceOfNat, UInt64.reduceOfNat, Fin.isValue, Int.reduceSub, Int.reduceMul, Int.reduceNeg, Int.reduceMod, Int.reduceDiv, Int.reduceTDiv, Int.reduceTMod, Int.reduceBEq, Int.reduceBNe, Nat.reduceDiv, Nat.reducePow]
    refine br (fun hg => ?_) fun hg => ?_
    · have hg' := of_decide_eq_true hg
      simp only [hg, un, e2, envSK, con0, conS, strsOf_arr, rowS_arr, strsOf_cells, rowS_cells, toS, strL_st, strL_d, strL_enc, strL_up, hpN_nil, hpN_cons, hp1, macSumC, retQx, go_sem, reduceCtorEq, ↓reduceIte, Nat.reduceAdd, Nat.reduceMul, Nat.reduceSub, Nat.reduceEqDiff, Nat.reduceLT, Nat.reduceBEq, Nat.reduceBNe, Nat.reduceLeDiff, Int.reduceLE, Int.reduceLT, Int.reduceToNat, Int.reduceEq, Int.reduceAdd, UInt8.reduceToNat, UInt32.reduceToNat, UInt64.reduceToNat, UInt8.reduceOfNat, UInt32.reduceOfNat, UInt64.reduceOfNat, Fin.isValue, Int.reduceSub, Int.reduceMul, Int.reduceNeg, Int.reduceMod, Int.reduceDiv, Int.reduceTDiv, Int.reduceTMod, Int.reduceBEq, Int.reduceBNe, Nat.reduceDiv, Nat.reducePow]
      repeat' apply And.intro
      all_goals first
        | omega
        | (show ckDraw _; rfl)
        | skip
      trace_state
      refine loop_inv (envSK_ok hp1_ok 48 []) (pwI pw salt n ((z - 1 : Nat) : Int)) (fun i => i ≤ 32) (fun i => 32 - i) 0 [] (by omega) ?_ ?_
      · simp only [pwI, xorW, envSK, con0, conS, strsOf_arr, rowS_arr, strsOf_cells, rowS_cells, toS, strL_st, strL_d, strL_enc, strL_up, hpN_nil, hpN_cons, hp1, macSumC, go_sem, reduceCtorEq, ↓reduceIte, Nat.reduceAdd, Nat.reduceMul, Nat.reduceSub, Nat.reduceEqDiff, Nat.reduceLT, Nat.reduceBEq, Nat.reduceBNe, Nat.reduceLeDiff, Int.reduceLE, Int.reduceLT, Int.reduceToNat, Int.reduceEq, Int.reduceAdd, UInt8.reduceToNat, UInt32.reduceToNat, UInt64.reduceToNat, UInt8.reduceOfNat, UInt32.reduceOfNat, UInt64.reduceOfNat, Fin.isValue, Int.reduceSub, Int.reduceMul, Int.reduceNeg, Int.reduceMod, Int.reduceDiv, Int.reduceTDiv, Int.reduceTMod, Int.reduceBEq, Int.reduceBNe, Nat.reduceDiv, Nat.reducePow]
        all_goals first
          | trivial
          | trace_state
      · intro i hi
        have xn := xorW_len (kP pw salt (n + 1)) (uP pw salt (n + 1 + 1)) i
        rw [kn] at xn
        have w2 : IntKind.i64.wrap ((i : Int) + 1) = ((i + 1 : Nat) : Int) := by rw [IntKind.wrap_i64]; omega
        have e3 : xorW (kP pw salt (n + 1)) (uP pw salt (n + 1 + 1)) (i + 1) = (xorW (kP pw salt (n + 1)) (uP pw salt (n + 1 + 1)) i).set i ((xorW (kP pw salt (n + 1)) (uP pw salt (n + 1 + 1)) i).getD i 0 ^^^ (uP pw salt (n + 1 + 1)).getD i 0) := rfl
        simp only [pwI, envSK, con0, conS, strsOf_arr, rowS_arr, strsOf_cells, rowS_cells, toS, strL_st, strL_d, strL_enc, strL_up, hpN_nil, hpN_cons, hp1, macSumC, retQx, go_sem, reduceCtorEq, ↓reduceIte, Nat.reduceAdd, Nat.reduceMul, Nat.reduceSub, Nat.reduceEqDiff, Nat.reduceLT, Nat.reduceBEq, Nat.reduceBNe, Nat.reduceLeDiff, Int.reduceLE, Int.reduceLT, Int.reduceToNat, Int.reduceEq, Int.reduceAdd, UInt8.reduceToNat, UInt32.reduceToNat, UInt64.reduceToNat, UInt8.reduceOfNat, UInt32.reduceOfNat, UInt64.reduceOfNat, Fin.isValue, Int.reduceSub, Int.reduceMul, Int.reduceNeg, Int.reduceMod, Int.reduceDiv, Int.reduceTDiv, Int.reduceTMod, Int.reduceBEq, Int.reduceBNe, Nat.reduceDiv, Nat.reducePow]
        refine br (fun hj => ?_) fun hj => ?_
        · have hj' := of_decide_eq_true hj
          simp only [hj, w2, un1, xn, envSK, con0, conS, strsOf_arr, rowS_arr, strsOf_cells, rowS_cells, toS, strL_st, strL_d, strL_enc, strL_up, hpN_nil, hpN_cons, hp1, macSumC, retQx, go_sem, reduceCtorEq, ↓reduceIte, Nat.reduceAdd, Nat.reduceMul, Nat.reduceSub, Nat.reduceEqDiff, Nat.reduceLT, Nat.reduceBEq, Nat.reduceBNe, Nat.reduceLeDiff, Int.reduceLE, Int.reduceLT, Int.reduceToNat, Int.reduceEq, Int.reduceAdd, UInt8.reduceToNat, UInt32.reduceToNat, UInt64.reduceToNat, UInt8.reduceOfNat, UInt32.reduceOfNat, UInt64.reduceOfNat, Fin.isValue, Int.reduceSub, Int.reduceMul, Int.reduceNeg, Int.reduceMod, Int.reduceDiv, Int.reduceTDiv, Int.reduceTMod, Int.reduceBEq, Int.reduceBNe, Nat.reduceDiv, Nat.reducePow]
          repeat' apply And.intro
          all_goals first
            | omega
            | (show ckDraw _; rfl)
            | skip
          refine again (i + 1) [] (by omega) (by omega) ?_
          simp only [pwI, e3, envSK, con0, conS, strsOf_arr, rowS_arr, strsOf_cells, rowS_cells, toS, strL_st, strL_d, strL_enc, strL_up, hpN_nil, hpN_cons, hp1, macSumC, go_sem, reduceCtorEq, ↓reduceIte, Nat.reduceAdd, Nat.reduceMul, Nat.reduceSub, Nat.reduceEqDiff, Nat.reduceLT, Nat.reduceBEq, Nat.reduceBNe, Nat.reduceLeDiff, Int.reduceLE, Int.reduceLT, Int.reduceToNat, Int.reduceEq, Int.reduceAdd, UInt8.reduceToNat, UInt32.reduceToNat, UInt64.reduceToNat, UInt8.reduceOfNat, UInt32.reduceOfNat, UInt64.reduceOfNat, Fin.isValue, Int.reduceSub, Int.reduceMul, Int.reduceNeg, Int.reduceMod, Int.reduceDiv, Int.reduceTDiv, Int.reduceTMod, Int.reduceBEq, Int.reduceBNe, Nat.reduceDiv, Nat.reducePow]
          all_goals first
            | trivial
            | trace_state
        · obtain rfl : i = 32 := by have := of_decide_eq_false hj; omega
          have e4 : xorW (kP pw salt (n + 1)) (uP pw salt (n + 1 + 1)) 32 = kP pw salt (n + 1 + 1) := rfl
          simp only [hj, w1, e4, envSK, con0, conS, strsOf_arr, rowS_arr, strsOf_cells, rowS_cells, toS, strL_st, strL_d, strL_enc, strL_up, hpN_nil, hpN_cons, hp1, macSumC, retQx, go_sem, reduceCtorEq, ↓reduceIte, Nat.reduceAdd, Nat.reduceMul, Nat.reduceSub, Nat.reduceEqDiff, Nat.reduceLT, Nat.reduceBEq, Nat.reduceBNe, Nat.reduceLeDiff, Int.reduceLE, Int.reduceLT, Int.reduceToNat, Int.reduceEq, Int.reduceAdd, UInt8.reduceToNat, UInt32.reduceToNat, UInt64.reduceToNat, UInt8.reduceOfNat, UInt32.reduceOfNat, UInt64.reduceOfNat, Fin.isValue, Int.reduceSub, Int.reduceMul, Int.reduceNeg, Int.reduceMod, Int.reduceDiv, Int.reduceTDiv, Int.reduceTMod, Int.reduceBEq, Int.reduceBNe, Nat.reduceDiv, Nat.reducePow]
          refine again (n + 1) [] (by omega) (by omega) ?_
          simp only [pwO, envSK, con0, conS, strsOf_arr, rowS_arr, strsOf_cells, rowS_cells, toS, strL_st, strL_d, strL_enc, strL_up, hpN_nil, hpN_cons, hp1, macSumC, go_sem, reduceCtorEq, ↓reduceIte, Nat.reduceAdd, Nat.reduceMul, Nat.reduceSub, Nat.reduceEqDiff, Nat.reduceLT, Nat.reduceBEq, Nat.reduceBNe, Nat.reduceLeDiff, Int.reduceLE, Int.reduceLT, Int.reduceToNat, Int.reduceEq, Int.reduceAdd, UInt8.reduceToNat, UInt32.reduceToNat, UInt64.reduceToNat, UInt8.reduceOfNat, UInt32.reduceOfNat, UInt64.reduceOfNat, Fin.isValue, Int.reduceSub, Int.reduceMul, Int.reduceNeg, Int.reduceMod, Int.reduceDiv, Int.reduceTDiv, Int.reduceTMod, Int.reduceBEq, Int.reduceBNe, Nat.reduceDiv, Nat.reducePow]
          all_goals first
            | trivial
            | trace_state
    · obtain rfl : n = z - 1 := by have := of_decide_eq_false hg; omega
      have ez : z - 1 + 1 = z := by omega
      have tk : (kP pw salt z).take 32 = kP pw salt z := List.take_of_length_le (Nat.le_of_eq (kP_len pw salt z))
      rw [ez] at kn
      simp only [hg, ez, tk, kn, envSK, con0, conS, strsOf_arr, rowS_arr, strsOf_cells, rowS_cells, toS, strL_st, strL_d, strL_enc, strL_up, hpN_nil, hpN_cons, hp1, macSumC, retQx, go_sem, reduceCtorEq, ↓reduceIte, Nat.reduceAdd, Nat.reduceMul, Nat.reduceSub, Nat.reduceEqDiff, Nat.reduceLT, Nat.reduceBEq, Nat.reduceBNe, Nat.reduceLeDiff, Int.reduceLE, Int.reduceLT, Int.reduceToNat, Int.reduceEq, Int.reduceAdd, UInt8.reduceToNat, UInt32.reduceToNat, UInt64.reduceToNat, UInt8.reduceOfNat, UInt32.reduceOfNat, UInt64.reduceOfNat, Fin.isValue, Int.reduceSub, Int.reduceMul, Int.reduceNeg, Int.reduceMod, Int.reduceDiv, Int.reduceTDiv, Int.reduceTMod, Int.reduceBEq, Int.reduceBNe, Nat.reduceDiv, Nat.reducePow]
      repeat' apply And.intro
      all_goals first
        | omega
        | skip
      refine endX [] ?_
      simp only [envSK, con0, conS, strsOf_arr, rowS_arr, strsOf_cells, rowS_cells, toS, strL_st, strL_d, strL_enc, strL_up, hpN_nil, hpN_cons, hp1, macSumC, retQx, go_sem, reduceCtorEq, ↓reduceIte, Nat.reduceAdd, Nat.reduceMul, Nat.reduceSub, Nat.reduceEqDiff, Nat.reduceLT, Nat.reduceBEq, Nat.reduceBNe, Nat.reduceLeDiff, Int.reduceLE, Int.reduceLT, Int.reduceToNat, Int.reduceEq, Int.reduceAdd, UInt8.reduceToNat, UInt32.reduceToNat, UInt64.reduceToNat, UInt8.reduceOfNat, UInt32.reduceOfNat, UInt64.reduceOfNat, Fin.isValue, Int.reduceSub, Int.reduceMul, Int.reduceNeg, Int.reduceMod, Int.reduceDiv, Int.reduceTDiv, Int.reduceTMod, Int.reduceBEq, Int.reduceBNe, Nat.reduceDiv, Nat.reducePow]
      all_goals first
        | trivial
        | trace_state
set_option maxRecDepth 100000 in
theorem passwordBad_tri (pw salt : List UInt8) (z : Int) (hz : z < 1 ∨ 64 < z) : TriG Tryd.prog GS 33 [.one (.str pw), .one (.str salt), .one (.num z)] [] (.tup [.one (.str []), .one (.num 1)]) [] := by
  refine tri_ofx (envSK_ok hp1_ok 48 []) Tryd.func33 rfl rfl (rs := [.tmp 6, .tmp 7]) rfl rfl (by simp [envSK]) rfl ?_
  cases d1 : decide (z < 1) with
  | true =>
    simp only [d1, envSK, con0, conS, strsOf_arr, rowS_arr, strsOf_cells, rowS_cells, toS, strL_st, strL_d, strL_enc, strL_up, hpN_nil, hpN_cons, hp1, macSumC, retQx, go_sem, reduceCtorEq, ↓reduceIte, Nat.reduceAdd, Nat.reduceMul, Nat.reduceSub, Nat.reduceEqDiff, Nat.reduceLT, Nat.reduceBEq, Nat.reduceBNe, Nat.reduceLeDiff, Int.reduceLE, Int.reduceLT, Int.reduceToNat, Int.reduceEq, Int.reduceAdd, UInt8.reduceToNat, UInt32.reduceToNat, UInt64.reduceToNat, UInt8.reduceOfNat, UInt32.reduceOfNat, UInt64.reduceOfNat, Fin.isValue, Int.reduceSub, Int.reduceMul, Int.reduceNeg, Int.reduceMod, Int.reduceDiv, Int.reduceTDiv, Int.reduceTMod, Int.reduceBEq, Int.reduceBNe, Nat.reduceDiv, Nat.reducePow]
    refine endX [] ?_
    simp only [envSK, con0, conS, strsOf_arr, rowS_arr, strsOf_cells, rowS_cells, toS, strL_st, strL_d, strL_enc, strL_up, hpN_nil, hpN_cons, hp1, macSumC, retQx, go_sem, reduceCtorEq, ↓reduceIte, Nat.reduceAdd, Nat.reduceMul, Nat.reduceSub, Nat.reduceEqDiff, Nat.reduceLT, Nat.reduceBEq, Nat.reduceBNe, Nat.reduceLeDiff, Int.reduceLE, Int.reduceLT, Int.reduceToNat, Int.reduceEq, Int.reduceAdd, UInt8.reduceToNat, UInt32.reduceToNat, UInt64.reduceToNat, UInt8.reduceOfNat, UInt32.reduceOfNat, UInt64.reduceOfNat, Fin.isValue, Int.reduceSub, Int.reduceMul, Int.reduceNeg, Int.reduceMod, Int.reduceDiv, Int.reduceTDiv, Int.reduceTMod, Int.reduceBEq, Int.reduceBNe, Nat.reduceDiv, Nat.reducePow]
    all_goals first
      | trivial
      | trace_state
  | false =>
    have d2 : decide ((64 : Int) < z) = true := decide_eq_true (by have := of_decide_eq_false d1; omega)
    simp only [d1, d2, envSK, con0, conS, strsOf_arr, rowS_arr, strsOf_cells, rowS_cells, toS, strL_st, strL_d, strL_enc, strL_up, hpN_nil, hpN_cons, hp1, macSumC, retQx, go_sem, reduceCtorEq, ↓reduceIte, Nat.reduceAdd, Nat.reduceMul, Nat.reduceSub, Nat.reduceEqDiff, Nat.reduceLT, Nat.reduceBEq, Nat.reduceBNe, Nat.reduceLeDiff, Int.reduceLE, Int.reduceLT, Int.reduceToNat, Int.reduceEq, Int.reduceAdd, UInt8.reduceToNat, UInt32.reduceToNat, UInt64.reduceToNat, UInt8.reduceOfNat, UInt32.reduceOfNat, UInt64.reduceOfNat, Fin.isValue, Int.reduceSub, Int.reduceMul, Int.reduceNeg, Int.reduceMod, Int.reduceDiv, Int.reduceTDiv, Int.reduceTMod, Int.reduceBEq, Int.reduceBNe, Nat.reduceDiv, Nat.reducePow]
    refine endX [] ?_
    simp only [envSK, con0, conS, strsOf_arr, rowS_arr, strsOf_cells, rowS_cells, toS, strL_st, strL_d, strL_enc, strL_up, hpN_nil, hpN_cons, hp1, macSumC, retQx, go_sem, reduceCtorEq, ↓reduceIte, Nat.reduceAdd, Nat.reduceMul, Nat.reduceSub, Nat.reduceEqDiff, Nat.reduceLT, Nat.reduceBEq, Nat.reduceBNe, Nat.reduceLeDiff, Int.reduceLE, Int.reduceLT, Int.reduceToNat, Int.reduceEq, Int.reduceAdd, UInt8.reduceToNat, UInt32.reduceToNat, UInt64.reduceToNat, UInt8.reduceOfNat, UInt32.reduceOfNat, UInt64.reduceOfNat, Fin.isValue, Int.reduceSub, Int.reduceMul, Int.reduceNeg, Int.reduceMod, Int.reduceDiv, Int.reduceTDiv, Int.reduceTMod, Int.reduceBEq, Int.reduceBNe, Nat.reduceDiv, Nat.reducePow]
    all_goals first
      | trivial
      | trace_state
-- THE DOCUMENT'S
end Go.Proofs.YtahiopdkekkibaaDoor.FH

/-
  Layer 2: the laws MacPasswords and MacDraws.
-/
namespace Go.Proofs.YtahiopdkekkibaaDoor.FH
open Go Go.RowKit
set_option maxHeartbeats 4000000
set_option linter.unusedSimpArgs false
set_option linter.unusedVariables false
set_option linter.unusedSectionVars false
def passV (pw salt : List UInt8) (z : Int) : SV := if 1 ≤ z ∧ z ≤ 64 then .tup [.one (.str (kP pw salt z.toNat)), .one (.num 0)] else .tup [.one (.str []), .one (.num 1)]
theorem pass_ok (pw salt : List UInt8) (z : Int) (h1 : pw.length ≤ 1000) (h2 : salt.length ≤ 1000) : TriG Tryd.prog GS 33 [.one (.str pw), .one (.str salt), .one (.num z)] [] (passV pw salt z) [] := by
  unfold passV
  split
  · rename_i h
    have := password_tri pw salt z.toNat h1 h2 (by omega)
    rw [Int.toNat_of_nonneg (by omega)] at this
    exact this
  · rename_i h
    exact passwordBad_tri pw salt z (by omega)
def passC : Con := con0 fun args => match args with
  | [.one (.str pw), .one (.str salt), .one (.num z)] => some (passV pw salt z, [pw.length ≤ 1000, salt.length ≤ 1000])
  | _ => none
theorem passC_ok : ConOkG Tryd.prog GS 33 passC := con0_okG Tryd.func33 rfl rfl fun args res ob h hob => by
  split at h
  · injection h with h; injection h with h1 h2; subst h1; subst h2; exact pass_ok _ _ _ hob.1 hob.2.1
  · cases h
def drawV (a b c : List UInt8) (z : Int) : SV := if 0 ≤ z ∧ z ≤ 8160 then .tup [.one (.str (drawD a b c z.toNat)), .one (.num 0)] else .tup [.one (.str []), .one (.num 1)]
theorem draw_ok (a b c : List UInt8) (z : Int) (h1 : a.length ≤ 1000) (h2 : b.length ≤ 1000) (h3 : c.length ≤ 1000) : TriG Tryd.prog GS 41 [.one (.str a), .one (.str b), .one (.str c), .one (.num z)] [] (drawV a b c z) [] := by
  unfold drawV
  split
  · rename_i h
    have := draw_tri a b c z.toNat h1 h2 h3 (by omega)
    rw [Int.toNat_of_nonneg (by omega)] at this
    exact this
  · rename_i h
    exact drawBad_tri a b c z (by omega)
def drawC : Con := con0 fun args => match args with
  | [.one (.str a), .one (.str b), .one (.str c), .one (.num z)] => some (drawV a b c z, [a.length ≤ 1000, b.length ≤ 1000, c.length ≤ 1000])
  | _ => none
theorem drawC_ok : ConOkG Tryd.prog GS 41 drawC := con0_okG Tryd.func41 rfl rfl fun args res ob h hob => by
  split at h
  · injection h with h; injection h with h1 h2; subst h1; subst h2; exact draw_ok _ _ _ _ hob.1 hob.2.1 hob.2.2.1
  · cases h
end Go.Proofs.YtahiopdkekkibaaDoor.FH

