/-
  Put together: St, Su, Gf, Rs, Shg, Ha, Hn, Hb, Hc, He, Hk, Hf, Hg, Hj, Hd, Hl, Hm, Ho, Hq, Hs, K5, Kn, Kv, Ka, Kw, Kx, Ky, Ks, Kd, Kb, Kc, Ke, Kz, Kf, Kq, Kg, Ca, Cb, Cd, Ce, Pa, Pb.
-/
import Derived.Test.YtahiopdkekkibaaGreatDoorG1
import Derived.Test.YtahiopdkekkibaaGreatDoorProg
import Derived.Lib.LaidTab
import Derived.Lib.AtoiErrMem
import Derived.Sort.Grow
import Derived.Lib.ItoaNum
import Derived.Lib.Itoa
import Derived.Shelf.Vars
import Derived.Shelf.Strings.Builder1
import Derived.Shelf.Strings.Builder2
import Derived.Shelf.Strings.Trim
import Derived.Shelf.Small.Utf8
import Derived.Shelf.Small.Strs
import Derived.Shelf.Strings.BuilderF
import Derived.Shelf.Strings.BuilderK
import Derived.Shelf.Strings.Search1
import Derived.Shelf.Strings.Prefix
import Derived.Shelf.Unicode.Decode
import Derived.Shelf.Strings.Runes
import Derived.Shelf.Strings.AsciiSet
import Derived.Shelf.Bits.Mul64
import Derived.Shelf.Strings.Repeat
import Derived.Shelf.Unicode.DecodeSlow
import Derived.Shelf.Unicode.DecodeAny
import Derived.Shelf.Unicode.DecodeLast
import Derived.Test.YtahiopdkekkibaaGreatDoorSz
import Derived.WideKeyPair
import Derived.ChangeShapes
import Derived.Test.YtahiopdkekkibaaGreatDoorRows
import Derived.MakeChecks
import Derived.Stop.LaidErr
import Derived.Laws.Externs
/-
  A walk by reckoning, part 21: ends in more than one place; objects that read alike. It speaks of no program.
-/
namespace Go.Proofs.YtahiopdkekkibaaGreatDoor
open Go Go.RowKit
set_option linter.unusedVariables false
set_option linter.unusedSimpArgs false
def SimE (e e' : Ent) : Prop := e.o.live = e'.o.live ∧ e.o.stride = e'.o.stride ∧ e.o.flat = e'.o.flat ∧ e.wr = e'.wr
def SimH (hp hp' : List (Nat × Ent)) : Prop := ∀ id, (∀ e, aget hp id = some e → ∃ e', aget hp' id = some e' ∧ SimE e e') ∧ (aget hp id = none → aget hp' id = none)
theorem SimE.symm {e e' : Ent} (h : SimE e e') : SimE e' e := ⟨h.1.symm, h.2.1.symm, h.2.2.1.symm, h.2.2.2.symm⟩
theorem SimH.symm {hp hp' : List (Nat × Ent)} (h : SimH hp hp') : SimH hp' hp := fun id => by
  obtain ⟨h1, h2⟩ := h id
  cases ha : aget hp id with
  | none => exact ⟨fun e he => (by rw [h2 ha] at he; cases he), fun _ => rfl⟩
  | some e0 =>
    obtain ⟨e', h3, h4⟩ := h1 e0 ha
    exact ⟨fun e he => (by rw [h3] at he; cases he; exact ⟨e0, rfl, h4.symm⟩), fun hn => (by rw [h3] at hn; cases hn)⟩
theorem ObjRel.sim {r : Lc} {w : World} {p : Option (Blk × Nat)} {o o' : SObj} (h1 : o.live = o'.live) (h2 : o.stride = o'.stride) (h3 : o.flat = o'.flat) (h : ObjRel r w p o) : ObjRel r w p o' := fun hl => by
  have := h (h1.trans hl)
  rw [h2, h3] at this
  exact this
theorem HeapOk.sim {C : Ctx} {r : Lc} {hp hp' : List (Nat × Ent)} {w : World} (hs : SimH hp hp') (h : HeapOk C r hp w) : HeapOk C r hp' w := {
  dom := fun id => by
    rw [h.dom id]
    exact ⟨(hs id).2, (hs.symm id).2⟩
  obj := fun id e p he hp => by
    obtain ⟨e', h1, h2, h3, h4, h5⟩ := (hs.symm id).1 e he
    exact (h.obj id e' p h1 hp).sim h2.symm h3.symm h4.symm
  inj := fun i j e f g g' c d hi hj li lj ri rj wi hgg => by
    obtain ⟨e', h1, h2, _, _, hw1⟩ := (hs.symm i).1 e hi
    obtain ⟨f', h3, h4, _⟩ := (hs.symm j).1 f hj
    exact h.inj i j e' f' g g' c d h1 h3 (h2.symm.trans li) (h4.symm.trans lj) ri rj (hw1.symm.trans wi) hgg
  own := fun id e g c he hl hw hr => by
    obtain ⟨e', h1, h2, _, _, h5⟩ := (hs.symm id).1 e he
    exact h.own id e' g c h1 (h2.symm.trans hl) (h5.symm.trans hw) hr
  os := h.os
  tape := h.tape
  glob := h.glob
  output := h.output
  size := h.size
  same := h.same }
theorem cw_sim {G : List GFact} {r : Lc} {hp hp' : List (Nat × Ent)} {w : World} (hs : SimH hp hp') : cw G r hp w = cw G r hp' w := by
  unfold cw
  congr 1
  funext b
  refine propext ⟨?_, ?_⟩
  · rintro ⟨id, e, g, c, h1, h2, h3, h4⟩
    obtain ⟨e', k1, k2, _, _, k5⟩ := (hs id).1 e h1
    exact ⟨id, e', g, c, k1, k5.symm.trans h2, k2.symm.trans h3, h4⟩
  · rintro ⟨id, e, g, c, h1, h2, h3, h4⟩
    obtain ⟨e', k1, k2, _, _, k5⟩ := (hs.symm id).1 e h1
    exact ⟨id, e', g, c, k1, k5.symm.trans h2, k2.symm.trans h3, h4⟩
theorem TriG.sim {P : Program} {G : List GFact} {f : FuncId} {args : List CV} {hp hp' : List (Nat × Ent)} {res : SV} {hq hq' : List (Nat × Ent)} (h1 : SimH hp hp') (h2 : SimH hq hq') (h : TriG P G f args hp res hq) : TriG P G f args hp' res hq' := fun r w vals ha hh => by
  have hh' : HeapOk (cw G r hp w) r hp w := by rw [cw_sim h1]; exact hh.sim h1.symm
  refine (h r w vals ha hh').mono fun e w' ⟨u, r', k1, k2, k3, k4⟩ => ⟨u, r', k1, k2, k3, ?_⟩
  rw [← cw_sim h1]
  exact k4.sim h2
theorem SimE.refl (e : Ent) : SimE e e := ⟨rfl, rfl, rfl, rfl⟩
theorem SimH.cons {i : Nat} {e e' : Ent} {l l' : List (Nat × Ent)} (h : SimE e e') (hl : SimH l l') : SimH ((i, e) :: l) ((i, e') :: l') := fun id => by
  simp only [aget]
  by_cases hi : i = id
  · simp only [hi, if_true]
    exact ⟨fun a ha => (by cases ha; exact ⟨e', rfl, h⟩), fun hn => (by cases hn)⟩
  · simp only [hi, if_false]
    exact hl id
theorem SimH.nil : SimH [] [] := fun id => ⟨fun e he => (by cases he), fun _ => rfl⟩
theorem Tri.sim {P : Program} {f : FuncId} {args : List CV} {hp hp' : List (Nat × Ent)} {res : SV} {hq hq' : List (Nat × Ent)} (h1 : SimH hp hp') (h2 : SimH hq hq') (h : Tri P f args hp res hq) : Tri P f args hp' res hq' := TriG.sim h1 h2 h
/-- The end of a function, where its object may come from more than one place. -/
def EndX (E : Env) (rs : List ResultVar) (res : SV) (hp' : List (Nat × Ent)) (st : St) : Prop := ∃ g, endQ E rs g res hp' st
def retQx (E : Env) (rs : List ResultVar) (res : SV) (hp' : List (Nat × Ent)) : Exit → St → Prop
  | .normal, st => EndX E rs res hp' st
  | .ret, st => EndX E rs res hp' st
  | _, _ => False
theorem endX {E : Env} {rs : List ResultVar} {res : SV} {hp' : List (Nat × Ent)} {st : St} (g : List (Nat × Nat)) (h : endQ E rs g res hp' st) : EndX E rs res hp' st := ⟨g, h⟩
section
variable {P : Program} {E : Env}
theorem tri_ofx (hE : EnvOk P E) {f : FuncId} {fn : Func} {body : Code} (hf : P.funcs[f]? = some fn) (hb : fn.body = some body) (hn : fn.ntmps = E.nt) {rs : List ResultVar} (hrs : fn.results.toList = rs) (hgl : E.gl = []) {args : List CV} {hp : List (Nat × Ent)} {res : SV} {hp' : List (Nat × Ent)} (hlen : args.length ≤ E.nt)
    (hkeys : keysOf hp = E.keys) (h : vc (⟨⟨numb 0 (args.map .c), hp⟩⟩ : VTag P E body (retQx E rs res hp'))) : TriG P E.G f args hp res hp' := by
  subst hrs
  intro r w vals hargs hh
  have hvl := hargs.length
  refine calls_of_wp hf hb ?_
  have hrep : RepE P E (cw E.G r hp w) r ⟨numb 0 (args.map .c), hp⟩ { tmps := vals.toArray ++ Array.replicate (fn.ntmps - vals.toArray.size) undef, defers := [] } w := {
    nt := by simp; omega
    defers := rfl
    fr := fun t x hx => by
      have hx' : (args.map SV.c)[t]? = some x := by
        have := aget_numb (args.map SV.c) 0 t
        simp only [Nat.zero_le, if_true, Nat.sub_zero] at this
        rw [← this]; exact hx
      rw [List.getElem?_map] at hx'
      cases hc : args[t]? with
      | none => rw [hc] at hx'; cases hx'
      | some c =>
        rw [hc] at hx'
        simp only [Option.map_some, Option.some.injEq] at hx'
        subst hx'
        obtain ⟨u, hu, hr⟩ := hargs.get t c hc
        have hlt : t < vals.length := (List.getElem?_eq_some_iff.1 hu).1
        rw [Array.getD_eq_getD_getElem?, Array.getElem?_append_left (by simpa using hlt)]
        simp only [List.getElem?_toArray, hu, Option.getD_some]
        exact hr
    hp := hh
    gl := fun k hk => by rw [hgl] at hk; cases hk
    keep := r.le_refl
    keys := fun id hid => by
      have : aget hp id ≠ none := fun he => hid ((hh.dom id).2 he)
      rw [← hkeys]
      rw [ne_eq, aget_keys, Decidable.not_not] at this
      exact this
    sub := fun f hf => hf }
  refine wp_mono (vc_sound hE body _ _ h (cw E.G r hp w) r _ w hrep) ?_
  rintro e a' w' ⟨st', r', h1, h2⟩
  have key : EndX E fn.results.toList res hp' st' → a'.defers = [] ∧ ∃ v, (results fn a'.tmps).run P w' = .ok v w' ∧ ∃ u r', Ending.returned v = .returned u ∧ r.le r' ∧ res.rel r' u ∧ HeapOk (cw E.G r hp w) r' hp' w' := fun ⟨g, hq⟩ => by
    unfold endQ at hq
    split at hq
    · rename_i cs ob hre
      obtain ⟨hob, hlv, hd, hks, hhp⟩ := hq
      obtain ⟨u, hu, hr⟩ := results_run hE h2 hre hob
      refine ⟨h2.defers, u, hu, u, r'.under g (keysOf hp'), rfl, fun id p hid => ?_, ?_, Canon.heap hd hhp h2.hp⟩
      · have hk := h2.keys id (by show r id ≠ none; rw [hid]; simp)
        have := List.all_eq_true.1 hks id hk
        simp only [Bool.and_eq_true] at this
        have e : rn g id = id := by simpa using this.1
        simp only [Lc.under, this.2, if_true, e]
        exact h2.keep id p hid
      · rcases hlv with hlv | ⟨h3, h4⟩
        · subst hlv; trivial
        · rw [← h3, SV.rel_ren] at hr
          exact SV.rel_agree (under_agree h4) hr
    · exact hq.elim
  cases e <;> first
    | exact key h1
    | exact h1.elim
end
end Go.Proofs.YtahiopdkekkibaaGreatDoor

/-
  A walk by reckoning, part 22: a function that reads a package's table. It speaks of no program.
-/
namespace Go.Proofs.YtahiopdkekkibaaGreatDoor
open Go Go.RowKit
set_option linter.unusedVariables false
set_option linter.unusedSimpArgs false
/-- A package's table as one more object: nobody writes it. -/
theorem HeapOk.table {G : List GFact} {r : Lc} {hp : List (Nat × Ent)} {w : World} (hh : HeapOk (cw G r hp w) r hp w) {id g c : Nat} {o : SObj} (hid : aget hp id = none) {f : GFact} (hf : f ∈ G) (hfg : f.g = g) (hob : ∀ r, f.p w → ObjRel r w (some ((g, some 0), c)) o) :
    HeapOk (cw G r hp w) (r.add id (some ((g, some 0), c))) (aset hp id ⟨o, false⟩) w := by
  have hle := Lc.add_le ((hh.dom id).2 hid) (some ((g, some 0), c))
  obtain ⟨hp0, hwb⟩ := hh.glob f hf
  have hp0 : f.p w := hp0
  have hlt := f.lt w hp0
  rw [hfg] at hlt hwb
  exact {
    dom := fun k => by
      rw [aget_aset]
      by_cases e : id = k
      · subst e; simp [Lc.add_same]
      · rw [if_neg e, Lc.add_other _ _ (Ne.symm e)]; exact hh.dom k
    obj := fun k e p he hp' => by
      rw [aget_aset] at he
      by_cases h : id = k
      · subst h
        rw [if_pos rfl] at he
        cases he
        rw [Lc.add_same] at hp'
        cases hp'
        exact hob _ hp0
      · rw [if_neg h] at he
        rw [Lc.add_other _ _ (Ne.symm h)] at hp'
        exact (hh.obj k e p he hp').le hle
    inj := fun i j e1 f1 g1 g2 c1 d1 hi hj li lj ri rj wi hg => by
      rw [aget_aset] at hi hj
      by_cases ei : id = i
      · subst ei
        rw [if_pos rfl] at hi
        cases hi
        cases wi
      · rw [if_neg ei] at hi
        rw [Lc.add_other _ _ (Ne.symm ei)] at ri
        by_cases ej : id = j
        · subst ej
          rw [Lc.add_same] at rj
          cases rj
          rcases (hh.own i e1 g1 c1 hi li wi ri).2 with h | h
          · rw [hg] at h; exact (hwb h).elim
          · rw [hg] at h
            have h : w.heap.size ≤ g := h
            omega
        · rw [if_neg ej] at hj
          rw [Lc.add_other _ _ (Ne.symm ej)] at rj
          exact hh.inj i j e1 f1 g1 g2 c1 d1 hi hj li lj ri rj wi hg
    own := fun k e g' c' he hl hw hr => by
      rw [aget_aset] at he
      by_cases h : id = k
      · subst h
        rw [if_pos rfl] at he
        cases he
        cases hw
      · rw [if_neg h] at he
        rw [Lc.add_other _ _ (Ne.symm h)] at hr
        exact hh.own k e g' c' he hl hw hr
    os := hh.os
    tape := hh.tape
    output := hh.output
    size := hh.size
    same := hh.same
    glob := hh.glob }
section
variable {P : Program} {E : Env}
theorem tri_ofg (hE : EnvOk P E) {f : FuncId} {fn : Func} {body : Code} (hf : P.funcs[f]? = some fn) (hb : fn.body = some body) (hn : fn.ntmps = E.nt) {rs : List ResultVar} (hrs : fn.results.toList = rs) {g c : Nat} {o : SObj} {gf : GFact} (hgl : E.gl = [g]) (hgf : gf ∈ E.G) (hgg : gf.g = g) (hob : ∀ r w, gf.p w → ObjRel r w (some ((g, some 0), c)) o) {args : List CV} {hp : List (Nat × Ent)} {res : SV} {hp' : List (Nat × Ent)} (hid : aget hp (gid g) = none) (hlen : args.length ≤ E.nt)
    (hkeys : keysOf hp = E.keys) (h : vc (⟨⟨numb 0 (args.map .c), aset hp (gid g) ⟨o, false⟩⟩⟩ : VTag P E body (retQx E rs res hp'))) : TriG P E.G f args hp res hp' := by
  subst hrs
  intro r w vals hargs hh
  have hvl := hargs.length
  refine calls_of_wp hf hb ?_
  have hle := Lc.add_le ((hh.dom (gid g)).2 hid) (some ((g, some 0), c))
  have hrep : RepE P E (cw E.G r hp w) (r.add (gid g) (some ((g, some 0), c))) ⟨numb 0 (args.map .c), aset hp (gid g) ⟨o, false⟩⟩ { tmps := vals.toArray ++ Array.replicate (fn.ntmps - vals.toArray.size) undef, defers := [] } w := {
    nt := by simp; omega
    defers := rfl
    fr := fun t x hx => by
      have hx' : (args.map SV.c)[t]? = some x := by
        have := aget_numb (args.map SV.c) 0 t
        simp only [Nat.zero_le, if_true, Nat.sub_zero] at this
        rw [← this]; exact hx
      rw [List.getElem?_map] at hx'
      cases hc : args[t]? with
      | none => rw [hc] at hx'; cases hx'
      | some c =>
        rw [hc] at hx'
        simp only [Option.map_some, Option.some.injEq] at hx'
        subst hx'
        obtain ⟨u, hu, hr⟩ := hargs.get t c hc
        have hlt : t < vals.length := (List.getElem?_eq_some_iff.1 hu).1
        rw [Array.getD_eq_getD_getElem?, Array.getElem?_append_left (by simpa using hlt)]
        simp only [List.getElem?_toArray, hu, Option.getD_some]
        exact SV.rel_le hle hr
    hp := hh.table hid hgf hgg (fun r hp => hob r w hp)
    gl := fun k hk => by
      rw [hgl] at hk
      obtain rfl : k = g := by simpa using hk
      exact ⟨some 0, c, Lc.add_same _ _ _, rfl⟩
    keep := hle
    keys := fun id hid => by
      have : aget hp id ≠ none := fun he => hid ((hh.dom id).2 he)
      rw [← hkeys]
      rw [ne_eq, aget_keys, Decidable.not_not] at this
      exact this
    sub := fun f hf => hf }
  refine wp_mono (vc_sound hE body _ _ h (cw E.G r hp w) _ _ w hrep) ?_
  rintro e a' w' ⟨st', r', h1, h2⟩
  have key : EndX E fn.results.toList res hp' st' → a'.defers = [] ∧ ∃ v, (results fn a'.tmps).run P w' = .ok v w' ∧ ∃ u r', Ending.returned v = .returned u ∧ r.le r' ∧ res.rel r' u ∧ HeapOk (cw E.G r hp w) r' hp' w' := fun ⟨g, hq⟩ => by
    unfold endQ at hq
    split at hq
    · rename_i cs ob hre
      obtain ⟨hob, hlv, hd, hks, hhp⟩ := hq
      obtain ⟨u, hu, hr⟩ := results_run hE h2 hre hob
      refine ⟨h2.defers, u, hu, u, r'.under g (keysOf hp'), rfl, fun id p hid => ?_, ?_, Canon.heap hd hhp h2.hp⟩
      · have hk := h2.keys id (by show r id ≠ none; rw [hid]; simp)
        have := List.all_eq_true.1 hks id hk
        simp only [Bool.and_eq_true] at this
        have e : rn g id = id := by simpa using this.1
        simp only [Lc.under, this.2, if_true, e]
        exact h2.keep id p hid
      · rcases hlv with hlv | ⟨h3, h4⟩
        · subst hlv; trivial
        · rw [← h3, SV.rel_ren] at hr
          exact SV.rel_agree (under_agree h4) hr
    · exact hq.elim
  cases e <;> first
    | exact key h1
    | exact h1.elim
end
end Go.Proofs.YtahiopdkekkibaaGreatDoor

/-
  What is known of variables that nobody writes; contracts of library functions as the walk by reckoning takes them.
-/
namespace Go.Proofs.YtahiopdkekkibaaGreatDoor
open Go Go.RowKit
set_option linter.unusedSimpArgs false
set_option linter.unusedVariables false
theorem cell_same {w w' : World} {g : Nat} (h : w'.heap[g]? = w.heap[g]?) (j : Nat) : w'.cell? ⟨g, j, none⟩ = w.cell? ⟨g, j, none⟩ := by
  simp only [World.cell?, h]
def gInt (g : Nat) : GFact where
  g := g
  p w := ∃ m, w.cell? ⟨g, 0, none⟩ = some (.int .i64 m)
  lt w h := by obtain ⟨m, hm⟩ := h; exact Lib.lt_of_cell hm
  st w w' h hp := by obtain ⟨m, hm⟩ := hp; exact ⟨m, by rw [cell_same h]; exact hm⟩
def gIface (g : Nat) : GFact where
  g := g
  p w := ∃ v, w.cell? ⟨g, 0, none⟩ = some v ∧ (v = .nilIface ∨ ∃ te pe, v = .iface te pe)
  lt w h := by obtain ⟨m, hm, _⟩ := h; exact Lib.lt_of_cell hm
  st w w' h hp := by obtain ⟨m, hm, hv⟩ := hp; exact ⟨m, by rw [cell_same h]; exact hm, hv⟩
theorem tab_lt {P : Program} {w : World} {name : String} {k : IntKind} {zs : List Int} {g : Nat} (hg : P.globalNamed name = some g) (h : Lib.TabIs P w name k zs) : g < w.heap.size := by
  unfold Lib.TabIs World.var? at h
  rw [hg] at h
  simp only [Option.bind_some] at h
  cases hq : w.heap[g]? with
  | none => rw [hq] at h; cases h
  | some o => exact (Array.getElem?_eq_some_iff.1 hq).1
def gTab (P : Program) (name : String) (k : IntKind) (zs : List Int) (g : Nat) (hg : P.globalNamed name = some g) : GFact where
  g := g
  p w := Lib.TabIs P w name k zs
  lt w h := tab_lt hg h
  st w w' h hp := by
    unfold Lib.TabIs World.var? at hp ⊢
    rw [hg] at hp ⊢
    simp only [Option.bind_some] at hp ⊢
    rw [h]; exact hp
theorem below_drewN (w : World) (n : Nat) : Below w.heap.size w (w.drewN n) := ⟨rfl, rfl, rfl, Nat.le_refl _, fun _ _ => rfl⟩
theorem below_growN (w : World) (k : Nat) (os : Array Obj) : Below w.heap.size w (Sort.grow (w.drewN k) os) := ⟨rfl, rfl, rfl, by simp [Sort.grow, World.drewN], fun j hj => by
  show (w.heap ++ os)[j]? = _
  rw [Array.getElem?_append_left hj]⟩
theorem all2_one {R : CV → Value → Prop} {a : CV} {vals : List Value} (h : All2 R [a] vals) : ∃ u, vals = [u] ∧ R a u := by
  match vals, h with
  | [u], ⟨h1, _⟩ => exact ⟨u, rfl, h1⟩
theorem all2_two {R : CV → Value → Prop} {a b : CV} {vals : List Value} (h : All2 R [a, b] vals) : ∃ u v, vals = [u, v] ∧ R a u ∧ R b v := by
  match vals, h with
  | [u, v], ⟨h1, h2, _⟩ => exact ⟨u, v, rfl, h1, h2⟩
end Go.Proofs.YtahiopdkekkibaaGreatDoor

/-
  Rows of texts: as objects, and in contracts. It speaks of no program.
-/
namespace Go.Proofs.YtahiopdkekkibaaGreatDoor
open Go Go.RowKit
set_option linter.unusedSimpArgs false
set_option linter.unusedVariables false
def strL : Lay (List UInt8) where
  st := 1
  enc x := [.str x]
  d := []
  up x j ys := match ys with
    | [.str y] => if j = 0 then some y else none
    | _ => none
  toB := none
  ofB := none
  len _ := rfl
  put x j ys y h := by
    split at h
    · split at h
      · rename_i h0; injection h with h; subst h; subst h0; simp
      · cases h
    · cases h
  plain x v h := by simp at h; subst h; trivial
  bare x v h := by simp at h; subst h; trivial
  toB_ok f h x := by cases h
  ofB_ok f h x := by cases h
theorem strL_st : strL.st = 1 := rfl
theorem strL_d : strL.d = [] := rfl
theorem strL_enc (x : List UInt8) : strL.enc x = [.str x] := rfl
theorem strL_up (x y : List UInt8) : strL.up x 0 [.str y] = some y := rfl
theorem str_flat (l : List (List UInt8)) : l.flatMap strL.enc = l.map .str := by
  show l.flatMap (fun x => [AV.str x]) = _
  induction l with
  | nil => rfl
  | cons x l ih => rw [List.flatMap_cons, ih]; rfl
def toS : AV → List UInt8
  | .str x => x
  | _ => []
def strsOf (o : SObj) : List (List UInt8) := o.flat.map toS
def rowS (o : SObj) : Prop := o.live = true ∧ o.stride = 1 ∧ o.flat = (strsOf o).map .str
theorem strsOf_arr (l : List (List UInt8)) : strsOf (.arr _ strL l) = l := by
  unfold strsOf
  show (l.flatMap strL.enc).map toS = l
  rw [str_flat, List.map_map]
  conv => rhs; rw [← List.map_id l]
  exact List.map_congr_left fun x _ => rfl
theorem strsOf_cells (s : Nat) (xs : List AV) : strsOf (.cells s xs) = xs.map toS := rfl
theorem rowS_arr (l : List (List UInt8)) : rowS (.arr _ strL l) = True := by
  refine propext ⟨fun _ => trivial, fun _ => ⟨rfl, rfl, ?_⟩⟩
  rw [strsOf_arr]
  exact str_flat l
theorem rowS_cells (xs : List AV) : rowS (.cells 1 xs) = (xs = (xs.map toS).map .str) :=
  propext ⟨fun h => h.2.2, fun h => ⟨rfl, rfl, h⟩⟩
theorem simE_rowS {o : SObj} (h : rowS o) (w : Bool) : SimE ⟨.arr _ strL (strsOf o), w⟩ ⟨o, w⟩ := ⟨h.1.symm, h.2.1.symm, (str_flat _).trans h.2.2.symm, rfl⟩
theorem SimH.refl (l : List (Nat × Ent)) : SimH l l := fun id => ⟨fun e he => ⟨e, he, .refl _⟩, fun h => h⟩
def hpN (i : Nat) (news : List SObj) : List (Nat × Ent) := numb i (news.map fun o => ⟨o, true⟩)
theorem hpN_nil (i : Nat) : hpN i [] = [] := rfl
theorem hpN_cons (i : Nat) (o : SObj) (l : List SObj) : hpN i (o :: l) = (i, ⟨o, true⟩) :: hpN (i + 1) l := rfl
theorem numb_append {β : Type _} : ∀ (l m : List β) (i : Nat), numb i (l ++ m) = numb i l ++ numb (i + l.length) m
  | [], m, i => rfl
  | x :: l, m, i => by
    simp only [List.cons_append, numb, List.length_cons]
    rw [numb_append l m (i + 1), show i + 1 + l.length = i + (l.length + 1) by omega]
theorem aset_numb {β : Type _} (l : List β) (e : β) : ∀ (i : Nat), aset (numb i l) (i + l.length) e = numb i (l ++ [e]) := by
  induction l with
  | nil => intro i; rfl
  | cons x l ih =>
    intro i
    simp only [numb, List.cons_append, List.length_cons, aset]
    rw [if_neg (by omega), if_neg (by omega), show i + (l.length + 1) = i + 1 + l.length by omega, ih]
theorem newAll_numb (n : Nat) : ∀ (news : List SObj) (l : List Ent) (m : Nat), l.length = n + m → newAll (fun k => n + k) (numb 0 l) m news = numb 0 (l ++ news.map fun o => ⟨o, true⟩)
  | [], l, m, _ => by simp [newAll]
  | o :: news, l, m, h => by
    have := aset_numb l (⟨o, true⟩ : Ent) 0
    rw [Nat.zero_add] at this
    rw [newAll, ← h, this, newAll_numb n news _ (m + 1) (by simp; omega)]
    simp
theorem post_news (es : List Ent) (news : List SObj) : Con.post es [] news = numb 0 (es ++ news.map fun o => ⟨o, true⟩) := by
  unfold Con.post
  rw [setAllH_nil]
  exact newAll_numb es.length news es 0 rfl
/-- Contracts that read rows of texts, and make objects. -/
def conS (F : List CV → List (List (List UInt8)) → Option (SV × List SObj × List Prop)) : Con := ⟨false, fun args os => match F args (os.map strsOf) with
  | some (v, news, ob) => some (v, [], news, os.map rowS ++ ob)
  | none => none⟩
theorem AllT_map {α : Type _} {p : α → Prop} : ∀ {l : List α}, AllT (l.map p) → ∀ x ∈ l, p x
  | [], _, x, h => by cases h
  | y :: l, ⟨h1, h2⟩, x, h => by
    rcases List.mem_cons.1 h with rfl | h
    · exact h1
    · exact AllT_map h2 x h
section
variable {P : Program} {G : List GFact} {f : FuncId} {fn : Func}
theorem conS_ok (hf : P.funcs[f]? = some fn) (hb : fn.body.isSome = true) (hn : (fn.name == "runtime.NumGoroutine") = false) {F : List CV → List (List (List UInt8)) → Option (SV × List SObj × List Prop)}
    (h0 : ∀ args v news ob, F args [] = some (v, news, ob) → AllT ob → TriG P G f args [] v (hpN 0 news))
    (h1 : ∀ args a v news ob, F args [a] = some (v, news, ob) → AllT ob → ∀ wa, TriG P G f args [(0, ⟨.arr _ strL a, wa⟩)] v ((0, ⟨.arr _ strL a, wa⟩) :: hpN 1 news))
    (h2 : ∀ args a b v news ob, F args [a, b] = some (v, news, ob) → AllT ob → ∀ wa wb, TriG P G f args [(0, ⟨.arr _ strL a, wa⟩), (1, ⟨.arr _ strL b, wb⟩)] v ((0, ⟨.arr _ strL a, wa⟩) :: (1, ⟨.arr _ strL b, wb⟩) :: hpN 2 news))
    (h3 : ∀ args a b c l, F args (a :: b :: c :: l) = none) : ConOkG P G f (conS F) := by
  refine .inl ⟨⟨fn, hf, hb, hn⟩, fun args es res upd news ob hr hob _ => ?_⟩
  unfold conS at hr
  simp only at hr
  cases hF : F args ((es.map (·.o)).map strsOf) with
  | none => rw [hF] at hr; cases hr
  | some q =>
    obtain ⟨v, nw, ob'⟩ := q
    simp only [hF, Option.some.injEq, Prod.mk.injEq] at hr
    obtain ⟨rfl, rfl, rfl, rfl⟩ := hr
    obtain ⟨o1, o2⟩ := AllT.append.1 hob
    rw [post_news]
    match es, hF, o1 with
    | [], hF, _ => exact h0 args _ _ _ hF o2
    | [e], hF, o1 =>
      have s1 := simE_rowS o1.1 e.wr
      exact (h1 args _ _ _ _ hF o2 e.wr).sim (.cons s1 .nil) (.cons s1 (.refl _))
    | [e, e'], hF, o1 =>
      have s1 := simE_rowS o1.1 e.wr
      have s2 := simE_rowS o1.2.1 e'.wr
      exact (h2 args _ _ _ _ _ hF o2 e.wr e'.wr).sim (.cons s1 (.cons s2 .nil)) (.cons s1 (.cons s2 (.refl _)))
    | _ :: _ :: _ :: _, hF, _ =>
      simp only [List.map_cons] at hF
      rw [h3] at hF
      cases hF
end
/-- A row that may be nil. -/
def rowAV {α : Type} (id : Nat) (l : List α) : AV := if l.isEmpty then .val (.slice none 0 0) else .sl id 0 1 l.length
end Go.Proofs.YtahiopdkekkibaaGreatDoor

/-
  Contracts of the library functions that the program calls, at this translation (laid by the kit's own tool).
-/
namespace Go.Proofs
open Go.Shelf
def Tryz.lays160_ren : Go.Shelf.Ren := ⟨fun | 160 => 57 | 232 => 91 | 231 => 90 | 227 => 92 | 234 => 94 | 233 => 93 | 236 => 96 | 235 => 95 | 228 => 126 | 271 => 129 | 151 => 128 | 197 => 127 | 120 => 166 | 152 => 165 | 260 => 164 | 137 => 175 | 119 => 176 | 224 => 177 | 225 => 178 | 217 => 179 | 266 => 180 | n => n, fun | 9 => 9 | 4 => 4 | 3 => 3 | 5 => 5 | 117 => 125 | 116 => 124 | 0 => 0 | 124 => 128 | 21 => 21 | 105 => 149 | 46 => 84 | 119 => 191 | 139 => 194 | 138 => 193 | n => n, fun | 3 => 2 | 4 => 3 | n => n⟩
theorem Tryz.lays160 : Go.Proofs.Lays.n160 Tryz.prog Tryz.lays160_ren := {
  mixed := by kernel_rfl
  f119 := Tryz.func176.trans (congrArg some (by kernel_rfl))
  f120 := Tryz.func166.trans (congrArg some (by kernel_rfl))
  f137 := Tryz.func175.trans (congrArg some (by kernel_rfl))
  f151 := Tryz.func128.trans (congrArg some (by kernel_rfl))
  f152 := Tryz.func165.trans (congrArg some (by kernel_rfl))
  f160 := Tryz.func57.trans (congrArg some (by kernel_rfl))
  f197 := Tryz.func127.trans (congrArg some (by kernel_rfl))
  f217 := Tryz.func179.trans (congrArg some (by kernel_rfl))
  f224 := Tryz.func177.trans (congrArg some (by kernel_rfl))
  f225 := Tryz.func178.trans (congrArg some (by kernel_rfl))
  f227 := Tryz.func92.trans (congrArg some (by kernel_rfl))
  f228 := Tryz.func126.trans (congrArg some (by kernel_rfl))
  f231 := Tryz.func90.trans (congrArg some (by kernel_rfl))
  f232 := Tryz.func91.trans (congrArg some (by kernel_rfl))
  f233 := Tryz.func93.trans (congrArg some (by kernel_rfl))
  f234 := Tryz.func94.trans (congrArg some (by kernel_rfl))
  f235 := Tryz.func95.trans (congrArg some (by kernel_rfl))
  f236 := Tryz.func96.trans (congrArg some (by kernel_rfl))
  f260 := Tryz.func164.trans (congrArg some (by kernel_rfl))
  f266 := Tryz.func180.trans (congrArg some (by kernel_rfl))
  f271 := Tryz.func129.trans (congrArg some (by kernel_rfl))
  t0 := Tryz.underlying0
  a0 := Tryz.isAgg0
  z0 := Tryz.sizeOf0
  v0 := Tryz.zeroValue0
  t3 := Tryz.underlying3
  a3 := Tryz.isAgg3
  z3 := Tryz.sizeOf3
  v3 := Tryz.zeroValue3
  t4 := Tryz.underlying4
  a4 := Tryz.isAgg4
  z4 := Tryz.sizeOf4
  v4 := Tryz.zeroValue4
  t5 := Tryz.underlying5
  a5 := Tryz.isAgg5
  z5 := Tryz.sizeOf5
  v5 := Tryz.zeroValue5
  t9 := Tryz.underlying9
  a9 := Tryz.isAgg9
  z9 := Tryz.sizeOf9
  v9 := Tryz.zeroValue9
  t21 := Tryz.underlying21
  a21 := Tryz.isAgg21
  z21 := Tryz.sizeOf21
  v21 := Tryz.zeroValue21
  t46 := Tryz.underlying84
  a46 := Tryz.isAgg84
  z46 := Tryz.sizeOf84
  v46 := Tryz.zeroValue84
  t105 := Tryz.underlying149
  a105 := Tryz.isAgg149
  z105 := Tryz.sizeOf149
  v105 := Tryz.zeroValue149
  t116 := Tryz.underlying124
  a116 := Tryz.isAgg124
  z116 := Tryz.sizeOf124
  t117 := Tryz.underlying125
  a117 := Tryz.isAgg125
  z117 := Tryz.sizeOf125
  v117 := Tryz.zeroValue125
  t119 := Tryz.underlying191
  a119 := Tryz.isAgg191
  z119 := Tryz.sizeOf191
  t124 := Tryz.underlying128
  a124 := Tryz.isAgg128
  z124 := Tryz.sizeOf128
  v124 := Tryz.zeroValue128
  t138 := Tryz.underlying193
  a138 := Tryz.isAgg193
  z138 := Tryz.sizeOf193
  v138 := Tryz.zeroValue193
  t139 := Tryz.underlying194
  a139 := Tryz.isAgg194
  z139 := Tryz.sizeOf194
  v139 := Tryz.zeroValue194
  g3 := by kernel_rfl
  g4 := by kernel_rfl }
open Go.RowKit in
/-- strings.Trim: "Trim returns a slice of the string s with all leading and trailing Unicode code points contained in cutset removed.": AT A cutset OF ONE ASCII BYTE. THE WORLD BEHIND IT: as it was, or (where s is not empty) with ONE DRAW MORE off the tape: the statement 'return trimLeftByte(trimRightByte(s, c), c)' draws its order of evaluation. (LAID: no walk: one application.) -/
theorem Tryz.strings_Trim_one (s : ByteArray) (c : UInt8) (hc : c.toNat < 128) (w : World) (hs : s.size ≤ 9223372036854775807) :
    Calls Tryz.prog 57 #[.string s, .string ⟨#[c]⟩] w fun e w' => e = .returned (.string ⟨(Lib.trimB s.data.toList c).toArray⟩) ∧ (w' = w ∨ w' = w.drew) := Any.strings_Trim_one Tryz.lays160 s c hc w hs
def Tryz.lays105_ren : Go.Shelf.Ren := ⟨fun | 105 => 56 | 212 => 84 | 99 => 85 | 165 => 86 | 166 => 87 | 170 => 88 | 169 => 89 | 263 => 121 | 264 => 122 | 206 => 123 | 240 => 124 | 241 => 125 | 276 => 162 | 277 => 163 | n => n, fun | 9 => 9 | 3 => 3 | 4 => 4 | 20 => 20 | 0 => 0 | 46 => 84 | 109 => 111 | 5 => 5 | 72 => 115 | 76 => 119 | 51 => 97 | 146 => 143 | 53 => 88 | 148 => 145 | 70 => 113 | 37 => 85 | 75 => 118 | 127 => 147 | 164 => 180 | 80 => 69 | n => n, fun | n => n⟩
theorem Tryz.lays105 : Go.Proofs.Lays.n105 Tryz.prog Tryz.lays105_ren := {
  mixed := by kernel_rfl
  f99 := Tryz.func85.trans (congrArg some (by kernel_rfl))
  f105 := Tryz.func56.trans (congrArg some (by kernel_rfl))
  f165 := Tryz.func86.trans (congrArg some (by kernel_rfl))
  f166 := Tryz.func87.trans (congrArg some (by kernel_rfl))
  f169 := Tryz.func89.trans (congrArg some (by kernel_rfl))
  f170 := Tryz.func88.trans (congrArg some (by kernel_rfl))
  f206 := Tryz.func123.trans (congrArg some (by kernel_rfl))
  f212 := Tryz.func84.trans (congrArg some (by kernel_rfl))
  f240 := Tryz.func124.trans (congrArg some (by kernel_rfl))
  f241 := Tryz.func125.trans (congrArg some (by kernel_rfl))
  f263 := Tryz.func121.trans (congrArg some (by kernel_rfl))
  f264 := Tryz.func122.trans (congrArg some (by kernel_rfl))
  f276 := Tryz.func162.trans (congrArg some (by kernel_rfl))
  f277 := Tryz.func163.trans (congrArg some (by kernel_rfl))
  t0 := Tryz.underlying0
  a0 := Tryz.isAgg0
  z0 := Tryz.sizeOf0
  v0 := Tryz.zeroValue0
  t3 := Tryz.underlying3
  a3 := Tryz.isAgg3
  z3 := Tryz.sizeOf3
  v3 := Tryz.zeroValue3
  t4 := Tryz.underlying4
  a4 := Tryz.isAgg4
  z4 := Tryz.sizeOf4
  v4 := Tryz.zeroValue4
  t5 := Tryz.underlying5
  a5 := Tryz.isAgg5
  z5 := Tryz.sizeOf5
  v5 := Tryz.zeroValue5
  t9 := Tryz.underlying9
  a9 := Tryz.isAgg9
  z9 := Tryz.sizeOf9
  v9 := Tryz.zeroValue9
  t20 := Tryz.underlying20
  a20 := Tryz.isAgg20
  z20 := Tryz.sizeOf20
  v20 := Tryz.zeroValue20
  t37 := Tryz.underlying85
  a37 := Tryz.isAgg85
  z37 := Tryz.sizeOf85
  v37 := Tryz.zeroValue85
  t46 := Tryz.underlying84
  a46 := Tryz.isAgg84
  z46 := Tryz.sizeOf84
  v46 := Tryz.zeroValue84
  t51 := Tryz.underlying97
  a51 := Tryz.isAgg97
  z51 := Tryz.sizeOf97
  v51 := Tryz.zeroValue97
  t53 := Tryz.underlying88
  a53 := Tryz.isAgg88
  z53 := Tryz.sizeOf88
  v53 := Tryz.zeroValue88
  t70 := Tryz.underlying113
  a70 := Tryz.isAgg113
  z70 := Tryz.sizeOf113
  v70 := Tryz.zeroValue113
  t72 := Tryz.underlying115
  a72 := Tryz.isAgg115
  z72 := Tryz.sizeOf115
  v72 := Tryz.zeroValue115
  t75 := Tryz.underlying118
  a75 := Tryz.isAgg118
  z75 := Tryz.sizeOf118
  v75 := Tryz.zeroValue118
  t76 := Tryz.underlying119
  a76 := Tryz.isAgg119
  z76 := Tryz.sizeOf119
  v76 := Tryz.zeroValue119
  t109 := Tryz.underlying111
  a109 := Tryz.isAgg111
  z109 := Tryz.sizeOf111
  v109 := Tryz.zeroValue111
  t127 := Tryz.underlying147
  a127 := Tryz.isAgg147
  z127 := Tryz.sizeOf147
  v127 := Tryz.zeroValue147
  t146 := Tryz.underlying143
  a146 := Tryz.isAgg143
  z146 := Tryz.sizeOf143
  v146 := Tryz.zeroValue143
  t148 := Tryz.underlying145
  a148 := Tryz.isAgg145
  z148 := Tryz.sizeOf145
  v148 := Tryz.zeroValue145
  t164 := Tryz.underlying180
  a164 := Tryz.isAgg180
  z164 := Tryz.sizeOf180
  v164 := Tryz.zeroValue180 }
theorem Tryz.Builder_Extra_105 : Builder.Extra Tryz.prog Tryz.lays105_ren := {
  sizeBuilder := by kernel_rfl
  liesBuilder := by kernel_rfl
  t5 := Tryz.underlying5
  a5 := Tryz.isAgg5
  z5 := Tryz.sizeOf5
  v5 := Tryz.zeroValue5
  infoByte := by kernel_rfl
  cellsByte := by kernel_rfl
  sizeByte := by kernel_rfl
  neB5 := by decide }
open Go.RowKit Go.Lib in
/-- **strings.Repeat: count ≥ 0, the result within one allocation: count copies of s.** (LAID: no walk: one application.) -/
theorem Tryz.strings_Repeat (s : ByteArray) (c : Nat) (w : World) (hc : c ≤ 9223372036854775807) (hlen : s.size * c ≤ 140737488355328) :
    Calls Tryz.prog 56 #[.string s, .int .i64 c] w fun e w' => e = .returned (.string ⟨(Lib.repeatL s.data.toList c).toArray⟩) ∧ Below w.heap.size w w' := Any.strings_Repeat Tryz.lays105 Tryz.Builder_Extra_105 s c w hc hlen
end Go.Proofs

/-
  Layer 1: words, a round, the schedule of a block.
-/
namespace Go.Proofs.YtahiopdkekkibaaGreatDoor.FH
open Go Go.RowKit
set_option maxHeartbeats 4000000
set_option linter.unusedSimpArgs false
set_option linter.unusedVariables false
def ga0 : Nat → Option Con := fun _ => none
theorem ga0_ok : GaOk Tryz.prog ga0 := fun f con h => by cases h
noncomputable def envOf (ga : Nat → Option Con) (nt : Nat) : Env := ⟨ty, ga, [], nt, [], []⟩
theorem envOf_ok {ga : Nat → Option Con} (h : GaOk Tryz.prog ga) (nt : Nat) : EnvOk Tryz.prog (envOf ga nt) := ⟨ty_ok, h, by first | rfl | decide⟩
def u32L : Lay UInt32 where
  st := 1
  enc x := [.u32 x]
  d := 0
  up x j ys := match ys with
    | [.u32 y] => if j = 0 then some y else none
    | _ => none
  toB := none
  ofB := none
  len _ := rfl
  put x j ys y h := by
    split at h
    · split at h
      · rename_i h0
        injection h with h; subst h; subst h0; simp
      · cases h
    · cases h
  plain x v h := by simp at h; subst h; trivial
  bare x v h := by simp at h; subst h; trivial
  toB_ok f h x := by cases h
  ofB_ok f h x := by cases h
theorem u32L_st : u32L.st = 1 := rfl
theorem u32L_d : u32L.d = 0 := rfl
theorem u32L_enc (x : UInt32) : u32L.enc x = [.u32 x] := rfl
theorem u32L_up (x y : UInt32) : u32L.up x 0 [.u32 y] = some y := rfl
theorem u32_flat (l : List UInt32) : l.flatMap u32L.enc = l.map AV.u32 := by
  show l.flatMap (fun x : UInt32 => [AV.u32 x]) = _
  induction l with
  | nil => rfl
  | cons x l ih => rw [List.flatMap_cons, ih]; rfl
theorem u32_plain (l : List UInt32) : PlainL (l.map AV.u32) := fun y hy => by
  obtain ⟨x, _, rfl⟩ := List.mem_map.1 hy
  trivial
theorem u32_ren (f : Nat → Nat) (l : List UInt32) : (l.map AV.u32).map (AV.ren f) = l.map AV.u32 := by
  rw [List.map_map]; rfl
theorem u32_ids : ∀ l : List UInt32, (l.map AV.u32).flatMap AV.ids = []
  | [] => rfl
  | x :: l => by rw [List.map_cons, List.flatMap_cons, u32_ids l]; rfl
def rot32 (x : UInt32) (k : Int) : UInt32 := shl32 x (by64 k &&& 31).toNat ||| shr32 x (32 - (by64 k &&& 31)).toNat
theorem rot_tri (x : UInt32) (k : Int) : Tri Tryz.prog 168 [.one (.u32 x), .one (.num k)] [] (.c (.one (.u32 (rot32 x k)))) [] := by
  refine tri_of (envOf_ok ga0_ok 17) Tryz.func168 rfl rfl (rs := [.tmp 4]) rfl rfl (by simp [envOf]) rfl [] ?_
  simp only [envOf, go_sem]
  rfl
def rotC : Con := con0 fun args => match args with
  | [.one (.u32 x), .one (.num k)] => some (.c (.one (.u32 (rot32 x k))), [])
  | _ => none
theorem rotC_ok : ConOk Tryz.prog 168 rotC := con0_ok Tryz.func168 rfl rfl fun args res ob h hob => by
  split at h
  · injection h with h; injection h with h1 h2; subst h1; subst h2; exact rot_tri _ _
  · cases h
structure W8 where
  (a b c d e f g h : UInt32)
def W8.cv (v : W8) : CV := .agg [.u32 v.a, .u32 v.b, .u32 v.c, .u32 v.d, .u32 v.e, .u32 v.f, .u32 v.g, .u32 v.h]
theorem W8.eta (v : W8) : W8.mk v.a v.b v.c v.d v.e v.f v.g v.h = v := rfl
def mixE (e : UInt32) : UInt32 := rot32 e (-6) ^^^ rot32 e (-11) ^^^ rot32 e (-25)
def mixA (a : UInt32) : UInt32 := rot32 a (-2) ^^^ rot32 a (-13) ^^^ rot32 a (-22)
def roundT (v : W8) (w : UInt32) : UInt32 := v.h + mixE v.e + (v.e &&& v.f ^^^ (4294967295 ^^^ v.e) &&& v.g) + w
def roundW (v : W8) (w : UInt32) : W8 := ⟨roundT v w + mixA v.a + (v.a &&& v.b ^^^ v.a &&& v.c ^^^ v.b &&& v.c), v.a, v.b, v.c, v.d + roundT v w, v.e, v.f, v.g⟩
def ha1 : Nat → Option Con := fun f => match f with
  | 168 => some rotC
  | _ => none
theorem ha1_ok : GaOk Tryz.prog ha1 := fun f con h => by
  unfold ha1 at h
  split at h
  · injection h with h; subst h; exact rotC_ok
  · cases h
set_option maxRecDepth 100000 in
theorem round_tri (v : W8) (w : UInt32) : Tri Tryz.prog 173 [v.cv, .one (.u32 w)] [] (.c (roundW v w).cv) [] := by
  refine tri_of (envOf_ok ha1_ok 91) Tryz.func173 rfl rfl (rs := [.cell 4 173]) rfl rfl (by simp [envOf]) rfl [] ?_
  simp only [envOf, ha1, rotC, W8.cv, W8.eta, go_sem]
  repeat' apply And.intro
  all_goals first
    | rfl
    | trace_state
def roundC : Con := con0 fun args => match args with
  | [.agg [.u32 a, .u32 b, .u32 c, .u32 d, .u32 e, .u32 f, .u32 g, .u32 h], .one (.u32 w)] => some (.c (roundW ⟨a, b, c, d, e, f, g, h⟩ w).cv, [])
  | _ => none
theorem roundC_ok : ConOk Tryz.prog 173 roundC := con0_ok Tryz.func173 rfl rfl fun args res ob h hob => by
  split at h
  · injection h with h; injection h with h1 h2; subst h1; subst h2; exact round_tri ⟨_, _, _, _, _, _, _, _⟩ _
  · cases h
-- THE SCHEDULE
def wb (s : List UInt8) (t : Nat) : UInt32 := shl32 (s.getD (4 * t) 0).toUInt32 24 ||| shl32 (s.getD (4 * t + 1) 0).toUInt32 16 ||| shl32 (s.getD (4 * t + 2) 0).toUInt32 8 ||| (s.getD (4 * t + 3) 0).toUInt32
def nextW (l : List UInt32) (t : Nat) : UInt32 := l.getD (t - 16) 0 + (rot32 (l.getD (t - 15) 0) (-7) ^^^ rot32 (l.getD (t - 15) 0) (-18) ^^^ shr32 (l.getD (t - 15) 0) 3) + l.getD (t - 7) 0 + (rot32 (l.getD (t - 2) 0) (-17) ^^^ rot32 (l.getD (t - 2) 0) (-19) ^^^ shr32 (l.getD (t - 2) 0) 10)
def schedL (s : List UInt8) : Nat → List UInt32
  | 0 => []
  | t + 1 => schedL s t ++ [if t < 16 then wb s t else nextW (schedL s t) t]
theorem schedL_len (s : List UInt8) : ∀ t, (schedL s t).length = t
  | 0 => rfl
  | t + 1 => by rw [schedL, List.length_append, schedL_len s t]; rfl
def padW (l : List UInt32) : List UInt32 := l ++ List.replicate (64 - l.length) 0
theorem padW_get (l : List UInt32) (i : Nat) (h : i < l.length) : (padW l).getD i 0 = l.getD i 0 := by
  unfold padW
  rw [List.getD_eq_getElem?_getD, List.getElem?_append_left h, ← List.getD_eq_getElem?_getD]
theorem padW_set (l : List UInt32) (v : UInt32) (h : l.length < 64) : (padW l).set l.length v = padW (l ++ [v]) := by
  unfold padW
  rw [List.set_append_right _ _ (Nat.le_refl _), Nat.sub_self, show 64 - l.length = (63 - l.length) + 1 by omega, List.replicate_succ, List.set_cons_zero, List.length_append, List.length_singleton, show 64 - (l.length + 1) = 63 - l.length by omega, List.append_assoc]
  rfl
theorem padW_len (l : List UInt32) (h : l.length ≤ 64) : (padW l).length = 64 := by
  unfold padW
  rw [List.length_append, List.length_replicate]; omega
theorem padW_all (l : List UInt32) (h : l.length = 64) : padW l = l := by
  unfold padW
  rw [h, Nat.sub_self, List.replicate_zero, List.append_nil]
theorem padW_nil : (padW []).flatMap u32L.enc = [.u32 0, .u32 0, .u32 0, .u32 0, .u32 0, .u32 0, .u32 0, .u32 0, .u32 0, .u32 0, .u32 0, .u32 0, .u32 0, .u32 0, .u32 0, .u32 0, .u32 0, .u32 0, .u32 0, .u32 0, .u32 0, .u32 0, .u32 0, .u32 0, .u32 0, .u32 0, .u32 0, .u32 0, .u32 0, .u32 0, .u32 0, .u32 0, .u32 0, .u32 0, .u32 0, .u32 0, .u32 0, .u32 0, .u32 0, .u32 0, .u32 0, .u32 0, .u32 0, .u32 0, .u32 0, .u32 0, .u32 0, .u32 0, .u32 0, .u32 0, .u32 0, .u32 0, .u32 0, .u32 0, .u32 0, .u32 0, .u32 0, .u32 0, .u32 0, .u32 0, .u32 0, .u32 0, .u32 0, .u32 0] := by rw [u32_flat]; rfl
def z64 : List UInt32 := List.replicate 64 0
theorem z64_flat : z64.flatMap u32L.enc = [.u32 0, .u32 0, .u32 0, .u32 0, .u32 0, .u32 0, .u32 0, .u32 0, .u32 0, .u32 0, .u32 0, .u32 0, .u32 0, .u32 0, .u32 0, .u32 0, .u32 0, .u32 0, .u32 0, .u32 0, .u32 0, .u32 0, .u32 0, .u32 0, .u32 0, .u32 0, .u32 0, .u32 0, .u32 0, .u32 0, .u32 0, .u32 0, .u32 0, .u32 0, .u32 0, .u32 0, .u32 0, .u32 0, .u32 0, .u32 0, .u32 0, .u32 0, .u32 0, .u32 0, .u32 0, .u32 0, .u32 0, .u32 0, .u32 0, .u32 0, .u32 0, .u32 0, .u32 0, .u32 0, .u32 0, .u32 0, .u32 0, .u32 0, .u32 0, .u32 0, .u32 0, .u32 0, .u32 0, .u32 0] := by rw [u32_flat]; rfl
theorem z64_len : z64.length = 64 := rfl
def sc1 (s : List UInt8) (t : Nat) : St := ⟨[(0, .c (.one (.str s))), (2, .c (.one (.ptr 10000 0 0 0))), (3, .c (.one (.ptr 20000 0 0 0))), (10, .c (.one (.num t)))], [(10000, ⟨.arr UInt32 u32L z64, true⟩), (20000, ⟨.arr UInt32 u32L (padW (schedL s t)), true⟩)]⟩
def sc2 (s : List UInt8) (t : Nat) : St := ⟨[(2, .c (.one (.ptr 10000 0 0 0))), (3, .c (.one (.ptr 20000 0 0 0))), (5, .c (.one (.num t)))], [(10000, ⟨.arr UInt32 u32L z64, true⟩), (20000, ⟨.arr UInt32 u32L (padW (schedL s t)), true⟩)]⟩
set_option maxRecDepth 100000 in
theorem schedule_tri (s : List UInt8) (hs : s.length = 64) : Tri Tryz.prog 172 [.one (.str s)] [] (.c (.agg ((schedL s 64).map AV.u32))) [] := by
  refine tri_of (envOf_ok ha1_ok 89) Tryz.func172 rfl rfl (rs := [.cell 2 188]) rfl rfl (by simp [envOf]) rfl [] ?_
  simp only [envOf, ha1, rotC, go_sem]
  refine loop_inv (envOf_ok ha1_ok 89) (sc1 s) (fun t => t ≤ 16) (fun t => 16 - t) 0 [] (by omega) ?_ ?_
  · simp only [sc1, schedL, padW_nil, z64_flat, u32L_st, go_sem]
    all_goals first
      | exact ⟨rfl, rfl⟩
      | trace_state
  · intro t ht
    have hl := schedL_len s t
    have hp := padW_len (schedL s t) (by omega)
    simp only [sc1, envOf, ha1, rotC, go_sem]
    refine br (fun hc => ?_) fun hc => ?_
    · have hc' := of_decide_eq_true hc
      have w0 : IntKind.i64.wrap (4 * (t : Int)) = ((4 * t : Nat) : Int) := by rw [IntKind.wrap_i64]; omega
      have w1 : IntKind.i64.wrap (((4 * t : Nat) : Int) + 1) = ((4 * t + 1 : Nat) : Int) := by rw [IntKind.wrap_i64]; omega
      have w2 : IntKind.i64.wrap (((4 * t : Nat) : Int) + 2) = ((4 * t + 2 : Nat) : Int) := by rw [IntKind.wrap_i64]; omega
      have w3 : IntKind.i64.wrap (((4 * t : Nat) : Int) + 3) = ((4 * t + 3 : Nat) : Int) := by rw [IntKind.wrap_i64]; omega
      have w4 : IntKind.i64.wrap ((t : Int) + 1) = ((t + 1 : Nat) : Int) := by rw [IntKind.wrap_i64]; omega
      have hst := padW_set (schedL s t) (wb s t) (by omega)
      rw [hl] at hst
      have hsu : schedL s (t + 1) = schedL s t ++ [wb s t] := by rw [schedL, if_pos (by omega)]
      unfold wb at hst hsu
      simp only [hc, w0, w1, w2, w3, w4, hs, u32L_st, u32L_d, u32L_enc, u32L_up, envOf, ha1, rotC, go_sem]
      repeat' apply And.intro
      all_goals first
        | omega
        | rfl
        | skip
      refine again (t + 1) [] (by omega) (by omega) ?_
      simp only [sc1, hsu, hst, go_sem]
      all_goals first
        | rfl
        | trace_state
    · obtain rfl : t = 16 := by have := of_decide_eq_false hc; omega
      simp only [hc, envOf, ha1, rotC, go_sem]
      refine loop_inv (envOf_ok ha1_ok 89) (sc2 s) (fun t => 16 ≤ t ∧ t ≤ 64) (fun t => 64 - t) 16 [] ⟨by omega, by omega⟩ ?_ ?_
      · simp only [sc2, go_sem]
      · rintro t ⟨t1, t2⟩
        have hl := schedL_len s t
        have hp := padW_len (schedL s t) (by omega)
        simp only [sc2, envOf, ha1, rotC, go_sem]
        refine br (fun hc => ?_) fun hc => ?_
        · have hc' := of_decide_eq_true hc
          have w0 : IntKind.i64.wrap ((t : Int) - 15) = ((t - 15 : Nat) : Int) := by rw [IntKind.wrap_i64]; omega
          have w1 : IntKind.i64.wrap ((t : Int) - 2) = ((t - 2 : Nat) : Int) := by rw [IntKind.wrap_i64]; omega
          have w2 : IntKind.i64.wrap ((t : Int) - 16) = ((t - 16 : Nat) : Int) := by rw [IntKind.wrap_i64]; omega
          have w3 : IntKind.i64.wrap ((t : Int) - 7) = ((t - 7 : Nat) : Int) := by rw [IntKind.wrap_i64]; omega
          have w4 : IntKind.i64.wrap ((t : Int) + 1) = ((t + 1 : Nat) : Int) := by rw [IntKind.wrap_i64]; omega
          have r0 := padW_get (schedL s t) (t - 15) (by omega)
          have r1 := padW_get (schedL s t) (t - 2) (by omega)
          have r2 := padW_get (schedL s t) (t - 16) (by omega)
          have r3 := padW_get (schedL s t) (t - 7) (by omega)
          have hst := padW_set (schedL s t) (nextW (schedL s t) t) (by omega)
          rw [hl] at hst
          have hsu : schedL s (t + 1) = schedL s t ++ [nextW (schedL s t) t] := by rw [schedL, if_neg (by omega)]
          unfold nextW at hst hsu
          simp only [hc, w0, w1, w2, w3, w4, r0, r1, r2, r3, u32L_st, u32L_d, u32L_enc, u32L_up, envOf, ha1, rotC, go_sem]
          repeat' apply And.intro
          all_goals first
            | omega
            | rfl
            | skip
          refine again (t + 1) [] ⟨by omega, by omega⟩ (by omega) ?_
          simp only [sc2, hsu, hst, go_sem]
          all_goals first
            | rfl
            | trace_state
        · obtain rfl : t = 64 := by have := of_decide_eq_false hc; omega
          have h64 := schedL_len s 64
          have hpa := padW_all (schedL s 64) h64
          simp only [hc, hpa, u32_flat, u32L_st, List.length_map, h64, z64_len, envOf, ha1, rotC, go_sem]
          exact ⟨u32_plain _, by rw [u32_ren, List.take_of_length_le (by rw [List.length_map, h64]; exact Nat.le_refl _)], by rw [u32_ids]; rfl⟩
def scheduleC : Con := con0 fun args => match args with
  | [.one (.str s)] => some (.c (.agg ((schedL s 64).map AV.u32)), [s.length = 64])
  | _ => none
theorem scheduleC_ok : ConOk Tryz.prog 172 scheduleC := con0_ok Tryz.func172 rfl rfl fun args res ob h hob => by
  split at h
  · injection h with h; injection h with h1 h2; subst h1; subst h2; exact schedule_tri _ hob.1
  · cases h
end Go.Proofs.YtahiopdkekkibaaGreatDoor.FH

/-
  A state of eight words as an argument: how it is read, and laid. It speaks of no program.
-/
namespace Go.Proofs.YtahiopdkekkibaaGreatDoor.FH
open Go Go.ChangeShapes Go.WideShapes
set_option linter.unusedSimpArgs false
set_option linter.unusedVariables false
set_option linter.unusedSectionVars false
section
variable {H : Type} {enc : TypeId × Value → H} {P : Program} {k e : TypeId} {W : World} {base : Nat} {sp : Nat → Bool} {held : Bool}
def W8.val (x : W8) : Value := .agg #[.int .u32 (x.a.toNat : Int), .int .u32 (x.b.toNat : Int), .int .u32 (x.c.toNat : Int), .int .u32 (x.d.toNat : Int), .int .u32 (x.e.toNat : Int), .int .u32 (x.f.toNat : Int), .int .u32 (x.g.toNat : Int), .int .u32 (x.h.toNat : Int)]
def W8.data (x : W8) : DataW H := .agg [.lit (.int .u32 (x.a.toNat : Int)), .lit (.int .u32 (x.b.toNat : Int)), .lit (.int .u32 (x.c.toNat : Int)), .lit (.int .u32 (x.d.toNat : Int)), .lit (.int .u32 (x.e.toNat : Int)), .lit (.int .u32 (x.f.toNat : Int)), .lit (.int .u32 (x.g.toNat : Int)), .lit (.int .u32 (x.h.toNat : Int))]
end
end Go.Proofs.YtahiopdkekkibaaGreatDoor.FH

/-
  Layer 1: the table; the state behind a block.
-/
namespace Go.Proofs.YtahiopdkekkibaaGreatDoor.FH
open Go Go.RowKit
set_option maxHeartbeats 4000000
set_option linter.unusedSimpArgs false
set_option linter.unusedVariables false
def kL : List UInt32 := [0x428a2f98, 0x71374491, 0xb5c0fbcf, 0xe9b5dba5, 0x3956c25b, 0x59f111f1, 0x923f82a4, 0xab1c5ed5, 0xd807aa98, 0x12835b01, 0x243185be, 0x550c7dc3, 0x72be5d74, 0x80deb1fe, 0x9bdc06a7, 0xc19bf174, 0xe49b69c1, 0xefbe4786, 0x0fc19dc6, 0x240ca1cc, 0x2de92c6f, 0x4a7484aa, 0x5cb0a9dc, 0x76f988da, 0x983e5152, 0xa831c66d, 0xb00327c8, 0xbf597fc7, 0xc6e00bf3, 0xd5a79147, 0x06ca6351, 0x14292967, 0x27b70a85, 0x2e1b2138, 0x4d2c6dfc, 0x53380d13, 0x650a7354, 0x766a0abb, 0x81c2c92e, 0x92722c85, 0xa2bfe8a1, 0xa81a664b, 0xc24b8b70, 0xc76c51a3, 0xd192e819, 0xd6990624, 0xf40e3585, 0x106aa070, 0x19a4c116, 0x1e376c08, 0x2748774c, 0x34b0bcb5, 0x391c0cb3, 0x4ed8aa4a, 0x5b9cca4f, 0x682e6ff3, 0x748f82ee, 0x78a5636f, 0x84c87814, 0x8cc70208, 0x90befffa, 0xa4506ceb, 0xbef9a3f7, 0xc67178f2]
theorem kL_len : kL.length = 64 := rfl
noncomputable def gK : GFact := gTab Tryz.prog "mailsack/sha.constants" .u32 (kL.map fun x => (x.toNat : Int)) 0 (by kernel_rfl)
theorem gK_obj (r : Lc) (w : World) (h : gK.p w) : ObjRel r w (some (((0 : Nat), some 0), 64)) (.arr UInt32 u32L kL) := fun _ => by
  have h : Lib.TabIs Tryz.prog w "mailsack/sha.constants" .u32 (kL.map fun x => (x.toNat : Int)) := h
  unfold Lib.TabIs World.var? at h
  rw [show Tryz.prog.globalNamed "mailsack/sha.constants" = some 0 from by kernel_rfl] at h
  simp only [Option.bind_some] at h
  split at h
  · rename_i cs t fz hq
    injection h with h
    refine .inr ⟨(0, some 0), 64, cs, rfl, ⟨cs, t, fz, hq, fun j => rfl, fun e => by cases e⟩, ?_, ?_⟩
    · rw [h]; simp [kL_len, SObj.stride, u32L_st]
    · intro j x hx
      have hx : (kL.flatMap u32L.enc)[j]? = some x := hx
      rw [u32_flat, List.getElem?_map] at hx
      cases hy : kL[j]? with
      | none => rw [hy] at hx; cases hx
      | some y =>
        rw [hy] at hx
        cases hx
        exact ⟨.int .u32 (y.toNat : Int), by rw [h]; simp [hy], rfl⟩
  · cases h
noncomputable def envH (ga : Nat → Option Con) (nt : Nat) : Env := ⟨ty, ga, [0], nt, [], [gK]⟩
theorem envH_ok {ga : Nat → Option Con} (h : GaOkG Tryz.prog [gK] ga) (nt : Nat) : EnvOk Tryz.prog (envH ga nt) := ⟨ty_ok, h, by first | rfl | decide⟩
def ha2 : Nat → Option Con := fun f => match f with
  | 172 => some scheduleC
  | 173 => some roundC
  | _ => none
theorem ha2_ok : GaOkG Tryz.prog [gK] ha2 := fun f con h => by
  unfold ha2 at h
  split at h
  · injection h with h; subst h; exact ConOk.up scheduleC_ok
  · injection h with h; subst h; exact ConOk.up roundC_ok
  · cases h
def vS (st : W8) (s : List UInt8) : Nat → W8
  | 0 => st
  | t + 1 => roundW (vS st s t) ((schedL s 64).getD t 0 + kL.getD t 0)
def blockW (st : W8) (s : List UInt8) : W8 := ⟨(vS st s 64).a + st.a, (vS st s 64).b + st.b, (vS st s 64).c + st.c, (vS st s 64).d + st.d, (vS st s 64).e + st.e, (vS st s 64).f + st.f, (vS st s 64).g + st.g, (vS st s 64).h + st.h⟩
def W8.cells (v : W8) : SObj := .cells 1 [.u32 v.a, .u32 v.b, .u32 v.c, .u32 v.d, .u32 v.e, .u32 v.f, .u32 v.g, .u32 v.h]
def zero8 : W8 := ⟨0, 0, 0, 0, 0, 0, 0, 0⟩
def blI (st : W8) (s : List UInt8) (t : Nat) : St := ⟨[(2, .c (.one (.ptr 10000 0 0 0))), (4, .c (.one (.ptr 10008 0 0 0))), (5, .c (.one (.ptr 40016 0 0 0))), (6, .c (.one (.ptr 50008 0 0 0))), (16, .c (.one (.num t)))], [(10000, ⟨st.cells, true⟩), (10008, ⟨zero8.cells, true⟩), (40016, ⟨.arr UInt32 u32L (schedL s 64), true⟩), (50008, ⟨(vS st s t).cells, true⟩), (1000000000000000 + 0, ⟨.arr UInt32 u32L kL, false⟩)]⟩
set_option maxRecDepth 100000 in
theorem block_tri (st : W8) (s : List UInt8) : TriG Tryz.prog [gK] 156 [st.cv, .one (.str s)] [] (.c (if s.length = 64 then blockW st s else st).cv) [] := by
  refine tri_ofg (envH_ok ha2_ok 42) Tryz.func156 rfl rfl (rs := [.cell 4 173]) rfl (gf := gK) rfl (List.mem_singleton.2 rfl) rfl gK_obj rfl (by simp [envH]) rfl ?_
  cases h : ((s.length : Int) == 64) with
  | false =>
    have hn : s.length ≠ 64 := fun e => by rw [e] at h; exact absurd h (by decide)
    rw [if_neg hn]
    simp only [envH, ha2, h, W8.cv, W8.eta, gid, retQx, u32L_st, bne, go_sem]
    refine endX [] ?_
    simp only [envH, W8.cv, go_sem]
    all_goals trace_state
  | true =>
    have hs : s.length = 64 := by have := beq_iff_eq.1 h; omega
    have h64 := schedL_len s 64
    rw [if_pos hs]
    simp only [h, hs, envH, ha2, scheduleC, roundC, con0, W8.cv, W8.eta, gid, retQx, u32L_st, u32L_d, u32L_enc, bne, List.length_map, h64, kL_len, u32_ren, u32_flat, go_sem]
    refine ⟨u32_plain _, ?_⟩
    refine loop_inv (envH_ok ha2_ok 42) (blI st s) (fun t => t ≤ 64) (fun t => 64 - t) 0 [] (by omega) ?_ ?_
    · simp only [blI, vS, W8.cells, zero8, envH, ha2, scheduleC, roundC, con0, W8.cv, W8.eta, gid, retQx, u32L_st, u32L_d, u32L_enc, bne, List.length_map, h64, kL_len, u32_ren, u32_flat, go_sem]
      repeat' apply And.intro
      all_goals first
        | rfl
        | exact fun x hx => by obtain ⟨y, _, rfl⟩ := List.mem_map.1 hx; rfl
        | trace_state
    · intro t ht
      simp only [blI, W8.cells, zero8, envH, ha2, scheduleC, roundC, con0, W8.cv, W8.eta, gid, retQx, u32L_st, u32L_d, u32L_enc, bne, List.length_map, h64, kL_len, u32_ren, u32_flat, go_sem]
      refine br (fun hc => ?_) fun hc => ?_
      · have hc' := of_decide_eq_true hc
        have w4 : IntKind.i64.wrap ((t : Int) + 1) = ((t + 1 : Nat) : Int) := by rw [IntKind.wrap_i64]; omega
        simp only [hc, w4, envH, ha2, scheduleC, roundC, con0, W8.cv, W8.eta, gid, retQx, u32L_st, u32L_d, u32L_enc, bne, List.length_map, h64, kL_len, u32_ren, u32_flat, go_sem]
        repeat' apply And.intro
        all_goals first
          | omega
          | rfl
          | skip
        refine again (t + 1) [] (by omega) (by omega) ?_
        simp only [blI, vS, W8.cells, zero8, envH, ha2, scheduleC, roundC, con0, W8.cv, W8.eta, gid, retQx, u32L_st, u32L_d, u32L_enc, bne, List.length_map, h64, kL_len, u32_ren, u32_flat, go_sem]
        repeat' apply And.intro
        all_goals first
          | rfl
          | exact fun x hx => by obtain ⟨y, _, rfl⟩ := List.mem_map.1 hx; rfl
          | trace_state
      · obtain rfl : t = 64 := by have := of_decide_eq_false hc; omega
        simp only [hc, envH, ha2, scheduleC, roundC, con0, W8.cv, W8.eta, gid, retQx, u32L_st, u32L_d, u32L_enc, bne, List.length_map, h64, kL_len, u32_ren, u32_flat, go_sem]
        refine loop_rounds (envH_ok ha2_ok 42) 9 ?_
        simp only [envH, ha2, scheduleC, roundC, con0, W8.cv, W8.eta, gid, retQx, u32L_st, u32L_d, u32L_enc, bne, List.length_map, h64, kL_len, u32_ren, u32_flat, go_sem]
        repeat' apply And.intro
        all_goals first
          | rfl
          | skip
        refine endX [] ?_
        simp only [blockW, envH, ha2, scheduleC, roundC, con0, W8.cv, W8.eta, gid, retQx, u32L_st, u32L_d, u32L_enc, bne, List.length_map, h64, kL_len, u32_ren, u32_flat, go_sem]
        all_goals first
          | rfl
          | trace_state
end Go.Proofs.YtahiopdkekkibaaGreatDoor.FH

/-
  Layer 1: the document's block, walked.
-/
namespace Go.Proofs.YtahiopdkekkibaaGreatDoor.FH
open Go Go.RowKit
set_option maxHeartbeats 4000000
set_option linter.unusedSimpArgs false
set_option linter.unusedVariables false
def rgt (x : UInt32) (n : Nat) : UInt32 := shr32 x n ||| shl32 x (32 - n)
theorem right_tri (x : UInt32) (n : Nat) (hn : n ≤ 32) : Tri Tryz.prog 174 [.one (.u32 x), .one (.num (n : Nat))] [] (.c (.one (.u32 (rgt x n)))) [] := by
  have w : IntKind.i64.wrap (32 - (n : Int)) = ((32 - n : Nat) : Int) := by rw [IntKind.wrap_i64]; omega
  refine tri_of (envOf_ok ga0_ok 13) Tryz.func174 rfl rfl (rs := [.tmp 4]) rfl rfl (by simp [envOf]) rfl [] ?_
  simp only [envOf, w, go_sem]
  repeat' apply And.intro
  all_goals first
    | omega
    | rfl
    | trace_state
def rightC : Con := con0 fun args => match args with
  | [.one (.u32 x), .one (.num z)] => some (.c (.one (.u32 (rgt x z.toNat))), [0 ≤ z, z ≤ 32])
  | _ => none
theorem rightC_ok : ConOk Tryz.prog 174 rightC := con0_ok Tryz.func174 rfl rfl fun args res ob h hob => by
  split at h
  · rename_i x z
    injection h with h; injection h with h1 h2; subst h1; subst h2
    have := right_tri x z.toNat (by have := hob.2.1; omega)
    rw [Int.toNat_of_nonneg hob.1] at this
    exact this
  · cases h
def nextR (l : List UInt32) (t : Nat) : UInt32 := (rgt (l.getD (t - 15) 0) 7 ^^^ rgt (l.getD (t - 15) 0) 18 ^^^ shr32 (l.getD (t - 15) 0) 3) + (rgt (l.getD (t - 2) 0) 17 ^^^ rgt (l.getD (t - 2) 0) 19 ^^^ shr32 (l.getD (t - 2) 0) 10) + l.getD (t - 7) 0 + l.getD (t - 16) 0
def schedR (s : List UInt8) : Nat → List UInt32
  | 0 => []
  | t + 1 => schedR s t ++ [if t < 16 then wb s t else nextR (schedR s t) t]
theorem schedR_len (s : List UInt8) : ∀ t, (schedR s t).length = t
  | 0 => rfl
  | t + 1 => by rw [schedR, List.length_append, schedR_len s t]; rfl
def rT (v : W8) (k w : UInt32) : UInt32 := v.h + (rgt v.e 6 ^^^ rgt v.e 11 ^^^ rgt v.e 25) + (v.e &&& v.f ||| (4294967295 - v.e) &&& v.g) + k + w
def rU (v : W8) : UInt32 := (rgt v.a 2 ^^^ rgt v.a 13 ^^^ rgt v.a 22) + (v.a &&& v.b ||| v.a &&& v.c ||| v.b &&& v.c)
def roundR (v : W8) (k w : UInt32) : W8 := ⟨rT v k w + rU v, v.a, v.b, v.c, v.d + rT v k w, v.e, v.f, v.g⟩
def vR (K : List UInt32) (h : W8) (s : List UInt8) : Nat → W8
  | 0 => h
  | t + 1 => roundR (vR K h s t) (K.getD t 0) ((schedR s 64).getD t 0)
def W8.l (v : W8) : List UInt32 := [v.a, v.b, v.c, v.d, v.e, v.f, v.g, v.h]
def blockR (K : List UInt32) (h : W8) (s : List UInt8) : W8 := ⟨h.a + (vR K h s 64).a, h.b + (vR K h s 64).b, h.c + (vR K h s 64).c, h.d + (vR K h s 64).d, h.e + (vR K h s 64).e, h.f + (vR K h s 64).f, h.g + (vR K h s 64).g, h.h + (vR K h s 64).h⟩
noncomputable def envU (ga : Nat → Option Con) (nt : Nat) (keys : List Nat) : Env := ⟨ty, ga, [], nt, keys, []⟩
theorem envU_ok {ga : Nat → Option Con} (h : GaOk Tryz.prog ga) (nt : Nat) (keys : List Nat) : EnvOk Tryz.prog (envU ga nt keys) := ⟨ty_ok, h, by first | rfl | decide⟩
def hc1 : Nat → Option Con := fun f => match f with
  | 174 => some rightC
  | _ => none
theorem hc1_ok : GaOk Tryz.prog hc1 := fun f con h => by
  unfold hc1 at h
  split at h
  · injection h with h; subst h; exact rightC_ok
  · cases h
def rb1 (K : List UInt32) (h : W8) (s : List UInt8) (wk wh : Bool) : Nat → St
  | 0 => ⟨[(0, .c (.one (.sl 0 0 1 64))), (1, .c (.one (.sl 1 0 1 8))), (2, .c (.one (.str s))), (7, .c (.one (.val (.slice none 0 0)))), (8, .c (.one (.num 0)))], [(0, ⟨.arr UInt32 u32L K, wk⟩), (1, ⟨.arr UInt32 u32L h.l, wh⟩)]⟩
  | t + 1 => ⟨[(0, .c (.one (.sl 0 0 1 64))), (1, .c (.one (.sl 1 0 1 8))), (2, .c (.one (.str s))), (7, .c (.one (.sl 500 0 1 (t + 1)))), (8, .c (.one (.num (t + 1 : Nat))))], [(0, ⟨.arr UInt32 u32L K, wk⟩), (1, ⟨.arr UInt32 u32L h.l, wh⟩), (500, ⟨.arr UInt32 u32L (schedR s (t + 1)), true⟩)]⟩
def rb2 (K : List UInt32) (h : W8) (s : List UInt8) (wk wh : Bool) (t : Nat) : St := ⟨[(0, .c (.one (.sl 0 0 1 64))), (1, .c (.one (.sl 1 0 1 8))), (7, .c (.one (.sl 500 0 1 64))), (11, .c (.one (.u32 (vR K h s t).a))), (12, .c (.one (.u32 (vR K h s t).b))), (13, .c (.one (.u32 (vR K h s t).c))), (14, .c (.one (.u32 (vR K h s t).d))), (15, .c (.one (.u32 (vR K h s t).e))), (16, .c (.one (.u32 (vR K h s t).f))), (17, .c (.one (.u32 (vR K h s t).g))), (18, .c (.one (.u32 (vR K h s t).h))), (19, .c (.one (.num t)))], [(0, ⟨.arr UInt32 u32L K, wk⟩), (1, ⟨.arr UInt32 u32L h.l, wh⟩), (500, ⟨.arr UInt32 u32L (schedR s 64), true⟩)]⟩
set_option maxRecDepth 100000 in
theorem rblock_tri (K : List UInt32) (h : W8) (s : List UInt8) (wk wh : Bool) (hK : K.length = 64) (hs : s.length = 64) : Tri Tryz.prog 161 [.one (.sl 0 0 1 64), .one (.sl 1 0 1 8), .one (.str s)] [(0, ⟨.arr UInt32 u32L K, wk⟩), (1, ⟨.arr UInt32 u32L h.l, wh⟩)] (.c (.one (.sl 2 0 1 8))) [(0, ⟨.arr UInt32 u32L K, wk⟩), (1, ⟨.arr UInt32 u32L h.l, wh⟩), (2, ⟨.arr UInt32 u32L (blockR K h s).l, true⟩)] := by
  refine tri_ofx (envU_ok hc1_ok 236 [0, 1]) Tryz.func161 rfl rfl (rs := [.tmp 6]) rfl rfl (by simp [envU]) rfl ?_
  have hl8 : h.l.length = 8 := rfl
  simp only [envU, hc1, retQx, go_sem]
  refine loop_inv (envU_ok hc1_ok 236 [0, 1]) (rb1 K h s wk wh) (fun t => t ≤ 64) (fun t => 64 - t) 0 [] (by omega) ?_ ?_
  · simp only [rb1, go_sem]
    exact ⟨rfl, id, id⟩
  · intro t ht
    have hl := schedR_len s t
    have w0 : IntKind.i64.wrap (4 * (t : Int)) = ((4 * t : Nat) : Int) := by rw [IntKind.wrap_i64]; omega
    have w1 : IntKind.i64.wrap (((4 * t : Nat) : Int) + 1) = ((4 * t + 1 : Nat) : Int) := by rw [IntKind.wrap_i64]; omega
    have w2 : IntKind.i64.wrap (((4 * t : Nat) : Int) + 2) = ((4 * t + 2 : Nat) : Int) := by rw [IntKind.wrap_i64]; omega
    have w3 : IntKind.i64.wrap (((4 * t : Nat) : Int) + 3) = ((4 * t + 3 : Nat) : Int) := by rw [IntKind.wrap_i64]; omega
    have w4 : IntKind.i64.wrap ((t : Int) + 1) = ((t + 1 : Nat) : Int) := by rw [IntKind.wrap_i64]; omega
    rcases t with _ | t
    · have hsu : schedR s (0 + 1) = [wb s 0] := rfl
      unfold wb at hsu
      simp only [Nat.mul_zero, Nat.zero_add] at hsu
      simp only [rb1, hs, u32L_st, u32L_d, u32L_enc, u32L_up, envU, hc1, retQx, go_sem]
      repeat' apply And.intro
      all_goals first
        | omega
        | rfl
        | skip
      refine again (0 + 1) [(500, 70248)] (by omega) (by omega) ?_
      simp only [rb1, hsu, u32L_enc, envU, go_sem]
      all_goals first
        | exact ⟨rfl, id, id⟩
        | exact ⟨rfl, id, id, rfl⟩
        | trace_state
    · simp only [rb1, envU, hc1, retQx, go_sem]
      refine br (fun hc => ?_) fun hc => ?_
      · have hc' := of_decide_eq_true hc
        cases h16 : decide (((t + 1 : Nat) : Int) < 16) with
        | true =>
          have g16 := of_decide_eq_true h16
          have hsu : schedR s (t + 1 + 1) = schedR s (t + 1) ++ [wb s (t + 1)] := by rw [schedR, if_pos (by omega)]
          unfold wb at hsu
          simp only [hc, h16, w0, w1, w2, w3, w4, hs, u32L_st, u32L_d, u32L_enc, u32L_up, envU, hc1, retQx, go_sem]
          repeat' apply And.intro
          all_goals first
            | omega
            | rfl
            | skip
          refine again (t + 1 + 1) [(500, 70248)] (by omega) (by omega) ?_
          simp only [rb1, hsu, u32L_enc, envU, go_sem]
          all_goals first
            | exact ⟨rfl, id, id⟩
            | trace_state
        | false =>
          have g16 := of_decide_eq_false h16
          have z0 : IntKind.i64.wrap (((t + 1 : Nat) : Int) - 15) = ((t + 1 - 15 : Nat) : Int) := by rw [IntKind.wrap_i64]; omega
          have z1 : IntKind.i64.wrap (((t + 1 : Nat) : Int) - 2) = ((t + 1 - 2 : Nat) : Int) := by rw [IntKind.wrap_i64]; omega
          have z2 : IntKind.i64.wrap (((t + 1 : Nat) : Int) - 16) = ((t + 1 - 16 : Nat) : Int) := by rw [IntKind.wrap_i64]; omega
          have z3 : IntKind.i64.wrap (((t + 1 : Nat) : Int) - 7) = ((t + 1 - 7 : Nat) : Int) := by rw [IntKind.wrap_i64]; omega
          have hsu : schedR s (t + 1 + 1) = schedR s (t + 1) ++ [nextR (schedR s (t + 1)) (t + 1)] := by rw [schedR, if_neg (by omega)]
          unfold nextR at hsu
          simp only [hc, h16, z0, z1, z2, z3, w4, rightC, u32L_st, u32L_d, u32L_enc, u32L_up, envU, hc1, retQx, go_sem]
          repeat' apply And.intro
          all_goals first
            | omega
            | rfl
            | skip
          refine again (t + 1 + 1) [(500, 90248)] (by omega) (by omega) ?_
          simp only [rb1, hsu, u32L_enc, envU, go_sem]
          all_goals first
            | exact ⟨rfl, id, id⟩
            | trace_state
      · obtain rfl : t = 63 := by have := of_decide_eq_false hc; omega
        have hl64 : (schedR s 64).length = 64 := schedR_len s 64
        simp only [hc, hl8, W8.l, u32L_st, u32L_d, u32L_enc, envU, hc1, retQx, go_sem]
        refine ⟨rfl, ?_⟩
        refine loop_inv (envU_ok hc1_ok 236 [0, 1]) (rb2 K h s wk wh) (fun t => t ≤ 64) (fun t => 64 - t) 0 [] (by omega) ?_ ?_
        · simp only [rb2, vR, W8.l, envU, go_sem]
          all_goals first
            | exact ⟨rfl, id, id⟩
            | trace_state
        · intro t ht
          simp only [rb2, W8.l, envU, hc1, retQx, go_sem]
          refine br (fun hc => ?_) fun hc => ?_
          · have hc' := of_decide_eq_true hc
            have w4 : IntKind.i64.wrap ((t : Int) + 1) = ((t + 1 : Nat) : Int) := by rw [IntKind.wrap_i64]; omega
            simp only [hc, w4, hK, hl64, rightC, u32L_st, u32L_d, u32L_enc, envU, hc1, retQx, go_sem]
            repeat' apply And.intro
            all_goals first
              | omega
              | rfl
              | skip
            refine again (t + 1) [] (by omega) (by omega) ?_
            simp only [rb2, vR, roundR, rT, rU, W8.l, envU, go_sem]
            all_goals first
              | exact ⟨rfl, id, id⟩
              | trace_state
          · obtain rfl : t = 64 := by have := of_decide_eq_false hc; omega
            simp only [hc, u32L_st, u32L_d, u32L_enc, envU, hc1, retQx, go_sem]
            repeat' apply And.intro
            all_goals first
              | omega
              | rfl
              | skip
            refine endX [(2, 190320)] ?_
            simp only [blockR, W8.l, u32L_enc, u32L_st, envU, go_sem]
            all_goals first
              | exact ⟨rfl, id, id⟩
              | trace_state
end Go.Proofs.YtahiopdkekkibaaGreatDoor.FH

/-
  Layer 1: the first state, a state's bytes, what is added to a text.
-/
namespace Go.Proofs.YtahiopdkekkibaaGreatDoor.FH
open Go Go.RowKit
set_option maxHeartbeats 4000000
set_option linter.unusedSimpArgs false
set_option linter.unusedVariables false
def init8 : W8 := ⟨0x6a09e667, 0xbb67ae85, 0x3c6ef372, 0xa54ff53a, 0x510e527f, 0x9b05688c, 0x1f83d9ab, 0x5be0cd19⟩
theorem initial_tri : Tri Tryz.prog 155 [] [] (.c init8.cv) [] := by
  refine tri_of (envOf_ok ga0_ok 2) Tryz.func155 rfl rfl (rs := [.cell 0 173]) rfl rfl (by simp [envOf]) rfl [] ?_
  simp only [envOf, ga0, W8.cv, init8, go_sem]
  all_goals rfl
def initialC : Con := con0 fun args => match args with
  | [] => some (.c init8.cv, [])
  | _ => none
theorem initialC_ok : ConOk Tryz.prog 155 initialC := con0_ok Tryz.func155 rfl rfl fun args res ob h hob => by
  split at h
  · injection h with h; injection h with h1 h2; subst h1; subst h2; exact initial_tri
  · cases h
def outV (v : W8) : List UInt8 := [(shr32 v.a 24).toUInt8, (shr32 v.a 16).toUInt8, (shr32 v.a 8).toUInt8, v.a.toUInt8, (shr32 v.b 24).toUInt8, (shr32 v.b 16).toUInt8, (shr32 v.b 8).toUInt8, v.b.toUInt8, (shr32 v.c 24).toUInt8, (shr32 v.c 16).toUInt8, (shr32 v.c 8).toUInt8, v.c.toUInt8, (shr32 v.d 24).toUInt8, (shr32 v.d 16).toUInt8, (shr32 v.d 8).toUInt8, v.d.toUInt8, (shr32 v.e 24).toUInt8, (shr32 v.e 16).toUInt8, (shr32 v.e 8).toUInt8, v.e.toUInt8, (shr32 v.f 24).toUInt8, (shr32 v.f 16).toUInt8, (shr32 v.f 8).toUInt8, v.f.toUInt8, (shr32 v.g 24).toUInt8, (shr32 v.g 16).toUInt8, (shr32 v.g 8).toUInt8, v.g.toUInt8, (shr32 v.h 24).toUInt8, (shr32 v.h 16).toUInt8, (shr32 v.h 8).toUInt8, v.h.toUInt8]
set_option maxRecDepth 100000 in
theorem output_tri (v : W8) : Tri Tryz.prog 158 [v.cv] [] (.c (.one (.str (outV v)))) [] := by
  refine tri_of (envOf_ok ga0_ok 28) Tryz.func158 rfl rfl (rs := [.tmp 2]) rfl rfl (by simp [envOf]) rfl [] ?_
  simp only [envOf, ga0, W8.cv, go_sem]
  repeat' apply And.intro
  all_goals first
    | omega
    | rfl
    | skip
  refine loop_rounds (envOf_ok ga0_ok 28) 9 ?_
  simp only [envOf, ga0, outV, go_sem]
  repeat' apply And.intro
  all_goals first
    | omega
    | rfl
    | trace_state
def outputC : Con := con0 fun args => match args with
  | [.agg [.u32 a, .u32 b, .u32 c, .u32 d, .u32 e, .u32 f, .u32 g, .u32 h]] => some (.c (.one (.str (outV ⟨a, b, c, d, e, f, g, h⟩))), [])
  | _ => none
theorem outputC_ok : ConOk Tryz.prog 158 outputC := con0_ok Tryz.func158 rfl rfl fun args res ob h hob => by
  split at h
  · injection h with h; injection h with h1 h2; subst h1; subst h2; exact output_tri ⟨_, _, _, _, _, _, _, _⟩
  · cases h
end Go.Proofs.YtahiopdkekkibaaGreatDoor.FH

/-
  Layer 1: rows of words in contracts; the document's constants, first state and digest.
-/
namespace Go.Proofs.YtahiopdkekkibaaGreatDoor.FH
open Go Go.RowKit
set_option maxHeartbeats 4000000
set_option linter.unusedSimpArgs false
set_option linter.unusedVariables false
noncomputable abbrev GS : List GFact := [gK]
noncomputable def envS (ga : Nat → Option Con) (nt : Nat) : Env := ⟨ty, ga, [], nt, [], GS⟩
theorem envS_ok {ga : Nat → Option Con} (h : GaOkG Tryz.prog GS ga) (nt : Nat) : EnvOk Tryz.prog (envS ga nt) := ⟨ty_ok, h, by first | rfl | decide⟩
noncomputable def envSK (ga : Nat → Option Con) (nt : Nat) (keys : List Nat) : Env := ⟨ty, ga, [], nt, keys, GS⟩
theorem envSK_ok {ga : Nat → Option Con} (h : GaOkG Tryz.prog GS ga) (nt : Nat) (keys : List Nat) : EnvOk Tryz.prog (envSK ga nt keys) := ⟨ty_ok, h, by first | rfl | decide⟩
def hk0 : Nat → Option Con := fun f => match f with
  | _ => none
theorem hk0_ok : GaOkG Tryz.prog GS hk0 := fun f con h => by
  unfold hk0 at h
  split at h
  · cases h
/-- Contracts that read any rows, and make objects. -/
def conQ (F : List CV → List SObj → Option (SV × List SObj × List Prop)) : Con := ⟨false, fun args os => match F args os with
  | some (v, nw, ob) => some (v, [], nw, ob)
  | none => none⟩
theorem conQ_ok {P : Program} {G : List GFact} {f : FuncId} {fn : Func} (hf : P.funcs[f]? = some fn) (hb : fn.body.isSome = true) (hn : (fn.name == "runtime.NumGoroutine") = false) {F : List CV → List SObj → Option (SV × List SObj × List Prop)}
    (h1 : ∀ args (es : List Ent) v nw ob, F args (es.map (·.o)) = some (v, nw, ob) → AllT ob → TriG P G f args (numb 0 es) v (numb 0 (es ++ nw.map fun o => ⟨o, true⟩))) : ConOkG P G f (conQ F) := by
  refine .inl ⟨⟨fn, hf, hb, hn⟩, fun args es res upd news ob hr hob _ => ?_⟩
  unfold conQ at hr
  simp only at hr
  cases hF : F args (es.map (·.o)) with
  | none => rw [hF] at hr; cases hr
  | some q =>
    obtain ⟨v, nw, ob'⟩ := q
    simp only [hF, Option.some.injEq, Prod.mk.injEq] at hr
    obtain ⟨rfl, rfl, rfl, rfl⟩ := hr
    rw [post_news]
    exact h1 args es _ _ _ hF hob
def toU : AV → UInt32
  | .u32 x => x
  | _ => 0
def ursOf (o : SObj) : List UInt32 := o.flat.map toU
def rowU (o : SObj) : Prop := o.live = true ∧ o.stride = 1 ∧ o.flat = (ursOf o).map .u32
theorem ursOf_arr (l : List UInt32) : ursOf (.arr _ u32L l) = l := by
  unfold ursOf
  show (l.flatMap u32L.enc).map toU = l
  rw [u32_flat, List.map_map]
  conv => rhs; rw [← List.map_id l]
  exact List.map_congr_left fun x _ => rfl
theorem rowU_arr (l : List UInt32) : rowU (.arr _ u32L l) = True := by
  refine propext ⟨fun _ => trivial, fun _ => ⟨rfl, rfl, ?_⟩⟩
  rw [ursOf_arr]
  exact u32_flat l
theorem simE_rowU {o : SObj} (h : rowU o) (w : Bool) : SimE ⟨.arr _ u32L (ursOf o), w⟩ ⟨o, w⟩ := ⟨h.1.symm, h.2.1.symm, (u32_flat _).trans h.2.2.symm, rfl⟩
def w8 (l : List UInt32) : W8 := ⟨l.getD 0 0, l.getD 1 0, l.getD 2 0, l.getD 3 0, l.getD 4 0, l.getD 5 0, l.getD 6 0, l.getD 7 0⟩
theorem w8_l (v : W8) : w8 v.l = v := rfl
theorem l_w8 : ∀ {l : List UInt32}, l.length = 8 → (w8 l).l = l
  | [_, _, _, _, _, _, _, _], _ => rfl
theorem W8.l_len (v : W8) : v.l.length = 8 := rfl
def rblockQF : List CV → List SObj → Option (SV × List SObj × List Prop)
  | [.one (.sl 0 0 1 64), .one (.sl 1 0 1 8), .one (.str s)], [k, h] => some (.c (.one (.sl 2 0 1 8)), [.arr UInt32 u32L (blockR (ursOf k) (w8 (ursOf h)) s).l], [rowU k, rowU h, (ursOf k).length = 64, (ursOf h).length = 8, s.length = 64])
  | _, _ => none
def rblockQC : Con := conQ rblockQF
theorem rblockQC_ok : ConOkG Tryz.prog GS 161 rblockQC := ConOk.up <| conQ_ok Tryz.func161 rfl rfl fun args es v nw ob h hob => by
  unfold rblockQF at h
  split at h
  · rename_i s k h' heq
    match es, heq with
    | [e, e'], heq =>
      simp only [List.map_cons, List.map_nil, List.cons.injEq, and_true] at heq
      obtain ⟨rfl, rfl⟩ := heq
      simp only [Option.some.injEq, Prod.mk.injEq] at h
      obtain ⟨rfl, rfl, rfl⟩ := h
      obtain ⟨h1, h2, h3, h4, h5, _⟩ := hob
      have ht := rblock_tri (ursOf e.o) (w8 (ursOf e'.o)) s e.wr e'.wr h3 h5
      rw [l_w8 h4] at ht
      exact ht.sim (.cons (simE_rowU h1 e.wr) (.cons (simE_rowU h2 e'.wr) .nil)) (.cons (simE_rowU h1 e.wr) (.cons (simE_rowU h2 e'.wr) (.cons (.refl _) .nil)))
  · cases h
set_option maxRecDepth 100000 in
theorem rounds_tri : TriG Tryz.prog GS 159 [] [] (.c (.one (.sl 0 0 1 64))) [(0, ⟨.arr UInt32 u32L kL, true⟩)] := by
  refine tri_ofx (envSK_ok hk0_ok 2 []) Tryz.func159 rfl rfl (rs := [.tmp 0]) rfl rfl (by simp [envSK]) rfl ?_
  simp only [envSK, con0, conS, strsOf_arr, rowS_arr, strsOf_cells, rowS_cells, toS, strL_st, strL_d, strL_enc, strL_up, hpN_nil, hpN_cons, hk0, retQx, go_sem]
  refine endX [(0, 20000)] ?_
  simp only [kL, u32_flat, u32L_st, envSK, con0, conS, strsOf_arr, rowS_arr, strsOf_cells, rowS_cells, toS, strL_st, strL_d, strL_enc, strL_up, hpN_nil, hpN_cons, hk0, go_sem]
  all_goals first
    | rfl
    | trivial
    | trace_state
set_option maxRecDepth 100000 in
theorem rstate_tri : TriG Tryz.prog GS 160 [] [] (.c (.one (.sl 0 0 1 8))) [(0, ⟨.arr UInt32 u32L init8.l, true⟩)] := by
  refine tri_ofx (envSK_ok hk0_ok 2 []) Tryz.func160 rfl rfl (rs := [.tmp 0]) rfl rfl (by simp [envSK]) rfl ?_
  simp only [envSK, con0, conS, strsOf_arr, rowS_arr, strsOf_cells, rowS_cells, toS, strL_st, strL_d, strL_enc, strL_up, hpN_nil, hpN_cons, hk0, retQx, go_sem]
  refine endX [(0, 20000)] ?_
  simp only [W8.l, init8, u32_flat, u32L_st, envSK, con0, conS, strsOf_arr, rowS_arr, strsOf_cells, rowS_cells, toS, strL_st, strL_d, strL_enc, strL_up, hpN_nil, hpN_cons, hk0, go_sem]
  all_goals first
    | rfl
    | trivial
    | trace_state
def roundsF : List CV → List SObj → Option (SV × List SObj × List Prop)
  | [], [] => some (.c (.one (.sl 0 0 1 64)), [.arr UInt32 u32L kL], [])
  | _, _ => none
def rstateF : List CV → List SObj → Option (SV × List SObj × List Prop)
  | [], [] => some (.c (.one (.sl 0 0 1 8)), [.arr UInt32 u32L init8.l], [])
  | _, _ => none
def roundsC : Con := conQ roundsF
def rstateC : Con := conQ rstateF
theorem roundsC_ok : ConOkG Tryz.prog GS 159 roundsC := conQ_ok Tryz.func159 rfl rfl fun args es v nw ob h hob => by
  unfold roundsF at h
  split at h
  · rename_i heq
    obtain rfl : es = [] := List.map_eq_nil_iff.1 heq
    simp only [Option.some.injEq, Prod.mk.injEq] at h
    obtain ⟨rfl, rfl, rfl⟩ := h
    exact rounds_tri
  · cases h
theorem rstateC_ok : ConOkG Tryz.prog GS 160 rstateC := conQ_ok Tryz.func160 rfl rfl fun args es v nw ob h hob => by
  unfold rstateF at h
  split at h
  · rename_i heq
    obtain rfl : es = [] := List.map_eq_nil_iff.1 heq
    simp only [Option.some.injEq, Prod.mk.injEq] at h
    obtain ⟨rfl, rfl, rfl⟩ := h
    exact rstate_tri
  · cases h
end Go.Proofs.YtahiopdkekkibaaGreatDoor.FH

/-
  Layer 1: what is added to a text.
-/
namespace Go.Proofs.YtahiopdkekkibaaGreatDoor.FH
open Go Go.RowKit
set_option maxHeartbeats 4000000
set_option linter.unusedSimpArgs false
set_option linter.unusedVariables false
def padZ (n : Nat) : Nat := (119 - n % 64) % 64
def bcN (n : Nat) : UInt64 := by64 (n : Int) * 8
def padP (n : Nat) : Nat → List UInt8
  | 0 => 128 :: List.replicate (padZ n) 0
  | j + 1 => padP n j ++ [(shr64 (bcN n) (8 * (7 - j))).toUInt8]
theorem padP_len (n : Nat) : ∀ j, (padP n j).length = 1 + padZ n + j
  | 0 => by rw [padP, List.length_cons, List.length_replicate]; omega
  | j + 1 => by rw [padP, List.length_append, padP_len n j, List.length_singleton]; omega
theorem pad_flat (z : Nat) : (128 :: List.replicate z (0 : UInt8)).flatMap u8L.enc = AV.u8 128 :: List.replicate z (AV.u8 0) := by
  rw [List.flatMap_cons]
  show AV.u8 128 :: (List.replicate z (0 : UInt8)).flatMap u8L.enc = _
  congr 1
  induction z with
  | zero => rfl
  | succ z ih => rw [List.replicate_succ, List.flatMap_cons, ih, List.replicate_succ]; rfl
def pdI (n : Nat) (j : Nat) : St := ⟨[(4, .c (.one (.sl 500 0 1 (1 + padZ n + j)))), (5, .c (.one (.u64 (bcN n)))), (6, .c (.one (.num (7 - (j : Int)))))], [(500, ⟨.arr UInt8 u8L (padP n j), true⟩)]⟩
set_option maxRecDepth 100000 in
theorem padding_tri (n : Nat) (hn : n ≤ 1000000000) : Tri Tryz.prog 157 [.one (.num (n : Nat))] [] (.c (.one (.str (padP n 8)))) [] := by
  have m1 : ((n : Nat) : Int).tmod 64 = ((n % 64 : Nat) : Int) := by rw [show (64 : Int) = ((64 : Nat) : Int) from rfl, ← Int.ofNat_tmod]
  have w1 : IntKind.i64.wrap (119 - ((n % 64 : Nat) : Int)) = ((119 - n % 64 : Nat) : Int) := by rw [IntKind.wrap_i64]; omega
  have m2 : ((119 - n % 64 : Nat) : Int).tmod 64 = ((padZ n : Nat) : Int) := by rw [show (64 : Int) = ((64 : Nat) : Int) from rfl, ← Int.ofNat_tmod]; rfl
  have hz : padZ n < 64 := Nat.mod_lt _ (by decide)
  have w2 : IntKind.i64.wrap (1 + ((padZ n : Nat) : Int)) = ((1 + padZ n : Nat) : Int) := by rw [IntKind.wrap_i64]; omega
  have w3 : IntKind.i64.wrap (9 + ((padZ n : Nat) : Int)) = ((9 + padZ n : Nat) : Int) := by rw [IntKind.wrap_i64]; omega
  have hdr : (List.replicate (1 + padZ n) (AV.u8 0)).drop 1 = List.replicate (padZ n) (AV.u8 0) := by rw [List.drop_replicate, Nat.add_sub_cancel_left]
  have hbc : by64 ((n : Nat) : Int) * 8 = bcN n := rfl
  refine tri_of (envOf_ok ga0_ok 35) Tryz.func157 rfl rfl (rs := [.tmp 2]) rfl rfl (by simp [envOf]) rfl [] ?_
  simp only [envOf, ga0, m1, w1, m2, w2, w3, hdr, hbc, List.length_replicate, go_sem]
  repeat' apply And.intro
  all_goals first
    | omega
    | rfl
    | skip
  refine loop_inv (envOf_ok ga0_ok 35) (pdI n) (fun j => j ≤ 8) (fun j => 8 - j) 0 [(500, 30032)] (by omega) ?_ ?_
  · simp only [pdI, padP, pad_flat, hdr, go_sem]
    all_goals first
      | trivial
      | trace_state
  · intro j hj
    have hl := padP_len n j
    have i1 : IntKind.i64.wrap (7 - (j : Int) - 1) = 7 - ((j + 1 : Nat) : Int) := by rw [IntKind.wrap_i64]; omega
    simp only [pdI, envOf, ga0, go_sem]
    refine br (fun hc => ?_) fun hc => ?_
    · have hc' := of_decide_eq_true hc
      have i2 : IntKind.i64.wrap (8 * (7 - (j : Int))) = ((8 * (7 - j) : Nat) : Int) := by rw [IntKind.wrap_i64]; omega
      have hs : 1 + padZ n + (j + 1) = 1 + padZ n + j + 1 := by omega
      simp only [hc, i1, i2, envOf, ga0, go_sem]
      repeat' apply And.intro
      all_goals first
        | omega
        | rfl
        | skip
      refine again (j + 1) [(500, 90056)] (by omega) (by omega) ?_
      simp only [pdI, padP, hs, envOf, ga0, go_sem]
      all_goals first
        | trivial
        | trace_state
    · obtain rfl : j = 8 := by have := of_decide_eq_false hc; omega
      have ht : (padP n 8).take (1 + padZ n + 8) = padP n 8 := List.take_of_length_le (by rw [hl]; exact Nat.le_refl _)
      simp only [hc, ht, envOf, ga0, go_sem]
      repeat' apply And.intro
      all_goals first
        | omega
        | rfl
        | trace_state
def paddingC : Con := con0 fun args => match args with
  | [.one (.num z)] => some (.c (.one (.str (padP z.toNat 8))), [0 ≤ z, z ≤ 1000000000])
  | _ => none
theorem paddingC_ok : ConOk Tryz.prog 157 paddingC := con0_ok Tryz.func157 rfl rfl fun args res ob h hob => by
  split at h
  · rename_i z
    injection h with h; injection h with h1 h2; subst h1; subst h2
    have := padding_tri z.toNat (by have := hob.2.1; omega)
    rw [Int.toNat_of_nonneg hob.1] at this
    exact this
  · cases h
end Go.Proofs.YtahiopdkekkibaaGreatDoor.FH

/-
  Layer 1: the digest.
-/
namespace Go.Proofs.YtahiopdkekkibaaGreatDoor.FH
open Go Go.RowKit
set_option maxHeartbeats 4000000
set_option linter.unusedSimpArgs false
set_option linter.unusedVariables false
def blockC : Con := con0 fun args => match args with
  | [.agg [.u32 a, .u32 b, .u32 c, .u32 d, .u32 e, .u32 f, .u32 g, .u32 h], .one (.str s)] => some (.c (blockW ⟨a, b, c, d, e, f, g, h⟩ s).cv, [s.length = 64])
  | _ => none
theorem blockC_ok : ConOkG Tryz.prog [gK] 156 blockC := con0_okG Tryz.func156 rfl rfl fun args res ob h hob => by
  split at h
  · rename_i a b c d e f g h' s
    injection h with h; injection h with h1 h2; subst h1; subst h2
    have := block_tri ⟨a, b, c, d, e, f, g, h'⟩ s
    rw [if_pos hob.1] at this
    exact this
  · cases h
noncomputable def envJ (ga : Nat → Option Con) (nt : Nat) : Env := ⟨ty, ga, [], nt, [], [gK]⟩
theorem envJ_ok {ga : Nat → Option Con} (h : GaOkG Tryz.prog [gK] ga) (nt : Nat) : EnvOk Tryz.prog (envJ ga nt) := ⟨ty_ok, h, by first | rfl | decide⟩
def hg1 : Nat → Option Con := fun f => match f with
  | 156 => some blockC
  | 155 => some initialC
  | 157 => some paddingC
  | 158 => some outputC
  | _ => none
theorem hg1_ok : GaOkG Tryz.prog [gK] hg1 := fun f con h => by
  unfold hg1 at h
  split at h
  · injection h with h; subst h; exact blockC_ok
  · injection h with h; subst h; exact ConOk.up initialC_ok
  · injection h with h; subst h; exact ConOk.up paddingC_ok
  · injection h with h; subst h; exact ConOk.up outputC_ok
  · cases h
def foldB (v : W8) (l : List UInt8) : Nat → W8
  | 0 => v
  | q + 1 => blockW (foldB v l q) ((l.drop (64 * q)).take 64)
def midS (s : List UInt8) : W8 := foldB init8 s (s.length / 64)
def lastS (s : List UInt8) : List UInt8 := s.drop (64 * (s.length / 64)) ++ padP s.length 8
def sumL (s : List UInt8) : List UInt8 := outV (foldB (midS s) (lastS s) ((lastS s).length / 64))
theorem lastS_len (s : List UInt8) : (lastS s).length % 64 = 0 ∧ (lastS s).length ≤ 192 := by
  unfold lastS
  rw [List.length_append, List.length_drop, padP_len]
  unfold padZ
  omega
def sm1 (s : List UInt8) (q : Nat) : St := ⟨[(0, .c (.one (.str s))), (3, .c (.one (.ptr 20008 0 0 0))), (4, .c (.one (.str (s.drop (64 * q)))))], [(20008, ⟨(foldB init8 s q).cells, true⟩)]⟩
def sm2 (s : List UInt8) (q : Nat) : St := ⟨[(3, .c (.one (.ptr 20008 0 0 0))), (5, .c (.one (.str ((lastS s).drop (64 * q)))))], [(20008, ⟨(foldB (midS s) (lastS s) q).cells, true⟩)]⟩
set_option maxRecDepth 100000 in
theorem sum_tri (s : List UInt8) (hs : s.length ≤ 1000000000) : TriG Tryz.prog [gK] 118 [.one (.str s)] [] (.c (.one (.str (sumL s)))) [] := by
  refine tri_of (envJ_ok hg1_ok 33) Tryz.func118 rfl rfl (rs := [.tmp 2]) rfl rfl (by simp [envJ]) rfl [] ?_
  have h00 : s.drop (64 * 0) = s := rfl
  simp only [envJ, hg1, blockC, initialC, paddingC, outputC, W8.cv, W8.eta, go_sem]
  repeat' apply And.intro
  all_goals first
    | rfl
    | skip
  refine loop_inv (envJ_ok hg1_ok 33) (sm1 s) (fun q => 64 * q ≤ s.length) (fun q => s.length - 64 * q) 0 [] (by omega) ?_ ?_
  · simp only [sm1, foldB, W8.cells, h00, go_sem]
    all_goals first
      | trivial
      | rfl
      | trace_state
  · intro q hq
    have hd : (s.drop (64 * q)).length = s.length - 64 * q := List.length_drop
    simp only [sm1, W8.cells, envJ, hg1, blockC, initialC, paddingC, outputC, con0, W8.cv, W8.eta, go_sem]
    refine br (fun hc => ?_) fun hc => ?_
    · have hc' := of_decide_eq_true hc
      have hdd : (s.drop (64 * q)).drop 64 = s.drop (64 * (q + 1)) := by rw [List.drop_drop, Nat.mul_add]
      have ht : ((s.drop (64 * q)).take 64).length = 64 := by rw [List.length_take]; omega
      have hta : (s.drop (64 * q)).take (s.length - 64 * q) = s.drop (64 * q) := List.take_of_length_le (by omega)
      simp only [hc, ht, hdd, envJ, hg1, blockC, con0, W8.cv, W8.eta, go_sem]
      repeat' apply And.intro
      all_goals first
        | omega
        | rfl
        | skip
      refine again (q + 1) [] (by omega) (by omega) ?_
      simp only [sm1, foldB, W8.cells, envJ, go_sem]
      all_goals first
        | trivial
        | rfl
        | trace_state
    · have hQ : q = s.length / 64 := by have := of_decide_eq_false hc; omega
      have hla : s.drop (64 * q) ++ padP s.length 8 = lastS s := by rw [hQ]; rfl
      have hmi : foldB init8 s q = midS s := by rw [hQ]; rfl
      obtain ⟨l1, l2⟩ := lastS_len s
      have hpl := padP_len s.length 8
      have hz : padZ s.length < 64 := Nat.mod_lt _ (by decide)
      have h01 : (lastS s).drop (64 * 0) = lastS s := rfl
      simp only [hc, hla, hmi, envJ, hg1, paddingC, con0, W8.cv, W8.eta, go_sem]
      repeat' apply And.intro
      all_goals first
        | omega
        | rfl
        | skip
      refine loop_inv (envJ_ok hg1_ok 33) (sm2 s) (fun q => 64 * q ≤ (lastS s).length) (fun q => (lastS s).length - 64 * q) 0 [] (by omega) ?_ ?_
      · simp only [sm2, foldB, W8.cells, h01, envJ, go_sem]
        all_goals first
          | trivial
          | rfl
          | trace_state
      · intro p hp
        have hd : ((lastS s).drop (64 * p)).length = (lastS s).length - 64 * p := List.length_drop
        simp only [sm2, W8.cells, envJ, hg1, con0, W8.cv, W8.eta, go_sem]
        refine br (fun hc => ?_) fun hc => ?_
        · have hc' := of_decide_eq_true hc
          have hdd : ((lastS s).drop (64 * p)).drop 64 = (lastS s).drop (64 * (p + 1)) := by rw [List.drop_drop, Nat.mul_add]
          have ht : (((lastS s).drop (64 * p)).take 64).length = 64 := by rw [List.length_take]; omega
          simp only [hc, ht, hdd, envJ, hg1, blockC, con0, W8.cv, W8.eta, go_sem]
          repeat' apply And.intro
          all_goals first
            | omega
            | rfl
            | skip
          refine again (p + 1) [] (by omega) (by omega) ?_
          simp only [sm2, foldB, W8.cells, envJ, go_sem]
          all_goals first
            | trivial
            | rfl
            | trace_state
        · have hP : p = (lastS s).length / 64 := by have := of_decide_eq_false hc; omega
          have hou : outV (foldB (midS s) (lastS s) p) = sumL s := by rw [hP]; rfl
          simp only [hc, hou, envJ, hg1, outputC, con0, W8.cv, W8.eta, go_sem]
          all_goals first
            | trivial
            | rfl
            | trace_state
def ssumC : Con := con0 fun args => match args with
  | [.one (.str s)] => some (.c (.one (.str (sumL s))), [s.length ≤ 1000000000])
  | _ => none
theorem ssumC_ok : ConOkG Tryz.prog [gK] 118 ssumC := con0_okG Tryz.func118 rfl rfl fun args res ob h hob => by
  split at h
  · injection h with h; injection h with h1 h2; subst h1; subst h2; exact sum_tri _ hob.1
  · cases h
end Go.Proofs.YtahiopdkekkibaaGreatDoor.FH

/-
  Layer 2: a key, padded; the keyed digest.
-/
namespace Go.Proofs.YtahiopdkekkibaaGreatDoor.FH
open Go Go.RowKit
set_option maxHeartbeats 4000000
set_option linter.unusedSimpArgs false
set_option linter.unusedVariables false
def keyZ (k : List UInt8) : List UInt8 := k ++ List.replicate (64 - k.length) 0
def xorM (l : List UInt8) (m : UInt8) : Nat → List UInt8
  | 0 => l
  | i + 1 => (xorM l m i).set i ((xorM l m i).getD i 0 ^^^ m)
theorem xorM_len (l : List UInt8) (m : UInt8) : ∀ i, (xorM l m i).length = l.length
  | 0 => rfl
  | i + 1 => by rw [xorM, List.length_set, xorM_len l m i]
theorem keyZ_len {k : List UInt8} (h : k.length ≤ 64) : (keyZ k).length = 64 := by
  unfold keyZ
  rw [List.length_append, List.length_replicate]; omega
def padM (k : List UInt8) (m : UInt8) : List UInt8 := xorM (keyZ k) m 64
theorem padM_len {k : List UInt8} (h : k.length ≤ 64) (m : UInt8) : (padM k m).length = 64 := by unfold padM; rw [xorM_len, keyZ_len h]
theorem u8_map (l : List UInt8) : l.flatMap u8L.enc = l.map AV.u8 := by
  show l.flatMap (fun x : UInt8 => [AV.u8 x]) = _
  induction l with
  | nil => rfl
  | cons x l ih => rw [List.flatMap_cons, ih]; rfl
theorem keyZ_flat (k : List UInt8) : (keyZ k).flatMap u8L.enc = k.map AV.u8 ++ List.replicate (64 - k.length) (AV.u8 0) := by
  rw [u8_map, keyZ, List.map_append, List.map_replicate]
def pmI (k : List UInt8) (m : UInt8) (i : Nat) : St := ⟨[(1, .c (.one (.u8 m))), (5, .c (.one (.sl 500 0 1 64))), (12, .c (.one (.num 64))), (13, .c (.one (.num i)))], [(500, ⟨.arr UInt8 u8L (xorM (keyZ k) m i), true⟩)]⟩
set_option maxRecDepth 100000 in
theorem mpad_tri (k : List UInt8) (m : UInt8) (hk : k.length ≤ 64) : Tri Tryz.prog 119 [.one (.str k), .one (.u8 m)] [] (.c (.one (.str (padM k m)))) [] := by
  have hmin : min 64 k.length = k.length := by omega
  have hmin' : min k.length 64 = k.length := by omega
  have htk : k.take k.length = k := List.take_length
  have hdr : (List.replicate 64 (AV.u8 0)).drop k.length = List.replicate (64 - k.length) (AV.u8 0) := List.drop_replicate
  refine tri_of (envOf_ok ga0_ok 26) Tryz.func119 rfl rfl (rs := [.tmp 4]) rfl rfl (by simp [envOf]) rfl [] ?_
  have htf : (k.flatMap u8L.enc).take k.length = k.map AV.u8 := by rw [u8_map]; exact List.take_of_length_le (by rw [List.length_map]; exact Nat.le_refl _)
  simp only [envOf, ga0, hmin, hmin', htk, hdr, htf, List.length_replicate, go_sem]
  refine loop_inv (envOf_ok ga0_ok 26) (pmI k m) (fun i => i ≤ 64) (fun i => 64 - i) 0 [(500, 20000)] (by omega) ?_ ?_
  · simp only [pmI, xorM, keyZ_flat, go_sem]
    all_goals first
      | trivial
      | trace_state
  · intro i hi
    have hl := xorM_len (keyZ k) m i
    rw [keyZ_len hk] at hl
    simp only [pmI, envOf, ga0, go_sem]
    refine br (fun hc => ?_) fun hc => ?_
    · have hc' := of_decide_eq_true hc
      have w4 : IntKind.i64.wrap ((i : Int) + 1) = ((i + 1 : Nat) : Int) := by rw [IntKind.wrap_i64]; omega
      simp only [hc, w4, envOf, ga0, go_sem]
      repeat' apply And.intro
      all_goals first
        | omega
        | rfl
        | skip
      refine again (i + 1) [] (by omega) (by omega) ?_
      simp only [pmI, xorM, go_sem]
      all_goals first
        | trivial
        | trace_state
    · obtain rfl : i = 64 := by have := of_decide_eq_false hc; omega
      have ht : (xorM (keyZ k) m 64).take 64 = padM k m := List.take_of_length_le (by omega)
      simp only [hc, hl, ht, envOf, ga0, go_sem]
      all_goals first
        | trivial
        | omega
        | trace_state
def mpadC : Con := con0 fun args => match args with
  | [.one (.str k), .one (.u8 m)] => some (.c (.one (.str (padM k m))), [k.length ≤ 64])
  | _ => none
theorem mpadC_ok : ConOk Tryz.prog 119 mpadC := con0_ok Tryz.func119 rfl rfl fun args res ob h hob => by
  split at h
  · injection h with h; injection h with h1 h2; subst h1; subst h2; exact mpad_tri _ _ hob.1
  · cases h
end Go.Proofs.YtahiopdkekkibaaGreatDoor.FH

/-
  Layer 1: the program's block is the document's.
-/
namespace Go.Proofs.YtahiopdkekkibaaGreatDoor.FH
open Go Go.RowKit
set_option linter.unusedSimpArgs false
set_option linter.unusedVariables false
theorem maj (a b c : UInt32) : a &&& b ||| a &&& c ||| b &&& c = a &&& b ^^^ a &&& c ^^^ b &&& c := by
  apply UInt32.toBitVec_inj.1
  simp only [UInt32.toBitVec_or, UInt32.toBitVec_xor, UInt32.toBitVec_and]
  ext i hi
  simp only [BitVec.getElem_or, BitVec.getElem_xor, BitVec.getElem_and]
  cases a.toBitVec[i] <;> cases b.toBitVec[i] <;> cases c.toBitVec[i] <;> rfl
theorem not_sub (e : UInt32) : 4294967295 - e = 4294967295 ^^^ e := by
  apply UInt32.toBitVec_inj.1
  simp only [UInt32.toBitVec_sub, UInt32.toBitVec_xor]
  show BitVec.allOnes 32 - e.toBitVec = BitVec.allOnes 32 ^^^ e.toBitVec
  rw [BitVec.allOnes_sub_eq_not, BitVec.allOnes_xor]
theorem cho (e f g : UInt32) : e &&& f ||| (4294967295 - e) &&& g = e &&& f ^^^ (4294967295 ^^^ e) &&& g := by
  rw [not_sub]
  apply UInt32.toBitVec_inj.1
  simp only [UInt32.toBitVec_or, UInt32.toBitVec_xor, UInt32.toBitVec_and]
  ext i hi
  have h1 : (UInt32.toBitVec 4294967295) = BitVec.allOnes 32 := rfl
  simp only [h1, BitVec.getElem_or, BitVec.getElem_xor, BitVec.getElem_and, BitVec.getElem_allOnes]
  cases e.toBitVec[i] <;> cases f.toBitVec[i] <;> cases g.toBitVec[i] <;> rfl
theorem rgt_2 (x : UInt32) : rgt x 2 = rot32 x (-2) := by
  show shr32 x 2 ||| shl32 x 30 = shl32 x (by64 (-2) &&& 31).toNat ||| shr32 x (32 - (by64 (-2) &&& 31)).toNat
  rw [show (by64 (-2) &&& 31).toNat = 30 from by decide, show (32 - (by64 (-2) &&& 31)).toNat = 2 from by decide, UInt32.or_comm]
theorem rgt_6 (x : UInt32) : rgt x 6 = rot32 x (-6) := by
  show shr32 x 6 ||| shl32 x 26 = shl32 x (by64 (-6) &&& 31).toNat ||| shr32 x (32 - (by64 (-6) &&& 31)).toNat
  rw [show (by64 (-6) &&& 31).toNat = 26 from by decide, show (32 - (by64 (-6) &&& 31)).toNat = 6 from by decide, UInt32.or_comm]
theorem rgt_7 (x : UInt32) : rgt x 7 = rot32 x (-7) := by
  show shr32 x 7 ||| shl32 x 25 = shl32 x (by64 (-7) &&& 31).toNat ||| shr32 x (32 - (by64 (-7) &&& 31)).toNat
  rw [show (by64 (-7) &&& 31).toNat = 25 from by decide, show (32 - (by64 (-7) &&& 31)).toNat = 7 from by decide, UInt32.or_comm]
theorem rgt_11 (x : UInt32) : rgt x 11 = rot32 x (-11) := by
  show shr32 x 11 ||| shl32 x 21 = shl32 x (by64 (-11) &&& 31).toNat ||| shr32 x (32 - (by64 (-11) &&& 31)).toNat
  rw [show (by64 (-11) &&& 31).toNat = 21 from by decide, show (32 - (by64 (-11) &&& 31)).toNat = 11 from by decide, UInt32.or_comm]
theorem rgt_13 (x : UInt32) : rgt x 13 = rot32 x (-13) := by
  show shr32 x 13 ||| shl32 x 19 = shl32 x (by64 (-13) &&& 31).toNat ||| shr32 x (32 - (by64 (-13) &&& 31)).toNat
  rw [show (by64 (-13) &&& 31).toNat = 19 from by decide, show (32 - (by64 (-13) &&& 31)).toNat = 13 from by decide, UInt32.or_comm]
theorem rgt_17 (x : UInt32) : rgt x 17 = rot32 x (-17) := by
  show shr32 x 17 ||| shl32 x 15 = shl32 x (by64 (-17) &&& 31).toNat ||| shr32 x (32 - (by64 (-17) &&& 31)).toNat
  rw [show (by64 (-17) &&& 31).toNat = 15 from by decide, show (32 - (by64 (-17) &&& 31)).toNat = 17 from by decide, UInt32.or_comm]
theorem rgt_18 (x : UInt32) : rgt x 18 = rot32 x (-18) := by
  show shr32 x 18 ||| shl32 x 14 = shl32 x (by64 (-18) &&& 31).toNat ||| shr32 x (32 - (by64 (-18) &&& 31)).toNat
  rw [show (by64 (-18) &&& 31).toNat = 14 from by decide, show (32 - (by64 (-18) &&& 31)).toNat = 18 from by decide, UInt32.or_comm]
theorem rgt_19 (x : UInt32) : rgt x 19 = rot32 x (-19) := by
  show shr32 x 19 ||| shl32 x 13 = shl32 x (by64 (-19) &&& 31).toNat ||| shr32 x (32 - (by64 (-19) &&& 31)).toNat
  rw [show (by64 (-19) &&& 31).toNat = 13 from by decide, show (32 - (by64 (-19) &&& 31)).toNat = 19 from by decide, UInt32.or_comm]
theorem rgt_22 (x : UInt32) : rgt x 22 = rot32 x (-22) := by
  show shr32 x 22 ||| shl32 x 10 = shl32 x (by64 (-22) &&& 31).toNat ||| shr32 x (32 - (by64 (-22) &&& 31)).toNat
  rw [show (by64 (-22) &&& 31).toNat = 10 from by decide, show (32 - (by64 (-22) &&& 31)).toNat = 22 from by decide, UInt32.or_comm]
theorem rgt_25 (x : UInt32) : rgt x 25 = rot32 x (-25) := by
  show shr32 x 25 ||| shl32 x 7 = shl32 x (by64 (-25) &&& 31).toNat ||| shr32 x (32 - (by64 (-25) &&& 31)).toNat
  rw [show (by64 (-25) &&& 31).toNat = 7 from by decide, show (32 - (by64 (-25) &&& 31)).toNat = 25 from by decide, UInt32.or_comm]
theorem next_eq (l : List UInt32) (t : Nat) : nextR l t = nextW l t := by
  unfold nextR nextW
  rw [rgt_7, rgt_18, rgt_17, rgt_19]
  ac_rfl
theorem sched_eq (s : List UInt8) : ∀ t, schedR s t = schedL s t
  | 0 => rfl
  | t + 1 => by rw [schedR, schedL, sched_eq s t, next_eq]
theorem round_eq (v : W8) (k w : UInt32) : roundR v k w = roundW v (w + k) := by
  have hT : rT v k w = roundT v (w + k) := by
    unfold rT roundT mixE
    rw [rgt_6, rgt_11, rgt_25, cho]
    ac_rfl
  have hU : rT v k w + rU v = roundT v (w + k) + mixA v.a + (v.a &&& v.b ^^^ v.a &&& v.c ^^^ v.b &&& v.c) := by
    unfold rU mixA
    rw [hT, rgt_2, rgt_13, rgt_22, maj, UInt32.add_assoc]
  unfold roundR roundW
  rw [hU, hT]
theorem v_eq (h : W8) (s : List UInt8) : ∀ t, vR kL h s t = vS h s t
  | 0 => rfl
  | t + 1 => by rw [vR, vS, v_eq h s t, round_eq, sched_eq]
theorem block_eq (h : W8) (s : List UInt8) : blockR kL h s = blockW h s := by
  unfold blockR blockW
  rw [v_eq]
  simp only [UInt32.add_comm]
end Go.Proofs.YtahiopdkekkibaaGreatDoor.FH

/-
  Layer 1: the document's digest, walked.
-/
namespace Go.Proofs.YtahiopdkekkibaaGreatDoor.FH
open Go Go.RowKit
set_option maxHeartbeats 4000000
set_option linter.unusedSimpArgs false
set_option linter.unusedVariables false
def hl1 : Nat → Option Con := fun f => match f with
  | 161 => some rblockQC
  | 159 => some roundsC
  | 160 => some rstateC
  | _ => none
theorem hl1_ok : GaOkG Tryz.prog GS hl1 := fun f con h => by
  unfold hl1 at h
  split at h
  · injection h with h; subst h; exact rblockQC_ok
  · injection h with h; subst h; exact roundsC_ok
  · injection h with h; subst h; exact rstateC_ok
  · cases h
def allP (s : List UInt8) (j : Nat) : List UInt8 := s ++ 128 :: List.replicate j 0
theorem allP_len (s : List UInt8) (j : Nat) : (allP s j).length = s.length + 1 + j := by
  unfold allP
  rw [List.length_append, List.length_cons, List.length_replicate]; omega
theorem allP_succ (s : List UInt8) (j : Nat) : allP s j ++ [0] = allP s (j + 1) := by
  unfold allP
  rw [List.append_assoc, List.cons_append, ← List.replicate_succ']
theorem allP_end (s : List UInt8) : allP s (padZ s.length) = s ++ padP s.length 0 := rfl
def fullS (s : List UInt8) : List UInt8 := s ++ padP s.length 8
theorem foldB_pre (v : W8) (a b : List UInt8) : ∀ q, 64 * q ≤ a.length → foldB v (a ++ b) q = foldB v a q
  | 0, _ => rfl
  | q + 1, h => by
    rw [foldB, foldB, foldB_pre v a b q (by omega), List.drop_append_of_le_length (by omega), List.take_append_of_le_length (by rw [List.length_drop]; omega)]
theorem foldB_app (v : W8) (a b : List UInt8) (m : Nat) (h : a.length = 64 * m) : ∀ q, foldB v (a ++ b) (m + q) = foldB (foldB v a m) b q
  | 0 => foldB_pre v a b m (by omega)
  | q + 1 => by
    rw [← Nat.add_assoc, foldB, foldB, foldB_app v a b m h q, List.drop_append, show 64 * (m + q) - a.length = 64 * q by omega, List.drop_eq_nil_of_le (by omega), List.nil_append]
theorem fullS_sum (s : List UInt8) : outV (foldB init8 (fullS s) ((fullS s).length / 64)) = sumL s := by
  have ha : (s.take (64 * (s.length / 64))).length = 64 * (s.length / 64) := by rw [List.length_take]; omega
  have he : fullS s = s.take (64 * (s.length / 64)) ++ lastS s := by
    unfold fullS lastS
    rw [← List.append_assoc, List.take_append_drop]
  have hl : (fullS s).length / 64 = s.length / 64 + (lastS s).length / 64 := by
    rw [he, List.length_append, ha, Nat.mul_add_div (by decide)]
  have hm : foldB init8 (s.take (64 * (s.length / 64))) (s.length / 64) = midS s := by
    have := foldB_pre init8 (s.take (64 * (s.length / 64))) (s.drop (64 * (s.length / 64))) (s.length / 64) (by omega)
    rw [List.take_append_drop] at this
    exact this.symm
  rw [hl, he, foldB_app _ _ _ _ ha, hm]
  rfl
def rs1 (s : List UInt8) (j : Nat) : St := ⟨[(0, .c (.one (.str s))), (3, .c (.one (.num s.length))), (4, .c (.one (.sl 500 0 1 (s.length + 1 + j))))], [(500, ⟨.arr UInt8 u8L (allP s j), true⟩)]⟩
def rs2 (s : List UInt8) (j : Nat) : St := ⟨[(3, .c (.one (.num s.length))), (4, .c (.one (.sl 500 0 1 (s.length + 1 + padZ s.length + j)))), (5, .c (.one (.num (7 - (j : Int)))))], [(500, ⟨.arr UInt8 u8L (s ++ padP s.length j), true⟩)]⟩
def rs3 (s : List UInt8) (q : Nat) : St := ⟨[(4, .c (.one (.sl 500 0 1 (fullS s).length))), (6, .c (.one (.sl 600 0 1 64))), (7, .c (.one (.sl 700 0 1 8))), (8, .c (.one (.num (64 * q : Nat))))], [(500, ⟨.arr UInt8 u8L (fullS s), true⟩), (600, ⟨.arr UInt32 u32L kL, true⟩), (700, ⟨.arr UInt32 u32L (foldB init8 (fullS s) q).l, true⟩)]⟩
def outI (V : W8) : Nat → List UInt8
  | 0 => []
  | i + 1 => outI V i ++ [(shr32 (V.l.getD i 0) 24).toUInt8] ++ [(shr32 (V.l.getD i 0) 16).toUInt8] ++ [(shr32 (V.l.getD i 0) 8).toUInt8] ++ [(V.l.getD i 0).toUInt8]
theorem outI_len (V : W8) : ∀ i, (outI V i).length = 4 * i
  | 0 => rfl
  | i + 1 => by simp only [outI, List.length_append, List.length_singleton, outI_len V i]; omega
theorem outI_end (V : W8) : outI V 8 = outV V := by
  obtain ⟨a, b, c, d, e, f, g, h⟩ := V
  simp only [outI, outV, W8.l, List.nil_append, List.cons_append, List.getD_cons_zero, List.getD_cons_succ]
def rs4 (V : W8) : Nat → St
  | 0 => ⟨[(9, .c (.one (.val (.slice none 0 0)))), (56, .c (.one (.sl 700 0 1 8))), (57, .c (.one (.num 8))), (58, .c (.one (.num 0)))], [(700, ⟨.arr UInt32 u32L V.l, true⟩)]⟩
  | i + 1 => ⟨[(9, .c (.one (.sl 800 0 1 (4 * (i + 1))))), (56, .c (.one (.sl 700 0 1 8))), (57, .c (.one (.num 8))), (58, .c (.one (.num (i + 1 : Nat))))], [(700, ⟨.arr UInt32 u32L V.l, true⟩), (800, ⟨.arr UInt8 u8L (outI V (i + 1)), true⟩)]⟩
set_option maxRecDepth 100000 in
theorem rsum_tri (s : List UInt8) (hs : s.length ≤ 1000000) : TriG Tryz.prog GS 120 [.one (.str s)] [] (.c (.one (.str (sumL s)))) [] := by
  refine tri_ofx (envSK_ok hl1_ok 85 []) Tryz.func120 rfl rfl (rs := [.tmp 2]) rfl rfl (by simp [envSK]) rfl ?_
  have hz : padZ s.length < 64 := Nat.mod_lt _ (by decide)
  simp only [envSK, con0, conS, strsOf_arr, rowS_arr, strsOf_cells, rowS_cells, toS, strL_st, strL_d, strL_enc, strL_up, hpN_nil, hpN_cons, hl1, rblockQC, roundsC, rstateC, retQx, go_sem]
  repeat' apply And.intro
  all_goals first
    | omega
    | rfl
    | skip
  refine loop_inv (envSK_ok hl1_ok 85 []) (rs1 s) (fun j => j ≤ padZ s.length) (fun j => padZ s.length - j) 0 [(500, 30024)] (by omega) ?_ ?_
  · simp only [rs1, allP, envSK, con0, conS, strsOf_arr, rowS_arr, strsOf_cells, rowS_cells, toS, strL_st, strL_d, strL_enc, strL_up, hpN_nil, hpN_cons, hl1, rblockQC, roundsC, rstateC, go_sem]
    all_goals first
      | trivial
      | trace_state
  · intro j hj
    have hl := allP_len s j
    have m1 : ((s.length + 1 + j : Nat) : Int).tmod 64 = (((s.length + 1 + j) % 64 : Nat) : Int) := by rw [show (64 : Int) = ((64 : Nat) : Int) from rfl, ← Int.ofNat_tmod]
    cases hk : ((((s.length + 1 + j) % 64 : Nat) : Int) == 56) with
    | false =>
      have hne : (s.length + 1 + j) % 64 ≠ 56 := fun e => by rw [e] at hk; cases hk
      have hlt : j < padZ s.length := by unfold padZ at hj hz ⊢; omega
      have hsu := allP_succ s j
      have hln : s.length + 1 + j + 1 = s.length + 1 + (j + 1) := rfl
      simp only [rs1, m1, hk, envSK, con0, conS, strsOf_arr, rowS_arr, strsOf_cells, rowS_cells, toS, strL_st, strL_d, strL_enc, strL_up, hpN_nil, hpN_cons, hl1, rblockQC, roundsC, rstateC, retQx, go_sem]
      repeat' apply And.intro
      all_goals first
        | omega
        | rfl
        | skip
      refine again (j + 1) [(500, 50016)] (by omega) (by omega) ?_
      simp only [rs1, hsu, hln, envSK, con0, conS, strsOf_arr, rowS_arr, strsOf_cells, rowS_cells, toS, strL_st, strL_d, strL_enc, strL_up, hpN_nil, hpN_cons, hl1, rblockQC, roundsC, rstateC, go_sem]
      all_goals first
        | trivial
        | trace_state
    | true =>
      have he : (s.length + 1 + j) % 64 = 56 := by have := eq_of_beq hk; omega
      obtain rfl : j = padZ s.length := by unfold padZ at hj hz ⊢; omega
      have hen := allP_end s
      simp only [rs1, m1, hk, hen, envSK, con0, conS, strsOf_arr, rowS_arr, strsOf_cells, rowS_cells, toS, strL_st, strL_d, strL_enc, strL_up, hpN_nil, hpN_cons, hl1, rblockQC, roundsC, rstateC, retQx, go_sem]
      refine loop_inv (envSK_ok hl1_ok 85 []) (rs2 s) (fun j => j ≤ 8) (fun j => 8 - j) 0 [] (by omega) ?_ ?_
      · simp only [rs2, envSK, con0, conS, strsOf_arr, rowS_arr, strsOf_cells, rowS_cells, toS, strL_st, strL_d, strL_enc, strL_up, hpN_nil, hpN_cons, hl1, rblockQC, roundsC, rstateC, go_sem]
        all_goals first
          | trivial
          | trace_state
      · intro j hj
        have hl := padP_len s.length j
        have hl2 : (s ++ padP s.length j).length = s.length + 1 + padZ s.length + j := by rw [List.length_append, hl]; omega
        have i1 : IntKind.i64.wrap (7 - (j : Int) - 1) = 7 - ((j + 1 : Nat) : Int) := by rw [IntKind.wrap_i64]; omega
        simp only [rs2, envSK, con0, conS, strsOf_arr, rowS_arr, strsOf_cells, rowS_cells, toS, strL_st, strL_d, strL_enc, strL_up, hpN_nil, hpN_cons, hl1, rblockQC, roundsC, rstateC, retQx, go_sem]
        refine br (fun hc => ?_) fun hc => ?_
        · have hc' := of_decide_eq_true hc
          have i2 : IntKind.i64.wrap (8 * (7 - (j : Int))) = ((8 * (7 - j) : Nat) : Int) := by rw [IntKind.wrap_i64]; omega
          have hbc : by64 ((s.length : Nat) : Int) * 8 = bcN s.length := rfl
          have hln : s.length + 1 + padZ s.length + j + 1 = s.length + 1 + padZ s.length + (j + 1) := rfl
          simp only [hc, i1, i2, hbc, hl2, envSK, con0, conS, strsOf_arr, rowS_arr, strsOf_cells, rowS_cells, toS, strL_st, strL_d, strL_enc, strL_up, hpN_nil, hpN_cons, hl1, rblockQC, roundsC, rstateC, retQx, go_sem]
          repeat' apply And.intro
          all_goals first
            | omega
            | rfl
            | skip
          refine again (j + 1) [(500, 90072)] (by omega) (by omega) ?_
          simp only [rs2, padP, hln, List.append_assoc, envSK, con0, conS, strsOf_arr, rowS_arr, strsOf_cells, rowS_cells, toS, strL_st, strL_d, strL_enc, strL_up, hpN_nil, hpN_cons, hl1, rblockQC, roundsC, rstateC, retQx, go_sem]
          all_goals first
            | trivial
            | trace_state
        · obtain rfl : j = 8 := by have := of_decide_eq_false hc; omega
          simp only [hc, envSK, con0, conS, strsOf_arr, rowS_arr, strsOf_cells, rowS_cells, toS, strL_st, strL_d, strL_enc, strL_up, hpN_nil, hpN_cons, hl1, rblockQC, roundsC, rstateC, conQ, roundsF, rstateF, retQx, go_sem]
          have hfl : s ++ padP s.length 8 = fullS s := rfl
          have hfn : s.length + 1 + padZ s.length + 8 = (fullS s).length := hl2.symm
          have hf64 : (fullS s).length % 64 = 0 := by rw [← hfn]; unfold padZ; omega
          have hfb : (fullS s).length ≤ 1000100 := by rw [← hfn]; omega
          rw [hfl, hfn]
          refine loop_inv (envSK_ok hl1_ok 85 []) (rs3 s) (fun q => 64 * q ≤ (fullS s).length) (fun q => (fullS s).length - 64 * q) 0 [(600, 100000), (700, 100008)] (by omega) ?_ ?_
          · simp only [rs3, foldB, envSK, con0, conS, strsOf_arr, rowS_arr, strsOf_cells, rowS_cells, toS, strL_st, strL_d, strL_enc, strL_up, hpN_nil, hpN_cons, hl1, rblockQC, roundsC, rstateC, go_sem]
            all_goals first
              | trivial
              | trace_state
          · intro q hq
            have hh8 := W8.l_len (foldB init8 (fullS s) q)
            simp only [rs3, envSK, con0, conS, strsOf_arr, rowS_arr, strsOf_cells, rowS_cells, toS, strL_st, strL_d, strL_enc, strL_up, hpN_nil, hpN_cons, hl1, rblockQC, roundsC, rstateC, conQ, rblockQF, retQx, go_sem]
            refine br (fun hc => ?_) fun hc => ?_
            · have hc' := of_decide_eq_true hc
              have a1 : IntKind.i64.wrap (((64 * q : Nat) : Int) + 64) = ((64 * (q + 1) : Nat) : Int) := by rw [IntKind.wrap_i64]; omega
              simp only [hc, a1, hh8, ursOf_arr, rowU_arr, w8_l, kL_len, block_eq, envSK, con0, conS, strsOf_arr, rowS_arr, strsOf_cells, rowS_cells, toS, strL_st, strL_d, strL_enc, strL_up, hpN_nil, hpN_cons, hl1, rblockQC, roundsC, rstateC, conQ, rblockQF, retQx, go_sem]
              repeat' apply And.intro
              all_goals first
                | omega
                | rfl
                | skip
              · rw [List.length_take, List.length_drop]; omega
              refine again (q + 1) [(700, 140064)] (by omega) (by omega) ?_
              have h64 : 64 * (q + 1) - 64 * q = 64 := by omega
              simp only [rs3, foldB, h64, envSK, con0, conS, strsOf_arr, rowS_arr, strsOf_cells, rowS_cells, toS, strL_st, strL_d, strL_enc, strL_up, hpN_nil, hpN_cons, hl1, rblockQC, roundsC, rstateC, go_sem]
              all_goals first
                | trivial
                | trace_state
            · have hQ : q = (fullS s).length / 64 := by have := of_decide_eq_false hc; omega
              have hou := fullS_sum s
              rw [← hQ] at hou
              generalize foldB init8 (fullS s) q = V at hou ⊢
              have hl8 := W8.l_len V
              simp only [hc, hl8, u32L_st, u32L_d, u32L_enc, envSK, con0, conS, strsOf_arr, rowS_arr, strsOf_cells, rowS_cells, toS, strL_st, strL_d, strL_enc, strL_up, hpN_nil, hpN_cons, hl1, rblockQC, roundsC, rstateC, retQx, go_sem]
              repeat' apply And.intro
              all_goals first
                | omega
                | rfl
                | skip
              refine loop_inv (envSK_ok hl1_ok 85 []) (rs4 V) (fun i => i ≤ 8) (fun i => 8 - i) 0 [] (by omega) ?_ ?_
              · simp only [rs4, envSK, con0, conS, strsOf_arr, rowS_arr, strsOf_cells, rowS_cells, toS, strL_st, strL_d, strL_enc, strL_up, hpN_nil, hpN_cons, hl1, rblockQC, roundsC, rstateC, go_sem]
                all_goals first
                  | trivial
                  | trace_state
              · intro i hi
                have hol := outI_len V i
                rcases i with _ | i
                · simp only [rs4, hl8, u32L_st, u32L_d, u32L_enc, u32L_up, envSK, con0, conS, strsOf_arr, rowS_arr, strsOf_cells, rowS_cells, toS, strL_st, strL_d, strL_enc, strL_up, hpN_nil, hpN_cons, hl1, rblockQC, roundsC, rstateC, retQx, go_sem]
                  repeat' apply And.intro
                  all_goals first
                    | omega
                    | rfl
                    | skip
                  refine again (0 + 1) [(800, 190152)] (by omega) (by omega) ?_
                  simp only [rs4, outI, List.nil_append, List.cons_append, u8L_st, u8L_enc, u8L, envSK, con0, conS, strsOf_arr, rowS_arr, strsOf_cells, rowS_cells, toS, strL_st, strL_d, strL_enc, strL_up, hpN_nil, hpN_cons, hl1, rblockQC, roundsC, rstateC, go_sem]
                  all_goals first
                    | trivial
                    | trace_state
                · have a4 : IntKind.i64.wrap (((i + 1 : Nat) : Int) + 1) = ((i + 1 + 1 : Nat) : Int) := by rw [IntKind.wrap_i64]; omega
                  have h4 : 4 * (i + 1 + 1) = 4 * (i + 1) + 1 + 1 + 1 + 1 := by omega
                  have hou2 : outI V (i + 1 + 1) = outI V (i + 1) ++ [(shr32 (V.l.getD (i + 1) 0) 24).toUInt8] ++ [(shr32 (V.l.getD (i + 1) 0) 16).toUInt8] ++ [(shr32 (V.l.getD (i + 1) 0) 8).toUInt8] ++ [(V.l.getD (i + 1) 0).toUInt8] := rfl
                  simp only [rs4, envSK, con0, conS, strsOf_arr, rowS_arr, strsOf_cells, rowS_cells, toS, strL_st, strL_d, strL_enc, strL_up, hpN_nil, hpN_cons, hl1, rblockQC, roundsC, rstateC, retQx, go_sem]
                  refine br (fun hc => ?_) fun hc => ?_
                  · have hc' := of_decide_eq_true hc
                    simp only [hc, a4, hl8, hol, u32L_st, u32L_d, u32L_enc, u32L_up, envSK, con0, conS, strsOf_arr, rowS_arr, strsOf_cells, rowS_cells, toS, strL_st, strL_d, strL_enc, strL_up, hpN_nil, hpN_cons, hl1, rblockQC, roundsC, rstateC, retQx, go_sem]
                    repeat' apply And.intro
                    all_goals first
                      | omega
                      | rfl
                      | (simp only [List.length_append, List.length_singleton, hol]; done)
                      | skip
                    refine again (i + 1 + 1) [(800, 190152)] (by omega) (by omega) ?_
                    simp only [rs4, hou2, h4, envSK, con0, conS, strsOf_arr, rowS_arr, strsOf_cells, rowS_cells, toS, strL_st, strL_d, strL_enc, strL_up, hpN_nil, hpN_cons, hl1, rblockQC, roundsC, rstateC, go_sem]
                    all_goals first
                      | trivial
                      | trace_state
                  · obtain rfl : i = 7 := by have := of_decide_eq_false hc; omega
                    have hoe := outI_end V
                    rw [hou] at hoe
                    have hsl : (sumL s).length = 32 := by rw [← hoe, hol]
                    have htk : (sumL s).take 32 = sumL s := List.take_of_length_le (by omega)
                    simp only [hc, hoe, htk, hsl, envSK, con0, conS, strsOf_arr, rowS_arr, strsOf_cells, rowS_cells, toS, strL_st, strL_d, strL_enc, strL_up, hpN_nil, hpN_cons, hl1, rblockQC, roundsC, rstateC, retQx, go_sem]
                    repeat' apply And.intro
                    all_goals first
                      | omega
                      | rfl
                      | skip
                    refine endX [] ?_
                    simp only [htk, envSK, con0, conS, strsOf_arr, rowS_arr, strsOf_cells, rowS_cells, toS, strL_st, strL_d, strL_enc, strL_up, hpN_nil, hpN_cons, hl1, rblockQC, roundsC, rstateC, retQx, go_sem]
                    all_goals first
                      | trivial
                      | trace_state
end Go.Proofs.YtahiopdkekkibaaGreatDoor.FH

/-
  Layer 1: the laws ShaSums and ShaBlocks.
-/
namespace Go.Proofs.YtahiopdkekkibaaGreatDoor.FH
open Go Go.RowKit Go.ChangeShapes
set_option maxHeartbeats 4000000
set_option linter.unusedSimpArgs false
set_option linter.unusedVariables false
set_option linter.unusedSectionVars false
def rsumC : Con := con0 fun args => match args with
  | [.one (.str s)] => some (.c (.one (.str (sumL s))), [s.length ≤ 1000000])
  | _ => none
theorem rsumC_ok : ConOkG Tryz.prog GS 120 rsumC := con0_okG Tryz.func120 rfl rfl fun args res ob h hob => by
  split at h
  · injection h with h; injection h with h1 h2; subst h1; subst h2; exact rsum_tri _ hob.1
  · cases h
end Go.Proofs.YtahiopdkekkibaaGreatDoor.FH

/-
  Layer 2: the keyed digest, walked, and the document's.
-/
namespace Go.Proofs.YtahiopdkekkibaaGreatDoor.FH
open Go Go.RowKit
set_option maxHeartbeats 4000000
set_option linter.unusedSimpArgs false
set_option linter.unusedVariables false
set_option linter.unusedSectionVars false
theorem sumL_len (s : List UInt8) : (sumL s).length = 32 := rfl
def keyM (k : List UInt8) : List UInt8 := if 64 < k.length then sumL k else k
theorem keyM_len (k : List UInt8) : (keyM k).length ≤ 64 := by
  unfold keyM
  split
  · rw [sumL_len]; decide
  · omega
def sumM (k s : List UInt8) : List UInt8 := sumL (padM (keyM k) 92 ++ sumL (padM (keyM k) 54 ++ s))
theorem sumM_len (k s : List UInt8) : (sumM k s).length = 32 := rfl
def ho1 : Nat → Option Con := fun f => match f with
  | 119 => some mpadC
  | 118 => some ssumC
  | _ => none
theorem ho1_ok : GaOkG Tryz.prog GS ho1 := fun f con h => by
  unfold ho1 at h
  split at h
  · injection h with h; subst h; exact ConOk.up mpadC_ok
  · injection h with h; subst h; exact ssumC_ok
  · cases h
set_option maxRecDepth 100000 in
theorem macSum_tri (k s : List UInt8) (hk : k.length ≤ 10000) (hs : s.length ≤ 10000) : TriG Tryz.prog GS 82 [.one (.str k), .one (.str s)] [] (.c (.one (.str (sumM k s)))) [] := by
  have hkl := keyM_len k
  have l1 := padM_len hkl 54
  have l2 := padM_len hkl 92
  have e0 : sumL (padM (keyM k) 92 ++ sumL (padM (keyM k) 54 ++ s)) = sumM k s := rfl
  refine tri_ofx (envSK_ok ho1_ok 21 []) Tryz.func82 rfl rfl (rs := [.tmp 4]) rfl rfl (by simp [envSK]) rfl ?_
  cases hc : decide ((64 : Int) < (k.length : Int)) with
  | true =>
    have hkm : sumL k = keyM k := by unfold keyM; rw [if_pos (by have := of_decide_eq_true hc; omega)]
    simp only [hc, hkm, e0, l1, l2, sumL_len, ssumC, mpadC, envSK, con0, conS, strsOf_arr, rowS_arr, strsOf_cells, rowS_cells, toS, strL_st, strL_d, strL_enc, strL_up, hpN_nil, hpN_cons, ho1, retQx, go_sem]
    repeat' apply And.intro
    all_goals first
      | omega
      | (simp only [List.length_append, l1, l2, sumL_len]; omega)
      | rfl
      | skip
    refine endX [] ?_
    simp only [envSK, con0, conS, strsOf_arr, rowS_arr, strsOf_cells, rowS_cells, toS, strL_st, strL_d, strL_enc, strL_up, hpN_nil, hpN_cons, ho1, retQx, go_sem]
    all_goals first
      | trivial
      | trace_state
  | false =>
    have hkm : keyM k = k := by unfold keyM; rw [if_neg (by have := of_decide_eq_false hc; omega)]
    rw [hkm] at hkl l1 l2 e0
    simp only [hc, e0, l1, l2, sumL_len, ssumC, mpadC, envSK, con0, conS, strsOf_arr, rowS_arr, strsOf_cells, rowS_cells, toS, strL_st, strL_d, strL_enc, strL_up, hpN_nil, hpN_cons, ho1, retQx, go_sem]
    repeat' apply And.intro
    all_goals first
      | omega
      | (simp only [List.length_append, l1, l2, sumL_len]; omega)
      | rfl
      | skip
    refine endX [] ?_
    simp only [envSK, con0, conS, strsOf_arr, rowS_arr, strsOf_cells, rowS_cells, toS, strL_st, strL_d, strL_enc, strL_up, hpN_nil, hpN_cons, ho1, retQx, go_sem]
    all_goals first
      | trivial
      | trace_state
def macSumC : Con := con0 fun args => match args with
  | [.one (.str k), .one (.str s)] => some (.c (.one (.str (sumM k s))), [k.length ≤ 10000, s.length ≤ 10000])
  | _ => none
theorem macSumC_ok : ConOkG Tryz.prog GS 82 macSumC := con0_okG Tryz.func82 rfl rfl fun args res ob h hob => by
  split at h
  · injection h with h; injection h with h1 h2; subst h1; subst h2; exact macSum_tri _ _ hob.1 hob.2.1
  · cases h
-- THE DOCUMENT'S
def kpad (k : List UInt8) (m : UInt8) : Nat → List UInt8
  | 0 => List.replicate 64 0
  | i + 1 => (kpad k m i).set i ((if i < k.length then k.getD i 0 else 0) ^^^ m)
theorem kpad_len (k : List UInt8) (m : UInt8) : ∀ i, (kpad k m i).length = 64
  | 0 => List.length_replicate
  | i + 1 => by rw [kpad, List.length_set, kpad_len k m i]
theorem keyZ_get {k : List UInt8} (hk : k.length ≤ 64) (i : Nat) : (keyZ k).getD i 0 = if i < k.length then k.getD i 0 else 0 := by
  unfold keyZ
  split
  · rename_i h
    rw [List.getD_eq_getElem?_getD, List.getElem?_append_left h, ← List.getD_eq_getElem?_getD]
  · rename_i h
    rw [List.getD_eq_getElem?_getD, List.getElem?_append_right (by omega), List.getElem?_replicate]
    split <;> rfl
theorem xorM_get (l : List UInt8) (m : UInt8) : ∀ i j, (xorM l m i).getD j 0 = if j < i ∧ j < l.length then l.getD j 0 ^^^ m else l.getD j 0
  | 0, j => by rw [if_neg (by omega)]; rfl
  | i + 1, j => by
    rw [xorM, List.getD_eq_getElem?_getD, List.getElem?_set, xorM_len]
    by_cases hij : i = j
    · subst hij
      rw [if_pos rfl]
      by_cases hl : i < l.length
      · rw [if_pos hl, if_pos ⟨by omega, hl⟩, xorM_get l m i i, if_neg (by omega)]; rfl
      · rw [if_neg hl, if_neg (by omega), List.getD_eq_getElem?_getD, List.getElem?_eq_none (by omega)]
    · rw [if_neg hij, ← List.getD_eq_getElem?_getD, xorM_get l m i j]
      by_cases h : j < i ∧ j < l.length
      · rw [if_pos h, if_pos (by omega)]
      · rw [if_neg h, if_neg (by omega)]
theorem kpad_get (k : List UInt8) (m : UInt8) : ∀ i j, i ≤ 64 → (kpad k m i).getD j 0 = if j < i then (if j < k.length then k.getD j 0 else 0) ^^^ m else 0
  | 0, j, _ => by
    rw [if_neg (by omega), kpad, List.getD_eq_getElem?_getD, List.getElem?_replicate]
    split <;> rfl
  | i + 1, j, hi => by
    rw [kpad, List.getD_eq_getElem?_getD, List.getElem?_set, kpad_len]
    by_cases hij : i = j
    · subst hij
      rw [if_pos rfl, if_pos (show i < 64 by omega), if_pos (show i < i + 1 by omega)]; rfl
    · rw [if_neg hij, ← List.getD_eq_getElem?_getD, kpad_get k m i j (by omega)]
      by_cases h : j < i
      · rw [if_pos h, if_pos (show j < i + 1 by omega)]
      · rw [if_neg h, if_neg (show ¬ j < i + 1 by omega)]
theorem kpad_eq {k : List UInt8} (hk : k.length ≤ 64) (m : UInt8) : kpad k m 64 = padM k m := by
  apply List.ext_getElem
  · rw [kpad_len, padM_len hk]
  · intro j h1 h2
    have a := kpad_get k m 64 j (Nat.le_refl _)
    have b := xorM_get (keyZ k) m 64 j
    have hj : j < 64 := by rw [kpad_len] at h1; exact h1
    rw [if_pos hj] at a
    rw [if_pos ⟨hj, by rw [keyZ_len hk]; exact hj⟩, keyZ_get hk] at b
    have c : (kpad k m 64).getD j 0 = (padM k m).getD j 0 := a.trans b.symm
    rw [List.getD_eq_getElem?_getD, List.getElem?_eq_getElem h1, List.getD_eq_getElem?_getD, List.getElem?_eq_getElem h2] at c
    exact c
theorem zer_flat : (List.replicate 64 (0 : UInt8)).flatMap u8L.enc = List.replicate 64 (AV.u8 0) := by
  rw [u8_map, List.map_replicate]
def ho2 : Nat → Option Con := fun f => match f with
  | 120 => some rsumC
  | _ => none
theorem ho2_ok : GaOkG Tryz.prog GS ho2 := fun f con h => by
  unfold ho2 at h
  split at h
  · injection h with h; subst h; exact rsumC_ok
  · cases h
def rmI (k s : List UInt8) (i : Nat) : St := ⟨[(0, .c (.one (.str k))), (1, .c (.one (.str s))), (5, .c (.one (.sl 500 0 1 64))), (6, .c (.one (.sl 600 0 1 64))), (7, .c (.one (.num i)))], [(500, ⟨.arr UInt8 u8L (kpad k 54 i), true⟩), (600, ⟨.arr UInt8 u8L (kpad k 92 i), true⟩)]⟩
set_option maxRecDepth 100000 in
theorem rmac_tri (k s : List UInt8) (hk : k.length ≤ 10000) (hs : s.length ≤ 10000) : TriG Tryz.prog GS 83 [.one (.str k), .one (.str s)] [] (.c (.one (.str (sumM k s)))) [] := by
  have hkl := keyM_len k
  have l1 := padM_len hkl 54
  have l2 := padM_len hkl 92
  have e0 : sumL (padM (keyM k) 92 ++ sumL (padM (keyM k) 54 ++ s)) = sumM k s := rfl
  have p1 := kpad_eq hkl 54
  have p2 := kpad_eq hkl 92
  refine tri_ofx (envSK_ok ho2_ok 46 []) Tryz.func83 rfl rfl (rs := [.tmp 4]) rfl rfl (by simp [envSK]) rfl ?_
  cases hc : decide ((64 : Int) < (k.length : Int)) with
  | true =>
    have hkm : sumL k = keyM k := by unfold keyM; rw [if_pos (by have := of_decide_eq_true hc; omega)]
    simp only [hc, hkm, List.length_replicate, envSK, con0, conS, strsOf_arr, rowS_arr, strsOf_cells, rowS_cells, toS, strL_st, strL_d, strL_enc, strL_up, hpN_nil, hpN_cons, ho2, rsumC, retQx, go_sem]
    repeat' apply And.intro
    all_goals first
      | omega
      | (show ckDraw _; rfl)
      | skip
    refine loop_inv (envSK_ok ho2_ok 46 []) (rmI (keyM k) s) (fun i => i ≤ 64) (fun i => 64 - i) 0 [(500, 40000), (600, 40008)] (by omega) ?_ ?_
    · simp only [rmI, kpad, zer_flat, hkm, List.length_replicate, envSK, con0, conS, strsOf_arr, rowS_arr, strsOf_cells, rowS_cells, toS, strL_st, strL_d, strL_enc, strL_up, hpN_nil, hpN_cons, ho2, rsumC, go_sem]
      all_goals first
        | trivial
        | trace_state
    · intro i hi
      have a1 := kpad_len (keyM k) 54 i
      have a2 := kpad_len (keyM k) 92 i
      simp only [rmI, envSK, con0, conS, strsOf_arr, rowS_arr, strsOf_cells, rowS_cells, toS, strL_st, strL_d, strL_enc, strL_up, hpN_nil, hpN_cons, ho2, rsumC, retQx, go_sem]
      refine br (fun hg => ?_) fun hg => ?_
      · have hg' := of_decide_eq_true hg
        have w4 : IntKind.i64.wrap ((i : Int) + 1) = ((i + 1 : Nat) : Int) := by rw [IntKind.wrap_i64]; omega
        cases hd : decide ((i : Int) < ((keyM k).length : Int)) with
        | true =>
          have hd' : i < (keyM k).length := by have := of_decide_eq_true hd; omega
          have b1 : kpad (keyM k) 54 (i + 1) = (kpad (keyM k) 54 i).set i ((keyM k).getD i 0 ^^^ 54) := by rw [kpad, if_pos hd']
          have b2 : kpad (keyM k) 92 (i + 1) = (kpad (keyM k) 92 i).set i ((keyM k).getD i 0 ^^^ 92) := by rw [kpad, if_pos hd']
          simp only [hg, hd, w4, a1, a2, envSK, con0, conS, strsOf_arr, rowS_arr, strsOf_cells, rowS_cells, toS, strL_st, strL_d, strL_enc, strL_up, hpN_nil, hpN_cons, ho2, rsumC, retQx, go_sem]
          repeat' apply And.intro
          all_goals first
            | omega
            | rfl
            | skip
          refine again (i + 1) [] (by omega) (by omega) ?_
          simp only [rmI, b1, b2, envSK, con0, conS, strsOf_arr, rowS_arr, strsOf_cells, rowS_cells, toS, strL_st, strL_d, strL_enc, strL_up, hpN_nil, hpN_cons, ho2, rsumC, go_sem]
          all_goals first
            | trivial
            | trace_state
        | false =>
          have hd' : ¬ i < (keyM k).length := by have := of_decide_eq_false hd; omega
          have b1 : kpad (keyM k) 54 (i + 1) = (kpad (keyM k) 54 i).set i (0 ^^^ 54) := by rw [kpad, if_neg hd']
          have b2 : kpad (keyM k) 92 (i + 1) = (kpad (keyM k) 92 i).set i (0 ^^^ 92) := by rw [kpad, if_neg hd']
          simp only [hg, hd, w4, a1, a2, envSK, con0, conS, strsOf_arr, rowS_arr, strsOf_cells, rowS_cells, toS, strL_st, strL_d, strL_enc, strL_up, hpN_nil, hpN_cons, ho2, rsumC, retQx, go_sem]
          repeat' apply And.intro
          all_goals first
            | omega
            | rfl
            | skip
          refine again (i + 1) [] (by omega) (by omega) ?_
          simp only [rmI, b1, b2, envSK, con0, conS, strsOf_arr, rowS_arr, strsOf_cells, rowS_cells, toS, strL_st, strL_d, strL_enc, strL_up, hpN_nil, hpN_cons, ho2, rsumC, go_sem]
          all_goals first
            | trivial
            | rfl
            | trace_state
      · obtain rfl : i = 64 := by have := of_decide_eq_false hg; omega
        have t1 : (padM (keyM k) 54).take 64 = padM (keyM k) 54 := List.take_of_length_le (by omega)
        have t2 : (padM (keyM k) 92).take 64 = padM (keyM k) 92 := List.take_of_length_le (by omega)
        simp only [hg, p1, p2, t1, t2, l1, l2, e0, envSK, con0, conS, strsOf_arr, rowS_arr, strsOf_cells, rowS_cells, toS, strL_st, strL_d, strL_enc, strL_up, hpN_nil, hpN_cons, ho2, rsumC, retQx, go_sem]
        repeat' apply And.intro
        all_goals first
          | omega
          | (simp only [List.length_append, l1, l2, sumL_len]; omega)
          | rfl
          | skip
        refine endX [] ?_
        simp only [e0, envSK, con0, conS, strsOf_arr, rowS_arr, strsOf_cells, rowS_cells, toS, strL_st, strL_d, strL_enc, strL_up, hpN_nil, hpN_cons, ho2, rsumC, retQx, go_sem]
        all_goals first
          | trivial
          | trace_state
  | false =>
    have hkm : keyM k = k := by unfold keyM; rw [if_neg (by have := of_decide_eq_false hc; omega)]
    simp only [hc, List.length_replicate, envSK, con0, conS, strsOf_arr, rowS_arr, strsOf_cells, rowS_cells, toS, strL_st, strL_d, strL_enc, strL_up, hpN_nil, hpN_cons, ho2, rsumC, retQx, go_sem]
    repeat' apply And.intro
    all_goals first
      | omega
      | (show ckDraw _; rfl)
      | skip
    refine loop_inv (envSK_ok ho2_ok 46 []) (rmI (keyM k) s) (fun i => i ≤ 64) (fun i => 64 - i) 0 [(500, 40000), (600, 40008)] (by omega) ?_ ?_
    · simp only [rmI, kpad, zer_flat, hkm, List.length_replicate, envSK, con0, conS, strsOf_arr, rowS_arr, strsOf_cells, rowS_cells, toS, strL_st, strL_d, strL_enc, strL_up, hpN_nil, hpN_cons, ho2, rsumC, go_sem]
      all_goals first
        | trivial
        | trace_state
    · intro i hi
      have a1 := kpad_len (keyM k) 54 i
      have a2 := kpad_len (keyM k) 92 i
      simp only [rmI, envSK, con0, conS, strsOf_arr, rowS_arr, strsOf_cells, rowS_cells, toS, strL_st, strL_d, strL_enc, strL_up, hpN_nil, hpN_cons, ho2, rsumC, retQx, go_sem]
      refine br (fun hg => ?_) fun hg => ?_
      · have hg' := of_decide_eq_true hg
        have w4 : IntKind.i64.wrap ((i : Int) + 1) = ((i + 1 : Nat) : Int) := by rw [IntKind.wrap_i64]; omega
        cases hd : decide ((i : Int) < ((keyM k).length : Int)) with
        | true =>
          have hd' : i < (keyM k).length := by have := of_decide_eq_true hd; omega
          have b1 : kpad (keyM k) 54 (i + 1) = (kpad (keyM k) 54 i).set i ((keyM k).getD i 0 ^^^ 54) := by rw [kpad, if_pos hd']
          have b2 : kpad (keyM k) 92 (i + 1) = (kpad (keyM k) 92 i).set i ((keyM k).getD i 0 ^^^ 92) := by rw [kpad, if_pos hd']
          simp only [hg, hd, w4, a1, a2, envSK, con0, conS, strsOf_arr, rowS_arr, strsOf_cells, rowS_cells, toS, strL_st, strL_d, strL_enc, strL_up, hpN_nil, hpN_cons, ho2, rsumC, retQx, go_sem]
          repeat' apply And.intro
          all_goals first
            | omega
            | rfl
            | skip
          refine again (i + 1) [] (by omega) (by omega) ?_
          simp only [rmI, b1, b2, envSK, con0, conS, strsOf_arr, rowS_arr, strsOf_cells, rowS_cells, toS, strL_st, strL_d, strL_enc, strL_up, hpN_nil, hpN_cons, ho2, rsumC, go_sem]
          all_goals first
            | trivial
            | trace_state
        | false =>
          have hd' : ¬ i < (keyM k).length := by have := of_decide_eq_false hd; omega
          have b1 : kpad (keyM k) 54 (i + 1) = (kpad (keyM k) 54 i).set i (0 ^^^ 54) := by rw [kpad, if_neg hd']
          have b2 : kpad (keyM k) 92 (i + 1) = (kpad (keyM k) 92 i).set i (0 ^^^ 92) := by rw [kpad, if_neg hd']
          simp only [hg, hd, w4, a1, a2, envSK, con0, conS, strsOf_arr, rowS_arr, strsOf_cells, rowS_cells, toS, strL_st, strL_d, strL_enc, strL_up, hpN_nil, hpN_cons, ho2, rsumC, retQx, go_sem]
          repeat' apply And.intro
          all_goals first
            | omega
            | rfl
            | skip
          refine again (i + 1) [] (by omega) (by omega) ?_
          simp only [rmI, b1, b2, envSK, con0, conS, strsOf_arr, rowS_arr, strsOf_cells, rowS_cells, toS, strL_st, strL_d, strL_enc, strL_up, hpN_nil, hpN_cons, ho2, rsumC, go_sem]
          all_goals first
            | trivial
            | rfl
            | trace_state
      · obtain rfl : i = 64 := by have := of_decide_eq_false hg; omega
        have t1 : (padM (keyM k) 54).take 64 = padM (keyM k) 54 := List.take_of_length_le (by omega)
        have t2 : (padM (keyM k) 92).take 64 = padM (keyM k) 92 := List.take_of_length_le (by omega)
        simp only [hg, p1, p2, t1, t2, l1, l2, e0, envSK, con0, conS, strsOf_arr, rowS_arr, strsOf_cells, rowS_cells, toS, strL_st, strL_d, strL_enc, strL_up, hpN_nil, hpN_cons, ho2, rsumC, retQx, go_sem]
        repeat' apply And.intro
        all_goals first
          | omega
          | (simp only [List.length_append, l1, l2, sumL_len]; omega)
          | rfl
          | skip
        refine endX [] ?_
        simp only [e0, envSK, con0, conS, strsOf_arr, rowS_arr, strsOf_cells, rowS_cells, toS, strL_st, strL_d, strL_enc, strL_up, hpN_nil, hpN_cons, ho2, rsumC, retQx, go_sem]
        all_goals first
          | trivial
          | trace_state
def rmacC : Con := con0 fun args => match args with
  | [.one (.str k), .one (.str s)] => some (.c (.one (.str (sumM k s))), [k.length ≤ 10000, s.length ≤ 10000])
  | _ => none
theorem rmacC_ok : ConOkG Tryz.prog GS 83 rmacC := con0_okG Tryz.func83 rfl rfl fun args res ob h hob => by
  split at h
  · injection h with h; injection h with h1 h2; subst h1; subst h2; exact rmac_tri _ _ hob.1 hob.2.1
  · cases h
end Go.Proofs.YtahiopdkekkibaaGreatDoor.FH

/-
  Layer 2: bytes drawn out of a secret.
-/
namespace Go.Proofs.YtahiopdkekkibaaGreatDoor.FH
open Go Go.RowKit
set_option maxHeartbeats 4000000
set_option linter.unusedSimpArgs false
set_option linter.unusedVariables false
set_option linter.unusedSectionVars false
def bD (key info : List UInt8) : Nat → List UInt8
  | 0 => []
  | n + 1 => sumM key (bD key info n ++ info ++ [by8 ((n + 1 : Nat) : Int)])
def outD (key info : List UInt8) : Nat → List UInt8
  | 0 => []
  | n + 1 => outD key info n ++ bD key info (n + 1)
theorem bD_len (key info : List UInt8) (n : Nat) : (bD key info (n + 1)).length = 32 := rfl
theorem outD_len (key info : List UInt8) : ∀ n, (outD key info n).length = 32 * n
  | 0 => rfl
  | n + 1 => by rw [outD, List.length_append, outD_len key info n, bD_len]; omega
theorem bD_bd (key info : List UInt8) (n : Nat) : (bD key info n).length ≤ 32 := by
  cases n with
  | zero => exact Nat.zero_le _
  | succ n => rw [bD_len]; decide
def drawD (secret salt info : List UInt8) (z : Nat) : List UInt8 := (outD (sumM salt secret) info ((z + 31) / 32)).take z
def hq1 : Nat → Option Con := fun f => match f with
  | 82 => some macSumC
  | _ => none
theorem hq1_ok : GaOkG Tryz.prog GS hq1 := fun f con h => by
  unfold hq1 at h
  split at h
  · injection h with h; subst h; exact macSumC_ok
  · cases h
def dwI (key info : List UInt8) (z : Int) : Nat → St
  | 0 => ⟨[(2, .c (.one (.str info))), (3, .c (.one (.num z))), (10, .c (.one (.str key))), (11, .c (.one (.val (.slice none 0 0)))), (12, .c (.one (.str []))), (13, .c (.one (.num 1)))], []⟩
  | n + 1 => ⟨[(2, .c (.one (.str info))), (3, .c (.one (.num z))), (10, .c (.one (.str key))), (11, .c (.one (.sl 500 0 1 (32 * (n + 1))))), (12, .c (.one (.str (bD key info (n + 1))))), (13, .c (.one (.num ((n + 1 + 1 : Nat) : Int))))], [(500, ⟨.arr UInt8 u8L (outD key info (n + 1)), true⟩)]⟩
set_option maxRecDepth 100000 in
theorem draw_tri (secret salt info : List UInt8) (z : Nat) (h1 : secret.length ≤ 1000) (h2 : salt.length ≤ 1000) (h3 : info.length ≤ 1000) (hz : z ≤ 8160) : TriG Tryz.prog GS 63 [.one (.str secret), .one (.str salt), .one (.str info), .one (.num (z : Nat))] [] (.tup [.one (.str (drawD secret salt info z)), .one (.num 0)]) [] := by
  have d1 : decide ((z : Int) < 0) = false := decide_eq_false (by omega)
  have d2 : decide ((8160 : Int) < (z : Int)) = false := decide_eq_false (by omega)
  have kl := sumM_len salt secret
  have hv : drawD secret salt info z = (outD (sumM salt secret) info ((z + 31) / 32)).take z := rfl
  refine tri_ofx (envSK_ok hq1_ok 46 []) Tryz.func63 rfl rfl (rs := [.tmp 8, .tmp 9]) rfl rfl (by simp [envSK]) rfl ?_
  generalize hkey : sumM salt secret = key at *
  simp only [d1, d2, hkey, envSK, con0, conS, strsOf_arr, rowS_arr, strsOf_cells, rowS_cells, toS, strL_st, strL_d, strL_enc, strL_up, hpN_nil, hpN_cons, hq1, macSumC, retQx, go_sem]
  repeat' apply And.intro
  all_goals first
    | omega
    | (show ckDraw _; rfl)
    | skip
  refine loop_inv (envSK_ok hq1_ok 46 []) (dwI key info (z : Nat)) (fun n => n ≤ (z + 31) / 32) (fun n => (z + 31) / 32 - n) 0 [] (by omega) ?_ ?_
  · simp only [dwI, envSK, con0, conS, strsOf_arr, rowS_arr, strsOf_cells, rowS_cells, toS, strL_st, strL_d, strL_enc, strL_up, hpN_nil, hpN_cons, hq1, macSumC, go_sem]
    all_goals first
      | trivial
      | trace_state
  · intro n hn
    have hb := bD_bd key info n
    have hol := outD_len key info n
    rcases n with _ | n
    · have e1 : sumM key (info ++ [by8 1]) = bD key info 1 := rfl
      have e2 : bD key info 1 = outD key info 1 := rfl
      have bl := bD_len key info 0
      simp only [dwI, envSK, con0, conS, strsOf_arr, rowS_arr, strsOf_cells, rowS_cells, toS, strL_st, strL_d, strL_enc, strL_up, hpN_nil, hpN_cons, hq1, macSumC, retQx, go_sem]
      refine br (fun hg => ?_) fun hg => ?_
      · have hg' := of_decide_eq_true hg
        simp only [hg, e1, bl, envSK, con0, conS, strsOf_arr, rowS_arr, strsOf_cells, rowS_cells, toS, strL_st, strL_d, strL_enc, strL_up, hpN_nil, hpN_cons, hq1, macSumC, retQx, go_sem]
        repeat' apply And.intro
        all_goals first
          | omega
          | (simp only [List.length_append, List.length_singleton]; omega)
          | (show ckDraw _; rfl)
          | skip
        refine again (0 + 1) [(500, 110016)] (by omega) (by omega) ?_
        simp only [dwI, e2, envSK, con0, conS, strsOf_arr, rowS_arr, strsOf_cells, rowS_cells, toS, strL_st, strL_d, strL_enc, strL_up, hpN_nil, hpN_cons, hq1, macSumC, go_sem]
        all_goals first
          | trivial
          | trace_state
      · obtain rfl : z = 0 := by have := of_decide_eq_false hg; omega
        have hv0 : drawD secret salt info 0 = [] := List.take_zero
        simp only [hg, hv0, envSK, con0, conS, strsOf_arr, rowS_arr, strsOf_cells, rowS_cells, toS, strL_st, strL_d, strL_enc, strL_up, hpN_nil, hpN_cons, hq1, macSumC, retQx, go_sem]
        repeat' apply And.intro
        all_goals first
          | omega
          | skip
        refine endX [] ?_
        simp only [envSK, con0, conS, strsOf_arr, rowS_arr, strsOf_cells, rowS_cells, toS, strL_st, strL_d, strL_enc, strL_up, hpN_nil, hpN_cons, hq1, macSumC, retQx, go_sem]
        all_goals first
          | trivial
          | trace_state
    · have bl := bD_len key info n
      have bl1 := bD_len key info (n + 1)
      have e1 : sumM key (bD key info (n + 1) ++ info ++ [by8 ((n + 1 + 1 : Nat) : Int)]) = bD key info (n + 1 + 1) := rfl
      have e2 : outD key info (n + 1) ++ bD key info (n + 1 + 1) = outD key info (n + 1 + 1) := rfl
      have w1 : IntKind.i64.wrap (((n + 1 + 1 : Nat) : Int) + 1) = ((n + 1 + 1 + 1 : Nat) : Int) := by rw [IntKind.wrap_i64]; omega
      have h32 : 32 * (n + 1) + 32 = 32 * (n + 1 + 1) := by omega
      simp only [dwI, envSK, con0, conS, strsOf_arr, rowS_arr, strsOf_cells, rowS_cells, toS, strL_st, strL_d, strL_enc, strL_up, hpN_nil, hpN_cons, hq1, macSumC, retQx, go_sem]
      refine br (fun hg => ?_) fun hg => ?_
      · have hg' := of_decide_eq_true hg
        simp only [hg, e1, w1, bl1, hol, envSK, con0, conS, strsOf_arr, rowS_arr, strsOf_cells, rowS_cells, toS, strL_st, strL_d, strL_enc, strL_up, hpN_nil, hpN_cons, hq1, macSumC, retQx, go_sem]
        repeat' apply And.intro
        all_goals first
          | omega
          | (simp only [List.length_append, List.length_singleton, bl]; omega)
          | (show ckDraw _; rfl)
          | skip
        refine again (n + 1 + 1) [(500, 110016)] (by omega) (by omega) ?_
        simp only [dwI, e2, h32, envSK, con0, conS, strsOf_arr, rowS_arr, strsOf_cells, rowS_cells, toS, strL_st, strL_d, strL_enc, strL_up, hpN_nil, hpN_cons, hq1, macSumC, go_sem]
        all_goals first
          | trivial
          | trace_state
      · have hN : n + 1 = (z + 31) / 32 := by have := of_decide_eq_false hg; omega
        rw [← hN] at hv
        simp only [hg, hv, hol, Nat.sub_zero, envSK, con0, conS, strsOf_arr, rowS_arr, strsOf_cells, rowS_cells, toS, strL_st, strL_d, strL_enc, strL_up, hpN_nil, hpN_cons, hq1, macSumC, retQx, go_sem]
        repeat' apply And.intro
        all_goals first
          | omega
          | skip
        refine endX [] ?_
        simp only [hv, envSK, con0, conS, strsOf_arr, rowS_arr, strsOf_cells, rowS_cells, toS, strL_st, strL_d, strL_enc, strL_up, hpN_nil, hpN_cons, hq1, macSumC, retQx, go_sem]
        all_goals first
          | trivial
          | trace_state
set_option maxRecDepth 100000 in
theorem drawBad_tri (secret salt info : List UInt8) (z : Int) (hz : z < 0 ∨ 8160 < z) : TriG Tryz.prog GS 63 [.one (.str secret), .one (.str salt), .one (.str info), .one (.num z)] [] (.tup [.one (.str []), .one (.num 1)]) [] := by
  refine tri_ofx (envSK_ok hq1_ok 46 []) Tryz.func63 rfl rfl (rs := [.tmp 8, .tmp 9]) rfl rfl (by simp [envSK]) rfl ?_
  cases d1 : decide (z < 0) with
  | true =>
    simp only [d1, envSK, con0, conS, strsOf_arr, rowS_arr, strsOf_cells, rowS_cells, toS, strL_st, strL_d, strL_enc, strL_up, hpN_nil, hpN_cons, hq1, macSumC, retQx, go_sem]
    refine endX [] ?_
    simp only [envSK, con0, conS, strsOf_arr, rowS_arr, strsOf_cells, rowS_cells, toS, strL_st, strL_d, strL_enc, strL_up, hpN_nil, hpN_cons, hq1, macSumC, retQx, go_sem]
    all_goals first
      | trivial
      | trace_state
  | false =>
    have d2 : decide ((8160 : Int) < z) = true := decide_eq_true (by have := of_decide_eq_false d1; omega)
    simp only [d1, d2, envSK, con0, conS, strsOf_arr, rowS_arr, strsOf_cells, rowS_cells, toS, strL_st, strL_d, strL_enc, strL_up, hpN_nil, hpN_cons, hq1, macSumC, retQx, go_sem]
    refine endX [] ?_
    simp only [envSK, con0, conS, strsOf_arr, rowS_arr, strsOf_cells, rowS_cells, toS, strL_st, strL_d, strL_enc, strL_up, hpN_nil, hpN_cons, hq1, macSumC, retQx, go_sem]
    all_goals first
      | trivial
      | trace_state
-- THE DOCUMENT'S
def hq2 : Nat → Option Con := fun f => match f with
  | 83 => some rmacC
  | _ => none
theorem hq2_ok : GaOkG Tryz.prog GS hq2 := fun f con h => by
  unfold hq2 at h
  split at h
  · injection h with h; subst h; exact rmacC_ok
  · cases h
def qdI (key info : List UInt8) (z : Int) (n : Nat) : St := ⟨[(2, .c (.one (.str info))), (3, .c (.one (.num z))), (9, .c (.one (.str key))), (10, .c (.one (.str (outD key info n)))), (11, .c (.one (.str (bD key info n)))), (12, .c (.one (.num ((n + 1 : Nat) : Int))))], []⟩
set_option maxRecDepth 100000 in
theorem rdraw_tri (secret salt info : List UInt8) (z : Nat) (h1 : secret.length ≤ 1000) (h2 : salt.length ≤ 1000) (h3 : info.length ≤ 1000) (hz : z ≤ 8160) : TriG Tryz.prog GS 74 [.one (.str secret), .one (.str salt), .one (.str info), .one (.num (z : Nat))] [] (.c (.one (.str (drawD secret salt info z)))) [] := by
  have kl := sumM_len salt secret
  have hv : drawD secret salt info z = (outD (sumM salt secret) info ((z + 31) / 32)).take z := rfl
  refine tri_ofx (envSK_ok hq2_ok 38 []) Tryz.func74 rfl rfl (rs := [.tmp 8]) rfl rfl (by simp [envSK]) rfl ?_
  generalize hkey : sumM salt secret = key at *
  simp only [hkey, envSK, con0, conS, strsOf_arr, rowS_arr, strsOf_cells, rowS_cells, toS, strL_st, strL_d, strL_enc, strL_up, hpN_nil, hpN_cons, hq2, rmacC, retQx, go_sem]
  repeat' apply And.intro
  all_goals first
    | omega
    | (show ckDraw _; rfl)
    | skip
  refine loop_inv (envSK_ok hq2_ok 38 []) (qdI key info (z : Nat)) (fun n => n ≤ (z + 31) / 32) (fun n => (z + 31) / 32 - n) 0 [] (by omega) ?_ ?_
  · simp only [qdI, bD, outD, envSK, con0, conS, strsOf_arr, rowS_arr, strsOf_cells, rowS_cells, toS, strL_st, strL_d, strL_enc, strL_up, hpN_nil, hpN_cons, hq2, rmacC, go_sem]
    all_goals first
      | trivial
      | rfl
      | trace_state
  · intro n hn
    have hb := bD_bd key info n
    have bl1 := bD_len key info n
    have hol := outD_len key info n
    have e1 : sumM key (bD key info n ++ info ++ [by8 ((n + 1 : Nat) : Int)]) = bD key info (n + 1) := rfl
    have e2 : outD key info n ++ bD key info (n + 1) = outD key info (n + 1) := rfl
    have w1 : IntKind.i64.wrap (((n + 1 : Nat) : Int) + 1) = ((n + 1 + 1 : Nat) : Int) := by rw [IntKind.wrap_i64]; omega
    simp only [qdI, hol, envSK, con0, conS, strsOf_arr, rowS_arr, strsOf_cells, rowS_cells, toS, strL_st, strL_d, strL_enc, strL_up, hpN_nil, hpN_cons, hq2, rmacC, retQx, go_sem]
    refine br (fun hg => ?_) fun hg => ?_
    · have hg' := of_decide_eq_true hg
      simp only [hg, e1, w1, envSK, con0, conS, strsOf_arr, rowS_arr, strsOf_cells, rowS_cells, toS, strL_st, strL_d, strL_enc, strL_up, hpN_nil, hpN_cons, hq2, rmacC, retQx, go_sem]
      repeat' apply And.intro
      all_goals first
        | omega
        | (simp only [List.length_append, List.length_singleton]; omega)
        | (show ckDraw _; rfl)
        | skip
      refine again (n + 1) [] (by omega) (by omega) ?_
      simp only [qdI, e2, envSK, con0, conS, strsOf_arr, rowS_arr, strsOf_cells, rowS_cells, toS, strL_st, strL_d, strL_enc, strL_up, hpN_nil, hpN_cons, hq2, rmacC, go_sem]
      all_goals first
        | trivial
        | trace_state
    · have hN : n = (z + 31) / 32 := by have := of_decide_eq_false hg; omega
      rw [← hN] at hv
      simp only [hg, hv, hol, Nat.sub_zero, envSK, con0, conS, strsOf_arr, rowS_arr, strsOf_cells, rowS_cells, toS, strL_st, strL_d, strL_enc, strL_up, hpN_nil, hpN_cons, hq2, rmacC, retQx, go_sem]
      repeat' apply And.intro
      all_goals first
        | omega
        | skip
      refine endX [] ?_
      simp only [hv, envSK, con0, conS, strsOf_arr, rowS_arr, strsOf_cells, rowS_cells, toS, strL_st, strL_d, strL_enc, strL_up, hpN_nil, hpN_cons, hq2, rmacC, retQx, go_sem]
      all_goals first
        | trivial
        | trace_state
end Go.Proofs.YtahiopdkekkibaaGreatDoor.FH

/-
  Layer 2: the laws MacPasswords and MacDraws.
-/
namespace Go.Proofs.YtahiopdkekkibaaGreatDoor.FH
open Go Go.RowKit
set_option maxHeartbeats 4000000
set_option linter.unusedSimpArgs false
set_option linter.unusedVariables false
set_option linter.unusedSectionVars false
def drawV (a b c : List UInt8) (z : Int) : SV := if 0 ≤ z ∧ z ≤ 8160 then .tup [.one (.str (drawD a b c z.toNat)), .one (.num 0)] else .tup [.one (.str []), .one (.num 1)]
theorem draw_ok (a b c : List UInt8) (z : Int) (h1 : a.length ≤ 1000) (h2 : b.length ≤ 1000) (h3 : c.length ≤ 1000) : TriG Tryz.prog GS 63 [.one (.str a), .one (.str b), .one (.str c), .one (.num z)] [] (drawV a b c z) [] := by
  unfold drawV
  split
  · rename_i h
    have := draw_tri a b c z.toNat h1 h2 h3 (by omega)
    rw [Int.toNat_of_nonneg (by omega)] at this
    exact this
  · rename_i h
    exact drawBad_tri a b c z (by omega)
theorem rdraw_ok (a b c : List UInt8) (z : Int) (h1 : a.length ≤ 1000) (h2 : b.length ≤ 1000) (h3 : c.length ≤ 1000) (h4 : 0 ≤ z) (h5 : z ≤ 8160) : TriG Tryz.prog GS 74 [.one (.str a), .one (.str b), .one (.str c), .one (.num z)] [] (.c (.one (.str (drawD a b c z.toNat)))) [] := by
  have := rdraw_tri a b c z.toNat h1 h2 h3 (by omega)
  rw [Int.toNat_of_nonneg h4] at this
  exact this
def drawC : Con := con0 fun args => match args with
  | [.one (.str a), .one (.str b), .one (.str c), .one (.num z)] => some (drawV a b c z, [a.length ≤ 1000, b.length ≤ 1000, c.length ≤ 1000])
  | _ => none
theorem drawC_ok : ConOkG Tryz.prog GS 63 drawC := con0_okG Tryz.func63 rfl rfl fun args res ob h hob => by
  split at h
  · injection h with h; injection h with h1 h2; subst h1; subst h2; exact draw_ok _ _ _ _ hob.1 hob.2.1 hob.2.2.1
  · cases h
def rdrawC : Con := con0 fun args => match args with
  | [.one (.str a), .one (.str b), .one (.str c), .one (.num z)] => some (.c (.one (.str (drawD a b c z.toNat))), [a.length ≤ 1000, b.length ≤ 1000, c.length ≤ 1000, 0 ≤ z, z ≤ 8160])
  | _ => none
theorem rdrawC_ok : ConOkG Tryz.prog GS 74 rdrawC := con0_okG Tryz.func74 rfl rfl fun args res ob h hob => by
  split at h
  · injection h with h; injection h with h1 h2; subst h1; subst h2; exact rdraw_ok _ _ _ _ hob.1 hob.2.1 hob.2.2.1 hob.2.2.2.1 hob.2.2.2.2.1
  · cases h
end Go.Proofs.YtahiopdkekkibaaGreatDoor.FH

/-
  The curve of Edwards, and the ladder over it: scalars change places. It speaks of no program.
-/
namespace Go.Proofs.YtahiopdkekkibaaGreatDoor.FK
open Go Go.RowKit
set_option maxHeartbeats 4000000
set_option linter.unusedSimpArgs false
set_option linter.unusedVariables false
set_option linter.unusedSectionVars false
-- THE CURVE OF EDWARDS
section
set_option linter.unusedSectionVars false
variable {n : Nat} [NeZero n]
structure Fld (inv : Fin n → Fin n) : Prop where
  mul : ∀ a, a ≠ 0 → a * inv a = 1
  zero : inv 0 = 0
  two : (1 + 1 : Fin n) ≠ 0
theorem Fld.one {inv : Fin n → Fin n} (h : Fld inv) : (1 : Fin n) ≠ 0 := fun e => h.two (by grind)
end
-- THE LADDER OVER IT
section
set_option linter.unusedSectionVars false
variable {n : Nat} [NeZero n]
end
end Go.Proofs.YtahiopdkekkibaaGreatDoor.FK

/-
  Numbers of five parts: what does not hang on a layer.
-/
namespace Go.Proofs.YtahiopdkekkibaaGreatDoor.FK
open Go Go.RowKit
set_option linter.unusedSimpArgs false
set_option linter.unusedVariables false
def ga0 : Nat → Option Con := fun _ => none
theorem ga0_ok : GaOk Tryz.prog ga0 := fun f con h => by cases h
noncomputable def envOf (ga : Nat → Option Con) (nt : Nat) : Env := ⟨ty, ga, [], nt, [], []⟩
theorem envOf_ok {ga : Nat → Option Con} (h : GaOk Tryz.prog ga) (nt : Nat) : EnvOk Tryz.prog (envOf ga nt) := ⟨ty_ok, h, by first | rfl | decide⟩
@[ext] structure N5 where
  (a b c d e : UInt64)
deriving DecidableEq
def N5.cv (x : N5) : CV := .agg [.u64 x.a, .u64 x.b, .u64 x.c, .u64 x.d, .u64 x.e]
theorem N5.eta (x : N5) : N5.mk x.a x.b x.c x.d x.e = x := rfl
def N5.lt (x : N5) (n : Nat) : Prop := x.a.toNat < n ∧ x.b.toNat < n ∧ x.c.toNat < n ∧ x.d.toNat < n ∧ x.e.toNat < n
theorem add64n {x y : UInt64} (h : x.toNat + y.toNat < 18446744073709551616) : (x + y).toNat = x.toNat + y.toNat := by
  rw [UInt64.toNat_add]; exact Nat.mod_eq_of_lt h
end Go.Proofs.YtahiopdkekkibaaGreatDoor.FK

/-
  Layer 3: numbers of five parts of 51 bits, and their values. It speaks of no program.
-/
namespace Go.Proofs.YtahiopdkekkibaaGreatDoor.FK
open Go Go.RowKit
set_option maxHeartbeats 4000000
set_option linter.unusedSimpArgs false
set_option linter.unusedVariables false
def p25519 : Nat := 57896044618658097711785492504343953926634992332820282019728792003956564819949
def N5.w (x : N5) : Nat := x.a.toNat + x.b.toNat * 2251799813685248 + x.c.toNat * 5070602400912917605986812821504 + x.d.toNat * 11417981541647679048466287755595961091061972992 + x.e.toNat * 25711008708143844408671393477458601640355247900524685364822016
def fcarry (x : N5) : N5 := ⟨(x.a &&& 2251799813685247) + 19 * shr64 x.e 51, (x.b &&& 2251799813685247) + shr64 x.a 51, (x.c &&& 2251799813685247) + shr64 x.b 51, (x.d &&& 2251799813685247) + shr64 x.c 51, (x.e &&& 2251799813685247) + shr64 x.d 51⟩
theorem shr51 (x : UInt64) : (shr64 x 51).toNat = x.toNat / 2251799813685248 := by
  unfold shr64
  rw [if_pos (by decide), UInt64.toNat_shiftRight]
  show x.toNat >>> 51 = _
  rw [Nat.shiftRight_eq_div_pow]
theorem and51 (x : UInt64) : (x &&& 2251799813685247).toNat = x.toNat % 2251799813685248 := by
  rw [UInt64.toNat_and]
  show x.toNat &&& (2 ^ 51 - 1) = _
  rw [Nat.and_two_pow_sub_one_eq_mod]
theorem add51 (x y : UInt64) : ((x &&& 2251799813685247) + shr64 y 51).toNat = x.toNat % 2251799813685248 + y.toNat / 2251799813685248 := by
  have := y.toNat_lt
  rw [add64n (by rw [and51, shr51]; omega), and51, shr51]
theorem mul19 (y : UInt64) : (19 * shr64 y 51).toNat = 19 * (y.toNat / 2251799813685248) := by
  have := y.toNat_lt
  rw [UInt64.toNat_mul, shr51]
  show 19 * _ % _ = _
  omega
theorem fcarry_spec (x : N5) : (fcarry x).w + p25519 * (x.e.toNat / 2251799813685248) = x.w ∧ (fcarry x).lt 2251799813947392 := by
  have h0 : (fcarry x).a.toNat = x.a.toNat % 2251799813685248 + 19 * (x.e.toNat / 2251799813685248) := by
    have := x.e.toNat_lt
    show ((x.a &&& 2251799813685247) + 19 * shr64 x.e 51).toNat = _
    rw [add64n (by rw [and51, mul19]; omega), and51, mul19]
  have h1 : (fcarry x).b.toNat = x.b.toNat % 2251799813685248 + x.a.toNat / 2251799813685248 := add51 _ _
  have h2 : (fcarry x).c.toNat = x.c.toNat % 2251799813685248 + x.b.toNat / 2251799813685248 := add51 _ _
  have h3 : (fcarry x).d.toNat = x.d.toNat % 2251799813685248 + x.c.toNat / 2251799813685248 := add51 _ _
  have h4 : (fcarry x).e.toNat = x.e.toNat % 2251799813685248 + x.d.toNat / 2251799813685248 := add51 _ _
  have := x.a.toNat_lt; have := x.b.toNat_lt; have := x.c.toNat_lt; have := x.d.toNat_lt; have := x.e.toNat_lt
  unfold N5.lt
  simp only [N5.w, p25519, h0, h1, h2, h3, h4]
  refine ⟨by omega, by omega, by omega, by omega, by omega, by omega⟩
theorem fcarry_mod (x : N5) : (fcarry x).w % p25519 = x.w % p25519 := by
  rw [← (fcarry_spec x).1, Nat.add_mul_mod_self_left]
def fadd (x y : N5) : N5 := fcarry ⟨(fcarry x).a + (fcarry y).a, (fcarry x).b + (fcarry y).b, (fcarry x).c + (fcarry y).c, (fcarry x).d + (fcarry y).d, (fcarry x).e + (fcarry y).e⟩
theorem fadd_mod (x y : N5) : (fadd x y).w % p25519 = (x.w + y.w) % p25519 := by
  obtain ⟨_, a0, a1, a2, a3, a4⟩ := fcarry_spec x
  obtain ⟨_, b0, b1, b2, b3, b4⟩ := fcarry_spec y
  unfold fadd
  rw [fcarry_mod, Nat.add_mod, ← fcarry_mod x, ← fcarry_mod y, ← Nat.add_mod]
  congr 1
  simp only [N5.w]
  rw [add64n (by omega), add64n (by omega), add64n (by omega), add64n (by omega), add64n (by omega)]
  omega
def fsub (x y : N5) : N5 := fcarry ⟨(fcarry x).a + (9007199254740916 - (fcarry y).a), (fcarry x).b + (9007199254740988 - (fcarry y).b), (fcarry x).c + (9007199254740988 - (fcarry y).c), (fcarry x).d + (9007199254740988 - (fcarry y).d), (fcarry x).e + (9007199254740988 - (fcarry y).e)⟩
theorem subn (c x : UInt64) (h : x.toNat ≤ c.toNat) : (c - x).toNat = c.toNat - x.toNat := by
  have := c.toNat_lt
  rw [UInt64.toNat_sub]; omega
theorem fsub_mod (x y : N5) : ((fsub x y).w + y.w) % p25519 = x.w % p25519 := by
  obtain ⟨e1, a0, a1, a2, a3, a4⟩ := fcarry_spec x
  obtain ⟨e2, b0, b1, b2, b3, b4⟩ := fcarry_spec y
  unfold fsub
  rw [Nat.add_mod, fcarry_mod, ← fcarry_mod y, ← fcarry_mod x, ← Nat.add_mod]
  generalize fcarry x = u at *
  generalize fcarry y = v at *
  have c0 : (9007199254740916 - v.a).toNat = 9007199254740916 - v.a.toNat := subn _ _ (by show _ ≤ 9007199254740916; omega)
  have c1 : (9007199254740988 - v.b).toNat = 9007199254740988 - v.b.toNat := subn _ _ (by show _ ≤ 9007199254740988; omega)
  have c2 : (9007199254740988 - v.c).toNat = 9007199254740988 - v.c.toNat := subn _ _ (by show _ ≤ 9007199254740988; omega)
  have c3 : (9007199254740988 - v.d).toNat = 9007199254740988 - v.d.toNat := subn _ _ (by show _ ≤ 9007199254740988; omega)
  have c4 : (9007199254740988 - v.e).toNat = 9007199254740988 - v.e.toNat := subn _ _ (by show _ ≤ 9007199254740988; omega)
  have key : (N5.mk (u.a + (9007199254740916 - v.a)) (u.b + (9007199254740988 - v.b)) (u.c + (9007199254740988 - v.c)) (u.d + (9007199254740988 - v.d)) (u.e + (9007199254740988 - v.e))).w + v.w = u.w + p25519 * 4 := by
    simp only [N5.w, p25519]
    rw [add64n (by rw [c0]; omega), add64n (by rw [c1]; omega), add64n (by rw [c2]; omega), add64n (by rw [c3]; omega), add64n (by rw [c4]; omega), c0, c1, c2, c3, c4]
    omega
  rw [key, Nat.add_mul_mod_self_left]
/-- The least number: how much is over. -/
def fover (t : N5) : UInt64 :=
  let o0 := shr64 (t.a + 19) 51
  let o1 := shr64 (t.b + o0) 51
  let o2 := shr64 (t.c + o1) 51
  let o3 := shr64 (t.d + o2) 51
  shr64 (t.e + o3) 51
def frest (t : N5) (r : UInt64) : N5 :=
  let a := t.a + r
  let b := t.b + shr64 a 51
  let c := t.c + shr64 b 51
  let d := t.d + shr64 c 51
  let e := t.e + shr64 d 51
  ⟨a &&& 2251799813685247, b &&& 2251799813685247, c &&& 2251799813685247, d &&& 2251799813685247, e &&& 2251799813685247⟩
def fsmall (x : N5) : N5 := frest (fcarry x) (19 * fover (fcarry x))
theorem fover_spec (t : N5) (ht : t.lt 2251799813947392) : (fover t).toNat = (t.w + 19) / 57896044618658097711785492504343953926634992332820282019728792003956564819968 := by
  obtain ⟨h0, h1, h2, h3, h4⟩ := ht
  have e0 : (t.a + 19).toNat = t.a.toNat + 19 := add64n (by show _ + 19 < _; omega)
  have e1 : (t.b + shr64 (t.a + 19) 51).toNat = t.b.toNat + (t.a.toNat + 19) / 2251799813685248 := by rw [add64n, shr51, e0]; rw [shr51, e0]; omega
  have e2 : (t.c + shr64 (t.b + shr64 (t.a + 19) 51) 51).toNat = t.c.toNat + (t.b.toNat + (t.a.toNat + 19) / 2251799813685248) / 2251799813685248 := by rw [add64n, shr51, e1]; rw [shr51, e1]; omega
  have e3 : (t.d + shr64 (t.c + shr64 (t.b + shr64 (t.a + 19) 51) 51) 51).toNat = t.d.toNat + (t.c.toNat + (t.b.toNat + (t.a.toNat + 19) / 2251799813685248) / 2251799813685248) / 2251799813685248 := by rw [add64n, shr51, e2]; rw [shr51, e2]; omega
  have e4 : (t.e + shr64 (t.d + shr64 (t.c + shr64 (t.b + shr64 (t.a + 19) 51) 51) 51) 51).toNat = t.e.toNat + (t.d.toNat + (t.c.toNat + (t.b.toNat + (t.a.toNat + 19) / 2251799813685248) / 2251799813685248) / 2251799813685248) / 2251799813685248 := by rw [add64n, shr51, e3]; rw [shr51, e3]; omega
  show (shr64 (t.e + shr64 (t.d + shr64 (t.c + shr64 (t.b + shr64 (t.a + 19) 51) 51) 51) 51) 51).toNat = _
  rw [shr51, e4]
  simp only [N5.w]
  generalize t.a.toNat = a at *
  generalize t.b.toNat = b at *
  generalize t.c.toNat = c at *
  generalize t.d.toNat = d at *
  generalize t.e.toNat = e at *
  clear e0 e1 e2 e3 e4
  omega
theorem frest_spec (t : N5) (ht : t.lt 2251799813947392) (r : UInt64) (hr : r.toNat ≤ 19) : (frest t r).w = (t.w + r.toNat) % 57896044618658097711785492504343953926634992332820282019728792003956564819968 ∧ (frest t r).lt 2251799813685248 := by
  obtain ⟨h0, h1, h2, h3, h4⟩ := ht
  have e0 : (t.a + r).toNat = t.a.toNat + r.toNat := add64n (by omega)
  have e1 : (t.b + shr64 (t.a + r) 51).toNat = t.b.toNat + (t.a.toNat + r.toNat) / 2251799813685248 := by rw [add64n, shr51, e0]; rw [shr51, e0]; omega
  have e2 : (t.c + shr64 (t.b + shr64 (t.a + r) 51) 51).toNat = t.c.toNat + (t.b.toNat + (t.a.toNat + r.toNat) / 2251799813685248) / 2251799813685248 := by rw [add64n, shr51, e1]; rw [shr51, e1]; omega
  have e3 : (t.d + shr64 (t.c + shr64 (t.b + shr64 (t.a + r) 51) 51) 51).toNat = t.d.toNat + (t.c.toNat + (t.b.toNat + (t.a.toNat + r.toNat) / 2251799813685248) / 2251799813685248) / 2251799813685248 := by rw [add64n, shr51, e2]; rw [shr51, e2]; omega
  have e4 : (t.e + shr64 (t.d + shr64 (t.c + shr64 (t.b + shr64 (t.a + r) 51) 51) 51) 51).toNat = t.e.toNat + (t.d.toNat + (t.c.toNat + (t.b.toNat + (t.a.toNat + r.toNat) / 2251799813685248) / 2251799813685248) / 2251799813685248) / 2251799813685248 := by rw [add64n, shr51, e3]; rw [shr51, e3]; omega
  have f0 : (frest t r).a.toNat = (t.a.toNat + r.toNat) % 2251799813685248 := by show ((t.a + r) &&& 2251799813685247).toNat = _; rw [and51, e0]
  have f1 : (frest t r).b.toNat = (t.b.toNat + (t.a.toNat + r.toNat) / 2251799813685248) % 2251799813685248 := by show ((t.b + shr64 (t.a + r) 51) &&& 2251799813685247).toNat = _; rw [and51, e1]
  have f2 : (frest t r).c.toNat = (t.c.toNat + (t.b.toNat + (t.a.toNat + r.toNat) / 2251799813685248) / 2251799813685248) % 2251799813685248 := by show ((t.c + shr64 (t.b + shr64 (t.a + r) 51) 51) &&& 2251799813685247).toNat = _; rw [and51, e2]
  have f3 : (frest t r).d.toNat = (t.d.toNat + (t.c.toNat + (t.b.toNat + (t.a.toNat + r.toNat) / 2251799813685248) / 2251799813685248) / 2251799813685248) % 2251799813685248 := by show ((t.d + shr64 (t.c + shr64 (t.b + shr64 (t.a + r) 51) 51) 51) &&& 2251799813685247).toNat = _; rw [and51, e3]
  have f4 : (frest t r).e.toNat = (t.e.toNat + (t.d.toNat + (t.c.toNat + (t.b.toNat + (t.a.toNat + r.toNat) / 2251799813685248) / 2251799813685248) / 2251799813685248) / 2251799813685248) % 2251799813685248 := by show ((t.e + shr64 (t.d + shr64 (t.c + shr64 (t.b + shr64 (t.a + r) 51) 51) 51) 51) &&& 2251799813685247).toNat = _; rw [and51, e4]
  unfold N5.lt
  simp only [N5.w, f0, f1, f2, f3, f4]
  generalize t.a.toNat = a at *
  generalize t.b.toNat = b at *
  generalize t.c.toNat = c at *
  generalize t.d.toNat = d at *
  generalize t.e.toNat = e at *
  clear e0 e1 e2 e3 e4 f0 f1 f2 f3 f4
  refine ⟨?_, ?_, ?_, ?_, ?_, ?_⟩ <;> omega
theorem fsmall_spec (x : N5) : (fsmall x).w = x.w % p25519 ∧ (fsmall x).lt 2251799813685248 := by
  obtain ⟨h1, h2⟩ := fcarry_spec x
  have hm := fcarry_mod x
  have ho := fover_spec _ h2
  generalize hy : fcarry x = y at *
  have hlt : y.w < 57896044618658097711785492504343953926634992332820282019728792003956564819968 + 13479973333575319897333507543509815336818572211270286240551805124608 := by
    obtain ⟨a0, a1, a2, a3, a4⟩ := h2
    simp only [N5.w]
    omega
  have hov : (fover y).toNat ≤ 1 := by rw [ho]; omega
  have hr : (19 * fover y).toNat = 19 * (fover y).toNat := by
    rw [UInt64.toNat_mul]
    show 19 * _ % _ = _
    omega
  obtain ⟨h3, h4⟩ := frest_spec y h2 (19 * fover y) (by omega)
  refine ⟨?_, by unfold fsmall; rw [hy]; exact h4⟩
  unfold fsmall
  rw [hy, h3, ← hm, hr]
  simp only [p25519]
  generalize y.w = v at *
  generalize (fover y).toNat = o at *
  clear h3 h4 hr hm h1
  rcases (show o = 0 ∨ o = 1 by omega) with rfl | rfl
  · rw [Nat.mod_eq_of_lt (by omega), Nat.mod_eq_of_lt (by omega), Nat.mul_zero, Nat.add_zero]
  · rw [Nat.mod_eq_sub_mod (by omega : 57896044618658097711785492504343953926634992332820282019728792003956564819968 ≤ v + 19 * 1), Nat.mod_eq_of_lt (by omega), Nat.mod_eq_sub_mod (by omega : 57896044618658097711785492504343953926634992332820282019728792003956564819949 ≤ v), Nat.mod_eq_of_lt (by omega)]
    omega
structure W2 where
  (h l : UInt64)
def W2.v (x : W2) : Nat := x.h.toNat * 18446744073709551616 + x.l.toNat
/-- The high half of a product. -/
def mulHi (x y : UInt64) : UInt64 :=
  let x0 := x &&& 4294967295
  let x1 := shr64 x 32
  let y0 := y &&& 4294967295
  let y1 := shr64 y 32
  let w0 := x0 * y0
  let t := x1 * y0 + shr64 w0 32
  let w1 := (t &&& 4294967295) + x0 * y1
  x1 * y1 + shr64 t 32 + shr64 w1 32
theorem shr32n (x : UInt64) : (shr64 x 32).toNat = x.toNat / 4294967296 := by
  unfold shr64
  rw [if_pos (by decide), UInt64.toNat_shiftRight]
  show x.toNat >>> 32 = _
  rw [Nat.shiftRight_eq_div_pow]
theorem and32n (x : UInt64) : (x &&& 4294967295).toNat = x.toNat % 4294967296 := by
  rw [UInt64.toNat_and]
  show x.toNat &&& (2 ^ 32 - 1) = _
  rw [Nat.and_two_pow_sub_one_eq_mod]
theorem mul32n {x y : UInt64} (hx : x.toNat < 4294967296) (hy : y.toNat < 4294967296) : (x * y).toNat = x.toNat * y.toNat ∧ x.toNat * y.toNat ≤ 18446744065119617025 := by
  have h1 : x.toNat * y.toNat ≤ 4294967295 * 4294967295 := Nat.mul_le_mul (by omega) (by omega)
  exact ⟨by rw [UInt64.toNat_mul]; exact Nat.mod_eq_of_lt (by omega), by omega⟩
theorem mulHi_v (x y : UInt64) : (mulHi x y).toNat = x.toNat * y.toNat / 18446744073709551616 := by
  have hx := x.toNat_lt
  have hy := y.toNat_lt
  have a0 := and32n x
  have a1 := shr32n x
  have b0 := and32n y
  have b1 := shr32n y
  generalize hX0 : x &&& 4294967295 = x0 at *
  generalize hX1 : shr64 x 32 = x1 at *
  generalize hY0 : y &&& 4294967295 = y0 at *
  generalize hY1 : shr64 y 32 = y1 at *
  have lx0 : x0.toNat < 4294967296 := by omega
  have lx1 : x1.toNat < 4294967296 := by omega
  have ly0 : y0.toNat < 4294967296 := by omega
  have ly1 : y1.toNat < 4294967296 := by omega
  obtain ⟨m00, k00⟩ := mul32n lx0 ly0
  obtain ⟨m10, k10⟩ := mul32n lx1 ly0
  obtain ⟨m01, k01⟩ := mul32n lx0 ly1
  obtain ⟨m11, k11⟩ := mul32n lx1 ly1
  have ht : (x1 * y0 + shr64 (x0 * y0) 32).toNat = x1.toNat * y0.toNat + x0.toNat * y0.toNat / 4294967296 := by
    rw [add64n (by rw [m10, shr32n, m00]; omega), m10, shr32n, m00]
  generalize hT : x1 * y0 + shr64 (x0 * y0) 32 = t at *
  have hw : ((t &&& 4294967295) + x0 * y1).toNat = t.toNat % 4294967296 + x0.toNat * y1.toNat := by
    rw [add64n (by rw [and32n, m01]; omega), and32n, m01]
  generalize hW : (t &&& 4294967295) + x0 * y1 = w1 at *
  have hm : (mulHi x y).toNat = x1.toNat * y1.toNat + t.toNat / 4294967296 + w1.toNat / 4294967296 := by
    unfold mulHi
    simp only [hX0, hX1, hY0, hY1, hT, hW]
    have s1 : (x1 * y1 + shr64 t 32).toNat = x1.toNat * y1.toNat + t.toNat / 4294967296 := by
      rw [add64n (by rw [m11, shr32n]; have := t.toNat_lt; omega), m11, shr32n]
    rw [add64n (by rw [s1, shr32n]; have := w1.toNat_lt; omega), s1, shr32n]
  rw [hm, hw, ht]
  have ex : x.toNat = x1.toNat * 4294967296 + x0.toNat := by omega
  have ey : y.toNat = y1.toNat * 4294967296 + y0.toNat := by omega
  have key : x.toNat * y.toNat = x1.toNat * y1.toNat * 18446744073709551616 + (x1.toNat * y0.toNat + x0.toNat * y1.toNat) * 4294967296 + x0.toNat * y0.toNat := by
    rw [ex, ey]; grind
  rw [key]
  generalize x1.toNat * y1.toNat = A at *
  generalize x1.toNat * y0.toNat = B at *
  generalize x0.toNat * y1.toNat = C at *
  generalize x0.toNat * y0.toNat = D at *
  clear key ex ey hm hw ht m00 m10 m01 m11
  omega
theorem mul_lo (x y : UInt64) : (mulHi x y).toNat * 18446744073709551616 + (x * y).toNat = x.toNat * y.toNat := by
  rw [mulHi_v, UInt64.toNat_mul]
  simp only [Nat.reducePow]
  omega
/-- What is carried out of a sum. -/
def addCar (x y : UInt64) : UInt64 := UInt64.ofNat ((x.toNat + y.toNat) / 18446744073709551616)
theorem addCar_v (x y : UInt64) : (addCar x y).toNat * 18446744073709551616 + (x + y).toNat = x.toNat + y.toNat := by
  have := x.toNat_lt
  have := y.toNat_lt
  unfold addCar
  rw [UInt64.toNat_ofNat_of_lt' (by show _ < 18446744073709551616; omega), UInt64.toNat_add]
  simp only [Nat.reducePow]
  omega
def wplus (w : W2) (x y : UInt64) : W2 := ⟨w.h + mulHi x y + addCar w.l (x * y), w.l + x * y⟩
theorem wplus_alg (B H m c q L p X : Nat) (h1 : m * B + p = X) (h2 : c * B + q = L + p) : (H + m + c) * B + q = H * B + L + X := by
  rw [Nat.add_mul, Nat.add_mul]; omega
theorem wplus_v (w : W2) (x y : UInt64) (h : w.v + x.toNat * y.toNat < 340282366920938463463374607431768211456) : (wplus w x y).v = w.v + x.toNat * y.toNat := by
  have h1 := mul_lo x y
  have h2 := addCar_v w.l (x * y)
  unfold W2.v at h ⊢
  have key := wplus_alg _ w.h.toNat _ _ _ _ _ _ h1 h2
  have hq := (w.l + x * y).toNat_lt
  have e1 : (w.h + mulHi x y).toNat = w.h.toNat + (mulHi x y).toNat := add64n (by omega)
  have e2 : (w.h + mulHi x y + addCar w.l (x * y)).toNat = w.h.toNat + (mulHi x y).toNat + (addCar w.l (x * y)).toNat := by
    rw [add64n (by rw [e1]; omega), e1]
  rw [← key, ← e2]
  rfl
/-- One part of a sum, and what is left of it. -/
def nlow (w r : W2) : UInt64 := w.l + r.l
def nhigh (w r : W2) : UInt64 := w.h + r.h + addCar w.l r.l
def nrest (w r : W2) : W2 := ⟨shr64 (nhigh w r) 51, shl64 (nhigh w r) 13 ||| shr64 (nlow w r) 51⟩
theorem or_dis (h l : UInt64) : (shl64 h 13 ||| shr64 l 51).toNat = (h.toNat % 2251799813685248) * 8192 + l.toNat / 2251799813685248 := by
  have hl := l.toNat_lt
  have e1 : (shl64 h 13).toNat = (h.toNat % 2251799813685248) * 8192 := by
    unfold shl64
    rw [if_pos (by decide), UInt64.toNat_shiftLeft]
    show h.toNat <<< 13 % 18446744073709551616 = _
    rw [Nat.shiftLeft_eq]
    omega
  have e2 : (shr64 l 51).toNat = l.toNat / 2251799813685248 := shr51 l
  rw [UInt64.toNat_or, e1, e2]
  have h3 : l.toNat / 2251799813685248 < 2 ^ 13 := by omega
  have e4 : h.toNat % 2251799813685248 * 8192 = (h.toNat % 2251799813685248) <<< 13 := by rw [Nat.shiftLeft_eq]
  rw [e4, ← Nat.shiftLeft_add_eq_or_of_lt h3]
theorem nstep (w r : W2) (h : w.v + r.v < 340282366920938463463374607431768211456) : (nlow w r &&& 2251799813685247).toNat + (nrest w r).v * 2251799813685248 = w.v + r.v := by
  have h2 := addCar_v w.l r.l
  unfold W2.v at h ⊢
  have e1 : (w.h + r.h).toNat = w.h.toNat + r.h.toNat := add64n (by omega)
  have e2 : (nhigh w r).toNat = w.h.toNat + r.h.toNat + (addCar w.l r.l).toNat := by
    unfold nhigh; rw [add64n (by rw [e1]; omega), e1]
  have e3 : (nlow w r).toNat = (w.l + r.l).toNat := rfl
  have hl := (w.l + r.l).toNat_lt
  have hh := (nhigh w r).toNat_lt
  rw [and51]
  show (nlow w r).toNat % 2251799813685248 + ((shr64 (nhigh w r) 51).toNat * 18446744073709551616 + (shl64 (nhigh w r) 13 ||| shr64 (nlow w r) 51).toNat) * 2251799813685248 = _
  rw [shr51, or_dis]
  generalize (nhigh w r).toNat = H at *
  generalize (nlow w r).toNat = L at *
  omega

/-- Five sums, carried on. -/
structure W5 where
  (a b c d e : W2)
def W5.v (s : W5) : Nat := s.a.v + s.b.v * 2251799813685248 + s.c.v * 5070602400912917605986812821504 + s.d.v * 11417981541647679048466287755595961091061972992 + s.e.v * 25711008708143844408671393477458601640355247900524685364822016
def W5.lt (s : W5) (n : Nat) : Prop := s.a.v < n ∧ s.b.v < n ∧ s.c.v < n ∧ s.d.v < n ∧ s.e.v < n
def w0 : W2 := ⟨0, 0⟩
def nfin (l0 l1 l2 l3 l4 r : UInt64) : N5 :=
  let h := mulHi r 19 + addCar (r * 19) l0
  let l := r * 19 + l0
  fcarry ⟨l &&& 2251799813685247, l1 + (shl64 h 13 ||| shr64 l 51), l2, l3, l4⟩
def narrowN (s : W5) : N5 :=
  let r0 := nrest s.a w0
  let r1 := nrest s.b r0
  let r2 := nrest s.c r1
  let r3 := nrest s.d r2
  let r4 := nrest s.e r3
  nfin (nlow s.a w0 &&& 2251799813685247) (nlow s.b r0 &&& 2251799813685247) (nlow s.c r1 &&& 2251799813685247) (nlow s.d r2 &&& 2251799813685247) (nlow s.e r3 &&& 2251799813685247) r4.l
theorem and51_lt (x : UInt64) : (x &&& 2251799813685247).toNat < 2251799813685248 := by rw [and51]; omega
theorem nfin_v (l0 l1 l2 l3 l4 r : UInt64) (h0 : l0.toNat < 2251799813685248) (h1 : l1.toNat < 2251799813685248) (hr : r.toNat < 4611686018427387904) :
    (nfin l0 l1 l2 l3 l4 r).w % p25519 = (l0.toNat + l1.toNat * 2251799813685248 + l2.toNat * 5070602400912917605986812821504 + l3.toNat * 11417981541647679048466287755595961091061972992 + l4.toNat * 25711008708143844408671393477458601640355247900524685364822016 + r.toNat * 57896044618658097711785492504343953926634992332820282019728792003956564819968) % p25519 := by
  have m1 := mul_lo r 19
  have m2 := addCar_v (r * 19) l0
  have h19 : (19 : UInt64).toNat = 19 := rfl
  rw [h19] at m1
  have hm4 : (mulHi r 19).toNat ≤ 4 := by omega
  have hc1 : (addCar (r * 19) l0).toNat ≤ 1 := by have := (r * 19).toNat_lt; omega
  have e1 : (mulHi r 19 + addCar (r * 19) l0).toNat = (mulHi r 19).toNat + (addCar (r * 19) l0).toNat := add64n (by omega)
  have e2 := or_dis (mulHi r 19 + addCar (r * 19) l0) (r * 19 + l0)
  rw [Nat.mod_eq_of_lt (by omega : (mulHi r 19 + addCar (r * 19) l0).toNat < 2251799813685248)] at e2
  have e3 := and51 (r * 19 + l0)
  unfold nfin
  simp only [fcarry_mod]
  have hL := (r * 19 + l0).toNat_lt
  have hP := (r * 19).toNat_lt
  have e4 : (l1 + (shl64 (mulHi r 19 + addCar (r * 19) l0) 13 ||| shr64 (r * 19 + l0) 51)).toNat = l1.toNat + (shl64 (mulHi r 19 + addCar (r * 19) l0) 13 ||| shr64 (r * 19 + l0) 51).toNat := add64n (by rw [e2, e1]; omega)
  have key : (N5.mk ((r * 19 + l0) &&& 2251799813685247) (l1 + (shl64 (mulHi r 19 + addCar (r * 19) l0) 13 ||| shr64 (r * 19 + l0) 51)) l2 l3 l4).w + p25519 * r.toNat = l0.toNat + l1.toNat * 2251799813685248 + l2.toNat * 5070602400912917605986812821504 + l3.toNat * 11417981541647679048466287755595961091061972992 + l4.toNat * 25711008708143844408671393477458601640355247900524685364822016 + r.toNat * 57896044618658097711785492504343953926634992332820282019728792003956564819968 := by
    simp only [N5.w, e3, e4, e2, e1, p25519]
    clear e1 e2 e3 e4
    generalize (mulHi r 19).toNat = m at *
    generalize (addCar (r * 19) l0).toNat = c at *
    generalize (r * 19 + l0).toNat = q at *
    generalize (r * 19).toNat = p at *
    omega
  rw [← key, Nat.add_mul_mod_self_left]
theorem n1 (B l0 l1 l2 l3 l4 R0 R1 R2 R3 R4 a b c d e : Nat) (s0 : l0 + R0 * B = a) (s1 : l1 + R1 * B = b + R0) (s2 : l2 + R2 * B = c + R1) (s3 : l3 + R3 * B = d + R2) (s4 : l4 + R4 * B = e + R3) :
  l0 + l1 * B + l2 * (B * B) + l3 * (B * B * B) + l4 * (B * B * B * B) + R4 * (B * B * B * B * B) = a + b * B + c * (B * B) + d * (B * B * B) + e * (B * B * B * B) := by
  have t1 : l1 * B + R1 * (B * B) = b * B + R0 * B := by have := congrArg (· * B) s1; grind
  have t2 : l2 * (B * B) + R2 * (B * B * B) = c * (B * B) + R1 * (B * B) := by have := congrArg (· * (B * B)) s2; grind
  have t3 : l3 * (B * B * B) + R3 * (B * B * B * B) = d * (B * B * B) + R2 * (B * B * B) := by have := congrArg (· * (B * B * B)) s3; grind
  have t4 : l4 * (B * B * B * B) + R4 * (B * B * B * B * B) = e * (B * B * B * B) + R3 * (B * B * B * B) := by have := congrArg (· * (B * B * B * B)) s4; grind
  omega
theorem narrowN_v (s : W5) (hs : s.lt 5192296858534827628530496329220096) : (narrowN s).w % p25519 = s.v % p25519 := by
  obtain ⟨ha, hb, hc, hd, he⟩ := hs
  have z : w0.v = 0 := rfl
  have s0 := nstep s.a w0 (by omega)
  have s1 := nstep s.b (nrest s.a w0) (by omega)
  have s2 := nstep s.c (nrest s.b (nrest s.a w0)) (by omega)
  have s3 := nstep s.d (nrest s.c (nrest s.b (nrest s.a w0))) (by omega)
  have s4 := nstep s.e (nrest s.d (nrest s.c (nrest s.b (nrest s.a w0)))) (by omega)
  have b0 := and51_lt (nlow s.a w0)
  have b1 := and51_lt (nlow s.b (nrest s.a w0))
  have hv : (nrest s.e (nrest s.d (nrest s.c (nrest s.b (nrest s.a w0))))).v < 4611686018427387904 := by omega
  have hl : (nrest s.e (nrest s.d (nrest s.c (nrest s.b (nrest s.a w0))))).v = (nrest s.e (nrest s.d (nrest s.c (nrest s.b (nrest s.a w0))))).l.toNat := by
    unfold W2.v at hv ⊢; omega
  unfold narrowN
  simp only
  rw [nfin_v _ _ _ _ _ _ b0 b1 (by rw [← hl]; omega), ← hl]
  have key := n1 2251799813685248 _ _ _ _ _ _ _ _ _ _ _ _ _ _ _ (s0.trans (by rw [z, Nat.add_zero])) s1 s2 s3 s4
  simp only [Nat.reduceMul] at key
  exact congrArg (· % p25519) key
def fsums (x y : N5) : W5 := ⟨
  wplus (wplus (wplus (wplus (wplus w0 x.a y.a) x.b (y.e * 19)) x.c (y.d * 19)) x.d (y.c * 19)) x.e (y.b * 19),
  wplus (wplus (wplus (wplus (wplus w0 x.a y.b) x.b y.a) x.c (y.e * 19)) x.d (y.d * 19)) x.e (y.c * 19),
  wplus (wplus (wplus (wplus (wplus w0 x.a y.c) x.b y.b) x.c y.a) x.d (y.e * 19)) x.e (y.d * 19),
  wplus (wplus (wplus (wplus (wplus w0 x.a y.d) x.b y.c) x.c y.b) x.d y.a) x.e (y.e * 19),
  wplus (wplus (wplus (wplus (wplus w0 x.a y.e) x.b y.d) x.c y.c) x.d y.b) x.e y.a⟩
def fmul (x y : N5) : N5 := narrowN (fsums (fcarry x) (fcarry y))
theorem wsum5 (a b c d e a' b' c' d' e' : UInt64) (ha : a.toNat < 4503599627370496) (hb : b.toNat < 4503599627370496) (hc : c.toNat < 4503599627370496) (hd : d.toNat < 4503599627370496) (he : e.toNat < 4503599627370496)
    (ha' : a'.toNat < 144115188075855872) (hb' : b'.toNat < 144115188075855872) (hc' : c'.toNat < 144115188075855872) (hd' : d'.toNat < 144115188075855872) (he' : e'.toNat < 144115188075855872) :
    (wplus (wplus (wplus (wplus (wplus w0 a a') b b') c c') d d') e e').v = a.toNat * a'.toNat + b.toNat * b'.toNat + c.toNat * c'.toNat + d.toNat * d'.toNat + e.toNat * e'.toNat ∧
    (wplus (wplus (wplus (wplus (wplus w0 a a') b b') c c') d d') e e').v < 5192296858534827628530496329220096 := by
  have m1 : a.toNat * a'.toNat ≤ 4503599627370496 * 144115188075855872 := Nat.mul_le_mul (by omega) (by omega)
  have m2 : b.toNat * b'.toNat ≤ 4503599627370496 * 144115188075855872 := Nat.mul_le_mul (by omega) (by omega)
  have m3 : c.toNat * c'.toNat ≤ 4503599627370496 * 144115188075855872 := Nat.mul_le_mul (by omega) (by omega)
  have m4 : d.toNat * d'.toNat ≤ 4503599627370496 * 144115188075855872 := Nat.mul_le_mul (by omega) (by omega)
  have m5 : e.toNat * e'.toNat ≤ 4503599627370496 * 144115188075855872 := Nat.mul_le_mul (by omega) (by omega)
  simp only [Nat.reduceMul] at m1 m2 m3 m4 m5
  have z : w0.v = 0 := rfl
  have s1 := wplus_v w0 a a' (by omega)
  have s2 := wplus_v (wplus w0 a a') b b' (by omega)
  have s3 := wplus_v (wplus (wplus w0 a a') b b') c c' (by omega)
  have s4 := wplus_v (wplus (wplus (wplus w0 a a') b b') c c') d d' (by omega)
  have s5 := wplus_v (wplus (wplus (wplus (wplus w0 a a') b b') c c') d d') e e' (by omega)
  constructor <;> omega
theorem mul19n (y : UInt64) (h : y.toNat < 4503599627370496) : (y * 19).toNat = y.toNat * 19 := by
  rw [UInt64.toNat_mul]
  show y.toNat * 19 % _ = _
  omega
theorem fsums_spec (x y : N5) (hx : x.lt 4503599627370496) (hy : y.lt 4503599627370496) : (fsums x y).v % p25519 = (x.w * y.w) % p25519 ∧ (fsums x y).lt 5192296858534827628530496329220096 := by
  obtain ⟨xa, xb, xc, xd, xe⟩ := hx
  obtain ⟨ya, yb, yc, yd, ye⟩ := hy
  have nb := mul19n _ yb
  have nc := mul19n _ yc
  have nd := mul19n _ yd
  have ne := mul19n _ ye
  obtain ⟨s0, l0⟩ := wsum5 x.a x.b x.c x.d x.e y.a (y.e * 19) (y.d * 19) (y.c * 19) (y.b * 19) xa xb xc xd xe (by omega) (by omega) (by omega) (by omega) (by omega)
  obtain ⟨s1, l1⟩ := wsum5 x.a x.b x.c x.d x.e y.b y.a (y.e * 19) (y.d * 19) (y.c * 19) xa xb xc xd xe (by omega) (by omega) (by omega) (by omega) (by omega)
  obtain ⟨s2, l2⟩ := wsum5 x.a x.b x.c x.d x.e y.c y.b y.a (y.e * 19) (y.d * 19) xa xb xc xd xe (by omega) (by omega) (by omega) (by omega) (by omega)
  obtain ⟨s3, l3⟩ := wsum5 x.a x.b x.c x.d x.e y.d y.c y.b y.a (y.e * 19) xa xb xc xd xe (by omega) (by omega) (by omega) (by omega) (by omega)
  obtain ⟨s4, l4⟩ := wsum5 x.a x.b x.c x.d x.e y.e y.d y.c y.b y.a xa xb xc xd xe (by omega) (by omega) (by omega) (by omega) (by omega)
  refine ⟨?_, l0, l1, l2, l3, l4⟩
  rw [nb, nc, nd, ne] at s0
  rw [nc, nd, ne] at s1
  rw [nd, ne] at s2
  rw [ne] at s3
  have key : x.w * y.w = (fsums x y).v + p25519 * ((x.b.toNat * y.e.toNat + x.c.toNat * y.d.toNat + x.d.toNat * y.c.toNat + x.e.toNat * y.b.toNat) + (x.c.toNat * y.e.toNat + x.d.toNat * y.d.toNat + x.e.toNat * y.c.toNat) * 2251799813685248 + (x.d.toNat * y.e.toNat + x.e.toNat * y.d.toNat) * 5070602400912917605986812821504 + x.e.toNat * y.e.toNat * 11417981541647679048466287755595961091061972992) := by
    show _ = (_ + _ * _ + _ * _ + _ * _ + _ * _) + _
    simp only [N5.w]
    unfold fsums
    simp only
    rw [s0, s1, s2, s3, s4]
    simp only [p25519]
    generalize x.a.toNat = a0
    generalize x.b.toNat = a1
    generalize x.c.toNat = a2
    generalize x.d.toNat = a3
    generalize x.e.toNat = a4
    generalize y.a.toNat = b0
    generalize y.b.toNat = b1
    generalize y.c.toNat = b2
    generalize y.d.toNat = b3
    generalize y.e.toNat = b4
    grind
  rw [key, Nat.add_mul_mod_self_left]
theorem N5.lt_le {x : N5} {m n : Nat} (h : x.lt m) (hmn : m ≤ n) : x.lt n := by
  obtain ⟨a, b, c, d, e⟩ := h
  exact ⟨by omega, by omega, by omega, by omega, by omega⟩
theorem fmul_mod (x y : N5) : (fmul x y).w % p25519 = (x.w * y.w) % p25519 := by
  obtain ⟨_, hx⟩ := fcarry_spec x
  obtain ⟨_, hy⟩ := fcarry_spec y
  obtain ⟨h1, h2⟩ := fsums_spec _ _ (N5.lt_le hx (by decide)) (N5.lt_le hy (by decide))
  unfold fmul
  rw [narrowN_v _ h2, h1, Nat.mul_mod, fcarry_mod, fcarry_mod, ← Nat.mul_mod]
def fscale (x : N5) (n : UInt64) : N5 := narrowN ⟨wplus w0 (fcarry x).a n, wplus w0 (fcarry x).b n, wplus w0 (fcarry x).c n, wplus w0 (fcarry x).d n, wplus w0 (fcarry x).e n⟩
theorem wone (a n : UInt64) (ha : a.toNat < 4503599627370496) (hn : n.toNat < 4294967296) : (wplus w0 a n).v = a.toNat * n.toNat ∧ (wplus w0 a n).v < 5192296858534827628530496329220096 := by
  have m1 : a.toNat * n.toNat ≤ 4503599627370496 * 4294967296 := Nat.mul_le_mul (by omega) (by omega)
  simp only [Nat.reduceMul] at m1
  have z : w0.v = 0 := rfl
  have s1 := wplus_v w0 a n (by rw [z, Nat.zero_add]; exact Nat.lt_of_le_of_lt m1 (by decide))
  rw [z, Nat.zero_add] at s1
  exact ⟨s1, by rw [s1]; exact Nat.lt_of_le_of_lt m1 (by decide)⟩
theorem fscale_mod (x : N5) (n : UInt64) (hn : n.toNat < 4294967296) : (fscale x n).w % p25519 = (x.w * n.toNat) % p25519 := by
  obtain ⟨_, a, b, c, d, e⟩ := fcarry_spec x
  obtain ⟨s0, l0⟩ := wone (fcarry x).a n (by omega) hn
  obtain ⟨s1, l1⟩ := wone (fcarry x).b n (by omega) hn
  obtain ⟨s2, l2⟩ := wone (fcarry x).c n (by omega) hn
  obtain ⟨s3, l3⟩ := wone (fcarry x).d n (by omega) hn
  obtain ⟨s4, l4⟩ := wone (fcarry x).e n (by omega) hn
  have e : (x.w * n.toNat) % p25519 = ((fcarry x).w * n.toNat) % p25519 := by
    rw [Nat.mul_mod, ← fcarry_mod x, ← Nat.mul_mod]
  rw [e]
  have hb : W5.lt ⟨wplus w0 (fcarry x).a n, wplus w0 (fcarry x).b n, wplus w0 (fcarry x).c n, wplus w0 (fcarry x).d n, wplus w0 (fcarry x).e n⟩ 5192296858534827628530496329220096 := by
    simp only [W5.lt]
    exact ⟨l0, l1, l2, l3, l4⟩
  unfold fscale
  refine (narrowN_v _ hb).trans (congrArg (· % p25519) ?_)
  unfold W5.v
  simp only
  rw [s0, s1, s2, s3, s4]
  simp only [N5.w]
  generalize (fcarry x).a.toNat = a0
  generalize (fcarry x).b.toNat = a1
  generalize (fcarry x).c.toNat = a2
  generalize (fcarry x).d.toNat = a3
  generalize (fcarry x).e.toNat = a4
  generalize n.toNat = m
  grind
def wordB (w : UInt64) : List UInt8 := [(shr64 w 0).toUInt8, (shr64 w 8).toUInt8, (shr64 w 16).toUInt8, (shr64 w 24).toUInt8, (shr64 w 32).toUInt8, (shr64 w 40).toUInt8, (shr64 w 48).toUInt8, (shr64 w 56).toUInt8]
def feB (t : N5) : List UInt8 := wordB (t.a ||| shl64 t.b 51) ++ wordB (shr64 t.b 13 ||| shl64 t.c 38) ++ wordB (shr64 t.c 26 ||| shl64 t.d 25) ++ wordB (shr64 t.d 39 ||| shl64 t.e 12)
def bytesF (x : N5) : List UInt8 := feB (fsmall x)
def zeroF : N5 := ⟨0, 0, 0, 0, 0⟩
theorem and_full (x : UInt64) : x &&& 18446744073709551615 = x := by
  apply UInt64.toNat_inj.1
  rw [UInt64.toNat_and]
  show x.toNat &&& (2 ^ 64 - 1) = _
  rw [Nat.and_two_pow_sub_one_eq_mod]
  exact Nat.mod_eq_of_lt x.toNat_lt
theorem swap_l (a b : UInt64) : a ^^^ ((a ^^^ b) &&& 18446744073709551615) = b := by
  rw [and_full, ← UInt64.xor_assoc, UInt64.xor_self, UInt64.zero_xor]
theorem swap_r (a b : UInt64) : b ^^^ ((a ^^^ b) &&& 18446744073709551615) = a := by
  rw [and_full, UInt64.xor_comm a b, ← UInt64.xor_assoc, UInt64.xor_self, UInt64.zero_xor]
theorem swap_no (a d : UInt64) : a ^^^ (d &&& 0) = a := by simp
end Go.Proofs.YtahiopdkekkibaaGreatDoor.FK

/-
  The ladder of layer 4 over the numbers modulo the prime; what is 0 of it. It speaks of no program.
-/
namespace Go.Proofs.YtahiopdkekkibaaGreatDoor.FK
open Go Go.RowKit
set_option maxHeartbeats 4000000
set_option linter.unusedSimpArgs false
set_option linter.unusedVariables false
set_option linter.unusedSectionVars false
theorem fn_add (n : Nat) [NeZero n] (a b : Nat) : Fin.ofNat n (a + b) = Fin.ofNat n a + Fin.ofNat n b := by
  apply Fin.ext
  rw [Fin.val_add]
  show (a + b) % n = (a % n + b % n) % n
  rw [Nat.add_mod]
theorem fn_mul (n : Nat) [NeZero n] (a b : Nat) : Fin.ofNat n (a * b) = Fin.ofNat n a * Fin.ofNat n b := by
  apply Fin.ext
  rw [Fin.val_mul]
  show (a * b) % n = (a % n * (b % n)) % n
  rw [Nat.mul_mod]
theorem fn_eq {n : Nat} [NeZero n] {a b : Nat} : Fin.ofNat n a = Fin.ofNat n b ↔ a % n = b % n :=
  ⟨fun h => congrArg Fin.val h, fun h => Fin.ext h⟩
theorem fn_sub (n : Nat) [NeZero n] {a b c : Nat} (h : (c + b) % n = a % n) : Fin.ofNat n c = Fin.ofNat n a - Fin.ofNat n b := by
  have e := fn_add n c b
  rw [fn_eq.2 h] at e
  rw [e]
  grind
structure P2 (n : Nat) where
  (x z : Fin n)
section
variable {n : Nat} [NeZero n]
def dbl (c : Fin n) (p : P2 n) : P2 n :=
  ⟨(p.x + p.z) * (p.x + p.z) * ((p.x - p.z) * (p.x - p.z)),
   ((p.x + p.z) * (p.x + p.z) - (p.x - p.z) * (p.x - p.z)) * ((p.x + p.z) * (p.x + p.z) + ((p.x + p.z) * (p.x + p.z) - (p.x - p.z) * (p.x - p.z)) * c)⟩
def sm (u : Fin n) (p q : P2 n) : P2 n :=
  ⟨((q.x - q.z) * (p.x + p.z) + (q.x + q.z) * (p.x - p.z)) * ((q.x - q.z) * (p.x + p.z) + (q.x + q.z) * (p.x - p.z)),
   u * (((q.x - q.z) * (p.x + p.z) - (q.x + q.z) * (p.x - p.z)) * ((q.x - q.z) * (p.x + p.z) - (q.x + q.z) * (p.x - p.z)))⟩
theorem sm_comm (u : Fin n) (p q : P2 n) : sm u p q = sm u q p := by
  unfold sm
  congr 1 <;> grind
/-- The ladder, bit by bit; A is so often the point, B once more. -/
def ladV (c u : Fin n) (bit : Nat → Bool) : Nat → P2 n × P2 n → P2 n × P2 n
  | 0, s => s
  | t + 1, s => ladV c u bit t (if bit t = true then (sm u s.1 s.2, dbl c s.2) else (dbl c s.1, sm u s.1 s.2))
/-- The same with both changed lately. -/
def ladS (c u : Fin n) (bit : Nat → Bool) : Nat → P2 n × P2 n × Bool → P2 n × P2 n × Bool
  | 0, s => s
  | t + 1, s => ladS c u bit t (if (s.2.2 != bit t) = true then (dbl c s.2.1, sm u s.2.1 s.1, bit t) else (dbl c s.1, sm u s.1 s.2.1, bit t))
def un (s : P2 n × P2 n × Bool) : P2 n × P2 n := if s.2.2 = true then (s.2.1, s.1) else (s.1, s.2.1)
theorem ladS_un (c u : Fin n) (bit : Nat → Bool) : ∀ (t : Nat) (s : P2 n × P2 n × Bool), un (ladS c u bit t s) = ladV c u bit t (un s)
  | 0, s => rfl
  | t + 1, (a, b, sw) => by
    rw [ladS, ladV, ladS_un c u bit t]
    congr 1
    cases sw <;> cases h : bit t <;> simp [un]
    all_goals exact sm_comm _ _ _
end
section
variable {n : Nat} [NeZero n]
/-- To the power of 2^255 - 21. -/
def vinvR (a : Fin n) : Nat → Fin n → Fin n
  | 0, r => r
  | b + 1, r => vinvR a b (if b = 2 ∨ b = 4 then r * r else r * r * a)
end
instance : NeZero p25519 := ⟨by decide⟩
def fv (x : N5) : Fin p25519 := Fin.ofNat p25519 x.w
theorem fv_add (x y : N5) : fv (fadd x y) = fv x + fv y := by
  unfold fv; rw [← fn_add]; exact fn_eq.2 (fadd_mod x y)
theorem fv_mul (x y : N5) : fv (fmul x y) = fv x * fv y := by
  unfold fv; rw [← fn_mul]; exact fn_eq.2 (fmul_mod x y)
theorem fv_sub (x y : N5) : fv (fsub x y) = fv x - fv y := fn_sub _ (fsub_mod x y)
theorem fv_scale (x : N5) (k : UInt64) (hk : k.toNat < 4294967296) : fv (fscale x k) = fv x * Fin.ofNat p25519 k.toNat := by
  unfold fv; rw [← fn_mul]; exact fn_eq.2 (fscale_mod x k hk)
theorem fv_carry (x : N5) : fv (fcarry x) = fv x := fn_eq.2 (fcarry_mod x)
def oneF : N5 := ⟨1, 0, 0, 0, 0⟩
theorem fv_one : fv oneF = 1 := by decide +kernel
theorem fv_zero : fv zeroF = 0 := by decide +kernel
def invR (a : N5) : Nat → N5 → N5
  | 0, r => r
  | b + 1, r => invR a b (if b = 2 ∨ b = 4 then fmul r r else fmul (fmul r r) a)
theorem fv_invR (a : N5) : ∀ (t : Nat) (r : N5), fv (invR a t r) = vinvR (fv a) t (fv r)
  | 0, r => rfl
  | t + 1, r => by
    rw [invR, vinvR, fv_invR a t]
    congr 1
    split <;> simp only [fv_mul]
def finv (a : N5) : N5 := invR (fcarry a) 255 oneF
theorem fv_inv (a : N5) : fv (finv a) = vinvR (fv a) 255 1 := by
  unfold finv; rw [fv_invR, fv_carry, fv_one]
structure PN where
  (x z : N5)
def a24 : UInt64 := (121665 : UInt32).toUInt64
def dblN (p : PN) : PN :=
  ⟨fmul (fmul (fadd p.x p.z) (fadd p.x p.z)) (fmul (fsub p.x p.z) (fsub p.x p.z)),
   fmul (fsub (fmul (fadd p.x p.z) (fadd p.x p.z)) (fmul (fsub p.x p.z) (fsub p.x p.z))) (fadd (fmul (fadd p.x p.z) (fadd p.x p.z)) (fscale (fsub (fmul (fadd p.x p.z) (fadd p.x p.z)) (fmul (fsub p.x p.z) (fsub p.x p.z))) a24))⟩
def smN (u : N5) (p q : PN) : PN :=
  ⟨fmul (fadd (fmul (fsub q.x q.z) (fadd p.x p.z)) (fmul (fadd q.x q.z) (fsub p.x p.z))) (fadd (fmul (fsub q.x q.z) (fadd p.x p.z)) (fmul (fadd q.x q.z) (fsub p.x p.z))),
   fmul u (fmul (fsub (fmul (fsub q.x q.z) (fadd p.x p.z)) (fmul (fadd q.x q.z) (fsub p.x p.z))) (fsub (fmul (fsub q.x q.z) (fadd p.x p.z)) (fmul (fadd q.x q.z) (fsub p.x p.z))))⟩
def pv (p : PN) : P2 p25519 := ⟨fv p.x, fv p.z⟩
def c24 : Fin p25519 := Fin.ofNat p25519 121665
theorem pv_dbl (p : PN) : pv (dblN p) = dbl c24 (pv p) := by
  have h := fun x => fv_scale x a24 (by decide)
  have e : a24.toNat = 121665 := rfl
  unfold pv dblN dbl c24
  simp only [fv_mul, fv_add, fv_sub, h, e]
theorem pv_sm (u : N5) (p q : PN) : pv (smN u p q) = sm (fv u) (pv p) (pv q) := by
  unfold pv smN sm
  simp only [fv_mul, fv_add, fv_sub]
def stepS (u : N5) (bit : Bool) (s : PN × PN × Bool) : PN × PN × Bool :=
  if (s.2.2 != bit) = true then (dblN s.2.1, smN u s.2.1 s.1, bit) else (dblN s.1, smN u s.1 s.2.1, bit)
def climbS (u : N5) (bit : Nat → Bool) : Nat → PN × PN × Bool → PN × PN × Bool
  | 0, s => s
  | t + 1, s => climbS u bit t (stepS u (bit t) s)
def pvs (s : PN × PN × Bool) : P2 p25519 × P2 p25519 × Bool := (pv s.1, pv s.2.1, s.2.2)
theorem pvs_climb (u : N5) (bit : Nat → Bool) : ∀ (t : Nat) (s : PN × PN × Bool), pvs (climbS u bit t s) = ladS c24 (fv u) bit t (pvs s)
  | 0, s => rfl
  | t + 1, (a, b, sw) => by
    rw [climbS, ladS, pvs_climb u bit t]
    congr 1
    unfold stepS pvs
    cases sw <;> cases bit t <;> simp [pv_dbl, pv_sm]
def kbit (k : List UInt8) (t : Nat) : Bool := (shr8 (k.getD (t / 8) 0) (t % 8) &&& 1) == 1
def start (x : N5) : PN × PN × Bool := (⟨oneF, zeroF⟩, ⟨x, oneF⟩, false)
def endS (s : PN × PN × Bool) : N5 := fmul (if s.2.2 = true then s.2.1 else s.1).x (finv (if s.2.2 = true then s.2.1 else s.1).z)
def climbF (k : List UInt8) (x : N5) : N5 := endS (climbS x (kbit k) 255 (start x))
theorem fv_climb (k : List UInt8) (x : N5) : fv (climbF k x) = (ladV c24 (fv x) (kbit k) 255 (⟨1, 0⟩, ⟨fv x, 1⟩)).1.x * vinvR (ladV c24 (fv x) (kbit k) 255 (⟨1, 0⟩, ⟨fv x, 1⟩)).1.z 255 1 := by
  have h := pvs_climb x (kbit k) 255 (start x)
  have h2 := ladS_un c24 (fv x) (kbit k) 255 (pvs (start x))
  have h3 : un (pvs (start x)) = (⟨1, 0⟩, ⟨fv x, 1⟩) := by
    unfold un pvs start pv
    simp only [fv_one, fv_zero]
    rfl
  rw [h3, ← h] at h2
  rw [← h2]
  unfold climbF endS
  rw [fv_mul, fv_inv]
  generalize climbS x (kbit k) 255 (start x) = s
  obtain ⟨a, b, sw⟩ := s
  cases sw <;> rfl
end Go.Proofs.YtahiopdkekkibaaGreatDoor.FK

/-
  Layer 3: the program's small functions.
-/
namespace Go.Proofs.YtahiopdkekkibaaGreatDoor.FK
open Go Go.RowKit
set_option maxHeartbeats 4000000
set_option linter.unusedSimpArgs false
set_option linter.unusedVariables false
set_option maxRecDepth 100000 in
theorem fcarry_tri (x : N5) : Tri Tryz.prog 130 [x.cv] [] (.c (fcarry x).cv) [] := by
  refine tri_of (envOf_ok ga0_ok 40) Tryz.func130 rfl rfl (rs := [.cell 2 90]) rfl rfl (by simp [envOf]) rfl [] ?_
  simp only [envOf, ga0, N5.cv, go_sem]
  exact ⟨rfl, rfl, rfl, rfl, rfl⟩
def fcarryC : Con := con0 fun args => match args with
  | [.agg [.u64 a, .u64 b, .u64 c, .u64 d, .u64 e]] => some (.c (fcarry ⟨a, b, c, d, e⟩).cv, [])
  | _ => none
theorem fcarryC_ok : ConOk Tryz.prog 130 fcarryC := con0_ok Tryz.func130 rfl rfl fun args res ob h hob => by
  split at h
  · injection h with h; injection h with h1 h2; subst h1; subst h2; exact fcarry_tri ⟨_, _, _, _, _⟩
  · cases h
def gf1 : Nat → Option Con := fun f => match f with
  | 130 => some fcarryC
  | _ => none
theorem gf1_ok : GaOk Tryz.prog gf1 := fun f con h => by
  unfold gf1 at h
  split at h
  · injection h with h; subst h; exact fcarryC_ok
  · cases h
set_option maxRecDepth 100000 in
theorem fadd_tri (x y : N5) : Tri Tryz.prog 132 [x.cv, y.cv] [] (.c (fadd x y).cv) [] := by
  refine tri_of (envOf_ok gf1_ok 24) Tryz.func132 rfl rfl (rs := [.cell 4 90]) rfl rfl (by simp [envOf]) rfl [] ?_
  simp only [envOf, gf1, fcarryC, N5.cv, N5.eta, go_sem]
  repeat' apply And.intro
  all_goals try rfl
  refine loop_rounds (envOf_ok gf1_ok 24) 6 ?_
  simp only [envOf, gf1, fcarryC, N5.cv, N5.eta, fadd, go_sem]
  repeat' apply And.intro
  all_goals rfl
set_option maxRecDepth 100000 in
theorem fsub_tri (x y : N5) : Tri Tryz.prog 133 [x.cv, y.cv] [] (.c (fsub x y).cv) [] := by
  refine tri_of (envOf_ok gf1_ok 32) Tryz.func133 rfl rfl (rs := [.cell 4 90]) rfl rfl (by simp [envOf]) rfl [] ?_
  simp only [envOf, gf1, fcarryC, N5.cv, N5.eta, go_sem]
  repeat' apply And.intro
  all_goals try rfl
  refine loop_rounds (envOf_ok gf1_ok 32) 5 ?_
  simp only [envOf, gf1, fcarryC, N5.cv, N5.eta, fsub, go_sem]
  repeat' apply And.intro
  all_goals rfl
set_option maxRecDepth 100000 in
theorem fsmall_tri (x : N5) : Tri Tryz.prog 98 [x.cv] [] (.c (fsmall x).cv) [] := by
  refine tri_of (envOf_ok gf1_ok 46) Tryz.func98 rfl rfl (rs := [.cell 2 90]) rfl rfl (by simp [envOf]) rfl [] ?_
  simp only [envOf, gf1, fcarryC, N5.cv, N5.eta, go_sem]
  repeat' apply And.intro
  all_goals try rfl
  refine loop_rounds (envOf_ok gf1_ok 46) 5 ?_
  simp only [envOf, gf1, fcarryC, N5.cv, N5.eta, go_sem]
  repeat' apply And.intro
  all_goals try rfl
  refine loop_rounds (envOf_ok gf1_ok 46) 6 ?_
  simp only [envOf, gf1, fcarryC, N5.cv, N5.eta, go_sem]
  repeat' apply And.intro
  all_goals rfl
def fsmallC : Con := con0 fun args => match args with
  | [.agg [.u64 a, .u64 b, .u64 c, .u64 d, .u64 e]] => some (.c (fsmall ⟨a, b, c, d, e⟩).cv, [])
  | _ => none
theorem fsmallC_ok : ConOk Tryz.prog 98 fsmallC := con0_ok Tryz.func98 rfl rfl fun args res ob h hob => by
  split at h
  · injection h with h; injection h with h1 h2; subst h1; subst h2; exact fsmall_tri ⟨_, _, _, _, _⟩
  · cases h
def faddC : Con := con0 fun args => match args with
  | [.agg [.u64 a, .u64 b, .u64 c, .u64 d, .u64 e], .agg [.u64 a', .u64 b', .u64 c', .u64 d', .u64 e']] => some (.c (fadd ⟨a, b, c, d, e⟩ ⟨a', b', c', d', e'⟩).cv, [])
  | _ => none
theorem faddC_ok : ConOk Tryz.prog 132 faddC := con0_ok Tryz.func132 rfl rfl fun args res ob h hob => by
  split at h
  · injection h with h; injection h with h1 h2; subst h1; subst h2; exact fadd_tri ⟨_, _, _, _, _⟩ ⟨_, _, _, _, _⟩
  · cases h
def fsubC : Con := con0 fun args => match args with
  | [.agg [.u64 a, .u64 b, .u64 c, .u64 d, .u64 e], .agg [.u64 a', .u64 b', .u64 c', .u64 d', .u64 e']] => some (.c (fsub ⟨a, b, c, d, e⟩ ⟨a', b', c', d', e'⟩).cv, [])
  | _ => none
theorem fsubC_ok : ConOk Tryz.prog 133 fsubC := con0_ok Tryz.func133 rfl rfl fun args res ob h hob => by
  split at h
  · injection h with h; injection h with h1 h2; subst h1; subst h2; exact fsub_tri ⟨_, _, _, _, _⟩ ⟨_, _, _, _, _⟩
  · cases h
end Go.Proofs.YtahiopdkekkibaaGreatDoor.FK

/-
  Layer 3: products.
-/
namespace Go.Proofs.YtahiopdkekkibaaGreatDoor.FK
open Go Go.RowKit
set_option maxHeartbeats 4000000
set_option linter.unusedSimpArgs false
set_option linter.unusedVariables false
def W2.cv (x : W2) : CV := .agg [.u64 x.h, .u64 x.l]
theorem W2.eta (x : W2) : W2.mk x.h x.l = x := rfl
theorem add64_run (x y : UInt64) (w : World) : (callFunc 167 #[.int .u64 (x.toNat : Int), .int .u64 (y.toNat : Int), .int .u64 (((0 : UInt64).toNat : Nat) : Int)]).run Tryz.prog w = .ok (.value (.tuple #[.int .u64 ((x + y).toNat : Int), .int .u64 ((addCar x y).toNat : Int)])) w := by
  have hx := x.toNat_lt
  have hy := y.toNat_lt
  have e1 : (((x.toNat : Int) + (y.toNat : Int) + 0) % 18446744073709551616) = ((x + y).toNat : Int) := by
    rw [UInt64.toNat_add]; simp only [Nat.reducePow]; omega
  have e2 : (((x.toNat : Int) + (y.toNat : Int) + 0) / 18446744073709551616) = ((addCar x y).toNat : Int) := by
    unfold addCar
    rw [UInt64.toNat_ofNat_of_lt' (by show _ < 18446744073709551616; omega)]
    omega
  rw [run_callFunc_extern Tryz.func167 (by kernel_rfl) (by kernel_rfl) (by kernel_rfl) (e := add64Entry) (by kernel_rfl)]
  have hz : (((0 : UInt64).toNat : Nat) : Int) = 0 := rfl
  rw [hz, run_add64 _ _ _ (by omega) (by omega) (by omega) (by omega), e1, e2]
  rfl
def add64C : Con := con0 fun args => match args with
  | [.one (.u64 x), .one (.u64 y), .one (.u64 c)] => some (.tup [.one (.u64 (x + y)), .one (.u64 (addCar x y))], [c = 0])
  | _ => none
theorem add64C_ok : ConOk Tryz.prog 167 add64C := con0_ext fun args res ob h hob r w vals hv => by
  split at h
  · rename_i x y c
    injection h with h; injection h with h1 h2; subst h1; subst h2
    have hc : c = 0 := hob.1
    subst hc
    match vals, hv with
    | [a, b, d], ⟨ha, hb, hd, _⟩ =>
      have ha : a = .int .u64 (x.toNat : Int) := ha
      have hb : b = .int .u64 (y.toNat : Int) := hb
      have hd : d = .int .u64 (((0 : UInt64).toNat : Nat) : Int) := hd
      subst ha; subst hb; subst hd
      exact ⟨_, add64_run x y w, _, rfl, rfl, rfl, trivial⟩
  · cases h
set_option maxRecDepth 100000 in
theorem mul64_tri (x y : UInt64) : Tri Tryz.prog 122 [.one (.u64 x), .one (.u64 y)] [] (.tup [.one (.u64 (mulHi x y)), .one (.u64 (x * y))]) [] := by
  refine tri_of (envOf_ok ga0_ok 51) Tryz.func122 rfl rfl (rs := [.tmp 4, .tmp 5]) rfl rfl (by simp [envOf]) rfl [] ?_
  simp only [envOf, ga0, go_sem]
  all_goals rfl
def mul64C : Con := con0 fun args => match args with
  | [.one (.u64 x), .one (.u64 y)] => some (.tup [.one (.u64 (mulHi x y)), .one (.u64 (x * y))], [])
  | _ => none
theorem mul64C_ok : ConOk Tryz.prog 122 mul64C := con0_ok Tryz.func122 rfl rfl fun args res ob h hob => by
  split at h
  · injection h with h; injection h with h1 h2; subst h1; subst h2; exact mul64_tri _ _
  · cases h
def gf2 : Nat → Option Con := fun f => match f with
  | 167 => some add64C
  | 122 => some mul64C
  | 130 => some fcarryC
  | _ => none
theorem gf2_ok : GaOk Tryz.prog gf2 := fun f con h => by
  unfold gf2 at h
  split at h
  · injection h with h; subst h; exact add64C_ok
  · injection h with h; subst h; exact mul64C_ok
  · injection h with h; subst h; exact fcarryC_ok
  · cases h
set_option maxRecDepth 100000 in
theorem wplus_tri (w : W2) (x y : UInt64) : Tri Tryz.prog 135 [w.cv, .one (.u64 x), .one (.u64 y)] [] (.c (wplus w x y).cv) [] := by
  refine tri_of (envOf_ok gf2_ok 31) Tryz.func135 rfl rfl (rs := [.cell 6 156]) rfl rfl (by simp [envOf]) rfl [] ?_
  simp only [envOf, gf2, add64C, mul64C, fcarryC, W2.cv, go_sem, Tryz.underlying156]
  repeat' apply And.intro
  all_goals rfl
def wplusC : Con := con0 fun args => match args with
  | [.agg [.u64 h, .u64 l], .one (.u64 x), .one (.u64 y)] => some (.c (wplus ⟨h, l⟩ x y).cv, [])
  | _ => none
theorem wplusC_ok : ConOk Tryz.prog 135 wplusC := con0_ok Tryz.func135 rfl rfl fun args res ob h hob => by
  split at h
  · injection h with h; injection h with h1 h2; subst h1; subst h2; exact wplus_tri ⟨_, _⟩ _ _
  · cases h
def W5.cv (s : W5) : CV := .agg [.u64 s.a.h, .u64 s.a.l, .u64 s.b.h, .u64 s.b.l, .u64 s.c.h, .u64 s.c.l, .u64 s.d.h, .u64 s.d.l, .u64 s.e.h, .u64 s.e.l]
set_option maxRecDepth 100000 in
theorem narrow_tri (s : W5) : Tri Tryz.prog 136 [s.cv] [] (.c (narrowN s).cv) [] := by
  refine tri_of (envOf_ok gf2_ok 76) Tryz.func136 rfl rfl (rs := [.cell 2 90]) rfl rfl (by simp [envOf]) rfl [] ?_
  simp only [envOf, gf2, add64C, mul64C, fcarryC, W5.cv, N5.cv, go_sem, Tryz.underlying156]
  repeat' apply And.intro
  all_goals try rfl
  refine loop_rounds (envOf_ok gf2_ok 76) 6 ?_
  simp only [envOf, gf2, add64C, mul64C, fcarryC, W5.cv, N5.cv, go_sem, Tryz.underlying156]
  repeat' apply And.intro
  all_goals rfl
end Go.Proofs.YtahiopdkekkibaaGreatDoor.FK

/-
  Layer 3: products, walked.
-/
namespace Go.Proofs.YtahiopdkekkibaaGreatDoor.FK
open Go Go.RowKit
set_option maxHeartbeats 4000000
set_option linter.unusedSimpArgs false
set_option linter.unusedVariables false
def narrowC : Con := con0 fun args => match args with
  | [.agg [.u64 a, .u64 b, .u64 c, .u64 d, .u64 e, .u64 f, .u64 g, .u64 h, .u64 i, .u64 j]] => some (.c (narrowN ⟨⟨a, b⟩, ⟨c, d⟩, ⟨e, f⟩, ⟨g, h⟩, ⟨i, j⟩⟩).cv, [])
  | _ => none
theorem narrowC_ok : ConOk Tryz.prog 136 narrowC := con0_ok Tryz.func136 rfl rfl fun args res ob h hob => by
  split at h
  · injection h with h; injection h with h1 h2; subst h1; subst h2; exact narrow_tri ⟨⟨_, _⟩, ⟨_, _⟩, ⟨_, _⟩, ⟨_, _⟩, ⟨_, _⟩⟩
  · cases h
def gf3 : Nat → Option Con := fun f => match f with
  | 135 => some wplusC
  | 136 => some narrowC
  | 130 => some fcarryC
  | _ => none
theorem gf3_ok : GaOk Tryz.prog gf3 := fun f con h => by
  unfold gf3 at h
  split at h
  · injection h with h; subst h; exact wplusC_ok
  · injection h with h; subst h; exact narrowC_ok
  · injection h with h; subst h; exact fcarryC_ok
  · cases h
set_option maxRecDepth 100000 in
theorem fmul_tri (x y : N5) : Tri Tryz.prog 101 [x.cv, y.cv] [] (.c (fmul x y).cv) [] := by
  refine tri_of (envOf_ok gf3_ok 61) Tryz.func101 rfl rfl (rs := [.cell 4 90]) rfl rfl (by simp [envOf]) rfl [] ?_
  simp only [envOf, gf3, wplusC, narrowC, fcarryC, W2.cv, W5.cv, N5.cv, N5.eta, W2.eta, go_sem, Tryz.underlying156]
  repeat' apply And.intro
  all_goals try rfl
  refine loop_rounds (envOf_ok gf3_ok 61) 6 ?_
  simp only [envOf, gf3, wplusC, narrowC, fcarryC, W2.cv, W5.cv, N5.cv, N5.eta, W2.eta, go_sem, Tryz.underlying156]
  iterate 5
    refine loop_rounds (envOf_ok gf3_ok 61) 6 ?_
    simp only [envOf, gf3, wplusC, narrowC, fcarryC, W2.cv, W5.cv, N5.cv, N5.eta, W2.eta, go_sem, Tryz.underlying156]
    repeat' apply And.intro
    all_goals try rfl
set_option maxRecDepth 100000 in
theorem fscale_tri (x : N5) (n : UInt32) : Tri Tryz.prog 134 [x.cv, .one (.u32 n)] [] (.c (fscale x n.toUInt64).cv) [] := by
  refine tri_of (envOf_ok gf3_ok 26) Tryz.func134 rfl rfl (rs := [.cell 4 90]) rfl rfl (by simp [envOf]) rfl [] ?_
  simp only [envOf, gf3, wplusC, narrowC, fcarryC, W2.cv, W5.cv, N5.cv, N5.eta, W2.eta, go_sem, Tryz.underlying156]
  repeat' apply And.intro
  all_goals try rfl
  refine loop_rounds (envOf_ok gf3_ok 26) 6 ?_
  simp only [envOf, gf3, wplusC, narrowC, fcarryC, W2.cv, W5.cv, N5.cv, N5.eta, W2.eta, go_sem, Tryz.underlying156]
  repeat' apply And.intro
  all_goals rfl
def fmulC : Con := con0 fun args => match args with
  | [.agg [.u64 a, .u64 b, .u64 c, .u64 d, .u64 e], .agg [.u64 a', .u64 b', .u64 c', .u64 d', .u64 e']] => some (.c (fmul ⟨a, b, c, d, e⟩ ⟨a', b', c', d', e'⟩).cv, [])
  | _ => none
theorem fmulC_ok : ConOk Tryz.prog 101 fmulC := con0_ok Tryz.func101 rfl rfl fun args res ob h hob => by
  split at h
  · injection h with h; injection h with h1 h2; subst h1; subst h2; exact fmul_tri ⟨_, _, _, _, _⟩ ⟨_, _, _, _, _⟩
  · cases h
def fscaleC : Con := con0 fun args => match args with
  | [.agg [.u64 a, .u64 b, .u64 c, .u64 d, .u64 e], .one (.u32 n)] => some (.c (fscale ⟨a, b, c, d, e⟩ n.toUInt64).cv, [])
  | _ => none
theorem fscaleC_ok : ConOk Tryz.prog 134 fscaleC := con0_ok Tryz.func134 rfl rfl fun args res ob h hob => by
  split at h
  · injection h with h; injection h with h1 h2; subst h1; subst h2; exact fscale_tri ⟨_, _, _, _, _⟩ _
  · cases h
end Go.Proofs.YtahiopdkekkibaaGreatDoor.FK

/-
  Layer 3: the bytes of a number, numbers changed; the laws that ask no document's answer.
-/
namespace Go.Proofs.YtahiopdkekkibaaGreatDoor.FK
open Go Go.RowKit
set_option maxHeartbeats 4000000
set_option linter.unusedSimpArgs false
set_option linter.unusedVariables false
set_option maxRecDepth 100000 in
theorem fswap_tri (x y : N5) (yes : Bool) : Tri Tryz.prog 131 [x.cv, y.cv, .one (.bo yes)] [] (.tup [(if yes = true then y else x).cv, (if yes = true then x else y).cv]) [] := by
  refine tri_of (envOf_ok ga0_ok 39) Tryz.func131 rfl rfl (rs := [.cell 6 90, .cell 7 90]) rfl rfl (by simp [envOf]) rfl [] ?_
  cases yes with
  | true =>
    simp only [envOf, ga0, N5.cv, N5.eta, go_sem]
    repeat' apply And.intro
    all_goals try rfl
    refine loop_rounds (envOf_ok ga0_ok 39) 6 ?_
    simp only [envOf, ga0, N5.cv, N5.eta, swap_l, swap_r, go_sem]
    repeat' apply And.intro
    all_goals rfl
  | false =>
    simp only [envOf, ga0, N5.cv, N5.eta, go_sem]
    repeat' apply And.intro
    all_goals try rfl
    refine loop_rounds (envOf_ok ga0_ok 39) 6 ?_
    simp only [envOf, ga0, N5.cv, N5.eta, swap_no, go_sem]
    repeat' apply And.intro
    all_goals rfl
def fswapC : Con := con0 fun args => match args with
  | [.agg [.u64 a, .u64 b, .u64 c, .u64 d, .u64 e], .agg [.u64 a', .u64 b', .u64 c', .u64 d', .u64 e'], .one (.bo yes)] => some (.tup [(if yes = true then ⟨a', b', c', d', e'⟩ else ⟨a, b, c, d, e⟩ : N5).cv, (if yes = true then ⟨a, b, c, d, e⟩ else ⟨a', b', c', d', e'⟩ : N5).cv], [])
  | _ => none
theorem fswapC_ok : ConOk Tryz.prog 131 fswapC := con0_ok Tryz.func131 rfl rfl fun args res ob h hob => by
  split at h
  · injection h with h; injection h with h1 h2; subst h1; subst h2; exact fswap_tri ⟨_, _, _, _, _⟩ ⟨_, _, _, _, _⟩ _
  · cases h
end Go.Proofs.YtahiopdkekkibaaGreatDoor.FK

/-
  Layer 4: a scalar clamped; the base; a step of the ladder.
-/
namespace Go.Proofs.YtahiopdkekkibaaGreatDoor.FK
open Go Go.RowKit
set_option maxHeartbeats 4000000
set_option linter.unusedSimpArgs false
set_option linter.unusedVariables false
def clampK (s : List UInt8) : List UInt8 := (s.set 0 (s.getD 0 0 &&& 248)).set 31 (((s.set 0 (s.getD 0 0 &&& 248)).getD 31 0 &&& 127) ||| 64)
def clampV (s : List UInt8) : SV := if s.length = 32 then .tup [.one (.str (clampK s)), .one (.bo true)] else .tup [.one (.str []), .one (.bo false)]
theorem clampK_len (s : List UInt8) : (clampK s).length = s.length := by unfold clampK; simp
set_option maxRecDepth 100000 in
theorem clamp_tri (s : List UInt8) : Tri Tryz.prog 58 [.one (.str s)] [] (clampV s) [] := by
  refine tri_of (envOf_ok ga0_ok 24) Tryz.func58 rfl rfl (rs := [.tmp 2, .tmp 3]) rfl rfl (by simp [envOf]) rfl [] ?_
  cases h : ((s.length : Int) == 32) with
  | false =>
    have hn : s.length ≠ 32 := fun e => by rw [e] at h; exact absurd h (by decide)
    have hv : clampV s = .tup [.one (.str []), .one (.bo false)] := if_neg hn
    simp only [envOf, ga0, h, hv, go_sem]
  | true =>
    have hs : s.length = 32 := by have := beq_iff_eq.1 h; omega
    have hv : clampV s = .tup [.one (.str (clampK s)), .one (.bo true)] := if_pos hs
    have ht : (clampK s).take 32 = clampK s := List.take_of_length_le (by rw [clampK_len]; omega)
    unfold clampK at ht hv
    simp only [envOf, ga0, hs, hv, ht, List.length_set, go_sem]
    repeat' apply And.intro
    all_goals first | omega | rfl
def clampC : Con := con0 fun args => match args with
  | [.one (.str s)] => some (clampV s, [])
  | _ => none
theorem clampC_ok : ConOk Tryz.prog 58 clampC := con0_ok Tryz.func58 rfl rfl fun args res ob h hob => by
  split at h
  · injection h with h; injection h with h1 h2; subst h1; subst h2; exact clamp_tri _
  · cases h
def base9 : List UInt8 := [9, 0, 0, 0, 0, 0, 0, 0, 0, 0, 0, 0, 0, 0, 0, 0, 0, 0, 0, 0, 0, 0, 0, 0, 0, 0, 0, 0, 0, 0, 0, 0]
set_option maxRecDepth 100000 in
theorem base_tri : Tri Tryz.prog 62 [] [] (.c (.one (.str base9))) [] := by
  refine tri_of (envOf_ok ga0_ok 7) Tryz.func62 rfl rfl (rs := [.tmp 0]) rfl rfl (by simp [envOf]) rfl [] ?_
  have hz : List.replicate 32 (AV.u8 0) = [.u8 0, .u8 0, .u8 0, .u8 0, .u8 0, .u8 0, .u8 0, .u8 0, .u8 0, .u8 0, .u8 0, .u8 0, .u8 0, .u8 0, .u8 0, .u8 0, .u8 0, .u8 0, .u8 0, .u8 0, .u8 0, .u8 0, .u8 0, .u8 0, .u8 0, .u8 0, .u8 0, .u8 0, .u8 0, .u8 0, .u8 0, .u8 0] := rfl
  simp only [envOf, ga0, hz, go_sem]
  repeat' apply And.intro
  all_goals first | omega | rfl
def baseC : Con := con0 fun args => match args with
  | [] => some (.c (.one (.str base9)), [])
  | _ => none
theorem baseC_ok : ConOk Tryz.prog 62 baseC := con0_ok Tryz.func62 rfl rfl fun args res ob h hob => by
  split at h
  · injection h with h; injection h with h1 h2; subst h1; subst h2; exact base_tri
  · cases h
def PN.cv (p : PN) : CV := .agg [.u64 p.x.a, .u64 p.x.b, .u64 p.x.c, .u64 p.x.d, .u64 p.x.e, .u64 p.z.a, .u64 p.z.b, .u64 p.z.c, .u64 p.z.d, .u64 p.z.e]
def gk3 : Nat → Option Con := fun f => match f with
  | 132 => some faddC
  | 133 => some fsubC
  | 101 => some fmulC
  | 134 => some fscaleC
  | _ => none
theorem gk3_ok : GaOk Tryz.prog gk3 := fun f con h => by
  unfold gk3 at h
  split at h
  · injection h with h; subst h; exact faddC_ok
  · injection h with h; subst h; exact fsubC_ok
  · injection h with h; subst h; exact fmulC_ok
  · injection h with h; subst h; exact fscaleC_ok
  · cases h
set_option maxRecDepth 100000 in
theorem lstep_tri (p q : PN) (u : N5) : Tri Tryz.prog 100 [p.cv, q.cv, u.cv] [] (.tup [(dblN p).cv, (smN u p q).cv]) [] := by
  refine tri_of (envOf_ok gk3_ok 79) Tryz.func100 rfl rfl (rs := [.cell 6 133, .cell 7 133]) rfl rfl (by simp [envOf]) rfl [] ?_
  simp only [envOf, gk3, faddC, fsubC, fmulC, fscaleC, N5.cv, PN.cv, N5.eta, go_sem, Tryz.underlying133]
  repeat' apply And.intro
  all_goals rfl
def lstepC : Con := con0 fun args => match args with
  | [.agg [.u64 a, .u64 b, .u64 c, .u64 d, .u64 e, .u64 f, .u64 g, .u64 h, .u64 i, .u64 j], .agg [.u64 a', .u64 b', .u64 c', .u64 d', .u64 e', .u64 f', .u64 g', .u64 h', .u64 i', .u64 j'], .agg [.u64 k, .u64 l, .u64 m, .u64 n, .u64 o]] => some (.tup [(dblN ⟨⟨a, b, c, d, e⟩, ⟨f, g, h, i, j⟩⟩).cv, (smN ⟨k, l, m, n, o⟩ ⟨⟨a, b, c, d, e⟩, ⟨f, g, h, i, j⟩⟩ ⟨⟨a', b', c', d', e'⟩, ⟨f', g', h', i', j'⟩⟩).cv], [])
  | _ => none
theorem lstepC_ok : ConOk Tryz.prog 100 lstepC := con0_ok Tryz.func100 rfl rfl fun args res ob h hob => by
  split at h
  · injection h with h; injection h with h1 h2; subst h1; subst h2; exact lstep_tri ⟨⟨_, _, _, _, _⟩, ⟨_, _, _, _, _⟩⟩ ⟨⟨_, _, _, _, _⟩, ⟨_, _, _, _, _⟩⟩ ⟨_, _, _, _, _⟩
  · cases h
def gk4 : Nat → Option Con := fun f => match f with
  | 131 => some fswapC
  | _ => none
theorem gk4_ok : GaOk Tryz.prog gk4 := fun f con h => by
  unfold gk4 at h
  split at h
  · injection h with h; subst h; exact fswapC_ok
  · cases h
set_option maxRecDepth 100000 in
theorem lswap_tri (p q : PN) (y : Bool) : Tri Tryz.prog 99 [p.cv, q.cv, .one (.bo y)] [] (.tup [(if y = true then q else p).cv, (if y = true then p else q).cv]) [] := by
  refine tri_of (envOf_ok gk4_ok 32) Tryz.func99 rfl rfl (rs := [.cell 6 133, .cell 7 133]) rfl rfl (by simp [envOf]) rfl [] ?_
  cases y
  all_goals
    simp only [envOf, gk4, fswapC, N5.cv, PN.cv, N5.eta, go_sem, Tryz.underlying133]
    repeat' apply And.intro
    all_goals rfl
end Go.Proofs.YtahiopdkekkibaaGreatDoor.FK

/-
  Layer 3: a number out of bytes; a number to a power.
-/
namespace Go.Proofs.YtahiopdkekkibaaGreatDoor.FK
open Go Go.RowKit
set_option maxHeartbeats 4000000
set_option linter.unusedSimpArgs false
set_option linter.unusedVariables false
def w64 (s : List UInt8) : UInt64 := 0 ||| shl64 (s.getD 0 0).toUInt64 0 ||| shl64 (s.getD 1 0).toUInt64 8 ||| shl64 (s.getD 2 0).toUInt64 16 ||| shl64 (s.getD 3 0).toUInt64 24 ||| shl64 (s.getD 4 0).toUInt64 32 ||| shl64 (s.getD 5 0).toUInt64 40 ||| shl64 (s.getD 6 0).toUInt64 48 ||| shl64 (s.getD 7 0).toUInt64 56
set_option maxRecDepth 100000 in
theorem fword_tri (s : List UInt8) (hs : s.length = 8) : Tri Tryz.prog 97 [.one (.str s)] [] (.c (.one (.u64 (w64 s)))) [] := by
  refine tri_of (envOf_ok ga0_ok 19) Tryz.func97 rfl rfl (rs := [.tmp 2]) rfl rfl (by simp [envOf]) rfl [] ?_
  simp only [envOf, ga0, go_sem]
  refine loop_rounds (envOf_ok ga0_ok 19) 9 ?_
  simp only [envOf, ga0, hs, go_sem]
  repeat' apply And.intro
  all_goals first | omega | rfl
def fwordC : Con := con0 fun args => match args with
  | [.one (.str s)] => some (.c (.one (.u64 (w64 s))), [s.length = 8])
  | _ => none
theorem fwordC_ok : ConOk Tryz.prog 97 fwordC := con0_ok Tryz.func97 rfl rfl fun args res ob h hob => by
  split at h
  · injection h with h; injection h with h1 h2; subst h1; subst h2; exact fword_tri _ hob.1
  · cases h
def ofN (s : List UInt8) : N5 :=
  let w0 := w64 ((s.drop 0).take 8)
  let w1 := w64 ((s.drop 8).take 8)
  let w2 := w64 ((s.drop 16).take 8)
  let w3 := w64 ((s.drop 24).take 8)
  ⟨w0 &&& 2251799813685247, (shr64 w0 51 ||| shl64 w1 13) &&& 2251799813685247, (shr64 w1 38 ||| shl64 w2 26) &&& 2251799813685247, (shr64 w2 25 ||| shl64 w3 39) &&& 2251799813685247, shr64 w3 12 &&& 2251799813685247⟩
def ofV (s : List UInt8) : SV := if s.length = 32 then .tup [(ofN s).cv, .one (.bo true)] else .tup [zeroF.cv, .one (.bo false)]
def gk1 : Nat → Option Con := fun f => match f with
  | 97 => some fwordC
  | _ => none
theorem gk1_ok : GaOk Tryz.prog gk1 := fun f con h => by
  unfold gk1 at h
  split at h
  · injection h with h; subst h; exact fwordC_ok
  · cases h
set_option maxRecDepth 100000 in
theorem fof_tri (s : List UInt8) : Tri Tryz.prog 59 [.one (.str s)] [] (ofV s) [] := by
  refine tri_of (envOf_ok gk1_ok 48) Tryz.func59 rfl rfl (rs := [.cell 2 90, .tmp 3]) rfl rfl (by simp [envOf]) rfl [] ?_
  cases h : ((s.length : Int) == 32) with
  | false =>
    have hn : s.length ≠ 32 := fun e => by rw [e] at h; exact absurd h (by decide)
    have hv : ofV s = .tup [zeroF.cv, .one (.bo false)] := if_neg hn
    simp only [envOf, gk1, fwordC, h, hv, N5.cv, zeroF, go_sem]
    all_goals try rfl
  | true =>
    have hs : s.length = 32 := by have := beq_iff_eq.1 h; omega
    have hv : ofV s = .tup [(ofN s).cv, .one (.bo true)] := if_pos hs
    simp only [envOf, gk1, fwordC, hs, hv, N5.cv, ofN, List.length_take, List.length_drop, go_sem]
    repeat' apply And.intro
    all_goals first | omega | rfl
def fofC : Con := con0 fun args => match args with
  | [.one (.str s)] => some (ofV s, [])
  | _ => none
theorem fofC_ok : ConOk Tryz.prog 59 fofC := con0_ok Tryz.func59 rfl rfl fun args res ob h hob => by
  split at h
  · injection h with h; injection h with h1 h2; subst h1; subst h2; exact fof_tri _
  · cases h
end Go.Proofs.YtahiopdkekkibaaGreatDoor.FK

/-
  Layer 3: a number to the power of 2^255 - 21.
-/
namespace Go.Proofs.YtahiopdkekkibaaGreatDoor.FK
open Go Go.RowKit
set_option maxHeartbeats 4000000
set_option linter.unusedSimpArgs false
set_option linter.unusedVariables false
def N5.cells (x : N5) : SObj := .cells 1 [.u64 x.a, .u64 x.b, .u64 x.c, .u64 x.d, .u64 x.e]
def bitN : Nat → Int
  | 0 => -1
  | c + 1 => (c : Int)
theorem bitN_next {c : Nat} (h : c ≤ 1000) : IntKind.i64.wrap ((c : Int) - 1) = bitN c := by
  rw [IntKind.wrap_i64]
  cases c with
  | zero => rfl
  | succ c => simp only [bitN]; omega
def finvInv (x : N5) (s : Nat × N5) : St := ⟨[(1, .c (.one (.ptr 10000 0 0 0))), (2, .c (.one (.ptr 10008 0 0 0))), (3, .c (.one (.ptr 30008 0 0 0))), (4, .c (.one (.num (bitN s.1))))], [(10000, ⟨(fcarry x).cells, true⟩), (10008, ⟨zeroF.cells, true⟩), (30008, ⟨s.2.cells, true⟩)]⟩
def finvOk (x : N5) (s : Nat × N5) : Prop := invR (fcarry x) s.1 s.2 = finv x ∧ s.1 ≤ 255
def gk2 : Nat → Option Con := fun f => match f with
  | 130 => some fcarryC
  | 101 => some fmulC
  | _ => none
theorem gk2_ok : GaOk Tryz.prog gk2 := fun f con h => by
  unfold gk2 at h
  split at h
  · injection h with h; subst h; exact fcarryC_ok
  · injection h with h; subst h; exact fmulC_ok
  · cases h
set_option maxRecDepth 100000 in
theorem finv_tri (x : N5) : Tri Tryz.prog 102 [x.cv] [] (.c (finv x).cv) [] := by
  refine tri_of (envOf_ok gk2_ok 25) Tryz.func102 rfl rfl (rs := [.cell 2 90]) rfl rfl (by simp [envOf]) rfl [] ?_
  simp only [envOf, gk2, fcarryC, fmulC, N5.cv, N5.eta, go_sem]
  refine loop_inv (envOf_ok gk2_ok 25) (finvInv x) (finvOk x) (fun s => s.1) (255, oneF) [] ⟨rfl, Nat.le_refl _⟩ ?_ ?_
  · simp only [finvInv, N5.cells, zeroF, oneF, bitN, go_sem]
    all_goals try exact ⟨rfl, rfl⟩
  · rintro ⟨b, r⟩ ⟨hb, hle⟩
    cases b with
    | zero =>
      have hr : finv x = r := hb.symm
      simp only [envOf, gk2, fcarryC, fmulC, finvInv, N5.cells, zeroF, bitN, hr, N5.cv, N5.eta, go_sem]
      all_goals try rfl
    | succ c =>
      have hle' : c ≤ 254 := by have : c + 1 ≤ 255 := hle; omega
      have h0 : decide ((0 : Int) ≤ (c : Int)) = true := decide_eq_true (by omega)
      have hw := bitN_next (c := c) (by omega)
      by_cases h2 : c = 2
      · subst h2
        simp only [envOf, gk2, fcarryC, fmulC, finvInv, N5.cells, zeroF, bitN, h0, hw, bne, N5.cv, N5.eta, go_sem]
        refine again (2, fmul r r) [] ⟨hb, by show 2 ≤ 255; decide⟩ (by show 2 < 2 + 1; decide) ?_
        simp only [finvInv, N5.cells, zeroF, bitN, go_sem]
        all_goals trivial
      · by_cases h4 : c = 4
        · subst h4
          simp only [envOf, gk2, fcarryC, fmulC, finvInv, N5.cells, zeroF, bitN, h0, hw, bne, N5.cv, N5.eta, go_sem]
          refine again (4, fmul r r) [] ⟨hb, by show 4 ≤ 255; decide⟩ (by show 4 < 4 + 1; decide) ?_
          simp only [finvInv, N5.cells, zeroF, bitN, go_sem]
          all_goals trivial
        · have e2 : ((c : Int) == 2) = false := beq_eq_false_iff_ne.2 (by omega)
          have e4 : ((c : Int) == 4) = false := beq_eq_false_iff_ne.2 (by omega)
          simp only [envOf, gk2, fcarryC, fmulC, finvInv, N5.cells, zeroF, bitN, h0, hw, bne, e2, e4, N5.cv, N5.eta, go_sem]
          refine again (c, fmul (fmul r r) (fcarry x)) [] ⟨?_, by show c ≤ 255; omega⟩ (by show c < c + 1; omega) ?_
          · rw [← hb]
            show _ = invR (fcarry x) c (if c = 2 ∨ c = 4 then fmul r r else fmul (fmul r r) (fcarry x))
            rw [if_neg (by omega)]
          · simp only [finvInv, N5.cells, zeroF, bitN, go_sem]
            all_goals trivial
def finvC : Con := con0 fun args => match args with
  | [.agg [.u64 a, .u64 b, .u64 c, .u64 d, .u64 e]] => some (.c (finv ⟨a, b, c, d, e⟩).cv, [])
  | _ => none
theorem finvC_ok : ConOk Tryz.prog 102 finvC := con0_ok Tryz.func102 rfl rfl fun args res ob h hob => by
  split at h
  · injection h with h; injection h with h1 h2; subst h1; subst h2; exact finv_tri ⟨_, _, _, _, _⟩
  · cases h
end Go.Proofs.YtahiopdkekkibaaGreatDoor.FK

/-
  Layer 4: the ladder, climbed.
-/
namespace Go.Proofs.YtahiopdkekkibaaGreatDoor.FK
open Go Go.RowKit
set_option maxHeartbeats 4000000
set_option linter.unusedSimpArgs false
set_option linter.unusedVariables false
def lswapC : Con := con0 fun args => match args with
  | [.agg [.u64 a, .u64 b, .u64 c, .u64 d, .u64 e, .u64 f, .u64 g, .u64 h, .u64 i, .u64 j], .agg [.u64 a', .u64 b', .u64 c', .u64 d', .u64 e', .u64 f', .u64 g', .u64 h', .u64 i', .u64 j'], .one (.bo y)] => some (.tup [(if y = true then ⟨⟨a', b', c', d', e'⟩, ⟨f', g', h', i', j'⟩⟩ else ⟨⟨a, b, c, d, e⟩, ⟨f, g, h, i, j⟩⟩ : PN).cv, (if y = true then ⟨⟨a, b, c, d, e⟩, ⟨f, g, h, i, j⟩⟩ else ⟨⟨a', b', c', d', e'⟩, ⟨f', g', h', i', j'⟩⟩ : PN).cv], [])
  | _ => none
theorem lswapC_ok : ConOk Tryz.prog 99 lswapC := con0_ok Tryz.func99 rfl rfl fun args res ob h hob => by
  split at h
  · injection h with h; injection h with h1 h2; subst h1; subst h2; exact lswap_tri ⟨⟨_, _, _, _, _⟩, ⟨_, _, _, _, _⟩⟩ ⟨⟨_, _, _, _, _⟩, ⟨_, _, _, _, _⟩⟩ _
  · cases h
def gk5 : Nat → Option Con := fun f => match f with
  | 99 => some lswapC
  | 100 => some lstepC
  | 102 => some finvC
  | 101 => some fmulC
  | _ => none
theorem gk5_ok : GaOk Tryz.prog gk5 := fun f con h => by
  unfold gk5 at h
  split at h
  · injection h with h; subst h; exact lswapC_ok
  · injection h with h; subst h; exact lstepC_ok
  · injection h with h; subst h; exact finvC_ok
  · injection h with h; subst h; exact fmulC_ok
  · cases h
def PN.cells (p : PN) : SObj := .cells 1 [.u64 p.x.a, .u64 p.x.b, .u64 p.x.c, .u64 p.x.d, .u64 p.x.e, .u64 p.z.a, .u64 p.z.b, .u64 p.z.c, .u64 p.z.d, .u64 p.z.e]
def climbI (k : List UInt8) (x : N5) (s : Nat × PN × PN × Bool) : St := ⟨[(0, .c (.one (.str k))), (3, .c (.one (.ptr 10000 0 0 0))), (4, .c (.one (.ptr 10008 0 0 0))), (5, .c (.one (.ptr 20048 0 0 0))), (6, .c (.one (.ptr 20056 0 0 0))), (7, .c (.one (.bo s.2.2.2))), (8, .c (.one (.num (bitN s.1))))], [(10000, ⟨x.cells, true⟩), (10008, ⟨zeroF.cells, true⟩), (20048, ⟨s.2.1.cells, true⟩), (20056, ⟨s.2.2.1.cells, true⟩)]⟩
def climbOk (k : List UInt8) (x : N5) (s : Nat × PN × PN × Bool) : Prop := endS (climbS x (kbit k) s.1 s.2) = climbF k x ∧ s.1 ≤ 255
theorem bitN_succ (c : Nat) : bitN (c + 1) = (c : Int) := rfl
theorem tdiv8 (t : Nat) (h : t ≤ 1000) : IntKind.i64.wrap (((t : Nat) : Int).tdiv 8) = ((t / 8 : Nat) : Int) := by
  rw [show (8 : Int) = ((8 : Nat) : Int) from rfl, ← Int.ofNat_tdiv, IntKind.wrap_i64]; omega
theorem tmod8 (t : Nat) : ((t : Nat) : Int).tmod 8 = ((t % 8 : Nat) : Int) := by
  rw [show (8 : Int) = ((8 : Nat) : Int) from rfl, ← Int.ofNat_tmod]
set_option maxRecDepth 100000 in
theorem climb_tri (k : List UInt8) (x : N5) (hk : k.length = 32) : Tri Tryz.prog 61 [.one (.str k), x.cv] [] (.c (climbF k x).cv) [] := by
  refine tri_of (envOf_ok gk5_ok 59) Tryz.func61 rfl rfl (rs := [.cell 4 90]) rfl rfl (by simp [envOf]) rfl [] ?_
  simp only [envOf, gk5, lswapC, lstepC, finvC, fmulC, N5.cv, N5.eta, Tryz.underlying133, go_sem]
  refine ⟨rfl, ?_⟩
  refine loop_inv (envOf_ok gk5_ok 59) (climbI k x) (climbOk k x) (fun s => s.1) (255, start x) [] ⟨rfl, Nat.le_refl _⟩ ?_ ?_
  · simp only [climbI, N5.cells, PN.cells, start, zeroF, oneF, bitN, go_sem]
    all_goals try exact ⟨rfl, rfl⟩
  · rintro ⟨c, p, q, sw⟩ ⟨hb, hle⟩
    cases c with
    | zero =>
      have hr : climbF k x = endS (p, q, sw) := hb.symm
      cases sw
      all_goals
        simp only [envOf, gk5, lswapC, lstepC, finvC, fmulC, climbI, N5.cells, PN.cells, zeroF, bitN, hr, endS, N5.cv, PN.cv, N5.eta, Tryz.underlying133, go_sem]
        all_goals try trivial
    | succ t =>
      have hle' : t ≤ 254 := by have : t + 1 ≤ 255 := hle; omega
      have h0 : decide ((0 : Int) ≤ (t : Int)) = true := decide_eq_true (by omega)
      have hw := bitN_next (c := t) (by omega)
      have hd := tdiv8 t (by omega)
      have hm := tmod8 t
      have hs : endS (climbS x (kbit k) t (stepS x (kbit k t) (p, q, sw))) = climbF k x := hb
      obtain ⟨nx, hnx⟩ : ∃ nx, nx = stepS x (kbit k t) (p, q, sw) := ⟨_, rfl⟩
      rw [← hnx] at hs
      cases hbit : kbit k t
      all_goals
        rw [hbit] at hnx
        unfold kbit at hbit
        cases sw
        all_goals
          simp only [envOf, gk5, lswapC, lstepC, finvC, fmulC, climbI, N5.cells, PN.cells, zeroF, bitN_succ, h0, hw, hd, hm, hk, hbit, bne, N5.cv, PN.cv, N5.eta, Tryz.underlying133, go_sem]
          repeat' apply And.intro
          all_goals first
            | omega
            | skip
          refine again (t, nx) [] ⟨hs, by show t ≤ 255; omega⟩ (by show t < t + 1; omega) ?_
          simp only [climbI, hnx, stepS, N5.cells, PN.cells, zeroF, bne, go_sem]
          all_goals trivial
def climbC : Con := con0 fun args => match args with
  | [.one (.str k), .agg [.u64 a, .u64 b, .u64 c, .u64 d, .u64 e]] => some (.c (climbF k ⟨a, b, c, d, e⟩).cv, [k.length = 32])
  | _ => none
theorem climbC_ok : ConOk Tryz.prog 61 climbC := con0_ok Tryz.func61 rfl rfl fun args res ob h hob => by
  split at h
  · injection h with h; injection h with h1 h2; subst h1; subst h2; exact climb_tri _ ⟨_, _, _, _, _⟩ hob.1
  · cases h
end Go.Proofs.YtahiopdkekkibaaGreatDoor.FK

/-
  Layer 3: the bytes of a number, numbers changed; the laws that ask no document's answer.
-/
namespace Go.Proofs.YtahiopdkekkibaaGreatDoor.FK
open Go Go.RowKit
set_option maxHeartbeats 4000000
set_option linter.unusedSimpArgs false
set_option linter.unusedVariables false
def gf4 : Nat → Option Con := fun f => match f with
  | 98 => some fsmallC
  | _ => none
theorem gf4_ok : GaOk Tryz.prog gf4 := fun f con h => by
  unfold gf4 at h
  split at h
  · injection h with h; subst h; exact fsmallC_ok
  · cases h
set_option maxRecDepth 100000 in
theorem fbytes_tri (x : N5) : Tri Tryz.prog 60 [x.cv] [] (.c (.one (.str (bytesF x)))) [] := by
  refine tri_of (envOf_ok gf4_ok 59) Tryz.func60 rfl rfl (rs := [.tmp 2]) rfl rfl (by simp [envOf]) rfl [] ?_
  simp only [envOf, gf4, fsmallC, N5.cv, N5.eta, go_sem]
  refine loop_rounds (envOf_ok gf4_ok 59) 5 ?_
  simp only [envOf, gf4, fsmallC, N5.cv, N5.eta, go_sem]
  iterate 4
    refine loop_rounds (envOf_ok gf4_ok 59) 9 ?_
    simp only [envOf, gf4, fsmallC, N5.cv, N5.eta, go_sem]
    repeat' apply And.intro
    all_goals try rfl
def fbytesC : Con := con0 fun args => match args with
  | [.agg [.u64 a, .u64 b, .u64 c, .u64 d, .u64 e]] => some (.c (.one (.str (bytesF ⟨a, b, c, d, e⟩))), [])
  | _ => none
theorem fbytesC_ok : ConOk Tryz.prog 60 fbytesC := con0_ok Tryz.func60 rfl rfl fun args res ob h hob => by
  split at h
  · injection h with h; injection h with h1 h2; subst h1; subst h2; exact fbytes_tri ⟨_, _, _, _, _⟩
  · cases h
end Go.Proofs.YtahiopdkekkibaaGreatDoor.FK

/-
  Layer 4: the key of a scalar and a point; what each scalar makes of the base; the fixed answer.
-/
namespace Go.Proofs.YtahiopdkekkibaaGreatDoor.FK
open Go Go.RowKit
set_option maxHeartbeats 4000000
set_option linter.unusedSimpArgs false
set_option linter.unusedVariables false
def pointS (s u : List UInt8) : List UInt8 := bytesF (climbF (clampK s) (ofN u))
def pointV (s u : List UInt8) : SV := if s.length = 32 ∧ u.length = 32 then .tup [.one (.str (pointS s u)), .one (.bo true)] else .tup [.one (.str []), .one (.bo false)]
def gk6 : Nat → Option Con := fun f => match f with
  | 58 => some clampC
  | 59 => some fofC
  | 61 => some climbC
  | 60 => some fbytesC
  | _ => none
theorem gk6_ok : GaOk Tryz.prog gk6 := fun f con h => by
  unfold gk6 at h
  split at h
  · injection h with h; subst h; exact clampC_ok
  · injection h with h; subst h; exact fofC_ok
  · injection h with h; subst h; exact climbC_ok
  · injection h with h; subst h; exact fbytesC_ok
  · cases h
set_option maxRecDepth 100000 in
theorem point_tri (s u : List UInt8) : Tri Tryz.prog 30 [.one (.str s), .one (.str u)] [] (pointV s u) [] := by
  refine tri_of (envOf_ok gk6_ok 27) Tryz.func30 rfl rfl (rs := [.tmp 4, .tmp 5]) rfl rfl (by simp [envOf]) rfl [] ?_
  by_cases hs : s.length = 32
  · have hc : clampV s = .tup [.one (.str (clampK s)), .one (.bo true)] := if_pos hs
    have hcl : (clampK s).length = 32 := by rw [clampK_len]; exact hs
    by_cases hu : u.length = 32
    · have ho : ofV u = .tup [(ofN u).cv, .one (.bo true)] := if_pos hu
      have hv : pointV s u = .tup [.one (.str (pointS s u)), .one (.bo true)] := if_pos ⟨hs, hu⟩
      simp only [envOf, gk6, clampC, fofC, climbC, fbytesC, hc, ho, hv, hcl, pointS, N5.cv, N5.eta, go_sem]
    · have ho : ofV u = .tup [zeroF.cv, .one (.bo false)] := if_neg hu
      have hv : pointV s u = .tup [.one (.str []), .one (.bo false)] := if_neg fun h => hu h.2
      simp only [envOf, gk6, clampC, fofC, climbC, fbytesC, hc, ho, hv, hcl, N5.cv, zeroF, N5.eta, go_sem]
  · have hc : clampV s = .tup [.one (.str []), .one (.bo false)] := if_neg hs
    have hv : pointV s u = .tup [.one (.str []), .one (.bo false)] := if_neg fun h => hs h.1
    simp only [envOf, gk6, clampC, fofC, climbC, fbytesC, hc, hv, go_sem]
def pointC : Con := con0 fun args => match args with
  | [.one (.str s), .one (.str u)] => some (pointV s u, [])
  | _ => none
theorem pointC_ok : ConOk Tryz.prog 30 pointC := con0_ok Tryz.func30 rfl rfl fun args res ob h hob => by
  split at h
  · injection h with h; injection h with h1 h2; subst h1; subst h2; exact point_tri _ _
  · cases h
def gk7 : Nat → Option Con := fun f => match f with
  | 30 => some pointC
  | 62 => some baseC
  | _ => none
theorem gk7_ok : GaOk Tryz.prog gk7 := fun f con h => by
  unfold gk7 at h
  split at h
  · injection h with h; subst h; exact pointC_ok
  · injection h with h; subst h; exact baseC_ok
  · cases h
set_option maxRecDepth 100000 in
theorem public_tri (s : List UInt8) : Tri Tryz.prog 31 [.one (.str s)] [] (pointV s base9) [] := by
  refine tri_of (envOf_ok gk7_ok 9) Tryz.func31 rfl rfl (rs := [.tmp 2, .tmp 3]) rfl rfl (by simp [envOf]) rfl [] ?_
  by_cases hs : s.length = 32
  · have hv : pointV s base9 = .tup [.one (.str (pointS s base9)), .one (.bo true)] := if_pos ⟨hs, rfl⟩
    simp only [envOf, gk7, pointC, baseC, hv, go_sem]
  · have hv : pointV s base9 = .tup [.one (.str []), .one (.bo false)] := if_neg fun h => hs h.1
    simp only [envOf, gk7, pointC, baseC, hv, go_sem]
def publicC : Con := con0 fun args => match args with
  | [.one (.str s)] => some (pointV s base9, [])
  | _ => none
theorem publicC_ok : ConOk Tryz.prog 31 publicC := con0_ok Tryz.func31 rfl rfl fun args res ob h hob => by
  split at h
  · injection h with h; injection h with h1 h2; subst h1; subst h2; exact public_tri _
  · cases h
end Go.Proofs.YtahiopdkekkibaaGreatDoor.FK

/-
  Layer 3: the bytes of a number, their value.
-/
namespace Go.Proofs.YtahiopdkekkibaaGreatDoor.FK
open Go Go.RowKit
set_option maxHeartbeats 4000000
set_option linter.unusedSimpArgs false
set_option linter.unusedVariables false
def leN : List UInt8 → Nat
  | [] => 0
  | b :: l => b.toNat + 256 * leN l
theorem leN_append : ∀ (a b : List UInt8), leN (a ++ b) = leN a + 2 ^ (8 * a.length) * leN b
  | [], b => by simp [leN]
  | x :: a, b => by
    rw [List.cons_append, leN, leN, leN_append a b, List.length_cons, show 8 * (a.length + 1) = 8 * a.length + 8 by omega, Nat.pow_add]
    have : (2 : Nat) ^ 8 = 256 := rfl
    rw [this]
    grind
theorem leN_take (s : List UInt8) (i : Nat) (h : i < s.length) : leN (s.take (i + 1)) = leN (s.take i) + (s.getD i 0).toNat * 2 ^ (8 * i) := by
  rw [List.take_add_one, leN_append, List.length_take, Nat.min_eq_left (by omega), List.getD_eq_getElem?_getD, List.getElem?_eq_getElem h]
  simp [leN, Nat.mul_comm]
theorem shl64n {b : UInt64} {k : Nat} (hk : k < 64) (h : b.toNat * 2 ^ k < 18446744073709551616) : (shl64 b k).toNat = b.toNat * 2 ^ k := by
  unfold shl64
  rw [if_pos hk, UInt64.toNat_shiftLeft, UInt64.toNat_ofNat_of_lt' (by show k < 18446744073709551616; omega), Nat.mod_eq_of_lt hk, Nat.shiftLeft_eq]
  exact Nat.mod_eq_of_lt h
theorem shr64n {b : UInt64} {k : Nat} (hk : k < 64) : (shr64 b k).toNat = b.toNat / 2 ^ k := by
  unfold shr64
  rw [if_pos hk, UInt64.toNat_shiftRight, UInt64.toNat_ofNat_of_lt' (by show k < 18446744073709551616; omega), Nat.mod_eq_of_lt hk, Nat.shiftRight_eq_div_pow]
theorem orshl {a b : UInt64} (k : Nat) (hk : k < 64) (ha : a.toNat < 2 ^ k) (hb : b.toNat * 2 ^ k < 18446744073709551616) : (a ||| shl64 b k).toNat = a.toNat + b.toNat * 2 ^ k := by
  rw [UInt64.toNat_or, shl64n hk hb, Nat.or_comm, ← Nat.shiftLeft_eq, ← Nat.shiftLeft_add_eq_or_of_lt ha, Nat.add_comm]
theorem leN_inj : ∀ (a b : List UInt8), a.length = b.length → leN a = leN b → a = b
  | [], [], _, _ => rfl
  | [], _ :: _, h, _ => by simp at h
  | _ :: _, [], h, _ => by simp at h
  | x :: a, y :: b, h, e => by
    have hx := x.toNat_lt
    have hy := y.toNat_lt
    simp only [leN] at e
    have h1 : x = y := UInt8.toNat_inj.1 (by omega)
    have h2 := leN_inj a b (by simpa using h) (by omega)
    rw [h1, h2]
theorem wordB_v (w : UInt64) : leN (wordB w) = w.toNat := by
  have h := w.toNat_lt
  have e : ∀ k, k < 64 → ((shr64 w k).toUInt8).toNat = w.toNat / 2 ^ k % 256 := fun k hk => by
    rw [UInt64.toNat_toUInt8, shr64n hk]
  simp only [wordB, leN, e 0 (by decide), e 8 (by decide), e 16 (by decide), e 24 (by decide), e 32 (by decide), e 40 (by decide), e 48 (by decide), e 56 (by decide), Nat.reducePow]
  omega
theorem or_word (a b : UInt64) (k : Nat) (hk : k < 64) (ha : a.toNat < 2 ^ k) : (a ||| shl64 b k).toNat = a.toNat + b.toNat * 2 ^ k % 18446744073709551616 := by
  have e1 : (shl64 b k).toNat = b.toNat * 2 ^ k % 18446744073709551616 := by
    unfold shl64
    rw [if_pos hk, UInt64.toNat_shiftLeft, UInt64.toNat_ofNat_of_lt' (by show k < 18446744073709551616; omega), Nat.mod_eq_of_lt hk, Nat.shiftLeft_eq]
  have e2 : b.toNat * 2 ^ k % 18446744073709551616 = (b.toNat % 2 ^ (64 - k)) * 2 ^ k := by
    have : (18446744073709551616 : Nat) = 2 ^ (64 - k) * 2 ^ k := by rw [← Nat.pow_add, Nat.sub_add_cancel (by omega)]
    rw [this, Nat.mul_mod_mul_right]
  rw [UInt64.toNat_or, e1, e2, Nat.or_comm, ← Nat.shiftLeft_eq, ← Nat.shiftLeft_add_eq_or_of_lt ha, Nat.add_comm]
theorem feB_v (t : N5) (ht : t.lt 2251799813685248) : leN (feB t) = t.w := by
  obtain ⟨h0, h1, h2, h3, h4⟩ := ht
  have b1 : (shr64 t.b 13).toNat = t.b.toNat / 8192 := shr64n (by decide)
  have b2 : (shr64 t.c 26).toNat = t.c.toNat / 67108864 := shr64n (by decide)
  have b3 : (shr64 t.d 39).toNat = t.d.toNat / 549755813888 := shr64n (by decide)
  have w0 := or_word t.a t.b 51 (by decide) (by simp only [Nat.reducePow]; omega)
  have w1 := or_word (shr64 t.b 13) t.c 38 (by decide) (by rw [b1]; simp only [Nat.reducePow]; omega)
  have w2 := or_word (shr64 t.c 26) t.d 25 (by decide) (by rw [b2]; simp only [Nat.reducePow]; omega)
  have w3 := or_word (shr64 t.d 39) t.e 12 (by decide) (by rw [b3]; simp only [Nat.reducePow]; omega)
  have l8 : ∀ w, (wordB w).length = 8 := fun _ => rfl
  unfold feB
  rw [leN_append, leN_append, leN_append, wordB_v, wordB_v, wordB_v, wordB_v, w0, w1, w2, w3, b1, b2, b3]
  simp only [List.length_append, l8, N5.w, Nat.reduceAdd, Nat.reduceMul, Nat.reducePow]
  generalize t.a.toNat = a at *
  generalize t.b.toNat = b at *
  generalize t.c.toNat = c at *
  generalize t.d.toNat = d at *
  generalize t.e.toNat = e at *
  clear w0 w1 w2 w3 b1 b2 b3
  omega
theorem bytesF_v (x : N5) : leN (bytesF x) = x.w % p25519 := by
  obtain ⟨h1, h2⟩ := fsmall_spec x
  unfold bytesF
  rw [feB_v _ h2, h1]
end Go.Proofs.YtahiopdkekkibaaGreatDoor.FK

/-
  Layer 4: the laws that ask no document's ladder.
-/
namespace Go.Proofs.YtahiopdkekkibaaGreatDoor.FK
open Go Go.RowKit
set_option maxHeartbeats 4000000
set_option linter.unusedSimpArgs false
set_option linter.unusedVariables false
theorem take_st (l : List UInt8) (i : Nat) (h : i < l.length) : l.take (i + 1) = l.take i ++ [l.getD i 0] := by
  rw [List.take_add_one, List.getD_eq_getElem?_getD, List.getElem?_eq_getElem h]; rfl
theorem split8b (s : List UInt8) (h : s.length = 8) : s = [s.getD 0 0, s.getD 1 0, s.getD 2 0, s.getD 3 0, s.getD 4 0, s.getD 5 0, s.getD 6 0, s.getD 7 0] := by
  have e : s.take 8 = s := List.take_of_length_le (by omega)
  rw [take_st s 7 (by omega), take_st s 6 (by omega), take_st s 5 (by omega), take_st s 4 (by omega), take_st s 3 (by omega), take_st s 2 (by omega), take_st s 1 (by omega), take_st s 0 (by omega)] at e
  exact e.symm
theorem b64 (x : UInt8) : x.toUInt64.toNat = x.toNat := UInt8.toNat_toUInt64 x
theorem w64_v (s : List UInt8) (h : s.length = 8) : (w64 s).toNat = leN s := by
  have e := split8b s h
  unfold w64
  generalize s.getD 0 0 = a at *
  generalize s.getD 1 0 = b at *
  generalize s.getD 2 0 = c at *
  generalize s.getD 3 0 = d at *
  generalize s.getD 4 0 = f at *
  generalize s.getD 5 0 = g at *
  generalize s.getD 6 0 = i at *
  generalize s.getD 7 0 = j at *
  subst e
  have ha := a.toNat_lt
  have hb := b.toNat_lt
  have hc := c.toNat_lt
  have hd := d.toNat_lt
  have hf := f.toNat_lt
  have hg := g.toNat_lt
  have hi := i.toNat_lt
  have hj := j.toNat_lt
  have z : (0 : UInt64).toNat = 0 := rfl
  have q0 := orshl (a := 0) (b := a.toUInt64) 0 (by decide) (by decide) (by rw [b64]; omega)
  rw [z, b64] at q0
  have q1 := orshl (a := 0 ||| shl64 a.toUInt64 0) (b := b.toUInt64) 8 (by decide) (by rw [q0]; omega) (by rw [b64]; omega)
  rw [q0, b64] at q1
  have q2 := orshl (b := c.toUInt64) 16 (by decide) (by rw [q1]; omega) (by rw [b64]; omega)
  rw [q1, b64] at q2
  have q3 := orshl (b := d.toUInt64) 24 (by decide) (by rw [q2]; omega) (by rw [b64]; omega)
  rw [q2, b64] at q3
  have q4 := orshl (b := f.toUInt64) 32 (by decide) (by rw [q3]; omega) (by rw [b64]; omega)
  rw [q3, b64] at q4
  have q5 := orshl (b := g.toUInt64) 40 (by decide) (by rw [q4]; omega) (by rw [b64]; omega)
  rw [q4, b64] at q5
  have q6 := orshl (b := i.toUInt64) 48 (by decide) (by rw [q5]; omega) (by rw [b64]; omega)
  rw [q5, b64] at q6
  have q7 := orshl (b := j.toUInt64) 56 (by decide) (by rw [q6]; omega) (by rw [b64]; omega)
  rw [q6, b64] at q7
  rw [q7]
  simp only [leN]
  omega
theorem parts_v (W0 W1 W2 W3 : Nat) (h0 : W0 < 18446744073709551616) (h1 : W1 < 18446744073709551616) (h2 : W2 < 18446744073709551616) (h3 : W3 < 18446744073709551616) :
    W0 % 2251799813685248 + (W0 / 2251799813685248 + W1 * 8192 % 18446744073709551616) % 2251799813685248 * 2251799813685248 + (W1 / 274877906944 + W2 * 67108864 % 18446744073709551616) % 2251799813685248 * 5070602400912917605986812821504 + (W2 / 33554432 + W3 * 549755813888 % 18446744073709551616) % 2251799813685248 * 11417981541647679048466287755595961091061972992 + W3 / 4096 % 2251799813685248 * 25711008708143844408671393477458601640355247900524685364822016
    = (W0 + 18446744073709551616 * (W1 + 18446744073709551616 * (W2 + 18446744073709551616 * W3))) % 57896044618658097711785492504343953926634992332820282019728792003956564819968 := by
  omega
theorem ofN_w (s : List UInt8) (h : s.length = 32) : (ofN s).w = leN s % 57896044618658097711785492504343953926634992332820282019728792003956564819968 := by
  have e8 : ∀ k, k ≤ 24 → ((s.drop k).take 8).length = 8 := fun k hk => by rw [List.length_take, List.length_drop]; omega
  have v0 := w64_v _ (e8 0 (by omega))
  have v1 := w64_v _ (e8 8 (by omega))
  have v2 := w64_v _ (e8 16 (by omega))
  have v3 := w64_v _ (e8 24 (by omega))
  have hs : leN s = leN ((s.drop 0).take 8) + 18446744073709551616 * (leN ((s.drop 8).take 8) + 18446744073709551616 * (leN ((s.drop 16).take 8) + 18446744073709551616 * leN ((s.drop 24).take 8))) := by
    have step : ∀ l : List UInt8, 8 ≤ l.length → leN l = leN (l.take 8) + 18446744073709551616 * leN (l.drop 8) := fun l hl => by
      conv => lhs; rw [← List.take_append_drop 8 l]
      rw [leN_append, List.length_take, Nat.min_eq_left hl]
    rw [List.drop_zero, step s (by omega), step (s.drop 8) (by rw [List.length_drop]; omega), List.drop_drop, step (s.drop 16) (by rw [List.length_drop]; omega), List.drop_drop, List.take_of_length_le (i := 8) (l := s.drop 24) (by rw [List.length_drop]; omega)]
  rw [hs, ← v0, ← v1, ← v2, ← v3]
  have l0 := (w64 ((s.drop 0).take 8)).toNat_lt
  have l1 := (w64 ((s.drop 8).take 8)).toNat_lt
  have l2 := (w64 ((s.drop 16).take 8)).toNat_lt
  have l3 := (w64 ((s.drop 24).take 8)).toNat_lt
  unfold ofN
  simp only [N5.w]
  clear v0 v1 v2 v3 hs e8
  generalize w64 ((s.drop 0).take 8) = w0 at *
  generalize w64 ((s.drop 8).take 8) = w1 at *
  generalize w64 ((s.drop 16).take 8) = w2 at *
  generalize w64 ((s.drop 24).take 8) = w3 at *
  have b0 : (shr64 w0 51).toNat = w0.toNat / 2251799813685248 := shr64n (by decide)
  have b1 : (shr64 w1 38).toNat = w1.toNat / 274877906944 := shr64n (by decide)
  have b2 : (shr64 w2 25).toNat = w2.toNat / 33554432 := shr64n (by decide)
  have b3 : (shr64 w3 12).toNat = w3.toNat / 4096 := shr64n (by decide)
  have o0 := or_word (shr64 w0 51) w1 13 (by decide) (by rw [b0]; simp only [Nat.reducePow]; omega)
  have o1 := or_word (shr64 w1 38) w2 26 (by decide) (by rw [b1]; simp only [Nat.reducePow]; omega)
  have o2 := or_word (shr64 w2 25) w3 39 (by decide) (by rw [b2]; simp only [Nat.reducePow]; omega)
  rw [b0] at o0
  rw [b1] at o1
  rw [b2] at o2
  simp only [Nat.reducePow] at o0 o1 o2
  rw [and51, and51, and51, and51, and51, o0, o1, o2, b3]
  exact parts_v _ _ _ _ l0 l1 l2 l3
theorem fv_of (s : List UInt8) (h : s.length = 32) : fv (ofN s) = Fin.ofNat p25519 (leN s % 57896044618658097711785492504343953926634992332820282019728792003956564819968) := by
  unfold fv; rw [ofN_w s h]
theorem and248 (x : UInt8) : x &&& 248 = UInt8.ofNat (x.toNat - x.toNat % 8) := by
  have h : ∀ n : Fin 256, (n.val &&& 248) = (n.val - n.val % 8) % 2 ^ 8 := by decide +kernel
  apply UInt8.toNat_inj.1
  rw [UInt8.toNat_and, UInt8.toNat_ofNat']
  exact h ⟨x.toNat, x.toNat_lt⟩
theorem and127 (x : UInt8) : (x &&& 127) ||| 64 = UInt8.ofNat (x.toNat % 64 + 64) := by
  have h : ∀ n : Fin 256, ((n.val &&& 127) ||| 64) = (n.val % 64 + 64) % 2 ^ 8 := by decide +kernel
  apply UInt8.toNat_inj.1
  rw [UInt8.toNat_or, UInt8.toNat_and, UInt8.toNat_ofNat']
  exact h ⟨x.toNat, x.toNat_lt⟩
def clampR (s : List UInt8) : List UInt8 := UInt8.ofNat ((s.getD 0 0).toNat - (s.getD 0 0).toNat % 8) :: ((s.drop 1).take 30 ++ [UInt8.ofNat ((s.getD 31 0).toNat % 64 + 64)])
theorem split32 (s : List UInt8) (h : s.length = 32) : ∃ x m y, s = x :: (m ++ [y]) ∧ m.length = 30 := by
  match s, h with
  | x :: l, h =>
    have hl : l.length = 31 := by simpa using h
    have e := take_st l 30 (by omega)
    rw [List.take_of_length_le (by omega)] at e
    refine ⟨x, l.take 30, l.getD 30 0, ?_, by rw [List.length_take]; omega⟩
    rw [← e]
theorem getD_mid (x : UInt8) (m : List UInt8) (y : UInt8) (h : m.length = 30) : (x :: (m ++ [y])).getD 31 0 = y := by
  rw [List.getD_cons_succ, List.getD_eq_getElem?_getD, List.getElem?_append_right (by omega), h]; rfl
theorem set_mid (x : UInt8) (m : List UInt8) (y z : UInt8) (h : m.length = 30) : (x :: (m ++ [y])).set 31 z = x :: (m ++ [z]) := by
  rw [List.set_cons_succ, List.set_append_right _ _ (by omega), h]; rfl
theorem clampK_mid (x : UInt8) (m : List UInt8) (y : UInt8) (h : m.length = 30) : clampK (x :: (m ++ [y])) = (x &&& 248) :: (m ++ [(y &&& 127) ||| 64]) := by
  unfold clampK
  rw [List.set_cons_zero, List.getD_cons_zero, getD_mid _ _ _ h, set_mid _ _ _ _ h]
theorem clampR_eq (s : List UInt8) (h : s.length = 32) : clampR s = clampK s := by
  obtain ⟨x, m, y, rfl, hm⟩ := split32 s h
  rw [clampK_mid _ _ _ hm, and248, and127]
  unfold clampR
  rw [getD_mid _ _ _ hm, List.getD_cons_zero, List.drop_succ_cons, List.drop_zero, List.take_left' hm]
theorem pointS_len (s u : List UInt8) : (pointS s u).length = 32 := rfl
end Go.Proofs.YtahiopdkekkibaaGreatDoor.FK

/-
  Layer 5: contracts of the small functions.
-/
namespace Go.Proofs.YtahiopdkekkibaaGreatDoor.FC
open Go Go.RowKit
set_option linter.unusedSimpArgs false
set_option linter.unusedVariables false

def leAt (l : List UInt8) (i : Nat) : UInt32 := (l.getD i 0).toUInt32 ||| shl32 (l.getD (i + 1) 0).toUInt32 8 ||| shl32 (l.getD (i + 2) 0).toUInt32 16 ||| shl32 (l.getD (i + 3) 0).toUInt32 24
def ga0 : Nat → Option Con := fun _ => none
theorem ga0_ok : GaOk Tryz.prog ga0 := fun f con h => by cases h
noncomputable def envOf (ga : Nat → Option Con) (nt : Nat) : Env := ⟨ty, ga, [], nt, [], []⟩
theorem envOf_ok {ga : Nat → Option Con} (h : GaOk Tryz.prog ga) (nt : Nat) : EnvOk Tryz.prog (envOf ga nt) := ⟨ty_ok, h, by first | rfl | decide⟩
theorem word_tri (s : List UInt8) (h : s.length = 4) : Tri Tryz.prog 137 [.one (.str s)] [] (.c (.one (.u32 (leAt s 0)))) [] := by
  refine tri_of (envOf_ok ga0_ok 21) Tryz.func137 rfl rfl (rs := [.tmp 2]) rfl rfl (by simp [envOf]) rfl [] ?_
  simp only [envOf, go_sem]
  refine ⟨by omega, by omega, by omega, by omega, rfl, ?_⟩
  rfl
def wordC : Con := con0 fun args => match args with
  | [.one (.str s)] => some (.c (.one (.u32 (leAt s 0))), [s.length = 4])
  | _ => none
theorem wordC_ok : ConOk Tryz.prog 137 wordC := con0_ok Tryz.func137 rfl rfl fun args res ob h hob => by
  split at h
  · injection h with h; injection h with h1 h2; subst h1; subst h2; exact word_tri _ hob.1
  · cases h
def rot32 (x : UInt32) (k : Int) : UInt32 := shl32 x (by64 k &&& 31).toNat ||| shr32 x (32 - (by64 k &&& 31)).toNat
theorem rot_tri (x : UInt32) (k : Int) : Tri Tryz.prog 168 [.one (.u32 x), .one (.num k)] [] (.c (.one (.u32 (rot32 x k)))) [] := by
  refine tri_of (envOf_ok ga0_ok 17) Tryz.func168 rfl rfl (rs := [.tmp 4]) rfl rfl (by simp [envOf]) rfl [] ?_
  simp only [envOf, go_sem]
  rfl
def rotC : Con := con0 fun args => match args with
  | [.one (.u32 x), .one (.num k)] => some (.c (.one (.u32 (rot32 x k))), [])
  | _ => none
theorem rotC_ok : ConOk Tryz.prog 168 rotC := con0_ok Tryz.func168 rfl rfl fun args res ob h hob => by
  split at h
  · injection h with h; injection h with h1 h2; subst h1; subst h2; exact rot_tri _ _
  · cases h
def ga1 : Nat → Option Con := fun f => match f with
  | 168 => some rotC
  | _ => none
theorem ga1_ok : GaOk Tryz.prog ga1 := fun f con h => by
  unfold ga1 at h
  split at h
  · injection h with h; subst h; exact rotC_ok
  · cases h
def qr (a b c d : UInt32) : UInt32 × UInt32 × UInt32 × UInt32 :=
  let a1 := a + b
  let d1 := rot32 (d ^^^ a1) 16
  let c1 := c + d1
  let b1 := rot32 (b ^^^ c1) 12
  let a2 := a1 + b1
  let d2 := rot32 (d1 ^^^ a2) 8
  let c2 := c1 + d2
  let b2 := rot32 (b1 ^^^ c2) 7
  (a2, b2, c2, d2)
set_option maxRecDepth 100000 in
theorem quarter_tri (a b c d : UInt32) : Tri Tryz.prog 138 [.one (.u32 a), .one (.u32 b), .one (.u32 c), .one (.u32 d)] [] (.tup [.one (.u32 (qr a b c d).1), .one (.u32 (qr a b c d).2.1), .one (.u32 (qr a b c d).2.2.1), .one (.u32 (qr a b c d).2.2.2)]) [] := by
  refine tri_of (envOf_ok ga1_ok 44) Tryz.func138 rfl rfl (rs := [.tmp 8, .tmp 9, .tmp 10, .tmp 11]) rfl rfl (by simp [envOf]) rfl [] ?_
  simp only [envOf, ga1, rotC, go_sem]
  exact ⟨rfl, rfl, rfl, rfl⟩
def quarterC : Con := con0 fun args => match args with
  | [.one (.u32 a), .one (.u32 b), .one (.u32 c), .one (.u32 d)] => some (.tup [.one (.u32 (qr a b c d).1), .one (.u32 (qr a b c d).2.1), .one (.u32 (qr a b c d).2.2.1), .one (.u32 (qr a b c d).2.2.2)], [])
  | _ => none
theorem quarterC_ok : ConOk Tryz.prog 138 quarterC := con0_ok Tryz.func138 rfl rfl fun args res ob h hob => by
  split at h
  · injection h with h; injection h with h1 h2; subst h1; subst h2; exact quarter_tri _ _ _ _
  · cases h
def rightB (k n : List UInt8) : Bool := ((k.length : Int) == 32) && ((n.length : Int) == 12)
theorem rightB_iff (k n : List UInt8) : rightB k n = true ↔ k.length = 32 ∧ n.length = 12 := by
  simp only [rightB, Bool.and_eq_true, beq_iff_eq]
  omega
theorem right_tri (k n : List UInt8) : Tri Tryz.prog 103 [.one (.str k), .one (.str n)] [] (.c (.one (.bo (rightB k n)))) [] := by
  refine tri_of (envOf_ok ga0_ok 13) Tryz.func103 rfl rfl (rs := [.tmp 4]) rfl rfl (by simp [envOf]) rfl [] ?_
  simp only [envOf, go_sem]
  refine br (fun h => ?_) fun h => ?_ <;> simp only [h, rightB, go_sem]
def rightC : Con := con0 fun args => match args with
  | [.one (.str k), .one (.str n)] => some (.c (.one (.bo (rightB k n))), [])
  | _ => none
theorem rightC_ok : ConOk Tryz.prog 103 rightC := con0_ok Tryz.func103 rfl rfl fun args res ob h hob => by
  split at h
  · injection h with h; injection h with h1 h2; subst h1; subst h2; exact right_tri _ _
  · cases h
end Go.Proofs.YtahiopdkekkibaaGreatDoor.FC

/-
  Layer 5: the first state of a block.
-/
namespace Go.Proofs.YtahiopdkekkibaaGreatDoor.FC
open Go Go.RowKit
set_option linter.unusedSimpArgs false
set_option linter.unusedVariables false
def ga2 : Nat → Option Con := fun f => match f with
  | 137 => some wordC
  | _ => none
theorem ga2_ok : GaOk Tryz.prog ga2 := fun f con h => by
  unfold ga2 at h
  split at h
  · injection h with h; subst h; exact wordC_ok
  · cases h
theorem getD_cut (l : List UInt8) (a n i : Nat) (h : i < n) : ((l.drop a).take n).getD i 0 = l.getD (a + i) 0 := by
  simp only [List.getD_eq_getElem?_getD]
  rw [List.getElem?_take_of_lt h, List.getElem?_drop]
theorem leAt_cut (l : List UInt8) (a : Nat) : leAt ((l.drop a).take 4) 0 = leAt l a := by
  unfold leAt
  rw [getD_cut _ _ _ _ (by omega), getD_cut _ _ _ _ (by omega), getD_cut _ _ _ _ (by omega), getD_cut _ _ _ _ (by omega)]
  simp only [Nat.zero_add, Nat.add_zero]
theorem leAt_drop (l : List UInt8) (a : Nat) : leAt (l.drop a) 0 = leAt l a := by
  unfold leAt
  simp only [List.getD_eq_getElem?_getD, List.getElem?_drop, Nat.zero_add, Nat.add_zero]
theorem leAt_take (l : List UInt8) : leAt (l.take 4) 0 = leAt l 0 := leAt_cut l 0
def iniL (k n : List UInt8) (c : UInt32) : List UInt32 := [1634760805, 857760878, 2036477234, 1797285236, leAt k 0, leAt k 4, leAt k 8, leAt k 12, leAt k 16, leAt k 20, leAt k 24, leAt k 28, c, leAt n 0, leAt n 4, leAt n 8]
set_option maxRecDepth 100000 in
set_option maxHeartbeats 4000000 in
theorem initial_tri (k n : List UInt8) (c : UInt32) (hk : k.length = 32) (hn : n.length = 12) : Tri Tryz.prog 104 [.one (.str k), .one (.str n), .one (.u32 c)] [] (.c (.agg ((iniL k n c).map .u32))) [] := by
  refine tri_of (envOf_ok ga2_ok 44) Tryz.func104 rfl rfl (rs := [.cell 6 138]) rfl rfl (by simp [envOf]) rfl [] ?_
  simp only [envOf, ga2, wordC, go_sem]
  refine loop_rounds (envOf_ok ga2_ok 44) 9 ?_
  simp only [ga2, wordC, go_sem]
  repeat' apply And.intro
  rotate_right
  · refine loop_rounds (envOf_ok ga2_ok 44) 4 ?_
    simp only [ga2, wordC, leAt_drop, leAt_take, go_sem]
    repeat' apply And.intro
    all_goals first
      | omega
      | (simp only [List.length_take, List.length_drop]; omega)
      | rfl
  all_goals first
    | omega
    | (simp only [List.length_take, List.length_drop]; omega)
def initialC : Con := con0 fun args => match args with
  | [.one (.str k), .one (.str n), .one (.u32 c)] => some (.c (.agg ((iniL k n c).map .u32)), [k.length = 32, n.length = 12])
  | _ => none
theorem initialC_ok : ConOk Tryz.prog 104 initialC := con0_ok Tryz.func104 rfl rfl fun args res ob h hob => by
  split at h
  · injection h with h; injection h with h1 h2; subst h1; subst h2; exact initial_tri _ _ _ hob.1 hob.2.1
  · cases h
end Go.Proofs.YtahiopdkekkibaaGreatDoor.FC

/-
  Layer 5: the rounds.
-/
namespace Go.Proofs.YtahiopdkekkibaaGreatDoor.FC
open Go Go.RowKit
set_option linter.unusedSimpArgs false
set_option linter.unusedVariables false
def ga3 : Nat → Option Con := fun f => match f with
  | 138 => some quarterC
  | _ => none
theorem ga3_ok : GaOk Tryz.prog ga3 := fun f con h => by
  unfold ga3 at h
  split at h
  · injection h with h; subst h; exact quarterC_ok
  · cases h
def dround : List UInt32 → List UInt32
  | [x0, x1, x2, x3, x4, x5, x6, x7, x8, x9, xa, xb, xc, xd, xe, xf] =>
    let q0 := qr x0 x4 x8 xc
    let q1 := qr x1 x5 x9 xd
    let q2 := qr x2 x6 xa xe
    let q3 := qr x3 x7 xb xf
    let q4 := qr q0.1 q1.2.1 q2.2.2.1 q3.2.2.2
    let q5 := qr q1.1 q2.2.1 q3.2.2.1 q0.2.2.2
    let q6 := qr q2.1 q3.2.1 q0.2.2.1 q1.2.2.2
    let q7 := qr q3.1 q0.2.1 q1.2.2.1 q2.2.2.2
    [q4.1, q5.1, q6.1, q7.1, q7.2.1, q4.2.1, q5.2.1, q6.2.1, q6.2.2.1, q7.2.2.1, q4.2.2.1, q5.2.2.1, q5.2.2.2, q6.2.2.2, q7.2.2.2, q4.2.2.2]
  | l => l
def dtimes : Nat → List UInt32 → List UInt32
  | 0, l => l
  | n + 1, l => dround (dtimes n l)
theorem dround_len : ∀ (l : List UInt32), l.length = 16 → (dround l).length = 16
  | [x0, x1, x2, x3, x4, x5, x6, x7, x8, x9, xa, xb, xc, xd, xe, xf], _ => rfl
theorem dtimes_len (l : List UInt32) (h : l.length = 16) : ∀ n, (dtimes n l).length = 16
  | 0 => h
  | n + 1 => dround_len _ (dtimes_len l h n)
theorem split16 (l : List UInt32) (hl : l.length = 16) : ∃ x0 x1 x2 x3 x4 x5 x6 x7 x8 x9 xa xb xc xd xe xf, l = [x0, x1, x2, x3, x4, x5, x6, x7, x8, x9, xa, xb, xc, xd, xe, xf] := by
  match l, hl with
  | [x0, x1, x2, x3, x4, x5, x6, x7, x8, x9, xa, xb, xc, xd, xe, xf], _ => exact ⟨_, _, _, _, _, _, _, _, _, _, _, _, _, _, _, _, rfl⟩
def w4 (w : UInt32) : List UInt8 := [w.toUInt8, (shr32 w 8).toUInt8, (shr32 w 16).toUInt8, (shr32 w 24).toUInt8]
def outL : List UInt32 → List UInt32 → List UInt8
  | y :: ys, x :: xs => w4 (y + x) ++ outL ys xs
  | _, _ => []
def stirL (l : List UInt32) : List UInt8 := outL (dtimes 10 l) l
def stirInv (l : List UInt32) (x : Nat × List UInt32) : St := ⟨[(1, .c (.one (.ptr 10000 0 0 0))), (2, .c (.one (.str []))), (3, .c (.one (.ptr 20008 0 0 0))), (13, .c (.one (.num x.1)))], [(10000, ⟨.cells 1 (l.map .u32), true⟩), (20008, ⟨.cells 1 (x.2.map .u32), true⟩)]⟩
set_option maxRecDepth 100000 in
set_option maxHeartbeats 4000000 in
theorem stir_tri (l : List UInt32) (hl : l.length = 16) : Tri Tryz.prog 105 [.agg (l.map .u32)] [] (.c (.one (.str (stirL l)))) [] := by
  obtain ⟨x0, x1, x2, x3, x4, x5, x6, x7, x8, x9, xa, xb, xc, xd, xe, xf, rfl⟩ := split16 l hl
  refine tri_of (envOf_ok ga3_ok 122) Tryz.func105 rfl rfl (rs := [.tmp 2]) rfl rfl (by simp [envOf]) rfl [] ?_
  simp only [envOf, ga3, quarterC, go_sem]
  refine loop_inv (envOf_ok ga3_ok 122) (stirInv [x0, x1, x2, x3, x4, x5, x6, x7, x8, x9, xa, xb, xc, xd, xe, xf]) (fun x => x.1 ≤ 10 ∧ x.2 = dtimes x.1 [x0, x1, x2, x3, x4, x5, x6, x7, x8, x9, xa, xb, xc, xd, xe, xf]) (fun x => 10 - x.1) (0, [x0, x1, x2, x3, x4, x5, x6, x7, x8, x9, xa, xb, xc, xd, xe, xf]) [] ⟨by omega, rfl⟩ ?_ ?_
  · simp only [stirInv, go_sem]
  · rintro ⟨j, vs⟩ ⟨hj, hv⟩
    simp only at hj hv
    have hv' : vs.length = 16 := by rw [hv]; exact dtimes_len _ hl _
    obtain ⟨y0, y1, y2, y3, y4, y5, y6, y7, y8, y9, ya, yb, yc, yd, ye, yf, rfl⟩ := split16 vs hv'
    simp only [stirInv, envOf, ga3, quarterC, go_sem]
    refine br (fun h => ?_) fun h => ?_ <;> simp only [h, go_sem]
    · have hj' : j + 1 ≤ 10 := by have := of_decide_eq_true h; omega
      have hw : IntKind.i64.wrap ((j : Int) + 1) = ((j + 1 : Nat) : Int) := by rw [IntKind.wrap_i64]; omega
      refine loop_rounds (envOf_ok ga3_ok 122) 5 ?_
      simp (maxSteps := 2000000) only [ga3, quarterC, go_sem]
      repeat' apply And.intro
      rotate_right
      · refine loop_rounds (envOf_ok ga3_ok 122) 5 ?_
        simp (maxSteps := 2000000) only [ga3, quarterC, hw, go_sem]
        repeat' apply And.intro
        rotate_right
        · refine again (j + 1, dround [y0, y1, y2, y3, y4, y5, y6, y7, y8, y9, ya, yb, yc, yd, ye, yf]) [] ⟨hj', ?_⟩ (by simp only; omega) ?_
          · simp only [dtimes, hv]
          · simp only [stirInv, dround, go_sem]
        all_goals rfl
      all_goals rfl
    · have hj' : j = 10 := by have := of_decide_eq_false h; omega
      subst hj'
      refine loop_rounds (envOf_ok ga3_ok 122) 17 ?_
      simp (maxSteps := 2000000) only [ga3, quarterC, stirL, ← hv, outL, w4, go_sem]
      repeat' apply And.intro
      all_goals rfl
def u32s : List AV → List UInt32
  | [] => []
  | .u32 y :: l => y :: u32s l
  | _ :: l => 0 :: u32s l
theorem u32s_len : ∀ (l : List AV), (u32s l).length = l.length
  | [] => rfl
  | x :: l => by cases x <;> simp [u32s, u32s_len l]
def stirC : Con := con0 fun args => match args with
  | [.agg l] => some (.c (.one (.str (stirL (u32s l)))), [l.length = 16, l = (u32s l).map .u32])
  | _ => none
theorem stirC_ok : ConOk Tryz.prog 105 stirC := con0_ok Tryz.func105 rfl rfl fun args res ob h hob => by
  split at h
  · injection h with h; injection h with h1 h2; subst h1; subst h2
    have h1 := hob.1
    have e := hob.2.1
    have := stir_tri _ (by rw [u32s_len]; exact h1)
    rw [← e] at this
    exact this
  · cases h
end Go.Proofs.YtahiopdkekkibaaGreatDoor.FC

/-
  Layer 5: a string turned.
-/
namespace Go.Proofs.YtahiopdkekkibaaGreatDoor.FC
open Go Go.RowKit
set_option linter.unusedSimpArgs false
set_option linter.unusedVariables false
def ga4 : Nat → Option Con := fun f => match f with
  | 103 => some rightC
  | 104 => some initialC
  | 105 => some stirC
  | _ => none
theorem ga4_ok : GaOk Tryz.prog ga4 := fun f con h => by
  unfold ga4 at h
  split at h
  · injection h with h; subst h; exact rightC_ok
  · injection h with h; subst h; exact initialC_ok
  · injection h with h; subst h; exact stirC_ok
  · cases h
def blockL (k n : List UInt8) (c : UInt32) : List UInt8 := stirL (iniL k n c)
set_option maxRecDepth 100000 in
theorem block_tri (k n : List UInt8) (c : UInt32) : Tri Tryz.prog 106 [.one (.str k), .one (.str n), .one (.u32 c)] [] (.tup [.one (.str (if rightB k n = true then blockL k n c else [])), .one (.bo (rightB k n))]) [] := by
  refine tri_of (envOf_ok ga4_ok 17) Tryz.func106 rfl rfl (rs := [.tmp 6, .tmp 7]) rfl rfl (by simp [envOf]) rfl [] ?_
  cases hr : rightB k n with
  | true =>
    have hh := (rightB_iff k n).1 hr
    simp only [envOf, ga4, rightC, initialC, stirC, hr, hh.1, hh.2, iniL, u32s, blockL, go_sem]
  | false => simp only [envOf, ga4, rightC, initialC, stirC, hr, go_sem]
def ksAt (k n : List UInt8) (c : UInt32) (p : Nat) : UInt8 := (stirL (iniL k n (c + UInt32.ofNat (p / 64)))).getD (p % 64) 0
def fro (g : Nat → UInt8) (s : List UInt8) (f : Nat) : List UInt8 := s.mapIdx fun p b => if p < f then b ^^^ g p else b
theorem fro_len (g : Nat → UInt8) (s : List UInt8) (f : Nat) : (fro g s f).length = s.length := List.length_mapIdx
theorem fro_zero (g : Nat → UInt8) (s : List UInt8) : fro g s 0 = s := by
  apply List.ext_getElem?; intro i
  simp [fro]
theorem fro_getD (g : Nat → UInt8) (s : List UInt8) (f : Nat) : (fro g s f).getD f 0 = s.getD f 0 := by
  simp [fro, List.getD_eq_getElem?_getD]
theorem fro_set (g : Nat → UInt8) (s : List UInt8) (f : Nat) : (fro g s f).set f ((fro g s f).getD f 0 ^^^ g f) = fro g s (f + 1) := by
  apply List.ext_getElem?; intro i
  rw [fro_getD, List.getElem?_set]
  by_cases h : f = i
  · subst h
    rw [if_pos rfl, fro_len]
    by_cases hl : f < s.length
    · rw [if_pos hl]
      simp [fro, hl]
    · rw [if_neg hl]
      simp [fro, hl]
  · rw [if_neg h]
    simp only [fro, List.getElem?_mapIdx]
    by_cases hl : i < s.length
    · have : (i < f) = (i < f + 1) := by simp only [eq_iff_iff]; omega
      simp only [this]
    · rw [List.getElem?_eq_none (by omega)]; rfl
theorem fro_end (g : Nat → UInt8) (s : List UInt8) (f : Nat) (h : s.length ≤ f) : fro g s f = fro g s s.length := by
  apply List.ext_getElem?; intro i
  simp only [fro, List.getElem?_mapIdx]
  by_cases hl : i < s.length
  · have e : (i < f) = (i < s.length) := by simp only [eq_iff_iff]; omega
    simp only [e]
  · rw [List.getElem?_eq_none (by omega)]; rfl
def turnL (k n : List UInt8) (c : UInt32) (s : List UInt8) : List UInt8 := fro (ksAt k n c) s s.length
def turnInv (k n : List UInt8) (c : UInt32) (s : List UInt8) (q : Nat) : St := ⟨[(10, .c (.one (.ptr 40032 0 0 0))), (11, .c (.one (.sl 50008 0 1 s.length))), (12, .c (.one (.num (64 * q : Nat))))], [(40032, ⟨.cells 1 ((iniL k n (c + UInt32.ofNat q)).map .u32), true⟩), (50008, ⟨.arr UInt8 u8L (fro (ksAt k n c) s (64 * q)), true⟩)]⟩
theorem outL_len : ∀ (y x : List UInt32), y.length = x.length → (outL y x).length = 4 * x.length
  | [], [], _ => rfl
  | y :: ys, x :: xs, h => by
    have := outL_len ys xs (by simpa using h)
    rw [outL, List.length_append, this]
    simp [w4]; omega
theorem stirL_len (l : List UInt32) (h : l.length = 16) : (stirL l).length = 64 := by
  have h10 := dtimes_len l h 10
  rw [stirL, outL_len _ _ (by rw [h10, h]), h]
def partInv (k n : List UInt8) (c : UInt32) (s : List UInt8) (q m i : Nat) : St := ⟨[(10, .c (.one (.ptr 40032 0 0 0))), (11, .c (.one (.sl 50008 0 1 s.length))), (12, .c (.one (.num (64 * q : Nat)))), (13, .c (.one (.str (stirL (iniL k n (c + UInt32.ofNat q)))))), (14, .c (.one (.sl 50008 (64 * q) 1 m))), (43, .c (.one (.num m))), (44, .c (.one (.num i)))], [(40032, ⟨.cells 1 ((iniL k n (c + UInt32.ofNat q)).map .u32), true⟩), (50008, ⟨.arr UInt8 u8L (fro (ksAt k n c) s (64 * q + i)), true⟩)]⟩
set_option maxRecDepth 100000 in
set_option maxHeartbeats 4000000 in
theorem turn_tri (k n : List UInt8) (c : UInt32) (s : List UInt8) (hs : s.length ≤ 1048576) : Tri Tryz.prog 64 [.one (.str k), .one (.str n), .one (.u32 c), .one (.str s)] [] (.tup [.one (.str (if rightB k n = true then turnL k n c s else [])), .one (.bo (rightB k n))]) [] := by
  refine tri_of (envOf_ok ga4_ok 63) Tryz.func64 rfl rfl (rs := [.tmp 8, .tmp 9]) rfl rfl (by simp [envOf]) rfl [] ?_
  cases hr : rightB k n with
  | false => simp only [envOf, ga4, rightC, initialC, stirC, hr, go_sem]
  | true =>
    have hh := (rightB_iff k n).1 hr
    simp only [envOf, ga4, rightC, initialC, stirC, hr, hh.1, hh.2, iniL, u32s, go_sem]
    refine loop_inv (envOf_ok ga4_ok 63) (turnInv k n c s) (fun q => 64 * q ≤ s.length + 63) (fun q => s.length + 64 - 64 * q) 0 [] (by omega) ?_ ?_
    · simp only [turnInv, iniL, fro_zero, UInt32.add_zero, go_sem]
    · intro q hq
      simp only [turnInv, envOf, ga4, stirC, iniL, u32s, go_sem]
      refine br (fun h => ?_) fun h => ?_
      · have hlt : 64 * q < s.length := by have := of_decide_eq_true h; omega
        obtain ⟨m, hm⟩ : ∃ m, m = min 64 (s.length - 64 * q) := ⟨_, rfl⟩
        have hw : IntKind.i64.wrap (((64 * q : Nat) : Int) + 64) = ((64 * q + 64 : Nat) : Int) := by rw [IntKind.wrap_i64]; omega
        have hmin : min ((64 * q + 64 : Nat) : Int) (s.length : Int) = ((64 * q + m : Nat) : Int) := by omega
        simp only [h, ga4, stirC, iniL, u32s, hw, hmin, Nat.add_sub_cancel_left, go_sem]
        refine ⟨by omega, ?_⟩
        refine loop_inv (envOf_ok ga4_ok 63) (partInv k n c s q m) (fun i => i ≤ m) (fun i => m - i) 0 [] (by omega) ?_ ?_
        · simp only [partInv, iniL, Nat.add_zero, go_sem]
        · intro i hi
          simp only [partInv, envOf, ga4, stirC, iniL, u32s, go_sem]
          refine br (fun h' => ?_) fun h' => ?_
          · have hlt' : i < m := by have := of_decide_eq_true h'; omega
            have hw' : IntKind.i64.wrap ((i : Int) + 1) = ((i + 1 : Nat) : Int) := by rw [IntKind.wrap_i64]; omega
            simp only [h', ga4, stirC, iniL, u32s, hw', go_sem]
            have hS : (stirL (iniL k n (c + UInt32.ofNat q))).length = 64 := stirL_len _ rfl
            have hk : (stirL (iniL k n (c + UInt32.ofNat q))).getD i 0 = ksAt k n c (64 * q + i) := by
              unfold ksAt
              rw [show (64 * q + i) / 64 = q by omega, show (64 * q + i) % 64 = i by omega]
            have hset : (fro (ksAt k n c) s (64 * q + i)).set (64 * q + i) ((fro (ksAt k n c) s (64 * q + i)).getD (64 * q + i) 0 ^^^ (stirL (iniL k n (c + UInt32.ofNat q))).getD i 0) = fro (ksAt k n c) s (64 * q + (i + 1)) := by
              rw [hk]; exact fro_set _ _ _
            simp only [iniL] at hS hset
            refine ⟨by omega, by rw [fro_len]; omega, by rw [hS]; omega, by omega, by rw [fro_len]; omega, rfl, again (i + 1) [] (by omega) (by omega) ?_⟩
            simp only [partInv, iniL, hset, go_sem]
          · have hi' : i = m := by have := of_decide_eq_false h'; omega
            subst hi'
            have hw2 : IntKind.i64.wrap (((64 * q : Nat) : Int) + 64) = ((64 * (q + 1) : Nat) : Int) := by rw [IntKind.wrap_i64]; omega
            have hfe : fro (ksAt k n c) s (64 * q + i) = fro (ksAt k n c) s (64 * (q + 1)) := by
              by_cases h64 : i = 64
              · rw [h64]; rfl
              · rw [fro_end _ _ (64 * q + i) (by omega), fro_end _ _ (64 * (q + 1)) (by omega)]
            have hc : c + UInt32.ofNat q + 1 = c + UInt32.ofNat (q + 1) := by
              rw [UInt32.ofNat_add, UInt32.add_assoc]; rfl
            simp only [h', ga4, stirC, iniL, u32s, hw2, hc, hfe, go_sem]
            refine again (q + 1) [] (by omega) (by omega) ?_
            simp only [turnInv, iniL, go_sem]
      · have hge : s.length ≤ 64 * q := by have := of_decide_eq_false h; omega
        have hfull := fro_end (ksAt k n c) s (64 * q) hge
        have ht : List.take s.length (fro (ksAt k n c) s s.length) = fro (ksAt k n c) s s.length := List.take_of_length_le (by rw [fro_len]; exact Nat.le_refl _)
        simp only [h, ga4, stirC, iniL, u32s, hfull, ht, turnL, fro_len, go_sem]
end Go.Proofs.YtahiopdkekkibaaGreatDoor.FC

/-
  Layer 6: numbers of five parts; what the program's small functions make of them.
-/
namespace Go.Proofs.YtahiopdkekkibaaGreatDoor.FC
open Go Go.RowKit
set_option maxHeartbeats 4000000
set_option linter.unusedSimpArgs false
set_option linter.unusedVariables false
@[ext] structure N5 where
  (a b c d e : UInt64)
deriving DecidableEq
def N5.l (x : N5) : List UInt64 := [x.a, x.b, x.c, x.d, x.e]
def N5.cv (x : N5) : CV := .agg [.u64 x.a, .u64 x.b, .u64 x.c, .u64 x.d, .u64 x.e]
theorem N5.eta (x : N5) : N5.mk x.a x.b x.c x.d x.e = x := rfl
def pcarry (x : N5) : N5 :=
  let b1 := x.b + shr64 x.a 26
  let c1 := x.c + shr64 b1 26
  let d1 := x.d + shr64 c1 26
  let e1 := x.e + shr64 d1 26
  ⟨(x.a &&& 67108863) + 5 * shr64 e1 26, b1 &&& 67108863, c1 &&& 67108863, d1 &&& 67108863, e1 &&& 67108863⟩
set_option maxRecDepth 100000 in
theorem pcarry_tri (x : N5) : Tri Tryz.prog 169 [x.cv] [] (.c (pcarry x).cv) [] := by
  refine tri_of (envOf_ok ga0_ok 36) Tryz.func169 rfl rfl (rs := [.cell 2 163]) rfl rfl (by simp [envOf]) rfl [] ?_
  simp only [envOf, ga0, N5.cv, go_sem]
  refine loop_rounds (envOf_ok ga0_ok 36) 5 ?_
  simp only [ga0, go_sem]
  repeat' apply And.intro
  all_goals rfl
def pcarryC : Con := con0 fun args => match args with
  | [.agg [.u64 a, .u64 b, .u64 c, .u64 d, .u64 e]] => some (.c (pcarry ⟨a, b, c, d, e⟩).cv, [])
  | _ => none
theorem pcarryC_ok : ConOk Tryz.prog 169 pcarryC := con0_ok Tryz.func169 rfl rfl fun args res ob h hob => by
  split at h
  · injection h with h; injection h with h1 h2; subst h1; subst h2; exact pcarry_tri ⟨_, _, _, _, _⟩
  · cases h
def gp1 : Nat → Option Con := fun f => match f with
  | 169 => some pcarryC
  | _ => none
theorem gp1_ok : GaOk Tryz.prog gp1 := fun f con h => by
  unfold gp1 at h
  split at h
  · injection h with h; subst h; exact pcarryC_ok
  · cases h
def pplus (x y : N5) : N5 := pcarry ⟨x.a + y.a, x.b + y.b, x.c + y.c, x.d + y.d, x.e + y.e⟩
set_option maxRecDepth 100000 in
theorem pplus_tri (x y : N5) : Tri Tryz.prog 141 [x.cv, y.cv] [] (.c (pplus x y).cv) [] := by
  refine tri_of (envOf_ok gp1_ok 20) Tryz.func141 rfl rfl (rs := [.cell 4 163]) rfl rfl (by simp [envOf]) rfl [] ?_
  simp only [envOf, gp1, pcarryC, N5.cv, go_sem]
  refine loop_rounds (envOf_ok gp1_ok 20) 6 ?_
  simp only [gp1, pcarryC, N5.cv, pplus, go_sem]
  all_goals rfl
def pplusC : Con := con0 fun args => match args with
  | [.agg [.u64 a, .u64 b, .u64 c, .u64 d, .u64 e], .agg [.u64 a', .u64 b', .u64 c', .u64 d', .u64 e']] => some (.c (pplus ⟨a, b, c, d, e⟩ ⟨a', b', c', d', e'⟩).cv, [])
  | _ => none
theorem pplusC_ok : ConOk Tryz.prog 141 pplusC := con0_ok Tryz.func141 rfl rfl fun args res ob h hob => by
  split at h
  · injection h with h; injection h with h1 h2; subst h1; subst h2; exact pplus_tri ⟨_, _, _, _, _⟩ ⟨_, _, _, _, _⟩
  · cases h
def praw (x y : N5) : N5 := ⟨
  0 + x.a * y.a + x.b * y.e * 5 + x.c * y.d * 5 + x.d * y.c * 5 + x.e * y.b * 5,
  0 + x.a * y.b + x.b * y.a + x.c * y.e * 5 + x.d * y.d * 5 + x.e * y.c * 5,
  0 + x.a * y.c + x.b * y.b + x.c * y.a + x.d * y.e * 5 + x.e * y.d * 5,
  0 + x.a * y.d + x.b * y.c + x.c * y.b + x.d * y.a + x.e * y.e * 5,
  0 + x.a * y.e + x.b * y.d + x.c * y.c + x.d * y.b + x.e * y.a⟩
def ptimes (x y : N5) : N5 := pcarry (pcarry (praw x y))
set_option maxRecDepth 100000 in
set_option maxHeartbeats 4000000 in
theorem ptimes_tri (x y : N5) : Tri Tryz.prog 140 [x.cv, y.cv] [] (.c (ptimes x y).cv) [] := by
  refine tri_of (envOf_ok gp1_ok 53) Tryz.func140 rfl rfl (rs := [.cell 4 163]) rfl rfl (by simp [envOf]) rfl [] ?_
  simp only [envOf, gp1, pcarryC, N5.cv, go_sem]
  refine loop_rounds (envOf_ok gp1_ok 53) 6 ?_
  simp only [gp1, pcarryC, N5.cv, go_sem]
  iterate 5
    refine loop_rounds (envOf_ok gp1_ok 53) 6 ?_
    simp only [gp1, pcarryC, N5.cv, N5.eta, go_sem]
    repeat' apply And.intro
    all_goals try rfl
def ptimesC : Con := con0 fun args => match args with
  | [.agg [.u64 a, .u64 b, .u64 c, .u64 d, .u64 e], .agg [.u64 a', .u64 b', .u64 c', .u64 d', .u64 e']] => some (.c (ptimes ⟨a, b, c, d, e⟩ ⟨a', b', c', d', e'⟩).cv, [])
  | _ => none
theorem ptimesC_ok : ConOk Tryz.prog 140 ptimesC := con0_ok Tryz.func140 rfl rfl fun args res ob h hob => by
  split at h
  · injection h with h; injection h with h1 h2; subst h1; subst h2; exact ptimes_tri ⟨_, _, _, _, _⟩ ⟨_, _, _, _, _⟩
  · cases h
end Go.Proofs.YtahiopdkekkibaaGreatDoor.FC

/-
  Layer 6: the least number, parts of bytes, and their sum with bytes.
-/
namespace Go.Proofs.YtahiopdkekkibaaGreatDoor.FC
open Go Go.RowKit
set_option maxHeartbeats 4000000
set_option linter.unusedSimpArgs false
set_option linter.unusedVariables false
/-- Numbers of 64 bits in a row. -/
def u64L : Lay UInt64 where
  st := 1
  enc x := [.u64 x]
  d := 0
  up x j ys := match ys with
    | [.u64 y] => if j = 0 then some y else none
    | _ => none
  toB := none
  ofB := none
  len _ := rfl
  put x j ys y h := by
    split at h
    · split at h
      · rename_i h0; injection h with h; subst h; subst h0; simp
      · cases h
    · cases h
  plain x v h := by simp at h; subst h; trivial
  bare x v h := by simp at h; subst h; trivial
  toB_ok f h x := by cases h
  ofB_ok f h x := by cases h
theorem u64L_st : u64L.st = 1 := rfl
theorem u64L_d : u64L.d = 0 := rfl
theorem u64L_enc (x : UInt64) : u64L.enc x = [.u64 x] := rfl
theorem u64L_up (x y : UInt64) : u64L.up x 0 [.u64 y] = some y := rfl
theorem split5 (l : List UInt64) (h : l.length = 5) : ∃ a b c d e, l = [a, b, c, d, e] := by
  match l, h with
  | [a, b, c, d, e], _ => exact ⟨_, _, _, _, _, rfl⟩
def pless (y : N5) : N5 :=
  let a0 := y.a + 5
  let b1 := y.b + shr64 a0 26
  let c1 := y.c + shr64 b1 26
  let d1 := y.d + shr64 c1 26
  let e1 := y.e + shr64 d1 26
  ⟨a0 &&& 67108863, b1 &&& 67108863, c1 &&& 67108863, d1 &&& 67108863, e1⟩
def psmall (x : N5) : N5 :=
  let y := pcarry (pcarry x)
  let z := pless y
  if (shr64 z.e 26 == 0) = true then y else ⟨z.a, z.b, z.c, z.d, z.e &&& 67108863⟩
set_option maxRecDepth 100000 in
theorem psmall_tri (x : N5) : Tri Tryz.prog 144 [x.cv] [] (.c (psmall x).cv) [] := by
  refine tri_of (envOf_ok gp1_ok 42) Tryz.func144 rfl rfl (rs := [.cell 2 163]) rfl rfl (by simp [envOf]) rfl [] ?_
  simp only [envOf, gp1, pcarryC, N5.cv, N5.eta, go_sem]
  refine loop_rounds (envOf_ok gp1_ok 42) 5 ?_
  simp only [gp1, pcarryC, N5.cv, N5.eta, go_sem]
  cases h : (shr64 (pless (pcarry (pcarry x))).e 26 == 0) with
  | true =>
    have e : psmall x = pcarry (pcarry x) := by simp only [psmall, h]; rfl
    refine ⟨rfl, rfl, rfl, rfl, br (fun h' => ?_) fun h' => ?_⟩
    · simp only [h', e, gp1, pcarryC, N5.cv, N5.eta, go_sem]
    · exact absurd (h.symm.trans h') (by decide)
  | false =>
    have e : psmall x = ⟨(pless (pcarry (pcarry x))).a, (pless (pcarry (pcarry x))).b, (pless (pcarry (pcarry x))).c, (pless (pcarry (pcarry x))).d, (pless (pcarry (pcarry x))).e &&& 67108863⟩ := by simp only [psmall, h]; rfl
    refine ⟨rfl, rfl, rfl, rfl, br (fun h' => ?_) fun h' => ?_⟩
    · exact absurd (h.symm.trans h') (by decide)
    · simp only [h', e, gp1, pcarryC, N5.cv, N5.eta, go_sem]
      exact ⟨rfl, rfl, rfl, rfl, rfl⟩
def psmallC : Con := con0 fun args => match args with
  | [.agg [.u64 a, .u64 b, .u64 c, .u64 d, .u64 e]] => some (.c (psmall ⟨a, b, c, d, e⟩).cv, [])
  | _ => none
theorem psmallC_ok : ConOk Tryz.prog 144 psmallC := con0_ok Tryz.func144 rfl rfl fun args res ob h hob => by
  split at h
  · injection h with h; injection h with h1 h2; subst h1; subst h2; exact psmall_tri ⟨_, _, _, _, _⟩
  · cases h
def limbsL (s : List UInt8) : Nat → List UInt64
  | 0 => [0, 0, 0, 0, 0]
  | i + 1 => (limbsL s i).set (8 * i / 26) ((limbsL s i).getD (8 * i / 26) 0 ||| shl64 (s.getD i 0).toUInt64 (8 * i % 26))
def n5of (l : List UInt64) : N5 := ⟨l.getD 0 0, l.getD 1 0, l.getD 2 0, l.getD 3 0, l.getD 4 0⟩
def limbsN (s : List UInt8) : N5 := pcarry (n5of (limbsL s s.length))
theorem limbsL_len (s : List UInt8) : ∀ i, (limbsL s i).length = 5
  | 0 => rfl
  | i + 1 => by rw [limbsL, List.length_set, limbsL_len s i]
def byteOfL (x : N5) (i : Nat) : UInt8 :=
  if 8 * i / 26 + 1 < 5 then (shr64 (x.l.getD (8 * i / 26) 0) (8 * i % 26) ||| shl64 (x.l.getD (8 * i / 26 + 1) 0) (26 - 8 * i % 26)).toUInt8
  else (shr64 (x.l.getD (8 * i / 26) 0) (8 * i % 26)).toUInt8
def pcar (x : N5) (s : List UInt8) : Nat → Nat
  | 0 => 0
  | i + 1 => (pcar x s i + (byteOfL x i).toNat + (s.getD i 0).toNat) / 256
def addAt (x : N5) (s : List UInt8) (i : Nat) : UInt8 := UInt8.ofNat (pcar x s i + (byteOfL x i).toNat + (s.getD i 0).toNat)
def addB (x : N5) (s : List UInt8) (n : Nat) : List UInt8 := (List.range n).map (addAt x s)
set_option maxRecDepth 100000 in
theorem byteOf_tri (x : N5) (i : Nat) (hi : i < 16) : Tri Tryz.prog 170 [x.cv, .one (.num i)] [] (.c (.one (.u8 (byteOfL x i)))) [] := by
  refine tri_of (envOf_ok gp1_ok 33) Tryz.func170 rfl rfl (rs := [.tmp 4]) rfl rfl (by simp [envOf]) rfl [] ?_
  have hc : i = 0 ∨ i = 1 ∨ i = 2 ∨ i = 3 ∨ i = 4 ∨ i = 5 ∨ i = 6 ∨ i = 7 ∨ i = 8 ∨ i = 9 ∨ i = 10 ∨ i = 11 ∨ i = 12 ∨ i = 13 ∨ i = 14 ∨ i = 15 := by omega
  rcases hc with rfl | rfl | rfl | rfl | rfl | rfl | rfl | rfl | rfl | rfl | rfl | rfl | rfl | rfl | rfl | rfl
  all_goals
    simp only [envOf, gp1, N5.cv, go_sem]
    all_goals rfl
end Go.Proofs.YtahiopdkekkibaaGreatDoor.FC

