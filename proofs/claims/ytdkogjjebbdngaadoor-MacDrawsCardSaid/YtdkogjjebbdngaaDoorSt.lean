/-
  A walk by reckoning, part 21: ends in more than one place; objects that read alike. It speaks of no program.
-/
import Derived.Test.YtdkogjjebbdngaaDoorSs
namespace Go.Proofs.YtdkogjjebbdngaaDoor
open Go Go.RowKit
set_option linter.unusedVariables false
set_option linter.unusedSimpArgs false
def SimE (e e' : Ent) : Prop := e.o.live = e'.o.live ∧ e.o.stride = e'.o.stride ∧ e.o.flat = e'.o.flat ∧ e.wr = e'.wr
def SimH (hp hp' : List (Nat × Ent)) : Prop := ∀ id, (∀ e, aget hp id = some e → ∃ e', aget hp' id = some e' ∧ SimE e e') ∧ (aget hp id = none → aget hp' id = none)
theorem SimE.symm {e e' : Ent} (h : SimE e e') : SimE e' e := ⟨h.1.symm, h.2.1.symm, h.2.2.1.symm, h.2.2.2.symm⟩
theorem SimH.symm {hp hp' : List (Nat × Ent)} (h : SimH hp hp') : SimH hp' hp := fun id => by
  obtain ⟨h1, h2⟩ := h id
  cases ha : aget hp id with
  | none => exact ⟨fun e he => (by rw [h2 ha] at he; cases he), fun _ => rfl⟩
  | some e0 =>
    obtain ⟨e', h3, h4⟩ := h1 e0 ha
    exact ⟨fun e he => (by rw [h3] at he; cases he; exact ⟨e0, rfl, h4.symm⟩), fun hn => (by rw [h3] at hn; cases hn)⟩
theorem ObjRel.sim {r : Lc} {w : World} {p : Option (Blk × Nat)} {o o' : SObj} (h1 : o.live = o'.live) (h2 : o.stride = o'.stride) (h3 : o.flat = o'.flat) (h : ObjRel r w p o) : ObjRel r w p o' := fun hl => by
  have := h (h1.trans hl)
  rw [h2, h3] at this
  exact this
theorem HeapOk.sim {C : Ctx} {r : Lc} {hp hp' : List (Nat × Ent)} {w : World} (hs : SimH hp hp') (h : HeapOk C r hp w) : HeapOk C r hp' w := {
  dom := fun id => by
    rw [h.dom id]
    exact ⟨(hs id).2, (hs.symm id).2⟩
  obj := fun id e p he hp => by
    obtain ⟨e', h1, h2, h3, h4, h5⟩ := (hs.symm id).1 e he
    exact (h.obj id e' p h1 hp).sim h2.symm h3.symm h4.symm
  inj := fun i j e f g g' c d hi hj li lj ri rj wi hgg => by
    obtain ⟨e', h1, h2, _, _, hw1⟩ := (hs.symm i).1 e hi
    obtain ⟨f', h3, h4, _⟩ := (hs.symm j).1 f hj
    exact h.inj i j e' f' g g' c d h1 h3 (h2.symm.trans li) (h4.symm.trans lj) ri rj (hw1.symm.trans wi) hgg
  own := fun id e g c he hl hw hr => by
    obtain ⟨e', h1, h2, _, _, h5⟩ := (hs.symm id).1 e he
    exact h.own id e' g c h1 (h2.symm.trans hl) (h5.symm.trans hw) hr
  os := h.os
  tape := h.tape
  glob := h.glob
  output := h.output
  size := h.size
  same := h.same }
theorem cw_sim {G : List GFact} {r : Lc} {hp hp' : List (Nat × Ent)} {w : World} (hs : SimH hp hp') : cw G r hp w = cw G r hp' w := by
  unfold cw
  congr 1
  funext b
  refine propext ⟨?_, ?_⟩
  · rintro ⟨id, e, g, c, h1, h2, h3, h4⟩
    obtain ⟨e', k1, k2, _, _, k5⟩ := (hs id).1 e h1
    exact ⟨id, e', g, c, k1, k5.symm.trans h2, k2.symm.trans h3, h4⟩
  · rintro ⟨id, e, g, c, h1, h2, h3, h4⟩
    obtain ⟨e', k1, k2, _, _, k5⟩ := (hs.symm id).1 e h1
    exact ⟨id, e', g, c, k1, k5.symm.trans h2, k2.symm.trans h3, h4⟩
theorem TriG.sim {P : Program} {G : List GFact} {f : FuncId} {args : List CV} {hp hp' : List (Nat × Ent)} {res : SV} {hq hq' : List (Nat × Ent)} (h1 : SimH hp hp') (h2 : SimH hq hq') (h : TriG P G f args hp res hq) : TriG P G f args hp' res hq' := fun r w vals ha hh => by
  have hh' : HeapOk (cw G r hp w) r hp w := by rw [cw_sim h1]; exact hh.sim h1.symm
  refine (h r w vals ha hh').mono fun e w' ⟨u, r', k1, k2, k3, k4⟩ => ⟨u, r', k1, k2, k3, ?_⟩
  rw [← cw_sim h1]
  exact k4.sim h2
theorem SimE.refl (e : Ent) : SimE e e := ⟨rfl, rfl, rfl, rfl⟩
theorem SimH.cons {i : Nat} {e e' : Ent} {l l' : List (Nat × Ent)} (h : SimE e e') (hl : SimH l l') : SimH ((i, e) :: l) ((i, e') :: l') := fun id => by
  simp only [aget]
  by_cases hi : i = id
  · simp only [hi, if_true]
    exact ⟨fun a ha => (by cases ha; exact ⟨e', rfl, h⟩), fun hn => (by cases hn)⟩
  · simp only [hi, if_false]
    exact hl id
theorem SimH.nil : SimH [] [] := fun id => ⟨fun e he => (by cases he), fun _ => rfl⟩
theorem Tri.sim {P : Program} {f : FuncId} {args : List CV} {hp hp' : List (Nat × Ent)} {res : SV} {hq hq' : List (Nat × Ent)} (h1 : SimH hp hp') (h2 : SimH hq hq') (h : Tri P f args hp res hq) : Tri P f args hp' res hq' := TriG.sim h1 h2 h
/-- The end of a function, where its object may come from more than one place. -/
def EndX (E : Env) (rs : List ResultVar) (res : SV) (hp' : List (Nat × Ent)) (st : St) : Prop := ∃ g, endQ E rs g res hp' st
def retQx (E : Env) (rs : List ResultVar) (res : SV) (hp' : List (Nat × Ent)) : Exit → St → Prop
  | .normal, st => EndX E rs res hp' st
  | .ret, st => EndX E rs res hp' st
  | _, _ => False
theorem endX {E : Env} {rs : List ResultVar} {res : SV} {hp' : List (Nat × Ent)} {st : St} (g : List (Nat × Nat)) (h : endQ E rs g res hp' st) : EndX E rs res hp' st := ⟨g, h⟩
section
variable {P : Program} {E : Env}
theorem tri_ofx (hE : EnvOk P E) {f : FuncId} {fn : Func} {body : Code} (hf : P.funcs[f]? = some fn) (hb : fn.body = some body) (hn : fn.ntmps = E.nt) {rs : List ResultVar} (hrs : fn.results.toList = rs) (hgl : E.gl = []) {args : List CV} {hp : List (Nat × Ent)} {res : SV} {hp' : List (Nat × Ent)} (hlen : args.length ≤ E.nt)
    (hkeys : keysOf hp = E.keys) (h : vc (⟨⟨numb 0 (args.map .c), hp⟩⟩ : VTag P E body (retQx E rs res hp'))) : TriG P E.G f args hp res hp' := by
  subst hrs
  intro r w vals hargs hh
  have hvl := hargs.length
  refine calls_of_wp hf hb ?_
  have hrep : RepE P E (cw E.G r hp w) r ⟨numb 0 (args.map .c), hp⟩ { tmps := vals.toArray ++ Array.replicate (fn.ntmps - vals.toArray.size) undef, defers := [] } w := {
    nt := by simp; omega
    defers := rfl
    fr := fun t x hx => by
      have hx' : (args.map SV.c)[t]? = some x := by
        have := aget_numb (args.map SV.c) 0 t
        simp only [Nat.zero_le, if_true, Nat.sub_zero] at this
        rw [← this]; exact hx
      rw [List.getElem?_map] at hx'
      cases hc : args[t]? with
      | none => rw [hc] at hx'; cases hx'
      | some c =>
        rw [hc] at hx'
        simp only [Option.map_some, Option.some.injEq] at hx'
        subst hx'
        obtain ⟨u, hu, hr⟩ := hargs.get t c hc
        have hlt : t < vals.length := (List.getElem?_eq_some_iff.1 hu).1
        rw [Array.getD_eq_getD_getElem?, Array.getElem?_append_left (by simpa using hlt)]
        simp only [List.getElem?_toArray, hu, Option.getD_some]
        exact hr
    hp := hh
    gl := fun k hk => by rw [hgl] at hk; cases hk
    keep := r.le_refl
    keys := fun id hid => by
      have : aget hp id ≠ none := fun he => hid ((hh.dom id).2 he)
      rw [← hkeys]
      rw [ne_eq, aget_keys, Decidable.not_not] at this
      exact this
    sub := fun f hf => hf }
  refine wp_mono (vc_sound hE body _ _ h (cw E.G r hp w) r _ w hrep) ?_
  rintro e a' w' ⟨st', r', h1, h2⟩
  have key : EndX E fn.results.toList res hp' st' → a'.defers = [] ∧ ∃ v, (results fn a'.tmps).run P w' = .ok v w' ∧ ∃ u r', Ending.returned v = .returned u ∧ r.le r' ∧ res.rel r' u ∧ HeapOk (cw E.G r hp w) r' hp' w' := fun ⟨g, hq⟩ => by
    unfold endQ at hq
    split at hq
    · rename_i cs ob hre
      obtain ⟨hob, hlv, hd, hks, hhp⟩ := hq
      obtain ⟨u, hu, hr⟩ := results_run hE h2 hre hob
      refine ⟨h2.defers, u, hu, u, r'.under g (keysOf hp'), rfl, fun id p hid => ?_, ?_, Canon.heap hd hhp h2.hp⟩
      · have hk := h2.keys id (by show r id ≠ none; rw [hid]; simp)
        have := List.all_eq_true.1 hks id hk
        simp only [Bool.and_eq_true] at this
        have e : rn g id = id := by simpa using this.1
        simp only [Lc.under, this.2, if_true, e]
        exact h2.keep id p hid
      · rcases hlv with hlv | ⟨h3, h4⟩
        · subst hlv; trivial
        · rw [← h3, SV.rel_ren] at hr
          exact SV.rel_agree (under_agree h4) hr
    · exact hq.elim
  cases e <;> first
    | exact key h1
    | exact h1.elim
end
end Go.Proofs.YtdkogjjebbdngaaDoor
