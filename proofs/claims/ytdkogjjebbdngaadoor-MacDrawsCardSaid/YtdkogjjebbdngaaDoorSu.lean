/-
  A walk by reckoning, part 22: a function that reads a package's table. It speaks of no program.
-/
import Derived.Test.YtdkogjjebbdngaaDoorSt
namespace Go.Proofs.YtdkogjjebbdngaaDoor
open Go Go.RowKit
set_option linter.unusedVariables false
set_option linter.unusedSimpArgs false
/-- A package's table as one more object: nobody writes it. -/
theorem HeapOk.table {G : List GFact} {r : Lc} {hp : List (Nat × Ent)} {w : World} (hh : HeapOk (cw G r hp w) r hp w) {id g c : Nat} {o : SObj} (hid : aget hp id = none) {f : GFact} (hf : f ∈ G) (hfg : f.g = g) (hob : ∀ r, f.p w → ObjRel r w (some ((g, some 0), c)) o) :
    HeapOk (cw G r hp w) (r.add id (some ((g, some 0), c))) (aset hp id ⟨o, false⟩) w := by
  have hle := Lc.add_le ((hh.dom id).2 hid) (some ((g, some 0), c))
  obtain ⟨hp0, hwb⟩ := hh.glob f hf
  have hp0 : f.p w := hp0
  have hlt := f.lt w hp0
  rw [hfg] at hlt hwb
  exact {
    dom := fun k => by
      rw [aget_aset]
      by_cases e : id = k
      · subst e; simp [Lc.add_same]
      · rw [if_neg e, Lc.add_other _ _ (Ne.symm e)]; exact hh.dom k
    obj := fun k e p he hp' => by
      rw [aget_aset] at he
      by_cases h : id = k
      · subst h
        rw [if_pos rfl] at he
        cases he
        rw [Lc.add_same] at hp'
        cases hp'
        exact hob _ hp0
      · rw [if_neg h] at he
        rw [Lc.add_other _ _ (Ne.symm h)] at hp'
        exact (hh.obj k e p he hp').le hle
    inj := fun i j e1 f1 g1 g2 c1 d1 hi hj li lj ri rj wi hg => by
      rw [aget_aset] at hi hj
      by_cases ei : id = i
      · subst ei
        rw [if_pos rfl] at hi
        cases hi
        cases wi
      · rw [if_neg ei] at hi
        rw [Lc.add_other _ _ (Ne.symm ei)] at ri
        by_cases ej : id = j
        · subst ej
          rw [Lc.add_same] at rj
          cases rj
          rcases (hh.own i e1 g1 c1 hi li wi ri).2 with h | h
          · rw [hg] at h; exact (hwb h).elim
          · rw [hg] at h
            have h : w.heap.size ≤ g := h
            omega
        · rw [if_neg ej] at hj
          rw [Lc.add_other _ _ (Ne.symm ej)] at rj
          exact hh.inj i j e1 f1 g1 g2 c1 d1 hi hj li lj ri rj wi hg
    own := fun k e g' c' he hl hw hr => by
      rw [aget_aset] at he
      by_cases h : id = k
      · subst h
        rw [if_pos rfl] at he
        cases he
        cases hw
      · rw [if_neg h] at he
        rw [Lc.add_other _ _ (Ne.symm h)] at hr
        exact hh.own k e g' c' he hl hw hr
    os := hh.os
    tape := hh.tape
    output := hh.output
    size := hh.size
    same := hh.same
    glob := hh.glob }
section
variable {P : Program} {E : Env}
theorem tri_ofg (hE : EnvOk P E) {f : FuncId} {fn : Func} {body : Code} (hf : P.funcs[f]? = some fn) (hb : fn.body = some body) (hn : fn.ntmps = E.nt) {rs : List ResultVar} (hrs : fn.results.toList = rs) {g c : Nat} {o : SObj} {gf : GFact} (hgl : E.gl = [g]) (hgf : gf ∈ E.G) (hgg : gf.g = g) (hob : ∀ r w, gf.p w → ObjRel r w (some ((g, some 0), c)) o) {args : List CV} {hp : List (Nat × Ent)} {res : SV} {hp' : List (Nat × Ent)} (hid : aget hp (gid g) = none) (hlen : args.length ≤ E.nt)
    (hkeys : keysOf hp = E.keys) (h : vc (⟨⟨numb 0 (args.map .c), aset hp (gid g) ⟨o, false⟩⟩⟩ : VTag P E body (retQx E rs res hp'))) : TriG P E.G f args hp res hp' := by
  subst hrs
  intro r w vals hargs hh
  have hvl := hargs.length
  refine calls_of_wp hf hb ?_
  have hle := Lc.add_le ((hh.dom (gid g)).2 hid) (some ((g, some 0), c))
  have hrep : RepE P E (cw E.G r hp w) (r.add (gid g) (some ((g, some 0), c))) ⟨numb 0 (args.map .c), aset hp (gid g) ⟨o, false⟩⟩ { tmps := vals.toArray ++ Array.replicate (fn.ntmps - vals.toArray.size) undef, defers := [] } w := {
    nt := by simp; omega
    defers := rfl
    fr := fun t x hx => by
      have hx' : (args.map SV.c)[t]? = some x := by
        have := aget_numb (args.map SV.c) 0 t
        simp only [Nat.zero_le, if_true, Nat.sub_zero] at this
        rw [← this]; exact hx
      rw [List.getElem?_map] at hx'
      cases hc : args[t]? with
      | none => rw [hc] at hx'; cases hx'
      | some c =>
        rw [hc] at hx'
        simp only [Option.map_some, Option.some.injEq] at hx'
        subst hx'
        obtain ⟨u, hu, hr⟩ := hargs.get t c hc
        have hlt : t < vals.length := (List.getElem?_eq_some_iff.1 hu).1
        rw [Array.getD_eq_getD_getElem?, Array.getElem?_append_left (by simpa using hlt)]
        simp only [List.getElem?_toArray, hu, Option.getD_some]
        exact SV.rel_le hle hr
    hp := hh.table hid hgf hgg (fun r hp => hob r w hp)
    gl := fun k hk => by
      rw [hgl] at hk
      obtain rfl : k = g := by simpa using hk
      exact ⟨some 0, c, Lc.add_same _ _ _, rfl⟩
    keep := hle
    keys := fun id hid => by
      have : aget hp id ≠ none := fun he => hid ((hh.dom id).2 he)
      rw [← hkeys]
      rw [ne_eq, aget_keys, Decidable.not_not] at this
      exact this
    sub := fun f hf => hf }
  refine wp_mono (vc_sound hE body _ _ h (cw E.G r hp w) _ _ w hrep) ?_
  rintro e a' w' ⟨st', r', h1, h2⟩
  have key : EndX E fn.results.toList res hp' st' → a'.defers = [] ∧ ∃ v, (results fn a'.tmps).run P w' = .ok v w' ∧ ∃ u r', Ending.returned v = .returned u ∧ r.le r' ∧ res.rel r' u ∧ HeapOk (cw E.G r hp w) r' hp' w' := fun ⟨g, hq⟩ => by
    unfold endQ at hq
    split at hq
    · rename_i cs ob hre
      obtain ⟨hob, hlv, hd, hks, hhp⟩ := hq
      obtain ⟨u, hu, hr⟩ := results_run hE h2 hre hob
      refine ⟨h2.defers, u, hu, u, r'.under g (keysOf hp'), rfl, fun id p hid => ?_, ?_, Canon.heap hd hhp h2.hp⟩
      · have hk := h2.keys id (by show r id ≠ none; rw [hid]; simp)
        have := List.all_eq_true.1 hks id hk
        simp only [Bool.and_eq_true] at this
        have e : rn g id = id := by simpa using this.1
        simp only [Lc.under, this.2, if_true, e]
        exact h2.keep id p hid
      · rcases hlv with hlv | ⟨h3, h4⟩
        · subst hlv; trivial
        · rw [← h3, SV.rel_ren] at hr
          exact SV.rel_agree (under_agree h4) hr
    · exact hq.elim
  cases e <;> first
    | exact key h1
    | exact h1.elim
end
end Go.Proofs.YtdkogjjebbdngaaDoor
