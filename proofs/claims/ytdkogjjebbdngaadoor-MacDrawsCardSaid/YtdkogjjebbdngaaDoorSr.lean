/-
  A walk by reckoning, part 18: a region, in whatever order it runs. It speaks of no program.
-/
import Derived.Test.YtdkogjjebbdngaaDoorSq
namespace Go.Proofs.YtdkogjjebbdngaaDoor
open Go Go.RowKit
set_option linter.unusedVariables false
set_option linter.unusedSimpArgs false

structure Log where
  i : Nat
  foot : List Nat
  wr : Bool
def runO (E : Env) (wa : List (Nat × Bool)) (ops : Array Oper) (c : Nat) : List Nat → St → Option (St × List Prop × List Log)
  | [], st => some (st, [], [])
  | i :: l, st => match ops[i]? with
    | none => none
    | some o => match stepO E wa ops c i o st with
      | none => none
      | some q => match runO E wa ops c l q.st with
        | none => none
        | some (st', ob, lg) => some (st', q.ob ++ ob, ⟨i, q.foot, q.wr⟩ :: lg)
def edgesOf (ops : Array Oper) (i : Nat) : List Nat := match ops[i]? with
  | some o => (o.after.toList.filter fun e => Region.binds .any e).map (·.on)
  | none => []
/-- Is j ahead of i, by the edges? -/
def reach (ops : Array Oper) : Nat → Nat → Nat → Bool
  | 0, _, _ => false
  | n + 1, j, i => (edgesOf ops i).any fun k => Nat.beq k j || (Nat.blt j k && reach ops n j k)
def pairOk (ops : Array Oper) (c : Nat) (a b : Log) : Bool :=
  match ops[a.i]?, ops[b.i]? with
  | some oa, some ob => (Oper.apart ops oa ob && disj c a.i b.i a.foot b.foot (a.wr || b.wr)) || reach ops 12 a.i b.i
  | _, _ => false
def pairsOk (ops : Array Oper) (c : Nat) : List Log → Bool
  | [] => true
  | a :: l => l.all (pairOk ops c a) && pairsOk ops c l
def edgesDown (ops : Array Oper) : Bool := (List.range ops.size).all fun i => (edgesOf ops i).all fun k => Nat.blt k i
section
variable {P : Program} {E : Env} {C : Ctx} {wa : List (Nat × Bool)} {ops : Array Oper} {c : Nat}
theorem runO_cons {i : Nat} {l : List Nat} {st st' : St} {ob : List Prop} {lg : List Log} (h : runO E wa ops c (i :: l) st = some (st', ob, lg)) : ∃ o q ob' lg', ops[i]? = some o ∧ stepO E wa ops c i o st = some q ∧ runO E wa ops c l q.st = some (st', ob', lg') ∧ ob = q.ob ++ ob' ∧ lg = ⟨i, q.foot, q.wr⟩ :: lg' := by
  simp only [runO] at h
  cases ho : ops[i]? with
  | none => rw [ho] at h; cases h
  | some o =>
    rw [ho] at h
    simp only at h
    cases hq : stepO E wa ops c i o st with
    | none => rw [hq] at h; cases h
    | some q =>
      rw [hq] at h
      simp only at h
      cases hr : runO E wa ops c l q.st with
      | none => rw [hr] at h; cases h
      | some p =>
        obtain ⟨s, ob', lg'⟩ := p
        simp only [hr, Option.some.injEq, Prod.mk.injEq] at h
        obtain ⟨rfl, rfl, rfl⟩ := h
        exact ⟨o, q, ob', lg', rfl, hq, hr, rfl, rfl⟩
theorem runO_mk {i : Nat} {l : List Nat} {st st' : St} {ob : List Prop} {lg : List Log} {o : Oper} {q : Out} (ho : ops[i]? = some o) (hq : stepO E wa ops c i o st = some q) (hr : runO E wa ops c l q.st = some (st', ob, lg)) :
    runO E wa ops c (i :: l) st = some (st', q.ob ++ ob, ⟨i, q.foot, q.wr⟩ :: lg) := by
  simp only [runO, ho, hq, hr]
/-- What stands later, and waits for none of the others, may come first. -/
theorem bubble : ∀ (l1 : List Nat) (i : Nat) (l2 : List Nat) (st st' : St) (ob : List Prop) (lg : List Log), runO E wa ops c (l1 ++ i :: l2) st = some (st', ob, lg) → pairsOk ops c lg = true → (∀ j ∈ l1, j ≠ i ∧ reach ops 12 j i = false) →
    ∃ o q ob' lgA lgB, ops[i]? = some o ∧ stepO E wa ops c i o st = some q ∧ runO E wa ops c (l1 ++ l2) q.st = some (st', ob', lgA ++ lgB) ∧ lg = lgA ++ ⟨i, q.foot, q.wr⟩ :: lgB ∧ (AllT ob → AllT q.ob ∧ AllT ob')
  | [], i, l2, st, st', ob, lg, h, _, _ => by
    obtain ⟨o, q, ob', lg', ho, hq, hr, rfl, rfl⟩ := runO_cons h
    exact ⟨o, q, ob', [], lg', ho, hq, hr, rfl, fun h => AllT.append.1 h⟩
  | j :: l1, i, l2, st, st', ob, lg, h, hp, hn => by
    rw [List.cons_append] at h
    obtain ⟨oj, qj, ob1, lg1, hoj, hqj, hrj, rfl, rfl⟩ := runO_cons h
    simp only [pairsOk, Bool.and_eq_true] at hp
    obtain ⟨hp1, hp2⟩ := hp
    obtain ⟨oi, qi, ob2, lgA, lgB, hoi, hqi, hri, rfl, hob⟩ := bubble l1 i l2 qj.st st' ob1 lg1 hrj hp2 fun k hk => hn k (by simp [hk])
    obtain ⟨hne, hnr⟩ := hn j (by simp)
    have hpair := List.all_eq_true.1 hp1 ⟨i, qi.foot, qi.wr⟩ (by simp)
    simp only [pairOk, hoj, hoi, hnr, Bool.or_false, Bool.and_eq_true] at hpair
    obtain ⟨qi', qj', h1, h2, h3, h4, h5, h6, h7, h8, h9⟩ := commute (Ne.symm hne) hqj hqi hpair.1 hpair.2
    refine ⟨oi, qi', qj'.ob ++ ob2, ⟨j, qj'.foot, qj'.wr⟩ :: lgA, lgB, hoi, h1, ?_, ?_, fun h => ?_⟩
    · exact runO_mk hoj h2 (by rw [h3]; exact hri)
    · rw [h6, h7, h8, h9]; rfl
    · obtain ⟨a1, a2⟩ := AllT.append.1 h
      obtain ⟨a3, a4⟩ := hob a2
      exact ⟨by rw [h4]; exact a3, AllT.append.2 ⟨by rw [h5]; exact a1, a4⟩⟩
theorem pairsOk_drop : ∀ (lgA lgB : List Log) (x : Log), pairsOk ops c (lgA ++ x :: lgB) = true → pairsOk ops c (lgA ++ lgB) = true
  | [], lgB, x, h => by
    simp only [List.nil_append, pairsOk, Bool.and_eq_true] at h ⊢
    exact h.2
  | a :: lgA, lgB, x, h => by
    simp only [List.cons_append, pairsOk, Bool.and_eq_true] at h ⊢
    refine ⟨List.all_eq_true.2 fun y hy => List.all_eq_true.1 h.1 y ?_, pairsOk_drop lgA lgB x h.2⟩
    rcases List.mem_append.1 hy with hy | hy
    · exact List.mem_append_left _ hy
    · exact List.mem_append_right _ (List.mem_cons_of_mem _ hy)
theorem edgesOf_mem {i : Nat} {o : Oper} (ho : ops[i]? = some o) {e : Edge} (he : e ∈ o.after) (hb : Region.binds .any e = true) : e.on ∈ edgesOf ops i := by
  simp only [edgesOf, ho, List.mem_map, List.mem_filter]
  exact ⟨e, ⟨Array.mem_toList_iff.2 he, hb⟩, rfl⟩
theorem edgesOf_spec {i k : Nat} (h : k ∈ edgesOf ops i) : ∃ o e, ops[i]? = some o ∧ e ∈ o.after ∧ Region.binds .any e = true ∧ e.on = k := by
  unfold edgesOf at h
  cases ho : ops[i]? with
  | none => rw [ho] at h; cases h
  | some o =>
    rw [ho] at h
    simp only [List.mem_map, List.mem_filter] at h
    obtain ⟨e, ⟨h1, h2⟩, h3⟩ := h
    exact ⟨o, e, rfl, Array.mem_toList_iff.1 h1, h2, h3⟩
/-- What is listed has all that it waits for listed. -/
def Closed (ops : Array Oper) (listed : Array Bool) : Prop := ∀ i, listed.getD i false = true → ∀ k ∈ edgesOf ops i, listed.getD k false = true
theorem reach_listed {listed : Array Bool} (hc : Closed ops listed) : ∀ (n j i : Nat), reach ops n j i = true → (∀ k ∈ edgesOf ops i, listed.getD k false = true) → listed.getD j false = true
  | 0, _, _, h, _ => by simp [reach] at h
  | n + 1, j, i, h, hl => by
    simp only [reach, List.any_eq_true, Bool.or_eq_true, Bool.and_eq_true] at h
    obtain ⟨k, hk, h | ⟨_, h⟩⟩ := h
    · have : k = j := by simpa using h
      subst this; exact hl k hk
    · exact reach_listed hc n j k h (hc k (hl k hk))
theorem mem_ready' {listed : Array Bool} {i : Nat} (h : i ∈ Region.ready .any ops listed) : i < ops.size ∧ listed.getD i true = false ∧ ∀ k ∈ edgesOf ops i, listed.getD k false = true := by
  simp only [Region.ready, List.mem_filter, List.mem_range, Bool.and_eq_true, Bool.not_eq_true'] at h
  obtain ⟨h1, h2, h3⟩ := h
  refine ⟨h1, h2, fun k hk => ?_⟩
  obtain ⟨o, e, ho, he, hb, rfl⟩ := edgesOf_spec hk
  rw [ho] at h3
  simp only [Option.map_some, Option.getD_some, Array.all_eq_true_iff_forall_mem, Bool.or_eq_true, Bool.not_eq_true'] at h3
  rcases h3 e he with h | h
  · rw [hb] at h; cases h
  · exact h
theorem ready_of {listed : Array Bool} {i : Nat} (h1 : i < ops.size) (h2 : listed.getD i true = false) (h3 : ∀ k ∈ edgesOf ops i, listed.getD k false = true) : i ∈ Region.ready .any ops listed := by
  simp only [Region.ready, List.mem_filter, List.mem_range, Bool.and_eq_true, Bool.not_eq_true']
  refine ⟨h1, h2, ?_⟩
  have ho : ops[i]? = some ops[i] := Array.getElem?_eq_getElem h1
  rw [ho]
  simp only [Option.map_some, Option.getD_some, Array.all_eq_true_iff_forall_mem, Bool.or_eq_true, Bool.not_eq_true']
  intro e he
  cases hb : Region.binds .any e with
  | false => exact .inl rfl
  | true => exact .inr (h3 _ (edgesOf_mem ho he hb))
def left (ops : Array Oper) (listed : Array Bool) : List Nat := (List.range ops.size).filter fun i => !listed.getD i true
theorem left_set {listed : Array Bool} (hs : listed.size = ops.size) {i : Nat} {l1 l2 : List Nat} (h : left ops listed = l1 ++ i :: l2) : left ops (listed.setIfInBounds i true) = l1 ++ l2 := by
  have hnd : (left ops listed).Nodup := List.nodup_range.filter _
  have e : left ops (listed.setIfInBounds i true) = (left ops listed).filter fun k => decide (k ≠ i) := by
    unfold left
    rw [List.filter_filter]
    apply List.filter_congr
    intro k hk
    have hk' : k < listed.size := by rw [hs]; simpa using hk
    by_cases e : i = k
    · subst e; simp [hk']
    · have : k ≠ i := Ne.symm e
      simp [this, Array.getElem?_setIfInBounds_ne e, Array.getD_eq_getD_getElem?]
  rw [e, h]
  rw [h] at hnd
  have h1 := List.nodup_append.1 hnd
  obtain ⟨_, h2, h3⟩ := h1
  have h4 := (List.nodup_cons.1 h2).1
  rw [List.filter_append, List.filter_cons]
  simp only [ne_eq, not_true_eq_false, decide_false, Bool.false_eq_true, if_false]
  rw [List.filter_eq_self.2 (fun k hk => by simp; exact h3 k hk i (by simp)), List.filter_eq_self.2 (fun k hk => by simp; exact fun e => h4 (e ▸ hk))]
theorem drawn (hE : EnvOk P E) (hdown : edgesDown ops = true) {Q : Exit → Act → World → Prop} {st' : St} (hQ : ∀ r a w, RepE P E C r st' a w → Q .normal a w) : ∀ (n : Nat) (listed : Array Bool) (st : St) (a : Act) (w : World) (r : Lc) (ob : List Prop) (lg : List Log),
    (left ops listed).length = n → listed.size = ops.size → Closed ops listed → runO E wa ops c (left ops listed) st = some (st', ob, lg) → pairsOk ops c lg = true → AllT ob → RepE P E C r st a w → wpAny P .any ops Q n listed a w
  | 0, listed, st, a, w, r, ob, lg, hl, hs, hc, hr, hp, hob, hrep => by
    have h0 : left ops listed = [] := List.eq_nil_of_length_eq_zero hl
    rw [h0] at hr
    simp only [runO, Option.some.injEq, Prod.mk.injEq] at hr
    obtain ⟨rfl, _, _⟩ := hr
    refine ⟨?_, hQ r a w hrep⟩
    rw [List.eq_nil_iff_forall_not_mem]
    intro i hi
    obtain ⟨h1, h2, _⟩ := mem_ready' hi
    have : i ∈ left ops listed := by simp only [left, List.mem_filter, List.mem_range]; exact ⟨h1, by rw [h2]; rfl⟩
    rw [h0] at this
    cases this
  | n + 1, listed, st, a, w, r, ob, lg, hl, hs, hc, hr, hp, hob, hrep => by
    have getD_eq : ∀ k, k < ops.size → listed.getD k true = listed.getD k false := fun k hk => by
      have : k < listed.size := by omega
      simp [this]
    refine ⟨fun hnil => ?_, fun i hi => ?_⟩
    · -- something is ready
      exfalso
      cases hq : left ops listed with
      | nil => rw [hq] at hl; simp at hl
      | cons i l =>
        have hmem : i ∈ left ops listed := by rw [hq]; simp
        have hmem' := hmem
        simp only [left, List.mem_filter, List.mem_range, Bool.not_eq_true'] at hmem'
        have hsorted : (left ops listed).Pairwise (· < ·) := List.pairwise_lt_range.filter _
        rw [hq] at hsorted
        have hfirst := (List.pairwise_cons.1 hsorted).1
        have hready : i ∈ Region.ready .any ops listed := ready_of hmem'.1 hmem'.2 fun k hk => by
          have hki : k < i := by
            have := List.all_eq_true.1 (List.all_eq_true.1 hdown i (by simpa using hmem'.1)) k hk
            simpa using this
          rw [← getD_eq k (by omega)]
          cases hkl : listed.getD k true with
          | true => rfl
          | false =>
            have hkm : k ∈ left ops listed := by simp only [left, List.mem_filter, List.mem_range]; exact ⟨by omega, by rw [hkl]; rfl⟩
            rw [hq] at hkm
            rcases List.mem_cons.1 hkm with e | hkm
            · omega
            · have := hfirst k hkm; omega
        rw [hnil] at hready
        cases hready
    · obtain ⟨h1, h2, h3⟩ := mem_ready' hi
      have hmem : i ∈ left ops listed := by simp only [left, List.mem_filter, List.mem_range]; exact ⟨h1, by rw [h2]; rfl⟩
      obtain ⟨l1, l2, hsplit⟩ := List.append_of_mem hmem
      rw [hsplit] at hr
      have hnd : (left ops listed).Nodup := List.nodup_range.filter _
      obtain ⟨o, q, ob', lgA, lgB, ho, hq, hr', rfl, hob'⟩ := bubble l1 i l2 st st' ob lg hr hp fun j hj => by
        refine ⟨fun e => ?_, ?_⟩
        · subst e
          rw [hsplit] at hnd
          exact (List.nodup_append.1 hnd).2.2 j hj j (by simp) rfl
        · cases hre : reach ops 12 j i with
          | false => rfl
          | true =>
            have h4 := reach_listed hc 12 j i hre h3
            have hjm : j ∈ left ops listed := by rw [hsplit]; simp [hj]
            simp only [left, List.mem_filter, List.mem_range, Bool.not_eq_true'] at hjm
            rw [getD_eq j hjm.1, h4] at hjm
            cases hjm.2
      obtain ⟨ob1, ob2⟩ := hob' hob
      have hleft := left_set hs hsplit
      unfold wpOp
      simp only [ho]
      refine stepO_ok hE hrep hq ob1 fun r' a' w' hle hrep' => ?_
      refine drawn hE hdown hQ n _ q.st a' w' r' ob' (lgA ++ lgB) ?_ (by simpa using hs) ?_ (by rw [hleft]; exact hr') (pairsOk_drop lgA lgB _ hp) ob2 hrep'
      · rw [hleft]
        rw [hsplit] at hl
        simp only [List.length_append, List.length_cons] at hl ⊢
        omega
      · intro k hk m hm
        have hget : ∀ x, (listed.setIfInBounds i true).getD x false = if i = x ∧ x < listed.size then true else listed.getD x false := fun x => by
          by_cases e : i = x
          · subst e
            by_cases hlt : i < listed.size <;> simp [hlt]
          · simp [e, Array.getElem?_setIfInBounds_ne e, Array.getD_eq_getD_getElem?]
        rw [hget] at hk ⊢
        by_cases e : i = k ∧ k < listed.size
        · obtain ⟨rfl, _⟩ := e
          split
          · rfl
          · exact h3 m hm
        · rw [if_neg e] at hk
          split
          · rfl
          · exact hc k hk m hm
theorem left_none : left ops (Array.replicate ops.size false) = List.range ops.size := by
  unfold left
  rw [List.filter_eq_self]
  intro i hi
  have : i < ops.size := by simpa using hi
  simp [this]
theorem wp_draw (hE : EnvOk P E) {Q : Exit → Act → World → Prop} {st st' : St} {a : Act} {w : World} {r : Lc} {ob : List Prop} {lg : List Log} {id : Nat} (hr : runO E wa ops c (List.range ops.size) st = some (st', ob, lg)) (hck : (edgesDown ops && pairsOk ops c lg) = true) (hob : AllT ob) (hrep : RepE P E C r st a w)
    (hQ : ∀ r a w, RepE P E C r st' a w → Q .normal a w) : (Code.region id ops true).wp P Q a w := by
  simp only [Bool.and_eq_true] at hck
  refine wp_region_any hE.mix ?_
  refine drawn (C := C) (wa := wa) (c := c) hE hck.1 hQ ops.size (Array.replicate ops.size false) st a _ r ob lg ?_ (by simp) ?_ (by rw [left_none]; exact hr) hck.2 hob ?_
  · rw [left_none]; simp
  · intro i hi
    have : (Array.replicate ops.size false).getD i false = false := by
      rw [Array.getD_eq_getD_getElem?, Array.getElem?_replicate]
      split <;> rfl
    rw [this] at hi
    cases hi
  · exact ⟨hrep.nt, hrep.defers, hrep.fr, hrep.hp.move rfl rfl rfl (Nat.le_refl _) (fun _ _ => rfl), hrep.gl, hrep.keep, hrep.keys, hrep.sub⟩
theorem ops_run (hE : EnvOk P E) {Q : Exit → Act → World → Prop} {st' : St} (hQ : ∀ r a w, RepE P E C r st' a w → Q .normal a w) : ∀ (l : List Nat) (st : St) (a : Act) (w : World) (r : Lc) (ob : List Prop) (lg : List Log), runO E wa ops c l st = some (st', ob, lg) → AllT ob → RepE P E C r st a w → wpOps P ops Q l a w
  | [], st, a, w, r, ob, lg, h, _, hrep => by
    simp only [runO, Option.some.injEq, Prod.mk.injEq] at h
    obtain ⟨rfl, _, _⟩ := h
    exact hQ r a w hrep
  | i :: l, st, a, w, r, ob, lg, h, hob, hrep => by
    obtain ⟨o, q, ob', lg', ho, hq, hr, rfl, rfl⟩ := runO_cons h
    obtain ⟨o1, o2⟩ := AllT.append.1 hob
    unfold wpOps
    simp only [ho]
    exact stepO_ok hE hrep hq o1 fun r' a' w' hle hrep' => ops_run hE hQ l q.st a' w' r' ob' lg' hr o2 hrep'
theorem wp_plain (hE : EnvOk P E) {Q : Exit → Act → World → Prop} {st st' : St} {a : Act} {w : World} {r : Lc} {ob : List Prop} {lg : List Log} {id : Nat} (hr : runO E wa ops c (List.range ops.size) st = some (st', ob, lg)) (hob : AllT ob) (hrep : RepE P E C r st a w)
    (hQ : ∀ r a w, RepE P E C r st' a w → Q .normal a w) : (Code.region id ops false).wp P Q a w :=
  wp_region (ops_run hE hQ _ st a w r ob lg hr hob hrep)
end
end Go.Proofs.YtdkogjjebbdngaaDoor
