/-
  A walk by reckoning, part 13: calls by contract. It speaks of no program.
-/
import Derived.Test.YtdkogjjebbdngaaDoorSk
namespace Go.Proofs.YtdkogjjebbdngaaDoor
open Go Go.RowKit
set_option linter.unusedVariables false
set_option linter.unusedSimpArgs false

def AV.isBare : AV → Bool
  | .ptr .. => false
  | .sl .. => false
  | _ => true
theorem AV.bare_of {x : AV} (h : x.isBare = true) : x.bare := by cases x <;> first | trivial | simp [AV.isBare] at h
def SObj.isBare : SObj → Bool
  | .cells _ xs => xs.all AV.isBare
  | _ => true
theorem SObj.bare_flat {o : SObj} (h : o.isBare = true) : ∀ x ∈ o.flat, x.bare := by
  cases o with
  | cells s xs => intro x hx; exact AV.bare_of (List.all_eq_true.1 h x hx)
  | dead => intro x hx; cases hx
  | arr α L l =>
    intro y hy
    obtain ⟨x, _, hx⟩ := List.mem_flatMap.1 hy
    exact L.bare x y hx
theorem ObjRel.bare {r r' : Lc} {w : World} {p : Option (Blk × Nat)} {o : SObj} (h : o.isBare = true) (hh : ObjRel r w p o) : ObjRel r' w p o := fun hl =>
  (hh hl).imp id fun ⟨g, c, cs, h1, h2, h3, h4⟩ => ⟨g, c, cs, h1, h2, h3, fun j x hx => by
    obtain ⟨u, hu, hr⟩ := h4 j x hx
    exact ⟨u, hu, AV.bare_rel (SObj.bare_flat h x (List.mem_of_getElem? hx)) r r' hr⟩⟩
def AV.ids : AV → List Nat
  | .ptr id _ _ _ => [id]
  | .sl id _ _ _ => [id]
  | _ => []
def CV.ids : CV → List Nat
  | .one x => x.ids
  | .agg xs => xs.flatMap AV.ids
def SV.ids : SV → List Nat
  | .c x => x.ids
  | .tup xs => xs.flatMap CV.ids
theorem AV.rel_agree {r r' : Lc} {x : AV} {u : Value} (h : ∀ id ∈ x.ids, ∀ p, r id = some p → r' id = some p) (hr : x.rel r u) : x.rel r' u := by
  cases x with
  | ptr id k st j => obtain ⟨g, c, h1, h2⟩ := hr; exact ⟨g, c, h id (by simp [AV.ids]) _ h1, h2⟩
  | sl id k st n =>
    rcases hr with ⟨h1, h2⟩ | ⟨g, c, o, h1, h2⟩
    · exact .inl ⟨h id (by simp [AV.ids]) _ h1, h2⟩
    · exact .inr ⟨g, c, o, h id (by simp [AV.ids]) _ h1, h2⟩
  | _ => exact hr
theorem All2.mono_mem {α β : Type} {R R' : α → β → Prop} : ∀ {x : List α} {y : List β}, (∀ a ∈ x, ∀ b, R a b → R' a b) → All2 R x y → All2 R' x y
  | [], [], _, _ => trivial
  | a :: x, b :: y, h, ⟨h1, h2⟩ => ⟨h a (by simp) b h1, All2.mono_mem (fun a' ha => h a' (by simp [ha])) h2⟩
theorem CV.rel_agree {r r' : Lc} {x : CV} {u : Value} (h : ∀ id ∈ x.ids, ∀ p, r id = some p → r' id = some p) (hr : x.rel r u) : x.rel r' u := by
  cases x with
  | one x => exact AV.rel_agree h hr
  | agg xs =>
    obtain ⟨cs, h1, h2⟩ := hr
    exact ⟨cs, h1, h2.mono_mem fun a ha b hb => AV.rel_agree (fun id hid => h id (List.mem_flatMap.2 ⟨a, ha, hid⟩)) hb⟩
theorem SV.rel_agree {r r' : Lc} {x : SV} {u : Value} (h : ∀ id ∈ x.ids, ∀ p, r id = some p → r' id = some p) (hr : x.rel r u) : x.rel r' u := by
  cases x with
  | c x => exact CV.rel_agree h hr
  | tup xs =>
    obtain ⟨cs, h1, h2⟩ := hr
    exact ⟨cs, h1, h2.mono_mem fun a ha b hb => CV.rel_agree (fun id hid => h id (List.mem_flatMap.2 ⟨a, ha, hid⟩)) hb⟩
/-- The objects of a call, by their places. -/
def numb {β : Type _} : Nat → List β → List (Nat × β)
  | _, [] => []
  | i, e :: l => (i, e) :: numb (i + 1) l
theorem aget_numb {β : Type _} : ∀ (l : List β) (i k : Nat), aget (numb i l) k = if i ≤ k then l[k - i]? else none
  | [], i, k => by simp [numb, aget]
  | e :: l, i, k => by
    simp only [numb, aget]
    by_cases h : i = k
    · subst h; simp
    · rw [if_neg h, aget_numb l (i + 1) k]
      by_cases h2 : i + 1 ≤ k
      · rw [if_pos h2, if_pos (by omega)]
        obtain ⟨j, rfl⟩ : ∃ j, k = i + 1 + j := ⟨k - (i + 1), by omega⟩
        rw [show i + 1 + j - (i + 1) = j by omega, show i + 1 + j - i = j + 1 by omega]; simp
      · rw [if_neg h2, if_neg (by omega)]
/-- What a call may turn. -/
def cw (G : List GFact) (r : Lc) (hp : List (Nat × Ent)) (w : World) : Ctx := ⟨w, fun b => ∃ id e, ∃ (g : Blk) (c : Nat), aget hp id = some e ∧ e.wr = true ∧ e.o.live = true ∧ r id = some (some (g, c)) ∧ g.1 = b, r, G⟩
/-- THE CONTRACT: called with these, over these objects, it comes back with that, over those. -/
def TriG (P : Program) (G : List GFact) (f : FuncId) (args : List CV) (hp : List (Nat × Ent)) (res : SV) (hp' : List (Nat × Ent)) : Prop :=
  ∀ (r : Lc) (w : World) (vals : List Value), All2 (CV.rel r) args vals → HeapOk (cw G r hp w) r hp w →
    Calls P f vals.toArray w fun e w' => ∃ u r', e = .returned u ∧ r.le r' ∧ res.rel r' u ∧ HeapOk (cw G r hp w) r' hp' w'
abbrev Tri (P : Program) (f : FuncId) (args : List CV) (hp : List (Nat × Ent)) (res : SV) (hp' : List (Nat × Ent)) : Prop := TriG P [] f args hp res hp'
theorem TriG.mono {P : Program} {G G' : List GFact} (hs : ∀ f ∈ G, f ∈ G') {f : FuncId} {args : List CV} {hp : List (Nat × Ent)} {res : SV} {hp' : List (Nat × Ent)} (h : TriG P G f args hp res hp') : TriG P G' f args hp res hp' :=
  fun r w vals ha hh => (h r w vals ha ⟨hh.dom, hh.obj, hh.inj, hh.own, hh.os, hh.tape, hh.output, hh.size, hh.same, fun f hf => hh.glob f (hs f hf)⟩).mono
    fun _ _ ⟨u, r', h1, h2, h3, h4⟩ => ⟨u, r', h1, h2, h3, ⟨h4.dom, h4.obj, h4.inj, h4.own, h4.os, h4.tape, h4.output, h4.size, h4.same, hh.glob⟩⟩
theorem Tri.up {P : Program} {G : List GFact} {f : FuncId} {args : List CV} {hp : List (Nat × Ent)} {res : SV} {hp' : List (Nat × Ent)} (h : Tri P f args hp res hp') : TriG P G f args hp res hp' := TriG.mono (fun _ h => by cases h) h
structure Con : Type 1 where
  wr : Bool
  run : List CV → List SObj → Option (SV × List SObj × List SObj × List Prop)
def upTo : Nat → List Nat
  | 0 => []
  | n + 1 => upTo n ++ [n]
def Con.post (es : List Ent) (upd news : List SObj) : List (Nat × Ent) := newAll (fun m => es.length + m) (setAllH (numb 0 es) (List.range es.length) upd) 0 news
def ConFn (P : Program) (G : List GFact) (f : FuncId) (con : Con) : Prop :=
  (∃ fn, P.funcs[f]? = some fn ∧ fn.body.isSome = true ∧ (fn.name == "runtime.NumGoroutine") = false) ∧
  ∀ args es res upd news ob, con.run args (es.map (·.o)) = some (res, upd, news, ob) → AllT ob → (∀ i, i < upd.length → ∃ e, es[i]? = some e ∧ e.wr = true) → TriG P G f args (numb 0 es) res (Con.post es upd news)
/-- A function that the model stands in for: no objects, a value at once. -/
def ConExt (P : Program) (f : FuncId) (con : Con) : Prop :=
  ∀ args os res upd news ob, con.run args os = some (res, upd, news, ob) → os = [] ∧ upd = [] ∧ news = [] ∧
    (AllT ob → ∀ (r : Lc) (w : World) (vals : List Value), All2 (CV.rel r) args vals → ∃ u, (callFunc f vals.toArray).run P w = .ok (.value u) w ∧ res.rel r u)
def ConOkG (P : Program) (G : List GFact) (f : FuncId) (con : Con) : Prop := ConFn P G f con ∨ ConExt P f con
abbrev ConOk (P : Program) (f : FuncId) (con : Con) : Prop := ConOkG P [] f con
theorem ConOkG.mono {P : Program} {G G' : List GFact} (hs : ∀ f ∈ G, f ∈ G') {f : FuncId} {con : Con} (h : ConOkG P G f con) : ConOkG P G' f con :=
  h.imp (fun ⟨h1, h2⟩ => ⟨h1, fun args es res upd news ob a b c => (h2 args es res upd news ob a b c).mono hs⟩) id
theorem ConOk.up {P : Program} {G : List GFact} {f : FuncId} {con : Con} (h : ConOk P f con) : ConOkG P G f con := ConOkG.mono (fun _ h => by cases h) h
def firstIds (l : List Nat) : List Nat := l.foldl (fun acc i => if acc.contains i then acc else acc ++ [i]) []
def idxOf : List Nat → Nat → Nat
  | [], _ => 0
  | i :: l, k => if i = k then 0 else idxOf l k + 1
theorem idxOf_cons (i : Nat) (l : List Nat) (k : Nat) : idxOf (i :: l) k = if i = k then 0 else idxOf l k + 1 := rfl
def canWrite : List Ent → Nat → Bool
  | _, 0 => true
  | e :: l, n + 1 => e.wr && canWrite l n
  | [], _ + 1 => false
def callA (con : Con) (args : List CV) (F : List Nat) : Actn := ⟨F, con.wr, fun es fresh =>
  if (es.all fun e : Ent => e.o.isBare) then match con.run (args.map (CV.ren (idxOf F))) (es.map (·.o)) with
    | some (res, upd, news, ob) =>
      if upd.all SObj.isBare && news.all SObj.isBare && canWrite es upd.length && (upd.isEmpty || con.wr) then
        some ⟨res.ren (fun j => match F[j]? with | some id => id | none => fresh (j - F.length)), upd, news, ob⟩
      else none
    | none => none
  else none⟩
theorem idxOf_get : ∀ (l : List Nat) (k : Nat), k ∈ l → l[idxOf l k]? = some k
  | [], _, h => by simp at h
  | i :: l, k, h => by
    unfold idxOf
    by_cases e : i = k
    · rw [if_pos e, e]; rfl
    · rw [if_neg e]
      have : k ∈ l := by rcases List.mem_cons.1 h with h | h; exact (e h.symm).elim; exact h
      simpa using idxOf_get l k this
theorem getAll_get {hp : List (Nat × Ent)} : ∀ {l : List Nat} {es : List Ent}, getAll hp l = some es → ∀ (j id : Nat), l[j]? = some id → ∃ e, es[j]? = some e ∧ aget hp id = some e
  | [], es, h, j, id, hj => by simp at hj
  | i :: l, es, h, j, id, hj => by
    simp only [getAll] at h
    cases he : aget hp i with
    | none => rw [he] at h; cases h
    | some e =>
      rw [he] at h
      cases hr : getAll hp l with
      | none => simp only [hr] at h; cases h
      | some q =>
        simp only [hr, Option.some.injEq] at h
        subst h
        cases j with
        | zero => simp at hj; subst hj; exact ⟨e, by simp, he⟩
        | succ j =>
          obtain ⟨e', h1, h2⟩ := getAll_get hr j id (by simpa using hj)
          exact ⟨e', by simpa using h1, h2⟩
theorem canWrite_get : ∀ (es : List Ent) (n : Nat), canWrite es n = true → ∀ i, i < n → ∃ e, es[i]? = some e ∧ e.wr = true
  | _, 0, _, i, h => by omega
  | [], n + 1, h, _, _ => by simp [canWrite] at h
  | e :: es, n + 1, h, i, hi => by
    simp only [canWrite, Bool.and_eq_true] at h
    cases i with
    | zero => exact ⟨e, rfl, h.1⟩
    | succ i => simpa using canWrite_get es n h.2 i (by omega)
/-- Where the objects of the call lie. -/
def Lc.via (r : Lc) (F : List Nat) : Lc := fun j => match F[j]? with
  | some id => r id
  | none => none
/-- What is laid behind a call, at one number. -/
theorem aget_setAllH : ∀ (F : List Nat) (upd : List SObj) (hp : List (Nat × Ent)) (id : Nat), F.Nodup → aget (setAllH hp F upd) id = match upd[idxOf F id]? with | some o => if id ∈ F then some ⟨o, true⟩ else aget hp id | none => aget hp id
  | [], upd, hp, id, _ => by
    have : setAllH hp [] upd = hp := by cases upd <;> rfl
    rw [this]
    cases upd[idxOf [] id]? <;> simp
  | i :: F, [], hp, id, _ => by
    rw [setAllH_nil]; simp
  | i :: F, o :: upd, hp, id, hn => by
    rw [setAllH, aget_setAllH F upd _ id (List.nodup_cons.1 hn).2]
    have hni := (List.nodup_cons.1 hn).1
    rw [idxOf_cons]
    by_cases e : i = id
    · subst e
      simp only [if_pos, List.getElem?_cons_zero, List.mem_cons, true_or, if_true]
      rw [aget_same]
      cases hq : upd[idxOf F i]? <;> simp [hq, hni]
    · rw [if_neg e, List.getElem?_cons_succ, aget_other _ _ e]
      cases hq : upd[idxOf F id]? <;> simp [hq, Ne.symm e]
theorem aget_newAll (fresh : Nat → Nat) : ∀ (news : List SObj) (hp : List (Nat × Ent)) (m : Nat), (∀ a b, m ≤ a → a < m + news.length → m ≤ b → b < m + news.length → fresh a = fresh b → a = b) → ∀ id, 
    (∀ a, m ≤ a → a < m + news.length → fresh a = id → aget (newAll fresh hp m news) id = (news[a - m]?).map fun o => ⟨o, true⟩) ∧ ((∀ a, m ≤ a → a < m + news.length → fresh a ≠ id) → aget (newAll fresh hp m news) id = aget hp id)
  | [], hp, m, _, id => by
    refine ⟨fun a h1 h2 => ?_, fun _ => rfl⟩
    simp at h2; omega
  | o :: news, hp, m, hinj, id => by
    have ih := aget_newAll fresh news (aset hp (fresh m) ⟨o, true⟩) (m + 1) (fun a b h1 h2 h3 h4 => hinj a b (by omega) (by simp only [List.length_cons]; omega) (by omega) (by simp only [List.length_cons]; omega)) id
    refine ⟨fun a h1 h2 h3 => ?_, fun h => ?_⟩
    · rw [newAll]
      by_cases e : a = m
      · subst e
        rw [ih.2 fun b hb1 hb2 hb => by
          have := hinj b a (by omega) (by simp only [List.length_cons]; omega) (by omega) (by simp only [List.length_cons]; omega) (hb.trans h3.symm)
          omega]
        rw [← h3, aget_same]; simp
      · simp only [List.length_cons] at h2
        rw [ih.1 a (by omega) (by omega) h3]
        rw [show a - m = (a - (m + 1)) + 1 by omega]; simp
    · rw [newAll, ih.2 fun a h1 h2 => h a (by omega) (by simp only [List.length_cons]; omega), aget_other _ _ (h m (Nat.le_refl _) (by simp))]
end Go.Proofs.YtdkogjjebbdngaaDoor
