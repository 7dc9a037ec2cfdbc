/-
  A walk by reckoning, part 19: code, loops, functions. It speaks of no program.
-/
import Derived.Test.YtdkogjjebbdngaaDoorSr
namespace Go.Proofs.YtdkogjjebbdngaaDoor
open Go Go.RowKit
set_option linter.unusedVariables false
set_option linter.unusedSimpArgs false

/-- The walk stands here: operation i of a region. -/
def Stuck (i : Nat) (o : Op) : Prop := False
inductive Gd where
  | yes
  | no
  | ask (b want : Bool)
  | bad
def guardS (ops : Array Oper) (g : Option (Nat × Bool)) (fr : List (Nat × SV)) : Gd :=
  match g with
  | none => .yes
  | some (j, want) => match ops[j]? with
    | some o => match o.dst with
      | some t => match aget fr t with
        | some (.c (.one (.bo x))) => .ask x want
        | some (.c (.one (.val (.tuple _)))) => .no
        | _ => .bad
      | none => .bad
    | none => .bad
/-- An operation that runs. -/
def stepT (E : Env) (c i : Nat) (o : Oper) (st : St) : Option Out :=
  if dstOk E.nt o.dst then match act E.T E.Ga (evalS E.gl st.fr) o.op with
    | none => none
    | some A => match getAll st.hp A.foot with
      | none => none
      | some es => match A.run es (fun m => c + 8 * i + m) with
        | none => none
        | some R => if Nat.ble R.news.length 8 && freshAll st.hp (c + 8 * i) R.news.length && (A.wr || R.upd.isEmpty) then
            some ⟨⟨putS st.fr o.dst R.v, newAll (fun m => c + 8 * i + m) (setAllH st.hp A.foot R.upd) 0 R.news⟩, R.obl, A.foot, A.wr⟩
          else none
  else none
def runK (E : Env) (ops : Array Oper) (c : Nat) (F : St → List Log → Prop) : List Nat → St → List Log → Prop
  | [], st, lg => F st lg
  | i :: l, st, lg => match ops[i]? with
    | none => False
    | some o => match guardS ops o.guard st.fr with
      | .bad => Stuck i o.op
      | .no => dstOk E.nt o.dst = true ∧ runK E ops c F l ⟨putS st.fr o.dst (.c (.one (.val undef))), st.hp⟩ (lg ++ [⟨i, [], false⟩])
      | .yes => match stepT E c i o st with
        | none => Stuck i o.op
        | some q => AllT q.ob ∧ runK E ops c F l q.st (lg ++ [⟨i, q.foot, q.wr⟩])
      | .ask b want => ((b == want) = true → match stepT E c i o st with
          | none => Stuck i o.op
          | some q => AllT q.ob ∧ runK E ops c F l q.st (lg ++ [⟨i, q.foot, q.wr⟩])) ∧
        ((b == want) = false → dstOk E.nt o.dst = true ∧ runK E ops c F l ⟨putS st.fr o.dst (.c (.one (.val undef))), st.hp⟩ (lg ++ [⟨i, [], false⟩]))
theorem stepO_of_T {E : Env} {wa : List (Nat × Bool)} {ops : Array Oper} {c i : Nat} {o : Oper} {st : St} {q : Out} {ob : List Prop} (h : stepT E c i o st = some q) (hw : wantS wa ops o.guard i st.fr = some (true, ob)) :
    stepO E wa ops c i o st = some ⟨q.st, q.ob ++ ob, q.foot, q.wr⟩ := by
  unfold stepT at h
  unfold stepO
  split at h
  case isFalse => cases h
  rename_i hd
  rw [if_pos hd, hw]
  simp only
  cases hA : act E.T E.Ga (evalS E.gl st.fr) o.op with
  | none => rw [hA] at h; cases h
  | some A =>
    rw [hA] at h
    simp only at h ⊢
    cases he : getAll st.hp A.foot with
    | none => rw [he] at h; cases h
    | some es =>
      rw [he] at h
      simp only at h ⊢
      cases hR : A.run es (fun m => c + 8 * i + m) with
      | none => rw [hR] at h; cases h
      | some R =>
        rw [hR] at h
        simp only at h ⊢
        split at h
        · rename_i hc
          injection h with h
          subst h
          rw [if_pos hc]
        · cases h
theorem stepO_no {E : Env} {wa : List (Nat × Bool)} {ops : Array Oper} {c i : Nat} {o : Oper} {st : St} {ob : List Prop} (hd : dstOk E.nt o.dst = true) (hw : wantS wa ops o.guard i st.fr = some (false, ob)) :
    stepO E wa ops c i o st = some ⟨⟨putS st.fr o.dst (.c (.one (.val undef))), st.hp⟩, ob, [], false⟩ := by
  unfold stepO
  rw [if_pos hd, hw]
/-- What has been reckoned is a run. -/
theorem runK_run {E : Env} {ops : Array Oper} {c : Nat} {F : St → List Log → Prop} : ∀ (l : List Nat) (st : St) (lg : List Log), l.Nodup → runK E ops c F l st lg →
    ∃ (wa : List (Nat × Bool)) (st' : St) (ob : List Prop) (lg' : List Log), (∀ p ∈ wa, p.1 ∈ l) ∧ (∀ wa', (∀ i ∈ l, aget wa' i = aget wa i) → runO E wa' ops c l st = some (st', ob, lg')) ∧ AllT ob ∧ F st' (lg ++ lg')
  | [], st, lg, _, h => ⟨[], st, [], [], by simp, fun _ _ => rfl, trivial, by simpa [runK] using h⟩
  | i :: l, st, lg, hn, h => by
    obtain ⟨hni, hnl⟩ := List.nodup_cons.1 hn
    simp only [runK] at h
    cases ho : ops[i]? with
    | none => rw [ho] at h; exact h.elim
    | some o =>
      rw [ho] at h
      simp only at h
      have absent : ∀ {wa : List (Nat × Bool)}, (∀ p ∈ wa, p.1 ∈ l) → aget wa i = none := fun {wa} hwa => by
        induction wa with
        | nil => rfl
        | cons p wa ih =>
          obtain ⟨k, y⟩ := p
          have : k ≠ i := fun e => hni (by rw [← e]; exact hwa (k, y) (by simp))
          rw [aget, if_neg this]
          exact ih fun p hp => hwa p (by simp [hp])
      -- a step that runs, under decisions that say nothing of it or that it runs
      have run_yes : ∀ (d : Option Bool), (∀ wa', aget wa' i = d → ∃ ob, wantS wa' ops o.guard i st.fr = some (true, ob) ∧ AllT ob ∧ ∀ wa'', aget wa'' i = d → wantS wa'' ops o.guard i st.fr = some (true, ob)) →
          (match stepT E c i o st with | none => Stuck i o.op | some q => AllT q.ob ∧ runK E ops c F l q.st (lg ++ [⟨i, q.foot, q.wr⟩])) →
          ∃ (wa : List (Nat × Bool)) (st' : St) (ob : List Prop) (lg' : List Log), (∀ p ∈ wa, p.1 ∈ i :: l) ∧ (∀ wa', (∀ k ∈ i :: l, aget wa' k = aget wa k) → runO E wa' ops c (i :: l) st = some (st', ob, lg')) ∧ AllT ob ∧ F st' (lg ++ lg') := fun d hd hk => by
        cases hq : stepT E c i o st with
        | none => rw [hq] at hk; exact hk.elim
        | some q =>
          rw [hq] at hk
          obtain ⟨hob, hk⟩ := hk
          obtain ⟨wa, st', ob, lg', h1, h2, h3, h4⟩ := runK_run l q.st _ hnl hk
          let wa2 : List (Nat × Bool) := match d with
            | some y => (i, y) :: wa
            | none => wa
          have hgi : aget wa2 i = d := by
            cases d with
            | none => exact absent h1
            | some y => simp [wa2, aget]
          have hgl : ∀ k ∈ l, aget wa2 k = aget wa k := fun k hk => by
            cases d with
            | none => rfl
            | some y =>
              have : i ≠ k := fun e => hni (e ▸ hk)
              simp [wa2, aget, this]
          obtain ⟨obw, hw1, hw2, hw3⟩ := hd wa2 hgi
          refine ⟨wa2, st', (q.ob ++ obw) ++ ob, ⟨i, q.foot, q.wr⟩ :: lg', ?_, fun wa' hwa' => ?_, AllT.append.2 ⟨AllT.append.2 ⟨hob, hw2⟩, h3⟩, by simpa using h4⟩
          · cases d with
            | none => exact fun p hp => List.mem_cons_of_mem _ (h1 p hp)
            | some y =>
              intro p hp
              rcases List.mem_cons.1 hp with rfl | hp
              · simp
              · exact List.mem_cons_of_mem _ (h1 p hp)
          · have hs := stepO_of_T (wa := wa') (ops := ops) hq (hw3 wa' (by rw [hwa' i (by simp), hgi]))
            exact runO_mk ho hs (h2 wa' fun k hk => by rw [hwa' k (by simp [hk]), hgl k hk])
      have run_no : ∀ (d : Option Bool), (∀ wa', aget wa' i = d → ∃ ob, wantS wa' ops o.guard i st.fr = some (false, ob) ∧ AllT ob ∧ ∀ wa'', aget wa'' i = d → wantS wa'' ops o.guard i st.fr = some (false, ob)) →
          (dstOk E.nt o.dst = true ∧ runK E ops c F l ⟨putS st.fr o.dst (.c (.one (.val undef))), st.hp⟩ (lg ++ [⟨i, [], false⟩])) →
          ∃ (wa : List (Nat × Bool)) (st' : St) (ob : List Prop) (lg' : List Log), (∀ p ∈ wa, p.1 ∈ i :: l) ∧ (∀ wa', (∀ k ∈ i :: l, aget wa' k = aget wa k) → runO E wa' ops c (i :: l) st = some (st', ob, lg')) ∧ AllT ob ∧ F st' (lg ++ lg') := fun d hd hk => by
        obtain ⟨hdst, hk⟩ := hk
        obtain ⟨wa, st', ob, lg', h1, h2, h3, h4⟩ := runK_run l _ _ hnl hk
        let wa2 : List (Nat × Bool) := match d with
          | some y => (i, y) :: wa
          | none => wa
        have hgi : aget wa2 i = d := by
          cases d with
          | none => exact absent h1
          | some y => simp [wa2, aget]
        have hgl : ∀ k ∈ l, aget wa2 k = aget wa k := fun k hk => by
          cases d with
          | none => rfl
          | some y =>
            have : i ≠ k := fun e => hni (e ▸ hk)
            simp [wa2, aget, this]
        obtain ⟨obw, hw1, hw2, hw3⟩ := hd wa2 hgi
        refine ⟨wa2, st', obw ++ ob, ⟨i, [], false⟩ :: lg', ?_, fun wa' hwa' => ?_, AllT.append.2 ⟨hw2, h3⟩, by simpa using h4⟩
        · cases d with
          | none => exact fun p hp => List.mem_cons_of_mem _ (h1 p hp)
          | some y =>
            intro p hp
            rcases List.mem_cons.1 hp with rfl | hp
            · simp
            · exact List.mem_cons_of_mem _ (h1 p hp)
        · have hs := stepO_no (E := E) (c := c) (wa := wa') (ops := ops) (st := st) hdst (hw3 wa' (by rw [hwa' i (by simp), hgi]))
          exact runO_mk ho hs (h2 wa' fun k hk => by rw [hwa' k (by simp [hk]), hgl k hk])
      unfold guardS at h
      cases hg : o.guard with
      | none =>
        rw [hg] at h
        exact run_yes none (fun wa' _ => ⟨[], by simp [wantS, hg], trivial, fun _ _ => by simp [wantS, hg]⟩) h
      | some p =>
        obtain ⟨j, want⟩ := p
        rw [hg] at h
        simp only at h
        cases hj : ops[j]? with
        | none => rw [hj] at h; exact h.elim
        | some oj =>
          rw [hj] at h
          simp only at h
          cases ht : oj.dst with
          | none => rw [ht] at h; exact h.elim
          | some t =>
            rw [ht] at h
            simp only at h
            cases hx : aget st.fr t with
            | none => rw [hx] at h; exact h.elim
            | some x =>
              rw [hx] at h
              have hbind : (ops[j]?).bind (·.dst) = some t := by rw [hj]; exact ht
              split at h
              · exact h.elim
              · -- not run: its guard did not run
                rename_i hno
                split at hno
                · cases hno
                · rename_i vs heq
                  injection heq with heq
                  subst heq
                  refine run_no none (fun wa' hwa => ⟨[], ?_, trivial, fun wa'' hwa' => ?_⟩) h
                  · simp [wantS, hg, hbind, hx]
                  · simp [wantS, hg, hbind, hx]
                · cases hno
              · rename_i hyes
                split at hyes <;> cases hyes
              · rename_i b want' hask
                split at hask
                · rename_i y heq
                  injection heq with heq
                  subst heq
                  injection hask with hb hw
                  subst hb; subst hw
                  cases hbw : (y == want) with
                  | true =>
                    exact run_yes (some true) (fun wa' hwa => ⟨[(y == want) = true], by simp [wantS, hg, hbind, hx, hwa], ⟨hbw, trivial⟩, fun wa'' hwa' => by simp [wantS, hg, hbind, hx, hwa']⟩) (h.1 hbw)
                  | false =>
                    exact run_no (some false) (fun wa' hwa => ⟨[(y == want) = false], by simp [wantS, hg, hbind, hx, hwa], ⟨hbw, trivial⟩, fun wa'' hwa' => by simp [wantS, hg, hbind, hx, hwa']⟩) (h.2 hbw)
                · cases hask
                · cases hask
/-- Two ways. What is fixed by a type is not looked at before its time. -/
structure Tw (X Y : Prop) where
  b : Bool
def Br {X Y : Prop} (t : Tw X Y) : Prop := (t.b = true → X) ∧ (t.b = false → Y)
theorem Br_true (X Y : Prop) : Br (⟨true⟩ : Tw X Y) = X := propext ⟨fun h => h.1 rfl, fun h => ⟨fun _ => h, (fun h => by cases h)⟩⟩
theorem Br_false (X Y : Prop) : Br (⟨false⟩ : Tw X Y) = Y := propext ⟨fun h => h.2 rfl, fun h => ⟨(fun h => by cases h), fun _ => h⟩⟩
structure TSome {α : Type _} (F : α → Prop) (N : Prop) where
  o : Option α
def onSome {α : Type _} {F : α → Prop} {N : Prop} (t : TSome F N) : Prop := match t.o with
  | some a => F a
  | none => N
theorem onSome_some {α : Type _} (a : α) (F : α → Prop) (N : Prop) : onSome (⟨some a⟩ : TSome F N) = F a := propext Iff.rfl
theorem onSome_none {α : Type _} (F : α → Prop) (N : Prop) : onSome (⟨none⟩ : TSome F N) = N := propext Iff.rfl
structure TGd (Y N B : Prop) (A : Bool → Bool → Prop) where
  g : Gd
def onGd {Y N B : Prop} {A : Bool → Bool → Prop} (t : TGd Y N B A) : Prop := match t.g with
  | .yes => Y
  | .no => N
  | .bad => B
  | .ask b want => A b want
theorem onGd_yes (Y N B : Prop) (A : Bool → Bool → Prop) : onGd (⟨.yes⟩ : TGd Y N B A) = Y := propext Iff.rfl
theorem onGd_no (Y N B : Prop) (A : Bool → Bool → Prop) : onGd (⟨.no⟩ : TGd Y N B A) = N := propext Iff.rfl
theorem onGd_bad (Y N B : Prop) (A : Bool → Bool → Prop) : onGd (⟨.bad⟩ : TGd Y N B A) = B := propext Iff.rfl
theorem onGd_ask (Y N B : Prop) (A : Bool → Bool → Prop) (b w : Bool) : onGd (⟨.ask b w⟩ : TGd Y N B A) = A b w := propext Iff.rfl
/-- The same, along the list of the operations. -/
structure RTag (E : Env) (ops : Array Oper) (F : Nat → St → List Log → Prop) (l : List Oper) where
  c : Nat
  i : Nat
  st : St
  lg : List Log
def runL {E : Env} {ops : Array Oper} {F : Nat → St → List Log → Prop} : {l : List Oper} → RTag E ops F l → Prop
  | [], t => F t.c t.st t.lg
  | o :: l, t => onGd (⟨guardS ops o.guard t.st.fr⟩ : TGd
      (onSome (⟨stepT E t.c t.i o t.st⟩ : TSome (fun (q : Out) => AllT q.ob ∧ runL (⟨t.c, t.i + 1, q.st, t.lg ++ [⟨t.i, q.foot, q.wr⟩]⟩ : RTag E ops F l)) (Stuck t.i o.op)))
      (dstOk E.nt o.dst = true ∧ runL (⟨t.c, t.i + 1, ⟨putS t.st.fr o.dst (.c (.one (.val undef))), t.st.hp⟩, t.lg ++ [⟨t.i, [], false⟩]⟩ : RTag E ops F l))
      (Stuck t.i o.op)
      fun b want => Br (⟨b == want⟩ : Tw
        (onSome (⟨stepT E t.c t.i o t.st⟩ : TSome (fun (q : Out) => AllT q.ob ∧ runL (⟨t.c, t.i + 1, q.st, t.lg ++ [⟨t.i, q.foot, q.wr⟩]⟩ : RTag E ops F l)) (Stuck t.i o.op)))
        (dstOk E.nt o.dst = true ∧ runL (⟨t.c, t.i + 1, ⟨putS t.st.fr o.dst (.c (.one (.val undef))), t.st.hp⟩, t.lg ++ [⟨t.i, [], false⟩]⟩ : RTag E ops F l))))
theorem runL_nil {E : Env} {ops : Array Oper} {F : Nat → St → List Log → Prop} (c i : Nat) (st : St) (lg : List Log) : runL (⟨c, i, st, lg⟩ : RTag E ops F []) = F c st lg := propext Iff.rfl
theorem runL_cons {E : Env} {ops : Array Oper} {F : Nat → St → List Log → Prop} (o : Oper) (l : List Oper) (c i : Nat) (st : St) (lg : List Log) : runL (⟨c, i, st, lg⟩ : RTag E ops F (o :: l)) =
    onGd (⟨guardS ops o.guard st.fr⟩ : TGd
      (onSome (⟨stepT E c i o st⟩ : TSome (fun (q : Out) => AllT q.ob ∧ runL (⟨c, i + 1, q.st, lg ++ [⟨i, q.foot, q.wr⟩]⟩ : RTag E ops F l)) (Stuck i o.op)))
      (dstOk E.nt o.dst = true ∧ runL (⟨c, i + 1, ⟨putS st.fr o.dst (.c (.one (.val undef))), st.hp⟩, lg ++ [⟨i, [], false⟩]⟩ : RTag E ops F l))
      (Stuck i o.op)
      fun b want => Br (⟨b == want⟩ : Tw
        (onSome (⟨stepT E c i o st⟩ : TSome (fun (q : Out) => AllT q.ob ∧ runL (⟨c, i + 1, q.st, lg ++ [⟨i, q.foot, q.wr⟩]⟩ : RTag E ops F l)) (Stuck i o.op)))
        (dstOk E.nt o.dst = true ∧ runL (⟨c, i + 1, ⟨putS st.fr o.dst (.c (.one (.val undef))), st.hp⟩, lg ++ [⟨i, [], false⟩]⟩ : RTag E ops F l)))) := propext Iff.rfl
theorem runL_K {E : Env} {ops : Array Oper} {c : Nat} {F : Nat → St → List Log → Prop} : ∀ (l : List Oper) (i : Nat) (st : St) (lg : List Log), (∀ j o, l[j]? = some o → ops[i + j]? = some o) → runL (⟨c, i, st, lg⟩ : RTag E ops F l) → runK E ops c (F c) (List.range' i l.length) st lg
  | [], _, st, lg, _, h => h
  | o :: l, i, st, lg, hl, h => by
    have ho : ops[i]? = some o := by simpa using hl 0 o (by simp)
    have hl' : ∀ j o, l[j]? = some o → ops[i + 1 + j]? = some o := fun j o' hj => by
      have := hl (j + 1) o' (by simpa using hj)
      rw [show i + 1 + j = i + (j + 1) by omega]; exact this
    simp only [List.length_cons, List.range'_succ, runK, ho]
    simp only [runL_cons, onGd, onSome, Br] at h
    cases hg : guardS ops o.guard st.fr with
    | bad => rw [hg] at h; exact h
    | no => rw [hg] at h; exact ⟨h.1, runL_K l (i + 1) _ _ hl' h.2⟩
    | yes =>
      rw [hg] at h
      simp only at h ⊢
      cases hq : stepT E c i o st with
      | none => rw [hq] at h; exact h
      | some q => rw [hq] at h; exact ⟨h.1, runL_K l (i + 1) _ _ hl' h.2⟩
    | ask b want =>
      rw [hg] at h
      simp only at h ⊢
      refine ⟨fun hb => ?_, fun hb => ⟨(h.2 hb).1, runL_K l (i + 1) _ _ hl' (h.2 hb).2⟩⟩
      have h1 := h.1 hb
      cases hq : stepT E c i o st with
      | none => rw [hq] at h1; exact h1
      | some q => rw [hq] at h1; exact ⟨h1.1, runL_K l (i + 1) _ _ hl' h1.2⟩
end Go.Proofs.YtdkogjjebbdngaaDoor
