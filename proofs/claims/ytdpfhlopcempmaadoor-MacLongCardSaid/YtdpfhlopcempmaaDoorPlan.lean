/-
  A region that draws its order, walked by a plan: pure operations first (whatever world they come up in), then reads (in one world), then operations that come up alone; and so on. It speaks of no program.
-/
import Derived.Deep.Quiet
import Derived.StillTail
import Derived.Tactics
import Derived.RowKit3
import Derived.BigQuiet
import Derived.StillTactics
namespace Go.Proofs.YtdpfhlopcempmaaDoor
open Go Go.RowKit

section
variable {P : Program} {ops : Array Oper} {Q : Exit → Act → World → Prop}
def OnlyN (Q : Exit → Act → World → Prop) : Exit → Act → World → Prop := fun e a w => e = .normal ∧ Q .normal a w
def pickL (ops : Array Oper) : List Nat → List Oper
  | [] => []
  | i :: r => match ops[i]? with
    | some o => o :: pickL ops r
    | none => pickL ops r
def setAll : Array Bool → List Nat → Array Bool
  | l, [] => l
  | l, i :: r => setAll (l.setIfInBounds i true) r
/-- An operation that yields a value and never calls. -/
def plainB (o : Oper) : Bool := match o.op with
  | .move _ | .assign _ | .binOp .. | .unOp .. | .convert .. | .indexAddr .. | .extract .. | .index .. | .slice .. => true
  | _ => false
theorem plain_value {o : Oper} (h : plainB o = true) {ρ : Operand → Value} {w w' : World} {n : Next} (hr : (execOp ρ o).run P w = .ok n w') : ∃ u, n = .value u := by
  have key : ∀ s : Sem Value, ((do pure (.value (← s)) : Sem Next)).run P w = .ok n w' → ∃ u, n = .value u := by
    intro s hs
    rw [Sem.run_bind] at hs
    cases hq : s.run P w with
    | ok v w2 =>
      rw [hq] at hs
      simp only [Result.andThen_ok, Sem.run_pure] at hs
      injection hs with h1 h2
      exact ⟨v, h1.symm⟩
    | halt x w2 => rw [hq] at hs; simp [Result.andThen] at hs
  unfold plainB at h
  unfold execOp at hr
  cases hop : o.op <;> rw [hop] at h hr <;> first | (cases h; done) | (exact key _ hr) | (simp only [Sem.run_pure] at hr; injection hr with h1 h2; exact ⟨_, h1.symm⟩)
/-- What is looked at ahead of a walk by a plan: phase 0: pure; phase 1: reads; else: each comes up alone. -/
def pureB (ops : Array Oper) : Array Bool → List Nat → Bool
  | _, [] => true
  | l, i :: r => (match ops[i]? with | some o => plainB o | none => false) && (Region.ready .any ops l).contains i && Region.free .any ops l i && pureB ops (l.setIfInBounds i true) r
def stillB (ops : Array Oper) (E : Array Bool) : Array Bool → List Nat → Bool
  | l, [] => l == E
  | l, i :: r => (ops[i]?).isSome && (Region.ready .any ops l).contains i && Region.free .any ops l i && (Region.ready .any ops (E.setIfInBounds i false) == [i]) && stillB ops E (l.setIfInBounds i true) r
def seqB (ops : Array Oper) : Array Bool → List Nat → Bool
  | _, [] => true
  | l, i :: r => (ops[i]?).isSome && (Region.ready .any ops l == [i]) && seqB ops (l.setIfInBounds i true) r
theorem pickL_cons {i : Nat} {r : List Nat} {o : Oper} (h : ops[i]? = some o) : pickL ops (i :: r) = o :: pickL ops r := by simp [pickL, h]

theorem pure_phase (hsel : Region.noSelect ops = true) : ∀ (is : List Nat) (l : Array Bool) (a : Act) (w : World) (fuel : Nat) (K : Act → Prop), pureB ops l is = true →
    (∀ a', K a' → wpAny P .any ops (OnlyN Q) fuel (setAll l is) a' w) → wpQuiet P ops (fun _ => True) K (pickL ops is) a → wpAny P .any ops (OnlyN Q) (is.length + fuel) l a w
  | [], l, a, w, fuel, K, _, hK, h => by rw [List.length_nil, Nat.zero_add]; exact hK a h
  | i :: r, l, a, w, fuel, K, hB, hK, h => by
    simp only [pureB, Bool.and_eq_true] at hB
    obtain ⟨⟨⟨hp, hr⟩, hf⟩, hB'⟩ := hB
    cases hi : ops[i]? with
    | none => rw [hi] at hp; cases hp
    | some o =>
      rw [hi] at hp
      rw [pickL_cons hi] at h
      rw [show (i :: r).length + fuel = (r.length + fuel) + 1 by simp; omega]
      have hQ : ∀ v : Value, ∀ c a' w', OnlyN Q (.panic c) (Act.put a' o.dst v) w' → OnlyN Q (.panic c) a' w' := fun v c a' w' h => by cases h.1
      unfold wpQuiet at h
      by_cases hw : Region.wanted o (yielded ops a.tmps) = true
      · rw [if_pos hw] at h
        obtain ⟨v, hv, hn⟩ := h
        have hy : Yields P ops o v a := .inl ⟨hw, fun w1 => by
          have h1 := hv w1 trivial
          unfold Oper.quietAt at h1
          cases hq : (execOp a.eval o).run P w1 with
          | ok n w2 =>
            obtain ⟨u, rfl⟩ := plain_value hp hq
            rw [hq] at h1
            obtain ⟨e1, e2⟩ := h1
            rw [e1, e2]
          | halt x w2 => rw [hq] at h1; exact h1.elim⟩
        exact wpAny_take hi hsel hf hr (hQ v) hy (pure_phase hsel r _ _ w fuel K hB' hK hn)
      · rw [if_neg hw] at h
        have hy : Yields P ops o undef a := .inr ⟨by simpa using hw, rfl⟩
        exact wpAny_take hi hsel hf hr (hQ undef) hy (pure_phase hsel r _ _ w fuel K hB' hK h)

/-- All that comes up reads, in one world. -/
def wpAnyS (P : Program) (ops : Array Oper) (w : World) (L : Array Bool → Act → Prop) : Nat → Array Bool → Act → Prop
  | 0, l, a => L l a
  | f + 1, l, a => Region.ready .any ops l ≠ [] ∧ ∀ i ∈ Region.ready .any ops l, stOp P ops w i (wpAnyS P ops w L f (l.setIfInBounds i true)) a
theorem wpAny_of_S {w : World} {g : Nat} {L : Array Bool → Act → Prop} (hL : ∀ l a, L l a → wpAny P .any ops (OnlyN Q) g l a w) :
    ∀ (f : Nat) (l : Array Bool) (a : Act), wpAnyS P ops w L f l a → wpAny P .any ops (OnlyN Q) (f + g) l a w
  | 0, l, a, h => by rw [Nat.zero_add]; exact hL _ _ h
  | f + 1, l, a, h => by
    rw [show f + 1 + g = (f + g) + 1 by omega]
    exact ⟨fun h0 => absurd h0 h.1, fun i hi => wpOp_of_stOp (fun a' h' => wpAny_of_S hL f _ a' h') (h.2 i hi)⟩
theorem set_back {l E : Array Bool} {i : Nat} (h0 : l.getD i true = false) (h1 : l.setIfInBounds i true = E) : l = E.setIfInBounds i false := by
  have hlt : i < l.size := by
    rcases Nat.lt_or_ge i l.size with h | h
    · exact h
    · simp [Array.getElem?_eq_none h] at h0
  have h2 : l[i] = false := by simpa [hlt] using h0
  subst h1
  apply Array.ext_getElem?
  intro j
  rw [Array.getElem?_setIfInBounds, Array.getElem?_setIfInBounds]
  by_cases hij : i = j
  · subst hij; simp [hlt, h2]
  · simp [hij]
theorem wpAnyS_first {w : World} {E : Array Bool} {Kq : Act → Prop} {i : Nat} {oi : Oper} {v : Value} (hi : ops[i]? = some oi) (hsel : ∀ (j : Nat) (o : Oper) cs b, ops[j]? = some o → o.op ≠ .select cs b)
    (hE : Region.ready .any ops (E.setIfInBounds i false) = [i]) :
    ∀ (f : Nat) (l : Array Bool) (a : Act),
      (∀ j oj, ops[j]? = some oj → j ≠ i → l.getD j true = false → (∀ e ∈ oj.after, Region.binds .any e = true → e.on ≠ i) → oi.apart ops oj = true) →
      i ∈ Region.ready .any ops l → YieldsAt P ops w oi v a →
      wpAnyS P ops w (fun l' a' => l' = E ∧ Kq a') f (l.setIfInBounds i true) (a.put oi.dst v) → wpAnyS P ops w (fun l' a' => l' = E ∧ Kq a') (f + 1) l a := by
  intro f
  induction f with
  | zero =>
    intro l a _ hr hy H
    have hun := (mem_ready.1 hr).1
    have hl := set_back hun H.1
    refine ⟨fun h => (by rw [h] at hr; cases hr), fun j hj => ?_⟩
    have hji : j = i := by
      rw [hl, hE] at hj
      simpa using hj
    subst hji
    exact hy.stOp hi H
  | succ f ih =>
    intro l a hfree hr hy H
    have hun := (mem_ready.1 hr).1
    refine ⟨fun h => (by rw [h] at hr; cases hr), fun j hj => ?_⟩
    by_cases hji : j = i
    · subst hji; exact hy.stOp hi H
    · have h1 := H.2 j (ready_mono hj hji)
      obtain ⟨hjun, oj, hoj, hall⟩ := mem_ready.1 hj
      have hnot : ∀ e ∈ oj.after, Region.binds .any e = true → e.on ≠ i := fun e he hb heq => by
        have h1 := hall e he hb
        rw [heq, getD_both hun] at h1
        cases h1
      have h2 := stOp_put hoj (hfree j oj hoj hji hjun hnot) (fun cs b => hsel i oi cs b hi) (fun cs b => hsel j oj cs b hoj) hy h1
      have hfree' : ∀ k ok, ops[k]? = some ok → k ≠ i → (l.setIfInBounds j true).getD k true = false →
          (∀ e ∈ ok.after, Region.binds .any e = true → e.on ≠ i) → oi.apart ops ok = true := fun k ok hk hki hun hno => by
        refine hfree k ok hk hki ?_ hno
        by_cases hjk : j = k
        · subst hjk; exact hjun
        · rw [getD_set_ne true hjk] at hun; exact hun
      refine stOp_mono (fun a' h3 => ih (l.setIfInBounds j true) a' hfree' (ready_mono hr (Ne.symm hji)) h3.1 ?_) h2
      rw [Array.setIfInBounds_comm _ _ hji]
      exact h3.2
theorem wpAnyS_lex (hsel : Region.noSelect ops = true) {w : World} {E : Array Bool} {Kq : Act → Prop} : ∀ (is : List Nat) (l : Array Bool) (a : Act), stillB ops E l is = true →
    wpStill P ops w Kq (pickL ops is) a → wpAnyS P ops w (fun l' a' => l' = E ∧ Kq a') is.length l a
  | [], l, a, hB, h => ⟨by simpa [stillB] using hB, h⟩
  | i :: r, l, a, hB, h => by
    simp only [stillB, Bool.and_eq_true] at hB
    obtain ⟨⟨⟨⟨hp, hr⟩, hf⟩, hE⟩, hB'⟩ := hB
    cases hi : ops[i]? with
    | none => rw [hi] at hp; cases hp
    | some o =>
      rw [pickL_cons hi] at h
      have hst : stOp P ops w i (wpStill P ops w Kq (pickL ops r)) a := by unfold stOp; simp only [hi]; exact h
      obtain ⟨v, hy, hK⟩ := yieldsAt_of_stOp hi hst
      exact wpAnyS_first hi (Region.noSelect_spec hsel) (by simpa using hE) r.length l a (Region.free_spec hi hf) (by simpa using hr) hy (wpAnyS_lex hsel r _ _ hB' hK)
theorem still_phase (hsel : Region.noSelect ops = true) (is : List Nat) (l : Array Bool) (a : Act) (w : World) (fuel : Nat) (K : Act → Prop) (hB : stillB ops (setAll l is) l is = true)
    (hK : ∀ a', K a' → wpAny P .any ops (OnlyN Q) fuel (setAll l is) a' w) (h : wpStill P ops w K (pickL ops is) a) : wpAny P .any ops (OnlyN Q) (is.length + fuel) l a w :=
  wpAny_of_S (fun l' a' h' => by rw [h'.1]; exact hK a' h'.2) _ _ _ (wpAnyS_lex hsel is l a hB h)

theorem wp_only {o : Oper} {a : Act} {w : World} {K K' : Act → World → Prop} {L : Act → World → Prop} (hK : ∀ a w, K a w → K' a w) (h : o.wp P a w K (fun e a w => e = .normal ∧ L a w)) : o.wp P a w K' (OnlyN Q) := by
  unfold Oper.wp at *
  generalize (execOp a.eval o).run P w = r at *
  cases r with
  | ok n w' =>
    cases n <;> simp only [Oper.upon] at h ⊢
    case value u => exact hK _ _ h
    case skip => exact hK _ _ h
    case defer d => exact hK _ _ h
    case enter f args =>
      refine Calls.mono h fun e w'' he => ?_
      cases e with
      | returned u => exact hK _ _ he
      | panicked c => cases he.1
      | outgrown => obtain ⟨_, _, h1, _⟩ := he; cases h1
    case row row args => exact Rows.mono h fun u w'' he => hK _ _ he
  | halt x w' =>
    cases x <;> simp only [Oper.upon] at h ⊢
    case panic u => cases h.1
theorem seq_phase : ∀ (is : List Nat) (l : Array Bool) (a : Act) (w : World) (fuel : Nat) (K : Act → World → Prop), seqB ops l is = true →
    (∀ a' w', K a' w' → wpAny P .any ops (OnlyN Q) fuel (setAll l is) a' w') → wpList P ops (fun e a' w' => e = .normal ∧ K a' w') (pickL ops is) a w → wpAny P .any ops (OnlyN Q) (is.length + fuel) l a w
  | [], l, a, w, fuel, K, _, hK, h => by rw [List.length_nil, Nat.zero_add]; exact hK a w h.2
  | i :: r, l, a, w, fuel, K, hB, hK, h => by
    simp only [seqB, Bool.and_eq_true] at hB
    obtain ⟨⟨hp, hr⟩, hB'⟩ := hB
    cases hi : ops[i]? with
    | none => rw [hi] at hp; cases hp
    | some o =>
      rw [pickL_cons hi] at h
      rw [show (i :: r).length + fuel = (r.length + fuel) + 1 by simp; omega]
      refine wpAny_all (rs := [i]) (by simpa using hr) (by simp) fun j hj => ?_
      have hji : j = i := by simpa using hj
      subst hji
      have next : ∀ a' w', wpList P ops (fun e a' w' => e = .normal ∧ K a' w') (pickL ops r) a' w' → wpAny P .any ops (OnlyN Q) (r.length + fuel) (l.setIfInBounds j true) a' w' := fun a' w' h' =>
        seq_phase r _ a' w' fuel K hB' hK h'
      unfold wpOp
      simp only [hi]
      unfold wpList at h
      by_cases hw : Region.wanted o (yielded ops a.tmps) = true
      · rw [if_pos hw] at h ⊢
        rcases h with h | ⟨_, h⟩
        · exact .inl (wp_only next h)
        · obtain ⟨_, _, h1, _⟩ := h; cases h1
      · rw [if_neg hw] at h ⊢
        exact next _ _ h
/-- The plan: its phases, with their kinds. -/
def planB (ops : Array Oper) : Array Bool → List (Nat × List Nat) → Bool
  | l, [] => (Region.ready .any ops l).isEmpty
  | l, (k, is) :: r => (if k = 0 then pureB ops l is else if k = 1 then stillB ops (setAll l is) l is else seqB ops l is) && planB ops (setAll l is) r
def wpPlan (P : Program) (ops : Array Oper) (Q : Exit → Act → World → Prop) : List (Nat × List Nat) → Act → World → Prop
  | [], a, w => Q .normal a w
  | (k, is) :: r, a, w => if k = 0 then wpQuiet P ops (fun _ => True) (fun a' => wpPlan P ops Q r a' w) (pickL ops is) a
    else if k = 1 then wpStill P ops w (fun a' => wpPlan P ops Q r a' w) (pickL ops is) a
    else wpList P ops (fun e a' w' => e = .normal ∧ wpPlan P ops Q r a' w') (pickL ops is) a w
def planLen : List (Nat × List Nat) → Nat
  | [] => 0
  | (_, is) :: r => is.length + planLen r
theorem plan_phases (hsel : Region.noSelect ops = true) : ∀ (ps : List (Nat × List Nat)) (l : Array Bool) (a : Act) (w : World), planB ops l ps = true → wpPlan P ops Q ps a w → wpAny P .any ops (OnlyN Q) (planLen ps) l a w
  | [], l, a, w, hB, h => ⟨by simpa [planB] using hB, rfl, h⟩
  | (k, is) :: r, l, a, w, hB, h => by
    simp only [planB, Bool.and_eq_true] at hB
    obtain ⟨h1, h2⟩ := hB
    unfold wpPlan at h
    unfold planLen
    by_cases h0 : k = 0
    · rw [if_pos h0] at h h1
      exact pure_phase hsel is l a w _ _ h1 (fun a' h' => plan_phases hsel r _ a' w h2 h') h
    · rw [if_neg h0] at h h1
      by_cases hk1 : k = 1
      · rw [if_pos hk1] at h h1
        exact still_phase hsel is l a w _ _ h1 (fun a' h' => plan_phases hsel r _ a' w h2 h') h
      · rw [if_neg hk1] at h h1
        exact seq_phase is l a w _ _ h1 (fun a' w' h' => plan_phases hsel r _ a' w' h2 h') h
end
/-- A REGION BY A PLAN. -/
theorem region_plan {P : Program} {id : Nat} {Q : Exit → Act → World → Prop} {a : Act} {w : World} {l : List Oper} (ps : List (Nat × List Nat)) (hm : P.follows .mixedOrders = true)
    (hB : (Region.noSelect l.toArray && decide (planLen ps = l.length) && planB l.toArray (Array.replicate l.length false) ps) = true)
    (h : wpPlan P l.toArray Q ps a w.drew) : (Code.region id l.toArray true).wp P Q a w := by
  simp only [Bool.and_eq_true, decide_eq_true_eq] at hB
  obtain ⟨⟨hsel, hlen⟩, hp⟩ := hB
  refine Code.wp_mono (Q := OnlyN Q) (fun e a w h => by obtain ⟨rfl, h⟩ := h; exact h) ?_
  refine wp_region_any hm ?_
  have := plan_phases hsel ps _ a _ hp h
  rw [hlen] at this
  simpa using this
theorem plan_pure {P : Program} {ops : Array Oper} {Q : Exit → Act → World → Prop} {is : List Nat} {r : List (Nat × List Nat)} {a : Act} {w : World}
    (h : wpQuiet P ops (fun _ => True) (fun a' => wpPlan P ops Q r a' w) (pickL ops is) a) : wpPlan P ops Q ((0, is) :: r) a w := h
theorem plan_still {P : Program} {ops : Array Oper} {Q : Exit → Act → World → Prop} {is : List Nat} {r : List (Nat × List Nat)} {a : Act} {w : World}
    (h : wpStill P ops w (fun a' => wpPlan P ops Q r a' w) (pickL ops is) a) : wpPlan P ops Q ((1, is) :: r) a w := h
theorem plan_seq {P : Program} {ops : Array Oper} {Q : Exit → Act → World → Prop} {is : List Nat} {r : List (Nat × List Nat)} {a : Act} {w : World}
    (h : wpList P ops (fun e a' w' => e = .normal ∧ wpPlan P ops Q r a' w') (pickL ops is) a w) : wpPlan P ops Q ((2, is) :: r) a w := h
theorem plan_nil {P : Program} {ops : Array Oper} {Q : Exit → Act → World → Prop} {a : Act} {w : World} (h : Q .normal a w) : wpPlan P ops Q [] a w := h
end Go.Proofs.YtdpfhlopcempmaaDoor
