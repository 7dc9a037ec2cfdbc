/-
  A walk by reckoning, part 16: one operation of a region. It speaks of no program.
-/
import Derived.Test.YtdkogjjebbdngaaDoorSn
import Derived.Orders
namespace Go.Proofs.YtdkogjjebbdngaaDoor
open Go Go.RowKit
set_option linter.unusedVariables false
set_option linter.unusedSimpArgs false

def putS (fr : List (Nat × SV)) (dst : Option Tmp) (v : SV) : List (Nat × SV) := match dst with
  | some d => aset fr d v
  | none => fr
def dstOk (nt : Nat) (dst : Option Tmp) : Bool := match dst with
  | some d => decide (d < nt)
  | none => true
/-- Does the operation run? 'wa' says so where the guard's value is not known. -/
def wantS (wa : List (Nat × Bool)) (ops : Array Oper) (g : Option (Nat × Bool)) (i : Nat) (fr : List (Nat × SV)) : Option (Bool × List Prop) :=
  match g with
  | none => some (true, [])
  | some (j, want) => match (ops[j]?).bind (·.dst) with
    | some t => match aget fr t with
      | some (.c (.one (.bo x))) => match aget wa i with
        | some y => some (y, [(x == want) = y])
        | none => some (x == want, [])
      | some (.c (.one (.val (.tuple _)))) => some (false, [])
      | _ => none
    | none => none
/-- What it leaves: the state, what it owes, which objects it looked at, whether it turns them. -/
structure Out : Type 1 where
  st : St
  ob : List Prop
  foot : List Nat
  wr : Bool
def freshAll (hp : List (Nat × Ent)) (b : Nat) : Nat → Bool
  | 0 => true
  | n + 1 => (aget hp (b + n)).isNone && freshAll hp b n
structure Env where
  T : Nat → Option TyI
  Ga : Nat → Option Con
  gl : List Nat
  nt : Nat
  keys : List Nat
  G : List GFact
def stepO (E : Env) (wa : List (Nat × Bool)) (ops : Array Oper) (c i : Nat) (o : Oper) (st : St) : Option Out :=
  if dstOk E.nt o.dst then match wantS wa ops o.guard i st.fr with
    | none => none
    | some (false, ob) => some ⟨⟨putS st.fr o.dst (.c (.one (.val undef))), st.hp⟩, ob, [], false⟩
    | some (true, ob) => match act E.T E.Ga (evalS E.gl st.fr) o.op with
      | none => none
      | some A => match getAll st.hp A.foot with
        | none => none
        | some es => match A.run es (fun m => c + 8 * i + m) with
          | none => none
          | some R => if Nat.ble R.news.length 8 && freshAll st.hp (c + 8 * i) R.news.length && (A.wr || R.upd.isEmpty) then
              some ⟨⟨putS st.fr o.dst R.v, newAll (fun m => c + 8 * i + m) (setAllH st.hp A.foot R.upd) 0 R.news⟩, R.obl ++ ob, A.foot, A.wr⟩
            else none
  else none
theorem freshAll_spec {hp : List (Nat × Ent)} {b : Nat} : ∀ {n : Nat}, freshAll hp b n = true → ∀ m, m < n → aget hp (b + m) = none
  | 0, _, m, h => by omega
  | n + 1, h, m, hm => by
    simp only [freshAll, Bool.and_eq_true] at h
    by_cases e : m = n
    · subst e
      cases hq : aget hp (b + m) with
      | none => rfl
      | some x => rw [hq] at h; cases h.1
    · exact freshAll_spec h.2 m (by omega)
theorem freshAll_of {hp : List (Nat × Ent)} {b : Nat} : ∀ {n : Nat}, (∀ m, m < n → aget hp (b + m) = none) → freshAll hp b n = true
  | 0, _ => rfl
  | n + 1, h => by
    simp only [freshAll, Bool.and_eq_true]
    exact ⟨by rw [h n (by omega)]; rfl, freshAll_of fun m hm => h m (by omega)⟩
structure RepE (P : Program) (E : Env) (C : Ctx) (r : Lc) (st : St) (a : Act) (w : World) : Prop where
  nt : a.tmps.size = E.nt
  defers : a.defers = []
  fr : ∀ t x, aget st.fr t = some x → x.rel r (a.tmps.getD t undef)
  hp : HeapOk C r st.hp w
  gl : ∀ g, g ∈ E.gl → ∃ (b : Option Nat) (c : Nat), r (gid g) = some (some ((g, b), c)) ∧ Blk.off (g, b) = 0
  keep : C.r0.le r
  keys : ∀ id, C.r0 id ≠ none → id ∈ E.keys
  sub : ∀ f ∈ E.G, f ∈ C.G
structure EnvOk (P : Program) (E : Env) : Prop where
  T : TyOk P E.T
  Ga : GaOkG P E.G E.Ga
  mix : P.follows .mixedOrders = true
section
variable {P : Program} {E : Env} {C : Ctx} {r : Lc} {st : St} {a : Act} {w : World}
theorem RepE.ev (h : RepE P E C r st a w) : EvOk r (evalS E.gl st.fr) a.eval := fun x => by
  cases x with
  | tmp t =>
    show (match aget st.fr t with | some x => x | none => .c (.one .junk)).rel r (a.tmps.getD t undef)
    cases hq : aget st.fr t with
    | none => trivial
    | some y => exact h.fr t y hq
  | const v => exact constS_rel r v
  | global g =>
    show (if E.gl.contains g then _ else _ : SV).rel r (.pointer (some ⟨g, 0, none⟩))
    by_cases hg : E.gl.contains g = true
    · rw [if_pos hg]
      obtain ⟨b, c, hc, ho⟩ := h.gl g (by simpa using hg)
      exact ⟨(g, b), c, hc, by rw [ho]⟩
    · rw [if_neg hg]; rfl
  | func f => rfl
theorem RepE.put (h : RepE P E C r st a w) {dst : Option Tmp} (hd : dstOk E.nt dst = true) {r' : Lc} (hle : r.le r') {v : SV} {u : Value} (hv : v.rel r' u) {hp' : List (Nat × Ent)} {w' : World} (hh : HeapOk C r' hp' w') :
    RepE P E C r' ⟨putS st.fr dst v, hp'⟩ (a.put dst u) w' := by
  cases dst with
  | none => exact ⟨h.nt, h.defers, fun t x hx => SV.rel_le hle (h.fr t x hx), hh, fun g hg => by obtain ⟨b, c, hc, ho⟩ := h.gl g hg; exact ⟨b, c, hle _ _ hc, ho⟩, Lc.le_trans h.keep hle, h.keys, h.sub⟩
  | some d =>
    have hlt : d < a.tmps.size := by
      rw [h.nt]
      simpa [dstOk] using hd
    refine ⟨by simp [Act.put, h.nt], h.defers, fun t x hx => ?_, hh, fun g hg => by obtain ⟨b, c, hc, ho⟩ := h.gl g hg; exact ⟨b, c, hle _ _ hc, ho⟩, Lc.le_trans h.keep hle, h.keys, h.sub⟩
    have hx' : aget (aset st.fr d v) t = some x := hx
    rw [aget_aset] at hx'
    by_cases e : d = t
    · subst e
      rw [if_pos rfl] at hx'
      cases hx'
      simp only [Act.put, Array.getD_eq_getD_getElem?, Array.getElem?_setIfInBounds_self_of_lt hlt]
      exact hv
    · rw [if_neg e] at hx'
      simp only [Act.put, Array.getD_eq_getD_getElem?, Array.getElem?_setIfInBounds_ne e]
      have := SV.rel_le hle (h.fr t x hx')
      simpa [Array.getD_eq_getD_getElem?] using this
theorem wantS_ok (h : RepE P E C r st a w) {wa : List (Nat × Bool)} {ops : Array Oper} {o : Oper} {i : Nat} {y : Bool} {ob : List Prop} (hw : wantS wa ops o.guard i st.fr = some (y, ob)) (hob : AllT ob) : Region.wanted o (yielded ops a.tmps) = y := by
  unfold wantS at hw
  unfold Region.wanted
  split at hw
  · rename_i hg
    injection hw with hw
    injection hw with h1 h2
    rw [hg]; exact h1
  · rename_i j want hg
    rw [hg]
    split at hw
    · rename_i t ht
      split at hw
      · rename_i x hx
        have hrel := h.fr t _ hx
        have hrel' : a.tmps.getD t undef = .bool x := hrel
        have hyl : yielded ops a.tmps j = some x := by
          unfold yielded
          rw [ht]
          simp only [Option.bind_some]
          cases hq : a.tmps[t]? with
          | none =>
            rw [Array.getD_eq_getD_getElem?, hq] at hrel'
            simp [undef] at hrel'
          | some v =>
            rw [Array.getD_eq_getD_getElem?, hq] at hrel'
            simp only [Option.getD_some] at hrel'
            rw [hrel']
        have hxw : ((some x : Option Bool) == some want) = (x == want) := by cases x <;> cases want <;> rfl
        simp only [hyl, hxw]
        split at hw
        · injection hw with hw
          injection hw with h1 h2
          subst h1; subst h2
          exact hob.1
        · injection hw with hw
          injection hw with h1 h2
      · rename_i vs hx
        have hrel := h.fr t _ hx
        have hrel' : a.tmps.getD t undef = .tuple vs := hrel
        have hyl : yielded ops a.tmps j = none := by
          unfold yielded
          rw [ht]
          simp only [Option.bind_some]
          cases hq : a.tmps[t]? with
          | none => rfl
          | some v =>
            rw [Array.getD_eq_getD_getElem?, hq] at hrel'
            simp only [Option.getD_some] at hrel'
            rw [hrel']
        injection hw with hw
        injection hw with h1 h2
        subst h1
        simp only [hyl]
        cases want <;> rfl
      · cases hw
    · cases hw
/-- ONE OPERATION. -/
theorem stepO_ok (hE : EnvOk P E) (h : RepE P E C r st a w) {wa : List (Nat × Bool)} {ops : Array Oper} {c i : Nat} {o : Oper} {q : Out} (hs : stepO E wa ops c i o st = some q) (hob : AllT q.ob) {K : Act → World → Prop} {Q : Exit → Act → World → Prop}
    (hK : ∀ r' a' w', r.le r' → RepE P E C r' q.st a' w' → K a' w') : if Region.wanted o (yielded ops a.tmps) then o.wp P a w K Q ∨ (o.asks P a w ∧ LetsOut Q) else K (a.put o.dst undef) w := by
  unfold stepO at hs
  by_cases hd : dstOk E.nt o.dst = true
  case neg => rw [if_neg hd] at hs; cases hs
  rw [if_pos hd] at hs
  split at hs
  · cases hs
  · rename_i ob hw
    injection hs with hs
    subst hs
    rw [wantS_ok h hw hob]
    simp only [Bool.false_eq_true, if_false]
    exact hK r _ _ r.le_refl (h.put hd r.le_refl (v := .c (.one (.val undef))) (u := undef) rfl h.hp)
  · rename_i ob hw
    split at hs
    · cases hs
    · rename_i A hA
      split at hs
      · cases hs
      · rename_i es hes
        split at hs
        · cases hs
        · rename_i R hR
          split at hs
          case isFalse => cases hs
          rename_i hcond
          injection hs with hs
          subst hs
          simp only [Bool.and_eq_true] at hcond
          obtain ⟨⟨hn8, hfr⟩, _⟩ := hcond
          have hob2 := AllT.append.1 hob
          rw [wantS_ok h hw hob2.2, if_pos rfl]
          left
          have hact := act_ok hE.T hE.Ga h.ev (fun f => rfl) rfl hA
          have := hact C st.hp w es (fun m => c + 8 * i + m) R h.hp hes hR hob2.1 (freshAll_spec hfr) (fun m n _ _ e => by omega) h.sub
          refine StepOk.wp this fun u w' ⟨r', hle, hv, hh⟩ => ?_
          exact hK r' _ _ hle (h.put hd hle hv hh)
end
end Go.Proofs.YtdkogjjebbdngaaDoor
