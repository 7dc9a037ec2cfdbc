/-
  A walk by reckoning, part 4: what an operation does, without and with memory. It speaks of no program.
-/
import Derived.Test.YtdkogjjebbdngaaDoorSp
import Derived.Deep.MidRow
import Derived.Lib.ConvBytes
namespace Go.Proofs.YtdkogjjebbdngaaDoor
open Go Go.RowKit
set_option linter.unusedVariables false
set_option linter.unusedSimpArgs false

/-- What the type's table says of a type. -/
structure TyI where
  d : TypeDesc
  size : Nat
  bytes : Nat
  zero : CV
  /-- of a struct that may be compared, what its cells are: 0: a number, 1: a text, 2: a truth -/
  eqs : List Nat := []
def fldOk (P : Program) (j : Nat) (f : Field) (k : Nat) : Bool := f.name != "_" && f.offset == j && (match P.underlying f.type with | some (.int _) => k == 0 | some .string => k == 1 | some .bool => k == 2 | _ => false)
def eqB (P : Program) (t : Nat) (ks : List Nat) : Bool := !P.eqGuardType P.depth t && !P.stoodInHeld t && (match P.underlying t with | some (.struct _) => true | _ => false) && (P.fieldsOf t).size == ks.length && (List.range ks.length).all fun j => match (P.fieldsOf t)[j]? with | some f => fldOk P j f (ks.getD j 9) | none => false
def TyOne (P : Program) (t : Nat) (i : TyI) : Prop := P.underlying t = some i.d ∧
  ∃ nf, P.info? t = some nf ∧ nf.size = i.size ∧ nf.bytes = i.bytes ∧ ∃ z, nf.zero = some z ∧ (∀ r, i.zero.rel r z) ∧ z.cells.size = i.size ∧ i.zero.cells.length = i.size ∧ (∀ x ∈ i.zero.cells, x.plain ∧ x.bare) ∧ (i.eqs.isEmpty = false → eqB P t i.eqs = true ∧ i.eqs.length = i.size)
def TyOk (P : Program) (T : Nat → Option TyI) : Prop := ∀ t i, T t = some i → TyOne P t i
structure Res : Type 1 where
  v : SV
  upd : List SObj
  news : List SObj
  obl : List Prop
structure Actn : Type 1 where
  foot : List Nat
  wr : Bool
  run : List Ent → (Nat → Nat) → Option Res
def pureS (v : SV) (ob : List Prop) : Actn := ⟨[], false, fun _ _ => some ⟨v, [], [], ob⟩⟩
def pureA (v : AV) (ob : List Prop) : Actn := pureS (.c (.one v)) ob
def setAllH : List (Nat × Ent) → List Nat → List SObj → List (Nat × Ent)
  | hp, id :: ids, o :: os => setAllH (aset hp id ⟨o, true⟩) ids os
  | hp, _, _ => hp
def newAll (fresh : Nat → Nat) : List (Nat × Ent) → Nat → List SObj → List (Nat × Ent)
  | hp, m, o :: os => newAll fresh (aset hp (fresh m) ⟨o, true⟩) (m + 1) os
  | hp, _, [] => hp
def getAll (hp : List (Nat × Ent)) : List Nat → Option (List Ent)
  | [] => some []
  | i :: l => match aget hp i with
    | some e => match getAll hp l with
      | some es => some (e :: es)
      | none => none
    | none => none
/-- The operation comes to an end, so. -/
def StepOk (P : Program) (o : Oper) (ev : Operand → Value) (w : World) (F : Value → World → Prop) : Prop :=
  match (execOp ev o).run P w with
  | .ok (.value u) w' => F u w'
  | .ok .skip w' => F undef w'
  | .ok (.enter f args) w' => Calls P f args w' (fun e w'' => ∃ u, e = .returned u ∧ F u w'')
  | _ => False
theorem StepOk.wp {P : Program} {o : Oper} {a : Act} {w : World} {F : Value → World → Prop} (h : StepOk P o a.eval w F) {K : Act → World → Prop} {Q : Exit → Act → World → Prop}
    (hK : ∀ u w', F u w' → K (a.put o.dst u) w') : o.wp P a w K Q := by
  unfold StepOk at h
  unfold Oper.wp
  generalize (execOp a.eval o).run P w = q at h ⊢
  cases q with
  | halt x w' => exact h.elim
  | ok n w' =>
    cases n <;> first
      | exact hK _ _ h
      | exact h.elim
      | (refine Calls.mono h fun e w'' he => ?_
         obtain ⟨u, rfl, hF⟩ := he
         exact hK _ _ hF)
theorem StepOk.of_value {P : Program} {o : Oper} {ev : Operand → Value} {w w' : World} {u : Value} {F : Value → World → Prop} (h : (execOp ev o).run P w = .ok (.value u) w') (hF : F u w') : StepOk P o ev w F := by
  unfold StepOk; rw [h]; exact hF
theorem StepOk.of_skip {P : Program} {o : Oper} {ev : Operand → Value} {w w' : World} {F : Value → World → Prop} (h : (execOp ev o).run P w = .ok .skip w') (hF : F undef w') : StepOk P o ev w F := by
  unfold StepOk; rw [h]; exact hF
/-- What an action says is so. -/
def ActOk (P : Program) (G : List GFact) (o : Oper) (ev : Operand → Value) (r : Lc) (A : Actn) : Prop :=
  ∀ C hp w es fresh R, HeapOk C r hp w → getAll hp A.foot = some es → A.run es fresh = some R → AllT R.obl →
    (∀ m, m < R.news.length → aget hp (fresh m) = none) → (∀ m n, m < R.news.length → n < R.news.length → fresh m = fresh n → m = n) → (∀ f ∈ G, f ∈ C.G) →
    StepOk P o ev w fun u w' => ∃ r', r.le r' ∧ R.v.rel r' u ∧ HeapOk C r' (newAll fresh (setAllH hp A.foot R.upd) 0 R.news) w'
section
variable {P : Program} {G : List GFact} {o : Oper} {ev : Operand → Value} {r : Lc}
theorem actOk_pure {v : SV} {ob : List Prop} (h : AllT ob → ∀ w, ∃ u, (execOp ev o).run P w = .ok (.value u) w ∧ v.rel r u) : ActOk P G o ev r (pureS v ob) := by
  intro C hp w es fresh R hh hg hr hob _ _ hsub
  simp only [pureS, Option.some.injEq] at hr
  subst hr
  obtain ⟨u, h1, h2⟩ := h hob w
  exact StepOk.of_value h1 ⟨r, r.le_refl, h2, hh⟩
end
theorem Addr.add_plain (g o n : Nat) : (⟨g, o, none⟩ : Addr).add n = ⟨g, o + n, none⟩ := Addr.add_mid g o n
/-- Cells, written one behind the other. -/
def putCells (cs : Array Value) : Nat → List Value → Array Value
  | _, [] => cs
  | o, u :: l => putCells (cs.setIfInBounds o u) (o + 1) l
theorem putCells_size (l : List Value) : ∀ (cs : Array Value) (o : Nat), (putCells cs o l).size = cs.size := by
  induction l with
  | nil => intro cs o; rfl
  | cons u l ih => intro cs o; rw [putCells, ih]; simp
theorem putCells_get (l : List Value) : ∀ (cs : Array Value) (o j : Nat), o + l.length ≤ cs.size → (putCells cs o l)[j]? = if o ≤ j ∧ j < o + l.length then l[j - o]? else cs[j]? := by
  induction l with
  | nil => intro cs o j _; simp only [putCells, List.length_nil]; rw [if_neg (by omega)]
  | cons u l ih =>
    intro cs o j h
    simp only [List.length_cons] at h ⊢
    rw [putCells, ih _ _ _ (by simp; omega)]
    by_cases h1 : j = o
    · subst h1
      rw [if_neg (by omega), if_pos (by omega)]
      have : j < cs.size := by omega
      simp [this]
    · by_cases h2 : o + 1 ≤ j ∧ j < o + 1 + l.length
      · rw [if_pos h2, if_pos (by omega)]
        obtain ⟨k, rfl⟩ : ∃ k, j = o + 1 + k := ⟨j - (o + 1), by omega⟩
        rw [show o + 1 + k - (o + 1) = k by omega, show o + 1 + k - o = k + 1 by omega]; simp
      · rw [if_neg h2, if_neg (by omega), Array.getElem?_setIfInBounds_ne (Ne.symm h1)]
theorem RowAt.puts {g : Nat} : ∀ (l : List Value) (w : World) (cs : Array Value) (o : Nat), RowAt w (g, none) cs → RowAt (w.setCells g o l) (g, none) (putCells cs o l)
  | [], _, _, _, h => h
  | u :: l, w, cs, o, h => RowAt.puts l _ _ _ (h.put o u)
theorem setCells_same (g : Nat) : ∀ (l : List Value) (w : World) (o : Nat), (w.setCells g o l).os = w.os ∧ (w.setCells g o l).tape = w.tape ∧ (w.setCells g o l).output = w.output ∧ (w.setCells g o l).heap.size = w.heap.size ∧
    ∀ b, b ≠ g → (w.setCells g o l).heap[b]? = w.heap[b]?
  | [], _, _ => ⟨rfl, rfl, rfl, rfl, fun _ _ => rfl⟩
  | u :: l, w, o => by
    obtain ⟨h1, h2, h3, h4, h5⟩ := setCells_same g l (w.setCell ⟨g, o, none⟩ u) (o + 1)
    refine ⟨h1, h2, h3, ?_, fun b hb => ?_⟩
    · rw [World.setCells, h4]; simp [World.setCell]
    · rw [World.setCells, h5 b hb]; exact Below.heap_setCell w ⟨g, o, none⟩ u b hb
theorem Holds.slice {r : Lc} {xs : List AV} {cs : Array Value} (h : Holds r xs cs) {o z : Nat} (hz : o + z ≤ xs.length) : ∃ us : List Value, us.length = z ∧ (∀ j v, us[j]? = some v → cs[o + j]? = some v) ∧ All2 (AV.rel r) ((xs.drop o).take z) us := by
  have hsz : o + z ≤ cs.size := by
    rcases Nat.eq_zero_or_pos z with rfl | hp
    · rcases Nat.eq_zero_or_pos o with rfl | ho
      · simp
      · obtain ⟨x, hx⟩ : ∃ x, xs[o - 1]? = some x := ⟨xs[o - 1], List.getElem?_eq_getElem (by omega)⟩
        obtain ⟨u, hu, _⟩ := h _ _ hx
        have := (Array.getElem?_eq_some_iff.1 hu).1
        omega
    · obtain ⟨x, hx⟩ : ∃ x, xs[o + z - 1]? = some x := ⟨xs[o + z - 1], List.getElem?_eq_getElem (by omega)⟩
      obtain ⟨u, hu, _⟩ := h _ _ hx
      have := (Array.getElem?_eq_some_iff.1 hu).1
      omega
  refine ⟨(cs.toList.drop o).take z, by simp; omega, fun j v hv => ?_, All2.of_get (by simp; omega) fun j a b ha hb => ?_⟩
  · rw [List.getElem?_take] at hv
    split at hv
    · simpa using hv
    · cases hv
  · rw [List.getElem?_take] at ha hb
    split at ha
    · rw [List.getElem?_drop] at ha
      obtain ⟨u, hu, hr⟩ := h _ _ ha
      rename_i hj
      rw [if_pos hj, List.getElem?_drop] at hb
      simp only [Array.getElem?_toList] at hb
      rw [hu] at hb
      cases hb
      exact hr
    · cases ha
theorem Holds.splice {r : Lc} {xs ys : List AV} {cs : Array Value} {us : List Value} (h : Holds r xs cs) {o : Nat} (hz : o + ys.length ≤ xs.length) (hy : All2 (AV.rel r) ys us) (hs : o + us.length ≤ cs.size) :
    Holds r (xs.take o ++ ys ++ xs.drop (o + ys.length)) (putCells cs o us) := by
  have hl := hy.length
  intro j x hx
  rw [putCells_get us cs o j hs]
  by_cases h1 : j < o
  · rw [if_neg (by omega)]
    rw [List.append_assoc, List.getElem?_append_left (by simp; omega), List.getElem?_take, if_pos h1] at hx
    exact h j x hx
  · by_cases h2 : j < o + ys.length
    · rw [if_pos (by omega)]
      rw [List.append_assoc, List.getElem?_append_right (by simp; omega), List.getElem?_append_left (by simp; omega)] at hx
      have e : min o xs.length = o := by omega
      simp only [List.length_take, e] at hx
      exact hy.get _ _ hx
    · rw [if_neg (by omega)]
      rw [List.getElem?_append_right (by simp; omega), List.getElem?_drop] at hx
      have e : min o xs.length = o := by omega
      simp only [List.length_append, List.length_take, e] at hx
      rw [show o + ys.length + (j - (o + ys.length)) = j by omega] at hx
      exact h j x hx
theorem Holds.bound {r : Lc} {xs : List AV} {cs : Array Value} (h : Holds r xs cs) : xs.length ≤ cs.size := by
  rcases Nat.eq_zero_or_pos xs.length with h0 | h0
  · omega
  · obtain ⟨x, hx⟩ : ∃ x, xs[xs.length - 1]? = some x := ⟨xs[xs.length - 1], List.getElem?_eq_getElem (by omega)⟩
    obtain ⟨u, hu, _⟩ := h _ _ hx
    have := (Array.getElem?_eq_some_iff.1 hu).1
    omega
end Go.Proofs.YtdkogjjebbdngaaDoor
