/-
  A walk by reckoning, part 2: objects, and what the memory must hold of them. It speaks of no program.
-/
import Derived.Test.YtdkogjjebbdngaaDoorSv
namespace Go.Proofs.YtdkogjjebbdngaaDoor
open Go

/-- May such a cell lie in an object? -/
def AV.plain : AV → Prop
  | .junk => False
  | .val y => y.oneCell' = true
  | _ => True
def AV.bare : AV → Prop
  | .ptr .. => False
  | .sl .. => False
  | _ => True
theorem AV.plain_one {r : Lc} {x : AV} {u : Value} (h : x.plain) (hj : x.rel r u) : u.oneCell' = true := by
  refine AV.rel_one (r := r) (x := x) ?_ hj
  cases x <;> simp_all [AV.plain]
theorem AV.bare_ren {x : AV} (h : x.bare) (f : Nat → Nat) : x.ren f = x := by
  cases x <;> first | rfl | exact h.elim
theorem AV.bare_rel {x : AV} (h : x.bare) (r r' : Lc) {u : Value} (hr : x.rel r u) : x.rel r' u := by
  cases x <;> first | exact hr | exact h.elim
/-- How the members of a row lie in cells. -/
structure Lay (α : Type) where
  st : Nat
  enc : α → List AV
  d : α
  up : α → Nat → List AV → Option α
  toB : Option (α → UInt8)
  ofB : Option (UInt8 → α)
  len : ∀ x, (enc x).length = st
  put : ∀ x j ys y, up x j ys = some y → j + ys.length ≤ st ∧ enc y = (enc x).take j ++ ys ++ (enc x).drop (j + ys.length)
  plain : ∀ x, ∀ v ∈ enc x, v.plain
  bare : ∀ x, ∀ v ∈ enc x, v.bare
  toB_ok : ∀ f, toB = some f → ∀ x, enc x = [.u8 (f x)]
  ofB_ok : ∀ f, ofB = some f → ∀ b, enc (f b) = [.u8 b]
inductive SObj : Type 1 where
  | cells (st : Nat) (xs : List AV)
  | arr (α : Type) (L : Lay α) (l : List α)
  | dead
def SObj.flat : SObj → List AV
  | .cells _ xs => xs
  | .arr _ L l => l.flatMap L.enc
  | .dead => []
def SObj.stride : SObj → Nat
  | .cells st _ => st
  | .arr _ L _ => L.st
  | .dead => 0
def SObj.live : SObj → Bool
  | .dead => false
  | _ => true
def SObj.ren (f : Nat → Nat) : SObj → SObj
  | .cells st xs => .cells st (xs.map (AV.ren f))
  | o => o
structure Ent : Type 1 where
  o : SObj
  wr : Bool
/-- The cells from a place on: these, and none of them frozen if the row is our own. -/
def RowAt (w : World) (g : Blk) (cs : Array Value) : Prop := ∃ ds t fz, w.heap[g.1]? = some (.cells ds t fz) ∧ (∀ j : Nat, ds[j + g.off]? = cs[j]?) ∧ (g.2 = none → ∀ j, j < cs.size → ¬ (fz.1 ≤ j ∧ j < fz.2))
def Holds (r : Lc) (xs : List AV) (cs : Array Value) : Prop := ∀ (j : Nat) (x : AV), xs[j]? = some x → ∃ u, cs[j]? = some u ∧ x.rel r u
def ObjRel (r : Lc) (w : World) (p : Option (Blk × Nat)) (o : SObj) : Prop :=
  o.live = true → (p = none ∧ o.flat = []) ∨ ∃ g c cs, p = some (g, c) ∧ RowAt w g cs ∧ c * o.stride ≤ cs.size ∧ Holds r o.flat cs
section
variable {β : Type _}
def aget : List (Nat × β) → Nat → Option β
  | [], _ => none
  | (i, e) :: l, k => if i = k then some e else aget l k
def aset : List (Nat × β) → Nat → β → List (Nat × β)
  | [], k, e => [(k, e)]
  | (i, x) :: l, k, e => if i = k then (k, e) :: l else if k < i then (k, e) :: (i, x) :: l else (i, x) :: aset l k e
theorem aget_aset (l : List (Nat × β)) (k : Nat) (e : β) (k' : Nat) : aget (aset l k e) k' = if k = k' then some e else aget l k' := by
  induction l with
  | nil => simp [aset, aget]
  | cons p l ih =>
    obtain ⟨i, x⟩ := p
    unfold aset
    by_cases h1 : i = k
    · subst h1
      by_cases h : i = k' <;> simp [aget, h]
    · rw [if_neg h1]
      by_cases h2 : k < i
      · rw [if_pos h2]; simp [aget]
      · rw [if_neg h2]
        by_cases h : i = k'
        · subst h; simp [aget, Ne.symm h1]
        · simp only [aget, h, if_false]; exact ih
theorem aget_same (l : List (Nat × β)) (k : Nat) (e : β) : aget (aset l k e) k = some e := by rw [aget_aset, if_pos rfl]
theorem aget_other (l : List (Nat × β)) {k k' : Nat} (e : β) (h : k ≠ k') : aget (aset l k e) k' = aget l k' := by rw [aget_aset, if_neg h]
theorem aset_comm (l : List (Nat × β)) {a b : Nat} (x y : β) (h : a ≠ b) : aset (aset l a x) b y = aset (aset l b y) a x := by
  have h' : b ≠ a := Ne.symm h
  induction l with
  | nil =>
    rcases Nat.lt_or_ge a b with hlt | hge
    · simp [aset, h, h', hlt, show ¬ b < a by omega]
    · have : b < a := by omega
      simp [aset, h, h', this, show ¬ a < b by omega]
  | cons p l ih =>
    obtain ⟨i, v⟩ := p
    simp only [aset]
    by_cases c1 : i = a
    · subst c1
      by_cases c3 : b < i
      · simp [aset, h, h', c3, Nat.le_of_lt c3]
      · simp [aset, h, c3]
    · by_cases c2 : i = b
      · subst c2
        by_cases c3 : a < i
        · simp [aset, c1, c3, h, Nat.le_of_lt c3]
        · simp [aset, c1, c3]
      · by_cases c3 : a < i <;> by_cases c4 : b < i
        · rcases Nat.lt_or_ge a b with hlt | hge
          · simp [aset, c1, c2, c3, c4, h, h', hlt, show ¬ b < a by omega]
          · have : b < a := by omega
            simp [aset, c1, c2, c3, c4, h, h', this, show ¬ a < b by omega]
        · simp [aset, c1, c2, c3, c4, h, show ¬ b < a by omega]
        · simp [aset, c1, c2, c3, c4, h', show ¬ a < b by omega]
        · simp [aset, c1, c2, c3, c4, ih]
end
structure St : Type 1 where
  fr : List (Nat × SV)
  hp : List (Nat × Ent)
/-- A package's variable that nobody writes: what is known of it. -/
structure GFact where
  g : Nat
  p : World → Prop
  lt : ∀ w, p w → g < w.heap.size
  st : ∀ w w' : World, w'.heap[g]? = w.heap[g]? → p w → p w'
structure Ctx where
  w0 : World
  wb : Nat → Prop
  r0 : Lc
  G : List GFact
structure HeapOk (C : Ctx) (r : Lc) (hp : List (Nat × Ent)) (w : World) : Prop where
  dom : ∀ id, r id = none ↔ aget hp id = none
  obj : ∀ id e p, aget hp id = some e → r id = some p → ObjRel r w p e.o
  inj : ∀ i j e f (g h : Blk) c d, aget hp i = some e → aget hp j = some f → e.o.live = true → f.o.live = true → r i = some (some (g, c)) → r j = some (some (h, d)) → e.wr = true → g.1 = h.1 → i = j
  own : ∀ id e (g : Blk) c, aget hp id = some e → e.o.live = true → e.wr = true → r id = some (some (g, c)) → g.2 = none ∧ (C.wb g.1 ∨ C.w0.heap.size ≤ g.1)
  os : w.os = C.w0.os
  tape : w.tape = C.w0.tape
  output : w.output = C.w0.output
  size : C.w0.heap.size ≤ w.heap.size
  same : ∀ b, b < C.w0.heap.size → ¬ C.wb b → w.heap[b]? = C.w0.heap[b]?
  glob : ∀ f ∈ C.G, f.p C.w0 ∧ ¬ C.wb f.g
/-- One object more. -/
def Lc.add (r : Lc) (id : Nat) (p : Option (Blk × Nat)) : Lc := fun k => if k = id then some p else r k
theorem Lc.add_le {r : Lc} {id : Nat} (h : r id = none) (p : Option (Blk × Nat)) : r.le (r.add id p) := fun k q hq => by
  unfold Lc.add
  by_cases e : k = id
  · subst e; rw [h] at hq; cases hq
  · rw [if_neg e]; exact hq
theorem Lc.add_same (r : Lc) (id : Nat) (p : Option (Blk × Nat)) : r.add id p id = some p := by simp [Lc.add]
theorem Lc.add_other (r : Lc) {id k : Nat} (p : Option (Blk × Nat)) (h : k ≠ id) : r.add id p k = r k := by simp [Lc.add, h]
theorem Holds.le {r r' : Lc} (h : r.le r') {xs : List AV} {cs : Array Value} (hh : Holds r xs cs) : Holds r' xs cs := fun j x hx =>
  let ⟨u, h1, h2⟩ := hh j x hx
  ⟨u, h1, AV.rel_le h h2⟩
theorem ObjRel.le {r r' : Lc} (h : r.le r') {w : World} {p : Option (Blk × Nat)} {o : SObj} (hh : ObjRel r w p o) : ObjRel r' w p o := fun hl =>
  (hh hl).imp id fun ⟨g, c, cs, h1, h2, h3, h4⟩ => ⟨g, c, cs, h1, h2, h3, h4.le h⟩
theorem ObjRel.at {r : Lc} {w w' : World} {p : Option (Blk × Nat)} {o : SObj} (hh : ObjRel r w p o) (hw : ∀ (g : Blk) c, p = some (g, c) → w'.heap[g.1]? = w.heap[g.1]?) : ObjRel r w' p o := fun hl =>
  (hh hl).imp id fun ⟨g, c, cs, h1, ⟨ds, t, fz, h2, h2'⟩, h3, h4⟩ => ⟨g, c, cs, h1, ⟨ds, t, fz, (hw g c h1).trans h2, h2'⟩, h3, h4⟩
theorem RowAt.lt {w : World} {g : Blk} {cs : Array Value} (h : RowAt w g cs) : g.1 < w.heap.size := by
  obtain ⟨ds, t, fz, h, _⟩ := h
  exact (Array.getElem?_eq_some_iff.1 h).1
theorem RowAt.cell {w : World} {g : Blk} {cs : Array Value} (h : RowAt w g cs) (j : Nat) : w.cell? ⟨g.1, j + g.off, none⟩ = cs[j]? := by
  obtain ⟨ds, t, fz, h, h', _⟩ := h
  rw [← h']
  exact cell_of_row w g.1 (j + g.off) ds t fz h
theorem RowAt.cell0 {w : World} {b : Nat} {cs : Array Value} (h : RowAt w (b, none) cs) (j : Nat) : w.cell? ⟨b, j, none⟩ = cs[j]? := h.cell j
theorem RowAt.free {w : World} {b : Nat} {cs : Array Value} (h : RowAt w (b, none) cs) (j : Nat) (hj : j < cs.size) : w.frozen? ⟨b, j, none⟩ = false := by
  obtain ⟨ds, t, fz, h, _, hf⟩ := h
  have := hf rfl j hj
  simp only [World.frozen?, h]
  simp only [Bool.and_eq_false_iff, decide_eq_false_iff_not]
  omega
theorem RowAt.put {w : World} {b : Nat} {cs : Array Value} (h : RowAt w (b, none) cs) (j : Nat) (u : Value) : RowAt (w.setCell ⟨b, j, none⟩ u) (b, none) (cs.setIfInBounds j u) := by
  obtain ⟨ds, t, fz, h, h', hf⟩ := h
  have e : ds = cs := Array.ext_getElem? fun i => h' i
  subst e
  refine ⟨ds.setIfInBounds j u, t, fz, by simp [World.setCell, Array.getElem?_modify, h], fun _ => rfl, fun _ i hi => hf rfl i (by simpa using hi)⟩
namespace HeapOk
variable {C : Ctx} {r : Lc} {hp : List (Nat × Ent)} {w w' : World}
theorem lt (h : HeapOk C r hp w) {id : Nat} {e : Ent} {g : Blk} {c : Nat} (he : aget hp id = some e) (hl : e.o.live = true) (hr : r id = some (some (g, c))) : g.1 < w.heap.size := by
  rcases h.obj id e _ he hr hl with ⟨h1, _⟩ | ⟨g', c', cs, h1, h2, _⟩
  · cases h1
  · cases h1; exact h2.lt
/-- The world may have drawn, and may have grown by what no object lies in. -/
theorem move (h : HeapOk C r hp w) (hos : w'.os = w.os) (ht : w'.tape = w.tape) (ho : w'.output = w.output) (hs : w.heap.size ≤ w'.heap.size) (hb : ∀ b, b < w.heap.size → w'.heap[b]? = w.heap[b]?) : HeapOk C r hp w' where
  dom := h.dom
  obj id e p he hr := by
    intro hl
    refine (h.obj id e p he hr).at (fun g c hp' => ?_) hl
    subst hp'
    exact hb g.1 (h.lt he hl hr)
  inj := h.inj
  own := h.own
  os := hos.trans h.os
  tape := ht.trans h.tape
  glob := h.glob
  output := ho.trans h.output
  size := Nat.le_trans h.size hs
  same b h1 h2 := (hb b (Nat.lt_of_lt_of_le h1 h.size)).trans (h.same b h1 h2)
theorem drewN (h : HeapOk C r hp w) (n : Nat) : HeapOk C r hp (w.drewN n) := h.move rfl rfl rfl (Nat.le_refl _) fun _ _ => rfl
theorem drew (h : HeapOk C r hp w) : HeapOk C r hp w.drew := h.move rfl rfl rfl (Nat.le_refl _) fun _ _ => rfl
/-- A new object. -/
theorem make (h : HeapOk C r hp w) {id : Nat} (hid : aget hp id = none) (o : SObj) (p : Option (Blk × Nat)) (hos : w'.os = w.os) (ht : w'.tape = w.tape) (ho : w'.output = w.output)
    (hs : w.heap.size ≤ w'.heap.size) (hb : ∀ b, b < w.heap.size → w'.heap[b]? = w.heap[b]?) (hn : ∀ (g : Blk) c, p = some (g, c) → w.heap.size ≤ g.1 ∧ g.2 = none) (hobj : ObjRel (r.add id p) w' p o) :
    HeapOk C (r.add id p) (aset hp id ⟨o, true⟩) w' where
  dom k := by
    rw [aget_aset]
    by_cases e : id = k
    · subst e; simp [Lc.add_same]
    · rw [if_neg e, Lc.add_other _ _ (Ne.symm e)]; exact h.dom k
  obj k e q he hr := by
    have hle := Lc.add_le ((h.dom id).2 hid) p
    rw [aget_aset] at he
    by_cases e' : id = k
    · subst e'
      rw [if_pos rfl] at he
      cases he
      rw [Lc.add_same] at hr
      cases hr
      exact hobj
    · rw [if_neg e'] at he
      rw [Lc.add_other _ _ (Ne.symm e')] at hr
      intro hl
      refine ((h.obj k e q he hr).at (fun g c hp' => ?_)).le hle hl
      subst hp'
      exact hb g.1 (h.lt he hl hr)
  inj i j e f g g' c d hi hj li lj ri rj wi hg := by
    rw [aget_aset] at hi hj
    by_cases ei : id = i <;> by_cases ej : id = j
    · exact ei.symm.trans ej
    · subst ei
      rw [if_neg ej] at hj
      rw [Lc.add_same] at ri
      rw [Lc.add_other _ _ (Ne.symm ej)] at rj
      have := h.lt hj lj rj
      have := (hn g c (Option.some.inj ri)).1
      omega
    · subst ej
      rw [if_neg ei] at hi
      rw [Lc.add_same] at rj
      rw [Lc.add_other _ _ (Ne.symm ei)] at ri
      have := h.lt hi li ri
      have := (hn g' d (Option.some.inj rj)).1
      omega
    · rw [if_neg ei] at hi
      rw [if_neg ej] at hj
      rw [Lc.add_other _ _ (Ne.symm ei)] at ri
      rw [Lc.add_other _ _ (Ne.symm ej)] at rj
      exact h.inj i j e f g g' c d hi hj li lj ri rj wi hg
  own k e g c he hl hwr hr := by
    rw [aget_aset] at he
    by_cases e' : id = k
    · subst e'
      rw [Lc.add_same] at hr
      exact ⟨(hn g c (Option.some.inj hr)).2, .inr (Nat.le_trans h.size (hn g c (Option.some.inj hr)).1)⟩
    · rw [if_neg e'] at he
      rw [Lc.add_other _ _ (Ne.symm e')] at hr
      exact h.own k e g c he hl hwr hr
  os := hos.trans h.os
  tape := ht.trans h.tape
  glob := h.glob
  output := ho.trans h.output
  size := Nat.le_trans h.size hs
  same b h1 h2 := (hb b (Nat.lt_of_lt_of_le h1 h.size)).trans (h.same b h1 h2)
/-- An object that is turned where it lies. -/
theorem turn (h : HeapOk C r hp w) {id : Nat} {e : Ent} {g : Blk} {c : Nat} (he : aget hp id = some e) (hl : e.o.live = true) (hwr : e.wr = true) (hr : r id = some (some (g, c))) (o : SObj)
    (hos : w'.os = w.os) (ht : w'.tape = w.tape) (ho : w'.output = w.output) (hs : w.heap.size ≤ w'.heap.size) (hb : ∀ b, b < w.heap.size → b ≠ g.1 → w'.heap[b]? = w.heap[b]?)
    (hobj : ObjRel r w' (some (g, c)) o) : HeapOk C r (aset hp id ⟨o, true⟩) w' where
  dom k := by
    rw [aget_aset]
    by_cases e' : id = k
    · subst e'; simp [hr]
    · rw [if_neg e']; exact h.dom k
  obj k f q hf hq := by
    rw [aget_aset] at hf
    by_cases e' : id = k
    · subst e'
      rw [if_pos rfl] at hf
      cases hf
      rw [hr] at hq
      cases hq
      exact hobj
    · rw [if_neg e'] at hf
      intro hlf
      refine (h.obj k f q hf hq).at (fun g' c' hp' => ?_) hlf
      subst hp'
      refine hb g'.1 (h.lt hf hlf hq) fun e1 => ?_
      exact e' (h.inj id k e f g g' c c' he hf hl hlf hr hq hwr e1.symm)
  inj i j e1 f1 g1 g2 c1 d1 hi hj li lj ri rj wi hg := by
    rw [aget_aset] at hi hj
    by_cases ei : id = i <;> by_cases ej : id = j
    · exact ei.symm.trans ej
    · subst ei
      rw [if_neg ej] at hj
      exact h.inj id j e f1 g1 g2 c1 d1 he hj hl lj ri rj hwr hg
    · subst ej
      rw [if_neg ei] at hi
      exact h.inj i id e1 e g1 g2 c1 d1 hi he li hl ri rj wi hg
    · rw [if_neg ei] at hi
      rw [if_neg ej] at hj
      exact h.inj i j e1 f1 g1 g2 c1 d1 hi hj li lj ri rj wi hg
  own k f g' c' hf hlf hwf hq := by
    rw [aget_aset] at hf
    by_cases e' : id = k
    · subst e'
      exact h.own id e g' c' he hl hwr hq
    · rw [if_neg e'] at hf
      exact h.own k f g' c' hf hlf hwf hq
  os := hos.trans h.os
  tape := ht.trans h.tape
  glob := h.glob
  output := ho.trans h.output
  size := Nat.le_trans h.size hs
  same b h1 h2 := by
    refine (hb b (Nat.lt_of_lt_of_le h1 h.size) fun e' => ?_).trans (h.same b h1 h2)
    subst e'
    rcases (h.own id e g c he hl hwr hr).2 with h3 | h3
    · exact h2 h3
    · omega
/-- An object that is given up. -/
theorem kill (h : HeapOk C r hp w) {id : Nat} {e : Ent} (he : aget hp id = some e) : HeapOk C r (aset hp id ⟨.dead, true⟩) w where
  dom k := by
    rw [aget_aset]
    by_cases e' : id = k
    · subst e'
      rw [if_pos rfl]
      refine ⟨fun h1 => ?_, fun h1 => by cases h1⟩
      rw [(h.dom id).1 h1] at he
      cases he
    · rw [if_neg e']; exact h.dom k
  obj k f q hf hq := by
    rw [aget_aset] at hf
    by_cases e' : id = k
    · rw [if_pos e'] at hf
      cases hf
      intro hl
      cases hl
    · rw [if_neg e'] at hf
      exact h.obj k f q hf hq
  inj i j e1 f1 g1 g2 c1 d1 hi hj li lj ri rj wi hg := by
    rw [aget_aset] at hi hj
    by_cases ei : id = i
    · rw [if_pos ei] at hi; cases hi; cases li
    · by_cases ej : id = j
      · rw [if_pos ej] at hj; cases hj; cases lj
      · rw [if_neg ei] at hi
        rw [if_neg ej] at hj
        exact h.inj i j e1 f1 g1 g2 c1 d1 hi hj li lj ri rj wi hg
  own k f g' c' hf hlf hwf hq := by
    rw [aget_aset] at hf
    by_cases e' : id = k
    · rw [if_pos e'] at hf; cases hf; cases hlf
    · rw [if_neg e'] at hf
      exact h.own k f g' c' hf hlf hwf hq
  os := h.os
  tape := h.tape
  glob := h.glob
  output := h.output
  size := h.size
  same := h.same
/-- What was given up lives on under a new number, where it lay, turned. -/
theorem pass (h : HeapOk C r hp w) {id id' : Nat} {e : Ent} {g : Blk} {c c' : Nat} (he : aget hp id = some e) (hl : e.o.live = true) (hwr : e.wr = true) (hr : r id = some (some (g, c))) (hid : aget hp id' = none) (o : SObj)
    (hos : w'.os = w.os) (ht : w'.tape = w.tape) (ho : w'.output = w.output) (hs : w.heap.size ≤ w'.heap.size) (hb : ∀ b, b < w.heap.size → b ≠ g.1 → w'.heap[b]? = w.heap[b]?)
    (hobj : ObjRel r w' (some (g, c')) o) : HeapOk C (r.add id' (some (g, c'))) (aset (aset hp id ⟨.dead, true⟩) id' ⟨o, true⟩) w' := by
  have hne : id ≠ id' := fun e' => by rw [← e', he] at hid; cases hid
  have hle := Lc.add_le ((h.dom id').2 hid) (some (g, c'))
  have fresh : ∀ k f g1 c1, aget (aset hp id ⟨.dead, true⟩) k = some f → f.o.live = true → r k = some (some (g1, c1)) → aget hp k = some f ∧ k ≠ id := fun k f g1 c1 hk hlk _ => by
    rw [aget_aset] at hk
    by_cases e' : id = k
    · rw [if_pos e'] at hk; cases hk; cases hlk
    · rw [if_neg e'] at hk; exact ⟨hk, Ne.symm e'⟩
  exact {
    dom := fun k => by
      rw [aget_aset]
      by_cases e' : id' = k
      · subst e'; simp [Lc.add_same]
      · rw [if_neg e', Lc.add_other _ _ (Ne.symm e')]; exact (h.kill he).dom k
    obj := fun k f q hf hq => by
      rw [aget_aset] at hf
      by_cases e' : id' = k
      · subst e'
        rw [if_pos rfl] at hf
        cases hf
        rw [Lc.add_same] at hq
        cases hq
        exact hobj.le hle
      · rw [if_neg e'] at hf
        rw [Lc.add_other _ _ (Ne.symm e')] at hq
        intro hlf
        refine (((h.kill he).obj k f q hf hq).at (fun g' c' hp' => ?_)).le hle hlf
        subst hp'
        obtain ⟨hk, hki⟩ := fresh k f g' c' hf hlf hq
        refine hb g'.1 (h.lt hk hlf hq) fun e1 => ?_
        exact hki (h.inj id k e f g g' c c' he hk hl hlf hr hq hwr e1.symm).symm
    inj := fun i j e1 f1 g1 g2 c1 d1 hi hj li lj ri rj wi hg => by
      rw [aget_aset] at hi hj
      by_cases ei : id' = i <;> by_cases ej : id' = j
      · exact ei.symm.trans ej
      · subst ei
        rw [if_neg ej] at hj
        rw [Lc.add_same] at ri
        rw [Lc.add_other _ _ (Ne.symm ej)] at rj
        cases ri
        obtain ⟨hk, hki⟩ := fresh j f1 _ _ hj lj rj
        exact (hki (h.inj id j e f1 _ _ _ _ he hk hl lj hr rj hwr hg).symm).elim
      · subst ej
        rw [if_neg ei] at hi
        rw [Lc.add_same] at rj
        rw [Lc.add_other _ _ (Ne.symm ei)] at ri
        cases rj
        obtain ⟨hk, hki⟩ := fresh i e1 _ _ hi li ri
        exact (hki (h.inj i id e1 e _ _ _ _ hk he li hl ri hr wi hg)).elim
      · rw [if_neg ei] at hi
        rw [if_neg ej] at hj
        rw [Lc.add_other _ _ (Ne.symm ei)] at ri
        rw [Lc.add_other _ _ (Ne.symm ej)] at rj
        exact (h.kill he).inj i j e1 f1 g1 g2 c1 d1 hi hj li lj ri rj wi hg
    own := fun k f g' c' hf hlf hwf hq => by
      rw [aget_aset] at hf
      by_cases e' : id' = k
      · subst e'
        rw [Lc.add_same] at hq
        injection hq with hq
        injection hq with hq
        injection hq with hg hc
        subst hg
        exact h.own id e g c he hl hwr hr
      · rw [if_neg e'] at hf
        rw [Lc.add_other _ _ (Ne.symm e')] at hq
        exact (h.kill he).own k f g' c' hf hlf hwf hq
    os := hos.trans h.os
    tape := ht.trans h.tape
    glob := h.glob
    output := ho.trans h.output
    size := Nat.le_trans h.size hs
    same := fun b h1 h2 => by
      refine (hb b (Nat.lt_of_lt_of_le h1 h.size) fun e' => ?_).trans (h.same b h1 h2)
      subst e'
      rcases (h.own id e g c he hl hwr hr).2 with h3 | h3
      · exact h2 h3
      · omega }
/-- What the variables hold that nobody writes. -/
theorem facts (h : HeapOk C r hp w) : ∀ f ∈ C.G, f.p w := fun f hf => f.st _ _ (h.same f.g (f.lt _ (h.glob f hf).1) (h.glob f hf).2) (h.glob f hf).1
end HeapOk
end Go.Proofs.YtdkogjjebbdngaaDoor
