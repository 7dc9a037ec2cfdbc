/-
  Put together: Sv, Sh, Sp, Sa, Sb, Sd, Se, Sf, Sg, Si, Sj, Sk, Sl, Sm.
-/
import Derived.WalkKit
import Derived.WalkSpells
import Derived.WalkLawsBesides
import Derived.Below
import Derived.Laws.OwnMore
import Derived.Deep.Draws
import Derived.Laws.Rows
import Derived.Lib.Hide
import Derived.RowKit3
import Derived.Maps.AppendAt
import Derived.Deep.MidRow
import Derived.Lib.ConvBytes
import Derived.Laws.MakeOwn
import Derived.ChangeKeysEq
import Derived.Laws.Externs
/-
  A walk by reckoning, part 1: what a slot may be known to hold, and how that reads in the model. It speaks of no program.
-/
namespace Go.Proofs.YtahiopdkekkibaaGreatDoor
open Go

/-- What is known of one cell. -/
inductive AV where
  | junk
  | bo (x : Bool)
  | num (x : Int)
  | int (k : IntKind) (x : Int)
  | u8 (x : UInt8)
  | u32 (x : UInt32)
  | u64 (x : UInt64)
  | str (x : List UInt8)
  | val (x : Value)
  | ptr (id k st j : Nat)
  | sl (id k st n : Nat)
  /-- an interface's value: does it hold something? -/
  | ifn (b : Bool)

/-- A place: a block, and, where the row was handed in, the cell of the block where it begins. -/
abbrev Blk := Nat × Option Nat
def Blk.off (g : Blk) : Nat := g.2.getD 0
@[simp] theorem Blk.off_own (b : Nat) : Blk.off (b, none) = 0 := rfl
/-- Where an object lies: none: it is not made; some none: nowhere (a row without room); else its place and its room. -/
def Lc := Nat → Option (Option (Blk × Nat))

def AV.rel (r : Lc) : AV → Value → Prop
  | .junk, _ => True
  | .bo x, u => u = .bool x
  | .num x, u => u = .int .i64 x
  | .int k x, u => u = .int k x
  | .u8 x, u => u = .int .u8 (x.toNat : Int)
  | .u32 x, u => u = .int .u32 (x.toNat : Int)
  | .u64 x, u => u = .int .u64 (x.toNat : Int)
  | .str x, u => u = .string ⟨x.toArray⟩
  | .val x, u => u = x
  | .ifn b, u => if b = true then ∃ t x, u = .iface t x else u = .nilIface
  | .ptr id k st j, u => ∃ (g : Blk) (c : Nat), r id = some (some (g, c)) ∧ u = .pointer (some ⟨g.1, k * st + j + g.off, none⟩)
  | .sl id k st n, u => (r id = some none ∧ k = 0 ∧ n = 0 ∧ ∃ a, u = .slice a 0 0) ∨
      ∃ (g : Blk) (c o : Nat), r id = some (some (g, c)) ∧ k + n ≤ c ∧ (k < c → o = k * st + g.off) ∧ u = .slice (some ⟨g.1, o, none⟩) n (c - k)

/-- Two lists, member by member. -/
def All2 {α β : Type} (R : α → β → Prop) : List α → List β → Prop
  | [], [] => True
  | a :: x, b :: y => R a b ∧ All2 R x y
  | _, _ => False

inductive CV where
  | one (x : AV)
  | agg (xs : List AV)

def CV.rel (r : Lc) : CV → Value → Prop
  | .one x, u => x.rel r u
  | .agg xs, u => ∃ cs : List Value, u = .agg cs.toArray ∧ All2 (AV.rel r) xs cs

def CV.cells : CV → List AV
  | .one x => [x]
  | .agg xs => xs

inductive SV where
  | c (x : CV)
  | tup (xs : List CV)

def SV.rel (r : Lc) : SV → Value → Prop
  | .c x, u => x.rel r u
  | .tup xs, u => ∃ cs : List Value, u = .tuple cs.toArray ∧ All2 (CV.rel r) xs cs

section
variable {α β : Type} {R R' : α → β → Prop}
theorem All2.mono (h : ∀ a b, R a b → R' a b) : ∀ {x : List α} {y : List β}, All2 R x y → All2 R' x y
  | [], [], _ => trivial
  | _ :: _, _ :: _, ⟨h1, h2⟩ => ⟨h _ _ h1, All2.mono h h2⟩
theorem All2.length : ∀ {x : List α} {y : List β}, All2 R x y → x.length = y.length
  | [], [], _ => rfl
  | _ :: _, _ :: _, ⟨_, h2⟩ => by simp [All2.length h2]
theorem All2.get : ∀ {x : List α} {y : List β}, All2 R x y → ∀ (j : Nat) a, x[j]? = some a → ∃ b, y[j]? = some b ∧ R a b
  | [], [], _, j, a, h => by simp at h
  | a' :: x, b :: y, ⟨h1, h2⟩, 0, a, h => by simp at h; subst h; exact ⟨b, by simp, h1⟩
  | _ :: _, _ :: _, ⟨_, h2⟩, j + 1, a, h => by
    obtain ⟨b, hb, hr⟩ := All2.get h2 j a (by simpa using h)
    exact ⟨b, by simpa using hb, hr⟩
theorem All2.of_get : ∀ {x : List α} {y : List β}, x.length = y.length → (∀ (j : Nat) a b, x[j]? = some a → y[j]? = some b → R a b) → All2 R x y
  | [], [], _, _ => trivial
  | [], _ :: _, h, _ => by simp at h
  | _ :: _, [], h, _ => by simp at h
  | a :: x, b :: y, h, hr => ⟨hr 0 a b (by simp) (by simp), All2.of_get (by simpa using h) (fun j a' b' h1 h2 => hr (j + 1) a' b' (by simpa using h1) (by simpa using h2))⟩
theorem All2.append : ∀ {x x' : List α} {y y' : List β}, All2 R x y → All2 R x' y' → All2 R (x ++ x') (y ++ y')
  | [], _, [], _, _, h => h
  | _ :: _, _, _ :: _, _, ⟨h1, h2⟩, h => ⟨h1, All2.append h2 h⟩
theorem All2.map {γ : Type} {f : γ → α} {g : γ → β} {x : List γ} (h : ∀ c ∈ x, R (f c) (g c)) : All2 R (x.map f) (x.map g) := by
  induction x with
  | nil => trivial
  | cons a x ih => exact ⟨h a (by simp), ih fun c hc => h c (by simp [hc])⟩
theorem All2.take : ∀ (n : Nat) {x : List α} {y : List β}, All2 R x y → All2 R (x.take n) (y.take n)
  | 0, _, _, _ => by simp [All2]
  | _ + 1, [], [], _ => by simp [All2]
  | n + 1, _ :: _, _ :: _, ⟨h1, h2⟩ => by simp only [List.take_succ_cons]; exact ⟨h1, All2.take n h2⟩
theorem All2.drop : ∀ (n : Nat) {x : List α} {y : List β}, All2 R x y → All2 R (x.drop n) (y.drop n)
  | 0, _, _, h => h
  | _ + 1, [], [], _ => by simp [All2]
  | n + 1, _ :: _, _ :: _, ⟨_, h2⟩ => by simp only [List.drop_succ_cons]; exact All2.drop n h2
theorem All2.set : ∀ (n : Nat) {x : List α} {y : List β} {a : α} {b : β}, All2 R x y → R a b → All2 R (x.set n a) (y.set n b)
  | _, [], [], _, _, _, _ => by simp [All2]
  | 0, _ :: _, _ :: _, _, _, ⟨_, h2⟩, h => ⟨h, h2⟩
  | n + 1, _ :: _, _ :: _, _, _, ⟨h1, h2⟩, h => ⟨h1, All2.set n h2 h⟩
theorem All2.replicate (n : Nat) {a : α} {b : β} (h : R a b) : All2 R (List.replicate n a) (List.replicate n b) := by
  induction n with
  | zero => simp [All2]
  | succ n ih => simp only [List.replicate_succ]; exact ⟨h, ih⟩
end

/-- What is made later leaves what was made. -/
def Lc.le (r r' : Lc) : Prop := ∀ id p, r id = some p → r' id = some p
theorem Lc.le_refl (r : Lc) : r.le r := fun _ _ h => h
theorem Lc.le_trans {a b c : Lc} (h : a.le b) (h' : b.le c) : a.le c := fun _ _ hp => h' _ _ (h _ _ hp)
section
variable {r r' : Lc}
theorem AV.rel_le (h : r.le r') : ∀ {x : AV} {u : Value}, x.rel r u → x.rel r' u
  | .junk, _, _ => trivial
  | .bo _, _, e => e
  | .num _, _, e => e
  | .int _ _, _, e => e
  | .u8 _, _, e => e
  | .u32 _, _, e => e
  | .u64 _, _, e => e
  | .str _, _, e => e
  | .val _, _, e => e
  | .ifn _, _, e => e
  | .ptr .., _, ⟨g, c, h1, h2⟩ => ⟨g, c, h _ _ h1, h2⟩
  | .sl .., _, .inl ⟨h1, h2⟩ => .inl ⟨h _ _ h1, h2⟩
  | .sl .., _, .inr ⟨g, c, o, h1, h2⟩ => .inr ⟨g, c, o, h _ _ h1, h2⟩
theorem CV.rel_le (h : r.le r') : ∀ {x : CV} {u : Value}, x.rel r u → x.rel r' u
  | .one _, _, e => AV.rel_le h e
  | .agg _, _, ⟨cs, h1, h2⟩ => ⟨cs, h1, h2.mono fun _ _ => AV.rel_le h⟩
theorem SV.rel_le (h : r.le r') : ∀ {x : SV} {u : Value}, x.rel r u → x.rel r' u
  | .c _, _, e => CV.rel_le h e
  | .tup _, _, ⟨cs, h1, h2⟩ => ⟨cs, h1, h2.mono fun _ _ => CV.rel_le h⟩
end
/-- Other numbers for the objects. -/
def AV.ren (f : Nat → Nat) : AV → AV
  | .ptr id k st j => .ptr (f id) k st j
  | .sl id k st n => .sl (f id) k st n
  | x => x
def CV.ren (f : Nat → Nat) : CV → CV
  | .one x => .one (x.ren f)
  | .agg xs => .agg (xs.map (AV.ren f))
def SV.ren (f : Nat → Nat) : SV → SV
  | .c x => .c (x.ren f)
  | .tup xs => .tup (xs.map (CV.ren f))
def Lc.pull (r : Lc) (f : Nat → Nat) : Lc := fun id => r (f id)
theorem AV.rel_ren (r : Lc) (f : Nat → Nat) (x : AV) (u : Value) : (x.ren f).rel r u ↔ x.rel (r.pull f) u := by cases x <;> rfl
theorem All2.map_left {α β γ : Type} {R : α → β → Prop} {f : γ → α} : ∀ {x : List γ} {y : List β}, All2 R (x.map f) y ↔ All2 (fun c b => R (f c) b) x y
  | [], [] => Iff.rfl
  | [], _ :: _ => Iff.rfl
  | _ :: _, [] => Iff.rfl
  | _ :: x, _ :: y => by simp only [List.map_cons, All2, All2.map_left (x := x) (y := y)]
theorem CV.rel_ren (r : Lc) (f : Nat → Nat) (x : CV) (u : Value) : (x.ren f).rel r u ↔ x.rel (r.pull f) u := by
  cases x with
  | one x => exact AV.rel_ren r f x u
  | agg xs => simp only [CV.ren, CV.rel, All2.map_left, AV.rel_ren]
theorem SV.rel_ren (r : Lc) (f : Nat → Nat) (x : SV) (u : Value) : (x.ren f).rel r u ↔ x.rel (r.pull f) u := by
  cases x with
  | c x => exact CV.rel_ren r f x u
  | tup xs => simp only [SV.ren, SV.rel, All2.map_left, CV.rel_ren]
/-- A cell holds one value alone. -/
theorem AV.rel_one {r : Lc} {x : AV} {u : Value} (h : match x with | .junk => False | .val y => y.oneCell' = true | _ => True) (hj : x.rel r u) : u.oneCell' = true := by
  cases x <;> simp only [AV.rel] at hj
  case junk => exact h.elim
  case val y => subst hj; exact h
  case ptr => obtain ⟨_, _, _, rfl⟩ := hj; rfl
  case ifn b =>
    cases b
    · have hj : u = .nilIface := by simpa using hj
      subst hj; rfl
    · obtain ⟨t, x, rfl⟩ : ∃ t x, u = .iface t x := by simpa using hj
      rfl
  case sl => rcases hj with ⟨_, _, _, _, rfl⟩ | ⟨_, _, _, _, _, _, rfl⟩ <;> rfl
  all_goals subst hj; rfl
end Go.Proofs.YtahiopdkekkibaaGreatDoor

/-
  A walk by reckoning, part 2: objects, and what the memory must hold of them. It speaks of no program.
-/
namespace Go.Proofs.YtahiopdkekkibaaGreatDoor
open Go

/-- May such a cell lie in an object? -/
def AV.plain : AV → Prop
  | .junk => False
  | .val y => y.oneCell' = true
  | _ => True
def AV.bare : AV → Prop
  | .ptr .. => False
  | .sl .. => False
  | _ => True
theorem AV.plain_one {r : Lc} {x : AV} {u : Value} (h : x.plain) (hj : x.rel r u) : u.oneCell' = true := by
  refine AV.rel_one (r := r) (x := x) ?_ hj
  cases x <;> simp_all [AV.plain]
theorem AV.bare_ren {x : AV} (h : x.bare) (f : Nat → Nat) : x.ren f = x := by
  cases x <;> first | rfl | exact h.elim
theorem AV.bare_rel {x : AV} (h : x.bare) (r r' : Lc) {u : Value} (hr : x.rel r u) : x.rel r' u := by
  cases x <;> first | exact hr | exact h.elim
/-- How the members of a row lie in cells. -/
structure Lay (α : Type) where
  st : Nat
  enc : α → List AV
  d : α
  up : α → Nat → List AV → Option α
  toB : Option (α → UInt8)
  ofB : Option (UInt8 → α)
  len : ∀ x, (enc x).length = st
  put : ∀ x j ys y, up x j ys = some y → j + ys.length ≤ st ∧ enc y = (enc x).take j ++ ys ++ (enc x).drop (j + ys.length)
  plain : ∀ x, ∀ v ∈ enc x, v.plain
  bare : ∀ x, ∀ v ∈ enc x, v.bare
  toB_ok : ∀ f, toB = some f → ∀ x, enc x = [.u8 (f x)]
  ofB_ok : ∀ f, ofB = some f → ∀ b, enc (f b) = [.u8 b]
inductive SObj : Type 1 where
  | cells (st : Nat) (xs : List AV)
  | arr (α : Type) (L : Lay α) (l : List α)
  | dead
def SObj.flat : SObj → List AV
  | .cells _ xs => xs
  | .arr _ L l => l.flatMap L.enc
  | .dead => []
def SObj.stride : SObj → Nat
  | .cells st _ => st
  | .arr _ L _ => L.st
  | .dead => 0
def SObj.live : SObj → Bool
  | .dead => false
  | _ => true
def SObj.ren (f : Nat → Nat) : SObj → SObj
  | .cells st xs => .cells st (xs.map (AV.ren f))
  | o => o
structure Ent : Type 1 where
  o : SObj
  wr : Bool
/-- The cells from a place on: these, and none of them frozen if the row is our own. -/
def RowAt (w : World) (g : Blk) (cs : Array Value) : Prop := ∃ ds t fz, w.heap[g.1]? = some (.cells ds t fz) ∧ (∀ j : Nat, ds[j + g.off]? = cs[j]?) ∧ (g.2 = none → ∀ j, j < cs.size → ¬ (fz.1 ≤ j ∧ j < fz.2))
def Holds (r : Lc) (xs : List AV) (cs : Array Value) : Prop := ∀ (j : Nat) (x : AV), xs[j]? = some x → ∃ u, cs[j]? = some u ∧ x.rel r u
def ObjRel (r : Lc) (w : World) (p : Option (Blk × Nat)) (o : SObj) : Prop :=
  o.live = true → (p = none ∧ o.flat = []) ∨ ∃ g c cs, p = some (g, c) ∧ RowAt w g cs ∧ c * o.stride ≤ cs.size ∧ Holds r o.flat cs
section
variable {β : Type _}
def aget : List (Nat × β) → Nat → Option β
  | [], _ => none
  | (i, e) :: l, k => if i = k then some e else aget l k
def aset : List (Nat × β) → Nat → β → List (Nat × β)
  | [], k, e => [(k, e)]
  | (i, x) :: l, k, e => if i = k then (k, e) :: l else if k < i then (k, e) :: (i, x) :: l else (i, x) :: aset l k e
theorem aget_aset (l : List (Nat × β)) (k : Nat) (e : β) (k' : Nat) : aget (aset l k e) k' = if k = k' then some e else aget l k' := by
  induction l with
  | nil => simp [aset, aget]
  | cons p l ih =>
    obtain ⟨i, x⟩ := p
    unfold aset
    by_cases h1 : i = k
    · subst h1
      by_cases h : i = k' <;> simp [aget, h]
    · rw [if_neg h1]
      by_cases h2 : k < i
      · rw [if_pos h2]; simp [aget]
      · rw [if_neg h2]
        by_cases h : i = k'
        · subst h; simp [aget, Ne.symm h1]
        · simp only [aget, h, if_false]; exact ih
theorem aget_same (l : List (Nat × β)) (k : Nat) (e : β) : aget (aset l k e) k = some e := by rw [aget_aset, if_pos rfl]
theorem aget_other (l : List (Nat × β)) {k k' : Nat} (e : β) (h : k ≠ k') : aget (aset l k e) k' = aget l k' := by rw [aget_aset, if_neg h]
theorem aset_comm (l : List (Nat × β)) {a b : Nat} (x y : β) (h : a ≠ b) : aset (aset l a x) b y = aset (aset l b y) a x := by
  have h' : b ≠ a := Ne.symm h
  induction l with
  | nil =>
    rcases Nat.lt_or_ge a b with hlt | hge
    · simp [aset, h, h', hlt, show ¬ b < a by omega]
    · have : b < a := by omega
      simp [aset, h, h', this, show ¬ a < b by omega]
  | cons p l ih =>
    obtain ⟨i, v⟩ := p
    simp only [aset]
    by_cases c1 : i = a
    · subst c1
      by_cases c3 : b < i
      · simp [aset, h, h', c3, Nat.le_of_lt c3]
      · simp [aset, h, c3]
    · by_cases c2 : i = b
      · subst c2
        by_cases c3 : a < i
        · simp [aset, c1, c3, h, Nat.le_of_lt c3]
        · simp [aset, c1, c3]
      · by_cases c3 : a < i <;> by_cases c4 : b < i
        · rcases Nat.lt_or_ge a b with hlt | hge
          · simp [aset, c1, c2, c3, c4, h, h', hlt, show ¬ b < a by omega]
          · have : b < a := by omega
            simp [aset, c1, c2, c3, c4, h, h', this, show ¬ a < b by omega]
        · simp [aset, c1, c2, c3, c4, h, show ¬ b < a by omega]
        · simp [aset, c1, c2, c3, c4, h', show ¬ a < b by omega]
        · simp [aset, c1, c2, c3, c4, ih]
end
structure St : Type 1 where
  fr : List (Nat × SV)
  hp : List (Nat × Ent)
/-- A package's variable that nobody writes: what is known of it. -/
structure GFact where
  g : Nat
  p : World → Prop
  lt : ∀ w, p w → g < w.heap.size
  st : ∀ w w' : World, w'.heap[g]? = w.heap[g]? → p w → p w'
structure Ctx where
  w0 : World
  wb : Nat → Prop
  r0 : Lc
  G : List GFact
structure HeapOk (C : Ctx) (r : Lc) (hp : List (Nat × Ent)) (w : World) : Prop where
  dom : ∀ id, r id = none ↔ aget hp id = none
  obj : ∀ id e p, aget hp id = some e → r id = some p → ObjRel r w p e.o
  inj : ∀ i j e f (g h : Blk) c d, aget hp i = some e → aget hp j = some f → e.o.live = true → f.o.live = true → r i = some (some (g, c)) → r j = some (some (h, d)) → e.wr = true → g.1 = h.1 → i = j
  own : ∀ id e (g : Blk) c, aget hp id = some e → e.o.live = true → e.wr = true → r id = some (some (g, c)) → g.2 = none ∧ (C.wb g.1 ∨ C.w0.heap.size ≤ g.1)
  os : w.os = C.w0.os
  tape : w.tape = C.w0.tape
  output : w.output = C.w0.output
  size : C.w0.heap.size ≤ w.heap.size
  same : ∀ b, b < C.w0.heap.size → ¬ C.wb b → w.heap[b]? = C.w0.heap[b]?
  glob : ∀ f ∈ C.G, f.p C.w0 ∧ ¬ C.wb f.g
/-- One object more. -/
def Lc.add (r : Lc) (id : Nat) (p : Option (Blk × Nat)) : Lc := fun k => if k = id then some p else r k
theorem Lc.add_le {r : Lc} {id : Nat} (h : r id = none) (p : Option (Blk × Nat)) : r.le (r.add id p) := fun k q hq => by
  unfold Lc.add
  by_cases e : k = id
  · subst e; rw [h] at hq; cases hq
  · rw [if_neg e]; exact hq
theorem Lc.add_same (r : Lc) (id : Nat) (p : Option (Blk × Nat)) : r.add id p id = some p := by simp [Lc.add]
theorem Lc.add_other (r : Lc) {id k : Nat} (p : Option (Blk × Nat)) (h : k ≠ id) : r.add id p k = r k := by simp [Lc.add, h]
theorem Holds.le {r r' : Lc} (h : r.le r') {xs : List AV} {cs : Array Value} (hh : Holds r xs cs) : Holds r' xs cs := fun j x hx =>
  let ⟨u, h1, h2⟩ := hh j x hx
  ⟨u, h1, AV.rel_le h h2⟩
theorem ObjRel.le {r r' : Lc} (h : r.le r') {w : World} {p : Option (Blk × Nat)} {o : SObj} (hh : ObjRel r w p o) : ObjRel r' w p o := fun hl =>
  (hh hl).imp id fun ⟨g, c, cs, h1, h2, h3, h4⟩ => ⟨g, c, cs, h1, h2, h3, h4.le h⟩
theorem ObjRel.at {r : Lc} {w w' : World} {p : Option (Blk × Nat)} {o : SObj} (hh : ObjRel r w p o) (hw : ∀ (g : Blk) c, p = some (g, c) → w'.heap[g.1]? = w.heap[g.1]?) : ObjRel r w' p o := fun hl =>
  (hh hl).imp id fun ⟨g, c, cs, h1, ⟨ds, t, fz, h2, h2'⟩, h3, h4⟩ => ⟨g, c, cs, h1, ⟨ds, t, fz, (hw g c h1).trans h2, h2'⟩, h3, h4⟩
theorem RowAt.lt {w : World} {g : Blk} {cs : Array Value} (h : RowAt w g cs) : g.1 < w.heap.size := by
  obtain ⟨ds, t, fz, h, _⟩ := h
  exact (Array.getElem?_eq_some_iff.1 h).1
theorem RowAt.cell {w : World} {g : Blk} {cs : Array Value} (h : RowAt w g cs) (j : Nat) : w.cell? ⟨g.1, j + g.off, none⟩ = cs[j]? := by
  obtain ⟨ds, t, fz, h, h', _⟩ := h
  rw [← h']
  exact cell_of_row w g.1 (j + g.off) ds t fz h
theorem RowAt.cell0 {w : World} {b : Nat} {cs : Array Value} (h : RowAt w (b, none) cs) (j : Nat) : w.cell? ⟨b, j, none⟩ = cs[j]? := h.cell j
theorem RowAt.free {w : World} {b : Nat} {cs : Array Value} (h : RowAt w (b, none) cs) (j : Nat) (hj : j < cs.size) : w.frozen? ⟨b, j, none⟩ = false := by
  obtain ⟨ds, t, fz, h, _, hf⟩ := h
  have := hf rfl j hj
  simp only [World.frozen?, h]
  simp only [Bool.and_eq_false_iff, decide_eq_false_iff_not]
  omega
theorem RowAt.put {w : World} {b : Nat} {cs : Array Value} (h : RowAt w (b, none) cs) (j : Nat) (u : Value) : RowAt (w.setCell ⟨b, j, none⟩ u) (b, none) (cs.setIfInBounds j u) := by
  obtain ⟨ds, t, fz, h, h', hf⟩ := h
  have e : ds = cs := Array.ext_getElem? fun i => h' i
  subst e
  refine ⟨ds.setIfInBounds j u, t, fz, by simp [World.setCell, Array.getElem?_modify, h], fun _ => rfl, fun _ i hi => hf rfl i (by simpa using hi)⟩
namespace HeapOk
variable {C : Ctx} {r : Lc} {hp : List (Nat × Ent)} {w w' : World}
theorem lt (h : HeapOk C r hp w) {id : Nat} {e : Ent} {g : Blk} {c : Nat} (he : aget hp id = some e) (hl : e.o.live = true) (hr : r id = some (some (g, c))) : g.1 < w.heap.size := by
  rcases h.obj id e _ he hr hl with ⟨h1, _⟩ | ⟨g', c', cs, h1, h2, _⟩
  · cases h1
  · cases h1; exact h2.lt
/-- The world may have drawn, and may have grown by what no object lies in. -/
theorem move (h : HeapOk C r hp w) (hos : w'.os = w.os) (ht : w'.tape = w.tape) (ho : w'.output = w.output) (hs : w.heap.size ≤ w'.heap.size) (hb : ∀ b, b < w.heap.size → w'.heap[b]? = w.heap[b]?) : HeapOk C r hp w' where
  dom := h.dom
  obj id e p he hr := by
    intro hl
    refine (h.obj id e p he hr).at (fun g c hp' => ?_) hl
    subst hp'
    exact hb g.1 (h.lt he hl hr)
  inj := h.inj
  own := h.own
  os := hos.trans h.os
  tape := ht.trans h.tape
  glob := h.glob
  output := ho.trans h.output
  size := Nat.le_trans h.size hs
  same b h1 h2 := (hb b (Nat.lt_of_lt_of_le h1 h.size)).trans (h.same b h1 h2)
theorem drewN (h : HeapOk C r hp w) (n : Nat) : HeapOk C r hp (w.drewN n) := h.move rfl rfl rfl (Nat.le_refl _) fun _ _ => rfl
theorem drew (h : HeapOk C r hp w) : HeapOk C r hp w.drew := h.move rfl rfl rfl (Nat.le_refl _) fun _ _ => rfl
/-- A new object. -/
theorem make (h : HeapOk C r hp w) {id : Nat} (hid : aget hp id = none) (o : SObj) (p : Option (Blk × Nat)) (hos : w'.os = w.os) (ht : w'.tape = w.tape) (ho : w'.output = w.output)
    (hs : w.heap.size ≤ w'.heap.size) (hb : ∀ b, b < w.heap.size → w'.heap[b]? = w.heap[b]?) (hn : ∀ (g : Blk) c, p = some (g, c) → w.heap.size ≤ g.1 ∧ g.2 = none) (hobj : ObjRel (r.add id p) w' p o) :
    HeapOk C (r.add id p) (aset hp id ⟨o, true⟩) w' where
  dom k := by
    rw [aget_aset]
    by_cases e : id = k
    · subst e; simp [Lc.add_same]
    · rw [if_neg e, Lc.add_other _ _ (Ne.symm e)]; exact h.dom k
  obj k e q he hr := by
    have hle := Lc.add_le ((h.dom id).2 hid) p
    rw [aget_aset] at he
    by_cases e' : id = k
    · subst e'
      rw [if_pos rfl] at he
      cases he
      rw [Lc.add_same] at hr
      cases hr
      exact hobj
    · rw [if_neg e'] at he
      rw [Lc.add_other _ _ (Ne.symm e')] at hr
      intro hl
      refine ((h.obj k e q he hr).at (fun g c hp' => ?_)).le hle hl
      subst hp'
      exact hb g.1 (h.lt he hl hr)
  inj i j e f g g' c d hi hj li lj ri rj wi hg := by
    rw [aget_aset] at hi hj
    by_cases ei : id = i <;> by_cases ej : id = j
    · exact ei.symm.trans ej
    · subst ei
      rw [if_neg ej] at hj
      rw [Lc.add_same] at ri
      rw [Lc.add_other _ _ (Ne.symm ej)] at rj
      have := h.lt hj lj rj
      have := (hn g c (Option.some.inj ri)).1
      omega
    · subst ej
      rw [if_neg ei] at hi
      rw [Lc.add_same] at rj
      rw [Lc.add_other _ _ (Ne.symm ei)] at ri
      have := h.lt hi li ri
      have := (hn g' d (Option.some.inj rj)).1
      omega
    · rw [if_neg ei] at hi
      rw [if_neg ej] at hj
      rw [Lc.add_other _ _ (Ne.symm ei)] at ri
      rw [Lc.add_other _ _ (Ne.symm ej)] at rj
      exact h.inj i j e f g g' c d hi hj li lj ri rj wi hg
  own k e g c he hl hwr hr := by
    rw [aget_aset] at he
    by_cases e' : id = k
    · subst e'
      rw [Lc.add_same] at hr
      exact ⟨(hn g c (Option.some.inj hr)).2, .inr (Nat.le_trans h.size (hn g c (Option.some.inj hr)).1)⟩
    · rw [if_neg e'] at he
      rw [Lc.add_other _ _ (Ne.symm e')] at hr
      exact h.own k e g c he hl hwr hr
  os := hos.trans h.os
  tape := ht.trans h.tape
  glob := h.glob
  output := ho.trans h.output
  size := Nat.le_trans h.size hs
  same b h1 h2 := (hb b (Nat.lt_of_lt_of_le h1 h.size)).trans (h.same b h1 h2)
/-- An object that is turned where it lies. -/
theorem turn (h : HeapOk C r hp w) {id : Nat} {e : Ent} {g : Blk} {c : Nat} (he : aget hp id = some e) (hl : e.o.live = true) (hwr : e.wr = true) (hr : r id = some (some (g, c))) (o : SObj)
    (hos : w'.os = w.os) (ht : w'.tape = w.tape) (ho : w'.output = w.output) (hs : w.heap.size ≤ w'.heap.size) (hb : ∀ b, b < w.heap.size → b ≠ g.1 → w'.heap[b]? = w.heap[b]?)
    (hobj : ObjRel r w' (some (g, c)) o) : HeapOk C r (aset hp id ⟨o, true⟩) w' where
  dom k := by
    rw [aget_aset]
    by_cases e' : id = k
    · subst e'; simp [hr]
    · rw [if_neg e']; exact h.dom k
  obj k f q hf hq := by
    rw [aget_aset] at hf
    by_cases e' : id = k
    · subst e'
      rw [if_pos rfl] at hf
      cases hf
      rw [hr] at hq
      cases hq
      exact hobj
    · rw [if_neg e'] at hf
      intro hlf
      refine (h.obj k f q hf hq).at (fun g' c' hp' => ?_) hlf
      subst hp'
      refine hb g'.1 (h.lt hf hlf hq) fun e1 => ?_
      exact e' (h.inj id k e f g g' c c' he hf hl hlf hr hq hwr e1.symm)
  inj i j e1 f1 g1 g2 c1 d1 hi hj li lj ri rj wi hg := by
    rw [aget_aset] at hi hj
    by_cases ei : id = i <;> by_cases ej : id = j
    · exact ei.symm.trans ej
    · subst ei
      rw [if_neg ej] at hj
      exact h.inj id j e f1 g1 g2 c1 d1 he hj hl lj ri rj hwr hg
    · subst ej
      rw [if_neg ei] at hi
      exact h.inj i id e1 e g1 g2 c1 d1 hi he li hl ri rj wi hg
    · rw [if_neg ei] at hi
      rw [if_neg ej] at hj
      exact h.inj i j e1 f1 g1 g2 c1 d1 hi hj li lj ri rj wi hg
  own k f g' c' hf hlf hwf hq := by
    rw [aget_aset] at hf
    by_cases e' : id = k
    · subst e'
      exact h.own id e g' c' he hl hwr hq
    · rw [if_neg e'] at hf
      exact h.own k f g' c' hf hlf hwf hq
  os := hos.trans h.os
  tape := ht.trans h.tape
  glob := h.glob
  output := ho.trans h.output
  size := Nat.le_trans h.size hs
  same b h1 h2 := by
    refine (hb b (Nat.lt_of_lt_of_le h1 h.size) fun e' => ?_).trans (h.same b h1 h2)
    subst e'
    rcases (h.own id e g c he hl hwr hr).2 with h3 | h3
    · exact h2 h3
    · omega
/-- An object that is given up. -/
theorem kill (h : HeapOk C r hp w) {id : Nat} {e : Ent} (he : aget hp id = some e) : HeapOk C r (aset hp id ⟨.dead, true⟩) w where
  dom k := by
    rw [aget_aset]
    by_cases e' : id = k
    · subst e'
      rw [if_pos rfl]
      refine ⟨fun h1 => ?_, fun h1 => by cases h1⟩
      rw [(h.dom id).1 h1] at he
      cases he
    · rw [if_neg e']; exact h.dom k
  obj k f q hf hq := by
    rw [aget_aset] at hf
    by_cases e' : id = k
    · rw [if_pos e'] at hf
      cases hf
      intro hl
      cases hl
    · rw [if_neg e'] at hf
      exact h.obj k f q hf hq
  inj i j e1 f1 g1 g2 c1 d1 hi hj li lj ri rj wi hg := by
    rw [aget_aset] at hi hj
    by_cases ei : id = i
    · rw [if_pos ei] at hi; cases hi; cases li
    · by_cases ej : id = j
      · rw [if_pos ej] at hj; cases hj; cases lj
      · rw [if_neg ei] at hi
        rw [if_neg ej] at hj
        exact h.inj i j e1 f1 g1 g2 c1 d1 hi hj li lj ri rj wi hg
  own k f g' c' hf hlf hwf hq := by
    rw [aget_aset] at hf
    by_cases e' : id = k
    · rw [if_pos e'] at hf; cases hf; cases hlf
    · rw [if_neg e'] at hf
      exact h.own k f g' c' hf hlf hwf hq
  os := h.os
  tape := h.tape
  glob := h.glob
  output := h.output
  size := h.size
  same := h.same
/-- What was given up lives on under a new number, where it lay, turned. -/
theorem pass (h : HeapOk C r hp w) {id id' : Nat} {e : Ent} {g : Blk} {c c' : Nat} (he : aget hp id = some e) (hl : e.o.live = true) (hwr : e.wr = true) (hr : r id = some (some (g, c))) (hid : aget hp id' = none) (o : SObj)
    (hos : w'.os = w.os) (ht : w'.tape = w.tape) (ho : w'.output = w.output) (hs : w.heap.size ≤ w'.heap.size) (hb : ∀ b, b < w.heap.size → b ≠ g.1 → w'.heap[b]? = w.heap[b]?)
    (hobj : ObjRel r w' (some (g, c')) o) : HeapOk C (r.add id' (some (g, c'))) (aset (aset hp id ⟨.dead, true⟩) id' ⟨o, true⟩) w' := by
  have hne : id ≠ id' := fun e' => by rw [← e', he] at hid; cases hid
  have hle := Lc.add_le ((h.dom id').2 hid) (some (g, c'))
  have fresh : ∀ k f g1 c1, aget (aset hp id ⟨.dead, true⟩) k = some f → f.o.live = true → r k = some (some (g1, c1)) → aget hp k = some f ∧ k ≠ id := fun k f g1 c1 hk hlk _ => by
    rw [aget_aset] at hk
    by_cases e' : id = k
    · rw [if_pos e'] at hk; cases hk; cases hlk
    · rw [if_neg e'] at hk; exact ⟨hk, Ne.symm e'⟩
  exact {
    dom := fun k => by
      rw [aget_aset]
      by_cases e' : id' = k
      · subst e'; simp [Lc.add_same]
      · rw [if_neg e', Lc.add_other _ _ (Ne.symm e')]; exact (h.kill he).dom k
    obj := fun k f q hf hq => by
      rw [aget_aset] at hf
      by_cases e' : id' = k
      · subst e'
        rw [if_pos rfl] at hf
        cases hf
        rw [Lc.add_same] at hq
        cases hq
        exact hobj.le hle
      · rw [if_neg e'] at hf
        rw [Lc.add_other _ _ (Ne.symm e')] at hq
        intro hlf
        refine (((h.kill he).obj k f q hf hq).at (fun g' c' hp' => ?_)).le hle hlf
        subst hp'
        obtain ⟨hk, hki⟩ := fresh k f g' c' hf hlf hq
        refine hb g'.1 (h.lt hk hlf hq) fun e1 => ?_
        exact hki (h.inj id k e f g g' c c' he hk hl hlf hr hq hwr e1.symm).symm
    inj := fun i j e1 f1 g1 g2 c1 d1 hi hj li lj ri rj wi hg => by
      rw [aget_aset] at hi hj
      by_cases ei : id' = i <;> by_cases ej : id' = j
      · exact ei.symm.trans ej
      · subst ei
        rw [if_neg ej] at hj
        rw [Lc.add_same] at ri
        rw [Lc.add_other _ _ (Ne.symm ej)] at rj
        cases ri
        obtain ⟨hk, hki⟩ := fresh j f1 _ _ hj lj rj
        exact (hki (h.inj id j e f1 _ _ _ _ he hk hl lj hr rj hwr hg).symm).elim
      · subst ej
        rw [if_neg ei] at hi
        rw [Lc.add_same] at rj
        rw [Lc.add_other _ _ (Ne.symm ei)] at ri
        cases rj
        obtain ⟨hk, hki⟩ := fresh i e1 _ _ hi li ri
        exact (hki (h.inj i id e1 e _ _ _ _ hk he li hl ri hr wi hg)).elim
      · rw [if_neg ei] at hi
        rw [if_neg ej] at hj
        rw [Lc.add_other _ _ (Ne.symm ei)] at ri
        rw [Lc.add_other _ _ (Ne.symm ej)] at rj
        exact (h.kill he).inj i j e1 f1 g1 g2 c1 d1 hi hj li lj ri rj wi hg
    own := fun k f g' c' hf hlf hwf hq => by
      rw [aget_aset] at hf
      by_cases e' : id' = k
      · subst e'
        rw [Lc.add_same] at hq
        injection hq with hq
        injection hq with hq
        injection hq with hg hc
        subst hg
        exact h.own id e g c he hl hwr hr
      · rw [if_neg e'] at hf
        rw [Lc.add_other _ _ (Ne.symm e')] at hq
        exact (h.kill he).own k f g' c' hf hlf hwf hq
    os := hos.trans h.os
    tape := ht.trans h.tape
    glob := h.glob
    output := ho.trans h.output
    size := Nat.le_trans h.size hs
    same := fun b h1 h2 => by
      refine (hb b (Nat.lt_of_lt_of_le h1 h.size) fun e' => ?_).trans (h.same b h1 h2)
      subst e'
      rcases (h.own id e g c he hl hwr hr).2 with h3 | h3
      · exact h2 h3
      · omega }
/-- What the variables hold that nobody writes. -/
theorem facts (h : HeapOk C r hp w) : ∀ f ∈ C.G, f.p w := fun f hf => f.st _ _ (h.same f.g (f.lt _ (h.glob f hf).1) (h.glob f hf).2) (h.glob f hf).1
end HeapOk
end Go.Proofs.YtahiopdkekkibaaGreatDoor

/-
  A walk by reckoning, part 3: arithmetic on what is known. It speaks of no program.
-/
namespace Go.Proofs.YtahiopdkekkibaaGreatDoor
open Go
set_option linter.unusedSimpArgs false
set_option linter.unusedVariables false

def AllT : List Prop → Prop
  | [] => True
  | p :: l => p ∧ AllT l
theorem AllT.append : ∀ {a b : List Prop}, AllT (a ++ b) ↔ AllT a ∧ AllT b
  | [], _ => by simp [AllT]
  | _ :: a, b => by simp only [List.cons_append, AllT, AllT.append (a := a) (b := b), and_assoc]


def shl8 (x : UInt8) (n : Nat) : UInt8 := if n < 8 then x <<< UInt8.ofNat n else 0
def shr8 (x : UInt8) (n : Nat) : UInt8 := if n < 8 then x >>> UInt8.ofNat n else 0
theorem ofI8 (x : UInt8) : BitVec.ofInt 8 (x.toNat : Int) = x.toBitVec := by
  apply BitVec.eq_of_toNat_eq; simp
theorem wr8 (n : Nat) : IntKind.u8.wrap (n : Int) = ((UInt8.ofNat n).toNat : Int) := by
  rw [IntKind.wrap_u8]; simp
theorem wb8 (b : BitVec 8) : IntKind.u8.wrap (b.toNat : Int) = ((UInt8.ofBitVec b).toNat : Int) := by
  rw [wr8]; simp
theorem add8 (x y : UInt8) : IntKind.u8.wrap ((x.toNat : Int) + (y.toNat : Int)) = ((x + y).toNat : Int) := by
  rw [IntKind.wrap_u8, UInt8.toNat_add]; omega
theorem sub8 (x y : UInt8) : IntKind.u8.wrap ((x.toNat : Int) - (y.toNat : Int)) = ((x - y).toNat : Int) := by
  have := x.toNat_lt; have := y.toNat_lt
  rw [IntKind.wrap_u8, UInt8.toNat_sub]; omega
theorem mul8 (x y : UInt8) : IntKind.u8.wrap ((x.toNat : Int) * (y.toNat : Int)) = ((x * y).toNat : Int) := by
  rw [IntKind.wrap_u8, UInt8.toNat_mul, ← Int.natCast_mul, Int.natCast_emod]; rfl
theorem shlw8 (x : UInt8) (n : Nat) : IntKind.u8.wrap ((x.toNat : Int) * 2 ^ (min n 8)) = ((shl8 x n).toNat : Int) := by
  rw [IntKind.wrap_u8]
  unfold shl8
  by_cases h : n < 8
  · have h1 : (UInt8.ofNat n).toNat = n := by simp; omega
    rw [if_pos h, UInt8.toNat_shiftLeft, h1, Nat.mod_eq_of_lt h, Nat.shiftLeft_eq, Nat.min_eq_left (Nat.le_of_lt h), Int.natCast_emod, Int.natCast_mul]; simp
  · rw [if_neg h, Nat.min_eq_right (by omega)]; simp
theorem shrw8 (x : UInt8) (n : Nat) : ((x.toNat : Int)).fdiv (2 ^ (min n 8)) = ((shr8 x n).toNat : Int) := by
  have hx := x.toNat_lt
  have e : ∀ m : Nat, ((x.toNat : Int)).fdiv (2 ^ m) = ((x.toNat / 2 ^ m : Nat) : Int) := fun m => by
    rw [Int.fdiv_eq_ediv_of_nonneg _ (by exact Int.le_of_lt (Int.pow_pos (by decide)))]; simp
  rw [e]
  unfold shr8
  by_cases h : n < 8
  · have h1 : (UInt8.ofNat n).toNat = n := by simp; omega
    rw [if_pos h, UInt8.toNat_shiftRight, h1, Nat.mod_eq_of_lt h, Nat.shiftRight_eq_div_pow, Nat.min_eq_left (Nat.le_of_lt h)]
  · rw [if_neg h, Nat.min_eq_right (by omega)]
    rw [Nat.div_eq_of_lt (by simpa using hx)]; rfl
theorem and8 (x y : UInt8) : IntKind.u8.wrap (((BitVec.ofInt IntKind.u8.bits (x.toNat : Int) &&& BitVec.ofInt IntKind.u8.bits (y.toNat : Int)).toNat : Nat) : Int) = ((x &&& y).toNat : Int) := by
  show IntKind.u8.wrap (((BitVec.ofInt 8 (x.toNat : Int) &&& BitVec.ofInt 8 (y.toNat : Int)).toNat : Nat) : Int) = _
  rw [ofI8, ofI8, wb8]; rfl
theorem or8 (x y : UInt8) : IntKind.u8.wrap (((BitVec.ofInt IntKind.u8.bits (x.toNat : Int) ||| BitVec.ofInt IntKind.u8.bits (y.toNat : Int)).toNat : Nat) : Int) = ((x ||| y).toNat : Int) := by
  show IntKind.u8.wrap (((BitVec.ofInt 8 (x.toNat : Int) ||| BitVec.ofInt 8 (y.toNat : Int)).toNat : Nat) : Int) = _
  rw [ofI8, ofI8, wb8]; rfl
theorem xor8 (x y : UInt8) : IntKind.u8.wrap (((BitVec.ofInt IntKind.u8.bits (x.toNat : Int) ^^^ BitVec.ofInt IntKind.u8.bits (y.toNat : Int)).toNat : Nat) : Int) = ((x ^^^ y).toNat : Int) := by
  show IntKind.u8.wrap (((BitVec.ofInt 8 (x.toNat : Int) ^^^ BitVec.ofInt 8 (y.toNat : Int)).toNat : Nat) : Int) = _
  rw [ofI8, ofI8, wb8]; rfl
theorem quo8 (x y : UInt8) : IntKind.u8.wrap ((x.toNat : Int).tdiv (y.toNat : Int)) = ((x / y).toNat : Int) := by
  have := x.toNat_lt
  have h := Nat.div_le_self x.toNat y.toNat
  have h2 : x.toNat / y.toNat < 256 := by omega
  rw [← Int.ofNat_tdiv, IntKind.wrap_u8, UInt8.toNat_div]; generalize x.toNat / y.toNat = z at h2; omega
theorem rem8 (x y : UInt8) : (x.toNat : Int).tmod (y.toNat : Int) = ((x % y).toNat : Int) := by
  rw [← Int.ofNat_tmod, UInt8.toNat_mod]
theorem nz8 (y : UInt8) (h : y ≠ 0) : ¬ ((y.toNat : Int) = 0) := fun e => h (UInt8.toNat_inj.1 (by simp; omega))
theorem eqw8 (x y : UInt8) : ((x.toNat : Int) == (y.toNat : Int)) = (x == y) := by
  by_cases h : x = y
  · subst h; simp
  · rw [beq_eq_false_iff_ne.2 h]
    exact beq_eq_false_iff_ne.2 fun e => h (UInt8.toNat_inj.1 (by omega))
theorem ltw8 (x y : UInt8) : decide ((x.toNat : Int) < (y.toNat : Int)) = decide (x < y) := by
  simp [UInt8.lt_iff_toNat_lt]
theorem lew8 (x y : UInt8) : decide ((x.toNat : Int) ≤ (y.toNat : Int)) = decide (x ≤ y) := by
  simp [UInt8.le_iff_toNat_le]
theorem ofInt8 (n : Int) : IntKind.u8.wrap n = ((UInt8.ofNat (n % 256).toNat).toNat : Int) := by
  rw [IntKind.wrap_u8]
  have := Int.emod_nonneg n (show (256 : Int) ≠ 0 by decide)
  have := Int.emod_lt_of_pos n (show (0 : Int) < 256 by decide)
  simp; omega


def shl32 (x : UInt32) (n : Nat) : UInt32 := if n < 32 then x <<< UInt32.ofNat n else 0
def shr32 (x : UInt32) (n : Nat) : UInt32 := if n < 32 then x >>> UInt32.ofNat n else 0
theorem ofI32 (x : UInt32) : BitVec.ofInt 32 (x.toNat : Int) = x.toBitVec := by
  apply BitVec.eq_of_toNat_eq; simp
theorem wr32 (n : Nat) : IntKind.u32.wrap (n : Int) = ((UInt32.ofNat n).toNat : Int) := by
  rw [IntKind.wrap_u32]; simp
theorem wb32 (b : BitVec 32) : IntKind.u32.wrap (b.toNat : Int) = ((UInt32.ofBitVec b).toNat : Int) := by
  rw [wr32]; simp
theorem add32 (x y : UInt32) : IntKind.u32.wrap ((x.toNat : Int) + (y.toNat : Int)) = ((x + y).toNat : Int) := by
  rw [IntKind.wrap_u32, UInt32.toNat_add]; omega
theorem sub32 (x y : UInt32) : IntKind.u32.wrap ((x.toNat : Int) - (y.toNat : Int)) = ((x - y).toNat : Int) := by
  have := x.toNat_lt; have := y.toNat_lt
  rw [IntKind.wrap_u32, UInt32.toNat_sub]; omega
theorem mul32 (x y : UInt32) : IntKind.u32.wrap ((x.toNat : Int) * (y.toNat : Int)) = ((x * y).toNat : Int) := by
  rw [IntKind.wrap_u32, UInt32.toNat_mul, ← Int.natCast_mul, Int.natCast_emod]; rfl
theorem shlw32 (x : UInt32) (n : Nat) : IntKind.u32.wrap ((x.toNat : Int) * 2 ^ (min n 32)) = ((shl32 x n).toNat : Int) := by
  rw [IntKind.wrap_u32]
  unfold shl32
  by_cases h : n < 32
  · have h1 : (UInt32.ofNat n).toNat = n := by simp; omega
    rw [if_pos h, UInt32.toNat_shiftLeft, h1, Nat.mod_eq_of_lt h, Nat.shiftLeft_eq, Nat.min_eq_left (Nat.le_of_lt h), Int.natCast_emod, Int.natCast_mul]; simp
  · rw [if_neg h, Nat.min_eq_right (by omega)]; simp
theorem shrw32 (x : UInt32) (n : Nat) : ((x.toNat : Int)).fdiv (2 ^ (min n 32)) = ((shr32 x n).toNat : Int) := by
  have hx := x.toNat_lt
  have e : ∀ m : Nat, ((x.toNat : Int)).fdiv (2 ^ m) = ((x.toNat / 2 ^ m : Nat) : Int) := fun m => by
    rw [Int.fdiv_eq_ediv_of_nonneg _ (by exact Int.le_of_lt (Int.pow_pos (by decide)))]; simp
  rw [e]
  unfold shr32
  by_cases h : n < 32
  · have h1 : (UInt32.ofNat n).toNat = n := by simp; omega
    rw [if_pos h, UInt32.toNat_shiftRight, h1, Nat.mod_eq_of_lt h, Nat.shiftRight_eq_div_pow, Nat.min_eq_left (Nat.le_of_lt h)]
  · rw [if_neg h, Nat.min_eq_right (by omega)]
    rw [Nat.div_eq_of_lt (by simpa using hx)]; rfl
theorem and32 (x y : UInt32) : IntKind.u32.wrap (((BitVec.ofInt IntKind.u32.bits (x.toNat : Int) &&& BitVec.ofInt IntKind.u32.bits (y.toNat : Int)).toNat : Nat) : Int) = ((x &&& y).toNat : Int) := by
  show IntKind.u32.wrap (((BitVec.ofInt 32 (x.toNat : Int) &&& BitVec.ofInt 32 (y.toNat : Int)).toNat : Nat) : Int) = _
  rw [ofI32, ofI32, wb32]; rfl
theorem or32 (x y : UInt32) : IntKind.u32.wrap (((BitVec.ofInt IntKind.u32.bits (x.toNat : Int) ||| BitVec.ofInt IntKind.u32.bits (y.toNat : Int)).toNat : Nat) : Int) = ((x ||| y).toNat : Int) := by
  show IntKind.u32.wrap (((BitVec.ofInt 32 (x.toNat : Int) ||| BitVec.ofInt 32 (y.toNat : Int)).toNat : Nat) : Int) = _
  rw [ofI32, ofI32, wb32]; rfl
theorem xor32 (x y : UInt32) : IntKind.u32.wrap (((BitVec.ofInt IntKind.u32.bits (x.toNat : Int) ^^^ BitVec.ofInt IntKind.u32.bits (y.toNat : Int)).toNat : Nat) : Int) = ((x ^^^ y).toNat : Int) := by
  show IntKind.u32.wrap (((BitVec.ofInt 32 (x.toNat : Int) ^^^ BitVec.ofInt 32 (y.toNat : Int)).toNat : Nat) : Int) = _
  rw [ofI32, ofI32, wb32]; rfl
theorem quo32 (x y : UInt32) : IntKind.u32.wrap ((x.toNat : Int).tdiv (y.toNat : Int)) = ((x / y).toNat : Int) := by
  have := x.toNat_lt
  have h := Nat.div_le_self x.toNat y.toNat
  have h2 : x.toNat / y.toNat < 4294967296 := by omega
  rw [← Int.ofNat_tdiv, IntKind.wrap_u32, UInt32.toNat_div]; generalize x.toNat / y.toNat = z at h2; omega
theorem rem32 (x y : UInt32) : (x.toNat : Int).tmod (y.toNat : Int) = ((x % y).toNat : Int) := by
  rw [← Int.ofNat_tmod, UInt32.toNat_mod]
theorem nz32 (y : UInt32) (h : y ≠ 0) : ¬ ((y.toNat : Int) = 0) := fun e => h (UInt32.toNat_inj.1 (by simp; omega))
theorem eqw32 (x y : UInt32) : ((x.toNat : Int) == (y.toNat : Int)) = (x == y) := by
  by_cases h : x = y
  · subst h; simp
  · rw [beq_eq_false_iff_ne.2 h]
    exact beq_eq_false_iff_ne.2 fun e => h (UInt32.toNat_inj.1 (by omega))
theorem ltw32 (x y : UInt32) : decide ((x.toNat : Int) < (y.toNat : Int)) = decide (x < y) := by
  simp [UInt32.lt_iff_toNat_lt]
theorem lew32 (x y : UInt32) : decide ((x.toNat : Int) ≤ (y.toNat : Int)) = decide (x ≤ y) := by
  simp [UInt32.le_iff_toNat_le]
theorem ofInt32 (n : Int) : IntKind.u32.wrap n = ((UInt32.ofNat (n % 4294967296).toNat).toNat : Int) := by
  rw [IntKind.wrap_u32]
  have := Int.emod_nonneg n (show (4294967296 : Int) ≠ 0 by decide)
  have := Int.emod_lt_of_pos n (show (0 : Int) < 4294967296 by decide)
  simp; omega


def shl64 (x : UInt64) (n : Nat) : UInt64 := if n < 64 then x <<< UInt64.ofNat n else 0
def shr64 (x : UInt64) (n : Nat) : UInt64 := if n < 64 then x >>> UInt64.ofNat n else 0
theorem ofI64 (x : UInt64) : BitVec.ofInt 64 (x.toNat : Int) = x.toBitVec := by
  apply BitVec.eq_of_toNat_eq; simp
theorem wr64 (n : Nat) : IntKind.u64.wrap (n : Int) = ((UInt64.ofNat n).toNat : Int) := by
  rw [IntKind.wrap_u64]; simp
theorem wb64 (b : BitVec 64) : IntKind.u64.wrap (b.toNat : Int) = ((UInt64.ofBitVec b).toNat : Int) := by
  rw [wr64]; simp
theorem add64 (x y : UInt64) : IntKind.u64.wrap ((x.toNat : Int) + (y.toNat : Int)) = ((x + y).toNat : Int) := by
  rw [IntKind.wrap_u64, UInt64.toNat_add]; omega
theorem sub64 (x y : UInt64) : IntKind.u64.wrap ((x.toNat : Int) - (y.toNat : Int)) = ((x - y).toNat : Int) := by
  have := x.toNat_lt; have := y.toNat_lt
  rw [IntKind.wrap_u64, UInt64.toNat_sub]; omega
theorem mul64 (x y : UInt64) : IntKind.u64.wrap ((x.toNat : Int) * (y.toNat : Int)) = ((x * y).toNat : Int) := by
  rw [IntKind.wrap_u64, UInt64.toNat_mul, ← Int.natCast_mul, Int.natCast_emod]; rfl
theorem shlw64 (x : UInt64) (n : Nat) : IntKind.u64.wrap ((x.toNat : Int) * 2 ^ (min n 64)) = ((shl64 x n).toNat : Int) := by
  rw [IntKind.wrap_u64]
  unfold shl64
  by_cases h : n < 64
  · have h1 : (UInt64.ofNat n).toNat = n := by simp; omega
    rw [if_pos h, UInt64.toNat_shiftLeft, h1, Nat.mod_eq_of_lt h, Nat.shiftLeft_eq, Nat.min_eq_left (Nat.le_of_lt h), Int.natCast_emod, Int.natCast_mul]; simp
  · rw [if_neg h, Nat.min_eq_right (by omega)]; simp
theorem shrw64 (x : UInt64) (n : Nat) : ((x.toNat : Int)).fdiv (2 ^ (min n 64)) = ((shr64 x n).toNat : Int) := by
  have hx := x.toNat_lt
  have e : ∀ m : Nat, ((x.toNat : Int)).fdiv (2 ^ m) = ((x.toNat / 2 ^ m : Nat) : Int) := fun m => by
    rw [Int.fdiv_eq_ediv_of_nonneg _ (by exact Int.le_of_lt (Int.pow_pos (by decide)))]; simp
  rw [e]
  unfold shr64
  by_cases h : n < 64
  · have h1 : (UInt64.ofNat n).toNat = n := by simp; omega
    rw [if_pos h, UInt64.toNat_shiftRight, h1, Nat.mod_eq_of_lt h, Nat.shiftRight_eq_div_pow, Nat.min_eq_left (Nat.le_of_lt h)]
  · rw [if_neg h, Nat.min_eq_right (by omega)]
    rw [Nat.div_eq_of_lt (by simpa using hx)]; rfl
theorem and64 (x y : UInt64) : IntKind.u64.wrap (((BitVec.ofInt IntKind.u64.bits (x.toNat : Int) &&& BitVec.ofInt IntKind.u64.bits (y.toNat : Int)).toNat : Nat) : Int) = ((x &&& y).toNat : Int) := by
  show IntKind.u64.wrap (((BitVec.ofInt 64 (x.toNat : Int) &&& BitVec.ofInt 64 (y.toNat : Int)).toNat : Nat) : Int) = _
  rw [ofI64, ofI64, wb64]; rfl
theorem or64 (x y : UInt64) : IntKind.u64.wrap (((BitVec.ofInt IntKind.u64.bits (x.toNat : Int) ||| BitVec.ofInt IntKind.u64.bits (y.toNat : Int)).toNat : Nat) : Int) = ((x ||| y).toNat : Int) := by
  show IntKind.u64.wrap (((BitVec.ofInt 64 (x.toNat : Int) ||| BitVec.ofInt 64 (y.toNat : Int)).toNat : Nat) : Int) = _
  rw [ofI64, ofI64, wb64]; rfl
theorem xor64 (x y : UInt64) : IntKind.u64.wrap (((BitVec.ofInt IntKind.u64.bits (x.toNat : Int) ^^^ BitVec.ofInt IntKind.u64.bits (y.toNat : Int)).toNat : Nat) : Int) = ((x ^^^ y).toNat : Int) := by
  show IntKind.u64.wrap (((BitVec.ofInt 64 (x.toNat : Int) ^^^ BitVec.ofInt 64 (y.toNat : Int)).toNat : Nat) : Int) = _
  rw [ofI64, ofI64, wb64]; rfl
theorem quo64 (x y : UInt64) : IntKind.u64.wrap ((x.toNat : Int).tdiv (y.toNat : Int)) = ((x / y).toNat : Int) := by
  have := x.toNat_lt
  have h := Nat.div_le_self x.toNat y.toNat
  have h2 : x.toNat / y.toNat < 18446744073709551616 := by omega
  rw [← Int.ofNat_tdiv, IntKind.wrap_u64, UInt64.toNat_div]; generalize x.toNat / y.toNat = z at h2; omega
theorem rem64 (x y : UInt64) : (x.toNat : Int).tmod (y.toNat : Int) = ((x % y).toNat : Int) := by
  rw [← Int.ofNat_tmod, UInt64.toNat_mod]
theorem nz64 (y : UInt64) (h : y ≠ 0) : ¬ ((y.toNat : Int) = 0) := fun e => h (UInt64.toNat_inj.1 (by simp; omega))
theorem eqw64 (x y : UInt64) : ((x.toNat : Int) == (y.toNat : Int)) = (x == y) := by
  by_cases h : x = y
  · subst h; simp
  · rw [beq_eq_false_iff_ne.2 h]
    exact beq_eq_false_iff_ne.2 fun e => h (UInt64.toNat_inj.1 (by omega))
theorem ltw64 (x y : UInt64) : decide ((x.toNat : Int) < (y.toNat : Int)) = decide (x < y) := by
  simp [UInt64.lt_iff_toNat_lt]
theorem lew64 (x y : UInt64) : decide ((x.toNat : Int) ≤ (y.toNat : Int)) = decide (x ≤ y) := by
  simp [UInt64.le_iff_toNat_le]
theorem ofInt64 (n : Int) : IntKind.u64.wrap n = ((UInt64.ofNat (n % 18446744073709551616).toNat).toNat : Int) := by
  rw [IntKind.wrap_u64]
  have := Int.emod_nonneg n (show (18446744073709551616 : Int) ≠ 0 by decide)
  have := Int.emod_lt_of_pos n (show (0 : Int) < 18446744073709551616 by decide)
  simp; omega


/-- The number of an index or of a count. -/
def AV.toI : AV → Option Int
  | .num x => some x
  | .int _ x => some x
  | .u8 x => some (x.toNat : Int)
  | .u32 x => some (x.toNat : Int)
  | .u64 x => some (x.toNat : Int)
  | _ => none
theorem AV.toI_rel {r : Lc} {x : AV} {i : Int} {u : Value} (h : x.toI = some i) (hr : x.rel r u) : ∃ k, u = .int k i := by
  cases x <;> simp only [AV.toI, Option.some.injEq, reduceCtorEq] at h <;> subst h <;> exact ⟨_, hr⟩
def orI (a b : Int) : Int := IntKind.i64.wrap ((BitVec.ofInt 64 a ||| BitVec.ofInt 64 b).toNat : Int)
def andI (a b : Int) : Int := IntKind.i64.wrap ((BitVec.ofInt 64 a &&& BitVec.ofInt 64 b).toNat : Int)
theorem orI_cat (a c : Nat) (ha : a < 256) (hc : c < 256) : orI (a : Int) ((256 * c : Nat) : Int) = ((a + 256 * c : Nat) : Int) := by
  have h : a ||| 256 * c = a + 256 * c := by
    have := Nat.two_pow_add_eq_or_of_lt (i := 8) (b := a) (by omega) c
    rw [Nat.or_comm, Nat.add_comm]
    exact this.symm
  unfold orI
  rw [BitVec.ofInt_natCast, BitVec.ofInt_natCast, BitVec.toNat_or, BitVec.toNat_ofNat, BitVec.toNat_ofNat, Nat.mod_eq_of_lt (by omega), Nat.mod_eq_of_lt (by omega), h, IntKind.wrap_i64]
  omega
/-- An operator on two cells. -/
def binAV (op : BinOp) (x y : AV) : Option (AV × List Prop) :=
  match x with
  | .num a => match y with
    | .num b => match op with
      | .add => some (.num (IntKind.i64.wrap (a + b)), [])
      | .sub => some (.num (IntKind.i64.wrap (a - b)), [])
      | .mul => some (.num (IntKind.i64.wrap (a * b)), [])
      | .quo => some (.num (IntKind.i64.wrap (a.tdiv b)), [b ≠ 0])
      | .rem => some (.num (a.tmod b), [b ≠ 0])
      | .eql => some (.bo (a == b), [])
      | .neq => some (.bo (a != b), [])
      | .lss => some (.bo (decide (a < b)), [])
      | .leq => some (.bo (decide (a ≤ b)), [])
      | .gtr => some (.bo (decide (b < a)), [])
      | .geq => some (.bo (decide (b ≤ a)), [])
      | .or => some (.num (orI a b), [])
      | .and => some (.num (andI a b), [])
      | .shl => some (.num (IntKind.i64.wrap (a * 2 ^ (min b.toNat 64))), [0 ≤ b])
      | .shr => some (.num (a.fdiv (2 ^ (min b.toNat 64))), [0 ≤ b])
      | _ => none
    | .u64 b => match op with
      | .shl => some (.num (IntKind.i64.wrap (a * 2 ^ (min b.toNat 64))), [])
      | .shr => some (.num (a.fdiv (2 ^ (min b.toNat 64))), [])
      | _ => none
    | _ => none
  | .u8 a => match y with
    | .u8 b => match op with
      | .add => some (.u8 (a + b), [])
      | .sub => some (.u8 (a - b), [])
      | .mul => some (.u8 (a * b), [])
      | .quo => some (.u8 (a / b), [b ≠ 0])
      | .rem => some (.u8 (a % b), [b ≠ 0])
      | .and => some (.u8 (a &&& b), [])
      | .or => some (.u8 (a ||| b), [])
      | .xor => some (.u8 (a ^^^ b), [])
      | .eql => some (.bo (a == b), [])
      | .neq => some (.bo (a != b), [])
      | .lss => some (.bo (decide (a < b)), [])
      | .leq => some (.bo (decide (a ≤ b)), [])
      | .gtr => some (.bo (decide (b < a)), [])
      | .geq => some (.bo (decide (b ≤ a)), [])
      | .shl => some (.u8 (shl8 a b.toNat), [])
      | .shr => some (.u8 (shr8 a b.toNat), [])
      | _ => none
    | .num b => match op with
      | .shl => some (.u8 (shl8 a b.toNat), [0 ≤ b])
      | .shr => some (.u8 (shr8 a b.toNat), [0 ≤ b])
      | _ => none
    | .u64 b => match op with
      | .shl => some (.u8 (shl8 a b.toNat), [])
      | .shr => some (.u8 (shr8 a b.toNat), [])
      | _ => none
    | _ => none
  | .u32 a => match y with
    | .u32 b => match op with
      | .add => some (.u32 (a + b), [])
      | .sub => some (.u32 (a - b), [])
      | .mul => some (.u32 (a * b), [])
      | .quo => some (.u32 (a / b), [b ≠ 0])
      | .rem => some (.u32 (a % b), [b ≠ 0])
      | .and => some (.u32 (a &&& b), [])
      | .or => some (.u32 (a ||| b), [])
      | .xor => some (.u32 (a ^^^ b), [])
      | .eql => some (.bo (a == b), [])
      | .neq => some (.bo (a != b), [])
      | .lss => some (.bo (decide (a < b)), [])
      | .leq => some (.bo (decide (a ≤ b)), [])
      | .gtr => some (.bo (decide (b < a)), [])
      | .geq => some (.bo (decide (b ≤ a)), [])
      | .shl => some (.u32 (shl32 a b.toNat), [])
      | .shr => some (.u32 (shr32 a b.toNat), [])
      | _ => none
    | .num b => match op with
      | .shl => some (.u32 (shl32 a b.toNat), [0 ≤ b])
      | .shr => some (.u32 (shr32 a b.toNat), [0 ≤ b])
      | _ => none
    | .u64 b => match op with
      | .shl => some (.u32 (shl32 a b.toNat), [])
      | .shr => some (.u32 (shr32 a b.toNat), [])
      | _ => none
    | _ => none
  | .u64 a => match y with
    | .u64 b => match op with
      | .add => some (.u64 (a + b), [])
      | .sub => some (.u64 (a - b), [])
      | .mul => some (.u64 (a * b), [])
      | .quo => some (.u64 (a / b), [b ≠ 0])
      | .rem => some (.u64 (a % b), [b ≠ 0])
      | .and => some (.u64 (a &&& b), [])
      | .or => some (.u64 (a ||| b), [])
      | .xor => some (.u64 (a ^^^ b), [])
      | .eql => some (.bo (a == b), [])
      | .neq => some (.bo (a != b), [])
      | .lss => some (.bo (decide (a < b)), [])
      | .leq => some (.bo (decide (a ≤ b)), [])
      | .gtr => some (.bo (decide (b < a)), [])
      | .geq => some (.bo (decide (b ≤ a)), [])
      | .shl => some (.u64 (shl64 a b.toNat), [])
      | .shr => some (.u64 (shr64 a b.toNat), [])
      | _ => none
    | .num b => match op with
      | .shl => some (.u64 (shl64 a b.toNat), [0 ≤ b])
      | .shr => some (.u64 (shr64 a b.toNat), [0 ≤ b])
      | _ => none
    | _ => none
  | .int .u16 a => match y with
    | .int .u16 b => match op with
      | .rem => some (.int .u16 (a.tmod b), [b ≠ 0])
      | _ => none
    | _ => none
  | .str a => match y with
    | .str b => match op with
      | .add => some (.str (a ++ b), [a.length + b.length ≤ 9223372036854775807])
      | .eql => some (.bo (a == b), [])
      | .neq => some (.bo (a != b), [])
      | _ => none
    | _ => none
  | _ => none


theorem beq_bytes (x y : List UInt8) : ((⟨x.toArray⟩ : ByteArray).toList == (⟨y.toArray⟩ : ByteArray).toList) = (x == y) := by
  rw [ByteArray.toList_eq, ByteArray.toList_eq]
section
variable (P : Program) (w : World) (t : TypeId) (p q : Operand) (k k' : IntKind) (a b : Int)
theorem run_add : ((do eqGuard .add t p q (.int k a) (.int k b); binOp .add t (.int k a) (.int k b) : Sem Value)).run P w = .ok (.int k (k.wrap (a + b))) w := by simp [eqGuard, binOp, Op.intArith]
theorem run_sub : ((do eqGuard .sub t p q (.int k a) (.int k b); binOp .sub t (.int k a) (.int k b) : Sem Value)).run P w = .ok (.int k (k.wrap (a - b))) w := by simp [eqGuard, binOp, Op.intArith]
theorem run_mul : ((do eqGuard .mul t p q (.int k a) (.int k b); binOp .mul t (.int k a) (.int k b) : Sem Value)).run P w = .ok (.int k (k.wrap (a * b))) w := by simp [eqGuard, binOp, Op.intArith]
theorem run_quo (h : ¬ b = 0) : ((do eqGuard .quo t p q (.int k a) (.int k b); binOp .quo t (.int k a) (.int k b) : Sem Value)).run P w = .ok (.int k (k.wrap (a.tdiv b))) w := by simp [eqGuard, binOp, Op.intDiv, h]
theorem run_rem (h : ¬ b = 0) : ((do eqGuard .rem t p q (.int k a) (.int k b); binOp .rem t (.int k a) (.int k b) : Sem Value)).run P w = .ok (.int k (a.tmod b)) w := by simp [eqGuard, binOp, Op.intDiv, h]
theorem run_and : ((do eqGuard .and t p q (.int k a) (.int k b); binOp .and t (.int k a) (.int k b) : Sem Value)).run P w = .ok (.int k (k.wrap ((BitVec.ofInt k.bits a &&& BitVec.ofInt k.bits b).toNat : Int))) w := by simp [eqGuard, binOp, Op.intBits]
theorem run_or : ((do eqGuard .or t p q (.int k a) (.int k b); binOp .or t (.int k a) (.int k b) : Sem Value)).run P w = .ok (.int k (k.wrap ((BitVec.ofInt k.bits a ||| BitVec.ofInt k.bits b).toNat : Int))) w := by simp [eqGuard, binOp, Op.intBits]
theorem run_xor : ((do eqGuard .xor t p q (.int k a) (.int k b); binOp .xor t (.int k a) (.int k b) : Sem Value)).run P w = .ok (.int k (k.wrap ((BitVec.ofInt k.bits a ^^^ BitVec.ofInt k.bits b).toNat : Int))) w := by simp [eqGuard, binOp, Op.intBits]
theorem run_shl (h : 0 ≤ b) : ((do eqGuard .shl t p q (.int k a) (.int k' b); binOp .shl t (.int k a) (.int k' b) : Sem Value)).run P w = .ok (.int k (k.wrap (a * 2 ^ (min b.toNat k.bits)))) w := by
  simp [eqGuard, binOp, Op.shift, Int.not_lt.2 h]
theorem run_shr (h : 0 ≤ b) : ((do eqGuard .shr t p q (.int k a) (.int k' b); binOp .shr t (.int k a) (.int k' b) : Sem Value)).run P w = .ok (.int k (a.fdiv (2 ^ (min b.toNat k.bits)))) w := by
  simp [eqGuard, binOp, Op.shift, Int.not_lt.2 h]
theorem run_eql : ((do eqGuard .eql t p q (.int k a) (.int k b); binOp .eql t (.int k a) (.int k b) : Sem Value)).run P w = .ok (.bool (a == b)) w := by simp [eqGuard, binOp, Op.intCmp]
theorem run_neq : ((do eqGuard .neq t p q (.int k a) (.int k b); binOp .neq t (.int k a) (.int k b) : Sem Value)).run P w = .ok (.bool (a != b)) w := by simp [eqGuard, binOp, Op.intCmp]
theorem run_lss : ((do eqGuard .lss t p q (.int k a) (.int k b); binOp .lss t (.int k a) (.int k b) : Sem Value)).run P w = .ok (.bool (decide (a < b))) w := by simp [eqGuard, binOp, Op.intCmp]
theorem run_leq : ((do eqGuard .leq t p q (.int k a) (.int k b); binOp .leq t (.int k a) (.int k b) : Sem Value)).run P w = .ok (.bool (decide (a ≤ b))) w := by simp [eqGuard, binOp, Op.intCmp]
theorem run_gtr : ((do eqGuard .gtr t p q (.int k a) (.int k b); binOp .gtr t (.int k a) (.int k b) : Sem Value)).run P w = .ok (.bool (decide (b < a))) w := by simp [eqGuard, binOp, Op.intCmp]
theorem run_geq : ((do eqGuard .geq t p q (.int k a) (.int k b); binOp .geq t (.int k a) (.int k b) : Sem Value)).run P w = .ok (.bool (decide (b ≤ a))) w := by simp [eqGuard, binOp, Op.intCmp]
theorem run_cat (x y : ByteArray) (h : x.size + y.size ≤ 9223372036854775807) : ((do eqGuard .add t p q (.string x) (.string y); binOp .add t (.string x) (.string y) : Sem Value)).run P w = .ok (.string (x ++ y)) w := by
  have : ¬ (((x.size + y.size : Nat) : Int) > IntKind.i64.max) := by
    rw [show IntKind.i64.max = 9223372036854775807 from rfl]; omega
  simp only [eqGuard, binOp, Op.stringOp, this, if_false]; simp
theorem run_seq (x y : ByteArray) : ((do eqGuard .eql t p q (.string x) (.string y); binOp .eql t (.string x) (.string y) : Sem Value)).run P w = .ok (.bool (x.toList == y.toList)) w := by simp [eqGuard, binOp, Op.stringOp]
theorem run_sne (x y : ByteArray) : ((do eqGuard .neq t p q (.string x) (.string y); binOp .neq t (.string x) (.string y) : Sem Value)).run P w = .ok (.bool !(x.toList == y.toList)) w := by simp [eqGuard, binOp, Op.stringOp]
end
theorem cat_mk (x y : List UInt8) : (⟨x.toArray⟩ ++ ⟨y.toArray⟩ : ByteArray) = ⟨(x ++ y).toArray⟩ := by
  apply ByteArray.ext; simp
theorem binNum_run {op : BinOp} {x : Int} {y v : AV} {ob : List Prop} (h : binAV op (.num x) y = some (v, ob)) (hob : AllT ob) {r : Lc} {a b : Value} (ha : AV.rel r (.num x) a) (hb : y.rel r b)
    (P : Program) (w : World) (t : TypeId) (p q : Operand) : ∃ u, ((do eqGuard op t p q a b; binOp op t a b : Sem Value)).run P w = .ok u w ∧ v.rel r u := by
  simp only [binAV] at h
  cases y <;> simp only [reduceCtorEq] at h
  case num =>
    cases op <;> simp only [reduceCtorEq, Option.some.injEq, Prod.mk.injEq] at h <;> obtain ⟨rfl, rfl⟩ := h <;> simp only [AV.rel] at ha hb <;> subst ha <;> subst hb <;> simp only [AllT, and_true] at hob
    case add => exact ⟨_, run_add _ _ _ _ _ _ _ _, rfl⟩
    case sub => exact ⟨_, run_sub _ _ _ _ _ _ _ _, rfl⟩
    case mul => exact ⟨_, run_mul _ _ _ _ _ _ _ _, rfl⟩
    case quo => exact ⟨_, run_quo _ _ _ _ _ _ _ _ hob, rfl⟩
    case rem => exact ⟨_, run_rem _ _ _ _ _ _ _ _ hob, rfl⟩
    case or => exact ⟨_, run_or _ _ _ _ _ _ _ _, rfl⟩
    case and => exact ⟨_, run_and _ _ _ _ _ _ _ _, rfl⟩
    case shl => exact ⟨_, run_shl _ _ _ _ _ _ _ _ _ hob, rfl⟩
    case shr => exact ⟨_, run_shr _ _ _ _ _ _ _ _ _ hob, rfl⟩
    case eql => exact ⟨_, run_eql _ _ _ _ _ _ _ _, rfl⟩
    case neq => exact ⟨_, run_neq _ _ _ _ _ _ _ _, rfl⟩
    case lss => exact ⟨_, run_lss _ _ _ _ _ _ _ _, rfl⟩
    case leq => exact ⟨_, run_leq _ _ _ _ _ _ _ _, rfl⟩
    case gtr => exact ⟨_, run_gtr _ _ _ _ _ _ _ _, rfl⟩
    case geq => exact ⟨_, run_geq _ _ _ _ _ _ _ _, rfl⟩
  case u64 =>
    cases op <;> simp only [reduceCtorEq, Option.some.injEq, Prod.mk.injEq] at h <;> obtain ⟨rfl, rfl⟩ := h <;> simp only [AV.rel] at ha hb <;> subst ha <;> subst hb <;> simp only [AllT, and_true] at hob
    case shl => exact ⟨_, run_shl _ _ _ _ _ _ _ _ _ (Int.natCast_nonneg _), rfl⟩
    case shr => exact ⟨_, run_shr _ _ _ _ _ _ _ _ _ (Int.natCast_nonneg _), rfl⟩
theorem binU8_run {op : BinOp} {x : UInt8} {y v : AV} {ob : List Prop} (h : binAV op (.u8 x) y = some (v, ob)) (hob : AllT ob) {r : Lc} {a b : Value} (ha : AV.rel r (.u8 x) a) (hb : y.rel r b)
    (P : Program) (w : World) (t : TypeId) (p q : Operand) : ∃ u, ((do eqGuard op t p q a b; binOp op t a b : Sem Value)).run P w = .ok u w ∧ v.rel r u := by
  simp only [binAV] at h
  cases y <;> simp only [reduceCtorEq] at h
  case num =>
    cases op <;> simp only [reduceCtorEq, Option.some.injEq, Prod.mk.injEq] at h <;> obtain ⟨rfl, rfl⟩ := h <;> simp only [AV.rel] at ha hb <;> subst ha <;> subst hb <;> simp only [AllT, and_true] at hob
    case shl => exact ⟨_, run_shl _ _ _ _ _ _ _ _ _ hob, congrArg (Value.int _) (shlw8 _ _)⟩
    case shr => exact ⟨_, run_shr _ _ _ _ _ _ _ _ _ hob, congrArg (Value.int _) (shrw8 _ _)⟩
  case u8 =>
    cases op <;> simp only [reduceCtorEq, Option.some.injEq, Prod.mk.injEq] at h <;> obtain ⟨rfl, rfl⟩ := h <;> simp only [AV.rel] at ha hb <;> subst ha <;> subst hb <;> simp only [AllT, and_true] at hob
    case add => exact ⟨_, run_add _ _ _ _ _ _ _ _, congrArg (Value.int _) (add8 _ _)⟩
    case sub => exact ⟨_, run_sub _ _ _ _ _ _ _ _, congrArg (Value.int _) (sub8 _ _)⟩
    case mul => exact ⟨_, run_mul _ _ _ _ _ _ _ _, congrArg (Value.int _) (mul8 _ _)⟩
    case and => exact ⟨_, run_and _ _ _ _ _ _ _ _, congrArg (Value.int _) (and8 _ _)⟩
    case or => exact ⟨_, run_or _ _ _ _ _ _ _ _, congrArg (Value.int _) (or8 _ _)⟩
    case xor => exact ⟨_, run_xor _ _ _ _ _ _ _ _, congrArg (Value.int _) (xor8 _ _)⟩
    case quo => exact ⟨_, run_quo _ _ _ _ _ _ _ _ (nz8 _ hob), congrArg (Value.int _) (quo8 _ _)⟩
    case rem => exact ⟨_, run_rem _ _ _ _ _ _ _ _ (nz8 _ hob), congrArg (Value.int _) (rem8 _ _)⟩
    case shl => exact ⟨_, run_shl _ _ _ _ _ _ _ _ _ (Int.natCast_nonneg _), congrArg (Value.int _) (shlw8 _ _)⟩
    case shr => exact ⟨_, run_shr _ _ _ _ _ _ _ _ _ (Int.natCast_nonneg _), congrArg (Value.int _) (shrw8 _ _)⟩
    case eql => exact ⟨_, run_eql _ _ _ _ _ _ _ _, congrArg Value.bool (eqw8 _ _)⟩
    case neq => exact ⟨_, run_neq _ _ _ _ _ _ _ _, congrArg (fun z => Value.bool !z) (eqw8 _ _)⟩
    case lss => exact ⟨_, run_lss _ _ _ _ _ _ _ _, congrArg Value.bool (ltw8 _ _)⟩
    case leq => exact ⟨_, run_leq _ _ _ _ _ _ _ _, congrArg Value.bool (lew8 _ _)⟩
    case gtr => exact ⟨_, run_gtr _ _ _ _ _ _ _ _, congrArg Value.bool (ltw8 _ _)⟩
    case geq => exact ⟨_, run_geq _ _ _ _ _ _ _ _, congrArg Value.bool (lew8 _ _)⟩
  case u64 =>
    cases op <;> simp only [reduceCtorEq, Option.some.injEq, Prod.mk.injEq] at h <;> obtain ⟨rfl, rfl⟩ := h <;> simp only [AV.rel] at ha hb <;> subst ha <;> subst hb <;> simp only [AllT, and_true] at hob
    case shl => exact ⟨_, run_shl _ _ _ _ _ _ _ _ _ (Int.natCast_nonneg _), congrArg (Value.int _) (shlw8 _ _)⟩
    case shr => exact ⟨_, run_shr _ _ _ _ _ _ _ _ _ (Int.natCast_nonneg _), congrArg (Value.int _) (shrw8 _ _)⟩
theorem binU32_run {op : BinOp} {x : UInt32} {y v : AV} {ob : List Prop} (h : binAV op (.u32 x) y = some (v, ob)) (hob : AllT ob) {r : Lc} {a b : Value} (ha : AV.rel r (.u32 x) a) (hb : y.rel r b)
    (P : Program) (w : World) (t : TypeId) (p q : Operand) : ∃ u, ((do eqGuard op t p q a b; binOp op t a b : Sem Value)).run P w = .ok u w ∧ v.rel r u := by
  simp only [binAV] at h
  cases y <;> simp only [reduceCtorEq] at h
  case num =>
    cases op <;> simp only [reduceCtorEq, Option.some.injEq, Prod.mk.injEq] at h <;> obtain ⟨rfl, rfl⟩ := h <;> simp only [AV.rel] at ha hb <;> subst ha <;> subst hb <;> simp only [AllT, and_true] at hob
    case shl => exact ⟨_, run_shl _ _ _ _ _ _ _ _ _ hob, congrArg (Value.int _) (shlw32 _ _)⟩
    case shr => exact ⟨_, run_shr _ _ _ _ _ _ _ _ _ hob, congrArg (Value.int _) (shrw32 _ _)⟩
  case u32 =>
    cases op <;> simp only [reduceCtorEq, Option.some.injEq, Prod.mk.injEq] at h <;> obtain ⟨rfl, rfl⟩ := h <;> simp only [AV.rel] at ha hb <;> subst ha <;> subst hb <;> simp only [AllT, and_true] at hob
    case add => exact ⟨_, run_add _ _ _ _ _ _ _ _, congrArg (Value.int _) (add32 _ _)⟩
    case sub => exact ⟨_, run_sub _ _ _ _ _ _ _ _, congrArg (Value.int _) (sub32 _ _)⟩
    case mul => exact ⟨_, run_mul _ _ _ _ _ _ _ _, congrArg (Value.int _) (mul32 _ _)⟩
    case and => exact ⟨_, run_and _ _ _ _ _ _ _ _, congrArg (Value.int _) (and32 _ _)⟩
    case or => exact ⟨_, run_or _ _ _ _ _ _ _ _, congrArg (Value.int _) (or32 _ _)⟩
    case xor => exact ⟨_, run_xor _ _ _ _ _ _ _ _, congrArg (Value.int _) (xor32 _ _)⟩
    case quo => exact ⟨_, run_quo _ _ _ _ _ _ _ _ (nz32 _ hob), congrArg (Value.int _) (quo32 _ _)⟩
    case rem => exact ⟨_, run_rem _ _ _ _ _ _ _ _ (nz32 _ hob), congrArg (Value.int _) (rem32 _ _)⟩
    case shl => exact ⟨_, run_shl _ _ _ _ _ _ _ _ _ (Int.natCast_nonneg _), congrArg (Value.int _) (shlw32 _ _)⟩
    case shr => exact ⟨_, run_shr _ _ _ _ _ _ _ _ _ (Int.natCast_nonneg _), congrArg (Value.int _) (shrw32 _ _)⟩
    case eql => exact ⟨_, run_eql _ _ _ _ _ _ _ _, congrArg Value.bool (eqw32 _ _)⟩
    case neq => exact ⟨_, run_neq _ _ _ _ _ _ _ _, congrArg (fun z => Value.bool !z) (eqw32 _ _)⟩
    case lss => exact ⟨_, run_lss _ _ _ _ _ _ _ _, congrArg Value.bool (ltw32 _ _)⟩
    case leq => exact ⟨_, run_leq _ _ _ _ _ _ _ _, congrArg Value.bool (lew32 _ _)⟩
    case gtr => exact ⟨_, run_gtr _ _ _ _ _ _ _ _, congrArg Value.bool (ltw32 _ _)⟩
    case geq => exact ⟨_, run_geq _ _ _ _ _ _ _ _, congrArg Value.bool (lew32 _ _)⟩
  case u64 =>
    cases op <;> simp only [reduceCtorEq, Option.some.injEq, Prod.mk.injEq] at h <;> obtain ⟨rfl, rfl⟩ := h <;> simp only [AV.rel] at ha hb <;> subst ha <;> subst hb <;> simp only [AllT, and_true] at hob
    case shl => exact ⟨_, run_shl _ _ _ _ _ _ _ _ _ (Int.natCast_nonneg _), congrArg (Value.int _) (shlw32 _ _)⟩
    case shr => exact ⟨_, run_shr _ _ _ _ _ _ _ _ _ (Int.natCast_nonneg _), congrArg (Value.int _) (shrw32 _ _)⟩
theorem binU64_run {op : BinOp} {x : UInt64} {y v : AV} {ob : List Prop} (h : binAV op (.u64 x) y = some (v, ob)) (hob : AllT ob) {r : Lc} {a b : Value} (ha : AV.rel r (.u64 x) a) (hb : y.rel r b)
    (P : Program) (w : World) (t : TypeId) (p q : Operand) : ∃ u, ((do eqGuard op t p q a b; binOp op t a b : Sem Value)).run P w = .ok u w ∧ v.rel r u := by
  simp only [binAV] at h
  cases y <;> simp only [reduceCtorEq] at h
  case num =>
    cases op <;> simp only [reduceCtorEq, Option.some.injEq, Prod.mk.injEq] at h <;> obtain ⟨rfl, rfl⟩ := h <;> simp only [AV.rel] at ha hb <;> subst ha <;> subst hb <;> simp only [AllT, and_true] at hob
    case shl => exact ⟨_, run_shl _ _ _ _ _ _ _ _ _ hob, congrArg (Value.int _) (shlw64 _ _)⟩
    case shr => exact ⟨_, run_shr _ _ _ _ _ _ _ _ _ hob, congrArg (Value.int _) (shrw64 _ _)⟩
  case u64 =>
    cases op <;> simp only [reduceCtorEq, Option.some.injEq, Prod.mk.injEq] at h <;> obtain ⟨rfl, rfl⟩ := h <;> simp only [AV.rel] at ha hb <;> subst ha <;> subst hb <;> simp only [AllT, and_true] at hob
    case add => exact ⟨_, run_add _ _ _ _ _ _ _ _, congrArg (Value.int _) (add64 _ _)⟩
    case sub => exact ⟨_, run_sub _ _ _ _ _ _ _ _, congrArg (Value.int _) (sub64 _ _)⟩
    case mul => exact ⟨_, run_mul _ _ _ _ _ _ _ _, congrArg (Value.int _) (mul64 _ _)⟩
    case and => exact ⟨_, run_and _ _ _ _ _ _ _ _, congrArg (Value.int _) (and64 _ _)⟩
    case or => exact ⟨_, run_or _ _ _ _ _ _ _ _, congrArg (Value.int _) (or64 _ _)⟩
    case xor => exact ⟨_, run_xor _ _ _ _ _ _ _ _, congrArg (Value.int _) (xor64 _ _)⟩
    case quo => exact ⟨_, run_quo _ _ _ _ _ _ _ _ (nz64 _ hob), congrArg (Value.int _) (quo64 _ _)⟩
    case rem => exact ⟨_, run_rem _ _ _ _ _ _ _ _ (nz64 _ hob), congrArg (Value.int _) (rem64 _ _)⟩
    case shl => exact ⟨_, run_shl _ _ _ _ _ _ _ _ _ (Int.natCast_nonneg _), congrArg (Value.int _) (shlw64 _ _)⟩
    case shr => exact ⟨_, run_shr _ _ _ _ _ _ _ _ _ (Int.natCast_nonneg _), congrArg (Value.int _) (shrw64 _ _)⟩
    case eql => exact ⟨_, run_eql _ _ _ _ _ _ _ _, congrArg Value.bool (eqw64 _ _)⟩
    case neq => exact ⟨_, run_neq _ _ _ _ _ _ _ _, congrArg (fun z => Value.bool !z) (eqw64 _ _)⟩
    case lss => exact ⟨_, run_lss _ _ _ _ _ _ _ _, congrArg Value.bool (ltw64 _ _)⟩
    case leq => exact ⟨_, run_leq _ _ _ _ _ _ _ _, congrArg Value.bool (lew64 _ _)⟩
    case gtr => exact ⟨_, run_gtr _ _ _ _ _ _ _ _, congrArg Value.bool (ltw64 _ _)⟩
    case geq => exact ⟨_, run_geq _ _ _ _ _ _ _ _, congrArg Value.bool (lew64 _ _)⟩
theorem binStr_run {op : BinOp} {x : List UInt8} {y v : AV} {ob : List Prop} (h : binAV op (.str x) y = some (v, ob)) (hob : AllT ob) {r : Lc} {a b : Value} (ha : AV.rel r (.str x) a) (hb : y.rel r b)
    (P : Program) (w : World) (t : TypeId) (p q : Operand) : ∃ u, ((do eqGuard op t p q a b; binOp op t a b : Sem Value)).run P w = .ok u w ∧ v.rel r u := by
  simp only [binAV] at h
  cases y <;> simp only [reduceCtorEq] at h
  case str =>
    cases op <;> simp only [reduceCtorEq, Option.some.injEq, Prod.mk.injEq] at h <;> obtain ⟨rfl, rfl⟩ := h <;> simp only [AV.rel] at ha hb <;> subst ha <;> subst hb <;> simp only [AllT, and_true] at hob
    case add => exact ⟨_, run_cat _ _ _ _ _ _ _ hob, congrArg Value.string (cat_mk _ _)⟩
    case eql => exact ⟨_, run_seq .., congrArg Value.bool (beq_bytes _ _)⟩
    case neq => exact ⟨_, run_sne .., congrArg (fun z => Value.bool !z) (beq_bytes _ _)⟩
/-- An operator, run. -/
theorem binAV_run {op : BinOp} {x y v : AV} {ob : List Prop} (h : binAV op x y = some (v, ob)) (hob : AllT ob) {r : Lc} {a b : Value} (ha : x.rel r a) (hb : y.rel r b)
    (P : Program) (w : World) (t : TypeId) (p q : Operand) : ∃ u, ((do eqGuard op t p q a b; binOp op t a b : Sem Value)).run P w = .ok u w ∧ v.rel r u := by
  cases x
  case num => exact binNum_run h hob ha hb P w t p q
  case u8 => exact binU8_run h hob ha hb P w t p q
  case u32 => exact binU32_run h hob ha hb P w t p q
  case u64 => exact binU64_run h hob ha hb P w t p q
  case str => exact binStr_run h hob ha hb P w t p q
  case int k x =>
    cases k <;> simp only [binAV, reduceCtorEq] at h
    cases y <;> try simp only [reduceCtorEq] at h
    rename_i k' y
    cases k' <;> try simp only [reduceCtorEq] at h
    cases op <;> simp only [reduceCtorEq, Option.some.injEq, Prod.mk.injEq] at h
    obtain ⟨rfl, rfl⟩ := h
    simp only [AV.rel] at ha hb
    subst ha; subst hb
    simp only [AllT, and_true] at hob
    exact ⟨_, run_rem _ _ _ _ _ _ _ _ hob, rfl⟩
  all_goals simp only [binAV, reduceCtorEq] at h

end Go.Proofs.YtahiopdkekkibaaGreatDoor

/-
  A walk by reckoning, part 4: what an operation does, without and with memory. It speaks of no program.
-/
namespace Go.Proofs.YtahiopdkekkibaaGreatDoor
open Go Go.RowKit
set_option linter.unusedVariables false
set_option linter.unusedSimpArgs false

/-- What the type's table says of a type. -/
structure TyI where
  d : TypeDesc
  size : Nat
  bytes : Nat
  zero : CV
  /-- of a struct that may be compared, what its cells are: 0: a number, 1: a text, 2: a truth -/
  eqs : List Nat := []
def fldOk (P : Program) (j : Nat) (f : Field) (k : Nat) : Bool := f.name != "_" && f.offset == j && (match P.underlying f.type with | some (.int _) => k == 0 | some .string => k == 1 | some .bool => k == 2 | _ => false)
def eqB (P : Program) (t : Nat) (ks : List Nat) : Bool := !P.eqGuardType P.depth t && !P.stoodInHeld t && (match P.underlying t with | some (.struct _) => true | _ => false) && (P.fieldsOf t).size == ks.length && (List.range ks.length).all fun j => match (P.fieldsOf t)[j]? with | some f => fldOk P j f (ks.getD j 9) | none => false
def TyOne (P : Program) (t : Nat) (i : TyI) : Prop := P.underlying t = some i.d ∧
  ∃ nf, P.info? t = some nf ∧ nf.size = i.size ∧ nf.bytes = i.bytes ∧ ∃ z, nf.zero = some z ∧ (∀ r, i.zero.rel r z) ∧ z.cells.size = i.size ∧ i.zero.cells.length = i.size ∧ (∀ x ∈ i.zero.cells, x.plain ∧ x.bare) ∧ (i.eqs.isEmpty = false → eqB P t i.eqs = true ∧ i.eqs.length = i.size)
def TyOk (P : Program) (T : Nat → Option TyI) : Prop := ∀ t i, T t = some i → TyOne P t i
structure Res : Type 1 where
  v : SV
  upd : List SObj
  news : List SObj
  obl : List Prop
structure Actn : Type 1 where
  foot : List Nat
  wr : Bool
  run : List Ent → (Nat → Nat) → Option Res
def pureS (v : SV) (ob : List Prop) : Actn := ⟨[], false, fun _ _ => some ⟨v, [], [], ob⟩⟩
def pureA (v : AV) (ob : List Prop) : Actn := pureS (.c (.one v)) ob
def setAllH : List (Nat × Ent) → List Nat → List SObj → List (Nat × Ent)
  | hp, id :: ids, o :: os => setAllH (aset hp id ⟨o, true⟩) ids os
  | hp, _, _ => hp
def newAll (fresh : Nat → Nat) : List (Nat × Ent) → Nat → List SObj → List (Nat × Ent)
  | hp, m, o :: os => newAll fresh (aset hp (fresh m) ⟨o, true⟩) (m + 1) os
  | hp, _, [] => hp
def getAll (hp : List (Nat × Ent)) : List Nat → Option (List Ent)
  | [] => some []
  | i :: l => match aget hp i with
    | some e => match getAll hp l with
      | some es => some (e :: es)
      | none => none
    | none => none
/-- The operation comes to an end, so. -/
def StepOk (P : Program) (o : Oper) (ev : Operand → Value) (w : World) (F : Value → World → Prop) : Prop :=
  match (execOp ev o).run P w with
  | .ok (.value u) w' => F u w'
  | .ok .skip w' => F undef w'
  | .ok (.enter f args) w' => Calls P f args w' (fun e w'' => ∃ u, e = .returned u ∧ F u w'')
  | _ => False
theorem StepOk.wp {P : Program} {o : Oper} {a : Act} {w : World} {F : Value → World → Prop} (h : StepOk P o a.eval w F) {K : Act → World → Prop} {Q : Exit → Act → World → Prop}
    (hK : ∀ u w', F u w' → K (a.put o.dst u) w') : o.wp P a w K Q := by
  unfold StepOk at h
  unfold Oper.wp
  generalize (execOp a.eval o).run P w = q at h ⊢
  cases q with
  | halt x w' => exact h.elim
  | ok n w' =>
    cases n <;> first
      | exact hK _ _ h
      | exact h.elim
      | (refine Calls.mono h fun e w'' he => ?_
         obtain ⟨u, rfl, hF⟩ := he
         exact hK _ _ hF)
theorem StepOk.of_value {P : Program} {o : Oper} {ev : Operand → Value} {w w' : World} {u : Value} {F : Value → World → Prop} (h : (execOp ev o).run P w = .ok (.value u) w') (hF : F u w') : StepOk P o ev w F := by
  unfold StepOk; rw [h]; exact hF
theorem StepOk.of_skip {P : Program} {o : Oper} {ev : Operand → Value} {w w' : World} {F : Value → World → Prop} (h : (execOp ev o).run P w = .ok .skip w') (hF : F undef w') : StepOk P o ev w F := by
  unfold StepOk; rw [h]; exact hF
/-- What an action says is so. -/
def ActOk (P : Program) (G : List GFact) (o : Oper) (ev : Operand → Value) (r : Lc) (A : Actn) : Prop :=
  ∀ C hp w es fresh R, HeapOk C r hp w → getAll hp A.foot = some es → A.run es fresh = some R → AllT R.obl →
    (∀ m, m < R.news.length → aget hp (fresh m) = none) → (∀ m n, m < R.news.length → n < R.news.length → fresh m = fresh n → m = n) → (∀ f ∈ G, f ∈ C.G) →
    StepOk P o ev w fun u w' => ∃ r', r.le r' ∧ R.v.rel r' u ∧ HeapOk C r' (newAll fresh (setAllH hp A.foot R.upd) 0 R.news) w'
section
variable {P : Program} {G : List GFact} {o : Oper} {ev : Operand → Value} {r : Lc}
theorem actOk_pure {v : SV} {ob : List Prop} (h : AllT ob → ∀ w, ∃ u, (execOp ev o).run P w = .ok (.value u) w ∧ v.rel r u) : ActOk P G o ev r (pureS v ob) := by
  intro C hp w es fresh R hh hg hr hob _ _ hsub
  simp only [pureS, Option.some.injEq] at hr
  subst hr
  obtain ⟨u, h1, h2⟩ := h hob w
  exact StepOk.of_value h1 ⟨r, r.le_refl, h2, hh⟩
end
theorem Addr.add_plain (g o n : Nat) : (⟨g, o, none⟩ : Addr).add n = ⟨g, o + n, none⟩ := Addr.add_mid g o n
/-- Cells, written one behind the other. -/
def putCells (cs : Array Value) : Nat → List Value → Array Value
  | _, [] => cs
  | o, u :: l => putCells (cs.setIfInBounds o u) (o + 1) l
theorem putCells_size (l : List Value) : ∀ (cs : Array Value) (o : Nat), (putCells cs o l).size = cs.size := by
  induction l with
  | nil => intro cs o; rfl
  | cons u l ih => intro cs o; rw [putCells, ih]; simp
theorem putCells_get (l : List Value) : ∀ (cs : Array Value) (o j : Nat), o + l.length ≤ cs.size → (putCells cs o l)[j]? = if o ≤ j ∧ j < o + l.length then l[j - o]? else cs[j]? := by
  induction l with
  | nil => intro cs o j _; simp only [putCells, List.length_nil]; rw [if_neg (by omega)]
  | cons u l ih =>
    intro cs o j h
    simp only [List.length_cons] at h ⊢
    rw [putCells, ih _ _ _ (by simp; omega)]
    by_cases h1 : j = o
    · subst h1
      rw [if_neg (by omega), if_pos (by omega)]
      have : j < cs.size := by omega
      simp [this]
    · by_cases h2 : o + 1 ≤ j ∧ j < o + 1 + l.length
      · rw [if_pos h2, if_pos (by omega)]
        obtain ⟨k, rfl⟩ : ∃ k, j = o + 1 + k := ⟨j - (o + 1), by omega⟩
        rw [show o + 1 + k - (o + 1) = k by omega, show o + 1 + k - o = k + 1 by omega]; simp
      · rw [if_neg h2, if_neg (by omega), Array.getElem?_setIfInBounds_ne (Ne.symm h1)]
theorem RowAt.puts {g : Nat} : ∀ (l : List Value) (w : World) (cs : Array Value) (o : Nat), RowAt w (g, none) cs → RowAt (w.setCells g o l) (g, none) (putCells cs o l)
  | [], _, _, _, h => h
  | u :: l, w, cs, o, h => RowAt.puts l _ _ _ (h.put o u)
theorem setCells_same (g : Nat) : ∀ (l : List Value) (w : World) (o : Nat), (w.setCells g o l).os = w.os ∧ (w.setCells g o l).tape = w.tape ∧ (w.setCells g o l).output = w.output ∧ (w.setCells g o l).heap.size = w.heap.size ∧
    ∀ b, b ≠ g → (w.setCells g o l).heap[b]? = w.heap[b]?
  | [], _, _ => ⟨rfl, rfl, rfl, rfl, fun _ _ => rfl⟩
  | u :: l, w, o => by
    obtain ⟨h1, h2, h3, h4, h5⟩ := setCells_same g l (w.setCell ⟨g, o, none⟩ u) (o + 1)
    refine ⟨h1, h2, h3, ?_, fun b hb => ?_⟩
    · rw [World.setCells, h4]; simp [World.setCell]
    · rw [World.setCells, h5 b hb]; exact Below.heap_setCell w ⟨g, o, none⟩ u b hb
theorem Holds.slice {r : Lc} {xs : List AV} {cs : Array Value} (h : Holds r xs cs) {o z : Nat} (hz : o + z ≤ xs.length) : ∃ us : List Value, us.length = z ∧ (∀ j v, us[j]? = some v → cs[o + j]? = some v) ∧ All2 (AV.rel r) ((xs.drop o).take z) us := by
  have hsz : o + z ≤ cs.size := by
    rcases Nat.eq_zero_or_pos z with rfl | hp
    · rcases Nat.eq_zero_or_pos o with rfl | ho
      · simp
      · obtain ⟨x, hx⟩ : ∃ x, xs[o - 1]? = some x := ⟨xs[o - 1], List.getElem?_eq_getElem (by omega)⟩
        obtain ⟨u, hu, _⟩ := h _ _ hx
        have := (Array.getElem?_eq_some_iff.1 hu).1
        omega
    · obtain ⟨x, hx⟩ : ∃ x, xs[o + z - 1]? = some x := ⟨xs[o + z - 1], List.getElem?_eq_getElem (by omega)⟩
      obtain ⟨u, hu, _⟩ := h _ _ hx
      have := (Array.getElem?_eq_some_iff.1 hu).1
      omega
  refine ⟨(cs.toList.drop o).take z, by simp; omega, fun j v hv => ?_, All2.of_get (by simp; omega) fun j a b ha hb => ?_⟩
  · rw [List.getElem?_take] at hv
    split at hv
    · simpa using hv
    · cases hv
  · rw [List.getElem?_take] at ha hb
    split at ha
    · rw [List.getElem?_drop] at ha
      obtain ⟨u, hu, hr⟩ := h _ _ ha
      rename_i hj
      rw [if_pos hj, List.getElem?_drop] at hb
      simp only [Array.getElem?_toList] at hb
      rw [hu] at hb
      cases hb
      exact hr
    · cases ha
theorem Holds.splice {r : Lc} {xs ys : List AV} {cs : Array Value} {us : List Value} (h : Holds r xs cs) {o : Nat} (hz : o + ys.length ≤ xs.length) (hy : All2 (AV.rel r) ys us) (hs : o + us.length ≤ cs.size) :
    Holds r (xs.take o ++ ys ++ xs.drop (o + ys.length)) (putCells cs o us) := by
  have hl := hy.length
  intro j x hx
  rw [putCells_get us cs o j hs]
  by_cases h1 : j < o
  · rw [if_neg (by omega)]
    rw [List.append_assoc, List.getElem?_append_left (by simp; omega), List.getElem?_take, if_pos h1] at hx
    exact h j x hx
  · by_cases h2 : j < o + ys.length
    · rw [if_pos (by omega)]
      rw [List.append_assoc, List.getElem?_append_right (by simp; omega), List.getElem?_append_left (by simp; omega)] at hx
      have e : min o xs.length = o := by omega
      simp only [List.length_take, e] at hx
      exact hy.get _ _ hx
    · rw [if_neg (by omega)]
      rw [List.getElem?_append_right (by simp; omega), List.getElem?_drop] at hx
      have e : min o xs.length = o := by omega
      simp only [List.length_append, List.length_take, e] at hx
      rw [show o + ys.length + (j - (o + ys.length)) = j by omega] at hx
      exact h j x hx
theorem Holds.bound {r : Lc} {xs : List AV} {cs : Array Value} (h : Holds r xs cs) : xs.length ≤ cs.size := by
  rcases Nat.eq_zero_or_pos xs.length with h0 | h0
  · omega
  · obtain ⟨x, hx⟩ : ∃ x, xs[xs.length - 1]? = some x := ⟨xs[xs.length - 1], List.getElem?_eq_getElem (by omega)⟩
    obtain ⟨u, hu, _⟩ := h _ _ hx
    have := (Array.getElem?_eq_some_iff.1 hu).1
    omega
end Go.Proofs.YtahiopdkekkibaaGreatDoor

/-
  A walk by reckoning, part 5: the operations that leave memory alone. It speaks of no program.
-/
namespace Go.Proofs.YtahiopdkekkibaaGreatDoor
open Go Go.RowKit
set_option linter.unusedVariables false
set_option linter.unusedSimpArgs false

def constA : Value → AV
  | .int .i64 n => .num n
  | .int .u8 n => if 0 ≤ n ∧ n < 256 then .u8 (UInt8.ofNat n.toNat) else .int .u8 n
  | .int .u32 n => if 0 ≤ n ∧ n < 4294967296 then .u32 (UInt32.ofNat n.toNat) else .int .u32 n
  | .int .u64 n => if 0 ≤ n ∧ n < 18446744073709551616 then .u64 (UInt64.ofNat n.toNat) else .int .u64 n
  | .int k n => .int k n
  | .bool b => .bo b
  | .string s => .str s.data.toList
  | v => .val v
def constS : Value → SV
  | .agg cs => .c (.agg (cs.toList.map constA))
  | v => .c (.one (constA v))
theorem constA_rel (r : Lc) (v : Value) : (constA v).rel r v := by
  cases v with
  | int k n =>
    cases k <;> simp only [constA] <;> first
      | rfl
      | (split
         · rename_i h
           simp only [AV.rel, Value.int.injEq, true_and]
           simp
           omega
         · rfl)
  | bool b => rfl
  | string s => simp [constA, AV.rel]
  | _ => rfl
theorem constS_rel (r : Lc) (v : Value) : (constS v).rel r v := by
  have h := constA_rel r v
  cases v with
  | agg cs =>
    refine ⟨cs.toList, by simp, ?_⟩
    have := All2.map (R := AV.rel r) (f := constA) (g := id) (x := cs.toList) (fun c _ => constA_rel r c)
    simpa using this
  | _ => exact h
/-- The number of a package's variable that is an object here. -/
def gid (g : Nat) : Nat := 1000000000000000 + g
def evalS (gl : List Nat) (fr : List (Nat × SV)) : Operand → SV
  | .tmp t => match aget fr t with
    | some x => x
    | none => .c (.one .junk)
  | .const v => constS v
  | .global g => if gl.contains g then .c (.one (.ptr (gid g) 0 0 0)) else .c (.one (.val (.pointer (some ⟨g, 0, none⟩))))
  | .func f => .c (.one (.val (.func (.func f) #[] #[])))
/-- How the operands read. -/
def EvOk (r : Lc) (sv : Operand → SV) (ev : Operand → Value) : Prop := ∀ x, (sv x).rel r (ev x)

def unAV : UnOp → AV → Option AV
  | .not, .bo x => some (.bo (!x))
  | .neg, .num x => some (.num (IntKind.i64.wrap (0 - x)))
  | .neg, .u32 x => some (.u32 (0 - x))
  | .neg, .u64 x => some (.u64 (0 - x))
  | .xor, .u8 x => some (.u8 (255 ^^^ x))
  | .xor, .u32 x => some (.u32 (4294967295 ^^^ x))
  | .xor, .u64 x => some (.u64 (18446744073709551615 ^^^ x))
  | _, _ => none
def by8 (x : Int) : UInt8 := UInt8.ofNat (x % 256).toNat
def by32 (x : Int) : UInt32 := UInt32.ofNat (x % 4294967296).toNat
def by64 (x : Int) : UInt64 := UInt64.ofNat (x % 18446744073709551616).toNat
/-- A number, as another kind. -/
def convAV : TypeDesc → AV → Option AV
  | .int .i64, .num x => some (.num (IntKind.i64.wrap x))
  | .int .i64, .u8 x => some (.num (x.toNat : Int))
  | .int .i64, .u32 x => some (.num (x.toNat : Int))
  | .int .i64, .u64 x => some (.num (IntKind.i64.wrap (x.toNat : Int)))
  | .int .i64, .int _ x => some (.num (IntKind.i64.wrap x))
  | .int .u8, .num x => some (.u8 (by8 x))
  | .int .u8, .u8 x => some (.u8 x)
  | .int .u8, .u32 x => some (.u8 x.toUInt8)
  | .int .u8, .u64 x => some (.u8 x.toUInt8)
  | .int .u32, .num x => some (.u32 (by32 x))
  | .int .u32, .u8 x => some (.u32 x.toUInt32)
  | .int .u32, .u32 x => some (.u32 x)
  | .int .u32, .u64 x => some (.u32 x.toUInt32)
  | .int .u64, .num x => some (.u64 (by64 x))
  | .int .u64, .u8 x => some (.u64 x.toUInt64)
  | .int .u64, .u32 x => some (.u64 x.toUInt64)
  | .int .u64, .u64 x => some (.u64 x)
  | .int k, x => match x.toI with
    | some i => some (.int k (k.wrap i))
    | none => none
  | .string, .str x => some (.str x)
  | _, _ => none
section
variable {P : Program} {G : List GFact} {T : Nat → Option TyI} {o : Oper} {sv : Operand → SV} {ev : Operand → Value} {r : Lc}
theorem run_unary {op : UnOp} {x v : AV} {a : Value} (h : unAV op x = some v) (ha : x.rel r a) (w : World) : ∃ u, (Op.unary op a).run P w = .ok u w ∧ v.rel r u := by
  unfold unAV at h
  split at h <;> first | (cases h; done) | (injection h with h; subst h; simp only [AV.rel] at ha; subst ha)
  · exact ⟨_, rfl, rfl⟩
  · exact ⟨_, rfl, rfl⟩
  · exact ⟨_, rfl, congrArg (Value.int _) (sub32 0 _)⟩
  · exact ⟨_, rfl, congrArg (Value.int _) (sub64 0 _)⟩
  · exact ⟨_, rfl, congrArg (Value.int _) (xor8 255 _)⟩
  · exact ⟨_, rfl, congrArg (Value.int _) (xor32 4294967295 _)⟩
  · exact ⟨_, rfl, congrArg (Value.int _) (xor64 18446744073709551615 _)⟩
theorem actOk_bin (he : EvOk r sv ev) {op : BinOp} {t yt : TypeId} {x y : Operand} (ho : o.op = .binOp op t x y yt) {a b v : AV} {ob : List Prop} (hx : sv x = .c (.one a)) (hy : sv y = .c (.one b)) (h : binAV op a b = some (v, ob)) :
    ActOk P G o ev r (pureA v ob) := by
  refine actOk_pure fun hob w => ?_
  have h1 := he x
  have h2 := he y
  rw [hx] at h1
  rw [hy] at h2
  obtain ⟨u, hu, hv⟩ := binAV_run h hob h1 h2 P w t x y
  exact ⟨u, by unfold execOp; rw [ho]; simp only [Sem.run_bind] at hu ⊢; rw [hu]; rfl, hv⟩
theorem actOk_un (he : EvOk r sv ev) {op : UnOp} {t : TypeId} {x : Operand} (ho : o.op = .unOp op t x) {a v : AV} (hx : sv x = .c (.one a)) (h : unAV op a = some v) : ActOk P G o ev r (pureA v []) := by
  refine actOk_pure fun _ w => ?_
  have h1 := he x
  rw [hx] at h1
  obtain ⟨u, hu, hv⟩ := run_unary (P := P) h h1 w
  exact ⟨u, by unfold execOp; rw [ho]; simp only [Sem.run_bind]; rw [hu]; rfl, hv⟩
theorem conv_u8 (n : Int) : IntKind.u8.wrap n = ((by8 n).toNat : Int) := ofInt8 n
theorem conv_u32 (n : Int) : IntKind.u32.wrap n = ((by32 n).toNat : Int) := ofInt32 n
theorem conv_u64 (n : Int) : IntKind.u64.wrap n = ((by64 n).toNat : Int) := ofInt64 n
theorem run_convInt {s d : TypeId} {ds : TypeDesc} {k kk : IntKind} (hs : P.underlying s = some ds) (hd : P.underlying d = some (.int k)) (n : Int) (w : World) : (convert s d (.int kk n)).run P w = .ok (.int k (k.wrap n)) w := by
  unfold convert
  simp only [Sem.run_bind, run_underlying hs, run_underlying hd, Result.andThen_ok]
  cases ds <;> rfl
theorem convAV_run {d0 : TypeDesc} {x v : AV} {a : Value} (h : convAV d0 x = some v) (ha : x.rel r a) {s d : TypeId} {ds : TypeDesc} (hs : P.underlying s = some ds) (hd : P.underlying d = some d0) (w : World) :
    ∃ u, (convert s d a).run P w = .ok u w ∧ v.rel r u := by
  unfold convAV at h
  split at h
  case h_18 =>
    rename_i k y _ _ _ _ _ _ _ _ _ _ _ _ _ _ _ _ _ 
    split at h
    · rename_i i hi
      injection h with h
      subst h
      obtain ⟨k', rfl⟩ := AV.toI_rel hi ha
      exact ⟨_, run_convInt hs hd _ w, rfl⟩
    · cases h
  case h_19 =>
    injection h with h; subst h
    simp only [AV.rel] at ha; subst ha
    refine ⟨_, ?_, rfl⟩
    unfold convert
    simp only [Sem.run_bind, run_underlying hs, run_underlying hd, Result.andThen_ok]
    cases ds <;> rfl
  case h_20 => cases h
  all_goals
    injection h with h; subst h
    simp only [AV.rel] at ha; subst ha
    refine ⟨_, run_convInt hs hd _ w, ?_⟩
    first
      | rfl
      | exact congrArg (Value.int _) (conv_u8 _)
      | exact congrArg (Value.int _) (conv_u32 _)
      | exact congrArg (Value.int _) (conv_u64 _)
      | (rename_i y
         have hy := y.toNat_lt
         simp only [AV.rel]
         congr 1
         first
           | (rw [IntKind.wrap_i64]; omega)
           | (rw [IntKind.wrap_u8]; omega)
           | (rw [IntKind.wrap_u32]; omega)
           | (rw [IntKind.wrap_u64]; omega)
           | (rw [IntKind.wrap_u32, UInt8.toNat_toUInt32]; omega)
           | (rw [IntKind.wrap_u64, UInt8.toNat_toUInt64]; omega)
           | (rw [IntKind.wrap_u64, UInt32.toNat_toUInt64]; omega))
end
end Go.Proofs.YtahiopdkekkibaaGreatDoor

/-
  A walk by reckoning, part 6: parts of values, bounds, addresses. It speaks of no program.
-/
namespace Go.Proofs.YtahiopdkekkibaaGreatDoor
open Go Go.RowKit
set_option linter.unusedVariables false
set_option linter.unusedSimpArgs false

theorem run_ty {P : Program} {T : Nat → Option TyI} (hT : TyOk P T) {t : Nat} {i : TyI} (ht : T t = some i) (w : World) : (underlying t).run P w = .ok i.d w := run_underlying (hT t i ht).1 w
theorem run_size {P : Program} {T : Nat → Option TyI} (hT : TyOk P T) {t : Nat} {i : TyI} (ht : T t = some i) (w : World) : (sizeOf t).run P w = .ok i.size w := by
  obtain ⟨_, nf, h1, h2, _⟩ := hT t i ht
  simp [sizeOf, typeInfo, h1, h2]
theorem run_isAgg {P : Program} {T : Nat → Option TyI} (hT : TyOk P T) {t : Nat} {i : TyI} (ht : T t = some i) (w : World) : (isAgg t).run P w = .ok i.d.isRow w := by
  unfold isAgg
  rw [Sem.run_bind, run_ty hT ht w]
  cases i.d <;> rfl
/-- A part of a value of more cells. -/
def partS (i : TyI) (xs : List AV) (off : Nat) : CV := if i.d.isRow then .agg ((xs.drop off).take i.size) else .one (match xs[off]? with | some x => x | none => .junk)
theorem part_run {P : Program} {T : Nat → Option TyI} (hT : TyOk P T) {t : Nat} {i : TyI} (ht : T t = some i) {r : Lc} {xs : List AV} {cs : List Value} (h : All2 (AV.rel r) xs cs) (off : Nat) (hl : off + i.size ≤ xs.length) (h1 : i.d.isRow = false → i.size = 1) (w : World) :
    ∃ u, (part t cs.toArray off).run P w = .ok u w ∧ (partS i xs off).rel r u := by
  unfold part
  simp only [Sem.run_bind, run_isAgg hT ht w, Result.andThen_ok]
  unfold partS
  by_cases hr : i.d.isRow = true
  · simp only [hr, if_true, Sem.run_bind, run_size hT ht w, Result.andThen_ok, Sem.run_pure]
    refine ⟨_, rfl, (cs.drop off).take i.size, ?_, (h.drop off).take i.size⟩
    simp [List.extract_eq_take_drop]
  · have hr' : i.d.isRow = false := by simpa using hr
    have := h1 hr'
    obtain ⟨x, hx⟩ : ∃ x, xs[off]? = some x := ⟨xs[off], List.getElem?_eq_getElem (by omega)⟩
    obtain ⟨u, hu, hru⟩ := h.get off x hx
    simp only [hr', hx]
    refine ⟨u, ?_, hru⟩
    simp [hu]
section
variable {P : Program} {G : List GFact} {T : Nat → Option TyI} {o : Oper} {sv : Operand → SV} {ev : Operand → Value} {r : Lc}
theorem actOk_move (he : EvOk r sv ev) {x : Operand} (ho : o.op = .move x ∨ o.op = .assign x) : ActOk P G o ev r (pureS (sv x) []) :=
  actOk_pure fun _ w => ⟨ev x, by unfold execOp; rcases ho with ho | ho <;> rw [ho] <;> rfl, he x⟩
theorem actOk_extract (he : EvOk r sv ev) {x : Operand} {i : Nat} (ho : o.op = .extract x i) {xs : List CV} (hx : sv x = .tup xs) {c : CV} (hc : xs[i]? = some c) : ActOk P G o ev r (pureS (.c c) []) :=
  actOk_pure fun _ w => by
    have h := he x
    rw [hx] at h
    obtain ⟨cs, h1, h2⟩ := h
    obtain ⟨u, hu, hr⟩ := h2.get i c hc
    refine ⟨u, ?_, hr⟩
    unfold execOp
    rw [ho]
    simp [h1, Instr.extract, hu]
theorem idx_bytes (l : List UInt8) (i : Nat) (h : i < l.length) : ((⟨l.toArray⟩ : ByteArray)[i]'(by simpa [ByteArray.size] using h)) = l.getD i 0 := by
  rw [List.getD_eq_getElem?_getD, List.getElem?_eq_getElem h]; rfl
theorem actOk_index (hT : TyOk P T) (he : EvOk r sv ev) {t : TypeId} {x y : Operand} (ho : o.op = .index t x y) {ti : TyI} (ht : T t = some ti) (hd : ti.d = .string) {l : List UInt8} (hx : sv x = .c (.one (.str l))) {b : AV} (hy : sv y = .c (.one b)) {i : Int} (hi : b.toI = some i) :
    ActOk P G o ev r (pureA (.u8 (l.getD i.toNat 0)) [0 ≤ i ∧ i < l.length]) :=
  actOk_pure fun hob w => by
    have h1 := he x
    have h2 := he y
    rw [hx] at h1
    rw [hy] at h2
    obtain ⟨k, hk⟩ := AV.toI_rel hi h2
    have h1' : ev x = .string ⟨l.toArray⟩ := h1
    have hb : 0 ≤ i ∧ i < (l.length : Int) := hob.1
    have hu : P.underlying t = some .string := by rw [(hT t ti ht).1, hd]
    refine ⟨_, ?_, rfl⟩
    unfold execOp
    rw [ho]
    simp only [h1', hk, Sem.run_bind, run_index_string w t _ k i hu]
    rw [dif_pos (show 0 ≤ i ∧ i < ((⟨l.toArray⟩ : ByteArray).size : Int) from hb), idx_bytes l i.toNat (by omega)]
    rfl
theorem actOk_indexArr (hT : TyOk P T) (he : EvOk r sv ev) {t : TypeId} {x y : Operand} (ho : o.op = .index t x y) {ti ei : TyI} (ht : T t = some ti) {n : Nat} {e : TypeId} (hd : ti.d = .array n e) (hE : T e = some ei) (h1 : ei.d.isRow = false → ei.size = 1)
    {xs : List AV} (hx : sv x = .c (.agg xs)) {b : AV} (hy : sv y = .c (.one b)) {i : Int} (hi : b.toI = some i) :
    ActOk P G o ev r (pureS (.c (partS ei xs (i.toNat * ei.size))) [0 ≤ i ∧ i < n ∧ i.toNat * ei.size + ei.size ≤ xs.length]) :=
  actOk_pure fun hob w => by
    have h1x := he x
    have h2 := he y
    rw [hx] at h1x
    rw [hy] at h2
    obtain ⟨k, hk⟩ := AV.toI_rel hi h2
    obtain ⟨cs, hcs, hall⟩ := h1x
    obtain ⟨hb0, hb1, hb2⟩ := hob.1
    obtain ⟨u, hu, hr⟩ := part_run (P := P) hT hE hall (i.toNat * ei.size) hb2 h1 w
    refine ⟨u, ?_, hr⟩
    unfold execOp
    rw [ho]
    have hun : (underlying t).run P w = .ok (.array n e) w := by rw [← hd]; exact run_ty hT ht w
    simp only [hcs, hk, Sem.run_bind, Instr.index, asIntOf, Sem.run_pure, Result.andThen_ok, hun, hb0, hb1, and_self, if_true, run_size hT hE w, hu]
theorem actOk_field (hT : TyOk P T) (he : EvOk r sv ev) {t : TypeId} {x : Operand} {f : Nat} (ho : o.op = .field t x f) {ti : TyI} (ht : T t = some ti) {fs : Array Field} (hd : ti.d = .struct fs) {fd : Field} (hf : fs[f]? = some fd) {fi : TyI} (hE : T fd.type = some fi) (h1 : fi.d.isRow = false → fi.size = 1)
    {xs : List AV} (hx : sv x = .c (.agg xs)) : ActOk P G o ev r (pureS (.c (partS fi xs fd.offset)) [fd.offset + fi.size ≤ xs.length]) :=
  actOk_pure fun hob w => by
    have h1x := he x
    rw [hx] at h1x
    obtain ⟨cs, hcs, hall⟩ := h1x
    obtain ⟨u, hu, hr⟩ := part_run (P := P) hT hE hall fd.offset hob.1 h1 w
    refine ⟨u, ?_, hr⟩
    unfold execOp
    rw [ho]
    have hun : (underlying t).run P w = .ok (.struct fs) w := by rw [← hd]; exact run_ty hT ht w
    simp only [hcs, Sem.run_bind, Instr.field, Sem.run_pure, Result.andThen_ok, hun, hf, asAgg, hu]
/-- The bounds of a slice expression. -/
def loOf : Option SV → Option Int
  | none => some 0
  | some (.c (.one a)) => a.toI
  | _ => none
def hiOf (n : Nat) : Option SV → Option Int
  | none => some (n : Int)
  | some (.c (.one a)) => a.toI
  | _ => none
theorem bounds_run (he : EvOk r sv ev) {lo hi : Option Operand} {l h : Int} {n c : Nat} (hl : loOf (lo.map sv) = some l) (hh : hiOf n (hi.map sv) = some h) (h0 : 0 ≤ l) (h1 : l ≤ h) (h2 : h ≤ n) (hnc : n ≤ c) (w : World) (isS : Bool) :
    (Instr.sliceBounds isS n c (lo.map ev) (hi.map ev) none).run P w = .ok (l.toNat, h.toNat, c) w := by
  have A : ∀ v : Value, (∃ k, v = .int k l) → ∀ code, (Instr.sliceBound v h.toNat code).run P w = .ok l.toNat w := fun v ⟨k, hv⟩ code => by
    subst hv; exact run_sliceBound w k l h.toNat code h0 (by omega)
  have B : ∀ v : Value, (∃ k, v = .int k h) → ∀ code, (Instr.sliceBound v c code).run P w = .ok h.toNat w := fun v ⟨k, hv⟩ code => by
    subst hv; exact run_sliceBound w k h c code (by omega) (by omega)
  have al : ∀ x, lo = some x → ∃ k, ev x = .int k l := fun x hx => by
    subst hx
    have h3 := he x
    simp only [Option.map] at hl
    cases hs : sv x with
    | tup _ => rw [hs] at hl; simp [loOf] at hl
    | c y =>
      cases y with
      | agg _ => rw [hs] at hl; simp [loOf] at hl
      | one a => rw [hs] at hl h3; exact AV.toI_rel hl h3
  have ah : ∀ x, hi = some x → ∃ k, ev x = .int k h := fun x hx => by
    subst hx
    have h3 := he x
    simp only [Option.map] at hh
    cases hs : sv x with
    | tup _ => rw [hs] at hh; simp [hiOf] at hh
    | c y =>
      cases y with
      | agg _ => rw [hs] at hh; simp [hiOf] at hh
      | one a => rw [hs] at hh h3; exact AV.toI_rel hh h3
  unfold Instr.sliceBounds
  cases lo with
  | none =>
    have e0 : l = 0 := by simpa [loOf] using hl.symm
    subst e0
    cases hi with
    | none =>
      have e1 : h = n := by simpa [hiOf] using hh.symm
      subst e1
      simp
    | some y => simp [B _ (ah y rfl)]
  | some x =>
    cases hi with
    | none =>
      have e1 : h = n := by simpa [hiOf] using hh.symm
      subst e1
      have := A _ (al x rfl)
      simp only [Int.toNat_natCast] at this
      simp [this]
    | some y => simp [B _ (ah y rfl), A _ (al x rfl)]
def cutStr (l : List UInt8) (lo hi : Option SV) (a b : Int) : List UInt8 :=
  match lo, hi with
  | none, none => l
  | none, some _ => l.take b.toNat
  | some _, none => l.drop a.toNat
  | some _, some _ => (l.drop a.toNat).take (b.toNat - a.toNat)
theorem extract_mk (l : List UInt8) (a b : Nat) : (⟨l.toArray⟩ : ByteArray).extract a b = ⟨((l.drop a).take (b - a)).toArray⟩ := by
  apply ByteArray.ext
  rw [ByteArray.data_extract]
  simp [List.extract_eq_take_drop]
theorem actOk_sliceStr (hT : TyOk P T) (he : EvOk r sv ev) {t : TypeId} {x : Operand} {lo hi : Option Operand} (ho : o.op = .slice t x lo hi none) {ti : TyI} (ht : T t = some ti) (hd : ti.d = .string) {l : List UInt8} (hx : sv x = .c (.one (.str l)))
    {a b : Int} (hl : loOf (lo.map sv) = some a) (hh : hiOf l.length (hi.map sv) = some b) : ActOk P G o ev r (pureA (.str (cutStr l (lo.map sv) (hi.map sv) a b)) [0 ≤ a ∧ a ≤ b ∧ b ≤ l.length]) :=
  actOk_pure fun hob w => by
    have h1 := he x
    rw [hx] at h1
    have h1' : ev x = .string ⟨l.toArray⟩ := h1
    obtain ⟨hb0, hb1, hb2⟩ := hob.1
    have hb := bounds_run (P := P) he hl hh hb0 hb1 hb2 (Nat.le_refl _) w false
    refine ⟨.string ((⟨l.toArray⟩ : ByteArray).extract a.toNat b.toNat), ?_, ?_⟩
    · unfold execOp
      rw [ho]
      have hun : (underlying t).run P w = .ok .string w := by rw [← hd]; exact run_ty hT ht w
      have hsz : (⟨l.toArray⟩ : ByteArray).size = l.length := rfl
      simp only [h1', Sem.run_bind, Instr.sliceAt, Instr.slice, hun, Result.andThen_ok, Option.map_none, Option.isSome_none, hsz, Bool.false_eq_true, if_false, Sem.run_bind, hb, Sem.run_pure]
    · rw [extract_mk]
      simp only [AV.rel, SV.rel, CV.rel]
      congr 3
      unfold cutStr
      cases lo with
      | none =>
        have e0 : a = 0 := by simpa [loOf] using hl.symm
        subst e0
        cases hi with
        | none =>
          have e1 : b = l.length := by simpa [hiOf] using hh.symm
          subst e1
          simp
        | some y => simp
      | some z =>
        cases hi with
        | none =>
          have e1 : b = l.length := by simpa [hiOf] using hh.symm
          subst e1
          simp only [Option.map_some, Option.map_none, Int.toNat_natCast]
          rw [List.take_of_length_le (by simp)]
        | some y => rfl
theorem actOk_sliceSl (hT : TyOk P T) (he : EvOk r sv ev) {t : TypeId} {x : Operand} {lo hi : Option Operand} (ho : o.op = .slice t x lo hi none) {ti ei : TyI} (ht : T t = some ti) {e : TypeId} (hd : ti.d = .slice e) (hE : T e = some ei) {id k n : Nat} (hx : sv x = .c (.one (.sl id k ei.size n)))
    {a b : Int} (hl : loOf (lo.map sv) = some a) (hh : hiOf n (hi.map sv) = some b) : ActOk P G o ev r (pureA (.sl id (k + a.toNat) ei.size (b.toNat - a.toNat)) [0 ≤ a ∧ a ≤ b ∧ b ≤ n]) :=
  actOk_pure fun hob w => by
    have h1 := he x
    rw [hx] at h1
    obtain ⟨hb0, hb1, hb2⟩ := hob.1
    have hun : (underlying t).run P w = .ok (.slice e) w := by rw [← hd]; exact run_ty hT ht w
    rcases h1 with ⟨hid, hk, hn, av, hv⟩ | ⟨g, c, off, hid, hc, hoff, hv⟩
    · subst hk; subst hn
      have hb := bounds_run (P := P) (c := 0) he hl hh hb0 hb1 hb2 (Nat.le_refl _) w true
      have ha : a = 0 := by omega
      have hbb : b = 0 := by omega
      subst ha; subst hbb
      refine ⟨.slice av 0 0, ?_, .inl ⟨hid, rfl, rfl, _, rfl⟩⟩
      unfold execOp
      rw [ho]
      cases av with
      | none =>
        simp only [hv, Sem.run_bind, Instr.sliceAt, Instr.slice, hun, Result.andThen_ok, Option.map_none, hb, Sem.run_pure, run_size hT hE w]
        rfl
      | some av =>
        simp only [hv, Sem.run_bind, Instr.sliceAt, Instr.slice, hun, Result.andThen_ok, Option.map_none, hb, Sem.run_pure, run_size hT hE w]
        rfl
    · have hb := bounds_run (P := P) (c := c - k) he hl hh hb0 hb1 hb2 (by omega) w true
      refine ⟨.slice (some ⟨g.1, if c - k = a.toNat then off else off + a.toNat * ei.size, none⟩) (b.toNat - a.toNat) (c - k - a.toNat), ?_, .inr ⟨g, c, _, hid, by omega, fun h => ?_, by congr 1; omega⟩⟩
      · unfold execOp
        rw [ho]
        simp only [hv, Sem.run_bind, Instr.sliceAt, Instr.slice, hun, Result.andThen_ok, Option.map_none, hb, Sem.run_pure, run_size hT hE w, Option.map_some, Addr.add_plain]
        split <;> rfl
      · have : ¬ c - k = a.toNat := by omega
        rw [if_neg this, hoff (by omega), Nat.add_mul, Nat.add_right_comm]
theorem actOk_sliceNil (hT : TyOk P T) (he : EvOk r sv ev) {t : TypeId} {x : Operand} {lo hi : Option Operand} (ho : o.op = .slice t x lo hi none) {ti ei : TyI} (ht : T t = some ti) {e : TypeId} (hd : ti.d = .slice e) (hE : T e = some ei) (hx : sv x = .c (.one (.val (.slice none 0 0))))
    {a b : Int} (hl : loOf (lo.map sv) = some a) (hh : hiOf 0 (hi.map sv) = some b) : ActOk P G o ev r (pureA (.val (.slice none 0 0)) [0 ≤ a ∧ a ≤ b ∧ b ≤ ((0 : Nat) : Int)]) :=
  actOk_pure fun hob w => by
    have h1 := he x
    rw [hx] at h1
    obtain ⟨hb0, hb1, hb2⟩ := hob.1
    have hun : (underlying t).run P w = .ok (.slice e) w := by rw [← hd]; exact run_ty hT ht w
    have hv : ev x = .slice none 0 0 := h1
    have hb := bounds_run (P := P) (c := 0) he hl hh hb0 hb1 hb2 (Nat.le_refl _) w true
    have ha : a = 0 := by omega
    have hbb : b = 0 := by omega
    subst ha; subst hbb
    refine ⟨.slice none 0 0, ?_, rfl⟩
    unfold execOp
    rw [ho]
    simp only [hv, Sem.run_bind, Instr.sliceAt, Instr.slice, hun, Result.andThen_ok, Option.map_none, hb, Sem.run_pure, run_size hT hE w]
    rfl
theorem actOk_indexAddr (hT : TyOk P T) (he : EvOk r sv ev) {t : TypeId} {x y : Operand} (ho : o.op = .indexAddr t x y) {ti ei : TyI} (ht : T t = some ti) {e : TypeId} (hd : ti.d = .slice e) (hE : T e = some ei) {id k n : Nat} (hx : sv x = .c (.one (.sl id k ei.size n)))
    {b : AV} (hy : sv y = .c (.one b)) {i : Int} (hi : b.toI = some i) : ActOk P G o ev r (pureA (.ptr id (k + i.toNat) ei.size 0) [0 ≤ i ∧ i < n]) :=
  actOk_pure fun hob w => by
    have h1 := he x
    have h2 := he y
    rw [hx] at h1
    rw [hy] at h2
    obtain ⟨kk, hkk⟩ := AV.toI_rel hi h2
    obtain ⟨hb0, hb1⟩ := hob.1
    have hun : (underlying t).run P w = .ok (.slice e) w := by rw [← hd]; exact run_ty hT ht w
    rcases h1 with ⟨_, _, hn, _⟩ | ⟨g, c, off, hid, hc, hoff, hv⟩
    · omega
    · refine ⟨.pointer (some ⟨g.1, off + i.toNat * ei.size, none⟩), ?_, g, c, hid, ?_⟩
      · unfold execOp
        rw [ho]
        simp only [hv, hkk, Sem.run_bind, Instr.indexAt, asIntOf, Sem.run_pure, Result.andThen_ok, hun, hb0, hb1, and_self, if_true, run_size hT hE w, Addr.add_plain]
      · rw [hoff (by omega), Nat.add_mul]; congr 3; omega
def arrPtr (id k st j z i : Nat) : AV := if st = 0 then .ptr id i z j else .ptr id k st (j + i * z)
theorem actOk_indexAddrArr (hT : TyOk P T) (he : EvOk r sv ev) {t : TypeId} {x y : Operand} (ho : o.op = .indexAddr t x y) {ti ei : TyI} (ht : T t = some ti) {e : TypeId} {len : Nat} (hd : ti.d = .array len e) (hE : T e = some ei) {id k st j : Nat} (hx : sv x = .c (.one (.ptr id k st j)))
    {b : AV} (hy : sv y = .c (.one b)) {i : Int} (hi : b.toI = some i) : ActOk P G o ev r (pureA (arrPtr id k st j ei.size i.toNat) [0 ≤ i ∧ i < len]) :=
  actOk_pure fun hob w => by
    have h1 := he x
    have h2 := he y
    rw [hx] at h1
    rw [hy] at h2
    obtain ⟨kk, hkk⟩ := AV.toI_rel hi h2
    obtain ⟨hb0, hb1⟩ := hob.1
    have hun : (underlying t).run P w = .ok (.array len e) w := by rw [← hd]; exact run_ty hT ht w
    obtain ⟨g, c, hid, hv⟩ := h1
    refine ⟨.pointer (some ⟨g.1, k * st + j + g.off + i.toNat * ei.size, none⟩), ?_, ?_⟩
    · unfold execOp
      rw [ho]
      simp only [hv, hkk, Sem.run_bind, Instr.indexAt, asIntOf, Sem.run_pure, Result.andThen_ok, hun, hb0, hb1, and_self, if_true, run_size hT hE w, Addr.add_plain, Instr.sureAddr]
    · unfold arrPtr
      split
      · rename_i h0
        subst h0
        exact ⟨g, c, hid, by congr 3; omega⟩
      · exact ⟨g, c, hid, by congr 3; omega⟩
theorem actOk_fieldAddr (hT : TyOk P T) (he : EvOk r sv ev) {t : TypeId} {x : Operand} {f : Nat} (ho : o.op = .fieldAddr t x f) {ti : TyI} (ht : T t = some ti) {fs : Array Field} (hd : ti.d = .struct fs) {fd : Field} (hf : fs[f]? = some fd) {fi : TyI} (hE : T fd.type = some fi) (h1 : fi.size ≠ 0)
    {id k st j : Nat} (hx : sv x = .c (.one (.ptr id k st j))) : ActOk P G o ev r (pureA (.ptr id k st (j + fd.offset)) []) :=
  actOk_pure fun _ w => by
    have h1x := he x
    rw [hx] at h1x
    have hun : (underlying t).run P w = .ok (.struct fs) w := by rw [← hd]; exact run_ty hT ht w
    obtain ⟨g, c, hid, hv⟩ := h1x
    refine ⟨.pointer (some ⟨g.1, k * st + j + g.off + fd.offset, none⟩), ?_, g, c, hid, by congr 3; omega⟩
    unfold execOp
    rw [ho]
    simp only [hv, Sem.run_bind, Instr.fieldAt, Sem.run_pure, Result.andThen_ok, hun, hf, Instr.sureAddr, fieldPlace, run_size hT hE w, h1, if_false, Addr.add_plain]
theorem execOp_len {x : Operand} {t ty : TypeId} {ats : Array TypeId} (ho : o.op = .call { callee := .builtin .len, args := #[x], argTypes := ats }) (w : World) : (execOp ev o).run P w = ((do pure (.value (← Builtin.len_ ats o.type #[ev x])) : Sem Next)).run P w := by
  unfold execOp
  simp [ho, resolve, invoke, builtin]
def lenAV (d : TypeDesc) : AV → Option Int
  | .str l => match d with
    | .string => some l.length
    | _ => none
  | .sl _ _ _ n => match d with
    | .slice _ => some n
    | _ => none
  | .val (.slice none 0 0) => match d with
    | .slice _ => some 0
    | _ => none
  | _ => none
theorem actOk_len (hT : TyOk P T) (he : EvOk r sv ev) {x : Operand} {t : TypeId} (ho : o.op = .call { callee := .builtin .len, args := #[x], argTypes := #[t] }) {ti : TyI} (ht : T t = some ti) {a : AV} (hx : sv x = .c (.one a)) {n : Int} (hn : lenAV ti.d a = some n) : ActOk P G o ev r (pureA (.num n) []) :=
  actOk_pure fun _ w => by
    have h1 := he x
    rw [hx] at h1
    refine ⟨.int .i64 n, ?_, rfl⟩
    rw [execOp_len (t := t) (ty := t) ho w]
    have hun := run_ty hT ht w
    unfold lenAV at hn
    split at hn
    · split at hn
      · rename_i hd; injection hn with hn; subst hn
        rw [hd] at hun
        simp only [SV.rel, CV.rel, AV.rel] at h1
        have hu : P.underlying t = some .string := by rw [(hT t ti ht).1, hd]
        simp only [h1, Sem.run_bind, run_len_string w t _ _ hu]
        rfl
      · cases hn
    · split at hn
      · rename_i hd; injection hn with hn; subst hn
        rw [hd] at hun
        simp only [SV.rel, CV.rel, AV.rel] at h1
        rcases h1 with ⟨_, _, h0, av, hv⟩ | ⟨g, c, off, _, _, _, hv⟩
        · subst h0; simp [Builtin.len_, hun, hv, goInt]
        · simp [Builtin.len_, hun, hv, goInt]
      · cases hn
    · split at hn
      · rename_i hd; injection hn with hn; subst hn
        rw [hd] at hun
        simp only [SV.rel, CV.rel, AV.rel] at h1
        simp [Builtin.len_, hun, h1, goInt]
      · cases hn
    · cases hn
theorem actOk_lenArr (hT : TyOk P T) {x : Operand} {t : TypeId} (ho : o.op = .call { callee := .builtin .len, args := #[x], argTypes := #[t] }) {ti : TyI} (ht : T t = some ti) {n : Nat} {e : TypeId} (hd : ti.d = .array n e) : ActOk P G o ev r (pureA (.num n) []) :=
  actOk_pure fun _ w => by
    refine ⟨.int .i64 n, ?_, rfl⟩
    rw [execOp_len (t := t) (ty := t) ho w]
    have hun := run_ty hT ht w
    rw [hd] at hun
    simp [Builtin.len_, hun, goInt]
end
end Go.Proofs.YtahiopdkekkibaaGreatDoor

/-
  A walk by reckoning, part 7: loads and stores. It speaks of no program.
-/
namespace Go.Proofs.YtahiopdkekkibaaGreatDoor
open Go Go.RowKit
set_option linter.unusedVariables false
set_option linter.unusedSimpArgs false

theorem getAll_one {hp : List (Nat × Ent)} {id : Nat} {es : List Ent} (h : getAll hp [id] = some es) : ∃ e, aget hp id = some e ∧ es = [e] := by
  simp only [getAll] at h
  cases he : aget hp id with
  | none => rw [he] at h; cases h
  | some e => rw [he] at h; injection h with h; exact ⟨e, rfl, h.symm⟩
/-- Where an address lies in an object, in cells; and what stands there. -/
def readAt (o : SObj) (k st j z : Nat) : Option (List AV × List Prop) :=
  match o with
  | .cells _ xs => some ((xs.drop (k * st + j)).take z, [k * st + j + z ≤ xs.length])
  | .arr _ L l => if st = 0 then (if j = 0 then some (l.flatMap L.enc, [l.length * L.st = z]) else none)
      else if st = L.st then some (((L.enc (l.getD k L.d)).drop j).take z, [k < l.length ∧ j + z ≤ L.st]) else none
  | .dead => none
def writeAt (o : SObj) (k st j : Nat) (ys : List AV) : Option (SObj × List Prop) :=
  match o with
  | .cells s xs => some (.cells s (xs.take (k * st + j) ++ ys ++ xs.drop (k * st + j + ys.length)), [k * st + j + ys.length ≤ xs.length])
  | .arr α L l => if st = 0 then (if j = 0 then some (.cells L.st ys, [l.length * L.st = ys.length]) else none)
      else if st = L.st then (match L.up (l.getD k L.d) j ys with
        | some y => some (.arr α L (l.set k y), [k < l.length])
        | none => none) else none
  | .dead => none
theorem flat_length {α : Type} (L : Lay α) (l : List α) : (l.flatMap L.enc).length = l.length * L.st := by
  induction l with
  | nil => simp
  | cons x l ih => rw [List.flatMap_cons, List.length_append, ih, L.len, List.length_cons, Nat.add_mul, Nat.one_mul]; omega
theorem flat_at {α : Type} (L : Lay α) : ∀ (l : List α) (k : Nat), k < l.length → ((l.flatMap L.enc).drop (k * L.st)).take L.st = L.enc (l.getD k L.d)
  | [], _, h => by simp at h
  | x :: l, 0, _ => by
    rw [Nat.zero_mul, List.drop_zero, List.flatMap_cons, List.take_append_of_le_length (by rw [L.len]; exact Nat.le_refl _), List.take_of_length_le (by rw [L.len]; exact Nat.le_refl _)]; rfl
  | x :: l, k + 1, h => by
    have := flat_at L l k (by simpa using h)
    rw [List.flatMap_cons, Nat.add_mul, Nat.one_mul, List.drop_append, List.drop_eq_nil_of_le (by rw [L.len]; omega), List.nil_append, L.len, Nat.add_sub_cancel]
    exact this
theorem flat_set {α : Type} (L : Lay α) : ∀ (l : List α) (k : Nat) (y : α), k < l.length → (l.set k y).flatMap L.enc = (l.flatMap L.enc).take (k * L.st) ++ L.enc y ++ (l.flatMap L.enc).drop (k * L.st + L.st)
  | [], _, _, h => by simp at h
  | x :: l, 0, y, _ => by
    rw [Nat.zero_mul, List.take_zero, List.nil_append, Nat.zero_add, List.set_cons_zero, List.flatMap_cons, List.flatMap_cons, List.drop_append, List.drop_eq_nil_of_le (by rw [L.len]; exact Nat.le_refl _), L.len, Nat.sub_self, List.drop_zero, List.nil_append]
  | x :: l, k + 1, y, h => by
    have := flat_set L l k y (by simpa using h)
    rw [List.set_cons_succ, List.flatMap_cons, List.flatMap_cons, this]
    generalize l.flatMap L.enc = f
    have a1 : (L.enc x ++ f).take ((k + 1) * L.st) = L.enc x ++ f.take (k * L.st) := by
      rw [List.take_append, List.take_of_length_le (by rw [L.len, Nat.add_mul]; omega), L.len, Nat.add_mul, Nat.one_mul, Nat.add_sub_cancel]
    have a2 : (L.enc x ++ f).drop ((k + 1) * L.st + L.st) = f.drop (k * L.st + L.st) := by
      rw [List.drop_append, List.drop_eq_nil_of_le (by rw [L.len]; omega), List.nil_append, L.len, Nat.add_mul, Nat.one_mul, Nat.add_sub_cancel]
    rw [a1, a2]
    simp only [List.append_assoc]
theorem readAt_flat {o : SObj} {k st j z : Nat} {ys : List AV} {ob : List Prop} (h : readAt o k st j z = some (ys, ob)) (hob : AllT ob) (h0 : st = 0 → k * st = 0) : o.live = true ∧ k * st + j + z ≤ o.flat.length ∧ ys = (o.flat.drop (k * st + j)).take z := by
  cases o with
  | cells s xs =>
    simp only [readAt, Option.some.injEq, Prod.mk.injEq] at h
    obtain ⟨rfl, rfl⟩ := h
    exact ⟨rfl, hob.1, rfl⟩
  | dead => simp [readAt] at h
  | arr α L l =>
    simp only [readAt] at h
    by_cases hs : st = 0
    · rw [if_pos hs] at h
      split at h
      · rename_i hj
        simp only [Option.some.injEq, Prod.mk.injEq] at h
        obtain ⟨rfl, rfl⟩ := h
        subst hs; subst hj
        have hz : l.length * L.st = z := hob.1
        refine ⟨rfl, by show _ ≤ (l.flatMap L.enc).length; rw [flat_length]; omega, ?_⟩
        show _ = ((l.flatMap L.enc).drop (k * 0 + 0)).take z
        rw [Nat.mul_zero, List.drop_zero, List.take_of_length_le (by rw [flat_length]; omega)]
      · cases h
    · rw [if_neg hs] at h
      split at h
      · rename_i hL
        simp only [Option.some.injEq, Prod.mk.injEq] at h
        obtain ⟨rfl, rfl⟩ := h
        subst hL
        obtain ⟨hk, hjz⟩ := hob.1
        have hm : k * L.st + L.st ≤ l.length * L.st := by
          have := Nat.mul_le_mul_right L.st hk
          rwa [Nat.succ_mul] at this
        refine ⟨rfl, by show _ ≤ (l.flatMap L.enc).length; rw [flat_length]; omega, ?_⟩
        show _ = ((l.flatMap L.enc).drop (k * L.st + j)).take z
        rw [← flat_at L l k hk, List.drop_take, List.take_take, List.drop_drop, Nat.min_eq_left (by omega)]
      · cases h
theorem writeAt_flat {o o' : SObj} {k st j : Nat} {ys : List AV} {ob : List Prop} (h : writeAt o k st j ys = some (o', ob)) (hob : AllT ob) : o.live = true ∧ o'.live = true ∧ o'.stride = o.stride ∧ k * st + j + ys.length ≤ o.flat.length ∧
    o'.flat = o.flat.take (k * st + j) ++ ys ++ o.flat.drop (k * st + j + ys.length) := by
  cases o with
  | cells s xs =>
    simp only [writeAt, Option.some.injEq, Prod.mk.injEq] at h
    obtain ⟨rfl, rfl⟩ := h
    exact ⟨rfl, rfl, rfl, hob.1, rfl⟩
  | dead => simp [writeAt] at h
  | arr α L l =>
    simp only [writeAt] at h
    by_cases hs : st = 0
    · rw [if_pos hs] at h
      split at h
      · rename_i hj
        simp only [Option.some.injEq, Prod.mk.injEq] at h
        obtain ⟨rfl, rfl⟩ := h
        subst hs; subst hj
        have hz : l.length * L.st = ys.length := hob.1
        have hl := flat_length L l
        refine ⟨rfl, rfl, rfl, by show _ ≤ (l.flatMap L.enc).length; omega, ?_⟩
        show ys = (l.flatMap L.enc).take (k * 0 + 0) ++ ys ++ (l.flatMap L.enc).drop (k * 0 + 0 + ys.length)
        rw [Nat.mul_zero, List.take_zero, List.drop_eq_nil_of_le (by omega)]; simp
      · cases h
    · rw [if_neg hs] at h
      split at h
      · rename_i hL
        split at h
        · rename_i y hy
          simp only [Option.some.injEq, Prod.mk.injEq] at h
          obtain ⟨rfl, rfl⟩ := h
          subst hL
          have hk : k < l.length := hob.1
          obtain ⟨p1, p2⟩ := L.put _ _ _ _ hy
          have hm : k * L.st + L.st ≤ l.length * L.st := by
            have := Nat.mul_le_mul_right L.st hk
            rwa [Nat.succ_mul] at this
          have hl := flat_length L l
          refine ⟨rfl, rfl, rfl, by show _ ≤ (l.flatMap L.enc).length; omega, ?_⟩
          show (l.set k y).flatMap L.enc = (l.flatMap L.enc).take (k * L.st + j) ++ ys ++ (l.flatMap L.enc).drop (k * L.st + j + ys.length)
          rw [flat_set L l k y hk, p2, ← flat_at L l k hk]
          generalize l.flatMap L.enc = f at hl ⊢
          have e1 : (f.drop (k * L.st)).take L.st = (f.take (k * L.st + L.st)).drop (k * L.st) := by rw [List.drop_take]; congr 1; omega
          apply List.ext_getElem?
          intro i
          simp only [List.getElem?_append, List.length_append, List.length_take, List.length_drop, List.getElem?_take, List.getElem?_drop]
          repeat' split
          all_goals first
            | rfl
            | (exfalso; omega)
            | (congr 1; omega)
            | (rw [List.getElem?_eq_none (by omega)])
            | (symm; rw [List.getElem?_eq_none (by omega)])
        · cases h
      · cases h
end Go.Proofs.YtahiopdkekkibaaGreatDoor

/-
  A walk by reckoning, part 8: load, store, new variables, make, strings and bytes. It speaks of no program.
-/
namespace Go.Proofs.YtahiopdkekkibaaGreatDoor
open Go Go.RowKit
set_option linter.unusedVariables false
set_option linter.unusedSimpArgs false

def PlainL (ys : List AV) : Prop := ∀ y ∈ ys, y.plain
def headS (row : Bool) (ys : List AV) : SV := if row then .c (.agg ys) else .c (.one (match ys with | x :: _ => x | [] => .junk))
def loadA (ti : TyI) (id k st j : Nat) : Actn := ⟨[id], false, fun es _ => match es with
  | [e] => match readAt e.o k st j ti.size with
    | some (ys, ob) => some ⟨headS ti.d.isRow ys, [], [], ob⟩
    | none => none
  | _ => none⟩
def storeA (ti : TyI) (id k st j : Nat) (c : CV) : Actn := ⟨[id], true, fun es _ => match es with
  | [e] => if e.wr then match writeAt e.o k st j c.cells with
    | some (o, ob) => some ⟨.c (.one .junk), [o], [], (c.cells.length = ti.size) :: PlainL c.cells :: ob⟩
    | none => none
    else none
  | _ => none⟩
section
variable {C : Ctx} {r : Lc} {hp : List (Nat × Ent)} {w : World}
theorem HeapOk.row (h : HeapOk C r hp w) {id : Nat} {e : Ent} {g : Blk} {c : Nat} (he : aget hp id = some e) (hl : e.o.live = true) (hr : r id = some (some (g, c))) : ∃ cs, RowAt w g cs ∧ c * e.o.stride ≤ cs.size ∧ Holds r e.o.flat cs := by
  rcases h.obj id e _ he hr hl with ⟨h1, _⟩ | ⟨g', c', cs, h1, h2, h3, h4⟩
  · cases h1
  · cases h1; exact ⟨cs, h2, h3, h4⟩
theorem rangeAt_of {g : Blk} {cs : Array Value} (h : RowAt w g cs) {o : Nat} {us : List Value} (hu : ∀ j v, us[j]? = some v → cs[o + j]? = some v) : w.rangeAt g.1 (o + g.off) us := fun j v hv => by
  rw [Nat.add_right_comm, h.cell]; exact hu j v hv
end
theorem cells_one {u : Value} (h : u.oneCell' = true) : u.cells = #[u] := by cases u <;> first | rfl | simp [Value.oneCell'] at h
theorem All2.plain {r : Lc} : ∀ {ys : List AV} {us : List Value}, PlainL ys → All2 (AV.rel r) ys us → ∀ v ∈ us, v.oneCell' = true
  | [], [], _, _ => by simp
  | y :: ys, u :: us, hp, ⟨h1, h2⟩ => by
    intro v hv
    rcases List.mem_cons.1 hv with rfl | hv
    · exact AV.plain_one (hp y (by simp)) h1
    · exact All2.plain (fun y' h' => hp y' (by simp [h'])) h2 v hv
/-- The cells of a value. -/
theorem CV.cells_rel {r : Lc} {c : CV} {u : Value} (h : c.rel r u) (hp : PlainL c.cells) : All2 (AV.rel r) c.cells u.cells.toList := by
  cases c with
  | one x =>
    have := AV.plain_one (hp x (by simp [CV.cells])) h
    rw [cells_one this]; exact ⟨h, trivial⟩
  | agg xs =>
    obtain ⟨cs, rfl, h2⟩ := h
    simpa [CV.cells, Value.cells] using h2
section
variable {P : Program} {G : List GFact} {T : Nat → Option TyI} {o : Oper} {sv : Operand → SV} {ev : Operand → Value} {r : Lc}
theorem actOk_load (hT : TyOk P T) (he : EvOk r sv ev) {t : TypeId} {x : Operand} (ho : o.op = .load t x) {ti : TyI} (ht : T t = some ti) (h1 : ti.d.isRow = false → ti.size = 1) {id k st j : Nat} (hx : sv x = .c (.one (.ptr id k st j))) :
    ActOk P G o ev r (loadA ti id k st j) := by
  intro C hp w es fresh R hh hg hr hob _ _ hsub
  obtain ⟨e, hid, rfl⟩ := getAll_one hg
  simp only [loadA] at hr
  cases hra : readAt e.o k st j ti.size with
  | none => rw [hra] at hr; cases hr
  | some q =>
    obtain ⟨ys, ob⟩ := q
    rw [hra] at hr
    injection hr with hr
    subst hr
    obtain ⟨hl, hlen, hys⟩ := readAt_flat hra hob (fun h => by rw [h]; rfl)
    have hx' := he x
    rw [hx] at hx'
    obtain ⟨g, c, hrid, hv⟩ := hx'
    obtain ⟨cs, hrow, _, hholds⟩ := hh.row hid hl hrid
    obtain ⟨us, hul, hus, hall⟩ := hholds.slice hlen
    rw [← hys] at hall
    have hrg := rangeAt_of hrow hus
    obtain ⟨hu, nf, hi1, hi2, _⟩ := hT t ti ht
    by_cases hd : ti.d.isRow = true
    · refine StepOk.of_value (u := .agg us.toArray) (w' := w) ?_ ⟨r, r.le_refl, ?_, hh⟩
      · unfold execOp
        rw [ho]
        have := run_loadAt_mid (P := P) w g.1 (k * st + j + g.off) t us ti.d hrg hu hd (by rw [hi1]; simp [hi2, hul])
        simp only [hv, Sem.run_bind, this, Result.andThen_ok, Sem.run_pure]
      · simp only [headS, hd, if_true]
        exact ⟨us, rfl, hall⟩
    · have hd' : ti.d.isRow = false := by simpa using hd
      have hz := h1 hd'
      rw [hz] at hul
      obtain ⟨u, rfl⟩ : ∃ u, us = [u] := by
        match us, hul with
        | [u], _ => exact ⟨u, rfl⟩
      obtain ⟨y, rfl⟩ : ∃ y, ys = [y] := by
        have := hall.length
        match ys, this with
        | [y], _ => exact ⟨y, rfl⟩
      refine StepOk.of_value (u := u) (w' := w) ?_ ⟨r, r.le_refl, ?_, hh⟩
      · unfold execOp
        rw [ho]
        have hc : w.cell? ⟨g.1, k * st + j + g.off, none⟩ = some u := by simpa using hrg 0 u (by simp)
        have hag := run_isAgg hT ht w
        rw [hd'] at hag
        simp only [hv, Sem.run_bind, Instr.loadAt, Instr.sureAddr, Sem.run_pure, Result.andThen_ok, loadVar, hag, run_load, hc]
        simp [hc]
      · simp only [headS, hd']
        exact hall.1
theorem run_storeAt_gen (hT : TyOk P T) {t : TypeId} {ti : TyI} (ht : T t = some ti) (w : World) (g off : Nat) (v : Value) (hth : w.there g off v.cells.size) (hs : v.cells.size = ti.size) (h1 : ∀ u ∈ v.cells.toList, u.oneCell' = true) :
    (Instr.storeAt t (.pointer (some ⟨g, off, none⟩)) v).run P w = .ok () (w.setCells g off v.cells.toList) := by
  have := run_storeCells_cells (P := P) g off v.cells.toList 0 w (fun j hj => by simpa using (hth j (by simpa using hj)).1) (fun j hj => by simpa using (hth j (by simpa using hj)).2) h1
  simp only [Nat.add_zero] at this
  simp only [Instr.storeAt, Instr.sureAddr, Sem.run_bind, Sem.run_pure, Result.andThen_ok, storeVar, run_size hT ht w, hs, ne_eq, not_true_eq_false, if_false, this]
theorem actOk_store (hT : TyOk P T) (he : EvOk r sv ev) {t : TypeId} {x y : Operand} (ho : o.op = .store t x y) {ti : TyI} (ht : T t = some ti) {id k st j : Nat} (hx : sv x = .c (.one (.ptr id k st j))) {c : CV} (hy : sv y = .c c) :
    ActOk P G o ev r (storeA ti id k st j c) := by
  intro C hp w es fresh R hh hg hr hob _ _ hsub
  obtain ⟨e, hid, rfl⟩ := getAll_one hg
  simp only [storeA] at hr
  by_cases hwr : e.wr = true
  case neg => rw [if_neg hwr] at hr; cases hr
  rw [if_pos hwr] at hr
  cases hra : writeAt e.o k st j c.cells with
  | none => rw [hra] at hr; cases hr
  | some q =>
    obtain ⟨o', ob⟩ := q
    rw [hra] at hr
    injection hr with hr
    subst hr
    obtain ⟨hsz, hpl, hob⟩ := hob
    obtain ⟨hl, hl', hst, hlen, hflat⟩ := writeAt_flat hra hob
    have hx' := he x
    rw [hx] at hx'
    obtain ⟨⟨g, z⟩, cc, hrid, hv⟩ := hx'
    obtain rfl : z = none := (hh.own id e _ _ hid hl hwr hrid).1
    have hv : ev x = .pointer (some ⟨g, k * st + j, none⟩) := hv
    have hy' := he y
    rw [hy] at hy'
    have hcr := CV.cells_rel hy' hpl
    have hcl := hcr.length
    obtain ⟨cs, hrow, hcap, hholds⟩ := hh.row hid hl hrid
    have hbd := hholds.bound
    have hcs : k * st + j + (ev y).cells.size ≤ cs.size := by
      have : (ev y).cells.size = c.cells.length := by rw [hcl]; simp
      omega
    have hth : w.there g (k * st + j) (ev y).cells.size := fun i hi => by
      have hlt : k * st + j + i < cs.size := by omega
      refine ⟨?_, hrow.free _ hlt⟩
      rw [hrow.cell0, Array.getElem?_eq_getElem hlt]; rfl
    have hrun := run_storeAt_gen (P := P) hT ht w g (k * st + j) (ev y) hth (by rw [← hsz, hcl]; simp) (All2.plain hpl hcr)
    obtain ⟨s1, s2, s3, s4, s5⟩ := setCells_same g (ev y).cells.toList w (k * st + j)
    refine StepOk.of_skip (w' := w.setCells g (k * st + j) (ev y).cells.toList) ?_ ⟨r, r.le_refl, trivial, ?_⟩
    · unfold execOp
      rw [ho]
      simp only [hv, Sem.run_bind, hrun, Result.andThen_ok, Sem.run_pure]
    · refine hh.turn hid hl hwr hrid o' s1 s2 s3 (by rw [s4]; exact Nat.le_refl _) (fun b _ hb => s5 b hb) fun _ => .inr ⟨(g, none), cc, putCells cs (k * st + j) (ev y).cells.toList, rfl, hrow.puts _ _ _ _, ?_, ?_⟩
      · rw [hst, putCells_size]; exact hcap
      · rw [hflat]
        exact hholds.splice hlen hcr (by simpa using hcs)
/-- What is made at once. -/
def strideOf (T : Nat → Option TyI) (d : TypeDesc) : Nat := match d with
  | .array _ e => match T e with
    | some ei => ei.size
    | none => 1
  | _ => 1
def newA (s : Nat) (xs : List AV) (ob : List Prop) : Actn := ⟨[], false, fun _ fresh => some ⟨.c (.one (.ptr (fresh 0) 0 0 0)), [], [.cells s xs], ob⟩⟩
theorem rowAt_alloc (w : World) (cs : Array Value) (t : TypeId) : RowAt (w.alloc (.cells cs t)) (w.heap.size, none) cs := ⟨cs, t, (0, 0), heap_alloc_new w _, fun _ => rfl, fun _ _ _ h => by omega⟩
theorem holds_of_all2 {r : Lc} {xs : List AV} {us : List Value} (h : All2 (AV.rel r) xs us) : Holds r xs us.toArray := fun j x hx => by
  obtain ⟨u, hu, hr⟩ := h.get j x hx
  exact ⟨u, by simpa using hu, hr⟩
theorem actOk_new {s : Nat} {xs : List AV} {ob : List Prop} (h : AllT ob → ∀ w, ∃ (cs : Array Value) (t : TypeId), (execOp ev o).run P w = .ok (.value (.pointer (some ⟨w.heap.size, 0, none⟩))) (w.alloc (.cells cs t)) ∧ Holds r xs cs) :
    ActOk P G o ev r (newA s xs ob) := by
  intro C hp w es fresh R hh hg hr hob hfr _ hsub
  simp only [newA, Option.some.injEq] at hr
  subst hr
  have hid := hfr 0 (by simp)
  obtain ⟨cs, t, hrun, hholds⟩ := h hob w
  refine StepOk.of_value hrun ⟨r.add (fresh 0) (some ((w.heap.size, none), 0)), Lc.add_le ((hh.dom _).2 hid) _, ⟨(w.heap.size, none), 0, Lc.add_same _ _ _, by simp⟩, ?_⟩
  refine hh.make hid _ _ rfl rfl rfl (by simp) (fun b hb => Below.heap_alloc w _ b hb) (fun g c e => by injection e with e; injection e with e1 e2; subst e1; exact ⟨Nat.le_refl _, rfl⟩) fun _ => .inr ⟨_, _, cs, rfl, rowAt_alloc w cs t, by simp, ?_⟩
  exact hholds.le (Lc.add_le ((hh.dom _).2 hid) _)
theorem actOk_alloc (hT : TyOk P T) {t : TypeId} (ho : o.op = .alloc t) {ti : TyI} (ht : T t = some ti) : ActOk P G o ev r (newA (strideOf T ti.d) ti.zero.cells []) :=
  actOk_new fun _ w => by
    obtain ⟨hu, nf, h1, h2, h3, z, hz, hzr, hzs, hzl, hzp, _⟩ := hT t ti ht
    refine ⟨z.cells, t, ?_, ?_⟩
    · unfold execOp
      rw [ho]
      simp [Instr.alloc, zeroValue, typeInfo, h1, hz, newVar, newRow]
    · have := CV.cells_rel (hzr r) (fun y hy => (hzp y hy).1)
      have := holds_of_all2 this
      simpa using this
theorem actOk_box (he : EvOk r sv ev) {t : TypeId} {x : Operand} (ho : o.op = .box t x) {c : CV} (hx : sv x = .c c) (s : Nat) : ActOk P G o ev r (newA s c.cells [PlainL c.cells]) :=
  actOk_new fun hob w => by
    have h := he x
    rw [hx] at h
    refine ⟨(ev x).cells, t, ?_, ?_⟩
    · unfold execOp
      rw [ho]
      simp [Instr.box, newVar, newRow]
    · have := holds_of_all2 (CV.cells_rel h hob.1)
      simpa using this
/-- make([]T, n, c). -/
def makeA (ei : TyI) (z : AV) (n c : Int) : Actn := ⟨[], false, fun _ fresh => some ⟨.c (.one (.sl (fresh 0) 0 1 n.toNat)), [], [.cells 1 (List.replicate n.toNat z)], [0 ≤ n ∧ n ≤ c ∧ (ei.bytes : Int) * c ≤ 281474976710656 ∧ c ≤ 9223372036854775807]⟩⟩
theorem madeCells_get (z : Value) (n j : Nat) (h : j < n) : (madeCells #[z] n)[j]? = some z := by
  simp [madeCells, h, Nat.mod_one]
theorem actOk_make (hT : TyOk P T) (he : EvOk r sv ev) {t : TypeId} {x y : Operand} (ho : o.op = .makeSlice t x y) {ti ei : TyI} (ht : T t = some ti) {e : TypeId} (hd : ti.d = .slice e) (hE : T e = some ei) (hs : ei.size = 1) {z : AV} (hz : ei.zero = .one z)
    {a b : AV} (hx : sv x = .c (.one a)) (hy : sv y = .c (.one b)) {n c : Int} (hn : a.toI = some n) (hc : b.toI = some c) : ActOk P G o ev r (makeA ei z n c) := by
  intro C hp w es fresh R hh hg hr hob hfr _ hsub
  simp only [makeA, Option.some.injEq] at hr
  subst hr
  have hid := hfr 0 (by simp)
  obtain ⟨⟨o1, o2, o3, o4⟩, _⟩ := hob
  have h1 := he x
  have h2 := he y
  rw [hx] at h1
  rw [hy] at h2
  obtain ⟨k1, hk1⟩ := AV.toI_rel hn h1
  obtain ⟨k2, hk2⟩ := AV.toI_rel hc h2
  obtain ⟨hu, nf, i1, i2, i3, zv, hzv, hzr, hzs, _, hzp, _⟩ := hT e ei hE
  have hut : P.underlying t = some (.slice e) := by rw [(hT t ti ht).1, hd]
  have hone : zv.oneCell' = true := by
    have := hzr r
    rw [hz] at this
    exact AV.plain_one (hzp z (by rw [hz]; simp [CV.cells])).1 this
  have hrun := run_make (P := P) w t e nf zv hut i1 hzv k1 k2 n c o1 o2 (by rw [i3]; exact o3) o4
  rw [i2, hs, Nat.mul_one, cells_one hone] at hrun
  have hsz : (madeCells #[zv] c.toNat).size = c.toNat := size_madeCells _ _
  refine StepOk.of_value (u := .slice (some ⟨w.heap.size, 0, none⟩) n.toNat c.toNat) (w' := w.alloc (.cells (madeCells #[zv] c.toNat) e)) ?_ ⟨r.add (fresh 0) (some ((w.heap.size, none), c.toNat)), Lc.add_le ((hh.dom _).2 hid) _, ?_, ?_⟩
  · unfold execOp
    rw [ho]
    simp only [hk1, hk2, Sem.run_bind, hrun, Result.andThen_ok, Sem.run_pure]
  · exact .inr ⟨(w.heap.size, none), c.toNat, 0, Lc.add_same _ _ _, by omega, fun _ => by simp, rfl⟩
  · refine hh.make hid _ _ rfl rfl rfl (by simp) (fun b hb => Below.heap_alloc w _ b hb) (fun g c e => by injection e with e; injection e with e1 e2; subst e1; exact ⟨Nat.le_refl _, rfl⟩) fun _ => .inr ⟨_, _, _, rfl, rowAt_alloc w _ e, ?_, ?_⟩
    · show c.toNat * 1 ≤ _; rw [hsz]; omega
    · intro j q hq
      have hj : j < n.toNat := by
        have hq' : (List.replicate n.toNat z)[j]? = some q := hq
        have := (List.getElem?_eq_some_iff.1 hq').1
        rwa [List.length_replicate] at this
      have hqz : q = z := by
        have : (List.replicate n.toNat z)[j]? = some q := hq
        rw [List.getElem?_replicate, if_pos hj] at this
        exact (Option.some.inj this).symm
      subst hqz
      have := hzr (r.add (fresh 0) (some ((w.heap.size, none), c.toNat)))
      rw [hz] at this
      exact ⟨zv, madeCells_get zv c.toNat j (by omega), this⟩
end
/-- Bytes. -/
def u8L : Lay UInt8 where
  st := 1
  enc x := [.u8 x]
  d := 0
  up x j ys := match ys with
    | [.u8 y] => if j = 0 then some y else none
    | _ => none
  toB := some fun x => x
  ofB := some fun x => x
  len _ := rfl
  put x j ys y h := by
    split at h
    · split at h
      · rename_i h0; injection h with h; subst h; subst h0; simp
      · cases h
    · cases h
  plain x v h := by simp at h; subst h; trivial
  bare x v h := by simp at h; subst h; trivial
  toB_ok f h x := by injection h with h; subst h; rfl
  ofB_ok f h x := by injection h with h; subst h; rfl
theorem u8_flat (l : List UInt8) : l.flatMap u8L.enc = l.map .u8 := by
  show l.flatMap (fun x => [AV.u8 x]) = _
  induction l with
  | nil => rfl
  | cons x l ih => rw [List.flatMap_cons, ih]; rfl
def bytesA (l : List UInt8) : Actn := ⟨[], false, fun _ fresh => some ⟨.c (.one (.sl (fresh 0) 0 1 l.length)), [], [.arr UInt8 u8L l], []⟩⟩
def toBytes : List AV → Option (List UInt8)
  | [] => some []
  | .u8 x :: l => match toBytes l with
    | some r => some (x :: r)
    | none => none
  | _ => none
/-- A piece of a row, as bytes. -/
def bytesOf (o : SObj) (k n : Nat) : Option (List UInt8 × List Prop) :=
  match o with
  | .cells _ xs => match toBytes ((xs.drop k).take n) with
    | some l => some (l, [k + n ≤ xs.length])
    | none => none
  | .arr _ L l => match L.toB with
    | some f => some (((l.drop k).take n).map f, [k + n ≤ l.length])
    | none => none
  | .dead => none
theorem toBytes_map : ∀ {xs : List AV} {l : List UInt8}, toBytes xs = some l → xs = l.map .u8
  | [], l, h => by simp [toBytes] at h; subst h; rfl
  | x :: xs, l, h => by
    cases x <;> simp only [toBytes, reduceCtorEq] at h
    case u8 y =>
      cases ht : toBytes xs with
      | none => rw [ht] at h; cases h
      | some r =>
        rw [ht] at h
        injection h with h
        subst h
        rw [toBytes_map ht]; rfl
section
variable {P : Program} {G : List GFact} {T : Nat → Option TyI} {o : Oper} {sv : Operand → SV} {ev : Operand → Value} {r : Lc}
theorem actOk_bytes (hT : TyOk P T) (he : EvOk r sv ev) {s d : TypeId} {x : Operand} (ho : o.op = .convert s d x) {si di ei : TyI} (hs : T s = some si) (hd : T d = some di) {e : TypeId} (hde : di.d = .slice e) (hE : T e = some ei) (he8 : ei.d = .int .u8)
    {l : List UInt8} (hx : sv x = .c (.one (.str l))) : ActOk P G o ev r (bytesA l) := by
  intro C hp w es fresh R hh hg hr hob hfr _ hsub
  simp only [bytesA, Option.some.injEq] at hr
  subst hr
  have hid := hfr 0 (by simp)
  have h1 := he x
  rw [hx] at h1
  have h1' : ev x = .string ⟨l.toArray⟩ := h1
  have hrun := Lib.run_convert_string_bytes (P := P) w s d e ⟨l.toArray⟩ (hT s si hs).1 (by rw [(hT d di hd).1, hde]) (by rw [(hT e ei hE).1, he8])
  have hsz : (⟨l.toArray⟩ : ByteArray).size = l.length := rfl
  have hge := grownCap_ge w l.length 0 e
  rw [hsz] at hrun
  have hcs : (Lib.bytesCells w e ⟨l.toArray⟩).size = grownCap w l.length 0 e := by
    simp [Lib.bytesCells, hsz]; omega
  refine StepOk.of_value (u := .slice (some ⟨w.heap.size, 0, none⟩) l.length (grownCap w l.length 0 e)) (w' := Lib.bytesWorld w e ⟨l.toArray⟩) ?_ ⟨r.add (fresh 0) (some ((w.heap.size, none), grownCap w l.length 0 e)), Lc.add_le ((hh.dom _).2 hid) _, ?_, ?_⟩
  · unfold execOp
    rw [ho]
    simp only [h1', Sem.run_bind, hrun, Result.andThen_ok, Sem.run_pure]
  · exact .inr ⟨(w.heap.size, none), grownCap w l.length 0 e, 0, Lc.add_same _ _ _, by omega, fun _ => by simp, rfl⟩
  · refine hh.make hid _ _ rfl rfl rfl (by rw [Lib.bytesWorld_size]; omega) (fun b hb => Lib.bytesWorld_at_old w e _ b hb) (fun g c e => by injection e with e; injection e with e1 e2; subst e1; exact ⟨Nat.le_refl _, rfl⟩) fun _ => .inr ⟨_, _, _, rfl, ⟨_, _, _, Lib.bytesWorld_at_new w e _, fun _ => rfl, fun _ => ?_⟩, ?_, ?_⟩
    · intro j hj hf; simp only at hf; omega
    · show _ * 1 ≤ _; rw [hcs]; omega
    · intro j q hq
      have hq' : (l.map AV.u8)[j]? = some q := by rw [← u8_flat]; exact hq
      rw [List.getElem?_map] at hq'
      cases hj : l[j]? with
      | none => rw [hj] at hq'; cases hq'
      | some b =>
        rw [hj] at hq'
        simp only [Option.map_some, Option.some.injEq] at hq'
        subst hq'
        have hlt : j < l.length := (List.getElem?_eq_some_iff.1 hj).1
        refine ⟨.int .u8 (b.toNat : Int), ?_, rfl⟩
        have hb : l[j] = b := by
          have := List.getElem?_eq_getElem hlt
          rw [this] at hj; exact Option.some.inj hj
        rw [Lib.bytesCells, Array.getElem?_append_left (by simpa using hlt)]
        simp [hlt, hb]
end
end Go.Proofs.YtahiopdkekkibaaGreatDoor

/-
  A walk by reckoning, part 9: rows that grow, copies, bytes as a string. It speaks of no program.
-/
namespace Go.Proofs.YtahiopdkekkibaaGreatDoor
open Go Go.RowKit
set_option linter.unusedVariables false
set_option linter.unusedSimpArgs false

theorem bytesOf_flat {o : SObj} {k n : Nat} {l : List UInt8} {ob : List Prop} (h : bytesOf o k n = some (l, ob)) (hob : AllT ob) (hs : o.stride = 1) : o.live = true ∧ k + n ≤ o.flat.length ∧ (o.flat.drop k).take n = l.map .u8 := by
  cases o with
  | dead => simp [bytesOf] at h
  | cells s xs =>
    simp only [bytesOf] at h
    cases ht : toBytes ((xs.drop k).take n) with
    | none => rw [ht] at h; cases h
    | some q =>
      rw [ht] at h
      simp only [Option.some.injEq, Prod.mk.injEq] at h
      obtain ⟨rfl, rfl⟩ := h
      exact ⟨rfl, hob.1, toBytes_map ht⟩
  | arr α L a =>
    simp only [bytesOf] at h
    cases hb : L.toB with
    | none => rw [hb] at h; cases h
    | some f =>
      rw [hb] at h
      simp only [Option.some.injEq, Prod.mk.injEq] at h
      obtain ⟨rfl, rfl⟩ := h
      have hf : ∀ m : List α, m.flatMap L.enc = (m.map f).map .u8 := fun m => by
        induction m with
        | nil => rfl
        | cons x m ih => rw [List.flatMap_cons, ih, L.toB_ok f hb x]; rfl
      have hst : L.st = 1 := hs
      refine ⟨rfl, ?_, ?_⟩
      · show _ ≤ (a.flatMap L.enc).length
        rw [flat_length, hst]; have := hob.1; omega
      · show ((a.flatMap L.enc).drop k).take n = _
        rw [hf, List.map_take, List.map_drop, List.map_take, List.map_drop]
def strA (id k n : Nat) : Actn := ⟨[id], false, fun es _ => match es with
  | [e] => match bytesOf e.o k n with
    | some (l, ob) => some ⟨.c (.one (.str l)), [], [], (e.o.stride = 1) :: ob⟩
    | none => none
  | _ => none⟩
section
variable {P : Program} {G : List GFact} {T : Nat → Option TyI} {o : Oper} {sv : Operand → SV} {ev : Operand → Value} {r : Lc}
theorem actOk_str (hT : TyOk P T) (he : EvOk r sv ev) {s d : TypeId} {x : Operand} (ho : o.op = .convert s d x) {si di ei : TyI} (hs : T s = some si) (hd : T d = some di) {e : TypeId} (hse : si.d = .slice e) (hds : di.d = .string) (hE : T e = some ei) (he8 : ei.d = .int .u8)
    {id k n : Nat} (hx : sv x = .c (.one (.sl id k 1 n))) : ActOk P G o ev r (strA id k n) := by
  intro C hp w es fresh R hh hg hr hob _ _ hsub
  obtain ⟨en, hid, rfl⟩ := getAll_one hg
  simp only [strA] at hr
  cases hb : bytesOf en.o k n with
  | none => rw [hb] at hr; cases hr
  | some q =>
    obtain ⟨l, ob⟩ := q
    rw [hb] at hr
    injection hr with hr
    subst hr
    obtain ⟨hst, hob⟩ := hob
    obtain ⟨hl, hlen, hfl⟩ := bytesOf_flat hb hob hst
    have h1 := he x
    rw [hx] at h1
    have hu1 : P.underlying s = some (.slice e) := by rw [(hT s si hs).1, hse]
    have hu2 : P.underlying e = some (.int .u8) := by rw [(hT e ei hE).1, he8]
    have hu3 : P.underlying d = some .string := by rw [(hT d di hd).1, hds]
    rcases h1 with ⟨hid', hk0, hn0, av, hv⟩ | ⟨g, c, off, hrid, hkn, hoff, hv⟩
    · subst hk0; subst hn0
      have hl0 : l = [] := by
        have := congrArg List.length hfl
        simp at this
        exact List.eq_nil_of_length_eq_zero this.symm
      subst hl0
      refine StepOk.of_value (u := .string ⟨#[]⟩) (w' := w) ?_ ⟨r, r.le_refl, rfl, hh⟩
      unfold execOp
      rw [ho]
      cases av with
      | none =>
        simp only [hv, Sem.run_bind, run_convert_bytes_string w s d e none 0 0 hu1 hu2 hu3, Result.andThen_ok, Sem.run_pure]
        rfl
      | some av =>
        have hrun := run_convert_bytes_back (P := P) w s d e av 0 [] hu1 hu2 hu3 (fun j hj => absurd hj (Nat.not_lt_zero _))
        simp only [List.length_nil] at hrun
        simp only [hv, Sem.run_bind, hrun, Result.andThen_ok, Sem.run_pure]
    · obtain ⟨cs, hrow, hcap, hholds⟩ := hh.row hid hl hrid
      obtain ⟨us, hul, hus, hall⟩ := hholds.slice hlen
      rw [hfl] at hall
      have hrun := run_convert_bytes_back (P := P) w s d e ⟨g.1, off, none⟩ (c - k) l hu1 hu2 hu3 (fun j hj => by
        have hk : k < c := by
          have : l.length = n := by have := congrArg List.length hfl; simp at this; omega
          omega
        rw [Addr.add_plain, hoff hk, Nat.mul_one, Nat.add_right_comm, hrow.cell]
        obtain ⟨u, hu, hr⟩ := hall.get j (.u8 (l[j])) (by simp [hj])
        rw [hus j u hu]
        simp only [AV.rel] at hr
        rw [hr])
      have hnl : l.length = n := by have := congrArg List.length hfl; simp at this; omega
      rw [hnl] at hrun
      refine StepOk.of_value (u := .string ⟨l.toArray⟩) (w' := w) ?_ ⟨r, r.le_refl, rfl, hh⟩
      unfold execOp
      rw [ho]
      simp only [hv, Sem.run_bind, hrun, Result.andThen_ok, Sem.run_pure]
theorem actOk_strNil (hT : TyOk P T) (he : EvOk r sv ev) {s d : TypeId} {x : Operand} (ho : o.op = .convert s d x) {si di ei : TyI} (hs : T s = some si) (hd : T d = some di) {e : TypeId} (hse : si.d = .slice e) (hds : di.d = .string) (hE : T e = some ei) (he8 : ei.d = .int .u8)
    (hx : sv x = .c (.one (.val (.slice none 0 0)))) : ActOk P G o ev r (pureA (.str []) []) := by
  refine actOk_pure fun _ w => ?_
  have h1 := he x
  rw [hx] at h1
  have h1 : ev x = .slice none 0 0 := h1
  have hu1 : P.underlying s = some (.slice e) := by rw [(hT s si hs).1, hse]
  have hu2 : P.underlying e = some (.int .u8) := by rw [(hT e ei hE).1, he8]
  have hu3 : P.underlying d = some .string := by rw [(hT d di hd).1, hds]
  refine ⟨.string ⟨#[]⟩, ?_, rfl⟩
  unfold execOp
  rw [ho]
  simp only [h1, Sem.run_bind, run_convert_bytes_string w s d e none 0 0 hu1 hu2 hu3, Result.andThen_ok, Sem.run_pure]
  rfl
end
theorem drop_enc {α : Type} (L : Lay α) (x : α) (f : List AV) (n : Nat) (h : L.st ≤ n) : (L.enc x ++ f).drop n = f.drop (n - L.st) := by
  rw [List.drop_append, L.len]
  have : (L.enc x).drop n = [] := List.drop_eq_nil_of_le (by rw [L.len]; exact h)
  rw [this, List.nil_append]
theorem take_enc {α : Type} (L : Lay α) (x : α) (f : List AV) (n : Nat) (h : L.st ≤ n) : (L.enc x ++ f).take n = L.enc x ++ f.take (n - L.st) := by
  rw [List.take_append, L.len]
  have : (L.enc x).take n = L.enc x := List.take_of_length_le (by rw [L.len]; exact h)
  rw [this]
/-- A piece of a row. -/
def subObj (o : SObj) (k n : Nat) : SObj × List Prop :=
  match o with
  | .cells s xs => (.cells s ((xs.drop (k * s)).take (n * s)), [k * s + n * s ≤ xs.length])
  | .arr α L l => (.arr α L ((l.drop k).take n), [k + n ≤ l.length])
  | .dead => (.dead, [False])
theorem subObj_flat {o : SObj} {k n : Nat} (hob : AllT (subObj o k n).2) : o.live = true ∧ (subObj o k n).1.live = true ∧ (subObj o k n).1.stride = o.stride ∧ k * o.stride + n * o.stride ≤ o.flat.length ∧ (subObj o k n).1.flat = (o.flat.drop (k * o.stride)).take (n * o.stride) := by
  cases o with
  | dead => exact hob.1.elim
  | cells s xs => exact ⟨rfl, rfl, rfl, hob.1, rfl⟩
  | arr α L l =>
    have h : k + n ≤ l.length := hob.1
    have hd : ∀ (k : Nat) (m : List α), (m.drop k).flatMap L.enc = (m.flatMap L.enc).drop (k * L.st) := fun k => by
      induction k with
      | zero => intro m; simp
      | succ k ih =>
        intro m
        cases m with
        | nil => simp
        | cons x m =>
          rw [List.drop_succ_cons, ih, List.flatMap_cons]
          rw [drop_enc L x _ _ (by rw [Nat.add_mul]; omega), Nat.add_mul, Nat.one_mul, Nat.add_sub_cancel]
    have ht : ∀ (n : Nat) (m : List α), (m.take n).flatMap L.enc = (m.flatMap L.enc).take (n * L.st) := fun n => by
      induction n with
      | zero => intro m; simp
      | succ n ih =>
        intro m
        cases m with
        | nil => simp
        | cons x m =>
          rw [List.take_succ_cons, List.flatMap_cons, ih, List.flatMap_cons]
          rw [take_enc L x _ _ (by rw [Nat.add_mul]; omega), Nat.add_mul, Nat.one_mul, Nat.add_sub_cancel]
    refine ⟨rfl, rfl, rfl, ?_, ?_⟩
    · show _ ≤ (l.flatMap L.enc).length
      rw [flat_length]
      show k * L.st + n * L.st ≤ _
      rw [← Nat.add_mul]; exact Nat.mul_le_mul_right _ h
    · show ((l.drop k).take n).flatMap L.enc = ((l.flatMap L.enc).drop (k * L.st)).take (n * L.st)
      rw [ht, hd]
/-- Cells, as members. -/
def decAll {α : Type} (L : Lay α) : Nat → List AV → Option (List α)
  | _, [] => some []
  | 0, _ :: _ => none
  | f + 1, y :: ys => if L.st ≤ (y :: ys).length then match L.up L.d 0 ((y :: ys).take L.st) with
    | some a => match decAll L f ((y :: ys).drop L.st) with
      | some l => some (a :: l)
      | none => none
    | none => none else none
theorem decAll_flat {α : Type} {L : Lay α} : ∀ {f : Nat} {ys : List AV} {l : List α}, decAll L f ys = some l → l.flatMap L.enc = ys
  | _, [], l, h => by simp only [decAll, Option.some.injEq] at h; subst h; rfl
  | 0, _ :: _, _, h => by simp [decAll] at h
  | f + 1, y :: ys, l, h => by
    simp only [decAll] at h
    split at h
    · rename_i hst
      cases hu : L.up L.d 0 ((y :: ys).take L.st) with
      | none => rw [hu] at h; cases h
      | some a =>
        rw [hu] at h
        cases hq : decAll L f ((y :: ys).drop L.st) with
        | none => simp only [hq] at h; cases h
        | some m =>
          simp only [hq, Option.some.injEq] at h
          subst h
          obtain ⟨_, hp⟩ := L.put _ _ _ _ hu
          have hlen : ((y :: ys).take L.st).length = L.st := by rw [List.length_take]; omega
          rw [List.flatMap_cons, decAll_flat hq, hp, List.take_zero, List.nil_append, Nat.zero_add, hlen, List.drop_eq_nil_of_le (by rw [L.len]; exact Nat.le_refl _), List.append_nil, List.take_append_drop]
    · cases h
/-- One row behind another. -/
def catObj (a b : SObj) : Option SObj :=
  match a, b with
  | .cells s xs, .cells s' ys => if s = s' then some (.cells s (xs ++ ys)) else none
  | .arr α L l, .cells s ys => if s = L.st then match decAll L ys.length ys with
    | some m => some (.arr α L (l ++ m))
    | none => none else none
  | .arr α L l, .arr _ M k => if L.st = M.st then match L.ofB, M.toB with
    | some f, some g => some (.arr α L (l ++ k.map fun x => f (g x)))
    | _, _ => some (.cells L.st (l.flatMap L.enc ++ k.flatMap M.enc)) else none
  | .cells s xs, .arr _ M k => if s = M.st then some (.cells s (xs ++ k.flatMap M.enc)) else none
  | _, _ => none
theorem map_flat {α β : Type} (L : Lay α) (M : Lay β) {f : UInt8 → α} {g : β → UInt8} (hf : L.ofB = some f) (hg : M.toB = some g) (k : List β) : (k.map fun x => f (g x)).flatMap L.enc = k.flatMap M.enc := by
  induction k with
  | nil => rfl
  | cons x k ih => rw [List.map_cons, List.flatMap_cons, List.flatMap_cons, ih, L.ofB_ok f hf, M.toB_ok g hg]
theorem catObj_flat {a b o : SObj} (h : catObj a b = some o) : a.live = true ∧ b.live = true ∧ o.live = true ∧ o.stride = a.stride ∧ b.stride = a.stride ∧ o.flat = a.flat ++ b.flat := by
  unfold catObj at h
  split at h
  · split at h
    · rename_i hs; injection h with h; subst h; exact ⟨rfl, rfl, rfl, rfl, hs.symm, rfl⟩
    · cases h
  · split at h
    · rename_i hs
      split at h
      · rename_i m hm
        injection h with h; subst h
        refine ⟨rfl, rfl, rfl, rfl, hs, ?_⟩
        simp only [SObj.flat, List.flatMap_append, decAll_flat hm]
      · cases h
    · cases h
  · split at h
    · rename_i hs
      split at h
      · rename_i f g hf hg
        injection h with h; subst h
        refine ⟨rfl, rfl, rfl, rfl, hs.symm, ?_⟩
        simp only [SObj.flat, List.flatMap_append]
        rw [map_flat _ _ hf hg]
      · injection h with h; subst h; exact ⟨rfl, rfl, rfl, rfl, hs.symm, rfl⟩
    · cases h
  · split at h
    · rename_i hs; injection h with h; subst h; exact ⟨rfl, rfl, rfl, rfl, hs.symm, rfl⟩
    · cases h
  · cases h
end Go.Proofs.YtahiopdkekkibaaGreatDoor

/-
  A walk by reckoning, part 10: append. It speaks of no program.
-/
namespace Go.Proofs.YtahiopdkekkibaaGreatDoor
open Go Go.RowKit
set_option linter.unusedVariables false
set_option linter.unusedSimpArgs false

/-- What is appended: so many members, these cells. -/
structure Src (P : Program) (u : TypeId) (size : Nat) (w : World) (v : Value) (m : Nat) (news : List Value) : Prop where
  ty : ∃ d, P.underlying u = some d ∧ ∀ k, d ≠ .int k
  len : ∀ w', (Builtin.lenOf v).run P w' = .ok m w'
  num : news.length = m * size
  cells : (Builtin.firstCells size m v).run P w = .ok news.toArray w
  drew : (Builtin.firstCells size m v).run P w.drew = .ok news.toArray w.drew
section
variable {P : Program} {G : List GFact} {w : World}
theorem src_slice {t e : TypeId} (ht : P.underlying t = some (.slice e)) {size m : Nat} {a : Addr} {c : Nat} {news : List Value} (hl : news.length = m * size) (hc : ∀ j v, news[j]? = some v → w.cell? (a.add j) = some v) : Src P t size w (.slice (some a) m c) m news where
  ty := ⟨_, ht, fun k h => by cases h⟩
  len w' := rfl
  num := hl
  cells := run_firstCells_some (P := P) w size m a m c news hl hc
  drew := run_firstCells_some (P := P) w.drew size m a m c news hl hc
theorem src_nil {t e : TypeId} (ht : P.underlying t = some (.slice e)) {size c : Nat} {a : Option Addr} : Src P t size w (.slice a 0 c) 0 [] := by
  cases a with
  | none => exact {
    ty := ⟨_, ht, fun k h => by cases h⟩
    len := fun w' => rfl
    num := by simp
    cells := rfl
    drew := rfl }
  | some a => exact src_slice ht (by simp) fun j v h => by simp at h
theorem src_str {t : TypeId} (ht : P.underlying t = some .string) (l : List UInt8) : Src P t 1 w (.string ⟨l.toArray⟩) l.length (l.map fun b => .int .u8 (b.toNat : Int)) where
  ty := ⟨_, ht, fun k h => by cases h⟩
  len w' := rfl
  num := by simp
  cells := by simp [Builtin.firstCells, ByteArray.data_extract]
  drew := by simp [Builtin.firstCells, ByteArray.data_extract]
theorem append_room {t u ty e : TypeId} {i : TypeInfo} (ht : P.underlying t = some (.slice e)) (hi : P.info? e = some i) {g n c m : Nat} {v : Value} {news : List Value} (hs : Src P u i.size w v m news)
    (hroom : n + m ≤ c) (hth : w.there g (n * i.size) news.length) (h1 : ∀ x ∈ news, x.oneCell' = true) :
    (Builtin.append_ #[t, u] ty #[.slice (some ⟨g, 0, none⟩) n c, v]).run P w = .ok (.slice (some ⟨g, 0, none⟩) (n + m) c) (w.setCells g (n * i.size) news) := by
  have hst := run_storeCells_cells (P := P) g (n * i.size) news 0 w (fun j hj => by simpa using (hth j hj).1) (fun j hj => by simpa using (hth j hj).2) h1
  simp only [Nat.add_zero] at hst
  obtain ⟨d, hd, hn⟩ := hs.ty
  have hnz : (match d with | .int _ => true | _ => false) = false := by cases d <;> first | rfl | exact (hn _ rfl).elim
  unfold Builtin.append_
  simp only [List.getElem?_toArray, List.getElem?_cons_zero, List.getElem?_cons_succ, Sem.run_bind, run_underlying ht w, Result.andThen_ok, sizeOf, typeInfo]
  simp [hi, run_underlying hd, hnz, hs.len, hroom, hs.cells, Addr.add_plain, hst]
theorem append_grow {t u ty e : TypeId} {i : TypeInfo} {z : Value} (ht : P.underlying t = some (.slice e)) (hi : P.info? e = some i) (hz : i.zero = some z) {b : Option Addr} {n c m : Nat} {v : Value} {news olds : List Value} (hs : Src P u i.size w v m news)
    (hold : (Builtin.firstCells i.size n (.slice b n c)).run P w.drew = .ok olds.toArray w.drew) (hroom : c < n + m) (hfit : Builtin.nextslicecap (n + m) c * i.bytes ≤ 281474976710656) (h63 : n + m ≤ 9223372036854775807) :
    (Builtin.append_ #[t, u] ty #[.slice b n c, v]).run P w = .ok (.slice (some ⟨w.heap.size, 0, none⟩) (n + m) (grownCap w (n + m) c e))
      (w.drew.alloc (.cells (olds.toArray ++ news.toArray ++ Builtin.zeroCells z.cells (grownCap w (n + m) c e - (n + m))) e)) := by
  obtain ⟨d, hd, hn⟩ := hs.ty
  have hnz : (match d with | .int _ => true | _ => false) = false := by cases d <;> first | rfl | exact (hn _ rfl).elim
  have hno : ¬ (n + m ≤ c) := by omega
  have h63' : ¬ (9223372036854775807 < ((n : Int) + (m : Int))) := by omega
  have h48' : ¬ (281474976710656 < Builtin.nextslicecap (n + m) c * i.bytes) := by omega
  unfold Builtin.append_
  simp only [List.getElem?_toArray, List.getElem?_cons_zero, List.getElem?_cons_succ, Sem.run_bind, run_underlying ht w, Result.andThen_ok, sizeOf, typeInfo]
  simp [hi, run_underlying hd, hnz, hs.len, hno, h63', h48', Question.forced, hold, hs.drew, hz, zeroValue, typeInfo, newRow, grownCap]
  congr 2
  apply Array.ext'
  simp
end
def wholeP (o : SObj) (n : Nat) : Prop := match o with
  | .cells s xs => xs.length = n * s
  | .arr _ _ l => l.length = n
  | .dead => False
theorem wholeP_flat {o : SObj} {n : Nat} (h : wholeP o n) : o.live = true ∧ o.flat.length = n * o.stride := by
  cases o with
  | cells s xs => exact ⟨rfl, h⟩
  | dead => exact h.elim
  | arr α L l => exact ⟨rfl, by show (l.flatMap L.enc).length = n * L.st; rw [flat_length, show l.length = n from h]⟩
def plainO : SObj → Prop
  | .cells _ xs => PlainL xs
  | _ => True
theorem plainO_flat {o : SObj} (h : plainO o) : PlainL o.flat := by
  cases o with
  | cells s xs => exact h
  | dead => intro y hy; cases hy
  | arr α L l =>
    intro y hy
    obtain ⟨x, _, hx⟩ := List.mem_flatMap.1 hy
    exact L.plain x y hx
/-- What is to be appended: the objects that it lies in; it, how many members, and what it owes. -/
def srcF (z : Nat) : SV → Option (List Nat)
  | .c (.one (.sl id _ st _)) => if st = z then some [id] else none
  | .c (.one (.str _)) => if z = 1 then some [] else none
  | _ => none
def srcO : SV → List Ent → Option (SObj × Nat × List Prop)
  | .c (.one (.sl _ k _ m)), [e] => some ((subObj e.o k m).1, m, (subObj e.o k m).2)
  | .c (.one (.str s)), [] => some (.arr UInt8 u8L s, s.length, [])
  | _, _ => none
def appA (ei : TyI) (y : SV) (id n : Nat) (fy : List Nat) : Actn := ⟨id :: fy, true, fun es fresh => match es with
  | e :: es' => if e.wr then match srcO y es' with
    | some (so, m, ob) => match catObj e.o so with
      | some o => some ⟨.c (.one (.sl (fresh 0) 0 ei.size (n + m))), [.dead], [o], wholeP e.o n :: (e.o.stride = ei.size) :: plainO so :: ((n + m) * ei.bytes ≤ 140737488355328) :: (n + m ≤ 9223372036854775807) :: ob⟩
      | none => none
    | none => none
    else none
  | [] => none⟩
def appNilA (ei : TyI) (y : SV) (fy : List Nat) : Actn := ⟨fy, false, fun es fresh => match srcO y es with
    | some (so, m, ob) => some ⟨.c (.one (.sl (fresh 0) 0 ei.size m)), [], [so], (so.stride = ei.size) :: so.live :: (m * ei.bytes ≤ 140737488355328) :: (m ≤ 9223372036854775807) :: ob⟩
    | none => none⟩
theorem setAllH_nil (hp : List (Nat × Ent)) (l : List Nat) : setAllH hp l [] = hp := by cases l <;> rfl
theorem getAll_mem {hp : List (Nat × Ent)} : ∀ {l : List Nat} {es : List Ent}, getAll hp l = some es → l.length = es.length
  | [], es, h => by simp only [getAll, Option.some.injEq] at h; subst h; rfl
  | i :: l, es, h => by
    simp only [getAll] at h
    cases he : aget hp i with
    | none => rw [he] at h; cases h
    | some e =>
      rw [he] at h
      cases hr : getAll hp l with
      | none => simp only [hr] at h; cases h
      | some r =>
        simp only [hr, Option.some.injEq] at h
        subst h
        simp [getAll_mem hr]
section
variable {P : Program} {G : List GFact} {T : Nat → Option TyI} {o : Oper} {sv : Operand → SV} {ev : Operand → Value} {r : Lc}
/-- The cells to be appended. -/
theorem src_of {C : Ctx} {hp : List (Nat × Ent)} {w : World} (hT : TyOk P T) (hh : HeapOk C r hp w) {y : SV} {v : Value} (hy : y.rel r v) {z : Nat} {fy : List Nat} (hf : srcF z y = some fy) {es : List Ent} (hg : getAll hp fy = some es) {so : SObj} {m : Nat} {ob : List Prop}
    (hs : srcO y es = some (so, m, ob)) (hob : AllT ob) (hst : so.stride = z) {u : TypeId} {ui : TyI} (hu : T u = some ui) (hud : ui.d = .string ∨ ∃ e, ui.d = .slice e) (hmat : (∃ s, y = .c (.one (.str s))) → ui.d = .string) (hmat2 : (∀ s, y ≠ .c (.one (.str s))) → ∃ e, ui.d = .slice e) :
    so.live = true ∧ so.flat.length = m * z ∧ ∃ news, Src P u z w v m news ∧ All2 (AV.rel r) so.flat news := by
  unfold srcF at hf
  split at hf
  · rename_i id k st n
    split at hf
    · rename_i hz
      injection hf with hf
      subst hf; subst hz
      obtain ⟨e, hid, rfl⟩ := getAll_one hg
      simp only [srcO, Option.some.injEq, Prod.mk.injEq] at hs
      obtain ⟨rfl, rfl, rfl⟩ := hs
      obtain ⟨hl, hl2, hss, hlen, hfl⟩ := subObj_flat hob
      rw [hss] at hst
      rw [hst] at hlen hfl
      obtain ⟨e', he'⟩ := hmat2 (fun s h => by cases h)
      have hut : P.underlying u = some (.slice e') := by rw [(hT u ui hu).1, he']
      refine ⟨hl2, by rw [hfl, List.length_take, List.length_drop]; omega, ?_⟩
      rcases hy with ⟨hid', hk0, hn0, av, hv⟩ | ⟨g, c, off, hrid, hkn, hoff, hv⟩
      · subst hk0; subst hn0; subst hv
        exact ⟨[], src_nil hut, by rw [hfl]; simp [All2]⟩
      · obtain ⟨cs, hrow, hcap, hholds⟩ := hh.row hid hl hrid
        obtain ⟨us, hul, hus, hall⟩ := hholds.slice hlen
        subst hv
        refine ⟨us, src_slice hut hul (fun j x hx => ?_), by rw [hfl]; exact hall⟩
        rw [Addr.add_plain]
        by_cases hkc : k < c
        · rw [hoff hkc, Nat.add_right_comm, hrow.cell]; exact hus j x hx
        · have : n = 0 := by omega
          subst this
          have : us = [] := List.eq_nil_of_length_eq_zero (by rw [hul]; simp)
          subst this
          simp at hx
    · cases hf
  · rename_i s
    split at hf
    · rename_i hz
      injection hf with hf
      subst hf; subst hz
      simp only [getAll, Option.some.injEq] at hg
      subst hg
      simp only [srcO, Option.some.injEq, Prod.mk.injEq] at hs
      obtain ⟨rfl, rfl, rfl⟩ := hs
      have hv : v = .string ⟨s.toArray⟩ := hy
      subst hv
      have hus : P.underlying u = some .string := by rw [(hT u ui hu).1, hmat ⟨s, rfl⟩]
      refine ⟨rfl, by show (s.flatMap u8L.enc).length = _; rw [flat_length]; rfl, _, src_str hus s, ?_⟩
      show All2 (AV.rel r) (s.flatMap u8L.enc) _
      rw [u8_flat]
      exact All2.map fun c _ => rfl
    · cases hf
  · cases hf
/-- The cells of a new row: what was, what is new, noughts. -/
theorem holds_grown {r : Lc} {xs ys : List AV} {a b : List Value} (h1 : All2 (AV.rel r) xs a) (h2 : All2 (AV.rel r) ys b) (z : Array Value) : Holds r (xs ++ ys) (a.toArray ++ b.toArray ++ z) := fun j x hx => by
  obtain ⟨u, hu, hr⟩ := (h1.append h2).get j x hx
  refine ⟨u, ?_, hr⟩
  have hlt := (List.getElem?_eq_some_iff.1 hu).1
  rw [Array.getElem?_append_left (by simpa using hlt)]
  simpa using hu
theorem actOk_append (hT : TyOk P T) (he : EvOk r sv ev) {x y : Operand} {t u : TypeId} (ho : o.op = .call { callee := .builtin .append, args := #[x, y], argTypes := #[t, u] }) {ti ei ui : TyI} (ht : T t = some ti) {e : TypeId} (hd : ti.d = .slice e) (hE : T e = some ei) (hu : T u = some ui)
    (hud : ui.d = .string ∨ ∃ e, ui.d = .slice e) (hmat : (∃ s, sv y = .c (.one (.str s))) → ui.d = .string) (hmat2 : (∀ s, sv y ≠ .c (.one (.str s))) → ∃ e, ui.d = .slice e)
    {id n : Nat} (hx : sv x = .c (.one (.sl id 0 ei.size n))) {fy : List Nat} (hf : srcF ei.size (sv y) = some fy) : ActOk P G o ev r (appA ei (sv y) id n fy) := by
  intro C hp w es fresh R hh hg hr hob hfr _ hsub
  have hg : getAll hp (id :: fy) = some es := hg
  simp only [getAll] at hg
  cases hid : aget hp id with
  | none => rw [hid] at hg; cases hg
  | some en =>
    rw [hid] at hg
    cases hge : getAll hp fy with
    | none => simp only [hge] at hg; cases hg
    | some es' =>
      simp only [hge, Option.some.injEq] at hg
      subst hg
      simp only [appA] at hr
      by_cases hwr : en.wr = true
      case neg => rw [if_neg hwr] at hr; cases hr
      rw [if_pos hwr] at hr
      cases hso : srcO (sv y) es' with
      | none => rw [hso] at hr; cases hr
      | some q =>
        obtain ⟨so, m, ob⟩ := q
        simp only [hso] at hr
        cases hca : catObj en.o so with
        | none => rw [hca] at hr; cases hr
        | some o' =>
          simp only [hca, Option.some.injEq] at hr
          subst hr
          obtain ⟨hwhole, hstr, hpl, hby, h63, hob⟩ := hob
          obtain ⟨hl, hfl⟩ := wholeP_flat hwhole
          obtain ⟨_, hlso, hlo, hso1, hso2, hof⟩ := catObj_flat hca
          obtain ⟨_, hsl, news, hsrc, hall⟩ := src_of (P := P) hT hh (he y) hf hge hso hob (by rw [hso2, hstr]) hu hud hmat hmat2
          have hone := All2.plain (plainO_flat hpl) hall
          have hfresh := hfr 0 (by simp)
          have hne : id ≠ fresh 0 := fun h => by rw [← h, hid] at hfresh; cases hfresh
          have hfk : aget (aset hp id ⟨.dead, true⟩) (fresh 0) = none := by rw [aget_other _ _ hne]; exact hfresh
          obtain ⟨hut, _⟩ := hT t ti ht
          rw [hd] at hut
          obtain ⟨_, nf, i1, i2, i3, zv, hzv, _, hzs, _⟩ := hT e ei hE
          rw [hstr] at hfl
          have hx' := he x
          rw [hx] at hx'
          have hexec : ∀ v w', (Builtin.append_ #[t, u] o.type #[ev x, ev y]).run P w = .ok v w' → (execOp ev o).run P w = .ok (.value v) w' := fun v w' h => by
            unfold execOp
            rw [ho]
            simp [resolve, invoke, builtin, h]
          have hzc : ∀ k, (Builtin.zeroCells zv.cells k).size = k * ei.size := fun k => by rw [size_zeroCells, hzs]
          have hnl := hsrc.num
          -- the growing arm
          have grow : ∀ (b : Option Addr) (c : Nat) (olds : List Value), ev x = .slice b n c → All2 (AV.rel r) en.o.flat olds → (Builtin.firstCells nf.size n (.slice b n c)).run P w.drew = .ok olds.toArray w.drew → c < n + m →
              StepOk P o ev w fun u w' => ∃ r', r.le r' ∧ (SV.c (.one (.sl (fresh 0) 0 ei.size (n + m)))).rel r' u ∧ HeapOk C r' (aset (aset hp id ⟨.dead, true⟩) (fresh 0) ⟨o', true⟩) w' := fun b c olds hvx hao hfc hlt => by
            have hrun := append_grow (P := P) (w := w) (u := u) (ty := o.type) hut i1 hzv (b := b) (c := c) (v := ev y) (by rw [i2]; exact hsrc) hfc hlt (by rw [i3]; exact growslice_fits hlt hby) h63
            rw [← hvx] at hrun
            have hge' := grownCap_ge w (n + m) c e
            have hk := hh.kill hid
            have hdr := hk.drew
            refine StepOk.of_value (hexec _ _ hrun) ⟨r.add (fresh 0) (some ((w.heap.size, none), grownCap w (n + m) c e)), Lc.add_le ((hk.dom _).2 hfk) _, .inr ⟨(w.heap.size, none), grownCap w (n + m) c e, 0, Lc.add_same _ _ _, by omega, fun _ => by simp, rfl⟩, ?_⟩
            refine hdr.make hfk _ _ rfl rfl rfl (by simp) (fun b hb => Below.heap_alloc w.drew _ b hb) (fun g c e => by injection e with e; injection e with e1 e2; subst e1; exact ⟨Nat.le_refl _, rfl⟩) fun _ => .inr ⟨_, _, _, rfl, rowAt_alloc w.drew _ e, ?_, ?_⟩
            · rw [hso1, hstr]
              have := hao.length
              simp only [Array.size_append, List.size_toArray, hzc, hnl, ← this, hfl, ← Nat.add_mul]
              exact Nat.mul_le_mul_right _ (by omega)
            · rw [hof]
              exact (holds_grown hao hall _).le (Lc.add_le ((hk.dom _).2 hfk) _)
          simp only [appA, setAllH, setAllH_nil, newAll]
          rcases hx' with ⟨hid', _, hn0, av, hv⟩ | ⟨⟨g, z⟩, c, off, hrid, hkn, hoff, hv⟩
          · subst hn0
            have hfe : en.o.flat = [] := List.eq_nil_of_length_eq_zero (by simpa using hfl)
            by_cases hm : m = 0
            · subst hm
              have hne2 : news = [] := List.eq_nil_of_length_eq_zero (by simpa using hnl)
              subst hne2
              have hrun : (Builtin.append_ #[t, u] o.type #[ev x, ev y]).run P w = .ok (.slice av 0 0) w := by
                obtain ⟨d, hdd, hnn⟩ := hsrc.ty
                have hnz : (match d with | .int _ => true | _ => false) = false := by cases d <;> first | rfl | exact (hnn _ rfl).elim
                unfold Builtin.append_
                simp only [List.getElem?_toArray, List.getElem?_cons_zero, List.getElem?_cons_succ, Sem.run_bind, run_underlying hut w, Result.andThen_ok, sizeOf, typeInfo, hv]
                have hc := hsrc.cells
                rw [← i2] at hc
                cases av <;> simp [i1, run_underlying hdd, hnz, hsrc.len, hc, storeCells]
              have hk := hh.kill hid
              refine StepOk.of_value (hexec _ _ hrun) ⟨r.add (fresh 0) none, Lc.add_le ((hk.dom _).2 hfk) _, .inl ⟨Lc.add_same _ _ _, rfl, rfl, _, rfl⟩, ?_⟩
              refine hk.make hfk _ _ rfl rfl rfl (Nat.le_refl _) (fun _ _ => rfl) (fun g c e => by cases e) fun _ => .inl ⟨rfl, ?_⟩
              rw [hof, hfe]
              have := hall.length
              simpa using this
            · refine grow av 0 [] hv (by rw [hfe]; trivial) (src_nil (w := w.drew) hut).cells (by omega)
          · obtain rfl : z = none := (hh.own id en _ _ hid hl hwr hrid).1
            have ho0 : 0 < c → off = 0 := fun h => by rw [hoff h]; simp
            obtain ⟨cs, hrow, hcap, hholds⟩ := hh.row hid hl hrid
            obtain ⟨us, hul, hus, hao⟩ := hholds.slice (o := 0) (z := n * ei.size) (by omega)
            rw [List.drop_zero, List.take_of_length_le (by omega)] at hao
            have hcs : c * ei.size ≤ cs.size := by rw [← hstr]; exact hcap
            simp only [Nat.sub_zero, Nat.zero_add] at hv hkn
            by_cases hroom : n + m ≤ c
            · rcases Nat.eq_zero_or_pos c with hc0 | hc0
              · -- nothing at all
                subst hc0
                have hn0 : n = 0 := by omega
                have hm0 : m = 0 := by omega
                subst hn0; subst hm0
                have hne2 : news = [] := List.eq_nil_of_length_eq_zero (by simpa using hnl)
                subst hne2
                have hrun : (Builtin.append_ #[t, u] o.type #[ev x, ev y]).run P w = .ok (.slice (some ⟨g, off, none⟩) 0 0) w := by
                  obtain ⟨d, hdd, hnn⟩ := hsrc.ty
                  have hnz : (match d with | .int _ => true | _ => false) = false := by cases d <;> first | rfl | exact (hnn _ rfl).elim
                  unfold Builtin.append_
                  simp only [List.getElem?_toArray, List.getElem?_cons_zero, List.getElem?_cons_succ, Sem.run_bind, run_underlying hut w, Result.andThen_ok, sizeOf, typeInfo, hv]
                  have hc := hsrc.cells
                  rw [← i2] at hc
                  simp [i1, run_underlying hdd, hnz, hsrc.len, hc, storeCells]
                refine StepOk.of_value (hexec _ _ hrun) ⟨r.add (fresh 0) (some ((g, none), 0)), Lc.add_le ((hh.dom _).2 hfresh) _, .inr ⟨(g, none), 0, off, Lc.add_same _ _ _, by omega, fun h => by omega, rfl⟩, ?_⟩
                refine hh.pass hid hl hwr hrid hfresh o' rfl rfl rfl (Nat.le_refl _) (fun _ _ _ => rfl) fun _ => .inr ⟨(g, none), 0, cs, rfl, hrow, by simp, ?_⟩
                have hfe : en.o.flat = [] := List.eq_nil_of_length_eq_zero (by simpa using hfl)
                have hse : so.flat = [] := List.eq_nil_of_length_eq_zero (by have := hall.length; simpa using this)
                rw [hof, hfe, hse]
                intro j q hq
                simp at hq
              · have := ho0 hc0
                subst this
                have hth : w.there g (n * nf.size) news.length := fun j hj => by
                  rw [i2]
                  have hlt : n * ei.size + j < cs.size := by
                    have h1 : n * ei.size + m * ei.size ≤ c * ei.size := by rw [← Nat.add_mul]; exact Nat.mul_le_mul_right _ hroom
                    omega
                  refine ⟨?_, hrow.free _ hlt⟩
                  rw [hrow.cell0, Array.getElem?_eq_getElem hlt]; rfl
                have hrun := append_room (P := P) (w := w) (u := u) (ty := o.type) hut i1 (g := g) (c := c) (v := ev y) (by rw [i2]; exact hsrc) hroom hth hone
                rw [← hv, i2] at hrun
                obtain ⟨s1, s2, s3, s4, s5⟩ := setCells_same g news w (n * ei.size)
                refine StepOk.of_value (hexec _ _ hrun) ⟨r.add (fresh 0) (some ((g, none), c)), Lc.add_le ((hh.dom _).2 hfresh) _, .inr ⟨(g, none), c, 0, Lc.add_same _ _ _, by omega, fun _ => by simp, rfl⟩, ?_⟩
                refine hh.pass hid hl hwr hrid hfresh o' s1 s2 s3 (by rw [s4]; exact Nat.le_refl _) (fun b _ hb => s5 b hb) fun _ => .inr ⟨(g, none), c, putCells cs (n * ei.size) news, rfl, hrow.puts _ _ _ _, ?_, ?_⟩
                · rw [hso1, putCells_size]; exact hcap
                · rw [hof]
                  have hb : n * ei.size + news.length ≤ cs.size := by
                    have h1 : n * ei.size + m * ei.size ≤ c * ei.size := by rw [← Nat.add_mul]; exact Nat.mul_le_mul_right _ hroom
                    omega
                  have hal := hall.length
                  intro j q hq
                  rw [putCells_get news cs (n * ei.size) j hb]
                  by_cases hj : j < en.o.flat.length
                  · rw [List.getElem?_append_left hj] at hq
                    rw [if_neg (by omega)]
                    exact hholds j q hq
                  · rw [List.getElem?_append_right (by omega)] at hq
                    have hj2 : j - en.o.flat.length < so.flat.length := (List.getElem?_eq_some_iff.1 hq).1
                    rw [if_pos (by omega)]
                    rw [hfl] at hq
                    exact hall.get _ _ hq
            · refine grow (some ⟨g, off, none⟩) c us hv hao ?_ (by omega)
              refine run_firstCells_some (P := P) w.drew nf.size n ⟨g, off, none⟩ n c us (by rw [i2]; exact hul) fun j q hq => ?_
              rw [Addr.add_plain]
              rcases Nat.eq_zero_or_pos c with hc0 | hc0
              · have hn0 : n = 0 := by omega
                subst hn0
                have : us = [] := List.eq_nil_of_length_eq_zero (by simpa using hul)
                subst this
                simp at hq
              · rw [ho0 hc0]
                have := hus j q hq
                rw [← hrow.cell0] at this
                exact this
/-- An array, whole, as a slice: the row lives on under a new number. -/
def sliceArrA (ei : TyI) (n id : Nat) : Actn := ⟨[id], true, fun es fresh => match es with
  | [⟨.cells s xs, true⟩] => if s = ei.size then if xs.length = n * ei.size then some ⟨.c (.one (.sl (fresh 0) 0 ei.size n)), [.dead], [.cells ei.size xs], []⟩ else none else none
  | _ => none⟩
theorem actOk_sliceArr (hT : TyOk P T) (he : EvOk r sv ev) {t : TypeId} {x : Operand} (ho : o.op = .slice t x none none none) {ti ei : TyI} (ht : T t = some ti) {e : TypeId} {len : Nat} (hd : ti.d = .array len e) (hE : T e = some ei) {id : Nat} (hx : sv x = .c (.one (.ptr id 0 0 0))) : ActOk P G o ev r (sliceArrA ei len id) := by
  intro C hp w es fresh R hh hg hr hob hfr _ hsub
  obtain ⟨en, hid, rfl⟩ := getAll_one hg
  simp only [sliceArrA] at hr
  split at hr
  · rename_i s xs heq
    simp only [List.cons.injEq, and_true] at heq
    subst heq
    split at hr
    · rename_i hs
      split at hr
      · rename_i hl
        injection hr with hr
        subst hr
        have hxr := he x
        rw [hx] at hxr
        obtain ⟨g, c, hrid, hv⟩ := hxr
        have hfresh := hfr 0 (by simp)
        have hun : (underlying t).run P w = .ok (.array len e) w := by rw [← hd]; exact run_ty hT ht w
        rcases hh.obj id _ _ hid hrid rfl with ⟨h1, _⟩ | ⟨g', c', cs, h1, hrow, hcs, hho⟩
        · cases h1
        · injection h1 with h1
          injection h1 with h1 h2
          subst h1
          have hrun : (execOp ev o).run P w = .ok (.value (.slice (some ⟨g.1, g.off, none⟩) len len)) w := by
            unfold execOp
            rw [ho]
            simp only [hv, Sem.run_bind, Instr.sliceAt, hun, Result.andThen_ok, Option.map_none, Instr.sureAddr, Instr.sliceBounds, Sem.run_pure, run_size hT hE w, Addr.add_plain, Nat.zero_mul, Nat.zero_add, Nat.add_zero, Nat.sub_zero, ite_self]
          refine StepOk.of_value hrun ⟨r.add (fresh 0) (some (g, len)), Lc.add_le ((hh.dom _).2 hfresh) _, .inr ⟨g, len, g.off, Lc.add_same _ _ _, by omega, fun _ => by simp, rfl⟩, ?_⟩
          simp only [setAllH, setAllH_nil, newAll]
          refine hh.pass hid rfl rfl hrid hfresh (.cells ei.size xs) rfl rfl rfl (Nat.le_refl _) (fun _ _ _ => rfl) fun _ => .inr ⟨g, len, cs, rfl, hrow, ?_, hho⟩
          show len * ei.size ≤ cs.size
          rw [← hl]
          rcases Nat.eq_zero_or_pos xs.length with h0 | h0
          · omega
          · have hho' : Holds r xs cs := hho
            obtain ⟨u, hu, _⟩ := hho' (xs.length - 1) (xs[xs.length - 1]'(by omega)) (List.getElem?_eq_getElem (by omega))
            have := (Array.getElem?_eq_some_iff.1 hu).1
            omega
      · cases hr
    · cases hr
  · cases hr
end
end Go.Proofs.YtahiopdkekkibaaGreatDoor

/-
  A walk by reckoning, part 11: append to nil, copy, composites. It speaks of no program.
-/
namespace Go.Proofs.YtahiopdkekkibaaGreatDoor
open Go Go.RowKit
set_option linter.unusedVariables false
set_option linter.unusedSimpArgs false

section
variable {P : Program} {G : List GFact} {T : Nat → Option TyI} {o : Oper} {sv : Operand → SV} {ev : Operand → Value} {r : Lc}
theorem actOk_appNil (hT : TyOk P T) (he : EvOk r sv ev) {x y : Operand} {t u : TypeId} (ho : o.op = .call { callee := .builtin .append, args := #[x, y], argTypes := #[t, u] }) {ti ei ui : TyI} (ht : T t = some ti) {e : TypeId} (hd : ti.d = .slice e) (hE : T e = some ei) (hu : T u = some ui)
    (hud : ui.d = .string ∨ ∃ e, ui.d = .slice e) (hmat : (∃ s, sv y = .c (.one (.str s))) → ui.d = .string) (hmat2 : (∀ s, sv y ≠ .c (.one (.str s))) → ∃ e, ui.d = .slice e)
    (hx : sv x = .c (.one (.val (.slice none 0 0)))) {fy : List Nat} (hf : srcF ei.size (sv y) = some fy) : ActOk P G o ev r (appNilA ei (sv y) fy) := by
  intro C hp w es fresh R hh hg hr hob hfr _ hsub
  have hg : getAll hp fy = some es := hg
  simp only [appNilA] at hr
  cases hso : srcO (sv y) es with
  | none => rw [hso] at hr; cases hr
  | some q =>
    obtain ⟨so, m, ob⟩ := q
    simp only [hso, Option.some.injEq] at hr
    subst hr
    obtain ⟨hstr, hlv, hby, h63, hob⟩ := hob
    obtain ⟨_, hsl, news, hsrc, hall⟩ := src_of (P := P) hT hh (he y) hf hg hso hob hstr hu hud hmat hmat2
    have hfresh := hfr 0 (by simp)
    obtain ⟨hut, _⟩ := hT t ti ht
    rw [hd] at hut
    obtain ⟨_, nf, i1, i2, i3, zv, hzv, _, hzs, _⟩ := hT e ei hE
    have hv : ev x = .slice none 0 0 := by have := he x; rw [hx] at this; exact this
    have hexec : ∀ v w', (Builtin.append_ #[t, u] o.type #[ev x, ev y]).run P w = .ok v w' → (execOp ev o).run P w = .ok (.value v) w' := fun v w' h => by
      unfold execOp
      rw [ho]
      simp [resolve, invoke, builtin, h]
    have hnl := hsrc.num
    simp only [appNilA, setAllH_nil, newAll]
    by_cases hm : m = 0
    · subst hm
      have hne2 : news = [] := List.eq_nil_of_length_eq_zero (by simpa using hnl)
      subst hne2
      have hrun : (Builtin.append_ #[t, u] o.type #[ev x, ev y]).run P w = .ok (.slice none 0 0) w := by
        obtain ⟨d, hdd, hnn⟩ := hsrc.ty
        have hnz : (match d with | .int _ => true | _ => false) = false := by cases d <;> first | rfl | exact (hnn _ rfl).elim
        unfold Builtin.append_
        simp only [List.getElem?_toArray, List.getElem?_cons_zero, List.getElem?_cons_succ, Sem.run_bind, run_underlying hut w, Result.andThen_ok, sizeOf, typeInfo, hv]
        have hc := hsrc.cells
        rw [← i2] at hc
        simp [i1, run_underlying hdd, hnz, hsrc.len, hc]
      refine StepOk.of_value (hexec _ _ hrun) ⟨r.add (fresh 0) none, Lc.add_le ((hh.dom _).2 hfresh) _, .inl ⟨Lc.add_same _ _ _, rfl, rfl, _, rfl⟩, ?_⟩
      refine hh.make hfresh _ _ rfl rfl rfl (Nat.le_refl _) (fun _ _ => rfl) (fun g c e => by cases e) fun _ => .inl ⟨rfl, ?_⟩
      have := hall.length
      simpa using this
    · have hrun := append_grow (P := P) (w := w) (u := u) (ty := o.type) (olds := []) hut i1 hzv (b := none) (n := 0) (c := 0) (v := ev y) (by rw [i2]; exact hsrc) rfl (by omega) (by rw [i3]; exact growslice_fits (by omega) (by rw [Nat.zero_add]; exact hby)) (by omega)
      rw [← hv] at hrun
      rw [Nat.zero_add] at hrun
      have hge' := grownCap_ge w m 0 e
      have hzc : ∀ k, (Builtin.zeroCells zv.cells k).size = k * ei.size := fun k => by rw [size_zeroCells, hzs]
      refine StepOk.of_value (hexec _ _ hrun) ⟨r.add (fresh 0) (some ((w.heap.size, none), grownCap w m 0 e)), Lc.add_le ((hh.dom _).2 hfresh) _, .inr ⟨(w.heap.size, none), grownCap w m 0 e, 0, Lc.add_same _ _ _, by omega, fun _ => by simp, rfl⟩, ?_⟩
      refine hh.drew.make hfresh _ _ rfl rfl rfl (by simp) (fun b hb => Below.heap_alloc w.drew _ b hb) (fun g c e => by injection e with e; injection e with e1 e2; subst e1; exact ⟨Nat.le_refl _, rfl⟩) fun _ => .inr ⟨_, _, _, rfl, rowAt_alloc w.drew _ e, ?_, ?_⟩
      · rw [hstr]
        simp only [Array.size_append, List.size_toArray, hzc, hnl, List.length_nil, Nat.zero_add, ← Nat.add_mul]
        exact Nat.mul_le_mul_right _ (by omega)
      · have := holds_grown (xs := []) (a := []) (r := r) trivial hall (Builtin.zeroCells zv.cells (grownCap w m 0 e - m))
        exact this.le (Lc.add_le ((hh.dom _).2 hfresh) _)
end
/-- copy: what is written, and how many members. -/
def copyObj (a b : SObj) (k n : Nat) (m : Nat) : Option SObj :=
  match a, b with
  | .arr α L l, .arr _ M s => if L.st = M.st then match L.ofB, M.toB with
    | some f, some g => some (.arr α L (l.take k ++ (s.take (min m n)).map (fun x => f (g x)) ++ l.drop (k + min m n)))
    | _, _ => none else none
  | .cells st xs, .arr _ M s => if st = M.st then some (.cells st (xs.take (k * st) ++ (s.flatMap M.enc).take (min m n * st) ++ xs.drop ((k + min m n) * st))) else none
  | _, _ => none
theorem copyObj_flat {a b o : SObj} {k n m : Nat} (h : copyObj a b k n m = some o) : a.live = true ∧ o.live = true ∧ o.stride = a.stride ∧ b.stride = a.stride ∧
    (k + n ≤ a.flat.length / a.stride → o.flat = a.flat.take (k * a.stride) ++ (b.flat.take (min m n * a.stride)) ++ a.flat.drop ((k + min m n) * a.stride)) := by
  unfold copyObj at h
  split at h
  · split at h
    · rename_i hs
      split at h
      · rename_i f g hf hg
        injection h with h; subst h
        refine ⟨rfl, rfl, rfl, hs.symm, fun _ => ?_⟩
        rename_i α L l β M s
        have hd : ∀ {α : Type} (L : Lay α) (k : Nat) (m : List α), (m.drop k).flatMap L.enc = (m.flatMap L.enc).drop (k * L.st) := fun L k => by
          induction k with
          | zero => intro m; simp
          | succ k ih =>
            intro m
            cases m with
            | nil => simp
            | cons x m => rw [List.drop_succ_cons, ih, List.flatMap_cons, drop_enc L x _ _ (by rw [Nat.add_mul]; omega), Nat.add_mul, Nat.one_mul, Nat.add_sub_cancel]
        have ht : ∀ {α : Type} (L : Lay α) (n : Nat) (m : List α), (m.take n).flatMap L.enc = (m.flatMap L.enc).take (n * L.st) := fun L n => by
          induction n with
          | zero => intro m; simp
          | succ n ih =>
            intro m
            cases m with
            | nil => simp
            | cons x m => rw [List.take_succ_cons, List.flatMap_cons, ih, List.flatMap_cons, take_enc L x _ _ (by rw [Nat.add_mul]; omega), Nat.add_mul, Nat.one_mul, Nat.add_sub_cancel]
        simp only [SObj.flat, SObj.stride, List.flatMap_append]
        rw [map_flat _ _ hf hg, ht, ht, hd, hs]
      · cases h
    · cases h
  · split at h
    · rename_i hs
      injection h with h; subst h
      refine ⟨rfl, rfl, rfl, hs.symm, fun _ => rfl⟩
    · cases h
  · cases h
def copyA (ei : TyI) (y : SV) (id k n : Nat) (fy : List Nat) : Actn := ⟨id :: fy, true, fun es _ => match es with
  | e :: es' => if e.wr then match srcO y es' with
    | some (so, m, ob) => match copyObj e.o so k n m with
      | some o => some ⟨.c (.one (.num ((min m n : Nat) : Int))), [o], [], (0 < ei.size ∧ e.o.stride = ei.size ∧ (k + n) * ei.size ≤ e.o.flat.length) :: plainO so :: ob⟩
      | none => none
    | none => none
    else none
  | [] => none⟩
section
variable {P : Program} {G : List GFact} {T : Nat → Option TyI} {o : Oper} {sv : Operand → SV} {ev : Operand → Value} {r : Lc}
theorem firstCells_take {P : Program} {w : World} {size m n : Nat} {v : Value} {news : List Value} {u : TypeId} (hs : Src P u size w v m news) (hform : (∃ a c, v = .slice a m c) ∨ ∃ s, v = .string s ∧ size = 1) (hn : n ≤ m) :
    (Builtin.firstCells size n v).run P w = .ok (news.take (n * size)).toArray w := by
  have hl := hs.num
  rcases hform with ⟨a, c, rfl⟩ | ⟨s, rfl, rfl⟩
  · cases a with
    | none =>
      have h := hs.cells
      simp [Builtin.firstCells] at h
      subst h
      simp [Builtin.firstCells]
    | some a =>
      have h := hs.cells
      have hb : n * size ≤ m * size := Nat.mul_le_mul_right _ hn
      simp only [Builtin.firstCells, loadCells] at h ⊢
      have key : ∀ (q p i : Nat) (acc res : Array Value), (loadCellsFrom a i (q + p) acc).run P w = .ok res w → (loadCellsFrom a i q acc).run P w = .ok (res.extract 0 (acc.size + q)) w := by
        intro q
        induction q with
        | zero =>
          intro p
          induction p with
          | zero => intro i acc res h; simp [loadCellsFrom] at h ⊢; subst h; simp
          | succ p ih =>
            intro i acc res h
            rw [show 0 + (p + 1) = (0 + p) + 1 by omega] at h
            simp only [loadCellsFrom, Sem.run_bind] at h
            cases hq : (load (a.add i)).run P w with
            | halt x w' => rw [hq] at h; simp [Result.andThen] at h
            | ok v w' =>
              have hw : w' = w := by
                rw [run_load] at hq
                split at hq
                · injection hq with _ h2; exact h2.symm
                · split at hq
                  · injection hq with _ h2; exact h2.symm
                  · cases hq
              subst hw
              rw [hq] at h
              simp only [Result.andThen_ok] at h
              have := ih (i + 1) (acc.push v) res h
              simp only [loadCellsFrom, Sem.run_pure, Result.ok.injEq] at this ⊢
              refine ⟨?_, trivial⟩
              have e1 := this.1
              have e2 := congrArg Array.size e1
              simp at e2
              have : acc = (acc.push v).extract 0 acc.size := by simp
              rw [this, e1]
              simp [Array.extract_extract]
              rw [Nat.min_eq_left (by omega)]
        | succ q ih =>
          intro p i acc res h
          rw [show q + 1 + p = (q + p) + 1 by omega] at h
          simp only [loadCellsFrom, Sem.run_bind] at h ⊢
          cases hq : (load (a.add i)).run P w with
          | halt x w' => rw [hq] at h; simp [Result.andThen] at h
          | ok v w' =>
            have hw : w' = w := by
              rw [run_load] at hq
              split at hq
              · injection hq with _ h2; exact h2.symm
              · split at hq
                · injection hq with _ h2; exact h2.symm
                · cases hq
            subst hw
            rw [hq] at h
            simp only [Result.andThen_ok] at h ⊢
            have := ih p (i + 1) (acc.push v) res h
            rw [this]
            simp [Nat.add_assoc, Nat.add_comm 1 q]
      obtain ⟨p, hp⟩ : ∃ p, m * size = n * size + p := ⟨m * size - n * size, by omega⟩
      rw [hp] at h
      have := key (n * size) p 0 #[] _ h
      rw [this]
      simp [List.extract_eq_take_drop]
  · have h := hs.cells
    have hlen := hs.len w
    simp [Builtin.lenOf] at hlen
    simp only [Builtin.firstCells, Sem.run_pure, Result.ok.injEq, and_true] at h ⊢
    apply Array.ext'
    have h2 := congrArg Array.toList h
    simp only [ByteArray.data_extract, Array.toList_map, Array.toList_extract, List.extract_eq_take_drop, List.drop_zero, Nat.sub_zero] at h2 ⊢
    simp only [Nat.mul_one]
    rw [← h2, ← List.map_take, List.take_take, Nat.min_eq_left hn]
theorem src_form {C : Ctx} {hp : List (Nat × Ent)} {w : World} (hT : TyOk P T) {y : SV} {v : Value} (hy : y.rel r v) {z : Nat} {fy : List Nat} (hf : srcF z y = some fy) {es : List Ent} {so : SObj} {m : Nat} {ob : List Prop} (hg : getAll hp fy = some es)
    (hs : srcO y es = some (so, m, ob)) : (∃ a c, v = .slice a m c) ∨ ∃ s, v = .string s ∧ z = 1 := by
  unfold srcF at hf
  split at hf
  · split at hf
    · injection hf with hf
      subst hf
      obtain ⟨e, _, rfl⟩ := getAll_one hg
      simp only [srcO, Option.some.injEq, Prod.mk.injEq] at hs
      obtain ⟨_, rfl, _⟩ := hs
      rcases hy with ⟨_, _, hn0, av, hv⟩ | ⟨g, c, off, _, _, _, hv⟩
      · subst hn0; exact .inl ⟨_, _, hv⟩
      · exact .inl ⟨_, _, hv⟩
    · cases hf
  · split at hf
    · rename_i hz; exact .inr ⟨_, hy, hz⟩
    · cases hf
  · cases hf
theorem actOk_copy (hT : TyOk P T) (he : EvOk r sv ev) {x y : Operand} {t u : TypeId} (ho : o.op = .call { callee := .builtin .copy, args := #[x, y], argTypes := #[t, u] }) {ti ei ui : TyI} (ht : T t = some ti) {e : TypeId} (hd : ti.d = .slice e) (hE : T e = some ei) (hu : T u = some ui)
    (hud : ui.d = .string ∨ ∃ e, ui.d = .slice e) (hmat : (∃ s, sv y = .c (.one (.str s))) → ui.d = .string) (hmat2 : (∀ s, sv y ≠ .c (.one (.str s))) → ∃ e, ui.d = .slice e)
    {id k n : Nat} (hx : sv x = .c (.one (.sl id k ei.size n))) {fy : List Nat} (hf : srcF ei.size (sv y) = some fy) : ActOk P G o ev r (copyA ei (sv y) id k n fy) := by
  intro C hp w es fresh R hh hg hr hob hfr _ hsub
  have hg : getAll hp (id :: fy) = some es := hg
  simp only [getAll] at hg
  cases hid : aget hp id with
  | none => rw [hid] at hg; cases hg
  | some en =>
    rw [hid] at hg
    cases hge : getAll hp fy with
    | none => simp only [hge] at hg; cases hg
    | some es' =>
      simp only [hge, Option.some.injEq] at hg
      subst hg
      simp only [copyA] at hr
      by_cases hwr : en.wr = true
      case neg => rw [if_neg hwr] at hr; cases hr
      rw [if_pos hwr] at hr
      cases hso : srcO (sv y) es' with
      | none => rw [hso] at hr; cases hr
      | some q =>
        obtain ⟨so, m, ob⟩ := q
        simp only [hso] at hr
        cases hca : copyObj en.o so k n m with
        | none => rw [hca] at hr; cases hr
        | some o' =>
          simp only [hca, Option.some.injEq] at hr
          subst hr
          obtain ⟨⟨hp0, hstr, hlen⟩, hpl, hob⟩ := hob
          obtain ⟨hl, hl', hs1, hs2, hfl⟩ := copyObj_flat hca
          rw [hstr] at hs1 hs2 hfl
          have hfl := hfl (by rw [Nat.le_div_iff_mul_le hp0]; exact hlen)
          obtain ⟨_, hsl, news, hsrc, hall⟩ := src_of (P := P) hT hh (he y) hf hge hso hob hs2 hu hud hmat hmat2
          have hfm := src_form (C := C) (w := w) (P := P) hT (he y) hf hge hso
          obtain ⟨hut, _⟩ := hT t ti ht
          rw [hd] at hut
          obtain ⟨_, nf, i1, i2, i3, zv, hzv, _, hzs, _⟩ := hT e ei hE
          have hx' := he x
          rw [hx] at hx'
          have hcells := firstCells_take hsrc hfm (Nat.min_le_left m n)
          have hnl := hsrc.num
          have hml : min m n * ei.size ≤ m * ei.size := Nat.mul_le_mul_right _ (Nat.min_le_left _ _)
          have hnn : min m n * ei.size ≤ n * ei.size := Nat.mul_le_mul_right _ (Nat.min_le_right _ _)
          have htl : (news.take (min m n * ei.size)).length = min m n * ei.size := by rw [List.length_take]; omega
          have hall' := hall.take (min m n * ei.size)
          have hone := fun v hv => All2.plain (plainO_flat hpl) hall v (List.mem_of_mem_take (i := min m n * ei.size) hv)
          have hexec : ∀ v w', (Builtin.copy_ #[t, u] o.type #[ev x, ev y]).run P w = .ok v w' → (execOp ev o).run P w = .ok (.value v) w' := fun v w' h => by
            unfold execOp
            rw [ho]
            simp [resolve, invoke, builtin, h]
          simp only [copyA, setAllH, setAllH_nil, newAll]
          rcases hx' with ⟨hid', hk0, hn0, av, hv⟩ | ⟨⟨g, z⟩, c, off, hrid, hkn, hoff, hv⟩
          · subst hn0; subst hk0
            have hrun : (Builtin.copy_ #[t, u] o.type #[ev x, ev y]).run P w = .ok (.int .i64 ((min m 0 : Nat) : Int)) w := by
              unfold Builtin.copy_
              simp only [List.getElem?_toArray, List.getElem?_cons_zero, List.getElem?_cons_succ, Sem.run_bind, run_underlying hut w, Result.andThen_ok, sizeOf, typeInfo, hv]
              simp only [Nat.min_zero, Nat.zero_mul] at hcells ⊢
              cases av <;> simp [i1, i2, hsrc.len, hcells, goInt, storeCells]
            refine StepOk.of_value (hexec _ _ hrun) ⟨r, r.le_refl, rfl, ?_⟩
            have hfe : o'.flat = en.o.flat := by
              rw [hfl]; simp
            have hob' := hh.obj id en _ hid hid' hl
            rcases hob' with ⟨_, h0⟩ | ⟨g, c, cs, hpp, _⟩
            · exact {
                dom := fun k => by
                  rw [aget_aset]
                  by_cases e' : id = k
                  · subst e'; simp [hid']
                  · rw [if_neg e']; exact hh.dom k
                obj := fun k f q hf' hq => by
                  rw [aget_aset] at hf'
                  by_cases e' : id = k
                  · subst e'
                    rw [if_pos rfl] at hf'
                    cases hf'
                    rw [hid'] at hq
                    cases hq
                    exact fun _ => .inl ⟨rfl, by rw [hfe]; exact h0⟩
                  · rw [if_neg e'] at hf'
                    exact hh.obj k f q hf' hq
                inj := fun i j e1 f1 g1 g2 c1 d1 hi hj li lj ri rj wi hg => by
                  rw [aget_aset] at hi hj
                  by_cases ei' : id = i
                  · subst ei'; rw [hid'] at ri; cases ri
                  · by_cases ej : id = j
                    · subst ej; rw [hid'] at rj; cases rj
                    · rw [if_neg ei'] at hi
                      rw [if_neg ej] at hj
                      exact hh.inj i j e1 f1 g1 g2 c1 d1 hi hj li lj ri rj wi hg
                own := fun k f g' c' hf' hlf hwf hq => by
                  rw [aget_aset] at hf'
                  by_cases e' : id = k
                  · subst e'; rw [hid'] at hq; cases hq
                  · rw [if_neg e'] at hf'
                    exact hh.own k f g' c' hf' hlf hwf hq
                os := hh.os
                tape := hh.tape
                glob := hh.glob
                output := hh.output
                size := hh.size
                same := hh.same }
            · cases hpp
          · obtain rfl : z = none := (hh.own id en _ _ hid hl hwr hrid).1
            have hoff : k < c → off = k * ei.size := hoff
            obtain ⟨cs, hrow, hcap, hholds⟩ := hh.row hid hl hrid
            have hbd := hholds.bound
            have hkn' : k * ei.size + n * ei.size ≤ en.o.flat.length := by rw [← Nat.add_mul]; exact hlen
            by_cases hkc : k < c
            · have hth : ∀ j, j < (news.take (min m n * ei.size)).length → k * ei.size + j < cs.size := fun j hj => by rw [htl] at hj; omega
              have hst := run_storeCells_cells (P := P) g (k * ei.size) (news.take (min m n * ei.size)) 0 w (fun j hj => by
                rw [Nat.add_zero, hrow.cell0, Array.getElem?_eq_getElem (hth j hj)]; rfl) (fun j hj => by rw [Nat.add_zero]; exact hrow.free _ (hth j hj)) hone
              simp only [Nat.add_zero] at hst
              have hrun : (Builtin.copy_ #[t, u] o.type #[ev x, ev y]).run P w = .ok (.int .i64 ((min m n : Nat) : Int)) (w.setCells g (k * ei.size) (news.take (min m n * ei.size))) := by
                unfold Builtin.copy_
                have hmm : Nat.min m n = min m n := rfl
                simp only [List.getElem?_toArray, List.getElem?_cons_zero, List.getElem?_cons_succ, Sem.run_bind, run_underlying hut w, Result.andThen_ok, hv, hoff hkc, hsrc.len, run_size hT hE w, hmm, hcells, hst, Sem.run_pure, goInt]
              obtain ⟨s1, s2, s3, s4, s5⟩ := setCells_same g (news.take (min m n * ei.size)) w (k * ei.size)
              refine StepOk.of_value (hexec _ _ hrun) ⟨r, r.le_refl, rfl, ?_⟩
              refine hh.turn hid hl hwr hrid o' s1 s2 s3 (by rw [s4]; exact Nat.le_refl _) (fun b _ hb => s5 b hb) fun _ => .inr ⟨(g, none), c, putCells cs (k * ei.size) (news.take (min m n * ei.size)), rfl, hrow.puts _ _ _ _, ?_, ?_⟩
              · rw [hs1, putCells_size, ← hstr]; exact hcap
              · have hyl : (so.flat.take (min m n * ei.size)).length = min m n * ei.size := by rw [List.length_take]; omega
                have := hholds.splice (o := k * ei.size) (ys := so.flat.take (min m n * ei.size)) (us := news.take (min m n * ei.size)) (by omega) hall' (by omega)
                rw [hyl, ← Nat.add_mul] at this
                rw [hfl]
                exact this
            · have hn0 : n = 0 := by omega
              subst hn0
              simp only [Nat.min_zero, Nat.zero_mul, List.take_zero] at hcells hfl
              have hrun : (Builtin.copy_ #[t, u] o.type #[ev x, ev y]).run P w = .ok (.int .i64 ((min m 0 : Nat) : Int)) w := by
                unfold Builtin.copy_
                simp only [List.getElem?_toArray, List.getElem?_cons_zero, List.getElem?_cons_succ, Sem.run_bind, run_underlying hut w, Result.andThen_ok, sizeOf, typeInfo, hv]
                simp [i1, i2, hsrc.len, hcells, goInt, storeCells]
              refine StepOk.of_value (hexec _ _ hrun) ⟨r, r.le_refl, rfl, ?_⟩
              have hfe : o'.flat = en.o.flat := by rw [hfl, Nat.add_zero]; simp
              refine hh.turn hid hl hwr hrid o' rfl rfl rfl (Nat.le_refl _) (fun _ _ _ => rfl) fun _ => .inr ⟨(g, none), c, cs, rfl, hrow, ?_, by rw [hfe]; exact hholds⟩
              rw [hs1, ← hstr]; exact hcap
end
end Go.Proofs.YtahiopdkekkibaaGreatDoor

/-
  A walk by reckoning, part 12: composites, choices, the least and the greatest. It speaks of no program.
-/
namespace Go.Proofs.YtahiopdkekkibaaGreatDoor
open Go Go.RowKit
set_option linter.unusedVariables false
set_option linter.unusedSimpArgs false

theorem fold_put (off : Nat) : ∀ (l : List Value) (k : Nat) (cs : Array Value), (l.zipIdx k).foldl (fun (cs : Array Value) (p : Value × Nat) => cs.setIfInBounds (off + p.2) p.1) cs = putCells cs (off + k) l
  | [], _, _ => rfl
  | u :: l, k, cs => by
    rw [List.zipIdx_cons, List.foldl_cons, fold_put off l (k + 1)]; rfl
theorem fold_puts (off : Nat) (l cs : Array Value) : l.zipIdx.foldl (fun (cs : Array Value) (p : Value × Nat) => cs.setIfInBounds (off + p.2) p.1) cs = putCells cs off l.toList := by
  have := fold_put off l.toList 0 cs
  rw [Nat.add_zero] at this
  rw [← this, ← Array.foldl_toList]
  simp
/-- Parts, laid into cells. -/
def fillS (pl : List (Nat × Nat)) : List AV → List (Nat × SV) → Option (List AV × List Prop)
  | xs, [] => some (xs, [])
  | xs, (i, .c c) :: l => match pl[i]? with
    | some (off, size) => match fillS pl (xs.take off ++ c.cells ++ xs.drop (off + c.cells.length)) l with
      | some (ys, ob) => some (ys, (c.cells.length = size) :: (off + c.cells.length ≤ xs.length) :: PlainL c.cells :: ob)
      | none => none
    | none => none
  | _, _ => none
theorem fill_run {r : Lc} (pl : List (Nat × Nat)) (f : Nat → Option (Nat × Nat)) (hf : ∀ i, i < pl.length → f i = pl[i]?) : ∀ (ps : List (Nat × SV)) (vs : List (Nat × Value)) (xs ys : List AV) (cs : Array Value) (ob : List Prop),
    All2 (fun (p : Nat × SV) (q : Nat × Value) => p.1 = q.1 ∧ p.2.rel r q.2) ps vs → fillS pl xs ps = some (ys, ob) → AllT ob → xs.length = cs.size → Holds r xs cs → ∃ ds : Array Value, Instr.fill f cs vs = some ds ∧ ys.length = ds.size ∧ Holds r ys ds
  | [], [], xs, ys, cs, ob, _, h, _, hl, hh => by
    simp only [fillS, Option.some.injEq, Prod.mk.injEq] at h
    obtain ⟨rfl, rfl⟩ := h
    exact ⟨cs, rfl, hl, hh⟩
  | (i, .tup _) :: _, _ :: _, _, _, _, _, _, h, _, _, _ => by simp [fillS] at h
  | (i, .c c) :: ps, (j, v) :: vs, xs, ys, cs, ob, ⟨⟨hij, hcv⟩, hrest⟩, h, hob, hl, hh => by
    simp only at hij hcv
    subst hij
    simp only [fillS] at h
    cases hp : pl[i]? with
    | none => rw [hp] at h; cases h
    | some q =>
      obtain ⟨off, size⟩ := q
      rw [hp] at h
      simp only at h
      cases hq : fillS pl (xs.take off ++ c.cells ++ xs.drop (off + c.cells.length)) ps with
      | none => rw [hq] at h; cases h
      | some q =>
        obtain ⟨zs, ob'⟩ := q
        simp only [hq, Option.some.injEq, Prod.mk.injEq] at h
        obtain ⟨rfl, rfl⟩ := h
        obtain ⟨hsz, hfit, hpl, hob⟩ := hob
        have hcr := CV.cells_rel hcv hpl
        have hcl := hcr.length
        have hvs : v.cells.size = c.cells.length := by rw [hcl]; simp
        have hsp := hh.splice hfit hcr (by rw [← hcl]; omega)
        obtain ⟨ds, h1, h2, h3⟩ := fill_run pl f hf ps vs _ _ (putCells cs off v.cells.toList) ob' hrest hq hob (by rw [putCells_size]; simp; omega) hsp
        refine ⟨ds, ?_, h2, h3⟩
        have hi := hf i (List.getElem?_eq_some_iff.1 hp).1
        rw [hp] at hi
        unfold Instr.fill
        simp only [hi]
        rw [if_neg (by simp; omega)]
        rw [fold_puts]
        exact h1
theorem all2_of_holds {r : Lc} {xs : List AV} {cs : Array Value} (h : Holds r xs cs) (hl : xs.length = cs.size) : All2 (AV.rel r) xs cs.toList :=
  All2.of_get (by simpa using hl) fun j a b ha hb => by
    obtain ⟨u, hu, hr⟩ := h j a ha
    simp only [Array.getElem?_toList] at hb
    rw [hu] at hb
    cases hb
    exact hr
def placesT (T : Nat → Option TyI) : List Field → Option (List (Nat × Nat))
  | [] => some []
  | f :: l => match T f.type with
    | some i => match placesT T l with
      | some m => some ((f.offset, i.size) :: m)
      | none => none
    | none => none
theorem places_run {P : Program} {T : Nat → Option TyI} (hT : TyOk P T) (w : World) : ∀ (l : List Field) (m : List (Nat × Nat)), placesT T l = some m → (l.mapM (fun f => do pure (f.offset, ← sizeOf f.type) : Field → Sem (Nat × Nat))).run P w = .ok m w
  | [], m, h => by simp only [placesT, Option.some.injEq] at h; subst h; rfl
  | f :: l, m, h => by
    simp only [placesT] at h
    cases hi : T f.type with
    | none => rw [hi] at h; cases h
    | some i =>
      rw [hi] at h
      simp only at h
      cases hm : placesT T l with
      | none => rw [hm] at h; cases h
      | some q =>
        simp only [hm, Option.some.injEq] at h
        subst h
        have := places_run hT w l q hm
        simp only [List.mapM_cons, Sem.run_bind, run_size hT hi w, Result.andThen_ok, Sem.run_pure, this]
theorem places_runA {P : Program} {T : Nat → Option TyI} (hT : TyOk P T) (w : World) (fs : Array Field) (m : List (Nat × Nat)) (h : placesT T fs.toList = some m) : (fs.mapM (fun f => do pure (f.offset, ← sizeOf f.type) : Field → Sem (Nat × Nat))).run P w = .ok m.toArray w := by
  rw [Array.mapM_eq_mapM_toList]
  have e : ∀ q : Sem (List (Nat × Nat)), (List.toArray <$> q) = (q >>= fun a => pure a.toArray) := fun _ => rfl
  rw [e, Sem.run_bind, places_run hT w _ _ h]; rfl
theorem zero_run {P : Program} {t : TypeId} {nf : TypeInfo} {z : Value} (h : P.info? t = some nf) (hz : nf.zero = some z) (w : World) : (zeroValue t).run P w = .ok z w := by simp [zeroValue, typeInfo, h, hz]
def partsOf (sv : Operand → SV) (ps : List (Nat × Operand)) : List (Nat × SV) := ps.map fun p => (p.1, sv p.2)
def buildA (T : Nat → Option TyI) (ti : TyI) (ps : List (Nat × SV)) : Option Actn :=
  match ti.d with
  | .struct fs => match placesT T fs.toList with
    | some pl => match fillS pl ti.zero.cells ps with
      | some (ys, ob) => some (pureS (.c (.agg ys)) ob)
      | none => none
    | none => none
  | .array n e => match T e with
    | some ei => match fillS ((List.range n).map fun i => (i * ei.size, ei.size)) ti.zero.cells ps with
      | some (ys, ob) => some (pureS (.c (.agg ys)) ob)
      | none => none
    | none => none
  | _ => none
section
variable {P : Program} {G : List GFact} {T : Nat → Option TyI} {o : Oper} {sv : Operand → SV} {ev : Operand → Value} {r : Lc}
theorem parts_rel (he : EvOk r sv ev) (ps : List (Nat × Operand)) : All2 (fun (p : Nat × SV) (q : Nat × Value) => p.1 = q.1 ∧ p.2.rel r q.2) (partsOf sv ps) (ps.map fun p => (p.1, ev p.2)) :=
  All2.map fun c _ => ⟨rfl, he c.2⟩
theorem actOk_build (hT : TyOk P T) (he : EvOk r sv ev) {t : TypeId} {ps : List (Nat × Operand)} (ho : o.op = .build t ps.toArray) {ti : TyI} (ht : T t = some ti) {A : Actn} (hA : buildA T ti (partsOf sv ps) = some A) : ActOk P G o ev r A := by
  obtain ⟨hu, nf, i1, i2, i3, z, hz, hzr, hzs, hzl, hzp, _⟩ := hT t ti ht
  have hzh : Holds r ti.zero.cells z.cells := by
    have := holds_of_all2 (CV.cells_rel (hzr r) fun y hy => (hzp y hy).1)
    simpa using this
  have hexec : ∀ (w : World) u, (Instr.build t (ps.map fun p => (p.1, ev p.2)).toArray).run P w = .ok u w → (execOp ev o).run P w = .ok (.value u) w := fun w u h => by
    unfold execOp
    rw [ho]
    simp only [Sem.run_bind]
    have : (Array.map (fun (x : Nat × Operand) => match x with | (i, x) => (i, ev x)) ps.toArray) = (ps.map fun p => (p.1, ev p.2)).toArray := by simp
    rw [this, h]; rfl
  unfold buildA at hA
  split at hA
  · rename_i fs hd
    cases hpl : placesT T fs.toList with
    | none => rw [hpl] at hA; cases hA
    | some pl =>
      simp only [hpl] at hA
      cases hq : fillS pl ti.zero.cells (partsOf sv ps) with
      | none => rw [hq] at hA; cases hA
      | some q =>
        obtain ⟨ys, ob⟩ := q
        simp only [hq, Option.some.injEq] at hA
        subst hA
        refine actOk_pure fun hob w => ?_
        obtain ⟨ds, h1, h2, h3⟩ := fill_run (r := r) pl (fun i => pl.toArray[i]?) (fun i _ => by simp) _ _ _ _ z.cells ob (parts_rel he ps) hq hob (by omega) hzh
        refine ⟨.agg ds, hexec w _ ?_, ds.toList, by simp, all2_of_holds h3 h2⟩
        rw [hd] at hu
        have hpr := places_runA (P := P) hT w fs pl hpl
        unfold Instr.build
        simp only [Sem.run_bind, zero_run i1 hz w, Result.andThen_ok, run_underlying hu w, hpr, h1, Sem.run_pure]
  · rename_i n e hd
    cases hE : T e with
    | none => rw [hE] at hA; cases hA
    | some ei =>
      simp only [hE] at hA
      cases hq : fillS ((List.range n).map fun i => (i * ei.size, ei.size)) ti.zero.cells (partsOf sv ps) with
      | none => rw [hq] at hA; cases hA
      | some q =>
        obtain ⟨ys, ob⟩ := q
        simp only [hq, Option.some.injEq] at hA
        subst hA
        refine actOk_pure fun hob w => ?_
        obtain ⟨ds, h1, h2, h3⟩ := fill_run (r := r) _ (fun i => some (i * ei.size, ei.size)) (fun i hi => by
          simp only [List.length_map, List.length_range] at hi
          simp [hi]) _ _ _ _ z.cells ob (parts_rel he ps) hq hob (by omega) hzh
        refine ⟨.agg ds, hexec w _ ?_, ds.toList, by simp, all2_of_holds h3 h2⟩
        rw [hd] at hu
        unfold Instr.build
        simp only [Sem.run_bind, zero_run i1 hz w, Result.andThen_ok, run_underlying hu w, run_size hT hE w, h1, Sem.run_pure]
  · cases hA
/-- A row of so many members. -/
def zeroRow (z : List AV) : Nat → List AV
  | 0 => []
  | n + 1 => z ++ zeroRow z n
def rowA (ei : TyI) (n : Nat) (ys : List AV) (ob : List Prop) : Actn := ⟨[], false, fun _ fresh => some ⟨.c (.one (.sl (fresh 0) 0 ei.size n)), [], [.cells ei.size ys], ob⟩⟩
def buildSliceA (ei : TyI) (n : Nat) (ps : List (Nat × SV)) : Option Actn :=
  match fillS ((List.range n).map fun i => (i * ei.size, ei.size)) (zeroRow ei.zero.cells n) ps with
  | some (ys, ob) => if n * ei.size ≤ 16777216 then some (rowA ei n ys ob) else none
  | none => none
theorem zeroRow_get (z : List AV) (s : Nat) (hz : z.length = s) : ∀ (n j : Nat), (zeroRow z n)[j]? = if j < n * s then z[j % s]? else none
  | 0, j => by simp [zeroRow]
  | n + 1, j => by
    rw [zeroRow]
    by_cases hj : j < s
    · rw [List.getElem?_append_left (by omega), Nat.mod_eq_of_lt hj, if_pos (by rw [Nat.add_mul]; omega)]
    · rw [List.getElem?_append_right (by omega), zeroRow_get z s hz n, hz]
      rw [Nat.add_mul, Nat.one_mul]
      by_cases h : j - s < n * s
      · have e := Nat.mod_eq_sub_mod (a := j) (b := s) (by omega)
        rw [if_pos h, if_pos (by omega), e]
      · rw [if_neg h, if_neg (by omega)]
theorem zeroRow_length (z : List AV) (n : Nat) : (zeroRow z n).length = n * z.length := by
  induction n with
  | zero => simp [zeroRow]
  | succ n ih => rw [zeroRow, List.length_append, ih, Nat.add_mul]; omega
theorem actOk_buildSlice (hT : TyOk P T) (he : EvOk r sv ev) {t : TypeId} {n : Nat} {ps : List (Nat × Operand)} (ho : o.op = .buildSlice t n ps.toArray) {ti ei : TyI} (ht : T t = some ti) {e : TypeId} (hd : ti.d = .slice e) (hE : T e = some ei) {A : Actn} (hA : buildSliceA ei n (partsOf sv ps) = some A) : ActOk P G o ev r A := by
  unfold buildSliceA at hA
  cases hq : fillS ((List.range n).map fun i => (i * ei.size, ei.size)) (zeroRow ei.zero.cells n) (partsOf sv ps) with
  | none => rw [hq] at hA; cases hA
  | some q =>
    obtain ⟨ys, ob⟩ := q
    simp only [hq] at hA
    split at hA
    case isFalse => cases hA
    rename_i hbig
    injection hA with hA
    subst hA
    obtain ⟨_, nf, i1, i2, i3, z, hz, hzr, hzs, hzl, hzp, _⟩ := hT e ei hE
    have hut : P.underlying t = some (.slice e) := by rw [(hT t ti ht).1, hd]
    intro C hp w es fresh R hh hg hr hob hfr _ hsub
    simp only [rowA, Option.some.injEq] at hr
    subst hr
    have hid := hfr 0 (by simp)
    have hza := CV.cells_rel (hzr r) fun y hy => (hzp y hy).1
    have hzh : Holds r (zeroRow ei.zero.cells n) ((Array.range (n * ei.size)).map (z.cells[· % z.cells.size]!)) := fun j x hx => by
      rw [zeroRow_get _ ei.size hzl] at hx
      split at hx
      · rename_i hj
        obtain ⟨u, hu, hr⟩ := hza.get _ _ hx
        refine ⟨u, ?_, hr⟩
        have hlt : j % z.cells.size < z.cells.size := Nat.mod_lt _ (by
          have := (List.getElem?_eq_some_iff.1 hu).1
          simp at this; omega)
        simp only [Array.getElem?_toList] at hu
        rw [← hzs] at hu
        simp [hj]
        rw [getElem!_pos z.cells (j % z.cells.size) hlt]
        rw [Array.getElem?_eq_getElem hlt] at hu
        exact Option.some.inj hu
      · cases hx
    obtain ⟨ds, h1, h2, h3⟩ := fill_run (r := r) _ (fun i => some (i * ei.size, ei.size)) (fun i hi => by
      simp only [List.length_map, List.length_range] at hi
      simp [hi]) _ _ _ _ ((Array.range (n * ei.size)).map (z.cells[· % z.cells.size]!)) ob (parts_rel he ps) hq hob (by rw [zeroRow_length, hzl]; simp) hzh
    have hds : ds.size = n * ei.size := by
      have : ∀ (f : Nat → Option (Nat × Nat)) (vs : List (Nat × Value)) (cs ds : Array Value), Instr.fill f cs vs = some ds → ds.size = cs.size := fun f vs => by
        induction vs with
        | nil => intro cs ds h; simp only [Instr.fill, Option.some.injEq] at h; subst h; rfl
        | cons p vs ih =>
          intro cs ds h
          obtain ⟨i, v⟩ := p
          unfold Instr.fill at h
          split at h
          · cases h
          · split at h
            · cases h
            · rw [ih _ _ h, fold_puts, putCells_size]
      rw [this _ _ _ _ h1]; simp
    have hrun : (Instr.buildSlice t n (ps.map fun p => (p.1, ev p.2)).toArray).run P w = .ok (.slice (some ⟨w.heap.size, 0, none⟩) n n) (w.alloc (.cells ds e)) := by
      unfold Instr.buildSlice
      simp only [Sem.run_bind, run_underlying hut w, Result.andThen_ok, run_size hT hE w]
      have hb : ¬ (n * ei.size > 2 ^ 24) := by omega
      by_cases h0 : n * ei.size = 0
      · rw [h0] at h1
        simp only [Array.range_zero', Array.map_empty] at h1
        have hz' : ∀ zc : Array Value, ((Array.range 0).map fun x => zc[x % zc.size]!) = #[] := fun zc => by simp
        simp only [h0, Nat.not_lt_zero, gt_iff_lt, if_false, if_true, Sem.run_pure, Result.andThen_ok, Sem.run_bind, hz', h1, newRow]
        simp
      · simp [hb, h0, zeroValue, typeInfo, i1, hz, h1, newRow]
    refine StepOk.of_value (u := .slice (some ⟨w.heap.size, 0, none⟩) n n) (w' := w.alloc (.cells ds e)) ?_ ⟨r.add (fresh 0) (some ((w.heap.size, none), n)), Lc.add_le ((hh.dom _).2 hid) _, .inr ⟨(w.heap.size, none), n, 0, Lc.add_same _ _ _, by omega, fun _ => by simp, rfl⟩, ?_⟩
    · unfold execOp
      rw [ho]
      simp only [Sem.run_bind]
      have : (Array.map (fun (x : Nat × Operand) => match x with | (i, x) => (i, ev x)) ps.toArray) = (ps.map fun p => (p.1, ev p.2)).toArray := by simp
      rw [this, hrun]; rfl
    · refine hh.make hid _ _ rfl rfl rfl (by simp) (fun b hb => Below.heap_alloc w _ b hb) (fun g c e => by injection e with e; injection e with e1 e2; subst e1; exact ⟨Nat.le_refl _, rfl⟩) fun _ => .inr ⟨_, _, _, rfl, rowAt_alloc w ds e, ?_, ?_⟩
      · show n * ei.size ≤ ds.size; omega
      · exact h3.le (Lc.add_le ((hh.dom _).2 hid) _)
/-- A choice. -/
def pickS (c : Bool) (a b : SV) : SV :=
  match a, b with
  | .c (.one (.bo x)), .c (.one (.bo y)) => .c (.one (.bo (if c then x else y)))
  | _, _ => if c then a else b
theorem pickS_rel {c : Bool} {a b : SV} {u v : Value} (ha : a.rel r u) (hb : b.rel r v) : (pickS c a b).rel r (if c then u else v) := by
  unfold pickS
  split
  · simp only [SV.rel, CV.rel, AV.rel] at ha hb ⊢
    subst ha; subst hb
    cases c <;> rfl
  · cases c <;> simpa
theorem actOk_pick (he : EvOk r sv ev) {c a b : Operand} (ho : o.op = .pick c a b) {x : Bool} (hx : sv c = .c (.one (.bo x))) : ActOk P G o ev r (pureS (pickS x (sv a) (sv b)) []) :=
  actOk_pure fun _ w => by
    have h1 := he c
    rw [hx] at h1
    have h1' : ev c = .bool x := h1
    refine ⟨if x then ev a else ev b, ?_, pickS_rel (he a) (he b)⟩
    unfold execOp
    rw [ho]
    cases x <;> simp [h1', asBool]
theorem actOk_nil (he : EvOk r sv ev) {x : Operand} (ho : o.op = .nilCheck x) {id k st j : Nat} (hx : sv x = .c (.one (.ptr id k st j))) : ActOk P G o ev r (pureA (.ptr id k st j) []) :=
  actOk_pure fun _ w => by
    have h1 := he x
    rw [hx] at h1
    obtain ⟨g, c, h2, h3⟩ := h1
    refine ⟨ev x, ?_, g, c, h2, h3⟩
    unfold execOp
    rw [ho]
    simp only [h3]
    rfl
def minS (mx : Bool) (a b : Int) : Int := if mx then max a b else min a b
theorem actOk_minmax (he : EvOk r sv ev) {mx : Bool} {x y : Operand} {ats : Array TypeId} (ho : o.op = .call { callee := .builtin (if mx then .max else .min), args := #[x, y], argTypes := ats }) {a b : Int} (hx : sv x = .c (.one (.num a))) (hy : sv y = .c (.one (.num b))) : ActOk P G o ev r (pureA (.num (minS mx a b)) []) :=
  actOk_pure fun _ w => by
    have h1 := he x
    rw [hx] at h1
    have h2 := he y
    rw [hy] at h2
    have h1' : ev x = .int .i64 a := h1
    have h2' : ev y = .int .i64 b := h2
    refine ⟨.int .i64 (minS mx a b), ?_, rfl⟩
    unfold execOp
    rw [ho]
    cases mx
    · simp [resolve, invoke, builtin, Builtin.min_, Builtin.min2, h1', h2', minS]
      split <;> omega
    · simp [resolve, invoke, builtin, Builtin.max_, Builtin.max2, h1', h2', minS]
      split <;> omega
theorem actOk_boolEq (hT : TyOk P T) (he : EvOk r sv ev) {neg : Bool} {t yt : TypeId} {x y : Operand} (ho : o.op = .binOp (if neg then .neq else .eql) t x y yt) {ti : TyI} (ht : T t = some ti) (hd : ti.d = .bool) {a b : Bool} (hx : sv x = .c (.one (.bo a))) (hy : sv y = .c (.one (.bo b))) :
    ActOk P G o ev r (pureA (.bo (if neg then a != b else a == b)) []) :=
  actOk_pure fun _ w => by
    have h1 := he x
    rw [hx] at h1
    have h2 := he y
    rw [hy] at h2
    have h1' : ev x = .bool a := h1
    have h2' : ev y = .bool b := h2
    have hu : P.underlying t = some .bool := by rw [(hT t ti ht).1, hd]
    refine ⟨.bool (if neg then a != b else a == b), ?_, rfl⟩
    unfold execOp
    rw [ho]
    cases neg
    · have := run_eql_bool (P := P) w t a b hu
      simp only [h1', h2', Bool.false_eq_true, if_false, Sem.run_bind]
      simp [eqGuard, this]
    · have := run_neq_bool (P := P) w t a b hu
      simp only [h1', h2', if_true, Sem.run_bind]
      simp [eqGuard, this, bne]
theorem actOk_ifn (hT : TyOk P T) (he : EvOk r sv ev) {neg : Bool} {t yt : TypeId} {x : Operand} (ho : o.op = .binOp (if neg then .neq else .eql) t x (.const .nilIface) yt) (hc : ev (.const .nilIface) = .nilIface) {ti : TyI} (ht : T t = some ti) {ms : Array (String × TypeId)} (hd : ti.d = .interface ms) {b : Bool} (hx : sv x = .c (.one (.ifn b))) :
    ActOk P G o ev r (pureA (.bo (if neg then b else !b)) []) :=
  actOk_pure fun _ w => by
    have h1 := he x
    rw [hx] at h1
    have hu : P.underlying t = some (.interface ms) := by rw [(hT t ti ht).1, hd]
    have hu' : P.underlying t = some (.interface (P.methodsAt t)) := by
      rw [hu]; simp [Program.methodsAt, hu]
    refine ⟨.bool (if neg then b else !b), ?_, rfl⟩
    unfold execOp
    rw [ho]
    simp only [hc]
    cases b
    · have h1' : ev x = .nilIface := h1
      cases neg
      · have := run_eql_nil_nil (P := P) w t hu'
        simp only [h1', Bool.false_eq_true, if_false, Sem.run_bind]
        simp [eqGuard, this]
      · have := run_neq_nil_nil (P := P) w t hu'
        simp only [h1', if_true, Sem.run_bind]
        simp [eqGuard, this]
    · obtain ⟨u, v, h1'⟩ : ∃ u v, ev x = .iface u v := h1
      cases neg
      · have := run_eql_held_nil (P := P) w t u v hu'
        simp only [h1', Bool.false_eq_true, if_false, Sem.run_bind]
        simp [eqGuard, this]
      · have := run_neq_held_nil (P := P) w t u v hu'
        simp only [h1', if_true, Sem.run_bind]
        simp [eqGuard, this]
/-- Rows of numbers held against each other. -/
def eqCells : List AV → List AV → Option Bool
  | [], [] => some true
  | .num a :: x, .num b :: y => match eqCells x y with
    | some q => some ((a == b) && q)
    | none => none
  | .u8 a :: x, .u8 b :: y => match eqCells x y with
    | some q => some ((a == b) && q)
    | none => none
  | .u32 a :: x, .u32 b :: y => match eqCells x y with
    | some q => some ((a == b) && q)
    | none => none
  | .u64 a :: x, .u64 b :: y => match eqCells x y with
    | some q => some ((a == b) && q)
    | none => none
  | .str a :: x, .str b :: y => match eqCells x y with
    | some q => some ((a == b) && q)
    | none => none
  | .bo a :: x, .bo b :: y => match eqCells x y with
    | some q => some ((a == b) && q)
    | none => none
  | _, _ => none
def numsOk : List AV → Bool
  | [] => true
  | .num _ :: x => numsOk x
  | .u8 _ :: x => numsOk x
  | .u32 _ :: x => numsOk x
  | .u64 _ :: x => numsOk x
  | _ => false
def kindsOk : List Nat → List AV → Bool
  | [], [] => true
  | 0 :: k, .num _ :: x => kindsOk k x
  | 0 :: k, .u8 _ :: x => kindsOk k x
  | 0 :: k, .u32 _ :: x => kindsOk k x
  | 0 :: k, .u64 _ :: x => kindsOk k x
  | 1 :: k, .str _ :: x => kindsOk k x
  | 2 :: k, .bo _ :: x => kindsOk k x
  | _, _ => false
def allEq : List Value → List Value → Bool
  | [], [] => true
  | .int _ a :: x, .int _ b :: y => (a == b) && allEq x y
  | .string a :: x, .string b :: y => (a == b) && allEq x y
  | .bool a :: x, .bool b :: y => (a == b) && allEq x y
  | _, _ => false
def AllK : List Nat → List Value → List Value → Prop
  | [], [], [] => True
  | 0 :: k, .int a _ :: x, .int b _ :: y => a = b ∧ AllK k x y
  | 1 :: k, .string _ :: x, .string _ :: y => AllK k x y
  | 2 :: k, .bool _ :: x, .bool _ :: y => AllK k x y
  | _, _, _ => False
def AllInt : List Value → List Value → Prop
  | [], [] => True
  | .int k _ :: x, .int k' _ :: y => k = k' ∧ AllInt x y
  | _, _ => False
theorem eqCells_spec {r : Lc} : ∀ (xs ys : List AV) (b : Bool) (cs ds : List Value), eqCells xs ys = some b → All2 (AV.rel r) xs cs → All2 (AV.rel r) ys ds → b = allEq cs ds ∧ (numsOk xs = true → AllInt cs ds) ∧ ∀ ks, kindsOk ks xs = true → AllK ks cs ds
  | [], [], b, cs, ds, h, h1, h2 => by
    cases cs with
    | cons _ _ => exact h1.elim
    | nil => cases ds with
      | cons _ _ => exact h2.elim
      | nil => simp only [eqCells, Option.some.injEq] at h; exact ⟨h.symm, fun _ => trivial, fun ks hk => by cases ks with | nil => trivial | cons _ _ => simp [kindsOk] at hk⟩
  | [], _ :: _, b, cs, ds, h, h1, h2 => by simp [eqCells] at h
  | a :: xs, [], b, cs, ds, h, h1, h2 => by cases a <;> simp [eqCells] at h
  | a :: xs, a' :: ys, b, cs, ds, h, h1, h2 => by
    cases cs with
    | nil => exact h1.elim
    | cons c cs => cases ds with
      | nil => exact h2.elim
      | cons d ds =>
        obtain ⟨h1a, h1b⟩ := h1
        obtain ⟨h2a, h2b⟩ := h2
        cases a <;> cases a' <;> simp only [eqCells, reduceCtorEq] at h
        all_goals
          split at h
          case h_2 => cases h
          rename_i q hq
          injection h with h
          subst h
          simp only [AV.rel] at h1a h2a
          subst h1a; subst h2a
          obtain ⟨e1, e2, e3⟩ := eqCells_spec _ _ _ _ _ hq h1b h2b
          subst e1
          refine ⟨?_, fun hn => ?_, fun ks hk => ?_⟩
          · simp only [allEq] <;> first
              | rfl
              | rw [eqw8]
              | rw [eqw32]
              | rw [eqw64]
              | rw [beq_toListBytes, beq_bytes]
          · first
              | exact ⟨rfl, e2 hn⟩
              | simp [numsOk] at hn
          · match ks, hk with
            | 0 :: k, hk => first
              | exact ⟨rfl, e3 k hk⟩
              | simp [kindsOk] at hk
            | 1 :: k, hk => first
              | exact e3 k hk
              | simp [kindsOk] at hk
            | 2 :: k, hk => first
              | exact e3 k hk
              | simp [kindsOk] at hk
            | (_ + 3) :: k, hk => simp [kindsOk] at hk
            | [], hk => simp [kindsOk] at hk
theorem eqItems_run {P : Program} (w : World) {e : TypeId} {kk : IntKind} (he : P.underlying e = some (.int kk)) (d : Nat) (cs ds : List Value) : ∀ (m i : Nat), AllInt (cs.drop i) (ds.drop i) → i + m = cs.length → (Op.eqItems (d + 1) e 1 cs.toArray ds.toArray (List.range' i m)).run P w = .ok (allEq (cs.drop i) (ds.drop i)) w
  | 0, i, h, hl => by
    have h1 : cs.drop i = [] := List.drop_eq_nil_of_le (by omega)
    rw [h1] at h ⊢
    cases hd : ds.drop i with
    | nil => simp [Op.eqItems, allEq]
    | cons _ _ => rw [hd] at h; exact h.elim
  | m + 1, i, h, hl => by
    have hi : i < cs.length := by omega
    have hj : i < ds.length := by
      rcases Nat.lt_or_ge i ds.length with hj | hj
      · exact hj
      · rw [List.drop_eq_nil_of_le hj, List.drop_eq_getElem_cons hi] at h
        cases hc : cs[i] <;> rw [hc] at h <;> exact h.elim
    rw [List.drop_eq_getElem_cons hi, List.drop_eq_getElem_cons hj] at h ⊢
    have px : (part e cs.toArray (i * 1)).run P w = .ok cs[i] w := by simp [part, isAgg, run_underlying he, hi]
    have py : (part e ds.toArray (i * 1)).run P w = .ok ds[i] w := by simp [part, isAgg, run_underlying he, hj]
    cases hc : cs[i] <;> rw [hc] at h px <;> first | exact h.elim | skip
    cases hd : ds[i] <;> rw [hd] at h py <;> first | exact h.elim | skip
    rename_i k a k' a'
    obtain ⟨rfl, h⟩ := h
    have ih := eqItems_run w he d cs ds m (i + 1) h (by omega)
    rw [List.range'_succ]
    simp only [Op.eqItems, Sem.run_bind, px, py, run_equalIn_int w d e k kk a a' he, Result.andThen_ok, allEq]
    cases hb : (a == a')
    · simp
    · simp [ih]
theorem AllK.nil {k : List Nat} {y : List Value} (h : AllK k [] y) : k = [] ∧ y = [] := by
  unfold AllK at h
  split at h <;> first | exact ⟨rfl, rfl⟩ | exact h.elim | simp_all
theorem AllK.cons {k : List Nat} {u : Value} {x y : List Value} (h : AllK k (u :: x) y) : ∃ q k' v y', k = q :: k' ∧ y = v :: y' ∧ AllK k' x y' ∧ ((q = 0 ∧ ∃ a b c, u = .int a b ∧ v = .int a c) ∨ (q = 1 ∧ ∃ a b, u = .string a ∧ v = .string b) ∨ (q = 2 ∧ ∃ a b, u = .bool a ∧ v = .bool b)) := by
  match k, u, y, h with
  | 0 :: k, .int a b, .int a' c :: y, h => obtain ⟨rfl, h⟩ := h; exact ⟨_, _, _, _, rfl, rfl, h, .inl ⟨rfl, _, _, _, rfl, rfl⟩⟩
  | 1 :: k, .string a, .string b :: y, h => exact ⟨_, _, _, _, rfl, rfl, h, .inr (.inl ⟨rfl, _, _, rfl, rfl⟩)⟩
  | 2 :: k, .bool a, .bool b :: y, h => exact ⟨_, _, _, _, rfl, rfl, h, .inr (.inr ⟨rfl, _, _, rfl, rfl⟩)⟩
theorem eqFields_run {P : Program} (w : World) (d : Nat) (cs ds : List Value) : ∀ (fs : List Field) (ks : List Nat) (i : Nat), (∀ j f k, fs[j]? = some f → ks[j]? = some k → fldOk P (i + j) f k = true) → AllK ks (cs.drop i) (ds.drop i) → i + fs.length = cs.length → (Op.eqFields (d + 1) cs.toArray ds.toArray fs).run P w = .ok (allEq (cs.drop i) (ds.drop i)) w
  | [], ks, i, _, h, hl => by
    have h1 : cs.drop i = [] := List.drop_eq_nil_of_le (by simp at hl; omega)
    rw [h1] at h ⊢
    rw [h.nil.2]
    simp [Op.eqFields, allEq]
  | f :: fs, ks, i, hf, h, hl => by
    simp only [List.length_cons] at hl
    have hi : i < cs.length := by omega
    have hcd := List.drop_eq_getElem_cons hi
    rw [hcd] at h
    obtain ⟨q, k', v, y', rfl, hy, hk, hcase⟩ := h.cons
    have hj : i < ds.length := by
      rcases Nat.lt_or_ge i ds.length with hj | hj
      · exact hj
      · rw [List.drop_eq_nil_of_le hj] at hy; cases hy
    have hdd := List.drop_eq_getElem_cons hj
    rw [hdd] at hy
    injection hy with hv hy
    subst hy
    rw [hcd, hdd]
    have hf0 := hf 0 f q rfl rfl
    simp only [fldOk, Nat.add_zero, Bool.and_eq_true, bne_iff_ne, ne_eq, beq_iff_eq] at hf0
    obtain ⟨⟨hn, ho⟩, hu⟩ := hf0
    have ih := eqFields_run w d cs ds fs k' (i + 1) (fun j g k hg hkk => by have := hf (j + 1) g k hg hkk; rwa [show i + 1 + j = i + (j + 1) by omega]) hk (by omega)
    rcases hcase with ⟨rfl, a, b, c, e1, e2⟩ | ⟨rfl, a, b, e1, e2⟩ | ⟨rfl, a, b, e1, e2⟩
    · obtain ⟨kk, he⟩ : ∃ kk, P.underlying f.type = some (.int kk) := by
        split at hu <;> first | (rename_i kk hk; exact ⟨kk, hk⟩) | simp at hu
      have px : (part f.type cs.toArray f.offset).run P w = .ok cs[i] w := by simp [part, isAgg, run_underlying he, ho, hi]
      have py : (part f.type ds.toArray f.offset).run P w = .ok ds[i] w := by simp [part, isAgg, run_underlying he, ho, hj]
      rw [e1] at px
      rw [hv, e2] at py
      rw [e1, hv, e2]
      simp only [Op.eqFields, hn, ne_eq, not_false_eq_true, if_true, Sem.run_bind, px, py, run_equalIn_int w d f.type a kk b c he, Result.andThen_ok, allEq]
      cases hb : (b == c)
      · simp
      · simp [ih]
    · have he : P.underlying f.type = some .string := by
        split at hu <;> first | assumption | simp at hu
      have px : (part f.type cs.toArray f.offset).run P w = .ok cs[i] w := by simp [part, isAgg, run_underlying he, ho, hi]
      have py : (part f.type ds.toArray f.offset).run P w = .ok ds[i] w := by simp [part, isAgg, run_underlying he, ho, hj]
      rw [e1] at px
      rw [hv, e2] at py
      rw [e1, hv, e2]
      simp only [Op.eqFields, hn, ne_eq, not_false_eq_true, if_true, Sem.run_bind, px, py, run_equalIn_string w d f.type a b he, Result.andThen_ok, allEq, beq_toListBytes]
      cases hb : (a.toList == b.toList)
      · simp
      · simp [ih]
    · have he : P.underlying f.type = some .bool := by
        split at hu <;> first | assumption | simp at hu
      have px : (part f.type cs.toArray f.offset).run P w = .ok cs[i] w := by simp [part, isAgg, run_underlying he, ho, hi]
      have py : (part f.type ds.toArray f.offset).run P w = .ok ds[i] w := by simp [part, isAgg, run_underlying he, ho, hj]
      rw [e1] at px
      rw [hv, e2] at py
      rw [e1, hv, e2]
      simp only [Op.eqFields, hn, ne_eq, not_false_eq_true, if_true, Sem.run_bind, px, py, run_equalIn_bool' w d f.type a b he, Result.andThen_ok, allEq]
      cases hb : (a == b)
      · simp
      · simp [ih]
theorem actOk_aggEqS (hT : TyOk P T) (he : EvOk r sv ev) {neg : Bool} {t yt : TypeId} {x y : Operand} (ho : o.op = .binOp (if neg then .neq else .eql) t x y yt) {ti : TyI} (ht : T t = some ti) (hd : ti.eqs.isEmpty = false) {xs ys : List AV} (hl : kindsOk ti.eqs xs = true) {b : Bool} (heq : eqCells xs ys = some b)
    (hx : sv x = .c (.agg xs)) (hy : sv y = .c (.agg ys)) : ActOk P G o ev r (pureA (.bo (if neg then !b else b)) []) :=
  actOk_pure fun _ w => by
    have h1 := he x
    rw [hx] at h1
    have h2 := he y
    rw [hy] at h2
    obtain ⟨cs, h1', ha1⟩ := h1
    obtain ⟨ds, h2', ha2⟩ := h2
    obtain ⟨hb, _, hint⟩ := eqCells_spec _ _ _ _ _ heq ha1 ha2
    have hint := hint ti.eqs hl
    obtain ⟨_, nf, _, _, _, z, _, _, _, _, _, heqs⟩ := hT t ti ht
    obtain ⟨hq, hsz⟩ := heqs hd
    unfold eqB at hq
    simp only [Bool.and_eq_true, Bool.not_eq_true', beq_iff_eq] at hq
    obtain ⟨⟨⟨⟨hg, hp⟩, hst⟩, hfs⟩, hall⟩ := hq
    have hu : P.underlying t = some (.struct (P.fieldsOf t)) := by
      unfold Program.fieldsOf
      split at hst
      · rename_i fs hfs; rw [hfs]
      · cases hst
    have hkl : ∀ (ks : List Nat) (x : List AV), kindsOk ks x = true → x.length = ks.length := fun ks => by
      induction ks with
      | nil => intro x h; cases x with
        | nil => rfl
        | cons _ _ => simp [kindsOk] at h
      | cons k ks ih =>
        intro x h
        unfold kindsOk at h
        split at h <;> first | (simp; exact ih _ h) | simp_all
    have hlen : cs.length = ti.eqs.length := by rw [← ha1.length, hkl _ _ hl]
    have hin := run_equalIn_struct (P := P) w 9999 t cs.toArray ds.toArray hu hp
    rw [eqFields_run w 9998 cs ds (P.fieldsOf t).toList ti.eqs 0 (fun j f k hf hk => by
      have hf' : (P.fieldsOf t)[j]? = some f := by simpa using hf
      have hj := (List.getElem?_eq_some_iff.1 hk).1
      have := List.all_eq_true.1 hall j (by simpa using hj)
      rw [hf', List.getD_eq_getElem?_getD, hk] at this
      simpa using this) (by simpa using hint) (by simp; omega), List.drop_zero, List.drop_zero, ← hb] at hin
    refine ⟨.bool (if neg then !b else b), ?_, rfl⟩
    unfold execOp
    rw [ho]
    cases neg
    · simp only [h1', h2', Bool.false_eq_true, if_false, Sem.run_bind, run_eqGuard_agg w .eql t x y _ _ hg, Result.andThen_ok, run_eql_struct, hin, Sem.run_pure]
    · simp only [h1', h2', if_true, Sem.run_bind, run_eqGuard_agg w .neq t x y _ _ hg, Result.andThen_ok, run_neq_struct, hin, Sem.run_pure]
theorem actOk_aggEq (hT : TyOk P T) (he : EvOk r sv ev) {neg : Bool} {t yt : TypeId} {x y : Operand} (ho : o.op = .binOp (if neg then .neq else .eql) t x y yt) {ti ei : TyI} {n : Nat} {e : TypeId} {kk : IntKind} (ht : T t = some ti) (hd : ti.d = .array n e) (hE : T e = some ei) (hed : ei.d = .int kk) (hsz : ei.size = 1) {xs ys : List AV} (hl : xs.length = n) (hnm : numsOk xs = true) {b : Bool} (heq : eqCells xs ys = some b)
    (hx : sv x = .c (.agg xs)) (hy : sv y = .c (.agg ys)) : ActOk P G o ev r (pureA (.bo (if neg then !b else b)) []) :=
  actOk_pure fun _ w => by
    have h1 := he x
    rw [hx] at h1
    have h2 := he y
    rw [hy] at h2
    obtain ⟨cs, h1', ha1⟩ := h1
    obtain ⟨ds, h2', ha2⟩ := h2
    obtain ⟨hb, hint, _⟩ := eqCells_spec _ _ _ _ _ heq ha1 ha2
    have hint := hint hnm
    have hu : P.underlying t = some (.array n e) := by rw [(hT t ti ht).1, hd]
    have hue : P.underlying e = some (.int kk) := by rw [(hT e ei hE).1, hed]
    obtain ⟨_, nf, hinf, hs, _⟩ := hT e ei hE
    have hco : P.cellsOf e = 1 := by simp [Program.cellsOf, hinf, hs, hsz]
    have hg : P.eqGuardType P.depth t = false := by
      show P.eqGuardType (2 * (P.types.size + Made.depth) + 1 + 1) t = false
      simp [Program.eqGuardType, hu, hue]
    have hlen : cs.length = n := by rw [← ha1.length, hl]
    have hin := run_equalIn_array (P := P) w 9999 cs.toArray ds.toArray hu hinf
    rw [hco, List.range_eq_range', eqItems_run w hue 9998 cs ds n 0 (by simpa using hint) (by omega), List.drop_zero, List.drop_zero, ← hb] at hin
    refine ⟨.bool (if neg then !b else b), ?_, rfl⟩
    unfold execOp
    rw [ho]
    cases neg
    · simp only [h1', h2', Bool.false_eq_true, if_false, Sem.run_bind, run_eqGuard_agg w .eql t x y _ _ hg, Result.andThen_ok, run_eql_struct, hin, Sem.run_pure]
    · simp only [h1', h2', if_true, Sem.run_bind, run_eqGuard_agg w .neq t x y _ _ hg, Result.andThen_ok, run_neq_struct, hin, Sem.run_pure]
end
end Go.Proofs.YtahiopdkekkibaaGreatDoor

/-
  A walk by reckoning, part 13: calls by contract. It speaks of no program.
-/
namespace Go.Proofs.YtahiopdkekkibaaGreatDoor
open Go Go.RowKit
set_option linter.unusedVariables false
set_option linter.unusedSimpArgs false

def AV.isBare : AV → Bool
  | .ptr .. => false
  | .sl .. => false
  | _ => true
theorem AV.bare_of {x : AV} (h : x.isBare = true) : x.bare := by cases x <;> first | trivial | simp [AV.isBare] at h
def SObj.isBare : SObj → Bool
  | .cells _ xs => xs.all AV.isBare
  | _ => true
theorem SObj.bare_flat {o : SObj} (h : o.isBare = true) : ∀ x ∈ o.flat, x.bare := by
  cases o with
  | cells s xs => intro x hx; exact AV.bare_of (List.all_eq_true.1 h x hx)
  | dead => intro x hx; cases hx
  | arr α L l =>
    intro y hy
    obtain ⟨x, _, hx⟩ := List.mem_flatMap.1 hy
    exact L.bare x y hx
theorem ObjRel.bare {r r' : Lc} {w : World} {p : Option (Blk × Nat)} {o : SObj} (h : o.isBare = true) (hh : ObjRel r w p o) : ObjRel r' w p o := fun hl =>
  (hh hl).imp id fun ⟨g, c, cs, h1, h2, h3, h4⟩ => ⟨g, c, cs, h1, h2, h3, fun j x hx => by
    obtain ⟨u, hu, hr⟩ := h4 j x hx
    exact ⟨u, hu, AV.bare_rel (SObj.bare_flat h x (List.mem_of_getElem? hx)) r r' hr⟩⟩
def AV.ids : AV → List Nat
  | .ptr id _ _ _ => [id]
  | .sl id _ _ _ => [id]
  | _ => []
def CV.ids : CV → List Nat
  | .one x => x.ids
  | .agg xs => xs.flatMap AV.ids
def SV.ids : SV → List Nat
  | .c x => x.ids
  | .tup xs => xs.flatMap CV.ids
theorem AV.rel_agree {r r' : Lc} {x : AV} {u : Value} (h : ∀ id ∈ x.ids, ∀ p, r id = some p → r' id = some p) (hr : x.rel r u) : x.rel r' u := by
  cases x with
  | ptr id k st j => obtain ⟨g, c, h1, h2⟩ := hr; exact ⟨g, c, h id (by simp [AV.ids]) _ h1, h2⟩
  | sl id k st n =>
    rcases hr with ⟨h1, h2⟩ | ⟨g, c, o, h1, h2⟩
    · exact .inl ⟨h id (by simp [AV.ids]) _ h1, h2⟩
    · exact .inr ⟨g, c, o, h id (by simp [AV.ids]) _ h1, h2⟩
  | _ => exact hr
theorem All2.mono_mem {α β : Type} {R R' : α → β → Prop} : ∀ {x : List α} {y : List β}, (∀ a ∈ x, ∀ b, R a b → R' a b) → All2 R x y → All2 R' x y
  | [], [], _, _ => trivial
  | a :: x, b :: y, h, ⟨h1, h2⟩ => ⟨h a (by simp) b h1, All2.mono_mem (fun a' ha => h a' (by simp [ha])) h2⟩
theorem CV.rel_agree {r r' : Lc} {x : CV} {u : Value} (h : ∀ id ∈ x.ids, ∀ p, r id = some p → r' id = some p) (hr : x.rel r u) : x.rel r' u := by
  cases x with
  | one x => exact AV.rel_agree h hr
  | agg xs =>
    obtain ⟨cs, h1, h2⟩ := hr
    exact ⟨cs, h1, h2.mono_mem fun a ha b hb => AV.rel_agree (fun id hid => h id (List.mem_flatMap.2 ⟨a, ha, hid⟩)) hb⟩
theorem SV.rel_agree {r r' : Lc} {x : SV} {u : Value} (h : ∀ id ∈ x.ids, ∀ p, r id = some p → r' id = some p) (hr : x.rel r u) : x.rel r' u := by
  cases x with
  | c x => exact CV.rel_agree h hr
  | tup xs =>
    obtain ⟨cs, h1, h2⟩ := hr
    exact ⟨cs, h1, h2.mono_mem fun a ha b hb => CV.rel_agree (fun id hid => h id (List.mem_flatMap.2 ⟨a, ha, hid⟩)) hb⟩
/-- The objects of a call, by their places. -/
def numb {β : Type _} : Nat → List β → List (Nat × β)
  | _, [] => []
  | i, e :: l => (i, e) :: numb (i + 1) l
theorem aget_numb {β : Type _} : ∀ (l : List β) (i k : Nat), aget (numb i l) k = if i ≤ k then l[k - i]? else none
  | [], i, k => by simp [numb, aget]
  | e :: l, i, k => by
    simp only [numb, aget]
    by_cases h : i = k
    · subst h; simp
    · rw [if_neg h, aget_numb l (i + 1) k]
      by_cases h2 : i + 1 ≤ k
      · rw [if_pos h2, if_pos (by omega)]
        obtain ⟨j, rfl⟩ : ∃ j, k = i + 1 + j := ⟨k - (i + 1), by omega⟩
        rw [show i + 1 + j - (i + 1) = j by omega, show i + 1 + j - i = j + 1 by omega]; simp
      · rw [if_neg h2, if_neg (by omega)]
/-- What a call may turn. -/
def cw (G : List GFact) (r : Lc) (hp : List (Nat × Ent)) (w : World) : Ctx := ⟨w, fun b => ∃ id e, ∃ (g : Blk) (c : Nat), aget hp id = some e ∧ e.wr = true ∧ e.o.live = true ∧ r id = some (some (g, c)) ∧ g.1 = b, r, G⟩
/-- THE CONTRACT: called with these, over these objects, it comes back with that, over those. -/
def TriG (P : Program) (G : List GFact) (f : FuncId) (args : List CV) (hp : List (Nat × Ent)) (res : SV) (hp' : List (Nat × Ent)) : Prop :=
  ∀ (r : Lc) (w : World) (vals : List Value), All2 (CV.rel r) args vals → HeapOk (cw G r hp w) r hp w →
    Calls P f vals.toArray w fun e w' => ∃ u r', e = .returned u ∧ r.le r' ∧ res.rel r' u ∧ HeapOk (cw G r hp w) r' hp' w'
abbrev Tri (P : Program) (f : FuncId) (args : List CV) (hp : List (Nat × Ent)) (res : SV) (hp' : List (Nat × Ent)) : Prop := TriG P [] f args hp res hp'
theorem TriG.mono {P : Program} {G G' : List GFact} (hs : ∀ f ∈ G, f ∈ G') {f : FuncId} {args : List CV} {hp : List (Nat × Ent)} {res : SV} {hp' : List (Nat × Ent)} (h : TriG P G f args hp res hp') : TriG P G' f args hp res hp' :=
  fun r w vals ha hh => (h r w vals ha ⟨hh.dom, hh.obj, hh.inj, hh.own, hh.os, hh.tape, hh.output, hh.size, hh.same, fun f hf => hh.glob f (hs f hf)⟩).mono
    fun _ _ ⟨u, r', h1, h2, h3, h4⟩ => ⟨u, r', h1, h2, h3, ⟨h4.dom, h4.obj, h4.inj, h4.own, h4.os, h4.tape, h4.output, h4.size, h4.same, hh.glob⟩⟩
theorem Tri.up {P : Program} {G : List GFact} {f : FuncId} {args : List CV} {hp : List (Nat × Ent)} {res : SV} {hp' : List (Nat × Ent)} (h : Tri P f args hp res hp') : TriG P G f args hp res hp' := TriG.mono (fun _ h => by cases h) h
structure Con : Type 1 where
  wr : Bool
  run : List CV → List SObj → Option (SV × List SObj × List SObj × List Prop)
def upTo : Nat → List Nat
  | 0 => []
  | n + 1 => upTo n ++ [n]
def Con.post (es : List Ent) (upd news : List SObj) : List (Nat × Ent) := newAll (fun m => es.length + m) (setAllH (numb 0 es) (List.range es.length) upd) 0 news
def ConFn (P : Program) (G : List GFact) (f : FuncId) (con : Con) : Prop :=
  (∃ fn, P.funcs[f]? = some fn ∧ fn.body.isSome = true ∧ (fn.name == "runtime.NumGoroutine") = false) ∧
  ∀ args es res upd news ob, con.run args (es.map (·.o)) = some (res, upd, news, ob) → AllT ob → (∀ i, i < upd.length → ∃ e, es[i]? = some e ∧ e.wr = true) → TriG P G f args (numb 0 es) res (Con.post es upd news)
/-- A function that the model stands in for: no objects, a value at once. -/
def ConExt (P : Program) (f : FuncId) (con : Con) : Prop :=
  ∀ args os res upd news ob, con.run args os = some (res, upd, news, ob) → os = [] ∧ upd = [] ∧ news = [] ∧
    (AllT ob → ∀ (r : Lc) (w : World) (vals : List Value), All2 (CV.rel r) args vals → ∃ u, (callFunc f vals.toArray).run P w = .ok (.value u) w ∧ res.rel r u)
def ConOkG (P : Program) (G : List GFact) (f : FuncId) (con : Con) : Prop := ConFn P G f con ∨ ConExt P f con
abbrev ConOk (P : Program) (f : FuncId) (con : Con) : Prop := ConOkG P [] f con
theorem ConOkG.mono {P : Program} {G G' : List GFact} (hs : ∀ f ∈ G, f ∈ G') {f : FuncId} {con : Con} (h : ConOkG P G f con) : ConOkG P G' f con :=
  h.imp (fun ⟨h1, h2⟩ => ⟨h1, fun args es res upd news ob a b c => (h2 args es res upd news ob a b c).mono hs⟩) id
theorem ConOk.up {P : Program} {G : List GFact} {f : FuncId} {con : Con} (h : ConOk P f con) : ConOkG P G f con := ConOkG.mono (fun _ h => by cases h) h
def firstIds (l : List Nat) : List Nat := l.foldl (fun acc i => if acc.contains i then acc else acc ++ [i]) []
def idxOf : List Nat → Nat → Nat
  | [], _ => 0
  | i :: l, k => if i = k then 0 else idxOf l k + 1
theorem idxOf_cons (i : Nat) (l : List Nat) (k : Nat) : idxOf (i :: l) k = if i = k then 0 else idxOf l k + 1 := rfl
def canWrite : List Ent → Nat → Bool
  | _, 0 => true
  | e :: l, n + 1 => e.wr && canWrite l n
  | [], _ + 1 => false
def callA (con : Con) (args : List CV) (F : List Nat) : Actn := ⟨F, con.wr, fun es fresh =>
  if (es.all fun e : Ent => e.o.isBare) then match con.run (args.map (CV.ren (idxOf F))) (es.map (·.o)) with
    | some (res, upd, news, ob) =>
      if upd.all SObj.isBare && news.all SObj.isBare && canWrite es upd.length && (upd.isEmpty || con.wr) then
        some ⟨res.ren (fun j => match F[j]? with | some id => id | none => fresh (j - F.length)), upd, news, ob⟩
      else none
    | none => none
  else none⟩
theorem idxOf_get : ∀ (l : List Nat) (k : Nat), k ∈ l → l[idxOf l k]? = some k
  | [], _, h => by simp at h
  | i :: l, k, h => by
    unfold idxOf
    by_cases e : i = k
    · rw [if_pos e, e]; rfl
    · rw [if_neg e]
      have : k ∈ l := by rcases List.mem_cons.1 h with h | h; exact (e h.symm).elim; exact h
      simpa using idxOf_get l k this
theorem getAll_get {hp : List (Nat × Ent)} : ∀ {l : List Nat} {es : List Ent}, getAll hp l = some es → ∀ (j id : Nat), l[j]? = some id → ∃ e, es[j]? = some e ∧ aget hp id = some e
  | [], es, h, j, id, hj => by simp at hj
  | i :: l, es, h, j, id, hj => by
    simp only [getAll] at h
    cases he : aget hp i with
    | none => rw [he] at h; cases h
    | some e =>
      rw [he] at h
      cases hr : getAll hp l with
      | none => simp only [hr] at h; cases h
      | some q =>
        simp only [hr, Option.some.injEq] at h
        subst h
        cases j with
        | zero => simp at hj; subst hj; exact ⟨e, by simp, he⟩
        | succ j =>
          obtain ⟨e', h1, h2⟩ := getAll_get hr j id (by simpa using hj)
          exact ⟨e', by simpa using h1, h2⟩
theorem canWrite_get : ∀ (es : List Ent) (n : Nat), canWrite es n = true → ∀ i, i < n → ∃ e, es[i]? = some e ∧ e.wr = true
  | _, 0, _, i, h => by omega
  | [], n + 1, h, _, _ => by simp [canWrite] at h
  | e :: es, n + 1, h, i, hi => by
    simp only [canWrite, Bool.and_eq_true] at h
    cases i with
    | zero => exact ⟨e, rfl, h.1⟩
    | succ i => simpa using canWrite_get es n h.2 i (by omega)
/-- Where the objects of the call lie. -/
def Lc.via (r : Lc) (F : List Nat) : Lc := fun j => match F[j]? with
  | some id => r id
  | none => none
/-- What is laid behind a call, at one number. -/
theorem aget_setAllH : ∀ (F : List Nat) (upd : List SObj) (hp : List (Nat × Ent)) (id : Nat), F.Nodup → aget (setAllH hp F upd) id = match upd[idxOf F id]? with | some o => if id ∈ F then some ⟨o, true⟩ else aget hp id | none => aget hp id
  | [], upd, hp, id, _ => by
    have : setAllH hp [] upd = hp := by cases upd <;> rfl
    rw [this]
    cases upd[idxOf [] id]? <;> simp
  | i :: F, [], hp, id, _ => by
    rw [setAllH_nil]; simp
  | i :: F, o :: upd, hp, id, hn => by
    rw [setAllH, aget_setAllH F upd _ id (List.nodup_cons.1 hn).2]
    have hni := (List.nodup_cons.1 hn).1
    rw [idxOf_cons]
    by_cases e : i = id
    · subst e
      simp only [if_pos, List.getElem?_cons_zero, List.mem_cons, true_or, if_true]
      rw [aget_same]
      cases hq : upd[idxOf F i]? <;> simp [hq, hni]
    · rw [if_neg e, List.getElem?_cons_succ, aget_other _ _ e]
      cases hq : upd[idxOf F id]? <;> simp [hq, Ne.symm e]
theorem aget_newAll (fresh : Nat → Nat) : ∀ (news : List SObj) (hp : List (Nat × Ent)) (m : Nat), (∀ a b, m ≤ a → a < m + news.length → m ≤ b → b < m + news.length → fresh a = fresh b → a = b) → ∀ id, 
    (∀ a, m ≤ a → a < m + news.length → fresh a = id → aget (newAll fresh hp m news) id = (news[a - m]?).map fun o => ⟨o, true⟩) ∧ ((∀ a, m ≤ a → a < m + news.length → fresh a ≠ id) → aget (newAll fresh hp m news) id = aget hp id)
  | [], hp, m, _, id => by
    refine ⟨fun a h1 h2 => ?_, fun _ => rfl⟩
    simp at h2; omega
  | o :: news, hp, m, hinj, id => by
    have ih := aget_newAll fresh news (aset hp (fresh m) ⟨o, true⟩) (m + 1) (fun a b h1 h2 h3 h4 => hinj a b (by omega) (by simp only [List.length_cons]; omega) (by omega) (by simp only [List.length_cons]; omega)) id
    refine ⟨fun a h1 h2 h3 => ?_, fun h => ?_⟩
    · rw [newAll]
      by_cases e : a = m
      · subst e
        rw [ih.2 fun b hb1 hb2 hb => by
          have := hinj b a (by omega) (by simp only [List.length_cons]; omega) (by omega) (by simp only [List.length_cons]; omega) (hb.trans h3.symm)
          omega]
        rw [← h3, aget_same]; simp
      · simp only [List.length_cons] at h2
        rw [ih.1 a (by omega) (by omega) h3]
        rw [show a - m = (a - (m + 1)) + 1 by omega]; simp
    · rw [newAll, ih.2 fun a h1 h2 => h a (by omega) (by simp only [List.length_cons]; omega), aget_other _ _ (h m (Nat.le_refl _) (by simp))]
end Go.Proofs.YtahiopdkekkibaaGreatDoor

/-
  A walk by reckoning, part 14: a call by contract is an action. It speaks of no program.
-/
namespace Go.Proofs.YtahiopdkekkibaaGreatDoor
open Go Go.RowKit
set_option linter.unusedVariables false
set_option linter.unusedSimpArgs false

theorem run_callFunc {P : Program} {f : FuncId} {fn : Func} (hf : P.funcs[f]? = some fn) (hb : fn.body.isSome = true) (hn : (fn.name == "runtime.NumGoroutine") = false) (args : Array Value) (w : World) : (callFunc f args).run P w = .ok (.enter f args) w := by
  have hb' : fn.body ≠ none := fun h => by rw [h] at hb; cases hb
  have hn' : fn.name ≠ "runtime.NumGoroutine" := fun h => by rw [h] at hn; simp at hn
  unfold callFunc
  simp [hf, hb', hn']
theorem all2_args {r : Lc} {sv : Operand → SV} {ev : Operand → Value} (he : EvOk r sv ev) : ∀ {xs : List Operand} {args : List CV}, xs.map sv = args.map .c → All2 (CV.rel r) args (xs.map ev)
  | [], [], _ => trivial
  | [], _ :: _, h => by simp at h
  | _ :: _, [], h => by simp at h
  | x :: xs, a :: args, h => by
    simp only [List.map_cons, List.cons.injEq] at h
    refine ⟨?_, all2_args he h.2⟩
    have := he x
    rw [h.1] at this
    exact this
theorem idxOf_range (M j : Nat) (h : j < M) : idxOf (List.range M) j = j := by
  have h1 := idxOf_get (List.range M) j (by simpa using h)
  have h2 : idxOf (List.range M) j < M := by
    have := (List.getElem?_eq_some_iff.1 h1).1
    simpa using this
  rw [List.getElem?_range h2] at h1
  exact Option.some.inj h1
open Classical in
theorem actOk_call {P : Program} {G : List GFact} {o : Oper} {sv : Operand → SV} {ev : Operand → Value} {r : Lc} {con : Con} {f : FuncId} (hc : ConOkG P G f con) (he : EvOk r sv ev) {xs : List Operand} {ats : Array TypeId} (ho : o.op = .call { callee := .value (.func f), args := xs.toArray, argTypes := ats })
    {args : List CV} (ha : xs.map sv = args.map .c) {F : List Nat} (hF : F.Nodup) (hFm : ∀ c ∈ args, ∀ id ∈ c.ids, id ∈ F) (hfv : ev (.func f) = .func (.func f) #[] #[]) : ActOk P G o ev r (callA con args F) := by
  intro C hp w es fresh R hh hg hr hob hfr hinj hsub
  have hg : getAll hp F = some es := hg
  have hM := getAll_mem hg
  have hget := getAll_get hg
  simp only [callA] at hr
  by_cases hbare : (es.all fun e : Ent => e.o.isBare) = true
  case neg => rw [if_neg hbare] at hr; cases hr
  rw [if_pos hbare] at hr
  cases hrun : con.run (args.map (CV.ren (idxOf F))) (es.map (·.o)) with
  | none => rw [hrun] at hr; cases hr
  | some q =>
    obtain ⟨res, upd, news, ob⟩ := q
    rw [hrun] at hr
    simp only at hr
    split at hr
    case isFalse => cases hr
    rename_i hcond
    injection hr with hr
    subst hr
    simp only [Bool.and_eq_true] at hcond
    obtain ⟨⟨⟨hub, hnb⟩, hcwr⟩, _⟩ := hcond
    have hwrite := canWrite_get es upd.length hcwr
    have hbe : ∀ (j : Nat) (e : Ent), es[j]? = some e → e.o.isBare = true := fun j e h => List.all_eq_true.1 hbare e (List.mem_of_getElem? h)
    have hFnd : ∀ i j id, F[i]? = some id → F[j]? = some id → i = j := fun i j id hi hj => by
      have h1 := (List.getElem?_eq_some_iff.1 hi)
      have h2 := (List.getElem?_eq_some_iff.1 hj)
      obtain ⟨l1, e1⟩ := h1
      obtain ⟨l2, e2⟩ := h2
      exact (List.getElem_inj (h₀ := l1) (h₁ := l2) hF).1 (e1.trans e2.symm)
    -- the call's own heap
    have hcan : ∀ j, aget (numb 0 es) j = es[j]? := fun j => by rw [aget_numb]; simp
    have hvia : ∀ j id, F[j]? = some id → (r.via F) j = r id := fun j id h => by simp only [Lc.via, h]
    have hin : HeapOk (cw G (r.via F) (numb 0 es) w) (r.via F) (numb 0 es) w := {
      dom := fun j => by
        rw [hcan]
        cases hj : F[j]? with
        | none =>
          have : es[j]? = none := by rw [List.getElem?_eq_none_iff] at hj ⊢; omega
          simp [Lc.via, hj, this]
        | some id =>
          obtain ⟨e, h1, h2⟩ := hget j id hj
          rw [hvia j id hj, h1]
          have := hh.dom id
          rw [h2] at this
          simpa using this
      obj := fun j e p hj hp' => by
        rw [hcan] at hj
        cases hF' : F[j]? with
        | none => simp only [Lc.via, hF'] at hp'; cases hp'
        | some id =>
          obtain ⟨e', h1, h2⟩ := hget j id hF'
          rw [h1] at hj
          cases hj
          rw [hvia j id hF'] at hp'
          exact (hh.obj id e p h2 hp').bare (hbe j e h1)
      inj := fun i j e e' g g' c d hi hj li lj ri rj wi hgg => by
        rw [hcan] at hi hj
        cases hFi : F[i]? with
        | none => simp only [Lc.via, hFi] at ri; cases ri
        | some a =>
          cases hFj : F[j]? with
          | none => simp only [Lc.via, hFj] at rj; cases rj
          | some b =>
            obtain ⟨ea, h1, h2⟩ := hget i a hFi
            obtain ⟨eb, h3, h4⟩ := hget j b hFj
            rw [h1] at hi; cases hi
            rw [h3] at hj; cases hj
            rw [hvia i a hFi] at ri
            rw [hvia j b hFj] at rj
            have := hh.inj a b _ _ g g' c d h2 h4 li lj ri rj wi hgg
            subst this
            exact hFnd i j a hFi hFj
      own := fun j e g c hj hl hwr hr' => by
        refine ⟨?_, .inl ⟨j, e, g, c, hj, hwr, hl, hr', rfl⟩⟩
        rw [hcan] at hj
        cases hFj : F[j]? with
        | none => simp only [Lc.via, hFj] at hr'; cases hr'
        | some id =>
          obtain ⟨e', h1, h2⟩ := hget j id hFj
          rw [h1] at hj
          cases hj
          rw [hvia j id hFj] at hr'
          exact (hh.own id e _ c h2 hl hwr hr').1
      glob := fun f hf => ⟨hh.facts f (hsub f hf), fun ⟨j, e, g, c, hj, hwr, hl, hr', hgb⟩ => by
        rw [hcan] at hj
        cases hFj : F[j]? with
        | none => simp only [Lc.via, hFj] at hr'; cases hr'
        | some id =>
          obtain ⟨e', h1, h2⟩ := hget j id hFj
          rw [h1] at hj
          cases hj
          rw [hvia j id hFj] at hr'
          rcases (hh.own id e _ c h2 hl hwr hr').2 with h3 | h3
          · rw [hgb] at h3; exact (hh.glob f (hsub f hf)).2 h3
          · have := f.lt _ (hh.glob f (hsub f hf)).1
            omega⟩
      os := rfl
      tape := rfl
      output := rfl
      size := Nat.le_refl _
      same := fun _ _ _ => rfl }
    have hargs : All2 (CV.rel (r.via F)) (args.map (CV.ren (idxOf F))) (xs.map ev) := by
      rw [All2.map_left]
      refine (all2_args he ha).mono_mem fun c hcm u hu => ?_
      rw [CV.rel_ren]
      refine CV.rel_agree (fun id hid p hp' => ?_) hu
      show (r.via F) (idxOf F id) = some p
      rw [hvia _ id (idxOf_get F id (hFm c hcm id hid)), hp']
    rcases hc with hc | hext
    case inr =>
      obtain ⟨hos, rfl, rfl, hk⟩ := hext _ _ _ _ _ _ hrun
      have hes : es = [] := List.map_eq_nil_iff.1 hos
      subst hes
      have hF0 : F = [] := List.eq_nil_of_length_eq_zero hM
      subst hF0
      obtain ⟨u, hu, hres⟩ := hk hob (r.via []) w _ hargs
      have hexec : (execOp ev o).run P w = .ok (.value u) w := by
        unfold execOp
        rw [ho]
        have h1 : resolve ev { callee := .value (.func f), args := xs.toArray, argTypes := ats } o.type = pure { target := .fn (.func f) #[], args := #[] ++ xs.toArray.map ev } := by unfold resolve; simp only [hfv]; rfl
        simp only [h1, Sem.run_bind, Sem.run_pure, Result.andThen_ok]
        have h2 : ((#[] ++ xs.toArray.map ev) ++ #[] : Array Value) = (xs.map ev).toArray := by simp
        show (callFunc f ((#[] ++ xs.toArray.map ev) ++ #[])).run P w = _
        rw [h2]
        exact hu
      refine StepOk.of_value hexec ⟨r, r.le_refl, ?_, hh⟩
      rw [SV.rel_ren]
      refine SV.rel_agree (fun id hid p hp' => ?_) hres
      simp [Lc.via] at hp'
    obtain ⟨⟨fn, hfn, hbody, hname⟩, hcon⟩ := hc
    have hcalls := hcon _ es res upd news ob hrun hob hwrite (r.via F) w (xs.map ev) hargs hin
    have hexec : (execOp ev o).run P w = .ok (.enter f (xs.map ev).toArray) w := by
      unfold execOp
      rw [ho]
      have h1 : resolve ev { callee := .value (.func f), args := xs.toArray, argTypes := ats } o.type = pure { target := .fn (.func f) #[], args := #[] ++ xs.toArray.map ev } := by unfold resolve; simp only [hfv]; rfl
      simp only [h1, Sem.run_bind, Sem.run_pure, Result.andThen_ok]
      have h2 : ((#[] ++ xs.toArray.map ev) ++ #[] : Array Value) = (xs.map ev).toArray := by simp
      show (callFunc f ((#[] ++ xs.toArray.map ev) ++ #[])).run P w = _
      rw [h2]
      exact run_callFunc hfn hbody hname _ w
    unfold StepOk
    rw [hexec]
    refine Calls.mono hcalls fun e w' hpost => ?_
    obtain ⟨u, rc, rfl, hle, hres, hk⟩ := hpost
    refine ⟨u, rfl, ?_⟩
    -- what is known of the call's heap behind it
    have hpn := fun id => aget_newAll (fun m => es.length + m) news (setAllH (numb 0 es) (List.range es.length) upd) 0 (fun a b _ _ _ _ h => by omega) id
    have post_new : ∀ m, m < news.length → aget (Con.post es upd news) (es.length + m) = (news[m]?).map fun o => ⟨o, true⟩ := fun m hm => by
      have := (hpn (es.length + m)).1 m (by omega) (by omega) rfl
      show aget (newAll (fun m => es.length + m) (setAllH (numb 0 es) (List.range es.length) upd) 0 news) (es.length + m) = _
      rw [this]; simp
    have post_old : ∀ j, j < es.length → aget (Con.post es upd news) j = match upd[j]? with | some o => some ⟨o, true⟩ | none => es[j]? := fun j hj => by
      have h1 := (hpn j).2 (fun a _ _ h => by omega)
      show aget (newAll (fun m => es.length + m) (setAllH (numb 0 es) (List.range es.length) upd) 0 news) j = _
      rw [h1, aget_setAllH _ _ _ _ List.nodup_range, idxOf_range _ _ hj, hcan]
      have : j ∈ List.range es.length := by simpa using hj
      cases hu : upd[j]? <;> simp [hu, this]
    have post_far : ∀ j, es.length + news.length ≤ j → aget (Con.post es upd news) j = none := fun j hj => by
      have h1 := (hpn j).2 (fun a _ h2 h => by omega)
      show aget (newAll (fun m => es.length + m) (setAllH (numb 0 es) (List.range es.length) upd) 0 news) j = _
      rw [h1, aget_setAllH _ _ _ _ List.nodup_range, hcan]
      have hnm : ¬ j ∈ List.range es.length := by simp; omega
      have hnone : es[j]? = none := by rw [List.getElem?_eq_none_iff]; omega
      cases upd[idxOf (List.range es.length) j]? <;> simp [hnone, hnm]
    have hrnone : ∀ m, m < news.length → r (fresh m) = none := fun m hm => (hh.dom _).2 (hfr m hm)
    -- where all lies now
    let r' : Lc := fun id => match r id with
      | some p => some p
      | none => if h : ∃ m, m < news.length ∧ fresh m = id then rc (es.length + h.choose) else none
    have hA : ∀ id p, r id = some p → r' id = some p := fun id p h => by simp only [r', h]
    have hB : ∀ m, m < news.length → r' (fresh m) = rc (es.length + m) := fun m hm => by
      have hex : ∃ k, k < news.length ∧ fresh k = fresh m := ⟨m, hm, rfl⟩
      simp only [r', hrnone m hm]
      rw [dif_pos hex]
      have := hinj _ _ hex.choose_spec.1 hm hex.choose_spec.2
      rw [this]
    have hC : ∀ id, r id = none → (∀ m, m < news.length → fresh m ≠ id) → r' id = none := fun id h1 h2 => by
      simp only [r', h1]
      rw [dif_neg]
      rintro ⟨m, hm, e⟩
      exact h2 m hm e
    have hrcF : ∀ j id p, F[j]? = some id → r id = some p → rc j = some p := fun j id p h1 h2 => hle j p (by rw [hvia j id h1]; exact h2)
    have hFr : ∀ j id, F[j]? = some id → ∃ p, r id = some p := fun j id h => by
      obtain ⟨e, h1, h2⟩ := hget j id h
      cases hq : r id with
      | none => rw [(hh.dom id).1 hq] at h2; cases h2
      | some p => exact ⟨p, rfl⟩
    refine ⟨r', fun id p h => hA id p h, ?_, ?_⟩
    · -- the result
      rw [SV.rel_ren]
      refine SV.rel_agree (fun id hid p hp' => ?_) hres
      show r' (match F[id]? with | some i => i | none => fresh (id - F.length)) = some p
      cases hj : F[id]? with
      | some i =>
        obtain ⟨q, hq⟩ := hFr id i hj
        have := hrcF id i q hj hq
        rw [hp'] at this
        cases this
        exact hA i p hq
      | none =>
        have hge : es.length ≤ id := by rw [List.getElem?_eq_none_iff] at hj; omega
        have hlt : id < es.length + news.length := by
          rcases Nat.lt_or_ge id (es.length + news.length) with h | h
          · exact h
          · rw [(hk.dom id).2 (post_far id h)] at hp'; cases hp'
        have := hB (id - F.length) (by omega)
        show r' (fresh (id - F.length)) = some p
        rw [this, hM, show es.length + (id - es.length) = id by omega]
        exact hp'
    · -- the heap
      have hni := fun id => aget_newAll fresh news (setAllH hp F upd) 0 (fun a b _ h1 _ h2 h => hinj a b (by show a < news.length; omega) (by show b < news.length; omega) h) id
      have kn : ∀ m, m < news.length → aget (newAll fresh (setAllH hp F upd) 0 news) (fresh m) = (news[m]?).map fun o => ⟨o, true⟩ := fun m hm => by
        have := (hni (fresh m)).1 m (by omega) (by omega) rfl
        simpa using this
      have ko : ∀ id, (∀ m, m < news.length → fresh m ≠ id) → aget (newAll fresh (setAllH hp F upd) 0 news) id = aget (setAllH hp F upd) id := fun id h => (hni id).2 fun a _ h2 => h a (by omega)
      have kF : ∀ j id, F[j]? = some id → aget (newAll fresh (setAllH hp F upd) 0 news) id = aget (Con.post es upd news) j := fun j id hj => by
        have hmem : id ∈ F := List.mem_of_getElem? hj
        obtain ⟨e, h1, h2⟩ := hget j id hj
        have hidx : idxOf F id = j := hFnd _ _ id (idxOf_get F id hmem) hj
        rw [ko id fun m hm e' => by rw [← e', hfr m hm] at h2; cases h2]
        rw [aget_setAllH _ _ _ _ hF, hidx, post_old j (List.getElem?_eq_some_iff.1 h1).1]
        cases upd[j]? <;> simp [hmem, h1, h2]
      have kX : ∀ id, id ∉ F → (∀ m, m < news.length → fresh m ≠ id) → aget (newAll fresh (setAllH hp F upd) 0 news) id = aget hp id := fun id h1 h2 => by
        rw [ko id h2, aget_setAllH _ _ _ _ hF]
        cases upd[idxOf F id]? <;> simp [h1]
      -- each number is one of three
      have three : ∀ id, (∃ j, j < es.length + news.length ∧ aget (newAll fresh (setAllH hp F upd) 0 news) id = aget (Con.post es upd news) j ∧ r' id = rc j ∧ ((F[j]? = some id) ∨ ∃ m, m < news.length ∧ fresh m = id ∧ j = es.length + m)) ∨
          (id ∉ F ∧ (∀ m, m < news.length → fresh m ≠ id) ∧ aget (newAll fresh (setAllH hp F upd) 0 news) id = aget hp id ∧ r' id = r id) := fun id => by
        by_cases hf : ∃ m, m < news.length ∧ fresh m = id
        · obtain ⟨m, hm, rfl⟩ := hf
          exact .inl ⟨es.length + m, by omega, by rw [kn m hm, post_new m hm], hB m hm, .inr ⟨m, hm, rfl, rfl⟩⟩
        · have hf' : ∀ m, m < news.length → fresh m ≠ id := fun m hm e => hf ⟨m, hm, e⟩
          by_cases hmem : id ∈ F
          · have hj := idxOf_get F id hmem
            obtain ⟨p, hp'⟩ := hFr _ id hj
            have hlt : idxOf F id < F.length := (List.getElem?_eq_some_iff.1 hj).1
            exact .inl ⟨idxOf F id, by omega, kF _ id hj, by rw [hA id p hp', hrcF _ id p hj hp'], .inl hj⟩
          · refine .inr ⟨hmem, hf', kX id hmem hf', ?_⟩
            cases hq : r id with
            | none => exact hC id hq hf'
            | some p => exact hA id p hq
      have hpostbare : ∀ j e, aget (Con.post es upd news) j = some e → e.o.isBare = true := fun j e h => by
        rcases Nat.lt_or_ge j es.length with hj | hj
        · rw [post_old j hj] at h
          cases hu : upd[j]? with
          | none => rw [hu] at h; exact hbe j e h
          | some o => rw [hu] at h; cases h; exact List.all_eq_true.1 hub o (List.mem_of_getElem? hu)
        · rcases Nat.lt_or_ge j (es.length + news.length) with hj2 | hj2
          · obtain ⟨m, rfl⟩ : ∃ m, j = es.length + m := ⟨j - es.length, by omega⟩
            rw [post_new m (by omega)] at h
            cases hn : news[m]? with
            | none => rw [hn] at h; cases h
            | some o => rw [hn] at h; cases h; exact List.all_eq_true.1 hnb o (List.mem_of_getElem? hn)
          · rw [post_far j hj2] at h; cases h
      -- what a call may turn is what is ours
      have hwb : ∀ b, (cw G (r.via F) (numb 0 es) w).wb b → ∃ id e, ∃ (g : Blk) (c : Nat), id ∈ F ∧ aget hp id = some e ∧ e.wr = true ∧ e.o.live = true ∧ r id = some (some (g, c)) ∧ g.1 = b := fun b ⟨j, e, g, c, h1, h2, h3, h4, hgb⟩ => by
        rw [hcan] at h1
        cases hj : F[j]? with
        | none => simp only [Lc.via, hj] at h4; cases h4
        | some id =>
          obtain ⟨e', h5, h6⟩ := hget j id hj
          rw [h1] at h5
          cases h5
          rw [hvia j id hj] at h4
          exact ⟨id, e, g, c, List.mem_of_getElem? hj, h6, h2, h3, h4, hgb⟩
      have hout : ∀ id e (g : Blk) c, id ∉ F → aget hp id = some e → e.o.live = true → r id = some (some (g, c)) → ¬ (cw G (r.via F) (numb 0 es) w).wb g.1 := fun id e g c h1 h2 h3 h4 h5 => by
        obtain ⟨id', e', g', c', h6, h7, h8, h9, h10, h11⟩ := hwb g.1 h5
        exact h1 (by rw [← hh.inj id' id e' e g' g c' c h7 h2 h9 h3 h10 h4 h8 h11]; exact h6)
      -- an outer one and one of the call's are two
      have apart : ∀ id e (g : Blk) c j f (g' : Blk) d, id ∉ F → aget hp id = some e → e.o.live = true → r id = some (some (g, c)) → aget (Con.post es upd news) j = some f → f.o.live = true → rc j = some (some (g', d)) → (e.wr = true ∨ f.wr = true) → g.1 = g'.1 → False := fun id e g c j f g' d h1 h2 h3 h4 h5 h6 h7 hew hgg => by
        have hlt := hh.lt h2 h3 h4
        by_cases hfw : f.wr = true
        · rcases (hk.own j f g' d h5 h6 hfw h7).2 with h8 | h8
          · exact hout id e g c h1 h2 h3 h4 (by rw [hgg]; exact h8)
          · have : w.heap.size ≤ g'.1 := h8
            omega
        · rcases Nat.lt_or_ge j es.length with hj | hj
          · rw [post_old j hj] at h5
            cases hu : upd[j]? with
            | some o => rw [hu] at h5; cases h5; exact hfw rfl
            | none =>
              rw [hu] at h5
              simp only at h5
              cases hFj : F[j]? with
              | none => rw [List.getElem?_eq_none_iff] at hFj; omega
              | some id' =>
                obtain ⟨e', h8, h9⟩ := hget j id' hFj
                rw [h5] at h8
                cases h8
                obtain ⟨p, hp'⟩ := hFr j id' hFj
                have := hrcF j id' p hFj hp'
                rw [h7] at this
                cases this
                have := hh.inj id id' e f g g' c d h2 h9 h3 h6 h4 hp' (hew.resolve_right hfw) hgg
                exact h1 (by rw [this]; exact List.mem_of_getElem? hFj)
          · rcases Nat.lt_or_ge j (es.length + news.length) with hj2 | hj2
            · obtain ⟨m, rfl⟩ : ∃ m, j = es.length + m := ⟨j - es.length, by omega⟩
              rw [post_new m (by omega)] at h5
              cases hn : news[m]? with
              | none => rw [hn] at h5; cases h5
              | some o => rw [hn] at h5; cases h5; exact hfw rfl
            · rw [post_far j hj2] at h5; cases h5
      show HeapOk C r' (newAll fresh (setAllH hp F upd) 0 news) w'
      exact {
        dom := fun id => by
          rcases three id with ⟨j, _, h1, h2, _⟩ | ⟨_, _, h1, h2⟩
          · rw [h1, h2]; exact hk.dom j
          · rw [h1, h2]; exact hh.dom id
        obj := fun id e p h h' => by
          rcases three id with ⟨j, _, h1, h2, _⟩ | ⟨h3, _, h1, h2⟩
          · rw [h1] at h
            rw [h2] at h'
            exact (hk.obj j e p h h').bare (hpostbare j e h)
          · rw [h1] at h
            rw [h2] at h'
            intro hl
            refine ((hh.obj id e p h h').at (fun g c hp' => ?_)).le (fun i q hq => hA i q hq) hl
            subst hp'
            exact hk.same g.1 (hh.lt h hl h') (hout id e g c h3 h hl h')
        inj := fun i j e f g g' c d hi hj li lj ri rj wi hgg => by
          rcases three i with ⟨a, a0, a1, a2, a3⟩ | ⟨a0, a3, a1, a2⟩ <;> rcases three j with ⟨b, b0, b1, b2, b3⟩ | ⟨b0, b3, b1, b2⟩
          · rw [a1] at hi; rw [b1] at hj; rw [a2] at ri; rw [b2] at rj
            have hab := hk.inj a b e f g g' c d hi hj li lj ri rj wi hgg
            subst hab
            rcases a3 with a3 | ⟨m, hm, rfl, hm2⟩ <;> rcases b3 with b3 | ⟨n, hn, rfl, hn2⟩
            · rw [a3] at b3; exact Option.some.inj b3
            · have := (List.getElem?_eq_some_iff.1 a3).1; omega
            · have := (List.getElem?_eq_some_iff.1 b3).1; omega
            · have : m = n := by omega
              rw [this]
          · rw [a1] at hi; rw [b1] at hj; rw [a2] at ri; rw [b2] at rj
            exact (apart j f g' d a e g c b0 hj lj rj hi li ri (.inr wi) hgg.symm).elim
          · rw [a1] at hi; rw [b1] at hj; rw [a2] at ri; rw [b2] at rj
            exact (apart i e g c b f g' d a0 hi li ri hj lj rj (.inl wi) hgg).elim
          · rw [a1] at hi; rw [b1] at hj; rw [a2] at ri; rw [b2] at rj
            exact hh.inj i j e f g g' c d hi hj li lj ri rj wi hgg
        own := fun id e g c h hl hwr h' => by
          rcases three id with ⟨j, _, h1, h2, _⟩ | ⟨h3, _, h1, h2⟩
          · rw [h1] at h
            rw [h2] at h'
            obtain ⟨hn, h4⟩ := hk.own j e g c h hl hwr h'
            refine ⟨hn, ?_⟩
            rcases h4 with h4 | h4
            · obtain ⟨id', e', g', c', _, h6, h7, h8, h9, h10⟩ := hwb g.1 h4
              rw [← h10]
              exact (hh.own id' e' g' c' h6 h8 h7 h9).2
            · exact .inr (Nat.le_trans hh.size h4)
          · rw [h1] at h
            rw [h2] at h'
            exact hh.own id e g c h hl hwr h'
        os := hk.os.trans hh.os
        tape := hk.tape.trans hh.tape
        glob := hh.glob
        output := hk.output.trans hh.output
        size := Nat.le_trans hh.size hk.size
        same := fun b h1 h2 => by
          refine (hk.same b (Nat.lt_of_lt_of_le h1 hh.size) fun h3 => ?_).trans (hh.same b h1 h2)
          obtain ⟨id', e', g', c', _, h6, h7, h8, h9, h10⟩ := hwb b h3
          subst h10
          rcases (hh.own id' e' g' c' h6 h8 h7 h9).2 with h4 | h4
          · exact h2 h4
          · omega }
end Go.Proofs.YtahiopdkekkibaaGreatDoor

