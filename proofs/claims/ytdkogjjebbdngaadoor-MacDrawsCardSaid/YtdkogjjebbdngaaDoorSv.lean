/-
  A walk by reckoning, part 1: what a slot may be known to hold, and how that reads in the model. It speaks of no program.
-/
import Derived.WalkKit
import Derived.WalkSpells
import Derived.WalkLawsBesides
import Derived.Below
import Derived.Laws.OwnMore
import Derived.Deep.Draws
import Derived.Laws.Rows
import Derived.Lib.Hide
import Derived.RowKit3
import Derived.Maps.AppendAt
namespace Go.Proofs.YtdkogjjebbdngaaDoor
open Go

/-- What is known of one cell. -/
inductive AV where
  | junk
  | bo (x : Bool)
  | num (x : Int)
  | int (k : IntKind) (x : Int)
  | u8 (x : UInt8)
  | u32 (x : UInt32)
  | u64 (x : UInt64)
  | str (x : List UInt8)
  | val (x : Value)
  | ptr (id k st j : Nat)
  | sl (id k st n : Nat)
  /-- an interface's value: does it hold something? -/
  | ifn (b : Bool)

/-- A place: a block, and, where the row was handed in, the cell of the block where it begins. -/
abbrev Blk := Nat × Option Nat
def Blk.off (g : Blk) : Nat := g.2.getD 0
@[simp] theorem Blk.off_own (b : Nat) : Blk.off (b, none) = 0 := rfl
/-- Where an object lies: none: it is not made; some none: nowhere (a row without room); else its place and its room. -/
def Lc := Nat → Option (Option (Blk × Nat))

def AV.rel (r : Lc) : AV → Value → Prop
  | .junk, _ => True
  | .bo x, u => u = .bool x
  | .num x, u => u = .int .i64 x
  | .int k x, u => u = .int k x
  | .u8 x, u => u = .int .u8 (x.toNat : Int)
  | .u32 x, u => u = .int .u32 (x.toNat : Int)
  | .u64 x, u => u = .int .u64 (x.toNat : Int)
  | .str x, u => u = .string ⟨x.toArray⟩
  | .val x, u => u = x
  | .ifn b, u => if b = true then ∃ t x, u = .iface t x else u = .nilIface
  | .ptr id k st j, u => ∃ (g : Blk) (c : Nat), r id = some (some (g, c)) ∧ u = .pointer (some ⟨g.1, k * st + j + g.off, none⟩)
  | .sl id k st n, u => (r id = some none ∧ k = 0 ∧ n = 0 ∧ ∃ a, u = .slice a 0 0) ∨
      ∃ (g : Blk) (c o : Nat), r id = some (some (g, c)) ∧ k + n ≤ c ∧ (k < c → o = k * st + g.off) ∧ u = .slice (some ⟨g.1, o, none⟩) n (c - k)

/-- Two lists, member by member. -/
def All2 {α β : Type} (R : α → β → Prop) : List α → List β → Prop
  | [], [] => True
  | a :: x, b :: y => R a b ∧ All2 R x y
  | _, _ => False

inductive CV where
  | one (x : AV)
  | agg (xs : List AV)

def CV.rel (r : Lc) : CV → Value → Prop
  | .one x, u => x.rel r u
  | .agg xs, u => ∃ cs : List Value, u = .agg cs.toArray ∧ All2 (AV.rel r) xs cs

def CV.cells : CV → List AV
  | .one x => [x]
  | .agg xs => xs

inductive SV where
  | c (x : CV)
  | tup (xs : List CV)

def SV.rel (r : Lc) : SV → Value → Prop
  | .c x, u => x.rel r u
  | .tup xs, u => ∃ cs : List Value, u = .tuple cs.toArray ∧ All2 (CV.rel r) xs cs

section
variable {α β : Type} {R R' : α → β → Prop}
theorem All2.mono (h : ∀ a b, R a b → R' a b) : ∀ {x : List α} {y : List β}, All2 R x y → All2 R' x y
  | [], [], _ => trivial
  | _ :: _, _ :: _, ⟨h1, h2⟩ => ⟨h _ _ h1, All2.mono h h2⟩
theorem All2.length : ∀ {x : List α} {y : List β}, All2 R x y → x.length = y.length
  | [], [], _ => rfl
  | _ :: _, _ :: _, ⟨_, h2⟩ => by simp [All2.length h2]
theorem All2.get : ∀ {x : List α} {y : List β}, All2 R x y → ∀ (j : Nat) a, x[j]? = some a → ∃ b, y[j]? = some b ∧ R a b
  | [], [], _, j, a, h => by simp at h
  | a' :: x, b :: y, ⟨h1, h2⟩, 0, a, h => by simp at h; subst h; exact ⟨b, by simp, h1⟩
  | _ :: _, _ :: _, ⟨_, h2⟩, j + 1, a, h => by
    obtain ⟨b, hb, hr⟩ := All2.get h2 j a (by simpa using h)
    exact ⟨b, by simpa using hb, hr⟩
theorem All2.of_get : ∀ {x : List α} {y : List β}, x.length = y.length → (∀ (j : Nat) a b, x[j]? = some a → y[j]? = some b → R a b) → All2 R x y
  | [], [], _, _ => trivial
  | [], _ :: _, h, _ => by simp at h
  | _ :: _, [], h, _ => by simp at h
  | a :: x, b :: y, h, hr => ⟨hr 0 a b (by simp) (by simp), All2.of_get (by simpa using h) (fun j a' b' h1 h2 => hr (j + 1) a' b' (by simpa using h1) (by simpa using h2))⟩
theorem All2.append : ∀ {x x' : List α} {y y' : List β}, All2 R x y → All2 R x' y' → All2 R (x ++ x') (y ++ y')
  | [], _, [], _, _, h => h
  | _ :: _, _, _ :: _, _, ⟨h1, h2⟩, h => ⟨h1, All2.append h2 h⟩
theorem All2.map {γ : Type} {f : γ → α} {g : γ → β} {x : List γ} (h : ∀ c ∈ x, R (f c) (g c)) : All2 R (x.map f) (x.map g) := by
  induction x with
  | nil => trivial
  | cons a x ih => exact ⟨h a (by simp), ih fun c hc => h c (by simp [hc])⟩
theorem All2.take : ∀ (n : Nat) {x : List α} {y : List β}, All2 R x y → All2 R (x.take n) (y.take n)
  | 0, _, _, _ => by simp [All2]
  | _ + 1, [], [], _ => by simp [All2]
  | n + 1, _ :: _, _ :: _, ⟨h1, h2⟩ => by simp only [List.take_succ_cons]; exact ⟨h1, All2.take n h2⟩
theorem All2.drop : ∀ (n : Nat) {x : List α} {y : List β}, All2 R x y → All2 R (x.drop n) (y.drop n)
  | 0, _, _, h => h
  | _ + 1, [], [], _ => by simp [All2]
  | n + 1, _ :: _, _ :: _, ⟨_, h2⟩ => by simp only [List.drop_succ_cons]; exact All2.drop n h2
theorem All2.set : ∀ (n : Nat) {x : List α} {y : List β} {a : α} {b : β}, All2 R x y → R a b → All2 R (x.set n a) (y.set n b)
  | _, [], [], _, _, _, _ => by simp [All2]
  | 0, _ :: _, _ :: _, _, _, ⟨_, h2⟩, h => ⟨h, h2⟩
  | n + 1, _ :: _, _ :: _, _, _, ⟨h1, h2⟩, h => ⟨h1, All2.set n h2 h⟩
theorem All2.replicate (n : Nat) {a : α} {b : β} (h : R a b) : All2 R (List.replicate n a) (List.replicate n b) := by
  induction n with
  | zero => simp [All2]
  | succ n ih => simp only [List.replicate_succ]; exact ⟨h, ih⟩
end

/-- What is made later leaves what was made. -/
def Lc.le (r r' : Lc) : Prop := ∀ id p, r id = some p → r' id = some p
theorem Lc.le_refl (r : Lc) : r.le r := fun _ _ h => h
theorem Lc.le_trans {a b c : Lc} (h : a.le b) (h' : b.le c) : a.le c := fun _ _ hp => h' _ _ (h _ _ hp)
section
variable {r r' : Lc}
theorem AV.rel_le (h : r.le r') : ∀ {x : AV} {u : Value}, x.rel r u → x.rel r' u
  | .junk, _, _ => trivial
  | .bo _, _, e => e
  | .num _, _, e => e
  | .int _ _, _, e => e
  | .u8 _, _, e => e
  | .u32 _, _, e => e
  | .u64 _, _, e => e
  | .str _, _, e => e
  | .val _, _, e => e
  | .ifn _, _, e => e
  | .ptr .., _, ⟨g, c, h1, h2⟩ => ⟨g, c, h _ _ h1, h2⟩
  | .sl .., _, .inl ⟨h1, h2⟩ => .inl ⟨h _ _ h1, h2⟩
  | .sl .., _, .inr ⟨g, c, o, h1, h2⟩ => .inr ⟨g, c, o, h _ _ h1, h2⟩
theorem CV.rel_le (h : r.le r') : ∀ {x : CV} {u : Value}, x.rel r u → x.rel r' u
  | .one _, _, e => AV.rel_le h e
  | .agg _, _, ⟨cs, h1, h2⟩ => ⟨cs, h1, h2.mono fun _ _ => AV.rel_le h⟩
theorem SV.rel_le (h : r.le r') : ∀ {x : SV} {u : Value}, x.rel r u → x.rel r' u
  | .c _, _, e => CV.rel_le h e
  | .tup _, _, ⟨cs, h1, h2⟩ => ⟨cs, h1, h2.mono fun _ _ => CV.rel_le h⟩
end
/-- Other numbers for the objects. -/
def AV.ren (f : Nat → Nat) : AV → AV
  | .ptr id k st j => .ptr (f id) k st j
  | .sl id k st n => .sl (f id) k st n
  | x => x
def CV.ren (f : Nat → Nat) : CV → CV
  | .one x => .one (x.ren f)
  | .agg xs => .agg (xs.map (AV.ren f))
def SV.ren (f : Nat → Nat) : SV → SV
  | .c x => .c (x.ren f)
  | .tup xs => .tup (xs.map (CV.ren f))
def Lc.pull (r : Lc) (f : Nat → Nat) : Lc := fun id => r (f id)
theorem AV.rel_ren (r : Lc) (f : Nat → Nat) (x : AV) (u : Value) : (x.ren f).rel r u ↔ x.rel (r.pull f) u := by cases x <;> rfl
theorem All2.map_left {α β γ : Type} {R : α → β → Prop} {f : γ → α} : ∀ {x : List γ} {y : List β}, All2 R (x.map f) y ↔ All2 (fun c b => R (f c) b) x y
  | [], [] => Iff.rfl
  | [], _ :: _ => Iff.rfl
  | _ :: _, [] => Iff.rfl
  | _ :: x, _ :: y => by simp only [List.map_cons, All2, All2.map_left (x := x) (y := y)]
theorem CV.rel_ren (r : Lc) (f : Nat → Nat) (x : CV) (u : Value) : (x.ren f).rel r u ↔ x.rel (r.pull f) u := by
  cases x with
  | one x => exact AV.rel_ren r f x u
  | agg xs => simp only [CV.ren, CV.rel, All2.map_left, AV.rel_ren]
theorem SV.rel_ren (r : Lc) (f : Nat → Nat) (x : SV) (u : Value) : (x.ren f).rel r u ↔ x.rel (r.pull f) u := by
  cases x with
  | c x => exact CV.rel_ren r f x u
  | tup xs => simp only [SV.ren, SV.rel, All2.map_left, CV.rel_ren]
/-- A cell holds one value alone. -/
theorem AV.rel_one {r : Lc} {x : AV} {u : Value} (h : match x with | .junk => False | .val y => y.oneCell' = true | _ => True) (hj : x.rel r u) : u.oneCell' = true := by
  cases x <;> simp only [AV.rel] at hj
  case junk => exact h.elim
  case val y => subst hj; exact h
  case ptr => obtain ⟨_, _, _, rfl⟩ := hj; rfl
  case ifn b =>
    cases b
    · have hj : u = .nilIface := by simpa using hj
      subst hj; rfl
    · obtain ⟨t, x, rfl⟩ : ∃ t x, u = .iface t x := by simpa using hj
      rfl
  case sl => rcases hj with ⟨_, _, _, _, rfl⟩ | ⟨_, _, _, _, _, _, rfl⟩ <;> rfl
  all_goals subst hj; rfl
end Go.Proofs.YtdkogjjebbdngaaDoor
