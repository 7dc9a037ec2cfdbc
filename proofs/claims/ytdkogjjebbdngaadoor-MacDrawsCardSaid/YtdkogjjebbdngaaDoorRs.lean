/-
  Rows of texts: as objects, and in contracts. It speaks of no program.
-/
import Derived.Test.YtdkogjjebbdngaaDoorSt
namespace Go.Proofs.YtdkogjjebbdngaaDoor
open Go Go.RowKit
set_option linter.unusedSimpArgs false
set_option linter.unusedVariables false
def strL : Lay (List UInt8) where
  st := 1
  enc x := [.str x]
  d := []
  up x j ys := match ys with
    | [.str y] => if j = 0 then some y else none
    | _ => none
  toB := none
  ofB := none
  len _ := rfl
  put x j ys y h := by
    split at h
    · split at h
      · rename_i h0; injection h with h; subst h; subst h0; simp
      · cases h
    · cases h
  plain x v h := by simp at h; subst h; trivial
  bare x v h := by simp at h; subst h; trivial
  toB_ok f h x := by cases h
  ofB_ok f h x := by cases h
theorem strL_st : strL.st = 1 := rfl
theorem strL_d : strL.d = [] := rfl
theorem strL_enc (x : List UInt8) : strL.enc x = [.str x] := rfl
theorem strL_up (x y : List UInt8) : strL.up x 0 [.str y] = some y := rfl
theorem str_flat (l : List (List UInt8)) : l.flatMap strL.enc = l.map .str := by
  show l.flatMap (fun x => [AV.str x]) = _
  induction l with
  | nil => rfl
  | cons x l ih => rw [List.flatMap_cons, ih]; rfl
def toS : AV → List UInt8
  | .str x => x
  | _ => []
def strsOf (o : SObj) : List (List UInt8) := o.flat.map toS
def rowS (o : SObj) : Prop := o.live = true ∧ o.stride = 1 ∧ o.flat = (strsOf o).map .str
theorem strsOf_arr (l : List (List UInt8)) : strsOf (.arr _ strL l) = l := by
  unfold strsOf
  show (l.flatMap strL.enc).map toS = l
  rw [str_flat, List.map_map]
  conv => rhs; rw [← List.map_id l]
  exact List.map_congr_left fun x _ => rfl
theorem strsOf_cells (s : Nat) (xs : List AV) : strsOf (.cells s xs) = xs.map toS := rfl
theorem rowS_arr (l : List (List UInt8)) : rowS (.arr _ strL l) = True := by
  refine propext ⟨fun _ => trivial, fun _ => ⟨rfl, rfl, ?_⟩⟩
  rw [strsOf_arr]
  exact str_flat l
theorem rowS_cells (xs : List AV) : rowS (.cells 1 xs) = (xs = (xs.map toS).map .str) :=
  propext ⟨fun h => h.2.2, fun h => ⟨rfl, rfl, h⟩⟩
theorem simE_rowS {o : SObj} (h : rowS o) (w : Bool) : SimE ⟨.arr _ strL (strsOf o), w⟩ ⟨o, w⟩ := ⟨h.1.symm, h.2.1.symm, (str_flat _).trans h.2.2.symm, rfl⟩
theorem SimH.refl (l : List (Nat × Ent)) : SimH l l := fun id => ⟨fun e he => ⟨e, he, .refl _⟩, fun h => h⟩
def hpN (i : Nat) (news : List SObj) : List (Nat × Ent) := numb i (news.map fun o => ⟨o, true⟩)
theorem hpN_nil (i : Nat) : hpN i [] = [] := rfl
theorem hpN_cons (i : Nat) (o : SObj) (l : List SObj) : hpN i (o :: l) = (i, ⟨o, true⟩) :: hpN (i + 1) l := rfl
theorem numb_append {β : Type _} : ∀ (l m : List β) (i : Nat), numb i (l ++ m) = numb i l ++ numb (i + l.length) m
  | [], m, i => rfl
  | x :: l, m, i => by
    simp only [List.cons_append, numb, List.length_cons]
    rw [numb_append l m (i + 1), show i + 1 + l.length = i + (l.length + 1) by omega]
theorem aset_numb {β : Type _} (l : List β) (e : β) : ∀ (i : Nat), aset (numb i l) (i + l.length) e = numb i (l ++ [e]) := by
  induction l with
  | nil => intro i; rfl
  | cons x l ih =>
    intro i
    simp only [numb, List.cons_append, List.length_cons, aset]
    rw [if_neg (by omega), if_neg (by omega), show i + (l.length + 1) = i + 1 + l.length by omega, ih]
theorem newAll_numb (n : Nat) : ∀ (news : List SObj) (l : List Ent) (m : Nat), l.length = n + m → newAll (fun k => n + k) (numb 0 l) m news = numb 0 (l ++ news.map fun o => ⟨o, true⟩)
  | [], l, m, _ => by simp [newAll]
  | o :: news, l, m, h => by
    have := aset_numb l (⟨o, true⟩ : Ent) 0
    rw [Nat.zero_add] at this
    rw [newAll, ← h, this, newAll_numb n news _ (m + 1) (by simp; omega)]
    simp
theorem post_news (es : List Ent) (news : List SObj) : Con.post es [] news = numb 0 (es ++ news.map fun o => ⟨o, true⟩) := by
  unfold Con.post
  rw [setAllH_nil]
  exact newAll_numb es.length news es 0 rfl
/-- Contracts that read rows of texts, and make objects. -/
def conS (F : List CV → List (List (List UInt8)) → Option (SV × List SObj × List Prop)) : Con := ⟨false, fun args os => match F args (os.map strsOf) with
  | some (v, news, ob) => some (v, [], news, os.map rowS ++ ob)
  | none => none⟩
theorem AllT_map {α : Type _} {p : α → Prop} : ∀ {l : List α}, AllT (l.map p) → ∀ x ∈ l, p x
  | [], _, x, h => by cases h
  | y :: l, ⟨h1, h2⟩, x, h => by
    rcases List.mem_cons.1 h with rfl | h
    · exact h1
    · exact AllT_map h2 x h
section
variable {P : Program} {G : List GFact} {f : FuncId} {fn : Func}
theorem conS_ok (hf : P.funcs[f]? = some fn) (hb : fn.body.isSome = true) (hn : (fn.name == "runtime.NumGoroutine") = false) {F : List CV → List (List (List UInt8)) → Option (SV × List SObj × List Prop)}
    (h0 : ∀ args v news ob, F args [] = some (v, news, ob) → AllT ob → TriG P G f args [] v (hpN 0 news))
    (h1 : ∀ args a v news ob, F args [a] = some (v, news, ob) → AllT ob → ∀ wa, TriG P G f args [(0, ⟨.arr _ strL a, wa⟩)] v ((0, ⟨.arr _ strL a, wa⟩) :: hpN 1 news))
    (h2 : ∀ args a b v news ob, F args [a, b] = some (v, news, ob) → AllT ob → ∀ wa wb, TriG P G f args [(0, ⟨.arr _ strL a, wa⟩), (1, ⟨.arr _ strL b, wb⟩)] v ((0, ⟨.arr _ strL a, wa⟩) :: (1, ⟨.arr _ strL b, wb⟩) :: hpN 2 news))
    (h3 : ∀ args a b c l, F args (a :: b :: c :: l) = none) : ConOkG P G f (conS F) := by
  refine .inl ⟨⟨fn, hf, hb, hn⟩, fun args es res upd news ob hr hob _ => ?_⟩
  unfold conS at hr
  simp only at hr
  cases hF : F args ((es.map (·.o)).map strsOf) with
  | none => rw [hF] at hr; cases hr
  | some q =>
    obtain ⟨v, nw, ob'⟩ := q
    simp only [hF, Option.some.injEq, Prod.mk.injEq] at hr
    obtain ⟨rfl, rfl, rfl, rfl⟩ := hr
    obtain ⟨o1, o2⟩ := AllT.append.1 hob
    rw [post_news]
    match es, hF, o1 with
    | [], hF, _ => exact h0 args _ _ _ hF o2
    | [e], hF, o1 =>
      have s1 := simE_rowS o1.1 e.wr
      exact (h1 args _ _ _ _ hF o2 e.wr).sim (.cons s1 .nil) (.cons s1 (.refl _))
    | [e, e'], hF, o1 =>
      have s1 := simE_rowS o1.1 e.wr
      have s2 := simE_rowS o1.2.1 e'.wr
      exact (h2 args _ _ _ _ _ hF o2 e.wr e'.wr).sim (.cons s1 (.cons s2 .nil)) (.cons s1 (.cons s2 (.refl _)))
    | _ :: _ :: _ :: _, hF, _ =>
      simp only [List.map_cons] at hF
      rw [h3] at hF
      cases hF
end
/-- A row that may be nil. -/
def rowAV {α : Type} (id : Nat) (l : List α) : AV := if l.isEmpty then .val (.slice none 0 0) else .sl id 0 1 l.length
end Go.Proofs.YtdkogjjebbdngaaDoor
