/-
  A walk by reckoning, part 7: loads and stores. It speaks of no program.
-/
import Derived.Test.YtdkogjjebbdngaaDoorSd
namespace Go.Proofs.YtdkogjjebbdngaaDoor
open Go Go.RowKit
set_option linter.unusedVariables false
set_option linter.unusedSimpArgs false

theorem getAll_one {hp : List (Nat × Ent)} {id : Nat} {es : List Ent} (h : getAll hp [id] = some es) : ∃ e, aget hp id = some e ∧ es = [e] := by
  simp only [getAll] at h
  cases he : aget hp id with
  | none => rw [he] at h; cases h
  | some e => rw [he] at h; injection h with h; exact ⟨e, rfl, h.symm⟩
/-- Where an address lies in an object, in cells; and what stands there. -/
def readAt (o : SObj) (k st j z : Nat) : Option (List AV × List Prop) :=
  match o with
  | .cells _ xs => some ((xs.drop (k * st + j)).take z, [k * st + j + z ≤ xs.length])
  | .arr _ L l => if st = 0 then (if j = 0 then some (l.flatMap L.enc, [l.length * L.st = z]) else none)
      else if st = L.st then some (((L.enc (l.getD k L.d)).drop j).take z, [k < l.length ∧ j + z ≤ L.st]) else none
  | .dead => none
def writeAt (o : SObj) (k st j : Nat) (ys : List AV) : Option (SObj × List Prop) :=
  match o with
  | .cells s xs => some (.cells s (xs.take (k * st + j) ++ ys ++ xs.drop (k * st + j + ys.length)), [k * st + j + ys.length ≤ xs.length])
  | .arr α L l => if st = 0 then (if j = 0 then some (.cells L.st ys, [l.length * L.st = ys.length]) else none)
      else if st = L.st then (match L.up (l.getD k L.d) j ys with
        | some y => some (.arr α L (l.set k y), [k < l.length])
        | none => none) else none
  | .dead => none
theorem flat_length {α : Type} (L : Lay α) (l : List α) : (l.flatMap L.enc).length = l.length * L.st := by
  induction l with
  | nil => simp
  | cons x l ih => rw [List.flatMap_cons, List.length_append, ih, L.len, List.length_cons, Nat.add_mul, Nat.one_mul]; omega
theorem flat_at {α : Type} (L : Lay α) : ∀ (l : List α) (k : Nat), k < l.length → ((l.flatMap L.enc).drop (k * L.st)).take L.st = L.enc (l.getD k L.d)
  | [], _, h => by simp at h
  | x :: l, 0, _ => by
    rw [Nat.zero_mul, List.drop_zero, List.flatMap_cons, List.take_append_of_le_length (by rw [L.len]; exact Nat.le_refl _), List.take_of_length_le (by rw [L.len]; exact Nat.le_refl _)]; rfl
  | x :: l, k + 1, h => by
    have := flat_at L l k (by simpa using h)
    rw [List.flatMap_cons, Nat.add_mul, Nat.one_mul, List.drop_append, List.drop_eq_nil_of_le (by rw [L.len]; omega), List.nil_append, L.len, Nat.add_sub_cancel]
    exact this
theorem flat_set {α : Type} (L : Lay α) : ∀ (l : List α) (k : Nat) (y : α), k < l.length → (l.set k y).flatMap L.enc = (l.flatMap L.enc).take (k * L.st) ++ L.enc y ++ (l.flatMap L.enc).drop (k * L.st + L.st)
  | [], _, _, h => by simp at h
  | x :: l, 0, y, _ => by
    rw [Nat.zero_mul, List.take_zero, List.nil_append, Nat.zero_add, List.set_cons_zero, List.flatMap_cons, List.flatMap_cons, List.drop_append, List.drop_eq_nil_of_le (by rw [L.len]; exact Nat.le_refl _), L.len, Nat.sub_self, List.drop_zero, List.nil_append]
  | x :: l, k + 1, y, h => by
    have := flat_set L l k y (by simpa using h)
    rw [List.set_cons_succ, List.flatMap_cons, List.flatMap_cons, this]
    generalize l.flatMap L.enc = f
    have a1 : (L.enc x ++ f).take ((k + 1) * L.st) = L.enc x ++ f.take (k * L.st) := by
      rw [List.take_append, List.take_of_length_le (by rw [L.len, Nat.add_mul]; omega), L.len, Nat.add_mul, Nat.one_mul, Nat.add_sub_cancel]
    have a2 : (L.enc x ++ f).drop ((k + 1) * L.st + L.st) = f.drop (k * L.st + L.st) := by
      rw [List.drop_append, List.drop_eq_nil_of_le (by rw [L.len]; omega), List.nil_append, L.len, Nat.add_mul, Nat.one_mul, Nat.add_sub_cancel]
    rw [a1, a2]
    simp only [List.append_assoc]
theorem readAt_flat {o : SObj} {k st j z : Nat} {ys : List AV} {ob : List Prop} (h : readAt o k st j z = some (ys, ob)) (hob : AllT ob) (h0 : st = 0 → k * st = 0) : o.live = true ∧ k * st + j + z ≤ o.flat.length ∧ ys = (o.flat.drop (k * st + j)).take z := by
  cases o with
  | cells s xs =>
    simp only [readAt, Option.some.injEq, Prod.mk.injEq] at h
    obtain ⟨rfl, rfl⟩ := h
    exact ⟨rfl, hob.1, rfl⟩
  | dead => simp [readAt] at h
  | arr α L l =>
    simp only [readAt] at h
    by_cases hs : st = 0
    · rw [if_pos hs] at h
      split at h
      · rename_i hj
        simp only [Option.some.injEq, Prod.mk.injEq] at h
        obtain ⟨rfl, rfl⟩ := h
        subst hs; subst hj
        have hz : l.length * L.st = z := hob.1
        refine ⟨rfl, by show _ ≤ (l.flatMap L.enc).length; rw [flat_length]; omega, ?_⟩
        show _ = ((l.flatMap L.enc).drop (k * 0 + 0)).take z
        rw [Nat.mul_zero, List.drop_zero, List.take_of_length_le (by rw [flat_length]; omega)]
      · cases h
    · rw [if_neg hs] at h
      split at h
      · rename_i hL
        simp only [Option.some.injEq, Prod.mk.injEq] at h
        obtain ⟨rfl, rfl⟩ := h
        subst hL
        obtain ⟨hk, hjz⟩ := hob.1
        have hm : k * L.st + L.st ≤ l.length * L.st := by
          have := Nat.mul_le_mul_right L.st hk
          rwa [Nat.succ_mul] at this
        refine ⟨rfl, by show _ ≤ (l.flatMap L.enc).length; rw [flat_length]; omega, ?_⟩
        show _ = ((l.flatMap L.enc).drop (k * L.st + j)).take z
        rw [← flat_at L l k hk, List.drop_take, List.take_take, List.drop_drop, Nat.min_eq_left (by omega)]
      · cases h
theorem writeAt_flat {o o' : SObj} {k st j : Nat} {ys : List AV} {ob : List Prop} (h : writeAt o k st j ys = some (o', ob)) (hob : AllT ob) : o.live = true ∧ o'.live = true ∧ o'.stride = o.stride ∧ k * st + j + ys.length ≤ o.flat.length ∧
    o'.flat = o.flat.take (k * st + j) ++ ys ++ o.flat.drop (k * st + j + ys.length) := by
  cases o with
  | cells s xs =>
    simp only [writeAt, Option.some.injEq, Prod.mk.injEq] at h
    obtain ⟨rfl, rfl⟩ := h
    exact ⟨rfl, rfl, rfl, hob.1, rfl⟩
  | dead => simp [writeAt] at h
  | arr α L l =>
    simp only [writeAt] at h
    by_cases hs : st = 0
    · rw [if_pos hs] at h
      split at h
      · rename_i hj
        simp only [Option.some.injEq, Prod.mk.injEq] at h
        obtain ⟨rfl, rfl⟩ := h
        subst hs; subst hj
        have hz : l.length * L.st = ys.length := hob.1
        have hl := flat_length L l
        refine ⟨rfl, rfl, rfl, by show _ ≤ (l.flatMap L.enc).length; omega, ?_⟩
        show ys = (l.flatMap L.enc).take (k * 0 + 0) ++ ys ++ (l.flatMap L.enc).drop (k * 0 + 0 + ys.length)
        rw [Nat.mul_zero, List.take_zero, List.drop_eq_nil_of_le (by omega)]; simp
      · cases h
    · rw [if_neg hs] at h
      split at h
      · rename_i hL
        split at h
        · rename_i y hy
          simp only [Option.some.injEq, Prod.mk.injEq] at h
          obtain ⟨rfl, rfl⟩ := h
          subst hL
          have hk : k < l.length := hob.1
          obtain ⟨p1, p2⟩ := L.put _ _ _ _ hy
          have hm : k * L.st + L.st ≤ l.length * L.st := by
            have := Nat.mul_le_mul_right L.st hk
            rwa [Nat.succ_mul] at this
          have hl := flat_length L l
          refine ⟨rfl, rfl, rfl, by show _ ≤ (l.flatMap L.enc).length; omega, ?_⟩
          show (l.set k y).flatMap L.enc = (l.flatMap L.enc).take (k * L.st + j) ++ ys ++ (l.flatMap L.enc).drop (k * L.st + j + ys.length)
          rw [flat_set L l k y hk, p2, ← flat_at L l k hk]
          generalize l.flatMap L.enc = f at hl ⊢
          have e1 : (f.drop (k * L.st)).take L.st = (f.take (k * L.st + L.st)).drop (k * L.st) := by rw [List.drop_take]; congr 1; omega
          apply List.ext_getElem?
          intro i
          simp only [List.getElem?_append, List.length_append, List.length_take, List.length_drop, List.getElem?_take, List.getElem?_drop]
          repeat' split
          all_goals first
            | rfl
            | (exfalso; omega)
            | (congr 1; omega)
            | (rw [List.getElem?_eq_none (by omega)])
            | (symm; rw [List.getElem?_eq_none (by omega)])
        · cases h
      · cases h
end Go.Proofs.YtdkogjjebbdngaaDoor
