/-
  Rows that are handed in: read only, from any cell of a block on. It speaks of no program.
-/
import Derived.Test.YtmmhanpfppenaaaSs
import Derived.Deep.Slices
import Derived.ChangeSame
import Derived.Carry
namespace Go.Proofs.Ytmmhanpfppenaaa
open Go Go.RowKit Go.ChangeShapes Go.WideShapes
set_option linter.unusedVariables false
set_option linter.unusedSimpArgs false

/-- Objects that are only read, under the numbers from k on. -/
def rdN : Nat → List SObj → List (Nat × Ent)
  | _, [] => []
  | k, o :: l => (k, ⟨o, false⟩) :: rdN (k + 1) l
theorem aget_rdN : ∀ (l : List SObj) (k id : Nat), aget (rdN k l) id = if k ≤ id then (l[id - k]?).map (fun o => (⟨o, false⟩ : Ent)) else none
  | [], k, id => by simp [rdN, aget]
  | o :: l, k, id => by
    unfold rdN aget
    by_cases h : k = id
    · subst h; simp
    · rw [if_neg h, aget_rdN l (k + 1) id]
      by_cases h2 : k + 1 ≤ id
      · rw [if_pos h2, if_pos (by omega), show id - k = (id - (k + 1)) + 1 by omega]; simp
      · rw [if_neg h2, if_neg (by omega)]
def lcOf (ps : List (Option (Blk × Nat))) : Lc := fun id => ps[id]?
/-- What it means for a caller outside who hands rows in: memory below is as it was. -/
theorem tri_callsR {P : Program} {G : List GFact} {f : FuncId} {args : List CV} {os : List SObj} {res : SV} {hp' : List (Nat × Ent)} (h : TriG P G f args (rdN 0 os) res hp') (w : World) (ps : List (Option (Blk × Nat))) (hl : ps.length = os.length)
    (ho : ∀ (i : Nat) o p, os[i]? = some o → ps[i]? = some p → ∀ r, ObjRel r w p o) {vals : List Value} (hv : All2 (CV.rel (lcOf ps)) args vals) (hg : ∀ f ∈ G, f.p w) :
    Calls P f vals.toArray w fun e w' => ∃ u r', e = .returned u ∧ res.rel r' u ∧ Below w.heap.size w w' := by
  have hwr : ∀ id e, aget (rdN 0 os) id = some e → e.wr = false := fun id e he => by
    rw [aget_rdN] at he
    simp only [Nat.zero_le, if_true, Nat.sub_zero, Option.map_eq_some_iff] at he
    obtain ⟨o, _, rfl⟩ := he
    rfl
  have hno : ∀ b, ¬ (cw G (lcOf ps) (rdN 0 os) w).wb b := fun b ⟨id, e, g, c, h1, h2, _⟩ => by
    rw [hwr id e h1] at h2; cases h2
  have hh : HeapOk (cw G (lcOf ps) (rdN 0 os) w) (lcOf ps) (rdN 0 os) w := {
    dom := fun id => by
      rw [aget_rdN]
      simp only [Nat.zero_le, if_true, Nat.sub_zero, lcOf, Option.map_eq_none_iff, List.getElem?_eq_none_iff, hl]
    obj := fun id e p he hp => by
      rw [aget_rdN] at he
      simp only [Nat.zero_le, if_true, Nat.sub_zero, Option.map_eq_some_iff] at he
      obtain ⟨o, h1, rfl⟩ := he
      exact ho id o p h1 hp _
    inj := fun i j e f g g' c d hi hj li lj ri rj wi => by rw [hwr i e hi] at wi; cases wi
    own := fun id e g c he hl hw => by rw [hwr id e he] at hw; cases hw
    glob := fun f hf => ⟨hg f hf, hno _⟩
    os := rfl
    tape := rfl
    output := rfl
    size := Nat.le_refl _
    same := fun _ _ _ => rfl }
  exact (h _ w vals hv hh).mono fun e w' ⟨u, r', h1, _, h2, h3⟩ => ⟨u, r', h1, h2, h3.os, h3.tape, h3.output, h3.size, fun b hb => h3.same b hb (hno b)⟩
/-- A row that was handed in: where it lies, and that it is it. -/
structure ArgR (w : World) (o : SObj) (st n : Nat) (v : Value) (p : Option (Blk × Nat)) : Prop where
  obj : ∀ r, ObjRel r w p o
  rel : ∀ (r : Lc) id, r id = some p → AV.rel r (.sl id 0 st n) v
theorem argR_nil {w : World} {α : Type} {L : Lay α} {st : Nat} {a : Option Addr} : ArgR w (.arr α L []) st 0 (.slice a 0 0) none :=
  ⟨fun r _ => .inl ⟨rfl, rfl⟩, fun r id h => .inl ⟨h, rfl, rfl, a, rfl⟩⟩
theorem argR_some {w : World} {a : Addr} {len cap st : Nat} {o : SObj} (hs : o.stride = st) (hst : 0 < st) (hlc : len ≤ cap) (hfl : o.flat.length = len * st) (hin : ∀ j, j < cap * st → ∃ u, w.cell? (a.add j) = some u)
    (hcell : ∀ (j : Nat) x, o.flat[j]? = some x → ∃ u, w.cell? (a.add j) = some u ∧ ∀ r, x.rel r u) : ∃ p, ArgR w o st len (.slice (some a) len cap) p := by
  rcases Nat.eq_zero_or_pos cap with h0 | h0
  · subst h0
    have hn : len = 0 := by omega
    subst hn
    have hf : o.flat = [] := List.eq_nil_of_length_eq_zero (by simpa using hfl)
    exact ⟨none, fun r _ => .inl ⟨rfl, hf⟩, fun r id h => .inl ⟨h, rfl, rfl, some a, rfl⟩⟩
  · have hpos : 0 < cap * st := Nat.mul_pos h0 hst
    obtain ⟨u0, hu0⟩ := hin 0 hpos
    rw [Addr.add, if_pos rfl] at hu0
    obtain ⟨b, off, spot⟩ := a
    unfold World.cell? at hu0
    split at hu0
    case h_2 => cases hu0
    rename_i ds t fz hds
    have hspot : spot = none := by
      cases spot with
      | none => rfl
      | some s => simp at hu0
    subst hspot
    have hc : ∀ j, w.cell? ((⟨b, off, none⟩ : Addr).add j) = ds[off + j]? := fun j => by
      rw [Addr.add_plain]
      exact cell_of_row w b (off + j) ds t fz hds
    have hlast : off + cap * st ≤ ds.size := by
      obtain ⟨u, hu⟩ := hin (cap * st - 1) (by omega)
      rw [hc] at hu
      have := (Array.getElem?_eq_some_iff.1 hu).1
      omega
    refine ⟨some ((b, some off), cap), fun r _ => .inr ⟨(b, some off), cap, ds.extract off ds.size, rfl, ⟨ds, t, fz, hds, fun j => ?_, fun h => by cases h⟩, ?_, fun j x hx => ?_⟩, fun r id h => .inr ⟨(b, some off), cap, off, h, by omega, fun _ => by simp [Blk.off], rfl⟩⟩
    · simp only [Blk.off, Option.getD_some, Array.getElem?_extract]
      by_cases hj : j < min ds.size ds.size - off
      · rw [if_pos hj, Nat.add_comm]
      · rw [if_neg hj, Array.getElem?_eq_none (by omega)]
    · rw [hs, Array.size_extract]; omega
    · obtain ⟨u, hu, hr⟩ := hcell j x hx
      rw [hc] at hu
      refine ⟨u, ?_, hr r⟩
      have := (Array.getElem?_eq_some_iff.1 hu).1
      rw [Array.getElem?_extract, if_pos (by omega)]
      exact hu
theorem flat_get {α : Type} (L : Lay α) (hst : 0 < L.st) : ∀ (l : List α) (j : Nat), (l.flatMap L.enc)[j]? = (l[j / L.st]?).bind fun x => (L.enc x)[j % L.st]?
  | [], j => by simp
  | x :: l, j => by
    rw [List.flatMap_cons]
    by_cases h : j < L.st
    · rw [List.getElem?_append_left (by rw [L.len]; exact h), Nat.div_eq_of_lt h, Nat.mod_eq_of_lt h]; rfl
    · obtain ⟨i, rfl⟩ : ∃ i, j = L.st + i := ⟨j - L.st, by omega⟩
      rw [List.getElem?_append_right (by rw [L.len]; omega), L.len, flat_get L hst l, Nat.add_sub_cancel_left, Nat.add_div_left _ hst, Nat.add_mod_left]
      rfl
section
variable {H : Type} {enc : TypeId × Value → H} {P : Program} {W : World}
/-- A slice among the arguments, opened as a row. -/
theorem open_row {α : Type} {L : Lay α} {T E : TypeId} {Q : α → Prop} (hT : P.underlying T = some (.slice E)) (hz : P.cellsOf E = L.st) (hst : 0 < L.st)
    (dec : ∀ (n : Nat) (cs : List Value) y, DataW.trod enc P W 0 (fun _ => true) true n E cs = some y → cs.length = L.st → ∃ x : α, Q x ∧ ∀ r, All2 (AV.rel r) (L.enc x) cs)
    {rc : Reach} {b0 : Nat} {v : Value} {d : DataW H} {ps : List MemPlace} (hval : Value.okWide P W rc b0 T v) (h : DataW.Trod enc P W 0 (fun _ => true) true T v d ps) :
    ∃ (l : List α) (p : Option (Blk × Nat)), ArgR W (.arr α L l) L.st l.length v p ∧ l.length ≤ maxLen ∧ ∀ x ∈ l, Q x := by
  obtain ⟨a0, len, cap, rfl⟩ := okWide_slice hT hval
  obtain ⟨fuel, hf⟩ := h
  rcases Deep.open_slice hT hf with ⟨hcs, _⟩ | ⟨a, len', cap', m, n, D, Pl, hcs, _, hl, hm, hmm, _, hx⟩
  · simp [Value.cells] at hcs
    obtain ⟨rfl, rfl, rfl⟩ := hcs
    exact ⟨[], none, argR_nil, Nat.zero_le _, fun x hx => by cases hx⟩
  · simp [Value.cells] at hcs
    obtain ⟨rfl, rfl, rfl⟩ := hcs
    simp only [if_true] at hmm
    subst hmm
    rw [hz] at hx
    have key : ∀ k, k ≤ m → ∃ l : List α, l.length = k ∧ (∀ x ∈ l, Q x) ∧ ∀ (i : Nat) x, l[i]? = some x → ∃ cs, W.cells? 0 (a.add (i * L.st)) L.st = some cs ∧ ∀ r, All2 (AV.rel r) (L.enc x) cs := fun k => by
      induction k with
      | zero => exact fun _ => ⟨[], rfl, (fun x h => by cases h), fun i x h => by simp at h⟩
      | succ k ih =>
        intro hk
        obtain ⟨l, h1, h2, h3⟩ := ih (by omega)
        obtain ⟨cs, h4, h5⟩ := hx k (by omega)
        obtain ⟨_, hcl, _⟩ := World.cells?_some h4
        obtain ⟨x, hq, hr⟩ := dec n cs _ h5 hcl
        refine ⟨l ++ [x], by simp [h1], fun y hy => ?_, fun i y hy => ?_⟩
        · rcases List.mem_append.1 hy with hy | hy
          · exact h2 y hy
          · rw [List.mem_singleton.1 hy]; exact hq
        · by_cases hi : i < l.length
          · rw [List.getElem?_append_left hi] at hy; exact h3 i y hy
          · rw [List.getElem?_append_right (by omega)] at hy
            have hi' : i = k := by
              have := (List.getElem?_eq_some_iff.1 hy).1
              simp at this
              omega
            subst hi'
            rw [h1, Nat.sub_self] at hy
            simp only [List.getElem?_cons_zero, Option.some.injEq] at hy
            subst hy
            exact ⟨cs, h4, hr⟩
    obtain ⟨l, h1, h2, h3⟩ := key len hl
    obtain ⟨p, hp⟩ := argR_some (w := W) (a := a) (len := len) (cap := m) (st := L.st) (o := .arr α L l) rfl hst hl (by show (l.flatMap L.enc).length = _; rw [flat_length, h1]) (fun j hj => by
      have hd : j / L.st < m := Nat.div_lt_of_lt_mul (by rw [Nat.mul_comm]; exact hj)
      obtain ⟨cs, h4, _⟩ := hx _ hd
      obtain ⟨_, hcl, hce⟩ := World.cells?_some h4
      have hmod := Nat.mod_lt j hst
      have := hce (j % L.st) hmod
      rw [Deep.add_add, Nat.div_add_mod'] at this
      rw [this, List.getElem?_eq_getElem (by omega)]
      exact ⟨_, rfl⟩) (fun j x hjx => by
      have hjx : (l.flatMap L.enc)[j]? = some x := hjx
      rw [flat_get L hst] at hjx
      obtain ⟨y, hy, hyx⟩ := Option.bind_eq_some_iff.1 hjx
      obtain ⟨cs, h4, hr⟩ := h3 _ y hy
      obtain ⟨_, hcl, hce⟩ := World.cells?_some h4
      have := hce (j % L.st) (Nat.mod_lt j hst)
      rw [Deep.add_add, Nat.div_add_mod'] at this
      obtain ⟨u, hu, _⟩ := (hr fun _ => none).get _ _ hyx
      refine ⟨u, by rw [this, hu], fun r => ?_⟩
      obtain ⟨u', hu', hr'⟩ := (hr r).get _ _ hyx
      rw [hu] at hu'
      cases hu'
      exact hr')
    refine ⟨l, p, by rw [h1]; exact hp, by omega, h2⟩
end
end Go.Proofs.Ytmmhanpfppenaaa
