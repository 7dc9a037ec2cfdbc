/-
  A walk by reckoning, part 20: what is to be shown of a function's text. It speaks of no program.
-/
import Derived.Test.YtdkogjjebbdngaaDoorSc
import Derived.Deep.LoopGhost
namespace Go.Proofs.YtdkogjjebbdngaaDoor
open Go Go.RowKit
set_option linter.unusedVariables false
set_option linter.unusedSimpArgs false

/-- From this state the code comes to its end, so. -/
def wpS (P : Program) (E : Env) (x : Code) (Q : Exit → St → Prop) (st : St) : Prop :=
  ∀ (C : Ctx) (r : Lc) (a : Act) (w : World), RepE P E C r st a w → x.wp P (fun e a' w' => ∃ st' r', Q e st' ∧ RepE P E C r' st' a' w') a w
def thenS (next : St → Prop) (Q : Exit → St → Prop) : Exit → St → Prop
  | .normal, st => next st
  | e, st => Q e st
def inBlockS (id : Nat) (Q : Exit → St → Prop) : Exit → St → Prop
  | .exit id', st => if id' = id then Q .normal st else Q (.exit id') st
  | e, st => Q e st
/-- Objects made in region id have the numbers from here on. -/
def baseOf (id : Nat) (hp : List (Nat × Ent)) : Nat := if (hp.any fun p => p.1 / 10000 == id + 1) = true then 10000 * (id + 1) + 10000000 * hp.length else 10000 * (id + 1)
/-- In whatever order the region runs: looked at, not reckoned. -/
structure DTag (ops : Array Oper) where
  c : Nat
  lg : List Log
def ckDraw {ops : Array Oper} (t : DTag ops) : Prop := (edgesDown ops && pairsOk ops t.c t.lg) = true
def regionS (E : Env) (id : Nat) (ops : Array Oper) (draw : Bool) (F : St → Prop) (st : St) : Prop :=
  runL (⟨baseOf id st.hp, 0, st, []⟩ : RTag E ops (fun c st' lg => (draw = true → ckDraw (⟨c, lg⟩ : DTag ops)) ∧ F st') ops.toList)
def boolOf : SV → Option Bool
  | .c (.one (.bo b)) => some b
  | _ => none
structure VTag (P : Program) (E : Env) (x : Code) (Q : Exit → St → Prop) where
  st : St
/-- A loop from this state. -/
def wpL {P : Program} {E : Env} {x : Code} {Q : Exit → St → Prop} (t : VTag P E x Q) : Prop := wpS P E x Q t.st
/-- WHAT IS TO BE SHOWN. -/
def vc {P : Program} {E : Env} : {x : Code} → {Q : Exit → St → Prop} → VTag P E x Q → Prop
  | .skip, Q, t => Q .normal t.st
  | .region id ops draw, Q, t => regionS E id ops draw (Q .normal) t.st
  | .seq x y, Q, t => vc (⟨t.st⟩ : VTag P E x (thenS (fun st => vc (⟨st⟩ : VTag P E y Q)) Q))
  | .cond c x y, Q, t => onSome (⟨boolOf (evalS E.gl t.st.fr c)⟩ : TSome (fun b => Br (⟨b⟩ : Tw (vc (⟨t.st⟩ : VTag P E x Q)) (vc (⟨t.st⟩ : VTag P E y Q)))) False)
  | .block id x, Q, t => vc (⟨t.st⟩ : VTag P E x (inBlockS id Q))
  | .loop x, Q, t => wpL (⟨t.st⟩ : VTag P E (.loop x) Q)
  | .exit id, Q, t => Q (.exit id) t.st
  | .ret, Q, t => Q .ret t.st
  | x, Q, t => wpS P E x Q t.st
section
variable {P : Program} {E : Env} {Q : Exit → St → Prop} {st : St}
theorem vc_skip : vc (⟨st⟩ : VTag P E .skip Q) = Q .normal st := propext Iff.rfl
theorem vc_region {id : Nat} {l : List Oper} {draw : Bool} : vc (⟨st⟩ : VTag P E (.region id l.toArray draw) Q) = runL (⟨baseOf id st.hp, 0, st, []⟩ : RTag E l.toArray (fun c st' lg => (draw = true → ckDraw (⟨c, lg⟩ : DTag l.toArray)) ∧ Q .normal st') l) := propext Iff.rfl
theorem vc_seq {x y : Code} : vc (⟨st⟩ : VTag P E (.seq x y) Q) = vc (⟨st⟩ : VTag P E x (thenS (fun st => vc (⟨st⟩ : VTag P E y Q)) Q)) := propext Iff.rfl
theorem vc_cond {c : Operand} {x y : Code} : vc (⟨st⟩ : VTag P E (.cond c x y) Q) = onSome (⟨boolOf (evalS E.gl st.fr c)⟩ : TSome (fun b => Br (⟨b⟩ : Tw (vc (⟨st⟩ : VTag P E x Q)) (vc (⟨st⟩ : VTag P E y Q)))) False) := propext Iff.rfl
theorem vc_block {id : Nat} {x : Code} : vc (⟨st⟩ : VTag P E (.block id x) Q) = vc (⟨st⟩ : VTag P E x (inBlockS id Q)) := propext Iff.rfl
theorem vc_loop {x : Code} : vc (⟨st⟩ : VTag P E (.loop x) Q) = wpL (⟨st⟩ : VTag P E (.loop x) Q) := propext Iff.rfl
theorem vc_exit {id : Nat} : vc (⟨st⟩ : VTag P E (.exit id) Q) = Q (.exit id) st := propext Iff.rfl
theorem vc_ret : vc (⟨st⟩ : VTag P E .ret Q) = Q .ret st := propext Iff.rfl
theorem thenS_normal {next : St → Prop} : thenS next Q .normal st = next st := propext Iff.rfl
theorem thenS_exit {next : St → Prop} {k : Nat} : thenS next Q (.exit k) st = Q (.exit k) st := propext Iff.rfl
theorem thenS_ret {next : St → Prop} : thenS next Q .ret st = Q .ret st := propext Iff.rfl
theorem inBlockS_normal {i : Nat} : inBlockS i Q .normal st = Q .normal st := propext Iff.rfl
theorem inBlockS_exit {i k : Nat} : inBlockS i Q (.exit k) st = if k = i then Q .normal st else Q (.exit k) st := propext Iff.rfl
theorem inBlockS_ret {i : Nat} : inBlockS i Q .ret st = Q .ret st := propext Iff.rfl
end
section
variable {P : Program} {E : Env} {Q : Exit → St → Prop} {st : St}
theorem wpS_region (hE : EnvOk P E) {id : Nat} {ops : Array Oper} {draw : Bool} (h : regionS E id ops draw (Q .normal) st) : wpS P E (.region id ops draw) Q st := by
  intro C r a w hrep
  have h := runL_K ops.toList 0 st [] (fun j o hj => by simpa using hj) h
  rw [← List.range_eq_range', Array.length_toList] at h
  obtain ⟨wa, st', ob, lg, _, h2, h3, h4, h5⟩ := runK_run (List.range ops.size) st [] List.nodup_range h
  have hr := h2 wa fun _ _ => rfl
  rw [List.nil_append] at h4
  cases draw with
  | false => exact wp_plain hE hr h3 hrep fun r' a' w' hrep' => ⟨st', r', h5, hrep'⟩
  | true => exact wp_draw hE hr (h4 rfl) h3 hrep fun r' a' w' hrep' => ⟨st', r', h5, hrep'⟩
theorem vc_sound (hE : EnvOk P E) : ∀ (x : Code) (Q : Exit → St → Prop) (st : St), vc (⟨st⟩ : VTag P E x Q) → wpS P E x Q st
  | .skip, Q, st, h => fun C r a w hrep => wp_skip ⟨st, r, h, hrep⟩
  | .region _ _ _, Q, st, h => wpS_region hE h
  | .seq x y, Q, st, h => fun C r a w hrep => by
    refine wp_seq ?_
    refine wp_mono (vc_sound hE x _ st h C r a w hrep) ?_
    rintro e a' w' ⟨st', r', h1, h2⟩
    cases e <;> first
      | exact vc_sound hE y Q st' h1 C r' a' w' h2
      | exact ⟨st', r', h1, h2⟩
  | .cond c x y, Q, st, h => fun C r a w hrep => by
    simp only [vc_cond, onSome, Br] at h
    split at h
    · rename_i b hb
      have hb : evalS E.gl st.fr c = .c (.one (.bo b)) := by
        unfold boolOf at hb
        split at hb
        · rename_i heq; injection hb with hb; subst hb; exact heq
        · cases hb
      have := hrep.ev c
      rw [hb] at this
      refine wp_cond (t := b) this ?_
      cases b with
      | true => exact vc_sound hE x Q st (h.1 rfl) C r a w hrep
      | false => exact vc_sound hE y Q st (h.2 rfl) C r a w hrep
    · exact h.elim
  | .block id x, Q, st, h => fun C r a w hrep => by
    refine wp_block ?_
    refine wp_mono (vc_sound hE x _ st h C r a w hrep) ?_
    rintro e a' w' ⟨st', r', h1, h2⟩
    cases e with
    | exit id' =>
      simp only [inBlockS] at h1
      simp only [Exit.inBlock]
      split
      · rename_i e; rw [if_pos e] at h1; exact ⟨st', r', h1, h2⟩
      · rename_i e; rw [if_neg e] at h1; exact ⟨st', r', h1, h2⟩
    | _ => exact ⟨st', r', h1, h2⟩
  | .loop _, _, _, h => h
  | .exit _, Q, st, h => fun C r a w hrep => wp_exit ⟨st, r, h, hrep⟩
  | .ret, Q, st, h => fun C r a w hrep => wp_ret ⟨st, r, h, hrep⟩
  | .rangeFunc .., _, _, h => h
  | .scope _, _, _, h => h
  | .label _, _, _, h => h
  | .goto _, _, _, h => h
  | .refuse _, _, _, h => h
/-- One state is as good as another. -/
def rn (g : List (Nat × Nat)) (i : Nat) : Nat := match aget g i with
  | some j => j
  | none => i
def keysOf (hp : List (Nat × Ent)) : List Nat := hp.map (·.1)
def likeV (g : List (Nat × Nat)) (ks : List Nat) (x' : SV) (x : SV) : Prop := x' = .c (.one .junk) ∨ (x'.ren (rn g) = x ∧ x'.ids.all ks.contains = true)
def likeFr (g : List (Nat × Nat)) (ks : List Nat) (fr : List (Nat × SV)) : List (Nat × SV) → Prop
  | [] => True
  | (t, x') :: l => (match aget fr t with
    | some x => likeV g ks x' x
    | none => False) ∧ likeFr g ks fr l
def likeO (g : List (Nat × Nat)) (ks : List Nat) (o' o : SObj) : Prop := match o' with
  | .dead => True
  | .arr α L l' => match o with
    | .arr β M l => SObj.arr α L l' = SObj.arr β M l
    | .cells s xs => s = L.st ∧ xs = l'.flatMap L.enc
    | .dead => False
  | .cells s' xs' => o.live = true ∧ s' = o.stride ∧ o.flat = xs'.map (AV.ren (rn g)) ∧ ∀ x ∈ xs', x.ids.all ks.contains = true
theorem bare_all {α : Type} (L : Lay α) (f : Nat → Nat) (ks : List Nat) (l : List α) : l.flatMap L.enc = (l.flatMap L.enc).map (AV.ren f) ∧ ∀ x ∈ l.flatMap L.enc, x.ids.all ks.contains = true := by
  have h : ∀ x ∈ l.flatMap L.enc, x.bare := fun x hx => by
    obtain ⟨y, _, hy⟩ := List.mem_flatMap.1 hx
    exact L.bare y x hy
  refine ⟨?_, fun x hx => ?_⟩
  · conv => lhs; rw [← List.map_id (l.flatMap L.enc)]
    exact List.map_congr_left fun x hx => (AV.bare_ren (h x hx) f).symm
  · have := h x hx
    cases x <;> first | rfl | exact this.elim
theorem likeO_or {g : List (Nat × Nat)} {ks : List Nat} {o' o : SObj} (h : likeO g ks o' o) : o' = .dead ∨ (o'.live = true ∧ o.live = true ∧ o'.stride = o.stride ∧ o.flat = o'.flat.map (AV.ren (rn g)) ∧ ∀ x ∈ o'.flat, x.ids.all ks.contains = true) := by
  cases o' with
  | dead => exact .inl rfl
  | cells s xs => exact .inr ⟨rfl, h.1, h.2.1, h.2.2.1, h.2.2.2⟩
  | arr α L l =>
    right
    cases o with
    | dead => exact h.elim
    | arr β M l2 =>
      have h : SObj.arr α L l = SObj.arr β M l2 := h
      rw [← h]
      exact ⟨rfl, rfl, rfl, bare_all L _ ks l⟩
    | cells s xs =>
      obtain ⟨h1, h2⟩ : s = L.st ∧ xs = l.flatMap L.enc := h
      subst h1; subst h2
      exact ⟨rfl, rfl, rfl, bare_all L _ ks l⟩
theorem u8L_st : u8L.st = 1 := rfl
theorem u8L_d : u8L.d = 0 := rfl
theorem u8L_enc (x : UInt8) : u8L.enc x = [.u8 x] := rfl
theorem u8L_up (x y : UInt8) : u8L.up x 0 [.u8 y] = some y := rfl
theorem u8L_toB : u8L.toB = some fun x => x := rfl
theorem u8L_ofB : u8L.ofB = some fun x => x := rfl
def likeHp (g : List (Nat × Nat)) (ks : List Nat) (hp : List (Nat × Ent)) : List (Nat × Ent) → Prop
  | [] => True
  | (i, e') :: l => (match aget hp (rn g i) with
    | some e => likeO g ks e'.o e.o ∧ (e'.wr = true → e.wr = true)
    | none => False) ∧ likeHp g ks hp l
def sortedB : List Nat → Bool
  | a :: b :: l => Nat.blt a b && sortedB (b :: l)
  | _ => true
def distB : List Nat → Bool
  | [] => true
  | a :: l => !l.contains a && distB l
def Canon (E : Env) (g : List (Nat × Nat)) (st st' : St) : Prop :=
  distB ((keysOf st'.hp).map (rn g)) = true ∧ (E.keys.all fun k => Nat.beq (rn g k) k && (keysOf st'.hp).contains k) = true ∧ (E.gl.all fun k => (keysOf st'.hp).contains (gid k) && Nat.beq (rn g (gid k)) (gid k)) = true ∧
    likeFr g (keysOf st'.hp) st.fr st'.fr ∧ likeHp g (keysOf st'.hp) st.hp st'.hp
theorem likeFr_get {g : List (Nat × Nat)} {ks : List Nat} {fr : List (Nat × SV)} : ∀ {l : List (Nat × SV)}, likeFr g ks fr l → ∀ t x', aget l t = some x' → ∃ x, aget fr t = some x ∧ likeV g ks x' x
  | [], _, t, x', h => by simp [aget] at h
  | (k, y) :: l, ⟨h1, h2⟩, t, x', h => by
    simp only [aget] at h
    split at h
    · rename_i e
      subst e
      injection h with h
      subst h
      cases hq : aget fr k with
      | none => rw [hq] at h1; exact h1.elim
      | some x => rw [hq] at h1; exact ⟨x, rfl, h1⟩
    · exact likeFr_get h2 t x' h
theorem likeHp_get {g : List (Nat × Nat)} {ks : List Nat} {hp : List (Nat × Ent)} : ∀ {l : List (Nat × Ent)}, likeHp g ks hp l → ∀ i e', aget l i = some e' → ∃ e, aget hp (rn g i) = some e ∧ likeO g ks e'.o e.o ∧ (e'.wr = true → e.wr = true)
  | [], _, t, x', h => by simp [aget] at h
  | (k, y) :: l, ⟨h1, h2⟩, t, x', h => by
    simp only [aget] at h
    split at h
    · rename_i e
      subst e
      injection h with h
      subst h
      cases hq : aget hp (rn g k) with
      | none => rw [hq] at h1; exact h1.elim
      | some x => rw [hq] at h1; exact ⟨x, rfl, h1⟩
    · exact likeHp_get h2 t x' h
theorem aget_keys {β : Type _} : ∀ (l : List (Nat × β)) (k : Nat), (aget l k = none ↔ k ∉ l.map (·.1))
  | [], k => by simp [aget]
  | (i, x) :: l, k => by
    simp only [aget, List.map_cons, List.mem_cons, not_or]
    by_cases e : i = k
    · subst e; simp
    · rw [if_neg e, aget_keys l k]
      exact ⟨fun h => ⟨fun h' => e h'.symm, h⟩, fun h => h.2⟩
theorem distB_spec : ∀ {l : List Nat}, distB l = true → l.Nodup
  | [], _ => List.nodup_nil
  | a :: l, h => by
    simp only [distB, Bool.and_eq_true, Bool.not_eq_true'] at h
    exact List.nodup_cons.2 ⟨by simpa using h.1, distB_spec h.2⟩
theorem map_inj_of_nodup {f : Nat → Nat} : ∀ {l : List Nat}, (l.map f).Nodup → ∀ a ∈ l, ∀ b ∈ l, f a = f b → a = b
  | [], _, a, h, _, _, _ => by cases h
  | x :: l, hn, a, ha, b, hb, e => by
    rw [List.map_cons, List.nodup_cons] at hn
    rcases List.mem_cons.1 ha with h1 | h1 <;> rcases List.mem_cons.1 hb with h2 | h2
    · rw [h1, h2]
    · subst h1; exact (hn.1 (by rw [e]; exact List.mem_map_of_mem h2)).elim
    · subst h2; exact (hn.1 (by rw [← e]; exact List.mem_map_of_mem h1)).elim
    · exact map_inj_of_nodup hn.2 a h1 b h2 e
/-- Where the objects lie, under their new numbers. -/
def Lc.under (r : Lc) (g : List (Nat × Nat)) (ks : List Nat) : Lc := fun i => if ks.contains i then r (rn g i) else none
theorem under_agree {r : Lc} {g : List (Nat × Nat)} {ks : List Nat} {ids : List Nat} (h : ids.all ks.contains = true) : ∀ id ∈ ids, ∀ p, (r.pull (rn g)) id = some p → (r.under g ks) id = some p := fun id hid p hp => by
  have := List.all_eq_true.1 h id hid
  simp only [Lc.under, this, if_true]
  exact hp
theorem Canon.heap {C : Ctx} {r : Lc} {w : World} {g : List (Nat × Nat)} {hp hp' : List (Nat × Ent)} (hd : distB ((keysOf hp').map (rn g)) = true) (h : likeHp g (keysOf hp') hp hp') (hh : HeapOk C r hp w) : HeapOk C (r.under g (keysOf hp')) hp' w := by
  have hk : ∀ i, (keysOf hp').contains i = true ↔ aget hp' i ≠ none := fun i => by
    rw [ne_eq, aget_keys, List.contains_iff_mem, Decidable.not_not]; rfl
  have hinj := map_inj_of_nodup (distB_spec hd)
  have hu : ∀ i e', aget hp' i = some e' → r.under g (keysOf hp') i = r (rn g i) := fun i e' he => by
    have : (keysOf hp').contains i = true := (hk i).2 (by rw [he]; simp)
    simp only [Lc.under, this, if_true]
  have hmem : ∀ i e', aget hp' i = some e' → i ∈ keysOf hp' := fun i e' he => List.contains_iff_mem.1 ((hk i).2 (by rw [he]; simp))
  exact {
    dom := fun i => by
      cases he : aget hp' i with
      | none =>
        have : ¬ (keysOf hp').contains i = true := fun hc => (hk i).1 hc he
        unfold Lc.under
        rw [if_neg this]
        simp
      | some e' =>
        obtain ⟨e, h1, _⟩ := likeHp_get h i e' he
        rw [hu i e' he]
        have := hh.dom (rn g i)
        rw [h1] at this
        simpa using this
    obj := fun i e' p he hp' => by
      obtain ⟨e, h1, h2, _⟩ := likeHp_get h i e' he
      rw [hu i e' he] at hp'
      rcases likeO_or h2 with h2 | ⟨l1, l2, hs, hf, hids⟩
      · rw [h2]; intro hl; cases hl
      · intro _
        rcases hh.obj _ e p h1 hp' l2 with ⟨a1, a2⟩ | ⟨b, c, cs, a1, a2, a3, a4⟩
        · refine .inl ⟨a1, ?_⟩
          rw [a2] at hf
          exact List.map_eq_nil_iff.1 hf.symm
        · refine .inr ⟨b, c, cs, a1, a2, by rw [hs]; exact a3, fun j x hx => ?_⟩
          obtain ⟨u, hu1, hu2⟩ := a4 j (x.ren (rn g)) (by rw [hf, List.getElem?_map, hx]; rfl)
          refine ⟨u, hu1, AV.rel_agree (under_agree (hids x (List.mem_of_getElem? hx))) ?_⟩
          rw [← AV.rel_ren]; exact hu2
    inj := fun i j e f b b' c d hi hj li lj ri rj wi hgg => by
      obtain ⟨e1, h1, h2, hw1⟩ := likeHp_get h i e hi
      obtain ⟨f1, h3, h4, _⟩ := likeHp_get h j f hj
      rw [hu i e hi] at ri
      rw [hu j f hj] at rj
      rcases likeO_or h2 with h2 | ⟨_, l2, _⟩
      · rw [h2] at li; cases li
      · rcases likeO_or h4 with h4 | ⟨_, l4, _⟩
        · rw [h4] at lj; cases lj
        · exact hinj i (hmem i e hi) j (hmem j f hj) (hh.inj _ _ e1 f1 b b' c d h1 h3 l2 l4 ri rj (hw1 wi) hgg)
    own := fun i e b c hi li hw ri => by
      obtain ⟨e1, h1, h2, h3⟩ := likeHp_get h i e hi
      rw [hu i e hi] at ri
      rcases likeO_or h2 with h2 | ⟨_, l2, _⟩
      · rw [h2] at li; cases li
      · exact hh.own _ e1 b c h1 l2 (h3 hw) ri
    os := hh.os
    tape := hh.tape
    glob := hh.glob
    output := hh.output
    size := hh.size
    same := hh.same }
theorem Canon.rep {C : Ctx} {r : Lc} {st st' : St} {a : Act} {w : World} {g : List (Nat × Nat)} (h : Canon E g st st') (hrep : RepE P E C r st a w) : ∃ r', RepE P E C r' st' a w := by
  obtain ⟨hd, hkeys, hgl, hfr, hhp⟩ := h
  refine ⟨r.under g (keysOf st'.hp), hrep.nt, hrep.defers, fun t x' hx => ?_, Canon.heap hd hhp hrep.hp, fun k hk => ?_, fun id p hp => ?_, hrep.keys, hrep.sub⟩
  · obtain ⟨x, h1, h2⟩ := likeFr_get hfr t x' hx
    rcases h2 with h2 | ⟨h2, h3⟩
    · subst h2; trivial
    · have := hrep.fr t x h1
      rw [← h2, SV.rel_ren] at this
      exact SV.rel_agree (under_agree h3) this
  · have := List.all_eq_true.1 hgl k hk
    simp only [Bool.and_eq_true] at this
    obtain ⟨b, c, hc, ho⟩ := hrep.gl k hk
    refine ⟨b, c, ?_, ho⟩
    have e : rn g (gid k) = gid k := by simpa using this.2
    simp only [Lc.under, this.1, if_true, e]
    exact hc
  · have hk := hrep.keys id (by rw [hp]; simp)
    have := List.all_eq_true.1 hkeys id hk
    simp only [Bool.and_eq_true] at this
    have e : rn g id = id := by simpa using this.1
    simp only [Lc.under, this.2, if_true, e]
    exact hrep.keep id p hp
theorem wpS_canon {x : Code} {st' : St} (g : List (Nat × Nat)) (hc : Canon E g st st') (h : wpS P E x Q st') : wpS P E x Q st := fun C r a w hrep => by
  obtain ⟨r', hr'⟩ := hc.rep hrep
  exact h C r' a w hr'
/-- A LOOP: 'inv x' at each round's head. -/
theorem wpS_loop (hE : EnvOk P E) {β : Type} {body : Code} (inv : β → St) (ok : β → Prop) (mu : β → Nat) (x0 : β) (g0 : List (Nat × Nat)) (hx : ok x0) (h0 : Canon E g0 st (inv x0))
    (round : ∀ x, ok x → vc (⟨inv x⟩ : VTag P E body (thenS (fun st' => ∃ y g, ok y ∧ mu y < mu x ∧ Canon E g st' (inv y)) Q))) : wpS P E (.loop body) Q st := fun C r a w hrep => by
  obtain ⟨r0, hr0⟩ := h0.rep hrep
  refine wp_loop_ghost (fun n a' w' => ∃ x r', ok x ∧ mu x = n ∧ RepE P E C r' (inv x) a' w') (mu x0) ⟨x0, r0, hx, rfl, hr0⟩ ?_
  rintro n a' w' ⟨x, r', hok, rfl, hrep'⟩
  refine wp_mono (vc_sound hE body _ _ (round x hok) C r' a' w' hrep') ?_
  rintro e a2 w2 ⟨st2, r2, h1, h2⟩
  cases e <;> first
    | exact ⟨st2, r2, h1, h2⟩
    | (obtain ⟨y, g, hy, hlt, hcan⟩ := h1
       obtain ⟨r3, hr3⟩ := hcan.rep h2
       exact ⟨mu y, hlt, y, r3, hy, rfl, hr3⟩)
end
theorem wrapL {n : Int} (h : -9223372036854775808 ≤ n) (h' : n ≤ 9223372036854775807) : IntKind.i64.wrap n = n := by rw [IntKind.wrap_i64]; omega
/-- A loop of so many rounds at most, each reckoned. -/
def rounds (P : Program) (E : Env) (body : Code) (Q : Exit → St → Prop) : Nat → St → Prop
  | 0, _ => False
  | n + 1, st => vc (⟨st⟩ : VTag P E body (thenS (rounds P E body Q n) Q))
theorem rounds_succ {P : Program} {E : Env} {body : Code} {Q : Exit → St → Prop} {n : Nat} {st : St} : rounds P E body Q (n + 1) st = vc (⟨st⟩ : VTag P E body (thenS (rounds P E body Q n) Q)) := propext Iff.rfl
theorem wpS_rounds {P : Program} {E : Env} {Q : Exit → St → Prop} {st : St} (hE : EnvOk P E) {body : Code} (n : Nat) (h : rounds P E body Q n st) : wpS P E (.loop body) Q st := fun C r a w hrep => by
  refine wp_loop_ghost (fun k a' w' => ∃ st' r', rounds P E body Q k st' ∧ RepE P E C r' st' a' w') n ⟨st, r, h, hrep⟩ ?_
  rintro k a' w' ⟨st', r', hk, hrep'⟩
  cases k with
  | zero => exact hk.elim
  | succ k =>
    refine wp_mono (vc_sound hE body _ _ hk C r' a' w' hrep') ?_
    rintro e a2 w2 ⟨st2, r2, h1, h2⟩
    cases e <;> first
      | exact ⟨st2, r2, h1, h2⟩
      | exact ⟨k, Nat.lt_succ_self k, st2, r2, h1, h2⟩
theorem loop_rounds {P : Program} {E : Env} {Q : Exit → St → Prop} {st : St} {body : Code} (hE : EnvOk P E) (n : Nat) (h : rounds P E body Q n st) : wpL (⟨st⟩ : VTag P E (.loop body) Q) := wpS_rounds hE n h
/-- One round more: the invariant holds again, at less. -/
def Again (E : Env) {β : Type} (inv : β → St) (ok : β → Prop) (mu : β → Nat) (x : β) (st : St) : Prop := ∃ y g, ok y ∧ mu y < mu x ∧ Canon E g st (inv y)
theorem again {E : Env} {β : Type} {inv : β → St} {ok : β → Prop} {mu : β → Nat} {x : β} {st : St} (y : β) (g : List (Nat × Nat)) (h1 : ok y) (h2 : mu y < mu x) (h3 : Canon E g st (inv y)) : Again E inv ok mu x st := ⟨y, g, h1, h2, h3⟩
theorem loop_inv {P : Program} {E : Env} {Q : Exit → St → Prop} {st : St} {body : Code} (hE : EnvOk P E) {β : Type} (inv : β → St) (ok : β → Prop) (mu : β → Nat) (x0 : β) (g0 : List (Nat × Nat)) (hx : ok x0) (h0 : Canon E g0 st (inv x0))
    (round : ∀ x, ok x → vc (⟨inv x⟩ : VTag P E body (thenS (Again E inv ok mu x) Q))) : wpL (⟨st⟩ : VTag P E (.loop body) Q) := wpS_loop hE inv ok mu x0 g0 hx h0 round
theorem br {b : Bool} {X Y : Prop} (h1 : b = true → X) (h2 : b = false → Y) : Br (⟨b⟩ : Tw X Y) := ⟨h1, h2⟩
/-- What a function hands back. -/
def retC (T : Nat → Option TyI) (st : St) : ResultVar → Option (CV × List Prop)
  | .tmp t => match aget st.fr t with
    | some (.c c) => some (c, [])
    | _ => none
  | .cell a t => match aget st.fr a with
    | some (.c (.one (.ptr id k s j))) => match T t with
      | some ti => if okRow ti then match aget st.hp id with
        | some e => match readAt e.o k s j ti.size with
          | some (ys, ob) => match headS ti.d.isRow ys with
            | .c c => some (c, ob)
            | _ => none
          | none => none
        | none => none else none
      | none => none
    | _ => none
def retL (T : Nat → Option TyI) (st : St) : List ResultVar → Option (List CV × List Prop)
  | [] => some ([], [])
  | v :: l => match retC T st v with
    | some (c, ob) => match retL T st l with
      | some (cs, ob') => some (c :: cs, ob ++ ob')
      | none => none
    | none => none
def tupS : List CV → SV
  | [c] => .c c
  | cs => .tup cs
/-- The end of a function: this is handed back, over these objects. -/
def endQ (E : Env) (rs : List ResultVar) (g : List (Nat × Nat)) (res : SV) (hp' : List (Nat × Ent)) (st : St) : Prop :=
  match retL E.T st rs with
  | some (cs, ob) => AllT ob ∧ likeV g (keysOf hp') res (tupS cs) ∧ distB ((keysOf hp').map (rn g)) = true ∧ (E.keys.all fun k => Nat.beq (rn g k) k && (keysOf hp').contains k) = true ∧ likeHp g (keysOf hp') st.hp hp'
  | none => False
def retQ (E : Env) (rs : List ResultVar) (g : List (Nat × Nat)) (res : SV) (hp' : List (Nat × Ent)) : Exit → St → Prop
  | .normal, st => endQ E rs g res hp' st
  | .ret, st => endQ E rs g res hp' st
  | _, _ => False
section
variable {P : Program} {E : Env}
def retM (tmps : Array Value) : ResultVar → Sem Value
  | .tmp t => pure (tmps.getD t undef)
  | .cell a t => do loadVar t (← asAddr (tmps.getD a undef))
theorem retC_run (hE : EnvOk P E) {C : Ctx} {r : Lc} {st : St} {a : Act} {w : World} (hrep : RepE P E C r st a w) {v : ResultVar} {c : CV} {ob : List Prop} (h : retC E.T st v = some (c, ob)) (hob : AllT ob) :
    ∃ u, (retM a.tmps v).run P w = .ok u w ∧ c.rel r u := by
  cases v with
  | tmp t =>
    simp only [retC] at h
    split at h
    · rename_i c' hc
      simp only [Option.some.injEq, Prod.mk.injEq] at h
      obtain ⟨rfl, rfl⟩ := h
      exact ⟨_, rfl, hrep.fr t _ hc⟩
    · cases h
  | cell x t =>
    simp only [retC] at h
    split at h
    · rename_i id k s j hx
      split at h
      · rename_i ti ht
        split at h
        · rename_i hok
          split at h
          · rename_i e he
            split at h
            · rename_i ys ob' hra
              split at h
              · rename_i c' hc
                simp only [Option.some.injEq, Prod.mk.injEq] at h
                obtain ⟨rfl, rfl⟩ := h
                obtain ⟨hl, hlen, hys⟩ := readAt_flat hra hob (fun h => by rw [h]; rfl)
                obtain ⟨g, cc, hrid, hv⟩ := hrep.fr x _ hx
                obtain ⟨cs, hrow, _, hholds⟩ := hrep.hp.row he hl hrid
                obtain ⟨us, hul, hus, hall⟩ := hholds.slice hlen
                rw [← hys] at hall
                have hrg := rangeAt_of hrow hus
                obtain ⟨hu, nf, hi1, hi2, _⟩ := hE.T t ti ht
                have hv' : a.tmps.getD x undef = .pointer (some ⟨g.1, k * s + j + g.off, none⟩) := hv
                by_cases hd : ti.d.isRow = true
                · have hlv := run_loadVar_mid (P := P) w g.1 (k * s + j + g.off) t us ti.d hrg hu hd (by rw [hi1]; simp [hi2, hul])
                  refine ⟨.agg us.toArray, ?_, ?_⟩
                  · simp only [retM, hv', asAddr, Sem.run_bind, Sem.run_pure, Result.andThen_ok, hlv]
                  · simp only [headS, hd, if_true, SV.c.injEq] at hc
                    subst hc
                    exact ⟨us, rfl, hall⟩
                · have hd' : ti.d.isRow = false := by simpa using hd
                  have hz := okRow_spec hok hd'
                  rw [hz] at hul
                  obtain ⟨u, rfl⟩ : ∃ u, us = [u] := by
                    match us, hul with
                    | [u], _ => exact ⟨u, rfl⟩
                  obtain ⟨y, rfl⟩ : ∃ y, ys = [y] := by
                    have := hall.length
                    match ys, this with
                    | [y], _ => exact ⟨y, rfl⟩
                  refine ⟨u, ?_, ?_⟩
                  · have hcl : w.cell? ⟨g.1, k * s + j + g.off, none⟩ = some u := by simpa using hrg 0 u (by simp)
                    have hag := run_isAgg hE.T ht w
                    rw [hd'] at hag
                    simp only [retM, hv', asAddr, Sem.run_bind, Sem.run_pure, Result.andThen_ok, loadVar, hag]
                    simp [hcl]
                  · simp only [headS, hd', Bool.false_eq_true, if_false, SV.c.injEq] at hc
                    subst hc
                    exact hall.1
              · cases h
            · cases h
          · cases h
        · cases h
      · cases h
    · cases h
theorem retL_run (hE : EnvOk P E) {C : Ctx} {r : Lc} {st : St} {a : Act} {w : World} (hrep : RepE P E C r st a w) : ∀ {l : List ResultVar} {cs : List CV} {ob : List Prop}, retL E.T st l = some (cs, ob) → AllT ob →
    ∃ us : List Value, (l.mapM (retM a.tmps)).run P w = .ok us w ∧ All2 (CV.rel r) cs us
  | [], cs, ob, h, _ => by
    simp only [retL, Option.some.injEq, Prod.mk.injEq] at h
    obtain ⟨rfl, rfl⟩ := h
    exact ⟨[], rfl, trivial⟩
  | v :: l, cs, ob, h, hob => by
    simp only [retL] at h
    cases hv : retC E.T st v with
    | none => rw [hv] at h; cases h
    | some q =>
      obtain ⟨c, ob1⟩ := q
      rw [hv] at h
      simp only at h
      cases hl : retL E.T st l with
      | none => rw [hl] at h; cases h
      | some q =>
        obtain ⟨cs', ob2⟩ := q
        simp only [hl, Option.some.injEq, Prod.mk.injEq] at h
        obtain ⟨rfl, rfl⟩ := h
        obtain ⟨o1, o2⟩ := AllT.append.1 hob
        obtain ⟨u, hu, hr⟩ := retC_run hE hrep hv o1
        obtain ⟨us, hus, hrs⟩ := retL_run hE hrep hl o2
        exact ⟨u :: us, by simp only [List.mapM_cons, Sem.run_bind, hu, Result.andThen_ok, hus, Sem.run_pure], hr, hrs⟩
theorem results_run (hE : EnvOk P E) {C : Ctx} {r : Lc} {st : St} {a : Act} {w : World} (hrep : RepE P E C r st a w) {fn : Func} {cs : List CV} {ob : List Prop} (h : retL E.T st fn.results.toList = some (cs, ob)) (hob : AllT ob) :
    ∃ u, (results fn a.tmps).run P w = .ok u w ∧ (tupS cs).rel r u := by
  obtain ⟨us, hus, hrs⟩ := retL_run hE hrep h hob
  have hm : (fn.results.mapM (retM a.tmps)).run P w = .ok us.toArray w := by
    rw [Array.mapM_eq_mapM_toList]
    have e : ∀ q : Sem (List Value), (List.toArray <$> q) = (q >>= fun a => pure a.toArray) := fun _ => rfl
    rw [e, Sem.run_bind, hus]; rfl
  have hre : results fn a.tmps = (fn.results.mapM (retM a.tmps) >>= fun vs => pure (if h : vs.size = 1 then vs[0] else .tuple vs)) := by
    unfold results
    congr 1
  rw [hre, Sem.run_bind, hm]
  simp only [Result.andThen_ok, Sem.run_pure]
  match cs, us, hrs with
  | [], [], _ => exact ⟨_, rfl, [], rfl, trivial⟩
  | [c], [u], ⟨h1, _⟩ => exact ⟨u, rfl, h1⟩
  | c :: d :: cs, u :: v :: us, hrs => exact ⟨_, rfl, _, rfl, hrs⟩
/-- A FUNCTION KEEPS ITS CONTRACT. -/
theorem tri_of (hE : EnvOk P E) {f : FuncId} {fn : Func} {body : Code} (hf : P.funcs[f]? = some fn) (hb : fn.body = some body) (hn : fn.ntmps = E.nt) {rs : List ResultVar} (hrs : fn.results.toList = rs) (hgl : E.gl = []) {args : List CV} {hp : List (Nat × Ent)} {res : SV} {hp' : List (Nat × Ent)} (hlen : args.length ≤ E.nt)
    (hkeys : keysOf hp = E.keys) (g : List (Nat × Nat)) (h : vc (⟨⟨numb 0 (args.map .c), hp⟩⟩ : VTag P E body (retQ E rs g res hp'))) : TriG P E.G f args hp res hp' := by
  subst hrs
  intro r w vals hargs hh
  have hvl := hargs.length
  refine calls_of_wp hf hb ?_
  have hrep : RepE P E (cw E.G r hp w) r ⟨numb 0 (args.map .c), hp⟩ { tmps := vals.toArray ++ Array.replicate (fn.ntmps - vals.toArray.size) undef, defers := [] } w := {
    nt := by simp; omega
    defers := rfl
    fr := fun t x hx => by
      have hx' : (args.map SV.c)[t]? = some x := by
        have := aget_numb (args.map SV.c) 0 t
        simp only [Nat.zero_le, if_true, Nat.sub_zero] at this
        rw [← this]; exact hx
      rw [List.getElem?_map] at hx'
      cases hc : args[t]? with
      | none => rw [hc] at hx'; cases hx'
      | some c =>
        rw [hc] at hx'
        simp only [Option.map_some, Option.some.injEq] at hx'
        subst hx'
        obtain ⟨u, hu, hr⟩ := hargs.get t c hc
        have hlt : t < vals.length := (List.getElem?_eq_some_iff.1 hu).1
        rw [Array.getD_eq_getD_getElem?, Array.getElem?_append_left (by simpa using hlt)]
        simp only [List.getElem?_toArray, hu, Option.getD_some]
        exact hr
    hp := hh
    gl := fun k hk => by rw [hgl] at hk; cases hk
    keep := r.le_refl
    keys := fun id hid => by
      have : aget hp id ≠ none := fun he => hid ((hh.dom id).2 he)
      rw [← hkeys]
      rw [ne_eq, aget_keys, Decidable.not_not] at this
      exact this
    sub := fun f hf => hf }
  refine wp_mono (vc_sound hE body _ _ h (cw E.G r hp w) r _ w hrep) ?_
  rintro e a' w' ⟨st', r', h1, h2⟩
  have key : endQ E fn.results.toList g res hp' st' → a'.defers = [] ∧ ∃ v, (results fn a'.tmps).run P w' = .ok v w' ∧ ∃ u r', Ending.returned v = .returned u ∧ r.le r' ∧ res.rel r' u ∧ HeapOk (cw E.G r hp w) r' hp' w' := fun hq => by
    unfold endQ at hq
    split at hq
    · rename_i cs ob hre
      obtain ⟨hob, hlv, hd, hks, hhp⟩ := hq
      obtain ⟨u, hu, hr⟩ := results_run hE h2 hre hob
      refine ⟨h2.defers, u, hu, u, r'.under g (keysOf hp'), rfl, fun id p hid => ?_, ?_, Canon.heap hd hhp h2.hp⟩
      · have hk := h2.keys id (by show r id ≠ none; rw [hid]; simp)
        have := List.all_eq_true.1 hks id hk
        simp only [Bool.and_eq_true] at this
        have e : rn g id = id := by simpa using this.1
        simp only [Lc.under, this.2, if_true, e]
        exact h2.keep id p hid
      · rcases hlv with hlv | ⟨h3, h4⟩
        · subst hlv; trivial
        · rw [← h3, SV.rel_ren] at hr
          exact SV.rel_agree (under_agree h4) hr
    · exact hq.elim
  cases e <;> first
    | exact key h1
    | exact h1.elim
/-- A contract over no objects. -/
def con0 (F : List CV → Option (SV × List Prop)) : Con := ⟨false, fun args os => match os with
  | [] => match F args with
    | some (v, ob) => some (v, [], [], ob)
    | none => none
  | _ => none⟩
theorem con0_okG {G : List GFact} {f : FuncId} {fn : Func} (hf : P.funcs[f]? = some fn) (hb : fn.body.isSome = true) (hn : (fn.name == "runtime.NumGoroutine") = false) {F : List CV → Option (SV × List Prop)} (h : ∀ args res ob, F args = some (res, ob) → AllT ob → TriG P G f args [] res []) : ConOkG P G f (con0 F) := by
  refine .inl ⟨⟨fn, hf, hb, hn⟩, fun args es res upd news ob hr hob _ => ?_⟩
  unfold con0 at hr
  simp only at hr
  split at hr
  · rename_i hes
    have : es = [] := List.map_eq_nil_iff.1 hes
    subst this
    cases hF : F args with
    | none => rw [hF] at hr; cases hr
    | some q =>
      obtain ⟨v, ob'⟩ := q
      simp only [hF, Option.some.injEq, Prod.mk.injEq] at hr
      obtain ⟨rfl, rfl, rfl, rfl⟩ := hr
      exact h args v ob' hF hob
  · cases hr
theorem con0_ok {f : FuncId} {fn : Func} (hf : P.funcs[f]? = some fn) (hb : fn.body.isSome = true) (hn : (fn.name == "runtime.NumGoroutine") = false) {F : List CV → Option (SV × List Prop)} (h : ∀ args res ob, F args = some (res, ob) → AllT ob → Tri P f args [] res []) : ConOk P f (con0 F) := con0_okG hf hb hn h
/-- A contract of a function that the model stands in for. -/
theorem con0_ext {f : FuncId} {F : List CV → Option (SV × List Prop)} (h : ∀ args res ob, F args = some (res, ob) → AllT ob → ∀ (r : Lc) (w : World) (vals : List Value), All2 (CV.rel r) args vals → ∃ u, (callFunc f vals.toArray).run P w = .ok (.value u) w ∧ res.rel r u) : ConOk P f (con0 F) := by
  refine .inr fun args os res upd news ob hr => ?_
  unfold con0 at hr
  simp only at hr
  split at hr
  · cases hF : F args with
    | none => rw [hF] at hr; cases hr
    | some q =>
      obtain ⟨v, ob'⟩ := q
      simp only [hF, Option.some.injEq, Prod.mk.injEq] at hr
      obtain ⟨rfl, rfl, rfl, rfl⟩ := hr
      exact ⟨rfl, rfl, rfl, h args v ob' hF⟩
  · cases hr
/-- What it means for a caller outside: memory below is as it was. -/
theorem tri_callsG {G : List GFact} {f : FuncId} {args : List CV} {res : SV} (h : TriG P G f args [] res []) (w : World) {vals : List Value} (hv : All2 (CV.rel fun _ => none) args vals) (hg : ∀ f ∈ G, f.p w) :
    Calls P f vals.toArray w fun e w' => ∃ u r', e = .returned u ∧ res.rel r' u ∧ Below w.heap.size w w' := by
  have hh : HeapOk (cw G (fun _ => none) [] w) (fun _ => none) [] w := {
    dom := fun _ => Iff.intro (fun _ => rfl) (fun _ => rfl)
    obj := fun id e p h => by cases h
    inj := fun i j e f g g' c d h => by cases h
    own := fun id e g c h => by cases h
    glob := fun f hf => ⟨hg f hf, fun ⟨id, e, g, c, h, _⟩ => by cases h⟩
    os := rfl
    tape := rfl
    output := rfl
    size := Nat.le_refl _
    same := fun _ _ _ => rfl }
  refine (h _ w vals hv hh).mono fun e w' ⟨u, r', h1, _, h2, h3⟩ => ⟨u, r', h1, h2, h3.os, h3.tape, h3.output, h3.size, fun b hb => h3.same b hb ?_⟩
  rintro ⟨id, e, g, c, h4, _⟩
  cases h4
theorem tri_calls {f : FuncId} {args : List CV} {res : SV} (h : Tri P f args [] res []) (w : World) {vals : List Value} (hv : All2 (CV.rel fun _ => none) args vals) :
    Calls P f vals.toArray w fun e w' => ∃ u r', e = .returned u ∧ res.rel r' u ∧ Below w.heap.size w w' := tri_callsG h w hv fun _ h => by cases h
/-- A contract of the library's, over no objects. -/
theorem tri_shelf {G : List GFact} {f : FuncId} {args : List CV} {res : SV} (h : ∀ (w : World) (vals : List Value), (∀ g ∈ G, g.p w) → All2 (CV.rel fun _ => none) args vals → Calls P f vals.toArray w fun e w' => ∃ u, e = .returned u ∧ res.rel (fun _ => none) u ∧ Below w.heap.size w w') : TriG P G f args [] res [] := fun r w vals hargs hh => by
  obtain rfl : r = fun _ => none := funext fun id => (hh.dom id).2 rfl
  exact (h w vals hh.facts hargs).mono fun e w' ⟨u, h1, h2, hb⟩ => ⟨u, _, h1, Lc.le_refl _, h2, hh.move hb.os hb.tape hb.output hb.size fun b h => hb.block b h⟩
end
end Go.Proofs.YtdkogjjebbdngaaDoor
