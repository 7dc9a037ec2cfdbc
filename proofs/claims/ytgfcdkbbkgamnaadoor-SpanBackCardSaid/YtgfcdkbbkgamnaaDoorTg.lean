/-
  Layer 14: a set read place by place, and read part by part.
-/
import Derived.Test.YtgfcdkbbkgamnaaDoorTc
namespace Go.Proofs.YtgfcdkbbkgamnaaDoor
open Go Go.RowKit
set_option maxHeartbeats 4000000
set_option linter.unusedSimpArgs false
set_option linter.unusedVariables false
theorem first_of (c : UInt8) : ∀ s : List UInt8, ∃ p r, s = p ++ r ∧ (∀ x ∈ p, x ≠ c) ∧ (r = [] ∨ ∃ t, r = c :: t)
  | [] => ⟨[], [], rfl, (fun x h => by cases h), .inl rfl⟩
  | b :: l => by
    by_cases h : b = c
    · subst h; exact ⟨[], b :: l, rfl, (fun x h => by cases h), .inr ⟨l, rfl⟩⟩
    · obtain ⟨p, r, h1, h2, h3⟩ := first_of c l
      refine ⟨b :: p, r, by rw [h1]; rfl, fun x hx => ?_, h3⟩
      rcases List.mem_cons.1 hx with rfl | hx
      · exact h
      · exact h2 x hx
theorem pre_one (b c : UInt8) (l : List UInt8) : ([c] : List UInt8).isPrefixOf (b :: l) = (c == b) := by simp [List.isPrefixOf]
theorem idx_hit {c : UInt8} : ∀ {p t : List UInt8}, (∀ x ∈ p, x ≠ c) → Lib.index (p ++ c :: t) [c] = (p.length : Int)
  | [], t, _ => by rw [List.nil_append, Lib.index, pre_one]; simp
  | b :: p, t, h => by
    have hb : (c == b) = false := beq_eq_false_iff_ne.2 fun e => h b (by simp) e.symm
    rw [List.cons_append, Lib.index, pre_one, hb, idx_hit fun x hx => h x (by simp [hx])]
    have : ((p.length : Int) == -1) = false := beq_eq_false_iff_ne.2 (by omega)
    rw [if_neg (by decide), this, if_neg (by decide)]
    simp
theorem idx_miss {c : UInt8} : ∀ {p : List UInt8}, (∀ x ∈ p, x ≠ c) → Lib.index p [c] = -1
  | [], _ => by simp [Lib.index]
  | b :: p, h => by
    have hb : (c == b) = false := beq_eq_false_iff_ne.2 fun e => h b (by simp) e.symm
    rw [Lib.index, pre_one, hb, idx_miss fun x hx => h x (by simp [hx])]
    simp
theorem cut_hit {c : UInt8} {p t : List UInt8} (h : ∀ x ∈ p, x ≠ c) : Lib.cut (p ++ c :: t) [c] = (p, t, true) := by
  unfold Lib.cut
  rw [idx_hit h, if_pos (by omega)]
  simp
theorem cut_miss {c : UInt8} {p : List UInt8} (h : ∀ x ∈ p, x ≠ c) : Lib.cut p [c] = (p, [], false) := by
  unfold Lib.cut
  rw [idx_miss h, if_neg (by decide)]
theorem count_more (c : UInt8) : ∀ (f g : Nat) (s : List UInt8), s.length < f → s.length < g → Lib.countFrom [c] f s = Lib.countFrom [c] g s
  | 0, _, s, h, _ => by omega
  | _ + 1, 0, s, _, h => by omega
  | f + 1, g + 1, s, h1, h2 => by
    obtain ⟨p, r, rfl, hp, hr⟩ := first_of c s
    rcases hr with rfl | ⟨t, rfl⟩
    · rw [List.append_nil]
      rw [Lib.countFrom, Lib.countFrom, idx_miss hp]; rfl
    · rw [Lib.countFrom, Lib.countFrom, idx_hit hp]
      have : ((p.length : Int) == -1) = false := beq_eq_false_iff_ne.2 (by omega)
      rw [this, if_neg (by decide), if_neg (by decide)]
      congr 1
      simp only [List.length_append, List.length_cons] at h1 h2
      refine count_more c f g _ ?_ ?_ <;> simp <;> omega
theorem split_miss {c : UInt8} {p : List UInt8} (h : ∀ x ∈ p, x ≠ c) : Lib.split p [c] = [p] := by
  unfold Lib.split Lib.count
  rw [Lib.countFrom, idx_miss h]
  rfl
theorem split_hit {c : UInt8} {p t : List UInt8} (h : ∀ x ∈ p, x ≠ c) : Lib.split (p ++ c :: t) [c] = p :: Lib.split t [c] := by
  have hd : (p ++ c :: t).drop ((p.length : Int).toNat + ([c] : List UInt8).length) = t := by simp
  have hc : Lib.count (p ++ c :: t) [c] = Lib.count t [c] + 1 := by
    unfold Lib.count
    rw [Lib.countFrom, idx_hit h]
    have : ((p.length : Int) == -1) = false := beq_eq_false_iff_ne.2 (by omega)
    rw [this, if_neg (by decide), hd, Nat.add_comm]
    congr 1
    exact count_more c _ _ _ (by simp; omega) (by omega)
  unfold Lib.split
  rw [hc, Lib.splitK, idx_hit h]
  have : ((p.length : Int) == -1) = false := beq_eq_false_iff_ne.2 (by omega)
  rw [this, if_neg (by decide), hd]
  simp
theorem valFrom_lb (l : List UInt8) : ∀ (a : Nat), a * 10 ^ l.length ≤ valFrom a l := by
  induction l with
  | nil => intro a; rw [List.length_nil, Nat.pow_zero, Nat.mul_one]; exact Nat.le_refl _
  | cons c l ih =>
    intro a
    have h := ih (10 * a + (c.toNat - 48))
    have e : valFrom a (c :: l) = valFrom (10 * a + (c.toNat - 48)) l := rfl
    rw [e, List.length_cons]
    refine Nat.le_trans ?_ h
    rw [Nat.pow_succ, Nat.add_mul, Nat.mul_comm (10 ^ l.length) 10, ← Nat.mul_assoc, Nat.mul_comm a 10]
    exact Nat.le_add_right _ _
theorem num_short {x : List UInt8} (h : isNum x = true) (h1 : 1 ≤ val x) (h2 : val x < 4294967296) : x.length ≤ 10 ∧ x.head? ≠ some 48 := by
  obtain ⟨ha, hne⟩ := isNum_all h
  cases x with
  | nil => exact (hne rfl).elim
  | cons c l =>
    simp only [List.all_cons, Bool.and_eq_true] at ha
    have hc := dig_of c ha.1
    have h48 : c ≠ 48 := fun e => by
      subst e
      unfold isNum at h
      simp only [List.head?_cons, Bool.and_eq_true, Bool.or_eq_true, decide_eq_true_eq] at h
      rcases h.2 with h3 | h3
      · have : l = [] := List.eq_nil_of_length_eq_zero (by simpa using h3)
        subst this
        have : val [48] = 0 := rfl
        omega
      · simp at h3
    refine ⟨?_, by simpa using h48⟩
    have hlb := valFrom_lb l (10 * 0 + (c.toNat - 48))
    have hv : val (c :: l) = valFrom (10 * 0 + (c.toNat - 48)) l := rfl
    have h49 : 49 ≤ c.toNat := by
      rcases Nat.lt_or_ge c.toNat 49 with h' | h'
      · exact (h48 (UInt8.toNat_inj.1 (by show c.toNat = 48; omega))).elim
      · exact h'
    have hp : 10 ^ l.length ≤ val (c :: l) := by
      rw [hv]
      refine Nat.le_trans ?_ hlb
      exact Nat.le_mul_of_pos_left _ (by omega)
    rcases Nat.lt_or_ge l.length 10 with h' | h'
    · simp only [List.length_cons]; omega
    · have : 10 ^ 10 ≤ 10 ^ l.length := Nat.pow_le_pow_right (by decide) h'
      omega
theorem runN_spec (s : List UInt8) : ∀ (f a : Nat), (∀ j, j < runN s f a → a + j < s.length ∧ isDig (s.getD (a + j) 0) = true) ∧ (f ≤ runN s f a ∨ ¬ (a + runN s f a < s.length ∧ isDig (s.getD (a + runN s f a) 0) = true))
  | 0, a => ⟨fun j h => absurd h (Nat.not_lt_zero _), .inl (Nat.zero_le _)⟩
  | f + 1, a => by
    have ih := runN_spec s f (a + 1)
    by_cases h : a < s.length ∧ isDig (s.getD a 0) = true
    · have e : runN s (f + 1) a = runN s f (a + 1) + 1 := by rw [runN, if_pos h]
      rw [e]
      refine ⟨fun j hj => ?_, ?_⟩
      · rcases j with _ | j
        · exact h
        · have := ih.1 j (by omega)
          rwa [show a + 1 + j = a + (j + 1) by omega] at this
      · rcases ih.2 with h' | h'
        · exact .inl (by omega)
        · right
          rwa [show a + 1 + runN s f (a + 1) = a + (runN s f (a + 1) + 1) by omega] at h'
    · have e : runN s (f + 1) a = 0 := by rw [runN, if_neg h]
      rw [e]
      exact ⟨fun j hj => absurd hj (Nat.not_lt_zero _), .inr h⟩
/-- A text that stands at a place, and ends where no digit goes on. -/
structure Seg (s : List UInt8) (a : Nat) (x r : List UInt8) : Prop where
  eq : s.drop a = x ++ r
  le : a ≤ s.length
  stop : r = [] ∨ ∃ c t, r = c :: t ∧ isDig c = false ∧ c ≠ 42
theorem Seg.get {s x r : List UInt8} {a : Nat} (h : Seg s a x r) (j : Nat) (hj : j < x.length) : a + j < s.length ∧ s.getD (a + j) 0 = x.getD j 0 := by
  have hl := congrArg List.length h.eq
  rw [List.length_drop, List.length_append] at hl
  refine ⟨by omega, ?_⟩
  have := congrArg (fun l => l[j]?) h.eq
  simp only [List.getElem?_drop, List.getElem?_append_left hj] at this
  rw [List.getD_eq_getElem?_getD, this, ← List.getD_eq_getElem?_getD]
theorem Seg.len {s x r : List UInt8} {a : Nat} (h : Seg s a x r) : a + x.length + r.length = s.length := by
  have hl := congrArg List.length h.eq
  rw [List.length_drop, List.length_append] at hl
  have := h.le
  omega
theorem Seg.head {s x t : List UInt8} {c : UInt8} {a : Nat} (h : Seg s a x (c :: t)) : s.getD (a + x.length) 0 = c := by
  have := congrArg (fun l => l[x.length]?) h.eq
  simp only [List.getElem?_drop, List.getElem?_append_right (Nat.le_refl _), Nat.sub_self, List.getElem?_cons_zero] at this
  rw [List.getD_eq_getElem?_getD, this]; rfl
theorem Seg.nodig {s x r : List UInt8} {a : Nat} (h : Seg s a x r) : ¬ (a + x.length < s.length ∧ isDig (s.getD (a + x.length) 0) = true) := fun ⟨h1, h2⟩ => by
  have hl := h.len
  obtain ⟨he, hle, hs⟩ := h
  rcases hs with rfl | ⟨c, t, rfl, hc, _⟩
  · simp at hl; omega
  · rw [Seg.head ⟨he, hle, .inr ⟨c, t, rfl, hc, ‹_›⟩⟩, hc] at h2; cases h2
theorem dig_ne (c : UInt8) (h : isDig c = true) : c ≠ 42 := fun e => by subst e; simp [isDig] at h
theorem seg_yes {s x r : List UInt8} {a : Nat} (h : Seg s a x r) (hx : tnB x = true) : rnA s a = (a + x.length : Nat) ∧ rnV s a = tnV x := by
  unfold tnB at hx
  rcases Bool.or_eq_true _ _ ▸ hx with h1 | h1
  · have e : x = [42] := by simpa using h1
    subst e
    obtain ⟨g1, g2⟩ := h.get 0 (by decide)
    have hst : rnStar s a = true := by
      unfold rnStar
      rw [Nat.add_zero] at g1 g2
      rw [g2]; simp [g1]
    refine ⟨by rw [rnA, if_pos hst]; rfl, by rw [rnV, if_pos hst]; rfl⟩
  · have hn := h1
    unfold numB at h1
    simp only [Bool.and_eq_true, decide_eq_true_eq] at h1
    obtain ⟨⟨hnum, hv1⟩, hv2⟩ := h1
    obtain ⟨hall, hne⟩ := isNum_all hnum
    obtain ⟨hlen, hhd⟩ := num_short hnum hv1 hv2
    have hpos : 0 < x.length := by cases x with | nil => exact (hne rfl).elim | cons _ _ => simp
    have hdig : ∀ j, j < x.length → a + j < s.length ∧ isDig (s.getD (a + j) 0) = true := fun j hj => by
      obtain ⟨g1, g2⟩ := h.get j hj
      refine ⟨g1, ?_⟩
      rw [g2]
      refine List.all_eq_true.1 hall _ ?_
      rw [List.getD_eq_getElem?_getD, List.getElem?_eq_getElem hj]
      exact List.getElem_mem hj
    have hr : runN s 11 a = x.length := runN_at s 11 a x.length (by omega) hdig (.inr h.nodig)
    have hdn : digN s a x.length = x := by unfold digN; rw [h.eq, List.take_left]
    have h0 := hdig 0 hpos
    rw [Nat.add_zero] at h0
    have hst : rnStar s a = false := by
      unfold rnStar
      have := dig_ne _ h0.2
      rw [beq_eq_false_iff_ne.2 this, Bool.and_false]
    have hx0 : s.getD a 0 ≠ 48 := fun e => by
      obtain ⟨_, g2⟩ := h.get 0 hpos
      rw [Nat.add_zero, e] at g2
      apply hhd
      cases x with
      | nil => exact (hne rfl).elim
      | cons c l => simp at g2; rw [← g2]; rfl
    have hok : rnOk s a = true := by
      rw [rnOk_of hr, hdn]
      have e1 : (x.length == 0) = false := beq_eq_false_iff_ne.2 (by omega)
      have e2 : decide (10 < x.length) = false := decide_eq_false (by omega)
      have e3 : (s.getD a 0 == 48) = false := beq_eq_false_iff_ne.2 hx0
      have e4 : decide (4294967296 ≤ val x) = false := decide_eq_false (by omega)
      rw [e1, e2, e3, e4]; rfl
    obtain ⟨v1, v2⟩ := rn_good hst hr hok
    refine ⟨v2, ?_⟩
    rw [v1, hdn, tnV]
    have hx42 : ¬ x = [42] := fun e => by rw [e] at hall; simp [isDig] at hall
    rw [if_neg hx42, if_pos hn]
theorem seg_no {s x r : List UInt8} {a : Nat} (h : Seg s a x r) (hx : tnB x = false) : rnA s a = -1 ∨ ∃ k, k < x.length ∧ rnA s a = (a + k : Nat) := by
  cases hst : rnStar s a with
  | true =>
    right
    have hs := hst
    unfold rnStar at hs
    simp only [Bool.and_eq_true, decide_eq_true_eq, beq_iff_eq] at hs
    refine ⟨1, ?_, by rw [rnA, if_pos hst]⟩
    have hl := h.len
    match x, hx, h with
    | [], _, h =>
      exfalso
      rcases h.stop with rfl | ⟨c, t, rfl, _, hc⟩
      · simp at hl; omega
      · have := h.head
        rw [List.length_nil, Nat.add_zero, hs.2] at this
        exact hc this.symm
    | [c], hx, h =>
      exfalso
      obtain ⟨_, g2⟩ := h.get 0 (by simp)
      rw [Nat.add_zero, hs.2] at g2
      have : c = 42 := by simpa using g2.symm
      subst this
      simp [tnB] at hx
    | _ :: _ :: _, _, _ => simp
  | false =>
    cases hok : rnOk s a with
    | false => exact .inl (rn_bad hst hok).2
    | true =>
      right
      obtain ⟨sp1, sp2⟩ := runN_spec s 11 a
      have hv := rn_good hst rfl hok
      refine ⟨runN s 11 a, ?_, hv.2⟩
      rcases Nat.lt_trichotomy (runN s 11 a) x.length with hc | hc | hc
      · exact hc
      · exfalso
        have hdn : digN s a x.length = x := by unfold digN; rw [h.eq, List.take_left]
        rw [rnOk_of hc, hdn] at hok
        simp only [Bool.not_eq_true', Bool.or_eq_false_iff, beq_eq_false_iff_ne, decide_eq_false_iff_not] at hok
        obtain ⟨⟨⟨o1, o2⟩, o3⟩, o4⟩ := hok
        have hall : x.all isDig = true := by
          rw [List.all_eq_true]
          intro c hcm
          obtain ⟨j, hj, rfl⟩ := List.mem_iff_getElem.1 hcm
          have h1 := (sp1 j (by omega)).2
          obtain ⟨_, g2⟩ := h.get j hj
          rw [g2, List.getD_eq_getElem?_getD, List.getElem?_eq_getElem hj] at h1
          exact h1
        have hne : x ≠ [] := fun e => by subst e; exact o1 rfl
        have hhd : x.head? ≠ some 48 := fun e => by
          cases x with
          | nil => exact hne rfl
          | cons c l =>
            have hc48 : c = 48 := by simpa using e
            obtain ⟨_, g2⟩ := h.get 0 (by simp)
            rw [Nat.add_zero] at g2
            rw [g2] at o3
            exact o3 (by simpa using hc48)
        have hnum : isNum x = true := by
          unfold isNum
          have e1 : x.isEmpty = false := by cases x with | nil => exact (hne rfl).elim | cons _ _ => rfl
          have e2 : (x.head? == some 48) = false := beq_eq_false_iff_ne.2 hhd
          rw [hall, e1, e2]; simp
        have hv1 : 1 ≤ val x := val_pos x.length x rfl hnum fun e => hhd (by rw [e]; rfl)
        have : numB x = true := by
          unfold numB
          rw [hnum, decide_eq_true hv1, decide_eq_true (show val x < 4294967296 by omega)]; rfl
        unfold tnB at hx
        rw [this, Bool.or_true] at hx
        cases hx
      · exact (h.nodig (sp1 _ hc)).elim
def rpQ (s : List UInt8) (a : Nat) : Nat := (rnA s a).toNat
def rpT (s : List UInt8) (a : Nat) : Bool := decide (rpQ s a < s.length) && s.getD (rpQ s a) 0 == 58
def rpV (s : List UInt8) (a : Nat) : Int := if rpT s a = true then rnV s (rpQ s a + 1) else rnV s a
def rpA (s : List UInt8) (a : Nat) : Int := if rpT s a = true then rnA s (rpQ s a + 1) else rnA s a
def rpN (s : List UInt8) (a : Nat) : Nat := (rpA s a).toNat
def parL (s : List UInt8) (a : Nat) : Option (List Rng) := prsF (Lib.split (s.drop a) [44])
def parR (s : List UInt8) (a : Nat) : Option (List Rng) :=
  if rnA s a < 0 then none else if rpA s a < 0 then none else if rpN s a = s.length then some [(rnV s a, rpV s a)] else if s.getD (rpN s a) 0 = 44 then (parL s (rpN s a + 1)).map ((rnV s a, rpV s a) :: ·) else none
theorem rnA_le (s : List UInt8) (a : Nat) (ha : a ≤ s.length) : -1 ≤ rnA s a ∧ rnA s a ≤ s.length ∧ (0 ≤ rnA s a → (a : Int) ≤ rnA s a) := by
  unfold rnA
  split
  · rename_i h
    unfold rnStar at h
    simp only [Bool.and_eq_true, decide_eq_true_eq] at h
    omega
  · split
    · have := (runN_le s 11 a).2 ha
      omega
    · omega
theorem bad_stop {s x r : List UInt8} {a k : Nat} (h : Seg s a x r) (hk : k < x.length) {c : UInt8} (hc : ∀ y ∈ x, y ≠ c) : a + k < s.length ∧ s.getD (a + k) 0 ≠ c := by
  obtain ⟨g1, g2⟩ := h.get k hk
  refine ⟨g1, ?_⟩
  rw [g2, List.getD_eq_getElem?_getD, List.getElem?_eq_getElem hk]
  exact hc _ (List.getElem_mem hk)
theorem tnB_colon {y : List UInt8} : tnB (58 :: y) = false := by
  unfold tnB numB isNum
  have : isDig 58 = false := rfl
  simp [this]
theorem par_eq (s : List UInt8) (a : Nat) (ha : a ≤ s.length) : parL s a = parR s a := by
  obtain ⟨p, r, hpr, hp, hr⟩ := first_of 44 (s.drop a)
  have hsplit : parL s a = if rgB p = true then (match r with | [] => some [] | _ :: t => prsF (Lib.split t [44])).map (rgOf p :: ·) else none := by
    unfold parL
    rw [hpr]
    rcases hr with rfl | ⟨t, rfl⟩
    · rw [List.append_nil, split_miss hp, prsF]; rfl
    · rw [split_hit hp, prsF]
  have hstop44 : r = [] ∨ ∃ c t, r = c :: t ∧ isDig c = false ∧ c ≠ 42 := hr.imp id fun ⟨t, e⟩ => ⟨44, t, e, rfl, by decide⟩
  have hseg : Seg s a p r := ⟨hpr, ha, hstop44⟩
  have hend : s.getD (a + p.length) 0 = 44 ∨ a + p.length = s.length := by
    rcases hr with rfl | ⟨t, rfl⟩
    · right; have := hseg.len; simpa using this
    · left; exact hseg.head
  have htail : ∀ n : Nat, n = a + p.length → (if n = s.length then some [rgOf p] else if s.getD n 0 = 44 then (parL s (n + 1)).map (rgOf p :: ·) else none) = (match r with | [] => some [] | _ :: t => prsF (Lib.split t [44])).map (rgOf p :: ·) := fun n hn => by
    subst hn
    have hl := hseg.len
    rcases hr with rfl | ⟨t, rfl⟩
    · rw [if_pos (by simpa using hl)]; rfl
    · rw [if_neg (by simp at hl; omega), if_pos hseg.head]
      have : s.drop (a + p.length + 1) = t := by
        rw [show a + p.length + 1 = a + (p.length + 1) by omega, ← List.drop_drop, hpr, List.drop_append, List.drop_eq_nil_of_le (by omega)]
        simp
      unfold parL
      rw [this]
  obtain ⟨x, q, hxq, hx, hq⟩ := first_of 58 p
  have hx44 : ∀ y ∈ x, y ≠ 44 := fun y hy => hp y (by rw [hxq]; exact List.mem_append.2 (.inl hy))
  rcases hq with rfl | ⟨y, rfl⟩
  · -- one number
    rw [List.append_nil] at hxq
    subst hxq
    have hcut : Lib.cut p [58] = (p, [], false) := cut_miss hx
    have hB : rgB p = tnB p := by unfold rgB; rw [hcut]; simp
    have hO : rgOf p = (tnV p, tnV p) := by unfold rgOf; rw [hcut]; simp
    rw [hsplit, hB]
    cases ht : tnB p with
    | true =>
      obtain ⟨e1, e2⟩ := seg_yes hseg ht
      have hQ : rpQ s a = a + p.length := by unfold rpQ; rw [e1]; rfl
      have hT : rpT s a = false := by
        unfold rpT
        rw [hQ]
        rcases hend with h | h
        · rw [h]; simp
        · rw [decide_eq_false (by omega)]; rfl
      have hV : rpV s a = tnV p := by rw [rpV, hT, if_neg (by decide), e2]
      have hA : rpA s a = (a + p.length : Nat) := by rw [rpA, hT, if_neg (by decide), e1]
      have hN : rpN s a = a + p.length := by unfold rpN; rw [hA]; rfl
      rw [if_pos rfl, parR, if_neg (by rw [e1]; omega), if_neg (by rw [hA]; omega), e2, hV, hN, ← hO]
      exact (htail _ rfl).symm
    | false =>
      rw [if_neg (by decide)]
      rcases seg_no hseg ht with e1 | ⟨k, hk, e1⟩
      · rw [parR, if_pos (by rw [e1]; decide)]
      · have hQ : rpQ s a = a + k := by unfold rpQ; rw [e1]; rfl
        obtain ⟨g1, g2⟩ := bad_stop hseg hk hx
        obtain ⟨_, g3⟩ := bad_stop hseg hk hp
        have hT : rpT s a = false := by unfold rpT; rw [hQ, beq_eq_false_iff_ne.2 g2, Bool.and_false]
        have hA : rpA s a = (a + k : Nat) := by rw [rpA, hT, if_neg (by decide), e1]
        have hN : rpN s a = a + k := by unfold rpN; rw [hA]; rfl
        rw [parR, if_neg (by rw [e1]; omega), if_neg (by rw [hA]; omega), hN, if_neg (by omega), if_neg g3]
  · -- two
    have hsegx : Seg s a x (58 :: (y ++ r)) := ⟨by rw [hpr, hxq]; simp, ha, .inr ⟨58, _, rfl, rfl, by decide⟩⟩
    have hlx := hsegx.len
    simp only [List.length_cons, List.length_append] at hlx
    have hpl : p.length = x.length + 1 + y.length := by rw [hxq]; simp; omega
    have hcut : Lib.cut p [58] = (x, y, true) := by rw [hxq]; exact cut_hit hx
    have hB : rgB p = (tnB x && tnB y) := by unfold rgB; rw [hcut]; simp
    have hO : rgOf p = (tnV x, tnV y) := by unfold rgOf; rw [hcut]; simp
    have hy44 : ∀ z ∈ y, z ≠ 44 := fun z hz => hp z (by rw [hxq]; exact List.mem_append.2 (.inr (by simp [hz])))
    rw [hsplit, hB]
    cases htx : tnB x with
    | false =>
      rw [Bool.false_and, if_neg (by decide)]
      rcases seg_no hsegx htx with e1 | ⟨k, hk, e1⟩
      · rw [parR, if_pos (by rw [e1]; decide)]
      · have hQ : rpQ s a = a + k := by unfold rpQ; rw [e1]; rfl
        obtain ⟨g1, g2⟩ := bad_stop hsegx hk hx
        obtain ⟨_, g3⟩ := bad_stop hsegx hk hx44
        have hT : rpT s a = false := by unfold rpT; rw [hQ, beq_eq_false_iff_ne.2 g2, Bool.and_false]
        have hA : rpA s a = (a + k : Nat) := by rw [rpA, hT, if_neg (by decide), e1]
        have hN : rpN s a = a + k := by unfold rpN; rw [hA]; rfl
        rw [parR, if_neg (by rw [e1]; omega), if_neg (by rw [hA]; omega), hN, if_neg (by omega), if_neg g3]
    | true =>
      obtain ⟨e1, e2⟩ := seg_yes hsegx htx
      have hQ : rpQ s a = a + x.length := by unfold rpQ; rw [e1]; rfl
      have hT : rpT s a = true := by unfold rpT; rw [hQ, hsegx.head, decide_eq_true (show a + x.length < s.length by omega)]; rfl
      have hsegy : Seg s (a + x.length + 1) y r := ⟨by
        rw [show a + x.length + 1 = a + (x.length + 1) by omega, ← List.drop_drop, hsegx.eq, List.drop_append, List.drop_eq_nil_of_le (by omega)]
        simp, by omega, hstop44⟩
      have hVd : rpV s a = rnV s (a + x.length + 1) := by rw [rpV, if_pos hT, hQ]
      have hAd : rpA s a = rnA s (a + x.length + 1) := by rw [rpA, if_pos hT, hQ]
      rw [Bool.true_and]
      cases hty : tnB y with
      | true =>
        obtain ⟨e3, e4⟩ := seg_yes hsegy hty
        have hN : rpN s a = a + p.length := by unfold rpN; rw [hAd, e3, hpl]; simp; omega
        rw [if_pos rfl, parR, if_neg (by rw [e1]; omega), if_neg (by rw [hAd, e3]; omega), e2, hVd, e4, hN, ← hO]
        exact (htail _ rfl).symm
      | false =>
        rw [if_neg (by decide)]
        rcases seg_no hsegy hty with e3 | ⟨k, hk, e3⟩
        · rw [parR, if_neg (by rw [e1]; omega), if_pos (by rw [hAd, e3]; decide)]
        · obtain ⟨g1, g3⟩ := bad_stop hsegy hk hy44
          have hN : rpN s a = a + x.length + 1 + k := by unfold rpN; rw [hAd, e3]; rfl
          rw [parR, if_neg (by rw [e1]; omega), if_neg (by rw [hAd, e3]; omega), hN, if_neg (by omega), if_neg g3]
end Go.Proofs.YtgfcdkbbkgamnaaDoor
