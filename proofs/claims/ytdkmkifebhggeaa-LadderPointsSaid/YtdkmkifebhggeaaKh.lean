/-
  Digits, and rows of them handed over and handed back. It speaks of no program.
-/
import Derived.Test.YtdkmkifebhggeaaKn
import Derived.Test.YtdkmkifebhggeaaSt
namespace Go.Proofs.Ytdkmkifebhggeaa
open Go Go.RowKit
set_option maxHeartbeats 4000000
set_option linter.unusedSimpArgs false
set_option linter.unusedVariables false
/-- Digits to a base, the lowest first. -/
def dv (B : Nat) : List Nat → Nat
  | [] => 0
  | x :: l => x + B * dv B l
def dlt (B : Nat) (l : List Nat) : Prop := ∀ i, l.getD i 0 < B
theorem dv_append (B : Nat) : ∀ (a b : List Nat), dv B (a ++ b) = dv B a + B ^ a.length * dv B b
  | [], b => by simp [dv]
  | x :: a, b => by
    rw [List.cons_append, dv, dv, dv_append B a b, List.length_cons, Nat.pow_succ]
    grind
theorem dv_take (B : Nat) : ∀ (l : List Nat) (i : Nat), dv B (l.take (i + 1)) = dv B (l.take i) + l.getD i 0 * B ^ i
  | [], i => by simp [dv]
  | x :: l, 0 => by simp [dv]
  | x :: l, i + 1 => by
    rw [List.take_succ_cons, List.take_succ_cons, dv, dv, dv_take B l i, List.getD_cons_succ, Nat.pow_succ]
    grind
theorem dv_all (B : Nat) (l : List Nat) (n : Nat) (h : l.length ≤ n) : dv B (l.take n) = dv B l := by rw [List.take_of_length_le h]
theorem dlt_cons {B x : Nat} {l : List Nat} (h : dlt B (x :: l)) : x < B ∧ dlt B l := ⟨h 0, fun i => h (i + 1)⟩
theorem dlt_nil {B : Nat} (hB : 0 < B) : dlt B [] := fun i => by simpa using hB
theorem dlt_mk {B x : Nat} {l : List Nat} (h : x < B) (hl : dlt B l) : dlt B (x :: l)
  | 0 => h
  | i + 1 => hl i
theorem dlt_append {B : Nat} : ∀ {a b : List Nat}, dlt B a → dlt B b → dlt B (a ++ b)
  | [], _, _, h => h
  | _ :: _, _, h, h' => dlt_mk (dlt_cons h).1 (dlt_append (dlt_cons h).2 h')
theorem dlt_set {B : Nat} {l : List Nat} (h : dlt B l) (i v : Nat) (hv : v < B) : dlt B (l.set i v) := fun j => by
  rw [List.getD_eq_getElem?_getD, List.getElem?_set]
  split
  · split
    · simpa using hv
    · simp; omega
  · rw [← List.getD_eq_getElem?_getD]; exact h j
theorem dv_lt {B : Nat} (hB : 0 < B) : ∀ {l : List Nat}, dlt B l → dv B l < B ^ l.length
  | [], _ => by simp [dv]
  | x :: l, h => by
    obtain ⟨h1, h2⟩ := dlt_cons h
    have ih := dv_lt hB h2
    rw [dv, List.length_cons, Nat.pow_succ]
    have : B * dv B l + B ≤ B * B ^ l.length := by rw [← Nat.mul_succ]; exact Nat.mul_le_mul_left B ih
    rw [Nat.mul_comm (B ^ l.length)]
    omega
theorem dv_inj {B : Nat} : ∀ {a b : List Nat}, dlt B a → dlt B b → a.length = b.length → dv B a = dv B b → a = b
  | [], [], _, _, _, _ => rfl
  | [], _ :: _, _, _, h, _ => by simp at h
  | _ :: _, [], _, _, h, _ => by simp at h
  | x :: a, y :: b, ha, hb, h, e => by
    obtain ⟨h1, h2⟩ := dlt_cons ha
    obtain ⟨h3, h4⟩ := dlt_cons hb
    simp only [dv] at e
    have e1 : x = y := by
      have := congrArg (· % B) e
      simp only [Nat.add_mul_mod_self_left, Nat.mod_eq_of_lt h1, Nat.mod_eq_of_lt h3] at this
      exact this
    subst e1
    have hB : 0 < B := by omega
    have e2 := Nat.eq_of_mul_eq_mul_left hB (Nat.add_left_cancel e)
    rw [dv_inj h2 h4 (by simpa using h) e2]
def digD (B : Nat) : Nat → Nat → List Nat
  | 0, _ => []
  | n + 1, v => v % B :: digD B n (v / B)
theorem digD_len (B : Nat) : ∀ n v, (digD B n v).length = n
  | 0, _ => rfl
  | n + 1, v => by rw [digD, List.length_cons, digD_len B n]
theorem digD_lt {B : Nat} (hB : 0 < B) : ∀ n v, dlt B (digD B n v)
  | 0, _ => dlt_nil hB
  | n + 1, v => dlt_mk (Nat.mod_lt _ hB) (digD_lt hB n _)
theorem digD_v (B : Nat) : ∀ n v, dv B (digD B n v) = v % B ^ n
  | 0, v => by simp [digD, dv, Nat.mod_one]
  | n + 1, v => by rw [digD, dv, digD_v B n, Nat.pow_succ, Nat.mul_comm (B ^ n), Nat.mod_mul]
theorem dig_eq {B : Nat} (hB : 0 < B) {l : List Nat} (h : dlt B l) : l = digD B l.length (dv B l) :=
  dv_inj h (digD_lt hB _ _) (digD_len B _ _).symm (by rw [digD_v, Nat.mod_eq_of_lt (dv_lt hB h)])
-- SUMS
def addG (B : Nat) (a b : List Nat) : Nat → List Nat × Nat
  | 0 => ([], 0)
  | i + 1 => ((addG B a b i).1 ++ [((addG B a b i).2 + a.getD i 0 + b.getD i 0) % B], ((addG B a b i).2 + a.getD i 0 + b.getD i 0) / B)
theorem addG_len (B : Nat) (a b : List Nat) : ∀ i, (addG B a b i).1.length = i
  | 0 => rfl
  | i + 1 => by rw [addG, List.length_append, addG_len B a b i]; rfl
theorem addG_car {B : Nat} (hB : 1 < B) {a b : List Nat} (ha : dlt B a) (hb : dlt B b) : ∀ i, (addG B a b i).2 ≤ 1
  | 0 => Nat.zero_le _
  | i + 1 => by
    have ih := addG_car hB ha hb i
    have h1 := ha i
    have h2 := hb i
    rw [addG]
    show _ / B ≤ 1
    rw [Nat.div_le_iff_le_mul (by omega)]
    omega
theorem addG_lt {B : Nat} (hB : 0 < B) (a b : List Nat) : ∀ i, dlt B (addG B a b i).1
  | 0 => dlt_nil hB
  | i + 1 => dlt_append (addG_lt hB a b i) (dlt_mk (Nat.mod_lt _ hB) (dlt_nil hB))
theorem addG_v (B : Nat) (a b : List Nat) : ∀ i, dv B (addG B a b i).1 + (addG B a b i).2 * B ^ i = dv B (a.take i) + dv B (b.take i)
  | 0 => by simp [addG, dv]
  | i + 1 => by
    have ih := addG_v B a b i
    have hm := Nat.mod_add_div ((addG B a b i).2 + a.getD i 0 + b.getD i 0) B
    rw [dv_take, dv_take, addG]
    simp only
    rw [dv_append, addG_len]
    simp only [dv, Nat.mul_zero, Nat.add_zero]
    rw [Nat.pow_succ]
    generalize B ^ i = Q at *
    generalize (addG B a b i).2 = c at *
    generalize dv B (addG B a b i).1 = L at *
    generalize a.getD i 0 = x at *
    generalize b.getD i 0 = y at *
    generalize dv B (a.take i) = V at *
    generalize dv B (b.take i) = W at *
    generalize (c + x + y) % B = m at *
    generalize (c + x + y) / B = d at *
    have e : Q * m + d * (Q * B) = Q * (c + x + y) := by rw [← hm]; grind
    rw [Nat.add_assoc, e]
    grind
def addLen (B : Nat) (a b : List Nat) : Nat := if (addG B a b (max a.length b.length)).2 = 0 then max a.length b.length else max a.length b.length + 1
def addL (B : Nat) (a b : List Nat) : List Nat := (addG B a b (addLen B a b)).1
theorem addL_len (B : Nat) (a b : List Nat) : (addL B a b).length = addLen B a b := addG_len _ _ _ _
theorem addLen_car {B : Nat} (hB : 1 < B) {a b : List Nat} (ha : dlt B a) (hb : dlt B b) : (addG B a b (addLen B a b)).2 = 0 := by
  unfold addLen
  split
  · assumption
  · have h1 := addG_car hB ha hb (max a.length b.length)
    rw [addG]
    simp only [List.getD_eq_getElem?_getD, List.getElem?_eq_none (Nat.le_max_left a.length b.length), List.getElem?_eq_none (Nat.le_max_right a.length b.length), Option.getD_none, Nat.add_zero]
    exact Nat.div_eq_of_lt (by omega)
theorem addL_v {B : Nat} (hB : 1 < B) {a b : List Nat} (ha : dlt B a) (hb : dlt B b) : dv B (addL B a b) = dv B a + dv B b := by
  have h := addG_v B a b (addLen B a b)
  rw [addLen_car hB ha hb, Nat.zero_mul, Nat.add_zero] at h
  have h1 : a.length ≤ addLen B a b ∧ b.length ≤ addLen B a b := by unfold addLen; split <;> omega
  rw [dv_all B a _ h1.1, dv_all B b _ h1.2] at h
  exact h
theorem addL_lt {B : Nat} (hB : 0 < B) (a b : List Nat) : dlt B (addL B a b) := addG_lt hB a b _
theorem addLen_bd (B : Nat) (a b : List Nat) : max a.length b.length ≤ addLen B a b ∧ addLen B a b ≤ max a.length b.length + 1 := by unfold addLen; split <;> omega
-- PRODUCTS
def mulIn (B : Nat) (l b : List Nat) (x i : Nat) : Nat → List Nat × Nat
  | 0 => (l, 0)
  | k + 1 => ((mulIn B l b x i k).1.set (i + k) (((mulIn B l b x i k).1.getD (i + k) 0 + x * b.getD k 0 + (mulIn B l b x i k).2) % B), ((mulIn B l b x i k).1.getD (i + k) 0 + x * b.getD k 0 + (mulIn B l b x i k).2) / B)
def mulOut (B : Nat) (a b : List Nat) : Nat → List Nat
  | 0 => List.replicate (a.length + b.length) 0
  | i + 1 => (mulIn B (mulOut B a b i) b (a.getD i 0) i b.length).1.set (i + b.length) ((mulIn B (mulOut B a b i) b (a.getD i 0) i b.length).1.getD (i + b.length) 0 + (mulIn B (mulOut B a b i) b (a.getD i 0) i b.length).2)
theorem mulIn_len (B : Nat) (l b : List Nat) (x i : Nat) : ∀ k, (mulIn B l b x i k).1.length = l.length
  | 0 => rfl
  | k + 1 => by rw [mulIn, List.length_set, mulIn_len B l b x i k]
theorem mulOut_len (B : Nat) (a b : List Nat) : ∀ i, (mulOut B a b i).length = a.length + b.length
  | 0 => by rw [mulOut, List.length_replicate]
  | i + 1 => by rw [mulOut, List.length_set, mulIn_len, mulOut_len B a b i]
theorem dv_set (B : Nat) : ∀ (l : List Nat) (i v : Nat), i < l.length → dv B (l.set i v) + l.getD i 0 * B ^ i = dv B l + v * B ^ i
  | [], i, v, h => by simp at h
  | x :: l, 0, v, h => by simp [dv]; omega
  | x :: l, i + 1, v, h => by
    have ih := dv_set B l i v (by simpa using h)
    rw [List.set_cons_succ, dv, dv, List.getD_cons_succ, Nat.pow_succ]
    have := congrArg (B * ·) ih
    simp only [Nat.mul_add] at this
    grind
theorem mulIn_v (B : Nat) (l b : List Nat) (x i : Nat) : ∀ k, i + k ≤ l.length → dv B (mulIn B l b x i k).1 + (mulIn B l b x i k).2 * B ^ (i + k) = dv B l + x * B ^ i * dv B (b.take k)
  | 0, _ => by simp [mulIn, dv]
  | k + 1, h => by
    have ih := mulIn_v B l b x i k (by omega)
    have hs := dv_set B (mulIn B l b x i k).1 (i + k) (((mulIn B l b x i k).1.getD (i + k) 0 + x * b.getD k 0 + (mulIn B l b x i k).2) % B) (by rw [mulIn_len]; omega)
    have hm := Nat.mod_add_div ((mulIn B l b x i k).1.getD (i + k) 0 + x * b.getD k 0 + (mulIn B l b x i k).2) B
    rw [dv_take, mulIn]
    simp only
    rw [show i + (k + 1) = i + k + 1 by omega, Nat.pow_succ]
    rw [Nat.pow_add] at *
    generalize B ^ i = Q at *
    generalize B ^ k = R at *
    generalize dv B (mulIn B l b x i k).1 = L at *
    generalize (mulIn B l b x i k).1.getD (i + k) 0 = y at *
    generalize (mulIn B l b x i k).2 = c at *
    generalize b.getD k 0 = z at *
    generalize dv B (b.take k) = V at *
    generalize (y + x * z + c) % B = m at *
    generalize (y + x * z + c) / B = d at *
    generalize dv B ((mulIn B l b x i k).1.set (i + k) m) = L' at *
    have e : m * (Q * R) + d * (Q * R * B) = (y + x * z + c) * (Q * R) := by rw [← hm]; grind
    have e2 : (y + x * z + c) * (Q * R) = y * (Q * R) + x * Q * (z * R) + c * (Q * R) := by grind
    have e3 : x * Q * (V + z * R) = x * Q * V + x * Q * (z * R) := by grind
    rw [e3]
    omega
theorem mulOut_v (B : Nat) (a b : List Nat) : ∀ i, i ≤ a.length → dv B (mulOut B a b i) = dv B (a.take i) * dv B b
  | 0, _ => by
    have : ∀ n, dv B (List.replicate n 0) = 0 := fun n => by
      induction n with
      | zero => rfl
      | succ n ih => rw [List.replicate_succ, dv, ih]; rfl
    simp [mulOut, this, dv]
  | i + 1, h => by
    have ih := mulOut_v B a b i (by omega)
    have h1 := mulIn_v B (mulOut B a b i) b (a.getD i 0) i b.length (by rw [mulOut_len]; omega)
    rw [dv_all B b _ (Nat.le_refl _), ih] at h1
    have hs := dv_set B (mulIn B (mulOut B a b i) b (a.getD i 0) i b.length).1 (i + b.length) ((mulIn B (mulOut B a b i) b (a.getD i 0) i b.length).1.getD (i + b.length) 0 + (mulIn B (mulOut B a b i) b (a.getD i 0) i b.length).2) (by rw [mulIn_len, mulOut_len]; omega)
    rw [dv_take, mulOut, Nat.add_mul]
    rw [Nat.add_mul] at hs
    have e : a.getD i 0 * B ^ i * dv B b = a.getD i 0 * B ^ i * dv B b := rfl
    omega
theorem mulIn_far (B : Nat) (l b : List Nat) (x i : Nat) : ∀ k j, i + k ≤ j → (mulIn B l b x i k).1.getD j 0 = l.getD j 0
  | 0, _, _ => rfl
  | k + 1, j, h => by
    rw [mulIn]
    simp only
    rw [List.getD_eq_getElem?_getD, List.getElem?_set_ne (by omega), ← List.getD_eq_getElem?_getD]
    exact mulIn_far B l b x i k j (by omega)
theorem mulIn_lt {B : Nat} (hB : 1 < B) {l b : List Nat} (hl : dlt B l) (hb : dlt B b) {x : Nat} (hx : x < B) (i : Nat) : ∀ k, dlt B (mulIn B l b x i k).1 ∧ (mulIn B l b x i k).2 < B
  | 0 => ⟨hl, by show 0 < B; omega⟩
  | k + 1 => by
    obtain ⟨h1, h2⟩ := mulIn_lt hB hl hb hx i k
    refine ⟨dlt_set h1 _ _ (Nat.mod_lt _ (by omega)), ?_⟩
    have h3 := h1 (i + k)
    have h4 := hb k
    have h5 : x * b.getD k 0 ≤ (B - 1) * (B - 1) := Nat.mul_le_mul (by omega) (by omega)
    rw [mulIn]
    show _ / B < B
    rw [Nat.div_lt_iff_lt_mul (by omega)]
    obtain ⟨c, rfl⟩ : ∃ c, B = c + 1 := ⟨B - 1, by omega⟩
    simp only [Nat.add_sub_cancel] at h5
    have : (c + 1) * (c + 1) = c * c + 2 * c + 1 := by grind
    omega
theorem mulOut_lt {B : Nat} (hB : 1 < B) {a b : List Nat} (ha : dlt B a) (hb : dlt B b) : ∀ i, i ≤ a.length → dlt B (mulOut B a b i) ∧ ∀ j, i + b.length ≤ j → (mulOut B a b i).getD j 0 = 0
  | 0, _ => by
    have : ∀ j, (List.replicate (a.length + b.length) 0).getD j 0 = 0 := fun j => by
      rw [List.getD_eq_getElem?_getD, List.getElem?_replicate]; split <;> rfl
    exact ⟨fun j => by rw [mulOut, this]; omega, fun j _ => by rw [mulOut, this]⟩
  | i + 1, h => by
    obtain ⟨h1, h2⟩ := mulOut_lt hB ha hb i (by omega)
    obtain ⟨h3, h4⟩ := mulIn_lt hB h1 hb (ha i) i b.length
    have hz := mulIn_far B (mulOut B a b i) b (a.getD i 0) i b.length (i + b.length) (Nat.le_refl _)
    rw [h2 _ (Nat.le_refl _)] at hz
    refine ⟨?_, fun j hj => ?_⟩
    · rw [mulOut, hz, Nat.zero_add]
      exact dlt_set h3 _ _ h4
    · rw [mulOut, List.getD_eq_getElem?_getD, List.getElem?_set_ne (by omega), ← List.getD_eq_getElem?_getD, mulIn_far _ _ _ _ _ _ _ (by omega)]
      exact h2 j (by omega)
def timesL (B : Nat) (a b : List Nat) : List Nat := mulOut B a b a.length
theorem timesL_len (B : Nat) (a b : List Nat) : (timesL B a b).length = a.length + b.length := mulOut_len _ _ _ _
theorem timesL_v (B : Nat) (a b : List Nat) : dv B (timesL B a b) = dv B a * dv B b := by
  rw [timesL, mulOut_v B a b _ (Nat.le_refl _), List.take_length]
theorem timesL_lt {B : Nat} (hB : 1 < B) {a b : List Nat} (ha : dlt B a) (hb : dlt B b) : dlt B (timesL B a b) := (mulOut_lt hB ha hb _ (Nat.le_refl _)).1
-- ROWS
def natL : Lay Nat where
  st := 1
  enc x := [.num (x : Int)]
  d := 0
  up x j ys := match ys with
    | [.num y] => if j = 0 then (if 0 ≤ y then some y.toNat else none) else none
    | _ => none
  toB := none
  ofB := none
  len _ := rfl
  put x j ys y h := by
    split at h
    · split at h
      · rename_i h0
        split at h
        · rename_i h1; injection h with h; subst h; subst h0; simp [Int.toNat_of_nonneg h1]
        · cases h
      · cases h
    · cases h
  plain x v h := by simp at h; subst h; trivial
  bare x v h := by simp at h; subst h; trivial
  toB_ok f h x := by cases h
  ofB_ok f h x := by cases h
theorem natL_st : natL.st = 1 := rfl
theorem natL_d : natL.d = 0 := rfl
theorem natL_enc (x : Nat) : natL.enc x = [.num (x : Int)] := rfl
theorem natL_up (x y : Nat) : natL.up x 0 [.num (y : Int)] = some y := by simp [natL]
theorem natL_up' (x y : Nat) : natL.up x 0 [.num (OfNat.ofNat y : Int)] = some y := by
  show natL.up x 0 [.num (y : Int)] = some y
  exact natL_up x y
theorem nat_flat (l : List Nat) : l.flatMap natL.enc = l.map fun n => .num (n : Int) := by
  show l.flatMap (fun x : Nat => [AV.num (x : Int)]) = _
  induction l with
  | nil => rfl
  | cons x l ih => rw [List.flatMap_cons, ih]; rfl
def toN : AV → Nat
  | .num x => x.toNat
  | _ => 0
def natsOf (o : SObj) : List Nat := o.flat.map toN
def rowOf (o : SObj) : Prop := o.live = true ∧ o.stride = 1 ∧ o.flat = (natsOf o).map fun n => .num (n : Int)
theorem natsOf_arr (l : List Nat) : natsOf (.arr Nat natL l) = l := by
  unfold natsOf
  show (l.flatMap natL.enc).map toN = l
  rw [nat_flat, List.map_map]
  conv => rhs; rw [← List.map_id l]
  exact List.map_congr_left fun x _ => by simp [toN]
theorem natsOf_cells (s : Nat) (xs : List AV) : natsOf (.cells s xs) = xs.map toN := rfl
theorem rowOf_arr (l : List Nat) : rowOf (.arr Nat natL l) = True := by
  refine propext ⟨fun _ => trivial, fun _ => ⟨rfl, rfl, ?_⟩⟩
  rw [natsOf_arr]
  exact nat_flat l
theorem rowOf_cells (xs : List AV) : rowOf (.cells 1 xs) = (xs = (xs.map toN).map fun n => .num (n : Int)) :=
  propext ⟨fun h => h.2.2, fun h => ⟨rfl, rfl, h⟩⟩
theorem simE_row {o : SObj} (h : rowOf o) (w : Bool) : SimE ⟨.arr Nat natL (natsOf o), w⟩ ⟨o, w⟩ := ⟨h.1.symm, h.2.1.symm, (nat_flat _).trans h.2.2.symm, rfl⟩
noncomputable def envR (ga : Nat → Option Con) (nt : Nat) (keys : List Nat) : Env := ⟨ty, ga, [], nt, keys, []⟩
theorem envR_ok {ga : Nat → Option Con} (h : GaOk Try.prog ga) (nt : Nat) (keys : List Nat) : EnvOk Try.prog (envR ga nt keys) := ⟨ty_ok, h, by first | rfl | decide⟩
/-- Contracts that read rows of digits and hand a new one back. -/
def conN0 (F : List CV → Option (SV × List Nat × List Prop)) : Con := ⟨false, fun args os => match os with
  | [] => match F args with
    | some (v, r, ob) => some (v, [], [.arr Nat natL r], ob)
    | none => none
  | _ => none⟩
def conN1 (F : List CV → List Nat → Option (SV × List Nat × List Prop)) : Con := ⟨false, fun args os => match os with
  | [oa] => match F args (natsOf oa) with
    | some (v, r, ob) => some (v, [], [.arr Nat natL r], rowOf oa :: ob)
    | none => none
  | _ => none⟩
def conN2 (F : List CV → List Nat → List Nat → Option (SV × List Nat × List Prop)) : Con := ⟨false, fun args os => match os with
  | [oa, ob] => match F args (natsOf oa) (natsOf ob) with
    | some (v, r, obl) => some (v, [], [.arr Nat natL r], rowOf oa :: rowOf ob :: obl)
    | none => none
  | _ => none⟩
section
variable {P : Program} {f : FuncId} {fn : Func}
theorem conN0_ok (hf : P.funcs[f]? = some fn) (hb : fn.body.isSome = true) (hn : (fn.name == "runtime.NumGoroutine") = false) {F : List CV → Option (SV × List Nat × List Prop)}
    (h : ∀ args v r ob, F args = some (v, r, ob) → AllT ob → Tri P f args [] v [(0, ⟨.arr Nat natL r, true⟩)]) : ConOk P f (conN0 F) := by
  refine .inl ⟨⟨fn, hf, hb, hn⟩, fun args es res upd news ob hr hob _ => ?_⟩
  unfold conN0 at hr
  simp only at hr
  split at hr
  · rename_i hes
    obtain rfl : es = [] := List.map_eq_nil_iff.1 hes
    cases hF : F args with
    | none => rw [hF] at hr; cases hr
    | some q =>
      obtain ⟨v, r, ob'⟩ := q
      simp only [hF, Option.some.injEq, Prod.mk.injEq] at hr
      obtain ⟨rfl, rfl, rfl, rfl⟩ := hr
      exact h args v r ob' hF hob
  · cases hr
theorem conN1_ok (hf : P.funcs[f]? = some fn) (hb : fn.body.isSome = true) (hn : (fn.name == "runtime.NumGoroutine") = false) {F : List CV → List Nat → Option (SV × List Nat × List Prop)}
    (h : ∀ args a v r ob, F args a = some (v, r, ob) → AllT ob → ∀ wa, Tri P f args [(0, ⟨.arr Nat natL a, wa⟩)] v [(0, ⟨.arr Nat natL a, wa⟩), (1, ⟨.arr Nat natL r, true⟩)]) : ConOk P f (conN1 F) := by
  refine .inl ⟨⟨fn, hf, hb, hn⟩, fun args es res upd news ob hr hob _ => ?_⟩
  unfold conN1 at hr
  simp only at hr
  split at hr
  · rename_i oa hes
    obtain ⟨e, rfl⟩ : ∃ e, es = [e] := by
      match es, hes with
      | [e], _ => exact ⟨e, rfl⟩
    simp only [List.map_cons, List.map_nil, List.cons.injEq, and_true] at hes
    subst hes
    cases hF : F args (natsOf e.o) with
    | none => rw [hF] at hr; cases hr
    | some q =>
      obtain ⟨v, r, ob'⟩ := q
      simp only [hF, Option.some.injEq, Prod.mk.injEq] at hr
      obtain ⟨rfl, rfl, rfl, rfl⟩ := hr
      have s1 := simE_row hob.1 e.wr
      exact (h args _ v r ob' hF hob.2 e.wr).sim (.cons s1 .nil) (.cons s1 (.cons (.refl _) .nil))
  · cases hr
theorem conN2_ok (hf : P.funcs[f]? = some fn) (hb : fn.body.isSome = true) (hn : (fn.name == "runtime.NumGoroutine") = false) {F : List CV → List Nat → List Nat → Option (SV × List Nat × List Prop)}
    (h : ∀ args a b v r ob, F args a b = some (v, r, ob) → AllT ob → ∀ wa wb, Tri P f args [(0, ⟨.arr Nat natL a, wa⟩), (1, ⟨.arr Nat natL b, wb⟩)] v [(0, ⟨.arr Nat natL a, wa⟩), (1, ⟨.arr Nat natL b, wb⟩), (2, ⟨.arr Nat natL r, true⟩)]) : ConOk P f (conN2 F) := by
  refine .inl ⟨⟨fn, hf, hb, hn⟩, fun args es res upd news ob hr hob _ => ?_⟩
  unfold conN2 at hr
  simp only at hr
  split at hr
  · rename_i oa ob' hes
    obtain ⟨e, e', rfl⟩ : ∃ e e', es = [e, e'] := by
      match es, hes with
      | [e, e'], _ => exact ⟨e, e', rfl⟩
    simp only [List.map_cons, List.map_nil, List.cons.injEq, and_true] at hes
    obtain ⟨rfl, rfl⟩ := hes
    cases hF : F args (natsOf e.o) (natsOf e'.o) with
    | none => rw [hF] at hr; cases hr
    | some q =>
      obtain ⟨v, r, ob'⟩ := q
      simp only [hF, Option.some.injEq, Prod.mk.injEq] at hr
      obtain ⟨rfl, rfl, rfl, rfl⟩ := hr
      have s1 := simE_row hob.1 e.wr
      have s2 := simE_row hob.2.1 e'.wr
      exact (h args _ _ v r ob' hF hob.2.2 e.wr e'.wr).sim (.cons s1 (.cons s2 .nil)) (.cons s1 (.cons s2 (.cons (.refl _) .nil)))
  · cases hr
end
end Go.Proofs.Ytdkmkifebhggeaa
