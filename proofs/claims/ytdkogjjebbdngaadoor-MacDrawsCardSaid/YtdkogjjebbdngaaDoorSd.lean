/-
  A walk by reckoning, part 6: parts of values, bounds, addresses. It speaks of no program.
-/
import Derived.Test.YtdkogjjebbdngaaDoorSb
namespace Go.Proofs.YtdkogjjebbdngaaDoor
open Go Go.RowKit
set_option linter.unusedVariables false
set_option linter.unusedSimpArgs false

theorem run_ty {P : Program} {T : Nat → Option TyI} (hT : TyOk P T) {t : Nat} {i : TyI} (ht : T t = some i) (w : World) : (underlying t).run P w = .ok i.d w := run_underlying (hT t i ht).1 w
theorem run_size {P : Program} {T : Nat → Option TyI} (hT : TyOk P T) {t : Nat} {i : TyI} (ht : T t = some i) (w : World) : (sizeOf t).run P w = .ok i.size w := by
  obtain ⟨_, nf, h1, h2, _⟩ := hT t i ht
  simp [sizeOf, typeInfo, h1, h2]
theorem run_isAgg {P : Program} {T : Nat → Option TyI} (hT : TyOk P T) {t : Nat} {i : TyI} (ht : T t = some i) (w : World) : (isAgg t).run P w = .ok i.d.isRow w := by
  unfold isAgg
  rw [Sem.run_bind, run_ty hT ht w]
  cases i.d <;> rfl
/-- A part of a value of more cells. -/
def partS (i : TyI) (xs : List AV) (off : Nat) : CV := if i.d.isRow then .agg ((xs.drop off).take i.size) else .one (match xs[off]? with | some x => x | none => .junk)
theorem part_run {P : Program} {T : Nat → Option TyI} (hT : TyOk P T) {t : Nat} {i : TyI} (ht : T t = some i) {r : Lc} {xs : List AV} {cs : List Value} (h : All2 (AV.rel r) xs cs) (off : Nat) (hl : off + i.size ≤ xs.length) (h1 : i.d.isRow = false → i.size = 1) (w : World) :
    ∃ u, (part t cs.toArray off).run P w = .ok u w ∧ (partS i xs off).rel r u := by
  unfold part
  simp only [Sem.run_bind, run_isAgg hT ht w, Result.andThen_ok]
  unfold partS
  by_cases hr : i.d.isRow = true
  · simp only [hr, if_true, Sem.run_bind, run_size hT ht w, Result.andThen_ok, Sem.run_pure]
    refine ⟨_, rfl, (cs.drop off).take i.size, ?_, (h.drop off).take i.size⟩
    simp [List.extract_eq_take_drop]
  · have hr' : i.d.isRow = false := by simpa using hr
    have := h1 hr'
    obtain ⟨x, hx⟩ : ∃ x, xs[off]? = some x := ⟨xs[off], List.getElem?_eq_getElem (by omega)⟩
    obtain ⟨u, hu, hru⟩ := h.get off x hx
    simp only [hr', hx]
    refine ⟨u, ?_, hru⟩
    simp [hu]
section
variable {P : Program} {G : List GFact} {T : Nat → Option TyI} {o : Oper} {sv : Operand → SV} {ev : Operand → Value} {r : Lc}
theorem actOk_move (he : EvOk r sv ev) {x : Operand} (ho : o.op = .move x ∨ o.op = .assign x) : ActOk P G o ev r (pureS (sv x) []) :=
  actOk_pure fun _ w => ⟨ev x, by unfold execOp; rcases ho with ho | ho <;> rw [ho] <;> rfl, he x⟩
theorem actOk_extract (he : EvOk r sv ev) {x : Operand} {i : Nat} (ho : o.op = .extract x i) {xs : List CV} (hx : sv x = .tup xs) {c : CV} (hc : xs[i]? = some c) : ActOk P G o ev r (pureS (.c c) []) :=
  actOk_pure fun _ w => by
    have h := he x
    rw [hx] at h
    obtain ⟨cs, h1, h2⟩ := h
    obtain ⟨u, hu, hr⟩ := h2.get i c hc
    refine ⟨u, ?_, hr⟩
    unfold execOp
    rw [ho]
    simp [h1, Instr.extract, hu]
theorem idx_bytes (l : List UInt8) (i : Nat) (h : i < l.length) : ((⟨l.toArray⟩ : ByteArray)[i]'(by simpa [ByteArray.size] using h)) = l.getD i 0 := by
  rw [List.getD_eq_getElem?_getD, List.getElem?_eq_getElem h]; rfl
theorem actOk_index (hT : TyOk P T) (he : EvOk r sv ev) {t : TypeId} {x y : Operand} (ho : o.op = .index t x y) {ti : TyI} (ht : T t = some ti) (hd : ti.d = .string) {l : List UInt8} (hx : sv x = .c (.one (.str l))) {b : AV} (hy : sv y = .c (.one b)) {i : Int} (hi : b.toI = some i) :
    ActOk P G o ev r (pureA (.u8 (l.getD i.toNat 0)) [0 ≤ i ∧ i < l.length]) :=
  actOk_pure fun hob w => by
    have h1 := he x
    have h2 := he y
    rw [hx] at h1
    rw [hy] at h2
    obtain ⟨k, hk⟩ := AV.toI_rel hi h2
    have h1' : ev x = .string ⟨l.toArray⟩ := h1
    have hb : 0 ≤ i ∧ i < (l.length : Int) := hob.1
    have hu : P.underlying t = some .string := by rw [(hT t ti ht).1, hd]
    refine ⟨_, ?_, rfl⟩
    unfold execOp
    rw [ho]
    simp only [h1', hk, Sem.run_bind, run_index_string w t _ k i hu]
    rw [dif_pos (show 0 ≤ i ∧ i < ((⟨l.toArray⟩ : ByteArray).size : Int) from hb), idx_bytes l i.toNat (by omega)]
    rfl
theorem actOk_indexArr (hT : TyOk P T) (he : EvOk r sv ev) {t : TypeId} {x y : Operand} (ho : o.op = .index t x y) {ti ei : TyI} (ht : T t = some ti) {n : Nat} {e : TypeId} (hd : ti.d = .array n e) (hE : T e = some ei) (h1 : ei.d.isRow = false → ei.size = 1)
    {xs : List AV} (hx : sv x = .c (.agg xs)) {b : AV} (hy : sv y = .c (.one b)) {i : Int} (hi : b.toI = some i) :
    ActOk P G o ev r (pureS (.c (partS ei xs (i.toNat * ei.size))) [0 ≤ i ∧ i < n ∧ i.toNat * ei.size + ei.size ≤ xs.length]) :=
  actOk_pure fun hob w => by
    have h1x := he x
    have h2 := he y
    rw [hx] at h1x
    rw [hy] at h2
    obtain ⟨k, hk⟩ := AV.toI_rel hi h2
    obtain ⟨cs, hcs, hall⟩ := h1x
    obtain ⟨hb0, hb1, hb2⟩ := hob.1
    obtain ⟨u, hu, hr⟩ := part_run (P := P) hT hE hall (i.toNat * ei.size) hb2 h1 w
    refine ⟨u, ?_, hr⟩
    unfold execOp
    rw [ho]
    have hun : (underlying t).run P w = .ok (.array n e) w := by rw [← hd]; exact run_ty hT ht w
    simp only [hcs, hk, Sem.run_bind, Instr.index, asIntOf, Sem.run_pure, Result.andThen_ok, hun, hb0, hb1, and_self, if_true, run_size hT hE w, hu]
theorem actOk_field (hT : TyOk P T) (he : EvOk r sv ev) {t : TypeId} {x : Operand} {f : Nat} (ho : o.op = .field t x f) {ti : TyI} (ht : T t = some ti) {fs : Array Field} (hd : ti.d = .struct fs) {fd : Field} (hf : fs[f]? = some fd) {fi : TyI} (hE : T fd.type = some fi) (h1 : fi.d.isRow = false → fi.size = 1)
    {xs : List AV} (hx : sv x = .c (.agg xs)) : ActOk P G o ev r (pureS (.c (partS fi xs fd.offset)) [fd.offset + fi.size ≤ xs.length]) :=
  actOk_pure fun hob w => by
    have h1x := he x
    rw [hx] at h1x
    obtain ⟨cs, hcs, hall⟩ := h1x
    obtain ⟨u, hu, hr⟩ := part_run (P := P) hT hE hall fd.offset hob.1 h1 w
    refine ⟨u, ?_, hr⟩
    unfold execOp
    rw [ho]
    have hun : (underlying t).run P w = .ok (.struct fs) w := by rw [← hd]; exact run_ty hT ht w
    simp only [hcs, Sem.run_bind, Instr.field, Sem.run_pure, Result.andThen_ok, hun, hf, asAgg, hu]
/-- The bounds of a slice expression. -/
def loOf : Option SV → Option Int
  | none => some 0
  | some (.c (.one a)) => a.toI
  | _ => none
def hiOf (n : Nat) : Option SV → Option Int
  | none => some (n : Int)
  | some (.c (.one a)) => a.toI
  | _ => none
theorem bounds_run (he : EvOk r sv ev) {lo hi : Option Operand} {l h : Int} {n c : Nat} (hl : loOf (lo.map sv) = some l) (hh : hiOf n (hi.map sv) = some h) (h0 : 0 ≤ l) (h1 : l ≤ h) (h2 : h ≤ n) (hnc : n ≤ c) (w : World) (isS : Bool) :
    (Instr.sliceBounds isS n c (lo.map ev) (hi.map ev) none).run P w = .ok (l.toNat, h.toNat, c) w := by
  have A : ∀ v : Value, (∃ k, v = .int k l) → ∀ code, (Instr.sliceBound v h.toNat code).run P w = .ok l.toNat w := fun v ⟨k, hv⟩ code => by
    subst hv; exact run_sliceBound w k l h.toNat code h0 (by omega)
  have B : ∀ v : Value, (∃ k, v = .int k h) → ∀ code, (Instr.sliceBound v c code).run P w = .ok h.toNat w := fun v ⟨k, hv⟩ code => by
    subst hv; exact run_sliceBound w k h c code (by omega) (by omega)
  have al : ∀ x, lo = some x → ∃ k, ev x = .int k l := fun x hx => by
    subst hx
    have h3 := he x
    simp only [Option.map] at hl
    cases hs : sv x with
    | tup _ => rw [hs] at hl; simp [loOf] at hl
    | c y =>
      cases y with
      | agg _ => rw [hs] at hl; simp [loOf] at hl
      | one a => rw [hs] at hl h3; exact AV.toI_rel hl h3
  have ah : ∀ x, hi = some x → ∃ k, ev x = .int k h := fun x hx => by
    subst hx
    have h3 := he x
    simp only [Option.map] at hh
    cases hs : sv x with
    | tup _ => rw [hs] at hh; simp [hiOf] at hh
    | c y =>
      cases y with
      | agg _ => rw [hs] at hh; simp [hiOf] at hh
      | one a => rw [hs] at hh h3; exact AV.toI_rel hh h3
  unfold Instr.sliceBounds
  cases lo with
  | none =>
    have e0 : l = 0 := by simpa [loOf] using hl.symm
    subst e0
    cases hi with
    | none =>
      have e1 : h = n := by simpa [hiOf] using hh.symm
      subst e1
      simp
    | some y => simp [B _ (ah y rfl)]
  | some x =>
    cases hi with
    | none =>
      have e1 : h = n := by simpa [hiOf] using hh.symm
      subst e1
      have := A _ (al x rfl)
      simp only [Int.toNat_natCast] at this
      simp [this]
    | some y => simp [B _ (ah y rfl), A _ (al x rfl)]
def cutStr (l : List UInt8) (lo hi : Option SV) (a b : Int) : List UInt8 :=
  match lo, hi with
  | none, none => l
  | none, some _ => l.take b.toNat
  | some _, none => l.drop a.toNat
  | some _, some _ => (l.drop a.toNat).take (b.toNat - a.toNat)
theorem extract_mk (l : List UInt8) (a b : Nat) : (⟨l.toArray⟩ : ByteArray).extract a b = ⟨((l.drop a).take (b - a)).toArray⟩ := by
  apply ByteArray.ext
  rw [ByteArray.data_extract]
  simp [List.extract_eq_take_drop]
theorem actOk_sliceStr (hT : TyOk P T) (he : EvOk r sv ev) {t : TypeId} {x : Operand} {lo hi : Option Operand} (ho : o.op = .slice t x lo hi none) {ti : TyI} (ht : T t = some ti) (hd : ti.d = .string) {l : List UInt8} (hx : sv x = .c (.one (.str l)))
    {a b : Int} (hl : loOf (lo.map sv) = some a) (hh : hiOf l.length (hi.map sv) = some b) : ActOk P G o ev r (pureA (.str (cutStr l (lo.map sv) (hi.map sv) a b)) [0 ≤ a ∧ a ≤ b ∧ b ≤ l.length]) :=
  actOk_pure fun hob w => by
    have h1 := he x
    rw [hx] at h1
    have h1' : ev x = .string ⟨l.toArray⟩ := h1
    obtain ⟨hb0, hb1, hb2⟩ := hob.1
    have hb := bounds_run (P := P) he hl hh hb0 hb1 hb2 (Nat.le_refl _) w false
    refine ⟨.string ((⟨l.toArray⟩ : ByteArray).extract a.toNat b.toNat), ?_, ?_⟩
    · unfold execOp
      rw [ho]
      have hun : (underlying t).run P w = .ok .string w := by rw [← hd]; exact run_ty hT ht w
      have hsz : (⟨l.toArray⟩ : ByteArray).size = l.length := rfl
      simp only [h1', Sem.run_bind, Instr.sliceAt, Instr.slice, hun, Result.andThen_ok, Option.map_none, Option.isSome_none, hsz, Bool.false_eq_true, if_false, Sem.run_bind, hb, Sem.run_pure]
    · rw [extract_mk]
      simp only [AV.rel, SV.rel, CV.rel]
      congr 3
      unfold cutStr
      cases lo with
      | none =>
        have e0 : a = 0 := by simpa [loOf] using hl.symm
        subst e0
        cases hi with
        | none =>
          have e1 : b = l.length := by simpa [hiOf] using hh.symm
          subst e1
          simp
        | some y => simp
      | some z =>
        cases hi with
        | none =>
          have e1 : b = l.length := by simpa [hiOf] using hh.symm
          subst e1
          simp only [Option.map_some, Option.map_none, Int.toNat_natCast]
          rw [List.take_of_length_le (by simp)]
        | some y => rfl
theorem actOk_sliceSl (hT : TyOk P T) (he : EvOk r sv ev) {t : TypeId} {x : Operand} {lo hi : Option Operand} (ho : o.op = .slice t x lo hi none) {ti ei : TyI} (ht : T t = some ti) {e : TypeId} (hd : ti.d = .slice e) (hE : T e = some ei) {id k n : Nat} (hx : sv x = .c (.one (.sl id k ei.size n)))
    {a b : Int} (hl : loOf (lo.map sv) = some a) (hh : hiOf n (hi.map sv) = some b) : ActOk P G o ev r (pureA (.sl id (k + a.toNat) ei.size (b.toNat - a.toNat)) [0 ≤ a ∧ a ≤ b ∧ b ≤ n]) :=
  actOk_pure fun hob w => by
    have h1 := he x
    rw [hx] at h1
    obtain ⟨hb0, hb1, hb2⟩ := hob.1
    have hun : (underlying t).run P w = .ok (.slice e) w := by rw [← hd]; exact run_ty hT ht w
    rcases h1 with ⟨hid, hk, hn, av, hv⟩ | ⟨g, c, off, hid, hc, hoff, hv⟩
    · subst hk; subst hn
      have hb := bounds_run (P := P) (c := 0) he hl hh hb0 hb1 hb2 (Nat.le_refl _) w true
      have ha : a = 0 := by omega
      have hbb : b = 0 := by omega
      subst ha; subst hbb
      refine ⟨.slice av 0 0, ?_, .inl ⟨hid, rfl, rfl, _, rfl⟩⟩
      unfold execOp
      rw [ho]
      cases av with
      | none =>
        simp only [hv, Sem.run_bind, Instr.sliceAt, Instr.slice, hun, Result.andThen_ok, Option.map_none, hb, Sem.run_pure, run_size hT hE w]
        rfl
      | some av =>
        simp only [hv, Sem.run_bind, Instr.sliceAt, Instr.slice, hun, Result.andThen_ok, Option.map_none, hb, Sem.run_pure, run_size hT hE w]
        rfl
    · have hb := bounds_run (P := P) (c := c - k) he hl hh hb0 hb1 hb2 (by omega) w true
      refine ⟨.slice (some ⟨g.1, if c - k = a.toNat then off else off + a.toNat * ei.size, none⟩) (b.toNat - a.toNat) (c - k - a.toNat), ?_, .inr ⟨g, c, _, hid, by omega, fun h => ?_, by congr 1; omega⟩⟩
      · unfold execOp
        rw [ho]
        simp only [hv, Sem.run_bind, Instr.sliceAt, Instr.slice, hun, Result.andThen_ok, Option.map_none, hb, Sem.run_pure, run_size hT hE w, Option.map_some, Addr.add_plain]
        split <;> rfl
      · have : ¬ c - k = a.toNat := by omega
        rw [if_neg this, hoff (by omega), Nat.add_mul, Nat.add_right_comm]
theorem actOk_sliceNil (hT : TyOk P T) (he : EvOk r sv ev) {t : TypeId} {x : Operand} {lo hi : Option Operand} (ho : o.op = .slice t x lo hi none) {ti ei : TyI} (ht : T t = some ti) {e : TypeId} (hd : ti.d = .slice e) (hE : T e = some ei) (hx : sv x = .c (.one (.val (.slice none 0 0))))
    {a b : Int} (hl : loOf (lo.map sv) = some a) (hh : hiOf 0 (hi.map sv) = some b) : ActOk P G o ev r (pureA (.val (.slice none 0 0)) [0 ≤ a ∧ a ≤ b ∧ b ≤ ((0 : Nat) : Int)]) :=
  actOk_pure fun hob w => by
    have h1 := he x
    rw [hx] at h1
    obtain ⟨hb0, hb1, hb2⟩ := hob.1
    have hun : (underlying t).run P w = .ok (.slice e) w := by rw [← hd]; exact run_ty hT ht w
    have hv : ev x = .slice none 0 0 := h1
    have hb := bounds_run (P := P) (c := 0) he hl hh hb0 hb1 hb2 (Nat.le_refl _) w true
    have ha : a = 0 := by omega
    have hbb : b = 0 := by omega
    subst ha; subst hbb
    refine ⟨.slice none 0 0, ?_, rfl⟩
    unfold execOp
    rw [ho]
    simp only [hv, Sem.run_bind, Instr.sliceAt, Instr.slice, hun, Result.andThen_ok, Option.map_none, hb, Sem.run_pure, run_size hT hE w]
    rfl
theorem actOk_indexAddr (hT : TyOk P T) (he : EvOk r sv ev) {t : TypeId} {x y : Operand} (ho : o.op = .indexAddr t x y) {ti ei : TyI} (ht : T t = some ti) {e : TypeId} (hd : ti.d = .slice e) (hE : T e = some ei) {id k n : Nat} (hx : sv x = .c (.one (.sl id k ei.size n)))
    {b : AV} (hy : sv y = .c (.one b)) {i : Int} (hi : b.toI = some i) : ActOk P G o ev r (pureA (.ptr id (k + i.toNat) ei.size 0) [0 ≤ i ∧ i < n]) :=
  actOk_pure fun hob w => by
    have h1 := he x
    have h2 := he y
    rw [hx] at h1
    rw [hy] at h2
    obtain ⟨kk, hkk⟩ := AV.toI_rel hi h2
    obtain ⟨hb0, hb1⟩ := hob.1
    have hun : (underlying t).run P w = .ok (.slice e) w := by rw [← hd]; exact run_ty hT ht w
    rcases h1 with ⟨_, _, hn, _⟩ | ⟨g, c, off, hid, hc, hoff, hv⟩
    · omega
    · refine ⟨.pointer (some ⟨g.1, off + i.toNat * ei.size, none⟩), ?_, g, c, hid, ?_⟩
      · unfold execOp
        rw [ho]
        simp only [hv, hkk, Sem.run_bind, Instr.indexAt, asIntOf, Sem.run_pure, Result.andThen_ok, hun, hb0, hb1, and_self, if_true, run_size hT hE w, Addr.add_plain]
      · rw [hoff (by omega), Nat.add_mul]; congr 3; omega
def arrPtr (id k st j z i : Nat) : AV := if st = 0 then .ptr id i z j else .ptr id k st (j + i * z)
theorem actOk_indexAddrArr (hT : TyOk P T) (he : EvOk r sv ev) {t : TypeId} {x y : Operand} (ho : o.op = .indexAddr t x y) {ti ei : TyI} (ht : T t = some ti) {e : TypeId} {len : Nat} (hd : ti.d = .array len e) (hE : T e = some ei) {id k st j : Nat} (hx : sv x = .c (.one (.ptr id k st j)))
    {b : AV} (hy : sv y = .c (.one b)) {i : Int} (hi : b.toI = some i) : ActOk P G o ev r (pureA (arrPtr id k st j ei.size i.toNat) [0 ≤ i ∧ i < len]) :=
  actOk_pure fun hob w => by
    have h1 := he x
    have h2 := he y
    rw [hx] at h1
    rw [hy] at h2
    obtain ⟨kk, hkk⟩ := AV.toI_rel hi h2
    obtain ⟨hb0, hb1⟩ := hob.1
    have hun : (underlying t).run P w = .ok (.array len e) w := by rw [← hd]; exact run_ty hT ht w
    obtain ⟨g, c, hid, hv⟩ := h1
    refine ⟨.pointer (some ⟨g.1, k * st + j + g.off + i.toNat * ei.size, none⟩), ?_, ?_⟩
    · unfold execOp
      rw [ho]
      simp only [hv, hkk, Sem.run_bind, Instr.indexAt, asIntOf, Sem.run_pure, Result.andThen_ok, hun, hb0, hb1, and_self, if_true, run_size hT hE w, Addr.add_plain, Instr.sureAddr]
    · unfold arrPtr
      split
      · rename_i h0
        subst h0
        exact ⟨g, c, hid, by congr 3; omega⟩
      · exact ⟨g, c, hid, by congr 3; omega⟩
theorem actOk_fieldAddr (hT : TyOk P T) (he : EvOk r sv ev) {t : TypeId} {x : Operand} {f : Nat} (ho : o.op = .fieldAddr t x f) {ti : TyI} (ht : T t = some ti) {fs : Array Field} (hd : ti.d = .struct fs) {fd : Field} (hf : fs[f]? = some fd) {fi : TyI} (hE : T fd.type = some fi) (h1 : fi.size ≠ 0)
    {id k st j : Nat} (hx : sv x = .c (.one (.ptr id k st j))) : ActOk P G o ev r (pureA (.ptr id k st (j + fd.offset)) []) :=
  actOk_pure fun _ w => by
    have h1x := he x
    rw [hx] at h1x
    have hun : (underlying t).run P w = .ok (.struct fs) w := by rw [← hd]; exact run_ty hT ht w
    obtain ⟨g, c, hid, hv⟩ := h1x
    refine ⟨.pointer (some ⟨g.1, k * st + j + g.off + fd.offset, none⟩), ?_, g, c, hid, by congr 3; omega⟩
    unfold execOp
    rw [ho]
    simp only [hv, Sem.run_bind, Instr.fieldAt, Sem.run_pure, Result.andThen_ok, hun, hf, Instr.sureAddr, fieldPlace, run_size hT hE w, h1, if_false, Addr.add_plain]
theorem execOp_len {x : Operand} {t ty : TypeId} {ats : Array TypeId} (ho : o.op = .call { callee := .builtin .len, args := #[x], argTypes := ats }) (w : World) : (execOp ev o).run P w = ((do pure (.value (← Builtin.len_ ats o.type #[ev x])) : Sem Next)).run P w := by
  unfold execOp
  simp [ho, resolve, invoke, builtin]
def lenAV (d : TypeDesc) : AV → Option Int
  | .str l => match d with
    | .string => some l.length
    | _ => none
  | .sl _ _ _ n => match d with
    | .slice _ => some n
    | _ => none
  | .val (.slice none 0 0) => match d with
    | .slice _ => some 0
    | _ => none
  | _ => none
theorem actOk_len (hT : TyOk P T) (he : EvOk r sv ev) {x : Operand} {t : TypeId} (ho : o.op = .call { callee := .builtin .len, args := #[x], argTypes := #[t] }) {ti : TyI} (ht : T t = some ti) {a : AV} (hx : sv x = .c (.one a)) {n : Int} (hn : lenAV ti.d a = some n) : ActOk P G o ev r (pureA (.num n) []) :=
  actOk_pure fun _ w => by
    have h1 := he x
    rw [hx] at h1
    refine ⟨.int .i64 n, ?_, rfl⟩
    rw [execOp_len (t := t) (ty := t) ho w]
    have hun := run_ty hT ht w
    unfold lenAV at hn
    split at hn
    · split at hn
      · rename_i hd; injection hn with hn; subst hn
        rw [hd] at hun
        simp only [SV.rel, CV.rel, AV.rel] at h1
        have hu : P.underlying t = some .string := by rw [(hT t ti ht).1, hd]
        simp only [h1, Sem.run_bind, run_len_string w t _ _ hu]
        rfl
      · cases hn
    · split at hn
      · rename_i hd; injection hn with hn; subst hn
        rw [hd] at hun
        simp only [SV.rel, CV.rel, AV.rel] at h1
        rcases h1 with ⟨_, _, h0, av, hv⟩ | ⟨g, c, off, _, _, _, hv⟩
        · subst h0; simp [Builtin.len_, hun, hv, goInt]
        · simp [Builtin.len_, hun, hv, goInt]
      · cases hn
    · split at hn
      · rename_i hd; injection hn with hn; subst hn
        rw [hd] at hun
        simp only [SV.rel, CV.rel, AV.rel] at h1
        simp [Builtin.len_, hun, h1, goInt]
      · cases hn
    · cases hn
theorem actOk_lenArr (hT : TyOk P T) {x : Operand} {t : TypeId} (ho : o.op = .call { callee := .builtin .len, args := #[x], argTypes := #[t] }) {ti : TyI} (ht : T t = some ti) {n : Nat} {e : TypeId} (hd : ti.d = .array n e) : ActOk P G o ev r (pureA (.num n) []) :=
  actOk_pure fun _ w => by
    refine ⟨.int .i64 n, ?_, rfl⟩
    rw [execOp_len (t := t) (ty := t) ho w]
    have hun := run_ty hT ht w
    rw [hd] at hun
    simp [Builtin.len_, hun, goInt]
end
end Go.Proofs.YtdkogjjebbdngaaDoor
