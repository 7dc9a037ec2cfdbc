/-
  A walk by reckoning, part 9: rows that grow, copies, bytes as a string. It speaks of no program.
-/
import Derived.Test.YtdkogjjebbdngaaDoorSf
namespace Go.Proofs.YtdkogjjebbdngaaDoor
open Go Go.RowKit
set_option linter.unusedVariables false
set_option linter.unusedSimpArgs false

theorem bytesOf_flat {o : SObj} {k n : Nat} {l : List UInt8} {ob : List Prop} (h : bytesOf o k n = some (l, ob)) (hob : AllT ob) (hs : o.stride = 1) : o.live = true ∧ k + n ≤ o.flat.length ∧ (o.flat.drop k).take n = l.map .u8 := by
  cases o with
  | dead => simp [bytesOf] at h
  | cells s xs =>
    simp only [bytesOf] at h
    cases ht : toBytes ((xs.drop k).take n) with
    | none => rw [ht] at h; cases h
    | some q =>
      rw [ht] at h
      simp only [Option.some.injEq, Prod.mk.injEq] at h
      obtain ⟨rfl, rfl⟩ := h
      exact ⟨rfl, hob.1, toBytes_map ht⟩
  | arr α L a =>
    simp only [bytesOf] at h
    cases hb : L.toB with
    | none => rw [hb] at h; cases h
    | some f =>
      rw [hb] at h
      simp only [Option.some.injEq, Prod.mk.injEq] at h
      obtain ⟨rfl, rfl⟩ := h
      have hf : ∀ m : List α, m.flatMap L.enc = (m.map f).map .u8 := fun m => by
        induction m with
        | nil => rfl
        | cons x m ih => rw [List.flatMap_cons, ih, L.toB_ok f hb x]; rfl
      have hst : L.st = 1 := hs
      refine ⟨rfl, ?_, ?_⟩
      · show _ ≤ (a.flatMap L.enc).length
        rw [flat_length, hst]; have := hob.1; omega
      · show ((a.flatMap L.enc).drop k).take n = _
        rw [hf, List.map_take, List.map_drop, List.map_take, List.map_drop]
def strA (id k n : Nat) : Actn := ⟨[id], false, fun es _ => match es with
  | [e] => match bytesOf e.o k n with
    | some (l, ob) => some ⟨.c (.one (.str l)), [], [], (e.o.stride = 1) :: ob⟩
    | none => none
  | _ => none⟩
section
variable {P : Program} {G : List GFact} {T : Nat → Option TyI} {o : Oper} {sv : Operand → SV} {ev : Operand → Value} {r : Lc}
theorem actOk_str (hT : TyOk P T) (he : EvOk r sv ev) {s d : TypeId} {x : Operand} (ho : o.op = .convert s d x) {si di ei : TyI} (hs : T s = some si) (hd : T d = some di) {e : TypeId} (hse : si.d = .slice e) (hds : di.d = .string) (hE : T e = some ei) (he8 : ei.d = .int .u8)
    {id k n : Nat} (hx : sv x = .c (.one (.sl id k 1 n))) : ActOk P G o ev r (strA id k n) := by
  intro C hp w es fresh R hh hg hr hob _ _ hsub
  obtain ⟨en, hid, rfl⟩ := getAll_one hg
  simp only [strA] at hr
  cases hb : bytesOf en.o k n with
  | none => rw [hb] at hr; cases hr
  | some q =>
    obtain ⟨l, ob⟩ := q
    rw [hb] at hr
    injection hr with hr
    subst hr
    obtain ⟨hst, hob⟩ := hob
    obtain ⟨hl, hlen, hfl⟩ := bytesOf_flat hb hob hst
    have h1 := he x
    rw [hx] at h1
    have hu1 : P.underlying s = some (.slice e) := by rw [(hT s si hs).1, hse]
    have hu2 : P.underlying e = some (.int .u8) := by rw [(hT e ei hE).1, he8]
    have hu3 : P.underlying d = some .string := by rw [(hT d di hd).1, hds]
    rcases h1 with ⟨hid', hk0, hn0, av, hv⟩ | ⟨g, c, off, hrid, hkn, hoff, hv⟩
    · subst hk0; subst hn0
      have hl0 : l = [] := by
        have := congrArg List.length hfl
        simp at this
        exact List.eq_nil_of_length_eq_zero this.symm
      subst hl0
      refine StepOk.of_value (u := .string ⟨#[]⟩) (w' := w) ?_ ⟨r, r.le_refl, rfl, hh⟩
      unfold execOp
      rw [ho]
      cases av with
      | none =>
        simp only [hv, Sem.run_bind, run_convert_bytes_string w s d e none 0 0 hu1 hu2 hu3, Result.andThen_ok, Sem.run_pure]
        rfl
      | some av =>
        have hrun := run_convert_bytes_back (P := P) w s d e av 0 [] hu1 hu2 hu3 (fun j hj => absurd hj (Nat.not_lt_zero _))
        simp only [List.length_nil] at hrun
        simp only [hv, Sem.run_bind, hrun, Result.andThen_ok, Sem.run_pure]
    · obtain ⟨cs, hrow, hcap, hholds⟩ := hh.row hid hl hrid
      obtain ⟨us, hul, hus, hall⟩ := hholds.slice hlen
      rw [hfl] at hall
      have hrun := run_convert_bytes_back (P := P) w s d e ⟨g.1, off, none⟩ (c - k) l hu1 hu2 hu3 (fun j hj => by
        have hk : k < c := by
          have : l.length = n := by have := congrArg List.length hfl; simp at this; omega
          omega
        rw [Addr.add_plain, hoff hk, Nat.mul_one, Nat.add_right_comm, hrow.cell]
        obtain ⟨u, hu, hr⟩ := hall.get j (.u8 (l[j])) (by simp [hj])
        rw [hus j u hu]
        simp only [AV.rel] at hr
        rw [hr])
      have hnl : l.length = n := by have := congrArg List.length hfl; simp at this; omega
      rw [hnl] at hrun
      refine StepOk.of_value (u := .string ⟨l.toArray⟩) (w' := w) ?_ ⟨r, r.le_refl, rfl, hh⟩
      unfold execOp
      rw [ho]
      simp only [hv, Sem.run_bind, hrun, Result.andThen_ok, Sem.run_pure]
theorem actOk_strNil (hT : TyOk P T) (he : EvOk r sv ev) {s d : TypeId} {x : Operand} (ho : o.op = .convert s d x) {si di ei : TyI} (hs : T s = some si) (hd : T d = some di) {e : TypeId} (hse : si.d = .slice e) (hds : di.d = .string) (hE : T e = some ei) (he8 : ei.d = .int .u8)
    (hx : sv x = .c (.one (.val (.slice none 0 0)))) : ActOk P G o ev r (pureA (.str []) []) := by
  refine actOk_pure fun _ w => ?_
  have h1 := he x
  rw [hx] at h1
  have h1 : ev x = .slice none 0 0 := h1
  have hu1 : P.underlying s = some (.slice e) := by rw [(hT s si hs).1, hse]
  have hu2 : P.underlying e = some (.int .u8) := by rw [(hT e ei hE).1, he8]
  have hu3 : P.underlying d = some .string := by rw [(hT d di hd).1, hds]
  refine ⟨.string ⟨#[]⟩, ?_, rfl⟩
  unfold execOp
  rw [ho]
  simp only [h1, Sem.run_bind, run_convert_bytes_string w s d e none 0 0 hu1 hu2 hu3, Result.andThen_ok, Sem.run_pure]
  rfl
end
theorem drop_enc {α : Type} (L : Lay α) (x : α) (f : List AV) (n : Nat) (h : L.st ≤ n) : (L.enc x ++ f).drop n = f.drop (n - L.st) := by
  rw [List.drop_append, L.len]
  have : (L.enc x).drop n = [] := List.drop_eq_nil_of_le (by rw [L.len]; exact h)
  rw [this, List.nil_append]
theorem take_enc {α : Type} (L : Lay α) (x : α) (f : List AV) (n : Nat) (h : L.st ≤ n) : (L.enc x ++ f).take n = L.enc x ++ f.take (n - L.st) := by
  rw [List.take_append, L.len]
  have : (L.enc x).take n = L.enc x := List.take_of_length_le (by rw [L.len]; exact h)
  rw [this]
/-- A piece of a row. -/
def subObj (o : SObj) (k n : Nat) : SObj × List Prop :=
  match o with
  | .cells s xs => (.cells s ((xs.drop (k * s)).take (n * s)), [k * s + n * s ≤ xs.length])
  | .arr α L l => (.arr α L ((l.drop k).take n), [k + n ≤ l.length])
  | .dead => (.dead, [False])
theorem subObj_flat {o : SObj} {k n : Nat} (hob : AllT (subObj o k n).2) : o.live = true ∧ (subObj o k n).1.live = true ∧ (subObj o k n).1.stride = o.stride ∧ k * o.stride + n * o.stride ≤ o.flat.length ∧ (subObj o k n).1.flat = (o.flat.drop (k * o.stride)).take (n * o.stride) := by
  cases o with
  | dead => exact hob.1.elim
  | cells s xs => exact ⟨rfl, rfl, rfl, hob.1, rfl⟩
  | arr α L l =>
    have h : k + n ≤ l.length := hob.1
    have hd : ∀ (k : Nat) (m : List α), (m.drop k).flatMap L.enc = (m.flatMap L.enc).drop (k * L.st) := fun k => by
      induction k with
      | zero => intro m; simp
      | succ k ih =>
        intro m
        cases m with
        | nil => simp
        | cons x m =>
          rw [List.drop_succ_cons, ih, List.flatMap_cons]
          rw [drop_enc L x _ _ (by rw [Nat.add_mul]; omega), Nat.add_mul, Nat.one_mul, Nat.add_sub_cancel]
    have ht : ∀ (n : Nat) (m : List α), (m.take n).flatMap L.enc = (m.flatMap L.enc).take (n * L.st) := fun n => by
      induction n with
      | zero => intro m; simp
      | succ n ih =>
        intro m
        cases m with
        | nil => simp
        | cons x m =>
          rw [List.take_succ_cons, List.flatMap_cons, ih, List.flatMap_cons]
          rw [take_enc L x _ _ (by rw [Nat.add_mul]; omega), Nat.add_mul, Nat.one_mul, Nat.add_sub_cancel]
    refine ⟨rfl, rfl, rfl, ?_, ?_⟩
    · show _ ≤ (l.flatMap L.enc).length
      rw [flat_length]
      show k * L.st + n * L.st ≤ _
      rw [← Nat.add_mul]; exact Nat.mul_le_mul_right _ h
    · show ((l.drop k).take n).flatMap L.enc = ((l.flatMap L.enc).drop (k * L.st)).take (n * L.st)
      rw [ht, hd]
/-- Cells, as members. -/
def decAll {α : Type} (L : Lay α) : Nat → List AV → Option (List α)
  | _, [] => some []
  | 0, _ :: _ => none
  | f + 1, y :: ys => if L.st ≤ (y :: ys).length then match L.up L.d 0 ((y :: ys).take L.st) with
    | some a => match decAll L f ((y :: ys).drop L.st) with
      | some l => some (a :: l)
      | none => none
    | none => none else none
theorem decAll_flat {α : Type} {L : Lay α} : ∀ {f : Nat} {ys : List AV} {l : List α}, decAll L f ys = some l → l.flatMap L.enc = ys
  | _, [], l, h => by simp only [decAll, Option.some.injEq] at h; subst h; rfl
  | 0, _ :: _, _, h => by simp [decAll] at h
  | f + 1, y :: ys, l, h => by
    simp only [decAll] at h
    split at h
    · rename_i hst
      cases hu : L.up L.d 0 ((y :: ys).take L.st) with
      | none => rw [hu] at h; cases h
      | some a =>
        rw [hu] at h
        cases hq : decAll L f ((y :: ys).drop L.st) with
        | none => simp only [hq] at h; cases h
        | some m =>
          simp only [hq, Option.some.injEq] at h
          subst h
          obtain ⟨_, hp⟩ := L.put _ _ _ _ hu
          have hlen : ((y :: ys).take L.st).length = L.st := by rw [List.length_take]; omega
          rw [List.flatMap_cons, decAll_flat hq, hp, List.take_zero, List.nil_append, Nat.zero_add, hlen, List.drop_eq_nil_of_le (by rw [L.len]; exact Nat.le_refl _), List.append_nil, List.take_append_drop]
    · cases h
/-- One row behind another. -/
def catObj (a b : SObj) : Option SObj :=
  match a, b with
  | .cells s xs, .cells s' ys => if s = s' then some (.cells s (xs ++ ys)) else none
  | .arr α L l, .cells s ys => if s = L.st then match decAll L ys.length ys with
    | some m => some (.arr α L (l ++ m))
    | none => none else none
  | .arr α L l, .arr _ M k => if L.st = M.st then match L.ofB, M.toB with
    | some f, some g => some (.arr α L (l ++ k.map fun x => f (g x)))
    | _, _ => some (.cells L.st (l.flatMap L.enc ++ k.flatMap M.enc)) else none
  | .cells s xs, .arr _ M k => if s = M.st then some (.cells s (xs ++ k.flatMap M.enc)) else none
  | _, _ => none
theorem map_flat {α β : Type} (L : Lay α) (M : Lay β) {f : UInt8 → α} {g : β → UInt8} (hf : L.ofB = some f) (hg : M.toB = some g) (k : List β) : (k.map fun x => f (g x)).flatMap L.enc = k.flatMap M.enc := by
  induction k with
  | nil => rfl
  | cons x k ih => rw [List.map_cons, List.flatMap_cons, List.flatMap_cons, ih, L.ofB_ok f hf, M.toB_ok g hg]
theorem catObj_flat {a b o : SObj} (h : catObj a b = some o) : a.live = true ∧ b.live = true ∧ o.live = true ∧ o.stride = a.stride ∧ b.stride = a.stride ∧ o.flat = a.flat ++ b.flat := by
  unfold catObj at h
  split at h
  · split at h
    · rename_i hs; injection h with h; subst h; exact ⟨rfl, rfl, rfl, rfl, hs.symm, rfl⟩
    · cases h
  · split at h
    · rename_i hs
      split at h
      · rename_i m hm
        injection h with h; subst h
        refine ⟨rfl, rfl, rfl, rfl, hs, ?_⟩
        simp only [SObj.flat, List.flatMap_append, decAll_flat hm]
      · cases h
    · cases h
  · split at h
    · rename_i hs
      split at h
      · rename_i f g hf hg
        injection h with h; subst h
        refine ⟨rfl, rfl, rfl, rfl, hs.symm, ?_⟩
        simp only [SObj.flat, List.flatMap_append]
        rw [map_flat _ _ hf hg]
      · injection h with h; subst h; exact ⟨rfl, rfl, rfl, rfl, hs.symm, rfl⟩
    · cases h
  · split at h
    · rename_i hs; injection h with h; subst h; exact ⟨rfl, rfl, rfl, rfl, hs.symm, rfl⟩
    · cases h
  · cases h
end Go.Proofs.YtdkogjjebbdngaaDoor
