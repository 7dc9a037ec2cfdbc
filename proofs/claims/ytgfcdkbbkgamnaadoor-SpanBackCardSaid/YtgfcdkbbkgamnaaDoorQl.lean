/-
  The library functions that layer 19 calls, as contracts.
-/
import Derived.Test.YtgfcdkbbkgamnaaDoorGf
import Derived.Test.YtgfcdkbbkgamnaaDoorTy
import Derived.Test.YtgfcdkbbkgamnaaDoorShf
import Derived.Test.YtgfcdkbbkgamnaaDoorRs
import Derived.Test.YtgfcdkbbkgamnaaDoorQp
namespace Go.Proofs.YtgfcdkbbkgamnaaDoor
open Go Go.RowKit Go.Proofs
set_option linter.unusedSimpArgs false
set_option linter.unusedVariables false
noncomputable def gMx : GFact := gInt 0
noncomputable def GM : List GFact := [gMx]
noncomputable def envM (ga : Nat → Option Con) (nt : Nat) : Env := ⟨ty, ga, [], nt, [], GM⟩
theorem envM_ok {ga : Nat → Option Con} (h : GaOkG Tryd.prog GM ga) (nt : Nat) : EnvOk Tryd.prog (envM ga nt) := ⟨ty_ok, h, by first | rfl | decide⟩
noncomputable def envMK (ga : Nat → Option Con) (nt : Nat) (keys : List Nat) : Env := ⟨ty, ga, [], nt, keys, GM⟩
theorem envMK_ok {ga : Nat → Option Con} (h : GaOkG Tryd.prog GM ga) (nt : Nat) (keys : List Nat) : EnvOk Tryd.prog (envMK ga nt keys) := ⟨ty_ok, h, by first | rfl | decide⟩
theorem size_mk (s : List UInt8) : (⟨s.toArray⟩ : ByteArray).size = s.length := by show s.toArray.size = _; simp
theorem qPrefix_tri (s p : List UInt8) : TriG Tryd.prog GM 64 [.one (.str s), .one (.str p)] [] (.c (.one (.bo (p.isPrefixOf s)))) [] := by
  refine tri_shelf fun w vals hg hv => ?_
  obtain ⟨u, v, rfl, h1, h2⟩ := all2_two hv
  rw [show u = .string ⟨s.toArray⟩ from h1, show v = .string ⟨p.toArray⟩ from h2]
  refine (Tryd.strings_HasPrefix ⟨s.toArray⟩ ⟨p.toArray⟩ w).mono ?_
  rintro e w' ⟨rfl, rfl⟩
  exact ⟨_, rfl, rfl, Below.refl _ _⟩
def qPrefixC : Con := con0 fun args => match args with
  | [.one (.str s), .one (.str p)] => some (.c (.one (.bo (p.isPrefixOf s))), [])
  | _ => none
theorem qPrefixC_ok : ConOkG Tryd.prog GM 64 qPrefixC := con0_okG Tryd.func64 rfl rfl fun args res ob h hob => by
  split at h
  · injection h with h; injection h with h1 h2; subst h1; subst h2; exact qPrefix_tri _ _
  · cases h
theorem qIndex_tri (s p : List UInt8) (h : s.length < 4294967281) : TriG Tryd.prog GM 65 [.one (.str s), .one (.str p)] [] (.c (.one (.num (Lib.index s p)))) [] := by
  refine tri_shelf fun w vals hg hv => ?_
  obtain ⟨u, v, rfl, h1, h2⟩ := all2_two hv
  obtain ⟨m, hm⟩ := hg gMx (by simp [GM])
  rw [show u = .string ⟨s.toArray⟩ from h1, show v = .string ⟨p.toArray⟩ from h2]
  refine (Tryd.strings_Index ⟨s.toArray⟩ ⟨p.toArray⟩ m w (by rw [size_mk]; exact h) hm).mono ?_
  rintro e w' ⟨rfl, rfl⟩
  exact ⟨_, rfl, rfl, Below.refl _ _⟩
def qIndexC : Con := con0 fun args => match args with
  | [.one (.str s), .one (.str p)] => some (.c (.one (.num (Lib.index s p))), [s.length < 4294967281])
  | _ => none
theorem qIndexC_ok : ConOkG Tryd.prog GM 65 qIndexC := con0_okG Tryd.func65 rfl rfl fun args res ob h hob => by
  split at h
  · injection h with h; injection h with h1 h2; subst h1; subst h2; exact qIndex_tri _ _ hob.1
  · cases h
theorem qContains_tri (s p : List UInt8) (h : s.length < 4294967281) : TriG Tryd.prog GM 67 [.one (.str s), .one (.str p)] [] (.c (.one (.bo (Lib.contains s p)))) [] := by
  refine tri_shelf fun w vals hg hv => ?_
  obtain ⟨u, v, rfl, h1, h2⟩ := all2_two hv
  obtain ⟨m, hm⟩ := hg gMx (by simp [GM])
  rw [show u = .string ⟨s.toArray⟩ from h1, show v = .string ⟨p.toArray⟩ from h2]
  refine (Tryd.strings_Contains ⟨s.toArray⟩ ⟨p.toArray⟩ m w (by rw [size_mk]; exact h) hm).mono ?_
  rintro e w' ⟨rfl, rfl⟩
  exact ⟨_, rfl, rfl, Below.refl _ _⟩
def qContainsC : Con := con0 fun args => match args with
  | [.one (.str s), .one (.str p)] => some (.c (.one (.bo (Lib.contains s p))), [s.length < 4294967281])
  | _ => none
theorem qContainsC_ok : ConOkG Tryd.prog GM 67 qContainsC := con0_okG Tryd.func67 rfl rfl fun args res ob h hob => by
  split at h
  · injection h with h; injection h with h1 h2; subst h1; subst h2; exact qContains_tri _ _ hob.1
  · cases h
theorem qCount_tri (s p : List UInt8) (h : s.length < 4294967281) (h2 : 2 ≤ p.length) : TriG Tryd.prog GM 66 [.one (.str s), .one (.str p)] [] (.c (.one (.num (Lib.count s p : Nat)))) [] := by
  refine tri_shelf fun w vals hg hv => ?_
  obtain ⟨u, v, rfl, h1, h3⟩ := all2_two hv
  obtain ⟨m, hm⟩ := hg gMx (by simp [GM])
  rw [show u = .string ⟨s.toArray⟩ from h1, show v = .string ⟨p.toArray⟩ from h3]
  refine (Tryd.strings_Count ⟨s.toArray⟩ ⟨p.toArray⟩ m w (by rw [size_mk]; exact h) hm (by rw [size_mk]; exact h2)).mono ?_
  rintro e w' ⟨rfl, rfl⟩
  exact ⟨_, rfl, rfl, Below.refl _ _⟩
def qCountC : Con := con0 fun args => match args with
  | [.one (.str s), .one (.str p)] => some (.c (.one (.num (Lib.count s p : Nat))), [s.length < 4294967281, 2 ≤ p.length])
  | _ => none
theorem qCountC_ok : ConOkG Tryd.prog GM 66 qCountC := con0_okG Tryd.func66 rfl rfl fun args res ob h hob => by
  split at h
  · injection h with h; injection h with h1 h2; subst h1; subst h2; exact qCount_tri _ _ hob.1 hob.2.1
  · cases h
theorem qCut_tri (s p : List UInt8) (h : s.length < 4294967281) : TriG Tryd.prog GM 59 [.one (.str s), .one (.str p)] [] (.tup [.one (.str (Lib.cut s p).1), .one (.str (Lib.cut s p).2.1), .one (.bo (Lib.cut s p).2.2)]) [] := by
  refine tri_shelf fun w vals hg hv => ?_
  obtain ⟨u, v, rfl, h1, h2⟩ := all2_two hv
  obtain ⟨m, hm⟩ := hg gMx (by simp [GM])
  rw [show u = .string ⟨s.toArray⟩ from h1, show v = .string ⟨p.toArray⟩ from h2]
  refine (Tryd.strings_Cut ⟨s.toArray⟩ ⟨p.toArray⟩ m w (by rw [size_mk]; exact h) hm).mono ?_
  rintro e w' ⟨rfl, n, rfl⟩
  exact ⟨_, rfl, ⟨_, rfl, rfl, rfl, rfl, trivial⟩, below_drewN w n⟩
def qCutC : Con := con0 fun args => match args with
  | [.one (.str s), .one (.str p)] => some (.tup [.one (.str (Lib.cut s p).1), .one (.str (Lib.cut s p).2.1), .one (.bo (Lib.cut s p).2.2)], [s.length < 4294967281])
  | _ => none
theorem qCutC_ok : ConOkG Tryd.prog GM 59 qCutC := con0_okG Tryd.func59 rfl rfl fun args res ob h hob => by
  split at h
  · injection h with h; injection h with h1 h2; subst h1; subst h2; exact qCut_tri _ _ hob.1
  · cases h
theorem qIndexByte_tri (s : List UInt8) (c : UInt8) : TriG Tryd.prog GM 106 [.one (.str s), .one (.u8 c)] [] (.c (.one (.num (Lib.indexByte s c)))) [] := by
  refine tri_shelf fun w vals hg hv => ?_
  obtain ⟨u, v, rfl, h1, h2⟩ := all2_two hv
  rw [show u = .string ⟨s.toArray⟩ from h1, show v = .int .u8 (c.toNat : Int) from h2]
  refine (Tryd.strings_IndexByte ⟨s.toArray⟩ (c.toNat : Int) w).mono ?_
  rintro e w' ⟨rfl, rfl⟩
  exact ⟨_, rfl, by show Value.int .i64 (Lib.indexByte s ((c.toNat : Int).toNat.toUInt8)) = _; rw [Int.toNat_natCast]; simp, Below.refl _ _⟩
def qIndexByteC : Con := con0 fun args => match args with
  | [.one (.str s), .one (.u8 c)] => some (.c (.one (.num (Lib.indexByte s c))), [])
  | _ => none
theorem qIndexByteC_ok : ConOkG Tryd.prog GM 106 qIndexByteC := con0_okG Tryd.func106 rfl rfl fun args res ob h hob => by
  split at h
  · injection h with h; injection h with h1 h2; subst h1; subst h2; exact qIndexByte_tri _ _
  · cases h
theorem qTrim_tri (s p : List UInt8) (h : s.length ≤ 9223372036854775807) (hp : p.length < 4294967281) (ha : p.all (fun b => decide (b.toNat < 128)) = true) : TriG Tryd.prog GM 93 [.one (.str s), .one (.str p)] [] (.c (.one (.str (Lib.trimS s p)))) [] := by
  refine tri_shelf fun w vals hg hv => ?_
  obtain ⟨u, v, rfl, h1, h2⟩ := all2_two hv
  rw [show u = .string ⟨s.toArray⟩ from h1, show v = .string ⟨p.toArray⟩ from h2]
  refine (Any.strings_Trim_laid Tryd.lays160 (by kernel_rfl) ⟨s.toArray⟩ ⟨p.toArray⟩ w (by rw [size_mk]; exact h) (by rw [size_mk]; exact hp) (ascii_of_all ha)).mono ?_
  rintro e w' ⟨rfl, hb⟩
  exact ⟨_, rfl, rfl, hb⟩
def qTrimC : Con := con0 fun args => match args with
  | [.one (.str s), .one (.str p)] => some (.c (.one (.str (Lib.trimS s p))), [s.length ≤ 9223372036854775807, p.length < 4294967281, p.all (fun b => decide (b.toNat < 128)) = true])
  | _ => none
theorem qTrimC_ok : ConOkG Tryd.prog GM 93 qTrimC := con0_okG Tryd.func93 rfl rfl fun args res ob h hob => by
  split at h
  · injection h with h; injection h with h1 h2; subst h1; subst h2; exact qTrim_tri _ _ hob.1 hob.2.1 hob.2.2.1
  · cases h
/-- A contract of the library's that makes a row of texts. -/
theorem tri_shelf_row {P : Program} {G : List GFact} {f : FuncId} {args : List CV} {rows : List (List UInt8)} (h : ∀ (w : World) (vals : List Value), (∀ g ∈ G, g.p w) → All2 (CV.rel fun _ => none) args vals → Calls P f vals.toArray w fun e w' => ∃ t, e = .returned (.slice (some ⟨w.heap.size, 0, none⟩) rows.length rows.length) ∧ w' = w.alloc (.cells (rows.map fun x => Value.string ⟨x.toArray⟩).toArray t)) :
    TriG P G f args [] (.c (.one (.sl 0 0 1 rows.length))) (hpN 0 [.arr _ strL rows]) := fun r w vals hargs hh => by
  obtain rfl : r = fun _ => none := funext fun id => (hh.dom id).2 rfl
  refine (h w vals hh.facts hargs).mono fun e w' ⟨t, h1, h2⟩ => ?_
  subst h2
  have hid : aget ([] : List (Nat × Ent)) 0 = none := rfl
  refine ⟨_, Lc.add (fun _ => none) 0 (some ((w.heap.size, none), rows.length)), h1, Lc.add_le rfl _, .inr ⟨(w.heap.size, none), rows.length, 0, Lc.add_same _ _ _, by omega, fun _ => by simp, rfl⟩, ?_⟩
  refine hh.make hid (.arr _ strL rows) (some ((w.heap.size, none), rows.length)) rfl rfl rfl (by simp) (fun b hb => Below.heap_alloc w _ b hb) (fun g c e => by injection e with e; injection e with e1 e2; subst e1; exact ⟨Nat.le_refl _, rfl⟩) fun _ => .inr ⟨_, _, _, rfl, rowAt_alloc w _ t, ?_, ?_⟩
  · show rows.length * 1 ≤ _; simp
  · intro j x hx
    have hx' : (rows.map AV.str)[j]? = some x := by rw [← str_flat]; exact hx
    rw [List.getElem?_map] at hx'
    cases hr : rows[j]? with
    | none => rw [hr] at hx'; cases hx'
    | some y =>
      rw [hr] at hx'
      simp only [Option.map_some, Option.some.injEq] at hx'
      subst hx'
      exact ⟨.string ⟨y.toArray⟩, by simp [hr], rfl⟩
def qSplitF : List CV → List (List (List UInt8)) → Option (SV × List SObj × List Prop)
  | [.one (.str s), .one (.str p)], [] => some (.c (.one (.sl 0 0 1 (Lib.split s p).length)), [.arr _ strL (Lib.split s p)], [s.length < 4294967281, 1 ≤ p.length])
  | _, _ => none
def qSplitC : Con := conS qSplitF
theorem splitB_list (s p : List UInt8) : (Lib.splitB ⟨p.toArray⟩ 0 (Lib.countB ⟨s.toArray⟩ ⟨p.toArray⟩) ⟨s.toArray⟩).map (fun b => Value.string b) = (Lib.split s p).map fun x => Value.string ⟨x.toArray⟩ := by
  have h := Lib.splitB_data ⟨p.toArray⟩ 0 (Lib.countB ⟨s.toArray⟩ ⟨p.toArray⟩) ⟨s.toArray⟩
  have h' : (Lib.split s p) = (Lib.splitB ⟨p.toArray⟩ 0 (Lib.countB ⟨s.toArray⟩ ⟨p.toArray⟩) ⟨s.toArray⟩).map (·.data.toList) := h.symm
  rw [h', List.map_map]
  exact List.map_congr_left fun b _ => by simp
theorem qSplit_tri (s p : List UInt8) (h : s.length < 4294967281) (hp : 1 ≤ p.length) : TriG Tryd.prog GM 52 [.one (.str s), .one (.str p)] [] (.c (.one (.sl 0 0 1 (Lib.split s p).length))) (hpN 0 [.arr _ strL (Lib.split s p)]) := by
  refine tri_shelf_row fun w vals hg hv => ?_
  obtain ⟨u, v, rfl, h1, h2⟩ := all2_two hv
  obtain ⟨m, hm⟩ := hg gMx (by simp [GM])
  rw [show u = .string ⟨s.toArray⟩ from h1, show v = .string ⟨p.toArray⟩ from h2]
  have hl : Lib.countB ⟨s.toArray⟩ ⟨p.toArray⟩ + 1 = (Lib.split s p).length := by
    have := Lib.splitB_all ⟨p.toArray⟩ (by rw [size_mk]; exact hp) 0 _ ⟨s.toArray⟩ rfl
    have h3 := congrArg List.length (splitB_list s p)
    simp only [List.length_map] at h3
    omega
  refine (Tryd.strings_Split ⟨s.toArray⟩ ⟨p.toArray⟩ m w (by rw [size_mk]; exact h) hm (by rw [size_mk]; exact hp)).mono ?_
  rintro e w' ⟨rfl, rfl⟩
  rw [hl]
  exact ⟨_, rfl, by rw [← splitB_list]⟩
theorem qSplitC_ok : ConOkG Tryd.prog GM 52 qSplitC := conS_ok Tryd.func52 rfl rfl
  (fun args v news ob h hob => by
    unfold qSplitF at h
    split at h
    · simp only [Option.some.injEq, Prod.mk.injEq] at h
      obtain ⟨rfl, rfl, rfl⟩ := h
      exact qSplit_tri _ _ hob.1 hob.2.1
    · cases h)
  (fun args a v news ob h hob => by simp [qSplitF] at h) (fun args a b v news ob h hob => by simp [qSplitF] at h) (fun args a b c l => by simp [qSplitF])
/-- strings.Join over a part of a row. -/
theorem qJoin_tri (rows : List (List UInt8)) (wa : Bool) (k n : Nat) (p : List UInt8) (hkn : k + n ≤ rows.length) (hn : rows.length ≤ 1048576) (hl : (Lib.join ((rows.drop k).take n) p).length ≤ 1048576) :
    TriG Tryd.prog GM 58 [.one (.sl 0 k 1 n), .one (.str p)] [(0, ⟨.arr _ strL rows, wa⟩)] (.c (.one (.str (Lib.join ((rows.drop k).take n) p)))) ((0, ⟨.arr _ strL rows, wa⟩) :: hpN 1 []) := fun r w vals hargs hh => by
  obtain ⟨u, v, rfl, h1, h2⟩ := all2_two hargs
  have h2' : v = .string ⟨p.toArray⟩ := h2
  subst h2'
  have fin : ∀ (a : Option Addr) (c : Nat), n = 0 → Calls Tryd.prog 58 [Value.slice a n c, .string ⟨p.toArray⟩].toArray w fun e w' => ∃ u r', e = .returned u ∧ r.le r' ∧ SV.rel r' (.c (.one (.str (Lib.join ((rows.drop k).take n) p)))) u ∧ HeapOk (cw GM r [(0, ⟨.arr _ strL rows, wa⟩)] w) r' ((0, ⟨.arr _ strL rows, wa⟩) :: hpN 1 []) w' := fun a c h0 => by
    subst h0
    refine (Tryd.strings_Join_none a c ⟨p.toArray⟩ w).mono ?_
    rintro e w' ⟨rfl, rfl⟩
    exact ⟨_, r, rfl, Lc.le_refl _, by rw [List.take_zero]; rfl, hh⟩
  rcases h1 with ⟨_, _, h0, av, hv⟩ | ⟨g, c, o, hr, hc, ho, hv⟩
  · subst hv; subst h0; exact fin av 0 rfl
  · subst hv
    rcases Nat.eq_zero_or_pos n with h0 | h0
    · exact fin _ _ h0
    · have hk : k < c := by omega
      have ho' := ho hk
      rw [Nat.mul_one] at ho'
      have ho2 := ho'.symm
      subst ho2
      obtain ⟨cs, hrow, _, hholds⟩ := hh.row (id := 0) (e := ⟨.arr _ strL rows, wa⟩) rfl rfl hr
      have hcell : ∀ (j : Nat) x, rows[j]? = some x → w.cell? ⟨g.1, j + g.off, none⟩ = some (.string ⟨x.toArray⟩) := fun j x hx => by
        rw [hrow.cell]
        obtain ⟨u, hu, hru⟩ := hholds j (.str x) (by show (rows.flatMap strL.enc)[j]? = _; rw [str_flat, List.getElem?_map, hx]; rfl)
        rw [hu]; exact congrArg some hru
      have hxl : (((rows.drop k).take n).map fun x => (⟨x.toArray⟩ : ByteArray)).length = n := by simp; omega
      have hdata : (((rows.drop k).take n).map fun x => (⟨x.toArray⟩ : ByteArray)).map (·.data.toList) = (rows.drop k).take n := by
        rw [List.map_map]
        conv => rhs; rw [← List.map_id ((rows.drop k).take n)]
        exact List.map_congr_left fun x _ => by simp
      have hJ := Tryd.strings_Join g.1 (k + g.off) (c - k) (((rows.drop k).take n).map fun x => (⟨x.toArray⟩ : ByteArray)) ⟨p.toArray⟩ w (fun j x hx => by
          rw [List.getElem?_map, List.getElem?_take] at hx
          split at hx
          · rw [List.getElem?_drop] at hx
            cases hq : rows[k + j]? with
            | none => rw [hq] at hx; cases hx
            | some y =>
              rw [hq] at hx
              simp only [Option.map_some, Option.some.injEq] at hx
              subst hx
              rw [Nat.add_right_comm]; exact hcell _ _ hq
          · cases hx) hrow.lt (by rw [hxl]; omega) (by rw [hxl]; omega) (by rw [hdata]; exact Nat.le_trans hl (by omega))
      rw [hxl, hdata] at hJ
      refine hJ.mono ?_
      rintro e w' ⟨rfl, hb⟩
      exact ⟨_, r, rfl, Lc.le_refl _, rfl, hh.move hb.os hb.tape hb.output hb.size fun b h => hb.block b h⟩
def qJoinF : List CV → List (List (List UInt8)) → Option (SV × List SObj × List Prop)
  | [.one (.sl 0 k 1 n), .one (.str p)], [rows] => some (.c (.one (.str (Lib.join ((rows.drop k).take n) p))), [], [k + n ≤ rows.length, rows.length ≤ 1048576, (Lib.join ((rows.drop k).take n) p).length ≤ 1048576])
  | _, _ => none
def qJoinC : Con := conS qJoinF
theorem qJoinC_ok : ConOkG Tryd.prog GM 58 qJoinC := conS_ok Tryd.func58 rfl rfl
  (fun args v news ob h hob => by simp [qJoinF] at h)
  (fun args a v news ob h hob wa => by
    unfold qJoinF at h
    split at h
    · rename_i h2
      simp only [List.cons.injEq, and_true] at h2
      subst h2
      simp only [Option.some.injEq, Prod.mk.injEq] at h
      obtain ⟨rfl, rfl, rfl⟩ := h
      exact qJoin_tri _ wa _ _ _ hob.1 hob.2.1 hob.2.2.1
    · cases h)
  (fun args a b v news ob h hob => by simp [qJoinF] at h) (fun args a b c l => by simp [qJoinF])
end Go.Proofs.YtgfcdkbbkgamnaaDoor
