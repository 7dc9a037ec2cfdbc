/-
  The library functions that layers 14 and 17 call, as contracts.
-/
import Derived.Test.YtgfcdkbbkgamnaaDoorGf
import Derived.Test.YtgfcdkbbkgamnaaDoorTy
import Derived.Test.YtgfcdkbbkgamnaaDoorShf
namespace Go.Proofs.YtgfcdkbbkgamnaaDoor
open Go Go.RowKit Go.Proofs
set_option linter.unusedSimpArgs false
set_option linter.unusedVariables false
noncomputable def gMax : GFact := gInt 0
noncomputable def gSyn : GFact := gIface 2
noncomputable def gRan : GFact := gIface 3
noncomputable def gPow : GFact := gTab Tryd.prog "internal/strconv.uint64pow10" .u64 Lib.pow10Tab 1 (by kernel_rfl)
noncomputable def GL : List GFact := [gMax, gSyn, gRan, gPow]
noncomputable def envL (ga : Nat → Option Con) (nt : Nat) : Env := ⟨ty, ga, [], nt, [], GL⟩
theorem envL_ok {ga : Nat → Option Con} (h : GaOkG Tryd.prog GL ga) (nt : Nat) : EnvOk Tryd.prog (envL ga nt) := ⟨ty_ok, h, by first | rfl | decide⟩
noncomputable def envLK (ga : Nat → Option Con) (nt : Nat) (keys : List Nat) : Env := ⟨ty, ga, [], nt, keys, GL⟩
theorem envLK_ok {ga : Nat → Option Con} (h : GaOkG Tryd.prog GL ga) (nt : Nat) (keys : List Nat) : EnvOk Tryd.prog (envLK ga nt keys) := ⟨ty_ok, h, by first | rfl | decide⟩
/-- strings.Cut -/
theorem cut_tri (s p : List UInt8) (h : s.length < 4294967281) : TriG Tryd.prog GL 59 [.one (.str s), .one (.str p)] [] (.tup [.one (.str (Lib.cut s p).1), .one (.str (Lib.cut s p).2.1), .one (.bo (Lib.cut s p).2.2)]) [] := by
  refine tri_shelf fun w vals hg hv => ?_
  obtain ⟨u, v, rfl, h1, h2⟩ := all2_two hv
  obtain ⟨m, hm⟩ := hg gMax (by simp [GL])
  rw [show u = .string ⟨s.toArray⟩ from h1, show v = .string ⟨p.toArray⟩ from h2]
  refine (Tryd.strings_Cut ⟨s.toArray⟩ ⟨p.toArray⟩ m w (by show s.toArray.size < _; simpa using h) hm).mono ?_
  rintro e w' ⟨rfl, n, rfl⟩
  exact ⟨_, rfl, ⟨_, rfl, rfl, rfl, rfl, trivial⟩, below_drewN w n⟩
def cutC : Con := con0 fun args => match args with
  | [.one (.str s), .one (.str p)] => some (.tup [.one (.str (Lib.cut s p).1), .one (.str (Lib.cut s p).2.1), .one (.bo (Lib.cut s p).2.2)], [s.length < 4294967281])
  | _ => none
theorem cutC_ok : ConOkG Tryd.prog GL 59 cutC := con0_okG Tryd.func59 rfl rfl fun args res ob h hob => by
  split at h
  · injection h with h; injection h with h1 h2; subst h1; subst h2; exact cut_tri _ _ hob.1
  · cases h
/-- strings.CutSuffix -/
theorem suffix_tri (s p : List UInt8) (h : s.length ≤ 9223372036854775807) : TriG Tryd.prog GL 61 [.one (.str s), .one (.str p)] [] (.tup [.one (.str (Lib.trimSuffix s p)), .one (.bo (Lib.hasSuffix s p))]) [] := by
  refine tri_shelf fun w vals hg hv => ?_
  obtain ⟨u, v, rfl, h1, h2⟩ := all2_two hv
  rw [show u = .string ⟨s.toArray⟩ from h1, show v = .string ⟨p.toArray⟩ from h2]
  refine (Tryd.strings_CutSuffix ⟨s.toArray⟩ ⟨p.toArray⟩ w (by show s.toArray.size ≤ _; simpa using h)).mono ?_
  rintro e w' ⟨rfl, rfl⟩
  exact ⟨_, rfl, ⟨_, rfl, rfl, rfl, trivial⟩, Below.refl _ _⟩
def suffixC : Con := con0 fun args => match args with
  | [.one (.str s), .one (.str p)] => some (.tup [.one (.str (Lib.trimSuffix s p)), .one (.bo (Lib.hasSuffix s p))], [s.length ≤ 9223372036854775807])
  | _ => none
theorem suffixC_ok : ConOkG Tryd.prog GL 61 suffixC := con0_okG Tryd.func61 rfl rfl fun args res ob h hob => by
  split at h
  · injection h with h; injection h with h1 h2; subst h1; subst h2; exact suffix_tri _ _ hob.1
  · cases h
/-- strings.LastIndexByte -/
def lastB (s : List UInt8) (c : UInt8) : Int := Lib.lastIndexByte ⟨s.toArray⟩ (c.toNat : Int)
theorem lastB_tri (s : List UInt8) (c : UInt8) (h : s.length < 4611686018427387904) : TriG Tryd.prog GL 62 [.one (.str s), .one (.u8 c)] [] (.c (.one (.num (lastB s c)))) [] := by
  refine tri_shelf fun w vals hg hv => ?_
  obtain ⟨u, v, rfl, h1, h2⟩ := all2_two hv
  rw [show u = .string ⟨s.toArray⟩ from h1, show v = .int .u8 (c.toNat : Int) from h2]
  refine (Tryd.strings_LastIndexByte ⟨s.toArray⟩ (c.toNat : Int) (by show s.toArray.size < _; simpa using h) w).mono ?_
  rintro e w' ⟨rfl, rfl⟩
  exact ⟨_, rfl, rfl, Below.refl _ _⟩
def lastBC : Con := con0 fun args => match args with
  | [.one (.str s), .one (.u8 c)] => some (.c (.one (.num (lastB s c))), [s.length < 4611686018427387904])
  | _ => none
theorem lastBC_ok : ConOkG Tryd.prog GL 62 lastBC := con0_okG Tryd.func62 rfl rfl fun args res ob h hob => by
  split at h
  · injection h with h; injection h with h1 h2; subst h1; subst h2; exact lastB_tri _ _ hob.1
  · cases h
/-- strconv.Atoi -/
def atoiE (s : List UInt8) : Bool := match Lib.atoiAll s with
  | .ok _ => false
  | _ => true
def atoiV (s : List UInt8) : Int := match Lib.atoiAll s with
  | .ok v => v
  | .range => Lib.atoiSat s
  | _ => 0
theorem atoi_tri (s : List UInt8) (h : s.length ≤ 281474976710656) : TriG Tryd.prog GL 87 [.one (.str s)] [] (.tup [.one (.num (atoiV s)), .one (.ifn (atoiE s))]) [] := by
  refine tri_shelf fun w vals hg hv => ?_
  obtain ⟨u, rfl, h1⟩ := all2_one hv
  rw [show u = .string ⟨s.toArray⟩ from h1]
  have hs : (⟨s.toArray⟩ : ByteArray).size ≤ 281474976710656 := by show s.toArray.size ≤ _; simpa using h
  unfold atoiV atoiE
  cases hA : Lib.atoiAll s with
  | ok v =>
    refine (Tryd.strconv_Atoi_ok ⟨s.toArray⟩ (by omega) v hA w).mono ?_
    rintro e w' ⟨rfl, hw⟩
    refine ⟨_, rfl, ⟨_, rfl, rfl, rfl, trivial⟩, ?_⟩
    rcases hw with rfl | ⟨t, rfl⟩
    · exact Below.refl _ _
    · exact Lib.bytesWorld_below _ _ _
  | range =>
    obtain ⟨ev, hv1, hv2⟩ := hg gRan (by simp [GL])
    refine (Tryd.strconv_Atoi_range ⟨s.toArray⟩ hs hA ev w hv1 hv2).mono ?_
    rintro e w' ⟨N, rfl, _, _, hb⟩
    exact ⟨_, rfl, ⟨_, rfl, rfl, ⟨_, _, rfl⟩, trivial⟩, hb⟩
  | _ =>
    obtain ⟨ev, hv1, hv2⟩ := hg gSyn (by simp [GL])
    refine (Any.strconv_Atoi_syntax Tryd.laysC172 ⟨s.toArray⟩ hs hA ev w hv1 hv2).mono ?_
    rintro e w' ⟨N, rfl, _, _, hb⟩
    exact ⟨_, rfl, ⟨_, rfl, rfl, ⟨_, _, rfl⟩, trivial⟩, hb⟩
def atoiC : Con := con0 fun args => match args with
  | [.one (.str s)] => some (.tup [.one (.num (atoiV s)), .one (.ifn (atoiE s))], [s.length ≤ 281474976710656])
  | _ => none
theorem atoiC_ok : ConOkG Tryd.prog GL 87 atoiC := con0_okG Tryd.func87 rfl rfl fun args res ob h hob => by
  split at h
  · injection h with h; injection h with h1 h2; subst h1; subst h2; exact atoi_tri _ hob.1
  · cases h
/-- strconv.Itoa -/
theorem itoa_tri (n : Int) (h0 : -9223372036854775808 ≤ n) (h1 : n ≤ 9223372036854775807) : TriG Tryd.prog GL 57 [.one (.num n)] [] (.c (.one (.str (Lib.itoa n)))) [] := by
  refine tri_shelf fun w vals hg hv => ?_
  obtain ⟨u, rfl, hu⟩ := all2_one hv
  rw [show u = .int .i64 n from hu]
  have ht := hg gPow (by simp [GL])
  refine (Tryd.strconv_Itoa n h0 h1 w ht).mono ?_
  rintro e w' ⟨rfl, k, os, rfl⟩
  exact ⟨_, rfl, rfl, below_growN w k os⟩
def itoaC : Con := con0 fun args => match args with
  | [.one (.num n)] => some (.c (.one (.str (Lib.itoa n))), [-9223372036854775808 ≤ n ∧ n ≤ 9223372036854775807])
  | _ => none
theorem itoaC_ok : ConOkG Tryd.prog GL 57 itoaC := con0_okG Tryd.func57 rfl rfl fun args res ob h hob => by
  split at h
  · injection h with h; injection h with h1 h2; subst h1; subst h2; exact itoa_tri _ hob.1.1 hob.1.2
  · cases h
end Go.Proofs.YtgfcdkbbkgamnaaDoor
