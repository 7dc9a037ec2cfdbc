/-
  The types of the program, as the walk by reckoning looks them up. Made by genty.py.
-/
import Derived.Test.YtemlbokoaohckaaDoorSs
import Derived.Test.YtemlbokoaohckaaDoorProg
namespace Go.Proofs.YtemlbokoaohckaaDoor
open Go Go.RowKit
set_option linter.unusedVariables false
set_option linter.unusedSimpArgs false
def tyi2 : TyI := ⟨.int .i64, 1, 8, .one (.num 0), []⟩
def tyi3 : TyI := ⟨.int .i64, 1, 8, .one (.num 0), []⟩
def tyi4 : TyI := ⟨.bool, 1, 1, .one (.bo false), []⟩
def tyi5 : TyI := ⟨.int .u8, 1, 1, .one (.u8 0), []⟩
def tyi9 : TyI := ⟨.string, 1, 16, .one (.str []), []⟩
def tyi12 : TyI := ⟨.int .u64, 1, 8, .one (.u64 0), []⟩
noncomputable def tyi20 : TyI := ⟨(Tryd.prog.underlying 20).getD .invalid, 1, 16, .one (.val .nilIface), []⟩
def tyi21 : TyI := ⟨.int .i32, 1, 4, .one (.int .i32 0), []⟩
def tyi23 : TyI := ⟨.int .i64, 1, 8, .one (.num 0), []⟩
def tyi32 : TyI := ⟨.int .u16, 1, 2, .one (.int .u16 0), []⟩
def tyi35 : TyI := ⟨.int .u64, 1, 8, .one (.u64 0), []⟩
def tyi36 : TyI := ⟨.slice 5, 1, 24, .one (.val (.slice none 0 0)), []⟩
def tyi38 : TyI := ⟨.array 3 3, 3, 24, .agg [.num 0, .num 0, .num 0], []⟩
def tyi47 : TyI := ⟨.pointer 49, 1, 8, .one (.val (.pointer none)), []⟩
noncomputable def tyi48 : TyI := ⟨(Tryd.prog.underlying 48).getD .invalid, 2, 32, .agg [.val (.pointer none), .val (.slice none 0 0)], []⟩
noncomputable def tyi49 : TyI := ⟨(Tryd.prog.underlying 49).getD .invalid, 2, 32, .agg [.val (.pointer none), .val (.slice none 0 0)], []⟩
noncomputable def tyi51 : TyI := ⟨(Tryd.prog.underlying 51).getD .invalid, 1, 16, .one (.val .nilIface), []⟩
noncomputable def tyi52 : TyI := ⟨(Tryd.prog.underlying 52).getD .invalid, 1, 16, .one (.val .nilIface), []⟩
def tyi63 : TyI := ⟨.pointer 59, 1, 8, .one (.val (.pointer none)), []⟩
def tyi64 : TyI := ⟨.int .u64, 1, 8, .one (.u64 0), []⟩
def tyi65 : TyI := ⟨.array 5 64, 5, 40, .agg [.u64 0, .u64 0, .u64 0, .u64 0, .u64 0], []⟩
def tyi66 : TyI := ⟨.array 5 64, 5, 40, .agg [.u64 0, .u64 0, .u64 0, .u64 0, .u64 0], []⟩
def tyi73 : TyI := ⟨.int .u32, 1, 4, .one (.u32 0), []⟩
def tyi79 : TyI := ⟨.pointer 5, 1, 8, .one (.val (.pointer none)), []⟩
def tyi86 : TyI := ⟨.array 4 64, 4, 32, .agg [.u64 0, .u64 0, .u64 0, .u64 0], []⟩
noncomputable def tyi87 : TyI := ⟨(Tryd.prog.underlying 87).getD .invalid, 10, 80, .agg [.u64 0, .u64 0, .u64 0, .u64 0, .u64 0, .u64 0, .u64 0, .u64 0, .u64 0, .u64 0], []⟩
noncomputable def tyi88 : TyI := ⟨(Tryd.prog.underlying 88).getD .invalid, 10, 80, .agg [.u64 0, .u64 0, .u64 0, .u64 0, .u64 0, .u64 0, .u64 0, .u64 0, .u64 0, .u64 0], []⟩
def tyi93 : TyI := ⟨.array 16 73, 16, 64, .agg [.u32 0, .u32 0, .u32 0, .u32 0, .u32 0, .u32 0, .u32 0, .u32 0, .u32 0, .u32 0, .u32 0, .u32 0, .u32 0, .u32 0, .u32 0, .u32 0], []⟩
noncomputable def tyi104 : TyI := ⟨(Tryd.prog.underlying 104).getD .invalid, 2, 16, .agg [.u64 0, .u64 0], [0, 0]⟩
noncomputable def tyi105 : TyI := ⟨(Tryd.prog.underlying 105).getD .invalid, 2, 16, .agg [.u64 0, .u64 0], [0, 0]⟩
def tyi106 : TyI := ⟨.array 5 105, 10, 80, .agg [.u64 0, .u64 0, .u64 0, .u64 0, .u64 0, .u64 0, .u64 0, .u64 0, .u64 0, .u64 0], []⟩
def tyi112 : TyI := ⟨.array 5 64, 5, 40, .agg [.u64 0, .u64 0, .u64 0, .u64 0, .u64 0], []⟩
noncomputable def tyi118 : TyI := ⟨(Tryd.prog.underlying 118).getD .invalid, 2, 2, .agg [.u8 0, .u8 0], [0, 0]⟩
noncomputable def tyi119 : TyI := ⟨(Tryd.prog.underlying 119).getD .invalid, 2, 2, .agg [.u8 0, .u8 0], [0, 0]⟩
def tyi120 : TyI := ⟨.array 16 119, 32, 32, .agg [.u8 0, .u8 0, .u8 0, .u8 0, .u8 0, .u8 0, .u8 0, .u8 0, .u8 0, .u8 0, .u8 0, .u8 0, .u8 0, .u8 0, .u8 0, .u8 0, .u8 0, .u8 0, .u8 0, .u8 0, .u8 0, .u8 0, .u8 0, .u8 0, .u8 0, .u8 0, .u8 0, .u8 0, .u8 0, .u8 0, .u8 0, .u8 0], []⟩
def tyi125 : TyI := ⟨.array 8 73, 8, 32, .agg [.u32 0, .u32 0, .u32 0, .u32 0, .u32 0, .u32 0, .u32 0, .u32 0], []⟩
def tyi131 : TyI := ⟨.array 4 3, 4, 32, .agg [.num 0, .num 0, .num 0, .num 0], []⟩
def tyi133 : TyI := ⟨.array 64 73, 64, 256, .agg [.u32 0, .u32 0, .u32 0, .u32 0, .u32 0, .u32 0, .u32 0, .u32 0, .u32 0, .u32 0, .u32 0, .u32 0, .u32 0, .u32 0, .u32 0, .u32 0, .u32 0, .u32 0, .u32 0, .u32 0, .u32 0, .u32 0, .u32 0, .u32 0, .u32 0, .u32 0, .u32 0, .u32 0, .u32 0, .u32 0, .u32 0, .u32 0, .u32 0, .u32 0, .u32 0, .u32 0, .u32 0, .u32 0, .u32 0, .u32 0, .u32 0, .u32 0, .u32 0, .u32 0, .u32 0, .u32 0, .u32 0, .u32 0, .u32 0, .u32 0, .u32 0, .u32 0, .u32 0, .u32 0, .u32 0, .u32 0, .u32 0, .u32 0, .u32 0, .u32 0, .u32 0, .u32 0, .u32 0, .u32 0], []⟩
noncomputable def ty (t : Nat) : Option TyI := match t with
  | 2 => some tyi2
  | 3 => some tyi3
  | 4 => some tyi4
  | 5 => some tyi5
  | 9 => some tyi9
  | 12 => some tyi12
  | 20 => some tyi20
  | 21 => some tyi21
  | 23 => some tyi23
  | 32 => some tyi32
  | 35 => some tyi35
  | 36 => some tyi36
  | 38 => some tyi38
  | 47 => some tyi47
  | 48 => some tyi48
  | 49 => some tyi49
  | 51 => some tyi51
  | 52 => some tyi52
  | 63 => some tyi63
  | 64 => some tyi64
  | 65 => some tyi65
  | 66 => some tyi66
  | 73 => some tyi73
  | 79 => some tyi79
  | 86 => some tyi86
  | 87 => some tyi87
  | 88 => some tyi88
  | 93 => some tyi93
  | 104 => some tyi104
  | 105 => some tyi105
  | 106 => some tyi106
  | 112 => some tyi112
  | 118 => some tyi118
  | 119 => some tyi119
  | 120 => some tyi120
  | 125 => some tyi125
  | 131 => some tyi131
  | 133 => some tyi133
  | _ => none
theorem ty_one {i : TyI} {t : Nat} {z : Value} (h1 : Tryd.prog.underlying t = some i.d) (h2 : (Tryd.prog.info? t).map (fun x => (x.zero, x.size, x.bytes)) = some (some z, i.size, i.bytes)) (h3 : ∀ r, i.zero.rel r z) (h4 : z.cells.size = i.size) (h5 : i.zero.cells.length = i.size) (h6 : ∀ x ∈ i.zero.cells, x.plain ∧ x.bare) (h7 : (i.eqs.isEmpty || (eqB Tryd.prog t i.eqs && i.eqs.length == i.size)) = true) :
    TyOne Tryd.prog t i := by
  obtain ⟨nf, hn, hz, hs, hb⟩ := info_parts h2
  refine ⟨h1, nf, hn, hs, hb, z, hz, h3, h4, h5, h6, fun he => ?_⟩
  rw [he] at h7
  simp only [Bool.false_or, Bool.and_eq_true, beq_iff_eq] at h7
  exact h7
theorem tyok2 : TyOne Tryd.prog 2 tyi2 := ty_one (z := .int .i64 0) (by kernel_rfl) (by kernel_rfl) (fun r => rfl) rfl rfl (by simp [tyi2, CV.cells, AV.plain, AV.bare, Value.oneCell']) (by kernel_rfl)
theorem tyok3 : TyOne Tryd.prog 3 tyi3 := ty_one (z := .int .i64 0) (by kernel_rfl) (by kernel_rfl) (fun r => rfl) rfl rfl (by simp [tyi3, CV.cells, AV.plain, AV.bare, Value.oneCell']) (by kernel_rfl)
theorem tyok4 : TyOne Tryd.prog 4 tyi4 := ty_one (z := .bool false) (by kernel_rfl) (by kernel_rfl) (fun r => rfl) rfl rfl (by simp [tyi4, CV.cells, AV.plain, AV.bare, Value.oneCell']) (by kernel_rfl)
theorem tyok5 : TyOne Tryd.prog 5 tyi5 := ty_one (z := .int .u8 0) (by kernel_rfl) (by kernel_rfl) (fun r => rfl) rfl rfl (by simp [tyi5, CV.cells, AV.plain, AV.bare, Value.oneCell']) (by kernel_rfl)
theorem tyok9 : TyOne Tryd.prog 9 tyi9 := ty_one (z := .string ⟨#[]⟩) (by kernel_rfl) (by kernel_rfl) (fun r => rfl) rfl rfl (by simp [tyi9, CV.cells, AV.plain, AV.bare, Value.oneCell']) (by kernel_rfl)
theorem tyok12 : TyOne Tryd.prog 12 tyi12 := ty_one (z := .int .u64 0) (by kernel_rfl) (by kernel_rfl) (fun r => rfl) rfl rfl (by simp [tyi12, CV.cells, AV.plain, AV.bare, Value.oneCell']) (by kernel_rfl)
theorem tyok20 : TyOne Tryd.prog 20 tyi20 := ty_one (z := .nilIface) (by kernel_rfl) (by kernel_rfl) (fun r => rfl) rfl rfl (by simp [tyi20, CV.cells, AV.plain, AV.bare, Value.oneCell']) (by kernel_rfl)
theorem tyok21 : TyOne Tryd.prog 21 tyi21 := ty_one (z := .int .i32 0) (by kernel_rfl) (by kernel_rfl) (fun r => rfl) rfl rfl (by simp [tyi21, CV.cells, AV.plain, AV.bare, Value.oneCell']) (by kernel_rfl)
theorem tyok23 : TyOne Tryd.prog 23 tyi23 := ty_one (z := .int .i64 0) (by kernel_rfl) (by kernel_rfl) (fun r => rfl) rfl rfl (by simp [tyi23, CV.cells, AV.plain, AV.bare, Value.oneCell']) (by kernel_rfl)
theorem tyok32 : TyOne Tryd.prog 32 tyi32 := ty_one (z := .int .u16 0) (by kernel_rfl) (by kernel_rfl) (fun r => rfl) rfl rfl (by simp [tyi32, CV.cells, AV.plain, AV.bare, Value.oneCell']) (by kernel_rfl)
theorem tyok35 : TyOne Tryd.prog 35 tyi35 := ty_one (z := .int .u64 0) (by kernel_rfl) (by kernel_rfl) (fun r => rfl) rfl rfl (by simp [tyi35, CV.cells, AV.plain, AV.bare, Value.oneCell']) (by kernel_rfl)
theorem tyok36 : TyOne Tryd.prog 36 tyi36 := ty_one (z := .slice none 0 0) (by kernel_rfl) (by kernel_rfl) (fun r => rfl) rfl rfl (by simp [tyi36, CV.cells, AV.plain, AV.bare, Value.oneCell']) (by kernel_rfl)
theorem tyok38 : TyOne Tryd.prog 38 tyi38 := ty_one (z := .agg #[.int .i64 0, .int .i64 0, .int .i64 0]) (by kernel_rfl) (by kernel_rfl) (fun r => ⟨_, rfl, by simp [All2, AV.rel]⟩) rfl rfl (by simp [tyi38, CV.cells, AV.plain, AV.bare, Value.oneCell']) (by kernel_rfl)
theorem tyok47 : TyOne Tryd.prog 47 tyi47 := ty_one (z := .pointer none) (by kernel_rfl) (by kernel_rfl) (fun r => rfl) rfl rfl (by simp [tyi47, CV.cells, AV.plain, AV.bare, Value.oneCell']) (by kernel_rfl)
theorem tyok48 : TyOne Tryd.prog 48 tyi48 := ty_one (z := .agg #[.pointer none, .slice none 0 0]) (by kernel_rfl) (by kernel_rfl) (fun r => ⟨_, rfl, by simp [All2, AV.rel]⟩) rfl rfl (by simp [tyi48, CV.cells, AV.plain, AV.bare, Value.oneCell']) (by kernel_rfl)
theorem tyok49 : TyOne Tryd.prog 49 tyi49 := ty_one (z := .agg #[.pointer none, .slice none 0 0]) (by kernel_rfl) (by kernel_rfl) (fun r => ⟨_, rfl, by simp [All2, AV.rel]⟩) rfl rfl (by simp [tyi49, CV.cells, AV.plain, AV.bare, Value.oneCell']) (by kernel_rfl)
theorem tyok51 : TyOne Tryd.prog 51 tyi51 := ty_one (z := .nilIface) (by kernel_rfl) (by kernel_rfl) (fun r => rfl) rfl rfl (by simp [tyi51, CV.cells, AV.plain, AV.bare, Value.oneCell']) (by kernel_rfl)
theorem tyok52 : TyOne Tryd.prog 52 tyi52 := ty_one (z := .nilIface) (by kernel_rfl) (by kernel_rfl) (fun r => rfl) rfl rfl (by simp [tyi52, CV.cells, AV.plain, AV.bare, Value.oneCell']) (by kernel_rfl)
theorem tyok63 : TyOne Tryd.prog 63 tyi63 := ty_one (z := .pointer none) (by kernel_rfl) (by kernel_rfl) (fun r => rfl) rfl rfl (by simp [tyi63, CV.cells, AV.plain, AV.bare, Value.oneCell']) (by kernel_rfl)
theorem tyok64 : TyOne Tryd.prog 64 tyi64 := ty_one (z := .int .u64 0) (by kernel_rfl) (by kernel_rfl) (fun r => rfl) rfl rfl (by simp [tyi64, CV.cells, AV.plain, AV.bare, Value.oneCell']) (by kernel_rfl)
theorem tyok65 : TyOne Tryd.prog 65 tyi65 := ty_one (z := .agg #[.int .u64 0, .int .u64 0, .int .u64 0, .int .u64 0, .int .u64 0]) (by kernel_rfl) (by kernel_rfl) (fun r => ⟨_, rfl, by simp [All2, AV.rel]⟩) rfl rfl (by simp [tyi65, CV.cells, AV.plain, AV.bare, Value.oneCell']) (by kernel_rfl)
theorem tyok66 : TyOne Tryd.prog 66 tyi66 := ty_one (z := .agg #[.int .u64 0, .int .u64 0, .int .u64 0, .int .u64 0, .int .u64 0]) (by kernel_rfl) (by kernel_rfl) (fun r => ⟨_, rfl, by simp [All2, AV.rel]⟩) rfl rfl (by simp [tyi66, CV.cells, AV.plain, AV.bare, Value.oneCell']) (by kernel_rfl)
theorem tyok73 : TyOne Tryd.prog 73 tyi73 := ty_one (z := .int .u32 0) (by kernel_rfl) (by kernel_rfl) (fun r => rfl) rfl rfl (by simp [tyi73, CV.cells, AV.plain, AV.bare, Value.oneCell']) (by kernel_rfl)
theorem tyok79 : TyOne Tryd.prog 79 tyi79 := ty_one (z := .pointer none) (by kernel_rfl) (by kernel_rfl) (fun r => rfl) rfl rfl (by simp [tyi79, CV.cells, AV.plain, AV.bare, Value.oneCell']) (by kernel_rfl)
theorem tyok86 : TyOne Tryd.prog 86 tyi86 := ty_one (z := .agg #[.int .u64 0, .int .u64 0, .int .u64 0, .int .u64 0]) (by kernel_rfl) (by kernel_rfl) (fun r => ⟨_, rfl, by simp [All2, AV.rel]⟩) rfl rfl (by simp [tyi86, CV.cells, AV.plain, AV.bare, Value.oneCell']) (by kernel_rfl)
theorem tyok87 : TyOne Tryd.prog 87 tyi87 := ty_one (z := .agg #[.int .u64 0, .int .u64 0, .int .u64 0, .int .u64 0, .int .u64 0, .int .u64 0, .int .u64 0, .int .u64 0, .int .u64 0, .int .u64 0]) (by kernel_rfl) (by kernel_rfl) (fun r => ⟨_, rfl, by simp [All2, AV.rel]⟩) rfl rfl (by simp [tyi87, CV.cells, AV.plain, AV.bare, Value.oneCell']) (by kernel_rfl)
theorem tyok88 : TyOne Tryd.prog 88 tyi88 := ty_one (z := .agg #[.int .u64 0, .int .u64 0, .int .u64 0, .int .u64 0, .int .u64 0, .int .u64 0, .int .u64 0, .int .u64 0, .int .u64 0, .int .u64 0]) (by kernel_rfl) (by kernel_rfl) (fun r => ⟨_, rfl, by simp [All2, AV.rel]⟩) rfl rfl (by simp [tyi88, CV.cells, AV.plain, AV.bare, Value.oneCell']) (by kernel_rfl)
theorem tyok93 : TyOne Tryd.prog 93 tyi93 := ty_one (z := .agg #[.int .u32 0, .int .u32 0, .int .u32 0, .int .u32 0, .int .u32 0, .int .u32 0, .int .u32 0, .int .u32 0, .int .u32 0, .int .u32 0, .int .u32 0, .int .u32 0, .int .u32 0, .int .u32 0, .int .u32 0, .int .u32 0]) (by kernel_rfl) (by kernel_rfl) (fun r => ⟨_, rfl, by simp [All2, AV.rel]⟩) rfl rfl (by simp [tyi93, CV.cells, AV.plain, AV.bare, Value.oneCell']) (by kernel_rfl)
theorem tyok104 : TyOne Tryd.prog 104 tyi104 := ty_one (z := .agg #[.int .u64 0, .int .u64 0]) (by kernel_rfl) (by kernel_rfl) (fun r => ⟨_, rfl, by simp [All2, AV.rel]⟩) rfl rfl (by simp [tyi104, CV.cells, AV.plain, AV.bare, Value.oneCell']) (by kernel_rfl)
theorem tyok105 : TyOne Tryd.prog 105 tyi105 := ty_one (z := .agg #[.int .u64 0, .int .u64 0]) (by kernel_rfl) (by kernel_rfl) (fun r => ⟨_, rfl, by simp [All2, AV.rel]⟩) rfl rfl (by simp [tyi105, CV.cells, AV.plain, AV.bare, Value.oneCell']) (by kernel_rfl)
theorem tyok106 : TyOne Tryd.prog 106 tyi106 := ty_one (z := .agg #[.int .u64 0, .int .u64 0, .int .u64 0, .int .u64 0, .int .u64 0, .int .u64 0, .int .u64 0, .int .u64 0, .int .u64 0, .int .u64 0]) (by kernel_rfl) (by kernel_rfl) (fun r => ⟨_, rfl, by simp [All2, AV.rel]⟩) rfl rfl (by simp [tyi106, CV.cells, AV.plain, AV.bare, Value.oneCell']) (by kernel_rfl)
theorem tyok112 : TyOne Tryd.prog 112 tyi112 := ty_one (z := .agg #[.int .u64 0, .int .u64 0, .int .u64 0, .int .u64 0, .int .u64 0]) (by kernel_rfl) (by kernel_rfl) (fun r => ⟨_, rfl, by simp [All2, AV.rel]⟩) rfl rfl (by simp [tyi112, CV.cells, AV.plain, AV.bare, Value.oneCell']) (by kernel_rfl)
theorem tyok118 : TyOne Tryd.prog 118 tyi118 := ty_one (z := .agg #[.int .u8 0, .int .u8 0]) (by kernel_rfl) (by kernel_rfl) (fun r => ⟨_, rfl, by simp [All2, AV.rel]⟩) rfl rfl (by simp [tyi118, CV.cells, AV.plain, AV.bare, Value.oneCell']) (by kernel_rfl)
theorem tyok119 : TyOne Tryd.prog 119 tyi119 := ty_one (z := .agg #[.int .u8 0, .int .u8 0]) (by kernel_rfl) (by kernel_rfl) (fun r => ⟨_, rfl, by simp [All2, AV.rel]⟩) rfl rfl (by simp [tyi119, CV.cells, AV.plain, AV.bare, Value.oneCell']) (by kernel_rfl)
theorem tyok120 : TyOne Tryd.prog 120 tyi120 := ty_one (z := .agg #[.int .u8 0, .int .u8 0, .int .u8 0, .int .u8 0, .int .u8 0, .int .u8 0, .int .u8 0, .int .u8 0, .int .u8 0, .int .u8 0, .int .u8 0, .int .u8 0, .int .u8 0, .int .u8 0, .int .u8 0, .int .u8 0, .int .u8 0, .int .u8 0, .int .u8 0, .int .u8 0, .int .u8 0, .int .u8 0, .int .u8 0, .int .u8 0, .int .u8 0, .int .u8 0, .int .u8 0, .int .u8 0, .int .u8 0, .int .u8 0, .int .u8 0, .int .u8 0]) (by kernel_rfl) (by kernel_rfl) (fun r => ⟨_, rfl, by simp [All2, AV.rel]⟩) rfl rfl (by simp [tyi120, CV.cells, AV.plain, AV.bare, Value.oneCell']) (by kernel_rfl)
theorem tyok125 : TyOne Tryd.prog 125 tyi125 := ty_one (z := .agg #[.int .u32 0, .int .u32 0, .int .u32 0, .int .u32 0, .int .u32 0, .int .u32 0, .int .u32 0, .int .u32 0]) (by kernel_rfl) (by kernel_rfl) (fun r => ⟨_, rfl, by simp [All2, AV.rel]⟩) rfl rfl (by simp [tyi125, CV.cells, AV.plain, AV.bare, Value.oneCell']) (by kernel_rfl)
theorem tyok131 : TyOne Tryd.prog 131 tyi131 := ty_one (z := .agg #[.int .i64 0, .int .i64 0, .int .i64 0, .int .i64 0]) (by kernel_rfl) (by kernel_rfl) (fun r => ⟨_, rfl, by simp [All2, AV.rel]⟩) rfl rfl (by simp [tyi131, CV.cells, AV.plain, AV.bare, Value.oneCell']) (by kernel_rfl)
theorem tyok133 : TyOne Tryd.prog 133 tyi133 := ty_one (z := .agg #[.int .u32 0, .int .u32 0, .int .u32 0, .int .u32 0, .int .u32 0, .int .u32 0, .int .u32 0, .int .u32 0, .int .u32 0, .int .u32 0, .int .u32 0, .int .u32 0, .int .u32 0, .int .u32 0, .int .u32 0, .int .u32 0, .int .u32 0, .int .u32 0, .int .u32 0, .int .u32 0, .int .u32 0, .int .u32 0, .int .u32 0, .int .u32 0, .int .u32 0, .int .u32 0, .int .u32 0, .int .u32 0, .int .u32 0, .int .u32 0, .int .u32 0, .int .u32 0, .int .u32 0, .int .u32 0, .int .u32 0, .int .u32 0, .int .u32 0, .int .u32 0, .int .u32 0, .int .u32 0, .int .u32 0, .int .u32 0, .int .u32 0, .int .u32 0, .int .u32 0, .int .u32 0, .int .u32 0, .int .u32 0, .int .u32 0, .int .u32 0, .int .u32 0, .int .u32 0, .int .u32 0, .int .u32 0, .int .u32 0, .int .u32 0, .int .u32 0, .int .u32 0, .int .u32 0, .int .u32 0, .int .u32 0, .int .u32 0, .int .u32 0, .int .u32 0]) (by kernel_rfl) (by kernel_rfl) (fun r => ⟨_, rfl, by simp [All2, AV.rel]⟩) rfl rfl (by simp [tyi133, CV.cells, AV.plain, AV.bare, Value.oneCell']) (by kernel_rfl)
theorem ty_ok : TyOk Tryd.prog ty := fun t i h => by
  unfold ty at h
  split at h
  · injection h with h; subst h; exact tyok2
  · injection h with h; subst h; exact tyok3
  · injection h with h; subst h; exact tyok4
  · injection h with h; subst h; exact tyok5
  · injection h with h; subst h; exact tyok9
  · injection h with h; subst h; exact tyok12
  · injection h with h; subst h; exact tyok20
  · injection h with h; subst h; exact tyok21
  · injection h with h; subst h; exact tyok23
  · injection h with h; subst h; exact tyok32
  · injection h with h; subst h; exact tyok35
  · injection h with h; subst h; exact tyok36
  · injection h with h; subst h; exact tyok38
  · injection h with h; subst h; exact tyok47
  · injection h with h; subst h; exact tyok48
  · injection h with h; subst h; exact tyok49
  · injection h with h; subst h; exact tyok51
  · injection h with h; subst h; exact tyok52
  · injection h with h; subst h; exact tyok63
  · injection h with h; subst h; exact tyok64
  · injection h with h; subst h; exact tyok65
  · injection h with h; subst h; exact tyok66
  · injection h with h; subst h; exact tyok73
  · injection h with h; subst h; exact tyok79
  · injection h with h; subst h; exact tyok86
  · injection h with h; subst h; exact tyok87
  · injection h with h; subst h; exact tyok88
  · injection h with h; subst h; exact tyok93
  · injection h with h; subst h; exact tyok104
  · injection h with h; subst h; exact tyok105
  · injection h with h; subst h; exact tyok106
  · injection h with h; subst h; exact tyok112
  · injection h with h; subst h; exact tyok118
  · injection h with h; subst h; exact tyok119
  · injection h with h; subst h; exact tyok120
  · injection h with h; subst h; exact tyok125
  · injection h with h; subst h; exact tyok131
  · injection h with h; subst h; exact tyok133
  · cases h
end Go.Proofs.YtemlbokoaohckaaDoor
