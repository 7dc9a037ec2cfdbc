/-
  The types of the program, as the walk by reckoning looks them up. Made by genty.py.
-/
import Derived.Test.YtgfcdkbbkgamnaaDoorSs
import Derived.Test.YtgfcdkbbkgamnaaDoorProg
namespace Go.Proofs.YtgfcdkbbkgamnaaDoor
open Go Go.RowKit
set_option linter.unusedVariables false
set_option linter.unusedSimpArgs false
def tyi2 : TyI := ⟨.int .i64, 1, 8, .one (.num 0), false⟩
def tyi3 : TyI := ⟨.int .i64, 1, 8, .one (.num 0), false⟩
def tyi4 : TyI := ⟨.bool, 1, 1, .one (.bo false), false⟩
def tyi5 : TyI := ⟨.int .u8, 1, 1, .one (.u8 0), false⟩
def tyi9 : TyI := ⟨.string, 1, 16, .one (.str []), false⟩
def tyi12 : TyI := ⟨.int .u64, 1, 8, .one (.u64 0), false⟩
noncomputable def tyi20 : TyI := ⟨(Tryd.prog.underlying 20).getD .invalid, 1, 16, .one (.val .nilIface), false⟩
def tyi21 : TyI := ⟨.int .i32, 1, 4, .one (.int .i32 0), false⟩
def tyi23 : TyI := ⟨.slice 42, 1, 24, .one (.val (.slice none 0 0)), false⟩
def tyi24 : TyI := ⟨.int .i64, 1, 8, .one (.num 0), false⟩
def tyi27 : TyI := ⟨.slice 32, 1, 24, .one (.val (.slice none 0 0)), false⟩
noncomputable def tyi31 : TyI := ⟨(Tryd.prog.underlying 31).getD .invalid, 2, 16, .agg [.num 0, .num 0], true⟩
noncomputable def tyi32 : TyI := ⟨(Tryd.prog.underlying 32).getD .invalid, 2, 16, .agg [.num 0, .num 0], true⟩
def tyi34 : TyI := ⟨.slice 3, 1, 24, .one (.val (.slice none 0 0)), false⟩
def tyi39 : TyI := ⟨.slice 5, 1, 24, .one (.val (.slice none 0 0)), false⟩
noncomputable def tyi42 : TyI := ⟨(Tryd.prog.underlying 42).getD .invalid, 2, 16, .agg [.num 0, .num 0], true⟩
def tyi51 : TyI := ⟨.slice 9, 1, 24, .one (.val (.slice none 0 0)), false⟩
noncomputable def tyi52 : TyI := ⟨(Tryd.prog.underlying 52).getD .invalid, 2, 48, .agg [.val (.slice none 0 0), .val (.slice none 0 0)], false⟩
noncomputable def tyi53 : TyI := ⟨(Tryd.prog.underlying 53).getD .invalid, 2, 48, .agg [.val (.slice none 0 0), .val (.slice none 0 0)], false⟩
def tyi70 : TyI := ⟨.slice 74, 1, 24, .one (.val (.slice none 0 0)), false⟩
noncomputable def tyi73 : TyI := ⟨(Tryd.prog.underlying 73).getD .invalid, 2, 24, .agg [.num 0, .str []], false⟩
noncomputable def tyi74 : TyI := ⟨(Tryd.prog.underlying 74).getD .invalid, 2, 24, .agg [.num 0, .str []], false⟩
def tyi89 : TyI := ⟨.slice 92, 1, 24, .one (.val (.slice none 0 0)), false⟩
noncomputable def tyi91 : TyI := ⟨(Tryd.prog.underlying 91).getD .invalid, 2, 32, .agg [.str [], .str []], false⟩
noncomputable def tyi92 : TyI := ⟨(Tryd.prog.underlying 92).getD .invalid, 2, 32, .agg [.str [], .str []], false⟩
def tyi93 : TyI := ⟨.pointer 95, 1, 8, .one (.val (.pointer none)), false⟩
noncomputable def tyi94 : TyI := ⟨(Tryd.prog.underlying 94).getD .invalid, 2, 32, .agg [.val (.pointer none), .val (.slice none 0 0)], false⟩
noncomputable def tyi95 : TyI := ⟨(Tryd.prog.underlying 95).getD .invalid, 2, 32, .agg [.val (.pointer none), .val (.slice none 0 0)], false⟩
noncomputable def tyi96 : TyI := ⟨(Tryd.prog.underlying 96).getD .invalid, 1, 16, .one (.val .nilIface), false⟩
noncomputable def tyi97 : TyI := ⟨(Tryd.prog.underlying 97).getD .invalid, 1, 16, .one (.val .nilIface), false⟩
def tyi101 : TyI := ⟨.pointer 103, 1, 8, .one (.val (.pointer none)), false⟩
noncomputable def tyi102 : TyI := ⟨(Tryd.prog.underlying 102).getD .invalid, 2, 32, .agg [.val (.slice none 0 0), .num 0], false⟩
noncomputable def tyi103 : TyI := ⟨(Tryd.prog.underlying 103).getD .invalid, 2, 32, .agg [.val (.slice none 0 0), .num 0], false⟩
def tyi110 : TyI := ⟨.pointer 5, 1, 8, .one (.val (.pointer none)), false⟩
def tyi115 : TyI := ⟨.int .u64, 1, 8, .one (.u64 0), false⟩
def tyi122 : TyI := ⟨.pointer 118, 1, 8, .one (.val (.pointer none)), false⟩
def tyi127 : TyI := ⟨.array 24 5, 24, 24, .agg [.u8 0, .u8 0, .u8 0, .u8 0, .u8 0, .u8 0, .u8 0, .u8 0, .u8 0, .u8 0, .u8 0, .u8 0, .u8 0, .u8 0, .u8 0, .u8 0, .u8 0, .u8 0, .u8 0, .u8 0, .u8 0, .u8 0, .u8 0, .u8 0], false⟩
def tyi128 : TyI := ⟨.int .u64, 1, 8, .one (.u64 0), false⟩
def tyi134 : TyI := ⟨.int .i64, 1, 8, .one (.num 0), false⟩
def tyi137 : TyI := ⟨.pointer 152, 1, 8, .one (.val (.pointer none)), false⟩
def tyi140 : TyI := ⟨.int .u32, 1, 4, .one (.u32 0), false⟩
def tyi145 : TyI := ⟨.array 20 128, 20, 160, .agg [.u64 0, .u64 0, .u64 0, .u64 0, .u64 0, .u64 0, .u64 0, .u64 0, .u64 0, .u64 0, .u64 0, .u64 0, .u64 0, .u64 0, .u64 0, .u64 0, .u64 0, .u64 0, .u64 0, .u64 0], false⟩
def tyi146 : TyI := ⟨.array 65 5, 65, 65, .agg [.u8 0, .u8 0, .u8 0, .u8 0, .u8 0, .u8 0, .u8 0, .u8 0, .u8 0, .u8 0, .u8 0, .u8 0, .u8 0, .u8 0, .u8 0, .u8 0, .u8 0, .u8 0, .u8 0, .u8 0, .u8 0, .u8 0, .u8 0, .u8 0, .u8 0, .u8 0, .u8 0, .u8 0, .u8 0, .u8 0, .u8 0, .u8 0, .u8 0, .u8 0, .u8 0, .u8 0, .u8 0, .u8 0, .u8 0, .u8 0, .u8 0, .u8 0, .u8 0, .u8 0, .u8 0, .u8 0, .u8 0, .u8 0, .u8 0, .u8 0, .u8 0, .u8 0, .u8 0, .u8 0, .u8 0, .u8 0, .u8 0, .u8 0, .u8 0, .u8 0, .u8 0, .u8 0, .u8 0, .u8 0, .u8 0], false⟩
noncomputable def tyi151 : TyI := ⟨(Tryd.prog.underlying 151).getD .invalid, 3, 48, .agg [.str [], .str [], .val .nilIface], false⟩
noncomputable def tyi152 : TyI := ⟨(Tryd.prog.underlying 152).getD .invalid, 3, 48, .agg [.str [], .str [], .val .nilIface], false⟩
noncomputable def tyi156 : TyI := ⟨(Tryd.prog.underlying 156).getD .invalid, 2, 2, .agg [.u8 0, .u8 0], true⟩
noncomputable def tyi157 : TyI := ⟨(Tryd.prog.underlying 157).getD .invalid, 2, 2, .agg [.u8 0, .u8 0], true⟩
def tyi158 : TyI := ⟨.array 16 157, 32, 32, .agg [.u8 0, .u8 0, .u8 0, .u8 0, .u8 0, .u8 0, .u8 0, .u8 0, .u8 0, .u8 0, .u8 0, .u8 0, .u8 0, .u8 0, .u8 0, .u8 0, .u8 0, .u8 0, .u8 0, .u8 0, .u8 0, .u8 0, .u8 0, .u8 0, .u8 0, .u8 0, .u8 0, .u8 0, .u8 0, .u8 0, .u8 0, .u8 0], false⟩
def tyi161 : TyI := ⟨.pointer 163, 1, 8, .one (.val (.pointer none)), false⟩
noncomputable def tyi162 : TyI := ⟨(Tryd.prog.underlying 162).getD .invalid, 1, 16, .agg [.str []], false⟩
noncomputable def tyi163 : TyI := ⟨(Tryd.prog.underlying 163).getD .invalid, 1, 16, .agg [.str []], false⟩
def tyi165 : TyI := ⟨.array 32 5, 32, 32, .agg [.u8 0, .u8 0, .u8 0, .u8 0, .u8 0, .u8 0, .u8 0, .u8 0, .u8 0, .u8 0, .u8 0, .u8 0, .u8 0, .u8 0, .u8 0, .u8 0, .u8 0, .u8 0, .u8 0, .u8 0, .u8 0, .u8 0, .u8 0, .u8 0, .u8 0, .u8 0, .u8 0, .u8 0, .u8 0, .u8 0, .u8 0, .u8 0], false⟩
def tyi166 : TyI := ⟨.array 64 5, 64, 64, .agg [.u8 0, .u8 0, .u8 0, .u8 0, .u8 0, .u8 0, .u8 0, .u8 0, .u8 0, .u8 0, .u8 0, .u8 0, .u8 0, .u8 0, .u8 0, .u8 0, .u8 0, .u8 0, .u8 0, .u8 0, .u8 0, .u8 0, .u8 0, .u8 0, .u8 0, .u8 0, .u8 0, .u8 0, .u8 0, .u8 0, .u8 0, .u8 0, .u8 0, .u8 0, .u8 0, .u8 0, .u8 0, .u8 0, .u8 0, .u8 0, .u8 0, .u8 0, .u8 0, .u8 0, .u8 0, .u8 0, .u8 0, .u8 0, .u8 0, .u8 0, .u8 0, .u8 0, .u8 0, .u8 0, .u8 0, .u8 0, .u8 0, .u8 0, .u8 0, .u8 0, .u8 0, .u8 0, .u8 0, .u8 0], false⟩
noncomputable def ty (t : Nat) : Option TyI := match t with
  | 2 => some tyi2
  | 3 => some tyi3
  | 4 => some tyi4
  | 5 => some tyi5
  | 9 => some tyi9
  | 12 => some tyi12
  | 20 => some tyi20
  | 21 => some tyi21
  | 23 => some tyi23
  | 24 => some tyi24
  | 27 => some tyi27
  | 31 => some tyi31
  | 32 => some tyi32
  | 34 => some tyi34
  | 39 => some tyi39
  | 42 => some tyi42
  | 51 => some tyi51
  | 52 => some tyi52
  | 53 => some tyi53
  | 70 => some tyi70
  | 73 => some tyi73
  | 74 => some tyi74
  | 89 => some tyi89
  | 91 => some tyi91
  | 92 => some tyi92
  | 93 => some tyi93
  | 94 => some tyi94
  | 95 => some tyi95
  | 96 => some tyi96
  | 97 => some tyi97
  | 101 => some tyi101
  | 102 => some tyi102
  | 103 => some tyi103
  | 110 => some tyi110
  | 115 => some tyi115
  | 122 => some tyi122
  | 127 => some tyi127
  | 128 => some tyi128
  | 134 => some tyi134
  | 137 => some tyi137
  | 140 => some tyi140
  | 145 => some tyi145
  | 146 => some tyi146
  | 151 => some tyi151
  | 152 => some tyi152
  | 156 => some tyi156
  | 157 => some tyi157
  | 158 => some tyi158
  | 161 => some tyi161
  | 162 => some tyi162
  | 163 => some tyi163
  | 165 => some tyi165
  | 166 => some tyi166
  | _ => none
theorem ty_one {i : TyI} {t : Nat} {z : Value} (h1 : Tryd.prog.underlying t = some i.d) (h2 : (Tryd.prog.info? t).map (fun x => (x.zero, x.size, x.bytes)) = some (some z, i.size, i.bytes)) (h3 : ∀ r, i.zero.rel r z) (h4 : z.cells.size = i.size) (h5 : i.zero.cells.length = i.size) (h6 : ∀ x ∈ i.zero.cells, x.plain ∧ x.bare) (h7 : (!i.eqs || (eqB Tryd.prog t && (Tryd.prog.fieldsOf t).size == i.size)) = true) :
    TyOne Tryd.prog t i := by
  obtain ⟨nf, hn, hz, hs, hb⟩ := info_parts h2
  refine ⟨h1, nf, hn, hs, hb, z, hz, h3, h4, h5, h6, fun he => ?_⟩
  rw [he] at h7
  simp only [Bool.not_true, Bool.false_or, Bool.and_eq_true, beq_iff_eq] at h7
  exact h7
theorem tyok2 : TyOne Tryd.prog 2 tyi2 := ty_one (z := .int .i64 0) (by kernel_rfl) (by kernel_rfl) (fun r => rfl) rfl rfl (by simp [tyi2, CV.cells, AV.plain, AV.bare, Value.oneCell']) (by kernel_rfl)
theorem tyok3 : TyOne Tryd.prog 3 tyi3 := ty_one (z := .int .i64 0) (by kernel_rfl) (by kernel_rfl) (fun r => rfl) rfl rfl (by simp [tyi3, CV.cells, AV.plain, AV.bare, Value.oneCell']) (by kernel_rfl)
theorem tyok4 : TyOne Tryd.prog 4 tyi4 := ty_one (z := .bool false) (by kernel_rfl) (by kernel_rfl) (fun r => rfl) rfl rfl (by simp [tyi4, CV.cells, AV.plain, AV.bare, Value.oneCell']) (by kernel_rfl)
theorem tyok5 : TyOne Tryd.prog 5 tyi5 := ty_one (z := .int .u8 0) (by kernel_rfl) (by kernel_rfl) (fun r => rfl) rfl rfl (by simp [tyi5, CV.cells, AV.plain, AV.bare, Value.oneCell']) (by kernel_rfl)
theorem tyok9 : TyOne Tryd.prog 9 tyi9 := ty_one (z := .string ⟨#[]⟩) (by kernel_rfl) (by kernel_rfl) (fun r => rfl) rfl rfl (by simp [tyi9, CV.cells, AV.plain, AV.bare, Value.oneCell']) (by kernel_rfl)
theorem tyok12 : TyOne Tryd.prog 12 tyi12 := ty_one (z := .int .u64 0) (by kernel_rfl) (by kernel_rfl) (fun r => rfl) rfl rfl (by simp [tyi12, CV.cells, AV.plain, AV.bare, Value.oneCell']) (by kernel_rfl)
theorem tyok20 : TyOne Tryd.prog 20 tyi20 := ty_one (z := .nilIface) (by kernel_rfl) (by kernel_rfl) (fun r => rfl) rfl rfl (by simp [tyi20, CV.cells, AV.plain, AV.bare, Value.oneCell']) (by kernel_rfl)
theorem tyok21 : TyOne Tryd.prog 21 tyi21 := ty_one (z := .int .i32 0) (by kernel_rfl) (by kernel_rfl) (fun r => rfl) rfl rfl (by simp [tyi21, CV.cells, AV.plain, AV.bare, Value.oneCell']) (by kernel_rfl)
theorem tyok23 : TyOne Tryd.prog 23 tyi23 := ty_one (z := .slice none 0 0) (by kernel_rfl) (by kernel_rfl) (fun r => rfl) rfl rfl (by simp [tyi23, CV.cells, AV.plain, AV.bare, Value.oneCell']) (by kernel_rfl)
theorem tyok24 : TyOne Tryd.prog 24 tyi24 := ty_one (z := .int .i64 0) (by kernel_rfl) (by kernel_rfl) (fun r => rfl) rfl rfl (by simp [tyi24, CV.cells, AV.plain, AV.bare, Value.oneCell']) (by kernel_rfl)
theorem tyok27 : TyOne Tryd.prog 27 tyi27 := ty_one (z := .slice none 0 0) (by kernel_rfl) (by kernel_rfl) (fun r => rfl) rfl rfl (by simp [tyi27, CV.cells, AV.plain, AV.bare, Value.oneCell']) (by kernel_rfl)
theorem tyok31 : TyOne Tryd.prog 31 tyi31 := ty_one (z := .agg #[.int .i64 0, .int .i64 0]) (by kernel_rfl) (by kernel_rfl) (fun r => ⟨_, rfl, by simp [All2, AV.rel]⟩) rfl rfl (by simp [tyi31, CV.cells, AV.plain, AV.bare, Value.oneCell']) (by kernel_rfl)
theorem tyok32 : TyOne Tryd.prog 32 tyi32 := ty_one (z := .agg #[.int .i64 0, .int .i64 0]) (by kernel_rfl) (by kernel_rfl) (fun r => ⟨_, rfl, by simp [All2, AV.rel]⟩) rfl rfl (by simp [tyi32, CV.cells, AV.plain, AV.bare, Value.oneCell']) (by kernel_rfl)
theorem tyok34 : TyOne Tryd.prog 34 tyi34 := ty_one (z := .slice none 0 0) (by kernel_rfl) (by kernel_rfl) (fun r => rfl) rfl rfl (by simp [tyi34, CV.cells, AV.plain, AV.bare, Value.oneCell']) (by kernel_rfl)
theorem tyok39 : TyOne Tryd.prog 39 tyi39 := ty_one (z := .slice none 0 0) (by kernel_rfl) (by kernel_rfl) (fun r => rfl) rfl rfl (by simp [tyi39, CV.cells, AV.plain, AV.bare, Value.oneCell']) (by kernel_rfl)
theorem tyok42 : TyOne Tryd.prog 42 tyi42 := ty_one (z := .agg #[.int .i64 0, .int .i64 0]) (by kernel_rfl) (by kernel_rfl) (fun r => ⟨_, rfl, by simp [All2, AV.rel]⟩) rfl rfl (by simp [tyi42, CV.cells, AV.plain, AV.bare, Value.oneCell']) (by kernel_rfl)
theorem tyok51 : TyOne Tryd.prog 51 tyi51 := ty_one (z := .slice none 0 0) (by kernel_rfl) (by kernel_rfl) (fun r => rfl) rfl rfl (by simp [tyi51, CV.cells, AV.plain, AV.bare, Value.oneCell']) (by kernel_rfl)
theorem tyok52 : TyOne Tryd.prog 52 tyi52 := ty_one (z := .agg #[.slice none 0 0, .slice none 0 0]) (by kernel_rfl) (by kernel_rfl) (fun r => ⟨_, rfl, by simp [All2, AV.rel]⟩) rfl rfl (by simp [tyi52, CV.cells, AV.plain, AV.bare, Value.oneCell']) (by kernel_rfl)
theorem tyok53 : TyOne Tryd.prog 53 tyi53 := ty_one (z := .agg #[.slice none 0 0, .slice none 0 0]) (by kernel_rfl) (by kernel_rfl) (fun r => ⟨_, rfl, by simp [All2, AV.rel]⟩) rfl rfl (by simp [tyi53, CV.cells, AV.plain, AV.bare, Value.oneCell']) (by kernel_rfl)
theorem tyok70 : TyOne Tryd.prog 70 tyi70 := ty_one (z := .slice none 0 0) (by kernel_rfl) (by kernel_rfl) (fun r => rfl) rfl rfl (by simp [tyi70, CV.cells, AV.plain, AV.bare, Value.oneCell']) (by kernel_rfl)
theorem tyok73 : TyOne Tryd.prog 73 tyi73 := ty_one (z := .agg #[.int .i64 0, .string ⟨#[]⟩]) (by kernel_rfl) (by kernel_rfl) (fun r => ⟨_, rfl, by simp [All2, AV.rel]⟩) rfl rfl (by simp [tyi73, CV.cells, AV.plain, AV.bare, Value.oneCell']) (by kernel_rfl)
theorem tyok74 : TyOne Tryd.prog 74 tyi74 := ty_one (z := .agg #[.int .i64 0, .string ⟨#[]⟩]) (by kernel_rfl) (by kernel_rfl) (fun r => ⟨_, rfl, by simp [All2, AV.rel]⟩) rfl rfl (by simp [tyi74, CV.cells, AV.plain, AV.bare, Value.oneCell']) (by kernel_rfl)
theorem tyok89 : TyOne Tryd.prog 89 tyi89 := ty_one (z := .slice none 0 0) (by kernel_rfl) (by kernel_rfl) (fun r => rfl) rfl rfl (by simp [tyi89, CV.cells, AV.plain, AV.bare, Value.oneCell']) (by kernel_rfl)
theorem tyok91 : TyOne Tryd.prog 91 tyi91 := ty_one (z := .agg #[.string ⟨#[]⟩, .string ⟨#[]⟩]) (by kernel_rfl) (by kernel_rfl) (fun r => ⟨_, rfl, by simp [All2, AV.rel]⟩) rfl rfl (by simp [tyi91, CV.cells, AV.plain, AV.bare, Value.oneCell']) (by kernel_rfl)
theorem tyok92 : TyOne Tryd.prog 92 tyi92 := ty_one (z := .agg #[.string ⟨#[]⟩, .string ⟨#[]⟩]) (by kernel_rfl) (by kernel_rfl) (fun r => ⟨_, rfl, by simp [All2, AV.rel]⟩) rfl rfl (by simp [tyi92, CV.cells, AV.plain, AV.bare, Value.oneCell']) (by kernel_rfl)
theorem tyok93 : TyOne Tryd.prog 93 tyi93 := ty_one (z := .pointer none) (by kernel_rfl) (by kernel_rfl) (fun r => rfl) rfl rfl (by simp [tyi93, CV.cells, AV.plain, AV.bare, Value.oneCell']) (by kernel_rfl)
theorem tyok94 : TyOne Tryd.prog 94 tyi94 := ty_one (z := .agg #[.pointer none, .slice none 0 0]) (by kernel_rfl) (by kernel_rfl) (fun r => ⟨_, rfl, by simp [All2, AV.rel]⟩) rfl rfl (by simp [tyi94, CV.cells, AV.plain, AV.bare, Value.oneCell']) (by kernel_rfl)
theorem tyok95 : TyOne Tryd.prog 95 tyi95 := ty_one (z := .agg #[.pointer none, .slice none 0 0]) (by kernel_rfl) (by kernel_rfl) (fun r => ⟨_, rfl, by simp [All2, AV.rel]⟩) rfl rfl (by simp [tyi95, CV.cells, AV.plain, AV.bare, Value.oneCell']) (by kernel_rfl)
theorem tyok96 : TyOne Tryd.prog 96 tyi96 := ty_one (z := .nilIface) (by kernel_rfl) (by kernel_rfl) (fun r => rfl) rfl rfl (by simp [tyi96, CV.cells, AV.plain, AV.bare, Value.oneCell']) (by kernel_rfl)
theorem tyok97 : TyOne Tryd.prog 97 tyi97 := ty_one (z := .nilIface) (by kernel_rfl) (by kernel_rfl) (fun r => rfl) rfl rfl (by simp [tyi97, CV.cells, AV.plain, AV.bare, Value.oneCell']) (by kernel_rfl)
theorem tyok101 : TyOne Tryd.prog 101 tyi101 := ty_one (z := .pointer none) (by kernel_rfl) (by kernel_rfl) (fun r => rfl) rfl rfl (by simp [tyi101, CV.cells, AV.plain, AV.bare, Value.oneCell']) (by kernel_rfl)
theorem tyok102 : TyOne Tryd.prog 102 tyi102 := ty_one (z := .agg #[.slice none 0 0, .int .i64 0]) (by kernel_rfl) (by kernel_rfl) (fun r => ⟨_, rfl, by simp [All2, AV.rel]⟩) rfl rfl (by simp [tyi102, CV.cells, AV.plain, AV.bare, Value.oneCell']) (by kernel_rfl)
theorem tyok103 : TyOne Tryd.prog 103 tyi103 := ty_one (z := .agg #[.slice none 0 0, .int .i64 0]) (by kernel_rfl) (by kernel_rfl) (fun r => ⟨_, rfl, by simp [All2, AV.rel]⟩) rfl rfl (by simp [tyi103, CV.cells, AV.plain, AV.bare, Value.oneCell']) (by kernel_rfl)
theorem tyok110 : TyOne Tryd.prog 110 tyi110 := ty_one (z := .pointer none) (by kernel_rfl) (by kernel_rfl) (fun r => rfl) rfl rfl (by simp [tyi110, CV.cells, AV.plain, AV.bare, Value.oneCell']) (by kernel_rfl)
theorem tyok115 : TyOne Tryd.prog 115 tyi115 := ty_one (z := .int .u64 0) (by kernel_rfl) (by kernel_rfl) (fun r => rfl) rfl rfl (by simp [tyi115, CV.cells, AV.plain, AV.bare, Value.oneCell']) (by kernel_rfl)
theorem tyok122 : TyOne Tryd.prog 122 tyi122 := ty_one (z := .pointer none) (by kernel_rfl) (by kernel_rfl) (fun r => rfl) rfl rfl (by simp [tyi122, CV.cells, AV.plain, AV.bare, Value.oneCell']) (by kernel_rfl)
theorem tyok127 : TyOne Tryd.prog 127 tyi127 := ty_one (z := .agg #[.int .u8 0, .int .u8 0, .int .u8 0, .int .u8 0, .int .u8 0, .int .u8 0, .int .u8 0, .int .u8 0, .int .u8 0, .int .u8 0, .int .u8 0, .int .u8 0, .int .u8 0, .int .u8 0, .int .u8 0, .int .u8 0, .int .u8 0, .int .u8 0, .int .u8 0, .int .u8 0, .int .u8 0, .int .u8 0, .int .u8 0, .int .u8 0]) (by kernel_rfl) (by kernel_rfl) (fun r => ⟨_, rfl, by simp [All2, AV.rel]⟩) rfl rfl (by simp [tyi127, CV.cells, AV.plain, AV.bare, Value.oneCell']) (by kernel_rfl)
theorem tyok128 : TyOne Tryd.prog 128 tyi128 := ty_one (z := .int .u64 0) (by kernel_rfl) (by kernel_rfl) (fun r => rfl) rfl rfl (by simp [tyi128, CV.cells, AV.plain, AV.bare, Value.oneCell']) (by kernel_rfl)
theorem tyok134 : TyOne Tryd.prog 134 tyi134 := ty_one (z := .int .i64 0) (by kernel_rfl) (by kernel_rfl) (fun r => rfl) rfl rfl (by simp [tyi134, CV.cells, AV.plain, AV.bare, Value.oneCell']) (by kernel_rfl)
theorem tyok137 : TyOne Tryd.prog 137 tyi137 := ty_one (z := .pointer none) (by kernel_rfl) (by kernel_rfl) (fun r => rfl) rfl rfl (by simp [tyi137, CV.cells, AV.plain, AV.bare, Value.oneCell']) (by kernel_rfl)
theorem tyok140 : TyOne Tryd.prog 140 tyi140 := ty_one (z := .int .u32 0) (by kernel_rfl) (by kernel_rfl) (fun r => rfl) rfl rfl (by simp [tyi140, CV.cells, AV.plain, AV.bare, Value.oneCell']) (by kernel_rfl)
theorem tyok145 : TyOne Tryd.prog 145 tyi145 := ty_one (z := .agg #[.int .u64 0, .int .u64 0, .int .u64 0, .int .u64 0, .int .u64 0, .int .u64 0, .int .u64 0, .int .u64 0, .int .u64 0, .int .u64 0, .int .u64 0, .int .u64 0, .int .u64 0, .int .u64 0, .int .u64 0, .int .u64 0, .int .u64 0, .int .u64 0, .int .u64 0, .int .u64 0]) (by kernel_rfl) (by kernel_rfl) (fun r => ⟨_, rfl, by simp [All2, AV.rel]⟩) rfl rfl (by simp [tyi145, CV.cells, AV.plain, AV.bare, Value.oneCell']) (by kernel_rfl)
theorem tyok146 : TyOne Tryd.prog 146 tyi146 := ty_one (z := .agg #[.int .u8 0, .int .u8 0, .int .u8 0, .int .u8 0, .int .u8 0, .int .u8 0, .int .u8 0, .int .u8 0, .int .u8 0, .int .u8 0, .int .u8 0, .int .u8 0, .int .u8 0, .int .u8 0, .int .u8 0, .int .u8 0, .int .u8 0, .int .u8 0, .int .u8 0, .int .u8 0, .int .u8 0, .int .u8 0, .int .u8 0, .int .u8 0, .int .u8 0, .int .u8 0, .int .u8 0, .int .u8 0, .int .u8 0, .int .u8 0, .int .u8 0, .int .u8 0, .int .u8 0, .int .u8 0, .int .u8 0, .int .u8 0, .int .u8 0, .int .u8 0, .int .u8 0, .int .u8 0, .int .u8 0, .int .u8 0, .int .u8 0, .int .u8 0, .int .u8 0, .int .u8 0, .int .u8 0, .int .u8 0, .int .u8 0, .int .u8 0, .int .u8 0, .int .u8 0, .int .u8 0, .int .u8 0, .int .u8 0, .int .u8 0, .int .u8 0, .int .u8 0, .int .u8 0, .int .u8 0, .int .u8 0, .int .u8 0, .int .u8 0, .int .u8 0, .int .u8 0]) (by kernel_rfl) (by kernel_rfl) (fun r => ⟨_, rfl, by simp [All2, AV.rel]⟩) rfl rfl (by simp [tyi146, CV.cells, AV.plain, AV.bare, Value.oneCell']) (by kernel_rfl)
theorem tyok151 : TyOne Tryd.prog 151 tyi151 := ty_one (z := .agg #[.string ⟨#[]⟩, .string ⟨#[]⟩, .nilIface]) (by kernel_rfl) (by kernel_rfl) (fun r => ⟨_, rfl, by simp [All2, AV.rel]⟩) rfl rfl (by simp [tyi151, CV.cells, AV.plain, AV.bare, Value.oneCell']) (by kernel_rfl)
theorem tyok152 : TyOne Tryd.prog 152 tyi152 := ty_one (z := .agg #[.string ⟨#[]⟩, .string ⟨#[]⟩, .nilIface]) (by kernel_rfl) (by kernel_rfl) (fun r => ⟨_, rfl, by simp [All2, AV.rel]⟩) rfl rfl (by simp [tyi152, CV.cells, AV.plain, AV.bare, Value.oneCell']) (by kernel_rfl)
theorem tyok156 : TyOne Tryd.prog 156 tyi156 := ty_one (z := .agg #[.int .u8 0, .int .u8 0]) (by kernel_rfl) (by kernel_rfl) (fun r => ⟨_, rfl, by simp [All2, AV.rel]⟩) rfl rfl (by simp [tyi156, CV.cells, AV.plain, AV.bare, Value.oneCell']) (by kernel_rfl)
theorem tyok157 : TyOne Tryd.prog 157 tyi157 := ty_one (z := .agg #[.int .u8 0, .int .u8 0]) (by kernel_rfl) (by kernel_rfl) (fun r => ⟨_, rfl, by simp [All2, AV.rel]⟩) rfl rfl (by simp [tyi157, CV.cells, AV.plain, AV.bare, Value.oneCell']) (by kernel_rfl)
theorem tyok158 : TyOne Tryd.prog 158 tyi158 := ty_one (z := .agg #[.int .u8 0, .int .u8 0, .int .u8 0, .int .u8 0, .int .u8 0, .int .u8 0, .int .u8 0, .int .u8 0, .int .u8 0, .int .u8 0, .int .u8 0, .int .u8 0, .int .u8 0, .int .u8 0, .int .u8 0, .int .u8 0, .int .u8 0, .int .u8 0, .int .u8 0, .int .u8 0, .int .u8 0, .int .u8 0, .int .u8 0, .int .u8 0, .int .u8 0, .int .u8 0, .int .u8 0, .int .u8 0, .int .u8 0, .int .u8 0, .int .u8 0, .int .u8 0]) (by kernel_rfl) (by kernel_rfl) (fun r => ⟨_, rfl, by simp [All2, AV.rel]⟩) rfl rfl (by simp [tyi158, CV.cells, AV.plain, AV.bare, Value.oneCell']) (by kernel_rfl)
theorem tyok161 : TyOne Tryd.prog 161 tyi161 := ty_one (z := .pointer none) (by kernel_rfl) (by kernel_rfl) (fun r => rfl) rfl rfl (by simp [tyi161, CV.cells, AV.plain, AV.bare, Value.oneCell']) (by kernel_rfl)
theorem tyok162 : TyOne Tryd.prog 162 tyi162 := ty_one (z := .agg #[.string ⟨#[]⟩]) (by kernel_rfl) (by kernel_rfl) (fun r => ⟨_, rfl, by simp [All2, AV.rel]⟩) rfl rfl (by simp [tyi162, CV.cells, AV.plain, AV.bare, Value.oneCell']) (by kernel_rfl)
theorem tyok163 : TyOne Tryd.prog 163 tyi163 := ty_one (z := .agg #[.string ⟨#[]⟩]) (by kernel_rfl) (by kernel_rfl) (fun r => ⟨_, rfl, by simp [All2, AV.rel]⟩) rfl rfl (by simp [tyi163, CV.cells, AV.plain, AV.bare, Value.oneCell']) (by kernel_rfl)
theorem tyok165 : TyOne Tryd.prog 165 tyi165 := ty_one (z := .agg #[.int .u8 0, .int .u8 0, .int .u8 0, .int .u8 0, .int .u8 0, .int .u8 0, .int .u8 0, .int .u8 0, .int .u8 0, .int .u8 0, .int .u8 0, .int .u8 0, .int .u8 0, .int .u8 0, .int .u8 0, .int .u8 0, .int .u8 0, .int .u8 0, .int .u8 0, .int .u8 0, .int .u8 0, .int .u8 0, .int .u8 0, .int .u8 0, .int .u8 0, .int .u8 0, .int .u8 0, .int .u8 0, .int .u8 0, .int .u8 0, .int .u8 0, .int .u8 0]) (by kernel_rfl) (by kernel_rfl) (fun r => ⟨_, rfl, by simp [All2, AV.rel]⟩) rfl rfl (by simp [tyi165, CV.cells, AV.plain, AV.bare, Value.oneCell']) (by kernel_rfl)
theorem tyok166 : TyOne Tryd.prog 166 tyi166 := ty_one (z := .agg #[.int .u8 0, .int .u8 0, .int .u8 0, .int .u8 0, .int .u8 0, .int .u8 0, .int .u8 0, .int .u8 0, .int .u8 0, .int .u8 0, .int .u8 0, .int .u8 0, .int .u8 0, .int .u8 0, .int .u8 0, .int .u8 0, .int .u8 0, .int .u8 0, .int .u8 0, .int .u8 0, .int .u8 0, .int .u8 0, .int .u8 0, .int .u8 0, .int .u8 0, .int .u8 0, .int .u8 0, .int .u8 0, .int .u8 0, .int .u8 0, .int .u8 0, .int .u8 0, .int .u8 0, .int .u8 0, .int .u8 0, .int .u8 0, .int .u8 0, .int .u8 0, .int .u8 0, .int .u8 0, .int .u8 0, .int .u8 0, .int .u8 0, .int .u8 0, .int .u8 0, .int .u8 0, .int .u8 0, .int .u8 0, .int .u8 0, .int .u8 0, .int .u8 0, .int .u8 0, .int .u8 0, .int .u8 0, .int .u8 0, .int .u8 0, .int .u8 0, .int .u8 0, .int .u8 0, .int .u8 0, .int .u8 0, .int .u8 0, .int .u8 0, .int .u8 0]) (by kernel_rfl) (by kernel_rfl) (fun r => ⟨_, rfl, by simp [All2, AV.rel]⟩) rfl rfl (by simp [tyi166, CV.cells, AV.plain, AV.bare, Value.oneCell']) (by kernel_rfl)
theorem ty_ok : TyOk Tryd.prog ty := fun t i h => by
  unfold ty at h
  split at h
  · injection h with h; subst h; exact tyok2
  · injection h with h; subst h; exact tyok3
  · injection h with h; subst h; exact tyok4
  · injection h with h; subst h; exact tyok5
  · injection h with h; subst h; exact tyok9
  · injection h with h; subst h; exact tyok12
  · injection h with h; subst h; exact tyok20
  · injection h with h; subst h; exact tyok21
  · injection h with h; subst h; exact tyok23
  · injection h with h; subst h; exact tyok24
  · injection h with h; subst h; exact tyok27
  · injection h with h; subst h; exact tyok31
  · injection h with h; subst h; exact tyok32
  · injection h with h; subst h; exact tyok34
  · injection h with h; subst h; exact tyok39
  · injection h with h; subst h; exact tyok42
  · injection h with h; subst h; exact tyok51
  · injection h with h; subst h; exact tyok52
  · injection h with h; subst h; exact tyok53
  · injection h with h; subst h; exact tyok70
  · injection h with h; subst h; exact tyok73
  · injection h with h; subst h; exact tyok74
  · injection h with h; subst h; exact tyok89
  · injection h with h; subst h; exact tyok91
  · injection h with h; subst h; exact tyok92
  · injection h with h; subst h; exact tyok93
  · injection h with h; subst h; exact tyok94
  · injection h with h; subst h; exact tyok95
  · injection h with h; subst h; exact tyok96
  · injection h with h; subst h; exact tyok97
  · injection h with h; subst h; exact tyok101
  · injection h with h; subst h; exact tyok102
  · injection h with h; subst h; exact tyok103
  · injection h with h; subst h; exact tyok110
  · injection h with h; subst h; exact tyok115
  · injection h with h; subst h; exact tyok122
  · injection h with h; subst h; exact tyok127
  · injection h with h; subst h; exact tyok128
  · injection h with h; subst h; exact tyok134
  · injection h with h; subst h; exact tyok137
  · injection h with h; subst h; exact tyok140
  · injection h with h; subst h; exact tyok145
  · injection h with h; subst h; exact tyok146
  · injection h with h; subst h; exact tyok151
  · injection h with h; subst h; exact tyok152
  · injection h with h; subst h; exact tyok156
  · injection h with h; subst h; exact tyok157
  · injection h with h; subst h; exact tyok158
  · injection h with h; subst h; exact tyok161
  · injection h with h; subst h; exact tyok162
  · injection h with h; subst h; exact tyok163
  · injection h with h; subst h; exact tyok165
  · injection h with h; subst h; exact tyok166
  · cases h
end Go.Proofs.YtgfcdkbbkgamnaaDoor
