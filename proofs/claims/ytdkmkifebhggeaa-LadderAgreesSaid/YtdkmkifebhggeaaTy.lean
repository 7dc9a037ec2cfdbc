/-
  The types of the program, as the walk by reckoning looks them up. Made by genty.py.
-/
import Derived.Test.YtdkmkifebhggeaaSs
import Derived.Test.YtdkmkifebhggeaaProg
namespace Go.Proofs.Ytdkmkifebhggeaa
open Go Go.RowKit
set_option linter.unusedVariables false
set_option linter.unusedSimpArgs false
def tyi2 : TyI := ⟨.int .i64, 1, 8, .one (.num 0), []⟩
def tyi3 : TyI := ⟨.int .i64, 1, 8, .one (.num 0), []⟩
def tyi4 : TyI := ⟨.bool, 1, 1, .one (.bo false), []⟩
def tyi5 : TyI := ⟨.int .u8, 1, 1, .one (.u8 0), []⟩
def tyi9 : TyI := ⟨.string, 1, 16, .one (.str []), []⟩
def tyi12 : TyI := ⟨.int .u64, 1, 8, .one (.u64 0), []⟩
noncomputable def tyi20 : TyI := ⟨(Try.prog.underlying 20).getD .invalid, 1, 16, .one (.val .nilIface), []⟩
def tyi21 : TyI := ⟨.int .i32, 1, 4, .one (.int .i32 0), []⟩
def tyi22 : TyI := ⟨.int .u64, 1, 8, .one (.u64 0), []⟩
def tyi23 : TyI := ⟨.array 5 22, 5, 40, .agg [.u64 0, .u64 0, .u64 0, .u64 0, .u64 0], []⟩
def tyi24 : TyI := ⟨.array 5 22, 5, 40, .agg [.u64 0, .u64 0, .u64 0, .u64 0, .u64 0], []⟩
def tyi25 : TyI := ⟨.slice 3, 1, 24, .one (.val (.slice none 0 0)), []⟩
def tyi33 : TyI := ⟨.int .u32, 1, 4, .one (.u32 0), []⟩
def tyi49 : TyI := ⟨.slice 5, 1, 24, .one (.val (.slice none 0 0)), []⟩
def tyi52 : TyI := ⟨.slice 22, 1, 24, .one (.val (.slice none 0 0)), []⟩
def tyi53 : TyI := ⟨.int .u64, 1, 8, .one (.u64 0), []⟩
def tyi54 : TyI := ⟨.array 4 22, 4, 32, .agg [.u64 0, .u64 0, .u64 0, .u64 0], []⟩
noncomputable def tyi56 : TyI := ⟨(Try.prog.underlying 56).getD .invalid, 2, 16, .agg [.u64 0, .u64 0], [0, 0]⟩
noncomputable def tyi57 : TyI := ⟨(Try.prog.underlying 57).getD .invalid, 2, 16, .agg [.u64 0, .u64 0], [0, 0]⟩
def tyi58 : TyI := ⟨.array 5 57, 10, 80, .agg [.u64 0, .u64 0, .u64 0, .u64 0, .u64 0, .u64 0, .u64 0, .u64 0, .u64 0, .u64 0], []⟩
noncomputable def tyi73 : TyI := ⟨(Try.prog.underlying 73).getD .invalid, 10, 80, .agg [.u64 0, .u64 0, .u64 0, .u64 0, .u64 0, .u64 0, .u64 0, .u64 0, .u64 0, .u64 0], []⟩
noncomputable def tyi74 : TyI := ⟨(Try.prog.underlying 74).getD .invalid, 10, 80, .agg [.u64 0, .u64 0, .u64 0, .u64 0, .u64 0, .u64 0, .u64 0, .u64 0, .u64 0, .u64 0], []⟩
def tyi89 : TyI := ⟨.pointer 5, 1, 8, .one (.val (.pointer none)), []⟩
noncomputable def ty (t : Nat) : Option TyI := match t with
  | 2 => some tyi2
  | 3 => some tyi3
  | 4 => some tyi4
  | 5 => some tyi5
  | 9 => some tyi9
  | 12 => some tyi12
  | 20 => some tyi20
  | 21 => some tyi21
  | 22 => some tyi22
  | 23 => some tyi23
  | 24 => some tyi24
  | 25 => some tyi25
  | 33 => some tyi33
  | 49 => some tyi49
  | 52 => some tyi52
  | 53 => some tyi53
  | 54 => some tyi54
  | 56 => some tyi56
  | 57 => some tyi57
  | 58 => some tyi58
  | 73 => some tyi73
  | 74 => some tyi74
  | 89 => some tyi89
  | _ => none
theorem ty_one {i : TyI} {t : Nat} {z : Value} (h1 : Try.prog.underlying t = some i.d) (h2 : (Try.prog.info? t).map (fun x => (x.zero, x.size, x.bytes)) = some (some z, i.size, i.bytes)) (h3 : ∀ r, i.zero.rel r z) (h4 : z.cells.size = i.size) (h5 : i.zero.cells.length = i.size) (h6 : ∀ x ∈ i.zero.cells, x.plain ∧ x.bare) (h7 : (i.eqs.isEmpty || (eqB Try.prog t i.eqs && i.eqs.length == i.size)) = true) :
    TyOne Try.prog t i := by
  obtain ⟨nf, hn, hz, hs, hb⟩ := info_parts h2
  refine ⟨h1, nf, hn, hs, hb, z, hz, h3, h4, h5, h6, fun he => ?_⟩
  rw [he] at h7
  simp only [Bool.false_or, Bool.and_eq_true, beq_iff_eq] at h7
  exact h7
theorem tyok2 : TyOne Try.prog 2 tyi2 := ty_one (z := .int .i64 0) (by kernel_rfl) (by kernel_rfl) (fun r => rfl) rfl rfl (by simp [tyi2, CV.cells, AV.plain, AV.bare, Value.oneCell']) (by kernel_rfl)
theorem tyok3 : TyOne Try.prog 3 tyi3 := ty_one (z := .int .i64 0) (by kernel_rfl) (by kernel_rfl) (fun r => rfl) rfl rfl (by simp [tyi3, CV.cells, AV.plain, AV.bare, Value.oneCell']) (by kernel_rfl)
theorem tyok4 : TyOne Try.prog 4 tyi4 := ty_one (z := .bool false) (by kernel_rfl) (by kernel_rfl) (fun r => rfl) rfl rfl (by simp [tyi4, CV.cells, AV.plain, AV.bare, Value.oneCell']) (by kernel_rfl)
theorem tyok5 : TyOne Try.prog 5 tyi5 := ty_one (z := .int .u8 0) (by kernel_rfl) (by kernel_rfl) (fun r => rfl) rfl rfl (by simp [tyi5, CV.cells, AV.plain, AV.bare, Value.oneCell']) (by kernel_rfl)
theorem tyok9 : TyOne Try.prog 9 tyi9 := ty_one (z := .string ⟨#[]⟩) (by kernel_rfl) (by kernel_rfl) (fun r => rfl) rfl rfl (by simp [tyi9, CV.cells, AV.plain, AV.bare, Value.oneCell']) (by kernel_rfl)
theorem tyok12 : TyOne Try.prog 12 tyi12 := ty_one (z := .int .u64 0) (by kernel_rfl) (by kernel_rfl) (fun r => rfl) rfl rfl (by simp [tyi12, CV.cells, AV.plain, AV.bare, Value.oneCell']) (by kernel_rfl)
theorem tyok20 : TyOne Try.prog 20 tyi20 := ty_one (z := .nilIface) (by kernel_rfl) (by kernel_rfl) (fun r => rfl) rfl rfl (by simp [tyi20, CV.cells, AV.plain, AV.bare, Value.oneCell']) (by kernel_rfl)
theorem tyok21 : TyOne Try.prog 21 tyi21 := ty_one (z := .int .i32 0) (by kernel_rfl) (by kernel_rfl) (fun r => rfl) rfl rfl (by simp [tyi21, CV.cells, AV.plain, AV.bare, Value.oneCell']) (by kernel_rfl)
theorem tyok22 : TyOne Try.prog 22 tyi22 := ty_one (z := .int .u64 0) (by kernel_rfl) (by kernel_rfl) (fun r => rfl) rfl rfl (by simp [tyi22, CV.cells, AV.plain, AV.bare, Value.oneCell']) (by kernel_rfl)
theorem tyok23 : TyOne Try.prog 23 tyi23 := ty_one (z := .agg #[.int .u64 0, .int .u64 0, .int .u64 0, .int .u64 0, .int .u64 0]) (by kernel_rfl) (by kernel_rfl) (fun r => ⟨_, rfl, by simp [All2, AV.rel]⟩) rfl rfl (by simp [tyi23, CV.cells, AV.plain, AV.bare, Value.oneCell']) (by kernel_rfl)
theorem tyok24 : TyOne Try.prog 24 tyi24 := ty_one (z := .agg #[.int .u64 0, .int .u64 0, .int .u64 0, .int .u64 0, .int .u64 0]) (by kernel_rfl) (by kernel_rfl) (fun r => ⟨_, rfl, by simp [All2, AV.rel]⟩) rfl rfl (by simp [tyi24, CV.cells, AV.plain, AV.bare, Value.oneCell']) (by kernel_rfl)
theorem tyok25 : TyOne Try.prog 25 tyi25 := ty_one (z := .slice none 0 0) (by kernel_rfl) (by kernel_rfl) (fun r => rfl) rfl rfl (by simp [tyi25, CV.cells, AV.plain, AV.bare, Value.oneCell']) (by kernel_rfl)
theorem tyok33 : TyOne Try.prog 33 tyi33 := ty_one (z := .int .u32 0) (by kernel_rfl) (by kernel_rfl) (fun r => rfl) rfl rfl (by simp [tyi33, CV.cells, AV.plain, AV.bare, Value.oneCell']) (by kernel_rfl)
theorem tyok49 : TyOne Try.prog 49 tyi49 := ty_one (z := .slice none 0 0) (by kernel_rfl) (by kernel_rfl) (fun r => rfl) rfl rfl (by simp [tyi49, CV.cells, AV.plain, AV.bare, Value.oneCell']) (by kernel_rfl)
theorem tyok52 : TyOne Try.prog 52 tyi52 := ty_one (z := .slice none 0 0) (by kernel_rfl) (by kernel_rfl) (fun r => rfl) rfl rfl (by simp [tyi52, CV.cells, AV.plain, AV.bare, Value.oneCell']) (by kernel_rfl)
theorem tyok53 : TyOne Try.prog 53 tyi53 := ty_one (z := .int .u64 0) (by kernel_rfl) (by kernel_rfl) (fun r => rfl) rfl rfl (by simp [tyi53, CV.cells, AV.plain, AV.bare, Value.oneCell']) (by kernel_rfl)
theorem tyok54 : TyOne Try.prog 54 tyi54 := ty_one (z := .agg #[.int .u64 0, .int .u64 0, .int .u64 0, .int .u64 0]) (by kernel_rfl) (by kernel_rfl) (fun r => ⟨_, rfl, by simp [All2, AV.rel]⟩) rfl rfl (by simp [tyi54, CV.cells, AV.plain, AV.bare, Value.oneCell']) (by kernel_rfl)
theorem tyok56 : TyOne Try.prog 56 tyi56 := ty_one (z := .agg #[.int .u64 0, .int .u64 0]) (by kernel_rfl) (by kernel_rfl) (fun r => ⟨_, rfl, by simp [All2, AV.rel]⟩) rfl rfl (by simp [tyi56, CV.cells, AV.plain, AV.bare, Value.oneCell']) (by kernel_rfl)
theorem tyok57 : TyOne Try.prog 57 tyi57 := ty_one (z := .agg #[.int .u64 0, .int .u64 0]) (by kernel_rfl) (by kernel_rfl) (fun r => ⟨_, rfl, by simp [All2, AV.rel]⟩) rfl rfl (by simp [tyi57, CV.cells, AV.plain, AV.bare, Value.oneCell']) (by kernel_rfl)
theorem tyok58 : TyOne Try.prog 58 tyi58 := ty_one (z := .agg #[.int .u64 0, .int .u64 0, .int .u64 0, .int .u64 0, .int .u64 0, .int .u64 0, .int .u64 0, .int .u64 0, .int .u64 0, .int .u64 0]) (by kernel_rfl) (by kernel_rfl) (fun r => ⟨_, rfl, by simp [All2, AV.rel]⟩) rfl rfl (by simp [tyi58, CV.cells, AV.plain, AV.bare, Value.oneCell']) (by kernel_rfl)
theorem tyok73 : TyOne Try.prog 73 tyi73 := ty_one (z := .agg #[.int .u64 0, .int .u64 0, .int .u64 0, .int .u64 0, .int .u64 0, .int .u64 0, .int .u64 0, .int .u64 0, .int .u64 0, .int .u64 0]) (by kernel_rfl) (by kernel_rfl) (fun r => ⟨_, rfl, by simp [All2, AV.rel]⟩) rfl rfl (by simp [tyi73, CV.cells, AV.plain, AV.bare, Value.oneCell']) (by kernel_rfl)
theorem tyok74 : TyOne Try.prog 74 tyi74 := ty_one (z := .agg #[.int .u64 0, .int .u64 0, .int .u64 0, .int .u64 0, .int .u64 0, .int .u64 0, .int .u64 0, .int .u64 0, .int .u64 0, .int .u64 0]) (by kernel_rfl) (by kernel_rfl) (fun r => ⟨_, rfl, by simp [All2, AV.rel]⟩) rfl rfl (by simp [tyi74, CV.cells, AV.plain, AV.bare, Value.oneCell']) (by kernel_rfl)
theorem tyok89 : TyOne Try.prog 89 tyi89 := ty_one (z := .pointer none) (by kernel_rfl) (by kernel_rfl) (fun r => rfl) rfl rfl (by simp [tyi89, CV.cells, AV.plain, AV.bare, Value.oneCell']) (by kernel_rfl)
theorem ty_ok : TyOk Try.prog ty := fun t i h => by
  unfold ty at h
  split at h
  · injection h with h; subst h; exact tyok2
  · injection h with h; subst h; exact tyok3
  · injection h with h; subst h; exact tyok4
  · injection h with h; subst h; exact tyok5
  · injection h with h; subst h; exact tyok9
  · injection h with h; subst h; exact tyok12
  · injection h with h; subst h; exact tyok20
  · injection h with h; subst h; exact tyok21
  · injection h with h; subst h; exact tyok22
  · injection h with h; subst h; exact tyok23
  · injection h with h; subst h; exact tyok24
  · injection h with h; subst h; exact tyok25
  · injection h with h; subst h; exact tyok33
  · injection h with h; subst h; exact tyok49
  · injection h with h; subst h; exact tyok52
  · injection h with h; subst h; exact tyok53
  · injection h with h; subst h; exact tyok54
  · injection h with h; subst h; exact tyok56
  · injection h with h; subst h; exact tyok57
  · injection h with h; subst h; exact tyok58
  · injection h with h; subst h; exact tyok73
  · injection h with h; subst h; exact tyok74
  · injection h with h; subst h; exact tyok89
  · cases h
end Go.Proofs.Ytdkmkifebhggeaa
