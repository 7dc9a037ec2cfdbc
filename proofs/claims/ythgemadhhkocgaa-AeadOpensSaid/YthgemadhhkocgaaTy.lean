/-
  The types of the program, as the walk by reckoning looks them up. Made by genty.py.
-/
import Derived.Test.YthgemadhhkocgaaSs
import Derived.Test.YthgemadhhkocgaaProg
namespace Go.Proofs.Ythgemadhhkocgaa
open Go Go.RowKit
set_option linter.unusedVariables false
set_option linter.unusedSimpArgs false
def tyi2 : TyI := ⟨.int .i64, 1, 8, .one (.num 0), false⟩
def tyi3 : TyI := ⟨.int .i64, 1, 8, .one (.num 0), false⟩
def tyi4 : TyI := ⟨.bool, 1, 1, .one (.bo false), false⟩
def tyi5 : TyI := ⟨.int .u8, 1, 1, .one (.u8 0), false⟩
def tyi9 : TyI := ⟨.string, 1, 16, .one (.str []), false⟩
def tyi12 : TyI := ⟨.int .u64, 1, 8, .one (.u64 0), false⟩
noncomputable def tyi20 : TyI := ⟨(Try.prog.underlying 20).getD .invalid, 1, 16, .one (.val .nilIface), false⟩
def tyi21 : TyI := ⟨.int .i32, 1, 4, .one (.int .i32 0), false⟩
def tyi22 : TyI := ⟨.int .u32, 1, 4, .one (.u32 0), false⟩
def tyi25 : TyI := ⟨.slice 22, 1, 24, .one (.val (.slice none 0 0)), false⟩
def tyi36 : TyI := ⟨.slice 5, 1, 24, .one (.val (.slice none 0 0)), false⟩
def tyi38 : TyI := ⟨.int .u64, 1, 8, .one (.u64 0), false⟩
def tyi43 : TyI := ⟨.int .i64, 1, 8, .one (.num 0), false⟩
def tyi54 : TyI := ⟨.array 16 22, 16, 64, .agg [.u32 0, .u32 0, .u32 0, .u32 0, .u32 0, .u32 0, .u32 0, .u32 0, .u32 0, .u32 0, .u32 0, .u32 0, .u32 0, .u32 0, .u32 0, .u32 0], false⟩
def tyi57 : TyI := ⟨.int .u64, 1, 8, .one (.u64 0), false⟩
def tyi58 : TyI := ⟨.array 5 57, 5, 40, .agg [.u64 0, .u64 0, .u64 0, .u64 0, .u64 0], false⟩
def tyi59 : TyI := ⟨.array 5 57, 5, 40, .agg [.u64 0, .u64 0, .u64 0, .u64 0, .u64 0], false⟩
def tyi64 : TyI := ⟨.slice 3, 1, 24, .one (.val (.slice none 0 0)), false⟩
def tyi69 : TyI := ⟨.array 4 3, 4, 32, .agg [.num 0, .num 0, .num 0, .num 0], false⟩
def tyi70 : TyI := ⟨.array 3 3, 3, 24, .agg [.num 0, .num 0, .num 0], false⟩
def tyi83 : TyI := ⟨.pointer 5, 1, 8, .one (.val (.pointer none)), false⟩
noncomputable def ty (t : Nat) : Option TyI := match t with
  | 2 => some tyi2
  | 3 => some tyi3
  | 4 => some tyi4
  | 5 => some tyi5
  | 9 => some tyi9
  | 12 => some tyi12
  | 20 => some tyi20
  | 21 => some tyi21
  | 22 => some tyi22
  | 25 => some tyi25
  | 36 => some tyi36
  | 38 => some tyi38
  | 43 => some tyi43
  | 54 => some tyi54
  | 57 => some tyi57
  | 58 => some tyi58
  | 59 => some tyi59
  | 64 => some tyi64
  | 69 => some tyi69
  | 70 => some tyi70
  | 83 => some tyi83
  | _ => none
theorem ty_one {i : TyI} {t : Nat} {z : Value} (h1 : Try.prog.underlying t = some i.d) (h2 : (Try.prog.info? t).map (fun x => (x.zero, x.size, x.bytes)) = some (some z, i.size, i.bytes)) (h3 : ∀ r, i.zero.rel r z) (h4 : z.cells.size = i.size) (h5 : i.zero.cells.length = i.size) (h6 : ∀ x ∈ i.zero.cells, x.plain ∧ x.bare) (h7 : (!i.eqs || (eqB Try.prog t && (Try.prog.fieldsOf t).size == i.size)) = true) :
    TyOne Try.prog t i := by
  obtain ⟨nf, hn, hz, hs, hb⟩ := info_parts h2
  refine ⟨h1, nf, hn, hs, hb, z, hz, h3, h4, h5, h6, fun he => ?_⟩
  rw [he] at h7
  simp only [Bool.not_true, Bool.false_or, Bool.and_eq_true, beq_iff_eq] at h7
  exact h7
theorem tyok2 : TyOne Try.prog 2 tyi2 := ty_one (z := .int .i64 0) (by kernel_rfl) (by kernel_rfl) (fun r => rfl) rfl rfl (by simp [tyi2, CV.cells, AV.plain, AV.bare, Value.oneCell']) (by kernel_rfl)
theorem tyok3 : TyOne Try.prog 3 tyi3 := ty_one (z := .int .i64 0) (by kernel_rfl) (by kernel_rfl) (fun r => rfl) rfl rfl (by simp [tyi3, CV.cells, AV.plain, AV.bare, Value.oneCell']) (by kernel_rfl)
theorem tyok4 : TyOne Try.prog 4 tyi4 := ty_one (z := .bool false) (by kernel_rfl) (by kernel_rfl) (fun r => rfl) rfl rfl (by simp [tyi4, CV.cells, AV.plain, AV.bare, Value.oneCell']) (by kernel_rfl)
theorem tyok5 : TyOne Try.prog 5 tyi5 := ty_one (z := .int .u8 0) (by kernel_rfl) (by kernel_rfl) (fun r => rfl) rfl rfl (by simp [tyi5, CV.cells, AV.plain, AV.bare, Value.oneCell']) (by kernel_rfl)
theorem tyok9 : TyOne Try.prog 9 tyi9 := ty_one (z := .string ⟨#[]⟩) (by kernel_rfl) (by kernel_rfl) (fun r => rfl) rfl rfl (by simp [tyi9, CV.cells, AV.plain, AV.bare, Value.oneCell']) (by kernel_rfl)
theorem tyok12 : TyOne Try.prog 12 tyi12 := ty_one (z := .int .u64 0) (by kernel_rfl) (by kernel_rfl) (fun r => rfl) rfl rfl (by simp [tyi12, CV.cells, AV.plain, AV.bare, Value.oneCell']) (by kernel_rfl)
theorem tyok20 : TyOne Try.prog 20 tyi20 := ty_one (z := .nilIface) (by kernel_rfl) (by kernel_rfl) (fun r => rfl) rfl rfl (by simp [tyi20, CV.cells, AV.plain, AV.bare, Value.oneCell']) (by kernel_rfl)
theorem tyok21 : TyOne Try.prog 21 tyi21 := ty_one (z := .int .i32 0) (by kernel_rfl) (by kernel_rfl) (fun r => rfl) rfl rfl (by simp [tyi21, CV.cells, AV.plain, AV.bare, Value.oneCell']) (by kernel_rfl)
theorem tyok22 : TyOne Try.prog 22 tyi22 := ty_one (z := .int .u32 0) (by kernel_rfl) (by kernel_rfl) (fun r => rfl) rfl rfl (by simp [tyi22, CV.cells, AV.plain, AV.bare, Value.oneCell']) (by kernel_rfl)
theorem tyok25 : TyOne Try.prog 25 tyi25 := ty_one (z := .slice none 0 0) (by kernel_rfl) (by kernel_rfl) (fun r => rfl) rfl rfl (by simp [tyi25, CV.cells, AV.plain, AV.bare, Value.oneCell']) (by kernel_rfl)
theorem tyok36 : TyOne Try.prog 36 tyi36 := ty_one (z := .slice none 0 0) (by kernel_rfl) (by kernel_rfl) (fun r => rfl) rfl rfl (by simp [tyi36, CV.cells, AV.plain, AV.bare, Value.oneCell']) (by kernel_rfl)
theorem tyok38 : TyOne Try.prog 38 tyi38 := ty_one (z := .int .u64 0) (by kernel_rfl) (by kernel_rfl) (fun r => rfl) rfl rfl (by simp [tyi38, CV.cells, AV.plain, AV.bare, Value.oneCell']) (by kernel_rfl)
theorem tyok43 : TyOne Try.prog 43 tyi43 := ty_one (z := .int .i64 0) (by kernel_rfl) (by kernel_rfl) (fun r => rfl) rfl rfl (by simp [tyi43, CV.cells, AV.plain, AV.bare, Value.oneCell']) (by kernel_rfl)
theorem tyok54 : TyOne Try.prog 54 tyi54 := ty_one (z := .agg #[.int .u32 0, .int .u32 0, .int .u32 0, .int .u32 0, .int .u32 0, .int .u32 0, .int .u32 0, .int .u32 0, .int .u32 0, .int .u32 0, .int .u32 0, .int .u32 0, .int .u32 0, .int .u32 0, .int .u32 0, .int .u32 0]) (by kernel_rfl) (by kernel_rfl) (fun r => ⟨_, rfl, by simp [All2, AV.rel]⟩) rfl rfl (by simp [tyi54, CV.cells, AV.plain, AV.bare, Value.oneCell']) (by kernel_rfl)
theorem tyok57 : TyOne Try.prog 57 tyi57 := ty_one (z := .int .u64 0) (by kernel_rfl) (by kernel_rfl) (fun r => rfl) rfl rfl (by simp [tyi57, CV.cells, AV.plain, AV.bare, Value.oneCell']) (by kernel_rfl)
theorem tyok58 : TyOne Try.prog 58 tyi58 := ty_one (z := .agg #[.int .u64 0, .int .u64 0, .int .u64 0, .int .u64 0, .int .u64 0]) (by kernel_rfl) (by kernel_rfl) (fun r => ⟨_, rfl, by simp [All2, AV.rel]⟩) rfl rfl (by simp [tyi58, CV.cells, AV.plain, AV.bare, Value.oneCell']) (by kernel_rfl)
theorem tyok59 : TyOne Try.prog 59 tyi59 := ty_one (z := .agg #[.int .u64 0, .int .u64 0, .int .u64 0, .int .u64 0, .int .u64 0]) (by kernel_rfl) (by kernel_rfl) (fun r => ⟨_, rfl, by simp [All2, AV.rel]⟩) rfl rfl (by simp [tyi59, CV.cells, AV.plain, AV.bare, Value.oneCell']) (by kernel_rfl)
theorem tyok64 : TyOne Try.prog 64 tyi64 := ty_one (z := .slice none 0 0) (by kernel_rfl) (by kernel_rfl) (fun r => rfl) rfl rfl (by simp [tyi64, CV.cells, AV.plain, AV.bare, Value.oneCell']) (by kernel_rfl)
theorem tyok69 : TyOne Try.prog 69 tyi69 := ty_one (z := .agg #[.int .i64 0, .int .i64 0, .int .i64 0, .int .i64 0]) (by kernel_rfl) (by kernel_rfl) (fun r => ⟨_, rfl, by simp [All2, AV.rel]⟩) rfl rfl (by simp [tyi69, CV.cells, AV.plain, AV.bare, Value.oneCell']) (by kernel_rfl)
theorem tyok70 : TyOne Try.prog 70 tyi70 := ty_one (z := .agg #[.int .i64 0, .int .i64 0, .int .i64 0]) (by kernel_rfl) (by kernel_rfl) (fun r => ⟨_, rfl, by simp [All2, AV.rel]⟩) rfl rfl (by simp [tyi70, CV.cells, AV.plain, AV.bare, Value.oneCell']) (by kernel_rfl)
theorem tyok83 : TyOne Try.prog 83 tyi83 := ty_one (z := .pointer none) (by kernel_rfl) (by kernel_rfl) (fun r => rfl) rfl rfl (by simp [tyi83, CV.cells, AV.plain, AV.bare, Value.oneCell']) (by kernel_rfl)
theorem ty_ok : TyOk Try.prog ty := fun t i h => by
  unfold ty at h
  split at h
  · injection h with h; subst h; exact tyok2
  · injection h with h; subst h; exact tyok3
  · injection h with h; subst h; exact tyok4
  · injection h with h; subst h; exact tyok5
  · injection h with h; subst h; exact tyok9
  · injection h with h; subst h; exact tyok12
  · injection h with h; subst h; exact tyok20
  · injection h with h; subst h; exact tyok21
  · injection h with h; subst h; exact tyok22
  · injection h with h; subst h; exact tyok25
  · injection h with h; subst h; exact tyok36
  · injection h with h; subst h; exact tyok38
  · injection h with h; subst h; exact tyok43
  · injection h with h; subst h; exact tyok54
  · injection h with h; subst h; exact tyok57
  · injection h with h; subst h; exact tyok58
  · injection h with h; subst h; exact tyok59
  · injection h with h; subst h; exact tyok64
  · injection h with h; subst h; exact tyok69
  · injection h with h; subst h; exact tyok70
  · injection h with h; subst h; exact tyok83
  · cases h
end Go.Proofs.Ythgemadhhkocgaa
