/-
  The types of the program, as the walk by reckoning looks them up. Made by genty.py.
-/
import Derived.Test.YtdkogjjebbdngaaDoorSs
import Derived.Test.YtdkogjjebbdngaaDoorProg
namespace Go.Proofs.YtdkogjjebbdngaaDoor
open Go Go.RowKit
set_option linter.unusedVariables false
set_option linter.unusedSimpArgs false
def tyi2 : TyI := ⟨.int .i64, 1, 8, .one (.num 0), []⟩
def tyi3 : TyI := ⟨.int .i64, 1, 8, .one (.num 0), []⟩
def tyi4 : TyI := ⟨.bool, 1, 1, .one (.bo false), []⟩
def tyi5 : TyI := ⟨.int .u8, 1, 1, .one (.u8 0), []⟩
def tyi9 : TyI := ⟨.string, 1, 16, .one (.str []), []⟩
def tyi12 : TyI := ⟨.int .u64, 1, 8, .one (.u64 0), []⟩
noncomputable def tyi20 : TyI := ⟨(Tryd.prog.underlying 20).getD .invalid, 1, 16, .one (.val .nilIface), []⟩
def tyi21 : TyI := ⟨.int .i32, 1, 4, .one (.int .i32 0), []⟩
def tyi25 : TyI := ⟨.int .u32, 1, 4, .one (.u32 0), []⟩
def tyi26 : TyI := ⟨.array 8 25, 8, 32, .agg [.u32 0, .u32 0, .u32 0, .u32 0, .u32 0, .u32 0, .u32 0, .u32 0], []⟩
def tyi28 : TyI := ⟨.slice 25, 1, 24, .one (.val (.slice none 0 0)), []⟩
def tyi34 : TyI := ⟨.int .i64, 1, 8, .one (.num 0), []⟩
def tyi45 : TyI := ⟨.slice 5, 1, 24, .one (.val (.slice none 0 0)), []⟩
def tyi46 : TyI := ⟨.int .u64, 1, 8, .one (.u64 0), []⟩
def tyi47 : TyI := ⟨.int .u64, 1, 8, .one (.u64 0), []⟩
def tyi48 : TyI := ⟨.array 64 25, 64, 256, .agg [.u32 0, .u32 0, .u32 0, .u32 0, .u32 0, .u32 0, .u32 0, .u32 0, .u32 0, .u32 0, .u32 0, .u32 0, .u32 0, .u32 0, .u32 0, .u32 0, .u32 0, .u32 0, .u32 0, .u32 0, .u32 0, .u32 0, .u32 0, .u32 0, .u32 0, .u32 0, .u32 0, .u32 0, .u32 0, .u32 0, .u32 0, .u32 0, .u32 0, .u32 0, .u32 0, .u32 0, .u32 0, .u32 0, .u32 0, .u32 0, .u32 0, .u32 0, .u32 0, .u32 0, .u32 0, .u32 0, .u32 0, .u32 0, .u32 0, .u32 0, .u32 0, .u32 0, .u32 0, .u32 0, .u32 0, .u32 0, .u32 0, .u32 0, .u32 0, .u32 0, .u32 0, .u32 0, .u32 0, .u32 0], []⟩
def tyi63 : TyI := ⟨.pointer 5, 1, 8, .one (.val (.pointer none)), []⟩
noncomputable def ty (t : Nat) : Option TyI := match t with
  | 2 => some tyi2
  | 3 => some tyi3
  | 4 => some tyi4
  | 5 => some tyi5
  | 9 => some tyi9
  | 12 => some tyi12
  | 20 => some tyi20
  | 21 => some tyi21
  | 25 => some tyi25
  | 26 => some tyi26
  | 28 => some tyi28
  | 34 => some tyi34
  | 45 => some tyi45
  | 46 => some tyi46
  | 47 => some tyi47
  | 48 => some tyi48
  | 63 => some tyi63
  | _ => none
theorem ty_one {i : TyI} {t : Nat} {z : Value} (h1 : Tryd.prog.underlying t = some i.d) (h2 : (Tryd.prog.info? t).map (fun x => (x.zero, x.size, x.bytes)) = some (some z, i.size, i.bytes)) (h3 : ∀ r, i.zero.rel r z) (h4 : z.cells.size = i.size) (h5 : i.zero.cells.length = i.size) (h6 : ∀ x ∈ i.zero.cells, x.plain ∧ x.bare) (h7 : (i.eqs.isEmpty || (eqB Tryd.prog t i.eqs && i.eqs.length == i.size)) = true) :
    TyOne Tryd.prog t i := by
  obtain ⟨nf, hn, hz, hs, hb⟩ := info_parts h2
  refine ⟨h1, nf, hn, hs, hb, z, hz, h3, h4, h5, h6, fun he => ?_⟩
  rw [he] at h7
  simp only [Bool.false_or, Bool.and_eq_true, beq_iff_eq] at h7
  exact h7
theorem tyok2 : TyOne Tryd.prog 2 tyi2 := ty_one (z := .int .i64 0) (by kernel_rfl) (by kernel_rfl) (fun r => rfl) rfl rfl (by simp [tyi2, CV.cells, AV.plain, AV.bare, Value.oneCell']) (by kernel_rfl)
theorem tyok3 : TyOne Tryd.prog 3 tyi3 := ty_one (z := .int .i64 0) (by kernel_rfl) (by kernel_rfl) (fun r => rfl) rfl rfl (by simp [tyi3, CV.cells, AV.plain, AV.bare, Value.oneCell']) (by kernel_rfl)
theorem tyok4 : TyOne Tryd.prog 4 tyi4 := ty_one (z := .bool false) (by kernel_rfl) (by kernel_rfl) (fun r => rfl) rfl rfl (by simp [tyi4, CV.cells, AV.plain, AV.bare, Value.oneCell']) (by kernel_rfl)
theorem tyok5 : TyOne Tryd.prog 5 tyi5 := ty_one (z := .int .u8 0) (by kernel_rfl) (by kernel_rfl) (fun r => rfl) rfl rfl (by simp [tyi5, CV.cells, AV.plain, AV.bare, Value.oneCell']) (by kernel_rfl)
theorem tyok9 : TyOne Tryd.prog 9 tyi9 := ty_one (z := .string ⟨#[]⟩) (by kernel_rfl) (by kernel_rfl) (fun r => rfl) rfl rfl (by simp [tyi9, CV.cells, AV.plain, AV.bare, Value.oneCell']) (by kernel_rfl)
theorem tyok12 : TyOne Tryd.prog 12 tyi12 := ty_one (z := .int .u64 0) (by kernel_rfl) (by kernel_rfl) (fun r => rfl) rfl rfl (by simp [tyi12, CV.cells, AV.plain, AV.bare, Value.oneCell']) (by kernel_rfl)
theorem tyok20 : TyOne Tryd.prog 20 tyi20 := ty_one (z := .nilIface) (by kernel_rfl) (by kernel_rfl) (fun r => rfl) rfl rfl (by simp [tyi20, CV.cells, AV.plain, AV.bare, Value.oneCell']) (by kernel_rfl)
theorem tyok21 : TyOne Tryd.prog 21 tyi21 := ty_one (z := .int .i32 0) (by kernel_rfl) (by kernel_rfl) (fun r => rfl) rfl rfl (by simp [tyi21, CV.cells, AV.plain, AV.bare, Value.oneCell']) (by kernel_rfl)
theorem tyok25 : TyOne Tryd.prog 25 tyi25 := ty_one (z := .int .u32 0) (by kernel_rfl) (by kernel_rfl) (fun r => rfl) rfl rfl (by simp [tyi25, CV.cells, AV.plain, AV.bare, Value.oneCell']) (by kernel_rfl)
theorem tyok26 : TyOne Tryd.prog 26 tyi26 := ty_one (z := .agg #[.int .u32 0, .int .u32 0, .int .u32 0, .int .u32 0, .int .u32 0, .int .u32 0, .int .u32 0, .int .u32 0]) (by kernel_rfl) (by kernel_rfl) (fun r => ⟨_, rfl, by simp [All2, AV.rel]⟩) rfl rfl (by simp [tyi26, CV.cells, AV.plain, AV.bare, Value.oneCell']) (by kernel_rfl)
theorem tyok28 : TyOne Tryd.prog 28 tyi28 := ty_one (z := .slice none 0 0) (by kernel_rfl) (by kernel_rfl) (fun r => rfl) rfl rfl (by simp [tyi28, CV.cells, AV.plain, AV.bare, Value.oneCell']) (by kernel_rfl)
theorem tyok34 : TyOne Tryd.prog 34 tyi34 := ty_one (z := .int .i64 0) (by kernel_rfl) (by kernel_rfl) (fun r => rfl) rfl rfl (by simp [tyi34, CV.cells, AV.plain, AV.bare, Value.oneCell']) (by kernel_rfl)
theorem tyok45 : TyOne Tryd.prog 45 tyi45 := ty_one (z := .slice none 0 0) (by kernel_rfl) (by kernel_rfl) (fun r => rfl) rfl rfl (by simp [tyi45, CV.cells, AV.plain, AV.bare, Value.oneCell']) (by kernel_rfl)
theorem tyok46 : TyOne Tryd.prog 46 tyi46 := ty_one (z := .int .u64 0) (by kernel_rfl) (by kernel_rfl) (fun r => rfl) rfl rfl (by simp [tyi46, CV.cells, AV.plain, AV.bare, Value.oneCell']) (by kernel_rfl)
theorem tyok47 : TyOne Tryd.prog 47 tyi47 := ty_one (z := .int .u64 0) (by kernel_rfl) (by kernel_rfl) (fun r => rfl) rfl rfl (by simp [tyi47, CV.cells, AV.plain, AV.bare, Value.oneCell']) (by kernel_rfl)
theorem tyok48 : TyOne Tryd.prog 48 tyi48 := ty_one (z := .agg #[.int .u32 0, .int .u32 0, .int .u32 0, .int .u32 0, .int .u32 0, .int .u32 0, .int .u32 0, .int .u32 0, .int .u32 0, .int .u32 0, .int .u32 0, .int .u32 0, .int .u32 0, .int .u32 0, .int .u32 0, .int .u32 0, .int .u32 0, .int .u32 0, .int .u32 0, .int .u32 0, .int .u32 0, .int .u32 0, .int .u32 0, .int .u32 0, .int .u32 0, .int .u32 0, .int .u32 0, .int .u32 0, .int .u32 0, .int .u32 0, .int .u32 0, .int .u32 0, .int .u32 0, .int .u32 0, .int .u32 0, .int .u32 0, .int .u32 0, .int .u32 0, .int .u32 0, .int .u32 0, .int .u32 0, .int .u32 0, .int .u32 0, .int .u32 0, .int .u32 0, .int .u32 0, .int .u32 0, .int .u32 0, .int .u32 0, .int .u32 0, .int .u32 0, .int .u32 0, .int .u32 0, .int .u32 0, .int .u32 0, .int .u32 0, .int .u32 0, .int .u32 0, .int .u32 0, .int .u32 0, .int .u32 0, .int .u32 0, .int .u32 0, .int .u32 0]) (by kernel_rfl) (by kernel_rfl) (fun r => ⟨_, rfl, by simp [All2, AV.rel]⟩) rfl rfl (by simp [tyi48, CV.cells, AV.plain, AV.bare, Value.oneCell']) (by kernel_rfl)
theorem tyok63 : TyOne Tryd.prog 63 tyi63 := ty_one (z := .pointer none) (by kernel_rfl) (by kernel_rfl) (fun r => rfl) rfl rfl (by simp [tyi63, CV.cells, AV.plain, AV.bare, Value.oneCell']) (by kernel_rfl)
theorem ty_ok : TyOk Tryd.prog ty := fun t i h => by
  unfold ty at h
  split at h
  · injection h with h; subst h; exact tyok2
  · injection h with h; subst h; exact tyok3
  · injection h with h; subst h; exact tyok4
  · injection h with h; subst h; exact tyok5
  · injection h with h; subst h; exact tyok9
  · injection h with h; subst h; exact tyok12
  · injection h with h; subst h; exact tyok20
  · injection h with h; subst h; exact tyok21
  · injection h with h; subst h; exact tyok25
  · injection h with h; subst h; exact tyok26
  · injection h with h; subst h; exact tyok28
  · injection h with h; subst h; exact tyok34
  · injection h with h; subst h; exact tyok45
  · injection h with h; subst h; exact tyok46
  · injection h with h; subst h; exact tyok47
  · injection h with h; subst h; exact tyok48
  · injection h with h; subst h; exact tyok63
  · cases h
end Go.Proofs.YtdkogjjebbdngaaDoor
