/-
  The types of the program, as the walk by reckoning looks them up. Made by genty.py.
-/
import Derived.Test.YtdmdflmdfaobiaaSs
import Derived.Test.YtdmdflmdfaobiaaProg
namespace Go.Proofs.Ytdmdflmdfaobiaa
open Go Go.RowKit
set_option linter.unusedVariables false
set_option linter.unusedSimpArgs false
def tyi2 : TyI := ⟨.int .i64, 1, 8, .one (.num 0)⟩
def tyi3 : TyI := ⟨.int .i64, 1, 8, .one (.num 0)⟩
def tyi4 : TyI := ⟨.bool, 1, 1, .one (.bo false)⟩
def tyi5 : TyI := ⟨.int .u8, 1, 1, .one (.u8 0)⟩
def tyi9 : TyI := ⟨.string, 1, 16, .one (.str [])⟩
def tyi12 : TyI := ⟨.int .u64, 1, 8, .one (.u64 0)⟩
def tyi21 : TyI := ⟨.int .i32, 1, 4, .one (.int .i32 0)⟩
def tyi22 : TyI := ⟨.int .u64, 1, 8, .one (.u64 0)⟩
def tyi23 : TyI := ⟨.array 5 22, 5, 40, .agg [.u64 0, .u64 0, .u64 0, .u64 0, .u64 0]⟩
def tyi24 : TyI := ⟨.array 5 22, 5, 40, .agg [.u64 0, .u64 0, .u64 0, .u64 0, .u64 0]⟩
def tyi25 : TyI := ⟨.slice 3, 1, 24, .one (.val (.slice none 0 0))⟩
def tyi33 : TyI := ⟨.int .u32, 1, 4, .one (.u32 0)⟩
def tyi45 : TyI := ⟨.int .u64, 1, 8, .one (.u64 0)⟩
def tyi48 : TyI := ⟨.slice 33, 1, 24, .one (.val (.slice none 0 0))⟩
def tyi58 : TyI := ⟨.slice 5, 1, 24, .one (.val (.slice none 0 0))⟩
def tyi64 : TyI := ⟨.int .i64, 1, 8, .one (.num 0)⟩
def tyi73 : TyI := ⟨.slice 22, 1, 24, .one (.val (.slice none 0 0))⟩
def tyi74 : TyI := ⟨.array 4 22, 4, 32, .agg [.u64 0, .u64 0, .u64 0, .u64 0]⟩
noncomputable def tyi76 : TyI := ⟨(Try.prog.underlying 76).getD .invalid, 2, 16, .agg [.u64 0, .u64 0]⟩
noncomputable def tyi77 : TyI := ⟨(Try.prog.underlying 77).getD .invalid, 2, 16, .agg [.u64 0, .u64 0]⟩
def tyi78 : TyI := ⟨.array 5 77, 10, 80, .agg [.u64 0, .u64 0, .u64 0, .u64 0, .u64 0, .u64 0, .u64 0, .u64 0, .u64 0, .u64 0]⟩
def tyi84 : TyI := ⟨.array 16 33, 16, 64, .agg [.u32 0, .u32 0, .u32 0, .u32 0, .u32 0, .u32 0, .u32 0, .u32 0, .u32 0, .u32 0, .u32 0, .u32 0, .u32 0, .u32 0, .u32 0, .u32 0]⟩
def tyi87 : TyI := ⟨.array 5 22, 5, 40, .agg [.u64 0, .u64 0, .u64 0, .u64 0, .u64 0]⟩
def tyi98 : TyI := ⟨.array 4 3, 4, 32, .agg [.num 0, .num 0, .num 0, .num 0]⟩
def tyi99 : TyI := ⟨.array 3 3, 3, 24, .agg [.num 0, .num 0, .num 0]⟩
def tyi112 : TyI := ⟨.pointer 5, 1, 8, .one (.val (.pointer none))⟩
noncomputable def ty (t : Nat) : Option TyI := match t with
  | 2 => some tyi2
  | 3 => some tyi3
  | 4 => some tyi4
  | 5 => some tyi5
  | 9 => some tyi9
  | 12 => some tyi12
  | 21 => some tyi21
  | 22 => some tyi22
  | 23 => some tyi23
  | 24 => some tyi24
  | 25 => some tyi25
  | 33 => some tyi33
  | 45 => some tyi45
  | 48 => some tyi48
  | 58 => some tyi58
  | 64 => some tyi64
  | 73 => some tyi73
  | 74 => some tyi74
  | 76 => some tyi76
  | 77 => some tyi77
  | 78 => some tyi78
  | 84 => some tyi84
  | 87 => some tyi87
  | 98 => some tyi98
  | 99 => some tyi99
  | 112 => some tyi112
  | _ => none
theorem ty_one {i : TyI} {t : Nat} {z : Value} (h1 : Try.prog.underlying t = some i.d) (h2 : (Try.prog.info? t).map (fun x => (x.zero, x.size, x.bytes)) = some (some z, i.size, i.bytes)) (h3 : ∀ r, i.zero.rel r z) (h4 : z.cells.size = i.size) (h5 : i.zero.cells.length = i.size) (h6 : ∀ x ∈ i.zero.cells, x.plain ∧ x.bare) :
    TyOne Try.prog t i := by
  obtain ⟨nf, hn, hz, hs, hb⟩ := info_parts h2
  exact ⟨h1, nf, hn, hs, hb, z, hz, h3, h4, h5, h6⟩
theorem tyok2 : TyOne Try.prog 2 tyi2 := ty_one (z := .int .i64 0) (by kernel_rfl) (by kernel_rfl) (fun r => rfl) rfl rfl (by simp [tyi2, CV.cells, AV.plain, AV.bare, Value.oneCell'])
theorem tyok3 : TyOne Try.prog 3 tyi3 := ty_one (z := .int .i64 0) (by kernel_rfl) (by kernel_rfl) (fun r => rfl) rfl rfl (by simp [tyi3, CV.cells, AV.plain, AV.bare, Value.oneCell'])
theorem tyok4 : TyOne Try.prog 4 tyi4 := ty_one (z := .bool false) (by kernel_rfl) (by kernel_rfl) (fun r => rfl) rfl rfl (by simp [tyi4, CV.cells, AV.plain, AV.bare, Value.oneCell'])
theorem tyok5 : TyOne Try.prog 5 tyi5 := ty_one (z := .int .u8 0) (by kernel_rfl) (by kernel_rfl) (fun r => rfl) rfl rfl (by simp [tyi5, CV.cells, AV.plain, AV.bare, Value.oneCell'])
theorem tyok9 : TyOne Try.prog 9 tyi9 := ty_one (z := .string ⟨#[]⟩) (by kernel_rfl) (by kernel_rfl) (fun r => rfl) rfl rfl (by simp [tyi9, CV.cells, AV.plain, AV.bare, Value.oneCell'])
theorem tyok12 : TyOne Try.prog 12 tyi12 := ty_one (z := .int .u64 0) (by kernel_rfl) (by kernel_rfl) (fun r => rfl) rfl rfl (by simp [tyi12, CV.cells, AV.plain, AV.bare, Value.oneCell'])
theorem tyok21 : TyOne Try.prog 21 tyi21 := ty_one (z := .int .i32 0) (by kernel_rfl) (by kernel_rfl) (fun r => rfl) rfl rfl (by simp [tyi21, CV.cells, AV.plain, AV.bare, Value.oneCell'])
theorem tyok22 : TyOne Try.prog 22 tyi22 := ty_one (z := .int .u64 0) (by kernel_rfl) (by kernel_rfl) (fun r => rfl) rfl rfl (by simp [tyi22, CV.cells, AV.plain, AV.bare, Value.oneCell'])
theorem tyok23 : TyOne Try.prog 23 tyi23 := ty_one (z := .agg #[.int .u64 0, .int .u64 0, .int .u64 0, .int .u64 0, .int .u64 0]) (by kernel_rfl) (by kernel_rfl) (fun r => ⟨_, rfl, by simp [All2, AV.rel]⟩) rfl rfl (by simp [tyi23, CV.cells, AV.plain, AV.bare, Value.oneCell'])
theorem tyok24 : TyOne Try.prog 24 tyi24 := ty_one (z := .agg #[.int .u64 0, .int .u64 0, .int .u64 0, .int .u64 0, .int .u64 0]) (by kernel_rfl) (by kernel_rfl) (fun r => ⟨_, rfl, by simp [All2, AV.rel]⟩) rfl rfl (by simp [tyi24, CV.cells, AV.plain, AV.bare, Value.oneCell'])
theorem tyok25 : TyOne Try.prog 25 tyi25 := ty_one (z := .slice none 0 0) (by kernel_rfl) (by kernel_rfl) (fun r => rfl) rfl rfl (by simp [tyi25, CV.cells, AV.plain, AV.bare, Value.oneCell'])
theorem tyok33 : TyOne Try.prog 33 tyi33 := ty_one (z := .int .u32 0) (by kernel_rfl) (by kernel_rfl) (fun r => rfl) rfl rfl (by simp [tyi33, CV.cells, AV.plain, AV.bare, Value.oneCell'])
theorem tyok45 : TyOne Try.prog 45 tyi45 := ty_one (z := .int .u64 0) (by kernel_rfl) (by kernel_rfl) (fun r => rfl) rfl rfl (by simp [tyi45, CV.cells, AV.plain, AV.bare, Value.oneCell'])
theorem tyok48 : TyOne Try.prog 48 tyi48 := ty_one (z := .slice none 0 0) (by kernel_rfl) (by kernel_rfl) (fun r => rfl) rfl rfl (by simp [tyi48, CV.cells, AV.plain, AV.bare, Value.oneCell'])
theorem tyok58 : TyOne Try.prog 58 tyi58 := ty_one (z := .slice none 0 0) (by kernel_rfl) (by kernel_rfl) (fun r => rfl) rfl rfl (by simp [tyi58, CV.cells, AV.plain, AV.bare, Value.oneCell'])
theorem tyok64 : TyOne Try.prog 64 tyi64 := ty_one (z := .int .i64 0) (by kernel_rfl) (by kernel_rfl) (fun r => rfl) rfl rfl (by simp [tyi64, CV.cells, AV.plain, AV.bare, Value.oneCell'])
theorem tyok73 : TyOne Try.prog 73 tyi73 := ty_one (z := .slice none 0 0) (by kernel_rfl) (by kernel_rfl) (fun r => rfl) rfl rfl (by simp [tyi73, CV.cells, AV.plain, AV.bare, Value.oneCell'])
theorem tyok74 : TyOne Try.prog 74 tyi74 := ty_one (z := .agg #[.int .u64 0, .int .u64 0, .int .u64 0, .int .u64 0]) (by kernel_rfl) (by kernel_rfl) (fun r => ⟨_, rfl, by simp [All2, AV.rel]⟩) rfl rfl (by simp [tyi74, CV.cells, AV.plain, AV.bare, Value.oneCell'])
theorem tyok76 : TyOne Try.prog 76 tyi76 := ty_one (z := .agg #[.int .u64 0, .int .u64 0]) (by kernel_rfl) (by kernel_rfl) (fun r => ⟨_, rfl, by simp [All2, AV.rel]⟩) rfl rfl (by simp [tyi76, CV.cells, AV.plain, AV.bare, Value.oneCell'])
theorem tyok77 : TyOne Try.prog 77 tyi77 := ty_one (z := .agg #[.int .u64 0, .int .u64 0]) (by kernel_rfl) (by kernel_rfl) (fun r => ⟨_, rfl, by simp [All2, AV.rel]⟩) rfl rfl (by simp [tyi77, CV.cells, AV.plain, AV.bare, Value.oneCell'])
theorem tyok78 : TyOne Try.prog 78 tyi78 := ty_one (z := .agg #[.int .u64 0, .int .u64 0, .int .u64 0, .int .u64 0, .int .u64 0, .int .u64 0, .int .u64 0, .int .u64 0, .int .u64 0, .int .u64 0]) (by kernel_rfl) (by kernel_rfl) (fun r => ⟨_, rfl, by simp [All2, AV.rel]⟩) rfl rfl (by simp [tyi78, CV.cells, AV.plain, AV.bare, Value.oneCell'])
theorem tyok84 : TyOne Try.prog 84 tyi84 := ty_one (z := .agg #[.int .u32 0, .int .u32 0, .int .u32 0, .int .u32 0, .int .u32 0, .int .u32 0, .int .u32 0, .int .u32 0, .int .u32 0, .int .u32 0, .int .u32 0, .int .u32 0, .int .u32 0, .int .u32 0, .int .u32 0, .int .u32 0]) (by kernel_rfl) (by kernel_rfl) (fun r => ⟨_, rfl, by simp [All2, AV.rel]⟩) rfl rfl (by simp [tyi84, CV.cells, AV.plain, AV.bare, Value.oneCell'])
theorem tyok87 : TyOne Try.prog 87 tyi87 := ty_one (z := .agg #[.int .u64 0, .int .u64 0, .int .u64 0, .int .u64 0, .int .u64 0]) (by kernel_rfl) (by kernel_rfl) (fun r => ⟨_, rfl, by simp [All2, AV.rel]⟩) rfl rfl (by simp [tyi87, CV.cells, AV.plain, AV.bare, Value.oneCell'])
theorem tyok98 : TyOne Try.prog 98 tyi98 := ty_one (z := .agg #[.int .i64 0, .int .i64 0, .int .i64 0, .int .i64 0]) (by kernel_rfl) (by kernel_rfl) (fun r => ⟨_, rfl, by simp [All2, AV.rel]⟩) rfl rfl (by simp [tyi98, CV.cells, AV.plain, AV.bare, Value.oneCell'])
theorem tyok99 : TyOne Try.prog 99 tyi99 := ty_one (z := .agg #[.int .i64 0, .int .i64 0, .int .i64 0]) (by kernel_rfl) (by kernel_rfl) (fun r => ⟨_, rfl, by simp [All2, AV.rel]⟩) rfl rfl (by simp [tyi99, CV.cells, AV.plain, AV.bare, Value.oneCell'])
theorem tyok112 : TyOne Try.prog 112 tyi112 := ty_one (z := .pointer none) (by kernel_rfl) (by kernel_rfl) (fun r => rfl) rfl rfl (by simp [tyi112, CV.cells, AV.plain, AV.bare, Value.oneCell'])
theorem ty_ok : TyOk Try.prog ty := fun t i h => by
  unfold ty at h
  split at h
  · injection h with h; subst h; exact tyok2
  · injection h with h; subst h; exact tyok3
  · injection h with h; subst h; exact tyok4
  · injection h with h; subst h; exact tyok5
  · injection h with h; subst h; exact tyok9
  · injection h with h; subst h; exact tyok12
  · injection h with h; subst h; exact tyok21
  · injection h with h; subst h; exact tyok22
  · injection h with h; subst h; exact tyok23
  · injection h with h; subst h; exact tyok24
  · injection h with h; subst h; exact tyok25
  · injection h with h; subst h; exact tyok33
  · injection h with h; subst h; exact tyok45
  · injection h with h; subst h; exact tyok48
  · injection h with h; subst h; exact tyok58
  · injection h with h; subst h; exact tyok64
  · injection h with h; subst h; exact tyok73
  · injection h with h; subst h; exact tyok74
  · injection h with h; subst h; exact tyok76
  · injection h with h; subst h; exact tyok77
  · injection h with h; subst h; exact tyok78
  · injection h with h; subst h; exact tyok84
  · injection h with h; subst h; exact tyok87
  · injection h with h; subst h; exact tyok98
  · injection h with h; subst h; exact tyok99
  · injection h with h; subst h; exact tyok112
  · cases h
end Go.Proofs.Ytdmdflmdfaobiaa
