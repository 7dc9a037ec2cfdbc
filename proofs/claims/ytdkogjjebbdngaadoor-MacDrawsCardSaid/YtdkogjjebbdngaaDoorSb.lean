/-
  A walk by reckoning, part 5: the operations that leave memory alone. It speaks of no program.
-/
import Derived.Test.YtdkogjjebbdngaaDoorSa
namespace Go.Proofs.YtdkogjjebbdngaaDoor
open Go Go.RowKit
set_option linter.unusedVariables false
set_option linter.unusedSimpArgs false

def constA : Value → AV
  | .int .i64 n => .num n
  | .int .u8 n => if 0 ≤ n ∧ n < 256 then .u8 (UInt8.ofNat n.toNat) else .int .u8 n
  | .int .u32 n => if 0 ≤ n ∧ n < 4294967296 then .u32 (UInt32.ofNat n.toNat) else .int .u32 n
  | .int .u64 n => if 0 ≤ n ∧ n < 18446744073709551616 then .u64 (UInt64.ofNat n.toNat) else .int .u64 n
  | .int k n => .int k n
  | .bool b => .bo b
  | .string s => .str s.data.toList
  | v => .val v
def constS : Value → SV
  | .agg cs => .c (.agg (cs.toList.map constA))
  | v => .c (.one (constA v))
theorem constA_rel (r : Lc) (v : Value) : (constA v).rel r v := by
  cases v with
  | int k n =>
    cases k <;> simp only [constA] <;> first
      | rfl
      | (split
         · rename_i h
           simp only [AV.rel, Value.int.injEq, true_and]
           simp
           omega
         · rfl)
  | bool b => rfl
  | string s => simp [constA, AV.rel]
  | _ => rfl
theorem constS_rel (r : Lc) (v : Value) : (constS v).rel r v := by
  have h := constA_rel r v
  cases v with
  | agg cs =>
    refine ⟨cs.toList, by simp, ?_⟩
    have := All2.map (R := AV.rel r) (f := constA) (g := id) (x := cs.toList) (fun c _ => constA_rel r c)
    simpa using this
  | _ => exact h
/-- The number of a package's variable that is an object here. -/
def gid (g : Nat) : Nat := 1000000000000000 + g
def evalS (gl : List Nat) (fr : List (Nat × SV)) : Operand → SV
  | .tmp t => match aget fr t with
    | some x => x
    | none => .c (.one .junk)
  | .const v => constS v
  | .global g => if gl.contains g then .c (.one (.ptr (gid g) 0 0 0)) else .c (.one (.val (.pointer (some ⟨g, 0, none⟩))))
  | .func f => .c (.one (.val (.func (.func f) #[] #[])))
/-- How the operands read. -/
def EvOk (r : Lc) (sv : Operand → SV) (ev : Operand → Value) : Prop := ∀ x, (sv x).rel r (ev x)

def unAV : UnOp → AV → Option AV
  | .not, .bo x => some (.bo (!x))
  | .neg, .num x => some (.num (IntKind.i64.wrap (0 - x)))
  | .neg, .u32 x => some (.u32 (0 - x))
  | .neg, .u64 x => some (.u64 (0 - x))
  | .xor, .u8 x => some (.u8 (255 ^^^ x))
  | .xor, .u32 x => some (.u32 (4294967295 ^^^ x))
  | .xor, .u64 x => some (.u64 (18446744073709551615 ^^^ x))
  | _, _ => none
def by8 (x : Int) : UInt8 := UInt8.ofNat (x % 256).toNat
def by32 (x : Int) : UInt32 := UInt32.ofNat (x % 4294967296).toNat
def by64 (x : Int) : UInt64 := UInt64.ofNat (x % 18446744073709551616).toNat
/-- A number, as another kind. -/
def convAV : TypeDesc → AV → Option AV
  | .int .i64, .num x => some (.num (IntKind.i64.wrap x))
  | .int .i64, .u8 x => some (.num (x.toNat : Int))
  | .int .i64, .u32 x => some (.num (x.toNat : Int))
  | .int .i64, .u64 x => some (.num (IntKind.i64.wrap (x.toNat : Int)))
  | .int .i64, .int _ x => some (.num (IntKind.i64.wrap x))
  | .int .u8, .num x => some (.u8 (by8 x))
  | .int .u8, .u8 x => some (.u8 x)
  | .int .u8, .u32 x => some (.u8 x.toUInt8)
  | .int .u8, .u64 x => some (.u8 x.toUInt8)
  | .int .u32, .num x => some (.u32 (by32 x))
  | .int .u32, .u8 x => some (.u32 x.toUInt32)
  | .int .u32, .u32 x => some (.u32 x)
  | .int .u32, .u64 x => some (.u32 x.toUInt32)
  | .int .u64, .num x => some (.u64 (by64 x))
  | .int .u64, .u8 x => some (.u64 x.toUInt64)
  | .int .u64, .u32 x => some (.u64 x.toUInt64)
  | .int .u64, .u64 x => some (.u64 x)
  | .int k, x => match x.toI with
    | some i => some (.int k (k.wrap i))
    | none => none
  | .string, .str x => some (.str x)
  | _, _ => none
section
variable {P : Program} {G : List GFact} {T : Nat → Option TyI} {o : Oper} {sv : Operand → SV} {ev : Operand → Value} {r : Lc}
theorem run_unary {op : UnOp} {x v : AV} {a : Value} (h : unAV op x = some v) (ha : x.rel r a) (w : World) : ∃ u, (Op.unary op a).run P w = .ok u w ∧ v.rel r u := by
  unfold unAV at h
  split at h <;> first | (cases h; done) | (injection h with h; subst h; simp only [AV.rel] at ha; subst ha)
  · exact ⟨_, rfl, rfl⟩
  · exact ⟨_, rfl, rfl⟩
  · exact ⟨_, rfl, congrArg (Value.int _) (sub32 0 _)⟩
  · exact ⟨_, rfl, congrArg (Value.int _) (sub64 0 _)⟩
  · exact ⟨_, rfl, congrArg (Value.int _) (xor8 255 _)⟩
  · exact ⟨_, rfl, congrArg (Value.int _) (xor32 4294967295 _)⟩
  · exact ⟨_, rfl, congrArg (Value.int _) (xor64 18446744073709551615 _)⟩
theorem actOk_bin (he : EvOk r sv ev) {op : BinOp} {t yt : TypeId} {x y : Operand} (ho : o.op = .binOp op t x y yt) {a b v : AV} {ob : List Prop} (hx : sv x = .c (.one a)) (hy : sv y = .c (.one b)) (h : binAV op a b = some (v, ob)) :
    ActOk P G o ev r (pureA v ob) := by
  refine actOk_pure fun hob w => ?_
  have h1 := he x
  have h2 := he y
  rw [hx] at h1
  rw [hy] at h2
  obtain ⟨u, hu, hv⟩ := binAV_run h hob h1 h2 P w t x y
  exact ⟨u, by unfold execOp; rw [ho]; simp only [Sem.run_bind] at hu ⊢; rw [hu]; rfl, hv⟩
theorem actOk_un (he : EvOk r sv ev) {op : UnOp} {t : TypeId} {x : Operand} (ho : o.op = .unOp op t x) {a v : AV} (hx : sv x = .c (.one a)) (h : unAV op a = some v) : ActOk P G o ev r (pureA v []) := by
  refine actOk_pure fun _ w => ?_
  have h1 := he x
  rw [hx] at h1
  obtain ⟨u, hu, hv⟩ := run_unary (P := P) h h1 w
  exact ⟨u, by unfold execOp; rw [ho]; simp only [Sem.run_bind]; rw [hu]; rfl, hv⟩
theorem conv_u8 (n : Int) : IntKind.u8.wrap n = ((by8 n).toNat : Int) := ofInt8 n
theorem conv_u32 (n : Int) : IntKind.u32.wrap n = ((by32 n).toNat : Int) := ofInt32 n
theorem conv_u64 (n : Int) : IntKind.u64.wrap n = ((by64 n).toNat : Int) := ofInt64 n
theorem run_convInt {s d : TypeId} {ds : TypeDesc} {k kk : IntKind} (hs : P.underlying s = some ds) (hd : P.underlying d = some (.int k)) (n : Int) (w : World) : (convert s d (.int kk n)).run P w = .ok (.int k (k.wrap n)) w := by
  unfold convert
  simp only [Sem.run_bind, run_underlying hs, run_underlying hd, Result.andThen_ok]
  cases ds <;> rfl
theorem convAV_run {d0 : TypeDesc} {x v : AV} {a : Value} (h : convAV d0 x = some v) (ha : x.rel r a) {s d : TypeId} {ds : TypeDesc} (hs : P.underlying s = some ds) (hd : P.underlying d = some d0) (w : World) :
    ∃ u, (convert s d a).run P w = .ok u w ∧ v.rel r u := by
  unfold convAV at h
  split at h
  case h_18 =>
    rename_i k y _ _ _ _ _ _ _ _ _ _ _ _ _ _ _ _ _ 
    split at h
    · rename_i i hi
      injection h with h
      subst h
      obtain ⟨k', rfl⟩ := AV.toI_rel hi ha
      exact ⟨_, run_convInt hs hd _ w, rfl⟩
    · cases h
  case h_19 =>
    injection h with h; subst h
    simp only [AV.rel] at ha; subst ha
    refine ⟨_, ?_, rfl⟩
    unfold convert
    simp only [Sem.run_bind, run_underlying hs, run_underlying hd, Result.andThen_ok]
    cases ds <;> rfl
  case h_20 => cases h
  all_goals
    injection h with h; subst h
    simp only [AV.rel] at ha; subst ha
    refine ⟨_, run_convInt hs hd _ w, ?_⟩
    first
      | rfl
      | exact congrArg (Value.int _) (conv_u8 _)
      | exact congrArg (Value.int _) (conv_u32 _)
      | exact congrArg (Value.int _) (conv_u64 _)
      | (rename_i y
         have hy := y.toNat_lt
         simp only [AV.rel]
         congr 1
         first
           | (rw [IntKind.wrap_i64]; omega)
           | (rw [IntKind.wrap_u8]; omega)
           | (rw [IntKind.wrap_u32]; omega)
           | (rw [IntKind.wrap_u64]; omega)
           | (rw [IntKind.wrap_u32, UInt8.toNat_toUInt32]; omega)
           | (rw [IntKind.wrap_u64, UInt8.toNat_toUInt64]; omega)
           | (rw [IntKind.wrap_u64, UInt32.toNat_toUInt64]; omega))
end
end Go.Proofs.YtdkogjjebbdngaaDoor
