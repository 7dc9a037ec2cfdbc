/-
  Layer 1: the contracts of RotateLeft32 and round.
-/
import Derived.Test.YtdpfhlopcempmaaDoorRows
import Derived.WalkKit
import Derived.WalkSpells
import Derived.WalkLawsBesides
import Derived.Outline
import Derived.Test.YtdpfhlopcempmaaDoorU32
import Derived.Test.YtdpfhlopcempmaaDoorMem
import Derived.Deep.QuietTactic
import Derived.BigQuiet
import Derived.StillTailTactics
namespace Go.Proofs.YtdpfhlopcempmaaDoor
open Go Go.RowKit

theorem rotr7_any (x : UInt32) (w : World) :
    Calls Tryd.prog 40 #[.int .u32 (W x), .int .i64 (-7)] w fun e w' => e = .returned (.int .u32 (W (rotl x 25))) ∧ w = w' := by
  have hb : bits BinOp.and IntKind.u64 (IntKind.u64.wrap (-7)) 31 = 25 := by decide
  have h := W_lt x
  have h' := W_nn x
  go_enter Tryd.func40, Tryd.ntmps40
  go_wp2
  go_ret
  exact ⟨congrArg (fun n => Ending.returned (.int .u32 n)) (W_rot x 25 33554432 128 (by decide) (by decide) (by decide) (by decide)), rfl⟩
theorem rotr18_any (x : UInt32) (w : World) :
    Calls Tryd.prog 40 #[.int .u32 (W x), .int .i64 (-18)] w fun e w' => e = .returned (.int .u32 (W (rotl x 14))) ∧ w = w' := by
  have hb : bits BinOp.and IntKind.u64 (IntKind.u64.wrap (-18)) 31 = 14 := by decide
  have h := W_lt x
  have h' := W_nn x
  go_enter Tryd.func40, Tryd.ntmps40
  go_wp2
  go_ret
  exact ⟨congrArg (fun n => Ending.returned (.int .u32 n)) (W_rot x 14 16384 262144 (by decide) (by decide) (by decide) (by decide)), rfl⟩
theorem rotr17_any (x : UInt32) (w : World) :
    Calls Tryd.prog 40 #[.int .u32 (W x), .int .i64 (-17)] w fun e w' => e = .returned (.int .u32 (W (rotl x 15))) ∧ w = w' := by
  have hb : bits BinOp.and IntKind.u64 (IntKind.u64.wrap (-17)) 31 = 15 := by decide
  have h := W_lt x
  have h' := W_nn x
  go_enter Tryd.func40, Tryd.ntmps40
  go_wp2
  go_ret
  exact ⟨congrArg (fun n => Ending.returned (.int .u32 n)) (W_rot x 15 32768 131072 (by decide) (by decide) (by decide) (by decide)), rfl⟩
theorem rotr19_any (x : UInt32) (w : World) :
    Calls Tryd.prog 40 #[.int .u32 (W x), .int .i64 (-19)] w fun e w' => e = .returned (.int .u32 (W (rotl x 13))) ∧ w = w' := by
  have hb : bits BinOp.and IntKind.u64 (IntKind.u64.wrap (-19)) 31 = 13 := by decide
  have h := W_lt x
  have h' := W_nn x
  go_enter Tryd.func40, Tryd.ntmps40
  go_wp2
  go_ret
  exact ⟨congrArg (fun n => Ending.returned (.int .u32 n)) (W_rot x 13 8192 524288 (by decide) (by decide) (by decide) (by decide)), rfl⟩
theorem rotr6_any (x : UInt32) (w : World) :
    Calls Tryd.prog 40 #[.int .u32 (W x), .int .i64 (-6)] w fun e w' => e = .returned (.int .u32 (W (rotl x 26))) ∧ w = w' := by
  have hb : bits BinOp.and IntKind.u64 (IntKind.u64.wrap (-6)) 31 = 26 := by decide
  have h := W_lt x
  have h' := W_nn x
  go_enter Tryd.func40, Tryd.ntmps40
  go_wp2
  go_ret
  exact ⟨congrArg (fun n => Ending.returned (.int .u32 n)) (W_rot x 26 67108864 64 (by decide) (by decide) (by decide) (by decide)), rfl⟩
theorem rotr11_any (x : UInt32) (w : World) :
    Calls Tryd.prog 40 #[.int .u32 (W x), .int .i64 (-11)] w fun e w' => e = .returned (.int .u32 (W (rotl x 21))) ∧ w = w' := by
  have hb : bits BinOp.and IntKind.u64 (IntKind.u64.wrap (-11)) 31 = 21 := by decide
  have h := W_lt x
  have h' := W_nn x
  go_enter Tryd.func40, Tryd.ntmps40
  go_wp2
  go_ret
  exact ⟨congrArg (fun n => Ending.returned (.int .u32 n)) (W_rot x 21 2097152 2048 (by decide) (by decide) (by decide) (by decide)), rfl⟩
theorem rotr25_any (x : UInt32) (w : World) :
    Calls Tryd.prog 40 #[.int .u32 (W x), .int .i64 (-25)] w fun e w' => e = .returned (.int .u32 (W (rotl x 7))) ∧ w = w' := by
  have hb : bits BinOp.and IntKind.u64 (IntKind.u64.wrap (-25)) 31 = 7 := by decide
  have h := W_lt x
  have h' := W_nn x
  go_enter Tryd.func40, Tryd.ntmps40
  go_wp2
  go_ret
  exact ⟨congrArg (fun n => Ending.returned (.int .u32 n)) (W_rot x 7 128 33554432 (by decide) (by decide) (by decide) (by decide)), rfl⟩
theorem rotr2_any (x : UInt32) (w : World) :
    Calls Tryd.prog 40 #[.int .u32 (W x), .int .i64 (-2)] w fun e w' => e = .returned (.int .u32 (W (rotl x 30))) ∧ w = w' := by
  have hb : bits BinOp.and IntKind.u64 (IntKind.u64.wrap (-2)) 31 = 30 := by decide
  have h := W_lt x
  have h' := W_nn x
  go_enter Tryd.func40, Tryd.ntmps40
  go_wp2
  go_ret
  exact ⟨congrArg (fun n => Ending.returned (.int .u32 n)) (W_rot x 30 1073741824 4 (by decide) (by decide) (by decide) (by decide)), rfl⟩
theorem rotr13_any (x : UInt32) (w : World) :
    Calls Tryd.prog 40 #[.int .u32 (W x), .int .i64 (-13)] w fun e w' => e = .returned (.int .u32 (W (rotl x 19))) ∧ w = w' := by
  have hb : bits BinOp.and IntKind.u64 (IntKind.u64.wrap (-13)) 31 = 19 := by decide
  have h := W_lt x
  have h' := W_nn x
  go_enter Tryd.func40, Tryd.ntmps40
  go_wp2
  go_ret
  exact ⟨congrArg (fun n => Ending.returned (.int .u32 n)) (W_rot x 19 524288 8192 (by decide) (by decide) (by decide) (by decide)), rfl⟩
theorem rotr22_any (x : UInt32) (w : World) :
    Calls Tryd.prog 40 #[.int .u32 (W x), .int .i64 (-22)] w fun e w' => e = .returned (.int .u32 (W (rotl x 10))) ∧ w = w' := by
  have hb : bits BinOp.and IntKind.u64 (IntKind.u64.wrap (-22)) 31 = 10 := by decide
  have h := W_lt x
  have h' := W_nn x
  go_enter Tryd.func40, Tryd.ntmps40
  go_wp2
  go_ret
  exact ⟨congrArg (fun n => Ending.returned (.int .u32 n)) (W_rot x 10 1024 4194304 (by decide) (by decide) (by decide) (by decide)), rfl⟩

/-- One round. -/
def rnd (a b c d e f g h w : UInt32) : List UInt32 :=
  let t := h + (rotl e 26 ^^^ rotl e 21 ^^^ rotl e 7) + (e &&& f ^^^ ~~~e &&& g) + w
  [t + (rotl a 30 ^^^ rotl a 19 ^^^ rotl a 10) + (a &&& b ^^^ a &&& c ^^^ b &&& c), a, b, c, d + t, e, f, g]
def rndL : List UInt32 → UInt32 → List UInt32
  | [a, b, c, d, e, f, g, h], w => rnd a b c d e f g h w
  | xs, _ => xs
theorem rndL_length (xs : List UInt32) (x : UInt32) : (rndL xs x).length = xs.length := by
  unfold rndL
  split <;> simp [rnd]
set_option maxRecDepth 100000 in
theorem round_any (a b c d e f g h x : UInt32) (w : World) :
    Calls Tryd.prog 37 #[.agg (cellsW [a, b, c, d, e, f, g, h]), .int .u32 (W x)] w fun en w' => en = .returned (.agg (cellsW (rnd a b c d e f g h x))) ∧ Below w.heap.size w w' := by
  have HB := Lib.hid (Blk.new w 26 (cellsW [a, b, c, d, e, f, g, h]))
  have ha := W_add
  have hx := W_xor
  have hn := W_and
  have ho := W_not
  have hsg : IntKind.u32.signed = false := rfl
  have g0 : (cellsW [a, b, c, d, e, f, g, h])[0]? = some (.int .u32 (W a)) := rfl
  have g1 : (cellsW [a, b, c, d, e, f, g, h])[1]? = some (.int .u32 (W b)) := rfl
  have g2 : (cellsW [a, b, c, d, e, f, g, h])[2]? = some (.int .u32 (W c)) := rfl
  have g3 : (cellsW [a, b, c, d, e, f, g, h])[3]? = some (.int .u32 (W d)) := rfl
  have g4 : (cellsW [a, b, c, d, e, f, g, h])[4]? = some (.int .u32 (W e)) := rfl
  have g5 : (cellsW [a, b, c, d, e, f, g, h])[5]? = some (.int .u32 (W f)) := rfl
  have g6 : (cellsW [a, b, c, d, e, f, g, h])[6]? = some (.int .u32 (W g)) := rfl
  have g7 : (cellsW [a, b, c, d, e, f, g, h])[7]? = some (.int .u32 (W h)) := rfl
  go_enter Tryd.func37, Tryd.ntmps37
  go_wp2
  go_quiet (fail)
  go_wp2_with (first | (go_at_call 40; ((with_reducible refine (rotr6_any _ _).mono ?_); rintro e w' ⟨rfl, rfl⟩)) | (go_at_call 40; ((with_reducible refine (rotr11_any _ _).mono ?_); rintro e w' ⟨rfl, rfl⟩)) | (go_at_call 40; ((with_reducible refine (rotr25_any _ _).mono ?_); rintro e w' ⟨rfl, rfl⟩)) | (go_at_call 40; ((with_reducible refine (rotr2_any _ _).mono ?_); rintro e w' ⟨rfl, rfl⟩)) | (go_at_call 40; ((with_reducible refine (rotr13_any _ _).mono ?_); rintro e w' ⟨rfl, rfl⟩)) | (go_at_call 40; ((with_reducible refine (rotr22_any _ _).mono ?_); rintro e w' ⟨rfl, rfl⟩)) | (refine wpList_store_blk 26 _ _ (cellsW (rnd a b c d e f g h x)) ((Blk.new1 _ _ _ _).drewN _) rfl rfl rfl rfl (by kernel_rfl) rfl (cellsW_one _) ?_; intro w1 hb1 hg1 hs1))
  have hbl : Below w.heap.size w w1 := below_only (below_drewN (((Below.refl _ _).alloc (Nat.le_refl _) _).alloc (by simp) _) _) hg1 (by omega) (Nat.le_refl _)
  exact bodyPost_ret (results_cell_row rfl _ _ _ _ _ _ _ rfl hb1 Tryd.underlying26 rfl (by kernel_rfl)) rfl ⟨rfl, hbl⟩
end Go.Proofs.YtdpfhlopcempmaaDoor
