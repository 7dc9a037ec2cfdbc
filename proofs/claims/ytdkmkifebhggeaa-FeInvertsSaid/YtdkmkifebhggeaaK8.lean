/-
  Layer 3: the laws FeSums and FeProducts.
-/
import Derived.Test.YtdkmkifebhggeaaSz
import Derived.Test.YtdkmkifebhggeaaK1
import Derived.Test.YtdkmkifebhggeaaKm
import Derived.Test.YtdkmkifebhggeaaKz
import Derived.Test.YtdkmkifebhggeaaKs
import Derived.Test.YtdkmkifebhggeaaK0
namespace Go.Proofs.Ytdkmkifebhggeaa
open Go Go.RowKit
set_option maxHeartbeats 4000000
set_option linter.unusedSimpArgs false
set_option linter.unusedVariables false
def gf5 : Nat → Option Con := fun f => match f with
  | 12 => some fbytesC
  | 13 => some faddC
  | 16 => some fsubC
  | 19 => some fmulC
  | 21 => some fscaleC
  | 53 => some fswapC
  | _ => none
theorem gf5_ok : GaOk Try.prog gf5 := fun f con h => by
  unfold gf5 at h
  split at h
  · injection h with h; subst h; exact fbytesC_ok
  · injection h with h; subst h; exact faddC_ok
  · injection h with h; subst h; exact fsubC_ok
  · injection h with h; subst h; exact fmulC_ok
  · injection h with h; subst h; exact fscaleC_ok
  · injection h with h; subst h; exact fswapC_ok
  · cases h
set_option maxRecDepth 100000 in
theorem fawake_tri : Tri Try.prog 18 [] [] (.c (.one (.bo true))) [] := by
  refine tri_of (envOf_ok gf5_ok 32) Try.func18 rfl rfl (rs := [.tmp 0]) rfl rfl (by simp [envOf]) rfl [] ?_
  have h1 : bytesF (fsub ⟨0, 0, 0, 0, 0⟩ ⟨1, 0, 0, 0, 0⟩) = [236, 255, 255, 255, 255, 255, 255, 255, 255, 255, 255, 255, 255, 255, 255, 255, 255, 255, 255, 255, 255, 255, 255, 255, 255, 255, 255, 255, 255, 255, 255, 127] := by decide +kernel
  have h2 : bytesF (fmul ⟨3, 0, 0, 0, 0⟩ ⟨5, 0, 0, 0, 0⟩) = [15, 0, 0, 0, 0, 0, 0, 0, 0, 0, 0, 0, 0, 0, 0, 0, 0, 0, 0, 0, 0, 0, 0, 0, 0, 0, 0, 0, 0, 0, 0, 0] := by decide +kernel
  simp only [envOf, gf5, fbytesC, faddC, fsubC, fmulC, fscaleC, fswapC, N5.cv, N5.eta, h1, h2, go_sem, reduceCtorEq, ↓reduceIte, Nat.reduceAdd, Nat.reduceMul, Nat.reduceSub, Nat.reduceEqDiff, Nat.reduceLT, Nat.reduceBEq, Nat.reduceBNe, Nat.reduceLeDiff, Int.reduceLE, Int.reduceLT, Int.reduceToNat, Int.reduceEq, Int.reduceAdd, UInt8.reduceToNat, UInt32.reduceToNat, UInt64.reduceToNat, UInt8.reduceOfNat, UInt32.reduceOfNat, UInt64.reduceOfNat, Fin.isValue, Int.reduceSub, Int.reduceMul, Int.reduceNeg, Int.reduceMod, Int.reduceDiv, Int.reduceTDiv, Int.reduceTMod, Int.reduceBEq, Int.reduceBNe, Nat.reduceDiv, Nat.reducePow]
def fawakeC : Con := con0 fun args => match args with
  | [] => some (.c (.one (.bo true)), [])
  | _ => none
theorem fawakeC_ok : ConOk Try.prog 18 fawakeC := con0_ok Try.func18 rfl rfl fun args res ob h hob => by
  split at h
  · injection h with h; injection h with h1 h2; subst h1; subst h2; exact fawake_tri
  · cases h

def numF : List CV → List SObj → Option (SV × List SObj × List Prop)
  | [.agg [.u64 a, .u64 b, .u64 c, .u64 d, .u64 e]], [] => some (.c (.one (.sl 0 0 1 16)), [.arr Nat natL (partsRow ⟨a, b, c, d, e⟩)], [])
  | _, _ => none
def numC : Con := conQ numF
theorem numC_ok : ConOk Try.prog 11 numC := conQ_ok Try.func11 rfl rfl fun args es v nw ob h hob => by
  unfold numF at h
  split at h
  · rename_i a b c d e heq
    obtain rfl : es = [] := List.map_eq_nil_iff.1 heq
    simp only [Option.some.injEq, Prod.mk.injEq] at h
    obtain ⟨rfl, rfl, rfl⟩ := h
    exact num_tri ⟨a, b, c, d, e⟩
  · cases h
theorem ref_add (a b : N5) : outW (rAdd (partsRow a) (partsRow b)) 16 = bytesF (fadd a b) :=
  bytes_eq ((parts_good a).1.add (parts_good b).1) (by rw [fw_add (parts_good a).1 (parts_good b).1, fw_parts, fw_parts, fv_add])
theorem ref_sub (a b : N5) : outW (rSub (partsRow a) (partsRow b)) 16 = bytesF (fsub a b) :=
  bytes_eq ((parts_good a).1.sub (parts_good b).1) (by rw [fw_sub (parts_good a).1 (parts_good b).1, fw_parts, fw_parts, fv_sub])
theorem ref_mul (a b : N5) : outW (rMul (partsRow a) (partsRow b)) 16 = bytesF (fmul a b) :=
  bytes_eq ((parts_good a).1.mul (parts_good b).1) (by rw [fw_mul (parts_good a).1 (parts_good b).1, fw_parts, fw_parts, fv_mul])
theorem u32_lt' (n : UInt32) : n.toUInt64.toNat < 4294967296 := by
  have := n.toNat_lt
  simp only [UInt32.toNat_toUInt64]; omega
theorem ref_scale (a : N5) (n : UInt32) : outW (rMul (partsRow a) (smallL n.toNat)) 16 = bytesF (fscale a n.toUInt64) := by
  have hn : n.toNat < 4294967296 := n.toNat_lt
  refine bytes_eq ((parts_good a).1.mul (small_good _ hn).1) ?_
  rw [fw_mul (parts_good a).1 (small_good _ hn).1, fw_parts, fw_small _ hn, fv_scale _ _ (u32_lt' n), UInt32.toNat_toUInt64]
theorem beq_of_eq2 {α : Type} [BEq α] [LawfulBEq α] {a b : α} (h : a = b) : (a == b) = true := by rw [h]; exact beq_self_eq_true b
def gx1 : Nat → Option Con := fun f => match f with
  | 12 => some fbytesC
  | 13 => some faddC
  | 16 => some fsubC
  | 18 => some fawakeC
  | 11 => some numC
  | 14 => some rbytesC
  | 15 => some raddC
  | 17 => some rsubC
  | _ => none
theorem gx1_ok : GaOk Try.prog gx1 := fun f con h => by
  unfold gx1 at h
  split at h
  · injection h with h; subst h; exact fbytesC_ok
  · injection h with h; subst h; exact faddC_ok
  · injection h with h; subst h; exact fsubC_ok
  · injection h with h; subst h; exact fawakeC_ok
  · injection h with h; subst h; exact numC_ok
  · injection h with h; subst h; exact rbytesC_ok
  · injection h with h; subst h; exact raddC_ok
  · injection h with h; subst h; exact rsubC_ok
  · cases h
set_option maxRecDepth 100000 in
theorem fesums_tri (a b : N5) : Tri Try.prog 3 [a.cv, b.cv] [] (.c (.one (.bo true))) [] := by
  have hA := (parts_good a).1
  have hB := (parts_good b).1
  have h1 := ref_add a b
  have h2 := ref_sub a b
  have g1 := (hA.add hB).w
  have g2 := (hA.sub hB).w
  obtain ⟨A, eA⟩ : ∃ A, partsRow a = A := ⟨_, rfl⟩
  obtain ⟨B, eB⟩ : ∃ B, partsRow b = B := ⟨_, rfl⟩
  rw [eA, eB] at h1 h2 g1 g2
  rw [eA] at hA
  rw [eB] at hB
  refine tri_ofx (envR_ok gx1_ok 34 []) Try.func3 rfl rfl (rs := [.tmp 4]) rfl rfl (by simp [envR]) rfl ?_
  simp only [N5.cv, N5.eta, conQ, numF, row1F, rbytesF, retQx, eA, eB, h1, h2, envR, con0, conN0, conN1, conN2, natsOf_arr, rowOf_arr, natsOf_cells, rowOf_cells, toN, natL_st, natL_d, natL_enc, natL_up, gx1, fbytesC, faddC, fsubC, fawakeC, numC, rbytesC, raddC, rsubC, go_sem, reduceCtorEq, ↓reduceIte, Nat.reduceAdd, Nat.reduceMul, Nat.reduceSub, Nat.reduceEqDiff, Nat.reduceLT, Nat.reduceBEq, Nat.reduceBNe, Nat.reduceLeDiff, Int.reduceLE, Int.reduceLT, Int.reduceToNat, Int.reduceEq, Int.reduceAdd, UInt8.reduceToNat, UInt32.reduceToNat, UInt64.reduceToNat, UInt8.reduceOfNat, UInt32.reduceOfNat, UInt64.reduceOfNat, Fin.isValue, Int.reduceSub, Int.reduceMul, Int.reduceNeg, Int.reduceMod, Int.reduceDiv, Int.reduceTDiv, Int.reduceTMod, Int.reduceBEq, Int.reduceBNe, Nat.reduceDiv, Nat.reducePow]
  repeat' apply And.intro
  all_goals first
    | with_reducible assumption
    | omega
    | rfl
    | skip
  refine endX [] ?_
  simp only [envR, con0, conN0, conN1, conN2, natsOf_arr, rowOf_arr, natsOf_cells, rowOf_cells, toN, natL_st, natL_d, natL_enc, natL_up, gx1, fbytesC, faddC, fsubC, fawakeC, numC, rbytesC, raddC, rsubC, go_sem, reduceCtorEq, ↓reduceIte, Nat.reduceAdd, Nat.reduceMul, Nat.reduceSub, Nat.reduceEqDiff, Nat.reduceLT, Nat.reduceBEq, Nat.reduceBNe, Nat.reduceLeDiff, Int.reduceLE, Int.reduceLT, Int.reduceToNat, Int.reduceEq, Int.reduceAdd, UInt8.reduceToNat, UInt32.reduceToNat, UInt64.reduceToNat, UInt8.reduceOfNat, UInt32.reduceOfNat, UInt64.reduceOfNat, Fin.isValue, Int.reduceSub, Int.reduceMul, Int.reduceNeg, Int.reduceMod, Int.reduceDiv, Int.reduceTDiv, Int.reduceTMod, Int.reduceBEq, Int.reduceBNe, Nat.reduceDiv, Nat.reducePow]
def gx2 : Nat → Option Con := fun f => match f with
  | 12 => some fbytesC
  | 19 => some fmulC
  | 21 => some fscaleC
  | 18 => some fawakeC
  | 11 => some numC
  | 14 => some rbytesC
  | 20 => some rmulC
  | 22 => some rsmallC
  | _ => none
theorem gx2_ok : GaOk Try.prog gx2 := fun f con h => by
  unfold gx2 at h
  split at h
  · injection h with h; subst h; exact fbytesC_ok
  · injection h with h; subst h; exact fmulC_ok
  · injection h with h; subst h; exact fscaleC_ok
  · injection h with h; subst h; exact fawakeC_ok
  · injection h with h; subst h; exact numC_ok
  · injection h with h; subst h; exact rbytesC_ok
  · injection h with h; subst h; exact rmulC_ok
  · injection h with h; subst h; exact rsmallC_ok
  · cases h
set_option maxRecDepth 100000 in
theorem feprods_tri (a b : N5) (n : UInt32) : Tri Try.prog 4 [a.cv, b.cv, .one (.u32 n)] [] (.c (.one (.bo true))) [] := by
  have hA := (parts_good a).1
  have hB := (parts_good b).1
  have hn : n.toNat < 4294967296 := n.toNat_lt
  have hS := (small_good _ hn).1
  have h1 := ref_mul a b
  have h2 := ref_scale a n
  have g1 := (hA.mul hB).w
  have g2 := (hA.mul hS).w
  obtain ⟨A, eA⟩ : ∃ A, partsRow a = A := ⟨_, rfl⟩
  obtain ⟨B, eB⟩ : ∃ B, partsRow b = B := ⟨_, rfl⟩
  rw [eA, eB] at h1 g1
  rw [eA] at hA h2 g2
  rw [eB] at hB
  have w1 : IntKind.i64.wrap ((n.toNat : Nat) : Int) = ((n.toNat : Nat) : Int) := by rw [IntKind.wrap_i64]; omega
  refine tri_ofx (envR_ok gx2_ok 38 []) Try.func4 rfl rfl (rs := [.tmp 6]) rfl rfl (by simp [envR]) rfl ?_
  simp only [N5.cv, N5.eta, conQ, numF, row2F, rsmallF, rbytesF, retQx, eA, eB, h1, h2, w1, envR, con0, conN0, conN1, conN2, natsOf_arr, rowOf_arr, natsOf_cells, rowOf_cells, toN, natL_st, natL_d, natL_enc, natL_up, gx2, fbytesC, fmulC, fscaleC, fawakeC, numC, rbytesC, rmulC, rsmallC, go_sem, reduceCtorEq, ↓reduceIte, Nat.reduceAdd, Nat.reduceMul, Nat.reduceSub, Nat.reduceEqDiff, Nat.reduceLT, Nat.reduceBEq, Nat.reduceBNe, Nat.reduceLeDiff, Int.reduceLE, Int.reduceLT, Int.reduceToNat, Int.reduceEq, Int.reduceAdd, UInt8.reduceToNat, UInt32.reduceToNat, UInt64.reduceToNat, UInt8.reduceOfNat, UInt32.reduceOfNat, UInt64.reduceOfNat, Fin.isValue, Int.reduceSub, Int.reduceMul, Int.reduceNeg, Int.reduceMod, Int.reduceDiv, Int.reduceTDiv, Int.reduceTMod, Int.reduceBEq, Int.reduceBNe, Nat.reduceDiv, Nat.reducePow]
  repeat' apply And.intro
  all_goals first
    | with_reducible assumption
    | omega
    | rfl
    | skip
  refine endX [] ?_
  simp only [envR, con0, conN0, conN1, conN2, natsOf_arr, rowOf_arr, natsOf_cells, rowOf_cells, toN, natL_st, natL_d, natL_enc, natL_up, gx2, fbytesC, fmulC, fscaleC, fawakeC, numC, rbytesC, rmulC, rsmallC, go_sem, reduceCtorEq, ↓reduceIte, Nat.reduceAdd, Nat.reduceMul, Nat.reduceSub, Nat.reduceEqDiff, Nat.reduceLT, Nat.reduceBEq, Nat.reduceBNe, Nat.reduceLeDiff, Int.reduceLE, Int.reduceLT, Int.reduceToNat, Int.reduceEq, Int.reduceAdd, UInt8.reduceToNat, UInt32.reduceToNat, UInt64.reduceToNat, UInt8.reduceOfNat, UInt32.reduceOfNat, UInt64.reduceOfNat, Fin.isValue, Int.reduceSub, Int.reduceMul, Int.reduceNeg, Int.reduceMod, Int.reduceDiv, Int.reduceTDiv, Int.reduceTMod, Int.reduceBEq, Int.reduceBNe, Nat.reduceDiv, Nat.reducePow]
theorem fesums_law (a b : N5) (w : World) :
    Calls Try.prog 3 #[a.val, b.val] w fun e w' => e = .returned (.bool true) ∧ Below w.heap.size w w' := by
  refine (tri_calls (fesums_tri a b) w (vals := [a.val, b.val]) ⟨N5.rel _ a, N5.rel _ b, trivial⟩).mono ?_
  rintro e w' ⟨u, r', rfl, hr, hb⟩
  exact ⟨by rw [show u = .bool true from hr], hb⟩
theorem feprods_law (a b : N5) (n : Int) (wn : (Lit.int .u32 n).wf = true) (w : World) :
    Calls Try.prog 4 #[a.val, b.val, .int .u32 n] w fun e w' => e = .returned (.bool true) ∧ Below w.heap.size w w' := by
  obtain ⟨n, rfl⟩ : ∃ x : UInt32, n = (x.toNat : Int) := by
    have h' : 0 ≤ n ∧ n ≤ 4294967295 := by simpa [Lit.wf, IntKind.min, IntKind.max, IntKind.signed, IntKind.bits] using wn
    exact ⟨UInt32.ofNat n.toNat, by rw [UInt32.toNat_ofNat_of_lt' (by show n.toNat < 4294967296; omega)]; omega⟩
  refine (tri_calls (feprods_tri a b n) w (vals := [a.val, b.val, .int .u32 (n.toNat : Int)]) ⟨N5.rel _ a, N5.rel _ b, rfl, trivial⟩).mono ?_
  rintro e w' ⟨u, r', rfl, hr, hb⟩
  exact ⟨by rw [show u = .bool true from hr], hb⟩
end Go.Proofs.Ytdkmkifebhggeaa
