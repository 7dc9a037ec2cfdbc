/-
  Layer 7: the document's box.
-/
import Derived.Test.YthgemadhhkocgaaSz
import Derived.Test.YthgemadhhkocgaaDg
import Derived.Test.YthgemadhhkocgaaAb
import Derived.Test.YthgemadhhkocgaaCk
namespace Go.Proofs.Ythgemadhhkocgaa
open Go Go.RowKit
set_option maxHeartbeats 4000000
set_option linter.unusedSimpArgs false
set_option linter.unusedVariables false
theorem sizeByte (n : Nat) (hn : n ≤ 65536) (k : Nat) (hk : k < 64) (m : Nat) (hm : m = n / 2 ^ k) : by8 ((m % 256 : Nat) : Int) = (shr64 (by64 (n : Int)) k).toUInt8 := by
  apply UInt8.toNat_inj.1
  have hb : (by64 (n : Int)).toNat = n := by
    unfold by64
    rw [UInt64.toNat_ofNat_of_lt' (by show _ < 18446744073709551616; omega)]; omega
  rw [UInt64.toNat_toUInt8, shr64n hk, hb, ← hm]
  unfold by8
  simp only [UInt8.toNat_ofNat']
  omega
set_option maxRecDepth 100000 in
theorem refSize_tri (s : List UInt8) (hs : s.length ≤ 65536) : Tri Try.prog 59 [.one (.str s)] [] (.c (.one (.str (lenB s.length)))) [] := by
  refine tri_of (envOf_ok ga0_ok 22) Try.func59 rfl rfl (rs := [.tmp 2]) rfl rfl (by simp [envOf]) rfl [] ?_
  have m0 : (((s.length : Nat) : Int)).tmod 256 = ((s.length % 256 : Nat) : Int) := by rw [show (256 : Int) = ((256 : Nat) : Int) from rfl, ← Int.ofNat_tmod]
  have d0 : IntKind.i64.wrap (((s.length : Nat) : Int).tdiv 256) = (((s.length / 256) : Nat) : Int) := by
    rw [show (256 : Int) = ((256 : Nat) : Int) from rfl, ← Int.ofNat_tdiv, IntKind.wrap_i64]; omega
  have b0 := sizeByte s.length hs 0 (by decide) s.length (by simp only [Nat.reducePow] <;> omega)
  have m1 : ((((s.length / 256) : Nat) : Int)).tmod 256 = (((s.length / 256) % 256 : Nat) : Int) := by rw [show (256 : Int) = ((256 : Nat) : Int) from rfl, ← Int.ofNat_tmod]
  have d1 : IntKind.i64.wrap ((((s.length / 256) : Nat) : Int).tdiv 256) = ((((s.length / 256) / 256) : Nat) : Int) := by
    rw [show (256 : Int) = ((256 : Nat) : Int) from rfl, ← Int.ofNat_tdiv, IntKind.wrap_i64]; omega
  have b1 := sizeByte s.length hs 8 (by decide) (s.length / 256) (by simp only [Nat.reducePow] <;> omega)
  have m2 : (((((s.length / 256) / 256) : Nat) : Int)).tmod 256 = ((((s.length / 256) / 256) % 256 : Nat) : Int) := by rw [show (256 : Int) = ((256 : Nat) : Int) from rfl, ← Int.ofNat_tmod]
  have d2 : IntKind.i64.wrap (((((s.length / 256) / 256) : Nat) : Int).tdiv 256) = (((((s.length / 256) / 256) / 256) : Nat) : Int) := by
    rw [show (256 : Int) = ((256 : Nat) : Int) from rfl, ← Int.ofNat_tdiv, IntKind.wrap_i64]; omega
  have b2 := sizeByte s.length hs 16 (by decide) ((s.length / 256) / 256) (by simp only [Nat.reducePow] <;> omega)
  have m3 : ((((((s.length / 256) / 256) / 256) : Nat) : Int)).tmod 256 = (((((s.length / 256) / 256) / 256) % 256 : Nat) : Int) := by rw [show (256 : Int) = ((256 : Nat) : Int) from rfl, ← Int.ofNat_tmod]
  have d3 : IntKind.i64.wrap ((((((s.length / 256) / 256) / 256) : Nat) : Int).tdiv 256) = ((((((s.length / 256) / 256) / 256) / 256) : Nat) : Int) := by
    rw [show (256 : Int) = ((256 : Nat) : Int) from rfl, ← Int.ofNat_tdiv, IntKind.wrap_i64]; omega
  have b3 := sizeByte s.length hs 24 (by decide) (((s.length / 256) / 256) / 256) (by simp only [Nat.reducePow] <;> omega)
  have m4 : (((((((s.length / 256) / 256) / 256) / 256) : Nat) : Int)).tmod 256 = ((((((s.length / 256) / 256) / 256) / 256) % 256 : Nat) : Int) := by rw [show (256 : Int) = ((256 : Nat) : Int) from rfl, ← Int.ofNat_tmod]
  have d4 : IntKind.i64.wrap (((((((s.length / 256) / 256) / 256) / 256) : Nat) : Int).tdiv 256) = (((((((s.length / 256) / 256) / 256) / 256) / 256) : Nat) : Int) := by
    rw [show (256 : Int) = ((256 : Nat) : Int) from rfl, ← Int.ofNat_tdiv, IntKind.wrap_i64]; omega
  have b4 := sizeByte s.length hs 32 (by decide) ((((s.length / 256) / 256) / 256) / 256) (by simp only [Nat.reducePow] <;> omega)
  have m5 : ((((((((s.length / 256) / 256) / 256) / 256) / 256) : Nat) : Int)).tmod 256 = (((((((s.length / 256) / 256) / 256) / 256) / 256) % 256 : Nat) : Int) := by rw [show (256 : Int) = ((256 : Nat) : Int) from rfl, ← Int.ofNat_tmod]
  have d5 : IntKind.i64.wrap ((((((((s.length / 256) / 256) / 256) / 256) / 256) : Nat) : Int).tdiv 256) = ((((((((s.length / 256) / 256) / 256) / 256) / 256) / 256) : Nat) : Int) := by
    rw [show (256 : Int) = ((256 : Nat) : Int) from rfl, ← Int.ofNat_tdiv, IntKind.wrap_i64]; omega
  have b5 := sizeByte s.length hs 40 (by decide) (((((s.length / 256) / 256) / 256) / 256) / 256) (by simp only [Nat.reducePow] <;> omega)
  have m6 : (((((((((s.length / 256) / 256) / 256) / 256) / 256) / 256) : Nat) : Int)).tmod 256 = ((((((((s.length / 256) / 256) / 256) / 256) / 256) / 256) % 256 : Nat) : Int) := by rw [show (256 : Int) = ((256 : Nat) : Int) from rfl, ← Int.ofNat_tmod]
  have d6 : IntKind.i64.wrap (((((((((s.length / 256) / 256) / 256) / 256) / 256) / 256) : Nat) : Int).tdiv 256) = (((((((((s.length / 256) / 256) / 256) / 256) / 256) / 256) / 256) : Nat) : Int) := by
    rw [show (256 : Int) = ((256 : Nat) : Int) from rfl, ← Int.ofNat_tdiv, IntKind.wrap_i64]; omega
  have b6 := sizeByte s.length hs 48 (by decide) ((((((s.length / 256) / 256) / 256) / 256) / 256) / 256) (by simp only [Nat.reducePow] <;> omega)
  have m7 : ((((((((((s.length / 256) / 256) / 256) / 256) / 256) / 256) / 256) : Nat) : Int)).tmod 256 = (((((((((s.length / 256) / 256) / 256) / 256) / 256) / 256) / 256) % 256 : Nat) : Int) := by rw [show (256 : Int) = ((256 : Nat) : Int) from rfl, ← Int.ofNat_tmod]
  have d7 : IntKind.i64.wrap ((((((((((s.length / 256) / 256) / 256) / 256) / 256) / 256) / 256) : Nat) : Int).tdiv 256) = ((((((((((s.length / 256) / 256) / 256) / 256) / 256) / 256) / 256) / 256) : Nat) : Int) := by
    rw [show (256 : Int) = ((256 : Nat) : Int) from rfl, ← Int.ofNat_tdiv, IntKind.wrap_i64]; omega
  have b7 := sizeByte s.length hs 56 (by decide) (((((((s.length / 256) / 256) / 256) / 256) / 256) / 256) / 256) (by simp only [Nat.reducePow] <;> omega)
  simp only [envOf, ga0, go_sem, reduceCtorEq, ↓reduceIte, Nat.reduceAdd, Nat.reduceMul, Nat.reduceSub, Nat.reduceEqDiff, Nat.reduceLT, Nat.reduceBEq, Nat.reduceBNe, Nat.reduceLeDiff, Int.reduceLE, Int.reduceLT, Int.reduceToNat, Int.reduceEq, Int.reduceAdd, UInt8.reduceToNat, UInt32.reduceToNat, UInt64.reduceToNat, UInt8.reduceOfNat, UInt32.reduceOfNat, UInt64.reduceOfNat, Fin.isValue, Int.reduceSub, Int.reduceMul, Int.reduceNeg, Int.reduceMod, Int.reduceDiv, Int.reduceTDiv, Int.reduceTMod, Int.reduceBEq, Int.reduceBNe, Nat.reduceDiv, Nat.reducePow]
  refine loop_rounds (envOf_ok ga0_ok 22) 9 ?_
  simp only [envOf, ga0, m0, d0, b0, m1, d1, b1, m2, d2, b2, m3, d3, b3, m4, d4, b4, m5, d5, b5, m6, d6, b6, m7, d7, b7, lenB, go_sem, reduceCtorEq, ↓reduceIte, Nat.reduceAdd, Nat.reduceMul, Nat.reduceSub, Nat.reduceEqDiff, Nat.reduceLT, Nat.reduceBEq, Nat.reduceBNe, Nat.reduceLeDiff, Int.reduceLE, Int.reduceLT, Int.reduceToNat, Int.reduceEq, Int.reduceAdd, UInt8.reduceToNat, UInt32.reduceToNat, UInt64.reduceToNat, UInt8.reduceOfNat, UInt32.reduceOfNat, UInt64.reduceOfNat, Fin.isValue, Int.reduceSub, Int.reduceMul, Int.reduceNeg, Int.reduceMod, Int.reduceDiv, Int.reduceTDiv, Int.reduceTMod, Int.reduceBEq, Int.reduceBNe, Nat.reduceDiv, Nat.reducePow]
  all_goals trace_state
def fillInv (s : List UInt8) (q : Nat) : St := ⟨[(3, .c (.one (.sl 500 0 1 (s.length + q))))], [(500, ⟨.arr UInt8 u8L (s ++ List.replicate q 0), true⟩)]⟩
set_option maxRecDepth 100000 in
theorem refFill_tri (s : List UInt8) (hs : s.length ≤ 65536) : Tri Try.prog 58 [.one (.str s)] [] (.c (.one (.str (fillL s)))) [] := by
  refine tri_of (envOf_ok ga0_ok 15) Try.func58 rfl rfl (rs := [.tmp 2]) rfl rfl (by simp [envOf]) rfl [] ?_
  simp only [envOf, ga0, go_sem, reduceCtorEq, ↓reduceIte, Nat.reduceAdd, Nat.reduceMul, Nat.reduceSub, Nat.reduceEqDiff, Nat.reduceLT, Nat.reduceBEq, Nat.reduceBNe, Nat.reduceLeDiff, Int.reduceLE, Int.reduceLT, Int.reduceToNat, Int.reduceEq, Int.reduceAdd, UInt8.reduceToNat, UInt32.reduceToNat, UInt64.reduceToNat, UInt8.reduceOfNat, UInt32.reduceOfNat, UInt64.reduceOfNat, Fin.isValue, Int.reduceSub, Int.reduceMul, Int.reduceNeg, Int.reduceMod, Int.reduceDiv, Int.reduceTDiv, Int.reduceTMod, Int.reduceBEq, Int.reduceBNe, Nat.reduceDiv, Nat.reducePow]
  refine loop_inv (envOf_ok ga0_ok 15) (fillInv s) (fun q => q ≤ (16 - s.length % 16) % 16) (fun q => 16 - q) 0 [(500, 20008)] (Nat.zero_le _) ?_ ?_
  · simp only [fillInv, go_sem, reduceCtorEq, ↓reduceIte, Nat.reduceAdd, Nat.reduceMul, Nat.reduceSub, Nat.reduceEqDiff, Nat.reduceLT, Nat.reduceBEq, Nat.reduceBNe, Nat.reduceLeDiff, Int.reduceLE, Int.reduceLT, Int.reduceToNat, Int.reduceEq, Int.reduceAdd, UInt8.reduceToNat, UInt32.reduceToNat, UInt64.reduceToNat, UInt8.reduceOfNat, UInt32.reduceOfNat, UInt64.reduceOfNat, Fin.isValue, Int.reduceSub, Int.reduceMul, Int.reduceNeg, Int.reduceMod, Int.reduceDiv, Int.reduceTDiv, Int.reduceTMod, Int.reduceBEq, Int.reduceBNe, Nat.reduceDiv, Nat.reducePow]
  · intro q hq
    have m1 : (((s.length + q : Nat) : Int)).tmod 16 = (((s.length + q) % 16 : Nat) : Int) := by rw [show (16 : Int) = ((16 : Nat) : Int) from rfl, ← Int.ofNat_tmod]
    have hl : (s ++ List.replicate q (0 : UInt8)).length = s.length + q := by simp
    have hr : s ++ List.replicate (q + 1) (0 : UInt8) = s ++ List.replicate q 0 ++ [0] := by rw [List.replicate_succ', List.append_assoc]
    simp only [fillInv, envOf, ga0, m1, go_sem, reduceCtorEq, ↓reduceIte, Nat.reduceAdd, Nat.reduceMul, Nat.reduceSub, Nat.reduceEqDiff, Nat.reduceLT, Nat.reduceBEq, Nat.reduceBNe, Nat.reduceLeDiff, Int.reduceLE, Int.reduceLT, Int.reduceToNat, Int.reduceEq, Int.reduceAdd, UInt8.reduceToNat, UInt32.reduceToNat, UInt64.reduceToNat, UInt8.reduceOfNat, UInt32.reduceOfNat, UInt64.reduceOfNat, Fin.isValue, Int.reduceSub, Int.reduceMul, Int.reduceNeg, Int.reduceMod, Int.reduceDiv, Int.reduceTDiv, Int.reduceTMod, Int.reduceBEq, Int.reduceBNe, Nat.reduceDiv, Nat.reducePow]
    refine br (fun h => ?_) fun h => ?_
    · have g := of_decide_eq_true h
      simp only [h, envOf, ga0, go_sem, reduceCtorEq, ↓reduceIte, Nat.reduceAdd, Nat.reduceMul, Nat.reduceSub, Nat.reduceEqDiff, Nat.reduceLT, Nat.reduceBEq, Nat.reduceBNe, Nat.reduceLeDiff, Int.reduceLE, Int.reduceLT, Int.reduceToNat, Int.reduceEq, Int.reduceAdd, UInt8.reduceToNat, UInt32.reduceToNat, UInt64.reduceToNat, UInt8.reduceOfNat, UInt32.reduceOfNat, UInt64.reduceOfNat, Fin.isValue, Int.reduceSub, Int.reduceMul, Int.reduceNeg, Int.reduceMod, Int.reduceDiv, Int.reduceTDiv, Int.reduceTMod, Int.reduceBEq, Int.reduceBNe, Nat.reduceDiv, Nat.reducePow]
      have hidx : s.length + (q + 1) = s.length + q + 1 := rfl
      refine ⟨⟨hl, by omega, by omega⟩, again (q + 1) [(500, 40016)] (by omega) (by omega) ?_⟩
      simp only [fillInv, hr, hidx, go_sem, reduceCtorEq, ↓reduceIte, Nat.reduceAdd, Nat.reduceMul, Nat.reduceSub, Nat.reduceEqDiff, Nat.reduceLT, Nat.reduceBEq, Nat.reduceBNe, Nat.reduceLeDiff, Int.reduceLE, Int.reduceLT, Int.reduceToNat, Int.reduceEq, Int.reduceAdd, UInt8.reduceToNat, UInt32.reduceToNat, UInt64.reduceToNat, UInt8.reduceOfNat, UInt32.reduceOfNat, UInt64.reduceOfNat, Fin.isValue, Int.reduceSub, Int.reduceMul, Int.reduceNeg, Int.reduceMod, Int.reduceDiv, Int.reduceTDiv, Int.reduceTMod, Int.reduceBEq, Int.reduceBNe, Nat.reduceDiv, Nat.reducePow]
    · have g := of_decide_eq_false h
      have hq' : q = (16 - s.length % 16) % 16 := by omega
      have ht : (s ++ List.replicate q (0 : UInt8)).take (s.length + q) = fillL s := by
        rw [List.take_of_length_le (by rw [hl]; exact Nat.le_refl _), fillL, ← hq']
      simp only [h, envOf, ga0, ht, hl, go_sem, reduceCtorEq, ↓reduceIte, Nat.reduceAdd, Nat.reduceMul, Nat.reduceSub, Nat.reduceEqDiff, Nat.reduceLT, Nat.reduceBEq, Nat.reduceBNe, Nat.reduceLeDiff, Int.reduceLE, Int.reduceLT, Int.reduceToNat, Int.reduceEq, Int.reduceAdd, UInt8.reduceToNat, UInt32.reduceToNat, UInt64.reduceToNat, UInt8.reduceOfNat, UInt32.reduceOfNat, UInt64.reduceOfNat, Fin.isValue, Int.reduceSub, Int.reduceMul, Int.reduceNeg, Int.reduceMod, Int.reduceDiv, Int.reduceTDiv, Int.reduceTMod, Int.reduceBEq, Int.reduceBNe, Nat.reduceDiv, Nat.reducePow]
      all_goals trace_state
def refSizeC : Con := con0 fun args => match args with
  | [.one (.str s)] => some (.c (.one (.str (lenB s.length))), [s.length ≤ 65536])
  | _ => none
theorem refSizeC_ok : ConOk Try.prog 59 refSizeC := con0_ok Try.func59 rfl rfl fun args res ob h hob => by
  split at h
  · injection h with h; injection h with h1 h2; subst h1; subst h2; exact refSize_tri _ hob.1
  · cases h
def refFillC : Con := con0 fun args => match args with
  | [.one (.str s)] => some (.c (.one (.str (fillL s))), [s.length ≤ 65536])
  | _ => none
theorem refFillC_ok : ConOk Try.prog 58 refFillC := con0_ok Try.func58 rfl rfl fun args res ob h hob => by
  split at h
  · injection h with h; injection h with h1 h2; subst h1; subst h2; exact refFill_tri _ hob.1
  · cases h
def gr1 : Nat → Option Con := fun f => match f with
  | 22 => some blockRefC
  | 27 => some refTagC
  | 58 => some refFillC
  | 59 => some refSizeC
  | _ => none
theorem gr1_ok : GaOk Try.prog gr1 := fun f con h => by
  unfold gr1 at h
  split at h
  · injection h with h; subst h; exact blockRefC_ok
  · injection h with h; subst h; exact refTagC_ok
  · injection h with h; subst h; exact refFillC_ok
  · injection h with h; subst h; exact refSizeC_ok
  · cases h
set_option maxRecDepth 100000 in
theorem refTagA_tri (k n w t : List UInt8) (hk : k.length = 32) (hn : n.length = 12) (hw : w.length ≤ 600) (ht : t.length ≤ 600) : Tri Try.prog 50 [.one (.str k), .one (.str n), .one (.str w), .one (.str t)] [] (.c (.one (.str (tagA k n w t)))) [] := by
  refine tri_of (envOf_ok gr1_ok 25) Try.func50 rfl rfl (rs := [.tmp 8]) rfl rfl (by simp [envOf]) rfl [] ?_
  have h2 := blkLen k n 0
  have h3 : ((blockL k n 0).take 32).length = 32 := by rw [List.length_take, h2]; rfl
  have f1 := fillL_le w
  have f2 := fillL_le t
  simp only [envOf, gr1, blockRefC, refTagC, refFillC, refSizeC, hk, hn, h2, h3, tagA, go_sem, reduceCtorEq, ↓reduceIte, Nat.reduceAdd, Nat.reduceMul, Nat.reduceSub, Nat.reduceEqDiff, Nat.reduceLT, Nat.reduceBEq, Nat.reduceBNe, Nat.reduceLeDiff, Int.reduceLE, Int.reduceLT, Int.reduceToNat, Int.reduceEq, Int.reduceAdd, UInt8.reduceToNat, UInt32.reduceToNat, UInt64.reduceToNat, UInt8.reduceOfNat, UInt32.reduceOfNat, UInt64.reduceOfNat, Fin.isValue, Int.reduceSub, Int.reduceMul, Int.reduceNeg, Int.reduceMod, Int.reduceDiv, Int.reduceTDiv, Int.reduceTMod, Int.reduceBEq, Int.reduceBNe, Nat.reduceDiv, Nat.reducePow]
  simp only [List.length_append, lenB_len]
  repeat' apply And.intro
  all_goals first
    | omega
    | rfl
def refTagAC : Con := con0 fun args => match args with
  | [.one (.str k), .one (.str n), .one (.str w), .one (.str t)] => some (.c (.one (.str (tagA k n w t))), [k.length = 32, n.length = 12, w.length ≤ 600, t.length ≤ 600])
  | _ => none
theorem refTagAC_ok : ConOk Try.prog 50 refTagAC := con0_ok Try.func50 rfl rfl fun args res ob h hob => by
  split at h
  · injection h with h; injection h with h1 h2; subst h1; subst h2; exact refTagA_tri _ _ _ _ hob.1 hob.2.1 hob.2.2.1 hob.2.2.2.1
  · cases h
def gr2 : Nat → Option Con := fun f => match f with
  | 24 => some turnRefC
  | 50 => some refTagAC
  | _ => none
theorem gr2_ok : GaOk Try.prog gr2 := fun f con h => by
  unfold gr2 at h
  split at h
  · injection h with h; subst h; exact turnRefC_ok
  · injection h with h; subst h; exact refTagAC_ok
  · cases h
set_option maxRecDepth 100000 in
theorem refSeal_tri (k n w s : List UInt8) (hk : k.length = 32) (hn : n.length = 12) (hw : w.length ≤ 600) (ht : s.length ≤ 600) : Tri Try.prog 30 [.one (.str k), .one (.str n), .one (.str w), .one (.str s)] [] (.c (.one (.str (sealL k n w s)))) [] := by
  refine tri_of (envOf_ok gr2_ok 21) Try.func30 rfl rfl (rs := [.tmp 8]) rfl rfl (by simp [envOf]) rfl [] ?_
  simp only [envOf, gr2, turnRefC, refTagAC, hk, hn, sealL, turnL_len, tagA_len, go_sem, reduceCtorEq, ↓reduceIte, Nat.reduceAdd, Nat.reduceMul, Nat.reduceSub, Nat.reduceEqDiff, Nat.reduceLT, Nat.reduceBEq, Nat.reduceBNe, Nat.reduceLeDiff, Int.reduceLE, Int.reduceLT, Int.reduceToNat, Int.reduceEq, Int.reduceAdd, UInt8.reduceToNat, UInt32.reduceToNat, UInt64.reduceToNat, UInt8.reduceOfNat, UInt32.reduceOfNat, UInt64.reduceOfNat, Fin.isValue, Int.reduceSub, Int.reduceMul, Int.reduceNeg, Int.reduceMod, Int.reduceDiv, Int.reduceTDiv, Int.reduceTMod, Int.reduceBEq, Int.reduceBNe, Nat.reduceDiv, Nat.reducePow]
  repeat' apply And.intro
  all_goals first
    | omega
    | rfl
def refOpenB (k n w box : List UInt8) : Bool := decide (16 ≤ box.length) && openB k n w box
set_option maxRecDepth 100000 in
theorem refOpen_tri (k n w box : List UInt8) (hk : k.length = 32) (hn : n.length = 12) (hw : w.length ≤ 600) (ht : box.length ≤ 600) : Tri Try.prog 32 [.one (.str k), .one (.str n), .one (.str w), .one (.str box)] [] (.tup [.one (.str (if refOpenB k n w box = true then turnL k n 1 (box.take (box.length - 16)) else [])), .one (.bo (refOpenB k n w box))]) [] := by
  refine tri_of (envOf_ok gr2_ok 35) Try.func32 rfl rfl (rs := [.tmp 8, .tmp 9]) rfl rfl (by simp [envOf]) rfl [] ?_
  by_cases h16 : 16 ≤ box.length
  · have w1 : IntKind.i64.wrap ((box.length : Int) - 16) = ((box.length - 16 : Nat) : Int) := by rw [IntKind.wrap_i64]; omega
    have c1 : decide (((box.length - 16 : Nat) : Int) < 0) = false := decide_eq_false (by omega)
    have htk : (box.take (box.length - 16)).length ≤ 600 := by rw [List.length_take]; omega
    have hc : (tagA k n w (box.take (box.length - 16)) == box.drop (box.length - 16)) = openB k n w box := by
      unfold openB; rw [Bool.eq_iff_iff, beq_iff_eq, beq_iff_eq]; exact eq_comm
    cases ho : openB k n w box with
    | false =>
      have hB : refOpenB k n w box = false := by unfold refOpenB; rw [ho, Bool.and_false]
      rw [ho] at hc
      simp only [envOf, gr2, turnRefC, refTagAC, hk, hn, w1, c1, hc, hB, go_sem, reduceCtorEq, ↓reduceIte, Nat.reduceAdd, Nat.reduceMul, Nat.reduceSub, Nat.reduceEqDiff, Nat.reduceLT, Nat.reduceBEq, Nat.reduceBNe, Nat.reduceLeDiff, Int.reduceLE, Int.reduceLT, Int.reduceToNat, Int.reduceEq, Int.reduceAdd, UInt8.reduceToNat, UInt32.reduceToNat, UInt64.reduceToNat, UInt8.reduceOfNat, UInt32.reduceOfNat, UInt64.reduceOfNat, Fin.isValue, Int.reduceSub, Int.reduceMul, Int.reduceNeg, Int.reduceMod, Int.reduceDiv, Int.reduceTDiv, Int.reduceTMod, Int.reduceBEq, Int.reduceBNe, Nat.reduceDiv, Nat.reducePow]
      repeat' apply And.intro
      all_goals first
        | omega
        | rfl
    | true =>
      have hB : refOpenB k n w box = true := by unfold refOpenB; rw [ho, Bool.and_true]; exact decide_eq_true h16
      rw [ho] at hc
      simp only [envOf, gr2, turnRefC, refTagAC, hk, hn, w1, c1, hc, hB, go_sem, reduceCtorEq, ↓reduceIte, Nat.reduceAdd, Nat.reduceMul, Nat.reduceSub, Nat.reduceEqDiff, Nat.reduceLT, Nat.reduceBEq, Nat.reduceBNe, Nat.reduceLeDiff, Int.reduceLE, Int.reduceLT, Int.reduceToNat, Int.reduceEq, Int.reduceAdd, UInt8.reduceToNat, UInt32.reduceToNat, UInt64.reduceToNat, UInt8.reduceOfNat, UInt32.reduceOfNat, UInt64.reduceOfNat, Fin.isValue, Int.reduceSub, Int.reduceMul, Int.reduceNeg, Int.reduceMod, Int.reduceDiv, Int.reduceTDiv, Int.reduceTMod, Int.reduceBEq, Int.reduceBNe, Nat.reduceDiv, Nat.reducePow]
      repeat' apply And.intro
      all_goals first
        | omega
        | rfl
  · have w1 : IntKind.i64.wrap ((box.length : Int) - 16) = (box.length : Int) - 16 := by rw [IntKind.wrap_i64]; omega
    have c1 : decide ((box.length : Int) - 16 < 0) = true := decide_eq_true (by omega)
    have hB : refOpenB k n w box = false := by unfold refOpenB; rw [decide_eq_false h16, Bool.false_and]
    simp only [envOf, gr2, turnRefC, refTagAC, hk, hn, w1, c1, hB, go_sem, reduceCtorEq, ↓reduceIte, Nat.reduceAdd, Nat.reduceMul, Nat.reduceSub, Nat.reduceEqDiff, Nat.reduceLT, Nat.reduceBEq, Nat.reduceBNe, Nat.reduceLeDiff, Int.reduceLE, Int.reduceLT, Int.reduceToNat, Int.reduceEq, Int.reduceAdd, UInt8.reduceToNat, UInt32.reduceToNat, UInt64.reduceToNat, UInt8.reduceOfNat, UInt32.reduceOfNat, UInt64.reduceOfNat, Fin.isValue, Int.reduceSub, Int.reduceMul, Int.reduceNeg, Int.reduceMod, Int.reduceDiv, Int.reduceTDiv, Int.reduceTMod, Int.reduceBEq, Int.reduceBNe, Nat.reduceDiv, Nat.reducePow]
    rfl
def refSealC : Con := con0 fun args => match args with
  | [.one (.str k), .one (.str n), .one (.str w), .one (.str s)] => some (.c (.one (.str (sealL k n w s))), [k.length = 32, n.length = 12, w.length ≤ 600, s.length ≤ 600])
  | _ => none
theorem refSealC_ok : ConOk Try.prog 30 refSealC := con0_ok Try.func30 rfl rfl fun args res ob h hob => by
  split at h
  · injection h with h; injection h with h1 h2; subst h1; subst h2; exact refSeal_tri _ _ _ _ hob.1 hob.2.1 hob.2.2.1 hob.2.2.2.1
  · cases h
def refOpenC : Con := con0 fun args => match args with
  | [.one (.str k), .one (.str n), .one (.str w), .one (.str box)] => some (.tup [.one (.str (if refOpenB k n w box = true then turnL k n 1 (box.take (box.length - 16)) else [])), .one (.bo (refOpenB k n w box))], [k.length = 32, n.length = 12, w.length ≤ 600, box.length ≤ 600])
  | _ => none
theorem refOpenC_ok : ConOk Try.prog 32 refOpenC := con0_ok Try.func32 rfl rfl fun args res ob h hob => by
  split at h
  · injection h with h; injection h with h1 h2; subst h1; subst h2; exact refOpen_tri _ _ _ _ hob.1 hob.2.1 hob.2.2.1 hob.2.2.2.1
  · cases h
def gr3 : Nat → Option Con := fun f => match f with
  | 29 => some sealC
  | 31 => some openC
  | 30 => some refSealC
  | 32 => some refOpenC
  | 28 => some aawakeC
  | _ => none
theorem gr3_ok : GaOk Try.prog gr3 := fun f con h => by
  unfold gr3 at h
  split at h
  · injection h with h; subst h; exact sealC_ok
  · injection h with h; subst h; exact openC_ok
  · injection h with h; subst h; exact refSealC_ok
  · injection h with h; subst h; exact refOpenC_ok
  · injection h with h; subst h; exact aawakeC_ok
  · cases h
set_option maxRecDepth 100000 in
theorem aseals_tri (k n w s : List UInt8) : Tri Try.prog 13 [.one (.str k), .one (.str n), .one (.str w), .one (.str s)] [] (.c (.one (.bo true))) [] := by
  refine tri_of (envOf_ok gr3_ok 69) Try.func13 rfl rfl (rs := [.tmp 8]) rfl rfl (by simp [envOf]) rfl [] ?_
  cases c1 : decide ((100 : Int) < k.length) with
  | true => simp only [envOf, gr3, sealC, openC, refSealC, refOpenC, aawakeC, c1, go_sem, reduceCtorEq, ↓reduceIte, Nat.reduceAdd, Nat.reduceMul, Nat.reduceSub, Nat.reduceEqDiff, Nat.reduceLT, Nat.reduceBEq, Nat.reduceBNe, Nat.reduceLeDiff, Int.reduceLE, Int.reduceLT, Int.reduceToNat, Int.reduceEq, Int.reduceAdd, UInt8.reduceToNat, UInt32.reduceToNat, UInt64.reduceToNat, UInt8.reduceOfNat, UInt32.reduceOfNat, UInt64.reduceOfNat, Fin.isValue, Int.reduceSub, Int.reduceMul, Int.reduceNeg, Int.reduceMod, Int.reduceDiv, Int.reduceTDiv, Int.reduceTMod, Int.reduceBEq, Int.reduceBNe, Nat.reduceDiv, Nat.reducePow]
  | false =>
    cases c2 : decide ((100 : Int) < n.length) with
    | true => simp only [envOf, gr3, sealC, openC, refSealC, refOpenC, aawakeC, c1, c2, go_sem, reduceCtorEq, ↓reduceIte, Nat.reduceAdd, Nat.reduceMul, Nat.reduceSub, Nat.reduceEqDiff, Nat.reduceLT, Nat.reduceBEq, Nat.reduceBNe, Nat.reduceLeDiff, Int.reduceLE, Int.reduceLT, Int.reduceToNat, Int.reduceEq, Int.reduceAdd, UInt8.reduceToNat, UInt32.reduceToNat, UInt64.reduceToNat, UInt8.reduceOfNat, UInt32.reduceOfNat, UInt64.reduceOfNat, Fin.isValue, Int.reduceSub, Int.reduceMul, Int.reduceNeg, Int.reduceMod, Int.reduceDiv, Int.reduceTDiv, Int.reduceTMod, Int.reduceBEq, Int.reduceBNe, Nat.reduceDiv, Nat.reducePow]
    | false =>
      cases c3 : decide ((512 : Int) < w.length) with
      | true => simp only [envOf, gr3, sealC, openC, refSealC, refOpenC, aawakeC, c1, c2, c3, go_sem, reduceCtorEq, ↓reduceIte, Nat.reduceAdd, Nat.reduceMul, Nat.reduceSub, Nat.reduceEqDiff, Nat.reduceLT, Nat.reduceBEq, Nat.reduceBNe, Nat.reduceLeDiff, Int.reduceLE, Int.reduceLT, Int.reduceToNat, Int.reduceEq, Int.reduceAdd, UInt8.reduceToNat, UInt32.reduceToNat, UInt64.reduceToNat, UInt8.reduceOfNat, UInt32.reduceOfNat, UInt64.reduceOfNat, Fin.isValue, Int.reduceSub, Int.reduceMul, Int.reduceNeg, Int.reduceMod, Int.reduceDiv, Int.reduceTDiv, Int.reduceTMod, Int.reduceBEq, Int.reduceBNe, Nat.reduceDiv, Nat.reducePow]
      | false =>
        cases c4 : decide ((512 : Int) < s.length) with
        | true => simp only [envOf, gr3, sealC, openC, refSealC, refOpenC, aawakeC, c1, c2, c3, c4, go_sem, reduceCtorEq, ↓reduceIte, Nat.reduceAdd, Nat.reduceMul, Nat.reduceSub, Nat.reduceEqDiff, Nat.reduceLT, Nat.reduceBEq, Nat.reduceBNe, Nat.reduceLeDiff, Int.reduceLE, Int.reduceLT, Int.reduceToNat, Int.reduceEq, Int.reduceAdd, UInt8.reduceToNat, UInt32.reduceToNat, UInt64.reduceToNat, UInt8.reduceOfNat, UInt32.reduceOfNat, UInt64.reduceOfNat, Fin.isValue, Int.reduceSub, Int.reduceMul, Int.reduceNeg, Int.reduceMod, Int.reduceDiv, Int.reduceTDiv, Int.reduceTMod, Int.reduceBEq, Int.reduceBNe, Nat.reduceDiv, Nat.reducePow]
        | false =>
          have g3 := of_decide_eq_false c3
          have g4 := of_decide_eq_false c4
          cases hk : ((k.length : Int) == 32) with
          | false =>
            have hr : rightB k n = false := by simp only [rightB, hk, Bool.false_and]
            simp only [envOf, gr3, sealC, openC, refSealC, refOpenC, aawakeC, c1, c2, c3, c4, hk, hr, go_sem, reduceCtorEq, ↓reduceIte, Nat.reduceAdd, Nat.reduceMul, Nat.reduceSub, Nat.reduceEqDiff, Nat.reduceLT, Nat.reduceBEq, Nat.reduceBNe, Nat.reduceLeDiff, Int.reduceLE, Int.reduceLT, Int.reduceToNat, Int.reduceEq, Int.reduceAdd, UInt8.reduceToNat, UInt32.reduceToNat, UInt64.reduceToNat, UInt8.reduceOfNat, UInt32.reduceOfNat, UInt64.reduceOfNat, Fin.isValue, Int.reduceSub, Int.reduceMul, Int.reduceNeg, Int.reduceMod, Int.reduceDiv, Int.reduceTDiv, Int.reduceTMod, Int.reduceBEq, Int.reduceBNe, Nat.reduceDiv, Nat.reducePow]
            repeat' apply And.intro
            all_goals omega
          | true =>
            cases hn : ((n.length : Int) == 12) with
            | false =>
              have hr : rightB k n = false := by simp only [rightB, hk, hn, Bool.and_false]
              simp only [envOf, gr3, sealC, openC, refSealC, refOpenC, aawakeC, c1, c2, c3, c4, hk, hn, hr, go_sem, reduceCtorEq, ↓reduceIte, Nat.reduceAdd, Nat.reduceMul, Nat.reduceSub, Nat.reduceEqDiff, Nat.reduceLT, Nat.reduceBEq, Nat.reduceBNe, Nat.reduceLeDiff, Int.reduceLE, Int.reduceLT, Int.reduceToNat, Int.reduceEq, Int.reduceAdd, UInt8.reduceToNat, UInt32.reduceToNat, UInt64.reduceToNat, UInt8.reduceOfNat, UInt32.reduceOfNat, UInt64.reduceOfNat, Fin.isValue, Int.reduceSub, Int.reduceMul, Int.reduceNeg, Int.reduceMod, Int.reduceDiv, Int.reduceTDiv, Int.reduceTMod, Int.reduceBEq, Int.reduceBNe, Nat.reduceDiv, Nat.reducePow]
              repeat' apply And.intro
              all_goals omega
            | true =>
              have hr : rightB k n = true := by simp only [rightB, hk, hn]; rfl
              have hh := (rightB_iff k n).1 hr
              simp only [envOf, gr3, sealC, openC, refSealC, refOpenC, aawakeC, c1, c2, c3, c4, hk, hn, hr, hh.1, hh.2, go_sem, reduceCtorEq, ↓reduceIte, Nat.reduceAdd, Nat.reduceMul, Nat.reduceSub, Nat.reduceEqDiff, Nat.reduceLT, Nat.reduceBEq, Nat.reduceBNe, Nat.reduceLeDiff, Int.reduceLE, Int.reduceLT, Int.reduceToNat, Int.reduceEq, Int.reduceAdd, UInt8.reduceToNat, UInt32.reduceToNat, UInt64.reduceToNat, UInt8.reduceOfNat, UInt32.reduceOfNat, UInt64.reduceOfNat, Fin.isValue, Int.reduceSub, Int.reduceMul, Int.reduceNeg, Int.reduceMod, Int.reduceDiv, Int.reduceTDiv, Int.reduceTMod, Int.reduceBEq, Int.reduceBNe, Nat.reduceDiv, Nat.reducePow]
              repeat' apply And.intro
              all_goals omega
set_option maxRecDepth 100000 in
theorem aopens_tri (k n w box : List UInt8) : Tri Try.prog 14 [.one (.str k), .one (.str n), .one (.str w), .one (.str box)] [] (.c (.one (.bo true))) [] := by
  refine tri_of (envOf_ok gr3_ok 86) Try.func14 rfl rfl (rs := [.tmp 8]) rfl rfl (by simp [envOf]) rfl [] ?_
  cases c1 : decide ((100 : Int) < k.length) with
  | true => simp only [envOf, gr3, sealC, openC, refSealC, refOpenC, aawakeC, c1, go_sem, reduceCtorEq, ↓reduceIte, Nat.reduceAdd, Nat.reduceMul, Nat.reduceSub, Nat.reduceEqDiff, Nat.reduceLT, Nat.reduceBEq, Nat.reduceBNe, Nat.reduceLeDiff, Int.reduceLE, Int.reduceLT, Int.reduceToNat, Int.reduceEq, Int.reduceAdd, UInt8.reduceToNat, UInt32.reduceToNat, UInt64.reduceToNat, UInt8.reduceOfNat, UInt32.reduceOfNat, UInt64.reduceOfNat, Fin.isValue, Int.reduceSub, Int.reduceMul, Int.reduceNeg, Int.reduceMod, Int.reduceDiv, Int.reduceTDiv, Int.reduceTMod, Int.reduceBEq, Int.reduceBNe, Nat.reduceDiv, Nat.reducePow]
  | false =>
    cases c2 : decide ((100 : Int) < n.length) with
    | true => simp only [envOf, gr3, sealC, openC, refSealC, refOpenC, aawakeC, c1, c2, go_sem, reduceCtorEq, ↓reduceIte, Nat.reduceAdd, Nat.reduceMul, Nat.reduceSub, Nat.reduceEqDiff, Nat.reduceLT, Nat.reduceBEq, Nat.reduceBNe, Nat.reduceLeDiff, Int.reduceLE, Int.reduceLT, Int.reduceToNat, Int.reduceEq, Int.reduceAdd, UInt8.reduceToNat, UInt32.reduceToNat, UInt64.reduceToNat, UInt8.reduceOfNat, UInt32.reduceOfNat, UInt64.reduceOfNat, Fin.isValue, Int.reduceSub, Int.reduceMul, Int.reduceNeg, Int.reduceMod, Int.reduceDiv, Int.reduceTDiv, Int.reduceTMod, Int.reduceBEq, Int.reduceBNe, Nat.reduceDiv, Nat.reducePow]
    | false =>
      cases c3 : decide ((512 : Int) < w.length) with
      | true => simp only [envOf, gr3, sealC, openC, refSealC, refOpenC, aawakeC, c1, c2, c3, go_sem, reduceCtorEq, ↓reduceIte, Nat.reduceAdd, Nat.reduceMul, Nat.reduceSub, Nat.reduceEqDiff, Nat.reduceLT, Nat.reduceBEq, Nat.reduceBNe, Nat.reduceLeDiff, Int.reduceLE, Int.reduceLT, Int.reduceToNat, Int.reduceEq, Int.reduceAdd, UInt8.reduceToNat, UInt32.reduceToNat, UInt64.reduceToNat, UInt8.reduceOfNat, UInt32.reduceOfNat, UInt64.reduceOfNat, Fin.isValue, Int.reduceSub, Int.reduceMul, Int.reduceNeg, Int.reduceMod, Int.reduceDiv, Int.reduceTDiv, Int.reduceTMod, Int.reduceBEq, Int.reduceBNe, Nat.reduceDiv, Nat.reducePow]
      | false =>
        cases c4 : decide ((512 : Int) < box.length) with
        | true => simp only [envOf, gr3, sealC, openC, refSealC, refOpenC, aawakeC, c1, c2, c3, c4, go_sem, reduceCtorEq, ↓reduceIte, Nat.reduceAdd, Nat.reduceMul, Nat.reduceSub, Nat.reduceEqDiff, Nat.reduceLT, Nat.reduceBEq, Nat.reduceBNe, Nat.reduceLeDiff, Int.reduceLE, Int.reduceLT, Int.reduceToNat, Int.reduceEq, Int.reduceAdd, UInt8.reduceToNat, UInt32.reduceToNat, UInt64.reduceToNat, UInt8.reduceOfNat, UInt32.reduceOfNat, UInt64.reduceOfNat, Fin.isValue, Int.reduceSub, Int.reduceMul, Int.reduceNeg, Int.reduceMod, Int.reduceDiv, Int.reduceTDiv, Int.reduceTMod, Int.reduceBEq, Int.reduceBNe, Nat.reduceDiv, Nat.reducePow]
        | false =>
          have g3 := of_decide_eq_false c3
          have g4 := of_decide_eq_false c4
          cases hk : ((k.length : Int) == 32) with
          | false =>
            have hr : rightB k n = false := by simp only [rightB, hk, Bool.false_and]
            have e1 : openS k n w box = [] := by simp [openS, hr]
            have e2 : openE k n w box = 1 := by simp [openE, hr]
            simp only [envOf, gr3, sealC, openC, refSealC, refOpenC, aawakeC, c1, c2, c3, c4, hk, e1, e2, go_sem, reduceCtorEq, ↓reduceIte, Nat.reduceAdd, Nat.reduceMul, Nat.reduceSub, Nat.reduceEqDiff, Nat.reduceLT, Nat.reduceBEq, Nat.reduceBNe, Nat.reduceLeDiff, Int.reduceLE, Int.reduceLT, Int.reduceToNat, Int.reduceEq, Int.reduceAdd, UInt8.reduceToNat, UInt32.reduceToNat, UInt64.reduceToNat, UInt8.reduceOfNat, UInt32.reduceOfNat, UInt64.reduceOfNat, Fin.isValue, Int.reduceSub, Int.reduceMul, Int.reduceNeg, Int.reduceMod, Int.reduceDiv, Int.reduceTDiv, Int.reduceTMod, Int.reduceBEq, Int.reduceBNe, Nat.reduceDiv, Nat.reducePow]
            repeat' apply And.intro
            all_goals omega
          | true =>
            cases hn : ((n.length : Int) == 12) with
            | false =>
              have hr : rightB k n = false := by simp only [rightB, hk, hn, Bool.and_false]
              have e1 : openS k n w box = [] := by simp [openS, hr]
              have e2 : openE k n w box = 1 := by simp [openE, hr]
              simp only [envOf, gr3, sealC, openC, refSealC, refOpenC, aawakeC, c1, c2, c3, c4, hk, hn, e1, e2, go_sem, reduceCtorEq, ↓reduceIte, Nat.reduceAdd, Nat.reduceMul, Nat.reduceSub, Nat.reduceEqDiff, Nat.reduceLT, Nat.reduceBEq, Nat.reduceBNe, Nat.reduceLeDiff, Int.reduceLE, Int.reduceLT, Int.reduceToNat, Int.reduceEq, Int.reduceAdd, UInt8.reduceToNat, UInt32.reduceToNat, UInt64.reduceToNat, UInt8.reduceOfNat, UInt32.reduceOfNat, UInt64.reduceOfNat, Fin.isValue, Int.reduceSub, Int.reduceMul, Int.reduceNeg, Int.reduceMod, Int.reduceDiv, Int.reduceTDiv, Int.reduceTMod, Int.reduceBEq, Int.reduceBNe, Nat.reduceDiv, Nat.reducePow]
              repeat' apply And.intro
              all_goals omega
            | true =>
              have hr : rightB k n = true := by simp only [rightB, hk, hn]; rfl
              have hh := (rightB_iff k n).1 hr
              cases hB : refOpenB k n w box with
              | false =>
                have hno : openS k n w box = [] ∧ openE k n w box = 7 := by
                  simp only [refOpenB, Bool.and_eq_false_iff, decide_eq_false_iff_not] at hB
                  simp only [openS, openE, hr, if_true]
                  by_cases h16 : box.length < 16
                  · simp [h16]
                  · rcases hB with hB | hB
                    · omega
                    · simp [h16, hB]
                simp only [envOf, gr3, sealC, openC, refSealC, refOpenC, aawakeC, c1, c2, c3, c4, hk, hn, hno.1, hno.2, hh.1, hh.2, hB, go_sem, reduceCtorEq, ↓reduceIte, Nat.reduceAdd, Nat.reduceMul, Nat.reduceSub, Nat.reduceEqDiff, Nat.reduceLT, Nat.reduceBEq, Nat.reduceBNe, Nat.reduceLeDiff, Int.reduceLE, Int.reduceLT, Int.reduceToNat, Int.reduceEq, Int.reduceAdd, UInt8.reduceToNat, UInt32.reduceToNat, UInt64.reduceToNat, UInt8.reduceOfNat, UInt32.reduceOfNat, UInt64.reduceOfNat, Fin.isValue, Int.reduceSub, Int.reduceMul, Int.reduceNeg, Int.reduceMod, Int.reduceDiv, Int.reduceTDiv, Int.reduceTMod, Int.reduceBEq, Int.reduceBNe, Nat.reduceDiv, Nat.reducePow]
                repeat' apply And.intro
                all_goals omega
              | true =>
                have hyes : openS k n w box = turnL k n 1 (box.take (box.length - 16)) ∧ openE k n w box = 0 := by
                  simp only [refOpenB, Bool.and_eq_true, decide_eq_true_eq] at hB
                  have h16 : ¬ box.length < 16 := by omega
                  simp only [openS, openE, hr, h16, hB.2, if_true, if_false]
                  exact ⟨trivial, trivial⟩
                simp only [envOf, gr3, sealC, openC, refSealC, refOpenC, aawakeC, c1, c2, c3, c4, hk, hn, hyes.1, hyes.2, hh.1, hh.2, hB, go_sem, reduceCtorEq, ↓reduceIte, Nat.reduceAdd, Nat.reduceMul, Nat.reduceSub, Nat.reduceEqDiff, Nat.reduceLT, Nat.reduceBEq, Nat.reduceBNe, Nat.reduceLeDiff, Int.reduceLE, Int.reduceLT, Int.reduceToNat, Int.reduceEq, Int.reduceAdd, UInt8.reduceToNat, UInt32.reduceToNat, UInt64.reduceToNat, UInt8.reduceOfNat, UInt32.reduceOfNat, UInt64.reduceOfNat, Fin.isValue, Int.reduceSub, Int.reduceMul, Int.reduceNeg, Int.reduceMod, Int.reduceDiv, Int.reduceTDiv, Int.reduceTMod, Int.reduceBEq, Int.reduceBNe, Nat.reduceDiv, Nat.reducePow]
                repeat' apply And.intro
                all_goals omega
theorem aseals_law (a : ByteArray) (wa : a.size ≤ maxLen) (b : ByteArray) (wb : b.size ≤ maxLen) (c : ByteArray) (wc : c.size ≤ maxLen) (d : ByteArray) (wd : d.size ≤ maxLen) (w : World) :
    Calls Try.prog 13 #[.string a, .string b, .string c, .string d] w fun e w' => e = .returned (.bool true) ∧ Below w.heap.size w w' := by
  refine (tri_calls (aseals_tri a.data.toList b.data.toList c.data.toList d.data.toList) w (vals := [.string a, .string b, .string c, .string d]) ⟨rfl, rfl, rfl, rfl, trivial⟩).mono ?_
  rintro e w' ⟨u, r', rfl, hr, hb⟩
  exact ⟨by rw [show u = .bool true from hr], hb⟩
theorem aopens_law (a : ByteArray) (wa : a.size ≤ maxLen) (b : ByteArray) (wb : b.size ≤ maxLen) (c : ByteArray) (wc : c.size ≤ maxLen) (d : ByteArray) (wd : d.size ≤ maxLen) (w : World) :
    Calls Try.prog 14 #[.string a, .string b, .string c, .string d] w fun e w' => e = .returned (.bool true) ∧ Below w.heap.size w w' := by
  refine (tri_calls (aopens_tri a.data.toList b.data.toList c.data.toList d.data.toList) w (vals := [.string a, .string b, .string c, .string d]) ⟨rfl, rfl, rfl, rfl, trivial⟩).mono ?_
  rintro e w' ⟨u, r', rfl, hr, hb⟩
  exact ⟨by rw [show u = .bool true from hr], hb⟩
end Go.Proofs.Ythgemadhhkocgaa
