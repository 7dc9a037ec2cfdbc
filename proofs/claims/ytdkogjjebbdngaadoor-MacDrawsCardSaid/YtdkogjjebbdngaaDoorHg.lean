/-
  Layer 1: the digest.
-/
import Derived.Test.YtdkogjjebbdngaaDoorSz
import Derived.Test.YtdkogjjebbdngaaDoorHf
namespace Go.Proofs.YtdkogjjebbdngaaDoor
open Go Go.RowKit
set_option maxHeartbeats 4000000
set_option linter.unusedSimpArgs false
set_option linter.unusedVariables false
def blockC : Con := con0 fun args => match args with
  | [.agg [.u32 a, .u32 b, .u32 c, .u32 d, .u32 e, .u32 f, .u32 g, .u32 h], .one (.str s)] => some (.c (blockW ⟨a, b, c, d, e, f, g, h⟩ s).cv, [s.length = 64])
  | _ => none
theorem blockC_ok : ConOkG Tryd.prog [gK] 11 blockC := con0_okG Tryd.func11 rfl rfl fun args res ob h hob => by
  split at h
  · rename_i a b c d e f g h' s
    injection h with h; injection h with h1 h2; subst h1; subst h2
    have := block_tri ⟨a, b, c, d, e, f, g, h'⟩ s
    rw [if_pos hob.1] at this
    exact this
  · cases h
noncomputable def envJ (ga : Nat → Option Con) (nt : Nat) : Env := ⟨ty, ga, [], nt, [], [gK]⟩
theorem envJ_ok {ga : Nat → Option Con} (h : GaOkG Tryd.prog [gK] ga) (nt : Nat) : EnvOk Tryd.prog (envJ ga nt) := ⟨ty_ok, h, by first | rfl | decide⟩
def hg1 : Nat → Option Con := fun f => match f with
  | 11 => some blockC
  | 22 => some initialC
  | 23 => some paddingC
  | 24 => some outputC
  | _ => none
theorem hg1_ok : GaOkG Tryd.prog [gK] hg1 := fun f con h => by
  unfold hg1 at h
  split at h
  · injection h with h; subst h; exact blockC_ok
  · injection h with h; subst h; exact ConOk.up initialC_ok
  · injection h with h; subst h; exact ConOk.up paddingC_ok
  · injection h with h; subst h; exact ConOk.up outputC_ok
  · cases h
def foldB (v : W8) (l : List UInt8) : Nat → W8
  | 0 => v
  | q + 1 => blockW (foldB v l q) ((l.drop (64 * q)).take 64)
def midS (s : List UInt8) : W8 := foldB init8 s (s.length / 64)
def lastS (s : List UInt8) : List UInt8 := s.drop (64 * (s.length / 64)) ++ padP s.length 8
def sumL (s : List UInt8) : List UInt8 := outV (foldB (midS s) (lastS s) ((lastS s).length / 64))
theorem lastS_len (s : List UInt8) : (lastS s).length % 64 = 0 ∧ (lastS s).length ≤ 192 := by
  unfold lastS
  rw [List.length_append, List.length_drop, padP_len]
  unfold padZ
  omega
def sm1 (s : List UInt8) (q : Nat) : St := ⟨[(0, .c (.one (.str s))), (3, .c (.one (.ptr 20008 0 0 0))), (4, .c (.one (.str (s.drop (64 * q)))))], [(20008, ⟨(foldB init8 s q).cells, true⟩)]⟩
def sm2 (s : List UInt8) (q : Nat) : St := ⟨[(3, .c (.one (.ptr 20008 0 0 0))), (5, .c (.one (.str ((lastS s).drop (64 * q)))))], [(20008, ⟨(foldB (midS s) (lastS s) q).cells, true⟩)]⟩
set_option maxRecDepth 100000 in
theorem sum_tri (s : List UInt8) (hs : s.length ≤ 1000000000) : TriG Tryd.prog [gK] 9 [.one (.str s)] [] (.c (.one (.str (sumL s)))) [] := by
  refine tri_of (envJ_ok hg1_ok 33) Tryd.func9 rfl rfl (rs := [.tmp 2]) rfl rfl (by simp [envJ]) rfl [] ?_
  have h00 : s.drop (64 * 0) = s := rfl
  simp only [envJ, hg1, blockC, initialC, paddingC, outputC, W8.cv, W8.eta, go_sem, reduceCtorEq, ↓reduceIte, Nat.reduceAdd, Nat.reduceMul, Nat.reduceSub, Nat.reduceEqDiff, Nat.reduceLT, Nat.reduceBEq, Nat.reduceBNe, Nat.reduceLeDiff, Int.reduceLE, Int.reduceLT, Int.reduceToNat, Int.reduceEq, Int.reduceAdd, UInt8.reduceToNat, UInt32.reduceToNat, UInt64.reduceToNat, UInt8.reduceOfNat, UInt32.reduceOfNat, UInt64.reduceOfNat, Fin.isValue, Int.reduceSub, Int.reduceMul, Int.reduceNeg, Int.reduceMod, Int.reduceDiv, Int.reduceTDiv, Int.reduceTMod, Int.reduceBEq, Int.reduceBNe, Nat.reduceDiv, Nat.reducePow]
  repeat' apply And.intro
  all_goals first
    | rfl
    | skip
  refine loop_inv (envJ_ok hg1_ok 33) (sm1 s) (fun q => 64 * q ≤ s.length) (fun q => s.length - 64 * q) 0 [] (by omega) ?_ ?_
  · simp only [sm1, foldB, W8.cells, h00, go_sem, reduceCtorEq, ↓reduceIte, Nat.reduceAdd, Nat.reduceMul, Nat.reduceSub, Nat.reduceEqDiff, Nat.reduceLT, Nat.reduceBEq, Nat.reduceBNe, Nat.reduceLeDiff, Int.reduceLE, Int.reduceLT, Int.reduceToNat, Int.reduceEq, Int.reduceAdd, UInt8.reduceToNat, UInt32.reduceToNat, UInt64.reduceToNat, UInt8.reduceOfNat, UInt32.reduceOfNat, UInt64.reduceOfNat, Fin.isValue, Int.reduceSub, Int.reduceMul, Int.reduceNeg, Int.reduceMod, Int.reduceDiv, Int.reduceTDiv, Int.reduceTMod, Int.reduceBEq, Int.reduceBNe, Nat.reduceDiv, Nat.reducePow]
    all_goals first
      | trivial
      | rfl
      | trace_state
  · intro q hq
    have hd : (s.drop (64 * q)).length = s.length - 64 * q := List.length_drop
    simp only [sm1, W8.cells, envJ, hg1, blockC, initialC, paddingC, outputC, con0, W8.cv, W8.eta, go_sem, reduceCtorEq, ↓reduceIte, Nat.reduceAdd, Nat.reduceMul, Nat.reduceSub, Nat.reduceEqDiff, Nat.reduceLT, Nat.reduceBEq, Nat.reduceBNe, Nat.reduceLeDiff, Int.reduceLE, Int.reduceLT, Int.reduceToNat, Int.reduceEq, Int.reduceAdd, UInt8.reduceToNat, UInt32.reduceToNat, UInt64.reduceToNat, UInt8.reduceOfNat, UInt32.reduceOfNat, UInt64.reduceOfNat, Fin.isValue, Int.reduceSub, Int.reduceMul, Int.reduceNeg, Int.reduceMod, Int.reduceDiv, Int.reduceTDiv, Int.reduceTMod, Int.reduceBEq, Int.reduceBNe, Nat.reduceDiv, Nat.reducePow]
    refine br (fun hc => ?_) fun hc => ?_
    · have hc' := of_decide_eq_true hc
      have hdd : (s.drop (64 * q)).drop 64 = s.drop (64 * (q + 1)) := by rw [List.drop_drop, Nat.mul_add]
      have ht : ((s.drop (64 * q)).take 64).length = 64 := by rw [List.length_take]; omega
      have hta : (s.drop (64 * q)).take (s.length - 64 * q) = s.drop (64 * q) := List.take_of_length_le (by omega)
      simp only [hc, ht, hdd, envJ, hg1, blockC, con0, W8.cv, W8.eta, go_sem, reduceCtorEq, ↓reduceIte, Nat.reduceAdd, Nat.reduceMul, Nat.reduceSub, Nat.reduceEqDiff, Nat.reduceLT, Nat.reduceBEq, Nat.reduceBNe, Nat.reduceLeDiff, Int.reduceLE, Int.reduceLT, Int.reduceToNat, Int.reduceEq, Int.reduceAdd, UInt8.reduceToNat, UInt32.reduceToNat, UInt64.reduceToNat, UInt8.reduceOfNat, UInt32.reduceOfNat, UInt64.reduceOfNat, Fin.isValue, Int.reduceSub, Int.reduceMul, Int.reduceNeg, Int.reduceMod, Int.reduceDiv, Int.reduceTDiv, Int.reduceTMod, Int.reduceBEq, Int.reduceBNe, Nat.reduceDiv, Nat.reducePow]
      repeat' apply And.intro
      all_goals first
        | omega
        | rfl
        | skip
      refine again (q + 1) [] (by omega) (by omega) ?_
      simp only [sm1, foldB, W8.cells, envJ, go_sem, reduceCtorEq, ↓reduceIte, Nat.reduceAdd, Nat.reduceMul, Nat.reduceSub, Nat.reduceEqDiff, Nat.reduceLT, Nat.reduceBEq, Nat.reduceBNe, Nat.reduceLeDiff, Int.reduceLE, Int.reduceLT, Int.reduceToNat, Int.reduceEq, Int.reduceAdd, UInt8.reduceToNat, UInt32.reduceToNat, UInt64.reduceToNat, UInt8.reduceOfNat, UInt32.reduceOfNat, UInt64.reduceOfNat, Fin.isValue, Int.reduceSub, Int.reduceMul, Int.reduceNeg, Int.reduceMod, Int.reduceDiv, Int.reduceTDiv, Int.reduceTMod, Int.reduceBEq, Int.reduceBNe, Nat.reduceDiv, Nat.reducePow]
      all_goals first
        | trivial
        | rfl
        | trace_state
    · have hQ : q = s.length / 64 := by have := of_decide_eq_false hc; omega
      have hla : s.drop (64 * q) ++ padP s.length 8 = lastS s := by rw [hQ]; rfl
      have hmi : foldB init8 s q = midS s := by rw [hQ]; rfl
      obtain ⟨l1, l2⟩ := lastS_len s
      have hpl := padP_len s.length 8
      have hz : padZ s.length < 64 := Nat.mod_lt _ (by decide)
      have h01 : (lastS s).drop (64 * 0) = lastS s := rfl
      simp only [hc, hla, hmi, envJ, hg1, paddingC, con0, W8.cv, W8.eta, go_sem, reduceCtorEq, ↓reduceIte, Nat.reduceAdd, Nat.reduceMul, Nat.reduceSub, Nat.reduceEqDiff, Nat.reduceLT, Nat.reduceBEq, Nat.reduceBNe, Nat.reduceLeDiff, Int.reduceLE, Int.reduceLT, Int.reduceToNat, Int.reduceEq, Int.reduceAdd, UInt8.reduceToNat, UInt32.reduceToNat, UInt64.reduceToNat, UInt8.reduceOfNat, UInt32.reduceOfNat, UInt64.reduceOfNat, Fin.isValue, Int.reduceSub, Int.reduceMul, Int.reduceNeg, Int.reduceMod, Int.reduceDiv, Int.reduceTDiv, Int.reduceTMod, Int.reduceBEq, Int.reduceBNe, Nat.reduceDiv, Nat.reducePow]
      repeat' apply And.intro
      all_goals first
        | omega
        | rfl
        | skip
      refine loop_inv (envJ_ok hg1_ok 33) (sm2 s) (fun q => 64 * q ≤ (lastS s).length) (fun q => (lastS s).length - 64 * q) 0 [] (by omega) ?_ ?_
      · simp only [sm2, foldB, W8.cells, h01, envJ, go_sem, reduceCtorEq, ↓reduceIte, Nat.reduceAdd, Nat.reduceMul, Nat.reduceSub, Nat.reduceEqDiff, Nat.reduceLT, Nat.reduceBEq, Nat.reduceBNe, Nat.reduceLeDiff, Int.reduceLE, Int.reduceLT, Int.reduceToNat, Int.reduceEq, Int.reduceAdd, UInt8.reduceToNat, UInt32.reduceToNat, UInt64.reduceToNat, UInt8.reduceOfNat, UInt32.reduceOfNat, UInt64.reduceOfNat, Fin.isValue, Int.reduceSub, Int.reduceMul, Int.reduceNeg, Int.reduceMod, Int.reduceDiv, Int.reduceTDiv, Int.reduceTMod, Int.reduceBEq, Int.reduceBNe, Nat.reduceDiv, Nat.reducePow]
        all_goals first
          | trivial
          | rfl
          | trace_state
      · intro p hp
        have hd : ((lastS s).drop (64 * p)).length = (lastS s).length - 64 * p := List.length_drop
        simp only [sm2, W8.cells, envJ, hg1, con0, W8.cv, W8.eta, go_sem, reduceCtorEq, ↓reduceIte, Nat.reduceAdd, Nat.reduceMul, Nat.reduceSub, Nat.reduceEqDiff, Nat.reduceLT, Nat.reduceBEq, Nat.reduceBNe, Nat.reduceLeDiff, Int.reduceLE, Int.reduceLT, Int.reduceToNat, Int.reduceEq, Int.reduceAdd, UInt8.reduceToNat, UInt32.reduceToNat, UInt64.reduceToNat, UInt8.reduceOfNat, UInt32.reduceOfNat, UInt64.reduceOfNat, Fin.isValue, Int.reduceSub, Int.reduceMul, Int.reduceNeg, Int.reduceMod, Int.reduceDiv, Int.reduceTDiv, Int.reduceTMod, Int.reduceBEq, Int.reduceBNe, Nat.reduceDiv, Nat.reducePow]
        refine br (fun hc => ?_) fun hc => ?_
        · have hc' := of_decide_eq_true hc
          have hdd : ((lastS s).drop (64 * p)).drop 64 = (lastS s).drop (64 * (p + 1)) := by rw [List.drop_drop, Nat.mul_add]
          have ht : (((lastS s).drop (64 * p)).take 64).length = 64 := by rw [List.length_take]; omega
          simp only [hc, ht, hdd, envJ, hg1, blockC, con0, W8.cv, W8.eta, go_sem, reduceCtorEq, ↓reduceIte, Nat.reduceAdd, Nat.reduceMul, Nat.reduceSub, Nat.reduceEqDiff, Nat.reduceLT, Nat.reduceBEq, Nat.reduceBNe, Nat.reduceLeDiff, Int.reduceLE, Int.reduceLT, Int.reduceToNat, Int.reduceEq, Int.reduceAdd, UInt8.reduceToNat, UInt32.reduceToNat, UInt64.reduceToNat, UInt8.reduceOfNat, UInt32.reduceOfNat, UInt64.reduceOfNat, Fin.isValue, Int.reduceSub, Int.reduceMul, Int.reduceNeg, Int.reduceMod, Int.reduceDiv, Int.reduceTDiv, Int.reduceTMod, Int.reduceBEq, Int.reduceBNe, Nat.reduceDiv, Nat.reducePow]
          repeat' apply And.intro
          all_goals first
            | omega
            | rfl
            | skip
          refine again (p + 1) [] (by omega) (by omega) ?_
          simp only [sm2, foldB, W8.cells, envJ, go_sem, reduceCtorEq, ↓reduceIte, Nat.reduceAdd, Nat.reduceMul, Nat.reduceSub, Nat.reduceEqDiff, Nat.reduceLT, Nat.reduceBEq, Nat.reduceBNe, Nat.reduceLeDiff, Int.reduceLE, Int.reduceLT, Int.reduceToNat, Int.reduceEq, Int.reduceAdd, UInt8.reduceToNat, UInt32.reduceToNat, UInt64.reduceToNat, UInt8.reduceOfNat, UInt32.reduceOfNat, UInt64.reduceOfNat, Fin.isValue, Int.reduceSub, Int.reduceMul, Int.reduceNeg, Int.reduceMod, Int.reduceDiv, Int.reduceTDiv, Int.reduceTMod, Int.reduceBEq, Int.reduceBNe, Nat.reduceDiv, Nat.reducePow]
          all_goals first
            | trivial
            | rfl
            | trace_state
        · have hP : p = (lastS s).length / 64 := by have := of_decide_eq_false hc; omega
          have hou : outV (foldB (midS s) (lastS s) p) = sumL s := by rw [hP]; rfl
          simp only [hc, hou, envJ, hg1, outputC, con0, W8.cv, W8.eta, go_sem, reduceCtorEq, ↓reduceIte, Nat.reduceAdd, Nat.reduceMul, Nat.reduceSub, Nat.reduceEqDiff, Nat.reduceLT, Nat.reduceBEq, Nat.reduceBNe, Nat.reduceLeDiff, Int.reduceLE, Int.reduceLT, Int.reduceToNat, Int.reduceEq, Int.reduceAdd, UInt8.reduceToNat, UInt32.reduceToNat, UInt64.reduceToNat, UInt8.reduceOfNat, UInt32.reduceOfNat, UInt64.reduceOfNat, Fin.isValue, Int.reduceSub, Int.reduceMul, Int.reduceNeg, Int.reduceMod, Int.reduceDiv, Int.reduceTDiv, Int.reduceTMod, Int.reduceBEq, Int.reduceBNe, Nat.reduceDiv, Nat.reducePow]
          all_goals first
            | trivial
            | rfl
            | trace_state
def ssumC : Con := con0 fun args => match args with
  | [.one (.str s)] => some (.c (.one (.str (sumL s))), [s.length ≤ 1000000000])
  | _ => none
theorem ssumC_ok : ConOkG Tryd.prog [gK] 9 ssumC := con0_okG Tryd.func9 rfl rfl fun args res ob h hob => by
  split at h
  · injection h with h; injection h with h1 h2; subst h1; subst h2; exact sum_tri _ hob.1
  · cases h
end Go.Proofs.YtdkogjjebbdngaaDoor
