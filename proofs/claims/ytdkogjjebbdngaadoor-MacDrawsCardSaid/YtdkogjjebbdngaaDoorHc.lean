/-
  Layer 1: the document's block, walked.
-/
import Derived.Test.YtdkogjjebbdngaaDoorSz
import Derived.Test.YtdkogjjebbdngaaDoorHb
namespace Go.Proofs.YtdkogjjebbdngaaDoor
open Go Go.RowKit
set_option maxHeartbeats 4000000
set_option linter.unusedSimpArgs false
set_option linter.unusedVariables false
def rgt (x : UInt32) (n : Nat) : UInt32 := shr32 x n ||| shl32 x (32 - n)
theorem right_tri (x : UInt32) (n : Nat) (hn : n ≤ 32) : Tri Tryd.prog 28 [.one (.u32 x), .one (.num (n : Nat))] [] (.c (.one (.u32 (rgt x n)))) [] := by
  have w : IntKind.i64.wrap (32 - (n : Int)) = ((32 - n : Nat) : Int) := by rw [IntKind.wrap_i64]; omega
  refine tri_of (envOf_ok ga0_ok 13) Tryd.func28 rfl rfl (rs := [.tmp 4]) rfl rfl (by simp [envOf]) rfl [] ?_
  simp only [envOf, w, go_sem, reduceCtorEq, ↓reduceIte, Nat.reduceAdd, Nat.reduceMul, Nat.reduceSub, Nat.reduceEqDiff, Nat.reduceLT, Nat.reduceBEq, Nat.reduceBNe, Nat.reduceLeDiff, Int.reduceLE, Int.reduceLT, Int.reduceToNat, Int.reduceEq, Int.reduceAdd, UInt8.reduceToNat, UInt32.reduceToNat, UInt64.reduceToNat, UInt8.reduceOfNat, UInt32.reduceOfNat, UInt64.reduceOfNat, Fin.isValue, Int.reduceSub, Int.reduceMul, Int.reduceNeg, Int.reduceMod, Int.reduceDiv, Int.reduceTDiv, Int.reduceTMod, Int.reduceBEq, Int.reduceBNe, Nat.reduceDiv, Nat.reducePow]
  repeat' apply And.intro
  all_goals first
    | omega
    | rfl
    | trace_state
def rightC : Con := con0 fun args => match args with
  | [.one (.u32 x), .one (.num z)] => some (.c (.one (.u32 (rgt x z.toNat))), [0 ≤ z, z ≤ 32])
  | _ => none
theorem rightC_ok : ConOk Tryd.prog 28 rightC := con0_ok Tryd.func28 rfl rfl fun args res ob h hob => by
  split at h
  · rename_i x z
    injection h with h; injection h with h1 h2; subst h1; subst h2
    have := right_tri x z.toNat (by have := hob.2.1; omega)
    rw [Int.toNat_of_nonneg hob.1] at this
    exact this
  · cases h
def nextR (l : List UInt32) (t : Nat) : UInt32 := (rgt (l.getD (t - 15) 0) 7 ^^^ rgt (l.getD (t - 15) 0) 18 ^^^ shr32 (l.getD (t - 15) 0) 3) + (rgt (l.getD (t - 2) 0) 17 ^^^ rgt (l.getD (t - 2) 0) 19 ^^^ shr32 (l.getD (t - 2) 0) 10) + l.getD (t - 7) 0 + l.getD (t - 16) 0
def schedR (s : List UInt8) : Nat → List UInt32
  | 0 => []
  | t + 1 => schedR s t ++ [if t < 16 then wb s t else nextR (schedR s t) t]
theorem schedR_len (s : List UInt8) : ∀ t, (schedR s t).length = t
  | 0 => rfl
  | t + 1 => by rw [schedR, List.length_append, schedR_len s t]; rfl
def rT (v : W8) (k w : UInt32) : UInt32 := v.h + (rgt v.e 6 ^^^ rgt v.e 11 ^^^ rgt v.e 25) + (v.e &&& v.f ||| (4294967295 - v.e) &&& v.g) + k + w
def rU (v : W8) : UInt32 := (rgt v.a 2 ^^^ rgt v.a 13 ^^^ rgt v.a 22) + (v.a &&& v.b ||| v.a &&& v.c ||| v.b &&& v.c)
def roundR (v : W8) (k w : UInt32) : W8 := ⟨rT v k w + rU v, v.a, v.b, v.c, v.d + rT v k w, v.e, v.f, v.g⟩
def vR (K : List UInt32) (h : W8) (s : List UInt8) : Nat → W8
  | 0 => h
  | t + 1 => roundR (vR K h s t) (K.getD t 0) ((schedR s 64).getD t 0)
def W8.l (v : W8) : List UInt32 := [v.a, v.b, v.c, v.d, v.e, v.f, v.g, v.h]
def blockR (K : List UInt32) (h : W8) (s : List UInt8) : W8 := ⟨h.a + (vR K h s 64).a, h.b + (vR K h s 64).b, h.c + (vR K h s 64).c, h.d + (vR K h s 64).d, h.e + (vR K h s 64).e, h.f + (vR K h s 64).f, h.g + (vR K h s 64).g, h.h + (vR K h s 64).h⟩
noncomputable def envU (ga : Nat → Option Con) (nt : Nat) (keys : List Nat) : Env := ⟨ty, ga, [], nt, keys, []⟩
theorem envU_ok {ga : Nat → Option Con} (h : GaOk Tryd.prog ga) (nt : Nat) (keys : List Nat) : EnvOk Tryd.prog (envU ga nt keys) := ⟨ty_ok, h, by first | rfl | decide⟩
def hc1 : Nat → Option Con := fun f => match f with
  | 28 => some rightC
  | _ => none
theorem hc1_ok : GaOk Tryd.prog hc1 := fun f con h => by
  unfold hc1 at h
  split at h
  · injection h with h; subst h; exact rightC_ok
  · cases h
def rbH (K : List UInt32) (h : W8) (wk wh : Bool) : List (Nat × Ent) := [(0, ⟨.arr UInt32 u32L K, wk⟩), (1, ⟨.arr UInt32 u32L h.l, wh⟩)]
def rb1 (K : List UInt32) (h : W8) (s : List UInt8) (wk wh : Bool) : Nat → St
  | 0 => ⟨[(0, .c (.one (.sl 0 0 1 64))), (1, .c (.one (.sl 1 0 1 8))), (2, .c (.one (.str s))), (7, .c (.one (.val (.slice none 0 0)))), (8, .c (.one (.num 0)))], [(0, ⟨.arr UInt32 u32L K, wk⟩), (1, ⟨.arr UInt32 u32L h.l, wh⟩)]⟩
  | t + 1 => ⟨[(0, .c (.one (.sl 0 0 1 64))), (1, .c (.one (.sl 1 0 1 8))), (2, .c (.one (.str s))), (7, .c (.one (.sl 500 0 1 (t + 1)))), (8, .c (.one (.num (t + 1 : Nat))))], [(0, ⟨.arr UInt32 u32L K, wk⟩), (1, ⟨.arr UInt32 u32L h.l, wh⟩), (500, ⟨.arr UInt32 u32L (schedR s (t + 1)), true⟩)]⟩
def rb2 (K : List UInt32) (h : W8) (s : List UInt8) (wk wh : Bool) (t : Nat) : St := ⟨[(0, .c (.one (.sl 0 0 1 64))), (1, .c (.one (.sl 1 0 1 8))), (7, .c (.one (.sl 500 0 1 64))), (11, .c (.one (.u32 (vR K h s t).a))), (12, .c (.one (.u32 (vR K h s t).b))), (13, .c (.one (.u32 (vR K h s t).c))), (14, .c (.one (.u32 (vR K h s t).d))), (15, .c (.one (.u32 (vR K h s t).e))), (16, .c (.one (.u32 (vR K h s t).f))), (17, .c (.one (.u32 (vR K h s t).g))), (18, .c (.one (.u32 (vR K h s t).h))), (19, .c (.one (.num t)))], [(0, ⟨.arr UInt32 u32L K, wk⟩), (1, ⟨.arr UInt32 u32L h.l, wh⟩), (500, ⟨.arr UInt32 u32L (schedR s 64), true⟩)]⟩
set_option maxRecDepth 100000 in
theorem rblock_tri (K : List UInt32) (h : W8) (s : List UInt8) (wk wh : Bool) (hK : K.length = 64) (hs : s.length = 64) : Tri Tryd.prog 12 [.one (.sl 0 0 1 64), .one (.sl 1 0 1 8), .one (.str s)] [(0, ⟨.arr UInt32 u32L K, wk⟩), (1, ⟨.arr UInt32 u32L h.l, wh⟩)] (.c (.one (.sl 2 0 1 8))) [(0, ⟨.arr UInt32 u32L K, wk⟩), (1, ⟨.arr UInt32 u32L h.l, wh⟩), (2, ⟨.arr UInt32 u32L (blockR K h s).l, true⟩)] := by
  refine tri_ofx (envU_ok hc1_ok 236 [0, 1]) Tryd.func12 rfl rfl (rs := [.tmp 6]) rfl rfl (by simp [envU]) rfl ?_
  have hl8 : h.l.length = 8 := rfl
  simp only [envU, hc1, retQx, go_sem, reduceCtorEq, ↓reduceIte, Nat.reduceAdd, Nat.reduceMul, Nat.reduceSub, Nat.reduceEqDiff, Nat.reduceLT, Nat.reduceBEq, Nat.reduceBNe, Nat.reduceLeDiff, Int.reduceLE, Int.reduceLT, Int.reduceToNat, Int.reduceEq, Int.reduceAdd, UInt8.reduceToNat, UInt32.reduceToNat, UInt64.reduceToNat, UInt8.reduceOfNat, UInt32.reduceOfNat, UInt64.reduceOfNat, Fin.isValue, Int.reduceSub, Int.reduceMul, Int.reduceNeg, Int.reduceMod, Int.reduceDiv, Int.reduceTDiv, Int.reduceTMod, Int.reduceBEq, Int.reduceBNe, Nat.reduceDiv, Nat.reducePow]
  refine loop_inv (envU_ok hc1_ok 236 [0, 1]) (rb1 K h s wk wh) (fun t => t ≤ 64) (fun t => 64 - t) 0 [] (by omega) ?_ ?_
  · simp only [rb1, go_sem, reduceCtorEq, ↓reduceIte, Nat.reduceAdd, Nat.reduceMul, Nat.reduceSub, Nat.reduceEqDiff, Nat.reduceLT, Nat.reduceBEq, Nat.reduceBNe, Nat.reduceLeDiff, Int.reduceLE, Int.reduceLT, Int.reduceToNat, Int.reduceEq, Int.reduceAdd, UInt8.reduceToNat, UInt32.reduceToNat, UInt64.reduceToNat, UInt8.reduceOfNat, UInt32.reduceOfNat, UInt64.reduceOfNat, Fin.isValue, Int.reduceSub, Int.reduceMul, Int.reduceNeg, Int.reduceMod, Int.reduceDiv, Int.reduceTDiv, Int.reduceTMod, Int.reduceBEq, Int.reduceBNe, Nat.reduceDiv, Nat.reducePow]
    exact ⟨rfl, id, id⟩
  · intro t ht
    have hl := schedR_len s t
    have w0 : IntKind.i64.wrap (4 * (t : Int)) = ((4 * t : Nat) : Int) := by rw [IntKind.wrap_i64]; omega
    have w1 : IntKind.i64.wrap (((4 * t : Nat) : Int) + 1) = ((4 * t + 1 : Nat) : Int) := by rw [IntKind.wrap_i64]; omega
    have w2 : IntKind.i64.wrap (((4 * t : Nat) : Int) + 2) = ((4 * t + 2 : Nat) : Int) := by rw [IntKind.wrap_i64]; omega
    have w3 : IntKind.i64.wrap (((4 * t : Nat) : Int) + 3) = ((4 * t + 3 : Nat) : Int) := by rw [IntKind.wrap_i64]; omega
    have w4 : IntKind.i64.wrap ((t : Int) + 1) = ((t + 1 : Nat) : Int) := by rw [IntKind.wrap_i64]; omega
    rcases t with _ | t
    · have hsu : schedR s (0 + 1) = [wb s 0] := rfl
      unfold wb at hsu
      simp only [Nat.mul_zero, Nat.zero_add] at hsu
      simp only [rb1, hs, u32L_st, u32L_d, u32L_enc, u32L_up, envU, hc1, retQx, go_sem, reduceCtorEq, ↓reduceIte, Nat.reduceAdd, Nat.reduceMul, Nat.reduceSub, Nat.reduceEqDiff, Nat.reduceLT, Nat.reduceBEq, Nat.reduceBNe, Nat.reduceLeDiff, Int.reduceLE, Int.reduceLT, Int.reduceToNat, Int.reduceEq, Int.reduceAdd, UInt8.reduceToNat, UInt32.reduceToNat, UInt64.reduceToNat, UInt8.reduceOfNat, UInt32.reduceOfNat, UInt64.reduceOfNat, Fin.isValue, Int.reduceSub, Int.reduceMul, Int.reduceNeg, Int.reduceMod, Int.reduceDiv, Int.reduceTDiv, Int.reduceTMod, Int.reduceBEq, Int.reduceBNe, Nat.reduceDiv, Nat.reducePow]
      repeat' apply And.intro
      all_goals first
        | omega
        | rfl
        | skip
      refine again (0 + 1) [(500, 70248)] (by omega) (by omega) ?_
      simp only [rb1, hsu, u32L_enc, envU, go_sem, reduceCtorEq, ↓reduceIte, Nat.reduceAdd, Nat.reduceMul, Nat.reduceSub, Nat.reduceEqDiff, Nat.reduceLT, Nat.reduceBEq, Nat.reduceBNe, Nat.reduceLeDiff, Int.reduceLE, Int.reduceLT, Int.reduceToNat, Int.reduceEq, Int.reduceAdd, UInt8.reduceToNat, UInt32.reduceToNat, UInt64.reduceToNat, UInt8.reduceOfNat, UInt32.reduceOfNat, UInt64.reduceOfNat, Fin.isValue, Int.reduceSub, Int.reduceMul, Int.reduceNeg, Int.reduceMod, Int.reduceDiv, Int.reduceTDiv, Int.reduceTMod, Int.reduceBEq, Int.reduceBNe, Nat.reduceDiv, Nat.reducePow]
      all_goals first
        | exact ⟨rfl, id, id⟩
        | exact ⟨rfl, id, id, rfl⟩
        | trace_state
    · simp only [rb1, envU, hc1, retQx, go_sem, reduceCtorEq, ↓reduceIte, Nat.reduceAdd, Nat.reduceMul, Nat.reduceSub, Nat.reduceEqDiff, Nat.reduceLT, Nat.reduceBEq, Nat.reduceBNe, Nat.reduceLeDiff, Int.reduceLE, Int.reduceLT, Int.reduceToNat, Int.reduceEq, Int.reduceAdd, UInt8.reduceToNat, UInt32.reduceToNat, UInt64.reduceToNat, UInt8.reduceOfNat, UInt32.reduceOfNat, UInt64.reduceOfNat, Fin.isValue, Int.reduceSub, Int.reduceMul, Int.reduceNeg, Int.reduceMod, Int.reduceDiv, Int.reduceTDiv, Int.reduceTMod, Int.reduceBEq, Int.reduceBNe, Nat.reduceDiv, Nat.reducePow]
      refine br (fun hc => ?_) fun hc => ?_
      · have hc' := of_decide_eq_true hc
        cases h16 : decide (((t + 1 : Nat) : Int) < 16) with
        | true =>
          have g16 := of_decide_eq_true h16
          have hsu : schedR s (t + 1 + 1) = schedR s (t + 1) ++ [wb s (t + 1)] := by rw [schedR, if_pos (by omega)]
          unfold wb at hsu
          simp only [hc, h16, w0, w1, w2, w3, w4, hs, u32L_st, u32L_d, u32L_enc, u32L_up, envU, hc1, retQx, go_sem, reduceCtorEq, ↓reduceIte, Nat.reduceAdd, Nat.reduceMul, Nat.reduceSub, Nat.reduceEqDiff, Nat.reduceLT, Nat.reduceBEq, Nat.reduceBNe, Nat.reduceLeDiff, Int.reduceLE, Int.reduceLT, Int.reduceToNat, Int.reduceEq, Int.reduceAdd, UInt8.reduceToNat, UInt32.reduceToNat, UInt64.reduceToNat, UInt8.reduceOfNat, UInt32.reduceOfNat, UInt64.reduceOfNat, Fin.isValue, Int.reduceSub, Int.reduceMul, Int.reduceNeg, Int.reduceMod, Int.reduceDiv, Int.reduceTDiv, Int.reduceTMod, Int.reduceBEq, Int.reduceBNe, Nat.reduceDiv, Nat.reducePow]
          repeat' apply And.intro
          all_goals first
            | omega
            | rfl
            | skip
          refine again (t + 1 + 1) [(500, 70248)] (by omega) (by omega) ?_
          simp only [rb1, hsu, u32L_enc, envU, go_sem, reduceCtorEq, ↓reduceIte, Nat.reduceAdd, Nat.reduceMul, Nat.reduceSub, Nat.reduceEqDiff, Nat.reduceLT, Nat.reduceBEq, Nat.reduceBNe, Nat.reduceLeDiff, Int.reduceLE, Int.reduceLT, Int.reduceToNat, Int.reduceEq, Int.reduceAdd, UInt8.reduceToNat, UInt32.reduceToNat, UInt64.reduceToNat, UInt8.reduceOfNat, UInt32.reduceOfNat, UInt64.reduceOfNat, Fin.isValue, Int.reduceSub, Int.reduceMul, Int.reduceNeg, Int.reduceMod, Int.reduceDiv, Int.reduceTDiv, Int.reduceTMod, Int.reduceBEq, Int.reduceBNe, Nat.reduceDiv, Nat.reducePow]
          all_goals first
            | exact ⟨rfl, id, id⟩
            | trace_state
        | false =>
          have g16 := of_decide_eq_false h16
          have z0 : IntKind.i64.wrap (((t + 1 : Nat) : Int) - 15) = ((t + 1 - 15 : Nat) : Int) := by rw [IntKind.wrap_i64]; omega
          have z1 : IntKind.i64.wrap (((t + 1 : Nat) : Int) - 2) = ((t + 1 - 2 : Nat) : Int) := by rw [IntKind.wrap_i64]; omega
          have z2 : IntKind.i64.wrap (((t + 1 : Nat) : Int) - 16) = ((t + 1 - 16 : Nat) : Int) := by rw [IntKind.wrap_i64]; omega
          have z3 : IntKind.i64.wrap (((t + 1 : Nat) : Int) - 7) = ((t + 1 - 7 : Nat) : Int) := by rw [IntKind.wrap_i64]; omega
          have hsu : schedR s (t + 1 + 1) = schedR s (t + 1) ++ [nextR (schedR s (t + 1)) (t + 1)] := by rw [schedR, if_neg (by omega)]
          unfold nextR at hsu
          simp only [hc, h16, z0, z1, z2, z3, w4, rightC, u32L_st, u32L_d, u32L_enc, u32L_up, envU, hc1, retQx, go_sem, reduceCtorEq, ↓reduceIte, Nat.reduceAdd, Nat.reduceMul, Nat.reduceSub, Nat.reduceEqDiff, Nat.reduceLT, Nat.reduceBEq, Nat.reduceBNe, Nat.reduceLeDiff, Int.reduceLE, Int.reduceLT, Int.reduceToNat, Int.reduceEq, Int.reduceAdd, UInt8.reduceToNat, UInt32.reduceToNat, UInt64.reduceToNat, UInt8.reduceOfNat, UInt32.reduceOfNat, UInt64.reduceOfNat, Fin.isValue, Int.reduceSub, Int.reduceMul, Int.reduceNeg, Int.reduceMod, Int.reduceDiv, Int.reduceTDiv, Int.reduceTMod, Int.reduceBEq, Int.reduceBNe, Nat.reduceDiv, Nat.reducePow]
          repeat' apply And.intro
          all_goals first
            | omega
            | rfl
            | skip
          refine again (t + 1 + 1) [(500, 90248)] (by omega) (by omega) ?_
          simp only [rb1, hsu, u32L_enc, envU, go_sem, reduceCtorEq, ↓reduceIte, Nat.reduceAdd, Nat.reduceMul, Nat.reduceSub, Nat.reduceEqDiff, Nat.reduceLT, Nat.reduceBEq, Nat.reduceBNe, Nat.reduceLeDiff, Int.reduceLE, Int.reduceLT, Int.reduceToNat, Int.reduceEq, Int.reduceAdd, UInt8.reduceToNat, UInt32.reduceToNat, UInt64.reduceToNat, UInt8.reduceOfNat, UInt32.reduceOfNat, UInt64.reduceOfNat, Fin.isValue, Int.reduceSub, Int.reduceMul, Int.reduceNeg, Int.reduceMod, Int.reduceDiv, Int.reduceTDiv, Int.reduceTMod, Int.reduceBEq, Int.reduceBNe, Nat.reduceDiv, Nat.reducePow]
          all_goals first
            | exact ⟨rfl, id, id⟩
            | trace_state
      · obtain rfl : t = 63 := by have := of_decide_eq_false hc; omega
        have hl64 : (schedR s 64).length = 64 := schedR_len s 64
        simp only [hc, hl8, W8.l, u32L_st, u32L_d, u32L_enc, envU, hc1, retQx, go_sem, reduceCtorEq, ↓reduceIte, Nat.reduceAdd, Nat.reduceMul, Nat.reduceSub, Nat.reduceEqDiff, Nat.reduceLT, Nat.reduceBEq, Nat.reduceBNe, Nat.reduceLeDiff, Int.reduceLE, Int.reduceLT, Int.reduceToNat, Int.reduceEq, Int.reduceAdd, UInt8.reduceToNat, UInt32.reduceToNat, UInt64.reduceToNat, UInt8.reduceOfNat, UInt32.reduceOfNat, UInt64.reduceOfNat, Fin.isValue, Int.reduceSub, Int.reduceMul, Int.reduceNeg, Int.reduceMod, Int.reduceDiv, Int.reduceTDiv, Int.reduceTMod, Int.reduceBEq, Int.reduceBNe, Nat.reduceDiv, Nat.reducePow]
        refine ⟨rfl, ?_⟩
        refine loop_inv (envU_ok hc1_ok 236 [0, 1]) (rb2 K h s wk wh) (fun t => t ≤ 64) (fun t => 64 - t) 0 [] (by omega) ?_ ?_
        · simp only [rb2, vR, W8.l, envU, go_sem, reduceCtorEq, ↓reduceIte, Nat.reduceAdd, Nat.reduceMul, Nat.reduceSub, Nat.reduceEqDiff, Nat.reduceLT, Nat.reduceBEq, Nat.reduceBNe, Nat.reduceLeDiff, Int.reduceLE, Int.reduceLT, Int.reduceToNat, Int.reduceEq, Int.reduceAdd, UInt8.reduceToNat, UInt32.reduceToNat, UInt64.reduceToNat, UInt8.reduceOfNat, UInt32.reduceOfNat, UInt64.reduceOfNat, Fin.isValue, Int.reduceSub, Int.reduceMul, Int.reduceNeg, Int.reduceMod, Int.reduceDiv, Int.reduceTDiv, Int.reduceTMod, Int.reduceBEq, Int.reduceBNe, Nat.reduceDiv, Nat.reducePow]
          all_goals first
            | exact ⟨rfl, id, id⟩
            | trace_state
        · intro t ht
          simp only [rb2, W8.l, envU, hc1, retQx, go_sem, reduceCtorEq, ↓reduceIte, Nat.reduceAdd, Nat.reduceMul, Nat.reduceSub, Nat.reduceEqDiff, Nat.reduceLT, Nat.reduceBEq, Nat.reduceBNe, Nat.reduceLeDiff, Int.reduceLE, Int.reduceLT, Int.reduceToNat, Int.reduceEq, Int.reduceAdd, UInt8.reduceToNat, UInt32.reduceToNat, UInt64.reduceToNat, UInt8.reduceOfNat, UInt32.reduceOfNat, UInt64.reduceOfNat, Fin.isValue, Int.reduceSub, Int.reduceMul, Int.reduceNeg, Int.reduceMod, Int.reduceDiv, Int.reduceTDiv, Int.reduceTMod, Int.reduceBEq, Int.reduceBNe, Nat.reduceDiv, Nat.reducePow]
          refine br (fun hc => ?_) fun hc => ?_
          · have hc' := of_decide_eq_true hc
            have w4 : IntKind.i64.wrap ((t : Int) + 1) = ((t + 1 : Nat) : Int) := by rw [IntKind.wrap_i64]; omega
            simp only [hc, w4, hK, hl64, rightC, u32L_st, u32L_d, u32L_enc, envU, hc1, retQx, go_sem, reduceCtorEq, ↓reduceIte, Nat.reduceAdd, Nat.reduceMul, Nat.reduceSub, Nat.reduceEqDiff, Nat.reduceLT, Nat.reduceBEq, Nat.reduceBNe, Nat.reduceLeDiff, Int.reduceLE, Int.reduceLT, Int.reduceToNat, Int.reduceEq, Int.reduceAdd, UInt8.reduceToNat, UInt32.reduceToNat, UInt64.reduceToNat, UInt8.reduceOfNat, UInt32.reduceOfNat, UInt64.reduceOfNat, Fin.isValue, Int.reduceSub, Int.reduceMul, Int.reduceNeg, Int.reduceMod, Int.reduceDiv, Int.reduceTDiv, Int.reduceTMod, Int.reduceBEq, Int.reduceBNe, Nat.reduceDiv, Nat.reducePow]
            repeat' apply And.intro
            all_goals first
              | omega
              | rfl
              | skip
            refine again (t + 1) [] (by omega) (by omega) ?_
            simp only [rb2, vR, roundR, rT, rU, W8.l, envU, go_sem, reduceCtorEq, ↓reduceIte, Nat.reduceAdd, Nat.reduceMul, Nat.reduceSub, Nat.reduceEqDiff, Nat.reduceLT, Nat.reduceBEq, Nat.reduceBNe, Nat.reduceLeDiff, Int.reduceLE, Int.reduceLT, Int.reduceToNat, Int.reduceEq, Int.reduceAdd, UInt8.reduceToNat, UInt32.reduceToNat, UInt64.reduceToNat, UInt8.reduceOfNat, UInt32.reduceOfNat, UInt64.reduceOfNat, Fin.isValue, Int.reduceSub, Int.reduceMul, Int.reduceNeg, Int.reduceMod, Int.reduceDiv, Int.reduceTDiv, Int.reduceTMod, Int.reduceBEq, Int.reduceBNe, Nat.reduceDiv, Nat.reducePow]
            all_goals first
              | exact ⟨rfl, id, id⟩
              | trace_state
          · obtain rfl : t = 64 := by have := of_decide_eq_false hc; omega
            simp only [hc, u32L_st, u32L_d, u32L_enc, envU, hc1, retQx, go_sem, reduceCtorEq, ↓reduceIte, Nat.reduceAdd, Nat.reduceMul, Nat.reduceSub, Nat.reduceEqDiff, Nat.reduceLT, Nat.reduceBEq, Nat.reduceBNe, Nat.reduceLeDiff, Int.reduceLE, Int.reduceLT, Int.reduceToNat, Int.reduceEq, Int.reduceAdd, UInt8.reduceToNat, UInt32.reduceToNat, UInt64.reduceToNat, UInt8.reduceOfNat, UInt32.reduceOfNat, UInt64.reduceOfNat, Fin.isValue, Int.reduceSub, Int.reduceMul, Int.reduceNeg, Int.reduceMod, Int.reduceDiv, Int.reduceTDiv, Int.reduceTMod, Int.reduceBEq, Int.reduceBNe, Nat.reduceDiv, Nat.reducePow]
            repeat' apply And.intro
            all_goals first
              | omega
              | rfl
              | skip
            refine endX [(2, 190320)] ?_
            simp only [blockR, W8.l, u32L_enc, u32L_st, envU, go_sem, reduceCtorEq, ↓reduceIte, Nat.reduceAdd, Nat.reduceMul, Nat.reduceSub, Nat.reduceEqDiff, Nat.reduceLT, Nat.reduceBEq, Nat.reduceBNe, Nat.reduceLeDiff, Int.reduceLE, Int.reduceLT, Int.reduceToNat, Int.reduceEq, Int.reduceAdd, UInt8.reduceToNat, UInt32.reduceToNat, UInt64.reduceToNat, UInt8.reduceOfNat, UInt32.reduceOfNat, UInt64.reduceOfNat, Fin.isValue, Int.reduceSub, Int.reduceMul, Int.reduceNeg, Int.reduceMod, Int.reduceDiv, Int.reduceTDiv, Int.reduceTMod, Int.reduceBEq, Int.reduceBNe, Nat.reduceDiv, Nat.reducePow]
            all_goals first
              | exact ⟨rfl, id, id⟩
              | trace_state
end Go.Proofs.YtdkogjjebbdngaaDoor
