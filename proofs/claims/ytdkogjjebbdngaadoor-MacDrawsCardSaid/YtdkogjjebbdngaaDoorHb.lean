/-
  Layer 1: the table; the state behind a block.
-/
import Derived.Test.YtdkogjjebbdngaaDoorSz
import Derived.Test.YtdkogjjebbdngaaDoorHa
import Derived.Test.YtdkogjjebbdngaaDoorGf
namespace Go.Proofs.YtdkogjjebbdngaaDoor
open Go Go.RowKit
set_option maxHeartbeats 4000000
set_option linter.unusedSimpArgs false
set_option linter.unusedVariables false
def kL : List UInt32 := [0x428a2f98, 0x71374491, 0xb5c0fbcf, 0xe9b5dba5, 0x3956c25b, 0x59f111f1, 0x923f82a4, 0xab1c5ed5, 0xd807aa98, 0x12835b01, 0x243185be, 0x550c7dc3, 0x72be5d74, 0x80deb1fe, 0x9bdc06a7, 0xc19bf174, 0xe49b69c1, 0xefbe4786, 0x0fc19dc6, 0x240ca1cc, 0x2de92c6f, 0x4a7484aa, 0x5cb0a9dc, 0x76f988da, 0x983e5152, 0xa831c66d, 0xb00327c8, 0xbf597fc7, 0xc6e00bf3, 0xd5a79147, 0x06ca6351, 0x14292967, 0x27b70a85, 0x2e1b2138, 0x4d2c6dfc, 0x53380d13, 0x650a7354, 0x766a0abb, 0x81c2c92e, 0x92722c85, 0xa2bfe8a1, 0xa81a664b, 0xc24b8b70, 0xc76c51a3, 0xd192e819, 0xd6990624, 0xf40e3585, 0x106aa070, 0x19a4c116, 0x1e376c08, 0x2748774c, 0x34b0bcb5, 0x391c0cb3, 0x4ed8aa4a, 0x5b9cca4f, 0x682e6ff3, 0x748f82ee, 0x78a5636f, 0x84c87814, 0x8cc70208, 0x90befffa, 0xa4506ceb, 0xbef9a3f7, 0xc67178f2]
theorem kL_len : kL.length = 64 := rfl
noncomputable def gK : GFact := gTab Tryd.prog "mailsack/sha.constants" .u32 (kL.map fun x => (x.toNat : Int)) 0 (by kernel_rfl)
theorem gK_obj (r : Lc) (w : World) (h : gK.p w) : ObjRel r w (some (((0 : Nat), some 0), 64)) (.arr UInt32 u32L kL) := fun _ => by
  have h : Lib.TabIs Tryd.prog w "mailsack/sha.constants" .u32 (kL.map fun x => (x.toNat : Int)) := h
  unfold Lib.TabIs World.var? at h
  rw [show Tryd.prog.globalNamed "mailsack/sha.constants" = some 0 from by kernel_rfl] at h
  simp only [Option.bind_some] at h
  split at h
  · rename_i cs t fz hq
    injection h with h
    refine .inr ⟨(0, some 0), 64, cs, rfl, ⟨cs, t, fz, hq, fun j => rfl, fun e => by cases e⟩, ?_, ?_⟩
    · rw [h]; simp [kL_len, SObj.stride, u32L_st]
    · intro j x hx
      have hx : (kL.flatMap u32L.enc)[j]? = some x := hx
      rw [u32_flat, List.getElem?_map] at hx
      cases hy : kL[j]? with
      | none => rw [hy] at hx; cases hx
      | some y =>
        rw [hy] at hx
        cases hx
        exact ⟨.int .u32 (y.toNat : Int), by rw [h]; simp [hy], rfl⟩
  · cases h
noncomputable def envH (ga : Nat → Option Con) (nt : Nat) : Env := ⟨ty, ga, [0], nt, [], [gK]⟩
theorem envH_ok {ga : Nat → Option Con} (h : GaOkG Tryd.prog [gK] ga) (nt : Nat) : EnvOk Tryd.prog (envH ga nt) := ⟨ty_ok, h, by first | rfl | decide⟩
def ha2 : Nat → Option Con := fun f => match f with
  | 26 => some scheduleC
  | 27 => some roundC
  | _ => none
theorem ha2_ok : GaOkG Tryd.prog [gK] ha2 := fun f con h => by
  unfold ha2 at h
  split at h
  · injection h with h; subst h; exact ConOk.up scheduleC_ok
  · injection h with h; subst h; exact ConOk.up roundC_ok
  · cases h
def vS (st : W8) (s : List UInt8) : Nat → W8
  | 0 => st
  | t + 1 => roundW (vS st s t) ((schedL s 64).getD t 0 + kL.getD t 0)
def blockW (st : W8) (s : List UInt8) : W8 := ⟨(vS st s 64).a + st.a, (vS st s 64).b + st.b, (vS st s 64).c + st.c, (vS st s 64).d + st.d, (vS st s 64).e + st.e, (vS st s 64).f + st.f, (vS st s 64).g + st.g, (vS st s 64).h + st.h⟩
def W8.cells (v : W8) : SObj := .cells 1 [.u32 v.a, .u32 v.b, .u32 v.c, .u32 v.d, .u32 v.e, .u32 v.f, .u32 v.g, .u32 v.h]
def zero8 : W8 := ⟨0, 0, 0, 0, 0, 0, 0, 0⟩
def blI (st : W8) (s : List UInt8) (t : Nat) : St := ⟨[(2, .c (.one (.ptr 10000 0 0 0))), (4, .c (.one (.ptr 10008 0 0 0))), (5, .c (.one (.ptr 40016 0 0 0))), (6, .c (.one (.ptr 50008 0 0 0))), (16, .c (.one (.num t)))], [(10000, ⟨st.cells, true⟩), (10008, ⟨zero8.cells, true⟩), (40016, ⟨.arr UInt32 u32L (schedL s 64), true⟩), (50008, ⟨(vS st s t).cells, true⟩), (1000000000000000 + 0, ⟨.arr UInt32 u32L kL, false⟩)]⟩
set_option maxRecDepth 100000 in
theorem block_tri (st : W8) (s : List UInt8) : TriG Tryd.prog [gK] 11 [st.cv, .one (.str s)] [] (.c (if s.length = 64 then blockW st s else st).cv) [] := by
  refine tri_ofg (envH_ok ha2_ok 42) Tryd.func11 rfl rfl (rs := [.cell 4 26]) rfl (gf := gK) rfl (List.mem_singleton.2 rfl) rfl gK_obj rfl (by simp [envH]) rfl ?_
  cases h : ((s.length : Int) == 64) with
  | false =>
    have hn : s.length ≠ 64 := fun e => by rw [e] at h; exact absurd h (by decide)
    rw [if_neg hn]
    simp only [envH, ha2, h, W8.cv, W8.eta, gid, retQx, u32L_st, bne, go_sem, reduceCtorEq, ↓reduceIte, Nat.reduceAdd, Nat.reduceMul, Nat.reduceSub, Nat.reduceEqDiff, Nat.reduceLT, Nat.reduceBEq, Nat.reduceBNe, Nat.reduceLeDiff, Int.reduceLE, Int.reduceLT, Int.reduceToNat, Int.reduceEq, Int.reduceAdd, UInt8.reduceToNat, UInt32.reduceToNat, UInt64.reduceToNat, UInt8.reduceOfNat, UInt32.reduceOfNat, UInt64.reduceOfNat, Fin.isValue, Int.reduceSub, Int.reduceMul, Int.reduceNeg, Int.reduceMod, Int.reduceDiv, Int.reduceTDiv, Int.reduceTMod, Int.reduceBEq, Int.reduceBNe, Nat.reduceDiv, Nat.reducePow]
    refine endX [] ?_
    simp only [envH, W8.cv, go_sem, reduceCtorEq, ↓reduceIte, Nat.reduceAdd, Nat.reduceMul, Nat.reduceSub, Nat.reduceEqDiff, Nat.reduceLT, Nat.reduceBEq, Nat.reduceBNe, Nat.reduceLeDiff, Int.reduceLE, Int.reduceLT, Int.reduceToNat, Int.reduceEq, Int.reduceAdd, UInt8.reduceToNat, UInt32.reduceToNat, UInt64.reduceToNat, UInt8.reduceOfNat, UInt32.reduceOfNat, UInt64.reduceOfNat, Fin.isValue, Int.reduceSub, Int.reduceMul, Int.reduceNeg, Int.reduceMod, Int.reduceDiv, Int.reduceTDiv, Int.reduceTMod, Int.reduceBEq, Int.reduceBNe, Nat.reduceDiv, Nat.reducePow]
    all_goals trace_state
  | true =>
    have hs : s.length = 64 := by have := beq_iff_eq.1 h; omega
    have h64 := schedL_len s 64
    rw [if_pos hs]
    simp only [h, hs, envH, ha2, scheduleC, roundC, con0, W8.cv, W8.eta, gid, retQx, u32L_st, u32L_d, u32L_enc, bne, List.length_map, h64, kL_len, u32_ren, u32_flat, go_sem, reduceCtorEq, ↓reduceIte, Nat.reduceAdd, Nat.reduceMul, Nat.reduceSub, Nat.reduceEqDiff, Nat.reduceLT, Nat.reduceBEq, Nat.reduceBNe, Nat.reduceLeDiff, Int.reduceLE, Int.reduceLT, Int.reduceToNat, Int.reduceEq, Int.reduceAdd, UInt8.reduceToNat, UInt32.reduceToNat, UInt64.reduceToNat, UInt8.reduceOfNat, UInt32.reduceOfNat, UInt64.reduceOfNat, Fin.isValue, Int.reduceSub, Int.reduceMul, Int.reduceNeg, Int.reduceMod, Int.reduceDiv, Int.reduceTDiv, Int.reduceTMod, Int.reduceBEq, Int.reduceBNe, Nat.reduceDiv, Nat.reducePow]
    refine ⟨u32_plain _, ?_⟩
    refine loop_inv (envH_ok ha2_ok 42) (blI st s) (fun t => t ≤ 64) (fun t => 64 - t) 0 [] (by omega) ?_ ?_
    · simp only [blI, vS, W8.cells, zero8, envH, ha2, scheduleC, roundC, con0, W8.cv, W8.eta, gid, retQx, u32L_st, u32L_d, u32L_enc, bne, List.length_map, h64, kL_len, u32_ren, u32_flat, go_sem, reduceCtorEq, ↓reduceIte, Nat.reduceAdd, Nat.reduceMul, Nat.reduceSub, Nat.reduceEqDiff, Nat.reduceLT, Nat.reduceBEq, Nat.reduceBNe, Nat.reduceLeDiff, Int.reduceLE, Int.reduceLT, Int.reduceToNat, Int.reduceEq, Int.reduceAdd, UInt8.reduceToNat, UInt32.reduceToNat, UInt64.reduceToNat, UInt8.reduceOfNat, UInt32.reduceOfNat, UInt64.reduceOfNat, Fin.isValue, Int.reduceSub, Int.reduceMul, Int.reduceNeg, Int.reduceMod, Int.reduceDiv, Int.reduceTDiv, Int.reduceTMod, Int.reduceBEq, Int.reduceBNe, Nat.reduceDiv, Nat.reducePow]
      repeat' apply And.intro
      all_goals first
        | rfl
        | exact fun x hx => by obtain ⟨y, _, rfl⟩ := List.mem_map.1 hx; rfl
        | trace_state
    · intro t ht
      simp only [blI, W8.cells, zero8, envH, ha2, scheduleC, roundC, con0, W8.cv, W8.eta, gid, retQx, u32L_st, u32L_d, u32L_enc, bne, List.length_map, h64, kL_len, u32_ren, u32_flat, go_sem, reduceCtorEq, ↓reduceIte, Nat.reduceAdd, Nat.reduceMul, Nat.reduceSub, Nat.reduceEqDiff, Nat.reduceLT, Nat.reduceBEq, Nat.reduceBNe, Nat.reduceLeDiff, Int.reduceLE, Int.reduceLT, Int.reduceToNat, Int.reduceEq, Int.reduceAdd, UInt8.reduceToNat, UInt32.reduceToNat, UInt64.reduceToNat, UInt8.reduceOfNat, UInt32.reduceOfNat, UInt64.reduceOfNat, Fin.isValue, Int.reduceSub, Int.reduceMul, Int.reduceNeg, Int.reduceMod, Int.reduceDiv, Int.reduceTDiv, Int.reduceTMod, Int.reduceBEq, Int.reduceBNe, Nat.reduceDiv, Nat.reducePow]
      refine br (fun hc => ?_) fun hc => ?_
      · have hc' := of_decide_eq_true hc
        have w4 : IntKind.i64.wrap ((t : Int) + 1) = ((t + 1 : Nat) : Int) := by rw [IntKind.wrap_i64]; omega
        simp only [hc, w4, envH, ha2, scheduleC, roundC, con0, W8.cv, W8.eta, gid, retQx, u32L_st, u32L_d, u32L_enc, bne, List.length_map, h64, kL_len, u32_ren, u32_flat, go_sem, reduceCtorEq, ↓reduceIte, Nat.reduceAdd, Nat.reduceMul, Nat.reduceSub, Nat.reduceEqDiff, Nat.reduceLT, Nat.reduceBEq, Nat.reduceBNe, Nat.reduceLeDiff, Int.reduceLE, Int.reduceLT, Int.reduceToNat, Int.reduceEq, Int.reduceAdd, UInt8.reduceToNat, UInt32.reduceToNat, UInt64.reduceToNat, UInt8.reduceOfNat, UInt32.reduceOfNat, UInt64.reduceOfNat, Fin.isValue, Int.reduceSub, Int.reduceMul, Int.reduceNeg, Int.reduceMod, Int.reduceDiv, Int.reduceTDiv, Int.reduceTMod, Int.reduceBEq, Int.reduceBNe, Nat.reduceDiv, Nat.reducePow]
        repeat' apply And.intro
        all_goals first
          | omega
          | rfl
          | skip
        refine again (t + 1) [] (by omega) (by omega) ?_
        simp only [blI, vS, W8.cells, zero8, envH, ha2, scheduleC, roundC, con0, W8.cv, W8.eta, gid, retQx, u32L_st, u32L_d, u32L_enc, bne, List.length_map, h64, kL_len, u32_ren, u32_flat, go_sem, reduceCtorEq, ↓reduceIte, Nat.reduceAdd, Nat.reduceMul, Nat.reduceSub, Nat.reduceEqDiff, Nat.reduceLT, Nat.reduceBEq, Nat.reduceBNe, Nat.reduceLeDiff, Int.reduceLE, Int.reduceLT, Int.reduceToNat, Int.reduceEq, Int.reduceAdd, UInt8.reduceToNat, UInt32.reduceToNat, UInt64.reduceToNat, UInt8.reduceOfNat, UInt32.reduceOfNat, UInt64.reduceOfNat, Fin.isValue, Int.reduceSub, Int.reduceMul, Int.reduceNeg, Int.reduceMod, Int.reduceDiv, Int.reduceTDiv, Int.reduceTMod, Int.reduceBEq, Int.reduceBNe, Nat.reduceDiv, Nat.reducePow]
        repeat' apply And.intro
        all_goals first
          | rfl
          | exact fun x hx => by obtain ⟨y, _, rfl⟩ := List.mem_map.1 hx; rfl
          | trace_state
      · obtain rfl : t = 64 := by have := of_decide_eq_false hc; omega
        simp only [hc, envH, ha2, scheduleC, roundC, con0, W8.cv, W8.eta, gid, retQx, u32L_st, u32L_d, u32L_enc, bne, List.length_map, h64, kL_len, u32_ren, u32_flat, go_sem, reduceCtorEq, ↓reduceIte, Nat.reduceAdd, Nat.reduceMul, Nat.reduceSub, Nat.reduceEqDiff, Nat.reduceLT, Nat.reduceBEq, Nat.reduceBNe, Nat.reduceLeDiff, Int.reduceLE, Int.reduceLT, Int.reduceToNat, Int.reduceEq, Int.reduceAdd, UInt8.reduceToNat, UInt32.reduceToNat, UInt64.reduceToNat, UInt8.reduceOfNat, UInt32.reduceOfNat, UInt64.reduceOfNat, Fin.isValue, Int.reduceSub, Int.reduceMul, Int.reduceNeg, Int.reduceMod, Int.reduceDiv, Int.reduceTDiv, Int.reduceTMod, Int.reduceBEq, Int.reduceBNe, Nat.reduceDiv, Nat.reducePow]
        refine loop_rounds (envH_ok ha2_ok 42) 9 ?_
        simp only [envH, ha2, scheduleC, roundC, con0, W8.cv, W8.eta, gid, retQx, u32L_st, u32L_d, u32L_enc, bne, List.length_map, h64, kL_len, u32_ren, u32_flat, go_sem, reduceCtorEq, ↓reduceIte, Nat.reduceAdd, Nat.reduceMul, Nat.reduceSub, Nat.reduceEqDiff, Nat.reduceLT, Nat.reduceBEq, Nat.reduceBNe, Nat.reduceLeDiff, Int.reduceLE, Int.reduceLT, Int.reduceToNat, Int.reduceEq, Int.reduceAdd, UInt8.reduceToNat, UInt32.reduceToNat, UInt64.reduceToNat, UInt8.reduceOfNat, UInt32.reduceOfNat, UInt64.reduceOfNat, Fin.isValue, Int.reduceSub, Int.reduceMul, Int.reduceNeg, Int.reduceMod, Int.reduceDiv, Int.reduceTDiv, Int.reduceTMod, Int.reduceBEq, Int.reduceBNe, Nat.reduceDiv, Nat.reducePow]
        repeat' apply And.intro
        all_goals first
          | rfl
          | skip
        refine endX [] ?_
        simp only [blockW, envH, ha2, scheduleC, roundC, con0, W8.cv, W8.eta, gid, retQx, u32L_st, u32L_d, u32L_enc, bne, List.length_map, h64, kL_len, u32_ren, u32_flat, go_sem, reduceCtorEq, ↓reduceIte, Nat.reduceAdd, Nat.reduceMul, Nat.reduceSub, Nat.reduceEqDiff, Nat.reduceLT, Nat.reduceBEq, Nat.reduceBNe, Nat.reduceLeDiff, Int.reduceLE, Int.reduceLT, Int.reduceToNat, Int.reduceEq, Int.reduceAdd, UInt8.reduceToNat, UInt32.reduceToNat, UInt64.reduceToNat, UInt8.reduceOfNat, UInt32.reduceOfNat, UInt64.reduceOfNat, Fin.isValue, Int.reduceSub, Int.reduceMul, Int.reduceNeg, Int.reduceMod, Int.reduceDiv, Int.reduceTDiv, Int.reduceTMod, Int.reduceBEq, Int.reduceBNe, Nat.reduceDiv, Nat.reducePow]
        all_goals first
          | rfl
          | trace_state
end Go.Proofs.YtdkogjjebbdngaaDoor
