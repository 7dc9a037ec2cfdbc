/-
  Layer 4: the document's sum of two points, and a point twice, walked.
-/
import Derived.Test.YtdkmkifebhggeaaSz
import Derived.Test.YtdkmkifebhggeaaKm
namespace Go.Proofs.Ytdkmkifebhggeaa
open Go Go.RowKit
set_option maxHeartbeats 8000000
set_option linter.unusedSimpArgs false
set_option linter.unusedVariables false
def bM (ax az bx bz : List Nat) : List Nat := rMul (rSub bx bz) (rAdd ax az)
def bN (ax az bx bz : List Nat) : List Nat := rMul (rAdd bx bz) (rSub ax az)
def bX (ax az bx bz : List Nat) : List Nat := rMul (rAdd (bM ax az bx bz) (bN ax az bx bz)) (rAdd (bM ax az bx bz) (bN ax az bx bz))
def bZ (ax az bx bz x : List Nat) : List Nat := rMul x (rMul (rSub (bM ax az bx bz) (bN ax az bx bz)) (rSub (bM ax az bx bz) (bN ax az bx bz)))
def tA (x z : List Nat) : List Nat := rMul (rAdd x z) (rAdd x z)
def tB (x z : List Nat) : List Nat := rMul (rSub x z) (rSub x z)
def tE (x z : List Nat) : List Nat := rSub (tA x z) (tB x z)
def tX (x z : List Nat) : List Nat := rMul (tA x z) (tB x z)
def tZ (x z : List Nat) : List Nat := rMul (tE x z) (rAdd (tA x z) (rMul (smallL 121665) (tE x z)))
def gb1 : Nat → Option Con := fun f => match f with
  | 15 => some raddC
  | 17 => some rsubC
  | 20 => some rmulC
  | 22 => some rsmallC
  | _ => none
theorem gb1_ok : GaOk Try.prog gb1 := fun f con h => by
  unfold gb1 at h
  split at h
  · injection h with h; subst h; exact raddC_ok
  · injection h with h; subst h; exact rsubC_ok
  · injection h with h; subst h; exact rmulC_ok
  · injection h with h; subst h; exact rsmallC_ok
  · cases h
set_option maxRecDepth 100000 in
theorem both_tri (ax az bx bz x : List Nat) (w0 w1 w2 w3 w4 : Bool) (gax : goodR ax) (gaz : goodR az) (gbx : goodR bx) (gbz : goodR bz) (gx : goodR x) : Tri Try.prog 45 [.one (.sl 0 0 1 16), .one (.sl 1 0 1 16), .one (.sl 2 0 1 16), .one (.sl 3 0 1 16), .one (.sl 4 0 1 16)] [(0, ⟨.arr Nat natL ax, w0⟩), (1, ⟨.arr Nat natL az, w1⟩), (2, ⟨.arr Nat natL bx, w2⟩), (3, ⟨.arr Nat natL bz, w3⟩), (4, ⟨.arr Nat natL x, w4⟩)] (.tup [.one (.sl 5 0 1 16), .one (.sl 6 0 1 16)]) [(0, ⟨.arr Nat natL ax, w0⟩), (1, ⟨.arr Nat natL az, w1⟩), (2, ⟨.arr Nat natL bx, w2⟩), (3, ⟨.arr Nat natL bz, w3⟩), (4, ⟨.arr Nat natL x, w4⟩), (5, ⟨.arr Nat natL (bX ax az bx bz), true⟩), (6, ⟨.arr Nat natL (bZ ax az bx bz x), true⟩)] := by
  obtain ⟨v1, e1⟩ : ∃ v, rSub bx bz = v := ⟨_, rfl⟩
  have gv1 : goodR v1 := by rw [← e1]; exact gbx.sub gbz
  obtain ⟨v2, e2⟩ : ∃ v, rAdd ax az = v := ⟨_, rfl⟩
  have gv2 : goodR v2 := by rw [← e2]; exact gax.add gaz
  obtain ⟨v3, e3⟩ : ∃ v, rMul v1 v2 = v := ⟨_, rfl⟩
  have gv3 : goodR v3 := by rw [← e3]; exact gv1.mul gv2
  obtain ⟨v4, e4⟩ : ∃ v, rAdd bx bz = v := ⟨_, rfl⟩
  have gv4 : goodR v4 := by rw [← e4]; exact gbx.add gbz
  obtain ⟨v5, e5⟩ : ∃ v, rSub ax az = v := ⟨_, rfl⟩
  have gv5 : goodR v5 := by rw [← e5]; exact gax.sub gaz
  obtain ⟨v6, e6⟩ : ∃ v, rMul v4 v5 = v := ⟨_, rfl⟩
  have gv6 : goodR v6 := by rw [← e6]; exact gv4.mul gv5
  obtain ⟨v7, e7⟩ : ∃ v, rAdd v3 v6 = v := ⟨_, rfl⟩
  have gv7 : goodR v7 := by rw [← e7]; exact gv3.add gv6
  obtain ⟨v8, e8⟩ : ∃ v, rSub v3 v6 = v := ⟨_, rfl⟩
  have gv8 : goodR v8 := by rw [← e8]; exact gv3.sub gv6
  obtain ⟨v9, e9⟩ : ∃ v, rMul v7 v7 = v := ⟨_, rfl⟩
  have gv9 : goodR v9 := by rw [← e9]; exact gv7.mul gv7
  obtain ⟨v10, e10⟩ : ∃ v, rMul v8 v8 = v := ⟨_, rfl⟩
  have gv10 : goodR v10 := by rw [← e10]; exact gv8.mul gv8
  obtain ⟨v11, e11⟩ : ∃ v, rMul x v10 = v := ⟨_, rfl⟩
  have gv11 : goodR v11 := by rw [← e11]; exact gx.mul gv10
  have eX : bX ax az bx bz = v9 := by unfold bX bM bN; rw [e1, e2, e3, e4, e5, e6, e7, e9]
  have eZ : bZ ax az bx bz x = v11 := by unfold bZ bM bN; rw [e1, e2, e3, e4, e5, e6, e8, e10, e11]
  clear gv11
  refine tri_ofx (envR_ok gb1_ok 44 [0, 1, 2, 3, 4]) Try.func45 rfl rfl (rs := [.tmp 10, .tmp 11]) rfl rfl (by simp [envR]) rfl ?_
  simp only [conQ, row1F, row2F, retQx, e1, e2, e3, e4, e5, e6, e7, e8, e9, e10, e11, envR, con0, conN0, conN1, conN2, natsOf_arr, rowOf_arr, natsOf_cells, rowOf_cells, toN, natL_st, natL_d, natL_enc, natL_up, gb1, raddC, rsubC, rmulC, rsmallC, go_sem, reduceCtorEq, ↓reduceIte, Nat.reduceAdd, Nat.reduceMul, Nat.reduceSub, Nat.reduceEqDiff, Nat.reduceLT, Nat.reduceBEq, Nat.reduceBNe, Nat.reduceLeDiff, Int.reduceLE, Int.reduceLT, Int.reduceToNat, Int.reduceEq, Int.reduceAdd, UInt8.reduceToNat, UInt32.reduceToNat, UInt64.reduceToNat, UInt8.reduceOfNat, UInt32.reduceOfNat, UInt64.reduceOfNat, Fin.isValue, Int.reduceSub, Int.reduceMul, Int.reduceNeg, Int.reduceMod, Int.reduceDiv, Int.reduceTDiv, Int.reduceTMod, Int.reduceBEq, Int.reduceBNe, Nat.reduceDiv, Nat.reducePow]
  repeat' apply And.intro
  all_goals first
    | with_reducible assumption
    | omega
    | rfl
    | skip
  refine endX [(5, 50016), (6, 50056)] ?_
  simp only [eX, eZ, envR, con0, conN0, conN1, conN2, natsOf_arr, rowOf_arr, natsOf_cells, rowOf_cells, toN, natL_st, natL_d, natL_enc, natL_up, gb1, raddC, rsubC, rmulC, rsmallC, go_sem, reduceCtorEq, ↓reduceIte, Nat.reduceAdd, Nat.reduceMul, Nat.reduceSub, Nat.reduceEqDiff, Nat.reduceLT, Nat.reduceBEq, Nat.reduceBNe, Nat.reduceLeDiff, Int.reduceLE, Int.reduceLT, Int.reduceToNat, Int.reduceEq, Int.reduceAdd, UInt8.reduceToNat, UInt32.reduceToNat, UInt64.reduceToNat, UInt8.reduceOfNat, UInt32.reduceOfNat, UInt64.reduceOfNat, Fin.isValue, Int.reduceSub, Int.reduceMul, Int.reduceNeg, Int.reduceMod, Int.reduceDiv, Int.reduceTDiv, Int.reduceTMod, Int.reduceBEq, Int.reduceBNe, Nat.reduceDiv, Nat.reducePow]
  all_goals first
    | exact ⟨rfl, id, id, id, id, id⟩
    | trace_state
set_option maxRecDepth 100000 in
theorem bothA_tri (ax az bx bz : List Nat) (w0 w1 w2 w3 : Bool) (gax : goodR ax) (gaz : goodR az) (gbx : goodR bx) (gbz : goodR bz) : Tri Try.prog 45 [.one (.sl 0 0 1 16), .one (.sl 1 0 1 16), .one (.sl 2 0 1 16), .one (.sl 3 0 1 16), .one (.sl 2 0 1 16)] [(0, ⟨.arr Nat natL ax, w0⟩), (1, ⟨.arr Nat natL az, w1⟩), (2, ⟨.arr Nat natL bx, w2⟩), (3, ⟨.arr Nat natL bz, w3⟩)] (.tup [.one (.sl 4 0 1 16), .one (.sl 5 0 1 16)]) [(0, ⟨.arr Nat natL ax, w0⟩), (1, ⟨.arr Nat natL az, w1⟩), (2, ⟨.arr Nat natL bx, w2⟩), (3, ⟨.arr Nat natL bz, w3⟩), (4, ⟨.arr Nat natL (bX ax az bx bz), true⟩), (5, ⟨.arr Nat natL (bZ ax az bx bz bx), true⟩)] := by
  obtain ⟨v1, e1⟩ : ∃ v, rSub bx bz = v := ⟨_, rfl⟩
  have gv1 : goodR v1 := by rw [← e1]; exact gbx.sub gbz
  obtain ⟨v2, e2⟩ : ∃ v, rAdd ax az = v := ⟨_, rfl⟩
  have gv2 : goodR v2 := by rw [← e2]; exact gax.add gaz
  obtain ⟨v3, e3⟩ : ∃ v, rMul v1 v2 = v := ⟨_, rfl⟩
  have gv3 : goodR v3 := by rw [← e3]; exact gv1.mul gv2
  obtain ⟨v4, e4⟩ : ∃ v, rAdd bx bz = v := ⟨_, rfl⟩
  have gv4 : goodR v4 := by rw [← e4]; exact gbx.add gbz
  obtain ⟨v5, e5⟩ : ∃ v, rSub ax az = v := ⟨_, rfl⟩
  have gv5 : goodR v5 := by rw [← e5]; exact gax.sub gaz
  obtain ⟨v6, e6⟩ : ∃ v, rMul v4 v5 = v := ⟨_, rfl⟩
  have gv6 : goodR v6 := by rw [← e6]; exact gv4.mul gv5
  obtain ⟨v7, e7⟩ : ∃ v, rAdd v3 v6 = v := ⟨_, rfl⟩
  have gv7 : goodR v7 := by rw [← e7]; exact gv3.add gv6
  obtain ⟨v8, e8⟩ : ∃ v, rSub v3 v6 = v := ⟨_, rfl⟩
  have gv8 : goodR v8 := by rw [← e8]; exact gv3.sub gv6
  obtain ⟨v9, e9⟩ : ∃ v, rMul v7 v7 = v := ⟨_, rfl⟩
  have gv9 : goodR v9 := by rw [← e9]; exact gv7.mul gv7
  obtain ⟨v10, e10⟩ : ∃ v, rMul v8 v8 = v := ⟨_, rfl⟩
  have gv10 : goodR v10 := by rw [← e10]; exact gv8.mul gv8
  obtain ⟨v11, e11⟩ : ∃ v, rMul bx v10 = v := ⟨_, rfl⟩
  have gv11 : goodR v11 := by rw [← e11]; exact gbx.mul gv10
  have eX : bX ax az bx bz = v9 := by unfold bX bM bN; rw [e1, e2, e3, e4, e5, e6, e7, e9]
  have eZ : bZ ax az bx bz bx = v11 := by unfold bZ bM bN; rw [e1, e2, e3, e4, e5, e6, e8, e10, e11]
  clear gv11
  refine tri_ofx (envR_ok gb1_ok 44 [0, 1, 2, 3]) Try.func45 rfl rfl (rs := [.tmp 10, .tmp 11]) rfl rfl (by simp [envR]) rfl ?_
  simp only [conQ, row1F, row2F, retQx, e1, e2, e3, e4, e5, e6, e7, e8, e9, e10, e11, envR, con0, conN0, conN1, conN2, natsOf_arr, rowOf_arr, natsOf_cells, rowOf_cells, toN, natL_st, natL_d, natL_enc, natL_up, gb1, raddC, rsubC, rmulC, rsmallC, go_sem, reduceCtorEq, ↓reduceIte, Nat.reduceAdd, Nat.reduceMul, Nat.reduceSub, Nat.reduceEqDiff, Nat.reduceLT, Nat.reduceBEq, Nat.reduceBNe, Nat.reduceLeDiff, Int.reduceLE, Int.reduceLT, Int.reduceToNat, Int.reduceEq, Int.reduceAdd, UInt8.reduceToNat, UInt32.reduceToNat, UInt64.reduceToNat, UInt8.reduceOfNat, UInt32.reduceOfNat, UInt64.reduceOfNat, Fin.isValue, Int.reduceSub, Int.reduceMul, Int.reduceNeg, Int.reduceMod, Int.reduceDiv, Int.reduceTDiv, Int.reduceTMod, Int.reduceBEq, Int.reduceBNe, Nat.reduceDiv, Nat.reducePow]
  repeat' apply And.intro
  all_goals first
    | with_reducible assumption
    | omega
    | rfl
    | skip
  refine endX [(4, 50016), (5, 50056)] ?_
  simp only [eX, eZ, envR, con0, conN0, conN1, conN2, natsOf_arr, rowOf_arr, natsOf_cells, rowOf_cells, toN, natL_st, natL_d, natL_enc, natL_up, gb1, raddC, rsubC, rmulC, rsmallC, go_sem, reduceCtorEq, ↓reduceIte, Nat.reduceAdd, Nat.reduceMul, Nat.reduceSub, Nat.reduceEqDiff, Nat.reduceLT, Nat.reduceBEq, Nat.reduceBNe, Nat.reduceLeDiff, Int.reduceLE, Int.reduceLT, Int.reduceToNat, Int.reduceEq, Int.reduceAdd, UInt8.reduceToNat, UInt32.reduceToNat, UInt64.reduceToNat, UInt8.reduceOfNat, UInt32.reduceOfNat, UInt64.reduceOfNat, Fin.isValue, Int.reduceSub, Int.reduceMul, Int.reduceNeg, Int.reduceMod, Int.reduceDiv, Int.reduceTDiv, Int.reduceTMod, Int.reduceBEq, Int.reduceBNe, Nat.reduceDiv, Nat.reducePow]
  all_goals first
    | exact ⟨rfl, id, id, id, id⟩
    | trace_state
set_option maxRecDepth 100000 in
theorem twice_tri (x z : List Nat) (w0 w1 : Bool) (gx : goodR x) (gz : goodR z) : Tri Try.prog 46 [.one (.sl 0 0 1 16), .one (.sl 1 0 1 16)] [(0, ⟨.arr Nat natL x, w0⟩), (1, ⟨.arr Nat natL z, w1⟩)] (.tup [.one (.sl 2 0 1 16), .one (.sl 3 0 1 16)]) [(0, ⟨.arr Nat natL x, w0⟩), (1, ⟨.arr Nat natL z, w1⟩), (2, ⟨.arr Nat natL (tX x z), true⟩), (3, ⟨.arr Nat natL (tZ x z), true⟩)] := by
  obtain ⟨q, eq⟩ : ∃ q, smallL 121665 = q := ⟨_, rfl⟩
  have gq : goodR q := by rw [← eq]; exact (small_good 121665 (by decide)).1
  obtain ⟨v1, e1⟩ : ∃ v, rAdd x z = v := ⟨_, rfl⟩
  have gv1 : goodR v1 := by rw [← e1]; exact gx.add gz
  obtain ⟨v2, e2⟩ : ∃ v, rSub x z = v := ⟨_, rfl⟩
  have gv2 : goodR v2 := by rw [← e2]; exact gx.sub gz
  obtain ⟨v3, e3⟩ : ∃ v, rMul v1 v1 = v := ⟨_, rfl⟩
  have gv3 : goodR v3 := by rw [← e3]; exact gv1.mul gv1
  obtain ⟨v4, e4⟩ : ∃ v, rMul v2 v2 = v := ⟨_, rfl⟩
  have gv4 : goodR v4 := by rw [← e4]; exact gv2.mul gv2
  obtain ⟨v5, e5⟩ : ∃ v, rSub v3 v4 = v := ⟨_, rfl⟩
  have gv5 : goodR v5 := by rw [← e5]; exact gv3.sub gv4
  obtain ⟨v6, e6⟩ : ∃ v, rMul v3 v4 = v := ⟨_, rfl⟩
  have gv6 : goodR v6 := by rw [← e6]; exact gv3.mul gv4
  obtain ⟨v7, e7⟩ : ∃ v, rMul q v5 = v := ⟨_, rfl⟩
  have gv7 : goodR v7 := by rw [← e7]; exact gq.mul gv5
  obtain ⟨v8, e8⟩ : ∃ v, rAdd v3 v7 = v := ⟨_, rfl⟩
  have gv8 : goodR v8 := by rw [← e8]; exact gv3.add gv7
  obtain ⟨v9, e9⟩ : ∃ v, rMul v5 v8 = v := ⟨_, rfl⟩
  have gv9 : goodR v9 := by rw [← e9]; exact gv5.mul gv8
  have eX : tX x z = v6 := by unfold tX tA tB; rw [e1, e2, e3, e4, e6]
  have eZ : tZ x z = v9 := by unfold tZ tE tA tB; rw [eq, e1, e2, e3, e4, e5, e7, e8, e9]
  clear gv6 gv9
  refine tri_ofx (envR_ok gb1_ok 36 [0, 1]) Try.func46 rfl rfl (rs := [.tmp 4, .tmp 5]) rfl rfl (by simp [envR]) rfl ?_
  simp only [conQ, row1F, row2F, rsmallF, retQx, eq, e1, e2, e3, e4, e5, e6, e7, e8, e9, envR, con0, conN0, conN1, conN2, natsOf_arr, rowOf_arr, natsOf_cells, rowOf_cells, toN, natL_st, natL_d, natL_enc, natL_up, gb1, raddC, rsubC, rmulC, rsmallC, go_sem, reduceCtorEq, ↓reduceIte, Nat.reduceAdd, Nat.reduceMul, Nat.reduceSub, Nat.reduceEqDiff, Nat.reduceLT, Nat.reduceBEq, Nat.reduceBNe, Nat.reduceLeDiff, Int.reduceLE, Int.reduceLT, Int.reduceToNat, Int.reduceEq, Int.reduceAdd, UInt8.reduceToNat, UInt32.reduceToNat, UInt64.reduceToNat, UInt8.reduceOfNat, UInt32.reduceOfNat, UInt64.reduceOfNat, Fin.isValue, Int.reduceSub, Int.reduceMul, Int.reduceNeg, Int.reduceMod, Int.reduceDiv, Int.reduceTDiv, Int.reduceTMod, Int.reduceBEq, Int.reduceBNe, Nat.reduceDiv, Nat.reducePow]
  repeat' apply And.intro
  all_goals first
    | with_reducible assumption
    | omega
    | rfl
    | skip
  refine endX [(2, 50016), (3, 50072)] ?_
  simp only [eX, eZ, envR, con0, conN0, conN1, conN2, natsOf_arr, rowOf_arr, natsOf_cells, rowOf_cells, toN, natL_st, natL_d, natL_enc, natL_up, gb1, raddC, rsubC, rmulC, rsmallC, go_sem, reduceCtorEq, ↓reduceIte, Nat.reduceAdd, Nat.reduceMul, Nat.reduceSub, Nat.reduceEqDiff, Nat.reduceLT, Nat.reduceBEq, Nat.reduceBNe, Nat.reduceLeDiff, Int.reduceLE, Int.reduceLT, Int.reduceToNat, Int.reduceEq, Int.reduceAdd, UInt8.reduceToNat, UInt32.reduceToNat, UInt64.reduceToNat, UInt8.reduceOfNat, UInt32.reduceOfNat, UInt64.reduceOfNat, Fin.isValue, Int.reduceSub, Int.reduceMul, Int.reduceNeg, Int.reduceMod, Int.reduceDiv, Int.reduceTDiv, Int.reduceTMod, Int.reduceBEq, Int.reduceBNe, Nat.reduceDiv, Nat.reducePow]
  all_goals first
    | exact ⟨rfl, id, id⟩
    | trace_state
def bothF : List CV → List SObj → Option (SV × List SObj × List Prop)
  | [.one (.sl 0 0 1 16), .one (.sl 1 0 1 16), .one (.sl 2 0 1 16), .one (.sl 3 0 1 16), .one (.sl 4 0 1 16)], [a, b, c, d, e] => some (.tup [.one (.sl 5 0 1 16), .one (.sl 6 0 1 16)], [.arr Nat natL (bX (natsOf a) (natsOf b) (natsOf c) (natsOf d)), .arr Nat natL (bZ (natsOf a) (natsOf b) (natsOf c) (natsOf d) (natsOf e))], [rowOf a, rowOf b, rowOf c, rowOf d, rowOf e, goodR (natsOf a), goodR (natsOf b), goodR (natsOf c), goodR (natsOf d), goodR (natsOf e)])
  | [.one (.sl 0 0 1 16), .one (.sl 1 0 1 16), .one (.sl 2 0 1 16), .one (.sl 3 0 1 16), .one (.sl 2 0 1 16)], [a, b, c, d] => some (.tup [.one (.sl 4 0 1 16), .one (.sl 5 0 1 16)], [.arr Nat natL (bX (natsOf a) (natsOf b) (natsOf c) (natsOf d)), .arr Nat natL (bZ (natsOf a) (natsOf b) (natsOf c) (natsOf d) (natsOf c))], [rowOf a, rowOf b, rowOf c, rowOf d, goodR (natsOf a), goodR (natsOf b), goodR (natsOf c), goodR (natsOf d)])
  | _, _ => none
def bothC : Con := conQ bothF
theorem bothC_ok : ConOk Try.prog 45 bothC := conQ_ok Try.func45 rfl rfl fun args es v nw ob h hob => by
  unfold bothF at h
  split at h
  · rename_i a b c d e heq
    match es, heq with
    | [e0, e1, e2, e3, e4], heq =>
      simp only [List.map_cons, List.map_nil, List.cons.injEq, and_true] at heq
      obtain ⟨rfl, rfl, rfl, rfl, rfl⟩ := heq
      simp only [Option.some.injEq, Prod.mk.injEq] at h
      obtain ⟨rfl, rfl, rfl⟩ := h
      obtain ⟨o0, o1, o2, o3, o4, p0, p1, p2, p3, p4, _⟩ := hob
      exact (both_tri _ _ _ _ _ e0.wr e1.wr e2.wr e3.wr e4.wr p0 p1 p2 p3 p4).sim (.cons (simE_row o0 e0.wr) (.cons (simE_row o1 e1.wr) (.cons (simE_row o2 e2.wr) (.cons (simE_row o3 e3.wr) (.cons (simE_row o4 e4.wr) .nil))))) (.cons (simE_row o0 e0.wr) (.cons (simE_row o1 e1.wr) (.cons (simE_row o2 e2.wr) (.cons (simE_row o3 e3.wr) (.cons (simE_row o4 e4.wr) (.cons (.refl _) (.cons (.refl _) .nil)))))))
  · rename_i a b c d heq
    match es, heq with
    | [e0, e1, e2, e3], heq =>
      simp only [List.map_cons, List.map_nil, List.cons.injEq, and_true] at heq
      obtain ⟨rfl, rfl, rfl, rfl⟩ := heq
      simp only [Option.some.injEq, Prod.mk.injEq] at h
      obtain ⟨rfl, rfl, rfl⟩ := h
      obtain ⟨o0, o1, o2, o3, p0, p1, p2, p3, _⟩ := hob
      exact (bothA_tri _ _ _ _ e0.wr e1.wr e2.wr e3.wr p0 p1 p2 p3).sim (.cons (simE_row o0 e0.wr) (.cons (simE_row o1 e1.wr) (.cons (simE_row o2 e2.wr) (.cons (simE_row o3 e3.wr) .nil)))) (.cons (simE_row o0 e0.wr) (.cons (simE_row o1 e1.wr) (.cons (simE_row o2 e2.wr) (.cons (simE_row o3 e3.wr) (.cons (.refl _) (.cons (.refl _) .nil))))))
  · cases h
def twiceF : List CV → List SObj → Option (SV × List SObj × List Prop)
  | [.one (.sl 0 0 1 16), .one (.sl 1 0 1 16)], [a, b] => some (.tup [.one (.sl 2 0 1 16), .one (.sl 3 0 1 16)], [.arr Nat natL (tX (natsOf a) (natsOf b)), .arr Nat natL (tZ (natsOf a) (natsOf b))], [rowOf a, rowOf b, goodR (natsOf a), goodR (natsOf b)])
  | _, _ => none
def twiceC : Con := conQ twiceF
theorem twiceC_ok : ConOk Try.prog 46 twiceC := conQ_ok Try.func46 rfl rfl fun args es v nw ob h hob => by
  unfold twiceF at h
  split at h
  · rename_i a b heq
    match es, heq with
    | [e0, e1], heq =>
      simp only [List.map_cons, List.map_nil, List.cons.injEq, and_true] at heq
      obtain ⟨rfl, rfl⟩ := heq
      simp only [Option.some.injEq, Prod.mk.injEq] at h
      obtain ⟨rfl, rfl, rfl⟩ := h
      obtain ⟨o0, o1, p0, p1, _⟩ := hob
      exact (twice_tri _ _ e0.wr e1.wr p0 p1).sim (.cons (simE_row o0 e0.wr) (.cons (simE_row o1 e1.wr) .nil)) (.cons (simE_row o0 e0.wr) (.cons (simE_row o1 e1.wr) (.cons (.refl _) (.cons (.refl _) .nil))))
  · cases h
end Go.Proofs.Ytdkmkifebhggeaa
