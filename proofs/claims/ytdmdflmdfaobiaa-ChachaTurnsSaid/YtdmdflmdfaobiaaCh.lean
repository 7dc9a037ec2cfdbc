/-
  Layer 5: the document's quarter round, in a row.
-/
import Derived.Test.YtdmdflmdfaobiaaCg
namespace Go.Proofs.Ytdmdflmdfaobiaa
open Go Go.RowKit
set_option linter.unusedSimpArgs false
set_option linter.unusedVariables false
/-- A contract that changes one row of cells. -/
def con1 (F : List CV → List AV → Option (SV × List AV × List Prop)) : Con := ⟨true, fun args os => match os with
  | [.cells 1 xs] => match F args xs with
    | some (v, ys, ob) => some (v, [.cells 1 ys], [], ob)
    | none => none
  | _ => none⟩
theorem con1_ok {P : Program} {f : FuncId} {fn : Func} (hf : P.funcs[f]? = some fn) (hb : fn.body.isSome = true) (hn : (fn.name == "runtime.NumGoroutine") = false) {F : List CV → List AV → Option (SV × List AV × List Prop)}
    (h : ∀ args xs v ys ob, F args xs = some (v, ys, ob) → AllT ob → Tri P f args [(0, ⟨.cells 1 xs, true⟩)] v [(0, ⟨.cells 1 ys, true⟩)]) : ConOk P f (con1 F) := by
  refine .inl ⟨⟨fn, hf, hb, hn⟩, fun args es res upd news ob hr hob hw => ?_⟩
  unfold con1 at hr
  simp only at hr
  split at hr
  · rename_i xs hes
    cases hF : F args xs with
    | none => rw [hF] at hr; cases hr
    | some q =>
      obtain ⟨v, ys, ob'⟩ := q
      simp only [hF, Option.some.injEq, Prod.mk.injEq] at hr
      obtain ⟨rfl, rfl, rfl, rfl⟩ := hr
      obtain ⟨e, rfl⟩ : ∃ e, es = [e] := by
        cases es with
        | nil => cases hes
        | cons e es => cases es with
          | nil => exact ⟨e, rfl⟩
          | cons _ _ => simp at hes
      · obtain ⟨e', he', hwr⟩ := hw 0 (by simp)
        simp only [List.getElem?_cons_zero, Option.some.injEq] at he'
        subst he'
        obtain ⟨o, wr⟩ := e
        simp only at hwr
        subst hwr
        simp only [List.map_cons, List.map_nil, List.cons.injEq, and_true] at hes
        subst hes
        exact h args xs v ys ob' hF hob
  · cases hr
noncomputable def envK (ga : Nat → Option Con) (nt : Nat) (keys : List Nat) : Env := ⟨ty, ga, [], nt, keys⟩
theorem envK_ok {ga : Nat → Option Con} (h : GaOk Try.prog ga) (nt : Nat) (keys : List Nat) : EnvOk Try.prog (envK ga nt keys) := ⟨ty_ok, h, by first | rfl | decide⟩
def leftR (x : UInt32) (n : Int) : UInt32 := shl32 x n.toNat ||| shr32 x (32 - n).toNat
theorem left_tri (x : UInt32) (n : Int) (h : 0 ≤ n) (h' : n ≤ 32) : Tri Try.prog 87 [.one (.u32 x), .one (.num n)] [] (.c (.one (.u32 (leftR x n)))) [] := by
  refine tri_of (envOf_ok ga0_ok 13) Try.func87 rfl rfl (rs := [.tmp 4]) rfl rfl (by simp [envOf]) rfl [] ?_
  have hw : IntKind.i64.wrap (32 - n) = 32 - n := by rw [IntKind.wrap_i64]; omega
  simp only [envOf, ga0, leftR, hw, Br_true, Br_false, onSome_some, onSome_none, onGd_yes, onGd_no, onGd_bad, onGd_ask, boolOf, vc_skip, vc_region, vc_seq, vc_cond, vc_block, vc_loop, vc_exit, vc_ret, ↓thenS_normal, ↓thenS_exit, ↓thenS_ret, ↓inBlockS_normal, ↓inBlockS_exit, ↓inBlockS_ret, baseOf, runL_nil, runL_cons, guardS, stepT, act, actPick, boolOp, actBool, actBin2, actAggEq, eqCells, actBin, actUn, actConv, actExtract, okRow, actIndex, actField, actSlice, actIndexAddr, actFieldAddr, actLoad, actStore, actAlloc, actBox, actMake, actBuild, actBuildSlice, actNil, actLen, isStr, fitsB, actAppend, actCopy, actMM, argsOf, actCall, two, one1, ty1, ty2, actBuiltin, binAV, unAV, convAV, AV.toI, TypeDesc.isRow, partS, loOf, hiOf, cutStr, arrPtr, lenAV, readAt, writeAt, loadA, storeA, strideOf, newA, makeA, bytesA, toBytes, bytesOf, strA, subObj, decAll, catObj, wholeP, plainO, srcF, srcO, appA, appNilA, copyObj, copyA, placesT, fillS, partsOf, buildA, zeroRow, rowA, buildSliceA, pickS, minS, AV.isBare, SObj.isBare, AV.ids, CV.ids, SV.ids, numb, con0, firstIds, idxOf, canWrite, callA, SObj.live, SObj.stride, SObj.flat, AV.ren, CV.ren, SV.ren, SObj.ren, CV.cells, headS, pureS, pureA, setAllH, newAll, getAll, evalS, constA, constS, dstOk, putS, aget, aset, freshAll, AllT, PlainL, AV.plain, retC, retL, tupS, endQ, retQ, rn, keysOf, likeV, likeFr, likeO, likeHp, distB, Canon, List.map_cons, List.map_nil, List.length_cons, List.length_nil, List.append_nil, List.nil_append, List.cons_append, List.getElem?_cons_zero, List.getElem?_cons_succ, List.getElem?_nil, List.getElem?_toArray, List.foldl_cons, List.foldl_nil, List.flatMap_cons, List.flatMap_nil, List.all_cons, List.all_nil, List.contains_cons, List.contains_nil, List.isEmpty_nil, List.isEmpty_cons, List.take_succ_cons, List.take_zero, List.take_nil, List.drop_succ_cons, List.drop_zero, List.drop_nil, List.set_cons_zero, List.set_cons_succ, List.filter_nil, List.mem_cons, List.not_mem_nil, List.getD_cons_zero, List.getD_cons_succ, List.cons.injEq, List.range_succ, List.range_zero, Option.map_some, Option.map_none, Option.isNone_none, Option.isNone_some, Option.isSome_some, Option.isSome_none, Option.getD_some, Option.some.injEq, Bool.and_true, Bool.true_and, Bool.and_false, Bool.false_and, Bool.or_true, Bool.true_or, Bool.or_false, Bool.false_or, Bool.not_true, Bool.not_false, Bool.and_self, Bool.false_eq_true, Bool.true_eq_false, beq_self_eq_true, decide_true, decide_false, ite_true, ite_false, if_true, if_false, true_and, and_true, false_and, and_false, and_self, or_true, true_or, or_false, false_or, not_true_eq_false, not_false_eq_true, true_implies, false_implies, implies_true, forall_const, reduceCtorEq, ↓reduceIte, eq_self, ne_eq, forall_eq_or_imp, forall_eq, exists_eq_left', exists_eq_left, Nat.reduceAdd, Nat.reduceMul, Nat.reduceSub, Nat.reduceEqDiff, Nat.reduceLT, Nat.reduceBEq, Nat.reduceBNe, Nat.ble_eq, Nat.blt_eq, Nat.le_refl, Nat.lt_irrefl, Nat.zero_le, Nat.add_zero, Nat.zero_add, Nat.mul_zero, Nat.zero_mul, Nat.mul_one, Nat.one_mul, Nat.reduceLeDiff, Nat.beq_eq_true_eq, Int.reduceLE, Int.reduceLT, Int.reduceToNat, Int.toNat_zero, Int.toNat_one, Int.toNat_natCast, Int.le_refl, Int.reduceEq, Int.reduceAdd, UInt8.reduceToNat, UInt32.reduceToNat, UInt64.reduceToNat, UInt8.reduceOfNat, UInt32.reduceOfNat, UInt64.reduceOfNat, Fin.isValue, beq_true, beq_false, Bool.not_eq_true, Bool.not_eq_false, Nat.le_eq, Nat.not_lt_zero, List.size_toArray, List.toList_toArray, wrapL, ↓rounds_succ, Int.reduceSub, Int.reduceMul, Int.reduceNeg, Int.reduceMod, Int.reduceDiv, Int.reduceTDiv, Int.reduceTMod, Int.sub_zero, Int.add_zero, Int.zero_add, Int.cast_ofNat_Int, List.replicate_zero, Int.reduceBEq, Int.reduceBNe, bne, Bool.not_not, u8L_st, u8L_d, u8L_enc, u8L_up, u8L_toB, u8L_ofB, SObj.arr.injEq, SObj.cells.injEq, heq_eq_eq, List.map_id_fun', List.map_id_fun, id_eq, List.any_cons, List.any_nil, Nat.reduceDiv, Nat.reducePow, SV.c.injEq, CV.one.injEq, CV.agg.injEq, SV.tup.injEq, ty, tyi2, tyi3, tyi4, tyi5, tyi9, tyi12, tyi21, tyi22, tyi23, tyi24, tyi25, tyi33, tyi45, tyi48, tyi58, tyi64, tyi73, tyi74, tyi76, tyi77, tyi78, tyi84, tyi87, tyi98, tyi99, tyi112]
  exact ⟨h, by omega, rfl⟩
def leftC : Con := con0 fun args => match args with
  | [.one (.u32 x), .one (.num n)] => some (.c (.one (.u32 (leftR x n))), [0 ≤ n, n ≤ 32])
  | _ => none
theorem leftC_ok : ConOk Try.prog 87 leftC := con0_ok Try.func87 rfl rfl fun args res ob h hob => by
  split at h
  · injection h with h; injection h with h1 h2; subst h1; subst h2; exact left_tri _ _ hob.1 hob.2.1
  · cases h
theorem left16 (x : UInt32) : leftR x 16 = rot32 x 16 := rfl
theorem left12 (x : UInt32) : leftR x 12 = rot32 x 12 := rfl
theorem left8 (x : UInt32) : leftR x 8 = rot32 x 8 := rfl
theorem left7 (x : UInt32) : leftR x 7 = rot32 x 7 := rfl
def ga7 : Nat → Option Con := fun f => match f with
  | 87 => some leftC
  | _ => none
theorem ga7_ok : GaOk Try.prog ga7 := fun f con h => by
  unfold ga7 at h
  split at h
  · injection h with h; subst h; exact leftC_ok
  · cases h
def qset (l : List UInt32) (a b c d : Nat) : List UInt32 :=
  let q := qr (l.getD a 0) (l.getD b 0) (l.getD c 0) (l.getD d 0)
  (((l.set a q.1).set b q.2.1).set c q.2.2.1).set d q.2.2.2
def tups : List (Int × Int × Int × Int) := [(0, 4, 8, 12), (1, 5, 9, 13), (2, 6, 10, 14), (3, 7, 11, 15), (0, 5, 10, 15), (1, 6, 11, 12), (2, 7, 8, 13), (3, 4, 9, 14)]
set_option maxRecDepth 100000 in
set_option maxHeartbeats 4000000 in
theorem refQuarter_tri (l : List UInt32) (hl : l.length = 16) (a b c d : Int) (ht : (a, b, c, d) ∈ tups) : Tri Try.prog 66 [.one (.sl 0 0 1 16), .one (.num a), .one (.num b), .one (.num c), .one (.num d)] [(0, ⟨.cells 1 (l.map .u32), true⟩)] (.tup []) [(0, ⟨.cells 1 ((qset l a.toNat b.toNat c.toNat d.toNat).map .u32), true⟩)] := by
  obtain ⟨x0, x1, x2, x3, x4, x5, x6, x7, x8, x9, xa, xb, xc, xd, xe, xf, rfl⟩ := split16 l hl
  refine tri_of (envK_ok ga7_ok 85 [0]) Try.func66 rfl rfl (rs := []) rfl rfl (by simp [envK]) rfl [] ?_
  simp only [tups, List.mem_cons, List.not_mem_nil, or_false, Prod.mk.injEq] at ht
  rcases ht with ⟨rfl, rfl, rfl, rfl⟩ | ⟨rfl, rfl, rfl, rfl⟩ | ⟨rfl, rfl, rfl, rfl⟩ | ⟨rfl, rfl, rfl, rfl⟩ | ⟨rfl, rfl, rfl, rfl⟩ | ⟨rfl, rfl, rfl, rfl⟩ | ⟨rfl, rfl, rfl, rfl⟩ | ⟨rfl, rfl, rfl, rfl⟩
  all_goals
    simp only [envK, ga7, leftC, Br_true, Br_false, onSome_some, onSome_none, onGd_yes, onGd_no, onGd_bad, onGd_ask, boolOf, vc_skip, vc_region, vc_seq, vc_cond, vc_block, vc_loop, vc_exit, vc_ret, ↓thenS_normal, ↓thenS_exit, ↓thenS_ret, ↓inBlockS_normal, ↓inBlockS_exit, ↓inBlockS_ret, baseOf, runL_nil, runL_cons, guardS, stepT, act, actPick, boolOp, actBool, actBin2, actAggEq, eqCells, actBin, actUn, actConv, actExtract, okRow, actIndex, actField, actSlice, actIndexAddr, actFieldAddr, actLoad, actStore, actAlloc, actBox, actMake, actBuild, actBuildSlice, actNil, actLen, isStr, fitsB, actAppend, actCopy, actMM, argsOf, actCall, two, one1, ty1, ty2, actBuiltin, binAV, unAV, convAV, AV.toI, TypeDesc.isRow, partS, loOf, hiOf, cutStr, arrPtr, lenAV, readAt, writeAt, loadA, storeA, strideOf, newA, makeA, bytesA, toBytes, bytesOf, strA, subObj, decAll, catObj, wholeP, plainO, srcF, srcO, appA, appNilA, copyObj, copyA, placesT, fillS, partsOf, buildA, zeroRow, rowA, buildSliceA, pickS, minS, AV.isBare, SObj.isBare, AV.ids, CV.ids, SV.ids, numb, con0, firstIds, idxOf, canWrite, callA, SObj.live, SObj.stride, SObj.flat, AV.ren, CV.ren, SV.ren, SObj.ren, CV.cells, headS, pureS, pureA, setAllH, newAll, getAll, evalS, constA, constS, dstOk, putS, aget, aset, freshAll, AllT, PlainL, AV.plain, retC, retL, tupS, endQ, retQ, rn, keysOf, likeV, likeFr, likeO, likeHp, distB, Canon, List.map_cons, List.map_nil, List.length_cons, List.length_nil, List.append_nil, List.nil_append, List.cons_append, List.getElem?_cons_zero, List.getElem?_cons_succ, List.getElem?_nil, List.getElem?_toArray, List.foldl_cons, List.foldl_nil, List.flatMap_cons, List.flatMap_nil, List.all_cons, List.all_nil, List.contains_cons, List.contains_nil, List.isEmpty_nil, List.isEmpty_cons, List.take_succ_cons, List.take_zero, List.take_nil, List.drop_succ_cons, List.drop_zero, List.drop_nil, List.set_cons_zero, List.set_cons_succ, List.filter_nil, List.mem_cons, List.not_mem_nil, List.getD_cons_zero, List.getD_cons_succ, List.cons.injEq, List.range_succ, List.range_zero, Option.map_some, Option.map_none, Option.isNone_none, Option.isNone_some, Option.isSome_some, Option.isSome_none, Option.getD_some, Option.some.injEq, Bool.and_true, Bool.true_and, Bool.and_false, Bool.false_and, Bool.or_true, Bool.true_or, Bool.or_false, Bool.false_or, Bool.not_true, Bool.not_false, Bool.and_self, Bool.false_eq_true, Bool.true_eq_false, beq_self_eq_true, decide_true, decide_false, ite_true, ite_false, if_true, if_false, true_and, and_true, false_and, and_false, and_self, or_true, true_or, or_false, false_or, not_true_eq_false, not_false_eq_true, true_implies, false_implies, implies_true, forall_const, reduceCtorEq, ↓reduceIte, eq_self, ne_eq, forall_eq_or_imp, forall_eq, exists_eq_left', exists_eq_left, Nat.reduceAdd, Nat.reduceMul, Nat.reduceSub, Nat.reduceEqDiff, Nat.reduceLT, Nat.reduceBEq, Nat.reduceBNe, Nat.ble_eq, Nat.blt_eq, Nat.le_refl, Nat.lt_irrefl, Nat.zero_le, Nat.add_zero, Nat.zero_add, Nat.mul_zero, Nat.zero_mul, Nat.mul_one, Nat.one_mul, Nat.reduceLeDiff, Nat.beq_eq_true_eq, Int.reduceLE, Int.reduceLT, Int.reduceToNat, Int.toNat_zero, Int.toNat_one, Int.toNat_natCast, Int.le_refl, Int.reduceEq, Int.reduceAdd, UInt8.reduceToNat, UInt32.reduceToNat, UInt64.reduceToNat, UInt8.reduceOfNat, UInt32.reduceOfNat, UInt64.reduceOfNat, Fin.isValue, beq_true, beq_false, Bool.not_eq_true, Bool.not_eq_false, Nat.le_eq, Nat.not_lt_zero, List.size_toArray, List.toList_toArray, wrapL, ↓rounds_succ, Int.reduceSub, Int.reduceMul, Int.reduceNeg, Int.reduceMod, Int.reduceDiv, Int.reduceTDiv, Int.reduceTMod, Int.sub_zero, Int.add_zero, Int.zero_add, Int.cast_ofNat_Int, List.replicate_zero, Int.reduceBEq, Int.reduceBNe, bne, Bool.not_not, u8L_st, u8L_d, u8L_enc, u8L_up, u8L_toB, u8L_ofB, SObj.arr.injEq, SObj.cells.injEq, heq_eq_eq, List.map_id_fun', List.map_id_fun, id_eq, List.any_cons, List.any_nil, Nat.reduceDiv, Nat.reducePow, SV.c.injEq, CV.one.injEq, CV.agg.injEq, SV.tup.injEq, ty, tyi2, tyi3, tyi4, tyi5, tyi9, tyi12, tyi21, tyi22, tyi23, tyi24, tyi25, tyi33, tyi45, tyi48, tyi58, tyi64, tyi73, tyi74, tyi76, tyi77, tyi78, tyi84, tyi87, tyi98, tyi99, tyi112]
    refine loop_rounds (envK_ok ga7_ok 85 [0]) 3 ?_
    simp only [ga7, leftC, left16, left12, left8, left7, Br_true, Br_false, onSome_some, onSome_none, onGd_yes, onGd_no, onGd_bad, onGd_ask, boolOf, vc_skip, vc_region, vc_seq, vc_cond, vc_block, vc_loop, vc_exit, vc_ret, ↓thenS_normal, ↓thenS_exit, ↓thenS_ret, ↓inBlockS_normal, ↓inBlockS_exit, ↓inBlockS_ret, baseOf, runL_nil, runL_cons, guardS, stepT, act, actPick, boolOp, actBool, actBin2, actAggEq, eqCells, actBin, actUn, actConv, actExtract, okRow, actIndex, actField, actSlice, actIndexAddr, actFieldAddr, actLoad, actStore, actAlloc, actBox, actMake, actBuild, actBuildSlice, actNil, actLen, isStr, fitsB, actAppend, actCopy, actMM, argsOf, actCall, two, one1, ty1, ty2, actBuiltin, binAV, unAV, convAV, AV.toI, TypeDesc.isRow, partS, loOf, hiOf, cutStr, arrPtr, lenAV, readAt, writeAt, loadA, storeA, strideOf, newA, makeA, bytesA, toBytes, bytesOf, strA, subObj, decAll, catObj, wholeP, plainO, srcF, srcO, appA, appNilA, copyObj, copyA, placesT, fillS, partsOf, buildA, zeroRow, rowA, buildSliceA, pickS, minS, AV.isBare, SObj.isBare, AV.ids, CV.ids, SV.ids, numb, con0, firstIds, idxOf, canWrite, callA, SObj.live, SObj.stride, SObj.flat, AV.ren, CV.ren, SV.ren, SObj.ren, CV.cells, headS, pureS, pureA, setAllH, newAll, getAll, evalS, constA, constS, dstOk, putS, aget, aset, freshAll, AllT, PlainL, AV.plain, retC, retL, tupS, endQ, retQ, rn, keysOf, likeV, likeFr, likeO, likeHp, distB, Canon, List.map_cons, List.map_nil, List.length_cons, List.length_nil, List.append_nil, List.nil_append, List.cons_append, List.getElem?_cons_zero, List.getElem?_cons_succ, List.getElem?_nil, List.getElem?_toArray, List.foldl_cons, List.foldl_nil, List.flatMap_cons, List.flatMap_nil, List.all_cons, List.all_nil, List.contains_cons, List.contains_nil, List.isEmpty_nil, List.isEmpty_cons, List.take_succ_cons, List.take_zero, List.take_nil, List.drop_succ_cons, List.drop_zero, List.drop_nil, List.set_cons_zero, List.set_cons_succ, List.filter_nil, List.mem_cons, List.not_mem_nil, List.getD_cons_zero, List.getD_cons_succ, List.cons.injEq, List.range_succ, List.range_zero, Option.map_some, Option.map_none, Option.isNone_none, Option.isNone_some, Option.isSome_some, Option.isSome_none, Option.getD_some, Option.some.injEq, Bool.and_true, Bool.true_and, Bool.and_false, Bool.false_and, Bool.or_true, Bool.true_or, Bool.or_false, Bool.false_or, Bool.not_true, Bool.not_false, Bool.and_self, Bool.false_eq_true, Bool.true_eq_false, beq_self_eq_true, decide_true, decide_false, ite_true, ite_false, if_true, if_false, true_and, and_true, false_and, and_false, and_self, or_true, true_or, or_false, false_or, not_true_eq_false, not_false_eq_true, true_implies, false_implies, implies_true, forall_const, reduceCtorEq, ↓reduceIte, eq_self, ne_eq, forall_eq_or_imp, forall_eq, exists_eq_left', exists_eq_left, Nat.reduceAdd, Nat.reduceMul, Nat.reduceSub, Nat.reduceEqDiff, Nat.reduceLT, Nat.reduceBEq, Nat.reduceBNe, Nat.ble_eq, Nat.blt_eq, Nat.le_refl, Nat.lt_irrefl, Nat.zero_le, Nat.add_zero, Nat.zero_add, Nat.mul_zero, Nat.zero_mul, Nat.mul_one, Nat.one_mul, Nat.reduceLeDiff, Nat.beq_eq_true_eq, Int.reduceLE, Int.reduceLT, Int.reduceToNat, Int.toNat_zero, Int.toNat_one, Int.toNat_natCast, Int.le_refl, Int.reduceEq, Int.reduceAdd, UInt8.reduceToNat, UInt32.reduceToNat, UInt64.reduceToNat, UInt8.reduceOfNat, UInt32.reduceOfNat, UInt64.reduceOfNat, Fin.isValue, beq_true, beq_false, Bool.not_eq_true, Bool.not_eq_false, Nat.le_eq, Nat.not_lt_zero, List.size_toArray, List.toList_toArray, wrapL, ↓rounds_succ, Int.reduceSub, Int.reduceMul, Int.reduceNeg, Int.reduceMod, Int.reduceDiv, Int.reduceTDiv, Int.reduceTMod, Int.sub_zero, Int.add_zero, Int.zero_add, Int.cast_ofNat_Int, List.replicate_zero, Int.reduceBEq, Int.reduceBNe, bne, Bool.not_not, u8L_st, u8L_d, u8L_enc, u8L_up, u8L_toB, u8L_ofB, SObj.arr.injEq, SObj.cells.injEq, heq_eq_eq, List.map_id_fun', List.map_id_fun, id_eq, List.any_cons, List.any_nil, Nat.reduceDiv, Nat.reducePow, SV.c.injEq, CV.one.injEq, CV.agg.injEq, SV.tup.injEq, ty, tyi2, tyi3, tyi4, tyi5, tyi9, tyi12, tyi21, tyi22, tyi23, tyi24, tyi25, tyi33, tyi45, tyi48, tyi58, tyi64, tyi73, tyi74, tyi76, tyi77, tyi78, tyi84, tyi87, tyi98, tyi99, tyi112]
    repeat' apply And.intro
    all_goals first
      | rfl
      | (intro x hx; obtain ⟨y, _, rfl⟩ := List.mem_map.1 hx; rfl)
def quarterRefC : Con := con1 fun args xs => match args with
  | [.one (.sl 0 0 1 16), .one (.num a), .one (.num b), .one (.num c), .one (.num d)] => some (.tup [], (qset (u32s xs) a.toNat b.toNat c.toNat d.toNat).map .u32, [xs = (u32s xs).map .u32, xs.length = 16, (a, b, c, d) ∈ tups])
  | _ => none
theorem quarterRefC_ok : ConOk Try.prog 66 quarterRefC := con1_ok Try.func66 rfl rfl fun args xs v ys ob h hob => by
  split at h
  · injection h with h; injection h with h1 h2; injection h2 with h2 h3; subst h1; subst h2; subst h3
    have e := hob.1
    have := refQuarter_tri (u32s xs) (by rw [u32s_len]; exact hob.2.1) _ _ _ _ hob.2.2.1
    rw [← e] at this
    exact this
  · cases h
end Go.Proofs.Ytdmdflmdfaobiaa
