/-
  The rules of the reckoning as one set. It speaks of no program.
-/
import Derived.Test.YtahiopdkekkibaaGreatDoorG1
namespace Go.Proofs.YtahiopdkekkibaaGreatDoor
open Go Go.RowKit
attribute [go_sem]
  Br_true Br_false onSome_some onSome_none onGd_yes onGd_no onGd_bad onGd_ask boolOf vc_skip vc_region vc_seq vc_cond vc_block vc_loop vc_exit vc_ret baseOf runL_nil runL_cons
  guardS stepT act actPick boolOp actBool actBin2 actIfn undef actAggEq eqCells kindsOk numsOk List.isEmpty_nil List.isEmpty_cons actBin actUn actConv actExtract okRow actIndex
  actField actSlice actIndexAddr actFieldAddr actLoad actStore actAlloc actBox actMake actBuild actBuildSlice actNil actLen isStr fitsB actAppend actCopy actMM argsOf actCall two
  one1 ty1 ty2 actBuiltin binAV unAV convAV AV.toI TypeDesc.isRow partS loOf hiOf cutStr arrPtr lenAV readAt writeAt loadA storeA strideOf newA makeA bytesA toBytes bytesOf strA
  subObj decAll catObj wholeP plainO srcF srcO appA appNilA sliceArrA copyObj copyA placesT fillS partsOf buildA zeroRow rowA buildSliceA pickS minS AV.isBare SObj.isBare AV.ids
  CV.ids SV.ids numb con0 firstIds idxOf canWrite callA SObj.live SObj.stride SObj.flat AV.ren CV.ren SV.ren SObj.ren CV.cells headS pureS pureA setAllH newAll getAll evalS constA
  constS dstOk putS aget aset freshAll AllT PlainL AV.plain retC retL tupS endQ retQ rn keysOf likeV likeFr likeO likeHp distB Canon List.map_cons List.map_nil List.length_cons
  List.length_nil List.append_nil List.nil_append List.cons_append List.getElem?_cons_zero List.getElem?_cons_succ List.getElem?_nil List.getElem?_toArray List.foldl_cons
  List.foldl_nil List.flatMap_cons List.flatMap_nil List.all_cons List.all_nil List.contains_cons List.contains_nil List.isEmpty_nil List.isEmpty_cons List.take_succ_cons
  List.take_zero List.take_nil List.drop_succ_cons List.drop_zero List.drop_nil List.set_cons_zero List.set_cons_succ List.filter_nil List.mem_cons List.not_mem_nil
  List.getD_cons_zero List.getD_cons_succ List.cons.injEq List.range_succ List.range_zero Option.map_some Option.map_none Option.isNone_none Option.isNone_some Option.isSome_some
  Option.isSome_none Option.getD_some Option.some.injEq Bool.and_true Bool.true_and Bool.and_false Bool.false_and Bool.or_true Bool.true_or Bool.or_false Bool.false_or Bool.not_true
  Bool.not_false Bool.and_self Bool.false_eq_true Bool.true_eq_false beq_self_eq_true decide_true decide_false ite_true ite_false if_true if_false true_and and_true false_and
  and_false and_self or_true true_or or_false false_or not_true_eq_false not_false_eq_true true_implies false_implies implies_true forall_const eq_self ne_eq forall_eq_or_imp
  forall_eq exists_eq_left' exists_eq_left Nat.ble_eq Nat.blt_eq Nat.le_refl Nat.lt_irrefl Nat.zero_le Nat.add_zero Nat.zero_add Nat.mul_zero Nat.zero_mul Nat.mul_one Nat.one_mul
  Nat.beq_eq_true_eq Int.toNat_zero Int.toNat_one Int.toNat_natCast Int.le_refl beq_true beq_false Bool.not_eq_true Bool.not_eq_false Nat.le_eq Nat.not_lt_zero List.size_toArray
  List.toList_toArray wrapL Int.sub_zero Int.add_zero Int.zero_add Int.cast_ofNat_Int List.replicate_zero bne Bool.not_not u8L_st u8L_d u8L_enc u8L_up u8L_toB u8L_ofB SObj.arr.injEq
  SObj.cells.injEq heq_eq_eq List.map_id_fun' List.map_id_fun id_eq List.any_cons List.any_nil SV.c.injEq CV.one.injEq CV.agg.injEq SV.tup.injEq ty tyi2 tyi3 tyi4 tyi5 tyi9 tyi12
  tyi20 tyi21 tyi23 tyi32 tyi33 tyi35 tyi36 tyi39 tyi42 tyi46 tyi84 tyi85 tyi87 tyi88 tyi89 tyi90 tyi97 tyi98 tyi113 tyi114 tyi115 tyi117 tyi118 tyi128 tyi131 tyi132 tyi133 tyi138
  tyi147 tyi155 tyi156 tyi157 tyi163 tyi170 tyi173 tyi186 tyi188 tyi192 tyi193 tyi194 Tryz.underlying20 Tryz.underlying32 Tryz.underlying33 Tryz.underlying35 Tryz.underlying36
  Tryz.underlying39 Tryz.underlying42 Tryz.underlying114 Tryz.underlying115 Tryz.underlying117 Tryz.underlying118 Tryz.underlying132 Tryz.underlying133 Tryz.underlying155
  Tryz.underlying156 Tryz.underlying192 Tryz.underlying193
attribute [go_sem ↓]
  thenS_normal thenS_exit thenS_ret inBlockS_normal inBlockS_exit inBlockS_ret rounds_succ
attribute [go_sem]
  reduceCtorEq Nat.reduceAdd Nat.reduceMul Nat.reduceSub Nat.reduceEqDiff Nat.reduceLT Nat.reduceBEq Nat.reduceBNe Nat.reduceLeDiff Int.reduceLE Int.reduceLT Int.reduceToNat Int.reduceEq Int.reduceAdd UInt8.reduceToNat UInt32.reduceToNat UInt64.reduceToNat UInt8.reduceOfNat UInt32.reduceOfNat UInt64.reduceOfNat Fin.isValue Int.reduceSub Int.reduceMul Int.reduceNeg Int.reduceMod Int.reduceDiv Int.reduceTDiv Int.reduceTMod Int.reduceBEq Int.reduceBNe Nat.reduceDiv Nat.reducePow
attribute [go_sem ↓]
  reduceIte
end Go.Proofs.YtahiopdkekkibaaGreatDoor
