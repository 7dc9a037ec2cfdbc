/-
  Layer 8: the document's box, made and opened; the laws SealBoxes and SealOpens.
-/
import Derived.Test.YtahiopdkekkibaaGreatDoorSz
import Derived.Test.YtahiopdkekkibaaGreatDoorG1
import Derived.Test.YtahiopdkekkibaaGreatDoorG3
import Derived.WideKeyPair
import Derived.ChangeShapes
import Derived.Test.YtahiopdkekkibaaGreatDoorRows
import Derived.Lib.LaidTab
import Derived.MakeChecks
import Derived.Stop.LaidErr
import Derived.Laws.Externs
import Derived.Test.YtahiopdkekkibaaGreatDoorG4
import Derived.Test.YtahiopdkekkibaaGreatDoorG5
namespace Go.Proofs.YtahiopdkekkibaaGreatDoor.FZ
open Go Go.RowKit
set_option maxHeartbeats 4000000
set_option linter.unusedSimpArgs false
set_option linter.unusedVariables false
set_option linter.unusedSectionVars false
def zRPoint : Con := FK.rpointC
theorem zRPoint_ok : ConOkG Tryz.prog GZ 34 zRPoint := ConOk.up FK.rpointC_ok
def zRSeal : Con := FC.refSealC
theorem zRSeal_ok : ConOkG Tryz.prog GZ 37 zRSeal := ConOk.up FC.refSealC_ok
def zROpen : Con := FC.refOpenC
theorem zROpen_ok : ConOkG Tryz.prog GZ 40 zROpen := ConOk.up FC.refOpenC_ok
def zRPad : Con := FN.refPadC
theorem zRPad_ok : ConOkG Tryz.prog GZ 38 zRPad := ConOk.up FN.refPadC_ok
def zRUnpad : Con := FN.refUnpadC
theorem zRUnpad_ok : ConOkG Tryz.prog GZ 41 zRUnpad := ConOk.up FN.refUnpadC_ok
def zRDraw : Con := FH.rdrawC
theorem zRDraw_ok : ConOkG Tryz.prog GZ 74 zRDraw := FH.rdrawC_ok
def zc0 : Nat → Option Con := fun f => match f with
  | _ => none
theorem zc0_ok : GaOkG Tryz.prog GZ zc0 := fun f con h => by
  unfold zc0 at h
  split at h
  · cases h
set_option maxRecDepth 100000 in
theorem base8_tri : TriG Tryz.prog GZ 35 [] [] (.c (.one (.str FK.base9))) [] := by
  refine tri_ofx (envZK_ok zc0_ok 7 []) Tryz.func35 rfl rfl (rs := [.tmp 0]) rfl rfl (by simp [envZK]) rfl ?_
  simp only [envZK, con0, conS, strsOf_arr, rowS_arr, strsOf_cells, rowS_cells, toS, strL_st, strL_d, strL_enc, strL_up, hpN_nil, hpN_cons, zc0, List.length_replicate, List.replicate, retQx, go_sem]
  repeat' apply And.intro
  all_goals first
    | omega
    | (show ckDraw _; rfl)
    | skip
  refine endX [] ?_
  simp only [FK.base9, envZK, con0, conS, strsOf_arr, rowS_arr, strsOf_cells, rowS_cells, toS, strL_st, strL_d, strL_enc, strL_up, hpN_nil, hpN_cons, zc0, retQx, go_sem]
  all_goals first
    | trivial
    | rfl
    | trace_state
def base8C : Con := con0 fun args => match args with
  | [] => some (.c (.one (.str FK.base9)), [])
  | _ => none
theorem base8C_ok : ConOkG Tryz.prog GZ 35 base8C := con0_okG Tryz.func35 rfl rfl fun args res ob h hob => by
  split at h
  · injection h with h; injection h with h1 h2; subst h1; subst h2; exact base8_tri
  · cases h
def zc1 : Nat → Option Con := fun f => match f with
  | 74 => some zRDraw
  | _ => none
theorem zc1_ok : GaOkG Tryz.prog GZ zc1 := fun f con h => by
  unfold zc1 at h
  split at h
  · injection h with h; subst h; exact zRDraw_ok
  · cases h
set_option maxRecDepth 100000 in
theorem rkeys_tri (sh se pu : List UInt8) (h1 : sh.length = 32) (h2 : se.length = 32) (h3 : pu.length = 32) : TriG Tryz.prog GZ 36 [.one (.str sh), .one (.str se), .one (.str pu)] [] (.tup [.one (.str (kK sh se pu)), .one (.str (kN sh se pu))]) [] := by
  have hl : (se ++ pu).length = 64 := by rw [List.length_append]; omega
  have hd : FH.drawD sh (se ++ pu) [109, 97, 105, 108] (44 : Int).toNat = drawn sh se pu := rfl
  have hd2 : FH.drawD sh (se ++ pu) [109, 97, 105, 108] 44 = drawn sh se pu := rfl
  have hdl : (drawn sh se pu).length = 44 := drawD_len _ _ _ _
  have e1 : (drawn sh se pu).take 32 = kK sh se pu := rfl
  have e2 : (drawn sh se pu).drop 32 = kN sh se pu := rfl
  have e3 : (kN sh se pu).take 12 = kN sh se pu := List.take_of_length_le (Nat.le_of_eq (kN_len sh se pu))
  refine tri_ofx (envZK_ok zc1_ok 18 []) Tryz.func36 rfl rfl (rs := [.tmp 6, .tmp 7]) rfl rfl (by simp [envZK]) rfl ?_
  simp only [hd, hd2, hdl, hl, e1, e2, e3, envZK, con0, conS, strsOf_arr, rowS_arr, strsOf_cells, rowS_cells, toS, strL_st, strL_d, strL_enc, strL_up, hpN_nil, hpN_cons, zc1, zRDraw, FH.rdrawC, retQx, go_sem]
  repeat' apply And.intro
  all_goals first
    | omega
    | (show ckDraw _; rfl)
    | skip
  refine endX [] ?_
  simp only [e1, e2, e3, envZK, con0, conS, strsOf_arr, rowS_arr, strsOf_cells, rowS_cells, toS, strL_st, strL_d, strL_enc, strL_up, hpN_nil, hpN_cons, zc1, zRDraw, retQx, go_sem]
  all_goals first
    | trivial
    | rfl
    | trace_state
def rkeysC : Con := con0 fun args => match args with
  | [.one (.str sh), .one (.str se), .one (.str pu)] => some (.tup [.one (.str (kK sh se pu)), .one (.str (kN sh se pu))], [sh.length = 32, se.length = 32, pu.length = 32])
  | _ => none
theorem rkeysC_ok : ConOkG Tryz.prog GZ 36 rkeysC := con0_okG Tryz.func36 rfl rfl fun args res ob h hob => by
  split at h
  · injection h with h; injection h with h1 h2; subst h1; subst h2; exact rkeys_tri _ _ _ hob.1 hob.2.1 hob.2.2.1
  · cases h
def zc2 : Nat → Option Con := fun f => match f with
  | 34 => some zRPoint
  | 35 => some base8C
  | 36 => some rkeysC
  | 37 => some zRSeal
  | 38 => some zRPad
  | 40 => some zROpen
  | 41 => some zRUnpad
  | _ => none
theorem zc2_ok : GaOkG Tryz.prog GZ zc2 := fun f con h => by
  unfold zc2 at h
  split at h
  · injection h with h; subst h; exact zRPoint_ok
  · injection h with h; subst h; exact base8C_ok
  · injection h with h; subst h; exact rkeysC_ok
  · injection h with h; subst h; exact zRSeal_ok
  · injection h with h; subst h; exact zRPad_ok
  · injection h with h; subst h; exact zROpen_ok
  · injection h with h; subst h; exact zRUnpad_ok
  · cases h
set_option maxRecDepth 100000 in
theorem rbox_tri (pub once s : List UInt8) (h1 : pub.length = 32) (h2 : once.length = 32) (h7 : s.length ≤ 700) : TriG Tryz.prog GZ 10 [.one (.str pub), .one (.str once), .one (.str s)] [] (.c (.one (.str (boxL pub once s)))) [] := by
  have r1 : FK.pointR (FK.clampK once) pub = FK.pointS once pub := FK.pointR_eq _ _ h1
  have r2 : FK.pointR (FK.clampK once) FK.base9 = FK.pointS once FK.base9 := FK.pointR_eq _ _ rfl
  have hb9 : FK.base9.length = 32 := rfl
  have p1 := FK.pointS_len once pub
  have p2 := FK.pointS_len once FK.base9
  obtain ⟨-, -, -, d1, -⟩ := FN.unpad_pad h7
  have k1 := kK_len (FK.pointS once pub) (FK.pointS once FK.base9) pub
  have k2 := kN_len (FK.pointS once pub) (FK.pointS once FK.base9) pub
  have e1 : FK.pointS once FK.base9 ++ FC.sealL (kK (FK.pointS once pub) (FK.pointS once FK.base9) pub) (kN (FK.pointS once pub) (FK.pointS once FK.base9) pub) [] (FN.padL s) = boxL pub once s := rfl
  refine tri_ofx (envZK_ok zc2_ok 29 []) Tryz.func10 rfl rfl (rs := [.tmp 6]) rfl rfl (by simp [envZK]) rfl ?_
  simp only [r1, r2, h1, h2, hb9, p1, p2, k1, k2, e1, envZK, con0, conS, strsOf_arr, rowS_arr, strsOf_cells, rowS_cells, toS, strL_st, strL_d, strL_enc, strL_up, hpN_nil, hpN_cons, zc2, zRPoint, FK.rpointC, base8C, rkeysC, zRSeal, FC.refSealC, zRPad, FN.refPadC, zROpen, FC.refOpenC, zRUnpad, FN.refUnpadC, FK.rpointC, FC.refSealC, FN.refPadC, retQx, go_sem]
  repeat' apply And.intro
  all_goals first
    | omega
    | (simp only [FC.sealL_len]; omega)
    | (show ckDraw _; rfl)
    | skip
  refine endX [] ?_
  simp only [e1, envZK, con0, conS, strsOf_arr, rowS_arr, strsOf_cells, rowS_cells, toS, strL_st, strL_d, strL_enc, strL_up, hpN_nil, hpN_cons, zc2, zRPoint, FK.rpointC, base8C, rkeysC, zRSeal, FC.refSealC, zRPad, FN.refPadC, zROpen, FC.refOpenC, zRUnpad, FN.refUnpadC, retQx, go_sem]
  all_goals first
    | trivial
    | rfl
    | trace_state
def rboxC : Con := con0 fun args => match args with
  | [.one (.str pub), .one (.str once), .one (.str s)] => some (.c (.one (.str (boxL pub once s))), [pub.length = 32, once.length = 32, s.length ≤ 700])
  | _ => none
theorem rboxC_ok : ConOkG Tryz.prog GZ 10 rboxC := con0_okG Tryz.func10 rfl rfl fun args res ob h hob => by
  split at h
  · injection h with h; injection h with h1 h2; subst h1; subst h2; exact rbox_tri _ _ _ hob.1 hob.2.1 hob.2.2.1
  · cases h
theorem openB_E (k n box : List UInt8) (hr : FC.rightB k n = true) : FC.refOpenB k n [] box = true ↔ FC.openE k n [] box = 0 := by
  unfold FC.refOpenB FC.openE
  rw [if_pos hr]
  by_cases h : box.length < 16
  · rw [if_pos h, decide_eq_false (by omega)]; simp
  · rw [if_neg h, decide_eq_true (by omega)]
    cases FC.openB k n [] box <;> simp
theorem openB_S (k n box : List UInt8) (hr : FC.rightB k n = true) (h : FC.refOpenB k n [] box = true) : FC.openS k n [] box = FC.turnL k n 1 (box.take (box.length - 16)) := by
  unfold FC.refOpenB at h
  rw [Bool.and_eq_true] at h
  unfold FC.openS
  rw [if_pos hr, if_neg (by have := of_decide_eq_true h.1; omega), if_pos h.2]
theorem openE_7 (k n box : List UInt8) (hr : FC.rightB k n = true) (h : FC.openE k n [] box ≠ 0) : FC.openE k n [] box = 7 := by
  unfold FC.openE at h ⊢
  rw [if_pos hr] at h ⊢
  split
  · rfl
  · rename_i h16
    rw [if_neg h16] at h
    split
    · rename_i hb; rw [if_pos hb] at h; exact absurd rfl h
    · rfl
set_option maxRecDepth 100000 in
theorem ropen_tri (prv box : List UInt8) (hl : prv.length = 32) (hs : box.length ≤ 1024) : TriG Tryz.prog GZ 12 [.one (.str prv), .one (.str box)] [] (opV prv box) [] := by
  refine tri_ofx (envZK_ok zc2_ok 47 []) Tryz.func12 rfl rfl (rs := [.tmp 4, .tmp 5]) rfl rfl (by simp [envZK]) rfl ?_
  have hb9 : FK.base9.length = 32 := rfl
  cases h3 : decide ((box.length : Int) < 32) with
  | true =>
    have h3' : box.length < 32 := by have := of_decide_eq_true h3; omega
    have hv : opV prv box = .tup [.one (.str []), .one (.num 3)] := by unfold opV; rw [if_pos hl, if_pos h3']
    simp only [hv, h3, envZK, con0, conS, strsOf_arr, rowS_arr, strsOf_cells, rowS_cells, toS, strL_st, strL_d, strL_enc, strL_up, hpN_nil, hpN_cons, zc2, zRPoint, FK.rpointC, base8C, rkeysC, zRSeal, FC.refSealC, zRPad, FN.refPadC, zROpen, FC.refOpenC, zRUnpad, FN.refUnpadC, retQx, go_sem]
    repeat' apply And.intro
    all_goals first
      | omega
      | (show ckDraw _; rfl)
      | skip
    refine endX [] ?_
    simp only [envZK, con0, conS, strsOf_arr, rowS_arr, strsOf_cells, rowS_cells, toS, strL_st, strL_d, strL_enc, strL_up, hpN_nil, hpN_cons, zc2, zRPoint, FK.rpointC, base8C, rkeysC, zRSeal, FC.refSealC, zRPad, FN.refPadC, zROpen, FC.refOpenC, zRUnpad, FN.refUnpadC, retQx, go_sem]
    all_goals first
      | trivial
      | rfl
      | trace_state
  | false =>
    have h3' : ¬ box.length < 32 := by have := of_decide_eq_false h3; omega
    have hbl : (box.take 32).length = 32 := by rw [List.length_take]; omega
    have hdl : (box.drop 32).length = box.length - 32 := List.length_drop
    have htk : (box.drop 32).take (box.length - 32) = box.drop 32 := List.take_of_length_le (by omega)
    have r1 : FK.pointR (FK.clampK prv) (box.take 32) = FK.pointS prv (box.take 32) := FK.pointR_eq _ _ hbl
    have r2 : FK.pointR (FK.clampK prv) FK.base9 = FK.pointS prv FK.base9 := FK.pointR_eq _ _ rfl
    have p1 := FK.pointS_len prv (box.take 32)
    have p2 := FK.pointS_len prv FK.base9
    have hr := right_k (FK.pointS prv (box.take 32)) (box.take 32) (FK.pointS prv FK.base9)
    have k1 := kK_len (FK.pointS prv (box.take 32)) (box.take 32) (FK.pointS prv FK.base9)
    have k2 := kN_len (FK.pointS prv (box.take 32)) (box.take 32) (FK.pointS prv FK.base9)
    have hv0 : opV prv box = if opE prv box = 0 then FN.unV (opS prv box) else .tup [.one (.str []), .one (.num (opE prv box))] := by unfold opV; rw [if_pos hl, if_neg h3']
    have oE := openB_E _ _ (box.drop 32) hr
    have oS := openB_S _ _ (box.drop 32) hr
    have o7 := openE_7 _ _ (box.drop 32) hr
    cases hB : FC.refOpenB (kK (FK.pointS prv (box.take 32)) (box.take 32) (FK.pointS prv FK.base9)) (kN (FK.pointS prv (box.take 32)) (box.take 32) (FK.pointS prv FK.base9)) [] (box.drop 32) with
    | true =>
      have hE : opE prv box = 0 := oE.1 hB
      have hS : FC.turnL (kK (FK.pointS prv (box.take 32)) (box.take 32) (FK.pointS prv FK.base9)) (kN (FK.pointS prv (box.take 32)) (box.take 32) (FK.pointS prv FK.base9)) 1 ((box.drop 32).take (box.length - 32 - 16)) = opS prv box := by
        rw [← hdl]; exact (oS hB).symm
      obtain ⟨-, -, hle⟩ := FC.seal_open _ _ _ _ (show FC.openE _ _ _ _ = 0 from hE)
      have hle' : (opS prv box).length ≤ 10000 := by
        have : (opS prv box).length + 16 = (box.drop 32).length := hle
        omega
      cases hu : FN.unOk (opS prv box) with
      | true =>
        have hw : FN.unV (opS prv box) = .tup [.one (.str (FN.upT (opS prv box))), .one (.num 0)] := by unfold FN.unV; rw [hu]; rfl
        have hw2 : FN.refUnV (opS prv box) = .tup [.one (.str (FN.upT (opS prv box))), .one (.bo true)] := by unfold FN.refUnV; rw [hu]; rfl
        have hv : opV prv box = .tup [.one (.str (FN.upT (opS prv box))), .one (.num 0)] := by rw [hv0, if_pos hE, hw]
        simp only [hv, h3, hl, hb9, hbl, hdl, htk, r1, r2, p1, p2, k1, k2, hB, if_true, hS, hw2, envZK, con0, conS, strsOf_arr, rowS_arr, strsOf_cells, rowS_cells, toS, strL_st, strL_d, strL_enc, strL_up, hpN_nil, hpN_cons, zc2, zRPoint, FK.rpointC, base8C, rkeysC, zRSeal, FC.refSealC, zRPad, FN.refPadC, zROpen, FC.refOpenC, zRUnpad, FN.refUnpadC, FK.rpointC, FC.refOpenC, FN.refUnpadC, retQx, go_sem]
        repeat' apply And.intro
        all_goals first
          | omega
          | (show ckDraw _; rfl)
          | skip
        refine endX [] ?_
        simp only [envZK, con0, conS, strsOf_arr, rowS_arr, strsOf_cells, rowS_cells, toS, strL_st, strL_d, strL_enc, strL_up, hpN_nil, hpN_cons, zc2, zRPoint, FK.rpointC, base8C, rkeysC, zRSeal, FC.refSealC, zRPad, FN.refPadC, zROpen, FC.refOpenC, zRUnpad, FN.refUnpadC, retQx, go_sem]
        all_goals first
          | trivial
          | rfl
          | trace_state
      | false =>
        have hw : FN.unV (opS prv box) = .tup [.one (.str []), .one (.num 3)] := by unfold FN.unV; rw [hu]; rfl
        have hw2 : FN.refUnV (opS prv box) = .tup [.one (.str []), .one (.bo false)] := by unfold FN.refUnV; rw [hu]; rfl
        have hv : opV prv box = .tup [.one (.str []), .one (.num 3)] := by rw [hv0, if_pos hE, hw]
        simp only [hv, h3, hl, hb9, hbl, hdl, htk, r1, r2, p1, p2, k1, k2, hB, if_true, hS, hw2, envZK, con0, conS, strsOf_arr, rowS_arr, strsOf_cells, rowS_cells, toS, strL_st, strL_d, strL_enc, strL_up, hpN_nil, hpN_cons, zc2, zRPoint, FK.rpointC, base8C, rkeysC, zRSeal, FC.refSealC, zRPad, FN.refPadC, zROpen, FC.refOpenC, zRUnpad, FN.refUnpadC, FK.rpointC, FC.refOpenC, FN.refUnpadC, retQx, go_sem]
        repeat' apply And.intro
        all_goals first
          | omega
          | (show ckDraw _; rfl)
          | skip
        refine endX [] ?_
        simp only [envZK, con0, conS, strsOf_arr, rowS_arr, strsOf_cells, rowS_cells, toS, strL_st, strL_d, strL_enc, strL_up, hpN_nil, hpN_cons, zc2, zRPoint, FK.rpointC, base8C, rkeysC, zRSeal, FC.refSealC, zRPad, FN.refPadC, zROpen, FC.refOpenC, zRUnpad, FN.refUnpadC, retQx, go_sem]
        all_goals first
          | trivial
          | rfl
          | trace_state
    | false =>
      have hE : opE prv box ≠ 0 := fun h => by rw [oE.2 h] at hB; cases hB
      have hv : opV prv box = .tup [.one (.str []), .one (.num 7)] := by rw [hv0, if_neg hE, show opE prv box = 7 from o7 hE]
      simp only [hv, h3, hl, hb9, hbl, hdl, htk, r1, r2, p1, p2, k1, k2, hB, Bool.false_eq_true, if_false, envZK, con0, conS, strsOf_arr, rowS_arr, strsOf_cells, rowS_cells, toS, strL_st, strL_d, strL_enc, strL_up, hpN_nil, hpN_cons, zc2, zRPoint, FK.rpointC, base8C, rkeysC, zRSeal, FC.refSealC, zRPad, FN.refPadC, zROpen, FC.refOpenC, zRUnpad, FN.refUnpadC, FK.rpointC, FC.refOpenC, FN.refUnpadC, retQx, go_sem]
      repeat' apply And.intro
      all_goals first
        | omega
        | (show ckDraw _; rfl)
        | skip
      refine endX [] ?_
      simp only [envZK, con0, conS, strsOf_arr, rowS_arr, strsOf_cells, rowS_cells, toS, strL_st, strL_d, strL_enc, strL_up, hpN_nil, hpN_cons, zc2, zRPoint, FK.rpointC, base8C, rkeysC, zRSeal, FC.refSealC, zRPad, FN.refPadC, zROpen, FC.refOpenC, zRUnpad, FN.refUnpadC, retQx, go_sem]
      all_goals first
        | trivial
        | rfl
        | trace_state
def ropenC : Con := con0 fun args => match args with
  | [.one (.str prv), .one (.str box)] => some (opV prv box, [prv.length = 32, box.length ≤ 1024])
  | _ => none
theorem ropenC_ok : ConOkG Tryz.prog GZ 12 ropenC := con0_okG Tryz.func12 rfl rfl fun args res ob h hob => by
  split at h
  · injection h with h; injection h with h1 h2; subst h1; subst h2; exact ropen_tri _ _ hob.1 hob.2.1
  · cases h
def zc3 : Nat → Option Con := fun f => match f with
  | 9 => some boxC
  | 11 => some zopenC
  | 10 => some rboxC
  | 12 => some ropenC
  | 8 => some zAwake
  | _ => none
theorem zc3_ok : GaOkG Tryz.prog GZ zc3 := fun f con h => by
  unfold zc3 at h
  split at h
  · injection h with h; subst h; exact boxC_ok
  · injection h with h; subst h; exact zopenC_ok
  · injection h with h; subst h; exact rboxC_ok
  · injection h with h; subst h; exact ropenC_ok
  · injection h with h; subst h; exact zAwake_ok
  · cases h
set_option maxRecDepth 100000 in
theorem lawBoxes_tri (pub once s : List UInt8) : TriG Tryz.prog GZ 3 [.one (.str pub), .one (.str once), .one (.str s)] [] (.c (.one (.bo true))) [] := by
  refine tri_ofx (envZK_ok zc3_ok 72 []) Tryz.func3 rfl rfl (rs := [.tmp 6]) rfl rfl (by simp [envZK]) rfl ?_
  cases c1 : decide ((100 : Int) < (pub.length : Int)) with
  | true =>
    simp only [c1, envZK, con0, conS, strsOf_arr, rowS_arr, strsOf_cells, rowS_cells, toS, strL_st, strL_d, strL_enc, strL_up, hpN_nil, hpN_cons, zc3, boxC, zopenC, rboxC, ropenC, zAwake, FN.awake08C, retQx, go_sem]
    repeat' apply And.intro
    all_goals first
      | omega
      | (show ckDraw _; rfl)
      | skip
    refine endX [] ?_
    simp only [envZK, con0, conS, strsOf_arr, rowS_arr, strsOf_cells, rowS_cells, toS, strL_st, strL_d, strL_enc, strL_up, hpN_nil, hpN_cons, zc3, boxC, zopenC, rboxC, ropenC, zAwake, retQx, go_sem]
    all_goals first
      | trivial
      | rfl
      | trace_state
  | false =>
    cases c2 : decide ((100 : Int) < (once.length : Int)) with
    | true =>
      simp only [c1, c2, envZK, con0, conS, strsOf_arr, rowS_arr, strsOf_cells, rowS_cells, toS, strL_st, strL_d, strL_enc, strL_up, hpN_nil, hpN_cons, zc3, boxC, zopenC, rboxC, ropenC, zAwake, FN.awake08C, retQx, go_sem]
      repeat' apply And.intro
      all_goals first
        | omega
        | (show ckDraw _; rfl)
        | skip
      refine endX [] ?_
      simp only [envZK, con0, conS, strsOf_arr, rowS_arr, strsOf_cells, rowS_cells, toS, strL_st, strL_d, strL_enc, strL_up, hpN_nil, hpN_cons, zc3, boxC, zopenC, rboxC, ropenC, zAwake, retQx, go_sem]
      all_goals first
        | trivial
        | rfl
        | trace_state
    | false =>
      cases c3 : decide ((1024 : Int) < (s.length : Int)) with
      | true =>
        simp only [c1, c2, c3, envZK, con0, conS, strsOf_arr, rowS_arr, strsOf_cells, rowS_cells, toS, strL_st, strL_d, strL_enc, strL_up, hpN_nil, hpN_cons, zc3, boxC, zopenC, rboxC, ropenC, zAwake, FN.awake08C, retQx, go_sem]
        repeat' apply And.intro
        all_goals first
          | omega
          | (show ckDraw _; rfl)
          | skip
        refine endX [] ?_
        simp only [envZK, con0, conS, strsOf_arr, rowS_arr, strsOf_cells, rowS_cells, toS, strL_st, strL_d, strL_enc, strL_up, hpN_nil, hpN_cons, zc3, boxC, zopenC, rboxC, ropenC, zAwake, retQx, go_sem]
        all_goals first
          | trivial
          | rfl
          | trace_state
      | false =>
        have c3' := of_decide_eq_false c3
        by_cases h1 : pub.length = 32
        · by_cases h2 : once.length = 32
          · cases h7 : decide ((700 : Int) < (s.length : Int)) with
            | true =>
              have h7' : ¬ s.length ≤ 700 := by have := of_decide_eq_true h7; omega
              have hb : boxV pub once s = .tup [.one (.str []), .one (.num 4)] := by unfold boxV; rw [if_pos ⟨h2, h1⟩, if_neg h7']
              simp only [c1, c2, c3, h1, h2, h7, hb, beq_self_eq_true, envZK, con0, conS, strsOf_arr, rowS_arr, strsOf_cells, rowS_cells, toS, strL_st, strL_d, strL_enc, strL_up, hpN_nil, hpN_cons, zc3, boxC, zopenC, rboxC, ropenC, zAwake, FN.awake08C, retQx, go_sem]
              repeat' apply And.intro
              all_goals first
                | omega
                | (show ckDraw _; rfl)
                | skip
              refine endX [] ?_
              simp only [envZK, con0, conS, strsOf_arr, rowS_arr, strsOf_cells, rowS_cells, toS, strL_st, strL_d, strL_enc, strL_up, hpN_nil, hpN_cons, zc3, boxC, zopenC, rboxC, ropenC, zAwake, retQx, go_sem]
              all_goals first
                | trivial
                | rfl
                | trace_state
            | false =>
              have h7' : s.length ≤ 700 := by have := of_decide_eq_false h7; omega
              have hb : boxV pub once s = .tup [.one (.str (boxL pub once s)), .one (.num 0)] := by unfold boxV; rw [if_pos ⟨h2, h1⟩, if_pos h7']
              simp only [c1, c2, c3, h1, h2, h7, hb, beq_self_eq_true, envZK, con0, conS, strsOf_arr, rowS_arr, strsOf_cells, rowS_cells, toS, strL_st, strL_d, strL_enc, strL_up, hpN_nil, hpN_cons, zc3, boxC, zopenC, rboxC, ropenC, zAwake, FN.awake08C, retQx, go_sem]
              repeat' apply And.intro
              all_goals first
                | omega
                | (show ckDraw _; rfl)
                | skip
              refine endX [] ?_
              simp only [envZK, con0, conS, strsOf_arr, rowS_arr, strsOf_cells, rowS_cells, toS, strL_st, strL_d, strL_enc, strL_up, hpN_nil, hpN_cons, zc3, boxC, zopenC, rboxC, ropenC, zAwake, retQx, go_sem]
              all_goals first
                | trivial
                | rfl
                | trace_state
          · have hn : ((once.length : Int) == 32) = false := by rw [beq_eq_false_iff_ne]; omega
            have hb : boxV pub once s = .tup [.one (.str []), .one (.num 1)] := if_neg fun h => h2 h.1
            simp only [c1, c2, c3, h1, hn, hb, beq_self_eq_true, envZK, con0, conS, strsOf_arr, rowS_arr, strsOf_cells, rowS_cells, toS, strL_st, strL_d, strL_enc, strL_up, hpN_nil, hpN_cons, zc3, boxC, zopenC, rboxC, ropenC, zAwake, FN.awake08C, retQx, go_sem]
            repeat' apply And.intro
            all_goals first
              | omega
              | (show ckDraw _; rfl)
              | skip
            refine endX [] ?_
            simp only [envZK, con0, conS, strsOf_arr, rowS_arr, strsOf_cells, rowS_cells, toS, strL_st, strL_d, strL_enc, strL_up, hpN_nil, hpN_cons, zc3, boxC, zopenC, rboxC, ropenC, zAwake, retQx, go_sem]
            all_goals first
              | trivial
              | rfl
              | trace_state
        · have hn : ((pub.length : Int) == 32) = false := by rw [beq_eq_false_iff_ne]; omega
          have hb : boxV pub once s = .tup [.one (.str []), .one (.num 1)] := if_neg fun h => h1 h.2
          simp only [c1, c2, c3, hn, hb, beq_self_eq_true, envZK, con0, conS, strsOf_arr, rowS_arr, strsOf_cells, rowS_cells, toS, strL_st, strL_d, strL_enc, strL_up, hpN_nil, hpN_cons, zc3, boxC, zopenC, rboxC, ropenC, zAwake, FN.awake08C, retQx, go_sem]
          repeat' apply And.intro
          all_goals first
            | omega
            | (show ckDraw _; rfl)
            | skip
          refine endX [] ?_
          simp only [envZK, con0, conS, strsOf_arr, rowS_arr, strsOf_cells, rowS_cells, toS, strL_st, strL_d, strL_enc, strL_up, hpN_nil, hpN_cons, zc3, boxC, zopenC, rboxC, ropenC, zAwake, retQx, go_sem]
          all_goals first
            | trivial
            | rfl
            | trace_state
theorem sealBoxes_law (a : ByteArray) (wa : a.size ≤ maxLen) (b : ByteArray) (wb : b.size ≤ maxLen) (c : ByteArray) (wc : c.size ≤ maxLen) (w : World) (hg : ∀ f ∈ GZ, f.p w) : Calls Tryz.prog 3 #[.string a, .string b, .string c] w fun e w' => e = .returned (.bool true) ∧ Below w.heap.size w w' := by
  refine (tri_callsG (lawBoxes_tri a.data.toList b.data.toList c.data.toList) w (vals := [.string a, .string b, .string c]) ⟨rfl, rfl, rfl, trivial⟩ hg).mono ?_
  rintro e w' ⟨u, r', rfl, hr, hb⟩
  exact ⟨by rw [show u = .bool true from hr], hb⟩
theorem opV_tup (prv box : List UInt8) : ∃ s e, opV prv box = .tup [.one (.str s), .one (.num e)] := by
  unfold opV FN.unV
  split
  · split
    · exact ⟨_, _, rfl⟩
    · split
      · split
        · exact ⟨_, _, rfl⟩
        · exact ⟨_, _, rfl⟩
      · exact ⟨_, _, rfl⟩
  · exact ⟨_, _, rfl⟩
set_option maxRecDepth 100000 in
theorem lawOpens_tri (prv box : List UInt8) : TriG Tryz.prog GZ 4 [.one (.str prv), .one (.str box)] [] (.c (.one (.bo true))) [] := by
  refine tri_ofx (envZK_ok zc3_ok 53 []) Tryz.func4 rfl rfl (rs := [.tmp 4]) rfl rfl (by simp [envZK]) rfl ?_
  cases c1 : decide ((100 : Int) < (prv.length : Int)) with
  | true =>
    simp only [c1, envZK, con0, conS, strsOf_arr, rowS_arr, strsOf_cells, rowS_cells, toS, strL_st, strL_d, strL_enc, strL_up, hpN_nil, hpN_cons, zc3, boxC, zopenC, rboxC, ropenC, zAwake, FN.awake08C, retQx, go_sem]
    repeat' apply And.intro
    all_goals first
      | omega
      | (show ckDraw _; rfl)
      | skip
    refine endX [] ?_
    simp only [envZK, con0, conS, strsOf_arr, rowS_arr, strsOf_cells, rowS_cells, toS, strL_st, strL_d, strL_enc, strL_up, hpN_nil, hpN_cons, zc3, boxC, zopenC, rboxC, ropenC, zAwake, retQx, go_sem]
    all_goals first
      | trivial
      | rfl
      | trace_state
  | false =>
    cases c2 : decide ((1024 : Int) < (box.length : Int)) with
    | true =>
      simp only [c1, c2, envZK, con0, conS, strsOf_arr, rowS_arr, strsOf_cells, rowS_cells, toS, strL_st, strL_d, strL_enc, strL_up, hpN_nil, hpN_cons, zc3, boxC, zopenC, rboxC, ropenC, zAwake, FN.awake08C, retQx, go_sem]
      repeat' apply And.intro
      all_goals first
        | omega
        | (show ckDraw _; rfl)
        | skip
      refine endX [] ?_
      simp only [envZK, con0, conS, strsOf_arr, rowS_arr, strsOf_cells, rowS_cells, toS, strL_st, strL_d, strL_enc, strL_up, hpN_nil, hpN_cons, zc3, boxC, zopenC, rboxC, ropenC, zAwake, retQx, go_sem]
      all_goals first
        | trivial
        | rfl
        | trace_state
    | false =>
      have c2' := of_decide_eq_false c2
      by_cases h1 : prv.length = 32
      · obtain ⟨s, e, hv⟩ := opV_tup prv box
        simp only [c1, c2, h1, hv, beq_self_eq_true, envZK, con0, conS, strsOf_arr, rowS_arr, strsOf_cells, rowS_cells, toS, strL_st, strL_d, strL_enc, strL_up, hpN_nil, hpN_cons, zc3, boxC, zopenC, rboxC, ropenC, zAwake, FN.awake08C, retQx, go_sem]
        repeat' apply And.intro
        all_goals first
          | omega
          | (show ckDraw _; rfl)
          | skip
        refine endX [] ?_
        simp only [envZK, con0, conS, strsOf_arr, rowS_arr, strsOf_cells, rowS_cells, toS, strL_st, strL_d, strL_enc, strL_up, hpN_nil, hpN_cons, zc3, boxC, zopenC, rboxC, ropenC, zAwake, retQx, go_sem]
        all_goals first
          | trivial
          | rfl
          | trace_state
      · have hn : ((prv.length : Int) == 32) = false := by rw [beq_eq_false_iff_ne]; omega
        have hv : opV prv box = .tup [.one (.str []), .one (.num 1)] := if_neg h1
        simp only [c1, c2, hn, hv, beq_self_eq_true, envZK, con0, conS, strsOf_arr, rowS_arr, strsOf_cells, rowS_cells, toS, strL_st, strL_d, strL_enc, strL_up, hpN_nil, hpN_cons, zc3, boxC, zopenC, rboxC, ropenC, zAwake, FN.awake08C, retQx, go_sem]
        repeat' apply And.intro
        all_goals first
          | omega
          | (show ckDraw _; rfl)
          | skip
        refine endX [] ?_
        simp only [envZK, con0, conS, strsOf_arr, rowS_arr, strsOf_cells, rowS_cells, toS, strL_st, strL_d, strL_enc, strL_up, hpN_nil, hpN_cons, zc3, boxC, zopenC, rboxC, ropenC, zAwake, retQx, go_sem]
        all_goals first
          | trivial
          | rfl
          | trace_state
theorem sealOpens_law (a : ByteArray) (wa : a.size ≤ maxLen) (b : ByteArray) (wb : b.size ≤ maxLen) (w : World) (hg : ∀ f ∈ GZ, f.p w) : Calls Tryz.prog 4 #[.string a, .string b] w fun e w' => e = .returned (.bool true) ∧ Below w.heap.size w w' := by
  refine (tri_callsG (lawOpens_tri a.data.toList b.data.toList) w (vals := [.string a, .string b]) ⟨rfl, rfl, trivial⟩ hg).mono ?_
  rintro e w' ⟨u, r', rfl, hr, hb⟩
  exact ⟨by rw [show u = .bool true from hr], hb⟩
end Go.Proofs.YtahiopdkekkibaaGreatDoor.FZ
