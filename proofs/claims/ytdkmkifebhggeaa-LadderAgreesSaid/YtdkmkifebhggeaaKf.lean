/-
  Layer 4: the key of a scalar and a point; what each scalar makes of the base; the fixed answer.
-/
import Derived.Test.YtdkmkifebhggeaaSz
import Derived.Test.YtdkmkifebhggeaaKe
import Derived.Test.YtdkmkifebhggeaaKz
namespace Go.Proofs.Ytdkmkifebhggeaa
open Go Go.RowKit
set_option maxHeartbeats 4000000
set_option linter.unusedSimpArgs false
set_option linter.unusedVariables false
def pointS (s u : List UInt8) : List UInt8 := bytesF (climbF (clampK s) (ofN u))
def pointV (s u : List UInt8) : SV := if s.length = 32 ∧ u.length = 32 then .tup [.one (.str (pointS s u)), .one (.bo true)] else .tup [.one (.str []), .one (.bo false)]
def gk6 : Nat → Option Con := fun f => match f with
  | 26 => some clampC
  | 42 => some fofC
  | 43 => some climbC
  | 12 => some fbytesC
  | _ => none
theorem gk6_ok : GaOk Try.prog gk6 := fun f con h => by
  unfold gk6 at h
  split at h
  · injection h with h; subst h; exact clampC_ok
  · injection h with h; subst h; exact fofC_ok
  · injection h with h; subst h; exact climbC_ok
  · injection h with h; subst h; exact fbytesC_ok
  · cases h
set_option maxRecDepth 100000 in
theorem point_tri (s u : List UInt8) : Tri Try.prog 29 [.one (.str s), .one (.str u)] [] (pointV s u) [] := by
  refine tri_of (envOf_ok gk6_ok 27) Try.func29 rfl rfl (rs := [.tmp 4, .tmp 5]) rfl rfl (by simp [envOf]) rfl [] ?_
  by_cases hs : s.length = 32
  · have hc : clampV s = .tup [.one (.str (clampK s)), .one (.bo true)] := if_pos hs
    have hcl : (clampK s).length = 32 := by rw [clampK_len]; exact hs
    by_cases hu : u.length = 32
    · have ho : ofV u = .tup [(ofN u).cv, .one (.bo true)] := if_pos hu
      have hv : pointV s u = .tup [.one (.str (pointS s u)), .one (.bo true)] := if_pos ⟨hs, hu⟩
      simp only [envOf, gk6, clampC, fofC, climbC, fbytesC, hc, ho, hv, hcl, pointS, N5.cv, N5.eta, go_sem, reduceCtorEq, ↓reduceIte, Nat.reduceAdd, Nat.reduceMul, Nat.reduceSub, Nat.reduceEqDiff, Nat.reduceLT, Nat.reduceBEq, Nat.reduceBNe, Nat.reduceLeDiff, Int.reduceLE, Int.reduceLT, Int.reduceToNat, Int.reduceEq, Int.reduceAdd, UInt8.reduceToNat, UInt32.reduceToNat, UInt64.reduceToNat, UInt8.reduceOfNat, UInt32.reduceOfNat, UInt64.reduceOfNat, Fin.isValue, Int.reduceSub, Int.reduceMul, Int.reduceNeg, Int.reduceMod, Int.reduceDiv, Int.reduceTDiv, Int.reduceTMod, Int.reduceBEq, Int.reduceBNe, Nat.reduceDiv, Nat.reducePow]
    · have ho : ofV u = .tup [zeroF.cv, .one (.bo false)] := if_neg hu
      have hv : pointV s u = .tup [.one (.str []), .one (.bo false)] := if_neg fun h => hu h.2
      simp only [envOf, gk6, clampC, fofC, climbC, fbytesC, hc, ho, hv, hcl, N5.cv, zeroF, N5.eta, go_sem, reduceCtorEq, ↓reduceIte, Nat.reduceAdd, Nat.reduceMul, Nat.reduceSub, Nat.reduceEqDiff, Nat.reduceLT, Nat.reduceBEq, Nat.reduceBNe, Nat.reduceLeDiff, Int.reduceLE, Int.reduceLT, Int.reduceToNat, Int.reduceEq, Int.reduceAdd, UInt8.reduceToNat, UInt32.reduceToNat, UInt64.reduceToNat, UInt8.reduceOfNat, UInt32.reduceOfNat, UInt64.reduceOfNat, Fin.isValue, Int.reduceSub, Int.reduceMul, Int.reduceNeg, Int.reduceMod, Int.reduceDiv, Int.reduceTDiv, Int.reduceTMod, Int.reduceBEq, Int.reduceBNe, Nat.reduceDiv, Nat.reducePow]
  · have hc : clampV s = .tup [.one (.str []), .one (.bo false)] := if_neg hs
    have hv : pointV s u = .tup [.one (.str []), .one (.bo false)] := if_neg fun h => hs h.1
    simp only [envOf, gk6, clampC, fofC, climbC, fbytesC, hc, hv, go_sem, reduceCtorEq, ↓reduceIte, Nat.reduceAdd, Nat.reduceMul, Nat.reduceSub, Nat.reduceEqDiff, Nat.reduceLT, Nat.reduceBEq, Nat.reduceBNe, Nat.reduceLeDiff, Int.reduceLE, Int.reduceLT, Int.reduceToNat, Int.reduceEq, Int.reduceAdd, UInt8.reduceToNat, UInt32.reduceToNat, UInt64.reduceToNat, UInt8.reduceOfNat, UInt32.reduceOfNat, UInt64.reduceOfNat, Fin.isValue, Int.reduceSub, Int.reduceMul, Int.reduceNeg, Int.reduceMod, Int.reduceDiv, Int.reduceTDiv, Int.reduceTMod, Int.reduceBEq, Int.reduceBNe, Nat.reduceDiv, Nat.reducePow]
def pointC : Con := con0 fun args => match args with
  | [.one (.str s), .one (.str u)] => some (pointV s u, [])
  | _ => none
theorem pointC_ok : ConOk Try.prog 29 pointC := con0_ok Try.func29 rfl rfl fun args res ob h hob => by
  split at h
  · injection h with h; injection h with h1 h2; subst h1; subst h2; exact point_tri _ _
  · cases h
def gk7 : Nat → Option Con := fun f => match f with
  | 29 => some pointC
  | 28 => some baseC
  | _ => none
theorem gk7_ok : GaOk Try.prog gk7 := fun f con h => by
  unfold gk7 at h
  split at h
  · injection h with h; subst h; exact pointC_ok
  · injection h with h; subst h; exact baseC_ok
  · cases h
set_option maxRecDepth 100000 in
theorem public_tri (s : List UInt8) : Tri Try.prog 31 [.one (.str s)] [] (pointV s base9) [] := by
  refine tri_of (envOf_ok gk7_ok 9) Try.func31 rfl rfl (rs := [.tmp 2, .tmp 3]) rfl rfl (by simp [envOf]) rfl [] ?_
  by_cases hs : s.length = 32
  · have hv : pointV s base9 = .tup [.one (.str (pointS s base9)), .one (.bo true)] := if_pos ⟨hs, rfl⟩
    simp only [envOf, gk7, pointC, baseC, hv, go_sem, reduceCtorEq, ↓reduceIte, Nat.reduceAdd, Nat.reduceMul, Nat.reduceSub, Nat.reduceEqDiff, Nat.reduceLT, Nat.reduceBEq, Nat.reduceBNe, Nat.reduceLeDiff, Int.reduceLE, Int.reduceLT, Int.reduceToNat, Int.reduceEq, Int.reduceAdd, UInt8.reduceToNat, UInt32.reduceToNat, UInt64.reduceToNat, UInt8.reduceOfNat, UInt32.reduceOfNat, UInt64.reduceOfNat, Fin.isValue, Int.reduceSub, Int.reduceMul, Int.reduceNeg, Int.reduceMod, Int.reduceDiv, Int.reduceTDiv, Int.reduceTMod, Int.reduceBEq, Int.reduceBNe, Nat.reduceDiv, Nat.reducePow]
  · have hv : pointV s base9 = .tup [.one (.str []), .one (.bo false)] := if_neg fun h => hs h.1
    simp only [envOf, gk7, pointC, baseC, hv, go_sem, reduceCtorEq, ↓reduceIte, Nat.reduceAdd, Nat.reduceMul, Nat.reduceSub, Nat.reduceEqDiff, Nat.reduceLT, Nat.reduceBEq, Nat.reduceBNe, Nat.reduceLeDiff, Int.reduceLE, Int.reduceLT, Int.reduceToNat, Int.reduceEq, Int.reduceAdd, UInt8.reduceToNat, UInt32.reduceToNat, UInt64.reduceToNat, UInt8.reduceOfNat, UInt32.reduceOfNat, UInt64.reduceOfNat, Fin.isValue, Int.reduceSub, Int.reduceMul, Int.reduceNeg, Int.reduceMod, Int.reduceDiv, Int.reduceTDiv, Int.reduceTMod, Int.reduceBEq, Int.reduceBNe, Nat.reduceDiv, Nat.reducePow]
def publicC : Con := con0 fun args => match args with
  | [.one (.str s)] => some (pointV s base9, [])
  | _ => none
theorem publicC_ok : ConOk Try.prog 31 publicC := con0_ok Try.func31 rfl rfl fun args res ob h hob => by
  split at h
  · injection h with h; injection h with h1 h2; subst h1; subst h2; exact public_tri _
  · cases h
def nought32 : List UInt8 := [0, 0, 0, 0, 0, 0, 0, 0, 0, 0, 0, 0, 0, 0, 0, 0, 0, 0, 0, 0, 0, 0, 0, 0, 0, 0, 0, 0, 0, 0, 0, 0]
def gk8 : Nat → Option Con := fun f => match f with
  | 29 => some pointC
  | 28 => some baseC
  | 26 => some clampC
  | _ => none
theorem gk8_ok : GaOk Try.prog gk8 := fun f con h => by
  unfold gk8 at h
  split at h
  · injection h with h; subst h; exact pointC_ok
  · injection h with h; subst h; exact baseC_ok
  · injection h with h; subst h; exact clampC_ok
  · cases h
set_option maxRecDepth 100000 in
theorem awake4_tri : Tri Try.prog 25 [] [] (.c (.one (.bo true))) [] := by
  refine tri_of (envOf_ok gk8_ok 33) Try.func25 rfl rfl (rs := [.tmp 0]) rfl rfl (by simp [envOf]) rfl [] ?_
  have h1 : clampV nought32 = .tup [.one (.str [0, 0, 0, 0, 0, 0, 0, 0, 0, 0, 0, 0, 0, 0, 0, 0, 0, 0, 0, 0, 0, 0, 0, 0, 0, 0, 0, 0, 0, 0, 0, 64]), .one (.bo true)] := (if_pos rfl).trans (by rw [show clampK nought32 = [0, 0, 0, 0, 0, 0, 0, 0, 0, 0, 0, 0, 0, 0, 0, 0, 0, 0, 0, 0, 0, 0, 0, 0, 0, 0, 0, 0, 0, 0, 0, 64] by decide +kernel])
  have h2 : pointV [115, 104, 111, 114, 116] nought32 = .tup [.one (.str []), .one (.bo false)] := if_neg fun h => absurd h.1 (by decide)
  unfold nought32 at h1 h2
  simp only [envOf, gk8, pointC, baseC, clampC, h1, h2, base9, go_sem, reduceCtorEq, ↓reduceIte, Nat.reduceAdd, Nat.reduceMul, Nat.reduceSub, Nat.reduceEqDiff, Nat.reduceLT, Nat.reduceBEq, Nat.reduceBNe, Nat.reduceLeDiff, Int.reduceLE, Int.reduceLT, Int.reduceToNat, Int.reduceEq, Int.reduceAdd, UInt8.reduceToNat, UInt32.reduceToNat, UInt64.reduceToNat, UInt8.reduceOfNat, UInt32.reduceOfNat, UInt64.reduceOfNat, Fin.isValue, Int.reduceSub, Int.reduceMul, Int.reduceNeg, Int.reduceMod, Int.reduceDiv, Int.reduceTDiv, Int.reduceTMod, Int.reduceBEq, Int.reduceBNe, Nat.reduceDiv, Nat.reducePow]
def awake4C : Con := con0 fun args => match args with
  | [] => some (.c (.one (.bo true)), [])
  | _ => none
theorem awake4C_ok : ConOk Try.prog 25 awake4C := con0_ok Try.func25 rfl rfl fun args res ob h hob => by
  split at h
  · injection h with h; injection h with h1 h2; subst h1; subst h2; exact awake4_tri
  · cases h
end Go.Proofs.Ytdkmkifebhggeaa
