/-
  Layer 3: a number out of bytes; a number to a power.
-/
import Derived.Test.YtdkmkifebhggeaaSz
import Derived.Test.YtdkmkifebhggeaaKa
import Derived.Test.YtdkmkifebhggeaaKy
namespace Go.Proofs.Ytdkmkifebhggeaa
open Go Go.RowKit
set_option maxHeartbeats 4000000
set_option linter.unusedSimpArgs false
set_option linter.unusedVariables false
def w64 (s : List UInt8) : UInt64 := 0 ||| shl64 (s.getD 0 0).toUInt64 0 ||| shl64 (s.getD 1 0).toUInt64 8 ||| shl64 (s.getD 2 0).toUInt64 16 ||| shl64 (s.getD 3 0).toUInt64 24 ||| shl64 (s.getD 4 0).toUInt64 32 ||| shl64 (s.getD 5 0).toUInt64 40 ||| shl64 (s.getD 6 0).toUInt64 48 ||| shl64 (s.getD 7 0).toUInt64 56
set_option maxRecDepth 100000 in
theorem fword_tri (s : List UInt8) (hs : s.length = 8) : Tri Try.prog 50 [.one (.str s)] [] (.c (.one (.u64 (w64 s)))) [] := by
  refine tri_of (envOf_ok ga0_ok 19) Try.func50 rfl rfl (rs := [.tmp 2]) rfl rfl (by simp [envOf]) rfl [] ?_
  simp only [envOf, ga0, go_sem, reduceCtorEq, ↓reduceIte, Nat.reduceAdd, Nat.reduceMul, Nat.reduceSub, Nat.reduceEqDiff, Nat.reduceLT, Nat.reduceBEq, Nat.reduceBNe, Nat.reduceLeDiff, Int.reduceLE, Int.reduceLT, Int.reduceToNat, Int.reduceEq, Int.reduceAdd, UInt8.reduceToNat, UInt32.reduceToNat, UInt64.reduceToNat, UInt8.reduceOfNat, UInt32.reduceOfNat, UInt64.reduceOfNat, Fin.isValue, Int.reduceSub, Int.reduceMul, Int.reduceNeg, Int.reduceMod, Int.reduceDiv, Int.reduceTDiv, Int.reduceTMod, Int.reduceBEq, Int.reduceBNe, Nat.reduceDiv, Nat.reducePow]
  refine loop_rounds (envOf_ok ga0_ok 19) 9 ?_
  simp only [envOf, ga0, hs, go_sem, reduceCtorEq, ↓reduceIte, Nat.reduceAdd, Nat.reduceMul, Nat.reduceSub, Nat.reduceEqDiff, Nat.reduceLT, Nat.reduceBEq, Nat.reduceBNe, Nat.reduceLeDiff, Int.reduceLE, Int.reduceLT, Int.reduceToNat, Int.reduceEq, Int.reduceAdd, UInt8.reduceToNat, UInt32.reduceToNat, UInt64.reduceToNat, UInt8.reduceOfNat, UInt32.reduceOfNat, UInt64.reduceOfNat, Fin.isValue, Int.reduceSub, Int.reduceMul, Int.reduceNeg, Int.reduceMod, Int.reduceDiv, Int.reduceTDiv, Int.reduceTMod, Int.reduceBEq, Int.reduceBNe, Nat.reduceDiv, Nat.reducePow]
  repeat' apply And.intro
  all_goals first | omega | rfl
def fwordC : Con := con0 fun args => match args with
  | [.one (.str s)] => some (.c (.one (.u64 (w64 s))), [s.length = 8])
  | _ => none
theorem fwordC_ok : ConOk Try.prog 50 fwordC := con0_ok Try.func50 rfl rfl fun args res ob h hob => by
  split at h
  · injection h with h; injection h with h1 h2; subst h1; subst h2; exact fword_tri _ hob.1
  · cases h
def ofN (s : List UInt8) : N5 :=
  let w0 := w64 ((s.drop 0).take 8)
  let w1 := w64 ((s.drop 8).take 8)
  let w2 := w64 ((s.drop 16).take 8)
  let w3 := w64 ((s.drop 24).take 8)
  ⟨w0 &&& 2251799813685247, (shr64 w0 51 ||| shl64 w1 13) &&& 2251799813685247, (shr64 w1 38 ||| shl64 w2 26) &&& 2251799813685247, (shr64 w2 25 ||| shl64 w3 39) &&& 2251799813685247, shr64 w3 12 &&& 2251799813685247⟩
def ofV (s : List UInt8) : SV := if s.length = 32 then .tup [(ofN s).cv, .one (.bo true)] else .tup [zeroF.cv, .one (.bo false)]
def gk1 : Nat → Option Con := fun f => match f with
  | 50 => some fwordC
  | _ => none
theorem gk1_ok : GaOk Try.prog gk1 := fun f con h => by
  unfold gk1 at h
  split at h
  · injection h with h; subst h; exact fwordC_ok
  · cases h
set_option maxRecDepth 100000 in
theorem fof_tri (s : List UInt8) : Tri Try.prog 42 [.one (.str s)] [] (ofV s) [] := by
  refine tri_of (envOf_ok gk1_ok 48) Try.func42 rfl rfl (rs := [.cell 2 24, .tmp 3]) rfl rfl (by simp [envOf]) rfl [] ?_
  cases h : ((s.length : Int) == 32) with
  | false =>
    have hn : s.length ≠ 32 := fun e => by rw [e] at h; exact absurd h (by decide)
    have hv : ofV s = .tup [zeroF.cv, .one (.bo false)] := if_neg hn
    simp only [envOf, gk1, fwordC, h, hv, N5.cv, zeroF, go_sem, reduceCtorEq, ↓reduceIte, Nat.reduceAdd, Nat.reduceMul, Nat.reduceSub, Nat.reduceEqDiff, Nat.reduceLT, Nat.reduceBEq, Nat.reduceBNe, Nat.reduceLeDiff, Int.reduceLE, Int.reduceLT, Int.reduceToNat, Int.reduceEq, Int.reduceAdd, UInt8.reduceToNat, UInt32.reduceToNat, UInt64.reduceToNat, UInt8.reduceOfNat, UInt32.reduceOfNat, UInt64.reduceOfNat, Fin.isValue, Int.reduceSub, Int.reduceMul, Int.reduceNeg, Int.reduceMod, Int.reduceDiv, Int.reduceTDiv, Int.reduceTMod, Int.reduceBEq, Int.reduceBNe, Nat.reduceDiv, Nat.reducePow]
    all_goals try rfl
  | true =>
    have hs : s.length = 32 := by have := beq_iff_eq.1 h; omega
    have hv : ofV s = .tup [(ofN s).cv, .one (.bo true)] := if_pos hs
    simp only [envOf, gk1, fwordC, hs, hv, N5.cv, ofN, List.length_take, List.length_drop, go_sem, reduceCtorEq, ↓reduceIte, Nat.reduceAdd, Nat.reduceMul, Nat.reduceSub, Nat.reduceEqDiff, Nat.reduceLT, Nat.reduceBEq, Nat.reduceBNe, Nat.reduceLeDiff, Int.reduceLE, Int.reduceLT, Int.reduceToNat, Int.reduceEq, Int.reduceAdd, UInt8.reduceToNat, UInt32.reduceToNat, UInt64.reduceToNat, UInt8.reduceOfNat, UInt32.reduceOfNat, UInt64.reduceOfNat, Fin.isValue, Int.reduceSub, Int.reduceMul, Int.reduceNeg, Int.reduceMod, Int.reduceDiv, Int.reduceTDiv, Int.reduceTMod, Int.reduceBEq, Int.reduceBNe, Nat.reduceDiv, Nat.reducePow]
    repeat' apply And.intro
    all_goals first | omega | rfl
def fofC : Con := con0 fun args => match args with
  | [.one (.str s)] => some (ofV s, [])
  | _ => none
theorem fofC_ok : ConOk Try.prog 42 fofC := con0_ok Try.func42 rfl rfl fun args res ob h hob => by
  split at h
  · injection h with h; injection h with h1 h2; subst h1; subst h2; exact fof_tri _
  · cases h
end Go.Proofs.Ytdkmkifebhggeaa
