/-
  Layer 4: the ladder, climbed.
-/
import Derived.Test.YtdkmkifebhggeaaSz
import Derived.Test.YtdkmkifebhggeaaKd
namespace Go.Proofs.Ytdkmkifebhggeaa
open Go Go.RowKit
set_option maxHeartbeats 4000000
set_option linter.unusedSimpArgs false
set_option linter.unusedVariables false
def lswapC : Con := con0 fun args => match args with
  | [.agg [.u64 a, .u64 b, .u64 c, .u64 d, .u64 e, .u64 f, .u64 g, .u64 h, .u64 i, .u64 j], .agg [.u64 a', .u64 b', .u64 c', .u64 d', .u64 e', .u64 f', .u64 g', .u64 h', .u64 i', .u64 j'], .one (.bo y)] => some (.tup [(if y = true then ⟨⟨a', b', c', d', e'⟩, ⟨f', g', h', i', j'⟩⟩ else ⟨⟨a, b, c, d, e⟩, ⟨f, g, h, i, j⟩⟩ : PN).cv, (if y = true then ⟨⟨a, b, c, d, e⟩, ⟨f, g, h, i, j⟩⟩ else ⟨⟨a', b', c', d', e'⟩, ⟨f', g', h', i', j'⟩⟩ : PN).cv], [])
  | _ => none
theorem lswapC_ok : ConOk Try.prog 51 lswapC := con0_ok Try.func51 rfl rfl fun args res ob h hob => by
  split at h
  · injection h with h; injection h with h1 h2; subst h1; subst h2; exact lswap_tri ⟨⟨_, _, _, _, _⟩, ⟨_, _, _, _, _⟩⟩ ⟨⟨_, _, _, _, _⟩, ⟨_, _, _, _, _⟩⟩ _
  · cases h
def gk5 : Nat → Option Con := fun f => match f with
  | 51 => some lswapC
  | 52 => some lstepC
  | 23 => some finvC
  | 19 => some fmulC
  | _ => none
theorem gk5_ok : GaOk Try.prog gk5 := fun f con h => by
  unfold gk5 at h
  split at h
  · injection h with h; subst h; exact lswapC_ok
  · injection h with h; subst h; exact lstepC_ok
  · injection h with h; subst h; exact finvC_ok
  · injection h with h; subst h; exact fmulC_ok
  · cases h
def PN.cells (p : PN) : SObj := .cells 1 [.u64 p.x.a, .u64 p.x.b, .u64 p.x.c, .u64 p.x.d, .u64 p.x.e, .u64 p.z.a, .u64 p.z.b, .u64 p.z.c, .u64 p.z.d, .u64 p.z.e]
def climbI (k : List UInt8) (x : N5) (s : Nat × PN × PN × Bool) : St := ⟨[(0, .c (.one (.str k))), (3, .c (.one (.ptr 10000 0 0 0))), (4, .c (.one (.ptr 10008 0 0 0))), (5, .c (.one (.ptr 20048 0 0 0))), (6, .c (.one (.ptr 20056 0 0 0))), (7, .c (.one (.bo s.2.2.2))), (8, .c (.one (.num (bitN s.1))))], [(10000, ⟨x.cells, true⟩), (10008, ⟨zeroF.cells, true⟩), (20048, ⟨s.2.1.cells, true⟩), (20056, ⟨s.2.2.1.cells, true⟩)]⟩
def climbOk (k : List UInt8) (x : N5) (s : Nat × PN × PN × Bool) : Prop := endS (climbS x (kbit k) s.1 s.2) = climbF k x ∧ s.1 ≤ 255
theorem bitN_succ (c : Nat) : bitN (c + 1) = (c : Int) := rfl
theorem tdiv8 (t : Nat) (h : t ≤ 1000) : IntKind.i64.wrap (((t : Nat) : Int).tdiv 8) = ((t / 8 : Nat) : Int) := by
  rw [show (8 : Int) = ((8 : Nat) : Int) from rfl, ← Int.ofNat_tdiv, IntKind.wrap_i64]; omega
theorem tmod8 (t : Nat) : ((t : Nat) : Int).tmod 8 = ((t % 8 : Nat) : Int) := by
  rw [show (8 : Int) = ((8 : Nat) : Int) from rfl, ← Int.ofNat_tmod]
set_option maxRecDepth 100000 in
theorem climb_tri (k : List UInt8) (x : N5) (hk : k.length = 32) : Tri Try.prog 43 [.one (.str k), x.cv] [] (.c (climbF k x).cv) [] := by
  refine tri_of (envOf_ok gk5_ok 59) Try.func43 rfl rfl (rs := [.cell 4 24]) rfl rfl (by simp [envOf]) rfl [] ?_
  simp only [envOf, gk5, lswapC, lstepC, finvC, fmulC, N5.cv, N5.eta, Try.underlying74, go_sem, reduceCtorEq, ↓reduceIte, Nat.reduceAdd, Nat.reduceMul, Nat.reduceSub, Nat.reduceEqDiff, Nat.reduceLT, Nat.reduceBEq, Nat.reduceBNe, Nat.reduceLeDiff, Int.reduceLE, Int.reduceLT, Int.reduceToNat, Int.reduceEq, Int.reduceAdd, UInt8.reduceToNat, UInt32.reduceToNat, UInt64.reduceToNat, UInt8.reduceOfNat, UInt32.reduceOfNat, UInt64.reduceOfNat, Fin.isValue, Int.reduceSub, Int.reduceMul, Int.reduceNeg, Int.reduceMod, Int.reduceDiv, Int.reduceTDiv, Int.reduceTMod, Int.reduceBEq, Int.reduceBNe, Nat.reduceDiv, Nat.reducePow]
  refine ⟨rfl, ?_⟩
  refine loop_inv (envOf_ok gk5_ok 59) (climbI k x) (climbOk k x) (fun s => s.1) (255, start x) [] ⟨rfl, Nat.le_refl _⟩ ?_ ?_
  · simp only [climbI, N5.cells, PN.cells, start, zeroF, oneF, bitN, go_sem, reduceCtorEq, ↓reduceIte, Nat.reduceAdd, Nat.reduceMul, Nat.reduceSub, Nat.reduceEqDiff, Nat.reduceLT, Nat.reduceBEq, Nat.reduceBNe, Nat.reduceLeDiff, Int.reduceLE, Int.reduceLT, Int.reduceToNat, Int.reduceEq, Int.reduceAdd, UInt8.reduceToNat, UInt32.reduceToNat, UInt64.reduceToNat, UInt8.reduceOfNat, UInt32.reduceOfNat, UInt64.reduceOfNat, Fin.isValue, Int.reduceSub, Int.reduceMul, Int.reduceNeg, Int.reduceMod, Int.reduceDiv, Int.reduceTDiv, Int.reduceTMod, Int.reduceBEq, Int.reduceBNe, Nat.reduceDiv, Nat.reducePow]
    all_goals try exact ⟨rfl, rfl⟩
  · rintro ⟨c, p, q, sw⟩ ⟨hb, hle⟩
    cases c with
    | zero =>
      have hr : climbF k x = endS (p, q, sw) := hb.symm
      cases sw
      all_goals
        simp only [envOf, gk5, lswapC, lstepC, finvC, fmulC, climbI, N5.cells, PN.cells, zeroF, bitN, hr, endS, N5.cv, PN.cv, N5.eta, Try.underlying74, go_sem, reduceCtorEq, ↓reduceIte, Nat.reduceAdd, Nat.reduceMul, Nat.reduceSub, Nat.reduceEqDiff, Nat.reduceLT, Nat.reduceBEq, Nat.reduceBNe, Nat.reduceLeDiff, Int.reduceLE, Int.reduceLT, Int.reduceToNat, Int.reduceEq, Int.reduceAdd, UInt8.reduceToNat, UInt32.reduceToNat, UInt64.reduceToNat, UInt8.reduceOfNat, UInt32.reduceOfNat, UInt64.reduceOfNat, Fin.isValue, Int.reduceSub, Int.reduceMul, Int.reduceNeg, Int.reduceMod, Int.reduceDiv, Int.reduceTDiv, Int.reduceTMod, Int.reduceBEq, Int.reduceBNe, Nat.reduceDiv, Nat.reducePow]
        all_goals try trivial
    | succ t =>
      have hle' : t ≤ 254 := by have : t + 1 ≤ 255 := hle; omega
      have h0 : decide ((0 : Int) ≤ (t : Int)) = true := decide_eq_true (by omega)
      have hw := bitN_next (c := t) (by omega)
      have hd := tdiv8 t (by omega)
      have hm := tmod8 t
      have hs : endS (climbS x (kbit k) t (stepS x (kbit k t) (p, q, sw))) = climbF k x := hb
      obtain ⟨nx, hnx⟩ : ∃ nx, nx = stepS x (kbit k t) (p, q, sw) := ⟨_, rfl⟩
      rw [← hnx] at hs
      cases hbit : kbit k t
      all_goals
        rw [hbit] at hnx
        unfold kbit at hbit
        cases sw
        all_goals
          simp only [envOf, gk5, lswapC, lstepC, finvC, fmulC, climbI, N5.cells, PN.cells, zeroF, bitN_succ, h0, hw, hd, hm, hk, hbit, bne, N5.cv, PN.cv, N5.eta, Try.underlying74, go_sem, reduceCtorEq, ↓reduceIte, Nat.reduceAdd, Nat.reduceMul, Nat.reduceSub, Nat.reduceEqDiff, Nat.reduceLT, Nat.reduceBEq, Nat.reduceBNe, Nat.reduceLeDiff, Int.reduceLE, Int.reduceLT, Int.reduceToNat, Int.reduceEq, Int.reduceAdd, UInt8.reduceToNat, UInt32.reduceToNat, UInt64.reduceToNat, UInt8.reduceOfNat, UInt32.reduceOfNat, UInt64.reduceOfNat, Fin.isValue, Int.reduceSub, Int.reduceMul, Int.reduceNeg, Int.reduceMod, Int.reduceDiv, Int.reduceTDiv, Int.reduceTMod, Int.reduceBEq, Int.reduceBNe, Nat.reduceDiv, Nat.reducePow]
          repeat' apply And.intro
          all_goals first
            | omega
            | skip
          refine again (t, nx) [] ⟨hs, by show t ≤ 255; omega⟩ (by show t < t + 1; omega) ?_
          simp only [climbI, hnx, stepS, N5.cells, PN.cells, zeroF, bne, go_sem, reduceCtorEq, ↓reduceIte, Nat.reduceAdd, Nat.reduceMul, Nat.reduceSub, Nat.reduceEqDiff, Nat.reduceLT, Nat.reduceBEq, Nat.reduceBNe, Nat.reduceLeDiff, Int.reduceLE, Int.reduceLT, Int.reduceToNat, Int.reduceEq, Int.reduceAdd, UInt8.reduceToNat, UInt32.reduceToNat, UInt64.reduceToNat, UInt8.reduceOfNat, UInt32.reduceOfNat, UInt64.reduceOfNat, Fin.isValue, Int.reduceSub, Int.reduceMul, Int.reduceNeg, Int.reduceMod, Int.reduceDiv, Int.reduceTDiv, Int.reduceTMod, Int.reduceBEq, Int.reduceBNe, Nat.reduceDiv, Nat.reducePow]
          all_goals trivial
def climbC : Con := con0 fun args => match args with
  | [.one (.str k), .agg [.u64 a, .u64 b, .u64 c, .u64 d, .u64 e]] => some (.c (climbF k ⟨a, b, c, d, e⟩).cv, [k.length = 32])
  | _ => none
theorem climbC_ok : ConOk Try.prog 43 climbC := con0_ok Try.func43 rfl rfl fun args res ob h hob => by
  split at h
  · injection h with h; injection h with h1 h2; subst h1; subst h2; exact climb_tri _ ⟨_, _, _, _, _⟩ hob.1
  · cases h
end Go.Proofs.Ytdkmkifebhggeaa
