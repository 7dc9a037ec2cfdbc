/-
  Layer 3: the document's numbers out of parts and bytes, its bytes, its power: walked, and their values.
-/
import Derived.Test.YtdkmkifebhggeaaSz
import Derived.Test.YtdkmkifebhggeaaKt
import Derived.Test.YtdkmkifebhggeaaKg
namespace Go.Proofs.Ytdkmkifebhggeaa
open Go Go.RowKit
set_option maxHeartbeats 4000000
set_option linter.unusedSimpArgs false
set_option linter.unusedVariables false
theorem by8_nat' (n : Nat) : by8 ((n : Nat) : Int) = UInt8.ofNat n := by
  unfold by8
  apply UInt8.toNat_inj.1
  simp only [UInt8.toNat_ofNat']
  omega
def smallL (n : Nat) : List Nat := [n % 65536, n / 65536, 0, 0, 0, 0, 0, 0, 0, 0, 0, 0, 0, 0, 0, 0]
theorem small_good (n : Nat) (hn : n < 4294967296) : goodR (smallL n) ∧ vW (smallL n) = n := by
  have hv : vW (smallL n) = n := by
    show n % 65536 + 65536 * (n / 65536 + 65536 * 0) = n
    omega
  refine ⟨⟨⟨?_, by show 16 ≤ 16; omega, by show 16 ≤ 100; omega⟩, by rw [hv]; omega⟩, hv⟩
  exact dlt_mk (by omega) (dlt_mk (by omega) (fun i => by
    have : (List.replicate 14 0).getD i 0 = 0 := by
      rw [List.getD_eq_getElem?_getD, List.getElem?_replicate]; split <;> rfl
    show (List.replicate 14 0).getD i 0 < 65536
    rw [this]; decide))
set_option maxRecDepth 100000 in
theorem rsmall_tri (n : Nat) (hn : n < 4294967296) : Tri Try.prog 22 [.one (.num (n : Nat))] [] (.c (.one (.sl 0 0 1 16))) [(0, ⟨.arr Nat natL (smallL n), true⟩)] := by
  have m1 : ((n : Nat) : Int).tmod 65536 = ((n % 65536 : Nat) : Int) := by rw [show (65536 : Int) = ((65536 : Nat) : Int) from rfl, ← Int.ofNat_tmod]
  have m2 : IntKind.i64.wrap (((n : Nat) : Int).tdiv 65536) = ((n / 65536 : Nat) : Int) := by
    rw [show (65536 : Int) = ((65536 : Nat) : Int) from rfl, ← Int.ofNat_tdiv, IntKind.wrap_i64]; omega
  have hz : List.replicate 16 (AV.num 0) = [.num 0, .num 0, .num 0, .num 0, .num 0, .num 0, .num 0, .num 0, .num 0, .num 0, .num 0, .num 0, .num 0, .num 0, .num 0, .num 0] := rfl
  refine tri_ofx (envR_ok ga0_ok 14 []) Try.func22 rfl rfl (rs := [.tmp 2]) rfl rfl (by simp [envR]) rfl ?_
  simp only [m1, m2, hz, retQx, envR, con0, conN0, conN1, conN2, natsOf_arr, rowOf_arr, natsOf_cells, rowOf_cells, toN, natL_st, natL_d, natL_enc, natL_up, ga0, go_sem, reduceCtorEq, ↓reduceIte, Nat.reduceAdd, Nat.reduceMul, Nat.reduceSub, Nat.reduceEqDiff, Nat.reduceLT, Nat.reduceBEq, Nat.reduceBNe, Nat.reduceLeDiff, Int.reduceLE, Int.reduceLT, Int.reduceToNat, Int.reduceEq, Int.reduceAdd, UInt8.reduceToNat, UInt32.reduceToNat, UInt64.reduceToNat, UInt8.reduceOfNat, UInt32.reduceOfNat, UInt64.reduceOfNat, Fin.isValue, Int.reduceSub, Int.reduceMul, Int.reduceNeg, Int.reduceMod, Int.reduceDiv, Int.reduceTDiv, Int.reduceTMod, Int.reduceBEq, Int.reduceBNe, Nat.reduceDiv, Nat.reducePow]
  repeat' apply And.intro
  all_goals first
    | omega
    | rfl
    | skip
  refine endX [(0, 20000)] ?_
  simp only [smallL, hz, envR, con0, conN0, conN1, conN2, natsOf_arr, rowOf_arr, natsOf_cells, rowOf_cells, toN, natL_st, natL_d, natL_enc, natL_up, ga0, go_sem, reduceCtorEq, ↓reduceIte, Nat.reduceAdd, Nat.reduceMul, Nat.reduceSub, Nat.reduceEqDiff, Nat.reduceLT, Nat.reduceBEq, Nat.reduceBNe, Nat.reduceLeDiff, Int.reduceLE, Int.reduceLT, Int.reduceToNat, Int.reduceEq, Int.reduceAdd, UInt8.reduceToNat, UInt32.reduceToNat, UInt64.reduceToNat, UInt8.reduceOfNat, UInt32.reduceOfNat, UInt64.reduceOfNat, Fin.isValue, Int.reduceSub, Int.reduceMul, Int.reduceNeg, Int.reduceMod, Int.reduceDiv, Int.reduceTDiv, Int.reduceTMod, Int.reduceBEq, Int.reduceBNe, Nat.reduceDiv, Nat.reducePow]
def rsmallF : List CV → List SObj → Option (SV × List SObj × List Prop)
  | [.one (.num z)], [] => some (.c (.one (.sl 0 0 1 16)), [.arr Nat natL (smallL z.toNat)], [0 ≤ z, z < 4294967296])
  | _, _ => none
def rsmallC : Con := conQ rsmallF
theorem rsmallC_ok : ConOk Try.prog 22 rsmallC := conQ_ok Try.func22 rfl rfl fun args es v nw ob h hob => by
  unfold rsmallF at h
  split at h
  · rename_i z heq
    obtain rfl : es = [] := List.map_eq_nil_iff.1 heq
    simp only [Option.some.injEq, Prod.mk.injEq] at h
    obtain ⟨rfl, rfl, rfl⟩ := h
    obtain ⟨o1, o2, _⟩ := hob
    have := rsmall_tri z.toNat (by omega)
    rw [Int.toNat_of_nonneg o1] at this
    exact this
  · cases h
-- PARTS
def pz : List Nat := [0, 0, 0, 0, 0, 0, 0, 0, 0, 0, 0, 0, 0, 0, 0, 0, 0]
def dig4 (u : UInt64) : List Nat := [(u % 65536).toNat, (u / 65536 % 65536).toNat, (u / 4294967296 % 65536).toNat, (u / 281474976710656).toNat]
def pT (R : List Nat) (n : Nat) : List Nat := timesL 65536 (R.take n) [0, 0, 0, 8]
def pA (R : List Nat) (n : Nat) (u : UInt64) : List Nat := addL 65536 (pT R n) (dig4 u)
def pu (x : N5) : Nat → UInt64
  | 0 => x.e
  | 1 => x.d
  | 2 => x.c
  | 3 => x.b
  | _ => x.a
def pS (x : N5) : Nat → List Nat × Nat
  | 0 => (pz, 17)
  | j + 1 => (redRow (pA (pS x j).1 (pS x j).2 (pu x j)), 16)
def partsRow (x : N5) : List Nat := (pS x (4 + 1)).1
theorem dig4_v (u : UInt64) : dv 65536 (dig4 u) = u.toNat ∧ dlt 65536 (dig4 u) := by
  have h := u.toNat_lt
  have e1 : (u % 65536).toNat = u.toNat % 65536 := UInt64.toNat_mod _ _
  have e2 : (u / 65536 % 65536).toNat = u.toNat / 65536 % 65536 := by rw [UInt64.toNat_mod, UInt64.toNat_div]; rfl
  have e3 : (u / 4294967296 % 65536).toNat = u.toNat / 4294967296 % 65536 := by rw [UInt64.toNat_mod, UInt64.toNat_div]; rfl
  have e4 : (u / 281474976710656).toNat = u.toNat / 281474976710656 := UInt64.toNat_div _ _
  unfold dig4
  rw [e1, e2, e3, e4]
  refine ⟨?_, dlt_mk (by omega) (dlt_mk (by omega) (dlt_mk (by omega) (dlt_mk (by omega) (dlt_nil (by decide)))))⟩
  simp only [dv]
  omega
theorem d8_lt : dlt 65536 [0, 0, 0, 8] := dlt_mk (by decide) (dlt_mk (by decide) (dlt_mk (by decide) (dlt_mk (by decide) (dlt_nil (by decide)))))
structure pOk (R : List Nat) (n : Nat) : Prop where
  lt : dlt 65536 R
  lo : 16 ≤ n
  le : n ≤ R.length
  hi : n ≤ 17
theorem pT_lt {R : List Nat} {n : Nat} (h : pOk R n) : dlt 65536 (pT R n) ∧ (pT R n).length = n + 4 := by
  refine ⟨timesL_lt (by decide) (dltT h.lt n) d8_lt, ?_⟩
  have := h.le
  rw [pT, timesL_len, List.length_take, Nat.min_eq_left h.le]; rfl
theorem pA_good {R : List Nat} {n : Nat} (h : pOk R n) (u : UInt64) : goodW (pA R n u) ∧ dv 65536 (pA R n u) = dv 65536 (R.take n) * 2251799813685248 + u.toNat := by
  obtain ⟨t1, t2⟩ := pT_lt h
  obtain ⟨v1, v2⟩ := dig4_v u
  have hl := addLen_bd 65536 (pT R n) (dig4 u)
  have l4 : (dig4 u).length = 4 := rfl
  rw [t2, l4, ← addL_len] at hl
  have h1 := h.lo
  have h2 := h.hi
  refine ⟨⟨addL_lt (by decide) _ _, by unfold pA; omega, by unfold pA; omega⟩, ?_⟩
  rw [pA, addL_v (by decide) t1 v2, v1, pT, timesL_v]
  rfl
theorem pS_ok (x : N5) : ∀ j, pOk (pS x j).1 (pS x j).2
  | 0 => by
    refine ⟨fun i => ?_, by show 16 ≤ 17; decide, by show 17 ≤ 17; decide, by show 17 ≤ 17; decide⟩
    show (List.replicate 17 0).getD i 0 < 65536
    have : (List.replicate 17 0).getD i 0 = 0 := by
      rw [List.getD_eq_getElem?_getD, List.getElem?_replicate]; split <;> rfl
    rw [this]; decide
  | j + 1 => by
    have h := (red_good (pA_good (pS_ok x j) (pu x j)).1).1
    exact ⟨h.w.lt, Nat.le_refl _, h.w.lo, by show 16 ≤ 17; omega⟩
theorem pS_v (x : N5) (j : Nat) : dv 65536 ((pS x (j + 1)).1.take (pS x (j + 1)).2) = (dv 65536 ((pS x j).1.take (pS x j).2) * 2251799813685248 + (pu x j).toNat) % 57896044618658097711785492504343953926634992332820282019728792003956564819949 := by
  rw [pS]
  show vW (redRow (pA (pS x j).1 (pS x j).2 (pu x j))) = _
  obtain ⟨h1, h2⟩ := pA_good (pS_ok x j) (pu x j)
  rw [(red_good h1).2, h2]
theorem hstep (P B a u : Nat) : (a % P * B + u) % P = (a * B + u) % P := by
  rw [Nat.add_mod, Nat.mul_mod, Nat.mod_mod, ← Nat.mul_mod, ← Nat.add_mod]
theorem pS_good (x : N5) (j : Nat) : goodR (pS x (j + 1)).1 := by
  rw [pS]
  exact (red_good (pA_good (pS_ok x j) (pu x j)).1).1
theorem pS_0 (x : N5) : dv 65536 ((pS x 0).1.take (pS x 0).2) = 0 := by
  rw [pS]
  simp only [pz, dv, List.take_succ_cons, List.take_zero, Nat.mul_zero, Nat.add_zero]
theorem parts_good (x : N5) : goodR (partsRow x) ∧ vW (partsRow x) = x.w % 57896044618658097711785492504343953926634992332820282019728792003956564819949 := by
  unfold partsRow
  refine ⟨pS_good x 4, ?_⟩
  have h1 := pS_v x 0
  have h2 := pS_v x 1
  have h3 := pS_v x 2
  have h4 := pS_v x 3
  have h5 := pS_v x 4
  rw [pS_0] at h1
  rw [h1, hstep] at h2
  rw [h2, hstep] at h3
  rw [h3, hstep] at h4
  rw [h4, hstep] at h5
  have e : vW (pS x (4 + 1)).1 = dv 65536 ((pS x (4 + 1)).1.take (pS x (4 + 1)).2) := by rw [pS]; rfl
  have hh : ((((0 * 2251799813685248 + (pu x 0).toNat) * 2251799813685248 + (pu x 1).toNat) * 2251799813685248 + (pu x 2).toNat) * 2251799813685248 + (pu x 3).toNat) * 2251799813685248 + (pu x 4).toNat = x.w := by
    simp only [pu, N5.w]
    generalize x.a.toNat = a
    generalize x.b.toNat = b
    generalize x.c.toNat = c
    generalize x.d.toNat = d
    generalize x.e.toNat = e'
    omega
  rw [hh] at h5
  exact e.trans h5
theorem fw_parts (x : N5) : fw (partsRow x) = fv x := by
  unfold fw fv
  rw [(parts_good x).2]
  exact fn_eq.2 (Nat.mod_mod _ _)
end Go.Proofs.Ytdkmkifebhggeaa
