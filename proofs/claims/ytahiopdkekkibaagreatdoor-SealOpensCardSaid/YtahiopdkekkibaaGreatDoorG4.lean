/-
  Put together: Pc, Cf, Pd, Cg, Aa, Ab, Na, Nb, Za, Zb, Kh, Ki, Kj, Kk, Kl, Kp, Kr.
-/
import Derived.Test.YtahiopdkekkibaaGreatDoorSz
import Derived.Test.YtahiopdkekkibaaGreatDoorG1
import Derived.Test.YtahiopdkekkibaaGreatDoorG3
import Derived.Test.YtahiopdkekkibaaGreatDoorRows
import Derived.WideKeyPair
import Derived.ChangeShapes
import Derived.Lib.LaidTab
import Derived.MakeChecks
import Derived.Stop.LaidErr
import Derived.Laws.Externs
/-
  Layer 6: bytes in parts, and the sum with bytes.
-/
namespace Go.Proofs.YtahiopdkekkibaaGreatDoor.FC
open Go Go.RowKit
set_option maxHeartbeats 4000000
set_option linter.unusedSimpArgs false
set_option linter.unusedVariables false
def limbsInv (s : List UInt8) (i : Nat) : St := ⟨[(0, .c (.one (.str s))), (2, .c (.one (.ptr 10000 0 0 0))), (3, .c (.one (.ptr 20000 0 0 0))), (6, .c (.one (.str s))), (7, .c (.one (.num s.length))), (8, .c (.one (.num i)))], [(10000, ⟨.cells 1 [.u64 0, .u64 0, .u64 0, .u64 0, .u64 0], true⟩), (20000, ⟨.arr UInt64 u64L (limbsL s i), true⟩)]⟩
set_option maxRecDepth 100000 in
theorem limbs_tri (s : List UInt8) (hs : s.length ≤ 17) : Tri Tryz.prog 142 [.one (.str s)] [] (.c (limbsN s).cv) [] := by
  refine tri_of (envOf_ok gp1_ok 29) Tryz.func142 rfl rfl (rs := [.cell 2 163]) rfl rfl (by simp [envOf]) rfl [] ?_
  simp only [envOf, gp1, pcarryC, N5.cv, go_sem]
  refine loop_inv (envOf_ok gp1_ok 29) (limbsInv s) (fun i => i ≤ s.length) (fun i => s.length - i) 0 [] (by omega) ?_ ?_
  · simp only [limbsInv, limbsL, u64L_st, u64L_enc, go_sem]
  · intro i hi
    simp only [limbsInv, envOf, gp1, pcarryC, N5.cv, go_sem]
    refine br (fun h => ?_) fun h => ?_
    · have hlt : i < s.length := by have := of_decide_eq_true h; omega
      have h1 : IntKind.i64.wrap ((i : Int) + 1) = ((i + 1 : Nat) : Int) := by rw [IntKind.wrap_i64]; omega
      have h2 : IntKind.i64.wrap (8 * (i : Int)) = ((8 * i : Nat) : Int) := by rw [IntKind.wrap_i64]; omega
      have h3 : IntKind.i64.wrap (((8 * i : Nat) : Int).tdiv 26) = ((8 * i / 26 : Nat) : Int) := by
        rw [show (26 : Int) = ((26 : Nat) : Int) from rfl, ← Int.ofNat_tdiv, IntKind.wrap_i64]; omega
      have h4 : ((8 * i : Nat) : Int).tmod 26 = ((8 * i % 26 : Nat) : Int) := by
        rw [show (26 : Int) = ((26 : Nat) : Int) from rfl, ← Int.ofNat_tmod]
      have h5 := limbsL_len s i
      simp only [h, gp1, pcarryC, N5.cv, h1, h2, h3, h4, u64L_st, u64L_enc, u64L_d, u64L_up, h5, go_sem]
      refine ⟨⟨by omega, by omega⟩, by omega, ⟨by omega, by omega⟩, by omega, ⟨by omega, by omega⟩, by omega, rfl, again (i + 1) [] (by omega) (by omega) ?_⟩
      simp only [limbsInv, limbsL, go_sem]
    · have hi' : i = s.length := by have := of_decide_eq_false h; omega
      subst hi'
      obtain ⟨a, b, c, d, e, hl⟩ := split5 (limbsL s s.length) (limbsL_len s _)
      have e : limbsN s = pcarry ⟨a, b, c, d, e⟩ := by unfold limbsN; rw [hl]; rfl
      simp only [h, gp1, pcarryC, N5.cv, hl, e, u64L_st, u64L_enc, go_sem]
def limbsC : Con := con0 fun args => match args with
  | [.one (.str s)] => some (.c (limbsN s).cv, [s.length ≤ 17])
  | _ => none
theorem limbsC_ok : ConOk Tryz.prog 142 limbsC := con0_ok Tryz.func142 rfl rfl fun args res ob h hob => by
  split at h
  · injection h with h; injection h with h1 h2; subst h1; subst h2; exact limbs_tri _ hob.1
  · cases h
def byteOfC : Con := con0 fun args => match args with
  | [.agg [.u64 a, .u64 b, .u64 c, .u64 d, .u64 e], .one (.num i)] => some (.c (.one (.u8 (byteOfL ⟨a, b, c, d, e⟩ i.toNat))), [0 ≤ i, i.toNat < 16])
  | _ => none
theorem byteOfC_ok : ConOk Tryz.prog 170 byteOfC := con0_ok Tryz.func170 rfl rfl fun args res ob h hob => by
  split at h
  · injection h with h; injection h with h1 h2; subst h1; subst h2; (rename_i a b c d e i; have := byteOf_tri ⟨a, b, c, d, e⟩ i.toNat hob.2.1; rw [Int.toNat_of_nonneg hob.1] at this; exact this)
  · cases h
def gp2 : Nat → Option Con := fun f => match f with
  | 169 => some pcarryC
  | 142 => some limbsC
  | 170 => some byteOfC
  | _ => none
theorem gp2_ok : GaOk Tryz.prog gp2 := fun f con h => by
  unfold gp2 at h
  split at h
  · injection h with h; subst h; exact pcarryC_ok
  · injection h with h; subst h; exact limbsC_ok
  · injection h with h; subst h; exact byteOfC_ok
  · cases h
theorem pcar_le' (x : N5) (s : List UInt8) : ∀ i, pcar x s i ≤ 1
  | 0 => Nat.zero_le _
  | i + 1 => by
    have h1 := pcar_le' x s i
    have h2 := (byteOfL x i).toNat_lt
    have h3 := (s.getD i 0).toNat_lt
    rw [pcar]; omega
theorem addB_len' (x : N5) (s : List UInt8) (n : Nat) : (addB x s n).length = n := by simp [addB]
theorem addB_succ' (x : N5) (s : List UInt8) (n : Nat) : addB x s (n + 1) = addB x s n ++ [addAt x s n] := by simp [addB, List.range_succ]
def addInv (x : N5) (s : List UInt8) (i : Nat) : St := ⟨[(0, .c x.cv), (1, .c (.one (.str s))), (2, .c (.one (.ptr 10000 0 0 0))), (4, .c (.one (.str []))), (5, .c (.one (.sl 20000 0 1 i))), (6, .c (.one (.num (pcar x s i)))), (9, .c (.one (.num i)))], [(10000, ⟨.cells 1 [.u64 x.a, .u64 x.b, .u64 x.c, .u64 x.d, .u64 x.e], true⟩), (20000, ⟨.arr UInt8 u8L (addB x s i), true⟩)]⟩
set_option maxRecDepth 100000 in
theorem add128_tri (x : N5) (s : List UInt8) (hs : s.length = 16) : Tri Tryz.prog 143 [x.cv, .one (.str s)] [] (.c (.one (.str (addB x s 16)))) [] := by
  refine tri_of (envOf_ok gp2_ok 33) Tryz.func143 rfl rfl (rs := [.tmp 4]) rfl rfl (by simp [envOf]) rfl [] ?_
  simp only [envOf, gp2, pcarryC, limbsC, byteOfC, N5.cv, N5.eta, go_sem]
  refine loop_inv (envOf_ok gp2_ok 33) (addInv x s) (fun i => i ≤ 16) (fun i => 16 - i) 0 [] (by omega) ?_ ?_
  · simp only [addInv, N5.cv, addB, pcar, Int.natCast_zero, go_sem]
  · intro i hi
    simp only [addInv, envOf, gp2, pcarryC, limbsC, byteOfC, N5.cv, N5.eta, go_sem]
    refine br (fun h => ?_) fun h => ?_
    · have hlt : i < 16 := by have := of_decide_eq_true h; omega
      have hp := pcar_le' x s i
      have hb := (byteOfL x i).toNat_lt
      have hd := (s.getD i 0).toNat_lt
      have h1 : IntKind.i64.wrap ((i : Int) + 1) = ((i + 1 : Nat) : Int) := by rw [IntKind.wrap_i64]; omega
      have h2 : IntKind.i64.wrap (((byteOfL x i).toNat : Int) + ((s.getD i 0).toNat : Int)) = (((byteOfL x i).toNat + (s.getD i 0).toNat : Nat) : Int) := by rw [IntKind.wrap_i64]; omega
      have h3 : IntKind.i64.wrap ((pcar x s i : Int) + (((byteOfL x i).toNat + (s.getD i 0).toNat : Nat) : Int)) = ((pcar x s i + (byteOfL x i).toNat + (s.getD i 0).toNat : Nat) : Int) := by rw [IntKind.wrap_i64]; omega
      have h4 : ((pcar x s i + (byteOfL x i).toNat + (s.getD i 0).toNat : Nat) : Int).fdiv (2 ^ min 8 64) = ((pcar x s (i + 1) : Nat) : Int) := by
        have e : (2 : Int) ^ min 8 64 = 256 := rfl
        rw [e, Int.fdiv_eq_ediv_of_nonneg _ (by decide), pcar]; omega
      have h5 : by8 ((pcar x s i + (byteOfL x i).toNat + (s.getD i 0).toNat : Nat) : Int) = addAt x s i := by
        unfold by8 addAt
        apply UInt8.toNat_inj.1
        simp only [UInt8.toNat_ofNat']
        omega
      simp only [h, envOf, gp2, pcarryC, limbsC, byteOfC, N5.cv, N5.eta, h1, h2, h3, h4, h5, go_sem]
      refine ⟨⟨by omega, by omega⟩, ⟨by omega, by omega⟩, rfl, ⟨addB_len' _ _ _, by omega, by omega⟩, again (i + 1) [(20000, 80032)] (by omega) (by omega) ?_⟩
      simp only [addInv, N5.cv, addB_succ', go_sem]
    · have hi' : i = 16 := by have := of_decide_eq_false h; omega
      subst hi'
      simp only [h, envOf, gp2, pcarryC, limbsC, byteOfC, N5.cv, N5.eta, go_sem]
      exact ⟨by rw [addB_len']; exact Nat.le_refl _, by rw [List.take_of_length_le (by rw [addB_len']; exact Nat.le_refl _)]⟩
def clampL (s : List UInt8) : List UInt8 := [(3, 15), (7, 15), (11, 15), (15, 15), (4, 252), (8, 252), (12, 252)].foldl (fun l (p : Nat × UInt8) => l.set p.1 (l.getD p.1 0 &&& p.2)) s
theorem clampL_len (s : List UInt8) : (clampL s).length = s.length := by simp [clampL]
theorem split16b (s : List UInt8) (h : s.length = 16) : ∃ x0 x1 x2 x3 x4 x5 x6 x7 x8 x9 xa xb xc xd xe xf, s = [x0, x1, x2, x3, x4, x5, x6, x7, x8, x9, xa, xb, xc, xd, xe, xf] := by
  match s, h with
  | [x0, x1, x2, x3, x4, x5, x6, x7, x8, x9, xa, xb, xc, xd, xe, xf], _ => exact ⟨_, _, _, _, _, _, _, _, _, _, _, _, _, _, _, _, rfl⟩
set_option maxRecDepth 100000 in
theorem clamped_tri (s : List UInt8) (hs : s.length = 16) : Tri Tryz.prog 139 [.one (.str s)] [] (.c (limbsN (clampL s)).cv) [] := by
  obtain ⟨x0, x1, x2, x3, x4, x5, x6, x7, x8, x9, xa, xb, xc, xd, xe, xf, rfl⟩ := split16b s hs
  refine tri_of (envOf_ok gp2_ok 35) Tryz.func139 rfl rfl (rs := [.cell 2 163]) rfl rfl (by simp [envOf]) rfl [] ?_
  simp only [envOf, gp2, pcarryC, limbsC, byteOfC, N5.cv, go_sem]
  refine loop_rounds (envOf_ok gp2_ok 35) 5 ?_
  simp only [envOf, gp2, pcarryC, limbsC, byteOfC, N5.cv, go_sem]
  refine loop_rounds (envOf_ok gp2_ok 35) 4 ?_
  simp only [envOf, gp2, pcarryC, limbsC, byteOfC, N5.cv, clampL, go_sem]
def clampedC : Con := con0 fun args => match args with
  | [.one (.str s)] => some (.c (limbsN (clampL s)).cv, [s.length = 16])
  | _ => none
theorem clampedC_ok : ConOk Tryz.prog 139 clampedC := con0_ok Tryz.func139 rfl rfl fun args res ob h hob => by
  split at h
  · injection h with h; injection h with h1 h2; subst h1; subst h2; exact clamped_tri _ hob.1
  · cases h
def add128C : Con := con0 fun args => match args with
  | [.agg [.u64 a, .u64 b, .u64 c, .u64 d, .u64 e], .one (.str s)] => some (.c (.one (.str (addB ⟨a, b, c, d, e⟩ s 16))), [s.length = 16])
  | _ => none
theorem add128C_ok : ConOk Tryz.prog 143 add128C := con0_ok Tryz.func143 rfl rfl fun args res ob h hob => by
  split at h
  · injection h with h; injection h with h1 h2; subst h1; subst h2; exact add128_tri ⟨_, _, _, _, _⟩ _ hob.1
  · cases h
def gp3 : Nat → Option Con := fun f => match f with
  | 139 => some clampedC
  | 142 => some limbsC
  | 141 => some pplusC
  | 140 => some ptimesC
  | 144 => some psmallC
  | 143 => some add128C
  | _ => none
theorem gp3_ok : GaOk Tryz.prog gp3 := fun f con h => by
  unfold gp3 at h
  split at h
  · injection h with h; subst h; exact clampedC_ok
  · injection h with h; subst h; exact limbsC_ok
  · injection h with h; subst h; exact pplusC_ok
  · injection h with h; subst h; exact ptimesC_ok
  · injection h with h; subst h; exact psmallC_ok
  · injection h with h; subst h; exact add128C_ok
  · cases h
def tagN (r : N5) (s : List UInt8) : Nat → N5
  | 0 => ⟨0, 0, 0, 0, 0⟩
  | q + 1 => ptimes (pplus (tagN r s q) (limbsN ((s.drop (16 * q)).take 16 ++ [1]))) r
def keyR (k : List UInt8) : N5 := limbsN (clampL (k.take 16))
def tagL (k s : List UInt8) : List UInt8 := addB (psmall (tagN (keyR k) s ((s.length + 15) / 16))) (k.drop 16) 16
def keyB (k : List UInt8) : Bool := (k.length : Int) == 32
def tagInv (k s : List UInt8) (q : Nat) : St := ⟨[(0, .c (.one (.str k))), (1, .c (.one (.str s))), (6, .c (.one (.ptr 40024 0 0 0))), (7, .c (.one (.ptr 50000 0 0 0))), (8, .c (.one (.num (16 * q : Nat))))], [(40024, ⟨.cells 1 [.u64 (keyR k).a, .u64 (keyR k).b, .u64 (keyR k).c, .u64 (keyR k).d, .u64 (keyR k).e], true⟩), (50000, ⟨.cells 1 [.u64 (tagN (keyR k) s q).a, .u64 (tagN (keyR k) s q).b, .u64 (tagN (keyR k) s q).c, .u64 (tagN (keyR k) s q).d, .u64 (tagN (keyR k) s q).e], true⟩)]⟩
set_option maxRecDepth 100000 in
theorem tag_tri (k s : List UInt8) (hs : s.length ≤ 1048576) : Tri Tryz.prog 107 [.one (.str k), .one (.str s)] [] (.tup [.one (.str (if keyB k = true then tagL k s else [])), .one (.bo (keyB k))]) [] := by
  refine tri_of (envOf_ok gp3_ok 42) Tryz.func107 rfl rfl (rs := [.tmp 4, .tmp 5]) rfl rfl (by simp [envOf]) rfl [] ?_
  cases hk : ((k.length : Int) == 32) with
  | false =>
    simp only [envOf, gp3, clampedC, limbsC, pplusC, ptimesC, psmallC, add128C, N5.cv, keyB, hk, go_sem]
  | true =>
    have hk' : k.length = 32 := by have := eq_of_beq hk; omega
    have ht : (k.take 16).length = 16 := by rw [List.length_take]; omega
    simp only [envOf, gp3, clampedC, limbsC, pplusC, ptimesC, psmallC, add128C, N5.cv, N5.eta, keyB, hk, hk', ht, go_sem]
    refine loop_inv (envOf_ok gp3_ok 42) (tagInv k s) (fun q => 16 * q ≤ s.length + 15) (fun q => s.length + 16 - 16 * q) 0 [] (by omega) ?_ ?_
    · simp only [tagInv, keyR, tagN, go_sem]
    · intro q hq
      simp only [tagInv, envOf, gp3, clampedC, limbsC, pplusC, ptimesC, psmallC, add128C, N5.cv, N5.eta, go_sem]
      refine br (fun h => ?_) fun h => ?_
      · have hlt : 16 * q < s.length := by have := of_decide_eq_true h; omega
        obtain ⟨m, hm⟩ : ∃ m, m = min 16 (s.length - 16 * q) := ⟨_, rfl⟩
        have h1 : IntKind.i64.wrap (((16 * q : Nat) : Int) + 16) = ((16 * q + 16 : Nat) : Int) := by rw [IntKind.wrap_i64]; omega
        have h2 : min ((16 * q + 16 : Nat) : Int) (s.length : Int) = ((16 * q + m : Nat) : Int) := by omega
        have h3 : (s.drop (16 * q)).take m = (s.drop (16 * q)).take 16 := by
          by_cases h16 : m = 16
          · rw [h16]
          · rw [List.take_of_length_le (by rw [List.length_drop]; omega), List.take_of_length_le (by rw [List.length_drop]; omega)]
        have h4 : ((s.drop (16 * q)).take 16).length ≤ 16 := by rw [List.length_take]; omega
        simp only [h, envOf, gp3, clampedC, limbsC, pplusC, ptimesC, psmallC, add128C, N5.cv, N5.eta, h1, h2, h3, Nat.add_sub_cancel_left, go_sem]
        have hw : ((16 * q + 16 : Nat) : Int) = ((16 * (q + 1) : Nat) : Int) := by omega
        simp only [hw]
        refine ⟨⟨by omega, by omega, by omega⟩, by omega, by rw [List.length_append]; simp only [List.length_cons, List.length_nil]; omega, rfl, again (q + 1) [] (by omega) (by omega) ?_⟩
        simp only [tagInv, tagN, go_sem]
      · have hq' : q = (s.length + 15) / 16 := by have := of_decide_eq_false h; omega
        have hd : (k.drop 16).length = 16 := by rw [List.length_drop]; omega
        simp only [h, envOf, gp3, clampedC, limbsC, pplusC, ptimesC, psmallC, add128C, N5.cv, N5.eta, hd, hk', ← hq', tagL, go_sem]
        rfl
def tagC : Con := con0 fun args => match args with
  | [.one (.str k), .one (.str s)] => some (.tup [.one (.str (if keyB k = true then tagL k s else [])), .one (.bo (keyB k))], [s.length ≤ 1048576])
  | _ => none
theorem tagC_ok : ConOk Tryz.prog 107 tagC := con0_ok Tryz.func107 rfl rfl fun args res ob h hob => by
  split at h
  · injection h with h; injection h with h1 h2; subst h1; subst h2; exact tag_tri _ _ hob.1
  · cases h
end Go.Proofs.YtahiopdkekkibaaGreatDoor.FC

/-
  Layer 5: the laws of a string turned.
-/
namespace Go.Proofs.YtahiopdkekkibaaGreatDoor.FC
open Go Go.RowKit
set_option linter.unusedSimpArgs false
set_option linter.unusedVariables false
def blockC : Con := con0 fun args => match args with
  | [.one (.str k), .one (.str n), .one (.u32 c)] => some (.tup [.one (.str (if rightB k n = true then blockL k n c else [])), .one (.bo (rightB k n))], [])
  | _ => none
theorem blockC_ok : ConOk Tryz.prog 106 blockC := con0_ok Tryz.func106 rfl rfl fun args res ob h hob => by
  split at h
  · injection h with h; injection h with h1 h2; subst h1; subst h2; exact block_tri _ _ _
  · cases h
def turnC : Con := con0 fun args => match args with
  | [.one (.str k), .one (.str n), .one (.u32 c), .one (.str s)] => some (.tup [.one (.str (if rightB k n = true then turnL k n c s else [])), .one (.bo (rightB k n))], [s.length ≤ 1048576])
  | _ => none
theorem turnC_ok : ConOk Tryz.prog 64 turnC := con0_ok Tryz.func64 rfl rfl fun args res ob h hob => by
  split at h
  · injection h with h; injection h with h1 h2; subst h1; subst h2; exact turn_tri _ _ _ _ hob.1
  · cases h
theorem turnL_len (k n : List UInt8) (c : UInt32) (s : List UInt8) : (turnL k n c s).length = s.length := fro_len _ _ _
theorem turnL_getElem? (k n : List UInt8) (c : UInt32) (s : List UInt8) (i : Nat) : (turnL k n c s)[i]? = s[i]?.map fun b => b ^^^ ksAt k n c i := by
  simp only [turnL, fro, List.getElem?_mapIdx]
  by_cases h : i < s.length
  · rw [List.getElem?_eq_getElem h]; simp [h]
  · rw [List.getElem?_eq_none (by omega)]; rfl
theorem turn_turn (k n : List UInt8) (c : UInt32) (s : List UInt8) : turnL k n c (turnL k n c s) = s := by
  apply List.ext_getElem?; intro i
  rw [turnL_getElem?, turnL_getElem?]
  cases s[i]? with
  | none => rfl
  | some b => simp [UInt8.xor_assoc]
end Go.Proofs.YtahiopdkekkibaaGreatDoor.FC

/-
  Layer 6: laws of the tag that need no values.
-/
namespace Go.Proofs.YtahiopdkekkibaaGreatDoor.FC
open Go Go.RowKit
set_option maxHeartbeats 4000000
set_option linter.unusedSimpArgs false
set_option linter.unusedVariables false
def zero5 : N5 := ⟨0, 0, 0, 0, 0⟩
theorem tagL_len (k s : List UInt8) : (tagL k s).length = 16 := addB_len' _ _ _
end Go.Proofs.YtahiopdkekkibaaGreatDoor.FC

/-
  Layer 5: noughts, turned, are the stream.
-/
namespace Go.Proofs.YtahiopdkekkibaaGreatDoor.FC
open Go Go.RowKit
set_option linter.unusedSimpArgs false
set_option linter.unusedVariables false
theorem toBytes_rep (n : Nat) : toBytes (List.replicate n (.u8 0)) = some (List.replicate n 0) := by
  induction n with
  | zero => rfl
  | succ n ih => rw [List.replicate_succ, toBytes, ih]; rfl
theorem take_rep {α : Type _} (n : Nat) (a : α) : (List.replicate n a).take n = List.replicate n a := by
  rw [List.take_of_length_le (by rw [List.length_replicate]; exact Nat.le_refl _)]
end Go.Proofs.YtahiopdkekkibaaGreatDoor.FC

/-
  Layer 7: what goes with the text.
-/
namespace Go.Proofs.YtahiopdkekkibaaGreatDoor.FC
open Go Go.RowKit
set_option maxHeartbeats 4000000
set_option linter.unusedSimpArgs false
set_option linter.unusedVariables false
def fillL (s : List UInt8) : List UInt8 := s ++ List.replicate ((16 - s.length % 16) % 16) 0
set_option maxRecDepth 100000 in
theorem fill_tri (s : List UInt8) (hs : s.length ≤ 1048576) : Tri Tryz.prog 108 [.one (.str s)] [] (.c (.one (.str (fillL s)))) [] := by
  refine tri_of (envOf_ok ga0_ok 12) Tryz.func108 rfl rfl (rs := [.tmp 2]) rfl rfl (by simp [envOf]) rfl [] ?_
  have h1 : ((s.length : Nat) : Int).tmod 16 = ((s.length % 16 : Nat) : Int) := by rw [show (16 : Int) = ((16 : Nat) : Int) from rfl, ← Int.ofNat_tmod]
  have h2 : IntKind.i64.wrap (16 - ((s.length % 16 : Nat) : Int)) = ((16 - s.length % 16 : Nat) : Int) := by rw [IntKind.wrap_i64]; omega
  have h3 : ((16 - s.length % 16 : Nat) : Int).tmod 16 = (((16 - s.length % 16) % 16 : Nat) : Int) := by rw [show (16 : Int) = ((16 : Nat) : Int) from rfl, ← Int.ofNat_tmod]
  simp only [envOf, ga0, h1, h2, h3, toBytes_rep, take_rep, List.length_replicate, fillL, go_sem]
  exact ⟨⟨by omega, by omega, by omega⟩, by omega⟩
def lenB (n : Nat) : List UInt8 := [(shr64 (by64 (n : Int)) 0).toUInt8, (shr64 (by64 (n : Int)) 8).toUInt8, (shr64 (by64 (n : Int)) 16).toUInt8, (shr64 (by64 (n : Int)) 24).toUInt8, (shr64 (by64 (n : Int)) 32).toUInt8, (shr64 (by64 (n : Int)) 40).toUInt8, (shr64 (by64 (n : Int)) 48).toUInt8, (shr64 (by64 (n : Int)) 56).toUInt8]
set_option maxRecDepth 100000 in
theorem length_tri (s : List UInt8) : Tri Tryz.prog 109 [.one (.str s)] [] (.c (.one (.str (lenB s.length)))) [] := by
  refine tri_of (envOf_ok ga0_ok 22) Tryz.func109 rfl rfl (rs := [.tmp 2]) rfl rfl (by simp [envOf]) rfl [] ?_
  simp only [envOf, ga0, go_sem]
  refine loop_rounds (envOf_ok ga0_ok 22) 9 ?_
  simp only [envOf, ga0, lenB, go_sem]
def fillC : Con := con0 fun args => match args with
  | [.one (.str s)] => some (.c (.one (.str (fillL s))), [s.length ≤ 1048576])
  | _ => none
theorem fillC_ok : ConOk Tryz.prog 108 fillC := con0_ok Tryz.func108 rfl rfl fun args res ob h hob => by
  split at h
  · injection h with h; injection h with h1 h2; subst h1; subst h2; exact fill_tri _ hob.1
  · cases h
def lengthC : Con := con0 fun args => match args with
  | [.one (.str s)] => some (.c (.one (.str (lenB s.length))), [])
  | _ => none
theorem lengthC_ok : ConOk Tryz.prog 109 lengthC := con0_ok Tryz.func109 rfl rfl fun args res ob h hob => by
  split at h
  · injection h with h; injection h with h1 h2; subst h1; subst h2; exact length_tri _
  · cases h
def difA (a b : List UInt8) : Nat → UInt8
  | 0 => 0
  | i + 1 => difA a b i ||| (a.getD i 0 ^^^ b.getD i 0)
theorem difA_zero (a b : List UInt8) : ∀ n, difA a b n = 0 ↔ ∀ i, i < n → a.getD i 0 = b.getD i 0
  | 0 => by simp [difA]
  | n + 1 => by
    rw [difA, UInt8.or_eq_zero_iff, difA_zero a b n, UInt8.xor_eq_zero_iff]
    constructor
    · rintro ⟨h1, h2⟩ i hi
      by_cases e : i = n
      · rw [e]; exact h2
      · exact h1 i (by omega)
    · intro h
      exact ⟨fun i hi => h i (by omega), h n (by omega)⟩
theorem difA_eq (a b : List UInt8) (h : a.length = b.length) : (difA a b a.length == 0) = (a == b) := by
  rw [Bool.eq_iff_iff, beq_iff_eq, beq_iff_eq, difA_zero]
  constructor
  · intro hi
    apply List.ext_getElem h
    intro i h1 h2
    have := hi i h1
    rw [List.getD_eq_getElem?_getD, List.getD_eq_getElem?_getD, List.getElem?_eq_getElem h1, List.getElem?_eq_getElem h2] at this
    exact this
  · intro e i _
    rw [e]
def sameInv (a b : List UInt8) (i : Nat) : St := ⟨[(0, .c (.one (.str a))), (1, .c (.one (.str b))), (4, .c (.one (.bo false))), (5, .c (.one (.u8 (difA a b i)))), (12, .c (.one (.str a))), (13, .c (.one (.num a.length))), (14, .c (.one (.num i)))], []⟩
set_option maxRecDepth 100000 in
theorem same_tri (a b : List UInt8) (hl : a.length ≤ 1048576) : Tri Tryz.prog 78 [.one (.str a), .one (.str b)] [] (.c (.one (.bo (a == b)))) [] := by
  refine tri_of (envOf_ok ga0_ok 29) Tryz.func78 rfl rfl (rs := [.tmp 4]) rfl rfl (by simp [envOf]) rfl [] ?_
  cases h : ((a.length : Int) == (b.length : Int)) with
  | false =>
    have e : (a == b) = false := by
      rw [beq_eq_false_iff_ne]
      intro e
      subst e
      simp at h
    simp only [envOf, ga0, h, e, go_sem]
  | true =>
    have hab : a.length = b.length := by have := eq_of_beq h; omega
    have e := difA_eq a b hab
    simp only [envOf, ga0, h, go_sem]
    refine loop_inv (envOf_ok ga0_ok 29) (sameInv a b) (fun i => i ≤ a.length) (fun i => a.length - i) 0 [] (by omega) ?_ ?_
    · simp only [sameInv, difA, go_sem]
    · intro i hi
      simp only [sameInv, envOf, ga0, go_sem]
      refine br (fun h2 => ?_) fun h2 => ?_
      · have hlt : i < a.length := by have := of_decide_eq_true h2; omega
        have hw : IntKind.i64.wrap ((i : Int) + 1) = ((i + 1 : Nat) : Int) := by rw [IntKind.wrap_i64]; omega
        simp only [h2, ga0, hw, go_sem]
        refine ⟨⟨by omega, by omega⟩, ⟨by omega, by omega⟩, rfl, again (i + 1) [] (by omega) (by omega) ?_⟩
        simp only [sameInv, difA, go_sem]
      · have hi' : i = a.length := by have := of_decide_eq_false h2; omega
        subst hi'
        simp only [h2, ga0, e, go_sem]
def sameC : Con := con0 fun args => match args with
  | [.one (.str a), .one (.str b)] => some (.c (.one (.bo (a == b))), [a.length ≤ 1048576])
  | _ => none
theorem sameC_ok : ConOk Tryz.prog 78 sameC := con0_ok Tryz.func78 rfl rfl fun args res ob h hob => by
  split at h
  · injection h with h; injection h with h1 h2; subst h1; subst h2; exact same_tri _ _ hob.1
  · cases h
end Go.Proofs.YtahiopdkekkibaaGreatDoor.FC

/-
  Layer 7: what is sealed, and opened; the laws that ask no document's answer.
-/
namespace Go.Proofs.YtahiopdkekkibaaGreatDoor.FC
open Go Go.RowKit
set_option maxHeartbeats 4000000
set_option linter.unusedSimpArgs false
set_option linter.unusedVariables false
theorem fillL_len (s : List UInt8) : (fillL s).length = s.length + (16 - s.length % 16) % 16 := by simp [fillL]
theorem fillL_le (s : List UInt8) : (fillL s).length ≤ s.length + 15 := by rw [fillL_len]; omega
theorem lenB_len (n : Nat) : (lenB n).length = 8 := rfl
theorem blkLen (k n : List UInt8) (c : UInt32) : (blockL k n c).length = 64 := stirL_len _ rfl
def tagA (k n w t : List UInt8) : List UInt8 := tagL ((blockL k n 0).take 32) (fillL w ++ fillL t ++ lenB w.length ++ lenB t.length)
theorem tagA_len (k n w t : List UInt8) : (tagA k n w t).length = 16 := tagL_len _ _
theorem keyB_blk (k n : List UInt8) (c : UInt32) : keyB ((blockL k n c).take 32) = true := by
  have h : ((blockL k n c).take 32).length = 32 := by rw [List.length_take, blkLen]; rfl
  simp [keyB, h]
def gd1 : Nat → Option Con := fun f => match f with
  | 106 => some blockC
  | 107 => some tagC
  | 108 => some fillC
  | 109 => some lengthC
  | _ => none
theorem gd1_ok : GaOk Tryz.prog gd1 := fun f con h => by
  unfold gd1 at h
  split at h
  · injection h with h; subst h; exact blockC_ok
  · injection h with h; subst h; exact tagC_ok
  · injection h with h; subst h; exact fillC_ok
  · injection h with h; subst h; exact lengthC_ok
  · cases h
set_option maxRecDepth 100000 in
theorem tagA_tri (k n w t : List UInt8) (hr : rightB k n = true) (hw : w.length ≤ 65536) (ht : t.length ≤ 65536) : Tri Tryz.prog 65 [.one (.str k), .one (.str n), .one (.str w), .one (.str t)] [] (.c (.one (.str (tagA k n w t)))) [] := by
  refine tri_of (envOf_ok gd1_ok 37) Tryz.func65 rfl rfl (rs := [.tmp 8]) rfl rfl (by simp [envOf]) rfl [] ?_
  have h1 := keyB_blk k n 0
  have h2 := blkLen k n 0
  have f1 := fillL_le w
  have f2 := fillL_le t
  simp only [envOf, gd1, blockC, tagC, fillC, lengthC, hr, h1, h2, tagA, go_sem]
  simp only [List.length_append, lenB_len]
  exact ⟨by omega, by omega, by omega, by omega, by omega, by omega, rfl⟩
def tagAC : Con := con0 fun args => match args with
  | [.one (.str k), .one (.str n), .one (.str w), .one (.str t)] => some (.c (.one (.str (tagA k n w t))), [rightB k n = true, w.length ≤ 65536, t.length ≤ 65536])
  | _ => none
theorem tagAC_ok : ConOk Tryz.prog 65 tagAC := con0_ok Tryz.func65 rfl rfl fun args res ob h hob => by
  split at h
  · injection h with h; injection h with h1 h2; subst h1; subst h2; exact tagA_tri _ _ _ _ hob.1 hob.2.1 hob.2.2.1
  · cases h
def gd2 : Nat → Option Con := fun f => match f with
  | 64 => some turnC
  | 65 => some tagAC
  | 78 => some sameC
  | _ => none
theorem gd2_ok : GaOk Tryz.prog gd2 := fun f con h => by
  unfold gd2 at h
  split at h
  · injection h with h; subst h; exact turnC_ok
  · injection h with h; subst h; exact tagAC_ok
  · injection h with h; subst h; exact sameC_ok
  · cases h
def sealL (k n w s : List UInt8) : List UInt8 := turnL k n 1 s ++ tagA k n w (turnL k n 1 s)
theorem sealL_len (k n w s : List UInt8) : (sealL k n w s).length = s.length + 16 := by rw [sealL, List.length_append, tagA_len, turnL_len]
set_option maxRecDepth 100000 in
theorem seal_tri (k n w s : List UInt8) (hw : w.length ≤ 65536) (hs : s.length ≤ 65536) : Tri Tryz.prog 33 [.one (.str k), .one (.str n), .one (.str w), .one (.str s)] [] (.tup [.one (.str (if rightB k n = true then sealL k n w s else [])), .one (.num (if rightB k n = true then 0 else 1))]) [] := by
  refine tri_of (envOf_ok gd2_ok 28) Tryz.func33 rfl rfl (rs := [.tmp 8, .tmp 9]) rfl rfl (by simp [envOf]) rfl [] ?_
  cases hr : rightB k n with
  | false =>
    simp only [envOf, gd2, turnC, tagAC, sameC, hr, go_sem]
    omega
  | true =>
    simp only [envOf, gd2, turnC, tagAC, sameC, hr, sealL, turnL_len, tagA_len, go_sem]
    exact ⟨by omega, ⟨hw, hs⟩, by omega⟩
def sealC : Con := con0 fun args => match args with
  | [.one (.str k), .one (.str n), .one (.str w), .one (.str s)] => some (.tup [.one (.str (if rightB k n = true then sealL k n w s else [])), .one (.num (if rightB k n = true then 0 else 1))], [w.length ≤ 65536, s.length ≤ 65536])
  | _ => none
theorem sealC_ok : ConOk Tryz.prog 33 sealC := con0_ok Tryz.func33 rfl rfl fun args res ob h hob => by
  split at h
  · injection h with h; injection h with h1 h2; subst h1; subst h2; exact seal_tri _ _ _ _ hob.1 hob.2.1
  · cases h
def openB (k n w box : List UInt8) : Bool := box.drop (box.length - 16) == tagA k n w (box.take (box.length - 16))
def openS (k n w box : List UInt8) : List UInt8 := if rightB k n = true then if box.length < 16 then [] else if openB k n w box = true then turnL k n 1 (box.take (box.length - 16)) else [] else []
def openE (k n w box : List UInt8) : Int := if rightB k n = true then if box.length < 16 then 7 else if openB k n w box = true then 0 else 7 else 1
set_option maxRecDepth 100000 in
theorem open_tri (k n w box : List UInt8) (hw : w.length ≤ 65536) (hs : box.length ≤ 65536) : Tri Tryz.prog 39 [.one (.str k), .one (.str n), .one (.str w), .one (.str box)] [] (.tup [.one (.str (openS k n w box)), .one (.num (openE k n w box))]) [] := by
  refine tri_of (envOf_ok gd2_ok 51) Tryz.func39 rfl rfl (rs := [.tmp 8, .tmp 9]) rfl rfl (by simp [envOf]) rfl [] ?_
  cases hk : ((k.length : Int) == 32) with
  | false =>
    have hr : rightB k n = false := by simp only [rightB, hk, Bool.false_and]
    simp only [envOf, gd2, turnC, tagAC, sameC, hk, hr, openS, openE, go_sem]
  | true =>
    cases hn : ((n.length : Int) == 12) with
    | false =>
      have hr : rightB k n = false := by simp only [rightB, hk, hn, Bool.and_false]
      simp only [envOf, gd2, turnC, tagAC, sameC, hk, hn, hr, openS, openE, go_sem]
    | true =>
      have hr : rightB k n = true := by simp only [rightB, hk, hn]; rfl
      cases hb : decide ((box.length : Int) < 16) with
      | true =>
        have hb' : box.length < 16 := by have := of_decide_eq_true hb; omega
        simp only [envOf, gd2, turnC, tagAC, sameC, hk, hn, hr, hb, hb', openS, openE, go_sem]
      | false =>
        have hb' : ¬ box.length < 16 := by have := of_decide_eq_false hb; omega
        have hw1 : IntKind.i64.wrap ((box.length : Int) - 16) = ((box.length - 16 : Nat) : Int) := by rw [IntKind.wrap_i64]; omega
        cases ho : openB k n w box with
        | false =>
          have ho' := ho
          unfold openB at ho'
          simp only [envOf, gd2, turnC, tagAC, sameC, hk, hn, hr, hb, hb', hw1, ho, ho', openS, openE, go_sem]
          exact ⟨⟨by omega, by omega⟩, ⟨by omega, by omega⟩, rfl, ⟨hw, by rw [List.length_take]; omega⟩, by rw [List.length_drop]; omega⟩
        | true =>
          have ho' := ho
          unfold openB at ho'
          simp only [envOf, gd2, turnC, tagAC, sameC, hk, hn, hr, hb, hb', hw1, ho, ho', openS, openE, go_sem]
          exact ⟨⟨by omega, by omega⟩, ⟨by omega, by omega⟩, rfl, ⟨hw, by rw [List.length_take]; omega⟩, by rw [List.length_drop]; omega, by rw [List.length_take]; omega⟩
def openC : Con := con0 fun args => match args with
  | [.one (.str k), .one (.str n), .one (.str w), .one (.str box)] => some (.tup [.one (.str (openS k n w box)), .one (.num (openE k n w box))], [w.length ≤ 65536, box.length ≤ 65536])
  | _ => none
theorem openC_ok : ConOk Tryz.prog 39 openC := con0_ok Tryz.func39 rfl rfl fun args res ob h hob => by
  split at h
  · injection h with h; injection h with h1 h2; subst h1; subst h2; exact open_tri _ _ _ _ hob.1 hob.2.1
  · cases h
theorem seal_open (k n w box : List UInt8) (h : openE k n w box = 0) : rightB k n = true ∧ sealL k n w (openS k n w box) = box ∧ (openS k n w box).length + 16 = box.length := by
  unfold openE at h
  split at h
  case isFalse => cases h
  rename_i hr
  split at h
  case isTrue => cases h
  rename_i h16
  split at h
  case isFalse => cases h
  rename_i hb
  have hs : openS k n w box = turnL k n 1 (box.take (box.length - 16)) := by simp only [openS, hr, h16, hb, if_true, if_false]
  refine ⟨hr, ?_, ?_⟩
  · rw [hs, sealL, turn_turn]
    unfold openB at hb
    rw [← eq_of_beq hb, List.take_append_drop]
  · rw [hs, turnL_len, List.length_take]; omega
end Go.Proofs.YtahiopdkekkibaaGreatDoor.FC

/-
  Layer 8: classes, and what is padded.
-/
namespace Go.Proofs.YtahiopdkekkibaaGreatDoor.FN
open Go Go.RowKit Go.Proofs
set_option maxHeartbeats 4000000
set_option linter.unusedSimpArgs false
set_option linter.unusedVariables false
def GN : List GFact := []
noncomputable def envN (ga : Nat → Option Con) (nt : Nat) : Env := ⟨ty, ga, [], nt, [], GN⟩
theorem envN_ok {ga : Nat → Option Con} (h : GaOkG Tryz.prog GN ga) (nt : Nat) : EnvOk Tryz.prog (envN ga nt) := ⟨ty_ok, h, by first | rfl | decide⟩
noncomputable def envNK (ga : Nat → Option Con) (nt : Nat) (keys : List Nat) : Env := ⟨ty, ga, [], nt, keys, GN⟩
theorem envNK_ok {ga : Nat → Option Con} (h : GaOkG Tryz.prog GN ga) (nt : Nat) (keys : List Nat) : EnvOk Tryz.prog (envNK ga nt keys) := ⟨ty_ok, h, by first | rfl | decide⟩
/-- The class of a number of bytes. -/
def cls (n : Int) : Int := if n < 0 then 0 else if 700 < n then 0 else if n ≤ 126 then 128 else if n ≤ 254 then 256 else if n ≤ 510 then 512 else 704
def gna : Nat → Option Con := fun f => match f with
  | _ => none
theorem gna_ok : GaOkG Tryz.prog GN gna := fun f con h => by
  unfold gna at h
  split at h
  · cases h
set_option maxRecDepth 100000 in
theorem class_tri (n : Int) : TriG Tryz.prog GN 29 [.one (.num n)] [] (.c (.one (.num (cls n)))) [] := by
  refine tri_ofx (envNK_ok gna_ok 21 []) Tryz.func29 rfl rfl (rs := [.tmp 2]) rfl rfl (by simp [envNK]) rfl ?_
  cases h0 : decide (n < 0) with
  | true =>
    have hv : cls n = 0 := by unfold cls; rw [if_pos (of_decide_eq_true h0)]
    simp only [envNK, con0, conS, strsOf_arr, rowS_arr, strsOf_cells, rowS_cells, toS, strL_st, strL_d, strL_enc, strL_up, hpN_nil, hpN_cons, gna, h0, hv, go_sem]
    repeat' apply And.intro
    rotate_right
    · refine endX [] ?_
      simp only [envNK, con0, conS, strsOf_arr, rowS_arr, strsOf_cells, rowS_cells, toS, strL_st, strL_d, strL_enc, strL_up, hpN_nil, hpN_cons, gna, hv, go_sem]
    all_goals first | omega | exact rfl | exact id
  | false =>
    cases h1 : decide (700 < n) with
    | true =>
      have hv : cls n = 0 := by unfold cls; rw [if_neg (of_decide_eq_false h0), if_pos (of_decide_eq_true h1)]
      simp only [envNK, con0, conS, strsOf_arr, rowS_arr, strsOf_cells, rowS_cells, toS, strL_st, strL_d, strL_enc, strL_up, hpN_nil, hpN_cons, gna, h0, h1, hv, go_sem]
      repeat' apply And.intro
      rotate_right
      · refine endX [] ?_
        simp only [envNK, con0, conS, strsOf_arr, rowS_arr, strsOf_cells, rowS_cells, toS, strL_st, strL_d, strL_enc, strL_up, hpN_nil, hpN_cons, gna, hv, go_sem]
      all_goals first | omega | exact rfl | exact id
    | false =>
      have i0 := of_decide_eq_false h0
      have i1 := of_decide_eq_false h1
      have hw : IntKind.i64.wrap (2 + n) = 2 + n := by rw [IntKind.wrap_i64]; omega
      have hv0 : cls n = if n ≤ 126 then 128 else if n ≤ 254 then 256 else if n ≤ 510 then 512 else 704 := by unfold cls; rw [if_neg i0, if_neg i1]
      have q1 : decide (2 + n ≤ 128) = decide (n ≤ 126) := decide_eq_decide.2 (by omega)
      have q2 : decide (2 + n ≤ 256) = decide (n ≤ 254) := decide_eq_decide.2 (by omega)
      have q3 : decide (2 + n ≤ 512) = decide (n ≤ 510) := decide_eq_decide.2 (by omega)
      simp only [envNK, con0, conS, strsOf_arr, rowS_arr, strsOf_cells, rowS_cells, toS, strL_st, strL_d, strL_enc, strL_up, hpN_nil, hpN_cons, gna, h0, h1, hw, go_sem]
      refine loop_rounds (envNK_ok gna_ok 21 []) 4 ?_
      cases c1 : decide (n ≤ 126) with
      | true =>
        have hv : cls n = 128 := by rw [hv0, if_pos (of_decide_eq_true c1)]
        simp only [envNK, con0, conS, strsOf_arr, rowS_arr, strsOf_cells, rowS_cells, toS, strL_st, strL_d, strL_enc, strL_up, hpN_nil, hpN_cons, gna, hw, q1, c1, hv, go_sem]
        repeat' apply And.intro
        rotate_right
        · refine endX [] ?_
          simp only [envNK, con0, conS, strsOf_arr, rowS_arr, strsOf_cells, rowS_cells, toS, strL_st, strL_d, strL_enc, strL_up, hpN_nil, hpN_cons, gna, hv, go_sem]
        all_goals first | omega | exact rfl | exact id
      | false =>
        cases c2 : decide (n ≤ 254) with
        | true =>
          have hv : cls n = 256 := by rw [hv0, if_neg (of_decide_eq_false c1), if_pos (of_decide_eq_true c2)]
          simp only [envNK, con0, conS, strsOf_arr, rowS_arr, strsOf_cells, rowS_cells, toS, strL_st, strL_d, strL_enc, strL_up, hpN_nil, hpN_cons, gna, hw, q1, q2, c1, c2, hv, go_sem]
          repeat' apply And.intro
          rotate_right
          · refine endX [] ?_
            simp only [envNK, con0, conS, strsOf_arr, rowS_arr, strsOf_cells, rowS_cells, toS, strL_st, strL_d, strL_enc, strL_up, hpN_nil, hpN_cons, gna, hv, go_sem]
          all_goals first | omega | exact rfl | exact id
        | false =>
          cases c3 : decide (n ≤ 510) with
          | true =>
            have hv : cls n = 512 := by rw [hv0, if_neg (of_decide_eq_false c1), if_neg (of_decide_eq_false c2), if_pos (of_decide_eq_true c3)]
            simp only [envNK, con0, conS, strsOf_arr, rowS_arr, strsOf_cells, rowS_cells, toS, strL_st, strL_d, strL_enc, strL_up, hpN_nil, hpN_cons, gna, hw, q1, q2, q3, c1, c2, c3, hv, go_sem]
            repeat' apply And.intro
            rotate_right
            · refine endX [] ?_
              simp only [envNK, con0, conS, strsOf_arr, rowS_arr, strsOf_cells, rowS_cells, toS, strL_st, strL_d, strL_enc, strL_up, hpN_nil, hpN_cons, gna, hv, go_sem]
            all_goals first | omega | exact rfl | exact id
          | false =>
            have hv : cls n = 704 := by rw [hv0, if_neg (of_decide_eq_false c1), if_neg (of_decide_eq_false c2), if_neg (of_decide_eq_false c3)]
            simp only [envNK, con0, conS, strsOf_arr, rowS_arr, strsOf_cells, rowS_cells, toS, strL_st, strL_d, strL_enc, strL_up, hpN_nil, hpN_cons, gna, hw, q1, q2, q3, c1, c2, c3, hv, go_sem]
            repeat' apply And.intro
            rotate_right
            · refine endX [] ?_
              simp only [envNK, con0, conS, strsOf_arr, rowS_arr, strsOf_cells, rowS_cells, toS, strL_st, strL_d, strL_enc, strL_up, hpN_nil, hpN_cons, gna, hv, go_sem]
            all_goals first | omega | exact rfl | exact id
def classC : Con := con0 fun args => match args with
  | [.one (.num n)] => some (.c (.one (.num (cls n))), [])
  | _ => none
theorem classC_ok : ConOkG Tryz.prog GN 29 classC := con0_okG Tryz.func29 rfl rfl fun args res ob h hob => by
  split at h
  · injection h with h; injection h with h1 h2; subst h1; subst h2; exact class_tri _
  · cases h
theorem refClass_tri (n : Int) : TriG Tryz.prog GN 77 [.one (.num n)] [] (.c (.one (.num (cls n)))) [] := by
  refine tri_ofx (envNK_ok gna_ok 15 []) Tryz.func77 rfl rfl (rs := [.tmp 2]) rfl rfl (by simp [envNK]) rfl ?_
  cases h0 : decide (n < 0) <;> cases h1 : decide (700 < n) <;> cases c1 : decide (n ≤ 126) <;> cases c2 : decide (n ≤ 254) <;> cases c3 : decide (n ≤ 510)
  all_goals
    simp only [decide_eq_true_eq, decide_eq_false_iff_not] at h0 h1 c1 c2 c3
    have hv : cls n = if n < 0 then 0 else if 700 < n then 0 else if n ≤ 126 then 128 else if n ≤ 254 then 256 else if n ≤ 510 then 512 else 704 := rfl
    simp only [h0, h1, c1, c2, c3, if_true, if_false] at hv
    simp only [envNK, con0, conS, strsOf_arr, rowS_arr, strsOf_cells, rowS_cells, toS, strL_st, strL_d, strL_enc, strL_up, hpN_nil, hpN_cons, gna, h0, h1, c1, c2, c3, decide_true, decide_false, hv, go_sem]
    refine endX [] ?_
    simp only [envNK, con0, conS, strsOf_arr, rowS_arr, strsOf_cells, rowS_cells, toS, strL_st, strL_d, strL_enc, strL_up, hpN_nil, hpN_cons, gna, hv, go_sem]
def refClassC : Con := con0 fun args => match args with
  | [.one (.num n)] => some (.c (.one (.num (cls n))), [])
  | _ => none
theorem refClassC_ok : ConOkG Tryz.prog GN 77 refClassC := con0_okG Tryz.func77 rfl rfl fun args res ob h hob => by
  split at h
  · injection h with h; injection h with h1 h2; subst h1; subst h2; exact refClass_tri _
  · cases h
theorem cls_spec (n : Int) : (cls n = 0 ∧ (n < 0 ∨ 700 < n)) ∨ (0 ≤ n ∧ n ≤ 700 ∧ n + 2 ≤ cls n ∧ cls n ≤ 704 ∧ 128 ≤ cls n) := by
  unfold cls
  split
  · exact .inl ⟨rfl, .inl ‹_›⟩
  · split
    · exact .inl ⟨rfl, .inr ‹_›⟩
    · right
      split
      · omega
      · split
        · omega
        · split <;> omega
/-- strings.Repeat; strings.Trim with one sign. -/
theorem repeat8_tri (p : List UInt8) (c : Int) (h0 : 0 ≤ c) (h1 : c ≤ 100000) (hp : p.length ≤ 1000) : TriG Tryz.prog GN 56 [.one (.str p), .one (.num c)] [] (.c (.one (.str (Lib.repeatL p c.toNat)))) [] := by
  refine tri_shelf fun w vals hg hv => ?_
  obtain ⟨u, v, rfl, hu, hv⟩ := all2_two hv
  obtain ⟨k, rfl⟩ : ∃ k : Nat, c = (k : Int) := ⟨c.toNat, by omega⟩
  rw [show u = .string ⟨p.toArray⟩ from hu, show v = .int .i64 (k : Int) from hv]
  have hsz : (⟨p.toArray⟩ : ByteArray).size = p.length := rfl
  refine (Tryz.strings_Repeat ⟨p.toArray⟩ k w (by omega) (by rw [hsz]; exact Nat.le_trans (Nat.mul_le_mul (show p.length ≤ 1000 from hp) (show k ≤ 100000 by omega)) (by decide))).mono ?_
  rintro e w' ⟨rfl, hb⟩
  exact ⟨_, rfl, rfl, hb⟩
def repeat8C : Con := con0 fun args => match args with
  | [.one (.str p), .one (.num c)] => some (.c (.one (.str (Lib.repeatL p c.toNat))), [0 ≤ c, c ≤ 100000, p.length ≤ 1000])
  | _ => none
theorem repeat8C_ok : ConOkG Tryz.prog GN 56 repeat8C := con0_okG Tryz.func56 rfl rfl fun args res ob h hob => by
  split at h
  · injection h with h; injection h with h1 h2; subst h1; subst h2; exact repeat8_tri _ _ hob.1 hob.2.1 hob.2.2.1
  · cases h
theorem trim8_tri (s : List UInt8) (c : UInt8) (hc : c.toNat < 128) (hs : s.length ≤ 9223372036854775807) : TriG Tryz.prog GN 57 [.one (.str s), .one (.str [c])] [] (.c (.one (.str (Lib.trimB s c)))) [] := by
  refine tri_shelf fun w vals hg hv => ?_
  obtain ⟨u, v, rfl, hu, hv⟩ := all2_two hv
  rw [show u = .string ⟨s.toArray⟩ from hu, show v = .string ⟨#[c]⟩ from hv]
  refine (Tryz.strings_Trim_one ⟨s.toArray⟩ c hc w hs).mono ?_
  rintro e w' ⟨rfl, hw⟩
  refine ⟨_, rfl, rfl, ?_⟩
  rcases hw with rfl | rfl
  · exact Below.refl _ _
  · exact ⟨rfl, rfl, rfl, Nat.le_refl _, fun _ _ => rfl⟩
def trim8C : Con := con0 fun args => match args with
  | [.one (.str s), .one (.str [c])] => some (.c (.one (.str (Lib.trimB s c))), [c.toNat < 128, s.length ≤ 9223372036854775807])
  | _ => none
theorem trim8C_ok : ConOkG Tryz.prog GN 57 trim8C := con0_okG Tryz.func57 rfl rfl fun args res ob h hob => by
  split at h
  · injection h with h; injection h with h1 h2; subst h1; subst h2; exact trim8_tri _ _ hob.1 hob.2.1
  · cases h
/-- What is padded. -/
def padT (s : List UInt8) : List UInt8 := s ++ List.replicate (cls s.length - 2 - s.length).toNat 0
def padL (s : List UInt8) : List UInt8 := by8 s.length :: by8 ((s.length / 256 : Nat) : Int) :: padT s
theorem rep_zero : ∀ k : Nat, Lib.repeatL [0] k = List.replicate k 0
  | 0 => rfl
  | k + 1 => by rw [Lib.repeatL, rep_zero k, List.replicate_succ]; rfl
def padV (s : List UInt8) : SV := if s.length ≤ 700 then .tup [.one (.str (padL s)), .one (.num 0)] else .tup [.one (.str []), .one (.num 4)]
def gnb : Nat → Option Con := fun f => match f with
  | 29 => some classC
  | 56 => some repeat8C
  | _ => none
theorem gnb_ok : GaOkG Tryz.prog GN gnb := fun f con h => by
  unfold gnb at h
  split at h
  · injection h with h; subst h; exact classC_ok
  · injection h with h; subst h; exact repeat8C_ok
  · cases h
set_option maxRecDepth 100000 in
theorem pad_tri (s : List UInt8) (hs : s.length ≤ 100000) : TriG Tryz.prog GN 27 [.one (.str s)] [] (padV s) [] := by
  refine tri_ofx (envNK_ok gnb_ok 30 []) Tryz.func27 rfl rfl (rs := [.tmp 2, .tmp 3]) rfl rfl (by simp [envNK]) rfl ?_
  rcases cls_spec s.length with ⟨h0, h1⟩ | ⟨h0, h1, h2, h3, h4⟩
  · have hv : padV s = .tup [.one (.str []), .one (.num 4)] := by unfold padV; rw [if_neg (by omega)]
    simp only [envNK, con0, conS, strsOf_arr, rowS_arr, strsOf_cells, rowS_cells, toS, strL_st, strL_d, strL_enc, strL_up, hpN_nil, hpN_cons, gnb, classC, repeat8C, h0, hv, go_sem]
    repeat' apply And.intro
    rotate_right
    · refine endX [] ?_
      simp only [envNK, con0, conS, strsOf_arr, rowS_arr, strsOf_cells, rowS_cells, toS, strL_st, strL_d, strL_enc, strL_up, hpN_nil, hpN_cons, gnb, classC, repeat8C, hv, go_sem]
    all_goals first | omega | exact rfl | exact id
  · have hv : padV s = .tup [.one (.str (padL s)), .one (.num 0)] := by unfold padV; rw [if_pos (by omega)]
    have hne : (cls s.length == 0) = false := beq_eq_false_iff_ne.2 (by omega)
    have w1 : IntKind.i64.wrap (cls s.length - 2) = cls s.length - 2 := by rw [IntKind.wrap_i64]; omega
    have w2 : IntKind.i64.wrap (cls s.length - 2 - s.length) = cls s.length - 2 - s.length := by rw [IntKind.wrap_i64]; omega
    have hf : (s.length : Int).fdiv (2 ^ (min 8 64)) = ((s.length / 256 : Nat) : Int) := by
      have e : (2 : Int) ^ (min 8 64) = 256 := by decide
      rw [e, Int.fdiv_eq_ediv_of_nonneg _ (by decide)]
      omega
    simp only [envNK, con0, conS, strsOf_arr, rowS_arr, strsOf_cells, rowS_cells, toS, strL_st, strL_d, strL_enc, strL_up, hpN_nil, hpN_cons, gnb, classC, repeat8C, hne, w1, w2, hf, rep_zero, go_sem]
    (repeat' apply And.intro)
    rotate_right
    · refine endX [] ?_
      simp only [envNK, con0, conS, strsOf_arr, rowS_arr, strsOf_cells, rowS_cells, toS, strL_st, strL_d, strL_enc, strL_up, hpN_nil, hpN_cons, gnb, classC, repeat8C, hv, padL, padT, go_sem]
    all_goals first | omega | exact rfl | exact id | (simp only [List.length_replicate]; omega)
def padC : Con := con0 fun args => match args with
  | [.one (.str s)] => some (padV s, [s.length ≤ 100000])
  | _ => none
theorem padC_ok : ConOkG Tryz.prog GN 27 padC := con0_okG Tryz.func27 rfl rfl fun args res ob h hob => by
  split at h
  · injection h with h; injection h with h1 h2; subst h1; subst h2; exact pad_tri _ hob.1
  · cases h
theorem by8_mod (n : Nat) : by8 ((n % 256 : Nat) : Int) = by8 (n : Int) := by
  unfold by8
  congr 1
  omega
def rqL (s : List UInt8) (i : Nat) : List UInt8 := by8 s.length :: by8 ((s.length / 256 : Nat) : Int) :: (s ++ List.replicate i 0)
theorem rqL_len (s : List UInt8) (i : Nat) : (rqL s i).length = 2 + s.length + i := by unfold rqL; simp; omega
theorem rqL_add (s : List UInt8) (i : Nat) : rqL s i ++ [0] = rqL s (i + 1) := by unfold rqL; simp [List.replicate_succ']
def rqInv (s : List UInt8) (i : Nat) : St := ⟨[(0, .c (.one (.str s))), (3, .c (.one (.sl 500 0 1 (2 + s.length + i))))], [(500, ⟨.arr _ u8L (rqL s i), true⟩)]⟩
def rqOk (s : List UInt8) (i : Nat) : Prop := i ≤ (cls s.length - 2 - s.length).toNat
theorem rqOk_of {s : List UInt8} {i : Nat} (h : i ≤ (cls s.length - 2 - s.length).toNat) : rqOk s i := h
def gnc : Nat → Option Con := fun f => match f with
  | 77 => some refClassC
  | _ => none
theorem gnc_ok : GaOkG Tryz.prog GN gnc := fun f con h => by
  unfold gnc at h
  split at h
  · injection h with h; subst h; exact refClassC_ok
  · cases h
set_option maxRecDepth 100000 in
theorem refPad_tri (s : List UInt8) (hs : s.length ≤ 100000) : TriG Tryz.prog GN 38 [.one (.str s)] [] (.c (.one (.str (padL s)))) [] := by
  refine tri_ofx (envNK_ok gnc_ok 27 []) Tryz.func38 rfl rfl (rs := [.tmp 2]) rfl rfl (by simp [envNK]) rfl ?_
  have q1 : (s.length : Int).tmod 256 = ((s.length % 256 : Nat) : Int) := rfl
  have q2 : IntKind.i64.wrap ((s.length : Int).tdiv 256) = ((s.length / 256 : Nat) : Int) := by
    have : (s.length : Int).tdiv 256 = ((s.length / 256 : Nat) : Int) := rfl
    rw [this, IntKind.wrap_i64]; omega
  have hc := cls_spec s.length
  simp only [envNK, con0, conS, strsOf_arr, rowS_arr, strsOf_cells, rowS_cells, toS, strL_st, strL_d, strL_enc, strL_up, hpN_nil, hpN_cons, gnc, refClassC, q1, q2, by8_mod, List.take_length, go_sem]
  (repeat' apply And.intro)
  rotate_right
  · refine loop_inv (envNK_ok gnc_ok 27 []) (rqInv s) (rqOk s) (fun i => (cls s.length - 2 - s.length).toNat - i) 0 [(500, 20088)] (rqOk_of (Nat.zero_le _)) ?_ ?_
    · simp only [rqInv, rqL, List.replicate_zero, List.append_nil, List.take_length, go_sem]
      all_goals ((repeat' apply And.intro) <;> first | omega | exact rfl | exact id)
    · intro i hi
      have hi1 : i ≤ (cls s.length - 2 - s.length).toNat := hi
      have hL := rqL_len s i
      simp only [envNK, con0, conS, strsOf_arr, rowS_arr, strsOf_cells, rowS_cells, toS, strL_st, strL_d, strL_enc, strL_up, hpN_nil, hpN_cons, gnc, refClassC, rqInv, go_sem]
      refine br (fun h => ?_) fun h => ?_
      · have hlt : i < (cls s.length - 2 - s.length).toNat := by have := of_decide_eq_true h; omega
        have hA := rqL_add s i
        simp only [envNK, con0, conS, strsOf_arr, rowS_arr, strsOf_cells, rowS_cells, toS, strL_st, strL_d, strL_enc, strL_up, hpN_nil, hpN_cons, gnc, refClassC, h, u8L, go_sem]
        repeat' apply And.intro
        rotate_right
        · refine again (i + 1) [(500, 40016)] (rqOk_of hlt) (by show (cls s.length - 2 - s.length).toNat - (i + 1) < (cls s.length - 2 - s.length).toNat - i; omega) ?_
          simp only [rqInv, ← hA, u8L, envNK, con0, conS, strsOf_arr, rowS_arr, strsOf_cells, rowS_cells, toS, strL_st, strL_d, strL_enc, strL_up, hpN_nil, hpN_cons, gnc, refClassC, go_sem]
          all_goals ((repeat' apply And.intro) <;> first | omega | exact rfl | exact id)
        all_goals first | omega | exact rfl | exact id
      · have hge : (cls s.length - 2 - s.length).toNat ≤ i := by have := of_decide_eq_false h; omega
        have hie : i = (cls s.length - 2 - s.length).toNat := by omega
        have hP : rqL s i = padL s := by unfold rqL padL padT; rw [hie]
        have hPl : (padL s).length = 2 + s.length + i := by rw [← hP]; exact hL
        have htk : (padL s).take (2 + s.length + i) = padL s := List.take_of_length_le (by omega)
        have hmap : (padL s).map (fun x => x) = padL s := List.map_id _
        simp only [envNK, con0, conS, strsOf_arr, rowS_arr, strsOf_cells, rowS_cells, toS, strL_st, strL_d, strL_enc, strL_up, hpN_nil, hpN_cons, gnc, refClassC, h, u8L, List.drop_zero, htk, hmap, hP, go_sem]
        repeat' apply And.intro
        rotate_right
        · refine endX [] ?_
          simp only [envNK, con0, conS, strsOf_arr, rowS_arr, strsOf_cells, rowS_cells, toS, strL_st, strL_d, strL_enc, strL_up, hpN_nil, hpN_cons, gnc, refClassC, hP, go_sem]
          all_goals ((repeat' apply And.intro) <;> first | omega | exact rfl | exact id)
        all_goals first | omega | exact rfl | exact id
  all_goals first | omega | exact rfl | exact id | trivial
def refPadC : Con := con0 fun args => match args with
  | [.one (.str s)] => some (.c (.one (.str (padL s))), [s.length ≤ 100000])
  | _ => none
theorem refPadC_ok : ConOkG Tryz.prog GN 38 refPadC := con0_okG Tryz.func38 rfl rfl fun args res ob h hob => by
  split at h
  · injection h with h; injection h with h1 h2; subst h1; subst h2; exact refPad_tri _ hob.1
  · cases h
end Go.Proofs.YtahiopdkekkibaaGreatDoor.FN

/-
  Layer 8: what was padded is told; the laws.
-/
namespace Go.Proofs.YtahiopdkekkibaaGreatDoor.FN
open Go Go.RowKit Go.Proofs
set_option maxHeartbeats 4000000
set_option linter.unusedSimpArgs false
set_option linter.unusedVariables false
theorem dw_nil (c : UInt8) : ∀ l : List UInt8, (∀ x ∈ l.dropWhile (· == c), x = c) → l.dropWhile (· == c) = []
  | [], _ => rfl
  | a :: t, h => by
    rw [List.dropWhile_cons] at h ⊢
    split
    · rename_i ha
      rw [if_pos ha] at h
      exact dw_nil c t h
    · rename_i ha
      rw [if_neg ha] at h
      exact absurd (beq_iff_eq.2 (h a (by simp))) ha
theorem dw_all {c : UInt8} {l : List UInt8} : l.dropWhile (· == c) = [] ↔ ∀ x ∈ l, x = c := by
  induction l with
  | nil => simp
  | cons a t ih =>
    rw [List.dropWhile_cons]
    constructor
    · intro h x hx
      split at h
      · rename_i ha
        rcases List.mem_cons.1 hx with rfl | hx
        · exact beq_iff_eq.1 ha
        · exact ih.1 h x hx
      · cases h
    · intro h
      rw [if_pos (beq_iff_eq.2 (h a (by simp)))]
      exact ih.2 fun x hx => h x (by simp [hx])
theorem trim_nil {l : List UInt8} {c : UInt8} : Lib.trimB l c = [] ↔ ∀ x ∈ l, x = c := by
  unfold Lib.trimB Lib.trimLeftB Lib.trimRightB
  rw [dw_all]
  constructor
  · intro h x hx
    have h2 := dw_nil c l.reverse fun y hy => h y (List.mem_reverse.2 hy)
    exact dw_all.1 h2 x (List.mem_reverse.2 hx)
  · intro h x hx
    have h2 : l.reverse.dropWhile (· == c) = [] := dw_all.2 fun y hy => h y (List.mem_reverse.1 hy)
    rw [h2] at hx
    cases hx
def upN (s : List UInt8) : Nat := (s.getD 0 0).toNat + 256 * (s.getD 1 0).toNat
def upT (s : List UInt8) : List UInt8 := (s.drop 2).take (2 + upN s - 2)
def unOk (s : List UInt8) : Bool := decide (2 ≤ s.length) && (cls (upN s) == (s.length : Int)) && (Lib.trimB (s.drop (2 + upN s)) 0 == [])
def unV (s : List UInt8) : SV := if unOk s then .tup [.one (.str (upT s)), .one (.num 0)] else .tup [.one (.str []), .one (.num 3)]
def refUnV (s : List UInt8) : SV := if unOk s then .tup [.one (.str (upT s)), .one (.bo true)] else .tup [.one (.str []), .one (.bo false)]
theorem upN_lt (s : List UInt8) : upN s < 65536 := by
  unfold upN
  have h1 := (s.getD 0 0).toNat_lt
  have h2 := (s.getD 1 0).toNat_lt
  omega
def gnd : Nat → Option Con := fun f => match f with
  | 29 => some classC
  | 57 => some trim8C
  | _ => none
theorem gnd_ok : GaOkG Tryz.prog GN gnd := fun f con h => by
  unfold gnd at h
  split at h
  · injection h with h; subst h; exact classC_ok
  · injection h with h; subst h; exact trim8C_ok
  · cases h
set_option maxRecDepth 100000 in
theorem unpad_tri (s : List UInt8) (hs : s.length ≤ 100000) : TriG Tryz.prog GN 28 [.one (.str s)] [] (unV s) [] := by
  refine tri_ofx (envNK_ok gnd_ok 33 []) Tryz.func28 rfl rfl (rs := [.tmp 2, .tmp 3]) rfl rfl (by simp [envNK]) rfl ?_
  have bad : unOk s = false → unV s = .tup [.one (.str []), .one (.num 3)] := fun h => by unfold unV; rw [h]; rfl
  cases h2 : decide ((s.length : Int) < 2) with
  | true =>
    have hv := bad (by unfold unOk; rw [decide_eq_false (show ¬ 2 ≤ s.length by have := of_decide_eq_true h2; omega)]; rfl)
    simp only [envNK, con0, conS, strsOf_arr, rowS_arr, strsOf_cells, rowS_cells, toS, strL_st, strL_d, strL_enc, strL_up, hpN_nil, hpN_cons, gnd, classC, trim8C, h2, hv, go_sem]
    repeat' apply And.intro
    rotate_right
    · refine endX [] ?_
      simp only [envNK, con0, conS, strsOf_arr, rowS_arr, strsOf_cells, rowS_cells, toS, strL_st, strL_d, strL_enc, strL_up, hpN_nil, hpN_cons, gnd, classC, trim8C, hv, go_sem]
    all_goals first | omega | exact rfl | exact id
  | false =>
    have hl2 : 2 ≤ s.length := by have := of_decide_eq_false h2; omega
    have g0 : (0 : Int) ≤ 0 ∧ (0 : Int) < (s.length : Int) := ⟨by omega, by omega⟩
    have g1 : (0 : Int) ≤ 1 ∧ (1 : Int) < (s.length : Int) := ⟨by omega, by omega⟩
    have hn := upN_lt s
    have hlt1 := (s.getD 1 0).toNat_lt
    have f1 : IntKind.i64.wrap (((s.getD 1 0).toNat : Int) * 2 ^ (min 8 64)) = ((256 * (s.getD 1 0).toNat : Nat) : Int) := by
      have e : (2 : Int) ^ (min 8 64) = 256 := by decide
      rw [e, IntKind.wrap_i64]; omega
    have f2 : orI ((s.getD 0 0).toNat : Int) ((256 * (s.getD 1 0).toNat : Nat) : Int) = (upN s : Int) := orI_cat _ _ (s.getD 0 0).toNat_lt (s.getD 1 0).toNat_lt
    have w1 : IntKind.i64.wrap (2 + (upN s : Int)) = ((2 + upN s : Nat) : Int) := by rw [IntKind.wrap_i64]; omega
    cases hc : (cls (upN s) == (s.length : Int)) with
    | false =>
      have hv := bad (by unfold unOk; rw [hc, Bool.and_false]; rfl)
      simp only [envNK, con0, conS, strsOf_arr, rowS_arr, strsOf_cells, rowS_cells, toS, strL_st, strL_d, strL_enc, strL_up, hpN_nil, hpN_cons, gnd, classC, trim8C, h2, f1, f2, hc, Bool.not_true, Bool.not_false, hv, go_sem]
      repeat' apply And.intro
      rotate_right
      · refine endX [] ?_
        simp only [envNK, con0, conS, strsOf_arr, rowS_arr, strsOf_cells, rowS_cells, toS, strL_st, strL_d, strL_enc, strL_up, hpN_nil, hpN_cons, gnd, classC, trim8C, hv, go_sem]
      all_goals first | omega | exact rfl | exact id
    | true =>
      have hce := eq_of_beq hc
      have hsp : upN s + 2 ≤ s.length := by
        rcases cls_spec (upN s) with ⟨e, _⟩ | ⟨_, _, e, _, _⟩ <;> omega
      have hdl : (s.drop (2 + upN s)).length ≤ 9223372036854775807 := by simp only [List.length_drop]; omega
      have hc0 : (0 : UInt8).toNat < 128 := by decide
      cases hz : (Lib.trimB (s.drop (2 + upN s)) 0 == []) with
      | false =>
        have hv := bad (by unfold unOk; rw [hz, Bool.and_false])
        simp only [envNK, con0, conS, strsOf_arr, rowS_arr, strsOf_cells, rowS_cells, toS, strL_st, strL_d, strL_enc, strL_up, hpN_nil, hpN_cons, gnd, classC, trim8C, h2, f1, f2, w1, hc, hz, Bool.not_true, Bool.not_false, hv, Int.toNat_natCast, go_sem]
        repeat' apply And.intro
        rotate_right
        · refine endX [] ?_
          simp only [envNK, con0, conS, strsOf_arr, rowS_arr, strsOf_cells, rowS_cells, toS, strL_st, strL_d, strL_enc, strL_up, hpN_nil, hpN_cons, gnd, classC, trim8C, hv, go_sem]
        all_goals first | omega | exact rfl | exact id
      | true =>
        have hok : unOk s = true := by unfold unOk; rw [hz, hc, decide_eq_true hl2]; rfl
        have hv : unV s = .tup [.one (.str (upT s)), .one (.num 0)] := by unfold unV; rw [hok]; rfl
        simp only [envNK, con0, conS, strsOf_arr, rowS_arr, strsOf_cells, rowS_cells, toS, strL_st, strL_d, strL_enc, strL_up, hpN_nil, hpN_cons, gnd, classC, trim8C, h2, f1, f2, w1, hc, hz, Bool.not_true, Bool.not_false, hv, upT, Int.toNat_natCast, go_sem]
        repeat' apply And.intro
        rotate_right
        · refine endX [] ?_
          simp only [envNK, con0, conS, strsOf_arr, rowS_arr, strsOf_cells, rowS_cells, toS, strL_st, strL_d, strL_enc, strL_up, hpN_nil, hpN_cons, gnd, classC, trim8C, upT, go_sem]
          all_goals ((repeat' apply And.intro) <;> first | omega | exact rfl | exact id)
        all_goals first | omega | exact rfl | exact id
def unpadC : Con := con0 fun args => match args with
  | [.one (.str s)] => some (unV s, [s.length ≤ 100000])
  | _ => none
theorem unpadC_ok : ConOkG Tryz.prog GN 28 unpadC := con0_okG Tryz.func28 rfl rfl fun args res ob h hob => by
  split at h
  · injection h with h; injection h with h1 h2; subst h1; subst h2; exact unpad_tri _ hob.1
  · cases h
theorem upT_len {s : List UInt8} (h : upN s + 2 ≤ s.length) : (upT s).length = upN s := by
  unfold upT; simp only [List.length_take, List.length_drop]; omega
theorem s_parts {s : List UInt8} (h : 2 ≤ s.length) (hn : upN s + 2 ≤ s.length) : s = s.getD 0 0 :: s.getD 1 0 :: (upT s ++ s.drop (2 + upN s)) := by
  match s, h with
  | a :: b :: t, _ =>
    show a :: b :: t = a :: b :: (upT (a :: b :: t) ++ (a :: b :: t).drop (2 + upN (a :: b :: t)))
    unfold upT
    generalize upN (a :: b :: t) = n
    have e1 : 2 + n - 2 = n := by omega
    have e2 : (a :: b :: t).drop (2 + n) = t.drop n := by rw [Nat.add_comm]; rfl
    rw [e1, e2]
    show a :: b :: t = a :: b :: (t.take n ++ t.drop n)
    rw [List.take_append_drop]
theorem by8_up (s : List UInt8) : by8 (upN s : Int) = s.getD 0 0 ∧ by8 ((upN s / 256 : Nat) : Int) = s.getD 1 0 := by
  have h1 := (s.getD 0 0).toNat_lt
  have h2 := (s.getD 1 0).toNat_lt
  constructor
  · apply UInt8.toNat_inj.1
    unfold by8 upN
    rw [UInt8.toNat_ofNat']
    omega
  · apply UInt8.toNat_inj.1
    unfold by8 upN
    rw [UInt8.toNat_ofNat']
    omega
theorem pad_un {s : List UInt8} (h : 2 ≤ s.length) (hn : upN s + 2 ≤ s.length) (h7 : upN s ≤ 700) : (padL (upT s) == s) = unOk s := by
  have hl := upT_len hn
  obtain ⟨e1, e2⟩ := by8_up s
  have hp := s_parts h hn
  have hc := cls_spec (upN s)
  have hpad : padL (upT s) = s.getD 0 0 :: s.getD 1 0 :: (upT s ++ List.replicate (cls (upN s) - 2 - upN s).toNat 0) := by
    unfold padL padT
    rw [hl, e1, e2]
  have hiff : padL (upT s) = s ↔ List.replicate (cls (upN s) - 2 - upN s).toNat 0 = s.drop (2 + upN s) := by
    rw [hpad]
    constructor
    · intro e
      have e := e.trans hp
      exact List.append_cancel_left (List.cons.inj (List.cons.inj e).2).2
    · intro e
      rw [e]
      exact hp.symm
  rw [Bool.eq_iff_iff, beq_iff_eq, hiff]
  unfold unOk
  rw [decide_eq_true h, Bool.true_and, Bool.and_eq_true, beq_iff_eq, beq_iff_eq, trim_nil]
  have hdl : (s.drop (2 + upN s)).length = s.length - (2 + upN s) := List.length_drop
  constructor
  · intro e
    have := congrArg List.length e
    rw [List.length_replicate, hdl] at this
    refine ⟨by omega, fun x hx => ?_⟩
    rw [← e] at hx
    exact (List.mem_replicate.1 hx).2
  · rintro ⟨e, hz⟩
    refine (List.eq_replicate_iff.2 ⟨by omega, hz⟩).symm
def gne : Nat → Option Con := fun f => match f with
  | 38 => some refPadC
  | _ => none
theorem gne_ok : GaOkG Tryz.prog GN gne := fun f con h => by
  unfold gne at h
  split at h
  · injection h with h; subst h; exact refPadC_ok
  · cases h
set_option maxRecDepth 100000 in
theorem refUnpad_tri (s : List UInt8) (hs : s.length ≤ 100000) : TriG Tryz.prog GN 41 [.one (.str s)] [] (refUnV s) [] := by
  refine tri_ofx (envNK_ok gne_ok 38 []) Tryz.func41 rfl rfl (rs := [.tmp 2, .tmp 3]) rfl rfl (by simp [envNK]) rfl ?_
  have bad : unOk s = false → refUnV s = .tup [.one (.str []), .one (.bo false)] := fun h => by unfold refUnV; rw [h]; rfl
  cases h2 : decide ((s.length : Int) < 2) with
  | true =>
    have hv := bad (by unfold unOk; rw [decide_eq_false (show ¬ 2 ≤ s.length by have := of_decide_eq_true h2; omega)]; rfl)
    simp only [envNK, con0, conS, strsOf_arr, rowS_arr, strsOf_cells, rowS_cells, toS, strL_st, strL_d, strL_enc, strL_up, hpN_nil, hpN_cons, gne, refPadC, h2, hv, go_sem]
    repeat' apply And.intro
    rotate_right
    · refine endX [] ?_
      simp only [envNK, con0, conS, strsOf_arr, rowS_arr, strsOf_cells, rowS_cells, toS, strL_st, strL_d, strL_enc, strL_up, hpN_nil, hpN_cons, gne, refPadC, hv, go_sem]
    all_goals first | omega | exact rfl | exact id
  | false =>
    have hl2 : 2 ≤ s.length := by have := of_decide_eq_false h2; omega
    have g0 : (0 : Int) ≤ 0 ∧ (0 : Int) < (s.length : Int) := ⟨by omega, by omega⟩
    have g1 : (0 : Int) ≤ 1 ∧ (1 : Int) < (s.length : Int) := ⟨by omega, by omega⟩
    have hn := upN_lt s
    have hlt0 := (s.getD 0 0).toNat_lt
    have hlt1 := (s.getD 1 0).toNat_lt
    have f1 : IntKind.i64.wrap (256 * ((s.getD 1 0).toNat : Int)) = ((256 * (s.getD 1 0).toNat : Nat) : Int) := by rw [IntKind.wrap_i64]; omega
    have f2 : IntKind.i64.wrap (((s.getD 0 0).toNat : Int) + ((256 * (s.getD 1 0).toNat : Nat) : Int)) = (upN s : Int) := by rw [IntKind.wrap_i64]; unfold upN; omega
    have w1 : IntKind.i64.wrap (2 + (upN s : Int)) = ((2 + upN s : Nat) : Int) := by rw [IntKind.wrap_i64]; omega
    have w2 : IntKind.i64.wrap ((upN s : Int) + 2) = ((2 + upN s : Nat) : Int) := by rw [IntKind.wrap_i64]; omega
    have hcs := cls_spec (upN s)
    cases h7 : decide ((700 : Int) < (upN s : Int)) with
    | true =>
      have h7' := of_decide_eq_true h7
      have hv := bad (by unfold unOk; rw [beq_eq_false_iff_ne.2 (show cls (upN s) ≠ (s.length : Int) by omega), Bool.and_false]; rfl)
      simp only [envNK, con0, conS, strsOf_arr, rowS_arr, strsOf_cells, rowS_cells, toS, strL_st, strL_d, strL_enc, strL_up, hpN_nil, hpN_cons, gne, refPadC, h2, f1, f2, h7, hv, go_sem]
      repeat' apply And.intro
      rotate_right
      · refine endX [] ?_
        simp only [envNK, con0, conS, strsOf_arr, rowS_arr, strsOf_cells, rowS_cells, toS, strL_st, strL_d, strL_enc, strL_up, hpN_nil, hpN_cons, gne, refPadC, hv, go_sem]
      all_goals first | omega | exact rfl | exact id
    | false =>
      have h7' := of_decide_eq_false h7
      cases h8 : decide ((s.length : Int) < ((2 + upN s : Nat) : Int)) with
      | true =>
        have h8' := of_decide_eq_true h8
        have hv := bad (by unfold unOk; rw [beq_eq_false_iff_ne.2 (show cls (upN s) ≠ (s.length : Int) by omega), Bool.and_false]; rfl)
        simp only [envNK, con0, conS, strsOf_arr, rowS_arr, strsOf_cells, rowS_cells, toS, strL_st, strL_d, strL_enc, strL_up, hpN_nil, hpN_cons, gne, refPadC, h2, f1, f2, w2, h7, h8, hv, go_sem]
        repeat' apply And.intro
        rotate_right
        · refine endX [] ?_
          simp only [envNK, con0, conS, strsOf_arr, rowS_arr, strsOf_cells, rowS_cells, toS, strL_st, strL_d, strL_enc, strL_up, hpN_nil, hpN_cons, gne, refPadC, hv, go_sem]
        all_goals first | omega | exact rfl | exact id
      | false =>
        have h8' := of_decide_eq_false h8
        have hpu := pad_un hl2 (by omega) (by omega)
        have hul := upT_len (s := s) (by omega)
        have hul2 : (upT s).length ≤ 100000 := by omega
        have eT : (s.drop 2).take (2 + upN s - 2) = upT s := rfl
        cases hk : unOk s with
        | false =>
          have hv := bad hk
          rw [hk] at hpu
          simp only [envNK, con0, conS, strsOf_arr, rowS_arr, strsOf_cells, rowS_cells, toS, strL_st, strL_d, strL_enc, strL_up, hpN_nil, hpN_cons, gne, refPadC, h2, f1, f2, w1, w2, h7, h8, eT, hpu, Bool.not_true, Bool.not_false, hv, Int.toNat_natCast, Int.reduceToNat, go_sem]
          repeat' apply And.intro
          rotate_right
          · refine endX [] ?_
            simp only [envNK, con0, conS, strsOf_arr, rowS_arr, strsOf_cells, rowS_cells, toS, strL_st, strL_d, strL_enc, strL_up, hpN_nil, hpN_cons, gne, refPadC, hv, go_sem]
          all_goals first | omega | exact rfl | exact id
        | true =>
          have hv : refUnV s = .tup [.one (.str (upT s)), .one (.bo true)] := by unfold refUnV; rw [hk]; rfl
          rw [hk] at hpu
          simp only [envNK, con0, conS, strsOf_arr, rowS_arr, strsOf_cells, rowS_cells, toS, strL_st, strL_d, strL_enc, strL_up, hpN_nil, hpN_cons, gne, refPadC, h2, f1, f2, w1, w2, h7, h8, eT, hpu, Bool.not_true, Bool.not_false, hv, Int.toNat_natCast, Int.reduceToNat, go_sem]
          repeat' apply And.intro
          rotate_right
          · refine endX [] ?_
            simp only [envNK, con0, conS, strsOf_arr, rowS_arr, strsOf_cells, rowS_cells, toS, strL_st, strL_d, strL_enc, strL_up, hpN_nil, hpN_cons, gne, refPadC, hv, go_sem]
            all_goals ((repeat' apply And.intro) <;> first | omega | exact rfl | exact id)
          all_goals first | omega | exact rfl | exact id
def refUnpadC : Con := con0 fun args => match args with
  | [.one (.str s)] => some (refUnV s, [s.length ≤ 100000])
  | _ => none
theorem refUnpadC_ok : ConOkG Tryz.prog GN 41 refUnpadC := con0_okG Tryz.func41 rfl rfl fun args res ob h hob => by
  split at h
  · injection h with h; injection h with h1 h2; subst h1; subst h2; exact refUnpad_tri _ hob.1
  · cases h
theorem unpad_pad {s : List UInt8} (h : s.length ≤ 700) : unOk (padL s) = true ∧ upT (padL s) = s ∧ 2 ≤ (padL s).length ∧ (padL s).length ≤ 704 ∧ ((padL s).length : Int) = cls s.length := by
  have hc := cls_spec s.length
  have hpl : ((padL s).length : Int) = cls s.length := by
    unfold padL padT
    simp only [List.length_cons, List.length_append, List.length_replicate]
    omega
  have hN : upN (padL s) = s.length := by
    show (by8 (s.length : Int)).toNat + 256 * (by8 ((s.length / 256 : Nat) : Int)).toNat = _
    unfold by8
    rw [UInt8.toNat_ofNat', UInt8.toNat_ofNat']
    omega
  have hT : upT (padL s) = s := by
    unfold upT
    rw [hN]
    have e : 2 + s.length - 2 = s.length := by omega
    rw [e]
    show (padT s).take s.length = s
    unfold padT
    exact List.take_left' rfl
  have hu := pad_un (s := padL s) (by omega) (by rw [hN]; omega) (by rw [hN]; omega)
  rw [hT] at hu
  refine ⟨by rw [← hu]; simp, hT, by omega, by omega, hpl⟩
def gnf : Nat → Option Con := fun f => match f with
  | _ => none
theorem gnf_ok : GaOkG Tryz.prog GN gnf := fun f con h => by
  unfold gnf at h
  split at h
  · cases h
theorem clamp8_tri : TriG Tryz.prog GN 58 [.one (.str [])] [] (.tup [.one (.str []), .one (.bo false)]) [] := by
  refine tri_ofx (envNK_ok gnf_ok 24 []) Tryz.func58 rfl rfl (rs := [.tmp 2, .tmp 3]) rfl rfl (by simp [envNK]) rfl ?_
  simp only [envNK, con0, conS, strsOf_arr, rowS_arr, strsOf_cells, rowS_cells, toS, strL_st, strL_d, strL_enc, strL_up, hpN_nil, hpN_cons, gnf, List.length_nil, go_sem]
  repeat' apply And.intro
  rotate_right
  · refine endX [] ?_
    simp only [envNK, con0, conS, strsOf_arr, rowS_arr, strsOf_cells, rowS_cells, toS, strL_st, strL_d, strL_enc, strL_up, hpN_nil, hpN_cons, gnf, go_sem]
  all_goals first | omega | exact rfl | exact id
def clamp8C : Con := con0 fun args => match args with
  | [.one (.str [])] => some (.tup [.one (.str []), .one (.bo false)], [])
  | _ => none
theorem clamp8C_ok : ConOkG Tryz.prog GN 58 clamp8C := con0_okG Tryz.func58 rfl rfl fun args res ob h hob => by
  split at h
  · injection h with h; injection h with h1 h2; subst h1; subst h2; exact clamp8_tri
  · cases h
def gng : Nat → Option Con := fun f => match f with
  | 58 => some clamp8C
  | _ => none
theorem gng_ok : GaOkG Tryz.prog GN gng := fun f con h => by
  unfold gng at h
  split at h
  · injection h with h; subst h; exact clamp8C_ok
  · cases h
theorem point8_tri (u : List UInt8) : TriG Tryz.prog GN 30 [.one (.str []), .one (.str u)] [] (.tup [.one (.str []), .one (.bo false)]) [] := by
  refine tri_ofx (envNK_ok gng_ok 27 []) Tryz.func30 rfl rfl (rs := [.tmp 4, .tmp 5]) rfl rfl (by simp [envNK]) rfl ?_
  simp only [envNK, con0, conS, strsOf_arr, rowS_arr, strsOf_cells, rowS_cells, toS, strL_st, strL_d, strL_enc, strL_up, hpN_nil, hpN_cons, gng, clamp8C, go_sem]
  repeat' apply And.intro
  rotate_right
  · refine endX [] ?_
    simp only [envNK, con0, conS, strsOf_arr, rowS_arr, strsOf_cells, rowS_cells, toS, strL_st, strL_d, strL_enc, strL_up, hpN_nil, hpN_cons, gng, clamp8C, go_sem]
  all_goals first | omega | exact rfl | exact id
def point8C : Con := con0 fun args => match args with
  | [.one (.str []), .one (.str u)] => some (.tup [.one (.str []), .one (.bo false)], [])
  | _ => none
theorem point8C_ok : ConOkG Tryz.prog GN 30 point8C := con0_okG Tryz.func30 rfl rfl fun args res ob h hob => by
  split at h
  · injection h with h; injection h with h1 h2; subst h1; subst h2; exact point8_tri _
  · cases h
def gnh : Nat → Option Con := fun f => match f with
  | 30 => some point8C
  | _ => none
theorem gnh_ok : GaOkG Tryz.prog GN gnh := fun f con h => by
  unfold gnh at h
  split at h
  · injection h with h; subst h; exact point8C_ok
  · cases h
theorem box8_tri (u s : List UInt8) : TriG Tryz.prog GN 9 [.one (.str u), .one (.str []), .one (.str s)] [] (.tup [.one (.str []), .one (.num 1)]) [] := by
  refine tri_ofx (envNK_ok gnh_ok 56 []) Tryz.func9 rfl rfl (rs := [.tmp 6, .tmp 7]) rfl rfl (by simp [envNK]) rfl ?_
  simp only [envNK, con0, conS, strsOf_arr, rowS_arr, strsOf_cells, rowS_cells, toS, strL_st, strL_d, strL_enc, strL_up, hpN_nil, hpN_cons, gnh, point8C, go_sem]
  repeat' apply And.intro
  rotate_right
  · refine endX [] ?_
    simp only [envNK, con0, conS, strsOf_arr, rowS_arr, strsOf_cells, rowS_cells, toS, strL_st, strL_d, strL_enc, strL_up, hpN_nil, hpN_cons, gnh, point8C, go_sem]
  all_goals first | omega | exact rfl | exact id
def box8C : Con := con0 fun args => match args with
  | [.one (.str u), .one (.str []), .one (.str s)] => some (.tup [.one (.str []), .one (.num 1)], [])
  | _ => none
theorem box8C_ok : ConOkG Tryz.prog GN 9 box8C := con0_okG Tryz.func9 rfl rfl fun args res ob h hob => by
  split at h
  · injection h with h; injection h with h1 h2; subst h1; subst h2; exact box8_tri _ _
  · cases h
def gni : Nat → Option Con := fun f => match f with
  | 27 => some padC
  | 28 => some unpadC
  | 9 => some box8C
  | 29 => some classC
  | _ => none
theorem gni_ok : GaOkG Tryz.prog GN gni := fun f con h => by
  unfold gni at h
  split at h
  · injection h with h; subst h; exact padC_ok
  · injection h with h; subst h; exact unpadC_ok
  · injection h with h; subst h; exact box8C_ok
  · injection h with h; subst h; exact classC_ok
  · cases h
set_option maxRecDepth 100000 in
theorem awake08_tri : TriG Tryz.prog GN 8 [] [] (.c (.one (.bo true))) [] := by
  refine tri_ofx (envNK_ok gni_ok 43 []) Tryz.func8 rfl rfl (rs := [.tmp 0]) rfl rfl (by simp [envNK]) rfl ?_
  have hp : padV [109, 97, 105, 108] = .tup [.one (.str (padL [109, 97, 105, 108])), .one (.num 0)] := rfl
  obtain ⟨u1, u2, u3, u4, u5⟩ := unpad_pad (s := [109, 97, 105, 108]) (by decide)
  have hc4 : cls (([109, 97, 105, 108] : List UInt8).length : Int) = 128 := by decide
  have hu : unV (padL [109, 97, 105, 108]) = .tup [.one (.str [109, 97, 105, 108]), .one (.num 0)] := by unfold unV; rw [u1, u2]; rfl
  have hlen : ((padL [109, 97, 105, 108]).length : Int) = 128 := by rw [u5, hc4]
  have hl2 : (padL [109, 97, 105, 108]).length ≤ 100000 := by omega
  have hcl : cls 127 = 256 := by decide
  generalize padL [109, 97, 105, 108] = p at hp hu hlen hl2
  simp only [envNK, con0, conS, strsOf_arr, rowS_arr, strsOf_cells, rowS_cells, toS, strL_st, strL_d, strL_enc, strL_up, hpN_nil, hpN_cons, gni, padC, unpadC, box8C, classC, hp, hu, hlen, hl2, hcl, List.length_cons, List.length_nil, go_sem]
  repeat' apply And.intro
  rotate_right
  · refine endX [] ?_
    simp only [envNK, con0, conS, strsOf_arr, rowS_arr, strsOf_cells, rowS_cells, toS, strL_st, strL_d, strL_enc, strL_up, hpN_nil, hpN_cons, gni, padC, unpadC, box8C, classC, go_sem]
  all_goals first | omega | exact rfl | exact id
def awake08C : Con := con0 fun args => match args with
  | [] => some (.c (.one (.bo true)), [])
  | _ => none
theorem awake08C_ok : ConOkG Tryz.prog GN 8 awake08C := con0_okG Tryz.func8 rfl rfl fun args res ob h hob => by
  split at h
  · injection h with h; injection h with h1 h2; subst h1; subst h2; exact awake08_tri
  · cases h
end Go.Proofs.YtahiopdkekkibaaGreatDoor.FN

/-
  Layer 8: a box made, and opened.
-/
namespace Go.Proofs.YtahiopdkekkibaaGreatDoor.FZ
open Go Go.RowKit
set_option maxHeartbeats 4000000
set_option linter.unusedSimpArgs false
set_option linter.unusedVariables false
set_option linter.unusedSectionVars false
noncomputable abbrev GZ : List GFact := FH.GS
noncomputable def envZ (ga : Nat → Option Con) (nt : Nat) : Env := ⟨ty, ga, [], nt, [], GZ⟩
theorem envZ_ok {ga : Nat → Option Con} (h : GaOkG Tryz.prog GZ ga) (nt : Nat) : EnvOk Tryz.prog (envZ ga nt) := ⟨ty_ok, h, by first | rfl | decide⟩
noncomputable def envZK (ga : Nat → Option Con) (nt : Nat) (keys : List Nat) : Env := ⟨ty, ga, [], nt, keys, GZ⟩
theorem envZK_ok {ga : Nat → Option Con} (h : GaOkG Tryz.prog GZ ga) (nt : Nat) (keys : List Nat) : EnvOk Tryz.prog (envZK ga nt keys) := ⟨ty_ok, h, by first | rfl | decide⟩
def zPoint : Con := FK.pointC
theorem zPoint_ok : ConOkG Tryz.prog GZ 30 zPoint := ConOk.up FK.pointC_ok
def zPublic : Con := FK.publicC
theorem zPublic_ok : ConOkG Tryz.prog GZ 31 zPublic := ConOk.up FK.publicC_ok
def zSeal : Con := FC.sealC
theorem zSeal_ok : ConOkG Tryz.prog GZ 33 zSeal := ConOk.up FC.sealC_ok
def zOpen : Con := FC.openC
theorem zOpen_ok : ConOkG Tryz.prog GZ 39 zOpen := ConOk.up FC.openC_ok
def zPad : Con := FN.padC
theorem zPad_ok : ConOkG Tryz.prog GZ 27 zPad := ConOk.up FN.padC_ok
def zUnpad : Con := FN.unpadC
theorem zUnpad_ok : ConOkG Tryz.prog GZ 28 zUnpad := ConOk.up FN.unpadC_ok
def zDraw : Con := FH.drawC
theorem zDraw_ok : ConOkG Tryz.prog GZ 63 zDraw := FH.drawC_ok
def mailP : List UInt8 := [109, 97, 105, 108]
def drawn (sh se pu : List UInt8) : List UInt8 := FH.drawD sh (se ++ pu) mailP 44
theorem drawD_len (a b c : List UInt8) (z : Nat) : (FH.drawD a b c z).length = z := by
  unfold FH.drawD
  rw [List.length_take, FH.outD_len]; omega
def kK (sh se pu : List UInt8) : List UInt8 := (drawn sh se pu).take 32
def kN (sh se pu : List UInt8) : List UInt8 := (drawn sh se pu).drop 32
theorem kK_len (sh se pu : List UInt8) : (kK sh se pu).length = 32 := by unfold kK drawn; rw [List.length_take, drawD_len]; decide
theorem kN_len (sh se pu : List UInt8) : (kN sh se pu).length = 12 := by unfold kN drawn; rw [List.length_drop, drawD_len]
theorem right_k (sh se pu : List UInt8) : FC.rightB (kK sh se pu) (kN sh se pu) = true := by
  unfold FC.rightB
  rw [kK_len, kN_len]; rfl
def za1 : Nat → Option Con := fun f => match f with
  | 63 => some zDraw
  | _ => none
theorem za1_ok : GaOkG Tryz.prog GZ za1 := fun f con h => by
  unfold za1 at h
  split at h
  · injection h with h; subst h; exact zDraw_ok
  · cases h
set_option maxRecDepth 100000 in
theorem keys_tri (sh se pu : List UInt8) (h1 : sh.length = 32) (h2 : se.length = 32) (h3 : pu.length = 32) : TriG Tryz.prog GZ 32 [.one (.str sh), .one (.str se), .one (.str pu)] [] (.tup [.one (.str (kK sh se pu)), .one (.str (kN sh se pu))]) [] := by
  have hl : (se ++ pu).length = 64 := by rw [List.length_append]; omega
  have hd : FH.drawV sh (se ++ pu) [109, 97, 105, 108] 44 = .tup [.one (.str (drawn sh se pu)), .one (.num 0)] := by unfold FH.drawV; rw [if_pos (by decide)]; rfl
  have hdl : (drawn sh se pu).length = 44 := drawD_len _ _ _ _
  have e1 : (drawn sh se pu).take 32 = kK sh se pu := rfl
  have e2 : (drawn sh se pu).drop 32 = kN sh se pu := rfl
  have e3 : (kN sh se pu).take 12 = kN sh se pu := List.take_of_length_le (Nat.le_of_eq (kN_len sh se pu))
  refine tri_ofx (envZK_ok za1_ok 22 []) Tryz.func32 rfl rfl (rs := [.tmp 6, .tmp 7]) rfl rfl (by simp [envZK]) rfl ?_
  simp only [hd, hdl, hl, e1, e2, e3, envZK, con0, conS, strsOf_arr, rowS_arr, strsOf_cells, rowS_cells, toS, strL_st, strL_d, strL_enc, strL_up, hpN_nil, hpN_cons, za1, zDraw, FH.drawC, retQx, go_sem]
  repeat' apply And.intro
  all_goals first
    | omega
    | (show ckDraw _; rfl)
    | skip
  refine endX [] ?_
  simp only [e1, e2, e3, envZK, con0, conS, strsOf_arr, rowS_arr, strsOf_cells, rowS_cells, toS, strL_st, strL_d, strL_enc, strL_up, hpN_nil, hpN_cons, za1, zDraw, retQx, go_sem]
  all_goals first
    | trivial
    | rfl
    | trace_state
def keysC : Con := con0 fun args => match args with
  | [.one (.str sh), .one (.str se), .one (.str pu)] => some (.tup [.one (.str (kK sh se pu)), .one (.str (kN sh se pu))], [sh.length = 32, se.length = 32, pu.length = 32])
  | _ => none
theorem keysC_ok : ConOkG Tryz.prog GZ 32 keysC := con0_okG Tryz.func32 rfl rfl fun args res ob h hob => by
  split at h
  · injection h with h; injection h with h1 h2; subst h1; subst h2; exact keys_tri _ _ _ hob.1 hob.2.1 hob.2.2.1
  · cases h
def boxL (pub once s : List UInt8) : List UInt8 := FK.pointS once FK.base9 ++ FC.sealL (kK (FK.pointS once pub) (FK.pointS once FK.base9) pub) (kN (FK.pointS once pub) (FK.pointS once FK.base9) pub) [] (FN.padL s)
def boxV (pub once s : List UInt8) : SV := if once.length = 32 ∧ pub.length = 32 then if s.length ≤ 700 then .tup [.one (.str (boxL pub once s)), .one (.num 0)] else .tup [.one (.str []), .one (.num 4)] else .tup [.one (.str []), .one (.num 1)]
def za2 : Nat → Option Con := fun f => match f with
  | 30 => some zPoint
  | 31 => some zPublic
  | 27 => some zPad
  | 32 => some keysC
  | 33 => some zSeal
  | _ => none
theorem za2_ok : GaOkG Tryz.prog GZ za2 := fun f con h => by
  unfold za2 at h
  split at h
  · injection h with h; subst h; exact zPoint_ok
  · injection h with h; subst h; exact zPublic_ok
  · injection h with h; subst h; exact zPad_ok
  · injection h with h; subst h; exact keysC_ok
  · injection h with h; subst h; exact zSeal_ok
  · cases h
set_option maxRecDepth 100000 in
theorem box_tri (pub once s : List UInt8) (hs : s.length ≤ 10000) : TriG Tryz.prog GZ 9 [.one (.str pub), .one (.str once), .one (.str s)] [] (boxV pub once s) [] := by
  refine tri_ofx (envZK_ok za2_ok 56 []) Tryz.func9 rfl rfl (rs := [.tmp 6, .tmp 7]) rfl rfl (by simp [envZK]) rfl ?_
  by_cases hl : once.length = 32 ∧ pub.length = 32
  · have hp : FK.pointV once pub = .tup [.one (.str (FK.pointS once pub)), .one (.bo true)] := if_pos hl
    have hq : FK.pointV once FK.base9 = .tup [.one (.str (FK.pointS once FK.base9)), .one (.bo true)] := if_pos ⟨hl.1, rfl⟩
    have p1 := FK.pointS_len once pub
    have p2 := FK.pointS_len once FK.base9
    obtain ⟨hl1, hl2⟩ := hl
    by_cases h7 : s.length ≤ 700
    · have hd : FN.padV s = .tup [.one (.str (FN.padL s)), .one (.num 0)] := if_pos h7
      obtain ⟨-, -, -, d1, -⟩ := FN.unpad_pad h7
      have hv : boxV pub once s = .tup [.one (.str (boxL pub once s)), .one (.num 0)] := by unfold boxV; rw [if_pos ⟨hl1, hl2⟩, if_pos h7]
      have hr := right_k (FK.pointS once pub) (FK.pointS once FK.base9) pub
      have e1 : FK.pointS once FK.base9 ++ FC.sealL (kK (FK.pointS once pub) (FK.pointS once FK.base9) pub) (kN (FK.pointS once pub) (FK.pointS once FK.base9) pub) [] (FN.padL s) = boxL pub once s := rfl
      simp only [hv, hp, hq, hd, hr, if_true, e1, p1, p2, hl2, beq_self_eq_true, envZK, con0, conS, strsOf_arr, rowS_arr, strsOf_cells, rowS_cells, toS, strL_st, strL_d, strL_enc, strL_up, hpN_nil, hpN_cons, za2, zPoint, FK.pointC, zPublic, FK.publicC, zPad, FN.padC, keysC, zSeal, FC.sealC, FK.pointC, FK.publicC, FN.padC, FC.sealC, retQx, go_sem]
      repeat' apply And.intro
      all_goals first
        | omega
        | (simp only [FC.sealL_len]; omega)
        | (show ckDraw _; rfl)
        | skip
      refine endX [] ?_
      simp only [e1, envZK, con0, conS, strsOf_arr, rowS_arr, strsOf_cells, rowS_cells, toS, strL_st, strL_d, strL_enc, strL_up, hpN_nil, hpN_cons, za2, zPoint, FK.pointC, zPublic, FK.publicC, zPad, FN.padC, keysC, zSeal, FC.sealC, retQx, go_sem]
      all_goals first
        | trivial
        | rfl
        | trace_state
    · have hd : FN.padV s = .tup [.one (.str []), .one (.num 4)] := if_neg h7
      have hv : boxV pub once s = .tup [.one (.str []), .one (.num 4)] := by unfold boxV; rw [if_pos ⟨hl1, hl2⟩, if_neg h7]
      simp only [hv, hp, hd, envZK, con0, conS, strsOf_arr, rowS_arr, strsOf_cells, rowS_cells, toS, strL_st, strL_d, strL_enc, strL_up, hpN_nil, hpN_cons, za2, zPoint, FK.pointC, zPublic, FK.publicC, zPad, FN.padC, keysC, zSeal, FC.sealC, FK.pointC, FK.publicC, FN.padC, retQx, go_sem]
      repeat' apply And.intro
      all_goals first
        | omega
        | (show ckDraw _; rfl)
        | skip
      refine endX [] ?_
      simp only [envZK, con0, conS, strsOf_arr, rowS_arr, strsOf_cells, rowS_cells, toS, strL_st, strL_d, strL_enc, strL_up, hpN_nil, hpN_cons, za2, zPoint, FK.pointC, zPublic, FK.publicC, zPad, FN.padC, keysC, zSeal, FC.sealC, retQx, go_sem]
      all_goals first
        | trivial
        | rfl
        | trace_state
  · have hp : FK.pointV once pub = .tup [.one (.str []), .one (.bo false)] := if_neg hl
    have hv : boxV pub once s = .tup [.one (.str []), .one (.num 1)] := if_neg hl
    simp only [hv, hp, envZK, con0, conS, strsOf_arr, rowS_arr, strsOf_cells, rowS_cells, toS, strL_st, strL_d, strL_enc, strL_up, hpN_nil, hpN_cons, za2, zPoint, FK.pointC, zPublic, FK.publicC, zPad, FN.padC, keysC, zSeal, FC.sealC, FK.pointC, retQx, go_sem]
    repeat' apply And.intro
    all_goals first
      | omega
      | (show ckDraw _; rfl)
      | skip
    refine endX [] ?_
    simp only [envZK, con0, conS, strsOf_arr, rowS_arr, strsOf_cells, rowS_cells, toS, strL_st, strL_d, strL_enc, strL_up, hpN_nil, hpN_cons, za2, zPoint, FK.pointC, zPublic, FK.publicC, zPad, FN.padC, keysC, zSeal, FC.sealC, retQx, go_sem]
    all_goals first
      | trivial
      | rfl
      | trace_state
def boxC : Con := con0 fun args => match args with
  | [.one (.str pub), .one (.str once), .one (.str s)] => some (boxV pub once s, [s.length ≤ 10000])
  | _ => none
theorem boxC_ok : ConOkG Tryz.prog GZ 9 boxC := con0_okG Tryz.func9 rfl rfl fun args res ob h hob => by
  split at h
  · injection h with h; injection h with h1 h2; subst h1; subst h2; exact box_tri _ _ _ hob.1
  · cases h
def opS (prv box : List UInt8) : List UInt8 := FC.openS (kK (FK.pointS prv (box.take 32)) (box.take 32) (FK.pointS prv FK.base9)) (kN (FK.pointS prv (box.take 32)) (box.take 32) (FK.pointS prv FK.base9)) [] (box.drop 32)
def opE (prv box : List UInt8) : Int := FC.openE (kK (FK.pointS prv (box.take 32)) (box.take 32) (FK.pointS prv FK.base9)) (kN (FK.pointS prv (box.take 32)) (box.take 32) (FK.pointS prv FK.base9)) [] (box.drop 32)
def opV (prv box : List UInt8) : SV := if prv.length = 32 then if box.length < 32 then .tup [.one (.str []), .one (.num 3)] else if opE prv box = 0 then FN.unV (opS prv box) else .tup [.one (.str []), .one (.num (opE prv box))] else .tup [.one (.str []), .one (.num 1)]
def za3 : Nat → Option Con := fun f => match f with
  | 30 => some zPoint
  | 31 => some zPublic
  | 28 => some zUnpad
  | 32 => some keysC
  | 39 => some zOpen
  | _ => none
theorem za3_ok : GaOkG Tryz.prog GZ za3 := fun f con h => by
  unfold za3 at h
  split at h
  · injection h with h; subst h; exact zPoint_ok
  · injection h with h; subst h; exact zPublic_ok
  · injection h with h; subst h; exact zUnpad_ok
  · injection h with h; subst h; exact keysC_ok
  · injection h with h; subst h; exact zOpen_ok
  · cases h
set_option maxRecDepth 100000 in
theorem zopen_tri (prv box : List UInt8) (hs : box.length ≤ 10000) : TriG Tryz.prog GZ 11 [.one (.str prv), .one (.str box)] [] (opV prv box) [] := by
  refine tri_ofx (envZK_ok za3_ok 55 []) Tryz.func11 rfl rfl (rs := [.tmp 4, .tmp 5]) rfl rfl (by simp [envZK]) rfl ?_
  by_cases hl : prv.length = 32
  · have hq : FK.pointV prv FK.base9 = .tup [.one (.str (FK.pointS prv FK.base9)), .one (.bo true)] := if_pos ⟨hl, rfl⟩
    have p2 := FK.pointS_len prv FK.base9
    cases h3 : decide ((box.length : Int) < 32) with
    | true =>
      have h3' : box.length < 32 := by have := of_decide_eq_true h3; omega
      have hv : opV prv box = .tup [.one (.str []), .one (.num 3)] := by unfold opV; rw [if_pos hl, if_pos h3']
      simp only [hv, hq, h3, envZK, con0, conS, strsOf_arr, rowS_arr, strsOf_cells, rowS_cells, toS, strL_st, strL_d, strL_enc, strL_up, hpN_nil, hpN_cons, za3, zPoint, FK.pointC, zPublic, FK.publicC, zUnpad, FN.unpadC, keysC, zOpen, FC.openC, FK.publicC, retQx, go_sem]
      repeat' apply And.intro
      all_goals first
        | omega
        | (show ckDraw _; rfl)
        | skip
      refine endX [] ?_
      simp only [envZK, con0, conS, strsOf_arr, rowS_arr, strsOf_cells, rowS_cells, toS, strL_st, strL_d, strL_enc, strL_up, hpN_nil, hpN_cons, za3, zPoint, FK.pointC, zPublic, FK.publicC, zUnpad, FN.unpadC, keysC, zOpen, FC.openC, retQx, go_sem]
      all_goals first
        | trivial
        | rfl
        | trace_state
    | false =>
      have h3' : ¬ box.length < 32 := by have := of_decide_eq_false h3; omega
      have hbl : (box.take 32).length = 32 := by rw [List.length_take]; omega
      have hdl : (box.drop 32).length = box.length - 32 := List.length_drop
      have htk : (box.drop 32).take (box.length - 32) = box.drop 32 := List.take_of_length_le (by omega)
      have hp : FK.pointV prv (box.take 32) = .tup [.one (.str (FK.pointS prv (box.take 32))), .one (.bo true)] := if_pos ⟨hl, hbl⟩
      have p1 := FK.pointS_len prv (box.take 32)
      have hv0 : opV prv box = if opE prv box = 0 then FN.unV (opS prv box) else .tup [.one (.str []), .one (.num (opE prv box))] := by unfold opV; rw [if_pos hl, if_neg h3']
      have e1 : FC.openS (kK (FK.pointS prv (box.take 32)) (box.take 32) (FK.pointS prv FK.base9)) (kN (FK.pointS prv (box.take 32)) (box.take 32) (FK.pointS prv FK.base9)) [] (box.drop 32) = opS prv box := rfl
      have e2 : FC.openE (kK (FK.pointS prv (box.take 32)) (box.take 32) (FK.pointS prv FK.base9)) (kN (FK.pointS prv (box.take 32)) (box.take 32) (FK.pointS prv FK.base9)) [] (box.drop 32) = opE prv box := rfl
      by_cases hE : opE prv box = 0
      · obtain ⟨-, -, hle⟩ := FC.seal_open _ _ _ _ (show FC.openE _ _ _ _ = 0 from hE)
        have hle' : (opS prv box).length ≤ 10000 := by
          have : (opS prv box).length + 16 = (box.drop 32).length := hle
          omega
        cases hu : FN.unOk (opS prv box) with
        | true =>
          have hw : FN.unV (opS prv box) = .tup [.one (.str (FN.upT (opS prv box))), .one (.num 0)] := by unfold FN.unV; rw [hu]; rfl
          have hv : opV prv box = .tup [.one (.str (FN.upT (opS prv box))), .one (.num 0)] := by rw [hv0, if_pos hE, hw]
          simp only [hv, hq, hp, h3, hbl, hdl, htk, p1, p2, e1, e2, hE, hw, beq_self_eq_true, envZK, con0, conS, strsOf_arr, rowS_arr, strsOf_cells, rowS_cells, toS, strL_st, strL_d, strL_enc, strL_up, hpN_nil, hpN_cons, za3, zPoint, FK.pointC, zPublic, FK.publicC, zUnpad, FN.unpadC, keysC, zOpen, FC.openC, FK.publicC, FK.pointC, FC.openC, FN.unpadC, retQx, go_sem]
          repeat' apply And.intro
          all_goals first
            | omega
            | (show ckDraw _; rfl)
            | skip
          refine endX [] ?_
          simp only [envZK, con0, conS, strsOf_arr, rowS_arr, strsOf_cells, rowS_cells, toS, strL_st, strL_d, strL_enc, strL_up, hpN_nil, hpN_cons, za3, zPoint, FK.pointC, zPublic, FK.publicC, zUnpad, FN.unpadC, keysC, zOpen, FC.openC, retQx, go_sem]
          all_goals first
            | trivial
            | rfl
            | trace_state
        | false =>
          have hw : FN.unV (opS prv box) = .tup [.one (.str []), .one (.num 3)] := by unfold FN.unV; rw [hu]; rfl
          have hv : opV prv box = .tup [.one (.str []), .one (.num 3)] := by rw [hv0, if_pos hE, hw]
          simp only [hv, hq, hp, h3, hbl, hdl, htk, p1, p2, e1, e2, hE, hw, beq_self_eq_true, envZK, con0, conS, strsOf_arr, rowS_arr, strsOf_cells, rowS_cells, toS, strL_st, strL_d, strL_enc, strL_up, hpN_nil, hpN_cons, za3, zPoint, FK.pointC, zPublic, FK.publicC, zUnpad, FN.unpadC, keysC, zOpen, FC.openC, FK.publicC, FK.pointC, FC.openC, FN.unpadC, retQx, go_sem]
          repeat' apply And.intro
          all_goals first
            | omega
            | (show ckDraw _; rfl)
            | skip
          refine endX [] ?_
          simp only [envZK, con0, conS, strsOf_arr, rowS_arr, strsOf_cells, rowS_cells, toS, strL_st, strL_d, strL_enc, strL_up, hpN_nil, hpN_cons, za3, zPoint, FK.pointC, zPublic, FK.publicC, zUnpad, FN.unpadC, keysC, zOpen, FC.openC, retQx, go_sem]
          all_goals first
            | trivial
            | rfl
            | trace_state
      · have hv : opV prv box = .tup [.one (.str []), .one (.num (opE prv box))] := by rw [hv0, if_neg hE]
        have hb : (opE prv box == 0) = false := by rw [beq_eq_false_iff_ne]; exact hE
        simp only [hv, hq, hp, h3, hbl, hdl, htk, p1, p2, e1, e2, hb, envZK, con0, conS, strsOf_arr, rowS_arr, strsOf_cells, rowS_cells, toS, strL_st, strL_d, strL_enc, strL_up, hpN_nil, hpN_cons, za3, zPoint, FK.pointC, zPublic, FK.publicC, zUnpad, FN.unpadC, keysC, zOpen, FC.openC, FK.publicC, FK.pointC, FC.openC, FN.unpadC, retQx, go_sem]
        repeat' apply And.intro
        all_goals first
          | omega
          | (show ckDraw _; rfl)
          | skip
        refine endX [] ?_
        simp only [envZK, con0, conS, strsOf_arr, rowS_arr, strsOf_cells, rowS_cells, toS, strL_st, strL_d, strL_enc, strL_up, hpN_nil, hpN_cons, za3, zPoint, FK.pointC, zPublic, FK.publicC, zUnpad, FN.unpadC, keysC, zOpen, FC.openC, retQx, go_sem]
        all_goals first
          | trivial
          | rfl
          | trace_state
  · have hq : FK.pointV prv FK.base9 = .tup [.one (.str []), .one (.bo false)] := if_neg fun h => hl h.1
    have hv : opV prv box = .tup [.one (.str []), .one (.num 1)] := if_neg hl
    simp only [hv, hq, envZK, con0, conS, strsOf_arr, rowS_arr, strsOf_cells, rowS_cells, toS, strL_st, strL_d, strL_enc, strL_up, hpN_nil, hpN_cons, za3, zPoint, FK.pointC, zPublic, FK.publicC, zUnpad, FN.unpadC, keysC, zOpen, FC.openC, FK.publicC, retQx, go_sem]
    repeat' apply And.intro
    all_goals first
      | omega
      | (show ckDraw _; rfl)
      | skip
    refine endX [] ?_
    simp only [envZK, con0, conS, strsOf_arr, rowS_arr, strsOf_cells, rowS_cells, toS, strL_st, strL_d, strL_enc, strL_up, hpN_nil, hpN_cons, za3, zPoint, FK.pointC, zPublic, FK.publicC, zUnpad, FN.unpadC, keysC, zOpen, FC.openC, retQx, go_sem]
    all_goals first
      | trivial
      | rfl
      | trace_state
def zopenC : Con := con0 fun args => match args with
  | [.one (.str prv), .one (.str box)] => some (opV prv box, [box.length ≤ 10000])
  | _ => none
theorem zopenC_ok : ConOkG Tryz.prog GZ 11 zopenC := con0_okG Tryz.func11 rfl rfl fun args res ob h hob => by
  split at h
  · injection h with h; injection h with h1 h2; subst h1; subst h2; exact zopen_tri _ _ hob.1
  · cases h
end Go.Proofs.YtahiopdkekkibaaGreatDoor.FZ

/-
  Layer 8: the laws SealBack and SealSizes.
-/
namespace Go.Proofs.YtahiopdkekkibaaGreatDoor.FZ
open Go Go.RowKit Go.ChangeShapes
set_option maxHeartbeats 4000000
set_option linter.unusedSimpArgs false
set_option linter.unusedVariables false
set_option linter.unusedSectionVars false
def zAwake : Con := FN.awake08C
theorem zAwake_ok : ConOkG Tryz.prog GZ 8 zAwake := ConOk.up FN.awake08C_ok
theorem gl_z {W : World} (hsh : W.ShapedOpen Tryz.prog) (hL : laidMetH Tryz.prog [("mailsack/sha.constants", Rows.laid_mailsack_sha_constants), ("unicode/utf8.acceptRanges", Rows.laid_unicode_utf8_acceptRanges), ("unicode/utf8.first", Rows.laid_unicode_utf8_first)] W) : ∀ f ∈ GZ, f.p W := by
  rw [MakeChecks.laidMetH_plain _ _ _ (by kernel_rfl)] at hL
  have h' : laidMet Tryz.prog (("mailsack/sha.constants", Lib.tabData .u32 (FH.kL.map fun x => (x.toNat : Int))) :: _ :: _ :: []) W := hL
  have ht := Lib.tabIs_of_head (P := Tryz.prog) (k := .u32) (t := 188) (e := 97) (n := 64) (g := 0) (by kernel_rfl) (by kernel_rfl) Tryz.underlying188 Tryz.underlying97 (by kernel_rfl) (by kernel_rfl) h'
  intro f hf
  simp only [GZ, FH.GS, List.mem_cons, List.not_mem_nil, or_false] at hf
  subst hf
  exact ht
end Go.Proofs.YtahiopdkekkibaaGreatDoor.FZ

/-
  Digits, and rows of them handed over and handed back. It speaks of no program.
-/
namespace Go.Proofs.YtahiopdkekkibaaGreatDoor.FK
open Go Go.RowKit
set_option maxHeartbeats 4000000
set_option linter.unusedSimpArgs false
set_option linter.unusedVariables false
/-- Digits to a base, the lowest first. -/
def dv (B : Nat) : List Nat → Nat
  | [] => 0
  | x :: l => x + B * dv B l
def dlt (B : Nat) (l : List Nat) : Prop := ∀ i, l.getD i 0 < B
theorem dv_append (B : Nat) : ∀ (a b : List Nat), dv B (a ++ b) = dv B a + B ^ a.length * dv B b
  | [], b => by simp [dv]
  | x :: a, b => by
    rw [List.cons_append, dv, dv, dv_append B a b, List.length_cons, Nat.pow_succ]
    grind
theorem dv_take (B : Nat) : ∀ (l : List Nat) (i : Nat), dv B (l.take (i + 1)) = dv B (l.take i) + l.getD i 0 * B ^ i
  | [], i => by simp [dv]
  | x :: l, 0 => by simp [dv]
  | x :: l, i + 1 => by
    rw [List.take_succ_cons, List.take_succ_cons, dv, dv, dv_take B l i, List.getD_cons_succ, Nat.pow_succ]
    grind
theorem dv_all (B : Nat) (l : List Nat) (n : Nat) (h : l.length ≤ n) : dv B (l.take n) = dv B l := by rw [List.take_of_length_le h]
theorem dlt_cons {B x : Nat} {l : List Nat} (h : dlt B (x :: l)) : x < B ∧ dlt B l := ⟨h 0, fun i => h (i + 1)⟩
theorem dlt_nil {B : Nat} (hB : 0 < B) : dlt B [] := fun i => by simpa using hB
theorem dlt_mk {B x : Nat} {l : List Nat} (h : x < B) (hl : dlt B l) : dlt B (x :: l)
  | 0 => h
  | i + 1 => hl i
theorem dlt_append {B : Nat} : ∀ {a b : List Nat}, dlt B a → dlt B b → dlt B (a ++ b)
  | [], _, _, h => h
  | _ :: _, _, h, h' => dlt_mk (dlt_cons h).1 (dlt_append (dlt_cons h).2 h')
theorem dlt_set {B : Nat} {l : List Nat} (h : dlt B l) (i v : Nat) (hv : v < B) : dlt B (l.set i v) := fun j => by
  rw [List.getD_eq_getElem?_getD, List.getElem?_set]
  split
  · split
    · simpa using hv
    · simp; omega
  · rw [← List.getD_eq_getElem?_getD]; exact h j
theorem dv_lt {B : Nat} (hB : 0 < B) : ∀ {l : List Nat}, dlt B l → dv B l < B ^ l.length
  | [], _ => by simp [dv]
  | x :: l, h => by
    obtain ⟨h1, h2⟩ := dlt_cons h
    have ih := dv_lt hB h2
    rw [dv, List.length_cons, Nat.pow_succ]
    have : B * dv B l + B ≤ B * B ^ l.length := by rw [← Nat.mul_succ]; exact Nat.mul_le_mul_left B ih
    rw [Nat.mul_comm (B ^ l.length)]
    omega
-- SUMS
def addG (B : Nat) (a b : List Nat) : Nat → List Nat × Nat
  | 0 => ([], 0)
  | i + 1 => ((addG B a b i).1 ++ [((addG B a b i).2 + a.getD i 0 + b.getD i 0) % B], ((addG B a b i).2 + a.getD i 0 + b.getD i 0) / B)
theorem addG_len (B : Nat) (a b : List Nat) : ∀ i, (addG B a b i).1.length = i
  | 0 => rfl
  | i + 1 => by rw [addG, List.length_append, addG_len B a b i]; rfl
theorem addG_car {B : Nat} (hB : 1 < B) {a b : List Nat} (ha : dlt B a) (hb : dlt B b) : ∀ i, (addG B a b i).2 ≤ 1
  | 0 => Nat.zero_le _
  | i + 1 => by
    have ih := addG_car hB ha hb i
    have h1 := ha i
    have h2 := hb i
    rw [addG]
    show _ / B ≤ 1
    rw [Nat.div_le_iff_le_mul (by omega)]
    omega
theorem addG_lt {B : Nat} (hB : 0 < B) (a b : List Nat) : ∀ i, dlt B (addG B a b i).1
  | 0 => dlt_nil hB
  | i + 1 => dlt_append (addG_lt hB a b i) (dlt_mk (Nat.mod_lt _ hB) (dlt_nil hB))
theorem addG_v (B : Nat) (a b : List Nat) : ∀ i, dv B (addG B a b i).1 + (addG B a b i).2 * B ^ i = dv B (a.take i) + dv B (b.take i)
  | 0 => by simp [addG, dv]
  | i + 1 => by
    have ih := addG_v B a b i
    have hm := Nat.mod_add_div ((addG B a b i).2 + a.getD i 0 + b.getD i 0) B
    rw [dv_take, dv_take, addG]
    simp only
    rw [dv_append, addG_len]
    simp only [dv, Nat.mul_zero, Nat.add_zero]
    rw [Nat.pow_succ]
    generalize B ^ i = Q at *
    generalize (addG B a b i).2 = c at *
    generalize dv B (addG B a b i).1 = L at *
    generalize a.getD i 0 = x at *
    generalize b.getD i 0 = y at *
    generalize dv B (a.take i) = V at *
    generalize dv B (b.take i) = W at *
    generalize (c + x + y) % B = m at *
    generalize (c + x + y) / B = d at *
    have e : Q * m + d * (Q * B) = Q * (c + x + y) := by rw [← hm]; grind
    rw [Nat.add_assoc, e]
    grind
def addLen (B : Nat) (a b : List Nat) : Nat := if (addG B a b (max a.length b.length)).2 = 0 then max a.length b.length else max a.length b.length + 1
def addL (B : Nat) (a b : List Nat) : List Nat := (addG B a b (addLen B a b)).1
theorem addL_len (B : Nat) (a b : List Nat) : (addL B a b).length = addLen B a b := addG_len _ _ _ _
theorem addLen_car {B : Nat} (hB : 1 < B) {a b : List Nat} (ha : dlt B a) (hb : dlt B b) : (addG B a b (addLen B a b)).2 = 0 := by
  unfold addLen
  split
  · assumption
  · have h1 := addG_car hB ha hb (max a.length b.length)
    rw [addG]
    simp only [List.getD_eq_getElem?_getD, List.getElem?_eq_none (Nat.le_max_left a.length b.length), List.getElem?_eq_none (Nat.le_max_right a.length b.length), Option.getD_none, Nat.add_zero]
    exact Nat.div_eq_of_lt (by omega)
theorem addL_v {B : Nat} (hB : 1 < B) {a b : List Nat} (ha : dlt B a) (hb : dlt B b) : dv B (addL B a b) = dv B a + dv B b := by
  have h := addG_v B a b (addLen B a b)
  rw [addLen_car hB ha hb, Nat.zero_mul, Nat.add_zero] at h
  have h1 : a.length ≤ addLen B a b ∧ b.length ≤ addLen B a b := by unfold addLen; split <;> omega
  rw [dv_all B a _ h1.1, dv_all B b _ h1.2] at h
  exact h
theorem addL_lt {B : Nat} (hB : 0 < B) (a b : List Nat) : dlt B (addL B a b) := addG_lt hB a b _
theorem addLen_bd (B : Nat) (a b : List Nat) : max a.length b.length ≤ addLen B a b ∧ addLen B a b ≤ max a.length b.length + 1 := by unfold addLen; split <;> omega
-- PRODUCTS
def mulIn (B : Nat) (l b : List Nat) (x i : Nat) : Nat → List Nat × Nat
  | 0 => (l, 0)
  | k + 1 => ((mulIn B l b x i k).1.set (i + k) (((mulIn B l b x i k).1.getD (i + k) 0 + x * b.getD k 0 + (mulIn B l b x i k).2) % B), ((mulIn B l b x i k).1.getD (i + k) 0 + x * b.getD k 0 + (mulIn B l b x i k).2) / B)
def mulOut (B : Nat) (a b : List Nat) : Nat → List Nat
  | 0 => List.replicate (a.length + b.length) 0
  | i + 1 => (mulIn B (mulOut B a b i) b (a.getD i 0) i b.length).1.set (i + b.length) ((mulIn B (mulOut B a b i) b (a.getD i 0) i b.length).1.getD (i + b.length) 0 + (mulIn B (mulOut B a b i) b (a.getD i 0) i b.length).2)
theorem mulIn_len (B : Nat) (l b : List Nat) (x i : Nat) : ∀ k, (mulIn B l b x i k).1.length = l.length
  | 0 => rfl
  | k + 1 => by rw [mulIn, List.length_set, mulIn_len B l b x i k]
theorem mulOut_len (B : Nat) (a b : List Nat) : ∀ i, (mulOut B a b i).length = a.length + b.length
  | 0 => by rw [mulOut, List.length_replicate]
  | i + 1 => by rw [mulOut, List.length_set, mulIn_len, mulOut_len B a b i]
theorem dv_set (B : Nat) : ∀ (l : List Nat) (i v : Nat), i < l.length → dv B (l.set i v) + l.getD i 0 * B ^ i = dv B l + v * B ^ i
  | [], i, v, h => by simp at h
  | x :: l, 0, v, h => by simp [dv]; omega
  | x :: l, i + 1, v, h => by
    have ih := dv_set B l i v (by simpa using h)
    rw [List.set_cons_succ, dv, dv, List.getD_cons_succ, Nat.pow_succ]
    have := congrArg (B * ·) ih
    simp only [Nat.mul_add] at this
    grind
theorem mulIn_v (B : Nat) (l b : List Nat) (x i : Nat) : ∀ k, i + k ≤ l.length → dv B (mulIn B l b x i k).1 + (mulIn B l b x i k).2 * B ^ (i + k) = dv B l + x * B ^ i * dv B (b.take k)
  | 0, _ => by simp [mulIn, dv]
  | k + 1, h => by
    have ih := mulIn_v B l b x i k (by omega)
    have hs := dv_set B (mulIn B l b x i k).1 (i + k) (((mulIn B l b x i k).1.getD (i + k) 0 + x * b.getD k 0 + (mulIn B l b x i k).2) % B) (by rw [mulIn_len]; omega)
    have hm := Nat.mod_add_div ((mulIn B l b x i k).1.getD (i + k) 0 + x * b.getD k 0 + (mulIn B l b x i k).2) B
    rw [dv_take, mulIn]
    simp only
    rw [show i + (k + 1) = i + k + 1 by omega, Nat.pow_succ]
    rw [Nat.pow_add] at *
    generalize B ^ i = Q at *
    generalize B ^ k = R at *
    generalize dv B (mulIn B l b x i k).1 = L at *
    generalize (mulIn B l b x i k).1.getD (i + k) 0 = y at *
    generalize (mulIn B l b x i k).2 = c at *
    generalize b.getD k 0 = z at *
    generalize dv B (b.take k) = V at *
    generalize (y + x * z + c) % B = m at *
    generalize (y + x * z + c) / B = d at *
    generalize dv B ((mulIn B l b x i k).1.set (i + k) m) = L' at *
    have e : m * (Q * R) + d * (Q * R * B) = (y + x * z + c) * (Q * R) := by rw [← hm]; grind
    have e2 : (y + x * z + c) * (Q * R) = y * (Q * R) + x * Q * (z * R) + c * (Q * R) := by grind
    have e3 : x * Q * (V + z * R) = x * Q * V + x * Q * (z * R) := by grind
    rw [e3]
    omega
theorem mulOut_v (B : Nat) (a b : List Nat) : ∀ i, i ≤ a.length → dv B (mulOut B a b i) = dv B (a.take i) * dv B b
  | 0, _ => by
    have : ∀ n, dv B (List.replicate n 0) = 0 := fun n => by
      induction n with
      | zero => rfl
      | succ n ih => rw [List.replicate_succ, dv, ih]; rfl
    simp [mulOut, this, dv]
  | i + 1, h => by
    have ih := mulOut_v B a b i (by omega)
    have h1 := mulIn_v B (mulOut B a b i) b (a.getD i 0) i b.length (by rw [mulOut_len]; omega)
    rw [dv_all B b _ (Nat.le_refl _), ih] at h1
    have hs := dv_set B (mulIn B (mulOut B a b i) b (a.getD i 0) i b.length).1 (i + b.length) ((mulIn B (mulOut B a b i) b (a.getD i 0) i b.length).1.getD (i + b.length) 0 + (mulIn B (mulOut B a b i) b (a.getD i 0) i b.length).2) (by rw [mulIn_len, mulOut_len]; omega)
    rw [dv_take, mulOut, Nat.add_mul]
    rw [Nat.add_mul] at hs
    have e : a.getD i 0 * B ^ i * dv B b = a.getD i 0 * B ^ i * dv B b := rfl
    omega
theorem mulIn_far (B : Nat) (l b : List Nat) (x i : Nat) : ∀ k j, i + k ≤ j → (mulIn B l b x i k).1.getD j 0 = l.getD j 0
  | 0, _, _ => rfl
  | k + 1, j, h => by
    rw [mulIn]
    simp only
    rw [List.getD_eq_getElem?_getD, List.getElem?_set_ne (by omega), ← List.getD_eq_getElem?_getD]
    exact mulIn_far B l b x i k j (by omega)
theorem mulIn_lt {B : Nat} (hB : 1 < B) {l b : List Nat} (hl : dlt B l) (hb : dlt B b) {x : Nat} (hx : x < B) (i : Nat) : ∀ k, dlt B (mulIn B l b x i k).1 ∧ (mulIn B l b x i k).2 < B
  | 0 => ⟨hl, by show 0 < B; omega⟩
  | k + 1 => by
    obtain ⟨h1, h2⟩ := mulIn_lt hB hl hb hx i k
    refine ⟨dlt_set h1 _ _ (Nat.mod_lt _ (by omega)), ?_⟩
    have h3 := h1 (i + k)
    have h4 := hb k
    have h5 : x * b.getD k 0 ≤ (B - 1) * (B - 1) := Nat.mul_le_mul (by omega) (by omega)
    rw [mulIn]
    show _ / B < B
    rw [Nat.div_lt_iff_lt_mul (by omega)]
    obtain ⟨c, rfl⟩ : ∃ c, B = c + 1 := ⟨B - 1, by omega⟩
    simp only [Nat.add_sub_cancel] at h5
    have : (c + 1) * (c + 1) = c * c + 2 * c + 1 := by grind
    omega
theorem mulOut_lt {B : Nat} (hB : 1 < B) {a b : List Nat} (ha : dlt B a) (hb : dlt B b) : ∀ i, i ≤ a.length → dlt B (mulOut B a b i) ∧ ∀ j, i + b.length ≤ j → (mulOut B a b i).getD j 0 = 0
  | 0, _ => by
    have : ∀ j, (List.replicate (a.length + b.length) 0).getD j 0 = 0 := fun j => by
      rw [List.getD_eq_getElem?_getD, List.getElem?_replicate]; split <;> rfl
    exact ⟨fun j => by rw [mulOut, this]; omega, fun j _ => by rw [mulOut, this]⟩
  | i + 1, h => by
    obtain ⟨h1, h2⟩ := mulOut_lt hB ha hb i (by omega)
    obtain ⟨h3, h4⟩ := mulIn_lt hB h1 hb (ha i) i b.length
    have hz := mulIn_far B (mulOut B a b i) b (a.getD i 0) i b.length (i + b.length) (Nat.le_refl _)
    rw [h2 _ (Nat.le_refl _)] at hz
    refine ⟨?_, fun j hj => ?_⟩
    · rw [mulOut, hz, Nat.zero_add]
      exact dlt_set h3 _ _ h4
    · rw [mulOut, List.getD_eq_getElem?_getD, List.getElem?_set_ne (by omega), ← List.getD_eq_getElem?_getD, mulIn_far _ _ _ _ _ _ _ (by omega)]
      exact h2 j (by omega)
def timesL (B : Nat) (a b : List Nat) : List Nat := mulOut B a b a.length
theorem timesL_len (B : Nat) (a b : List Nat) : (timesL B a b).length = a.length + b.length := mulOut_len _ _ _ _
theorem timesL_v (B : Nat) (a b : List Nat) : dv B (timesL B a b) = dv B a * dv B b := by
  rw [timesL, mulOut_v B a b _ (Nat.le_refl _), List.take_length]
theorem timesL_lt {B : Nat} (hB : 1 < B) {a b : List Nat} (ha : dlt B a) (hb : dlt B b) : dlt B (timesL B a b) := (mulOut_lt hB ha hb _ (Nat.le_refl _)).1
-- ROWS
def natL : Lay Nat where
  st := 1
  enc x := [.num (x : Int)]
  d := 0
  up x j ys := match ys with
    | [.num y] => if j = 0 then (if 0 ≤ y then some y.toNat else none) else none
    | _ => none
  toB := none
  ofB := none
  len _ := rfl
  put x j ys y h := by
    split at h
    · split at h
      · rename_i h0
        split at h
        · rename_i h1; injection h with h; subst h; subst h0; simp [Int.toNat_of_nonneg h1]
        · cases h
      · cases h
    · cases h
  plain x v h := by simp at h; subst h; trivial
  bare x v h := by simp at h; subst h; trivial
  toB_ok f h x := by cases h
  ofB_ok f h x := by cases h
theorem natL_st : natL.st = 1 := rfl
theorem natL_d : natL.d = 0 := rfl
theorem natL_enc (x : Nat) : natL.enc x = [.num (x : Int)] := rfl
theorem natL_up (x y : Nat) : natL.up x 0 [.num (y : Int)] = some y := by simp [natL]
theorem nat_flat (l : List Nat) : l.flatMap natL.enc = l.map fun n => .num (n : Int) := by
  show l.flatMap (fun x : Nat => [AV.num (x : Int)]) = _
  induction l with
  | nil => rfl
  | cons x l ih => rw [List.flatMap_cons, ih]; rfl
def toN : AV → Nat
  | .num x => x.toNat
  | _ => 0
def natsOf (o : SObj) : List Nat := o.flat.map toN
def rowOf (o : SObj) : Prop := o.live = true ∧ o.stride = 1 ∧ o.flat = (natsOf o).map fun n => .num (n : Int)
theorem natsOf_arr (l : List Nat) : natsOf (.arr Nat natL l) = l := by
  unfold natsOf
  show (l.flatMap natL.enc).map toN = l
  rw [nat_flat, List.map_map]
  conv => rhs; rw [← List.map_id l]
  exact List.map_congr_left fun x _ => by simp [toN]
theorem natsOf_cells (s : Nat) (xs : List AV) : natsOf (.cells s xs) = xs.map toN := rfl
theorem rowOf_arr (l : List Nat) : rowOf (.arr Nat natL l) = True := by
  refine propext ⟨fun _ => trivial, fun _ => ⟨rfl, rfl, ?_⟩⟩
  rw [natsOf_arr]
  exact nat_flat l
theorem rowOf_cells (xs : List AV) : rowOf (.cells 1 xs) = (xs = (xs.map toN).map fun n => .num (n : Int)) :=
  propext ⟨fun h => h.2.2, fun h => ⟨rfl, rfl, h⟩⟩
theorem simE_row {o : SObj} (h : rowOf o) (w : Bool) : SimE ⟨.arr Nat natL (natsOf o), w⟩ ⟨o, w⟩ := ⟨h.1.symm, h.2.1.symm, (nat_flat _).trans h.2.2.symm, rfl⟩
noncomputable def envR (ga : Nat → Option Con) (nt : Nat) (keys : List Nat) : Env := ⟨ty, ga, [], nt, keys, []⟩
theorem envR_ok {ga : Nat → Option Con} (h : GaOk Tryz.prog ga) (nt : Nat) (keys : List Nat) : EnvOk Tryz.prog (envR ga nt keys) := ⟨ty_ok, h, by first | rfl | decide⟩
/-- Contracts that read rows of digits and hand a new one back. -/
def conN0 (F : List CV → Option (SV × List Nat × List Prop)) : Con := ⟨false, fun args os => match os with
  | [] => match F args with
    | some (v, r, ob) => some (v, [], [.arr Nat natL r], ob)
    | none => none
  | _ => none⟩
def conN1 (F : List CV → List Nat → Option (SV × List Nat × List Prop)) : Con := ⟨false, fun args os => match os with
  | [oa] => match F args (natsOf oa) with
    | some (v, r, ob) => some (v, [], [.arr Nat natL r], rowOf oa :: ob)
    | none => none
  | _ => none⟩
def conN2 (F : List CV → List Nat → List Nat → Option (SV × List Nat × List Prop)) : Con := ⟨false, fun args os => match os with
  | [oa, ob] => match F args (natsOf oa) (natsOf ob) with
    | some (v, r, obl) => some (v, [], [.arr Nat natL r], rowOf oa :: rowOf ob :: obl)
    | none => none
  | _ => none⟩
section
variable {P : Program} {f : FuncId} {fn : Func}
theorem conN0_ok (hf : P.funcs[f]? = some fn) (hb : fn.body.isSome = true) (hn : (fn.name == "runtime.NumGoroutine") = false) {F : List CV → Option (SV × List Nat × List Prop)}
    (h : ∀ args v r ob, F args = some (v, r, ob) → AllT ob → Tri P f args [] v [(0, ⟨.arr Nat natL r, true⟩)]) : ConOk P f (conN0 F) := by
  refine .inl ⟨⟨fn, hf, hb, hn⟩, fun args es res upd news ob hr hob _ => ?_⟩
  unfold conN0 at hr
  simp only at hr
  split at hr
  · rename_i hes
    obtain rfl : es = [] := List.map_eq_nil_iff.1 hes
    cases hF : F args with
    | none => rw [hF] at hr; cases hr
    | some q =>
      obtain ⟨v, r, ob'⟩ := q
      simp only [hF, Option.some.injEq, Prod.mk.injEq] at hr
      obtain ⟨rfl, rfl, rfl, rfl⟩ := hr
      exact h args v r ob' hF hob
  · cases hr
theorem conN1_ok (hf : P.funcs[f]? = some fn) (hb : fn.body.isSome = true) (hn : (fn.name == "runtime.NumGoroutine") = false) {F : List CV → List Nat → Option (SV × List Nat × List Prop)}
    (h : ∀ args a v r ob, F args a = some (v, r, ob) → AllT ob → ∀ wa, Tri P f args [(0, ⟨.arr Nat natL a, wa⟩)] v [(0, ⟨.arr Nat natL a, wa⟩), (1, ⟨.arr Nat natL r, true⟩)]) : ConOk P f (conN1 F) := by
  refine .inl ⟨⟨fn, hf, hb, hn⟩, fun args es res upd news ob hr hob _ => ?_⟩
  unfold conN1 at hr
  simp only at hr
  split at hr
  · rename_i oa hes
    obtain ⟨e, rfl⟩ : ∃ e, es = [e] := by
      match es, hes with
      | [e], _ => exact ⟨e, rfl⟩
    simp only [List.map_cons, List.map_nil, List.cons.injEq, and_true] at hes
    subst hes
    cases hF : F args (natsOf e.o) with
    | none => rw [hF] at hr; cases hr
    | some q =>
      obtain ⟨v, r, ob'⟩ := q
      simp only [hF, Option.some.injEq, Prod.mk.injEq] at hr
      obtain ⟨rfl, rfl, rfl, rfl⟩ := hr
      have s1 := simE_row hob.1 e.wr
      exact (h args _ v r ob' hF hob.2 e.wr).sim (.cons s1 .nil) (.cons s1 (.cons (.refl _) .nil))
  · cases hr
theorem conN2_ok (hf : P.funcs[f]? = some fn) (hb : fn.body.isSome = true) (hn : (fn.name == "runtime.NumGoroutine") = false) {F : List CV → List Nat → List Nat → Option (SV × List Nat × List Prop)}
    (h : ∀ args a b v r ob, F args a b = some (v, r, ob) → AllT ob → ∀ wa wb, Tri P f args [(0, ⟨.arr Nat natL a, wa⟩), (1, ⟨.arr Nat natL b, wb⟩)] v [(0, ⟨.arr Nat natL a, wa⟩), (1, ⟨.arr Nat natL b, wb⟩), (2, ⟨.arr Nat natL r, true⟩)]) : ConOk P f (conN2 F) := by
  refine .inl ⟨⟨fn, hf, hb, hn⟩, fun args es res upd news ob hr hob _ => ?_⟩
  unfold conN2 at hr
  simp only at hr
  split at hr
  · rename_i oa ob' hes
    obtain ⟨e, e', rfl⟩ : ∃ e e', es = [e, e'] := by
      match es, hes with
      | [e, e'], _ => exact ⟨e, e', rfl⟩
    simp only [List.map_cons, List.map_nil, List.cons.injEq, and_true] at hes
    obtain ⟨rfl, rfl⟩ := hes
    cases hF : F args (natsOf e.o) (natsOf e'.o) with
    | none => rw [hF] at hr; cases hr
    | some q =>
      obtain ⟨v, r, ob'⟩ := q
      simp only [hF, Option.some.injEq, Prod.mk.injEq] at hr
      obtain ⟨rfl, rfl, rfl, rfl⟩ := hr
      have s1 := simE_row hob.1 e.wr
      have s2 := simE_row hob.2.1 e'.wr
      exact (h args _ _ v r ob' hF hob.2.2 e.wr e'.wr).sim (.cons s1 (.cons s2 .nil)) (.cons s1 (.cons s2 (.cons (.refl _) .nil)))
  · cases hr
end
end Go.Proofs.YtahiopdkekkibaaGreatDoor.FK

/-
  The document's digits to the base 65536: sums, of first parts of rows.
-/
namespace Go.Proofs.YtahiopdkekkibaaGreatDoor.FK
open Go Go.RowKit
set_option maxHeartbeats 4000000
set_option linter.unusedSimpArgs false
set_option linter.unusedVariables false
theorem add_go {B : Nat} (hB : 1 < B) {a b : List Nat} (ha : dlt B a) (hb : dlt B b) {i : Nat} (hi : i ≤ addLen B a b) (h : i < a.length ∨ i < b.length ∨ 0 < (addG B a b i).2) : i + 1 ≤ addLen B a b := by
  have hc := addLen_car hB ha hb
  rcases Nat.lt_or_ge i (addLen B a b) with h1 | h1
  · exact h1
  · have e : i = addLen B a b := by omega
    obtain ⟨h2, h3⟩ := addLen_bd B a b
    rw [← e] at hc
    omega
theorem add_end {B : Nat} {a b : List Nat} {i : Nat} (hi : i ≤ addLen B a b) (h1 : a.length ≤ i) (h2 : b.length ≤ i) (h3 : (addG B a b i).2 = 0) : i = addLen B a b := by
  unfold addLen at hi ⊢
  split
  · rename_i h; rw [if_pos h] at hi; omega
  · rename_i h
    rw [if_neg h] at hi
    by_cases e : i = max a.length b.length
    · rw [← e] at h; exact (h h3).elim
    · omega
theorem getD_out {l : List Nat} {i : Nat} (h : l.length ≤ i) : l.getD i 0 = 0 := by
  rw [List.getD_eq_getElem?_getD, List.getElem?_eq_none h]; rfl
theorem take_getD (l : List Nat) (n i : Nat) (h : i < (l.take n).length) : l.getD i 0 = (l.take n).getD i 0 := by
  rw [List.length_take] at h
  rw [List.getD_eq_getElem?_getD, List.getD_eq_getElem?_getD, List.getElem?_take_of_lt (by omega)]
def gaddInv (A B a b : List Nat) (wa wb : Bool) : Nat → St
  | 0 => ⟨[(0, .c (.one (.sl 0 0 1 a.length))), (1, .c (.one (.sl 1 0 1 b.length))), (5, .c (.one (.val (.slice none 0 0)))), (6, .c (.one (.num 0))), (7, .c (.one (.num 0)))], [(0, ⟨.arr Nat natL A, wa⟩), (1, ⟨.arr Nat natL B, wb⟩)]⟩
  | i + 1 => ⟨[(0, .c (.one (.sl 0 0 1 a.length))), (1, .c (.one (.sl 1 0 1 b.length))), (5, .c (.one (.sl 500 0 1 (i + 1)))), (6, .c (.one (.num (addG 65536 a b (i + 1)).2))), (7, .c (.one (.num (i + 1 : Nat))))], [(0, ⟨.arr Nat natL A, wa⟩), (1, ⟨.arr Nat natL B, wb⟩), (500, ⟨.arr Nat natL (addG 65536 a b (i + 1)).1, true⟩)]⟩
set_option maxRecDepth 100000 in
theorem gadd_tri (A B a b : List Nat) (wa wb : Bool) (hA : a.length ≤ A.length) (hB : b.length ≤ B.length) (pA : ∀ i, i < a.length → A.getD i 0 = a.getD i 0) (pB : ∀ i, i < b.length → B.getD i 0 = b.getD i 0) (ha : dlt 65536 a) (hb : dlt 65536 b) (la : a.length ≤ 1000) (lb : b.length ≤ 1000) (l0 : 0 < a.length) : Tri Tryz.prog 145 [.one (.sl 0 0 1 a.length), .one (.sl 1 0 1 b.length)] [(0, ⟨.arr Nat natL A, wa⟩), (1, ⟨.arr Nat natL B, wb⟩)] (.c (.one (.sl 2 0 1 (addL 65536 a b).length))) [(0, ⟨.arr Nat natL A, wa⟩), (1, ⟨.arr Nat natL B, wb⟩), (2, ⟨.arr Nat natL (addL 65536 a b), true⟩)] := by
  refine tri_of (envR_ok ga0_ok 54 [0, 1]) Tryz.func145 rfl rfl (rs := [.tmp 4]) rfl rfl (by simp [envR]) rfl [(2, 500)] ?_
  simp only [envR, con0, conN0, conN1, conN2, natsOf_arr, rowOf_arr, natsOf_cells, rowOf_cells, toN, natL_st, natL_d, natL_enc, natL_up, ga0, go_sem]
  refine loop_inv (envR_ok ga0_ok 54 [0, 1]) (gaddInv A B a b wa wb) (fun i => i ≤ addLen 65536 a b) (fun i => addLen 65536 a b - i) 0 [] (by omega) ?_ ?_
  · simp only [gaddInv, go_sem]
    exact ⟨rfl, id, id⟩
  · intro i hi
    obtain ⟨T, hT⟩ : ∃ T, T = (addG 65536 a b i).2 + a.getD i 0 + b.getD i 0 := ⟨_, rfl⟩
    have gl : (addG 65536 a b (i + 1)).1 = (addG 65536 a b i).1 ++ [T % 65536] := by rw [addG, ← hT]
    have gc : (addG 65536 a b (i + 1)).2 = T / 65536 := by rw [addG, ← hT]
    have bc := addG_car (by decide : 1 < 65536) ha hb i
    have ba := ha i
    have bb := hb i
    have bl := addLen_bd 65536 a b
    have h5 : ((T : Nat) : Int).tmod 65536 = ((T % 65536 : Nat) : Int) := by rw [show (65536 : Int) = ((65536 : Nat) : Int) from rfl, ← Int.ofNat_tmod]
    have h6 : IntKind.i64.wrap (((T : Nat) : Int).tdiv 65536) = ((T / 65536 : Nat) : Int) := by
      rw [show (65536 : Int) = ((65536 : Nat) : Int) from rfl, ← Int.ofNat_tdiv, IntKind.wrap_i64]; omega
    have hlen := addG_len 65536 a b i
    rcases i with _ | i
    · have gl0 : (addG 65536 a b 1).1 = [T % 65536] := gl
      have gc0 : (addG 65536 a b 1).2 = T / 65536 := gc
      have c1 : decide ((0 : Int) < (a.length : Int)) = true := decide_eq_true (by omega)
      have z0 : (addG 65536 a b 0).2 = 0 := rfl
      have w1 : IntKind.i64.wrap ((a.getD 0 0 : Nat) : Int) = ((a.getD 0 0 : Nat) : Int) := by rw [IntKind.wrap_i64]; omega
      have rA := pA 0 l0
      cases c2 : decide ((0 : Int) < (b.length : Int)) with
      | true =>
        have rB := pB 0 (by have := of_decide_eq_true c2; omega)
        have w2 : IntKind.i64.wrap (((a.getD 0 0 : Nat) : Int) + ((b.getD 0 0 : Nat) : Int)) = ((T : Nat) : Int) := by rw [IntKind.wrap_i64]; omega
        simp only [gaddInv, envR, con0, conN0, conN1, conN2, natsOf_arr, rowOf_arr, natsOf_cells, rowOf_cells, toN, natL_st, natL_d, natL_enc, natL_up, ga0, c1, c2, rA, rB, w1, w2, h5, h6, go_sem]
        refine ⟨by omega, by omega, by have := of_decide_eq_true c2; omega, by have := of_decide_eq_true c2; omega, again 1 [(500, 120032)] (by omega) (by omega) ?_⟩
        simp only [gaddInv, gl0, gc0, envR, con0, conN0, conN1, conN2, natsOf_arr, rowOf_arr, natsOf_cells, rowOf_cells, toN, natL_st, natL_d, natL_enc, natL_up, ga0, go_sem]
        exact ⟨rfl, id, id⟩
      | false =>
        have zb := getD_out (l := b) (i := 0) (by have := of_decide_eq_false c2; omega)
        have w2 : IntKind.i64.wrap ((a.getD 0 0 : Nat) : Int) = ((T : Nat) : Int) := by rw [IntKind.wrap_i64]; omega
        simp only [gaddInv, envR, con0, conN0, conN1, conN2, natsOf_arr, rowOf_arr, natsOf_cells, rowOf_cells, toN, natL_st, natL_d, natL_enc, natL_up, ga0, c1, c2, rA, w2, h5, h6, go_sem]
        refine ⟨by omega, by omega, again 1 [(500, 120032)] (by omega) (by omega) ?_⟩
        simp only [gaddInv, gl0, gc0, envR, con0, conN0, conN1, conN2, natsOf_arr, rowOf_arr, natsOf_cells, rowOf_cells, toN, natL_st, natL_d, natL_enc, natL_up, ga0, go_sem]
        exact ⟨rfl, id, id⟩
    · have hw : IntKind.i64.wrap (((i + 1 : Nat) : Int) + 1) = ((i + 1 + 1 : Nat) : Int) := by rw [IntKind.wrap_i64]; omega
      have hgo := fun h => add_go (by decide : 1 < 65536) ha hb hi h
      cases c1 : decide (((i + 1 : Nat) : Int) < (a.length : Int)) with
      | true =>
        have g1 : i + 1 < a.length := by have := of_decide_eq_true c1; omega
        have hgo := hgo (.inl g1)
        have rA := pA (i + 1) g1
        cases c2 : decide (((i + 1 : Nat) : Int) < (b.length : Int)) with
        | true =>
          have g2 : i + 1 < b.length := by have := of_decide_eq_true c2; omega
          have rB := pB (i + 1) g2
          have w1 : IntKind.i64.wrap (((addG 65536 a b (i + 1)).2 : Int) + ((a.getD (i + 1) 0 : Nat) : Int)) = (((addG 65536 a b (i + 1)).2 + a.getD (i + 1) 0 : Nat) : Int) := by rw [IntKind.wrap_i64]; omega
          have w2 : IntKind.i64.wrap ((((addG 65536 a b (i + 1)).2 + a.getD (i + 1) 0 : Nat) : Int) + ((b.getD (i + 1) 0 : Nat) : Int)) = ((T : Nat) : Int) := by rw [IntKind.wrap_i64]; omega
          simp only [gaddInv, envR, con0, conN0, conN1, conN2, natsOf_arr, rowOf_arr, natsOf_cells, rowOf_cells, toN, natL_st, natL_d, natL_enc, natL_up, ga0, c1, c2, rA, rB, w1, w2, h5, h6, hw, go_sem]
          repeat' apply And.intro
          all_goals first
            | omega
            | skip
          refine again (i + 1 + 1) [(500, 120032)] (by omega) (by omega) ?_
          simp only [gaddInv, gl, gc, envR, con0, conN0, conN1, conN2, natsOf_arr, rowOf_arr, natsOf_cells, rowOf_cells, toN, natL_st, natL_d, natL_enc, natL_up, ga0, go_sem]
          exact ⟨rfl, id, id⟩
        | false =>
          have zb := getD_out (l := b) (i := i + 1) (by have := of_decide_eq_false c2; omega)
          have w1 : IntKind.i64.wrap (((addG 65536 a b (i + 1)).2 : Int) + ((a.getD (i + 1) 0 : Nat) : Int)) = ((T : Nat) : Int) := by rw [IntKind.wrap_i64]; omega
          simp only [gaddInv, envR, con0, conN0, conN1, conN2, natsOf_arr, rowOf_arr, natsOf_cells, rowOf_cells, toN, natL_st, natL_d, natL_enc, natL_up, ga0, c1, c2, rA, w1, h5, h6, hw, go_sem]
          repeat' apply And.intro
          all_goals first
            | omega
            | skip
          refine again (i + 1 + 1) [(500, 120032)] (by omega) (by omega) ?_
          simp only [gaddInv, gl, gc, envR, con0, conN0, conN1, conN2, natsOf_arr, rowOf_arr, natsOf_cells, rowOf_cells, toN, natL_st, natL_d, natL_enc, natL_up, ga0, go_sem]
          exact ⟨rfl, id, id⟩
      | false =>
        have za := getD_out (l := a) (i := i + 1) (by have := of_decide_eq_false c1; omega)
        cases c2 : decide (((i + 1 : Nat) : Int) < (b.length : Int)) with
        | true =>
          have g2 : i + 1 < b.length := by have := of_decide_eq_true c2; omega
          have rB := pB (i + 1) g2
          have hgo := hgo (.inr (.inl g2))
          have w1 : IntKind.i64.wrap (((addG 65536 a b (i + 1)).2 : Int) + ((b.getD (i + 1) 0 : Nat) : Int)) = ((T : Nat) : Int) := by rw [IntKind.wrap_i64]; omega
          simp only [gaddInv, envR, con0, conN0, conN1, conN2, natsOf_arr, rowOf_arr, natsOf_cells, rowOf_cells, toN, natL_st, natL_d, natL_enc, natL_up, ga0, c1, c2, rB, w1, h5, h6, hw, go_sem]
          repeat' apply And.intro
          all_goals first
            | omega
            | skip
          refine again (i + 1 + 1) [(500, 120032)] (by omega) (by omega) ?_
          simp only [gaddInv, gl, gc, envR, con0, conN0, conN1, conN2, natsOf_arr, rowOf_arr, natsOf_cells, rowOf_cells, toN, natL_st, natL_d, natL_enc, natL_up, ga0, go_sem]
          exact ⟨rfl, id, id⟩
        | false =>
          have zb := getD_out (l := b) (i := i + 1) (by have := of_decide_eq_false c2; omega)
          cases c3 : decide ((0 : Int) < ((addG 65536 a b (i + 1)).2 : Int)) with
          | true =>
            have hgo := hgo (.inr (.inr (by have := of_decide_eq_true c3; omega)))
            have w1 : (addG 65536 a b (i + 1)).2 = T := by omega
            have c4 : decide ((0 : Int) < (T : Int)) = true := by rw [← w1]; exact c3
            simp only [gaddInv, envR, con0, conN0, conN1, conN2, natsOf_arr, rowOf_arr, natsOf_cells, rowOf_cells, toN, natL_st, natL_d, natL_enc, natL_up, ga0, c1, c2, c3, c4, w1, h5, h6, hw, go_sem]
            repeat' apply And.intro
            all_goals first
              | omega
              | skip
            refine again (i + 1 + 1) [(500, 120032)] (by omega) (by omega) ?_
            simp only [gaddInv, gl, gc, envR, con0, conN0, conN1, conN2, natsOf_arr, rowOf_arr, natsOf_cells, rowOf_cells, toN, natL_st, natL_d, natL_enc, natL_up, ga0, go_sem]
            exact ⟨rfl, id, id⟩
          | false =>
            have he : i + 1 = addLen 65536 a b := add_end hi (by have := of_decide_eq_false c1; omega) (by have := of_decide_eq_false c2; omega) (by have := of_decide_eq_false c3; omega)
            have hl2 := addL_len 65536 a b
            have hr : (addG 65536 a b (i + 1)).1 = addL 65536 a b := by rw [addL, he]
            simp only [gaddInv, envR, con0, conN0, conN1, conN2, natsOf_arr, rowOf_arr, natsOf_cells, rowOf_cells, toN, natL_st, natL_d, natL_enc, natL_up, ga0, c1, c2, c3, hr, hl2, ← he, hw, go_sem]
            exact ⟨rfl, id, id⟩
def gaddC : Con := conN2 fun args a b => match args with
  | [.one (.sl 0 0 1 n), .one (.sl 1 0 1 m)] => some (.c (.one (.sl 2 0 1 (addL 65536 (a.take n) (b.take m)).length)), addL 65536 (a.take n) (b.take m), [n ≤ a.length, m ≤ b.length, dlt 65536 (a.take n), dlt 65536 (b.take m), n ≤ 1000, m ≤ 1000, 0 < n])
  | _ => none
theorem gaddC_ok : ConOk Tryz.prog 145 gaddC := conN2_ok Tryz.func145 rfl rfl fun args a b v r ob h hob wa wb => by
  split at h
  · rename_i n m
    injection h with h; injection h with h1 h2; injection h2 with h2 h3; subst h1; subst h2; subst h3
    obtain ⟨o1, o2, o3, o4, o5, o6, o7, _⟩ := hob
    have e1 : (a.take n).length = n := by rw [List.length_take]; omega
    have e2 : (b.take m).length = m := by rw [List.length_take]; omega
    have := gadd_tri a b (a.take n) (b.take m) wa wb (by omega) (by omega) (fun i hi => take_getD a n i hi) (fun i hi => take_getD b m i hi) o3 o4 (by omega) (by omega) (by omega)
    rw [e1, e2] at this
    exact this
  · cases h
end Go.Proofs.YtahiopdkekkibaaGreatDoor.FK

/-
  The document's digits to the base 65536: products, of first parts of rows.
-/
namespace Go.Proofs.YtahiopdkekkibaaGreatDoor.FK
open Go Go.RowKit
set_option maxHeartbeats 4000000
set_option linter.unusedSimpArgs false
set_option linter.unusedVariables false
theorem zeros_flat (n : Nat) : (List.replicate n 0).flatMap natL.enc = List.replicate n (AV.num 0) := by
  rw [nat_flat, List.map_replicate]; rfl
def gtInv (A B a b : List Nat) (wa wb : Bool) (i : Nat) : St := ⟨[(0, .c (.one (.sl 0 0 1 a.length))), (1, .c (.one (.sl 1 0 1 b.length))), (5, .c (.one (.sl 20040 0 1 (a.length + b.length)))), (6, .c (.one (.num i)))], [(0, ⟨.arr Nat natL A, wa⟩), (1, ⟨.arr Nat natL B, wb⟩), (20040, ⟨.arr Nat natL (mulOut 65536 a b i), true⟩)]⟩
def gtIn (A B a b : List Nat) (wa wb : Bool) (i k : Nat) : St := ⟨[(0, .c (.one (.sl 0 0 1 a.length))), (1, .c (.one (.sl 1 0 1 b.length))), (5, .c (.one (.sl 20040 0 1 (a.length + b.length)))), (6, .c (.one (.num i))), (7, .c (.one (.num (mulIn 65536 (mulOut 65536 a b i) b (a.getD i 0) i k).2))), (8, .c (.one (.num k)))], [(0, ⟨.arr Nat natL A, wa⟩), (1, ⟨.arr Nat natL B, wb⟩), (20040, ⟨.arr Nat natL (mulIn 65536 (mulOut 65536 a b i) b (a.getD i 0) i k).1, true⟩)]⟩
set_option maxRecDepth 100000 in
theorem gtimes_tri (A B a b : List Nat) (wa wb : Bool) (hA : a.length ≤ A.length) (hB : b.length ≤ B.length) (pA : ∀ i, i < a.length → A.getD i 0 = a.getD i 0) (pB : ∀ i, i < b.length → B.getD i 0 = b.getD i 0) (ha : dlt 65536 a) (hb : dlt 65536 b) (la : a.length ≤ 1000) (lb : b.length ≤ 1000) : Tri Tryz.prog 113 [.one (.sl 0 0 1 a.length), .one (.sl 1 0 1 b.length)] [(0, ⟨.arr Nat natL A, wa⟩), (1, ⟨.arr Nat natL B, wb⟩)] (.c (.one (.sl 2 0 1 (timesL 65536 a b).length))) [(0, ⟨.arr Nat natL A, wa⟩), (1, ⟨.arr Nat natL B, wb⟩), (2, ⟨.arr Nat natL (timesL 65536 a b), true⟩)] := by
  refine tri_of (envR_ok ga0_ok 66 [0, 1]) Tryz.func113 rfl rfl (rs := [.tmp 4]) rfl rfl (by simp [envR]) rfl [(2, 20040)] ?_
  have hw0 : IntKind.i64.wrap ((a.length : Int) + (b.length : Int)) = ((a.length + b.length : Nat) : Int) := by rw [IntKind.wrap_i64]; omega
  simp only [envR, con0, conN0, conN1, conN2, natsOf_arr, rowOf_arr, natsOf_cells, rowOf_cells, toN, natL_st, natL_d, natL_enc, natL_up, ga0, hw0, go_sem]
  refine ⟨⟨by omega, by omega, by omega⟩, ?_⟩
  refine loop_inv (envR_ok ga0_ok 66 [0, 1]) (gtInv A B a b wa wb) (fun i => i ≤ a.length) (fun i => a.length - i) 0 [] (by omega) ?_ ?_
  · have h0 : (mulOut 65536 a b 0).flatMap natL.enc = List.replicate (a.length + b.length) (AV.num 0) := zeros_flat _
    simp only [gtInv, h0, envR, con0, conN0, conN1, conN2, natsOf_arr, rowOf_arr, natsOf_cells, rowOf_cells, toN, natL_st, natL_d, natL_enc, natL_up, ga0, go_sem]
    exact ⟨rfl, id, id⟩
  · intro i hi
    have hlen := mulOut_len 65536 a b i
    have hlt := mulOut_lt (by decide : 1 < 65536) ha hb i hi
    have hw : IntKind.i64.wrap ((i : Int) + 1) = ((i + 1 : Nat) : Int) := by rw [IntKind.wrap_i64]; omega
    simp only [gtInv, envR, con0, conN0, conN1, conN2, natsOf_arr, rowOf_arr, natsOf_cells, rowOf_cells, toN, natL_st, natL_d, natL_enc, natL_up, ga0, go_sem]
    refine br (fun h => ?_) fun h => ?_
    · have g1 : i < a.length := by have := of_decide_eq_true h; omega
      simp only [h, hw, envR, con0, conN0, conN1, conN2, natsOf_arr, rowOf_arr, natsOf_cells, rowOf_cells, toN, natL_st, natL_d, natL_enc, natL_up, ga0, go_sem]
      refine loop_inv (envR_ok ga0_ok 66 [0, 1]) (gtIn A B a b wa wb i) (fun k => k ≤ b.length) (fun k => b.length - k) 0 [] (by omega) ?_ ?_
      · simp only [gtIn, mulIn, Int.natCast_zero, envR, con0, conN0, conN1, conN2, natsOf_arr, rowOf_arr, natsOf_cells, rowOf_cells, toN, natL_st, natL_d, natL_enc, natL_up, ga0, go_sem]
        exact ⟨rfl, id, id⟩
      · intro k hk
        obtain ⟨q1, q2⟩ := mulIn_lt (by decide : 1 < 65536) hlt.1 hb (ha i) i k
        have ql := mulIn_len 65536 (mulOut 65536 a b i) b (a.getD i 0) i k
        rw [hlen] at ql
        have qs : mulIn 65536 (mulOut 65536 a b i) b (a.getD i 0) i (k + 1) = ((mulIn 65536 (mulOut 65536 a b i) b (a.getD i 0) i k).1.set (i + k) (((mulIn 65536 (mulOut 65536 a b i) b (a.getD i 0) i k).1.getD (i + k) 0 + a.getD i 0 * b.getD k 0 + (mulIn 65536 (mulOut 65536 a b i) b (a.getD i 0) i k).2) % 65536), ((mulIn 65536 (mulOut 65536 a b i) b (a.getD i 0) i k).1.getD (i + k) 0 + a.getD i 0 * b.getD k 0 + (mulIn 65536 (mulOut 65536 a b i) b (a.getD i 0) i k).2) / 65536) := rfl
        have qf := mulIn_far 65536 (mulOut 65536 a b i) b (a.getD i 0) i k
        have qo : k = b.length → mulOut 65536 a b (i + 1) = (mulIn 65536 (mulOut 65536 a b i) b (a.getD i 0) i k).1.set (i + k) ((mulIn 65536 (mulOut 65536 a b i) b (a.getD i 0) i k).1.getD (i + k) 0 + (mulIn 65536 (mulOut 65536 a b i) b (a.getD i 0) i k).2) := fun e => by subst e; rfl
        simp only [gtIn]
        obtain ⟨L, hL⟩ : ∃ L, L = (mulIn 65536 (mulOut 65536 a b i) b (a.getD i 0) i k).1 := ⟨_, rfl⟩
        obtain ⟨c, hc⟩ : ∃ c, c = (mulIn 65536 (mulOut 65536 a b i) b (a.getD i 0) i k).2 := ⟨_, rfl⟩
        obtain ⟨x, hx⟩ : ∃ x, x = a.getD i 0 := ⟨_, rfl⟩
        obtain ⟨z, hz⟩ : ∃ z, z = b.getD k 0 := ⟨_, rfl⟩
        obtain ⟨y, hy⟩ : ∃ y, y = L.getD (i + k) 0 := ⟨_, rfl⟩
        have bx : x < 65536 := by rw [hx]; exact ha i
        have bz : z < 65536 := by rw [hz]; exact hb k
        have by' : y < 65536 := by rw [hy, hL]; exact q1 (i + k)
        have bp : x * z ≤ 65535 * 65535 := Nat.mul_le_mul (by omega) (by omega)
        rw [← hL] at q1 ql qs qo qf ⊢
        rw [← hc] at q2 qs qo ⊢
        rw [← hx, ← hz, ← hy] at qs
        have w1 : IntKind.i64.wrap ((i : Int) + (k : Int)) = ((i + k : Nat) : Int) := by rw [IntKind.wrap_i64]; omega
        have w2 : IntKind.i64.wrap ((x : Int) * (z : Int)) = ((x * z : Nat) : Int) := by rw [IntKind.wrap_i64, ← Int.natCast_mul]; omega
        have w3 : IntKind.i64.wrap ((y : Int) + ((x * z : Nat) : Int)) = ((y + x * z : Nat) : Int) := by rw [IntKind.wrap_i64]; omega
        have w4 : IntKind.i64.wrap (((y + x * z : Nat) : Int) + (c : Int)) = ((y + x * z + c : Nat) : Int) := by rw [IntKind.wrap_i64]; omega
        have w5 : ((y + x * z + c : Nat) : Int).tmod 65536 = (((y + x * z + c) % 65536 : Nat) : Int) := by rw [show (65536 : Int) = ((65536 : Nat) : Int) from rfl, ← Int.ofNat_tmod]
        have w6 : IntKind.i64.wrap (((y + x * z + c : Nat) : Int).tdiv 65536) = (((y + x * z + c) / 65536 : Nat) : Int) := by
          rw [show (65536 : Int) = ((65536 : Nat) : Int) from rfl, ← Int.ofNat_tdiv, IntKind.wrap_i64]; omega
        have w7 : IntKind.i64.wrap ((k : Int) + 1) = ((k + 1 : Nat) : Int) := by rw [IntKind.wrap_i64]; omega
        have w8 : IntKind.i64.wrap ((y : Int) + (c : Int)) = ((y + c : Nat) : Int) := by rw [IntKind.wrap_i64]; omega
        simp only [envR, con0, conN0, conN1, conN2, natsOf_arr, rowOf_arr, natsOf_cells, rowOf_cells, toN, natL_st, natL_d, natL_enc, natL_up, ga0, go_sem]
        refine br (fun h2 => ?_) fun h2 => ?_
        · have g2 : k < b.length := by have := of_decide_eq_true h2; omega
          have rA := pA i g1
          have rB := pB k g2
          simp only [h2, rA, rB, w1, w2, w3, w4, w5, w6, w7, ← hx, ← hz, ← hy, ql, envR, con0, conN0, conN1, conN2, natsOf_arr, rowOf_arr, natsOf_cells, rowOf_cells, toN, natL_st, natL_d, natL_enc, natL_up, ga0, go_sem]
          refine ⟨⟨by omega, by omega⟩, by omega, ⟨by omega, by omega⟩, by omega, ⟨by omega, by omega⟩, by omega, rfl, ⟨by omega, by omega⟩, by omega, again (k + 1) [] (by omega) (by omega) ?_⟩
          simp only [gtIn, ← hx, qs, envR, con0, conN0, conN1, conN2, natsOf_arr, rowOf_arr, natsOf_cells, rowOf_cells, toN, natL_st, natL_d, natL_enc, natL_up, ga0, go_sem]
          exact ⟨rfl, id, id⟩
        · have he : k = b.length := by have := of_decide_eq_false h2; omega
          have qo := qo he
          rw [← hy] at qo
          simp only [h2, hw, ← he, w1, w8, ← hy, ql, envR, con0, conN0, conN1, conN2, natsOf_arr, rowOf_arr, natsOf_cells, rowOf_cells, toN, natL_st, natL_d, natL_enc, natL_up, ga0, go_sem]
          repeat' apply And.intro
          all_goals first
            | omega
            | skip
          refine again (i + 1) [] (by omega) (by omega) ?_
          simp only [gtInv, ← he, qo, envR, con0, conN0, conN1, conN2, natsOf_arr, rowOf_arr, natsOf_cells, rowOf_cells, toN, natL_st, natL_d, natL_enc, natL_up, ga0, go_sem]
          exact ⟨rfl, id, id⟩
    · have he : i = a.length := by have := of_decide_eq_false h; omega
      have hr : mulOut 65536 a b i = timesL 65536 a b := by rw [timesL, he]
      have hl2 := timesL_len 65536 a b
      simp only [h, hr, hl2, envR, con0, conN0, conN1, conN2, natsOf_arr, rowOf_arr, natsOf_cells, rowOf_cells, toN, natL_st, natL_d, natL_enc, natL_up, ga0, go_sem]
      exact ⟨rfl, id, id⟩
def gtimesC : Con := conN2 fun args a b => match args with
  | [.one (.sl 0 0 1 n), .one (.sl 1 0 1 m)] => some (.c (.one (.sl 2 0 1 (timesL 65536 (a.take n) (b.take m)).length)), timesL 65536 (a.take n) (b.take m), [n ≤ a.length, m ≤ b.length, dlt 65536 (a.take n), dlt 65536 (b.take m), n ≤ 1000, m ≤ 1000])
  | _ => none
theorem gtimesC_ok : ConOk Tryz.prog 113 gtimesC := conN2_ok Tryz.func113 rfl rfl fun args a b v r ob h hob wa wb => by
  split at h
  · rename_i n m
    injection h with h; injection h with h1 h2; injection h2 with h2 h3; subst h1; subst h2; subst h3
    obtain ⟨o1, o2, o3, o4, o5, o6, _⟩ := hob
    have e1 : (a.take n).length = n := by rw [List.length_take]; omega
    have e2 : (b.take m).length = m := by rw [List.length_take]; omega
    have := gtimes_tri a b (a.take n) (b.take m) wa wb (by omega) (by omega) (fun i hi => take_getD a n i hi) (fun i hi => take_getD b m i hi) o3 o4 (by omega) (by omega)
    rw [e1, e2] at this
    exact this
  · cases h
end Go.Proofs.YtahiopdkekkibaaGreatDoor.FK

/-
  The document's digits to the base 65536: differences, which is less, the prime.
-/
namespace Go.Proofs.YtahiopdkekkibaaGreatDoor.FK
open Go Go.RowKit
set_option maxHeartbeats 4000000
set_option linter.unusedSimpArgs false
set_option linter.unusedVariables false
def minT (B : Nat) (a b : List Nat) (c i : Nat) : Nat := a.getD i 0 + B - b.getD i 0 - c
def minG (B : Nat) (a b : List Nat) : Nat → List Nat × Nat
  | 0 => ([], 0)
  | i + 1 => ((minG B a b i).1 ++ [minT B a b (minG B a b i).2 i % B], if minT B a b (minG B a b i).2 i < B then 1 else 0)
theorem minG_len (B : Nat) (a b : List Nat) : ∀ i, (minG B a b i).1.length = i
  | 0 => rfl
  | i + 1 => by rw [minG, List.length_append, minG_len B a b i]; rfl
theorem minG_car (B : Nat) (a b : List Nat) : ∀ i, (minG B a b i).2 ≤ 1
  | 0 => Nat.zero_le _
  | i + 1 => by rw [minG]; simp only; split <;> omega
theorem minG_lt {B : Nat} (hB : 0 < B) (a b : List Nat) : ∀ i, dlt B (minG B a b i).1
  | 0 => dlt_nil hB
  | i + 1 => dlt_append (minG_lt hB a b i) (dlt_mk (Nat.mod_lt _ hB) (dlt_nil hB))
theorem minG_v {B : Nat} (hB : 1 < B) {a b : List Nat} (ha : dlt B a) (hb : dlt B b) : ∀ i, dv B (minG B a b i).1 + dv B (b.take i) = dv B (a.take i) + (minG B a b i).2 * B ^ i
  | 0 => by simp [minG, dv]
  | i + 1 => by
    have ih := minG_v hB ha hb i
    have hc := minG_car B a b i
    have h1 := ha i
    have h2 := hb i
    rw [dv_take, dv_take, minG]
    simp only
    rw [dv_append, minG_len, Nat.pow_succ]
    simp only [dv, Nat.mul_zero, Nat.add_zero]
    by_cases hlt : minT B a b (minG B a b i).2 i < B
    · rw [if_pos hlt, Nat.mod_eq_of_lt hlt]
      unfold minT at hlt ⊢
      generalize B ^ i = Q at *
      generalize (minG B a b i).2 = c at *
      generalize dv B (minG B a b i).1 = L at *
      generalize a.getD i 0 = x at *
      generalize b.getD i 0 = y at *
      generalize dv B (a.take i) = V at *
      generalize dv B (b.take i) = W at *
      have e : x + B - y - c + y + c = x + B := by omega
      have e2 : Q * (x + B - y - c) + y * Q + c * Q = x * Q + Q * B := by
        rw [Nat.mul_comm y, Nat.mul_comm c, ← Nat.mul_add, ← Nat.mul_add, e, Nat.mul_add, Nat.mul_comm Q x]
      have e3 : 1 * (Q * B) = Q * B := Nat.one_mul _
      rw [e3]
      omega
    · rw [if_neg hlt, Nat.mod_eq_sub_mod (by omega), Nat.mod_eq_of_lt (by unfold minT at hlt ⊢; omega)]
      unfold minT at hlt ⊢
      generalize B ^ i = Q at *
      generalize (minG B a b i).2 = c at *
      generalize dv B (minG B a b i).1 = L at *
      generalize a.getD i 0 = x at *
      generalize b.getD i 0 = y at *
      generalize dv B (a.take i) = V at *
      generalize dv B (b.take i) = W at *
      have e : x + B - y - c - B + y + c = x := by omega
      have e2 : Q * (x + B - y - c - B) + y * Q + c * Q = x * Q := by
        rw [Nat.mul_comm y, Nat.mul_comm c, ← Nat.mul_add, ← Nat.mul_add, e, Nat.mul_comm]
      omega
def minL (B : Nat) (a b : List Nat) : List Nat := (minG B a b 16).1
theorem minL_v {B : Nat} (hB : 1 < B) {a b : List Nat} (ha : dlt B a) (hb : dlt B b) (la : a.length = 16) (lb : b.length = 16) (h : dv B b ≤ dv B a) : dv B (minL B a b) = dv B a - dv B b ∧ dlt B (minL B a b) ∧ (minL B a b).length = 16 := by
  have hv := minG_v hB ha hb 16
  have hl := dv_lt (by omega : 0 < B) (minG_lt (by omega : 0 < B) a b 16)
  rw [minG_len] at hl
  have hc := minG_car B a b 16
  rw [dv_all B a 16 (by omega), dv_all B b 16 (by omega)] at hv
  refine ⟨?_, minG_lt (by omega) a b 16, minG_len B a b 16⟩
  show dv B (minG B a b 16).1 = _
  rcases (show (minG B a b 16).2 = 0 ∨ (minG B a b 16).2 = 1 by omega) with h0 | h0
  · rw [h0, Nat.zero_mul] at hv; omega
  · rw [h0, Nat.one_mul] at hv; omega
theorem below_step {B : Nat} {a b : List Nat} (ha : dlt B a) (hb : dlt B b) (i : Nat) (hi : i < a.length) (hl : a.length = b.length) (h : a.drop (i + 1) = b.drop (i + 1)) (hne : a.getD i 0 ≠ b.getD i 0) : decide (dv B a < dv B b) = decide (a.getD i 0 < b.getD i 0) := by
  have hB : 0 < B := by have := ha 0; omega
  have split : ∀ (l : List Nat), i < l.length → dv B l = dv B (l.take i) + l.getD i 0 * B ^ i + B ^ (i + 1) * dv B (l.drop (i + 1)) := fun l hl => by
    have h1 : dv B l = dv B (l.take (i + 1)) + B ^ (i + 1) * dv B (l.drop (i + 1)) := by
      conv => lhs; rw [← List.take_append_drop (i + 1) l]
      rw [dv_append, List.length_take, Nat.min_eq_left (by omega)]
    rw [h1, dv_take]
  have lt : ∀ (l : List Nat), dlt B l → i < l.length → dv B (l.take i) < B ^ i := fun l hd hl => by
    have ht : dlt B (l.take i) := fun j => by
      rw [List.getD_eq_getElem?_getD, List.getElem?_take]
      split
      · rw [← List.getD_eq_getElem?_getD]; exact hd j
      · simpa using hB
    have := dv_lt hB ht
    rwa [List.length_take, Nat.min_eq_left (by omega)] at this
  have s1 := split a hi
  have s2 := split b (by omega)
  have l1 := lt a ha hi
  have l2 := lt b hb (by omega)
  rw [h] at s1
  rw [s1, s2]
  generalize dv B (a.take i) = V at *
  generalize dv B (b.take i) = W at *
  generalize a.getD i 0 = x at *
  generalize b.getD i 0 = y at *
  generalize B ^ (i + 1) * dv B (b.drop (i + 1)) = R at *
  generalize B ^ i = Q at *
  rcases Nat.lt_or_ge x y with hxy | hxy
  · have : x * Q + Q ≤ y * Q := by rw [← Nat.succ_mul]; exact Nat.mul_le_mul_right Q hxy
    rw [decide_eq_true hxy]
    exact decide_eq_true (by omega)
  · have : y * Q + Q ≤ x * Q := by rw [← Nat.succ_mul]; exact Nat.mul_le_mul_right Q (by omega)
    rw [decide_eq_false (by omega : ¬ x < y)]
    exact decide_eq_false (by omega)
def primeL : List Nat := [65517, 65535, 65535, 65535, 65535, 65535, 65535, 65535, 65535, 65535, 65535, 65535, 65535, 65535, 65535, 32767]
theorem primeL_v : dv 65536 primeL = 57896044618658097711785492504343953926634992332820282019728792003956564819949 := by decide
/-- A contract that reads two rows and tells something. -/
def conB2 (F : List CV → List Nat → List Nat → Option (SV × List Prop)) : Con := ⟨false, fun args os => match os with
  | [oa, ob] => match F args (natsOf oa) (natsOf ob) with
    | some (v, obl) => some (v, [], [], rowOf oa :: rowOf ob :: obl)
    | none => none
  | _ => none⟩
theorem conB2_ok {P : Program} {f : FuncId} {fn : Func} (hf : P.funcs[f]? = some fn) (hb : fn.body.isSome = true) (hn : (fn.name == "runtime.NumGoroutine") = false) {F : List CV → List Nat → List Nat → Option (SV × List Prop)}
    (h : ∀ args a b v ob, F args a b = some (v, ob) → AllT ob → ∀ wa wb, Tri P f args [(0, ⟨.arr Nat natL a, wa⟩), (1, ⟨.arr Nat natL b, wb⟩)] v [(0, ⟨.arr Nat natL a, wa⟩), (1, ⟨.arr Nat natL b, wb⟩)]) : ConOk P f (conB2 F) := by
  refine .inl ⟨⟨fn, hf, hb, hn⟩, fun args es res upd news ob hr hob _ => ?_⟩
  unfold conB2 at hr
  simp only at hr
  split at hr
  · rename_i oa ob' hes
    obtain ⟨e, e', rfl⟩ : ∃ e e', es = [e, e'] := by
      match es, hes with
      | [e, e'], _ => exact ⟨e, e', rfl⟩
    simp only [List.map_cons, List.map_nil, List.cons.injEq, and_true] at hes
    obtain ⟨rfl, rfl⟩ := hes
    cases hF : F args (natsOf e.o) (natsOf e'.o) with
    | none => rw [hF] at hr; cases hr
    | some q =>
      obtain ⟨v, ob'⟩ := q
      simp only [hF, Option.some.injEq, Prod.mk.injEq] at hr
      obtain ⟨rfl, rfl, rfl, rfl⟩ := hr
      have s1 := simE_row hob.1 e.wr
      have s2 := simE_row hob.2.1 e'.wr
      exact (h args _ _ v ob' hF hob.2.2 e.wr e'.wr).sim (.cons s1 (.cons s2 .nil)) (.cons s1 (.cons s2 .nil))
  · cases hr
def gminInv (a b : List Nat) (wa wb : Bool) : Nat → St
  | 0 => ⟨[(0, .c (.one (.sl 0 0 1 16))), (1, .c (.one (.sl 1 0 1 16))), (5, .c (.one (.val (.slice none 0 0)))), (6, .c (.one (.num 0))), (7, .c (.one (.num 0)))], [(0, ⟨.arr Nat natL a, wa⟩), (1, ⟨.arr Nat natL b, wb⟩)]⟩
  | i + 1 => ⟨[(0, .c (.one (.sl 0 0 1 16))), (1, .c (.one (.sl 1 0 1 16))), (5, .c (.one (.sl 500 0 1 (i + 1)))), (6, .c (.one (.num (minG 65536 a b (i + 1)).2))), (7, .c (.one (.num (i + 1 : Nat))))], [(0, ⟨.arr Nat natL a, wa⟩), (1, ⟨.arr Nat natL b, wb⟩), (500, ⟨.arr Nat natL (minG 65536 a b (i + 1)).1, true⟩)]⟩
set_option maxRecDepth 100000 in
theorem gmin_tri (a b : List Nat) (wa wb : Bool) (ha : dlt 65536 a) (hb : dlt 65536 b) (la : 16 ≤ a.length) (lb : 16 ≤ b.length) : Tri Tryz.prog 148 [.one (.sl 0 0 1 16), .one (.sl 1 0 1 16)] [(0, ⟨.arr Nat natL a, wa⟩), (1, ⟨.arr Nat natL b, wb⟩)] (.c (.one (.sl 2 0 1 16))) [(0, ⟨.arr Nat natL a, wa⟩), (1, ⟨.arr Nat natL b, wb⟩), (2, ⟨.arr Nat natL (minL 65536 a b), true⟩)] := by
  refine tri_of (envR_ok ga0_ok 33 [0, 1]) Tryz.func148 rfl rfl (rs := [.tmp 4]) rfl rfl (by simp [envR]) rfl [(2, 500)] ?_
  simp only [envR, con0, conN0, conN1, conN2, natsOf_arr, rowOf_arr, natsOf_cells, rowOf_cells, toN, natL_st, natL_d, natL_enc, natL_up, ga0, go_sem]
  refine loop_inv (envR_ok ga0_ok 33 [0, 1]) (gminInv a b wa wb) (fun i => i ≤ 16) (fun i => 16 - i) 0 [] (by omega) ?_ ?_
  · simp only [gminInv, go_sem]
    exact ⟨rfl, id, id⟩
  · intro i hi
    have bx := ha i
    have by' := hb i
    have bc := minG_car 65536 a b i
    have hlen := minG_len 65536 a b i
    have w1 : IntKind.i64.wrap (((a.getD i 0 : Nat) : Int) - ((b.getD i 0 : Nat) : Int)) = ((a.getD i 0 : Nat) : Int) - ((b.getD i 0 : Nat) : Int) := by rw [IntKind.wrap_i64]; omega
    have w2 : IntKind.i64.wrap (((a.getD i 0 : Nat) : Int) - ((b.getD i 0 : Nat) : Int) - ((minG 65536 a b i).2 : Int)) = ((a.getD i 0 : Nat) : Int) - ((b.getD i 0 : Nat) : Int) - ((minG 65536 a b i).2 : Int) := by rw [IntKind.wrap_i64]; omega
    by_cases h16 : i = 16
    · subst h16
      have hmin : (minG 65536 a b (15 + 1)).1 = minL 65536 a b := rfl
      simp only [show gminInv a b wa wb 16 = gminInv a b wa wb (15 + 1) from rfl]
      simp only [gminInv, hmin, envR, con0, conN0, conN1, conN2, natsOf_arr, rowOf_arr, natsOf_cells, rowOf_cells, toN, natL_st, natL_d, natL_enc, natL_up, ga0, go_sem]
      exact ⟨rfl, id, id⟩
    rcases i with _ | i
    · have z0 : (minG 65536 a b 0).2 = 0 := rfl
      have hm0 : minT 65536 a b 0 0 = a.getD 0 0 + 65536 - b.getD 0 0 := rfl
      cases c2 : decide (((a.getD 0 0 : Nat) : Int) - ((b.getD 0 0 : Nat) : Int) < 0) with
      | true =>
        have g2 := of_decide_eq_true c2
        have w3 : IntKind.i64.wrap (((a.getD 0 0 : Nat) : Int) - ((b.getD 0 0 : Nat) : Int) + 65536) = ((minT 65536 a b 0 0 : Nat) : Int) := by
          rw [IntKind.wrap_i64]; omega
        have hlt : minT 65536 a b 0 0 < 65536 := by omega
        have gl : (minG 65536 a b 1).1 = [minT 65536 a b 0 0] := by
          show [] ++ [minT 65536 a b 0 0 % 65536] = _
          rw [Nat.mod_eq_of_lt hlt]; rfl
        have gc : (minG 65536 a b 1).2 = 1 := if_pos hlt
        simp only [gminInv, c2, w1, w3, envR, con0, conN0, conN1, conN2, natsOf_arr, rowOf_arr, natsOf_cells, rowOf_cells, toN, natL_st, natL_d, natL_enc, natL_up, ga0, go_sem]
        repeat' apply And.intro
        all_goals first
          | omega
          | rfl
          | exact hlen
          | skip
        refine again (0 + 1) [(500, 120024)] (by omega) (by omega) ?_
        simp only [gminInv, gl, gc, envR, con0, conN0, conN1, conN2, natsOf_arr, rowOf_arr, natsOf_cells, rowOf_cells, toN, natL_st, natL_d, natL_enc, natL_up, ga0, go_sem]
        exact ⟨rfl, id, id⟩
      | false =>
        have g2 := of_decide_eq_false c2
        obtain ⟨U, hU⟩ : ∃ U, U = a.getD 0 0 - b.getD 0 0 := ⟨_, rfl⟩
        have w4 : ((a.getD 0 0 : Nat) : Int) - ((b.getD 0 0 : Nat) : Int) = ((U : Nat) : Int) := by omega
        have hge : ¬ minT 65536 a b 0 0 < 65536 := by omega
        have hmod : minT 65536 a b 0 0 % 65536 = U := by omega
        have gl : (minG 65536 a b 1).1 = [U] := by
          show [] ++ [minT 65536 a b 0 0 % 65536] = _
          rw [hmod]; rfl
        have gc : (minG 65536 a b 1).2 = 0 := if_neg hge
        have w5 : IntKind.i64.wrap ((U : Nat) : Int) = ((U : Nat) : Int) := by rw [IntKind.wrap_i64]; omega
        rw [w4] at c2 w1
        simp only [gminInv, c2, w1, w4, w5, envR, con0, conN0, conN1, conN2, natsOf_arr, rowOf_arr, natsOf_cells, rowOf_cells, toN, natL_st, natL_d, natL_enc, natL_up, ga0, go_sem]
        repeat' apply And.intro
        all_goals first
          | omega
          | rfl
          | exact hlen
          | skip
        refine again (0 + 1) [(500, 120024)] (by omega) (by omega) ?_
        simp only [gminInv, gl, gc, envR, con0, conN0, conN1, conN2, natsOf_arr, rowOf_arr, natsOf_cells, rowOf_cells, toN, natL_st, natL_d, natL_enc, natL_up, ga0, go_sem]
        exact ⟨rfl, id, id⟩
    · have hw : IntKind.i64.wrap (((i + 1 : Nat) : Int) + 1) = ((i + 1 + 1 : Nat) : Int) := by rw [IntKind.wrap_i64]; omega
      have c1 : decide (((i + 1 : Nat) : Int) < 16) = true := decide_eq_true (by omega)
      cases c2 : decide (((a.getD (i + 1) 0 : Nat) : Int) - ((b.getD (i + 1) 0 : Nat) : Int) - ((minG 65536 a b (i + 1)).2 : Int) < 0) with
      | true =>
        have g2 := of_decide_eq_true c2
        have w3 : IntKind.i64.wrap (((a.getD (i + 1) 0 : Nat) : Int) - ((b.getD (i + 1) 0 : Nat) : Int) - ((minG 65536 a b (i + 1)).2 : Int) + 65536) = ((minT 65536 a b (minG 65536 a b (i + 1)).2 (i + 1) : Nat) : Int) := by
          rw [IntKind.wrap_i64]; unfold minT; omega
        have hlt : minT 65536 a b (minG 65536 a b (i + 1)).2 (i + 1) < 65536 := by unfold minT; omega
        have gl : (minG 65536 a b (i + 1 + 1)).1 = (minG 65536 a b (i + 1)).1 ++ [minT 65536 a b (minG 65536 a b (i + 1)).2 (i + 1)] := by rw [minG, Nat.mod_eq_of_lt hlt]
        have gc : (minG 65536 a b (i + 1 + 1)).2 = 1 := by rw [minG]; exact if_pos hlt
        simp only [gminInv, c1, c2, w1, w2, w3, hw, envR, con0, conN0, conN1, conN2, natsOf_arr, rowOf_arr, natsOf_cells, rowOf_cells, toN, natL_st, natL_d, natL_enc, natL_up, ga0, go_sem]
        repeat' apply And.intro
        all_goals first
          | omega
          | rfl
          | exact hlen
          | skip
        refine again (i + 1 + 1) [(500, 120024)] (by omega) (by omega) ?_
        simp only [gminInv, gl, gc, envR, con0, conN0, conN1, conN2, natsOf_arr, rowOf_arr, natsOf_cells, rowOf_cells, toN, natL_st, natL_d, natL_enc, natL_up, ga0, go_sem]
        exact ⟨rfl, id, id⟩
      | false =>
        have g2 := of_decide_eq_false c2
        obtain ⟨U, hU⟩ : ∃ U, U = a.getD (i + 1) 0 - b.getD (i + 1) 0 - (minG 65536 a b (i + 1)).2 := ⟨_, rfl⟩
        have w4 : ((a.getD (i + 1) 0 : Nat) : Int) - ((b.getD (i + 1) 0 : Nat) : Int) - ((minG 65536 a b (i + 1)).2 : Int) = ((U : Nat) : Int) := by omega
        have hge : ¬ minT 65536 a b (minG 65536 a b (i + 1)).2 (i + 1) < 65536 := by unfold minT; omega
        have hmod : minT 65536 a b (minG 65536 a b (i + 1)).2 (i + 1) % 65536 = U := by unfold minT; omega
        have gl : (minG 65536 a b (i + 1 + 1)).1 = (minG 65536 a b (i + 1)).1 ++ [U] := by rw [minG, hmod]
        have gc : (minG 65536 a b (i + 1 + 1)).2 = 0 := by rw [minG]; exact if_neg hge
        rw [w4] at c2 w2
        simp only [gminInv, c1, c2, w1, w2, w4, hw, envR, con0, conN0, conN1, conN2, natsOf_arr, rowOf_arr, natsOf_cells, rowOf_cells, toN, natL_st, natL_d, natL_enc, natL_up, ga0, go_sem]
        repeat' apply And.intro
        all_goals first
          | omega
          | rfl
          | exact hlen
          | skip
        refine again (i + 1 + 1) [(500, 120024)] (by omega) (by omega) ?_
        simp only [gminInv, gl, gc, envR, con0, conN0, conN1, conN2, natsOf_arr, rowOf_arr, natsOf_cells, rowOf_cells, toN, natL_st, natL_d, natL_enc, natL_up, ga0, go_sem]
        exact ⟨rfl, id, id⟩
set_option maxRecDepth 100000 in
theorem gprime_tri : Tri Tryz.prog 146 [] [] (.c (.one (.sl 0 0 1 16))) [(0, ⟨.arr Nat natL primeL, true⟩)] := by
  refine tri_ofx (envR_ok ga0_ok 14 []) Tryz.func146 rfl rfl (rs := [.tmp 0]) rfl rfl (by simp [envR]) rfl ?_
  simp only [envR, con0, conN0, conN1, conN2, natsOf_arr, rowOf_arr, natsOf_cells, rowOf_cells, toN, natL_st, natL_d, natL_enc, natL_up, ga0, retQx, go_sem]
  refine loop_rounds (envR_ok ga0_ok 14 []) 15 ?_
  simp only [envR, con0, conN0, conN1, conN2, natsOf_arr, rowOf_arr, natsOf_cells, rowOf_cells, toN, natL_st, natL_d, natL_enc, natL_up, ga0, retQx, go_sem]
  refine endX [(0, 70016)] ?_
  simp only [primeL, envR, con0, conN0, conN1, conN2, natsOf_arr, rowOf_arr, natsOf_cells, rowOf_cells, toN, natL_st, natL_d, natL_enc, natL_up, ga0, go_sem]
def gbInv (A B a b : List Nat) (wa wb : Bool) : Nat → St
  | 0 => ⟨[(0, .c (.one (.sl 0 0 1 16))), (1, .c (.one (.sl 1 0 1 16))), (4, .c (.one (.bo false))), (5, .c (.one (.num (-1))))], [(0, ⟨.arr Nat natL A, wa⟩), (1, ⟨.arr Nat natL B, wb⟩)]⟩
  | k + 1 => ⟨[(0, .c (.one (.sl 0 0 1 16))), (1, .c (.one (.sl 1 0 1 16))), (4, .c (.one (.bo false))), (5, .c (.one (.num (k : Nat))))], [(0, ⟨.arr Nat natL A, wa⟩), (1, ⟨.arr Nat natL B, wb⟩)]⟩
set_option maxRecDepth 100000 in
theorem gbelow_tri (A B a b : List Nat) (wa wb : Bool) (hA : 16 ≤ A.length) (hB : 16 ≤ B.length) (pA : ∀ i, i < 16 → A.getD i 0 = a.getD i 0) (pB : ∀ i, i < 16 → B.getD i 0 = b.getD i 0) (ha : dlt 65536 a) (hb : dlt 65536 b) (la : a.length = 16) (lb : b.length = 16) : Tri Tryz.prog 147 [.one (.sl 0 0 1 16), .one (.sl 1 0 1 16)] [(0, ⟨.arr Nat natL A, wa⟩), (1, ⟨.arr Nat natL B, wb⟩)] (.c (.one (.bo (decide (dv 65536 a < dv 65536 b))))) [(0, ⟨.arr Nat natL A, wa⟩), (1, ⟨.arr Nat natL B, wb⟩)] := by
  refine tri_of (envR_ok ga0_ok 28 [0, 1]) Tryz.func147 rfl rfl (rs := [.tmp 4]) rfl rfl (by simp [envR]) rfl [] ?_
  simp only [envR, con0, conN0, conN1, conN2, natsOf_arr, rowOf_arr, natsOf_cells, rowOf_cells, toN, natL_st, natL_d, natL_enc, natL_up, ga0, go_sem]
  refine loop_inv (envR_ok ga0_ok 28 [0, 1]) (gbInv A B a b wa wb) (fun k => k ≤ 16 ∧ a.drop k = b.drop k) (fun k => k) (15 + 1) [] ⟨by omega, by rw [List.drop_eq_nil_of_le (by omega), List.drop_eq_nil_of_le (by omega)]⟩ ?_ ?_
  · simp only [gbInv, go_sem]
    exact ⟨rfl, id, id⟩
  · rintro k ⟨k1, k2⟩
    rcases k with _ | k
    · obtain rfl : a = b := by simpa using k2
      have hf : decide (dv 65536 a < dv 65536 a) = false := decide_eq_false (Nat.lt_irrefl _)
      simp only [gbInv, hf, envR, con0, conN0, conN1, conN2, natsOf_arr, rowOf_arr, natsOf_cells, rowOf_cells, toN, natL_st, natL_d, natL_enc, natL_up, ga0, go_sem]
      exact ⟨rfl, id, id⟩
    · have rA := pA k (by omega)
      have rB := pB k (by omega)
      have c1 : decide ((0 : Int) ≤ ((k : Nat) : Int)) = true := decide_eq_true (by omega)
      cases c2 : (((a.getD k 0 : Nat) : Int) == ((b.getD k 0 : Nat) : Int)) with
      | true =>
        have g2 : a.getD k 0 = b.getD k 0 := by have := eq_of_beq c2; omega
        have hdr : a.drop k = b.drop k := by
          rw [List.drop_eq_getElem_cons (by omega : k < a.length), List.drop_eq_getElem_cons (by omega : k < b.length), k2]
          congr 1
          rw [List.getD_eq_getElem?_getD, List.getD_eq_getElem?_getD, List.getElem?_eq_getElem (by omega : k < a.length), List.getElem?_eq_getElem (by omega : k < b.length)] at g2
          exact g2
        rcases k with _ | k
        · have w1 : IntKind.i64.wrap ((0 : Int) - 1) = -1 := by rw [IntKind.wrap_i64]; rfl
          have w2 : IntKind.i64.wrap (-1) = -1 := by rw [IntKind.wrap_i64]; rfl
          simp only [gbInv, rA, rB, c1, c2, w1, w2, envR, con0, conN0, conN1, conN2, natsOf_arr, rowOf_arr, natsOf_cells, rowOf_cells, toN, natL_st, natL_d, natL_enc, natL_up, ga0, go_sem]
          repeat' apply And.intro
          all_goals first
            | omega
            | rfl
            | exact rfl
            | skip
          refine again 0 [] ⟨by omega, hdr⟩ (by omega) ?_
          simp only [gbInv, envR, con0, conN0, conN1, conN2, natsOf_arr, rowOf_arr, natsOf_cells, rowOf_cells, toN, natL_st, natL_d, natL_enc, natL_up, ga0, go_sem]
          exact ⟨rfl, id, id⟩
        · have w1 : IntKind.i64.wrap (((k + 1 : Nat) : Int) - 1) = ((k : Nat) : Int) := by rw [IntKind.wrap_i64]; omega
          simp only [gbInv, rA, rB, c1, c2, w1, envR, con0, conN0, conN1, conN2, natsOf_arr, rowOf_arr, natsOf_cells, rowOf_cells, toN, natL_st, natL_d, natL_enc, natL_up, ga0, go_sem]
          repeat' apply And.intro
          all_goals first
            | omega
            | rfl
            | exact rfl
            | skip
          refine again (k + 1) [] ⟨by omega, hdr⟩ (by omega) ?_
          simp only [gbInv, envR, con0, conN0, conN1, conN2, natsOf_arr, rowOf_arr, natsOf_cells, rowOf_cells, toN, natL_st, natL_d, natL_enc, natL_up, ga0, go_sem]
          exact ⟨rfl, id, id⟩
      | false =>
        have g2 : a.getD k 0 ≠ b.getD k 0 := by have := ne_of_beq_false c2; omega
        have hs := below_step ha hb k (by omega) (by omega) k2 g2
        have hd : decide (((a.getD k 0 : Nat) : Int) < ((b.getD k 0 : Nat) : Int)) = decide (dv 65536 a < dv 65536 b) := by
          rw [hs]; exact decide_eq_decide.2 (by omega)
        simp only [gbInv, rA, rB, c1, c2, hd, envR, con0, conN0, conN1, conN2, natsOf_arr, rowOf_arr, natsOf_cells, rowOf_cells, toN, natL_st, natL_d, natL_enc, natL_up, ga0, go_sem]
        repeat' apply And.intro
        all_goals first
          | omega
          | rfl
          | exact fun h => h
theorem take16_getD (l : List Nat) (i : Nat) (h : i < 16) : l.getD i 0 = (l.take 16).getD i 0 := by
  rw [List.getD_eq_getElem?_getD, List.getD_eq_getElem?_getD, List.getElem?_take_of_lt h]
theorem dltT {B : Nat} {l : List Nat} (h : dlt B l) (n : Nat) : dlt B (l.take n) := fun i => by
  have hB := h 0
  rw [List.getD_eq_getElem?_getD, List.getElem?_take]
  split
  · rw [← List.getD_eq_getElem?_getD]; exact h i
  · simp; omega
def gbelowC : Con := conB2 fun args a b => match args with
  | [.one (.sl 0 0 1 16), .one (.sl 1 0 1 16)] => some (.c (.one (.bo (decide (dv 65536 (a.take 16) < dv 65536 (b.take 16))))), [16 ≤ a.length, 16 ≤ b.length, dlt 65536 a, dlt 65536 b])
  | _ => none
theorem gbelowC_ok : ConOk Tryz.prog 147 gbelowC := conB2_ok Tryz.func147 rfl rfl fun args a b v ob h hob wa wb => by
  split at h
  · injection h with h; injection h with h1 h2; subst h1; subst h2
    obtain ⟨o1, o2, o3, o4, _⟩ := hob
    exact gbelow_tri a b _ _ wa wb o1 o2 (fun i hi => take16_getD a i hi) (fun i hi => take16_getD b i hi) (dltT o3 16) (dltT o4 16) (by rw [List.length_take]; omega) (by rw [List.length_take]; omega)
  · cases h
def gminC : Con := conN2 fun args a b => match args with
  | [.one (.sl 0 0 1 16), .one (.sl 1 0 1 16)] => some (.c (.one (.sl 2 0 1 16)), minL 65536 a b, [16 ≤ a.length, 16 ≤ b.length, dlt 65536 a, dlt 65536 b])
  | _ => none
theorem gminC_ok : ConOk Tryz.prog 148 gminC := conN2_ok Tryz.func148 rfl rfl fun args a b v r ob h hob wa wb => by
  split at h
  · injection h with h; injection h with h1 h2; injection h2 with h2 h3; subst h1; subst h2; subst h3
    obtain ⟨o1, o2, o3, o4, _⟩ := hob
    exact gmin_tri a b wa wb o3 o4 o1 o2
  · cases h
def gprimeC : Con := conN0 fun args => match args with
  | [] => some (.c (.one (.sl 0 0 1 16)), primeL, [])
  | _ => none
theorem gprimeC_ok : ConOk Tryz.prog 146 gprimeC := conN0_ok Tryz.func146 rfl rfl fun args v r ob h hob => by
  split at h
  · injection h with h; injection h with h1 h2; injection h2 with h2 h3; subst h1; subst h2; subst h3
    exact gprime_tri
  · cases h
end Go.Proofs.YtahiopdkekkibaaGreatDoor.FK

/-
  The document's digits of layer 3: the least number modulo 2^255 - 19, as it is reckoned. It speaks of no program.
-/
namespace Go.Proofs.YtahiopdkekkibaaGreatDoor.FK
open Go Go.RowKit
set_option maxHeartbeats 4000000
set_option linter.unusedSimpArgs false
set_option linter.unusedVariables false
def nW (l : List Nat) (j : Nat) : Nat := l.getD (15 + j) 0 / 32768 + l.getD (15 + j + 1) 0 % 32768 * 2
def highW (l : List Nat) (m : Nat) : List Nat := (List.range m).map (nW l)
def lowW (l : List Nat) : List Nat := l.take 15 ++ [l.getD 15 0 % 32768]
def lowI (l : List Nat) (i : Nat) : List Nat := l.take i ++ List.replicate (16 - i) 0
theorem highW_len (l : List Nat) (m : Nat) : (highW l m).length = m := by simp [highW]
theorem highW_succ (l : List Nat) (m : Nat) : highW l (m + 1) = highW l m ++ [nW l m] := by simp [highW, List.range_succ]
theorem nW_lt {l : List Nat} (h : dlt 65536 l) (j : Nat) : nW l j < 65536 := by
  have h1 := h (15 + j)
  have h2 := h (15 + j + 1)
  unfold nW; omega
theorem highW_lt {l : List Nat} (h : dlt 65536 l) : ∀ m, dlt 65536 (highW l m)
  | 0 => dlt_nil (by decide)
  | m + 1 => by rw [highW_succ]; exact dlt_append (highW_lt h m) (dlt_mk (nW_lt h m) (dlt_nil (by decide)))
theorem highW_tele (l : List Nat) : ∀ m, 32768 * dv 65536 (highW l m) + l.getD 15 0 % 32768 = dv 65536 ((l.drop 15).take m) + (l.getD (15 + m) 0 % 32768) * 65536 ^ m
  | 0 => by simp [highW, dv]
  | m + 1 => by
    have ih := highW_tele l m
    have hg : (l.drop 15).getD m 0 = l.getD (15 + m) 0 := by simp only [List.getD_eq_getElem?_getD, List.getElem?_drop]
    have hd := Nat.div_add_mod (l.getD (15 + m) 0) 32768
    rw [highW_succ, dv_append, highW_len, dv_take, hg, Nat.pow_succ, show 15 + (m + 1) = 15 + m + 1 by omega]
    simp only [dv, Nat.mul_zero, Nat.add_zero, nW]
    generalize l.getD (15 + m) 0 = x at *
    generalize l.getD (15 + m + 1) 0 % 32768 = y at *
    generalize x / 32768 = q at *
    generalize x % 32768 = r at *
    generalize 65536 ^ m = Q at *
    generalize dv 65536 (highW l m) = H at *
    generalize dv 65536 ((l.drop 15).take m) = D at *
    generalize l.getD 15 0 % 32768 = z at *
    subst hd
    have e : 32768 * (H + Q * (q + y * 2)) + z = (32768 * H + z) + 32768 * (Q * q) + y * (Q * 65536) := by grind
    rw [e, ih]
    grind
theorem dlt_take {B : Nat} {l : List Nat} (h : dlt B l) (n : Nat) : dlt B (l.take n) := fun i => by
  have hB := h 0
  rw [List.getD_eq_getElem?_getD, List.getElem?_take]
  split
  · rw [← List.getD_eq_getElem?_getD]; exact h i
  · simp; omega
theorem lowW_lt {l : List Nat} (h : dlt 65536 l) : dlt 65536 (lowW l) := dlt_append (dlt_take h 15) (dlt_mk (by omega) (dlt_nil (by decide)))
theorem lowW_len {l : List Nat} (h : 16 ≤ l.length) : (lowW l).length = 16 := by simp [lowW]; omega
theorem lowW_v {l : List Nat} (h : 16 ≤ l.length) : dv 65536 (lowW l) = dv 65536 (l.take 15) + 65536 ^ 15 * (l.getD 15 0 % 32768) := by
  rw [lowW, dv_append, List.length_take, Nat.min_eq_left (by omega)]
  simp [dv]
theorem splitW {l : List Nat} (h : 16 ≤ l.length) : dv 65536 (lowW l) + 57896044618658097711785492504343953926634992332820282019728792003956564819968 * dv 65536 (highW l (l.length - 15)) = dv 65536 l := by
  have ht := highW_tele l (l.length - 15)
  have h0 : l.getD (15 + (l.length - 15)) 0 = 0 := getD_out (by omega)
  rw [h0, List.take_of_length_le (by rw [List.length_drop]; omega)] at ht
  have hs : dv 65536 l = dv 65536 (l.take 15) + 65536 ^ 15 * dv 65536 (l.drop 15) := by
    conv => lhs; rw [← List.take_append_drop 15 l]
    rw [dv_append, List.length_take, Nat.min_eq_left (by omega)]
  rw [lowW_v h, hs]
  simp only [Nat.reducePow] at *
  omega
def trimW (R : List Nat) (lo : Nat) : Nat → Nat
  | 0 => 0
  | k + 1 => if lo ≤ k ∧ R.getD k 0 = 0 then trimW R lo k else k + 1
theorem trimW_le (R : List Nat) (lo : Nat) : ∀ k, trimW R lo k ≤ k
  | 0 => Nat.le_refl _
  | k + 1 => by
    have := trimW_le R lo k
    rw [trimW]; split <;> omega
theorem trimW_ge (R : List Nat) (lo : Nat) : ∀ k, lo ≤ k → lo ≤ trimW R lo k
  | 0, h => h
  | k + 1, h => by
    rw [trimW]; split
    · rename_i hc; exact trimW_ge R lo k hc.1
    · exact h
theorem trimW_v (R : List Nat) (lo : Nat) : ∀ k, dv 65536 (R.take (trimW R lo k)) = dv 65536 (R.take k)
  | 0 => rfl
  | k + 1 => by
    rw [trimW]; split
    · rename_i hc
      rw [trimW_v R lo k, dv_take, hc.2, Nat.zero_mul, Nat.add_zero]
    · rfl
theorem trimW_pos (R : List Nat) : ∀ k, 0 < trimW R 0 k → 0 < dv 65536 (R.take (trimW R 0 k))
  | 0, h => by simp [trimW] at h
  | k + 1, h => by
    rw [trimW] at h ⊢
    split
    · rename_i hc; rw [if_pos hc] at h; exact trimW_pos R k h
    · rename_i hc
      have : R.getD k 0 ≠ 0 := fun e => hc ⟨Nat.zero_le _, e⟩
      rw [dv_take]
      have : 0 < R.getD k 0 * 65536 ^ k := Nat.mul_pos (by omega) (Nat.pow_pos (by decide))
      omega
theorem trimW_stop {R : List Nat} {lo k : Nat} (h : k = 0 ∨ k ≤ lo ∨ R.getD (k - 1) 0 ≠ 0) : trimW R lo k = k := by
  cases k with
  | zero => rfl
  | succ k =>
    rw [trimW, if_neg]
    rintro ⟨h1, h2⟩
    rcases h with h | h | h
    · omega
    · omega
    · exact h h2
theorem trimW_go {R : List Nat} {lo k : Nat} (h1 : lo ≤ k) (h2 : R.getD k 0 = 0) : trimW R lo (k + 1) = trimW R lo k := by rw [trimW, if_pos ⟨h1, h2⟩]
def redGo (s : List Nat × Nat) : Bool := decide (16 < s.2) || decide (32767 < s.1.getD 15 0)
def redHi (s : List Nat × Nat) : List Nat := highW (s.1.take s.2) (s.2 - 15)
def redK (s : List Nat × Nat) : Nat := trimW (redHi s) 0 (s.2 - 15)
def redR (s : List Nat × Nat) : List Nat := if redK s = 0 then lowW (s.1.take s.2) else addL 65536 (lowW (s.1.take s.2)) (timesL 65536 ((redHi s).take (redK s)) [19])
def redNext (s : List Nat × Nat) : List Nat × Nat := (redR s, trimW (redR s) 16 (redR s).length)
def redRun : Nat → List Nat × Nat → List Nat × Nat
  | 0, s => s
  | f + 1, s => if redGo s = true then redRun f (redNext s) else s
def redMeas (s : List Nat × Nat) : Nat := 2 * dv 65536 (s.1.take s.2) + (if 16 < s.2 then 1 else 0)
def redInv (s : List Nat × Nat) : Prop := dlt 65536 s.1 ∧ 16 ≤ s.2 ∧ s.2 ≤ s.1.length ∧ s.1.length ≤ 100
theorem n19_lt : dlt 65536 [19] := dlt_mk (by decide) (dlt_nil (by decide))
theorem redHi_len (s : List Nat × Nat) : (redHi s).length = s.2 - 15 := highW_len _ _
theorem red_facts {s : List Nat × Nat} (h : redInv s) : (s.1.take s.2).length = s.2 ∧ dlt 65536 (s.1.take s.2) ∧ dlt 65536 (lowW (s.1.take s.2)) ∧ (lowW (s.1.take s.2)).length = 16 ∧ dlt 65536 (redHi s) ∧ dv 65536 (lowW (s.1.take s.2)) + 57896044618658097711785492504343953926634992332820282019728792003956564819968 * dv 65536 ((redHi s).take (redK s)) = dv 65536 (s.1.take s.2) ∧ redK s ≤ s.2 - 15 := by
  obtain ⟨h1, h2, h3, h4⟩ := h
  have hl : (s.1.take s.2).length = s.2 := by rw [List.length_take]; omega
  have hd := dlt_take h1 s.2
  have hs := splitW (l := s.1.take s.2) (by omega)
  rw [hl] at hs
  refine ⟨hl, hd, lowW_lt hd, lowW_len (by omega), highW_lt hd _, ?_, trimW_le _ _ _⟩
  rw [redK, trimW_v, List.take_of_length_le (l := redHi s) (by rw [redHi_len]; omega)]
  exact hs
theorem redNext_spec {s : List Nat × Nat} (h : redInv s) (hg : redGo s = true) : redInv (redNext s) ∧ dv 65536 ((redNext s).1.take (redNext s).2) % 57896044618658097711785492504343953926634992332820282019728792003956564819949 = dv 65536 (s.1.take s.2) % 57896044618658097711785492504343953926634992332820282019728792003956564819949 ∧ redMeas (redNext s) < redMeas s := by
  obtain ⟨f1, f2, f3, f4, f5, f6, f7⟩ := red_facts h
  obtain ⟨h1, h2, h3, h4⟩ := h
  have hv : dv 65536 ((redNext s).1.take (redNext s).2) = dv 65536 (redR s) := by
    show dv 65536 ((redR s).take (trimW (redR s) 16 (redR s).length)) = _
    rw [trimW_v, List.take_length]
  have hle := trimW_le (redR s) 16 (redR s).length
  have hge := trimW_ge (redR s) 16 (redR s).length
  unfold redMeas
  rw [hv]
  by_cases hk : redK s = 0
  · have hr : redR s = lowW (s.1.take s.2) := if_pos hk
    rw [hk, List.take_zero] at f6
    have z : dv 65536 [] = 0 := rfl
    rw [z, Nat.mul_zero, Nat.add_zero] at f6
    have n16 : (redNext s).2 = 16 := by
      show trimW (redR s) 16 (redR s).length = 16
      rw [hr, f4]
      exact trimW_stop (.inr (.inl (Nat.le_refl _)))
    have hb : 16 < s.2 := by
      rcases Nat.lt_or_ge 16 s.2 with h5 | h5
      · exact h5
      · have e16 : s.2 = 16 := by omega
        have hh : 32767 < s.1.getD 15 0 := by
          unfold redGo at hg
          rw [decide_eq_false (by omega : ¬ 16 < s.2), Bool.false_or] at hg
          exact of_decide_eq_true hg
        have hd15 : s.1.getD 15 0 = (s.1.take s.2).getD 15 0 := take_getD _ _ _ (by omega)
        have hH : (redHi s).getD 0 0 = nW (s.1.take s.2) 0 := by
          unfold redHi
          rw [show s.2 - 15 = 1 by omega]
          rfl
        have hn : nW (s.1.take s.2) 0 ≠ 0 := by
          unfold nW
          rw [hd15] at hh
          simp only [Nat.add_zero]
          omega
        have : redK s = 1 := by
          unfold redK
          rw [show s.2 - 15 = 1 by omega]
          exact trimW_stop (.inr (.inr (by rw [hH]; exact hn)))
        omega
    rw [n16, if_neg (by omega), if_pos hb, hr]
    refine ⟨⟨?_, ?_, ?_, ?_⟩, by rw [f6], by omega⟩
    · show dlt 65536 (redR s); rw [hr]; exact f3
    · omega
    · show trimW (redR s) 16 (redR s).length ≤ (redR s).length; exact hle
    · show (redR s).length ≤ 100; rw [hr, f4]; omega
  · have hr : redR s = addL 65536 (lowW (s.1.take s.2)) (timesL 65536 ((redHi s).take (redK s)) [19]) := if_neg hk
    have hp : 0 < dv 65536 ((redHi s).take (redK s)) := trimW_pos _ _ (by unfold redK at hk; omega)
    have ht := dlt_take f5 (redK s)
    have hT := timesL_lt (by decide : 1 < 65536) ht n19_lt
    have hV := addL_v (by decide : 1 < 65536) f3 hT
    rw [timesL_v, ← hr] at hV
    have e19 : dv 65536 [19] = 19 := rfl
    rw [e19] at hV
    have hlen := addLen_bd 65536 (lowW (s.1.take s.2)) (timesL 65536 ((redHi s).take (redK s)) [19])
    rw [← addL_len, ← hr, timesL_len, List.length_take, redHi_len, f4, show [19].length = 1 from rfl] at hlen
    refine ⟨⟨?_, ?_, ?_, ?_⟩, ?_, ?_⟩
    · show dlt 65536 (redR s); rw [hr]; exact addL_lt (by decide) _ _
    · show 16 ≤ trimW (redR s) 16 (redR s).length; exact hge (by omega)
    · show trimW (redR s) 16 (redR s).length ≤ (redR s).length; exact hle
    · show (redR s).length ≤ 100; omega
    · rw [hV, ← f6]
      have e : dv 65536 (lowW (s.1.take s.2)) + 57896044618658097711785492504343953926634992332820282019728792003956564819968 * dv 65536 ((redHi s).take (redK s)) = dv 65536 (lowW (s.1.take s.2)) + dv 65536 ((redHi s).take (redK s)) * 19 + 57896044618658097711785492504343953926634992332820282019728792003956564819949 * dv 65536 ((redHi s).take (redK s)) := by omega
      rw [e, Nat.add_mul_mod_self_left]
    · rw [hV, ← f6]
      split <;> split <;> omega
theorem redRun_spec : ∀ (f : Nat) (s : List Nat × Nat), redMeas s < f → redInv s → redInv (redRun f s) ∧ redGo (redRun f s) = false ∧ dv 65536 ((redRun f s).1.take (redRun f s).2) % 57896044618658097711785492504343953926634992332820282019728792003956564819949 = dv 65536 (s.1.take s.2) % 57896044618658097711785492504343953926634992332820282019728792003956564819949
  | 0, s, h, _ => by omega
  | f + 1, s, h, hi => by
    rw [redRun]
    cases hg : redGo s with
    | true =>
      obtain ⟨n1, n2, n3⟩ := redNext_spec hi hg
      obtain ⟨r1, r2, r3⟩ := redRun_spec f (redNext s) (by omega) n1
      rw [if_pos rfl]
      exact ⟨r1, r2, r3.trans n2⟩
    | false =>
      rw [if_neg (by decide)]
      exact ⟨hi, hg, rfl⟩
def redF (a : List Nat) : Nat := redMeas (a, a.length) + 1
def redEnd (a : List Nat) : List Nat × Nat := redRun (redF a) (a, a.length)
def redFin (s : List Nat × Nat) : List Nat := if decide (dv 65536 (s.1.take 16) < dv 65536 primeL) = true then s.1 else minL 65536 s.1 primeL
def redRow (a : List Nat) : List Nat := redFin (redEnd a)
def redStop (a : List Nat) : Bool := !redGo (a, a.length) && decide (dv 65536 (a.take 16) < dv 65536 primeL)
structure goodW (a : List Nat) : Prop where
  lt : dlt 65536 a
  lo : 16 ≤ a.length
  hi : a.length ≤ 100
theorem goodW.inv {a : List Nat} (h : goodW a) : redInv (a, a.length) := ⟨h.lt, h.lo, Nat.le_refl _, h.hi⟩
theorem redEnd_no {a : List Nat} (h : redGo (a, a.length) = false) : redEnd a = (a, a.length) := by
  unfold redEnd redF
  rw [redRun, h]; rfl
theorem redRow_stop {a : List Nat} (h : redStop a = true) : redRow a = a := by
  simp only [redStop, Bool.and_eq_true, Bool.not_eq_true'] at h
  unfold redRow
  rw [redEnd_no h.1]
  exact if_pos h.2
theorem minG_take (B : Nat) (a b : List Nat) : ∀ i, i ≤ 16 → minG B (a.take 16) b i = minG B a b i
  | 0, _ => rfl
  | i + 1, h => by
    rw [minG, minG, minG_take B a b i (by omega)]
    have : (a.take 16).getD i 0 = a.getD i 0 := by
      rw [List.getD_eq_getElem?_getD, List.getD_eq_getElem?_getD, List.getElem?_take_of_lt (by omega)]
    unfold minT
    rw [this]
theorem prime_lt : dlt 65536 primeL := by
  intro i
  have : ∀ j : Fin 16, primeL.getD j.val 0 < 65536 := by decide
  rcases Nat.lt_or_ge i 16 with h | h
  · exact this ⟨i, h⟩
  · rw [getD_out (by exact h)]; decide
theorem redRow_spec {a : List Nat} (h : goodW a) : goodW (redRow a) ∧ dv 65536 ((redRow a).take 16) = dv 65536 a % 57896044618658097711785492504343953926634992332820282019728792003956564819949 := by
  obtain ⟨⟨i1, i2, i3, i4⟩, g, v⟩ := redRun_spec (redF a) (a, a.length) (Nat.lt_succ_self _) h.inv
  rw [List.take_length] at v
  show goodW (redFin (redRun (redF a) (a, a.length))) ∧ dv 65536 ((redFin (redRun (redF a) (a, a.length))).take 16) = _
  generalize redRun (redF a) (a, a.length) = s at *
  obtain ⟨R, n⟩ := s
  simp only at i1 i2 i3 i4 v
  simp only [redGo, Bool.or_eq_false_iff] at g
  have g1 := of_decide_eq_false g.1
  have g2 := of_decide_eq_false g.2
  obtain rfl : n = 16 := by omega
  have hl : (R.take 16).length = 16 := by rw [List.length_take]; omega
  have hd := dlt_take i1 16
  have hlt : dv 65536 (R.take 16) < 57896044618658097711785492504343953926634992332820282019728792003956564819968 := by
    have h15 := dv_take 65536 R 15
    have hlt := dv_lt (by decide : 0 < 65536) (dlt_take i1 15)
    rw [List.length_take, Nat.min_eq_left (by omega)] at hlt
    rw [h15]
    have hm : R.getD 15 0 * 65536 ^ 15 ≤ 32767 * 65536 ^ 15 := Nat.mul_le_mul_right _ (by omega)
    simp only [Nat.reducePow, Nat.reduceMul] at *
    omega
  unfold redFin
  by_cases hb : dv 65536 (R.take 16) < dv 65536 primeL
  · rw [if_pos (decide_eq_true hb)]
    refine ⟨⟨i1, i3, i4⟩, ?_⟩
    rw [← v]
    rw [primeL_v] at hb
    exact (Nat.mod_eq_of_lt hb).symm
  · rw [if_neg (by rw [decide_eq_false hb]; decide)]
    have hm : minL 65536 R primeL = minL 65536 (R.take 16) primeL := by
      unfold minL; rw [minG_take _ _ _ _ (Nat.le_refl _)]
    obtain ⟨m1, m2, m3⟩ := minL_v (by decide : 1 < 65536) hd prime_lt hl rfl (by omega)
    rw [hm]
    refine ⟨⟨m2, by omega, by omega⟩, ?_⟩
    rw [List.take_of_length_le (by omega), m1, ← v]
    rw [primeL_v] at hb ⊢
    rw [Nat.mod_eq_sub_mod (by omega), Nat.mod_eq_of_lt (by omega)]
theorem lowI_0 (l : List Nat) : lowI l 0 = [0, 0, 0, 0, 0, 0, 0, 0, 0, 0, 0, 0, 0, 0, 0, 0] := rfl
theorem lowI_set (l : List Nat) (i : Nat) (hi : i < 16) (hl : 16 ≤ l.length) (v : Nat) : (lowI l i).set i v = l.take i ++ v :: List.replicate (15 - i) 0 := by
  unfold lowI
  rw [List.set_append_right _ _ (by rw [List.length_take]; omega), List.length_take, Nat.min_eq_left (by omega), Nat.sub_self, show 16 - i = (15 - i) + 1 by omega, List.replicate_succ, List.set_cons_zero]
theorem lowI_step (l : List Nat) (i : Nat) (hi : i < 15) (hl : 16 ≤ l.length) : (lowI l i).set i (l.getD i 0) = lowI l (i + 1) := by
  rw [lowI_set l i (by omega) hl]
  unfold lowI
  rw [List.take_add_one, List.getD_eq_getElem?_getD, List.getElem?_eq_getElem (by omega : i < l.length), show 16 - (i + 1) = 15 - i by omega]
  simp only [Option.toList_some, List.append_assoc, List.cons_append, List.nil_append, Option.getD_some]
theorem lowI_end (l : List Nat) (hl : 16 ≤ l.length) : (lowI l 15).set 15 (l.getD 15 0 % 32768) = lowW l := by
  rw [lowI_set l 15 (by omega) hl]
  rfl
theorem lowI_len (l : List Nat) (i : Nat) (hi : i ≤ 16) (hl : 16 ≤ l.length) : (lowI l i).length = 16 := by
  unfold lowI
  rw [List.length_append, List.length_take, List.length_replicate]; omega
end Go.Proofs.YtahiopdkekkibaaGreatDoor.FK

/-
  The document's digits to the base 65536: products of a row with itself.
-/
namespace Go.Proofs.YtahiopdkekkibaaGreatDoor.FK
open Go Go.RowKit
set_option maxHeartbeats 4000000
set_option linter.unusedSimpArgs false
set_option linter.unusedVariables false
/-- Two contracts, by the number of objects. -/
def conOr (c1 c2 : Con) : Con := ⟨false, fun args os => match os with
  | [] => none
  | [_] => c1.run args os
  | _ :: _ :: _ => c2.run args os⟩
theorem conOr_ok {P : Program} {f : FuncId} {fn : Func} (hf : P.funcs[f]? = some fn) (hb : fn.body.isSome = true) (hn : (fn.name == "runtime.NumGoroutine") = false) {c1 c2 : Con} (h1 : ConOk P f c1) (h2 : ConOk P f c2) : ConOk P f (conOr c1 c2) := by
  refine .inl ⟨⟨fn, hf, hb, hn⟩, fun args es res upd news ob hr hob hw => ?_⟩
  unfold conOr at hr
  simp only at hr
  match es, hr with
  | [], hr => cases hr
  | [e], hr =>
    rcases h1 with ⟨_, h1⟩ | h1
    · exact h1 args [e] res upd news ob hr hob hw
    · exact absurd (h1 args _ res upd news ob hr).1 (by simp)
  | e :: e' :: es, hr =>
    rcases h2 with ⟨_, h2⟩ | h2
    · exact h2 args (e :: e' :: es) res upd news ob hr hob hw
    · exact absurd (h2 args _ res upd news ob hr).1 (by simp)
def gsInv (A a : List Nat) (wa : Bool) (i : Nat) : St := ⟨[(0, .c (.one (.sl 0 0 1 a.length))), (1, .c (.one (.sl 0 0 1 a.length))), (5, .c (.one (.sl 20040 0 1 (a.length + a.length)))), (6, .c (.one (.num i)))], [(0, ⟨.arr Nat natL A, wa⟩), (20040, ⟨.arr Nat natL (mulOut 65536 a a i), true⟩)]⟩
def gsIn (A a : List Nat) (wa : Bool) (i k : Nat) : St := ⟨[(0, .c (.one (.sl 0 0 1 a.length))), (1, .c (.one (.sl 0 0 1 a.length))), (5, .c (.one (.sl 20040 0 1 (a.length + a.length)))), (6, .c (.one (.num i))), (7, .c (.one (.num (mulIn 65536 (mulOut 65536 a a i) a (a.getD i 0) i k).2))), (8, .c (.one (.num k)))], [(0, ⟨.arr Nat natL A, wa⟩), (20040, ⟨.arr Nat natL (mulIn 65536 (mulOut 65536 a a i) a (a.getD i 0) i k).1, true⟩)]⟩
set_option maxRecDepth 100000 in
theorem gsquare_tri (A a : List Nat) (wa : Bool) (hA : a.length ≤ A.length) (hB : a.length ≤ A.length) (pA : ∀ i, i < a.length → A.getD i 0 = a.getD i 0) (pB : ∀ i, i < a.length → A.getD i 0 = a.getD i 0) (ha : dlt 65536 a) (hb : dlt 65536 a) (la : a.length ≤ 1000) (lb : a.length ≤ 1000) : Tri Tryz.prog 113 [.one (.sl 0 0 1 a.length), .one (.sl 0 0 1 a.length)] [(0, ⟨.arr Nat natL A, wa⟩)] (.c (.one (.sl 1 0 1 (timesL 65536 a a).length))) [(0, ⟨.arr Nat natL A, wa⟩), (1, ⟨.arr Nat natL (timesL 65536 a a), true⟩)] := by
  refine tri_of (envR_ok ga0_ok 66 [0]) Tryz.func113 rfl rfl (rs := [.tmp 4]) rfl rfl (by simp [envR]) rfl [(1, 20040)] ?_
  have hw0 : IntKind.i64.wrap ((a.length : Int) + (a.length : Int)) = ((a.length + a.length : Nat) : Int) := by rw [IntKind.wrap_i64]; omega
  simp only [envR, con0, conN0, conN1, conN2, natsOf_arr, rowOf_arr, natsOf_cells, rowOf_cells, toN, natL_st, natL_d, natL_enc, natL_up, ga0, hw0, go_sem]
  refine ⟨⟨by omega, by omega, by omega⟩, ?_⟩
  refine loop_inv (envR_ok ga0_ok 66 [0]) (gsInv A a wa) (fun i => i ≤ a.length) (fun i => a.length - i) 0 [] (by omega) ?_ ?_
  · have h0 : (mulOut 65536 a a 0).flatMap natL.enc = List.replicate (a.length + a.length) (AV.num 0) := zeros_flat _
    simp only [gsInv, h0, envR, con0, conN0, conN1, conN2, natsOf_arr, rowOf_arr, natsOf_cells, rowOf_cells, toN, natL_st, natL_d, natL_enc, natL_up, ga0, go_sem]
    exact ⟨rfl, id⟩
  · intro i hi
    have hlen := mulOut_len 65536 a a i
    have hlt := mulOut_lt (by decide : 1 < 65536) ha hb i hi
    have hw : IntKind.i64.wrap ((i : Int) + 1) = ((i + 1 : Nat) : Int) := by rw [IntKind.wrap_i64]; omega
    simp only [gsInv, envR, con0, conN0, conN1, conN2, natsOf_arr, rowOf_arr, natsOf_cells, rowOf_cells, toN, natL_st, natL_d, natL_enc, natL_up, ga0, go_sem]
    refine br (fun h => ?_) fun h => ?_
    · have g1 : i < a.length := by have := of_decide_eq_true h; omega
      simp only [h, hw, envR, con0, conN0, conN1, conN2, natsOf_arr, rowOf_arr, natsOf_cells, rowOf_cells, toN, natL_st, natL_d, natL_enc, natL_up, ga0, go_sem]
      refine loop_inv (envR_ok ga0_ok 66 [0]) (gsIn A a wa i) (fun k => k ≤ a.length) (fun k => a.length - k) 0 [] (by omega) ?_ ?_
      · simp only [gsIn, mulIn, Int.natCast_zero, envR, con0, conN0, conN1, conN2, natsOf_arr, rowOf_arr, natsOf_cells, rowOf_cells, toN, natL_st, natL_d, natL_enc, natL_up, ga0, go_sem]
        exact ⟨rfl, id⟩
      · intro k hk
        obtain ⟨q1, q2⟩ := mulIn_lt (by decide : 1 < 65536) hlt.1 hb (ha i) i k
        have ql := mulIn_len 65536 (mulOut 65536 a a i) a (a.getD i 0) i k
        rw [hlen] at ql
        have qs : mulIn 65536 (mulOut 65536 a a i) a (a.getD i 0) i (k + 1) = ((mulIn 65536 (mulOut 65536 a a i) a (a.getD i 0) i k).1.set (i + k) (((mulIn 65536 (mulOut 65536 a a i) a (a.getD i 0) i k).1.getD (i + k) 0 + a.getD i 0 * a.getD k 0 + (mulIn 65536 (mulOut 65536 a a i) a (a.getD i 0) i k).2) % 65536), ((mulIn 65536 (mulOut 65536 a a i) a (a.getD i 0) i k).1.getD (i + k) 0 + a.getD i 0 * a.getD k 0 + (mulIn 65536 (mulOut 65536 a a i) a (a.getD i 0) i k).2) / 65536) := rfl
        have qf := mulIn_far 65536 (mulOut 65536 a a i) a (a.getD i 0) i k
        have qo : k = a.length → mulOut 65536 a a (i + 1) = (mulIn 65536 (mulOut 65536 a a i) a (a.getD i 0) i k).1.set (i + k) ((mulIn 65536 (mulOut 65536 a a i) a (a.getD i 0) i k).1.getD (i + k) 0 + (mulIn 65536 (mulOut 65536 a a i) a (a.getD i 0) i k).2) := fun e => by subst e; rfl
        simp only [gsIn]
        obtain ⟨L, hL⟩ : ∃ L, L = (mulIn 65536 (mulOut 65536 a a i) a (a.getD i 0) i k).1 := ⟨_, rfl⟩
        obtain ⟨c, hc⟩ : ∃ c, c = (mulIn 65536 (mulOut 65536 a a i) a (a.getD i 0) i k).2 := ⟨_, rfl⟩
        obtain ⟨x, hx⟩ : ∃ x, x = a.getD i 0 := ⟨_, rfl⟩
        obtain ⟨z, hz⟩ : ∃ z, z = a.getD k 0 := ⟨_, rfl⟩
        obtain ⟨y, hy⟩ : ∃ y, y = L.getD (i + k) 0 := ⟨_, rfl⟩
        have bx : x < 65536 := by rw [hx]; exact ha i
        have bz : z < 65536 := by rw [hz]; exact hb k
        have by' : y < 65536 := by rw [hy, hL]; exact q1 (i + k)
        have bp : x * z ≤ 65535 * 65535 := Nat.mul_le_mul (by omega) (by omega)
        rw [← hL] at q1 ql qs qo qf ⊢
        rw [← hc] at q2 qs qo ⊢
        rw [← hx, ← hz, ← hy] at qs
        have w1 : IntKind.i64.wrap ((i : Int) + (k : Int)) = ((i + k : Nat) : Int) := by rw [IntKind.wrap_i64]; omega
        have w2 : IntKind.i64.wrap ((x : Int) * (z : Int)) = ((x * z : Nat) : Int) := by rw [IntKind.wrap_i64, ← Int.natCast_mul]; omega
        have w3 : IntKind.i64.wrap ((y : Int) + ((x * z : Nat) : Int)) = ((y + x * z : Nat) : Int) := by rw [IntKind.wrap_i64]; omega
        have w4 : IntKind.i64.wrap (((y + x * z : Nat) : Int) + (c : Int)) = ((y + x * z + c : Nat) : Int) := by rw [IntKind.wrap_i64]; omega
        have w5 : ((y + x * z + c : Nat) : Int).tmod 65536 = (((y + x * z + c) % 65536 : Nat) : Int) := by rw [show (65536 : Int) = ((65536 : Nat) : Int) from rfl, ← Int.ofNat_tmod]
        have w6 : IntKind.i64.wrap (((y + x * z + c : Nat) : Int).tdiv 65536) = (((y + x * z + c) / 65536 : Nat) : Int) := by
          rw [show (65536 : Int) = ((65536 : Nat) : Int) from rfl, ← Int.ofNat_tdiv, IntKind.wrap_i64]; omega
        have w7 : IntKind.i64.wrap ((k : Int) + 1) = ((k + 1 : Nat) : Int) := by rw [IntKind.wrap_i64]; omega
        have w8 : IntKind.i64.wrap ((y : Int) + (c : Int)) = ((y + c : Nat) : Int) := by rw [IntKind.wrap_i64]; omega
        simp only [envR, con0, conN0, conN1, conN2, natsOf_arr, rowOf_arr, natsOf_cells, rowOf_cells, toN, natL_st, natL_d, natL_enc, natL_up, ga0, go_sem]
        refine br (fun h2 => ?_) fun h2 => ?_
        · have g2 : k < a.length := by have := of_decide_eq_true h2; omega
          have rA := pA i g1
          have rB := pB k g2
          simp only [h2, rA, rB, w1, w2, w3, w4, w5, w6, w7, ← hx, ← hz, ← hy, ql, envR, con0, conN0, conN1, conN2, natsOf_arr, rowOf_arr, natsOf_cells, rowOf_cells, toN, natL_st, natL_d, natL_enc, natL_up, ga0, go_sem]
          refine ⟨⟨by omega, by omega⟩, by omega, ⟨by omega, by omega⟩, by omega, ⟨by omega, by omega⟩, by omega, rfl, ⟨by omega, by omega⟩, by omega, again (k + 1) [] (by omega) (by omega) ?_⟩
          simp only [gsIn, ← hx, qs, envR, con0, conN0, conN1, conN2, natsOf_arr, rowOf_arr, natsOf_cells, rowOf_cells, toN, natL_st, natL_d, natL_enc, natL_up, ga0, go_sem]
          exact ⟨rfl, id⟩
        · have he : k = a.length := by have := of_decide_eq_false h2; omega
          have qo := qo he
          rw [← hy] at qo
          simp only [h2, hw, ← he, w1, w8, ← hy, ql, envR, con0, conN0, conN1, conN2, natsOf_arr, rowOf_arr, natsOf_cells, rowOf_cells, toN, natL_st, natL_d, natL_enc, natL_up, ga0, go_sem]
          repeat' apply And.intro
          all_goals first
            | omega
            | skip
          refine again (i + 1) [] (by omega) (by omega) ?_
          simp only [gsInv, ← he, qo, envR, con0, conN0, conN1, conN2, natsOf_arr, rowOf_arr, natsOf_cells, rowOf_cells, toN, natL_st, natL_d, natL_enc, natL_up, ga0, go_sem]
          exact ⟨rfl, id⟩
    · have he : i = a.length := by have := of_decide_eq_false h; omega
      have hr : mulOut 65536 a a i = timesL 65536 a a := by rw [timesL, he]
      have hl2 := timesL_len 65536 a a
      simp only [h, hr, hl2, envR, con0, conN0, conN1, conN2, natsOf_arr, rowOf_arr, natsOf_cells, rowOf_cells, toN, natL_st, natL_d, natL_enc, natL_up, ga0, go_sem]
      exact ⟨rfl, id⟩
def gsquareC : Con := conN1 fun args a => match args with
  | [.one (.sl 0 0 1 n), .one (.sl 0 0 1 m)] => some (.c (.one (.sl 1 0 1 (timesL 65536 (a.take n) (a.take n)).length)), timesL 65536 (a.take n) (a.take n), [m = n, n ≤ a.length, dlt 65536 (a.take n), n ≤ 1000])
  | _ => none
theorem gsquareC_ok : ConOk Tryz.prog 113 gsquareC := conN1_ok Tryz.func113 rfl rfl fun args a v r ob h hob wa => by
  split at h
  · rename_i n m
    injection h with h; injection h with h1 h2; injection h2 with h2 h3; subst h1; subst h2; subst h3
    obtain ⟨rfl, o1, o3, o5, _⟩ := hob
    have e1 : (a.take m).length = m := by rw [List.length_take]; omega
    have := gsquare_tri a (a.take m) wa (by omega) (by omega) (fun i hi => take_getD a m i hi) (fun i hi => take_getD a m i hi) o3 o3 (by omega) (by omega)
    rw [e1] at this
    exact this
  · cases h
def gtimes2C : Con := conOr gsquareC gtimesC
theorem gtimes2C_ok : ConOk Tryz.prog 113 gtimes2C := conOr_ok Tryz.func113 rfl rfl gsquareC_ok gtimesC_ok
end Go.Proofs.YtahiopdkekkibaaGreatDoor.FK

/-
  Layer 3: the document's least number, walked.
-/
namespace Go.Proofs.YtahiopdkekkibaaGreatDoor.FK
open Go Go.RowKit
set_option maxHeartbeats 8000000
set_option linter.unusedSimpArgs false
set_option linter.unusedVariables false
def gr1 : Nat → Option Con := fun f => match f with
  | 145 => some gaddC
  | 113 => some gtimesC
  | 146 => some gprimeC
  | 147 => some gbelowC
  | 148 => some gminC
  | _ => none
theorem gr1_ok : GaOk Tryz.prog gr1 := fun f con h => by
  unfold gr1 at h
  split at h
  · injection h with h; subst h; exact gaddC_ok
  · injection h with h; subst h; exact gtimesC_ok
  · injection h with h; subst h; exact gprimeC_ok
  · injection h with h; subst h; exact gbelowC_ok
  · injection h with h; subst h; exact gminC_ok
  · cases h
def redOut0 (a : List Nat) (wa : Bool) : Option (Nat × List Nat × Nat) → St
  | none => ⟨[(0, .c (.one (.sl 0 0 1 a.length)))], [(0, ⟨.arr Nat natL a, wa⟩)]⟩
  | some (_, R, n) => ⟨[(0, .c (.one (.sl 600 0 1 n)))], [(0, ⟨.arr Nat natL a, wa⟩), (600, ⟨.arr Nat natL R, true⟩)]⟩
def redOk0 (a : List Nat) : Option (Nat × List Nat × Nat) → Prop
  | none => True
  | some (f, R, n) => redRun f (R, n) = redEnd a ∧ redMeas (R, n) < f ∧ redInv (R, n)
def redMu (a : List Nat) : Option (Nat × List Nat × Nat) → Nat
  | none => redMeas (a, a.length) + 1
  | some (f, _, _) => f
def rdI1 (X n : Nat) (H : List (Nat × Ent)) (D : List Nat) : Nat ⊕ Nat → St
  | .inl i => ⟨[(0, .c (.one (.sl X 0 1 n))), (3, .c (.one (.sl 700 0 1 16))), (4, .c (.one (.val (.slice none 0 0)))), (5, .c (.one (.num i)))], H ++ [(700, ⟨.arr Nat natL (lowI D i), true⟩)]⟩
  | .inr m => ⟨[(0, .c (.one (.sl X 0 1 n))), (3, .c (.one (.sl 700 0 1 16))), (4, .c (.one (.sl 800 0 1 (m + 1)))), (5, .c (.one (.num (16 + m : Nat))))], H ++ [(700, ⟨.arr Nat natL (lowW D), true⟩), (800, ⟨.arr Nat natL (highW D (m + 1)), true⟩)]⟩
def rdIx : Nat ⊕ Nat → Nat
  | .inl i => i
  | .inr m => 16 + m
def rdOk1 (n : Nat) : Nat ⊕ Nat → Prop
  | .inl i => i ≤ 15
  | .inr m => 16 + m ≤ n
def rdI2 (a : List Nat) (wa : Bool) (D : List Nat) (K k : Nat) : St := ⟨[(3, .c (.one (.sl 700 0 1 16))), (4, .c (.one (.sl 800 0 1 k)))], [(0, ⟨.arr Nat natL a, wa⟩), (700, ⟨.arr Nat natL (lowW D), true⟩), (800, ⟨.arr Nat natL (highW D K), true⟩)]⟩
def rdI4 (a : List Nat) (wa : Bool) (R : List Nat) (q : Nat) : St := ⟨[(0, .c (.one (.sl 900 0 1 q)))], [(0, ⟨.arr Nat natL a, wa⟩), (900, ⟨.arr Nat natL R, true⟩)]⟩
set_option maxRecDepth 100000 in
theorem redA_tri (a : List Nat) (wa : Bool) (hg : goodW a) (hs : redStop a = true) : Tri Tryz.prog 110 [.one (.sl 0 0 1 a.length)] [(0, ⟨.arr Nat natL a, wa⟩)] (.c (.one (.sl 0 0 1 16))) [(0, ⟨.arr Nat natL a, wa⟩)] := by
  simp only [redStop, redGo, Bool.and_eq_true, Bool.not_eq_true', Bool.or_eq_false_iff] at hs
  obtain ⟨⟨h1, h2⟩, h3⟩ := hs
  obtain ⟨o1, o2, o3⟩ := hg
  have la : a.length = 16 := by have := of_decide_eq_false h1; omega
  have c3 : decide ((32767 : Int) < ((a.getD 15 0 : Nat) : Int)) = false := decide_eq_false (by have := of_decide_eq_false h2; omega)
  have hpt : primeL.take 16 = primeL := rfl
  have hpl : primeL.length = 16 := rfl
  refine tri_ofx (envR_ok gr1_ok 132 [0]) Tryz.func110 rfl rfl (rs := [.tmp 2]) rfl rfl (by simp [envR]) rfl ?_
  simp only [la, envR, con0, conN0, conN1, conN2, natsOf_arr, rowOf_arr, natsOf_cells, rowOf_cells, toN, natL_st, natL_d, natL_enc, natL_up, gr1, gaddC, gtimesC, gprimeC, gbelowC, gminC, conB2, retQx, Nat.sub_zero, go_sem]
  refine loop_rounds (envR_ok gr1_ok 132 [0]) 1 ?_
  simp only [la, c3, envR, con0, conN0, conN1, conN2, natsOf_arr, rowOf_arr, natsOf_cells, rowOf_cells, toN, natL_st, natL_d, natL_enc, natL_up, gr1, gaddC, gtimesC, gprimeC, gbelowC, gminC, conB2, retQx, Nat.sub_zero, go_sem]
  refine loop_rounds (envR_ok gr1_ok 132 [0]) 1 ?_
  simp only [la, c3, h3, hpt, hpl, envR, con0, conN0, conN1, conN2, natsOf_arr, rowOf_arr, natsOf_cells, rowOf_cells, toN, natL_st, natL_d, natL_enc, natL_up, gr1, gaddC, gtimesC, gprimeC, gbelowC, gminC, conB2, retQx, Nat.sub_zero, go_sem]
  repeat' apply And.intro
  all_goals first
    | omega
    | exact o1
    | exact prime_lt
    | rfl
    | skip
  refine endX [] ?_
  simp only [envR, con0, conN0, conN1, conN2, natsOf_arr, rowOf_arr, natsOf_cells, rowOf_cells, toN, natL_st, natL_d, natL_enc, natL_up, gr1, gaddC, gtimesC, gprimeC, gbelowC, gminC, conB2, retQx, Nat.sub_zero, go_sem]
  exact ⟨rfl, id⟩
set_option maxRecDepth 100000 in
theorem redB_tri (a : List Nat) (wa : Bool) (hg : goodW a) (hns : ¬ redStop a = true) : Tri Tryz.prog 110 [.one (.sl 0 0 1 a.length)] [(0, ⟨.arr Nat natL a, wa⟩)] (.c (.one (.sl 1 0 1 16))) [(0, ⟨.arr Nat natL a, wa⟩), (1, ⟨.arr Nat natL (redRow a), true⟩)] := by
  refine tri_ofx (envR_ok gr1_ok 132 [0]) Tryz.func110 rfl rfl (rs := [.tmp 2]) rfl rfl (by simp [envR]) rfl ?_
  simp only [envR, con0, conN0, conN1, conN2, natsOf_arr, rowOf_arr, natsOf_cells, rowOf_cells, toN, natL_st, natL_d, natL_enc, natL_up, gr1, gaddC, gtimesC, gprimeC, gbelowC, gminC, conB2, retQx, Nat.sub_zero, go_sem]
  refine loop_inv (envR_ok gr1_ok 132 [0]) (redOut0 a wa) (redOk0 a) (redMu a) none [] trivial ?_ ?_
  · simp only [redOut0, envR, con0, conN0, conN1, conN2, natsOf_arr, rowOf_arr, natsOf_cells, rowOf_cells, toN, natL_st, natL_d, natL_enc, natL_up, gr1, gaddC, gtimesC, gprimeC, gbelowC, gminC, conB2, retQx, Nat.sub_zero, go_sem]
    exact ⟨rfl, id⟩
  · rintro x hx
    rcases x with _ | ⟨f, R, n⟩
    · have x3 : redInv (a, a.length) := hg.inv
      obtain ⟨f', hf'⟩ : ∃ f', f' = redMeas (a, a.length) := ⟨_, rfl⟩
      obtain ⟨s, hs⟩ : ∃ s, s = (a, a.length) := ⟨_, rfl⟩
      obtain ⟨D, hD⟩ : ∃ D, D = a.take a.length := ⟨_, rfl⟩
      have x3' : redInv s := by rw [hs]; exact x3
      obtain ⟨i1, i2, i3, i4⟩ := x3
      simp only at i1 i2 i3 i4
      have hsD : s.1.take s.2 = D := by rw [hs, hD]
      have dl : D.length = a.length := by rw [hD, List.length_take]; omega
      have bD : dlt 65536 D := by rw [hD]; exact dlt_take i1 _
      have bR : dlt 65536 a := i1
      have rD : ∀ i, i < a.length → a.getD i 0 = D.getD i 0 := fun i hi => by rw [hD]; exact take_getD _ _ _ (by rw [List.length_take]; omega)
      have hll : (lowW D).length = 16 := lowW_len (by omega)
      have hlow : dlt 65536 (lowW D) := lowW_lt bD
      have hHi : redHi s = highW D (a.length - 15) := by unfold redHi; rw [hsD, hs]
      have hK : redK s = trimW (highW D (a.length - 15)) 0 (a.length - 15) := by unfold redK; rw [hHi, hs]
      have b15 := bD 15
      have r15 : a.getD 15 0 = D.getD 15 0 := rD 15 (by omega)
      have Xg : redGo s = true → redRun f' (redNext s) = redEnd a := fun hgo => by
        unfold redEnd redF
        rw [← hf', ← hs, redRun, if_pos hgo]
      have Xm : redGo s = true → redMeas (redNext s) < f' := fun hgo => by
        have := (redNext_spec x3' hgo).2.2
        rw [hf', ← hs]; exact this
      cases c1 : decide ((16 : Int) < (a.length : Int)) with
      | true =>
        have g1 : 16 < a.length := by have := of_decide_eq_true c1; omega
        have hgo : redGo s = true := by unfold redGo; rw [hs, decide_eq_true g1]; rfl
        have X1 := Xg hgo
        have X2 := Xm hgo
        have X3 := (redNext_spec x3' hgo).1
        simp only [redOut0, c1, envR, con0, conN0, conN1, conN2, natsOf_arr, rowOf_arr, natsOf_cells, rowOf_cells, toN, natL_st, natL_d, natL_enc, natL_up, gr1, gaddC, gtimesC, gprimeC, gbelowC, gminC, conB2, retQx, Nat.sub_zero, go_sem]
        refine loop_inv (envR_ok gr1_ok 132 [0]) (rdI1 0 a.length [(0, ⟨.arr Nat natL a, wa⟩)] D) (rdOk1 a.length) (fun x => a.length - rdIx x) (.inl 0) [(700, 30000)] (Nat.zero_le _) ?_ ?_
        · simp only [rdI1, lowI_0, envR, con0, conN0, conN1, conN2, natsOf_arr, rowOf_arr, natsOf_cells, rowOf_cells, toN, natL_st, natL_d, natL_enc, natL_up, gr1, gaddC, gtimesC, gprimeC, gbelowC, gminC, conB2, retQx, Nat.sub_zero, go_sem]
          exact ⟨rfl, id, rfl⟩
        · rintro y hy
          rcases y with i | m
          · simp only [rdOk1] at hy
            have ll := lowI_len D i (by omega) (by omega)
            have c0 : decide ((i : Int) < (a.length : Int)) = true := decide_eq_true (by omega)
            have rA : a.getD i 0 = D.getD i 0 := rD i (by omega)
            have bA := bD i
            by_cases hi : i < 15
            · have c15 : decide ((i : Int) < 15) = true := decide_eq_true (by omega)
              have e15 : ((i : Int) == 15) = false := beq_eq_false_iff_ne.2 (by omega)
              have g15 : decide ((15 : Int) ≤ (i : Int)) = false := decide_eq_false (by omega)
              have w1 : IntKind.i64.wrap ((i : Int) + 1) = ((i + 1 : Nat) : Int) := by rw [IntKind.wrap_i64]; omega
              have st := lowI_step D i hi (by omega)
              simp only [rdI1, c0, c15, e15, g15, w1, rA, envR, con0, conN0, conN1, conN2, natsOf_arr, rowOf_arr, natsOf_cells, rowOf_cells, toN, natL_st, natL_d, natL_enc, natL_up, gr1, gaddC, gtimesC, gprimeC, gbelowC, gminC, conB2, retQx, Nat.sub_zero, go_sem]
              repeat' apply And.intro
              all_goals first
                | omega
                | exact n19_lt
                | exact prime_lt
                | exact bD
                | exact bR
                | exact hlow
                | exact ht
                | exact hT
                | rfl
                | skip
              refine again (Sum.inl (i + 1) : Nat ⊕ Nat) [] (by simp only [rdOk1]; omega) (by simp only [rdIx]; omega) ?_
              simp only [rdI1, st, envR, con0, conN0, conN1, conN2, natsOf_arr, rowOf_arr, natsOf_cells, rowOf_cells, toN, natL_st, natL_d, natL_enc, natL_up, gr1, gaddC, gtimesC, gprimeC, gbelowC, gminC, conB2, retQx, Nat.sub_zero, go_sem]
              exact ⟨rfl, id⟩
            · obtain rfl : i = 15 := by omega
              have c0 : decide ((15 : Int) < (a.length : Int)) = true := decide_eq_true (by omega)
              have u1 : ((D.getD 15 0 : Nat) : Int).tmod 32768 = ((D.getD 15 0 % 32768 : Nat) : Int) := by rw [show (32768 : Int) = ((32768 : Nat) : Int) from rfl, ← Int.ofNat_tmod]
              have u2 : IntKind.i64.wrap (((D.getD 15 0 : Nat) : Int).tdiv 32768) = ((D.getD 15 0 / 32768 : Nat) : Int) := by
                rw [show (32768 : Int) = ((32768 : Nat) : Int) from rfl, ← Int.ofNat_tdiv, IntKind.wrap_i64]; omega
              have st := lowI_end D (by omega)
              have hh1 : highW D 1 = [nW D 0] := rfl
              have bn := nW_lt bD 0
              have u6 : ((nW D 0 : Nat) : Int).tmod 65536 = ((nW D 0 : Nat) : Int) := by rw [show (65536 : Int) = ((65536 : Nat) : Int) from rfl, ← Int.ofNat_tmod, Nat.mod_eq_of_lt bn]
              have rB : a.getD 16 0 = D.getD 16 0 := rD 16 (by omega)
              have bB := bD 16
              have u3 : ((D.getD 16 0 : Nat) : Int).tmod 32768 = ((D.getD 16 0 % 32768 : Nat) : Int) := by rw [show (32768 : Int) = ((32768 : Nat) : Int) from rfl, ← Int.ofNat_tmod]
              have u4 : IntKind.i64.wrap (((D.getD 16 0 % 32768 : Nat) : Int) * 2) = ((D.getD 16 0 % 32768 * 2 : Nat) : Int) := by rw [IntKind.wrap_i64]; omega
              have u5 : IntKind.i64.wrap (((D.getD 15 0 / 32768 : Nat) : Int) + ((D.getD 16 0 % 32768 * 2 : Nat) : Int)) = ((nW D 0 : Nat) : Int) := by
                rw [IntKind.wrap_i64]; simp only [nW, Nat.add_zero, Nat.reduceAdd]; omega
              simp only [rdI1, c0, c1, u1, u2, u3, u4, u5, u6, rA, rB, envR, con0, conN0, conN1, conN2, natsOf_arr, rowOf_arr, natsOf_cells, rowOf_cells, toN, natL_st, natL_d, natL_enc, natL_up, gr1, gaddC, gtimesC, gprimeC, gbelowC, gminC, conB2, retQx, Nat.sub_zero, go_sem]
              repeat' apply And.intro
              all_goals first
                | omega
                | exact n19_lt
                | exact prime_lt
                | exact bD
                | exact bR
                | exact hlow
                | exact ht
                | exact hT
                | rfl
                | skip
              refine again (Sum.inr 0 : Nat ⊕ Nat) [(800, 160032)] (by simp only [rdOk1]; omega) (by simp only [rdIx]; omega) ?_
              simp only [rdI1, st, hh1, envR, con0, conN0, conN1, conN2, natsOf_arr, rowOf_arr, natsOf_cells, rowOf_cells, toN, natL_st, natL_d, natL_enc, natL_up, gr1, gaddC, gtimesC, gprimeC, gbelowC, gminC, conB2, retQx, Nat.sub_zero, go_sem]
              exact ⟨rfl, id⟩
          · simp only [rdOk1] at hy
            have bA := bD (16 + m)
            have bB := bD (16 + m + 1)
            have hhl := highW_len D (m + 1)
            cases c0 : decide (((16 + m : Nat) : Int) < (a.length : Int)) with
            | true =>
              have g0 : 16 + m < a.length := by have := of_decide_eq_true c0; omega
              have c15 : decide (((16 + m : Nat) : Int) < 15) = false := decide_eq_false (by omega)
              have e15 : (((16 + m : Nat) : Int) == 15) = false := beq_eq_false_iff_ne.2 (by omega)
              have g15 : decide ((15 : Int) ≤ ((16 + m : Nat) : Int)) = true := decide_eq_true (by omega)
              have w1 : IntKind.i64.wrap (((16 + m : Nat) : Int) + 1) = ((16 + m + 1 : Nat) : Int) := by rw [IntKind.wrap_i64]; omega
              have rA : a.getD (16 + m) 0 = D.getD (16 + m) 0 := rD _ (by omega)
              have u2 : IntKind.i64.wrap (((D.getD (16 + m) 0 : Nat) : Int).tdiv 32768) = ((D.getD (16 + m) 0 / 32768 : Nat) : Int) := by
                rw [show (32768 : Int) = ((32768 : Nat) : Int) from rfl, ← Int.ofNat_tdiv, IntKind.wrap_i64]; omega
              have hn : nW D (m + 1) = D.getD (16 + m) 0 / 32768 + D.getD (16 + m + 1) 0 % 32768 * 2 := by
                unfold nW; rw [show 15 + (m + 1) = 16 + m by omega]
              have bn := nW_lt bD (m + 1)
              have u6 : ((nW D (m + 1) : Nat) : Int).tmod 65536 = ((nW D (m + 1) : Nat) : Int) := by rw [show (65536 : Int) = ((65536 : Nat) : Int) from rfl, ← Int.ofNat_tmod, Nat.mod_eq_of_lt bn]
              have hh1 := highW_succ D (m + 1)
              have hidx : 16 + (m + 1) = 16 + m + 1 := rfl
              cases c4 : decide (((16 + m + 1 : Nat) : Int) < (a.length : Int)) with
              | true =>
                have g4 : 16 + m + 1 < a.length := by have := of_decide_eq_true c4; omega
                have rB : a.getD (16 + m + 1) 0 = D.getD (16 + m + 1) 0 := rD _ (by omega)
                have u3 : ((D.getD (16 + m + 1) 0 : Nat) : Int).tmod 32768 = ((D.getD (16 + m + 1) 0 % 32768 : Nat) : Int) := by rw [show (32768 : Int) = ((32768 : Nat) : Int) from rfl, ← Int.ofNat_tmod]
                have u4 : IntKind.i64.wrap (((D.getD (16 + m + 1) 0 % 32768 : Nat) : Int) * 2) = ((D.getD (16 + m + 1) 0 % 32768 * 2 : Nat) : Int) := by rw [IntKind.wrap_i64]; omega
                have u5 : IntKind.i64.wrap (((D.getD (16 + m) 0 / 32768 : Nat) : Int) + ((D.getD (16 + m + 1) 0 % 32768 * 2 : Nat) : Int)) = ((nW D (m + 1) : Nat) : Int) := by
                  rw [IntKind.wrap_i64, hn]; omega
                simp only [rdI1, c0, c15, e15, g15, c4, w1, u2, u3, u4, u5, u6, rA, rB, envR, con0, conN0, conN1, conN2, natsOf_arr, rowOf_arr, natsOf_cells, rowOf_cells, toN, natL_st, natL_d, natL_enc, natL_up, gr1, gaddC, gtimesC, gprimeC, gbelowC, gminC, conB2, retQx, Nat.sub_zero, go_sem]
                repeat' apply And.intro
                all_goals first
                  | omega
                  | exact n19_lt
                  | exact prime_lt
                  | exact bD
                  | exact bR
                  | exact hlow
                  | exact ht
                  | exact hT
                  | rfl
                  | skip
                refine again (Sum.inr (m + 1) : Nat ⊕ Nat) [(800, 160032)] (by simp only [rdOk1]; omega) (by simp only [rdIx]; omega) ?_
                simp only [rdI1, hh1, hidx, envR, con0, conN0, conN1, conN2, natsOf_arr, rowOf_arr, natsOf_cells, rowOf_cells, toN, natL_st, natL_d, natL_enc, natL_up, gr1, gaddC, gtimesC, gprimeC, gbelowC, gminC, conB2, retQx, Nat.sub_zero, go_sem]
                exact ⟨rfl, id⟩
              | false =>
                have z := getD_out (l := D) (i := 16 + m + 1) (by have := of_decide_eq_false c4; omega)
                have u5 : ((D.getD (16 + m) 0 / 32768 : Nat) : Int) = ((nW D (m + 1) : Nat) : Int) := by
                  rw [hn, z]; omega
                simp only [rdI1, c0, c15, e15, g15, c4, w1, u2, u5, u6, rA, envR, con0, conN0, conN1, conN2, natsOf_arr, rowOf_arr, natsOf_cells, rowOf_cells, toN, natL_st, natL_d, natL_enc, natL_up, gr1, gaddC, gtimesC, gprimeC, gbelowC, gminC, conB2, retQx, Nat.sub_zero, go_sem]
                repeat' apply And.intro
                all_goals first
                  | omega
                  | exact n19_lt
                  | exact prime_lt
                  | exact bD
                  | exact bR
                  | exact hlow
                  | exact ht
                  | exact hT
                  | rfl
                  | skip
                refine again (Sum.inr (m + 1) : Nat ⊕ Nat) [(800, 160032)] (by simp only [rdOk1]; omega) (by simp only [rdIx]; omega) ?_
                simp only [rdI1, hh1, hidx, envR, con0, conN0, conN1, conN2, natsOf_arr, rowOf_arr, natsOf_cells, rowOf_cells, toN, natL_st, natL_d, natL_enc, natL_up, gr1, gaddC, gtimesC, gprimeC, gbelowC, gminC, conB2, retQx, Nat.sub_zero, go_sem]
                exact ⟨rfl, id⟩
            | false =>
              have ge : m + 1 = a.length - 15 := by have := of_decide_eq_false c0; omega
              have hbh := highW_lt bD (m + 1)
              rw [← ge] at hHi hK
              simp only [rdI1, c0, envR, con0, conN0, conN1, conN2, natsOf_arr, rowOf_arr, natsOf_cells, rowOf_cells, toN, natL_st, natL_d, natL_enc, natL_up, gr1, gaddC, gtimesC, gprimeC, gbelowC, gminC, conB2, retQx, Nat.sub_zero, go_sem]
              refine loop_inv (envR_ok gr1_ok 132 [0]) (rdI2 a wa D (m + 1)) (fun k => trimW (highW D (m + 1)) 0 k = trimW (highW D (m + 1)) 0 (m + 1) ∧ k ≤ m + 1) (fun k => k) (m + 1) [] ⟨rfl, Nat.le_refl _⟩ ?_ ?_
              · simp only [rdI2, envR, con0, conN0, conN1, conN2, natsOf_arr, rowOf_arr, natsOf_cells, rowOf_cells, toN, natL_st, natL_d, natL_enc, natL_up, gr1, gaddC, gtimesC, gprimeC, gbelowC, gminC, conB2, retQx, Nat.sub_zero, go_sem]
                exact ⟨rfl, id⟩
              · rintro k ⟨k1, k2⟩
                rcases k with _ | j
                · have hk0 : redK s = 0 := hK.trans k1.symm
                  have hr0 : redR s = lowW D := by unfold redR; rw [if_pos hk0, hsD]
                  have hnx : redNext s = (lowW D, 16) := by
                    unfold redNext
                    rw [hr0, hll]
                    exact congrArg _ (trimW_stop (.inr (.inl (Nat.le_refl _))))
                  rw [hnx] at X1 X2 X3
                  simp only [rdI2, envR, con0, conN0, conN1, conN2, natsOf_arr, rowOf_arr, natsOf_cells, rowOf_cells, toN, natL_st, natL_d, natL_enc, natL_up, gr1, gaddC, gtimesC, gprimeC, gbelowC, gminC, conB2, retQx, Nat.sub_zero, go_sem]
                  refine loop_rounds (envR_ok gr1_ok 132 [0]) 1 ?_
                  simp only [rdI2, envR, con0, conN0, conN1, conN2, natsOf_arr, rowOf_arr, natsOf_cells, rowOf_cells, toN, natL_st, natL_d, natL_enc, natL_up, gr1, gaddC, gtimesC, gprimeC, gbelowC, gminC, conB2, retQx, Nat.sub_zero, go_sem]
                  refine again (some (f', lowW D, 16) : Option (Nat × List Nat × Nat)) [(600, 700)] ⟨X1, X2, X3⟩ (by simp only [redMu]; omega) ?_
                  simp only [redOut0, envR, con0, conN0, conN1, conN2, natsOf_arr, rowOf_arr, natsOf_cells, rowOf_cells, toN, natL_st, natL_d, natL_enc, natL_up, gr1, gaddC, gtimesC, gprimeC, gbelowC, gminC, conB2, retQx, Nat.sub_zero, go_sem]
                  exact ⟨rfl, id⟩
                · have hwj : IntKind.i64.wrap (((j + 1 : Nat) : Int) - 1) = (j : Int) := by rw [IntKind.wrap_i64]; omega
                  have cpos : decide ((0 : Int) < ((j + 1 : Nat) : Int)) = true := decide_eq_true (by omega)
                  cases cz : ((((highW D (m + 1)).getD j 0 : Nat) : Int) == 0) with
                  | true =>
                    have gz : (highW D (m + 1)).getD j 0 = 0 := by have := eq_of_beq cz; omega
                    have k1' := (trimW_go (Nat.zero_le j) gz).symm.trans k1
                    simp only [rdI2, hwj, cpos, cz, envR, con0, conN0, conN1, conN2, natsOf_arr, rowOf_arr, natsOf_cells, rowOf_cells, toN, natL_st, natL_d, natL_enc, natL_up, gr1, gaddC, gtimesC, gprimeC, gbelowC, gminC, conB2, retQx, Nat.sub_zero, go_sem]
                    repeat' apply And.intro
                    all_goals first
                      | omega
                      | exact n19_lt
                      | exact prime_lt
                      | exact bD
                      | exact bR
                      | exact hlow
                      | exact ht
                      | exact hT
                      | rfl
                      | skip
                    refine again j [] ⟨k1', by omega⟩ (by omega) ?_
                    simp only [rdI2, envR, con0, conN0, conN1, conN2, natsOf_arr, rowOf_arr, natsOf_cells, rowOf_cells, toN, natL_st, natL_d, natL_enc, natL_up, gr1, gaddC, gtimesC, gprimeC, gbelowC, gminC, conB2, retQx, Nat.sub_zero, go_sem]
                    exact ⟨rfl, id⟩
                  | false =>
                    have gz : (highW D (m + 1)).getD j 0 ≠ 0 := by have := ne_of_beq_false cz; omega
                    have hk1 : redK s = j + 1 := (hK.trans k1.symm).trans (trimW_stop (.inr (.inr gz)))
                    have hr1 : redR s = addL 65536 (lowW D) (timesL 65536 ((highW D (m + 1)).take (j + 1)) [19]) := by unfold redR; rw [if_neg (by rw [hk1]; omega), hk1, hHi, hsD]
                    have ht : dlt 65536 ((highW D (m + 1)).take (j + 1)) := dlt_take hbh _
                    have hT : dlt 65536 (timesL 65536 ((highW D (m + 1)).take (j + 1)) [19]) := timesL_lt (by decide) ht n19_lt
                    have hTl : (timesL 65536 ((highW D (m + 1)).take (j + 1)) [19]).length = j + 1 + 1 := by rw [timesL_len, List.length_take, hhl, Nat.min_eq_left k2]; rfl
                    have htl : (lowW D).take 16 = lowW D := List.take_of_length_le (by omega)
                    have l19 : [19].take 1 = [19] := rfl
                    have hAl := addLen_bd 65536 (lowW D) (timesL 65536 ((highW D (m + 1)).take (j + 1)) [19])
                    rw [← addL_len, hll, hTl] at hAl
                    simp only [rdI2, hwj, cpos, cz, htl, List.take_length, envR, con0, conN0, conN1, conN2, natsOf_arr, rowOf_arr, natsOf_cells, rowOf_cells, toN, natL_st, natL_d, natL_enc, natL_up, gr1, gaddC, gtimesC, gprimeC, gbelowC, gminC, conB2, retQx, Nat.sub_zero, go_sem]
                    repeat' apply And.intro
                    all_goals first
                      | omega
                      | exact n19_lt
                      | exact prime_lt
                      | exact bD
                      | exact bR
                      | exact hlow
                      | exact ht
                      | exact hT
                      | rfl
                      | skip
                    obtain ⟨R', hR'⟩ : ∃ R', R' = addL 65536 (lowW D) (timesL 65536 ((highW D (m + 1)).take (j + 1)) [19]) := ⟨_, rfl⟩
                    rw [← hR'] at hr1 hAl ⊢
                    refine loop_inv (envR_ok gr1_ok 132 [0]) (rdI4 a wa R') (fun q => trimW R' 16 q = trimW R' 16 R'.length ∧ 16 ≤ q ∧ q ≤ R'.length) (fun q => q) R'.length [(900, 210032)] ⟨rfl, by omega, Nat.le_refl _⟩ ?_ ?_
                    · simp only [rdI4, envR, con0, conN0, conN1, conN2, natsOf_arr, rowOf_arr, natsOf_cells, rowOf_cells, toN, natL_st, natL_d, natL_enc, natL_up, gr1, gaddC, gtimesC, gprimeC, gbelowC, gminC, conB2, retQx, Nat.sub_zero, go_sem]
                      exact ⟨rfl, id⟩
                    · rintro q ⟨q1, q2, q3⟩
                      have hnx : ∀ p, trimW R' 16 q = p → redNext s = (R', p) := fun p hp => by
                        unfold redNext
                        rw [hr1, ← q1, hp]
                      cases c16 : decide ((16 : Int) < (q : Int)) with
                      | false =>
                        obtain rfl : q = 16 := by have := of_decide_eq_false c16; omega
                        rw [hnx 16 (trimW_stop (.inr (.inl (Nat.le_refl _))))] at X1 X2 X3
                        simp only [rdI4, envR, con0, conN0, conN1, conN2, natsOf_arr, rowOf_arr, natsOf_cells, rowOf_cells, toN, natL_st, natL_d, natL_enc, natL_up, gr1, gaddC, gtimesC, gprimeC, gbelowC, gminC, conB2, retQx, Nat.sub_zero, go_sem]
                        refine again (some (f', R', 16) : Option (Nat × List Nat × Nat)) [(600, 900)] ⟨X1, X2, X3⟩ (by simp only [redMu]; omega) ?_
                        simp only [redOut0, envR, con0, conN0, conN1, conN2, natsOf_arr, rowOf_arr, natsOf_cells, rowOf_cells, toN, natL_st, natL_d, natL_enc, natL_up, gr1, gaddC, gtimesC, gprimeC, gbelowC, gminC, conB2, retQx, Nat.sub_zero, go_sem]
                        exact ⟨rfl, id⟩
                      | true =>
                        obtain ⟨j', rfl⟩ : ∃ j', q = j' + 1 := ⟨q - 1, by have := of_decide_eq_true c16; omega⟩
                        have hj : 16 ≤ j' := by have := of_decide_eq_true c16; omega
                        have hwj' : IntKind.i64.wrap (((j' + 1 : Nat) : Int) - 1) = (j' : Int) := by rw [IntKind.wrap_i64]; omega
                        cases cy : (((R'.getD j' 0 : Nat) : Int) == 0) with
                        | true =>
                          have gy : R'.getD j' 0 = 0 := by have := eq_of_beq cy; omega
                          have q1' := (trimW_go hj gy).symm.trans q1
                          simp only [rdI4, c16, hwj', cy, envR, con0, conN0, conN1, conN2, natsOf_arr, rowOf_arr, natsOf_cells, rowOf_cells, toN, natL_st, natL_d, natL_enc, natL_up, gr1, gaddC, gtimesC, gprimeC, gbelowC, gminC, conB2, retQx, Nat.sub_zero, go_sem]
                          repeat' apply And.intro
                          all_goals first
                            | omega
                            | exact n19_lt
                            | exact prime_lt
                            | exact bD
                            | exact bR
                            | exact hlow
                            | exact ht
                            | exact hT
                            | rfl
                            | skip
                          refine again j' [] ⟨q1', by omega⟩ (by omega) ?_
                          simp only [rdI4, envR, con0, conN0, conN1, conN2, natsOf_arr, rowOf_arr, natsOf_cells, rowOf_cells, toN, natL_st, natL_d, natL_enc, natL_up, gr1, gaddC, gtimesC, gprimeC, gbelowC, gminC, conB2, retQx, Nat.sub_zero, go_sem]
                          exact ⟨rfl, id⟩
                        | false =>
                          have gy : R'.getD j' 0 ≠ 0 := by have := ne_of_beq_false cy; omega
                          rw [hnx (j' + 1) (trimW_stop (.inr (.inr gy)))] at X1 X2 X3
                          simp only [rdI4, c16, hwj', cy, envR, con0, conN0, conN1, conN2, natsOf_arr, rowOf_arr, natsOf_cells, rowOf_cells, toN, natL_st, natL_d, natL_enc, natL_up, gr1, gaddC, gtimesC, gprimeC, gbelowC, gminC, conB2, retQx, Nat.sub_zero, go_sem]
                          repeat' apply And.intro
                          all_goals first
                            | omega
                            | exact n19_lt
                            | exact prime_lt
                            | exact bD
                            | exact bR
                            | exact hlow
                            | exact ht
                            | exact hT
                            | rfl
                            | skip
                          refine again (some (f', R', j' + 1) : Option (Nat × List Nat × Nat)) [(600, 900)] ⟨X1, X2, X3⟩ (by simp only [redMu]; omega) ?_
                          simp only [redOut0, envR, con0, conN0, conN1, conN2, natsOf_arr, rowOf_arr, natsOf_cells, rowOf_cells, toN, natL_st, natL_d, natL_enc, natL_up, gr1, gaddC, gtimesC, gprimeC, gbelowC, gminC, conB2, retQx, Nat.sub_zero, go_sem]
                          exact ⟨rfl, id⟩
      | false =>
        have g1 : a.length = 16 := by have := of_decide_eq_false c1; omega
        have c2 : ((a.length : Int) == 16) = true := by rw [g1]; rfl
        cases c3 : decide ((32767 : Int) < ((a.getD 15 0 : Nat) : Int)) with
        | true =>
          have hgo : redGo s = true := by
            unfold redGo
            rw [hs]
            have : decide (32767 < a.getD 15 0) = true := decide_eq_true (by have := of_decide_eq_true c3; omega)
            simp only [this, Bool.or_true]
          have X1 := Xg hgo
          have X2 := Xm hgo
          have X3 := (redNext_spec x3' hgo).1
          simp only [redOut0, c1, c2, c3, envR, con0, conN0, conN1, conN2, natsOf_arr, rowOf_arr, natsOf_cells, rowOf_cells, toN, natL_st, natL_d, natL_enc, natL_up, gr1, gaddC, gtimesC, gprimeC, gbelowC, gminC, conB2, retQx, Nat.sub_zero, go_sem]
          repeat' apply And.intro
          all_goals first
            | omega
            | exact n19_lt
            | exact prime_lt
            | exact bD
            | exact bR
            | exact hlow
            | exact ht
            | exact hT
            | rfl
            | skip
          refine loop_inv (envR_ok gr1_ok 132 [0]) (rdI1 0 a.length [(0, ⟨.arr Nat natL a, wa⟩)] D) (rdOk1 a.length) (fun x => a.length - rdIx x) (.inl 0) [(700, 30000)] (Nat.zero_le _) ?_ ?_
          · simp only [rdI1, lowI_0, envR, con0, conN0, conN1, conN2, natsOf_arr, rowOf_arr, natsOf_cells, rowOf_cells, toN, natL_st, natL_d, natL_enc, natL_up, gr1, gaddC, gtimesC, gprimeC, gbelowC, gminC, conB2, retQx, Nat.sub_zero, go_sem]
            exact ⟨rfl, id, rfl⟩
          · rintro y hy
            rcases y with i | m
            · simp only [rdOk1] at hy
              have ll := lowI_len D i (by omega) (by omega)
              have c0 : decide ((i : Int) < (a.length : Int)) = true := decide_eq_true (by omega)
              have rA : a.getD i 0 = D.getD i 0 := rD i (by omega)
              have bA := bD i
              by_cases hi : i < 15
              · have c15 : decide ((i : Int) < 15) = true := decide_eq_true (by omega)
                have e15 : ((i : Int) == 15) = false := beq_eq_false_iff_ne.2 (by omega)
                have g15 : decide ((15 : Int) ≤ (i : Int)) = false := decide_eq_false (by omega)
                have w1 : IntKind.i64.wrap ((i : Int) + 1) = ((i + 1 : Nat) : Int) := by rw [IntKind.wrap_i64]; omega
                have st := lowI_step D i hi (by omega)
                simp only [rdI1, c0, c15, e15, g15, w1, rA, envR, con0, conN0, conN1, conN2, natsOf_arr, rowOf_arr, natsOf_cells, rowOf_cells, toN, natL_st, natL_d, natL_enc, natL_up, gr1, gaddC, gtimesC, gprimeC, gbelowC, gminC, conB2, retQx, Nat.sub_zero, go_sem]
                repeat' apply And.intro
                all_goals first
                  | omega
                  | exact n19_lt
                  | exact prime_lt
                  | exact bD
                  | exact bR
                  | exact hlow
                  | exact ht
                  | exact hT
                  | rfl
                  | skip
                refine again (Sum.inl (i + 1) : Nat ⊕ Nat) [] (by simp only [rdOk1]; omega) (by simp only [rdIx]; omega) ?_
                simp only [rdI1, st, envR, con0, conN0, conN1, conN2, natsOf_arr, rowOf_arr, natsOf_cells, rowOf_cells, toN, natL_st, natL_d, natL_enc, natL_up, gr1, gaddC, gtimesC, gprimeC, gbelowC, gminC, conB2, retQx, Nat.sub_zero, go_sem]
                exact ⟨rfl, id⟩
              · obtain rfl : i = 15 := by omega
                have c0 : decide ((15 : Int) < (a.length : Int)) = true := decide_eq_true (by omega)
                have u1 : ((D.getD 15 0 : Nat) : Int).tmod 32768 = ((D.getD 15 0 % 32768 : Nat) : Int) := by rw [show (32768 : Int) = ((32768 : Nat) : Int) from rfl, ← Int.ofNat_tmod]
                have u2 : IntKind.i64.wrap (((D.getD 15 0 : Nat) : Int).tdiv 32768) = ((D.getD 15 0 / 32768 : Nat) : Int) := by
                  rw [show (32768 : Int) = ((32768 : Nat) : Int) from rfl, ← Int.ofNat_tdiv, IntKind.wrap_i64]; omega
                have st := lowI_end D (by omega)
                have hh1 : highW D 1 = [nW D 0] := rfl
                have bn := nW_lt bD 0
                have u6 : ((nW D 0 : Nat) : Int).tmod 65536 = ((nW D 0 : Nat) : Int) := by rw [show (65536 : Int) = ((65536 : Nat) : Int) from rfl, ← Int.ofNat_tmod, Nat.mod_eq_of_lt bn]
                have z := getD_out (l := D) (i := 16) (by omega)
                have u5 : ((D.getD 15 0 / 32768 : Nat) : Int) = ((nW D 0 : Nat) : Int) := by
                  simp only [nW, Nat.add_zero, Nat.reduceAdd, z]; omega
                simp only [rdI1, c0, c1, u1, u2, u5, u6, rA, envR, con0, conN0, conN1, conN2, natsOf_arr, rowOf_arr, natsOf_cells, rowOf_cells, toN, natL_st, natL_d, natL_enc, natL_up, gr1, gaddC, gtimesC, gprimeC, gbelowC, gminC, conB2, retQx, Nat.sub_zero, go_sem]
                repeat' apply And.intro
                all_goals first
                  | omega
                  | exact n19_lt
                  | exact prime_lt
                  | exact bD
                  | exact bR
                  | exact hlow
                  | exact ht
                  | exact hT
                  | rfl
                  | skip
                refine again (Sum.inr 0 : Nat ⊕ Nat) [(800, 160032)] (by simp only [rdOk1]; omega) (by simp only [rdIx]; omega) ?_
                simp only [rdI1, st, hh1, envR, con0, conN0, conN1, conN2, natsOf_arr, rowOf_arr, natsOf_cells, rowOf_cells, toN, natL_st, natL_d, natL_enc, natL_up, gr1, gaddC, gtimesC, gprimeC, gbelowC, gminC, conB2, retQx, Nat.sub_zero, go_sem]
                exact ⟨rfl, id⟩
            · simp only [rdOk1] at hy
              have bA := bD (16 + m)
              have bB := bD (16 + m + 1)
              have hhl := highW_len D (m + 1)
              cases c0 : decide (((16 + m : Nat) : Int) < (a.length : Int)) with
              | true =>
                exfalso; have := of_decide_eq_true c0; omega
              | false =>
                have ge : m + 1 = a.length - 15 := by have := of_decide_eq_false c0; omega
                have hbh := highW_lt bD (m + 1)
                rw [← ge] at hHi hK
                simp only [rdI1, c0, envR, con0, conN0, conN1, conN2, natsOf_arr, rowOf_arr, natsOf_cells, rowOf_cells, toN, natL_st, natL_d, natL_enc, natL_up, gr1, gaddC, gtimesC, gprimeC, gbelowC, gminC, conB2, retQx, Nat.sub_zero, go_sem]
                refine loop_inv (envR_ok gr1_ok 132 [0]) (rdI2 a wa D (m + 1)) (fun k => trimW (highW D (m + 1)) 0 k = trimW (highW D (m + 1)) 0 (m + 1) ∧ k ≤ m + 1) (fun k => k) (m + 1) [] ⟨rfl, Nat.le_refl _⟩ ?_ ?_
                · simp only [rdI2, envR, con0, conN0, conN1, conN2, natsOf_arr, rowOf_arr, natsOf_cells, rowOf_cells, toN, natL_st, natL_d, natL_enc, natL_up, gr1, gaddC, gtimesC, gprimeC, gbelowC, gminC, conB2, retQx, Nat.sub_zero, go_sem]
                  exact ⟨rfl, id⟩
                · rintro k ⟨k1, k2⟩
                  rcases k with _ | j
                  · have hk0 : redK s = 0 := hK.trans k1.symm
                    have hr0 : redR s = lowW D := by unfold redR; rw [if_pos hk0, hsD]
                    have hnx : redNext s = (lowW D, 16) := by
                      unfold redNext
                      rw [hr0, hll]
                      exact congrArg _ (trimW_stop (.inr (.inl (Nat.le_refl _))))
                    rw [hnx] at X1 X2 X3
                    simp only [rdI2, envR, con0, conN0, conN1, conN2, natsOf_arr, rowOf_arr, natsOf_cells, rowOf_cells, toN, natL_st, natL_d, natL_enc, natL_up, gr1, gaddC, gtimesC, gprimeC, gbelowC, gminC, conB2, retQx, Nat.sub_zero, go_sem]
                    refine loop_rounds (envR_ok gr1_ok 132 [0]) 1 ?_
                    simp only [rdI2, envR, con0, conN0, conN1, conN2, natsOf_arr, rowOf_arr, natsOf_cells, rowOf_cells, toN, natL_st, natL_d, natL_enc, natL_up, gr1, gaddC, gtimesC, gprimeC, gbelowC, gminC, conB2, retQx, Nat.sub_zero, go_sem]
                    refine again (some (f', lowW D, 16) : Option (Nat × List Nat × Nat)) [(600, 700)] ⟨X1, X2, X3⟩ (by simp only [redMu]; omega) ?_
                    simp only [redOut0, envR, con0, conN0, conN1, conN2, natsOf_arr, rowOf_arr, natsOf_cells, rowOf_cells, toN, natL_st, natL_d, natL_enc, natL_up, gr1, gaddC, gtimesC, gprimeC, gbelowC, gminC, conB2, retQx, Nat.sub_zero, go_sem]
                    exact ⟨rfl, id⟩
                  · have hwj : IntKind.i64.wrap (((j + 1 : Nat) : Int) - 1) = (j : Int) := by rw [IntKind.wrap_i64]; omega
                    have cpos : decide ((0 : Int) < ((j + 1 : Nat) : Int)) = true := decide_eq_true (by omega)
                    cases cz : ((((highW D (m + 1)).getD j 0 : Nat) : Int) == 0) with
                    | true =>
                      have gz : (highW D (m + 1)).getD j 0 = 0 := by have := eq_of_beq cz; omega
                      have k1' := (trimW_go (Nat.zero_le j) gz).symm.trans k1
                      simp only [rdI2, hwj, cpos, cz, envR, con0, conN0, conN1, conN2, natsOf_arr, rowOf_arr, natsOf_cells, rowOf_cells, toN, natL_st, natL_d, natL_enc, natL_up, gr1, gaddC, gtimesC, gprimeC, gbelowC, gminC, conB2, retQx, Nat.sub_zero, go_sem]
                      repeat' apply And.intro
                      all_goals first
                        | omega
                        | exact n19_lt
                        | exact prime_lt
                        | exact bD
                        | exact bR
                        | exact hlow
                        | exact ht
                        | exact hT
                        | rfl
                        | skip
                      refine again j [] ⟨k1', by omega⟩ (by omega) ?_
                      simp only [rdI2, envR, con0, conN0, conN1, conN2, natsOf_arr, rowOf_arr, natsOf_cells, rowOf_cells, toN, natL_st, natL_d, natL_enc, natL_up, gr1, gaddC, gtimesC, gprimeC, gbelowC, gminC, conB2, retQx, Nat.sub_zero, go_sem]
                      exact ⟨rfl, id⟩
                    | false =>
                      have gz : (highW D (m + 1)).getD j 0 ≠ 0 := by have := ne_of_beq_false cz; omega
                      have hk1 : redK s = j + 1 := (hK.trans k1.symm).trans (trimW_stop (.inr (.inr gz)))
                      have hr1 : redR s = addL 65536 (lowW D) (timesL 65536 ((highW D (m + 1)).take (j + 1)) [19]) := by unfold redR; rw [if_neg (by rw [hk1]; omega), hk1, hHi, hsD]
                      have ht : dlt 65536 ((highW D (m + 1)).take (j + 1)) := dlt_take hbh _
                      have hT : dlt 65536 (timesL 65536 ((highW D (m + 1)).take (j + 1)) [19]) := timesL_lt (by decide) ht n19_lt
                      have hTl : (timesL 65536 ((highW D (m + 1)).take (j + 1)) [19]).length = j + 1 + 1 := by rw [timesL_len, List.length_take, hhl, Nat.min_eq_left k2]; rfl
                      have htl : (lowW D).take 16 = lowW D := List.take_of_length_le (by omega)
                      have l19 : [19].take 1 = [19] := rfl
                      have hAl := addLen_bd 65536 (lowW D) (timesL 65536 ((highW D (m + 1)).take (j + 1)) [19])
                      rw [← addL_len, hll, hTl] at hAl
                      simp only [rdI2, hwj, cpos, cz, htl, List.take_length, envR, con0, conN0, conN1, conN2, natsOf_arr, rowOf_arr, natsOf_cells, rowOf_cells, toN, natL_st, natL_d, natL_enc, natL_up, gr1, gaddC, gtimesC, gprimeC, gbelowC, gminC, conB2, retQx, Nat.sub_zero, go_sem]
                      repeat' apply And.intro
                      all_goals first
                        | omega
                        | exact n19_lt
                        | exact prime_lt
                        | exact bD
                        | exact bR
                        | exact hlow
                        | exact ht
                        | exact hT
                        | rfl
                        | skip
                      obtain ⟨R', hR'⟩ : ∃ R', R' = addL 65536 (lowW D) (timesL 65536 ((highW D (m + 1)).take (j + 1)) [19]) := ⟨_, rfl⟩
                      rw [← hR'] at hr1 hAl ⊢
                      refine loop_inv (envR_ok gr1_ok 132 [0]) (rdI4 a wa R') (fun q => trimW R' 16 q = trimW R' 16 R'.length ∧ 16 ≤ q ∧ q ≤ R'.length) (fun q => q) R'.length [(900, 210032)] ⟨rfl, by omega, Nat.le_refl _⟩ ?_ ?_
                      · simp only [rdI4, envR, con0, conN0, conN1, conN2, natsOf_arr, rowOf_arr, natsOf_cells, rowOf_cells, toN, natL_st, natL_d, natL_enc, natL_up, gr1, gaddC, gtimesC, gprimeC, gbelowC, gminC, conB2, retQx, Nat.sub_zero, go_sem]
                        exact ⟨rfl, id⟩
                      · rintro q ⟨q1, q2, q3⟩
                        have hnx : ∀ p, trimW R' 16 q = p → redNext s = (R', p) := fun p hp => by
                          unfold redNext
                          rw [hr1, ← q1, hp]
                        cases c16 : decide ((16 : Int) < (q : Int)) with
                        | false =>
                          obtain rfl : q = 16 := by have := of_decide_eq_false c16; omega
                          rw [hnx 16 (trimW_stop (.inr (.inl (Nat.le_refl _))))] at X1 X2 X3
                          simp only [rdI4, envR, con0, conN0, conN1, conN2, natsOf_arr, rowOf_arr, natsOf_cells, rowOf_cells, toN, natL_st, natL_d, natL_enc, natL_up, gr1, gaddC, gtimesC, gprimeC, gbelowC, gminC, conB2, retQx, Nat.sub_zero, go_sem]
                          refine again (some (f', R', 16) : Option (Nat × List Nat × Nat)) [(600, 900)] ⟨X1, X2, X3⟩ (by simp only [redMu]; omega) ?_
                          simp only [redOut0, envR, con0, conN0, conN1, conN2, natsOf_arr, rowOf_arr, natsOf_cells, rowOf_cells, toN, natL_st, natL_d, natL_enc, natL_up, gr1, gaddC, gtimesC, gprimeC, gbelowC, gminC, conB2, retQx, Nat.sub_zero, go_sem]
                          exact ⟨rfl, id⟩
                        | true =>
                          obtain ⟨j', rfl⟩ : ∃ j', q = j' + 1 := ⟨q - 1, by have := of_decide_eq_true c16; omega⟩
                          have hj : 16 ≤ j' := by have := of_decide_eq_true c16; omega
                          have hwj' : IntKind.i64.wrap (((j' + 1 : Nat) : Int) - 1) = (j' : Int) := by rw [IntKind.wrap_i64]; omega
                          cases cy : (((R'.getD j' 0 : Nat) : Int) == 0) with
                          | true =>
                            have gy : R'.getD j' 0 = 0 := by have := eq_of_beq cy; omega
                            have q1' := (trimW_go hj gy).symm.trans q1
                            simp only [rdI4, c16, hwj', cy, envR, con0, conN0, conN1, conN2, natsOf_arr, rowOf_arr, natsOf_cells, rowOf_cells, toN, natL_st, natL_d, natL_enc, natL_up, gr1, gaddC, gtimesC, gprimeC, gbelowC, gminC, conB2, retQx, Nat.sub_zero, go_sem]
                            repeat' apply And.intro
                            all_goals first
                              | omega
                              | exact n19_lt
                              | exact prime_lt
                              | exact bD
                              | exact bR
                              | exact hlow
                              | exact ht
                              | exact hT
                              | rfl
                              | skip
                            refine again j' [] ⟨q1', by omega⟩ (by omega) ?_
                            simp only [rdI4, envR, con0, conN0, conN1, conN2, natsOf_arr, rowOf_arr, natsOf_cells, rowOf_cells, toN, natL_st, natL_d, natL_enc, natL_up, gr1, gaddC, gtimesC, gprimeC, gbelowC, gminC, conB2, retQx, Nat.sub_zero, go_sem]
                            exact ⟨rfl, id⟩
                          | false =>
                            have gy : R'.getD j' 0 ≠ 0 := by have := ne_of_beq_false cy; omega
                            rw [hnx (j' + 1) (trimW_stop (.inr (.inr gy)))] at X1 X2 X3
                            simp only [rdI4, c16, hwj', cy, envR, con0, conN0, conN1, conN2, natsOf_arr, rowOf_arr, natsOf_cells, rowOf_cells, toN, natL_st, natL_d, natL_enc, natL_up, gr1, gaddC, gtimesC, gprimeC, gbelowC, gminC, conB2, retQx, Nat.sub_zero, go_sem]
                            repeat' apply And.intro
                            all_goals first
                              | omega
                              | exact n19_lt
                              | exact prime_lt
                              | exact bD
                              | exact bR
                              | exact hlow
                              | exact ht
                              | exact hT
                              | rfl
                              | skip
                            refine again (some (f', R', j' + 1) : Option (Nat × List Nat × Nat)) [(600, 900)] ⟨X1, X2, X3⟩ (by simp only [redMu]; omega) ?_
                            simp only [redOut0, envR, con0, conN0, conN1, conN2, natsOf_arr, rowOf_arr, natsOf_cells, rowOf_cells, toN, natL_st, natL_d, natL_enc, natL_up, gr1, gaddC, gtimesC, gprimeC, gbelowC, gminC, conB2, retQx, Nat.sub_zero, go_sem]
                            exact ⟨rfl, id⟩
        | false =>
          have hgo : redGo s = false := by
            unfold redGo
            rw [hs]
            have h1 : decide (32767 < a.getD 15 0) = false := decide_eq_false (by have := of_decide_eq_false c3; omega)
            have h2 : decide (16 < a.length) = false := decide_eq_false (by omega)
            simp only [h1, h2, Bool.or_false]
          have hend : redEnd a = (a, a.length) := redEnd_no (by rw [← hs]; exact hgo)
          have hrow : redRow a = if decide (dv 65536 (a.take 16) < dv 65536 primeL) = true then a else minL 65536 a primeL := by unfold redRow; rw [hend]; rfl
          have hpt : primeL.take 16 = primeL := rfl
          have hpl : primeL.length = 16 := rfl
          simp only [redOut0, g1, c1, c2, c3, envR, con0, conN0, conN1, conN2, natsOf_arr, rowOf_arr, natsOf_cells, rowOf_cells, toN, natL_st, natL_d, natL_enc, natL_up, gr1, gaddC, gtimesC, gprimeC, gbelowC, gminC, conB2, retQx, Nat.sub_zero, go_sem]
          all_goals try (repeat' apply And.intro)
          all_goals first | omega | skip
          refine loop_rounds (envR_ok gr1_ok 132 [0]) 1 ?_
          simp only [g1, envR, con0, conN0, conN1, conN2, natsOf_arr, rowOf_arr, natsOf_cells, rowOf_cells, toN, natL_st, natL_d, natL_enc, natL_up, gr1, gaddC, gtimesC, gprimeC, gbelowC, gminC, conB2, retQx, Nat.sub_zero, go_sem]
          cases hb : decide (dv 65536 (a.take 16) < dv 65536 primeL) with
          | true =>
            rw [hb, if_pos rfl] at hrow
            exact absurd (by unfold redStop; rw [← hs, hgo, hb]; rfl) hns
          | false =>
            rw [hb, if_neg (by decide)] at hrow
            simp only [g1, hb, hpt, hpl, envR, con0, conN0, conN1, conN2, natsOf_arr, rowOf_arr, natsOf_cells, rowOf_cells, toN, natL_st, natL_d, natL_enc, natL_up, gr1, gaddC, gtimesC, gprimeC, gbelowC, gminC, conB2, retQx, Nat.sub_zero, go_sem]
            repeat' apply And.intro
            all_goals first
              | omega
              | exact n19_lt
              | exact prime_lt
              | exact bD
              | exact bR
              | exact hlow
              | exact ht
              | exact hT
              | rfl
              | skip
            refine endX [(1, 280016)] ?_
            simp only [hrow, envR, con0, conN0, conN1, conN2, natsOf_arr, rowOf_arr, natsOf_cells, rowOf_cells, toN, natL_st, natL_d, natL_enc, natL_up, gr1, gaddC, gtimesC, gprimeC, gbelowC, gminC, conB2, retQx, Nat.sub_zero, go_sem]
            exact ⟨rfl, id⟩
    · obtain ⟨x1, x2, x3⟩ := hx
      obtain ⟨f', rfl⟩ : ∃ f', f = f' + 1 := ⟨f - 1, by omega⟩
      obtain ⟨s, hs⟩ : ∃ s, s = (R, n) := ⟨_, rfl⟩
      obtain ⟨D, hD⟩ : ∃ D, D = R.take n := ⟨_, rfl⟩
      have x3' : redInv s := by rw [hs]; exact x3
      obtain ⟨i1, i2, i3, i4⟩ := x3
      simp only at i1 i2 i3 i4
      have hsD : s.1.take s.2 = D := by rw [hs, hD]
      have dl : D.length = n := by rw [hD, List.length_take]; omega
      have bD : dlt 65536 D := by rw [hD]; exact dlt_take i1 _
      have bR : dlt 65536 R := i1
      have rD : ∀ i, i < n → R.getD i 0 = D.getD i 0 := fun i hi => by rw [hD]; exact take_getD _ _ _ (by rw [List.length_take]; omega)
      have hll : (lowW D).length = 16 := lowW_len (by omega)
      have hlow : dlt 65536 (lowW D) := lowW_lt bD
      have hHi : redHi s = highW D (n - 15) := by unfold redHi; rw [hsD, hs]
      have hK : redK s = trimW (highW D (n - 15)) 0 (n - 15) := by unfold redK; rw [hHi, hs]
      have b15 := bD 15
      have r15 : R.getD 15 0 = D.getD 15 0 := rD 15 (by omega)
      have Xg : redGo s = true → redRun f' (redNext s) = redEnd a := fun hgo => by
        rw [← x1, ← hs, redRun, if_pos hgo]
      have Xm : redGo s = true → redMeas (redNext s) < f' := fun hgo => by
        have := (redNext_spec x3' hgo).2.2
        rw [← hs] at x2; omega
      cases c1 : decide ((16 : Int) < (n : Int)) with
      | true =>
        have g1 : 16 < n := by have := of_decide_eq_true c1; omega
        have hgo : redGo s = true := by unfold redGo; rw [hs, decide_eq_true g1]; rfl
        have X1 := Xg hgo
        have X2 := Xm hgo
        have X3 := (redNext_spec x3' hgo).1
        simp only [redOut0, c1, envR, con0, conN0, conN1, conN2, natsOf_arr, rowOf_arr, natsOf_cells, rowOf_cells, toN, natL_st, natL_d, natL_enc, natL_up, gr1, gaddC, gtimesC, gprimeC, gbelowC, gminC, conB2, retQx, Nat.sub_zero, go_sem]
        refine loop_inv (envR_ok gr1_ok 132 [0]) (rdI1 600 n [(0, ⟨.arr Nat natL a, wa⟩), (600, ⟨.arr Nat natL R, true⟩)] D) (rdOk1 n) (fun x => n - rdIx x) (.inl 0) [(700, 30000)] (Nat.zero_le _) ?_ ?_
        · simp only [rdI1, lowI_0, envR, con0, conN0, conN1, conN2, natsOf_arr, rowOf_arr, natsOf_cells, rowOf_cells, toN, natL_st, natL_d, natL_enc, natL_up, gr1, gaddC, gtimesC, gprimeC, gbelowC, gminC, conB2, retQx, Nat.sub_zero, go_sem]
          exact ⟨rfl, id, rfl⟩
        · rintro y hy
          rcases y with i | m
          · simp only [rdOk1] at hy
            have ll := lowI_len D i (by omega) (by omega)
            have c0 : decide ((i : Int) < (n : Int)) = true := decide_eq_true (by omega)
            have rA : R.getD i 0 = D.getD i 0 := rD i (by omega)
            have bA := bD i
            by_cases hi : i < 15
            · have c15 : decide ((i : Int) < 15) = true := decide_eq_true (by omega)
              have e15 : ((i : Int) == 15) = false := beq_eq_false_iff_ne.2 (by omega)
              have g15 : decide ((15 : Int) ≤ (i : Int)) = false := decide_eq_false (by omega)
              have w1 : IntKind.i64.wrap ((i : Int) + 1) = ((i + 1 : Nat) : Int) := by rw [IntKind.wrap_i64]; omega
              have st := lowI_step D i hi (by omega)
              simp only [rdI1, c0, c15, e15, g15, w1, rA, envR, con0, conN0, conN1, conN2, natsOf_arr, rowOf_arr, natsOf_cells, rowOf_cells, toN, natL_st, natL_d, natL_enc, natL_up, gr1, gaddC, gtimesC, gprimeC, gbelowC, gminC, conB2, retQx, Nat.sub_zero, go_sem]
              repeat' apply And.intro
              all_goals first
                | omega
                | exact n19_lt
                | exact prime_lt
                | exact bD
                | exact bR
                | exact hlow
                | exact ht
                | exact hT
                | rfl
                | skip
              refine again (Sum.inl (i + 1) : Nat ⊕ Nat) [] (by simp only [rdOk1]; omega) (by simp only [rdIx]; omega) ?_
              simp only [rdI1, st, envR, con0, conN0, conN1, conN2, natsOf_arr, rowOf_arr, natsOf_cells, rowOf_cells, toN, natL_st, natL_d, natL_enc, natL_up, gr1, gaddC, gtimesC, gprimeC, gbelowC, gminC, conB2, retQx, Nat.sub_zero, go_sem]
              exact ⟨rfl, id⟩
            · obtain rfl : i = 15 := by omega
              have c0 : decide ((15 : Int) < (n : Int)) = true := decide_eq_true (by omega)
              have u1 : ((D.getD 15 0 : Nat) : Int).tmod 32768 = ((D.getD 15 0 % 32768 : Nat) : Int) := by rw [show (32768 : Int) = ((32768 : Nat) : Int) from rfl, ← Int.ofNat_tmod]
              have u2 : IntKind.i64.wrap (((D.getD 15 0 : Nat) : Int).tdiv 32768) = ((D.getD 15 0 / 32768 : Nat) : Int) := by
                rw [show (32768 : Int) = ((32768 : Nat) : Int) from rfl, ← Int.ofNat_tdiv, IntKind.wrap_i64]; omega
              have st := lowI_end D (by omega)
              have hh1 : highW D 1 = [nW D 0] := rfl
              have bn := nW_lt bD 0
              have u6 : ((nW D 0 : Nat) : Int).tmod 65536 = ((nW D 0 : Nat) : Int) := by rw [show (65536 : Int) = ((65536 : Nat) : Int) from rfl, ← Int.ofNat_tmod, Nat.mod_eq_of_lt bn]
              have rB : R.getD 16 0 = D.getD 16 0 := rD 16 (by omega)
              have bB := bD 16
              have u3 : ((D.getD 16 0 : Nat) : Int).tmod 32768 = ((D.getD 16 0 % 32768 : Nat) : Int) := by rw [show (32768 : Int) = ((32768 : Nat) : Int) from rfl, ← Int.ofNat_tmod]
              have u4 : IntKind.i64.wrap (((D.getD 16 0 % 32768 : Nat) : Int) * 2) = ((D.getD 16 0 % 32768 * 2 : Nat) : Int) := by rw [IntKind.wrap_i64]; omega
              have u5 : IntKind.i64.wrap (((D.getD 15 0 / 32768 : Nat) : Int) + ((D.getD 16 0 % 32768 * 2 : Nat) : Int)) = ((nW D 0 : Nat) : Int) := by
                rw [IntKind.wrap_i64]; simp only [nW, Nat.add_zero, Nat.reduceAdd]; omega
              simp only [rdI1, c0, c1, u1, u2, u3, u4, u5, u6, rA, rB, envR, con0, conN0, conN1, conN2, natsOf_arr, rowOf_arr, natsOf_cells, rowOf_cells, toN, natL_st, natL_d, natL_enc, natL_up, gr1, gaddC, gtimesC, gprimeC, gbelowC, gminC, conB2, retQx, Nat.sub_zero, go_sem]
              repeat' apply And.intro
              all_goals first
                | omega
                | exact n19_lt
                | exact prime_lt
                | exact bD
                | exact bR
                | exact hlow
                | exact ht
                | exact hT
                | rfl
                | skip
              refine again (Sum.inr 0 : Nat ⊕ Nat) [(800, 160032)] (by simp only [rdOk1]; omega) (by simp only [rdIx]; omega) ?_
              simp only [rdI1, st, hh1, envR, con0, conN0, conN1, conN2, natsOf_arr, rowOf_arr, natsOf_cells, rowOf_cells, toN, natL_st, natL_d, natL_enc, natL_up, gr1, gaddC, gtimesC, gprimeC, gbelowC, gminC, conB2, retQx, Nat.sub_zero, go_sem]
              exact ⟨rfl, id⟩
          · simp only [rdOk1] at hy
            have bA := bD (16 + m)
            have bB := bD (16 + m + 1)
            have hhl := highW_len D (m + 1)
            cases c0 : decide (((16 + m : Nat) : Int) < (n : Int)) with
            | true =>
              have g0 : 16 + m < n := by have := of_decide_eq_true c0; omega
              have c15 : decide (((16 + m : Nat) : Int) < 15) = false := decide_eq_false (by omega)
              have e15 : (((16 + m : Nat) : Int) == 15) = false := beq_eq_false_iff_ne.2 (by omega)
              have g15 : decide ((15 : Int) ≤ ((16 + m : Nat) : Int)) = true := decide_eq_true (by omega)
              have w1 : IntKind.i64.wrap (((16 + m : Nat) : Int) + 1) = ((16 + m + 1 : Nat) : Int) := by rw [IntKind.wrap_i64]; omega
              have rA : R.getD (16 + m) 0 = D.getD (16 + m) 0 := rD _ (by omega)
              have u2 : IntKind.i64.wrap (((D.getD (16 + m) 0 : Nat) : Int).tdiv 32768) = ((D.getD (16 + m) 0 / 32768 : Nat) : Int) := by
                rw [show (32768 : Int) = ((32768 : Nat) : Int) from rfl, ← Int.ofNat_tdiv, IntKind.wrap_i64]; omega
              have hn : nW D (m + 1) = D.getD (16 + m) 0 / 32768 + D.getD (16 + m + 1) 0 % 32768 * 2 := by
                unfold nW; rw [show 15 + (m + 1) = 16 + m by omega]
              have bn := nW_lt bD (m + 1)
              have u6 : ((nW D (m + 1) : Nat) : Int).tmod 65536 = ((nW D (m + 1) : Nat) : Int) := by rw [show (65536 : Int) = ((65536 : Nat) : Int) from rfl, ← Int.ofNat_tmod, Nat.mod_eq_of_lt bn]
              have hh1 := highW_succ D (m + 1)
              have hidx : 16 + (m + 1) = 16 + m + 1 := rfl
              cases c4 : decide (((16 + m + 1 : Nat) : Int) < (n : Int)) with
              | true =>
                have g4 : 16 + m + 1 < n := by have := of_decide_eq_true c4; omega
                have rB : R.getD (16 + m + 1) 0 = D.getD (16 + m + 1) 0 := rD _ (by omega)
                have u3 : ((D.getD (16 + m + 1) 0 : Nat) : Int).tmod 32768 = ((D.getD (16 + m + 1) 0 % 32768 : Nat) : Int) := by rw [show (32768 : Int) = ((32768 : Nat) : Int) from rfl, ← Int.ofNat_tmod]
                have u4 : IntKind.i64.wrap (((D.getD (16 + m + 1) 0 % 32768 : Nat) : Int) * 2) = ((D.getD (16 + m + 1) 0 % 32768 * 2 : Nat) : Int) := by rw [IntKind.wrap_i64]; omega
                have u5 : IntKind.i64.wrap (((D.getD (16 + m) 0 / 32768 : Nat) : Int) + ((D.getD (16 + m + 1) 0 % 32768 * 2 : Nat) : Int)) = ((nW D (m + 1) : Nat) : Int) := by
                  rw [IntKind.wrap_i64, hn]; omega
                simp only [rdI1, c0, c15, e15, g15, c4, w1, u2, u3, u4, u5, u6, rA, rB, envR, con0, conN0, conN1, conN2, natsOf_arr, rowOf_arr, natsOf_cells, rowOf_cells, toN, natL_st, natL_d, natL_enc, natL_up, gr1, gaddC, gtimesC, gprimeC, gbelowC, gminC, conB2, retQx, Nat.sub_zero, go_sem]
                repeat' apply And.intro
                all_goals first
                  | omega
                  | exact n19_lt
                  | exact prime_lt
                  | exact bD
                  | exact bR
                  | exact hlow
                  | exact ht
                  | exact hT
                  | rfl
                  | skip
                refine again (Sum.inr (m + 1) : Nat ⊕ Nat) [(800, 160032)] (by simp only [rdOk1]; omega) (by simp only [rdIx]; omega) ?_
                simp only [rdI1, hh1, hidx, envR, con0, conN0, conN1, conN2, natsOf_arr, rowOf_arr, natsOf_cells, rowOf_cells, toN, natL_st, natL_d, natL_enc, natL_up, gr1, gaddC, gtimesC, gprimeC, gbelowC, gminC, conB2, retQx, Nat.sub_zero, go_sem]
                exact ⟨rfl, id⟩
              | false =>
                have z := getD_out (l := D) (i := 16 + m + 1) (by have := of_decide_eq_false c4; omega)
                have u5 : ((D.getD (16 + m) 0 / 32768 : Nat) : Int) = ((nW D (m + 1) : Nat) : Int) := by
                  rw [hn, z]; omega
                simp only [rdI1, c0, c15, e15, g15, c4, w1, u2, u5, u6, rA, envR, con0, conN0, conN1, conN2, natsOf_arr, rowOf_arr, natsOf_cells, rowOf_cells, toN, natL_st, natL_d, natL_enc, natL_up, gr1, gaddC, gtimesC, gprimeC, gbelowC, gminC, conB2, retQx, Nat.sub_zero, go_sem]
                repeat' apply And.intro
                all_goals first
                  | omega
                  | exact n19_lt
                  | exact prime_lt
                  | exact bD
                  | exact bR
                  | exact hlow
                  | exact ht
                  | exact hT
                  | rfl
                  | skip
                refine again (Sum.inr (m + 1) : Nat ⊕ Nat) [(800, 160032)] (by simp only [rdOk1]; omega) (by simp only [rdIx]; omega) ?_
                simp only [rdI1, hh1, hidx, envR, con0, conN0, conN1, conN2, natsOf_arr, rowOf_arr, natsOf_cells, rowOf_cells, toN, natL_st, natL_d, natL_enc, natL_up, gr1, gaddC, gtimesC, gprimeC, gbelowC, gminC, conB2, retQx, Nat.sub_zero, go_sem]
                exact ⟨rfl, id⟩
            | false =>
              have ge : m + 1 = n - 15 := by have := of_decide_eq_false c0; omega
              have hbh := highW_lt bD (m + 1)
              rw [← ge] at hHi hK
              simp only [rdI1, c0, envR, con0, conN0, conN1, conN2, natsOf_arr, rowOf_arr, natsOf_cells, rowOf_cells, toN, natL_st, natL_d, natL_enc, natL_up, gr1, gaddC, gtimesC, gprimeC, gbelowC, gminC, conB2, retQx, Nat.sub_zero, go_sem]
              refine loop_inv (envR_ok gr1_ok 132 [0]) (rdI2 a wa D (m + 1)) (fun k => trimW (highW D (m + 1)) 0 k = trimW (highW D (m + 1)) 0 (m + 1) ∧ k ≤ m + 1) (fun k => k) (m + 1) [] ⟨rfl, Nat.le_refl _⟩ ?_ ?_
              · simp only [rdI2, envR, con0, conN0, conN1, conN2, natsOf_arr, rowOf_arr, natsOf_cells, rowOf_cells, toN, natL_st, natL_d, natL_enc, natL_up, gr1, gaddC, gtimesC, gprimeC, gbelowC, gminC, conB2, retQx, Nat.sub_zero, go_sem]
                exact ⟨rfl, id⟩
              · rintro k ⟨k1, k2⟩
                rcases k with _ | j
                · have hk0 : redK s = 0 := hK.trans k1.symm
                  have hr0 : redR s = lowW D := by unfold redR; rw [if_pos hk0, hsD]
                  have hnx : redNext s = (lowW D, 16) := by
                    unfold redNext
                    rw [hr0, hll]
                    exact congrArg _ (trimW_stop (.inr (.inl (Nat.le_refl _))))
                  rw [hnx] at X1 X2 X3
                  simp only [rdI2, envR, con0, conN0, conN1, conN2, natsOf_arr, rowOf_arr, natsOf_cells, rowOf_cells, toN, natL_st, natL_d, natL_enc, natL_up, gr1, gaddC, gtimesC, gprimeC, gbelowC, gminC, conB2, retQx, Nat.sub_zero, go_sem]
                  refine loop_rounds (envR_ok gr1_ok 132 [0]) 1 ?_
                  simp only [rdI2, envR, con0, conN0, conN1, conN2, natsOf_arr, rowOf_arr, natsOf_cells, rowOf_cells, toN, natL_st, natL_d, natL_enc, natL_up, gr1, gaddC, gtimesC, gprimeC, gbelowC, gminC, conB2, retQx, Nat.sub_zero, go_sem]
                  refine again (some (f', lowW D, 16) : Option (Nat × List Nat × Nat)) [(600, 700)] ⟨X1, X2, X3⟩ (by simp only [redMu]; omega) ?_
                  simp only [redOut0, envR, con0, conN0, conN1, conN2, natsOf_arr, rowOf_arr, natsOf_cells, rowOf_cells, toN, natL_st, natL_d, natL_enc, natL_up, gr1, gaddC, gtimesC, gprimeC, gbelowC, gminC, conB2, retQx, Nat.sub_zero, go_sem]
                  exact ⟨rfl, id⟩
                · have hwj : IntKind.i64.wrap (((j + 1 : Nat) : Int) - 1) = (j : Int) := by rw [IntKind.wrap_i64]; omega
                  have cpos : decide ((0 : Int) < ((j + 1 : Nat) : Int)) = true := decide_eq_true (by omega)
                  cases cz : ((((highW D (m + 1)).getD j 0 : Nat) : Int) == 0) with
                  | true =>
                    have gz : (highW D (m + 1)).getD j 0 = 0 := by have := eq_of_beq cz; omega
                    have k1' := (trimW_go (Nat.zero_le j) gz).symm.trans k1
                    simp only [rdI2, hwj, cpos, cz, envR, con0, conN0, conN1, conN2, natsOf_arr, rowOf_arr, natsOf_cells, rowOf_cells, toN, natL_st, natL_d, natL_enc, natL_up, gr1, gaddC, gtimesC, gprimeC, gbelowC, gminC, conB2, retQx, Nat.sub_zero, go_sem]
                    repeat' apply And.intro
                    all_goals first
                      | omega
                      | exact n19_lt
                      | exact prime_lt
                      | exact bD
                      | exact bR
                      | exact hlow
                      | exact ht
                      | exact hT
                      | rfl
                      | skip
                    refine again j [] ⟨k1', by omega⟩ (by omega) ?_
                    simp only [rdI2, envR, con0, conN0, conN1, conN2, natsOf_arr, rowOf_arr, natsOf_cells, rowOf_cells, toN, natL_st, natL_d, natL_enc, natL_up, gr1, gaddC, gtimesC, gprimeC, gbelowC, gminC, conB2, retQx, Nat.sub_zero, go_sem]
                    exact ⟨rfl, id⟩
                  | false =>
                    have gz : (highW D (m + 1)).getD j 0 ≠ 0 := by have := ne_of_beq_false cz; omega
                    have hk1 : redK s = j + 1 := (hK.trans k1.symm).trans (trimW_stop (.inr (.inr gz)))
                    have hr1 : redR s = addL 65536 (lowW D) (timesL 65536 ((highW D (m + 1)).take (j + 1)) [19]) := by unfold redR; rw [if_neg (by rw [hk1]; omega), hk1, hHi, hsD]
                    have ht : dlt 65536 ((highW D (m + 1)).take (j + 1)) := dlt_take hbh _
                    have hT : dlt 65536 (timesL 65536 ((highW D (m + 1)).take (j + 1)) [19]) := timesL_lt (by decide) ht n19_lt
                    have hTl : (timesL 65536 ((highW D (m + 1)).take (j + 1)) [19]).length = j + 1 + 1 := by rw [timesL_len, List.length_take, hhl, Nat.min_eq_left k2]; rfl
                    have htl : (lowW D).take 16 = lowW D := List.take_of_length_le (by omega)
                    have l19 : [19].take 1 = [19] := rfl
                    have hAl := addLen_bd 65536 (lowW D) (timesL 65536 ((highW D (m + 1)).take (j + 1)) [19])
                    rw [← addL_len, hll, hTl] at hAl
                    simp only [rdI2, hwj, cpos, cz, htl, List.take_length, envR, con0, conN0, conN1, conN2, natsOf_arr, rowOf_arr, natsOf_cells, rowOf_cells, toN, natL_st, natL_d, natL_enc, natL_up, gr1, gaddC, gtimesC, gprimeC, gbelowC, gminC, conB2, retQx, Nat.sub_zero, go_sem]
                    repeat' apply And.intro
                    all_goals first
                      | omega
                      | exact n19_lt
                      | exact prime_lt
                      | exact bD
                      | exact bR
                      | exact hlow
                      | exact ht
                      | exact hT
                      | rfl
                      | skip
                    obtain ⟨R', hR'⟩ : ∃ R', R' = addL 65536 (lowW D) (timesL 65536 ((highW D (m + 1)).take (j + 1)) [19]) := ⟨_, rfl⟩
                    rw [← hR'] at hr1 hAl ⊢
                    refine loop_inv (envR_ok gr1_ok 132 [0]) (rdI4 a wa R') (fun q => trimW R' 16 q = trimW R' 16 R'.length ∧ 16 ≤ q ∧ q ≤ R'.length) (fun q => q) R'.length [(900, 210032)] ⟨rfl, by omega, Nat.le_refl _⟩ ?_ ?_
                    · simp only [rdI4, envR, con0, conN0, conN1, conN2, natsOf_arr, rowOf_arr, natsOf_cells, rowOf_cells, toN, natL_st, natL_d, natL_enc, natL_up, gr1, gaddC, gtimesC, gprimeC, gbelowC, gminC, conB2, retQx, Nat.sub_zero, go_sem]
                      exact ⟨rfl, id⟩
                    · rintro q ⟨q1, q2, q3⟩
                      have hnx : ∀ p, trimW R' 16 q = p → redNext s = (R', p) := fun p hp => by
                        unfold redNext
                        rw [hr1, ← q1, hp]
                      cases c16 : decide ((16 : Int) < (q : Int)) with
                      | false =>
                        obtain rfl : q = 16 := by have := of_decide_eq_false c16; omega
                        rw [hnx 16 (trimW_stop (.inr (.inl (Nat.le_refl _))))] at X1 X2 X3
                        simp only [rdI4, envR, con0, conN0, conN1, conN2, natsOf_arr, rowOf_arr, natsOf_cells, rowOf_cells, toN, natL_st, natL_d, natL_enc, natL_up, gr1, gaddC, gtimesC, gprimeC, gbelowC, gminC, conB2, retQx, Nat.sub_zero, go_sem]
                        refine again (some (f', R', 16) : Option (Nat × List Nat × Nat)) [(600, 900)] ⟨X1, X2, X3⟩ (by simp only [redMu]; omega) ?_
                        simp only [redOut0, envR, con0, conN0, conN1, conN2, natsOf_arr, rowOf_arr, natsOf_cells, rowOf_cells, toN, natL_st, natL_d, natL_enc, natL_up, gr1, gaddC, gtimesC, gprimeC, gbelowC, gminC, conB2, retQx, Nat.sub_zero, go_sem]
                        exact ⟨rfl, id⟩
                      | true =>
                        obtain ⟨j', rfl⟩ : ∃ j', q = j' + 1 := ⟨q - 1, by have := of_decide_eq_true c16; omega⟩
                        have hj : 16 ≤ j' := by have := of_decide_eq_true c16; omega
                        have hwj' : IntKind.i64.wrap (((j' + 1 : Nat) : Int) - 1) = (j' : Int) := by rw [IntKind.wrap_i64]; omega
                        cases cy : (((R'.getD j' 0 : Nat) : Int) == 0) with
                        | true =>
                          have gy : R'.getD j' 0 = 0 := by have := eq_of_beq cy; omega
                          have q1' := (trimW_go hj gy).symm.trans q1
                          simp only [rdI4, c16, hwj', cy, envR, con0, conN0, conN1, conN2, natsOf_arr, rowOf_arr, natsOf_cells, rowOf_cells, toN, natL_st, natL_d, natL_enc, natL_up, gr1, gaddC, gtimesC, gprimeC, gbelowC, gminC, conB2, retQx, Nat.sub_zero, go_sem]
                          repeat' apply And.intro
                          all_goals first
                            | omega
                            | exact n19_lt
                            | exact prime_lt
                            | exact bD
                            | exact bR
                            | exact hlow
                            | exact ht
                            | exact hT
                            | rfl
                            | skip
                          refine again j' [] ⟨q1', by omega⟩ (by omega) ?_
                          simp only [rdI4, envR, con0, conN0, conN1, conN2, natsOf_arr, rowOf_arr, natsOf_cells, rowOf_cells, toN, natL_st, natL_d, natL_enc, natL_up, gr1, gaddC, gtimesC, gprimeC, gbelowC, gminC, conB2, retQx, Nat.sub_zero, go_sem]
                          exact ⟨rfl, id⟩
                        | false =>
                          have gy : R'.getD j' 0 ≠ 0 := by have := ne_of_beq_false cy; omega
                          rw [hnx (j' + 1) (trimW_stop (.inr (.inr gy)))] at X1 X2 X3
                          simp only [rdI4, c16, hwj', cy, envR, con0, conN0, conN1, conN2, natsOf_arr, rowOf_arr, natsOf_cells, rowOf_cells, toN, natL_st, natL_d, natL_enc, natL_up, gr1, gaddC, gtimesC, gprimeC, gbelowC, gminC, conB2, retQx, Nat.sub_zero, go_sem]
                          repeat' apply And.intro
                          all_goals first
                            | omega
                            | exact n19_lt
                            | exact prime_lt
                            | exact bD
                            | exact bR
                            | exact hlow
                            | exact ht
                            | exact hT
                            | rfl
                            | skip
                          refine again (some (f', R', j' + 1) : Option (Nat × List Nat × Nat)) [(600, 900)] ⟨X1, X2, X3⟩ (by simp only [redMu]; omega) ?_
                          simp only [redOut0, envR, con0, conN0, conN1, conN2, natsOf_arr, rowOf_arr, natsOf_cells, rowOf_cells, toN, natL_st, natL_d, natL_enc, natL_up, gr1, gaddC, gtimesC, gprimeC, gbelowC, gminC, conB2, retQx, Nat.sub_zero, go_sem]
                          exact ⟨rfl, id⟩
      | false =>
        have g1 : n = 16 := by have := of_decide_eq_false c1; omega
        have c2 : ((n : Int) == 16) = true := by rw [g1]; rfl
        cases c3 : decide ((32767 : Int) < ((R.getD 15 0 : Nat) : Int)) with
        | true =>
          have hgo : redGo s = true := by
            unfold redGo
            rw [hs]
            have : decide (32767 < R.getD 15 0) = true := decide_eq_true (by have := of_decide_eq_true c3; omega)
            simp only [this, Bool.or_true]
          have X1 := Xg hgo
          have X2 := Xm hgo
          have X3 := (redNext_spec x3' hgo).1
          simp only [redOut0, c1, c2, c3, envR, con0, conN0, conN1, conN2, natsOf_arr, rowOf_arr, natsOf_cells, rowOf_cells, toN, natL_st, natL_d, natL_enc, natL_up, gr1, gaddC, gtimesC, gprimeC, gbelowC, gminC, conB2, retQx, Nat.sub_zero, go_sem]
          repeat' apply And.intro
          all_goals first
            | omega
            | exact n19_lt
            | exact prime_lt
            | exact bD
            | exact bR
            | exact hlow
            | exact ht
            | exact hT
            | rfl
            | skip
          refine loop_inv (envR_ok gr1_ok 132 [0]) (rdI1 600 n [(0, ⟨.arr Nat natL a, wa⟩), (600, ⟨.arr Nat natL R, true⟩)] D) (rdOk1 n) (fun x => n - rdIx x) (.inl 0) [(700, 30000)] (Nat.zero_le _) ?_ ?_
          · simp only [rdI1, lowI_0, envR, con0, conN0, conN1, conN2, natsOf_arr, rowOf_arr, natsOf_cells, rowOf_cells, toN, natL_st, natL_d, natL_enc, natL_up, gr1, gaddC, gtimesC, gprimeC, gbelowC, gminC, conB2, retQx, Nat.sub_zero, go_sem]
            exact ⟨rfl, id, rfl⟩
          · rintro y hy
            rcases y with i | m
            · simp only [rdOk1] at hy
              have ll := lowI_len D i (by omega) (by omega)
              have c0 : decide ((i : Int) < (n : Int)) = true := decide_eq_true (by omega)
              have rA : R.getD i 0 = D.getD i 0 := rD i (by omega)
              have bA := bD i
              by_cases hi : i < 15
              · have c15 : decide ((i : Int) < 15) = true := decide_eq_true (by omega)
                have e15 : ((i : Int) == 15) = false := beq_eq_false_iff_ne.2 (by omega)
                have g15 : decide ((15 : Int) ≤ (i : Int)) = false := decide_eq_false (by omega)
                have w1 : IntKind.i64.wrap ((i : Int) + 1) = ((i + 1 : Nat) : Int) := by rw [IntKind.wrap_i64]; omega
                have st := lowI_step D i hi (by omega)
                simp only [rdI1, c0, c15, e15, g15, w1, rA, envR, con0, conN0, conN1, conN2, natsOf_arr, rowOf_arr, natsOf_cells, rowOf_cells, toN, natL_st, natL_d, natL_enc, natL_up, gr1, gaddC, gtimesC, gprimeC, gbelowC, gminC, conB2, retQx, Nat.sub_zero, go_sem]
                repeat' apply And.intro
                all_goals first
                  | omega
                  | exact n19_lt
                  | exact prime_lt
                  | exact bD
                  | exact bR
                  | exact hlow
                  | exact ht
                  | exact hT
                  | rfl
                  | skip
                refine again (Sum.inl (i + 1) : Nat ⊕ Nat) [] (by simp only [rdOk1]; omega) (by simp only [rdIx]; omega) ?_
                simp only [rdI1, st, envR, con0, conN0, conN1, conN2, natsOf_arr, rowOf_arr, natsOf_cells, rowOf_cells, toN, natL_st, natL_d, natL_enc, natL_up, gr1, gaddC, gtimesC, gprimeC, gbelowC, gminC, conB2, retQx, Nat.sub_zero, go_sem]
                exact ⟨rfl, id⟩
              · obtain rfl : i = 15 := by omega
                have c0 : decide ((15 : Int) < (n : Int)) = true := decide_eq_true (by omega)
                have u1 : ((D.getD 15 0 : Nat) : Int).tmod 32768 = ((D.getD 15 0 % 32768 : Nat) : Int) := by rw [show (32768 : Int) = ((32768 : Nat) : Int) from rfl, ← Int.ofNat_tmod]
                have u2 : IntKind.i64.wrap (((D.getD 15 0 : Nat) : Int).tdiv 32768) = ((D.getD 15 0 / 32768 : Nat) : Int) := by
                  rw [show (32768 : Int) = ((32768 : Nat) : Int) from rfl, ← Int.ofNat_tdiv, IntKind.wrap_i64]; omega
                have st := lowI_end D (by omega)
                have hh1 : highW D 1 = [nW D 0] := rfl
                have bn := nW_lt bD 0
                have u6 : ((nW D 0 : Nat) : Int).tmod 65536 = ((nW D 0 : Nat) : Int) := by rw [show (65536 : Int) = ((65536 : Nat) : Int) from rfl, ← Int.ofNat_tmod, Nat.mod_eq_of_lt bn]
                have z := getD_out (l := D) (i := 16) (by omega)
                have u5 : ((D.getD 15 0 / 32768 : Nat) : Int) = ((nW D 0 : Nat) : Int) := by
                  simp only [nW, Nat.add_zero, Nat.reduceAdd, z]; omega
                simp only [rdI1, c0, c1, u1, u2, u5, u6, rA, envR, con0, conN0, conN1, conN2, natsOf_arr, rowOf_arr, natsOf_cells, rowOf_cells, toN, natL_st, natL_d, natL_enc, natL_up, gr1, gaddC, gtimesC, gprimeC, gbelowC, gminC, conB2, retQx, Nat.sub_zero, go_sem]
                repeat' apply And.intro
                all_goals first
                  | omega
                  | exact n19_lt
                  | exact prime_lt
                  | exact bD
                  | exact bR
                  | exact hlow
                  | exact ht
                  | exact hT
                  | rfl
                  | skip
                refine again (Sum.inr 0 : Nat ⊕ Nat) [(800, 160032)] (by simp only [rdOk1]; omega) (by simp only [rdIx]; omega) ?_
                simp only [rdI1, st, hh1, envR, con0, conN0, conN1, conN2, natsOf_arr, rowOf_arr, natsOf_cells, rowOf_cells, toN, natL_st, natL_d, natL_enc, natL_up, gr1, gaddC, gtimesC, gprimeC, gbelowC, gminC, conB2, retQx, Nat.sub_zero, go_sem]
                exact ⟨rfl, id⟩
            · simp only [rdOk1] at hy
              have bA := bD (16 + m)
              have bB := bD (16 + m + 1)
              have hhl := highW_len D (m + 1)
              cases c0 : decide (((16 + m : Nat) : Int) < (n : Int)) with
              | true =>
                exfalso; have := of_decide_eq_true c0; omega
              | false =>
                have ge : m + 1 = n - 15 := by have := of_decide_eq_false c0; omega
                have hbh := highW_lt bD (m + 1)
                rw [← ge] at hHi hK
                simp only [rdI1, c0, envR, con0, conN0, conN1, conN2, natsOf_arr, rowOf_arr, natsOf_cells, rowOf_cells, toN, natL_st, natL_d, natL_enc, natL_up, gr1, gaddC, gtimesC, gprimeC, gbelowC, gminC, conB2, retQx, Nat.sub_zero, go_sem]
                refine loop_inv (envR_ok gr1_ok 132 [0]) (rdI2 a wa D (m + 1)) (fun k => trimW (highW D (m + 1)) 0 k = trimW (highW D (m + 1)) 0 (m + 1) ∧ k ≤ m + 1) (fun k => k) (m + 1) [] ⟨rfl, Nat.le_refl _⟩ ?_ ?_
                · simp only [rdI2, envR, con0, conN0, conN1, conN2, natsOf_arr, rowOf_arr, natsOf_cells, rowOf_cells, toN, natL_st, natL_d, natL_enc, natL_up, gr1, gaddC, gtimesC, gprimeC, gbelowC, gminC, conB2, retQx, Nat.sub_zero, go_sem]
                  exact ⟨rfl, id⟩
                · rintro k ⟨k1, k2⟩
                  rcases k with _ | j
                  · have hk0 : redK s = 0 := hK.trans k1.symm
                    have hr0 : redR s = lowW D := by unfold redR; rw [if_pos hk0, hsD]
                    have hnx : redNext s = (lowW D, 16) := by
                      unfold redNext
                      rw [hr0, hll]
                      exact congrArg _ (trimW_stop (.inr (.inl (Nat.le_refl _))))
                    rw [hnx] at X1 X2 X3
                    simp only [rdI2, envR, con0, conN0, conN1, conN2, natsOf_arr, rowOf_arr, natsOf_cells, rowOf_cells, toN, natL_st, natL_d, natL_enc, natL_up, gr1, gaddC, gtimesC, gprimeC, gbelowC, gminC, conB2, retQx, Nat.sub_zero, go_sem]
                    refine loop_rounds (envR_ok gr1_ok 132 [0]) 1 ?_
                    simp only [rdI2, envR, con0, conN0, conN1, conN2, natsOf_arr, rowOf_arr, natsOf_cells, rowOf_cells, toN, natL_st, natL_d, natL_enc, natL_up, gr1, gaddC, gtimesC, gprimeC, gbelowC, gminC, conB2, retQx, Nat.sub_zero, go_sem]
                    refine again (some (f', lowW D, 16) : Option (Nat × List Nat × Nat)) [(600, 700)] ⟨X1, X2, X3⟩ (by simp only [redMu]; omega) ?_
                    simp only [redOut0, envR, con0, conN0, conN1, conN2, natsOf_arr, rowOf_arr, natsOf_cells, rowOf_cells, toN, natL_st, natL_d, natL_enc, natL_up, gr1, gaddC, gtimesC, gprimeC, gbelowC, gminC, conB2, retQx, Nat.sub_zero, go_sem]
                    exact ⟨rfl, id⟩
                  · have hwj : IntKind.i64.wrap (((j + 1 : Nat) : Int) - 1) = (j : Int) := by rw [IntKind.wrap_i64]; omega
                    have cpos : decide ((0 : Int) < ((j + 1 : Nat) : Int)) = true := decide_eq_true (by omega)
                    cases cz : ((((highW D (m + 1)).getD j 0 : Nat) : Int) == 0) with
                    | true =>
                      have gz : (highW D (m + 1)).getD j 0 = 0 := by have := eq_of_beq cz; omega
                      have k1' := (trimW_go (Nat.zero_le j) gz).symm.trans k1
                      simp only [rdI2, hwj, cpos, cz, envR, con0, conN0, conN1, conN2, natsOf_arr, rowOf_arr, natsOf_cells, rowOf_cells, toN, natL_st, natL_d, natL_enc, natL_up, gr1, gaddC, gtimesC, gprimeC, gbelowC, gminC, conB2, retQx, Nat.sub_zero, go_sem]
                      repeat' apply And.intro
                      all_goals first
                        | omega
                        | exact n19_lt
                        | exact prime_lt
                        | exact bD
                        | exact bR
                        | exact hlow
                        | exact ht
                        | exact hT
                        | rfl
                        | skip
                      refine again j [] ⟨k1', by omega⟩ (by omega) ?_
                      simp only [rdI2, envR, con0, conN0, conN1, conN2, natsOf_arr, rowOf_arr, natsOf_cells, rowOf_cells, toN, natL_st, natL_d, natL_enc, natL_up, gr1, gaddC, gtimesC, gprimeC, gbelowC, gminC, conB2, retQx, Nat.sub_zero, go_sem]
                      exact ⟨rfl, id⟩
                    | false =>
                      have gz : (highW D (m + 1)).getD j 0 ≠ 0 := by have := ne_of_beq_false cz; omega
                      have hk1 : redK s = j + 1 := (hK.trans k1.symm).trans (trimW_stop (.inr (.inr gz)))
                      have hr1 : redR s = addL 65536 (lowW D) (timesL 65536 ((highW D (m + 1)).take (j + 1)) [19]) := by unfold redR; rw [if_neg (by rw [hk1]; omega), hk1, hHi, hsD]
                      have ht : dlt 65536 ((highW D (m + 1)).take (j + 1)) := dlt_take hbh _
                      have hT : dlt 65536 (timesL 65536 ((highW D (m + 1)).take (j + 1)) [19]) := timesL_lt (by decide) ht n19_lt
                      have hTl : (timesL 65536 ((highW D (m + 1)).take (j + 1)) [19]).length = j + 1 + 1 := by rw [timesL_len, List.length_take, hhl, Nat.min_eq_left k2]; rfl
                      have htl : (lowW D).take 16 = lowW D := List.take_of_length_le (by omega)
                      have l19 : [19].take 1 = [19] := rfl
                      have hAl := addLen_bd 65536 (lowW D) (timesL 65536 ((highW D (m + 1)).take (j + 1)) [19])
                      rw [← addL_len, hll, hTl] at hAl
                      simp only [rdI2, hwj, cpos, cz, htl, List.take_length, envR, con0, conN0, conN1, conN2, natsOf_arr, rowOf_arr, natsOf_cells, rowOf_cells, toN, natL_st, natL_d, natL_enc, natL_up, gr1, gaddC, gtimesC, gprimeC, gbelowC, gminC, conB2, retQx, Nat.sub_zero, go_sem]
                      repeat' apply And.intro
                      all_goals first
                        | omega
                        | exact n19_lt
                        | exact prime_lt
                        | exact bD
                        | exact bR
                        | exact hlow
                        | exact ht
                        | exact hT
                        | rfl
                        | skip
                      obtain ⟨R', hR'⟩ : ∃ R', R' = addL 65536 (lowW D) (timesL 65536 ((highW D (m + 1)).take (j + 1)) [19]) := ⟨_, rfl⟩
                      rw [← hR'] at hr1 hAl ⊢
                      refine loop_inv (envR_ok gr1_ok 132 [0]) (rdI4 a wa R') (fun q => trimW R' 16 q = trimW R' 16 R'.length ∧ 16 ≤ q ∧ q ≤ R'.length) (fun q => q) R'.length [(900, 210032)] ⟨rfl, by omega, Nat.le_refl _⟩ ?_ ?_
                      · simp only [rdI4, envR, con0, conN0, conN1, conN2, natsOf_arr, rowOf_arr, natsOf_cells, rowOf_cells, toN, natL_st, natL_d, natL_enc, natL_up, gr1, gaddC, gtimesC, gprimeC, gbelowC, gminC, conB2, retQx, Nat.sub_zero, go_sem]
                        exact ⟨rfl, id⟩
                      · rintro q ⟨q1, q2, q3⟩
                        have hnx : ∀ p, trimW R' 16 q = p → redNext s = (R', p) := fun p hp => by
                          unfold redNext
                          rw [hr1, ← q1, hp]
                        cases c16 : decide ((16 : Int) < (q : Int)) with
                        | false =>
                          obtain rfl : q = 16 := by have := of_decide_eq_false c16; omega
                          rw [hnx 16 (trimW_stop (.inr (.inl (Nat.le_refl _))))] at X1 X2 X3
                          simp only [rdI4, envR, con0, conN0, conN1, conN2, natsOf_arr, rowOf_arr, natsOf_cells, rowOf_cells, toN, natL_st, natL_d, natL_enc, natL_up, gr1, gaddC, gtimesC, gprimeC, gbelowC, gminC, conB2, retQx, Nat.sub_zero, go_sem]
                          refine again (some (f', R', 16) : Option (Nat × List Nat × Nat)) [(600, 900)] ⟨X1, X2, X3⟩ (by simp only [redMu]; omega) ?_
                          simp only [redOut0, envR, con0, conN0, conN1, conN2, natsOf_arr, rowOf_arr, natsOf_cells, rowOf_cells, toN, natL_st, natL_d, natL_enc, natL_up, gr1, gaddC, gtimesC, gprimeC, gbelowC, gminC, conB2, retQx, Nat.sub_zero, go_sem]
                          exact ⟨rfl, id⟩
                        | true =>
                          obtain ⟨j', rfl⟩ : ∃ j', q = j' + 1 := ⟨q - 1, by have := of_decide_eq_true c16; omega⟩
                          have hj : 16 ≤ j' := by have := of_decide_eq_true c16; omega
                          have hwj' : IntKind.i64.wrap (((j' + 1 : Nat) : Int) - 1) = (j' : Int) := by rw [IntKind.wrap_i64]; omega
                          cases cy : (((R'.getD j' 0 : Nat) : Int) == 0) with
                          | true =>
                            have gy : R'.getD j' 0 = 0 := by have := eq_of_beq cy; omega
                            have q1' := (trimW_go hj gy).symm.trans q1
                            simp only [rdI4, c16, hwj', cy, envR, con0, conN0, conN1, conN2, natsOf_arr, rowOf_arr, natsOf_cells, rowOf_cells, toN, natL_st, natL_d, natL_enc, natL_up, gr1, gaddC, gtimesC, gprimeC, gbelowC, gminC, conB2, retQx, Nat.sub_zero, go_sem]
                            repeat' apply And.intro
                            all_goals first
                              | omega
                              | exact n19_lt
                              | exact prime_lt
                              | exact bD
                              | exact bR
                              | exact hlow
                              | exact ht
                              | exact hT
                              | rfl
                              | skip
                            refine again j' [] ⟨q1', by omega⟩ (by omega) ?_
                            simp only [rdI4, envR, con0, conN0, conN1, conN2, natsOf_arr, rowOf_arr, natsOf_cells, rowOf_cells, toN, natL_st, natL_d, natL_enc, natL_up, gr1, gaddC, gtimesC, gprimeC, gbelowC, gminC, conB2, retQx, Nat.sub_zero, go_sem]
                            exact ⟨rfl, id⟩
                          | false =>
                            have gy : R'.getD j' 0 ≠ 0 := by have := ne_of_beq_false cy; omega
                            rw [hnx (j' + 1) (trimW_stop (.inr (.inr gy)))] at X1 X2 X3
                            simp only [rdI4, c16, hwj', cy, envR, con0, conN0, conN1, conN2, natsOf_arr, rowOf_arr, natsOf_cells, rowOf_cells, toN, natL_st, natL_d, natL_enc, natL_up, gr1, gaddC, gtimesC, gprimeC, gbelowC, gminC, conB2, retQx, Nat.sub_zero, go_sem]
                            repeat' apply And.intro
                            all_goals first
                              | omega
                              | exact n19_lt
                              | exact prime_lt
                              | exact bD
                              | exact bR
                              | exact hlow
                              | exact ht
                              | exact hT
                              | rfl
                              | skip
                            refine again (some (f', R', j' + 1) : Option (Nat × List Nat × Nat)) [(600, 900)] ⟨X1, X2, X3⟩ (by simp only [redMu]; omega) ?_
                            simp only [redOut0, envR, con0, conN0, conN1, conN2, natsOf_arr, rowOf_arr, natsOf_cells, rowOf_cells, toN, natL_st, natL_d, natL_enc, natL_up, gr1, gaddC, gtimesC, gprimeC, gbelowC, gminC, conB2, retQx, Nat.sub_zero, go_sem]
                            exact ⟨rfl, id⟩
        | false =>
          have hgo : redGo s = false := by
            unfold redGo
            rw [hs]
            have h1 : decide (32767 < R.getD 15 0) = false := decide_eq_false (by have := of_decide_eq_false c3; omega)
            have h2 : decide (16 < n) = false := decide_eq_false (by omega)
            simp only [h1, h2, Bool.or_false]
          have hend : redEnd a = (R, n) := by rw [← x1, ← hs, redRun, hgo]; rfl
          have hrow : redRow a = if decide (dv 65536 (R.take 16) < dv 65536 primeL) = true then R else minL 65536 R primeL := by unfold redRow; rw [hend]; rfl
          have hpt : primeL.take 16 = primeL := rfl
          have hpl : primeL.length = 16 := rfl
          subst g1
          simp only [redOut0, c1, c2, c3, envR, con0, conN0, conN1, conN2, natsOf_arr, rowOf_arr, natsOf_cells, rowOf_cells, toN, natL_st, natL_d, natL_enc, natL_up, gr1, gaddC, gtimesC, gprimeC, gbelowC, gminC, conB2, retQx, Nat.sub_zero, go_sem]
          all_goals try (repeat' apply And.intro)
          all_goals first | omega | skip
          refine loop_rounds (envR_ok gr1_ok 132 [0]) 1 ?_
          simp only [envR, con0, conN0, conN1, conN2, natsOf_arr, rowOf_arr, natsOf_cells, rowOf_cells, toN, natL_st, natL_d, natL_enc, natL_up, gr1, gaddC, gtimesC, gprimeC, gbelowC, gminC, conB2, retQx, Nat.sub_zero, go_sem]
          cases hb : decide (dv 65536 (R.take 16) < dv 65536 primeL) with
          | true =>
            rw [hb, if_pos rfl] at hrow
            simp only [hb, hpt, hpl, envR, con0, conN0, conN1, conN2, natsOf_arr, rowOf_arr, natsOf_cells, rowOf_cells, toN, natL_st, natL_d, natL_enc, natL_up, gr1, gaddC, gtimesC, gprimeC, gbelowC, gminC, conB2, retQx, Nat.sub_zero, go_sem]
            repeat' apply And.intro
            all_goals first
              | omega
              | exact n19_lt
              | exact prime_lt
              | exact bD
              | exact bR
              | exact hlow
              | exact ht
              | exact hT
              | rfl
              | skip
            refine endX [(1, 600)] ?_
            simp only [hrow, envR, con0, conN0, conN1, conN2, natsOf_arr, rowOf_arr, natsOf_cells, rowOf_cells, toN, natL_st, natL_d, natL_enc, natL_up, gr1, gaddC, gtimesC, gprimeC, gbelowC, gminC, conB2, retQx, Nat.sub_zero, go_sem]
            exact ⟨rfl, id⟩
          | false =>
            rw [hb, if_neg (by decide)] at hrow
            simp only [hb, hpt, hpl, envR, con0, conN0, conN1, conN2, natsOf_arr, rowOf_arr, natsOf_cells, rowOf_cells, toN, natL_st, natL_d, natL_enc, natL_up, gr1, gaddC, gtimesC, gprimeC, gbelowC, gminC, conB2, retQx, Nat.sub_zero, go_sem]
            repeat' apply And.intro
            all_goals first
              | omega
              | exact n19_lt
              | exact prime_lt
              | exact bD
              | exact bR
              | exact hlow
              | exact ht
              | exact hT
              | rfl
              | skip
            refine endX [(1, 280016)] ?_
            simp only [hrow, envR, con0, conN0, conN1, conN2, natsOf_arr, rowOf_arr, natsOf_cells, rowOf_cells, toN, natL_st, natL_d, natL_enc, natL_up, gr1, gaddC, gtimesC, gprimeC, gbelowC, gminC, conB2, retQx, Nat.sub_zero, go_sem]
            exact ⟨rfl, id⟩
end Go.Proofs.YtahiopdkekkibaaGreatDoor.FK

