/-
  Layer 4: of two scalars either one, with what the other makes, makes the same; the law LadderAgrees.
-/
import Derived.Test.YtdkmkifebhggeaaSz
import Derived.Test.YtdkmkifebhggeaaK4
import Derived.Test.YtdkmkifebhggeaaK5
import Derived.Test.YtdkmkifebhggeaaKg
namespace Go.Proofs.Ytdkmkifebhggeaa
open Go Go.RowKit
set_option maxHeartbeats 4000000
set_option linter.unusedSimpArgs false
set_option linter.unusedVariables false
set_option linter.unusedSectionVars false
def vinv (a : Fin p25519) : Fin p25519 := vinvR a 255 1
theorem vinv_fld : Fld vinv := ⟨fun a h => fermat_inv prime25519 ex25519 a h, vinvR_0 254 1, by decide +kernel⟩
theorem nsq_of {n : Nat} [NeZero n] (hP : PP n) {h : Nat} (hh : 2 * h = n - 1) (hb : h < 2 ^ 300) {D : Fin n} (hD : powm 300 D.val h n ≠ 1) (h0 : D ≠ 0) : NSq D := by
  intro s e
  refine hD ?_
  have hs : 0 < s.val := by
    rcases Nat.eq_zero_or_pos s.val with q | q
    · refine absurd ?_ h0
      rw [e]
      apply Fin.ext
      rw [Fin.val_mul, q, Nat.zero_mul, Nat.zero_mod]
      rfl
    · exact q
  rw [powm_eq _ _ _ _ hb, e, Fin.val_mul, ← Nat.pow_mod, ← Nat.pow_two, ← Nat.pow_mul, hh]
  exact hP.2 s.val hs s.isLt
def eD0 : Fin p25519 := Fin.ofNat p25519 20800338683988658368647408995589388737092878452977063003340006470870624536394
def eD1 : Fin p25519 := Fin.ofNat p25519 28692721048178265397853269683490922171210976843790175684556505508326675974058
theorem sq25519 (a : Fin p25519) (h : a ≠ 0) : ∃ s, a = s * s ∨ a = (1 + 1) * (s * s) := by
  have h0 : 0 < a.val := by
    rcases Nat.eq_zero_or_pos a.val with q | q
    · exact absurd (Fin.ext (by rw [q]; rfl)) h
    · exact q
  obtain ⟨i, hi⟩ := both25519.2 a.val h0 a.isLt
  have ha : a = Fin.ofNat p25519 (2 ^ i) := Fin.ext hi.symm
  have t2 : Fin.ofNat p25519 2 = 1 + 1 := by decide +kernel
  refine ⟨Fin.ofNat p25519 (2 ^ (i / 2)), ?_⟩
  rcases Nat.mod_two_eq_zero_or_one i with q | q
  · left
    have e : 2 ^ i = 2 ^ (i / 2) * 2 ^ (i / 2) := by rw [← Nat.pow_add]; congr 1; omega
    rw [ha, ← fn_mul, ← e]
  · right
    have e : 2 ^ i = 2 * (2 ^ (i / 2) * 2 ^ (i / 2)) := by rw [← Nat.pow_add, Nat.mul_comm, ← Nat.pow_succ]; congr 1; omega
    rw [ha, ← fn_mul, ← t2, ← fn_mul, ← e]
theorem two25519 : Two vinv eD0 eD1 c24 where
  fld := vinv_fld
  ns := nsq_of prime25519 (h := 28948022309329048855892746252171976963317496166410141009864396001978282409974) (by decide +kernel) (by decide +kernel) (by decide +kernel) (by decide +kernel)
  dd := by decide +kernel
  hc := by decide +kernel
  sq := sq25519
theorem fv_climb' (k : List UInt8) (x : N5) : fv (climbF k x) = ladF vinv c24 (kbit k) 255 (fv x) := by
  unfold ladF vinv
  exact fv_climb k x
theorem fv_back (x : N5) : fv (ofN (bytesF x)) = fv x := by
  rw [fv_of _ rfl, bytesF_v]
  refine fn_eq.2 ?_
  have : x.w % p25519 < p25519 := Nat.mod_lt _ (by decide)
  have h2 : p25519 < 57896044618658097711785492504343953926634992332820282019728792003956564819968 := by decide
  rw [Nat.mod_eq_of_lt (Nat.lt_trans this h2), Nat.mod_mod]
theorem point_comm (a b u : List UInt8) (ha : a.length = 32) (hb : b.length = 32) : pointS b (pointS a u) = pointS a (pointS b u) := by
  unfold pointS
  apply bytesF_congr
  apply fv_eq.1
  rw [fv_climb', fv_climb', fv_back, fv_back, fv_climb', fv_climb']
  exact lad_comm two25519 _ _ (kbit0 b hb).1 (kbit0 a ha).1 255 _
def gz1 : Nat → Option Con := fun f => match f with
  | 29 => some pointC
  | 31 => some publicC
  | 25 => some awake4C
  | _ => none
theorem gz1_ok : GaOk Try.prog gz1 := fun f con h => by
  unfold gz1 at h
  split at h
  · injection h with h; subst h; exact pointC_ok
  · injection h with h; subst h; exact publicC_ok
  · injection h with h; subst h; exact awake4C_ok
  · cases h
set_option maxRecDepth 100000 in
theorem lagrees_tri (a b u : List UInt8) : Tri Try.prog 8 [.one (.str a), .one (.str b), .one (.str u)] [] (.c (.one (.bo true))) [] := by
  refine tri_of (envOf_ok gz1_ok 105) Try.func8 rfl rfl (rs := [.tmp 6]) rfl rfl (by simp [envOf]) rfl [] ?_
  cases h1 : ((a.length : Int) == 32) with
  | false => simp only [envOf, gz1, pointC, publicC, awake4C, h1, go_sem, reduceCtorEq, ↓reduceIte, Nat.reduceAdd, Nat.reduceMul, Nat.reduceSub, Nat.reduceEqDiff, Nat.reduceLT, Nat.reduceBEq, Nat.reduceBNe, Nat.reduceLeDiff, Int.reduceLE, Int.reduceLT, Int.reduceToNat, Int.reduceEq, Int.reduceAdd, UInt8.reduceToNat, UInt32.reduceToNat, UInt64.reduceToNat, UInt8.reduceOfNat, UInt32.reduceOfNat, UInt64.reduceOfNat, Fin.isValue, Int.reduceSub, Int.reduceMul, Int.reduceNeg, Int.reduceMod, Int.reduceDiv, Int.reduceTDiv, Int.reduceTMod, Int.reduceBEq, Int.reduceBNe, Nat.reduceDiv, Nat.reducePow]
  | true =>
    cases h2 : ((b.length : Int) == 32) with
    | false => simp only [envOf, gz1, pointC, publicC, awake4C, h1, h2, go_sem, reduceCtorEq, ↓reduceIte, Nat.reduceAdd, Nat.reduceMul, Nat.reduceSub, Nat.reduceEqDiff, Nat.reduceLT, Nat.reduceBEq, Nat.reduceBNe, Nat.reduceLeDiff, Int.reduceLE, Int.reduceLT, Int.reduceToNat, Int.reduceEq, Int.reduceAdd, UInt8.reduceToNat, UInt32.reduceToNat, UInt64.reduceToNat, UInt8.reduceOfNat, UInt32.reduceOfNat, UInt64.reduceOfNat, Fin.isValue, Int.reduceSub, Int.reduceMul, Int.reduceNeg, Int.reduceMod, Int.reduceDiv, Int.reduceTDiv, Int.reduceTMod, Int.reduceBEq, Int.reduceBNe, Nat.reduceDiv, Nat.reducePow]
    | true =>
      cases h3 : ((u.length : Int) == 32) with
      | false => simp only [envOf, gz1, pointC, publicC, awake4C, h1, h2, h3, go_sem, reduceCtorEq, ↓reduceIte, Nat.reduceAdd, Nat.reduceMul, Nat.reduceSub, Nat.reduceEqDiff, Nat.reduceLT, Nat.reduceBEq, Nat.reduceBNe, Nat.reduceLeDiff, Int.reduceLE, Int.reduceLT, Int.reduceToNat, Int.reduceEq, Int.reduceAdd, UInt8.reduceToNat, UInt32.reduceToNat, UInt64.reduceToNat, UInt8.reduceOfNat, UInt32.reduceOfNat, UInt64.reduceOfNat, Fin.isValue, Int.reduceSub, Int.reduceMul, Int.reduceNeg, Int.reduceMod, Int.reduceDiv, Int.reduceTDiv, Int.reduceTMod, Int.reduceBEq, Int.reduceBNe, Nat.reduceDiv, Nat.reducePow]
      | true =>
        have ha : a.length = 32 := by have := beq_iff_eq.1 h1; omega
        have hb : b.length = 32 := by have := beq_iff_eq.1 h2; omega
        have hu : u.length = 32 := by have := beq_iff_eq.1 h3; omega
        have c1 := point_comm a b base9 ha hb
        have c2 := point_comm a b u ha hb
        have v : ∀ x y : List UInt8, x.length = 32 → y.length = 32 → pointV x y = .tup [.one (.str (pointS x y)), .one (.bo true)] := fun x y hx hy => if_pos ⟨hx, hy⟩
        have v1 := v a base9 ha rfl
        have v2 := v b base9 hb rfl
        have v3 := v a _ ha (pointS_len b base9)
        have v4 := v b _ hb (pointS_len a base9)
        have v5 := v a u ha hu
        have v6 := v b u hb hu
        have v7 := v b _ hb (pointS_len a u)
        have v8 := v a _ ha (pointS_len b u)
        have l1 := pointS_len a (pointS b base9)
        rw [c1] at v4
        rw [c2] at v7
        obtain ⟨r, er⟩ : ∃ r, pointS a (pointS b base9) = r := ⟨_, rfl⟩
        obtain ⟨x, ex⟩ : ∃ x, pointS a (pointS b u) = x := ⟨_, rfl⟩
        obtain ⟨p, ep⟩ : ∃ p, pointS a base9 = p := ⟨_, rfl⟩
        obtain ⟨q, eq⟩ : ∃ q, pointS b base9 = q := ⟨_, rfl⟩
        obtain ⟨m, em⟩ : ∃ m, pointS a u = m := ⟨_, rfl⟩
        obtain ⟨w, ew⟩ : ∃ w, pointS b u = w := ⟨_, rfl⟩
        rw [er] at v3 v4 l1
        rw [ex] at v7 v8
        rw [ep] at v1 v4
        rw [eq] at v2 v3
        rw [em] at v5 v7
        rw [ew] at v6 v8
        simp only [envOf, gz1, pointC, publicC, awake4C, ha, hb, hu, v1, v2, v3, v4, v5, v6, v7, v8, l1, go_sem, reduceCtorEq, ↓reduceIte, Nat.reduceAdd, Nat.reduceMul, Nat.reduceSub, Nat.reduceEqDiff, Nat.reduceLT, Nat.reduceBEq, Nat.reduceBNe, Nat.reduceLeDiff, Int.reduceLE, Int.reduceLT, Int.reduceToNat, Int.reduceEq, Int.reduceAdd, UInt8.reduceToNat, UInt32.reduceToNat, UInt64.reduceToNat, UInt8.reduceOfNat, UInt32.reduceOfNat, UInt64.reduceOfNat, Fin.isValue, Int.reduceSub, Int.reduceMul, Int.reduceNeg, Int.reduceMod, Int.reduceDiv, Int.reduceTDiv, Int.reduceTMod, Int.reduceBEq, Int.reduceBNe, Nat.reduceDiv, Nat.reducePow]
        all_goals first
          | rfl
          | trace_state
theorem lagrees_law (a : ByteArray) (wa : a.size ≤ maxLen) (b : ByteArray) (wb : b.size ≤ maxLen) (c : ByteArray) (wc : c.size ≤ maxLen) (w : World) :
    Calls Try.prog 8 #[.string a, .string b, .string c] w fun e w' => e = .returned (.bool true) ∧ Below w.heap.size w w' := by
  refine (tri_calls (lagrees_tri a.data.toList b.data.toList c.data.toList) w (vals := [.string a, .string b, .string c]) ⟨rfl, rfl, rfl, trivial⟩).mono ?_
  rintro e w' ⟨u, r', rfl, hr, hb⟩
  exact ⟨by rw [show u = .bool true from hr], hb⟩
end Go.Proofs.Ytdkmkifebhggeaa
