/-
  Layer 5: noughts, turned, are the stream.
-/
import Derived.Test.YthgemadhhkocgaaSz
import Derived.Test.YthgemadhhkocgaaCf
namespace Go.Proofs.Ythgemadhhkocgaa
open Go Go.RowKit
set_option linter.unusedSimpArgs false
set_option linter.unusedVariables false
theorem block_cut (k n : List UInt8) (c : UInt32) (m i : Nat) (h : i < m) : ((turnL k n c (List.replicate (64 * m) 0)).drop (64 * i)).take 64 = blockL k n (c + UInt32.ofNat i) := by
  have hl : (blockL k n (c + UInt32.ofNat i)).length = 64 := stirL_len _ rfl
  apply List.ext_getElem?; intro j
  by_cases hj : j < 64
  · rw [List.getElem?_take_of_lt hj, List.getElem?_drop, turnL_getElem?, List.getElem?_replicate, if_pos (by omega)]
    have hk : ksAt k n c (64 * i + j) = (blockL k n (c + UInt32.ofNat i)).getD j 0 := by
      unfold ksAt blockL
      rw [show (64 * i + j) / 64 = i by omega, show (64 * i + j) % 64 = j by omega]
    rw [hk, List.getD_eq_getElem?_getD, List.getElem?_eq_getElem (by omega : j < (blockL k n (c + UInt32.ofNat i)).length)]
    simp
  · rw [List.getElem?_eq_none (by rw [List.length_take]; omega), List.getElem?_eq_none (by omega)]
theorem toBytes_rep (n : Nat) : toBytes (List.replicate n (.u8 0)) = some (List.replicate n 0) := by
  induction n with
  | zero => rfl
  | succ n ih => rw [List.replicate_succ, toBytes, ih]; rfl
theorem take_rep {α : Type _} (n : Nat) (a : α) : (List.replicate n a).take n = List.replicate n a := by
  rw [List.take_of_length_le (by rw [List.length_replicate]; exact Nat.le_refl _)]
def plainInv (k n : List UInt8) (c : UInt32) (m i : Nat) : St := ⟨[(0, .c (.one (.str k))), (1, .c (.one (.str n))), (2, .c (.one (.u32 c))), (10, .c (.one (.str (turnL k n c (List.replicate (64 * m) 0))))), (47, .c (.one (.num m))), (48, .c (.one (.num i)))], []⟩
set_option maxRecDepth 100000 in
theorem plain_tri (k n : List UInt8) (c : UInt32) (b : UInt8) : Tri Try.prog 7 [.one (.str k), .one (.str n), .one (.u32 c), .one (.u8 b)] [] (.c (.one (.bo true))) [] := by
  refine tri_of (envOf_ok ga6_ok 76) Try.func7 rfl rfl (rs := [.tmp 8]) rfl rfl (by simp [envOf]) rfl [] ?_
  cases hk : ((k.length : Int) == 32) with
  | false => simp only [envOf, ga6, quarterC, blockC, turnC, awakeC, hk, go_sem, reduceCtorEq, ↓reduceIte, Nat.reduceAdd, Nat.reduceMul, Nat.reduceSub, Nat.reduceEqDiff, Nat.reduceLT, Nat.reduceBEq, Nat.reduceBNe, Nat.reduceLeDiff, Int.reduceLE, Int.reduceLT, Int.reduceToNat, Int.reduceEq, Int.reduceAdd, UInt8.reduceToNat, UInt32.reduceToNat, UInt64.reduceToNat, UInt8.reduceOfNat, UInt32.reduceOfNat, UInt64.reduceOfNat, Fin.isValue, Int.reduceSub, Int.reduceMul, Int.reduceNeg, Int.reduceMod, Int.reduceDiv, Int.reduceTDiv, Int.reduceTMod, Int.reduceBEq, Int.reduceBNe, Nat.reduceDiv, Nat.reducePow]
  | true =>
    cases hn : ((n.length : Int) == 12) with
    | false => simp only [envOf, ga6, quarterC, blockC, turnC, awakeC, hk, hn, go_sem, reduceCtorEq, ↓reduceIte, Nat.reduceAdd, Nat.reduceMul, Nat.reduceSub, Nat.reduceEqDiff, Nat.reduceLT, Nat.reduceBEq, Nat.reduceBNe, Nat.reduceLeDiff, Int.reduceLE, Int.reduceLT, Int.reduceToNat, Int.reduceEq, Int.reduceAdd, UInt8.reduceToNat, UInt32.reduceToNat, UInt64.reduceToNat, UInt8.reduceOfNat, UInt32.reduceOfNat, UInt64.reduceOfNat, Fin.isValue, Int.reduceSub, Int.reduceMul, Int.reduceNeg, Int.reduceMod, Int.reduceDiv, Int.reduceTDiv, Int.reduceTMod, Int.reduceBEq, Int.reduceBNe, Nat.reduceDiv, Nat.reducePow]
    | true =>
      have hr : rightB k n = true := by simp only [rightB, hk, hn]; rfl
      obtain ⟨m, hm⟩ : ∃ m, m = (b % 21).toNat := ⟨_, rfl⟩
      have hm21 : m ≤ 20 := by
        rw [hm, UInt8.toNat_mod]
        have := Nat.mod_lt b.toNat (show (21 : UInt8).toNat > 0 by decide)
        have e : (21 : UInt8).toNat = 21 := rfl
        omega
      have hwm : IntKind.i64.wrap (64 * (m : Int)) = ((64 * m : Nat) : Int) := by rw [IntKind.wrap_i64]; omega
      simp only [envOf, ga6, quarterC, blockC, turnC, awakeC, hk, hn, hr, ← hm, hwm, toBytes_rep, take_rep, turnL_len, List.length_replicate, go_sem, reduceCtorEq, ↓reduceIte, Nat.reduceAdd, Nat.reduceMul, Nat.reduceSub, Nat.reduceEqDiff, Nat.reduceLT, Nat.reduceBEq, Nat.reduceBNe, Nat.reduceLeDiff, Int.reduceLE, Int.reduceLT, Int.reduceToNat, Int.reduceEq, Int.reduceAdd, UInt8.reduceToNat, UInt32.reduceToNat, UInt64.reduceToNat, UInt8.reduceOfNat, UInt32.reduceOfNat, UInt64.reduceOfNat, Fin.isValue, Int.reduceSub, Int.reduceMul, Int.reduceNeg, Int.reduceMod, Int.reduceDiv, Int.reduceTDiv, Int.reduceTMod, Int.reduceBEq, Int.reduceBNe, Nat.reduceDiv, Nat.reducePow]
      refine ⟨by decide, by omega, by omega, ?_⟩
      refine loop_inv (envOf_ok ga6_ok 76) (plainInv k n c m) (fun i => i ≤ m) (fun i => m - i) 0 [] (by omega) ?_ ?_
      · simp only [plainInv, go_sem, reduceCtorEq, ↓reduceIte, Nat.reduceAdd, Nat.reduceMul, Nat.reduceSub, Nat.reduceEqDiff, Nat.reduceLT, Nat.reduceBEq, Nat.reduceBNe, Nat.reduceLeDiff, Int.reduceLE, Int.reduceLT, Int.reduceToNat, Int.reduceEq, Int.reduceAdd, UInt8.reduceToNat, UInt32.reduceToNat, UInt64.reduceToNat, UInt8.reduceOfNat, UInt32.reduceOfNat, UInt64.reduceOfNat, Fin.isValue, Int.reduceSub, Int.reduceMul, Int.reduceNeg, Int.reduceMod, Int.reduceDiv, Int.reduceTDiv, Int.reduceTMod, Int.reduceBEq, Int.reduceBNe, Nat.reduceDiv, Nat.reducePow]
      · intro i hi
        simp only [plainInv, envOf, ga6, go_sem, reduceCtorEq, ↓reduceIte, Nat.reduceAdd, Nat.reduceMul, Nat.reduceSub, Nat.reduceEqDiff, Nat.reduceLT, Nat.reduceBEq, Nat.reduceBNe, Nat.reduceLeDiff, Int.reduceLE, Int.reduceLT, Int.reduceToNat, Int.reduceEq, Int.reduceAdd, UInt8.reduceToNat, UInt32.reduceToNat, UInt64.reduceToNat, UInt8.reduceOfNat, UInt32.reduceOfNat, UInt64.reduceOfNat, Fin.isValue, Int.reduceSub, Int.reduceMul, Int.reduceNeg, Int.reduceMod, Int.reduceDiv, Int.reduceTDiv, Int.reduceTMod, Int.reduceBEq, Int.reduceBNe, Nat.reduceDiv, Nat.reducePow]
        refine br (fun h => ?_) fun h => ?_
        · have hlt : i < m := by have := of_decide_eq_true h; omega
          have hw1 : IntKind.i64.wrap ((i : Int) + 1) = ((i + 1 : Nat) : Int) := by rw [IntKind.wrap_i64]; omega
          have hw2 : IntKind.i64.wrap (64 * (i : Int)) = ((64 * i : Nat) : Int) := by rw [IntKind.wrap_i64]; omega
          have hw3 : IntKind.i64.wrap (((64 * i : Nat) : Int) + 64) = ((64 * i + 64 : Nat) : Int) := by rw [IntKind.wrap_i64]; omega
          have hb : by32 (i : Int) = UInt32.ofNat i := by
            unfold by32
            rw [show ((i : Int) % 4294967296).toNat = i by omega]
          have hc := block_cut k n c m i hlt
          simp only [h, ga6, quarterC, blockC, turnC, awakeC, hr, hw1, hw2, hw3, hb, Nat.add_sub_cancel_left, hc, turnL_len, List.length_replicate, go_sem, reduceCtorEq, ↓reduceIte, Nat.reduceAdd, Nat.reduceMul, Nat.reduceSub, Nat.reduceEqDiff, Nat.reduceLT, Nat.reduceBEq, Nat.reduceBNe, Nat.reduceLeDiff, Int.reduceLE, Int.reduceLT, Int.reduceToNat, Int.reduceEq, Int.reduceAdd, UInt8.reduceToNat, UInt32.reduceToNat, UInt64.reduceToNat, UInt8.reduceOfNat, UInt32.reduceOfNat, UInt64.reduceOfNat, Fin.isValue, Int.reduceSub, Int.reduceMul, Int.reduceNeg, Int.reduceMod, Int.reduceDiv, Int.reduceTDiv, Int.reduceTMod, Int.reduceBEq, Int.reduceBNe, Nat.reduceDiv, Nat.reducePow]
          refine ⟨by omega, again (i + 1) [] (by omega) (by omega) ?_⟩
          simp only [plainInv, go_sem, reduceCtorEq, ↓reduceIte, Nat.reduceAdd, Nat.reduceMul, Nat.reduceSub, Nat.reduceEqDiff, Nat.reduceLT, Nat.reduceBEq, Nat.reduceBNe, Nat.reduceLeDiff, Int.reduceLE, Int.reduceLT, Int.reduceToNat, Int.reduceEq, Int.reduceAdd, UInt8.reduceToNat, UInt32.reduceToNat, UInt64.reduceToNat, UInt8.reduceOfNat, UInt32.reduceOfNat, UInt64.reduceOfNat, Fin.isValue, Int.reduceSub, Int.reduceMul, Int.reduceNeg, Int.reduceMod, Int.reduceDiv, Int.reduceTDiv, Int.reduceTMod, Int.reduceBEq, Int.reduceBNe, Nat.reduceDiv, Nat.reducePow]
        · simp only [h, ga6, quarterC, blockC, turnC, awakeC, hr, go_sem, reduceCtorEq, ↓reduceIte, Nat.reduceAdd, Nat.reduceMul, Nat.reduceSub, Nat.reduceEqDiff, Nat.reduceLT, Nat.reduceBEq, Nat.reduceBNe, Nat.reduceLeDiff, Int.reduceLE, Int.reduceLT, Int.reduceToNat, Int.reduceEq, Int.reduceAdd, UInt8.reduceToNat, UInt32.reduceToNat, UInt64.reduceToNat, UInt8.reduceOfNat, UInt32.reduceOfNat, UInt64.reduceOfNat, Fin.isValue, Int.reduceSub, Int.reduceMul, Int.reduceNeg, Int.reduceMod, Int.reduceDiv, Int.reduceTDiv, Int.reduceTMod, Int.reduceBEq, Int.reduceBNe, Nat.reduceDiv, Nat.reducePow]
theorem u8_of_wf {x : Int} (h : (Lit.int .u8 x).wf = true) : ∃ a : UInt8, x = (a.toNat : Int) := by
  have h' : 0 ≤ x ∧ x ≤ 255 := by simpa [Lit.wf, IntKind.min, IntKind.max, IntKind.signed, IntKind.bits] using h
  exact ⟨UInt8.ofNat x.toNat, by rw [UInt8.toNat_ofNat_of_lt' (by show x.toNat < 256; omega)]; omega⟩
theorem plain_law (a : ByteArray) (wa : a.size ≤ maxLen) (b : ByteArray) (wb : b.size ≤ maxLen) (c : Int) (wc : (Lit.int .u32 c).wf = true) (n : Int) (wn : (Lit.int .u8 n).wf = true) (w : World) :
    Calls Try.prog 7 #[.string a, .string b, .int .u32 c, .int .u8 n] w fun e w' => e = .returned (.bool true) ∧ Below w.heap.size w w' := by
  obtain ⟨x, rfl⟩ := u32_of_wf wc
  obtain ⟨y, rfl⟩ := u8_of_wf wn
  refine (tri_calls (plain_tri a.data.toList b.data.toList x y) w (vals := [.string a, .string b, .int .u32 (x.toNat : Int), .int .u8 (y.toNat : Int)]) ⟨rfl, rfl, rfl, rfl, trivial⟩).mono ?_
  rintro e w' ⟨u, r', rfl, hr, hb⟩
  exact ⟨by rw [show u = .bool true from hr], hb⟩
end Go.Proofs.Ythgemadhhkocgaa
