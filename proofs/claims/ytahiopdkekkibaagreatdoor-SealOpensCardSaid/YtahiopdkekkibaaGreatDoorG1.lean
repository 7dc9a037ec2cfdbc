/-
  Put together: Sn, So, Sq, Sr, Sc, Ss, Ty.
-/
import Derived.Test.YtahiopdkekkibaaGreatDoorG0
import Derived.Orders
import Derived.Deep.LoopGhost
import Derived.Test.YtahiopdkekkibaaGreatDoorProg
/-
  A walk by reckoning, part 15: each operation's action. It speaks of no program.
-/
namespace Go.Proofs.YtahiopdkekkibaaGreatDoor
open Go Go.RowKit
set_option linter.unusedVariables false
set_option linter.unusedSimpArgs false

section
variable (T : Nat → Option TyI) (Ga : Nat → Option Con) (sv : Operand → SV)
def actPick (c a b : Operand) : Option Actn :=
  match sv c with
  | .c (.one (.bo x)) => some (pureS (pickS x (sv a) (sv b)) [])
  | _ => none
def boolOp : BinOp → Option Bool
  | .eql => some false
  | .neq => some true
  | _ => none
def actBool (op : BinOp) (t : TypeId) (a b : Bool) : Option Actn :=
  match T t with
  | some ti => match ti.d with
    | .bool => match boolOp op with
      | some neg => some (pureA (.bo (if neg then a != b else a == b)) [])
      | none => none
    | _ => none
  | none => none
def actBin (op : BinOp) (t : TypeId) (x y : Operand) : Option Actn :=
  match sv x with
  | .c (.one a) => match sv y with
    | .c (.one b) => match binAV op a b with
      | some (v, ob) => some (pureA v ob)
      | none => match a with
        | .bo p => match b with
          | .bo q => actBool T op t p q
          | _ => none
        | _ => none
    | _ => none
  | _ => none
def actAggEq (op : BinOp) (t : TypeId) (xs ys : List AV) : Option Actn :=
  match T t with
  | some ti => if ti.eqs.isEmpty = false then if kindsOk ti.eqs xs = true then match eqCells xs ys with
      | some b => match boolOp op with
        | some neg => some (pureA (.bo (if neg then !b else b)) [])
        | none => none
      | none => none else none
    else match ti.d with
    | .array n e => match T e with
      | some ei => match ei.d with
        | .int _ => if ei.size = 1 then if xs.length = n then if numsOk xs = true then match eqCells xs ys with
          | some b => match boolOp op with
            | some neg => some (pureA (.bo (if neg then !b else b)) [])
            | none => none
          | none => none else none else none else none
        | _ => none
      | none => none
    | _ => none
  | none => none
def actIfn (op : BinOp) (t : TypeId) (b : Bool) (y : Operand) : Option Actn :=
  match y with
  | .const .nilIface => match T t with
    | some ti => match ti.d with
      | .interface _ => match boolOp op with
        | some neg => some (pureA (.bo (if neg then b else !b)) [])
        | none => none
      | _ => none
    | none => none
  | _ => none
def actBin2 (op : BinOp) (t : TypeId) (x y : Operand) : Option Actn :=
  match sv x with
  | .c (.one (.ifn b)) => actIfn T op t b y
  | .c (.agg xs) => match sv y with
    | .c (.agg ys) => actAggEq T op t xs ys
    | _ => none
  | _ => actBin T sv op t x y
def actUn (op : UnOp) (x : Operand) : Option Actn :=
  match sv x with
  | .c (.one a) => match unAV op a with
    | some v => some (pureA v [])
    | none => none
  | _ => none
def actConv (s d : TypeId) (x : Operand) : Option Actn :=
  match T s with
  | some si => match T d with
    | some di => match sv x with
      | .c (.one a) => match convAV di.d a with
        | some v => some (pureA v [])
        | none => match di.d with
          | .slice e => match T e with
            | some ei => match ei.d with
              | .int .u8 => match a with
                | .str l => some (bytesA l)
                | _ => none
              | _ => none
            | none => none
          | .string => match si.d with
            | .slice e => match T e with
              | some ei => match ei.d with
                | .int .u8 => match a with
                  | .sl id k st n => if st = 1 then some (strA id k n) else none
                  | .val (.slice none 0 0) => some (pureA (.str []) [])
                  | _ => none
                | _ => none
              | none => none
            | _ => none
          | _ => none
      | _ => none
    | none => none
  | none => none
def actExtract (x : Operand) (i : Nat) : Option Actn :=
  match sv x with
  | .tup xs => match xs[i]? with
    | some c => some (pureS (.c c) [])
    | none => none
  | _ => none
def okRow (i : TyI) : Bool := i.d.isRow || i.size == 1
def actIndex (t : TypeId) (x y : Operand) : Option Actn :=
  match T t with
  | some ti => match sv y with
    | .c (.one b) => match b.toI with
      | some i => match ti.d with
        | .string => match sv x with
          | .c (.one (.str l)) => some (pureA (.u8 (l.getD i.toNat 0)) [0 ≤ i ∧ i < l.length])
          | _ => none
        | .array n e => match T e with
          | some ei => if okRow ei then match sv x with
            | .c (.agg xs) => some (pureS (.c (partS ei xs (i.toNat * ei.size))) [0 ≤ i ∧ i < n ∧ i.toNat * ei.size + ei.size ≤ xs.length])
            | _ => none else none
          | none => none
        | _ => none
      | none => none
    | _ => none
  | none => none
def actField (t : TypeId) (x : Operand) (f : Nat) : Option Actn :=
  match T t with
  | some ti => match ti.d with
    | .struct fs => match fs[f]? with
      | some fd => match T fd.type with
        | some fi => if okRow fi then match sv x with
          | .c (.agg xs) => some (pureS (.c (partS fi xs fd.offset)) [fd.offset + fi.size ≤ xs.length])
          | _ => none else none
        | none => none
      | none => none
    | _ => none
  | none => none
def actSlice (t : TypeId) (x : Operand) (lo hi mx : Option Operand) : Option Actn :=
  match mx with
  | some _ => none
  | none => match T t with
    | some ti => match loOf (lo.map sv) with
      | some a => match ti.d with
        | .string => match sv x with
          | .c (.one (.str l)) => match hiOf l.length (hi.map sv) with
            | some b => some (pureA (.str (cutStr l (lo.map sv) (hi.map sv) a b)) [0 ≤ a ∧ a ≤ b ∧ b ≤ l.length])
            | none => none
          | _ => none
        | .slice e => match T e with
          | some ei => match sv x with
            | .c (.one (.sl id k st n)) => if st = ei.size then match hiOf n (hi.map sv) with
              | some b => some (pureA (.sl id (k + a.toNat) ei.size (b.toNat - a.toNat)) [0 ≤ a ∧ a ≤ b ∧ b ≤ n])
              | none => none else none
            | .c (.one (.val (.slice none 0 0))) => match hiOf 0 (hi.map sv) with
              | some b => some (pureA (.val (.slice none 0 0)) [0 ≤ a ∧ a ≤ b ∧ b ≤ ((0 : Nat) : Int)])
              | none => none
            | _ => none
          | none => none
        | .array n e => match lo, hi with
          | none, none => match T e with
            | some ei => match sv x with
              | .c (.one (.ptr id 0 0 0)) => some (sliceArrA ei n id)
              | _ => none
            | none => none
          | _, _ => none
        | _ => none
      | none => none
    | none => none
def actIndexAddr (t : TypeId) (x y : Operand) : Option Actn :=
  match T t with
  | some ti => match sv y with
    | .c (.one b) => match b.toI with
      | some i => match ti.d with
        | .slice e => match T e with
          | some ei => match sv x with
            | .c (.one (.sl id k st n)) => if st = ei.size then some (pureA (.ptr id (k + i.toNat) ei.size 0) [0 ≤ i ∧ i < n]) else none
            | _ => none
          | none => none
        | .array n e => match T e with
          | some ei => match sv x with
            | .c (.one (.ptr id k st j)) => some (pureA (arrPtr id k st j ei.size i.toNat) [0 ≤ i ∧ i < n])
            | _ => none
          | none => none
        | _ => none
      | none => none
    | _ => none
  | none => none
def actFieldAddr (t : TypeId) (x : Operand) (f : Nat) : Option Actn :=
  match T t with
  | some ti => match ti.d with
    | .struct fs => match fs[f]? with
      | some fd => match T fd.type with
        | some fi => if fi.size = 0 then none else match sv x with
          | .c (.one (.ptr id k st j)) => some (pureA (.ptr id k st (j + fd.offset)) [])
          | _ => none
        | none => none
      | none => none
    | _ => none
  | none => none
def actLoad (t : TypeId) (x : Operand) : Option Actn :=
  match T t with
  | some ti => if okRow ti then match sv x with
    | .c (.one (.ptr id k st j)) => some (loadA ti id k st j)
    | _ => none else none
  | none => none
def actStore (t : TypeId) (x y : Operand) : Option Actn :=
  match T t with
  | some ti => match sv x with
    | .c (.one (.ptr id k st j)) => match sv y with
      | .c c => some (storeA ti id k st j c)
      | _ => none
    | _ => none
  | none => none
def actAlloc (t : TypeId) : Option Actn :=
  match T t with
  | some ti => some (newA (strideOf T ti.d) ti.zero.cells [])
  | none => none
def actBox (t : TypeId) (x : Operand) : Option Actn :=
  match T t with
  | some ti => match sv x with
    | .c c => some (newA (strideOf T ti.d) c.cells [PlainL c.cells])
    | _ => none
  | none => none
def actMake (t : TypeId) (x y : Operand) : Option Actn :=
  match T t with
  | some ti => match ti.d with
    | .slice e => match T e with
      | some ei => if ei.size = 1 then match ei.zero with
        | .one z => match sv x with
          | .c (.one a) => match a.toI with
            | some n => match sv y with
              | .c (.one b) => match b.toI with
                | some c => some (makeA ei z n c)
                | none => none
              | _ => none
            | none => none
          | _ => none
        | _ => none else none
      | none => none
    | _ => none
  | none => none
def actBuild (t : TypeId) (ps : List (Nat × Operand)) : Option Actn :=
  match T t with
  | some ti => buildA T ti (partsOf sv ps)
  | none => none
def actBuildSlice (t : TypeId) (n : Nat) (ps : List (Nat × Operand)) : Option Actn :=
  match T t with
  | some ti => match ti.d with
    | .slice e => match T e with
      | some ei => buildSliceA ei n (partsOf sv ps)
      | none => none
    | _ => none
  | none => none
def actNil (x : Operand) : Option Actn :=
  match sv x with
  | .c (.one (.ptr id k st j)) => some (pureA (.ptr id k st j) [])
  | _ => none
def actLen (t : TypeId) (x : Operand) : Option Actn :=
  match T t with
  | some ti => match ti.d with
    | .array n _ => some (pureA (.num n) [])
    | _ => match sv x with
      | .c (.one a) => match lenAV ti.d a with
        | some n => some (pureA (.num n) [])
        | none => none
      | _ => none
  | none => none
def isStr : SV → Bool
  | .c (.one (.str _)) => true
  | _ => false
def fitsB (y : SV) (d : TypeDesc) : Bool := match d with
  | .string => isStr y
  | .slice _ => !isStr y
  | _ => false
def actAppend (t u : TypeId) (x y : Operand) : Option Actn :=
  match T t with
  | some ti => match ti.d with
    | .slice e => match T e with
      | some ei => match T u with
        | some ui => if fitsB (sv y) ui.d then match srcF ei.size (sv y) with
          | some fy => match sv x with
            | .c (.one (.sl id k st n)) => if k = 0 then if st = ei.size then if fy.contains id then none else some (appA ei (sv y) id n fy) else none else none
            | .c (.one (.val (.slice none 0 0))) => some (appNilA ei (sv y) fy)
            | _ => none
          | none => none else none
        | none => none
      | none => none
    | _ => none
  | none => none
def actCopy (t u : TypeId) (x y : Operand) : Option Actn :=
  match T t with
  | some ti => match ti.d with
    | .slice e => match T e with
      | some ei => match T u with
        | some ui => if fitsB (sv y) ui.d then match srcF ei.size (sv y) with
          | some fy => match sv x with
            | .c (.one (.sl id k st n)) => if st = ei.size then if fy.contains id then none else some (copyA ei (sv y) id k n fy) else none
            | _ => none
          | none => none else none
        | none => none
      | none => none
    | _ => none
  | none => none
def actMM (mx : Bool) (x y : Operand) : Option Actn :=
  match sv x with
  | .c (.one (.num a)) => match sv y with
    | .c (.one (.num b)) => some (pureA (.num (minS mx a b)) [])
    | _ => none
  | _ => none
def argsOf : List SV → Option (List CV)
  | [] => some []
  | .c c :: l => match argsOf l with
    | some m => some (c :: m)
    | none => none
  | _ :: _ => none
def actCall (f : FuncId) (xs : List Operand) : Option Actn :=
  match Ga f with
  | some con => match argsOf (xs.map sv) with
    | some args => some (callA con args (firstIds (args.flatMap CV.ids)))
    | none => none
  | none => none
def two : List Operand → Option (Operand × Operand)
  | [x, y] => some (x, y)
  | _ => none
def one1 : List Operand → Option Operand
  | [x] => some x
  | _ => none
def ty1 : List TypeId → Option TypeId
  | [x] => some x
  | _ => none
def ty2 : List TypeId → Option (TypeId × TypeId)
  | [x, y] => some (x, y)
  | _ => none
def actBuiltin (b : Builtin) (xs : List Operand) (ats : List TypeId) : Option Actn :=
  match b with
  | .len => match one1 xs with
    | some x => match ty1 ats with
      | some t => actLen T sv t x
      | none => none
    | none => none
  | .append => match two xs with
    | some (x, y) => match ty2 ats with
      | some (t, u) => actAppend T sv t u x y
      | none => none
    | none => none
  | .copy => match two xs with
    | some (x, y) => match ty2 ats with
      | some (t, u) => actCopy T sv t u x y
      | none => none
    | none => none
  | .min => match two xs with
    | some (x, y) => actMM sv false x y
    | none => none
  | .max => match two xs with
    | some (x, y) => actMM sv true x y
    | none => none
  | _ => none
/-- WHAT AN OPERATION DOES. -/
def act (op : Op) : Option Actn :=
  match op with
  | .move x => some (pureS (sv x) [])
  | .assign x => some (pureS (sv x) [])
  | .pick c a b => actPick sv c a b
  | .binOp p t x y _ => actBin2 T sv p t x y
  | .unOp p _ x => actUn sv p x
  | .convert s d x => actConv T sv s d x
  | .extract x i => actExtract sv x i
  | .index t x y => actIndex T sv t x y
  | .field t x f => actField T sv t x f
  | .slice t x lo hi mx => actSlice T sv t x lo hi mx
  | .indexAddr t x y => actIndexAddr T sv t x y
  | .fieldAddr t x f => actFieldAddr T sv t x f
  | .load t x => actLoad T sv t x
  | .store t x y => actStore T sv t x y
  | .alloc t => actAlloc T t
  | .box t x => actBox T sv t x
  | .makeSlice t x y => actMake T sv t x y
  | .build t ps => actBuild T sv t ps.toList
  | .buildSlice t n ps => actBuildSlice T sv t n ps.toList
  | .nilCheck x => actNil sv x
  | .call c => match c.callee with
    | .value (.func f) => actCall Ga sv f c.args.toList
    | .builtin b => actBuiltin T sv b c.args.toList c.argTypes.toList
    | _ => none
  | _ => none
end
def GaOkG (P : Program) (G : List GFact) (Ga : Nat → Option Con) : Prop := ∀ f con, Ga f = some con → ConOkG P G f con
abbrev GaOk (P : Program) (Ga : Nat → Option Con) : Prop := GaOkG P [] Ga
section
variable {P : Program} {G : List GFact} {T : Nat → Option TyI} {Ga : Nat → Option Con} {o : Oper} {sv : Operand → SV} {ev : Operand → Value} {r : Lc}
theorem okRow_spec {i : TyI} (h : okRow i = true) : i.d.isRow = false → i.size = 1 := fun h1 => by
  unfold okRow at h
  rw [h1] at h
  simpa using h
theorem fitsB_spec {y : SV} {d : TypeDesc} (h : fitsB y d = true) : (d = .string ∨ ∃ e, d = .slice e) ∧ ((∃ s, y = .c (.one (.str s))) → d = .string) ∧ ((∀ s, y ≠ .c (.one (.str s))) → ∃ e, d = .slice e) := by
  unfold fitsB at h
  split at h
  · refine ⟨.inl rfl, fun _ => rfl, fun hn => ?_⟩
    unfold isStr at h
    split at h
    · exact (hn _ rfl).elim
    · cases h
  · refine ⟨.inr ⟨_, rfl⟩, fun ⟨s, hs⟩ => ?_, fun _ => ⟨_, rfl⟩⟩
    subst hs
    simp [isStr] at h
  · cases h
theorem argsOf_spec : ∀ {l : List SV} {args : List CV}, argsOf l = some args → l = args.map .c
  | [], args, h => by simp only [argsOf, Option.some.injEq] at h; subst h; rfl
  | .tup _ :: l, args, h => by simp [argsOf] at h
  | .c c :: l, args, h => by
    simp only [argsOf] at h
    cases hm : argsOf l with
    | none => rw [hm] at h; cases h
    | some m =>
      simp only [hm, Option.some.injEq] at h
      subst h
      rw [argsOf_spec hm]; rfl
theorem firstIds_spec (l : List Nat) : (firstIds l).Nodup ∧ ∀ i ∈ l, i ∈ firstIds l := by
  unfold firstIds
  have key : ∀ (l acc : List Nat), acc.Nodup → (l.foldl (fun acc i => if acc.contains i then acc else acc ++ [i]) acc).Nodup ∧ (∀ i ∈ acc, i ∈ l.foldl (fun acc i => if acc.contains i then acc else acc ++ [i]) acc) ∧ ∀ i ∈ l, i ∈ l.foldl (fun acc i => if acc.contains i then acc else acc ++ [i]) acc := fun l => by
    induction l with
    | nil => intro acc h; exact ⟨h, fun i hi => hi, fun i hi => by cases hi⟩
    | cons a l ih =>
      intro acc h
      rw [List.foldl_cons]
      by_cases ha : acc.contains a = true
      · rw [if_pos ha]
        obtain ⟨h1, h2, h3⟩ := ih acc h
        refine ⟨h1, h2, fun i hi => ?_⟩
        rcases List.mem_cons.1 hi with rfl | hi
        · exact h2 _ (by simpa using ha)
        · exact h3 i hi
      · rw [if_neg ha]
        have hna : a ∉ acc := by simpa using ha
        obtain ⟨h1, h2, h3⟩ := ih (acc ++ [a]) (by
          rw [List.nodup_append]
          refine ⟨h, by simp, fun x hx y hy => ?_⟩
          simp at hy; subst hy
          exact fun e => hna (e ▸ hx))
        refine ⟨h1, fun i hi => h2 i (by simp [hi]), fun i hi => ?_⟩
        rcases List.mem_cons.1 hi with rfl | hi
        · exact h2 _ (by simp)
        · exact h3 i hi
  obtain ⟨h1, _, h3⟩ := key l [] (by simp)
  exact ⟨h1, h3⟩
theorem act_ok (hT : TyOk P T) (hG : GaOkG P G Ga) (he : EvOk r sv ev) (hfv : ∀ f, ev (.func f) = .func (.func f) #[] #[]) (hnil : ev (.const .nilIface) = .nilIface) {A : Actn} (h : act T Ga sv o.op = some A) : ActOk P G o ev r A := by
  unfold act at h
  split at h
  case h_1 => rename_i x ho; injection h with h; subst h; exact actOk_move he (.inl ho)
  case h_2 => rename_i x ho; injection h with h; subst h; exact actOk_move he (.inr ho)
  case h_3 =>
    rename_i c a b ho
    unfold actPick at h
    split at h
    · rename_i x hx; injection h with h; subst h; exact actOk_pick he ho hx
    · cases h
  case h_4 =>
    rename_i p t x y yt ho
    unfold actBin2 at h
    split at h
    case h_1 =>
      rename_i b hx
      unfold actIfn at h
      split at h
      case h_2 => cases h
      split at h
      case h_2 => cases h
      rename_i ti ht
      split at h
      case h_2 => cases h
      rename_i ms hd
      split at h
      case h_2 => cases h
      rename_i neg hn
      injection h with h; subst h
      refine actOk_ifn hT he (neg := neg) (t := t) (yt := yt) (x := x) ?_ hnil ht hd hx
      rw [ho]
      unfold boolOp at hn
      split at hn <;> simp at hn <;> subst hn <;> rfl
    case h_2 =>
      rename_i xs hx
      split at h
      case h_2 => cases h
      rename_i ys hy
      unfold actAggEq at h
      split at h
      case h_2 => cases h
      rename_i ti ht
      split at h
      case isTrue =>
        rename_i hs
        split at h
        case isFalse => cases h
        rename_i hl
        split at h
        case h_2 => cases h
        rename_i b heq
        split at h
        case h_2 => cases h
        rename_i neg hn
        injection h with h; subst h
        refine actOk_aggEqS hT he (neg := neg) (t := t) (yt := yt) (x := x) (y := y) ?_ ht hs hl heq hx hy
        rw [ho]
        unfold boolOp at hn
        split at hn <;> simp at hn <;> subst hn <;> rfl
      split at h
      case h_2 => cases h
      rename_i n e hd
      split at h
      case h_2 => cases h
      rename_i ei hE
      split at h
      case h_2 => cases h
      rename_i kk hed
      split at h
      case isFalse => cases h
      rename_i hsz
      split at h
      case isFalse => cases h
      rename_i hl
      split at h
      case isFalse => cases h
      rename_i hnm
      split at h
      case h_2 => cases h
      rename_i b heq
      split at h
      case h_2 => cases h
      rename_i neg hn
      injection h with h; subst h
      refine actOk_aggEq hT he (neg := neg) (t := t) (yt := yt) (x := x) (y := y) ?_ ht hd hE hed hsz hl hnm heq hx hy
      rw [ho]
      unfold boolOp at hn
      split at hn <;> simp at hn <;> subst hn <;> rfl
    unfold actBin at h
    split at h
    · rename_i a hx
      split at h
      · rename_i b hy
        split at h
        · rename_i v ob hb; injection h with h; subst h; exact actOk_bin he ho hx hy hb
        · split at h
          · split at h
            · rename_i q
              unfold actBool at h
              split at h
              · rename_i ti ht
                split at h
                · rename_i hd
                  split at h
                  · rename_i neg hn
                    injection h with h; subst h
                    refine actOk_boolEq hT he (neg := neg) (t := t) (yt := yt) (x := x) (y := y) ?_ ht hd hx hy
                    rw [ho]
                    unfold boolOp at hn
                    split at hn <;> simp at hn <;> subst hn <;> rfl
                  · cases h
                · cases h
              · cases h
            · cases h
          · cases h
      · cases h
    · cases h
  case h_5 =>
    rename_i p t x ho
    unfold actUn at h
    split at h
    · rename_i a hx
      split at h
      · rename_i v hv; injection h with h; subst h; exact actOk_un he ho hx hv
      · cases h
    · cases h
  case h_6 =>
    rename_i s d x ho
    unfold actConv at h
    split at h
    · rename_i si hs
      split at h
      · rename_i di hd
        split at h
        · rename_i a hx
          split at h
          · rename_i v hv
            injection h with h; subst h
            refine actOk_pure fun _ w => ?_
            have h1 := he x
            rw [hx] at h1
            obtain ⟨u, hu, hr⟩ := convAV_run (P := P) hv h1 (hT s si hs).1 (hT d di hd).1 w
            exact ⟨u, by unfold execOp; rw [ho]; simp only [Sem.run_bind, hu, Result.andThen_ok, Sem.run_pure], hr⟩
          · split at h
            · rename_i e hde
              split at h
              · rename_i ei hE
                split at h
                · rename_i he8
                  split at h
                  · injection h with h; subst h; exact actOk_bytes hT he ho hs hd hde hE he8 hx
                  · cases h
                · cases h
              · cases h
            · rename_i hds
              split at h
              · rename_i e hse
                split at h
                · rename_i ei hE
                  split at h
                  · rename_i he8
                    split at h
                    · split at h
                      · rename_i hst
                        injection h with h; subst h; subst hst
                        exact actOk_str hT he ho hs hd hse hds hE he8 hx
                      · cases h
                    · injection h with h; subst h
                      exact actOk_strNil hT he ho hs hd hse hds hE he8 hx
                    · cases h
                  · cases h
                · cases h
              · cases h
            · cases h
        · cases h
      · cases h
    · cases h
  case h_7 =>
    rename_i x i ho
    unfold actExtract at h
    split at h
    · rename_i xs hx
      split at h
      · rename_i c hc; injection h with h; subst h; exact actOk_extract he ho hx hc
      · cases h
    · cases h
  case h_8 =>
    rename_i t x y ho
    unfold actIndex at h
    split at h
    · rename_i ti ht
      split at h
      · rename_i b hy
        split at h
        · rename_i i hi
          split at h
          · rename_i hd
            split at h
            · rename_i l hx; injection h with h; subst h; exact actOk_index hT he ho ht hd hx hy hi
            · cases h
          · rename_i n e hd
            split at h
            · rename_i ei hE
              split at h
              · rename_i hok
                split at h
                · rename_i xs hx; injection h with h; subst h; exact actOk_indexArr hT he ho ht hd hE (okRow_spec hok) hx hy hi
                · cases h
              · cases h
            · cases h
          · cases h
        · cases h
      · cases h
    · cases h
  case h_9 =>
    rename_i t x f ho
    unfold actField at h
    split at h
    · rename_i ti ht
      split at h
      · rename_i fs hd
        split at h
        · rename_i fd hf
          split at h
          · rename_i fi hE
            split at h
            · rename_i hok
              split at h
              · rename_i xs hx; injection h with h; subst h; exact actOk_field hT he ho ht hd hf hE (okRow_spec hok) hx
              · cases h
            · cases h
          · cases h
        · cases h
      · cases h
    · cases h
  case h_10 =>
    rename_i t x lo hi mx ho
    unfold actSlice at h
    split at h
    · cases h
    · split at h
      · rename_i ti ht
        split at h
        · rename_i a ha
          split at h
          · rename_i hd
            split at h
            · rename_i l hx
              split at h
              · rename_i b hb; injection h with h; subst h; exact actOk_sliceStr hT he ho ht hd hx ha hb
              · cases h
            · cases h
          · rename_i e hd
            split at h
            · rename_i ei hE
              split at h
              · rename_i id k st n hx
                split at h
                · rename_i hst
                  subst hst
                  split at h
                  · rename_i b hb; injection h with h; subst h; exact actOk_sliceSl hT he ho ht hd hE hx ha hb
                  · cases h
                · cases h
              · rename_i hx
                split at h
                · rename_i b hb; injection h with h; subst h; exact actOk_sliceNil hT he ho ht hd hE hx ha hb
                · cases h
              · cases h
            · cases h
          · rename_i n e hd
            split at h
            · split at h
              · rename_i ei hE
                split at h
                · rename_i id hx; injection h with h; subst h; exact actOk_sliceArr hT he ho ht hd hE hx
                · cases h
              · cases h
            · cases h
          · cases h
        · cases h
      · cases h
  case h_11 =>
    rename_i t x y ho
    unfold actIndexAddr at h
    split at h
    · rename_i ti ht
      split at h
      · rename_i b hy
        split at h
        · rename_i i hi
          split at h
          · rename_i e hd
            split at h
            · rename_i ei hE
              split at h
              · rename_i id k st n hx
                split at h
                · rename_i hst
                  subst hst
                  injection h with h; subst h; exact actOk_indexAddr hT he ho ht hd hE hx hy hi
                · cases h
              · cases h
            · cases h
          · rename_i n e hd
            split at h
            · rename_i ei hE
              split at h
              · rename_i id k st j hx
                injection h with h; subst h; exact actOk_indexAddrArr hT he ho ht hd hE hx hy hi
              · cases h
            · cases h
          · cases h
        · cases h
      · cases h
    · cases h
  case h_12 =>
    rename_i t x f ho
    unfold actFieldAddr at h
    split at h
    · rename_i ti ht
      split at h
      · rename_i fs hd
        split at h
        · rename_i fd hf
          split at h
          · rename_i fi hE
            split at h
            · cases h
            · rename_i hz
              split at h
              · rename_i id k st j hx; injection h with h; subst h; exact actOk_fieldAddr hT he ho ht hd hf hE hz hx
              · cases h
          · cases h
        · cases h
      · cases h
    · cases h
  case h_13 =>
    rename_i t x ho
    unfold actLoad at h
    split at h
    · rename_i ti ht
      split at h
      · rename_i hok
        split at h
        · rename_i id k st j hx; injection h with h; subst h; exact actOk_load hT he ho ht (okRow_spec hok) hx
        · cases h
      · cases h
    · cases h
  case h_14 =>
    rename_i t x y ho
    unfold actStore at h
    split at h
    · rename_i ti ht
      split at h
      · rename_i id k st j hx
        split at h
        · rename_i c hy; injection h with h; subst h; exact actOk_store hT he ho ht hx hy
        · cases h
      · cases h
    · cases h
  case h_15 =>
    rename_i t ho
    unfold actAlloc at h
    split at h
    · rename_i ti ht; injection h with h; subst h; exact actOk_alloc hT ho ht
    · cases h
  case h_16 =>
    rename_i t x ho
    unfold actBox at h
    split at h
    · rename_i ti ht
      split at h
      · rename_i c hx; injection h with h; subst h; exact actOk_box he ho hx _
      · cases h
    · cases h
  case h_17 =>
    rename_i t x y ho
    unfold actMake at h
    split at h
    · rename_i ti ht
      split at h
      · rename_i e hd
        split at h
        · rename_i ei hE
          split at h
          · rename_i hs
            split at h
            · rename_i z hz
              split at h
              · rename_i a hx
                split at h
                · rename_i n hn
                  split at h
                  · rename_i b hy
                    split at h
                    · rename_i c hc; injection h with h; subst h; exact actOk_make hT he ho ht hd hE hs hz hx hy hn hc
                    · cases h
                  · cases h
                · cases h
              · cases h
            · cases h
          · cases h
        · cases h
      · cases h
    · cases h
  case h_18 =>
    rename_i t ps ho
    unfold actBuild at h
    split at h
    · rename_i ti ht; exact actOk_build hT he (ps := ps.toList) (by simpa using ho) ht h
    · cases h
  case h_19 =>
    rename_i t n ps ho
    unfold actBuildSlice at h
    split at h
    · rename_i ti ht
      split at h
      · rename_i e hd
        split at h
        · rename_i ei hE; exact actOk_buildSlice hT he (ps := ps.toList) (by simpa using ho) ht hd hE h
        · cases h
      · cases h
    · cases h
  case h_20 =>
    rename_i x ho
    unfold actNil at h
    split at h
    · rename_i hx; injection h with h; subst h; exact actOk_nil he ho hx
    · cases h
  case h_21 =>
    rename_i c ho
    obtain ⟨callee, args, ats⟩ := c
    simp only at h
    split at h
    · rename_i f
      unfold actCall at h
      split at h
      · rename_i con hcon
        split at h
        · rename_i ags has
          injection h with h; subst h
          obtain ⟨h1, h2⟩ := firstIds_spec (ags.flatMap CV.ids)
          exact actOk_call (hG f con hcon) he (xs := args.toList) (by simpa using ho) (argsOf_spec has) h1 (fun c hc id hid => h2 id (List.mem_flatMap.2 ⟨c, hc, hid⟩)) (hfv f)
        · cases h
      · cases h
    · rename_i b
      have two_spec : ∀ {x y : Operand}, two args.toList = some (x, y) → args = #[x, y] := fun {x y} h => by
        unfold two at h
        split at h
        · rename_i heq; injection h with h; injection h with h1 h2; subst h1; subst h2; apply Array.ext'; simpa using heq
        · cases h
      have one_spec : ∀ {x : Operand}, one1 args.toList = some x → args = #[x] := fun {x} h => by
        unfold one1 at h
        split at h
        · rename_i heq; injection h with h; subst h; apply Array.ext'; simpa using heq
        · cases h
      have t1_spec : ∀ {x : TypeId}, ty1 ats.toList = some x → ats = #[x] := fun {x} h => by
        unfold ty1 at h
        split at h
        · rename_i heq; injection h with h; subst h; apply Array.ext'; simpa using heq
        · cases h
      have t2_spec : ∀ {x y : TypeId}, ty2 ats.toList = some (x, y) → ats = #[x, y] := fun {x y} h => by
        unfold ty2 at h
        split at h
        · rename_i heq; injection h with h; injection h with h1 h2; subst h1; subst h2; apply Array.ext'; simpa using heq
        · cases h
      unfold actBuiltin at h
      split at h
      · split at h
        · rename_i x hx
          split at h
          · rename_i t ht'
            have e1 := one_spec hx
            have e2 := t1_spec ht'
            subst e1; subst e2
            unfold actLen at h
            split at h
            · rename_i ti ht
              split at h
              · rename_i n e hd; injection h with h; subst h; exact actOk_lenArr hT ho ht hd
              · split at h
                · rename_i a ha
                  split at h
                  · rename_i n hn; injection h with h; subst h; exact actOk_len hT he ho ht ha hn
                  · cases h
                · cases h
            · cases h
          · cases h
        · cases h
      · split at h
        · rename_i x y hxy
          split at h
          · rename_i t u htu
            have e1 := two_spec hxy
            have e2 := t2_spec htu
            subst e1; subst e2
            unfold actAppend at h
            split at h
            · rename_i ti ht
              split at h
              · rename_i e hd
                split at h
                · rename_i ei hE
                  split at h
                  · rename_i ui hu
                    split at h
                    · rename_i hfit
                      obtain ⟨f1, f2, f3⟩ := fitsB_spec hfit
                      split at h
                      · rename_i fy hfy
                        split at h
                        · rename_i id k st n hx
                          split at h
                          · rename_i hk
                            split at h
                            · rename_i hst
                              split at h
                              · cases h
                              · injection h with h; subst h; subst hk; subst hst
                                exact actOk_append hT he ho ht hd hE hu f1 f2 f3 hx hfy
                            · cases h
                          · cases h
                        · rename_i hx; injection h with h; subst h; exact actOk_appNil hT he ho ht hd hE hu f1 f2 f3 hx hfy
                        · cases h
                      · cases h
                    · cases h
                  · cases h
                · cases h
              · cases h
            · cases h
          · cases h
        · cases h
      · split at h
        · rename_i x y hxy
          split at h
          · rename_i t u htu
            have e1 := two_spec hxy
            have e2 := t2_spec htu
            subst e1; subst e2
            unfold actCopy at h
            split at h
            · rename_i ti ht
              split at h
              · rename_i e hd
                split at h
                · rename_i ei hE
                  split at h
                  · rename_i ui hu
                    split at h
                    · rename_i hfit
                      obtain ⟨f1, f2, f3⟩ := fitsB_spec hfit
                      split at h
                      · rename_i fy hfy
                        split at h
                        · rename_i id k st n hx
                          split at h
                          · rename_i hst
                            split at h
                            · cases h
                            · injection h with h; subst h; subst hst
                              exact actOk_copy hT he ho ht hd hE hu f1 f2 f3 hx hfy
                          · cases h
                        · cases h
                      · cases h
                    · cases h
                  · cases h
                · cases h
              · cases h
            · cases h
          · cases h
        · cases h
      · split at h
        · rename_i x y hxy
          have e1 := two_spec hxy
          subst e1
          unfold actMM at h
          split at h
          · rename_i a ha
            split at h
            · rename_i b hb; injection h with h; subst h; exact actOk_minmax he (mx := false) ho ha hb
            · cases h
          · cases h
        · cases h
      · split at h
        · rename_i x y hxy
          have e1 := two_spec hxy
          subst e1
          unfold actMM at h
          split at h
          · rename_i a ha
            split at h
            · rename_i b hb; injection h with h; subst h; exact actOk_minmax he (mx := true) ho ha hb
            · cases h
          · cases h
        · cases h
      · cases h
    · cases h
  case h_22 => cases h
end
end Go.Proofs.YtahiopdkekkibaaGreatDoor

/-
  A walk by reckoning, part 16: one operation of a region. It speaks of no program.
-/
namespace Go.Proofs.YtahiopdkekkibaaGreatDoor
open Go Go.RowKit
set_option linter.unusedVariables false
set_option linter.unusedSimpArgs false

def putS (fr : List (Nat × SV)) (dst : Option Tmp) (v : SV) : List (Nat × SV) := match dst with
  | some d => aset fr d v
  | none => fr
def dstOk (nt : Nat) (dst : Option Tmp) : Bool := match dst with
  | some d => decide (d < nt)
  | none => true
/-- Does the operation run? 'wa' says so where the guard's value is not known. -/
def wantS (wa : List (Nat × Bool)) (ops : Array Oper) (g : Option (Nat × Bool)) (i : Nat) (fr : List (Nat × SV)) : Option (Bool × List Prop) :=
  match g with
  | none => some (true, [])
  | some (j, want) => match (ops[j]?).bind (·.dst) with
    | some t => match aget fr t with
      | some (.c (.one (.bo x))) => match aget wa i with
        | some y => some (y, [(x == want) = y])
        | none => some (x == want, [])
      | some (.c (.one (.val (.tuple _)))) => some (false, [])
      | _ => none
    | none => none
/-- What it leaves: the state, what it owes, which objects it looked at, whether it turns them. -/
structure Out : Type 1 where
  st : St
  ob : List Prop
  foot : List Nat
  wr : Bool
def freshAll (hp : List (Nat × Ent)) (b : Nat) : Nat → Bool
  | 0 => true
  | n + 1 => (aget hp (b + n)).isNone && freshAll hp b n
structure Env where
  T : Nat → Option TyI
  Ga : Nat → Option Con
  gl : List Nat
  nt : Nat
  keys : List Nat
  G : List GFact
def stepO (E : Env) (wa : List (Nat × Bool)) (ops : Array Oper) (c i : Nat) (o : Oper) (st : St) : Option Out :=
  if dstOk E.nt o.dst then match wantS wa ops o.guard i st.fr with
    | none => none
    | some (false, ob) => some ⟨⟨putS st.fr o.dst (.c (.one (.val undef))), st.hp⟩, ob, [], false⟩
    | some (true, ob) => match act E.T E.Ga (evalS E.gl st.fr) o.op with
      | none => none
      | some A => match getAll st.hp A.foot with
        | none => none
        | some es => match A.run es (fun m => c + 8 * i + m) with
          | none => none
          | some R => if Nat.ble R.news.length 8 && freshAll st.hp (c + 8 * i) R.news.length && (A.wr || R.upd.isEmpty) then
              some ⟨⟨putS st.fr o.dst R.v, newAll (fun m => c + 8 * i + m) (setAllH st.hp A.foot R.upd) 0 R.news⟩, R.obl ++ ob, A.foot, A.wr⟩
            else none
  else none
theorem freshAll_spec {hp : List (Nat × Ent)} {b : Nat} : ∀ {n : Nat}, freshAll hp b n = true → ∀ m, m < n → aget hp (b + m) = none
  | 0, _, m, h => by omega
  | n + 1, h, m, hm => by
    simp only [freshAll, Bool.and_eq_true] at h
    by_cases e : m = n
    · subst e
      cases hq : aget hp (b + m) with
      | none => rfl
      | some x => rw [hq] at h; cases h.1
    · exact freshAll_spec h.2 m (by omega)
theorem freshAll_of {hp : List (Nat × Ent)} {b : Nat} : ∀ {n : Nat}, (∀ m, m < n → aget hp (b + m) = none) → freshAll hp b n = true
  | 0, _ => rfl
  | n + 1, h => by
    simp only [freshAll, Bool.and_eq_true]
    exact ⟨by rw [h n (by omega)]; rfl, freshAll_of fun m hm => h m (by omega)⟩
structure RepE (P : Program) (E : Env) (C : Ctx) (r : Lc) (st : St) (a : Act) (w : World) : Prop where
  nt : a.tmps.size = E.nt
  defers : a.defers = []
  fr : ∀ t x, aget st.fr t = some x → x.rel r (a.tmps.getD t undef)
  hp : HeapOk C r st.hp w
  gl : ∀ g, g ∈ E.gl → ∃ (b : Option Nat) (c : Nat), r (gid g) = some (some ((g, b), c)) ∧ Blk.off (g, b) = 0
  keep : C.r0.le r
  keys : ∀ id, C.r0 id ≠ none → id ∈ E.keys
  sub : ∀ f ∈ E.G, f ∈ C.G
structure EnvOk (P : Program) (E : Env) : Prop where
  T : TyOk P E.T
  Ga : GaOkG P E.G E.Ga
  mix : P.follows .mixedOrders = true
section
variable {P : Program} {E : Env} {C : Ctx} {r : Lc} {st : St} {a : Act} {w : World}
theorem RepE.ev (h : RepE P E C r st a w) : EvOk r (evalS E.gl st.fr) a.eval := fun x => by
  cases x with
  | tmp t =>
    show (match aget st.fr t with | some x => x | none => .c (.one .junk)).rel r (a.tmps.getD t undef)
    cases hq : aget st.fr t with
    | none => trivial
    | some y => exact h.fr t y hq
  | const v => exact constS_rel r v
  | global g =>
    show (if E.gl.contains g then _ else _ : SV).rel r (.pointer (some ⟨g, 0, none⟩))
    by_cases hg : E.gl.contains g = true
    · rw [if_pos hg]
      obtain ⟨b, c, hc, ho⟩ := h.gl g (by simpa using hg)
      exact ⟨(g, b), c, hc, by rw [ho]⟩
    · rw [if_neg hg]; rfl
  | func f => rfl
theorem RepE.put (h : RepE P E C r st a w) {dst : Option Tmp} (hd : dstOk E.nt dst = true) {r' : Lc} (hle : r.le r') {v : SV} {u : Value} (hv : v.rel r' u) {hp' : List (Nat × Ent)} {w' : World} (hh : HeapOk C r' hp' w') :
    RepE P E C r' ⟨putS st.fr dst v, hp'⟩ (a.put dst u) w' := by
  cases dst with
  | none => exact ⟨h.nt, h.defers, fun t x hx => SV.rel_le hle (h.fr t x hx), hh, fun g hg => by obtain ⟨b, c, hc, ho⟩ := h.gl g hg; exact ⟨b, c, hle _ _ hc, ho⟩, Lc.le_trans h.keep hle, h.keys, h.sub⟩
  | some d =>
    have hlt : d < a.tmps.size := by
      rw [h.nt]
      simpa [dstOk] using hd
    refine ⟨by simp [Act.put, h.nt], h.defers, fun t x hx => ?_, hh, fun g hg => by obtain ⟨b, c, hc, ho⟩ := h.gl g hg; exact ⟨b, c, hle _ _ hc, ho⟩, Lc.le_trans h.keep hle, h.keys, h.sub⟩
    have hx' : aget (aset st.fr d v) t = some x := hx
    rw [aget_aset] at hx'
    by_cases e : d = t
    · subst e
      rw [if_pos rfl] at hx'
      cases hx'
      simp only [Act.put, Array.getD_eq_getD_getElem?, Array.getElem?_setIfInBounds_self_of_lt hlt]
      exact hv
    · rw [if_neg e] at hx'
      simp only [Act.put, Array.getD_eq_getD_getElem?, Array.getElem?_setIfInBounds_ne e]
      have := SV.rel_le hle (h.fr t x hx')
      simpa [Array.getD_eq_getD_getElem?] using this
theorem wantS_ok (h : RepE P E C r st a w) {wa : List (Nat × Bool)} {ops : Array Oper} {o : Oper} {i : Nat} {y : Bool} {ob : List Prop} (hw : wantS wa ops o.guard i st.fr = some (y, ob)) (hob : AllT ob) : Region.wanted o (yielded ops a.tmps) = y := by
  unfold wantS at hw
  unfold Region.wanted
  split at hw
  · rename_i hg
    injection hw with hw
    injection hw with h1 h2
    rw [hg]; exact h1
  · rename_i j want hg
    rw [hg]
    split at hw
    · rename_i t ht
      split at hw
      · rename_i x hx
        have hrel := h.fr t _ hx
        have hrel' : a.tmps.getD t undef = .bool x := hrel
        have hyl : yielded ops a.tmps j = some x := by
          unfold yielded
          rw [ht]
          simp only [Option.bind_some]
          cases hq : a.tmps[t]? with
          | none =>
            rw [Array.getD_eq_getD_getElem?, hq] at hrel'
            simp [undef] at hrel'
          | some v =>
            rw [Array.getD_eq_getD_getElem?, hq] at hrel'
            simp only [Option.getD_some] at hrel'
            rw [hrel']
        have hxw : ((some x : Option Bool) == some want) = (x == want) := by cases x <;> cases want <;> rfl
        simp only [hyl, hxw]
        split at hw
        · injection hw with hw
          injection hw with h1 h2
          subst h1; subst h2
          exact hob.1
        · injection hw with hw
          injection hw with h1 h2
      · rename_i vs hx
        have hrel := h.fr t _ hx
        have hrel' : a.tmps.getD t undef = .tuple vs := hrel
        have hyl : yielded ops a.tmps j = none := by
          unfold yielded
          rw [ht]
          simp only [Option.bind_some]
          cases hq : a.tmps[t]? with
          | none => rfl
          | some v =>
            rw [Array.getD_eq_getD_getElem?, hq] at hrel'
            simp only [Option.getD_some] at hrel'
            rw [hrel']
        injection hw with hw
        injection hw with h1 h2
        subst h1
        simp only [hyl]
        cases want <;> rfl
      · cases hw
    · cases hw
/-- ONE OPERATION. -/
theorem stepO_ok (hE : EnvOk P E) (h : RepE P E C r st a w) {wa : List (Nat × Bool)} {ops : Array Oper} {c i : Nat} {o : Oper} {q : Out} (hs : stepO E wa ops c i o st = some q) (hob : AllT q.ob) {K : Act → World → Prop} {Q : Exit → Act → World → Prop}
    (hK : ∀ r' a' w', r.le r' → RepE P E C r' q.st a' w' → K a' w') : if Region.wanted o (yielded ops a.tmps) then o.wp P a w K Q ∨ (o.asks P a w ∧ LetsOut Q) else K (a.put o.dst undef) w := by
  unfold stepO at hs
  by_cases hd : dstOk E.nt o.dst = true
  case neg => rw [if_neg hd] at hs; cases hs
  rw [if_pos hd] at hs
  split at hs
  · cases hs
  · rename_i ob hw
    injection hs with hs
    subst hs
    rw [wantS_ok h hw hob]
    simp only [Bool.false_eq_true, if_false]
    exact hK r _ _ r.le_refl (h.put hd r.le_refl (v := .c (.one (.val undef))) (u := undef) rfl h.hp)
  · rename_i ob hw
    split at hs
    · cases hs
    · rename_i A hA
      split at hs
      · cases hs
      · rename_i es hes
        split at hs
        · cases hs
        · rename_i R hR
          split at hs
          case isFalse => cases hs
          rename_i hcond
          injection hs with hs
          subst hs
          simp only [Bool.and_eq_true] at hcond
          obtain ⟨⟨hn8, hfr⟩, _⟩ := hcond
          have hob2 := AllT.append.1 hob
          rw [wantS_ok h hw hob2.2, if_pos rfl]
          left
          have hact := act_ok hE.T hE.Ga h.ev (fun f => rfl) rfl hA
          have := hact C st.hp w es (fun m => c + 8 * i + m) R h.hp hes hR hob2.1 (freshAll_spec hfr) (fun m n _ _ e => by omega) h.sub
          refine StepOk.wp this fun u w' ⟨r', hle, hv, hh⟩ => ?_
          exact hK r' _ _ hle (h.put hd hle hv hh)
end
end Go.Proofs.YtahiopdkekkibaaGreatDoor

/-
  A walk by reckoning, part 17: two operations that do not meet may change places. It speaks of no program.
-/
namespace Go.Proofs.YtahiopdkekkibaaGreatDoor
open Go Go.RowKit
set_option linter.unusedVariables false
set_option linter.unusedSimpArgs false

/-- Entries laid one behind the other. -/
def asetL (hp : List (Nat × Ent)) : List (Nat × Ent) → List (Nat × Ent)
  | [] => hp
  | (k, e) :: l => asetL (aset hp k e) l
theorem asetL_other : ∀ (l hp : List (Nat × Ent)) (k : Nat), (∀ p ∈ l, p.1 ≠ k) → aget (asetL hp l) k = aget hp k
  | [], _, _, _ => rfl
  | (i, e) :: l, hp, k, h => by
    rw [asetL, asetL_other l _ k fun p hp' => h p (by simp [hp']), aget_other _ _ (h (i, e) (by simp))]
theorem asetL_none : ∀ (l hp : List (Nat × Ent)) (k : Nat), aget (asetL hp l) k = none → aget hp k = none
  | [], _, _, h => h
  | (i, e) :: l, hp, k, h => by
    have := asetL_none l _ k h
    rw [aget_aset] at this
    split at this
    · cases this
    · exact this
theorem asetL_aset : ∀ (l hp : List (Nat × Ent)) (k : Nat) (e : Ent), (∀ p ∈ l, p.1 ≠ k) → asetL (aset hp k e) l = aset (asetL hp l) k e
  | [], _, _, _, _ => rfl
  | (i, x) :: l, hp, k, e, h => by
    rw [asetL, asetL, aset_comm hp e x (Ne.symm (h (i, x) (by simp))), asetL_aset l _ k e fun p hp' => h p (by simp [hp'])]
theorem asetL_comm : ∀ (l m hp : List (Nat × Ent)), (∀ p ∈ l, ∀ q ∈ m, p.1 ≠ q.1) → asetL (asetL hp l) m = asetL (asetL hp m) l
  | [], _, _, _ => rfl
  | (i, e) :: l, m, hp, h => by
    rw [asetL, asetL_comm l m _ fun p hp' => h p (by simp [hp']), asetL, asetL_aset m hp i e fun q hq => Ne.symm (h (i, e) (by simp) q hq)]
def effU : List Nat → List SObj → List (Nat × Ent)
  | id :: ids, o :: os => (id, ⟨o, true⟩) :: effU ids os
  | _, _ => []
def effN (fresh : Nat → Nat) : Nat → List SObj → List (Nat × Ent)
  | m, o :: os => (fresh m, ⟨o, true⟩) :: effN fresh (m + 1) os
  | _, [] => []
theorem setAllH_eff : ∀ (F : List Nat) (u : List SObj) (hp : List (Nat × Ent)), setAllH hp F u = asetL hp (effU F u)
  | [], [], _ => rfl
  | [], _ :: _, _ => rfl
  | _ :: _, [], _ => rfl
  | i :: F, o :: u, hp => by rw [setAllH, effU, asetL, setAllH_eff F u]
theorem newAll_eff (fresh : Nat → Nat) : ∀ (n : List SObj) (m : Nat) (hp : List (Nat × Ent)), newAll fresh hp m n = asetL hp (effN fresh m n)
  | [], _, _ => rfl
  | o :: n, m, hp => by rw [newAll, effN, asetL, newAll_eff fresh n]
theorem effU_mem : ∀ {F : List Nat} {u : List SObj} {p : Nat × Ent}, p ∈ effU F u → p.1 ∈ F ∧ u ≠ []
  | [], [], _, h => by simp [effU] at h
  | [], _ :: _, _, h => by simp [effU] at h
  | _ :: _, [], _, h => by simp [effU] at h
  | i :: F, o :: u, p, h => by
    rcases List.mem_cons.1 h with rfl | h
    · simp
    · exact ⟨List.mem_cons_of_mem _ (effU_mem h).1, by simp⟩
theorem effN_mem {fresh : Nat → Nat} : ∀ {n : List SObj} {m : Nat} {p : Nat × Ent}, p ∈ effN fresh m n → ∃ k, m ≤ k ∧ k < m + n.length ∧ p.1 = fresh k
  | [], m, _, h => by simp [effN] at h
  | o :: n, m, p, h => by
    rcases List.mem_cons.1 h with rfl | h
    · exact ⟨m, Nat.le_refl _, by simp, rfl⟩
    · obtain ⟨k, h1, h2, h3⟩ := effN_mem h
      exact ⟨k, by omega, by simp only [List.length_cons]; omega, h3⟩
theorem evalS_congr {gl : List Nat} {fr fr' : List (Nat × SV)} {x : Operand} (h : ∀ t, x = .tmp t → aget fr t = aget fr' t) : evalS gl fr x = evalS gl fr' x := by
  cases x with
  | tmp t => simp only [evalS, h t rfl]
  | _ => rfl
theorem map_congr_sv {sv sv' : Operand → SV} {l : Option Operand} (h : ∀ x, l = some x → sv x = sv' x) : l.map sv = l.map sv' := by
  cases l with
  | none => rfl
  | some x => simp [h x rfl]
theorem act_congr {T : Nat → Option TyI} {Ga : Nat → Option Con} {sv sv' : Operand → SV} (op : Op) (h : ∀ x ∈ op.operands, sv x = sv' x) : act T Ga sv op = act T Ga sv' op := by
  have two_mem : ∀ {l : List Operand} {x y : Operand}, two l = some (x, y) → x ∈ l ∧ y ∈ l := fun {l x y} h => by
    unfold two at h
    split at h
    · injection h with h; injection h with h1 h2; subst h1; subst h2; simp
    · cases h
  have one_mem : ∀ {l : List Operand} {x : Operand}, one1 l = some x → x ∈ l := fun {l x} h => by
    unfold one1 at h
    split at h
    · injection h with h; subst h; simp
    · cases h
  cases op <;> simp only [act]
  case move x => rw [h x (by simp [Op.operands])]
  case assign x => rw [h x (by simp [Op.operands])]
  case pick c a b => simp only [actPick, h c (by simp [Op.operands]), h a (by simp [Op.operands]), h b (by simp [Op.operands])]
  case binOp p t x y yt => simp only [actBin2, actBin, h x (by simp [Op.operands]), h y (by simp [Op.operands])]
  case unOp p t x => simp only [actUn, h x (by simp [Op.operands])]
  case convert s d x => simp only [actConv, h x (by simp [Op.operands])]
  case extract x i => simp only [actExtract, h x (by simp [Op.operands])]
  case index t x y => simp only [actIndex, h x (by simp [Op.operands]), h y (by simp [Op.operands])]
  case field t x f => simp only [actField, h x (by simp [Op.operands])]
  case slice t x lo hi mx =>
    have h1 : lo.map sv = lo.map sv' := map_congr_sv fun y hy => h y (by subst hy; simp [Op.operands])
    have h2 : hi.map sv = hi.map sv' := map_congr_sv fun y hy => h y (by subst hy; simp [Op.operands])
    simp only [actSlice, h x (by simp [Op.operands]), h1, h2]
  case indexAddr t x y => simp only [actIndexAddr, h x (by simp [Op.operands]), h y (by simp [Op.operands])]
  case fieldAddr t x f => simp only [actFieldAddr, h x (by simp [Op.operands])]
  case load t x => simp only [actLoad, h x (by simp [Op.operands])]
  case store t x y => simp only [actStore, h x (by simp [Op.operands]), h y (by simp [Op.operands])]
  case box t x => simp only [actBox, h x (by simp [Op.operands])]
  case makeSlice t x y => simp only [actMake, h x (by simp [Op.operands]), h y (by simp [Op.operands])]
  case build t ps =>
    have : partsOf sv ps.toList = partsOf sv' ps.toList := List.map_congr_left fun p hp => by rw [h p.2 (by simp only [Op.operands, List.mem_toArray, List.mem_map]; exact ⟨p, hp, rfl⟩)]
    simp only [actBuild, this]
  case buildSlice t n ps =>
    have : partsOf sv ps.toList = partsOf sv' ps.toList := List.map_congr_left fun p hp => by rw [h p.2 (by simp only [Op.operands, List.mem_toArray, List.mem_map]; exact ⟨p, hp, rfl⟩)]
    simp only [actBuildSlice, this]
  case nilCheck x => simp only [actNil, h x (by simp [Op.operands])]
  case call c =>
    obtain ⟨callee, args, ats⟩ := c
    have hargs : ∀ x ∈ args.toList, sv x = sv' x := fun x hx => h x (by simp only [Op.operands, Call.operands, Array.mem_append]; exact .inr (Array.mem_toList_iff.1 hx))
    cases callee with
    | value f =>
      cases f with
      | func f =>
        have : args.toList.map sv = args.toList.map sv' := List.map_congr_left hargs
        simp only [actCall, this]
      | _ => rfl
    | invoke _ _ => rfl
    | builtin b =>
      simp only [actBuiltin]
      cases b <;> try rfl
      case append =>
        simp only
        cases hq : two args.toList with
        | none => rfl
        | some q =>
          obtain ⟨x, y⟩ := q
          obtain ⟨h1, h2⟩ := two_mem hq
          simp only [actAppend, hargs x h1, hargs y h2]
      case copy =>
        simp only
        cases hq : two args.toList with
        | none => rfl
        | some q =>
          obtain ⟨x, y⟩ := q
          obtain ⟨h1, h2⟩ := two_mem hq
          simp only [actCopy, hargs x h1, hargs y h2]
      case len =>
        simp only
        cases hq : one1 args.toList with
        | none => rfl
        | some x => simp only [actLen, hargs x (one_mem hq)]
      case max =>
        simp only
        cases hq : two args.toList with
        | none => rfl
        | some q =>
          obtain ⟨x, y⟩ := q
          obtain ⟨h1, h2⟩ := two_mem hq
          simp only [actMM, hargs x h1, hargs y h2]
      case min =>
        simp only
        cases hq : two args.toList with
        | none => rfl
        | some q =>
          obtain ⟨x, y⟩ := q
          obtain ⟨h1, h2⟩ := two_mem hq
          simp only [actMM, hargs x h1, hargs y h2]
theorem getAll_congr {hp hp' : List (Nat × Ent)} : ∀ {F : List Nat}, (∀ id ∈ F, aget hp id = aget hp' id) → getAll hp F = getAll hp' F
  | [], _ => rfl
  | i :: F, h => by
    simp only [getAll]
    rw [h i (by simp), getAll_congr fun id hid => h id (by simp [hid])]
/-- What an operation's outcome rests on, in the parts. -/
theorem stepO_parts {E : Env} {wa : List (Nat × Bool)} {ops : Array Oper} {c i : Nat} {o : Oper} {st : St} {q : Out} (h : stepO E wa ops c i o st = some q) :
    ∃ (v : SV) (U : List SObj) (N : List SObj), q.st.fr = putS st.fr o.dst v ∧ q.st.hp = asetL st.hp (effU q.foot U ++ effN (fun m => c + 8 * i + m) 0 N) ∧ (q.wr = true ∨ U = []) ∧ N.length ≤ 8 ∧ (∀ m, m < N.length → aget st.hp (c + 8 * i + m) = none) ∧
    ∀ st' : St, wantS wa ops o.guard i st'.fr = wantS wa ops o.guard i st.fr → (∀ x ∈ o.op.operands, evalS E.gl st'.fr x = evalS E.gl st.fr x) → (∀ id ∈ q.foot, aget st'.hp id = aget st.hp id) → (∀ m, m < N.length → aget st'.hp (c + 8 * i + m) = none) →
      stepO E wa ops c i o st' = some ⟨⟨putS st'.fr o.dst v, asetL st'.hp (effU q.foot U ++ effN (fun m => c + 8 * i + m) 0 N)⟩, q.ob, q.foot, q.wr⟩ := by
  have app : ∀ (l m hp : List (Nat × Ent)), asetL (asetL hp l) m = asetL hp (l ++ m) := fun l => by
    induction l with
    | nil => intro m hp; rfl
    | cons p l ih => intro m hp; obtain ⟨k, e⟩ := p; rw [List.cons_append, asetL, asetL, ih]
  unfold stepO at h
  by_cases hd : dstOk E.nt o.dst = true
  case neg => rw [if_neg hd] at h; cases h
  rw [if_pos hd] at h
  split at h
  · cases h
  · rename_i ob hw
    injection h with h
    subst h
    refine ⟨_, [], [], rfl, rfl, .inr rfl, by simp, fun m hm => by simp at hm, fun st' h1 h2 h3 h4 => ?_⟩
    unfold stepO
    rw [if_pos hd, h1, hw]
    rfl
  · rename_i ob hw
    split at h
    · cases h
    · rename_i A hA
      split at h
      · cases h
      · rename_i es hes
        split at h
        · cases h
        · rename_i R hR
          split at h
          case isFalse => cases h
          rename_i hcond
          injection h with h
          subst h
          have hcond' := hcond
          simp only [Bool.and_eq_true, Bool.or_eq_true] at hcond
          obtain ⟨⟨hn8, hfr⟩, hwr⟩ := hcond
          refine ⟨R.v, R.upd, R.news, rfl, by rw [← app, ← setAllH_eff, ← newAll_eff], ?_, by simpa using hn8, freshAll_spec hfr, fun st' h1 h2 h3 h4 => ?_⟩
          · rcases hwr with hwr | hwr
            · exact .inl hwr
            · exact .inr (by simpa using hwr)
          · unfold stepO
            rw [if_pos hd, h1, hw]
            simp only
            rw [act_congr o.op h2, hA]
            simp only
            rw [getAll_congr h3, hes]
            simp only
            rw [hR]
            simp only
            have : (Nat.ble R.news.length 8 && freshAll st'.hp (c + 8 * i) R.news.length && (A.wr || R.upd.isEmpty)) = true := by
              simp only [Bool.and_eq_true, Bool.or_eq_true]
              exact ⟨⟨hn8, freshAll_of h4⟩, hwr⟩
            rw [if_pos this, ← app, ← setAllH_eff, ← newAll_eff]
/-- Two operations do not meet. -/
def notIn (b id : Nat) : Bool := Nat.ble (id + 1) b || Nat.ble (b + 8) id
theorem notIn_spec {b id : Nat} (h : notIn b id = true) : ∀ m, m < 8 → id ≠ b + m := fun m hm e => by
  subst e
  simp only [notIn, Bool.or_eq_true, Nat.ble_eq] at h
  omega
def disj (c i j : Nat) (F G : List Nat) (wr : Bool) : Bool :=
  (!wr || F.all fun id => !G.contains id) && (F.all fun id => notIn (c + 8 * j) id) && (G.all fun id => notIn (c + 8 * i) id)
theorem putS_comm (fr : List (Nat × SV)) {d e : Option Tmp} (x y : SV) (h : ∀ t, d = some t → e ≠ some t) : putS (putS fr d x) e y = putS (putS fr e y) d x := by
  cases d with
  | none => cases e <;> rfl
  | some d =>
    cases e with
    | none => rfl
    | some e => exact aset_comm fr x y fun heq => h d rfl (by rw [heq])
theorem putS_other {fr : List (Nat × SV)} {d : Option Tmp} {x : SV} {t : Nat} (h : d ≠ some t) : aget (putS fr d x) t = aget fr t := by
  cases d with
  | none => rfl
  | some d => exact aget_other _ _ fun e => h (by rw [e])
theorem wantS_congr {wa : List (Nat × Bool)} {ops : Array Oper} {o : Oper} {i : Nat} {fr fr' : List (Nat × SV)} (h : ∀ t ∈ o.looksAt ops, aget fr t = aget fr' t) : wantS wa ops o.guard i fr = wantS wa ops o.guard i fr' := by
  unfold wantS
  cases hg : o.guard with
  | none => rfl
  | some p =>
    obtain ⟨j, want⟩ := p
    simp only
    cases ht : (ops[j]?).bind (·.dst) with
    | none => rfl
    | some t =>
      simp only
      rw [h t (by simp only [Oper.looksAt, hg, ht]; simp)]
theorem commute {E : Env} {wa : List (Nat × Bool)} {ops : Array Oper} {c i j : Nat} {oi oj : Oper} {st : St} {qj qi : Out} (hij : i ≠ j) (hj : stepO E wa ops c j oj st = some qj) (hi : stepO E wa ops c i oi qj.st = some qi) (hap : oj.apart ops oi = true)
    (hdis : disj c j i qj.foot qi.foot (qj.wr || qi.wr) = true) : ∃ qi' qj', stepO E wa ops c i oi st = some qi' ∧ stepO E wa ops c j oj qi'.st = some qj' ∧ qj'.st = qi.st ∧ qi'.ob = qi.ob ∧ qj'.ob = qj.ob ∧ qi'.foot = qi.foot ∧ qj'.foot = qj.foot ∧ qi'.wr = qi.wr ∧ qj'.wr = qj.wr := by
  obtain ⟨a1, a2, a3⟩ := Oper.apart_spec hap
  obtain ⟨vj, Uj, Nj, fj, hj', wj, nj, frj, tj⟩ := stepO_parts hj
  obtain ⟨vi, Ui, Ni, fi, hi', wi, ni, fri, ti⟩ := stepO_parts hi
  simp only [disj, Bool.and_eq_true, Bool.or_eq_true, List.all_eq_true, Bool.not_eq_true'] at hdis
  obtain ⟨⟨d1, d2⟩, d3⟩ := hdis
  have dF : ∀ id ∈ qj.foot, ∀ m, m < 8 → id ≠ c + 8 * i + m := fun id hid => notIn_spec (d2 id hid)
  have dG : ∀ id ∈ qi.foot, ∀ m, m < 8 → id ≠ c + 8 * j + m := fun id hid => notIn_spec (d3 id hid)
  have dFG : (qj.wr = true ∨ qi.wr = true) → ∀ id ∈ qj.foot, id ∉ qi.foot := fun hw id hid => by
    rcases d1 with h | h
    · rcases hw with hw | hw <;> simp [hw] at h
    · simpa using h id hid
  -- the entries that each lays
  have kj : ∀ p ∈ effU qj.foot Uj ++ effN (fun m => c + 8 * j + m) 0 Nj, (p.1 ∈ qj.foot ∧ qj.wr = true) ∨ ∃ m, m < 8 ∧ p.1 = c + 8 * j + m := fun p hp => by
    rcases List.mem_append.1 hp with h | h
    · obtain ⟨h1, h2⟩ := effU_mem h
      exact .inl ⟨h1, wj.resolve_right h2⟩
    · obtain ⟨k, _, h2, h3⟩ := effN_mem h
      exact .inr ⟨k, by omega, h3⟩
  have ki : ∀ p ∈ effU qi.foot Ui ++ effN (fun m => c + 8 * i + m) 0 Ni, (p.1 ∈ qi.foot ∧ qi.wr = true) ∨ ∃ m, m < 8 ∧ p.1 = c + 8 * i + m := fun p hp => by
    rcases List.mem_append.1 hp with h | h
    · obtain ⟨h1, h2⟩ := effU_mem h
      exact .inl ⟨h1, wi.resolve_right h2⟩
    · obtain ⟨k, _, h2, h3⟩ := effN_mem h
      exact .inr ⟨k, by omega, h3⟩
  have kk : ∀ p ∈ effU qj.foot Uj ++ effN (fun m => c + 8 * j + m) 0 Nj, ∀ q ∈ effU qi.foot Ui ++ effN (fun m => c + 8 * i + m) 0 Ni, p.1 ≠ q.1 := fun p hp q hq e => by
    rcases kj p hp with ⟨h1, h2⟩ | ⟨m, hm, h1⟩ <;> rcases ki q hq with ⟨h3, h4⟩ | ⟨n, hn, h3⟩
    · exact dFG (.inl h2) _ h1 (e ▸ h3)
    · exact dF _ h1 n hn (e.trans h3)
    · exact dG _ h3 m hm (e.symm.trans h1)
    · omega
  -- i ahead of j
  have e1 : wantS wa ops oi.guard i st.fr = wantS wa ops oi.guard i qj.st.fr := by
    rw [fj]
    exact wantS_congr fun t ht => (putS_other fun h => a1 t h ht).symm
  have e2 : ∀ x ∈ oi.op.operands, evalS E.gl st.fr x = evalS E.gl qj.st.fr x := fun x hx => by
    rw [fj]
    refine evalS_congr fun t ht => (putS_other fun h => a1 t h ?_).symm
    subst ht
    simp only [Oper.looksAt, List.mem_append, List.mem_filterMap]
    exact .inl ⟨.tmp t, Array.mem_toList_iff.2 hx, rfl⟩
  have e3 : ∀ id ∈ qi.foot, aget st.hp id = aget qj.st.hp id := fun id hid => by
    rw [hj']
    refine (asetL_other _ _ _ fun p hp e => ?_).symm
    rcases kj p hp with ⟨h1, h2⟩ | ⟨m, hm, h1⟩
    · exact dFG (.inl h2) _ h1 (e ▸ hid)
    · exact dG id hid m hm (e ▸ h1)
  have e4 : ∀ m, m < Ni.length → aget st.hp (c + 8 * i + m) = none := fun m hm => by
    have := fri m hm
    rw [hj'] at this
    exact asetL_none _ _ _ this
  have hi1 := ti st e1 e2 e3 e4
  -- j behind i
  have g1 : wantS wa ops oj.guard j (putS st.fr oi.dst vi) = wantS wa ops oj.guard j st.fr := wantS_congr fun t ht => putS_other fun h => a3 t h ht
  have g2 : ∀ x ∈ oj.op.operands, evalS E.gl (putS st.fr oi.dst vi) x = evalS E.gl st.fr x := fun x hx => by
    refine evalS_congr fun t ht => putS_other fun h => a3 t h ?_
    subst ht
    simp only [Oper.looksAt, List.mem_append, List.mem_filterMap]
    exact .inl ⟨.tmp t, Array.mem_toList_iff.2 hx, rfl⟩
  have g3 : ∀ id ∈ qj.foot, aget (asetL st.hp (effU qi.foot Ui ++ effN (fun m => c + 8 * i + m) 0 Ni)) id = aget st.hp id := fun id hid => by
    refine asetL_other _ _ _ fun p hp e => ?_
    rcases ki p hp with ⟨h1, h2⟩ | ⟨m, hm, h1⟩
    · exact dFG (.inr h2) id hid (e ▸ h1)
    · exact dF id hid m hm (e ▸ h1)
  have g4 : ∀ m, m < Nj.length → aget (asetL st.hp (effU qi.foot Ui ++ effN (fun m => c + 8 * i + m) 0 Ni)) (c + 8 * j + m) = none := fun m hm => by
    rw [asetL_other _ _ _ fun p hp e => ?_]
    · exact frj m hm
    · rcases ki p hp with ⟨h1, h2⟩ | ⟨n, hn, h1⟩
      · exact dG _ h1 m (by omega) e
      · omega
  have hj1 := tj ⟨putS st.fr oi.dst vi, asetL st.hp (effU qi.foot Ui ++ effN (fun m => c + 8 * i + m) 0 Ni)⟩ g1 g2 g3 g4
  refine ⟨_, _, hi1, hj1, ?_, rfl, rfl, rfl, rfl, rfl, rfl⟩
  have s1 : qi.st = ⟨putS qj.st.fr oi.dst vi, asetL qj.st.hp (effU qi.foot Ui ++ effN (fun m => c + 8 * i + m) 0 Ni)⟩ := by
    cases hq : qi.st with
    | mk f h => rw [hq] at fi hi'; simp only at fi hi'; rw [fi, hi']
  rw [s1, fj, hj']
  simp only [St.mk.injEq]
  exact ⟨(putS_comm st.fr vj vi fun t ht h => a2 t ht h).symm, (asetL_comm _ _ _ kk).symm⟩
end Go.Proofs.YtahiopdkekkibaaGreatDoor

/-
  A walk by reckoning, part 18: a region, in whatever order it runs. It speaks of no program.
-/
namespace Go.Proofs.YtahiopdkekkibaaGreatDoor
open Go Go.RowKit
set_option linter.unusedVariables false
set_option linter.unusedSimpArgs false

structure Log where
  i : Nat
  foot : List Nat
  wr : Bool
def runO (E : Env) (wa : List (Nat × Bool)) (ops : Array Oper) (c : Nat) : List Nat → St → Option (St × List Prop × List Log)
  | [], st => some (st, [], [])
  | i :: l, st => match ops[i]? with
    | none => none
    | some o => match stepO E wa ops c i o st with
      | none => none
      | some q => match runO E wa ops c l q.st with
        | none => none
        | some (st', ob, lg) => some (st', q.ob ++ ob, ⟨i, q.foot, q.wr⟩ :: lg)
def edgesOf (ops : Array Oper) (i : Nat) : List Nat := match ops[i]? with
  | some o => (o.after.toList.filter fun e => Region.binds .any e).map (·.on)
  | none => []
/-- Is j ahead of i, by the edges? -/
def reach (ops : Array Oper) : Nat → Nat → Nat → Bool
  | 0, _, _ => false
  | n + 1, j, i => (edgesOf ops i).any fun k => Nat.beq k j || (Nat.blt j k && reach ops n j k)
def pairOk (ops : Array Oper) (c : Nat) (a b : Log) : Bool :=
  match ops[a.i]?, ops[b.i]? with
  | some oa, some ob => (Oper.apart ops oa ob && disj c a.i b.i a.foot b.foot (a.wr || b.wr)) || reach ops 12 a.i b.i
  | _, _ => false
def pairsOk (ops : Array Oper) (c : Nat) : List Log → Bool
  | [] => true
  | a :: l => l.all (pairOk ops c a) && pairsOk ops c l
def edgesDown (ops : Array Oper) : Bool := (List.range ops.size).all fun i => (edgesOf ops i).all fun k => Nat.blt k i
section
variable {P : Program} {E : Env} {C : Ctx} {wa : List (Nat × Bool)} {ops : Array Oper} {c : Nat}
theorem runO_cons {i : Nat} {l : List Nat} {st st' : St} {ob : List Prop} {lg : List Log} (h : runO E wa ops c (i :: l) st = some (st', ob, lg)) : ∃ o q ob' lg', ops[i]? = some o ∧ stepO E wa ops c i o st = some q ∧ runO E wa ops c l q.st = some (st', ob', lg') ∧ ob = q.ob ++ ob' ∧ lg = ⟨i, q.foot, q.wr⟩ :: lg' := by
  simp only [runO] at h
  cases ho : ops[i]? with
  | none => rw [ho] at h; cases h
  | some o =>
    rw [ho] at h
    simp only at h
    cases hq : stepO E wa ops c i o st with
    | none => rw [hq] at h; cases h
    | some q =>
      rw [hq] at h
      simp only at h
      cases hr : runO E wa ops c l q.st with
      | none => rw [hr] at h; cases h
      | some p =>
        obtain ⟨s, ob', lg'⟩ := p
        simp only [hr, Option.some.injEq, Prod.mk.injEq] at h
        obtain ⟨rfl, rfl, rfl⟩ := h
        exact ⟨o, q, ob', lg', rfl, hq, hr, rfl, rfl⟩
theorem runO_mk {i : Nat} {l : List Nat} {st st' : St} {ob : List Prop} {lg : List Log} {o : Oper} {q : Out} (ho : ops[i]? = some o) (hq : stepO E wa ops c i o st = some q) (hr : runO E wa ops c l q.st = some (st', ob, lg)) :
    runO E wa ops c (i :: l) st = some (st', q.ob ++ ob, ⟨i, q.foot, q.wr⟩ :: lg) := by
  simp only [runO, ho, hq, hr]
/-- What stands later, and waits for none of the others, may come first. -/
theorem bubble : ∀ (l1 : List Nat) (i : Nat) (l2 : List Nat) (st st' : St) (ob : List Prop) (lg : List Log), runO E wa ops c (l1 ++ i :: l2) st = some (st', ob, lg) → pairsOk ops c lg = true → (∀ j ∈ l1, j ≠ i ∧ reach ops 12 j i = false) →
    ∃ o q ob' lgA lgB, ops[i]? = some o ∧ stepO E wa ops c i o st = some q ∧ runO E wa ops c (l1 ++ l2) q.st = some (st', ob', lgA ++ lgB) ∧ lg = lgA ++ ⟨i, q.foot, q.wr⟩ :: lgB ∧ (AllT ob → AllT q.ob ∧ AllT ob')
  | [], i, l2, st, st', ob, lg, h, _, _ => by
    obtain ⟨o, q, ob', lg', ho, hq, hr, rfl, rfl⟩ := runO_cons h
    exact ⟨o, q, ob', [], lg', ho, hq, hr, rfl, fun h => AllT.append.1 h⟩
  | j :: l1, i, l2, st, st', ob, lg, h, hp, hn => by
    rw [List.cons_append] at h
    obtain ⟨oj, qj, ob1, lg1, hoj, hqj, hrj, rfl, rfl⟩ := runO_cons h
    simp only [pairsOk, Bool.and_eq_true] at hp
    obtain ⟨hp1, hp2⟩ := hp
    obtain ⟨oi, qi, ob2, lgA, lgB, hoi, hqi, hri, rfl, hob⟩ := bubble l1 i l2 qj.st st' ob1 lg1 hrj hp2 fun k hk => hn k (by simp [hk])
    obtain ⟨hne, hnr⟩ := hn j (by simp)
    have hpair := List.all_eq_true.1 hp1 ⟨i, qi.foot, qi.wr⟩ (by simp)
    simp only [pairOk, hoj, hoi, hnr, Bool.or_false, Bool.and_eq_true] at hpair
    obtain ⟨qi', qj', h1, h2, h3, h4, h5, h6, h7, h8, h9⟩ := commute (Ne.symm hne) hqj hqi hpair.1 hpair.2
    refine ⟨oi, qi', qj'.ob ++ ob2, ⟨j, qj'.foot, qj'.wr⟩ :: lgA, lgB, hoi, h1, ?_, ?_, fun h => ?_⟩
    · exact runO_mk hoj h2 (by rw [h3]; exact hri)
    · rw [h6, h7, h8, h9]; rfl
    · obtain ⟨a1, a2⟩ := AllT.append.1 h
      obtain ⟨a3, a4⟩ := hob a2
      exact ⟨by rw [h4]; exact a3, AllT.append.2 ⟨by rw [h5]; exact a1, a4⟩⟩
theorem pairsOk_drop : ∀ (lgA lgB : List Log) (x : Log), pairsOk ops c (lgA ++ x :: lgB) = true → pairsOk ops c (lgA ++ lgB) = true
  | [], lgB, x, h => by
    simp only [List.nil_append, pairsOk, Bool.and_eq_true] at h ⊢
    exact h.2
  | a :: lgA, lgB, x, h => by
    simp only [List.cons_append, pairsOk, Bool.and_eq_true] at h ⊢
    refine ⟨List.all_eq_true.2 fun y hy => List.all_eq_true.1 h.1 y ?_, pairsOk_drop lgA lgB x h.2⟩
    rcases List.mem_append.1 hy with hy | hy
    · exact List.mem_append_left _ hy
    · exact List.mem_append_right _ (List.mem_cons_of_mem _ hy)
theorem edgesOf_mem {i : Nat} {o : Oper} (ho : ops[i]? = some o) {e : Edge} (he : e ∈ o.after) (hb : Region.binds .any e = true) : e.on ∈ edgesOf ops i := by
  simp only [edgesOf, ho, List.mem_map, List.mem_filter]
  exact ⟨e, ⟨Array.mem_toList_iff.2 he, hb⟩, rfl⟩
theorem edgesOf_spec {i k : Nat} (h : k ∈ edgesOf ops i) : ∃ o e, ops[i]? = some o ∧ e ∈ o.after ∧ Region.binds .any e = true ∧ e.on = k := by
  unfold edgesOf at h
  cases ho : ops[i]? with
  | none => rw [ho] at h; cases h
  | some o =>
    rw [ho] at h
    simp only [List.mem_map, List.mem_filter] at h
    obtain ⟨e, ⟨h1, h2⟩, h3⟩ := h
    exact ⟨o, e, rfl, Array.mem_toList_iff.1 h1, h2, h3⟩
/-- What is listed has all that it waits for listed. -/
def Closed (ops : Array Oper) (listed : Array Bool) : Prop := ∀ i, listed.getD i false = true → ∀ k ∈ edgesOf ops i, listed.getD k false = true
theorem reach_listed {listed : Array Bool} (hc : Closed ops listed) : ∀ (n j i : Nat), reach ops n j i = true → (∀ k ∈ edgesOf ops i, listed.getD k false = true) → listed.getD j false = true
  | 0, _, _, h, _ => by simp [reach] at h
  | n + 1, j, i, h, hl => by
    simp only [reach, List.any_eq_true, Bool.or_eq_true, Bool.and_eq_true] at h
    obtain ⟨k, hk, h | ⟨_, h⟩⟩ := h
    · have : k = j := by simpa using h
      subst this; exact hl k hk
    · exact reach_listed hc n j k h (hc k (hl k hk))
theorem mem_ready' {listed : Array Bool} {i : Nat} (h : i ∈ Region.ready .any ops listed) : i < ops.size ∧ listed.getD i true = false ∧ ∀ k ∈ edgesOf ops i, listed.getD k false = true := by
  simp only [Region.ready, List.mem_filter, List.mem_range, Bool.and_eq_true, Bool.not_eq_true'] at h
  obtain ⟨h1, h2, h3⟩ := h
  refine ⟨h1, h2, fun k hk => ?_⟩
  obtain ⟨o, e, ho, he, hb, rfl⟩ := edgesOf_spec hk
  rw [ho] at h3
  simp only [Option.map_some, Option.getD_some, Array.all_eq_true_iff_forall_mem, Bool.or_eq_true, Bool.not_eq_true'] at h3
  rcases h3 e he with h | h
  · rw [hb] at h; cases h
  · exact h
theorem ready_of {listed : Array Bool} {i : Nat} (h1 : i < ops.size) (h2 : listed.getD i true = false) (h3 : ∀ k ∈ edgesOf ops i, listed.getD k false = true) : i ∈ Region.ready .any ops listed := by
  simp only [Region.ready, List.mem_filter, List.mem_range, Bool.and_eq_true, Bool.not_eq_true']
  refine ⟨h1, h2, ?_⟩
  have ho : ops[i]? = some ops[i] := Array.getElem?_eq_getElem h1
  rw [ho]
  simp only [Option.map_some, Option.getD_some, Array.all_eq_true_iff_forall_mem, Bool.or_eq_true, Bool.not_eq_true']
  intro e he
  cases hb : Region.binds .any e with
  | false => exact .inl rfl
  | true => exact .inr (h3 _ (edgesOf_mem ho he hb))
def left (ops : Array Oper) (listed : Array Bool) : List Nat := (List.range ops.size).filter fun i => !listed.getD i true
theorem left_set {listed : Array Bool} (hs : listed.size = ops.size) {i : Nat} {l1 l2 : List Nat} (h : left ops listed = l1 ++ i :: l2) : left ops (listed.setIfInBounds i true) = l1 ++ l2 := by
  have hnd : (left ops listed).Nodup := List.nodup_range.filter _
  have e : left ops (listed.setIfInBounds i true) = (left ops listed).filter fun k => decide (k ≠ i) := by
    unfold left
    rw [List.filter_filter]
    apply List.filter_congr
    intro k hk
    have hk' : k < listed.size := by rw [hs]; simpa using hk
    by_cases e : i = k
    · subst e; simp [hk']
    · have : k ≠ i := Ne.symm e
      simp [this, Array.getElem?_setIfInBounds_ne e, Array.getD_eq_getD_getElem?]
  rw [e, h]
  rw [h] at hnd
  have h1 := List.nodup_append.1 hnd
  obtain ⟨_, h2, h3⟩ := h1
  have h4 := (List.nodup_cons.1 h2).1
  rw [List.filter_append, List.filter_cons]
  simp only [ne_eq, not_true_eq_false, decide_false, Bool.false_eq_true, if_false]
  rw [List.filter_eq_self.2 (fun k hk => by simp; exact h3 k hk i (by simp)), List.filter_eq_self.2 (fun k hk => by simp; exact fun e => h4 (e ▸ hk))]
theorem drawn (hE : EnvOk P E) (hdown : edgesDown ops = true) {Q : Exit → Act → World → Prop} {st' : St} (hQ : ∀ r a w, RepE P E C r st' a w → Q .normal a w) : ∀ (n : Nat) (listed : Array Bool) (st : St) (a : Act) (w : World) (r : Lc) (ob : List Prop) (lg : List Log),
    (left ops listed).length = n → listed.size = ops.size → Closed ops listed → runO E wa ops c (left ops listed) st = some (st', ob, lg) → pairsOk ops c lg = true → AllT ob → RepE P E C r st a w → wpAny P .any ops Q n listed a w
  | 0, listed, st, a, w, r, ob, lg, hl, hs, hc, hr, hp, hob, hrep => by
    have h0 : left ops listed = [] := List.eq_nil_of_length_eq_zero hl
    rw [h0] at hr
    simp only [runO, Option.some.injEq, Prod.mk.injEq] at hr
    obtain ⟨rfl, _, _⟩ := hr
    refine ⟨?_, hQ r a w hrep⟩
    rw [List.eq_nil_iff_forall_not_mem]
    intro i hi
    obtain ⟨h1, h2, _⟩ := mem_ready' hi
    have : i ∈ left ops listed := by simp only [left, List.mem_filter, List.mem_range]; exact ⟨h1, by rw [h2]; rfl⟩
    rw [h0] at this
    cases this
  | n + 1, listed, st, a, w, r, ob, lg, hl, hs, hc, hr, hp, hob, hrep => by
    have getD_eq : ∀ k, k < ops.size → listed.getD k true = listed.getD k false := fun k hk => by
      have : k < listed.size := by omega
      simp [this]
    refine ⟨fun hnil => ?_, fun i hi => ?_⟩
    · -- something is ready
      exfalso
      cases hq : left ops listed with
      | nil => rw [hq] at hl; simp at hl
      | cons i l =>
        have hmem : i ∈ left ops listed := by rw [hq]; simp
        have hmem' := hmem
        simp only [left, List.mem_filter, List.mem_range, Bool.not_eq_true'] at hmem'
        have hsorted : (left ops listed).Pairwise (· < ·) := List.pairwise_lt_range.filter _
        rw [hq] at hsorted
        have hfirst := (List.pairwise_cons.1 hsorted).1
        have hready : i ∈ Region.ready .any ops listed := ready_of hmem'.1 hmem'.2 fun k hk => by
          have hki : k < i := by
            have := List.all_eq_true.1 (List.all_eq_true.1 hdown i (by simpa using hmem'.1)) k hk
            simpa using this
          rw [← getD_eq k (by omega)]
          cases hkl : listed.getD k true with
          | true => rfl
          | false =>
            have hkm : k ∈ left ops listed := by simp only [left, List.mem_filter, List.mem_range]; exact ⟨by omega, by rw [hkl]; rfl⟩
            rw [hq] at hkm
            rcases List.mem_cons.1 hkm with e | hkm
            · omega
            · have := hfirst k hkm; omega
        rw [hnil] at hready
        cases hready
    · obtain ⟨h1, h2, h3⟩ := mem_ready' hi
      have hmem : i ∈ left ops listed := by simp only [left, List.mem_filter, List.mem_range]; exact ⟨h1, by rw [h2]; rfl⟩
      obtain ⟨l1, l2, hsplit⟩ := List.append_of_mem hmem
      rw [hsplit] at hr
      have hnd : (left ops listed).Nodup := List.nodup_range.filter _
      obtain ⟨o, q, ob', lgA, lgB, ho, hq, hr', rfl, hob'⟩ := bubble l1 i l2 st st' ob lg hr hp fun j hj => by
        refine ⟨fun e => ?_, ?_⟩
        · subst e
          rw [hsplit] at hnd
          exact (List.nodup_append.1 hnd).2.2 j hj j (by simp) rfl
        · cases hre : reach ops 12 j i with
          | false => rfl
          | true =>
            have h4 := reach_listed hc 12 j i hre h3
            have hjm : j ∈ left ops listed := by rw [hsplit]; simp [hj]
            simp only [left, List.mem_filter, List.mem_range, Bool.not_eq_true'] at hjm
            rw [getD_eq j hjm.1, h4] at hjm
            cases hjm.2
      obtain ⟨ob1, ob2⟩ := hob' hob
      have hleft := left_set hs hsplit
      unfold wpOp
      simp only [ho]
      refine stepO_ok hE hrep hq ob1 fun r' a' w' hle hrep' => ?_
      refine drawn hE hdown hQ n _ q.st a' w' r' ob' (lgA ++ lgB) ?_ (by simpa using hs) ?_ (by rw [hleft]; exact hr') (pairsOk_drop lgA lgB _ hp) ob2 hrep'
      · rw [hleft]
        rw [hsplit] at hl
        simp only [List.length_append, List.length_cons] at hl ⊢
        omega
      · intro k hk m hm
        have hget : ∀ x, (listed.setIfInBounds i true).getD x false = if i = x ∧ x < listed.size then true else listed.getD x false := fun x => by
          by_cases e : i = x
          · subst e
            by_cases hlt : i < listed.size <;> simp [hlt]
          · simp [e, Array.getElem?_setIfInBounds_ne e, Array.getD_eq_getD_getElem?]
        rw [hget] at hk ⊢
        by_cases e : i = k ∧ k < listed.size
        · obtain ⟨rfl, _⟩ := e
          split
          · rfl
          · exact h3 m hm
        · rw [if_neg e] at hk
          split
          · rfl
          · exact hc k hk m hm
theorem left_none : left ops (Array.replicate ops.size false) = List.range ops.size := by
  unfold left
  rw [List.filter_eq_self]
  intro i hi
  have : i < ops.size := by simpa using hi
  simp [this]
theorem wp_draw (hE : EnvOk P E) {Q : Exit → Act → World → Prop} {st st' : St} {a : Act} {w : World} {r : Lc} {ob : List Prop} {lg : List Log} {id : Nat} (hr : runO E wa ops c (List.range ops.size) st = some (st', ob, lg)) (hck : (edgesDown ops && pairsOk ops c lg) = true) (hob : AllT ob) (hrep : RepE P E C r st a w)
    (hQ : ∀ r a w, RepE P E C r st' a w → Q .normal a w) : (Code.region id ops true).wp P Q a w := by
  simp only [Bool.and_eq_true] at hck
  refine wp_region_any hE.mix ?_
  refine drawn (C := C) (wa := wa) (c := c) hE hck.1 hQ ops.size (Array.replicate ops.size false) st a _ r ob lg ?_ (by simp) ?_ (by rw [left_none]; exact hr) hck.2 hob ?_
  · rw [left_none]; simp
  · intro i hi
    have : (Array.replicate ops.size false).getD i false = false := by
      rw [Array.getD_eq_getD_getElem?, Array.getElem?_replicate]
      split <;> rfl
    rw [this] at hi
    cases hi
  · exact ⟨hrep.nt, hrep.defers, hrep.fr, hrep.hp.move rfl rfl rfl (Nat.le_refl _) (fun _ _ => rfl), hrep.gl, hrep.keep, hrep.keys, hrep.sub⟩
theorem ops_run (hE : EnvOk P E) {Q : Exit → Act → World → Prop} {st' : St} (hQ : ∀ r a w, RepE P E C r st' a w → Q .normal a w) : ∀ (l : List Nat) (st : St) (a : Act) (w : World) (r : Lc) (ob : List Prop) (lg : List Log), runO E wa ops c l st = some (st', ob, lg) → AllT ob → RepE P E C r st a w → wpOps P ops Q l a w
  | [], st, a, w, r, ob, lg, h, _, hrep => by
    simp only [runO, Option.some.injEq, Prod.mk.injEq] at h
    obtain ⟨rfl, _, _⟩ := h
    exact hQ r a w hrep
  | i :: l, st, a, w, r, ob, lg, h, hob, hrep => by
    obtain ⟨o, q, ob', lg', ho, hq, hr, rfl, rfl⟩ := runO_cons h
    obtain ⟨o1, o2⟩ := AllT.append.1 hob
    unfold wpOps
    simp only [ho]
    exact stepO_ok hE hrep hq o1 fun r' a' w' hle hrep' => ops_run hE hQ l q.st a' w' r' ob' lg' hr o2 hrep'
theorem wp_plain (hE : EnvOk P E) {Q : Exit → Act → World → Prop} {st st' : St} {a : Act} {w : World} {r : Lc} {ob : List Prop} {lg : List Log} {id : Nat} (hr : runO E wa ops c (List.range ops.size) st = some (st', ob, lg)) (hob : AllT ob) (hrep : RepE P E C r st a w)
    (hQ : ∀ r a w, RepE P E C r st' a w → Q .normal a w) : (Code.region id ops false).wp P Q a w :=
  wp_region (ops_run hE hQ _ st a w r ob lg hr hob hrep)
end
end Go.Proofs.YtahiopdkekkibaaGreatDoor

/-
  A walk by reckoning, part 19: code, loops, functions. It speaks of no program.
-/
namespace Go.Proofs.YtahiopdkekkibaaGreatDoor
open Go Go.RowKit
set_option linter.unusedVariables false
set_option linter.unusedSimpArgs false

/-- The walk stands here: operation i of a region. -/
def Stuck (i : Nat) (o : Op) : Prop := False
inductive Gd where
  | yes
  | no
  | ask (b want : Bool)
  | bad
def guardS (ops : Array Oper) (g : Option (Nat × Bool)) (fr : List (Nat × SV)) : Gd :=
  match g with
  | none => .yes
  | some (j, want) => match ops[j]? with
    | some o => match o.dst with
      | some t => match aget fr t with
        | some (.c (.one (.bo x))) => .ask x want
        | some (.c (.one (.val (.tuple _)))) => .no
        | _ => .bad
      | none => .bad
    | none => .bad
/-- An operation that runs. -/
def stepT (E : Env) (c i : Nat) (o : Oper) (st : St) : Option Out :=
  if dstOk E.nt o.dst then match act E.T E.Ga (evalS E.gl st.fr) o.op with
    | none => none
    | some A => match getAll st.hp A.foot with
      | none => none
      | some es => match A.run es (fun m => c + 8 * i + m) with
        | none => none
        | some R => if Nat.ble R.news.length 8 && freshAll st.hp (c + 8 * i) R.news.length && (A.wr || R.upd.isEmpty) then
            some ⟨⟨putS st.fr o.dst R.v, newAll (fun m => c + 8 * i + m) (setAllH st.hp A.foot R.upd) 0 R.news⟩, R.obl, A.foot, A.wr⟩
          else none
  else none
def runK (E : Env) (ops : Array Oper) (c : Nat) (F : St → List Log → Prop) : List Nat → St → List Log → Prop
  | [], st, lg => F st lg
  | i :: l, st, lg => match ops[i]? with
    | none => False
    | some o => match guardS ops o.guard st.fr with
      | .bad => Stuck i o.op
      | .no => dstOk E.nt o.dst = true ∧ runK E ops c F l ⟨putS st.fr o.dst (.c (.one (.val undef))), st.hp⟩ (lg ++ [⟨i, [], false⟩])
      | .yes => match stepT E c i o st with
        | none => Stuck i o.op
        | some q => AllT q.ob ∧ runK E ops c F l q.st (lg ++ [⟨i, q.foot, q.wr⟩])
      | .ask b want => ((b == want) = true → match stepT E c i o st with
          | none => Stuck i o.op
          | some q => AllT q.ob ∧ runK E ops c F l q.st (lg ++ [⟨i, q.foot, q.wr⟩])) ∧
        ((b == want) = false → dstOk E.nt o.dst = true ∧ runK E ops c F l ⟨putS st.fr o.dst (.c (.one (.val undef))), st.hp⟩ (lg ++ [⟨i, [], false⟩]))
theorem stepO_of_T {E : Env} {wa : List (Nat × Bool)} {ops : Array Oper} {c i : Nat} {o : Oper} {st : St} {q : Out} {ob : List Prop} (h : stepT E c i o st = some q) (hw : wantS wa ops o.guard i st.fr = some (true, ob)) :
    stepO E wa ops c i o st = some ⟨q.st, q.ob ++ ob, q.foot, q.wr⟩ := by
  unfold stepT at h
  unfold stepO
  split at h
  case isFalse => cases h
  rename_i hd
  rw [if_pos hd, hw]
  simp only
  cases hA : act E.T E.Ga (evalS E.gl st.fr) o.op with
  | none => rw [hA] at h; cases h
  | some A =>
    rw [hA] at h
    simp only at h ⊢
    cases he : getAll st.hp A.foot with
    | none => rw [he] at h; cases h
    | some es =>
      rw [he] at h
      simp only at h ⊢
      cases hR : A.run es (fun m => c + 8 * i + m) with
      | none => rw [hR] at h; cases h
      | some R =>
        rw [hR] at h
        simp only at h ⊢
        split at h
        · rename_i hc
          injection h with h
          subst h
          rw [if_pos hc]
        · cases h
theorem stepO_no {E : Env} {wa : List (Nat × Bool)} {ops : Array Oper} {c i : Nat} {o : Oper} {st : St} {ob : List Prop} (hd : dstOk E.nt o.dst = true) (hw : wantS wa ops o.guard i st.fr = some (false, ob)) :
    stepO E wa ops c i o st = some ⟨⟨putS st.fr o.dst (.c (.one (.val undef))), st.hp⟩, ob, [], false⟩ := by
  unfold stepO
  rw [if_pos hd, hw]
/-- What has been reckoned is a run. -/
theorem runK_run {E : Env} {ops : Array Oper} {c : Nat} {F : St → List Log → Prop} : ∀ (l : List Nat) (st : St) (lg : List Log), l.Nodup → runK E ops c F l st lg →
    ∃ (wa : List (Nat × Bool)) (st' : St) (ob : List Prop) (lg' : List Log), (∀ p ∈ wa, p.1 ∈ l) ∧ (∀ wa', (∀ i ∈ l, aget wa' i = aget wa i) → runO E wa' ops c l st = some (st', ob, lg')) ∧ AllT ob ∧ F st' (lg ++ lg')
  | [], st, lg, _, h => ⟨[], st, [], [], by simp, fun _ _ => rfl, trivial, by simpa [runK] using h⟩
  | i :: l, st, lg, hn, h => by
    obtain ⟨hni, hnl⟩ := List.nodup_cons.1 hn
    simp only [runK] at h
    cases ho : ops[i]? with
    | none => rw [ho] at h; exact h.elim
    | some o =>
      rw [ho] at h
      simp only at h
      have absent : ∀ {wa : List (Nat × Bool)}, (∀ p ∈ wa, p.1 ∈ l) → aget wa i = none := fun {wa} hwa => by
        induction wa with
        | nil => rfl
        | cons p wa ih =>
          obtain ⟨k, y⟩ := p
          have : k ≠ i := fun e => hni (by rw [← e]; exact hwa (k, y) (by simp))
          rw [aget, if_neg this]
          exact ih fun p hp => hwa p (by simp [hp])
      -- a step that runs, under decisions that say nothing of it or that it runs
      have run_yes : ∀ (d : Option Bool), (∀ wa', aget wa' i = d → ∃ ob, wantS wa' ops o.guard i st.fr = some (true, ob) ∧ AllT ob ∧ ∀ wa'', aget wa'' i = d → wantS wa'' ops o.guard i st.fr = some (true, ob)) →
          (match stepT E c i o st with | none => Stuck i o.op | some q => AllT q.ob ∧ runK E ops c F l q.st (lg ++ [⟨i, q.foot, q.wr⟩])) →
          ∃ (wa : List (Nat × Bool)) (st' : St) (ob : List Prop) (lg' : List Log), (∀ p ∈ wa, p.1 ∈ i :: l) ∧ (∀ wa', (∀ k ∈ i :: l, aget wa' k = aget wa k) → runO E wa' ops c (i :: l) st = some (st', ob, lg')) ∧ AllT ob ∧ F st' (lg ++ lg') := fun d hd hk => by
        cases hq : stepT E c i o st with
        | none => rw [hq] at hk; exact hk.elim
        | some q =>
          rw [hq] at hk
          obtain ⟨hob, hk⟩ := hk
          obtain ⟨wa, st', ob, lg', h1, h2, h3, h4⟩ := runK_run l q.st _ hnl hk
          let wa2 : List (Nat × Bool) := match d with
            | some y => (i, y) :: wa
            | none => wa
          have hgi : aget wa2 i = d := by
            cases d with
            | none => exact absent h1
            | some y => simp [wa2, aget]
          have hgl : ∀ k ∈ l, aget wa2 k = aget wa k := fun k hk => by
            cases d with
            | none => rfl
            | some y =>
              have : i ≠ k := fun e => hni (e ▸ hk)
              simp [wa2, aget, this]
          obtain ⟨obw, hw1, hw2, hw3⟩ := hd wa2 hgi
          refine ⟨wa2, st', (q.ob ++ obw) ++ ob, ⟨i, q.foot, q.wr⟩ :: lg', ?_, fun wa' hwa' => ?_, AllT.append.2 ⟨AllT.append.2 ⟨hob, hw2⟩, h3⟩, by simpa using h4⟩
          · cases d with
            | none => exact fun p hp => List.mem_cons_of_mem _ (h1 p hp)
            | some y =>
              intro p hp
              rcases List.mem_cons.1 hp with rfl | hp
              · simp
              · exact List.mem_cons_of_mem _ (h1 p hp)
          · have hs := stepO_of_T (wa := wa') (ops := ops) hq (hw3 wa' (by rw [hwa' i (by simp), hgi]))
            exact runO_mk ho hs (h2 wa' fun k hk => by rw [hwa' k (by simp [hk]), hgl k hk])
      have run_no : ∀ (d : Option Bool), (∀ wa', aget wa' i = d → ∃ ob, wantS wa' ops o.guard i st.fr = some (false, ob) ∧ AllT ob ∧ ∀ wa'', aget wa'' i = d → wantS wa'' ops o.guard i st.fr = some (false, ob)) →
          (dstOk E.nt o.dst = true ∧ runK E ops c F l ⟨putS st.fr o.dst (.c (.one (.val undef))), st.hp⟩ (lg ++ [⟨i, [], false⟩])) →
          ∃ (wa : List (Nat × Bool)) (st' : St) (ob : List Prop) (lg' : List Log), (∀ p ∈ wa, p.1 ∈ i :: l) ∧ (∀ wa', (∀ k ∈ i :: l, aget wa' k = aget wa k) → runO E wa' ops c (i :: l) st = some (st', ob, lg')) ∧ AllT ob ∧ F st' (lg ++ lg') := fun d hd hk => by
        obtain ⟨hdst, hk⟩ := hk
        obtain ⟨wa, st', ob, lg', h1, h2, h3, h4⟩ := runK_run l _ _ hnl hk
        let wa2 : List (Nat × Bool) := match d with
          | some y => (i, y) :: wa
          | none => wa
        have hgi : aget wa2 i = d := by
          cases d with
          | none => exact absent h1
          | some y => simp [wa2, aget]
        have hgl : ∀ k ∈ l, aget wa2 k = aget wa k := fun k hk => by
          cases d with
          | none => rfl
          | some y =>
            have : i ≠ k := fun e => hni (e ▸ hk)
            simp [wa2, aget, this]
        obtain ⟨obw, hw1, hw2, hw3⟩ := hd wa2 hgi
        refine ⟨wa2, st', obw ++ ob, ⟨i, [], false⟩ :: lg', ?_, fun wa' hwa' => ?_, AllT.append.2 ⟨hw2, h3⟩, by simpa using h4⟩
        · cases d with
          | none => exact fun p hp => List.mem_cons_of_mem _ (h1 p hp)
          | some y =>
            intro p hp
            rcases List.mem_cons.1 hp with rfl | hp
            · simp
            · exact List.mem_cons_of_mem _ (h1 p hp)
        · have hs := stepO_no (E := E) (c := c) (wa := wa') (ops := ops) (st := st) hdst (hw3 wa' (by rw [hwa' i (by simp), hgi]))
          exact runO_mk ho hs (h2 wa' fun k hk => by rw [hwa' k (by simp [hk]), hgl k hk])
      unfold guardS at h
      cases hg : o.guard with
      | none =>
        rw [hg] at h
        exact run_yes none (fun wa' _ => ⟨[], by simp [wantS, hg], trivial, fun _ _ => by simp [wantS, hg]⟩) h
      | some p =>
        obtain ⟨j, want⟩ := p
        rw [hg] at h
        simp only at h
        cases hj : ops[j]? with
        | none => rw [hj] at h; exact h.elim
        | some oj =>
          rw [hj] at h
          simp only at h
          cases ht : oj.dst with
          | none => rw [ht] at h; exact h.elim
          | some t =>
            rw [ht] at h
            simp only at h
            cases hx : aget st.fr t with
            | none => rw [hx] at h; exact h.elim
            | some x =>
              rw [hx] at h
              have hbind : (ops[j]?).bind (·.dst) = some t := by rw [hj]; exact ht
              split at h
              · exact h.elim
              · -- not run: its guard did not run
                rename_i hno
                split at hno
                · cases hno
                · rename_i vs heq
                  injection heq with heq
                  subst heq
                  refine run_no none (fun wa' hwa => ⟨[], ?_, trivial, fun wa'' hwa' => ?_⟩) h
                  · simp [wantS, hg, hbind, hx]
                  · simp [wantS, hg, hbind, hx]
                · cases hno
              · rename_i hyes
                split at hyes <;> cases hyes
              · rename_i b want' hask
                split at hask
                · rename_i y heq
                  injection heq with heq
                  subst heq
                  injection hask with hb hw
                  subst hb; subst hw
                  cases hbw : (y == want) with
                  | true =>
                    exact run_yes (some true) (fun wa' hwa => ⟨[(y == want) = true], by simp [wantS, hg, hbind, hx, hwa], ⟨hbw, trivial⟩, fun wa'' hwa' => by simp [wantS, hg, hbind, hx, hwa']⟩) (h.1 hbw)
                  | false =>
                    exact run_no (some false) (fun wa' hwa => ⟨[(y == want) = false], by simp [wantS, hg, hbind, hx, hwa], ⟨hbw, trivial⟩, fun wa'' hwa' => by simp [wantS, hg, hbind, hx, hwa']⟩) (h.2 hbw)
                · cases hask
                · cases hask
/-- Two ways. What is fixed by a type is not looked at before its time. -/
structure Tw (X Y : Prop) where
  b : Bool
def Br {X Y : Prop} (t : Tw X Y) : Prop := (t.b = true → X) ∧ (t.b = false → Y)
theorem Br_true (X Y : Prop) : Br (⟨true⟩ : Tw X Y) = X := propext ⟨fun h => h.1 rfl, fun h => ⟨fun _ => h, (fun h => by cases h)⟩⟩
theorem Br_false (X Y : Prop) : Br (⟨false⟩ : Tw X Y) = Y := propext ⟨fun h => h.2 rfl, fun h => ⟨(fun h => by cases h), fun _ => h⟩⟩
structure TSome {α : Type _} (F : α → Prop) (N : Prop) where
  o : Option α
def onSome {α : Type _} {F : α → Prop} {N : Prop} (t : TSome F N) : Prop := match t.o with
  | some a => F a
  | none => N
theorem onSome_some {α : Type _} (a : α) (F : α → Prop) (N : Prop) : onSome (⟨some a⟩ : TSome F N) = F a := propext Iff.rfl
theorem onSome_none {α : Type _} (F : α → Prop) (N : Prop) : onSome (⟨none⟩ : TSome F N) = N := propext Iff.rfl
structure TGd (Y N B : Prop) (A : Bool → Bool → Prop) where
  g : Gd
def onGd {Y N B : Prop} {A : Bool → Bool → Prop} (t : TGd Y N B A) : Prop := match t.g with
  | .yes => Y
  | .no => N
  | .bad => B
  | .ask b want => A b want
theorem onGd_yes (Y N B : Prop) (A : Bool → Bool → Prop) : onGd (⟨.yes⟩ : TGd Y N B A) = Y := propext Iff.rfl
theorem onGd_no (Y N B : Prop) (A : Bool → Bool → Prop) : onGd (⟨.no⟩ : TGd Y N B A) = N := propext Iff.rfl
theorem onGd_bad (Y N B : Prop) (A : Bool → Bool → Prop) : onGd (⟨.bad⟩ : TGd Y N B A) = B := propext Iff.rfl
theorem onGd_ask (Y N B : Prop) (A : Bool → Bool → Prop) (b w : Bool) : onGd (⟨.ask b w⟩ : TGd Y N B A) = A b w := propext Iff.rfl
/-- The same, along the list of the operations. -/
structure RTag (E : Env) (ops : Array Oper) (F : Nat → St → List Log → Prop) (l : List Oper) where
  c : Nat
  i : Nat
  st : St
  lg : List Log
def runL {E : Env} {ops : Array Oper} {F : Nat → St → List Log → Prop} : {l : List Oper} → RTag E ops F l → Prop
  | [], t => F t.c t.st t.lg
  | o :: l, t => onGd (⟨guardS ops o.guard t.st.fr⟩ : TGd
      (onSome (⟨stepT E t.c t.i o t.st⟩ : TSome (fun (q : Out) => AllT q.ob ∧ runL (⟨t.c, t.i + 1, q.st, t.lg ++ [⟨t.i, q.foot, q.wr⟩]⟩ : RTag E ops F l)) (Stuck t.i o.op)))
      (dstOk E.nt o.dst = true ∧ runL (⟨t.c, t.i + 1, ⟨putS t.st.fr o.dst (.c (.one (.val undef))), t.st.hp⟩, t.lg ++ [⟨t.i, [], false⟩]⟩ : RTag E ops F l))
      (Stuck t.i o.op)
      fun b want => Br (⟨b == want⟩ : Tw
        (onSome (⟨stepT E t.c t.i o t.st⟩ : TSome (fun (q : Out) => AllT q.ob ∧ runL (⟨t.c, t.i + 1, q.st, t.lg ++ [⟨t.i, q.foot, q.wr⟩]⟩ : RTag E ops F l)) (Stuck t.i o.op)))
        (dstOk E.nt o.dst = true ∧ runL (⟨t.c, t.i + 1, ⟨putS t.st.fr o.dst (.c (.one (.val undef))), t.st.hp⟩, t.lg ++ [⟨t.i, [], false⟩]⟩ : RTag E ops F l))))
theorem runL_nil {E : Env} {ops : Array Oper} {F : Nat → St → List Log → Prop} (c i : Nat) (st : St) (lg : List Log) : runL (⟨c, i, st, lg⟩ : RTag E ops F []) = F c st lg := propext Iff.rfl
theorem runL_cons {E : Env} {ops : Array Oper} {F : Nat → St → List Log → Prop} (o : Oper) (l : List Oper) (c i : Nat) (st : St) (lg : List Log) : runL (⟨c, i, st, lg⟩ : RTag E ops F (o :: l)) =
    onGd (⟨guardS ops o.guard st.fr⟩ : TGd
      (onSome (⟨stepT E c i o st⟩ : TSome (fun (q : Out) => AllT q.ob ∧ runL (⟨c, i + 1, q.st, lg ++ [⟨i, q.foot, q.wr⟩]⟩ : RTag E ops F l)) (Stuck i o.op)))
      (dstOk E.nt o.dst = true ∧ runL (⟨c, i + 1, ⟨putS st.fr o.dst (.c (.one (.val undef))), st.hp⟩, lg ++ [⟨i, [], false⟩]⟩ : RTag E ops F l))
      (Stuck i o.op)
      fun b want => Br (⟨b == want⟩ : Tw
        (onSome (⟨stepT E c i o st⟩ : TSome (fun (q : Out) => AllT q.ob ∧ runL (⟨c, i + 1, q.st, lg ++ [⟨i, q.foot, q.wr⟩]⟩ : RTag E ops F l)) (Stuck i o.op)))
        (dstOk E.nt o.dst = true ∧ runL (⟨c, i + 1, ⟨putS st.fr o.dst (.c (.one (.val undef))), st.hp⟩, lg ++ [⟨i, [], false⟩]⟩ : RTag E ops F l)))) := propext Iff.rfl
theorem runL_K {E : Env} {ops : Array Oper} {c : Nat} {F : Nat → St → List Log → Prop} : ∀ (l : List Oper) (i : Nat) (st : St) (lg : List Log), (∀ j o, l[j]? = some o → ops[i + j]? = some o) → runL (⟨c, i, st, lg⟩ : RTag E ops F l) → runK E ops c (F c) (List.range' i l.length) st lg
  | [], _, st, lg, _, h => h
  | o :: l, i, st, lg, hl, h => by
    have ho : ops[i]? = some o := by simpa using hl 0 o (by simp)
    have hl' : ∀ j o, l[j]? = some o → ops[i + 1 + j]? = some o := fun j o' hj => by
      have := hl (j + 1) o' (by simpa using hj)
      rw [show i + 1 + j = i + (j + 1) by omega]; exact this
    simp only [List.length_cons, List.range'_succ, runK, ho]
    simp only [runL_cons, onGd, onSome, Br] at h
    cases hg : guardS ops o.guard st.fr with
    | bad => rw [hg] at h; exact h
    | no => rw [hg] at h; exact ⟨h.1, runL_K l (i + 1) _ _ hl' h.2⟩
    | yes =>
      rw [hg] at h
      simp only at h ⊢
      cases hq : stepT E c i o st with
      | none => rw [hq] at h; exact h
      | some q => rw [hq] at h; exact ⟨h.1, runL_K l (i + 1) _ _ hl' h.2⟩
    | ask b want =>
      rw [hg] at h
      simp only at h ⊢
      refine ⟨fun hb => ?_, fun hb => ⟨(h.2 hb).1, runL_K l (i + 1) _ _ hl' (h.2 hb).2⟩⟩
      have h1 := h.1 hb
      cases hq : stepT E c i o st with
      | none => rw [hq] at h1; exact h1
      | some q => rw [hq] at h1; exact ⟨h1.1, runL_K l (i + 1) _ _ hl' h1.2⟩
end Go.Proofs.YtahiopdkekkibaaGreatDoor

/-
  A walk by reckoning, part 20: what is to be shown of a function's text. It speaks of no program.
-/
namespace Go.Proofs.YtahiopdkekkibaaGreatDoor
open Go Go.RowKit
set_option linter.unusedVariables false
set_option linter.unusedSimpArgs false

/-- From this state the code comes to its end, so. -/
def wpS (P : Program) (E : Env) (x : Code) (Q : Exit → St → Prop) (st : St) : Prop :=
  ∀ (C : Ctx) (r : Lc) (a : Act) (w : World), RepE P E C r st a w → x.wp P (fun e a' w' => ∃ st' r', Q e st' ∧ RepE P E C r' st' a' w') a w
def thenS (next : St → Prop) (Q : Exit → St → Prop) : Exit → St → Prop
  | .normal, st => next st
  | e, st => Q e st
def inBlockS (id : Nat) (Q : Exit → St → Prop) : Exit → St → Prop
  | .exit id', st => if id' = id then Q .normal st else Q (.exit id') st
  | e, st => Q e st
/-- Objects made in region id have the numbers from here on. -/
def baseOf (id : Nat) (hp : List (Nat × Ent)) : Nat := if (hp.any fun p => p.1 / 10000 == id + 1) = true then 10000 * (id + 1) + 10000000 * hp.length else 10000 * (id + 1)
/-- In whatever order the region runs: looked at, not reckoned. -/
structure DTag (ops : Array Oper) where
  c : Nat
  lg : List Log
def ckDraw {ops : Array Oper} (t : DTag ops) : Prop := (edgesDown ops && pairsOk ops t.c t.lg) = true
def regionS (E : Env) (id : Nat) (ops : Array Oper) (draw : Bool) (F : St → Prop) (st : St) : Prop :=
  runL (⟨baseOf id st.hp, 0, st, []⟩ : RTag E ops (fun c st' lg => (draw = true → ckDraw (⟨c, lg⟩ : DTag ops)) ∧ F st') ops.toList)
def boolOf : SV → Option Bool
  | .c (.one (.bo b)) => some b
  | _ => none
structure VTag (P : Program) (E : Env) (x : Code) (Q : Exit → St → Prop) where
  st : St
/-- A loop from this state. -/
def wpL {P : Program} {E : Env} {x : Code} {Q : Exit → St → Prop} (t : VTag P E x Q) : Prop := wpS P E x Q t.st
/-- WHAT IS TO BE SHOWN. -/
def vc {P : Program} {E : Env} : {x : Code} → {Q : Exit → St → Prop} → VTag P E x Q → Prop
  | .skip, Q, t => Q .normal t.st
  | .region id ops draw, Q, t => regionS E id ops draw (Q .normal) t.st
  | .seq x y, Q, t => vc (⟨t.st⟩ : VTag P E x (thenS (fun st => vc (⟨st⟩ : VTag P E y Q)) Q))
  | .cond c x y, Q, t => onSome (⟨boolOf (evalS E.gl t.st.fr c)⟩ : TSome (fun b => Br (⟨b⟩ : Tw (vc (⟨t.st⟩ : VTag P E x Q)) (vc (⟨t.st⟩ : VTag P E y Q)))) False)
  | .block id x, Q, t => vc (⟨t.st⟩ : VTag P E x (inBlockS id Q))
  | .loop x, Q, t => wpL (⟨t.st⟩ : VTag P E (.loop x) Q)
  | .exit id, Q, t => Q (.exit id) t.st
  | .ret, Q, t => Q .ret t.st
  | x, Q, t => wpS P E x Q t.st
section
variable {P : Program} {E : Env} {Q : Exit → St → Prop} {st : St}
theorem vc_skip : vc (⟨st⟩ : VTag P E .skip Q) = Q .normal st := propext Iff.rfl
theorem vc_region {id : Nat} {l : List Oper} {draw : Bool} : vc (⟨st⟩ : VTag P E (.region id l.toArray draw) Q) = runL (⟨baseOf id st.hp, 0, st, []⟩ : RTag E l.toArray (fun c st' lg => (draw = true → ckDraw (⟨c, lg⟩ : DTag l.toArray)) ∧ Q .normal st') l) := propext Iff.rfl
theorem vc_seq {x y : Code} : vc (⟨st⟩ : VTag P E (.seq x y) Q) = vc (⟨st⟩ : VTag P E x (thenS (fun st => vc (⟨st⟩ : VTag P E y Q)) Q)) := propext Iff.rfl
theorem vc_cond {c : Operand} {x y : Code} : vc (⟨st⟩ : VTag P E (.cond c x y) Q) = onSome (⟨boolOf (evalS E.gl st.fr c)⟩ : TSome (fun b => Br (⟨b⟩ : Tw (vc (⟨st⟩ : VTag P E x Q)) (vc (⟨st⟩ : VTag P E y Q)))) False) := propext Iff.rfl
theorem vc_block {id : Nat} {x : Code} : vc (⟨st⟩ : VTag P E (.block id x) Q) = vc (⟨st⟩ : VTag P E x (inBlockS id Q)) := propext Iff.rfl
theorem vc_loop {x : Code} : vc (⟨st⟩ : VTag P E (.loop x) Q) = wpL (⟨st⟩ : VTag P E (.loop x) Q) := propext Iff.rfl
theorem vc_exit {id : Nat} : vc (⟨st⟩ : VTag P E (.exit id) Q) = Q (.exit id) st := propext Iff.rfl
theorem vc_ret : vc (⟨st⟩ : VTag P E .ret Q) = Q .ret st := propext Iff.rfl
theorem thenS_normal {next : St → Prop} : thenS next Q .normal st = next st := propext Iff.rfl
theorem thenS_exit {next : St → Prop} {k : Nat} : thenS next Q (.exit k) st = Q (.exit k) st := propext Iff.rfl
theorem thenS_ret {next : St → Prop} : thenS next Q .ret st = Q .ret st := propext Iff.rfl
theorem inBlockS_normal {i : Nat} : inBlockS i Q .normal st = Q .normal st := propext Iff.rfl
theorem inBlockS_exit {i k : Nat} : inBlockS i Q (.exit k) st = if k = i then Q .normal st else Q (.exit k) st := propext Iff.rfl
theorem inBlockS_ret {i : Nat} : inBlockS i Q .ret st = Q .ret st := propext Iff.rfl
end
section
variable {P : Program} {E : Env} {Q : Exit → St → Prop} {st : St}
theorem wpS_region (hE : EnvOk P E) {id : Nat} {ops : Array Oper} {draw : Bool} (h : regionS E id ops draw (Q .normal) st) : wpS P E (.region id ops draw) Q st := by
  intro C r a w hrep
  have h := runL_K ops.toList 0 st [] (fun j o hj => by simpa using hj) h
  rw [← List.range_eq_range', Array.length_toList] at h
  obtain ⟨wa, st', ob, lg, _, h2, h3, h4, h5⟩ := runK_run (List.range ops.size) st [] List.nodup_range h
  have hr := h2 wa fun _ _ => rfl
  rw [List.nil_append] at h4
  cases draw with
  | false => exact wp_plain hE hr h3 hrep fun r' a' w' hrep' => ⟨st', r', h5, hrep'⟩
  | true => exact wp_draw hE hr (h4 rfl) h3 hrep fun r' a' w' hrep' => ⟨st', r', h5, hrep'⟩
theorem vc_sound (hE : EnvOk P E) : ∀ (x : Code) (Q : Exit → St → Prop) (st : St), vc (⟨st⟩ : VTag P E x Q) → wpS P E x Q st
  | .skip, Q, st, h => fun C r a w hrep => wp_skip ⟨st, r, h, hrep⟩
  | .region _ _ _, Q, st, h => wpS_region hE h
  | .seq x y, Q, st, h => fun C r a w hrep => by
    refine wp_seq ?_
    refine wp_mono (vc_sound hE x _ st h C r a w hrep) ?_
    rintro e a' w' ⟨st', r', h1, h2⟩
    cases e <;> first
      | exact vc_sound hE y Q st' h1 C r' a' w' h2
      | exact ⟨st', r', h1, h2⟩
  | .cond c x y, Q, st, h => fun C r a w hrep => by
    simp only [vc_cond, onSome, Br] at h
    split at h
    · rename_i b hb
      have hb : evalS E.gl st.fr c = .c (.one (.bo b)) := by
        unfold boolOf at hb
        split at hb
        · rename_i heq; injection hb with hb; subst hb; exact heq
        · cases hb
      have := hrep.ev c
      rw [hb] at this
      refine wp_cond (t := b) this ?_
      cases b with
      | true => exact vc_sound hE x Q st (h.1 rfl) C r a w hrep
      | false => exact vc_sound hE y Q st (h.2 rfl) C r a w hrep
    · exact h.elim
  | .block id x, Q, st, h => fun C r a w hrep => by
    refine wp_block ?_
    refine wp_mono (vc_sound hE x _ st h C r a w hrep) ?_
    rintro e a' w' ⟨st', r', h1, h2⟩
    cases e with
    | exit id' =>
      simp only [inBlockS] at h1
      simp only [Exit.inBlock]
      split
      · rename_i e; rw [if_pos e] at h1; exact ⟨st', r', h1, h2⟩
      · rename_i e; rw [if_neg e] at h1; exact ⟨st', r', h1, h2⟩
    | _ => exact ⟨st', r', h1, h2⟩
  | .loop _, _, _, h => h
  | .exit _, Q, st, h => fun C r a w hrep => wp_exit ⟨st, r, h, hrep⟩
  | .ret, Q, st, h => fun C r a w hrep => wp_ret ⟨st, r, h, hrep⟩
  | .rangeFunc .., _, _, h => h
  | .scope _, _, _, h => h
  | .label _, _, _, h => h
  | .goto _, _, _, h => h
  | .refuse _, _, _, h => h
/-- One state is as good as another. -/
def rn (g : List (Nat × Nat)) (i : Nat) : Nat := match aget g i with
  | some j => j
  | none => i
def keysOf (hp : List (Nat × Ent)) : List Nat := hp.map (·.1)
def likeV (g : List (Nat × Nat)) (ks : List Nat) (x' : SV) (x : SV) : Prop := x' = .c (.one .junk) ∨ (x'.ren (rn g) = x ∧ x'.ids.all ks.contains = true)
def likeFr (g : List (Nat × Nat)) (ks : List Nat) (fr : List (Nat × SV)) : List (Nat × SV) → Prop
  | [] => True
  | (t, x') :: l => (match aget fr t with
    | some x => likeV g ks x' x
    | none => False) ∧ likeFr g ks fr l
def likeO (g : List (Nat × Nat)) (ks : List Nat) (o' o : SObj) : Prop := match o' with
  | .dead => True
  | .arr α L l' => match o with
    | .arr β M l => SObj.arr α L l' = SObj.arr β M l
    | .cells s xs => s = L.st ∧ xs = l'.flatMap L.enc
    | .dead => False
  | .cells s' xs' => o.live = true ∧ s' = o.stride ∧ o.flat = xs'.map (AV.ren (rn g)) ∧ ∀ x ∈ xs', x.ids.all ks.contains = true
theorem bare_all {α : Type} (L : Lay α) (f : Nat → Nat) (ks : List Nat) (l : List α) : l.flatMap L.enc = (l.flatMap L.enc).map (AV.ren f) ∧ ∀ x ∈ l.flatMap L.enc, x.ids.all ks.contains = true := by
  have h : ∀ x ∈ l.flatMap L.enc, x.bare := fun x hx => by
    obtain ⟨y, _, hy⟩ := List.mem_flatMap.1 hx
    exact L.bare y x hy
  refine ⟨?_, fun x hx => ?_⟩
  · conv => lhs; rw [← List.map_id (l.flatMap L.enc)]
    exact List.map_congr_left fun x hx => (AV.bare_ren (h x hx) f).symm
  · have := h x hx
    cases x <;> first | rfl | exact this.elim
theorem likeO_or {g : List (Nat × Nat)} {ks : List Nat} {o' o : SObj} (h : likeO g ks o' o) : o' = .dead ∨ (o'.live = true ∧ o.live = true ∧ o'.stride = o.stride ∧ o.flat = o'.flat.map (AV.ren (rn g)) ∧ ∀ x ∈ o'.flat, x.ids.all ks.contains = true) := by
  cases o' with
  | dead => exact .inl rfl
  | cells s xs => exact .inr ⟨rfl, h.1, h.2.1, h.2.2.1, h.2.2.2⟩
  | arr α L l =>
    right
    cases o with
    | dead => exact h.elim
    | arr β M l2 =>
      have h : SObj.arr α L l = SObj.arr β M l2 := h
      rw [← h]
      exact ⟨rfl, rfl, rfl, bare_all L _ ks l⟩
    | cells s xs =>
      obtain ⟨h1, h2⟩ : s = L.st ∧ xs = l.flatMap L.enc := h
      subst h1; subst h2
      exact ⟨rfl, rfl, rfl, bare_all L _ ks l⟩
theorem u8L_st : u8L.st = 1 := rfl
theorem u8L_d : u8L.d = 0 := rfl
theorem u8L_enc (x : UInt8) : u8L.enc x = [.u8 x] := rfl
theorem u8L_up (x y : UInt8) : u8L.up x 0 [.u8 y] = some y := rfl
theorem u8L_toB : u8L.toB = some fun x => x := rfl
theorem u8L_ofB : u8L.ofB = some fun x => x := rfl
def likeHp (g : List (Nat × Nat)) (ks : List Nat) (hp : List (Nat × Ent)) : List (Nat × Ent) → Prop
  | [] => True
  | (i, e') :: l => (match aget hp (rn g i) with
    | some e => likeO g ks e'.o e.o ∧ (e'.wr = true → e.wr = true)
    | none => False) ∧ likeHp g ks hp l
def sortedB : List Nat → Bool
  | a :: b :: l => Nat.blt a b && sortedB (b :: l)
  | _ => true
def distB : List Nat → Bool
  | [] => true
  | a :: l => !l.contains a && distB l
def Canon (E : Env) (g : List (Nat × Nat)) (st st' : St) : Prop :=
  distB ((keysOf st'.hp).map (rn g)) = true ∧ (E.keys.all fun k => Nat.beq (rn g k) k && (keysOf st'.hp).contains k) = true ∧ (E.gl.all fun k => (keysOf st'.hp).contains (gid k) && Nat.beq (rn g (gid k)) (gid k)) = true ∧
    likeFr g (keysOf st'.hp) st.fr st'.fr ∧ likeHp g (keysOf st'.hp) st.hp st'.hp
theorem likeFr_get {g : List (Nat × Nat)} {ks : List Nat} {fr : List (Nat × SV)} : ∀ {l : List (Nat × SV)}, likeFr g ks fr l → ∀ t x', aget l t = some x' → ∃ x, aget fr t = some x ∧ likeV g ks x' x
  | [], _, t, x', h => by simp [aget] at h
  | (k, y) :: l, ⟨h1, h2⟩, t, x', h => by
    simp only [aget] at h
    split at h
    · rename_i e
      subst e
      injection h with h
      subst h
      cases hq : aget fr k with
      | none => rw [hq] at h1; exact h1.elim
      | some x => rw [hq] at h1; exact ⟨x, rfl, h1⟩
    · exact likeFr_get h2 t x' h
theorem likeHp_get {g : List (Nat × Nat)} {ks : List Nat} {hp : List (Nat × Ent)} : ∀ {l : List (Nat × Ent)}, likeHp g ks hp l → ∀ i e', aget l i = some e' → ∃ e, aget hp (rn g i) = some e ∧ likeO g ks e'.o e.o ∧ (e'.wr = true → e.wr = true)
  | [], _, t, x', h => by simp [aget] at h
  | (k, y) :: l, ⟨h1, h2⟩, t, x', h => by
    simp only [aget] at h
    split at h
    · rename_i e
      subst e
      injection h with h
      subst h
      cases hq : aget hp (rn g k) with
      | none => rw [hq] at h1; exact h1.elim
      | some x => rw [hq] at h1; exact ⟨x, rfl, h1⟩
    · exact likeHp_get h2 t x' h
theorem aget_keys {β : Type _} : ∀ (l : List (Nat × β)) (k : Nat), (aget l k = none ↔ k ∉ l.map (·.1))
  | [], k => by simp [aget]
  | (i, x) :: l, k => by
    simp only [aget, List.map_cons, List.mem_cons, not_or]
    by_cases e : i = k
    · subst e; simp
    · rw [if_neg e, aget_keys l k]
      exact ⟨fun h => ⟨fun h' => e h'.symm, h⟩, fun h => h.2⟩
theorem distB_spec : ∀ {l : List Nat}, distB l = true → l.Nodup
  | [], _ => List.nodup_nil
  | a :: l, h => by
    simp only [distB, Bool.and_eq_true, Bool.not_eq_true'] at h
    exact List.nodup_cons.2 ⟨by simpa using h.1, distB_spec h.2⟩
theorem map_inj_of_nodup {f : Nat → Nat} : ∀ {l : List Nat}, (l.map f).Nodup → ∀ a ∈ l, ∀ b ∈ l, f a = f b → a = b
  | [], _, a, h, _, _, _ => by cases h
  | x :: l, hn, a, ha, b, hb, e => by
    rw [List.map_cons, List.nodup_cons] at hn
    rcases List.mem_cons.1 ha with h1 | h1 <;> rcases List.mem_cons.1 hb with h2 | h2
    · rw [h1, h2]
    · subst h1; exact (hn.1 (by rw [e]; exact List.mem_map_of_mem h2)).elim
    · subst h2; exact (hn.1 (by rw [← e]; exact List.mem_map_of_mem h1)).elim
    · exact map_inj_of_nodup hn.2 a h1 b h2 e
/-- Where the objects lie, under their new numbers. -/
def Lc.under (r : Lc) (g : List (Nat × Nat)) (ks : List Nat) : Lc := fun i => if ks.contains i then r (rn g i) else none
theorem under_agree {r : Lc} {g : List (Nat × Nat)} {ks : List Nat} {ids : List Nat} (h : ids.all ks.contains = true) : ∀ id ∈ ids, ∀ p, (r.pull (rn g)) id = some p → (r.under g ks) id = some p := fun id hid p hp => by
  have := List.all_eq_true.1 h id hid
  simp only [Lc.under, this, if_true]
  exact hp
theorem Canon.heap {C : Ctx} {r : Lc} {w : World} {g : List (Nat × Nat)} {hp hp' : List (Nat × Ent)} (hd : distB ((keysOf hp').map (rn g)) = true) (h : likeHp g (keysOf hp') hp hp') (hh : HeapOk C r hp w) : HeapOk C (r.under g (keysOf hp')) hp' w := by
  have hk : ∀ i, (keysOf hp').contains i = true ↔ aget hp' i ≠ none := fun i => by
    rw [ne_eq, aget_keys, List.contains_iff_mem, Decidable.not_not]; rfl
  have hinj := map_inj_of_nodup (distB_spec hd)
  have hu : ∀ i e', aget hp' i = some e' → r.under g (keysOf hp') i = r (rn g i) := fun i e' he => by
    have : (keysOf hp').contains i = true := (hk i).2 (by rw [he]; simp)
    simp only [Lc.under, this, if_true]
  have hmem : ∀ i e', aget hp' i = some e' → i ∈ keysOf hp' := fun i e' he => List.contains_iff_mem.1 ((hk i).2 (by rw [he]; simp))
  exact {
    dom := fun i => by
      cases he : aget hp' i with
      | none =>
        have : ¬ (keysOf hp').contains i = true := fun hc => (hk i).1 hc he
        unfold Lc.under
        rw [if_neg this]
        simp
      | some e' =>
        obtain ⟨e, h1, _⟩ := likeHp_get h i e' he
        rw [hu i e' he]
        have := hh.dom (rn g i)
        rw [h1] at this
        simpa using this
    obj := fun i e' p he hp' => by
      obtain ⟨e, h1, h2, _⟩ := likeHp_get h i e' he
      rw [hu i e' he] at hp'
      rcases likeO_or h2 with h2 | ⟨l1, l2, hs, hf, hids⟩
      · rw [h2]; intro hl; cases hl
      · intro _
        rcases hh.obj _ e p h1 hp' l2 with ⟨a1, a2⟩ | ⟨b, c, cs, a1, a2, a3, a4⟩
        · refine .inl ⟨a1, ?_⟩
          rw [a2] at hf
          exact List.map_eq_nil_iff.1 hf.symm
        · refine .inr ⟨b, c, cs, a1, a2, by rw [hs]; exact a3, fun j x hx => ?_⟩
          obtain ⟨u, hu1, hu2⟩ := a4 j (x.ren (rn g)) (by rw [hf, List.getElem?_map, hx]; rfl)
          refine ⟨u, hu1, AV.rel_agree (under_agree (hids x (List.mem_of_getElem? hx))) ?_⟩
          rw [← AV.rel_ren]; exact hu2
    inj := fun i j e f b b' c d hi hj li lj ri rj wi hgg => by
      obtain ⟨e1, h1, h2, hw1⟩ := likeHp_get h i e hi
      obtain ⟨f1, h3, h4, _⟩ := likeHp_get h j f hj
      rw [hu i e hi] at ri
      rw [hu j f hj] at rj
      rcases likeO_or h2 with h2 | ⟨_, l2, _⟩
      · rw [h2] at li; cases li
      · rcases likeO_or h4 with h4 | ⟨_, l4, _⟩
        · rw [h4] at lj; cases lj
        · exact hinj i (hmem i e hi) j (hmem j f hj) (hh.inj _ _ e1 f1 b b' c d h1 h3 l2 l4 ri rj (hw1 wi) hgg)
    own := fun i e b c hi li hw ri => by
      obtain ⟨e1, h1, h2, h3⟩ := likeHp_get h i e hi
      rw [hu i e hi] at ri
      rcases likeO_or h2 with h2 | ⟨_, l2, _⟩
      · rw [h2] at li; cases li
      · exact hh.own _ e1 b c h1 l2 (h3 hw) ri
    os := hh.os
    tape := hh.tape
    glob := hh.glob
    output := hh.output
    size := hh.size
    same := hh.same }
theorem Canon.rep {C : Ctx} {r : Lc} {st st' : St} {a : Act} {w : World} {g : List (Nat × Nat)} (h : Canon E g st st') (hrep : RepE P E C r st a w) : ∃ r', RepE P E C r' st' a w := by
  obtain ⟨hd, hkeys, hgl, hfr, hhp⟩ := h
  refine ⟨r.under g (keysOf st'.hp), hrep.nt, hrep.defers, fun t x' hx => ?_, Canon.heap hd hhp hrep.hp, fun k hk => ?_, fun id p hp => ?_, hrep.keys, hrep.sub⟩
  · obtain ⟨x, h1, h2⟩ := likeFr_get hfr t x' hx
    rcases h2 with h2 | ⟨h2, h3⟩
    · subst h2; trivial
    · have := hrep.fr t x h1
      rw [← h2, SV.rel_ren] at this
      exact SV.rel_agree (under_agree h3) this
  · have := List.all_eq_true.1 hgl k hk
    simp only [Bool.and_eq_true] at this
    obtain ⟨b, c, hc, ho⟩ := hrep.gl k hk
    refine ⟨b, c, ?_, ho⟩
    have e : rn g (gid k) = gid k := by simpa using this.2
    simp only [Lc.under, this.1, if_true, e]
    exact hc
  · have hk := hrep.keys id (by rw [hp]; simp)
    have := List.all_eq_true.1 hkeys id hk
    simp only [Bool.and_eq_true] at this
    have e : rn g id = id := by simpa using this.1
    simp only [Lc.under, this.2, if_true, e]
    exact hrep.keep id p hp
theorem wpS_canon {x : Code} {st' : St} (g : List (Nat × Nat)) (hc : Canon E g st st') (h : wpS P E x Q st') : wpS P E x Q st := fun C r a w hrep => by
  obtain ⟨r', hr'⟩ := hc.rep hrep
  exact h C r' a w hr'
/-- A LOOP: 'inv x' at each round's head. -/
theorem wpS_loop (hE : EnvOk P E) {β : Type} {body : Code} (inv : β → St) (ok : β → Prop) (mu : β → Nat) (x0 : β) (g0 : List (Nat × Nat)) (hx : ok x0) (h0 : Canon E g0 st (inv x0))
    (round : ∀ x, ok x → vc (⟨inv x⟩ : VTag P E body (thenS (fun st' => ∃ y g, ok y ∧ mu y < mu x ∧ Canon E g st' (inv y)) Q))) : wpS P E (.loop body) Q st := fun C r a w hrep => by
  obtain ⟨r0, hr0⟩ := h0.rep hrep
  refine wp_loop_ghost (fun n a' w' => ∃ x r', ok x ∧ mu x = n ∧ RepE P E C r' (inv x) a' w') (mu x0) ⟨x0, r0, hx, rfl, hr0⟩ ?_
  rintro n a' w' ⟨x, r', hok, rfl, hrep'⟩
  refine wp_mono (vc_sound hE body _ _ (round x hok) C r' a' w' hrep') ?_
  rintro e a2 w2 ⟨st2, r2, h1, h2⟩
  cases e <;> first
    | exact ⟨st2, r2, h1, h2⟩
    | (obtain ⟨y, g, hy, hlt, hcan⟩ := h1
       obtain ⟨r3, hr3⟩ := hcan.rep h2
       exact ⟨mu y, hlt, y, r3, hy, rfl, hr3⟩)
end
theorem wrapL {n : Int} (h : -9223372036854775808 ≤ n) (h' : n ≤ 9223372036854775807) : IntKind.i64.wrap n = n := by rw [IntKind.wrap_i64]; omega
/-- A loop of so many rounds at most, each reckoned. -/
def rounds (P : Program) (E : Env) (body : Code) (Q : Exit → St → Prop) : Nat → St → Prop
  | 0, _ => False
  | n + 1, st => vc (⟨st⟩ : VTag P E body (thenS (rounds P E body Q n) Q))
theorem rounds_succ {P : Program} {E : Env} {body : Code} {Q : Exit → St → Prop} {n : Nat} {st : St} : rounds P E body Q (n + 1) st = vc (⟨st⟩ : VTag P E body (thenS (rounds P E body Q n) Q)) := propext Iff.rfl
theorem wpS_rounds {P : Program} {E : Env} {Q : Exit → St → Prop} {st : St} (hE : EnvOk P E) {body : Code} (n : Nat) (h : rounds P E body Q n st) : wpS P E (.loop body) Q st := fun C r a w hrep => by
  refine wp_loop_ghost (fun k a' w' => ∃ st' r', rounds P E body Q k st' ∧ RepE P E C r' st' a' w') n ⟨st, r, h, hrep⟩ ?_
  rintro k a' w' ⟨st', r', hk, hrep'⟩
  cases k with
  | zero => exact hk.elim
  | succ k =>
    refine wp_mono (vc_sound hE body _ _ hk C r' a' w' hrep') ?_
    rintro e a2 w2 ⟨st2, r2, h1, h2⟩
    cases e <;> first
      | exact ⟨st2, r2, h1, h2⟩
      | exact ⟨k, Nat.lt_succ_self k, st2, r2, h1, h2⟩
theorem loop_rounds {P : Program} {E : Env} {Q : Exit → St → Prop} {st : St} {body : Code} (hE : EnvOk P E) (n : Nat) (h : rounds P E body Q n st) : wpL (⟨st⟩ : VTag P E (.loop body) Q) := wpS_rounds hE n h
/-- One round more: the invariant holds again, at less. -/
def Again (E : Env) {β : Type} (inv : β → St) (ok : β → Prop) (mu : β → Nat) (x : β) (st : St) : Prop := ∃ y g, ok y ∧ mu y < mu x ∧ Canon E g st (inv y)
theorem again {E : Env} {β : Type} {inv : β → St} {ok : β → Prop} {mu : β → Nat} {x : β} {st : St} (y : β) (g : List (Nat × Nat)) (h1 : ok y) (h2 : mu y < mu x) (h3 : Canon E g st (inv y)) : Again E inv ok mu x st := ⟨y, g, h1, h2, h3⟩
theorem loop_inv {P : Program} {E : Env} {Q : Exit → St → Prop} {st : St} {body : Code} (hE : EnvOk P E) {β : Type} (inv : β → St) (ok : β → Prop) (mu : β → Nat) (x0 : β) (g0 : List (Nat × Nat)) (hx : ok x0) (h0 : Canon E g0 st (inv x0))
    (round : ∀ x, ok x → vc (⟨inv x⟩ : VTag P E body (thenS (Again E inv ok mu x) Q))) : wpL (⟨st⟩ : VTag P E (.loop body) Q) := wpS_loop hE inv ok mu x0 g0 hx h0 round
theorem br {b : Bool} {X Y : Prop} (h1 : b = true → X) (h2 : b = false → Y) : Br (⟨b⟩ : Tw X Y) := ⟨h1, h2⟩
/-- What a function hands back. -/
def retC (T : Nat → Option TyI) (st : St) : ResultVar → Option (CV × List Prop)
  | .tmp t => match aget st.fr t with
    | some (.c c) => some (c, [])
    | _ => none
  | .cell a t => match aget st.fr a with
    | some (.c (.one (.ptr id k s j))) => match T t with
      | some ti => if okRow ti then match aget st.hp id with
        | some e => match readAt e.o k s j ti.size with
          | some (ys, ob) => match headS ti.d.isRow ys with
            | .c c => some (c, ob)
            | _ => none
          | none => none
        | none => none else none
      | none => none
    | _ => none
def retL (T : Nat → Option TyI) (st : St) : List ResultVar → Option (List CV × List Prop)
  | [] => some ([], [])
  | v :: l => match retC T st v with
    | some (c, ob) => match retL T st l with
      | some (cs, ob') => some (c :: cs, ob ++ ob')
      | none => none
    | none => none
def tupS : List CV → SV
  | [c] => .c c
  | cs => .tup cs
/-- The end of a function: this is handed back, over these objects. -/
def endQ (E : Env) (rs : List ResultVar) (g : List (Nat × Nat)) (res : SV) (hp' : List (Nat × Ent)) (st : St) : Prop :=
  match retL E.T st rs with
  | some (cs, ob) => AllT ob ∧ likeV g (keysOf hp') res (tupS cs) ∧ distB ((keysOf hp').map (rn g)) = true ∧ (E.keys.all fun k => Nat.beq (rn g k) k && (keysOf hp').contains k) = true ∧ likeHp g (keysOf hp') st.hp hp'
  | none => False
def retQ (E : Env) (rs : List ResultVar) (g : List (Nat × Nat)) (res : SV) (hp' : List (Nat × Ent)) : Exit → St → Prop
  | .normal, st => endQ E rs g res hp' st
  | .ret, st => endQ E rs g res hp' st
  | _, _ => False
section
variable {P : Program} {E : Env}
def retM (tmps : Array Value) : ResultVar → Sem Value
  | .tmp t => pure (tmps.getD t undef)
  | .cell a t => do loadVar t (← asAddr (tmps.getD a undef))
theorem retC_run (hE : EnvOk P E) {C : Ctx} {r : Lc} {st : St} {a : Act} {w : World} (hrep : RepE P E C r st a w) {v : ResultVar} {c : CV} {ob : List Prop} (h : retC E.T st v = some (c, ob)) (hob : AllT ob) :
    ∃ u, (retM a.tmps v).run P w = .ok u w ∧ c.rel r u := by
  cases v with
  | tmp t =>
    simp only [retC] at h
    split at h
    · rename_i c' hc
      simp only [Option.some.injEq, Prod.mk.injEq] at h
      obtain ⟨rfl, rfl⟩ := h
      exact ⟨_, rfl, hrep.fr t _ hc⟩
    · cases h
  | cell x t =>
    simp only [retC] at h
    split at h
    · rename_i id k s j hx
      split at h
      · rename_i ti ht
        split at h
        · rename_i hok
          split at h
          · rename_i e he
            split at h
            · rename_i ys ob' hra
              split at h
              · rename_i c' hc
                simp only [Option.some.injEq, Prod.mk.injEq] at h
                obtain ⟨rfl, rfl⟩ := h
                obtain ⟨hl, hlen, hys⟩ := readAt_flat hra hob (fun h => by rw [h]; rfl)
                obtain ⟨g, cc, hrid, hv⟩ := hrep.fr x _ hx
                obtain ⟨cs, hrow, _, hholds⟩ := hrep.hp.row he hl hrid
                obtain ⟨us, hul, hus, hall⟩ := hholds.slice hlen
                rw [← hys] at hall
                have hrg := rangeAt_of hrow hus
                obtain ⟨hu, nf, hi1, hi2, _⟩ := hE.T t ti ht
                have hv' : a.tmps.getD x undef = .pointer (some ⟨g.1, k * s + j + g.off, none⟩) := hv
                by_cases hd : ti.d.isRow = true
                · have hlv := run_loadVar_mid (P := P) w g.1 (k * s + j + g.off) t us ti.d hrg hu hd (by rw [hi1]; simp [hi2, hul])
                  refine ⟨.agg us.toArray, ?_, ?_⟩
                  · simp only [retM, hv', asAddr, Sem.run_bind, Sem.run_pure, Result.andThen_ok, hlv]
                  · simp only [headS, hd, if_true, SV.c.injEq] at hc
                    subst hc
                    exact ⟨us, rfl, hall⟩
                · have hd' : ti.d.isRow = false := by simpa using hd
                  have hz := okRow_spec hok hd'
                  rw [hz] at hul
                  obtain ⟨u, rfl⟩ : ∃ u, us = [u] := by
                    match us, hul with
                    | [u], _ => exact ⟨u, rfl⟩
                  obtain ⟨y, rfl⟩ : ∃ y, ys = [y] := by
                    have := hall.length
                    match ys, this with
                    | [y], _ => exact ⟨y, rfl⟩
                  refine ⟨u, ?_, ?_⟩
                  · have hcl : w.cell? ⟨g.1, k * s + j + g.off, none⟩ = some u := by simpa using hrg 0 u (by simp)
                    have hag := run_isAgg hE.T ht w
                    rw [hd'] at hag
                    simp only [retM, hv', asAddr, Sem.run_bind, Sem.run_pure, Result.andThen_ok, loadVar, hag]
                    simp [hcl]
                  · simp only [headS, hd', Bool.false_eq_true, if_false, SV.c.injEq] at hc
                    subst hc
                    exact hall.1
              · cases h
            · cases h
          · cases h
        · cases h
      · cases h
    · cases h
theorem retL_run (hE : EnvOk P E) {C : Ctx} {r : Lc} {st : St} {a : Act} {w : World} (hrep : RepE P E C r st a w) : ∀ {l : List ResultVar} {cs : List CV} {ob : List Prop}, retL E.T st l = some (cs, ob) → AllT ob →
    ∃ us : List Value, (l.mapM (retM a.tmps)).run P w = .ok us w ∧ All2 (CV.rel r) cs us
  | [], cs, ob, h, _ => by
    simp only [retL, Option.some.injEq, Prod.mk.injEq] at h
    obtain ⟨rfl, rfl⟩ := h
    exact ⟨[], rfl, trivial⟩
  | v :: l, cs, ob, h, hob => by
    simp only [retL] at h
    cases hv : retC E.T st v with
    | none => rw [hv] at h; cases h
    | some q =>
      obtain ⟨c, ob1⟩ := q
      rw [hv] at h
      simp only at h
      cases hl : retL E.T st l with
      | none => rw [hl] at h; cases h
      | some q =>
        obtain ⟨cs', ob2⟩ := q
        simp only [hl, Option.some.injEq, Prod.mk.injEq] at h
        obtain ⟨rfl, rfl⟩ := h
        obtain ⟨o1, o2⟩ := AllT.append.1 hob
        obtain ⟨u, hu, hr⟩ := retC_run hE hrep hv o1
        obtain ⟨us, hus, hrs⟩ := retL_run hE hrep hl o2
        exact ⟨u :: us, by simp only [List.mapM_cons, Sem.run_bind, hu, Result.andThen_ok, hus, Sem.run_pure], hr, hrs⟩
theorem results_run (hE : EnvOk P E) {C : Ctx} {r : Lc} {st : St} {a : Act} {w : World} (hrep : RepE P E C r st a w) {fn : Func} {cs : List CV} {ob : List Prop} (h : retL E.T st fn.results.toList = some (cs, ob)) (hob : AllT ob) :
    ∃ u, (results fn a.tmps).run P w = .ok u w ∧ (tupS cs).rel r u := by
  obtain ⟨us, hus, hrs⟩ := retL_run hE hrep h hob
  have hm : (fn.results.mapM (retM a.tmps)).run P w = .ok us.toArray w := by
    rw [Array.mapM_eq_mapM_toList]
    have e : ∀ q : Sem (List Value), (List.toArray <$> q) = (q >>= fun a => pure a.toArray) := fun _ => rfl
    rw [e, Sem.run_bind, hus]; rfl
  have hre : results fn a.tmps = (fn.results.mapM (retM a.tmps) >>= fun vs => pure (if h : vs.size = 1 then vs[0] else .tuple vs)) := by
    unfold results
    congr 1
  rw [hre, Sem.run_bind, hm]
  simp only [Result.andThen_ok, Sem.run_pure]
  match cs, us, hrs with
  | [], [], _ => exact ⟨_, rfl, [], rfl, trivial⟩
  | [c], [u], ⟨h1, _⟩ => exact ⟨u, rfl, h1⟩
  | c :: d :: cs, u :: v :: us, hrs => exact ⟨_, rfl, _, rfl, hrs⟩
/-- A FUNCTION KEEPS ITS CONTRACT. -/
theorem tri_of (hE : EnvOk P E) {f : FuncId} {fn : Func} {body : Code} (hf : P.funcs[f]? = some fn) (hb : fn.body = some body) (hn : fn.ntmps = E.nt) {rs : List ResultVar} (hrs : fn.results.toList = rs) (hgl : E.gl = []) {args : List CV} {hp : List (Nat × Ent)} {res : SV} {hp' : List (Nat × Ent)} (hlen : args.length ≤ E.nt)
    (hkeys : keysOf hp = E.keys) (g : List (Nat × Nat)) (h : vc (⟨⟨numb 0 (args.map .c), hp⟩⟩ : VTag P E body (retQ E rs g res hp'))) : TriG P E.G f args hp res hp' := by
  subst hrs
  intro r w vals hargs hh
  have hvl := hargs.length
  refine calls_of_wp hf hb ?_
  have hrep : RepE P E (cw E.G r hp w) r ⟨numb 0 (args.map .c), hp⟩ { tmps := vals.toArray ++ Array.replicate (fn.ntmps - vals.toArray.size) undef, defers := [] } w := {
    nt := by simp; omega
    defers := rfl
    fr := fun t x hx => by
      have hx' : (args.map SV.c)[t]? = some x := by
        have := aget_numb (args.map SV.c) 0 t
        simp only [Nat.zero_le, if_true, Nat.sub_zero] at this
        rw [← this]; exact hx
      rw [List.getElem?_map] at hx'
      cases hc : args[t]? with
      | none => rw [hc] at hx'; cases hx'
      | some c =>
        rw [hc] at hx'
        simp only [Option.map_some, Option.some.injEq] at hx'
        subst hx'
        obtain ⟨u, hu, hr⟩ := hargs.get t c hc
        have hlt : t < vals.length := (List.getElem?_eq_some_iff.1 hu).1
        rw [Array.getD_eq_getD_getElem?, Array.getElem?_append_left (by simpa using hlt)]
        simp only [List.getElem?_toArray, hu, Option.getD_some]
        exact hr
    hp := hh
    gl := fun k hk => by rw [hgl] at hk; cases hk
    keep := r.le_refl
    keys := fun id hid => by
      have : aget hp id ≠ none := fun he => hid ((hh.dom id).2 he)
      rw [← hkeys]
      rw [ne_eq, aget_keys, Decidable.not_not] at this
      exact this
    sub := fun f hf => hf }
  refine wp_mono (vc_sound hE body _ _ h (cw E.G r hp w) r _ w hrep) ?_
  rintro e a' w' ⟨st', r', h1, h2⟩
  have key : endQ E fn.results.toList g res hp' st' → a'.defers = [] ∧ ∃ v, (results fn a'.tmps).run P w' = .ok v w' ∧ ∃ u r', Ending.returned v = .returned u ∧ r.le r' ∧ res.rel r' u ∧ HeapOk (cw E.G r hp w) r' hp' w' := fun hq => by
    unfold endQ at hq
    split at hq
    · rename_i cs ob hre
      obtain ⟨hob, hlv, hd, hks, hhp⟩ := hq
      obtain ⟨u, hu, hr⟩ := results_run hE h2 hre hob
      refine ⟨h2.defers, u, hu, u, r'.under g (keysOf hp'), rfl, fun id p hid => ?_, ?_, Canon.heap hd hhp h2.hp⟩
      · have hk := h2.keys id (by show r id ≠ none; rw [hid]; simp)
        have := List.all_eq_true.1 hks id hk
        simp only [Bool.and_eq_true] at this
        have e : rn g id = id := by simpa using this.1
        simp only [Lc.under, this.2, if_true, e]
        exact h2.keep id p hid
      · rcases hlv with hlv | ⟨h3, h4⟩
        · subst hlv; trivial
        · rw [← h3, SV.rel_ren] at hr
          exact SV.rel_agree (under_agree h4) hr
    · exact hq.elim
  cases e <;> first
    | exact key h1
    | exact h1.elim
/-- A contract over no objects. -/
def con0 (F : List CV → Option (SV × List Prop)) : Con := ⟨false, fun args os => match os with
  | [] => match F args with
    | some (v, ob) => some (v, [], [], ob)
    | none => none
  | _ => none⟩
theorem con0_okG {G : List GFact} {f : FuncId} {fn : Func} (hf : P.funcs[f]? = some fn) (hb : fn.body.isSome = true) (hn : (fn.name == "runtime.NumGoroutine") = false) {F : List CV → Option (SV × List Prop)} (h : ∀ args res ob, F args = some (res, ob) → AllT ob → TriG P G f args [] res []) : ConOkG P G f (con0 F) := by
  refine .inl ⟨⟨fn, hf, hb, hn⟩, fun args es res upd news ob hr hob _ => ?_⟩
  unfold con0 at hr
  simp only at hr
  split at hr
  · rename_i hes
    have : es = [] := List.map_eq_nil_iff.1 hes
    subst this
    cases hF : F args with
    | none => rw [hF] at hr; cases hr
    | some q =>
      obtain ⟨v, ob'⟩ := q
      simp only [hF, Option.some.injEq, Prod.mk.injEq] at hr
      obtain ⟨rfl, rfl, rfl, rfl⟩ := hr
      exact h args v ob' hF hob
  · cases hr
theorem con0_ok {f : FuncId} {fn : Func} (hf : P.funcs[f]? = some fn) (hb : fn.body.isSome = true) (hn : (fn.name == "runtime.NumGoroutine") = false) {F : List CV → Option (SV × List Prop)} (h : ∀ args res ob, F args = some (res, ob) → AllT ob → Tri P f args [] res []) : ConOk P f (con0 F) := con0_okG hf hb hn h
/-- A contract of a function that the model stands in for. -/
theorem con0_ext {f : FuncId} {F : List CV → Option (SV × List Prop)} (h : ∀ args res ob, F args = some (res, ob) → AllT ob → ∀ (r : Lc) (w : World) (vals : List Value), All2 (CV.rel r) args vals → ∃ u, (callFunc f vals.toArray).run P w = .ok (.value u) w ∧ res.rel r u) : ConOk P f (con0 F) := by
  refine .inr fun args os res upd news ob hr => ?_
  unfold con0 at hr
  simp only at hr
  split at hr
  · cases hF : F args with
    | none => rw [hF] at hr; cases hr
    | some q =>
      obtain ⟨v, ob'⟩ := q
      simp only [hF, Option.some.injEq, Prod.mk.injEq] at hr
      obtain ⟨rfl, rfl, rfl, rfl⟩ := hr
      exact ⟨rfl, rfl, rfl, h args v ob' hF⟩
  · cases hr
/-- What it means for a caller outside: memory below is as it was. -/
theorem tri_callsG {G : List GFact} {f : FuncId} {args : List CV} {res : SV} (h : TriG P G f args [] res []) (w : World) {vals : List Value} (hv : All2 (CV.rel fun _ => none) args vals) (hg : ∀ f ∈ G, f.p w) :
    Calls P f vals.toArray w fun e w' => ∃ u r', e = .returned u ∧ res.rel r' u ∧ Below w.heap.size w w' := by
  have hh : HeapOk (cw G (fun _ => none) [] w) (fun _ => none) [] w := {
    dom := fun _ => Iff.intro (fun _ => rfl) (fun _ => rfl)
    obj := fun id e p h => by cases h
    inj := fun i j e f g g' c d h => by cases h
    own := fun id e g c h => by cases h
    glob := fun f hf => ⟨hg f hf, fun ⟨id, e, g, c, h, _⟩ => by cases h⟩
    os := rfl
    tape := rfl
    output := rfl
    size := Nat.le_refl _
    same := fun _ _ _ => rfl }
  refine (h _ w vals hv hh).mono fun e w' ⟨u, r', h1, _, h2, h3⟩ => ⟨u, r', h1, h2, h3.os, h3.tape, h3.output, h3.size, fun b hb => h3.same b hb ?_⟩
  rintro ⟨id, e, g, c, h4, _⟩
  cases h4
theorem tri_calls {f : FuncId} {args : List CV} {res : SV} (h : Tri P f args [] res []) (w : World) {vals : List Value} (hv : All2 (CV.rel fun _ => none) args vals) :
    Calls P f vals.toArray w fun e w' => ∃ u r', e = .returned u ∧ res.rel r' u ∧ Below w.heap.size w w' := tri_callsG h w hv fun _ h => by cases h
/-- A contract of the library's, over no objects. -/
theorem tri_shelf {G : List GFact} {f : FuncId} {args : List CV} {res : SV} (h : ∀ (w : World) (vals : List Value), (∀ g ∈ G, g.p w) → All2 (CV.rel fun _ => none) args vals → Calls P f vals.toArray w fun e w' => ∃ u, e = .returned u ∧ res.rel (fun _ => none) u ∧ Below w.heap.size w w') : TriG P G f args [] res [] := fun r w vals hargs hh => by
  obtain rfl : r = fun _ => none := funext fun id => (hh.dom id).2 rfl
  exact (h w vals hh.facts hargs).mono fun e w' ⟨u, h1, h2, hb⟩ => ⟨u, _, h1, Lc.le_refl _, h2, hh.move hb.os hb.tape hb.output hb.size fun b h => hb.block b h⟩
end
end Go.Proofs.YtahiopdkekkibaaGreatDoor

/-
  The types of the program, as the walk by reckoning looks them up. Made by genty.py.
-/
namespace Go.Proofs.YtahiopdkekkibaaGreatDoor
open Go Go.RowKit
set_option linter.unusedVariables false
set_option linter.unusedSimpArgs false
def tyi2 : TyI := ⟨.int .i64, 1, 8, .one (.num 0), []⟩
def tyi3 : TyI := ⟨.int .i64, 1, 8, .one (.num 0), []⟩
def tyi4 : TyI := ⟨.bool, 1, 1, .one (.bo false), []⟩
def tyi5 : TyI := ⟨.int .u8, 1, 1, .one (.u8 0), []⟩
def tyi9 : TyI := ⟨.string, 1, 16, .one (.str []), []⟩
def tyi12 : TyI := ⟨.int .u64, 1, 8, .one (.u64 0), []⟩
noncomputable def tyi20 : TyI := ⟨(Tryz.prog.underlying 20).getD .invalid, 1, 16, .one (.val .nilIface), []⟩
def tyi21 : TyI := ⟨.int .i32, 1, 4, .one (.int .i32 0), []⟩
def tyi23 : TyI := ⟨.int .i64, 1, 8, .one (.num 0), []⟩
noncomputable def tyi32 : TyI := ⟨(Tryz.prog.underlying 32).getD .invalid, 4, 56, .agg [.str [], .str [], .str [], .num 0], [1, 1, 1, 0]⟩
noncomputable def tyi33 : TyI := ⟨(Tryz.prog.underlying 33).getD .invalid, 4, 56, .agg [.str [], .str [], .str [], .num 0], [1, 1, 1, 0]⟩
noncomputable def tyi35 : TyI := ⟨(Tryz.prog.underlying 35).getD .invalid, 8, 112, .agg [.str [], .str [], .num 0, .num 0, .str [], .str [], .str [], .str []], [1, 1, 0, 0, 1, 1, 1, 1]⟩
noncomputable def tyi36 : TyI := ⟨(Tryz.prog.underlying 36).getD .invalid, 8, 112, .agg [.str [], .str [], .num 0, .num 0, .str [], .str [], .str [], .str []], [1, 1, 0, 0, 1, 1, 1, 1]⟩
noncomputable def tyi39 : TyI := ⟨(Tryz.prog.underlying 39).getD .invalid, 8, 112, .agg [.str [], .str [], .num 0, .num 0, .str [], .str [], .str [], .str []], [1, 1, 0, 0, 1, 1, 1, 1]⟩
noncomputable def tyi42 : TyI := ⟨(Tryz.prog.underlying 42).getD .invalid, 4, 56, .agg [.str [], .str [], .str [], .num 0], [1, 1, 1, 0]⟩
def tyi46 : TyI := ⟨.slice 9, 1, 24, .one (.val (.slice none 0 0)), []⟩
def tyi84 : TyI := ⟨.int .u64, 1, 8, .one (.u64 0), []⟩
def tyi85 : TyI := ⟨.slice 5, 1, 24, .one (.val (.slice none 0 0)), []⟩
def tyi87 : TyI := ⟨.array 3 3, 3, 24, .agg [.num 0, .num 0, .num 0], []⟩
def tyi88 : TyI := ⟨.int .u64, 1, 8, .one (.u64 0), []⟩
def tyi89 : TyI := ⟨.array 5 88, 5, 40, .agg [.u64 0, .u64 0, .u64 0, .u64 0, .u64 0], []⟩
def tyi90 : TyI := ⟨.array 5 88, 5, 40, .agg [.u64 0, .u64 0, .u64 0, .u64 0, .u64 0], []⟩
def tyi97 : TyI := ⟨.int .u32, 1, 4, .one (.u32 0), []⟩
def tyi98 : TyI := ⟨.slice 3, 1, 24, .one (.val (.slice none 0 0)), []⟩
def tyi113 : TyI := ⟨.pointer 115, 1, 8, .one (.val (.pointer none)), []⟩
noncomputable def tyi114 : TyI := ⟨(Tryz.prog.underlying 114).getD .invalid, 2, 32, .agg [.val (.pointer none), .val (.slice none 0 0)], []⟩
noncomputable def tyi115 : TyI := ⟨(Tryz.prog.underlying 115).getD .invalid, 2, 32, .agg [.val (.pointer none), .val (.slice none 0 0)], []⟩
noncomputable def tyi117 : TyI := ⟨(Tryz.prog.underlying 117).getD .invalid, 1, 16, .one (.val .nilIface), []⟩
noncomputable def tyi118 : TyI := ⟨(Tryz.prog.underlying 118).getD .invalid, 1, 16, .one (.val .nilIface), []⟩
def tyi128 : TyI := ⟨.pointer 124, 1, 8, .one (.val (.pointer none)), []⟩
def tyi131 : TyI := ⟨.array 4 88, 4, 32, .agg [.u64 0, .u64 0, .u64 0, .u64 0], []⟩
noncomputable def tyi132 : TyI := ⟨(Tryz.prog.underlying 132).getD .invalid, 10, 80, .agg [.u64 0, .u64 0, .u64 0, .u64 0, .u64 0, .u64 0, .u64 0, .u64 0, .u64 0, .u64 0], []⟩
noncomputable def tyi133 : TyI := ⟨(Tryz.prog.underlying 133).getD .invalid, 10, 80, .agg [.u64 0, .u64 0, .u64 0, .u64 0, .u64 0, .u64 0, .u64 0, .u64 0, .u64 0, .u64 0], []⟩
def tyi138 : TyI := ⟨.array 16 97, 16, 64, .agg [.u32 0, .u32 0, .u32 0, .u32 0, .u32 0, .u32 0, .u32 0, .u32 0, .u32 0, .u32 0, .u32 0, .u32 0, .u32 0, .u32 0, .u32 0, .u32 0], []⟩
def tyi147 : TyI := ⟨.pointer 5, 1, 8, .one (.val (.pointer none)), []⟩
noncomputable def tyi155 : TyI := ⟨(Tryz.prog.underlying 155).getD .invalid, 2, 16, .agg [.u64 0, .u64 0], [0, 0]⟩
noncomputable def tyi156 : TyI := ⟨(Tryz.prog.underlying 156).getD .invalid, 2, 16, .agg [.u64 0, .u64 0], [0, 0]⟩
def tyi157 : TyI := ⟨.array 5 156, 10, 80, .agg [.u64 0, .u64 0, .u64 0, .u64 0, .u64 0, .u64 0, .u64 0, .u64 0, .u64 0, .u64 0], []⟩
def tyi163 : TyI := ⟨.array 5 88, 5, 40, .agg [.u64 0, .u64 0, .u64 0, .u64 0, .u64 0], []⟩
def tyi170 : TyI := ⟨.slice 97, 1, 24, .one (.val (.slice none 0 0)), []⟩
def tyi173 : TyI := ⟨.array 8 97, 8, 32, .agg [.u32 0, .u32 0, .u32 0, .u32 0, .u32 0, .u32 0, .u32 0, .u32 0], []⟩
def tyi186 : TyI := ⟨.array 4 3, 4, 32, .agg [.num 0, .num 0, .num 0, .num 0], []⟩
def tyi188 : TyI := ⟨.array 64 97, 64, 256, .agg [.u32 0, .u32 0, .u32 0, .u32 0, .u32 0, .u32 0, .u32 0, .u32 0, .u32 0, .u32 0, .u32 0, .u32 0, .u32 0, .u32 0, .u32 0, .u32 0, .u32 0, .u32 0, .u32 0, .u32 0, .u32 0, .u32 0, .u32 0, .u32 0, .u32 0, .u32 0, .u32 0, .u32 0, .u32 0, .u32 0, .u32 0, .u32 0, .u32 0, .u32 0, .u32 0, .u32 0, .u32 0, .u32 0, .u32 0, .u32 0, .u32 0, .u32 0, .u32 0, .u32 0, .u32 0, .u32 0, .u32 0, .u32 0, .u32 0, .u32 0, .u32 0, .u32 0, .u32 0, .u32 0, .u32 0, .u32 0, .u32 0, .u32 0, .u32 0, .u32 0, .u32 0, .u32 0, .u32 0, .u32 0], []⟩
noncomputable def tyi192 : TyI := ⟨(Tryz.prog.underlying 192).getD .invalid, 2, 2, .agg [.u8 0, .u8 0], [0, 0]⟩
noncomputable def tyi193 : TyI := ⟨(Tryz.prog.underlying 193).getD .invalid, 2, 2, .agg [.u8 0, .u8 0], [0, 0]⟩
def tyi194 : TyI := ⟨.array 16 193, 32, 32, .agg [.u8 0, .u8 0, .u8 0, .u8 0, .u8 0, .u8 0, .u8 0, .u8 0, .u8 0, .u8 0, .u8 0, .u8 0, .u8 0, .u8 0, .u8 0, .u8 0, .u8 0, .u8 0, .u8 0, .u8 0, .u8 0, .u8 0, .u8 0, .u8 0, .u8 0, .u8 0, .u8 0, .u8 0, .u8 0, .u8 0, .u8 0, .u8 0], []⟩
noncomputable def ty (t : Nat) : Option TyI := match t with
  | 2 => some tyi2
  | 3 => some tyi3
  | 4 => some tyi4
  | 5 => some tyi5
  | 9 => some tyi9
  | 12 => some tyi12
  | 20 => some tyi20
  | 21 => some tyi21
  | 23 => some tyi23
  | 32 => some tyi32
  | 33 => some tyi33
  | 35 => some tyi35
  | 36 => some tyi36
  | 39 => some tyi39
  | 42 => some tyi42
  | 46 => some tyi46
  | 84 => some tyi84
  | 85 => some tyi85
  | 87 => some tyi87
  | 88 => some tyi88
  | 89 => some tyi89
  | 90 => some tyi90
  | 97 => some tyi97
  | 98 => some tyi98
  | 113 => some tyi113
  | 114 => some tyi114
  | 115 => some tyi115
  | 117 => some tyi117
  | 118 => some tyi118
  | 128 => some tyi128
  | 131 => some tyi131
  | 132 => some tyi132
  | 133 => some tyi133
  | 138 => some tyi138
  | 147 => some tyi147
  | 155 => some tyi155
  | 156 => some tyi156
  | 157 => some tyi157
  | 163 => some tyi163
  | 170 => some tyi170
  | 173 => some tyi173
  | 186 => some tyi186
  | 188 => some tyi188
  | 192 => some tyi192
  | 193 => some tyi193
  | 194 => some tyi194
  | _ => none
theorem ty_one {i : TyI} {t : Nat} {z : Value} (h1 : Tryz.prog.underlying t = some i.d) (h2 : (Tryz.prog.info? t).map (fun x => (x.zero, x.size, x.bytes)) = some (some z, i.size, i.bytes)) (h3 : ∀ r, i.zero.rel r z) (h4 : z.cells.size = i.size) (h5 : i.zero.cells.length = i.size) (h6 : ∀ x ∈ i.zero.cells, x.plain ∧ x.bare) (h7 : (i.eqs.isEmpty || (eqB Tryz.prog t i.eqs && i.eqs.length == i.size)) = true) :
    TyOne Tryz.prog t i := by
  obtain ⟨nf, hn, hz, hs, hb⟩ := info_parts h2
  refine ⟨h1, nf, hn, hs, hb, z, hz, h3, h4, h5, h6, fun he => ?_⟩
  rw [he] at h7
  simp only [Bool.false_or, Bool.and_eq_true, beq_iff_eq] at h7
  exact h7
theorem tyok2 : TyOne Tryz.prog 2 tyi2 := ty_one (z := .int .i64 0) (by kernel_rfl) (by kernel_rfl) (fun r => rfl) rfl rfl (by simp [tyi2, CV.cells, AV.plain, AV.bare, Value.oneCell']) (by kernel_rfl)
theorem tyok3 : TyOne Tryz.prog 3 tyi3 := ty_one (z := .int .i64 0) (by kernel_rfl) (by kernel_rfl) (fun r => rfl) rfl rfl (by simp [tyi3, CV.cells, AV.plain, AV.bare, Value.oneCell']) (by kernel_rfl)
theorem tyok4 : TyOne Tryz.prog 4 tyi4 := ty_one (z := .bool false) (by kernel_rfl) (by kernel_rfl) (fun r => rfl) rfl rfl (by simp [tyi4, CV.cells, AV.plain, AV.bare, Value.oneCell']) (by kernel_rfl)
theorem tyok5 : TyOne Tryz.prog 5 tyi5 := ty_one (z := .int .u8 0) (by kernel_rfl) (by kernel_rfl) (fun r => rfl) rfl rfl (by simp [tyi5, CV.cells, AV.plain, AV.bare, Value.oneCell']) (by kernel_rfl)
theorem tyok9 : TyOne Tryz.prog 9 tyi9 := ty_one (z := .string ⟨#[]⟩) (by kernel_rfl) (by kernel_rfl) (fun r => rfl) rfl rfl (by simp [tyi9, CV.cells, AV.plain, AV.bare, Value.oneCell']) (by kernel_rfl)
theorem tyok12 : TyOne Tryz.prog 12 tyi12 := ty_one (z := .int .u64 0) (by kernel_rfl) (by kernel_rfl) (fun r => rfl) rfl rfl (by simp [tyi12, CV.cells, AV.plain, AV.bare, Value.oneCell']) (by kernel_rfl)
theorem tyok20 : TyOne Tryz.prog 20 tyi20 := ty_one (z := .nilIface) (by kernel_rfl) (by kernel_rfl) (fun r => rfl) rfl rfl (by simp [tyi20, CV.cells, AV.plain, AV.bare, Value.oneCell']) (by kernel_rfl)
theorem tyok21 : TyOne Tryz.prog 21 tyi21 := ty_one (z := .int .i32 0) (by kernel_rfl) (by kernel_rfl) (fun r => rfl) rfl rfl (by simp [tyi21, CV.cells, AV.plain, AV.bare, Value.oneCell']) (by kernel_rfl)
theorem tyok23 : TyOne Tryz.prog 23 tyi23 := ty_one (z := .int .i64 0) (by kernel_rfl) (by kernel_rfl) (fun r => rfl) rfl rfl (by simp [tyi23, CV.cells, AV.plain, AV.bare, Value.oneCell']) (by kernel_rfl)
theorem tyok32 : TyOne Tryz.prog 32 tyi32 := ty_one (z := .agg #[.string ⟨#[]⟩, .string ⟨#[]⟩, .string ⟨#[]⟩, .int .i64 0]) (by kernel_rfl) (by kernel_rfl) (fun r => ⟨_, rfl, by simp [All2, AV.rel]⟩) rfl rfl (by simp [tyi32, CV.cells, AV.plain, AV.bare, Value.oneCell']) (by kernel_rfl)
theorem tyok33 : TyOne Tryz.prog 33 tyi33 := ty_one (z := .agg #[.string ⟨#[]⟩, .string ⟨#[]⟩, .string ⟨#[]⟩, .int .i64 0]) (by kernel_rfl) (by kernel_rfl) (fun r => ⟨_, rfl, by simp [All2, AV.rel]⟩) rfl rfl (by simp [tyi33, CV.cells, AV.plain, AV.bare, Value.oneCell']) (by kernel_rfl)
theorem tyok35 : TyOne Tryz.prog 35 tyi35 := ty_one (z := .agg #[.string ⟨#[]⟩, .string ⟨#[]⟩, .int .i64 0, .int .i64 0, .string ⟨#[]⟩, .string ⟨#[]⟩, .string ⟨#[]⟩, .string ⟨#[]⟩]) (by kernel_rfl) (by kernel_rfl) (fun r => ⟨_, rfl, by simp [All2, AV.rel]⟩) rfl rfl (by simp [tyi35, CV.cells, AV.plain, AV.bare, Value.oneCell']) (by kernel_rfl)
theorem tyok36 : TyOne Tryz.prog 36 tyi36 := ty_one (z := .agg #[.string ⟨#[]⟩, .string ⟨#[]⟩, .int .i64 0, .int .i64 0, .string ⟨#[]⟩, .string ⟨#[]⟩, .string ⟨#[]⟩, .string ⟨#[]⟩]) (by kernel_rfl) (by kernel_rfl) (fun r => ⟨_, rfl, by simp [All2, AV.rel]⟩) rfl rfl (by simp [tyi36, CV.cells, AV.plain, AV.bare, Value.oneCell']) (by kernel_rfl)
theorem tyok39 : TyOne Tryz.prog 39 tyi39 := ty_one (z := .agg #[.string ⟨#[]⟩, .string ⟨#[]⟩, .int .i64 0, .int .i64 0, .string ⟨#[]⟩, .string ⟨#[]⟩, .string ⟨#[]⟩, .string ⟨#[]⟩]) (by kernel_rfl) (by kernel_rfl) (fun r => ⟨_, rfl, by simp [All2, AV.rel]⟩) rfl rfl (by simp [tyi39, CV.cells, AV.plain, AV.bare, Value.oneCell']) (by kernel_rfl)
theorem tyok42 : TyOne Tryz.prog 42 tyi42 := ty_one (z := .agg #[.string ⟨#[]⟩, .string ⟨#[]⟩, .string ⟨#[]⟩, .int .i64 0]) (by kernel_rfl) (by kernel_rfl) (fun r => ⟨_, rfl, by simp [All2, AV.rel]⟩) rfl rfl (by simp [tyi42, CV.cells, AV.plain, AV.bare, Value.oneCell']) (by kernel_rfl)
theorem tyok46 : TyOne Tryz.prog 46 tyi46 := ty_one (z := .slice none 0 0) (by kernel_rfl) (by kernel_rfl) (fun r => rfl) rfl rfl (by simp [tyi46, CV.cells, AV.plain, AV.bare, Value.oneCell']) (by kernel_rfl)
theorem tyok84 : TyOne Tryz.prog 84 tyi84 := ty_one (z := .int .u64 0) (by kernel_rfl) (by kernel_rfl) (fun r => rfl) rfl rfl (by simp [tyi84, CV.cells, AV.plain, AV.bare, Value.oneCell']) (by kernel_rfl)
theorem tyok85 : TyOne Tryz.prog 85 tyi85 := ty_one (z := .slice none 0 0) (by kernel_rfl) (by kernel_rfl) (fun r => rfl) rfl rfl (by simp [tyi85, CV.cells, AV.plain, AV.bare, Value.oneCell']) (by kernel_rfl)
theorem tyok87 : TyOne Tryz.prog 87 tyi87 := ty_one (z := .agg #[.int .i64 0, .int .i64 0, .int .i64 0]) (by kernel_rfl) (by kernel_rfl) (fun r => ⟨_, rfl, by simp [All2, AV.rel]⟩) rfl rfl (by simp [tyi87, CV.cells, AV.plain, AV.bare, Value.oneCell']) (by kernel_rfl)
theorem tyok88 : TyOne Tryz.prog 88 tyi88 := ty_one (z := .int .u64 0) (by kernel_rfl) (by kernel_rfl) (fun r => rfl) rfl rfl (by simp [tyi88, CV.cells, AV.plain, AV.bare, Value.oneCell']) (by kernel_rfl)
theorem tyok89 : TyOne Tryz.prog 89 tyi89 := ty_one (z := .agg #[.int .u64 0, .int .u64 0, .int .u64 0, .int .u64 0, .int .u64 0]) (by kernel_rfl) (by kernel_rfl) (fun r => ⟨_, rfl, by simp [All2, AV.rel]⟩) rfl rfl (by simp [tyi89, CV.cells, AV.plain, AV.bare, Value.oneCell']) (by kernel_rfl)
theorem tyok90 : TyOne Tryz.prog 90 tyi90 := ty_one (z := .agg #[.int .u64 0, .int .u64 0, .int .u64 0, .int .u64 0, .int .u64 0]) (by kernel_rfl) (by kernel_rfl) (fun r => ⟨_, rfl, by simp [All2, AV.rel]⟩) rfl rfl (by simp [tyi90, CV.cells, AV.plain, AV.bare, Value.oneCell']) (by kernel_rfl)
theorem tyok97 : TyOne Tryz.prog 97 tyi97 := ty_one (z := .int .u32 0) (by kernel_rfl) (by kernel_rfl) (fun r => rfl) rfl rfl (by simp [tyi97, CV.cells, AV.plain, AV.bare, Value.oneCell']) (by kernel_rfl)
theorem tyok98 : TyOne Tryz.prog 98 tyi98 := ty_one (z := .slice none 0 0) (by kernel_rfl) (by kernel_rfl) (fun r => rfl) rfl rfl (by simp [tyi98, CV.cells, AV.plain, AV.bare, Value.oneCell']) (by kernel_rfl)
theorem tyok113 : TyOne Tryz.prog 113 tyi113 := ty_one (z := .pointer none) (by kernel_rfl) (by kernel_rfl) (fun r => rfl) rfl rfl (by simp [tyi113, CV.cells, AV.plain, AV.bare, Value.oneCell']) (by kernel_rfl)
theorem tyok114 : TyOne Tryz.prog 114 tyi114 := ty_one (z := .agg #[.pointer none, .slice none 0 0]) (by kernel_rfl) (by kernel_rfl) (fun r => ⟨_, rfl, by simp [All2, AV.rel]⟩) rfl rfl (by simp [tyi114, CV.cells, AV.plain, AV.bare, Value.oneCell']) (by kernel_rfl)
theorem tyok115 : TyOne Tryz.prog 115 tyi115 := ty_one (z := .agg #[.pointer none, .slice none 0 0]) (by kernel_rfl) (by kernel_rfl) (fun r => ⟨_, rfl, by simp [All2, AV.rel]⟩) rfl rfl (by simp [tyi115, CV.cells, AV.plain, AV.bare, Value.oneCell']) (by kernel_rfl)
theorem tyok117 : TyOne Tryz.prog 117 tyi117 := ty_one (z := .nilIface) (by kernel_rfl) (by kernel_rfl) (fun r => rfl) rfl rfl (by simp [tyi117, CV.cells, AV.plain, AV.bare, Value.oneCell']) (by kernel_rfl)
theorem tyok118 : TyOne Tryz.prog 118 tyi118 := ty_one (z := .nilIface) (by kernel_rfl) (by kernel_rfl) (fun r => rfl) rfl rfl (by simp [tyi118, CV.cells, AV.plain, AV.bare, Value.oneCell']) (by kernel_rfl)
theorem tyok128 : TyOne Tryz.prog 128 tyi128 := ty_one (z := .pointer none) (by kernel_rfl) (by kernel_rfl) (fun r => rfl) rfl rfl (by simp [tyi128, CV.cells, AV.plain, AV.bare, Value.oneCell']) (by kernel_rfl)
theorem tyok131 : TyOne Tryz.prog 131 tyi131 := ty_one (z := .agg #[.int .u64 0, .int .u64 0, .int .u64 0, .int .u64 0]) (by kernel_rfl) (by kernel_rfl) (fun r => ⟨_, rfl, by simp [All2, AV.rel]⟩) rfl rfl (by simp [tyi131, CV.cells, AV.plain, AV.bare, Value.oneCell']) (by kernel_rfl)
theorem tyok132 : TyOne Tryz.prog 132 tyi132 := ty_one (z := .agg #[.int .u64 0, .int .u64 0, .int .u64 0, .int .u64 0, .int .u64 0, .int .u64 0, .int .u64 0, .int .u64 0, .int .u64 0, .int .u64 0]) (by kernel_rfl) (by kernel_rfl) (fun r => ⟨_, rfl, by simp [All2, AV.rel]⟩) rfl rfl (by simp [tyi132, CV.cells, AV.plain, AV.bare, Value.oneCell']) (by kernel_rfl)
theorem tyok133 : TyOne Tryz.prog 133 tyi133 := ty_one (z := .agg #[.int .u64 0, .int .u64 0, .int .u64 0, .int .u64 0, .int .u64 0, .int .u64 0, .int .u64 0, .int .u64 0, .int .u64 0, .int .u64 0]) (by kernel_rfl) (by kernel_rfl) (fun r => ⟨_, rfl, by simp [All2, AV.rel]⟩) rfl rfl (by simp [tyi133, CV.cells, AV.plain, AV.bare, Value.oneCell']) (by kernel_rfl)
theorem tyok138 : TyOne Tryz.prog 138 tyi138 := ty_one (z := .agg #[.int .u32 0, .int .u32 0, .int .u32 0, .int .u32 0, .int .u32 0, .int .u32 0, .int .u32 0, .int .u32 0, .int .u32 0, .int .u32 0, .int .u32 0, .int .u32 0, .int .u32 0, .int .u32 0, .int .u32 0, .int .u32 0]) (by kernel_rfl) (by kernel_rfl) (fun r => ⟨_, rfl, by simp [All2, AV.rel]⟩) rfl rfl (by simp [tyi138, CV.cells, AV.plain, AV.bare, Value.oneCell']) (by kernel_rfl)
theorem tyok147 : TyOne Tryz.prog 147 tyi147 := ty_one (z := .pointer none) (by kernel_rfl) (by kernel_rfl) (fun r => rfl) rfl rfl (by simp [tyi147, CV.cells, AV.plain, AV.bare, Value.oneCell']) (by kernel_rfl)
theorem tyok155 : TyOne Tryz.prog 155 tyi155 := ty_one (z := .agg #[.int .u64 0, .int .u64 0]) (by kernel_rfl) (by kernel_rfl) (fun r => ⟨_, rfl, by simp [All2, AV.rel]⟩) rfl rfl (by simp [tyi155, CV.cells, AV.plain, AV.bare, Value.oneCell']) (by kernel_rfl)
theorem tyok156 : TyOne Tryz.prog 156 tyi156 := ty_one (z := .agg #[.int .u64 0, .int .u64 0]) (by kernel_rfl) (by kernel_rfl) (fun r => ⟨_, rfl, by simp [All2, AV.rel]⟩) rfl rfl (by simp [tyi156, CV.cells, AV.plain, AV.bare, Value.oneCell']) (by kernel_rfl)
theorem tyok157 : TyOne Tryz.prog 157 tyi157 := ty_one (z := .agg #[.int .u64 0, .int .u64 0, .int .u64 0, .int .u64 0, .int .u64 0, .int .u64 0, .int .u64 0, .int .u64 0, .int .u64 0, .int .u64 0]) (by kernel_rfl) (by kernel_rfl) (fun r => ⟨_, rfl, by simp [All2, AV.rel]⟩) rfl rfl (by simp [tyi157, CV.cells, AV.plain, AV.bare, Value.oneCell']) (by kernel_rfl)
theorem tyok163 : TyOne Tryz.prog 163 tyi163 := ty_one (z := .agg #[.int .u64 0, .int .u64 0, .int .u64 0, .int .u64 0, .int .u64 0]) (by kernel_rfl) (by kernel_rfl) (fun r => ⟨_, rfl, by simp [All2, AV.rel]⟩) rfl rfl (by simp [tyi163, CV.cells, AV.plain, AV.bare, Value.oneCell']) (by kernel_rfl)
theorem tyok170 : TyOne Tryz.prog 170 tyi170 := ty_one (z := .slice none 0 0) (by kernel_rfl) (by kernel_rfl) (fun r => rfl) rfl rfl (by simp [tyi170, CV.cells, AV.plain, AV.bare, Value.oneCell']) (by kernel_rfl)
theorem tyok173 : TyOne Tryz.prog 173 tyi173 := ty_one (z := .agg #[.int .u32 0, .int .u32 0, .int .u32 0, .int .u32 0, .int .u32 0, .int .u32 0, .int .u32 0, .int .u32 0]) (by kernel_rfl) (by kernel_rfl) (fun r => ⟨_, rfl, by simp [All2, AV.rel]⟩) rfl rfl (by simp [tyi173, CV.cells, AV.plain, AV.bare, Value.oneCell']) (by kernel_rfl)
theorem tyok186 : TyOne Tryz.prog 186 tyi186 := ty_one (z := .agg #[.int .i64 0, .int .i64 0, .int .i64 0, .int .i64 0]) (by kernel_rfl) (by kernel_rfl) (fun r => ⟨_, rfl, by simp [All2, AV.rel]⟩) rfl rfl (by simp [tyi186, CV.cells, AV.plain, AV.bare, Value.oneCell']) (by kernel_rfl)
theorem tyok188 : TyOne Tryz.prog 188 tyi188 := ty_one (z := .agg #[.int .u32 0, .int .u32 0, .int .u32 0, .int .u32 0, .int .u32 0, .int .u32 0, .int .u32 0, .int .u32 0, .int .u32 0, .int .u32 0, .int .u32 0, .int .u32 0, .int .u32 0, .int .u32 0, .int .u32 0, .int .u32 0, .int .u32 0, .int .u32 0, .int .u32 0, .int .u32 0, .int .u32 0, .int .u32 0, .int .u32 0, .int .u32 0, .int .u32 0, .int .u32 0, .int .u32 0, .int .u32 0, .int .u32 0, .int .u32 0, .int .u32 0, .int .u32 0, .int .u32 0, .int .u32 0, .int .u32 0, .int .u32 0, .int .u32 0, .int .u32 0, .int .u32 0, .int .u32 0, .int .u32 0, .int .u32 0, .int .u32 0, .int .u32 0, .int .u32 0, .int .u32 0, .int .u32 0, .int .u32 0, .int .u32 0, .int .u32 0, .int .u32 0, .int .u32 0, .int .u32 0, .int .u32 0, .int .u32 0, .int .u32 0, .int .u32 0, .int .u32 0, .int .u32 0, .int .u32 0, .int .u32 0, .int .u32 0, .int .u32 0, .int .u32 0]) (by kernel_rfl) (by kernel_rfl) (fun r => ⟨_, rfl, by simp [All2, AV.rel]⟩) rfl rfl (by simp [tyi188, CV.cells, AV.plain, AV.bare, Value.oneCell']) (by kernel_rfl)
theorem tyok192 : TyOne Tryz.prog 192 tyi192 := ty_one (z := .agg #[.int .u8 0, .int .u8 0]) (by kernel_rfl) (by kernel_rfl) (fun r => ⟨_, rfl, by simp [All2, AV.rel]⟩) rfl rfl (by simp [tyi192, CV.cells, AV.plain, AV.bare, Value.oneCell']) (by kernel_rfl)
theorem tyok193 : TyOne Tryz.prog 193 tyi193 := ty_one (z := .agg #[.int .u8 0, .int .u8 0]) (by kernel_rfl) (by kernel_rfl) (fun r => ⟨_, rfl, by simp [All2, AV.rel]⟩) rfl rfl (by simp [tyi193, CV.cells, AV.plain, AV.bare, Value.oneCell']) (by kernel_rfl)
theorem tyok194 : TyOne Tryz.prog 194 tyi194 := ty_one (z := .agg #[.int .u8 0, .int .u8 0, .int .u8 0, .int .u8 0, .int .u8 0, .int .u8 0, .int .u8 0, .int .u8 0, .int .u8 0, .int .u8 0, .int .u8 0, .int .u8 0, .int .u8 0, .int .u8 0, .int .u8 0, .int .u8 0, .int .u8 0, .int .u8 0, .int .u8 0, .int .u8 0, .int .u8 0, .int .u8 0, .int .u8 0, .int .u8 0, .int .u8 0, .int .u8 0, .int .u8 0, .int .u8 0, .int .u8 0, .int .u8 0, .int .u8 0, .int .u8 0]) (by kernel_rfl) (by kernel_rfl) (fun r => ⟨_, rfl, by simp [All2, AV.rel]⟩) rfl rfl (by simp [tyi194, CV.cells, AV.plain, AV.bare, Value.oneCell']) (by kernel_rfl)
theorem ty_ok : TyOk Tryz.prog ty := fun t i h => by
  unfold ty at h
  split at h
  · injection h with h; subst h; exact tyok2
  · injection h with h; subst h; exact tyok3
  · injection h with h; subst h; exact tyok4
  · injection h with h; subst h; exact tyok5
  · injection h with h; subst h; exact tyok9
  · injection h with h; subst h; exact tyok12
  · injection h with h; subst h; exact tyok20
  · injection h with h; subst h; exact tyok21
  · injection h with h; subst h; exact tyok23
  · injection h with h; subst h; exact tyok32
  · injection h with h; subst h; exact tyok33
  · injection h with h; subst h; exact tyok35
  · injection h with h; subst h; exact tyok36
  · injection h with h; subst h; exact tyok39
  · injection h with h; subst h; exact tyok42
  · injection h with h; subst h; exact tyok46
  · injection h with h; subst h; exact tyok84
  · injection h with h; subst h; exact tyok85
  · injection h with h; subst h; exact tyok87
  · injection h with h; subst h; exact tyok88
  · injection h with h; subst h; exact tyok89
  · injection h with h; subst h; exact tyok90
  · injection h with h; subst h; exact tyok97
  · injection h with h; subst h; exact tyok98
  · injection h with h; subst h; exact tyok113
  · injection h with h; subst h; exact tyok114
  · injection h with h; subst h; exact tyok115
  · injection h with h; subst h; exact tyok117
  · injection h with h; subst h; exact tyok118
  · injection h with h; subst h; exact tyok128
  · injection h with h; subst h; exact tyok131
  · injection h with h; subst h; exact tyok132
  · injection h with h; subst h; exact tyok133
  · injection h with h; subst h; exact tyok138
  · injection h with h; subst h; exact tyok147
  · injection h with h; subst h; exact tyok155
  · injection h with h; subst h; exact tyok156
  · injection h with h; subst h; exact tyok157
  · injection h with h; subst h; exact tyok163
  · injection h with h; subst h; exact tyok170
  · injection h with h; subst h; exact tyok173
  · injection h with h; subst h; exact tyok186
  · injection h with h; subst h; exact tyok188
  · injection h with h; subst h; exact tyok192
  · injection h with h; subst h; exact tyok193
  · injection h with h; subst h; exact tyok194
  · cases h
end Go.Proofs.YtahiopdkekkibaaGreatDoor

