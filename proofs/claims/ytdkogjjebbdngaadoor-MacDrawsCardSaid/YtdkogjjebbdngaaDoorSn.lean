/-
  A walk by reckoning, part 15: each operation's action. It speaks of no program.
-/
import Derived.Test.YtdkogjjebbdngaaDoorSm
namespace Go.Proofs.YtdkogjjebbdngaaDoor
open Go Go.RowKit
set_option linter.unusedVariables false
set_option linter.unusedSimpArgs false

section
variable (T : Nat → Option TyI) (Ga : Nat → Option Con) (sv : Operand → SV)
def actPick (c a b : Operand) : Option Actn :=
  match sv c with
  | .c (.one (.bo x)) => some (pureS (pickS x (sv a) (sv b)) [])
  | _ => none
def boolOp : BinOp → Option Bool
  | .eql => some false
  | .neq => some true
  | _ => none
def actBool (op : BinOp) (t : TypeId) (a b : Bool) : Option Actn :=
  match T t with
  | some ti => match ti.d with
    | .bool => match boolOp op with
      | some neg => some (pureA (.bo (if neg then a != b else a == b)) [])
      | none => none
    | _ => none
  | none => none
def actBin (op : BinOp) (t : TypeId) (x y : Operand) : Option Actn :=
  match sv x with
  | .c (.one a) => match sv y with
    | .c (.one b) => match binAV op a b with
      | some (v, ob) => some (pureA v ob)
      | none => match a with
        | .bo p => match b with
          | .bo q => actBool T op t p q
          | _ => none
        | _ => none
    | _ => none
  | _ => none
def actAggEq (op : BinOp) (t : TypeId) (xs ys : List AV) : Option Actn :=
  match T t with
  | some ti => if ti.eqs.isEmpty = false then if kindsOk ti.eqs xs = true then match eqCells xs ys with
      | some b => match boolOp op with
        | some neg => some (pureA (.bo (if neg then !b else b)) [])
        | none => none
      | none => none else none
    else match ti.d with
    | .array n e => match T e with
      | some ei => match ei.d with
        | .int _ => if ei.size = 1 then if xs.length = n then if numsOk xs = true then match eqCells xs ys with
          | some b => match boolOp op with
            | some neg => some (pureA (.bo (if neg then !b else b)) [])
            | none => none
          | none => none else none else none else none
        | _ => none
      | none => none
    | _ => none
  | none => none
def actIfn (op : BinOp) (t : TypeId) (b : Bool) (y : Operand) : Option Actn :=
  match y with
  | .const .nilIface => match T t with
    | some ti => match ti.d with
      | .interface _ => match boolOp op with
        | some neg => some (pureA (.bo (if neg then b else !b)) [])
        | none => none
      | _ => none
    | none => none
  | _ => none
def actBin2 (op : BinOp) (t : TypeId) (x y : Operand) : Option Actn :=
  match sv x with
  | .c (.one (.ifn b)) => actIfn T op t b y
  | .c (.agg xs) => match sv y with
    | .c (.agg ys) => actAggEq T op t xs ys
    | _ => none
  | _ => actBin T sv op t x y
def actUn (op : UnOp) (x : Operand) : Option Actn :=
  match sv x with
  | .c (.one a) => match unAV op a with
    | some v => some (pureA v [])
    | none => none
  | _ => none
def actConv (s d : TypeId) (x : Operand) : Option Actn :=
  match T s with
  | some si => match T d with
    | some di => match sv x with
      | .c (.one a) => match convAV di.d a with
        | some v => some (pureA v [])
        | none => match di.d with
          | .slice e => match T e with
            | some ei => match ei.d with
              | .int .u8 => match a with
                | .str l => some (bytesA l)
                | _ => none
              | _ => none
            | none => none
          | .string => match si.d with
            | .slice e => match T e with
              | some ei => match ei.d with
                | .int .u8 => match a with
                  | .sl id k st n => if st = 1 then some (strA id k n) else none
                  | .val (.slice none 0 0) => some (pureA (.str []) [])
                  | _ => none
                | _ => none
              | none => none
            | _ => none
          | _ => none
      | _ => none
    | none => none
  | none => none
def actExtract (x : Operand) (i : Nat) : Option Actn :=
  match sv x with
  | .tup xs => match xs[i]? with
    | some c => some (pureS (.c c) [])
    | none => none
  | _ => none
def okRow (i : TyI) : Bool := i.d.isRow || i.size == 1
def actIndex (t : TypeId) (x y : Operand) : Option Actn :=
  match T t with
  | some ti => match sv y with
    | .c (.one b) => match b.toI with
      | some i => match ti.d with
        | .string => match sv x with
          | .c (.one (.str l)) => some (pureA (.u8 (l.getD i.toNat 0)) [0 ≤ i ∧ i < l.length])
          | _ => none
        | .array n e => match T e with
          | some ei => if okRow ei then match sv x with
            | .c (.agg xs) => some (pureS (.c (partS ei xs (i.toNat * ei.size))) [0 ≤ i ∧ i < n ∧ i.toNat * ei.size + ei.size ≤ xs.length])
            | _ => none else none
          | none => none
        | _ => none
      | none => none
    | _ => none
  | none => none
def actField (t : TypeId) (x : Operand) (f : Nat) : Option Actn :=
  match T t with
  | some ti => match ti.d with
    | .struct fs => match fs[f]? with
      | some fd => match T fd.type with
        | some fi => if okRow fi then match sv x with
          | .c (.agg xs) => some (pureS (.c (partS fi xs fd.offset)) [fd.offset + fi.size ≤ xs.length])
          | _ => none else none
        | none => none
      | none => none
    | _ => none
  | none => none
def actSlice (t : TypeId) (x : Operand) (lo hi mx : Option Operand) : Option Actn :=
  match mx with
  | some _ => none
  | none => match T t with
    | some ti => match loOf (lo.map sv) with
      | some a => match ti.d with
        | .string => match sv x with
          | .c (.one (.str l)) => match hiOf l.length (hi.map sv) with
            | some b => some (pureA (.str (cutStr l (lo.map sv) (hi.map sv) a b)) [0 ≤ a ∧ a ≤ b ∧ b ≤ l.length])
            | none => none
          | _ => none
        | .slice e => match T e with
          | some ei => match sv x with
            | .c (.one (.sl id k st n)) => if st = ei.size then match hiOf n (hi.map sv) with
              | some b => some (pureA (.sl id (k + a.toNat) ei.size (b.toNat - a.toNat)) [0 ≤ a ∧ a ≤ b ∧ b ≤ n])
              | none => none else none
            | .c (.one (.val (.slice none 0 0))) => match hiOf 0 (hi.map sv) with
              | some b => some (pureA (.val (.slice none 0 0)) [0 ≤ a ∧ a ≤ b ∧ b ≤ ((0 : Nat) : Int)])
              | none => none
            | _ => none
          | none => none
        | .array n e => match lo, hi with
          | none, none => match T e with
            | some ei => match sv x with
              | .c (.one (.ptr id 0 0 0)) => some (sliceArrA ei n id)
              | _ => none
            | none => none
          | _, _ => none
        | _ => none
      | none => none
    | none => none
def actIndexAddr (t : TypeId) (x y : Operand) : Option Actn :=
  match T t with
  | some ti => match sv y with
    | .c (.one b) => match b.toI with
      | some i => match ti.d with
        | .slice e => match T e with
          | some ei => match sv x with
            | .c (.one (.sl id k st n)) => if st = ei.size then some (pureA (.ptr id (k + i.toNat) ei.size 0) [0 ≤ i ∧ i < n]) else none
            | _ => none
          | none => none
        | .array n e => match T e with
          | some ei => match sv x with
            | .c (.one (.ptr id k st j)) => some (pureA (arrPtr id k st j ei.size i.toNat) [0 ≤ i ∧ i < n])
            | _ => none
          | none => none
        | _ => none
      | none => none
    | _ => none
  | none => none
def actFieldAddr (t : TypeId) (x : Operand) (f : Nat) : Option Actn :=
  match T t with
  | some ti => match ti.d with
    | .struct fs => match fs[f]? with
      | some fd => match T fd.type with
        | some fi => if fi.size = 0 then none else match sv x with
          | .c (.one (.ptr id k st j)) => some (pureA (.ptr id k st (j + fd.offset)) [])
          | _ => none
        | none => none
      | none => none
    | _ => none
  | none => none
def actLoad (t : TypeId) (x : Operand) : Option Actn :=
  match T t with
  | some ti => if okRow ti then match sv x with
    | .c (.one (.ptr id k st j)) => some (loadA ti id k st j)
    | _ => none else none
  | none => none
def actStore (t : TypeId) (x y : Operand) : Option Actn :=
  match T t with
  | some ti => match sv x with
    | .c (.one (.ptr id k st j)) => match sv y with
      | .c c => some (storeA ti id k st j c)
      | _ => none
    | _ => none
  | none => none
def actAlloc (t : TypeId) : Option Actn :=
  match T t with
  | some ti => some (newA (strideOf T ti.d) ti.zero.cells [])
  | none => none
def actBox (t : TypeId) (x : Operand) : Option Actn :=
  match T t with
  | some ti => match sv x with
    | .c c => some (newA (strideOf T ti.d) c.cells [PlainL c.cells])
    | _ => none
  | none => none
def actMake (t : TypeId) (x y : Operand) : Option Actn :=
  match T t with
  | some ti => match ti.d with
    | .slice e => match T e with
      | some ei => if ei.size = 1 then match ei.zero with
        | .one z => match sv x with
          | .c (.one a) => match a.toI with
            | some n => match sv y with
              | .c (.one b) => match b.toI with
                | some c => some (makeA ei z n c)
                | none => none
              | _ => none
            | none => none
          | _ => none
        | _ => none else none
      | none => none
    | _ => none
  | none => none
def actBuild (t : TypeId) (ps : List (Nat × Operand)) : Option Actn :=
  match T t with
  | some ti => buildA T ti (partsOf sv ps)
  | none => none
def actBuildSlice (t : TypeId) (n : Nat) (ps : List (Nat × Operand)) : Option Actn :=
  match T t with
  | some ti => match ti.d with
    | .slice e => match T e with
      | some ei => buildSliceA ei n (partsOf sv ps)
      | none => none
    | _ => none
  | none => none
def actNil (x : Operand) : Option Actn :=
  match sv x with
  | .c (.one (.ptr id k st j)) => some (pureA (.ptr id k st j) [])
  | _ => none
def actLen (t : TypeId) (x : Operand) : Option Actn :=
  match T t with
  | some ti => match ti.d with
    | .array n _ => some (pureA (.num n) [])
    | _ => match sv x with
      | .c (.one a) => match lenAV ti.d a with
        | some n => some (pureA (.num n) [])
        | none => none
      | _ => none
  | none => none
def isStr : SV → Bool
  | .c (.one (.str _)) => true
  | _ => false
def fitsB (y : SV) (d : TypeDesc) : Bool := match d with
  | .string => isStr y
  | .slice _ => !isStr y
  | _ => false
def actAppend (t u : TypeId) (x y : Operand) : Option Actn :=
  match T t with
  | some ti => match ti.d with
    | .slice e => match T e with
      | some ei => match T u with
        | some ui => if fitsB (sv y) ui.d then match srcF ei.size (sv y) with
          | some fy => match sv x with
            | .c (.one (.sl id k st n)) => if k = 0 then if st = ei.size then if fy.contains id then none else some (appA ei (sv y) id n fy) else none else none
            | .c (.one (.val (.slice none 0 0))) => some (appNilA ei (sv y) fy)
            | _ => none
          | none => none else none
        | none => none
      | none => none
    | _ => none
  | none => none
def actCopy (t u : TypeId) (x y : Operand) : Option Actn :=
  match T t with
  | some ti => match ti.d with
    | .slice e => match T e with
      | some ei => match T u with
        | some ui => if fitsB (sv y) ui.d then match srcF ei.size (sv y) with
          | some fy => match sv x with
            | .c (.one (.sl id k st n)) => if st = ei.size then if fy.contains id then none else some (copyA ei (sv y) id k n fy) else none
            | _ => none
          | none => none else none
        | none => none
      | none => none
    | _ => none
  | none => none
def actMM (mx : Bool) (x y : Operand) : Option Actn :=
  match sv x with
  | .c (.one (.num a)) => match sv y with
    | .c (.one (.num b)) => some (pureA (.num (minS mx a b)) [])
    | _ => none
  | _ => none
def argsOf : List SV → Option (List CV)
  | [] => some []
  | .c c :: l => match argsOf l with
    | some m => some (c :: m)
    | none => none
  | _ :: _ => none
def actCall (f : FuncId) (xs : List Operand) : Option Actn :=
  match Ga f with
  | some con => match argsOf (xs.map sv) with
    | some args => some (callA con args (firstIds (args.flatMap CV.ids)))
    | none => none
  | none => none
def two : List Operand → Option (Operand × Operand)
  | [x, y] => some (x, y)
  | _ => none
def one1 : List Operand → Option Operand
  | [x] => some x
  | _ => none
def ty1 : List TypeId → Option TypeId
  | [x] => some x
  | _ => none
def ty2 : List TypeId → Option (TypeId × TypeId)
  | [x, y] => some (x, y)
  | _ => none
def actBuiltin (b : Builtin) (xs : List Operand) (ats : List TypeId) : Option Actn :=
  match b with
  | .len => match one1 xs with
    | some x => match ty1 ats with
      | some t => actLen T sv t x
      | none => none
    | none => none
  | .append => match two xs with
    | some (x, y) => match ty2 ats with
      | some (t, u) => actAppend T sv t u x y
      | none => none
    | none => none
  | .copy => match two xs with
    | some (x, y) => match ty2 ats with
      | some (t, u) => actCopy T sv t u x y
      | none => none
    | none => none
  | .min => match two xs with
    | some (x, y) => actMM sv false x y
    | none => none
  | .max => match two xs with
    | some (x, y) => actMM sv true x y
    | none => none
  | _ => none
/-- WHAT AN OPERATION DOES. -/
def act (op : Op) : Option Actn :=
  match op with
  | .move x => some (pureS (sv x) [])
  | .assign x => some (pureS (sv x) [])
  | .pick c a b => actPick sv c a b
  | .binOp p t x y _ => actBin2 T sv p t x y
  | .unOp p _ x => actUn sv p x
  | .convert s d x => actConv T sv s d x
  | .extract x i => actExtract sv x i
  | .index t x y => actIndex T sv t x y
  | .field t x f => actField T sv t x f
  | .slice t x lo hi mx => actSlice T sv t x lo hi mx
  | .indexAddr t x y => actIndexAddr T sv t x y
  | .fieldAddr t x f => actFieldAddr T sv t x f
  | .load t x => actLoad T sv t x
  | .store t x y => actStore T sv t x y
  | .alloc t => actAlloc T t
  | .box t x => actBox T sv t x
  | .makeSlice t x y => actMake T sv t x y
  | .build t ps => actBuild T sv t ps.toList
  | .buildSlice t n ps => actBuildSlice T sv t n ps.toList
  | .nilCheck x => actNil sv x
  | .call c => match c.callee with
    | .value (.func f) => actCall Ga sv f c.args.toList
    | .builtin b => actBuiltin T sv b c.args.toList c.argTypes.toList
    | _ => none
  | _ => none
end
def GaOkG (P : Program) (G : List GFact) (Ga : Nat → Option Con) : Prop := ∀ f con, Ga f = some con → ConOkG P G f con
abbrev GaOk (P : Program) (Ga : Nat → Option Con) : Prop := GaOkG P [] Ga
section
variable {P : Program} {G : List GFact} {T : Nat → Option TyI} {Ga : Nat → Option Con} {o : Oper} {sv : Operand → SV} {ev : Operand → Value} {r : Lc}
theorem okRow_spec {i : TyI} (h : okRow i = true) : i.d.isRow = false → i.size = 1 := fun h1 => by
  unfold okRow at h
  rw [h1] at h
  simpa using h
theorem fitsB_spec {y : SV} {d : TypeDesc} (h : fitsB y d = true) : (d = .string ∨ ∃ e, d = .slice e) ∧ ((∃ s, y = .c (.one (.str s))) → d = .string) ∧ ((∀ s, y ≠ .c (.one (.str s))) → ∃ e, d = .slice e) := by
  unfold fitsB at h
  split at h
  · refine ⟨.inl rfl, fun _ => rfl, fun hn => ?_⟩
    unfold isStr at h
    split at h
    · exact (hn _ rfl).elim
    · cases h
  · refine ⟨.inr ⟨_, rfl⟩, fun ⟨s, hs⟩ => ?_, fun _ => ⟨_, rfl⟩⟩
    subst hs
    simp [isStr] at h
  · cases h
theorem argsOf_spec : ∀ {l : List SV} {args : List CV}, argsOf l = some args → l = args.map .c
  | [], args, h => by simp only [argsOf, Option.some.injEq] at h; subst h; rfl
  | .tup _ :: l, args, h => by simp [argsOf] at h
  | .c c :: l, args, h => by
    simp only [argsOf] at h
    cases hm : argsOf l with
    | none => rw [hm] at h; cases h
    | some m =>
      simp only [hm, Option.some.injEq] at h
      subst h
      rw [argsOf_spec hm]; rfl
theorem firstIds_spec (l : List Nat) : (firstIds l).Nodup ∧ ∀ i ∈ l, i ∈ firstIds l := by
  unfold firstIds
  have key : ∀ (l acc : List Nat), acc.Nodup → (l.foldl (fun acc i => if acc.contains i then acc else acc ++ [i]) acc).Nodup ∧ (∀ i ∈ acc, i ∈ l.foldl (fun acc i => if acc.contains i then acc else acc ++ [i]) acc) ∧ ∀ i ∈ l, i ∈ l.foldl (fun acc i => if acc.contains i then acc else acc ++ [i]) acc := fun l => by
    induction l with
    | nil => intro acc h; exact ⟨h, fun i hi => hi, fun i hi => by cases hi⟩
    | cons a l ih =>
      intro acc h
      rw [List.foldl_cons]
      by_cases ha : acc.contains a = true
      · rw [if_pos ha]
        obtain ⟨h1, h2, h3⟩ := ih acc h
        refine ⟨h1, h2, fun i hi => ?_⟩
        rcases List.mem_cons.1 hi with rfl | hi
        · exact h2 _ (by simpa using ha)
        · exact h3 i hi
      · rw [if_neg ha]
        have hna : a ∉ acc := by simpa using ha
        obtain ⟨h1, h2, h3⟩ := ih (acc ++ [a]) (by
          rw [List.nodup_append]
          refine ⟨h, by simp, fun x hx y hy => ?_⟩
          simp at hy; subst hy
          exact fun e => hna (e ▸ hx))
        refine ⟨h1, fun i hi => h2 i (by simp [hi]), fun i hi => ?_⟩
        rcases List.mem_cons.1 hi with rfl | hi
        · exact h2 _ (by simp)
        · exact h3 i hi
  obtain ⟨h1, _, h3⟩ := key l [] (by simp)
  exact ⟨h1, h3⟩
theorem act_ok (hT : TyOk P T) (hG : GaOkG P G Ga) (he : EvOk r sv ev) (hfv : ∀ f, ev (.func f) = .func (.func f) #[] #[]) (hnil : ev (.const .nilIface) = .nilIface) {A : Actn} (h : act T Ga sv o.op = some A) : ActOk P G o ev r A := by
  unfold act at h
  split at h
  case h_1 => rename_i x ho; injection h with h; subst h; exact actOk_move he (.inl ho)
  case h_2 => rename_i x ho; injection h with h; subst h; exact actOk_move he (.inr ho)
  case h_3 =>
    rename_i c a b ho
    unfold actPick at h
    split at h
    · rename_i x hx; injection h with h; subst h; exact actOk_pick he ho hx
    · cases h
  case h_4 =>
    rename_i p t x y yt ho
    unfold actBin2 at h
    split at h
    case h_1 =>
      rename_i b hx
      unfold actIfn at h
      split at h
      case h_2 => cases h
      split at h
      case h_2 => cases h
      rename_i ti ht
      split at h
      case h_2 => cases h
      rename_i ms hd
      split at h
      case h_2 => cases h
      rename_i neg hn
      injection h with h; subst h
      refine actOk_ifn hT he (neg := neg) (t := t) (yt := yt) (x := x) ?_ hnil ht hd hx
      rw [ho]
      unfold boolOp at hn
      split at hn <;> simp at hn <;> subst hn <;> rfl
    case h_2 =>
      rename_i xs hx
      split at h
      case h_2 => cases h
      rename_i ys hy
      unfold actAggEq at h
      split at h
      case h_2 => cases h
      rename_i ti ht
      split at h
      case isTrue =>
        rename_i hs
        split at h
        case isFalse => cases h
        rename_i hl
        split at h
        case h_2 => cases h
        rename_i b heq
        split at h
        case h_2 => cases h
        rename_i neg hn
        injection h with h; subst h
        refine actOk_aggEqS hT he (neg := neg) (t := t) (yt := yt) (x := x) (y := y) ?_ ht hs hl heq hx hy
        rw [ho]
        unfold boolOp at hn
        split at hn <;> simp at hn <;> subst hn <;> rfl
      split at h
      case h_2 => cases h
      rename_i n e hd
      split at h
      case h_2 => cases h
      rename_i ei hE
      split at h
      case h_2 => cases h
      rename_i kk hed
      split at h
      case isFalse => cases h
      rename_i hsz
      split at h
      case isFalse => cases h
      rename_i hl
      split at h
      case isFalse => cases h
      rename_i hnm
      split at h
      case h_2 => cases h
      rename_i b heq
      split at h
      case h_2 => cases h
      rename_i neg hn
      injection h with h; subst h
      refine actOk_aggEq hT he (neg := neg) (t := t) (yt := yt) (x := x) (y := y) ?_ ht hd hE hed hsz hl hnm heq hx hy
      rw [ho]
      unfold boolOp at hn
      split at hn <;> simp at hn <;> subst hn <;> rfl
    unfold actBin at h
    split at h
    · rename_i a hx
      split at h
      · rename_i b hy
        split at h
        · rename_i v ob hb; injection h with h; subst h; exact actOk_bin he ho hx hy hb
        · split at h
          · split at h
            · rename_i q
              unfold actBool at h
              split at h
              · rename_i ti ht
                split at h
                · rename_i hd
                  split at h
                  · rename_i neg hn
                    injection h with h; subst h
                    refine actOk_boolEq hT he (neg := neg) (t := t) (yt := yt) (x := x) (y := y) ?_ ht hd hx hy
                    rw [ho]
                    unfold boolOp at hn
                    split at hn <;> simp at hn <;> subst hn <;> rfl
                  · cases h
                · cases h
              · cases h
            · cases h
          · cases h
      · cases h
    · cases h
  case h_5 =>
    rename_i p t x ho
    unfold actUn at h
    split at h
    · rename_i a hx
      split at h
      · rename_i v hv; injection h with h; subst h; exact actOk_un he ho hx hv
      · cases h
    · cases h
  case h_6 =>
    rename_i s d x ho
    unfold actConv at h
    split at h
    · rename_i si hs
      split at h
      · rename_i di hd
        split at h
        · rename_i a hx
          split at h
          · rename_i v hv
            injection h with h; subst h
            refine actOk_pure fun _ w => ?_
            have h1 := he x
            rw [hx] at h1
            obtain ⟨u, hu, hr⟩ := convAV_run (P := P) hv h1 (hT s si hs).1 (hT d di hd).1 w
            exact ⟨u, by unfold execOp; rw [ho]; simp only [Sem.run_bind, hu, Result.andThen_ok, Sem.run_pure], hr⟩
          · split at h
            · rename_i e hde
              split at h
              · rename_i ei hE
                split at h
                · rename_i he8
                  split at h
                  · injection h with h; subst h; exact actOk_bytes hT he ho hs hd hde hE he8 hx
                  · cases h
                · cases h
              · cases h
            · rename_i hds
              split at h
              · rename_i e hse
                split at h
                · rename_i ei hE
                  split at h
                  · rename_i he8
                    split at h
                    · split at h
                      · rename_i hst
                        injection h with h; subst h; subst hst
                        exact actOk_str hT he ho hs hd hse hds hE he8 hx
                      · cases h
                    · injection h with h; subst h
                      exact actOk_strNil hT he ho hs hd hse hds hE he8 hx
                    · cases h
                  · cases h
                · cases h
              · cases h
            · cases h
        · cases h
      · cases h
    · cases h
  case h_7 =>
    rename_i x i ho
    unfold actExtract at h
    split at h
    · rename_i xs hx
      split at h
      · rename_i c hc; injection h with h; subst h; exact actOk_extract he ho hx hc
      · cases h
    · cases h
  case h_8 =>
    rename_i t x y ho
    unfold actIndex at h
    split at h
    · rename_i ti ht
      split at h
      · rename_i b hy
        split at h
        · rename_i i hi
          split at h
          · rename_i hd
            split at h
            · rename_i l hx; injection h with h; subst h; exact actOk_index hT he ho ht hd hx hy hi
            · cases h
          · rename_i n e hd
            split at h
            · rename_i ei hE
              split at h
              · rename_i hok
                split at h
                · rename_i xs hx; injection h with h; subst h; exact actOk_indexArr hT he ho ht hd hE (okRow_spec hok) hx hy hi
                · cases h
              · cases h
            · cases h
          · cases h
        · cases h
      · cases h
    · cases h
  case h_9 =>
    rename_i t x f ho
    unfold actField at h
    split at h
    · rename_i ti ht
      split at h
      · rename_i fs hd
        split at h
        · rename_i fd hf
          split at h
          · rename_i fi hE
            split at h
            · rename_i hok
              split at h
              · rename_i xs hx; injection h with h; subst h; exact actOk_field hT he ho ht hd hf hE (okRow_spec hok) hx
              · cases h
            · cases h
          · cases h
        · cases h
      · cases h
    · cases h
  case h_10 =>
    rename_i t x lo hi mx ho
    unfold actSlice at h
    split at h
    · cases h
    · split at h
      · rename_i ti ht
        split at h
        · rename_i a ha
          split at h
          · rename_i hd
            split at h
            · rename_i l hx
              split at h
              · rename_i b hb; injection h with h; subst h; exact actOk_sliceStr hT he ho ht hd hx ha hb
              · cases h
            · cases h
          · rename_i e hd
            split at h
            · rename_i ei hE
              split at h
              · rename_i id k st n hx
                split at h
                · rename_i hst
                  subst hst
                  split at h
                  · rename_i b hb; injection h with h; subst h; exact actOk_sliceSl hT he ho ht hd hE hx ha hb
                  · cases h
                · cases h
              · rename_i hx
                split at h
                · rename_i b hb; injection h with h; subst h; exact actOk_sliceNil hT he ho ht hd hE hx ha hb
                · cases h
              · cases h
            · cases h
          · rename_i n e hd
            split at h
            · split at h
              · rename_i ei hE
                split at h
                · rename_i id hx; injection h with h; subst h; exact actOk_sliceArr hT he ho ht hd hE hx
                · cases h
              · cases h
            · cases h
          · cases h
        · cases h
      · cases h
  case h_11 =>
    rename_i t x y ho
    unfold actIndexAddr at h
    split at h
    · rename_i ti ht
      split at h
      · rename_i b hy
        split at h
        · rename_i i hi
          split at h
          · rename_i e hd
            split at h
            · rename_i ei hE
              split at h
              · rename_i id k st n hx
                split at h
                · rename_i hst
                  subst hst
                  injection h with h; subst h; exact actOk_indexAddr hT he ho ht hd hE hx hy hi
                · cases h
              · cases h
            · cases h
          · rename_i n e hd
            split at h
            · rename_i ei hE
              split at h
              · rename_i id k st j hx
                injection h with h; subst h; exact actOk_indexAddrArr hT he ho ht hd hE hx hy hi
              · cases h
            · cases h
          · cases h
        · cases h
      · cases h
    · cases h
  case h_12 =>
    rename_i t x f ho
    unfold actFieldAddr at h
    split at h
    · rename_i ti ht
      split at h
      · rename_i fs hd
        split at h
        · rename_i fd hf
          split at h
          · rename_i fi hE
            split at h
            · cases h
            · rename_i hz
              split at h
              · rename_i id k st j hx; injection h with h; subst h; exact actOk_fieldAddr hT he ho ht hd hf hE hz hx
              · cases h
          · cases h
        · cases h
      · cases h
    · cases h
  case h_13 =>
    rename_i t x ho
    unfold actLoad at h
    split at h
    · rename_i ti ht
      split at h
      · rename_i hok
        split at h
        · rename_i id k st j hx; injection h with h; subst h; exact actOk_load hT he ho ht (okRow_spec hok) hx
        · cases h
      · cases h
    · cases h
  case h_14 =>
    rename_i t x y ho
    unfold actStore at h
    split at h
    · rename_i ti ht
      split at h
      · rename_i id k st j hx
        split at h
        · rename_i c hy; injection h with h; subst h; exact actOk_store hT he ho ht hx hy
        · cases h
      · cases h
    · cases h
  case h_15 =>
    rename_i t ho
    unfold actAlloc at h
    split at h
    · rename_i ti ht; injection h with h; subst h; exact actOk_alloc hT ho ht
    · cases h
  case h_16 =>
    rename_i t x ho
    unfold actBox at h
    split at h
    · rename_i ti ht
      split at h
      · rename_i c hx; injection h with h; subst h; exact actOk_box he ho hx _
      · cases h
    · cases h
  case h_17 =>
    rename_i t x y ho
    unfold actMake at h
    split at h
    · rename_i ti ht
      split at h
      · rename_i e hd
        split at h
        · rename_i ei hE
          split at h
          · rename_i hs
            split at h
            · rename_i z hz
              split at h
              · rename_i a hx
                split at h
                · rename_i n hn
                  split at h
                  · rename_i b hy
                    split at h
                    · rename_i c hc; injection h with h; subst h; exact actOk_make hT he ho ht hd hE hs hz hx hy hn hc
                    · cases h
                  · cases h
                · cases h
              · cases h
            · cases h
          · cases h
        · cases h
      · cases h
    · cases h
  case h_18 =>
    rename_i t ps ho
    unfold actBuild at h
    split at h
    · rename_i ti ht; exact actOk_build hT he (ps := ps.toList) (by simpa using ho) ht h
    · cases h
  case h_19 =>
    rename_i t n ps ho
    unfold actBuildSlice at h
    split at h
    · rename_i ti ht
      split at h
      · rename_i e hd
        split at h
        · rename_i ei hE; exact actOk_buildSlice hT he (ps := ps.toList) (by simpa using ho) ht hd hE h
        · cases h
      · cases h
    · cases h
  case h_20 =>
    rename_i x ho
    unfold actNil at h
    split at h
    · rename_i hx; injection h with h; subst h; exact actOk_nil he ho hx
    · cases h
  case h_21 =>
    rename_i c ho
    obtain ⟨callee, args, ats⟩ := c
    simp only at h
    split at h
    · rename_i f
      unfold actCall at h
      split at h
      · rename_i con hcon
        split at h
        · rename_i as has
          injection h with h; subst h
          obtain ⟨h1, h2⟩ := firstIds_spec (as.flatMap CV.ids)
          exact actOk_call (hG f con hcon) he (xs := args.toList) (by simpa using ho) (argsOf_spec has) h1 (fun c hc id hid => h2 id (List.mem_flatMap.2 ⟨c, hc, hid⟩)) (hfv f)
        · cases h
      · cases h
    · rename_i b
      have two_spec : ∀ {x y : Operand}, two args.toList = some (x, y) → args = #[x, y] := fun {x y} h => by
        unfold two at h
        split at h
        · rename_i heq; injection h with h; injection h with h1 h2; subst h1; subst h2; apply Array.ext'; simpa using heq
        · cases h
      have one_spec : ∀ {x : Operand}, one1 args.toList = some x → args = #[x] := fun {x} h => by
        unfold one1 at h
        split at h
        · rename_i heq; injection h with h; subst h; apply Array.ext'; simpa using heq
        · cases h
      have t1_spec : ∀ {x : TypeId}, ty1 ats.toList = some x → ats = #[x] := fun {x} h => by
        unfold ty1 at h
        split at h
        · rename_i heq; injection h with h; subst h; apply Array.ext'; simpa using heq
        · cases h
      have t2_spec : ∀ {x y : TypeId}, ty2 ats.toList = some (x, y) → ats = #[x, y] := fun {x y} h => by
        unfold ty2 at h
        split at h
        · rename_i heq; injection h with h; injection h with h1 h2; subst h1; subst h2; apply Array.ext'; simpa using heq
        · cases h
      unfold actBuiltin at h
      split at h
      · split at h
        · rename_i x hx
          split at h
          · rename_i t ht'
            have e1 := one_spec hx
            have e2 := t1_spec ht'
            subst e1; subst e2
            unfold actLen at h
            split at h
            · rename_i ti ht
              split at h
              · rename_i n e hd; injection h with h; subst h; exact actOk_lenArr hT ho ht hd
              · split at h
                · rename_i a ha
                  split at h
                  · rename_i n hn; injection h with h; subst h; exact actOk_len hT he ho ht ha hn
                  · cases h
                · cases h
            · cases h
          · cases h
        · cases h
      · split at h
        · rename_i x y hxy
          split at h
          · rename_i t u htu
            have e1 := two_spec hxy
            have e2 := t2_spec htu
            subst e1; subst e2
            unfold actAppend at h
            split at h
            · rename_i ti ht
              split at h
              · rename_i e hd
                split at h
                · rename_i ei hE
                  split at h
                  · rename_i ui hu
                    split at h
                    · rename_i hfit
                      obtain ⟨f1, f2, f3⟩ := fitsB_spec hfit
                      split at h
                      · rename_i fy hfy
                        split at h
                        · rename_i id k st n hx
                          split at h
                          · rename_i hk
                            split at h
                            · rename_i hst
                              split at h
                              · cases h
                              · injection h with h; subst h; subst hk; subst hst
                                exact actOk_append hT he ho ht hd hE hu f1 f2 f3 hx hfy
                            · cases h
                          · cases h
                        · rename_i hx; injection h with h; subst h; exact actOk_appNil hT he ho ht hd hE hu f1 f2 f3 hx hfy
                        · cases h
                      · cases h
                    · cases h
                  · cases h
                · cases h
              · cases h
            · cases h
          · cases h
        · cases h
      · split at h
        · rename_i x y hxy
          split at h
          · rename_i t u htu
            have e1 := two_spec hxy
            have e2 := t2_spec htu
            subst e1; subst e2
            unfold actCopy at h
            split at h
            · rename_i ti ht
              split at h
              · rename_i e hd
                split at h
                · rename_i ei hE
                  split at h
                  · rename_i ui hu
                    split at h
                    · rename_i hfit
                      obtain ⟨f1, f2, f3⟩ := fitsB_spec hfit
                      split at h
                      · rename_i fy hfy
                        split at h
                        · rename_i id k st n hx
                          split at h
                          · rename_i hst
                            split at h
                            · cases h
                            · injection h with h; subst h; subst hst
                              exact actOk_copy hT he ho ht hd hE hu f1 f2 f3 hx hfy
                          · cases h
                        · cases h
                      · cases h
                    · cases h
                  · cases h
                · cases h
              · cases h
            · cases h
          · cases h
        · cases h
      · split at h
        · rename_i x y hxy
          have e1 := two_spec hxy
          subst e1
          unfold actMM at h
          split at h
          · rename_i a ha
            split at h
            · rename_i b hb; injection h with h; subst h; exact actOk_minmax he (mx := false) ho ha hb
            · cases h
          · cases h
        · cases h
      · split at h
        · rename_i x y hxy
          have e1 := two_spec hxy
          subst e1
          unfold actMM at h
          split at h
          · rename_i a ha
            split at h
            · rename_i b hb; injection h with h; subst h; exact actOk_minmax he (mx := true) ho ha hb
            · cases h
          · cases h
        · cases h
      · cases h
    · cases h
  case h_22 => cases h
end
end Go.Proofs.YtdkogjjebbdngaaDoor
