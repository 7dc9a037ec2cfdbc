/-
  A walk by reckoning, part 17: two operations that do not meet may change places. It speaks of no program.
-/
import Derived.Test.YtdkogjjebbdngaaDoorSo
namespace Go.Proofs.YtdkogjjebbdngaaDoor
open Go Go.RowKit
set_option linter.unusedVariables false
set_option linter.unusedSimpArgs false

/-- Entries laid one behind the other. -/
def asetL (hp : List (Nat × Ent)) : List (Nat × Ent) → List (Nat × Ent)
  | [] => hp
  | (k, e) :: l => asetL (aset hp k e) l
theorem asetL_other : ∀ (l hp : List (Nat × Ent)) (k : Nat), (∀ p ∈ l, p.1 ≠ k) → aget (asetL hp l) k = aget hp k
  | [], _, _, _ => rfl
  | (i, e) :: l, hp, k, h => by
    rw [asetL, asetL_other l _ k fun p hp' => h p (by simp [hp']), aget_other _ _ (h (i, e) (by simp))]
theorem asetL_none : ∀ (l hp : List (Nat × Ent)) (k : Nat), aget (asetL hp l) k = none → aget hp k = none
  | [], _, _, h => h
  | (i, e) :: l, hp, k, h => by
    have := asetL_none l _ k h
    rw [aget_aset] at this
    split at this
    · cases this
    · exact this
theorem asetL_aset : ∀ (l hp : List (Nat × Ent)) (k : Nat) (e : Ent), (∀ p ∈ l, p.1 ≠ k) → asetL (aset hp k e) l = aset (asetL hp l) k e
  | [], _, _, _, _ => rfl
  | (i, x) :: l, hp, k, e, h => by
    rw [asetL, asetL, aset_comm hp e x (Ne.symm (h (i, x) (by simp))), asetL_aset l _ k e fun p hp' => h p (by simp [hp'])]
theorem asetL_comm : ∀ (l m hp : List (Nat × Ent)), (∀ p ∈ l, ∀ q ∈ m, p.1 ≠ q.1) → asetL (asetL hp l) m = asetL (asetL hp m) l
  | [], _, _, _ => rfl
  | (i, e) :: l, m, hp, h => by
    rw [asetL, asetL_comm l m _ fun p hp' => h p (by simp [hp']), asetL, asetL_aset m hp i e fun q hq => Ne.symm (h (i, e) (by simp) q hq)]
def effU : List Nat → List SObj → List (Nat × Ent)
  | id :: ids, o :: os => (id, ⟨o, true⟩) :: effU ids os
  | _, _ => []
def effN (fresh : Nat → Nat) : Nat → List SObj → List (Nat × Ent)
  | m, o :: os => (fresh m, ⟨o, true⟩) :: effN fresh (m + 1) os
  | _, [] => []
theorem setAllH_eff : ∀ (F : List Nat) (u : List SObj) (hp : List (Nat × Ent)), setAllH hp F u = asetL hp (effU F u)
  | [], [], _ => rfl
  | [], _ :: _, _ => rfl
  | _ :: _, [], _ => rfl
  | i :: F, o :: u, hp => by rw [setAllH, effU, asetL, setAllH_eff F u]
theorem newAll_eff (fresh : Nat → Nat) : ∀ (n : List SObj) (m : Nat) (hp : List (Nat × Ent)), newAll fresh hp m n = asetL hp (effN fresh m n)
  | [], _, _ => rfl
  | o :: n, m, hp => by rw [newAll, effN, asetL, newAll_eff fresh n]
theorem effU_mem : ∀ {F : List Nat} {u : List SObj} {p : Nat × Ent}, p ∈ effU F u → p.1 ∈ F ∧ u ≠ []
  | [], [], _, h => by simp [effU] at h
  | [], _ :: _, _, h => by simp [effU] at h
  | _ :: _, [], _, h => by simp [effU] at h
  | i :: F, o :: u, p, h => by
    rcases List.mem_cons.1 h with rfl | h
    · simp
    · exact ⟨List.mem_cons_of_mem _ (effU_mem h).1, by simp⟩
theorem effN_mem {fresh : Nat → Nat} : ∀ {n : List SObj} {m : Nat} {p : Nat × Ent}, p ∈ effN fresh m n → ∃ k, m ≤ k ∧ k < m + n.length ∧ p.1 = fresh k
  | [], m, _, h => by simp [effN] at h
  | o :: n, m, p, h => by
    rcases List.mem_cons.1 h with rfl | h
    · exact ⟨m, Nat.le_refl _, by simp, rfl⟩
    · obtain ⟨k, h1, h2, h3⟩ := effN_mem h
      exact ⟨k, by omega, by simp only [List.length_cons]; omega, h3⟩
theorem evalS_congr {gl : List Nat} {fr fr' : List (Nat × SV)} {x : Operand} (h : ∀ t, x = .tmp t → aget fr t = aget fr' t) : evalS gl fr x = evalS gl fr' x := by
  cases x with
  | tmp t => simp only [evalS, h t rfl]
  | _ => rfl
theorem map_congr_sv {sv sv' : Operand → SV} {l : Option Operand} (h : ∀ x, l = some x → sv x = sv' x) : l.map sv = l.map sv' := by
  cases l with
  | none => rfl
  | some x => simp [h x rfl]
theorem act_congr {T : Nat → Option TyI} {Ga : Nat → Option Con} {sv sv' : Operand → SV} (op : Op) (h : ∀ x ∈ op.operands, sv x = sv' x) : act T Ga sv op = act T Ga sv' op := by
  have two_mem : ∀ {l : List Operand} {x y : Operand}, two l = some (x, y) → x ∈ l ∧ y ∈ l := fun {l x y} h => by
    unfold two at h
    split at h
    · injection h with h; injection h with h1 h2; subst h1; subst h2; simp
    · cases h
  have one_mem : ∀ {l : List Operand} {x : Operand}, one1 l = some x → x ∈ l := fun {l x} h => by
    unfold one1 at h
    split at h
    · injection h with h; subst h; simp
    · cases h
  cases op <;> simp only [act]
  case move x => rw [h x (by simp [Op.operands])]
  case assign x => rw [h x (by simp [Op.operands])]
  case pick c a b => simp only [actPick, h c (by simp [Op.operands]), h a (by simp [Op.operands]), h b (by simp [Op.operands])]
  case binOp p t x y yt => simp only [actBin2, actBin, h x (by simp [Op.operands]), h y (by simp [Op.operands])]
  case unOp p t x => simp only [actUn, h x (by simp [Op.operands])]
  case convert s d x => simp only [actConv, h x (by simp [Op.operands])]
  case extract x i => simp only [actExtract, h x (by simp [Op.operands])]
  case index t x y => simp only [actIndex, h x (by simp [Op.operands]), h y (by simp [Op.operands])]
  case field t x f => simp only [actField, h x (by simp [Op.operands])]
  case slice t x lo hi mx =>
    have h1 : lo.map sv = lo.map sv' := map_congr_sv fun y hy => h y (by subst hy; simp [Op.operands])
    have h2 : hi.map sv = hi.map sv' := map_congr_sv fun y hy => h y (by subst hy; simp [Op.operands])
    simp only [actSlice, h x (by simp [Op.operands]), h1, h2]
  case indexAddr t x y => simp only [actIndexAddr, h x (by simp [Op.operands]), h y (by simp [Op.operands])]
  case fieldAddr t x f => simp only [actFieldAddr, h x (by simp [Op.operands])]
  case load t x => simp only [actLoad, h x (by simp [Op.operands])]
  case store t x y => simp only [actStore, h x (by simp [Op.operands]), h y (by simp [Op.operands])]
  case box t x => simp only [actBox, h x (by simp [Op.operands])]
  case makeSlice t x y => simp only [actMake, h x (by simp [Op.operands]), h y (by simp [Op.operands])]
  case build t ps =>
    have : partsOf sv ps.toList = partsOf sv' ps.toList := List.map_congr_left fun p hp => by rw [h p.2 (by simp only [Op.operands, List.mem_toArray, List.mem_map]; exact ⟨p, hp, rfl⟩)]
    simp only [actBuild, this]
  case buildSlice t n ps =>
    have : partsOf sv ps.toList = partsOf sv' ps.toList := List.map_congr_left fun p hp => by rw [h p.2 (by simp only [Op.operands, List.mem_toArray, List.mem_map]; exact ⟨p, hp, rfl⟩)]
    simp only [actBuildSlice, this]
  case nilCheck x => simp only [actNil, h x (by simp [Op.operands])]
  case call c =>
    obtain ⟨callee, args, ats⟩ := c
    have hargs : ∀ x ∈ args.toList, sv x = sv' x := fun x hx => h x (by simp only [Op.operands, Call.operands, Array.mem_append]; exact .inr (Array.mem_toList_iff.1 hx))
    cases callee with
    | value f =>
      cases f with
      | func f =>
        have : args.toList.map sv = args.toList.map sv' := List.map_congr_left hargs
        simp only [actCall, this]
      | _ => rfl
    | invoke _ _ => rfl
    | builtin b =>
      simp only [actBuiltin]
      cases b <;> try rfl
      case append =>
        simp only
        cases hq : two args.toList with
        | none => rfl
        | some q =>
          obtain ⟨x, y⟩ := q
          obtain ⟨h1, h2⟩ := two_mem hq
          simp only [actAppend, hargs x h1, hargs y h2]
      case copy =>
        simp only
        cases hq : two args.toList with
        | none => rfl
        | some q =>
          obtain ⟨x, y⟩ := q
          obtain ⟨h1, h2⟩ := two_mem hq
          simp only [actCopy, hargs x h1, hargs y h2]
      case len =>
        simp only
        cases hq : one1 args.toList with
        | none => rfl
        | some x => simp only [actLen, hargs x (one_mem hq)]
      case max =>
        simp only
        cases hq : two args.toList with
        | none => rfl
        | some q =>
          obtain ⟨x, y⟩ := q
          obtain ⟨h1, h2⟩ := two_mem hq
          simp only [actMM, hargs x h1, hargs y h2]
      case min =>
        simp only
        cases hq : two args.toList with
        | none => rfl
        | some q =>
          obtain ⟨x, y⟩ := q
          obtain ⟨h1, h2⟩ := two_mem hq
          simp only [actMM, hargs x h1, hargs y h2]
theorem getAll_congr {hp hp' : List (Nat × Ent)} : ∀ {F : List Nat}, (∀ id ∈ F, aget hp id = aget hp' id) → getAll hp F = getAll hp' F
  | [], _ => rfl
  | i :: F, h => by
    simp only [getAll]
    rw [h i (by simp), getAll_congr fun id hid => h id (by simp [hid])]
/-- What an operation's outcome rests on, in the parts. -/
theorem stepO_parts {E : Env} {wa : List (Nat × Bool)} {ops : Array Oper} {c i : Nat} {o : Oper} {st : St} {q : Out} (h : stepO E wa ops c i o st = some q) :
    ∃ (v : SV) (U : List SObj) (N : List SObj), q.st.fr = putS st.fr o.dst v ∧ q.st.hp = asetL st.hp (effU q.foot U ++ effN (fun m => c + 8 * i + m) 0 N) ∧ (q.wr = true ∨ U = []) ∧ N.length ≤ 8 ∧ (∀ m, m < N.length → aget st.hp (c + 8 * i + m) = none) ∧
    ∀ st' : St, wantS wa ops o.guard i st'.fr = wantS wa ops o.guard i st.fr → (∀ x ∈ o.op.operands, evalS E.gl st'.fr x = evalS E.gl st.fr x) → (∀ id ∈ q.foot, aget st'.hp id = aget st.hp id) → (∀ m, m < N.length → aget st'.hp (c + 8 * i + m) = none) →
      stepO E wa ops c i o st' = some ⟨⟨putS st'.fr o.dst v, asetL st'.hp (effU q.foot U ++ effN (fun m => c + 8 * i + m) 0 N)⟩, q.ob, q.foot, q.wr⟩ := by
  have app : ∀ (l m hp : List (Nat × Ent)), asetL (asetL hp l) m = asetL hp (l ++ m) := fun l => by
    induction l with
    | nil => intro m hp; rfl
    | cons p l ih => intro m hp; obtain ⟨k, e⟩ := p; rw [List.cons_append, asetL, asetL, ih]
  unfold stepO at h
  by_cases hd : dstOk E.nt o.dst = true
  case neg => rw [if_neg hd] at h; cases h
  rw [if_pos hd] at h
  split at h
  · cases h
  · rename_i ob hw
    injection h with h
    subst h
    refine ⟨_, [], [], rfl, rfl, .inr rfl, by simp, fun m hm => by simp at hm, fun st' h1 h2 h3 h4 => ?_⟩
    unfold stepO
    rw [if_pos hd, h1, hw]
    rfl
  · rename_i ob hw
    split at h
    · cases h
    · rename_i A hA
      split at h
      · cases h
      · rename_i es hes
        split at h
        · cases h
        · rename_i R hR
          split at h
          case isFalse => cases h
          rename_i hcond
          injection h with h
          subst h
          have hcond' := hcond
          simp only [Bool.and_eq_true, Bool.or_eq_true] at hcond
          obtain ⟨⟨hn8, hfr⟩, hwr⟩ := hcond
          refine ⟨R.v, R.upd, R.news, rfl, by rw [← app, ← setAllH_eff, ← newAll_eff], ?_, by simpa using hn8, freshAll_spec hfr, fun st' h1 h2 h3 h4 => ?_⟩
          · rcases hwr with hwr | hwr
            · exact .inl hwr
            · exact .inr (by simpa using hwr)
          · unfold stepO
            rw [if_pos hd, h1, hw]
            simp only
            rw [act_congr o.op h2, hA]
            simp only
            rw [getAll_congr h3, hes]
            simp only
            rw [hR]
            simp only
            have : (Nat.ble R.news.length 8 && freshAll st'.hp (c + 8 * i) R.news.length && (A.wr || R.upd.isEmpty)) = true := by
              simp only [Bool.and_eq_true, Bool.or_eq_true]
              exact ⟨⟨hn8, freshAll_of h4⟩, hwr⟩
            rw [if_pos this, ← app, ← setAllH_eff, ← newAll_eff]
/-- Two operations do not meet. -/
def notIn (b id : Nat) : Bool := Nat.ble (id + 1) b || Nat.ble (b + 8) id
theorem notIn_spec {b id : Nat} (h : notIn b id = true) : ∀ m, m < 8 → id ≠ b + m := fun m hm e => by
  subst e
  simp only [notIn, Bool.or_eq_true, Nat.ble_eq] at h
  omega
def disj (c i j : Nat) (F G : List Nat) (wr : Bool) : Bool :=
  (!wr || F.all fun id => !G.contains id) && (F.all fun id => notIn (c + 8 * j) id) && (G.all fun id => notIn (c + 8 * i) id)
theorem putS_comm (fr : List (Nat × SV)) {d e : Option Tmp} (x y : SV) (h : ∀ t, d = some t → e ≠ some t) : putS (putS fr d x) e y = putS (putS fr e y) d x := by
  cases d with
  | none => cases e <;> rfl
  | some d =>
    cases e with
    | none => rfl
    | some e => exact aset_comm fr x y fun heq => h d rfl (by rw [heq])
theorem putS_other {fr : List (Nat × SV)} {d : Option Tmp} {x : SV} {t : Nat} (h : d ≠ some t) : aget (putS fr d x) t = aget fr t := by
  cases d with
  | none => rfl
  | some d => exact aget_other _ _ fun e => h (by rw [e])
theorem wantS_congr {wa : List (Nat × Bool)} {ops : Array Oper} {o : Oper} {i : Nat} {fr fr' : List (Nat × SV)} (h : ∀ t ∈ o.looksAt ops, aget fr t = aget fr' t) : wantS wa ops o.guard i fr = wantS wa ops o.guard i fr' := by
  unfold wantS
  cases hg : o.guard with
  | none => rfl
  | some p =>
    obtain ⟨j, want⟩ := p
    simp only
    cases ht : (ops[j]?).bind (·.dst) with
    | none => rfl
    | some t =>
      simp only
      rw [h t (by simp only [Oper.looksAt, hg, ht]; simp)]
theorem commute {E : Env} {wa : List (Nat × Bool)} {ops : Array Oper} {c i j : Nat} {oi oj : Oper} {st : St} {qj qi : Out} (hij : i ≠ j) (hj : stepO E wa ops c j oj st = some qj) (hi : stepO E wa ops c i oi qj.st = some qi) (hap : oj.apart ops oi = true)
    (hdis : disj c j i qj.foot qi.foot (qj.wr || qi.wr) = true) : ∃ qi' qj', stepO E wa ops c i oi st = some qi' ∧ stepO E wa ops c j oj qi'.st = some qj' ∧ qj'.st = qi.st ∧ qi'.ob = qi.ob ∧ qj'.ob = qj.ob ∧ qi'.foot = qi.foot ∧ qj'.foot = qj.foot ∧ qi'.wr = qi.wr ∧ qj'.wr = qj.wr := by
  obtain ⟨a1, a2, a3⟩ := Oper.apart_spec hap
  obtain ⟨vj, Uj, Nj, fj, hj', wj, nj, frj, tj⟩ := stepO_parts hj
  obtain ⟨vi, Ui, Ni, fi, hi', wi, ni, fri, ti⟩ := stepO_parts hi
  simp only [disj, Bool.and_eq_true, Bool.or_eq_true, List.all_eq_true, Bool.not_eq_true'] at hdis
  obtain ⟨⟨d1, d2⟩, d3⟩ := hdis
  have dF : ∀ id ∈ qj.foot, ∀ m, m < 8 → id ≠ c + 8 * i + m := fun id hid => notIn_spec (d2 id hid)
  have dG : ∀ id ∈ qi.foot, ∀ m, m < 8 → id ≠ c + 8 * j + m := fun id hid => notIn_spec (d3 id hid)
  have dFG : (qj.wr = true ∨ qi.wr = true) → ∀ id ∈ qj.foot, id ∉ qi.foot := fun hw id hid => by
    rcases d1 with h | h
    · rcases hw with hw | hw <;> simp [hw] at h
    · simpa using h id hid
  -- the entries that each lays
  have kj : ∀ p ∈ effU qj.foot Uj ++ effN (fun m => c + 8 * j + m) 0 Nj, (p.1 ∈ qj.foot ∧ qj.wr = true) ∨ ∃ m, m < 8 ∧ p.1 = c + 8 * j + m := fun p hp => by
    rcases List.mem_append.1 hp with h | h
    · obtain ⟨h1, h2⟩ := effU_mem h
      exact .inl ⟨h1, wj.resolve_right h2⟩
    · obtain ⟨k, _, h2, h3⟩ := effN_mem h
      exact .inr ⟨k, by omega, h3⟩
  have ki : ∀ p ∈ effU qi.foot Ui ++ effN (fun m => c + 8 * i + m) 0 Ni, (p.1 ∈ qi.foot ∧ qi.wr = true) ∨ ∃ m, m < 8 ∧ p.1 = c + 8 * i + m := fun p hp => by
    rcases List.mem_append.1 hp with h | h
    · obtain ⟨h1, h2⟩ := effU_mem h
      exact .inl ⟨h1, wi.resolve_right h2⟩
    · obtain ⟨k, _, h2, h3⟩ := effN_mem h
      exact .inr ⟨k, by omega, h3⟩
  have kk : ∀ p ∈ effU qj.foot Uj ++ effN (fun m => c + 8 * j + m) 0 Nj, ∀ q ∈ effU qi.foot Ui ++ effN (fun m => c + 8 * i + m) 0 Ni, p.1 ≠ q.1 := fun p hp q hq e => by
    rcases kj p hp with ⟨h1, h2⟩ | ⟨m, hm, h1⟩ <;> rcases ki q hq with ⟨h3, h4⟩ | ⟨n, hn, h3⟩
    · exact dFG (.inl h2) _ h1 (e ▸ h3)
    · exact dF _ h1 n hn (e.trans h3)
    · exact dG _ h3 m hm (e.symm.trans h1)
    · omega
  -- i ahead of j
  have e1 : wantS wa ops oi.guard i st.fr = wantS wa ops oi.guard i qj.st.fr := by
    rw [fj]
    exact wantS_congr fun t ht => (putS_other fun h => a1 t h ht).symm
  have e2 : ∀ x ∈ oi.op.operands, evalS E.gl st.fr x = evalS E.gl qj.st.fr x := fun x hx => by
    rw [fj]
    refine evalS_congr fun t ht => (putS_other fun h => a1 t h ?_).symm
    subst ht
    simp only [Oper.looksAt, List.mem_append, List.mem_filterMap]
    exact .inl ⟨.tmp t, Array.mem_toList_iff.2 hx, rfl⟩
  have e3 : ∀ id ∈ qi.foot, aget st.hp id = aget qj.st.hp id := fun id hid => by
    rw [hj']
    refine (asetL_other _ _ _ fun p hp e => ?_).symm
    rcases kj p hp with ⟨h1, h2⟩ | ⟨m, hm, h1⟩
    · exact dFG (.inl h2) _ h1 (e ▸ hid)
    · exact dG id hid m hm (e ▸ h1)
  have e4 : ∀ m, m < Ni.length → aget st.hp (c + 8 * i + m) = none := fun m hm => by
    have := fri m hm
    rw [hj'] at this
    exact asetL_none _ _ _ this
  have hi1 := ti st e1 e2 e3 e4
  -- j behind i
  have g1 : wantS wa ops oj.guard j (putS st.fr oi.dst vi) = wantS wa ops oj.guard j st.fr := wantS_congr fun t ht => putS_other fun h => a3 t h ht
  have g2 : ∀ x ∈ oj.op.operands, evalS E.gl (putS st.fr oi.dst vi) x = evalS E.gl st.fr x := fun x hx => by
    refine evalS_congr fun t ht => putS_other fun h => a3 t h ?_
    subst ht
    simp only [Oper.looksAt, List.mem_append, List.mem_filterMap]
    exact .inl ⟨.tmp t, Array.mem_toList_iff.2 hx, rfl⟩
  have g3 : ∀ id ∈ qj.foot, aget (asetL st.hp (effU qi.foot Ui ++ effN (fun m => c + 8 * i + m) 0 Ni)) id = aget st.hp id := fun id hid => by
    refine asetL_other _ _ _ fun p hp e => ?_
    rcases ki p hp with ⟨h1, h2⟩ | ⟨m, hm, h1⟩
    · exact dFG (.inr h2) id hid (e ▸ h1)
    · exact dF id hid m hm (e ▸ h1)
  have g4 : ∀ m, m < Nj.length → aget (asetL st.hp (effU qi.foot Ui ++ effN (fun m => c + 8 * i + m) 0 Ni)) (c + 8 * j + m) = none := fun m hm => by
    rw [asetL_other _ _ _ fun p hp e => ?_]
    · exact frj m hm
    · rcases ki p hp with ⟨h1, h2⟩ | ⟨n, hn, h1⟩
      · exact dG _ h1 m (by omega) e
      · omega
  have hj1 := tj ⟨putS st.fr oi.dst vi, asetL st.hp (effU qi.foot Ui ++ effN (fun m => c + 8 * i + m) 0 Ni)⟩ g1 g2 g3 g4
  refine ⟨_, _, hi1, hj1, ?_, rfl, rfl, rfl, rfl, rfl, rfl⟩
  have s1 : qi.st = ⟨putS qj.st.fr oi.dst vi, asetL qj.st.hp (effU qi.foot Ui ++ effN (fun m => c + 8 * i + m) 0 Ni)⟩ := by
    cases hq : qi.st with
    | mk f h => rw [hq] at fi hi'; simp only at fi hi'; rw [fi, hi']
  rw [s1, fj, hj']
  simp only [St.mk.injEq]
  exact ⟨(putS_comm st.fr vj vi fun t ht h => a2 t ht h).symm, (asetL_comm _ _ _ kk).symm⟩
end Go.Proofs.YtdkogjjebbdngaaDoor
