/-
  A walk by reckoning, part 14: a call by contract is an action. It speaks of no program.
-/
import Derived.Test.YtdkogjjebbdngaaDoorSl
namespace Go.Proofs.YtdkogjjebbdngaaDoor
open Go Go.RowKit
set_option linter.unusedVariables false
set_option linter.unusedSimpArgs false

theorem run_callFunc {P : Program} {f : FuncId} {fn : Func} (hf : P.funcs[f]? = some fn) (hb : fn.body.isSome = true) (hn : (fn.name == "runtime.NumGoroutine") = false) (args : Array Value) (w : World) : (callFunc f args).run P w = .ok (.enter f args) w := by
  have hb' : fn.body ≠ none := fun h => by rw [h] at hb; cases hb
  have hn' : fn.name ≠ "runtime.NumGoroutine" := fun h => by rw [h] at hn; simp at hn
  unfold callFunc
  simp [hf, hb', hn']
theorem all2_args {r : Lc} {sv : Operand → SV} {ev : Operand → Value} (he : EvOk r sv ev) : ∀ {xs : List Operand} {args : List CV}, xs.map sv = args.map .c → All2 (CV.rel r) args (xs.map ev)
  | [], [], _ => trivial
  | [], _ :: _, h => by simp at h
  | _ :: _, [], h => by simp at h
  | x :: xs, a :: args, h => by
    simp only [List.map_cons, List.cons.injEq] at h
    refine ⟨?_, all2_args he h.2⟩
    have := he x
    rw [h.1] at this
    exact this
theorem idxOf_range (M j : Nat) (h : j < M) : idxOf (List.range M) j = j := by
  have h1 := idxOf_get (List.range M) j (by simpa using h)
  have h2 : idxOf (List.range M) j < M := by
    have := (List.getElem?_eq_some_iff.1 h1).1
    simpa using this
  rw [List.getElem?_range h2] at h1
  exact Option.some.inj h1
open Classical in
theorem actOk_call {P : Program} {G : List GFact} {o : Oper} {sv : Operand → SV} {ev : Operand → Value} {r : Lc} {con : Con} {f : FuncId} (hc : ConOkG P G f con) (he : EvOk r sv ev) {xs : List Operand} {ats : Array TypeId} (ho : o.op = .call { callee := .value (.func f), args := xs.toArray, argTypes := ats })
    {args : List CV} (ha : xs.map sv = args.map .c) {F : List Nat} (hF : F.Nodup) (hFm : ∀ c ∈ args, ∀ id ∈ c.ids, id ∈ F) (hfv : ev (.func f) = .func (.func f) #[] #[]) : ActOk P G o ev r (callA con args F) := by
  intro C hp w es fresh R hh hg hr hob hfr hinj hsub
  have hg : getAll hp F = some es := hg
  have hM := getAll_mem hg
  have hget := getAll_get hg
  simp only [callA] at hr
  by_cases hbare : (es.all fun e : Ent => e.o.isBare) = true
  case neg => rw [if_neg hbare] at hr; cases hr
  rw [if_pos hbare] at hr
  cases hrun : con.run (args.map (CV.ren (idxOf F))) (es.map (·.o)) with
  | none => rw [hrun] at hr; cases hr
  | some q =>
    obtain ⟨res, upd, news, ob⟩ := q
    rw [hrun] at hr
    simp only at hr
    split at hr
    case isFalse => cases hr
    rename_i hcond
    injection hr with hr
    subst hr
    simp only [Bool.and_eq_true] at hcond
    obtain ⟨⟨⟨hub, hnb⟩, hcwr⟩, _⟩ := hcond
    have hwrite := canWrite_get es upd.length hcwr
    have hbe : ∀ (j : Nat) (e : Ent), es[j]? = some e → e.o.isBare = true := fun j e h => List.all_eq_true.1 hbare e (List.mem_of_getElem? h)
    have hFnd : ∀ i j id, F[i]? = some id → F[j]? = some id → i = j := fun i j id hi hj => by
      have h1 := (List.getElem?_eq_some_iff.1 hi)
      have h2 := (List.getElem?_eq_some_iff.1 hj)
      obtain ⟨l1, e1⟩ := h1
      obtain ⟨l2, e2⟩ := h2
      exact (List.getElem_inj (h₀ := l1) (h₁ := l2) hF).1 (e1.trans e2.symm)
    -- the call's own heap
    have hcan : ∀ j, aget (numb 0 es) j = es[j]? := fun j => by rw [aget_numb]; simp
    have hvia : ∀ j id, F[j]? = some id → (r.via F) j = r id := fun j id h => by simp only [Lc.via, h]
    have hin : HeapOk (cw G (r.via F) (numb 0 es) w) (r.via F) (numb 0 es) w := {
      dom := fun j => by
        rw [hcan]
        cases hj : F[j]? with
        | none =>
          have : es[j]? = none := by rw [List.getElem?_eq_none_iff] at hj ⊢; omega
          simp [Lc.via, hj, this]
        | some id =>
          obtain ⟨e, h1, h2⟩ := hget j id hj
          rw [hvia j id hj, h1]
          have := hh.dom id
          rw [h2] at this
          simpa using this
      obj := fun j e p hj hp' => by
        rw [hcan] at hj
        cases hF' : F[j]? with
        | none => simp only [Lc.via, hF'] at hp'; cases hp'
        | some id =>
          obtain ⟨e', h1, h2⟩ := hget j id hF'
          rw [h1] at hj
          cases hj
          rw [hvia j id hF'] at hp'
          exact (hh.obj id e p h2 hp').bare (hbe j e h1)
      inj := fun i j e e' g g' c d hi hj li lj ri rj wi hgg => by
        rw [hcan] at hi hj
        cases hFi : F[i]? with
        | none => simp only [Lc.via, hFi] at ri; cases ri
        | some a =>
          cases hFj : F[j]? with
          | none => simp only [Lc.via, hFj] at rj; cases rj
          | some b =>
            obtain ⟨ea, h1, h2⟩ := hget i a hFi
            obtain ⟨eb, h3, h4⟩ := hget j b hFj
            rw [h1] at hi; cases hi
            rw [h3] at hj; cases hj
            rw [hvia i a hFi] at ri
            rw [hvia j b hFj] at rj
            have := hh.inj a b _ _ g g' c d h2 h4 li lj ri rj wi hgg
            subst this
            exact hFnd i j a hFi hFj
      own := fun j e g c hj hl hwr hr' => by
        refine ⟨?_, .inl ⟨j, e, g, c, hj, hwr, hl, hr', rfl⟩⟩
        rw [hcan] at hj
        cases hFj : F[j]? with
        | none => simp only [Lc.via, hFj] at hr'; cases hr'
        | some id =>
          obtain ⟨e', h1, h2⟩ := hget j id hFj
          rw [h1] at hj
          cases hj
          rw [hvia j id hFj] at hr'
          exact (hh.own id e _ c h2 hl hwr hr').1
      glob := fun f hf => ⟨hh.facts f (hsub f hf), fun ⟨j, e, g, c, hj, hwr, hl, hr', hgb⟩ => by
        rw [hcan] at hj
        cases hFj : F[j]? with
        | none => simp only [Lc.via, hFj] at hr'; cases hr'
        | some id =>
          obtain ⟨e', h1, h2⟩ := hget j id hFj
          rw [h1] at hj
          cases hj
          rw [hvia j id hFj] at hr'
          rcases (hh.own id e _ c h2 hl hwr hr').2 with h3 | h3
          · rw [hgb] at h3; exact (hh.glob f (hsub f hf)).2 h3
          · have := f.lt _ (hh.glob f (hsub f hf)).1
            omega⟩
      os := rfl
      tape := rfl
      output := rfl
      size := Nat.le_refl _
      same := fun _ _ _ => rfl }
    have hargs : All2 (CV.rel (r.via F)) (args.map (CV.ren (idxOf F))) (xs.map ev) := by
      rw [All2.map_left]
      refine (all2_args he ha).mono_mem fun c hcm u hu => ?_
      rw [CV.rel_ren]
      refine CV.rel_agree (fun id hid p hp' => ?_) hu
      show (r.via F) (idxOf F id) = some p
      rw [hvia _ id (idxOf_get F id (hFm c hcm id hid)), hp']
    rcases hc with hc | hext
    case inr =>
      obtain ⟨hos, rfl, rfl, hk⟩ := hext _ _ _ _ _ _ hrun
      have hes : es = [] := List.map_eq_nil_iff.1 hos
      subst hes
      have hF0 : F = [] := List.eq_nil_of_length_eq_zero hM
      subst hF0
      obtain ⟨u, hu, hres⟩ := hk hob (r.via []) w _ hargs
      have hexec : (execOp ev o).run P w = .ok (.value u) w := by
        unfold execOp
        rw [ho]
        have h1 : resolve ev { callee := .value (.func f), args := xs.toArray, argTypes := ats } o.type = pure { target := .fn (.func f) #[], args := #[] ++ xs.toArray.map ev } := by unfold resolve; simp only [hfv]; rfl
        simp only [h1, Sem.run_bind, Sem.run_pure, Result.andThen_ok]
        have h2 : ((#[] ++ xs.toArray.map ev) ++ #[] : Array Value) = (xs.map ev).toArray := by simp
        show (callFunc f ((#[] ++ xs.toArray.map ev) ++ #[])).run P w = _
        rw [h2]
        exact hu
      refine StepOk.of_value hexec ⟨r, r.le_refl, ?_, hh⟩
      rw [SV.rel_ren]
      refine SV.rel_agree (fun id hid p hp' => ?_) hres
      simp [Lc.via] at hp'
    obtain ⟨⟨fn, hfn, hbody, hname⟩, hcon⟩ := hc
    have hcalls := hcon _ es res upd news ob hrun hob hwrite (r.via F) w (xs.map ev) hargs hin
    have hexec : (execOp ev o).run P w = .ok (.enter f (xs.map ev).toArray) w := by
      unfold execOp
      rw [ho]
      have h1 : resolve ev { callee := .value (.func f), args := xs.toArray, argTypes := ats } o.type = pure { target := .fn (.func f) #[], args := #[] ++ xs.toArray.map ev } := by unfold resolve; simp only [hfv]; rfl
      simp only [h1, Sem.run_bind, Sem.run_pure, Result.andThen_ok]
      have h2 : ((#[] ++ xs.toArray.map ev) ++ #[] : Array Value) = (xs.map ev).toArray := by simp
      show (callFunc f ((#[] ++ xs.toArray.map ev) ++ #[])).run P w = _
      rw [h2]
      exact run_callFunc hfn hbody hname _ w
    unfold StepOk
    rw [hexec]
    refine Calls.mono hcalls fun e w' hpost => ?_
    obtain ⟨u, rc, rfl, hle, hres, hk⟩ := hpost
    refine ⟨u, rfl, ?_⟩
    -- what is known of the call's heap behind it
    have hpn := fun id => aget_newAll (fun m => es.length + m) news (setAllH (numb 0 es) (List.range es.length) upd) 0 (fun a b _ _ _ _ h => by omega) id
    have post_new : ∀ m, m < news.length → aget (Con.post es upd news) (es.length + m) = (news[m]?).map fun o => ⟨o, true⟩ := fun m hm => by
      have := (hpn (es.length + m)).1 m (by omega) (by omega) rfl
      show aget (newAll (fun m => es.length + m) (setAllH (numb 0 es) (List.range es.length) upd) 0 news) (es.length + m) = _
      rw [this]; simp
    have post_old : ∀ j, j < es.length → aget (Con.post es upd news) j = match upd[j]? with | some o => some ⟨o, true⟩ | none => es[j]? := fun j hj => by
      have h1 := (hpn j).2 (fun a _ _ h => by omega)
      show aget (newAll (fun m => es.length + m) (setAllH (numb 0 es) (List.range es.length) upd) 0 news) j = _
      rw [h1, aget_setAllH _ _ _ _ List.nodup_range, idxOf_range _ _ hj, hcan]
      have : j ∈ List.range es.length := by simpa using hj
      cases hu : upd[j]? <;> simp [hu, this]
    have post_far : ∀ j, es.length + news.length ≤ j → aget (Con.post es upd news) j = none := fun j hj => by
      have h1 := (hpn j).2 (fun a _ h2 h => by omega)
      show aget (newAll (fun m => es.length + m) (setAllH (numb 0 es) (List.range es.length) upd) 0 news) j = _
      rw [h1, aget_setAllH _ _ _ _ List.nodup_range, hcan]
      have hnm : ¬ j ∈ List.range es.length := by simp; omega
      have hnone : es[j]? = none := by rw [List.getElem?_eq_none_iff]; omega
      cases upd[idxOf (List.range es.length) j]? <;> simp [hnone, hnm]
    have hrnone : ∀ m, m < news.length → r (fresh m) = none := fun m hm => (hh.dom _).2 (hfr m hm)
    -- where all lies now
    let r' : Lc := fun id => match r id with
      | some p => some p
      | none => if h : ∃ m, m < news.length ∧ fresh m = id then rc (es.length + h.choose) else none
    have hA : ∀ id p, r id = some p → r' id = some p := fun id p h => by simp only [r', h]
    have hB : ∀ m, m < news.length → r' (fresh m) = rc (es.length + m) := fun m hm => by
      have hex : ∃ k, k < news.length ∧ fresh k = fresh m := ⟨m, hm, rfl⟩
      simp only [r', hrnone m hm]
      rw [dif_pos hex]
      have := hinj _ _ hex.choose_spec.1 hm hex.choose_spec.2
      rw [this]
    have hC : ∀ id, r id = none → (∀ m, m < news.length → fresh m ≠ id) → r' id = none := fun id h1 h2 => by
      simp only [r', h1]
      rw [dif_neg]
      rintro ⟨m, hm, e⟩
      exact h2 m hm e
    have hrcF : ∀ j id p, F[j]? = some id → r id = some p → rc j = some p := fun j id p h1 h2 => hle j p (by rw [hvia j id h1]; exact h2)
    have hFr : ∀ j id, F[j]? = some id → ∃ p, r id = some p := fun j id h => by
      obtain ⟨e, h1, h2⟩ := hget j id h
      cases hq : r id with
      | none => rw [(hh.dom id).1 hq] at h2; cases h2
      | some p => exact ⟨p, rfl⟩
    refine ⟨r', fun id p h => hA id p h, ?_, ?_⟩
    · -- the result
      rw [SV.rel_ren]
      refine SV.rel_agree (fun id hid p hp' => ?_) hres
      show r' (match F[id]? with | some i => i | none => fresh (id - F.length)) = some p
      cases hj : F[id]? with
      | some i =>
        obtain ⟨q, hq⟩ := hFr id i hj
        have := hrcF id i q hj hq
        rw [hp'] at this
        cases this
        exact hA i p hq
      | none =>
        have hge : es.length ≤ id := by rw [List.getElem?_eq_none_iff] at hj; omega
        have hlt : id < es.length + news.length := by
          rcases Nat.lt_or_ge id (es.length + news.length) with h | h
          · exact h
          · rw [(hk.dom id).2 (post_far id h)] at hp'; cases hp'
        have := hB (id - F.length) (by omega)
        show r' (fresh (id - F.length)) = some p
        rw [this, hM, show es.length + (id - es.length) = id by omega]
        exact hp'
    · -- the heap
      have hni := fun id => aget_newAll fresh news (setAllH hp F upd) 0 (fun a b _ h1 _ h2 h => hinj a b (by show a < news.length; omega) (by show b < news.length; omega) h) id
      have kn : ∀ m, m < news.length → aget (newAll fresh (setAllH hp F upd) 0 news) (fresh m) = (news[m]?).map fun o => ⟨o, true⟩ := fun m hm => by
        have := (hni (fresh m)).1 m (by omega) (by omega) rfl
        simpa using this
      have ko : ∀ id, (∀ m, m < news.length → fresh m ≠ id) → aget (newAll fresh (setAllH hp F upd) 0 news) id = aget (setAllH hp F upd) id := fun id h => (hni id).2 fun a _ h2 => h a (by omega)
      have kF : ∀ j id, F[j]? = some id → aget (newAll fresh (setAllH hp F upd) 0 news) id = aget (Con.post es upd news) j := fun j id hj => by
        have hmem : id ∈ F := List.mem_of_getElem? hj
        obtain ⟨e, h1, h2⟩ := hget j id hj
        have hidx : idxOf F id = j := hFnd _ _ id (idxOf_get F id hmem) hj
        rw [ko id fun m hm e' => by rw [← e', hfr m hm] at h2; cases h2]
        rw [aget_setAllH _ _ _ _ hF, hidx, post_old j (List.getElem?_eq_some_iff.1 h1).1]
        cases upd[j]? <;> simp [hmem, h1, h2]
      have kX : ∀ id, id ∉ F → (∀ m, m < news.length → fresh m ≠ id) → aget (newAll fresh (setAllH hp F upd) 0 news) id = aget hp id := fun id h1 h2 => by
        rw [ko id h2, aget_setAllH _ _ _ _ hF]
        cases upd[idxOf F id]? <;> simp [h1]
      -- each number is one of three
      have three : ∀ id, (∃ j, j < es.length + news.length ∧ aget (newAll fresh (setAllH hp F upd) 0 news) id = aget (Con.post es upd news) j ∧ r' id = rc j ∧ ((F[j]? = some id) ∨ ∃ m, m < news.length ∧ fresh m = id ∧ j = es.length + m)) ∨
          (id ∉ F ∧ (∀ m, m < news.length → fresh m ≠ id) ∧ aget (newAll fresh (setAllH hp F upd) 0 news) id = aget hp id ∧ r' id = r id) := fun id => by
        by_cases hf : ∃ m, m < news.length ∧ fresh m = id
        · obtain ⟨m, hm, rfl⟩ := hf
          exact .inl ⟨es.length + m, by omega, by rw [kn m hm, post_new m hm], hB m hm, .inr ⟨m, hm, rfl, rfl⟩⟩
        · have hf' : ∀ m, m < news.length → fresh m ≠ id := fun m hm e => hf ⟨m, hm, e⟩
          by_cases hmem : id ∈ F
          · have hj := idxOf_get F id hmem
            obtain ⟨p, hp'⟩ := hFr _ id hj
            have hlt : idxOf F id < F.length := (List.getElem?_eq_some_iff.1 hj).1
            exact .inl ⟨idxOf F id, by omega, kF _ id hj, by rw [hA id p hp', hrcF _ id p hj hp'], .inl hj⟩
          · refine .inr ⟨hmem, hf', kX id hmem hf', ?_⟩
            cases hq : r id with
            | none => exact hC id hq hf'
            | some p => exact hA id p hq
      have hpostbare : ∀ j e, aget (Con.post es upd news) j = some e → e.o.isBare = true := fun j e h => by
        rcases Nat.lt_or_ge j es.length with hj | hj
        · rw [post_old j hj] at h
          cases hu : upd[j]? with
          | none => rw [hu] at h; exact hbe j e h
          | some o => rw [hu] at h; cases h; exact List.all_eq_true.1 hub o (List.mem_of_getElem? hu)
        · rcases Nat.lt_or_ge j (es.length + news.length) with hj2 | hj2
          · obtain ⟨m, rfl⟩ : ∃ m, j = es.length + m := ⟨j - es.length, by omega⟩
            rw [post_new m (by omega)] at h
            cases hn : news[m]? with
            | none => rw [hn] at h; cases h
            | some o => rw [hn] at h; cases h; exact List.all_eq_true.1 hnb o (List.mem_of_getElem? hn)
          · rw [post_far j hj2] at h; cases h
      -- what a call may turn is what is ours
      have hwb : ∀ b, (cw G (r.via F) (numb 0 es) w).wb b → ∃ id e, ∃ (g : Blk) (c : Nat), id ∈ F ∧ aget hp id = some e ∧ e.wr = true ∧ e.o.live = true ∧ r id = some (some (g, c)) ∧ g.1 = b := fun b ⟨j, e, g, c, h1, h2, h3, h4, hgb⟩ => by
        rw [hcan] at h1
        cases hj : F[j]? with
        | none => simp only [Lc.via, hj] at h4; cases h4
        | some id =>
          obtain ⟨e', h5, h6⟩ := hget j id hj
          rw [h1] at h5
          cases h5
          rw [hvia j id hj] at h4
          exact ⟨id, e, g, c, List.mem_of_getElem? hj, h6, h2, h3, h4, hgb⟩
      have hout : ∀ id e (g : Blk) c, id ∉ F → aget hp id = some e → e.o.live = true → r id = some (some (g, c)) → ¬ (cw G (r.via F) (numb 0 es) w).wb g.1 := fun id e g c h1 h2 h3 h4 h5 => by
        obtain ⟨id', e', g', c', h6, h7, h8, h9, h10, h11⟩ := hwb g.1 h5
        exact h1 (by rw [← hh.inj id' id e' e g' g c' c h7 h2 h9 h3 h10 h4 h8 h11]; exact h6)
      -- an outer one and one of the call's are two
      have apart : ∀ id e (g : Blk) c j f (g' : Blk) d, id ∉ F → aget hp id = some e → e.o.live = true → r id = some (some (g, c)) → aget (Con.post es upd news) j = some f → f.o.live = true → rc j = some (some (g', d)) → (e.wr = true ∨ f.wr = true) → g.1 = g'.1 → False := fun id e g c j f g' d h1 h2 h3 h4 h5 h6 h7 hew hgg => by
        have hlt := hh.lt h2 h3 h4
        by_cases hfw : f.wr = true
        · rcases (hk.own j f g' d h5 h6 hfw h7).2 with h8 | h8
          · exact hout id e g c h1 h2 h3 h4 (by rw [hgg]; exact h8)
          · have : w.heap.size ≤ g'.1 := h8
            omega
        · rcases Nat.lt_or_ge j es.length with hj | hj
          · rw [post_old j hj] at h5
            cases hu : upd[j]? with
            | some o => rw [hu] at h5; cases h5; exact hfw rfl
            | none =>
              rw [hu] at h5
              simp only at h5
              cases hFj : F[j]? with
              | none => rw [List.getElem?_eq_none_iff] at hFj; omega
              | some id' =>
                obtain ⟨e', h8, h9⟩ := hget j id' hFj
                rw [h5] at h8
                cases h8
                obtain ⟨p, hp'⟩ := hFr j id' hFj
                have := hrcF j id' p hFj hp'
                rw [h7] at this
                cases this
                have := hh.inj id id' e f g g' c d h2 h9 h3 h6 h4 hp' (hew.resolve_right hfw) hgg
                exact h1 (by rw [this]; exact List.mem_of_getElem? hFj)
          · rcases Nat.lt_or_ge j (es.length + news.length) with hj2 | hj2
            · obtain ⟨m, rfl⟩ : ∃ m, j = es.length + m := ⟨j - es.length, by omega⟩
              rw [post_new m (by omega)] at h5
              cases hn : news[m]? with
              | none => rw [hn] at h5; cases h5
              | some o => rw [hn] at h5; cases h5; exact hfw rfl
            · rw [post_far j hj2] at h5; cases h5
      show HeapOk C r' (newAll fresh (setAllH hp F upd) 0 news) w'
      exact {
        dom := fun id => by
          rcases three id with ⟨j, _, h1, h2, _⟩ | ⟨_, _, h1, h2⟩
          · rw [h1, h2]; exact hk.dom j
          · rw [h1, h2]; exact hh.dom id
        obj := fun id e p h h' => by
          rcases three id with ⟨j, _, h1, h2, _⟩ | ⟨h3, _, h1, h2⟩
          · rw [h1] at h
            rw [h2] at h'
            exact (hk.obj j e p h h').bare (hpostbare j e h)
          · rw [h1] at h
            rw [h2] at h'
            intro hl
            refine ((hh.obj id e p h h').at (fun g c hp' => ?_)).le (fun i q hq => hA i q hq) hl
            subst hp'
            exact hk.same g.1 (hh.lt h hl h') (hout id e g c h3 h hl h')
        inj := fun i j e f g g' c d hi hj li lj ri rj wi hgg => by
          rcases three i with ⟨a, a0, a1, a2, a3⟩ | ⟨a0, a3, a1, a2⟩ <;> rcases three j with ⟨b, b0, b1, b2, b3⟩ | ⟨b0, b3, b1, b2⟩
          · rw [a1] at hi; rw [b1] at hj; rw [a2] at ri; rw [b2] at rj
            have hab := hk.inj a b e f g g' c d hi hj li lj ri rj wi hgg
            subst hab
            rcases a3 with a3 | ⟨m, hm, rfl, hm2⟩ <;> rcases b3 with b3 | ⟨n, hn, rfl, hn2⟩
            · rw [a3] at b3; exact Option.some.inj b3
            · have := (List.getElem?_eq_some_iff.1 a3).1; omega
            · have := (List.getElem?_eq_some_iff.1 b3).1; omega
            · have : m = n := by omega
              rw [this]
          · rw [a1] at hi; rw [b1] at hj; rw [a2] at ri; rw [b2] at rj
            exact (apart j f g' d a e g c b0 hj lj rj hi li ri (.inr wi) hgg.symm).elim
          · rw [a1] at hi; rw [b1] at hj; rw [a2] at ri; rw [b2] at rj
            exact (apart i e g c b f g' d a0 hi li ri hj lj rj (.inl wi) hgg).elim
          · rw [a1] at hi; rw [b1] at hj; rw [a2] at ri; rw [b2] at rj
            exact hh.inj i j e f g g' c d hi hj li lj ri rj wi hgg
        own := fun id e g c h hl hwr h' => by
          rcases three id with ⟨j, _, h1, h2, _⟩ | ⟨h3, _, h1, h2⟩
          · rw [h1] at h
            rw [h2] at h'
            obtain ⟨hn, h4⟩ := hk.own j e g c h hl hwr h'
            refine ⟨hn, ?_⟩
            rcases h4 with h4 | h4
            · obtain ⟨id', e', g', c', _, h6, h7, h8, h9, h10⟩ := hwb g.1 h4
              rw [← h10]
              exact (hh.own id' e' g' c' h6 h8 h7 h9).2
            · exact .inr (Nat.le_trans hh.size h4)
          · rw [h1] at h
            rw [h2] at h'
            exact hh.own id e g c h hl hwr h'
        os := hk.os.trans hh.os
        tape := hk.tape.trans hh.tape
        glob := hh.glob
        output := hk.output.trans hh.output
        size := Nat.le_trans hh.size hk.size
        same := fun b h1 h2 => by
          refine (hk.same b (Nat.lt_of_lt_of_le h1 hh.size) fun h3 => ?_).trans (hh.same b h1 h2)
          obtain ⟨id', e', g', c', _, h6, h7, h8, h9, h10⟩ := hwb b h3
          subst h10
          rcases (hh.own id' e' g' c' h6 h8 h7 h9).2 with h4 | h4
          · exact h2 h4
          · omega }
end Go.Proofs.YtdkogjjebbdngaaDoor
