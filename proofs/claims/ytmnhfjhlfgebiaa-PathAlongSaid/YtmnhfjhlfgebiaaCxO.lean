/- The evaluator: code is sound. No condition. -/
import Derived.Test.YtmnhfjhlfgebiaaCxN
import Derived.Scope
set_option linter.unusedVariables false
noncomputable section
namespace Go.Cx
open Go.RowKit
variable {T : Nat → Type} {P : Program} {E : Enc T} {cl : Bool} {act : Tgt → List (AV T) → Hp T → Tree (AV T × Hp T)} {D : Array Oper → St T → Tree (St T)} {fuel : Nat}
section
variable {F : Fm} {M M' : Nat → Prop} {β β' : Nat → Option Hd} {lim : Nat} {st st' : St T} {a : Act} {w w' : World} {o : Oper} {K : Act → World → Prop} {Q : Exit → Act → World → Prop} {hp hp' : Hp T}

/-- Something turns in a block that is nobody's. -/
theorem Now.other (hN : Now P E lim M β hp w) (hsz : w'.heap.size = w.heap.size) (hb : ∀ b, M b → w'.heap[b]? = w.heap[b]?) (hc : ∀ b o, b < w.heap.size → w'.cell? ⟨b, o, none⟩ = w.cell? ⟨b, o, none⟩) : Now P E lim M β hp w' := by
  have hst : Stab w M β w' M β := ⟨fun b o _ hlt => hc b o hlt, by omega, fun _ h => .inl h, fun _ _ h => h⟩
  refine ⟨⟨fun id ob hL hob => ?_, hN.heap.inj, hN.heap.own, hN.heap.shade⟩, fun b h => by rw [hsz]; exact hN.nb b h, hN.free, hN.nomem⟩
  obtain ⟨h, hβ, hrel⟩ := hN.heap.obj id ob hL hob
  exact ⟨h, hβ, hrel.stab hst (hb _ (hN.heap.own id h hL hβ))⟩

theorem cell_putObj {D : Nat} {ob ob' : Obj} (hD : w.heap[D]? = some ob) (h1 : ∀ vs el fz, ob ≠ .cells vs el fz) (h2 : ∀ vs el fz, ob' ≠ .cells vs el fz) (b o : Nat) : (w.putObj D ob').cell? ⟨b, o, none⟩ = w.cell? ⟨b, o, none⟩ := by
  by_cases hb : b = D
  · subst hb
    have hlt := (Array.getElem?_eq_some_iff.1 hD).1
    have hn : (w.putObj b ob').heap[b]? = some ob' := World.putObj_heap_same hlt
    simp only [World.cell?, hn, hD]
    cases ob <;> cases ob' <;> first | rfl | exact absurd rfl (h1 _ _ _) | exact absurd rfl (h2 _ _ _)
  · exact World.cell?_of_block (w := w) (World.putObj_heap_other hb)

theorem RelAt.unmark (h : RelAt P E F M β st a w) {D : Nat} (hD : w.heap[D]? = some (Obj.deferred (some []))) (hM : ¬ M D) (h0 : F.w0.heap.size ≤ D) {ds : List Deferred} (hds : MarksOk F.b0 (w.putObj D (.deferred none)) M ds) :
    RelAt P E F M β st { a with defers := ds } (w.putObj D (.deferred none)) := by
  have hc := cell_putObj (ob' := .deferred none) hD (by simp) (by simp)
  have hst : Stab w M β (w.putObj D (.deferred none)) M β := ⟨fun b o _ _ => hc b o, by rw [World.putObj_size]; exact Nat.le_refl _, fun _ h => .inl h, fun _ _ h => h⟩
  refine ⟨hds, ⟨h.evo.os, h.evo.tape, h.evo.output, by rw [World.putObj_size]; exact h.evo.size, fun b hb ho => (World.putObj_heap_other (by omega)).trans (h.evo.old b hb ho), h.evo.mutb, h.evo.keep, h.evo.own, h.evo.hd, h.evo.nm⟩, h.nb0,
    h.now.other World.putObj_size (fun b hb => World.putObj_heap_other (fun e => hM (e ▸ hb))) (fun b o _ => hc b o), h.tmps.stab hst, h.rnd, h.nle⟩

theorem leavesM (hb0 : F.b0 = F.w0.heap.size) {fn : Func} {R : Ending → World → Prop} {tmps : Array Value} (hk : ∀ a w, a.tmps = tmps → Rel P E F st a w → ∃ v, (results fn tmps).run P w = .ok v w ∧ R (.returned v) w) :
    ∀ (Ds : List Nat) (a : Act) (w : World), a.tmps = tmps → a.defers = Ds.map markOf → Rel P E F st a w → LeavesInM (FR none) 0 P fn tmps R a.defers .returning w
  | [], a, w, ht, hd, hR => by
    rw [hd]
    exact hk a w ht hR
  | D :: Ds, a, w, ht, hd, ⟨M, β, hR⟩ => by
    obtain ⟨Ds', e1, e2, e3⟩ := hR.defers
    have hinj : Ds' = D :: Ds := by
      rw [hd] at e1
      exact ((List.map_inj_right (fun x y e => by simpa [markOf] using e)).1 e1).symm
    subst hinj
    obtain ⟨hD0, hD, hDM⟩ := e3 D (by simp)
    obtain ⟨hnd1, hnd2⟩ := List.nodup_cons.1 e2
    have hU := hR.unmark hD hDM (hb0 ▸ hD0) (ds := Ds.map markOf) ⟨Ds, rfl, hnd2, fun D' hD' => ⟨(e3 D' (List.mem_cons_of_mem _ hD')).1, (World.putObj_heap_other (show D' ≠ D from fun e => hnd1 (e ▸ hD'))).trans (e3 D' (List.mem_cons_of_mem _ hD')).2.1, (e3 D' (List.mem_cons_of_mem _ hD')).2.2⟩⟩
    rw [hd]
    refine ⟨by simp, .inl ⟨D, _, rfl, run_takeDeferred hD, ?_⟩⟩
    exact leavesM hb0 hk Ds { a with defers := Ds.map markOf } _ ht rfl ⟨M, β, hU⟩

def resV (tmps : Array Value) : ResultVar → Sem Value
  | .tmp t => pure (tmps.getD t undef)
  | .cell a t => do loadVar t (← asAddr (tmps.getD a undef))

theorem results_eq (fn : Func) (tmps : Array Value) : results fn tmps = (fn.results.mapM (resV tmps)) >>= fun vs => pure (if h : vs.size = 1 then vs[0] else .tuple vs) := by
  rfl

theorem resL_runs (hr : HeapRel P E w M β hp.get) {n : Nat} {tm : Tr (AV T)} {tmps : Array Value} (ht : TR P E w M β n tm tmps) : ∀ (l : List ResultVar) {K : List (AV T) → Prop}, (resL P hp tm l).holds K →
    ∃ vs us, (l.mapM (resV tmps)).run P w = .ok us w ∧ LR P E w M β vs us ∧ K vs
  | [], K, h => ⟨[], [], by simp, LR.nil, h⟩
  | x :: l, K, h => by
    have h1 := Tree.holds_bind.1 h
    have hx : ∃ u v, (resV tmps x).run P w = .ok u w ∧ RV P E w M β v u ∧ ((resL P hp tm l).bind fun vs => Tree.leaf (v :: vs)).holds K := by
      cases x with
      | tmp t => exact ⟨_, _, by simp [resV], ht.2 t, h1⟩
      | cell ad t =>
        obtain ⟨b, u, v, hb, hu, hrv, hk⟩ := load_runs hr (ht.2 ad) h1
        refine ⟨u, v, ?_, hrv, hk⟩
        simp only [resV, hb]
        simpa [asAddr] using hu
    obtain ⟨u, v, hu, hrv, hk⟩ := hx
    obtain ⟨vs, us, hus, hL, hk2⟩ := resL_runs hr ht l (Tree.holds_bind.1 hk)
    refine ⟨v :: vs, u :: us, ?_, hL.cons hrv, hk2⟩
    rw [List.mapM_cons]
    simp only [Sem.run_bind, hu, Result.andThen_ok, hus, Sem.run_pure]

theorem resultsA_runs {fn : Func} (hr : HeapRel P E w M β st.hp.get) {tmps : Array Value} (ht : TR P E w M β st.n st.tm tmps) {K : AV T → Prop} (h : (resultsA P fn st).holds K) :
    ∃ u v, (results fn tmps).run P w = .ok u w ∧ RV P E w M β v u ∧ K v := by
  obtain ⟨vs, us, hus, hL, h⟩ := resL_runs hr ht _ (Tree.holds_bind.1 h)
  have hm : (fn.results.mapM (resV tmps)).run P w = .ok us.toArray w := by
    rw [Array.mapM_eq_mapM_toList]
    simp only [map_eq_pure_bind, Sem.run_bind, hus, Result.andThen_ok, Sem.run_pure]
  have hlen := hL.1
  split at h
  · rename_i x
    obtain ⟨u, rfl⟩ : ∃ u, us = [u] := by
      match us, hlen with
      | [u], _ => exact ⟨u, rfl⟩
    refine ⟨u, x, ?_, hL.2 0 x u rfl rfl, h⟩
    rw [results_eq]
    simp only [Sem.run_bind, hm]
    simp
  · rename_i hne
    refine ⟨.tuple us.toArray, .tup vs, ?_, .tup (by simpa using hlen) fun j c u hc hu => hL.2 j c u hc (by simpa using hu), h⟩
    have hn1 : us.toArray.size ≠ 1 := by
      intro h1
      have h1' : vs.length = 1 := by rw [hlen]; simpa using h1
      match vs, h1', hne with
      | [x], _, hne => exact hne x rfl
    rw [results_eq]
    simp only [Sem.run_bind, hm]
    simp only [Result.andThen_ok, Sem.run_pure, dif_neg hn1]

theorem run_endLoop' {l : Nat} {r : Loop} (h : w.heap[l]? = some (.loop r)) (hr : r.state ≠ .busy) : (Instr.endLoop l).run P w = .ok r.pending (w.putObj l (.loop { r with state := .exhausted })) := by
  simp [Instr.endLoop, Sem.run_bind, run_getLoop h, run_setObj_loop _ h, Result.andThen]
  exact fun e => absurd e hr

theorem run_endRound' {l : Nat} {r : Loop} (jump : Option Code) (h : w.heap[l]? = some (.loop r)) : (Instr.endRound l jump).run P w = .ok (.bool jump.isNone) (w.putObj l (.loop { r with state := if jump.isNone then .ready else .done, pending := jump })) := by
  simp [Instr.endRound, Sem.run_bind, run_getLoop h, run_setObj_loop _ h, Result.andThen]

theorem run_enterLoop_inner (fn : FuncId) (tmps : Array Value) (ps : Array Tmp) (assign body : Code) {l0 : Nat} {r0 : Loop} (h : w.heap[l0]? = some (.loop r0)) :
    (Instr.enterLoop fn tmps ps assign body (some l0)).run P w = .ok (w.heap.size, []) (w.alloc (.loop { state := .ready, pending := none, fn, tmps, params := ps, assign, body, defers := r0.defers })) := by
  unfold Instr.enterLoop
  simp only [Sem.run_bind, run_getLoop h, run_newObj_alloc, Result.andThen, Sem.run_pure]

/-- A record of a loop is written. -/
theorem loop_write (hN : Now P E lim M β hp w) {id : Nat} {rc rc' : LoopRec T} {h : Hd} (hid : hp.get id = some (.loop rc)) (hβ : β id = some h) {lp lp' : Loop} (hlp : w.heap[h.block]? = some (.loop lp))
    (hrel : lp'.state = rc'.state ∧ lp'.pending = rc'.pend ∧ lp'.params = rc'.params ∧ lp'.assign = rc'.assign ∧ lp'.body = rc'.body ∧ TR P E w M β rc'.n rc'.tm lp'.tmps) :
    Step P E lim M β hp w M β (hp.put id (.loop rc')) (w.putObj h.block (.loop lp')) := by
  have hL : Live hp.get id := by unfold Live; rw [hid]; trivial
  have hlt := (Array.getElem?_eq_some_iff.1 hlp).1
  exact hN.write hL hid hβ rfl (by rw [Hp.get_put, if_pos rfl]) (.inr (.inl ⟨_, _, rfl, rfl, fun x hx => by rw [Hp.get_put, if_neg hx]⟩)) rfl rfl rfl World.putObj_size (fun b hb => World.putObj_heap_other hb)
    (fun hs => ⟨lp', World.putObj_heap_same hlt, hrel.1, hrel.2.1, hrel.2.2.1, hrel.2.2.2.1, hrel.2.2.2.2.1, hrel.2.2.2.2.2.stab hs⟩)

theorem holds_add {α : Type} {Q R : α → Prop} {t : Tree α} (hr : ∀ a, Q a → R a) (h : t.holds Q) : t.holds fun a => R a ∧ Q a := Tree.holds_mono (fun a ha => ⟨hr a ha, ha⟩) h

theorem stepR_scope {b : Frame} {k : List Item} {cs : List Frame} {c : Code} : step P (lone (b.atR a (.code (.scope c) :: k)) cs w) = .next (lone (b.atR a (.code c :: .inScope c :: k)) cs w) :=
  step_lone_go (by simp [Go.stepG, Go.stepG.exec, Frame.atR])
theorem stepR_inScope {b : Frame} {k : List Item} {cs : List Frame} {c : Code} : step P (lone (b.atR a (.inScope c :: k)) cs w) = .next (lone (b.atR a k) cs w) :=
  step_lone_go (by simp [Go.stepG, Go.stepG.exec, Frame.atR])
/-- A scope that nobody jumps in. -/
theorem wpIn_scope {Fe : Fence} {n : Nat} {c : Code} (h : c.wpIn Fe n P (Exit.noGoto Q) a w) : (Code.scope c).wpIn Fe n P Q a w := by
  intro b k cs hro hb hr
  have h0 : (lone (b.atR a (.code (.scope c) :: k)) cs w).fenced P Fe := fenced_calm hb hr rfl
  obtain ⟨e, a₁, w₁, hq, harr⟩ := h b (.inScope c :: k) cs hro hb hr
  cases e with
  | normal => exact ⟨.normal, a₁, w₁, hq, .head h0 stepR_scope (StepsIn.trans harr (.one (fenced_calm hb hr rfl) stepR_inScope))⟩
  | exit id =>
    have hx : exitTo id (.inScope c :: k) = exitTo id k := by simp [exitTo]
    exact ⟨.exit id, a₁, w₁, hq, fun k' hk => .head h0 stepR_scope (harr.1 k' (by rw [hx]; exact hk)),
      fun hr' hk => let ⟨k₁, h1, h2⟩ := harr.2 hr' (by rw [hx]; exact hk); ⟨k₁, h1, .head h0 stepR_scope h2⟩⟩
  | goto l => exact hq.elim
  | ret => exact ⟨_, a₁, w₁, hq, .of_steps (.one h0 stepR_scope) harr⟩
  | panic ch => exact ⟨_, a₁, w₁, hq, .of_steps (.one h0 stepR_scope) harr⟩
  | outgrown => exact ⟨_, a₁, w₁, hq, .of_steps (.one h0 stepR_scope) harr⟩

theorem exec_sound (hb0 : F.b0 ≤ F.w0.heap.size) (hE : E.Good P) (hA : ActOk P E act) (hAe : ActGr act) (hD : DrawOk P E D) (hDe : ∀ ops (st : St T), (D ops st).every fun st' => Gr st.hp st'.hp) {L : LoopTab T} (hLe : LoopGr L) {n : Nat} : ∀ (c : Code) (st : St T) (a : Act) (w : World) (Q : Exit → Act → World → Prop), (∀ b ∈ loopsIn c, LoopOk P E F L b) →
    Rel P E F st a w → (exec P E cl act D L fuel (F.rr.map (·.1)) c st).holds (fun x => x.2.hp.next ≤ F.lim ∧ ∀ a' w', Rel P E F x.2 a' w' → Q x.1.toExit a' w') → c.wpIn (FR (F.rr.map (·.2))) n P Q a w := by
  intro c
  induction c with
  | skip => intro st a w Q hLo hR h; exact wpIn_skip (h.2 _ _ hR)
  | label l => intro st a w Q hLo hR h; exact wpIn_label (h.2 _ _ hR)
  | region id ops draw =>
    intro st a w Q hLo hR h
    cases draw with
    | false => exact wpIn_region_list (runOps_sound (fun o st => xop_every hAe) (fun o st a w K Q hR hx => xop_sound hE hA hR hx) ops.toList hR (Tree.holds_bind.1 h))
    | true => exact hD F id ops st a w Q _ n hR (Tree.holds_bind.1 h)
  | seq x y ihx ihy =>
    intro st a w Q hLo hR h
    refine wpIn_seq (ihx st a w _ (fun b hb => hLo b (List.mem_append_left _ hb)) hR (Tree.holds_mono (fun r hr => ?_) (Tree.holds_bind.1 h)))
    obtain ⟨e1, s1⟩ := r
    cases e1 with
    | normal => exact ⟨next_le (f := fun x : Ex × St T => x.2.hp) (exec_every hAe hDe hLe y _ s1) hr, fun a' w' hR' => ihy s1 a' w' Q (fun b hb => hLo b (List.mem_append_right _ hb)) hR' hr⟩
    | exit id => exact hr
    | ret => exact hr
  | cond c x y ihx ihy =>
    intro st a w Q hLo hR h
    obtain ⟨M, β, hRA⟩ := hR
    have hv := ev_rv hRA.tmps c
    have hR : Rel P E F st a w := ⟨M, β, hRA⟩
    unfold exec condT at h
    split at h
    · rename_i b hc
      rw [hc] at hv
      generalize hvc : a.eval c = vc at *
      cases hv
      cases b with
      | true => exact wpIn_cond_true hvc (ihx st a w Q (fun b hb => hLo b (List.mem_append_left _ hb)) hR h)
      | false => exact wpIn_cond_false hvc (ihy st a w Q (fun b hb => hLo b (List.mem_append_right _ hb)) hR h)
    · rename_i b hc
      rw [hc] at hv
      split at h
      · rename_i t
        have hlit := hR.lit (bool_of_tmp hR hc rfl)
        generalize hvc : a.eval (.tmp t) = vc at *
        cases hv
        cases b with
        | true => exact wpIn_cond_true hvc (ihx _ a w Q (fun b hb => hLo b (List.mem_append_left _ hb)) hlit (h.1 rfl))
        | false => exact wpIn_cond_false hvc (ihy _ a w Q (fun b hb => hLo b (List.mem_append_right _ hb)) hlit (h.2 rfl))
      · exact h.elim
    · exact h.elim
  | block id b ih =>
    intro st a w Q hLo hR h
    refine wpIn_block (ih st a w _ hLo hR (Tree.holds_mono (fun r hr => ?_) (Tree.holds_bind.1 h)))
    obtain ⟨e1, s1⟩ := r
    cases e1 with
    | normal => exact hr
    | exit id' =>
      simp only [Ex.toExit, Exit.inBlock] at hr ⊢
      cases hq : Nat.beq id' id with
      | true =>
        simp only [hq, cond_true] at hr
        refine ⟨hr.1, fun a' w' hR' => ?_⟩
        rw [if_pos (bbeq hq)]
        exact hr.2 a' w' hR'
      | false =>
        simp only [hq, cond_false] at hr
        refine ⟨hr.1, fun a' w' hR' => ?_⟩
        rw [if_neg (Nat.ne_of_beq_eq_false hq)]
        exact hr.2 a' w' hR'
    | ret => exact hr
  | loop b ih =>
    intro st a w Q hLo hR h
    unfold exec at h
    split at h
    · rename_i C hC
      exact hLo b (List.mem_cons_self ..) C hC st a w Q n hR h
    · exact loopT_sound (fun st => exec_every hAe hDe hLe b _ st) (fun st a w Q => ih st a w Q (fun c hc => hLo c (List.mem_cons_of_mem _ hc))) hR h
  | exit id => intro st a w Q hLo hR h; exact wpIn_exit (h.2 _ _ hR)
  | ret => intro st a w Q hLo hR h; exact wpIn_ret (h.2 _ _ hR)
  | rangeFunc g ps x y _ _ =>
    intro st a w Q hLo hR h
    obtain ⟨M, β, hR⟩ := hR
    have hv := ev_rv hR.tmps g
    unfold exec at h
    split at h
    case h_2 => exact h.elim
    rename_i f caps hg
    rw [hg] at hv
    generalize hvg : a.eval g = vg at hv
    cases hv with
    | fn hcl hcr =>
    rename_i vs
    have hq := holds_bif h
    clear h
    obtain ⟨hro, h⟩ := hq
    refine wpIn_rangeFunc fun fn _ => ?_
    -- the record is laid
    have enter : ∃ (l : Nat) (mark : List Deferred) (w1 : World) (dfr : Nat), (Instr.enterLoop fn a.tmps ps x y (FR (F.rr.map (·.2))).round).run P w = .ok (l, mark) w1 ∧ Below w.heap.size w w1 ∧ w.heap.size ≤ l ∧
        w1.heap[l]? = some (.loop { state := .ready, pending := none, fn, tmps := a.tmps, params := ps, assign := x, body := y, defers := dfr }) ∧
        (mark = [] ∨ ∃ D, mark = [markOf D] ∧ w.heap.size ≤ D ∧ w1.heap[D]? = some (.deferred (some [])) ∧ D ≠ l) := by
      cases hrr : F.rr with
      | none =>
        refine ⟨_, _, _, w.heap.size, run_enterLoop_outer fn a.tmps ps x y, ?_, by omega, ?_, .inr ⟨w.heap.size, rfl, Nat.le_refl _, ?_, by omega⟩⟩
        · exact ⟨rfl, rfl, rfl, by simp; omega, fun b hb => (Below.heap_alloc (w.alloc _) _ b (by simp; omega)).trans (Below.heap_alloc w _ b hb)⟩
        · have := World.alloc_heap_new (w.alloc (.deferred (some []))) (.loop { state := .ready, pending := none, fn, tmps := a.tmps, params := ps, assign := x, body := y, defers := w.heap.size })
          simpa using this
        · exact (Below.heap_alloc (w.alloc _) _ w.heap.size (by simp)).trans (World.alloc_heap_new w _)
      | some p =>
        obtain ⟨id, b⟩ := p
        rw [hrr] at hro
        simp only [Option.map_some] at hro
        split at hro
        · rename_i rc0 hrc0
          obtain ⟨h0, e1, e2⟩ := hR.rnd _ hrr
          simp only at e1 e2
          obtain ⟨h0', e3, lp, e4, _⟩ := hR.now.heap.obj id _ (by unfold Live; rw [hrc0]; trivial) hrc0
          rw [e1] at e3
          cases e3
          rw [e2] at e4
          exact ⟨_, _, _, _, run_enterLoop_inner fn a.tmps ps x y e4, ⟨rfl, rfl, rfl, by simp, fun b hb => Below.heap_alloc w _ b hb⟩, Nat.le_refl _, World.alloc_heap_new w _, .inl rfl⟩
        · cases hro
    obtain ⟨l, mark, w1, dfr, he, hbel, hlge, hlp, hmark⟩ := enter
    have hres : (resolve a.eval (rangeCall g l) 0).run P w1 = .ok { target := .fn (.func f) vs, args := #[.func (.yield l) #[] #[]] } w1 := by
      have e2 : a.eval (.const (.func (.yield l) #[] #[])) = .func (.yield l) #[] #[] := rfl
      simp [resolve, hvg, e2, Deferred.ofValue]
    -- names
    have hactn := holds_add (R := fun r : AV T × Hp T => r.2.next ≤ F.lim) (by
      intro r hr
      split at hr
      · split at hr
        · exact hr.elim
        · split at hr
          · exact hr.1
          · exact hr.1
          · exact hr.1
          · exact hr.elim
      · exact hr.elim) (Tree.holds_bind.1 h)
    have hnext : st.hp.next + 1 ≤ F.lim := next_le (f := fun x : AV T × Hp T => x.2) (hp := st.hp.new (.loop ⟨.ready, none, st.n, st.tm, ps, x, y⟩)) (hAe _ _ _) hactn
    have hS1 : Step P E F.lim M β st.hp w (fun b => M b ∨ b = l) (upd β st.hp.next ⟨l, 0, 0⟩) (st.hp.new (.loop ⟨.ready, none, st.n, st.tm, ps, x, y⟩)) w1 :=
      hR.now.new (h := ⟨l, 0, 0⟩) hnext (.inr ⟨_, rfl⟩) hbel hlge (fun M' β' hs => ⟨_, hlp, rfl, rfl, rfl, rfl, rfl, hR.tmps.stab hs⟩)
    have hR1 := hR.world hS1
    have hLv : LR P E w1 (fun b => M b ∨ b = l) (upd β st.hp.next ⟨l, 0, 0⟩) (.yld st.hp.next :: caps) (.func (.yield l) #[] #[] :: vs.toList) :=
      ((LR.of_array hcl hcr).stab (hS1.stab hR.now)).cons (.yld (h := ⟨l, 0, 0⟩) upd_self)
    obtain ⟨hok, hcall⟩ := hA F.lim _ _ _ w1 (.fn f) _ _ _ hR1.now hLv hactn
    refine ⟨l, mark, w1, _, w1, f, #[.func (.yield l) #[] #[]] ++ vs, w1, he, hres, fun _ _ => trivial, ?_, fun h => (by cases h), ?_⟩
    · simp [invoke, run_callFunc hok]
    have earr : (Value.func (.yield l) #[] #[] :: vs.toList).toArray = #[Value.func (.yield l) #[] #[]] ++ vs := by
      apply Array.ext'
      simp
    rw [earr] at hcall
    refine (callsIn_wide (n := n - 1)).2 (hcall.mono fun e w2 hp => ?_)
    obtain ⟨u, M2, β2, r, rfl, hS2, hru, hk⟩ := hp
    clear hactn h
    -- the iterator has ended
    split at hk
    case h_2 => exact hk.elim
    rename_i rc hrc
    obtain ⟨h2, e1, lp, e2, e3, e4, e5, e6, e7, e8⟩ := hS2.now.heap.obj st.hp.next _ (by unfold Live; rw [hrc]; trivial) hrc
    have e0 := hS2.evo.hd _ _ (upd_self (β := β) (id := st.hp.next) (h := ⟨l, 0, 0⟩))
    rw [e1] at e0
    cases e0
    have hmarks : MarksOk F.b0 w1 (fun b => M b ∨ b = l) (mark ++ a.defers) := by
      rcases hmark with rfl | ⟨D, rfl, d1, d2, d3⟩
      · exact hR1.defers
      · obtain ⟨Ds, q1, q2, q3⟩ := hR.defers
        obtain ⟨Ds', q1', q2', q3'⟩ := hR1.defers
        refine ⟨D :: Ds, by rw [q1]; rfl, List.nodup_cons.2 ⟨fun hm => ?_, q2⟩, fun D' hD' => ?_⟩
        · have := (Array.getElem?_eq_some_iff.1 (q3 D hm).2.1).1
          omega
        · rcases List.mem_cons.1 hD' with rfl | hD'
          · refine ⟨Nat.le_trans hb0 (Nat.le_trans hR.evo.size d1), d2, ?_⟩
            rintro (hm | hm)
            · have := hR.now.nb _ hm
              omega
            · exact d3 hm
          · have eDs : Ds' = Ds := by
              have : Ds'.map markOf = Ds.map markOf := by rw [← q1', ← q1]
              exact (List.map_inj_right (fun x y e => by simpa [markOf] using e)).1 this
            rw [eDs] at q3'
            exact q3' D' hD'
    have hR2 : RelAt P E F (fun b => M b ∨ b = l) (upd β st.hp.next ⟨l, 0, 0⟩) ⟨st.n, st.tm, st.hp.new (.loop ⟨.ready, none, st.n, st.tm, ps, x, y⟩)⟩ { a with defers := mark ++ a.defers } w1 :=
      ⟨hmarks, hR1.evo, hR1.nb0, hR1.now, hR1.tmps, hR1.rnd, hR1.nle⟩
    have hR3 := hR2.world hS2
    have fin : rc.state ≠ .busy → (Instr.endLoop l).run P w2 = .ok rc.pend (w2.putObj l (.loop { lp with state := .exhausted })) ∧
        Rel P E F ⟨st.n, st.tm, r.2.put st.hp.next (.loop ⟨.exhausted, rc.pend, rc.n, rc.tm, rc.params, rc.assign, rc.body⟩)⟩ { a with defers := mark ++ a.defers } (w2.putObj l (.loop { lp with state := .exhausted })) := by
      intro hb
      have hrun := run_endLoop' (P := P) e2 (by rw [e3]; exact hb)
      have hS3 := loop_write hS2.now hrc e1 e2 (rc' := ⟨.exhausted, rc.pend, rc.n, rc.tm, rc.params, rc.assign, rc.body⟩) (lp' := { lp with state := .exhausted }) ⟨rfl, e4, e5, e6, e7, e8⟩
      exact ⟨hrun.trans (congrArg (fun z => Result.ok z _) e4), _, _, hR3.world hS3⟩
    split at hk
    · exact hk.elim
    · rename_i hst hnb
      obtain ⟨hrun, hRf⟩ := fin (fun e => hnb e)
      split at hk
      · rename_i hp0
        rw [hp0] at hrun hRf
        refine ⟨none, _, hrun, ?_⟩
        rw [hp0] at hk
        exact hk.2 _ _ hRf
      · rename_i hp0
        rw [hp0] at hrun hRf
        refine ⟨some .ret, _, hrun, ?_⟩
        rw [hp0] at hk
        exact wpIn_ret (hk.2 _ _ hRf)
      · rename_i k hp0
        rw [hp0] at hrun hRf
        refine ⟨some (.exit k), _, hrun, ?_⟩
        rw [hp0] at hk
        exact wpIn_exit (hk.2 _ _ hRf)
      · exact hk.elim
  | scope b ih =>
    intro st a w Q hLo hR h
    refine wpIn_scope (ih st a w _ hLo hR (Tree.holds_mono (fun x hx => ⟨hx.1, fun a' w' hR' => ?_⟩) h))
    have := hx.2 a' w' hR'
    cases hx1 : x.1 <;> rw [hx1] at this <;> exact this
  | goto l => intro st a w Q hLo hR h; exact h.elim
  | refuse s => intro st a w Q hLo hR h; exact h.elim
end
end Go.Cx
