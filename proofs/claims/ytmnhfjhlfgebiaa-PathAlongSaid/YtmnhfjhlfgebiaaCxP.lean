/- The evaluator: calls are sound. No condition. -/
import Derived.Test.YtmnhfjhlfgebiaaCxO
set_option linter.unusedVariables false
noncomputable section
namespace Go.Cx
open Go.RowKit
variable {T : Nat → Type} {P : Program} {E : Enc T} {cl : Bool} {act : Tgt → List (AV T) → Hp T → Tree (AV T × Hp T)} {D : Array Oper → St T → Tree (St T)} {fuel : Nat}

/-- No function of the program has the name that the model keeps for itself. -/
def NamesOk (P : Program) : Prop := ∀ (f : Nat) (fn : Func), P.funcs[f]? = some fn → (fn.name == "runtime.NumGoroutine") = false

section
variable {M M' : Nat → Prop} {β β' : Nat → Option Hd} {lim : Nat} {w w' : World} {hp hp' : Hp T}

theorem tmAt_ofL (as : List (AV T)) (j : Nat) : tmAt (ofL as) j = as.getD j .any := by
  have e : tmAt (ofL as) j = cellAt (ofL as) .any j := rfl
  rw [e]
  by_cases h : j < as.length
  · exact ofL_get as .any j h
  · unfold ofL
    rw [wrL_get, if_neg (by omega)]
    simp only [cellAt, Tr.get_nil, List.getD]
    rw [List.getElem?_eq_none (by omega)]
    rfl

theorem runFn_sound (hE : E.Good P) (hA : ActOk P E act) (hAe : ActGr act) (hD : DrawOk P E D) (hDe : ∀ ops (st : St T), (D ops st).every fun st' => Gr st.hp st'.hp) (hN : NamesOk P) {f : Nat} {fn : Func} (hf : P.funcs[f]? = some fn) {L : LoopTab T} (hLe : LoopGr L) (hLo : ∀ c, fn.body = some c → ∀ b ∈ loopsIn c, ∀ F : Fm, F.n0 = hp.next → F.b0 ≤ F.w0.heap.size → F.rr = none → (∀ id, F.n0 ≤ id → id < F.lim → F.β0 id = none) → LoopOk P E F L b) {as : List (AV T)} {vs : List Value} {K : AV T × Hp T → Prop}
    (hnow : Now P E lim M β hp w) (hL : LR P E w M β as vs) (h : (runFn P E cl act D L fuel fn as hp).holds fun r => r.2.next ≤ lim ∧ K r) : CallOk P f ∧ Calls P f vs.toArray w (Post P E lim M β hp w K) := by
  unfold runFn at h
  split at h
  · exact h.elim
  · rename_i c hb
    have hq := holds_bif h
    clear h
    obtain ⟨hlen, h⟩ := hq
    have hlen := bble hlen
    refine ⟨⟨fn, hf, hN f fn hf, by rw [hb]; rfl⟩, ?_⟩
    have hsz : as.length = vs.length := hL.1
    have hTR : TR P E w M β fn.ntmps (ofL as) (vs.toArray ++ Array.replicate (fn.ntmps - vs.toArray.size) undef) := by
      refine ⟨by simp; omega, fun j => ?_⟩
      rw [tmAt_ofL]
      by_cases hj : j < as.length
      · have hv : vs[j]? = some (vs[j]'(by omega)) := List.getElem?_eq_getElem _
        have := getD_rv hL j _ hv
        have e : (vs.toArray ++ Array.replicate (fn.ntmps - vs.toArray.size) undef).getD j undef = vs[j]'(by omega) := by
          simp only [Array.getD_eq_getD_getElem?]
          rw [Array.getElem?_append_left (by simp; omega)]
          simp [hv]
        rw [e]
        exact this
      · have : as.getD j .any = .any := by simp only [List.getD]; rw [List.getElem?_eq_none (by omega)]; rfl
        rw [this]
        exact .any
    have hR : Rel P E ⟨w, M, Own hp.get β, β, hp.next, w.heap.size, none, lim⟩ ⟨fn.ntmps, ofL as, hp⟩ { tmps := vs.toArray ++ Array.replicate (fn.ntmps - vs.toArray.size) undef, defers := [] } w :=
      ⟨M, β, MarksOk.nil, Evo.refl, hnow.nb, hnow, hTR, (fun p e => by cases e), Nat.le_refl _⟩
    refine (callsIn_wide (n := 0)).1 (callsIn_of_wp_marks (F := FR none) hf hb trivial (exec_sound (cl := cl) (fuel := fuel) (F := ⟨w, M, Own hp.get β, β, hp.next, w.heap.size, none, lim⟩) (n := 0) (Nat.le_refl _) hE hA hAe hD hDe hLe c _ _ _ _ (fun b hb' => hLo c hb b hb' _ rfl (Nat.le_refl _) rfl (fun id h1 h2 => (hnow.free id h1 h2).1)) hR ?_))
    refine Tree.holds_mono (fun r hr => ?_) (Tree.holds_bind.1 h)
    obtain ⟨e, st⟩ := r
    have fin : (((resultsA P fn st).bind fun v => fv cl v fun v' => (Tree.leaf (v', st.hp) : Tree (AV T × Hp T))).holds fun r => r.2.next ≤ lim ∧ K r) →
        st.hp.next ≤ lim ∧ ∀ a' w', Rel P E ⟨w, M, Own hp.get β, β, hp.next, w.heap.size, none, lim⟩ st a' w' → LeavesInM (FR none) 0 P fn a'.tmps (Post P E lim M β hp w K) a'.defers .returning w' := by
      intro h
      have h := Tree.holds_bind.1 h
      have h : (resultsA P fn st).holds fun v => st.hp.next ≤ lim ∧ K (v, st.hp) := Tree.holds_mono (fun v hv => by rw [fv_eq] at hv; exact hv) h
      refine ⟨(Tree.holds_some h).elim fun _ hx => hx.1, fun a' w' hR' => ?_⟩
      obtain ⟨Ds, e1⟩ : ∃ Ds : List Nat, a'.defers = Ds.map markOf := by
        obtain ⟨_, _, hRA⟩ := hR'
        obtain ⟨Ds, e1, _⟩ := hRA.defers
        exact ⟨Ds, e1⟩
      refine leavesM (st := st) (F := ⟨w, M, Own hp.get β, β, hp.next, w.heap.size, none, lim⟩) rfl (fun a2 w2 ht hR2 => ?_) Ds a' w' rfl e1 hR'
      obtain ⟨M2, β2, hR2⟩ := hR2
      obtain ⟨u, v, hu, hrv, hk⟩ := resultsA_runs (fn := fn) hR2.now.heap hR2.tmps h
      rw [ht] at hu
      exact ⟨u, hu, u, M2, β2, (v, st.hp), rfl, ⟨hR2.evo, hR2.now, hR2.nle⟩, hrv, hk.2⟩
    cases e with
    | normal => exact fin hr
    | exit id => exact hr.elim
    | ret => exact fin hr

theorem setPs_tr : ∀ (ps : List Tmp) (as : List (AV T)) (vs : List Value) {n : Nat} {tm : Tr (AV T)} {tmps : Array Value}, LR P E w M β as vs → TR P E w M β n tm tmps →
    TR P E w M β n (setPs ps as n tm) ((ps.zip vs).foldl (fun tmps (x : Tmp × Value) => tmps.setIfInBounds x.1 x.2) tmps)
  | [], as, vs, n, tm, tmps, _, h => by simpa [setPs] using h
  | p :: ps, [], [], n, tm, tmps, _, h => by simpa [setPs] using h
  | p :: ps, [], v :: vs, n, tm, tmps, hl, _ => by have := hl.1; simp at this
  | p :: ps, x :: as, [], n, tm, tmps, hl, _ => by have := hl.1; simp at this
  | p :: ps, x :: as, v :: vs, n, tm, tmps, hl, h => by
    obtain ⟨hx, hl'⟩ := hl.uncons
    simp only [setPs, List.zip_cons_cons, List.foldl_cons]
    refine setPs_tr ps as vs hl' ?_
    have := TR.put (a := { tmps := tmps, defers := [] }) h hx (some p) ⟨0, .nil, []⟩
    simp only [put, Act.put] at this
    cases hlt : Nat.blt p n with
    | true => simpa [hlt] using this
    | false => simpa [hlt] using this

theorem rndT_sound (hE : E.Good P) (hA : ActOk P E act) (hAe : ActGr act) (hD : DrawOk P E D) (hDe : ∀ ops (st : St T), (D ops st).every fun st' => Gr st.hp st'.hp) {id : Nat} {as : List (AV T)} {vs : List Value} {K : AV T × Hp T → Prop}
    (hnow : Now P E lim M β hp w) (hL : LR P E w M β as vs) (h : (rndT P E cl act D fuel id as hp).holds fun r => r.2.next ≤ lim ∧ K r) {hd : Hd} (hβ : β id = some hd) (n : Nat) :
    ∃ fn tmps assign body, (Instr.yield hd.block vs.toArray).run P w = .ok (.round hd.block fn tmps assign body) w ∧ RoundIn (FR none) n P hd.block fn tmps assign body w (Post P E lim M β hp w K) := by
  unfold rndT at h
  split at h
  case h_2 => exact h.elim
  rename_i rc hrc
  have hq := holds_bif h
  clear h
  obtain ⟨hlen, h⟩ := hq
  have hlen := bbeq hlen
  obtain ⟨hd', e1, lp, e2, e3, e4, e5, e6, e7, e8⟩ := hnow.heap.obj id _ (by unfold Live; rw [hrc]; trivial) hrc
  rw [hβ] at e1
  cases e1
  have hy := run_yield (P := P) (args := vs.toArray) e2 (by rw [e5]; simp; rw [← hL.1]; exact hlen)
  refine ⟨_, _, _, _, hy, roundIn_of_wpIn (F := FR none) trivial ?_⟩
  rw [e6, e7, e5]
  have hTR : TR P E w M β rc.n (setPs rc.params.toList as rc.n rc.tm) ((rc.params.zip vs.toArray).foldl (fun tmps (x : Tmp × Value) => tmps.setIfInBounds x.1 x.2) lp.tmps) := by
    have := setPs_tr rc.params.toList as vs hL e8
    rw [← Array.foldl_toList, Array.toList_zip]
    simpa using this
  have hR : Rel P E ⟨w, M, Own hp.get β, β, hp.next, w.heap.size, some (id, hd.block), lim⟩ ⟨rc.n, setPs rc.params.toList as rc.n rc.tm, hp⟩ { tmps := (rc.params.zip vs.toArray).foldl (fun tmps (x : Tmp × Value) => tmps.setIfInBounds x.1 x.2) lp.tmps, defers := [] } w :=
    ⟨M, β, MarksOk.nil, Evo.refl, hnow.nb, hnow, hTR, (fun p e => by cases e; exact ⟨hd, hβ, rfl⟩), Nat.le_refl _⟩
  refine (exec_sound (cl := cl) (fuel := fuel) (F := ⟨w, M, Own hp.get β, β, hp.next, w.heap.size, some (id, hd.block), lim⟩) (n := n) (Nat.le_refl _) hE hA hAe hD hDe L0_gr rc.assign _ _ _ _ (fun _ _ => L0_ok) hR (Tree.holds_mono (fun r1 h1 => ?_) (Tree.holds_bind.1 h)) : rc.assign.wpIn (FR (some hd.block)) n P _ _ w)
  clear h
  obtain ⟨x1, st1⟩ := r1
  cases x1 with
  | exit _ => exact h1.elim
  | ret => exact h1.elim
  | normal =>
  simp only at h1
  split at h1
  case h_2 => exact h1.elim
  rename_i rc1 hrc1
  split at h1
  case h_2 => exact h1.elim
  rename_i hready
  have h2 := Tree.holds_bind.1 h1
  clear h1
  have h2 := holds_add (R := fun r2 : Ex × St T => r2.2.hp.next ≤ lim) (by
    intro r2 h3
    split at h3
    · exact h3.1
    · exact h3.elim) h2
  refine ⟨next_le (f := fun x : Ex × St T => x.2.hp) (hp := st1.hp) (Tree.every_mono (fun (x : Ex × St T) (k : Gr (st1.hp.put id (.loop ⟨.busy, rc1.pend, rc1.n, rc1.tm, rc1.params, rc1.assign, rc1.body⟩)) x.2.hp) => (Gr.put (by rw [hrc1]; simp)).trans k) (exec_every hAe hDe L0_gr rc.body _ ⟨st1.n, st1.tm, st1.hp.put id (.loop ⟨.busy, rc1.pend, rc1.n, rc1.tm, rc1.params, rc1.assign, rc1.body⟩)⟩)) h2, fun a1 w1 hR1 => ?_⟩
  obtain ⟨M1, β1, hR1⟩ := hR1
  obtain ⟨hd1, f1, f2⟩ := hR1.rnd _ rfl
  simp only at f1 f2
  obtain ⟨hd1', g1, lp1, g2, g3, g4, g5, g6, g7, g8⟩ := hR1.now.heap.obj id _ (by unfold Live; rw [hrc1]; trivial) hrc1
  rw [f1] at g1
  cases g1
  rw [f2] at g2
  have hS1 := loop_write hR1.now hrc1 f1 (by rw [f2]; exact g2) (rc' := ⟨.busy, rc1.pend, rc1.n, rc1.tm, rc1.params, rc1.assign, rc1.body⟩) (lp' := { lp1 with state := .busy }) ⟨rfl, g4, g5, g6, g7, g8⟩
  rw [f2] at hS1
  refine ⟨_, run_beginRound g2 (by rw [g3]; exact hready), ?_⟩
  have hR2 := hR1.world hS1
  refine (exec_sound (cl := cl) (fuel := fuel) (F := ⟨w, M, Own hp.get β, β, hp.next, w.heap.size, some (id, hd.block), lim⟩) (n := n) (Nat.le_refl _) hE hA hAe hD hDe L0_gr rc.body _ _ _ _ (fun _ _ => L0_ok) ⟨_, _, hR2⟩ (Tree.holds_mono (fun r2 h3 => ?_) h2) : rc.body.wpIn (FR (some hd.block)) n P _ _ _)
  clear h2
  obtain ⟨h4, h3⟩ := h3
  obtain ⟨x2, st2⟩ := r2
  refine ⟨h4, fun a2 w2 hR3 => ?_⟩
  obtain ⟨M2, β2, hR3⟩ := hR3
  split at h3
  case h_2 => exact h3.elim
  rename_i rc2 hrc2
  obtain ⟨hd2, k1, k2⟩ := hR3.rnd _ rfl
  simp only at k1 k2
  obtain ⟨hd2', l1, lp2, l2, l3, l4, l5, l6, l7, l8⟩ := hR3.now.heap.obj id _ (by unfold Live; rw [hrc2]; trivial) hrc2
  rw [k1] at l1
  cases l1
  rw [k2] at l2
  have fin : ∃ v w', (Instr.endRound hd.block x2.jump).run P w2 = .ok v w' ∧ Post P E lim M β hp w K (.returned v) w' := by
    have hrun := run_endRound' (P := P) x2.jump l2
    have hS2 := loop_write hR3.now hrc2 k1 (by rw [k2]; exact l2) (rc' := ⟨bif x2.isN then .ready else .done, x2.jump, rc2.n, rc2.tm, rc2.params, rc2.assign, rc2.body⟩) (lp' := { lp2 with state := if x2.jump.isNone then .ready else .done, pending := x2.jump })
      ⟨by cases x2 <;> rfl, rfl, l5, l6, l7, l8⟩
    rw [k2] at hS2
    have hRf := hR3.world hS2
    refine ⟨_, _, hrun, _, _, _, _, rfl, ⟨hRf.evo, hRf.now, hRf.nle⟩, ?_, h3.2⟩
    cases x2 <;> exact .lit
  cases x2 with
  | normal => exact fin
  | exit k => exact fin
  | ret => exact fin

end

/-! ### Calls, with so much fuel -/
section
variable (P : Program) (E : Enc T) (cl : Bool) (DD : (Tgt → List (AV T) → Hp T → Tree (AV T × Hp T)) → Array Oper → St T → Tree (St T)) (fuel : Nat)
def callT : Nat → Tgt → List (AV T) → Hp T → Tree (AV T × Hp T)
  | 0 => fun _ _ _ => .fail
  | n + 1 => fun tgt as hp => match tgt with
    | .fn f => match P.funcs[f]? with
      | some fn => runFn P E cl (callT n) (DD (callT n)) L0 fuel fn as hp
      | none => .fail
    | .yld id => rndT P E cl (callT n) (DD (callT n)) fuel id as hp
end

theorem callT_every {DD : (Tgt → List (AV T) → Hp T → Tree (AV T × Hp T)) → Array Oper → St T → Tree (St T)} (hDD : ∀ act, ActGr act → ∀ ops (st : St T), (DD act ops st).every fun st' => Gr st.hp st'.hp) : ∀ n, ActGr (callT P E cl DD fuel n)
  | 0 => fun _ _ _ => trivial
  | n + 1 => fun tgt as hp => by
    have ih := callT_every hDD n
    cases tgt with
    | fn f =>
      simp only [callT]
      split
      · exact runFn_every ih (hDD _ ih) L0_gr
      · trivial
    | yld id => exact rndT_every ih (hDD _ ih)

theorem callT_ok (hE : E.Good P) (hN : NamesOk P) {DD : (Tgt → List (AV T) → Hp T → Tree (AV T × Hp T)) → Array Oper → St T → Tree (St T)} (hDe : ∀ act, ActGr act → ∀ ops (st : St T), (DD act ops st).every fun st' => Gr st.hp st'.hp)
    (hDD : ∀ act, ActOk P E act → ActGr act → DrawOk P E (DD act)) : ∀ n, ActOk P E (callT P E cl DD fuel n)
  | 0 => fun _ _ _ _ _ _ _ _ _ _ _ h => h.elim
  | n + 1 => fun lim M β hp w tgt as vs K hnow hL h => by
    have ih := callT_ok hE hN hDe hDD n
    have ihe := callT_every (P := P) (E := E) (cl := cl) (fuel := fuel) hDe n
    cases tgt with
    | fn f =>
      simp only [callT] at h
      split at h
      · rename_i fn hf
        exact runFn_sound hE ih ihe (hDD _ ih ihe) (hDe _ ihe) hN hf L0_gr (fun _ _ _ _ _ _ _ _ _ => L0_ok) hnow hL h
      · exact h.elim
    | yld id => exact fun hd hβ n => rndT_sound hE ih ihe (hDD _ ih ihe) (hDe _ ihe) hnow hL h hβ n
end Go.Cx
