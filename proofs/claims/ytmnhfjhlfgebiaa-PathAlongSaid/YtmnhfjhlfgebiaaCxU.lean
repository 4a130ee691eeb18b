/- The evaluator: one operation in a mixed state. No condition. -/
import Derived.Test.YtmnhfjhlfgebiaaCxT
set_option linter.unusedVariables false
noncomputable section
namespace Go.Cx
open Go.RowKit
variable {T : Nat → Type} {P : Program} {E : Enc T} {cl : Bool} {act : Tgt → List (AV T) → Hp T → Tree (AV T × Hp T)}

/-- How a mixed state stands to the machine's. -/
structure MixAt (P : Program) (E : Enc T) (F : Fm) (n : Nat) (Fr : Nat → Prop) (M : Nat → Prop) (β : Nat → Option Hd) (tm : Nat → AV T) (H : Nat → Option (AO T)) (a : Act) (w : World) : Prop where
  defers : MarksOk F.b0 w M a.defers
  evo : Evo (fun id => F.n0 ≤ id ∧ id < F.lim) F.w0 F.M0 F.O0 F.β0 w M (Own H β) β
  nb0 : ∀ b, F.M0 b → b < F.w0.heap.size
  heap : HeapRel P E w M β H
  nb : ∀ b, M b → b < w.heap.size
  free : ∀ id, Fr id → β id = none ∧ H id = none
  nomem : ∀ f hd s sh, H f = some (.fam hd sh) → s = hd ∨ s ∈ sh → Fr s → False
  size : n = a.tmps.size
  tmps : ∀ j, RV P E w M β (tm j) (a.tmps.getD j undef)
  rnd : ∀ p, F.rr = some p → ∃ h, β p.1 = some h ∧ h.block = p.2
def Mix (P : Program) (E : Enc T) (F : Fm) (n : Nat) (Fr : Nat → Prop) (tm : Nat → AV T) (H : Nat → Option (AO T)) (a : Act) (w : World) : Prop := ∃ M β, MixAt P E F n Fr M β tm H a w

theorem vop_not_defer {hp : Hp T} {tm : Tr (AV T)} {o : Oper} {x : AV T × Hp T} (h : (vop P E cl act tm hp o).reach x) (c : Call) : o.op ≠ .defer c := by
  intro ho
  unfold vop at h
  rw [ho] at h
  exact h

section
variable {M : Nat → Prop} {β : Nat → Option Hd} {H1 : Nat → Option (AO T)} {F : Fm} {n : Nat} {Fr Fr' : Nat → Prop} {tm : Nat → AV T} {H : Nat → Option (AO T)} {a : Act} {w : World} {o : Oper} {K : Act → World → Prop} {Q : Exit → Act → World → Prop} {ops : Array Oper} {i : Nat} {q : Rc T}

theorem Mix.put (hR : MixAt P E F n Fr M β tm H a w) {M' : Nat → Prop} {β' : Nat → Option Hd} {H' : Nat → Option (AO T)} {w' : World} {lo hi : Nat} (hH' : HeapRel P E w' M' β' H') (hnb : ∀ b, M' b → b < w'.heap.size) (hev : Evo (fun id => lo ≤ id ∧ id < hi) w M (Own H β) β w' M' (Own H' β') β')
    (hfr : ∀ id, β id = none → H id = none → ¬ (lo ≤ id ∧ id < hi) → β' id = none ∧ H' id = none)
    (hmem : ∀ f hd s sh, H' f = some (.fam hd sh) → s = hd ∨ s ∈ sh → (∃ hd0 sh0, H f = some (.fam hd0 sh0) ∧ (s = hd0 ∨ s ∈ sh0)) ∨ H s ≠ none ∨ (lo ≤ s ∧ s < hi))
    (hn0 : F.n0 ≤ lo) (hlim : hi ≤ F.lim) (hFr : ∀ id, Fr' id → Fr id ∧ ¬ (lo ≤ id ∧ id < hi)) {v : AV T} {u : Value} (hv : RV P E w' M' β' v u) {dst : Option Nat} (hdst : dst = dstD n o) :
    MixAt P E F n Fr' M' β' (fun x => if dst = some x then v else tm x) H' (a.put o.dst u) w' := by
  have hst : Stab w M β w' M' β' := hev.stab hR.heap.ownM
  refine ⟨?_, hR.evo.trans hev hR.nb0 (fun id h => ⟨Nat.le_trans hn0 h.1, Nat.lt_of_lt_of_le h.2 hlim⟩), hR.nb0, hH', hnb, fun id h => ?_, fun f hd s sh h1 h2 h3 => ?_, ?_, fun j => ?_, fun p e => ?_⟩
  · rw [put_defers]
    refine hR.defers.keep fun D hD hM => ?_
    have hlt := (Array.getElem?_eq_some_iff.1 hD).1
    refine ⟨(hev.old D hlt (fun ho => hM (hR.heap.ownM D ho))).trans hD, fun hM' => ?_⟩
    rcases hev.mutb D hM' with h1 | h1
    · exact hM h1
    · omega
  · obtain ⟨h1, h2⟩ := hFr id h
    obtain ⟨h3, h4⟩ := hR.free id h1
    exact hfr id h3 h4 h2
  · obtain ⟨h4, h5⟩ := hFr s h3
    rcases hmem f hd s sh h1 h2 with ⟨hd0, sh0, h6, h7⟩ | h6 | h6
    · exact hR.nomem f hd0 s sh0 h6 h7 h4
    · exact h6 (hR.free s h4).2
    · exact h5 h6
  · rw [hR.size]
    cases o.dst with
    | none => rfl
    | some d => simp [Act.put]
  · subst hdst
    cases hd : o.dst with
    | none =>
      have : dstD n o = none := by unfold dstD; rw [hd]
      rw [this, if_neg (by simp)]
      exact (hR.tmps j).stab hst
    | some d =>
      simp only [Act.put]
      cases hb : Nat.blt d n with
      | true =>
        have hlt := bblt hb
        have : dstD n o = some d := by unfold dstD; rw [hd]; simp [hb]
        rw [this]
        by_cases hj : j = d
        · subst hj
          rw [if_pos rfl]
          have hs : j < a.tmps.size := by rw [← hR.size]; exact hlt
          have : (a.tmps.setIfInBounds j u).getD j undef = u := by simp [Array.getD_eq_getD_getElem?, hs]
          rw [this]
          exact hv
        · rw [if_neg (by intro hc; exact hj (Option.some.inj hc).symm)]
          have : (a.tmps.setIfInBounds d u).getD j undef = a.tmps.getD j undef := by
            simp only [Array.getD_eq_getD_getElem?]
            rw [Array.getElem?_setIfInBounds_ne (by omega)]
          rw [this]
          exact (hR.tmps j).stab hst
      | false =>
        have : dstD n o = none := by unfold dstD; rw [hd]; simp [hb]
        rw [this, if_neg (by simp)]
        have hge : a.tmps.size ≤ d := by
          rw [← hR.size]
          refine Nat.le_of_not_lt fun hc => ?_
          have : Nat.blt d n = true := by simp [Nat.blt]; omega
          rw [this] at hb
          cases hb
        rw [Array.setIfInBounds_eq_of_size_le hge]
        exact (hR.tmps j).stab hst
  · obtain ⟨h', h1, h2⟩ := hR.rnd p e
    exact ⟨h', hev.hd _ _ h1, h2⟩

/-- One operation, in whatever order. -/
theorem mix_step {rr : Option Nat} {nn : Nat} (hE : E.Good P) (hA : ActOk P E act) (hAe : ActGr act) (ho : ops[i]? = some o) (hrun : (dval P E cl act ops.toList i o q.tr q.r).reach (q.v, q.hp)) (hS : Sub H q.r) (hlog : q.r.log = []) (htr : ∀ j, tmAt q.tr j = .any ∨ tmAt q.tr j = tm j)
    (hput : ∀ id ∈ q.hp.log, PutOk H1 q.hp id) (hdst : q.dst = dstD n o) (hn0 : F.n0 ≤ q.r.next) (hlim : q.hp.next ≤ F.lim) (hwin : ∀ id, q.r.next ≤ id → id < q.hp.next → Fr id) (hFr : ∀ id, Fr' id → Fr id ∧ ¬ (q.r.next ≤ id ∧ id < q.hp.next))
    (hR : Mix P E F n Fr tm H a w) (hk : ∀ a' w', Mix P E F n Fr' (fun x => if q.dst = some x then q.v else tm x) (fun id => if id ∈ q.hp.log then q.hp.get id else H id) a' w' → K a' w') : wpOpIn (FR rr) nn P ops Q i K a w := by
  obtain ⟨M, β, hR⟩ := hR
  have hG : Gr q.r q.hp := Tree.reach_every (Q := fun x : AV T × Hp T => Gr q.r x.2) hrun (dval_every hAe)
  obtain ⟨v0, hdop, hv⟩ : ∃ v0, (dop P E cl act ops.toList o q.tr q.r).reach (v0, q.hp) ∧ ∀ (w : World) (M : Nat → Prop) (β : Nat → Option Hd) (u : Value), RV P E w M β v0 u → RV P E w M β q.v u := by
    unfold dval at hrun
    cases hu : usedAsGuard i ops.toList with
    | false =>
      rw [hu] at hrun
      exact ⟨q.v, hrun, fun _ _ _ _ h => h⟩
    | true =>
      rw [hu] at hrun
      obtain ⟨⟨v0, hp0⟩, h1, h2⟩ := Tree.reach_bind hrun
      have fin : ∀ {x y : AV T × Hp T}, x = y → x.1 = y.1 ∧ x.2 = y.2 := fun e => by subst e; exact ⟨rfl, rfl⟩
      unfold split1 at h2
      cases v0 with
      | bool b =>
        rcases h2 with ⟨e, h2⟩ | ⟨e, h2⟩
        · obtain ⟨e1, e2⟩ := fin (show (q.v, q.hp) = (.lit true, hp0) from h2)
          simp only at e1 e2
          subst e
          rw [e2]
          exact ⟨_, h1, fun w M β u h => by rw [e1]; cases h; exact .lit⟩
        · obtain ⟨e1, e2⟩ := fin (show (q.v, q.hp) = (.lit false, hp0) from h2)
          simp only at e1 e2
          subst e
          rw [e2]
          exact ⟨_, h1, fun w M β u h => by rw [e1]; cases h; exact .lit⟩
      | _ =>
        obtain ⟨e1, e2⟩ := fin (show (q.v, q.hp) = (_, hp0) from h2)
        simp only at e1 e2
        rw [e2]
        exact ⟨_, h1, fun w M β u h => by rw [e1]; exact h⟩
  have hfree : ∀ id, q.r.next ≤ id → id < q.hp.next → β id = none ∧ H id = none := fun id h1 h2 => hR.free id (hwin id h1 h2)
  have hnm : ∀ f hd s sh, H f = some (.fam hd sh) → s = hd ∨ s ∈ sh → q.r.next ≤ s → s < q.hp.next → False := fun f hd s sh h1 h2 h3 h4 => hR.nomem f hd s sh h1 h2 (hwin s h3 h4)
  have hNow : Now P E q.hp.next M β q.r w := hS.now hR.heap hR.nb rfl hfree hnm
  have ht : TR P E w M β n q.tr a.tmps := ⟨hR.size, fun j => by
    rcases htr j with h | h
    · rw [h]; exact .any
    · rw [h]; exact hR.tmps j⟩
  have after : ∀ {M' : Nat → Prop} {β' : Nat → Option Hd} {w' : World} {u : Value}, Step P E q.hp.next M β q.r w M' β' q.hp w' → RV P E w' M' β' v0 u → K (a.put o.dst u) w' := by
    intro M' β' w' u hSt hu
    obtain ⟨f1, f2, f3, f4, f5⟩ := frame (H' := fun id => if id ∈ q.hp.log then q.hp.get id else H id) hS hR.heap hR.nb rfl rfl hlog hfree hnm hG
      (fun id n c d f hm e => by obtain ⟨o', k1, _, k3, _⟩ := hput id hm; rw [e] at k1; exact k3 n c d f (Option.some.inj k1).symm)
      (fun f hd sh m hm e hmem => by obtain ⟨o', k1, _, _, k4⟩ := hput f hm; rw [e] at k1; exact k4 hd sh m (Option.some.inj k1).symm hmem) hSt (fun id => rfl)
    exact hk _ _ ⟨M', β', Mix.put hR f1 f2 f3 f4 f5 hn0 hlim hFr (hv _ _ _ _ hu) hdst⟩
  have run : (vop P E cl act q.tr q.r o).reach (v0, q.hp) → o.wpIn (FR rr) nn P a w K Q := fun h =>
    vop_sound hE hA hNow ht (Tree.holds_mono (fun rv e => by
      subst e
      exact ⟨Nat.le_refl _, fun u M' β' w' hSt hu => after hSt hu⟩) (Tree.reach_holds h))
  unfold dop at hdop
  unfold wpOpIn
  simp only [ho]
  cases hg : o.guard with
  | none =>
    simp only [hg] at hdop
    rw [if_pos (by simp [Region.wanted, hg])]
    exact run hdop
  | some jw =>
    obtain ⟨j, want⟩ := jw
    simp only [hg] at hdop
    cases hd : (ops.toList[j]?).bind (·.dst) with
    | none => simp only [hd] at hdop; exact hdop.elim
    | some d =>
      simp only [hd] at hdop
      have hd' : (ops[j]?).bind (·.dst) = some d := by rw [← Array.getElem?_toList]; exact hd
      split at hdop
      · rename_i b hb
        have htv := ht.2 d
        rw [hb] at htv
        have hsz : d < a.tmps.size := by
          refine Nat.lt_of_not_le fun hc => ?_
          have : a.tmps.getD d undef = undef := by simp [Array.getD_eq_getD_getElem?, Array.getElem?_eq_none hc]
          rw [this] at htv
          cases htv
        have htmp : a.tmps[d]? = some (.bool b) := by
          have e : a.tmps[d]? = some (a.tmps.getD d undef) := by simp [Array.getD_eq_getD_getElem?, hsz]
          rw [e]
          generalize a.tmps.getD d undef = x at htv
          cases htv
          rfl
        have hy : Region.wanted o (yielded ops a.tmps) = (some b == some want) := by
          simp [Region.wanted, hg, yielded, hd', htmp]
        rw [hy]
        cases hbw : b == want with
        | true =>
          simp only [hbw, cond_true] at hdop
          rw [if_pos (by simpa using hbw)]
          exact run hdop
        | false =>
          simp only [hbw, cond_false] at hdop
          have e : (v0, q.hp) = (.tup [], q.r) := hdop
          obtain ⟨e1, e2⟩ : v0 = .tup [] ∧ q.hp = q.r := ⟨congrArg Prod.fst e, congrArg Prod.snd e⟩
          rw [if_neg (by simpa using hbw)]
          refine ⟨fun _ _ => trivial, after (M' := M) (β' := β) (w' := w) ?_ (by rw [e1]; exact .tup rfl fun j c v h => by simp at h)⟩
          have := Step.refl hNow
          rw [e2] at this ⊢
          exact this
      · rename_i hb
        have htv := ht.2 d
        rw [hb] at htv
        have hu : a.tmps.getD d undef = .tuple #[] := by
          generalize a.tmps.getD d undef = x at htv
          cases htv with
          | tup hl _ => rw [Array.eq_empty_of_size_eq_zero hl.symm]
        rw [wanted_undef hg hd' hu]
        have e : (v0, q.hp) = (.tup [], q.r) := hdop
        obtain ⟨e1, e2⟩ : v0 = .tup [] ∧ q.hp = q.r := ⟨congrArg Prod.fst e, congrArg Prod.snd e⟩
        rw [if_neg (by simp)]
        refine ⟨fun _ _ => trivial, after (M' := M) (β' := β) (w' := w) ?_ (by rw [e1]; exact .tup rfl fun j c v h => by simp at h)⟩
        have := Step.refl hNow
        rw [e2] at this ⊢
        exact this
      · exact hdop.elim
end
end Go.Cx
