/- The evaluator: drawn regions are sound. No condition. -/
import Derived.Test.YtmnhfjhlfgebiaaCxV
set_option linter.unusedVariables false
noncomputable section
namespace Go.Cx
open Go.RowKit
variable {T : Nat → Type} {P : Program} {E : Enc T} {cl : Bool} {act : Tgt → List (AV T) → Hp T → Tree (AV T × Hp T)}

def FrD (r : Nat → Rc T) (n0 : Nat) (N lim : Nat) (D : Nat → Bool) (id : Nat) : Prop := (mixN r n0 N ≤ id ∧ id < lim) ∨ ∃ k, k < N ∧ D k = false ∧ mixN r n0 k ≤ id ∧ id < mixN r n0 (k + 1)

section
variable {ops : Array Oper} {r : Nat → Rc T} {ms : List Nat} {st0 : St T} {F : Fm} {Q : Exit → Act → World → Prop} {D D' : Nat → Bool}

abbrev MixD (P : Program) (E : Enc T) (F : Fm) (ops : Array Oper) (r : Nat → Rc T) (st0 : St T) (D : Nat → Bool) (a : Act) (w : World) : Prop :=
  Mix P E F st0.n (FrD r st0.hp.next ops.size F.lim D) (mixT r D (tmAt st0.tm) ops.size) (mixH r D st0.hp.get ops.size) a w

theorem draw_step {rr : Option Nat} {nn : Nat} (hE : E.Good P) (hA : ActOk P E act) (hf : DF P E cl act ops r ms st0 F.lim) (hn0 : F.n0 ≤ st0.hp.next) (hD : Closed ops D) {i : Nat} {o : Oper} (ho : ops[i]? = some o) (hi : D i = false) (hdep : ∀ e ∈ o.after, Region.binds .any e = true → D e.on = true)
    (h1 : ∀ k, k ≠ i → D' k = D k) (hi' : D' i = true) {a : Act} {w : World} {K : Act → World → Prop} (hR : MixD P E F ops r st0 D a w) (hk : ∀ a' w', MixD P E F ops r st0 D' a' w' → K a' w') : wpOpIn (FR rr) nn P ops Q i K a w := by
  have hil : i < ops.size := (Array.getElem?_eq_some_iff.1 ho).1
  have hO := hf.at hil
  have eo : ops[i] = o := by rw [Array.getElem?_eq_getElem hil] at ho; exact Option.some.inj ho
  rw [eo] at hO
  have hlo := hO.lo
  have hhi : (r i).hp.next = mixN r st0.hp.next (i + 1) := rfl
  have hstep := hf.mono' (Nat.le_succ i) hil
  have hle : mixN r st0.hp.next (i + 1) ≤ mixN r st0.hp.next ops.size := hf.mono' hil (Nat.le_refl _)
  refine mix_step (q := r i) (Fr' := FrD r st0.hp.next ops.size F.lim D') hE hA hf.act ho hO.run (mix_sub hf hD ho hi hdep) hO.rlog (mix_tmps hf hD ho hi hdep) hO.put hO.dst ?_ ?_ ?_ ?_ hR fun a' w' h => hk a' w' ?_
  · rw [hlo]
    exact Nat.le_trans hn0 (hf.mono' (Nat.zero_le i) (Nat.le_of_lt hil))
  · rw [hhi]; exact Nat.le_trans hle hf.le
  · intro id h1 h2
    rw [hlo] at h1
    exact .inr ⟨i, hil, hi, h1, h2⟩
  · intro id h
    rw [hlo, hhi]
    rcases h with h | ⟨k, k1, k2, k3, k4⟩
    · exact ⟨.inl h, fun hc => by omega⟩
    · have hne : k ≠ i := fun e => by subst e; rw [hi'] at k2; cases k2
      refine ⟨.inr ⟨k, k1, by rw [← h1 k hne]; exact k2, k3, k4⟩, fun hc => ?_⟩
      rcases Nat.lt_or_ge k i with hlt | hge
      · have := hf.mono' (i := k + 1) (j := i) hlt (Nat.le_of_lt hil)
        omega
      · have := hf.mono' (i := i + 1) (j := k) (by omega) (Nat.le_of_lt k1)
        omega
  · have e1 : mixT r D' (tmAt st0.tm) ops.size = fun x => if (r i).dst = some x then (r i).v else mixT r D (tmAt st0.tm) ops.size x := funext fun x => mix_putT hf hD ho hi hdep h1 hi' x
    have e2 : mixH r D' st0.hp.get ops.size = fun id => if id ∈ (r i).hp.log then (r i).hp.get id else mixH r D st0.hp.get ops.size id := funext fun id => mix_putH hf hD ho hi hdep h1 hi' id
    show Mix P E F st0.n _ (mixT r D' (tmAt st0.tm) ops.size) (mixH r D' st0.hp.get ops.size) a' w'
    rw [e1, e2]
    exact h

theorem filter_insert {n i : Nat} (h : i < n) {D D' : Nat → Bool} (h1 : ∀ k, k ≠ i → D' k = D k) (hi : D i = true) (hi' : D' i = false) : ((List.range n).filter D').length + 1 = ((List.range n).filter D).length := by
  have key : ∀ m, (i < m → ((List.range m).filter D').length + 1 = ((List.range m).filter D).length) ∧ (m ≤ i → ((List.range m).filter D').length = ((List.range m).filter D).length) := by
    intro m
    induction m with
    | zero => exact ⟨fun h => by omega, fun _ => rfl⟩
    | succ m ih =>
      rw [List.range_succ, List.filter_append, List.filter_append, List.length_append, List.length_append]
      refine ⟨fun hlt => ?_, fun hle => ?_⟩
      · by_cases e : m = i
        · subst e
          rw [ih.2 (Nat.le_refl _)]
          simp [hi, hi']
        · have := ih.1 (by omega)
          have e2 : [m].filter D' = [m].filter D := by simp [List.filter, h1 m e]
          rw [e2]
          omega
      · have := ih.2 (by omega)
        have e2 : [m].filter D' = [m].filter D := by simp [List.filter, h1 m (by omega)]
        rw [e2, this]
  exact (key n).1 h

theorem MixD.congr (h : ∀ k, k < ops.size → D k = D' k) {a : Act} {w : World} (hR : MixD P E F ops r st0 D a w) : MixD P E F ops r st0 D' a w := by
  have e1 : mixT r D (tmAt st0.tm) ops.size = mixT r D' (tmAt st0.tm) ops.size := funext fun x => mixT_congr _ fun k hk _ => h k hk
  have e2 : mixH r D st0.hp.get ops.size = mixH r D' st0.hp.get ops.size := funext fun x => mixH_congr _ fun k hk _ => h k hk
  have e3 : FrD r st0.hp.next ops.size F.lim D = FrD r st0.hp.next ops.size F.lim D' := funext fun id => propext ⟨fun hc => hc.imp (fun y => y) fun ⟨k, k1, k2, k3⟩ => ⟨k, k1, by rw [← h k k1]; exact k2, k3⟩, fun hc => hc.imp (fun y => y) fun ⟨k, k1, k2, k3⟩ => ⟨k, k1, by rw [h k k1]; exact k2, k3⟩⟩
  unfold MixD at hR ⊢
  rw [← e1, ← e2, ← e3]
  exact hR

theorem draw_any {rr : Option Nat} {nn : Nat} (hE : E.Good P) (hA : ActOk P E act) (hf : DF P E cl act ops r ms st0 F.lim) (hn0 : F.n0 ≤ st0.hp.next) (hk : ∀ a w, MixD P E F ops r st0 tt a w → Q .normal a w) : ∀ (fuel : Nat) (listed : Array Bool) (a : Act) (w : World), listed.size = ops.size →
    Closed ops (fun k => listed.getD k false) → ((List.range ops.size).filter fun k => !listed.getD k false).length ≤ fuel → MixD P E F ops r st0 (fun k => listed.getD k false) a w → wpAnyIn (FR rr) nn P .any ops Q fuel listed a w := by
  have done : ∀ (listed : Array Bool) (a : Act) (w : World), (∀ k, k < ops.size → listed.getD k false = true) → MixD P E F ops r st0 (fun k => listed.getD k false) a w → Q .normal a w :=
    fun listed a w hall hR => hk a w (MixD.congr hall hR)
  have allOf : ∀ (listed : Array Bool), listed.size = ops.size → Region.ready .any ops listed = [] → ∀ k, k < ops.size → listed.getD k false = true := by
    intro listed hsz hr k
    induction k using Nat.strongRecOn with
    | _ k ih =>
      intro hk
      cases hl : listed.getD k false with
      | true => rfl
      | false =>
        exfalso
        have hok : ops[k]? = some ops[k] := Array.getElem?_eq_getElem hk
        have hlt : k < listed.size := by omega
        have : k ∈ Region.ready .any ops listed := mem_ready.2 ⟨by simpa [Array.getD, hlt] using hl, _, hok, fun e he hb => by
          have := hf.edge k _ e hok he hb
          exact ih e.on this (by omega)⟩
        rw [hr] at this
        simp at this
  intro fuel
  induction fuel with
  | zero =>
    intro listed a w hsz hc hn hR
    have hall : ∀ k, k < ops.size → listed.getD k false = true := by
      intro k hk
      have h0 := List.eq_nil_of_length_eq_zero (Nat.le_zero.1 hn)
      cases hl : listed.getD k false with
      | true => rfl
      | false =>
        have : k ∈ (List.range ops.size).filter fun k => !listed.getD k false := List.mem_filter.2 ⟨List.mem_range.2 hk, by rw [hl]; rfl⟩
        rw [h0] at this
        simp at this
    refine ⟨?_, done listed a w hall hR⟩
    cases hr : Region.ready .any ops listed with
    | nil => rfl
    | cons j l =>
      exfalso
      have hj : j ∈ Region.ready .any ops listed := by rw [hr]; simp
      obtain ⟨h0, o, ho, _⟩ := mem_ready.1 hj
      have hjl : j < ops.size := (Array.getElem?_eq_some_iff.1 ho).1
      have h1 := hall j hjl
      have hlt : j < listed.size := by omega
      simp [Array.getD, hlt] at h0 h1
      rw [h0] at h1
      cases h1
  | succ fuel ih =>
    intro listed a w hsz hc hn hR
    refine ⟨fun hr => done listed a w (allOf listed hsz hr) hR, fun i hi => ?_⟩
    obtain ⟨h0, o, ho, hdep⟩ := mem_ready.1 hi
    have hil : i < ops.size := (Array.getElem?_eq_some_iff.1 ho).1
    have hlt : i < listed.size := by omega
    have hi0 : listed.getD i false = false := by
      simp [Array.getD, hlt] at h0 ⊢
      exact h0
    have h1 : ∀ k, k ≠ i → (listed.setIfInBounds i true).getD k false = listed.getD k false := fun k hne => getD_set_ne false (fun e => hne e.symm)
    have hi1 : (listed.setIfInBounds i true).getD i false = true := by simp [hlt]
    refine draw_step hE hA hf hn0 hc ho hi0 hdep (D' := fun k => (listed.setIfInBounds i true).getD k false) h1 hi1 hR fun a' w' hR' => ih _ a' w' (by simpa using hsz) ?_ ?_ hR'
    · intro j oj e hoj hDj he hb
      by_cases hj : j = i
      · subst hj
        rw [ho] at hoj
        cases hoj
        exact getD_set_true (hdep e he hb)
      · have hDj' : (listed.setIfInBounds i true).getD j false = true := hDj
        rw [h1 j hj] at hDj'
        exact getD_set_true (hc j oj e hoj hDj' he hb)
    · have e1 := filter_insert (D := fun k => !listed.getD k false) (D' := fun k => !(listed.setIfInBounds i true).getD k false) hil (fun k hne => by rw [h1 k hne]) (by rw [hi0]; rfl) (by rw [hi1]; rfl)
      omega
end

theorem drawOk (hE : E.Good P) (hm : P.follows .mixedOrders = true) (hA : ActOk P E act) (hAe : ActGr act) : DrawOk P E (drawT P E cl act) := by
  intro F id ops st a w Q rr nn hR h
  unfold drawT at h
  cases ht : textOk ops with
  | false => rw [ht] at h; exact h.elim
  | true =>
  rw [ht] at h
  simp only [cond_true] at h
  obtain ⟨⟨rs, fin⟩, h1, h⟩ := Tree.deamb_reach (Tree.holds_bind.1 h)
  cases hc : chkAll 0 [] [] (masks ops.toList []) rs with
  | false => simp only [hc] at h; exact h.elim
  | true =>
  simp only [hc, cond_true] at h
  obtain ⟨hlim, hk⟩ : fin.hp.next ≤ F.lim ∧ ∀ a' w', Rel P E F fin a' w' → Q .normal a' w' := h
  obtain ⟨M, β, hR⟩ := hR
  obtain ⟨hlen, hfin, hspec⟩ := drun_spec _ _ _ _ _ _ _ h1
  have hsz : ops.toList.length = ops.size := Array.length_toList
  rw [hsz] at hlen
  let d : Rc T := ⟨none, .any, .only [], .nil, st.hp, st.hp⟩
  have hmix := fold_mix d hAe hlen hspec
  unfold textOk at ht
  rw [Bool.and_eq_true] at ht
  obtain ⟨hedge, hap⟩ := ht
  obtain ⟨hms1, hms2⟩ := masks_spec ops.toList []
  have hget : ∀ (i : Nat) (o : Oper), ops[i]? = some o → ops.toList[i]? = some o := fun i o h => by rw [Array.getElem?_toList]; exact h
  have hall := hmix rs.length (Nat.le_refl _)
  rw [List.take_length, ← hfin, hlen] at hall
  obtain ⟨f1, f2, f3, f4⟩ := hall
  have hf : DF P E cl act ops (fun k => rs.getD k d) (masks ops.toList []) st F.lim := by
    refine ⟨fun i o ho => ?_, fun k i o o' hki ho ho' => ?_, fun i o e ho he hb => ?_, fun i o k ho hk => ?_, by rw [← f4]; exact hlim, fun id h1 h2 => (hR.now.free id h1 h2).2, hR.now.nomem, hAe⟩
    · obtain ⟨q, q1, q2⟩ := hspec i o (hget i o ho)
      have hi : i < ops.size := (Array.getElem?_eq_some_iff.1 ho).1
      obtain ⟨g1, g2, g3, g4⟩ := hmix i (by omega)
      have e : rs.getD i d = q := by simp [List.getD, q1]
      rw [Nat.zero_add] at q2
      exact ⟨_, by simp only [e]; exact q2, g1, g2, g3, g4⟩
    · have hk : k < ops.size := (Array.getElem?_eq_some_iff.1 ho).1
      have hi : i < ops.size := (Array.getElem?_eq_some_iff.1 ho').1
      have hk' : rs[k]? = some (rs[k]'(by omega)) := List.getElem?_eq_getElem (by omega)
      have hi' : rs[i]? = some (rs[i]'(by omega)) := List.getElem?_eq_getElem (by omega)
      obtain ⟨m, hm1, hm2⟩ := chkAll_spec rs 0 [] [] _ hc rfl (fun k q h => by simp at h) i _ hi'
      obtain ⟨m', hm3, hm4⟩ := apartAll_spec ops.toList [] _ hap i _ (hget i o' ho')
      rw [hm1] at hm3
      obtain rfl := Option.some.inj hm3
      have e1 := hm2 k _ (by rw [List.nil_append]; exact hk') (by omega)
      have e2 := hm4 k _ (by rw [List.nil_append]; exact hget k o ho) (by simpa using hki)
      have e3 : (masks ops.toList []).getD i 0 = m := by simp [List.getD, hm1]
      rw [e3]
      rcases e1 with e1 | e1
      · exact .inl e1
      · rcases e2 with e2 | e2
        · exact .inl e2
        · refine .inr ⟨?_, e2⟩
          simpa [List.getD, hk', hi'] using e1
    · have := edgesOk_spec ops.toList 0 hedge i o e (hget i o ho) he hb
      omega
    · obtain ⟨m, hm, e⟩ := hms2 i o (hget i o ho)
      have hi : i < ops.size := (Array.getElem?_eq_some_iff.1 ho).1
      simp only [List.length_nil, Nat.zero_add] at hm e
      have hmg : (masks ops.toList []).getD i 0 = m := by simp [List.getD, hm]
      rw [hmg, e] at hk
      obtain ⟨ed, he, hb, hx⟩ := maskOf_spec hk
      refine ⟨ed, he, hb, hx.imp (fun y => y) fun hx => ?_⟩
      have hlt := edgesOk_spec ops.toList 0 hedge i o ed (hget i o ho) he hb
      have : ((masks ops.toList []).take i).getD ed.on 0 = (masks ops.toList []).getD ed.on 0 := by
        simp only [List.getD, List.getElem?_take]
        rw [if_pos (by omega)]
      rwa [this] at hx
  refine wpIn_region_any hm (draw_any (rr := rr) (nn := nn) (F := F) hE hA hf hR.nle (fun a w hM => hk a w ?_) ops.size _ a _ (by simp) ?_ ?_ ?_)
  · obtain ⟨M, β, h⟩ := hM
    refine ⟨M, β, ?_⟩
    have eH : mixH (fun k => rs.getD k d) tt st.hp.get ops.size = fin.hp.get := funext fun id => (f3 id).symm
    have ha := h
    rw [eH] at ha
    refine ⟨ha.defers, ha.evo, ha.nb0, ⟨ha.heap, ha.nb, fun id h1 h2 => ha.free id (.inl ⟨by rw [← f4]; exact h1, h2⟩), fun f hd s sh h1 h2 h3 h4 => ha.nomem f hd s sh h1 h2 (.inl ⟨by rw [← f4]; exact h3, h4⟩)⟩, ⟨by rw [f1]; exact ha.size, fun j => by rw [f2]; exact ha.tmps j⟩, ha.rnd, ?_⟩
    rw [f4]
    exact Nat.le_trans hR.nle (hf.mono' (Nat.zero_le _) (Nat.le_refl _))
  · intro i o e ho hD
    have hD' : (Array.replicate ops.size false).getD i false = true := hD
    simp [Array.getD] at hD'
  · have : ((List.range ops.size).filter fun k => !(Array.replicate ops.size false).getD k false).length ≤ (List.range ops.size).length := List.length_filter_le _ _
    simpa using this
  · have hst : Stab w M β { w with drawn := w.drawn + 1 } M β := ⟨fun _ _ _ _ => rfl, Nat.le_refl _, fun _ h => .inl h, fun _ _ h => h⟩
    have hN : Now P E F.lim M β st.hp { w with drawn := w.drawn + 1 } := hR.now.other rfl (fun _ _ => rfl) (fun _ _ _ => rfl)
    have hz : ∀ k, (Array.replicate ops.size false).getD k false = false := fun k => by simp [Array.getD]
    have eH : mixH (fun k => rs.getD k d) (fun k => (Array.replicate ops.size false).getD k false) st.hp.get ops.size = st.hp.get := funext fun id => by
      have : ∀ n, mixH (fun k => rs.getD k d) (fun k => (Array.replicate ops.size false).getD k false) st.hp.get n id = st.hp.get id := by
        intro n
        induction n with
        | zero => rfl
        | succ n ih => simp only [mixH]; rw [if_neg (fun hc => by rw [hz n] at hc; exact Bool.noConfusion hc.1)]; exact ih
      exact this _
    have eT : mixT (fun k => rs.getD k d) (fun k => (Array.replicate ops.size false).getD k false) (tmAt st.tm) ops.size = tmAt st.tm := funext fun x => by
      have : ∀ n, mixT (fun k => rs.getD k d) (fun k => (Array.replicate ops.size false).getD k false) (tmAt st.tm) n x = tmAt st.tm x := by
        intro n
        induction n with
        | zero => rfl
        | succ n ih => simp only [mixT]; rw [if_neg (fun hc => by rw [hz n] at hc; exact Bool.noConfusion hc.1)]; exact ih
      exact this _
    have hfr : ∀ id, FrD (fun k => rs.getD k d) st.hp.next ops.size F.lim (fun k => (Array.replicate ops.size false).getD k false) id → st.hp.next ≤ id ∧ id < F.lim := by
      intro id hc
      rcases hc with hc | ⟨k, k1, _, k3, k4⟩
      · exact ⟨Nat.le_trans (hf.mono' (Nat.zero_le _) (Nat.le_refl _)) hc.1, hc.2⟩
      · exact ⟨Nat.le_trans (hf.mono' (Nat.zero_le k) (Nat.le_of_lt k1)) k3, Nat.lt_of_lt_of_le k4 (Nat.le_trans (hf.mono' (i := k + 1) k1 (Nat.le_refl _)) hf.le)⟩
    refine ⟨M, β, ?_⟩
    rw [eH, eT]
    exact ⟨hR.defers, ⟨hR.evo.os, hR.evo.tape, hR.evo.output, hR.evo.size, hR.evo.old, hR.evo.mutb, hR.evo.keep, hR.evo.own, hR.evo.hd, hR.evo.nm⟩, hR.nb0, hN.heap, hN.nb, fun id h => hN.free id (hfr id h).1 (hfr id h).2, fun f hd s sh h1 h2 h3 => hN.nomem f hd s sh h1 h2 (hfr s h3).1 (hfr s h3).2, hR.tmps.1, fun j => (hR.tmps.2 j).stab hst, hR.rnd⟩
end Go.Cx
