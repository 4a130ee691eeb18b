/- The evaluator: such stores in mixed states. No condition. -/
import Derived.Test.YtdlholmphenhhaaCxWa
set_option linter.unusedVariables false
noncomputable section
namespace Go.Cx
open Go.RowKit
variable {T : Nat → Type} {P : Program} {E : Enc T} {cl : Bool} {act : Tgt → List (AV T) → Hp T → Tree (AV T × Hp T)}

/-- Any order, with what holds on the way. -/
theorem any_inv {ops : Array Oper} {Q : Exit → Act → World → Prop} {rr : Option Nat} {nn : Nat} {I : (Nat → Bool) → Act → World → Prop}
    (hedge : ∀ (i : Nat) (o : Oper) (e : Edge), ops[i]? = some o → e ∈ o.after → Region.binds .any e = true → e.on < i)
    (hcongr : ∀ {D D' : Nat → Bool}, (∀ k, k < ops.size → D k = D' k) → ∀ a w, I D a w → I D' a w)
    (hstep : ∀ {D D' : Nat → Bool} {i : Nat} {o : Oper}, Closed ops D → ops[i]? = some o → D i = false → (∀ e ∈ o.after, Region.binds .any e = true → D e.on = true) → (∀ k, k ≠ i → D' k = D k) → D' i = true → ∀ {a : Act} {w : World} {K : Act → World → Prop}, I D a w → (∀ a' w', I D' a' w' → K a' w') → wpOpIn (FR rr) nn P ops Q i K a w)
    (hk : ∀ a w, I tt a w → Q .normal a w) : ∀ (fuel : Nat) (listed : Array Bool) (a : Act) (w : World), listed.size = ops.size →
    Closed ops (fun k => listed.getD k false) → ((List.range ops.size).filter fun k => !listed.getD k false).length ≤ fuel → I (fun k => listed.getD k false) a w → wpAnyIn (FR rr) nn P .any ops Q fuel listed a w := by
  have done : ∀ (listed : Array Bool) (a : Act) (w : World), (∀ k, k < ops.size → listed.getD k false = true) → I (fun k => listed.getD k false) a w → Q .normal a w :=
    fun listed a w hall hR => hk a w (hcongr hall a w hR)
  have allOf : ∀ (listed : Array Bool), listed.size = ops.size → Region.ready .any ops listed = [] → ∀ k, k < ops.size → listed.getD k false = true := by
    intro listed hsz hr k
    induction k using Nat.strongRecOn with
    | _ k ih =>
      intro hk
      cases hl : listed.getD k false with
      | true => rfl
      | false =>
        exfalso
        have hok : ops[k]? = some ops[k] := Array.getElem?_eq_getElem hk
        have hlt : k < listed.size := by omega
        have : k ∈ Region.ready .any ops listed := mem_ready.2 ⟨by simpa [Array.getD, hlt] using hl, _, hok, fun e he hb => by
          have := hedge k _ e hok he hb
          exact ih e.on this (by omega)⟩
        rw [hr] at this
        simp at this
  intro fuel
  induction fuel with
  | zero =>
    intro listed a w hsz hc hn hR
    have hall : ∀ k, k < ops.size → listed.getD k false = true := by
      intro k hk
      have h0 := List.eq_nil_of_length_eq_zero (Nat.le_zero.1 hn)
      cases hl : listed.getD k false with
      | true => rfl
      | false =>
        have : k ∈ (List.range ops.size).filter fun k => !listed.getD k false := List.mem_filter.2 ⟨List.mem_range.2 hk, by rw [hl]; rfl⟩
        rw [h0] at this
        simp at this
    refine ⟨?_, done listed a w hall hR⟩
    cases hr : Region.ready .any ops listed with
    | nil => rfl
    | cons j l =>
      exfalso
      have hj : j ∈ Region.ready .any ops listed := by rw [hr]; simp
      obtain ⟨h0, o, ho, _⟩ := mem_ready.1 hj
      have hjl : j < ops.size := (Array.getElem?_eq_some_iff.1 ho).1
      have h1 := hall j hjl
      have hlt : j < listed.size := by omega
      simp [Array.getD, hlt] at h0 h1
      rw [h0] at h1
      cases h1
  | succ fuel ih =>
    intro listed a w hsz hc hn hR
    refine ⟨fun hr => done listed a w (allOf listed hsz hr) hR, fun i hi => ?_⟩
    obtain ⟨h0, o, ho, hdep⟩ := mem_ready.1 hi
    have hil : i < ops.size := (Array.getElem?_eq_some_iff.1 ho).1
    have hlt : i < listed.size := by omega
    have hi0 : listed.getD i false = false := by
      simp [Array.getD, hlt] at h0 ⊢
      exact h0
    have h1 : ∀ k, k ≠ i → (listed.setIfInBounds i true).getD k false = listed.getD k false := fun k hne => getD_set_ne false (fun e => hne e.symm)
    have hi1 : (listed.setIfInBounds i true).getD i false = true := by simp [hlt]
    refine hstep (D' := fun k => (listed.setIfInBounds i true).getD k false) hc ho hi0 hdep h1 hi1 hR fun a' w' hR' => ih _ a' w' (by simpa using hsz) ?_ ?_ hR'
    · intro j oj e hoj hDj he hb
      by_cases hj : j = i
      · subst hj
        rw [ho] at hoj
        cases hoj
        exact getD_set_true (hdep e he hb)
      · have hDj' : (listed.setIfInBounds i true).getD j false = true := hDj
        rw [h1 j hj] at hDj'
        exact getD_set_true (hc j oj e hoj hDj' he hb)
    · have e1 := filter_insert (D := fun k => !listed.getD k false) (D' := fun k => !(listed.setIfInBounds i true).getD k false) hil (fun k hne => by rw [h1 k hne]) (by rw [hi0]; rfl) (by rw [hi1]; rfl)
      omega

/-! ### A region with loose stores -/
/-- What is known: the region without the stores (ops0), and what they write. -/
structure LF (P : Program) (E : Enc T) (cl : Bool) (act : Tgt → List (AV T) → Hp T → Tree (AV T × Hp T)) (ops ops0 : Array Oper) (lo : Nat → Bool) (r : Nat → Rc T) (ms : List Nat) (st0 fin : St T) (ps : List (Pat T)) (lim : Nat) : Prop where
  df : DF P E cl act ops0 r ms st0 lim
  o0 : ops0 = (neutr lo 0 ops.toList).toArray
  isSt : ∀ (k : Nat) (o : Oper), ops.toList[k]? = some o → lo k = true → isStore o = true
  after : ∀ k j, lo k = true → Nat.testBit (ms.getD j 0) k = false
  apart : ∀ (k i : Nat) (o o' : Oper), k < i → ops[k]? = some o → ops[i]? = some o' → Nat.testBit (ms.getD i 0) k = true ∨ o.apart ops o' = true
  fT : ∀ x, tmAt fin.tm x = mixT r tt (tmAt st0.tm) ops0.size x
  fH : ∀ id, fin.hp.get id = mixH r tt st0.hp.get ops0.size id
  pat : ∀ (k : Nat) (o : Oper), ops[k]? = some o → lo k = true → ∃ p ∈ ps, p.k = k
  pats : ∀ p ∈ ps, lo p.k = true ∧ ∃ o, ops[p.k]? = some o ∧ patOf P fin p.k o = some p
  far : FarL ps
  tgt : ∀ p ∈ ps, ∃ n c d, fin.hp.get p.id = some (.cells n c d) ∧ p.off + p.vs.length ≤ n
  clear : ∀ p ∈ ps, ∀ j, j < ops0.size → Nat.testBit (ms.getD p.k 0) j = true ∨ ((r j).dom.has p.id = false ∧ p.id ∉ (r j).hp.log)

section
variable {ops ops0 : Array Oper} {lo : Nat → Bool} {r : Nat → Rc T} {ms : List Nat} {st0 fin : St T} {ps : List (Pat T)} {F : Fm} {Q : Exit → Act → World → Prop} {D D' : Nat → Bool}

theorem LF.size (h : LF P E cl act ops ops0 lo r ms st0 fin ps F.lim) : ops0.size = ops.size := by
  rw [h.o0, List.size_toArray]
  have : ∀ (l : List Oper) (i : Nat), (neutr lo i l).length = l.length := by
    intro l
    induction l with
    | nil => intro i; rfl
    | cons o l ih => intro i; simp [neutr, ih]
  rw [this, Array.length_toList]
theorem LF.get (h : LF P E cl act ops ops0 lo r ms st0 fin ps F.lim) {i : Nat} {o : Oper} (ho : ops[i]? = some o) : ops0[i]? = some (bif lo i then noOp o else o) := by
  rw [h.o0, List.getElem?_toArray, neutr_get, Array.getElem?_toList, ho, Nat.zero_add]
  rfl
theorem LF.back (h : LF P E cl act ops ops0 lo r ms st0 fin ps F.lim) {i : Nat} {o0 : Oper} (ho : ops0[i]? = some o0) : ∃ o, ops[i]? = some o ∧ o0 = (bif lo i then noOp o else o) := by
  rw [h.o0, List.getElem?_toArray, neutr_get, Array.getElem?_toList, Nat.zero_add] at ho
  obtain ⟨o, h1, h2⟩ := Option.map_eq_some_iff.1 ho
  exact ⟨o, h1, h2.symm⟩
theorem after_neutr (o : Oper) (b : Bool) : (bif b then noOp o else o).after = o.after := by cases b <;> rfl
theorem LF.closed (h : LF P E cl act ops ops0 lo r ms st0 fin ps F.lim) (hD : Closed ops D) : Closed ops0 D := fun i o0 e ho hDi he hb => by
  obtain ⟨o, h1, rfl⟩ := h.back ho
  rw [after_neutr] at he
  exact hD i o e h1 hDi he hb

/-- How the objects stand to those of the region without the stores. -/
def Near (r : Nat → Rc T) (st0 fin : St T) (ps : List (Pat T)) (N : Nat) (D : Nat → Bool) (H : Nat → Option (AO T)) : Prop := ∀ id,
  (∃ n c d c' d', fin.hp.get id = some (.cells n c d) ∧ (∃ p ∈ ps, p.id = id ∧ D p.k = true) ∧ H id = some (.cells n c' d') ∧ ∀ j, j < n → cellAt c' d' j = cont D id j (cellAt c d j) ps)
  ∨ ((∀ p ∈ ps, p.id = id → D p.k = false) ∧ H id = mixH r D st0.hp.get N id)
def LI (P : Program) (E : Enc T) (F : Fm) (ops0 : Array Oper) (r : Nat → Rc T) (st0 fin : St T) (ps : List (Pat T)) (D : Nat → Bool) (a : Act) (w : World) : Prop :=
  ∃ H, Mix P E F st0.n (FrD r st0.hp.next ops0.size F.lim D) (mixT r D (tmAt st0.tm) ops0.size) H a w ∧ Near r st0 fin ps ops0.size D H

theorem near_congr {N : Nat} {H : Nat → Option (AO T)} (h : ∀ k, k < N → D k = D' k) (hps : ∀ p ∈ ps, p.k < N) (hN : Near r st0 fin ps N D H) : Near r st0 fin ps N D' H := fun id => by
  have hc : ∀ j b, cont D id j b ps = cont D' id j b ps := fun j b => cont_congr fun p hp _ => h _ (hps p hp)
  rcases hN id with ⟨n, c, d, c', d', h1, ⟨p, hp, h2, h3⟩, h4, h5⟩ | ⟨h1, h2⟩
  · exact .inl ⟨n, c, d, c', d', h1, ⟨p, hp, h2, by rw [← h _ (hps p hp)]; exact h3⟩, h4, fun j hj => by rw [← hc]; exact h5 j hj⟩
  · exact .inr ⟨fun p hp e => by rw [← h _ (hps p hp)]; exact h1 p hp e, by rw [h2]; exact mixH_congr _ fun k hk _ => h k hk⟩

theorem LF.plt (hf : LF P E cl act ops ops0 lo r ms st0 fin ps F.lim) {p : Pat T} (hp : p ∈ ps) : p.k < ops0.size := by
  obtain ⟨_, o, ho, _⟩ := hf.pats p hp
  rw [hf.size]
  exact (Array.getElem?_eq_some_iff.1 ho).1

theorem LI.congr (hf : LF P E cl act ops ops0 lo r ms st0 fin ps F.lim) (h : ∀ k, k < ops.size → D k = D' k) {a : Act} {w : World} (hR : LI P E F ops0 r st0 fin ps D a w) : LI P E F ops0 r st0 fin ps D' a w := by
  rw [← hf.size] at h
  obtain ⟨H, h1, h2⟩ := hR
  refine ⟨H, ?_, near_congr h (fun p hp => hf.plt hp) h2⟩
  have e1 : mixT r D (tmAt st0.tm) ops0.size = mixT r D' (tmAt st0.tm) ops0.size := funext fun x => mixT_congr _ fun k hk _ => h k hk
  have e3 : FrD r st0.hp.next ops0.size F.lim D = FrD r st0.hp.next ops0.size F.lim D' := funext fun id => propext ⟨fun hc => hc.imp (fun y => y) fun ⟨k, k1, k2, k3⟩ => ⟨k, k1, by rw [← h k k1]; exact k2, k3⟩, fun hc => hc.imp (fun y => y) fun ⟨k, k1, k2, k3⟩ => ⟨k, k1, by rw [h k k1]; exact k2, k3⟩⟩
  rw [← e1, ← e3]
  exact h1

theorem frD_sub (hf : DF P E cl act ops0 r ms st0 F.lim) {i : Nat} (hil : i < ops0.size) (h1 : ∀ k, k ≠ i → D' k = D k) (hi : D i = false) (hi' : D' i = true) (id : Nat) (h : FrD r st0.hp.next ops0.size F.lim D' id) :
    FrD r st0.hp.next ops0.size F.lim D id ∧ ¬ (mixN r st0.hp.next i ≤ id ∧ id < mixN r st0.hp.next (i + 1)) := by
  have hle : mixN r st0.hp.next (i + 1) ≤ mixN r st0.hp.next ops0.size := hf.mono' hil (Nat.le_refl _)
  rcases h with h | ⟨k, k1, k2, k3, k4⟩
  · exact ⟨.inl h, fun hc => by omega⟩
  · have hne : k ≠ i := fun e => by subst e; rw [hi'] at k2; cases k2
    refine ⟨.inr ⟨k, k1, by rw [← h1 k hne]; exact k2, k3, k4⟩, fun hc => ?_⟩
    rcases Nat.lt_or_ge k i with hlt | hge
    · have := hf.mono' (i := k + 1) (j := i) hlt (Nat.le_of_lt hil)
      omega
    · have := hf.mono' (i := i + 1) (j := k) (by omega) (Nat.le_of_lt k1)
      omega

theorem step_other {rr : Option Nat} {nn : Nat} (hE : E.Good P) (hA : ActOk P E act) (hf : LF P E cl act ops ops0 lo r ms st0 fin ps F.lim) (hn0 : F.n0 ≤ st0.hp.next) (hD : Closed ops D) {i : Nat} {o : Oper} (ho : ops[i]? = some o) (hlo : lo i = false) (hi : D i = false) (hdep : ∀ e ∈ o.after, Region.binds .any e = true → D e.on = true)
    (h1 : ∀ k, k ≠ i → D' k = D k) (hi' : D' i = true) {a : Act} {w : World} {K : Act → World → Prop} (hR : LI P E F ops0 r st0 fin ps D a w) (hk : ∀ a' w', LI P E F ops0 r st0 fin ps D' a' w' → K a' w') : wpOpIn (FR rr) nn P ops Q i K a w := by
  have ho0 : ops0[i]? = some o := by rw [hf.get ho, hlo]; rfl
  have hil : i < ops0.size := (Array.getElem?_eq_some_iff.1 ho0).1
  have hD0 := hf.closed hD
  have hO := hf.df.at hil
  have eo : ops0[i] = o := by rw [Array.getElem?_eq_getElem hil] at ho0; exact Option.some.inj ho0
  rw [eo] at hO
  have hlow := hO.lo
  have hhi : (r i).hp.next = mixN r st0.hp.next (i + 1) := rfl
  have hle : mixN r st0.hp.next (i + 1) ≤ mixN r st0.hp.next ops0.size := hf.df.mono' hil (Nat.le_refl _)
  -- a store that is done speaks of no object of this operation
  have away : ∀ p ∈ ps, D p.k = true → (r i).dom.has p.id = false ∧ p.id ∉ (r i).hp.log := fun p hp hDp => by
    rcases hf.clear p hp i hil with h | h
    · obtain ⟨_, op, hop, _⟩ := hf.pats p hp
      have := closed_mask hf.df hD0 p.k _ (hf.get hop) (fun e he hb => hD0 p.k _ e (hf.get hop) hDp he hb) i h
      rw [hi] at this
      cases this
    · exact h
  obtain ⟨H, ⟨M, β, hM⟩, hN⟩ := hR
  have hsub0 := mix_sub hf.df hD0 ho0 hi hdep
  have hsub : Sub H (r i).r := by
    refine ⟨fun id o' hr => ?_, fun f hd sh m hfm hmem hg => ?_⟩
    · rcases hN id with ⟨n, c, d, c', d', _, ⟨p, hp, rfl, hDp⟩, _, _⟩ | ⟨_, e⟩
      · have := (hO.sees (id := p.id) (by rw [hr]; simp)).1
        rw [(away p hp hDp).1] at this
        cases this
      · rw [e]; exact hsub0.get id o' hr
    · obtain ⟨n, c, d, hg⟩ := hg
      refine hsub0.fam f hd sh m hfm hmem ⟨n, c, d, ?_⟩
      rcases hN m with ⟨n', c1, d1, c2, d2, _, _, e, _⟩ | ⟨_, e⟩
      · rw [e] at hg; cases hg
      · rw [← e]; exact hg
  have hrun : (dval P E cl act ops.toList i o (r i).tr (r i).r).reach ((r i).v, (r i).hp) := by
    have := hO.run
    rw [hf.o0] at this
    rw [dval_neutr hf.isSt] at this
    exact this
  refine mix_step (q := r i) (Fr' := FrD r st0.hp.next ops0.size F.lim D') hE hA hf.df.act ho hrun hsub hO.rlog (mix_tmps hf.df hD0 ho0 hi hdep) hO.put hO.dst ?_ ?_ ?_ ?_ ⟨M, β, hM⟩ fun a' w' h => hk a' w' ⟨fun id => if id ∈ (r i).hp.log then (r i).hp.get id else H id, ?_, ?_⟩
  · rw [hlow]
    exact Nat.le_trans hn0 (hf.df.mono' (Nat.zero_le i) (Nat.le_of_lt hil))
  · rw [hhi]; exact Nat.le_trans hle hf.df.le
  · intro id g1 g2
    rw [hlow] at g1
    exact .inr ⟨i, hil, hi, g1, g2⟩
  · intro id h
    rw [hlow, hhi]
    exact frD_sub hf.df hil h1 hi hi' id h
  · have e1 : mixT r D' (tmAt st0.tm) ops0.size = fun x => if (r i).dst = some x then (r i).v else mixT r D (tmAt st0.tm) ops0.size x := funext fun x => mix_putT hf.df hD0 ho0 hi hdep h1 hi' x
    rw [e1]
    exact h
  · intro id
    have hpk : ∀ p ∈ ps, D' p.k = D p.k := fun p hp => h1 _ (fun e => by
      have := (hf.pats p hp).1
      rw [e, hlo] at this
      cases this)
    rcases hN id with ⟨n, c, d, c', d', g1, ⟨p, hp, rfl, hDp⟩, g2, g3⟩ | ⟨g1, g2⟩
    · refine .inl ⟨n, c, d, c', d', g1, ⟨p, hp, rfl, by rw [hpk p hp]; exact hDp⟩, ?_, fun j hj => ?_⟩
      · show (if p.id ∈ (r i).hp.log then (r i).hp.get p.id else H p.id) = _
        rw [if_neg (away p hp hDp).2]; exact g2
      · rw [g3 j hj]
        exact cont_congr fun q hq _ => (hpk q hq).symm
    · refine .inr ⟨fun p hp e => by rw [hpk p hp]; exact g1 p hp e, ?_⟩
      rw [mix_putH hf.df hD0 ho0 hi hdep h1 hi' id]
      show (if id ∈ (r i).hp.log then (r i).hp.get id else H id) = _
      by_cases hm : id ∈ (r i).hp.log
      · rw [if_pos hm, if_pos hm]
      · rw [if_neg hm, if_neg hm]; exact g2

theorem noop_facts (hf : LF P E cl act ops ops0 lo r ms st0 fin ps F.lim) {i : Nat} {o : Oper} (ho : ops[i]? = some o) (hlo : lo i = true) : (r i).dst = none ∧ (r i).hp.log = [] := by
  have ho0 : ops0[i]? = some (noOp o) := by rw [hf.get ho, hlo]; rfl
  have hil : i < ops0.size := (Array.getElem?_eq_some_iff.1 ho0).1
  have hO := hf.df.at hil
  have eo : ops0[i] = noOp o := by rw [Array.getElem?_eq_getElem hil] at ho0; exact Option.some.inj ho0
  rw [eo] at hO
  refine ⟨hO.dst, ?_⟩
  have hd : dop P E cl act ops0.toList (noOp o) (r i).tr (r i).r = .leaf (.lit false, (r i).r) := rfl
  have hrun := hO.run
  have : (r i).hp = (r i).r := by
    unfold dval at hrun
    cases hu : usedAsGuard i ops0.toList with
    | false =>
      rw [hu, hd] at hrun
      have hrun : ((r i).v, (r i).hp) = (.lit false, (r i).r) := hrun
      exact congrArg Prod.snd hrun
    | true =>
      rw [hu, hd] at hrun
      have hrun : ((r i).v, (r i).hp) = (.lit false, (r i).r) := hrun
      exact congrArg Prod.snd hrun
  rw [this]
  exact hO.rlog

theorem step_store {rr : Option Nat} {nn : Nat} (hE : E.Good P) (hA : ActOk P E act) (hAe : ActGr act) (hf : LF P E cl act ops ops0 lo r ms st0 fin ps F.lim) (hn0 : F.n0 ≤ st0.hp.next) (hD : Closed ops D) {i : Nat} {o : Oper} (ho : ops[i]? = some o) (hlo : lo i = true) (hi : D i = false) (hdep : ∀ e ∈ o.after, Region.binds .any e = true → D e.on = true)
    (h1 : ∀ k, k ≠ i → D' k = D k) (hi' : D' i = true) {a : Act} {w : World} {K : Act → World → Prop} (hR : LI P E F ops0 r st0 fin ps D a w) (hk : ∀ a' w', LI P E F ops0 r st0 fin ps D' a' w' → K a' w') : wpOpIn (FR rr) nn P ops Q i K a w := by
  have ho0 : ops0[i]? = some (noOp o) := by rw [hf.get ho, hlo]; rfl
  have hil : i < ops0.size := (Array.getElem?_eq_some_iff.1 ho0).1
  have hD0 := hf.closed hD
  have hmask : ∀ k, Nat.testBit (ms.getD i 0) k = true → D k = true := closed_mask hf.df hD0 i _ ho0 hdep
  obtain ⟨p, hp, hpk⟩ := hf.pat i o ho hlo
  obtain ⟨_, o2, ho2, hpat⟩ := hf.pats p hp
  rw [hpk, ho] at ho2
  obtain rfl := Option.some.inj ho2
  obtain ⟨_, t, ad, v, hop, hpa, hpv, hlen, hpos, hcell⟩ := patOf_k hpat
  have hst : o.guard = none ∧ o.dst = none := by
    have := hf.isSt i o (by rw [Array.getElem?_toList]; exact ho) hlo
    unfold isStore at this
    split at this
    · rename_i hg hd; exact ⟨hg, hd⟩
    · cases this
  obtain ⟨hr1, hr2⟩ := noop_facts hf ho hlo
  -- the operands are as at the end
  have htmp : ∀ x ∈ o.looksAt ops, tmAt fin.tm x = mixT r D (tmAt st0.tm) ops0.size x := fun x hx => by
    rw [hf.fT]
    refine mixT_congr _ fun k hk hm => ?_
    show true = D k
    by_cases hne : k = i
    · subst hne; rw [hr1] at hm; cases hm
    · obtain ⟨ok, hok, e⟩ := hf.back (Array.getElem?_eq_getElem hk)
      have hd := dstD_some ((hf.df.at hk).dst.symm.trans hm)
      have hlk : lo k = false := by
        cases hl : lo k with
        | false => rfl
        | true => rw [e, hl] at hd; cases hd
      have hd : ok.dst = some x := by rw [e, hlk] at hd; exact hd
      rcases Nat.lt_or_ge k i with hlt | hge
      · rcases hf.apart k i ok o hlt hok ho with h | h
        · exact (hmask k h).symm
        · exact absurd hx ((Oper.apart_spec h).1 x hd)
      · rcases hf.apart i k o ok (by omega) ho hok with h | h
        · rw [hf.after i k hlo] at h; cases h
        · exact absurd hx ((Oper.apart_spec h).2.2 x hd)
  -- the object now
  have hbase : mixH r D st0.hp.get ops0.size p.id = fin.hp.get p.id := by
    rw [hf.fH]
    refine mixH_congr _ fun k hk hm => ?_
    show D k = true
    rcases hf.clear p hp k hk with h | h
    · rw [hpk] at h; exact hmask k h
    · exact absurd hm h.2
  obtain ⟨n, c, d, hfin, hle⟩ := hf.tgt p hp
  obtain ⟨H, ⟨M, β, hM⟩, hN⟩ := hR
  obtain ⟨c', d', hH, hcont⟩ : ∃ c' d', H p.id = some (.cells n c' d') ∧ ∀ j, j < n → cellAt c' d' j = cont D p.id j (cellAt c d j) ps := by
    rcases hN p.id with ⟨n1, c1, d1, c2, d2, g1, _, g2, g3⟩ | ⟨g1, g2⟩
    · rw [hfin] at g1
      cases g1
      exact ⟨c2, d2, g2, g3⟩
    · rw [hbase, hfin] at g2
      exact ⟨c, d, g2, fun j _ => (cont_none g1).symm⟩
  let N := mixN r st0.hp.next ops0.size
  let tr : Tr (AV T) := pickTr fin.tm (o.looksAt ops)
  let rh : Hp T := ⟨N, (Tr.nil : Tr (AO T)).set p.id (.cells n c' d'), []⟩
  let q : Rc T := ⟨none, .any, .only [p.id], tr, rh, rh.put p.id (.cells n (wrL p.vs p.off c') d')⟩
  have rget : ∀ id, rh.get id = if id = p.id then some (.cells n c' d') else none := fun id => by
    show ((Tr.nil : Tr (AO T)).set p.id (.cells n c' d')).get id = _
    rw [Tr.get_set, Tr.get_nil]
  have evs : ∀ x ∈ o.op.operands, ev tr x = ev fin.tm x := fun x hx => by
    cases x with
    | tmp y =>
      have hy : y ∈ o.looksAt ops := List.mem_append_left _ (List.mem_filterMap.2 ⟨.tmp y, by simpa using hx, rfl⟩)
      show tmAt (pickTr fin.tm _) y = tmAt fin.tm y
      unfold tmAt
      rw [pickTr_get, if_pos hy]
    | _ => rfl
  have hea : ev tr ad = .ptr p.id p.off := by rw [evs ad (by rw [hop]; simp [Op.operands])]; exact hpa
  have hev : cellsA (ev tr v) = some p.vs := by rw [evs v (by rw [hop]; simp [Op.operands])]; exact hpv
  have hdop : dop P E cl act ops.toList o tr rh = .leaf (.any, rh.put p.id (.cells n (wrL p.vs p.off c') d')) := by
    unfold dop
    rw [hst.1]
    simp only
    unfold vop
    simp only [hop]
    unfold iopStore
    rw [hea, hev]
    simp only
    have hb : (Nat.beq p.vs.length (P.cellsOf t) && Nat.ble 1 (P.cellsOf t)) = true := by
      rw [Bool.and_eq_true]
      exact ⟨by rw [hlen]; exact Nat.beq_refl _, Nat.ble_eq_true_of_le hpos⟩
    rw [hb, cond_true, wrObj_cells (by rw [rget, if_pos rfl]) hcell hle]
    rfl
  have hrun : (dval P E cl act ops.toList i o q.tr q.r).reach (q.v, q.hp) := by
    unfold dval
    show (bif usedAsGuard i ops.toList then (dop P E cl act ops.toList o tr rh).bind split1 else dop P E cl act ops.toList o tr rh).reach _
    rw [hdop]
    cases usedAsGuard i ops.toList <;> rfl
  have hsub : Sub H q.r := by
    refine ⟨fun id o' hr => ?_, fun f hd sh m hfm _ _ => ?_⟩
    · have hr : rh.get id = some o' := hr
      rw [rget] at hr
      by_cases he : id = p.id
      · rw [if_pos he] at hr; rw [he, hH]; exact hr
      · rw [if_neg he] at hr; cases hr
    · have hfm : rh.get f = some (.fam hd sh) := hfm
      rw [rget] at hfm
      by_cases he : f = p.id
      · rw [if_pos he] at hfm; cases hfm
      · rw [if_neg he] at hfm; cases hfm
  have hlog : q.hp.log = [p.id] := rfl
  have hqget : q.hp.get p.id = some (.cells n (wrL p.vs p.off c') d') := by
    show (rh.put p.id _).get p.id = _
    rw [Hp.get_put, if_pos rfl]
  refine mix_step (q := q) (H1 := H) (Fr' := FrD r st0.hp.next ops0.size F.lim D') hE hA hAe ho hrun hsub rfl (fun j => ?_) (fun id hid => ?_) (by show none = dstD _ o; unfold dstD; rw [hst.2]) (Nat.le_trans hn0 (hf.df.mono' (Nat.zero_le _) (Nat.le_refl _))) hf.df.le (fun id g1 g2 => ?_) (fun id h => ⟨(frD_sub hf.df hil h1 hi hi' id h).1, fun hc => ?_⟩) ⟨M, β, hM⟩ fun a' w' h => hk a' w' ⟨fun id => if id ∈ q.hp.log then q.hp.get id else H id, ?_, ?_⟩
  · show tmAt (pickTr fin.tm _) j = _ ∨ tmAt (pickTr fin.tm _) j = _
    by_cases hj : j ∈ o.looksAt ops
    · right
      rw [← htmp j hj]
      unfold tmAt
      rw [pickTr_get, if_pos hj]
    · left
      unfold tmAt
      rw [pickTr_get, if_neg hj]
  · obtain rfl : id = p.id := by rw [hlog] at hid; simpa using hid
    exact ⟨_, hqget, fun o0 h0 => (by rw [hH] at h0; cases h0; rfl), fun _ _ _ _ e => (by cases e), fun _ _ _ e => (by cases e)⟩
  · have g1 : N ≤ id := g1
    have g2 : id < N := g2
    omega
  · have g1 : N ≤ id := hc.1
    have g2 : id < N := hc.2
    omega
  · have e1 : mixT r D' (tmAt st0.tm) ops0.size = mixT r D (tmAt st0.tm) ops0.size := funext fun x => mixT_congr _ fun k _ hm => by
      by_cases hne : k = i
      · subst hne; rw [hr1] at hm; cases hm
      · exact h1 k hne
    rw [e1]
    exact h
  · intro id
    have eH : mixH r D' st0.hp.get ops0.size id = mixH r D st0.hp.get ops0.size id := mixH_congr _ fun k _ hm => by
      by_cases hne : k = i
      · subst hne; rw [hr2] at hm; cases hm
      · exact h1 k hne
    by_cases he : id = p.id
    · subst he
      refine .inl ⟨n, c, d, wrL p.vs p.off c', d', hfin, ⟨p, hp, rfl, by rw [hpk]; exact hi'⟩, ?_, fun j hj => ?_⟩
      · show (if p.id ∈ q.hp.log then q.hp.get p.id else H p.id) = _
        rw [if_pos (by rw [hlog]; simp), hqget]
      · rw [cont_ins (D := D) (p := p) (by rw [hpk]; exact h1) (by rw [hpk]; exact hi) (by rw [hpk]; exact hi') hf.far hp rfl, wrL_get]
        by_cases hr : p.off ≤ j ∧ j < p.off + p.vs.length
        · rw [if_pos hr, if_pos hr]
        · rw [if_neg hr, if_neg hr]; exact hcont j hj
    · have hnl : id ∉ q.hp.log := by rw [hlog]; simpa using he
      have hkeep : ∀ p2 ∈ ps, p2.id = id → D' p2.k = D p2.k := fun p2 h2 e2 => by
        refine h1 _ fun hc => ?_
        -- one store has one patch
        have huniq : ∀ {l : List (Pat T)}, FarL l → ∀ x ∈ l, ∀ y ∈ l, x.k = y.k → x = y := by
          intro l hl
          induction hl with
          | nil => intro x hx; cases hx
          | cons hq _ ih =>
            intro x hx y hy hxy
            rcases List.mem_cons.1 hx with ex | hx2
            · rcases List.mem_cons.1 hy with ey | hy2
              · rw [ex, ey]
              · rw [ex] at hxy
                exact absurd hxy (hq y hy2).1
            · rcases List.mem_cons.1 hy with ey | hy2
              · rw [ey] at hxy
                exact absurd hxy.symm (hq x hx2).1
              · exact ih x hx2 y hy2 hxy
        have := huniq hf.far p2 h2 p hp (hc.trans hpk.symm)
        rw [this] at e2
        exact he e2.symm
      rcases hN id with ⟨n1, c1, d1, c2, d2, g1, ⟨p2, k1, k2, k3⟩, g2, g3⟩ | ⟨g1, g2⟩
      · refine .inl ⟨n1, c1, d1, c2, d2, g1, ⟨p2, k1, k2, by rw [hkeep p2 k1 k2]; exact k3⟩, ?_, fun j hj => ?_⟩
        · show (if id ∈ q.hp.log then q.hp.get id else H id) = _
          rw [if_neg hnl]; exact g2
        · rw [g3 j hj]
          exact cont_congr fun p2 h2 e2 => (hkeep p2 h2 e2).symm
      · refine .inr ⟨fun p2 h2 e2 => by rw [hkeep p2 h2 e2]; exact g1 p2 h2 e2, ?_⟩
        show (if id ∈ q.hp.log then q.hp.get id else H id) = _
        rw [if_neg hnl, eH]; exact g2
end
end Go.Cx
