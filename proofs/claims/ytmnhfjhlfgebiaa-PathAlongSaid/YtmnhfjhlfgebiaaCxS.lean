/- The evaluator: what a run of a drawn region says. No condition. -/
import Derived.Test.YtmnhfjhlfgebiaaCxR
set_option linter.unusedVariables false
noncomputable section
namespace Go.Cx
open Go.RowKit
variable {T : Nat → Type} {P : Program} {E : Enc T} {cl : Bool} {act : Tgt → List (AV T) → Hp T → Tree (AV T × Hp T)}

theorem pickTr_get {α : Type} (t : Tr α) : ∀ (l : List Nat) (x : Nat), (pickTr t l).get x = if x ∈ l then t.get x else none
  | [], x => by simp [pickTr_nil, Tr.get_nil]
  | y :: l, x => by
    rw [pickTr_cons]
    cases hy : t.get y with
    | none =>
      simp only
      rw [pickTr_get t l x]
      by_cases h : x = y
      · subst h; simp [hy]
      · simp [h]
    | some o =>
      simp only
      rw [Tr.get_set, pickTr_get t l x]
      by_cases h : x = y
      · subst h; simp [hy]
      · simp [h]
theorem dropTr_get {α : Type} (t : Tr α) : ∀ (l : List Nat) (x : Nat), (dropTr t l).get x = if x ∈ l then none else t.get x
  | [], x => by simp [dropTr]
  | y :: l, x => by
    unfold dropTr
    rw [Tr.get_del, dropTr_get t l x]
    by_cases h : x = y
    · simp [h]
    · simp [h]

theorem has_only {l : List Nat} {x : Nat} : (Dom.only l).has x = true ↔ x ∈ l := memN_iff
theorem has_but {l : List Nat} {x : Nat} : (Dom.but l).has x = true ↔ x ∉ l := by
  show (bif memN x l then false else true) = true ↔ _
  cases h : memN x l with
  | true => simp [memN_iff.1 h]
  | false => simp; intro hc; rw [memN_iff.2 hc] at h; cases h

theorem restr_get (hp : Hp T) (dom : Dom) (id : Nat) : (restr hp dom).get id = if dom.has id = true then hp.get id else none := by
  cases dom with
  | only l =>
    show (pickTr hp.objs l).get id = _
    rw [pickTr_get]
    by_cases h : id ∈ l
    · rw [if_pos h, if_pos (has_only.2 h)]; rfl
    · rw [if_neg h, if_neg (fun hc => h (has_only.1 hc))]
  | but l =>
    show (dropTr hp.objs l).get id = _
    rw [dropTr_get]
    by_cases h : id ∈ l
    · rw [if_pos h, if_neg (fun hc => has_but.1 hc h)]
    · rw [if_neg h, if_pos (has_but.2 h)]; rfl
theorem restr_next (hp : Hp T) (dom : Dom) : (restr hp dom).next = hp.next := by cases dom <;> rfl
theorem restr_log (hp : Hp T) (dom : Dom) : (restr hp dom).log = [] := by cases dom <;> rfl

theorem allN_iff {p : Nat → Bool} : ∀ {l : List Nat}, allN p l = true ↔ ∀ x ∈ l, p x = true
  | [] => by simp [allN_nil]
  | y :: l => by
    rw [allN_cons]
    cases h : p y with
    | true => simp [h, allN_iff]
    | false => simp [h]
theorem isSm_iff {α : Type} {o : Option α} : isSm o = true ↔ o ≠ none := by cases o <;> simp [isSm]

def gk : AO T → Option Nat
  | .grow _ _ _ f => some f
  | _ => none
theorem gkEq_spec {a b : AO T} (h : gkEq a b = true) : gk a = gk b := by
  cases a <;> cases b <;> simp_all [gkEq, gk]

def PutOk (H : Nat → Option (AO T)) (new : Hp T) (id : Nat) : Prop :=
  ∃ o, new.get id = some o ∧ (∀ o0, H id = some o0 → gk o0 = gk o) ∧ (∀ n c d f, o = .grow n c d f → new.get f ≠ none) ∧ ∀ hd sh m, o = .fam hd sh → (m = hd ∨ m ∈ sh) → new.get m ≠ none
theorem putOk_spec {old new : Hp T} {id : Nat} (h : putOk old new id = true) : PutOk old.get new id := by
  unfold putOk at h
  cases hn : new.get id with
  | none => rw [hn] at h; cases h
  | some o =>
    rw [hn] at h
    simp only [Bool.cond_false_right, Bool.and_eq_true] at h
    obtain ⟨h1, h2⟩ := h
    refine ⟨o, hn, fun o0 h0 => ?_, fun n c d f e => ?_, fun hd sh m e hm => ?_⟩
    · rw [h0] at h1; exact gkEq_spec h1
    · subst e; exact isSm_iff.1 h2
    · subst e
      exact isSm_iff.1 (allN_iff.1 h2 m (by simpa using hm))

/-- What is asked of the families among the objects seen. -/
def FamOk (H : Nat → Option (AO T)) (r : Hp T) (dom : Dom) : Prop :=
  (∃ l, dom = .only l ∧ ∀ f ∈ l, ∀ hd sh m, r.get f = some (.fam hd sh) → (m = hd ∨ m ∈ sh) → r.get m ≠ none) ∨
  ∃ l, dom = .but l ∧ ∀ m ∈ l, ∃ x, H m = some x ∧ ∀ f, gk x = some f → f ∈ l
theorem famOk_spec {hp r : Hp T} {dom : Dom} (h : famOk hp r dom = true) : FamOk hp.get r dom := by
  cases dom with
  | only l =>
    refine .inl ⟨l, rfl, fun f hf hd sh m e hm => ?_⟩
    have := allN_iff.1 h f hf
    rw [e] at this
    exact isSm_iff.1 (allN_iff.1 this m (by simpa using hm))
  | but l =>
    refine .inr ⟨l, rfl, fun m hm => ?_⟩
    have := allN_iff.1 h m hm
    cases hx : hp.get m with
    | none => rw [hx] at this; cases this
    | some x =>
      rw [hx] at this
      refine ⟨x, rfl, fun f hf => ?_⟩
      cases x <;> simp only [gk] at hf <;> first | cases hf | skip
      exact memN_iff.1 this

theorem split1_every {rv : AV T × Hp T} {r : Hp T} (h : Gr r rv.2) : (split1 rv).every fun x => Gr r x.2 := by
  unfold split1
  split
  · exact ⟨h, h⟩
  · exact h
theorem dop_every (hA : ActGr act) {ops : List Oper} {o : Oper} {tr : Tr (AV T)} {r : Hp T} : (dop P E cl act ops o tr r).every fun x => Gr r x.2 := by
  unfold dop
  split
  · exact vop_every hA
  · split
    · trivial
    · split
      · exact every_bif (vop_every hA) Gr.refl
      · exact Gr.refl
      · trivial
theorem dval_every (hA : ActGr act) {ops : List Oper} {i : Nat} {o : Oper} {tr : Tr (AV T)} {r : Hp T} : (dval P E cl act ops i o tr r).every fun x => Gr r x.2 :=
  every_bif (bind_every (dop_every hA) fun _ h => split1_every h) (dop_every hA)

/-- What is known of one operation that the text's run has done. -/
structure StepFact (P : Program) (E : Enc T) (cl : Bool) (act : Tgt → List (AV T) → Hp T → Tree (AV T × Hp T)) (ops : Array Oper) (i : Nat) (o : Oper) (q : Rc T) (st : St T) : Prop where
  dst : q.dst = dstD st.n o
  run : (dval P E cl act ops.toList i o q.tr q.r).reach (q.v, q.hp)
  tr : ∀ j, tmAt q.tr j = .any ∨ (j ∈ o.looksAt ops ∧ tmAt q.tr j = tmAt st.tm j)
  rr : q.r = restr st.hp q.dom
  put : ∀ id ∈ q.hp.log, PutOk st.hp.get q.hp id
  fam : FamOk st.hp.get q.r q.dom

theorem dstep_reach {ops : Array Oper} {i m : Nat} {wr : List (Nat × Rc T)} {o : Oper} {st : St T} {q : Rc T} (h : (dstep P E cl act ops i m wr o st).reach q) : StepFact P E cl act ops i o q st := by
  unfold dstep at h
  simp only [Tr.force_eq, Hp.force_eq] at h
  cases hf : famOk st.hp (restr st.hp (domOf m wr o st)) (domOf m wr o st) with
  | false => rw [hf] at h; exact h.elim
  | true =>
  rw [hf] at h
  simp only [cond_true] at h
  obtain ⟨rv, h1, h2⟩ := Tree.reach_bind h
  simp only [fv_eq] at h2
  cases hp : allN (putOk st.hp rv.2) rv.2.log with
  | false => rw [hp] at h2; exact h2.elim
  | true =>
  rw [hp] at h2
  simp only [cond_true] at h2
  obtain rfl : q = _ := h2
  refine ⟨rfl, h1, fun j => ?_, rfl, fun id hid => putOk_spec (allN_iff.1 hp id hid), famOk_spec hf⟩
  show tmAt (pickTr st.tm _) j = _ ∨ _
  unfold tmAt
  rw [pickTr_get]
  by_cases hj : j ∈ o.looksAt ops
  · exact .inr ⟨hj, by rw [if_pos hj]⟩
  · exact .inl (by rw [if_neg hj])

theorem drun_spec {ops : Array Oper} : ∀ (os : List Oper) (i : Nat) (ms : List Nat) (wr : List (Nat × Rc T)) (st : St T) (rs : List (Rc T)) (fin : St T), (drun P E cl act ops i ms wr os st).reach (rs, fin) →
    rs.length = os.length ∧ fin = rs.foldl (fun s q => appR q s) st ∧ ∀ (j : Nat) (o : Oper), os[j]? = some o → ∃ q, rs[j]? = some q ∧ StepFact P E cl act ops (i + j) o q ((rs.take j).foldl (fun s q => appR q s) st)
  | [], i, ms, wr, st, rs, fin, h => by
    obtain ⟨rfl, rfl⟩ : rs = [] ∧ fin = st := by
      have : (rs, fin) = _ := h
      exact ⟨congrArg Prod.fst this, congrArg Prod.snd this⟩
    exact ⟨rfl, rfl, fun j o h => by simp at h⟩
  | o :: os, i, ms, wr, st, rs, fin, h => by
    obtain ⟨q, h1, h⟩ := Tree.reach_bind h
    rw [appT_eq] at h
    obtain ⟨r, h2, h3⟩ := Tree.reach_bind (t := drun P E cl act ops (i + 1) ms.tail _ os (appR q st)) h
    obtain ⟨rfl, rfl⟩ : rs = q :: r.1 ∧ fin = r.2 := by
      have : (rs, fin) = _ := h3
      exact ⟨congrArg Prod.fst this, congrArg Prod.snd this⟩
    obtain ⟨k1, k2, k3⟩ := drun_spec os (i + 1) _ _ _ r.1 r.2 h2
    refine ⟨by simp [k1], by rw [k2]; rfl, fun j o' hj => ?_⟩
    cases j with
    | zero =>
      simp at hj
      subst hj
      exact ⟨q, rfl, dstep_reach h1⟩
    | succ j =>
      obtain ⟨q', q1, q2⟩ := k3 j o' (by simpa using hj)
      have e : i + 1 + j = i + (j + 1) := by omega
      rw [e] at q2
      exact ⟨q', by simpa using q1, by simpa using q2⟩

theorem mergeL_get (new : Hp T) : ∀ (l : List Nat) (t : Tr (AO T)) (id : Nat), (∀ x ∈ l, new.get x ≠ none) → (mergeL new l t).get id = if id ∈ l then new.get id else t.get id
  | [], t, id, _ => by simp [mergeL]
  | y :: l, t, id, h => by
    unfold mergeL
    cases hy : new.get y with
    | none => exact absurd hy (h y (by simp))
    | some o =>
      simp only
      rw [Tr.get_set, mergeL_get new l t id fun x hx => h x (by simp [hx])]
      by_cases e : id = y
      · subst e; simp [hy]
      · simp [e]

theorem appR_get {q : Rc T} {st : St T} (hrr : q.r = restr st.hp q.dom) (hG : Gr q.r q.hp) (id : Nat) : (appR q st).hp.get id = if id ∈ q.hp.log then q.hp.get id else st.hp.get id := by
  obtain ⟨_, l, hl1, hl2, hl3⟩ := hG
  rw [hrr, restr_log, List.append_nil] at hl1
  subst hl1
  have gen : (mergeL q.hp q.hp.log st.hp.objs).get id = if id ∈ q.hp.log then q.hp.get id else st.hp.get id := mergeL_get _ _ _ _ fun x hx => (hl3 x hx).2
  unfold appR
  show Tr.get (match q.dom with
    | .but [] => q.hp.objs
    | _ => mergeL q.hp q.hp.log st.hp.objs) id = _
  split
  · rename_i hd
    by_cases hm : id ∈ q.hp.log
    · rw [if_pos hm]; rfl
    · rw [if_neg hm]
      show q.hp.get id = _
      rw [hl2 id hm, hrr, hd, restr_get, if_pos (has_but.2 (by simp))]
  · exact gen

theorem appR_gr {q : Rc T} {st : St T} (hrr : q.r = restr st.hp q.dom) (hG : Gr q.r q.hp) : Gr st.hp (appR q st).hp := by
  have hget := appR_get hrr hG
  obtain ⟨h0, l, hl1, hl2, hl3⟩ := hG
  rw [hrr, restr_log, List.append_nil] at hl1
  rw [hrr, restr_next] at h0
  subst hl1
  refine ⟨h0, q.hp.log, rfl, fun id hm => by rw [hget, if_neg hm], fun id hm => ⟨?_, by rw [hget, if_pos hm]; exact (hl3 id hm).2⟩⟩
  rcases (hl3 id hm).1 with h1 | h1
  · left
    intro hc
    apply h1
    rw [hrr, restr_get, hc]
    split <;> rfl
  · rw [hrr, restr_next] at h1
    exact .inr h1

theorem dstep_every (hA : ActGr act) {ops : Array Oper} {i m : Nat} {wr : List (Nat × Rc T)} {o : Oper} {st : St T} : (dstep P E cl act ops i m wr o st).every fun q => q.r = restr st.hp q.dom ∧ Gr q.r q.hp := by
  unfold dstep
  simp only [Tr.force_eq, Hp.force_eq]
  refine every_bif ?_ trivial
  refine bind_every (dval_every hA) fun rv h => ?_
  rw [fv_eq]
  refine every_bif ?_ trivial
  exact ⟨rfl, h⟩

theorem drun_every (hA : ActGr act) {ops : Array Oper} : ∀ (os : List Oper) (i : Nat) (ms : List Nat) (wr : List (Nat × Rc T)) (st : St T), (drun P E cl act ops i ms wr os st).every fun r => Gr st.hp r.2.hp
  | [], _, _, _, _ => Gr.refl
  | o :: os, i, ms, wr, st => bind_every (dstep_every hA) fun q hq => by
    rw [appT_eq]
    show ((drun P E cl act ops (i + 1) ms.tail _ os (appR q st)).bind fun r => Tree.leaf (q :: r.1, r.2)).every _
    exact bind_every (drun_every hA os (i + 1) _ _ _) fun r hr => (appR_gr hq.1 hq.2).trans hr

theorem deamb_every {α : Type} {Q : α → Prop} : ∀ {t : Tree α}, t.every Q → t.deamb.every Q
  | .fail, h => h
  | .leaf _, h => h
  | .br _ _ _, h => ⟨deamb_every h.1, deamb_every h.2⟩
  | .req _ t, h => deamb_every (t := t) h
  | .amb _ _, _ => trivial

theorem drawT_every (hA : ActGr act) (ops : Array Oper) (st : St T) : (drawT P E cl act ops st).every fun st' => Gr st.hp st'.hp :=
  every_bif (bind_every (deamb_every (drun_every hA _ _ _ _ _)) fun _ h => every_bif h trivial) trivial
end Go.Cx
