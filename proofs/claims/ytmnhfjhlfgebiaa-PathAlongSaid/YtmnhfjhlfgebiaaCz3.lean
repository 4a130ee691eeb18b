/- The evaluator: loops that are known. No condition. -/
import Derived.Test.YtmnhfjhlfgebiaaCz2
set_option linter.unusedVariables false
noncomputable section
namespace Go.Cx
open Go.RowKit
variable {T : Nat → Type} {P : Program} {E : Enc T} {fuel : Nat}

/-! ### All names -/
def keysT {α : Type} (t : Tr α) : (Nat → Nat) → List Nat :=
  Tr.rec (motive := fun _ => (Nat → Nat) → List Nat) (fun _ => []) (fun _ v _ ihl ihr f =>
    let r := ihl (fun m => f (2 * m + 1)) ++ ihr (fun m => f (2 * m + 2))
    Option.rec (motive := fun _ => List Nat) r (fun _ => f 0 :: r) v) t
theorem keysT_nil {α : Type} {f : Nat → Nat} : keysT (.nil : Tr α) f = [] := rfl
theorem keysT_none {α : Type} {l r : Tr α} {f : Nat → Nat} : keysT (.node l none r) f = keysT l (fun m => f (2 * m + 1)) ++ keysT r (fun m => f (2 * m + 2)) := rfl
theorem keysT_some {α : Type} {l r : Tr α} {v : α} {f : Nat → Nat} : keysT (.node l (some v) r) f = f 0 :: (keysT l (fun m => f (2 * m + 1)) ++ keysT r (fun m => f (2 * m + 2))) := rfl
theorem keysT_mem {α : Type} : ∀ (t : Tr α) (f : Nat → Nat) (x : Nat), x ∈ keysT t f ↔ ∃ k, f k = x ∧ t.get k ≠ none := by
  intro t
  induction t with
  | nil => intro f x; simp [keysT_nil, Tr.get_nil]
  | node l v r ihl ihr =>
    intro f x
    have key : x ∈ keysT l (fun m => f (2 * m + 1)) ++ keysT r (fun m => f (2 * m + 2)) ↔ ∃ k, f (k + 1) = x ∧ (Tr.node l v r).get (k + 1) ≠ none := by
      rw [List.mem_append, ihl, ihr]
      constructor
      · rintro (⟨k, h1, h2⟩ | ⟨k, h1, h2⟩)
        · refine ⟨2 * k, h1, ?_⟩
          rw [Tr.get_nodeS]
          have e1 : Nat.beq (2 * k % 2) 0 = true := by rw [show 2 * k % 2 = 0 by omega]; rfl
          rw [e1, cond_true, show 2 * k / 2 = k by omega]
          exact h2
        · refine ⟨2 * k + 1, h1, ?_⟩
          rw [Tr.get_nodeS]
          have e1 : Nat.beq ((2 * k + 1) % 2) 0 = false := by rw [show (2 * k + 1) % 2 = 1 by omega]; rfl
          rw [e1, cond_false, show (2 * k + 1) / 2 = k by omega]
          exact h2
      · rintro ⟨k, h1, h2⟩
        rw [Tr.get_nodeS] at h2
        cases hb : Nat.beq (k % 2) 0 with
        | true =>
          rw [hb, cond_true] at h2
          have := Nat.eq_of_beq_eq_true hb
          exact .inl ⟨k / 2, by rw [show 2 * (k / 2) + 1 = k + 1 by omega]; exact h1, h2⟩
        | false =>
          rw [hb, cond_false] at h2
          have := Nat.ne_of_beq_eq_false hb
          exact .inr ⟨k / 2, by rw [show 2 * (k / 2) + 2 = k + 1 by omega]; exact h1, h2⟩
    cases v with
    | none =>
      rw [keysT_none, key]
      constructor
      · rintro ⟨k, h1, h2⟩; exact ⟨k + 1, h1, h2⟩
      · rintro ⟨k, h1, h2⟩
        cases k with
        | zero => exact absurd (Tr.get_node0 l none r) h2
        | succ k => exact ⟨k, h1, h2⟩
    | some v =>
      rw [keysT_some, List.mem_cons, key]
      constructor
      · rintro (h | ⟨k, h1, h2⟩)
        · exact ⟨0, h.symm, by rw [Tr.get_node0]; simp⟩
        · exact ⟨k + 1, h1, h2⟩
      · rintro ⟨k, h1, h2⟩
        cases k with
        | zero => exact .inl h1.symm
        | succ k => exact .inr ⟨k, h1, h2⟩
theorem keys_iff {α : Type} {t : Tr α} {x : Nat} : x ∈ keysT t (fun n => n) ↔ t.get x ≠ none := by
  rw [keysT_mem]
  exact ⟨fun ⟨k, h1, h2⟩ => h1 ▸ h2, fun h => ⟨x, rfl, h⟩⟩

/-! ### Data by their kinds -/
inductive VT where
  | n
  | t
  | l (τ : Nat)
variable (T) in
def Den : List VT → Type
  | [] => Unit
  | .n :: r => Int × Den r
  | .t :: r => Bool × Den r
  | .l τ :: r => List (T τ) × Den r
def toV : (s : List VT) → Den T s → List (V T)
  | [], _ => []
  | .n :: r, d => .n d.1 :: toV r d.2
  | .t :: r, d => .t d.1 :: toV r d.2
  | .l τ :: r, d => .l τ d.1 :: toV r d.2
def ofV : (s : List VT) → List (V T) → Option (Den T s)
  | [], [] => some ()
  | .n :: r, .n i :: vs => match ofV r vs with
    | some d => some (i, d)
    | none => none
  | .t :: r, .t b :: vs => match ofV r vs with
    | some d => some (b, d)
    | none => none
  | .l τ :: r, .l τ' xs :: vs => if h : τ' = τ then match ofV r vs with
    | some d => some (h ▸ xs, d)
    | none => none
    else none
  | _, _ => none
theorem toV_of : ∀ {s : List VT} {vs : List (V T)} {d : Den T s}, ofV s vs = some d → toV s d = vs
  | [], [], d, h => rfl
  | .n :: r, .n i :: vs, d, h => by
    simp only [ofV] at h
    split at h
    · rename_i d' hd
      cases h
      simp only [toV, toV_of hd]
    · cases h
  | .t :: r, .t b :: vs, d, h => by
    simp only [ofV] at h
    split at h
    · rename_i d' hd
      cases h
      simp only [toV, toV_of hd]
    · cases h
  | .l τ :: r, .l τ' xs :: vs, d, h => by
    simp only [ofV] at h
    split at h
    · rename_i e
      subst e
      split at h
      · rename_i d' hd
        cases h
        simp only [toV, toV_of hd]
      · cases h
    · cases h
  | [], _ :: _, _, h => by cases h
  | .n :: _, [], _, h => by cases h
  | .n :: _, .t _ :: _, _, h => by cases h
  | .n :: _, .l _ _ :: _, _, h => by cases h
  | .t :: _, [], _, h => by cases h
  | .t :: _, .n _ :: _, _, h => by cases h
  | .t :: _, .l _ _ :: _, _, h => by cases h
  | .l _ :: _, [], _, h => by cases h
  | .l _ :: _, .n _ :: _, _, h => by cases h
  | .l _ :: _, .t _ :: _, _, h => by cases h

/-! ### Loops that are known -/
structure LoopC (T : Nat → Type) where
  sig : List VT
  t : Tmpl
  te : Ex → Tmpl
  room : Nat
  out : Den T sig → Tree (Ex × List (V T))

/-- What has to hold. -/
def reqs {α : Type} : List Prop → Tree α → Tree α
  | [], t => t
  | p :: ps, t => .req p (reqs ps t)
theorem reqs_holds {α : Type} {Q : α → Prop} : ∀ {ps : List Prop} {t : Tree α}, (reqs ps t).holds Q → (∀ p ∈ ps, p) ∧ t.holds Q
  | [], _, h => ⟨fun _ h => (by cases h), h⟩
  | _ :: ps, t, h => by
    obtain ⟨h1, h2⟩ := reqs_holds (ps := ps) (t := t) h.2
    refine ⟨fun q hq => ?_, h2⟩
    rcases List.mem_cons.1 hq with rfl | hq
    · exact h.1
    · exact h1 q hq
theorem reqs_every {α : Type} {Q : α → Prop} : ∀ {ps : List Prop} {t : Tree α}, t.every Q → (reqs ps t).every Q
  | [], _, h => h
  | _ :: ps, t, h => reqs_every (ps := ps) (t := t) h

def loopC (P : Program) (E : Enc T) (c : LoopC T) (st : St T) : Tree (Ex × St T) :=
  match rdSt P E c.t st with
  | none => .fail
  | some (ds, ps) => match ofV c.sig ds with
    | none => .fail
    | some d => reqs ps <| (c.out d).bind fun y =>
      bif Nat.ble (c.te y.1).obs.length c.room && fxIn st.hp (c.te y.1).obs then
        (match mkSt (c.te y.1) st.hp.next (st.hp.next + c.room) (keysT st.hp.objs fun n => n) (keysT st.hp.objs (fun n => n) ++ (nmsOf (c.te y.1).obs st.hp.next ++ st.hp.log)) y.2 with
        | some st' => .leaf (y.1, st')
        | none => .fail)
      else .fail

theorem mkObs_at {nm ln : Nat → Nat} : ∀ {l : List OSh} {b : Nat} {lv : List (Option (V T))} {ds : List (V T)} {os : List (MO T)} {r : List (V T)}, mkObs nm ln l lv ds = some (os, r) →
    os.length = l.length ∧ ∀ (k : Nat) (o : MO T), os[k]? = some o → o.at (b + k) = nmOf l b k
  | [], b, lv, ds, os, r, h => by
    simp only [mkObs, Option.some.injEq, Prod.mk.injEq] at h
    rw [← h.1]
    exact ⟨rfl, fun k o h => by simp at h⟩
  | x :: l, b, lv, ds, os, r, h => by
    have key : ∀ (o : MO T) (os' : List (MO T)), os = o :: os' → o.at b = nmOf (x :: l) b 0 → (∀ k, nmOf (x :: l) b (k + 1) = nmOf l (b + 1) k) → (os'.length = l.length ∧ ∀ (k : Nat) (o : MO T), os'[k]? = some o → o.at (b + 1 + k) = nmOf l (b + 1) k) →
        os.length = (x :: l).length ∧ ∀ (k : Nat) (o : MO T), os[k]? = some o → o.at (b + k) = nmOf (x :: l) b k := by
      rintro o os' rfl h0 h1 ⟨h2, h3⟩
      refine ⟨by simp [h2], fun k o' ho => ?_⟩
      cases k with
      | zero => simp at ho; subst ho; exact h0
      | succ k =>
        rw [h1, show b + (k + 1) = b + 1 + k by omega]
        exact h3 k o' (by simpa using ho)
    cases lv with
    | nil => cases x with
      | c ss => cases h
      | l τ => cases h
      | fx id s => cases s <;> cases h
    | cons v lv =>
    cases x with
    | c ss =>
      simp only [mkObs] at h
      split at h
      · split at h
        · rename_i h3
          cases h
          exact key _ _ rfl rfl (fun _ => rfl) (mkObs_at h3)
        · cases h
      · cases h
    | fx id s =>
      cases s with
      | c ss =>
        simp only [mkObs] at h
        split at h
        · split at h
          · rename_i h3
            cases h
            exact key _ _ rfl rfl (fun _ => rfl) (mkObs_at h3)
          · cases h
        · cases h
      | lp n tms code pd =>
        simp only [mkObs] at h
        split at h
        · split at h
          · rename_i h3
            cases h
            exact key _ _ rfl rfl (fun _ => rfl) (mkObs_at h3)
          · cases h
        · cases h
    | l τ =>
      cases v with
      | none => cases h
      | some v =>
      cases v with
      | n i => cases h
      | t b => cases h
      | l τ' xs =>
        simp only [mkObs] at h
        cases hb : Nat.beq τ' τ with
        | false => rw [hb] at h; cases h
        | true =>
          rw [hb] at h
          simp only [cond_true] at h
          split at h
          · rename_i h3
            cases h
            exact key _ _ rfl rfl (fun _ => rfl) (mkObs_at h3)
          · cases h
theorem mkSt_some {t : Tmpl} {base nx : Nat} {old log : List Nat} {ds : List (V T)} {st' : St T} (h : mkSt t base nx old log ds = some st') :
    ∃ os, os.length = t.obs.length ∧ st'.n = t.nt ∧ st'.hp = ⟨nx, layObs base os (deadAll old .nil), log⟩ ∧ ∀ (k : Nat) (o : MO T), os[k]? = some o → o.at (base + k) = nmOf t.obs base k := by
  unfold mkSt at h
  split at h
  · cases h
  rename_i lv d0 h0
  split at h
  · rename_i tm d1 h1
    split at h
    · rename_i os h2
      simp only [Tr.force_eq, Option.some.injEq] at h
      subst h
      obtain ⟨q1, q2⟩ := mkObs_at (b := base) h2
      exact ⟨os, q1, rfl, rfl, q2⟩
    · cases h
  · cases h
theorem mem_iota {n i x : Nat} : x ∈ iotaFrom n i ↔ i ≤ x ∧ x < i + n := by
  induction n generalizing i with
  | zero => simp [iotaFrom]
  | succ n ih =>
    simp only [iotaFrom, List.mem_cons, ih]
    omega

theorem loopC_gr (c : LoopC T) (st : St T) : (loopC P E c st).every fun r => Gr st.hp r.2.hp := by
  unfold loopC
  split
  · trivial
  · split
    · trivial
    · refine reqs_every (bind_every (R := fun _ => True) (every_true (fun _ => trivial) _) fun y _ => ?_)
      cases hb : Nat.ble (c.te y.1).obs.length c.room && fxIn st.hp (c.te y.1).obs with
      | false => trivial
      | true =>
        rw [Bool.and_eq_true] at hb
        have hin := hb.2
        have hb := bble hb.1
        simp only [cond_true]
        split
        · rename_i st' hst
          obtain ⟨os, e1, e2, e3, e4⟩ := mkSt_some hst
          have hget : ∀ id, st'.hp.get id = match findLay st.hp.next os id with
              | some (_, o) => some o.ao
              | none => if id ∈ keysT st.hp.objs (fun n => n) then some .dead else none := fun id => by
            rw [e3]
            show (layObs _ os (deadAll _ .nil)).get id = _
            rw [get_layObs, get_deadAll, Tr.get_nil]
            cases findLay st.hp.next os id with
            | none => rfl
            | some x => rfl
          have hmem : ∀ (k : Nat) (o : MO T), os[k]? = some o → o.at (st.hp.next + k) ∈ nmsOf (c.te y.1).obs st.hp.next := fun k o ho => by
            rw [e4 k o ho, mem_nmsOf]
            exact ⟨k, by rw [← e1]; exact (List.getElem?_eq_some_iff.1 ho).1, rfl⟩
          show Gr st.hp st'.hp
          refine ⟨by rw [e3]; exact Nat.le_add_right _ _, keysT st.hp.objs (fun n => n) ++ nmsOf (c.te y.1).obs st.hp.next, ?_, fun id hid => ?_, fun id hid => ?_⟩
          · rw [e3, List.append_assoc]
          · rw [List.mem_append, keys_iff] at hid
            have h1 : st.hp.get id = none := by
              cases h : st.hp.objs.get id with
              | none => exact h
              | some _ => exact absurd (.inl (by rw [h]; simp)) hid
            rw [hget, h1]
            cases hf : findLay st.hp.next os id with
            | none =>
              simp only
              rw [if_neg (by rw [keys_iff]; exact fun h => hid (.inl h))]
            | some x =>
              obtain ⟨j, o⟩ := x
              obtain ⟨q1, q2⟩ := findLay_some os _ _ hf
              exact absurd (.inr (q2 ▸ hmem j o q1)) hid
          · rw [List.mem_append, mem_nmsOf, keys_iff] at hid
            rcases hid with h | h
            · refine ⟨.inl h, ?_⟩
              rw [hget]
              split
              · simp
              · rw [if_pos (keys_iff.2 h)]; simp
            · obtain ⟨k, hk, hk2⟩ := h
              refine ⟨?_, ?_⟩
              · by_cases hc : ∃ id s, (c.te y.1).obs[k]? = some (.fx id s)
                · obtain ⟨id', s, hc⟩ := hc
                  have := (nmOf_at (c.te y.1).obs st.hp.next k).1 id' s hc
                  rw [hk2] at this
                  subst this
                  exact .inl (fxIn_at hin k _ s hc)
                · have := (nmOf_at (c.te y.1).obs st.hp.next k).2 fun id s e => hc ⟨id, s, e⟩
                  rw [hk2] at this
                  exact .inr ⟨by omega, by rw [e3]; show id < st.hp.next + c.room; omega⟩
              · rw [hget]
                cases hf : findLay st.hp.next os id with
                | some x => simp
                | none =>
                  have := findLay_none os _ _ hf k _ (List.getElem?_eq_getElem (by omega))
                  rw [e4 k _ (List.getElem?_eq_getElem (by omega))] at this
                  exact absurd hk2 this
        · trivial

/-- The body on a state of the form, read again: the next round's data, or how it is left. -/
def bodyD (P : Program) (E : Enc T) (c : LoopC T) (n0 : Nat) (body : St T → Tree (Ex × St T)) (d : Den T c.sig) : Tree (Den T c.sig ⊕ (Ex × List (V T))) :=
  bif fxLow n0 c.t.obs then match mkSt c.t n0 (n0 + c.t.obs.length) [] [] (toV c.sig d) with
  | none => .fail
  | some st0 => (body st0).bind fun x =>
    bif Nat.ble x.2.hp.next (n0 + c.room) then
      (match x.1 with
      | .normal => match rdSt P E c.t x.2 with
        | some (ds, ps) => match ofV c.sig ds with
          | some d' => reqs ps (.leaf (.inl d'))
          | none => .fail
        | none => .fail
      | e => bif fxLow n0 (c.te e).obs then (match rdSt P E (c.te e) x.2 with
        | some (ds, ps) => reqs ps (.leaf (.inr (e, ds)))
        | none => .fail) else .fail)
    else .fail
  else .fail

/-- What has to be shown of a loop's body. -/
def LoopH (P : Program) (E : Enc T) (c : LoopC T) (n0 : Nat) (body : St T → Tree (Ex × St T)) : Prop :=
  ∃ m : Den T c.sig → Nat, ∀ (d : Den T c.sig) (K : Ex × List (V T) → Prop), (c.out d).holds K → (bodyD P E c n0 body d).holds fun y => match y with
    | .inl d' => m d' < m d ∧ (c.out d').holds K
    | .inr y => K y

/-- Whoever runs code as a function's body. -/
def RunsOk (P : Program) (E : Enc T) (b : Code) (body : St T → Tree (Ex × St T)) (n0 : Nat) : Prop :=
  ∀ (F : Fm), FreshF F n0 → ∀ (n : Nat) (st : St T) (a : Act) (w : World) (Q : Exit → Act → World → Prop), Rel P E F st a w →
    (body st).holds (fun x => x.2.hp.next ≤ F.lim ∧ ∀ a' w', Rel P E F x.2 a' w' → Q x.1.toExit a' w') → b.wpIn (FR (F.rr.map (·.2))) n P Q a w

theorem loop_sound {b : Code} {c : LoopC T} {n0 : Nat} {body : St T → Tree (Ex × St T)} (hB : RunsOk P E b body n0) (hE : E.Good P) (hH : LoopH P E c n0 body) (hroom : c.t.obs.length ≤ c.room) {F : Fm} (hF : FreshF F n0)
    {st : St T} {a : Act} {w : World} {Q : Exit → Act → World → Prop} {n : Nat} (hR : Rel P E F st a w)
    (h : (loopC P E c st).holds fun x => x.2.hp.next ≤ F.lim ∧ ∀ a' w', Rel P E F x.2 a' w' → Q x.1.toExit a' w') : (Code.loop b).wpIn (FR (F.rr.map (·.2))) n P Q a w := by
  obtain ⟨m, hm⟩ := hH
  unfold loopC at h
  split at h
  · exact h.elim
  rename_i ds ps hds
  split at h
  · exact h.elim
  rename_i d hd
  obtain ⟨hps, h⟩ := reqs_holds h
  have h := Tree.holds_bind.1 h
  have hn0 : F.n0 ≤ st.hp.next := hR.elim fun _ h => h.elim fun _ h => h.nle
  have hfree : ∀ id, st.hp.get id ≠ none → ¬ (st.hp.next ≤ id ∧ id < F.lim) := fun id hid hc => hid (hR.elim fun _ h => h.elim fun _ h => (h.now.free id hc.1 hc.2).2)
  -- what is shown at the end
  let K : Ex × List (V T) → Prop := fun y => ((c.te y.1).obs.length ≤ c.room ∧ fxIn st.hp (c.te y.1).obs = true) ∧ ∃ st', mkSt (c.te y.1) st.hp.next (st.hp.next + c.room) (keysT st.hp.objs fun n => n) (keysT st.hp.objs (fun n => n) ++ (nmsOf (c.te y.1).obs st.hp.next ++ st.hp.log)) y.2 = some st' ∧
    st'.hp.next ≤ F.lim ∧ ∀ a' w', Rel P E F st' a' w' → Q y.1.toExit a' w'
  have hK : (c.out d).holds K := Tree.holds_mono (fun y hy => by
    cases hb : Nat.ble (c.te y.1).obs.length c.room && fxIn st.hp (c.te y.1).obs with
    | false => rw [hb] at hy; exact hy.elim
    | true =>
      rw [hb] at hy
      simp only [cond_true] at hy
      rw [Bool.and_eq_true] at hb
      split at hy
      · rename_i st' hst
        exact ⟨⟨bble hb.1, hb.2⟩, st', hst, hy⟩
      · exact hy.elim) h
  have hlim : st.hp.next + c.room ≤ F.lim := by
    obtain ⟨y, _, st', hst, h1, _⟩ := Tree.holds_some hK
    obtain ⟨os, _, _, e3, _⟩ := mkSt_some hst
    rw [e3] at h1
    exact h1
  have hlow : fxLow n0 c.t.obs = true := by
    have := hm d K hK
    unfold bodyD at this
    cases hb : fxLow n0 c.t.obs with
    | true => rfl
    | false => rw [hb] at this; exact this.elim
  let Good : Nat → Act → World → Prop := fun k a w => ∃ (d : Den T c.sig) (st0 : St T), mkSt c.t n0 (n0 + c.t.obs.length) [] [] (toV c.sig d) = some st0 ∧ Rel P E F st0 a w ∧ m d = k ∧ (c.out d).holds K
  have hn0' := hF.1
  have start : ∃ k, Good k a w := by
    obtain ⟨st0, h1, h2⟩ := Rel.canon hE (base := n0) (nx := n0 + c.t.obs.length) (old := []) (log := []) hF hR hds hps hlow (Nat.le_refl _) (Nat.le_refl _) (by omega) (fun _ h => by cases h)
    rw [← toV_of hd] at h1
    exact ⟨m d, d, st0, h1, h2, rfl, hK⟩
  refine wpIn_loop (fun a w => ∃ k, Good k a w) (fun a w => least fun k => Good k a w) start ?_
  intro a w hI
  have hg := (least_spec hI).1
  generalize (least fun k => Good k a w) = k at hg
  obtain ⟨d, st0, h1, h2, h3, h4⟩ := hg
  have hbody := hm d K h4
  unfold bodyD at hbody
  rw [hlow, cond_true, h1] at hbody
  have hbody := Tree.holds_bind.1 hbody
  refine hB F hF n st0 a w _ h2 (Tree.holds_mono (fun x hx => ?_) hbody)
  cases hb : Nat.ble x.2.hp.next (n0 + c.room) with
  | false => rw [hb] at hx; exact hx.elim
  | true =>
    rw [hb] at hx
    have hb := bble hb
    simp only [cond_true] at hx
    refine ⟨by omega, fun a' w' hR' => ?_⟩
    obtain ⟨e, st1⟩ := x
    simp only at hx hR' hb
    have leave : ∀ e' ds' ps', fxLow n0 (c.te e').obs = true → rdSt P E (c.te e') st1 = some (ds', ps') → (∀ p ∈ ps', p) → K (e', ds') → Q e'.toExit a' w' := by
      intro e' ds' ps' hlo' hrd hps' hk
      obtain ⟨⟨hle, _⟩, st', hst, _, hq⟩ := hk
      obtain ⟨st'', h1, h2⟩ := Rel.canon hE (base := st.hp.next) (nx := st.hp.next + c.room) (old := keysT st.hp.objs fun n => n) (log := keysT st.hp.objs (fun n => n) ++ (nmsOf (c.te e').obs st.hp.next ++ st.hp.log)) hF hR' hrd hps' hlo' (by omega) (Nat.add_le_add_left hle _) hlim
        (fun id hid hc => hfree id (keys_iff.1 hid) (by omega))
      rw [hst] at h1
      cases h1
      exact hq a' w' h2
    cases e with
    | normal =>
      simp only at hx
      split at hx
      · rename_i ds' ps' hrd
        split at hx
        · rename_i d' f1
          obtain ⟨hps', f2, f3⟩ := reqs_holds hx
          obtain ⟨st2, g1, g2⟩ := Rel.canon hE (base := n0) (nx := n0 + c.t.obs.length) (old := []) (log := []) hF hR' hrd hps' hlow (Nat.le_refl _) (Nat.le_refl _) (by omega) (fun _ h => by cases h)
          rw [← (toV_of f1 : toV c.sig d' = ds')] at g1
          have hG : Good (m d') a' w' := ⟨d', st2, g1, g2, rfl, f3⟩
          exact ⟨⟨_, hG⟩, Nat.lt_of_le_of_lt ((least_spec ⟨_, hG⟩).2 _ hG) (by omega)⟩
        · exact hx.elim
      · exact hx.elim
    | exit id =>
      simp only at hx
      cases hlo : fxLow n0 (c.te (.exit id)).obs with
      | false => rw [hlo] at hx; exact hx.elim
      | true =>
      rw [hlo, cond_true] at hx
      split at hx
      · rename_i ds' ps' hrd
        obtain ⟨hps', hx⟩ := reqs_holds hx
        exact leave _ _ _ hlo hrd hps' hx
      · exact hx.elim
    | ret =>
      simp only at hx
      cases hlo : fxLow n0 (c.te .ret).obs with
      | false => rw [hlo] at hx; exact hx.elim
      | true =>
      rw [hlo, cond_true] at hx
      split at hx
      · rename_i ds' ps' hrd
        obtain ⟨hps', hx⟩ := reqs_holds hx
        exact leave _ _ _ hlo hrd hps' hx
      · exact hx.elim

/-! ### Tables of loops -/
def lkL (k : Nat) : List (Nat × LoopC T) → Option (LoopC T)
  | [] => none
  | (j, c) :: l => bif Nat.beq k j then some c else lkL k l
def tabL (P : Program) (E : Enc T) (l : List (Nat × LoopC T)) : LoopTab T := fun k => match lkL k l with
  | some c => some (loopC P E c)
  | none => none
theorem tabL_gr (l : List (Nat × LoopC T)) : LoopGr (tabL P E l) := fun k C h st => by
  unfold tabL at h
  split at h
  · cases h; exact loopC_gr _ _
  · cases h
/-- The loops of one function are known. -/
def llOf (P : Program) (E : Enc T) (f : Nat) (l : List (Nat × LoopC T)) : Nat → Nat → LoopTab T := fun g n0 => bif Nat.beq g f && Nat.beq n0 0 then tabL P E l else L0
def lpOf (P : Program) (f i : Nat) : Code := match P.funcs[f]? with
  | some fn => match fn.body with
    | some c => (loopsIn c).getD i .skip
    | none => .skip
  | none => .skip
def lpN (P : Program) (f : Nat) : Nat := match P.funcs[f]? with
  | some fn => match fn.body with
    | some c => (loopsIn c).length
    | none => 0
  | none => 0
/-- The loops over functions of a function's code. -/
def rfsIn : Code → List RfCode
  | .seq a b => rfsIn a ++ rfsIn b
  | .cond _ a b => rfsIn a ++ rfsIn b
  | .block _ b => rfsIn b
  | .loop b => rfsIn b
  | .scope b => rfsIn b
  | .rangeFunc _ ps a b => ⟨ps, a, b⟩ :: rfsIn b
  | _ => []
def rfOf (P : Program) (f i : Nat) : RfCode := match P.funcs[f]? with
  | some fn => match fn.body with
    | some c => (rfsIn c).getD i ⟨#[], .skip, .skip⟩
    | none => ⟨#[], .skip, .skip⟩
  | none => ⟨#[], .skip, .skip⟩
/-- A loop that is known does what is said of it. -/
def LSnd (P : Program) (E : Enc T) (b : Code) (c : LoopC T) : Prop := ∀ (F : Fm), FreshF F 0 → ∀ (st : St T) (a : Act) (w : World) (Q : Exit → Act → World → Prop) (n : Nat), Rel P E F st a w →
  (loopC P E c st).holds (fun x => x.2.hp.next ≤ F.lim ∧ ∀ a' w', Rel P E F x.2 a' w' → Q x.1.toExit a' w') → (Code.loop b).wpIn (FR (F.rr.map (·.2))) n P Q a w
theorem llOf_ok {f : Nat} {l : List (Nat × LoopC T)} (h : ∀ i < lpN P f, ∀ c, lkL (keyOfC (lpOf P f i)) l = some c → LSnd P E (lpOf P f i) c) : LLOk P E (llOf P E f l) := by
  intro g fn n0 hg
  unfold llOf
  cases hb : Nat.beq g f && Nat.beq n0 0 with
  | false => exact ⟨L0_gr, fun _ _ _ _ _ _ => L0_ok⟩
  | true =>
    rw [Bool.and_eq_true] at hb
    have e1 := bbeq hb.1
    have e2 := bbeq hb.2
    subst e1; subst e2
    simp only [cond_true]
    refine ⟨tabL_gr l, fun c hc b hb F hF C hC st a w Q n hR hh => ?_⟩
    obtain ⟨i, hi, rfl⟩ := List.getElem_of_mem hb
    have k1 : lpOf P g i = (loopsIn c)[i] := by
      unfold lpOf
      rw [hg]
      simp only [hc]
      rw [List.getD_eq_getElem?_getD, List.getElem?_eq_getElem hi]
      rfl
    have k2 : lpN P g = (loopsIn c).length := by
      unfold lpN
      rw [hg]
      simp only [hc]
    unfold tabL at hC
    split at hC
    · rename_i c' hc'
      cases hC
      have := h i (by omega) c' (by rw [k1]; exact hc')
      rw [k1] at this
      exact this F hF st a w Q n hR hh
    · cases hC

theorem bodyX_runs (hE : E.Good P) (hN : NamesOk P) (hm : P.follows .mixedOrders = true) {ct : CTab T} (hc : CTabOk P E ct) {ll : Nat → Nat → LoopTab T} (hl : LLOk P E ll) {n : Nat} {L : LoopTab T} (hLe : LoopGr L) {b : Code} {n0 : Nat}
    (hLo : ∀ b' ∈ loopsIn b, ∀ F : Fm, FreshF F n0 → LoopOk P E F L b') : RunsOk P E b (bodyX P E ct ll fuel n L b) n0 := by
  intro F hF k st a w Q hR h
  have hA := callX_ok (fuel := fuel) hE hN hm hc hl n
  have hAe := callX_every (P := P) (E := E) (fuel := fuel) (ct := ct) (ll := ll) hc (fun f n0 fn hf => (hl f fn n0 hf).1) n
  have hD := drawOk (cl := true) hE hm hA hAe
  refine exec_sound (fuel := fuel) (cl := true) hF.2.1 hE hA hAe hD (fun ops st => drawT_every hAe ops st) hLe b st a w Q (fun b' hb' => hLo b' hb' F hF) hR ?_
  rw [hF.2.2.1]
  exact h
/-- A loop with no loops inside. -/
theorem LSnd.mk (hE : E.Good P) (hN : NamesOk P) (hm : P.follows .mixedOrders = true) {ct : CTab T} (hc : CTabOk P E ct) {n : Nat} {b : Code} {c : LoopC T} (hroom : c.t.obs.length ≤ c.room)
    (hH : LoopH P E c 0 (bodyX P E ct noLoops fuel n L0 b)) : LSnd P E b c := fun F hF st a w Q n' hR h =>
  loop_sound (bodyX_runs hE hN hm hc noLoops_ok L0_gr (fun _ _ _ _ => L0_ok)) hE hH hroom hF hR h
/-- A loop with known loops inside. -/
theorem LSnd.mk2 (hE : E.Good P) (hN : NamesOk P) (hm : P.follows .mixedOrders = true) {ct : CTab T} (hc : CTabOk P E ct) {n : Nat} {b : Code} {c : LoopC T} (hroom : c.t.obs.length ≤ c.room) {l : List (Nat × LoopC T)}
    (hl : ∀ b' ∈ loopsIn b, ∀ c', lkL (keyOfC b') l = some c' → LSnd P E b' c')
    (hH : LoopH P E c 0 (bodyX P E ct noLoops fuel n (tabL P E l) b)) : LSnd P E b c := fun F hF st a w Q n' hR h =>
  loop_sound (bodyX_runs hE hN hm hc noLoops_ok (tabL_gr l) (fun b' hb' F hF C hC st a w Q n hR h => by
    unfold tabL at hC
    split at hC
    · rename_i c' hc'
      cases hC
      exact hl b' hb' c' hc' F hF st a w Q n hR h
    · cases hC)) hE hH hroom hF hR h
/-! ### The same, for functions that are called when m names are given -/
/-- The loops of one function are known. -/
def llOfN (P : Program) (E : Enc T) (f m : Nat) (l : List (Nat × LoopC T)) : Nat → Nat → LoopTab T := fun g n0 => bif Nat.beq g f && Nat.beq n0 m then tabL P E l else L0
/-- A loop that is known does what is said of it. -/
def LSndN (P : Program) (E : Enc T) (m : Nat) (b : Code) (c : LoopC T) : Prop := ∀ (F : Fm), FreshF F m → ∀ (st : St T) (a : Act) (w : World) (Q : Exit → Act → World → Prop) (n : Nat), Rel P E F st a w →
  (loopC P E c st).holds (fun x => x.2.hp.next ≤ F.lim ∧ ∀ a' w', Rel P E F x.2 a' w' → Q x.1.toExit a' w') → (Code.loop b).wpIn (FR (F.rr.map (·.2))) n P Q a w
theorem llOfN_ok {f m : Nat} {l : List (Nat × LoopC T)} (h : ∀ i < lpN P f, ∀ c, lkL (keyOfC (lpOf P f i)) l = some c → LSndN P E m (lpOf P f i) c) : LLOk P E (llOfN P E f m l) := by
  intro g fn n0 hg
  unfold llOfN
  cases hb : Nat.beq g f && Nat.beq n0 m with
  | false => exact ⟨L0_gr, fun _ _ _ _ _ _ => L0_ok⟩
  | true =>
    rw [Bool.and_eq_true] at hb
    have e1 := bbeq hb.1
    have e2 := bbeq hb.2
    subst e1; subst e2
    simp only [cond_true]
    refine ⟨tabL_gr l, fun c hc b hb F hF C hC st a w Q n hR hh => ?_⟩
    obtain ⟨i, hi, rfl⟩ := List.getElem_of_mem hb
    have k1 : lpOf P g i = (loopsIn c)[i] := by
      unfold lpOf
      rw [hg]
      simp only [hc]
      rw [List.getD_eq_getElem?_getD, List.getElem?_eq_getElem hi]
      rfl
    have k2 : lpN P g = (loopsIn c).length := by
      unfold lpN
      rw [hg]
      simp only [hc]
    unfold tabL at hC
    split at hC
    · rename_i c' hc'
      cases hC
      have := h i (by omega) c' (by rw [k1]; exact hc')
      rw [k1] at this
      exact this F hF st a w Q n hR hh
    · cases hC

/-- A loop with no loops inside. -/
theorem LSndN.mk (hE : E.Good P) (hN : NamesOk P) (hm : P.follows .mixedOrders = true) {ct : CTab T} (hc : CTabOk P E ct) {n m : Nat} {b : Code} {c : LoopC T} (hroom : c.t.obs.length ≤ c.room)
    (hH : LoopH P E c m (bodyX P E ct noLoops fuel n L0 b)) : LSndN P E m b c := fun F hF st a w Q n' hR h =>
  loop_sound (bodyX_runs hE hN hm hc noLoops_ok L0_gr (fun _ _ _ _ => L0_ok)) hE hH hroom hF hR h
/-- A loop with known loops inside. -/
theorem LSndN.mk2 (hE : E.Good P) (hN : NamesOk P) (hm : P.follows .mixedOrders = true) {ct : CTab T} (hc : CTabOk P E ct) {n m : Nat} {b : Code} {c : LoopC T} (hroom : c.t.obs.length ≤ c.room) {l : List (Nat × LoopC T)}
    (hl : ∀ b' ∈ loopsIn b, ∀ c', lkL (keyOfC b') l = some c' → LSndN P E m b' c')
    (hH : LoopH P E c m (bodyX P E ct noLoops fuel n (tabL P E l) b)) : LSndN P E m b c := fun F hF st a w Q n' hR h =>
  loop_sound (bodyX_runs hE hN hm hc noLoops_ok (tabL_gr l) (fun b' hb' F hF C hC st a w Q n hR h => by
    unfold tabL at hC
    split at hC
    · rename_i c' hc'
      cases hC
      exact hl b' hb' c' hc' F hF st a w Q n hR h
    · cases hC)) hE hH hroom hF hR h
end Go.Cx
