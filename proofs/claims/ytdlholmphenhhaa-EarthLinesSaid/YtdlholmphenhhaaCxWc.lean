/- The evaluator: regions with such stores are sound. No condition. -/
import Derived.Test.YtdlholmphenhhaaCxWb
set_option linter.unusedVariables false
noncomputable section
namespace Go.Cx
open Go.RowKit
variable {T : Nat → Type} {P : Program} {E : Enc T} {cl : Bool} {act : Tgt → List (AV T) → Hp T → Tree (AV T × Hp T)}

/-- A row that forgets its room, and its family. -/
def down (hp : Hp T) (id : Nat) : Hp T :=
  match hp.get id with
  | some (.grow n c d f) => match hp.get f with
    | some (.fam h _) => bif Nat.beq h id then (hp.put id (.cells n c d)).put f .dead else hp
    | _ => hp
  | _ => hp

/-- Nothing but rows that forget their rooms. -/
def Down (hp hp' : Hp T) : Prop :=
  (∀ (lim : Nat) (M : Nat → Prop) (β : Nat → Option Hd) (w : World), ∀ {P : Program} {E : Enc T}, Now P E lim M β hp w → Step P E lim M β hp w M β hp' w) ∧ Gr hp hp' ∧ hp'.next = hp.next ∧ ∀ (id n : Nat) (c : Tr (AV T)) (d : AV T), hp.get id = some (.cells n c d) → hp'.get id = some (.cells n c d)
theorem Down.refl {hp : Hp T} : Down hp hp := ⟨fun _ _ _ _ _ _ h => Step.refl h, Gr.refl, rfl, fun _ _ _ _ h => h⟩
theorem Down.trans {a b c : Hp T} (h : Down a b) (k : Down b c) : Down a c :=
  ⟨fun lim M β w _ _ hn => Step.trans hn (h.1 lim M β w hn) (k.1 lim M β w (h.1 lim M β w hn).now), h.2.1.trans k.2.1, k.2.2.1.trans h.2.2.1, fun id n c d e => k.2.2.2 id n c d (h.2.2.2 id n c d e)⟩
theorem down_ok (hp : Hp T) (id : Nat) : Down hp (down hp id) := by
  unfold down
  split
  case h_2 => exact .refl
  rename_i n c d f hg
  split
  case h_2 => exact .refl
  rename_i h sh hf
  cases hb : Nat.beq h id with
  | false => exact .refl
  | true =>
  simp only [cond_true]
  have hh : h = id := Nat.eq_of_beq_eq_true hb
  subst hh
  have hne : h ≠ f := fun e => by rw [e, hf] at hg; cases hg
  have get2 : ∀ k, ((hp.put h (.cells n c d)).put f .dead).get k = if k = f then some .dead else if k = h then some (.cells n c d) else hp.get k := fun k => by rw [Hp.get_put, Hp.get_put]
  have live2 : ∀ {k : Nat}, Live ((hp.put h (.cells n c d)).put f .dead).get k → k = h ∨ (k ≠ h ∧ k ≠ f ∧ Live hp.get k ∧ ((hp.put h (.cells n c d)).put f .dead).get k = hp.get k ∧ keyOf hp.get k ≠ f) := fun {k} hl => by
    by_cases hk : k = h
    · exact .inl hk
    · have hkf : k ≠ f := fun e => by
        unfold Live at hl
        rw [get2, if_pos e] at hl
        exact hl
      have e := get2 k
      rw [if_neg hkf, if_neg hk] at e
      refine .inr ⟨hk, hkf, ?_, e, ?_⟩
      · unfold Live at hl ⊢
        rw [e] at hl
        split at hl
        · trivial
        · trivial
        · rename_i n' c' d' f' ho
          obtain ⟨hd, sh', h1, h2⟩ := hl
          rw [get2] at h1
          by_cases h3 : f' = f
          · rw [if_pos h3] at h1; cases h1
          · rw [if_neg h3] at h1
            by_cases h4 : f' = h
            · rw [if_pos h4] at h1; cases h1
            · rw [if_neg h4] at h1
              exact ⟨hd, sh', h1, h2⟩
        · exact hl.elim
      · unfold keyOf
        unfold Live at hl
        rw [e] at hl
        split
        · rename_i n' c' d' f' ho
          rw [ho] at hl
          intro hc
          subst hc
          obtain ⟨hd, sh', h1, _⟩ := hl
          rw [get2, if_pos rfl] at h1
          cases h1
        · exact hkf
  have keep2 : ∀ {k : Nat}, k ≠ h → k ≠ f → keyOf ((hp.put h (.cells n c d)).put f .dead).get k = keyOf hp.get k := fun {k} h1 h2 => by
    unfold keyOf
    rw [get2, if_neg h2, if_neg h1]
  have keyh : keyOf ((hp.put h (.cells n c d)).put f .dead).get h = h := by
    unfold keyOf
    rw [get2, if_neg hne, if_pos rfl]
  have liveh : Live hp.get h := by
    unfold Live
    rw [hg]
    exact ⟨h, sh, hf, .inl rfl⟩
  have keyh0 : keyOf hp.get h = f := by
    unfold keyOf
    rw [hg]
  refine ⟨fun lim M β w P E hN => ?_, (Gr.put (by rw [hg]; simp)).trans (Gr.put ((Gr.put (by rw [hg]; simp)).keep (by rw [hf]; simp))), rfl, fun id n' c' d' e => ?_⟩
  · have heap : HeapRel P E w M β ((hp.put h (.cells n c d)).put f .dead).get := by
      refine ⟨fun k o hl ho => ?_, fun i j hi hj hli hlj hne2 h1 h2 => ?_, fun i hd hl h1 => ?_, fun f' hd s sh' nh ns ch cs dh ds hh hs k1 k2 k3 k4 k5 k6 k7 => ?_⟩
      · rcases live2 hl with rfl | ⟨h1, h2, h3, h4, _⟩
        · rw [get2, if_neg hne, if_pos rfl] at ho
          cases ho
          obtain ⟨hd, h5, vs, el, g1, g2, g3, g4⟩ := hN.heap.obj _ _ liveh hg
          exact ⟨hd, h5, vs, el, g1, by omega, Nat.le_refl _, g4⟩
        · rw [h4] at ho
          exact hN.heap.obj k o h3 ho
      · rcases live2 hli with rfl | ⟨a1, a2, a3, a4, a5⟩
        · rcases live2 hlj with rfl | ⟨b1, b2, b3, b4, b5⟩
          · exact absurd rfl hne2
          · exact hN.heap.inj _ _ _ _ liveh b3 (by rw [keyh0]; exact fun e => b5 e.symm) h1 h2
        · rcases live2 hlj with rfl | ⟨b1, b2, b3, b4, b5⟩
          · exact hN.heap.inj _ _ _ _ a3 liveh (by rw [keyh0]; exact a5) h1 h2
          · rw [keep2 a1 a2, keep2 b1 b2] at hne2
            exact hN.heap.inj _ _ _ _ a3 b3 hne2 h1 h2
      · rcases live2 hl with rfl | ⟨a1, a2, a3, _, _⟩
        · exact hN.heap.own _ _ liveh h1
        · exact hN.heap.own _ _ a3 h1
      · have back : ∀ {k : Nat} {o : AO T}, ((hp.put h (.cells n c d)).put f .dead).get k = some o → (∀ n c d, o ≠ .cells n c d) → o ≠ .dead → hp.get k = some o := fun {k o} e q1 q2 => by
          rw [get2] at e
          by_cases hk : k = f
          · rw [if_pos hk] at e; cases e; exact absurd rfl q2
          · rw [if_neg hk] at e
            by_cases hk2 : k = h
            · rw [if_pos hk2] at e; cases e; exact absurd rfl (q1 _ _ _)
            · rw [if_neg hk2] at e; exact e
        exact hN.heap.shade f' hd s sh' nh ns ch cs dh ds hh hs (back k1 (fun _ _ _ e => by cases e) (fun e => by cases e)) k2 (back k3 (fun _ _ _ e => by cases e) (fun e => by cases e)) (back k4 (fun _ _ _ e => by cases e) (fun e => by cases e)) k5 k6 k7
    refine ⟨⟨rfl, rfl, rfl, Nat.le_refl _, fun _ _ _ => rfl, fun _ h => .inl h, fun _ h _ => h, ?_, fun _ _ h => h, fun _ _ h => .inl h⟩, ⟨heap, hN.nb, fun k h1 h2 => ⟨(hN.free k h1 h2).1, ?_⟩, fun f' hd s sh' h1 h2 h3 h4 => ?_⟩, Nat.le_refl _⟩
    · rintro b ⟨k, hd, h1, h2, h3⟩
      rcases live2 h1 with rfl | ⟨_, _, a3, _, _⟩
      · exact .inl ⟨_, hd, liveh, h2, h3⟩
      · exact .inl ⟨k, hd, a3, h2, h3⟩
    · have e := (hN.free k h1 h2).2
      have h5 : k ≠ f := fun q => by rw [q, hf] at e; cases e
      have h6 : k ≠ h := fun q => by rw [q, hg] at e; cases e
      rw [get2, if_neg h5, if_neg h6]
      exact e
    · rw [get2] at h1
      by_cases hk : f' = f
      · rw [if_pos hk] at h1; cases h1
      · rw [if_neg hk] at h1
        by_cases hk2 : f' = h
        · rw [if_pos hk2] at h1; cases h1
        · rw [if_neg hk2] at h1
          exact hN.nomem f' hd s sh' h1 h2 h3 h4
  · have h5 : id ≠ f := fun q => by rw [q, hf] at e; cases e
    have h6 : id ≠ h := fun q => by rw [q, hg] at e; cases e
    rw [get2, if_neg h5, if_neg h6]
    exact e


def downs : List (Pat T) → Hp T → Hp T
  | [], hp => hp
  | p :: l, hp => downs l (down hp p.id)
theorem downs_ok : ∀ (l : List (Pat T)) (hp : Hp T), Down hp (downs l hp)
  | [], _ => .refl
  | p :: l, hp => (down_ok hp p.id).trans (downs_ok l _)

/-! ### The evaluator of such a region -/
def clearOf (ms : List Nat) (p : Pat T) : Nat → List (Rc T) → Bool
  | _, [] => true
  | j, q :: qs => bif (bif Nat.testBit (ms.getD p.k 0) j then true else bif q.dom.has p.id then false else bif memN p.id q.hp.log then false else true) then clearOf ms p (j + 1) qs else false
theorem clearOf_spec {ms : List Nat} {p : Pat T} : ∀ {qs : List (Rc T)} {i : Nat}, clearOf ms p i qs = true → ∀ (j : Nat) (q : Rc T), qs[j]? = some q → Nat.testBit (ms.getD p.k 0) (i + j) = true ∨ (q.dom.has p.id = false ∧ p.id ∉ q.hp.log)
  | [], i, _, j, q, h => by simp at h
  | x :: qs, i, h, j, q, hq => by
    unfold clearOf at h
    have hh : (bif Nat.testBit (ms.getD p.k 0) i then true else bif x.dom.has p.id then false else bif memN p.id x.hp.log then false else true) = true ∧ clearOf ms p (i + 1) qs = true := by
      cases hb : (bif Nat.testBit (ms.getD p.k 0) i then true else bif x.dom.has p.id then false else bif memN p.id x.hp.log then false else true) with
      | false => rw [hb] at h; cases h
      | true => rw [hb] at h; exact ⟨rfl, h⟩
    cases j with
    | zero =>
      simp at hq
      subst hq
      rw [Nat.add_zero]
      cases h1 : Nat.testBit (ms.getD p.k 0) i with
      | true => exact .inl rfl
      | false =>
        rw [h1] at hh
        simp only [cond_false] at hh
        cases h2 : x.dom.has p.id with
        | true => rw [h2] at hh; cases hh.1
        | false =>
          rw [h2] at hh
          simp only [cond_false] at hh
          cases h3 : memN p.id x.hp.log with
          | true => rw [h3] at hh; cases hh.1
          | false => exact .inr ⟨rfl, fun hm => by rw [memN_iff.2 hm] at h3; cases h3⟩
    | succ j =>
      rw [show i + (j + 1) = i + 1 + j by omega]
      exact clearOf_spec hh.2 j q (by simpa using hq)
def tgtOk (hp : Hp T) (p : Pat T) : Bool :=
  match hp.get p.id with
  | some (.cells n _ _) => Nat.ble (p.off + p.vs.length) n
  | _ => false
theorem tgtOk_spec {hp : Hp T} {p : Pat T} (h : tgtOk hp p = true) : ∃ n c d, hp.get p.id = some (.cells n c d) ∧ p.off + p.vs.length ≤ n := by
  unfold tgtOk at h
  split at h
  · rename_i n c d hg
    exact ⟨n, c, d, hg, Nat.le_of_ble_eq_true h⟩
  · cases h

section
variable (P : Program) (E : Enc T) (cl : Bool) (act : Tgt → List (AV T) → Hp T → Tree (AV T × Hp T))
def looseE (ops : Array Oper) (ms : List Nat) (os0 : List Oper) (st : St T) : Tree (St T) :=
  bif textOk os0.toArray then
    ((drun P E cl act os0.toArray 0 ms [] os0 st).deamb).bind fun rA =>
      match patsOf P rA.2 (looseAt ops ms) 0 ops.toList with
      | none => .fail
      | some psA =>
        ((drun P E cl act os0.toArray 0 ms [] os0 ⟨st.n, st.tm, downs psA st.hp⟩).deamb).bind fun r =>
          match patsOf P r.2 (looseAt ops ms) 0 ops.toList with
          | none => .fail
          | some ps =>
            bif chkAll 0 [] [] ms r.1 then bif apartP ps then bif ps.all (fun p => clearOf ms p 0 r.1) then bif ps.all (tgtOk r.2.hp) then
              (applyP ps r.2.hp).bind fun hp' => .leaf ⟨r.2.n, r.2.tm, hp'⟩
            else .fail else .fail else .fail else .fail
  else .fail
def looseT (ops : Array Oper) (ms : List Nat) (st : St T) : Tree (St T) := looseE P E cl act ops ms (neutr (looseAt ops ms) 0 ops.toList) st
def drawL (ops : Array Oper) (st : St T) : Tree (St T) :=
  bif textOk ops then
    ((drun P E cl act ops 0 (masks ops.toList []) [] ops.toList st).deamb).bind fun r =>
      bif chkAll 0 [] [] (masks ops.toList []) r.1 then .leaf r.2 else looseT P E cl act ops (masks ops.toList []) st
  else .fail
end

theorem every_any {α : Type} {Q : α → Prop} {β : Type} {t : Tree β} {k : β → Tree α} (h : ∀ b, (k b).every Q) : (t.bind k).every Q := Tree.every_bind (by
  induction t with
  | fail => trivial
  | leaf a => exact h a
  | br b x y hx hy => exact ⟨hx, hy⟩
  | req p x hx => exact hx
  | amb x y hx hy => exact ⟨hx, hy⟩)
theorem looseT_every (hA : ActGr act) (ops : Array Oper) (ms : List Nat) (st : St T) : (looseT P E cl act ops ms st).every fun st' => Gr st.hp st'.hp := by
  unfold looseT looseE
  refine every_bif (every_any fun rA => ?_) trivial
  split
  · trivial
  · rename_i psA _
    refine bind_every (deamb_every (drun_every hA _ _ _ _ _)) fun r h => ?_
    have h : Gr (downs psA st.hp) r.2.hp := h
    have h0 := (downs_ok psA st.hp).2.1.trans h
    split
    · trivial
    · exact every_bif (every_bif (every_bif (every_bif (bind_every (applyP_every _ _) fun hp' k => h0.trans k) trivial) trivial) trivial) trivial
theorem drawL_every (hA : ActGr act) (ops : Array Oper) (st : St T) : (drawL P E cl act ops st).every fun st' => Gr st.hp st'.hp := by
  unfold drawL
  exact every_bif (bind_every (deamb_every (drun_every hA _ _ _ _ _)) fun r h => every_bif h (looseT_every hA _ _ _)) trivial

theorem reach_deamb {α : Type} {Q : α → Prop} {x : α} : ∀ {t : Tree α}, t.reach x → Q x → t.deamb.holds Q
  | .fail, h, _ => h.elim
  | .leaf a, h, hq => by
    have h : x = a := h
    subst h
    exact hq
  | .br b t f, h, hq => by
    rcases h with ⟨rfl, h⟩ | ⟨rfl, h⟩
    · exact ⟨fun _ => reach_deamb h hq, fun e => (by cases e)⟩
    · exact ⟨fun e => (by cases e), fun _ => reach_deamb h hq⟩
  | .req p t, h, hq => ⟨h.1, reach_deamb h.2 hq⟩
  | .amb _ _, h, _ => h.elim

/-- The facts of a run. -/
theorem df_of (hAe : ActGr act) {ops : Array Oper} {st fin : St T} {rs : List (Rc T)} {lim : Nat} (hfree : ∀ id, st.hp.next ≤ id → id < lim → st.hp.get id = none) (hnm : ∀ f hd s sh, st.hp.get f = some (.fam hd sh) → s = hd ∨ s ∈ sh → st.hp.next ≤ s → s < lim → False)
    (ht : textOk ops = true) (h1 : (drun P E cl act ops 0 (masks ops.toList []) [] ops.toList st).reach (rs, fin)) (hc : chkAll 0 [] [] (masks ops.toList []) rs = true) (hlim : fin.hp.next ≤ lim) :
    ∃ d : Rc T, DF P E cl act ops (fun k => rs.getD k d) (masks ops.toList []) st lim ∧ rs.length = ops.size ∧ fin.n = st.n ∧ (∀ x, tmAt fin.tm x = mixT (fun k => rs.getD k d) tt (tmAt st.tm) ops.size x) ∧ (∀ id, fin.hp.get id = mixH (fun k => rs.getD k d) tt st.hp.get ops.size id) ∧ fin.hp.next = mixN (fun k => rs.getD k d) st.hp.next ops.size := by
  obtain ⟨hlen, hfin, hspec⟩ := drun_spec _ _ _ _ _ _ _ h1
  have hsz : ops.toList.length = ops.size := Array.length_toList
  rw [hsz] at hlen
  let d : Rc T := ⟨none, .any, .only [], .nil, st.hp, st.hp⟩
  have hmix := fold_mix d hAe hlen hspec
  unfold textOk at ht
  rw [Bool.and_eq_true] at ht
  obtain ⟨hedge, hap⟩ := ht
  obtain ⟨hms1, hms2⟩ := masks_spec ops.toList []
  have hget : ∀ (i : Nat) (o : Oper), ops[i]? = some o → ops.toList[i]? = some o := fun i o h => by rw [Array.getElem?_toList]; exact h
  have hall := hmix rs.length (Nat.le_refl _)
  rw [List.take_length, ← hfin, hlen] at hall
  obtain ⟨f1, f2, f3, f4⟩ := hall
  have hf : DF P E cl act ops (fun k => rs.getD k d) (masks ops.toList []) st lim := by
    refine ⟨fun i o ho => ?_, fun k i o o' hki ho ho' => ?_, fun i o e ho he hb => ?_, fun i o k ho hk => ?_, by rw [← f4]; exact hlim, hfree, hnm, hAe⟩
    · obtain ⟨q, q1, q2⟩ := hspec i o (hget i o ho)
      have hi : i < ops.size := (Array.getElem?_eq_some_iff.1 ho).1
      obtain ⟨g1, g2, g3, g4⟩ := hmix i (by omega)
      have e : rs.getD i d = q := by simp [List.getD, q1]
      rw [Nat.zero_add] at q2
      exact ⟨_, by simp only [e]; exact q2, g1, g2, g3, g4⟩
    · have hk : k < ops.size := (Array.getElem?_eq_some_iff.1 ho).1
      have hi : i < ops.size := (Array.getElem?_eq_some_iff.1 ho').1
      have hk' : rs[k]? = some (rs[k]'(by omega)) := List.getElem?_eq_getElem (by omega)
      have hi' : rs[i]? = some (rs[i]'(by omega)) := List.getElem?_eq_getElem (by omega)
      obtain ⟨m, hm1, hm2⟩ := chkAll_spec rs 0 [] [] _ hc rfl (fun k q h => by simp at h) i _ hi'
      obtain ⟨m', hm3, hm4⟩ := apartAll_spec ops.toList [] _ hap i _ (hget i o' ho')
      rw [hm1] at hm3
      obtain rfl := Option.some.inj hm3
      have e1 := hm2 k _ (by rw [List.nil_append]; exact hk') (by omega)
      have e2 := hm4 k _ (by rw [List.nil_append]; exact hget k o ho) (by simpa using hki)
      have e3 : (masks ops.toList []).getD i 0 = m := by simp [List.getD, hm1]
      rw [e3]
      rcases e1 with e1 | e1
      · exact .inl e1
      · rcases e2 with e2 | e2
        · exact .inl e2
        · refine .inr ⟨?_, e2⟩
          simpa [List.getD, hk', hi'] using e1
    · have := edgesOk_spec ops.toList 0 hedge i o e (hget i o ho) he hb
      omega
    · obtain ⟨m, hm, e⟩ := hms2 i o (hget i o ho)
      have hi : i < ops.size := (Array.getElem?_eq_some_iff.1 ho).1
      simp only [List.length_nil, Nat.zero_add] at hm e
      have hmg : (masks ops.toList []).getD i 0 = m := by simp [List.getD, hm]
      rw [hmg, e] at hk
      obtain ⟨ed, he, hb, hx⟩ := maskOf_spec hk
      refine ⟨ed, he, hb, hx.imp (fun y => y) fun hx => ?_⟩
      have hlt := edgesOk_spec ops.toList 0 hedge i o ed (hget i o ho) he hb
      have : ((masks ops.toList []).take i).getD ed.on 0 = (masks ops.toList []).getD ed.on 0 := by
        simp only [List.getD, List.getElem?_take]
        rw [if_pos (by omega)]
      rwa [this] at hx
  exact ⟨d, hf, hlen, f1, f2, f3, f4⟩

theorem looseAt_spec {ops : Array Oper} {ms : List Nat} {k : Nat} (h : looseAt ops ms k = true) : ∃ o, ops.toList[k]? = some o ∧ isStore o = true ∧ ∀ j, Nat.testBit (ms.getD j 0) k = false := by
  unfold looseAt at h
  split at h
  · rename_i o ho
    rw [Bool.and_eq_true] at h
    refine ⟨o, ho, h.1, fun j => ?_⟩
    simp only [List.getD]
    cases hj : ms[j]? with
    | none => simp
    | some m =>
      have := List.all_eq_true.1 h.2 m (List.mem_of_getElem? hj)
      simpa using this
  · cases h

theorem looseOk (hE : E.Good P) (hm : P.follows .mixedOrders = true) (hA : ActOk P E act) (hAe : ActGr act) {F : Fm} {id : Nat} {ops : Array Oper} {st : St T} {a : Act} {w : World} {Q : Exit → Act → World → Prop} {rr : Option Nat} {nn : Nat} (ht0 : textOk ops = true)
    (hR : Rel P E F st a w) (h : (looseT P E cl act ops (masks ops.toList []) st).holds (fun st' => st'.hp.next ≤ F.lim ∧ ∀ a' w', Rel P E F st' a' w' → Q .normal a' w')) : (Code.region id ops true).wpIn (FR rr) nn P Q a w := by
  unfold looseT looseE at h
  obtain ⟨ht, h⟩ := holds_bif h
  obtain ⟨⟨rsA, finA⟩, _, h⟩ := Tree.deamb_reach (Tree.holds_bind.1 h)
  simp only at h
  split at h
  · exact h.elim
  rename_i psA _
  obtain ⟨⟨rs, fin⟩, h1, h⟩ := Tree.deamb_reach (Tree.holds_bind.1 h)
  simp only at h
  split at h
  · exact h.elim
  rename_i ps hps
  obtain ⟨hc, h⟩ := holds_bif h
  obtain ⟨hap, h⟩ := holds_bif h
  obtain ⟨hcl, h⟩ := holds_bif h
  obtain ⟨htg, h⟩ := holds_bif h
  have htgt : ∀ p ∈ ps, ∃ n c d, fin.hp.get p.id = some (.cells n c d) ∧ p.off + p.vs.length ≤ n := fun p hp => tgtOk_spec (List.all_eq_true.1 htg p hp)
  obtain ⟨hp1, hp2⟩ := patsOf_spec hps
  have hfar := apartP_spec hap
  obtain ⟨hpf, hfinal, hnx, hext⟩ := applyP_spec hfar (fun p hp => by
    obtain ⟨n, c, d, g1, g2⟩ := htgt p hp
    obtain ⟨_, _, o, _, h4⟩ := hp1 p hp
    exact ⟨(patOf_k h4).2.choose_spec.choose_spec.choose_spec.2.2.2.2.2, n, c, d, g1, g2⟩) (Tree.holds_bind.1 h)
  obtain ⟨hlim, hk⟩ : hpf.next ≤ F.lim ∧ ∀ a' w', Rel P E F ⟨fin.n, fin.tm, hpf⟩ a' w' → Q .normal a' w' := hfinal
  -- the rows forget their room first
  obtain ⟨M, β, hR⟩ := hR
  have hS := (downs_ok psA st.hp).1 F.lim M β w hR.now
  have hR : RelAt P E F M β ⟨st.n, st.tm, downs psA st.hp⟩ a w := hR.step hS (.any : RV P E w M β (.any : AV T) undef) none
  generalize hst1 : (⟨st.n, st.tm, downs psA st.hp⟩ : St T) = st1 at h1 hR
  -- the region without the stores
  let lo := looseAt ops (masks ops.toList [])
  let ops0 : Array Oper := (neutr lo 0 ops.toList).toArray
  have hms : masks ops0.toList [] = masks ops.toList [] := masks_neutr _ _ _
  have h1' : (drun P E cl act ops0 0 (masks ops0.toList []) [] ops0.toList st1).reach (rs, fin) := by
    rw [hms]
    exact h1
  obtain ⟨d, hdf, hlen, f1, f2, f3, f4⟩ := df_of (P := P) (E := E) (cl := cl) hAe (ops := ops0) (lim := F.lim) (fun id h1 h2 => (hR.now.free id h1 h2).2) hR.now.nomem ht h1' (by rw [hms]; exact hc) (by rw [← hnx]; exact hlim)
  rw [hms] at hdf
  generalize hr : (fun k => rs.getD k d) = r at hdf f2 f3 f4
  have hsz : ops0.size = ops.size := by
    have : ∀ (l : List Oper) (i : Nat), (neutr lo i l).length = l.length := by
      intro l
      induction l with
      | nil => intro i; rfl
      | cons o l ih => intro i; simp [neutr, ih]
    show (neutr lo 0 ops.toList).toArray.size = _
    rw [List.size_toArray, this, Array.length_toList]
  have htx := ht0
  unfold textOk at htx
  rw [Bool.and_eq_true] at htx
  obtain ⟨hedge, hapt⟩ := htx
  have hget : ∀ (i : Nat) (o : Oper), ops[i]? = some o → ops.toList[i]? = some o := fun i o h => by rw [Array.getElem?_toList]; exact h
  have hf : LF P E cl act ops ops0 lo r (masks ops.toList []) st1 fin ps F.lim := by
    refine ⟨hdf, rfl, fun k o ho hl => ?_, fun k j hl => ?_, fun k i o o' hki ho ho' => ?_, f2, f3, fun k o ho hl => ?_, fun p hp => ?_, hfar, htgt, fun p hp j hj => ?_⟩
    · obtain ⟨o', g1, g2, _⟩ := looseAt_spec hl
      rw [ho] at g1
      cases g1
      exact g2
    · obtain ⟨_, _, _, g3⟩ := looseAt_spec hl
      exact g3 j
    · obtain ⟨m, hm1, hm2⟩ := apartAll_spec ops.toList [] _ hapt i _ (hget i o' ho')
      have e3 : (masks ops.toList []).getD i 0 = m := by simp [List.getD, hm1]
      rw [e3]
      exact hm2 k _ (by rw [List.nil_append]; exact hget k o ho) (by simpa using hki)
    · obtain ⟨p, g1, g2⟩ := hp2 k o (hget k o ho) (by rw [Nat.zero_add]; exact hl)
      exact ⟨p, g1, by omega⟩
    · obtain ⟨_, g1, o, g2, g3⟩ := hp1 p hp
      exact ⟨g1, o, by rw [← Array.getElem?_toList, ← g2, Nat.sub_zero], g3⟩
    · have hj' : rs[j]? = some (rs[j]'(by omega)) := List.getElem?_eq_getElem (by omega)
      have := clearOf_spec (List.all_eq_true.1 hcl p hp) j _ hj'
      rw [Nat.zero_add] at this
      rw [← hr]
      simpa [List.getD, hj'] using this
  have hedge' : ∀ (i : Nat) (o : Oper) (e : Edge), ops[i]? = some o → e ∈ o.after → Region.binds .any e = true → e.on < i := fun i o e ho he hb => by
    have := edgesOk_spec ops.toList 0 hedge i o e (hget i o ho) he hb
    omega
  refine wpIn_region_any hm (any_inv (rr := rr) (nn := nn) (I := LI P E F ops0 r st1 fin ps) hedge' (fun h a w hI => hI.congr hf h) (fun {D D' i o} hD ho hi hdep h1 hi' {a w K} hI hk => ?_) (fun a w hI => hk a w ?_) ops.size _ a _ (by simp) ?_ ?_ ?_)
  · cases hl : lo i with
    | false => exact step_other hE hA hf hR.nle hD ho hl hi hdep h1 hi' hI hk
    | true => exact step_store hE hA hAe hf hR.nle hD ho hl hi hdep h1 hi' hI hk
  · obtain ⟨H, ⟨M, β, ha⟩, hN⟩ := hI
    have hE2 : ∀ id, ExtO (H id) (hpf.get id) := fun id => by
      rcases hext id with ⟨e, hno⟩ | ⟨n, c, d, c2, e1, e2, e3⟩
      · rcases hN id with ⟨n, c, d, c', d', _, ⟨p, hp, hpi, _⟩, _, _⟩ | ⟨_, e2⟩
        · exact absurd hpi (hno p hp)
        · exact .inl (by rw [e, e2, f3])
      · rcases hN id with ⟨n1, c1, d1, c', d', g1, _, g2, g3⟩ | ⟨g1, g2⟩
        · rw [e1] at g1
          cases g1
          exact .inr ⟨n, c', d', c2, d, g2, e2, fun j hj => by rw [e3, g3 j hj]⟩
        · rw [← f3, e1] at g2
          exact .inr ⟨n, c, d, c2, d, g2, e2, fun j hj => by rw [e3]; exact cont_none fun p hp hpi => (by have := g1 p hp hpi; cases this)⟩
    have hnone : ∀ id, H id = none → hpf.get id = none := fun id e => by
      rcases hE2 id with e' | ⟨n, c, d, c', d', e1, _, _⟩
      · rw [← e', e]
      · rw [e] at e1; cases e1
    have hown : ∀ b, Own hpf.get β b → Own H β b := fun b ⟨id, hd, g1, g2, g3⟩ => ⟨id, hd, ExtO.live hE2 g1, g2, g3⟩
    have hlive : ∀ {id}, Live H id → Live hpf.get id := fun {id} hl => ExtO.live (H := hpf.get) (H' := H) (fun id => by
      rcases hE2 id with e' | ⟨n, c, d, c', d', e1, e2, e3⟩
      · exact .inl e'.symm
      · exact .inr ⟨n, c', d', c, d, e2, e1, fun j hj => (e3 j hj).symm⟩) hl
    have hown2 : Own hpf.get β = Own H β := funext fun b => propext ⟨hown b, fun ⟨id, hd, g1, g2, g3⟩ => ⟨id, hd, hlive g1, g2, g3⟩⟩
    refine ⟨M, β, ha.defers, by rw [hown2]; exact ha.evo, ha.nb0, ⟨ha.heap.ext hE2, ha.nb, fun id h1 h2 => ?_, fun f hd s sh h1 h2 h3 h4 => ?_⟩, ⟨by rw [f1]; exact ha.size, fun j => by rw [f2]; exact ha.tmps j⟩, ha.rnd, ?_⟩
    · have h1 : hpf.next ≤ id := h1
      rw [hnx, f4] at h1
      obtain ⟨g1, g2⟩ := ha.free id (.inl ⟨h1, h2⟩)
      exact ⟨g1, hnone id g2⟩
    · have h3 : hpf.next ≤ s := h3
      rw [hnx, f4] at h3
      exact ha.nomem f hd s sh ((hE2 f).other h1 (fun _ _ _ e => by cases e)) h2 (.inl ⟨h3, h4⟩)
    · show F.n0 ≤ hpf.next
      rw [hnx, f4]
      exact Nat.le_trans hR.nle (hdf.mono' (Nat.zero_le _) (Nat.le_refl _))
  · intro i o e ho hD
    have hD' : (Array.replicate ops.size false).getD i false = true := hD
    simp [Array.getD] at hD'
  · have : ((List.range ops.size).filter fun k => !(Array.replicate ops.size false).getD k false).length ≤ (List.range ops.size).length := List.length_filter_le _ _
    simpa using this
  · have hst : Stab w M β { w with drawn := w.drawn + 1 } M β := ⟨fun _ _ _ _ => rfl, Nat.le_refl _, fun _ h => .inl h, fun _ _ h => h⟩
    have hN : Now P E F.lim M β st1.hp { w with drawn := w.drawn + 1 } := hR.now.other rfl (fun _ _ => rfl) (fun _ _ _ => rfl)
    have hz : ∀ k, (Array.replicate ops.size false).getD k false = false := fun k => by simp [Array.getD]
    have eH : ∀ id, mixH r (fun k => (Array.replicate ops.size false).getD k false) st1.hp.get ops0.size id = st1.hp.get id := fun id => by
      have : ∀ n, mixH r (fun k => (Array.replicate ops.size false).getD k false) st1.hp.get n id = st1.hp.get id := by
        intro n
        induction n with
        | zero => rfl
        | succ n ih => simp only [mixH]; rw [if_neg (fun hc => by rw [hz n] at hc; exact Bool.noConfusion hc.1)]; exact ih
      exact this _
    have eT : mixT r (fun k => (Array.replicate ops.size false).getD k false) (tmAt st1.tm) ops0.size = tmAt st1.tm := funext fun x => by
      have : ∀ n, mixT r (fun k => (Array.replicate ops.size false).getD k false) (tmAt st1.tm) n x = tmAt st1.tm x := by
        intro n
        induction n with
        | zero => rfl
        | succ n ih => simp only [mixT]; rw [if_neg (fun hc => by rw [hz n] at hc; exact Bool.noConfusion hc.1)]; exact ih
      exact this _
    have hfr : ∀ id, FrD r st1.hp.next ops0.size F.lim (fun k => (Array.replicate ops.size false).getD k false) id → st1.hp.next ≤ id ∧ id < F.lim := by
      intro id hc
      rcases hc with hc | ⟨k, k1, _, k3, k4⟩
      · exact ⟨Nat.le_trans (hdf.mono' (Nat.zero_le _) (Nat.le_refl _)) hc.1, hc.2⟩
      · exact ⟨Nat.le_trans (hdf.mono' (Nat.zero_le k) (Nat.le_of_lt k1)) k3, Nat.lt_of_lt_of_le k4 (Nat.le_trans (hdf.mono' (i := k + 1) k1 (Nat.le_refl _)) hdf.le)⟩
    refine ⟨st1.hp.get, ⟨M, β, ?_⟩, fun id => .inr ⟨fun p _ _ => hz _, (eH id).symm⟩⟩
    rw [eT]
    exact ⟨hR.defers, ⟨hR.evo.os, hR.evo.tape, hR.evo.output, hR.evo.size, hR.evo.old, hR.evo.mutb, hR.evo.keep, hR.evo.own, hR.evo.hd, hR.evo.nm⟩, hR.nb0, hN.heap, hN.nb, fun id h => hN.free id (hfr id h).1 (hfr id h).2, fun f hd s sh h1 h2 h3 => hN.nomem f hd s sh h1 h2 (hfr s h3).1 (hfr s h3).2, hR.tmps.1, fun j => (hR.tmps.2 j).stab hst, hR.rnd⟩

theorem drawL_ok (hE : E.Good P) (hm : P.follows .mixedOrders = true) (hA : ActOk P E act) (hAe : ActGr act) : DrawOk P E (drawL P E cl act) := by
  intro F id ops st a w Q rr nn hR h
  unfold drawL at h
  obtain ⟨ht, h⟩ := holds_bif h
  obtain ⟨⟨rs, fin⟩, h1, h⟩ := Tree.deamb_reach (Tree.holds_bind.1 h)
  cases hc : chkAll 0 [] [] (masks ops.toList []) rs with
  | true =>
    refine drawOk (cl := cl) hE hm hA hAe F id ops st a w Q rr nn hR ?_
    unfold drawT
    rw [ht]
    simp only [cond_true]
    refine Tree.holds_bind.2 (reach_deamb h1 ?_)
    simp only [hc, cond_true] at h ⊢
    exact h
  | false =>
    simp only [hc, cond_false] at h
    exact looseOk hE hm hA hAe ht hR h
end Go.Cx
