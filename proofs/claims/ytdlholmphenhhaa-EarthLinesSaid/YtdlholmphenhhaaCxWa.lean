/- The evaluator: stores of a region that nothing has to follow. No condition. -/
import Derived.Test.YtdlholmphenhhaaCxW
set_option linter.unusedVariables false
noncomputable section
namespace Go.Cx
open Go.RowKit
variable {T : Nat → Type} {P : Program} {E : Enc T} {cl : Bool} {act : Tgt → List (AV T) → Hp T → Tree (AV T × Hp T)}

/-! Stores after which nothing has to come. -/
def isStore (o : Oper) : Bool :=
  match o.op, o.guard, o.dst with
  | .store _ _ _, none, none => true
  | _, _, _ => false
def noOp (o : Oper) : Oper := ⟨none, .move (.const (.bool false)), o.type, o.pos, o.after, none⟩
def looseAt (ops : Array Oper) (ms : List Nat) (k : Nat) : Bool :=
  match ops.toList[k]? with
  | some o => isStore o && ms.all (fun m => !Nat.testBit m k)
  | none => false
def neutr (lo : Nat → Bool) : Nat → List Oper → List Oper
  | _, [] => []
  | i, o :: os => (bif lo i then noOp o else o) :: neutr lo (i + 1) os

theorem neutr_get {lo : Nat → Bool} : ∀ (os : List Oper) (i j : Nat), (neutr lo i os)[j]? = (os[j]?).map fun o => bif lo (i + j) then noOp o else o
  | [], i, j => by simp [neutr]
  | o :: os, i, j => by
    cases j with
    | zero => simp [neutr]
    | succ j =>
      rw [neutr, List.getElem?_cons_succ, List.getElem?_cons_succ, neutr_get os (i + 1) j, show i + 1 + j = i + (j + 1) by omega]
theorem masks_neutr {lo : Nat → Bool} : ∀ (os : List Oper) (i : Nat) (acc : List Nat), masks (neutr lo i os) acc = masks os acc
  | [], _, _ => rfl
  | o :: os, i, acc => by
    have e : maskOf acc (bif lo i then noOp o else o) = maskOf acc o := by cases lo i <;> rfl
    rw [neutr, masks, masks, e, masks_neutr os (i + 1)]
theorem guard_neutr {lo : Nat → Bool} {i : Nat} : ∀ (os : List Oper) (j : Nat), (∀ k o, os[k]? = some o → lo (j + k) = true → isStore o = true) → usedAsGuard i (neutr lo j os) = usedAsGuard i os
  | [], _, _ => rfl
  | o :: os, j, h => by
    have ih := guard_neutr (i := i) os (j + 1) fun k o' ho hl => h (k + 1) o' (by simpa using ho) (by rw [← hl]; congr 1; omega)
    rw [neutr]
    cases hl : lo j with
    | false => simp only [cond_false, usedAsGuard, ih]
    | true =>
      have hs := h 0 o rfl (by simpa using hl)
      have hg : o.guard = none := by
        unfold isStore at hs
        split at hs
        · assumption
        · cases hs
      simp only [cond_true, usedAsGuard, ih, hg, noOp]
theorem dst_neutr {lo : Nat → Bool} {os : List Oper} (h : ∀ k o, os[k]? = some o → lo k = true → isStore o = true) (j : Nat) : ((neutr lo 0 os)[j]?).bind (·.dst) = (os[j]?).bind (·.dst) := by
  rw [neutr_get]
  cases ho : os[j]? with
  | none => rfl
  | some o =>
    simp only [Nat.zero_add, Option.map_some, Option.bind_some]
    cases hl : lo j with
    | false => rfl
    | true =>
      have hs := h j o ho hl
      have : o.dst = none := by
        unfold isStore at hs
        split at hs
        · assumption
        · cases hs
      rw [this]
      rfl
theorem dval_neutr {lo : Nat → Bool} {os : List Oper} (h : ∀ k o, os[k]? = some o → lo k = true → isStore o = true) (i : Nat) (o : Oper) (tr : Tr (AV T)) (r : Hp T) : dval P E cl act (neutr lo 0 os) i o tr r = dval P E cl act os i o tr r := by
  have e : dop P E cl act (neutr lo 0 os) o tr r = dop P E cl act os o tr r := by
    unfold dop
    cases o.guard with
    | none => rfl
    | some jw => simp only [dst_neutr h]
  unfold dval
  rw [guard_neutr os 0 (fun k o ho hl => h k o ho (by rw [← hl]; congr 1; omega)), e]

/-! ### What such stores write -/
structure Pat (T : Nat → Type) where
  k : Nat
  id : Nat
  off : Nat
  vs : List (AV T)
def patOf (P : Program) (st : St T) (k : Nat) (o : Oper) : Option (Pat T) :=
  match o.op with
  | .store t a v => match ev st.tm a, cellsA (ev st.tm v) with
    | .ptr id off, some vs => bif Nat.beq vs.length (P.cellsOf t) && Nat.ble 1 (P.cellsOf t) && vs.all isCell then some ⟨k, id, off, vs⟩ else none
    | _, _ => none
  | _ => none
def patsOf (P : Program) (st : St T) (lo : Nat → Bool) : Nat → List Oper → Option (List (Pat T))
  | _, [] => some []
  | i, o :: os => bif lo i then (match patOf P st i o, patsOf P st lo (i + 1) os with
    | some p, some l => some (p :: l)
    | _, _ => none) else patsOf P st lo (i + 1) os
theorem patOf_k {st : St T} {k : Nat} {o : Oper} {p : Pat T} (h : patOf P st k o = some p) : p.k = k ∧ ∃ t a v, o.op = .store t a v ∧ ev st.tm a = .ptr p.id p.off ∧ cellsA (ev st.tm v) = some p.vs ∧ p.vs.length = P.cellsOf t ∧ 1 ≤ P.cellsOf t ∧ p.vs.all isCell = true := by
  unfold patOf at h
  split at h
  · rename_i t a v ho
    split at h
    · rename_i id off vs h1 h2
      cases hb : (Nat.beq vs.length (P.cellsOf t) && Nat.ble 1 (P.cellsOf t) && vs.all isCell) with
      | false => rw [hb] at h; cases h
      | true =>
        rw [hb] at h
        obtain rfl := Option.some.inj h
        rw [Bool.and_eq_true, Bool.and_eq_true] at hb
        exact ⟨rfl, t, a, v, ho, h1, h2, Nat.eq_of_beq_eq_true hb.1.1, Nat.le_of_ble_eq_true hb.1.2, hb.2⟩
    · cases h
  · cases h
theorem patsOf_spec {st : St T} {lo : Nat → Bool} : ∀ {os : List Oper} {i : Nat} {ps : List (Pat T)}, patsOf P st lo i os = some ps → (∀ p ∈ ps, i ≤ p.k ∧ lo p.k = true ∧ ∃ o, os[p.k - i]? = some o ∧ patOf P st p.k o = some p) ∧ ∀ (j : Nat) (o : Oper), os[j]? = some o → lo (i + j) = true → ∃ p ∈ ps, p.k = i + j
  | [], i, ps, h => by
    obtain rfl : [] = ps := Option.some.inj h
    exact ⟨fun p hp => (by cases hp), fun j o h => (by simp at h)⟩
  | o :: os, i, ps, h => by
    unfold patsOf at h
    have shift : ∀ {l : List (Pat T)}, patsOf P st lo (i + 1) os = some l → (∀ p ∈ l, i ≤ p.k ∧ lo p.k = true ∧ ∃ o', (o :: os)[p.k - i]? = some o' ∧ patOf P st p.k o' = some p) ∧ ∀ (j : Nat) (o' : Oper), os[j]? = some o' → lo (i + (j + 1)) = true → ∃ p ∈ l, p.k = i + (j + 1) := fun {l} hl => by
      obtain ⟨h1, h2⟩ := patsOf_spec hl
      refine ⟨fun p hp => ?_, fun j o' ho hlo => ?_⟩
      · obtain ⟨a1, a2, o', a3, a4⟩ := h1 p hp
        refine ⟨by omega, a2, o', ?_, a4⟩
        rw [show p.k - i = (p.k - (i + 1)) + 1 by omega, List.getElem?_cons_succ]
        exact a3
      · obtain ⟨p, hp, e⟩ := h2 j o' ho (by rw [← hlo]; congr 1; omega)
        exact ⟨p, hp, by omega⟩
    cases hl : lo i with
    | false =>
      rw [hl] at h
      obtain ⟨h1, h2⟩ := shift h
      refine ⟨h1, fun j o' ho hlo => ?_⟩
      cases j with
      | zero => rw [Nat.add_zero, hl] at hlo; cases hlo
      | succ j => exact h2 j o' (by simpa using ho) hlo
    | true =>
      rw [hl] at h
      simp only [cond_true] at h
      split at h
      · rename_i p l hp hq
        obtain rfl := Option.some.inj h
        obtain ⟨h1, h2⟩ := shift hq
        have hk := (patOf_k hp).1
        refine ⟨fun q hq => ?_, fun j o' ho hlo => ?_⟩
        · rcases List.mem_cons.1 hq with rfl | hq
          · rw [hk]
            exact ⟨Nat.le_refl _, hl, o, by simp, hp⟩
          · exact h1 q hq
        · cases j with
          | zero => exact ⟨p, List.mem_cons_self, by omega⟩
          | succ j =>
            obtain ⟨q, hq, e⟩ := h2 j o' (by simpa using ho) hlo
            exact ⟨q, List.mem_cons_of_mem _ hq, e⟩
      · cases h

def Far (p q : Pat T) : Prop := p.k ≠ q.k ∧ (p.id ≠ q.id ∨ p.off + p.vs.length ≤ q.off ∨ q.off + q.vs.length ≤ p.off)
def farB (p q : Pat T) : Bool := bif Nat.beq p.k q.k then false else bif Nat.beq p.id q.id then (bif Nat.ble (p.off + p.vs.length) q.off then true else Nat.ble (q.off + q.vs.length) p.off) else true
theorem farB_spec {p q : Pat T} (h : farB p q = true) : Far p q := by
  unfold farB at h
  cases h1 : Nat.beq p.k q.k with
  | true => rw [h1] at h; cases h
  | false =>
    rw [h1] at h
    refine ⟨Nat.ne_of_beq_eq_false h1, ?_⟩
    cases h2 : Nat.beq p.id q.id with
    | false => exact .inl (Nat.ne_of_beq_eq_false h2)
    | true =>
      rw [h2] at h
      simp only [cond_false, cond_true] at h
      cases h3 : Nat.ble (p.off + p.vs.length) q.off with
      | true => exact .inr (.inl (Nat.le_of_ble_eq_true h3))
      | false => rw [h3] at h; exact .inr (.inr (Nat.le_of_ble_eq_true h))
def apartP : List (Pat T) → Bool
  | [] => true
  | p :: l => bif l.all (farB p) then apartP l else false
inductive FarL : List (Pat T) → Prop where
  | nil : FarL []
  | cons {p : Pat T} {l : List (Pat T)} : (∀ q ∈ l, Far p q) → FarL l → FarL (p :: l)
theorem apartP_spec : ∀ {l : List (Pat T)}, apartP l = true → FarL l
  | [], _ => .nil
  | p :: l, h => by
    unfold apartP at h
    cases h1 : l.all (farB p) with
    | false => rw [h1] at h; cases h
    | true =>
      rw [h1] at h
      exact .cons (fun q hq => farB_spec (List.all_eq_true.1 h1 q hq)) (apartP_spec h)

/-- What a cell holds when some of the stores are done. -/
def cont (D : Nat → Bool) (id j : Nat) (b : AV T) : List (Pat T) → AV T
  | [] => b
  | p :: l => if D p.k = true ∧ p.id = id ∧ p.off ≤ j ∧ j < p.off + p.vs.length then p.vs.getD (j - p.off) .any else cont D id j b l
section
variable {D D' : Nat → Bool} {id j : Nat} {b : AV T}
theorem cont_cons {p : Pat T} {l : List (Pat T)} : cont D id j b (p :: l) = if D p.k = true ∧ p.id = id ∧ p.off ≤ j ∧ j < p.off + p.vs.length then p.vs.getD (j - p.off) .any else cont D id j b l := rfl
theorem cont_congr : ∀ {l : List (Pat T)}, (∀ p ∈ l, p.id = id → D p.k = D' p.k) → cont D id j b l = cont D' id j b l
  | [], _ => rfl
  | p :: l, h => by
    have ih := cont_congr (l := l) fun q hq => h q (List.mem_cons_of_mem _ hq)
    rw [cont_cons, cont_cons, ih]
    by_cases he : p.id = id
    · rw [h p List.mem_cons_self he]
    · rw [if_neg (fun hc => he hc.2.1), if_neg (fun hc => he hc.2.1)]
theorem cont_none : ∀ {l : List (Pat T)}, (∀ p ∈ l, p.id = id → D p.k = false) → cont D id j b l = b
  | [], _ => rfl
  | p :: l, h => by
    rw [cont_cons, if_neg (fun hc => by rw [h p List.mem_cons_self hc.2.1] at hc; cases hc.1)]
    exact cont_none fun q hq => h q (List.mem_cons_of_mem _ hq)
theorem cont_miss : ∀ {l : List (Pat T)}, (∀ p ∈ l, p.id = id → ¬ (p.off ≤ j ∧ j < p.off + p.vs.length)) → cont D id j b l = b
  | [], _ => rfl
  | p :: l, h => by
    rw [cont_cons, if_neg (fun hc => h p List.mem_cons_self hc.2.1 hc.2.2)]
    exact cont_miss fun q hq => h q (List.mem_cons_of_mem _ hq)
theorem cont_ins {p : Pat T} (h1 : ∀ k, k ≠ p.k → D' k = D k) (h0 : D p.k = false) (h2 : D' p.k = true) : ∀ {l : List (Pat T)}, FarL l → p ∈ l → p.id = id →
    cont D' id j b l = if p.off ≤ j ∧ j < p.off + p.vs.length then p.vs.getD (j - p.off) .any else cont D id j b l
  | [], _, hp, _ => by cases hp
  | q :: l, hF, hp, hid => by
    cases hF with
    | cons hq hl =>
    rw [cont_cons, cont_cons]
    rcases List.mem_cons.1 hp with rfl | hp
    · rw [if_neg (c := D p.k = true ∧ _) (fun hc => by rw [h0] at hc; cases hc.1)]
      have e : cont D' id j b l = cont D id j b l := cont_congr fun x hx _ => h1 _ (fun hc => (hq x hx).1 hc.symm)
      rw [e]
      by_cases hr : p.off ≤ j ∧ j < p.off + p.vs.length
      · rw [if_pos ⟨h2, hid, hr⟩, if_pos hr]
      · rw [if_neg (fun hc => hr hc.2.2), if_neg hr]
    · have hne : q.k ≠ p.k := (hq p hp).1
      rw [h1 q.k hne, cont_ins h1 h0 h2 hl hp hid]
      by_cases hr : D q.k = true ∧ q.id = id ∧ q.off ≤ j ∧ j < q.off + q.vs.length
      · rw [if_pos hr, if_pos hr, if_neg]
        intro hc
        rcases (hq p hp).2 with h | h | h
        · exact h (hr.2.1.trans hid.symm)
        · omega
        · omega
      · rw [if_neg hr, if_neg hr]
end

/-! ### Objects with the same cells -/
def ExtO (a b : Option (AO T)) : Prop := a = b ∨ ∃ n c d c' d', a = some (.cells n c d) ∧ b = some (.cells n c' d') ∧ ∀ j, j < n → cellAt c' d' j = cellAt c d j
section
variable {H H' : Nat → Option (AO T)} {w : World} {M : Nat → Prop} {β : Nat → Option Hd}
theorem ExtO.other {a b : Option (AO T)} (h : ExtO a b) {o : AO T} (hb : b = some o) (hn : ∀ n c d, o ≠ .cells n c d) : a = some o := by
  rcases h with h | ⟨n, c, d, c', d', h1, h2, _⟩
  · rw [h, hb]
  · rw [hb] at h2; cases h2; exact absurd rfl (hn _ _ _)
theorem ExtO.live (hE : ∀ id, ExtO (H id) (H' id)) {id : Nat} (h : Live H' id) : Live H id := by
  unfold Live at h ⊢
  cases ho : H' id with
  | none => rw [ho] at h; exact h.elim
  | some o =>
    rw [ho] at h
    cases o with
    | cells n c d =>
      rcases hE id with e | ⟨n', c1, d1, c2, d2, h1, _, _⟩
      · rw [e, ho]; trivial
      · rw [h1]; trivial
    | grow n c d f =>
      rw [(hE id).other ho (fun _ _ _ e => by cases e)]
      obtain ⟨hd, sh, h1, h2⟩ := h
      exact ⟨hd, sh, (hE f).other h1 (fun _ _ _ e => by cases e), h2⟩
    | loop r => rw [(hE id).other ho (fun _ _ _ e => by cases e)]; trivial
    | dead => exact h.elim
    | fam a b => exact h.elim
theorem ExtO.key (hE : ∀ id, ExtO (H id) (H' id)) (id : Nat) : keyOf H' id = keyOf H id := by
  unfold keyOf
  rcases hE id with e | ⟨n', c1, d1, c2, d2, h1, h2, _⟩
  · rw [e]
  · rw [h1, h2]
theorem HeapRel.ext (hH : HeapRel P E w M β H) (hE : ∀ id, ExtO (H id) (H' id)) : HeapRel P E w M β H' := by
  refine ⟨fun id o hl ho => ?_, fun i j hi hj hli hlj hne h1 h2 => ?_, fun i h hl h1 => hH.own i h (ExtO.live hE hl) h1, fun f hd s sh nh ns ch cs dh ds hh hs k1 k2 k3 k4 k5 k6 => ?_⟩
  · have hl' := ExtO.live hE hl
    rcases hE id with e | ⟨n, c1, d1, c2, d2, h1, h2, h3⟩
    · exact hH.obj id o hl' (by rw [e]; exact ho)
    · rw [h2] at ho
      cases ho
      obtain ⟨hd, g0, vs, el, g1, g2, g3, g4⟩ := hH.obj id _ hl' h1
      exact ⟨hd, g0, vs, el, g1, g2, g3, fun j hj => by rw [h3 j hj]; exact g4 j hj⟩
  · rw [ExtO.key hE, ExtO.key hE] at hne
    exact hH.inj i j hi hj (ExtO.live hE hli) (ExtO.live hE hlj) hne h1 h2
  · exact hH.shade f hd s sh nh ns ch cs dh ds hh hs ((hE f).other k1 (fun _ _ _ e => by cases e)) k2 ((hE hd).other k3 (fun _ _ _ e => by cases e)) ((hE s).other k4 (fun _ _ _ e => by cases e)) k5 k6
end

/-! ### All stores, one after the other -/
def applyP : List (Pat T) → Hp T → Tree (Hp T)
  | [], hp => .leaf hp
  | p :: l, hp => (wrObj hp p.id p.off p.vs).bind fun hp' => applyP l hp'
theorem applyP_every : ∀ (l : List (Pat T)) (hp : Hp T), (applyP l hp).every fun hp' => Gr hp hp'
  | [], _ => Gr.refl
  | p :: l, hp => bind_every wrObj_every fun hp' h => Tree.every_mono (fun _ k => h.trans k) (applyP_every l hp')
theorem wrObj_cells {hp : Hp T} {id off n : Nat} {vs : List (AV T)} {c : Tr (AV T)} {d : AV T} (hg : hp.get id = some (.cells n c d)) (hc : vs.all isCell = true) (hl : off + vs.length ≤ n) : wrObj hp id off vs = .leaf (hp.put id (.cells n (wrL vs off c) d)) := by
  unfold wrObj
  have : Nat.ble (off + vs.length) n = true := Nat.ble_eq_true_of_le hl
  simp only [hc, cond_true, hg, this]
theorem applyP_spec {K : Hp T → Prop} : ∀ {l : List (Pat T)} {hp : Hp T}, FarL l → (∀ p ∈ l, p.vs.all isCell = true ∧ ∃ n c d, hp.get p.id = some (.cells n c d) ∧ p.off + p.vs.length ≤ n) → (applyP l hp).holds K →
    ∃ hp', K hp' ∧ hp'.next = hp.next ∧ ∀ id, (hp'.get id = hp.get id ∧ ∀ p ∈ l, p.id ≠ id) ∨ ∃ n c d c', hp.get id = some (.cells n c d) ∧ hp'.get id = some (.cells n c' d) ∧ ∀ j, cellAt c' d j = cont tt id j (cellAt c d j) l
  | [], hp, _, _, h => ⟨hp, h, rfl, fun id => .inl ⟨rfl, fun _ hp => (by cases hp)⟩⟩
  | p :: l, hp, hF, ht, h => by
    cases hF with
    | cons hq hl =>
    obtain ⟨hc, n, c, d, hg, hle⟩ := ht p List.mem_cons_self
    unfold applyP at h
    rw [wrObj_cells hg hc hle] at h
    have h : (applyP l (hp.put p.id (.cells n (wrL p.vs p.off c) d))).holds K := h
    have gp : ∀ id, (hp.put p.id (.cells n (wrL p.vs p.off c) d)).get id = if id = p.id then some (.cells n (wrL p.vs p.off c) d) else hp.get id := fun id => Hp.get_put _ _ _ _
    obtain ⟨hp', k1, k2, k3⟩ := applyP_spec hl (fun q hqm => by
      obtain ⟨a1, n1, c1, d1, a2, a3⟩ := ht q (List.mem_cons_of_mem _ hqm)
      refine ⟨a1, ?_⟩
      by_cases he : q.id = p.id
      · rw [he, hg] at a2
        cases a2
        exact ⟨n, wrL p.vs p.off c, d, by rw [gp, if_pos he], a3⟩
      · exact ⟨n1, c1, d1, by rw [gp, if_neg he]; exact a2, a3⟩) h
    refine ⟨hp', k1, k2, fun id => ?_⟩
    rcases k3 id with ⟨e, hno⟩ | ⟨n1, c1, d1, c2, e1, e2, e3⟩
    · rw [gp] at e
      by_cases he : id = p.id
      · rw [if_pos he] at e
        refine .inr ⟨n, c, d, _, by rw [he]; exact hg, e, fun j => ?_⟩
        rw [cont_cons, wrL_get]
        by_cases hr : p.off ≤ j ∧ j < p.off + p.vs.length
        · rw [if_pos hr, if_pos ⟨rfl, he.symm, hr⟩]
        · rw [if_neg hr, if_neg (fun hc => hr hc.2.2), cont_miss fun q hqm hqi => absurd hqi (hno q hqm)]
      · rw [if_neg he] at e
        exact .inl ⟨e, fun q hqm => by
          rcases List.mem_cons.1 hqm with rfl | hqm
          · exact fun hc => he hc.symm
          · exact hno q hqm⟩
    · rw [gp] at e1
      by_cases he : id = p.id
      · rw [if_pos he] at e1
        cases e1
        refine .inr ⟨n, c, d, c2, by rw [he]; exact hg, e2, fun j => ?_⟩
        rw [e3, wrL_get, cont_cons]
        by_cases hr : p.off ≤ j ∧ j < p.off + p.vs.length
        · rw [if_pos hr, if_pos ⟨rfl, he.symm, hr⟩, cont_miss fun q hqm hqi hc => by
            rcases (hq q hqm).2 with h | h | h
            · exact h (he.symm.trans hqi.symm)
            · omega
            · omega]
        · rw [if_neg hr, if_neg (fun hc => hr hc.2.2)]
      · rw [if_neg he] at e1
        refine .inr ⟨n1, c1, d1, c2, e1, e2, fun j => ?_⟩
        rw [e3, cont_cons, if_neg (fun hc => he hc.2.1.symm)]
end Go.Cx
