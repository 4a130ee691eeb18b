/- A run that changes one object, and answers with lists that are new. No condition. -/
import Derived.Test.YtmnhfjhlfgebiaaCz6
import Derived.Test.YtmnhfjhlfgebiaaCz10
set_option linter.unusedVariables false
noncomputable section
namespace Go.Cx
open Go.RowKit
variable {T : Nat → Type} {P : Program} {E : Enc T} {fuel : Nat}
def leafRN (P : Program) (fl : List Nat) (ts : List TypeId) (n : Nat) (r : AV T × Hp T) : Tree (AV T × List (AV T)) := match r.2.get 0 with
  | some (.cells m c d) => bif Nat.beq m n && ((rdN c d n 0).map opn).all flt1 then (frzNR P fl (r.2.put 0 .dead) ts r.1).bind fun v => .leaf (v, (rdN c d n 0).map opn) else .fail
  | _ => .fail
def resRN (P : Program) (fl : List Nat) (ts : List TypeId) (n : Nat) (t : Tree (AV T × Hp T)) : Tree (AV T × List (AV T)) := t.bind (leafRN P fl ts n)

theorem factRN_of_run (hE : E.Good P) {fl : List Nat} (hFl : ∀ τ, memN τ fl = true → ∀ x : T τ, (E.enc τ x).all ind0 = true) {act : Tgt → List (AV T) → Hp T → Tree (AV T × Hp T)} (hA : ActOk P E act) {f : Nat} {cs as : List (AV T)} {v : AV T} {cs' : List (AV T)} {ts : List TypeId}
    (h : (resRN P fl ts cs.length (act (.fn f) as (hpR cs))).holds fun x => x = (v, cs')) : FactR P E f cs as v cs' := by
  intro lim M β hp w vs id n c d hh hnow hlim hget hβ hlen hO hL
  subst hlen
  generalize ht : act (.fn f) as (hpR cs) = t at h
  have hlive : Live hp.get id := by unfold Live; rw [hget]; trivial
  have hMb : M hh.block := hnow.heap.own id hh hlive hβ
  have hg : ∀ x, (hpR cs).get x = if x = 0 then some (.cells cs.length (ofL cs) .any) else none := fun x => by
    show ((Tr.nil : Tr (AO T)).set 0 _).get x = _
    rw [Tr.get_set, Tr.get_nil]
  have hLv : ∀ x, Live (hpR cs).get x → x = 0 := fun x hx => by
    unfold Live at hx
    rw [hg] at hx
    by_cases e : x = 0
    · exact e
    · rw [if_neg e] at hx; exact hx.elim
  have hnofam : ∀ {f hd sh}, (hpR cs).get f ≠ some (.fam hd sh) := fun {f hd sh} e => by
    rw [hg] at e
    split at e <;> cases e
  have hn0 : Now P E (maxN t) M (oneH hh) (hpR cs) w := by
    refine ⟨⟨fun x o hx e => ?_, fun i j _ _ l1 l2 hne => ?_, fun i h' l1 e => ?_, fun f hd s sh _ _ _ _ _ _ _ _ k1 => absurd k1 hnofam⟩, hnow.nb, fun x h1 _ => ?_, fun f hd s sh k1 => absurd k1 hnofam⟩
    · obtain rfl := hLv x hx
      rw [hg, if_pos rfl] at e
      cases e
      exact ⟨hh, rfl, hO⟩
    · obtain rfl := hLv i l1
      obtain rfl := hLv j l2
      exact absurd rfl hne
    · obtain rfl := hLv i l1
      cases e
      exact hMb
    · have h1 : 1 ≤ x := h1
      refine ⟨if_neg (by omega), ?_⟩
      rw [hg, if_neg (by omega)]
  obtain ⟨h1, h2⟩ := hA (maxN t) M (oneH hh) (hpR cs) w (.fn f) as vs (fun r => (leafRN P fl ts cs.length r).holds fun x => x = (v, cs')) hn0 hL (by
    rw [ht]
    exact Tree.holds_mono (fun r hr => ⟨hr.2, hr.1⟩) (Tree.holds_and_every (Tree.holds_bind.1 h) (maxN_every t)))
  refine ⟨h1, h2.mono fun e w' ⟨u, M', β', r, he, hS, hu, hr⟩ => ?_⟩
  replace hr : (leafRN P fl ts cs.length r).holds fun x => x = (v, cs') := hr
  unfold leafRN at hr
  split at hr
  case h_2 => exact hr.elim
  rename_i m c' d' hr0
  cases hb : Nat.beq m cs.length && ((rdN c' d' cs.length 0).map opn).all flt1 with
  | false => rw [hb] at hr; exact hr.elim
  | true =>
  rw [hb] at hr
  simp only [cond_true] at hr
  rw [Bool.and_eq_true] at hb
  obtain ⟨hm, hfl⟩ := hb
  have hm := bbeq hm
  subst hm
  have hβ0 : β' 0 = some hh := hS.evo.hd 0 hh rfl
  have hlive0 : Live r.2.get 0 := by unfold Live; rw [hr0]; trivial
  obtain ⟨h0, g1, g2⟩ := hS.now.heap.obj 0 _ hlive0 hr0
  rw [hβ0] at g1
  cases g1
  have hMb' : M' hh.block := hS.now.heap.own 0 hh hlive0 hβ0
  have hown0 : ∀ b, Own (hpR cs).get (oneH hh) b → b = hh.block := by
    rintro b ⟨x, hx, k1, k2, k3⟩
    obtain rfl := hLv x k1
    cases k2
    exact k3.symm
  have hold : ∀ b, b < w.heap.size → b ≠ hh.block → w'.heap[b]? = w.heap[b]? := fun b hb hne => hS.evo.old b hb fun ho => hne (hown0 b ho)
  have hkill : HeapRel P E w' M' β' (r.2.put 0 .dead).get := hS.now.heap.kill hr0 (by rw [Hp.get_put, if_pos rfl]) fun x hx => by rw [Hp.get_put, if_neg hx]
  have hMM : ∀ b, M b → M' b ∧ ¬ Own (r.2.put 0 .dead).get β' b := fun b hb => by
    by_cases hne : b = hh.block
    · subst hne
      refine ⟨hMb', ?_⟩
      rintro ⟨x, hx, k1, k2, k3⟩
      have hx0 : x ≠ 0 := by
        rintro rfl
        unfold Live at k1
        rw [Hp.get_put, if_pos rfl] at k1
        exact k1
      have hlx : Live r.2.get x ∧ keyOf r.2.get x ≠ 0 := by
        unfold Live at k1 ⊢
        unfold keyOf
        rw [Hp.get_put, if_neg hx0] at k1
        cases hH : r.2.get x with
        | none => rw [hH] at k1; exact k1.elim
        | some o =>
          rw [hH] at k1
          cases o with
          | grow n2 c2 d2 f2 =>
            obtain ⟨hd, sh, q1, q2⟩ := k1
            have hf : f2 ≠ 0 := by rintro rfl; rw [Hp.get_put, if_pos rfl] at q1; cases q1
            rw [Hp.get_put, if_neg hf] at q1
            exact ⟨⟨hd, sh, q1, q2⟩, hf⟩
          | _ => first | exact ⟨k1, hx0⟩ | exact k1.elim
      exact hS.now.heap.inj x 0 hx hh hlx.1 hlive0 (by
        have : keyOf r.2.get 0 = 0 := by unfold keyOf; rw [hr0]
        rw [this]; exact hlx.2) k2 hβ0 k3
    · refine ⟨hS.evo.keep b hb fun ho => hne (hown0 b ho), ?_⟩
      rintro ⟨x, hx, k1, k2, k3⟩
      have hx0 : x ≠ 0 := by
        rintro rfl
        unfold Live at k1
        rw [Hp.get_put, if_pos rfl] at k1
        exact k1
      have hlx : Live r.2.get x := by
        unfold Live at k1 ⊢
        rw [Hp.get_put, if_neg hx0] at k1
        cases hH : r.2.get x with
        | none => rw [hH] at k1; exact k1.elim
        | some o =>
          rw [hH] at k1
          cases o with
          | grow n2 c2 d2 f2 =>
            obtain ⟨hd, sh, q1, q2⟩ := k1
            have hf : f2 ≠ 0 := by rintro rfl; rw [Hp.get_put, if_pos rfl] at q1; cases q1
            rw [Hp.get_put, if_neg hf] at q1
            exact ⟨hd, sh, q1, q2⟩
          | _ => first | exact k1 | exact k1.elim
      rcases hS.evo.own b ⟨x, hx, hlx, k2, k3⟩ with h | h
      · exact hne (hown0 b h)
      · have := hnow.nb b hb
        omega
  obtain ⟨v0, hv, e0⟩ := frzNR_ok hE hFl hkill (fun b hb => (hMM b hb).2) hu (Tree.holds_bind.1 hr)
  cases e0
  obtain ⟨vs0, el, q1, q2, q3, q4⟩ := g2
  obtain ⟨M2, hM2, hS2⟩ := hnow.chgB (hp' := hp.put id (.cells cs.length (ofL ((rdN c' d' cs.length 0).map opn)) .any)) (w' := w') (β' := β) (D := fun x => x = id) (Nat.le_refl _) hlim
    (fun x hx => by rw [Hp.get_put, if_neg hx]) (fun x hx => by subst hx; rw [hget]; trivial) (fun x hx => by subst hx; rw [Hp.get_put, if_pos rfl]; trivial) (fun _ _ e => e) (fun _ _ => rfl) (fun _ _ e => .inl e)
    (fun x hx h1 h2 => by
      subst hx
      have := (hnow.free x h1 h2).2
      rw [hget] at this
      cases this)
    (fun x o hx _ ho => by
      subst hx
      rw [Hp.get_put, if_pos rfl] at ho
      cases ho
      refine ⟨hh, hβ, fun M3 _ hM3 => ⟨vs0, el, q1, q2, Nat.le_refl _, fun j hj => ?_⟩, .inr ⟨x, hh, rfl, hlive, hβ, rfl⟩⟩
      have hj1 : j < (rdN c' d' cs.length 0).length := by rw [rdN_length]; exact hj
      have hj2 : j < ((rdN c' d' cs.length 0).map opn).length := by rw [List.length_map]; exact hj1
      rw [ofL_get _ _ _ hj2]
      have hgj := List.getElem?_eq_getElem hj1
      have hx := (rdN_get c' d' cs.length 0 j _ hgj).2
      rw [Nat.zero_add] at hx
      have e : ((rdN c' d' cs.length 0).map opn).getD j .any = opn (cellAt c' d' j) := by
        rw [List.getD_eq_getElem?_getD, List.getElem?_map, hgj, hx]
        rfl
      rw [e]
      have hf1 : flt1 (opn (cellAt c' d' j)) = true := all_get hfl (j := j) (by rw [List.getElem?_map, hgj, hx]; rfl)
      refine (RV.flt1 hf1 (q4 j hj).opn).less fun b hb => ?_
      rcases hM3 b hb with h | ⟨y, hy, rfl, k1, k2⟩
      · exact (hMM b h).1
      · rw [hβ] at k1
        cases k1
        exact k2 ▸ hMb')
    (fun x y _ _ hx hy _ _ hne => absurd (hx.trans hy.symm) hne) hS.evo.os hS.evo.tape hS.evo.output hS.evo.size
    (fun b hb hne => hold b hb fun e => hne id hh rfl hlive hβ e.symm)
  refine ⟨u, M2, β, (v, hp.put id (.cells cs.length (ofL ((rdN c' d' cs.length 0).map opn)) .any)), he, hS2, hv.less fun b hb => ?_, rfl⟩
  rcases hM2 b hb with h | ⟨y, hy, rfl, k1, k2⟩
  · exact h
  · rw [hβ] at k1
    cases k1
    exact k2 ▸ hMb
end Go.Cx
