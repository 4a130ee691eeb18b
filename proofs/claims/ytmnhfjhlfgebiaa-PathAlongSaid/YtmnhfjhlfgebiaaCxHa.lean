/- Objects of no family change, are given up, or come up. -/
import Derived.Test.YtmnhfjhlfgebiaaCxH
set_option linter.unusedVariables false
noncomputable section
namespace Go.Cx
open Go.RowKit
variable {T : Nat → Type} {P : Program} {E : Enc T}

/-- An object that is of no family, or none. -/
def Plain : Option (AO T) → Prop
  | none => True
  | some .dead => True
  | some (.cells _ _ _) => True
  | some (.lst _ _) => True
  | _ => False
theorem Plain.nofam {o : Option (AO T)} (h : Plain o) {a : Nat} {b : List Nat} : o ≠ some (.fam a b) := by rintro rfl; exact h
theorem Plain.nogrow {o : Option (AO T)} (h : Plain o) {n : Nat} {c : Tr (AV T)} {d : AV T} {f : Nat} : o ≠ some (.grow n c d f) := by rintro rfl; exact h
theorem Plain.key {H : Nat → Option (AO T)} {x : Nat} (h : Plain (H x)) : keyOf H x = x := by
  unfold keyOf
  split
  · rename_i e; exact absurd e h.nogrow
  · rfl

section
variable {w w' : World} {M : Nat → Prop} {β β' : Nat → Option Hd} {lim : Nat} {hp hp' : Hp T}

theorem Now.chgB (hN : Now P E lim M β hp w) {D : Nat → Prop} (hnext : hp.next ≤ hp'.next) (hl : hp'.next ≤ lim) (hout : ∀ x, ¬ D x → hp'.get x = hp.get x) (hp1 : ∀ x, D x → Plain (hp.get x)) (hp2 : ∀ x, D x → Plain (hp'.get x))
    (hβ : ∀ x h, β x = some h → β' x = some h) (hβ' : ∀ x, ¬ D x → β' x = β x) (hnew : ∀ x h, β' x = some h → β x = some h ∨ (hp.next ≤ x ∧ x < hp'.next))
    (hfree : ∀ x, D x → hp'.next ≤ x → x < lim → False)
    (hobj : ∀ x o, D x → Live hp'.get x → hp'.get x = some o → ∃ h, β' x = some h ∧ (∀ M', Stab w M β w' M' β' → (∀ b, M' b → M b ∨ ∃ x h, D x ∧ β' x = some h ∧ h.block = b) → ObjRel P E w' M' β' o h) ∧ (w.heap.size ≤ h.block ∨ ∃ y hy, D y ∧ Live hp.get y ∧ β y = some hy ∧ hy.block = h.block))
    (hinj : ∀ x y hx hy, D x → D y → Live hp'.get x → Live hp'.get y → x ≠ y → β' x = some hx → β' y = some hy → hx.block ≠ hy.block)
    (hos : w'.os = w.os) (htape : w'.tape = w.tape) (houtp : w'.output = w.output) (hsz : w.heap.size ≤ w'.heap.size)
    (hblk : ∀ b, b < w.heap.size → (∀ y hy, D y → Live hp.get y → β y = some hy → hy.block ≠ b) → w'.heap[b]? = w.heap[b]?) :
    ∃ M', (∀ b, M' b → M b ∨ ∃ x h, D x ∧ β' x = some h ∧ h.block = b) ∧ Step P E lim M β hp w M' β' hp' w' := by
  let M' : Nat → Prop := fun b => M b ∨ ∃ x h, D x ∧ Live hp'.get x ∧ β' x = some h ∧ h.block = b
  have hMn : ∀ b, M' b → M b ∨ w.heap.size ≤ b := by
    rintro b (h | ⟨x, h, h1, h2, h3, rfl⟩)
    · exact .inl h
    · obtain ⟨o, ho⟩ := h2.some
      obtain ⟨h', g1, _, g3⟩ := hobj x o h1 h2 ho
      rw [h3] at g1
      cases g1
      rcases g3 with g3 | ⟨y, hy, q1, q2, q3, q4⟩
      · exact .inr g3
      · exact .inl (q4 ▸ hN.heap.own y hy q2 q3)
  have hst : Stab w M β w' M' β' := ⟨fun b o hb hlt => World.cell?_of_block (w := w) (hblk b hlt fun y hy _ q2 q3 e => hb (e ▸ hN.heap.own y hy q2 q3)), hsz, hMn, hβ⟩
  have hMx : ∀ b, M' b → M b ∨ ∃ x h, D x ∧ β' x = some h ∧ h.block = b := by
    rintro b (h | ⟨x, h, h1, _, h3, h4⟩)
    · exact .inl h
    · exact .inr ⟨x, h, h1, h3, h4⟩
  -- those outside
  have lv : ∀ x, ¬ D x → (Live hp'.get x ↔ Live hp.get x) := by
    intro x hx
    unfold Live
    rw [hout x hx]
    cases hp.get x with
    | none => rfl
    | some o =>
      cases o with
      | grow n c d f =>
        simp only
        by_cases hf : D f
        · constructor
          · rintro ⟨hd, sh, k1, _⟩; exact absurd k1 (hp2 f hf).nofam
          · rintro ⟨hd, sh, k1, _⟩; exact absurd k1 (hp1 f hf).nofam
        · rw [hout f hf]
      | _ => rfl
  have ky : ∀ x, ¬ D x → keyOf hp'.get x = keyOf hp.get x := fun x hx => keyOf_congr (hout x hx)
  have kD : ∀ x, ¬ D x → Live hp.get x → ¬ D (keyOf hp.get x) := by
    intro x hx hL hd
    unfold keyOf at hd
    unfold Live at hL
    split at hd
    · rename_i n c d f e
      rw [e] at hL
      obtain ⟨hd', sh, k1, _⟩ := hL
      exact (hp1 _ hd).nofam k1
    · exact hx hd
  have far : ∀ x hx, ¬ D x → Live hp.get x → β x = some hx → ∀ y hy, D y → Live hp.get y → β y = some hy → hy.block ≠ hx.block := by
    intro x hx h1 h2 h3 y hy h4 h5 h6
    refine hN.heap.inj y x hy hx h5 h2 (fun e => ?_) h6 h3
    rw [(hp1 y h4).key] at e
    exact kD x h1 h2 (e ▸ h4)
  refine ⟨M', hMx, ⟨⟨hos, htape, houtp, hsz, fun b hb ho => hblk b hb fun y hy _ q2 q3 e => ho ⟨y, hy, q2, q3, e⟩, hMn, fun b hb _ => .inl hb, ?_, hβ, fun x h e => ?_⟩, ⟨⟨?_, ?_, ?_, ?_⟩, ?_, ?_, ?_⟩, hnext⟩⟩
  · rintro b ⟨x, h, h1, h2, rfl⟩
    by_cases hx : D x
    · obtain ⟨o, ho⟩ := h1.some
      obtain ⟨h', g1, _, g3⟩ := hobj x o hx h1 ho
      rw [h2] at g1
      cases g1
      rcases g3 with g3 | ⟨y, hy, q1, q2, q3, q4⟩
      · exact .inr g3
      · exact .inl ⟨y, hy, q2, q3, q4⟩
    · rw [hβ' x hx] at h2
      exact .inl ⟨x, h, (lv x hx).1 h1, h2, rfl⟩
  · rcases hnew x h e with k | ⟨k1, k2⟩
    · exact .inl k
    · exact .inr ⟨k1, Nat.lt_of_lt_of_le k2 hl⟩
  · intro x o hL ho
    by_cases hx : D x
    · obtain ⟨h, g1, g2, _⟩ := hobj x o hx hL ho
      exact ⟨h, g1, g2 _ hst hMx⟩
    · have hL' := (lv x hx).1 hL
      rw [hout x hx] at ho
      obtain ⟨h, g1, g2⟩ := hN.heap.obj x o hL' ho
      exact ⟨h, hβ x h g1, g2.stab hst (hblk _ g2.block_lt fun y hy q1 q2 q3 => far x h hx hL' g1 y hy q1 q2 q3)⟩
  · intro i j hi hj hLi hLj hne e1 e2
    by_cases hDi : D i
    · by_cases hDj : D j
      · rw [(hp2 i hDi).key, (hp2 j hDj).key] at hne
        exact hinj i j hi hj hDi hDj hLi hLj hne e1 e2
      · have hLj' := (lv j hDj).1 hLj
        rw [hβ' j hDj] at e2
        obtain ⟨o, ho⟩ := hLi.some
        obtain ⟨h', g1, _, g3⟩ := hobj i o hDi hLi ho
        rw [e1] at g1
        cases g1
        obtain ⟨oj, hoj⟩ := hLj'.some
        obtain ⟨hj', k1, k2⟩ := hN.heap.obj j oj hLj' hoj
        rw [e2] at k1
        cases k1
        have := k2.block_lt
        rcases g3 with g3 | ⟨y, hy, q1, q2, q3, q4⟩
        · omega
        · rw [← q4]; exact far j hj hDj hLj' e2 y hy q1 q2 q3
    · have hLi' := (lv i hDi).1 hLi
      rw [hβ' i hDi] at e1
      by_cases hDj : D j
      · obtain ⟨o, ho⟩ := hLj.some
        obtain ⟨h', g1, _, g3⟩ := hobj j o hDj hLj ho
        rw [e2] at g1
        cases g1
        obtain ⟨oi, hoi⟩ := hLi'.some
        obtain ⟨hi', k1, k2⟩ := hN.heap.obj i oi hLi' hoi
        rw [e1] at k1
        cases k1
        have := k2.block_lt
        rcases g3 with g3 | ⟨y, hy, q1, q2, q3, q4⟩
        · omega
        · rw [← q4]; exact (far i hi hDi hLi' e1 y hy q1 q2 q3).symm
      · have hLj' := (lv j hDj).1 hLj
        rw [hβ' j hDj] at e2
        rw [ky i hDi, ky j hDj] at hne
        exact hN.heap.inj i j hi hj hLi' hLj' hne e1 e2
  · intro i h hL e
    by_cases hx : D i
    · exact .inr ⟨i, h, hx, hL, e, rfl⟩
    · rw [hβ' i hx] at e
      exact .inl (hN.heap.own i h ((lv i hx).1 hL) e)
  · intro f hd s sh nh ns ch cs dh ds hh hs k1 k2 k3 k4 k5 k6
    have n1 : ¬ D f := fun h => (hp2 f h).nofam k1
    have n2 : ¬ D hd := fun h => (hp2 hd h).nogrow k3
    have n3 : ¬ D s := fun h => (hp2 s h).nogrow k4
    rw [hout _ n1] at k1
    rw [hout _ n2] at k3
    rw [hout _ n3] at k4
    rw [hβ' _ n2] at k5
    rw [hβ' _ n3] at k6
    exact hN.heap.shade f hd s sh nh ns ch cs dh ds hh hs k1 k2 k3 k4 k5 k6
  · rintro b (h | ⟨x, h, h1, h2, h3, rfl⟩)
    · exact Nat.lt_of_lt_of_le (hN.nb b h) hsz
    · obtain ⟨o, ho⟩ := h2.some
      obtain ⟨h', g1, g2, _⟩ := hobj x o h1 h2 ho
      rw [h3] at g1
      cases g1
      exact (g2 _ hst hMx).block_lt
  · intro x h1 h2
    have hx : ¬ D x := fun hD => hfree x hD h1 h2
    rw [hβ' x hx, hout x hx]
    exact hN.free x (Nat.le_trans hnext h1) h2
  · intro f hd s sh k1 k2 k3 k4
    have n1 : ¬ D f := fun h => (hp2 f h).nofam k1
    rw [hout _ n1] at k1
    exact hN.nomem f hd s sh k1 k2 (Nat.le_trans hnext k3) k4
theorem Now.chg (hN : Now P E lim M β hp w) {D : Nat → Prop} (hnext : hp.next ≤ hp'.next) (hl : hp'.next ≤ lim) (hout : ∀ x, ¬ D x → hp'.get x = hp.get x) (hp1 : ∀ x, D x → Plain (hp.get x)) (hp2 : ∀ x, D x → Plain (hp'.get x))
    (hβ : ∀ x h, β x = some h → β' x = some h) (hβ' : ∀ x, ¬ D x → β' x = β x) (hnew : ∀ x h, β' x = some h → β x = some h ∨ (hp.next ≤ x ∧ x < hp'.next))
    (hfree : ∀ x, D x → hp'.next ≤ x → x < lim → False)
    (hobj : ∀ x o, D x → Live hp'.get x → hp'.get x = some o → ∃ h, β' x = some h ∧ (∀ M', Stab w M β w' M' β' → ObjRel P E w' M' β' o h) ∧ (w.heap.size ≤ h.block ∨ ∃ y hy, D y ∧ Live hp.get y ∧ β y = some hy ∧ hy.block = h.block))
    (hinj : ∀ x y hx hy, D x → D y → Live hp'.get x → Live hp'.get y → x ≠ y → β' x = some hx → β' y = some hy → hx.block ≠ hy.block)
    (hos : w'.os = w.os) (htape : w'.tape = w.tape) (houtp : w'.output = w.output) (hsz : w.heap.size ≤ w'.heap.size)
    (hblk : ∀ b, b < w.heap.size → (∀ y hy, D y → Live hp.get y → β y = some hy → hy.block ≠ b) → w'.heap[b]? = w.heap[b]?) :
    ∃ M', Step P E lim M β hp w M' β' hp' w' :=
  (hN.chgB hnext hl hout hp1 hp2 hβ hβ' hnew hfree (fun x o h1 h2 h3 => by
    obtain ⟨h, k1, k2, k3⟩ := hobj x o h1 h2 h3
    exact ⟨h, k1, fun M' q _ => k2 M' q, k3⟩) hinj hos htape houtp hsz hblk).imp fun _ h => h.2
end
end Go.Cx
