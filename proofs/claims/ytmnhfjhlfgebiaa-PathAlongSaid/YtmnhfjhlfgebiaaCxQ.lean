/- The evaluator: an operation on a part of the objects. No condition. -/
import Derived.Test.YtmnhfjhlfgebiaaCxP
set_option linter.unusedVariables false
noncomputable section
namespace Go.Cx
open Go.RowKit
variable {T : Nat → Type} {P : Program} {E : Enc T}
section
variable {w w' : World} {M M' : Nat → Prop} {β β' : Nat → Option Hd} {lo hi : Nat} {H H' : Nat → Option (AO T)} {r hp' : Hp T}

/-- Some of the objects, family by family. -/
structure Sub (H : Nat → Option (AO T)) (r : Hp T) : Prop where
  get : ∀ id o, r.get id = some o → H id = some o
  fam : ∀ f hd sh m, r.get f = some (.fam hd sh) → (m = hd ∨ m ∈ sh) → (∃ n c d, H m = some (.grow n c d f)) → r.get m ≠ none

theorem Sub.live (hS : Sub H r) {id : Nat} (h : Live r.get id) : Live H id := by
  unfold Live at h ⊢
  cases hr : r.get id with
  | none => rw [hr] at h; exact h.elim
  | some o =>
    rw [hr] at h
    rw [hS.get id o hr]
    cases o with
    | grow n c d f =>
      obtain ⟨hd, sh, h1, h2⟩ := h
      exact ⟨hd, sh, hS.get _ _ h1, h2⟩
    | _ => exact h

theorem Sub.key (hS : Sub H r) {id : Nat} (h : Live r.get id) : keyOf H id = keyOf r.get id := by
  obtain ⟨o, ho⟩ := h.some
  unfold keyOf
  rw [ho, hS.get id o ho]

theorem Sub.now (hS : Sub H r) (hH : HeapRel P E w M β H) (nb : ∀ b, M b → b < w.heap.size) (hlo : r.next = lo) (hfree : ∀ id, lo ≤ id → id < hi → β id = none ∧ H id = none)
    (hnm : ∀ f hd s sh, H f = some (.fam hd sh) → s = hd ∨ s ∈ sh → lo ≤ s → s < hi → False) : Now P E hi M β r w := by
  refine ⟨⟨fun id o hL ho => hH.obj id o (hS.live hL) (hS.get id o ho), fun i j h1 h2 hi hj hij e1 e2 => ?_, fun i h hL hb => hH.own i h (hS.live hL) hb, fun f hd s sh nh ns ch cs dh ds hh hs k1 k2 k3 k4 k5 k6 => ?_⟩, nb, fun id h1 h2 => ?_, fun f hd s sh k1 k2 k3 k4 => ?_⟩
  · rw [← hS.key hi, ← hS.key hj] at hij
    exact hH.inj i j h1 h2 (hS.live hi) (hS.live hj) hij e1 e2
  · exact hH.shade f hd s sh nh ns ch cs dh ds hh hs (hS.get _ _ k1) k2 (hS.get _ _ k3) (hS.get _ _ k4) k5 k6
  · rw [hlo] at h1
    obtain ⟨q1, q2⟩ := hfree id h1 h2
    refine ⟨q1, ?_⟩
    cases hr : r.get id with
    | none => rfl
    | some o => rw [hS.get id o hr] at q2; cases q2
  · rw [hlo] at k3
    exact hnm f hd s sh (hS.get _ _ k1) k2 k3 k4

/-- What an operation does to some of the objects, it does to all of them. -/
theorem frame (hS : Sub H r) (hH : HeapRel P E w M β H) (nb : ∀ b, M b → b < w.heap.size) (hlo : r.next = lo) (hhi : hp'.next = hi) (hlog : r.log = []) (hfree : ∀ id, lo ≤ id → id < hi → β id = none ∧ H id = none)
    (hnm : ∀ f hd s sh, H f = some (.fam hd sh) → s = hd ∨ s ∈ sh → lo ≤ s → s < hi → False) (hG : Gr r hp')
    (ok1 : ∀ id n c d f, id ∈ hp'.log → hp'.get id = some (.grow n c d f) → hp'.get f ≠ none) (ok2 : ∀ f hd sh m, f ∈ hp'.log → hp'.get f = some (.fam hd sh) → (m = hd ∨ m ∈ sh) → hp'.get m ≠ none)
    (hSt : Step P E hi M β r w M' β' hp' w') (hH' : ∀ id, H' id = if id ∈ hp'.log then hp'.get id else H id) :
    HeapRel P E w' M' β' H' ∧ (∀ b, M' b → b < w'.heap.size) ∧ Evo (fun id => lo ≤ id ∧ id < hi) w M (Own H β) β w' M' (Own H' β') β' ∧
      (∀ id, β id = none → H id = none → ¬ (lo ≤ id ∧ id < hi) → β' id = none ∧ H' id = none) ∧
      (∀ f hd s sh, H' f = some (.fam hd sh) → s = hd ∨ s ∈ sh → (∃ hd0 sh0, H f = some (.fam hd0 sh0) ∧ (s = hd0 ∨ s ∈ sh0)) ∨ H s ≠ none ∨ (lo ≤ s ∧ s < hi)) := by
  have hnow := hS.now hH nb hlo hfree hnm
  obtain ⟨hle, l, hl1, hl2, hl3⟩ := hG
  rw [hlog, List.append_nil] at hl1
  subst hl1
  have hst : Stab w M β w' M' β' := hSt.stab hnow
  -- what hp' has, H' has
  have same : ∀ id, hp'.get id ≠ none → H' id = hp'.get id := by
    intro id hne
    rw [hH']
    by_cases hm : id ∈ hp'.log
    · rw [if_pos hm]
    · rw [if_neg hm]
      have e := hl2 id hm
      rw [e] at hne ⊢
      cases hr : r.get id with
      | none => exact absurd hr hne
      | some o => exact hS.get id o hr
  have hout : ∀ id, id ∉ hp'.log → H' id = H id := fun id hm => by rw [hH', if_neg hm]
  have logH : ∀ id, id ∈ hp'.log → H id ≠ none ∨ (lo ≤ id ∧ id < hi) := by
    intro id hm
    rcases (hl3 id hm).1 with h1 | h1
    · left
      cases hr : r.get id with
      | none => exact absurd hr h1
      | some o => rw [hS.get id o hr]; simp
    · rw [hlo, hhi] at h1
      exact .inr h1
  -- who is seen
  let V : Nat → Prop := fun id => hp'.get id ≠ none ∧ ∀ n c d f, hp'.get id = some (.grow n c d f) → hp'.get f ≠ none
  have logV : ∀ id, id ∈ hp'.log → V id := fun id hm => ⟨(hl3 id hm).2, fun n c d f e => ok1 id n c d f hm e⟩
  -- members of a family that is seen
  have famV : ∀ f hd sh m, hp'.get f = some (.fam hd sh) → (m = hd ∨ m ∈ sh) → (∃ n c d, H m = some (.grow n c d f)) → hp'.get m ≠ none := by
    intro f hd sh m hf hm hg
    by_cases hlf : f ∈ hp'.log
    · exact ok2 f hd sh m hlf hf hm
    · have e := hl2 f hlf
      rw [e] at hf
      have := hS.fam f hd sh m hf hm hg
      by_cases hlm : m ∈ hp'.log
      · exact (hl3 m hlm).2
      · rw [hl2 m hlm]; exact this
  have liveV : ∀ id, V id → (Live H' id ↔ Live hp'.get id) := by
    intro id hv
    have e := same id hv.1
    unfold Live
    rw [e]
    cases hr : hp'.get id with
    | none => rfl
    | some o =>
      cases o with
      | grow n c d f =>
        simp only
        rw [same f (hv.2 n c d f hr)]
      | _ => rfl
  have keyV : ∀ id, V id → keyOf H' id = keyOf hp'.get id := fun id hv => keyOf_congr (same id hv.1)
  have keyVV : ∀ id, V id → Live hp'.get id → V (keyOf hp'.get id) := by
    intro id hv hL
    unfold keyOf
    unfold Live at hL
    cases hr : hp'.get id with
    | none => rw [hr] at hL; exact hL.elim
    | some o =>
      rw [hr] at hL
      cases o with
      | grow n c d f =>
        obtain ⟨hd, sh, h1, h2⟩ := hL
        exact ⟨by rw [h1]; simp, fun n c d f' e => by rw [h1] at e; cases e⟩
      | _ => exact hv
  -- the others
  have notV : ∀ id, ¬ V id → Live H' id → H' id = H id ∧ Live H id ∧ ¬ V (keyOf H id) := by
    intro id hv hL
    have hm : id ∉ hp'.log := fun hm => hv (logV id hm)
    have e := hout id hm
    refine ⟨e, ?_⟩
    unfold Live at hL ⊢
    unfold keyOf
    rw [e] at hL
    cases hr : H id with
    | none => rw [hr] at hL; exact hL.elim
    | some o =>
      rw [hr] at hL
      cases o with
      | cells n c d =>
        refine ⟨trivial, fun hv' => hv hv'⟩
      | loop q => exact ⟨trivial, fun hv' => hv hv'⟩
      | lst τ l => exact ⟨hL, fun hv' => hv hv'⟩
      | dead => exact hL.elim
      | fam a b => exact hL.elim
      | grow n c d f =>
        obtain ⟨hd, sh, h1, h2⟩ := hL
        have hfV : ¬ V f := by
          intro hfv
          have hf' := same f hfv.1
          rw [h1] at hf'
          have hne := famV f hd sh id hf'.symm h2 ⟨n, c, d, hr⟩
          refine hv ⟨hne, fun n2 c2 d2 f2 e2 => ?_⟩
          rw [← same id hne, e, hr] at e2
          cases e2
          exact hfv.1
        have hmf : f ∉ hp'.log := fun hm => hfV (logV f hm)
        rw [hout f hmf] at h1
        exact ⟨⟨hd, sh, h1, h2⟩, hfV⟩
  have notV' : ∀ id, ¬ V id → Live H id → Live H' id := by
    intro id hv hL
    have hm : id ∉ hp'.log := fun hm => hv (logV id hm)
    have e := hout id hm
    unfold Live at hL ⊢
    rw [e]
    cases hr : H id with
    | none => rw [hr] at hL; exact hL
    | some o =>
      rw [hr] at hL
      cases o with
      | grow n c d f =>
        obtain ⟨hd, sh, h1, h2⟩ := hL
        have hmf : f ∉ hp'.log := by
          intro hmf
          -- the family was there, so it was seen
          have hrf : r.get f = some (.fam hd sh) := by
            rcases (hl3 f hmf).1 with h3 | h3
            · cases hq : r.get f with
              | none => exact absurd hq h3
              | some o =>
                have := hS.get f o hq
                rw [h1] at this
                cases this
                rfl
            · rw [hlo, hhi] at h3
              have := (hfree f h3.1 h3.2).2
              rw [h1] at this
              cases this
          have hne := hS.fam f hd sh id hrf h2 ⟨n, c, d, hr⟩
          refine hv ⟨by rw [hl2 id hm]; exact hne, fun n2 c2 d2 f2 e2 => ?_⟩
          rw [hl2 id hm] at e2
          have := hS.get id _ e2
          rw [hr] at this
          cases this
          exact (hl3 f hmf).2
        exact ⟨hd, sh, (hout f hmf).trans h1, h2⟩
      | _ => exact hL
  -- who is seen in r, of the same key
  have rkey : ∀ y, Live r.get y → V (keyOf r.get y) := by
    intro y hy
    unfold keyOf
    unfold Live at hy
    cases hr : r.get y with
    | none => rw [hr] at hy; exact hy.elim
    | some o =>
      rw [hr] at hy
      have up : ∀ z, r.get z ≠ none → hp'.get z ≠ none := by
        intro z hz
        by_cases hm : z ∈ hp'.log
        · exact (hl3 z hm).2
        · rw [hl2 z hm]; exact hz
      have self : ∀ z o, r.get z = some o → (∀ n c d f, o ≠ .grow n c d f) → V z := by
        intro z o hz ho
        refine ⟨up z (by rw [hz]; simp), fun n c d f e => ?_⟩
        by_cases hm : z ∈ hp'.log
        · exact ok1 z n c d f hm e
        · rw [hl2 z hm, hz] at e
          cases e
          exact absurd rfl (ho _ _ _ _)
      cases o with
      | grow n c d f =>
        obtain ⟨hd, sh, h1, h2⟩ := hy
        exact self f _ h1 (by intros; simp)
      | cells n c d => exact self y _ hr (by intros; simp)
      | loop q => exact self y _ hr (by intros; simp)
      | lst τ l => exact self y _ hr (by intros; simp)
      | dead => exact hy.elim
      | fam a b => exact hy.elim
  have apart : ∀ id h, ¬ V id → Live H' id → β id = some h → ¬ Own r.get β h.block := by
    rintro id h hv hL hb ⟨y, hy, hLy, hby, e⟩
    obtain ⟨_, h2, h3⟩ := notV id hv hL
    refine hH.inj y id hy h (hS.live hLy) h2 (fun ek => h3 ?_) hby hb e
    rw [← ek, hS.key hLy]
    exact rkey y hLy
  have hβ' : ∀ id h, ¬ V id → Live H' id → β' id = some h → β id = some h ∧ ObjRel P E w M β ((H id).getD .dead) h := by
    intro id h hv hL hb
    obtain ⟨_, h2, _⟩ := notV id hv hL
    obtain ⟨o, ho⟩ := h2.some
    obtain ⟨h', hb', hrel⟩ := hH.obj id o h2 ho
    have := hSt.evo.hd _ _ hb'
    rw [hb] at this
    cases this
    rw [ho]
    exact ⟨hb', hrel⟩
  refine ⟨⟨fun id o hL ho => ?_, fun i j h1 h2 hLi hLj hij e1 e2 => ?_, fun i h hL hb => ?_, fun f hd s sh nh ns ch cs dh ds hh hs k1 k2 k3 k4 k5 k6 => ?_⟩, hSt.now.nb, ⟨hSt.evo.os, hSt.evo.tape, hSt.evo.output, hSt.evo.size, fun b hb ho => ?_, hSt.evo.mutb, fun b hm ho => ?_, fun b ho => ?_, hSt.evo.hd, fun id h hb => ?_⟩, fun id h1 h2 h3 => ?_, fun f hd s sh k1 k2 => ?_⟩
  · -- the objects
    by_cases hv : V id
    · rw [same id hv.1] at ho
      exact hSt.now.heap.obj id o ((liveV id hv).1 hL) ho
    · obtain ⟨e, h2, _⟩ := notV id hv hL
      rw [e] at ho
      obtain ⟨h, hb, hrel⟩ := hH.obj id o h2 ho
      exact ⟨h, hSt.evo.hd _ _ hb, hrel.stab hst (hSt.evo.old _ hrel.block_lt (apart id h hv hL hb))⟩
  · -- blocks differ
    have one : ∀ x y hx hy, V x → ¬ V y → Live H' x → Live H' y → β' x = some hx → β' y = some hy → hx.block ≠ hy.block := by
      intro x y hx hy hvx hvy hLx hLy ex ey hcon
      obtain ⟨q1, q2⟩ := hβ' y hy hvy hLy ey
      rcases hSt.evo.own hx.block ⟨x, hx, (liveV x hvx).1 hLx, ex, rfl⟩ with h3 | h3
      · exact apart y hy hvy hLy q1 (hcon ▸ h3)
      · have := q2.block_lt
        omega
    by_cases hvi : V i
    · by_cases hvj : V j
      · rw [keyV i hvi, keyV j hvj] at hij
        exact hSt.now.heap.inj i j h1 h2 ((liveV i hvi).1 hLi) ((liveV j hvj).1 hLj) hij e1 e2
      · exact one i j h1 h2 hvi hvj hLi hLj e1 e2
    · by_cases hvj : V j
      · exact (one j i h2 h1 hvj hvi hLj hLi e2 e1).symm
      · obtain ⟨a1, a2, a3⟩ := notV i hvi hLi
        obtain ⟨b1, b2, b3⟩ := notV j hvj hLj
        rw [keyOf_congr a1, keyOf_congr b1] at hij
        exact hH.inj i j h1 h2 a2 b2 hij (hβ' i h1 hvi hLi e1).1 (hβ' j h2 hvj hLj e2).1
  · by_cases hv : V i
    · exact hSt.now.heap.own i h ((liveV i hv).1 hL) hb
    · obtain ⟨_, h2, _⟩ := notV i hv hL
      obtain ⟨q1, _⟩ := hβ' i h hv hL hb
      exact hSt.evo.keep _ (hH.own i h h2 q1) (apart i h hv hL q1)
  · -- shades
    by_cases hvf : V f
    · have hf' := same f hvf.1
      rw [k1] at hf'
      have up : ∀ m n c d, H' m = some (.grow n c d f) → (m = hd ∨ m ∈ sh) → hp'.get m = some (.grow n c d f) := by
        intro m n c d hm hmem
        by_cases hml : m ∈ hp'.log
        · rw [hH', if_pos hml] at hm; exact hm
        · rw [hout m hml] at hm
          have := famV f hd sh m hf'.symm hmem ⟨n, c, d, hm⟩
          have e := same m this
          rw [hout m hml, hm] at e
          exact e.symm
      exact hSt.now.heap.shade f hd s sh nh ns ch cs dh ds hh hs hf'.symm k2 (up _ _ _ _ k3 (.inl rfl)) (up _ _ _ _ k4 (.inr k2)) k5 k6
    · have hnl : f ∉ hp'.log := fun hm => hvf (logV f hm)
      rw [hout f hnl] at k1
      have dn : ∀ m n c d hm, H' m = some (.grow n c d f) → (m = hd ∨ m ∈ sh) → β' m = some hm → H m = some (.grow n c d f) ∧ β m = some hm := by
        intro m n c d hm e1 e2 e3
        have hvm : ¬ V m := by
          intro hvm
          have := hvm.2 n c d f ((same m hvm.1) ▸ e1)
          refine hvf ⟨this, fun n2 c2 d2 f2 e => ?_⟩
          rw [← same f this, hout f hnl, k1] at e
          cases e
        have hnm : m ∉ hp'.log := fun hx => hvm (logV m hx)
        have hLm : Live H' m := by
          unfold Live
          rw [e1]
          exact ⟨hd, sh, (hout f hnl).trans k1, e2⟩
        exact ⟨(hout m hnm) ▸ e1, (hβ' m hm hvm hLm e3).1⟩
      obtain ⟨a1, a2⟩ := dn _ _ _ _ _ k3 (.inl rfl) k5
      obtain ⟨b1, b2⟩ := dn _ _ _ _ _ k4 (.inr k2) k6
      exact hH.shade f hd s sh nh ns ch cs dh ds hh hs k1 k2 a1 b1 a2 b2
  · -- old blocks
    exact hSt.evo.old b hb (fun ⟨y, hy, hLy, hby, e⟩ => ho ⟨y, hy, hS.live hLy, hby, e⟩)
  · exact hSt.evo.keep b hm (fun ⟨y, hy, hLy, hby, e⟩ => ho ⟨y, hy, hS.live hLy, hby, e⟩)
  · obtain ⟨y, hy, hLy, hby, e⟩ := ho
    by_cases hv : V y
    · rcases hSt.evo.own b ⟨y, hy, (liveV y hv).1 hLy, hby, e⟩ with ⟨z, hz, hLz, hbz, e'⟩ | h3
      · exact .inl ⟨z, hz, hS.live hLz, hbz, e'⟩
      · exact .inr h3
    · obtain ⟨_, h2, _⟩ := notV y hv hLy
      exact .inl ⟨y, hy, h2, (hβ' y hy hv hLy hby).1, e⟩
  · rcases hSt.evo.nm id h hb with h1 | h1
    · exact .inl h1
    · rw [hlo] at h1; exact .inr h1
  · refine ⟨?_, ?_⟩
    · cases hb : β' id with
      | none => rfl
      | some h =>
        rcases hSt.evo.nm id h hb with h4 | h4
        · rw [h1] at h4; cases h4
        · rw [hlo] at h4; exact absurd h4 h3
    · rw [hout id (fun hm => ?_)]
      · exact h2
      · rcases logH id hm with h4 | h4
        · exact h4 h2
        · exact h3 h4
  · by_cases hm : f ∈ hp'.log
    · rw [hH', if_pos hm] at k1
      have := ok2 f hd sh s hm k1 k2
      by_cases hms : s ∈ hp'.log
      · exact .inr (logH s hms)
      · right; left
        rw [hl2 s hms] at this
        cases hr : r.get s with
        | none => exact absurd hr this
        | some o => rw [hS.get s o hr]; simp
    · rw [hout f hm] at k1
      exact .inl ⟨hd, sh, k1, k2⟩
end
end Go.Cx
