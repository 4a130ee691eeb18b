/- The evaluator: writing objects. No condition. -/
import Derived.Test.YtmnhfjhlfgebiaaCxG
set_option linter.unusedVariables false
noncomputable section
namespace Go.Cx
open Go.RowKit
variable {T : Nat → Type} {P : Program} {E : Enc T}
section
variable {w w' : World} {M : Nat → Prop} {β : Nat → Option Hd} {lim : Nat} {hp hp' : Hp T}

/-- An object is written where it is. -/
theorem Now.write (hN : Now P E lim M β hp w) {id : Nat} {h : Hd} {o o' : AO T} (hL : Live hp.get id) (hid : hp.get id = some o) (hβ : β id = some h) (hnext : hp'.next = hp.next)
    (h1 : hp'.get id = some o')
    (hkind : (∃ n c d n' c' d', o = .cells n c d ∧ o' = .cells n' c' d' ∧ ∀ x, x ≠ id → hp'.get x = hp.get x) ∨ (∃ r r', o = .loop r ∧ o' = .loop r' ∧ ∀ x, x ≠ id → hp'.get x = hp.get x) ∨
      (∃ n c d n' c' d' f sh, o = .grow n c d f ∧ o' = .grow n' c' d' f ∧ hp.get f = some (.fam id sh) ∧ hp'.get f = some (.fam id []) ∧ ∀ x, x ≠ id → x ≠ f → hp'.get x = hp.get x))
    (hos : w'.os = w.os) (htape : w'.tape = w.tape) (hout : w'.output = w.output) (hsz : w'.heap.size = w.heap.size) (hblk : ∀ b, b ≠ h.block → w'.heap[b]? = w.heap[b]?)
    (hobj : Stab w M β w' M β → ObjRel P E w' M β o' h) : Step P E lim M β hp w M β hp' w' := by
  have hMb := hN.heap.own id h hL hβ
  have hst : Stab w M β w' M β := ⟨fun b o hb _ => World.cell?_of_block (w := w) (hblk b (fun e => hb (e ▸ hMb))), by omega, fun _ h => .inl h, fun _ _ h => h⟩
  have hO := hobj hst
  have hL' : Live hp'.get id := by
    unfold Live
    rw [h1]
    rcases hkind with ⟨n, c, d, n', c', d', rfl, rfl, _⟩ | ⟨r, r', rfl, rfl, _⟩ | ⟨n, c, d, n', c', d', f, sh, rfl, rfl, hf, hf', _⟩
    · trivial
    · trivial
    · exact ⟨_, _, hf', .inl rfl⟩
  have hkeyid : keyOf hp'.get id = keyOf hp.get id := by
    unfold keyOf
    rw [h1, hid]
    rcases hkind with ⟨n, c, d, n', c', d', rfl, rfl, _⟩ | ⟨r, r', rfl, rfl, _⟩ | ⟨n, c, d, n', c', d', f, sh, rfl, rfl, hf, hf', _⟩ <;> rfl
  -- the others
  have hoth : ∀ x, x ≠ id → Live hp'.get x → hp'.get x = hp.get x ∧ Live hp.get x ∧ keyOf hp.get x ≠ keyOf hp.get id := by
    intro x hx hLx
    rcases hkind with ⟨n, c, d, n', c', d', rfl, rfl, hs⟩ | ⟨r, r', rfl, rfl, hs⟩ | ⟨n, c, d, n', c', d', f, sh, rfl, rfl, hf, hf', hs⟩
    · have e := hs x hx
      refine ⟨e, ?_, ?_⟩
      · unfold Live at hLx ⊢
        rw [e] at hLx
        cases hH : hp.get x with
        | none => rw [hH] at hLx; exact hLx
        | some ob =>
          rw [hH] at hLx
          cases ob with
          | grow n2 c2 d2 f2 =>
            obtain ⟨hd, sh, k1, k2⟩ := hLx
            have hf2 : f2 ≠ id := fun e => by rw [e, h1] at k1; cases k1
            exact ⟨hd, sh, (hs f2 hf2) ▸ k1, k2⟩
          | _ => exact hLx
      · have ek : keyOf hp.get id = id := by unfold keyOf; rw [hid]
        rw [ek]
        unfold Live at hLx
        unfold keyOf
        rw [e] at hLx
        cases hH : hp.get x with
        | none => exact hx
        | some ob =>
          rw [hH] at hLx
          cases ob with
          | grow n2 c2 d2 f2 =>
            obtain ⟨hd, sh, k1, k2⟩ := hLx
            exact fun e => by simp only at e; rw [e, h1] at k1; cases k1
          | _ => exact hx
    · have e := hs x hx
      refine ⟨e, ?_, ?_⟩
      · unfold Live at hLx ⊢
        rw [e] at hLx
        cases hH : hp.get x with
        | none => rw [hH] at hLx; exact hLx
        | some ob =>
          rw [hH] at hLx
          cases ob with
          | grow n2 c2 d2 f2 =>
            obtain ⟨hd, sh, k1, k2⟩ := hLx
            have hf2 : f2 ≠ id := fun e => by rw [e, h1] at k1; cases k1
            exact ⟨hd, sh, (hs f2 hf2) ▸ k1, k2⟩
          | _ => exact hLx
      · have ek : keyOf hp.get id = id := by unfold keyOf; rw [hid]
        rw [ek]
        unfold Live at hLx
        unfold keyOf
        rw [e] at hLx
        cases hH : hp.get x with
        | none => exact hx
        | some ob =>
          rw [hH] at hLx
          cases ob with
          | grow n2 c2 d2 f2 =>
            obtain ⟨hd, sh, k1, k2⟩ := hLx
            exact fun e => by simp only at e; rw [e, h1] at k1; cases k1
          | _ => exact hx
    · have hxf : x ≠ f := by
        rintro rfl
        unfold Live at hLx
        rw [hf'] at hLx
        exact hLx
      have e := hs x hx hxf
      have ek : keyOf hp.get id = f := by unfold keyOf; rw [hid]
      have hfid : f ≠ id := fun e => by rw [e, hid] at hf; cases hf
      rw [ek]
      unfold Live at hLx ⊢
      unfold keyOf
      rw [e] at hLx
      refine ⟨e, ?_⟩
      cases hH : hp.get x with
      | none => rw [hH] at hLx; exact hLx.elim
      | some ob =>
        rw [hH] at hLx
        cases ob with
        | grow n2 c2 d2 f2 =>
          obtain ⟨hd, sh2, k1, k2⟩ := hLx
          have hf2 : f2 ≠ f := by
            rintro rfl
            rw [hf'] at k1
            cases k1
            simp at k2
            exact hx k2
          have hf3 : f2 ≠ id := fun e => by rw [e, h1] at k1; cases k1
          exact ⟨⟨hd, sh2, (hs f2 hf3 hf2) ▸ k1, k2⟩, hf2⟩
        | cells n2 c2 d2 => exact ⟨trivial, hxf⟩
        | loop r2 => exact ⟨trivial, hxf⟩
        | dead => exact hLx.elim
        | fam a b => exact hLx.elim
        | lst τ l => exact ⟨hLx, hxf⟩
  have hcase : ∀ x, Live hp'.get x → x = id ∨ (x ≠ id ∧ hp'.get x = hp.get x ∧ Live hp.get x ∧ keyOf hp.get x ≠ keyOf hp.get id) := by
    intro x hx
    by_cases e : x = id
    · exact .inl e
    · exact .inr ⟨e, hoth x e hx⟩
  have hkey : ∀ x, Live hp'.get x → Live hp.get x ∧ keyOf hp'.get x = keyOf hp.get x := by
    intro x hx
    rcases hcase x hx with rfl | ⟨_, e, h2, _⟩
    · exact ⟨hL, hkeyid⟩
    · exact ⟨h2, keyOf_congr e⟩
  refine ⟨⟨hos, htape, hout, by omega, fun b _ hn => hblk b (fun e => hn ⟨id, h, hL, hβ, e.symm⟩), fun _ h => .inl h, fun _ h _ => h, fun b ⟨x, hx, k1, k2, k3⟩ => .inl ⟨x, hx, (hkey x k1).1, k2, k3⟩, fun _ _ h => h, fun _ _ h => .inl h⟩,
    ⟨⟨fun x ob hLx hob => ?_, fun i j hi hj hLi hLj hij h3 h4 => ?_, fun i hi hLi h3 => hN.heap.own i hi (hkey i hLi).1 h3, fun f hd s sh nh ns ch cs dh ds hh hs k1 k2 k3 k4 k5 k6 => ?_⟩, fun b hb => by rw [hsz]; exact hN.nb b hb, fun x hx1 hx2 => ?_, fun f hd s sh k1 k2 k3 k4 => ?_⟩, (by rw [hnext]; exact Nat.le_refl _)⟩
  · rcases hcase x hLx with rfl | ⟨_, e, h2, h3⟩
    · rw [h1] at hob
      obtain rfl := Option.some.inj hob
      exact ⟨h, hβ, hO⟩
    · rw [e] at hob
      obtain ⟨hx, hβx, hrel⟩ := hN.heap.obj x ob h2 hob
      exact ⟨hx, hβx, hrel.stab hst (hblk _ (hN.heap.inj x id hx h h2 hL h3 hβx hβ))⟩
  · rw [(hkey i hLi).2, (hkey j hLj).2] at hij
    exact hN.heap.inj i j hi hj (hkey i hLi).1 (hkey j hLj).1 hij h3 h4
  · -- shades of other families
    rcases hkind with ⟨n, c, d, n', c', d', rfl, rfl, hs'⟩ | ⟨r, r', rfl, rfl, hs'⟩ | ⟨n, c, d, n', c', d', f', sh', rfl, rfl, hf, hf', hs'⟩
    · have e1 : f ≠ id := fun e => by rw [e, h1] at k1; cases k1
      have e2 : hd ≠ id := fun e => by rw [e, h1] at k3; cases k3
      have e3 : s ≠ id := fun e => by rw [e, h1] at k4; cases k4
      rw [hs' _ e1] at k1
      rw [hs' _ e2] at k3
      rw [hs' _ e3] at k4
      exact hN.heap.shade f hd s sh nh ns ch cs dh ds hh hs k1 k2 k3 k4 k5 k6
    · have e1 : f ≠ id := fun e => by rw [e, h1] at k1; cases k1
      have e2 : hd ≠ id := fun e => by rw [e, h1] at k3; cases k3
      have e3 : s ≠ id := fun e => by rw [e, h1] at k4; cases k4
      rw [hs' _ e1] at k1
      rw [hs' _ e2] at k3
      rw [hs' _ e3] at k4
      exact hN.heap.shade f hd s sh nh ns ch cs dh ds hh hs k1 k2 k3 k4 k5 k6
    · have e0 : f ≠ f' := by
        rintro rfl
        rw [hf'] at k1
        cases k1
        cases k2
      have e1 : f ≠ id := fun e => by rw [e, h1] at k1; cases k1
      have ne : ∀ x n c d, hp'.get x = some (.grow n c d f) → x ≠ id ∧ x ≠ f' := by
        intro x n c d hx
        refine ⟨fun e => ?_, fun e => ?_⟩
        · rw [e, h1] at hx; cases hx; exact e0 rfl
        · rw [e, hf'] at hx; cases hx
      rw [hs' _ e1 e0] at k1
      rw [hs' _ (ne _ _ _ _ k3).1 (ne _ _ _ _ k3).2] at k3
      rw [hs' _ (ne _ _ _ _ k4).1 (ne _ _ _ _ k4).2] at k4
      exact hN.heap.shade f hd s sh nh ns ch cs dh ds hh hs k1 k2 k3 k4 k5 k6
  · rw [hnext] at hx1
    have hfr := hN.free x hx1 hx2
    refine ⟨hfr.1, ?_⟩
    have e1 : x ≠ id := fun e => by rw [e, hβ] at hfr; cases hfr.1
    rcases hkind with ⟨n, c, d, n', c', d', rfl, rfl, hs'⟩ | ⟨r, r', rfl, rfl, hs'⟩ | ⟨n, c, d, n', c', d', f', sh', rfl, rfl, hf, hf', hs'⟩
    · exact (hs' x e1).trans hfr.2
    · exact (hs' x e1).trans hfr.2
    · have e2 : x ≠ f' := fun e => by rw [e, hf] at hfr; cases hfr.2
      exact (hs' x e1 e2).trans hfr.2
  · rw [hnext] at k3
    rcases hkind with ⟨n, c, d, n', c', d', rfl, rfl, hs'⟩ | ⟨r, r', rfl, rfl, hs'⟩ | ⟨n, c, d, n', c', d', f', sh', rfl, rfl, hf, hf', hs'⟩
    · have e1 : f ≠ id := fun e => by rw [e, h1] at k1; cases k1
      rw [hs' _ e1] at k1
      exact hN.nomem f hd s sh k1 k2 k3 k4
    · have e1 : f ≠ id := fun e => by rw [e, h1] at k1; cases k1
      rw [hs' _ e1] at k1
      exact hN.nomem f hd s sh k1 k2 k3 k4
    · have e1 : f ≠ id := fun e => by rw [e, h1] at k1; cases k1
      by_cases e0 : f = f'
      · subst e0
        rw [hf'] at k1
        cases k1
        rcases k2 with rfl | k2
        · have := (hN.free s k3 k4).1
          rw [hβ] at this
          cases this
        · cases k2
      · rw [hs' _ e1 e0] at k1
        exact hN.nomem f hd s sh k1 k2 k3 k4

/-- A row has grown, where it is or in a new block; the old name can still be read. -/
theorem Now.grown (hN : Now P E lim M β hp w) {id f n : Nat} {c : Tr (AV T)} {d : AV T} {sh : List Nat} {h h' : Hd} (hid : hp.get id = some (.grow n c d f)) (hf : hp.get f = some (.fam id sh)) (hβ : β id = some h) {n' : Nat} {c' : Tr (AV T)} {d' : AV T} (hl : hp.next + 1 ≤ lim)
    (hhp : hp' = (hp.new (.grow n' c' d' f)).put f (.fam hp.next (id :: sh)))
    (hos : w'.os = w.os) (htape : w'.tape = w.tape) (hout : w'.output = w.output) (hsz : w.heap.size ≤ w'.heap.size)
    (hblk : ∀ b, b < w.heap.size → b ≠ h.block → w'.heap[b]? = w.heap[b]?)
    (hcells : ∀ (vs : Array Value) (el : TypeId), w.heap[h.block]? = some (.cells vs el (0, 0)) → ∃ vs' : Array Value, w'.heap[h.block]? = some (.cells vs' el (0, 0)) ∧ vs'.size = vs.size ∧ ∀ j, j < h.base + n → vs'.getD j undef = vs.getD j undef)
    (hnew : (h'.block = h.block ∧ h.base + n ≤ h'.base + n') ∨ w.heap.size ≤ h'.block)
    (hobj : ∀ M' β', Stab w M β w' M' β' → ObjRel P E w' M' β' (.grow n' c' d' f) h') :
    Step P E lim M β hp w (fun b => M b ∨ b = h'.block) (upd β hp.next h') hp' w' := by
  have hL : Live hp.get id := by unfold Live; rw [hid]; exact ⟨_, _, hf, .inl rfl⟩
  have hMb := hN.heap.own id h hL hβ
  have hkn := hN.free hp.next (Nat.le_refl _) (by omega)
  have hfid : f ≠ id := fun e => by rw [e, hid] at hf; cases hf
  have hfk : f ≠ hp.next := fun e => by rw [e, hkn.2] at hf; cases hf
  have hidk : id ≠ hp.next := fun e => by rw [e, hkn.2] at hid; cases hid
  have hg : ∀ x, hp'.get x = if x = f then some (.fam hp.next (id :: sh)) else if x = hp.next then some (.grow n' c' d' f) else hp.get x := by
    intro x
    rw [hhp, Hp.get_put, Hp.get_new]
  have hgf : hp'.get f = some (.fam hp.next (id :: sh)) := by rw [hg, if_pos rfl]
  have hgk : hp'.get hp.next = some (.grow n' c' d' f) := by rw [hg, if_neg (Ne.symm hfk), if_pos rfl]
  have hgo : ∀ x, x ≠ f → x ≠ hp.next → hp'.get x = hp.get x := fun x h1 h2 => by rw [hg, if_neg h1, if_neg h2]
  have hnext : hp'.next = hp.next + 1 := by rw [hhp]; rfl
  have hext : ∀ (i : Nat) (hi : Hd), β i = some hi → upd β hp.next h' i = some hi := fun i hi e => by
    rw [upd_ne (fun e' => by rw [e', hkn.1] at e; cases e)]; exact e
  have hMn : ∀ b, (M b ∨ b = h'.block) → M b ∨ w.heap.size ≤ b := by
    rintro b (hb | rfl)
    · exact .inl hb
    · rcases hnew with ⟨e, _⟩ | e
      · exact .inl (e ▸ hMb)
      · exact .inr e
  have hst : Stab w M β w' (fun b => M b ∨ b = h'.block) (upd β hp.next h') :=
    ⟨fun b o hb hlt => World.cell?_of_block (w := w) (hblk b hlt (fun e => hb (e ▸ hMb))), hsz, hMn, hext⟩
  have hO := hobj _ _ hst
  have hlt := hO.block_lt
  -- who lives
  have hcase : ∀ x, Live hp'.get x → (x = hp.next) ∨ (x ≠ hp.next ∧ x ≠ f ∧ hp'.get x = hp.get x ∧ Live hp.get x) := by
    intro x hx
    by_cases e1 : x = hp.next
    · exact .inl e1
    · have e2 : x ≠ f := fun e => by
        subst e
        unfold Live at hx
        rw [hgf] at hx
        exact hx
      have e := hgo x e2 e1
      refine .inr ⟨e1, e2, e, ?_⟩
      unfold Live at hx ⊢
      rw [e] at hx
      cases hH : hp.get x with
      | none => rw [hH] at hx; exact hx
      | some ob =>
        rw [hH] at hx
        cases ob with
        | grow n2 c2 d2 f2 =>
          obtain ⟨hd, sh2, k1, k2⟩ := hx
          by_cases e3 : f2 = f
          · subst e3
            rw [hgf] at k1
            cases k1
            refine ⟨_, _, hf, ?_⟩
            rcases k2 with k2 | k2
            · exact absurd k2 e1
            · rcases List.mem_cons.1 k2 with k2 | k2
              · exact .inl k2
              · exact .inr k2
          · have e4 : f2 ≠ hp.next := fun e => by rw [e, hgk] at k1; cases k1
            exact ⟨hd, sh2, (hgo f2 e3 e4) ▸ k1, k2⟩
        | _ => exact hx
  have hkk : keyOf hp'.get hp.next = f := by unfold keyOf; rw [hgk]
  have hkid : keyOf hp.get id = f := by unfold keyOf; rw [hid]
  -- the cells of the others stay
  have hstay : ∀ x ob hx, Live hp.get x → hp.get x = some ob → β x = some hx → ObjRel P E w M β ob hx → ObjRel P E w' (fun b => M b ∨ b = h'.block) (upd β hp.next h') ob hx := by
    intro x ob hx hLx hob hβx hrel
    by_cases hb : hx.block = h.block
    · -- of the same family
      have hkx : keyOf hp.get x = f := by
        rw [← hkid]
        refine Classical.byContradiction fun hne => ?_
        exact hN.heap.inj x id hx h hLx hL hne hβx hβ hb
      have hns : ∃ n2 c2 d2, ob = .grow n2 c2 d2 f ∧ hx.base + n2 ≤ h.base + n := by
        unfold keyOf at hkx
        rw [hob] at hkx
        unfold Live at hLx
        rw [hob] at hLx
        cases ob with
        | grow n2 c2 d2 f2 =>
          simp only at hkx
          subst hkx
          obtain ⟨hd, sh2, k1, k2⟩ := hLx
          rw [hf] at k1
          cases k1
          refine ⟨n2, c2, d2, rfl, ?_⟩
          rcases k2 with rfl | k2
          · rw [hid] at hob
            cases hob
            rw [hβ] at hβx
            cases hβx
            exact Nat.le_refl _
          · exact hN.heap.shade f2 id x sh n n2 c c2 d d2 h hx hf k2 hid hob hβ hβx hb
        | cells n2 c2 d2 => simp only at hkx; subst hkx; rw [hf] at hob; cases hob
        | loop r2 => simp only at hkx; subst hkx; rw [hf] at hob; cases hob
        | dead => exact hLx.elim
        | fam a b => exact hLx.elim
        | lst τ l => simp only at hkx; subst hkx; rw [hf] at hob; cases hob
      obtain ⟨n2, c2, d2, rfl, hle⟩ := hns
      obtain ⟨vs, el, g1, g2, g3, g4⟩ := hrel
      obtain ⟨vs', q1, q2, q3⟩ := hcells vs el (hb ▸ g1)
      refine ⟨vs', el, by rw [hb]; exact q1, by omega, g3, fun j hj => ?_⟩
      rw [q3 _ (by omega)]
      exact (g4 j hj).stab hst
    · exact hrel.stab hst (hblk _ hrel.block_lt hb)
  refine ⟨⟨hos, htape, hout, hsz, fun b hb hn => hblk b hb (fun e => hn ⟨id, h, hL, hβ, e.symm⟩), hMn, fun b hb _ => .inl hb, fun b ⟨x, hx, k1, k2, k3⟩ => ?_, hext, fun x hx e => (by
      by_cases hc : x = hp.next
      · exact .inr ⟨by omega, by omega⟩
      · rw [upd_ne hc] at e; exact .inl e)⟩,
    ⟨⟨fun x ob hLx hob => ?_, fun i j hi hj hLi hLj hij h3 h4 => ?_, fun i hi hLi h3 => ?_, fun f2 hd s sh2 nh ns ch cs dh ds hh hs k1 k2 k3 k4 k5 k6 => ?_⟩, fun b hb => ?_, fun x hx1 hx2 => ?_, fun f2 hd s sh2 k1 k2 k3 k4 => ?_⟩, (by omega)⟩
  · rcases hcase x k1 with rfl | ⟨e1, e2, e3, e4⟩
    · rw [upd_self] at k2
      obtain rfl := Option.some.inj k2
      rcases hnew with ⟨e, _⟩ | e
      · exact .inl ⟨id, h, hL, hβ, e.symm.trans k3⟩
      · exact .inr (k3 ▸ e)
    · rw [upd_ne e1] at k2
      exact .inl ⟨x, hx, e4, k2, k3⟩
  · rcases hcase x hLx with rfl | ⟨e1, e2, e3, e4⟩
    · rw [hgk] at hob
      obtain rfl := Option.some.inj hob
      exact ⟨h', upd_self, hO⟩
    · rw [e3] at hob
      obtain ⟨hx, hβx, hrel⟩ := hN.heap.obj x ob e4 hob
      exact ⟨hx, hext _ _ hβx, hstay x ob hx e4 hob hβx hrel⟩
  · -- blocks differ
    have one : ∀ j hj, j ≠ hp.next → Live hp.get j → keyOf hp'.get j ≠ f → hp'.get j = hp.get j → upd β hp.next h' j = some hj → h'.block ≠ hj.block := by
      intro j hj e1 e4 hk e3 hβj
      rw [upd_ne e1] at hβj
      rw [keyOf_congr e3] at hk
      rcases hnew with ⟨e, _⟩ | e
      · rw [e]
        exact hN.heap.inj id j h hj hL e4 (by rw [hkid]; exact Ne.symm hk) hβ hβj
      · obtain ⟨ob, hob⟩ := e4.some
        obtain ⟨hx, hβx, hrel⟩ := hN.heap.obj j ob e4 hob
        rw [hβj] at hβx
        cases hβx
        have := hrel.block_lt
        omega
    rcases hcase i hLi with rfl | ⟨e1, e2, e3, e4⟩
    · rw [upd_self] at h3
      cases h3
      rcases hcase j hLj with rfl | ⟨e1, e2, e3, e4⟩
      · exact absurd rfl hij
      · exact one j hj e1 e4 (by rw [hkk] at hij; exact Ne.symm hij) e3 h4
    · rcases hcase j hLj with rfl | ⟨g1, g2, g3, g4⟩
      · rw [upd_self] at h4
        cases h4
        exact (one i hi e1 e4 (by rw [hkk] at hij; exact hij) e3 h3).symm
      · rw [upd_ne e1] at h3
        rw [upd_ne g1] at h4
        refine hN.heap.inj i j hi hj e4 g4 (fun e => hij ?_) h3 h4
        rw [keyOf_congr e3, keyOf_congr g3]
        exact e
  · rcases hcase i hLi with rfl | ⟨e1, e2, e3, e4⟩
    · rw [upd_self] at h3
      cases h3
      exact .inr rfl
    · rw [upd_ne e1] at h3
      exact .inl (hN.heap.own i hi e4 h3)
  · by_cases e0 : f2 = f
    · subst e0
      rw [hgf] at k1
      cases k1
      rw [hgk] at k3
      cases k3
      rw [upd_self] at k5
      cases k5
      have e1 : s ≠ hp.next := fun e => by
        subst e
        rcases List.mem_cons.1 k2 with k2 | k2
        · exact hidk k2.symm
        · exact hN.nomem f2 id hp.next sh hf (.inr k2) (Nat.le_refl _) (by omega)
      have e2 : s ≠ f2 := fun e => by rw [e, hgf] at k4; cases k4
      rw [upd_ne e1] at k6
      rw [hgo s e2 e1] at k4
      rcases List.mem_cons.1 k2 with rfl | k2
      · rw [hid] at k4
        cases k4
        rw [hβ] at k6
        cases k6
        intro k7
        rcases hnew with ⟨_, e⟩ | e
        · exact e
        · obtain ⟨hx, hβx, hrel⟩ := hN.heap.obj s _ hL hid
          rw [hβ] at hβx
          cases hβx
          have := hrel.block_lt
          omega
      · have hLs : Live hp.get s := by unfold Live; rw [k4]; exact ⟨_, _, hf, .inr k2⟩
        obtain ⟨hx, hβx, hrel⟩ := hN.heap.obj s _ hLs k4
        rw [k6] at hβx
        cases hβx
        have hlt2 := hrel.block_lt
        intro k7
        rcases hnew with ⟨e3, e⟩ | e
        · have := hN.heap.shade f2 id s sh n ns c cs d ds h hs hf k2 hid k4 hβ k6 (by omega)
          omega
        · omega
    · have e1 : f2 ≠ hp.next := fun e => by rw [e, hgk] at k1; cases k1
      rw [hgo f2 e0 e1] at k1
      have ne : ∀ x n c d, hp'.get x = some (.grow n c d f2) → x ≠ hp.next ∧ x ≠ f := by
        intro x n c d hx
        refine ⟨fun e => ?_, fun e => ?_⟩
        · rw [e, hgk] at hx; cases hx; exact e0 rfl
        · rw [e, hgf] at hx; cases hx
      rw [hgo _ (ne _ _ _ _ k3).2 (ne _ _ _ _ k3).1] at k3
      rw [hgo _ (ne _ _ _ _ k4).2 (ne _ _ _ _ k4).1] at k4
      rw [upd_ne (ne _ _ _ _ (by rw [hgo _ (fun e => by rw [e, hf] at k3; cases k3) (fun e => by rw [e, hkn.2] at k3; cases k3)]; exact k3)).1] at k5
      rw [upd_ne (ne _ _ _ _ (by rw [hgo _ (fun e => by rw [e, hf] at k4; cases k4) (fun e => by rw [e, hkn.2] at k4; cases k4)]; exact k4)).1] at k6
      exact hN.heap.shade f2 hd s sh2 nh ns ch cs dh ds hh hs k1 k2 k3 k4 k5 k6
  · rcases hb with hb | rfl
    · exact Nat.lt_of_lt_of_le (hN.nb b hb) hsz
    · exact hlt
  · rw [hnext] at hx1
    have hfr := hN.free x (by omega) hx2
    have e1 : x ≠ hp.next := by omega
    refine ⟨by rw [upd_ne e1]; exact hfr.1, ?_⟩
    rw [hgo x (fun e => by rw [e, hf] at hfr; cases hfr.2) e1]
    exact hfr.2
  · rw [hnext] at k3
    by_cases e0 : f2 = f
    · subst e0
      rw [hgf] at k1
      cases k1
      rcases k2 with rfl | k2
      · omega
      · rcases List.mem_cons.1 k2 with rfl | k2
        · have := (hN.free s (by omega) k4).1
          rw [hβ] at this
          cases this
        · exact hN.nomem f2 id s sh hf (.inr k2) (by omega) k4
    · have e1 : f2 ≠ hp.next := fun e => by rw [e, hgk] at k1; cases k1
      rw [hgo f2 e0 e1] at k1
      exact hN.nomem f2 hd s sh2 k1 k2 (by omega) k4
end
end Go.Cx
