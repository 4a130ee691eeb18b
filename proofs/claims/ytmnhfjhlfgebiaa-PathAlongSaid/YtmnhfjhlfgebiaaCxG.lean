/- The evaluator: steps of the objects. No condition. -/
import Derived.Test.YtmnhfjhlfgebiaaCxF
set_option linter.unusedVariables false
noncomputable section
namespace Go.Cx
open Go.RowKit
variable {T : Nat → Type} {P : Program} {E : Enc T}

def upd (β : Nat → Option Hd) (id : Nat) (h : Hd) : Nat → Option Hd := fun i => if i = id then some h else β i
theorem upd_self {β : Nat → Option Hd} {id : Nat} {h : Hd} : upd β id h id = some h := by simp [upd]
theorem upd_ne {β : Nat → Option Hd} {id i : Nat} {h : Hd} (hne : i ≠ id) : upd β id h i = β i := by simp [upd, hne]

/-- The world and the objects, at one moment. -/
structure Now (P : Program) (E : Enc T) (lim : Nat) (M : Nat → Prop) (β : Nat → Option Hd) (hp : Hp T) (w : World) : Prop where
  heap : HeapRel P E w M β hp.get
  nb : ∀ b, M b → b < w.heap.size
  free : ∀ id, hp.next ≤ id → id < lim → β id = none ∧ hp.get id = none
  nomem : ∀ (f hd s : Nat) (sh : List Nat), hp.get f = some (.fam hd sh) → s = hd ∨ s ∈ sh → hp.next ≤ s → s < lim → False

structure Step (P : Program) (E : Enc T) (lim : Nat) (M : Nat → Prop) (β : Nat → Option Hd) (hp : Hp T) (w : World) (M' : Nat → Prop) (β' : Nat → Option Hd) (hp' : Hp T) (w' : World) : Prop where
  evo : Evo (fun id => hp.next ≤ id ∧ id < lim) w M (Own hp.get β) β w' M' (Own hp'.get β') β'
  now : Now P E lim M' β' hp' w'
  mono : hp.next ≤ hp'.next

section
variable {w w' : World} {M : Nat → Prop} {β : Nat → Option Hd} {lim : Nat} {hp hp' : Hp T}

theorem Step.refl (h : Now P E lim M β hp w) : Step P E lim M β hp w M β hp w := ⟨Evo.refl, h, Nat.le_refl _⟩
theorem Step.trans {w2 : World} {M1 M2 : Nat → Prop} {β1 β2 : Nat → Option Hd} {hp2 : Hp T} (h0 : Now P E lim M β hp w) (h : Step P E lim M β hp w M1 β1 hp' w') (k : Step P E lim M1 β1 hp' w' M2 β2 hp2 w2) : Step P E lim M β hp w M2 β2 hp2 w2 :=
  ⟨h.evo.trans k.evo h0.nb (fun _ hi => ⟨Nat.le_trans h.mono hi.1, hi.2⟩), k.now, Nat.le_trans h.mono k.mono⟩
theorem Step.stab {M' : Nat → Prop} {β' : Nat → Option Hd} (h0 : Now P E lim M β hp w) (h : Step P E lim M β hp w M' β' hp' w') : Stab w M β w' M' β' := h.evo.stab h0.heap.ownM

theorem Now.fam_old (h : Now P E lim M β hp w) {f : Nat} {o : AO T} (hf : hp.get f = some o) : f < hp.next ∨ lim ≤ f := by
  rcases Nat.lt_or_ge f hp.next with h1 | h1
  · exact .inl h1
  · rcases Nat.lt_or_ge f lim with h2 | h2
    · have := (h.free f h1 h2).2
      rw [this] at hf; cases hf
    · exact .inr h2

theorem keyOf_congr {H H' : Nat → Option (AO T)} {id : Nat} (h : H' id = H id) : keyOf H' id = keyOf H id := by unfold keyOf; rw [h]

theorem Live.some {H : Nat → Option (AO T)} {id : Nat} (h : Live H id) : ∃ o, H id = some o := by
  unfold Live at h
  cases hH : H id with
  | none => rw [hH] at h; exact h.elim
  | some o => exact ⟨o, rfl⟩

theorem ObjRel.block_lt {o : AO T} {h : Hd} (ho : ObjRel P E w M β o h) : h.block < w.heap.size := by
  cases o with
  | cells n c d => obtain ⟨vs, el, h1, _⟩ := ho; exact (Array.getElem?_eq_some_iff.1 h1).1
  | grow n c d f => obtain ⟨vs, el, h1, _⟩ := ho; exact (Array.getElem?_eq_some_iff.1 h1).1
  | loop r => obtain ⟨lp, h1, _⟩ := ho; exact (Array.getElem?_eq_some_iff.1 h1).1
  | dead => exact ho.elim
  | fam a b => exact ho.elim
  | lst τ l => obtain ⟨vs, el, h1, _⟩ := ho; exact (Array.getElem?_eq_some_iff.1 h1).1

theorem CellsAt.stab {n room : Nat} {c : Tr (AV T)} {d : AV T} {h : Hd} (ho : CellsAt P E w M β n c d h room) {M' : Nat → Prop} {β' : Nat → Option Hd} (hs : Stab w M β w' M' β') (hb : w'.heap[h.block]? = w.heap[h.block]?) : CellsAt P E w' M' β' n c d h room := by
  obtain ⟨vs, el, h1, h2, h3, h4⟩ := ho
  exact ⟨vs, el, hb.trans h1, h2, h3, fun j hj => (h4 j hj).stab hs⟩

theorem ObjRel.stab {o : AO T} {h : Hd} (ho : ObjRel P E w M β o h) {M' : Nat → Prop} {β' : Nat → Option Hd} (hs : Stab w M β w' M' β') (hb : w'.heap[h.block]? = w.heap[h.block]?) : ObjRel P E w' M' β' o h := by
  cases o with
  | cells n c d => exact CellsAt.stab ho hs hb
  | grow n c d f => exact CellsAt.stab ho hs hb
  | loop r =>
    obtain ⟨lp, h1, h2, h3, h4, h5, h6, h7⟩ := ho
    exact ⟨lp, hb.trans h1, h2, h3, h4, h5, h6, h7.stab hs⟩
  | dead => exact ho.elim
  | fam a b => exact ho.elim
  | lst τ l =>
    obtain ⟨vs, el, h1, h2, h3, h4, h5⟩ := ho
    exact ⟨vs, el, hb.trans h1, h2, h3, h4, fun i x j c hx hc => (h5 i x j c hx hc).stab hs.nil⟩

/-- A new object comes up, in a new block. -/
theorem Now.add1 (hN : Now P E lim M β hp w) {k : Nat} {o : AO T} {h : Hd} (hk : hp.next ≤ k) (hk' : k < hp'.next) (hl : hp'.next ≤ lim)
    (hget : ∀ id, id < hp.next ∨ hp'.next ≤ id → hp'.get id = hp.get id) (hnew : ∀ id, hp.next ≤ id → id < hp'.next → Live hp'.get id → id = k)
    (hfam : ∀ f hd sh, hp.next ≤ f → f < hp'.next → hp'.get f = some (.fam hd sh) → hd = k ∧ sh = [])
    (ho : hp'.get k = some o) (hlive : Live hp'.get k) (hkey : hp.next ≤ keyOf hp'.get k ∧ keyOf hp'.get k < hp'.next)
    (hb : Below w.heap.size w w') (hblk : w.heap.size ≤ h.block)
    (hobj : ∀ M' β', Stab w M β w' M' β' → ObjRel P E w' M' β' o h) :
    Step P E lim M β hp w (fun b => M b ∨ b = h.block) (upd β k h) hp' w' := by
  have hklim : k < lim := Nat.lt_of_lt_of_le hk' hl
  have hkn := hN.free k hk hklim
  have hext : ∀ (id : Nat) (h' : Hd), β id = some h' → upd β k h id = some h' := fun id h' e => by
    rw [upd_ne (fun e' => by rw [e', hkn.1] at e; cases e)]; exact e
  have hst : Stab w M β w' (fun b => M b ∨ b = h.block) (upd β k h) :=
    ⟨fun b o _ hlt => World.cell?_of_block (w := w) (hb.block b hlt), hb.size, fun b hb' => (by rcases hb' with h1 | rfl; exact .inl h1; exact .inr hblk), hext⟩
  have hO := hobj _ _ hst
  have hlt := hO.block_lt
  have hold : ∀ id, (id < hp.next ∨ hp'.next ≤ id) → Live hp'.get id → Live hp.get id := by
    intro id hid hL
    have e := hget id hid
    unfold Live at hL ⊢
    rw [e] at hL
    cases hH : hp.get id with
    | none => rw [hH] at hL; exact hL
    | some ob =>
      rw [hH] at hL
      cases ob with
      | grow n c d f =>
        obtain ⟨hd, sh, h1, h2⟩ := hL
        by_cases hf : f < hp.next ∨ hp'.next ≤ f
        · rw [hget f hf] at h1
          exact ⟨hd, sh, h1, h2⟩
        · obtain ⟨rfl, rfl⟩ := hfam f hd sh (by omega) (by omega) h1
          simp at h2
          omega
      | _ => exact hL
  have hold' : ∀ id, Live hp.get id → (id < hp.next ∨ hp'.next ≤ id) ∧ Live hp'.get id := by
    intro id hL
    obtain ⟨ob, hob⟩ := hL.some
    have hid : id < hp.next ∨ hp'.next ≤ id := by
      rcases hN.fam_old hob with h1 | h1
      · exact .inl h1
      · exact .inr (Nat.le_trans hl h1)
    refine ⟨hid, ?_⟩
    have e := hget id hid
    unfold Live at hL ⊢
    rw [e]
    cases hH : hp.get id with
    | none => rw [hH] at hL; exact hL
    | some ob =>
      rw [hH] at hL
      cases ob with
      | grow n c d f =>
        obtain ⟨hd, sh, h1, h2⟩ := hL
        have hf : f < hp.next ∨ hp'.next ≤ f := by
          rcases hN.fam_old h1 with h3 | h3
          · exact .inl h3
          · exact .inr (Nat.le_trans hl h3)
        exact ⟨hd, sh, (hget f hf).trans h1, h2⟩
      | _ => exact hL
  have hkeyold : ∀ id, Live hp.get id → ¬ (hp.next ≤ keyOf hp'.get id ∧ keyOf hp'.get id < hp'.next) := by
    intro id hL hcon
    obtain ⟨hid, hL'⟩ := hold' id hL
    have e := keyOf_congr (hget id hid)
    rw [e] at hcon
    unfold keyOf at hcon
    unfold Live at hL
    cases hH : hp.get id with
    | none => rw [hH] at hL; exact hL
    | some ob =>
      rw [hH] at hL hcon
      cases ob with
      | grow n c d f =>
        obtain ⟨hd, sh, h1, h2⟩ := hL
        simp only at hcon
        rcases hN.fam_old h1 with h3 | h3 <;> omega
      | _ => simp only at hcon; omega
  have hcase : ∀ id, Live hp'.get id → id = k ∨ (Live hp.get id ∧ id ≠ k) := by
    intro id hL
    by_cases hid : id < hp.next ∨ hp'.next ≤ id
    · exact .inr ⟨hold id hid hL, by omega⟩
    · exact .inl (hnew id (by omega) (by omega) hL)
  have hβold : ∀ id, id ≠ k → upd β k h id = β id := fun id hne => upd_ne hne
  refine ⟨⟨hb.os, hb.tape, hb.output, hb.size, fun b hlt _ => hb.block b hlt, fun b hb' => (by rcases hb' with h1 | rfl; exact .inl h1; exact .inr hblk), fun b hM _ => .inl hM, fun b ⟨id, h', hL, hβ, e⟩ => ?_, hext, fun id h' e => (by
      by_cases hc : id = k
      · exact .inr ⟨hc ▸ hk, hc ▸ hklim⟩
      · rw [upd_ne hc] at e; exact .inl e)⟩,
    ⟨⟨fun id ob hL hob => ?_, fun i j hi hj hLi hLj hij hβi hβj => ?_, fun i h' hL hβ => ?_, fun f hd s sh nh ns ch cs dh ds hh hs h1 h2 h3 h4 h5 h6 => ?_⟩, fun b hb' => ?_, fun id h1 h2 => ?_, fun f hd s sh h1 h2 h3 h4 => ?_⟩, (by omega)⟩
  · rcases hcase id hL with rfl | ⟨hL', hne⟩
    · rw [upd_self] at hβ
      obtain rfl := Option.some.inj hβ
      exact .inr (e ▸ hblk)
    · rw [hβold id hne] at hβ
      exact .inl ⟨id, h', hL', hβ, e⟩
  · rcases hcase id hL with rfl | ⟨hL', hne⟩
    · rw [ho] at hob
      obtain rfl := Option.some.inj hob
      exact ⟨h, upd_self, hO⟩
    · have hid := (hold' id hL').1
      rw [hget id hid] at hob
      obtain ⟨h', hβ, hrel⟩ := hN.heap.obj id ob hL' hob
      exact ⟨h', hext _ _ hβ, hrel.stab hst (hb.block _ hrel.block_lt)⟩
  · rcases hcase i hLi with rfl | ⟨hLi', hnei⟩
    · rcases hcase j hLj with rfl | ⟨hLj', hnej⟩
      · exact absurd rfl hij
      · rw [upd_self] at hβi
        obtain rfl := Option.some.inj hβi
        rw [hβold j hnej] at hβj
        obtain ⟨ob, hob⟩ := hLj'.some
        obtain ⟨h', hβ', hrel⟩ := hN.heap.obj j ob hLj' hob
        rw [hβj] at hβ'
        obtain rfl := Option.some.inj hβ'
        have := hrel.block_lt
        omega
    · rw [hβold i hnei] at hβi
      rcases hcase j hLj with rfl | ⟨hLj', hnej⟩
      · rw [upd_self] at hβj
        obtain rfl := Option.some.inj hβj
        obtain ⟨ob, hob⟩ := hLi'.some
        obtain ⟨h', hβ', hrel⟩ := hN.heap.obj i ob hLi' hob
        rw [hβi] at hβ'
        obtain rfl := Option.some.inj hβ'
        have := hrel.block_lt
        omega
      · rw [hβold j hnej] at hβj
        refine hN.heap.inj i j hi hj hLi' hLj' (fun e => hij ?_) hβi hβj
        rw [keyOf_congr (hget i (hold' i hLi').1), keyOf_congr (hget j (hold' j hLj').1)]
        exact e
  · rcases hcase i hL with rfl | ⟨hL', hne⟩
    · rw [upd_self] at hβ
      obtain rfl := Option.some.inj hβ
      exact .inr rfl
    · rw [hβold i hne] at hβ
      exact .inl (hN.heap.own i h' hL' hβ)
  · by_cases hf : f < hp.next ∨ hp'.next ≤ f
    · rw [hget f hf] at h1
      have hold3 : ∀ x, (∃ n c d, hp'.get x = some (.grow n c d f)) → x ≠ k := by
        rintro x ⟨n, c, d, hx⟩ rfl
        have : keyOf hp'.get x = f := by unfold keyOf; rw [hx]
        rw [this] at hkey
        omega
      have hx1 := hold3 hd ⟨_, _, _, h3⟩
      have hx2 := hold3 s ⟨_, _, _, h4⟩
      rw [hβold _ hx1] at h5
      rw [hβold _ hx2] at h6
      have hin : ∀ x, (∃ hx, β x = some hx) → x < hp.next ∨ hp'.next ≤ x := by
        rintro x ⟨hx, hβx⟩
        rcases Nat.lt_or_ge x hp.next with g1 | g1
        · exact .inl g1
        · rcases Nat.lt_or_ge x lim with g2 | g2
          · rw [(hN.free x g1 g2).1] at hβx; cases hβx
          · exact .inr (Nat.le_trans hl g2)
      rw [hget hd (hin hd ⟨_, h5⟩)] at h3
      rw [hget s (hin s ⟨_, h6⟩)] at h4
      exact hN.heap.shade f hd s sh nh ns ch cs dh ds hh hs h1 h2 h3 h4 h5 h6
    · obtain ⟨_, rfl⟩ := hfam f hd sh (by omega) (by omega) h1
      cases h2
  · rcases hb' with h1 | rfl
    · exact Nat.lt_of_lt_of_le (hN.nb b h1) hb.size
    · exact hlt
  · have hne : id ≠ k := by omega
    rw [hβold id hne]
    have := hN.free id (by omega) h2
    exact ⟨this.1, (hget id (.inr h1)).trans this.2⟩
  · by_cases hf : f < hp.next ∨ hp'.next ≤ f
    · rw [hget f hf] at h1
      exact hN.nomem f hd s sh h1 h2 (by omega) h4
    · obtain ⟨rfl, rfl⟩ := hfam f hd sh (by omega) (by omega) h1
      rcases h2 with rfl | h2
      · omega
      · cases h2

/-- A new object that is of no family. -/
theorem Now.new (hN : Now P E lim M β hp w) {o : AO T} {h : Hd} (hl : hp.next + 1 ≤ lim) (hso : (∃ n c d, o = .cells n c d) ∨ ∃ r, o = .loop r)
    (hb : Below w.heap.size w w') (hblk : w.heap.size ≤ h.block) (hobj : ∀ M' β', Stab w M β w' M' β' → ObjRel P E w' M' β' o h) :
    Step P E lim M β hp w (fun b => M b ∨ b = h.block) (upd β hp.next h) (hp.new o) w' := by
  have hself : (hp.new o).get hp.next = some o := by rw [Hp.get_new, if_pos rfl]
  have hnext : (hp.new o).next = hp.next + 1 := rfl
  refine hN.add1 (k := hp.next) (o := o) (Nat.le_refl _) (by rw [hnext]; omega) hl (fun id hid => by rw [Hp.get_new, if_neg (by rw [hnext] at hid; omega)]) (fun id h1 h2 _ => by rw [hnext] at h2; omega)
    (fun f hd sh h1 h2 h3 => ?_) hself ?_ ?_ hb hblk hobj
  · have : f = hp.next := by rw [hnext] at h2; omega
    subst this
    rw [hself] at h3
    rcases hso with ⟨n, c, d, rfl⟩ | ⟨r, rfl⟩ <;> cases h3
  · unfold Live
    rw [hself]
    rcases hso with ⟨n, c, d, rfl⟩ | ⟨r, rfl⟩ <;> trivial
  · unfold keyOf
    rw [hself]
    rcases hso with ⟨n, c, d, rfl⟩ | ⟨r, rfl⟩ <;> simp [hnext]

/-- A new row that can grow. -/
theorem Now.newG (hN : Now P E lim M β hp w) {n : Nat} {c : Tr (AV T)} {d : AV T} {h : Hd} (hl : hp.next + 2 ≤ lim)
    (hb : Below w.heap.size w w') (hblk : w.heap.size ≤ h.block) (hobj : ∀ M' β', Stab w M β w' M' β' → ObjRel P E w' M' β' (.grow n c d hp.next) h) :
    Step P E lim M β hp w (fun b => M b ∨ b = h.block) (upd β (hp.next + 1) h) ((hp.new (.fam (hp.next + 1) [])).new (.grow n c d hp.next)) w' := by
  have hnext : ((hp.new (.fam (hp.next + 1) [])).new (.grow n c d hp.next) : Hp T).next = hp.next + 2 := rfl
  have hg : ∀ id, ((hp.new (.fam (hp.next + 1) [])).new (.grow n c d hp.next) : Hp T).get id = if id = hp.next + 1 then some (.grow n c d hp.next) else if id = hp.next then some (.fam (hp.next + 1) []) else hp.get id := by
    intro id
    rw [Hp.get_new, Hp.get_new]
    rfl
  have hself : ((hp.new (.fam (hp.next + 1) [])).new (.grow n c d hp.next) : Hp T).get (hp.next + 1) = some (.grow n c d hp.next) := by rw [hg, if_pos rfl]
  have hfm : ((hp.new (.fam (hp.next + 1) [])).new (.grow n c d hp.next) : Hp T).get hp.next = some (.fam (hp.next + 1) []) := by rw [hg, if_neg (by omega), if_pos rfl]
  refine hN.add1 (k := hp.next + 1) (o := .grow n c d hp.next) (by omega) (by rw [hnext]; omega) hl (fun id hid => by rw [hnext] at hid; rw [hg, if_neg (by omega), if_neg (by omega)]) (fun id h1 h2 hL => ?_)
    (fun f hd sh h1 h2 h3 => ?_) hself ?_ ?_ hb hblk hobj
  · rw [hnext] at h2
    by_cases e : id = hp.next
    · subst e
      unfold Live at hL
      rw [hfm] at hL
      exact hL.elim
    · omega
  · rw [hnext] at h2
    by_cases e : f = hp.next
    · subst e
      rw [hfm] at h3
      cases h3
      exact ⟨rfl, rfl⟩
    · have : f = hp.next + 1 := by omega
      subst this
      rw [hself] at h3
      cases h3
  · unfold Live
    rw [hself]
    exact ⟨_, _, hfm, .inl rfl⟩
  · unfold keyOf
    rw [hself]
    simp [hnext]
end
end Go.Cx
