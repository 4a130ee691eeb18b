/- The evaluator: calls with objects that are known. No condition. -/
import Derived.Test.YtncnpgmfeneliaaBxY
noncomputable section
namespace Go.Bx
open Go.RowKit
variable {T : Nat → Type} {P : Program} {E : Enc T} {cl : Bool} {fuel : Nat}

/-! ### Other names for objects -/
def ren1 (ρ : Nat → Nat) : AV T → AV T
  | .ptr id off => .ptr (ρ id) off
  | .sc id sz off len cap => .sc (ρ id) sz off len cap
  | v => v
def ok1 (m : Nat) : AV T → Bool
  | .int _ _ => true
  | .lit _ => true
  | .nilp => true
  | .nilf => true
  | .nils => true
  | .emp => true
  | .es => true
  | .nili => true
  | .ptr id _ => Nat.blt id m
  | .sc id _ _ _ _ => Nat.blt id m
  | .ifc _ (.agg []) => true
  | _ => false
def ren2 (ρ : Nat → Nat) : AV T → AV T
  | .agg cs => .agg (cs.map (ren1 ρ))
  | v => ren1 ρ v
def ok2 (m : Nat) : AV T → Bool
  | .agg cs => cs.all (ok1 m)
  | v => ok1 m v
def ren3 (ρ : Nat → Nat) : AV T → AV T
  | .tup cs => .tup (cs.map (ren2 ρ))
  | v => ren2 ρ v
def ok3 (m : Nat) : AV T → Bool
  | .tup cs => cs.all (ok2 m)
  | v => ok2 m v

section
variable {w w' : World} {M M' : Nat → Prop} {β β' : Nat → Option Hd} {m : Nat} {ρ : Nat → Nat}
theorem blt_lt {a b : Nat} (h : Nat.blt a b = true) : a < b := Nat.le_of_ble_eq_true h
theorem RV.ren1 {c : AV T} {v : Value} (hv : RV P E w M β c v) (h : ok1 m c = true) (hβ : ∀ id hd, id < m → β id = some hd → β' (ρ id) = some hd) : RV P E w' M' β' (ren1 ρ c) v := by
  cases hv with
  | ptr hb => exact .ptr (hβ _ _ (blt_lt h) hb)
  | sc hb h1 h2 h3 => exact .sc (hβ _ _ (blt_lt h) hb) h1 h2 h3
  | int => exact .int
  | lit => exact .lit
  | nilp => exact .nilp
  | nilf => exact .nilf
  | nils => exact .nils
  | emp => exact .emp
  | es => exact .es
  | nili => exact .nili
  | @ifc _ t c v hc =>
    cases c with
    | agg cs =>
      cases cs with
      | nil =>
        cases hc with
        | agg h1 _ => exact .ifc (.agg h1 fun j c v hc => by simp at hc)
      | cons x l => cases h
    | _ => cases h
  | _ => cases h
theorem RV.unren1 {c : AV T} {v : Value} (hv : RV P E w M β' (Bx.ren1 ρ c) v) (h : ok1 m c = true) (hβ : ∀ id hd, id < m → β' (ρ id) = some hd → β id = some hd) : RV P E w' M' β c v := by
  cases c with
  | ptr id off =>
    have hv : RV P E w M β' (.ptr (ρ id) off) v := hv
    cases hv with
    | ptr hb => exact .ptr (hβ _ _ (blt_lt h) hb)
  | sc id sz off len cap =>
    have hv : RV P E w M β' (.sc (ρ id) sz off len cap) v := hv
    cases hv with
    | sc hb h1 h2 h3 => exact .sc (hβ _ _ (blt_lt h) hb) h1 h2 h3
  | int k n => have hv : RV P E w M β' (.int k n) v := hv; cases hv; exact .int
  | lit b => have hv : RV P E w M β' (.lit b) v := hv; cases hv; exact .lit
  | nilp => have hv : RV P E w M β' .nilp v := hv; cases hv; exact .nilp
  | nilf => have hv : RV P E w M β' .nilf v := hv; cases hv; exact .nilf
  | nils => have hv : RV P E w M β' .nils v := hv; cases hv; exact .nils
  | emp => have hv : RV P E w M β' .emp v := hv; cases hv; exact .emp
  | es => have hv : RV P E w M β' .es v := hv; cases hv; exact .es
  | nili => have hv : RV P E w M β' .nili v := hv; cases hv; exact .nili
  | ifc t c =>
    cases c with
    | agg cs =>
      cases cs with
      | nil =>
        have hv : RV P E w M β' (.ifc t (.agg [])) v := hv
        cases hv with
        | ifc hc =>
          cases hc with
          | agg h1 _ => exact .ifc (.agg h1 fun j c v hc => by simp at hc)
      | cons x l => cases h
    | _ => cases h
  | _ => cases h
theorem all_get {p : AV T → Bool} {cs : List (AV T)} (h : cs.all p = true) {j : Nat} {c : AV T} (hc : cs[j]? = some c) : p c = true := List.all_eq_true.1 h _ (List.mem_of_getElem? hc)
theorem RV.ren2 {c : AV T} {v : Value} (hv : RV P E w M β c v) (h : ok2 m c = true) (hβ : ∀ id hd, id < m → β id = some hd → β' (ρ id) = some hd) : RV P E w' M' β' (ren2 ρ c) v := by
  cases c with
  | agg cs =>
    cases hv with
    | agg h1 h2 =>
      refine .agg (by simpa using h1) fun j c v hc hx => ?_
      rw [List.getElem?_map, Option.map_eq_some_iff] at hc
      obtain ⟨c0, hc0, rfl⟩ := hc
      exact RV.ren1 (h2 j c0 v hc0 hx) (all_get h hc0) hβ
  | _ => exact RV.ren1 hv h hβ
theorem RV.unren2 {c : AV T} {v : Value} (hv : RV P E w M β' (Bx.ren2 ρ c) v) (h : ok2 m c = true) (hβ : ∀ id hd, id < m → β' (ρ id) = some hd → β id = some hd) : RV P E w' M' β c v := by
  cases c with
  | agg cs =>
    have hv : RV P E w M β' (.agg (cs.map (Bx.ren1 ρ))) v := hv
    cases hv with
    | agg h1 h2 =>
      refine .agg (by simpa using h1) fun j c v hc hx => ?_
      exact RV.unren1 (h2 j _ v (by rw [List.getElem?_map, hc]; rfl) hx) (all_get h hc) hβ
  | _ => exact RV.unren1 (ρ := ρ) (m := m) hv h hβ
theorem RV.ren3 {c : AV T} {v : Value} (hv : RV P E w M β c v) (h : ok3 m c = true) (hβ : ∀ id hd, id < m → β id = some hd → β' (ρ id) = some hd) : RV P E w' M' β' (ren3 ρ c) v := by
  cases c with
  | tup cs =>
    cases hv with
    | tup h1 h2 =>
      refine .tup (by simpa using h1) fun j c v hc hx => ?_
      rw [List.getElem?_map, Option.map_eq_some_iff] at hc
      obtain ⟨c0, hc0, rfl⟩ := hc
      exact RV.ren2 (h2 j c0 v hc0 hx) (all_get h hc0) hβ
  | _ => exact RV.ren2 hv h hβ
theorem ren1_congr {ρ' : Nat → Nat} {c : AV T} (h : ok1 m c = true) (e : ∀ id, id < m → ρ id = ρ' id) : Bx.ren1 ρ c = Bx.ren1 ρ' c := by
  cases c with
  | ptr id off => show AV.ptr (ρ id) off = AV.ptr (ρ' id) off; rw [e id (blt_lt h)]
  | sc id sz off len cap => show AV.sc (ρ id) sz off len cap = AV.sc (ρ' id) sz off len cap; rw [e id (blt_lt h)]
  | _ => rfl
end

/-! ### Runs that are known, with the objects that they look at -/
/-- The arguments, the cells of the objects that they lead to, the answer, how many names it takes, and the new objects. -/
structure Ent (T : Nat → Type) where
  f : Nat
  as : List (AV T)
  objs : List (List (AV T))
  v : AV T
  nx : Nat
  fos : List (Nat × List (AV T))
def keyTr : List (List (AV T)) → Nat → Tr (AO T)
  | [], _ => .nil
  | cs :: l, i => (keyTr l (i + 1)).set i (.cells cs.length (ofL cs) .any)
def keyHp (l : List (List (AV T))) : Hp T := ⟨l.length, keyTr l 0, []⟩
theorem keyTr_get : ∀ (l : List (List (AV T))) (i j : Nat) (o : AO T), (keyTr l i).get j = some o → i ≤ j ∧ ∃ cs, l[j - i]? = some cs ∧ o = .cells cs.length (ofL cs) .any
  | [], i, j, o, h => by rw [show (keyTr ([] : List (List (AV T))) i) = .nil from rfl, Tr.get_nil] at h; cases h
  | cs :: l, i, j, o, h => by
    rw [show keyTr (cs :: l) i = (keyTr l (i + 1)).set i (.cells cs.length (ofL cs) .any) from rfl, Tr.get_set] at h
    by_cases hj : j = i
    · rw [if_pos hj] at h
      subst hj
      exact ⟨Nat.le_refl _, cs, by simp, (Option.some.inj h).symm⟩
    · rw [if_neg hj] at h
      obtain ⟨h1, cs', h2, h3⟩ := keyTr_get l (i + 1) j o h
      refine ⟨by omega, cs', ?_, h3⟩
      rw [show j - i = (j - (i + 1)) + 1 by omega, List.getElem?_cons_succ]
      exact h2
theorem keyTr_some : ∀ (l : List (List (AV T))) (i j : Nat) (cs : List (AV T)), l[j]? = some cs → (keyTr l i).get (i + j) = some (.cells cs.length (ofL cs) .any)
  | [], i, j, cs, h => by simp at h
  | c :: l, i, 0, cs, h => by
    simp at h
    subst h
    rw [show keyTr (c :: l) i = (keyTr l (i + 1)).set i (.cells c.length (ofL c) .any) from rfl, Tr.get_set, if_pos (by omega)]
  | c :: l, i, j + 1, cs, h => by
    rw [show keyTr (c :: l) i = (keyTr l (i + 1)).set i (.cells c.length (ofL c) .any) from rfl, Tr.get_set, if_neg (by omega)]
    have := keyTr_some l (i + 1) j cs (by simpa using h)
    rw [show i + (j + 1) = i + 1 + j by omega]
    exact this

def rho (σ : Nat → Nat) (m nx : Nat) (id : Nat) : Nat := bif Nat.blt id m then σ id else nx + (id - m)
theorem rho_lt {σ : Nat → Nat} {m nx id : Nat} (h : id < m) : rho σ m nx id = σ id := by
  have : Nat.blt id m = true := Nat.ble_eq_true_of_le h
  simp [rho, this]
theorem rho_ge {σ : Nat → Nat} {m nx id : Nat} (h : m ≤ id) : rho σ m nx id = nx + (id - m) := by
  have : Nat.blt id m = false := by
    cases hb : Nat.blt id m with
    | false => rfl
    | true => have := blt_lt hb; omega
  simp [rho, this]
def newT (ρ : Nat → Nat) (nx : Nat) : List (Nat × List (AV T)) → Tr (AO T) → Tr (AO T)
  | [], t => t
  | (k, cs) :: l, t => (newT ρ nx l t).set (nx + k) (.cells cs.length (ofL (cs.map (ren1 ρ))) .any)
theorem newT_get {ρ : Nat → Nat} {nx : Nat} {t : Tr (AO T)} : ∀ (l : List (Nat × List (AV T))) (id : Nat), (∃ k cs, (k, cs) ∈ l ∧ id = nx + k ∧ (newT ρ nx l t).get id = some (.cells cs.length (ofL (cs.map (ren1 ρ))) .any)) ∨ ((∀ p ∈ l, id ≠ nx + p.1) ∧ (newT ρ nx l t).get id = t.get id)
  | [], id => .inr ⟨fun p h => by (cases h), rfl⟩
  | (k, cs) :: l, id => by
    rw [show newT ρ nx ((k, cs) :: l) t = (newT ρ nx l t).set (nx + k) (.cells cs.length (ofL (cs.map (ren1 ρ))) .any) from rfl, Tr.get_set]
    by_cases h : id = nx + k
    · rw [if_pos h]
      exact .inl ⟨k, cs, List.mem_cons_self, h, rfl⟩
    · rw [if_neg h]
      rcases newT_get (ρ := ρ) (nx := nx) (t := t) l id with ⟨k', cs', h1, h2, h3⟩ | ⟨h1, h2⟩
      · exact .inl ⟨k', cs', List.mem_cons_of_mem _ h1, h2, h3⟩
      · refine .inr ⟨fun p hp => ?_, h2⟩
        rcases List.mem_cons.1 hp with rfl | hp
        · exact h
        · exact h1 p hp
def grown (ρ : Nat → Nat) (e : Ent T) (hp : Hp T) : Hp T := ⟨hp.next + e.nx, newT ρ hp.next e.fos hp.objs, e.fos.map (fun p => hp.next + p.1) ++ hp.log⟩

/-- The objects there are as the entry has them. -/
structure Fits (e : Ent T) (σ : Nat → Nat) (hp : Hp T) : Prop where
  objs : ∀ (i : Nat) (cs : List (AV T)), e.objs[i]? = some cs → ∃ c d, hp.get (σ i) = some (.cells cs.length c d) ∧ ∀ (j : Nat) (x : AV T), cs[j]? = some x → cellAt c d j = ren1 σ x
  inj : ∀ i j, i < e.objs.length → j < e.objs.length → σ i = σ j → i = j
structure EntOk (e : Ent T) : Prop where
  as : e.as.all (ok2 e.objs.length) = true
  objs : ∀ (i : Nat) (cs : List (AV T)), e.objs[i]? = some cs → cs.all (ok1 e.objs.length) = true
  v : ok3 (e.objs.length + e.nx) e.v = true
  fos : ∀ p ∈ e.fos, p.1 < e.nx ∧ p.2.all (ok1 (e.objs.length + e.nx)) = true
structure RunOk (e : Ent T) (kh : Hp T) : Prop where
  next : kh.next = e.objs.length + e.nx
  objs : ∀ (i : Nat) (cs : List (AV T)), e.objs[i]? = some cs → ∃ c d, kh.get i = some (.cells cs.length c d) ∧ ∀ (j : Nat) (x : AV T), cs[j]? = some x → cellAt c d j = x
  fos : ∀ p ∈ e.fos, ∃ c d, look kh (e.objs.length + p.1) = some (p.2.length, c, d) ∧ ∀ (j : Nat) (x : AV T), p.2[j]? = some x → cellAt c d j = x
  keys : ∀ p ∈ e.fos, e.objs.length ≤ keyOf kh.get (e.objs.length + p.1)
  apart : ∀ p ∈ e.fos, ∀ q ∈ e.fos, p.1 ≠ q.1 → keyOf kh.get (e.objs.length + p.1) ≠ keyOf kh.get (e.objs.length + q.1)
/-- What such an entry says. -/
def DeepFact (P : Program) (E : Enc T) (e : Ent T) : Prop :=
  ∀ (lim : Nat) (M : Nat → Prop) (β : Nat → Option Hd) (hp : Hp T) (w : World) (vs : List Value) (σ : Nat → Nat), Now P E lim M β hp w → Fits e σ hp → hp.next + e.nx ≤ lim → LR P E w M β (e.as.map (ren2 σ)) vs →
    CallOk P e.f ∧ Calls P e.f vs.toArray w (Post P E lim M β hp w fun r => r = (ren3 (rho σ e.objs.length hp.next) e.v, grown (rho σ e.objs.length hp.next) e hp))

theorem deep_of_run {act : Tgt → List (AV T) → Hp T → Tree (AV T × Hp T)} (hA : ActOk P E act) {e : Ent T} (hE : EntOk e) {kh : Hp T} (hrun : act (.fn e.f) e.as (keyHp e.objs) = .leaf (e.v, kh)) (hR : RunOk e kh) : DeepFact P E e := by
  intro lim M β hp w vs σ hnow hF hlim hL
  generalize hm : e.objs.length = m at *
  -- the names and the blocks of the run by itself
  let βk : Nat → Option Hd := fun id => bif Nat.blt id m then β (σ id) else none
  have hβk : ∀ {id : Nat}, id < m → βk id = β (σ id) := fun {id} h => by
    have : Nat.blt id m = true := Nat.ble_eq_true_of_le h
    simp [βk, this]
  have hβk' : ∀ {id : Nat}, m ≤ id → βk id = none := fun {id} h => by
    have : Nat.blt id m = false := by
      cases hb : Nat.blt id m with
      | false => rfl
      | true => have := blt_lt hb; omega
    simp [βk, this]
  let Mk : Nat → Prop := fun b => ∃ id h, id < m ∧ β (σ id) = some h ∧ h.block = b
  have kget : ∀ {i : Nat} {o : AO T}, (keyHp e.objs).get i = some o → i < m ∧ ∃ cs, e.objs[i]? = some cs ∧ o = .cells cs.length (ofL cs) .any := fun {i o} h => by
    obtain ⟨_, cs, h2, h3⟩ := keyTr_get e.objs 0 i o h
    rw [Nat.sub_zero] at h2
    refine ⟨?_, cs, h2, h3⟩
    rw [← hm]
    exact (List.getElem?_eq_some_iff.1 h2).1
  have klive : ∀ {i : Nat}, Live (keyHp e.objs).get i → i < m := fun {i} h => by
    obtain ⟨o, ho⟩ := h.some
    exact (kget ho).1
  have kcs : ∀ {i : Nat}, i < m → ∃ cs, e.objs[i]? = some cs := fun {i} h => ⟨_, List.getElem?_eq_getElem (by omega)⟩
  -- the actual objects
  have alive : ∀ {i : Nat}, i < m → Live hp.get (σ i) ∧ keyOf hp.get (σ i) = σ i ∧ ∃ hd, β (σ i) = some hd := fun {i} h => by
    obtain ⟨cs, hcs⟩ := kcs h
    obtain ⟨c, d, h1, h2⟩ := hF.objs i cs hcs
    have hl : Live hp.get (σ i) := by unfold Live; rw [h1]; trivial
    obtain ⟨hd, h3, _⟩ := hnow.heap.obj _ _ hl h1
    exact ⟨hl, by unfold keyOf; rw [h1], hd, h3⟩
  have hMk : ∀ {b : Nat}, Mk b → M b := by
    rintro b ⟨id, h, h1, h2, rfl⟩
    exact hnow.heap.own _ _ (alive h1).1 h2
  have hnowk : Now P E kh.next Mk βk (keyHp e.objs) w := by
    refine ⟨⟨fun id o hl ho => ?_, fun i j hi hj hli hlj hne h1 h2 => ?_, fun i h hl h1 => ?_, fun f hd s sh nh ns ch cs dh ds hh hs k1 => ?_⟩, fun b hb => hnow.nb b (hMk hb), fun id h1 h2 => ⟨hβk' (by rw [← hm]; exact h1), ?_⟩, fun f hd s sh h => ?_⟩
    · obtain ⟨hlt, cs, hcs, rfl⟩ := kget ho
      obtain ⟨c, d, h1, h2⟩ := hF.objs id cs hcs
      obtain ⟨hd, h3, vs', el, g1, g2, g3, g4⟩ := hnow.heap.obj _ _ (alive hlt).1 h1
      refine ⟨hd, (hβk hlt).trans h3, vs', el, g1, g2, g3, fun j hj => ?_⟩
      have hx : cs[j]? = some cs[j] := List.getElem?_eq_getElem hj
      have := g4 j hj
      rw [h2 j _ hx] at this
      rw [ofL_get cs .any j hj]
      have e1 : cs.getD j .any = cs[j] := by simp [List.getD, hj]
      rw [e1]
      exact RV.unren1 this (all_get (hE.objs id cs hcs) hx) (fun id hd h k => by rw [hm] at h; rw [hβk h]; exact k)
    · have hi' := klive hli
      have hj' := klive hlj
      rw [hβk hi'] at h1
      rw [hβk hj'] at h2
      have kk : ∀ {i}, Live (keyHp e.objs).get i → keyOf (keyHp e.objs).get i = i := fun {i} h => by
        obtain ⟨o, ho⟩ := h.some
        obtain ⟨_, cs, _, rfl⟩ := kget ho
        unfold keyOf
        rw [ho]
      rw [kk hli, kk hlj] at hne
      refine hnow.heap.inj _ _ _ _ (alive hi').1 (alive hj').1 ?_ h1 h2
      rw [(alive hi').2.1, (alive hj').2.1]
      exact fun hc => hne (hF.inj i j (by omega) (by omega) hc)
    · have hi' := klive hl
      rw [hβk hi'] at h1
      exact ⟨i, h, hi', h1, rfl⟩
    · obtain ⟨_, _, _, h⟩ := kget k1
      cases h
    · cases ho : (keyHp e.objs).get id with
      | none => rfl
      | some o =>
        have := (kget ho).1
        have h1 : e.objs.length ≤ id := h1
        omega
    · obtain ⟨_, _, _, h⟩ := kget h
      cases h
  have hLk : LR P E w Mk βk e.as vs := by
    refine ⟨by have := hL.1; simpa using this, fun j c v hc hv => ?_⟩
    exact RV.unren2 (hL.2 j (ren2 σ c) v (by rw [List.getElem?_map, hc]; rfl) hv) (all_get hE.as hc) (fun id hd h k => by rw [hm] at h; rw [hβk h]; exact k)
  obtain ⟨q1, q2⟩ := hA kh.next Mk βk (keyHp e.objs) w (.fn e.f) e.as vs (fun r => r = (e.v, kh)) hnowk hLk (by rw [hrun]; exact ⟨Nat.le_refl _, rfl⟩)
  refine ⟨q1, q2.mono fun en w' ⟨u, M', β', r, he, hS, hu, hr⟩ => ?_⟩
  subst hr
  have hkn : kh.next = m + e.nx := by rw [← hm]; exact hR.next
  have hk0 : (keyHp e.objs).next = m := hm
  -- the names now
  have nm : ∀ {id : Nat} {h : Hd}, β' id = some h → (id < m ∧ β (σ id) = some h) ∨ (m ≤ id ∧ id < m + e.nx) := fun {id h} hb => by
    rcases hS.evo.nm id h hb with h1 | ⟨h1, h2⟩
    · by_cases hlt : id < m
      · exact .inl ⟨hlt, by rw [← hβk hlt]; exact h1⟩
      · rw [hβk' (by omega)] at h1; cases h1
    · exact .inr ⟨by rw [hk0] at h1; exact h1, by omega⟩
  let β2 : Nat → Option Hd := fun id => bif Nat.ble hp.next id && Nat.blt id (hp.next + e.nx) then β' (id - hp.next + m) else β id
  have win : ∀ {id : Nat}, hp.next ≤ id → id < hp.next + e.nx → β2 id = β' (id - hp.next + m) := fun {id} h1 h2 => by
    have a : Nat.ble hp.next id = true := Nat.ble_eq_true_of_le h1
    have b : Nat.blt id (hp.next + e.nx) = true := Nat.ble_eq_true_of_le h2
    simp [β2, a, b]
  have nowin : ∀ {id : Nat}, ¬ (hp.next ≤ id ∧ id < hp.next + e.nx) → β2 id = β id := fun {id} h => by
    cases a : Nat.ble hp.next id with
    | false => simp [β2, a]
    | true =>
      cases b : Nat.blt id (hp.next + e.nx) with
      | false => simp [β2, b]
      | true => exact absurd ⟨Nat.le_of_ble_eq_true a, blt_lt b⟩ h
  have oldn : ∀ {id : Nat} {h : Hd}, β id = some h → ¬ (hp.next ≤ id ∧ id < hp.next + e.nx) := fun {id h} hb hc => by
    have := (hnow.free id hc.1 (by omega)).1
    rw [this] at hb; cases hb
  have hβ2 : ∀ id hd, β' id = some hd → β2 (rho σ m hp.next id) = some hd := fun id hd hb => by
    rcases nm hb with ⟨h1, h2⟩ | ⟨h1, h2⟩
    · rw [rho_lt h1, nowin (oldn h2)]; exact h2
    · rw [rho_ge h1, win (by omega) (by omega), show hp.next + (id - m) - hp.next + m = id by omega]; exact hb
  let hp2 := grown (rho σ m hp.next) e hp
  let M2 : Nat → Prop := fun b => M b ∨ (M' b ∧ w.heap.size ≤ b)
  have ownk : ∀ {b : Nat}, Own (keyHp e.objs).get βk b → ∃ i hd, i < m ∧ β (σ i) = some hd ∧ hd.block = b := by
    rintro b ⟨i, hd, h1, h2, h3⟩
    have := klive h1
    rw [hβk this] at h2
    exact ⟨i, hd, this, h2, h3⟩
  have hold : ∀ b, b < w.heap.size → ¬ Mk b → w'.heap[b]? = w.heap[b]? := fun b hb hn => hS.evo.old b hb (fun ho => by
    obtain ⟨i, hd, h1, h2, h3⟩ := ownk ho
    exact hn ⟨i, hd, h1, h2, h3⟩)
  have hst : Stab w M β w' M2 β2 := ⟨fun b o hn hb => World.cell?_of_block (w := w) (hold b hb fun h => hn (hMk h)), hS.evo.size, fun b hb => hb.imp (fun h => h) (fun h => h.2), fun id h hb => by rw [nowin (oldn hb)]; exact hb⟩
  -- fresh objects
  have fresh : ∀ {k : Nat} {cs : List (AV T)}, (k, cs) ∈ e.fos → k < e.nx ∧ ∃ hd, β' (m + k) = some hd ∧ β2 (hp.next + k) = some hd ∧ Live kh.get (m + k) ∧ w.heap.size ≤ hd.block ∧ M' hd.block ∧ ObjRel P E w' M2 β2 (.cells cs.length (ofL (cs.map (ren1 (rho σ m hp.next)))) .any) hd := fun {k cs} hmem => by
    obtain ⟨h1, h2⟩ := hE.fos _ hmem
    have h1 : k < e.nx := h1
    obtain ⟨c, d, h3, h4⟩ := hR.fos _ hmem
    rw [hm] at h3 h2
    obtain ⟨hd, cur, el, g1, g2, g3, g4, g5⟩ := look_at hS.now.heap h3
    have h6 : w.heap.size ≤ hd.block := by
      rcases hS.evo.own hd.block ⟨m + k, hd, g1, g2, rfl⟩ with ho | ho
      · obtain ⟨i, hi, k1, k2, k3⟩ := ownk ho
        obtain ⟨cs', hcs'⟩ := kcs k1
        obtain ⟨c', d', k4, _⟩ := hR.objs i cs' hcs'
        have hli : Live kh.get i := by unfold Live; rw [k4]; trivial
        have hbi : β' i = some hi := hS.evo.hd i hi (by rw [hβk k1]; exact k2)
        refine absurd k3 (hS.now.heap.inj i (m + k) hi hd hli g1 ?_ hbi g2)
        show keyOf kh.get i ≠ keyOf kh.get (m + k)
        have e1 : keyOf kh.get i = i := by unfold keyOf; rw [k4]
        have e2 := hR.keys _ hmem
        rw [hm] at e2
        have e2 : m ≤ keyOf kh.get (m + k) := e2
        rw [e1]
        omega
      · exact ho
    refine ⟨h1, hd, g2, ?_, g1, h6, hS.now.heap.own _ _ g1 g2, cur, el, g3, g4, Nat.le_refl _, fun j hj => ?_⟩
    · rw [win (by omega) (by omega), show hp.next + k - hp.next + m = m + k by omega]; exact g2
    · rw [ofL_get _ .any j (by simpa using hj)]
      have hx : cs[j]? = some cs[j] := List.getElem?_eq_getElem hj
      have e1 : (cs.map (ren1 (rho σ m hp.next))).getD j .any = ren1 (rho σ m hp.next) cs[j] := by simp [List.getD, hj]
      rw [e1]
      have := g5 j hj
      rw [h4 j _ hx] at this
      exact RV.ren1 this (all_get h2 hx) fun id hd _ hb => hβ2 id hd hb
  have get2 : ∀ id, (∃ k cs, (k, cs) ∈ e.fos ∧ id = hp.next + k ∧ hp2.get id = some (.cells cs.length (ofL (cs.map (ren1 (rho σ m hp.next)))) .any)) ∨ ((∀ p ∈ e.fos, id ≠ hp.next + p.1) ∧ hp2.get id = hp.get id) := fun id => newT_get e.fos id
  -- an old object that lives now lived then
  have live2 : ∀ {id : Nat}, Live hp2.get id → (∃ k cs, (k, cs) ∈ e.fos ∧ id = hp.next + k ∧ hp2.get id = some (.cells cs.length (ofL (cs.map (ren1 (rho σ m hp.next)))) .any)) ∨ (Live hp.get id ∧ hp2.get id = hp.get id ∧ keyOf hp2.get id = keyOf hp.get id) := fun {id} hl => by
    rcases get2 id with h | ⟨h1, h2⟩
    · exact .inl h
    · refine .inr ⟨?_, h2, by unfold keyOf; rw [h2]⟩
      unfold Live at hl ⊢
      rw [h2] at hl
      split at hl
      · trivial
      · trivial
      · rename_i n c d f ho
        obtain ⟨hd, sh, h3, h4⟩ := hl
        rcases get2 f with ⟨k, cs, _, _, h5⟩ | ⟨_, h5⟩
        · rw [h5] at h3; cases h3
        · rw [h5] at h3
          exact ⟨hd, sh, h3, h4⟩
      · exact hl.elim
  have keyf : ∀ {k : Nat} {cs : List (AV T)} {id : Nat}, hp2.get id = some (.cells cs.length (ofL (cs.map (ren1 (rho σ m hp.next)))) .any) → keyOf hp2.get id = id := fun {k cs id} h => by unfold keyOf; rw [h]
  refine ⟨u, M2, β2, _, he, ⟨⟨hS.evo.os, hS.evo.tape, hS.evo.output, hS.evo.size, fun b hb hn => hold b hb ?_, fun b hb => hb.imp (fun h => h) (fun h => h.2), fun b hb _ => .inl hb, ?_, fun id h hb => by rw [nowin (oldn hb)]; exact hb, ?_⟩, ?_, Nat.le_add_right _ _⟩, RV.ren3 (m := m + e.nx) hu (by rw [← hm]; exact hE.v) (fun id hd _ hb => hβ2 id hd hb), rfl⟩
  · rintro ⟨i, hd, h1, h2, h3⟩
    exact hn ⟨σ i, hd, (alive h1).1, h2, h3⟩
  · rintro b ⟨id, hd, h1, h2, rfl⟩
    rcases live2 h1 with ⟨k, cs, h3, rfl, _⟩ | ⟨h3, _, _⟩
    · obtain ⟨_, hd', _, h5, _, h6, _⟩ := fresh h3
      rw [h5] at h2
      cases h2
      exact .inr h6
    · obtain ⟨o, ho⟩ := h3.some
      obtain ⟨hd', h4, _⟩ := hnow.heap.obj id o h3 ho
      rw [nowin (oldn h4)] at h2
      exact .inl ⟨id, hd, h3, h2, rfl⟩
  · intro id h hb
    by_cases hw : hp.next ≤ id ∧ id < hp.next + e.nx
    · exact .inr ⟨hw.1, by omega⟩
    · rw [nowin hw] at hb; exact .inl hb
  · refine ⟨⟨fun id o hl ho => ?_, fun i j hi hj hli hlj hne h1 h2 => ?_, fun i h hl h1 => ?_, fun f hd s sh nh ns ch cs dh ds hh hs k1 k2 k3 k4 k5 k6 k7 => ?_⟩, fun b hb => ?_, fun id h1 h2 => ?_, fun f hd s sh h1 h2 h3 h4 => ?_⟩
    · rcases live2 hl with ⟨k, cs, h3, rfl, h4⟩ | ⟨h3, h4, _⟩
      · rw [h4] at ho
        cases ho
        obtain ⟨_, hd, _, h5, _, _, _, h8⟩ := fresh h3
        exact ⟨hd, h5, h8⟩
      · rw [h4] at ho
        obtain ⟨hd, h5, h6⟩ := hnow.heap.obj id o h3 ho
        refine ⟨hd, by rw [nowin (oldn h5)]; exact h5, ?_⟩
        by_cases hq : ∃ i, i < m ∧ σ i = id
        · obtain ⟨i, hi, rfl⟩ := hq
          obtain ⟨cs, hcs⟩ := kcs hi
          obtain ⟨c, d, k1, k2⟩ := hF.objs i cs hcs
          rw [k1] at ho
          cases ho
          obtain ⟨c', d', k3, k4⟩ := hR.objs i cs hcs
          have hli : Live kh.get i := by unfold Live; rw [k3]; trivial
          obtain ⟨hd', k5, vs', el, g1, g2, g3, g4⟩ := hS.now.heap.obj i _ hli k3
          have : β' i = some hd := hS.evo.hd i hd (by rw [hβk hi]; exact h5)
          obtain rfl : hd' = hd := Option.some.inj (k5.symm.trans this)
          refine ⟨vs', el, g1, g2, g3, fun j hj => ?_⟩
          have hx : cs[j]? = some cs[j] := List.getElem?_eq_getElem hj
          rw [k2 j _ hx]
          have hok := all_get (hE.objs i cs hcs) hx
          rw [hm] at hok
          rw [← ren1_congr hok fun id h => rho_lt (nx := hp.next) h]
          have := g4 j hj
          rw [k4 j _ hx] at this
          exact RV.ren1 this hok fun id hd _ hb => hβ2 id hd hb
        · refine h6.stab hst (hold _ (hnow.nb _ (hnow.heap.own id hd h3 h5)) ?_)
          rintro ⟨i, hd', h7, h8, h9⟩
          refine hnow.heap.inj (σ i) id hd' hd (alive h7).1 h3 ?_ h8 h5 h9
          rw [(alive h7).2.1]
          intro hc
          -- the key of what is no cells object is a family
          have hfam : keyOf hp.get id = id ∨ ∃ n c d f, hp.get id = some (.grow n c d f) ∧ keyOf hp.get id = f := by
            unfold keyOf
            split
            · rename_i n c d f hg
              exact .inr ⟨n, c, d, f, hg, rfl⟩
            · exact .inl rfl
          rcases hfam with hk | ⟨n, c, d, f, hg, hk⟩
          · exact hq ⟨i, h7, by rw [hc, hk]⟩
          · rw [hk] at hc
            obtain ⟨cs, hcs⟩ := kcs h7
            obtain ⟨c1, d1, k1, _⟩ := hF.objs i cs hcs
            unfold Live at h3
            rw [hg] at h3
            obtain ⟨hd2, sh, h10, _⟩ := h3
            rw [hc, h10] at k1
            cases k1
    · rcases live2 hli with ⟨k, cs, h3, rfl, h4⟩ | ⟨h3, h4, h5⟩
      · obtain ⟨_, hd, g0, g1, g2, g3, _⟩ := fresh h3
        obtain rfl : hd = hi := Option.some.inj (g1.symm.trans h1)
        rcases live2 hlj with ⟨k', cs', h3', rfl, h4'⟩ | ⟨h3', h4', h5'⟩
        · obtain ⟨_, hd', g0', g1', g2', g3', _⟩ := fresh h3'
          obtain rfl : hd' = hj := Option.some.inj (g1'.symm.trans h2)
          refine hS.now.heap.inj _ _ _ _ g2 g2' ?_ g0 g0'
          have := hR.apart _ h3 _ h3'
          rw [hm] at this
          refine this fun hc => ?_
          have hc : k = k' := hc
          subst hc
          exact hne rfl
        · obtain ⟨o, ho⟩ := h3'.some
          obtain ⟨hd', k1, _⟩ := hnow.heap.obj j o h3' ho
          rw [nowin (oldn k1)] at h2
          have := hnow.nb _ (hnow.heap.own j hj h3' h2)
          omega
      · obtain ⟨o, ho⟩ := h3.some
        obtain ⟨hd', k1, _⟩ := hnow.heap.obj i o h3 ho
        rw [nowin (oldn k1)] at h1
        rcases live2 hlj with ⟨k', cs', h3', rfl, h4'⟩ | ⟨h3', h4', h5'⟩
        · obtain ⟨_, hd2, g0', g1', g2', g3', _⟩ := fresh h3'
          obtain rfl : hd2 = hj := Option.some.inj (g1'.symm.trans h2)
          have := hnow.nb _ (hnow.heap.own i hi h3 h1)
          omega
        · obtain ⟨o', ho'⟩ := h3'.some
          obtain ⟨hd2, k2, _⟩ := hnow.heap.obj j o' h3' ho'
          rw [nowin (oldn k2)] at h2
          rw [h5, h5'] at hne
          exact hnow.heap.inj i j hi hj h3 h3' hne h1 h2
    · rcases live2 hl with ⟨k, cs, h3, rfl, h4⟩ | ⟨h3, _, _⟩
      · obtain ⟨_, hd, g0, g1, g2, g3, g4, _⟩ := fresh h3
        obtain rfl : hd = h := Option.some.inj (g1.symm.trans h1)
        exact .inr ⟨g4, g3⟩
      · obtain ⟨o, ho⟩ := h3.some
        obtain ⟨hd', k1, _⟩ := hnow.heap.obj i o h3 ho
        rw [nowin (oldn k1)] at h1
        exact .inl (hnow.heap.own i h h3 h1)
    · have back : ∀ {id : Nat} {o : AO T}, hp2.get id = some o → (∀ n c d, o ≠ .cells n c d) → hp.get id = some o := fun {id o} h hn => by
        rcases get2 id with ⟨k, cs, _, _, h5⟩ | ⟨_, h5⟩
        · rw [h5] at h; cases h; exact absurd rfl (hn _ _ _)
        · rw [← h5]; exact h
      have b1 := back k1 (fun _ _ _ h => by cases h)
      have b3 := back k3 (fun _ _ _ h => by cases h)
      have b4 := back k4 (fun _ _ _ h => by cases h)
      have out : ∀ {x : Nat}, x = hd ∨ x ∈ sh → ¬ (hp.next ≤ x ∧ x < hp.next + e.nx) := fun hx hw => hnow.nomem f hd _ sh b1 hx hw.1 (by omega)
      rw [nowin (out (.inl rfl))] at k5
      rw [nowin (out (.inr k2))] at k6
      exact hnow.heap.shade f hd s sh nh ns ch cs dh ds hh hs b1 k2 b3 b4 k5 k6 k7
    · rcases hb with hb | hb
      · exact Nat.lt_of_lt_of_le (hnow.nb b hb) hS.evo.size
      · exact hS.now.nb b hb.1
    · have h1 : hp.next + e.nx ≤ id := h1
      refine ⟨by rw [nowin (by omega)]; exact (hnow.free id (by omega) h2).1, ?_⟩
      rcases get2 id with ⟨k, cs, h3, h4, _⟩ | ⟨_, h5⟩
      · have := (fresh h3).1; omega
      · rw [h5]; exact (hnow.free id (by omega) h2).2
    · have h3 : hp.next + e.nx ≤ s := h3
      rcases get2 f with ⟨k, cs, _, _, h5⟩ | ⟨_, h5⟩
      · rw [h5] at h1; cases h1
      · rw [h5] at h1
        exact hnow.nomem f hd s sh h1 h2 (by omega) h4
end Go.Bx
