/- Columns as words. No condition. -/
import Derived.Test.YtnhedcaphncliaaH7
set_option linter.unusedVariables false
set_option maxRecDepth 100000
noncomputable section
namespace Go.Proofs.Ytnhedcaphncliaa.W.Hole
open Go Go.Cx Go.RowKit
noncomputable def wd : List Slug → List Int
  | [] => []
  | s :: r => List.replicate s.Volume.toNat s.Weight ++ wd r
theorem wd_app : ∀ (l m : List Slug), wd (l ++ m) = wd l ++ wd m
  | [], _ => rfl
  | s :: r, m => by
    show List.replicate s.Volume.toNat s.Weight ++ wd (r ++ m) = (List.replicate s.Volume.toNat s.Weight ++ wd r) ++ wd m
    rw [wd_app r m, List.append_assoc]
theorem wd_one (s : Slug) : wd [s] = List.replicate s.Volume.toNat s.Weight := List.append_nil _
theorem wd_len : ∀ {l : List Slug}, (∀ s ∈ l, 0 ≤ s.Volume) → ((wd l).length : Int) = sumV l
  | [], _ => rfl
  | s :: r, h => by
    have h1 := h s (List.mem_cons_self ..)
    have h2 := wd_len (l := r) fun t ht => h t (List.mem_cons_of_mem _ ht)
    show ((List.replicate s.Volume.toNat s.Weight ++ wd r).length : Int) = s.Volume + sumV r
    rw [List.length_append, List.length_replicate]
    omega
theorem wd_mem {s : Slug} : ∀ {l : List Slug}, s ∈ l → 1 ≤ s.Volume → s.Weight ∈ wd l
  | x :: r, h, hv => by
    show s.Weight ∈ List.replicate x.Volume.toNat x.Weight ++ wd r
    cases h with
    | head => exact List.mem_append_left _ (List.mem_replicate.2 ⟨by omega, rfl⟩)
    | tail _ h => exact List.mem_append_right _ (wd_mem h hv)
theorem wd_from {w : Int} : ∀ {l : List Slug}, w ∈ wd l → ∃ s ∈ l, s.Weight = w
  | [], h => by cases h
  | x :: r, h => by
    rcases List.mem_append.1 (show w ∈ List.replicate x.Volume.toNat x.Weight ++ wd r from h) with h | h
    · exact ⟨x, List.mem_cons_self .., (List.mem_replicate.1 h).2.symm⟩
    · obtain ⟨s, h1, h2⟩ := wd_from h
      exact ⟨s, List.mem_cons_of_mem _ h1, h2⟩
/-- Whether a list is plain. -/
def Pl : List Slug → Prop
  | [] => True
  | [s] => 1 ≤ s.Volume
  | s :: t :: r => 1 ≤ s.Volume ∧ s.Weight ≠ t.Weight ∧ Pl (t :: r)
theorem Pl.tl {s : Slug} : ∀ {r : List Slug}, Pl (s :: r) → Pl r
  | [], _ => trivial
  | t :: r, h => h.2.2
theorem Pl.hd {s : Slug} : ∀ {r : List Slug}, Pl (s :: r) → 1 ≤ s.Volume
  | [], h => h
  | t :: r, h => h.1
theorem Pl.mem : ∀ {l : List Slug}, Pl l → ∀ s ∈ l, 1 ≤ s.Volume
  | x :: r, h, s, hs => by
    cases hs with
    | head => exact h.hd
    | tail _ hs => exact Pl.mem h.tl s hs
theorem Pl_snoc : ∀ {p : List Slug} {t : Slug}, Pl (p ++ [t]) ↔ Pl p ∧ 1 ≤ t.Volume ∧ (∀ (q : List Slug) (u : Slug), p = q ++ [u] → u.Weight ≠ t.Weight)
  | [], t => ⟨fun h => ⟨trivial, h, fun q u e => by cases q <;> cases e⟩, fun h => h.2.1⟩
  | [x], t => ⟨fun h => ⟨h.1, h.2.2, fun q u e => by
      cases q with
      | nil => cases e; exact h.2.1
      | cons y q => cases q <;> cases e⟩, fun h => ⟨h.1, h.2.2 [] x rfl, h.2.1⟩⟩
  | x :: y :: r, t => by
    have ih := Pl_snoc (p := y :: r) (t := t)
    constructor
    · intro h
      obtain ⟨a, b, c⟩ := ih.1 h.2.2
      refine ⟨⟨h.1, h.2.1, a⟩, b, fun q u e => ?_⟩
      cases q with
      | nil => cases e
      | cons z q => exact c q u (List.cons.inj e).2
    · intro h
      exact ⟨h.1.1, h.1.2.1, ih.2 ⟨h.1.2.2, h.2.1, fun q u e => h.2.2 (x :: q) u (by rw [e]; rfl)⟩⟩
/-- A word that starts with some of one, and goes on otherwise. -/
theorem rep_le {w : Int} {n m : Nat} {a b : List Int} (e : List.replicate n w ++ a = List.replicate m w ++ b) (h : ∀ r, b ≠ w :: r) : n ≤ m := by
  rcases Nat.lt_or_ge m n with k | k
  · exfalso
    obtain ⟨d, rfl⟩ : ∃ d, n = m + (d + 1) := ⟨n - m - 1, by omega⟩
    rw [← List.replicate_append_replicate, List.append_assoc] at e
    exact h _ (List.append_cancel_left e).symm
  · exact k
theorem Pl.go {s : Slug} : ∀ {r : List Slug}, Pl (s :: r) → ∀ x, wd r ≠ s.Weight :: x
  | [], _, x => by intro e; cases e
  | t :: r, h, x => by
    intro e
    have ht := h.2.2.hd
    have e : List.replicate t.Volume.toNat t.Weight ++ wd r = s.Weight :: x := e
    obtain ⟨n, hn⟩ : ∃ n, t.Volume.toNat = n + 1 := ⟨t.Volume.toNat - 1, by omega⟩
    rw [hn, List.replicate_succ] at e
    exact h.2.1 (List.cons.inj e).1.symm
theorem Pl.uniq : ∀ {l m : List Slug}, Pl l → Pl m → wd l = wd m → l = m
  | [], [], _, _, _ => rfl
  | [], t :: m, _, hm, e => by
    have ht := hm.hd
    obtain ⟨n, hn⟩ : ∃ n, t.Volume.toNat = n + 1 := ⟨t.Volume.toNat - 1, by omega⟩
    have e : ([] : List Int) = List.replicate t.Volume.toNat t.Weight ++ wd m := e
    rw [hn, List.replicate_succ] at e
    cases e
  | s :: l, [], hl, _, e => by
    have ht := hl.hd
    obtain ⟨n, hn⟩ : ∃ n, s.Volume.toNat = n + 1 := ⟨s.Volume.toNat - 1, by omega⟩
    have e : List.replicate s.Volume.toNat s.Weight ++ wd l = ([] : List Int) := e
    rw [hn, List.replicate_succ] at e
    cases e
  | s :: l, t :: m, hl, hm, e => by
    have hs := hl.hd
    have ht := hm.hd
    have e : List.replicate s.Volume.toNat s.Weight ++ wd l = List.replicate t.Volume.toNat t.Weight ++ wd m := e
    have ew : s.Weight = t.Weight := by
      obtain ⟨n, hn⟩ : ∃ n, s.Volume.toNat = n + 1 := ⟨s.Volume.toNat - 1, by omega⟩
      obtain ⟨k, hk⟩ : ∃ k, t.Volume.toNat = k + 1 := ⟨t.Volume.toNat - 1, by omega⟩
      rw [hn, hk, List.replicate_succ, List.replicate_succ] at e
      exact (List.cons.inj e).1
    have g1 := hl.go
    have g2 := hm.go
    rw [ew] at e g1
    have n1 := rep_le e g2
    have n2 := rep_le e.symm g1
    have en : s.Volume.toNat = t.Volume.toNat := by omega
    rw [en] at e
    have er := hl.tl.uniq hm.tl (List.append_cancel_left e)
    obtain ⟨a, b⟩ := s
    obtain ⟨c, d⟩ := t
    dsimp only at *
    rw [er, ew, show b = d by omega]
/-! ### what is made plain -/
theorem zi_last {p : List Slug} {t : Slug} : ixD E 47 (p ++ [t]) (((p ++ [t]).length : Int) - 1) = t := by
  have e : (((p ++ [t]).length : Int) - 1).toNat = p.length := by simp only [List.length_append, List.length_cons, List.length_nil]; omega
  show Option.getD ((p ++ [t] : List Slug)[(((p ++ [t]).length : Int) - 1).toNat]?) (⟨0, 0⟩ : Slug) = t
  rw [e, List.getElem?_append_right (Nat.le_refl _), Nat.sub_self]
  rfl
theorem snoc_of {q : List Slug} (h : 0 < q.length) : ∃ p t, q = p ++ [t] := ⟨q.dropLast, q.getLast (List.ne_nil_of_length_pos h), (List.dropLast_concat_getLast _).symm⟩
theorem set_last {p : List Slug} {t x : Slug} : (p ++ [t]).set (((p ++ [t]).length : Int) - 1).toNat x = p ++ [x] := by
  have e : (((p ++ [t]).length : Int) - 1).toNat = p.length := by simp only [List.length_append, List.length_cons, List.length_nil]; omega
  rw [e, List.set_append_right _ _ (Nat.le_refl _), Nat.sub_self]
  rfl
theorem sumV_app : ∀ (l m : List Slug), sumV (l ++ m) = sumV l + sumV m
  | [], m => by show sumV m = 0 + sumV m; omega
  | x :: r, m => by
    show x.Volume + sumV (r ++ m) = x.Volume + sumV r + sumV m
    rw [sumV_app r m]
    omega
theorem sumV_0 : ∀ {l : List Slug}, (∀ s ∈ l, 0 ≤ s.Volume) → 0 ≤ sumV l
  | [], _ => by decide
  | s :: r, h => by
    have h1 := h s (List.mem_cons_self ..)
    have h2 := sumV_0 (l := r) fun t ht => h t (List.mem_cons_of_mem _ ht)
    show 0 ≤ s.Volume + sumV r
    omega
theorem stz_wd {q : List Slug} {s : Slug} (hq : Pl q) (hs : 0 ≤ s.Volume ∧ s.Volume ≤ 1099511627776) (hb : sumV q ≤ 1099511627776) : Pl (stz q s) ∧ wd (stz q s) = wd q ++ List.replicate s.Volume.toNat s.Weight ∧ sumV (stz q s) = sumV q + s.Volume := by
  rcases Int.lt_or_le s.Volume 1 with k | k
  · rw [stz_no (by unfold vOk; omega), show s.Volume.toNat = 0 by omega]
    exact ⟨hq, (List.append_nil _).symm, by omega⟩
  · have v : vOk s := ⟨k, hs.2⟩
    by_cases c : 0 < q.length ∧ (ixD E 47 q ((q.length : Int) - 1)).Weight = s.Weight
    · rw [stz_set v c.1 c.2]
      obtain ⟨p, t, rfl⟩ := snoc_of c.1
      have c2 := c.2
      rw [zi_last] at c2
      obtain ⟨a, b, d⟩ := Pl_snoc.1 hq
      have n := sumV_0 (l := p) fun s hs => by have := Pl.mem a s hs; omega
      have e0 : ∀ x : Slug, sumV [x] = x.Volume := fun x => Int.add_zero _
      rw [sumV_app, e0] at hb
      have e : wr (t.Volume + s.Volume) = t.Volume + s.Volume := i64_in' (by omega) (by omega)
      rw [set_last]
      show Pl (p ++ [⟨(ixD E 47 (p ++ [t]) (((p ++ [t]).length : Int) - 1)).Weight, wr ((ixD E 47 (p ++ [t]) (((p ++ [t]).length : Int) - 1)).Volume + s.Volume)⟩]) ∧ wd (p ++ [⟨(ixD E 47 (p ++ [t]) (((p ++ [t]).length : Int) - 1)).Weight, wr ((ixD E 47 (p ++ [t]) (((p ++ [t]).length : Int) - 1)).Volume + s.Volume)⟩]) = _ ∧ sumV (p ++ [⟨(ixD E 47 (p ++ [t]) (((p ++ [t]).length : Int) - 1)).Weight, wr ((ixD E 47 (p ++ [t]) (((p ++ [t]).length : Int) - 1)).Volume + s.Volume)⟩]) = _
      rw [zi_last, e, wd_app, wd_app, wd_one, wd_one, sumV_app, sumV_app, e0, e0, List.append_assoc]
      refine ⟨Pl_snoc.2 ⟨a, by show (1 : Int) ≤ t.Volume + s.Volume; omega, d⟩, ?_, by dsimp only; omega⟩
      dsimp only
      rw [← c2, List.replicate_append_replicate, show (t.Volume + s.Volume).toNat = t.Volume.toNat + s.Volume.toNat by omega]
    · rw [stz_app v c, wd_app, wd_one, sumV_app]
      refine ⟨Pl_snoc.2 ⟨hq, k, fun p u e he => c ?_⟩, rfl, by show _ + (s.Volume + 0) = _; omega⟩
      subst e
      rw [zi_last]
      exact ⟨by simp, he⟩
theorem plz_wd : ∀ {l q : List Slug}, Pl q → (∀ s ∈ l, 0 ≤ s.Volume) → sumV q + sumV l ≤ 1099511627776 → Pl (plz l q) ∧ wd (plz l q) = wd q ++ wd l
  | [], q, hq, _, _ => ⟨hq, (List.append_nil _).symm⟩
  | s :: r, q, hq, hl, hb => by
    have h1 := hl s (List.mem_cons_self ..)
    have hr : ∀ t ∈ r, 0 ≤ t.Volume := fun t ht => hl t (List.mem_cons_of_mem _ ht)
    have n := sumV_0 hr
    have n2 := sumV_0 (l := q) fun s hs => by have := Pl.mem hq s hs; omega
    have hb : sumV q + (s.Volume + sumV r) ≤ 1099511627776 := hb
    obtain ⟨a, b, c⟩ := stz_wd (s := s) hq ⟨h1, by omega⟩ (by omega)
    obtain ⟨d, e⟩ := plz_wd (l := r) a hr (by omega)
    refine ⟨d, ?_⟩
    show wd (plz r (stz q s)) = wd q ++ (List.replicate s.Volume.toNat s.Weight ++ wd r)
    rw [e, b, List.append_assoc]
theorem plz_id {l : List Slug} (h : Pl l) (hb : sumV l ≤ 1099511627776) : plz l [] = l := by
  obtain ⟨a, b⟩ := plz_wd (l := l) (q := []) trivial (fun s hs => by have := h.mem s hs; omega) (by show 0 + sumV l ≤ _; omega)
  exact a.uniq h b
/-! ### what is pumped -/
theorem mn_bd {m v : Int} (hm : 0 ≤ m) (hv : 0 ≤ v) : (0 ≤ mn m v ∧ mn m v ≤ m) ∧ mn m v ≤ v ∧ (mn m v = m ∨ mn m v = v) := by
  unfold mn
  split <;> omega
theorem pm_wd : ∀ {l : List Slug} {m : Int}, (∀ s ∈ l, 0 ≤ s.Volume ∧ s.Volume ≤ 4611686018427387904) → 0 ≤ m → m ≤ 4611686018427387904 → (wd (pmN l m) = (wd l).take m.toNat ∧ wd (pmO l m) = (wd l).drop m.toNat) ∧ (∀ s ∈ pmN l m, 0 ≤ s.Volume) ∧ (∀ s ∈ pmO l m, 0 ≤ s.Volume) ∧ (sumV (pmN l m) ≤ sumV l ∧ sumV (pmO l m) ≤ sumV l)
  | [], m, _, _, _ => ⟨⟨(List.take_nil).symm, (List.drop_nil).symm⟩, (fun _ h => by cases h), (fun _ h => by cases h), Int.le_refl _, Int.le_refl _⟩
  | s :: r, m, h, h0, h1 => by
    have hs := h s (List.mem_cons_self ..)
    have b := mn_bd h0 hs.1
    have e1 : wr (m - mn m s.Volume) = m - mn m s.Volume := i64_in' (by omega) (by omega)
    have e2 : wr (s.Volume - mn m s.Volume) = s.Volume - mn m s.Volume := i64_in' (by omega) (by omega)
    obtain ⟨⟨a1, a2⟩, a3, a4, a5, a6⟩ := pm_wd (l := r) (m := m - mn m s.Volume) (fun t ht => h t (List.mem_cons_of_mem _ ht)) (by omega) (by omega)
    have eN : pmN (s :: r) m = ⟨s.Weight, mn m s.Volume⟩ :: pmN r (m - mn m s.Volume) := by
      show ⟨s.Weight, mn m s.Volume⟩ :: pmN r (wr (m - mn m s.Volume)) = _
      rw [e1]
    have eO : pmO (s :: r) m = ⟨s.Weight, s.Volume - mn m s.Volume⟩ :: pmO r (m - mn m s.Volume) := by
      show ⟨s.Weight, wr (s.Volume - mn m s.Volume)⟩ :: pmO r (wr (m - mn m s.Volume)) = _
      rw [e1, e2]
    rw [eN, eO]
    refine ⟨⟨?_, ?_⟩, ?_, ?_, ?_, ?_⟩
    · show List.replicate (mn m s.Volume).toNat s.Weight ++ wd (pmN r (m - mn m s.Volume)) = (List.replicate s.Volume.toNat s.Weight ++ wd r).take m.toNat
      rw [a1, List.take_append, List.take_replicate, List.length_replicate, show min m.toNat s.Volume.toNat = (mn m s.Volume).toNat by omega, show m.toNat - s.Volume.toNat = (m - mn m s.Volume).toNat by omega]
    · show List.replicate (s.Volume - mn m s.Volume).toNat s.Weight ++ wd (pmO r (m - mn m s.Volume)) = (List.replicate s.Volume.toNat s.Weight ++ wd r).drop m.toNat
      rw [a2, List.drop_append, List.drop_replicate, List.length_replicate, show s.Volume.toNat - m.toNat = (s.Volume - mn m s.Volume).toNat by omega, show m.toNat - s.Volume.toNat = (m - mn m s.Volume).toNat by omega]
    · intro t ht
      cases ht with
      | head => exact b.1.1
      | tail _ ht => exact a3 t ht
    · intro t ht
      cases ht with
      | head => show (0 : Int) ≤ s.Volume - mn m s.Volume; omega
      | tail _ ht => exact a4 t ht
    · show mn m s.Volume + sumV (pmN r (m - mn m s.Volume)) ≤ s.Volume + sumV r
      omega
    · show s.Volume - mn m s.Volume + sumV (pmO r (m - mn m s.Volume)) ≤ s.Volume + sumV r
      omega
theorem pl_all : ∀ {l : List Slug}, Pl l → (∀ w ∈ wd l, 0 ≤ w ∧ w ≤ 40000) → allV l = true
  | [], _, _ => rfl
  | s :: r, h, hw => Bool.and_eq_true_iff.2 ⟨decide_eq_true ⟨hw _ (wd_mem (List.mem_cons_self ..) h.hd), h.hd⟩, pl_all h.tl fun w k => hw w (List.mem_append_right _ k)⟩
theorem vol_le : ∀ {l : List Slug}, allV l = true → ∀ s ∈ l, s.Volume ≤ sumV l
  | [], _, s, h => by cases h
  | x :: r, h, s, hs => by
    obtain ⟨h1, h2⟩ := Bool.and_eq_true_iff.1 h
    have h1 := of_decide_eq_true h1
    have n := sumV_nn h2
    show s.Volume ≤ x.Volume + sumV r
    have p : 1 ≤ x.Volume := h1.2
    cases hs with
    | head => omega
    | tail _ hs => have := vol_le h2 s hs; omega
/-- All that a pump does. -/
structure Pumped (h : List Seg) (l : List Slug) (w b : Int) : Prop where
  e : pmE h l w b = 0
  a : Pl (pmA h l w b)
  aw : wd (pmA h l w b) = List.replicate b.toNat w ++ (wd l).take (vol h - b).toNat
  o : Pl (pmB h l w b)
  ow : wd (pmB h l w b) = (wd l).drop (vol h - b).toNat
  len : (pmA h l w b).length ≤ l.length + 1
  lo : (pmB h l w b).length ≤ l.length
  c : cE h (pmA h l w b) = 0
  ob : sumV (pmB h l w b) = b
theorem pumped {h : List Seg} {l : List Slug} {w b : Int} (c : cE h l = 0) (hw : 0 ≤ w ∧ w ≤ 40000) (hb : 1 ≤ b ∧ b ≤ vol h) (hl : l.length ≤ 23) : Pumped h l w b := by
  obtain ⟨c1, c2, c3, c4⟩ := cE_len c
  have v := vol_bd h
  have m := allV_mem c3
  have e1 : wr (vol h - b) = vol h - b := i64_in' (by omega) (by omega)
  have vo : ∀ s ∈ l, 0 ≤ s.Volume ∧ s.Volume ≤ 4611686018427387904 := fun s hs => by
    have := m s hs
    have h2 := vol_le c3 s hs
    exact ⟨by omega, by omega⟩
  obtain ⟨⟨a1, a2⟩, a3, a4, a5, a6⟩ := pm_wd (m := vol h - b) vo (by omega) (by omega)
  have s0 : sumV (⟨w, b⟩ :: pmN l (vol h - b)) = b + sumV (pmN l (vol h - b)) := rfl
  have z : sumV ([] : List Slug) = 0 := rfl
  obtain ⟨p1, p2⟩ := plz_wd (l := ⟨w, b⟩ :: pmN l (vol h - b)) (q := []) trivial (fun s hs => by
    cases hs with
    | head => show (0 : Int) ≤ b; omega
    | tail _ hs => exact a3 s hs) (by omega)
  obtain ⟨p3, p4⟩ := plz_wd (l := pmO l (vol h - b)) (q := []) trivial a4 (by omega)
  have ln := plz_len (⟨w, b⟩ :: pmN l (vol h - b)) []
  have e0 : pmE h l w b = 0 := by
    unfold pmE
    rw [if_pos c, if_pos ⟨decide_eq_true hw, decide_eq_true hb⟩, e1]
    simp only [List.length_cons, List.length_nil, len_pmN] at ln
    rw [if_neg (by omega)]
  have eA : pmA h l w b = plz (⟨w, b⟩ :: pmN l (vol h - b)) [] := by unfold pmA; rw [if_pos e0, e1]
  have eB : pmB h l w b = plz (pmO l (vol h - b)) [] := by unfold pmB; rw [if_pos e0, e1]
  have aw : wd (pmA h l w b) = List.replicate b.toNat w ++ (wd l).take (vol h - b).toNat := by
    rw [eA, p2]
    show ([] : List Int) ++ (List.replicate b.toNat w ++ wd (pmN l (vol h - b))) = _
    rw [a1, List.nil_append]
  have ow : wd (pmB h l w b) = (wd l).drop (vol h - b).toNat := by
    rw [eB, p4, a2]
    rfl
  have pA : Pl (pmA h l w b) := by rw [eA]; exact p1
  have pB : Pl (pmB h l w b) := by rw [eB]; exact p3
  have wl : ((wd l).length : Int) = vol h := by rw [wd_len fun s hs => (vo s hs).1, c4]
  have nA := wd_len (l := pmA h l w b) fun s hs => by have := pA.mem s hs; omega
  have nB := wd_len (l := pmB h l w b) fun s hs => by have := pB.mem s hs; omega
  rw [aw, List.length_append, List.length_replicate, List.length_take] at nA
  rw [ow, List.length_drop] at nB
  have lA : (pmA h l w b).length ≤ l.length + 1 := by
    simp only [List.length_cons, List.length_nil, len_pmN] at ln
    rw [eA]
    omega
  have lB : (pmB h l w b).length ≤ l.length := by
    have := plz_len (pmO l (vol h - b)) []
    rw [len_pmO] at this
    have z : ([] : List Slug).length = 0 := rfl
    rw [eB]
    omega
  have sA : sumV (pmA h l w b) = vol h := by omega
  have l0 : 0 < (pmA h l w b).length := by
    rcases Nat.eq_zero_or_pos (pmA h l w b).length with k | k
    · rw [List.eq_nil_of_length_eq_zero k] at sA
      have : (0 : Int) = vol h := sA
      omega
    · exact k
  refine ⟨e0, pA, aw, pB, ow, lA, lB, ?_, by omega⟩
  have al : allV (pmA h l w b) = true := pl_all pA fun x hx => by
    rw [aw] at hx
    rcases List.mem_append.1 hx with hx | hx
    · rw [(List.mem_replicate.1 hx).2]; exact hw
    · obtain ⟨s, h1, h2⟩ := wd_from (List.mem_of_mem_take hx)
      have := (m s h1).1
      omega
  unfold cE
  rw [if_pos c1, if_neg (by omega), if_neg (by omega), if_pos al, sA, if_neg (by omega), if_neg (by omega)]
/-- What a plain list starts with. -/
theorem Pl.first {s : Slug} {r : List Slug} (h : Pl (s :: r)) {n : Nat} {w : Int} {x : List Int} (hn : 0 < n) (e : wd (s :: r) = List.replicate n w ++ x) : s.Weight = w ∧ (n : Int) ≤ s.Volume := by
  have hs := h.hd
  have e : List.replicate s.Volume.toNat s.Weight ++ wd r = List.replicate n w ++ x := e
  have ew : s.Weight = w := by
    obtain ⟨k, hk⟩ : ∃ k, s.Volume.toNat = k + 1 := ⟨s.Volume.toNat - 1, by omega⟩
    obtain ⟨j, rfl⟩ : ∃ j, n = j + 1 := ⟨n - 1, by omega⟩
    rw [hk, List.replicate_succ, List.replicate_succ] at e
    exact (List.cons.inj e).1
  have g := h.go
  rw [ew] at e g
  have := rep_le e.symm g
  exact ⟨ew, by omega⟩
theorem Pumped.first {h : List Seg} {l : List Slug} {w b : Int} (p : Pumped h l w b) (hb : 1 ≤ b) : 0 < (pmA h l w b).length ∧ (ixD E 47 (pmA h l w b) 0).Weight = w ∧ b ≤ (ixD E 47 (pmA h l w b) 0).Volume := by
  have l0 := (cE_len p.c).2.1.1
  have a := p.a
  have e := p.aw
  revert l0 a e
  cases pmA h l w b with
  | nil => intro l0; cases l0
  | cons s r =>
    intro l0 a e
    have := Pl.first a (n := b.toNat) (by omega) e
    exact ⟨l0, this.1, by show b ≤ s.Volume; omega⟩
/-- Two slugs of one weight, in either order. -/
theorem pumped_twice {h : List Seg} {l : List Slug} {w a b : Int} (c : cE h l = 0) (hw : 0 ≤ w ∧ w ≤ 40000) (ha : 1 ≤ a ∧ a ≤ vol h) (hb : 1 ≤ b ∧ b ≤ vol h) (hl : l.length ≤ 22) : pmA h (pmA h l w b) w a = pmA h (pmA h l w a) w b := by
  have pa := pumped c hw ha (by omega)
  have pb := pumped c hw hb (by omega)
  have pab := pumped pa.c hw hb (by have := pa.len; omega)
  have pba := pumped pb.c hw ha (by have := pb.len; omega)
  refine pba.a.uniq pab.a ?_
  rw [pba.aw, pab.aw, pa.aw, pb.aw]
  rw [List.take_append, List.take_append, List.take_replicate, List.take_replicate, List.length_replicate, List.length_replicate, List.take_take, List.take_take, ← List.append_assoc, ← List.append_assoc, List.replicate_append_replicate, List.replicate_append_replicate]
  rw [show a.toNat + min (vol h - a).toNat b.toNat = b.toNat + min (vol h - b).toNat a.toNat by omega, show min ((vol h - a).toNat - b.toNat) (vol h - b).toNat = min ((vol h - b).toNat - a.toNat) (vol h - a).toNat by omega]
end Go.Proofs.Ytnhedcaphncliaa.W.Hole
