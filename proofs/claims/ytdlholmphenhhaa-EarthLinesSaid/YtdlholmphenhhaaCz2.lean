/- The evaluator: forms of states. No condition. -/
import Derived.Test.YtdlholmphenhhaaCz1
set_option linter.unusedVariables false
noncomputable section
namespace Go.Cx
open Go.RowKit
variable {T : Nat → Type} {P : Program} {E : Enc T} {cl : Bool} {fuel : Nat}

/-! ### Forms of states: which temporaries matter, and what lies there -/
inductive V (T : Nat → Type) where
  | n (i : Int)
  | t (b : Bool)
  | l (τ : Nat) (xs : List (T τ))
inductive Sh1 where
  | i (k : IntKind)
  | b
  | s (τ : Nat)
  /-- the address of a cell of an object, by the object's number in the form -/
  | o (k off : Nat)
  | x
inductive Sh where
  | one (s : Sh1)
  | agg (cs : List Sh1)
structure Tmpl where
  nt : Nat
  tms : List (Nat × Sh)
  obs : List (List Sh1)

abbrev As := List (Nat × Nat)
def asOf (k : Nat) : As → Option Nat
  | [] => none
  | (j, id) :: as => bif Nat.beq k j then some id else asOf k as
def asHas (id : Nat) : As → Bool
  | [] => false
  | (_, x) :: as => bif Nat.beq id x then true else asHas id as
def rd1 : Sh1 → AV T → As → Option (List (V T) × As)
  | .i k, v, as => match asN v with
    | some (k', n) => bif decide (k = k') then some ([.n n], as) else none
    | none => none
  | .b, v, as => match asB v with
    | some b => some ([.t b], as)
    | none => none
  | .s τ, v, as => match asL τ v with
    | some l => some ([.l τ l], as)
    | none => none
  | .o k off, v, as => match v with
    | .ptr id off' => bif Nat.beq off off' then (match asOf k as with
      | some id' => bif Nat.beq id id' then some ([], as) else none
      | none => bif asHas id as then none else some ([], (k, id) :: as)) else none
    | _ => none
  | .x, _, as => some ([], as)
def rdL1 : List Sh1 → List (AV T) → As → Option (List (V T) × As)
  | [], [], as => some ([], as)
  | s :: ss, v :: vs, as => match rd1 s v as with
    | some (d, as1) => match rdL1 ss vs as1 with
      | some (ds, as2) => some (d ++ ds, as2)
      | none => none
    | none => none
  | _, _, _ => none
def rdSh : Sh → AV T → As → Option (List (V T) × As)
  | .one s, v, as => rd1 s v as
  | .agg ss, v, as => match v with
    | .agg cs => rdL1 ss cs as
    | _ => none
def rdTms (tm : Tr (AV T)) : List (Nat × Sh) → As → Option (List (V T) × As)
  | [], as => some ([], as)
  | (j, s) :: l, as => match rdSh s (tmAt tm j) as with
    | some (d, as1) => match rdTms tm l as1 with
      | some (ds, as2) => some (d ++ ds, as2)
      | none => none
    | none => none
def rdObs (hp : Hp T) : Nat → List (List Sh1) → As → Option (List (V T) × As)
  | _, [], as => some ([], as)
  | k, ss :: l, as => match asOf k as with
    | none => none
    | some id => match hp.get id with
      | some (.cells n c d) => bif Nat.beq n ss.length then (match rdL1 ss (rdN c d n 0) as with
        | some (d, as1) => match rdObs hp (k + 1) l as1 with
          | some (ds, as2) => some (d ++ ds, as2)
          | none => none
        | none => none) else none
      | _ => none
def asLow (n : Nat) (as : As) : Bool := as.all fun p => Nat.blt p.1 n
def rdSt (t : Tmpl) (st : St T) : Option (List (V T)) :=
  bif Nat.beq st.n t.nt then match rdTms st.tm t.tms [] with
    | some (v1, as1) => match rdObs st.hp 0 t.obs as1 with
      | some (v2, as2) => bif asLow t.obs.length as2 then some (v1 ++ v2) else none
      | none => none
    | none => none
  else none

def mk1 (base : Nat) : Sh1 → List (V T) → Option (AV T × List (V T))
  | .i k, ds => match ds with
    | .n n :: r => some (.sym k n, r)
    | _ => none
  | .b, ds => match ds with
    | .t b :: r => some (.bool b, r)
    | _ => none
  | .s τ, ds => match ds with
    | .l τ' xs :: r => if h : τ' = τ then some (.sl τ (h ▸ xs) false, r) else none
    | _ => none
  | .o k off, ds => some (.ptr (base + k) off, ds)
  | .x, ds => some (.any, ds)
def mkL1 (base : Nat) : List Sh1 → List (V T) → Option (List (AV T) × List (V T))
  | [], ds => some ([], ds)
  | s :: ss, ds => match mk1 base s ds with
    | some (v, r) => match mkL1 base ss r with
      | some (vs, r2) => some (v :: vs, r2)
      | none => none
    | none => none
def mkSh (base : Nat) : Sh → List (V T) → Option (AV T × List (V T))
  | .one s, ds => mk1 base s ds
  | .agg ss, ds => match mkL1 base ss ds with
    | some (cs, r) => some (.agg cs, r)
    | none => none
def mkTms (base : Nat) : List (Nat × Sh) → List (V T) → Tr (AV T) → Option (Tr (AV T) × List (V T))
  | [], ds, tm => some (tm, ds)
  | (j, s) :: l, ds, tm => match mkSh base s ds with
    | some (v, r) => match mkTms base l r tm with
      | some (tm', r2) => (tm'.set j v).force fun tm2 => some (tm2, r2)
      | none => none
    | none => none
def mkObs (base : Nat) : List (List Sh1) → List (V T) → Option (List (List (AV T)) × List (V T))
  | [], ds => some ([], ds)
  | ss :: l, ds => match mkL1 base ss ds with
    | some (cs, r) => match mkObs base l r with
      | some (os, r2) => some (cs :: os, r2)
      | none => none
    | none => none
def deadAll : List Nat → Tr (AO T) → Tr (AO T)
  | [], t => t
  | x :: l, t => ((deadAll l t).set x .dead).force fun t' => t'
def layObs : Nat → List (List (AV T)) → Tr (AO T) → Tr (AO T)
  | _, [], t => t
  | b, o :: os, t => (t.set b (.cells o.length (ofL o) .any)).force fun t' => layObs (b + 1) os t'
/-- A state of a form: its objects from base on, the next free name, names that are given up, the log. -/
def mkSt (t : Tmpl) (base nx : Nat) (old log : List Nat) (ds : List (V T)) : Option (St T) :=
  match mkTms base t.tms ds .nil with
  | some (tm, d1) => match mkObs base t.obs d1 with
    | some (os, []) => tm.force fun tm' => (layObs base os (deadAll old .nil)).force fun objs => some ⟨t.nt, tm', ⟨nx, objs, log⟩⟩
    | _ => none
  | none => none

/-! ### What is read is what is made -/
def AsLe (a b : As) : Prop := ∀ k id, asOf k a = some id → asOf k b = some id
def AsInj (a : As) : Prop := ∀ k j id, asOf k a = some id → asOf j a = some id → k = j
theorem AsLe.refl {a : As} : AsLe a a := fun _ _ h => h
theorem AsLe.trans {a b c : As} (h : AsLe a b) (k : AsLe b c) : AsLe a c := fun x y e => k x y (h x y e)
theorem asOf_nil {k : Nat} : asOf k [] = none := rfl
theorem asOf_cons {k j id : Nat} {as : As} : asOf k ((j, id) :: as) = if k = j then some id else asOf k as := by
  show (bif Nat.beq k j then some id else asOf k as) = _
  cases h : Nat.beq k j with
  | true => rw [if_pos (Nat.eq_of_beq_eq_true h)]; rfl
  | false => rw [if_neg (Nat.ne_of_beq_eq_false h)]; rfl
theorem asHas_of {k id : Nat} : ∀ {as : As}, asOf k as = some id → asHas id as = true
  | [], h => by cases h
  | (j, x) :: as, h => by
    rw [asOf_cons] at h
    show (bif Nat.beq id x then true else asHas id as) = true
    cases hb : Nat.beq id x with
    | true => rfl
    | false =>
      split at h
      · cases h; exact absurd rfl (Nat.ne_of_beq_eq_false hb)
      · exact asHas_of h
theorem asOf_low {n k id : Nat} : ∀ {as : As}, asLow n as = true → asOf k as = some id → k < n
  | [], _, h => by cases h
  | (j, x) :: as, hl, h => by
    have hl' : (Nat.blt j n && asLow n as) = true := hl
    rw [Bool.and_eq_true] at hl'
    rw [asOf_cons] at h
    split at h
    · rename_i e; rw [e]; exact bblt hl'.1
    · exact asOf_low hl'.2 h

/-- Where the objects of the form are in the present state. -/
def Rn (A : As) (base : Nat) (β β' : Nat → Option Hd) : Prop := ∀ k id h, asOf k A = some id → β id = some h → β' (base + k) = some h

section
variable {w : World} {M : Nat → Prop} {β β' : Nat → Option Hd} {base : Nat}

structure RdOk (as as' : As) : Prop where
  le : AsLe as as'
  inj : AsInj as → AsInj as'
theorem RdOk.refl {a : As} : RdOk a a := ⟨.refl, fun h => h⟩
theorem RdOk.trans {a b c : As} (h : RdOk a b) (k : RdOk b c) : RdOk a c := ⟨h.le.trans k.le, fun x => k.inj (h.inj x)⟩

theorem rd1_ok {s : Sh1} {v : AV T} {as as' : As} {ds : List (V T)} (h : rd1 s v as = some (ds, as')) :
    RdOk as as' ∧ ∀ base rest, ∃ v', mk1 base s (ds ++ rest) = some (v', rest) ∧ ∀ (P : Program) (E : Enc T) (w : World) (M : Nat → Prop) A β β' u, AsLe as' A → Rn A base β β' → RV P E w M β v u → RV P E w M β' v' u := by
  cases s with
  | i k =>
    simp only [rd1] at h
    split at h
    · rename_i k' n hn
      cases hk : decide (k = k') with
      | false => rw [hk] at h; cases h
      | true =>
        rw [hk] at h
        cases h
        have hk := of_decide_eq_true hk
        subst hk
        exact ⟨.refl, fun base rest => ⟨.sym k n, rfl, fun _ _ _ _ A β β' u _ _ hv => by rw [asN_val hv hn]; exact .sym⟩⟩
    · cases h
  | b =>
    simp only [rd1] at h
    split at h
    · rename_i b hb
      cases h
      exact ⟨.refl, fun base rest => ⟨.bool b, rfl, fun _ _ _ _ A β β' u _ _ hv => by rw [asB_val hv hb]; exact .bool⟩⟩
    · cases h
  | s τ =>
    simp only [rd1] at h
    split at h
    · rename_i l hl
      cases h
      refine ⟨.refl, fun base rest => ⟨.sl τ l false, ?_, fun _ _ _ _ A β β' u _ _ hv => (RV.flt1 rfl (asL_ro hv hl)).less fun _ h => h⟩⟩
      simp only [List.cons_append, List.nil_append, mk1]
      exact dif_pos trivial
    · cases h
  | o k off =>
    simp only [rd1] at h
    split at h
    · rename_i id off'
      cases ho : Nat.beq off off' with
      | false => rw [ho] at h; cases h
      | true =>
        rw [ho] at h
        have ho := bbeq ho
        subst ho
        simp only [cond_true] at h
        split at h
        · rename_i id' hid
          cases hb : Nat.beq id id' with
          | false => rw [hb] at h; cases h
          | true =>
            rw [hb] at h
            cases h
            have hb := bbeq hb
            subst hb
            refine ⟨.refl, fun base rest => ⟨.ptr (base + k) off, rfl, fun _ _ _ _ A β β' u hle hR hv => ?_⟩⟩
            cases hv with
            | ptr hβ => exact .ptr (hR k id _ (hle _ _ hid) hβ)
        · rename_i hnone
          cases hb : asHas id as with
          | true => rw [hb] at h; cases h
          | false =>
            rw [hb] at h
            cases h
            have hno : ∀ j, asOf j as ≠ some id := fun j e => by rw [asHas_of e] at hb; cases hb
            refine ⟨⟨fun j x e => ?_, fun hi j1 j2 x e1 e2 => ?_⟩, fun base rest => ⟨.ptr (base + k) off, rfl, fun _ _ _ _ A β β' u hle hR hv => ?_⟩⟩
            · rw [asOf_cons]
              split
              · rename_i e'; subst e'; rw [hnone] at e; cases e
              · exact e
            · rw [asOf_cons] at e1 e2
              split at e1 <;> split at e2
              · omega
              · cases e1; exact absurd e2 (hno _)
              · cases e2; exact absurd e1 (hno _)
              · exact hi _ _ _ e1 e2
            · cases hv with
              | ptr hβ => exact .ptr (hR k id _ (hle _ _ (by rw [asOf_cons, if_pos rfl])) hβ)
    · cases h
  | x =>
    cases h
    exact ⟨.refl, fun base rest => ⟨.any, rfl, fun _ _ _ _ _ _ _ _ _ _ _ => .any⟩⟩

theorem rdL1_ok : ∀ {ss : List Sh1} {vs : List (AV T)} {as as' : As} {ds : List (V T)}, rdL1 ss vs as = some (ds, as') →
    RdOk as as' ∧ ∀ base rest, ∃ vs', mkL1 base ss (ds ++ rest) = some (vs', rest) ∧ vs'.length = vs.length ∧ vs.length = ss.length ∧
      ∀ (P : Program) (E : Enc T) (w : World) (M : Nat → Prop) A β β', AsLe as' A → Rn A base β β' → ∀ (j : Nat) (c c' : AV T) u, vs[j]? = some c → vs'[j]? = some c' → RV P E w M β c u → RV P E w M β' c' u
  | [], [], as, as', ds, h => by
    cases h
    exact ⟨.refl, fun base rest => ⟨[], rfl, rfl, rfl, fun _ _ _ _ _ _ _ _ _ j c c' u h => by simp at h⟩⟩
  | s :: ss, v :: vs, as, as', ds, h => by
    simp only [rdL1] at h
    split at h
    · rename_i d as1 h1
      split at h
      · rename_i ds' as2 h2
        cases h
        obtain ⟨a1, a2⟩ := rd1_ok h1
        obtain ⟨b1, b2⟩ := rdL1_ok h2
        refine ⟨a1.trans b1, fun base rest => ?_⟩
        obtain ⟨v', e1, k1⟩ := a2 base (ds' ++ rest)
        obtain ⟨vs', e2, e3, e4, k2⟩ := b2 base rest
        refine ⟨v' :: vs', by rw [List.append_assoc]; simp only [mkL1, e1, e2], by simp [e3], by simp [e4], fun P E w M A β β' hle hR j c c' u hc hc' hv => ?_⟩
        cases j with
        | zero =>
          simp at hc hc'
          subst hc; subst hc'
          exact k1 P E w M A β β' u (b1.le.trans hle) hR hv
        | succ j => exact k2 P E w M A β β' hle hR j c c' u (by simpa using hc) (by simpa using hc') hv
      · cases h
    · cases h
  | [], _ :: _, _, _, _, h => by cases h
  | _ :: _, [], _, _, _, h => by cases h

theorem rdSh_ok {s : Sh} {v : AV T} {as as' : As} {ds : List (V T)} (h : rdSh s v as = some (ds, as')) :
    RdOk as as' ∧ ∀ base rest, ∃ v', mkSh base s (ds ++ rest) = some (v', rest) ∧ ∀ (P : Program) (E : Enc T) (w : World) (M : Nat → Prop) A β β' u, AsLe as' A → Rn A base β β' → RV P E w M β v u → RV P E w M β' v' u := by
  cases s with
  | one s => exact rd1_ok h
  | agg ss =>
    simp only [rdSh] at h
    split at h
    · rename_i cs
      obtain ⟨a1, a2⟩ := rdL1_ok h
      refine ⟨a1, fun base rest => ?_⟩
      obtain ⟨vs', e1, e2, e3, k⟩ := a2 base rest
      refine ⟨.agg vs', by simp only [mkSh, e1], fun P E w M A β β' u hle hR hv => ?_⟩
      cases hv with
      | agg h1 h2 =>
        refine .agg (by rw [e2, h1]) fun j c v hc hv => ?_
        have hj : j < cs.length := by rw [← e2]; exact (List.getElem?_eq_some_iff.1 hc).1
        exact k P E w M A β β' hle hR j _ c v (List.getElem?_eq_getElem hj) hc (h2 j _ v (List.getElem?_eq_getElem hj) hv)
    · cases h

theorem rdTms_ok {tm : Tr (AV T)} : ∀ {l : List (Nat × Sh)} {as as' : As} {ds : List (V T)}, rdTms tm l as = some (ds, as') →
    RdOk as as' ∧ ∀ base rest, ∃ tm', mkTms base l (ds ++ rest) .nil = some (tm', rest) ∧
      ∀ (P : Program) (E : Enc T) (w : World) (M : Nat → Prop) A β β', AsLe as' A → Rn A base β β' → ∀ j u, RV P E w M β (tmAt tm j) u → RV P E w M β' (tmAt tm' j) u
  | [], as, as', ds, h => by
    cases h
    refine ⟨.refl, fun base rest => ⟨.nil, rfl, fun _ _ _ _ _ _ _ _ _ j u _ => ?_⟩⟩
    rw [tmAt_eq, Tr.get_nil]
    exact .any
  | (j0, s) :: l, as, as', ds, h => by
    simp only [rdTms] at h
    split at h
    · rename_i d as1 h1
      split at h
      · rename_i ds' as2 h2
        cases h
        obtain ⟨a1, a2⟩ := rdSh_ok h1
        obtain ⟨b1, b2⟩ := rdTms_ok h2
        refine ⟨a1.trans b1, fun base rest => ?_⟩
        obtain ⟨v', e1, k1⟩ := a2 base (ds' ++ rest)
        obtain ⟨tm', e2, k2⟩ := b2 base rest
        refine ⟨tm'.set j0 v', by rw [List.append_assoc]; simp only [mkTms, e1, e2, Tr.force_eq], fun P E w M A β β' hle hR j u hv => ?_⟩
        rw [tmAt_set]
        split
        · rename_i e
          subst e
          exact k1 P E w M A β β' u (b1.le.trans hle) hR hv
        · exact k2 P E w M A β β' hle hR j u hv
      · cases h
    · cases h

theorem rdObs_ok {hp : Hp T} : ∀ {l : List (List Sh1)} {k0 : Nat} {as as' : As} {ds : List (V T)}, rdObs hp k0 l as = some (ds, as') →
    RdOk as as' ∧ ∀ base rest, ∃ os, mkObs base l (ds ++ rest) = some (os, rest) ∧ os.length = l.length ∧
      ∀ (k : Nat) (o : List (AV T)), os[k]? = some o → ∃ id n c d, asOf (k0 + k) as' = some id ∧ hp.get id = some (.cells n c d) ∧ o.length = n ∧
        ∀ (P : Program) (E : Enc T) (w : World) (M : Nat → Prop) A β β', AsLe as' A → Rn A base β β' → ∀ (j : Nat) (c' : AV T) u, o[j]? = some c' → RV P E w M β (cellAt c d j) u → RV P E w M β' c' u
  | [], k0, as, as', ds, h => by
    cases h
    exact ⟨.refl, fun base rest => ⟨[], rfl, rfl, fun k o h => by simp at h⟩⟩
  | ss :: l, k0, as, as', ds, h => by
    simp only [rdObs] at h
    split at h
    · cases h
    · rename_i id hid
      split at h
      · rename_i n c d hget
        cases hn : Nat.beq n ss.length with
        | false => rw [hn] at h; cases h
        | true =>
          rw [hn] at h
          simp only [cond_true] at h
          split at h
          · rename_i d1 as1 h1
            split at h
            · rename_i ds' as2 h2
              cases h
              obtain ⟨a1, a2⟩ := rdL1_ok h1
              obtain ⟨b1, b2⟩ := rdObs_ok h2
              refine ⟨a1.trans b1, fun base rest => ?_⟩
              obtain ⟨vs', e1, e2, e3, k1⟩ := a2 base (ds' ++ rest)
              obtain ⟨os, f1, f2, k2⟩ := b2 base rest
              refine ⟨vs' :: os, by rw [List.append_assoc]; simp only [mkObs, e1, f1], by simp [f2], fun k o ho => ?_⟩
              cases k with
              | zero =>
                simp at ho
                subst ho
                refine ⟨id, n, c, d, (a1.trans b1).le _ _ hid, hget, by rw [e2, rdN_length], fun P E w M A β β' hle hR j c' u hc hv => ?_⟩
                have hj : j < (rdN c d n 0).length := by rw [← e2]; exact (List.getElem?_eq_some_iff.1 hc).1
                have hg := List.getElem?_eq_getElem hj
                have hx := (rdN_get c d n 0 j _ hg).2
                rw [Nat.zero_add] at hx
                rw [hx] at hg
                exact k1 P E w M A β β' (b1.le.trans hle) hR j _ c' u hg hc hv
              | succ k =>
                have := k2 k o (by simpa using ho)
                rw [show k0 + (k + 1) = k0 + 1 + k by omega]
                exact this
            · cases h
          · cases h
      · cases h
end

/-! ### The objects of a form -/
theorem get_deadAll : ∀ (l : List Nat) (t : Tr (AO T)) (id : Nat), (deadAll l t).get id = if id ∈ l then some .dead else t.get id
  | [], t, id => by simp [deadAll]
  | x :: l, t, id => by
    simp only [deadAll, Tr.force_eq]
    rw [Tr.get_set, get_deadAll l t id]
    by_cases h : id = x
    · rw [if_pos h, if_pos (by rw [h]; exact List.mem_cons_self ..)]
    · rw [if_neg h]
      by_cases h2 : id ∈ l
      · rw [if_pos h2, if_pos (List.mem_cons_of_mem _ h2)]
      · rw [if_neg h2, if_neg (by intro h3; rcases List.mem_cons.1 h3 with h3 | h3; exact h h3; exact h2 h3)]
theorem get_layObs : ∀ (os : List (List (AV T))) (b : Nat) (t : Tr (AO T)) (id : Nat), (layObs b os t).get id = if h : b ≤ id ∧ id < b + os.length then some (.cells (os[id - b]'(by omega)).length (ofL (os[id - b]'(by omega))) .any) else t.get id
  | [], b, t, id => by
    rw [dif_neg (by simp)]
    rfl
  | o :: os, b, t, id => by
    simp only [layObs, Tr.force_eq]
    rw [get_layObs os (b + 1), Tr.get_set]
    by_cases h : id = b
    · subst h
      rw [dif_neg (by omega), if_pos rfl, dif_pos ⟨Nat.le_refl _, by simp⟩]
      simp
    · by_cases h2 : b ≤ id ∧ id < b + (o :: os).length
      · simp only [List.length_cons] at h2
        rw [dif_pos (by omega), dif_pos (by simp; omega)]
        have e : id - b = (id - (b + 1)) + 1 := by omega
        simp only [e, List.getElem_cons_succ]
      · simp only [List.length_cons] at h2
        rw [dif_neg (by omega), if_neg h, dif_neg (by simp; omega)]

/-- A state of a form describes what the state that was read describes. -/
theorem Rel.canon {F : Fm} {st : St T} {a : Act} {w : World} {t : Tmpl} {ds : List (V T)} {n0 : Nat} (hF : FreshF F n0) (hR : Rel P E F st a w) (h : rdSt t st = some ds) {base nx : Nat} {old log : List Nat}
    (hb : n0 ≤ base) (hx : base + t.obs.length ≤ nx) (hl : nx ≤ F.lim) (hold : ∀ id ∈ old, ¬ (nx ≤ id ∧ id < F.lim)) :
    ∃ st', mkSt t base nx old log ds = some st' ∧ st'.hp.next = nx ∧ st'.hp.log = log ∧ (∀ id, st'.hp.get id ≠ none ↔ (base ≤ id ∧ id < base + t.obs.length) ∨ id ∈ old) ∧ Rel P E F st' a w := by
  obtain ⟨M, β, hR⟩ := hR
  obtain ⟨hn0, hb0, hrr, hfr⟩ := hF
  unfold rdSt at h
  cases hnt : Nat.beq st.n t.nt with
  | false => rw [hnt] at h; cases h
  | true =>
  rw [hnt] at h
  simp only [cond_true] at h
  have hnt := bbeq hnt
  split at h
  case h_2 => cases h
  rename_i v1 as1 h1
  split at h
  case h_2 => cases h
  rename_i v2 A h2
  cases hlow : asLow t.obs.length A with
  | false => rw [hlow] at h; cases h
  | true =>
  rw [hlow] at h
  cases h
  obtain ⟨a1, a2⟩ := rdTms_ok h1
  obtain ⟨b1, b2⟩ := rdObs_ok h2
  obtain ⟨tm', e1, k1⟩ := a2 base v2
  obtain ⟨os, e2, e3, k2⟩ := b2 base []
  rw [List.append_nil] at e2
  have hinj : AsInj A := (a1.trans b1).inj fun k j id e => by cases e
  let β' : Nat → Option Hd := fun id => if base ≤ id ∧ id < base + t.obs.length then (asOf (id - base) A).bind β else if F.n0 ≤ id ∧ id < F.lim then none else β id
  have hRn : Rn A base β β' := fun k id h e1 e2 => by
    have hk := asOf_low hlow e1
    show (if base ≤ base + k ∧ base + k < base + t.obs.length then (asOf (base + k - base) A).bind β else _) = _
    rw [if_pos (by omega), show base + k - base = k by omega, e1]
    exact e2
  let st' : St T := ⟨t.nt, tm', ⟨nx, layObs base os (deadAll old .nil), log⟩⟩
  have hget : ∀ id, st'.hp.get id = if h : base ≤ id ∧ id < base + os.length then some (.cells (os[id - base]'(by omega)).length (ofL (os[id - base]'(by omega))) .any) else if id ∈ old then some .dead else none := fun id => by
    show (layObs base os (deadAll old .nil)).get id = _
    rw [get_layObs, get_deadAll, Tr.get_nil]
  have hLv : ∀ id, Live st'.hp.get id → base ≤ id ∧ id < base + os.length := fun id hv => by
    by_cases hc : base ≤ id ∧ id < base + os.length
    · exact hc
    · exfalso
      unfold Live at hv
      rw [hget, dif_neg hc] at hv
      split at hv <;> first | exact hv | (rename_i e; split at e <;> cases e)
  have hcell : ∀ id (hc : base ≤ id ∧ id < base + os.length), ∃ id0 n c d h, asOf (id - base) A = some id0 ∧ st.hp.get id0 = some (.cells n c d) ∧ Live st.hp.get id0 ∧ β id0 = some h ∧ β' id = some h ∧
      ObjRel P E w M β' (.cells (os[id - base]'(by omega)).length (ofL (os[id - base]'(by omega))) .any) h := by
    intro id hc
    obtain ⟨id0, n, c, d, f1, f2, f3, f4⟩ := k2 (id - base) _ (List.getElem?_eq_getElem (by omega))
    rw [Nat.zero_add] at f1
    have hlive : Live st.hp.get id0 := by unfold Live; rw [f2]; trivial
    obtain ⟨h, g1, g2⟩ := hR.now.heap.obj id0 _ hlive f2
    obtain ⟨vs, el, q1, q2, q3, q4⟩ := g2
    refine ⟨id0, n, c, d, h, f1, f2, hlive, g1, ?_, vs, el, q1, ?_, Nat.le_refl _, fun j hj => ?_⟩
    · show (if base ≤ id ∧ id < base + t.obs.length then (asOf (id - base) A).bind β else _) = _
      rw [if_pos (by omega), f1]
      exact g1
    · rw [f3]; exact q2
    · rw [ofL_get _ _ _ hj]
      have hg : (os[id - base]'(by omega))[j]? = some ((os[id - base]'(by omega)).getD j .any) := by
        rw [List.getD_eq_getElem?_getD, List.getElem?_eq_getElem hj]
        rfl
      exact f4 P E w M A β β' .refl hRn j _ _ hg (q4 j (by omega))
  have hkey : ∀ id, Live st'.hp.get id → keyOf st'.hp.get id = id := fun id hv => by
    unfold keyOf
    rw [hget, dif_pos (hLv id hv)]
  have hdom : ∀ id, Live st'.hp.get id → F.n0 ≤ id ∧ id < F.lim := fun id hv => by
    have := hLv id hv
    omega
  refine ⟨st', ?_, rfl, rfl, fun id => ?_, M, β', hR.defers, ?_, hR.nb0, ⟨⟨?_, ?_, ?_, ?_⟩, hR.now.nb, ?_, ?_⟩, ⟨?_, ?_⟩, ?_, ?_⟩
  · unfold mkSt
    rw [e1]
    simp only [e2, Tr.force_eq]
    rfl
  · rw [hget]
    by_cases hc : base ≤ id ∧ id < base + t.obs.length
    · rw [dif_pos (by omega)]; simp [hc]
    · rw [dif_neg (by omega)]
      by_cases ho : id ∈ old
      · simp [ho]
      · simp [ho, hc]
  · -- evo
    refine ⟨hR.evo.os, hR.evo.tape, hR.evo.output, hR.evo.size, hR.evo.old, hR.evo.mutb, hR.evo.keep, ?_, ?_, ?_⟩
    · rintro b ⟨id, h, l1, l2, l3⟩
      obtain ⟨id0, n, c, d, h', f1, f2, f3, f4, f5, _⟩ := hcell id (hLv id l1)
      rw [l2] at f5
      cases f5
      exact hR.evo.own b ⟨id0, h, f3, f4, l3⟩
    · intro id h e
      have hne : ¬ (F.n0 ≤ id ∧ id < F.lim) := fun hc => by rw [hfr id hc.1 hc.2] at e; cases e
      show (if base ≤ id ∧ id < base + t.obs.length then (asOf (id - base) A).bind β else if F.n0 ≤ id ∧ id < F.lim then none else β id) = _
      rw [if_neg (by omega), if_neg hne]
      exact hR.evo.hd id h e
    · intro id h e
      by_cases hc : F.n0 ≤ id ∧ id < F.lim
      · exact .inr hc
      · have e : (if base ≤ id ∧ id < base + t.obs.length then (asOf (id - base) A).bind β else if F.n0 ≤ id ∧ id < F.lim then none else β id) = some h := e
        rw [if_neg (by omega), if_neg hc] at e
        exact hR.evo.nm id h e
  · -- obj
    intro id o hv ho
    have hc := hLv id hv
    obtain ⟨id0, n, c, d, h, f1, f2, f3, f4, f5, f6⟩ := hcell id hc
    rw [hget, dif_pos hc] at ho
    cases ho
    exact ⟨h, f5, f6⟩
  · -- inj
    intro i j hi hj l1 l2 hne e1 e2
    rw [hkey i l1, hkey j l2] at hne
    obtain ⟨i0, _, _, _, h1, f1, f2, f3, f4, f5, _⟩ := hcell i (hLv i l1)
    obtain ⟨j0, _, _, _, h2, g1, g2, g3, g4, g5, _⟩ := hcell j (hLv j l2)
    rw [e1] at f5; cases f5
    rw [e2] at g5; cases g5
    refine hR.now.heap.inj i0 j0 hi hj f3 g3 (fun e => ?_) f4 g4
    have ki : keyOf st.hp.get i0 = i0 := by unfold keyOf; rw [f2]
    have kj : keyOf st.hp.get j0 = j0 := by unfold keyOf; rw [g2]
    rw [ki, kj] at e
    subst e
    have := hinj _ _ _ f1 g1
    have := hLv i l1
    have := hLv j l2
    omega
  · -- own
    intro i h l1 e
    obtain ⟨i0, _, _, _, h1, f1, f2, f3, f4, f5, _⟩ := hcell i (hLv i l1)
    rw [e] at f5; cases f5
    exact hR.now.heap.own i0 h f3 f4
  · -- shade
    intro f hd s sh nh ns ch cs dh ds' hh hs hf
    exfalso
    rw [hget] at hf
    split at hf
    · cases hf
    · split at hf <;> cases hf
  · -- free
    intro id h1 h2
    have h1 : nx ≤ id := h1
    constructor
    · show (if base ≤ id ∧ id < base + t.obs.length then (asOf (id - base) A).bind β else if F.n0 ≤ id ∧ id < F.lim then none else β id) = none
      rw [if_neg (by omega), if_pos (by omega)]
    · rw [hget, dif_neg (by omega), if_neg (fun hm => hold id hm ⟨h1, h2⟩)]
  · -- nomem
    intro f hd s sh hf
    exfalso
    rw [hget] at hf
    split at hf
    · cases hf
    · split at hf <;> cases hf
  · show t.nt = _
    rw [← hnt]
    exact hR.tmps.1
  · intro j
    exact k1 P E w M A β β' b1.le hRn j _ (hR.tmps.2 j)
  · intro p e
    rw [hrr] at e
    cases e
  · show F.n0 ≤ nx
    omega
end Go.Cx
