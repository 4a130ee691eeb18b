/- The evaluator: contracts of calls that change one object. No condition. -/
import Derived.Test.YtmnhfjhlfgebiaaCz5
set_option linter.unusedVariables false
noncomputable section
namespace Go.Cx
open Go.RowKit
variable {T : Nat → Type} {P : Program} {E : Enc T} {fuel : Nat}

/-! ### Contracts of calls that change one object -/
def ln0 : Nat → Nat := fun _ => 0
def rdArgsO (P : Program) : List Sh → List (AV T) → As → Option (List (V T) × As)
  | [], [], as => some ([], as)
  | s :: ss, v :: vs, as => match rdSh P s v as with
    | some (d, as1) => match rdArgsO P ss vs as1 with
      | some (ds, as2) => some (d ++ ds, as2)
      | none => none
    | none => none
  | _, _, _ => none
def mkArgsO : List Sh → List (V T) → Option (List (AV T) × List (V T))
  | [], ds => some ([], ds)
  | s :: ss, ds => match mkSh (fun k => k) ln0 s ds with
    | some (v, r) => match mkArgsO ss r with
      | some (vs, r2) => some (v :: vs, r2)
      | none => none
    | none => none
theorem rdArgsO_ok {P : Program} : ∀ {ss : List Sh} {vs : List (AV T)} {as as' : As} {ds : List (V T)}, rdArgsO P ss vs as = some (ds, as') →
    RdOk as as' ∧ ∀ rest, ∃ vs', mkArgsO ss (ds ++ rest) = some (vs', rest) ∧ ∀ (E : Enc T) (w : World) (M : Nat → Prop) A β β' us, AsLe as' A → Rn A (fun k => k) ln0 β β' → LR P E w M β vs us → LR P E w M β' vs' us
  | [], [], as, as', ds, h => by
    cases h
    refine ⟨.refl, fun rest => ⟨[], rfl, fun _ _ _ _ _ _ us _ _ hl => ⟨hl.1, fun j c v h => by simp at h⟩⟩⟩
  | s :: ss, v :: vs, as, as', ds, h => by
    simp only [rdArgsO] at h
    split at h
    · rename_i d as1 h1
      split at h
      · rename_i ds' as2 h2
        cases h
        obtain ⟨a1, a2⟩ := rdSh_ok h1
        obtain ⟨b1, b2⟩ := rdArgsO_ok h2
        refine ⟨a1.trans b1, fun rest => ?_⟩
        obtain ⟨v', e1, k1⟩ := a2 (fun k => k) ln0 (ds' ++ rest)
        obtain ⟨vs', e2, k2⟩ := b2 rest
        refine ⟨v' :: vs', by rw [List.append_assoc]; simp only [mkArgsO, e1, e2], fun E w M A β β' us hle hR hl => ?_⟩
        cases us with
        | nil => have := hl.1; simp at this
        | cons u us =>
          obtain ⟨q1, q2⟩ := hl.uncons
          exact (k2 E w M A β β' us hle hR q2).cons (k1 E w M A β β' u (b1.le.trans hle) hR q1)
      · cases h
    · cases h
  | [], _ :: _, _, _, _, h => by cases h
  | _ :: _, [], _, _, _, h => by cases h
theorem flat_ok {P : Program} : ∀ {ss : List Sh1} {vs : List (AV T)} {as as' : As} {ds : List (V T)}, ss.all Sh1.flat = true → rdL1 P ss vs as = some (ds, as') → as' = as
  | [], [], as, as', ds, _, h => by cases h; rfl
  | s :: ss, v :: vs, as, as', ds, hf, h => by
    have hf : (s.flat && ss.all Sh1.flat) = true := hf
    rw [Bool.and_eq_true] at hf
    simp only [rdL1] at h
    split at h
    · rename_i d as1 h1
      split at h
      · rename_i ds' as2 h2
        cases h
        have e1 : as1 = as := by
          cases s with
          | o k off => cases hf.1
          | g k τ => cases hf.1
          | y k => cases hf.1
          | x => cases h1; rfl
          | r ss0 =>
            simp only [rd1] at h1
            split at h1
            · split at h1
              · cases h1; rfl
              · cases h1
            · cases h1
          | k kd n =>
            simp only [rd1] at h1
            split at h1
            · rename_i kd' n'
              cases hb : decide (kd = kd' ∧ n = n') with
              | false => rw [hb] at h1; cases h1
              | true => rw [hb] at h1; cases h1; rfl
            · cases h1
          | f g =>
            simp only [rd1] at h1
            split at h1
            · split at h1
              · rename_i g' _
                cases hb : Nat.beq g' g with
                | false => rw [hb] at h1; cases h1
                | true => rw [hb] at h1; cases h1; rfl
              · cases h1
            · cases h1
          | i k =>
            simp only [rd1] at h1
            split at h1
            · rename_i k' n _
              cases hk : decide (k = k') with
              | false => rw [hk] at h1; cases h1
              | true => rw [hk] at h1; cases h1; rfl
            · cases h1
          | b =>
            simp only [rd1] at h1
            split at h1
            · cases h1; rfl
            · cases h1
          | s τ =>
            simp only [rd1] at h1
            split at h1
            · cases h1; rfl
            · cases h1
        rw [← e1]
        exact flat_ok hf.2 h2
      · cases h
    · cases h
  | [], _ :: _, _, _, _, _, h => by cases h
  | _ :: _, [], _, _, _, _, h => by cases h

def oneH (h : Hd) : Nat → Option Hd := fun k => if k = 0 then some h else none
/-- A call that changes one object, and nothing else; what it answers. -/
def FactR (P : Program) (E : Enc T) (f : Nat) (cs as : List (AV T)) (v : AV T) (cs' : List (AV T)) : Prop :=
  ∀ (lim : Nat) (M : Nat → Prop) (β : Nat → Option Hd) (hp : Hp T) (w : World) (vs : List Value) (id n : Nat) (c : Tr (AV T)) (d : AV T) (h : Hd), Now P E lim M β hp w → hp.next ≤ lim → hp.get id = some (.cells n c d) → β id = some h → cs.length = n →
    ObjRel P E w M (oneH h) (.cells n (ofL cs) .any) h → LR P E w M (oneH h) as vs →
    CallOk P f ∧ Calls P f vs.toArray w (Post P E lim M β hp w fun r => r = (v, hp.put id (.cells n (ofL cs') .any)))
def asOne (as : As) : Bool := as.all fun p => Nat.beq p.1 0
theorem asOne_ok {a : AE} : ∀ {as : As} {k : Nat}, asOne as = true → asOf k as = some a → k = 0
  | [], _, _, h => by cases h
  | (j, x) :: as, k, h1, h => by
    have h1 : (Nat.beq j 0 && asOne as) = true := h1
    rw [Bool.and_eq_true] at h1
    rw [asOf_cons] at h
    split at h
    · rename_i e; rw [e]; exact bbeq h1.1
    · exact asOne_ok h1.2 h
def conR (P : Program) (shs : List Sh) (ss : List Sh1) (sig : List VT) (F : Den T sig → Tree (AV T × List (V T))) : Con T := fun xs hp =>
  match rdArgsO P shs xs [] with
  | some (d1, as) => match asOf 0 as with
    | some (.o id) => match hp.get id with
      | some (.cells n c d) => bif Nat.beq n ss.length && asOne as && ss.all Sh1.flat then
          (match rdL1 P ss (rdN c d n 0) as with
          | some (d2, _) => match ofV sig (d1 ++ d2) with
            | some dd => (F dd).bind fun y => match mkL1 (fun k => k) ln0 ss y.2 with
              | some (cs', []) => .leaf (y.1, hp.put id (.cells n (ofL cs') .any))
              | _ => .fail
            | none => .fail
          | none => .fail) else .fail
      | _ => .fail
    | _ => .fail
  | none => .fail
/-- The arguments and the object's cells, as they are told. -/
def argsR (shs : List Sh) (ss : List Sh1) (sig : List VT) (d : Den T sig) : List (AV T) × List (AV T) := match mkArgsO shs (toV sig d) with
  | some (vs, r) => match mkL1 (fun k => k) ln0 ss r with
    | some (cs, _) => (vs, cs)
    | none => ([], [])
  | none => ([], [])

theorem conR_ok {f : Nat} {shs : List Sh} {ss : List Sh1} {sig : List VT} {F : Den T sig → Tree (AV T × List (V T))}
    (h : ∀ (d : Den T sig) (K : AV T × List (V T) → Prop), (F d).holds K → ∃ y, K y ∧ ∀ cs', mkL1 (fun k => k) ln0 ss y.2 = some (cs', []) → FactR P E f (argsR shs ss sig d).2 (argsR shs ss sig d).1 y.1 cs') : ConOk P E f (conR P shs ss sig F) := by
  refine ⟨fun xs hp => ?_, fun lim M β hp w xs vs K hnow hL hK => ?_⟩
  · unfold conR
    split
    · split
      · rename_i id _
        split
        · rename_i n c d hget
          cases hb : Nat.beq n ss.length && asOne _ && ss.all Sh1.flat with
          | false => trivial
          | true =>
            simp only [cond_true]
            split
            · split
              · refine bind_every (R := fun _ => True) (every_true (fun _ => trivial) _) fun y _ => ?_
                split
                · exact Gr.put (by rw [hget]; simp)
                · trivial
              · trivial
            · trivial
        · trivial
      · trivial
    · trivial
  unfold conR at hK
  split at hK
  case h_2 => exact hK.elim
  rename_i d1 as h1
  split at hK
  case h_2 => exact hK.elim
  rename_i id hid
  split at hK
  case h_2 => exact hK.elim
  rename_i n c d hget
  cases hb : Nat.beq n ss.length && asOne as && ss.all Sh1.flat with
  | false => rw [hb] at hK; exact hK.elim
  | true =>
  rw [hb] at hK
  simp only [cond_true] at hK
  rw [Bool.and_eq_true, Bool.and_eq_true] at hb
  obtain ⟨⟨hn, hone⟩, hflat⟩ := hb
  have hn := bbeq hn
  split at hK
  case h_2 => exact hK.elim
  rename_i d2 as2 h2
  have has := flat_ok hflat h2
  subst has
  split at hK
  case h_2 => exact hK.elim
  rename_i dd h3
  obtain ⟨y, hy, hF⟩ := h dd _ (Tree.holds_bind.1 hK)
  split at hy
  case h_2 => exact hy.elim
  rename_i cs' hcs'
  have hF := hF cs' hcs'
  obtain ⟨a1, a2⟩ := rdArgsO_ok h1
  obtain ⟨vs', e1, k1⟩ := a2 d2
  obtain ⟨b1, b2⟩ := rdL1_ok h2
  obtain ⟨cs, e2, e3, e4, k2⟩ := b2 (fun k => k) ln0 []
  rw [List.append_nil] at e2
  have hargs : argsR shs ss sig dd = (vs', cs) := by
    unfold argsR
    rw [toV_of h3, e1]
    simp only [e2]
  rw [hargs] at hF
  have hlive : Live hp.get id := by unfold Live; rw [hget]; trivial
  obtain ⟨hh, hβ, hO⟩ := hnow.heap.obj id _ hlive hget
  have hRn : Rn as2 (fun k => k) ln0 β (oneH hh) := fun k ae e => by
    have hk := asOne_ok hone e
    subst hk
    rw [hid] at e
    cases e
    refine ⟨fun h' e' => ?_, trivial⟩
    have e' : β id = some h' := e'
    rw [hβ] at e'
    cases e'
    rfl
  obtain ⟨vs0, el, q1, q2, q3, q4⟩ := hO
  have hlen : cs.length = n := by rw [e3, rdN_length]
  obtain ⟨r1, r2⟩ := hF lim M β hp w vs id n c d hh hnow hy.1 hget hβ hlen ⟨vs0, el, q1, q2, q3, fun j hj => by
    have hj' : j < cs.length := by omega
    have hjr : j < (rdN c d n 0).length := by rw [rdN_length]; exact hj
    have hg := List.getElem?_eq_getElem hjr
    have hx := (rdN_get c d n 0 j _ hg).2
    rw [Nat.zero_add] at hx
    rw [hx] at hg
    rw [ofL_get _ _ _ hj']
    exact k2 E w M as2 β (oneH hh) .refl hRn j _ _ _ hg (by rw [List.getD_eq_getElem?_getD, List.getElem?_eq_getElem hj']; rfl) (q4 j hj)⟩ (k1 E w M as2 β (oneH hh) vs .refl hRn hL)
  refine ⟨r1, r2.mono fun e w' ⟨u, M', β', r, he, hS, hu, hr⟩ => ⟨u, M', β', r, he, hS, hu, ?_⟩⟩
  rw [hr]
  exact hy.2

/-! ### A run that sees one object -/
theorem HeapRel.kill {w : World} {M : Nat → Prop} {β : Nat → Option Hd} {H H' : Nat → Option (AO T)} (h : HeapRel P E w M β H) {id n : Nat} {c : Tr (AV T)} {d : AV T} (hc : H id = some (.cells n c d)) (hid : H' id = some .dead) (ho : ∀ x, x ≠ id → H' x = H x) : HeapRel P E w M β H' := by
  have lv : ∀ x, Live H' x → x ≠ id ∧ Live H x ∧ keyOf H' x = keyOf H x := by
    intro x hx
    have hne : x ≠ id := by
      rintro rfl
      unfold Live at hx
      rw [hid] at hx
      exact hx
    refine ⟨hne, ?_, by unfold keyOf; rw [ho x hne]⟩
    unfold Live at hx ⊢
    rw [ho x hne] at hx
    cases hH : H x with
    | none => rw [hH] at hx; exact hx
    | some o =>
      rw [hH] at hx
      cases o with
      | grow n2 c2 d2 f =>
        obtain ⟨hd, sh, k1, k2⟩ := hx
        have hf : f ≠ id := by rintro rfl; rw [hid] at k1; cases k1
        exact ⟨hd, sh, (ho f hf) ▸ k1, k2⟩
      | _ => exact hx
  refine ⟨fun x o hx e => ?_, fun i j hi hj l1 l2 hne e1 e2 => ?_, fun i hh l1 e => h.own i hh (lv i l1).2.1 e, fun f hd s sh nh ns ch cs dh ds hh hs k1 k2 k3 k4 k5 k6 => ?_⟩
  · rw [ho x (lv x hx).1] at e
    exact h.obj x o (lv x hx).2.1 e
  · rw [(lv i l1).2.2, (lv j l2).2.2] at hne
    exact h.inj i j hi hj (lv i l1).2.1 (lv j l2).2.1 hne e1 e2
  · have n1 : f ≠ id := by rintro rfl; rw [hid] at k1; cases k1
    have n2 : hd ≠ id := by rintro rfl; rw [hid] at k3; cases k3
    have n3 : s ≠ id := by rintro rfl; rw [hid] at k4; cases k4
    rw [ho _ n1] at k1
    rw [ho _ n2] at k3
    rw [ho _ n3] at k4
    exact h.shade f hd s sh nh ns ch cs dh ds hh hs k1 k2 k3 k4 k5 k6

def hpR (cs : List (AV T)) : Hp T := ⟨1, (Tr.nil : Tr (AO T)).set 0 (.cells cs.length (ofL cs) .any), []⟩
def leafR (P : Program) (E : Enc T) (ts : List TypeId) (n : Nat) (r : AV T × Hp T) : Tree (AV T × List (AV T)) := match r.2.get 0 with
  | some (.cells m c d) => bif Nat.beq m n && ((rdN c d n 0).map opn).all flt1 then (frzR P E (r.2.put 0 .dead) ts r.1).bind fun v => .leaf (v, (rdN c d n 0).map opn) else .fail
  | _ => .fail
def resR (P : Program) (E : Enc T) (ts : List TypeId) (n : Nat) (t : Tree (AV T × Hp T)) : Tree (AV T × List (AV T)) := t.bind (leafR P E ts n)

theorem factR_of_run (hE : E.Good P) {act : Tgt → List (AV T) → Hp T → Tree (AV T × Hp T)} (hA : ActOk P E act) {f : Nat} {cs as : List (AV T)} {v : AV T} {cs' : List (AV T)} {ts : List TypeId}
    (h : (resR P E ts cs.length (act (.fn f) as (hpR cs))).holds fun x => x = (v, cs')) : FactR P E f cs as v cs' := by
  intro lim M β hp w vs id n c d hh hnow hlim hget hβ hlen hO hL
  subst hlen
  generalize ht : act (.fn f) as (hpR cs) = t at h
  have hlive : Live hp.get id := by unfold Live; rw [hget]; trivial
  have hMb : M hh.block := hnow.heap.own id hh hlive hβ
  have hg : ∀ x, (hpR cs).get x = if x = 0 then some (.cells cs.length (ofL cs) .any) else none := fun x => by
    show ((Tr.nil : Tr (AO T)).set 0 _).get x = _
    rw [Tr.get_set, Tr.get_nil]
  have hLv : ∀ x, Live (hpR cs).get x → x = 0 := fun x hx => by
    unfold Live at hx
    rw [hg] at hx
    by_cases e : x = 0
    · exact e
    · rw [if_neg e] at hx; exact hx.elim
  have hnofam : ∀ {f hd sh}, (hpR cs).get f ≠ some (.fam hd sh) := fun {f hd sh} e => by
    rw [hg] at e
    split at e <;> cases e
  have hn0 : Now P E (maxN t) M (oneH hh) (hpR cs) w := by
    refine ⟨⟨fun x o hx e => ?_, fun i j _ _ l1 l2 hne => ?_, fun i h' l1 e => ?_, fun f hd s sh _ _ _ _ _ _ _ _ k1 => absurd k1 hnofam⟩, hnow.nb, fun x h1 _ => ?_, fun f hd s sh k1 => absurd k1 hnofam⟩
    · obtain rfl := hLv x hx
      rw [hg, if_pos rfl] at e
      cases e
      exact ⟨hh, rfl, hO⟩
    · obtain rfl := hLv i l1
      obtain rfl := hLv j l2
      exact absurd rfl hne
    · obtain rfl := hLv i l1
      cases e
      exact hMb
    · have h1 : 1 ≤ x := h1
      refine ⟨if_neg (by omega), ?_⟩
      rw [hg, if_neg (by omega)]
  obtain ⟨h1, h2⟩ := hA (maxN t) M (oneH hh) (hpR cs) w (.fn f) as vs (fun r => (leafR P E ts cs.length r).holds fun x => x = (v, cs')) hn0 hL (by
    rw [ht]
    exact Tree.holds_mono (fun r hr => ⟨hr.2, hr.1⟩) (Tree.holds_and_every (Tree.holds_bind.1 h) (maxN_every t)))
  refine ⟨h1, h2.mono fun e w' ⟨u, M', β', r, he, hS, hu, hr⟩ => ?_⟩
  replace hr : (leafR P E ts cs.length r).holds fun x => x = (v, cs') := hr
  unfold leafR at hr
  split at hr
  case h_2 => exact hr.elim
  rename_i m c' d' hr0
  cases hb : Nat.beq m cs.length && ((rdN c' d' cs.length 0).map opn).all flt1 with
  | false => rw [hb] at hr; exact hr.elim
  | true =>
  rw [hb] at hr
  simp only [cond_true] at hr
  rw [Bool.and_eq_true] at hb
  obtain ⟨hm, hfl⟩ := hb
  have hm := bbeq hm
  subst hm
  have hβ0 : β' 0 = some hh := hS.evo.hd 0 hh rfl
  have hlive0 : Live r.2.get 0 := by unfold Live; rw [hr0]; trivial
  obtain ⟨h0, g1, g2⟩ := hS.now.heap.obj 0 _ hlive0 hr0
  rw [hβ0] at g1
  cases g1
  have hMb' : M' hh.block := hS.now.heap.own 0 hh hlive0 hβ0
  have hown0 : ∀ b, Own (hpR cs).get (oneH hh) b → b = hh.block := by
    rintro b ⟨x, hx, k1, k2, k3⟩
    obtain rfl := hLv x k1
    cases k2
    exact k3.symm
  have hold : ∀ b, b < w.heap.size → b ≠ hh.block → w'.heap[b]? = w.heap[b]? := fun b hb hne => hS.evo.old b hb fun ho => hne (hown0 b ho)
  have hkill : HeapRel P E w' M' β' (r.2.put 0 .dead).get := hS.now.heap.kill hr0 (by rw [Hp.get_put, if_pos rfl]) fun x hx => by rw [Hp.get_put, if_neg hx]
  have hMM : ∀ b, M b → M' b ∧ ¬ Own (r.2.put 0 .dead).get β' b := fun b hb => by
    by_cases hne : b = hh.block
    · subst hne
      refine ⟨hMb', ?_⟩
      rintro ⟨x, hx, k1, k2, k3⟩
      have hx0 : x ≠ 0 := by
        rintro rfl
        unfold Live at k1
        rw [Hp.get_put, if_pos rfl] at k1
        exact k1
      have hlx : Live r.2.get x ∧ keyOf r.2.get x ≠ 0 := by
        unfold Live at k1 ⊢
        unfold keyOf
        rw [Hp.get_put, if_neg hx0] at k1
        cases hH : r.2.get x with
        | none => rw [hH] at k1; exact k1.elim
        | some o =>
          rw [hH] at k1
          cases o with
          | grow n2 c2 d2 f2 =>
            obtain ⟨hd, sh, q1, q2⟩ := k1
            have hf : f2 ≠ 0 := by rintro rfl; rw [Hp.get_put, if_pos rfl] at q1; cases q1
            rw [Hp.get_put, if_neg hf] at q1
            exact ⟨⟨hd, sh, q1, q2⟩, hf⟩
          | _ => first | exact ⟨k1, hx0⟩ | exact k1.elim
      exact hS.now.heap.inj x 0 hx hh hlx.1 hlive0 (by
        have : keyOf r.2.get 0 = 0 := by unfold keyOf; rw [hr0]
        rw [this]; exact hlx.2) k2 hβ0 k3
    · refine ⟨hS.evo.keep b hb fun ho => hne (hown0 b ho), ?_⟩
      rintro ⟨x, hx, k1, k2, k3⟩
      have hx0 : x ≠ 0 := by
        rintro rfl
        unfold Live at k1
        rw [Hp.get_put, if_pos rfl] at k1
        exact k1
      have hlx : Live r.2.get x := by
        unfold Live at k1 ⊢
        rw [Hp.get_put, if_neg hx0] at k1
        cases hH : r.2.get x with
        | none => rw [hH] at k1; exact k1.elim
        | some o =>
          rw [hH] at k1
          cases o with
          | grow n2 c2 d2 f2 =>
            obtain ⟨hd, sh, q1, q2⟩ := k1
            have hf : f2 ≠ 0 := by rintro rfl; rw [Hp.get_put, if_pos rfl] at q1; cases q1
            rw [Hp.get_put, if_neg hf] at q1
            exact ⟨hd, sh, q1, q2⟩
          | _ => first | exact k1 | exact k1.elim
      rcases hS.evo.own b ⟨x, hx, hlx, k2, k3⟩ with h | h
      · exact hne (hown0 b h)
      · have := hnow.nb b hb
        omega
  obtain ⟨v0, hv, e0⟩ := frzR_ok hE hE.dec hkill hMM hu (Tree.holds_bind.1 hr)
  cases e0
  obtain ⟨vs0, el, q1, q2, q3, q4⟩ := g2
  obtain ⟨M2, hM2, hS2⟩ := hnow.chgB (hp' := hp.put id (.cells cs.length (ofL ((rdN c' d' cs.length 0).map opn)) .any)) (w' := w') (β' := β) (D := fun x => x = id) (Nat.le_refl _) hlim
    (fun x hx => by rw [Hp.get_put, if_neg hx]) (fun x hx => by subst hx; rw [hget]; trivial) (fun x hx => by subst hx; rw [Hp.get_put, if_pos rfl]; trivial) (fun _ _ e => e) (fun _ _ => rfl) (fun _ _ e => .inl e)
    (fun x hx h1 h2 => by
      subst hx
      have := (hnow.free x h1 h2).2
      rw [hget] at this
      cases this)
    (fun x o hx _ ho => by
      subst hx
      rw [Hp.get_put, if_pos rfl] at ho
      cases ho
      refine ⟨hh, hβ, fun M3 _ hM3 => ⟨vs0, el, q1, q2, Nat.le_refl _, fun j hj => ?_⟩, .inr ⟨x, hh, rfl, hlive, hβ, rfl⟩⟩
      have hj1 : j < (rdN c' d' cs.length 0).length := by rw [rdN_length]; exact hj
      have hj2 : j < ((rdN c' d' cs.length 0).map opn).length := by rw [List.length_map]; exact hj1
      rw [ofL_get _ _ _ hj2]
      have hgj := List.getElem?_eq_getElem hj1
      have hx := (rdN_get c' d' cs.length 0 j _ hgj).2
      rw [Nat.zero_add] at hx
      have e : ((rdN c' d' cs.length 0).map opn).getD j .any = opn (cellAt c' d' j) := by
        rw [List.getD_eq_getElem?_getD, List.getElem?_map, hgj, hx]
        rfl
      rw [e]
      have hf1 : flt1 (opn (cellAt c' d' j)) = true := all_get hfl (j := j) (by rw [List.getElem?_map, hgj, hx]; rfl)
      refine (RV.flt1 hf1 (q4 j hj).opn).less fun b hb => ?_
      rcases hM3 b hb with h | ⟨y, hy, rfl, k1, k2⟩
      · exact (hMM b h).1
      · rw [hβ] at k1
        cases k1
        exact k2 ▸ hMb')
    (fun x y _ _ hx hy _ _ hne => absurd (hx.trans hy.symm) hne) hS.evo.os hS.evo.tape hS.evo.output hS.evo.size
    (fun b hb hne => hold b hb fun e => hne id hh rfl hlive hβ e.symm)
  refine ⟨u, M2, β, (v, hp.put id (.cells cs.length (ofL ((rdN c' d' cs.length 0).map opn)) .any)), he, hS2, hv.less fun b hb => ?_, rfl⟩
  rcases hM2 b hb with h | ⟨y, hy, rfl, k1, k2⟩
  · exact h
  · rw [hβ] at k1
    cases k1
    exact k2 ▸ hMb
end Go.Cx
