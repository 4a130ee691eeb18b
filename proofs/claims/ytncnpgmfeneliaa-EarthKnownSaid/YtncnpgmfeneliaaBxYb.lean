/- The evaluator: which known call fits. No condition. -/
import Derived.Test.YtncnpgmfeneliaaBxYa
noncomputable section
namespace Go.Bx
open Go.RowKit
variable {T : Nat → Type} {P : Program} {E : Enc T} {cl : Bool} {fuel : Nat}

/-! ### Whether an entry fits -/
def sg (σ : List Nat) (i : Nat) : Nat := σ.getD i 0
def bindId (σ : List Nat) (k id : Nat) : Option (List Nat) :=
  match σ[k]? with
  | some x => bif Nat.beq x id then some σ else none
  | none => bif Nat.beq k σ.length then some (σ ++ [id]) else none
def capEq : Option Nat → Option Nat → Bool
  | none, none => true
  | some a, some b => Nat.beq a b
  | _, _ => false
def mt1 (σ : List Nat) : AV T → AV T → Option (List Nat)
  | .int k a, .int k' b => bif ieq a b then bif decide (k = k') then some σ else none else none
  | .lit a, .lit b => bif (bif a then b else !b) then some σ else none
  | .nilp, .nilp => some σ
  | .nilf, .nilf => some σ
  | .nils, .nils => some σ
  | .emp, .emp => some σ
  | .es, .es => some σ
  | .nili, .nili => some σ
  | .ifc t (.agg []), .ifc t' (.agg []) => bif Nat.beq t t' then some σ else none
  | .ptr k off, .ptr id off' => bif Nat.beq off off' then bindId σ k id else none
  | .sc k sz off len cap, .sc id sz' off' len' cap' => bif Nat.beq sz sz' then bif Nat.beq off off' then bif Nat.beq len len' then bif capEq cap cap' then bindId σ k id else none else none else none else none
  | _, _ => none
def mtL : List Nat → List (AV T) → List (AV T) → Option (List Nat)
  | σ, [], [] => some σ
  | σ, x :: l, y :: k => match mt1 σ x y with
    | some σ' => mtL σ' l k
    | none => none
  | _, _, _ => none
def mt2 (σ : List Nat) : AV T → AV T → Option (List Nat)
  | .agg a, .agg b => mtL σ a b
  | .agg _, _ => none
  | a, b => mt1 σ a b
def mtA : List Nat → List (AV T) → List (AV T) → Option (List Nat)
  | σ, [], [] => some σ
  | σ, x :: l, y :: k => match mt2 σ x y with
    | some σ' => mtA σ' l k
    | none => none
  | _, _, _ => none
def mtC : List Nat → List (AV T) → Tr (AV T) → AV T → Nat → Option (List Nat)
  | σ, [], _, _, _ => some σ
  | σ, x :: l, c, d, j => match mt1 σ x (cellAt c d j) with
    | some σ' => mtC σ' l c d (j + 1)
    | none => none
def mtO : List (List (AV T)) → Nat → List Nat → Hp T → Option (List Nat × Hp T)
  | [], _, σ, hp => some (σ, hp)
  | cs :: l, i, σ, hp => match σ[i]? with
    | some id => (fun hp' => match hp'.get id with
      | some (.cells n c d) => bif Nat.beq n cs.length then (match mtC σ cs c d 0 with
        | some σ' => mtO l (i + 1) σ' hp'
        | none => none) else none
      | _ => none) (down hp id)
    | none => none
def nodupN : List Nat → Bool
  | [] => true
  | x :: l => bif memN x l then false else nodupN l
def fit (e : Ent T) (as : List (AV T)) (hp : Hp T) : Option (List Nat × Hp T) :=
  match mtA [] e.as as with
  | some σ => match mtO e.objs 0 σ hp with
    | some (σ', hp') => bif Nat.beq σ'.length e.objs.length then bif nodupN σ' then bif e.fos.all (fun p => Nat.blt p.1 e.nx) then some (σ', hp') else none else none else none
    | none => none
  | none => none

def Ex' (σ σ' : List Nat) : Prop := ∃ t, σ' = σ ++ t
theorem Ex'.refl {σ : List Nat} : Ex' σ σ := ⟨[], by simp⟩
theorem Ex'.trans {a b c : List Nat} (h : Ex' a b) (k : Ex' b c) : Ex' a c := by
  obtain ⟨t, rfl⟩ := h
  obtain ⟨u, rfl⟩ := k
  exact ⟨t ++ u, by simp⟩
theorem Ex'.get {a b : List Nat} (h : Ex' a b) {i x : Nat} (hx : a[i]? = some x) : b[i]? = some x := by
  obtain ⟨t, rfl⟩ := h
  have := (List.getElem?_eq_some_iff.1 hx).1
  rw [List.getElem?_append_left this]; exact hx
theorem Ex'.sg {a b : List Nat} (h : Ex' a b) {i x : Nat} (hx : a[i]? = some x) : Bx.sg b i = x := by
  unfold Bx.sg
  rw [List.getD, h.get hx]
  rfl
theorem bindId_ok {σ σ' : List Nat} {k id : Nat} (h : bindId σ k id = some σ') : Ex' σ σ' ∧ σ'[k]? = some id := by
  unfold bindId at h
  split at h
  · rename_i x hx
    cases hb : Nat.beq x id with
    | false => rw [hb] at h; cases h
    | true =>
      rw [hb] at h
      obtain rfl : σ = σ' := Option.some.inj h
      rw [Nat.eq_of_beq_eq_true hb] at hx
      exact ⟨.refl, hx⟩
  · cases hb : Nat.beq k σ.length with
    | false => rw [hb] at h; cases h
    | true =>
      rw [hb] at h
      obtain rfl : σ ++ [id] = σ' := Option.some.inj h
      obtain rfl := Nat.eq_of_beq_eq_true hb
      exact ⟨⟨[id], rfl⟩, by simp⟩
theorem capEq_eq {a b : Option Nat} (h : capEq a b = true) : a = b := by
  cases a <;> cases b <;> first | rfl | cases h | skip
  rw [Nat.eq_of_beq_eq_true h]
theorem bifs {α : Type} {b : Bool} {x : Option α} {y : α} (h : (bif b then x else none) = some y) : b = true ∧ x = some y := by
  cases b with
  | false => cases h
  | true => exact ⟨rfl, h⟩
theorem mt1_ok {σ σ' : List Nat} {x y : AV T} (h : mt1 σ x y = some σ') : Ex' σ σ' ∧ ∀ τ, Ex' σ' τ → ren1 (sg τ) x = y := by
  unfold mt1 at h
  split at h
  · rename_i k a k' b
    obtain ⟨h1, g1⟩ := bifs h
    obtain ⟨h2, g2⟩ := bifs g1
    obtain rfl := ieq_eq h1
    obtain rfl := of_decide_eq_true h2
    obtain rfl := Option.some.inj g2
    exact ⟨.refl, fun _ _ => rfl⟩
  · rename_i a b
    obtain ⟨h1, h⟩ := bifs h
    obtain rfl := Option.some.inj h
    refine ⟨.refl, fun _ _ => ?_⟩
    cases a <;> cases b <;> first | rfl | cases h1
  · obtain rfl := Option.some.inj h; exact ⟨.refl, fun _ _ => rfl⟩
  · obtain rfl := Option.some.inj h; exact ⟨.refl, fun _ _ => rfl⟩
  · obtain rfl := Option.some.inj h; exact ⟨.refl, fun _ _ => rfl⟩
  · obtain rfl := Option.some.inj h; exact ⟨.refl, fun _ _ => rfl⟩
  · obtain rfl := Option.some.inj h; exact ⟨.refl, fun _ _ => rfl⟩
  · obtain rfl := Option.some.inj h; exact ⟨.refl, fun _ _ => rfl⟩
  · obtain ⟨h1, g1⟩ := bifs h
    obtain rfl := Nat.eq_of_beq_eq_true h1
    obtain rfl := Option.some.inj g1
    exact ⟨.refl, fun _ _ => rfl⟩
  · rename_i k off id off'
    obtain ⟨h1, g1⟩ := bifs h
    obtain rfl := Nat.eq_of_beq_eq_true h1
    obtain ⟨h2, h3⟩ := bindId_ok g1
    exact ⟨h2, fun τ hτ => by show AV.ptr (sg τ k) off = _; rw [hτ.sg h3]⟩
  · rename_i k sz off len cap id sz' off' len' cap'
    obtain ⟨h1, g1⟩ := bifs h
    obtain ⟨h2, g2⟩ := bifs g1
    obtain ⟨h3, g3⟩ := bifs g2
    obtain ⟨h4, g4⟩ := bifs g3
    obtain rfl := Nat.eq_of_beq_eq_true h1
    obtain rfl := Nat.eq_of_beq_eq_true h2
    obtain rfl := Nat.eq_of_beq_eq_true h3
    obtain rfl := capEq_eq h4
    obtain ⟨h2, h3⟩ := bindId_ok g4
    exact ⟨h2, fun τ hτ => by show AV.sc (sg τ k) sz off len cap = _; rw [hτ.sg h3]⟩
  · cases h
theorem mtL_ok : ∀ {a b : List (AV T)} {σ σ' : List Nat}, mtL σ a b = some σ' → Ex' σ σ' ∧ ∀ τ, Ex' σ' τ → a.map (ren1 (sg τ)) = b
  | [], [], σ, σ', h => by
    obtain rfl : σ = σ' := Option.some.inj h
    exact ⟨.refl, fun _ _ => rfl⟩
  | x :: l, y :: k, σ, σ', h => by
    unfold mtL at h
    split at h
    · rename_i σ1 h1
      obtain ⟨h2, h3⟩ := mt1_ok h1
      obtain ⟨h4, h5⟩ := mtL_ok h
      exact ⟨h2.trans h4, fun τ hτ => by rw [List.map_cons, h3 τ (h4.trans hτ), h5 τ hτ]⟩
    · cases h
  | [], _ :: _, σ, σ', h => by cases h
  | _ :: _, [], σ, σ', h => by cases h
theorem mt2_ok {σ σ' : List Nat} {x y : AV T} (h : mt2 σ x y = some σ') : Ex' σ σ' ∧ ∀ τ, Ex' σ' τ → ren2 (sg τ) x = y := by
  unfold mt2 at h
  split at h
  · obtain ⟨h1, h2⟩ := mtL_ok h
    exact ⟨h1, fun τ hτ => congrArg AV.agg (h2 τ hτ)⟩
  · cases h
  · rename_i hne _
    obtain ⟨h1, h2⟩ := mt1_ok h
    refine ⟨h1, fun τ hτ => ?_⟩
    rw [← h2 τ hτ]
    cases x with
    | agg cs => exact absurd rfl (hne cs)
    | _ => rfl
theorem mtA_ok : ∀ {a b : List (AV T)} {σ σ' : List Nat}, mtA σ a b = some σ' → Ex' σ σ' ∧ ∀ τ, Ex' σ' τ → a.map (ren2 (sg τ)) = b
  | [], [], σ, σ', h => by
    obtain rfl : σ = σ' := Option.some.inj h
    exact ⟨.refl, fun _ _ => rfl⟩
  | x :: l, y :: k, σ, σ', h => by
    unfold mtA at h
    split at h
    · rename_i σ1 h1
      obtain ⟨h2, h3⟩ := mt2_ok h1
      obtain ⟨h4, h5⟩ := mtA_ok h
      exact ⟨h2.trans h4, fun τ hτ => by rw [List.map_cons, h3 τ (h4.trans hτ), h5 τ hτ]⟩
    · cases h
  | [], _ :: _, σ, σ', h => by cases h
  | _ :: _, [], σ, σ', h => by cases h
theorem mtC_ok {c : Tr (AV T)} {d : AV T} : ∀ {l : List (AV T)} {i : Nat} {σ σ' : List Nat}, mtC σ l c d i = some σ' → Ex' σ σ' ∧ ∀ τ, Ex' σ' τ → ∀ (j : Nat) (x : AV T), l[j]? = some x → cellAt c d (i + j) = ren1 (sg τ) x
  | [], i, σ, σ', h => by
    obtain rfl : σ = σ' := Option.some.inj h
    exact ⟨.refl, fun _ _ j x hx => by simp at hx⟩
  | y :: l, i, σ, σ', h => by
    unfold mtC at h
    split at h
    · rename_i σ1 h1
      obtain ⟨h2, h3⟩ := mt1_ok h1
      obtain ⟨h4, h5⟩ := mtC_ok h
      refine ⟨h2.trans h4, fun τ hτ j x hx => ?_⟩
      cases j with
      | zero => simp at hx; subst hx; exact (h3 τ (h4.trans hτ)).symm
      | succ j =>
        rw [show i + (j + 1) = i + 1 + j by omega]
        exact h5 τ hτ j x (by simpa using hx)
    · cases h
theorem mtO_ok : ∀ {l : List (List (AV T))} {i : Nat} {σ σ' : List Nat} {hp hp' : Hp T}, mtO l i σ hp = some (σ', hp') → Ex' σ σ' ∧ Down hp hp' ∧ ∀ (j : Nat) (cs : List (AV T)), l[j]? = some cs → ∃ c d, hp'.get (sg σ' (i + j)) = some (.cells cs.length c d) ∧ ∀ (q : Nat) (x : AV T), cs[q]? = some x → cellAt c d q = ren1 (sg σ') x
  | [], i, σ, σ', hp, hp', h => by
    obtain ⟨rfl, rfl⟩ : σ = σ' ∧ hp = hp' := by cases h; exact ⟨rfl, rfl⟩
    exact ⟨.refl, .refl, fun j cs hx => by simp at hx⟩
  | ds :: l, i, σ, σ', hp, hp', h => by
    unfold mtO at h
    split at h
    · rename_i id hid
      have hdn := down_ok hp id
      generalize down hp id = hp1 at h hdn
      simp only at h
      split at h
      · rename_i n c d ho
        obtain ⟨hn, h⟩ := bifs h
        have hn := Nat.eq_of_beq_eq_true hn
        split at h
        · rename_i σ1 h1
          obtain ⟨h2, h3⟩ := mtC_ok h1
          obtain ⟨h4, h6, h5⟩ := mtO_ok h
          refine ⟨h2.trans h4, hdn.trans h6, fun j cs hx => ?_⟩
          cases j with
          | zero =>
            simp at hx
            subst hx
            rw [Nat.add_zero, (h2.trans h4).sg hid]
            refine ⟨c, d, by rw [h6.2.2.2 _ _ _ _ ho, hn], fun q x hq => ?_⟩
            have := h3 σ' h4 q x hq
            rw [Nat.zero_add] at this
            exact this
          | succ j =>
            rw [show i + (j + 1) = i + 1 + j by omega]
            exact h5 j cs (by simpa using hx)
        · cases h
      · cases h
    · cases h
theorem nodupN_sg : ∀ {l : List Nat}, nodupN l = true → ∀ i j, i < l.length → j < l.length → sg l i = sg l j → i = j
  | [], _, i, j, h, _, _ => by simp at h
  | x :: l, h, i, j, hi, hj, he => by
    unfold nodupN at h
    cases hx : memN x l with
    | true => rw [hx] at h; cases h
    | false =>
      rw [hx] at h
      have hnot : x ∉ l := fun hm => by rw [memN_iff.2 hm] at hx; cases hx
      have hsg : ∀ k, k < l.length → sg l k ∈ l := fun k hk => by
        unfold sg
        rw [List.getD, List.getElem?_eq_getElem hk]
        exact List.getElem_mem hk
      cases i with
      | zero =>
        cases j with
        | zero => rfl
        | succ j =>
          have e1 : sg (x :: l) 0 = x := rfl
          have e2 : sg (x :: l) (j + 1) = sg l j := by simp [sg]
          rw [e1, e2] at he
          exact absurd (he ▸ hsg j (by simpa using hj)) hnot
      | succ i =>
        have e1 : sg (x :: l) (i + 1) = sg l i := by simp [sg]
        cases j with
        | zero =>
          have e2 : sg (x :: l) 0 = x := rfl
          rw [e1, e2] at he
          exact absurd (he ▸ hsg i (by simpa using hi)) hnot
        | succ j =>
          have e2 : sg (x :: l) (j + 1) = sg l j := by simp [sg]
          rw [e1, e2] at he
          rw [nodupN_sg h i j (by simpa using hi) (by simpa using hj) he]
theorem fit_ok {e : Ent T} {as : List (AV T)} {hp hp' : Hp T} {σ : List Nat} (h : fit e as hp = some (σ, hp')) : e.as.map (ren2 (sg σ)) = as ∧ Fits e (sg σ) hp' ∧ (∀ p ∈ e.fos, p.1 < e.nx) ∧ Down hp hp' := by
  unfold fit at h
  split at h
  · rename_i σ0 h1
    split at h
    · rename_i σ1 hp1 h2
      obtain ⟨h3, h⟩ := bifs h
      obtain ⟨h4, h⟩ := bifs h
      obtain ⟨h5, h⟩ := bifs h
      obtain ⟨rfl, rfl⟩ : σ1 = σ ∧ hp1 = hp' := by cases h; exact ⟨rfl, rfl⟩
      obtain ⟨_, k1⟩ := mtA_ok h1
      obtain ⟨k2, k4, k3⟩ := mtO_ok h2
      have h3 := Nat.eq_of_beq_eq_true h3
      refine ⟨k1 σ1 k2, ⟨fun i cs hcs => ?_, fun i j hi hj he => nodupN_sg h4 i j (by omega) (by omega) he⟩, fun p hp => blt_lt (List.all_eq_true.1 h5 p hp), k4⟩
      have := k3 i cs hcs
      rw [Nat.zero_add] at this
      exact this
    · cases h
  · cases h

def findE (f : Nat) (as : List (AV T)) (hp : Hp T) : List (Ent T) → Option (Ent T × List Nat × Hp T)
  | [] => none
  | e :: l => bif Nat.beq e.f f then (match fit e as hp with
    | some σ => some (e, σ)
    | none => findE f as hp l) else findE f as hp l
theorem findE_ok {f : Nat} {as : List (AV T)} {hp : Hp T} {e : Ent T} {σ : List Nat × Hp T} : ∀ {l : List (Ent T)}, findE f as hp l = some (e, σ) → e ∈ l ∧ e.f = f ∧ fit e as hp = some σ
  | [], h => by cases h
  | x :: l, h => by
    unfold findE at h
    cases hb : Nat.beq x.f f with
    | false =>
      rw [hb] at h
      obtain ⟨h1, h2⟩ := findE_ok h
      exact ⟨List.mem_cons_of_mem _ h1, h2⟩
    | true =>
      rw [hb] at h
      simp only [cond_true] at h
      split at h
      · rename_i σ' hs
        cases h
        exact ⟨List.mem_cons_self, Nat.eq_of_beq_eq_true hb, hs⟩
      · obtain ⟨h1, h2⟩ := findE_ok h
        exact ⟨List.mem_cons_of_mem _ h1, h2⟩

def deepR (e : Ent T) (s : List Nat × Hp T) : AV T × Hp T := (ren3 (rho (sg s.1) e.objs.length s.2.next) e.v, grown (rho (sg s.1) e.objs.length s.2.next) e s.2)
def withDeep (dt : List (Ent T)) (act : Tgt → List (AV T) → Hp T → Tree (AV T × Hp T)) : Tgt → List (AV T) → Hp T → Tree (AV T × Hp T) := fun tgt as hp =>
  match tgt with
  | .fn f => match findE f as hp dt with
    | some (e, σ) => .leaf (deepR e σ)
    | none => act (.fn f) as hp
  | .yld id => act (.yld id) as hp
def DTabOk (P : Program) (E : Enc T) (dt : List (Ent T)) : Prop := ∀ e ∈ dt, DeepFact P E e

theorem grown_gr {ρ : Nat → Nat} {e : Ent T} {hp : Hp T} (h : ∀ p ∈ e.fos, p.1 < e.nx) : Gr hp (grown ρ e hp) := by
  refine ⟨Nat.le_add_right _ _, e.fos.map (fun p => hp.next + p.1), rfl, fun id hid => ?_, fun id hid => ?_⟩
  · rcases newT_get (ρ := ρ) (nx := hp.next) (t := hp.objs) e.fos id with ⟨k, cs, h1, h2, _⟩ | ⟨_, h2⟩
    · exact absurd (List.mem_map.2 ⟨(k, cs), h1, h2.symm⟩) hid
    · exact h2
  · obtain ⟨p, hp1, rfl⟩ := List.mem_map.1 hid
    have := h p hp1
    refine ⟨.inr ⟨Nat.le_add_right _ _, Nat.add_lt_add_left this _⟩, ?_⟩
    rcases newT_get (ρ := ρ) (nx := hp.next) (t := hp.objs) e.fos (hp.next + p.1) with ⟨k, cs, _, _, h3⟩ | ⟨h1, _⟩
    · show (newT ρ hp.next e.fos hp.objs).get _ ≠ none
      rw [h3]; simp
    · exact absurd rfl (h1 p hp1)
theorem withDeep_gr {dt : List (Ent T)} {act : Tgt → List (AV T) → Hp T → Tree (AV T × Hp T)} (hA : ActGr act) : ActGr (withDeep dt act) := fun tgt as hp => by
  unfold withDeep
  split
  · split
    · rename_i f e σ h
      obtain ⟨_, _, h3⟩ := findE_ok h
      obtain ⟨σ, hp1⟩ := σ
      obtain ⟨_, _, h4, h5⟩ := fit_ok h3
      exact h5.2.1.trans (grown_gr h4)
    · exact hA _ _ _
  · exact hA _ _ _
theorem withDeep_ok {dt : List (Ent T)} (ht : DTabOk P E dt) {act : Tgt → List (AV T) → Hp T → Tree (AV T × Hp T)} (hA : ActOk P E act) : ActOk P E (withDeep dt act) := fun lim M β hp w tgt as vs K hnow hL h => by
  unfold withDeep at h
  cases tgt with
  | yld id => exact hA lim M β hp w (.yld id) as vs K hnow hL h
  | fn f =>
    simp only at h
    split at h
    · rename_i e σ hv
      obtain ⟨h1, rfl, h3⟩ := findE_ok hv
      obtain ⟨σ, hp1⟩ := σ
      obtain ⟨h4, h5, _, h6⟩ := fit_ok h3
      subst h4
      have hS1 := h6.1 lim M β w hnow
      obtain ⟨q1, q2⟩ := ht e h1 lim M β hp1 w vs (sg σ) hS1.now h5 h.1 hL
      refine ⟨q1, q2.mono fun en w' ⟨u, M', β', r, he, hS, hu, hr⟩ => ⟨u, M', β', r, he, Step.trans hnow hS1 hS, hu, ?_⟩⟩
      rw [hr]
      exact h.2
    · exact hA lim M β hp w (.fn f) as vs K hnow hL h

/-! ### Calls with all that is known -/
section
variable (P : Program) (E : Enc T) (cl : Bool) (dt : List (Ent T)) (t : Tab T) (fuel : Nat)
def callX : Nat → Tgt → List (AV T) → Hp T → Tree (AV T × Hp T)
  | 0 => fun _ _ _ => .fail
  | n + 1 => withDeep dt (withTab t fun tgt as hp => match tgt with
    | .fn f => match P.funcs[f]? with
      | some fn => runFn P E cl (callX n) (drawL P E cl (callX n)) fuel fn as hp
      | none => .fail
    | .yld id => rndT P E cl (callX n) (drawL P E cl (callX n)) fuel id as hp)
end
theorem callX_every {dt : List (Ent T)} {t : Tab T} : ∀ n, ActGr (callX P E cl dt t fuel n)
  | 0 => fun _ _ _ => trivial
  | n + 1 => withDeep_gr (withTab_gr fun tgt as hp => by
    have ih := callX_every (dt := dt) (t := t) n
    cases tgt with
    | fn f =>
      simp only
      split
      · exact runFn_every ih (fun ops st => drawL_every ih ops st)
      · trivial
    | yld id => exact rndT_every ih (fun ops st => drawL_every ih ops st))
theorem callX_ok (hE : E.Good P) (hN : NamesOk P) (hm : P.follows .mixedOrders = true) {dt : List (Ent T)} (hd : DTabOk P E dt) {t : Tab T} (ht : TabOk P E t) : ∀ n, ActOk P E (callX P E cl dt t fuel n)
  | 0 => fun _ _ _ _ _ _ _ _ _ _ _ h => h.elim
  | n + 1 => withDeep_ok hd (withTab_ok ht fun lim M β hp w tgt as vs K hnow hL h => by
    have ih := callX_ok hE hN hm hd ht n
    have ihe := callX_every (P := P) (E := E) (cl := cl) (fuel := fuel) (dt := dt) (t := t) n
    have hD := drawL_ok (cl := cl) hE hm ih ihe
    cases tgt with
    | fn f =>
      simp only at h
      split at h
      · rename_i fn hf
        exact runFn_sound hE ih ihe hD (fun ops st => drawL_every ihe ops st) hN hf hnow hL h
      · exact h.elim
    | yld id => exact fun hd hβ n => rndT_sound hE ih ihe hD (fun ops st => drawL_every ihe ops st) hnow hL h hβ n)

/-! ### Runs by themselves -/
theorem fact_of_act {act : Tgt → List (AV T) → Hp T → Tree (AV T × Hp T)} (hA : ActOk P E act) {f : Nat} {as : List (AV T)} {v : AV T} (ha : flatL2 as = true) (hv : flat v = true)
    (h : answers v (act (.fn f) as (hp0 : Hp T)) = true) : Fact P E f as v := by
  intro lim M β hp w vs hnow hL
  obtain ⟨hp', hrun⟩ := answers_leaf h
  have hL0 : LR P E w (fun _ => False) (fun _ => none) as vs := ⟨hL.1, fun j c x hc hx => RV.flat2 (flatL2_mem ha hc) (hL.2 j c x hc hx)⟩
  obtain ⟨h1, h2⟩ := hA hp'.next (fun _ => False) (fun _ => none) hp0 w (.fn f) as vs (fun r => r = (v, hp')) (now0 _ w) hL0 (by
    rw [hrun]
    exact ⟨Nat.le_refl _, rfl⟩)
  refine ⟨h1, h2.mono fun e w' ⟨u, M', β', r, he, hS, hu, hr⟩ => ?_⟩
  subst hr
  have hold : ∀ b, b < w.heap.size → w'.heap[b]? = w.heap[b]? := fun b hb => hS.evo.old b hb (by
    rintro ⟨id, hd, k1, k2, k3⟩
    cases k2)
  have hM' : ∀ b, M' b → w.heap.size ≤ b := fun b hb => (hS.evo.mutb b hb).elim (fun h => h.elim) fun h => h
  have hst : Stab w M β w' (fun b => M b ∨ M' b) β := ⟨fun b o _ hb => World.cell?_of_block (w := w) (hold b hb), hS.evo.size, fun b hb => hb.imp (fun h => h) (hM' b), fun _ _ h => h⟩
  refine ⟨u, fun b => M b ∨ M' b, β, (v, hp), he, ⟨⟨hS.evo.os, hS.evo.tape, hS.evo.output, hS.evo.size, fun b hb _ => hold b hb, fun b hb => hb.imp (fun h => h) (hM' b), fun b hb _ => .inl hb, fun b hb => .inl hb, fun _ _ h => h, fun _ _ h => .inl h⟩, ?_, Nat.le_refl _⟩, RV.flat hv hu, rfl⟩
  refine ⟨⟨fun id ob hLv hob => ?_, hnow.heap.inj, fun i hd k1 k2 => .inl (hnow.heap.own i hd k1 k2), hnow.heap.shade⟩, fun b hb => ?_, hnow.free, hnow.nomem⟩
  · obtain ⟨hd, hβ, hrel⟩ := hnow.heap.obj id ob hLv hob
    exact ⟨hd, hβ, hrel.stab hst (hold _ (hnow.nb _ (hnow.heap.own id hd hLv hβ)))⟩
  · rcases hb with hb | hb
    · exact Nat.lt_of_lt_of_le (hnow.nb b hb) hS.evo.size
    · exact hS.now.nb b hb
theorem closed_of_act {act : Tgt → List (AV T) → Hp T → Tree (AV T × Hp T)} (hA : ActOk P E act) {f : Nat} (h : isTrue (act (.fn f) [] (hp0 : Hp T)) = true) (W : World) :
    Calls P f #[] W fun e W' => e = .returned (.bool true) ∧ Kept W W' := by
  obtain ⟨hp', hr⟩ : ∃ hp', act (.fn f) [] (hp0 : Hp T) = .leaf (.lit true, hp') := by
    generalize act (.fn f) [] (hp0 : Hp T) = t at h
    unfold isTrue at h
    split at h
    · exact ⟨_, rfl⟩
    · cases h
  have hA := hA hp'.next (fun _ => False) (fun _ => none) hp0 W (.fn f) [] [] (fun r => r = (.lit true, hp')) (now0 _ W) LR.nil (by
    rw [hr]
    exact ⟨Nat.le_refl _, rfl⟩)
  refine hA.2.mono fun e W' ⟨u, M', β', r, he, hS, hv, hr⟩ => ?_
  subst hr
  cases hv
  refine ⟨he, kept_of hS.evo.os hS.evo.output hS.evo.size fun b hb => hS.evo.old b hb ?_⟩
  rintro ⟨id, hd, h1, h2, h3⟩
  cases h2

/-! ### Entries, asked -/
def eqA1 : AV T → AV T → Bool
  | .int k a, .int k' b => bif ieq a b then decide (k = k') else false
  | .lit a, .lit b => bif a then b else !b
  | .nilp, .nilp => true
  | .nilf, .nilf => true
  | .nils, .nils => true
  | .emp, .emp => true
  | .es, .es => true
  | .nili, .nili => true
  | .ifc t (.agg []), .ifc t' (.agg []) => Nat.beq t t'
  | .ptr k off, .ptr id off' => bif Nat.beq off off' then Nat.beq k id else false
  | .sc k sz off len cap, .sc id sz' off' len' cap' => bif Nat.beq sz sz' then bif Nat.beq off off' then bif Nat.beq len len' then bif capEq cap cap' then Nat.beq k id else false else false else false else false
  | _, _ => false
theorem bife {b c : Bool} (h : (bif b then c else false) = true) : b = true ∧ c = true := by
  cases b with
  | false => cases h
  | true => exact ⟨rfl, h⟩
theorem eqA1_eq {a b : AV T} (h : eqA1 a b = true) : a = b := by
  unfold eqA1 at h
  split at h
  · obtain ⟨h1, h2⟩ := bife h
    rw [ieq_eq h1, of_decide_eq_true h2]
  · rename_i a b
    cases a <;> cases b <;> first | rfl | cases h
  · rfl
  · rfl
  · rfl
  · rfl
  · rfl
  · rfl
  · rw [Nat.eq_of_beq_eq_true h]
  · obtain ⟨h1, h2⟩ := bife h
    rw [Nat.eq_of_beq_eq_true h1, Nat.eq_of_beq_eq_true h2]
  · obtain ⟨h1, h⟩ := bife h
    obtain ⟨h2, h⟩ := bife h
    obtain ⟨h3, h⟩ := bife h
    obtain ⟨h4, h⟩ := bife h
    rw [Nat.eq_of_beq_eq_true h1, Nat.eq_of_beq_eq_true h2, Nat.eq_of_beq_eq_true h3, capEq_eq h4, Nat.eq_of_beq_eq_true h]
  · cases h
def eqL (q : AV T → AV T → Bool) : List (AV T) → List (AV T) → Bool
  | [], [] => true
  | x :: l, y :: k => bif q x y then eqL q l k else false
  | _, _ => false
theorem eqL_eq {q : AV T → AV T → Bool} (hq : ∀ a b, q a b = true → a = b) : ∀ {a b : List (AV T)}, eqL q a b = true → a = b
  | [], [], _ => rfl
  | x :: l, y :: k, h => by
    obtain ⟨h1, h2⟩ := bife (show (bif q x y then eqL q l k else false) = true from h)
    rw [hq _ _ h1, eqL_eq hq h2]
  | [], _ :: _, h => by cases h
  | _ :: _, [], h => by cases h
def eqA2 : AV T → AV T → Bool
  | .agg a, .agg b => eqL eqA1 a b
  | a, b => eqA1 a b
theorem eqA2_eq {a b : AV T} (h : eqA2 a b = true) : a = b := by
  unfold eqA2 at h
  split at h
  · rw [eqL_eq (fun _ _ => eqA1_eq) h]
  · exact eqA1_eq h
def eqA3 : AV T → AV T → Bool
  | .tup a, .tup b => eqL eqA2 a b
  | a, b => eqA2 a b
theorem eqA3_eq {a b : AV T} (h : eqA3 a b = true) : a = b := by
  unfold eqA3 at h
  split at h
  · rw [eqL_eq (fun _ _ => eqA2_eq) h]
  · exact eqA2_eq h
def eqC (c : Tr (AV T)) (d : AV T) : List (AV T) → Nat → Bool
  | [], _ => true
  | x :: l, j => bif eqA1 (cellAt c d j) x then eqC c d l (j + 1) else false
theorem eqC_ok {c : Tr (AV T)} {d : AV T} : ∀ {l : List (AV T)} {i : Nat}, eqC c d l i = true → ∀ (j : Nat) (x : AV T), l[j]? = some x → cellAt c d (i + j) = x
  | [], i, _, j, x, h => by simp at h
  | y :: l, i, h, j, x, hx => by
    obtain ⟨h1, h2⟩ := bife (show (bif eqA1 (cellAt c d i) y then eqC c d l (i + 1) else false) = true from h)
    cases j with
    | zero => simp at hx; subst hx; exact eqA1_eq h1
    | succ j =>
      rw [show i + (j + 1) = i + 1 + j by omega]
      exact eqC_ok h2 j x (by simpa using hx)
def objsOk (kh : Hp T) : List (List (AV T)) → Nat → Bool
  | [], _ => true
  | cs :: l, i => match kh.get i with
    | some (.cells n c d) => bif Nat.beq n cs.length then bif eqC c d cs 0 then objsOk kh l (i + 1) else false else false
    | _ => false
theorem objsOk_ok {kh : Hp T} : ∀ {l : List (List (AV T))} {i : Nat}, objsOk kh l i = true → ∀ (j : Nat) (cs : List (AV T)), l[j]? = some cs → ∃ c d, kh.get (i + j) = some (.cells cs.length c d) ∧ ∀ (q : Nat) (x : AV T), cs[q]? = some x → cellAt c d q = x
  | [], i, _, j, x, h => by simp at h
  | ds :: l, i, h, j, cs, hx => by
    unfold objsOk at h
    split at h
    · rename_i n c d ho
      obtain ⟨h1, h⟩ := bife h
      obtain ⟨h2, h⟩ := bife h
      cases j with
      | zero =>
        simp at hx
        subst hx
        refine ⟨c, d, by rw [Nat.add_zero, ho, Nat.eq_of_beq_eq_true h1], fun q x hq => ?_⟩
        have := eqC_ok h2 q x hq
        rw [Nat.zero_add] at this
        exact this
      | succ j =>
        rw [show i + (j + 1) = i + 1 + j by omega]
        exact objsOk_ok h j cs (by simpa using hx)
    · cases h
def fosOk (kh : Hp T) (m b : Nat) : List (Nat × List (AV T)) → Bool
  | [] => true
  | (k, cs) :: l => match look kh (m + k) with
    | some (n, c, d) => bif Nat.beq n cs.length then bif eqC c d cs 0 then bif Nat.ble m (keyOf kh.get (m + k)) then bif cs.all (ok1 b) then fosOk kh m b l else false else false else false else false
    | none => false
theorem fosOk_ok {kh : Hp T} {m b : Nat} : ∀ {l : List (Nat × List (AV T))}, fosOk kh m b l = true → ∀ p ∈ l, (∃ c d, look kh (m + p.1) = some (p.2.length, c, d) ∧ ∀ (q : Nat) (x : AV T), p.2[q]? = some x → cellAt c d q = x) ∧ m ≤ keyOf kh.get (m + p.1) ∧ p.2.all (ok1 b) = true
  | [], _, p, hp => by cases hp
  | (k, cs) :: l, h, p, hp => by
    unfold fosOk at h
    split at h
    · rename_i n c d ho
      obtain ⟨h1, h⟩ := bife h
      obtain ⟨h2, h⟩ := bife h
      obtain ⟨h3, h⟩ := bife h
      obtain ⟨h4, h⟩ := bife h
      rcases List.mem_cons.1 hp with rfl | hp
      · refine ⟨⟨c, d, by rw [ho, Nat.eq_of_beq_eq_true h1], fun q x hq => ?_⟩, Nat.le_of_ble_eq_true h3, h4⟩
        have := eqC_ok h2 q x hq
        rw [Nat.zero_add] at this
        exact this
      · exact fosOk_ok h p hp
    · cases h
def objs1Ok (m : Nat) (l : List (List (AV T))) : Bool := l.all fun cs => cs.all (ok1 m)
def runOk (e : Ent T) (r : Tree (AV T × Hp T)) : Bool :=
  match r with
  | .leaf (v, kh) =>
    bif eqA3 v e.v then bif Nat.beq kh.next (e.objs.length + e.nx) then bif objsOk kh e.objs 0 then bif fosOk kh e.objs.length (e.objs.length + e.nx) e.fos then
      bif nodupN (e.fos.map fun p => keyOf kh.get (e.objs.length + p.1)) then
      bif e.as.all (ok2 e.objs.length) then bif objs1Ok e.objs.length e.objs then bif ok3 (e.objs.length + e.nx) e.v then e.fos.all (fun p => Nat.blt p.1 e.nx) else false else false else false else false else false else false else false else false
  | _ => false
theorem nodupN_map {α : Type} {f : α → Nat} : ∀ {l : List α}, nodupN (l.map f) = true → ∀ p ∈ l, ∀ q ∈ l, f p = f q → p = q
  | [], _, p, hp, _, _, _ => by cases hp
  | x :: l, h, p, hp, q, hq, he => by
    rw [List.map_cons] at h
    unfold nodupN at h
    cases hx : memN (f x) (l.map f) with
    | true => rw [hx] at h; cases h
    | false =>
      rw [hx] at h
      have hnot : f x ∉ l.map f := fun hm => by rw [memN_iff.2 hm] at hx; cases hx
      rcases List.mem_cons.1 hp with rfl | hp
      · rcases List.mem_cons.1 hq with rfl | hq
        · rfl
        · exact absurd (List.mem_map.2 ⟨q, hq, he.symm⟩) hnot
      · rcases List.mem_cons.1 hq with hqx | hq
        · exact absurd (List.mem_map.2 ⟨p, hp, by rw [he, hqx]⟩) hnot
        · exact nodupN_map h p hp q hq he
theorem deep_of_check {act : Tgt → List (AV T) → Hp T → Tree (AV T × Hp T)} (hA : ActOk P E act) {e : Ent T} (h : runOk e (act (.fn e.f) e.as (keyHp e.objs)) = true) : DeepFact P E e := by
  generalize hr : act (.fn e.f) e.as (keyHp e.objs) = r at h
  unfold runOk at h
  split at h
  · rename_i v kh
    obtain ⟨h1, h⟩ := bife h
    obtain ⟨h2, h⟩ := bife h
    obtain ⟨h3, h⟩ := bife h
    obtain ⟨h4, h⟩ := bife h
    obtain ⟨h5, h⟩ := bife h
    obtain ⟨h6, h⟩ := bife h
    obtain ⟨h7, h⟩ := bife h
    obtain ⟨h8, h9⟩ := bife h
    rw [eqA3_eq h1] at hr
    have k4 := fosOk_ok h4
    refine deep_of_run hA ⟨h6, fun i cs hcs => List.all_eq_true.1 h7 cs (List.mem_of_getElem? hcs), h8, fun p hp => ⟨blt_lt (List.all_eq_true.1 h9 p hp), (k4 p hp).2.2⟩⟩ hr ⟨Nat.eq_of_beq_eq_true h2, fun i cs hcs => ?_, fun p hp => (k4 p hp).1, fun p hp => (k4 p hp).2.1, fun p hp q hq hne he => ?_⟩
    · have := objsOk_ok h3 i cs hcs
      rw [Nat.zero_add] at this
      exact this
    · exact hne (congrArg Prod.fst (nodupN_map h5 p hp q hq he))
  · cases h
end Go.Bx
