/- Contracts of calls that answer with new lists, and may look at lists that their caller still writes. No condition. -/
import Derived.Test.YtmnhfjhlfgebiaaCz4
set_option linter.unusedVariables false
noncomputable section
namespace Go.Cx
open Go.RowKit
variable {T : Nat → Type} {P : Program} {E : Enc T} {fuel : Nat}
/-- A call that leaves everything as it was, answers with what is new, and may look at lists that its caller still writes. -/
def FactN (P : Program) (E : Enc T) (f : Nat) (as : List (AV T)) (v : AV T) : Prop :=
  ∀ (lim : Nat) (M : Nat → Prop) (β : Nat → Option Hd) (hp : Hp T) (w : World) (vs : List Value), Now P E lim M β hp w → LR P E w (fun b => M b ∧ ¬ Own hp.get β b) β as vs → CallOk P f ∧ Calls P f vs.toArray w (Post P E lim M β hp w fun r => r = (v, hp))
section
variable (P : Program) (E : Enc T) (fl : List Nat)
def frzN1 (hp : Hp T) (t : TypeId) (v : AV T) : Tree (AV T) :=
  match P.underlying t with
  | some (.int _) => match asN v with
    | some (k, n) => .leaf (.sym k n)
    | none => .fail
  | some .bool => match asB v with
    | some b => .leaf (.bool b)
    | none => .fail
  | some (.slice σ) => match v with
    | .ls id τ' len => match hp.get id with
      | some (.lst τ2 l) => if h : τ2 = σ then bif Nat.beq τ' σ && memN σ fl then .req (len = l.length) (.leaf (.sl σ (h ▸ l) false)) else .fail else .fail
      | _ => .fail
    | .nils => .leaf (.sl σ [] false)
    | .emp => .leaf (.sl σ [] false)
    | _ => .fail
  | _ => .fail
def frzNL (hp : Hp T) : List TypeId → List (AV T) → Tree (List (AV T))
  | [], [] => .leaf []
  | t :: ts, v :: vs => (frzN1 P fl hp t v).bind fun x => (frzNL hp ts vs).bind fun r => .leaf (x :: r)
  | _, _ => .fail
def frzN2 (hp : Hp T) (t : TypeId) (v : AV T) : Tree (AV T) :=
  match v with
  | .agg cs => (frzNL P fl hp (cellTys P 6 t) cs).bind fun r => .leaf (.agg r)
  | v => frzN1 P fl hp t v
def frzNM (hp : Hp T) : List TypeId → List (AV T) → Tree (List (AV T))
  | [], [] => .leaf []
  | t :: ts, v :: vs => (frzN2 P fl hp t v).bind fun x => (frzNM hp ts vs).bind fun r => .leaf (x :: r)
  | _, _ => .fail
def frzNR (hp : Hp T) (ts : List TypeId) (v : AV T) : Tree (AV T) :=
  match v with
  | .tup cs => (frzNM P fl hp ts cs).bind fun r => .leaf (.tup r)
  | v => match ts with
    | [t] => frzN2 P fl hp t v
    | _ => .fail
/-- The answer of a function, as plain data that is new. -/
def resN (ts : List TypeId) (t : Tree (AV T × Hp T)) : Tree (AV T) := t.bind fun r => frzNR P fl r.2 ts r.1
end
section
variable {w : World} {M X : Nat → Prop} {β : Nat → Option Hd} {hp : Hp T} {fl : List Nat}
theorem frzN1_ok (hE : E.Good P) (hfl : ∀ τ, memN τ fl = true → ∀ x : T τ, (E.enc τ x).all ind0 = true) (hH : HeapRel P E w M β hp.get) (hX : ∀ b, X b → ¬ Own hp.get β b) {t : TypeId} {v : AV T} {u : Value} (hv : RV P E w M β v u) {K : AV T → Prop} (h : (frzN1 P fl hp t v).holds K) : ∃ v', RV P E w X (fun _ => none) v' u ∧ K v' := by
  unfold frzN1 at h
  split at h
  · split at h
    · rename_i k n hn
      refine ⟨_, ?_, h⟩
      rw [asN_val hv hn]
      exact .sym
    · exact h.elim
  · split at h
    · rename_i b hb
      refine ⟨_, ?_, h⟩
      rw [asB_val hv hb]
      exact .bool
    · exact h.elim
  · rename_i σ _
    split at h
    · rename_i id τ' len
      split at h
      · rename_i τ2 l hget
        split at h
        · rename_i e
          subst e
          cases hb : Nat.beq τ' τ2 && memN τ2 fl with
          | false => rw [hb] at h; exact h.elim
          | true =>
            rw [hb] at h
            rw [Bool.and_eq_true] at hb
            have e := bbeq hb.1
            subst e
            obtain ⟨hlen, h⟩ := h
            refine ⟨_, ?_, h⟩
            show RV P E w X _ (.sl τ' l false) _
            subst hlen
            generalize hq : l.length = q at hv
            cases hv with
            | ls0 =>
              have : l = [] := List.eq_nil_of_length_eq_zero hq
              subst this
              exact .sl0 (fun h => by cases h)
            | ls q1 q2 q3 q4 q5 =>
              subst hq
              have hlive : Live hp.get id := by
                unfold Live
                rw [hget]
                rintro rfl
                simp at q2
              obtain ⟨hd, g1, g2⟩ := hH.obj id _ hlive hget
              rw [q1] at g1
              cases g1
              obtain ⟨vs, el, g3, g4, g5, g6, g7⟩ := g2
              refine .sl (fun i j => vs.getD (_ + (i * P.cellsOf τ' + j)) undef) rfl (Array.getElem?_eq_some_iff.1 g3).1 q3 (fun h => by cases h) g6 (fun _ hm => hX _ hm ⟨id, _, hlive, q1, rfl⟩) (fun i x j c hx hc => ?_) fun i x j c hx hc => RV.ind0 (all_get (hfl τ' hb.2 x) hc) (g7 i x j c hx hc)
              have hi := (List.getElem?_eq_some_iff.1 hx).1
              have hj := (List.getElem?_eq_some_iff.1 hc).1
              rw [hE.len _ g6] at hj
              have := Nat.mul_le_mul_right (P.cellsOf τ') (show i + 1 ≤ l.length by omega)
              rw [Nat.add_mul, Nat.one_mul] at this
              dsimp only
              exact cell_of g3 (by omega)
        · exact h.elim
      · exact h.elim
    · cases hv
      exact ⟨_, .sl0 (fun h => by cases h), h⟩
    · cases hv
      exact ⟨_, .sl0 (fun h => by cases h), h⟩
    · exact h.elim
  · exact h.elim
theorem frzNL_ok (hE : E.Good P) (hfl : ∀ τ, memN τ fl = true → ∀ x : T τ, (E.enc τ x).all ind0 = true) (hH : HeapRel P E w M β hp.get) (hX : ∀ b, X b → ¬ Own hp.get β b) : ∀ {ts : List TypeId} {vs : List (AV T)} {us : List Value} {K : List (AV T) → Prop}, LR P E w M β vs us → (frzNL P fl hp ts vs).holds K → ∃ rs, LR P E w X (fun _ => none) rs us ∧ K rs
  | [], [], us, K, hl, h => by
    have := hl.1
    cases us with
    | nil => exact ⟨[], LR.nil, h⟩
    | cons => simp at this
  | t :: ts, v :: vs, us, K, hl, h => by
    simp only [frzNL] at h
    cases us with
    | nil => have := hl.1; simp at this
    | cons u us =>
      obtain ⟨k1, k2⟩ := hl.uncons
      obtain ⟨v', r1, h⟩ := frzN1_ok hE hfl hH hX k1 (Tree.holds_bind.1 h)
      obtain ⟨rs, r2, h⟩ := frzNL_ok hE hfl hH hX k2 (Tree.holds_bind.1 h)
      exact ⟨v' :: rs, r2.cons r1, h⟩
  | [], _ :: _, _, _, _, h => h.elim
  | _ :: _, [], _, _, _, h => h.elim
theorem frzN2_ok (hE : E.Good P) (hfl : ∀ τ, memN τ fl = true → ∀ x : T τ, (E.enc τ x).all ind0 = true) (hH : HeapRel P E w M β hp.get) (hX : ∀ b, X b → ¬ Own hp.get β b) {t : TypeId} {v : AV T} {u : Value} (hv : RV P E w M β v u) {K : AV T → Prop} (h : (frzN2 P fl hp t v).holds K) : ∃ v', RV P E w X (fun _ => none) v' u ∧ K v' := by
  unfold frzN2 at h
  split at h
  · cases hv with
    | agg k1 k2 =>
      obtain ⟨rs, h1, h2⟩ := frzNL_ok hE hfl hH hX (LR.of_array k1 k2) (Tree.holds_bind.1 h)
      exact ⟨_, by simpa using RV.agg' h1, h2⟩
  · exact frzN1_ok hE hfl hH hX hv h
theorem frzNM_ok (hE : E.Good P) (hfl : ∀ τ, memN τ fl = true → ∀ x : T τ, (E.enc τ x).all ind0 = true) (hH : HeapRel P E w M β hp.get) (hX : ∀ b, X b → ¬ Own hp.get β b) : ∀ {ts : List TypeId} {vs : List (AV T)} {us : List Value} {K : List (AV T) → Prop}, LR P E w M β vs us → (frzNM P fl hp ts vs).holds K → ∃ rs, LR P E w X (fun _ => none) rs us ∧ K rs
  | [], [], us, K, hl, h => by
    have := hl.1
    cases us with
    | nil => exact ⟨[], LR.nil, h⟩
    | cons => simp at this
  | t :: ts, v :: vs, us, K, hl, h => by
    simp only [frzNM] at h
    cases us with
    | nil => have := hl.1; simp at this
    | cons u us =>
      obtain ⟨k1, k2⟩ := hl.uncons
      obtain ⟨v', r1, h⟩ := frzN2_ok hE hfl hH hX k1 (Tree.holds_bind.1 h)
      obtain ⟨rs, r2, h⟩ := frzNM_ok hE hfl hH hX k2 (Tree.holds_bind.1 h)
      exact ⟨v' :: rs, r2.cons r1, h⟩
  | [], _ :: _, _, _, _, h => h.elim
  | _ :: _, [], _, _, _, h => h.elim
theorem frzNR_ok (hE : E.Good P) (hfl : ∀ τ, memN τ fl = true → ∀ x : T τ, (E.enc τ x).all ind0 = true) (hH : HeapRel P E w M β hp.get) (hX : ∀ b, X b → ¬ Own hp.get β b) {ts : List TypeId} {v : AV T} {u : Value} (hv : RV P E w M β v u) {K : AV T → Prop} (h : (frzNR P fl hp ts v).holds K) : ∃ v', RV P E w X (fun _ => none) v' u ∧ K v' := by
  unfold frzNR at h
  split at h
  · cases hv with
    | tup k1 k2 =>
      obtain ⟨rs, h1, h2⟩ := frzNM_ok hE hfl hH hX (LR.of_array k1 k2) (Tree.holds_bind.1 h)
      exact ⟨_, .tup (by simpa using h1.1) fun j c v hc hv => h1.2 j c v hc (by simpa using hv), h2⟩
  · split at h
    · exact frzN2_ok hE hfl hH hX hv h
    · exact h.elim
end
theorem factN_of_run (hE : E.Good P) {fl : List Nat} (hfl : ∀ τ, memN τ fl = true → ∀ x : T τ, (E.enc τ x).all ind0 = true) {act : Tgt → List (AV T) → Hp T → Tree (AV T × Hp T)} (hA : ActOk P E act) {f : Nat} {as : List (AV T)} {v : AV T} {ts : List TypeId} (ha : as.all flt2 = true)
    (h : (resN P fl ts (act (.fn f) as (hp0 : Hp T))).holds fun x => x = v) : FactN P E f as v := by
  intro lim M β hp w vs hnow hL
  have hL0 : LR P E w (fun b => M b ∧ ¬ Own hp.get β b) (fun _ => none) as vs := ⟨hL.1, fun j c x hc hx => RV.flt2 (all_get ha hc) (hL.2 j c x hc hx)⟩
  generalize ht : act (.fn f) as (hp0 : Hp T) = t at h
  have hn0 : Now P E (maxN t) (fun b => M b ∧ ¬ Own hp.get β b) (fun _ => none) (hp0 : Hp T) w := by
    have h0 := now0 (P := P) (E := E) (maxN t) w
    have hn : ∀ id, (hp0 : Hp T).get id = none := fun id => Tr.get_nil id
    have hLv : ∀ id, ¬ Live (hp0 : Hp T).get id := fun id h => by unfold Live at h; rw [hn] at h; exact h
    exact ⟨⟨fun id o h => absurd h (hLv id), fun i j _ _ h => absurd h (hLv i), fun i h h' => absurd h' (hLv i), h0.heap.shade⟩, fun b hb => hnow.nb b hb.1, h0.free, h0.nomem⟩
  obtain ⟨h1, h2⟩ := hA (maxN t) _ (fun _ => none) hp0 w (.fn f) as vs (fun r => (frzNR P fl r.2 ts r.1).holds fun x => x = v) hn0 hL0 (by
    rw [ht]
    exact Tree.holds_mono (fun r hr => ⟨hr.2, hr.1⟩) (Tree.holds_and_every (Tree.holds_bind.1 h) (maxN_every t)))
  refine ⟨h1, h2.mono fun e w' ⟨u, M', β', r, he, hS, hu, hr⟩ => ?_⟩
  have hown0 : ∀ b, ¬ Own (hp0 : Hp T).get (fun _ => none) b := by
    rintro b ⟨id, hd, k1, k2, k3⟩
    cases k2
  have hold : ∀ b, b < w.heap.size → w'.heap[b]? = w.heap[b]? := fun b hb => hS.evo.old b hb (hown0 b)
  have hX : ∀ b, M b → ¬ Own r.2.get β' b := fun b hb ho => by
    rcases hS.evo.own b ho with h | h
    · exact hown0 b h
    · have := hnow.nb b hb
      omega
  obtain ⟨v0, hv, e0⟩ := frzNR_ok hE hfl hS.now.heap hX hu hr
  rw [e0] at hv
  have hst : Stab w M β w' M β := ⟨fun b o _ hb => World.cell?_of_block (w := w) (hold b hb), hS.evo.size, fun b hb => .inl hb, fun _ _ h => h⟩
  refine ⟨u, M, β, (v, hp), he, ⟨⟨hS.evo.os, hS.evo.tape, hS.evo.output, hS.evo.size, fun b hb _ => hold b hb, fun b hb => .inl hb, fun b hb _ => hb, fun b hb => .inl hb, fun _ _ h => h, fun _ _ h => .inl h⟩, ?_, Nat.le_refl _⟩, hv.less fun _ h => h, rfl⟩
  refine ⟨⟨fun id ob hLv hob => ?_, hnow.heap.inj, hnow.heap.own, hnow.heap.shade⟩, fun b hb => Nat.lt_of_lt_of_le (hnow.nb b hb) hS.evo.size, hnow.free, hnow.nomem⟩
  obtain ⟨hd, hβ, hrel⟩ := hnow.heap.obj id ob hLv hob
  exact ⟨hd, hβ, hrel.stab hst (hold _ (hnow.nb _ (hnow.heap.own id hd hLv hβ)))⟩

def conN (P : Program) (shs : List Sh) (sig : List VT) (F : Den T sig → Tree (AV T)) : Con T := fun xs hp =>
  match thawA hp shs xs with
  | some (ys, ps) => match rdArgs P shs ys with
    | some ds => match ofV sig ds with
      | some d => reqs ps ((F d).bind fun v => .leaf (v, hp))
      | none => .fail
    | none => .fail
  | none => .fail
theorem conN_ok [hg : GoodP P E] {f : Nat} {shs : List Sh} {sig : List VT} {F : Den T sig → Tree (AV T)} (h : ∀ (d : Den T sig) (K : AV T → Prop), (F d).holds K → ∃ v, K v ∧ FactN P E f (argsOf shs sig d) v) : ConOk P E f (conN P shs sig F) := by
  have hE := hg.good
  refine ⟨fun xs hp => ?_, fun lim M β hp w xs vs K hnow hL hK => ?_⟩
  · unfold conN
    split
    · split
      · split
        · exact reqs_every (bind_every (R := fun _ => True) (every_true (fun _ => trivial) _) fun v _ => Gr.refl)
        · trivial
      · trivial
    · trivial
  unfold conN at hK
  split at hK
  · rename_i ys ps hth
    split at hK
    · rename_i ds h1
      split at hK
      · rename_i d h2
        obtain ⟨hps, hK⟩ := reqs_holds hK
        obtain ⟨v, hv, hF⟩ := h d _ (Tree.holds_bind.1 hK)
        have hl := thawA_ok (M2 := fun b => M b ∧ ¬ Own hp.get β b) hE hnow.heap (fun _ h => h) hL hth hps
        obtain ⟨vs', e, hk⟩ := rdArgs_ok (P := P) (E := E) h1
        have ea : argsOf shs sig d = vs' := by
          unfold argsOf
          rw [toV_of h2, e]
          rfl
        obtain ⟨q1, q2⟩ := hF lim M β hp w vs hnow (ea ▸ hk w _ β vs hl)
        refine ⟨q1, q2.mono fun e w' ⟨u, M', β', r, he, hS, hu, hr⟩ => ⟨u, M', β', r, he, hS, hu, ?_⟩⟩
        rw [hr]
        exact hv.2
      · exact hK.elim
    · exact hK.elim
  · exact hK.elim
def conPN (P : Program) (shs : List Sh) (sig : List VT) (pre : Den T sig → Prop) (val : Den T sig → AV T) : Con T := conN P shs sig fun d => .req (pre d) (.leaf (val d))
theorem conPN_ok [GoodP P E] {f : Nat} {shs : List Sh} {sig : List VT} {pre : Den T sig → Prop} {val : Den T sig → AV T} (h : ∀ d, pre d → FactN P E f (argsOf shs sig d) (val d)) : ConOk P E f (conPN P shs sig pre val) :=
  conN_ok fun d K ⟨h1, h2⟩ => ⟨val d, h2, h d h1⟩
end Go.Cx
