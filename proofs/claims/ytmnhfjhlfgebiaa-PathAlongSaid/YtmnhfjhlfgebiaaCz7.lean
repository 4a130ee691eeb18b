/- Contracts of calls that read lists of objects and answer with plain scalars. No condition. -/
import Derived.Test.YtmnhfjhlfgebiaaCz6
set_option linter.unusedVariables false
noncomputable section
namespace Go.Cx
open Go.RowKit
variable {T : Nat → Type} {P : Program} {E : Enc T} {fuel : Nat}

/-! ### Values that say nothing of the heap -/
def sca1 : AV T → Bool
  | .int _ _ => true
  | .sym _ _ => true
  | .lit _ => true
  | .bool _ => true
  | .str _ => true
  | .nilp => true
  | .nilf => true
  | .nils => true
  | .emp => true
  | .nili => true
  | _ => false
def sca2 : AV T → Bool
  | .agg cs => cs.all sca1
  | v => sca1 v
def sca : AV T → Bool
  | .tup cs => cs.all sca2
  | v => sca2 v
section
variable {w w' : World} {M M' : Nat → Prop} {β β' : Nat → Option Hd}
theorem RV.sca1 {c : AV T} {v : Value} (h : sca1 c = true) (hv : RV P E w M β c v) : RV P E w' M' β' c v := by
  cases hv with
  | sym => exact .sym
  | int => exact .int
  | lit => exact .lit
  | bool => exact .bool
  | str => exact .str
  | nilp => exact .nilp
  | nilf => exact .nilf
  | nils => exact .nils
  | emp => exact .emp
  | nili => exact .nili
  | _ => cases h
theorem RV.sca2 {c : AV T} {v : Value} (h : sca2 c = true) (hv : RV P E w M β c v) : RV P E w' M' β' c v := by
  cases c with
  | agg cs =>
    cases hv with
    | agg h1 h2 => exact .agg h1 fun j c v hc hv => RV.sca1 (all_get h hc) (h2 j c v hc hv)
  | _ => exact RV.sca1 h hv
theorem RV.sca {c : AV T} {v : Value} (h : sca c = true) (hv : RV P E w M β c v) : RV P E w' M' β' c v := by
  cases c with
  | tup cs =>
    cases hv with
    | tup h1 h2 => exact .tup h1 fun j c v hc hv => RV.sca2 (all_get h hc) (h2 j c v hc hv)
  | _ => exact RV.sca2 h hv
end

/-! ### Places that are only read -/
def isRp : AV T → Bool
  | .rp _ => true
  | .fn _ cs => match cs with
    | [] => true
    | _ :: _ => false
  | _ => false
def flt1r (v : AV T) : Bool := flt1 v || isRp v
def flt3 : AV T → Bool
  | .fn _ cs => cs.all flt1r
  | .mfn _ us cs => us.all flt1r && cs.all flt1r
  | .rp _ => true
  | v => flt2 v
section
variable {w : World} {M M' : Nat → Prop} {β β' : Nat → Option Hd}
theorem RV.isRp {c : AV T} {v : Value} (h : isRp c = true) (hv : RV P E w M β c v) : RV P E w M β' c v := by
  cases hv with
  | rp f h1 h2 h3 h4 h5 => exact .rp f h1 h2 h3 h4 h5
  | fn h1 h2 =>
    rename_i f caps vs
    cases caps with
    | nil => exact .fn h1 fun j c v hc => by simp at hc
    | cons => cases h
  | _ => cases h
theorem RV.flt1r {c : AV T} {v : Value} (h : flt1r c = true) (hv : RV P E w M β c v) : RV P E w M (fun _ => none) c v := by
  unfold Cx.flt1r at h
  rw [Bool.or_eq_true] at h
  rcases h with h | h
  · exact RV.flt1 h hv
  · exact RV.isRp h hv
theorem RV.flt3 {c : AV T} {v : Value} (h : flt3 c = true) (hv : RV P E w M β c v) : RV P E w M (fun _ => none) c v := by
  cases c with
  | fn f cs =>
    cases hv with
    | fn h1 h2 => exact .fn h1 fun j c v hc hv => RV.flt1r (all_get h hc) (h2 j c v hc hv)
  | mfn f us cs =>
    have h : (us.all Cx.flt1r && cs.all Cx.flt1r) = true := h
    rw [Bool.and_eq_true] at h
    cases hv with
    | mfn h1 h2 h3 h4 => exact .mfn h1 (fun j c v hc hv => RV.flt1r (all_get h.1 hc) (h2 j c v hc hv)) h3 fun j c v hc hv => RV.flt1r (all_get h.2 hc) (h4 j c v hc hv)
  | rp cs => exact RV.isRp rfl hv
  | _ => exact RV.flt2 h hv
end
/-- As fact_of_run, where functions may have caught places that are only read. -/
theorem fact_of_run3 (hE : E.Good P) (hDc : E.DecOk P) {act : Tgt → List (AV T) → Hp T → Tree (AV T × Hp T)} (hA : ActOk P E act) {f : Nat} {as : List (AV T)} {v : AV T} {ts : List TypeId} (ha : as.all flt3 = true)
    (h : (resX P E ts (act (.fn f) as (hp0 : Hp T))).holds fun x => x = v) : Fact P E f as v := by
  intro lim M β hp w vs hnow hL
  have hL0 : LR P E w M (fun _ => none) as vs := ⟨hL.1, fun j c x hc hx => RV.flt3 (all_get ha hc) (hL.2 j c x hc hx)⟩
  generalize ht : act (.fn f) as (hp0 : Hp T) = t at h
  have hn0 : Now P E (maxN t) M (fun _ => none) (hp0 : Hp T) w := by
    have h0 := now0 (P := P) (E := E) (maxN t) w
    have hn : ∀ id, (hp0 : Hp T).get id = none := fun id => Tr.get_nil id
    have hLv : ∀ id, ¬ Live (hp0 : Hp T).get id := fun id h => by unfold Live at h; rw [hn] at h; exact h
    exact ⟨⟨fun id o h => absurd h (hLv id), fun i j _ _ h => absurd h (hLv i), fun i h h' => absurd h' (hLv i), h0.heap.shade⟩, hnow.nb, h0.free, h0.nomem⟩
  obtain ⟨h1, h2⟩ := hA (maxN t) M (fun _ => none) hp0 w (.fn f) as vs (fun r => (frzR P E r.2 ts r.1).holds fun x => x = v) hn0 hL0 (by
    rw [ht]
    exact Tree.holds_mono (fun r hr => ⟨hr.2, hr.1⟩) (Tree.holds_and_every (Tree.holds_bind.1 h) (maxN_every t)))
  refine ⟨h1, h2.mono fun e w' ⟨u, M', β', r, he, hS, hu, hr⟩ => ?_⟩
  have hown0 : ∀ b, ¬ Own (hp0 : Hp T).get (fun _ => none) b := by
    rintro b ⟨id, hd, k1, k2, k3⟩
    cases k2
  have hold : ∀ b, b < w.heap.size → w'.heap[b]? = w.heap[b]? := fun b hb => hS.evo.old b hb (hown0 b)
  have hMM : ∀ b, M b → M' b ∧ ¬ Own r.2.get β' b := fun b hb => ⟨hS.evo.keep b hb (hown0 b), fun ho => by
    rcases hS.evo.own b ho with h | h
    · exact hown0 b h
    · have := hnow.nb b hb
      omega⟩
  obtain ⟨v0, hv, e0⟩ := frzR_ok hE hDc hS.now.heap hMM hu hr
  rw [e0] at hv
  have hst : Stab w M β w' M β := ⟨fun b o _ hb => World.cell?_of_block (w := w) (hold b hb), hS.evo.size, fun b hb => .inl hb, fun _ _ h => h⟩
  refine ⟨u, M, β, (v, hp), he, ⟨⟨hS.evo.os, hS.evo.tape, hS.evo.output, hS.evo.size, fun b hb _ => hold b hb, fun b hb => .inl hb, fun b hb _ => hb, fun b hb => .inl hb, fun _ _ h => h, fun _ _ h => .inl h⟩, ?_, Nat.le_refl _⟩, hv.less fun _ h => h, rfl⟩
  refine ⟨⟨fun id ob hLv hob => ?_, hnow.heap.inj, hnow.heap.own, hnow.heap.shade⟩, fun b hb => Nat.lt_of_lt_of_le (hnow.nb b hb) hS.evo.size, hnow.free, hnow.nomem⟩
  obtain ⟨hd, hβ, hrel⟩ := hnow.heap.obj id ob hLv hob
  exact ⟨hd, hβ, hrel.stab hst (hold _ (hnow.nb _ (hnow.heap.own id hd hLv hβ)))⟩

def frz0 (v : AV T) : Option (AV T) := bif flt1 v then some (opn v) else match v with
  | .fn g cs => match cs with
    | [] => some (.fn g [])
    | _ :: _ => none
  | _ => none
/-- The address of an object's cells, as one of cells that never change. -/
def frzC (hp : Hp T) (v : AV T) : Option (AV T) := match v with
  | .ptr id off => match hp.get id with
    | some (.cells n c d) => match mapO frz0 (rdN c d (n - off) off) with
      | some cs => some (.rp cs)
      | none => none
    | _ => none
  | v => bif flt1r v then some v else none
def frz3 (P : Program) (E : Enc T) (hp : Hp T) (t : TypeId) (v : AV T) : Tree (AV T) := match v with
  | .fn f caps => match mapO (frzC hp) caps with
    | some cs => .leaf (.fn f cs)
    | none => .fail
  | .mfn f first caps => match mapO (frzC hp) first with
    | some us => match mapO (frzC hp) caps with
      | some cs => .leaf (.mfn f us cs)
      | none => .fail
    | none => .fail
  | .ptr id off => match frzC hp (.ptr id off) with
    | some v => .leaf v
    | none => .fail
  | v => frz2 P E hp t v
def frzA (P : Program) (E : Enc T) (hp : Hp T) : List TypeId → List (AV T) → Tree (List (AV T))
  | [], [] => .leaf []
  | t :: ts, v :: vs => (frz3 P E hp t v).bind fun x => (frzA P E hp ts vs).bind fun r => .leaf (x :: r)
  | _, _ => .fail
section
variable {w : World} {M M0 : Nat → Prop} {β : Nat → Option Hd} {hp : Hp T}
theorem opn_rv {v : AV T} {u : Value} (hv : RV P E w M β v u) : RV P E w M β (opn v) u := hv.opn
theorem frz0_ok (hM : ∀ b, M0 b → M b) {v v' : AV T} {u : Value} (hv : RV P E w M β v u) (h : frz0 v = some v') : RV P E w M0 (fun _ => none) v' u := by
  unfold frz0 at h
  cases hf : flt1 v with
  | true =>
    rw [hf] at h
    cases h
    have h2 := (RV.flt1 hf hv).less (M' := M0) (β' := fun _ => none) hM
    exact opn_rv h2
  | false =>
    rw [hf] at h
    simp only [cond_false] at h
    split at h
    · split at h
      · cases h
        cases hv with
        | fn h1 h2 => exact .fn h1 fun j c v hc => by simp at hc
      · cases h
    · cases h
theorem frzC_ok (hH : HeapRel P E w M β hp.get) (hM : ∀ b, M0 b → M b ∧ ¬ Own hp.get β b) {v v' : AV T} {u : Value} (hv : RV P E w M β v u) (h : frzC hp v = some v') : RV P E w M0 (fun _ => none) v' u := by
  unfold frzC at h
  split at h
  · rename_i id off
    split at h
    · rename_i n c d hget
      split at h
      · rename_i cs hcs
        cases h
        have hlive : Live hp.get id := by unfold Live; rw [hget]; trivial
        obtain ⟨hd, hβ, hO⟩ := hH.obj id _ hlive hget
        obtain ⟨vs, el, q1, q2, q3, q4⟩ := hO
        obtain ⟨k1, k2⟩ := mapO_get hcs
        rw [rdN_length] at k1
        cases hv with
        | ptr hb =>
          rw [hβ] at hb
          cases hb
          have key : ∀ (j : Nat) (x : AV T), cs[j]? = some x → off + j < n ∧ RV P E w M0 (fun _ => none) x (vs.getD (hd.base + off + j) undef) := by
            intro j x hx
            obtain ⟨y, e1, e2⟩ := k2 j x hx
            obtain ⟨e3, e4⟩ := rdN_get _ _ _ _ _ _ e1
            subst e4
            have := q4 (off + j) (by omega)
            rw [← Nat.add_assoc] at this
            exact ⟨by omega, frz0_ok (fun b hb => (hM b hb).1) this e2⟩
          refine .rp (fun j => vs.getD (hd.base + off + j) undef) rfl ?_ (fun _ hm => (hM _ hm).2 ⟨id, hd, hlive, hβ, rfl⟩) (fun j x hx => ?_) fun j x hx => (key j x hx).2
          · rcases Nat.lt_or_ge hd.block w.heap.size with h | h
            · exact h
            · rw [Array.getElem?_eq_none h] at q1; cases q1
          · exact cell_of q1 (by have := (key j x hx).1; show hd.base + off + j < vs.size; omega)
      · cases h
    · cases h
  · cases hf : Cx.flt1r v with
    | true =>
      rw [hf] at h
      cases h
      exact (RV.flt1r hf hv).less fun b hb => (hM b hb).1
    | false => rw [hf] at h; cases h
theorem frz3_ok (hE : E.Good P) (hD : E.DecOk P) (hH : HeapRel P E w M β hp.get) (hM : ∀ b, M0 b → M b ∧ ¬ Own hp.get β b) {t : TypeId} {v : AV T} {u : Value} (hv : RV P E w M β v u) {K : AV T → Prop} (h : (frz3 P E hp t v).holds K) : ∃ v', RV P E w M0 (fun _ => none) v' u ∧ K v' := by
  unfold frz3 at h
  have many : ∀ {caps cs : List (AV T)} {vs : Array Value}, caps.length = vs.size → (∀ (j : Nat) (c : AV T) (v : Value), caps[j]? = some c → vs[j]? = some v → RV P E w M β c v) → mapO (frzC hp) caps = some cs →
      cs.length = vs.size ∧ ∀ (j : Nat) (c : AV T) (v : Value), cs[j]? = some c → vs[j]? = some v → RV P E w M0 (fun _ => none) c v := by
    intro caps cs vs h1 h2 hcs
    obtain ⟨k1, k2⟩ := mapO_get hcs
    refine ⟨by omega, fun j c v hc hv => ?_⟩
    obtain ⟨x, e1, e2⟩ := k2 j c hc
    exact frzC_ok hH hM (h2 j x v e1 hv) e2
  split at h
  · split at h
    · rename_i cs hcs
      cases hv with
      | fn h1 h2 =>
        obtain ⟨q1, q2⟩ := many h1 h2 hcs
        exact ⟨_, .fn q1 q2, h⟩
    · exact h.elim
  · split at h
    · rename_i us hus
      split at h
      · rename_i cs hcs
        cases hv with
        | mfn h1 h2 h3 h4 =>
          obtain ⟨q1, q2⟩ := many h1 h2 hus
          obtain ⟨q3, q4⟩ := many h3 h4 hcs
          exact ⟨_, .mfn q1 q2 q3 q4, h⟩
      · exact h.elim
    · exact h.elim
  · split at h
    · rename_i v' hv'
      exact ⟨v', frzC_ok hH hM hv hv', h⟩
    · exact h.elim
  · exact frz2_ok hE hD hH hM hv h
theorem frzA_ok (hE : E.Good P) (hD : E.DecOk P) (hH : HeapRel P E w M β hp.get) (hM : ∀ b, M0 b → M b ∧ ¬ Own hp.get β b) : ∀ {ts : List TypeId} {vs : List (AV T)} {us : List Value} {K : List (AV T) → Prop}, LR P E w M β vs us → (frzA P E hp ts vs).holds K → ∃ rs, LR P E w M0 (fun _ => none) rs us ∧ K rs
  | [], [], us, K, hl, h => by
    have := hl.1
    cases us with
    | nil => exact ⟨[], LR.nil, h⟩
    | cons => simp at this
  | t :: ts, v :: vs, us, K, hl, h => by
    simp only [frzA] at h
    cases us with
    | nil => have := hl.1; simp at this
    | cons u us =>
      obtain ⟨k1, k2⟩ := hl.uncons
      obtain ⟨v', r1, h⟩ := frz3_ok hE hD hH hM k1 (Tree.holds_bind.1 h)
      obtain ⟨rs, r2, h⟩ := frzA_ok hE hD hH hM k2 (Tree.holds_bind.1 h)
      exact ⟨v' :: rs, r2.cons r1, h⟩
  | [], _ :: _, _, _, _, h => h.elim
  | _ :: _, [], _, _, _, h => h.elim
end

/-- Arguments that may be lists of objects: what is known of a call of them, if it answers with scalars. -/
def conF (P : Program) (E : Enc T) (ts : List TypeId) (shs : List Sh) (sig : List VT) (F : Den T sig → Tree (AV T)) : Con T := fun xs hp =>
  (frzA P E hp ts xs).bind fun ys => match rdArgs P shs ys with
    | some ds => match ofV sig ds with
      | some d => (F d).bind fun v => bif sca v then .leaf (v, hp) else .fail
      | none => .fail
    | none => .fail

theorem fact_frozen {f : Nat} {ys : List (AV T)} {v : AV T} (hF : Fact P E f ys v) (hs : sca v = true) {lim : Nat} {M : Nat → Prop} {β : Nat → Option Hd} {hp : Hp T} {w : World} {vs : List Value} (hnow : Now P E lim M β hp w)
    (hL : LR P E w (fun b => M b ∧ ¬ Own hp.get β b) (fun _ => none) ys vs) : CallOk P f ∧ Calls P f vs.toArray w (Post P E lim M β hp w fun r => r = (v, hp)) := by
  have hn : ∀ id, (hp0 : Hp T).get id = none := fun id => Tr.get_nil id
  have hLv : ∀ id, ¬ Live (hp0 : Hp T).get id := fun id h => by unfold Live at h; rw [hn] at h; exact h
  have h0 := now0 (P := P) (E := E) (T := T) 0 w
  have hn0 : Now P E 0 (fun b => M b ∧ ¬ Own hp.get β b) (fun _ => none) (hp0 : Hp T) w :=
    ⟨⟨fun id o h => absurd h (hLv id), fun i j _ _ h => absurd h (hLv i), fun i h h' => absurd h' (hLv i), h0.heap.shade⟩, fun b hb => hnow.nb b hb.1, h0.free, h0.nomem⟩
  obtain ⟨h1, h2⟩ := hF 0 _ _ hp0 w vs hn0 hL
  refine ⟨h1, h2.mono fun e w' ⟨u, M', β', r, he, hS, hu, hr⟩ => ?_⟩
  have hown0 : ∀ b, ¬ Own (hp0 : Hp T).get (fun _ => none) b := by
    rintro b ⟨id, hd, k1, k2, k3⟩
    cases k2
  have hold : ∀ b, b < w.heap.size → w'.heap[b]? = w.heap[b]? := fun b hb => hS.evo.old b hb (hown0 b)
  rw [hr] at hu
  have hst : Stab w M β w' M β := ⟨fun b o _ hb => World.cell?_of_block (w := w) (hold b hb), hS.evo.size, fun b hb => .inl hb, fun _ _ h => h⟩
  refine ⟨u, M, β, (v, hp), he, ⟨⟨hS.evo.os, hS.evo.tape, hS.evo.output, hS.evo.size, fun b hb _ => hold b hb, fun b hb => .inl hb, fun b hb _ => hb, fun b hb => .inl hb, fun _ _ h => h, fun _ _ h => .inl h⟩, ?_, Nat.le_refl _⟩, RV.sca hs hu, rfl⟩
  refine ⟨⟨fun id ob hLv hob => ?_, hnow.heap.inj, hnow.heap.own, hnow.heap.shade⟩, fun b hb => Nat.lt_of_lt_of_le (hnow.nb b hb) hS.evo.size, hnow.free, hnow.nomem⟩
  obtain ⟨hd, hβ, hrel⟩ := hnow.heap.obj id ob hLv hob
  exact ⟨hd, hβ, hrel.stab hst (hold _ (hnow.nb _ (hnow.heap.own id hd hLv hβ)))⟩

theorem conF_ok (hE : E.Good P) (hD : E.DecOk P) {f : Nat} {ts : List TypeId} {shs : List Sh} {sig : List VT} {F : Den T sig → Tree (AV T)} (h : ∀ (d : Den T sig) (K : AV T → Prop), (F d).holds K → ∃ v, K v ∧ Fact P E f (argsOf shs sig d) v) : ConOk P E f (conF P E ts shs sig F) := by
  refine ⟨fun xs hp => ?_, fun lim M β hp w xs vs K hnow hL hK => ?_⟩
  · unfold conF
    refine bind_every (R := fun _ => True) (every_true (fun _ => trivial) _) fun ys _ => ?_
    split
    · split
      · refine bind_every (R := fun _ => True) (every_true (fun _ => trivial) _) fun v _ => ?_
        cases sca v with
        | false => trivial
        | true => exact Gr.refl
      · trivial
    · trivial
  unfold conF at hK
  obtain ⟨ys, hL', hK⟩ := frzA_ok (M0 := fun b => M b ∧ ¬ Own hp.get β b) hE hD hnow.heap (fun b hb => hb) hL (Tree.holds_bind.1 hK)
  split at hK
  · rename_i ds h1
    split at hK
    · rename_i d h2
      obtain ⟨v, hv, hF⟩ := h d _ (Tree.holds_bind.1 hK)
      cases hs : sca v with
      | false => rw [hs] at hv; exact hv.elim
      | true =>
      rw [hs] at hv
      have hF' : Fact P E f ys v := hF.le fun w M β us hl => by
        obtain ⟨vs', e, hk⟩ := rdArgs_ok (P := P) (E := E) h1
        have : argsOf shs sig d = vs' := by
          unfold argsOf
          rw [toV_of h2, e]
          rfl
        rw [this]
        exact hk w M β us hl
      obtain ⟨q1, q2⟩ := fact_frozen hF' hs hnow hL'
      refine ⟨q1, q2.mono fun e w' ⟨u, M', β', r, he, hS, hu, hr⟩ => ⟨u, M', β', r, he, hS, hu, ?_⟩⟩
      rw [hr]
      exact hv.2
    · exact hK.elim
  · exact hK.elim
/-- The same, without a condition. -/
def conFV (P : Program) (E : Enc T) (ts : List TypeId) (shs : List Sh) (sig : List VT) (val : Den T sig → AV T) : Con T := conF P E ts shs sig fun d => .leaf (val d)
theorem conFV_ok (hE : E.Good P) (hD : E.DecOk P) {f : Nat} {ts : List TypeId} {shs : List Sh} {sig : List VT} {val : Den T sig → AV T} (h : ∀ d, Fact P E f (argsOf shs sig d) (val d)) : ConOk P E f (conFV P E ts shs sig val) :=
  conF_ok hE hD fun d _ h2 => ⟨val d, h2, h d⟩
/-- The same, with a condition. -/
def conFP (P : Program) (E : Enc T) (ts : List TypeId) (shs : List Sh) (sig : List VT) (pre : Den T sig → Prop) (val : Den T sig → AV T) : Con T := conF P E ts shs sig fun d => .req (pre d) (.leaf (val d))
theorem conFP_ok (hE : E.Good P) (hD : E.DecOk P) {f : Nat} {ts : List TypeId} {shs : List Sh} {sig : List VT} {pre : Den T sig → Prop} {val : Den T sig → AV T} (h : ∀ d, pre d → Fact P E f (argsOf shs sig d) (val d)) : ConOk P E f (conFP P E ts shs sig pre val) :=
  conF_ok hE hD fun d _ ⟨h1, h2⟩ => ⟨val d, h2, h d h1⟩
end Go.Cx
