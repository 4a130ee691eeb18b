/- Contracts that may look at slices of closed objects (slice literals), and answer with new lists. No condition. -/
import Derived.Test.YtcddppakogialaaCz10
set_option linter.unusedVariables false
noncomputable section
namespace Go.Cx
open Go.RowKit
variable {T : Nat → Type} {P : Program} {E : Enc T} {fuel : Nat}
def thx1 (P : Program) (E : Enc T) (hp : Hp T) : Sh1 → AV T → Option (AV T × List Prop)
  | .s τ, v => match v with
    | .ls id τ' len => match hp.get id with
      | some (.lst τ2 l) => if h : τ2 = τ then bif Nat.beq τ' τ then some (.sl τ (h ▸ l) false, [len = l.length]) else none else none
      | _ => none
    | .sc id sz off len (some cap) => match hp.get id with
      | some (.cells n c d) =>
        bif E.ok τ && Nat.beq sz (P.cellsOf τ) && Nat.ble len cap && Nat.ble (off + cap * sz) n then
          match mapO (fun i => E.dec τ asLd (rdN c d sz (off + i * sz))) (iotaFrom len 0) with
          | some l => some (.sl τ l false, [])
          | none => none
        else none
      | _ => none
    | v => some (v, [])
  | _, v => some (v, [])
def thxL1 (P : Program) (E : Enc T) (hp : Hp T) : List Sh1 → List (AV T) → Option (List (AV T) × List Prop)
  | [], [] => some ([], [])
  | s :: ss, v :: vs => match thx1 P E hp s v with
    | some (x, p) => match thxL1 P E hp ss vs with
      | some (xs, ps) => some (x :: xs, p ++ ps)
      | none => none
    | none => none
  | _, _ => none
def thxSh (P : Program) (E : Enc T) (hp : Hp T) : Sh → AV T → Option (AV T × List Prop)
  | .one s, v => thx1 P E hp s v
  | .agg ss, v => match v with
    | .agg cs => match thxL1 P E hp ss cs with
      | some (xs, ps) => some (.agg xs, ps)
      | none => none
    | _ => none
  | _, v => some (v, [])
def thxA (P : Program) (E : Enc T) (hp : Hp T) : List Sh → List (AV T) → Option (List (AV T) × List Prop)
  | [], [] => some ([], [])
  | s :: ss, v :: vs => match thxSh P E hp s v with
    | some (x, p) => match thxA P E hp ss vs with
      | some (xs, ps) => some (x :: xs, p ++ ps)
      | none => none
    | none => none
  | _, _ => none
section
variable {w : World} {M M2 : Nat → Prop} {β : Nat → Option Hd} {hp : Hp T}
theorem thx1_ok (hE : E.Good P) (hH : HeapRel P E w M β hp.get) (hM : ∀ b, M2 b → M b ∧ ¬ Own hp.get β b) {s : Sh1} {v v' : AV T} {ps : List Prop} {u : Value} (hv : RV P E w M β v u) (h : thx1 P E hp s v = some (v', ps)) (hps : ∀ p ∈ ps, p) : RV P E w M2 β v' u := by
  unfold thx1 at h
  split at h
  · rename_i τ
    split at h
    · rename_i id τ' len
      split at h
      · rename_i τ2 l hget
        split at h
        · rename_i e
          subst e
          cases hb : Nat.beq τ' τ2 with
          | false => rw [hb] at h; cases h
          | true =>
            rw [hb] at h
            have e := bbeq hb
            subst e
            cases h
            have hlen := hps _ (List.mem_cons_self ..)
            subst hlen
            show RV P E w M2 β (.sl τ' l false) u
            generalize hq : l.length = q at hv
            cases hv with
            | ls0 =>
              have : l = [] := List.eq_nil_of_length_eq_zero hq
              subst this
              exact .sl0 (fun h => by cases h)
            | ls q1 q2 q3 q4 q5 =>
              subst hq
              have hlive : Live hp.get id := by
                unfold Live
                rw [hget]
                rintro rfl
                simp at q2
              obtain ⟨hd, g1, g2⟩ := hH.obj id _ hlive hget
              rw [q1] at g1
              cases g1
              obtain ⟨vs, el, g3, g4, g5, g6, g7⟩ := g2
              refine .sl (fun i j => vs.getD (_ + (i * P.cellsOf τ' + j)) undef) rfl (Array.getElem?_eq_some_iff.1 g3).1 q3 (fun h => by cases h) g6 (fun _ hm => (hM _ hm).2 ⟨id, _, hlive, q1, rfl⟩) (fun i x j c hx hc => ?_) fun i x j c hx hc => (g7 i x j c hx hc).less fun b hb => (hM b hb).1
              have hi := (List.getElem?_eq_some_iff.1 hx).1
              have hj := (List.getElem?_eq_some_iff.1 hc).1
              rw [hE.len _ g6] at hj
              have := Nat.mul_le_mul_right (P.cellsOf τ') (show i + 1 ≤ l.length by omega)
              rw [Nat.add_mul, Nat.one_mul] at this
              dsimp only
              exact cell_of g3 (by omega)
        · cases h
      · cases h
    · rename_i id sz off len cap
      split at h
      · rename_i n c d hget
        cases hb : E.ok τ && Nat.beq sz (P.cellsOf τ) && Nat.ble len cap && Nat.ble (off + cap * sz) n with
        | false => rw [hb] at h; cases h
        | true =>
          rw [hb] at h
          simp only [cond_true] at h
          split at h
          · rename_i l hl
            cases h
            rw [Bool.and_eq_true, Bool.and_eq_true, Bool.and_eq_true] at hb
            obtain ⟨⟨⟨hok, hsz⟩, hlc⟩, hle⟩ := hb
            have hsz := bbeq hsz
            have hlc := bble hlc
            have hle := bble hle
            have hlive : Live hp.get id := by unfold Live; rw [hget]; trivial
            obtain ⟨h0, g1, g2⟩ := hH.obj id _ hlive hget
            obtain ⟨vs, el, q1, q2, q3, q4⟩ := g2
            obtain ⟨k1, k2⟩ := mapO_get hl
            rw [iotaFrom_length] at k1
            cases hv with
            | sc b1 b2 b3 b4 =>
              rw [b1] at g1
              cases g1
              have b3 := (b3 _ rfl).symm
              subst b3
              have hmulc : l.length * P.cellsOf τ ≤ cap * sz := by rw [k1, hsz]; exact Nat.mul_le_mul_right _ hlc
              have key : RV P E w M2 β (.sl τ l false) (.slice (some ⟨h0.block, h0.base + off, none⟩) l.length cap) := by
                refine .sl (fun i j => vs.getD (h0.base + off + (i * P.cellsOf τ + j)) undef) rfl (Array.getElem?_eq_some_iff.1 q1).1 (by omega) (fun h => by cases h) hok (fun _ hm => (hM _ hm).2 ⟨id, _, hlive, b1, rfl⟩) (fun i x j c' hx hc => ?_) fun i x j c' hx hc => ?_
                · have hi := (List.getElem?_eq_some_iff.1 hx).1
                  have hj := (List.getElem?_eq_some_iff.1 hc).1
                  rw [hE.len _ hok] at hj
                  have := Nat.mul_le_mul_right (P.cellsOf τ) (show i + 1 ≤ l.length by omega)
                  rw [Nat.add_mul, Nat.one_mul] at this
                  dsimp only
                  exact cell_of q1 (by omega)
                · obtain ⟨i', e1, e2⟩ := k2 i x hx
                  have e1 := iotaFrom_get e1
                  have hi : i < l.length := (List.getElem?_eq_some_iff.1 hx).1
                  have hi' : i' = i := by omega
                  subst hi'
                  obtain ⟨r1, r2⟩ := (hE.dec τ _ _ x hok e2).get
                  have hj : j < P.cellsOf τ := by
                    rw [← hE.len τ hok x]
                    exact (List.getElem?_eq_some_iff.1 hc).1
                  have hmul : i' * P.cellsOf τ + P.cellsOf τ ≤ l.length * P.cellsOf τ := by
                    have := Nat.mul_le_mul_right (P.cellsOf τ) (show i' + 1 ≤ l.length by omega)
                    rw [Nat.add_mul, Nat.one_mul] at this
                    exact this
                  have hlt : j < (rdN c d sz (off + i' * sz)).length := by rw [rdN_length]; omega
                  have hget : (rdN c d sz (off + i' * sz))[j]? = some (cellAt c d (off + i' * sz + j)) := by
                    rw [List.getElem?_eq_getElem hlt]
                    rw [(rdN_get c d sz (off + i' * sz) j _ (List.getElem?_eq_getElem hlt)).2]
                  have hrv := q4 (off + i' * sz + j) (by rw [hsz] at hle ⊢; rw [hsz] at hmulc; omega)
                  have e3 : h0.base + (off + i' * sz + j) = h0.base + off + (i' * P.cellsOf τ + j) := by rw [hsz]; omega
                  rw [e3] at hrv
                  exact (cellTo_rv hrv (r2 j _ c' hget hc)).less fun b hb => (hM b hb).1
              rw [k1] at key
              exact key
          · cases h
      · cases h
    · cases h
      exact hv.fewer fun b hb => (hM b hb).1
  · cases h
    exact hv.fewer fun b hb => (hM b hb).1
theorem thxL1_ok (hE : E.Good P) (hH : HeapRel P E w M β hp.get) (hM : ∀ b, M2 b → M b ∧ ¬ Own hp.get β b) : ∀ {ss : List Sh1} {vs xs : List (AV T)} {ps : List Prop} {us : List Value}, LR P E w M β vs us → thxL1 P E hp ss vs = some (xs, ps) → (∀ p ∈ ps, p) → LR P E w M2 β xs us
  | [], [], xs, ps, us, hl, h, _ => by
    cases h
    cases us with
    | nil => exact LR.nil
    | cons => have := hl.1; simp at this
  | s :: ss, v :: vs, xs, ps, us, hl, h, hps => by
    simp only [thxL1] at h
    split at h
    · rename_i x p h1
      split at h
      · rename_i xs' ps' h2
        cases h
        cases us with
        | nil => have := hl.1; simp at this
        | cons u us =>
          obtain ⟨k1, k2⟩ := hl.uncons
          exact LR.cons (thx1_ok hE hH hM k1 h1 fun p hp => hps p (List.mem_append_left _ hp)) (thxL1_ok hE hH hM k2 h2 fun p hp => hps p (List.mem_append_right _ hp))
      · cases h
    · cases h
  | [], _ :: _, _, _, _, _, h, _ => by cases h
  | _ :: _, [], _, _, _, _, h, _ => by cases h
theorem thxSh_ok (hE : E.Good P) (hH : HeapRel P E w M β hp.get) (hM : ∀ b, M2 b → M b ∧ ¬ Own hp.get β b) {s : Sh} {v v' : AV T} {ps : List Prop} {u : Value} (hv : RV P E w M β v u) (h : thxSh P E hp s v = some (v', ps)) (hps : ∀ p ∈ ps, p) : RV P E w M2 β v' u := by
  unfold thxSh at h
  split at h
  · exact thx1_ok hE hH hM hv h hps
  · split at h
    · split at h
      · rename_i xs ps' h1
        cases h
        cases hv with
        | agg k1 k2 =>
          have := thxL1_ok hE hH hM (LR.of_array k1 k2) h1 hps
          simpa using RV.agg' this
      · cases h
    · cases h
  · cases h
    exact hv.fewer fun b hb => (hM b hb).1
theorem thxA_ok (hE : E.Good P) (hH : HeapRel P E w M β hp.get) (hM : ∀ b, M2 b → M b ∧ ¬ Own hp.get β b) : ∀ {ss : List Sh} {vs xs : List (AV T)} {ps : List Prop} {us : List Value}, LR P E w M β vs us → thxA P E hp ss vs = some (xs, ps) → (∀ p ∈ ps, p) → LR P E w M2 β xs us
  | [], [], xs, ps, us, hl, h, _ => by
    cases h
    cases us with
    | nil => exact LR.nil
    | cons => have := hl.1; simp at this
  | s :: ss, v :: vs, xs, ps, us, hl, h, hps => by
    simp only [thxA] at h
    split at h
    · rename_i x p h1
      split at h
      · rename_i xs' ps' h2
        cases h
        cases us with
        | nil => have := hl.1; simp at this
        | cons u us =>
          obtain ⟨k1, k2⟩ := hl.uncons
          exact LR.cons (thxSh_ok hE hH hM k1 h1 fun p hp => hps p (List.mem_append_left _ hp)) (thxA_ok hE hH hM k2 h2 fun p hp => hps p (List.mem_append_right _ hp))
      · cases h
    · cases h
  | [], _ :: _, _, _, _, _, h, _ => by cases h
  | _ :: _, [], _, _, _, _, h, _ => by cases h
end
def conX (P : Program) (E : Enc T) (shs : List Sh) (sig : List VT) (F : Den T sig → Tree (AV T)) : Con T := fun xs hp =>
  match thxA P E hp shs xs with
  | some (ys, ps) => match rdArgs P shs ys with
    | some ds => match ofV sig ds with
      | some d => reqs ps ((F d).bind fun v => .leaf (v, hp))
      | none => .fail
    | none => .fail
  | none => .fail
theorem conX_ok [hg : GoodP P E] {f : Nat} {shs : List Sh} {sig : List VT} {F : Den T sig → Tree (AV T)} (h : ∀ (d : Den T sig) (K : AV T → Prop), (F d).holds K → ∃ v, K v ∧ FactN P E f (argsOf shs sig d) v) : ConOk P E f (conX P E shs sig F) := by
  have hE := hg.good
  refine ⟨fun xs hp => ?_, fun lim M β hp w xs vs K hnow hL hK => ?_⟩
  · unfold conX
    split
    · split
      · split
        · exact reqs_every (bind_every (R := fun _ => True) (every_true (fun _ => trivial) _) fun v _ => Gr.refl)
        · trivial
      · trivial
    · trivial
  unfold conX at hK
  split at hK
  · rename_i ys ps hth
    split at hK
    · rename_i ds h1
      split at hK
      · rename_i d h2
        obtain ⟨hps, hK⟩ := reqs_holds hK
        obtain ⟨v, hv, hF⟩ := h d _ (Tree.holds_bind.1 hK)
        have hl := thxA_ok (M2 := fun b => M b ∧ ¬ Own hp.get β b) hE hnow.heap (fun _ h => h) hL hth hps
        obtain ⟨vs', e, hk⟩ := rdArgs_ok (P := P) (E := E) h1
        have ea : argsOf shs sig d = vs' := by
          unfold argsOf
          rw [toV_of h2, e]
          rfl
        obtain ⟨q1, q2⟩ := hF lim M β hp w vs hnow (ea ▸ hk w _ β vs hl)
        refine ⟨q1, q2.mono fun e w' ⟨u, M', β', r, he, hS, hu, hr⟩ => ⟨u, M', β', r, he, hS, hu, ?_⟩⟩
        rw [hr]
        exact hv.2
      · exact hK.elim
    · exact hK.elim
  · exact hK.elim
def conPX (P : Program) (E : Enc T) (shs : List Sh) (sig : List VT) (pre : Den T sig → Prop) (val : Den T sig → AV T) : Con T := conX P E shs sig fun d => .req (pre d) (.leaf (val d))
theorem conPX_ok [GoodP P E] {f : Nat} {shs : List Sh} {sig : List VT} {pre : Den T sig → Prop} {val : Den T sig → AV T} (h : ∀ d, pre d → FactN P E f (argsOf shs sig d) (val d)) : ConOk P E f (conPX P E shs sig pre val) :=
  conX_ok fun d K ⟨h1, h2⟩ => ⟨val d, h2, h d h1⟩
end Go.Cx
