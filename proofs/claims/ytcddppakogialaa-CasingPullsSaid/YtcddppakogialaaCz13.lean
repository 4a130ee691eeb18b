/- Contracts of calls that answer with new lists that may be written. No condition. -/
import Derived.Test.YtcddppakogialaaCz11
import Derived.Test.YtcddppakogialaaCz12
set_option linter.unusedVariables false
noncomputable section
namespace Go.Cx
open Go.RowKit
variable {T : Nat → Type} {P : Program} {E : Enc T} {fuel : Nat}
abbrev Ent (T : Nat → Type) := Option Nat × V T
def renW1 (n : Nat) (v : AV T) : AV T := match v with
  | .ls j τ len => forceN (n + j) fun m => .ls m τ len
  | v => v
def renWL (n : Nat) : List (AV T) → List (AV T)
  | [] => []
  | v :: vs => renW1 n v :: renWL n vs
def renW2 (n : Nat) (v : AV T) : AV T := match v with
  | .agg cs => .agg (renWL n cs)
  | v => renW1 n v
def renWM (n : Nat) : List (AV T) → List (AV T)
  | [] => []
  | v :: vs => renW2 n v :: renWM n vs
def renW (n : Nat) (v : AV T) : AV T := match v with
  | .tup cs => .tup (renWM n cs)
  | v => renW2 n v
section
variable (P : Program) (fl : List Nat)
def frzW1 (hp : Hp T) (t : TypeId) (v : AV T) (j : Nat) : Tree (AV T × List (Ent T)) :=
  match P.underlying t with
  | some (.int _) => match asN v with
    | some (k, n) => .leaf (.sym k n, [])
    | none => .fail
  | some .bool => match asB v with
    | some b => .leaf (.bool b, [])
    | none => .fail
  | some (.slice σ) => match v with
    | .ls id τ' len => match hp.get id with
      | some (.lst τ2 l) => bif Nat.beq τ' τ2 && memN τ2 fl then .leaf (.ls j τ' len, [(some id, .l τ2 l)]) else .fail
      | _ => .fail
    | .nils => .leaf (.ls j σ 0, [(none, .l σ [])])
    | .emp => .leaf (.ls j σ 0, [(none, .l σ [])])
    | _ => .fail
  | _ => .fail
def frzWL (hp : Hp T) : List TypeId → List (AV T) → Nat → Tree (List (AV T) × List (Ent T))
  | [], [], _ => .leaf ([], [])
  | t :: ts, v :: vs, j => (frzW1 P fl hp t v j).bind fun x => (frzWL hp ts vs (j + x.2.length)).bind fun r => .leaf (x.1 :: r.1, x.2 ++ r.2)
  | _, _, _ => .fail
def frzW2 (hp : Hp T) (t : TypeId) (v : AV T) (j : Nat) : Tree (AV T × List (Ent T)) :=
  match v with
  | .agg cs => (frzWL P fl hp (cellTys P 6 t) cs j).bind fun r => .leaf (.agg r.1, r.2)
  | v => frzW1 P fl hp t v j
def frzWM (hp : Hp T) : List TypeId → List (AV T) → Nat → Tree (List (AV T) × List (Ent T))
  | [], [], _ => .leaf ([], [])
  | t :: ts, v :: vs, j => (frzW2 P fl hp t v j).bind fun x => (frzWM hp ts vs (j + x.2.length)).bind fun r => .leaf (x.1 :: r.1, x.2 ++ r.2)
  | _, _, _ => .fail
def frzWR (hp : Hp T) (ts : List TypeId) (v : AV T) : Tree (AV T × List (Ent T)) :=
  match v with
  | .tup cs => (frzWM P fl hp ts cs 0).bind fun r => .leaf (.tup r.1, r.2)
  | v => match ts with
    | [t] => frzW2 P fl hp t v 0
    | _ => .fail
def hasE (i : Nat) : List (Ent T) → Bool
  | [] => false
  | e :: es => (match e.1 with
    | some k => Nat.beq i k
    | none => false) || hasE i es
def idsNd : List (Ent T) → Bool
  | [] => true
  | e :: es => (match e.1 with
    | some i => !hasE i es
    | none => true) && idsNd es
def sndW : List (Ent T) → List (V T)
  | [] => []
  | e :: es => e.2 :: sndW es
/-- The answer of a function, and its new lists. -/
def resW (ts : List TypeId) (t : Tree (AV T × Hp T)) : Tree (AV T × List (V T)) := t.bind fun r => (frzWR P fl r.2 ts r.1).bind fun x => bif idsNd x.2 then .leaf (x.1, sndW x.2) else .fail
end
/-- New lists, by number. -/
def newAll (hp : Hp T) : List (V T) → Hp T
  | [] => hp
  | y :: r => match y with
    | .l τ l => newAll (hp.new (.lst τ l)) r
    | _ => newAll (hp.new .dead) r
def objV : V T → AO T
  | .l τ l => .lst τ l
  | _ => .dead
theorem newAll_cons (hp : Hp T) (y : V T) (r : List (V T)) : newAll hp (y :: r) = newAll (hp.new (objV y)) r := by cases y <;> rfl
theorem newAll_next : ∀ (es : List (V T)) (hp : Hp T), (newAll hp es).next = hp.next + es.length
  | [], hp => rfl
  | y :: r, hp => by
    rw [newAll_cons, newAll_next r]
    show hp.next + 1 + r.length = hp.next + (r.length + 1)
    omega
theorem newAll_out : ∀ (es : List (V T)) (hp : Hp T) (x : Nat), ¬ (hp.next ≤ x ∧ x < hp.next + es.length) → (newAll hp es).get x = hp.get x
  | [], hp, x, _ => rfl
  | y :: r, hp, x, h => by
    rw [newAll_cons, newAll_out r _ x (by
      show ¬ (hp.next + 1 ≤ x ∧ x < hp.next + 1 + r.length)
      simp only [List.length_cons] at h
      omega), Hp.get_new, if_neg]
    intro e
    simp only [List.length_cons] at h
    omega
theorem newAll_in : ∀ (es : List (V T)) (hp : Hp T) (i : Nat) (y : V T), es[i]? = some y → (newAll hp es).get (hp.next + i) = some (objV y)
  | [], hp, i, y, h => by simp at h
  | z :: r, hp, 0, y, h => by
    simp at h
    subst h
    rw [newAll_cons, newAll_out r _ _ (by
      show ¬ (hp.next + 1 ≤ hp.next + 0 ∧ _)
      omega), Hp.get_new, if_pos (Nat.add_zero _)]
  | z :: r, hp, i + 1, y, h => by
    rw [newAll_cons]
    have := newAll_in r (hp.new (objV z)) i y (by simpa using h)
    have e : (hp.new (objV z)).next + i = hp.next + (i + 1) := by
      show hp.next + 1 + i = hp.next + (i + 1)
      omega
    rw [e] at this
    exact this
theorem newAll_gr : ∀ (es : List (V T)) (hp : Hp T), Gr hp (newAll hp es)
  | [], hp => Gr.refl
  | y :: r, hp => by
    rw [newAll_cons]
    exact Gr.trans Gr.new (newAll_gr r _)
/-- The new names stand for the blocks of the old ones. -/
def Nm (β β2 : Nat → Option Hd) (m : Nat) (es : List (Ent T)) : Prop := ∀ (i id : Nat) (y : V T) (h : Hd), es[i]? = some (some id, y) → β id = some h → β2 (m + i) = some h
theorem Nm.left {β β2 : Nat → Option Hd} {m : Nat} {a b : List (Ent T)} (h : Nm β β2 m (a ++ b)) : Nm β β2 m a := fun i id y hd e k =>
  h i id y hd (by rw [List.getElem?_append_left (List.getElem?_eq_some_iff.1 e).1]; exact e) k
theorem Nm.right {β β2 : Nat → Option Hd} {m : Nat} {a b : List (Ent T)} (h : Nm β β2 m (a ++ b)) : Nm β β2 (m + a.length) b := fun i id y hd e k => by
  have := h (a.length + i) id y hd (by rw [List.getElem?_append_right (by omega), Nat.add_sub_cancel_left]; exact e) k
  rwa [← Nat.add_assoc] at this
def EntOk (fl : List Nat) (hp : Hp T) (e : Ent T) : Prop := (∃ id τ l, e = (some id, .l τ l) ∧ hp.get id = some (.lst τ l) ∧ memN τ fl = true) ∨ ∃ τ, e = (none, .l τ [])
section
variable {w : World} {M : Nat → Prop} {β : Nat → Option Hd} {hp : Hp T} {fl : List Nat}
theorem frzW1_ok {t : TypeId} {v : AV T} {u : Value} {j : Nat} (hv : RV P E w M β v u) {K : AV T × List (Ent T) → Prop} (h : (frzW1 P fl hp t v j).holds K) :
    ∃ x, K x ∧ (∀ e ∈ x.2, EntOk fl hp e) ∧ (∀ n, renW2 n x.1 = renW1 n x.1 ∧ renW n x.1 = renW1 n x.1) ∧ ∀ (n : Nat) (w2 : World) (M2 : Nat → Prop) (β2 : Nat → Option Hd), Nm β β2 (n + j) x.2 → RV P E w2 M2 β2 (renW1 n x.1) u := by
  unfold frzW1 at h
  split at h
  · split at h
    · rename_i k n hn
      refine ⟨_, h, fun e (he : e ∈ []) => absurd he (by simp), fun _ => ⟨rfl, rfl⟩, fun n w2 M2 β2 _ => ?_⟩
      rw [asN_val hv hn]
      exact .sym
    · exact h.elim
  · split at h
    · rename_i b hb
      refine ⟨_, h, fun e (he : e ∈ []) => absurd he (by simp), fun _ => ⟨rfl, rfl⟩, fun n w2 M2 β2 _ => ?_⟩
      rw [asB_val hv hb]
      exact .bool
    · exact h.elim
  · rename_i σ _
    split at h
    · rename_i id τ' len
      split at h
      · rename_i τ2 l hget
        cases hb : Nat.beq τ' τ2 && memN τ2 fl with
        | false => rw [hb] at h; exact h.elim
        | true =>
          rw [hb] at h
          rw [Bool.and_eq_true] at hb
          have e := bbeq hb.1
          subst e
          refine ⟨_, h, fun e he => ?_, fun _ => ⟨rfl, rfl⟩, fun n w2 M2 β2 hn => ?_⟩
          · cases he with
            | head => exact .inl ⟨id, τ', l, rfl, hget, hb.2⟩
            | tail _ he => cases he
          · show RV P E w2 M2 β2 (forceN (n + j) fun m => .ls m τ' len) u
            rw [forceN_eq]
            cases hv with
            | ls0 => exact .ls0
            | ls q1 q2 q3 q4 q5 => exact .ls (by have := hn 0 id _ _ rfl q1; rwa [Nat.add_zero] at this) q2 q3 q4 q5
      · exact h.elim
    · cases hv
      refine ⟨_, h, fun e he => ?_, fun _ => ⟨rfl, rfl⟩, fun n w2 M2 β2 hn => ?_⟩
      · cases he with
        | head => exact .inr ⟨σ, rfl⟩
        | tail _ he => cases he
      · show RV P E w2 M2 β2 (forceN (n + j) fun m => .ls m σ 0) _
        rw [forceN_eq]
        exact .ls0
    · cases hv
      refine ⟨_, h, fun e he => ?_, fun _ => ⟨rfl, rfl⟩, fun n w2 M2 β2 hn => ?_⟩
      · cases he with
        | head => exact .inr ⟨σ, rfl⟩
        | tail _ he => cases he
      · show RV P E w2 M2 β2 (forceN (n + j) fun m => .ls m σ 0) _
        rw [forceN_eq]
        exact .ls0
    · exact h.elim
  · exact h.elim
theorem frzWL_ok : ∀ {ts : List TypeId} {vs : List (AV T)} {us : List Value} {j : Nat} {K : List (AV T) × List (Ent T) → Prop}, LR P E w M β vs us → (frzWL P fl hp ts vs j).holds K →
    ∃ x, K x ∧ (∀ e ∈ x.2, EntOk fl hp e) ∧ ∀ (n : Nat) (w2 : World) (M2 : Nat → Prop) (β2 : Nat → Option Hd), Nm β β2 (n + j) x.2 → LR P E w2 M2 β2 (renWL n x.1) us
  | [], [], us, j, K, hl, h => by
    cases us with
    | nil => exact ⟨_, h, fun e (he : e ∈ []) => absurd he (by simp), fun _ _ _ _ _ => LR.nil⟩
    | cons => have := hl.1; simp at this
  | t :: ts, v :: vs, us, j, K, hl, h => by
    simp only [frzWL] at h
    cases us with
    | nil => have := hl.1; simp at this
    | cons u us =>
      obtain ⟨k1, k2⟩ := hl.uncons
      obtain ⟨x, r1, e1, _, g1⟩ := frzW1_ok k1 (Tree.holds_bind.1 h)
      obtain ⟨y, r2, e2, g2⟩ := frzWL_ok k2 (Tree.holds_bind.1 r1)
      refine ⟨_, r2, fun e he => ?_, fun n w2 M2 β2 hn => LR.cons (g1 n w2 M2 β2 hn.left) (g2 n w2 M2 β2 ?_)⟩
      · rcases List.mem_append.1 he with he | he
        · exact e1 e he
        · exact e2 e he
      · have := hn.right
        rwa [Nat.add_assoc] at this
  | [], _ :: _, _, _, _, _, h => h.elim
  | _ :: _, [], _, _, _, _, h => h.elim
theorem frzW2_ok {t : TypeId} {v : AV T} {u : Value} {j : Nat} (hv : RV P E w M β v u) {K : AV T × List (Ent T) → Prop} (h : (frzW2 P fl hp t v j).holds K) :
    ∃ x, K x ∧ (∀ e ∈ x.2, EntOk fl hp e) ∧ (∀ n, renW n x.1 = renW2 n x.1) ∧ ∀ (n : Nat) (w2 : World) (M2 : Nat → Prop) (β2 : Nat → Option Hd), Nm β β2 (n + j) x.2 → RV P E w2 M2 β2 (renW2 n x.1) u := by
  unfold frzW2 at h
  split at h
  · cases hv with
    | agg k1 k2 =>
      obtain ⟨x, r1, e1, g1⟩ := frzWL_ok (LR.of_array k1 k2) (Tree.holds_bind.1 h)
      refine ⟨_, r1, e1, fun _ => rfl, fun n w2 M2 β2 hn => ?_⟩
      have := RV.agg' (g1 n w2 M2 β2 hn)
      show RV P E w2 M2 β2 (.agg (renWL n x.1)) _
      simpa using this
  · obtain ⟨x, r1, e1, q, g1⟩ := frzW1_ok hv h
    refine ⟨x, r1, e1, fun n => (q n).2.trans (q n).1.symm, fun n w2 M2 β2 hn => ?_⟩
    rw [(q n).1]
    exact g1 n w2 M2 β2 hn
theorem frzWM_ok : ∀ {ts : List TypeId} {vs : List (AV T)} {us : List Value} {j : Nat} {K : List (AV T) × List (Ent T) → Prop}, LR P E w M β vs us → (frzWM P fl hp ts vs j).holds K →
    ∃ x, K x ∧ (∀ e ∈ x.2, EntOk fl hp e) ∧ ∀ (n : Nat) (w2 : World) (M2 : Nat → Prop) (β2 : Nat → Option Hd), Nm β β2 (n + j) x.2 → LR P E w2 M2 β2 (renWM n x.1) us
  | [], [], us, j, K, hl, h => by
    cases us with
    | nil => exact ⟨_, h, fun e (he : e ∈ []) => absurd he (by simp), fun _ _ _ _ _ => LR.nil⟩
    | cons => have := hl.1; simp at this
  | t :: ts, v :: vs, us, j, K, hl, h => by
    simp only [frzWM] at h
    cases us with
    | nil => have := hl.1; simp at this
    | cons u us =>
      obtain ⟨k1, k2⟩ := hl.uncons
      obtain ⟨x, r1, e1, _, g1⟩ := frzW2_ok k1 (Tree.holds_bind.1 h)
      obtain ⟨y, r2, e2, g2⟩ := frzWM_ok k2 (Tree.holds_bind.1 r1)
      refine ⟨_, r2, fun e he => ?_, fun n w2 M2 β2 hn => LR.cons (g1 n w2 M2 β2 hn.left) (g2 n w2 M2 β2 ?_)⟩
      · rcases List.mem_append.1 he with he | he
        · exact e1 e he
        · exact e2 e he
      · have := hn.right
        rwa [Nat.add_assoc] at this
  | [], _ :: _, _, _, _, _, h => h.elim
  | _ :: _, [], _, _, _, _, h => h.elim
theorem frzWR_ok {ts : List TypeId} {v : AV T} {u : Value} (hv : RV P E w M β v u) {K : AV T × List (Ent T) → Prop} (h : (frzWR P fl hp ts v).holds K) :
    ∃ x, K x ∧ (∀ e ∈ x.2, EntOk fl hp e) ∧ ∀ (n : Nat) (w2 : World) (M2 : Nat → Prop) (β2 : Nat → Option Hd), Nm β β2 n x.2 → RV P E w2 M2 β2 (renW n x.1) u := by
  unfold frzWR at h
  split at h
  · cases hv with
    | tup k1 k2 =>
      obtain ⟨x, r1, e1, g1⟩ := frzWM_ok (LR.of_array k1 k2) (Tree.holds_bind.1 h)
      refine ⟨_, r1, e1, fun n w2 M2 β2 hn => ?_⟩
      have g := g1 n w2 M2 β2 hn
      exact .tup (by simpa using g.1) fun j c v hc hv => g.2 j c v hc (by simpa using hv)
  · split at h
    · obtain ⟨x, r1, e1, q, g1⟩ := frzW2_ok hv h
      refine ⟨x, r1, e1, fun n w2 M2 β2 hn => ?_⟩
      rw [q n]
      exact g1 n w2 M2 β2 hn
    · exact h.elim
end
theorem sndW_get : ∀ {es : List (Ent T)} {i : Nat}, (sndW es)[i]? = (es[i]?).map Prod.snd
  | [], i => by simp [sndW]
  | e :: es, 0 => by simp [sndW]
  | e :: es, i + 1 => by simpa [sndW] using sndW_get (es := es) (i := i)
theorem sndW_length : ∀ {es : List (Ent T)}, (sndW es).length = es.length
  | [] => rfl
  | e :: es => congrArg (· + 1) (sndW_length (es := es))
theorem hasE_ok {i : Nat} : ∀ {es : List (Ent T)} {k : Nat} {y : V T}, hasE i es = false → es[k]? ≠ some (some i, y)
  | [], k, y, _, h => by simp at h
  | e :: es, 0, y, h, h2 => by
    simp at h2
    subst h2
    unfold hasE at h
    rw [Bool.or_eq_false_iff] at h
    have := h.1
    simp at this
  | e :: es, k + 1, y, h, h2 => by
    unfold hasE at h
    rw [Bool.or_eq_false_iff] at h
    exact hasE_ok (k := k) h.2 (by simpa using h2)
theorem idsNd_ok : ∀ {es : List (Ent T)} {i j a b : Nat} {y z : V T}, idsNd es = true → i < j → es[i]? = some (some a, y) → es[j]? = some (some b, z) → a ≠ b
  | [], i, j, a, b, y, z, _, _, h, _ => by simp at h
  | e :: es, 0, 0, a, b, y, z, h, hij, _, _ => absurd hij (by omega)
  | e :: es, 0, j + 1, a, b, y, z, h, hij, h1, h2 => by
    simp at h1
    subst h1
    unfold idsNd at h
    rw [Bool.and_eq_true] at h
    have h1 : (!hasE a es) = true := h.1
    rintro rfl
    exact hasE_ok (es := es) (k := j) (y := z) (by simpa using h1) (by simpa using h2)
  | e :: es, i + 1, 0, a, b, y, z, h, hij, _, _ => absurd hij (by omega)
  | e :: es, i + 1, j + 1, a, b, y, z, h, hij, h1, h2 => by
    unfold idsNd at h
    rw [Bool.and_eq_true] at h
    exact idsNd_ok (i := i) (j := j) h.2 (by omega) (by simpa using h1) (by simpa using h2)
end Go.Cx
