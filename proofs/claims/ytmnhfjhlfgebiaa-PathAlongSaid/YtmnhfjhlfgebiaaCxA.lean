/- The evaluator: decision trees, tries, abstract values and objects. No condition. -/
import Derived.WalkKit
import Derived.Orders
set_option linter.unusedVariables false
noncomputable section
namespace Go.Cx

/-! Decision trees: what the evaluator gives. -/
inductive Tree (α : Type) where
  | fail
  | leaf (a : α)
  | br (b : Bool) (t f : Tree α)
  | req (p : Prop) (t : Tree α)
  /-- both are possible -/
  | amb (t f : Tree α)

namespace Tree
variable {α β : Type}
def bind (t : Tree α) (k : α → Tree β) : Tree β := Tree.rec (motive := fun _ => Tree β) .fail (fun a => k a) (fun b _ _ x y => .br b x y) (fun p _ x => .req p x) (fun _ _ x y => .amb x y) t
theorem bind_fail (k : α → Tree β) : (Tree.fail : Tree α).bind k = .fail := rfl
theorem bind_leaf (a : α) (k : α → Tree β) : (Tree.leaf a).bind k = k a := rfl
theorem bind_br (b : Bool) (t f : Tree α) (k : α → Tree β) : (Tree.br b t f).bind k = .br b (t.bind k) (f.bind k) := rfl
theorem bind_req (p : Prop) (t : Tree α) (k : α → Tree β) : (Tree.req p t).bind k = .req p (t.bind k) := rfl
theorem bind_amb (t f : Tree α) (k : α → Tree β) : (Tree.amb t f).bind k = .amb (t.bind k) (f.bind k) := rfl

/-- What is shown of every leaf that can be reached. -/
def holds (Q : α → Prop) : Tree α → Prop
  | .fail => False
  | .leaf a => Q a
  | .br b t f => (b = true → t.holds Q) ∧ (b = false → f.holds Q)
  | .req p t => p ∧ t.holds Q
  | .amb t f => t.holds Q ∧ f.holds Q

/-- The one leaf that is reached, where nothing is left open. -/
def reach : Tree α → α → Prop
  | .fail, _ => False
  | .leaf a, x => x = a
  | .br b t f, x => (b = true ∧ t.reach x) ∨ (b = false ∧ f.reach x)
  | .req p t, x => p ∧ t.reach x
  | .amb _ _, _ => False

def deamb : Tree α → Tree α
  | .fail => .fail
  | .leaf a => .leaf a
  | .br b t f => .br b t.deamb f.deamb
  | .req p t => .req p t.deamb
  | .amb _ _ => .fail

theorem holds_bind {Q : β → Prop} {k : α → Tree β} : ∀ {t : Tree α}, (t.bind k).holds Q ↔ t.holds fun a => (k a).holds Q
  | .fail => Iff.rfl
  | .leaf _ => Iff.rfl
  | .br _ _ _ => by simp only [bind_br, holds, holds_bind]
  | .req _ _ => by simp only [bind_req, holds, holds_bind]
  | .amb _ _ => by simp only [bind_amb, holds, holds_bind]

theorem holds_mono {Q R : α → Prop} (h : ∀ a, Q a → R a) : ∀ {t : Tree α}, t.holds Q → t.holds R
  | .fail, x => x
  | .leaf a, x => h a x
  | .br _ _ _, x => ⟨fun e => holds_mono h (x.1 e), fun e => holds_mono h (x.2 e)⟩
  | .req _ _, x => ⟨x.1, holds_mono h x.2⟩
  | .amb _ _, x => ⟨holds_mono h x.1, holds_mono h x.2⟩

/-- What holds of every leaf, whatever the tests. -/
def every (Q : α → Prop) : Tree α → Prop
  | .fail => True
  | .leaf a => Q a
  | .br _ t f => t.every Q ∧ f.every Q
  | .req _ t => t.every Q
  | .amb t f => t.every Q ∧ f.every Q

theorem every_bind {Q : β → Prop} {k : α → Tree β} : ∀ {t : Tree α}, t.every (fun a => (k a).every Q) → (t.bind k).every Q
  | .fail, _ => trivial
  | .leaf _, h => h
  | .br _ _ _, h => ⟨every_bind h.1, every_bind h.2⟩
  | .req _ t, h => every_bind (t := t) h
  | .amb _ _, h => ⟨every_bind h.1, every_bind h.2⟩

theorem every_mono {Q R : α → Prop} (h : ∀ a, Q a → R a) : ∀ {t : Tree α}, t.every Q → t.every R
  | .fail, _ => trivial
  | .leaf a, x => h a x
  | .br _ _ _, x => ⟨every_mono h x.1, every_mono h x.2⟩
  | .req _ t, x => every_mono (t := t) h x
  | .amb _ _, x => ⟨every_mono h x.1, every_mono h x.2⟩

theorem holds_and_every {Q R : α → Prop} : ∀ {t : Tree α}, t.holds Q → t.every R → t.holds fun a => Q a ∧ R a
  | .fail, h, _ => h
  | .leaf _, h, h' => ⟨h, h'⟩
  | .br _ _ _, h, h' => ⟨fun e => holds_and_every (h.1 e) h'.1, fun e => holds_and_every (h.2 e) h'.2⟩
  | .req _ _, h, h' => ⟨h.1, holds_and_every h.2 h'⟩
  | .amb _ _, h, h' => ⟨holds_and_every h.1 h'.1, holds_and_every h.2 h'.2⟩

theorem holds_some {Q : α → Prop} : ∀ {t : Tree α}, t.holds Q → ∃ x, Q x
  | .fail, h => h.elim
  | .leaf a, h => ⟨a, h⟩
  | .br b _ _, h => by
    cases b with
    | true => exact holds_some (h.1 rfl)
    | false => exact holds_some (h.2 rfl)
  | .req _ _, h => holds_some h.2
  | .amb _ _, h => holds_some h.1

theorem reach_every {Q : α → Prop} {x : α} : ∀ {t : Tree α}, t.reach x → t.every Q → Q x
  | .fail, h, _ => h.elim
  | .leaf _, h, h' => by cases h; exact h'
  | .br _ _ _, h, h' => by
    rcases h with ⟨_, h⟩ | ⟨_, h⟩
    · exact reach_every h h'.1
    · exact reach_every h h'.2
  | .req _ t, h, h' => reach_every (t := t) h.2 h'
  | .amb _ _, h, _ => h.elim

theorem reach_holds {x : α} : ∀ {t : Tree α}, t.reach x → t.holds fun y => y = x
  | .fail, h => h.elim
  | .leaf _, h => h.symm
  | .br b t f, h => by
    rcases h with ⟨rfl, h⟩ | ⟨rfl, h⟩
    · exact ⟨fun _ => reach_holds h, fun e => (by cases e)⟩
    · exact ⟨fun e => (by cases e), fun _ => reach_holds h⟩
  | .req p t, h => ⟨h.1, reach_holds h.2⟩
  | .amb _ _, h => h.elim

theorem deamb_reach {Q : α → Prop} : ∀ {t : Tree α}, t.deamb.holds Q → ∃ x, t.reach x ∧ Q x
  | .fail, h => h.elim
  | .leaf a, h => ⟨a, rfl, h⟩
  | .br b t f, h => by
    cases b with
    | true => obtain ⟨x, hx, hq⟩ := deamb_reach (h.1 rfl); exact ⟨x, .inl ⟨rfl, hx⟩, hq⟩
    | false => obtain ⟨x, hx, hq⟩ := deamb_reach (h.2 rfl); exact ⟨x, .inr ⟨rfl, hx⟩, hq⟩
  | .req p t, h => by
    obtain ⟨x, hx, hq⟩ := deamb_reach h.2
    exact ⟨x, ⟨h.1, hx⟩, hq⟩
  | .amb _ _, h => h.elim

theorem reach_bind {k : α → Tree β} {y : β} : ∀ {t : Tree α}, (t.bind k).reach y → ∃ x, t.reach x ∧ (k x).reach y
  | .fail, h => h.elim
  | .leaf a, h => ⟨a, rfl, h⟩
  | .br b t f, h => by
    rcases h with ⟨hb, h⟩ | ⟨hb, h⟩
    · obtain ⟨x, hx, hy⟩ := reach_bind h; exact ⟨x, .inl ⟨hb, hx⟩, hy⟩
    · obtain ⟨x, hx, hy⟩ := reach_bind h; exact ⟨x, .inr ⟨hb, hx⟩, hy⟩
  | .req p t, h => by
    obtain ⟨x, hx, hy⟩ := reach_bind h.2
    exact ⟨x, ⟨h.1, hx⟩, hy⟩
  | .amb _ _, h => h.elim

def ofOption : Option α → Tree α
  | some a => .leaf a
  | none => .fail
theorem holds_ofOption {Q : α → Prop} {o : Option α} (h : (ofOption o).holds Q) : ∃ a, o = some a ∧ Q a := by
  cases o with
  | none => exact h.elim
  | some a => exact ⟨a, rfl, h⟩

/-- A test: in a closed run it is decided here. -/
def ite' (cl b : Bool) (t f : Tree α) : Tree α := bif cl then (bif b then t else f) else .br b t f
def chk (cl b : Bool) (t : Tree α) : Tree α := bif cl then (bif b then t else .fail) else .req (b = true) t
theorem holds_ite' {Q : α → Prop} {cl b : Bool} {t f : Tree α} (h : (ite' cl b t f).holds Q) : (b = true → t.holds Q) ∧ (b = false → f.holds Q) := by
  cases cl with
  | false => exact h
  | true => cases b with
    | true => exact ⟨fun _ => h, fun e => (by cases e)⟩
    | false => exact ⟨fun e => (by cases e), fun _ => h⟩
theorem holds_chk {Q : α → Prop} {cl b : Bool} {t : Tree α} (h : (chk cl b t).holds Q) : b = true ∧ t.holds Q := by
  cases cl with
  | false => exact h
  | true => cases b with
    | true => exact ⟨rfl, h⟩
    | false => exact h.elim
theorem every_ite' {Q : α → Prop} {cl b : Bool} {t f : Tree α} (h1 : t.every Q) (h2 : f.every Q) : (ite' cl b t f).every Q := by
  cases cl with
  | false => exact ⟨h1, h2⟩
  | true => cases b with
    | true => exact h1
    | false => exact h2
theorem every_chk {Q : α → Prop} {cl b : Bool} {t : Tree α} (h1 : t.every Q) : (chk cl b t).every Q := by
  cases cl with
  | false => exact h1
  | true => cases b with
    | true => exact h1
    | false => trivial
theorem every_ofOption {Q : α → Prop} {o : Option α} (h : ∀ a, o = some a → Q a) : (ofOption o).every Q := by
  cases o with
  | none => trivial
  | some a => exact h a rfl
end Tree

/-! Tables by number. -/
inductive Tr (α : Type) where
  | nil
  | node (l : Tr α) (v : Option α) (r : Tr α)

namespace Tr
variable {α : Type}
def get (t : Tr α) : Nat → Option α :=
  Tr.rec (motive := fun _ => Nat → Option α) (fun _ => none) (fun _ v _ ihl ihr n =>
    Nat.rec (motive := fun _ => Option α) v (fun m _ => Bool.rec (motive := fun _ => Option α) (ihr (Nat.div m 2)) (ihl (Nat.div m 2)) (Nat.beq (Nat.mod m 2) 0)) n) t
def left (t : Tr α) : Tr α := Tr.rec (motive := fun _ => Tr α) .nil (fun l _ _ _ _ => l) t
def val (t : Tr α) : Option α := Tr.rec (motive := fun _ => Option α) none (fun _ v _ _ _ => v) t
def right (t : Tr α) : Tr α := Tr.rec (motive := fun _ => Tr α) .nil (fun _ _ r _ _ => r) t
/-- The left part is there already. -/
def mkL (l : Tr α) (v : Option α) (r : Tr α) : Tr α := Tr.rec (motive := fun _ => Tr α) (.node .nil v r) (fun a b c _ _ => .node (.node a b c) v r) l
def mkR (l : Tr α) (v : Option α) (r : Tr α) : Tr α := Tr.rec (motive := fun _ => Tr α) (.node l v .nil) (fun a b c _ _ => .node l v (.node a b c)) r
/-- Both parts of a table, at hand. -/
def open' {β : Type} (t : Tr α) (k : Tr α → Option α → Tr α → β) : β := Tr.rec (motive := fun _ => β) (k .nil none .nil) (fun l v r _ _ => k l v r) t
def setL (ih : Tr α → Nat → Tr α) (l : Tr α) (v : Option α) (r : Tr α) (m : Nat) : Tr α := Tr.rec (motive := fun _ => Tr α) (.node .nil v r) (fun a b c _ _ => .node (.node a b c) v r) (ih l (Nat.div m 2))
def setR (ih : Tr α → Nat → Tr α) (l : Tr α) (v : Option α) (r : Tr α) (m : Nat) : Tr α := Tr.rec (motive := fun _ => Tr α) (.node l v .nil) (fun a b c _ _ => .node l v (.node a b c)) (ih r (Nat.div m 2))
def setN (o : Option α) (ih : Tr α → Nat → Tr α) (l : Tr α) (v : Option α) (r : Tr α) (n : Nat) : Tr α :=
  Nat.rec (motive := fun _ => Tr α) (.node l o r) (fun m _ => Bool.rec (motive := fun _ => Tr α) (setR ih l v r m) (setL ih l v r m) (Nat.beq (Nat.mod m 2) 0)) n
def setF (o : Option α) (fuel : Nat) : Tr α → Nat → Tr α :=
  Nat.rec (motive := fun _ => Tr α → Nat → Tr α) (fun t _ => t) (fun _ ih t n => Tr.rec (motive := fun _ => Tr α) (setN o ih .nil none .nil n) (fun l v r _ _ => setN o ih l v r n) t) fuel
def setG (o : Option α) (f : Nat) (l : Tr α) (v : Option α) (r : Tr α) (n : Nat) : Tr α := match n with
    | 0 => .node l o r
    | m + 1 => bif Nat.beq (m % 2) 0 then mkL (setF o f l (m / 2)) v r else mkR l v (setF o f r (m / 2))
def set (t : Tr α) (n : Nat) (x : α) : Tr α := setF (some x) (n + 1) t n
def del (t : Tr α) (n : Nat) : Tr α := setF none (n + 1) t n
def force {β : Type} (t : Tr α) (k : Tr α → β) : β := Tr.rec (motive := fun _ => β) (k .nil) (fun l v r _ _ => k (.node l v r)) t

theorem mkL_eq (l : Tr α) (v : Option α) (r : Tr α) : mkL l v r = .node l v r := by cases l <;> rfl
theorem mkR_eq (l : Tr α) (v : Option α) (r : Tr α) : mkR l v r = .node l v r := by cases r <;> rfl
theorem force_eq {β : Type} (t : Tr α) (k : Tr α → β) : t.force k = k t := by cases t <;> rfl

theorem get_nil (n : Nat) : (Tr.nil : Tr α).get n = none := rfl
theorem get_node0 (l : Tr α) (v : Option α) (r : Tr α) : (Tr.node l v r).get 0 = v := rfl
theorem get_nodeS (l : Tr α) (v : Option α) (r : Tr α) (m : Nat) : (Tr.node l v r).get (m + 1) = bif Nat.beq (m % 2) 0 then l.get (m / 2) else r.get (m / 2) := by
  show Bool.rec (motive := fun _ => Option α) (r.get (m / 2)) (l.get (m / 2)) (Nat.beq (m % 2) 0) = _
  cases Nat.beq (m % 2) 0 <;> rfl
theorem setF_S (o : Option α) (f : Nat) (t : Tr α) (n : Nat) : setF o (f + 1) t n = t.open' fun l v r => setG o f l v r n := by
  cases t with
  | nil =>
    cases n with
    | zero => rfl
    | succ m =>
      show Bool.rec (motive := fun _ => Tr α) (mkR .nil none (setF o f .nil (m / 2))) (mkL (setF o f .nil (m / 2)) none .nil) (Nat.beq (m % 2) 0) = bif Nat.beq (m % 2) 0 then mkL (setF o f .nil (m / 2)) none .nil else mkR .nil none (setF o f .nil (m / 2))
      cases Nat.beq (m % 2) 0 <;> rfl
  | node l v r =>
    cases n with
    | zero => rfl
    | succ m =>
      show Bool.rec (motive := fun _ => Tr α) (mkR l v (setF o f r (m / 2))) (mkL (setF o f l (m / 2)) v r) (Nat.beq (m % 2) 0) = bif Nat.beq (m % 2) 0 then mkL (setF o f l (m / 2)) v r else mkR l v (setF o f r (m / 2))
      cases Nat.beq (m % 2) 0 <;> rfl

theorem get_setF (o : Option α) : ∀ (f : Nat) (t : Tr α) (n k : Nat), n < f → (setF o f t n).get k = if k = n then o else t.get k := by
  intro f
  induction f with
  | zero => intro t n k h; omega
  | succ f ih =>
    intro t n k h
    rw [setF_S]
    have key : ∀ (l : Tr α) (v : Option α) (r : Tr α), (∀ k, (Tr.node l v r).get k = t.get k) → (setG o f l v r n).get k = if k = n then o else t.get k := by
      intro l v r ht
      rw [← ht]
      unfold setG
      cases n with
      | zero =>
        cases k with
        | zero => rfl
        | succ k => rw [get_nodeS, get_nodeS, if_neg (by omega)]
      | succ m =>
        simp only
        cases hm : Nat.beq (m % 2) 0 with
        | true =>
          have hm' := Nat.eq_of_beq_eq_true hm
          simp only [cond_true, mkL_eq]
          cases k with
          | zero => rw [if_neg (by omega)]; rfl
          | succ j =>
            rw [get_nodeS, get_nodeS]
            cases hj : Nat.beq (j % 2) 0 with
            | true =>
              have hj' := Nat.eq_of_beq_eq_true hj
              simp only [cond_true]
              rw [ih l (m / 2) (j / 2) (by omega)]
              by_cases e : j = m
              · subst e; rw [if_pos rfl, if_pos rfl]
              · rw [if_neg (by omega), if_neg (by omega)]
            | false =>
              have hj' := Nat.ne_of_beq_eq_false hj
              simp only [cond_false]
              rw [if_neg (by rintro e; have : j = m := by omega
                             subst this; omega)]
        | false =>
          have hm' := Nat.ne_of_beq_eq_false hm
          simp only [cond_false, mkR_eq]
          cases k with
          | zero => rw [if_neg (by omega)]; rfl
          | succ j =>
            rw [get_nodeS, get_nodeS]
            cases hj : Nat.beq (j % 2) 0 with
            | true =>
              have hj' := Nat.eq_of_beq_eq_true hj
              simp only [cond_true]
              rw [if_neg (by rintro e; have : j = m := by omega
                             subst this; omega)]
            | false =>
              have hj' := Nat.ne_of_beq_eq_false hj
              simp only [cond_false]
              rw [ih r (m / 2) (j / 2) (by omega)]
              by_cases e : j = m
              · subst e; rw [if_pos rfl, if_pos rfl]
              · rw [if_neg (by omega), if_neg (by omega)]
    cases t with
    | nil => exact key .nil none .nil (fun k => by cases k <;> simp [get_node0, get_nodeS, get_nil])
    | node l v r => exact key l v r (fun _ => rfl)

theorem get_set (t : Tr α) (n k : Nat) (x : α) : (t.set n x).get k = if k = n then some x else t.get k := get_setF _ _ _ _ _ (by omega)
theorem get_del (t : Tr α) (n k : Nat) : (t.del n).get k = if k = n then none else t.get k := get_setF _ _ _ _ _ (by omega)
end Tr

/-! Numbers, at hand. -/
def forceN {β : Type} (n : Nat) (k : Nat → β) : β := Nat.rec (motive := fun _ => β) (k 0) (fun m _ => k (Nat.succ m)) n
theorem forceN_eq {β : Type} (n : Nat) (k : Nat → β) : forceN n k = k n := by cases n <;> rfl
def forceI {β : Type} (n : Int) (k : Int → β) : β := Int.rec (motive := fun _ => β) (fun m => forceN m fun m' => k (.ofNat m')) (fun m => forceN m fun m' => k (.negSucc m')) n
theorem forceI_eq {β : Type} (n : Int) (k : Int → β) : forceI n k = k n := by
  cases n <;> simp only [forceI, forceN_eq]
def memN (x : Nat) (l : List Nat) : Bool := List.rec (motive := fun _ => Bool) false (fun y _ ih => Bool.rec (motive := fun _ => Bool) ih true (Nat.beq y x)) l
theorem memN_cons {x y : Nat} {l : List Nat} : memN x (y :: l) = bif Nat.beq y x then true else memN x l := by
  show Bool.rec (motive := fun _ => Bool) (memN x l) true (Nat.beq y x) = _
  cases Nat.beq y x <;> rfl
theorem memN_nil {x : Nat} : memN x [] = false := rfl
theorem memN_iff {x : Nat} : ∀ {l : List Nat}, memN x l = true ↔ x ∈ l
  | [] => by simp [memN_nil]
  | y :: l => by
    simp only [memN_cons, List.mem_cons]
    cases h : Nat.beq y x with
    | true => have := Nat.eq_of_beq_eq_true h; simp [this]
    | false =>
      have := Nat.ne_of_beq_eq_false h
      simp only [cond_false, memN_iff]
      constructor
      · exact .inr
      · rintro (e | e)
        · exact absurd e.symm this
        · exact e

/-! Abstract values: T gives, for each type of a slice's elements, what they are as plain data. -/
variable (T : Nat → Type)
inductive AV where
  | any
  | int (k : IntKind) (n : Int)
  | lit (b : Bool)
  | bool (b : Bool)
  | str (s : ByteArray)
  | nilp
  | nilf
  | nils
  /-- an empty slice without room -/
  | emp
  /-- an empty slice of which nothing else is known -/
  | es
  | nili
  /-- the address of a cell of an object -/
  | ptr (id off : Nat)
  /-- the address of cells that never change -/
  | rp (cs : List AV)
  | agg (cs : List AV)
  | tup (cs : List AV)
  /-- a slice whose elements never change -/
  | sl (τ : Nat) (l : List (T τ)) (full : Bool)
  /-- a slice of an object's cells: the cells of an element, the first cell, the length, and the room, if it is known -/
  | sc (id sz off len : Nat) (cap : Option Nat)
  | ifc (t : Nat) (c : AV)
  | fn (f : Nat) (caps : List AV)
  /-- a function whose first arguments are fixed -/
  | mfn (f : Nat) (first caps : List AV)
  /-- the function that a loop over a function hands in -/
  | yld (id : Nat)
  /-- an integer that stays open -/
  | sym (k : IntKind) (n : Int)
  /-- the slice of a whole list of an object: the object, the type of the elements, the length -/
  | ls (id τ len : Nat)
  /-- the address of a cell of an element of such a list -/
  | lp (id τ : Nat) (i : Int) (k : Nat)

structure LoopRec where
  state : LoopState
  pend : Option Code
  n : Nat
  tm : Tr (AV T)
  params : Array Tmp
  assign : Code
  body : Code

inductive AO where
  | dead
  /-- cells, and what those are that are not listed -/
  | cells (n : Nat) (c : Tr (AV T)) (d : AV T)
  /-- the same, with room behind it; and its family -/
  | grow (n : Nat) (c : Tr (AV T)) (d : AV T) (fam : Nat)
  /-- a family of rows that may share a block: the one that may be written, and those that can still be read -/
  | fam (head : Nat) (shades : List Nat)
  | loop (r : LoopRec T)
  /-- a list of elements -/
  | lst (τ : Nat) (l : List (T τ))

/-- What one cell can hold. -/
def isCell {T : Nat → Type} (v : AV T) : Bool := AV.rec (motive_1 := fun _ => Bool) (motive_2 := fun _ => Unit) false (fun _ _ => true) (fun _ => true) (fun _ => true) (fun _ => true) true true true true true true (fun _ _ => true) (fun _ _ => true) (fun _ _ => false) (fun _ _ => false) (fun _ _ _ => true) (fun _ _ _ _ _ => true) (fun _ _ _ => true) (fun _ _ _ => true) (fun _ _ _ _ _ => true) (fun _ => true) (fun _ _ => true) (fun _ _ _ => true) (fun _ _ _ _ => true) () (fun _ _ _ _ => ()) v

/-- How elements are laid out as cells. -/
structure Enc where
  ok : Nat → Bool
  enc : (τ : Nat) → T τ → List (AV T)
  d : (τ : Nat) → T τ
  /-- struct types whose values may be compared -/
  eqt : Nat → Bool
  /-- an element out of its cells; the function tells what slices among them read as -/
  dec : (τ : Nat) → ((σ : Nat) → AV T → Option (List (T σ))) → List (AV T) → Option (T τ)

variable {T}
structure Hp (T : Nat → Type) where
  next : Nat
  objs : Tr (AO T)
  log : List Nat
structure St (T : Nat → Type) where
  n : Nat
  tm : Tr (AV T)
  hp : Hp T

def Hp.get (hp : Hp T) (id : Nat) : Option (AO T) := hp.objs.get id
def Hp.put (hp : Hp T) (id : Nat) (o : AO T) : Hp T := ⟨hp.next, hp.objs.set id o, id :: hp.log⟩
def Hp.new (hp : Hp T) (o : AO T) : Hp T := ⟨hp.next + 1, hp.objs.set hp.next o, hp.next :: hp.log⟩
def forceL {α β : Type} (l : List α) (k : List α → β) : β := List.rec (motive := fun _ => β) (k []) (fun x l _ => k (x :: l)) l
theorem forceL_eq {α β : Type} (l : List α) (k : List α → β) : forceL l k = k l := by cases l <;> rfl
def Hp.force {β : Type} (hp : Hp T) (k : Hp T → β) : β := forceN hp.next fun n => hp.objs.force fun t => forceL hp.log fun l => k ⟨n, t, l⟩
theorem Hp.force_eq {β : Type} (hp : Hp T) (k : Hp T → β) : hp.force k = k hp := by simp only [Hp.force, forceN_eq, Tr.force_eq, forceL_eq]
theorem Hp.get_put (hp : Hp T) (id k : Nat) (o : AO T) : (hp.put id o).get k = if k = id then some o else hp.get k := Tr.get_set _ _ _ _
theorem Hp.get_new (hp : Hp T) (k : Nat) (o : AO T) : (hp.new o).get k = if k = hp.next then some o else hp.get k := Tr.get_set _ _ _ _

def cellAt (c : Tr (AV T)) (d : AV T) (j : Nat) : AV T := Option.rec (motive := fun _ => AV T) d (fun x => x) (c.get j)
def tmAt (tm : Tr (AV T)) (j : Nat) : AV T := Option.rec (motive := fun _ => AV T) .any (fun x => x) (tm.get j)
theorem cellAt_eq {c : Tr (AV T)} {d : AV T} {j : Nat} : cellAt c d j = match c.get j with
  | some x => x
  | none => d := by unfold cellAt; cases c.get j <;> rfl
theorem tmAt_eq {tm : Tr (AV T)} {j : Nat} : tmAt tm j = match tm.get j with
  | some x => x
  | none => .any := by unfold tmAt; cases tm.get j <;> rfl

end Go.Cx
