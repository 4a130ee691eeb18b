/- The evaluator: how abstract values and objects stand to those of the machine. No condition. -/
import Derived.Test.YtmnhfjhlfgebiaaCxA
import Derived.Laws.StructEq
set_option linter.unusedVariables false
noncomputable section
namespace Go.Cx
open Go.RowKit
variable {T : Nat → Type}

/-- Where an object lies: its block, its first cell there, and how many cells it may grow to. -/
structure Hd where
  block : Nat
  base : Nat
  lim : Nat

/-! How abstract and concrete values stand to each other. M: the blocks that may be written. -/
section
variable (P : Program) (E : Enc T) (w : World) (M : Nat → Prop)
inductive RV : (Nat → Option Hd) → AV T → Value → Prop where
  | any {β v} : RV β .any v
  | int {β k n} : RV β (.int k n) (.int k n)
  | lit {β b} : RV β (.lit b) (.bool b)
  | bool {β b} : RV β (.bool b) (.bool b)
  | str {β s} : RV β (.str s) (.string s)
  | nilp {β} : RV β .nilp (.pointer none)
  | nilf {β} : RV β .nilf .nilFunc
  | nils {β} : RV β .nils (.slice none 0 0)
  | emp {β a} : RV β .emp (.slice a 0 0)
  | es {β a c} : RV β .es (.slice a 0 c)
  | nili {β} : RV β .nili .nilIface
  | ptr {β : Nat → Option Hd} {id off h} : β id = some h → RV β (.ptr id off) (.pointer (some ⟨h.block, h.base + off, none⟩))
  | rp {β : Nat → Option Hd} {cs : List (AV T)} {a : Addr} (f : Nat → Value) : a.spot = none → a.block < w.heap.size → (cs ≠ [] → ¬ M a.block) →
      (∀ (j : Nat) (c : AV T), cs[j]? = some c → w.cell? ⟨a.block, a.off + j, none⟩ = some (f j)) → (∀ (j : Nat) (c : AV T), cs[j]? = some c → RV (fun _ => none) c (f j)) → RV β (.rp cs) (.pointer (some a))
  | agg {β : Nat → Option Hd} {cs : List (AV T)} {vs : Array Value} : cs.length = vs.size → (∀ (j : Nat) (c : AV T) (v : Value), cs[j]? = some c → vs[j]? = some v → RV β c v) → RV β (.agg cs) (.agg vs)
  | tup {β : Nat → Option Hd} {cs : List (AV T)} {vs : Array Value} : cs.length = vs.size → (∀ (j : Nat) (c : AV T) (v : Value), cs[j]? = some c → vs[j]? = some v → RV β c v) → RV β (.tup cs) (.tuple vs)
  | sl0 {β τ full a cap} : (full = true → cap = 0) → RV β (.sl τ [] full) (.slice a 0 cap)
  | sl {β : Nat → Option Hd} {τ : Nat} {l : List (T τ)} {full : Bool} {a : Addr} {cap : Nat} (f : Nat → Nat → Value) : a.spot = none → a.block < w.heap.size → l.length ≤ cap → (full = true → cap = l.length) → E.ok τ = true → (l ≠ [] → ¬ M a.block) →
      (∀ (i : Nat) (x : T τ) (j : Nat) (c : AV T), l[i]? = some x → (E.enc τ x)[j]? = some c → w.cell? ⟨a.block, a.off + (i * P.cellsOf τ + j), none⟩ = some (f i j)) →
      (∀ (i : Nat) (x : T τ) (j : Nat) (c : AV T), l[i]? = some x → (E.enc τ x)[j]? = some c → RV (fun _ => none) c (f i j)) → RV β (.sl τ l full) (.slice (some a) l.length cap)
  | sc {β : Nat → Option Hd} {id sz off len c h} {cap : Option Nat} : β id = some h → len ≤ c → (∀ c', cap = some c' → c = c') → (cap = none → off + c * sz = h.lim ∧ c ≤ maxLen) → RV β (.sc id sz off len cap) (.slice (some ⟨h.block, h.base + off, none⟩) len c)
  | ifc {β : Nat → Option Hd} {t : Nat} {c : AV T} {v : Value} : RV β c v → RV β (.ifc t c) (.iface t v)
  | fn {β : Nat → Option Hd} {f : Nat} {caps : List (AV T)} {vs : Array Value} : caps.length = vs.size → (∀ (j : Nat) (c : AV T) (v : Value), caps[j]? = some c → vs[j]? = some v → RV β c v) → RV β (.fn f caps) (.func (.func f) #[] vs)
  | mfn {β : Nat → Option Hd} {f : Nat} {first caps : List (AV T)} {us vs : Array Value} : first.length = us.size → (∀ (j : Nat) (c : AV T) (v : Value), first[j]? = some c → us[j]? = some v → RV β c v) →
      caps.length = vs.size → (∀ (j : Nat) (c : AV T) (v : Value), caps[j]? = some c → vs[j]? = some v → RV β c v) → RV β (.mfn f first caps) (.func (.func f) us vs)
  | yld {β : Nat → Option Hd} {id h} : β id = some h → RV β (.yld id) (.func (.yield h.block) #[] #[])
  | sym {β : Nat → Option Hd} {k : IntKind} {n : Int} : RV β (.sym k n) (.int k n)
  | ls0 {β : Nat → Option Hd} {id τ : Nat} {a : Option Addr} : RV β (.ls id τ 0) (.slice a 0 0)
  | ls {β : Nat → Option Hd} {id τ len c : Nat} {h : Hd} : β id = some h → 0 < len → len ≤ c → c * P.cellsOf τ = h.lim → c ≤ maxLen → RV β (.ls id τ len) (.slice (some ⟨h.block, h.base, none⟩) len c)
  | lp {β : Nat → Option Hd} {id τ i k : Nat} {h : Hd} : β id = some h → RV β (.lp id τ (i : Int) k) (.pointer (some ⟨h.block, h.base + (i * P.cellsOf τ + k), none⟩))
end

variable {P : Program} {E : Enc T}

/-- How the world may go on. -/
structure Stab (w : World) (M : Nat → Prop) (β : Nat → Option Hd) (w' : World) (M' : Nat → Prop) (β' : Nat → Option Hd) : Prop where
  cell : ∀ b o, ¬ M b → b < w.heap.size → w'.cell? ⟨b, o, none⟩ = w.cell? ⟨b, o, none⟩
  size : w.heap.size ≤ w'.heap.size
  excl : ∀ b, M' b → M b ∨ w.heap.size ≤ b
  hd : ∀ (id : Nat) (h : Hd), β id = some h → β' id = some h

theorem Stab.nil {w w' : World} {M M' : Nat → Prop} {β β' : Nat → Option Hd} (h : Stab w M β w' M' β') : Stab w M (fun _ => none) w' M' (fun _ => none) :=
  ⟨h.cell, h.size, h.excl, fun _ _ h => by cases h⟩
theorem Stab.refl {w : World} {M : Nat → Prop} {β : Nat → Option Hd} : Stab w M β w M β :=
  ⟨fun _ _ _ _ => rfl, Nat.le_refl _, fun _ h => .inl h, fun _ _ h => h⟩

theorem RV.stab {w w' : World} {M M' : Nat → Prop} {β : Nat → Option Hd} {a : AV T} {v : Value} (h : RV P E w M β a v) :
    ∀ {β' : Nat → Option Hd}, Stab w M β w' M' β' → RV P E w' M' β' a v := by
  induction h with
  | any => intros; exact .any
  | int => intros; exact .int
  | lit => intros; exact .lit
  | bool => intros; exact .bool
  | str => intros; exact .str
  | nilp => intros; exact .nilp
  | nilf => intros; exact .nilf
  | nils => intros; exact .nils
  | emp => intros; exact .emp
  | es => intros; exact .es
  | nili => intros; exact .nili
  | ptr hb => intro β' hs; exact .ptr (hs.hd _ _ hb)
  | rp f h1 h2 h3 h4 _ ih =>
    intro β' hs
    refine .rp f h1 (Nat.lt_of_lt_of_le h2 hs.size) (fun hn hm => ?_) (fun j c hc => ?_) (fun j c hc => ih j c hc hs.nil)
    · rcases hs.excl _ hm with h | h
      · exact h3 hn h
      · omega
    · rw [hs.cell _ _ (h3 (List.ne_nil_of_mem (List.mem_of_getElem? hc))) h2]; exact h4 j c hc
  | agg h1 _ ih => intro β' hs; exact .agg h1 (fun j c v hc hv => ih j c v hc hv hs)
  | tup h1 _ ih => intro β' hs; exact .tup h1 (fun j c v hc hv => ih j c v hc hv hs)
  | sl0 h => intros; exact .sl0 h
  | sl f h1 h2 h3 h4 h5 h6 h7 _ ih =>
    intro β' hs
    refine .sl f h1 (Nat.lt_of_lt_of_le h2 hs.size) h3 h4 h5 (fun hn hm => ?_) (fun i x j c hx hc => ?_) (fun i x j c hx hc => ih i x j c hx hc hs.nil)
    · rcases hs.excl _ hm with h | h
      · exact h6 hn h
      · omega
    · rw [hs.cell _ _ (h6 (List.ne_nil_of_mem (List.mem_of_getElem? hx))) h2]; exact h7 i x j c hx hc
  | sc h1 h2 h3 h4 => intro β' hs; exact .sc (hs.hd _ _ h1) h2 h3 h4
  | ifc _ ih => intro β' hs; exact .ifc (ih hs)
  | fn h1 _ ih => intro β' hs; exact .fn h1 (fun j c v hc hv => ih j c v hc hv hs)
  | mfn h1 _ h2 _ ih1 ih2 => intro β' hs; exact .mfn h1 (fun j c v hc hv => ih1 j c v hc hv hs) h2 (fun j c v hc hv => ih2 j c v hc hv hs)
  | yld h => intro β' hs; exact .yld (hs.hd _ _ h)
  | sym => intros; exact .sym
  | ls0 => intros; exact .ls0
  | ls h1 h2 h3 h4 h5 => intro β' hs; exact .ls (hs.hd _ _ h1) h2 h3 h4 h5
  | lp h1 => intro β' hs; exact .lp (hs.hd _ _ h1)

theorem RV.weak {w : World} {M : Nat → Prop} {β : Nat → Option Hd} {c : AV T} {v : Value} (h : RV P E w M (fun _ => none) c v) : RV P E w M β c v :=
  h.stab ⟨fun _ _ _ _ => rfl, Nat.le_refl _, fun _ h => .inl h, fun _ _ h => by cases h⟩

/-- Lists of abstract and concrete values. -/
def LR (P : Program) (E : Enc T) (w : World) (M : Nat → Prop) (β : Nat → Option Hd) (cs : List (AV T)) (vs : List Value) : Prop :=
  cs.length = vs.length ∧ ∀ (j : Nat) (c : AV T) (v : Value), cs[j]? = some c → vs[j]? = some v → RV P E w M β c v

section
variable {w : World} {M : Nat → Prop} {β : Nat → Option Hd}
theorem LR.stab {cs : List (AV T)} {vs : List Value} (h : LR P E w M β cs vs) {w' : World} {M' : Nat → Prop} {β' : Nat → Option Hd} (hs : Stab w M β w' M' β') : LR P E w' M' β' cs vs :=
  ⟨h.1, fun j c v hc hv => (h.2 j c v hc hv).stab hs⟩
theorem LR.nil : LR P E w M β [] [] := ⟨rfl, fun j c v h => by simp at h⟩
theorem LR.cons {c : AV T} {v : Value} {cs : List (AV T)} {vs : List Value} (h : RV P E w M β c v) (hl : LR P E w M β cs vs) : LR P E w M β (c :: cs) (v :: vs) := by
  refine ⟨by simp [hl.1], fun j c' v' hc hv => ?_⟩
  cases j with
  | zero => simp at hc hv; subst hc; subst hv; exact h
  | succ j => exact hl.2 j c' v' (by simpa using hc) (by simpa using hv)
theorem LR.uncons {c : AV T} {v : Value} {cs : List (AV T)} {vs : List Value} (h : LR P E w M β (c :: cs) (v :: vs)) : RV P E w M β c v ∧ LR P E w M β cs vs :=
  ⟨h.2 0 c v rfl rfl, by have := h.1; simpa using this, fun j c v hc hv => h.2 (j + 1) c v (by simpa using hc) (by simpa using hv)⟩
theorem LR.append {c1 c2 : List (AV T)} {v1 v2 : List Value} (h1 : LR P E w M β c1 v1) (h2 : LR P E w M β c2 v2) : LR P E w M β (c1 ++ c2) (v1 ++ v2) := by
  refine ⟨by simp [h1.1, h2.1], fun j c v hc hv => ?_⟩
  by_cases hj : j < c1.length
  · rw [List.getElem?_append_left hj] at hc
    rw [List.getElem?_append_left (by rw [← h1.1]; exact hj)] at hv
    exact h1.2 j c v hc hv
  · rw [List.getElem?_append_right (by omega)] at hc
    rw [List.getElem?_append_right (by rw [← h1.1]; omega)] at hv
    rw [← h1.1] at hv
    exact h2.2 _ c v hc hv
theorem LR.take {cs : List (AV T)} {vs : List Value} (h : LR P E w M β cs vs) (n : Nat) : LR P E w M β (cs.take n) (vs.take n) := by
  refine ⟨by simp [h.1], fun j c v hc hv => ?_⟩
  rw [List.getElem?_take] at hc hv
  split at hc
  · rename_i hlt
    rw [if_pos hlt] at hv
    exact h.2 j c v hc hv
  · cases hc
theorem LR.drop {cs : List (AV T)} {vs : List Value} (h : LR P E w M β cs vs) (n : Nat) : LR P E w M β (cs.drop n) (vs.drop n) := by
  refine ⟨by simp [h.1], fun j c v hc hv => ?_⟩
  rw [List.getElem?_drop] at hc hv
  exact h.2 _ c v hc hv
theorem LR.map {α : Type} {f : α → AV T} {g : α → Value} (h : ∀ x, RV P E w M β (f x) (g x)) (l : List α) : LR P E w M β (l.map f) (l.map g) := by
  refine ⟨by simp, fun j c v hc hv => ?_⟩
  rw [List.getElem?_map, Option.map_eq_some_iff] at hc hv
  obtain ⟨x, hx, rfl⟩ := hc
  obtain ⟨y, hy, rfl⟩ := hv
  obtain rfl : x = y := Option.some.inj (hx.symm.trans hy)
  exact h x
theorem LR.of_array {cs : List (AV T)} {vs : Array Value} (hl : cs.length = vs.size) (h : ∀ (j : Nat) (c : AV T) (v : Value), cs[j]? = some c → vs[j]? = some v → RV P E w M β c v) : LR P E w M β cs vs.toList :=
  ⟨by simpa using hl, fun j c v hc hv => h j c v hc (by simpa using hv)⟩

theorem RV.agg' {cs : List (AV T)} {vs : List Value} (h : LR P E w M β cs vs) : RV P E w M β (.agg cs) (.agg vs.toArray) :=
  .agg (by simpa using h.1) fun j c v hc hv => h.2 j c v hc (by simpa using hv)

/-- The temporaries. -/
def TR (P : Program) (E : Enc T) (w : World) (M : Nat → Prop) (β : Nat → Option Hd) (n : Nat) (tm : Tr (AV T)) (vs : Array Value) : Prop :=
  n = vs.size ∧ ∀ j, RV P E w M β (tmAt tm j) (vs.getD j undef)

theorem TR.stab {n : Nat} {tm : Tr (AV T)} {vs : Array Value} (h : TR P E w M β n tm vs) {w' : World} {M' : Nat → Prop} {β' : Nat → Option Hd} (hs : Stab w M β w' M' β') : TR P E w' M' β' n tm vs :=
  ⟨h.1, fun j => (h.2 j).stab hs⟩
end

/-! The objects. -/
def keyOf (H : Nat → Option (AO T)) (id : Nat) : Nat := match H id with
  | some (.grow _ _ _ f) => f
  | _ => id

def Live (H : Nat → Option (AO T)) (id : Nat) : Prop := match H id with
  | some (.cells _ _ _) => True
  | some (.loop _) => True
  | some (.lst _ l) => l ≠ []
  | some (.grow _ _ _ f) => ∃ hd sh, H f = some (.fam hd sh) ∧ (id = hd ∨ id ∈ sh)
  | _ => False

def Own (H : Nat → Option (AO T)) (β : Nat → Option Hd) (b : Nat) : Prop := ∃ id h, Live H id ∧ β id = some h ∧ h.block = b

/-- Cells of a block. -/
def CellsAt (P : Program) (E : Enc T) (w : World) (M : Nat → Prop) (β : Nat → Option Hd) (n : Nat) (c : Tr (AV T)) (d : AV T) (h : Hd) (room : Nat) : Prop :=
  ∃ (vs : Array Value) (el : TypeId), w.heap[h.block]? = some (.cells vs el (0, 0)) ∧ h.base + room ≤ vs.size ∧ n ≤ room ∧ ∀ j, j < n → RV P E w M β (cellAt c d j) (vs.getD (h.base + j) undef)

/-- The elements of a list, in a block. -/
def ListAt (P : Program) (E : Enc T) (w : World) (M : Nat → Prop) (τ : Nat) (l : List (T τ)) (h : Hd) : Prop :=
  ∃ (vs : Array Value) (el : TypeId), w.heap[h.block]? = some (.cells vs el (0, 0)) ∧ h.base + h.lim ≤ vs.size ∧ l.length * P.cellsOf τ ≤ h.lim ∧ E.ok τ = true ∧
    ∀ (i : Nat) (x : T τ) (j : Nat) (c : AV T), l[i]? = some x → (E.enc τ x)[j]? = some c → RV P E w M (fun _ => none) c (vs.getD (h.base + (i * P.cellsOf τ + j)) undef)

def ObjRel (P : Program) (E : Enc T) (w : World) (M : Nat → Prop) (β : Nat → Option Hd) : AO T → Hd → Prop
  | .cells n c d, h => CellsAt P E w M β n c d h n
  | .grow n c d _, h => CellsAt P E w M β n c d h h.lim
  | .loop r, h => ∃ lp : Loop, w.heap[h.block]? = some (.loop lp) ∧ lp.state = r.state ∧ lp.pending = r.pend ∧ lp.params = r.params ∧ lp.assign = r.assign ∧ lp.body = r.body ∧ TR P E w M β r.n r.tm lp.tmps
  | .lst τ l, h => ListAt P E w M τ l h
  | _, _ => False

structure HeapRel (P : Program) (E : Enc T) (w : World) (M : Nat → Prop) (β : Nat → Option Hd) (H : Nat → Option (AO T)) : Prop where
  obj : ∀ (id : Nat) (o : AO T), Live H id → H id = some o → ∃ h, β id = some h ∧ ObjRel P E w M β o h
  inj : ∀ (i j : Nat) (hi hj : Hd), Live H i → Live H j → keyOf H i ≠ keyOf H j → β i = some hi → β j = some hj → hi.block ≠ hj.block
  own : ∀ (i : Nat) (h : Hd), Live H i → β i = some h → M h.block
  shade : ∀ (f hd s : Nat) (sh : List Nat) (nh ns : Nat) (ch cs : Tr (AV T)) (dh ds : AV T) (hh hs : Hd), H f = some (.fam hd sh) → s ∈ sh → H hd = some (.grow nh ch dh f) → H s = some (.grow ns cs ds f) → β hd = some hh → β s = some hs → hs.block = hh.block → hs.base + ns ≤ hh.base + nh

/-- How a piece of the run changes the world: w0, M0, the blocks that it may write, β0. -/
structure Evo (W : Nat → Prop) (w0 : World) (M0 O0 : Nat → Prop) (β0 : Nat → Option Hd) (w : World) (M O : Nat → Prop) (β : Nat → Option Hd) : Prop where
  os : w.os = w0.os
  tape : w.tape = w0.tape
  output : w.output = w0.output
  size : w0.heap.size ≤ w.heap.size
  old : ∀ b, b < w0.heap.size → ¬ O0 b → w.heap[b]? = w0.heap[b]?
  mutb : ∀ b, M b → M0 b ∨ w0.heap.size ≤ b
  keep : ∀ b, M0 b → ¬ O0 b → M b
  own : ∀ b, O b → O0 b ∨ w0.heap.size ≤ b
  hd : ∀ (id : Nat) (h : Hd), β0 id = some h → β id = some h
  nm : ∀ (id : Nat) (h : Hd), β id = some h → β0 id = some h ∨ W id

theorem Evo.refl {W : Nat → Prop} {w : World} {M O : Nat → Prop} {β : Nat → Option Hd} : Evo W w M O β w M O β :=
  ⟨rfl, rfl, rfl, Nat.le_refl _, fun _ _ _ => rfl, fun _ h => .inl h, fun _ h _ => h, fun _ h => .inl h, fun _ _ h => h, fun _ _ h => .inl h⟩

theorem Evo.trans {W W' : Nat → Prop} {w0 w1 w2 : World} {M0 O0 M1 O1 M2 O2 : Nat → Prop} {β0 β1 β2 : Nat → Option Hd} (h : Evo W w0 M0 O0 β0 w1 M1 O1 β1) (k : Evo W' w1 M1 O1 β1 w2 M2 O2 β2) (hM : ∀ b, M0 b → b < w0.heap.size) (hW : ∀ id, W' id → W id) : Evo W w0 M0 O0 β0 w2 M2 O2 β2 where
  os := k.os.trans h.os
  tape := k.tape.trans h.tape
  output := k.output.trans h.output
  size := Nat.le_trans h.size k.size
  old := fun b hb ho => (k.old b (Nat.lt_of_lt_of_le hb h.size) (fun ho1 => by rcases h.own b ho1 with h | h; exact ho h; omega)).trans (h.old b hb ho)
  mutb := fun b hb => by
    rcases k.mutb b hb with hb | hb
    · exact h.mutb b hb
    · exact .inr (Nat.le_trans h.size hb)
  keep := fun b hb ho => k.keep b (h.keep b hb ho) (fun ho1 => by
    rcases h.own b ho1 with h1 | h1
    · exact ho h1
    · have := hM b hb; omega)
  own := fun b hb => by
    rcases k.own b hb with hb | hb
    · exact h.own b hb
    · exact .inr (Nat.le_trans h.size hb)
  hd := fun id h' e => k.hd id h' (h.hd id h' e)
  nm := fun id h' e => by
    rcases k.nm id h' e with e | e
    · exact h.nm id h' e
    · exact .inr (hW id e)

theorem Evo.stab {W : Nat → Prop} {w w' : World} {M O M' O' : Nat → Prop} {β β' : Nat → Option Hd} (h : Evo W w M O β w' M' O' β') (hO : ∀ b, O b → M b) : Stab w M β w' M' β' :=
  ⟨fun b _ hb hlt => World.cell?_of_block (w := w) (h.old b hlt (fun ho => hb (hO b ho))), h.size, h.mutb, h.hd⟩

/-- The marks that loops over functions leave: nothing is deferred. -/
def markOf (D : Nat) : Deferred := { target := .collected D, args := #[] }
def MarksOk (b0 : Nat) (w : World) (M : Nat → Prop) (ds : List Deferred) : Prop := ∃ Ds : List Nat, ds = Ds.map markOf ∧ Ds.Nodup ∧ ∀ D ∈ Ds, b0 ≤ D ∧ w.heap[D]? = some (Obj.deferred (some [])) ∧ ¬ M D
theorem MarksOk.nil {b0 : Nat} {w : World} {M : Nat → Prop} : MarksOk b0 w M [] := ⟨[], rfl, List.nodup_nil, fun D h => by simp at h⟩
theorem MarksOk.keep {b0 : Nat} {w w' : World} {M M' : Nat → Prop} {ds : List Deferred} (h : MarksOk b0 w M ds) (hk : ∀ (D : Nat), w.heap[D]? = some (Obj.deferred (some [])) → ¬ M D → w'.heap[D]? = some (Obj.deferred (some [])) ∧ ¬ M' D) : MarksOk b0 w' M' ds := by
  obtain ⟨Ds, h1, h2, h3⟩ := h
  exact ⟨Ds, h1, h2, fun D hD => ⟨(h3 D hD).1, hk D (h3 D hD).2.1 (h3 D hD).2.2⟩⟩

section
variable {w : World} {M : Nat → Prop} {β : Nat → Option Hd} {H : Nat → Option (AO T)}
theorem HeapRel.ownM (h : HeapRel P E w M β H) : ∀ b, Own H β b → M b := fun _ ⟨id, hd, hl, hb, e⟩ => e ▸ h.own id hd hl hb

theorem HeapRel.congr {H' : Nat → Option (AO T)} (h : HeapRel P E w M β H) (e : ∀ id, H' id = H id) : HeapRel P E w M β H' := by
  have : H' = H := funext e
  rw [this]; exact h
end
end Go.Cx
