/- Lines that never fall. No condition. -/
import Derived.Test.YtnhedcaphncliaaH6
set_option linter.unusedVariables false
set_option maxRecDepth 100000
noncomputable section
namespace Go.Proofs.Ytnhedcaphncliaa.W.Hole
open Go Go.Cx Go.RowKit
structure Never (l : List Knot) : Prop where
  up : ∀ i : Nat, i + 1 < l.length → (kn l i).V ≤ (kn l (i + 1 : Nat)).V
theorem Never.le {l : List Knot} (h : Never l) {i j : Nat} (hij : i ≤ j) (hj : j < l.length) : (kn l i).V ≤ (kn l j).V := by
  induction j with
  | zero => obtain rfl : i = 0 := by omega
            exact Int.le_refl _
  | succ j ih =>
    rcases Nat.lt_or_eq_of_le hij with k | rfl
    · have := ih (by omega) (by omega)
      have := h.up j hj
      omega
    · exact Int.le_refl _
theorem ixAt_up {l : List Knot} {x y : Int} (h : x ≤ y) : ixAt l x ≤ ixAt l y := by
  have b := ixAt_le (l := l) (x := x)
  rcases Nat.lt_or_ge (ixAt l y) (ixAt l x) with k | k
  · have a := ixAt_before k
    have c := ixAt_there (l := l) (x := y) (by omega)
    omega
  · exact k
theorem val_ends {l : List Knot} {a v : Int} (g : Good l a v) (n : Never l) (x : Int) : (ixAt l x ≠ 0 → (kn l ((ixAt l x : Int) - 1)).V ≤ valLo l x) ∧ (ixAt l x ≠ l.length → valHi l x ≤ (kn l (ixAt l x : Int)).V) := by
  have hle := ixAt_le (l := l) (x := x)
  unfold valLo valHi
  split
  next h0 =>
    refine ⟨fun k => absurd h0 k, fun _ => ?_⟩
    rw [h0]
    exact Int.le_refl _
  next h0 =>
    split
    next h1 =>
      refine ⟨fun _ => ?_, fun k => absurd h1 k⟩
      rw [h1]
      exact Int.le_refl _
    next h1 =>
      have e : ((ixAt l x - 1 : Nat) : Int) = (ixAt l x : Int) - 1 := by omega
      have k1 := ixAt_before (l := l) (x := x) (i := ixAt l x - 1) (by omega)
      have k2 := ixAt_there (l := l) (x := x) (by omega)
      have k3 := n.le (i := ixAt l x - 1) (j := ixAt l x) (by omega) (by omega)
      rw [e] at k1 k3
      have p := (part_bd (d := (kn l (ixAt l x : Int)).V - (kn l ((ixAt l x : Int) - 1)).V) (t := x - (kn l ((ixAt l x : Int) - 1)).At) (w := (kn l (ixAt l x : Int)).At - (kn l ((ixAt l x : Int) - 1)).At) (by omega) (by omega) (by omega)).1 (by omega)
      unfold pcLo pcHi
      exact ⟨fun _ => by omega, fun _ => by omega⟩
theorem pc_up {a b : Knot} {x y : Int} (h1 : a.At < b.At) (h2 : a.V ≤ b.V) (h : x ≤ y) : pcLo a b x ≤ pcLo a b y ∧ pcHi a b x ≤ pcHi a b y := by
  have m := Int.mul_le_mul_of_nonneg_left (show x - a.At ≤ y - a.At by omega) (show 0 ≤ b.V - a.V by omega)
  have d1 := Int.ediv_le_ediv (show 0 < b.At - a.At by omega) m
  have d2 := Int.ediv_le_ediv (show 0 < b.At - a.At by omega) (show -((b.V - a.V) * (y - a.At)) ≤ -((b.V - a.V) * (x - a.At)) by omega)
  unfold pcLo pcHi
  constructor <;> omega
theorem val_up {l : List Knot} {a v : Int} (g : Good l a v) (n : Never l) {x y : Int} (h : x ≤ y) : valLo l x ≤ valLo l y ∧ valHi l x ≤ valHi l y := by
  have hi := ixAt_up (l := l) h
  have hle := ixAt_le (l := l) (x := y)
  rcases Nat.lt_or_eq_of_le hi with k | k
  · have b1 := val_bd g x
    have b2 := val_bd g y
    have e1 := (val_ends g n x).2 (by omega)
    have e2 := (val_ends g n y).1 (by omega)
    have e : ((ixAt l y - 1 : Nat) : Int) = (ixAt l y : Int) - 1 := by omega
    have e3 := n.le (i := ixAt l x) (j := ixAt l y - 1) (by omega) (by omega)
    rw [e] at e3
    omega
  · unfold valLo valHi
    rw [← k]
    split
    next => exact ⟨Int.le_refl _, Int.le_refl _⟩
    next h0 =>
      split
      next => exact ⟨Int.le_refl _, Int.le_refl _⟩
      next h1 =>
        have e : ((ixAt l x - 1 : Nat) : Int) = (ixAt l x : Int) - 1 := by omega
        have k1 := g.up (ixAt l x - 1) (by omega)
        have k3 := n.le (i := ixAt l x - 1) (j := ixAt l x) (by omega) (by omega)
        rw [show ixAt l x - 1 + 1 = ixAt l x by omega, e] at k1
        rw [e] at k3
        exact pc_up k1 k3 h
theorem hl_never {h : List Seg} (c : hE h = 0) : Never (hl h) := ⟨(hl_good c).2.1⟩
theorem at_up {h : List Seg} (c : hE h = 0) {x y : Int} (k : x ≤ y) : atLo (hl h) x ≤ atLo (hl h) y ∧ atHi (hl h) x ≤ atHi (hl h) y := by
  unfold atLo atHi
  rw [if_pos (hl_right c), if_pos (hl_right c), if_pos (hl_right c), if_pos (hl_right c)]
  exact val_up (hl_good c).1 (hl_never c) k
theorem allS_drop : ∀ (n : Nat) {l : List Seg}, allS l = true → allS (l.drop n) = true
  | 0, _, h => h
  | n + 1, [], h => rfl
  | n + 1, x :: r, h => allS_drop n (Bool.and_eq_true_iff.1 h).2
theorem vol_pos {h : List Seg} (c : hE h = 0) : 1 ≤ vol h := by
  have g := (hl_good c).1
  have p := (hE_0 c).1
  have e := hl_len c
  have a := g.lt (i := 0) (j := 1) (by decide) (by omega)
  have b := (g.bd 0 (by omega)).1
  have d := (g.bd 1 (by omega)).1
  omega
end Go.Proofs.Ytnhedcaphncliaa.W.Hole
