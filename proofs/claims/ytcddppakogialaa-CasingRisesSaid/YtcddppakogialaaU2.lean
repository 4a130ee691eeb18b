/- Holes: heights and volumes. No condition. -/
import Derived.Test.YtcddppakogialaaU1
import Derived.Test.YtcddppakogialaaV3a
set_option linter.unusedVariables false
set_option maxRecDepth 100000
set_option maxHeartbeats 4000000
noncomputable section
namespace Go.Proofs.Ytcddppakogialaa.W.Hole
open Go Go.Cx Go.RowKit
noncomputable def va : List Seg → Int
  | [] => 0
  | s :: r => s.Long * s.Area + va r
theorem prod_s {s : Seg} (h : segP s) : s.Long ≤ s.Long * s.Area ∧ s.Long * s.Area ≤ 5000 * s.Long := by
  have h1 := Int.mul_le_mul_of_nonneg_left h.2.2.1.1 (show 0 ≤ s.Long by have := h.1; omega)
  have h2 := Int.mul_le_mul_of_nonneg_left h.2.2.1.2 (show 0 ≤ s.Long by have := h.1; omega)
  omega
theorem va_bd : ∀ {l : List Seg}, allS l = true → sumL l ≤ va l ∧ va l ≤ 5000 * sumL l
  | [], _ => by decide
  | s :: r, h => by
    obtain ⟨h1, h2⟩ := Bool.and_eq_true_iff.1 h
    have h3 := prod_s (of_decide_eq_true h1)
    have h4 := va_bd h2
    show s.Long + sumL r ≤ s.Long * s.Area + va r ∧ s.Long * s.Area + va r ≤ 5000 * (s.Long + sumL r)
    omega
theorem hi_eq {s : Seg} {low : Int} (h : segP s) (h0 : 0 ≤ low) (h1 : low + 5000 * s.Long ≤ 4611686018427387904) : hi s low = low + s.Long * s.Area := by
  have h3 := prod_s h
  have h4 := h.1
  unfold hi wr
  rw [i64_in' (n := s.Long * s.Area) (by omega) (by omega)]
  exact i64_in' (by omega) (by omega)
theorem vf_va : ∀ {l : List Seg} {low : Int}, allS l = true → 0 ≤ low → low + 5000 * sumL l ≤ 4611686018427387904 → vf l low = low + va l
  | [], low, _, _, _ => by show low = low + 0; omega
  | s :: r, low, h, h0, hb => by
    obtain ⟨h1, h2⟩ := Bool.and_eq_true_iff.1 h
    have h1 := of_decide_eq_true h1
    have h3 := prod_s h1
    have h4 := sumL_nn h2
    have hb : low + 5000 * (s.Long + sumL r) ≤ 4611686018427387904 := hb
    show vf r (hi s low) = low + (s.Long * s.Area + va r)
    rw [hi_eq h1 h0 (by omega), vf_va h2 (by have := h1.1; omega) (by omega)]
    omega
theorem vol_bd (l : List Seg) : 0 ≤ vol l ∧ vol l ≤ 5242880000 := by
  unfold vol
  split
  · rename_i h
    obtain ⟨_, h1, h2⟩ := hE_0 h
    have := va_bd h1
    have := sumL_nn h1
    rw [vf_va h1 (by decide) (by omega)]
    omega
  · decide
theorem vol_va {l : List Seg} (h : hE l = 0) : vol l = va l := by
  unfold vol
  obtain ⟨_, h1, h2⟩ := hE_0 h
  have := va_bd h1
  rw [if_pos h, vf_va h1 (by decide) (by omega)]
  omega
noncomputable def ki (l : List Knot) (i : Int) : Knot := ixD E 39 l i
theorem ki_cons {x y : Knot} {r : List Knot} : ki (x :: y :: r) (((x :: y :: r).length : Int) - 1) = ki (y :: r) (((y :: r).length : Int) - 1) := by
  show ixD E 39 (x :: y :: r) (((x :: y :: r : List Knot).length : Int) - 1) = ixD E 39 (y :: r) (((y :: r : List Knot).length : Int) - 1)
  unfold ixD
  rw [show (((x :: y :: r : List Knot).length : Int) - 1).toNat = r.length + 1 by simp, show (((y :: r : List Knot).length : Int) - 1).toNat = r.length by simp]
  rfl
theorem kl_last : ∀ (l : List Seg) (low v : Int) (x : Knot), x.At = low → (ki (x :: kl l low v) (((x :: kl l low v).length : Int) - 1)).At = vf l low
  | [], low, v, x, h => h
  | s :: r, low, v, x, h => by
    show (ki (x :: ⟨hi s low, wr (v + s.Rise)⟩ :: kl r (hi s low) (wr (v + s.Rise))) _).At = vf r (hi s low)
    have := kl_last r (hi s low) (wr (v + s.Rise)) ⟨hi s low, wr (v + s.Rise)⟩ rfl
    rw [← this]
    exact congrArg Knot.At ki_cons
theorem hl_last {h : List Seg} (c : hE h = 0) : (ki (hl h) (((hl h).length : Int) - 1)).At = vol h := by
  unfold hl vol
  rw [if_pos c, if_pos c]
  exact kl_last h 0 0 ⟨0, 0⟩ rfl
theorem hl_len {h : List Seg} (c : hE h = 0) : (hl h).length = h.length + 1 := by
  unfold hl
  rw [if_pos c]
  simp [len_kl]
theorem chkI_good {a v : Int} {l : List Knot} (h : ∀ j : Nat, j < l.length → ((0 ≤ (kn l j).At ∧ (kn l j).At ≤ a) ∧ 0 ≤ (kn l j).V ∧ (kn l j).V ≤ v) ∧ (0 < j → (kn l ((j : Int) - 1)).At < (kn l j).At)) : ∀ (n i : Nat), l.length - i = n → chkI a v l i = 0
  | 0, i, hn => by rw [chkI_eq, if_neg (by omega)]
  | n + 1, i, hn => by
    have := h i (by omega)
    rw [chkI_eq, if_pos (by omega), if_neg (by omega), if_neg (fun q => by have := this.2 q.1; omega)]
    exact chkI_good h n (i + 1) (by omega)
theorem good_lineErr {l : List Knot} {a v : Int} (h : Good l a v) (ha : 0 ≤ a ∧ a ≤ 1099511627776) (hv : 0 ≤ v ∧ v ≤ 68719476736) : lineErr l a v = 0 := by
  unfold lineErr
  have h1 := h.pos
  have h2 := h.len
  rw [if_neg (by omega), if_neg (by omega), if_neg (by omega)]
  refine chkI_good (fun j hj => ⟨h.bd j hj, fun q => ?_⟩) l.length 0 (by omega)
  have := h.up (j - 1) (by omega)
  rw [show j - 1 + 1 = j by omega, show ((j - 1 : Nat) : Int) = (j : Int) - 1 by omega] at this
  exact this
noncomputable def ri : List Seg → Int
  | [] => 0
  | s :: r => s.Rise + ri r
theorem ri_bd : ∀ {l : List Seg}, allS l = true → 0 ≤ ri l ∧ ri l ≤ sumL l
  | [], _ => by decide
  | s :: r, h => by
    obtain ⟨h1, h2⟩ := Bool.and_eq_true_iff.1 h
    have h1 := of_decide_eq_true h1
    have := ri_bd h2
    show 0 ≤ s.Rise + ri r ∧ s.Rise + ri r ≤ s.Long + sumL r
    omega
theorem kn_0 {x : Knot} {r : List Knot} : kn (x :: r) ((0 : Nat) : Int) = x := rfl
theorem kn_S {x : Knot} {r : List Knot} {i : Nat} : kn (x :: r) ((i + 1 : Nat) : Int) = kn r (i : Int) := by
  show ixD E 39 (x :: r) ((i + 1 : Nat) : Int) = ixD E 39 r (i : Int)
  unfold ixD
  rw [Int.toNat_natCast, Int.toNat_natCast]
  rfl
theorem chain : ∀ (l : List Seg) (low v : Int), allS l = true → 0 ≤ low → 0 ≤ v → low + 5000 * sumL l ≤ 4611686018427387904 → v + sumL l ≤ 4611686018427387904 →
    (∀ i : Nat, i ≤ l.length → (low ≤ (kn (⟨low, v⟩ :: kl l low v) i).At ∧ (kn (⟨low, v⟩ :: kl l low v) i).At ≤ low + va l) ∧ (v ≤ (kn (⟨low, v⟩ :: kl l low v) i).V ∧ (kn (⟨low, v⟩ :: kl l low v) i).V ≤ v + ri l)) ∧
    (∀ i : Nat, i < l.length → (kn (⟨low, v⟩ :: kl l low v) i).At < (kn (⟨low, v⟩ :: kl l low v) (i + 1 : Nat)).At ∧ (kn (⟨low, v⟩ :: kl l low v) i).V ≤ (kn (⟨low, v⟩ :: kl l low v) (i + 1 : Nat)).V) ∧ (kn (⟨low, v⟩ :: kl l low v) (l.length : Int)).V = v + ri l
  | [], low, v, _, h0, h1, _, _ => by
    refine ⟨fun i hi => ?_, fun i hi => absurd hi (by simp), ?_⟩
    · obtain rfl : i = 0 := by simpa using hi
      rw [kn_0]
      show (low ≤ low ∧ low ≤ low + 0) ∧ v ≤ v ∧ v ≤ v + 0
      omega
    · show v = v + 0
      omega
  | s :: r, low, v, h, h0, h1, hb, hv => by
    obtain ⟨k1, k2⟩ := Bool.and_eq_true_iff.1 h
    have k1 := of_decide_eq_true k1
    have p := prod_s k1
    have n := sumL_nn k2
    have hb : low + 5000 * (s.Long + sumL r) ≤ 4611686018427387904 := hb
    have hv : v + (s.Long + sumL r) ≤ 4611686018427387904 := hv
    have e1 : hi s low = low + s.Long * s.Area := hi_eq k1 h0 (by omega)
    have e2 : wr (v + s.Rise) = v + s.Rise := i64_in' (by omega) (by omega)
    have L : 1 ≤ s.Long := k1.1
    obtain ⟨c1, c2, c3⟩ := chain r (low + s.Long * s.Area) (v + s.Rise) k2 (by omega) (by omega) (by omega) (by omega)
    have ek : kl (s :: r) low v = ⟨low + s.Long * s.Area, v + s.Rise⟩ :: kl r (low + s.Long * s.Area) (v + s.Rise) := by
      show ⟨hi s low, wr (v + s.Rise)⟩ :: kl r (hi s low) (wr (v + s.Rise)) = _
      rw [e1, e2]
    have rb := ri_bd k2
    have vb := va_bd k2
    rw [ek]
    have eva : va (s :: r) = s.Long * s.Area + va r := rfl
    have eri : ri (s :: r) = s.Rise + ri r := rfl
    rw [eva, eri]
    refine ⟨fun i hi => ?_, fun i hi => ?_, ?_⟩
    · cases i with
      | zero => rw [kn_0]; show (low ≤ low ∧ low ≤ _) ∧ v ≤ v ∧ v ≤ _; omega
      | succ i =>
        rw [kn_S]
        have := c1 i (by simpa using hi)
        omega
    · cases i with
      | zero =>
        rw [kn_0, kn_S, kn_0]
        show low < low + s.Long * s.Area ∧ v ≤ v + s.Rise
        omega
      | succ i =>
        rw [kn_S, kn_S]
        exact c2 i (by simpa using hi)
    · have : ((s :: r : List Seg).length : Int) = ((r.length + 1 : Nat) : Int) := rfl
      rw [this, kn_S, c3]
      omega
theorem hl_good {h : List Seg} (c : hE h = 0) : Good (hl h) (vol h) (ri h) ∧ (∀ i : Nat, i + 1 < (hl h).length → (kn (hl h) i).V ≤ (kn (hl h) (i + 1 : Nat)).V) ∧ (kn (hl h) (((hl h).length : Int) - 1)).V = ri h ∧ 0 ≤ ri h ∧ ri h ≤ 1048576 := by
  obtain ⟨h1, h2, h3⟩ := hE_0 c
  have n := sumL_nn h2
  have rb := ri_bd h2
  have vb := va_bd h2
  obtain ⟨c1, c2, c3⟩ := chain h 0 0 h2 (by decide) (by decide) (by omega) (by omega)
  have e : hl h = ⟨0, 0⟩ :: kl h 0 0 := by unfold hl; rw [if_pos c]
  have el := hl_len c
  have ev := vol_va c
  rw [← e] at c1 c2 c3
  refine ⟨⟨by omega, by omega, fun i hi => ?_, fun i hi => (c2 i (by omega)).1⟩, fun i hi => (c2 i (by omega)).2, ?_, by omega, by omega⟩
  · have := c1 i (by omega)
    omega
  · rw [el, show ((h.length + 1 : Nat) : Int) - 1 = (h.length : Int) by omega, c3]
    omega
theorem hl_right {h : List Seg} (c : hE h = 0) : isR (hl h) := by
  obtain ⟨g, _, _, r0, r1⟩ := hl_good c
  have := vol_bd h
  exact .inr (good_lineErr ⟨g.pos, g.len, fun i hi => by have := g.bd i hi; omega, g.up⟩ (by decide) (by decide))
theorem at_bd {h : List Seg} (c : hE h = 0) (x : Int) : (0 ≤ atLo (hl h) x ∧ atHi (hl h) x ≤ ri h) ∧ atLo (hl h) x ≤ atHi (hl h) x ∧ atHi (hl h) x ≤ atLo (hl h) x + 1 := by
  unfold atLo atHi
  rw [if_pos (hl_right c), if_pos (hl_right c)]
  exact val_bd (hl_good c).1 x
structure Never (l : List Knot) : Prop where
  up : ∀ i : Nat, i + 1 < l.length → (kn l i).V ≤ (kn l (i + 1 : Nat)).V
theorem Never.le {l : List Knot} (h : Never l) {i j : Nat} (hij : i ≤ j) (hj : j < l.length) : (kn l i).V ≤ (kn l j).V := by
  induction j with
  | zero => obtain rfl : i = 0 := by omega
            exact Int.le_refl _
  | succ j ih =>
    rcases Nat.lt_or_eq_of_le hij with k | rfl
    · have := ih (by omega) (by omega)
      have := h.up j hj
      omega
    · exact Int.le_refl _
theorem ixAt_up {l : List Knot} {x y : Int} (h : x ≤ y) : ixAt l x ≤ ixAt l y := by
  have b := ixAt_le (l := l) (x := x)
  rcases Nat.lt_or_ge (ixAt l y) (ixAt l x) with k | k
  · have a := ixAt_before k
    have c := ixAt_there (l := l) (x := y) (by omega)
    omega
  · exact k
theorem val_ends {l : List Knot} {a v : Int} (g : Good l a v) (n : Never l) (x : Int) : (ixAt l x ≠ 0 → (kn l ((ixAt l x : Int) - 1)).V ≤ valLo l x) ∧ (ixAt l x ≠ l.length → valHi l x ≤ (kn l (ixAt l x : Int)).V) := by
  have hle := ixAt_le (l := l) (x := x)
  unfold valLo valHi
  split
  next h0 =>
    refine ⟨fun k => absurd h0 k, fun _ => ?_⟩
    rw [h0]
    exact Int.le_refl _
  next h0 =>
    split
    next h1 =>
      refine ⟨fun _ => ?_, fun k => absurd h1 k⟩
      rw [h1]
      exact Int.le_refl _
    next h1 =>
      have e : ((ixAt l x - 1 : Nat) : Int) = (ixAt l x : Int) - 1 := by omega
      have k1 := ixAt_before (l := l) (x := x) (i := ixAt l x - 1) (by omega)
      have k2 := ixAt_there (l := l) (x := x) (by omega)
      have k3 := n.le (i := ixAt l x - 1) (j := ixAt l x) (by omega) (by omega)
      rw [e] at k1 k3
      have p := (part_bd (d := (kn l (ixAt l x : Int)).V - (kn l ((ixAt l x : Int) - 1)).V) (t := x - (kn l ((ixAt l x : Int) - 1)).At) (w := (kn l (ixAt l x : Int)).At - (kn l ((ixAt l x : Int) - 1)).At) (by omega) (by omega) (by omega)).1 (by omega)
      unfold pcLo pcHi
      exact ⟨fun _ => by omega, fun _ => by omega⟩
theorem pc_up {a b : Knot} {x y : Int} (h1 : a.At < b.At) (h2 : a.V ≤ b.V) (h : x ≤ y) : pcLo a b x ≤ pcLo a b y ∧ pcHi a b x ≤ pcHi a b y := by
  have m := Int.mul_le_mul_of_nonneg_left (show x - a.At ≤ y - a.At by omega) (show 0 ≤ b.V - a.V by omega)
  have d1 := Int.ediv_le_ediv (show 0 < b.At - a.At by omega) m
  have d2 := Int.ediv_le_ediv (show 0 < b.At - a.At by omega) (show -((b.V - a.V) * (y - a.At)) ≤ -((b.V - a.V) * (x - a.At)) by omega)
  unfold pcLo pcHi
  constructor <;> omega
theorem val_up {l : List Knot} {a v : Int} (g : Good l a v) (n : Never l) {x y : Int} (h : x ≤ y) : valLo l x ≤ valLo l y ∧ valHi l x ≤ valHi l y := by
  have hi := ixAt_up (l := l) h
  have hle := ixAt_le (l := l) (x := y)
  rcases Nat.lt_or_eq_of_le hi with k | k
  · have b1 := val_bd g x
    have b2 := val_bd g y
    have e1 := (val_ends g n x).2 (by omega)
    have e2 := (val_ends g n y).1 (by omega)
    have e : ((ixAt l y - 1 : Nat) : Int) = (ixAt l y : Int) - 1 := by omega
    have e3 := n.le (i := ixAt l x) (j := ixAt l y - 1) (by omega) (by omega)
    rw [e] at e3
    omega
  · unfold valLo valHi
    rw [← k]
    split
    next => exact ⟨Int.le_refl _, Int.le_refl _⟩
    next h0 =>
      split
      next => exact ⟨Int.le_refl _, Int.le_refl _⟩
      next h1 =>
        have e : ((ixAt l x - 1 : Nat) : Int) = (ixAt l x : Int) - 1 := by omega
        have k1 := g.up (ixAt l x - 1) (by omega)
        have k3 := n.le (i := ixAt l x - 1) (j := ixAt l x) (by omega) (by omega)
        rw [show ixAt l x - 1 + 1 = ixAt l x by omega, e] at k1
        rw [e] at k3
        exact pc_up k1 k3 h
theorem hl_never {h : List Seg} (c : hE h = 0) : Never (hl h) := ⟨(hl_good c).2.1⟩
theorem at_up {h : List Seg} (c : hE h = 0) {x y : Int} (k : x ≤ y) : atLo (hl h) x ≤ atLo (hl h) y ∧ atHi (hl h) x ≤ atHi (hl h) y := by
  unfold atLo atHi
  rw [if_pos (hl_right c), if_pos (hl_right c), if_pos (hl_right c), if_pos (hl_right c)]
  exact val_up (hl_good c).1 (hl_never c) k
theorem allS_drop : ∀ (n : Nat) {l : List Seg}, allS l = true → allS (l.drop n) = true
  | 0, _, h => h
  | n + 1, [], h => rfl
  | n + 1, x :: r, h => allS_drop n (Bool.and_eq_true_iff.1 h).2
theorem vol_pos {h : List Seg} (c : hE h = 0) : 1 ≤ vol h := by
  have g := (hl_good c).1
  have p := (hE_0 c).1
  have e := hl_len c
  have a := g.lt (i := 0) (j := 1) (by decide) (by omega)
  have b := (g.bd 0 (by omega)).1
  have d := (g.bd 1 (by omega)).1
  omega
end Go.Proofs.Ytcddppakogialaa.W.Hole
