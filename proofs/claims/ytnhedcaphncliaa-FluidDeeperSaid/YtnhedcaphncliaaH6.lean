/- The height line of a valid hole is right; equivalent weights. No condition. -/
import Derived.Test.YtnhedcaphncliaaH5
set_option linter.unusedVariables false
set_option maxRecDepth 100000
set_option maxHeartbeats 4000000
noncomputable section
namespace Go.Proofs.Ytnhedcaphncliaa.W.Hole
open Go Go.Cx Go.RowKit
theorem chkI_good {a v : Int} {l : List Knot} (h : ∀ j : Nat, j < l.length → ((0 ≤ (kn l j).At ∧ (kn l j).At ≤ a) ∧ 0 ≤ (kn l j).V ∧ (kn l j).V ≤ v) ∧ (0 < j → (kn l ((j : Int) - 1)).At < (kn l j).At)) : ∀ (n i : Nat), l.length - i = n → chkI a v l i = 0
  | 0, i, hn => by rw [chkI_eq, if_neg (by omega)]
  | n + 1, i, hn => by
    have := h i (by omega)
    rw [chkI_eq, if_pos (by omega), if_neg (by omega), if_neg (fun q => by have := this.2 q.1; omega)]
    exact chkI_good h n (i + 1) (by omega)
theorem good_lineErr {l : List Knot} {a v : Int} (h : Good l a v) (ha : 0 ≤ a ∧ a ≤ 1099511627776) (hv : 0 ≤ v ∧ v ≤ 68719476736) : lineErr l a v = 0 := by
  unfold lineErr
  have h1 := h.pos
  have h2 := h.len
  rw [if_neg (by omega), if_neg (by omega), if_neg (by omega)]
  refine chkI_good (fun j hj => ⟨h.bd j hj, fun q => ?_⟩) l.length 0 (by omega)
  have := h.up (j - 1) (by omega)
  rw [show j - 1 + 1 = j by omega, show ((j - 1 : Nat) : Int) = (j : Int) - 1 by omega] at this
  exact this
noncomputable def ri : List Seg → Int
  | [] => 0
  | s :: r => s.Rise + ri r
theorem ri_bd : ∀ {l : List Seg}, allS l = true → 0 ≤ ri l ∧ ri l ≤ sumL l
  | [], _ => by decide
  | s :: r, h => by
    obtain ⟨h1, h2⟩ := Bool.and_eq_true_iff.1 h
    have h1 := of_decide_eq_true h1
    have := ri_bd h2
    show 0 ≤ s.Rise + ri r ∧ s.Rise + ri r ≤ s.Long + sumL r
    omega
theorem kn_0 {x : Knot} {r : List Knot} : kn (x :: r) ((0 : Nat) : Int) = x := rfl
theorem kn_S {x : Knot} {r : List Knot} {i : Nat} : kn (x :: r) ((i + 1 : Nat) : Int) = kn r (i : Int) := by
  show ixD E 72 (x :: r) ((i + 1 : Nat) : Int) = ixD E 72 r (i : Int)
  unfold ixD
  rw [Int.toNat_natCast, Int.toNat_natCast]
  rfl
theorem chain : ∀ (l : List Seg) (low v : Int), allS l = true → 0 ≤ low → 0 ≤ v → low + 5000 * sumL l ≤ 4611686018427387904 → v + sumL l ≤ 4611686018427387904 →
    (∀ i : Nat, i ≤ l.length → (low ≤ (kn (⟨low, v⟩ :: kl l low v) i).At ∧ (kn (⟨low, v⟩ :: kl l low v) i).At ≤ low + va l) ∧ (v ≤ (kn (⟨low, v⟩ :: kl l low v) i).V ∧ (kn (⟨low, v⟩ :: kl l low v) i).V ≤ v + ri l)) ∧
    (∀ i : Nat, i < l.length → (kn (⟨low, v⟩ :: kl l low v) i).At < (kn (⟨low, v⟩ :: kl l low v) (i + 1 : Nat)).At ∧ (kn (⟨low, v⟩ :: kl l low v) i).V ≤ (kn (⟨low, v⟩ :: kl l low v) (i + 1 : Nat)).V) ∧ (kn (⟨low, v⟩ :: kl l low v) (l.length : Int)).V = v + ri l
  | [], low, v, _, h0, h1, _, _ => by
    refine ⟨fun i hi => ?_, fun i hi => absurd hi (by simp), ?_⟩
    · obtain rfl : i = 0 := by simpa using hi
      rw [kn_0]
      show (low ≤ low ∧ low ≤ low + 0) ∧ v ≤ v ∧ v ≤ v + 0
      omega
    · show v = v + 0
      omega
  | s :: r, low, v, h, h0, h1, hb, hv => by
    obtain ⟨k1, k2⟩ := Bool.and_eq_true_iff.1 h
    have k1 := of_decide_eq_true k1
    have p := prod_s k1
    have n := sumL_nn k2
    have hb : low + 5000 * (s.Long + sumL r) ≤ 4611686018427387904 := hb
    have hv : v + (s.Long + sumL r) ≤ 4611686018427387904 := hv
    have e1 : hi s low = low + s.Long * s.Area := hi_eq k1 h0 (by omega)
    have e2 : wr (v + s.Rise) = v + s.Rise := i64_in' (by omega) (by omega)
    have L : 1 ≤ s.Long := k1.1
    obtain ⟨c1, c2, c3⟩ := chain r (low + s.Long * s.Area) (v + s.Rise) k2 (by omega) (by omega) (by omega) (by omega)
    have ek : kl (s :: r) low v = ⟨low + s.Long * s.Area, v + s.Rise⟩ :: kl r (low + s.Long * s.Area) (v + s.Rise) := by
      show ⟨hi s low, wr (v + s.Rise)⟩ :: kl r (hi s low) (wr (v + s.Rise)) = _
      rw [e1, e2]
    have rb := ri_bd k2
    have vb := va_bd k2
    rw [ek]
    have eva : va (s :: r) = s.Long * s.Area + va r := rfl
    have eri : ri (s :: r) = s.Rise + ri r := rfl
    rw [eva, eri]
    refine ⟨fun i hi => ?_, fun i hi => ?_, ?_⟩
    · cases i with
      | zero => rw [kn_0]; show (low ≤ low ∧ low ≤ _) ∧ v ≤ v ∧ v ≤ _; omega
      | succ i =>
        rw [kn_S]
        have := c1 i (by simpa using hi)
        omega
    · cases i with
      | zero =>
        rw [kn_0, kn_S, kn_0]
        show low < low + s.Long * s.Area ∧ v ≤ v + s.Rise
        omega
      | succ i =>
        rw [kn_S, kn_S]
        exact c2 i (by simpa using hi)
    · have : ((s :: r : List Seg).length : Int) = ((r.length + 1 : Nat) : Int) := rfl
      rw [this, kn_S, c3]
      omega
theorem hl_good {h : List Seg} (c : hE h = 0) : Good (hl h) (vol h) (ri h) ∧ (∀ i : Nat, i + 1 < (hl h).length → (kn (hl h) i).V ≤ (kn (hl h) (i + 1 : Nat)).V) ∧ (kn (hl h) (((hl h).length : Int) - 1)).V = ri h ∧ 0 ≤ ri h ∧ ri h ≤ 1048576 := by
  obtain ⟨h1, h2, h3⟩ := hE_0 c
  have n := sumL_nn h2
  have rb := ri_bd h2
  have vb := va_bd h2
  obtain ⟨c1, c2, c3⟩ := chain h 0 0 h2 (by decide) (by decide) (by omega) (by omega)
  have e : hl h = ⟨0, 0⟩ :: kl h 0 0 := by unfold hl; rw [if_pos c]
  have el := hl_len c
  have ev := vol_va c
  rw [← e] at c1 c2 c3
  refine ⟨⟨by omega, by omega, fun i hi => ?_, fun i hi => (c2 i (by omega)).1⟩, fun i hi => (c2 i (by omega)).2, ?_, by omega, by omega⟩
  · have := c1 i (by omega)
    omega
  · rw [el, show ((h.length + 1 : Nat) : Int) - 1 = (h.length : Int) by omega, c3]
    omega
theorem hl_right {h : List Seg} (c : hE h = 0) : isR (hl h) := by
  obtain ⟨g, _, _, r0, r1⟩ := hl_good c
  have := vol_bd h
  exact .inr (good_lineErr ⟨g.pos, g.len, fun i hi => by have := g.bd i hi; omega, g.up⟩ (by decide) (by decide))
theorem at_bd {h : List Seg} (c : hE h = 0) (x : Int) : (0 ≤ atLo (hl h) x ∧ atHi (hl h) x ≤ ri h) ∧ atLo (hl h) x ≤ atHi (hl h) x ∧ atHi (hl h) x ≤ atLo (hl h) x + 1 := by
  unfold atLo atHi
  rw [if_pos (hl_right c), if_pos (hl_right c)]
  exact val_bd (hl_good c).1 x
theorem tl_bd {w a b m : Int} (hw : -40000 ≤ w ∧ w ≤ 40000) (ha : 0 ≤ a ∧ a ≤ m) (hb : 0 ≤ b ∧ b ≤ m) : (-(40000 * m) ≤ tl w a b ∧ tl w a b ≤ 40000 * m) ∧ -(40000 * m) ≤ th w a b ∧ th w a b ≤ 40000 * m := by
  have key : ∀ y : Int, 0 ≤ y → y ≤ m → -(40000 * m) ≤ w * y ∧ w * y ≤ 40000 * m := fun y h0 h1 => by
    rcases Int.le_total 0 w with h | h
    · have := mulb h hw.2 h0 h1
      omega
    · have := mulb (show 0 ≤ -w by omega) (show -w ≤ 40000 by omega) h0 h1
      rw [Int.neg_mul] at this
      omega
  unfold tl th
  constructor
  · split
    · exact key b hb.1 hb.2
    · exact key a ha.1 ha.2
  · split
    · exact key a ha.1 ha.2
    · exact key b hb.1 hb.2
theorem GL_bd {h : List Seg} {l : List Slug} {u : Int} (c : cE h l = 0) : ∀ m : Nat, m < l.length → (-(41943040000 * (m : Int)) ≤ GL l (hl h) u m ∧ GL l (hl h) u m ≤ 41943040000 * (m : Int)) ∧ -(41943040000 * (m : Int)) ≤ GH l (hl h) u m ∧ GH l (hl h) u m ≤ 41943040000 * (m : Int)
  | 0, _ => by
    show (-(41943040000 * ((0 : Nat) : Int)) ≤ 0 ∧ 0 ≤ 41943040000 * ((0 : Nat) : Int)) ∧ -(41943040000 * ((0 : Nat) : Int)) ≤ 0 ∧ 0 ≤ 41943040000 * ((0 : Nat) : Int)
    omega
  | m + 1, hm => by
    have ih := GL_bd (u := u) c m (by omega)
    have hc := col_of c
    have w1 := hc.wt m (by omega)
    have w2 := hc.wt (m + 1) hm
    have g := hl_good (cE_len c).1
    have b := at_bd (cE_len c).1 (SV l (m + 1))
    have ei : ((m + 1 : Nat) : Int) = (m : Int) + 1 := by omega
    rw [ei] at w2 ⊢
    have t := tl_bd (w := (zi l (m : Int)).Weight - (zi l ((m : Int) + 1)).Weight) (a := atLo (hl h) (SV l (m + 1))) (b := atHi (hl h) (SV l (m + 1))) (m := 1048576) (by omega) (by omega) (by omega)
    constructor
    · show -(41943040000 * ((m : Int) + 1)) ≤ GL l (hl h) u m + (if SV l (m + 1) > u then _ else 0) ∧ GL l (hl h) u m + (if SV l (m + 1) > u then _ else 0) ≤ _
      split <;> omega
    · show -(41943040000 * ((m : Int) + 1)) ≤ GH l (hl h) u m + (if SV l (m + 1) > u then _ else 0) ∧ GH l (hl h) u m + (if SV l (m + 1) > u then _ else 0) ≤ _
      split <;> omega
/-- What the pressure is, without words' limits. -/
noncomputable def xLo (h : List Seg) (l : List Slug) (a u : Int) : Int := top0 h l a + GL l (hl h) u (l.length - 1) + tl (-(zi l (jd l u (l.length - 1) : Int)).Weight) (atLo (hl h) u) (atHi (hl h) u)
noncomputable def xHi (h : List Seg) (l : List Slug) (a u : Int) : Int := top0 h l a + GH l (hl h) u (l.length - 1) + th (-(zi l (jd l u (l.length - 1) : Int)).Weight) (atLo (hl h) u) (atHi (hl h) u)
theorem pr_x {h : List Seg} {l : List Slug} {a u : Int} (c : cE h l = 0) (ha : 0 ≤ a ∧ a ≤ 68719476736) : prLo h l a u = xLo h l a u ∧ prHi h l a u = xHi h l a u ∧ (-4611686018427387904 ≤ xLo h l a u ∧ xLo h l a u ≤ 4611686018427387904) ∧ -4611686018427387904 ≤ xHi h l a u ∧ xHi h l a u ≤ 4611686018427387904 := by
  have hc := col_of c
  have hl' := hc.len
  have g := hl_good (cE_len c).1
  have b := at_bd (cE_len c).1 u
  have G := GL_bd (u := u) c (l.length - 1) (by omega)
  have w := hc.wt (jd l u (l.length - 1)) (by have := jd_le l u (l.length - 1); omega)
  have w2 := hc.wt (l.length - 1) (by omega)
  rw [show ((l.length - 1 : Nat) : Int) = (l.length : Int) - 1 by omega] at w2
  have t := tl_bd (w := -(zi l (jd l u (l.length - 1) : Int)).Weight) (a := atLo (hl h) u) (b := atHi (hl h) u) (m := 1048576) (by omega) (by omega) (by omega)
  have g3 : (ki (hl h) (((hl h).length : Int) - 1)).V = ri h := g.2.2.1
  have p := mulb w2.1 w2.2 g.2.2.2.1 g.2.2.2.2
  have e0 : top0 h l a = a + (zi l ((l.length : Int) - 1)).Weight * ri h := by unfold top0; rw [g3]
  have B : (-4611686018427387904 ≤ xLo h l a u ∧ xLo h l a u ≤ 4611686018427387904) ∧ -4611686018427387904 ≤ xHi h l a u ∧ xHi h l a u ≤ 4611686018427387904 := by
    unfold xLo xHi
    rw [e0]
    omega
  exact ⟨i64_in' (show _ ≤ xLo h l a u by omega) (show xLo h l a u ≤ _ by omega), i64_in' (show _ ≤ xHi h l a u by omega) (show xHi h l a u ≤ _ by omega), B⟩
theorem tv36 (h : List Seg) (l : List Slug) (a u : Int) : runX ctG noLoops 36 [.agg [.sl 52 h false], .sl 47 l false, i64 a, i64 u] [42, 26] =
  (.req (inLg h ∧ inVm l)
  (.br (pE h l a u != (0 : Int))
   (.leaf (.tup [.agg [.sym .i64 ((0 : Int)), .sym .i64 ((0 : Int))], .sym .i64 (pE h l a u)]))
   (.req (inLg h)
   (.req ((decide ((0 : Int) ≤ IntKind.wrap IntKind.i64 ((↑(List.length (hl h)) : Int) - (1 : Int))) && decide (IntKind.wrap IntKind.i64 ((↑(List.length (hl h)) : Int) - (1 : Int)) < (↑(List.length (hl h)) : Int))) = true)
   (.req ((decide ((0 : Int) ≤ IntKind.wrap IntKind.i64 ((↑(List.length (hl h)) : Int) - (1 : Int))) && decide (IntKind.wrap IntKind.i64 ((↑(List.length (hl h)) : Int) - (1 : Int)) < (↑(List.length (hl h)) : Int))) = true)
   (.br (wr (Knot.V (ki (hl h) (IntKind.wrap IntKind.i64 ((↑(List.length (hl h)) : Int) - (1 : Int)))) + th (-1 : Int) (atLo (hl h) u) (atHi (hl h) u)) == (0 : Int))
    (.leaf (.tup [.agg [.sym .i64 ((0 : Int)), .sym .i64 ((0 : Int))], .sym .i64 ((2 : Int))]))
    (.req (qPre (bif true then if pLo h l a u > (0 : Int) then pLo h l a u else (0 : Int) else if pLo h l a u < (0 : Int) then pLo h l a u else (0 : Int)) (wr (Knot.V (ki (hl h) (IntKind.wrap IntKind.i64 ((↑(List.length (hl h)) : Int) - (1 : Int)))) + th (-1 : Int) (atLo (hl h) u) (atHi (hl h) u))))
    (.req (qPre (bif true then if pHi h l a u > (0 : Int) then pHi h l a u else (0 : Int) else if pHi h l a u < (0 : Int) then pHi h l a u else (0 : Int)) (bif true then if wr (Knot.V (ki (hl h) (IntKind.wrap IntKind.i64 ((↑(List.length (hl h)) : Int) - (1 : Int)))) + tl (-1 : Int) (atLo (hl h) u) (atHi (hl h) u)) > (1 : Int) then wr (Knot.V (ki (hl h) (IntKind.wrap IntKind.i64 ((↑(List.length (hl h)) : Int) - (1 : Int)))) + tl (-1 : Int) (atLo (hl h) u) (atHi (hl h) u)) else (1 : Int) else if wr (Knot.V (ki (hl h) (IntKind.wrap IntKind.i64 ((↑(List.length (hl h)) : Int) - (1 : Int)))) + tl (-1 : Int) (atLo (hl h) u) (atHi (hl h) u)) < (1 : Int) then wr (Knot.V (ki (hl h) (IntKind.wrap IntKind.i64 ((↑(List.length (hl h)) : Int) - (1 : Int)))) + tl (-1 : Int) (atLo (hl h) u) (atHi (hl h) u)) else (1 : Int)))
    (.leaf (.tup [.agg [.sym .i64 ((bif true then if pLo h l a u > (0 : Int) then pLo h l a u else (0 : Int) else if pLo h l a u < (0 : Int) then pLo h l a u else (0 : Int)) / wr (Knot.V (ki (hl h) (IntKind.wrap IntKind.i64 ((↑(List.length (hl h)) : Int) - (1 : Int)))) + th (-1 : Int) (atLo (hl h) u) (atHi (hl h) u))), .sym .i64 (-((-bif true then if pHi h l a u > (0 : Int) then pHi h l a u else (0 : Int) else if pHi h l a u < (0 : Int) then pHi h l a u else (0 : Int)) / bif true then if wr (Knot.V (ki (hl h) (IntKind.wrap IntKind.i64 ((↑(List.length (hl h)) : Int) - (1 : Int)))) + tl (-1 : Int) (atLo (hl h) u) (atHi (hl h) u)) > (1 : Int) then wr (Knot.V (ki (hl h) (IntKind.wrap IntKind.i64 ((↑(List.length (hl h)) : Int) - (1 : Int)))) + tl (-1 : Int) (atLo (hl h) u) (atHi (hl h) u)) else (1 : Int) else if wr (Knot.V (ki (hl h) (IntKind.wrap IntKind.i64 ((↑(List.length (hl h)) : Int) - (1 : Int)))) + tl (-1 : Int) (atLo (hl h) u) (atHi (hl h) u)) < (1 : Int) then wr (Knot.V (ki (hl h) (IntKind.wrap IntKind.i64 ((↑(List.length (hl h)) : Int) - (1 : Int)))) + tl (-1 : Int) (atLo (hl h) u) (atHi (hl h) u)) else (1 : Int)))], .sym .i64 ((0 : Int))])))))))))) := by kernel_rfl
theorem tv37 (h : List Seg) (l : List Slug) (a u : Int) : runX ctG noLoops 37 [.agg [.sl 52 h false], .sl 47 l false, i64 a, i64 u] [42, 26] =
  (.req (inLg h ∧ inVm l)
  (.br (pE h l a u != (0 : Int))
   (.leaf (.tup [.agg [.sym .i64 ((0 : Int)), .sym .i64 ((0 : Int))], .sym .i64 (pE h l a u)]))
   (.req (inLg h)
   (.req ((decide ((0 : Int) ≤ IntKind.wrap IntKind.i64 ((↑(List.length (hl h)) : Int) - (1 : Int))) && decide (IntKind.wrap IntKind.i64 ((↑(List.length (hl h)) : Int) - (1 : Int)) < (↑(List.length (hl h)) : Int))) = true)
   (.br (IntKind.wrap IntKind.i64 (Knot.V (ki (hl h) (IntKind.wrap IntKind.i64 ((↑(List.length (hl h)) : Int) - (1 : Int)))) - atLo (hl h) u) == (0 : Int))
    (.leaf (.tup [.agg [.sym .i64 ((0 : Int)), .sym .i64 ((0 : Int))], .sym .i64 ((2 : Int))]))
    (.req (decide (IntKind.wrap IntKind.i64 (Knot.V (ki (hl h) (IntKind.wrap IntKind.i64 ((↑(List.length (hl h)) : Int) - (1 : Int)))) - atLo (hl h) u) ≠ (0 : Int)) = true)
    (.req (decide ((bif true then if IntKind.wrap IntKind.i64 (Knot.V (ki (hl h) (IntKind.wrap IntKind.i64 ((↑(List.length (hl h)) : Int) - (1 : Int)))) - atHi (hl h) u) > (1 : Int) then IntKind.wrap IntKind.i64 (Knot.V (ki (hl h) (IntKind.wrap IntKind.i64 ((↑(List.length (hl h)) : Int) - (1 : Int)))) - atHi (hl h) u) else (1 : Int) else if IntKind.wrap IntKind.i64 (Knot.V (ki (hl h) (IntKind.wrap IntKind.i64 ((↑(List.length (hl h)) : Int) - (1 : Int)))) - atHi (hl h) u) < (1 : Int) then IntKind.wrap IntKind.i64 (Knot.V (ki (hl h) (IntKind.wrap IntKind.i64 ((↑(List.length (hl h)) : Int) - (1 : Int)))) - atHi (hl h) u) else (1 : Int)) ≠ (0 : Int)) = true)
    (.leaf (.tup [.agg [.sym .i64 (IntKind.wrap IntKind.i64 (Int.tdiv (bif true then if pLo h l a u > (0 : Int) then pLo h l a u else (0 : Int) else if pLo h l a u < (0 : Int) then pLo h l a u else (0 : Int)) (IntKind.wrap IntKind.i64 (Knot.V (ki (hl h) (IntKind.wrap IntKind.i64 ((↑(List.length (hl h)) : Int) - (1 : Int)))) - atLo (hl h) u)))), .sym .i64 (IntKind.wrap IntKind.i64 (Int.tdiv (IntKind.wrap IntKind.i64 (IntKind.wrap IntKind.i64 ((bif true then if pHi h l a u > (0 : Int) then pHi h l a u else (0 : Int) else if pHi h l a u < (0 : Int) then pHi h l a u else (0 : Int)) + bif true then if IntKind.wrap IntKind.i64 (Knot.V (ki (hl h) (IntKind.wrap IntKind.i64 ((↑(List.length (hl h)) : Int) - (1 : Int)))) - atHi (hl h) u) > (1 : Int) then IntKind.wrap IntKind.i64 (Knot.V (ki (hl h) (IntKind.wrap IntKind.i64 ((↑(List.length (hl h)) : Int) - (1 : Int)))) - atHi (hl h) u) else (1 : Int) else if IntKind.wrap IntKind.i64 (Knot.V (ki (hl h) (IntKind.wrap IntKind.i64 ((↑(List.length (hl h)) : Int) - (1 : Int)))) - atHi (hl h) u) < (1 : Int) then IntKind.wrap IntKind.i64 (Knot.V (ki (hl h) (IntKind.wrap IntKind.i64 ((↑(List.length (hl h)) : Int) - (1 : Int)))) - atHi (hl h) u) else (1 : Int)) - (1 : Int))) (bif true then if IntKind.wrap IntKind.i64 (Knot.V (ki (hl h) (IntKind.wrap IntKind.i64 ((↑(List.length (hl h)) : Int) - (1 : Int)))) - atHi (hl h) u) > (1 : Int) then IntKind.wrap IntKind.i64 (Knot.V (ki (hl h) (IntKind.wrap IntKind.i64 ((↑(List.length (hl h)) : Int) - (1 : Int)))) - atHi (hl h) u) else (1 : Int) else if IntKind.wrap IntKind.i64 (Knot.V (ki (hl h) (IntKind.wrap IntKind.i64 ((↑(List.length (hl h)) : Int) - (1 : Int)))) - atHi (hl h) u) < (1 : Int) then IntKind.wrap IntKind.i64 (Knot.V (ki (hl h) (IntKind.wrap IntKind.i64 ((↑(List.length (hl h)) : Int) - (1 : Int)))) - atHi (hl h) u) else (1 : Int))))], .sym .i64 ((0 : Int))]))))))))) := by kernel_rfl
theorem up_eq' {a b : Int} (h0 : 0 ≤ a) (hb : 0 < b) : Int.tdiv (a + b - 1) b = -(-a / b) := by
  rw [Int.tdiv_eq_ediv_of_nonneg (by omega)]
  have h1 := Int.mul_ediv_add_emod (-a) b
  have h2 := Int.emod_nonneg (-a) (show b ≠ 0 by omega)
  have h3 := Int.emod_lt_of_pos (-a) hb
  exact ((Int.ediv_emod_unique hb (r := b - 1 - (-a) % b)).2 ⟨by rw [Int.mul_neg]; omega, by omega, by omega⟩).1
noncomputable def mx (x m : Int) : Int := if x > m then x else m
theorem mx_ge (x m : Int) : m ≤ mx x m ∧ x ≤ mx x m ∧ (mx x m = x ∨ mx x m = m) := by
  unfold mx
  split <;> omega
noncomputable def eqE (h : List Seg) (l : List Slug) (a u : Int) : Int := if pE h l a u = 0 then (if ri h - atLo (hl h) u = 0 then 2 else 0) else pE h l a u
noncomputable def eqLo (h : List Seg) (l : List Slug) (a u : Int) : Int := if eqE h l a u = 0 then mx (pLo h l a u) 0 / (ri h - atLo (hl h) u) else 0
noncomputable def eqHi (h : List Seg) (l : List Slug) (a u : Int) : Int := if eqE h l a u = 0 then -(-(mx (pHi h l a u) 0) / mx (ri h - atHi (hl h) u) 1) else 0
theorem pE_0 {h : List Seg} {l : List Slug} {a u : Int} (c : pE h l a u = 0) : cE h l = 0 ∧ (0 ≤ a ∧ a ≤ 68719476736) ∧ 0 ≤ u ∧ u ≤ vol h := by
  unfold pE at c
  split at c
  next q =>
    split at c
    next q2 => exact ⟨q, of_decide_eq_true q2.1, of_decide_eq_true q2.2⟩
    next => cases c
  next q => exact absurd c q
theorem p_bd {h : List Seg} {l : List Slug} {a u : Int} (c : pE h l a u = 0) : (-4611686018427387904 ≤ pLo h l a u ∧ pLo h l a u ≤ 4611686018427387904) ∧ -4611686018427387904 ≤ pHi h l a u ∧ pHi h l a u ≤ 4611686018427387904 := by
  obtain ⟨c1, c2, _⟩ := pE_0 c
  obtain ⟨e1, e2, b⟩ := pr_x (u := u) c1 c2
  unfold pLo pHi
  rw [if_pos c, if_pos c, e1, e2]
  exact b
theorem e_last {h : List Seg} (c : hE h = 0) : IntKind.wrap IntKind.i64 (((hl h).length : Int) - 1) = ((hl h).length : Int) - 1 ∧ 0 < (hl h).length := by
  have := (hl_good c).1
  have h1 := this.pos
  have h2 := this.len
  exact ⟨i64_in' (by omega) (by omega), h1⟩
theorem qpre {x m : Int} (h : -4611686018427387904 ≤ x ∧ x ≤ 4611686018427387904) (hm : 1 ≤ m ∧ m ≤ 4611686018427387904) : qPre x m := by
  unfold qPre
  omega
theorem div_lo {x m : Int} (h0 : 0 ≤ x) (hm : 1 ≤ m) : 0 ≤ x / m ∧ x / m ≤ x := ⟨Int.ediv_nonneg h0 (by omega), Int.ediv_le_self _ h0⟩
theorem th_neg (a b : Int) : th (-1) a b = -a := by unfold th; rw [if_pos (by decide)]; omega
theorem tl_neg (a b : Int) : tl (-1) a b = -b := by unfold tl; rw [if_pos (by decide)]; omega
theorem eV_e {h : List Seg} {l : List Slug} {a u e : Int} (he : eqE h l a u = e) (h0 : e ≠ 0) : AV.tup [.agg [i64 0, i64 0], i64 e] = (.tup [.agg [i64 (eqLo h l a u), i64 (eqHi h l a u)], i64 (eqE h l a u)] : AV T) := by
  unfold eqLo eqHi
  rw [he, if_neg h0, if_neg h0]
theorem eV_0 {h : List Seg} {l : List Slug} {a u : Int} (he : eqE h l a u = 0) : AV.tup [.agg [i64 (mx (pLo h l a u) 0 / (ri h - atLo (hl h) u)), i64 (-(-(mx (pHi h l a u) 0) / mx (ri h - atHi (hl h) u) 1))], i64 0] = (.tup [.agg [i64 (eqLo h l a u), i64 (eqHi h l a u)], i64 (eqE h l a u)] : AV T) := by
  unfold eqLo eqHi
  rw [he, if_pos rfl, if_pos rfl]
theorem s36 (h : List Seg) (l : List Slug) (a u : Int) (hL : inLg h ∧ inVm l) : (runX ctG noLoops 36 [.agg [.sl 52 h false], .sl 47 l false, i64 a, i64 u] [42, 26]).holds fun v => v = .tup [.agg [i64 (eqLo h l a u), i64 (eqHi h l a u)], i64 (eqE h l a u)] := by
  rw [tv36]
  refine ⟨hL, wayNe (fun c => eV_e (by unfold eqE; rw [if_neg c]) c) fun c => ?_⟩
  obtain ⟨c1, c2, c3⟩ := pE_0 c
  have hc := (cE_len c1).1
  obtain ⟨e1, hl0⟩ := e_last hc
  have B := p_bd c
  have A := at_bd hc u
  obtain ⟨_, _, e2, r0, r1⟩ := hl_good hc
  have e2 : (ki (hl h) (((hl h).length : Int) - 1)).V = ri h := e2
  have e3 : wr (ri h + -atLo (hl h) u) = ri h - atLo (hl h) u := i64_in' (by omega) (by omega)
  have e4 : wr (ri h + -atHi (hl h) u) = ri h - atHi (hl h) u := i64_in' (by omega) (by omega)
  have m1 := mx_ge (pLo h l a u) 0
  have m2 := mx_ge (pHi h l a u) 0
  have m3 := mx_ge (ri h - atHi (hl h) u) 1
  refine ⟨hL.1, ?_⟩
  rw [e1, e2, th_neg, tl_neg, e3, e4]
  refine wayC (by omega) (by omega) fun _ _ => wayC (by omega) (by omega) fun _ _ => wayEq (fun k => ?_) fun k => ⟨qpre (x := mx (pLo h l a u) 0) (by omega) (by omega), qpre (x := mx (pHi h l a u) 0) (m := mx (ri h - atHi (hl h) u) 1) (by omega) (by omega), ?_⟩
  · exact eV_e (by unfold eqE; rw [if_pos c, if_pos k]) (by decide)
  · exact eV_0 (by unfold eqE; rw [if_pos c, if_neg k])
theorem s37 (h : List Seg) (l : List Slug) (a u : Int) (hL : inLg h ∧ inVm l) : (runX ctG noLoops 37 [.agg [.sl 52 h false], .sl 47 l false, i64 a, i64 u] [42, 26]).holds fun v => v = .tup [.agg [i64 (eqLo h l a u), i64 (eqHi h l a u)], i64 (eqE h l a u)] := by
  rw [tv37]
  refine ⟨hL, wayNe (fun c => eV_e (by unfold eqE; rw [if_neg c]) c) fun c => ?_⟩
  obtain ⟨c1, c2, c3⟩ := pE_0 c
  have hc := (cE_len c1).1
  obtain ⟨e1, hl0⟩ := e_last hc
  have B := p_bd c
  have A := at_bd hc u
  obtain ⟨_, _, e2, r0, r1⟩ := hl_good hc
  have e2 : (ki (hl h) (((hl h).length : Int) - 1)).V = ri h := e2
  have e3 : IntKind.wrap IntKind.i64 (ri h - atLo (hl h) u) = ri h - atLo (hl h) u := i64_in' (by omega) (by omega)
  have e4 : IntKind.wrap IntKind.i64 (ri h - atHi (hl h) u) = ri h - atHi (hl h) u := i64_in' (by omega) (by omega)
  have m1 := mx_ge (pLo h l a u) 0
  have m2 := mx_ge (pHi h l a u) 0
  have m3 := mx_ge (ri h - atHi (hl h) u) 1
  refine ⟨hL.1, ?_⟩
  rw [e1, e2, e3, e4]
  refine wayC (by omega) (by omega) fun _ _ => wayEq (fun k => ?_) fun k => ⟨decide_eq_true k, decide_eq_true (show mx (ri h - atHi (hl h) u) 1 ≠ 0 by omega), ?_⟩
  · exact eV_e (by unfold eqE; rw [if_pos c, if_pos k]) (by decide)
  · have k1 : 0 < ri h - atLo (hl h) u := by omega
    have d1 := div_lo m1.1 (show 1 ≤ ri h - atLo (hl h) u by omega)
    have f1 : IntKind.wrap IntKind.i64 (Int.tdiv (mx (pLo h l a u) 0) (ri h - atLo (hl h) u)) = mx (pLo h l a u) 0 / (ri h - atLo (hl h) u) := by
      rw [Int.tdiv_eq_ediv_of_nonneg m1.1]
      exact i64_in' (by omega) (by omega)
    have f2 : IntKind.wrap IntKind.i64 (Int.tdiv (IntKind.wrap IntKind.i64 (IntKind.wrap IntKind.i64 (mx (pHi h l a u) 0 + mx (ri h - atHi (hl h) u) 1) - 1)) (mx (ri h - atHi (hl h) u) 1)) = -(-(mx (pHi h l a u) 0) / mx (ri h - atHi (hl h) u) 1) := by
      rw [i64_in' (n := mx (pHi h l a u) 0 + mx (ri h - atHi (hl h) u) 1) (by omega) (by omega), i64_in' (n := mx (pHi h l a u) 0 + mx (ri h - atHi (hl h) u) 1 - 1) (by omega) (by omega), ← up_eq' m2.1 (by omega), Int.tdiv_eq_ediv_of_nonneg (by omega)]
      have d2 := div_lo (x := mx (pHi h l a u) 0 + mx (ri h - atHi (hl h) u) 1 - 1) (m := mx (ri h - atHi (hl h) u) 1) (by omega) (by omega)
      exact i64_in' (by omega) (by omega)
    have goal := eV_0 (show eqE h l a u = 0 by unfold eqE; rw [if_pos c, if_neg k])
    rw [← f1, ← f2] at goal
    exact goal
noncomputable def cEq : Con T := conP Try.prog [shH, .one (.s 47), .one (.i .i64), .one (.i .i64)] [.l 52, .l 47, .n, .n] (fun d => inLg d.1 ∧ inVm d.2.1) fun d => .tup [.agg [i64 (eqLo d.1 d.2.1 d.2.2.1 d.2.2.2.1), i64 (eqHi d.1 d.2.1 d.2.2.1 d.2.2.2.1)], i64 (eqE d.1 d.2.1 d.2.2.1 d.2.2.2.1)]
theorem eq_ok : ConOk Try.prog E 36 cEq := conP_ok fun d hd => fact_run ctG_ok noLoops_ok (ts := [42, 26]) rfl (s36 d.1 d.2.1 d.2.2.1 d.2.2.2.1 hd)
theorem eq2_ok : ConOk Try.prog E 37 cEq := conP_ok fun d hd => fact_run ctG_ok noLoops_ok (ts := [42, 26]) rfl (s37 d.1 d.2.1 d.2.2.1 d.2.2.2.1 hd)
end Go.Proofs.Ytnhedcaphncliaa.W.Hole
