/- FluidLeast: the least gradient. No condition. -/
import Derived.Test.YtnhedcaphncliaaK
set_option linter.unusedVariables false
set_option maxRecDepth 100000
set_option maxHeartbeats 4000000
noncomputable section
namespace Go.Proofs.Ytnhedcaphncliaa.W
open Go Go.Cx Go.RowKit
theorem pB_iff {A G Y V g q : Int} : pB A G Y V g q = true ↔ (g * G ≤ Y ∧ q = 0) ∨ (Y < g * G ∧ (q * V) * ((g * G) * (g * G)) ≤ ((g * G - Y) * (g * G - Y)) * ((2 * (g * G) + Y) * (G * A))) := by
  unfold pB
  generalize (q * V) * ((g * G) * (g * G)) = W
  generalize ((g * G - Y) * (g * G - Y)) * ((2 * (g * G) + Y) * (G * A)) = X
  by_cases c : g * G ≤ Y
  · rw [decide_eq_true c, Bool.cond_true, decide_eq_true_eq]; omega
  · rw [decide_eq_false c, Bool.cond_false, decide_eq_true_eq]; omega
theorem core_t {t u y K k c : Int} (hy : 0 ≤ y) (h1 : y < t) (h2 : t ≤ u) (hK : 0 ≤ K) (hk : K ≤ k) (hc : c * (t * t) ≤ ((t - y) * (t - y)) * ((2 * t + y) * K)) : c * (u * u) ≤ ((u - y) * (u - y)) * ((2 * u + y) * k) := by
  have i1 : (u - y) * t - (t - y) * u = y * (u - t) := by grind
  have i2 : 0 ≤ y * (u - t) := Int.mul_nonneg hy (by omega)
  have a0 : 0 ≤ (t - y) * u := Int.mul_nonneg (by omega) (by omega)
  have ab := Int.mul_self_le_mul_self a0 (show (t - y) * u ≤ (u - y) * t by omega)
  have k1 : (2 * t + y) * K ≤ (2 * u + y) * k := Int.mul_le_mul (by omega) hk hK (by omega)
  have k0 : 0 ≤ (2 * t + y) * K := Int.mul_nonneg (by omega) hK
  have m1 := Int.mul_le_mul ab k1 k0 (Int.mul_nonneg (Int.mul_nonneg (by omega) (by omega)) (Int.mul_nonneg (by omega) (by omega)))
  have m2 := Int.mul_le_mul_of_nonneg_right hc (Int.mul_nonneg (show 0 ≤ u by omega) (show 0 ≤ u by omega))
  have e1 : c * (t * t) * (u * u) = c * (u * u) * (t * t) := by grind
  have e2 : (t - y) * (t - y) * ((2 * t + y) * K) * (u * u) = (t - y) * u * ((t - y) * u) * ((2 * t + y) * K) := by grind
  have e3 : (u - y) * t * ((u - y) * t) * ((2 * u + y) * k) = (u - y) * (u - y) * ((2 * u + y) * k) * (t * t) := by grind
  have tt : 0 < t * t := Int.mul_pos (by omega) (by omega)
  refine Int.le_of_mul_le_mul_right (a := t * t) ?_ tt
  omega
theorem core_y {t y z : Int} (h0 : 0 ≤ y) (h1 : y ≤ z) (h2 : z < t) : (t - z) * (t - z) * (2 * t + z) ≤ (t - y) * (t - y) * (2 * t + y) := by
  have i : (t - y) * (t - y) * (2 * t + y) - (t - z) * (t - z) * (2 * t + z) = (z - y) * (3 * (t * (t - y)) + 3 * (t * (t - z)) - ((t - y) * (t - y) + (t - y) * (t - z) + (t - z) * (t - z))) := by grind
  have j1 := Int.mul_le_mul_of_nonneg_right (show t - y ≤ t by omega) (show 0 ≤ t - y by omega)
  have j2 := Int.mul_le_mul_of_nonneg_left (show t - z ≤ t by omega) (show 0 ≤ t - y by omega)
  have j3 := Int.mul_le_mul_of_nonneg_right (show t - z ≤ t by omega) (show 0 ≤ t - z by omega)
  have c1 : (t - y) * t = t * (t - y) := Int.mul_comm _ _
  have n1 : 0 ≤ t * (t - y) := Int.mul_nonneg (by omega) (by omega)
  have n2 : 0 ≤ t * (t - z) := Int.mul_nonneg (by omega) (by omega)
  have := Int.mul_nonneg (show 0 ≤ z - y by omega) (show 0 ≤ 3 * (t * (t - y)) + 3 * (t * (t - z)) - ((t - y) * (t - y) + (t - y) * (t - z) + (t - z) * (t - z)) by omega)
  omega
/-- More pressure, a wider gap: no less flows. -/
theorem mono_g {A G H Y V g h q : Int} (hA : 0 ≤ A) (hG : 0 ≤ G) (hH : G ≤ H) (hY : 0 ≤ Y) (hV : 0 ≤ V) (hg : 0 ≤ g) (hh : g ≤ h) (hq : 0 ≤ q) (p : pB A G Y V g q = true) : pB A H Y V h q = true := by
  have tu : g * G ≤ h * H := Int.mul_le_mul hh hH hG (by omega)
  rw [pB_iff] at p ⊢
  rcases p with ⟨p1, p2⟩ | ⟨p1, p2⟩
  · subst p2
    by_cases c : h * H ≤ Y
    · exact Or.inl ⟨c, rfl⟩
    · refine Or.inr ⟨by omega, ?_⟩
      rw [Int.zero_mul, Int.zero_mul]
      have t0 : 0 ≤ h * H := Int.mul_nonneg (by omega) (by omega)
      exact Int.mul_nonneg (Int.mul_nonneg (by omega) (by omega)) (Int.mul_nonneg (by omega) (Int.mul_nonneg (by omega) hA))
  · exact Or.inr ⟨by omega, core_t hY p1 tu (Int.mul_nonneg hG hA) (Int.mul_le_mul_of_nonneg_right hH hA) p2⟩
/-- A greater flow, yield, viscosity: no more flows. -/
theorem mono_q {A G Y Z V W g q r : Int} (hA : 0 ≤ A) (hG : 0 ≤ G) (hY : 0 ≤ Y) (hZ : Y ≤ Z) (hV : 0 ≤ V) (hW : V ≤ W) (hg : 0 ≤ g) (hq : 0 ≤ q) (hr : q ≤ r) (p : pB A G Z W g r = true) : pB A G Y V g q = true := by
  rw [pB_iff] at p ⊢
  have t0 : 0 ≤ g * G := Int.mul_nonneg hg hG
  generalize g * G = t at *
  rcases p with ⟨p1, p2⟩ | ⟨p1, p2⟩
  · obtain rfl : q = 0 := by omega
    by_cases c : t ≤ Y
    · exact Or.inl ⟨c, rfl⟩
    · refine Or.inr ⟨by omega, ?_⟩
      rw [Int.zero_mul, Int.zero_mul]
      exact Int.mul_nonneg (Int.mul_nonneg (by omega) (by omega)) (Int.mul_nonneg (by omega) (Int.mul_nonneg hG hA))
  · refine Or.inr ⟨by omega, ?_⟩
    have m1 : q * V ≤ r * W := Int.mul_le_mul hr hW hV (by omega)
    have m2 := Int.mul_le_mul_of_nonneg_right m1 (Int.mul_nonneg t0 t0)
    have m3 := Int.mul_le_mul_of_nonneg_right (core_y hY hZ p1) (Int.mul_nonneg hG hA)
    rw [Int.mul_assoc, Int.mul_assoc _ (2 * t + Y)] at m3
    omega
theorem least_ex {p : Int → Bool} : ∀ n : Nat, p n = true → ∃ g : Int, (0 ≤ g ∧ g ≤ n) ∧ p g = true ∧ ∀ k, 0 ≤ k → k < g → p k = false
  | 0, h => ⟨0, by omega, h, fun k h1 h2 => by omega⟩
  | n + 1, h => by
    by_cases c : ∃ k : Nat, k ≤ n ∧ p k = true
    · obtain ⟨k, h1, h2⟩ := c
      have : ∃ m : Nat, m ≤ n ∧ (p m = true ∧ ∀ j : Nat, j < m → p j = false) := by
        induction k using Nat.strongRecOn with
        | _ k ih =>
          by_cases d : ∃ j : Nat, j < k ∧ p j = true
          · obtain ⟨j, d1, d2⟩ := d
            exact ih j d1 (by omega) d2
          · exact ⟨k, h1, h2, fun j hj => by
              cases e : p j with
              | false => rfl
              | true => exact absurd ⟨j, hj, e⟩ d⟩
      obtain ⟨m, m1, m2, m3⟩ := this
      refine ⟨m, by omega, m2, fun k k1 k2 => ?_⟩
      obtain ⟨j, rfl⟩ := Int.eq_ofNat_of_zero_le k1
      exact m3 j (by omega)
    · refine ⟨((n + 1 : Nat) : Int), by omega, h, fun k k1 k2 => ?_⟩
      obtain ⟨j, rfl⟩ := Int.eq_ofNat_of_zero_le k1
      cases e : p j with
      | false => rfl
      | true => exact absurd ⟨j, by omega, e⟩ c
noncomputable def gl (A G Y V q : Int) : Int := if h : pB A G Y V 20000 q = true then Classical.choose (least_ex (p := fun g => pB A G Y V g q) 20000 h) else 0
theorem gl_spec {A G Y V q : Int} (h : pB A G Y V 20000 q = true) : (0 ≤ gl A G Y V q ∧ gl A G Y V q ≤ 20000) ∧ pB A G Y V (gl A G Y V q) q = true ∧ ∀ k, 0 ≤ k → k < gl A G Y V q → pB A G Y V k q = false := by
  have := Classical.choose_spec (least_ex (p := fun g => pB A G Y V g q) 20000 h)
  unfold gl
  rw [dif_pos h]
  exact this
theorem gl_uni {A G Y V q g : Int} (h : pB A G Y V 20000 q = true) (h0 : 0 ≤ g) (h1 : pB A G Y V g q = true) (h2 : ∀ k, 0 ≤ k → k < g → pB A G Y V k q = false) : gl A G Y V q = g := by
  obtain ⟨⟨a, b⟩, c, d⟩ := gl_spec h
  rcases Int.lt_trichotomy (gl A G Y V q) g with e | e | e
  · have := h2 _ a e
    rw [c] at this; exact absurd this (by decide)
  · exact e
  · have := d _ h0 e
    rw [h1] at this; exact absurd this (by decide)
/-! ### the search -/
noncomputable def inv79 (lo hi L R A G Y V q : Int) : Prop := (vf L R A G Y V q ∧ pB A G Y V 20000 q = true) ∧ (0 ≤ lo ∧ lo ≤ hi ∧ hi ≤ 20000) ∧ pB A G Y V hi q = true ∧ ∀ k, 0 ≤ k → k < lo → pB A G Y V k q = false
noncomputable def o79 (lo hi L R A G Y W q : Int) : Tree (Ex × List (V T)) := .req (inv79 lo hi L R A G Y W q) (.leaf (.exit 0, [.n (gl A G Y W q)]))
noncomputable def c79 : LoopC T := ⟨[.n, .n, .n, .n, .n, .n, .n, .n, .n], ⟨29, [(0, .one (.i .i64)), (1, .one (.i .i64)), (2, .fn 80 [.r [.i .i64, .i .i64, .i .i64, .i .i64], .r [.i .i64, .i .i64], .r [.i .i64]])], []⟩, fun _ => ⟨29, [(0, .one (.i .i64))], []⟩, 20, fun d => o79 d.1 d.2.1 d.2.2.1 d.2.2.2.1 d.2.2.2.2.1 d.2.2.2.2.2.1 d.2.2.2.2.2.2.1 d.2.2.2.2.2.2.2.1 d.2.2.2.2.2.2.2.2.1⟩
theorem b79 (lo hi L R A G Y V q : Int) : bodyD Try.prog E c79 0 (bodyX Try.prog E ctH noLoops 1000 5 L0 (lpOf Try.prog 79 0)) (lo, hi, L, R, A, G, Y, V, q, ()) =
  (.br (decide (lo < hi))
   (.req (vf L R A G Y V q ∧ (0 : Int) ≤ IntKind.wrap IntKind.i64 (lo + IntKind.wrap IntKind.i64 (Int.tdiv (IntKind.wrap IntKind.i64 (hi - lo)) (2 : Int))) ∧ IntKind.wrap IntKind.i64 (lo + IntKind.wrap IntKind.i64 (Int.tdiv (IntKind.wrap IntKind.i64 (hi - lo)) (2 : Int))) ≤ (20000 : Int))
   (.br (pB A G Y V (IntKind.wrap IntKind.i64 (lo + IntKind.wrap IntKind.i64 (Int.tdiv (IntKind.wrap IntKind.i64 (hi - lo)) (2 : Int)))) q)
    (.leaf (.inl (lo, (IntKind.wrap IntKind.i64 (lo + IntKind.wrap IntKind.i64 (Int.tdiv (IntKind.wrap IntKind.i64 (hi - lo)) (2 : Int))), (L, (R, (A, (G, (Y, (V, (q, ())))))))))))
    (.leaf (.inl (IntKind.wrap IntKind.i64 (IntKind.wrap IntKind.i64 (lo + IntKind.wrap IntKind.i64 (Int.tdiv (IntKind.wrap IntKind.i64 (hi - lo)) (2 : Int))) + (1 : Int)), (hi, (L, (R, (A, (G, (Y, (V, (q, ())))))))))))))
   (.leaf (.inr (.exit (0 : Nat), [.n (lo)])))) := by kernel_rfl
theorem h79' (lo hi L R A G Y W q : Int) (K : Ex × List (V T) → Prop) (h : inv79 lo hi L R A G Y W q) (hK : K (.exit 0, [.n (gl A G Y W q)])) :
    (bodyD Try.prog E c79 0 (bodyX Try.prog E ctH noLoops 1000 5 L0 (lpOf Try.prog 79 0)) (lo, hi, L, R, A, G, Y, W, q, ())).holds fun y => match y with
    | .inl d => (d.2.1 - d.1).toNat < (hi - lo).toNat ∧ (c79.out d).holds K
    | .inr y => K y := by
  rw [b79]
  obtain ⟨⟨hv, hP⟩, h1, h2, h3⟩ := h
  refine way (fun c => ?_) fun c => ?_
  · have e1 : IntKind.wrap IntKind.i64 (hi - lo) = hi - lo := i64_in' (by omega) (by omega)
    have e2 : Int.tdiv (hi - lo) 2 = (hi - lo) / 2 := Int.tdiv_eq_ediv_of_nonneg (by omega)
    rw [e1, e2, i64_in' (n := (hi - lo) / 2) (by omega) (by omega), i64_in' (n := lo + (hi - lo) / 2) (by omega) (by omega), i64_in' (n := lo + (hi - lo) / 2 + 1) (by omega) (by omega)]
    generalize hm : lo + (hi - lo) / 2 = m
    refine ⟨⟨hv, by omega, by omega⟩, wayB (fun k => ?_) fun k => ?_⟩
    · have hin : inv79 lo m L R A G Y W q := ⟨⟨hv, hP⟩, by omega, k, h3⟩
      have hlt : (m - lo).toNat < (hi - lo).toNat := by omega
      exact ⟨hlt, hin, hK⟩
    · have hin : inv79 (m + 1) hi L R A G Y W q := ⟨⟨hv, hP⟩, by omega, h2, fun j j1 j2 => by
        cases e : pB A G Y W j q with
        | false => rfl
        | true =>
          have := mono_g (H := G) (h := m) (by omega) (by omega) (Int.le_refl G) (by omega) (by omega) j1 (by omega) (by omega) e
          rw [show pB A G Y W m q = false from k] at this
          exact absurd this (by decide)⟩
      have hlt : (hi - (m + 1)).toNat < (hi - lo).toNat := by omega
      exact ⟨hlt, hin, hK⟩
  · have e : gl A G Y W q = lo := by
      obtain rfl : lo = hi := by omega
      exact gl_uni hP h1.1 h2 h3
    rw [e] at hK
    exact hK
theorem h79 : LoopH Try.prog E c79 0 (bodyX Try.prog E ctH noLoops 1000 5 L0 (lpOf Try.prog 79 0)) :=
  ⟨fun d => (d.2.1 - d.1).toNat, fun d K hK => by
    obtain ⟨lo, hi, L, R, A, G, Y, W, q, ⟨⟩⟩ := d
    refine Tree.holds_mono (fun y hy => ?_) (h79' lo hi L R A G Y W q K hK.1 hK.2)
    cases y with
    | inl d' => exact hy
    | inr y => exact hy⟩
theorem ll79 : LLOk Try.prog E (llOf Try.prog E 79 [(3, c79)]) := llOf_ok fun i hi c hc => by
  have hi : i < 1 := hi
  obtain rfl : i = 0 := by omega
  obtain rfl : c79 = c := Option.some.inj hc
  exact LSnd.mk good names mixes ctH_ok (by decide) h79
theorem tv79 (L R A G Y V q : Int) : runX ctH (llOf Try.prog E 79 [(3, c79)]) 79 [i64 0, i64 20000, .fn 80 [.rp [i64 L, i64 R, i64 A, i64 G], .rp [i64 Y, i64 V], .rp [i64 q]]] [2, 4] =
  (.req (vf L R A G Y V q ∧ (0 : Int) ≤ (20000 : Int) ∧ (20000 : Int) ≤ (20000 : Int))
  (.br (!pB A G Y V (20000 : Int) q)
   (.leaf (.tup [.sym .i64 ((0 : Int)), .bool (false)]))
   (.req (inv79 (0 : Int) (20000 : Int) L R A G Y V q)
   (.leaf (.tup [.sym .i64 (gl A G Y V q), .bool (true)]))))) := by kernel_rfl
theorem tv44 (L R A G Y V g q : Int) : runX ctH noLoops 44 [.agg [i64 L, i64 R, i64 A, i64 G], .agg [i64 Y, i64 V], i64 g, i64 q] [4] =
  (.req ((-9223372036854775808 : Int) ≤ L ∧ L ≤ (9223372036854775807 : Int))
  (.br (decide (vf L R A G Y V q))
   (.br (within g (0 : Int) (20000 : Int))
    (.req (vf L R A G Y V q ∧ (0 : Int) ≤ g ∧ g ≤ (20000 : Int))
    (.leaf (.bool (pB A G Y V g q))))
    (.leaf (.bool (false))))
   (.leaf (.bool (false))))) := by kernel_rfl
noncomputable def gB (A G Y V q : Int) : Bool := pB A G Y V 20000 q
noncomputable def gN (A G Y V q : Int) : Int := if pB A G Y V 20000 q = true then gl A G Y V q else 0
theorem s79 (L R A G Y V q : Int) (h : vf L R A G Y V q) : (runX ctH (llOf Try.prog E 79 [(3, c79)]) 79 [i64 0, i64 20000, .fn 80 [.rp [i64 L, i64 R, i64 A, i64 G], .rp [i64 Y, i64 V], .rp [i64 q]]] [2, 4]).holds fun v => v = .tup [i64 (gN A G Y V q), .bool (gB A G Y V q)] := by
  rw [tv79]
  unfold gN gB
  refine ⟨⟨h, by decide, by decide⟩, wayB (fun k => ?_) fun k => ?_⟩
  · have k : pB A G Y V 20000 q = false := by simpa using k
    rw [k]; rfl
  · have k : pB A G Y V 20000 q = true := by simpa using k
    refine ⟨⟨⟨h, k⟩, by decide, k, fun j j1 j2 => absurd j2 (by omega)⟩, ?_⟩
    rw [k]; rfl
noncomputable def cFirst : Con T := conFP Try.prog E [2, 2, 103] [.one (.i .i64), .one (.i .i64), .fn 80 [.r [.i .i64, .i .i64, .i .i64, .i .i64], .r [.i .i64, .i .i64], .r [.i .i64]]] [.n, .n, .n, .n, .n, .n, .n, .n, .n] (fun d => (d.1 = 0 ∧ d.2.1 = 20000) ∧ vf d.2.2.1 d.2.2.2.1 d.2.2.2.2.1 d.2.2.2.2.2.1 d.2.2.2.2.2.2.1 d.2.2.2.2.2.2.2.1 d.2.2.2.2.2.2.2.2.1) fun d => .tup [i64 (gN d.2.2.2.2.1 d.2.2.2.2.2.1 d.2.2.2.2.2.2.1 d.2.2.2.2.2.2.2.1 d.2.2.2.2.2.2.2.2.1), .bool (gB d.2.2.2.2.1 d.2.2.2.2.2.1 d.2.2.2.2.2.2.1 d.2.2.2.2.2.2.2.1 d.2.2.2.2.2.2.2.2.1)]
theorem first_ok : ConOk Try.prog E 79 cFirst := conFP_ok good decOk fun d hd => by
  obtain ⟨lo, hi, L, R, A, G, Y, V, q, ⟨⟩⟩ := d
  obtain ⟨⟨k1, k2⟩, k3⟩ := hd
  obtain rfl : lo = 0 := k1
  obtain rfl : hi = 20000 := k2
  exact fact_run3 ctH_ok ll79 (ts := [2, 4]) rfl (s79 L R A G Y V q k3)
noncomputable def ctI : CTab T := (79, cFirst) :: ctH
theorem ctI_ok : CTabOk Try.prog E ctI := .cons first_ok ctH_ok
theorem tv40 (L R A G Y V q : Int) : runX ctI noLoops 40 [.agg [i64 L, i64 R, i64 A, i64 G], .agg [i64 Y, i64 V], i64 q] [2, 4] =
  (.req ((-9223372036854775808 : Int) ≤ L ∧ L ≤ (9223372036854775807 : Int))
  (.br (!decide (vf L R A G Y V q))
   (.leaf (.tup [.sym .i64 ((0 : Int)), .bool (false)]))
   (.req (((0 : Int) = (0 : Int) ∧ (20000 : Int) = (20000 : Int)) ∧ vf L R A G Y V q)
   (.leaf (.tup [.sym .i64 (gN A G Y V q), .bool (gB A G Y V q)]))))) := by kernel_rfl
end Go.Proofs.Ytnhedcaphncliaa.W
