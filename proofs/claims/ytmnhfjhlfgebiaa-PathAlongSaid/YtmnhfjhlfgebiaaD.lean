/- Directions. No condition. -/
import Derived.Test.YtmnhfjhlfgebiaaC
import Derived.Test.YtmnhfjhlfgebiaaR
import Derived.Test.YtmnhfjhlfgebiaaW
set_option linter.unusedVariables false
set_option maxRecDepth 100000
noncomputable section
namespace Go.Proofs.Ytmnhfjhlfgebiaa.W
open Go Go.Cx Go.RowKit
noncomputable def ctM : CTab T := [(81, cMod), (35, cMod)]
theorem ctM_ok : CTabOk Try.prog E ctM := .cons mod_ok (.cons mod64_ok .nil)
theorem tv79 (n : Int) : runX ctM noLoops 79 [.sym .i64 n] [23] =
  (.req (mPre n (13 : Int))
  (.req ((decide ((0 : Int) ≤ n % (13 : Int)) && decide (n % (13 : Int) < (13 : Int))) = true)
  (.br (decide (n % (13 : Int) = (0 : Int)))
   (.req (mPre n (52 : Int))
   (.br (IntKind.wrap IntKind.i64 (Int.tdiv (n % (52 : Int)) (13 : Int)) == (1 : Int))
    (.leaf (.agg [.sym .i64 ((0 : Int)), .sym .i64 ((0 : Int)), .sym .i64 ((1 : Int))]))
    (.br (IntKind.wrap IntKind.i64 (Int.tdiv (n % (52 : Int)) (13 : Int)) == (2 : Int))
     (.leaf (.agg [.sym .i64 ((0 : Int)), .sym .i64 ((0 : Int)), .sym .i64 ((1 : Int))]))
     (.br (IntKind.wrap IntKind.i64 (Int.tdiv (n % (52 : Int)) (13 : Int)) == (3 : Int))
      (.leaf (.agg [.sym .i64 ((0 : Int)), .sym .i64 ((0 : Int)), .sym .i64 ((1 : Int))]))
      (.leaf (.agg [.sym .i64 ((0 : Int)), .sym .i64 ((0 : Int)), .sym .i64 ((1 : Int))]))))))
   (.br (decide (n % (13 : Int) = (1 : Int)))
    (.req (mPre n (52 : Int))
    (.br (IntKind.wrap IntKind.i64 (Int.tdiv (n % (52 : Int)) (13 : Int)) == (1 : Int))
     (.leaf (.agg [.sym .i64 ((0 : Int)), .sym .i64 ((3 : Int)), .sym .i64 ((4 : Int))]))
     (.br (IntKind.wrap IntKind.i64 (Int.tdiv (n % (52 : Int)) (13 : Int)) == (2 : Int))
      (.leaf (.agg [.sym .i64 ((0 : Int)), .sym .i64 ((-3 : Int)), .sym .i64 ((4 : Int))]))
      (.br (IntKind.wrap IntKind.i64 (Int.tdiv (n % (52 : Int)) (13 : Int)) == (3 : Int))
       (.leaf (.agg [.sym .i64 ((3 : Int)), .sym .i64 ((0 : Int)), .sym .i64 ((4 : Int))]))
       (.leaf (.agg [.sym .i64 ((0 : Int)), .sym .i64 ((3 : Int)), .sym .i64 ((4 : Int))]))))))
    (.br (decide (n % (13 : Int) = (2 : Int)))
     (.req (mPre n (52 : Int))
     (.br (IntKind.wrap IntKind.i64 (Int.tdiv (n % (52 : Int)) (13 : Int)) == (1 : Int))
      (.leaf (.agg [.sym .i64 ((-3 : Int)), .sym .i64 ((0 : Int)), .sym .i64 ((4 : Int))]))
      (.br (IntKind.wrap IntKind.i64 (Int.tdiv (n % (52 : Int)) (13 : Int)) == (2 : Int))
       (.leaf (.agg [.sym .i64 ((3 : Int)), .sym .i64 ((0 : Int)), .sym .i64 ((4 : Int))]))
       (.br (IntKind.wrap IntKind.i64 (Int.tdiv (n % (52 : Int)) (13 : Int)) == (3 : Int))
        (.leaf (.agg [.sym .i64 ((0 : Int)), .sym .i64 ((3 : Int)), .sym .i64 ((4 : Int))]))
        (.leaf (.agg [.sym .i64 ((3 : Int)), .sym .i64 ((0 : Int)), .sym .i64 ((4 : Int))]))))))
     (.br (decide (n % (13 : Int) = (3 : Int)))
      (.req (mPre n (52 : Int))
      (.br (IntKind.wrap IntKind.i64 (Int.tdiv (n % (52 : Int)) (13 : Int)) == (1 : Int))
       (.leaf (.agg [.sym .i64 ((-1 : Int)), .sym .i64 ((2 : Int)), .sym .i64 ((2 : Int))]))
       (.br (IntKind.wrap IntKind.i64 (Int.tdiv (n % (52 : Int)) (13 : Int)) == (2 : Int))
        (.leaf (.agg [.sym .i64 ((1 : Int)), .sym .i64 ((-2 : Int)), .sym .i64 ((2 : Int))]))
        (.br (IntKind.wrap IntKind.i64 (Int.tdiv (n % (52 : Int)) (13 : Int)) == (3 : Int))
         (.leaf (.agg [.sym .i64 ((2 : Int)), .sym .i64 ((1 : Int)), .sym .i64 ((2 : Int))]))
         (.leaf (.agg [.sym .i64 ((1 : Int)), .sym .i64 ((2 : Int)), .sym .i64 ((2 : Int))]))))))
      (.br (decide (n % (13 : Int) = (4 : Int)))
       (.req (mPre n (52 : Int))
       (.br (IntKind.wrap IntKind.i64 (Int.tdiv (n % (52 : Int)) (13 : Int)) == (1 : Int))
        (.leaf (.agg [.sym .i64 ((-2 : Int)), .sym .i64 ((3 : Int)), .sym .i64 ((6 : Int))]))
        (.br (IntKind.wrap IntKind.i64 (Int.tdiv (n % (52 : Int)) (13 : Int)) == (2 : Int))
         (.leaf (.agg [.sym .i64 ((2 : Int)), .sym .i64 ((-3 : Int)), .sym .i64 ((6 : Int))]))
         (.br (IntKind.wrap IntKind.i64 (Int.tdiv (n % (52 : Int)) (13 : Int)) == (3 : Int))
          (.leaf (.agg [.sym .i64 ((3 : Int)), .sym .i64 ((2 : Int)), .sym .i64 ((6 : Int))]))
          (.leaf (.agg [.sym .i64 ((2 : Int)), .sym .i64 ((3 : Int)), .sym .i64 ((6 : Int))]))))))
       (.br (decide (n % (13 : Int) = (5 : Int)))
        (.req (mPre n (52 : Int))
        (.br (IntKind.wrap IntKind.i64 (Int.tdiv (n % (52 : Int)) (13 : Int)) == (1 : Int))
         (.leaf (.agg [.sym .i64 ((-1 : Int)), .sym .i64 ((4 : Int)), .sym .i64 ((8 : Int))]))
         (.br (IntKind.wrap IntKind.i64 (Int.tdiv (n % (52 : Int)) (13 : Int)) == (2 : Int))
          (.leaf (.agg [.sym .i64 ((1 : Int)), .sym .i64 ((-4 : Int)), .sym .i64 ((8 : Int))]))
          (.br (IntKind.wrap IntKind.i64 (Int.tdiv (n % (52 : Int)) (13 : Int)) == (3 : Int))
           (.leaf (.agg [.sym .i64 ((4 : Int)), .sym .i64 ((1 : Int)), .sym .i64 ((8 : Int))]))
           (.leaf (.agg [.sym .i64 ((1 : Int)), .sym .i64 ((4 : Int)), .sym .i64 ((8 : Int))]))))))
        (.br (decide (n % (13 : Int) = (6 : Int)))
         (.req (mPre n (52 : Int))
         (.br (IntKind.wrap IntKind.i64 (Int.tdiv (n % (52 : Int)) (13 : Int)) == (1 : Int))
          (.leaf (.agg [.sym .i64 ((-4 : Int)), .sym .i64 ((4 : Int)), .sym .i64 ((7 : Int))]))
          (.br (IntKind.wrap IntKind.i64 (Int.tdiv (n % (52 : Int)) (13 : Int)) == (2 : Int))
           (.leaf (.agg [.sym .i64 ((4 : Int)), .sym .i64 ((-4 : Int)), .sym .i64 ((7 : Int))]))
           (.br (IntKind.wrap IntKind.i64 (Int.tdiv (n % (52 : Int)) (13 : Int)) == (3 : Int))
            (.leaf (.agg [.sym .i64 ((4 : Int)), .sym .i64 ((4 : Int)), .sym .i64 ((7 : Int))]))
            (.leaf (.agg [.sym .i64 ((4 : Int)), .sym .i64 ((4 : Int)), .sym .i64 ((7 : Int))]))))))
         (.br (decide (n % (13 : Int) = (7 : Int)))
          (.req (mPre n (52 : Int))
          (.br (IntKind.wrap IntKind.i64 (Int.tdiv (n % (52 : Int)) (13 : Int)) == (1 : Int))
           (.leaf (.agg [.sym .i64 ((-2 : Int)), .sym .i64 ((6 : Int)), .sym .i64 ((9 : Int))]))
           (.br (IntKind.wrap IntKind.i64 (Int.tdiv (n % (52 : Int)) (13 : Int)) == (2 : Int))
            (.leaf (.agg [.sym .i64 ((2 : Int)), .sym .i64 ((-6 : Int)), .sym .i64 ((9 : Int))]))
            (.br (IntKind.wrap IntKind.i64 (Int.tdiv (n % (52 : Int)) (13 : Int)) == (3 : Int))
             (.leaf (.agg [.sym .i64 ((6 : Int)), .sym .i64 ((2 : Int)), .sym .i64 ((9 : Int))]))
             (.leaf (.agg [.sym .i64 ((2 : Int)), .sym .i64 ((6 : Int)), .sym .i64 ((9 : Int))]))))))
          (.br (decide (n % (13 : Int) = (8 : Int)))
           (.req (mPre n (52 : Int))
           (.br (IntKind.wrap IntKind.i64 (Int.tdiv (n % (52 : Int)) (13 : Int)) == (1 : Int))
            (.leaf (.agg [.sym .i64 ((0 : Int)), .sym .i64 ((5 : Int)), .sym .i64 ((12 : Int))]))
            (.br (IntKind.wrap IntKind.i64 (Int.tdiv (n % (52 : Int)) (13 : Int)) == (2 : Int))
             (.leaf (.agg [.sym .i64 ((0 : Int)), .sym .i64 ((-5 : Int)), .sym .i64 ((12 : Int))]))
             (.br (IntKind.wrap IntKind.i64 (Int.tdiv (n % (52 : Int)) (13 : Int)) == (3 : Int))
              (.leaf (.agg [.sym .i64 ((5 : Int)), .sym .i64 ((0 : Int)), .sym .i64 ((12 : Int))]))
              (.leaf (.agg [.sym .i64 ((0 : Int)), .sym .i64 ((5 : Int)), .sym .i64 ((12 : Int))]))))))
           (.br (decide (n % (13 : Int) = (9 : Int)))
            (.req (mPre n (52 : Int))
            (.br (IntKind.wrap IntKind.i64 (Int.tdiv (n % (52 : Int)) (13 : Int)) == (1 : Int))
             (.leaf (.agg [.sym .i64 ((0 : Int)), .sym .i64 ((7 : Int)), .sym .i64 ((24 : Int))]))
             (.br (IntKind.wrap IntKind.i64 (Int.tdiv (n % (52 : Int)) (13 : Int)) == (2 : Int))
              (.leaf (.agg [.sym .i64 ((0 : Int)), .sym .i64 ((-7 : Int)), .sym .i64 ((24 : Int))]))
              (.br (IntKind.wrap IntKind.i64 (Int.tdiv (n % (52 : Int)) (13 : Int)) == (3 : Int))
               (.leaf (.agg [.sym .i64 ((7 : Int)), .sym .i64 ((0 : Int)), .sym .i64 ((24 : Int))]))
               (.leaf (.agg [.sym .i64 ((0 : Int)), .sym .i64 ((7 : Int)), .sym .i64 ((24 : Int))]))))))
            (.br (decide (n % (13 : Int) = (10 : Int)))
             (.req (mPre n (52 : Int))
             (.br (IntKind.wrap IntKind.i64 (Int.tdiv (n % (52 : Int)) (13 : Int)) == (1 : Int))
              (.leaf (.agg [.sym .i64 ((-6 : Int)), .sym .i64 ((6 : Int)), .sym .i64 ((7 : Int))]))
              (.br (IntKind.wrap IntKind.i64 (Int.tdiv (n % (52 : Int)) (13 : Int)) == (2 : Int))
               (.leaf (.agg [.sym .i64 ((6 : Int)), .sym .i64 ((-6 : Int)), .sym .i64 ((7 : Int))]))
               (.br (IntKind.wrap IntKind.i64 (Int.tdiv (n % (52 : Int)) (13 : Int)) == (3 : Int))
                (.leaf (.agg [.sym .i64 ((6 : Int)), .sym .i64 ((6 : Int)), .sym .i64 ((7 : Int))]))
                (.leaf (.agg [.sym .i64 ((6 : Int)), .sym .i64 ((6 : Int)), .sym .i64 ((7 : Int))]))))))
             (.br (decide (n % (13 : Int) = (11 : Int)))
              (.req (mPre n (52 : Int))
              (.br (IntKind.wrap IntKind.i64 (Int.tdiv (n % (52 : Int)) (13 : Int)) == (1 : Int))
               (.leaf (.agg [.sym .i64 ((-1 : Int)), .sym .i64 ((0 : Int)), .sym .i64 ((0 : Int))]))
               (.br (IntKind.wrap IntKind.i64 (Int.tdiv (n % (52 : Int)) (13 : Int)) == (2 : Int))
                (.leaf (.agg [.sym .i64 ((1 : Int)), .sym .i64 ((0 : Int)), .sym .i64 ((0 : Int))]))
                (.br (IntKind.wrap IntKind.i64 (Int.tdiv (n % (52 : Int)) (13 : Int)) == (3 : Int))
                 (.leaf (.agg [.sym .i64 ((0 : Int)), .sym .i64 ((1 : Int)), .sym .i64 ((0 : Int))]))
                 (.leaf (.agg [.sym .i64 ((1 : Int)), .sym .i64 ((0 : Int)), .sym .i64 ((0 : Int))]))))))
              (.req (mPre n (52 : Int))
              (.br (IntKind.wrap IntKind.i64 (Int.tdiv (n % (52 : Int)) (13 : Int)) == (1 : Int))
               (.leaf (.agg [.sym .i64 ((0 : Int)), .sym .i64 ((4 : Int)), .sym .i64 ((-3 : Int))]))
               (.br (IntKind.wrap IntKind.i64 (Int.tdiv (n % (52 : Int)) (13 : Int)) == (2 : Int))
                (.leaf (.agg [.sym .i64 ((0 : Int)), .sym .i64 ((-4 : Int)), .sym .i64 ((-3 : Int))]))
                (.br (IntKind.wrap IntKind.i64 (Int.tdiv (n % (52 : Int)) (13 : Int)) == (3 : Int))
                 (.leaf (.agg [.sym .i64 ((4 : Int)), .sym .i64 ((0 : Int)), .sym .i64 ((-3 : Int))]))
                 (.leaf (.agg [.sym .i64 ((0 : Int)), .sym .i64 ((4 : Int)), .sym .i64 ((-3 : Int))])))))))))))))))))))) := by kernel_rfl
def naT {α : Type _} : Tree α → Bool
  | .leaf _ => true
  | .br _ t f => naT t && naT f
  | .req _ t => naT t
  | .fail => true
  | .amb _ _ => false
theorem hold_one {α : Type _} {P : α → Prop} : ∀ t : Tree α, naT t = true → t.holds P → ∃ v, P v ∧ t.holds fun y => y = v
  | .leaf v, _, h => ⟨v, h, rfl⟩
  | .br true t f, n, h => by
    obtain ⟨n1, n2⟩ := Bool.and_eq_true_iff.1 n
    obtain ⟨v, h1, h2⟩ := hold_one t n1 (h.1 rfl)
    exact ⟨v, h1, fun _ => h2, fun k => absurd k (by decide)⟩
  | .br false t f, n, h => by
    obtain ⟨n1, n2⟩ := Bool.and_eq_true_iff.1 n
    obtain ⟨v, h1, h2⟩ := hold_one f n2 (h.2 rfl)
    exact ⟨v, h1, fun k => absurd k (by decide), fun _ => h2⟩
  | .req p t, n, h => by
    obtain ⟨v, h1, h2⟩ := hold_one t n h.2
    exact ⟨v, h1, h.1, h2⟩
  | .fail, _, h => h.elim
@[reducible] def gdir (x y z : Int) : Prop := inP 24 x y z ∧ [(1 : Int), 3, 5, 7, 9, 11, 13, 25].any (fun l => l * l == q3 x y z) = true
theorem d79 (n : Int) : (runX ctM noLoops 79 [.sym .i64 n] [23]).holds fun v => ∃ x y z, gdir x y z ∧ v = .agg [i64 x, i64 y, i64 z] := by
  rw [tv79]
  have hm : ∀ m : Int, 0 < m → m ≤ 4611686018427387904 → mPre n m := fun m h1 h2 => ⟨h1, h2⟩
  refine ⟨hm 13 (by decide) (by decide), by simp; omega, ?_⟩
  repeat' first
    | exact ⟨_, _, _, by decide, rfl⟩
    | refine way (fun _ => ?_) fun _ => ?_
    | refine wayEq (fun _ => ?_) fun _ => ?_
    | refine ⟨hm 52 (by decide) (by decide), ?_⟩
theorem dir_ex (n : Int) : ∃ p : Int × Int × Int, gdir p.1 p.2.1 p.2.2 ∧ (runX ctM noLoops 79 [.sym .i64 n] [23]).holds fun v => v = .agg [i64 p.1, i64 p.2.1, i64 p.2.2] := by
  obtain ⟨v, ⟨x, y, z, h1, h2⟩, h3⟩ := hold_one _ (by rw [tv79]; rfl) (d79 n)
  exact ⟨(x, y, z), h1, h2 ▸ h3⟩
noncomputable def dX (n : Int) : Int := (Classical.choose (dir_ex n)).1
noncomputable def dY (n : Int) : Int := (Classical.choose (dir_ex n)).2.1
noncomputable def dZ (n : Int) : Int := (Classical.choose (dir_ex n)).2.2
theorem dir_spec (n : Int) : gdir (dX n) (dY n) (dZ n) := (Classical.choose_spec (dir_ex n)).1
noncomputable def cDir : Con T := conV Try.prog [.one (.i .i64)] [.n] fun d => .agg [i64 (dX d.1), i64 (dY d.1), i64 (dZ d.1)]
theorem cdir_ok : ConOk Try.prog E 79 cDir := conV_ok fun d => fact_run ctM_ok noLoops_ok (ts := [23]) rfl (Classical.choose_spec (dir_ex d.1)).2
/-! ### what a turn says -/
theorem lgP_of {x y z L : Int} (h : inP 131072 x y z) (hL : 1 ≤ L ∧ L ≤ 131072) (e : L * L = q3 x y z) : lgP x y z ∧ ln x y z = L := by
  have ex : (L + 1) * (L + 1) = L * L + 2 * L + 1 := by grind
  have h1 : rt (q3 x y z) = L := rt_uni (by omega) (by omega) (by omega)
  have h2 := sq_bd (x := L) (m := 131072) (by omega)
  exact ⟨⟨h, ⟨by omega, by rw [h1]; exact e⟩, by rw [h1]; exact hL⟩, h1⟩
theorem g_lg {x y z : Int} (h : gdir x y z) : ∃ L : Int, (1 ≤ L ∧ L ≤ 25) ∧ L * L = q3 x y z := by
  obtain ⟨L, h1, h2⟩ := List.any_eq_true.1 h.2
  refine ⟨L, ?_, by simpa using h2⟩
  simp only [List.mem_cons, List.not_mem_nil, or_false] at h1
  omega
theorem k_bd {x k : Int} (h : -24 ≤ x ∧ x ≤ 24) (hk : 1 ≤ k ∧ k ≤ 5000) : -131072 ≤ x * k ∧ x * k ≤ 131072 := by
  have h1 := Int.mul_le_mul_of_nonneg_right h.2 (c := k) (by omega)
  have h2 := Int.mul_le_mul_of_nonneg_right h.1 (c := k) (by omega)
  omega
theorem g_k {x y z k : Int} (h : gdir x y z) (hk : 1 ≤ k ∧ k ≤ 5000) : lgP (x * k) (y * k) (z * k) ∧ ln (x * k) (y * k) (z * k) = k * ln x y z := by
  obtain ⟨L, h1, h2⟩ := g_lg h
  have h3 := lgP_of (x := x) (y := y) (z := z) (L := L) (by have := h.1; unfold inP at this ⊢; omega) (by omega) h2
  rw [h3.2]
  have h4 := mulb (a := k) (b := L) (m := 5000) (k := 25) (by omega) hk.2 (by omega) h1.2
  have h5 := Int.mul_pos (a := k) (b := L) (by omega) (by omega)
  refine lgP_of ⟨k_bd h.1.1 hk, k_bd h.1.2.1 hk, k_bd h.1.2.2 hk⟩ (by omega) ?_
  have gen : ∀ k L : Int, (k * L) * (k * L) = (L * L) * (k * k) := by intro k L; grind
  rw [gen, h2]
  unfold q3; grind
theorem g_1 {x y z : Int} (h : gdir x y z) : lgP x y z := by
  have := (g_k (k := 1) h (by omega)).1
  rw [Int.mul_one, Int.mul_one, Int.mul_one] at this
  exact this
theorem lo_scale {c n m : Int} (hc : 0 < c) (hm : 0 < m) : loN (c * n) (c * m) = loN n m ∧ loD (c * n) (c * m) = loD n m := by
  have e : gc (c * n) (c * m) = c * gc n m := by
    unfold gc
    rw [Int.gcd_mul_left, Int.natCast_mul]
    congr 1
    omega
  unfold loN loD
  rw [e, Int.mul_ediv_mul_of_pos _ _ hc, Int.mul_ediv_mul_of_pos _ _ hc]
  exact ⟨rfl, rfl⟩
theorem turn_facts {a b c x y z : Int} (h : lgP a b c) (k : lgP x y z) : (1 ≤ tD a b c x y z ∧ tD a b c x y z ≤ 17179869184) ∧ (0 ≤ tN a b c x y z ∧ tN a b c x y z ≤ 2 * tD a b c x y z) ∧ (tN a b c x y z = 0 ↔ dot a b c x y z = ln a b c * ln x y z) ∧ (tN a b c x y z = tD a b c x y z ↔ dot a b c x y z = 0) := by
  obtain ⟨h1, h2⟩ := ln_bd h k
  unfold tN tD loN loD
  generalize ln a b c * ln x y z = m at *
  generalize dot a b c x y z = d at *
  have g := gc_pos (n := m - d) (m := m) (by omega)
  have e1 : gc (m - d) m * ((m - d) / gc (m - d) m) = m - d := Int.mul_ediv_cancel' (Int.gcd_dvd_left ..)
  have e2 : gc (m - d) m * (m / gc (m - d) m) = m := Int.mul_ediv_cancel' (Int.gcd_dvd_right ..)
  have b1 : m / gc (m - d) m ≤ m := Int.ediv_le_self _ (by omega)
  generalize gc (m - d) m = q at *
  generalize (m - d) / q = n1 at *
  generalize m / q = d1 at *
  refine ⟨⟨?_, by omega⟩, ⟨?_, ?_⟩, ⟨fun p => ?_, fun p => ?_⟩, ⟨fun p => ?_, fun p => ?_⟩⟩
  · by_cases p : 1 ≤ d1
    · exact p
    · have := Int.mul_le_mul_of_nonneg_left (a := d1) (b := 0) (c := q) (by omega) (by omega)
      omega
  · by_cases p : 0 ≤ n1
    · exact p
    · have := Int.mul_le_mul_of_nonneg_left (a := n1) (b := -1) (c := q) (by omega) (by omega)
      omega
  · refine Int.le_of_mul_le_mul_left (a := q) ?_ g
    have : q * (2 * d1) = 2 * (q * d1) := by grind
    omega
  · subst p; omega
  · have : q * n1 = 0 := by omega
    rcases Int.mul_eq_zero.1 this with t | t <;> omega
  · subst p; omega
  · have : q * n1 = q * d1 := by omega
    exact Int.eq_of_mul_eq_mul_left (by omega) this
theorem sq0 {x : Int} (h : x * x = 0) : x = 0 := by
  rcases Int.mul_eq_zero.1 h with t | t <;> exact t
theorem same_iff {a b c x y z : Int} (h : lgP a b c) (k : lgP x y z) : dot a b c x y z = ln a b c * ln x y z ↔ ((b * z = c * y ∧ c * x = a * z ∧ a * y = b * x) ∧ dot a b c x y z > 0) := by
  obtain ⟨h1, h2⟩ := ln_bd h k
  have hl := lagr a b c x y z
  have p1 : ln a b c * ln a b c = q3 a b c := h.2.1.2
  have p2 : ln x y z * ln x y z = q3 x y z := k.2.1.2
  have gen : ∀ l m : Int, (l * l) * (m * m) = (l * m) * (l * m) := by intro l m; grind
  have e1 := gen (ln a b c) (ln x y z)
  rw [p1, p2] at e1
  have s1 := sqnn (b * z - c * y)
  have s2 := sqnn (c * x - a * z)
  have s3 := sqnn (a * y - b * x)
  constructor
  · intro e
    rw [e] at hl
    have z1 : (b * z - c * y) * (b * z - c * y) = 0 := by omega
    have z2 : (c * x - a * z) * (c * x - a * z) = 0 := by omega
    have z3 : (a * y - b * x) * (a * y - b * x) = 0 := by omega
    have y1 := sq0 z1
    have y2 := sq0 z2
    have y3 := sq0 z3
    omega
  · intro ⟨⟨c1, c2, c3⟩, c4⟩
    have z1 : b * z - c * y = 0 := by omega
    have z2 : c * x - a * z = 0 := by omega
    have z3 : a * y - b * x = 0 := by omega
    rw [z1, z2, z3] at hl
    have h5 : dot a b c x y z * dot a b c x y z = (ln a b c * ln x y z) * (ln a b c * ln x y z) := by omega
    have l1 := le_of_sq (r := dot a b c x y z) (m := ln a b c * ln x y z) (by omega) (by omega)
    have l2 := le_of_sq (r := ln a b c * ln x y z) (m := dot a b c x y z) (by omega) (by omega)
    omega
theorem turn_scale {a b c x y z k l : Int} (h : gdir a b c) (g : gdir x y z) (hk : 1 ≤ k ∧ k ≤ 5000) (hl : 1 ≤ l ∧ l ≤ 5000) :
    tN (x * k) (y * k) (z * k) (a * l) (b * l) (c * l) = tN a b c x y z ∧ tD (x * k) (y * k) (z * k) (a * l) (b * l) (c * l) = tD a b c x y z := by
  unfold tN tD
  rw [(g_k g hk).2, (g_k h hl).2]
  have e1 : dot (x * k) (y * k) (z * k) (a * l) (b * l) (c * l) = (k * l) * dot a b c x y z := by unfold dot; grind
  have e2 : (k * ln x y z) * (l * ln a b c) = (k * l) * (ln a b c * ln x y z) := by
    have gen : ∀ p q : Int, (k * p) * (l * q) = (k * l) * (q * p) := by intro p q; grind
    exact gen _ _
  rw [e1, e2, ← Int.mul_sub]
  exact lo_scale (Int.mul_pos (by omega) (by omega)) (by have := (ln_bd (g_1 h) (g_1 g)).1; omega)
noncomputable def ctL : CTab T := [(79, cDir), (35, cMod), (40, cTurn), (20, cAwake)]
theorem ctL_ok : CTabOk Try.prog E ctL := .cons cdir_ok (.cons mod64_ok (.cons turn_ok (.cons awake_ok .nil)))
theorem tv13 (a b k l : Int) : runX ctL noLoops 13 [.sym .i64 a, .sym .i64 b, .sym .i64 k, .sym .i64 l] [4] =
  (.req (mPre k (5000 : Int))
  (.req (mPre l (5000 : Int))
  (.br (tuE (dX a) (dY a) (dZ a) (dX b) (dY b) (dZ b) != (0 : Int))
   (.leaf (.bool (false)))
   (.br (tuE (IntKind.wrap IntKind.i64 (dX b * IntKind.wrap IntKind.i64 ((1 : Int) + k % (5000 : Int)))) (IntKind.wrap IntKind.i64 (dY b * IntKind.wrap IntKind.i64 ((1 : Int) + k % (5000 : Int)))) (IntKind.wrap IntKind.i64 (dZ b * IntKind.wrap IntKind.i64 ((1 : Int) + k % (5000 : Int)))) (IntKind.wrap IntKind.i64 (dX a * IntKind.wrap IntKind.i64 ((1 : Int) + l % (5000 : Int)))) (IntKind.wrap IntKind.i64 (dY a * IntKind.wrap IntKind.i64 ((1 : Int) + l % (5000 : Int)))) (IntKind.wrap IntKind.i64 (dZ a * IntKind.wrap IntKind.i64 ((1 : Int) + l % (5000 : Int)))) != (0 : Int))
    (.leaf (.bool (false)))
    (.br (!(tuN (dX a) (dY a) (dZ a) (dX b) (dY b) (dZ b) == tuN (IntKind.wrap IntKind.i64 (dX b * IntKind.wrap IntKind.i64 ((1 : Int) + k % (5000 : Int)))) (IntKind.wrap IntKind.i64 (dY b * IntKind.wrap IntKind.i64 ((1 : Int) + k % (5000 : Int)))) (IntKind.wrap IntKind.i64 (dZ b * IntKind.wrap IntKind.i64 ((1 : Int) + k % (5000 : Int)))) (IntKind.wrap IntKind.i64 (dX a * IntKind.wrap IntKind.i64 ((1 : Int) + l % (5000 : Int)))) (IntKind.wrap IntKind.i64 (dY a * IntKind.wrap IntKind.i64 ((1 : Int) + l % (5000 : Int)))) (IntKind.wrap IntKind.i64 (dZ a * IntKind.wrap IntKind.i64 ((1 : Int) + l % (5000 : Int)))) && (tuD (dX a) (dY a) (dZ a) (dX b) (dY b) (dZ b) == tuD (IntKind.wrap IntKind.i64 (dX b * IntKind.wrap IntKind.i64 ((1 : Int) + k % (5000 : Int)))) (IntKind.wrap IntKind.i64 (dY b * IntKind.wrap IntKind.i64 ((1 : Int) + k % (5000 : Int)))) (IntKind.wrap IntKind.i64 (dZ b * IntKind.wrap IntKind.i64 ((1 : Int) + k % (5000 : Int)))) (IntKind.wrap IntKind.i64 (dX a * IntKind.wrap IntKind.i64 ((1 : Int) + l % (5000 : Int)))) (IntKind.wrap IntKind.i64 (dY a * IntKind.wrap IntKind.i64 ((1 : Int) + l % (5000 : Int)))) (IntKind.wrap IntKind.i64 (dZ a * IntKind.wrap IntKind.i64 ((1 : Int) + l % (5000 : Int)))) && true)))
     (.leaf (.bool (false)))
     (.br (decide (tuD (dX a) (dY a) (dZ a) (dX b) (dY b) (dZ b) < (1 : Int)))
      (.leaf (.bool (false)))
      (.br (decide (tuN (dX a) (dY a) (dZ a) (dX b) (dY b) (dZ b) < (0 : Int)))
       (.leaf (.bool (false)))
       (.br (decide (tuN (dX a) (dY a) (dZ a) (dX b) (dY b) (dZ b) > IntKind.wrap IntKind.i64 ((2 : Int) * tuD (dX a) (dY a) (dZ a) (dX b) (dY b) (dZ b))))
        (.leaf (.bool (false)))
        (.br (IntKind.wrap IntKind.i64 (dY a * dZ b) == IntKind.wrap IntKind.i64 (dZ a * dY b))
         (.br (IntKind.wrap IntKind.i64 (dZ a * dX b) == IntKind.wrap IntKind.i64 (dX a * dZ b))
          (.br (IntKind.wrap IntKind.i64 (dX a * dY b) == IntKind.wrap IntKind.i64 (dY a * dX b))
           (.br ((tuN (dX a) (dY a) (dZ a) (dX b) (dY b) (dZ b) == (0 : Int)) == decide (IntKind.wrap IntKind.i64 (IntKind.wrap IntKind.i64 (IntKind.wrap IntKind.i64 (dX a * dX b) + IntKind.wrap IntKind.i64 (dY a * dY b)) + IntKind.wrap IntKind.i64 (dZ a * dZ b)) > (0 : Int)))
            (.br ((tuN (dX a) (dY a) (dZ a) (dX b) (dY b) (dZ b) == tuD (dX a) (dY a) (dZ a) (dX b) (dY b) (dZ b)) == (IntKind.wrap IntKind.i64 (IntKind.wrap IntKind.i64 (IntKind.wrap IntKind.i64 (dX a * dX b) + IntKind.wrap IntKind.i64 (dY a * dY b)) + IntKind.wrap IntKind.i64 (dZ a * dZ b)) == (0 : Int)))
             (.leaf (.bool (true)))
             (.leaf (.bool (false))))
            (.leaf (.bool (false))))
           (.br ((tuN (dX a) (dY a) (dZ a) (dX b) (dY b) (dZ b) == (0 : Int)) == false)
            (.br ((tuN (dX a) (dY a) (dZ a) (dX b) (dY b) (dZ b) == tuD (dX a) (dY a) (dZ a) (dX b) (dY b) (dZ b)) == (IntKind.wrap IntKind.i64 (IntKind.wrap IntKind.i64 (IntKind.wrap IntKind.i64 (dX a * dX b) + IntKind.wrap IntKind.i64 (dY a * dY b)) + IntKind.wrap IntKind.i64 (dZ a * dZ b)) == (0 : Int)))
             (.leaf (.bool (true)))
             (.leaf (.bool (false))))
            (.leaf (.bool (false)))))
          (.br ((tuN (dX a) (dY a) (dZ a) (dX b) (dY b) (dZ b) == (0 : Int)) == false)
           (.br ((tuN (dX a) (dY a) (dZ a) (dX b) (dY b) (dZ b) == tuD (dX a) (dY a) (dZ a) (dX b) (dY b) (dZ b)) == (IntKind.wrap IntKind.i64 (IntKind.wrap IntKind.i64 (IntKind.wrap IntKind.i64 (dX a * dX b) + IntKind.wrap IntKind.i64 (dY a * dY b)) + IntKind.wrap IntKind.i64 (dZ a * dZ b)) == (0 : Int)))
            (.leaf (.bool (true)))
            (.leaf (.bool (false))))
           (.leaf (.bool (false)))))
         (.br ((tuN (dX a) (dY a) (dZ a) (dX b) (dY b) (dZ b) == (0 : Int)) == false)
          (.br ((tuN (dX a) (dY a) (dZ a) (dX b) (dY b) (dZ b) == tuD (dX a) (dY a) (dZ a) (dX b) (dY b) (dZ b)) == (IntKind.wrap IntKind.i64 (IntKind.wrap IntKind.i64 (IntKind.wrap IntKind.i64 (dX a * dX b) + IntKind.wrap IntKind.i64 (dY a * dY b)) + IntKind.wrap IntKind.i64 (dZ a * dZ b)) == (0 : Int)))
           (.leaf (.bool (true)))
           (.leaf (.bool (false))))
          (.leaf (.bool (false))))))))))))) := by kernel_rfl
set_option maxHeartbeats 4000000 in
theorem s13 (a b k l : Int) : (runX ctL noLoops 13 [.sym .i64 a, .sym .i64 b, .sym .i64 k, .sym .i64 l] [4]).holds fun v => v = .bool true := by
  rw [tv13]
  have hk : 1 ≤ 1 + k % 5000 ∧ 1 + k % 5000 ≤ 5000 := by omega
  have hl : 1 ≤ 1 + l % 5000 ∧ 1 + l % 5000 ≤ 5000 := by omega
  rw [i64_in' (n := 1 + k % 5000) (by omega) (by omega), i64_in' (n := 1 + l % 5000) (by omega) (by omega)]
  have g := dir_spec a
  have f := dir_spec b
  generalize 1 + k % 5000 = K at *
  generalize 1 + l % 5000 = L at *
  generalize dX a = x1 at *
  generalize dY a = y1 at *
  generalize dZ a = z1 at *
  generalize dX b = x2 at *
  generalize dY b = y2 at *
  generalize dZ b = z2 at *
  have w1 := k_bd f.1.1 hk
  have w2 := k_bd f.1.2.1 hk
  have w3 := k_bd f.1.2.2 hk
  have v1 := k_bd g.1.1 hl
  have v2 := k_bd g.1.2.1 hl
  have v3 := k_bd g.1.2.2 hl
  rw [i64_in' (n := x2 * K) (by omega) (by omega), i64_in' (n := y2 * K) (by omega) (by omega), i64_in' (n := z2 * K) (by omega) (by omega), i64_in' (n := x1 * L) (by omega) (by omega), i64_in' (n := y1 * L) (by omega) (by omega), i64_in' (n := z1 * L) (by omega) (by omega)]
  have q1 : lgP x1 y1 z1 := g_1 g
  have q2 : lgP x2 y2 z2 := g_1 f
  have q3 := (g_k f hk).1
  have q4 := (g_k g hl).1
  obtain ⟨t1, t2⟩ := turn_scale (k := K) (l := L) g f hk hl
  obtain ⟨f1, f2, f3, f4⟩ := turn_facts q1 q2
  rw [same_iff q1 q2] at f3
  have iE : tuE x1 y1 z1 x2 y2 z2 = 0 := if_pos ⟨q1, q2⟩
  have iE' : tuE (x2 * K) (y2 * K) (z2 * K) (x1 * L) (y1 * L) (z1 * L) = 0 := if_pos ⟨q3, q4⟩
  have iN : tuN x1 y1 z1 x2 y2 z2 = tN x1 y1 z1 x2 y2 z2 := if_pos ⟨q1, q2⟩
  have iD : tuD x1 y1 z1 x2 y2 z2 = tD x1 y1 z1 x2 y2 z2 := if_pos ⟨q1, q2⟩
  have iN' : tuN (x2 * K) (y2 * K) (z2 * K) (x1 * L) (y1 * L) (z1 * L) = tN x1 y1 z1 x2 y2 z2 := (if_pos ⟨q3, q4⟩).trans t1
  have iD' : tuD (x2 * K) (y2 * K) (z2 * K) (x1 * L) (y1 * L) (z1 * L) = tD x1 y1 z1 x2 y2 z2 := (if_pos ⟨q3, q4⟩).trans t2
  rw [iE, iE', iN, iD, iN', iD']
  rw [dot_in q1.1 q2.1]
  have p1 := prod_bd g.1.2.1 f.1.2.2
  have p2 := prod_bd g.1.2.2 f.1.2.1
  have p3 := prod_bd g.1.2.2 f.1.1
  have p4 := prod_bd g.1.1 f.1.2.2
  have p5 := prod_bd g.1.1 f.1.2.1
  have p6 := prod_bd g.1.2.1 f.1.1
  rw [i64_in' (n := y1 * z2) (by omega) (by omega), i64_in' (n := z1 * y2) (by omega) (by omega), i64_in' (n := z1 * x2) (by omega) (by omega), i64_in' (n := x1 * z2) (by omega) (by omega), i64_in' (n := x1 * y2) (by omega) (by omega), i64_in' (n := y1 * x2) (by omega) (by omega)]
  generalize tN x1 y1 z1 x2 y2 z2 = N at *
  generalize tD x1 y1 z1 x2 y2 z2 = D at *
  generalize dot x1 y1 z1 x2 y2 z2 = d at *
  rw [i64_in' (n := 2 * D) (by omega) (by omega)]
  have r4 : ((N == D) == (d == 0)) = true := by
    have : (N == D) = (d == 0) := by
      by_cases h : d = 0
      · rw [beq_iff_eq.2 (f4.2 h), beq_iff_eq.2 h]
      · rw [beq_eq_false_iff_ne.2 (fun q => h (f4.1 q)), beq_eq_false_iff_ne.2 h]
    rw [this]; exact beq_self_eq_true _
  rw [r4]
  have fin : (Tree.br true (.leaf (.bool true)) (.leaf (.bool false)) : Tree (AV T)).holds fun v => v = .bool true := ⟨fun _ => rfl, fun q => absurd q (by decide)⟩
  have hno : ¬ ((y1 * z2 = z1 * y2 ∧ z1 * x2 = x1 * z2 ∧ x1 * y2 = y1 * x2) ∧ d > 0) → ((N == 0) == false) = true := fun h => by
    rw [beq_eq_false_iff_ne.2 (fun q => h (f3.1 q))]; rfl
  refine ⟨⟨by decide, by decide⟩, ⟨by decide, by decide⟩, wayNe (fun q => absurd rfl q) fun _ => wayNe (fun q => absurd rfl q) fun _ => wayB (fun q => ?_) fun _ => way (fun q => absurd q (by omega)) fun _ => way (fun q => absurd q (by omega)) fun _ => way (fun q => absurd q (by omega)) fun _ => wayEq (fun c1 => wayEq (fun c2 => wayEq (fun c3 => wayB (fun _ => fin) fun q => ?_) fun c3 => wayB (fun _ => fin) fun q => ?_) fun c2 => wayB (fun _ => fin) fun q => ?_) fun c1 => wayB (fun _ => fin) fun q => ?_⟩
  · rw [beq_self_eq_true, beq_self_eq_true] at q
    exact absurd q (by decide)
  · exfalso
    by_cases h : d > 0
    · rw [beq_iff_eq.2 (f3.2 ⟨⟨c1, c2, c3⟩, h⟩), decide_eq_true h] at q
      exact absurd q (by decide)
    · rw [beq_eq_false_iff_ne.2 (fun p => h (f3.1 p).2), decide_eq_false h] at q
      exact absurd q (by decide)
  · rw [hno (fun h => c3 h.1.2.2)] at q; exact absurd q (by decide)
  · rw [hno (fun h => c2 h.1.2.1)] at q; exact absurd q (by decide)
  · rw [hno (fun h => c1 h.1.1)] at q; exact absurd q (by decide)
end Go.Proofs.Ytmnhfjhlfgebiaa.W
