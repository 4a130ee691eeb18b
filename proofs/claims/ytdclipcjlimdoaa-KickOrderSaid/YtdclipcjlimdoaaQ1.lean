/- The latest alarms of sensors: what both look for. No condition. -/
import Derived.Test.YtdclipcjlimdoaaI
import Derived.Test.YtdclipcjlimdoaaR
set_option linter.unusedVariables false
set_option maxRecDepth 100000
set_option maxHeartbeats 4000000
noncomputable section
namespace Go.Proofs.Ytdclipcjlimdoaa.W
open Go Go.Cx Go.RowKit
/-- What a channel says. -/
noncomputable def sy (s : Sensor) (x : Kick) (n : Int) : Int := if s.Channel = 1 then gain x n else flow x n
theorem sy_bd (s : Sensor) (x : Kick) (n : Int) : 0 ≤ sy s x n ∧ sy s x n ≤ 2000000000000 := by
  have h1 := flow_bd x n
  have h2 := gain_bd x n
  unfold sy
  split <;> omega
/-- It is high whatever the error. -/
@[reducible] def hiP (s : Sensor) (x : Kick) (n : Int) : Prop := s.Limit ≤ sy s x n - s.Noise * s.Step
noncomputable def fA (s : Sensor) (x : Kick) (ph a : Int) : Int :=
  if h : ph + a * s.Period ≤ 10000 ∧ 0 < s.Period then (if hiP s x (ph + a * s.Period) then a else fA s x ph (a + 1)) else -1
termination_by (10001 - (ph + a * s.Period)).toNat
decreasing_by
  rw [Int.add_mul, Int.one_mul]
  omega
theorem fA_out {s : Sensor} {x : Kick} {ph a : Int} (h : ¬ (ph + a * s.Period ≤ 10000)) : fA s x ph a = -1 := by
  rw [fA, dif_neg (fun k => h k.1)]
theorem fA_hi {s : Sensor} {x : Kick} {ph a : Int} (h : ph + a * s.Period ≤ 10000) (hp : 0 < s.Period) (c : hiP s x (ph + a * s.Period)) : fA s x ph a = a := by
  rw [fA, dif_pos ⟨h, hp⟩, if_pos c]
theorem fA_lo {s : Sensor} {x : Kick} {ph a : Int} (h : ph + a * s.Period ≤ 10000) (hp : 0 < s.Period) (c : ¬ hiP s x (ph + a * s.Period)) : fA s x ph a = fA s x ph (a + 1) := by
  rw [fA, dif_pos ⟨h, hp⟩, if_neg c]
theorem fA_bd' {s : Sensor} {x : Kick} {ph : Int} (hp : 0 < s.Period) : ∀ (n : Nat) (a : Int), (10001 - (ph + a * s.Period)).toNat ≤ n → fA s x ph a = -1 ∨ a ≤ fA s x ph a ∧ ph + fA s x ph a * s.Period ≤ 10000 ∧ hiP s x (ph + fA s x ph a * s.Period)
  | 0, a, h => .inl (fA_out (by omega))
  | n + 1, a, h => by
    by_cases h1 : ph + a * s.Period ≤ 10000
    · by_cases c : hiP s x (ph + a * s.Period)
      · right
        rw [fA_hi h1 hp c]
        exact ⟨Int.le_refl _, h1, c⟩
      · rw [fA_lo h1 hp c]
        rcases fA_bd' (x := x) (ph := ph) hp n (a + 1) (by rw [Int.add_mul, Int.one_mul]; omega) with k | k
        · exact .inl k
        · exact .inr ⟨by omega, k.2⟩
    · exact .inl (fA_out h1)
theorem fA_bd {s : Sensor} {x : Kick} {ph : Int} (a : Int) (hp : 0 < s.Period) : fA s x ph a = -1 ∨ a ≤ fA s x ph a ∧ ph + fA s x ph a * s.Period ≤ 10000 ∧ hiP s x (ph + fA s x ph a * s.Period) := fA_bd' hp _ a (Nat.le_refl _)
theorem fA_some {s : Sensor} {x : Kick} {ph b : Int} (hp : 0 < s.Period) (hb : ph + b * s.Period ≤ 10000) (c : hiP s x (ph + b * s.Period)) : ∀ (n : Nat) (a : Int), a ≤ b → (b - a).toNat ≤ n → fA s x ph a ≤ b ∧ a ≤ fA s x ph a
  | 0, a, h1, h2 => by
    obtain rfl : a = b := by omega
    rw [fA_hi hb hp c]
    omega
  | n + 1, a, h1, h2 => by
    by_cases e : a = b
    · subst e
      rw [fA_hi hb hp c]
      omega
    · have hm := Int.mul_le_mul_of_nonneg_right (show a + 1 ≤ b by omega) (show 0 ≤ s.Period by omega)
      rw [Int.add_mul, Int.one_mul] at hm
      by_cases k : hiP s x (ph + a * s.Period)
      · rw [fA_hi (by omega) hp k]
        omega
      · rw [fA_lo (by omega) hp k]
        have := fA_some hp hb c n (a + 1) (by omega) (by omega)
        omega
/-- The alarm of a phase. -/
noncomputable def tk (s : Sensor) (ph a : Int) : Int := ph + (a + s.Hold * (s.Lost + 1) - 1) * s.Period + s.Delay
structure Lt where
  t : Int
  p : Int
  f : Int
noncomputable def stp (s : Sensor) (x : Kick) (ph : Int) (w : Lt) : Lt := if w.t < tk s ph (fA s x ph 0) then ⟨tk s ph (fA s x ph 0), ph, fA s x ph 0⟩ else w
noncomputable def wrs (s : Sensor) (x : Kick) : Nat → Int → Lt → Lt
  | 0, _, w => w
  | n + 1, ph, w => wrs s x n (ph + 1) (stp s x ph w)
noncomputable def allF (s : Sensor) (x : Kick) : Nat → Int → Bool
  | 0, _ => true
  | n + 1, ph => if fA s x ph 0 = -1 then false else allF s x n (ph + 1)
noncomputable def allG (s : Sensor) (x : Kick) : Nat → Int → Bool
  | 0, _ => true
  | n + 1, ph => if fA s x ph 0 = -1 ∨ 10000 < tk s ph (fA s x ph 0) then false else allG s x n (ph + 1)
theorem wrs_ge (s : Sensor) (x : Kick) : ∀ (n : Nat) (ph : Int) (w : Lt), w.t ≤ (wrs s x n ph w).t
  | 0, _, w => Int.le_refl _
  | n + 1, ph, w => by
    have := wrs_ge s x n (ph + 1) (stp s x ph w)
    have k : w.t ≤ (stp s x ph w).t := by
      unfold stp
      split
      · exact Int.le_of_lt (by assumption)
      · exact Int.le_refl _
    show w.t ≤ (wrs s x n (ph + 1) (stp s x ph w)).t
    omega
theorem allG_eq (s : Sensor) (x : Kick) : ∀ (n : Nat) (ph : Int) (w : Lt), w.t ≤ 10000 → allG s x n ph = (allF s x n ph && decide ((wrs s x n ph w).t ≤ 10000))
  | 0, ph, w, h => by
    show true = (true && decide (w.t ≤ 10000))
    rw [decide_eq_true h]
    rfl
  | n + 1, ph, w, h => by
    unfold allG allF
    by_cases c : fA s x ph 0 = -1
    · rw [if_pos (.inl c), if_pos c, Bool.false_and]
    · rw [if_neg c]
      by_cases k : 10000 < tk s ph (fA s x ph 0)
      · rw [if_pos (.inr k)]
        have := wrs_ge s x n (ph + 1) (stp s x ph w)
        have e : (stp s x ph w).t = tk s ph (fA s x ph 0) := by unfold stp; rw [if_pos (by omega)]
        have : ¬ (wrs s x (n + 1) ph w).t ≤ 10000 := by
          show ¬ (wrs s x n (ph + 1) (stp s x ph w)).t ≤ 10000
          omega
        rw [decide_eq_false this, Bool.and_false]
      · rw [if_neg (by omega)]
        exact allG_eq s x n (ph + 1) (stp s x ph w) (by unfold stp; split <;> (try simp only) <;> omega)
noncomputable def w0 : Lt := ⟨-1, 0, 0⟩
noncomputable def wst (s : Sensor) (x : Kick) : Lt := wrs s x s.Period.toNat 0 w0
noncomputable def fnd (s : Sensor) (x : Kick) : Bool := allG s x s.Period.toNat 0
@[reducible] def okB (s : Sensor) (x : Kick) : Prop := sErr s = 0 ∧ kErr x = 0
noncomputable def ltB (s : Sensor) (x : Kick) : Bool := if okB s x then fnd s x else false
noncomputable def ltT (s : Sensor) (x : Kick) : Int := if ltB s x = true then (wst s x).t else 0
noncomputable def mnT : List Sensor → Kick → Int → Int
  | [], _, o => o
  | s :: r, x, o => mnT r x (if ltB s x = true ∧ (o < 0 ∨ ltT s x < o) then ltT s x else o)
/-! ### what the reference's channel says -/
noncomputable def ctSy : CTab T := [(27, cFlow), (29, cGain)]
theorem ctSy_ok : CTabOk Try.prog E ctSy := .cons flow2_ok (.cons gain2_ok .nil)
theorem tv75 (s : Sensor) (x : Kick) (n : Int) : runX ctSy noLoops 75 [s.av, x.av, i64 n] [2] =
  (.br (Sensor.Channel s == (1 : Int))
   (.leaf (.sym .i64 (gain (Kick.mk (Kick.Rate x) (Kick.Grow x)) n)))
   (.leaf (.sym .i64 (flow (Kick.mk (Kick.Rate x) (Kick.Grow x)) n)))) := by kernel_rfl
theorem s75 (s : Sensor) (x : Kick) (n : Int) : (runX ctSy noLoops 75 [s.av, x.av, i64 n] [2]).holds fun v => v = i64 (sy s x n) := by
  rw [tv75]
  unfold sy
  exact wayEq (fun h => congrArg i64 (by rw [if_pos h])) fun h => congrArg i64 (by rw [if_neg h])
noncomputable def cSy : Con T := conV Try.prog [shSe, shK, .one (.i .i64)] [.n, .n, .n, .n, .n, .n, .n, .n, .n, .n, .n] fun d => i64 (sy ⟨d.1, d.2.1, d.2.2.1, d.2.2.2.1, d.2.2.2.2.1, d.2.2.2.2.2.1, d.2.2.2.2.2.2.1, d.2.2.2.2.2.2.2.1⟩ ⟨d.2.2.2.2.2.2.2.2.1, d.2.2.2.2.2.2.2.2.2.1⟩ d.2.2.2.2.2.2.2.2.2.2.1)
theorem sy_ok : ConOk Try.prog E 75 cSy := conV_ok fun d => fact_run ctSy_ok noLoops_ok (ts := [2]) rfl (s75 _ ⟨d.2.2.2.2.2.2.2.2.1, d.2.2.2.2.2.2.2.2.2.1⟩ d.2.2.2.2.2.2.2.2.2.2.1)
end Go.Proofs.Ytdclipcjlimdoaa.W
