/- Kicks and sensors: flows, gains, values. -/
import Derived.Test.YtdclipcjlimdoaaF
set_option linter.unusedVariables false
set_option maxRecDepth 100000
noncomputable section
namespace Go.Proofs.Ytdclipcjlimdoaa.W
open Go Go.Cx Go.RowKit
noncomputable def ctK2 : CTab T := [(66, cWithin), (67, cWithin), (18, cKick), (19, cKick), (22, cSensor), (23, cSensor)]
theorem ctK2_ok : CTabOk Try.prog E ctK2 := .cons within_ok (.cons between_ok (.cons kick_ok (.cons kick2_ok (.cons sensor_ok (.cons sensor2_ok .nil)))))
theorem kErr_zero {x : Kick} : kErr x = 0 ↔ okK x := by
  unfold kErr
  refine ⟨fun h => ?_, fun h => if_pos h⟩
  split at h
  · assumption
  · cases h
theorem sErr_zero {x : Sensor} : sErr x = 0 ↔ (x.Channel = 1 ∨ x.Channel = 2) ∧ okSe x := by
  unfold sErr
  refine ⟨fun h => ?_, fun h => by rw [if_pos h.1, if_pos h.2]⟩
  split at h
  · split at h
    · exact ⟨‹_›, ‹_›⟩
    · cases h
  · cases h
noncomputable def flow (x : Kick) (n : Int) : Int := if okK x ∧ 0 ≤ n ∧ n ≤ 20000 then x.Rate + n * x.Grow else 0
noncomputable def gain (x : Kick) (n : Int) : Int := if okK x ∧ 0 ≤ n ∧ n ≤ 20000 then n * x.Rate + x.Grow * (n * (n - 1) / 2) else 0
noncomputable def value (s : Sensor) (x : Kick) (n e : Int) : Int := if sErr s = 0 ∧ okK x ∧ (-s.Noise ≤ e ∧ e ≤ s.Noise) ∧ n ≤ 20000 then (if s.Channel = 1 then gain x n else flow x n) + e * s.Step else 0
structure BdK (x : Kick) (n : Int) : Prop where
  ng : 0 ≤ n * x.Grow ∧ n * x.Grow ≤ 20000 * 4096
  nr : 0 ≤ n * x.Rate ∧ n * x.Rate ≤ 20000 * 16777216
  nn : 0 ≤ n * (n - 1) ∧ n * (n - 1) ≤ 20000 * 20000
  gn : 0 ≤ x.Grow * (n * (n - 1) / 2) ∧ x.Grow * (n * (n - 1) / 2) ≤ 4096 * 200000000
theorem bdK {x : Kick} {n : Int} (h : okK x) (h0 : 0 ≤ n) (h1 : n ≤ 20000) : BdK x n := by
  have nn : 0 ≤ n * (n - 1) ∧ n * (n - 1) ≤ 20000 * 20000 := by
    by_cases hz : n = 0
    · subst hz; decide
    · exact mulb h0 h1 (by omega) (by omega)
  exact ⟨mulb h0 h1 (by omega) (by omega), mulb h0 h1 (by omega) (by omega), nn, mulb (by omega) (by omega) (by omega) (by omega)⟩
theorem bdE {a b : Int} (h : -15 ≤ a ∧ a ≤ 15) (h1 : 1 ≤ b ∧ b ≤ 1048576) : -15728640 ≤ a * b ∧ a * b ≤ 15728640 := by
  by_cases ha : 0 ≤ a
  · have := mulb ha h.2 (show 0 ≤ b by omega) h1.2
    omega
  · have := mulb (a := -a) (b := b) (m := 15) (by omega) (by omega) (show 0 ≤ b by omega) h1.2
    rw [Int.neg_mul] at this
    omega
theorem t26 (x : Kick) (n : Int) : runX ctK2 noLoops 26 [x.av, i64 n] [2] =
  (.br (kErr (Kick.mk (Kick.Rate x) (Kick.Grow x)) == (0 : Int))
   (.br (!within n (0 : Int) (20000 : Int))
    (.leaf (.sym .i64 ((0 : Int))))
    (.br (decide (n < (0 : Int)))
     (.leaf (.sym .i64 ((0 : Int))))
     (.leaf (.sym .i64 (IntKind.wrap IntKind.i64 (Kick.Rate x + IntKind.wrap IntKind.i64 (n * Kick.Grow x)))))))
   (.leaf (.sym .i64 ((0 : Int))))) := by kernel_rfl
theorem t27 (x : Kick) (n : Int) : runX ctK2 noLoops 27 [x.av, i64 n] [2] =
  (.br (kErr (Kick.mk (Kick.Rate x) (Kick.Grow x)) != (0 : Int))
   (.leaf (.sym .i64 ((0 : Int))))
   (.br (!within n (0 : Int) (20000 : Int))
    (.leaf (.sym .i64 ((0 : Int))))
    (.leaf (.sym .i64 (IntKind.wrap IntKind.i64 (Kick.Rate x + IntKind.wrap IntKind.i64 (n * Kick.Grow x))))))) := by kernel_rfl
theorem t28 (x : Kick) (n : Int) : runX ctK2 noLoops 28 [x.av, i64 n] [2] =
  (.br (kErr (Kick.mk (Kick.Rate x) (Kick.Grow x)) == (0 : Int))
   (.br (!within n (0 : Int) (20000 : Int))
    (.leaf (.sym .i64 ((0 : Int))))
    (.br (decide (n < (0 : Int)))
     (.leaf (.sym .i64 ((0 : Int))))
     (.leaf (.sym .i64 (IntKind.wrap IntKind.i64 (IntKind.wrap IntKind.i64 (n * Kick.Rate x) + IntKind.wrap IntKind.i64 (Kick.Grow x * IntKind.wrap IntKind.i64 (Int.tdiv (IntKind.wrap IntKind.i64 (n * IntKind.wrap IntKind.i64 (n - (1 : Int)))) (2 : Int)))))))))
   (.leaf (.sym .i64 ((0 : Int))))) := by kernel_rfl
theorem t29 (x : Kick) (n : Int) : runX ctK2 noLoops 29 [x.av, i64 n] [2] =
  (.br (kErr (Kick.mk (Kick.Rate x) (Kick.Grow x)) != (0 : Int))
   (.leaf (.sym .i64 ((0 : Int))))
   (.br (!within n (0 : Int) (20000 : Int))
    (.leaf (.sym .i64 ((0 : Int))))
    (.leaf (.sym .i64 (IntKind.wrap IntKind.i64 (IntKind.wrap IntKind.i64 (n * Kick.Rate x) + IntKind.wrap IntKind.i64 (Kick.Grow x * IntKind.wrap IntKind.i64 (Int.tdiv (IntKind.wrap IntKind.i64 (n * IntKind.wrap IntKind.i64 (n - (1 : Int)))) (2 : Int))))))))) := by kernel_rfl
theorem t30 (s : Sensor) (x : Kick) (n e : Int) : runX ctK2 noLoops 30 [s.av, x.av, i64 n, i64 e] [2] =
  (.br (sErr (sens (Sensor.Channel s, Sensor.Period s, Sensor.Delay s, Sensor.Noise s, Sensor.Step s, Sensor.Lost s, Sensor.Limit s, Sensor.Hold s, ())) == (0 : Int))
   (.br (!kErr (Kick.mk (Kick.Rate x) (Kick.Grow x)) == (0 : Int))
    (.leaf (.sym .i64 ((0 : Int))))
    (.br (!within e (IntKind.wrap IntKind.i64 ((0 : Int) - Sensor.Noise s)) (Sensor.Noise s))
     (.leaf (.sym .i64 ((0 : Int))))
     (.br (decide (n > (20000 : Int)))
      (.leaf (.sym .i64 ((0 : Int))))
      (.br (Sensor.Channel s == (1 : Int))
       (.br (decide (n < (0 : Int)))
        (.leaf (.sym .i64 (IntKind.wrap IntKind.i64 ((0 : Int) + IntKind.wrap IntKind.i64 (e * Sensor.Step s)))))
        (.leaf (.sym .i64 (IntKind.wrap IntKind.i64 (IntKind.wrap IntKind.i64 (IntKind.wrap IntKind.i64 (n * Kick.Rate x) + IntKind.wrap IntKind.i64 (Kick.Grow x * IntKind.wrap IntKind.i64 (Int.tdiv (IntKind.wrap IntKind.i64 (n * IntKind.wrap IntKind.i64 (n - (1 : Int)))) (2 : Int)))) + IntKind.wrap IntKind.i64 (e * Sensor.Step s))))))
       (.br (decide (n < (0 : Int)))
        (.leaf (.sym .i64 (IntKind.wrap IntKind.i64 ((0 : Int) + IntKind.wrap IntKind.i64 (e * Sensor.Step s)))))
        (.leaf (.sym .i64 (IntKind.wrap IntKind.i64 (IntKind.wrap IntKind.i64 (Kick.Rate x + IntKind.wrap IntKind.i64 (n * Kick.Grow x)) + IntKind.wrap IntKind.i64 (e * Sensor.Step s))))))))))
   (.leaf (.sym .i64 ((0 : Int))))) := by kernel_rfl
theorem t31 (s : Sensor) (x : Kick) (n e : Int) : runX ctK2 noLoops 31 [s.av, x.av, i64 n, i64 e] [2] =
  (.br (sErr (sens (Sensor.Channel s, Sensor.Period s, Sensor.Delay s, Sensor.Noise s, Sensor.Step s, Sensor.Lost s, Sensor.Limit s, Sensor.Hold s, ())) != (0 : Int))
   (.leaf (.sym .i64 ((0 : Int))))
   (.br (kErr (Kick.mk (Kick.Rate x) (Kick.Grow x)) != (0 : Int))
    (.leaf (.sym .i64 ((0 : Int))))
    (.br (!within e (IntKind.wrap IntKind.i64 ((0 : Int) - Sensor.Noise s)) (Sensor.Noise s))
     (.leaf (.sym .i64 ((0 : Int))))
     (.br (decide (n > (20000 : Int)))
      (.leaf (.sym .i64 ((0 : Int))))
      (.br (Sensor.Channel s == (1 : Int))
       (.br (kErr (Kick.mk (Kick.Rate x) (Kick.Grow x)) != (0 : Int))
        (.leaf (.sym .i64 (IntKind.wrap IntKind.i64 ((0 : Int) + IntKind.wrap IntKind.i64 (e * Sensor.Step s)))))
        (.br (!within n (0 : Int) (20000 : Int))
         (.leaf (.sym .i64 (IntKind.wrap IntKind.i64 ((0 : Int) + IntKind.wrap IntKind.i64 (e * Sensor.Step s)))))
         (.leaf (.sym .i64 (IntKind.wrap IntKind.i64 (IntKind.wrap IntKind.i64 (IntKind.wrap IntKind.i64 (n * Kick.Rate x) + IntKind.wrap IntKind.i64 (Kick.Grow x * IntKind.wrap IntKind.i64 (Int.tdiv (IntKind.wrap IntKind.i64 (n * IntKind.wrap IntKind.i64 (n - (1 : Int)))) (2 : Int)))) + IntKind.wrap IntKind.i64 (e * Sensor.Step s)))))))
       (.br (kErr (Kick.mk (Kick.Rate x) (Kick.Grow x)) != (0 : Int))
        (.leaf (.sym .i64 (IntKind.wrap IntKind.i64 ((0 : Int) + IntKind.wrap IntKind.i64 (e * Sensor.Step s)))))
        (.br (!within n (0 : Int) (20000 : Int))
         (.leaf (.sym .i64 (IntKind.wrap IntKind.i64 ((0 : Int) + IntKind.wrap IntKind.i64 (e * Sensor.Step s)))))
         (.leaf (.sym .i64 (IntKind.wrap IntKind.i64 (IntKind.wrap IntKind.i64 (Kick.Rate x + IntKind.wrap IntKind.i64 (n * Kick.Grow x)) + IntKind.wrap IntKind.i64 (e * Sensor.Step s)))))))))))) := by kernel_rfl

theorem flow_in {x : Kick} {n : Int} (h : okK x ∧ 0 ≤ n ∧ n ≤ 20000) : IntKind.wrap IntKind.i64 (x.Rate + IntKind.wrap IntKind.i64 (n * x.Grow)) = flow x n := by
  obtain ⟨q1, q2, q3, q4⟩ := bdK h.1 h.2.1 h.2.2
  unfold flow
  rw [if_pos h]
  simp (disch := omega) only [i64_in']
theorem flow_out {x : Kick} {n : Int} (h : ¬ (okK x ∧ 0 ≤ n ∧ n ≤ 20000)) : 0 = flow x n := by unfold flow; rw [if_neg h]
theorem gain_in {x : Kick} {n : Int} (h : okK x ∧ 0 ≤ n ∧ n ≤ 20000) : IntKind.wrap IntKind.i64 (IntKind.wrap IntKind.i64 (n * x.Rate) + IntKind.wrap IntKind.i64 (x.Grow * IntKind.wrap IntKind.i64 (Int.tdiv (IntKind.wrap IntKind.i64 (n * IntKind.wrap IntKind.i64 (n - (1 : Int)))) (2 : Int)))) = gain x n := by
  obtain ⟨q1, q2, q3, q4⟩ := bdK h.1 h.2.1 h.2.2
  unfold gain
  rw [if_pos h]
  simp (disch := omega) only [i64_in', Int.tdiv_eq_ediv_of_nonneg]
theorem gain_out {x : Kick} {n : Int} (h : ¬ (okK x ∧ 0 ≤ n ∧ n ≤ 20000)) : 0 = gain x n := by unfold gain; rw [if_neg h]
theorem h26 (x : Kick) (n : Int) : (runX ctK2 noLoops 26 [x.av, i64 n] [2]).holds fun v => v = i64 (flow x n) := by
  rw [t26]
  (repeat' first | (apply wayEq <;> intro _) | (apply wayNe <;> intro _) | (apply wayNEq <;> intro _) | (apply way <;> intro _) | (apply wayN <;> intro _) | (apply wayB <;> intro _)) <;> refine congrArg i64 ?_ <;> simp only [kErr_zero, ne_eq] at * <;> first | exact flow_out (fun h => ‹¬ okK _› h.1) | exact flow_out (fun h => by omega) | exact flow_in ⟨‹_›, by omega, by omega⟩
theorem h27 (x : Kick) (n : Int) : (runX ctK2 noLoops 27 [x.av, i64 n] [2]).holds fun v => v = i64 (flow x n) := by
  rw [t27]
  (repeat' first | (apply wayEq <;> intro _) | (apply wayNe <;> intro _) | (apply wayNEq <;> intro _) | (apply way <;> intro _) | (apply wayN <;> intro _) | (apply wayB <;> intro _)) <;> refine congrArg i64 ?_ <;> simp only [kErr_zero, ne_eq] at * <;> first | exact flow_out (fun h => ‹¬ okK _› h.1) | exact flow_out (fun h => by omega) | exact flow_in ⟨‹_›, by omega, by omega⟩
theorem h28 (x : Kick) (n : Int) : (runX ctK2 noLoops 28 [x.av, i64 n] [2]).holds fun v => v = i64 (gain x n) := by
  rw [t28]
  (repeat' first | (apply wayEq <;> intro _) | (apply wayNe <;> intro _) | (apply wayNEq <;> intro _) | (apply way <;> intro _) | (apply wayN <;> intro _) | (apply wayB <;> intro _)) <;> refine congrArg i64 ?_ <;> simp only [kErr_zero, ne_eq] at * <;> first | exact gain_out (fun h => ‹¬ okK _› h.1) | exact gain_out (fun h => by omega) | exact gain_in ⟨‹_›, by omega, by omega⟩
theorem h29 (x : Kick) (n : Int) : (runX ctK2 noLoops 29 [x.av, i64 n] [2]).holds fun v => v = i64 (gain x n) := by
  rw [t29]
  (repeat' first | (apply wayEq <;> intro _) | (apply wayNe <;> intro _) | (apply wayNEq <;> intro _) | (apply way <;> intro _) | (apply wayN <;> intro _) | (apply wayB <;> intro _)) <;> refine congrArg i64 ?_ <;> simp only [kErr_zero, ne_eq] at * <;> first | exact gain_out (fun h => ‹¬ okK _› h.1) | exact gain_out (fun h => by omega) | exact gain_in ⟨‹_›, by omega, by omega⟩
end Go.Proofs.Ytdclipcjlimdoaa.W
