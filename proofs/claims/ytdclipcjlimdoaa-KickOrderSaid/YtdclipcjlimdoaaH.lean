/- Kicks and sensors: contracts of flows, gains and values. -/
import Derived.Test.YtdclipcjlimdoaaG
set_option linter.unusedVariables false
set_option maxRecDepth 100000
noncomputable section
namespace Go.Proofs.Ytdclipcjlimdoaa.W
open Go Go.Cx Go.RowKit
theorem value_out {s : Sensor} {x : Kick} {n e : Int} (h : ¬ (sErr s = 0 ∧ okK x ∧ (-s.Noise ≤ e ∧ e ≤ s.Noise) ∧ n ≤ 20000)) : 0 = value s x n e := by unfold value; rw [if_neg h]
theorem flow_bd (x : Kick) (n : Int) : 0 ≤ flow x n ∧ flow x n ≤ 200000000 := by
  unfold flow
  split
  · rename_i h
    obtain ⟨q1, q2, q3, q4⟩ := bdK h.1 h.2.1 h.2.2
    omega
  · omega
theorem gain_bd (x : Kick) (n : Int) : 0 ≤ gain x n ∧ gain x n ≤ 2000000000000 := by
  unfold gain
  split
  · rename_i h
    obtain ⟨q1, q2, q3, q4⟩ := bdK h.1 h.2.1 h.2.2
    omega
  · omega
theorem value_in {s : Sensor} {x : Kick} {n e g : Int} (h : sErr s = 0 ∧ okK x ∧ (-s.Noise ≤ e ∧ e ≤ s.Noise) ∧ n ≤ 20000) (hg : g = if s.Channel = 1 then gain x n else flow x n) :
    IntKind.wrap IntKind.i64 (g + IntKind.wrap IntKind.i64 (e * s.Step)) = value s x n e := by
  have h0 := (sErr_zero.1 h.1).2
  have := bdE (a := e) (b := s.Step) (by omega) (by omega)
  have h1 := flow_bd x n
  have h2 := gain_bd x n
  unfold value
  rw [if_pos h, ← hg]
  have : 0 ≤ g ∧ g ≤ 2000000000000 := by rw [hg]; split <;> omega
  simp (disch := omega) only [i64_in']
theorem vTail30 {s : Sensor} {x : Kick} {n e : Int} (h : sErr s = 0 ∧ okK x ∧ (-s.Noise ≤ e ∧ e ≤ s.Noise) ∧ n ≤ 20000) : (Tree.br (Sensor.Channel s == (1 : Int))
       (.br (decide (n < (0 : Int)))
        (.leaf (.sym .i64 (IntKind.wrap IntKind.i64 ((0 : Int) + IntKind.wrap IntKind.i64 (e * Sensor.Step s)))))
        (.leaf (.sym .i64 (IntKind.wrap IntKind.i64 (IntKind.wrap IntKind.i64 (IntKind.wrap IntKind.i64 (n * Kick.Rate x) + IntKind.wrap IntKind.i64 (Kick.Grow x * IntKind.wrap IntKind.i64 (Int.tdiv (IntKind.wrap IntKind.i64 (n * IntKind.wrap IntKind.i64 (n - (1 : Int)))) (2 : Int)))) + IntKind.wrap IntKind.i64 (e * Sensor.Step s))))))
       (.br (decide (n < (0 : Int)))
        (.leaf (.sym .i64 (IntKind.wrap IntKind.i64 ((0 : Int) + IntKind.wrap IntKind.i64 (e * Sensor.Step s)))))
        (.leaf (.sym .i64 (IntKind.wrap IntKind.i64 (IntKind.wrap IntKind.i64 (Kick.Rate x + IntKind.wrap IntKind.i64 (n * Kick.Grow x)) + IntKind.wrap IntKind.i64 (e * Sensor.Step s))))))).holds fun v : AV T => v = i64 (value s x n e) := by
  refine wayEq (fun c => way (fun k => ?_) fun k => ?_) fun c => way (fun k => ?_) fun k => ?_
  · exact congrArg i64 (value_in h (by rw [if_pos c]; exact gain_out (by omega)))
  · rw [gain_in ⟨h.2.1, by omega, by omega⟩]; exact congrArg i64 (value_in h (by rw [if_pos c]))
  · exact congrArg i64 (value_in h (by rw [if_neg c]; exact flow_out (by omega)))
  · rw [flow_in ⟨h.2.1, by omega, by omega⟩]; exact congrArg i64 (value_in h (by rw [if_neg c]))
theorem noise_in {s : Sensor} (h : sErr s = 0) : IntKind.wrap IntKind.i64 ((0 : Int) - Sensor.Noise s) = -s.Noise := by
  have h0 := (sErr_zero.1 h).2
  rw [Int.zero_sub]
  exact i64_in' (by omega) (by omega)
theorem h30 (s : Sensor) (x : Kick) (n e : Int) : (runX ctK2 noLoops 30 [s.av, x.av, i64 n, i64 e] [2]).holds fun v => v = i64 (value s x n e) := by
  rw [t30]
  refine wayEq (fun k1 => wayNEq (fun k2 => ?_) fun k2 => ?_) fun k1 => ?_
  · exact congrArg i64 (value_out fun h => k2 (kErr_zero.2 h.2.1))
  · rw [noise_in k1]
    refine wayN (fun k3 => ?_) fun k3 => way (fun k4 => ?_) fun k4 => vTail30 ⟨k1, kErr_zero.1 k2, k3, by omega⟩
    · exact congrArg i64 (value_out fun h => k3 h.2.2.1)
    · exact congrArg i64 (value_out fun h => by omega)
  · exact congrArg i64 (value_out fun h => k1 h.1)
theorem h31 (s : Sensor) (x : Kick) (n e : Int) : (runX ctK2 noLoops 31 [s.av, x.av, i64 n, i64 e] [2]).holds fun v => v = i64 (value s x n e) := by
  rw [t31]
  refine wayNe (fun k1 => ?_) fun k1 => wayNe (fun k2 => ?_) fun k2 => ?_
  · exact congrArg i64 (value_out fun h => k1 h.1)
  · exact congrArg i64 (value_out fun h => k2 (kErr_zero.2 h.2.1))
  · rw [noise_in k1]
    refine wayN (fun k3 => ?_) fun k3 => way (fun k4 => ?_) fun k4 => ?_
    · exact congrArg i64 (value_out fun h => k3 h.2.2.1)
    · exact congrArg i64 (value_out fun h => by omega)
    · have h : sErr s = 0 ∧ okK x ∧ (-s.Noise ≤ e ∧ e ≤ s.Noise) ∧ n ≤ 20000 := ⟨k1, kErr_zero.1 k2, k3, by omega⟩
      refine wayEq (fun c => wayNe (fun k => absurd k2 k) fun _ => wayN (fun k => ?_) fun k => ?_) fun c => wayNe (fun k => absurd k2 k) fun _ => wayN (fun k => ?_) fun k => ?_
      · exact congrArg i64 (value_in h (by rw [if_pos c]; exact gain_out (fun h => k h.2)))
      · rw [gain_in ⟨h.2.1, by omega, by omega⟩]; exact congrArg i64 (value_in h (by rw [if_pos c]))
      · exact congrArg i64 (value_in h (by rw [if_neg c]; exact flow_out (fun h => k h.2)))
      · rw [flow_in ⟨h.2.1, by omega, by omega⟩]; exact congrArg i64 (value_in h (by rw [if_neg c]))
noncomputable def cFlow : Con T := conV Try.prog [shK, .one (.i .i64)] [.n, .n, .n] fun d => i64 (flow ⟨d.1, d.2.1⟩ d.2.2.1)
noncomputable def cGain : Con T := conV Try.prog [shK, .one (.i .i64)] [.n, .n, .n] fun d => i64 (gain ⟨d.1, d.2.1⟩ d.2.2.1)
noncomputable def cValue : Con T := conV Try.prog [shSe, shK, .one (.i .i64), .one (.i .i64)] [.n, .n, .n, .n, .n, .n, .n, .n, .n, .n, .n, .n] fun d => i64 (value ⟨d.1, d.2.1, d.2.2.1, d.2.2.2.1, d.2.2.2.2.1, d.2.2.2.2.2.1, d.2.2.2.2.2.2.1, d.2.2.2.2.2.2.2.1⟩ ⟨d.2.2.2.2.2.2.2.2.1, d.2.2.2.2.2.2.2.2.2.1⟩ d.2.2.2.2.2.2.2.2.2.2.1 d.2.2.2.2.2.2.2.2.2.2.2.1)
theorem flow_ok : ConOk Try.prog E 26 cFlow := conV_ok fun d => fact_run ctK2_ok noLoops_ok (ts := [2]) rfl (h26 ⟨d.1, d.2.1⟩ d.2.2.1)
theorem flow2_ok : ConOk Try.prog E 27 cFlow := conV_ok fun d => fact_run ctK2_ok noLoops_ok (ts := [2]) rfl (h27 ⟨d.1, d.2.1⟩ d.2.2.1)
theorem gain_ok : ConOk Try.prog E 28 cGain := conV_ok fun d => fact_run ctK2_ok noLoops_ok (ts := [2]) rfl (h28 ⟨d.1, d.2.1⟩ d.2.2.1)
theorem gain2_ok : ConOk Try.prog E 29 cGain := conV_ok fun d => fact_run ctK2_ok noLoops_ok (ts := [2]) rfl (h29 ⟨d.1, d.2.1⟩ d.2.2.1)
theorem value_ok : ConOk Try.prog E 30 cValue := conV_ok fun d => fact_run ctK2_ok noLoops_ok (ts := [2]) rfl (h30 _ ⟨d.2.2.2.2.2.2.2.2.1, d.2.2.2.2.2.2.2.2.2.1⟩ d.2.2.2.2.2.2.2.2.2.2.1 d.2.2.2.2.2.2.2.2.2.2.2.1)
theorem value2_ok : ConOk Try.prog E 31 cValue := conV_ok fun d => fact_run ctK2_ok noLoops_ok (ts := [2]) rfl (h31 _ ⟨d.2.2.2.2.2.2.2.2.1, d.2.2.2.2.2.2.2.2.2.1⟩ d.2.2.2.2.2.2.2.2.2.2.1 d.2.2.2.2.2.2.2.2.2.2.2.1)
end Go.Proofs.Ytdclipcjlimdoaa.W
