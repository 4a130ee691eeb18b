/- KickChecks: whatever the kick, the set, the sensor, the list and the numbers, both checks answer the same, and so do flows, gains and values. -/
import Derived.Test.YtdclipcjlimdoaaI
import Derived.Test.YtdclipcjlimdoaaW
import Derived.Test.YtdclipcjlimdoaaLKickChecks
set_option linter.unusedVariables false
set_option maxRecDepth 100000
noncomputable section
namespace Go.Proofs.Ytdclipcjlimdoaa.W
open Go Go.Cx Go.RowKit
noncomputable abbrev ctC : CTab T := [(17, cAwake), (18, cKick), (19, cKick), (20, cKicks), (21, cKicks), (22, cSensor), (23, cSensor), (24, cSensors), (25, cSensors), (26, cFlow), (27, cFlow), (28, cGain), (29, cGain), (30, cValue), (31, cValue)]
theorem ctC_ok : CTabOk Try.prog E ctC := .cons awake_ok (.cons kick_ok (.cons kick2_ok (.cons kicks_ok (.cons kicks2_ok (.cons sensor_ok (.cons sensor2_ok (.cons sensors_ok (.cons sensors2_ok
  (.cons flow_ok (.cons flow2_ok (.cons gain_ok (.cons gain2_ok (.cons value_ok (.cons value2_ok .nil))))))))))))))
theorem t3 (k : Kick) (x : Kicks) (s : Sensor) (l : List Sensor) (n e : Int) : runX ctC noLoops 3 [k.av, x.av, s.av, .sl 29 l false, i64 n, i64 e] [4] =
  (.br (decide ((↑(List.length l) : Int) > (6 : Int)))
   (.leaf (.bool (true)))
   (.br (kErr (Kick.mk (Kick.Rate k) (Kick.Grow k)) != kErr (Kick.mk (Kick.Rate k) (Kick.Grow k)))
    (.leaf (.bool (false)))
    (.br (ksErr (Kicks.mk (Range.mk (Range.Lo (Kicks.Rate x)) (Range.Hi (Kicks.Rate x))) (Range.mk (Range.Lo (Kicks.Grow x)) (Range.Hi (Kicks.Grow x)))) != ksErr (Kicks.mk (Range.mk (Range.Lo (Kicks.Rate x)) (Range.Hi (Kicks.Rate x))) (Range.mk (Range.Lo (Kicks.Grow x)) (Range.Hi (Kicks.Grow x)))))
     (.leaf (.bool (false)))
     (.br (sErr (sens (Sensor.Channel s, Sensor.Period s, Sensor.Delay s, Sensor.Noise s, Sensor.Step s, Sensor.Lost s, Sensor.Limit s, Sensor.Hold s, ())) != sErr (sens (Sensor.Channel s, Sensor.Period s, Sensor.Delay s, Sensor.Noise s, Sensor.Step s, Sensor.Lost s, Sensor.Limit s, Sensor.Hold s, ())))
      (.leaf (.bool (false)))
      (.br (slErr l != slErr l)
       (.leaf (.bool (false)))
       (.br (flow (Kick.mk (Kick.Rate k) (Kick.Grow k)) n == flow (Kick.mk (Kick.Rate k) (Kick.Grow k)) n)
        (.br (gain (Kick.mk (Kick.Rate k) (Kick.Grow k)) n == gain (Kick.mk (Kick.Rate k) (Kick.Grow k)) n)
         (.br (value (Sensor.mk (Sensor.Channel s) (Sensor.Period s) (Sensor.Delay s) (Sensor.Noise s) (Sensor.Step s) (Sensor.Lost s) (Sensor.Limit s) (Sensor.Hold s)) (Kick.mk (Kick.Rate k) (Kick.Grow k)) n e == value (Sensor.mk (Sensor.Channel s) (Sensor.Period s) (Sensor.Delay s) (Sensor.Noise s) (Sensor.Step s) (Sensor.Lost s) (Sensor.Limit s) (Sensor.Hold s)) (Kick.mk (Kick.Rate k) (Kick.Grow k)) n e)
          (.leaf (.bool (true)))
          (.leaf (.bool (false))))
         (.leaf (.bool (false))))
        (.leaf (.bool (false))))))))) := by kernel_rfl
theorem kickChecks_proved : Rows.KickChecksSaid := kickChecks_said fun k x s l n e _ _ _ _ _ _ => fact_run ctC_ok noLoops_ok (ts := [4]) rfl (by
  rw [t3]
  refine way (fun _ => rfl) fun _ => wayNe (fun h => absurd rfl h) fun _ => wayNe (fun h => absurd rfl h) fun _ => wayNe (fun h => absurd rfl h) fun _ => wayNe (fun h => absurd rfl h) fun _ => 
    wayEq (fun _ => wayEq (fun _ => wayEq (fun _ => rfl) fun h => absurd rfl h) fun h => absurd rfl h) fun h => absurd rfl h)
end Go.Proofs.Ytdclipcjlimdoaa.W
