/- CasingLoads: whatever the load, the depths and the numbers, both answers are the same. No condition. -/
import Derived.Test.YtcddppakogialaaW3
import Derived.Test.YtcddppakogialaaW
import Derived.Test.YtcddppakogialaaLCasingLoads
set_option linter.unusedVariables false
set_option maxRecDepth 100000
noncomputable section
namespace Go.Proofs.Ytcddppakogialaa.W
open Go Go.Cx Go.RowKit
noncomputable abbrev ctE1 : CTab T := (18, cAwake) :: (26, cIn) :: (27, cIn) :: (28, cOut) :: (29, cOut) :: (30, cNeed) :: (31, cNeed) :: ctX
theorem ctE1_ok : CTabOk Try.prog E ctE1 := .cons awake_ok (.cons in_ok (.cons in2_ok (.cons out_ok (.cons out2_ok (.cons need_ok (.cons need2_ok ctX_ok))))))
theorem t4 (l : Stress) (x y q f : Int) : runX ctE1 noLoops 4 [l.av, i64 x, i64 y, i64 q, i64 f] [4] =
  (.br (decide ((↑(List.length (Line.Knots (Stress.In l))) : Int) ≤ (26 : Int)))
   (.br (!decide ((↑(List.length (Line.Knots (Stress.Out l))) : Int) ≤ (26 : Int)))
    (.leaf (.bool (true)))
    (.br (exc (Line.Knots (Stress.In l)) (Line.Knots (Stress.Out l)) x y == exc (Line.Knots (Stress.In l)) (Line.Knots (Stress.Out l)) x y)
     (.br (exc (Line.Knots (Stress.Out l)) (Line.Knots (Stress.In l)) x y == exc (Line.Knots (Stress.Out l)) (Line.Knots (Stress.In l)) x y)
      (.br (need q f == need q f)
       (.leaf (.bool (true)))
       (.leaf (.bool (false))))
      (.leaf (.bool (false))))
     (.leaf (.bool (false)))))
   (.leaf (.bool (true)))) := by kernel_rfl
theorem casingLoads_proved : Rows.CasingLoadsSaid := casingLoads_said fun l x y q f _ _ _ _ _ => fact_run ctE1_ok noLoops_ok (ts := [4]) rfl (by
  rw [t4]
  exact way (fun _ => wayN (fun _ => rfl) fun _ => wayEq (fun _ => wayEq (fun _ => wayEq (fun _ => rfl) fun k => absurd rfl k) fun k => absurd rfl k) fun k => absurd rfl k) fun _ => rfl)
end Go.Proofs.Ytcddppakogialaa.W
