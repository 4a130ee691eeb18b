/- FluidGas: whatever the gas and the pressure, what is free, its space and its bubble point are the same. No condition. -/
import Derived.Test.YtnhedcaphncliaaF
set_option linter.unusedVariables false
set_option maxRecDepth 100000
noncomputable section
namespace Go.Proofs.Ytnhedcaphncliaa.W
open Go Go.Cx Go.RowKit
theorem t8 (x : Gas) (p : Int) : runX ctH noLoops 8 [x.av, i64 p] [4] =
  (.br (free (Gas.mk (Gas.K x) (Gas.Power x)) p == free (Gas.mk (Gas.K x) (Gas.Power x)) p)
   (.br (((if (1 : Int) ≤ p ∧ p ≤ (68719476736 : Int) then free (Gas.mk (Gas.K x) (Gas.Power x)) p / p else (0 : Int)) == if (1 : Int) ≤ p ∧ p ≤ (68719476736 : Int) then free (Gas.mk (Gas.K x) (Gas.Power x)) p / p else (0 : Int)) && (((if (1 : Int) ≤ p ∧ p ≤ (68719476736 : Int) then -(-free (Gas.mk (Gas.K x) (Gas.Power x)) p / p) else (0 : Int)) == if (1 : Int) ≤ p ∧ p ≤ (68719476736 : Int) then -(-free (Gas.mk (Gas.K x) (Gas.Power x)) p / p) else (0 : Int)) && true))
    (.br (bubV (Gas.mk (Gas.K x) (Gas.Power x)) == bubV (Gas.mk (Gas.K x) (Gas.Power x)))
     (.br (decide (hasB (Gas.mk (Gas.K x) (Gas.Power x))) == decide (hasB (Gas.mk (Gas.K x) (Gas.Power x))))
      (.leaf (.bool (true)))
      (.leaf (.bool (false))))
     (.leaf (.bool (false))))
    (.leaf (.bool (false))))
   (.leaf (.bool (false)))) := by kernel_rfl
theorem fluidGas_proved : Rows.FluidGasSaid := fluidGas_said fun x p _ _ => fact_run ctH_ok noLoops_ok (ts := [4]) rfl (by
  rw [t8]
  exact wayEq (fun _ => wayB (fun _ => wayEq (fun _ => wayB (fun _ => rfl) fun h => by simp at h) fun h => absurd rfl h) fun h => by simp at h) fun h => absurd rfl h)
end Go.Proofs.Ytnhedcaphncliaa.W
