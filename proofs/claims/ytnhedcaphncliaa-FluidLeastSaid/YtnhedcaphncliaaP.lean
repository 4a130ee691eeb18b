/- FluidLeast. No condition. -/
import Derived.Test.YtnhedcaphncliaaN
import Derived.Test.YtnhedcaphncliaaLFluidLeast
set_option linter.unusedVariables false
set_option maxRecDepth 100000
noncomputable section
namespace Go.Proofs.Ytnhedcaphncliaa.W
open Go Go.Cx Go.RowKit
theorem fluidLeast_proved : Rows.FluidLeastSaid := fluidLeast_said fun l x q m _ _ _ _ => fact_run ctL_ok noLoops_ok (ts := [4]) rfl (s15 l x.Yield x.Visc q m)
end Go.Proofs.Ytnhedcaphncliaa.W
