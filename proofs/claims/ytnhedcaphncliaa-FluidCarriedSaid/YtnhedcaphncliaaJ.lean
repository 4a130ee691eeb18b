/- FluidCarried. No condition. -/
import Derived.Test.YtnhedcaphncliaaI
import Derived.Test.YtnhedcaphncliaaLFluidCarried
set_option linter.unusedVariables false
set_option maxRecDepth 100000
noncomputable section
namespace Go.Proofs.Ytnhedcaphncliaa.W
open Go Go.Cx Go.RowKit
theorem fluidCarried_proved : Rows.FluidCarriedSaid := fluidCarried_said fun l a b c d e f _ _ _ _ _ _ _ => fact_run ctQ_ok noLoops_ok (ts := [4]) rfl (s18 l a b c d e f)
end Go.Proofs.Ytnhedcaphncliaa.W
