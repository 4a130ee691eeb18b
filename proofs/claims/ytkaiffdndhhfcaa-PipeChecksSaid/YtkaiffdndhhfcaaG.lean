/- PipeChecks. No condition. -/
import Derived.Test.YtkaiffdndhhfcaaF
import Derived.Test.YtkaiffdndhhfcaaLPipeChecks
set_option linter.unusedVariables false
set_option maxRecDepth 100000
noncomputable section
namespace Go.Proofs.Ytkaiffdndhhfcaa.W
open Go Go.Cx Go.RowKit
theorem pipeChecks_proved : Rows.PipeChecksSaid := pipeChecks_said fun s t m x y _ _ _ _ _ => fact_run ctU_ok noLoops_ok (ts := [4]) rfl (s3 s.Tubes t m x y)
end Go.Proofs.Ytkaiffdndhhfcaa.W
