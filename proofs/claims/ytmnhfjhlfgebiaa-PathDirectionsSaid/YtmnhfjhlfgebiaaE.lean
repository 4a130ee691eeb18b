/- PathDirections. No condition. -/
import Derived.Test.YtmnhfjhlfgebiaaD
import Derived.Test.YtmnhfjhlfgebiaaLPathDirections
set_option linter.unusedVariables false
set_option maxRecDepth 100000
noncomputable section
namespace Go.Proofs.Ytmnhfjhlfgebiaa.W
open Go Go.Cx Go.RowKit
theorem pathDirections_proved : Rows.PathDirectionsSaid := pathDirections_said fun a b k l _ _ _ _ => fact_run ctL_ok noLoops_ok (ts := [4]) rfl (s13 a b k l)
end Go.Proofs.Ytmnhfjhlfgebiaa.W
