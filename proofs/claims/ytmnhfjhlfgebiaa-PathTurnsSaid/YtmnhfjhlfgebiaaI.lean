/- PathTurns. No condition. -/
import Derived.Test.YtmnhfjhlfgebiaaH
import Derived.Test.YtmnhfjhlfgebiaaLPathTurns
set_option linter.unusedVariables false
set_option maxRecDepth 100000
noncomputable section
namespace Go.Proofs.Ytmnhfjhlfgebiaa.W
open Go Go.Cx Go.RowKit
theorem pathTurns_proved : Rows.PathTurnsSaid := pathTurns_said fun n v w p _ _ _ _ => fact_run ctU_ok noLoops_ok (ts := [4]) rfl (s5 n v.X v.Y v.Z w.X w.Y w.Z p.From.X p.From.Y p.From.Z p.Legs)
end Go.Proofs.Ytmnhfjhlfgebiaa.W
