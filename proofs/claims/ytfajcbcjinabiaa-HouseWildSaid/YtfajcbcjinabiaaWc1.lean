/- HouseWild: closed rates. No condition. -/
import Derived.Test.YtfajcbcjinabiaaWa
set_option linter.unusedVariables false
set_option maxRecDepth 100000
set_option maxHeartbeats 4000000
noncomputable section
namespace Go.Proofs.Ytfajcbcjinabiaa.W
open Go Go.Cx Go.RowKit
theorem c14_9_3 : isT (runX ctHW noLoops 5 [.int .i64 14, .int .i64 9, .int .i64 3] [4]) = true := by decide +kernel
theorem c14_10_3 : isT (runX ctHW noLoops 5 [.int .i64 14, .int .i64 10, .int .i64 3] [4]) = true := by decide +kernel
theorem c14_11_3 : isT (runX ctHW noLoops 5 [.int .i64 14, .int .i64 11, .int .i64 3] [4]) = true := by decide +kernel
theorem c14_12_3 : isT (runX ctHW noLoops 5 [.int .i64 14, .int .i64 12, .int .i64 3] [4]) = true := by decide +kernel
theorem c14_13_3 : isT (runX ctHW noLoops 5 [.int .i64 14, .int .i64 13, .int .i64 3] [4]) = true := by decide +kernel
theorem c14_14_3 : isT (runX ctHW noLoops 5 [.int .i64 14, .int .i64 14, .int .i64 3] [4]) = true := by decide +kernel
theorem c14_15_3 : isT (runX ctHW noLoops 5 [.int .i64 14, .int .i64 15, .int .i64 3] [4]) = true := by decide +kernel
theorem c15_1_3 : isT (runX ctHW noLoops 5 [.int .i64 15, .int .i64 1, .int .i64 3] [4]) = true := by decide +kernel
end Go.Proofs.Ytfajcbcjinabiaa.W
