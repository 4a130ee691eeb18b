/- HouseWild: closed rates. No condition. -/
import Derived.Test.YtfajcbcjinabiaaWa
set_option linter.unusedVariables false
set_option maxRecDepth 100000
set_option maxHeartbeats 4000000
noncomputable section
namespace Go.Proofs.Ytfajcbcjinabiaa.W
open Go Go.Cx Go.RowKit
theorem c14_1_3 : isT (runX ctHW noLoops 5 [.int .i64 14, .int .i64 1, .int .i64 3] [4]) = true := by decide +kernel
theorem c14_2_3 : isT (runX ctHW noLoops 5 [.int .i64 14, .int .i64 2, .int .i64 3] [4]) = true := by decide +kernel
theorem c14_3_3 : isT (runX ctHW noLoops 5 [.int .i64 14, .int .i64 3, .int .i64 3] [4]) = true := by decide +kernel
theorem c14_4_3 : isT (runX ctHW noLoops 5 [.int .i64 14, .int .i64 4, .int .i64 3] [4]) = true := by decide +kernel
theorem c14_5_3 : isT (runX ctHW noLoops 5 [.int .i64 14, .int .i64 5, .int .i64 3] [4]) = true := by decide +kernel
theorem c14_6_3 : isT (runX ctHW noLoops 5 [.int .i64 14, .int .i64 6, .int .i64 3] [4]) = true := by decide +kernel
theorem c14_7_3 : isT (runX ctHW noLoops 5 [.int .i64 14, .int .i64 7, .int .i64 3] [4]) = true := by decide +kernel
theorem c14_8_3 : isT (runX ctHW noLoops 5 [.int .i64 14, .int .i64 8, .int .i64 3] [4]) = true := by decide +kernel
end Go.Proofs.Ytfajcbcjinabiaa.W
