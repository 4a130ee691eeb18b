/- HouseWild: some of the limits and times. No condition. -/
import Derived.Test.YtfajcbcjinabiaaWa
set_option linter.unusedVariables false
set_option maxRecDepth 100000
set_option maxHeartbeats 4000000
noncomputable section
namespace Go.Proofs.Ytfajcbcjinabiaa.W
open Go Go.Cx Go.RowKit
theorem w1_2 (r : Int) : (runX ctHW noLoops 5 [.int .i64 1, i64 r, .int .i64 2] [4]).holds fun v => v = .bool true := by
  have e : runX ctHW noLoops 5 [.int .i64 1, i64 r, .int .i64 2] [4] = wAll r (wTree 1 3 r [(0, 0), (0, 1), (1, 0), (1, 1)]) := by kernel_rfl
  rw [e]
  exact wAll_ok (wTree_ok _ _ _ _)
theorem w8_2 (r : Int) : (runX ctHW noLoops 5 [.int .i64 8, i64 r, .int .i64 2] [4]).holds fun v => v = .bool true := by
  have e : runX ctHW noLoops 5 [.int .i64 8, i64 r, .int .i64 2] [4] = wAll r (wTree 8 3 r [(0, 0), (0, 1), (1, 0), (1, 1), (2, 0), (2, 1), (3, 0), (3, 1), (4, 0), (4, 1), (5, 0), (5, 1), (6, 0), (6, 1), (7, 0), (7, 1), (8, 0), (8, 1)]) := by kernel_rfl
  rw [e]
  exact wAll_ok (wTree_ok _ _ _ _)
theorem w9_0 (r : Int) : (runX ctHW noLoops 5 [.int .i64 9, i64 r, .int .i64 0] [4]).holds fun v => v = .bool true := by
  have e : runX ctHW noLoops 5 [.int .i64 9, i64 r, .int .i64 0] [4] = wAll r (wTree 9 1 r []) := by kernel_rfl
  rw [e]
  exact wAll_ok (wTree_ok _ _ _ _)
theorem w10_3 (r : Int) : (runX ctHW noLoops 5 [.int .i64 10, i64 r, .int .i64 3] [4]).holds fun v => v = .bool true := by
  have e : runX ctHW noLoops 5 [.int .i64 10, i64 r, .int .i64 3] [4] = wAll r (wTree 10 4 r [(0, 0), (0, 1), (0, 2), (1, 0), (1, 1), (1, 2), (2, 0), (2, 1), (2, 2), (3, 0), (3, 1), (3, 2), (4, 0), (4, 1), (4, 2), (5, 0), (5, 1), (5, 2), (6, 0), (6, 1), (6, 2), (7, 0), (7, 1), (7, 2), (8, 0), (8, 1), (8, 2), (9, 0), (9, 1), (9, 2), (10, 0), (10, 1), (10, 2)]) := by kernel_rfl
  rw [e]
  exact wAll_ok (wTree_ok _ _ _ _)
theorem w15_0 (r : Int) : (runX ctHW noLoops 5 [.int .i64 15, i64 r, .int .i64 0] [4]).holds fun v => v = .bool true := by
  have e : runX ctHW noLoops 5 [.int .i64 15, i64 r, .int .i64 0] [4] = wAll r (wTree 15 1 r []) := by kernel_rfl
  rw [e]
  exact wAll_ok (wTree_ok _ _ _ _)
end Go.Proofs.Ytfajcbcjinabiaa.W
