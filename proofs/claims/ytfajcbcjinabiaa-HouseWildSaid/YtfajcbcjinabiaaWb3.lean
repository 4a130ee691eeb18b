/- HouseWild: some of the limits and times. No condition. -/
import Derived.Test.YtfajcbcjinabiaaWa
set_option linter.unusedVariables false
set_option maxRecDepth 100000
set_option maxHeartbeats 4000000
noncomputable section
namespace Go.Proofs.Ytfajcbcjinabiaa.W
open Go Go.Cx Go.RowKit
theorem w4_0 (r : Int) : (runX ctHW noLoops 5 [.int .i64 4, i64 r, .int .i64 0] [4]).holds fun v => v = .bool true := by
  have e : runX ctHW noLoops 5 [.int .i64 4, i64 r, .int .i64 0] [4] = wAll r (wTree 4 1 r []) := by kernel_rfl
  rw [e]
  exact wAll_ok (wTree_ok _ _ _ _)
theorem w7_2 (r : Int) : (runX ctHW noLoops 5 [.int .i64 7, i64 r, .int .i64 2] [4]).holds fun v => v = .bool true := by
  have e : runX ctHW noLoops 5 [.int .i64 7, i64 r, .int .i64 2] [4] = wAll r (wTree 7 3 r [(0, 0), (0, 1), (1, 0), (1, 1), (2, 0), (2, 1), (3, 0), (3, 1), (4, 0), (4, 1), (5, 0), (5, 1), (6, 0), (6, 1), (7, 0), (7, 1)]) := by kernel_rfl
  rw [e]
  exact wAll_ok (wTree_ok _ _ _ _)
theorem w10_0 (r : Int) : (runX ctHW noLoops 5 [.int .i64 10, i64 r, .int .i64 0] [4]).holds fun v => v = .bool true := by
  have e : runX ctHW noLoops 5 [.int .i64 10, i64 r, .int .i64 0] [4] = wAll r (wTree 10 1 r []) := by kernel_rfl
  rw [e]
  exact wAll_ok (wTree_ok _ _ _ _)
theorem w14_0 (r : Int) : (runX ctHW noLoops 5 [.int .i64 14, i64 r, .int .i64 0] [4]).holds fun v => v = .bool true := by
  have e : runX ctHW noLoops 5 [.int .i64 14, i64 r, .int .i64 0] [4] = wAll r (wTree 14 1 r []) := by kernel_rfl
  rw [e]
  exact wAll_ok (wTree_ok _ _ _ _)
theorem w15_2 (r : Int) : (runX ctHW noLoops 5 [.int .i64 15, i64 r, .int .i64 2] [4]).holds fun v => v = .bool true := by
  have e : runX ctHW noLoops 5 [.int .i64 15, i64 r, .int .i64 2] [4] = wAll r (wTree 15 3 r [(0, 0), (0, 1), (1, 0), (1, 1), (2, 0), (2, 1), (3, 0), (3, 1), (4, 0), (4, 1), (5, 0), (5, 1), (6, 0), (6, 1), (7, 0), (7, 1), (8, 0), (8, 1), (9, 0), (9, 1), (10, 0), (10, 1), (11, 0), (11, 1), (12, 0), (12, 1), (13, 0), (13, 1), (14, 0), (14, 1), (15, 0), (15, 1)]) := by kernel_rfl
  rw [e]
  exact wAll_ok (wTree_ok _ _ _ _)
end Go.Proofs.Ytfajcbcjinabiaa.W
