/- PathKnown: what is known of more calls, by runs of their own. No condition. -/
import Derived.Test.YtnigcejokcegfaaPathKnownB3
noncomputable section
namespace Go.Proofs.Ytnigcejokcegfaa.pathKnown
open Go.ChangeShapes Go.WideShapes Go.ChangeAt Go.RowKit Go.Bx Go.Bx.Q

def big4 : Ent U := ⟨19, [.agg [.int .i64 (.ofNat 0), .int .i64 (.ofNat 0), .int .i64 (.ofNat 0), .sc 0 3 0 2 (some 2)], .sc 1 2 0 1 (some 1), .agg [.int .i64 (.ofNat 10000), .int .i64 (.ofNat 0), .int .i64 (.ofNat 0), .sc 2 3 0 1 (some 1)], .sc 3 2 0 1 (some 1)], [[.int .i64 (.ofNat 0), .int .i64 (.ofNat 0), .int .i64 (.ofNat 50000), .int .i64 (.ofNat 0), .int .i64 (.ofNat 30000), .int .i64 (.ofNat 40000)], [.int .i64 (.ofNat 1), .sc 4 3 0 2 none], [.int .i64 (.ofNat 0), .int .i64 (.ofNat 0), .int .i64 (.ofNat 100000)], [.int .i64 (.ofNat 2), .sc 5 3 0 1 none], [.int .i64 (.ofNat 100), .int .i64 (.ofNat 0), .int .i64 (.ofNat 0), .int .i64 (.ofNat 100), .int .i64 (.ofNat 0), .int .i64 (.ofNat 0)], [.int .i64 (.ofNat 100), .int .i64 (.ofNat 0), .int .i64 (.ofNat 0)]], .tup [.int .i64 (.ofNat 4000), .int .i64 (.ofNat 0)], 2176, []⟩
set_option maxRecDepth 100000 in
theorem big4_ok : DeepFact Try.prog (EP Try.prog) big4 := deep (fuel := 2000) (n := 40) names mixes dt3_ok tab_ok (by decide +kernel)
def dt4 : List (Ent U) := big4 :: dt3
theorem dt4_ok : DTabOk Try.prog (EP Try.prog) dt4 := dtab_cons big4_ok (dt3_ok)
end Go.Proofs.Ytnigcejokcegfaa.pathKnown
