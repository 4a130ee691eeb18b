/- PathKnown: what is known of more calls, by runs of their own. No condition. -/
import Derived.Test.YtnigcejokcegfaaPathKnownB2
noncomputable section
namespace Go.Proofs.Ytnigcejokcegfaa.pathKnown
open Go.ChangeShapes Go.WideShapes Go.ChangeAt Go.RowKit Go.Bx Go.Bx.Q

def big3 : Ent U := ⟨17, [.agg [.int .i64 (.ofNat 0), .int .i64 (.ofNat 0), .int .i64 (.ofNat 0), .sc 0 3 0 2 (some 2)], .sc 1 2 0 1 (some 1), .agg [.int .i64 (.ofNat 10000), .int .i64 (.ofNat 0), .int .i64 (.ofNat 0), .sc 2 3 0 1 (some 1)], .sc 3 2 0 1 (some 1), .int .i64 (.ofNat 4000)], [[.int .i64 (.ofNat 0), .int .i64 (.ofNat 0), .int .i64 (.ofNat 50000), .int .i64 (.ofNat 0), .int .i64 (.ofNat 30000), .int .i64 (.ofNat 40000)], [.int .i64 (.ofNat 1), .sc 4 3 0 2 none], [.int .i64 (.ofNat 0), .int .i64 (.ofNat 0), .int .i64 (.ofNat 100000)], [.int .i64 (.ofNat 1), .sc 5 3 0 1 none], [.int .i64 (.ofNat 100), .int .i64 (.ofNat 0), .int .i64 (.ofNat 0), .int .i64 (.ofNat 100), .int .i64 (.ofNat 0), .int .i64 (.ofNat 0)], [.int .i64 (.ofNat 100), .int .i64 (.ofNat 0), .int .i64 (.ofNat 0)]], .tup [.int .i64 (.ofNat 1), .int .i64 (.ofNat 0)], 3552, []⟩
set_option maxRecDepth 100000 in
theorem big3_ok : DeepFact Try.prog (EP Try.prog) big3 := deep (fuel := 2000) (n := 40) names mixes dt2_ok tab_ok (by decide +kernel)
def dt3 : List (Ent U) := big3 :: dt2
theorem dt3_ok : DTabOk Try.prog (EP Try.prog) dt3 := dtab_cons big3_ok (dt2_ok)
end Go.Proofs.Ytnigcejokcegfaa.pathKnown
