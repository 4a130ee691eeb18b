/- PathKnown: what is known of more calls, by runs of their own. No condition. -/
import Derived.Test.YtnigcejokcegfaaPathKnownB4
noncomputable section
namespace Go.Proofs.Ytnigcejokcegfaa.pathKnown
open Go.ChangeShapes Go.WideShapes Go.ChangeAt Go.RowKit Go.Bx Go.Bx.Q

def big8 : Ent U := ⟨20, [.agg [.int .i64 (.ofNat 0), .int .i64 (.ofNat 0), .int .i64 (.ofNat 0)], .agg [.int .i64 (.ofNat 0), .int .i64 (.ofNat 0), .int .i64 (.ofNat 1)], .agg [.sc 0 3 0 2 (some 2), .int .i64 (.ofNat 8), .int .i64 (.ofNat 3), .int .i64 (.ofNat 1), .int .i64 (.ofNat 5), .int .i64 (.ofNat 0), .int .i64 (.ofNat 1800), .int .i64 (.ofNat 4400), .int .i64 (.ofNat 0), .int .i64 (.ofNat 1800), .int .i64 (.ofNat 4400)]], [[.int .i64 (.ofNat 0), .int .i64 (.ofNat 0), .int .i64 (.ofNat 1000), .int .i64 (.ofNat 0), .int .i64 (.ofNat 600), .int .i64 (.ofNat 800)]], .tup [.agg [.int .i64 (.ofNat 0), .int .i64 (.ofNat 0), .int .i64 (.ofNat 0), .sc 943 3 0 2 none], .int .i64 (.ofNat 0)], 2899, [(942, [.int .i64 (.ofNat 0), .int .i64 (.ofNat 0), .int .i64 (.ofNat 2000), .int .i64 (.ofNat 0), .int .i64 (.ofNat 1800), .int .i64 (.ofNat 2400)])]⟩
set_option maxRecDepth 100000 in
theorem big8_ok : DeepFact Try.prog (EP Try.prog) big8 := deep (fuel := 2000) (n := 40) names mixes dt4_ok tab_ok (by decide +kernel)
def dt5 : List (Ent U) := big8 :: dt4
theorem dt5_ok : DTabOk Try.prog (EP Try.prog) dt5 := dtab_cons big8_ok (dt4_ok)
end Go.Proofs.Ytnigcejokcegfaa.pathKnown
