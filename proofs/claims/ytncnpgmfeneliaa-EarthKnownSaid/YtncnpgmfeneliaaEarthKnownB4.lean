/- EarthKnown: what is known of more calls, by runs of their own. No condition. -/
import Derived.Test.YtncnpgmfeneliaaEarthKnownB3
noncomputable section
namespace Go.Proofs.Ytncnpgmfeneliaa.earthKnown
open Go.ChangeShapes Go.WideShapes Go.ChangeAt Go.RowKit Go.Bx Go.Bx.Q

def en5 : Ent U := ⟨15, [.agg [.int .i64 (.ofNat 100000), .sc 0 2 0 2 none, .sc 1 2 0 2 none, .sc 2 2 0 2 none, .sc 3 2 0 2 none, .int .i64 (.ofNat 0), .int .i64 (.ofNat 30000), .sc 4 3 0 2 (some 2)]], [[.int .i64 (.ofNat 0), .int .i64 (.ofNat 0), .int .i64 (.ofNat 100000), .int .i64 (.ofNat 900000000)], [.int .i64 (.ofNat 0), .int .i64 (.ofNat 0), .int .i64 (.ofNat 100000), .int .i64 (.ofNat 1200000000)], [.int .i64 (.ofNat 0), .int .i64 (.ofNat 0), .int .i64 (.ofNat 100000), .int .i64 (.ofNat 1500000000)], [.int .i64 (.ofNat 0), .int .i64 (.ofNat 0), .int .i64 (.ofNat 100000), .int .i64 (.ofNat 2000000000)], [.int .i64 (.ofNat 1), .int .i64 (.ofNat 50000), .int .i64 (.ofNat 590000000), .int .i64 (.ofNat 2), .int .i64 (.ofNat 60000), .int .i64 (.ofNat 550000000)]], .sc 1505 1 0 1 none, 1501, [(1500, [.sc 1224 1 0 2 (some 2)]), (1219, [.int .i64 (.ofNat 0), .int .i64 (.ofNat 1)])]⟩
set_option maxRecDepth 100000 in
theorem en5_ok : DeepFact Try.prog (EP Try.prog) en5 := deep (fuel := 2000) (n := 40) names mixes dt3_ok tab_ok (by decide +kernel)
def dt4 : List (Ent U) := en5 :: dt3
theorem dt4_ok : DTabOk Try.prog (EP Try.prog) dt4 := dtab_cons en5_ok (dt3_ok)
end Go.Proofs.Ytncnpgmfeneliaa.earthKnown
