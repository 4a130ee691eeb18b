/- KillKnown: what is known of more calls, by runs of their own. No condition. -/
import Derived.Test.YtiplmoodkaejnaaKillKnownA
noncomputable section
namespace Go.Proofs.Ytiplmoodkaejnaa.killKnown
open Go.ChangeShapes Go.WideShapes Go.ChangeAt Go.RowKit Go.Bx Go.Bx.Q

def ka0 : Ent U := ⟨8, [.agg [.sc 0 4 0 1 (some 1), .int .i64 (.ofNat 12000), .sc 1 2 0 1 (some 1), .int .i64 (.ofNat 500000000), .int .i64 (.ofNat 1000000), .int .i64 (.ofNat 1000000)]], [[.int .i64 (.ofNat 100000), .int .i64 (.ofNat 100000), .int .i64 (.ofNat 100), .int .i64 (.ofNat 50)], [.int .i64 (.ofNat 2000000), .int .i64 (.ofNat 1200000000)]], .int .i64 (.ofNat 0), 13, []⟩
set_option maxRecDepth 100000 in
theorem ka0_ok : DeepFact Try.prog (EP Try.prog) ka0 := deep (fuel := 2000) (n := 40) names mixes dt0_ok tab_ok (by decide +kernel)
def ka1 : Ent U := ⟨9, [.agg [.int .i64 (.ofNat 1), .int .i64 (.ofNat 13000), .int .i64 (.ofNat 10000000), .int .i64 (.ofNat 0)]], [], .int .i64 (.ofNat 0), 1, []⟩
set_option maxRecDepth 100000 in
theorem ka1_ok : DeepFact Try.prog (EP Try.prog) ka1 := deep (fuel := 2000) (n := 40) names mixes dt0_ok tab_ok (by decide +kernel)
def ka2 : Ent U := ⟨10, [.agg [.int .i64 (.ofNat 1000000), .int .i64 (.ofNat 1250000000)]], [], .int .i64 (.ofNat 0), 1, []⟩
set_option maxRecDepth 100000 in
theorem ka2_ok : DeepFact Try.prog (EP Try.prog) ka2 := deep (fuel := 2000) (n := 40) names mixes dt0_ok tab_ok (by decide +kernel)
def ka3 : Ent U := ⟨25, [.agg [.sc 0 4 0 1 (some 1)]], [[.int .i64 (.ofNat 100000), .int .i64 (.ofNat 100000), .int .i64 (.ofNat 100), .int .i64 (.ofNat 50)]], .agg [.sc 15 2 0 2 none], 15, [(14, [.int .i64 (.ofNat 0), .int .i64 (.ofNat 0), .int .i64 (.ofNat 10000000), .int .i64 (.ofNat 100000)])]⟩
set_option maxRecDepth 100000 in
theorem ka3_ok : DeepFact Try.prog (EP Try.prog) ka3 := deep (fuel := 2000) (n := 40) names mixes dt0_ok tab_ok (by decide +kernel)
def ka4 : Ent U := ⟨8, [.agg [.sc 0 4 0 1 (some 1), .int .i64 (.ofNat 12000), .sc 1 2 0 1 (some 1), .int .i64 (.ofNat 179051999), .int .i64 (.ofNat 1000000), .int .i64 (.ofNat 1000000)]], [[.int .i64 (.ofNat 100000), .int .i64 (.ofNat 100000), .int .i64 (.ofNat 100), .int .i64 (.ofNat 50)], [.int .i64 (.ofNat 2000000), .int .i64 (.ofNat 1200000000)]], .int .i64 (.ofNat 0), 13, []⟩
set_option maxRecDepth 100000 in
theorem ka4_ok : DeepFact Try.prog (EP Try.prog) ka4 := deep (fuel := 2000) (n := 40) names mixes dt0_ok tab_ok (by decide +kernel)
def ka5 : Ent U := ⟨8, [.agg [.sc 0 4 0 1 (some 1), .int .i64 (.ofNat 12000), .sc 1 2 0 1 (some 1), .int .i64 (.ofNat 500000000), .int .i64 (.ofNat 1000000), .int .i64 (.ofNat 1000000)]], [[.int .i64 (.ofNat 100000), .int .i64 (.ofNat 100000), .int .i64 (.ofNat 100), .int .i64 (.ofNat 50)], [.int .i64 (.ofNat 2000000), .int .i64 (.ofNat 1130000000)]], .int .i64 (.ofNat 0), 13, []⟩
set_option maxRecDepth 100000 in
theorem ka5_ok : DeepFact Try.prog (EP Try.prog) ka5 := deep (fuel := 2000) (n := 40) names mixes dt0_ok tab_ok (by decide +kernel)
def dt1 : List (Ent U) := ka0 :: ka1 :: ka2 :: ka3 :: ka4 :: ka5 :: dt0
theorem dt1_ok : DTabOk Try.prog (EP Try.prog) dt1 := dtab_cons ka0_ok (dtab_cons ka1_ok (dtab_cons ka2_ok (dtab_cons ka3_ok (dtab_cons ka4_ok (dtab_cons ka5_ok (dt0_ok))))))
end Go.Proofs.Ytiplmoodkaejnaa.killKnown
