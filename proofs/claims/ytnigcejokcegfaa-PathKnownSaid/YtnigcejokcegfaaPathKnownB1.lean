/- PathKnown: what is known of more calls, by runs of their own. No condition. -/
import Derived.Test.YtnigcejokcegfaaPathKnownA
noncomputable section
namespace Go.Proofs.Ytnigcejokcegfaa.pathKnown
open Go.ChangeShapes Go.WideShapes Go.ChangeAt Go.RowKit Go.Bx Go.Bx.Q

def src0 : Ent U := ⟨15, [.int .i64 (.ofNat 1), .int .i64 (.ofNat 2)], [], .sc 6 2 0 1 (some 1), 7, [(6, [.int .i64 (.ofNat 1), .sc 5 3 0 2 none]), (5, [.int .i64 (.ofNat 100), .int .i64 (.ofNat 0), .int .i64 (.ofNat 0), .int .i64 (.ofNat 100), .int .i64 (.ofNat 0), .int .i64 (.ofNat 0)])]⟩
set_option maxRecDepth 100000 in
theorem src0_ok : DeepFact Try.prog (EP Try.prog) src0 := deep (fuel := 2000) (n := 40) names mixes dt0_ok tab_ok (by decide +kernel)
def src1 : Ent U := ⟨15, [.int .i64 (.ofNat 1), .int .i64 (.ofNat 1)], [], .sc 4 2 0 1 (some 1), 5, [(4, [.int .i64 (.ofNat 1), .sc 3 3 0 1 none]), (3, [.int .i64 (.ofNat 100), .int .i64 (.ofNat 0), .int .i64 (.ofNat 0)])]⟩
set_option maxRecDepth 100000 in
theorem src1_ok : DeepFact Try.prog (EP Try.prog) src1 := deep (fuel := 2000) (n := 40) names mixes dt0_ok tab_ok (by decide +kernel)
def src2 : Ent U := ⟨15, [.int .i64 (.ofNat 2), .int .i64 (.ofNat 1)], [], .sc 4 2 0 1 (some 1), 5, [(4, [.int .i64 (.ofNat 2), .sc 3 3 0 1 none]), (3, [.int .i64 (.ofNat 100), .int .i64 (.ofNat 0), .int .i64 (.ofNat 0)])]⟩
set_option maxRecDepth 100000 in
theorem src2_ok : DeepFact Try.prog (EP Try.prog) src2 := deep (fuel := 2000) (n := 40) names mixes dt0_ok tab_ok (by decide +kernel)
def chk0 : Ent U := ⟨10, [.agg [.int .i64 (.ofNat 0), .int .i64 (.ofNat 0), .int .i64 (.ofNat 0), .sc 0 3 0 2 (some 2)], .int .i64 (.ofNat 75001)], [[.int .i64 (.ofNat 0), .int .i64 (.ofNat 0), .int .i64 (.ofNat 50000), .int .i64 (.ofNat 0), .int .i64 (.ofNat 30000), .int .i64 (.ofNat 40000)]], .tup [.agg [.int .i64 (.ofNat 0), .int .i64 (.ofNat 15000), .int .i64 (.ofNat 70000)], .lit true], 102, []⟩
set_option maxRecDepth 100000 in
theorem chk0_ok : DeepFact Try.prog (EP Try.prog) chk0 := deep (fuel := 2000) (n := 40) names mixes dt0_ok tab_ok (by decide +kernel)
def chk1 : Ent U := ⟨11, [.agg [.int .i64 (.ofNat 0), .int .i64 (.ofNat 0), .int .i64 (.ofNat 0), .sc 0 3 0 2 (some 2)]], [[.int .i64 (.ofNat 0), .int .i64 (.ofNat 0), .int .i64 (.ofNat 50000), .int .i64 (.ofNat 0), .int .i64 (.ofNat 30000), .int .i64 (.ofNat 40000)]], .int .i64 (.ofNat 0), 26, []⟩
set_option maxRecDepth 100000 in
theorem chk1_ok : DeepFact Try.prog (EP Try.prog) chk1 := deep (fuel := 2000) (n := 40) names mixes dt0_ok tab_ok (by decide +kernel)
def chk2 : Ent U := ⟨5, [.agg [.int .i64 (.ofNat 0), .int .i64 (.ofNat 0), .int .i64 (.ofNat 0), .sc 0 3 0 2 (some 2)]], [[.int .i64 (.ofNat 0), .int .i64 (.ofNat 0), .int .i64 (.ofNat 50000), .int .i64 (.ofNat 0), .int .i64 (.ofNat 30000), .int .i64 (.ofNat 40000)]], .sc 50 3 0 3 none, 50, [(49, [.int .i64 (.ofNat 0), .int .i64 (.ofNat 0), .int .i64 (.ofNat 0), .int .i64 (.ofNat 0), .int .i64 (.ofNat 0), .int .i64 (.ofNat 50000), .int .i64 (.ofNat 0), .int .i64 (.ofNat 30000), .int .i64 (.ofNat 90000)])]⟩
set_option maxRecDepth 100000 in
theorem chk2_ok : DeepFact Try.prog (EP Try.prog) chk2 := deep (fuel := 2000) (n := 40) names mixes dt0_ok tab_ok (by decide +kernel)
def chk3 : Ent U := ⟨7, [.agg [.int .i64 (.ofNat 0), .int .i64 (.ofNat 0), .int .i64 (.ofNat 0), .sc 0 3 0 2 (some 2)]], [[.int .i64 (.ofNat 0), .int .i64 (.ofNat 0), .int .i64 (.ofNat 50000), .int .i64 (.ofNat 0), .int .i64 (.ofNat 30000), .int .i64 (.ofNat 40000)]], .agg [.sc 51 2 0 3 none], 51, [(50, [.int .i64 (.ofNat 0), .int .i64 (.ofNat 0), .int .i64 (.ofNat 50000), .int .i64 (.ofNat 50000), .int .i64 (.ofNat 100000), .int .i64 (.ofNat 90000)])]⟩
set_option maxRecDepth 100000 in
theorem chk3_ok : DeepFact Try.prog (EP Try.prog) chk3 := deep (fuel := 2000) (n := 40) names mixes dt0_ok tab_ok (by decide +kernel)
def chk4 : Ent U := ⟨10, [.agg [.int .i64 (.ofNat 0), .int .i64 (.ofNat 0), .int .i64 (.ofNat 0), .sc 0 3 0 2 (some 2)], .int .i64 (.ofNat 50000)], [[.int .i64 (.ofNat 0), .int .i64 (.ofNat 0), .int .i64 (.ofNat 50000), .int .i64 (.ofNat 0), .int .i64 (.ofNat 30000), .int .i64 (.ofNat 40000)]], .tup [.agg [.int .i64 (.ofNat 0), .int .i64 (.ofNat 0), .int .i64 (.ofNat 50000)], .lit true], 102, []⟩
set_option maxRecDepth 100000 in
theorem chk4_ok : DeepFact Try.prog (EP Try.prog) chk4 := deep (fuel := 2000) (n := 40) names mixes dt0_ok tab_ok (by decide +kernel)
def chk5 : Ent U := ⟨10, [.agg [.int .i64 (.ofNat 0), .int .i64 (.ofNat 0), .int .i64 (.ofNat 0), .sc 0 3 0 2 (some 2)], .int .i64 (.ofNat 75000)], [[.int .i64 (.ofNat 0), .int .i64 (.ofNat 0), .int .i64 (.ofNat 50000), .int .i64 (.ofNat 0), .int .i64 (.ofNat 30000), .int .i64 (.ofNat 40000)]], .tup [.agg [.int .i64 (.ofNat 0), .int .i64 (.ofNat 15000), .int .i64 (.ofNat 70000)], .lit true], 102, []⟩
set_option maxRecDepth 100000 in
theorem chk5_ok : DeepFact Try.prog (EP Try.prog) chk5 := deep (fuel := 2000) (n := 40) names mixes dt0_ok tab_ok (by decide +kernel)
def chk6 : Ent U := ⟨10, [.agg [.int .i64 (.ofNat 0), .int .i64 (.ofNat 0), .int .i64 (.ofNat 0), .sc 0 3 0 2 (some 2)], .int .i64 (.ofNat 100001)], [[.int .i64 (.ofNat 0), .int .i64 (.ofNat 0), .int .i64 (.ofNat 50000), .int .i64 (.ofNat 0), .int .i64 (.ofNat 30000), .int .i64 (.ofNat 40000)]], .tup [.agg [.int .i64 (.ofNat 0), .int .i64 (.ofNat 0), .int .i64 (.ofNat 0)], .lit false], 46, []⟩
set_option maxRecDepth 100000 in
theorem chk6_ok : DeepFact Try.prog (EP Try.prog) chk6 := deep (fuel := 2000) (n := 40) names mixes dt0_ok tab_ok (by decide +kernel)
def chk7 : Ent U := ⟨11, [.agg [.int .i64 (.ofNat 0), .int .i64 (.ofNat 0), .int .i64 (.ofNat 0), .sc 0 3 0 1 (some 1)]], [[.int .i64 (.ofNat 1), .int .i64 (.ofNat 2), .int .i64 (.ofNat 3)]], .int .i64 (.ofNat 3), 8, []⟩
set_option maxRecDepth 100000 in
theorem chk7_ok : DeepFact Try.prog (EP Try.prog) chk7 := deep (fuel := 2000) (n := 40) names mixes dt0_ok tab_ok (by decide +kernel)
def chk8 : Ent U := ⟨11, [.agg [.int .i64 (.ofNat 0), .int .i64 (.ofNat 0), .int .i64 (.ofNat 0), .sc 0 3 0 2 (some 2)]], [[.int .i64 (.ofNat 0), .int .i64 (.ofNat 0), .int .i64 (.ofNat 500), .int .i64 (.ofNat 500), .int .i64 (.ofNat 0), .int .i64 (.ofNat 0)]], .int .i64 (.ofNat 12), 19, []⟩
set_option maxRecDepth 100000 in
theorem chk8_ok : DeepFact Try.prog (EP Try.prog) chk8 := deep (fuel := 2000) (n := 40) names mixes dt0_ok tab_ok (by decide +kernel)
def chk9 : Ent U := ⟨11, [.agg [.int .i64 (.ofNat 0), .int .i64 (.ofNat 0), .int .i64 (.ofNat 0), .sc 0 3 0 1 (some 1)]], [[.int .i64 (.ofNat 0), .int .i64 (.ofNat 0), .int .i64 (.ofNat 99)]], .int .i64 (.ofNat 2), 8, []⟩
set_option maxRecDepth 100000 in
theorem chk9_ok : DeepFact Try.prog (EP Try.prog) chk9 := deep (fuel := 2000) (n := 40) names mixes dt0_ok tab_ok (by decide +kernel)
def chk10 : Ent U := ⟨57, [.agg [.int .i64 (.ofNat 0), .int .i64 (.ofNat 0), .int .i64 (.ofNat 0), .sc 0 3 0 2 (some 2)], .sc 1 2 0 1 (some 1)], [[.int .i64 (.ofNat 0), .int .i64 (.ofNat 0), .int .i64 (.ofNat 50000), .int .i64 (.ofNat 0), .int .i64 (.ofNat 30000), .int .i64 (.ofNat 40000)], [.int .i64 (.ofNat 1), .sc 2 3 0 2 none], [.int .i64 (.ofNat 100), .int .i64 (.ofNat 0), .int .i64 (.ofNat 0), .int .i64 (.ofNat 100), .int .i64 (.ofNat 0), .int .i64 (.ofNat 0)]], .int .i64 (.ofNat 0), 40, []⟩
set_option maxRecDepth 100000 in
theorem chk10_ok : DeepFact Try.prog (EP Try.prog) chk10 := deep (fuel := 2000) (n := 40) names mixes dt0_ok tab_ok (by decide +kernel)
def chk11 : Ent U := ⟨57, [.agg [.int .i64 (.ofNat 10000), .int .i64 (.ofNat 0), .int .i64 (.ofNat 0), .sc 0 3 0 1 (some 1)], .sc 1 2 0 1 (some 1)], [[.int .i64 (.ofNat 0), .int .i64 (.ofNat 0), .int .i64 (.ofNat 100000)], [.int .i64 (.ofNat 1), .sc 2 3 0 1 none], [.int .i64 (.ofNat 100), .int .i64 (.ofNat 0), .int .i64 (.ofNat 0)]], .int .i64 (.ofNat 0), 24, []⟩
set_option maxRecDepth 100000 in
theorem chk11_ok : DeepFact Try.prog (EP Try.prog) chk11 := deep (fuel := 2000) (n := 40) names mixes dt0_ok tab_ok (by decide +kernel)
def chk12 : Ent U := ⟨11, [.agg [.int .i64 (.ofNat 10000), .int .i64 (.ofNat 0), .int .i64 (.ofNat 0), .sc 0 3 0 1 (some 1)]], [[.int .i64 (.ofNat 0), .int .i64 (.ofNat 0), .int .i64 (.ofNat 100000)]], .int .i64 (.ofNat 0), 15, []⟩
set_option maxRecDepth 100000 in
theorem chk12_ok : DeepFact Try.prog (EP Try.prog) chk12 := deep (fuel := 2000) (n := 40) names mixes dt0_ok tab_ok (by decide +kernel)
def chk13 : Ent U := ⟨57, [.agg [.int .i64 (.ofNat 10000), .int .i64 (.ofNat 0), .int .i64 (.ofNat 0), .sc 0 3 0 1 (some 1)], .sc 1 2 0 1 (some 1)], [[.int .i64 (.ofNat 0), .int .i64 (.ofNat 0), .int .i64 (.ofNat 100000)], [.int .i64 (.ofNat 2), .sc 2 3 0 1 none], [.int .i64 (.ofNat 100), .int .i64 (.ofNat 0), .int .i64 (.ofNat 0)]], .int .i64 (.ofNat 0), 24, []⟩
set_option maxRecDepth 100000 in
theorem chk13_ok : DeepFact Try.prog (EP Try.prog) chk13 := deep (fuel := 2000) (n := 40) names mixes dt0_ok tab_ok (by decide +kernel)
def chk14 : Ent U := ⟨57, [.agg [.int .i64 (.ofNat 0), .int .i64 (.ofNat 0), .int .i64 (.ofNat 0), .sc 0 3 0 1 (some 1)], .sc 1 2 0 1 (some 1)], [[.int .i64 (.ofNat 0), .int .i64 (.ofNat 0), .int .i64 (.ofNat 10000)], [.int .i64 (.ofNat 1), .sc 2 3 0 1 none], [.int .i64 (.ofNat 100), .int .i64 (.ofNat 0), .int .i64 (.ofNat 0)]], .int .i64 (.ofNat 0), 24, []⟩
set_option maxRecDepth 100000 in
theorem chk14_ok : DeepFact Try.prog (EP Try.prog) chk14 := deep (fuel := 2000) (n := 40) names mixes dt0_ok tab_ok (by decide +kernel)
def chk15 : Ent U := ⟨11, [.agg [.int .i64 (.ofNat 0), .int .i64 (.ofNat 0), .int .i64 (.ofNat 0), .sc 0 3 0 1 (some 1)]], [[.int .i64 (.ofNat 0), .int .i64 (.ofNat 0), .int .i64 (.ofNat 10000)]], .int .i64 (.ofNat 0), 15, []⟩
set_option maxRecDepth 100000 in
theorem chk15_ok : DeepFact Try.prog (EP Try.prog) chk15 := deep (fuel := 2000) (n := 40) names mixes dt0_ok tab_ok (by decide +kernel)
def chk16 : Ent U := ⟨57, [.agg [.int .i64 (.ofNat 500), .int .i64 (.ofNat 0), .int .i64 (.ofNat 0), .sc 0 3 0 1 (some 1)], .sc 1 2 0 1 (some 1)], [[.int .i64 (.ofNat 0), .int .i64 (.ofNat 0), .int .i64 (.ofNat 10000)], [.int .i64 (.ofNat 1), .sc 2 3 0 1 none], [.int .i64 (.ofNat 100), .int .i64 (.ofNat 0), .int .i64 (.ofNat 0)]], .int .i64 (.ofNat 0), 24, []⟩
set_option maxRecDepth 100000 in
theorem chk16_ok : DeepFact Try.prog (EP Try.prog) chk16 := deep (fuel := 2000) (n := 40) names mixes dt0_ok tab_ok (by decide +kernel)
def chk17 : Ent U := ⟨11, [.agg [.int .i64 (.ofNat 500), .int .i64 (.ofNat 0), .int .i64 (.ofNat 0), .sc 0 3 0 1 (some 1)]], [[.int .i64 (.ofNat 0), .int .i64 (.ofNat 0), .int .i64 (.ofNat 10000)]], .int .i64 (.ofNat 0), 15, []⟩
set_option maxRecDepth 100000 in
theorem chk17_ok : DeepFact Try.prog (EP Try.prog) chk17 := deep (fuel := 2000) (n := 40) names mixes dt0_ok tab_ok (by decide +kernel)
def chk18 : Ent U := ⟨57, [.agg [.int .i64 (.ofNat 500), .int .i64 (.ofNat 0), .int .i64 (.ofNat 0), .sc 0 3 0 1 (some 1)], .sc 1 2 0 1 (some 1)], [[.int .i64 (.ofNat 0), .int .i64 (.ofNat 0), .int .i64 (.ofNat 10000)], [.int .i64 (.ofNat 2), .sc 2 3 0 1 none], [.int .i64 (.ofNat 100), .int .i64 (.ofNat 0), .int .i64 (.ofNat 0)]], .int .i64 (.ofNat 0), 24, []⟩
set_option maxRecDepth 100000 in
theorem chk18_ok : DeepFact Try.prog (EP Try.prog) chk18 := deep (fuel := 2000) (n := 40) names mixes dt0_ok tab_ok (by decide +kernel)
def chk19 : Ent U := ⟨57, [.agg [.int .i64 (.ofNat 0), .int .i64 (.ofNat 0), .int .i64 (.ofNat 0), .sc 0 3 0 1 (some 1)], .nils], [[.int .i64 (.ofNat 0), .int .i64 (.ofNat 0), .int .i64 (.ofNat 10000)]], .int .i64 (.ofNat 0), 16, []⟩
set_option maxRecDepth 100000 in
theorem chk19_ok : DeepFact Try.prog (EP Try.prog) chk19 := deep (fuel := 2000) (n := 40) names mixes dt0_ok tab_ok (by decide +kernel)
def chk20 : Ent U := ⟨57, [.agg [.int .i64 (.ofNat 500), .int .i64 (.ofNat 0), .int .i64 (.ofNat 0), .sc 0 3 0 1 (some 1)], .nils], [[.int .i64 (.ofNat 0), .int .i64 (.ofNat 0), .int .i64 (.ofNat 10000)]], .int .i64 (.ofNat 0), 16, []⟩
set_option maxRecDepth 100000 in
theorem chk20_ok : DeepFact Try.prog (EP Try.prog) chk20 := deep (fuel := 2000) (n := 40) names mixes dt0_ok tab_ok (by decide +kernel)
def dt1 : List (Ent U) := src0 :: src1 :: src2 :: chk0 :: chk1 :: chk2 :: chk3 :: chk4 :: chk5 :: chk6 :: chk7 :: chk8 :: chk9 :: chk10 :: chk11 :: chk12 :: chk13 :: chk14 :: chk15 :: chk16 :: chk17 :: chk18 :: chk19 :: chk20 :: dt0
theorem dt1_ok : DTabOk Try.prog (EP Try.prog) dt1 := dtab_cons src0_ok (dtab_cons src1_ok (dtab_cons src2_ok (dtab_cons chk0_ok (dtab_cons chk1_ok (dtab_cons chk2_ok (dtab_cons chk3_ok (dtab_cons chk4_ok (dtab_cons chk5_ok (dtab_cons chk6_ok (dtab_cons chk7_ok (dtab_cons chk8_ok (dtab_cons chk9_ok (dtab_cons chk10_ok (dtab_cons chk11_ok (dtab_cons chk12_ok (dtab_cons chk13_ok (dtab_cons chk14_ok (dtab_cons chk15_ok (dtab_cons chk16_ok (dtab_cons chk17_ok (dtab_cons chk18_ok (dtab_cons chk19_ok (dtab_cons chk20_ok (dt0_ok))))))))))))))))))))))))
end Go.Proofs.Ytnigcejokcegfaa.pathKnown
