/- EarthKnown: what is known of more calls, by runs of their own. No condition. -/
import Derived.Test.YtncnpgmfeneliaaEarthKnownA
noncomputable section
namespace Go.Proofs.Ytncnpgmfeneliaa.earthKnown
open Go.ChangeShapes Go.WideShapes Go.ChangeAt Go.RowKit Go.Bx Go.Bx.Q

def el0 : Ent U := ⟨4, [.sc 0 1 0 6 (some 6)], [[.int .i64 (.ofNat 0), .int .i64 (.ofNat 100), .int .i64 (.ofNat 10), .int .i64 (.ofNat 200), .int .i64 (.ofNat 30), .int .i64 (.ofNat 100)]], .agg [.sc 9 2 0 3 none], 9, [(8, [.int .i64 (.ofNat 0), .int .i64 (.ofNat 100), .int .i64 (.ofNat 10), .int .i64 (.ofNat 200), .int .i64 (.ofNat 30), .int .i64 (.ofNat 100)])]⟩
set_option maxRecDepth 100000 in
theorem el0_ok : DeepFact Try.prog (EP Try.prog) el0 := deep (fuel := 2000) (n := 40) names mixes dt0_ok tab_ok (by decide +kernel)
def el1 : Ent U := ⟨4, [.nils], [], .agg [.nils], 2, []⟩
set_option maxRecDepth 100000 in
theorem el1_ok : DeepFact Try.prog (EP Try.prog) el1 := deep (fuel := 2000) (n := 40) names mixes dt0_ok tab_ok (by decide +kernel)
def el2 : Ent U := ⟨4, [.sc 0 1 0 4 (some 4)], [[.int .i64 (.ofNat 5), .int .i64 (.ofNat 1), .int .i64 (.ofNat 5), .int .i64 (.ofNat 2)]], .agg [.sc 7 2 0 2 none], 7, [(6, [.int .i64 (.ofNat 5), .int .i64 (.ofNat 1), .int .i64 (.ofNat 5), .int .i64 (.ofNat 2)])]⟩
set_option maxRecDepth 100000 in
theorem el2_ok : DeepFact Try.prog (EP Try.prog) el2 := deep (fuel := 2000) (n := 40) names mixes dt0_ok tab_ok (by decide +kernel)
def el3 : Ent U := ⟨4, [.sc 0 1 0 4 (some 4)], [[.int .i64 (.ofNat 0), .int .i64 (.ofNat 0), .int .i64 (.ofNat 3), .int .i64 (.ofNat 10)]], .agg [.sc 7 2 0 2 none], 7, [(6, [.int .i64 (.ofNat 0), .int .i64 (.ofNat 0), .int .i64 (.ofNat 3), .int .i64 (.ofNat 10)])]⟩
set_option maxRecDepth 100000 in
theorem el3_ok : DeepFact Try.prog (EP Try.prog) el3 := deep (fuel := 2000) (n := 40) names mixes dt0_ok tab_ok (by decide +kernel)
def el4 : Ent U := ⟨4, [.sc 0 1 0 2 (some 2)], [[.int .i64 (.ofNat 0), .int .i64 (.ofNat 100)]], .agg [.sc 5 2 0 1 none], 5, [(4, [.int .i64 (.ofNat 0), .int .i64 (.ofNat 100)])]⟩
set_option maxRecDepth 100000 in
theorem el4_ok : DeepFact Try.prog (EP Try.prog) el4 := deep (fuel := 2000) (n := 40) names mixes dt0_ok tab_ok (by decide +kernel)
def el5 : Ent U := ⟨4, [.sc 0 1 0 2 (some 2)], [[.int .i64 (.ofNat 0), .int .i64 (.ofNat 101)]], .agg [.sc 5 2 0 1 none], 5, [(4, [.int .i64 (.ofNat 0), .int .i64 (.ofNat 101)])]⟩
set_option maxRecDepth 100000 in
theorem el5_ok : DeepFact Try.prog (EP Try.prog) el5 := deep (fuel := 2000) (n := 40) names mixes dt0_ok tab_ok (by decide +kernel)
def el6 : Ent U := ⟨11, [], [], .agg [.int .i64 (.ofNat 100000), .sc 8 2 0 2 none, .sc 16 2 0 2 none, .sc 24 2 0 2 none, .sc 32 2 0 2 none, .int .i64 (.ofNat 0), .int .i64 (.ofNat 30000), .nils], 33, [(32, [.int .i64 (.ofNat 0), .int .i64 (.ofNat 0), .int .i64 (.ofNat 100000), .int .i64 (.ofNat 2000000000)]), (24, [.int .i64 (.ofNat 0), .int .i64 (.ofNat 0), .int .i64 (.ofNat 100000), .int .i64 (.ofNat 1500000000)]), (16, [.int .i64 (.ofNat 0), .int .i64 (.ofNat 0), .int .i64 (.ofNat 100000), .int .i64 (.ofNat 1200000000)]), (8, [.int .i64 (.ofNat 0), .int .i64 (.ofNat 0), .int .i64 (.ofNat 100000), .int .i64 (.ofNat 900000000)])]⟩
set_option maxRecDepth 100000 in
theorem el6_ok : DeepFact Try.prog (EP Try.prog) el6 := deep (fuel := 2000) (n := 40) names mixes dt0_ok tab_ok (by decide +kernel)
def el7 : Ent U := ⟨4, [.sc 0 1 0 4 (some 4)], [[.int .i64 (.ofNat 0), .int .i64 (.ofNat 0), .int .i64 (.ofNat 100000), .int .i64 (.ofNat 900000000)]], .agg [.sc 7 2 0 2 none], 7, [(6, [.int .i64 (.ofNat 0), .int .i64 (.ofNat 0), .int .i64 (.ofNat 100000), .int .i64 (.ofNat 900000000)])]⟩
set_option maxRecDepth 100000 in
theorem el7_ok : DeepFact Try.prog (EP Try.prog) el7 := deep (fuel := 2000) (n := 40) names mixes dt0_ok tab_ok (by decide +kernel)
def el8 : Ent U := ⟨4, [.sc 0 1 0 4 (some 4)], [[.int .i64 (.ofNat 0), .int .i64 (.ofNat 0), .int .i64 (.ofNat 100000), .int .i64 (.ofNat 1200000000)]], .agg [.sc 7 2 0 2 none], 7, [(6, [.int .i64 (.ofNat 0), .int .i64 (.ofNat 0), .int .i64 (.ofNat 100000), .int .i64 (.ofNat 1200000000)])]⟩
set_option maxRecDepth 100000 in
theorem el8_ok : DeepFact Try.prog (EP Try.prog) el8 := deep (fuel := 2000) (n := 40) names mixes dt0_ok tab_ok (by decide +kernel)
def el9 : Ent U := ⟨4, [.sc 0 1 0 4 (some 4)], [[.int .i64 (.ofNat 0), .int .i64 (.ofNat 0), .int .i64 (.ofNat 100000), .int .i64 (.ofNat 1500000000)]], .agg [.sc 7 2 0 2 none], 7, [(6, [.int .i64 (.ofNat 0), .int .i64 (.ofNat 0), .int .i64 (.ofNat 100000), .int .i64 (.ofNat 1500000000)])]⟩
set_option maxRecDepth 100000 in
theorem el9_ok : DeepFact Try.prog (EP Try.prog) el9 := deep (fuel := 2000) (n := 40) names mixes dt0_ok tab_ok (by decide +kernel)
def el10 : Ent U := ⟨4, [.sc 0 1 0 4 (some 4)], [[.int .i64 (.ofNat 0), .int .i64 (.ofNat 0), .int .i64 (.ofNat 100000), .int .i64 (.ofNat 2000000000)]], .agg [.sc 7 2 0 2 none], 7, [(6, [.int .i64 (.ofNat 0), .int .i64 (.ofNat 0), .int .i64 (.ofNat 100000), .int .i64 (.ofNat 2000000000)])]⟩
set_option maxRecDepth 100000 in
theorem el10_ok : DeepFact Try.prog (EP Try.prog) el10 := deep (fuel := 2000) (n := 40) names mixes dt0_ok tab_ok (by decide +kernel)
def el11 : Ent U := ⟨13, [.sc 0 3 0 1 (some 1)], [[.int .i64 (.ofNat 2), .int .i64 (.ofNat 40000), .int .i64 (.ofNat 400000000)]], .agg [.int .i64 (.ofNat 100000), .sc 10 2 0 2 none, .sc 18 2 0 2 none, .sc 26 2 0 2 none, .sc 34 2 0 2 none, .int .i64 (.ofNat 0), .int .i64 (.ofNat 30000), .sc 0 3 0 1 (some 1)], 35, [(33, [.int .i64 (.ofNat 0), .int .i64 (.ofNat 0), .int .i64 (.ofNat 100000), .int .i64 (.ofNat 2000000000)]), (25, [.int .i64 (.ofNat 0), .int .i64 (.ofNat 0), .int .i64 (.ofNat 100000), .int .i64 (.ofNat 1500000000)]), (17, [.int .i64 (.ofNat 0), .int .i64 (.ofNat 0), .int .i64 (.ofNat 100000), .int .i64 (.ofNat 1200000000)]), (9, [.int .i64 (.ofNat 0), .int .i64 (.ofNat 0), .int .i64 (.ofNat 100000), .int .i64 (.ofNat 900000000)])]⟩
set_option maxRecDepth 100000 in
theorem el11_ok : DeepFact Try.prog (EP Try.prog) el11 := deep (fuel := 2000) (n := 40) names mixes dt0_ok tab_ok (by decide +kernel)
def el12 : Ent U := ⟨13, [.sc 0 3 0 1 (some 1)], [[.int .i64 (.ofNat 2), .int .i64 (.ofNat 40000), .int .i64 (.ofNat 380000000)]], .agg [.int .i64 (.ofNat 100000), .sc 10 2 0 2 none, .sc 18 2 0 2 none, .sc 26 2 0 2 none, .sc 34 2 0 2 none, .int .i64 (.ofNat 0), .int .i64 (.ofNat 30000), .sc 0 3 0 1 (some 1)], 35, [(33, [.int .i64 (.ofNat 0), .int .i64 (.ofNat 0), .int .i64 (.ofNat 100000), .int .i64 (.ofNat 2000000000)]), (25, [.int .i64 (.ofNat 0), .int .i64 (.ofNat 0), .int .i64 (.ofNat 100000), .int .i64 (.ofNat 1500000000)]), (17, [.int .i64 (.ofNat 0), .int .i64 (.ofNat 0), .int .i64 (.ofNat 100000), .int .i64 (.ofNat 1200000000)]), (9, [.int .i64 (.ofNat 0), .int .i64 (.ofNat 0), .int .i64 (.ofNat 100000), .int .i64 (.ofNat 900000000)])]⟩
set_option maxRecDepth 100000 in
theorem el12_ok : DeepFact Try.prog (EP Try.prog) el12 := deep (fuel := 2000) (n := 40) names mixes dt0_ok tab_ok (by decide +kernel)
def el13 : Ent U := ⟨13, [.sc 0 3 0 2 (some 2)], [[.int .i64 (.ofNat 1), .int .i64 (.ofNat 50000), .int .i64 (.ofNat 590000000), .int .i64 (.ofNat 2), .int .i64 (.ofNat 60000), .int .i64 (.ofNat 550000000)]], .agg [.int .i64 (.ofNat 100000), .sc 10 2 0 2 none, .sc 18 2 0 2 none, .sc 26 2 0 2 none, .sc 34 2 0 2 none, .int .i64 (.ofNat 0), .int .i64 (.ofNat 30000), .sc 0 3 0 2 (some 2)], 35, [(33, [.int .i64 (.ofNat 0), .int .i64 (.ofNat 0), .int .i64 (.ofNat 100000), .int .i64 (.ofNat 2000000000)]), (25, [.int .i64 (.ofNat 0), .int .i64 (.ofNat 0), .int .i64 (.ofNat 100000), .int .i64 (.ofNat 1500000000)]), (17, [.int .i64 (.ofNat 0), .int .i64 (.ofNat 0), .int .i64 (.ofNat 100000), .int .i64 (.ofNat 1200000000)]), (9, [.int .i64 (.ofNat 0), .int .i64 (.ofNat 0), .int .i64 (.ofNat 100000), .int .i64 (.ofNat 900000000)])]⟩
set_option maxRecDepth 100000 in
theorem el13_ok : DeepFact Try.prog (EP Try.prog) el13 := deep (fuel := 2000) (n := 40) names mixes dt0_ok tab_ok (by decide +kernel)
def el14 : Ent U := ⟨13, [.sc 0 3 0 1 (some 1)], [[.int .i64 (.ofNat 2), .int .i64 (.ofNat 50000), .int .i64 (.ofNat 440000000)]], .agg [.int .i64 (.ofNat 100000), .sc 10 2 0 2 none, .sc 18 2 0 2 none, .sc 26 2 0 2 none, .sc 34 2 0 2 none, .int .i64 (.ofNat 0), .int .i64 (.ofNat 30000), .sc 0 3 0 1 (some 1)], 35, [(33, [.int .i64 (.ofNat 0), .int .i64 (.ofNat 0), .int .i64 (.ofNat 100000), .int .i64 (.ofNat 2000000000)]), (25, [.int .i64 (.ofNat 0), .int .i64 (.ofNat 0), .int .i64 (.ofNat 100000), .int .i64 (.ofNat 1500000000)]), (17, [.int .i64 (.ofNat 0), .int .i64 (.ofNat 0), .int .i64 (.ofNat 100000), .int .i64 (.ofNat 1200000000)]), (9, [.int .i64 (.ofNat 0), .int .i64 (.ofNat 0), .int .i64 (.ofNat 100000), .int .i64 (.ofNat 900000000)])]⟩
set_option maxRecDepth 100000 in
theorem el14_ok : DeepFact Try.prog (EP Try.prog) el14 := deep (fuel := 2000) (n := 40) names mixes dt0_ok tab_ok (by decide +kernel)
def dt1 : List (Ent U) := el0 :: el1 :: el2 :: el3 :: el4 :: el5 :: el6 :: el7 :: el8 :: el9 :: el10 :: el11 :: el12 :: el13 :: el14 :: dt0
theorem dt1_ok : DTabOk Try.prog (EP Try.prog) dt1 := dtab_cons el0_ok (dtab_cons el1_ok (dtab_cons el2_ok (dtab_cons el3_ok (dtab_cons el4_ok (dtab_cons el5_ok (dtab_cons el6_ok (dtab_cons el7_ok (dtab_cons el8_ok (dtab_cons el9_ok (dtab_cons el10_ok (dtab_cons el11_ok (dtab_cons el12_ok (dtab_cons el13_ok (dtab_cons el14_ok (dt0_ok)))))))))))))))
end Go.Proofs.Ytncnpgmfeneliaa.earthKnown
