/- EarthKnown: what is known of more calls, by runs of their own. No condition. -/
import Derived.Test.YtncnpgmfeneliaaEarthKnownB1
noncomputable section
namespace Go.Proofs.Ytncnpgmfeneliaa.earthKnown
open Go.ChangeShapes Go.WideShapes Go.ChangeAt Go.RowKit Go.Bx Go.Bx.Q

def em0 : Ent U := ⟨5, [.agg [.sc 0 2 0 3 none], .int .i64 (.ofNat 30), .int .i64 (.ofNat 200)], [[.int .i64 (.ofNat 0), .int .i64 (.ofNat 100), .int .i64 (.ofNat 10), .int .i64 (.ofNat 200), .int .i64 (.ofNat 30), .int .i64 (.ofNat 100)]], .int .i64 (.ofNat 0), 4, []⟩
set_option maxRecDepth 100000 in
theorem em0_ok : DeepFact Try.prog (EP Try.prog) em0 := deep (fuel := 2000) (n := 40) names mixes dt1_ok tab_ok (by decide +kernel)
def em1 : Ent U := ⟨5, [.agg [.sc 0 2 0 3 none], .int .i64 (.ofNat 29), .int .i64 (.ofNat 200)], [[.int .i64 (.ofNat 0), .int .i64 (.ofNat 100), .int .i64 (.ofNat 10), .int .i64 (.ofNat 200), .int .i64 (.ofNat 30), .int .i64 (.ofNat 100)]], .int .i64 (.ofNat 2), 4, []⟩
set_option maxRecDepth 100000 in
theorem em1_ok : DeepFact Try.prog (EP Try.prog) em1 := deep (fuel := 2000) (n := 40) names mixes dt1_ok tab_ok (by decide +kernel)
def em2 : Ent U := ⟨5, [.agg [.nils], .int .i64 (.ofNat 1), .int .i64 (.ofNat 1)], [], .int .i64 (.ofNat 6), 1, []⟩
set_option maxRecDepth 100000 in
theorem em2_ok : DeepFact Try.prog (EP Try.prog) em2 := deep (fuel := 2000) (n := 40) names mixes dt1_ok tab_ok (by decide +kernel)
def em3 : Ent U := ⟨5, [.agg [.sc 0 2 0 2 none], .int .i64 (.ofNat 9), .int .i64 (.ofNat 9)], [[.int .i64 (.ofNat 5), .int .i64 (.ofNat 1), .int .i64 (.ofNat 5), .int .i64 (.ofNat 2)]], .int .i64 (.ofNat 11), 3, []⟩
set_option maxRecDepth 100000 in
theorem em3_ok : DeepFact Try.prog (EP Try.prog) em3 := deep (fuel := 2000) (n := 40) names mixes dt1_ok tab_ok (by decide +kernel)
def em4 : Ent U := ⟨6, [.agg [.sc 0 2 0 3 none], .int .i64 (.negSucc 4)], [[.int .i64 (.ofNat 0), .int .i64 (.ofNat 100), .int .i64 (.ofNat 10), .int .i64 (.ofNat 200), .int .i64 (.ofNat 30), .int .i64 (.ofNat 100)]], .agg [.int .i64 (.ofNat 100), .int .i64 (.ofNat 100)], 10, []⟩
set_option maxRecDepth 100000 in
theorem em4_ok : DeepFact Try.prog (EP Try.prog) em4 := deep (fuel := 2000) (n := 40) names mixes dt1_ok tab_ok (by decide +kernel)
def em5 : Ent U := ⟨5, [.agg [.sc 0 2 0 3 none], .int .i64 (.ofNat 1048576), .int .i64 (.ofNat 68719476736)], [[.int .i64 (.ofNat 0), .int .i64 (.ofNat 100), .int .i64 (.ofNat 10), .int .i64 (.ofNat 200), .int .i64 (.ofNat 30), .int .i64 (.ofNat 100)]], .int .i64 (.ofNat 0), 4, []⟩
set_option maxRecDepth 100000 in
theorem em5_ok : DeepFact Try.prog (EP Try.prog) em5 := deep (fuel := 2000) (n := 40) names mixes dt1_ok tab_ok (by decide +kernel)
def em6 : Ent U := ⟨6, [.agg [.sc 0 2 0 3 none], .int .i64 (.ofNat 5)], [[.int .i64 (.ofNat 0), .int .i64 (.ofNat 100), .int .i64 (.ofNat 10), .int .i64 (.ofNat 200), .int .i64 (.ofNat 30), .int .i64 (.ofNat 100)]], .agg [.int .i64 (.ofNat 150), .int .i64 (.ofNat 150)], 15, []⟩
set_option maxRecDepth 100000 in
theorem em6_ok : DeepFact Try.prog (EP Try.prog) em6 := deep (fuel := 2000) (n := 40) names mixes dt1_ok tab_ok (by decide +kernel)
def em7 : Ent U := ⟨6, [.agg [.sc 0 2 0 3 none], .int .i64 (.ofNat 11)], [[.int .i64 (.ofNat 0), .int .i64 (.ofNat 100), .int .i64 (.ofNat 10), .int .i64 (.ofNat 200), .int .i64 (.ofNat 30), .int .i64 (.ofNat 100)]], .agg [.int .i64 (.ofNat 195), .int .i64 (.ofNat 195)], 16, []⟩
set_option maxRecDepth 100000 in
theorem em7_ok : DeepFact Try.prog (EP Try.prog) em7 := deep (fuel := 2000) (n := 40) names mixes dt1_ok tab_ok (by decide +kernel)
def em8 : Ent U := ⟨6, [.agg [.sc 0 2 0 3 none], .int .i64 (.ofNat 99)], [[.int .i64 (.ofNat 0), .int .i64 (.ofNat 100), .int .i64 (.ofNat 10), .int .i64 (.ofNat 200), .int .i64 (.ofNat 30), .int .i64 (.ofNat 100)]], .agg [.int .i64 (.ofNat 100), .int .i64 (.ofNat 100)], 12, []⟩
set_option maxRecDepth 100000 in
theorem em8_ok : DeepFact Try.prog (EP Try.prog) em8 := deep (fuel := 2000) (n := 40) names mixes dt1_ok tab_ok (by decide +kernel)
def em9 : Ent U := ⟨6, [.agg [.sc 0 2 0 2 none], .int .i64 (.ofNat 1)], [[.int .i64 (.ofNat 0), .int .i64 (.ofNat 0), .int .i64 (.ofNat 3), .int .i64 (.ofNat 10)]], .agg [.int .i64 (.ofNat 3), .int .i64 (.ofNat 4)], 14, []⟩
set_option maxRecDepth 100000 in
theorem em9_ok : DeepFact Try.prog (EP Try.prog) em9 := deep (fuel := 2000) (n := 40) names mixes dt1_ok tab_ok (by decide +kernel)
def em10 : Ent U := ⟨5, [.agg [.sc 0 2 0 2 none], .int .i64 (.ofNat 1048576), .int .i64 (.ofNat 68719476736)], [[.int .i64 (.ofNat 0), .int .i64 (.ofNat 0), .int .i64 (.ofNat 3), .int .i64 (.ofNat 10)]], .int .i64 (.ofNat 0), 3, []⟩
set_option maxRecDepth 100000 in
theorem em10_ok : DeepFact Try.prog (EP Try.prog) em10 := deep (fuel := 2000) (n := 40) names mixes dt1_ok tab_ok (by decide +kernel)
def em11 : Ent U := ⟨7, [.agg [.sc 0 2 0 3 none], .int .i64 (.ofNat 5), .int .i64 (.ofNat 15)], [[.int .i64 (.ofNat 0), .int .i64 (.ofNat 100), .int .i64 (.ofNat 10), .int .i64 (.ofNat 200), .int .i64 (.ofNat 30), .int .i64 (.ofNat 100)]], .agg [.int .i64 (.ofNat 150), .int .i64 (.ofNat 150)], 58, []⟩
set_option maxRecDepth 100000 in
theorem em11_ok : DeepFact Try.prog (EP Try.prog) em11 := deep (fuel := 2000) (n := 40) names mixes dt1_ok tab_ok (by decide +kernel)
def em12 : Ent U := ⟨8, [.agg [.sc 0 2 0 3 none], .int .i64 (.ofNat 5), .int .i64 (.ofNat 15)], [[.int .i64 (.ofNat 0), .int .i64 (.ofNat 100), .int .i64 (.ofNat 10), .int .i64 (.ofNat 200), .int .i64 (.ofNat 30), .int .i64 (.ofNat 100)]], .agg [.int .i64 (.ofNat 200), .int .i64 (.ofNat 200)], 58, []⟩
set_option maxRecDepth 100000 in
theorem em12_ok : DeepFact Try.prog (EP Try.prog) em12 := deep (fuel := 2000) (n := 40) names mixes dt1_ok tab_ok (by decide +kernel)
def em13 : Ent U := ⟨7, [.agg [.sc 0 2 0 3 none], .int .i64 (.ofNat 0), .int .i64 (.ofNat 40)], [[.int .i64 (.ofNat 0), .int .i64 (.ofNat 100), .int .i64 (.ofNat 10), .int .i64 (.ofNat 200), .int .i64 (.ofNat 30), .int .i64 (.ofNat 100)]], .agg [.int .i64 (.ofNat 100), .int .i64 (.ofNat 100)], 62, []⟩
set_option maxRecDepth 100000 in
theorem em13_ok : DeepFact Try.prog (EP Try.prog) em13 := deep (fuel := 2000) (n := 40) names mixes dt1_ok tab_ok (by decide +kernel)
def em14 : Ent U := ⟨9, [.agg [.sc 0 2 0 3 none], .agg [.sc 1 2 0 1 none]], [[.int .i64 (.ofNat 0), .int .i64 (.ofNat 100), .int .i64 (.ofNat 10), .int .i64 (.ofNat 200), .int .i64 (.ofNat 30), .int .i64 (.ofNat 100)], [.int .i64 (.ofNat 0), .int .i64 (.ofNat 100)]], .lit true, 88, []⟩
set_option maxRecDepth 100000 in
theorem em14_ok : DeepFact Try.prog (EP Try.prog) em14 := deep (fuel := 2000) (n := 40) names mixes dt1_ok tab_ok (by decide +kernel)
def em15 : Ent U := ⟨5, [.agg [.sc 0 2 0 1 none], .int .i64 (.ofNat 1048576), .int .i64 (.ofNat 68719476736)], [[.int .i64 (.ofNat 0), .int .i64 (.ofNat 100)]], .int .i64 (.ofNat 0), 2, []⟩
set_option maxRecDepth 100000 in
theorem em15_ok : DeepFact Try.prog (EP Try.prog) em15 := deep (fuel := 2000) (n := 40) names mixes dt1_ok tab_ok (by decide +kernel)
def em16 : Ent U := ⟨9, [.agg [.sc 0 2 0 3 none], .agg [.sc 1 2 0 1 none]], [[.int .i64 (.ofNat 0), .int .i64 (.ofNat 100), .int .i64 (.ofNat 10), .int .i64 (.ofNat 200), .int .i64 (.ofNat 30), .int .i64 (.ofNat 100)], [.int .i64 (.ofNat 0), .int .i64 (.ofNat 101)]], .lit false, 32, []⟩
set_option maxRecDepth 100000 in
theorem em16_ok : DeepFact Try.prog (EP Try.prog) em16 := deep (fuel := 2000) (n := 40) names mixes dt1_ok tab_ok (by decide +kernel)
def em17 : Ent U := ⟨5, [.agg [.sc 0 2 0 1 none], .int .i64 (.ofNat 1048576), .int .i64 (.ofNat 68719476736)], [[.int .i64 (.ofNat 0), .int .i64 (.ofNat 101)]], .int .i64 (.ofNat 0), 2, []⟩
set_option maxRecDepth 100000 in
theorem em17_ok : DeepFact Try.prog (EP Try.prog) em17 := deep (fuel := 2000) (n := 40) names mixes dt1_ok tab_ok (by decide +kernel)
def em18 : Ent U := ⟨26, [.agg [.int .i64 (.ofNat 100000), .sc 0 2 0 2 none, .sc 1 2 0 2 none, .sc 2 2 0 2 none, .sc 3 2 0 2 none, .int .i64 (.ofNat 0), .int .i64 (.ofNat 30000), .nils]], [[.int .i64 (.ofNat 0), .int .i64 (.ofNat 0), .int .i64 (.ofNat 100000), .int .i64 (.ofNat 900000000)], [.int .i64 (.ofNat 0), .int .i64 (.ofNat 0), .int .i64 (.ofNat 100000), .int .i64 (.ofNat 1200000000)], [.int .i64 (.ofNat 0), .int .i64 (.ofNat 0), .int .i64 (.ofNat 100000), .int .i64 (.ofNat 1500000000)], [.int .i64 (.ofNat 0), .int .i64 (.ofNat 0), .int .i64 (.ofNat 100000), .int .i64 (.ofNat 2000000000)]], .int .i64 (.ofNat 0), 286, []⟩
set_option maxRecDepth 100000 in
theorem em18_ok : DeepFact Try.prog (EP Try.prog) em18 := deep (fuel := 2000) (n := 40) names mixes dt1_ok tab_ok (by decide +kernel)
def em19 : Ent U := ⟨5, [.agg [.sc 0 2 0 2 none], .int .i64 (.ofNat 1048576), .int .i64 (.ofNat 68719476736)], [[.int .i64 (.ofNat 0), .int .i64 (.ofNat 0), .int .i64 (.ofNat 100000), .int .i64 (.ofNat 900000000)]], .int .i64 (.ofNat 0), 3, []⟩
set_option maxRecDepth 100000 in
theorem em19_ok : DeepFact Try.prog (EP Try.prog) em19 := deep (fuel := 2000) (n := 40) names mixes dt1_ok tab_ok (by decide +kernel)
def em20 : Ent U := ⟨5, [.agg [.sc 0 2 0 2 none], .int .i64 (.ofNat 1048576), .int .i64 (.ofNat 68719476736)], [[.int .i64 (.ofNat 0), .int .i64 (.ofNat 0), .int .i64 (.ofNat 100000), .int .i64 (.ofNat 1200000000)]], .int .i64 (.ofNat 0), 3, []⟩
set_option maxRecDepth 100000 in
theorem em20_ok : DeepFact Try.prog (EP Try.prog) em20 := deep (fuel := 2000) (n := 40) names mixes dt1_ok tab_ok (by decide +kernel)
def em21 : Ent U := ⟨5, [.agg [.sc 0 2 0 2 none], .int .i64 (.ofNat 1048576), .int .i64 (.ofNat 68719476736)], [[.int .i64 (.ofNat 0), .int .i64 (.ofNat 0), .int .i64 (.ofNat 100000), .int .i64 (.ofNat 1500000000)]], .int .i64 (.ofNat 0), 3, []⟩
set_option maxRecDepth 100000 in
theorem em21_ok : DeepFact Try.prog (EP Try.prog) em21 := deep (fuel := 2000) (n := 40) names mixes dt1_ok tab_ok (by decide +kernel)
def em22 : Ent U := ⟨5, [.agg [.sc 0 2 0 2 none], .int .i64 (.ofNat 1048576), .int .i64 (.ofNat 68719476736)], [[.int .i64 (.ofNat 0), .int .i64 (.ofNat 0), .int .i64 (.ofNat 100000), .int .i64 (.ofNat 2000000000)]], .int .i64 (.ofNat 0), 3, []⟩
set_option maxRecDepth 100000 in
theorem em22_ok : DeepFact Try.prog (EP Try.prog) em22 := deep (fuel := 2000) (n := 40) names mixes dt1_ok tab_ok (by decide +kernel)
def em23 : Ent U := ⟨9, [.agg [.sc 0 2 0 2 none], .agg [.sc 1 2 0 2 none]], [[.int .i64 (.ofNat 0), .int .i64 (.ofNat 0), .int .i64 (.ofNat 100000), .int .i64 (.ofNat 1200000000)], [.int .i64 (.ofNat 0), .int .i64 (.ofNat 0), .int .i64 (.ofNat 100000), .int .i64 (.ofNat 900000000)]], .lit true, 89, []⟩
set_option maxRecDepth 100000 in
theorem em23_ok : DeepFact Try.prog (EP Try.prog) em23 := deep (fuel := 2000) (n := 40) names mixes dt1_ok tab_ok (by decide +kernel)
def em24 : Ent U := ⟨9, [.agg [.sc 0 2 0 2 none], .agg [.sc 1 2 0 2 none]], [[.int .i64 (.ofNat 0), .int .i64 (.ofNat 0), .int .i64 (.ofNat 100000), .int .i64 (.ofNat 2000000000)], [.int .i64 (.ofNat 0), .int .i64 (.ofNat 0), .int .i64 (.ofNat 100000), .int .i64 (.ofNat 1500000000)]], .lit true, 89, []⟩
set_option maxRecDepth 100000 in
theorem em24_ok : DeepFact Try.prog (EP Try.prog) em24 := deep (fuel := 2000) (n := 40) names mixes dt1_ok tab_ok (by decide +kernel)
def em25 : Ent U := ⟨9, [.agg [.sc 0 2 0 2 none], .agg [.sc 1 2 0 2 none]], [[.int .i64 (.ofNat 0), .int .i64 (.ofNat 0), .int .i64 (.ofNat 100000), .int .i64 (.ofNat 2000000000)], [.int .i64 (.ofNat 0), .int .i64 (.ofNat 0), .int .i64 (.ofNat 100000), .int .i64 (.ofNat 900000000)]], .lit true, 89, []⟩
set_option maxRecDepth 100000 in
theorem em25_ok : DeepFact Try.prog (EP Try.prog) em25 := deep (fuel := 2000) (n := 40) names mixes dt1_ok tab_ok (by decide +kernel)
def em26 : Ent U := ⟨26, [.agg [.int .i64 (.ofNat 100000), .sc 0 2 0 2 none, .sc 1 2 0 2 none, .sc 2 2 0 2 none, .sc 3 2 0 2 none, .int .i64 (.ofNat 0), .int .i64 (.ofNat 30000), .sc 4 3 0 1 (some 1)]], [[.int .i64 (.ofNat 0), .int .i64 (.ofNat 0), .int .i64 (.ofNat 100000), .int .i64 (.ofNat 900000000)], [.int .i64 (.ofNat 0), .int .i64 (.ofNat 0), .int .i64 (.ofNat 100000), .int .i64 (.ofNat 1200000000)], [.int .i64 (.ofNat 0), .int .i64 (.ofNat 0), .int .i64 (.ofNat 100000), .int .i64 (.ofNat 1500000000)], [.int .i64 (.ofNat 0), .int .i64 (.ofNat 0), .int .i64 (.ofNat 100000), .int .i64 (.ofNat 2000000000)], [.int .i64 (.ofNat 2), .int .i64 (.ofNat 40000), .int .i64 (.ofNat 400000000)]], .int .i64 (.ofNat 0), 287, []⟩
set_option maxRecDepth 100000 in
theorem em26_ok : DeepFact Try.prog (EP Try.prog) em26 := deep (fuel := 2000) (n := 40) names mixes dt1_ok tab_ok (by decide +kernel)
def em27 : Ent U := ⟨26, [.agg [.int .i64 (.ofNat 100000), .sc 0 2 0 2 none, .sc 1 2 0 2 none, .sc 2 2 0 2 none, .sc 3 2 0 2 none, .int .i64 (.ofNat 0), .int .i64 (.ofNat 30000), .sc 4 3 0 1 (some 1)]], [[.int .i64 (.ofNat 0), .int .i64 (.ofNat 0), .int .i64 (.ofNat 100000), .int .i64 (.ofNat 900000000)], [.int .i64 (.ofNat 0), .int .i64 (.ofNat 0), .int .i64 (.ofNat 100000), .int .i64 (.ofNat 1200000000)], [.int .i64 (.ofNat 0), .int .i64 (.ofNat 0), .int .i64 (.ofNat 100000), .int .i64 (.ofNat 1500000000)], [.int .i64 (.ofNat 0), .int .i64 (.ofNat 0), .int .i64 (.ofNat 100000), .int .i64 (.ofNat 2000000000)], [.int .i64 (.ofNat 2), .int .i64 (.ofNat 40000), .int .i64 (.ofNat 380000000)]], .int .i64 (.ofNat 0), 287, []⟩
set_option maxRecDepth 100000 in
theorem em27_ok : DeepFact Try.prog (EP Try.prog) em27 := deep (fuel := 2000) (n := 40) names mixes dt1_ok tab_ok (by decide +kernel)
def em28 : Ent U := ⟨26, [.agg [.int .i64 (.ofNat 100000), .sc 0 2 0 2 none, .sc 1 2 0 2 none, .sc 2 2 0 2 none, .sc 3 2 0 2 none, .int .i64 (.ofNat 0), .int .i64 (.ofNat 30000), .sc 4 3 0 2 (some 2)]], [[.int .i64 (.ofNat 0), .int .i64 (.ofNat 0), .int .i64 (.ofNat 100000), .int .i64 (.ofNat 900000000)], [.int .i64 (.ofNat 0), .int .i64 (.ofNat 0), .int .i64 (.ofNat 100000), .int .i64 (.ofNat 1200000000)], [.int .i64 (.ofNat 0), .int .i64 (.ofNat 0), .int .i64 (.ofNat 100000), .int .i64 (.ofNat 1500000000)], [.int .i64 (.ofNat 0), .int .i64 (.ofNat 0), .int .i64 (.ofNat 100000), .int .i64 (.ofNat 2000000000)], [.int .i64 (.ofNat 1), .int .i64 (.ofNat 50000), .int .i64 (.ofNat 590000000), .int .i64 (.ofNat 2), .int .i64 (.ofNat 60000), .int .i64 (.ofNat 550000000)]], .int .i64 (.ofNat 0), 288, []⟩
set_option maxRecDepth 100000 in
theorem em28_ok : DeepFact Try.prog (EP Try.prog) em28 := deep (fuel := 2000) (n := 40) names mixes dt1_ok tab_ok (by decide +kernel)
def em29 : Ent U := ⟨26, [.agg [.int .i64 (.ofNat 100000), .sc 0 2 0 2 none, .sc 1 2 0 2 none, .sc 2 2 0 2 none, .sc 3 2 0 2 none, .int .i64 (.ofNat 0), .int .i64 (.ofNat 30000), .sc 4 3 0 1 (some 1)]], [[.int .i64 (.ofNat 0), .int .i64 (.ofNat 0), .int .i64 (.ofNat 100000), .int .i64 (.ofNat 900000000)], [.int .i64 (.ofNat 0), .int .i64 (.ofNat 0), .int .i64 (.ofNat 100000), .int .i64 (.ofNat 1200000000)], [.int .i64 (.ofNat 0), .int .i64 (.ofNat 0), .int .i64 (.ofNat 100000), .int .i64 (.ofNat 1500000000)], [.int .i64 (.ofNat 0), .int .i64 (.ofNat 0), .int .i64 (.ofNat 100000), .int .i64 (.ofNat 2000000000)], [.int .i64 (.ofNat 2), .int .i64 (.ofNat 50000), .int .i64 (.ofNat 440000000)]], .int .i64 (.ofNat 0), 287, []⟩
set_option maxRecDepth 100000 in
theorem em29_ok : DeepFact Try.prog (EP Try.prog) em29 := deep (fuel := 2000) (n := 40) names mixes dt1_ok tab_ok (by decide +kernel)
def em30 : Ent U := ⟨6, [.agg [.sc 0 2 0 3 none], .int .i64 (.ofNat 13)], [[.int .i64 (.ofNat 0), .int .i64 (.ofNat 100), .int .i64 (.ofNat 10), .int .i64 (.ofNat 200), .int .i64 (.ofNat 30), .int .i64 (.ofNat 100)]], .agg [.int .i64 (.ofNat 185), .int .i64 (.ofNat 185)], 16, []⟩
set_option maxRecDepth 100000 in
theorem em30_ok : DeepFact Try.prog (EP Try.prog) em30 := deep (fuel := 2000) (n := 40) names mixes dt1_ok tab_ok (by decide +kernel)
def dt2 : List (Ent U) := em0 :: em1 :: em2 :: em3 :: em4 :: em5 :: em6 :: em7 :: em8 :: em9 :: em10 :: em11 :: em12 :: em13 :: em14 :: em15 :: em16 :: em17 :: em18 :: em19 :: em20 :: em21 :: em22 :: em23 :: em24 :: em25 :: em26 :: em27 :: em28 :: em29 :: em30 :: dt1
theorem dt2_ok : DTabOk Try.prog (EP Try.prog) dt2 := dtab_cons em0_ok (dtab_cons em1_ok (dtab_cons em2_ok (dtab_cons em3_ok (dtab_cons em4_ok (dtab_cons em5_ok (dtab_cons em6_ok (dtab_cons em7_ok (dtab_cons em8_ok (dtab_cons em9_ok (dtab_cons em10_ok (dtab_cons em11_ok (dtab_cons em12_ok (dtab_cons em13_ok (dtab_cons em14_ok (dtab_cons em15_ok (dtab_cons em16_ok (dtab_cons em17_ok (dtab_cons em18_ok (dtab_cons em19_ok (dtab_cons em20_ok (dtab_cons em21_ok (dtab_cons em22_ok (dtab_cons em23_ok (dtab_cons em24_ok (dtab_cons em25_ok (dtab_cons em26_ok (dtab_cons em27_ok (dtab_cons em28_ok (dtab_cons em29_ok (dtab_cons em30_ok (dt1_ok)))))))))))))))))))))))))))))))
end Go.Proofs.Ytncnpgmfeneliaa.earthKnown
