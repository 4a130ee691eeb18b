/- EarthLines: whatever the line and the limits, both checks answer the same. -/
import Derived.Test.YtdlholmphenhhaaA
import Derived.Test.YtdlholmphenhhaaW
import Derived.Test.YtdlholmphenhhaaLEarthLines
set_option linter.unusedVariables false
set_option maxRecDepth 100000
noncomputable section
namespace Go.Proofs.Ytdlholmphenhhaa.W
open Go Go.Cx Go.RowKit
def cAwake : Con T := conV [] [] (fun _ => .bool true)
theorem awake_ok : ConOk Try.prog E 17 cAwake := conV_ok fun _ => awake
abbrev ctL : CTab T := [(16, cShort), (17, cAwake), (18, cLine), (19, cLine)]
theorem ctL_ok : CTabOk Try.prog E ctL := .cons short_ok (.cons awake_ok (.cons line18_ok (.cons line19_ok .nil)))
theorem t3 (l : List Knot) (at' v : Int) : runX ctL noLoops 3 [(⟨l⟩ : Line).av, i64 at', i64 v] [4] =
  (.br (!decide ((↑(List.length l) : Int) ≤ (26 : Int)))
   (.leaf (.bool (true)))
   (.br (lineErr l at' v == lineErr l at' v)
    (.leaf (.bool (true)))
    (.leaf (.bool (false))))) := by kernel_rfl
theorem earthLines_proved : Rows.EarthLinesSaid := earthLines_said fun l at' v _ _ _ => fact_run ctL_ok noLoops_ok (ts := [4]) rfl (by
  obtain ⟨l⟩ := l
  show (runX ctL noLoops 3 [(⟨l⟩ : Line).av, i64 at', i64 v] [4]).holds _
  rw [t3]
  refine ⟨fun _ => rfl, fun _ => ⟨fun _ => rfl, fun h => ?_⟩⟩
  rw [beq_self_eq_true] at h
  cases h)
end Go.Proofs.Ytdlholmphenhhaa.W
