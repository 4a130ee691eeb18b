/- The examples of the chapter that every statement of the stage asks. No condition. -/
import Derived.Test.YtmnhfjhlfgebiaaTy
set_option linter.unusedVariables false
set_option maxRecDepth 100000
noncomputable section
namespace Go.Proofs.Ytmnhfjhlfgebiaa.W
open Go Go.Cx Go.RowKit
def isT : Tree (AV T) → Bool
  | .leaf (.bool b) => b
  | _ => false
theorem isT_eq {t : Tree (AV T)} (h : isT t = true) : t = .leaf (.bool true) := by
  unfold isT at h
  split at h
  · rw [h]
  · cases h
theorem awake : Fact Try.prog E 20 [] (.bool true) := fact_of_run (ts := [4]) good decOk (callX_ok (fuel := 1000) good names mixes .nil noLoops_ok 16) rfl (by
  rw [isT_eq (show isT (resX Try.prog E [4] (callX Try.prog E [] noLoops 1000 16 (.fn 20) [] hp0)) = true by decide +kernel)]
  rfl)
noncomputable def cAwake : Con T := conV Try.prog [] [] (fun _ => .bool true)
theorem awake_ok : ConOk Try.prog E 20 cAwake := conV_ok fun _ => awake
end Go.Proofs.Ytmnhfjhlfgebiaa.W
