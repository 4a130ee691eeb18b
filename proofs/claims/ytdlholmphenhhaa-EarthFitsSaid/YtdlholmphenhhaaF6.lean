/- EarthFits. No condition. -/
import Derived.Test.YtdlholmphenhhaaF5
import Derived.Test.YtdlholmphenhhaaLEarthFits
set_option linter.unusedVariables false
set_option maxRecDepth 100000
noncomputable section
namespace Go.Proofs.Ytdlholmphenhhaa.W
open Go Go.Cx Go.RowKit
theorem s7 (e : Earth) (p f : List Knot) : (runX ctE7 noLoops 7 [e.av, .agg [.sl 78 p false, .sl 78 f false]] [4]).holds fun v => v = .bool true := by
  rw [tv7]
  have be : ∀ b : Bool, (b == b) = true := by decide
  refine wayB (fun _ => wayB (fun _ => wayB (fun _ => wayB (fun _ => wayB (fun _ => rfl) fun _ => wayB (fun _ => rfl) fun _ => wayB (fun _ => rfl) fun _ => wayB (fun _ => rfl) fun q => ?_) fun _ => rfl) fun _ => rfl) fun _ => rfl) fun _ => rfl
  rw [be] at q; exact absurd q (by decide)
theorem earthFits_proved : Rows.EarthFitsSaid := earthFits_said fun e t _ _ => fact_run ctE7_ok noLoops_ok (ts := [4]) rfl (s7 e t.Pore.Knots t.Frac.Knots)
end Go.Proofs.Ytdlholmphenhhaa.W
