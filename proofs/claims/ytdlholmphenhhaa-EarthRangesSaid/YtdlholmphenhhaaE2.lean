/- EarthRanges: whatever the earth and the depth, both answers are the same. No condition. -/
import Derived.Test.YtdlholmphenhhaaV10
import Derived.Test.YtdlholmphenhhaaW
import Derived.Test.YtdlholmphenhhaaLEarthRanges
set_option linter.unusedVariables false
set_option maxRecDepth 100000
noncomputable section
namespace Go.Proofs.Ytdlholmphenhhaa.W
open Go Go.Cx Go.RowKit
noncomputable abbrev ctE2 : CTab T := (17, cAwake) :: (38, cCopy) :: (45, cSameE) :: (39, cPore) :: (40, cPore) :: (41, cFrac) :: (42, cFrac) :: (43, cWindow) :: (44, cWindow) :: ctB
theorem ctE2_ok : CTabOk Try.prog E ctE2 := .cons awake_ok (.cons copy_ok (.cons sameE_ok (.cons pore_ok (.cons pore2_ok (.cons frac_ok (.cons frac2_ok (.cons window_ok (.cons window2_ok ctB_ok))))))))
noncomputable def smTree (e : Earth) (a b : Tree (AV T)) : Tree (AV T) :=
  .br (decide ((e.PoreLo.Knots.length : Int) ≤ 26)) (.br (decide ((e.PoreHi.Knots.length : Int) ≤ 26)) (.br (decide ((e.FracLo.Knots.length : Int) ≤ 26)) (.br (decide ((e.FracHi.Knots.length : Int) ≤ 26)) (.br (!decide ((e.Reports.length : Int) ≤ 26)) b a) b) b) b) b
theorem smTree_ok {e : Earth} {a b : Tree (AV T)} {Q : AV T → Prop} (ha : smallE e → a.holds Q) (hb : b.holds Q) : (smTree e a b).holds Q :=
  way (fun h1 => way (fun h2 => way (fun h3 => way (fun h4 => wayN (fun _ => hb) fun h5 => ha ⟨⟨by omega, by omega, by omega, by omega⟩, by omega⟩) fun _ => hb) fun _ => hb) fun _ => hb) fun _ => hb
@[reducible] noncomputable def eqRg (a b c d : Int) : Bool := a == c && (b == d && true)
theorem eqRg_self (a b : Int) : eqRg a b a b = true := by unfold eqRg; simp
theorem t6 (e : Earth) (z : Int) : runX ctE2 noLoops 6 [e.av, i64 z] [4] = smTree e
  (.req (smallE e) (.br (eqRg (kP pLo e z) (kP pHi e z) (kP pLo e z) (kP pHi e z)) (.br (eqRg (kP fLo e z) (kP fHi e z) (kP fLo e z) (kP fHi e z)) (.br (eqRg (kP pHi e z) (kP fLo e z) (kP pHi e z) (kP fLo e z)) (.req (smallE e ∧ smallE e) (.br (sameE e e) (.leaf (.bool true)) (.leaf (.bool false)))) (.leaf (.bool false))) (.leaf (.bool false))) (.leaf (.bool false))))
  (.leaf (.bool true)) := by kernel_rfl
theorem earthRanges_proved : Rows.EarthRangesSaid := earthRanges_said fun e z _ _ => fact_run ctE2_ok noLoops_ok (ts := [4]) rfl (by
  rw [t6]
  refine smTree_ok (fun h => ⟨h, wayB (fun _ => wayB (fun _ => wayB (fun _ => ⟨⟨h, h⟩, wayB (fun _ => rfl) fun k => ?_⟩) fun k => ?_) fun k => ?_) fun k => ?_⟩) rfl
  · rw [sameE_self] at k; cases k
  · rw [eqRg_self] at k; cases k
  · rw [eqRg_self] at k; cases k
  · rw [eqRg_self] at k; cases k)
end Go.Proofs.Ytdlholmphenhhaa.W
