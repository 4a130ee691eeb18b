/- HousePressures: the static pressure and the loss at a depth are those of the reference, whatever the phase and the depth. No condition. -/
import Derived.Test.YtfajcbcjinabiaaHP
import Derived.Test.YtfajcbcjinabiaaW
import Derived.Test.YtfajcbcjinabiaaLHousePressures
set_option linter.unusedVariables false
set_option maxRecDepth 100000
set_option maxHeartbeats 4000000
noncomputable section
namespace Go.Proofs.Ytfajcbcjinabiaa.W
open Go Go.Cx Go.RowKit
noncomputable def ctHL : CTab T := [(13, cAwake), (9, cLoss), (10, cLoss), (11, cStat), (12, cStat)]
theorem ctHL_ok : CTabOk Try.prog E ctHL := .cons awake_ok (.cons loss_ok (.cons loss2_ok (.cons stat_ok (.cons stat2_ok .nil))))
noncomputable def lawHP (x : Phase) (z : Int) : Tree (AV T) :=
  .req (-9223372036854775808 ≤ x.Long ∧ x.Long ≤ 9223372036854775807) (.req (-9223372036854775808 ≤ x.Long ∧ x.Long ≤ 9223372036854775807)
   (.br (stV x z == stV x z) (.br (liV x z == liV x z) (.br (liB x z == liB x z) (.leaf (.bool true)) (.leaf (.bool false))) (.leaf (.bool false))) (.leaf (.bool false))))
theorem tHL (x : Phase) (z : Int) : runX ctHL noLoops 3 [x.av, i64 z] [4] = lawHP x z := by kernel_rfl
theorem eqb_y {a b : Bool} {t f : Tree (AV T)} {Q : AV T → Prop} (h : a = b) (k : t.holds Q) : (Tree.br (a == b) t f).holds Q := by
  subst h
  exact ⟨fun _ => k, fun c => (by cases a <;> cases c)⟩
theorem housePressures_proved : Rows.HousePressuresSaid := housePressures_said fun x z hx _ => fact_run ctHL_ok noLoops_ok (ts := [4]) rfl (by
  rw [tHL]
  have hb : -9223372036854775808 ≤ x.Long ∧ x.Long ≤ 9223372036854775807 := hx.2.2.2.2.2.2.2.2.1
  exact ⟨hb, hb, wayEq (fun _ => wayEq (fun _ => eqb_y rfl rfl) fun h => absurd rfl h) fun h => absurd rfl h⟩)
end Go.Proofs.Ytfajcbcjinabiaa.W
