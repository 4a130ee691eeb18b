/- FluidPress. No condition. -/
import Derived.Test.YtnhedcaphncliaaH6
import Derived.Test.YtnhedcaphncliaaW
import Derived.Test.YtnhedcaphncliaaLFluidPress
set_option linter.unusedVariables false
set_option maxRecDepth 100000
set_option maxHeartbeats 4000000
noncomputable section
namespace Go.Proofs.Ytnhedcaphncliaa.W
open Go Go.Cx Go.RowKit Hole
noncomputable def ctPr : CTab T := (36, cEq) :: (37, cEq) :: (19, cAwake) :: (999983, cFz) :: ctG
theorem ctPr_ok : CTabOk Try.prog E ctPr := .cons eq_ok (.cons eq2_ok (.cons awake_ok (.cons cFz_ok ctG_ok)))
theorem tv5 (h : List Seg) (l : List Slug) (a u : Int) : runX ctPr noLoops 5 [.agg [.sl 52 h false], .sl 47 l false, i64 a, i64 u] [4] =
  (.br (decide ((↑(List.length h) : Int) > (18 : Int)))
   (.leaf (.bool (true)))
   (.br (decide ((↑(List.length l) : Int) > (26 : Int)))
    (.leaf (.bool (true)))
    (.req (inLg h ∧ inVm l)
    (.req (inLg h ∧ inVm l)
    (.req (inLg h ∧ inVm l)
    (.req (inLg h ∧ inVm l)
    (.br (pLo h l a u == pLo h l a u && (pHi h l a u == pHi h l a u && true))
     (.br (pE h l a u == pE h l a u)
      (.br (eqLo h l a u == eqLo h l a u && (eqHi h l a u == eqHi h l a u && true))
       (.br (eqE h l a u == eqE h l a u)
        (.leaf (.bool (true)))
        (.leaf (.bool (false))))
       (.leaf (.bool (false))))
      (.leaf (.bool (false))))
     (.leaf (.bool (false)))))))))) := by kernel_rfl
theorem s5 (h : List Seg) (l : List Slug) (a u : Int) (h1 : inLg h) (h2 : inVm l) : (runX ctPr noLoops 5 [.agg [.sl 52 h false], .sl 47 l false, i64 a, i64 u] [4]).holds fun v => v = .bool true := by
  rw [tv5]
  have r : ∀ x : Int, (x == x) = true := fun x => beq_self_eq_true x
  rw [r, r, r, r, r, r]
  exact way (fun _ => rfl) fun c => way (fun _ => rfl) fun c2 => ⟨⟨h1, h2⟩, ⟨h1, h2⟩, ⟨h1, h2⟩, ⟨h1, h2⟩, wayB (fun _ => wayB (fun _ => wayB (fun _ => wayB (fun _ => rfl) (no_way rfl)) (no_way rfl)) (no_way rfl)) (no_way rfl)⟩
theorem fluidPress_proved : Rows.FluidPressSaid := fluidPress_said fun h l a u hh hl _ _ => fact_run ctPr_ok noLoops_ok (ts := [4]) rfl (s5 h.Segs l a u (fun s hs => (hh.1.1 s hs).1.2) fun s hs => (hl.1 s hs).2.1.2)
end Go.Proofs.Ytnhedcaphncliaa.W
