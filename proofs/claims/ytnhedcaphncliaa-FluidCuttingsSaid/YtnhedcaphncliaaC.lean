/- FluidCuttings: whatever the segment and the numbers, loads and mixed weights are the same. -/
import Derived.Test.YtnhedcaphncliaaB
import Derived.Test.YtnhedcaphncliaaW
import Derived.Test.YtnhedcaphncliaaLFluidCuttings
set_option linter.unusedVariables false
set_option maxRecDepth 100000
noncomputable section
namespace Go.Proofs.Ytnhedcaphncliaa.W
open Go Go.Cx Go.RowKit
noncomputable abbrev ctC : CTab T := [(19, cAwake), (52, cLoad), (53, cLoad), (54, cMixed), (55, cMixed)]
theorem ctC_ok : CTabOk Try.prog E ctC := .cons awake_ok (.cons load_ok (.cons load2_ok (.cons mixed_ok (.cons mixed2_ok .nil))))
theorem t9 (x : Seg) (a b c d e f : Int) : runX ctC noLoops 9 [x.av, i64 a, i64 b, i64 c, i64 d, i64 e, i64 f] [4] =
  (.req (inL (Seg.mk (Seg.Long x) (Seg.Rise x) (Seg.Area x) (Seg.Gap x)))
  (.req (inL (Seg.mk (Seg.Long x) (Seg.Rise x) (Seg.Area x) (Seg.Gap x)))
  (.br (load (Seg.mk (Seg.Long x) (Seg.Rise x) (Seg.Area x) (Seg.Gap x)) a b c == load (Seg.mk (Seg.Long x) (Seg.Rise x) (Seg.Area x) (Seg.Gap x)) a b c)
   (.br (decide (okL (Seg.mk (Seg.Long x) (Seg.Rise x) (Seg.Area x) (Seg.Gap x)) a b c) == decide (okL (Seg.mk (Seg.Long x) (Seg.Rise x) (Seg.Area x) (Seg.Gap x)) a b c))
    (.br (mixed d e f == mixed d e f)
     (.leaf (.bool (true)))
     (.leaf (.bool (false))))
    (.leaf (.bool (false))))
   (.leaf (.bool (false)))))) := by kernel_rfl
theorem fluidCuttings_proved : Rows.FluidCuttingsSaid := fluidCuttings_said fun x a b c d e f hx _ _ _ _ _ _ => fact_run ctC_ok noLoops_ok (ts := [4]) rfl (by
  rw [t9]
  have hi : inL x := ⟨hx.1.1, hx.1.2⟩
  exact ⟨hi, hi, wayEq (fun _ => wayB (fun _ => wayEq (fun _ => rfl) fun h => absurd rfl h) fun h => by simp at h) fun h => absurd rfl h⟩)
end Go.Proofs.Ytnhedcaphncliaa.W
