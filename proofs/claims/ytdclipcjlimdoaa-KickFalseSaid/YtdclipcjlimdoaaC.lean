/- KickFinds: what both say of a well that was shut in. -/
import Derived.Test.YtdclipcjlimdoaaB
set_option linter.unusedVariables false
set_option maxRecDepth 100000
noncomputable section
namespace Go.Proofs.Ytdclipcjlimdoaa.W
open Go Go.Cx Go.RowKit
theorem t95 (x : Range) : runX [] noLoops 95 [x.av] [3] =
  (.br (decide (Range.Hi x ≤ (3500 : Int)))
   (.leaf (.sym .i64 ((1 : Int))))
   (.br (decide (Range.Lo x ≥ (9000 : Int)))
    (.leaf (.sym .i64 ((3 : Int))))
    (.br (decide (Range.Lo x ≥ (3501 : Int)))
     (.br (decide (Range.Hi x ≤ (8999 : Int)))
      (.leaf (.sym .i64 ((2 : Int))))
      (.leaf (.sym .i64 ((4 : Int)))))
     (.leaf (.sym .i64 ((4 : Int))))))) := by kernel_rfl
noncomputable def kind (lo hi : Int) : Int := if hi ≤ 3500 then 1 else if lo ≥ 9000 then 3 else if lo ≥ 3501 ∧ hi ≤ 8999 then 2 else 4
noncomputable def cKind : Con T := conV Try.prog [.agg [.i .i64, .i .i64]] [.n, .n] fun d => i64 (kind d.1 d.2.1)
theorem kind_ok : ConOk Try.prog E 95 cKind := conV_ok fun d => fact_run .nil noLoops_ok (ts := [3]) rfl (by
  show (runX [] noLoops 95 [(⟨d.1, d.2.1⟩ : Range).av] [3]).holds fun v => v = i64 (kind (⟨d.1, d.2.1⟩ : Range).Lo (⟨d.1, d.2.1⟩ : Range).Hi)
  generalize (⟨d.1, d.2.1⟩ : Range) = x
  rw [t95]
  unfold kind
  (repeat' first | (apply wayEq <;> intro _) | (apply wayNe <;> intro _) | (apply wayNEq <;> intro _) | (apply way <;> intro _) | (apply wayN <;> intro _) | (apply wayB <;> intro _)) <;> refine congrArg i64 ?_ <;> (repeat' split) <;> omega)
noncomputable def ct1 : CTab T := [(92, cChk), (93, cFloor), (94, cCeil), (95, cKind)]
theorem ct1_ok : CTabOk Try.prog E ct1 := .cons chk_ok (.cons floor_ok (.cons ceil_ok (.cons kind_ok .nil)))
noncomputable def ct2 : CTab T := [(96, cChk), (97, cFloor), (67, cWithin)]
theorem ct2_ok : CTabOk Try.prog E ct2 := .cons chk2_ok (.cons floor2_ok (.cons between_ok .nil))
end Go.Proofs.Ytdclipcjlimdoaa.W
