/- FluidLeast. No condition. -/
import Derived.Test.YtfajcbcjinabiaaMG
set_option linter.unusedVariables false
set_option maxRecDepth 100000
set_option maxHeartbeats 4000000
noncomputable section
namespace Go.Proofs.Ytfajcbcjinabiaa.W
open Go Go.Cx Go.RowKit
noncomputable def grB (L R A G Y V q : Int) : Bool := decide (vf L R A G Y V q) && gB A G Y V q
noncomputable def grN (L R A G Y V q : Int) : Int := if vf L R A G Y V q then gN A G Y V q else 0
theorem s40 (L R A G Y V q : Int) (h : -9223372036854775808 ≤ L ∧ L ≤ 9223372036854775807) : (runX ctI noLoops 34 [.agg [i64 L, i64 R, i64 A, i64 G], .agg [i64 Y, i64 V], i64 q] [2, 4]).holds fun v => v = .tup [i64 (grN L R A G Y V q), .bool (grB L R A G Y V q)] := by
  rw [tv40]
  unfold grN grB
  refine ⟨h, wayB (fun k => ?_) fun k => ?_⟩
  · have k : decide (vf L R A G Y V q) = false := by
      cases e : decide (vf L R A G Y V q) with
      | false => rfl
      | true => rw [e] at k; exact absurd k (by decide)
    rw [k, if_neg (of_decide_eq_false k)]; rfl
  · have k : decide (vf L R A G Y V q) = true := by
      cases e : decide (vf L R A G Y V q) with
      | true => rfl
      | false => rw [e] at k; exact absurd k (by decide)
    rw [k, if_pos (of_decide_eq_true k)]
    exact ⟨⟨⟨rfl, rfl⟩, of_decide_eq_true k⟩, rfl⟩
noncomputable def cGr : Con T := conP Try.prog [shSg, shM, .one (.i .i64)] [.n, .n, .n, .n, .n, .n, .n] (fun d => -9223372036854775808 ≤ d.1 ∧ d.1 ≤ 9223372036854775807) fun d => .tup [i64 (grN d.1 d.2.1 d.2.2.1 d.2.2.2.1 d.2.2.2.2.1 d.2.2.2.2.2.1 d.2.2.2.2.2.2.1), .bool (grB d.1 d.2.1 d.2.2.1 d.2.2.2.1 d.2.2.2.2.1 d.2.2.2.2.2.1 d.2.2.2.2.2.2.1)]
theorem gr_ok : ConOk Try.prog E 34 cGr := conP_ok fun d hd => fact_run ctI_ok noLoops_ok (ts := [2, 4]) rfl (s40 _ _ _ _ _ _ _ hd)
end Go.Proofs.Ytfajcbcjinabiaa.W
