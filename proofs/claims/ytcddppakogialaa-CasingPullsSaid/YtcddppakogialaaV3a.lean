/- The values of a line at a place, or zero. No condition. -/
import Derived.Test.YtcddppakogialaaV2
set_option linter.unusedVariables false
set_option maxRecDepth 100000
noncomputable section
namespace Go.Proofs.Ytcddppakogialaa.W
open Go Go.Cx Go.RowKit
noncomputable def ki (l : List Int) (i : Int) : Int := ixD E 2 l i
theorem drop_kn {l : List Knot} {i : Nat} (h : i < l.length) : l.drop i = kn l i :: l.drop (i + 1) := drop_ix (E := E) (τ := 39) h
theorem drop_ki {l : List Int} {i : Nat} (h : i < l.length) : l.drop i = ki l i :: l.drop (i + 1) := drop_ix (E := E) (τ := 2) h
noncomputable def ctV : CTab T := (99, cVal) :: (115, cVal) :: (98, cRight) :: (114, cRight) :: ctL
theorem ctV_ok : CTabOk Try.prog E ctV := .cons val_ok (.cons val2_ok (.cons right_ok (.cons right2_ok ctL_ok)))
/-! ### At -/
noncomputable def atLo (l : List Knot) (x : Int) : Int := if isR l then valLo l x else 0
noncomputable def atHi (l : List Knot) (x : Int) : Int := if isR l then valHi l x else 0
noncomputable def cAt : Con T := conV Try.prog [.agg [.s 39], .one (.i .i64)] [.l 39, .n] fun d => .agg [i64 (atLo d.1 d.2.1), i64 (atHi d.1 d.2.1)]
noncomputable def atTree (l : List Knot) (x : Int) : Tree (AV T) :=
  (.br (!decide (isR l))
   (.leaf (.agg [.sym .i64 ((0 : Int)), .sym .i64 ((0 : Int))]))
   (.req (isR l)
   (.leaf (.agg [.sym .i64 (valLo l x), .sym .i64 (valHi l x)]))))
theorem tv21 (l : List Knot) (x : Int) : runX ctV noLoops 50 [(⟨l⟩ : Line).av, i64 x] [58] = atTree l x := by kernel_rfl
theorem tv22 (l : List Knot) (x : Int) : runX ctV noLoops 89 [(⟨l⟩ : Line).av, i64 x] [58] = atTree l x := by kernel_rfl
theorem atTree_ok (l : List Knot) (x : Int) : (atTree l x).holds fun v => v = .agg [i64 (atLo l x), i64 (atHi l x)] := by
  unfold atTree atLo atHi
  refine wayN (fun h => ?_) fun h => ⟨h, ?_⟩
  · rw [if_neg h, if_neg h]; rfl
  · rw [if_pos h, if_pos h]; rfl
theorem s21 (l : List Knot) (x : Int) : (runX ctV noLoops 50 [(⟨l⟩ : Line).av, i64 x] [58]).holds fun v => v = .agg [i64 (atLo l x), i64 (atHi l x)] := by rw [tv21]; exact atTree_ok l x
theorem s22 (l : List Knot) (x : Int) : (runX ctV noLoops 89 [(⟨l⟩ : Line).av, i64 x] [58]).holds fun v => v = .agg [i64 (atLo l x), i64 (atHi l x)] := by rw [tv22]; exact atTree_ok l x
theorem at_ok : ConOk Try.prog E 50 cAt := conV_ok fun d => fact_run ctV_ok noLoops_ok (ts := [58]) rfl (s21 d.1 d.2.1)
theorem at2_ok : ConOk Try.prog E 89 cAt := conV_ok fun d => fact_run ctV_ok noLoops_ok (ts := [58]) rfl (s22 d.1 d.2.1)
end Go.Proofs.Ytcddppakogialaa.W
