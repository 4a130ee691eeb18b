/- EarthValues: whatever the lines and the places, both answers are the same. No condition. -/
import Derived.Test.YtdlholmphenhhaaV5
import Derived.Test.YtdlholmphenhhaaW
import Derived.Test.YtdlholmphenhhaaLEarthValues
set_option linter.unusedVariables false
set_option maxRecDepth 100000
noncomputable section
namespace Go.Proofs.Ytdlholmphenhhaa.W
open Go Go.Cx Go.RowKit
noncomputable abbrev ctE1 : CTab T := (17, cAwake) :: (20, cOwn) :: (21, cAt) :: (22, cAt) :: (23, cLeast) :: (24, cLeast) :: (25, cMost) :: (26, cMost) :: (27, cAbove) :: (28, cAbove) :: (29, cSame) :: ctA
theorem ctE1_ok : CTabOk Try.prog E ctE1 := .cons awake_ok (.cons own_ok (.cons at_ok (.cons at2_ok (.cons okLeast (.cons ok2Least (.cons okMost (.cons ok2Most (.cons above_ok (.cons above2_ok (.cons same_ok ctA_ok))))))))))
theorem t4 (a b : Line) (x y : Int) : runX ctE1 noLoops 4 [a.av, b.av, i64 x, i64 y] [4] =
  (.br (!decide ((↑(List.length (Line.Knots a)) : Int) ≤ (26 : Int)))
   (.leaf (.bool (true)))
   (.br (!decide ((↑(List.length (Line.Knots b)) : Int) ≤ (26 : Int)))
    (.leaf (.bool (true)))
    (.req (List.length (Line.Knots a) ≤ (1000 : Nat))
    (.br (!(atLo (Line.Knots a) x == atLo (Line.Knots a) x && (atHi (Line.Knots a) x == atHi (Line.Knots a) x && true)))
     (.leaf (.bool (false)))
     (.br (!(exLeastLo (Line.Knots a) x y == exLeastLo (Line.Knots a) x y && (exLeastHi (Line.Knots a) x y == exLeastHi (Line.Knots a) x y && true)))
      (.leaf (.bool (false)))
      (.br (!(exMostLo (Line.Knots a) x y == exMostLo (Line.Knots a) x y && (exMostHi (Line.Knots a) x y == exMostHi (Line.Knots a) x y && true)))
       (.leaf (.bool (false)))
       (.br (above (Line.Knots a) (Line.Knots b) == above (Line.Knots a) (Line.Knots b))
        (.req (List.length (Line.Knots a) ≤ (1000 : Nat) ∧ List.length (Line.Knots a) ≤ (1000 : Nat))
        (.br (sameB (Line.Knots a) (Line.Knots a))
         (.leaf (.bool (true)))
         (.leaf (.bool (false)))))
        (.leaf (.bool (false)))))))))) := by kernel_rfl
theorem earthValues_proved : Rows.EarthValuesSaid := earthValues_said fun a b x y _ _ _ _ => fact_run ctE1_ok noLoops_ok (ts := [4]) rfl (by
  rw [t4]
  have q : ∀ a b : Int, (a == a && (b == b && true)) = true := fun a b => by simp
  refine wayN (fun h => rfl) fun h1 => wayN (fun h => rfl) fun h2 => ⟨by omega, wayB (fun k => ?_) fun _ => wayB (fun k => ?_) fun _ => wayB (fun k => ?_) fun _ => wayB (fun _ => ⟨⟨by omega, by omega⟩, wayB (fun _ => rfl) fun k => ?_⟩) fun k => ?_⟩
  · rw [q] at k; cases k
  · rw [q] at k; cases k
  · rw [q] at k; cases k
  · rw [sameB_self] at k; cases k
  · simp at k)
end Go.Proofs.Ytdlholmphenhhaa.W
