/- CasingProves: whatever the tests and the numbers, both answers are the same. No condition. -/
import Derived.Test.YtcddppakogialaaP1
import Derived.Test.YtcddppakogialaaLCasingProves
set_option linter.unusedVariables false
set_option maxRecDepth 100000
noncomputable section
namespace Go.Proofs.Ytcddppakogialaa.W
open Go Go.Cx Go.RowKit
theorem t8 (l : List Test) (a b c : Int) : runX ctPr noLoops 8 [.sl 70 l false, i64 a, i64 b, i64 c] [4] =
  (.br (decide ((↑(List.length l) : Int) > (26 : Int)))
   (.leaf (.bool (true)))
   (.req ((0 : Nat) + List.length l ≤ (1073741824 : Nat))
   (.req (List.length ([] ++ l) = List.length ([] ++ l))
   (.br (proven ([] ++ l) a b c == proven l a b c)
    (.leaf (.bool (true)))
    (.leaf (.bool (false))))))) := by kernel_rfl
theorem casingProves_proved : Rows.CasingProvesSaid := casingProves_said fun l a b c _ _ _ _ => fact_run ctPr_ok noLoops_ok (ts := [4]) rfl (by
  rw [t8]
  exact way (fun _ => rfl) fun h => ⟨by omega, rfl, wayB (fun _ => rfl) fun k => by simp at k⟩)
end Go.Proofs.Ytcddppakogialaa.W
