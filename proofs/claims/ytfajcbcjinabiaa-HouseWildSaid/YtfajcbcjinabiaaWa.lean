/- HouseWild: what is compared. No condition. -/
import Derived.Test.YtfajcbcjinabiaaA
import Derived.Test.YtfajcbcjinabiaaW
set_option linter.unusedVariables false
set_option maxRecDepth 100000
set_option maxHeartbeats 4000000
noncomputable section
namespace Go.Proofs.Ytfajcbcjinabiaa.W
open Go Go.Cx Go.RowKit
noncomputable def ctHW : CTab T := [(13, cAwake)]
theorem ctHW_ok : CTabOk Try.prog E ctHW := .cons awake_ok .nil
noncomputable def mv (L g r : Int) : Int := bif false then if IntKind.wrap IntKind.i64 (g + r) > L then IntKind.wrap IntKind.i64 (g + r) else L else if IntKind.wrap IntKind.i64 (g + r) < L then IntKind.wrap IntKind.i64 (g + r) else L
noncomputable def wt (L g r n c : Int) : Int := IntKind.wrap IntKind.i64 (IntKind.wrap IntKind.i64 (mv L g r * n) + c)
noncomputable def wu (L g r n c : Int) : Int := IntKind.wrap IntKind.i64 (wt L g r n c + 1)
noncomputable def wTree (L n r : Int) : List (Int × Int) → Tree (AV T)
  | [] => .leaf (.bool true)
  | x :: k => .br (wt L x.1 r n x.2 != wt L x.1 r n x.2) (.leaf (.bool false)) (.br (wu L x.1 r n x.2 != wu L x.1 r n x.2) (.leaf (.bool false)) (wTree L n r k))
theorem wTree_ok (L n r : Int) : ∀ l : List (Int × Int), (wTree L n r l).holds fun v => v = .bool true
  | [] => rfl
  | x :: k => wayNe (fun h => absurd rfl h) fun _ => wayNe (fun h => absurd rfl h) fun _ => wTree_ok L n r k
noncomputable def wAll (r : Int) (t : Tree (AV T)) : Tree (AV T) :=
  (.br (decide (r < (1 : Int)))
   (.br (decide (r < (1 : Int)))
    (.leaf (.bool (true)))
    (.br (decide (r > (15 : Int)))
     (.leaf (.bool (true)))
     (.leaf (.bool (false)))))
   (.br (decide (r > (15 : Int)))
    (.br (decide (r < (1 : Int)))
     (.leaf (.bool (true)))
     (.br (decide (r > (15 : Int)))
      (.leaf (.bool (true)))
      (.leaf (.bool (false)))))
    (.br (decide (r < (1 : Int)))
     (.leaf (.bool (false)))
     (.br (decide (r > (15 : Int)))
      (.leaf (.bool (false)))
      t))))
theorem wAll_ok {r : Int} {t : Tree (AV T)} (h : t.holds fun v => v = .bool true) : (wAll r t).holds fun v => v = .bool true :=
  way (fun k => way (fun _ => rfl) fun c => absurd k c) fun k => way (fun k2 => way (fun _ => rfl) fun _ => way (fun _ => rfl) fun c => absurd k2 c) fun k2 => way (fun c => absurd c k) fun _ => way (fun c => absurd c k2) fun _ => h
end Go.Proofs.Ytfajcbcjinabiaa.W
