/- CasingParts. No condition. -/
import Derived.Test.YtcddppakogialaaJ2
import Derived.Test.YtcddppakogialaaLCasingParts
set_option linter.unusedVariables false
set_option maxRecDepth 100000
set_option maxHeartbeats 4000000
noncomputable section
namespace Go.Proofs.Ytcddppakogialaa.W.Jb
open Go Go.Cx Go.RowKit
theorem tvCP (e l g : List Int) (f o x y z : Int) : runX ctJ (llOfN Try.prog E 47 1 [(4, cJA), (9, cJB), (13, cJC)]) 14 [.agg [.sl 2 e false, .sl 2 l false, .sl 2 g false, i64 f, i64 o], i64 x, i64 y, i64 z] [4] =
  (.req (mPre f (500 : Int))
  (.req (mPre o (20000000 : Int))
  (.req (((0 : Int) ≤ (0 : Int) ∧ (0 : Int) ≤ (3 : Int)) ∧ ((0 : Int) ≤ (0 : Int) ∧ (0 : Int) ≤ (150000 : Int) * (0 : Int)) ∧ (↑((0 : Nat)) : Int) ≤ (0 : Int))
  (.req (List.length ([] ++ endL e (Int.toNat ((4 : Int) - (0 : Int))) (0 : Int) (0 : Int)) = List.length ([] ++ endL e (Int.toNat ((4 : Int) - (0 : Int))) (0 : Int) (0 : Int)))
  (.req ((0 : Nat) = (0 : Nat))
  (.req ((0 : Nat) = (0 : Nat))
  (.req (((0 : Int) ≤ (0 : Int) ∧ (0 : Int) ≤ (3 : Int)) ∧ (↑((0 : Nat)) : Int) ≤ (0 : Int))
  (.req (List.length ([] ++ endL e (Int.toNat ((4 : Int) - (0 : Int))) (0 : Int) (0 : Int)) = List.length ([] ++ endL e (Int.toNat ((4 : Int) - (0 : Int))) (0 : Int) (0 : Int)))
  (.req (List.length ([] ++ ldL l (Int.toNat ((3 : Int) - (0 : Int))) (0 : Int)) = List.length ([] ++ ldL l (Int.toNat ((3 : Int) - (0 : Int))) (0 : Int)))
  (.req ((0 : Nat) = (0 : Nat))
  (.req (((0 : Int) ≤ (0 : Int) ∧ (0 : Int) ≤ (4 : Int)) ∧ (↑((0 : Nat)) : Int) ≤ (0 : Int))
  (.br ((↑(List.length ([] ++ ldL l (Int.toNat ((3 : Int) - (0 : Int))) (0 : Int))) : Int) == (0 : Int))
   (.leaf (.bool (true)))
   (.req ((true && decide ((0 : Int) < (↑(List.length ([] ++ ldL l (Int.toNat ((3 : Int) - (0 : Int))) (0 : Int))) : Int))) = true)
   (.req ((true && decide ((0 : Int) < (↑(List.length ([] ++ ldL l (Int.toNat ((3 : Int) - (0 : Int))) (0 : Int))) : Int))) = true)
   (.req (mPre x (300000 : Int))
   (.req (mPre y (300000 : Int))
   (.req (mPre z (300000 : Int))
   (.br (decide (exc (Line.Knots (Stress.In (sx ([] ++ ldL l (Int.toNat ((3 : Int) - (0 : Int))) (0 : Int)) (0 : Int)))) (Line.Knots (Stress.Out (sx ([] ++ ldL l (Int.toNat ((3 : Int) - (0 : Int))) (0 : Int)) (0 : Int)))) (x % (300000 : Int)) (IntKind.wrap IntKind.i64 (IntKind.wrap IntKind.i64 (x % (300000 : Int) + y % (300000 : Int)) + z % (300000 : Int))) ≥ IntKind.wrap IntKind.i64 (exc (Line.Knots (Stress.In (sx ([] ++ ldL l (Int.toNat ((3 : Int) - (0 : Int))) (0 : Int)) (0 : Int)))) (Line.Knots (Stress.Out (sx ([] ++ ldL l (Int.toNat ((3 : Int) - (0 : Int))) (0 : Int)) (0 : Int)))) (x % (300000 : Int)) (IntKind.wrap IntKind.i64 (x % (300000 : Int) + y % (300000 : Int))) - (1 : Int))))
    (.br (decide (exc (Line.Knots (Stress.Out (sx ([] ++ ldL l (Int.toNat ((3 : Int) - (0 : Int))) (0 : Int)) (0 : Int)))) (Line.Knots (Stress.In (sx ([] ++ ldL l (Int.toNat ((3 : Int) - (0 : Int))) (0 : Int)) (0 : Int)))) (x % (300000 : Int)) (IntKind.wrap IntKind.i64 (IntKind.wrap IntKind.i64 (x % (300000 : Int) + y % (300000 : Int)) + z % (300000 : Int))) ≥ IntKind.wrap IntKind.i64 (exc (Line.Knots (Stress.Out (sx ([] ++ ldL l (Int.toNat ((3 : Int) - (0 : Int))) (0 : Int)) (0 : Int)))) (Line.Knots (Stress.In (sx ([] ++ ldL l (Int.toNat ((3 : Int) - (0 : Int))) (0 : Int)) (0 : Int)))) (x % (300000 : Int)) (IntKind.wrap IntKind.i64 (x % (300000 : Int) + y % (300000 : Int))) - (1 : Int))))
     (.br (exc (Line.Knots (Stress.In (sx ([] ++ ldL l (Int.toNat ((3 : Int) - (0 : Int))) (0 : Int)) (0 : Int)))) (Line.Knots (Stress.Out (sx ([] ++ ldL l (Int.toNat ((3 : Int) - (0 : Int))) (0 : Int)) (0 : Int)))) (x % (300000 : Int)) (IntKind.wrap IntKind.i64 (x % (300000 : Int) + y % (300000 : Int))) == exc (Line.Knots (Stress.In (sx ([] ++ ldL l (Int.toNat ((3 : Int) - (0 : Int))) (0 : Int)) (0 : Int)))) (Line.Knots (Stress.Out (sx ([] ++ ldL l (Int.toNat ((3 : Int) - (0 : Int))) (0 : Int)) (0 : Int)))) (x % (300000 : Int)) (IntKind.wrap IntKind.i64 (x % (300000 : Int) + y % (300000 : Int))))
      (.br (exc (Line.Knots (Stress.Out (sx ([] ++ ldL l (Int.toNat ((3 : Int) - (0 : Int))) (0 : Int)) (0 : Int)))) (Line.Knots (Stress.In (sx ([] ++ ldL l (Int.toNat ((3 : Int) - (0 : Int))) (0 : Int)) (0 : Int)))) (x % (300000 : Int)) (IntKind.wrap IntKind.i64 (x % (300000 : Int) + y % (300000 : Int))) == exc (Line.Knots (Stress.Out (sx ([] ++ ldL l (Int.toNat ((3 : Int) - (0 : Int))) (0 : Int)) (0 : Int)))) (Line.Knots (Stress.In (sx ([] ++ ldL l (Int.toNat ((3 : Int) - (0 : Int))) (0 : Int)) (0 : Int)))) (x % (300000 : Int)) (IntKind.wrap IntKind.i64 (x % (300000 : Int) + y % (300000 : Int))))
       (.br (decide (IntKind.wrap IntKind.i64 (exc (Line.Knots (Stress.In (sx ([] ++ ldL l (Int.toNat ((3 : Int) - (0 : Int))) (0 : Int)) (0 : Int)))) (Line.Knots (Stress.Out (sx ([] ++ ldL l (Int.toNat ((3 : Int) - (0 : Int))) (0 : Int)) (0 : Int)))) (x % (300000 : Int)) (IntKind.wrap IntKind.i64 (x % (300000 : Int) + y % (300000 : Int))) + exc (Line.Knots (Stress.Out (sx ([] ++ ldL l (Int.toNat ((3 : Int) - (0 : Int))) (0 : Int)) (0 : Int)))) (Line.Knots (Stress.In (sx ([] ++ ldL l (Int.toNat ((3 : Int) - (0 : Int))) (0 : Int)) (0 : Int)))) (x % (300000 : Int)) (IntKind.wrap IntKind.i64 (x % (300000 : Int) + y % (300000 : Int)))) ≥ (0 : Int)))
        (.leaf (.bool (true)))
        (.leaf (.bool (false))))
       (.leaf (.bool (false))))
      (.leaf (.bool (false))))
     (.leaf (.bool (false))))
    (.leaf (.bool (false))))))))))))))))))))) := by kernel_rfl
theorem casingParts_proved : Rows.CasingPartsSaid := casingParts_said fun w x y z _ _ _ _ => fact_run ctJ_ok llJ (ts := [4]) rfl (by
  show (runX ctJ (llOfN Try.prog E 47 1 [(4, cJA), (9, cJB), (13, cJC)]) 14 [.agg [.sl 2 w.Ends false, .sl 2 w.Loads false, .sl 2 w.Grades false, i64 w.Factor, i64 w.Over], i64 x, i64 y, i64 z] [4]).holds _
  rw [tvCP]
  generalize [] ++ ldL w.Loads (Int.toNat (3 - 0)) 0 = D
  have hx : 0 ≤ x % 300000 ∧ x % 300000 < 300000 := by omega
  have hy : 0 ≤ y % 300000 ∧ y % 300000 < 300000 := by omega
  have hz : 0 ≤ z % 300000 ∧ z % 300000 < 300000 := by omega
  have p3 : ∀ n : Int, mPre n 300000 := fun n => ⟨by decide, by decide⟩
  refine ⟨⟨by decide, by decide⟩, ⟨by decide, by decide⟩, by decide, rfl, rfl, rfl, by decide, rfl, rfl, rfl, by decide, wayEq (fun _ => rfl) fun c => ?_⟩
  have ix : (true && decide ((0 : Int) < (D.length : Int))) = true := by
    rw [Bool.true_and]
    exact decide_eq_true (by omega)
  refine ⟨ix, ix, p3 _, p3 _, p3 _, ?_⟩
  generalize x % 300000 = X at hx
  generalize y % 300000 = Y at hy
  generalize z % 300000 = Z at hz
  generalize Line.Knots (Stress.In (sx D 0)) = a
  generalize Line.Knots (Stress.Out (sx D 0)) = b
  rw [i64_in' (n := X + Y) (by omega) (by omega), i64_in' (n := X + Y + Z) (by omega) (by omega)]
  have m1 := exc_more (a := a) (b := b) (x := X) (t := X + Y) (y := X + Y + Z) (by omega) (by omega) (by omega) (by omega)
  have m2 := exc_more (a := b) (b := a) (x := X) (t := X + Y) (y := X + Y + Z) (by omega) (by omega) (by omega) (by omega)
  have b1 := exc_bd (a := a) (b := b) (x := X) (y := X + Y)
  have b2 := exc_bd (a := b) (b := a) (x := X) (y := X + Y)
  have s1 := exc_sum (a := a) (b := b) (x := X) (y := X + Y)
  rw [i64_in' (n := exc a b X (X + Y) - 1) (by omega) (by omega), i64_in' (n := exc b a X (X + Y) - 1) (by omega) (by omega), i64_in' (n := exc a b X (X + Y) + exc b a X (X + Y)) (by omega) (by omega)]
  exact way (fun _ => way (fun _ => wayEq (fun _ => wayEq (fun _ => way (fun _ => rfl) fun c => absurd s1 c) fun c => absurd rfl c) fun c => absurd rfl c) fun c => absurd m2 c) fun c => absurd m1 c)
end Go.Proofs.Ytcddppakogialaa.W.Jb
