/- KickFalse: how many sequences of errors make a sensor alarm. No condition. -/
import Derived.Test.YtdclipcjlimdoaaX3
import Derived.Test.YtdclipcjlimdoaaW
import Derived.Test.YtdclipcjlimdoaaLKickFalse
set_option linter.unusedVariables false
set_option maxRecDepth 100000
set_option maxHeartbeats 4000000
noncomputable section
namespace Go.Proofs.Ytdclipcjlimdoaa.W
open Go Go.Cx Go.RowKit
theorem llP1 : LLOk Try.prog E (llOfN Try.prog E 55 0 [(8, cHP1), (16, cP1)]) := llOfN_ok fun i hi c hc => by
  have hi : i < 3 := hi
  have : i = 0 ∨ i = 1 ∨ i = 2 := by omega
  rcases this with rfl | rfl | rfl
  · obtain rfl : cHP1 = c := Option.some.inj hc
    exact LSndN.mk good names mixes ctFa_ok (by decide) hHP1
  · obtain rfl : cP1 = c := Option.some.inj hc
    exact LSndN.mk good names mixes ctFa_ok (by decide) hP1
  · cases hc
theorem tvP1 (c p d n st lo li q : Int) : runX ctFa (llOfN Try.prog E 55 0 [(8, cHP1), (16, cP1)]) 55 [.agg [i64 c, i64 p, i64 d, i64 n, i64 st, i64 lo, i64 li, .int .i64 1], i64 q] [2, 2, 32] =
  (.br (sErr (sens (c, p, d, n, st, lo, li, (1 : Int), ())) != (0 : Int))
   (.leaf (.tup [.sym .i64 ((0 : Int)), .sym .i64 ((0 : Int)), .sym .i64 (sErr (sens (c, p, d, n, st, lo, li, (1 : Int), ())))]))
   (.br (decide (q < (1 : Int)))
    (.leaf (.tup [.sym .i64 ((0 : Int)), .sym .i64 ((0 : Int)), .sym .i64 ((2 : Int))]))
    (.br (decide (q > (12 : Int)))
     (.leaf (.tup [.sym .i64 ((0 : Int)), .sym .i64 ((0 : Int)), .sym .i64 ((2 : Int))]))
     (.req (((0 : Int) ≤ n ∧ n ≤ (15 : Int)) ∧ (-n ≤ IntKind.wrap IntKind.i64 ((0 : Int) - n) ∧ IntKind.wrap IntKind.i64 ((0 : Int) - n) ≤ n + (1 : Int)) ∧ (0 : Int) ≤ (0 : Int) ∧ (0 : Int) ≤ n + IntKind.wrap IntKind.i64 ((0 : Int) - n))
     (.req ((0 : Int) ≤ (0 : Int) ∧ (0 : Int) ≤ q ∧ q ≤ (12 : Int))
     (.leaf (.tup [.sym .i64 (Rw.a1 (it1 (IntKind.wrap IntKind.i64 (IntKind.wrap IntKind.i64 ((2 : Int) * n) + (1 : Int))) (hc st li (Int.toNat (n + (1 : Int) - IntKind.wrap IntKind.i64 ((0 : Int) - n))) (IntKind.wrap IntKind.i64 ((0 : Int) - n)) (0 : Int)) (IntKind.wrap IntKind.i64 (IntKind.wrap IntKind.i64 (IntKind.wrap IntKind.i64 ((2 : Int) * n) + (1 : Int)) - hc st li (Int.toNat (n + (1 : Int) - IntKind.wrap IntKind.i64 ((0 : Int) - n))) (IntKind.wrap IntKind.i64 ((0 : Int) - n)) (0 : Int))) (Int.toNat (q - (0 : Int))) (Rw.mk (1 : Int) (0 : Int) (0 : Int) (0 : Int) (0 : Int) (0 : Int) (0 : Int) (0 : Int) (0 : Int)))), .sym .i64 (als (IntKind.wrap IntKind.i64 (IntKind.wrap IntKind.i64 ((2 : Int) * n) + (1 : Int))) (Int.toNat (q - (0 : Int))) (1 : Int)), .sym .i64 ((0 : Int))]))))))) := by kernel_rfl
theorem llR1 : LLOk Try.prog E (llOfN Try.prog E 56 0 [(8, cHR1), (16, cR1)]) := llOfN_ok fun i hi c hc => by
  have hi : i < 3 := hi
  have : i = 0 ∨ i = 1 ∨ i = 2 := by omega
  rcases this with rfl | rfl | rfl
  · obtain rfl : cHR1 = c := Option.some.inj hc
    exact LSndN.mk good names mixes ctFa_ok (by decide) hHR1
  · obtain rfl : cR1 = c := Option.some.inj hc
    exact LSndN.mk good names mixes ctFa_ok (by decide) hR1
  · cases hc
theorem tvR1 (c p d n st lo li q : Int) : runX ctFa (llOfN Try.prog E 56 0 [(8, cHR1), (16, cR1)]) 56 [.agg [i64 c, i64 p, i64 d, i64 n, i64 st, i64 lo, i64 li, .int .i64 1], i64 q] [2, 2, 32] =
  (.br (sErr (sens (c, p, d, n, st, lo, li, (1 : Int), ())) != (0 : Int))
   (.leaf (.tup [.sym .i64 ((0 : Int)), .sym .i64 ((0 : Int)), .sym .i64 (sErr (sens (c, p, d, n, st, lo, li, (1 : Int), ())))]))
   (.br (decide (q < (1 : Int)))
    (.leaf (.tup [.sym .i64 ((0 : Int)), .sym .i64 ((0 : Int)), .sym .i64 ((2 : Int))]))
    (.br (decide (q > (12 : Int)))
     (.leaf (.tup [.sym .i64 ((0 : Int)), .sym .i64 ((0 : Int)), .sym .i64 ((2 : Int))]))
     (.req (((0 : Int) ≤ n ∧ n ≤ (15 : Int)) ∧ (-n ≤ IntKind.wrap IntKind.i64 ((0 : Int) - n) ∧ IntKind.wrap IntKind.i64 ((0 : Int) - n) ≤ n + (1 : Int)) ∧ (0 : Int) ≤ (0 : Int) ∧ (0 : Int) ≤ n + IntKind.wrap IntKind.i64 ((0 : Int) - n))
     (.req (List.length [(1 : Int)] = (1 : Nat) ∧ (0 : Int) ≤ (0 : Int) ∧ (0 : Int) ≤ q ∧ q ≤ (12 : Int))
     (.leaf (.tup [.sym .i64 (Rw.a1 (it1 (bb n) (hc st li (Int.toNat (n + (1 : Int) - IntKind.wrap IntKind.i64 ((0 : Int) - n))) (IntKind.wrap IntKind.i64 ((0 : Int) - n)) (0 : Int)) (IntKind.wrap IntKind.i64 (bb n - hc st li (Int.toNat (n + (1 : Int) - IntKind.wrap IntKind.i64 ((0 : Int) - n))) (IntKind.wrap IntKind.i64 ((0 : Int) - n)) (0 : Int))) (Int.toNat (q - (0 : Int))) (Rw.mk (ni6 [(1 : Int)] (0 : Int)) (0 : Int) (0 : Int) (0 : Int) (0 : Int) (0 : Int) (0 : Int) (0 : Int) (0 : Int)))), .sym .i64 (als (bb n) (Int.toNat (q - (0 : Int))) (1 : Int)), .sym .i64 ((0 : Int))]))))))) := by kernel_rfl
theorem llP2 : LLOk Try.prog E (llOfN Try.prog E 55 0 [(8, cHP2), (16, cP2)]) := llOfN_ok fun i hi c hc => by
  have hi : i < 3 := hi
  have : i = 0 ∨ i = 1 ∨ i = 2 := by omega
  rcases this with rfl | rfl | rfl
  · obtain rfl : cHP2 = c := Option.some.inj hc
    exact LSndN.mk good names mixes ctFa_ok (by decide) hHP2
  · obtain rfl : cP2 = c := Option.some.inj hc
    exact LSndN.mk good names mixes ctFa_ok (by decide) hP2
  · cases hc
theorem tvP2 (c p d n st lo li q : Int) : runX ctFa (llOfN Try.prog E 55 0 [(8, cHP2), (16, cP2)]) 55 [.agg [i64 c, i64 p, i64 d, i64 n, i64 st, i64 lo, i64 li, .int .i64 2], i64 q] [2, 2, 32] =
  (.br (sErr (sens (c, p, d, n, st, lo, li, (2 : Int), ())) != (0 : Int))
   (.leaf (.tup [.sym .i64 ((0 : Int)), .sym .i64 ((0 : Int)), .sym .i64 (sErr (sens (c, p, d, n, st, lo, li, (2 : Int), ())))]))
   (.br (decide (q < (1 : Int)))
    (.leaf (.tup [.sym .i64 ((0 : Int)), .sym .i64 ((0 : Int)), .sym .i64 ((2 : Int))]))
    (.br (decide (q > (12 : Int)))
     (.leaf (.tup [.sym .i64 ((0 : Int)), .sym .i64 ((0 : Int)), .sym .i64 ((2 : Int))]))
     (.req (((0 : Int) ≤ n ∧ n ≤ (15 : Int)) ∧ (-n ≤ IntKind.wrap IntKind.i64 ((0 : Int) - n) ∧ IntKind.wrap IntKind.i64 ((0 : Int) - n) ≤ n + (1 : Int)) ∧ (0 : Int) ≤ (0 : Int) ∧ (0 : Int) ≤ n + IntKind.wrap IntKind.i64 ((0 : Int) - n))
     (.req ((0 : Int) ≤ (0 : Int) ∧ (0 : Int) ≤ q ∧ q ≤ (12 : Int))
     (.leaf (.tup [.sym .i64 (Rw.a2 (it2 (IntKind.wrap IntKind.i64 (IntKind.wrap IntKind.i64 ((2 : Int) * n) + (1 : Int))) (hc st li (Int.toNat (n + (1 : Int) - IntKind.wrap IntKind.i64 ((0 : Int) - n))) (IntKind.wrap IntKind.i64 ((0 : Int) - n)) (0 : Int)) (IntKind.wrap IntKind.i64 (IntKind.wrap IntKind.i64 (IntKind.wrap IntKind.i64 ((2 : Int) * n) + (1 : Int)) - hc st li (Int.toNat (n + (1 : Int) - IntKind.wrap IntKind.i64 ((0 : Int) - n))) (IntKind.wrap IntKind.i64 ((0 : Int) - n)) (0 : Int))) (Int.toNat (q - (0 : Int))) (Rw.mk (1 : Int) (0 : Int) (0 : Int) (0 : Int) (0 : Int) (0 : Int) (0 : Int) (0 : Int) (0 : Int)))), .sym .i64 (als (IntKind.wrap IntKind.i64 (IntKind.wrap IntKind.i64 ((2 : Int) * n) + (1 : Int))) (Int.toNat (q - (0 : Int))) (1 : Int)), .sym .i64 ((0 : Int))]))))))) := by kernel_rfl
theorem llR2 : LLOk Try.prog E (llOfN Try.prog E 56 0 [(8, cHR2), (16, cR2)]) := llOfN_ok fun i hi c hc => by
  have hi : i < 3 := hi
  have : i = 0 ∨ i = 1 ∨ i = 2 := by omega
  rcases this with rfl | rfl | rfl
  · obtain rfl : cHR2 = c := Option.some.inj hc
    exact LSndN.mk good names mixes ctFa_ok (by decide) hHR2
  · obtain rfl : cR2 = c := Option.some.inj hc
    exact LSndN.mk good names mixes ctFa_ok (by decide) hR2
  · cases hc
theorem tvR2 (c p d n st lo li q : Int) : runX ctFa (llOfN Try.prog E 56 0 [(8, cHR2), (16, cR2)]) 56 [.agg [i64 c, i64 p, i64 d, i64 n, i64 st, i64 lo, i64 li, .int .i64 2], i64 q] [2, 2, 32] =
  (.br (sErr (sens (c, p, d, n, st, lo, li, (2 : Int), ())) != (0 : Int))
   (.leaf (.tup [.sym .i64 ((0 : Int)), .sym .i64 ((0 : Int)), .sym .i64 (sErr (sens (c, p, d, n, st, lo, li, (2 : Int), ())))]))
   (.br (decide (q < (1 : Int)))
    (.leaf (.tup [.sym .i64 ((0 : Int)), .sym .i64 ((0 : Int)), .sym .i64 ((2 : Int))]))
    (.br (decide (q > (12 : Int)))
     (.leaf (.tup [.sym .i64 ((0 : Int)), .sym .i64 ((0 : Int)), .sym .i64 ((2 : Int))]))
     (.req (((0 : Int) ≤ n ∧ n ≤ (15 : Int)) ∧ (-n ≤ IntKind.wrap IntKind.i64 ((0 : Int) - n) ∧ IntKind.wrap IntKind.i64 ((0 : Int) - n) ≤ n + (1 : Int)) ∧ (0 : Int) ≤ (0 : Int) ∧ (0 : Int) ≤ n + IntKind.wrap IntKind.i64 ((0 : Int) - n))
     (.req (List.length [(1 : Int), (0 : Int)] = (2 : Nat) ∧ (0 : Int) ≤ (0 : Int) ∧ (0 : Int) ≤ q ∧ q ≤ (12 : Int))
     (.leaf (.tup [.sym .i64 (Rw.a2 (it2 (bb n) (hc st li (Int.toNat (n + (1 : Int) - IntKind.wrap IntKind.i64 ((0 : Int) - n))) (IntKind.wrap IntKind.i64 ((0 : Int) - n)) (0 : Int)) (IntKind.wrap IntKind.i64 (bb n - hc st li (Int.toNat (n + (1 : Int) - IntKind.wrap IntKind.i64 ((0 : Int) - n))) (IntKind.wrap IntKind.i64 ((0 : Int) - n)) (0 : Int))) (Int.toNat (q - (0 : Int))) (Rw.mk (ni6 [(1 : Int), (0 : Int)] (0 : Int)) (ni6 [(1 : Int), (0 : Int)] (1 : Int)) (0 : Int) (0 : Int) (0 : Int) (0 : Int) (0 : Int) (0 : Int) (0 : Int)))), .sym .i64 (als (bb n) (Int.toNat (q - (0 : Int))) (1 : Int)), .sym .i64 ((0 : Int))]))))))) := by kernel_rfl
theorem llP3 : LLOk Try.prog E (llOfN Try.prog E 55 0 [(8, cHP3), (16, cP3)]) := llOfN_ok fun i hi c hc => by
  have hi : i < 3 := hi
  have : i = 0 ∨ i = 1 ∨ i = 2 := by omega
  rcases this with rfl | rfl | rfl
  · obtain rfl : cHP3 = c := Option.some.inj hc
    exact LSndN.mk good names mixes ctFa_ok (by decide) hHP3
  · obtain rfl : cP3 = c := Option.some.inj hc
    exact LSndN.mk good names mixes ctFa_ok (by decide) hP3
  · cases hc
theorem tvP3 (c p d n st lo li q : Int) : runX ctFa (llOfN Try.prog E 55 0 [(8, cHP3), (16, cP3)]) 55 [.agg [i64 c, i64 p, i64 d, i64 n, i64 st, i64 lo, i64 li, .int .i64 3], i64 q] [2, 2, 32] =
  (.br (sErr (sens (c, p, d, n, st, lo, li, (3 : Int), ())) != (0 : Int))
   (.leaf (.tup [.sym .i64 ((0 : Int)), .sym .i64 ((0 : Int)), .sym .i64 (sErr (sens (c, p, d, n, st, lo, li, (3 : Int), ())))]))
   (.br (decide (q < (1 : Int)))
    (.leaf (.tup [.sym .i64 ((0 : Int)), .sym .i64 ((0 : Int)), .sym .i64 ((2 : Int))]))
    (.br (decide (q > (12 : Int)))
     (.leaf (.tup [.sym .i64 ((0 : Int)), .sym .i64 ((0 : Int)), .sym .i64 ((2 : Int))]))
     (.req (((0 : Int) ≤ n ∧ n ≤ (15 : Int)) ∧ (-n ≤ IntKind.wrap IntKind.i64 ((0 : Int) - n) ∧ IntKind.wrap IntKind.i64 ((0 : Int) - n) ≤ n + (1 : Int)) ∧ (0 : Int) ≤ (0 : Int) ∧ (0 : Int) ≤ n + IntKind.wrap IntKind.i64 ((0 : Int) - n))
     (.req ((0 : Int) ≤ (0 : Int) ∧ (0 : Int) ≤ q ∧ q ≤ (12 : Int))
     (.leaf (.tup [.sym .i64 (Rw.a3 (it3 (IntKind.wrap IntKind.i64 (IntKind.wrap IntKind.i64 ((2 : Int) * n) + (1 : Int))) (hc st li (Int.toNat (n + (1 : Int) - IntKind.wrap IntKind.i64 ((0 : Int) - n))) (IntKind.wrap IntKind.i64 ((0 : Int) - n)) (0 : Int)) (IntKind.wrap IntKind.i64 (IntKind.wrap IntKind.i64 (IntKind.wrap IntKind.i64 ((2 : Int) * n) + (1 : Int)) - hc st li (Int.toNat (n + (1 : Int) - IntKind.wrap IntKind.i64 ((0 : Int) - n))) (IntKind.wrap IntKind.i64 ((0 : Int) - n)) (0 : Int))) (Int.toNat (q - (0 : Int))) (Rw.mk (1 : Int) (0 : Int) (0 : Int) (0 : Int) (0 : Int) (0 : Int) (0 : Int) (0 : Int) (0 : Int)))), .sym .i64 (als (IntKind.wrap IntKind.i64 (IntKind.wrap IntKind.i64 ((2 : Int) * n) + (1 : Int))) (Int.toNat (q - (0 : Int))) (1 : Int)), .sym .i64 ((0 : Int))]))))))) := by kernel_rfl
theorem llR3 : LLOk Try.prog E (llOfN Try.prog E 56 0 [(8, cHR3), (16, cR3)]) := llOfN_ok fun i hi c hc => by
  have hi : i < 3 := hi
  have : i = 0 ∨ i = 1 ∨ i = 2 := by omega
  rcases this with rfl | rfl | rfl
  · obtain rfl : cHR3 = c := Option.some.inj hc
    exact LSndN.mk good names mixes ctFa_ok (by decide) hHR3
  · obtain rfl : cR3 = c := Option.some.inj hc
    exact LSndN.mk good names mixes ctFa_ok (by decide) hR3
  · cases hc
theorem tvR3 (c p d n st lo li q : Int) : runX ctFa (llOfN Try.prog E 56 0 [(8, cHR3), (16, cR3)]) 56 [.agg [i64 c, i64 p, i64 d, i64 n, i64 st, i64 lo, i64 li, .int .i64 3], i64 q] [2, 2, 32] =
  (.br (sErr (sens (c, p, d, n, st, lo, li, (3 : Int), ())) != (0 : Int))
   (.leaf (.tup [.sym .i64 ((0 : Int)), .sym .i64 ((0 : Int)), .sym .i64 (sErr (sens (c, p, d, n, st, lo, li, (3 : Int), ())))]))
   (.br (decide (q < (1 : Int)))
    (.leaf (.tup [.sym .i64 ((0 : Int)), .sym .i64 ((0 : Int)), .sym .i64 ((2 : Int))]))
    (.br (decide (q > (12 : Int)))
     (.leaf (.tup [.sym .i64 ((0 : Int)), .sym .i64 ((0 : Int)), .sym .i64 ((2 : Int))]))
     (.req (((0 : Int) ≤ n ∧ n ≤ (15 : Int)) ∧ (-n ≤ IntKind.wrap IntKind.i64 ((0 : Int) - n) ∧ IntKind.wrap IntKind.i64 ((0 : Int) - n) ≤ n + (1 : Int)) ∧ (0 : Int) ≤ (0 : Int) ∧ (0 : Int) ≤ n + IntKind.wrap IntKind.i64 ((0 : Int) - n))
     (.req (List.length [(1 : Int), (0 : Int), (0 : Int)] = (3 : Nat) ∧ (0 : Int) ≤ (0 : Int) ∧ (0 : Int) ≤ q ∧ q ≤ (12 : Int))
     (.leaf (.tup [.sym .i64 (Rw.a3 (it3 (bb n) (hc st li (Int.toNat (n + (1 : Int) - IntKind.wrap IntKind.i64 ((0 : Int) - n))) (IntKind.wrap IntKind.i64 ((0 : Int) - n)) (0 : Int)) (IntKind.wrap IntKind.i64 (bb n - hc st li (Int.toNat (n + (1 : Int) - IntKind.wrap IntKind.i64 ((0 : Int) - n))) (IntKind.wrap IntKind.i64 ((0 : Int) - n)) (0 : Int))) (Int.toNat (q - (0 : Int))) (Rw.mk (ni6 [(1 : Int), (0 : Int), (0 : Int)] (0 : Int)) (ni6 [(1 : Int), (0 : Int), (0 : Int)] (1 : Int)) (ni6 [(1 : Int), (0 : Int), (0 : Int)] (2 : Int)) (0 : Int) (0 : Int) (0 : Int) (0 : Int) (0 : Int) (0 : Int)))), .sym .i64 (als (bb n) (Int.toNat (q - (0 : Int))) (1 : Int)), .sym .i64 ((0 : Int))]))))))) := by kernel_rfl
theorem llP4 : LLOk Try.prog E (llOfN Try.prog E 55 0 [(8, cHP4), (16, cP4)]) := llOfN_ok fun i hi c hc => by
  have hi : i < 3 := hi
  have : i = 0 ∨ i = 1 ∨ i = 2 := by omega
  rcases this with rfl | rfl | rfl
  · obtain rfl : cHP4 = c := Option.some.inj hc
    exact LSndN.mk good names mixes ctFa_ok (by decide) hHP4
  · obtain rfl : cP4 = c := Option.some.inj hc
    exact LSndN.mk good names mixes ctFa_ok (by decide) hP4
  · cases hc
theorem tvP4 (c p d n st lo li q : Int) : runX ctFa (llOfN Try.prog E 55 0 [(8, cHP4), (16, cP4)]) 55 [.agg [i64 c, i64 p, i64 d, i64 n, i64 st, i64 lo, i64 li, .int .i64 4], i64 q] [2, 2, 32] =
  (.br (sErr (sens (c, p, d, n, st, lo, li, (4 : Int), ())) != (0 : Int))
   (.leaf (.tup [.sym .i64 ((0 : Int)), .sym .i64 ((0 : Int)), .sym .i64 (sErr (sens (c, p, d, n, st, lo, li, (4 : Int), ())))]))
   (.br (decide (q < (1 : Int)))
    (.leaf (.tup [.sym .i64 ((0 : Int)), .sym .i64 ((0 : Int)), .sym .i64 ((2 : Int))]))
    (.br (decide (q > (12 : Int)))
     (.leaf (.tup [.sym .i64 ((0 : Int)), .sym .i64 ((0 : Int)), .sym .i64 ((2 : Int))]))
     (.req (((0 : Int) ≤ n ∧ n ≤ (15 : Int)) ∧ (-n ≤ IntKind.wrap IntKind.i64 ((0 : Int) - n) ∧ IntKind.wrap IntKind.i64 ((0 : Int) - n) ≤ n + (1 : Int)) ∧ (0 : Int) ≤ (0 : Int) ∧ (0 : Int) ≤ n + IntKind.wrap IntKind.i64 ((0 : Int) - n))
     (.req ((0 : Int) ≤ (0 : Int) ∧ (0 : Int) ≤ q ∧ q ≤ (12 : Int))
     (.leaf (.tup [.sym .i64 (Rw.a4 (it4 (IntKind.wrap IntKind.i64 (IntKind.wrap IntKind.i64 ((2 : Int) * n) + (1 : Int))) (hc st li (Int.toNat (n + (1 : Int) - IntKind.wrap IntKind.i64 ((0 : Int) - n))) (IntKind.wrap IntKind.i64 ((0 : Int) - n)) (0 : Int)) (IntKind.wrap IntKind.i64 (IntKind.wrap IntKind.i64 (IntKind.wrap IntKind.i64 ((2 : Int) * n) + (1 : Int)) - hc st li (Int.toNat (n + (1 : Int) - IntKind.wrap IntKind.i64 ((0 : Int) - n))) (IntKind.wrap IntKind.i64 ((0 : Int) - n)) (0 : Int))) (Int.toNat (q - (0 : Int))) (Rw.mk (1 : Int) (0 : Int) (0 : Int) (0 : Int) (0 : Int) (0 : Int) (0 : Int) (0 : Int) (0 : Int)))), .sym .i64 (als (IntKind.wrap IntKind.i64 (IntKind.wrap IntKind.i64 ((2 : Int) * n) + (1 : Int))) (Int.toNat (q - (0 : Int))) (1 : Int)), .sym .i64 ((0 : Int))]))))))) := by kernel_rfl
theorem llR4 : LLOk Try.prog E (llOfN Try.prog E 56 0 [(8, cHR4), (16, cR4)]) := llOfN_ok fun i hi c hc => by
  have hi : i < 3 := hi
  have : i = 0 ∨ i = 1 ∨ i = 2 := by omega
  rcases this with rfl | rfl | rfl
  · obtain rfl : cHR4 = c := Option.some.inj hc
    exact LSndN.mk good names mixes ctFa_ok (by decide) hHR4
  · obtain rfl : cR4 = c := Option.some.inj hc
    exact LSndN.mk good names mixes ctFa_ok (by decide) hR4
  · cases hc
theorem tvR4 (c p d n st lo li q : Int) : runX ctFa (llOfN Try.prog E 56 0 [(8, cHR4), (16, cR4)]) 56 [.agg [i64 c, i64 p, i64 d, i64 n, i64 st, i64 lo, i64 li, .int .i64 4], i64 q] [2, 2, 32] =
  (.br (sErr (sens (c, p, d, n, st, lo, li, (4 : Int), ())) != (0 : Int))
   (.leaf (.tup [.sym .i64 ((0 : Int)), .sym .i64 ((0 : Int)), .sym .i64 (sErr (sens (c, p, d, n, st, lo, li, (4 : Int), ())))]))
   (.br (decide (q < (1 : Int)))
    (.leaf (.tup [.sym .i64 ((0 : Int)), .sym .i64 ((0 : Int)), .sym .i64 ((2 : Int))]))
    (.br (decide (q > (12 : Int)))
     (.leaf (.tup [.sym .i64 ((0 : Int)), .sym .i64 ((0 : Int)), .sym .i64 ((2 : Int))]))
     (.req (((0 : Int) ≤ n ∧ n ≤ (15 : Int)) ∧ (-n ≤ IntKind.wrap IntKind.i64 ((0 : Int) - n) ∧ IntKind.wrap IntKind.i64 ((0 : Int) - n) ≤ n + (1 : Int)) ∧ (0 : Int) ≤ (0 : Int) ∧ (0 : Int) ≤ n + IntKind.wrap IntKind.i64 ((0 : Int) - n))
     (.req (List.length [(1 : Int), (0 : Int), (0 : Int), (0 : Int)] = (4 : Nat) ∧ (0 : Int) ≤ (0 : Int) ∧ (0 : Int) ≤ q ∧ q ≤ (12 : Int))
     (.leaf (.tup [.sym .i64 (Rw.a4 (it4 (bb n) (hc st li (Int.toNat (n + (1 : Int) - IntKind.wrap IntKind.i64 ((0 : Int) - n))) (IntKind.wrap IntKind.i64 ((0 : Int) - n)) (0 : Int)) (IntKind.wrap IntKind.i64 (bb n - hc st li (Int.toNat (n + (1 : Int) - IntKind.wrap IntKind.i64 ((0 : Int) - n))) (IntKind.wrap IntKind.i64 ((0 : Int) - n)) (0 : Int))) (Int.toNat (q - (0 : Int))) (Rw.mk (ni6 [(1 : Int), (0 : Int), (0 : Int), (0 : Int)] (0 : Int)) (ni6 [(1 : Int), (0 : Int), (0 : Int), (0 : Int)] (1 : Int)) (ni6 [(1 : Int), (0 : Int), (0 : Int), (0 : Int)] (2 : Int)) (ni6 [(1 : Int), (0 : Int), (0 : Int), (0 : Int)] (3 : Int)) (0 : Int) (0 : Int) (0 : Int) (0 : Int) (0 : Int)))), .sym .i64 (als (bb n) (Int.toNat (q - (0 : Int))) (1 : Int)), .sym .i64 ((0 : Int))]))))))) := by kernel_rfl
theorem llP5 : LLOk Try.prog E (llOfN Try.prog E 55 0 [(8, cHP5), (16, cP5)]) := llOfN_ok fun i hi c hc => by
  have hi : i < 3 := hi
  have : i = 0 ∨ i = 1 ∨ i = 2 := by omega
  rcases this with rfl | rfl | rfl
  · obtain rfl : cHP5 = c := Option.some.inj hc
    exact LSndN.mk good names mixes ctFa_ok (by decide) hHP5
  · obtain rfl : cP5 = c := Option.some.inj hc
    exact LSndN.mk good names mixes ctFa_ok (by decide) hP5
  · cases hc
theorem tvP5 (c p d n st lo li q : Int) : runX ctFa (llOfN Try.prog E 55 0 [(8, cHP5), (16, cP5)]) 55 [.agg [i64 c, i64 p, i64 d, i64 n, i64 st, i64 lo, i64 li, .int .i64 5], i64 q] [2, 2, 32] =
  (.br (sErr (sens (c, p, d, n, st, lo, li, (5 : Int), ())) != (0 : Int))
   (.leaf (.tup [.sym .i64 ((0 : Int)), .sym .i64 ((0 : Int)), .sym .i64 (sErr (sens (c, p, d, n, st, lo, li, (5 : Int), ())))]))
   (.br (decide (q < (1 : Int)))
    (.leaf (.tup [.sym .i64 ((0 : Int)), .sym .i64 ((0 : Int)), .sym .i64 ((2 : Int))]))
    (.br (decide (q > (12 : Int)))
     (.leaf (.tup [.sym .i64 ((0 : Int)), .sym .i64 ((0 : Int)), .sym .i64 ((2 : Int))]))
     (.req (((0 : Int) ≤ n ∧ n ≤ (15 : Int)) ∧ (-n ≤ IntKind.wrap IntKind.i64 ((0 : Int) - n) ∧ IntKind.wrap IntKind.i64 ((0 : Int) - n) ≤ n + (1 : Int)) ∧ (0 : Int) ≤ (0 : Int) ∧ (0 : Int) ≤ n + IntKind.wrap IntKind.i64 ((0 : Int) - n))
     (.req ((0 : Int) ≤ (0 : Int) ∧ (0 : Int) ≤ q ∧ q ≤ (12 : Int))
     (.leaf (.tup [.sym .i64 (Rw.a5 (it5 (IntKind.wrap IntKind.i64 (IntKind.wrap IntKind.i64 ((2 : Int) * n) + (1 : Int))) (hc st li (Int.toNat (n + (1 : Int) - IntKind.wrap IntKind.i64 ((0 : Int) - n))) (IntKind.wrap IntKind.i64 ((0 : Int) - n)) (0 : Int)) (IntKind.wrap IntKind.i64 (IntKind.wrap IntKind.i64 (IntKind.wrap IntKind.i64 ((2 : Int) * n) + (1 : Int)) - hc st li (Int.toNat (n + (1 : Int) - IntKind.wrap IntKind.i64 ((0 : Int) - n))) (IntKind.wrap IntKind.i64 ((0 : Int) - n)) (0 : Int))) (Int.toNat (q - (0 : Int))) (Rw.mk (1 : Int) (0 : Int) (0 : Int) (0 : Int) (0 : Int) (0 : Int) (0 : Int) (0 : Int) (0 : Int)))), .sym .i64 (als (IntKind.wrap IntKind.i64 (IntKind.wrap IntKind.i64 ((2 : Int) * n) + (1 : Int))) (Int.toNat (q - (0 : Int))) (1 : Int)), .sym .i64 ((0 : Int))]))))))) := by kernel_rfl
theorem llR5 : LLOk Try.prog E (llOfN Try.prog E 56 0 [(8, cHR5), (16, cR5)]) := llOfN_ok fun i hi c hc => by
  have hi : i < 3 := hi
  have : i = 0 ∨ i = 1 ∨ i = 2 := by omega
  rcases this with rfl | rfl | rfl
  · obtain rfl : cHR5 = c := Option.some.inj hc
    exact LSndN.mk good names mixes ctFa_ok (by decide) hHR5
  · obtain rfl : cR5 = c := Option.some.inj hc
    exact LSndN.mk good names mixes ctFa_ok (by decide) hR5
  · cases hc
theorem tvR5 (c p d n st lo li q : Int) : runX ctFa (llOfN Try.prog E 56 0 [(8, cHR5), (16, cR5)]) 56 [.agg [i64 c, i64 p, i64 d, i64 n, i64 st, i64 lo, i64 li, .int .i64 5], i64 q] [2, 2, 32] =
  (.br (sErr (sens (c, p, d, n, st, lo, li, (5 : Int), ())) != (0 : Int))
   (.leaf (.tup [.sym .i64 ((0 : Int)), .sym .i64 ((0 : Int)), .sym .i64 (sErr (sens (c, p, d, n, st, lo, li, (5 : Int), ())))]))
   (.br (decide (q < (1 : Int)))
    (.leaf (.tup [.sym .i64 ((0 : Int)), .sym .i64 ((0 : Int)), .sym .i64 ((2 : Int))]))
    (.br (decide (q > (12 : Int)))
     (.leaf (.tup [.sym .i64 ((0 : Int)), .sym .i64 ((0 : Int)), .sym .i64 ((2 : Int))]))
     (.req (((0 : Int) ≤ n ∧ n ≤ (15 : Int)) ∧ (-n ≤ IntKind.wrap IntKind.i64 ((0 : Int) - n) ∧ IntKind.wrap IntKind.i64 ((0 : Int) - n) ≤ n + (1 : Int)) ∧ (0 : Int) ≤ (0 : Int) ∧ (0 : Int) ≤ n + IntKind.wrap IntKind.i64 ((0 : Int) - n))
     (.req (List.length [(1 : Int), (0 : Int), (0 : Int), (0 : Int), (0 : Int)] = (5 : Nat) ∧ (0 : Int) ≤ (0 : Int) ∧ (0 : Int) ≤ q ∧ q ≤ (12 : Int))
     (.leaf (.tup [.sym .i64 (Rw.a5 (it5 (bb n) (hc st li (Int.toNat (n + (1 : Int) - IntKind.wrap IntKind.i64 ((0 : Int) - n))) (IntKind.wrap IntKind.i64 ((0 : Int) - n)) (0 : Int)) (IntKind.wrap IntKind.i64 (bb n - hc st li (Int.toNat (n + (1 : Int) - IntKind.wrap IntKind.i64 ((0 : Int) - n))) (IntKind.wrap IntKind.i64 ((0 : Int) - n)) (0 : Int))) (Int.toNat (q - (0 : Int))) (Rw.mk (ni6 [(1 : Int), (0 : Int), (0 : Int), (0 : Int), (0 : Int)] (0 : Int)) (ni6 [(1 : Int), (0 : Int), (0 : Int), (0 : Int), (0 : Int)] (1 : Int)) (ni6 [(1 : Int), (0 : Int), (0 : Int), (0 : Int), (0 : Int)] (2 : Int)) (ni6 [(1 : Int), (0 : Int), (0 : Int), (0 : Int), (0 : Int)] (3 : Int)) (ni6 [(1 : Int), (0 : Int), (0 : Int), (0 : Int), (0 : Int)] (4 : Int)) (0 : Int) (0 : Int) (0 : Int) (0 : Int)))), .sym .i64 (als (bb n) (Int.toNat (q - (0 : Int))) (1 : Int)), .sym .i64 ((0 : Int))]))))))) := by kernel_rfl
theorem llP6 : LLOk Try.prog E (llOfN Try.prog E 55 0 [(8, cHP6), (16, cP6)]) := llOfN_ok fun i hi c hc => by
  have hi : i < 3 := hi
  have : i = 0 ∨ i = 1 ∨ i = 2 := by omega
  rcases this with rfl | rfl | rfl
  · obtain rfl : cHP6 = c := Option.some.inj hc
    exact LSndN.mk good names mixes ctFa_ok (by decide) hHP6
  · obtain rfl : cP6 = c := Option.some.inj hc
    exact LSndN.mk good names mixes ctFa_ok (by decide) hP6
  · cases hc
theorem tvP6 (c p d n st lo li q : Int) : runX ctFa (llOfN Try.prog E 55 0 [(8, cHP6), (16, cP6)]) 55 [.agg [i64 c, i64 p, i64 d, i64 n, i64 st, i64 lo, i64 li, .int .i64 6], i64 q] [2, 2, 32] =
  (.br (sErr (sens (c, p, d, n, st, lo, li, (6 : Int), ())) != (0 : Int))
   (.leaf (.tup [.sym .i64 ((0 : Int)), .sym .i64 ((0 : Int)), .sym .i64 (sErr (sens (c, p, d, n, st, lo, li, (6 : Int), ())))]))
   (.br (decide (q < (1 : Int)))
    (.leaf (.tup [.sym .i64 ((0 : Int)), .sym .i64 ((0 : Int)), .sym .i64 ((2 : Int))]))
    (.br (decide (q > (12 : Int)))
     (.leaf (.tup [.sym .i64 ((0 : Int)), .sym .i64 ((0 : Int)), .sym .i64 ((2 : Int))]))
     (.req (((0 : Int) ≤ n ∧ n ≤ (15 : Int)) ∧ (-n ≤ IntKind.wrap IntKind.i64 ((0 : Int) - n) ∧ IntKind.wrap IntKind.i64 ((0 : Int) - n) ≤ n + (1 : Int)) ∧ (0 : Int) ≤ (0 : Int) ∧ (0 : Int) ≤ n + IntKind.wrap IntKind.i64 ((0 : Int) - n))
     (.req ((0 : Int) ≤ (0 : Int) ∧ (0 : Int) ≤ q ∧ q ≤ (12 : Int))
     (.leaf (.tup [.sym .i64 (Rw.a6 (it6 (IntKind.wrap IntKind.i64 (IntKind.wrap IntKind.i64 ((2 : Int) * n) + (1 : Int))) (hc st li (Int.toNat (n + (1 : Int) - IntKind.wrap IntKind.i64 ((0 : Int) - n))) (IntKind.wrap IntKind.i64 ((0 : Int) - n)) (0 : Int)) (IntKind.wrap IntKind.i64 (IntKind.wrap IntKind.i64 (IntKind.wrap IntKind.i64 ((2 : Int) * n) + (1 : Int)) - hc st li (Int.toNat (n + (1 : Int) - IntKind.wrap IntKind.i64 ((0 : Int) - n))) (IntKind.wrap IntKind.i64 ((0 : Int) - n)) (0 : Int))) (Int.toNat (q - (0 : Int))) (Rw.mk (1 : Int) (0 : Int) (0 : Int) (0 : Int) (0 : Int) (0 : Int) (0 : Int) (0 : Int) (0 : Int)))), .sym .i64 (als (IntKind.wrap IntKind.i64 (IntKind.wrap IntKind.i64 ((2 : Int) * n) + (1 : Int))) (Int.toNat (q - (0 : Int))) (1 : Int)), .sym .i64 ((0 : Int))]))))))) := by kernel_rfl
theorem llR6 : LLOk Try.prog E (llOfN Try.prog E 56 0 [(8, cHR6), (16, cR6)]) := llOfN_ok fun i hi c hc => by
  have hi : i < 3 := hi
  have : i = 0 ∨ i = 1 ∨ i = 2 := by omega
  rcases this with rfl | rfl | rfl
  · obtain rfl : cHR6 = c := Option.some.inj hc
    exact LSndN.mk good names mixes ctFa_ok (by decide) hHR6
  · obtain rfl : cR6 = c := Option.some.inj hc
    exact LSndN.mk good names mixes ctFa_ok (by decide) hR6
  · cases hc
theorem tvR6 (c p d n st lo li q : Int) : runX ctFa (llOfN Try.prog E 56 0 [(8, cHR6), (16, cR6)]) 56 [.agg [i64 c, i64 p, i64 d, i64 n, i64 st, i64 lo, i64 li, .int .i64 6], i64 q] [2, 2, 32] =
  (.br (sErr (sens (c, p, d, n, st, lo, li, (6 : Int), ())) != (0 : Int))
   (.leaf (.tup [.sym .i64 ((0 : Int)), .sym .i64 ((0 : Int)), .sym .i64 (sErr (sens (c, p, d, n, st, lo, li, (6 : Int), ())))]))
   (.br (decide (q < (1 : Int)))
    (.leaf (.tup [.sym .i64 ((0 : Int)), .sym .i64 ((0 : Int)), .sym .i64 ((2 : Int))]))
    (.br (decide (q > (12 : Int)))
     (.leaf (.tup [.sym .i64 ((0 : Int)), .sym .i64 ((0 : Int)), .sym .i64 ((2 : Int))]))
     (.req (((0 : Int) ≤ n ∧ n ≤ (15 : Int)) ∧ (-n ≤ IntKind.wrap IntKind.i64 ((0 : Int) - n) ∧ IntKind.wrap IntKind.i64 ((0 : Int) - n) ≤ n + (1 : Int)) ∧ (0 : Int) ≤ (0 : Int) ∧ (0 : Int) ≤ n + IntKind.wrap IntKind.i64 ((0 : Int) - n))
     (.req (List.length [(1 : Int), (0 : Int), (0 : Int), (0 : Int), (0 : Int), (0 : Int)] = (6 : Nat) ∧ (0 : Int) ≤ (0 : Int) ∧ (0 : Int) ≤ q ∧ q ≤ (12 : Int))
     (.leaf (.tup [.sym .i64 (Rw.a6 (it6 (bb n) (hc st li (Int.toNat (n + (1 : Int) - IntKind.wrap IntKind.i64 ((0 : Int) - n))) (IntKind.wrap IntKind.i64 ((0 : Int) - n)) (0 : Int)) (IntKind.wrap IntKind.i64 (bb n - hc st li (Int.toNat (n + (1 : Int) - IntKind.wrap IntKind.i64 ((0 : Int) - n))) (IntKind.wrap IntKind.i64 ((0 : Int) - n)) (0 : Int))) (Int.toNat (q - (0 : Int))) (Rw.mk (ni6 [(1 : Int), (0 : Int), (0 : Int), (0 : Int), (0 : Int), (0 : Int)] (0 : Int)) (ni6 [(1 : Int), (0 : Int), (0 : Int), (0 : Int), (0 : Int), (0 : Int)] (1 : Int)) (ni6 [(1 : Int), (0 : Int), (0 : Int), (0 : Int), (0 : Int), (0 : Int)] (2 : Int)) (ni6 [(1 : Int), (0 : Int), (0 : Int), (0 : Int), (0 : Int), (0 : Int)] (3 : Int)) (ni6 [(1 : Int), (0 : Int), (0 : Int), (0 : Int), (0 : Int), (0 : Int)] (4 : Int)) (ni6 [(1 : Int), (0 : Int), (0 : Int), (0 : Int), (0 : Int), (0 : Int)] (5 : Int)) (0 : Int) (0 : Int) (0 : Int)))), .sym .i64 (als (bb n) (Int.toNat (q - (0 : Int))) (1 : Int)), .sym .i64 ((0 : Int))]))))))) := by kernel_rfl
theorem llP7 : LLOk Try.prog E (llOfN Try.prog E 55 0 [(8, cHP7), (16, cP7)]) := llOfN_ok fun i hi c hc => by
  have hi : i < 3 := hi
  have : i = 0 ∨ i = 1 ∨ i = 2 := by omega
  rcases this with rfl | rfl | rfl
  · obtain rfl : cHP7 = c := Option.some.inj hc
    exact LSndN.mk good names mixes ctFa_ok (by decide) hHP7
  · obtain rfl : cP7 = c := Option.some.inj hc
    exact LSndN.mk good names mixes ctFa_ok (by decide) hP7
  · cases hc
theorem tvP7 (c p d n st lo li q : Int) : runX ctFa (llOfN Try.prog E 55 0 [(8, cHP7), (16, cP7)]) 55 [.agg [i64 c, i64 p, i64 d, i64 n, i64 st, i64 lo, i64 li, .int .i64 7], i64 q] [2, 2, 32] =
  (.br (sErr (sens (c, p, d, n, st, lo, li, (7 : Int), ())) != (0 : Int))
   (.leaf (.tup [.sym .i64 ((0 : Int)), .sym .i64 ((0 : Int)), .sym .i64 (sErr (sens (c, p, d, n, st, lo, li, (7 : Int), ())))]))
   (.br (decide (q < (1 : Int)))
    (.leaf (.tup [.sym .i64 ((0 : Int)), .sym .i64 ((0 : Int)), .sym .i64 ((2 : Int))]))
    (.br (decide (q > (12 : Int)))
     (.leaf (.tup [.sym .i64 ((0 : Int)), .sym .i64 ((0 : Int)), .sym .i64 ((2 : Int))]))
     (.req (((0 : Int) ≤ n ∧ n ≤ (15 : Int)) ∧ (-n ≤ IntKind.wrap IntKind.i64 ((0 : Int) - n) ∧ IntKind.wrap IntKind.i64 ((0 : Int) - n) ≤ n + (1 : Int)) ∧ (0 : Int) ≤ (0 : Int) ∧ (0 : Int) ≤ n + IntKind.wrap IntKind.i64 ((0 : Int) - n))
     (.req ((0 : Int) ≤ (0 : Int) ∧ (0 : Int) ≤ q ∧ q ≤ (12 : Int))
     (.leaf (.tup [.sym .i64 (Rw.a7 (it7 (IntKind.wrap IntKind.i64 (IntKind.wrap IntKind.i64 ((2 : Int) * n) + (1 : Int))) (hc st li (Int.toNat (n + (1 : Int) - IntKind.wrap IntKind.i64 ((0 : Int) - n))) (IntKind.wrap IntKind.i64 ((0 : Int) - n)) (0 : Int)) (IntKind.wrap IntKind.i64 (IntKind.wrap IntKind.i64 (IntKind.wrap IntKind.i64 ((2 : Int) * n) + (1 : Int)) - hc st li (Int.toNat (n + (1 : Int) - IntKind.wrap IntKind.i64 ((0 : Int) - n))) (IntKind.wrap IntKind.i64 ((0 : Int) - n)) (0 : Int))) (Int.toNat (q - (0 : Int))) (Rw.mk (1 : Int) (0 : Int) (0 : Int) (0 : Int) (0 : Int) (0 : Int) (0 : Int) (0 : Int) (0 : Int)))), .sym .i64 (als (IntKind.wrap IntKind.i64 (IntKind.wrap IntKind.i64 ((2 : Int) * n) + (1 : Int))) (Int.toNat (q - (0 : Int))) (1 : Int)), .sym .i64 ((0 : Int))]))))))) := by kernel_rfl
theorem llR7 : LLOk Try.prog E (llOfN Try.prog E 56 0 [(8, cHR7), (16, cR7)]) := llOfN_ok fun i hi c hc => by
  have hi : i < 3 := hi
  have : i = 0 ∨ i = 1 ∨ i = 2 := by omega
  rcases this with rfl | rfl | rfl
  · obtain rfl : cHR7 = c := Option.some.inj hc
    exact LSndN.mk good names mixes ctFa_ok (by decide) hHR7
  · obtain rfl : cR7 = c := Option.some.inj hc
    exact LSndN.mk good names mixes ctFa_ok (by decide) hR7
  · cases hc
theorem tvR7 (c p d n st lo li q : Int) : runX ctFa (llOfN Try.prog E 56 0 [(8, cHR7), (16, cR7)]) 56 [.agg [i64 c, i64 p, i64 d, i64 n, i64 st, i64 lo, i64 li, .int .i64 7], i64 q] [2, 2, 32] =
  (.br (sErr (sens (c, p, d, n, st, lo, li, (7 : Int), ())) != (0 : Int))
   (.leaf (.tup [.sym .i64 ((0 : Int)), .sym .i64 ((0 : Int)), .sym .i64 (sErr (sens (c, p, d, n, st, lo, li, (7 : Int), ())))]))
   (.br (decide (q < (1 : Int)))
    (.leaf (.tup [.sym .i64 ((0 : Int)), .sym .i64 ((0 : Int)), .sym .i64 ((2 : Int))]))
    (.br (decide (q > (12 : Int)))
     (.leaf (.tup [.sym .i64 ((0 : Int)), .sym .i64 ((0 : Int)), .sym .i64 ((2 : Int))]))
     (.req (((0 : Int) ≤ n ∧ n ≤ (15 : Int)) ∧ (-n ≤ IntKind.wrap IntKind.i64 ((0 : Int) - n) ∧ IntKind.wrap IntKind.i64 ((0 : Int) - n) ≤ n + (1 : Int)) ∧ (0 : Int) ≤ (0 : Int) ∧ (0 : Int) ≤ n + IntKind.wrap IntKind.i64 ((0 : Int) - n))
     (.req (List.length [(1 : Int), (0 : Int), (0 : Int), (0 : Int), (0 : Int), (0 : Int), (0 : Int)] = (7 : Nat) ∧ (0 : Int) ≤ (0 : Int) ∧ (0 : Int) ≤ q ∧ q ≤ (12 : Int))
     (.leaf (.tup [.sym .i64 (Rw.a7 (it7 (bb n) (hc st li (Int.toNat (n + (1 : Int) - IntKind.wrap IntKind.i64 ((0 : Int) - n))) (IntKind.wrap IntKind.i64 ((0 : Int) - n)) (0 : Int)) (IntKind.wrap IntKind.i64 (bb n - hc st li (Int.toNat (n + (1 : Int) - IntKind.wrap IntKind.i64 ((0 : Int) - n))) (IntKind.wrap IntKind.i64 ((0 : Int) - n)) (0 : Int))) (Int.toNat (q - (0 : Int))) (Rw.mk (ni6 [(1 : Int), (0 : Int), (0 : Int), (0 : Int), (0 : Int), (0 : Int), (0 : Int)] (0 : Int)) (ni6 [(1 : Int), (0 : Int), (0 : Int), (0 : Int), (0 : Int), (0 : Int), (0 : Int)] (1 : Int)) (ni6 [(1 : Int), (0 : Int), (0 : Int), (0 : Int), (0 : Int), (0 : Int), (0 : Int)] (2 : Int)) (ni6 [(1 : Int), (0 : Int), (0 : Int), (0 : Int), (0 : Int), (0 : Int), (0 : Int)] (3 : Int)) (ni6 [(1 : Int), (0 : Int), (0 : Int), (0 : Int), (0 : Int), (0 : Int), (0 : Int)] (4 : Int)) (ni6 [(1 : Int), (0 : Int), (0 : Int), (0 : Int), (0 : Int), (0 : Int), (0 : Int)] (5 : Int)) (ni6 [(1 : Int), (0 : Int), (0 : Int), (0 : Int), (0 : Int), (0 : Int), (0 : Int)] (6 : Int)) (0 : Int) (0 : Int)))), .sym .i64 (als (bb n) (Int.toNat (q - (0 : Int))) (1 : Int)), .sym .i64 ((0 : Int))]))))))) := by kernel_rfl
theorem llP8 : LLOk Try.prog E (llOfN Try.prog E 55 0 [(8, cHP8), (16, cP8)]) := llOfN_ok fun i hi c hc => by
  have hi : i < 3 := hi
  have : i = 0 ∨ i = 1 ∨ i = 2 := by omega
  rcases this with rfl | rfl | rfl
  · obtain rfl : cHP8 = c := Option.some.inj hc
    exact LSndN.mk good names mixes ctFa_ok (by decide) hHP8
  · obtain rfl : cP8 = c := Option.some.inj hc
    exact LSndN.mk good names mixes ctFa_ok (by decide) hP8
  · cases hc
theorem tvP8 (c p d n st lo li q : Int) : runX ctFa (llOfN Try.prog E 55 0 [(8, cHP8), (16, cP8)]) 55 [.agg [i64 c, i64 p, i64 d, i64 n, i64 st, i64 lo, i64 li, .int .i64 8], i64 q] [2, 2, 32] =
  (.br (sErr (sens (c, p, d, n, st, lo, li, (8 : Int), ())) != (0 : Int))
   (.leaf (.tup [.sym .i64 ((0 : Int)), .sym .i64 ((0 : Int)), .sym .i64 (sErr (sens (c, p, d, n, st, lo, li, (8 : Int), ())))]))
   (.br (decide (q < (1 : Int)))
    (.leaf (.tup [.sym .i64 ((0 : Int)), .sym .i64 ((0 : Int)), .sym .i64 ((2 : Int))]))
    (.br (decide (q > (12 : Int)))
     (.leaf (.tup [.sym .i64 ((0 : Int)), .sym .i64 ((0 : Int)), .sym .i64 ((2 : Int))]))
     (.req (((0 : Int) ≤ n ∧ n ≤ (15 : Int)) ∧ (-n ≤ IntKind.wrap IntKind.i64 ((0 : Int) - n) ∧ IntKind.wrap IntKind.i64 ((0 : Int) - n) ≤ n + (1 : Int)) ∧ (0 : Int) ≤ (0 : Int) ∧ (0 : Int) ≤ n + IntKind.wrap IntKind.i64 ((0 : Int) - n))
     (.req ((0 : Int) ≤ (0 : Int) ∧ (0 : Int) ≤ q ∧ q ≤ (12 : Int))
     (.leaf (.tup [.sym .i64 (Rw.a8 (it8 (IntKind.wrap IntKind.i64 (IntKind.wrap IntKind.i64 ((2 : Int) * n) + (1 : Int))) (hc st li (Int.toNat (n + (1 : Int) - IntKind.wrap IntKind.i64 ((0 : Int) - n))) (IntKind.wrap IntKind.i64 ((0 : Int) - n)) (0 : Int)) (IntKind.wrap IntKind.i64 (IntKind.wrap IntKind.i64 (IntKind.wrap IntKind.i64 ((2 : Int) * n) + (1 : Int)) - hc st li (Int.toNat (n + (1 : Int) - IntKind.wrap IntKind.i64 ((0 : Int) - n))) (IntKind.wrap IntKind.i64 ((0 : Int) - n)) (0 : Int))) (Int.toNat (q - (0 : Int))) (Rw.mk (1 : Int) (0 : Int) (0 : Int) (0 : Int) (0 : Int) (0 : Int) (0 : Int) (0 : Int) (0 : Int)))), .sym .i64 (als (IntKind.wrap IntKind.i64 (IntKind.wrap IntKind.i64 ((2 : Int) * n) + (1 : Int))) (Int.toNat (q - (0 : Int))) (1 : Int)), .sym .i64 ((0 : Int))]))))))) := by kernel_rfl
theorem llR8 : LLOk Try.prog E (llOfN Try.prog E 56 0 [(8, cHR8), (16, cR8)]) := llOfN_ok fun i hi c hc => by
  have hi : i < 3 := hi
  have : i = 0 ∨ i = 1 ∨ i = 2 := by omega
  rcases this with rfl | rfl | rfl
  · obtain rfl : cHR8 = c := Option.some.inj hc
    exact LSndN.mk good names mixes ctFa_ok (by decide) hHR8
  · obtain rfl : cR8 = c := Option.some.inj hc
    exact LSndN.mk good names mixes ctFa_ok (by decide) hR8
  · cases hc
theorem tvR8 (c p d n st lo li q : Int) : runX ctFa (llOfN Try.prog E 56 0 [(8, cHR8), (16, cR8)]) 56 [.agg [i64 c, i64 p, i64 d, i64 n, i64 st, i64 lo, i64 li, .int .i64 8], i64 q] [2, 2, 32] =
  (.br (sErr (sens (c, p, d, n, st, lo, li, (8 : Int), ())) != (0 : Int))
   (.leaf (.tup [.sym .i64 ((0 : Int)), .sym .i64 ((0 : Int)), .sym .i64 (sErr (sens (c, p, d, n, st, lo, li, (8 : Int), ())))]))
   (.br (decide (q < (1 : Int)))
    (.leaf (.tup [.sym .i64 ((0 : Int)), .sym .i64 ((0 : Int)), .sym .i64 ((2 : Int))]))
    (.br (decide (q > (12 : Int)))
     (.leaf (.tup [.sym .i64 ((0 : Int)), .sym .i64 ((0 : Int)), .sym .i64 ((2 : Int))]))
     (.req (((0 : Int) ≤ n ∧ n ≤ (15 : Int)) ∧ (-n ≤ IntKind.wrap IntKind.i64 ((0 : Int) - n) ∧ IntKind.wrap IntKind.i64 ((0 : Int) - n) ≤ n + (1 : Int)) ∧ (0 : Int) ≤ (0 : Int) ∧ (0 : Int) ≤ n + IntKind.wrap IntKind.i64 ((0 : Int) - n))
     (.req (List.length [(1 : Int), (0 : Int), (0 : Int), (0 : Int), (0 : Int), (0 : Int), (0 : Int), (0 : Int)] = (8 : Nat) ∧ (0 : Int) ≤ (0 : Int) ∧ (0 : Int) ≤ q ∧ q ≤ (12 : Int))
     (.leaf (.tup [.sym .i64 (Rw.a8 (it8 (bb n) (hc st li (Int.toNat (n + (1 : Int) - IntKind.wrap IntKind.i64 ((0 : Int) - n))) (IntKind.wrap IntKind.i64 ((0 : Int) - n)) (0 : Int)) (IntKind.wrap IntKind.i64 (bb n - hc st li (Int.toNat (n + (1 : Int) - IntKind.wrap IntKind.i64 ((0 : Int) - n))) (IntKind.wrap IntKind.i64 ((0 : Int) - n)) (0 : Int))) (Int.toNat (q - (0 : Int))) (Rw.mk (ni6 [(1 : Int), (0 : Int), (0 : Int), (0 : Int), (0 : Int), (0 : Int), (0 : Int), (0 : Int)] (0 : Int)) (ni6 [(1 : Int), (0 : Int), (0 : Int), (0 : Int), (0 : Int), (0 : Int), (0 : Int), (0 : Int)] (1 : Int)) (ni6 [(1 : Int), (0 : Int), (0 : Int), (0 : Int), (0 : Int), (0 : Int), (0 : Int), (0 : Int)] (2 : Int)) (ni6 [(1 : Int), (0 : Int), (0 : Int), (0 : Int), (0 : Int), (0 : Int), (0 : Int), (0 : Int)] (3 : Int)) (ni6 [(1 : Int), (0 : Int), (0 : Int), (0 : Int), (0 : Int), (0 : Int), (0 : Int), (0 : Int)] (4 : Int)) (ni6 [(1 : Int), (0 : Int), (0 : Int), (0 : Int), (0 : Int), (0 : Int), (0 : Int), (0 : Int)] (5 : Int)) (ni6 [(1 : Int), (0 : Int), (0 : Int), (0 : Int), (0 : Int), (0 : Int), (0 : Int), (0 : Int)] (6 : Int)) (ni6 [(1 : Int), (0 : Int), (0 : Int), (0 : Int), (0 : Int), (0 : Int), (0 : Int), (0 : Int)] (7 : Int)) (0 : Int)))), .sym .i64 (als (bb n) (Int.toNat (q - (0 : Int))) (1 : Int)), .sym .i64 ((0 : Int))]))))))) := by kernel_rfl
theorem llBP : LLOk Try.prog E (llOfN Try.prog E 55 0 [(8, cB55)]) := llOfN_ok fun i hi c hc => by
  have hi : i < 3 := hi
  have : i = 0 ∨ i = 1 ∨ i = 2 := by omega
  rcases this with rfl | rfl | rfl
  · obtain rfl : cB55 = c := Option.some.inj hc
    exact LSndN.mk good names mixes ctFa_ok (by decide) hB55
  · cases hc
  · cases hc
theorem tvBP (s : Sensor) (q : Int) : runX ctFa (llOfN Try.prog E 55 0 [(8, cB55)]) 55 [s.av, i64 q] [2, 2, 32] =
  (.br (sErr (sens (Sensor.Channel s, Sensor.Period s, Sensor.Delay s, Sensor.Noise s, Sensor.Step s, Sensor.Lost s, Sensor.Limit s, Sensor.Hold s, ())) != (0 : Int))
   (.leaf (.tup [.sym .i64 ((0 : Int)), .sym .i64 ((0 : Int)), .sym .i64 (sErr (sens (Sensor.Channel s, Sensor.Period s, Sensor.Delay s, Sensor.Noise s, Sensor.Step s, Sensor.Lost s, Sensor.Limit s, Sensor.Hold s, ())))]))
   (.br (decide (q < (1 : Int)))
    (.leaf (.tup [.sym .i64 ((0 : Int)), .sym .i64 ((0 : Int)), .sym .i64 ((2 : Int))]))
    (.br (decide (q > (12 : Int)))
     (.leaf (.tup [.sym .i64 ((0 : Int)), .sym .i64 ((0 : Int)), .sym .i64 ((2 : Int))]))
     .fail))) := by kernel_rfl
theorem llBR : LLOk Try.prog E (llOfN Try.prog E 56 0 [(8, cB56)]) := llOfN_ok fun i hi c hc => by
  have hi : i < 3 := hi
  have : i = 0 ∨ i = 1 ∨ i = 2 := by omega
  rcases this with rfl | rfl | rfl
  · obtain rfl : cB56 = c := Option.some.inj hc
    exact LSndN.mk good names mixes ctFa_ok (by decide) hB56
  · cases hc
  · cases hc
theorem tvBR (s : Sensor) (q : Int) : runX ctFa (llOfN Try.prog E 56 0 [(8, cB56)]) 56 [s.av, i64 q] [2, 2, 32] =
  (.br (sErr (sens (Sensor.Channel s, Sensor.Period s, Sensor.Delay s, Sensor.Noise s, Sensor.Step s, Sensor.Lost s, Sensor.Limit s, Sensor.Hold s, ())) != (0 : Int))
   (.leaf (.tup [.sym .i64 ((0 : Int)), .sym .i64 ((0 : Int)), .sym .i64 (sErr (sens (Sensor.Channel s, Sensor.Period s, Sensor.Delay s, Sensor.Noise s, Sensor.Step s, Sensor.Lost s, Sensor.Limit s, Sensor.Hold s, ())))]))
   (.br (decide (q < (1 : Int)))
    (.leaf (.tup [.sym .i64 ((0 : Int)), .sym .i64 ((0 : Int)), .sym .i64 ((2 : Int))]))
    (.br (decide (q > (12 : Int)))
     (.leaf (.tup [.sym .i64 ((0 : Int)), .sym .i64 ((0 : Int)), .sym .i64 ((2 : Int))]))
     .fail))) := by kernel_rfl
noncomputable def hiS (n st li : Int) : Int := hc st li (Int.toNat (n + (1 : Int) - IntKind.wrap IntKind.i64 ((0 : Int) - n))) (IntKind.wrap IntKind.i64 ((0 : Int) - n)) 0
noncomputable def fN (h n m q : Int) : Int := if h = 1 then (it1 (bb n) m (IntKind.wrap IntKind.i64 (bb n - m)) (Int.toNat (q - 0)) ⟨1, 0, 0, 0, 0, 0, 0, 0, 0⟩).a1 else if h = 2 then (it2 (bb n) m (IntKind.wrap IntKind.i64 (bb n - m)) (Int.toNat (q - 0)) ⟨1, 0, 0, 0, 0, 0, 0, 0, 0⟩).a2 else if h = 3 then (it3 (bb n) m (IntKind.wrap IntKind.i64 (bb n - m)) (Int.toNat (q - 0)) ⟨1, 0, 0, 0, 0, 0, 0, 0, 0⟩).a3 else if h = 4 then (it4 (bb n) m (IntKind.wrap IntKind.i64 (bb n - m)) (Int.toNat (q - 0)) ⟨1, 0, 0, 0, 0, 0, 0, 0, 0⟩).a4 else if h = 5 then (it5 (bb n) m (IntKind.wrap IntKind.i64 (bb n - m)) (Int.toNat (q - 0)) ⟨1, 0, 0, 0, 0, 0, 0, 0, 0⟩).a5 else if h = 6 then (it6 (bb n) m (IntKind.wrap IntKind.i64 (bb n - m)) (Int.toNat (q - 0)) ⟨1, 0, 0, 0, 0, 0, 0, 0, 0⟩).a6 else if h = 7 then (it7 (bb n) m (IntKind.wrap IntKind.i64 (bb n - m)) (Int.toNat (q - 0)) ⟨1, 0, 0, 0, 0, 0, 0, 0, 0⟩).a7 else if h = 8 then (it8 (bb n) m (IntKind.wrap IntKind.i64 (bb n - m)) (Int.toNat (q - 0)) ⟨1, 0, 0, 0, 0, 0, 0, 0, 0⟩).a8 else 0
noncomputable def fE (s : Sensor) (q : Int) : Int := if sErr s = 0 then (if q < 1 then 2 else if q > 12 then 2 else 0) else sErr s
noncomputable def fA (s : Sensor) (q : Int) : Int := if fE s q = 0 then fN s.Hold s.Noise (hiS s.Noise s.Step s.Limit) q else 0
noncomputable def fL (s : Sensor) (q : Int) : Int := if fE s q = 0 then als (bb s.Noise) (Int.toNat (q - 0)) 1 else 0
@[reducible] noncomputable def fV (s : Sensor) (q : Int) : AV T := .tup [i64 (fA s q), i64 (fL s q), i64 (fE s q)]
theorem f_no {s : Sensor} {q e : Int} (h : fE s q = e) (h0 : e ≠ 0) : (AV.tup [i64 0, i64 0, i64 e] : AV T) = fV s q := by
  unfold fV fA fL
  rw [h, if_neg h0, if_neg h0]
theorem se_0 {s : Sensor} (h : sErr s = 0) : okSe s := by
  unfold sErr at h
  split at h
  · split at h
    · assumption
    · omega
  · omega
theorem fact_lit {f : Nat} {c p d n st lo li h q : Int} {v : AV T} (H : Fact Try.prog E f [.agg [i64 c, i64 p, i64 d, i64 n, i64 st, i64 lo, i64 li, .int .i64 h], i64 q] v) : Fact Try.prog E f [(⟨c, p, d, n, st, lo, li, h⟩ : Sensor).av, i64 q] v := fun lim M β hp w vs hn hL => H lim M β hp w vs hn ⟨hL.1, fun j c x hc hx => by
  match j, hc with
  | 0, hc =>
    cases hc
    have k := hL.2 0 _ x rfl hx
    cases k with
    | agg h1 h2 =>
      refine .agg h1 fun j c v hc hv => ?_
      match j, hc with
      | 0, hc => exact h2 0 _ v hc hv
      | 1, hc => exact h2 1 _ v hc hv
      | 2, hc => exact h2 2 _ v hc hv
      | 3, hc => exact h2 3 _ v hc hv
      | 4, hc => exact h2 4 _ v hc hv
      | 5, hc => exact h2 5 _ v hc hv
      | 6, hc => exact h2 6 _ v hc hv
      | 7, hc =>
        cases hc
        have k := h2 7 _ v rfl hv
        cases k
        exact .int
      | j + 8, hc => cases hc
  | 1, hc => exact hL.2 1 _ x hc hx
  | j + 2, hc => cases hc⟩
theorem ssP1 (c p d n st lo li q : Int) (e : sErr ⟨c, p, d, n, st, lo, li, 1⟩ = 0) : (runX ctFa (llOfN Try.prog E 55 0 [(8, cHP1), (16, cP1)]) 55 [.agg [i64 c, i64 p, i64 d, i64 n, i64 st, i64 lo, i64 li, .int .i64 1], i64 q] [2, 2, 32]).holds fun v => v = fV ⟨c, p, d, n, st, lo, li, 1⟩ q := by
  rw [tvP1]
  have o := (se_0 e).2.2.1
  have o : 0 ≤ n ∧ n ≤ 15 := o
  have en : IntKind.wrap IntKind.i64 (0 - n) = -n := by rw [i64_in' (by omega) (by omega)]; omega
  refine wayNe (fun k => absurd e k) fun _ => way (fun k => f_no (by unfold fE; rw [if_pos e, if_pos k]) (by decide)) fun k => way (fun k2 => f_no (by unfold fE; rw [if_pos e, if_neg k, if_pos k2]) (by decide)) fun k2 => ?_
  have ef : fE ⟨c, p, d, n, st, lo, li, 1⟩ q = 0 := by unfold fE; rw [if_pos e, if_neg k, if_neg k2]
  refine ⟨⟨o, by omega, by omega, by omega⟩, ⟨by omega, by omega, by omega⟩, ?_⟩
  unfold fV fA fL
  rw [ef, if_pos rfl, if_pos rfl]
  rfl
theorem ssP2 (c p d n st lo li q : Int) (e : sErr ⟨c, p, d, n, st, lo, li, 2⟩ = 0) : (runX ctFa (llOfN Try.prog E 55 0 [(8, cHP2), (16, cP2)]) 55 [.agg [i64 c, i64 p, i64 d, i64 n, i64 st, i64 lo, i64 li, .int .i64 2], i64 q] [2, 2, 32]).holds fun v => v = fV ⟨c, p, d, n, st, lo, li, 2⟩ q := by
  rw [tvP2]
  have o := (se_0 e).2.2.1
  have o : 0 ≤ n ∧ n ≤ 15 := o
  have en : IntKind.wrap IntKind.i64 (0 - n) = -n := by rw [i64_in' (by omega) (by omega)]; omega
  refine wayNe (fun k => absurd e k) fun _ => way (fun k => f_no (by unfold fE; rw [if_pos e, if_pos k]) (by decide)) fun k => way (fun k2 => f_no (by unfold fE; rw [if_pos e, if_neg k, if_pos k2]) (by decide)) fun k2 => ?_
  have ef : fE ⟨c, p, d, n, st, lo, li, 2⟩ q = 0 := by unfold fE; rw [if_pos e, if_neg k, if_neg k2]
  refine ⟨⟨o, by omega, by omega, by omega⟩, ⟨by omega, by omega, by omega⟩, ?_⟩
  unfold fV fA fL
  rw [ef, if_pos rfl, if_pos rfl]
  rfl
theorem ssP3 (c p d n st lo li q : Int) (e : sErr ⟨c, p, d, n, st, lo, li, 3⟩ = 0) : (runX ctFa (llOfN Try.prog E 55 0 [(8, cHP3), (16, cP3)]) 55 [.agg [i64 c, i64 p, i64 d, i64 n, i64 st, i64 lo, i64 li, .int .i64 3], i64 q] [2, 2, 32]).holds fun v => v = fV ⟨c, p, d, n, st, lo, li, 3⟩ q := by
  rw [tvP3]
  have o := (se_0 e).2.2.1
  have o : 0 ≤ n ∧ n ≤ 15 := o
  have en : IntKind.wrap IntKind.i64 (0 - n) = -n := by rw [i64_in' (by omega) (by omega)]; omega
  refine wayNe (fun k => absurd e k) fun _ => way (fun k => f_no (by unfold fE; rw [if_pos e, if_pos k]) (by decide)) fun k => way (fun k2 => f_no (by unfold fE; rw [if_pos e, if_neg k, if_pos k2]) (by decide)) fun k2 => ?_
  have ef : fE ⟨c, p, d, n, st, lo, li, 3⟩ q = 0 := by unfold fE; rw [if_pos e, if_neg k, if_neg k2]
  refine ⟨⟨o, by omega, by omega, by omega⟩, ⟨by omega, by omega, by omega⟩, ?_⟩
  unfold fV fA fL
  rw [ef, if_pos rfl, if_pos rfl]
  rfl
theorem ssP4 (c p d n st lo li q : Int) (e : sErr ⟨c, p, d, n, st, lo, li, 4⟩ = 0) : (runX ctFa (llOfN Try.prog E 55 0 [(8, cHP4), (16, cP4)]) 55 [.agg [i64 c, i64 p, i64 d, i64 n, i64 st, i64 lo, i64 li, .int .i64 4], i64 q] [2, 2, 32]).holds fun v => v = fV ⟨c, p, d, n, st, lo, li, 4⟩ q := by
  rw [tvP4]
  have o := (se_0 e).2.2.1
  have o : 0 ≤ n ∧ n ≤ 15 := o
  have en : IntKind.wrap IntKind.i64 (0 - n) = -n := by rw [i64_in' (by omega) (by omega)]; omega
  refine wayNe (fun k => absurd e k) fun _ => way (fun k => f_no (by unfold fE; rw [if_pos e, if_pos k]) (by decide)) fun k => way (fun k2 => f_no (by unfold fE; rw [if_pos e, if_neg k, if_pos k2]) (by decide)) fun k2 => ?_
  have ef : fE ⟨c, p, d, n, st, lo, li, 4⟩ q = 0 := by unfold fE; rw [if_pos e, if_neg k, if_neg k2]
  refine ⟨⟨o, by omega, by omega, by omega⟩, ⟨by omega, by omega, by omega⟩, ?_⟩
  unfold fV fA fL
  rw [ef, if_pos rfl, if_pos rfl]
  rfl
theorem ssP5 (c p d n st lo li q : Int) (e : sErr ⟨c, p, d, n, st, lo, li, 5⟩ = 0) : (runX ctFa (llOfN Try.prog E 55 0 [(8, cHP5), (16, cP5)]) 55 [.agg [i64 c, i64 p, i64 d, i64 n, i64 st, i64 lo, i64 li, .int .i64 5], i64 q] [2, 2, 32]).holds fun v => v = fV ⟨c, p, d, n, st, lo, li, 5⟩ q := by
  rw [tvP5]
  have o := (se_0 e).2.2.1
  have o : 0 ≤ n ∧ n ≤ 15 := o
  have en : IntKind.wrap IntKind.i64 (0 - n) = -n := by rw [i64_in' (by omega) (by omega)]; omega
  refine wayNe (fun k => absurd e k) fun _ => way (fun k => f_no (by unfold fE; rw [if_pos e, if_pos k]) (by decide)) fun k => way (fun k2 => f_no (by unfold fE; rw [if_pos e, if_neg k, if_pos k2]) (by decide)) fun k2 => ?_
  have ef : fE ⟨c, p, d, n, st, lo, li, 5⟩ q = 0 := by unfold fE; rw [if_pos e, if_neg k, if_neg k2]
  refine ⟨⟨o, by omega, by omega, by omega⟩, ⟨by omega, by omega, by omega⟩, ?_⟩
  unfold fV fA fL
  rw [ef, if_pos rfl, if_pos rfl]
  rfl
theorem ssP6 (c p d n st lo li q : Int) (e : sErr ⟨c, p, d, n, st, lo, li, 6⟩ = 0) : (runX ctFa (llOfN Try.prog E 55 0 [(8, cHP6), (16, cP6)]) 55 [.agg [i64 c, i64 p, i64 d, i64 n, i64 st, i64 lo, i64 li, .int .i64 6], i64 q] [2, 2, 32]).holds fun v => v = fV ⟨c, p, d, n, st, lo, li, 6⟩ q := by
  rw [tvP6]
  have o := (se_0 e).2.2.1
  have o : 0 ≤ n ∧ n ≤ 15 := o
  have en : IntKind.wrap IntKind.i64 (0 - n) = -n := by rw [i64_in' (by omega) (by omega)]; omega
  refine wayNe (fun k => absurd e k) fun _ => way (fun k => f_no (by unfold fE; rw [if_pos e, if_pos k]) (by decide)) fun k => way (fun k2 => f_no (by unfold fE; rw [if_pos e, if_neg k, if_pos k2]) (by decide)) fun k2 => ?_
  have ef : fE ⟨c, p, d, n, st, lo, li, 6⟩ q = 0 := by unfold fE; rw [if_pos e, if_neg k, if_neg k2]
  refine ⟨⟨o, by omega, by omega, by omega⟩, ⟨by omega, by omega, by omega⟩, ?_⟩
  unfold fV fA fL
  rw [ef, if_pos rfl, if_pos rfl]
  rfl
theorem ssP7 (c p d n st lo li q : Int) (e : sErr ⟨c, p, d, n, st, lo, li, 7⟩ = 0) : (runX ctFa (llOfN Try.prog E 55 0 [(8, cHP7), (16, cP7)]) 55 [.agg [i64 c, i64 p, i64 d, i64 n, i64 st, i64 lo, i64 li, .int .i64 7], i64 q] [2, 2, 32]).holds fun v => v = fV ⟨c, p, d, n, st, lo, li, 7⟩ q := by
  rw [tvP7]
  have o := (se_0 e).2.2.1
  have o : 0 ≤ n ∧ n ≤ 15 := o
  have en : IntKind.wrap IntKind.i64 (0 - n) = -n := by rw [i64_in' (by omega) (by omega)]; omega
  refine wayNe (fun k => absurd e k) fun _ => way (fun k => f_no (by unfold fE; rw [if_pos e, if_pos k]) (by decide)) fun k => way (fun k2 => f_no (by unfold fE; rw [if_pos e, if_neg k, if_pos k2]) (by decide)) fun k2 => ?_
  have ef : fE ⟨c, p, d, n, st, lo, li, 7⟩ q = 0 := by unfold fE; rw [if_pos e, if_neg k, if_neg k2]
  refine ⟨⟨o, by omega, by omega, by omega⟩, ⟨by omega, by omega, by omega⟩, ?_⟩
  unfold fV fA fL
  rw [ef, if_pos rfl, if_pos rfl]
  rfl
theorem ssP8 (c p d n st lo li q : Int) (e : sErr ⟨c, p, d, n, st, lo, li, 8⟩ = 0) : (runX ctFa (llOfN Try.prog E 55 0 [(8, cHP8), (16, cP8)]) 55 [.agg [i64 c, i64 p, i64 d, i64 n, i64 st, i64 lo, i64 li, .int .i64 8], i64 q] [2, 2, 32]).holds fun v => v = fV ⟨c, p, d, n, st, lo, li, 8⟩ q := by
  rw [tvP8]
  have o := (se_0 e).2.2.1
  have o : 0 ≤ n ∧ n ≤ 15 := o
  have en : IntKind.wrap IntKind.i64 (0 - n) = -n := by rw [i64_in' (by omega) (by omega)]; omega
  refine wayNe (fun k => absurd e k) fun _ => way (fun k => f_no (by unfold fE; rw [if_pos e, if_pos k]) (by decide)) fun k => way (fun k2 => f_no (by unfold fE; rw [if_pos e, if_neg k, if_pos k2]) (by decide)) fun k2 => ?_
  have ef : fE ⟨c, p, d, n, st, lo, li, 8⟩ q = 0 := by unfold fE; rw [if_pos e, if_neg k, if_neg k2]
  refine ⟨⟨o, by omega, by omega, by omega⟩, ⟨by omega, by omega, by omega⟩, ?_⟩
  unfold fV fA fL
  rw [ef, if_pos rfl, if_pos rfl]
  rfl
theorem sf55 (s : Sensor) (q : Int) : Fact Try.prog E 55 [s.av, i64 q] (fV s q) := by
  by_cases e : sErr s = 0
  · have o := (se_0 e).2.2.2.2.2.2
    obtain ⟨c, p, d, n, st, lo, li, h⟩ := s
    have o : 1 ≤ h ∧ h ≤ 8 := o
    have : h = 1 ∨ h = 2 ∨ h = 3 ∨ h = 4 ∨ h = 5 ∨ h = 6 ∨ h = 7 ∨ h = 8 := by omega
    rcases this with rfl | rfl | rfl | rfl | rfl | rfl | rfl | rfl
    · exact fact_lit (fact_run ctFa_ok llP1 (ts := [2, 2, 32]) rfl (ssP1 c p d n st lo li q e))
    · exact fact_lit (fact_run ctFa_ok llP2 (ts := [2, 2, 32]) rfl (ssP2 c p d n st lo li q e))
    · exact fact_lit (fact_run ctFa_ok llP3 (ts := [2, 2, 32]) rfl (ssP3 c p d n st lo li q e))
    · exact fact_lit (fact_run ctFa_ok llP4 (ts := [2, 2, 32]) rfl (ssP4 c p d n st lo li q e))
    · exact fact_lit (fact_run ctFa_ok llP5 (ts := [2, 2, 32]) rfl (ssP5 c p d n st lo li q e))
    · exact fact_lit (fact_run ctFa_ok llP6 (ts := [2, 2, 32]) rfl (ssP6 c p d n st lo li q e))
    · exact fact_lit (fact_run ctFa_ok llP7 (ts := [2, 2, 32]) rfl (ssP7 c p d n st lo li q e))
    · exact fact_lit (fact_run ctFa_ok llP8 (ts := [2, 2, 32]) rfl (ssP8 c p d n st lo li q e))
  · exact fact_run ctFa_ok llBP (ts := [2, 2, 32]) rfl (by
      rw [tvBP]
      exact wayNe (fun k => f_no (by unfold fE; rw [if_neg e]) e) fun k => absurd k e)
theorem ssR1 (c p d n st lo li q : Int) (e : sErr ⟨c, p, d, n, st, lo, li, 1⟩ = 0) : (runX ctFa (llOfN Try.prog E 56 0 [(8, cHR1), (16, cR1)]) 56 [.agg [i64 c, i64 p, i64 d, i64 n, i64 st, i64 lo, i64 li, .int .i64 1], i64 q] [2, 2, 32]).holds fun v => v = fV ⟨c, p, d, n, st, lo, li, 1⟩ q := by
  rw [tvR1]
  have o := (se_0 e).2.2.1
  have o : 0 ≤ n ∧ n ≤ 15 := o
  have en : IntKind.wrap IntKind.i64 (0 - n) = -n := by rw [i64_in' (by omega) (by omega)]; omega
  refine wayNe (fun k => absurd e k) fun _ => way (fun k => f_no (by unfold fE; rw [if_pos e, if_pos k]) (by decide)) fun k => way (fun k2 => f_no (by unfold fE; rw [if_pos e, if_neg k, if_pos k2]) (by decide)) fun k2 => ?_
  have ef : fE ⟨c, p, d, n, st, lo, li, 1⟩ q = 0 := by unfold fE; rw [if_pos e, if_neg k, if_neg k2]
  refine ⟨⟨o, by omega, by omega, by omega⟩, ⟨rfl, by omega, by omega, by omega⟩, ?_⟩
  unfold fV fA fL
  rw [ef, if_pos rfl, if_pos rfl]
  rfl
theorem ssR2 (c p d n st lo li q : Int) (e : sErr ⟨c, p, d, n, st, lo, li, 2⟩ = 0) : (runX ctFa (llOfN Try.prog E 56 0 [(8, cHR2), (16, cR2)]) 56 [.agg [i64 c, i64 p, i64 d, i64 n, i64 st, i64 lo, i64 li, .int .i64 2], i64 q] [2, 2, 32]).holds fun v => v = fV ⟨c, p, d, n, st, lo, li, 2⟩ q := by
  rw [tvR2]
  have o := (se_0 e).2.2.1
  have o : 0 ≤ n ∧ n ≤ 15 := o
  have en : IntKind.wrap IntKind.i64 (0 - n) = -n := by rw [i64_in' (by omega) (by omega)]; omega
  refine wayNe (fun k => absurd e k) fun _ => way (fun k => f_no (by unfold fE; rw [if_pos e, if_pos k]) (by decide)) fun k => way (fun k2 => f_no (by unfold fE; rw [if_pos e, if_neg k, if_pos k2]) (by decide)) fun k2 => ?_
  have ef : fE ⟨c, p, d, n, st, lo, li, 2⟩ q = 0 := by unfold fE; rw [if_pos e, if_neg k, if_neg k2]
  refine ⟨⟨o, by omega, by omega, by omega⟩, ⟨rfl, by omega, by omega, by omega⟩, ?_⟩
  unfold fV fA fL
  rw [ef, if_pos rfl, if_pos rfl]
  rfl
theorem ssR3 (c p d n st lo li q : Int) (e : sErr ⟨c, p, d, n, st, lo, li, 3⟩ = 0) : (runX ctFa (llOfN Try.prog E 56 0 [(8, cHR3), (16, cR3)]) 56 [.agg [i64 c, i64 p, i64 d, i64 n, i64 st, i64 lo, i64 li, .int .i64 3], i64 q] [2, 2, 32]).holds fun v => v = fV ⟨c, p, d, n, st, lo, li, 3⟩ q := by
  rw [tvR3]
  have o := (se_0 e).2.2.1
  have o : 0 ≤ n ∧ n ≤ 15 := o
  have en : IntKind.wrap IntKind.i64 (0 - n) = -n := by rw [i64_in' (by omega) (by omega)]; omega
  refine wayNe (fun k => absurd e k) fun _ => way (fun k => f_no (by unfold fE; rw [if_pos e, if_pos k]) (by decide)) fun k => way (fun k2 => f_no (by unfold fE; rw [if_pos e, if_neg k, if_pos k2]) (by decide)) fun k2 => ?_
  have ef : fE ⟨c, p, d, n, st, lo, li, 3⟩ q = 0 := by unfold fE; rw [if_pos e, if_neg k, if_neg k2]
  refine ⟨⟨o, by omega, by omega, by omega⟩, ⟨rfl, by omega, by omega, by omega⟩, ?_⟩
  unfold fV fA fL
  rw [ef, if_pos rfl, if_pos rfl]
  rfl
theorem ssR4 (c p d n st lo li q : Int) (e : sErr ⟨c, p, d, n, st, lo, li, 4⟩ = 0) : (runX ctFa (llOfN Try.prog E 56 0 [(8, cHR4), (16, cR4)]) 56 [.agg [i64 c, i64 p, i64 d, i64 n, i64 st, i64 lo, i64 li, .int .i64 4], i64 q] [2, 2, 32]).holds fun v => v = fV ⟨c, p, d, n, st, lo, li, 4⟩ q := by
  rw [tvR4]
  have o := (se_0 e).2.2.1
  have o : 0 ≤ n ∧ n ≤ 15 := o
  have en : IntKind.wrap IntKind.i64 (0 - n) = -n := by rw [i64_in' (by omega) (by omega)]; omega
  refine wayNe (fun k => absurd e k) fun _ => way (fun k => f_no (by unfold fE; rw [if_pos e, if_pos k]) (by decide)) fun k => way (fun k2 => f_no (by unfold fE; rw [if_pos e, if_neg k, if_pos k2]) (by decide)) fun k2 => ?_
  have ef : fE ⟨c, p, d, n, st, lo, li, 4⟩ q = 0 := by unfold fE; rw [if_pos e, if_neg k, if_neg k2]
  refine ⟨⟨o, by omega, by omega, by omega⟩, ⟨rfl, by omega, by omega, by omega⟩, ?_⟩
  unfold fV fA fL
  rw [ef, if_pos rfl, if_pos rfl]
  rfl
theorem ssR5 (c p d n st lo li q : Int) (e : sErr ⟨c, p, d, n, st, lo, li, 5⟩ = 0) : (runX ctFa (llOfN Try.prog E 56 0 [(8, cHR5), (16, cR5)]) 56 [.agg [i64 c, i64 p, i64 d, i64 n, i64 st, i64 lo, i64 li, .int .i64 5], i64 q] [2, 2, 32]).holds fun v => v = fV ⟨c, p, d, n, st, lo, li, 5⟩ q := by
  rw [tvR5]
  have o := (se_0 e).2.2.1
  have o : 0 ≤ n ∧ n ≤ 15 := o
  have en : IntKind.wrap IntKind.i64 (0 - n) = -n := by rw [i64_in' (by omega) (by omega)]; omega
  refine wayNe (fun k => absurd e k) fun _ => way (fun k => f_no (by unfold fE; rw [if_pos e, if_pos k]) (by decide)) fun k => way (fun k2 => f_no (by unfold fE; rw [if_pos e, if_neg k, if_pos k2]) (by decide)) fun k2 => ?_
  have ef : fE ⟨c, p, d, n, st, lo, li, 5⟩ q = 0 := by unfold fE; rw [if_pos e, if_neg k, if_neg k2]
  refine ⟨⟨o, by omega, by omega, by omega⟩, ⟨rfl, by omega, by omega, by omega⟩, ?_⟩
  unfold fV fA fL
  rw [ef, if_pos rfl, if_pos rfl]
  rfl
theorem ssR6 (c p d n st lo li q : Int) (e : sErr ⟨c, p, d, n, st, lo, li, 6⟩ = 0) : (runX ctFa (llOfN Try.prog E 56 0 [(8, cHR6), (16, cR6)]) 56 [.agg [i64 c, i64 p, i64 d, i64 n, i64 st, i64 lo, i64 li, .int .i64 6], i64 q] [2, 2, 32]).holds fun v => v = fV ⟨c, p, d, n, st, lo, li, 6⟩ q := by
  rw [tvR6]
  have o := (se_0 e).2.2.1
  have o : 0 ≤ n ∧ n ≤ 15 := o
  have en : IntKind.wrap IntKind.i64 (0 - n) = -n := by rw [i64_in' (by omega) (by omega)]; omega
  refine wayNe (fun k => absurd e k) fun _ => way (fun k => f_no (by unfold fE; rw [if_pos e, if_pos k]) (by decide)) fun k => way (fun k2 => f_no (by unfold fE; rw [if_pos e, if_neg k, if_pos k2]) (by decide)) fun k2 => ?_
  have ef : fE ⟨c, p, d, n, st, lo, li, 6⟩ q = 0 := by unfold fE; rw [if_pos e, if_neg k, if_neg k2]
  refine ⟨⟨o, by omega, by omega, by omega⟩, ⟨rfl, by omega, by omega, by omega⟩, ?_⟩
  unfold fV fA fL
  rw [ef, if_pos rfl, if_pos rfl]
  rfl
theorem ssR7 (c p d n st lo li q : Int) (e : sErr ⟨c, p, d, n, st, lo, li, 7⟩ = 0) : (runX ctFa (llOfN Try.prog E 56 0 [(8, cHR7), (16, cR7)]) 56 [.agg [i64 c, i64 p, i64 d, i64 n, i64 st, i64 lo, i64 li, .int .i64 7], i64 q] [2, 2, 32]).holds fun v => v = fV ⟨c, p, d, n, st, lo, li, 7⟩ q := by
  rw [tvR7]
  have o := (se_0 e).2.2.1
  have o : 0 ≤ n ∧ n ≤ 15 := o
  have en : IntKind.wrap IntKind.i64 (0 - n) = -n := by rw [i64_in' (by omega) (by omega)]; omega
  refine wayNe (fun k => absurd e k) fun _ => way (fun k => f_no (by unfold fE; rw [if_pos e, if_pos k]) (by decide)) fun k => way (fun k2 => f_no (by unfold fE; rw [if_pos e, if_neg k, if_pos k2]) (by decide)) fun k2 => ?_
  have ef : fE ⟨c, p, d, n, st, lo, li, 7⟩ q = 0 := by unfold fE; rw [if_pos e, if_neg k, if_neg k2]
  refine ⟨⟨o, by omega, by omega, by omega⟩, ⟨rfl, by omega, by omega, by omega⟩, ?_⟩
  unfold fV fA fL
  rw [ef, if_pos rfl, if_pos rfl]
  rfl
theorem ssR8 (c p d n st lo li q : Int) (e : sErr ⟨c, p, d, n, st, lo, li, 8⟩ = 0) : (runX ctFa (llOfN Try.prog E 56 0 [(8, cHR8), (16, cR8)]) 56 [.agg [i64 c, i64 p, i64 d, i64 n, i64 st, i64 lo, i64 li, .int .i64 8], i64 q] [2, 2, 32]).holds fun v => v = fV ⟨c, p, d, n, st, lo, li, 8⟩ q := by
  rw [tvR8]
  have o := (se_0 e).2.2.1
  have o : 0 ≤ n ∧ n ≤ 15 := o
  have en : IntKind.wrap IntKind.i64 (0 - n) = -n := by rw [i64_in' (by omega) (by omega)]; omega
  refine wayNe (fun k => absurd e k) fun _ => way (fun k => f_no (by unfold fE; rw [if_pos e, if_pos k]) (by decide)) fun k => way (fun k2 => f_no (by unfold fE; rw [if_pos e, if_neg k, if_pos k2]) (by decide)) fun k2 => ?_
  have ef : fE ⟨c, p, d, n, st, lo, li, 8⟩ q = 0 := by unfold fE; rw [if_pos e, if_neg k, if_neg k2]
  refine ⟨⟨o, by omega, by omega, by omega⟩, ⟨rfl, by omega, by omega, by omega⟩, ?_⟩
  unfold fV fA fL
  rw [ef, if_pos rfl, if_pos rfl]
  rfl
theorem sf56 (s : Sensor) (q : Int) : Fact Try.prog E 56 [s.av, i64 q] (fV s q) := by
  by_cases e : sErr s = 0
  · have o := (se_0 e).2.2.2.2.2.2
    obtain ⟨c, p, d, n, st, lo, li, h⟩ := s
    have o : 1 ≤ h ∧ h ≤ 8 := o
    have : h = 1 ∨ h = 2 ∨ h = 3 ∨ h = 4 ∨ h = 5 ∨ h = 6 ∨ h = 7 ∨ h = 8 := by omega
    rcases this with rfl | rfl | rfl | rfl | rfl | rfl | rfl | rfl
    · exact fact_lit (fact_run ctFa_ok llR1 (ts := [2, 2, 32]) rfl (ssR1 c p d n st lo li q e))
    · exact fact_lit (fact_run ctFa_ok llR2 (ts := [2, 2, 32]) rfl (ssR2 c p d n st lo li q e))
    · exact fact_lit (fact_run ctFa_ok llR3 (ts := [2, 2, 32]) rfl (ssR3 c p d n st lo li q e))
    · exact fact_lit (fact_run ctFa_ok llR4 (ts := [2, 2, 32]) rfl (ssR4 c p d n st lo li q e))
    · exact fact_lit (fact_run ctFa_ok llR5 (ts := [2, 2, 32]) rfl (ssR5 c p d n st lo li q e))
    · exact fact_lit (fact_run ctFa_ok llR6 (ts := [2, 2, 32]) rfl (ssR6 c p d n st lo li q e))
    · exact fact_lit (fact_run ctFa_ok llR7 (ts := [2, 2, 32]) rfl (ssR7 c p d n st lo li q e))
    · exact fact_lit (fact_run ctFa_ok llR8 (ts := [2, 2, 32]) rfl (ssR8 c p d n st lo li q e))
  · exact fact_run ctFa_ok llBR (ts := [2, 2, 32]) rfl (by
      rw [tvBR]
      exact wayNe (fun k => f_no (by unfold fE; rw [if_neg e]) e) fun k => absurd k e)
noncomputable def cFal : Con T := conV Try.prog [shSe, .one (.i .i64)] [.n, .n, .n, .n, .n, .n, .n, .n, .n] fun d => fV ⟨d.1, d.2.1, d.2.2.1, d.2.2.2.1, d.2.2.2.2.1, d.2.2.2.2.2.1, d.2.2.2.2.2.2.1, d.2.2.2.2.2.2.2.1⟩ d.2.2.2.2.2.2.2.2.1
theorem falP_ok : ConOk Try.prog E 55 cFal := conV_ok fun d => sf55 ⟨d.1, d.2.1, d.2.2.1, d.2.2.2.1, d.2.2.2.2.1, d.2.2.2.2.2.1, d.2.2.2.2.2.2.1, d.2.2.2.2.2.2.2.1⟩ d.2.2.2.2.2.2.2.2.1
theorem falR_ok : ConOk Try.prog E 56 cFal := conV_ok fun d => sf56 ⟨d.1, d.2.1, d.2.2.1, d.2.2.2.1, d.2.2.2.2.1, d.2.2.2.2.2.1, d.2.2.2.2.2.2.1, d.2.2.2.2.2.2.2.1⟩ d.2.2.2.2.2.2.2.2.1
noncomputable def ctKF : CTab T := [(17, cAwake), (55, cFal), (56, cFal)]
theorem ctKF_ok : CTabOk Try.prog E ctKF := .cons awake_ok (.cons falP_ok (.cons falR_ok .nil))
theorem tvKF (s : Sensor) (q : Int) : runX ctKF noLoops 7 [s.av, i64 q] [4] =
  (.br (fA (Sensor.mk (Sensor.Channel s) (Sensor.Period s) (Sensor.Delay s) (Sensor.Noise s) (Sensor.Step s) (Sensor.Lost s) (Sensor.Limit s) (Sensor.Hold s)) q == fA (Sensor.mk (Sensor.Channel s) (Sensor.Period s) (Sensor.Delay s) (Sensor.Noise s) (Sensor.Step s) (Sensor.Lost s) (Sensor.Limit s) (Sensor.Hold s)) q)
   (.br (fL (Sensor.mk (Sensor.Channel s) (Sensor.Period s) (Sensor.Delay s) (Sensor.Noise s) (Sensor.Step s) (Sensor.Lost s) (Sensor.Limit s) (Sensor.Hold s)) q == fL (Sensor.mk (Sensor.Channel s) (Sensor.Period s) (Sensor.Delay s) (Sensor.Noise s) (Sensor.Step s) (Sensor.Lost s) (Sensor.Limit s) (Sensor.Hold s)) q)
    (.br (fE (Sensor.mk (Sensor.Channel s) (Sensor.Period s) (Sensor.Delay s) (Sensor.Noise s) (Sensor.Step s) (Sensor.Lost s) (Sensor.Limit s) (Sensor.Hold s)) q == fE (Sensor.mk (Sensor.Channel s) (Sensor.Period s) (Sensor.Delay s) (Sensor.Noise s) (Sensor.Step s) (Sensor.Lost s) (Sensor.Limit s) (Sensor.Hold s)) q)
     (.leaf (.bool (true)))
     (.leaf (.bool (false))))
    (.leaf (.bool (false))))
   (.leaf (.bool (false)))) := by kernel_rfl
theorem kickFalse_proved : Rows.KickFalseSaid := kickFalse_said fun s q _ _ => fact_run ctKF_ok noLoops_ok (ts := [4]) rfl (by
  rw [tvKF]
  exact wayEq (fun _ => wayEq (fun _ => wayEq (fun _ => rfl) fun c => absurd rfl c) fun c => absurd rfl c) fun c => absurd rfl c)
end Go.Proofs.Ytdclipcjlimdoaa.W
