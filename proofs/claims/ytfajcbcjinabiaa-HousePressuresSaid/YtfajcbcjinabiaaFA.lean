/- FluidFlows: what flows, by numbers of any size. No condition. -/
import Derived.Test.YtfajcbcjinabiaaNG
import Derived.Test.YtfajcbcjinabiaaB3
set_option linter.unusedVariables false
set_option maxRecDepth 100000
set_option maxHeartbeats 4000000
noncomputable section
namespace Go.Proofs.Ytfajcbcjinabiaa.W
open Go Go.Cx Go.RowKit
theorem tv83 (L R A G Y V g q : Int) : runX Big.ctB noLoops 60 [.agg [i64 L, i64 R, i64 A, i64 G], .agg [i64 Y, i64 V], i64 g, i64 q] [4] =
  (.br (q == (0 : Int))
   (.leaf (.bool (true)))
   (.br (decide (IntKind.wrap IntKind.i64 (g * G) ≤ Y))
    (.leaf (.bool (false)))
    (.req (Big.okF [(2 : Int), IntKind.wrap IntKind.i64 (g * G), IntKind.wrap IntKind.i64 (g * G), IntKind.wrap IntKind.i64 (g * G), G, A] ∧ List.length [(2 : Int), IntKind.wrap IntKind.i64 (g * G), IntKind.wrap IntKind.i64 (g * G), IntKind.wrap IntKind.i64 (g * G), G, A] ≤ (20 : Nat))
    (.req (Big.okF [Y, Y, Y, G, A] ∧ List.length [Y, Y, Y, G, A] ≤ (20 : Nat))
    (.req ((Big.Dg (Big.prodL [(2 : Int), IntKind.wrap IntKind.i64 (g * G), IntKind.wrap IntKind.i64 (g * G), IntKind.wrap IntKind.i64 (g * G), G, A] [(1 : Int)]) ∧ Big.Dg (Big.prodL [Y, Y, Y, G, A] [(1 : Int)])) ∧ List.length (Big.prodL [(2 : Int), IntKind.wrap IntKind.i64 (g * G), IntKind.wrap IntKind.i64 (g * G), IntKind.wrap IntKind.i64 (g * G), G, A] [(1 : Int)]) ≤ (500 : Nat) ∧ List.length (Big.prodL [Y, Y, Y, G, A] [(1 : Int)]) ≤ (500 : Nat))
    (.req (Big.okF [q, V, IntKind.wrap IntKind.i64 (g * G), IntKind.wrap IntKind.i64 (g * G)] ∧ List.length [q, V, IntKind.wrap IntKind.i64 (g * G), IntKind.wrap IntKind.i64 (g * G)] ≤ (20 : Nat))
    (.req (Big.okF [(3 : Int), Y, IntKind.wrap IntKind.i64 (g * G), IntKind.wrap IntKind.i64 (g * G), G, A] ∧ List.length [(3 : Int), Y, IntKind.wrap IntKind.i64 (g * G), IntKind.wrap IntKind.i64 (g * G), G, A] ≤ (20 : Nat))
    (.req ((Big.Dg (Big.prodL [q, V, IntKind.wrap IntKind.i64 (g * G), IntKind.wrap IntKind.i64 (g * G)] [(1 : Int)]) ∧ Big.Dg (Big.prodL [(3 : Int), Y, IntKind.wrap IntKind.i64 (g * G), IntKind.wrap IntKind.i64 (g * G), G, A] [(1 : Int)])) ∧ List.length (Big.prodL [q, V, IntKind.wrap IntKind.i64 (g * G), IntKind.wrap IntKind.i64 (g * G)] [(1 : Int)]) ≤ (500 : Nat) ∧ List.length (Big.prodL [(3 : Int), Y, IntKind.wrap IntKind.i64 (g * G), IntKind.wrap IntKind.i64 (g * G), G, A] [(1 : Int)]) ≤ (500 : Nat))
    (.req ((Big.Dg (Big.addD (Big.prodL [(2 : Int), IntKind.wrap IntKind.i64 (g * G), IntKind.wrap IntKind.i64 (g * G), IntKind.wrap IntKind.i64 (g * G), G, A] [(1 : Int)]) (Big.prodL [Y, Y, Y, G, A] [(1 : Int)]) (0 : Int)) ∧ Big.Dg (Big.addD (Big.prodL [q, V, IntKind.wrap IntKind.i64 (g * G), IntKind.wrap IntKind.i64 (g * G)] [(1 : Int)]) (Big.prodL [(3 : Int), Y, IntKind.wrap IntKind.i64 (g * G), IntKind.wrap IntKind.i64 (g * G), G, A] [(1 : Int)]) (0 : Int))) ∧ List.length (Big.addD (Big.prodL [(2 : Int), IntKind.wrap IntKind.i64 (g * G), IntKind.wrap IntKind.i64 (g * G), IntKind.wrap IntKind.i64 (g * G), G, A] [(1 : Int)]) (Big.prodL [Y, Y, Y, G, A] [(1 : Int)]) (0 : Int)) ≤ (1000 : Nat) ∧ List.length (Big.addD (Big.prodL [q, V, IntKind.wrap IntKind.i64 (g * G), IntKind.wrap IntKind.i64 (g * G)] [(1 : Int)]) (Big.prodL [(3 : Int), Y, IntKind.wrap IntKind.i64 (g * G), IntKind.wrap IntKind.i64 (g * G), G, A] [(1 : Int)]) (0 : Int)) ≤ (1000 : Nat))
    (.leaf (.bool (decide (Big.val (Big.addD (Big.prodL [q, V, IntKind.wrap IntKind.i64 (g * G), IntKind.wrap IntKind.i64 (g * G)] [(1 : Int)]) (Big.prodL [(3 : Int), Y, IntKind.wrap IntKind.i64 (g * G), IntKind.wrap IntKind.i64 (g * G), G, A] [(1 : Int)]) (0 : Int)) ≤ Big.val (Big.addD (Big.prodL [(2 : Int), IntKind.wrap IntKind.i64 (g * G), IntKind.wrap IntKind.i64 (g * G), IntKind.wrap IntKind.i64 (g * G), G, A] [(1 : Int)]) (Big.prodL [Y, Y, Y, G, A] [(1 : Int)]) (0 : Int))))))))))))))) := by kernel_rfl
theorem s83 (L R A G Y V g q : Int) (h : vf L R A G Y V q) (hg : 0 ≤ g ∧ g ≤ 20000) : (runX Big.ctB noLoops 60 [.agg [i64 L, i64 R, i64 A, i64 G], .agg [i64 Y, i64 V], i64 g, i64 q] [4]).holds fun v => v = .bool (pB A G Y V g q) := by
  rw [tv83]
  obtain ⟨h1, h2, h3, h4, h5, h6, h7⟩ := h
  have ht := mulb (a := g) (b := G) (m := 20000) (k := 200) hg.1 hg.2 (by omega) h4.2
  rw [i64_in' (n := g * G) (by omega) (by omega)]
  unfold pB
  generalize g * G = t at *
  have r2 : (0 : Int) ≤ 2 ∧ (2 : Int) ≤ 1099511627776 := by decide
  have r3 : (0 : Int) ≤ 3 ∧ (3 : Int) ≤ 1099511627776 := by decide
  have rt : 0 ≤ t ∧ t ≤ 1099511627776 := by omega
  have rG : 0 ≤ G ∧ G ≤ 1099511627776 := by omega
  have rA : 0 ≤ A ∧ A ≤ 1099511627776 := by omega
  have rY : 0 ≤ Y ∧ Y ≤ 1099511627776 := by omega
  have rq : 0 ≤ q ∧ q ≤ 1099511627776 := by omega
  have rV : 0 ≤ V ∧ V ≤ 1099511627776 := by omega
  have f1 : Big.okF [2, t, t, t, G, A] := Big.okF_cons r2 (Big.okF_cons rt (Big.okF_cons rt (Big.okF_cons rt (Big.okF_cons rG (Big.okF_cons rA Big.okF_nil)))))
  have f2 : Big.okF [Y, Y, Y, G, A] := Big.okF_cons rY (Big.okF_cons rY (Big.okF_cons rY (Big.okF_cons rG (Big.okF_cons rA Big.okF_nil))))
  have f3 : Big.okF [q, V, t, t] := Big.okF_cons rq (Big.okF_cons rV (Big.okF_cons rt (Big.okF_cons rt Big.okF_nil)))
  have f4 : Big.okF [3, Y, t, t, G, A] := Big.okF_cons r3 (Big.okF_cons rY (Big.okF_cons rt (Big.okF_cons rt (Big.okF_cons rG (Big.okF_cons rA Big.okF_nil)))))
  have g1 := Big.prod_dg f1
  have g2 := Big.prod_dg f2
  have g3 := Big.prod_dg f3
  have g4 := Big.prod_dg f4
  have a1 := Big.add_val g1.1 g2.1
  have a2 := Big.add_val g3.1 g4.1
  have v1 := Big.prod_val f1
  have v2 := Big.prod_val f2
  have v3 := Big.prod_val f3
  have v4 := Big.prod_val f4
  have l1 : (Big.prodL [2, t, t, t, G, A] [1]).length ≤ 30 := Nat.le_trans g1.2 (by simp)
  have l2 : (Big.prodL [Y, Y, Y, G, A] [1]).length ≤ 30 := Nat.le_trans g2.2 (by simp)
  have l3 : (Big.prodL [q, V, t, t] [1]).length ≤ 30 := Nat.le_trans g3.2 (by simp)
  have l4 : (Big.prodL [3, Y, t, t, G, A] [1]).length ≤ 30 := Nat.le_trans g4.2 (by simp)
  refine wayEq (fun c => ?_) fun c => way (fun k => ?_) fun k => ⟨⟨f1, by simp⟩, ⟨f2, by simp⟩, ⟨⟨g1.1, g2.1⟩, by omega, by omega⟩, ⟨f3, by simp⟩, ⟨f4, by simp⟩, ⟨⟨g3.1, g4.1⟩, by omega, by omega⟩, ⟨⟨a1.1, a2.1⟩, by omega, by omega⟩, ?_⟩
  · subst c
    by_cases k : t ≤ Y
    · rw [decide_eq_true k]; rfl
    · rw [decide_eq_false k, Bool.cond_false, Int.zero_mul, Int.zero_mul]
      exact congrArg AV.bool (decide_eq_true (Int.mul_nonneg (Int.mul_nonneg (by omega) (by omega)) (Int.mul_nonneg (by omega) (Int.mul_nonneg (by omega) (by omega))))).symm
  · rw [decide_eq_true k, Bool.cond_true]
    exact congrArg AV.bool (decide_eq_false c).symm
  · rw [decide_eq_false k, Bool.cond_false]
    refine congrArg AV.bool (decide_eq_decide.2 ?_)
    rw [a1.2.1, a2.2.1, v1, v2, v3, v4]
    show q * (V * (t * (t * 1))) + 3 * (Y * (t * (t * (G * (A * 1))))) ≤ 2 * (t * (t * (t * (G * (A * 1))))) + Y * (Y * (Y * (G * (A * 1)))) ↔ _
    have i1 : q * (V * (t * (t * 1))) = q * V * (t * t) := by grind
    have i2 : 2 * (t * (t * (t * (G * (A * 1))))) + Y * (Y * (Y * (G * (A * 1)))) - 3 * (Y * (t * (t * (G * (A * 1))))) = (t - Y) * (t - Y) * ((2 * t + Y) * (G * A)) := by grind
    omega
noncomputable def cFlowsR : Con T := conP Try.prog [shSg, shM, .one (.i .i64), .one (.i .i64)] [.n, .n, .n, .n, .n, .n, .n, .n] (fun d => vf d.1 d.2.1 d.2.2.1 d.2.2.2.1 d.2.2.2.2.1 d.2.2.2.2.2.1 d.2.2.2.2.2.2.2.1 ∧ 0 ≤ d.2.2.2.2.2.2.1 ∧ d.2.2.2.2.2.2.1 ≤ 20000) fun d => .bool (pB d.2.2.1 d.2.2.2.1 d.2.2.2.2.1 d.2.2.2.2.2.1 d.2.2.2.2.2.2.1 d.2.2.2.2.2.2.2.1)
theorem flowsR_ok : ConOk Try.prog E 60 cFlowsR := conP_ok fun d hd => fact_run Big.ctB_ok noLoops_ok (ts := [4]) rfl (s83 _ _ _ _ _ _ _ _ hd.1 hd.2)
theorem tv82 (L R A G Y V q : Int) : runX ([] : CTab T) noLoops 59 [.agg [i64 L, i64 R, i64 A, i64 G], .agg [i64 Y, i64 V], i64 q] [4] =
  (.br (decide (L ≥ (1 : Int)))
   (.br (decide (L ≤ (1048576 : Int)))
    (.br (decide (R ≥ (0 : Int)))
     (.br (decide (R ≤ L))
      (.br (decide (A ≥ (1 : Int)))
       (.br (decide (A ≤ (5000 : Int)))
        (.br (decide (G ≥ (1 : Int)))
         (.br (decide (G ≤ (200 : Int)))
          (.br (decide (Y ≥ (0 : Int)))
           (.br (decide (Y ≤ (1000000 : Int)))
            (.br (decide (V ≥ (1 : Int)))
             (.br (decide (V ≤ (1000000 : Int)))
              (.br (decide (q ≥ (0 : Int)))
               (.leaf (.bool (decide (q ≤ (1000000 : Int)))))
               (.leaf (.bool (false))))
              (.leaf (.bool (false))))
             (.leaf (.bool (false))))
            (.leaf (.bool (false))))
           (.leaf (.bool (false))))
          (.leaf (.bool (false))))
         (.leaf (.bool (false))))
        (.leaf (.bool (false))))
       (.leaf (.bool (false))))
      (.leaf (.bool (false))))
     (.leaf (.bool (false))))
    (.leaf (.bool (false))))
   (.leaf (.bool (false)))) := by kernel_rfl
theorem s82 (L R A G Y V q : Int) : (runX ([] : CTab T) noLoops 59 [.agg [i64 L, i64 R, i64 A, i64 G], .agg [i64 Y, i64 V], i64 q] [4]).holds fun v => v = .bool (decide (vf L R A G Y V q)) := by
  rw [tv82]
  (repeat' first | (apply way <;> intro _)) <;> first | exact congrArg AV.bool (decide_eq_true (by unfold vf; omega)).symm | exact congrArg AV.bool (decide_eq_false (by unfold vf; omega)).symm | (refine congrArg AV.bool (decide_eq_decide.2 ?_); unfold vf; omega)
noncomputable def cFair : Con T := conV Try.prog [shSg, shM, .one (.i .i64)] [.n, .n, .n, .n, .n, .n, .n] fun d => .bool (decide (vf d.1 d.2.1 d.2.2.1 d.2.2.2.1 d.2.2.2.2.1 d.2.2.2.2.2.1 d.2.2.2.2.2.2.1))
theorem fair_ok : ConOk Try.prog E 59 cFair := conV_ok fun d => fact_run .nil noLoops_ok (ts := [4]) rfl (s82 _ _ _ _ _ _ _)
noncomputable def ctFR : CTab T := [(60, cFlowsR), (59, cFair)]
theorem ctFR_ok : CTabOk Try.prog E ctFR := .cons flowsR_ok (.cons fair_ok .nil)
end Go.Proofs.Ytfajcbcjinabiaa.W
