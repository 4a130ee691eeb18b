/- S03FA and S03FB and S03FC and S03FD and S03FE in one text. No condition. -/
import Derived.Test.YtnhedcaphncliaaN
import Derived.Test.YtnhedcaphncliaaB3
import Derived.Test.YtnhedcaphncliaaH1
import Derived.Test.YtnhedcaphncliaaW
import Derived.Test.YtnhedcaphncliaaLFluidLosses
import Derived.Test.YtnhedcaphncliaaCz14
set_option linter.unusedVariables false
set_option linter.unusedVariables false
set_option maxRecDepth 100000
set_option maxHeartbeats 4000000
noncomputable section
namespace Go.Proofs.Ytnhedcaphncliaa.W
open Go Go.Cx Go.RowKit
theorem tv83 (L R A G Y V g q : Int) : runX Big.ctB noLoops 83 [.agg [i64 L, i64 R, i64 A, i64 G], .agg [i64 Y, i64 V], i64 g, i64 q] [4] =
  (.br (q == (0 : Int))
   (.leaf (.bool (true)))
   (.br (decide (IntKind.wrap IntKind.i64 (g * G) ≤ Y))
    (.leaf (.bool (false)))
    (.req (Big.okF [(2 : Int), IntKind.wrap IntKind.i64 (g * G), IntKind.wrap IntKind.i64 (g * G), IntKind.wrap IntKind.i64 (g * G), G, A] ∧ List.length [(2 : Int), IntKind.wrap IntKind.i64 (g * G), IntKind.wrap IntKind.i64 (g * G), IntKind.wrap IntKind.i64 (g * G), G, A] ≤ (20 : Nat))
    (.req (Big.okF [Y, Y, Y, G, A] ∧ List.length [Y, Y, Y, G, A] ≤ (20 : Nat))
    (.req ((Big.Dg (Big.prodL [(2 : Int), IntKind.wrap IntKind.i64 (g * G), IntKind.wrap IntKind.i64 (g * G), IntKind.wrap IntKind.i64 (g * G), G, A] [(1 : Int)]) ∧ Big.Dg (Big.prodL [Y, Y, Y, G, A] [(1 : Int)])) ∧ List.length (Big.prodL [(2 : Int), IntKind.wrap IntKind.i64 (g * G), IntKind.wrap IntKind.i64 (g * G), IntKind.wrap IntKind.i64 (g * G), G, A] [(1 : Int)]) ≤ (500 : Nat) ∧ List.length (Big.prodL [Y, Y, Y, G, A] [(1 : Int)]) ≤ (500 : Nat))
    (.req (Big.okF [q, V, IntKind.wrap IntKind.i64 (g * G), IntKind.wrap IntKind.i64 (g * G)] ∧ List.length [q, V, IntKind.wrap IntKind.i64 (g * G), IntKind.wrap IntKind.i64 (g * G)] ≤ (20 : Nat))
    (.req (Big.okF [(3 : Int), Y, IntKind.wrap IntKind.i64 (g * G), IntKind.wrap IntKind.i64 (g * G), G, A] ∧ List.length [(3 : Int), Y, IntKind.wrap IntKind.i64 (g * G), IntKind.wrap IntKind.i64 (g * G), G, A] ≤ (20 : Nat))
    (.req ((Big.Dg (Big.prodL [q, V, IntKind.wrap IntKind.i64 (g * G), IntKind.wrap IntKind.i64 (g * G)] [(1 : Int)]) ∧ Big.Dg (Big.prodL [(3 : Int), Y, IntKind.wrap IntKind.i64 (g * G), IntKind.wrap IntKind.i64 (g * G), G, A] [(1 : Int)])) ∧ List.length (Big.prodL [q, V, IntKind.wrap IntKind.i64 (g * G), IntKind.wrap IntKind.i64 (g * G)] [(1 : Int)]) ≤ (500 : Nat) ∧ List.length (Big.prodL [(3 : Int), Y, IntKind.wrap IntKind.i64 (g * G), IntKind.wrap IntKind.i64 (g * G), G, A] [(1 : Int)]) ≤ (500 : Nat))
    (.req ((Big.Dg (Big.addD (Big.prodL [(2 : Int), IntKind.wrap IntKind.i64 (g * G), IntKind.wrap IntKind.i64 (g * G), IntKind.wrap IntKind.i64 (g * G), G, A] [(1 : Int)]) (Big.prodL [Y, Y, Y, G, A] [(1 : Int)]) (0 : Int)) ∧ Big.Dg (Big.addD (Big.prodL [q, V, IntKind.wrap IntKind.i64 (g * G), IntKind.wrap IntKind.i64 (g * G)] [(1 : Int)]) (Big.prodL [(3 : Int), Y, IntKind.wrap IntKind.i64 (g * G), IntKind.wrap IntKind.i64 (g * G), G, A] [(1 : Int)]) (0 : Int))) ∧ List.length (Big.addD (Big.prodL [(2 : Int), IntKind.wrap IntKind.i64 (g * G), IntKind.wrap IntKind.i64 (g * G), IntKind.wrap IntKind.i64 (g * G), G, A] [(1 : Int)]) (Big.prodL [Y, Y, Y, G, A] [(1 : Int)]) (0 : Int)) ≤ (1000 : Nat) ∧ List.length (Big.addD (Big.prodL [q, V, IntKind.wrap IntKind.i64 (g * G), IntKind.wrap IntKind.i64 (g * G)] [(1 : Int)]) (Big.prodL [(3 : Int), Y, IntKind.wrap IntKind.i64 (g * G), IntKind.wrap IntKind.i64 (g * G), G, A] [(1 : Int)]) (0 : Int)) ≤ (1000 : Nat))
    (.leaf (.bool (decide (Big.val (Big.addD (Big.prodL [q, V, IntKind.wrap IntKind.i64 (g * G), IntKind.wrap IntKind.i64 (g * G)] [(1 : Int)]) (Big.prodL [(3 : Int), Y, IntKind.wrap IntKind.i64 (g * G), IntKind.wrap IntKind.i64 (g * G), G, A] [(1 : Int)]) (0 : Int)) ≤ Big.val (Big.addD (Big.prodL [(2 : Int), IntKind.wrap IntKind.i64 (g * G), IntKind.wrap IntKind.i64 (g * G), IntKind.wrap IntKind.i64 (g * G), G, A] [(1 : Int)]) (Big.prodL [Y, Y, Y, G, A] [(1 : Int)]) (0 : Int))))))))))))))) := by kernel_rfl
theorem s83 (L R A G Y V g q : Int) (h : vf L R A G Y V q) (hg : 0 ≤ g ∧ g ≤ 20000) : (runX Big.ctB noLoops 83 [.agg [i64 L, i64 R, i64 A, i64 G], .agg [i64 Y, i64 V], i64 g, i64 q] [4]).holds fun v => v = .bool (pB A G Y V g q) := by
  rw [tv83]
  obtain ⟨h1, h2, h3, h4, h5, h6, h7⟩ := h
  have ht := mulb (a := g) (b := G) (m := 20000) (k := 200) hg.1 hg.2 (by omega) h4.2
  rw [i64_in' (n := g * G) (by omega) (by omega)]
  unfold pB
  generalize g * G = t at *
  have r2 : (0 : Int) ≤ 2 ∧ (2 : Int) ≤ 1099511627776 := by decide
  have r3 : (0 : Int) ≤ 3 ∧ (3 : Int) ≤ 1099511627776 := by decide
  have rt : 0 ≤ t ∧ t ≤ 1099511627776 := by omega
  have rG : 0 ≤ G ∧ G ≤ 1099511627776 := by omega
  have rA : 0 ≤ A ∧ A ≤ 1099511627776 := by omega
  have rY : 0 ≤ Y ∧ Y ≤ 1099511627776 := by omega
  have rq : 0 ≤ q ∧ q ≤ 1099511627776 := by omega
  have rV : 0 ≤ V ∧ V ≤ 1099511627776 := by omega
  have f1 : Big.okF [2, t, t, t, G, A] := Big.okF_cons r2 (Big.okF_cons rt (Big.okF_cons rt (Big.okF_cons rt (Big.okF_cons rG (Big.okF_cons rA Big.okF_nil)))))
  have f2 : Big.okF [Y, Y, Y, G, A] := Big.okF_cons rY (Big.okF_cons rY (Big.okF_cons rY (Big.okF_cons rG (Big.okF_cons rA Big.okF_nil))))
  have f3 : Big.okF [q, V, t, t] := Big.okF_cons rq (Big.okF_cons rV (Big.okF_cons rt (Big.okF_cons rt Big.okF_nil)))
  have f4 : Big.okF [3, Y, t, t, G, A] := Big.okF_cons r3 (Big.okF_cons rY (Big.okF_cons rt (Big.okF_cons rt (Big.okF_cons rG (Big.okF_cons rA Big.okF_nil)))))
  have g1 := Big.prod_dg f1
  have g2 := Big.prod_dg f2
  have g3 := Big.prod_dg f3
  have g4 := Big.prod_dg f4
  have a1 := Big.add_val g1.1 g2.1
  have a2 := Big.add_val g3.1 g4.1
  have v1 := Big.prod_val f1
  have v2 := Big.prod_val f2
  have v3 := Big.prod_val f3
  have v4 := Big.prod_val f4
  have l1 : (Big.prodL [2, t, t, t, G, A] [1]).length ≤ 30 := Nat.le_trans g1.2 (by simp)
  have l2 : (Big.prodL [Y, Y, Y, G, A] [1]).length ≤ 30 := Nat.le_trans g2.2 (by simp)
  have l3 : (Big.prodL [q, V, t, t] [1]).length ≤ 30 := Nat.le_trans g3.2 (by simp)
  have l4 : (Big.prodL [3, Y, t, t, G, A] [1]).length ≤ 30 := Nat.le_trans g4.2 (by simp)
  refine wayEq (fun c => ?_) fun c => way (fun k => ?_) fun k => ⟨⟨f1, by simp⟩, ⟨f2, by simp⟩, ⟨⟨g1.1, g2.1⟩, by omega, by omega⟩, ⟨f3, by simp⟩, ⟨f4, by simp⟩, ⟨⟨g3.1, g4.1⟩, by omega, by omega⟩, ⟨⟨a1.1, a2.1⟩, by omega, by omega⟩, ?_⟩
  · subst c
    by_cases k : t ≤ Y
    · rw [decide_eq_true k]; rfl
    · rw [decide_eq_false k, Bool.cond_false, Int.zero_mul, Int.zero_mul]
      exact congrArg AV.bool (decide_eq_true (Int.mul_nonneg (Int.mul_nonneg (by omega) (by omega)) (Int.mul_nonneg (by omega) (Int.mul_nonneg (by omega) (by omega))))).symm
  · rw [decide_eq_true k, Bool.cond_true]
    exact congrArg AV.bool (decide_eq_false c).symm
  · rw [decide_eq_false k, Bool.cond_false]
    refine congrArg AV.bool (decide_eq_decide.2 ?_)
    rw [a1.2.1, a2.2.1, v1, v2, v3, v4]
    show q * (V * (t * (t * 1))) + 3 * (Y * (t * (t * (G * (A * 1))))) ≤ 2 * (t * (t * (t * (G * (A * 1))))) + Y * (Y * (Y * (G * (A * 1)))) ↔ _
    have i1 : q * (V * (t * (t * 1))) = q * V * (t * t) := by grind
    have i2 : 2 * (t * (t * (t * (G * (A * 1))))) + Y * (Y * (Y * (G * (A * 1)))) - 3 * (Y * (t * (t * (G * (A * 1))))) = (t - Y) * (t - Y) * ((2 * t + Y) * (G * A)) := by grind
    omega
noncomputable def cFlowsR : Con T := conP Try.prog [shSg, shM, .one (.i .i64), .one (.i .i64)] [.n, .n, .n, .n, .n, .n, .n, .n] (fun d => vf d.1 d.2.1 d.2.2.1 d.2.2.2.1 d.2.2.2.2.1 d.2.2.2.2.2.1 d.2.2.2.2.2.2.2.1 ∧ 0 ≤ d.2.2.2.2.2.2.1 ∧ d.2.2.2.2.2.2.1 ≤ 20000) fun d => .bool (pB d.2.2.1 d.2.2.2.1 d.2.2.2.2.1 d.2.2.2.2.2.1 d.2.2.2.2.2.2.1 d.2.2.2.2.2.2.2.1)
theorem flowsR_ok : ConOk Try.prog E 83 cFlowsR := conP_ok fun d hd => fact_run Big.ctB_ok noLoops_ok (ts := [4]) rfl (s83 _ _ _ _ _ _ _ _ hd.1 hd.2)
theorem tv82 (L R A G Y V q : Int) : runX ([] : CTab T) noLoops 82 [.agg [i64 L, i64 R, i64 A, i64 G], .agg [i64 Y, i64 V], i64 q] [4] =
  (.br (decide (L ≥ (1 : Int)))
   (.br (decide (L ≤ (1048576 : Int)))
    (.br (decide (R ≥ (0 : Int)))
     (.br (decide (R ≤ L))
      (.br (decide (A ≥ (1 : Int)))
       (.br (decide (A ≤ (5000 : Int)))
        (.br (decide (G ≥ (1 : Int)))
         (.br (decide (G ≤ (200 : Int)))
          (.br (decide (Y ≥ (0 : Int)))
           (.br (decide (Y ≤ (1000000 : Int)))
            (.br (decide (V ≥ (1 : Int)))
             (.br (decide (V ≤ (1000000 : Int)))
              (.br (decide (q ≥ (0 : Int)))
               (.leaf (.bool (decide (q ≤ (1000000 : Int)))))
               (.leaf (.bool (false))))
              (.leaf (.bool (false))))
             (.leaf (.bool (false))))
            (.leaf (.bool (false))))
           (.leaf (.bool (false))))
          (.leaf (.bool (false))))
         (.leaf (.bool (false))))
        (.leaf (.bool (false))))
       (.leaf (.bool (false))))
      (.leaf (.bool (false))))
     (.leaf (.bool (false))))
    (.leaf (.bool (false))))
   (.leaf (.bool (false)))) := by kernel_rfl
theorem s82 (L R A G Y V q : Int) : (runX ([] : CTab T) noLoops 82 [.agg [i64 L, i64 R, i64 A, i64 G], .agg [i64 Y, i64 V], i64 q] [4]).holds fun v => v = .bool (decide (vf L R A G Y V q)) := by
  rw [tv82]
  (repeat' first | (apply way <;> intro _)) <;> first | exact congrArg AV.bool (decide_eq_true (by unfold vf; omega)).symm | exact congrArg AV.bool (decide_eq_false (by unfold vf; omega)).symm | (refine congrArg AV.bool (decide_eq_decide.2 ?_); unfold vf; omega)
noncomputable def cFair : Con T := conV Try.prog [shSg, shM, .one (.i .i64)] [.n, .n, .n, .n, .n, .n, .n] fun d => .bool (decide (vf d.1 d.2.1 d.2.2.1 d.2.2.2.1 d.2.2.2.2.1 d.2.2.2.2.2.1 d.2.2.2.2.2.2.1))
theorem fair_ok : ConOk Try.prog E 82 cFair := conV_ok fun d => fact_run .nil noLoops_ok (ts := [4]) rfl (s82 _ _ _ _ _ _ _)
noncomputable def ctFR : CTab T := [(83, cFlowsR), (82, cFair)]
theorem ctFR_ok : CTabOk Try.prog E ctFR := .cons flowsR_ok (.cons fair_ok .nil)
theorem tv45 (L R A G Y V g q : Int) : runX ctFR noLoops 45 [.agg [i64 L, i64 R, i64 A, i64 G], .agg [i64 Y, i64 V], i64 g, i64 q] [4] =
  (.br (decide (vf L R A G Y V q))
   (.br (decide (g ≥ (0 : Int)))
    (.br (decide (g ≤ (20000 : Int)))
     (.req (vf L R A G Y V q ∧ (0 : Int) ≤ g ∧ g ≤ (20000 : Int))
     (.leaf (.bool (pB A G Y V g q))))
     (.leaf (.bool (false))))
    (.leaf (.bool (false))))
   (.leaf (.bool (false)))) := by kernel_rfl
end Go.Proofs.Ytnhedcaphncliaa.W
end

set_option linter.unusedVariables false
set_option maxRecDepth 100000
set_option maxHeartbeats 4000000
noncomputable section
namespace Go.Proofs.Ytnhedcaphncliaa.W
open Go Go.Cx Go.RowKit
theorem s45 (L R A G Y V g q : Int) : (runX ctFR noLoops 45 [.agg [i64 L, i64 R, i64 A, i64 G], .agg [i64 Y, i64 V], i64 g, i64 q] [4]).holds fun v => v = .bool (flB L R A G Y V g q) := by
  rw [tv45]
  unfold flB
  refine way (fun k => way (fun k1 => way (fun k2 => ?_) fun k2 => ?_) fun k1 => ?_) fun k => ?_
  · rw [decide_eq_true k, show within g 0 20000 = true from decide_eq_true (by omega)]
    exact ⟨⟨k, by omega, by omega⟩, rfl⟩
  · rw [show within g 0 20000 = false from decide_eq_false (by omega), Bool.false_and, Bool.and_false]; rfl
  · rw [show within g 0 20000 = false from decide_eq_false (by omega), Bool.false_and, Bool.and_false]; rfl
  · rw [decide_eq_false k, Bool.false_and]; rfl
noncomputable def cFwR : Con T := conV Try.prog [shSg, shM, .one (.i .i64), .one (.i .i64)] [.n, .n, .n, .n, .n, .n, .n, .n] fun d => .bool (flB d.1 d.2.1 d.2.2.1 d.2.2.2.1 d.2.2.2.2.1 d.2.2.2.2.2.1 d.2.2.2.2.2.2.1 d.2.2.2.2.2.2.2.1)
theorem fwR_ok : ConOk Try.prog E 45 cFwR := conV_ok fun d => fact_run ctFR_ok noLoops_ok (ts := [4]) rfl (s45 _ _ _ _ _ _ _ _)
noncomputable def o41 (q : Int) (lo : Int) (hi : Int) (L : Int) (R : Int) (A : Int) (G : Int) (Y : Int) (W : Int) : Tree (Ex × List (V T)) := .req (inv79 lo hi L R A G Y W q) (.leaf (.exit 0, [.n (gl A G Y W q)]))
noncomputable def c41 : LoopC T := ⟨[.n, .n, .n, .n, .n, .n, .n, .n, .n], ⟨39, [(2, .one (.i .i64)), (3, .one (.o 0 0)), (4, .one (.o 1 0)), (8, .one (.i .i64)), (9, .one (.i .i64))], [.c [.i .i64, .i .i64, .i .i64, .i .i64], .c [.i .i64, .i .i64]]⟩, fun _ => ⟨39, [(8, .one (.i .i64))], []⟩, 30, fun d => o41 d.1 d.2.1 d.2.2.1 d.2.2.2.1 d.2.2.2.2.1 d.2.2.2.2.2.1 d.2.2.2.2.2.2.1 d.2.2.2.2.2.2.2.1 d.2.2.2.2.2.2.2.2.1⟩
theorem b41 (q : Int) (lo : Int) (hi : Int) (L : Int) (R : Int) (A : Int) (G : Int) (Y : Int) (W : Int) : bodyD Try.prog E c41 0 (bodyX Try.prog E ctFR noLoops 1000 5 L0 (lpOf Try.prog 41 0)) (q, lo, hi, L, R, A, G, Y, W, ()) =
  (.br (decide (lo < hi))
   (.req (vf L R A G Y W q ∧ (0 : Int) ≤ IntKind.wrap IntKind.i64 (Int.tdiv (IntKind.wrap IntKind.i64 (lo + hi)) (2 : Int)) ∧ IntKind.wrap IntKind.i64 (Int.tdiv (IntKind.wrap IntKind.i64 (lo + hi)) (2 : Int)) ≤ (20000 : Int))
   (.br (pB A G Y W (IntKind.wrap IntKind.i64 (Int.tdiv (IntKind.wrap IntKind.i64 (lo + hi)) (2 : Int))) q)
    (.leaf (.inl (q, (lo, (IntKind.wrap IntKind.i64 (Int.tdiv (IntKind.wrap IntKind.i64 (lo + hi)) (2 : Int)), (L, (R, (A, (G, (Y, (W, ())))))))))))
    (.leaf (.inl (q, (IntKind.wrap IntKind.i64 (IntKind.wrap IntKind.i64 (Int.tdiv (IntKind.wrap IntKind.i64 (lo + hi)) (2 : Int)) + (1 : Int)), (hi, (L, (R, (A, (G, (Y, (W, ())))))))))))))
   (.leaf (.inr (.exit (0 : Nat), [.n (lo)])))) := by kernel_rfl
theorem n41 (q : Int) (lo : Int) (hi : Int) (L : Int) (R : Int) (A : Int) (G : Int) (Y : Int) (W : Int) (K : Ex × List (V T) → Prop) (hI : inv79 lo hi L R A G Y W q) (hK : (.leaf (.exit 0, [.n (gl A G Y W q)]) : Tree (Ex × List (V T))).holds K) : (c41.out (q, lo, hi, L, R, A, G, Y, W, ())).holds K := ⟨hI, hK⟩
theorem h41' (q : Int) (lo : Int) (hi : Int) (L : Int) (R : Int) (A : Int) (G : Int) (Y : Int) (W : Int) (K : Ex × List (V T) → Prop) (hI : inv79 lo hi L R A G Y W q) (hK : (.leaf (.exit 0, [.n (gl A G Y W q)]) : Tree (Ex × List (V T))).holds K) :
    (bodyD Try.prog E c41 0 (bodyX Try.prog E ctFR noLoops 1000 5 L0 (lpOf Try.prog 41 0)) (q, lo, hi, L, R, A, G, Y, W, ())).holds fun y => match y with
    | .inl d => (d.2.2.1 - d.2.1).toNat < (hi - lo).toNat ∧ (c41.out d).holds K
    | .inr y => K y := by
  rw [b41]
  obtain ⟨⟨hv, hP⟩, h1, h2, h3⟩ := hI
  refine way (fun c => ?_) fun c => ?_
  · have e1 : IntKind.wrap IntKind.i64 (lo + hi) = lo + hi := i64_in' (by omega) (by omega)
    have e2 : Int.tdiv (lo + hi) 2 = (lo + hi) / 2 := Int.tdiv_eq_ediv_of_nonneg (by omega)
    rw [e1, e2, i64_in' (n := (lo + hi) / 2) (by omega) (by omega), i64_in' (n := (lo + hi) / 2 + 1) (by omega) (by omega)]
    generalize hm : (lo + hi) / 2 = m
    refine ⟨⟨hv, by omega, by omega⟩, wayB (fun k => ?_) fun k => ?_⟩
    · have hin : inv79 lo m L R A G Y W q := ⟨⟨hv, hP⟩, by omega, k, h3⟩
      have hlt : (m - lo).toNat < (hi - lo).toNat := by omega
      exact ⟨hlt, hin, hK⟩
    · have hin : inv79 (m + 1) hi L R A G Y W q := ⟨⟨hv, hP⟩, by omega, h2, fun j j1 j2 => by
        cases e : pB A G Y W j q with
        | false => rfl
        | true =>
          have g1 := hv.2.2.2.1
          have g2 := hv.2.2.1
          have g3 := hv.2.2.2.2.1
          have g4 := hv.2.2.2.2.2.1
          have g5 := hv.2.2.2.2.2.2
          have := mono_g (H := G) (h := m) (by omega) (by omega) (Int.le_refl G) (by omega) (by omega) j1 (by omega) (by omega) e
          rw [show pB A G Y W m q = false from k] at this
          exact absurd this (by decide)⟩
      have hlt : (hi - (m + 1)).toNat < (hi - lo).toNat := by omega
      exact ⟨hlt, hin, hK⟩
  · have e : gl A G Y W q = lo := by
      obtain rfl : lo = hi := by omega
      exact gl_uni hP h1.1 h2 h3
    rw [e] at hK
    exact hK
theorem h41 : LoopH Try.prog E c41 0 (bodyX Try.prog E ctFR noLoops 1000 5 L0 (lpOf Try.prog 41 0)) :=
  ⟨fun d => (d.2.2.1 - d.2.1).toNat, fun dd K hK => by
    obtain ⟨q, lo, hi, L, R, A, G, Y, W, ⟨⟩⟩ := dd
    obtain ⟨hI, hK⟩ := hK
    refine Tree.holds_mono (fun y hy => ?_) (h41' q lo hi L R A G Y W K hI hK)
    cases y with
    | inl d' => exact hy
    | inr y => exact hy⟩
theorem ll41 : LLOk Try.prog E (llOfN Try.prog E 41 0 [(4, c41)]) := llOfN_ok fun i hi c hc => by
  have hi : i < 1 := hi
  obtain rfl : i = 0 := by omega
  obtain rfl : c41 = c := Option.some.inj hc
  exact LSndN.mk good names mixes ctFR_ok (by decide) h41
theorem tv41 (L R A G Y V q : Int) : runX ctFR (llOfN Try.prog E 41 0 [(4, c41)]) 41 [.agg [i64 L, i64 R, i64 A, i64 G], .agg [i64 Y, i64 V], i64 q] [2, 4] =
  (.br (!decide (vf L R A G Y V q))
   (.leaf (.tup [.sym .i64 ((0 : Int)), .bool (false)]))
   (.req (vf L R A G Y V q ∧ (0 : Int) ≤ (20000 : Int) ∧ (20000 : Int) ≤ (20000 : Int))
   (.br (!pB A G Y V (20000 : Int) q)
    (.leaf (.tup [.sym .i64 ((0 : Int)), .bool (false)]))
    (.req (inv79 (0 : Int) (20000 : Int) L R A G Y V q)
    (.leaf (.tup [.sym .i64 (gl A G Y V q), .bool (true)])))))) := by kernel_rfl
theorem s41 (L R A G Y V q : Int) : (runX ctFR (llOfN Try.prog E 41 0 [(4, c41)]) 41 [.agg [i64 L, i64 R, i64 A, i64 G], .agg [i64 Y, i64 V], i64 q] [2, 4]).holds fun v => v = .tup [i64 (grN L R A G Y V q), .bool (grB L R A G Y V q)] := by
  rw [tv41]
  unfold grN grB
  refine wayN (fun k => ?_) fun k => ⟨⟨k, by decide, by decide⟩, wayB (fun p => ?_) fun p => ?_⟩
  · rw [decide_eq_false k, if_neg k]; rfl
  · have p : pB A G Y V 20000 q = false := by simpa using p
    rw [decide_eq_true k, if_pos k]
    unfold gN gB
    rw [p]; rfl
  · have p : pB A G Y V 20000 q = true := by simpa using p
    refine ⟨⟨⟨k, p⟩, by decide, p, fun j j1 j2 => absurd j2 (by omega)⟩, ?_⟩
    rw [decide_eq_true k, if_pos k]
    unfold gN gB
    rw [p]; rfl
noncomputable def cGrR : Con T := conV Try.prog [shSg, shM, .one (.i .i64)] [.n, .n, .n, .n, .n, .n, .n] fun d => .tup [i64 (grN d.1 d.2.1 d.2.2.1 d.2.2.2.1 d.2.2.2.2.1 d.2.2.2.2.2.1 d.2.2.2.2.2.2.1), .bool (grB d.1 d.2.1 d.2.2.1 d.2.2.2.1 d.2.2.2.2.1 d.2.2.2.2.2.1 d.2.2.2.2.2.2.1)]
theorem grR_ok : ConOk Try.prog E 41 cGrR := conV_ok fun d => fact_run ctFR_ok ll41 (ts := [2, 4]) rfl (s41 _ _ _ _ _ _ _)
noncomputable def ctLo : CTab T := (40, cGr) :: (41, cGrR) :: (73, cFloor) :: (74, cCeil) :: Hole.ctQ
theorem ctLo_ok : CTabOk Try.prog E ctLo := .cons gr_ok (.cons grR_ok (.cons floor_ok (.cons ceil_ok Hole.ctQ_ok)))
end Go.Proofs.Ytnhedcaphncliaa.W
end

set_option linter.unusedVariables false
set_option maxRecDepth 100000
set_option maxHeartbeats 4000000
noncomputable section
namespace Go.Proofs.Ytnhedcaphncliaa.W.Hole
open Go Go.Cx Go.RowKit
noncomputable def grS (s : Seg) (Y W q : Int) : Int := grN s.Long s.Rise s.Area s.Gap Y W q
noncomputable def gbS (s : Seg) (Y W q : Int) : Bool := grB s.Long s.Rise s.Area s.Gap Y W q
noncomputable def mn2 (a b : Int) : Int := if b < a then b else a
noncomputable def mx2 (a b : Int) : Int := if b > a then b else a
noncomputable def abv (s : Seg) (low u : Int) : Int := mx2 0 (mn2 (s.Long * s.Area) (low + s.Long * s.Area - u))
noncomputable def lsB (Y W q : Int) : List Seg → Bool
  | [] => true
  | s :: r => if gbS s Y W q = true then lsB Y W q r else false
noncomputable def lsL (Y W q u : Int) : List Seg → Int → Int → Int
  | [], _, z => z
  | s :: r, low, z => lsL Y W q u r (low + s.Long * s.Area) (z + grS s Y W q * (abv s low u / s.Area))
noncomputable def lsH (Y W q u : Int) : List Seg → Int → Int → Int
  | [], _, z => z
  | s :: r, low, z => lsH Y W q u r (low + s.Long * s.Area) (z + grS s Y W q * -(-abv s low u / s.Area))
/-- What is summed until a segment does not flow. -/
noncomputable def zR (Y W q u : Int) : List Seg → Int → Int → Int
  | [], _, z => z
  | s :: r, low, z => if gbS s Y W q = true then zR Y W q u r (low + s.Long * s.Area) (z + grS s Y W q * (abv s low u / s.Area)) else z
noncomputable def zH (Y W q u : Int) : List Seg → Int → Int → Int
  | [], _, z => z
  | s :: r, low, z => if gbS s Y W q = true then zH Y W q u r (low + s.Long * s.Area) (z + grS s Y W q * -(-abv s low u / s.Area)) else z
theorem grN_bd {L R A G Y V q : Int} : 0 ≤ grN L R A G Y V q ∧ grN L R A G Y V q ≤ 20000 := by
  unfold grN gN
  split
  · split
    · rename_i h; exact (gl_spec h).1
    · decide
  · decide
theorem gb_vf {s : Seg} {Y W q : Int} (h : gbS s Y W q = true) : Go.Proofs.Ytnhedcaphncliaa.W.vf s.Long s.Rise s.Area s.Gap Y W q := by
  unfold gbS grB at h
  rw [Bool.and_eq_true] at h
  exact of_decide_eq_true h.1
structure Ab (s : Seg) (low u : Int) : Prop where
  la : 1 ≤ s.Long * s.Area ∧ s.Long * s.Area ≤ 5242880000
  ab : 0 ≤ abv s low u ∧ abv s low u ≤ s.Long * s.Area
  e1 : mx2 0 (low + s.Long * s.Area - mx2 u low) = abv s low u
  lo : 0 ≤ abv s low u / s.Area ∧ abv s low u / s.Area ≤ 1048576
  hi : 0 ≤ -(-abv s low u / s.Area) ∧ -(-abv s low u / s.Area) ≤ 1048576
  pr : 0 ≤ s.Long * abv s low u ∧ s.Long * abv s low u ≤ 5497558138880000
  q1 : s.Long * abv s low u / (s.Long * s.Area) = abv s low u / s.Area
  q2 : -(s.Long * abv s low u) / (s.Long * s.Area) = -abv s low u / s.Area
theorem ab_ok {s : Seg} {low u : Int} (hL : 1 ≤ s.Long ∧ s.Long ≤ 1048576) (hA : 1 ≤ s.Area ∧ s.Area ≤ 5000) (h0 : 0 ≤ low) (hu : 0 ≤ u) : Ab s low u := by
  have la := mulb (show 0 ≤ s.Long by omega) hL.2 (show 0 ≤ s.Area by omega) hA.2
  have l1 := Int.mul_pos (show 0 < s.Long by omega) (show 0 < s.Area by omega)
  have ab : 0 ≤ abv s low u ∧ abv s low u ≤ s.Long * s.Area := by
    unfold abv mx2 mn2
    generalize s.Long * s.Area = z at *
    repeat' split
    all_goals omega
  refine ⟨⟨by omega, by omega⟩, ab, ?_, ⟨Int.ediv_nonneg ab.1 (by omega), ?_⟩, ⟨up_nonneg ab.1 (by omega), ?_⟩, ?_, Int.mul_ediv_mul_of_pos _ _ (by omega), ?_⟩
  · unfold abv mx2 mn2
    generalize s.Long * s.Area = z at *
    repeat' split
    all_goals omega
  · have := Int.ediv_le_of_le_mul (show 0 < s.Area by omega) ab.2
    omega
  · have := Int.le_ediv_of_mul_le (a := -s.Long) (b := -abv s low u) (show 0 < s.Area by omega) (by rw [Int.neg_mul]; omega)
    omega
  · have := mulb (show 0 ≤ s.Long by omega) hL.2 ab.1 (show abv s low u ≤ 5242880000 by omega)
    omega
  · rw [← Int.mul_neg]
    exact Int.mul_ediv_mul_of_pos _ _ (by omega)
noncomputable def oLp (low : Int) (l : List Seg) (m : Int) (i : Int) (Y : Int) (W : Int) (q : Int) (u : Int) (a0 : Int) (a1 : Int) (b : Bool) (z0 : Int) (z1 : Int) : Tree (Ex × List (V T)) := .req ((((0 ≤ i ∧ m = l.length) ∧ inLg l) ∧ l.length ≤ 16 ∧ allS l = true ∧ 0 ≤ u ∧ u ≤ 1099511627776) ∧ (0 ≤ low ∧ low ≤ 5242880000 * i) ∧ (0 ≤ z0 ∧ z0 ≤ 21000000000 * i) ∧ 0 ≤ z1 ∧ z1 ≤ 21000000000 * i) (.br (lsB Y W q (l.drop i.toNat)) (.leaf (.exit 0, [.n Y, .n W, .n q, .n u, .n a0, .n a1, .t b, .n (lsL Y W q u (l.drop i.toNat) low z0), .n (lsH Y W q u (l.drop i.toNat) low z1)])) (.leaf (.ret, [.n Y, .n W, .n q, .n u, .n 0, .n 0, .t false, .n (zR Y W q u (l.drop i.toNat) low z0), .n (zH Y W q u (l.drop i.toNat) low z1)])))
noncomputable def cLp : LoopC T := ⟨[.n, .l 52, .n, .n, .n, .n, .n, .n, .n, .n, .t, .n, .n], ⟨32, [(0, .one (.y 0)), (3, .one (.i .i64)), (8, .one (.s 52)), (9, .one (.i .i64)), (10, .one (.i .i64))], [.fx 8 (.lp 85 [(5, .one (.o 1 0)), (6, .one (.o 2 0)), (7, .one (.o 3 0)), (8, .one (.o 4 0)), (9, .one (.o 5 0)), (10, .one (.o 6 0))] (rfOf Try.prog 42 0) 0), .fx 1 (.c [.i .i64, .i .i64]), .fx 2 (.c [.i .i64]), .fx 3 (.c [.i .i64]), .fx 4 (.c [.i .i64, .i .i64]), .fx 5 (.c [.b]), .fx 6 (.c [.i .i64, .i .i64])]⟩, fun e => match e with
    | .ret => ⟨32, [], [.fx 8 (.lp 85 [(5, .one (.o 1 0)), (6, .one (.o 2 0)), (7, .one (.o 3 0)), (8, .one (.o 4 0)), (9, .one (.o 5 0)), (10, .one (.o 6 0))] (rfOf Try.prog 42 0) 1), .fx 1 (.c [.i .i64, .i .i64]), .fx 2 (.c [.i .i64]), .fx 3 (.c [.i .i64]), .fx 4 (.c [.i .i64, .i .i64]), .fx 5 (.c [.b]), .fx 6 (.c [.i .i64, .i .i64])]⟩
    | _ => ⟨32, [], [.fx 8 (.lp 85 [(5, .one (.o 1 0)), (6, .one (.o 2 0)), (7, .one (.o 3 0)), (8, .one (.o 4 0)), (9, .one (.o 5 0)), (10, .one (.o 6 0))] (rfOf Try.prog 42 0) 0), .fx 1 (.c [.i .i64, .i .i64]), .fx 2 (.c [.i .i64]), .fx 3 (.c [.i .i64]), .fx 4 (.c [.i .i64, .i .i64]), .fx 5 (.c [.b]), .fx 6 (.c [.i .i64, .i .i64])]⟩, 30, fun d => oLp d.1 d.2.1 d.2.2.1 d.2.2.2.1 d.2.2.2.2.1 d.2.2.2.2.2.1 d.2.2.2.2.2.2.1 d.2.2.2.2.2.2.2.1 d.2.2.2.2.2.2.2.2.1 d.2.2.2.2.2.2.2.2.2.1 d.2.2.2.2.2.2.2.2.2.2.1 d.2.2.2.2.2.2.2.2.2.2.2.1 d.2.2.2.2.2.2.2.2.2.2.2.2.1⟩
theorem bLp (low : Int) (l : List Seg) (m : Int) (i : Int) (Y : Int) (W : Int) (q : Int) (u : Int) (a0 : Int) (a1 : Int) (b : Bool) (z0 : Int) (z1 : Int) : bodyD Try.prog E cLp 9 (bodyX Try.prog E ctLo noLoops 1000 5 L0 (lpOf Try.prog 92 0)) (low, l, m, i, Y, W, q, u, a0, a1, b, z0, z1, ()) =
  (.br (decide (i < m))
   (.req ((decide ((0 : Int) ≤ i) && decide (i < (↑(List.length l) : Int))) = true)
   (.req ((-9223372036854775808 : Int) ≤ Seg.Long (si l i) ∧ Seg.Long (si l i) ≤ (9223372036854775807 : Int))
   (.br (!grB (Seg.Long (si l i)) (Seg.Rise (si l i)) (Seg.Area (si l i)) (Seg.Gap (si l i)) Y W q)
    (.req (RecIs (rfOf Try.prog (42 : Nat) (0 : Nat)) (rfOf Try.prog (42 : Nat) (0 : Nat)))
    (.leaf (.inr (.ret, [.n (Y), .n (W), .n (q), .n (u), .n ((0 : Int)), .n ((0 : Int)), .t (false), .n (z0), .n (z1)]))))
    (.req (qPre (IntKind.wrap IntKind.i64 (Seg.Long (si l i) * (mx2 ((0 : Int)) (IntKind.wrap IntKind.i64 (IntKind.wrap IntKind.i64 (low + IntKind.wrap IntKind.i64 (Seg.Long (si l i) * Seg.Area (si l i))) - (mx2 (u) (low))))))) (IntKind.wrap IntKind.i64 (IntKind.wrap IntKind.i64 (low + IntKind.wrap IntKind.i64 (Seg.Long (si l i) * Seg.Area (si l i))) - low)))
    (.req (qPre (IntKind.wrap IntKind.i64 (Seg.Long (si l i) * (mx2 ((0 : Int)) (IntKind.wrap IntKind.i64 (IntKind.wrap IntKind.i64 (low + IntKind.wrap IntKind.i64 (Seg.Long (si l i) * Seg.Area (si l i))) - (mx2 (u) (low))))))) (IntKind.wrap IntKind.i64 (IntKind.wrap IntKind.i64 (low + IntKind.wrap IntKind.i64 (Seg.Long (si l i) * Seg.Area (si l i))) - low)))
    (.req (RecIs (rfOf Try.prog (42 : Nat) (0 : Nat)) (rfOf Try.prog (42 : Nat) (0 : Nat)))
    (.leaf (.inl (IntKind.wrap IntKind.i64 (low + IntKind.wrap IntKind.i64 (Seg.Long (si l i) * Seg.Area (si l i))), (l, (m, (IntKind.wrap IntKind.i64 (i + (1 : Int)), (Y, (W, (q, (u, (a0, (a1, (b, (IntKind.wrap IntKind.i64 (z0 + IntKind.wrap IntKind.i64 (grN (Seg.Long (si l i)) (Seg.Rise (si l i)) (Seg.Area (si l i)) (Seg.Gap (si l i)) Y W q * (IntKind.wrap IntKind.i64 (Seg.Long (si l i) * (mx2 ((0 : Int)) (IntKind.wrap IntKind.i64 (IntKind.wrap IntKind.i64 (low + IntKind.wrap IntKind.i64 (Seg.Long (si l i) * Seg.Area (si l i))) - (mx2 (u) (low)))))) / IntKind.wrap IntKind.i64 (IntKind.wrap IntKind.i64 (low + IntKind.wrap IntKind.i64 (Seg.Long (si l i) * Seg.Area (si l i))) - low)))), (IntKind.wrap IntKind.i64 (z1 + IntKind.wrap IntKind.i64 (grN (Seg.Long (si l i)) (Seg.Rise (si l i)) (Seg.Area (si l i)) (Seg.Gap (si l i)) Y W q * -(-IntKind.wrap IntKind.i64 (Seg.Long (si l i) * (mx2 ((0 : Int)) (IntKind.wrap IntKind.i64 (IntKind.wrap IntKind.i64 (low + IntKind.wrap IntKind.i64 (Seg.Long (si l i) * Seg.Area (si l i))) - (mx2 (u) (low)))))) / IntKind.wrap IntKind.i64 (IntKind.wrap IntKind.i64 (low + IntKind.wrap IntKind.i64 (Seg.Long (si l i) * Seg.Area (si l i))) - low)))), ())))))))))))))))))))))
   (.req (RecIs (rfOf Try.prog (42 : Nat) (0 : Nat)) (rfOf Try.prog (42 : Nat) (0 : Nat)))
   (.leaf (.inr (.exit (0 : Nat), [.n (Y), .n (W), .n (q), .n (u), .n (a0), .n (a1), .t (b), .n (z0), .n (z1)]))))) := by kernel_rfl
theorem nLp (low : Int) (l : List Seg) (m : Int) (i : Int) (Y : Int) (W : Int) (q : Int) (u : Int) (a0 : Int) (a1 : Int) (b : Bool) (z0 : Int) (z1 : Int) (K : Ex × List (V T) → Prop) (hI : (((0 ≤ i ∧ m = l.length) ∧ inLg l) ∧ l.length ≤ 16 ∧ allS l = true ∧ 0 ≤ u ∧ u ≤ 1099511627776) ∧ (0 ≤ low ∧ low ≤ 5242880000 * i) ∧ (0 ≤ z0 ∧ z0 ≤ 21000000000 * i) ∧ 0 ≤ z1 ∧ z1 ≤ 21000000000 * i) (hK : (.br (lsB Y W q (l.drop i.toNat)) (.leaf (.exit 0, [.n Y, .n W, .n q, .n u, .n a0, .n a1, .t b, .n (lsL Y W q u (l.drop i.toNat) low z0), .n (lsH Y W q u (l.drop i.toNat) low z1)])) (.leaf (.ret, [.n Y, .n W, .n q, .n u, .n 0, .n 0, .t false, .n (zR Y W q u (l.drop i.toNat) low z0), .n (zH Y W q u (l.drop i.toNat) low z1)])) : Tree (Ex × List (V T))).holds K) : (cLp.out (low, l, m, i, Y, W, q, u, a0, a1, b, z0, z1, ())).holds K := ⟨hI, hK⟩
theorem hLp' (low : Int) (l : List Seg) (m : Int) (i : Int) (Y : Int) (W : Int) (q : Int) (u : Int) (a0 : Int) (a1 : Int) (b : Bool) (z0 : Int) (z1 : Int) (K : Ex × List (V T) → Prop) (hI : (((0 ≤ i ∧ m = l.length) ∧ inLg l) ∧ l.length ≤ 16 ∧ allS l = true ∧ 0 ≤ u ∧ u ≤ 1099511627776) ∧ (0 ≤ low ∧ low ≤ 5242880000 * i) ∧ (0 ≤ z0 ∧ z0 ≤ 21000000000 * i) ∧ 0 ≤ z1 ∧ z1 ≤ 21000000000 * i) (hK : (.br (lsB Y W q (l.drop i.toNat)) (.leaf (.exit 0, [.n Y, .n W, .n q, .n u, .n a0, .n a1, .t b, .n (lsL Y W q u (l.drop i.toNat) low z0), .n (lsH Y W q u (l.drop i.toNat) low z1)])) (.leaf (.ret, [.n Y, .n W, .n q, .n u, .n 0, .n 0, .t false, .n (zR Y W q u (l.drop i.toNat) low z0), .n (zH Y W q u (l.drop i.toNat) low z1)])) : Tree (Ex × List (V T))).holds K) :
    (bodyD Try.prog E cLp 9 (bodyX Try.prog E ctLo noLoops 1000 5 L0 (lpOf Try.prog 92 0)) (low, l, m, i, Y, W, q, u, a0, a1, b, z0, z1, ())).holds fun y => match y with
    | .inl d => ((d.2.1.length : Int) - d.2.2.2.1).toNat < ((l.length : Int) - i).toNat ∧ (cLp.out d).holds K
    | .inr y => K y := by
  rw [bLp]
  obtain ⟨⟨⟨⟨h0, rfl⟩, hin⟩, hl, hal, hu, hu2⟩, hlo, hz0, hz1⟩ := hI
  have eb : ∀ x : Bool, (!x) = true → x = false := fun x h => by cases x <;> simp at h ⊢
  have eb2 : ∀ x : Bool, (!x) = false → x = true := fun x h => by cases x <;> simp at h ⊢
  refine way (fun c => wayC h0 c fun _ _ => ?_) fun c => ?_
  · have hlt : ((l.length : Int) - (i + 1)).toNat < ((l.length : Int) - i).toNat := by omega
    have hL9 : -9223372036854775808 ≤ (si l i).Long ∧ (si l i).Long ≤ 9223372036854775807 := by
      have a := (allS_mem hal _ (si_mem h0 c)).1
      have b := hin _ (si_mem h0 c)
      omega
    rw [drop_sI h0 c] at hK
    refine ⟨hL9, wayB (fun k => ?_) fun k => ?_⟩
    · have k : gbS (si l i) Y W q = false := eb _ k
      refine ⟨rfl, ?_⟩
      unfold lsB zR zH at hK
      rw [if_neg (by rw [k]; decide), if_neg (by rw [k]; decide), if_neg (by rw [k]; decide)] at hK
      exact hK.2 rfl
    · have k : gbS (si l i) Y W q = true := eb2 _ k
      have v := gb_vf k
      have a := ab_ok (s := si l i) (low := low) (u := u) v.1 v.2.2.1 hlo.1 hu
      have g := grN_bd (L := (si l i).Long) (R := (si l i).Rise) (A := (si l i).Area) (G := (si l i).Gap) (Y := Y) (V := W) (q := q)
      have m0 := mulb g.1 g.2 a.lo.1 a.lo.2
      have m1 := mulb g.1 g.2 a.hi.1 a.hi.2
      have mxu : 0 ≤ mx2 u low ∧ mx2 u low ≤ 1099511627776 := by unfold mx2; split <;> omega
      have la := a.la
      have e0 : IntKind.wrap IntKind.i64 ((si l i).Long * (si l i).Area) = (si l i).Long * (si l i).Area := i64_in' (by omega) (by omega)
      have e1 : IntKind.wrap IntKind.i64 (low + (si l i).Long * (si l i).Area) = low + (si l i).Long * (si l i).Area := i64_in' (by omega) (by omega)
      have e2 : IntKind.wrap IntKind.i64 (low + (si l i).Long * (si l i).Area - low) = (si l i).Long * (si l i).Area := by
        rw [show low + (si l i).Long * (si l i).Area - low = (si l i).Long * (si l i).Area by omega]
        exact e0
      have e3 : IntKind.wrap IntKind.i64 (low + (si l i).Long * (si l i).Area - mx2 u low) = low + (si l i).Long * (si l i).Area - mx2 u low := i64_in' (by omega) (by omega)
      have pr := a.pr
      have e4 : IntKind.wrap IntKind.i64 ((si l i).Long * abv (si l i) low u) = (si l i).Long * abv (si l i) low u := i64_in' (by omega) (by omega)
      have e5 : IntKind.wrap IntKind.i64 (i + 1) = i + 1 := i64_in' (by omega) (by omega)
      rw [e0, e1, e2, e3, a.e1, e4, a.q1, a.q2, e5]
      have e6 : IntKind.wrap IntKind.i64 (grN (si l i).Long (si l i).Rise (si l i).Area (si l i).Gap Y W q * (abv (si l i) low u / (si l i).Area)) = grN (si l i).Long (si l i).Rise (si l i).Area (si l i).Gap Y W q * (abv (si l i) low u / (si l i).Area) := i64_in' (by omega) (by omega)
      have e7 : IntKind.wrap IntKind.i64 (grN (si l i).Long (si l i).Rise (si l i).Area (si l i).Gap Y W q * -(-abv (si l i) low u / (si l i).Area)) = grN (si l i).Long (si l i).Rise (si l i).Area (si l i).Gap Y W q * -(-abv (si l i) low u / (si l i).Area) := i64_in' (by omega) (by omega)
      rw [e6, e7]
      have e8 : IntKind.wrap IntKind.i64 (z0 + grN (si l i).Long (si l i).Rise (si l i).Area (si l i).Gap Y W q * (abv (si l i) low u / (si l i).Area)) = z0 + grN (si l i).Long (si l i).Rise (si l i).Area (si l i).Gap Y W q * (abv (si l i) low u / (si l i).Area) := i64_in' (by omega) (by omega)
      have e9 : IntKind.wrap IntKind.i64 (z1 + grN (si l i).Long (si l i).Rise (si l i).Area (si l i).Gap Y W q * -(-abv (si l i) low u / (si l i).Area)) = z1 + grN (si l i).Long (si l i).Rise (si l i).Area (si l i).Gap Y W q * -(-abv (si l i) low u / (si l i).Area) := i64_in' (by omega) (by omega)
      rw [e8, e9]
      have qp : qPre ((si l i).Long * abv (si l i) low u) ((si l i).Long * (si l i).Area) := by unfold qPre; omega
      unfold lsB lsL lsH zR zH at hK
      rw [if_pos k, if_pos k, if_pos k] at hK
      exact ⟨qp, qp, rfl, hlt, nLp _ _ _ _ _ _ _ _ _ _ _ _ _ K ⟨⟨⟨⟨by omega, rfl⟩, hin⟩, hl, hal, hu, hu2⟩, by omega, by omega, by omega⟩ hK⟩
  · rw [drop_n c] at hK
    exact ⟨rfl, hK.1 rfl⟩
theorem hLp : LoopH Try.prog E cLp 9 (bodyX Try.prog E ctLo noLoops 1000 5 L0 (lpOf Try.prog 92 0)) :=
  ⟨fun d => ((d.2.1.length : Int) - d.2.2.2.1).toNat, fun dd K hK => by
    obtain ⟨low, l, m, i, Y, W, q, u, a0, a1, b, z0, z1, ⟨⟩⟩ := dd
    obtain ⟨hI, hK⟩ := hK
    refine Tree.holds_mono (fun y hy => ?_) (hLp' low l m i Y W q u a0 a1 b z0 z1 K hI hK)
    cases y with
    | inl d' => exact hy
    | inr y => exact hy⟩
theorem llLp : LLOk Try.prog E (llOfN Try.prog E 92 9 [(2, cLp)]) := llOfN_ok fun i hi c hc => by
  have hi : i < 1 := hi
  obtain rfl : i = 0 := by omega
  obtain rfl : cLp = c := Option.some.inj hc
  exact LSndN.mk good names mixes ctLo_ok (by decide) hLp
noncomputable def oLr (q : Int) (u : Int) (b : Int) (i : Int) (l : List Seg) (Y : Int) (W : Int) (r0 : Int) (r1 : Int) (z0 : Int) (z1 : Int) : Tree (Ex × List (V T)) := .req ((0 ≤ i ∧ l.length ≤ 16 ∧ allS l = true ∧ 0 ≤ u ∧ u ≤ 1099511627776) ∧ (0 ≤ b ∧ b ≤ 5242880000 * i) ∧ (0 ≤ z0 ∧ z0 ≤ 21000000000 * i) ∧ 0 ≤ z1 ∧ z1 ≤ 21000000000 * i) (.br (lsB Y W q (l.drop i.toNat)) (.leaf (.exit 0, [.n r0, .n r1, .n (lsL Y W q u (l.drop i.toNat) b z0), .n (lsH Y W q u (l.drop i.toNat) b z1)])) (.leaf (.ret, [.t false, .n 0, .n 0])))
noncomputable def cLr : LoopC T := ⟨[.n, .n, .n, .n, .l 52, .n, .n, .n, .n, .n, .n], ⟨91, [(2, .one (.i .i64)), (3, .one (.i .i64)), (4, .one (.o 0 0)), (5, .one (.o 1 0)), (8, .one (.o 2 0)), (10, .one (.o 3 0)), (11, .one (.i .i64)), (12, .one (.i .i64))], [.c [.s 52], .c [.i .i64, .i .i64], .c [.i .i64, .i .i64], .c [.i .i64, .i .i64]]⟩, fun e => match e with
    | .ret => ⟨91, [(8, .one (.o 0 0)), (9, .one .b)], [.c [.i .i64, .i .i64]]⟩
    | _ => ⟨91, [(8, .one (.o 0 0)), (10, .one (.o 1 0))], [.c [.i .i64, .i .i64], .c [.i .i64, .i .i64]]⟩, 30, fun d => oLr d.1 d.2.1 d.2.2.1 d.2.2.2.1 d.2.2.2.2.1 d.2.2.2.2.2.1 d.2.2.2.2.2.2.1 d.2.2.2.2.2.2.2.1 d.2.2.2.2.2.2.2.2.1 d.2.2.2.2.2.2.2.2.2.1 d.2.2.2.2.2.2.2.2.2.2.1⟩
theorem bLr (q : Int) (u : Int) (b : Int) (i : Int) (l : List Seg) (Y : Int) (W : Int) (r0 : Int) (r1 : Int) (z0 : Int) (z1 : Int) : bodyD Try.prog E cLr 0 (bodyX Try.prog E ctLo noLoops 1000 5 L0 (lpOf Try.prog 43 0)) (q, u, b, i, l, Y, W, r0, r1, z0, z1, ()) =
  (.br (decide (i < (↑(List.length l) : Int)))
   (.req ((decide ((0 : Int) ≤ i) && decide (i < (↑(List.length l) : Int))) = true)
   (.br (!grB (Seg.Long (si l i)) (Seg.Rise (si l i)) (Seg.Area (si l i)) (Seg.Gap (si l i)) Y W q)
    (.leaf (.inr (.ret, [.t (false), .n ((0 : Int)), .n ((0 : Int))])))
    (.req (decide (Seg.Area (si l i) ≠ (0 : Int)) = true)
    (.req (decide (Seg.Area (si l i) ≠ (0 : Int)) = true)
    (.leaf (.inl (q, (u, (IntKind.wrap IntKind.i64 (b + IntKind.wrap IntKind.i64 (Seg.Long (si l i) * Seg.Area (si l i))), (IntKind.wrap IntKind.i64 (i + (1 : Int)), (l, (Y, (W, (r0, (r1, (IntKind.wrap IntKind.i64 (z0 + IntKind.wrap IntKind.i64 (grN (Seg.Long (si l i)) (Seg.Rise (si l i)) (Seg.Area (si l i)) (Seg.Gap (si l i)) Y W q * IntKind.wrap IntKind.i64 (Int.tdiv (mx2 ((0 : Int)) ((mn2 (IntKind.wrap IntKind.i64 (Seg.Long (si l i) * Seg.Area (si l i))) (IntKind.wrap IntKind.i64 (IntKind.wrap IntKind.i64 (b + IntKind.wrap IntKind.i64 (Seg.Long (si l i) * Seg.Area (si l i))) - u))))) (Seg.Area (si l i))))), (IntKind.wrap IntKind.i64 (z1 + IntKind.wrap IntKind.i64 (grN (Seg.Long (si l i)) (Seg.Rise (si l i)) (Seg.Area (si l i)) (Seg.Gap (si l i)) Y W q * IntKind.wrap IntKind.i64 (Int.tdiv (IntKind.wrap IntKind.i64 (IntKind.wrap IntKind.i64 ((mx2 ((0 : Int)) ((mn2 (IntKind.wrap IntKind.i64 (Seg.Long (si l i) * Seg.Area (si l i))) (IntKind.wrap IntKind.i64 (IntKind.wrap IntKind.i64 (b + IntKind.wrap IntKind.i64 (Seg.Long (si l i) * Seg.Area (si l i))) - u))))) + Seg.Area (si l i)) - (1 : Int))) (Seg.Area (si l i))))), ())))))))))))))))))
   (.leaf (.inr (.exit (0 : Nat), [.n (r0), .n (r1), .n (z0), .n (z1)])))) := by kernel_rfl
theorem nLr (q : Int) (u : Int) (b : Int) (i : Int) (l : List Seg) (Y : Int) (W : Int) (r0 : Int) (r1 : Int) (z0 : Int) (z1 : Int) (K : Ex × List (V T) → Prop) (hI : (0 ≤ i ∧ l.length ≤ 16 ∧ allS l = true ∧ 0 ≤ u ∧ u ≤ 1099511627776) ∧ (0 ≤ b ∧ b ≤ 5242880000 * i) ∧ (0 ≤ z0 ∧ z0 ≤ 21000000000 * i) ∧ 0 ≤ z1 ∧ z1 ≤ 21000000000 * i) (hK : (.br (lsB Y W q (l.drop i.toNat)) (.leaf (.exit 0, [.n r0, .n r1, .n (lsL Y W q u (l.drop i.toNat) b z0), .n (lsH Y W q u (l.drop i.toNat) b z1)])) (.leaf (.ret, [.t false, .n 0, .n 0])) : Tree (Ex × List (V T))).holds K) : (cLr.out (q, u, b, i, l, Y, W, r0, r1, z0, z1, ())).holds K := ⟨hI, hK⟩
theorem hLr' (q : Int) (u : Int) (b : Int) (i : Int) (l : List Seg) (Y : Int) (W : Int) (r0 : Int) (r1 : Int) (z0 : Int) (z1 : Int) (K : Ex × List (V T) → Prop) (hI : (0 ≤ i ∧ l.length ≤ 16 ∧ allS l = true ∧ 0 ≤ u ∧ u ≤ 1099511627776) ∧ (0 ≤ b ∧ b ≤ 5242880000 * i) ∧ (0 ≤ z0 ∧ z0 ≤ 21000000000 * i) ∧ 0 ≤ z1 ∧ z1 ≤ 21000000000 * i) (hK : (.br (lsB Y W q (l.drop i.toNat)) (.leaf (.exit 0, [.n r0, .n r1, .n (lsL Y W q u (l.drop i.toNat) b z0), .n (lsH Y W q u (l.drop i.toNat) b z1)])) (.leaf (.ret, [.t false, .n 0, .n 0])) : Tree (Ex × List (V T))).holds K) :
    (bodyD Try.prog E cLr 0 (bodyX Try.prog E ctLo noLoops 1000 5 L0 (lpOf Try.prog 43 0)) (q, u, b, i, l, Y, W, r0, r1, z0, z1, ())).holds fun y => match y with
    | .inl d => ((d.2.2.2.2.1.length : Int) - d.2.2.2.1).toNat < ((l.length : Int) - i).toNat ∧ (cLr.out d).holds K
    | .inr y => K y := by
  rw [bLr]
  obtain ⟨⟨h0, hl, hal, hu, hu2⟩, hlo, hz0, hz1⟩ := hI
  have eb : ∀ x : Bool, (!x) = true → x = false := fun x h => by cases x <;> simp at h ⊢
  have eb2 : ∀ x : Bool, (!x) = false → x = true := fun x h => by cases x <;> simp at h ⊢
  refine way (fun c => wayC h0 c fun _ _ => ?_) fun c => ?_
  · have hlt : ((l.length : Int) - (i + 1)).toNat < ((l.length : Int) - i).toNat := by omega
    rw [drop_sI h0 c] at hK
    refine wayB (fun k => ?_) fun k => ?_
    · have k : gbS (si l i) Y W q = false := eb _ k
      unfold lsB at hK
      rw [if_neg (by rw [k]; decide)] at hK
      exact hK.2 rfl
    · have k : gbS (si l i) Y W q = true := eb2 _ k
      have v := gb_vf k
      have a := ab_ok (s := si l i) (low := b) (u := u) v.1 v.2.2.1 hlo.1 hu
      have g := grN_bd (L := (si l i).Long) (R := (si l i).Rise) (A := (si l i).Area) (G := (si l i).Gap) (Y := Y) (V := W) (q := q)
      have m0 := mulb g.1 g.2 a.lo.1 a.lo.2
      have m1 := mulb g.1 g.2 a.hi.1 a.hi.2
      have la := a.la
      have hA := v.2.2.1
      have e0 : IntKind.wrap IntKind.i64 ((si l i).Long * (si l i).Area) = (si l i).Long * (si l i).Area := i64_in' (by omega) (by omega)
      have e1 : IntKind.wrap IntKind.i64 (b + (si l i).Long * (si l i).Area) = b + (si l i).Long * (si l i).Area := i64_in' (by omega) (by omega)
      have e3 : IntKind.wrap IntKind.i64 (b + (si l i).Long * (si l i).Area - u) = b + (si l i).Long * (si l i).Area - u := i64_in' (by omega) (by omega)
      have ab := a.ab
      have ea : mx2 0 (mn2 ((si l i).Long * (si l i).Area) (b + (si l i).Long * (si l i).Area - u)) = abv (si l i) b u := rfl
      have e5 : IntKind.wrap IntKind.i64 (i + 1) = i + 1 := i64_in' (by omega) (by omega)
      rw [e0, e1, e3, ea, e5]
      have lo := a.lo
      have hi := a.hi
      have d1 : Int.tdiv (abv (si l i) b u) (si l i).Area = abv (si l i) b u / (si l i).Area := Int.tdiv_eq_ediv_of_nonneg ab.1
      have w1 : IntKind.wrap IntKind.i64 (abv (si l i) b u + (si l i).Area) = abv (si l i) b u + (si l i).Area := i64_in' (by omega) (by omega)
      have w2 : IntKind.wrap IntKind.i64 (abv (si l i) b u + (si l i).Area - 1) = abv (si l i) b u + (si l i).Area - 1 := i64_in' (by omega) (by omega)
      have d2 : Int.tdiv (abv (si l i) b u + (si l i).Area - 1) (si l i).Area = -(-abv (si l i) b u / (si l i).Area) := by
        rw [Int.tdiv_eq_ediv_of_nonneg (by omega)]
        have x := Int.mul_ediv_add_emod (abv (si l i) b u + (si l i).Area - 1) (si l i).Area
        have y := Int.mul_ediv_add_emod (-abv (si l i) b u) (si l i).Area
        have x1 := Int.emod_nonneg (abv (si l i) b u + (si l i).Area - 1) (show (si l i).Area ≠ 0 by omega)
        have x2 := Int.emod_lt_of_pos (abv (si l i) b u + (si l i).Area - 1) (show 0 < (si l i).Area by omega)
        have y1 := Int.emod_nonneg (-abv (si l i) b u) (show (si l i).Area ≠ 0 by omega)
        have y2 := Int.emod_lt_of_pos (-abv (si l i) b u) (show 0 < (si l i).Area by omega)
        have z := Int.ediv_emod_unique (a := abv (si l i) b u + (si l i).Area - 1) (b := (si l i).Area) (r := (si l i).Area - 1 - (-abv (si l i) b u) % (si l i).Area) (q := -(-abv (si l i) b u / (si l i).Area)) (by omega)
        exact (z.2 ⟨by rw [Int.mul_neg]; omega, by omega, by omega⟩).1
      rw [w1, w2, d1, d2]
      have w3 : IntKind.wrap IntKind.i64 (abv (si l i) b u / (si l i).Area) = abv (si l i) b u / (si l i).Area := i64_in' (by omega) (by omega)
      have w4 : IntKind.wrap IntKind.i64 (-(-abv (si l i) b u / (si l i).Area)) = -(-abv (si l i) b u / (si l i).Area) := i64_in' (by omega) (by omega)
      rw [w3, w4]
      have e6 : IntKind.wrap IntKind.i64 (grN (si l i).Long (si l i).Rise (si l i).Area (si l i).Gap Y W q * (abv (si l i) b u / (si l i).Area)) = grN (si l i).Long (si l i).Rise (si l i).Area (si l i).Gap Y W q * (abv (si l i) b u / (si l i).Area) := i64_in' (by omega) (by omega)
      have e7 : IntKind.wrap IntKind.i64 (grN (si l i).Long (si l i).Rise (si l i).Area (si l i).Gap Y W q * -(-abv (si l i) b u / (si l i).Area)) = grN (si l i).Long (si l i).Rise (si l i).Area (si l i).Gap Y W q * -(-abv (si l i) b u / (si l i).Area) := i64_in' (by omega) (by omega)
      rw [e6, e7]
      have e8 : IntKind.wrap IntKind.i64 (z0 + grN (si l i).Long (si l i).Rise (si l i).Area (si l i).Gap Y W q * (abv (si l i) b u / (si l i).Area)) = z0 + grN (si l i).Long (si l i).Rise (si l i).Area (si l i).Gap Y W q * (abv (si l i) b u / (si l i).Area) := i64_in' (by omega) (by omega)
      have e9 : IntKind.wrap IntKind.i64 (z1 + grN (si l i).Long (si l i).Rise (si l i).Area (si l i).Gap Y W q * -(-abv (si l i) b u / (si l i).Area)) = z1 + grN (si l i).Long (si l i).Rise (si l i).Area (si l i).Gap Y W q * -(-abv (si l i) b u / (si l i).Area) := i64_in' (by omega) (by omega)
      rw [e8, e9]
      unfold lsB lsL lsH at hK
      rw [if_pos k] at hK
      have ne : decide ((si l i).Area ≠ 0) = true := decide_eq_true (by omega)
      exact ⟨ne, ne, hlt, nLr _ _ _ _ _ _ _ _ _ _ _ K ⟨⟨by omega, hl, hal, hu, hu2⟩, by omega, by omega, by omega⟩ hK⟩
  · rw [drop_n c] at hK
    exact hK.1 rfl
theorem hLr : LoopH Try.prog E cLr 0 (bodyX Try.prog E ctLo noLoops 1000 5 L0 (lpOf Try.prog 43 0)) :=
  ⟨fun d => ((d.2.2.2.2.1.length : Int) - d.2.2.2.1).toNat, fun dd K hK => by
    obtain ⟨q, u, b, i, l, Y, W, r0, r1, z0, z1, ⟨⟩⟩ := dd
    obtain ⟨hI, hK⟩ := hK
    refine Tree.holds_mono (fun y hy => ?_) (hLr' q u b i l Y W r0 r1 z0 z1 K hI hK)
    cases y with
    | inl d' => exact hy
    | inr y => exact hy⟩
theorem llLr : LLOk Try.prog E (llOfN Try.prog E 43 0 [(6, cLr)]) := llOfN_ok fun i hi c hc => by
  have hi : i < 1 := hi
  obtain rfl : i = 0 := by omega
  obtain rfl : cLr = c := Option.some.inj hc
  exact LSndN.mk good names mixes ctLo_ok (by decide) hLr
theorem tvLp (l : List Seg) (Y V q u : Int) : runX ctLo (llOfN Try.prog E 92 9 [(2, cLp)]) 42 [.agg [.sl 52 l false], .agg [i64 Y, i64 V], i64 q, i64 u] [42, 4] =
  (.req (inLg l)
  (.br (!hE l == (0 : Int))
   (.leaf (.tup [.agg [.sym .i64 ((0 : Int)), .sym .i64 ((0 : Int))], .bool (false)]))
   (.req (inLg l)
   (.br (!within u (0 : Int) (vol l))
    (.leaf (.tup [.agg [.sym .i64 ((0 : Int)), .sym .i64 ((0 : Int))], .bool (false)]))
    (.req (RecIs (rfOf Try.prog (42 : Nat) (0 : Nat)) (rfOf Try.prog (42 : Nat) (0 : Nat)))
    (.req (((((0 : Int) ≤ (0 : Int) ∧ (↑(List.length l) : Int) = (↑(List.length l) : Int)) ∧ inLg l) ∧ List.length l ≤ (16 : Nat) ∧ allS l = true ∧ (0 : Int) ≤ u ∧ u ≤ (1099511627776 : Int)) ∧ ((0 : Int) ≤ (0 : Int) ∧ (0 : Int) ≤ (5242880000 : Int) * (0 : Int)) ∧ ((0 : Int) ≤ (0 : Int) ∧ (0 : Int) ≤ (21000000000 : Int) * (0 : Int)) ∧ (0 : Int) ≤ (0 : Int) ∧ (0 : Int) ≤ (21000000000 : Int) * (0 : Int))
    (.br (lsB Y V q (List.drop (Int.toNat (0 : Int)) l))
     (.leaf (.tup [.agg [.sym .i64 (lsL Y V q u (List.drop (Int.toNat (0 : Int)) l) (0 : Int) (0 : Int)), .sym .i64 (lsH Y V q u (List.drop (Int.toNat (0 : Int)) l) (0 : Int) (0 : Int))], .bool (true)]))
     (.leaf (.tup [.agg [.sym .i64 ((0 : Int)), .sym .i64 ((0 : Int))], .bool (false)]))))))))) := by kernel_rfl
theorem tvLr (l : List Seg) (Y V q u : Int) : runX ctLo (llOfN Try.prog E 43 0 [(6, cLr)]) 43 [.agg [.sl 52 l false], .agg [i64 Y, i64 V], i64 q, i64 u] [42, 4] =
  (.req (inLg l)
  (.br (hE l != (0 : Int))
   (.leaf (.tup [.agg [.sym .i64 ((0 : Int)), .sym .i64 ((0 : Int))], .bool (false)]))
   (.br (decide (u < (0 : Int)))
    (.leaf (.tup [.agg [.sym .i64 ((0 : Int)), .sym .i64 ((0 : Int))], .bool (false)]))
    (.req (inLg l)
    (.br (decide (u > vol l))
     (.leaf (.tup [.agg [.sym .i64 ((0 : Int)), .sym .i64 ((0 : Int))], .bool (false)]))
     (.req (((0 : Int) ≤ (0 : Int) ∧ List.length l ≤ (16 : Nat) ∧ allS l = true ∧ (0 : Int) ≤ u ∧ u ≤ (1099511627776 : Int)) ∧ ((0 : Int) ≤ (0 : Int) ∧ (0 : Int) ≤ (5242880000 : Int) * (0 : Int)) ∧ ((0 : Int) ≤ (0 : Int) ∧ (0 : Int) ≤ (21000000000 : Int) * (0 : Int)) ∧ (0 : Int) ≤ (0 : Int) ∧ (0 : Int) ≤ (21000000000 : Int) * (0 : Int))
     (.br (lsB Y V q (List.drop (Int.toNat (0 : Int)) l))
      (.leaf (.tup [.agg [.sym .i64 (lsL Y V q u (List.drop (Int.toNat (0 : Int)) l) (0 : Int) (0 : Int)), .sym .i64 (lsH Y V q u (List.drop (Int.toNat (0 : Int)) l) (0 : Int) (0 : Int))], .bool (true)]))
      (.leaf (.tup [.agg [.sym .i64 ((0 : Int)), .sym .i64 ((0 : Int))], .bool (false)]))))))))) := by kernel_rfl
end Go.Proofs.Ytnhedcaphncliaa.W.Hole
end

set_option linter.unusedVariables false
set_option maxRecDepth 100000
set_option maxHeartbeats 4000000
noncomputable section
namespace Go.Proofs.Ytnhedcaphncliaa.W.Hole
open Go Go.Cx Go.RowKit
noncomputable def va : List Seg → Int
  | [] => 0
  | s :: r => s.Long * s.Area + va r
theorem prod_s {s : Seg} (h : segP s) : s.Long ≤ s.Long * s.Area ∧ s.Long * s.Area ≤ 5000 * s.Long := by
  have h1 := Int.mul_le_mul_of_nonneg_left h.2.2.1.1 (show 0 ≤ s.Long by have := h.1; omega)
  have h2 := Int.mul_le_mul_of_nonneg_left h.2.2.1.2 (show 0 ≤ s.Long by have := h.1; omega)
  omega
theorem va_bd : ∀ {l : List Seg}, allS l = true → sumL l ≤ va l ∧ va l ≤ 5000 * sumL l
  | [], _ => by decide
  | s :: r, h => by
    obtain ⟨h1, h2⟩ := Bool.and_eq_true_iff.1 h
    have h3 := prod_s (of_decide_eq_true h1)
    have h4 := va_bd h2
    show s.Long + sumL r ≤ s.Long * s.Area + va r ∧ s.Long * s.Area + va r ≤ 5000 * (s.Long + sumL r)
    omega
theorem hi_eq {s : Seg} {low : Int} (h : segP s) (h0 : 0 ≤ low) (h1 : low + 5000 * s.Long ≤ 4611686018427387904) : hi s low = low + s.Long * s.Area := by
  have h3 := prod_s h
  have h4 := h.1
  unfold hi wr
  rw [i64_in' (n := s.Long * s.Area) (by omega) (by omega)]
  exact i64_in' (by omega) (by omega)
theorem vf_va : ∀ {l : List Seg} {low : Int}, allS l = true → 0 ≤ low → low + 5000 * sumL l ≤ 4611686018427387904 → vf l low = low + va l
  | [], low, _, _, _ => by show low = low + 0; omega
  | s :: r, low, h, h0, hb => by
    obtain ⟨h1, h2⟩ := Bool.and_eq_true_iff.1 h
    have h1 := of_decide_eq_true h1
    have h3 := prod_s h1
    have h4 := sumL_nn h2
    have hb : low + 5000 * (s.Long + sumL r) ≤ 4611686018427387904 := hb
    show vf r (hi s low) = low + (s.Long * s.Area + va r)
    rw [hi_eq h1 h0 (by omega), vf_va h2 (by have := h1.1; omega) (by omega)]
    omega
theorem vol_bd (l : List Seg) : 0 ≤ vol l ∧ vol l ≤ 5242880000 := by
  unfold vol
  split
  · rename_i h
    obtain ⟨_, h1, h2⟩ := hE_0 h
    have := va_bd h1
    have := sumL_nn h1
    rw [vf_va h1 (by decide) (by omega)]
    omega
  · decide

noncomputable def loB (l : List Seg) (Y W q u : Int) : Bool := if hE l = 0 ∧ within u 0 (vol l) = true then lsB Y W q l else false
noncomputable def loL (l : List Seg) (Y W q u : Int) : Int := if loB l Y W q u = true then lsL Y W q u l 0 0 else 0
noncomputable def loH (l : List Seg) (Y W q u : Int) : Int := if loB l Y W q u = true then lsH Y W q u l 0 0 else 0
@[reducible] noncomputable def loA (l : List Seg) (Y W q u : Int) : AV T := .tup [.agg [i64 (loL l Y W q u), i64 (loH l Y W q u)], .bool (loB l Y W q u)]
theorem lo_no {l : List Seg} {Y W q u : Int} (h : loB l Y W q u = false) : (AV.tup [.agg [i64 0, i64 0], .bool false] : AV T) = loA l Y W q u := by
  unfold loA loL loH
  rw [h]
  rfl
theorem lo_out {l : List Seg} {Y W q u : Int} (h : ¬ (hE l = 0 ∧ within u 0 (vol l) = true)) : loB l Y W q u = false := if_neg h
theorem lo_fin {l : List Seg} {Y W q u : Int} (h : hE l = 0 ∧ within u 0 (vol l) = true) : (Tree.br (lsB Y W q l) (.leaf (.tup [.agg [i64 (lsL Y W q u l 0 0), i64 (lsH Y W q u l 0 0)], .bool true])) (.leaf (.tup [.agg [i64 0, i64 0], .bool false])) : Tree (AV T)).holds fun v => v = loA l Y W q u := by
  have e : loB l Y W q u = lsB Y W q l := if_pos h
  refine wayB (fun c => ?_) fun c => ?_
  · have c : lsB Y W q l = true := c
    unfold loA loL loH
    rw [e, c, if_pos rfl, if_pos rfl]; rfl
  · have c : lsB Y W q l = false := c
    exact lo_no (by rw [e]; exact c)
theorem s42 (l : List Seg) (Y W q u : Int) (h : inLg l) : (runX ctLo (llOfN Try.prog E 92 9 [(2, cLp)]) 42 [.agg [.sl 52 l false], .agg [i64 Y, i64 W], i64 q, i64 u] [42, 4]).holds fun v => v = loA l Y W q u := by
  rw [tvLp]
  refine ⟨h, wayNEq (fun c => lo_no (lo_out fun q => c q.1)) fun c => ⟨h, wayB (fun k => lo_no (lo_out fun q => by rw [q.2] at k; cases k)) fun k => ?_⟩⟩
  have k : within u 0 (vol l) = true := by simpa using k
  have b := of_decide_eq_true k
  have v := vol_bd l
  have e := hE_0 c
  exact ⟨rfl, ⟨⟨⟨⟨by decide, rfl⟩, h⟩, e.1.2, e.2.1, b.1, by omega⟩, by decide, by decide, by decide⟩, lo_fin ⟨c, k⟩⟩
theorem s43 (l : List Seg) (Y W q u : Int) (h : inLg l) : (runX ctLo (llOfN Try.prog E 43 0 [(6, cLr)]) 43 [.agg [.sl 52 l false], .agg [i64 Y, i64 W], i64 q, i64 u] [42, 4]).holds fun v => v = loA l Y W q u := by
  rw [tvLr]
  refine ⟨h, wayNe (fun c => lo_no (lo_out fun q => c q.1)) fun c => way (fun k => lo_no (lo_out fun q => ?_)) fun k => ⟨h, way (fun k2 => lo_no (lo_out fun q => ?_)) fun k2 => ?_⟩⟩
  · have := of_decide_eq_true q.2; omega
  · have := of_decide_eq_true q.2; omega
  · have v := vol_bd l
    have e := hE_0 c
    exact ⟨⟨⟨by decide, e.1.2, e.2.1, by omega, by omega⟩, by decide, by decide, by decide⟩, lo_fin ⟨c, decide_eq_true ⟨by omega, by omega⟩⟩⟩
noncomputable def cLoss : Con T := conP Try.prog [shH, shM, .one (.i .i64), .one (.i .i64)] [.l 52, .n, .n, .n, .n] (fun d => inLg d.1) fun d => loA d.1 d.2.1 d.2.2.1 d.2.2.2.1 d.2.2.2.2.1
theorem loss_ok : ConOk Try.prog E 42 cLoss := conP_ok fun d hd => fact_run ctLo_ok llLp (ts := [42, 4]) rfl (s42 d.1 d.2.1 d.2.2.1 d.2.2.2.1 d.2.2.2.2.1 hd)
theorem loss2_ok : ConOk Try.prog E 43 cLoss := conP_ok fun d hd => fact_run ctLo_ok llLr (ts := [42, 4]) rfl (s43 d.1 d.2.1 d.2.2.1 d.2.2.2.1 d.2.2.2.2.1 hd)
noncomputable def ctFF : CTab T := [(19, cAwake), (40, cGr), (41, cGrR), (42, cLoss), (43, cLoss), (44, cFw), (45, cFwR)]
theorem ctFF_ok : CTabOk Try.prog E ctFF := .cons awake_ok (.cons gr_ok (.cons grR_ok (.cons loss_ok (.cons loss2_ok (.cons fw_ok (.cons fwR_ok .nil))))))
theorem tvFF (s : Seg) (Y V g q : Int) (l : List Seg) (u : Int) : runX ctFF noLoops 7 [s.av, .agg [i64 Y, i64 V], i64 g, i64 q, .agg [.sl 52 l false], i64 u] [4] =
  (.br (decide ((↑(List.length l) : Int) > (18 : Int)))
   (.leaf (.bool (true)))
   (.req ((-9223372036854775808 : Int) ≤ Seg.Long s ∧ Seg.Long s ≤ (9223372036854775807 : Int))
   (.req (inLg l)
   (.req (inLg l)
   (.req ((-9223372036854775808 : Int) ≤ Seg.Long s ∧ Seg.Long s ≤ (9223372036854775807 : Int))
   (.br (flB (Seg.Long s) (Seg.Rise s) (Seg.Area s) (Seg.Gap s) Y V g q == flB (Seg.Long s) (Seg.Rise s) (Seg.Area s) (Seg.Gap s) Y V g q)
    (.br (grN (Seg.Long s) (Seg.Rise s) (Seg.Area s) (Seg.Gap s) Y V q == grN (Seg.Long s) (Seg.Rise s) (Seg.Area s) (Seg.Gap s) Y V q)
     (.br (grB (Seg.Long s) (Seg.Rise s) (Seg.Area s) (Seg.Gap s) Y V q == grB (Seg.Long s) (Seg.Rise s) (Seg.Area s) (Seg.Gap s) Y V q)
      (.br (loL l Y V q u == loL l Y V q u && (loH l Y V q u == loH l Y V q u && true))
       (.br (loB l Y V q u == loB l Y V q u)
        (.leaf (.bool (true)))
        (.leaf (.bool (false))))
       (.leaf (.bool (false))))
      (.leaf (.bool (false))))
     (.leaf (.bool (false))))
    (.leaf (.bool (false))))))))) := by kernel_rfl
theorem eq_y {a b : Int} {t f : Tree (AV T)} {Q : AV T → Prop} (h : a = b) (k : t.holds Q) : (Tree.br (a == b) t f).holds Q := wayEq (fun _ => k) fun c => absurd h c
theorem eqb_y {a b : Bool} {t f : Tree (AV T)} {Q : AV T → Prop} (h : a = b) (k : t.holds Q) : (Tree.br (a == b) t f).holds Q := by
  subst h
  exact ⟨fun _ => k, fun c => (by cases a <;> cases c)⟩
theorem tt_y {a : Bool} {t f : Tree (AV T)} {Q : AV T → Prop} (h : a = true) (k : t.holds Q) : (Tree.br a t f).holds Q := ⟨fun _ => k, fun c => (by rw [h] at c; cases c)⟩
end Go.Proofs.Ytnhedcaphncliaa.W.Hole
end

set_option linter.unusedVariables false
set_option maxRecDepth 100000
set_option maxHeartbeats 4000000
noncomputable section
namespace Go.Proofs.Ytnhedcaphncliaa.W.Hole
open Go Go.Cx Go.RowKit
noncomputable def runW (ct : CTab T) (ll : Nat → Nat → LoopTab T) (fl : List Nat) (f : Nat) (xs : List (AV T)) (ts : List Nat) : Tree (AV T × List (V T)) := resW Try.prog fl ts (callX Try.prog E ct ll 1000 8 (.fn f) xs hp0)
theorem factW_run {ct : CTab T} (hc : CTabOk Try.prog E ct) {ll : Nat → Nat → LoopTab T} (hl : LLOk Try.prog E ll) {fl : List Nat} (hfl : ∀ τ, memN τ fl = true → ∀ x : T τ, (E.enc τ x).all ind0 = true) {f : Nat} {xs : List (AV T)} {ts : List Nat} {v : AV T} {es : List (V T)} (ha : xs.all flt2 = true)
    (h : (runW ct ll fl f xs ts).holds fun x => x = (v, es)) : FactW Try.prog E f xs v es :=
  factW_of_run good hfl (callX_ok good names mixes hc hl 8) ha h
theorem flS : ∀ τ, memN τ [52] = true → ∀ x : T τ, (E.enc τ x).all ind0 = true := fun τ h => by
  have := memN_iff.1 h
  have : τ = 52 := by simpa using this
  subst this
  exact fun x => rfl
theorem tvAw (l : List Int) : runW ctP (llOf Try.prog E 58 [(3, c58)]) [52] 58 [.sl 2 l false] [24] =
  (.req (((0 : Int) ≤ (0 : Int) ∧ (0 : Int) ≤ cnt l) ∧ (↑((0 : Nat)) : Int) ≤ (0 : Int))
  (.leaf ((.agg [.ls 0 (52 : Nat) (List.length (an l (Int.toNat (cnt l - (0 : Int))) (0 : Int) []))], [.l (52 : Nat) (an l (Int.toNat (cnt l - (0 : Int))) (0 : Int) [])])))) := by kernel_rfl
noncomputable def anA (l : List Int) : AV T := .agg [.ls 0 52 (ann l).length]
noncomputable def anE (l : List Int) : List (V T) := [.l 52 (ann l)]
theorem sAw (l : List Int) : (runW ctP (llOf Try.prog E 58 [(3, c58)]) [52] 58 [.sl 2 l false] [24]).holds fun x => x = (anA l, anE l) := by
  rw [tvAw]
  have hc := cnt_bd l
  refine ⟨⟨⟨by decide, by omega⟩, by decide⟩, ?_⟩
  show (_, _) = (_, _)
  rw [Int.sub_zero]
  rfl
noncomputable def cAnnW : Con T := conPW Try.prog E [.one (.s 2)] [.l 2] (fun _ => True) (fun d => .agg [.ls 0 52 (ann d.1).length]) (fun d => [.l 52 (ann d.1)])
theorem annW_ok : ConOk Try.prog E 58 cAnnW := conPW_ok fun d _ => factW_run ctP_ok ll58 flS rfl (sAw d.1)
noncomputable def ctFL : CTab T := [(19, cAwake), (58, cAnnW), (60, cMod), (22, cVol), (42, cLoss)]
theorem ctFL_ok : CTabOk Try.prog E ctFL := .cons awake_ok (.cons annW_ok (.cons mod64_ok (.cons vol_ok (.cons loss_ok .nil))))
noncomputable def mg (s : Seg) : Seg := ⟨s.Long, s.Rise, 100 + s.Area, 20 + s.Gap % 100⟩
noncomputable def up : Nat → List Seg → Nat → List Seg
  | 0, l, _ => l
  | n + 1, l, i => up n (l.set i (mg (si l i))) (i + 1)
noncomputable def inB (l : List Seg) (i : Int) : Prop := ∀ s ∈ l.drop i.toNat, (1 ≤ s.Area ∧ s.Area ≤ 2000) ∧ 0 ≤ s.Gap ∧ s.Gap ≤ 200
theorem si_set {l : List Seg} {i : Int} {a : Seg} (h0 : 0 ≤ i) (h1 : i < l.length) : si (l.set i.toNat a) i = a := by
  show ((l.set i.toNat a)[i.toNat]?).getD _ = a
  rw [List.getElem?_set_self (by omega)]
  rfl
theorem up_map : ∀ (n : Nat) (l : List Seg) (i : Nat), l.length = i + n → up n l i = l.take i ++ (l.drop i).map mg
  | 0, l, i, h => by
    show l = _
    rw [List.take_of_length_le (by omega), List.drop_eq_nil_of_le (by omega)]
    simp
  | n + 1, l, i, h => by
    have hi : i < l.length := by omega
    show up n (l.set i (mg (si l i))) (i + 1) = _
    rw [up_map n _ _ (by rw [List.length_set]; omega), List.drop_set_of_lt (by omega)]
    have e : l.drop i = si l i :: l.drop (i + 1) := drop_ix (E := E) (τ := 52) (l := l) (i := i) hi
    rw [e]
    rw [List.set_eq_take_append_cons_drop, if_pos hi, List.take_append, List.take_of_length_le (by rw [List.length_take]; omega), List.length_take]
    rw [show i + 1 - min i l.length = 1 by omega]
    simp
noncomputable def o16 (l : List Seg) (q : Int) (u : Int) (w : Int) (i : Int) (Y : Int) (W : Int) : Tree (Ex × List (V T)) := .req ((0 ≤ i ∧ i ≤ l.length ∧ l.length ≤ 5) ∧ inB l i) (.leaf (.exit 0, [.l 52 (up (l.length - i.toNat) l i.toNat), .n q, .n u, .n w, .n Y, .n W]))
noncomputable def c16 : LoopC T := ⟨[.l 52, .n, .n, .n, .n, .n, .n], ⟨148, [(2, .one (.i .i64)), (3, .one (.i .i64)), (4, .one (.i .i64)), (6, .one (.o 0 0)), (11, .one (.o 1 0)), (12, .one (.i .i64))], [.c [.i .i64, .i .i64], .c [.g 2 52], .l 52]⟩, fun _ => ⟨148, [(2, .one (.i .i64)), (3, .one (.i .i64)), (4, .one (.i .i64)), (6, .one (.o 0 0)), (11, .one (.o 1 0))], [.c [.i .i64, .i .i64], .c [.g 2 52], .l 52]⟩, 30, fun d => o16 d.1 d.2.1 d.2.2.1 d.2.2.2.1 d.2.2.2.2.1 d.2.2.2.2.2.1 d.2.2.2.2.2.2.1⟩
theorem b16 (l : List Seg) (q : Int) (u : Int) (w : Int) (i : Int) (Y : Int) (W : Int) : bodyD Try.prog E c16 0 (bodyX Try.prog E ctFL noLoops 1000 5 L0 (lpOf Try.prog 16 0)) (l, q, u, w, i, Y, W, ()) =
  (.br (decide (i < (↑(List.length l) : Int)))
   (.req ((decide ((0 : Int) ≤ i) && decide (i < (↑(List.length l) : Int))) = true)
   (.req ((decide ((0 : Int) ≤ i) && decide (i < (↑(List.length l) : Int))) = true)
   (.req ((decide ((0 : Int) ≤ i) && decide (i < (↑(List.length l) : Int))) = true)
   (.req ((decide ((0 : Int) ≤ i) && decide (i < (↑(List.length l) : Int))) = true)
   (.req ((decide ((0 : Int) ≤ i) && decide (i < (↑(List.length l) : Int))) = true)
   (.req ((decide ((0 : Int) ≤ i) && decide (i < (↑(List.length (List.set l (Int.toNat i) (Seg.mk (Seg.Long (si l i)) (Seg.Rise (si l i)) (Seg.Area (si l i)) (IntKind.wrap IntKind.i64 ((20 : Int) + Int.tmod (Seg.Gap (si l i)) (100 : Int)))))) : Int))) = true)
   (.req ((decide ((0 : Int) ≤ i) && decide (i < (↑(List.length l) : Int))) = true)
   (.req ((decide ((0 : Int) ≤ i) && decide (i < (↑(List.length (List.set l (Int.toNat i) (Seg.mk (Seg.Long (si l i)) (Seg.Rise (si l i)) (Seg.Area (si l i)) (IntKind.wrap IntKind.i64 ((20 : Int) + Int.tmod (Seg.Gap (si l i)) (100 : Int)))))) : Int))) = true)
   (.req (List.length l = List.length (List.set (List.set l (Int.toNat i) (Seg.mk (Seg.Long (si l i)) (Seg.Rise (si l i)) (Seg.Area (si l i)) (IntKind.wrap IntKind.i64 ((20 : Int) + Int.tmod (Seg.Gap (si l i)) (100 : Int))))) (Int.toNat i) (Seg.mk (Seg.Long (si (List.set l (Int.toNat i) (Seg.mk (Seg.Long (si l i)) (Seg.Rise (si l i)) (Seg.Area (si l i)) (IntKind.wrap IntKind.i64 ((20 : Int) + Int.tmod (Seg.Gap (si l i)) (100 : Int))))) i)) (Seg.Rise (si (List.set l (Int.toNat i) (Seg.mk (Seg.Long (si l i)) (Seg.Rise (si l i)) (Seg.Area (si l i)) (IntKind.wrap IntKind.i64 ((20 : Int) + Int.tmod (Seg.Gap (si l i)) (100 : Int))))) i)) (IntKind.wrap IntKind.i64 ((100 : Int) + Seg.Area (si (List.set l (Int.toNat i) (Seg.mk (Seg.Long (si l i)) (Seg.Rise (si l i)) (Seg.Area (si l i)) (IntKind.wrap IntKind.i64 ((20 : Int) + Int.tmod (Seg.Gap (si l i)) (100 : Int))))) i))) (Seg.Gap (si (List.set l (Int.toNat i) (Seg.mk (Seg.Long (si l i)) (Seg.Rise (si l i)) (Seg.Area (si l i)) (IntKind.wrap IntKind.i64 ((20 : Int) + Int.tmod (Seg.Gap (si l i)) (100 : Int))))) i)))))
   (.leaf (.inl (List.set (List.set l (Int.toNat i) (Seg.mk (Seg.Long (si l i)) (Seg.Rise (si l i)) (Seg.Area (si l i)) (IntKind.wrap IntKind.i64 ((20 : Int) + Int.tmod (Seg.Gap (si l i)) (100 : Int))))) (Int.toNat i) (Seg.mk (Seg.Long (si (List.set l (Int.toNat i) (Seg.mk (Seg.Long (si l i)) (Seg.Rise (si l i)) (Seg.Area (si l i)) (IntKind.wrap IntKind.i64 ((20 : Int) + Int.tmod (Seg.Gap (si l i)) (100 : Int))))) i)) (Seg.Rise (si (List.set l (Int.toNat i) (Seg.mk (Seg.Long (si l i)) (Seg.Rise (si l i)) (Seg.Area (si l i)) (IntKind.wrap IntKind.i64 ((20 : Int) + Int.tmod (Seg.Gap (si l i)) (100 : Int))))) i)) (IntKind.wrap IntKind.i64 ((100 : Int) + Seg.Area (si (List.set l (Int.toNat i) (Seg.mk (Seg.Long (si l i)) (Seg.Rise (si l i)) (Seg.Area (si l i)) (IntKind.wrap IntKind.i64 ((20 : Int) + Int.tmod (Seg.Gap (si l i)) (100 : Int))))) i))) (Seg.Gap (si (List.set l (Int.toNat i) (Seg.mk (Seg.Long (si l i)) (Seg.Rise (si l i)) (Seg.Area (si l i)) (IntKind.wrap IntKind.i64 ((20 : Int) + Int.tmod (Seg.Gap (si l i)) (100 : Int))))) i))), (q, (u, (w, (IntKind.wrap IntKind.i64 (i + (1 : Int)), (Y, (W, ()))))))))))))))))))
   (.req (List.length l = List.length l)
   (.leaf (.inr (.exit (0 : Nat), [.l (52 : Nat) (l), .n (q), .n (u), .n (w), .n (Y), .n (W)]))))) := by kernel_rfl
theorem n16 (l : List Seg) (q : Int) (u : Int) (w : Int) (i : Int) (Y : Int) (W : Int) (K : Ex × List (V T) → Prop) (hI : (0 ≤ i ∧ i ≤ l.length ∧ l.length ≤ 5) ∧ inB l i) (hK : (.leaf (.exit 0, [.l 52 (up (l.length - i.toNat) l i.toNat), .n q, .n u, .n w, .n Y, .n W]) : Tree (Ex × List (V T))).holds K) : (c16.out (l, q, u, w, i, Y, W, ())).holds K := ⟨hI, hK⟩
theorem h16' (l : List Seg) (q : Int) (u : Int) (w : Int) (i : Int) (Y : Int) (W : Int) (K : Ex × List (V T) → Prop) (hI : (0 ≤ i ∧ i ≤ l.length ∧ l.length ≤ 5) ∧ inB l i) (hK : (.leaf (.exit 0, [.l 52 (up (l.length - i.toNat) l i.toNat), .n q, .n u, .n w, .n Y, .n W]) : Tree (Ex × List (V T))).holds K) :
    (bodyD Try.prog E c16 0 (bodyX Try.prog E ctFL noLoops 1000 5 L0 (lpOf Try.prog 16 0)) (l, q, u, w, i, Y, W, ())).holds fun y => match y with
    | .inl d => ((d.1.length : Int) - d.2.2.2.2.1).toNat < ((l.length : Int) - i).toNat ∧ (c16.out d).holds K
    | .inr y => K y := by
  rw [b16]
  obtain ⟨⟨h0, h1, h5⟩, hb⟩ := hI
  refine way (fun c => wayC h0 c fun _ _ => ?_) fun c => ?_
  · have e0 := drop_sI h0 c
    have b := hb (si l i) (by rw [e0]; exact List.mem_cons_self ..)
    have e1 : IntKind.wrap IntKind.i64 (20 + Int.tmod (si l i).Gap 100) = 20 + (si l i).Gap % 100 := by
      rw [Int.tmod_eq_emod_of_nonneg b.2.1]
      exact i64_in' (by omega) (by omega)
    have e2 : IntKind.wrap IntKind.i64 (100 + (si l i).Area) = 100 + (si l i).Area := i64_in' (by omega) (by omega)
    have e3 : IntKind.wrap IntKind.i64 (i + 1) = i + 1 := i64_in' (by omega) (by omega)
    rw [e1, si_set h0 c, e3]
    dsimp only
    rw [e2]
    have ss : (l.set i.toNat ⟨(si l i).Long, (si l i).Rise, (si l i).Area, 20 + (si l i).Gap % 100⟩).set i.toNat ⟨(si l i).Long, (si l i).Rise, 100 + (si l i).Area, 20 + (si l i).Gap % 100⟩ = l.set i.toNat (mg (si l i)) := List.set_set ..
    rw [ss, List.length_set, List.length_set]
    have hc : (decide (0 ≤ i) && decide (i < (l.length : Int))) = true := by simp [h0, c]
    have hlt : ∀ L : List Seg, L = l.set i.toNat (mg (si l i)) → ((L.length : Int) - (i + 1)).toNat < ((l.length : Int) - i).toNat ∧ ((0 ≤ i + 1 ∧ i + 1 ≤ L.length ∧ L.length ≤ 5) ∧ inB L (i + 1)) ∧ (.leaf (.exit 0, [.l 52 (up (L.length - (i + 1).toNat) L (i + 1).toNat), .n q, .n u, .n w, .n Y, .n W]) : Tree (Ex × List (V T))).holds K := by
      rintro L rfl
      rw [List.length_set]
      refine ⟨by omega, ⟨⟨by omega, by omega, h5⟩, fun s hs => ?_⟩, ?_⟩
      · rw [show (i + 1).toNat = i.toNat + 1 by omega, List.drop_set_of_lt (by omega)] at hs
        exact hb s (by rw [e0, show (i + 1).toNat = i.toNat + 1 by omega]; exact List.mem_cons_of_mem _ hs)
      · rw [show l.length - i.toNat = (l.length - (i + 1).toNat) + 1 by omega] at hK
        rw [show (i + 1).toNat = i.toNat + 1 by omega] at hK ⊢
        have : si l i = si l (i.toNat : Int) := by rw [Int.toNat_of_nonneg h0]
        rw [this]
        exact hK
    obtain ⟨g1, g2, g3⟩ := hlt _ ss
    exact ⟨hc, hc, hc, hc, hc, hc, hc, rfl, g1, n16 _ _ _ _ _ _ _ K g2 g3⟩
  · rw [show l.length - i.toNat = 0 by omega] at hK
    exact ⟨rfl, hK⟩
theorem h16 : LoopH Try.prog E c16 0 (bodyX Try.prog E ctFL noLoops 1000 5 L0 (lpOf Try.prog 16 0)) :=
  ⟨fun d => ((d.1.length : Int) - d.2.2.2.2.1).toNat, fun dd K hK => by
    obtain ⟨l, q, u, w, i, Y, W, ⟨⟩⟩ := dd
    obtain ⟨hI, hK⟩ := hK
    refine Tree.holds_mono (fun y hy => ?_) (h16' l q u w i Y W K hI hK)
    cases y with
    | inl d' => exact hy
    | inr y => exact hy⟩
theorem ll16 : LLOk Try.prog E (llOfN Try.prog E 16 0 [(3, c16)]) := llOfN_ok fun i hi c hc => by
  have hi : i < 1 := hi
  obtain rfl : i = 0 := by omega
  obtain rfl : c16 = c := Option.some.inj hc
  exact LSndN.mk good names mixes ctFL_ok (by decide) h16
theorem an_mem (l : List Int) : ∀ (n : Nat) (i : Int) (r : List Seg), (∀ s ∈ an l n i r, s ∈ r ∨ ∃ j, s = sg l j) ∧ (an l n i r).length = r.length + n
  | 0, _, r => ⟨fun s h => .inl h, rfl⟩
  | n + 1, i, r => by
    obtain ⟨a, b⟩ := an_mem l n (i + 1) (r ++ [sg l i])
    refine ⟨fun s h => ?_, ?_⟩
    · rcases a s h with h | h
      · rcases List.mem_append.1 h with h | h
        · exact .inl h
        · exact .inr ⟨i, List.mem_singleton.1 h⟩
      · exact .inr h
    · show (an l n (i + 1) (r ++ [sg l i])).length = _
      rw [b, List.length_append]
      show r.length + 1 + n = _
      omega
@[reducible] def sgB (s : Seg) : Prop := (1 ≤ s.Long ∧ s.Long ≤ 100000) ∧ (0 ≤ s.Rise ∧ s.Rise ≤ s.Long) ∧ (1 ≤ s.Area ∧ s.Area ≤ 1500) ∧ (1 ≤ s.Gap ∧ s.Gap ≤ 200)
theorem ann_b (l : List Int) : (∀ s ∈ ann l, sgB s) ∧ 0 < (ann l).length ∧ (ann l).length ≤ 5 := by
  obtain ⟨a, b⟩ := an_mem l (cnt l).toNat 0 []
  have c := cnt_bd l
  have b : (ann l).length = 0 + (cnt l).toNat := b
  refine ⟨fun s h => ?_, by omega, by omega⟩
  rcases a s h with h | ⟨j, rfl⟩
  · cases h
  · have := sg_ok l j
    exact ⟨this.1, this.2.1, this.2.2.1, this.2.2.2.1⟩
@[reducible] def mgB (s : Seg) : Prop := (1 ≤ s.Long ∧ s.Long ≤ 100000) ∧ (0 ≤ s.Rise ∧ s.Rise ≤ s.Long) ∧ (101 ≤ s.Area ∧ s.Area ≤ 1600) ∧ (20 ≤ s.Gap ∧ s.Gap ≤ 119)
theorem allS_of : ∀ {l : List Seg}, (∀ s ∈ l, mgB s) → allS l = true ∧ sumL l ≤ 100000 * l.length
  | [], _ => ⟨rfl, by decide⟩
  | s :: r, h => by
    obtain ⟨a, b⟩ := allS_of (l := r) fun x hx => h x (List.mem_cons_of_mem _ hx)
    have k := h s (List.mem_cons_self ..)
    refine ⟨Bool.and_eq_true_iff.2 ⟨decide_eq_true (by omega), a⟩, ?_⟩
    show s.Long + sumL r ≤ 100000 * (((r.length + 1 : Nat)) : Int)
    omega
theorem va_big : ∀ {l : List Seg}, (∀ s ∈ l, mgB s) → 0 < l.length → 100 < va l
  | [], _, h => by cases h
  | s :: r, h, _ => by
    have k := h s (List.mem_cons_self ..)
    have a := allS_of (l := r) fun x hx => h x (List.mem_cons_of_mem _ hx)
    have := (va_bd a.1).1
    have := sumL_nn a.1
    have p := Int.mul_le_mul_of_nonneg_right k.1.1 (show 0 ≤ s.Area by omega)
    show 100 < s.Long * s.Area + va r
    omega
theorem abv_anti {s : Seg} {low u v : Int} (h : u ≤ v) : abv s low v ≤ abv s low u := by
  unfold abv mx2 mn2
  generalize s.Long * s.Area = z
  repeat' split
  all_goals omega
theorem abv_nn (s : Seg) (low u : Int) : 0 ≤ abv s low u := by
  unfold abv mx2
  split <;> omega
theorem abv_0 {s : Seg} {low u : Int} (h : low + s.Long * s.Area ≤ u) : abv s low u = 0 := by
  unfold abv mx2 mn2
  generalize s.Long * s.Area = z at *
  repeat' split
  all_goals omega
theorem ls_anti {Y W q u v : Int} (h : u ≤ v) : ∀ {l : List Seg} {low a b c d : Int}, (∀ s ∈ l, mgB s) → a ≤ b → c ≤ d → lsL Y W q v l low a ≤ lsL Y W q u l low b ∧ lsH Y W q v l low c ≤ lsH Y W q u l low d
  | [], _, _, _, _, _, _, h1, h2 => ⟨h1, h2⟩
  | s :: r, low, a, b, c, d, hb, h1, h2 => by
    have k := hb s (List.mem_cons_self ..)
    have g := (grN_bd (L := s.Long) (R := s.Rise) (A := s.Area) (G := s.Gap) (Y := Y) (V := W) (q := q)).1
    have x := abv_anti (s := s) (low := low) h
    have y := Int.ediv_le_ediv (show 0 < s.Area by omega) x
    have z := up_anti (abv_nn s low v) x (show 0 < s.Area by omega) (Int.le_refl _)
    have y1 := Int.mul_le_mul_of_nonneg_left y g
    have z1 := Int.mul_le_mul_of_nonneg_left z g
    exact ls_anti (l := r) (low := low + s.Long * s.Area) h (fun x hx => hb x (List.mem_cons_of_mem _ hx)) (show a + grS s Y W q * _ ≤ b + grS s Y W q * _ from Int.add_le_add h1 y1) (show c + grS s Y W q * _ ≤ d + grS s Y W q * _ from Int.add_le_add h2 z1)
theorem ls_le {Y W q u : Int} : ∀ {l : List Seg} {low a b : Int}, (∀ s ∈ l, mgB s) → a ≤ b → lsL Y W q u l low a ≤ lsH Y W q u l low b
  | [], _, _, _, _, h1 => h1
  | s :: r, low, a, b, hb, h1 => by
    have k := hb s (List.mem_cons_self ..)
    have g := (grN_bd (L := s.Long) (R := s.Rise) (A := s.Area) (G := s.Gap) (Y := Y) (V := W) (q := q)).1
    have y := (up_down (f := abv s low u) (p := s.Area) (by omega)).1
    have y1 := Int.mul_le_mul_of_nonneg_left y g
    exact ls_le (l := r) (low := low + s.Long * s.Area) (fun x hx => hb x (List.mem_cons_of_mem _ hx)) (show a + grS s Y W q * _ ≤ b + grS s Y W q * _ from Int.add_le_add h1 y1)
theorem ls_nn {Y W q u : Int} : ∀ {l : List Seg} {low a : Int}, (∀ s ∈ l, mgB s) → 0 ≤ a → 0 ≤ lsL Y W q u l low a
  | [], _, _, _, h1 => h1
  | s :: r, low, a, hb, h1 => by
    have k := hb s (List.mem_cons_self ..)
    have g := (grN_bd (L := s.Long) (R := s.Rise) (A := s.Area) (G := s.Gap) (Y := Y) (V := W) (q := q)).1
    have y := Int.ediv_nonneg (abv_nn s low u) (show 0 ≤ s.Area by omega)
    exact ls_nn (l := r) (low := low + s.Long * s.Area) (fun x hx => hb x (List.mem_cons_of_mem _ hx)) (show 0 ≤ a + grS s Y W q * _ from Int.add_nonneg h1 (Int.mul_nonneg g y))
theorem ls_0 {Y W q u : Int} : ∀ {l : List Seg} {low a b : Int}, (∀ s ∈ l, mgB s) → low + va l ≤ u → lsL Y W q u l low a = a ∧ lsH Y W q u l low b = b
  | [], _, _, _, _, _ => ⟨rfl, rfl⟩
  | s :: r, low, a, b, hb, h => by
    have h : low + (s.Long * s.Area + va r) ≤ u := h
    have k := allS_of (l := r) fun x hx => hb x (List.mem_cons_of_mem _ hx)
    have := (va_bd k.1).1
    have := sumL_nn k.1
    have e := abv_0 (s := s) (low := low) (u := u) (by omega)
    have z : (0 : Int) / s.Area = 0 := Int.zero_ediv _
    have i := ls_0 (Y := Y) (W := W) (q := q) (u := u) (l := r) (low := low + s.Long * s.Area) (a := a) (b := b) (fun x hx => hb x (List.mem_cons_of_mem _ hx)) (by omega)
    constructor
    · show lsL Y W q u r (low + s.Long * s.Area) (a + grS s Y W q * (abv s low u / s.Area)) = a
      rw [e, z, Int.mul_zero, Int.add_zero]
      exact i.1
    · show lsH Y W q u r (low + s.Long * s.Area) (b + grS s Y W q * -(-abv s low u / s.Area)) = b
      rw [e, Int.neg_zero, z, Int.neg_zero, Int.mul_zero, Int.add_zero]
      exact i.2
theorem mg_b {l : List Seg} (h : ∀ s ∈ l, sgB s) : ∀ s ∈ l.map mg, mgB s := fun s hs => by
  obtain ⟨x, hx, rfl⟩ := List.mem_map.1 hs
  have := h x hx
  show (1 ≤ x.Long ∧ x.Long ≤ 100000) ∧ (0 ≤ x.Rise ∧ x.Rise ≤ x.Long) ∧ (101 ≤ 100 + x.Area ∧ 100 + x.Area ≤ 1600) ∧ (20 ≤ 20 + x.Gap % 100 ∧ 20 + x.Gap % 100 ≤ 119)
  omega
theorem mgB_E {l : List Seg} (h : ∀ s ∈ l, mgB s) (h0 : 0 < l.length) (h5 : l.length ≤ 5) : hE l = 0 ∧ vol l = va l ∧ 100 < vol l ∧ vol l ≤ 5242880000 ∧ inLg l := by
  obtain ⟨a, b⟩ := allS_of h
  have e : hE l = 0 := by
    unfold hE
    rw [if_neg (by omega), if_neg (by omega), if_pos a, if_neg (by omega)]
  have v : vol l = va l := by
    unfold vol
    rw [if_pos e, vf_va a (by decide) (by omega)]
    omega
  have := va_big h h0
  exact ⟨e, v, by omega, (vol_bd l).2, fun s hs => by have := h s hs; omega⟩
theorem lo_in {l : List Seg} {Y W q u : Int} (e : hE l = 0) (h0 : 0 ≤ u) (h1 : u ≤ vol l) : loB l Y W q u = lsB Y W q l := if_pos ⟨e, decide_eq_true ⟨h0, h1⟩⟩
theorem tvFL (x : List Int) (Y V q u w : Int) : runX ctFL (llOfN Try.prog E 16 0 [(3, c16)]) 16 [.sl 2 x false, .agg [i64 Y, i64 V], i64 q, i64 u, i64 w] [4] =
  (.req (True)
  (.req (List.length (ann x) = List.length (ann x))
  (.req (((0 : Int) ≤ (0 : Int) ∧ (0 : Int) ≤ (↑(List.length (ann x)) : Int) ∧ List.length (ann x) ≤ (5 : Nat)) ∧ inB (ann x) (0 : Int))
  (.req (mPre Y (2000 : Int))
  (.req (mPre V (500 : Int))
  (.req (mPre q (50000 : Int))
  (.req (List.length (up (List.length (ann x) - Int.toNat (0 : Int)) (ann x) (Int.toNat (0 : Int))) = List.length (up (List.length (ann x) - Int.toNat (0 : Int)) (ann x) (Int.toNat (0 : Int))))
  (.req (inLg (up (List.length (ann x) - Int.toNat (0 : Int)) (ann x) (Int.toNat (0 : Int))))
  (.br (decide (vol (up (List.length (ann x) - Int.toNat (0 : Int)) (ann x) (Int.toNat (0 : Int))) < (100 : Int)))
   (.leaf (.bool (false)))
   (.req (mPre u (IntKind.wrap IntKind.i64 (vol (up (List.length (ann x) - Int.toNat (0 : Int)) (ann x) (Int.toNat (0 : Int))) + (1 : Int))))
   (.req (mPre w (IntKind.wrap IntKind.i64 (IntKind.wrap IntKind.i64 (vol (up (List.length (ann x) - Int.toNat (0 : Int)) (ann x) (Int.toNat (0 : Int))) - u % IntKind.wrap IntKind.i64 (vol (up (List.length (ann x) - Int.toNat (0 : Int)) (ann x) (Int.toNat (0 : Int))) + (1 : Int))) + (1 : Int))))
   (.req (List.length (up (List.length (ann x) - Int.toNat (0 : Int)) (ann x) (Int.toNat (0 : Int))) = List.length (up (List.length (ann x) - Int.toNat (0 : Int)) (ann x) (Int.toNat (0 : Int))))
   (.req (inLg (up (List.length (ann x) - Int.toNat (0 : Int)) (ann x) (Int.toNat (0 : Int))))
   (.req (List.length (up (List.length (ann x) - Int.toNat (0 : Int)) (ann x) (Int.toNat (0 : Int))) = List.length (up (List.length (ann x) - Int.toNat (0 : Int)) (ann x) (Int.toNat (0 : Int))))
   (.req (inLg (up (List.length (ann x) - Int.toNat (0 : Int)) (ann x) (Int.toNat (0 : Int))))
   (.req (List.length (up (List.length (ann x) - Int.toNat (0 : Int)) (ann x) (Int.toNat (0 : Int))) = List.length (up (List.length (ann x) - Int.toNat (0 : Int)) (ann x) (Int.toNat (0 : Int))))
   (.req (inLg (up (List.length (ann x) - Int.toNat (0 : Int)) (ann x) (Int.toNat (0 : Int))))
   (.br (!loB (up (List.length (ann x) - Int.toNat (0 : Int)) (ann x) (Int.toNat (0 : Int))) (Y % (2000 : Int)) (IntKind.wrap IntKind.i64 ((1 : Int) + V % (500 : Int))) (q % (50000 : Int)) (u % IntKind.wrap IntKind.i64 (vol (up (List.length (ann x) - Int.toNat (0 : Int)) (ann x) (Int.toNat (0 : Int))) + (1 : Int))) == loB (up (List.length (ann x) - Int.toNat (0 : Int)) (ann x) (Int.toNat (0 : Int))) (Y % (2000 : Int)) (IntKind.wrap IntKind.i64 ((1 : Int) + V % (500 : Int))) (q % (50000 : Int)) (IntKind.wrap IntKind.i64 (u % IntKind.wrap IntKind.i64 (vol (up (List.length (ann x) - Int.toNat (0 : Int)) (ann x) (Int.toNat (0 : Int))) + (1 : Int)) + w % IntKind.wrap IntKind.i64 (IntKind.wrap IntKind.i64 (vol (up (List.length (ann x) - Int.toNat (0 : Int)) (ann x) (Int.toNat (0 : Int))) - u % IntKind.wrap IntKind.i64 (vol (up (List.length (ann x) - Int.toNat (0 : Int)) (ann x) (Int.toNat (0 : Int))) + (1 : Int))) + (1 : Int)))))
    (.leaf (.bool (false)))
    (.br (!loB (up (List.length (ann x) - Int.toNat (0 : Int)) (ann x) (Int.toNat (0 : Int))) (Y % (2000 : Int)) (IntKind.wrap IntKind.i64 ((1 : Int) + V % (500 : Int))) (q % (50000 : Int)) (u % IntKind.wrap IntKind.i64 (vol (up (List.length (ann x) - Int.toNat (0 : Int)) (ann x) (Int.toNat (0 : Int))) + (1 : Int))) == loB (up (List.length (ann x) - Int.toNat (0 : Int)) (ann x) (Int.toNat (0 : Int))) (Y % (2000 : Int)) (IntKind.wrap IntKind.i64 ((1 : Int) + V % (500 : Int))) (q % (50000 : Int)) (vol (up (List.length (ann x) - Int.toNat (0 : Int)) (ann x) (Int.toNat (0 : Int)))))
     (.leaf (.bool (false)))
     (.br (!loB (up (List.length (ann x) - Int.toNat (0 : Int)) (ann x) (Int.toNat (0 : Int))) (Y % (2000 : Int)) (IntKind.wrap IntKind.i64 ((1 : Int) + V % (500 : Int))) (q % (50000 : Int)) (u % IntKind.wrap IntKind.i64 (vol (up (List.length (ann x) - Int.toNat (0 : Int)) (ann x) (Int.toNat (0 : Int))) + (1 : Int))))
      (.leaf (.bool (true)))
      (.br (decide (loL (up (List.length (ann x) - Int.toNat (0 : Int)) (ann x) (Int.toNat (0 : Int))) (Y % (2000 : Int)) (IntKind.wrap IntKind.i64 ((1 : Int) + V % (500 : Int))) (q % (50000 : Int)) (u % IntKind.wrap IntKind.i64 (vol (up (List.length (ann x) - Int.toNat (0 : Int)) (ann x) (Int.toNat (0 : Int))) + (1 : Int))) ≥ loL (up (List.length (ann x) - Int.toNat (0 : Int)) (ann x) (Int.toNat (0 : Int))) (Y % (2000 : Int)) (IntKind.wrap IntKind.i64 ((1 : Int) + V % (500 : Int))) (q % (50000 : Int)) (IntKind.wrap IntKind.i64 (u % IntKind.wrap IntKind.i64 (vol (up (List.length (ann x) - Int.toNat (0 : Int)) (ann x) (Int.toNat (0 : Int))) + (1 : Int)) + w % IntKind.wrap IntKind.i64 (IntKind.wrap IntKind.i64 (vol (up (List.length (ann x) - Int.toNat (0 : Int)) (ann x) (Int.toNat (0 : Int))) - u % IntKind.wrap IntKind.i64 (vol (up (List.length (ann x) - Int.toNat (0 : Int)) (ann x) (Int.toNat (0 : Int))) + (1 : Int))) + (1 : Int))))))
       (.br (decide (loH (up (List.length (ann x) - Int.toNat (0 : Int)) (ann x) (Int.toNat (0 : Int))) (Y % (2000 : Int)) (IntKind.wrap IntKind.i64 ((1 : Int) + V % (500 : Int))) (q % (50000 : Int)) (u % IntKind.wrap IntKind.i64 (vol (up (List.length (ann x) - Int.toNat (0 : Int)) (ann x) (Int.toNat (0 : Int))) + (1 : Int))) ≥ loH (up (List.length (ann x) - Int.toNat (0 : Int)) (ann x) (Int.toNat (0 : Int))) (Y % (2000 : Int)) (IntKind.wrap IntKind.i64 ((1 : Int) + V % (500 : Int))) (q % (50000 : Int)) (IntKind.wrap IntKind.i64 (u % IntKind.wrap IntKind.i64 (vol (up (List.length (ann x) - Int.toNat (0 : Int)) (ann x) (Int.toNat (0 : Int))) + (1 : Int)) + w % IntKind.wrap IntKind.i64 (IntKind.wrap IntKind.i64 (vol (up (List.length (ann x) - Int.toNat (0 : Int)) (ann x) (Int.toNat (0 : Int))) - u % IntKind.wrap IntKind.i64 (vol (up (List.length (ann x) - Int.toNat (0 : Int)) (ann x) (Int.toNat (0 : Int))) + (1 : Int))) + (1 : Int))))))
        (.br (decide (loL (up (List.length (ann x) - Int.toNat (0 : Int)) (ann x) (Int.toNat (0 : Int))) (Y % (2000 : Int)) (IntKind.wrap IntKind.i64 ((1 : Int) + V % (500 : Int))) (q % (50000 : Int)) (u % IntKind.wrap IntKind.i64 (vol (up (List.length (ann x) - Int.toNat (0 : Int)) (ann x) (Int.toNat (0 : Int))) + (1 : Int))) ≤ loH (up (List.length (ann x) - Int.toNat (0 : Int)) (ann x) (Int.toNat (0 : Int))) (Y % (2000 : Int)) (IntKind.wrap IntKind.i64 ((1 : Int) + V % (500 : Int))) (q % (50000 : Int)) (u % IntKind.wrap IntKind.i64 (vol (up (List.length (ann x) - Int.toNat (0 : Int)) (ann x) (Int.toNat (0 : Int))) + (1 : Int)))))
         (.br (decide (loL (up (List.length (ann x) - Int.toNat (0 : Int)) (ann x) (Int.toNat (0 : Int))) (Y % (2000 : Int)) (IntKind.wrap IntKind.i64 ((1 : Int) + V % (500 : Int))) (q % (50000 : Int)) (IntKind.wrap IntKind.i64 (u % IntKind.wrap IntKind.i64 (vol (up (List.length (ann x) - Int.toNat (0 : Int)) (ann x) (Int.toNat (0 : Int))) + (1 : Int)) + w % IntKind.wrap IntKind.i64 (IntKind.wrap IntKind.i64 (vol (up (List.length (ann x) - Int.toNat (0 : Int)) (ann x) (Int.toNat (0 : Int))) - u % IntKind.wrap IntKind.i64 (vol (up (List.length (ann x) - Int.toNat (0 : Int)) (ann x) (Int.toNat (0 : Int))) + (1 : Int))) + (1 : Int)))) ≥ (0 : Int)))
          (.br (loL (up (List.length (ann x) - Int.toNat (0 : Int)) (ann x) (Int.toNat (0 : Int))) (Y % (2000 : Int)) (IntKind.wrap IntKind.i64 ((1 : Int) + V % (500 : Int))) (q % (50000 : Int)) (vol (up (List.length (ann x) - Int.toNat (0 : Int)) (ann x) (Int.toNat (0 : Int)))) == (0 : Int) && (loH (up (List.length (ann x) - Int.toNat (0 : Int)) (ann x) (Int.toNat (0 : Int))) (Y % (2000 : Int)) (IntKind.wrap IntKind.i64 ((1 : Int) + V % (500 : Int))) (q % (50000 : Int)) (vol (up (List.length (ann x) - Int.toNat (0 : Int)) (ann x) (Int.toNat (0 : Int)))) == (0 : Int) && true))
           (.leaf (.bool (true)))
           (.leaf (.bool (false))))
          (.leaf (.bool (false))))
         (.leaf (.bool (false))))
        (.leaf (.bool (false))))
       (.leaf (.bool (false)))))))))))))))))))))))) := by kernel_rfl
theorem fluidLosses_proved : Rows.FluidLossesSaid := fluidLosses_said fun x m q u w hx hm hq hu hw => fact_run ctFL_ok ll16 (ts := [4]) rfl (by
  show (runX ctFL (llOfN Try.prog E 16 0 [(3, c16)]) 16 [.sl 2 x false, .agg [i64 m.Yield, i64 m.Visc], i64 q, i64 u, i64 w] [4]).holds _
  rw [tvFL]
  obtain ⟨hb, l0, l5⟩ := ann_b x
  have eM : up ((ann x).length - Int.toNat 0) (ann x) (Int.toNat 0) = (ann x).map mg := up_map _ _ 0 (by show (ann x).length = 0 + ((ann x).length - 0); omega)
  rw [eM]
  have hI : inB (ann x) 0 := fun s hs => by
    have := hb s (mem_drop hs)
    omega
  have hm := mg_b hb
  have ln : ((ann x).map mg).length = (ann x).length := List.length_map ..
  generalize (ann x).map mg = M at hm ln
  obtain ⟨e, v, v1, v2, hin⟩ := mgB_E hm (by omega) (by omega)
  refine ⟨trivial, rfl, ⟨⟨by decide, by omega, l5⟩, hI⟩, ⟨by decide, by decide⟩, ⟨by decide, by decide⟩, ⟨by decide, by decide⟩, rfl, hin, way (fun c => absurd c (by omega)) fun _ => ?_⟩
  rw [i64_in' (n := vol M + 1) (by omega) (by omega)]
  have a0 := Int.emod_nonneg u (b := vol M + 1) (by omega)
  have a1 := Int.emod_lt_of_pos u (b := vol M + 1) (by omega)
  generalize u % (vol M + 1) = U at a0 a1
  rw [i64_in' (n := vol M - U) (by omega) (by omega), i64_in' (n := vol M - U + 1) (by omega) (by omega)]
  have b0 := Int.emod_nonneg w (b := vol M - U + 1) (by omega)
  have b1 := Int.emod_lt_of_pos w (b := vol M - U + 1) (by omega)
  generalize w % (vol M - U + 1) = G at b0 b1
  rw [i64_in' (n := U + G) (by omega) (by omega)]
  generalize m.Yield % 2000 = Y
  generalize IntKind.wrap IntKind.i64 (1 + m.Visc % 500) = W
  generalize q % 50000 = Q
  unfold loL loH
  rw [lo_in e (u := U) a0 (by omega), lo_in e (u := U + G) (by omega) (by omega), lo_in e (u := vol M) (by omega) (by omega)]
  refine ⟨⟨by omega, by omega⟩, ⟨by omega, by omega⟩, rfl, hin, rfl, hin, rfl, hin, ?_⟩
  have an := ls_anti (Y := Y) (W := W) (q := Q) (show U ≤ U + G by omega) (low := 0) hm (Int.le_refl 0) (Int.le_refl 0)
  have le := ls_le (Y := Y) (W := W) (q := Q) (u := U) (low := 0) hm (Int.le_refl 0)
  have nn := ls_nn (Y := Y) (W := W) (q := Q) (u := U + G) (low := 0) hm (Int.le_refl 0)
  have zz := ls_0 (Y := Y) (W := W) (q := Q) (u := vol M) (low := 0) (a := 0) (b := 0) hm (by omega)
  rw [zz.1, zz.2]
  cases k : lsB Y W Q M with
  | false => exact ⟨fun h => by simp at h, fun _ => ⟨fun h => by simp at h, fun _ => ⟨fun _ => rfl, fun h => by simp at h⟩⟩⟩
  | true =>
    rw [if_pos rfl, if_pos rfl, if_pos rfl]
    refine ⟨fun h => by simp at h, fun _ => ⟨fun h => by simp at h, fun _ => ⟨fun h => by simp at h, fun _ => ?_⟩⟩⟩
    exact way (fun _ => way (fun _ => way (fun _ => way (fun _ => ⟨fun _ => rfl, fun h => by simp at h⟩) fun c => absurd nn c) fun c => absurd le c) fun c => absurd an.2 c) fun c => absurd an.1 c)
end Go.Proofs.Ytnhedcaphncliaa.W.Hole
end
