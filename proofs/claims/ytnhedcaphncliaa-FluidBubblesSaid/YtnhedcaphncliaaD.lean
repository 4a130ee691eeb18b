/- FluidGas: what is free, and its space. -/
import Derived.Test.YtnhedcaphncliaaB
set_option linter.unusedVariables false
set_option maxRecDepth 100000
noncomputable section
namespace Go.Proofs.Ytnhedcaphncliaa.W
open Go Go.Cx Go.RowKit
@[reducible] def okG (x : Gas) : Prop := (0 ≤ x.K ∧ x.K ≤ 1152921504606846976) ∧ (0 ≤ x.Power ∧ x.Power ≤ 1099511627776)
@[reducible] def okF (x : Gas) (p : Int) : Prop := okG x ∧ 1 ≤ p ∧ p ≤ 68719476736
noncomputable def free (x : Gas) (p : Int) : Int := if okF x p then (if x.K - x.Power * (p / 1048576) > 0 then x.K - x.Power * (p / 1048576) else 0) else 0
theorem t84 (x : Gas) : runX ctA noLoops 84 [x.av] [4] =
  (.br (within (Gas.K x) (0 : Int) (1152921504606846976 : Int))
   (.leaf (.bool (within (Gas.Power x) (0 : Int) (1099511627776 : Int))))
   (.leaf (.bool (false)))) := by kernel_rfl
theorem t86 (x : Gas) : runX ctA noLoops 86 [x.av] [4] =
  (.br (decide (Gas.K x ≥ (0 : Int)))
   (.br (decide (Gas.K x ≤ (1152921504606846976 : Int)))
    (.br (decide (Gas.Power x ≥ (0 : Int)))
     (.leaf (.bool (decide (Gas.Power x ≤ (1099511627776 : Int)))))
     (.leaf (.bool (false))))
    (.leaf (.bool (false))))
   (.leaf (.bool (false)))) := by kernel_rfl
theorem t48 (x : Gas) (p : Int) : runX ctA noLoops 48 [x.av, i64 p] [2] =
  (.br (within (Gas.K x) (0 : Int) (1152921504606846976 : Int))
   (.br (!within (Gas.Power x) (0 : Int) (1099511627776 : Int))
    (.leaf (.sym .i64 ((0 : Int))))
    (.br (!within p (1 : Int) (68719476736 : Int))
     (.leaf (.sym .i64 ((0 : Int))))
     (.leaf (.sym .i64 (bif true then if IntKind.wrap IntKind.i64 (Gas.K x - IntKind.wrap IntKind.i64 (Gas.Power x * Int.fdiv p (1048576 : Int))) > (0 : Int) then IntKind.wrap IntKind.i64 (Gas.K x - IntKind.wrap IntKind.i64 (Gas.Power x * Int.fdiv p (1048576 : Int))) else (0 : Int) else if IntKind.wrap IntKind.i64 (Gas.K x - IntKind.wrap IntKind.i64 (Gas.Power x * Int.fdiv p (1048576 : Int))) < (0 : Int) then IntKind.wrap IntKind.i64 (Gas.K x - IntKind.wrap IntKind.i64 (Gas.Power x * Int.fdiv p (1048576 : Int))) else (0 : Int))))))
   (.leaf (.sym .i64 ((0 : Int))))) := by kernel_rfl
theorem t49 (x : Gas) (p : Int) : runX ctA noLoops 49 [x.av, i64 p] [2] =
  (.br (decide (Gas.K x ≥ (0 : Int)))
   (.br (decide (Gas.K x ≤ (1152921504606846976 : Int)))
    (.br (decide (Gas.Power x ≥ (0 : Int)))
     (.br (!decide (Gas.Power x ≤ (1099511627776 : Int)))
      (.leaf (.sym .i64 ((0 : Int))))
      (.br (decide (p < (1 : Int)))
       (.leaf (.sym .i64 ((0 : Int))))
       (.br (decide (p > (68719476736 : Int)))
        (.leaf (.sym .i64 ((0 : Int))))
        (.leaf (.sym .i64 (bif true then if IntKind.wrap IntKind.i64 (Gas.K x - IntKind.wrap IntKind.i64 (Gas.Power x * Int.fdiv p (1048576 : Int))) > (0 : Int) then IntKind.wrap IntKind.i64 (Gas.K x - IntKind.wrap IntKind.i64 (Gas.Power x * Int.fdiv p (1048576 : Int))) else (0 : Int) else if IntKind.wrap IntKind.i64 (Gas.K x - IntKind.wrap IntKind.i64 (Gas.Power x * Int.fdiv p (1048576 : Int))) < (0 : Int) then IntKind.wrap IntKind.i64 (Gas.K x - IntKind.wrap IntKind.i64 (Gas.Power x * Int.fdiv p (1048576 : Int))) else (0 : Int)))))))
     (.leaf (.sym .i64 ((0 : Int)))))
    (.leaf (.sym .i64 ((0 : Int)))))
   (.leaf (.sym .i64 ((0 : Int))))) := by kernel_rfl
theorem gas_bd {x : Gas} {p : Int} (h : okF x p) : 0 ≤ x.Power * (p / 1048576) ∧ x.Power * (p / 1048576) ≤ 1099511627776 * 65536 := mulb (by omega) (by omega) (by omega) (by omega)
theorem free_in {x : Gas} {p n : Int} (h : okF x p) (hn : n = if x.K - x.Power * (p / 1048576) > 0 then x.K - x.Power * (p / 1048576) else 0) : i64 n = i64 (free x p) := by unfold free; rw [if_pos h, hn]
theorem free_out {x : Gas} {p : Int} (h : ¬ okF x p) : i64 0 = i64 (free x p) := by unfold free; rw [if_neg h]
theorem free_bd (x : Gas) (p : Int) : 0 ≤ free x p ∧ free x p ≤ 1152921504606846976 := by
  unfold free
  split
  · rename_i h
    have := gas_bd h
    split <;> omega
  · omega
theorem h48 (x : Gas) (p : Int) : (runX ctA noLoops 48 [x.av, i64 p] [2]).holds fun v => v = i64 (free x p) := by
  rw [t48]
  refine way (fun k1 => wayN (fun k => free_out (by omega)) fun k2 => wayN (fun k => free_out (by omega)) fun k3 => ?_) fun k => free_out (by omega)
  have h : okF x p := ⟨⟨k1, k2⟩, k3⟩
  have hb := gas_bd h
  rw [Int.fdiv_eq_ediv_of_nonneg _ (by decide)]
  simp (disch := omega) only [i64_in']
  exact free_in h rfl
theorem h49 (x : Gas) (p : Int) : (runX ctA noLoops 49 [x.av, i64 p] [2]).holds fun v => v = i64 (free x p) := by
  rw [t49]
  refine way (fun k1 => way (fun k2 => way (fun k3 => wayN (fun k => free_out (by omega)) fun k4 => way (fun k => free_out (by omega)) fun k5 => way (fun k => free_out (by omega)) fun k6 => ?_) fun k => free_out (by omega)) fun k => free_out (by omega)) fun k => free_out (by omega)
  have h : okF x p := ⟨⟨⟨k1, k2⟩, k3, k4⟩, by omega, by omega⟩
  have hb := gas_bd h
  rw [Int.fdiv_eq_ediv_of_nonneg _ (by decide)]
  simp (disch := omega) only [i64_in']
  exact free_in h rfl
@[reducible] def shG : Sh := .agg [.i .i64, .i .i64]
noncomputable def cFree : Con T := conV Try.prog [shG, .one (.i .i64)] [.n, .n, .n] fun d => i64 (free ⟨d.1, d.2.1⟩ d.2.2.1)
theorem free_ok : ConOk Try.prog E 48 cFree := conV_ok fun d => fact_run ctA_ok noLoops_ok (ts := [2]) rfl (h48 ⟨d.1, d.2.1⟩ _)
theorem free2_ok : ConOk Try.prog E 49 cFree := conV_ok fun d => fact_run ctA_ok noLoops_ok (ts := [2]) rfl (h49 ⟨d.1, d.2.1⟩ _)
end Go.Proofs.Ytnhedcaphncliaa.W
