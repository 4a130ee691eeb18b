/- FluidGas: whatever the gas and the pressure, what is free, its space and its bubble point are the same. -/
import Derived.Test.YtnhedcaphncliaaE
import Derived.Test.YtnhedcaphncliaaW
import Derived.Test.YtnhedcaphncliaaLFluidGas
set_option linter.unusedVariables false
set_option maxRecDepth 100000
noncomputable section
namespace Go.Proofs.Ytnhedcaphncliaa.W
open Go Go.Cx Go.RowKit
noncomputable def bubV (x : Gas) : Int := if hasB x then bub x else 0
@[reducible] noncomputable def bubbled (x : Gas) : AV T := .tup [i64 (bubV x), .bool (decide (hasB x))]
theorem bb_in {x : Gas} (h : hasB x) {n : Int} (hn : n = bub x) : AV.tup [.sym .i64 n, .bool true] = bubbled x := by
  unfold bubbled bubV
  rw [if_pos h, decide_eq_true h, hn]
theorem bb_out {x : Gas} (h : ¬ hasB x) : AV.tup [.sym .i64 (0 : Int), .bool false] = bubbled x := by
  unfold bubbled bubV
  rw [if_neg h, decide_eq_false h]
theorem t46 (x : Gas) : runX ctG (llOfN Try.prog E 79 2 [(3, c79)]) 46 [x.av] [2, 4] =
  (.br (within (Gas.K x) (0 : Int) (1152921504606846976 : Int))
   (.br (!within (Gas.Power x) (0 : Int) (1099511627776 : Int))
    (.leaf (.tup [.sym .i64 ((0 : Int)), .bool (false)]))
    (.br (!free (Gas.mk (Gas.K x) (Gas.Power x)) (68719476736 : Int) == (0 : Int))
     (.leaf (.tup [.sym .i64 ((0 : Int)), .bool (false)]))
     (.req (hasB (Gas.mk (Gas.K x) (Gas.Power x)) ∧ (1 : Int) ≤ (1 : Int) ∧ (1 : Int) ≤ bub (Gas.mk (Gas.K x) (Gas.Power x)) ∧ bub (Gas.mk (Gas.K x) (Gas.Power x)) ≤ (68719476736 : Int) ∧ (68719476736 : Int) ≤ (68719476736 : Int))
     (.leaf (.tup [.sym .i64 (bub (Gas.mk (Gas.K x) (Gas.Power x))), .bool (true)])))))
   (.leaf (.tup [.sym .i64 ((0 : Int)), .bool (false)]))) := by kernel_rfl
theorem t47 (x : Gas) : runX ctG (llOf Try.prog E 47 [(6, c47)]) 47 [x.av] [2, 4] =
  (.br (decide (Gas.K x ≥ (0 : Int)))
   (.br (decide (Gas.K x ≤ (1152921504606846976 : Int)))
    (.br (decide (Gas.Power x ≥ (0 : Int)))
     (.br (!decide (Gas.Power x ≤ (1099511627776 : Int)))
      (.leaf (.tup [.sym .i64 ((0 : Int)), .bool (false)]))
      (.br (Gas.K x == (0 : Int))
       (.leaf (.tup [.sym .i64 ((1 : Int)), .bool (true)]))
       (.req ((okG (Gas.mk (Gas.K x) (Gas.Power x)) ∧ Gas.K x ≠ (0 : Int)) ∧ ((1 : Int) ≤ (1 : Int) ∧ (1 : Int) ≤ (65537 : Int)) ∧ (hasB (Gas.mk (Gas.K x) (Gas.Power x)) → (1 : Int) ≤ bubN (Gas.mk (Gas.K x) (Gas.Power x))))
       (.br (decide (hasB (Gas.mk (Gas.K x) (Gas.Power x))))
        (.leaf (.tup [.sym .i64 (bub (Gas.mk (Gas.K x) (Gas.Power x))), .bool (true)]))
        (.leaf (.tup [.sym .i64 ((0 : Int)), .bool (false)]))))))
     (.leaf (.tup [.sym .i64 ((0 : Int)), .bool (false)])))
    (.leaf (.tup [.sym .i64 ((0 : Int)), .bool (false)])))
   (.leaf (.tup [.sym .i64 ((0 : Int)), .bool (false)]))) := by kernel_rfl
theorem max_free {x : Gas} (h : okG x) : free x 68719476736 = 0 ↔ hasB x := by
  rw [free_zero ⟨h, by decide, by decide⟩, show (68719476736 : Int) / 1048576 = 65536 by decide]
  exact ⟨fun k => ⟨h, k⟩, fun k => k.2⟩
theorem h46 (x : Gas) : (runX ctG (llOfN Try.prog E 79 2 [(3, c79)]) 46 [x.av] [2, 4]).holds fun v => v = bubbled x := by
  rw [t46]
  refine way (fun k1 => wayN (fun k => bb_out fun h => k h.1.2) fun k2 => wayNEq (fun k => bb_out fun h => k ((max_free h.1).2 h)) fun k => ?_) fun k => bb_out fun h => k h.1.1
  have h : hasB x := (max_free ⟨k1, k2⟩).1 k
  have hb := bub_bd h
  exact ⟨⟨h, by decide, hb.1, hb.2, by decide⟩, bb_in h rfl⟩
theorem h47a (x : Gas) : (runX ctG (llOf Try.prog E 47 [(6, c47)]) 47 [x.av] [2, 4]).holds fun v => v = bubbled x := by
  rw [t47]
  refine way (fun k1 => way (fun k2 => way (fun k3 => wayN (fun k => bb_out fun h => k h.1.2.2) fun k4 => wayEq (fun k => ?_) fun k => ?_) fun k => bb_out fun h => k h.1.2.1) fun k => bb_out fun h => k h.1.1.2) fun k => bb_out fun h => k h.1.1.1
  · have m := Int.mul_nonneg k3 (show (0 : Int) ≤ 65536 by decide)
    have h : hasB x := ⟨⟨⟨k1, k2⟩, k3, k4⟩, by omega⟩
    exact bb_in h (by unfold bub; rw [if_pos k])
  · have hg : okG x := ⟨⟨k1, k2⟩, k3, k4⟩
    refine ⟨⟨⟨hg, k⟩, ⟨by decide, by decide⟩, fun h => ?_⟩, way (fun h => bb_in h rfl) fun h => bb_out h⟩
    have h : hasB x := h
    have hb := (bub_bd h).1
    unfold bub at hb
    rw [if_neg k] at hb
    show (1 : Int) ≤ bubN x
    omega
noncomputable def cBubble : Con T := conV Try.prog [shG] [.n, .n] fun d => bubbled ⟨d.1, d.2.1⟩
theorem bubble_ok : ConOk Try.prog E 46 cBubble := conV_ok fun d => fact_run ctG_ok ll79 (ts := [2, 4]) rfl (h46 ⟨d.1, d.2.1⟩)
theorem bubble2_ok : ConOk Try.prog E 47 cBubble := conV_ok fun d => fact_run ctG_ok ll47 (ts := [2, 4]) rfl (h47a ⟨d.1, d.2.1⟩)
/-! ### Spaces -/
@[reducible] noncomputable def space (x : Gas) (p : Int) : AV T := .agg [i64 (if 1 ≤ p ∧ p ≤ 68719476736 then free x p / p else 0), i64 (if 1 ≤ p ∧ p ≤ 68719476736 then -(-free x p / p) else 0)]
theorem sp_in {x : Gas} {p a b : Int} (h : 1 ≤ p ∧ p ≤ 68719476736) (h1 : a = free x p / p) (h2 : b = -(-free x p / p)) : AV.agg [.sym .i64 a, .sym .i64 b] = space x p := by
  unfold space
  rw [if_pos h, if_pos h, h1, h2]
theorem sp_out {x : Gas} {p : Int} (h : ¬ okF x p) : AV.agg [.sym .i64 (0 : Int), .sym .i64 (0 : Int)] = space x p := by
  have e : free x p = 0 := by unfold free; rw [if_neg h]
  unfold space
  rw [e]
  split <;> simp
theorem t50 (x : Gas) (p : Int) : runX ctG noLoops 50 [x.av, i64 p] [42] =
  (.br (!within p (1 : Int) (68719476736 : Int))
   (.leaf (.agg [.sym .i64 ((0 : Int)), .sym .i64 ((0 : Int))]))
   (.req (qPre (free (Gas.mk (Gas.K x) (Gas.Power x)) p) p)
   (.req (qPre (free (Gas.mk (Gas.K x) (Gas.Power x)) p) p)
   (.leaf (.agg [.sym .i64 (free (Gas.mk (Gas.K x) (Gas.Power x)) p / p), .sym .i64 (-(-free (Gas.mk (Gas.K x) (Gas.Power x)) p / p))]))))) := by kernel_rfl
theorem t51 (x : Gas) (p : Int) : runX ctG noLoops 51 [x.av, i64 p] [42] =
  (.br (decide (Gas.K x ≥ (0 : Int)))
   (.br (decide (Gas.K x ≤ (1152921504606846976 : Int)))
    (.br (decide (Gas.Power x ≥ (0 : Int)))
     (.br (!decide (Gas.Power x ≤ (1099511627776 : Int)))
      (.leaf (.agg [.sym .i64 ((0 : Int)), .sym .i64 ((0 : Int))]))
      (.br (decide (p < (1 : Int)))
       (.leaf (.agg [.sym .i64 ((0 : Int)), .sym .i64 ((0 : Int))]))
       (.br (decide (p > (68719476736 : Int)))
        (.leaf (.agg [.sym .i64 ((0 : Int)), .sym .i64 ((0 : Int))]))
        (.req (decide (p ≠ (0 : Int)) = true)
        (.req (decide (p ≠ (0 : Int)) = true)
        (.leaf (.agg [.sym .i64 (IntKind.wrap IntKind.i64 (Int.tdiv (free (Gas.mk (Gas.K x) (Gas.Power x)) p) p)), .sym .i64 (IntKind.wrap IntKind.i64 (Int.tdiv (IntKind.wrap IntKind.i64 (IntKind.wrap IntKind.i64 (free (Gas.mk (Gas.K x) (Gas.Power x)) p + p) - (1 : Int))) p))])))))))
     (.leaf (.agg [.sym .i64 ((0 : Int)), .sym .i64 ((0 : Int))])))
    (.leaf (.agg [.sym .i64 ((0 : Int)), .sym .i64 ((0 : Int))])))
   (.leaf (.agg [.sym .i64 ((0 : Int)), .sym .i64 ((0 : Int))]))) := by kernel_rfl
theorem h50 (x : Gas) (p : Int) : (runX ctG noLoops 50 [x.av, i64 p] [42]).holds fun v => v = space x p := by
  rw [t50]
  refine wayN (fun k => sp_out fun h => k h.2) fun k => ?_
  have hb := free_bd x p
  have q : qPre (free x p) p := ⟨by omega, by omega, by omega⟩
  exact ⟨q, q, sp_in k rfl rfl⟩
theorem h51 (x : Gas) (p : Int) : (runX ctG noLoops 51 [x.av, i64 p] [42]).holds fun v => v = space x p := by
  rw [t51]
  refine way (fun k1 => way (fun k2 => way (fun k3 => wayN (fun k => sp_out (by omega)) fun k4 => way (fun k => sp_out (by omega)) fun k5 => way (fun k => sp_out (by omega)) fun k6 => ?_) fun k => sp_out (by omega)) fun k => sp_out (by omega)) fun k => sp_out (by omega)
  have hb := free_bd x p
  show (Tree.req (decide (p ≠ (0 : Int)) = true) (Tree.req (decide (p ≠ (0 : Int)) = true) (.leaf (.agg [.sym .i64 (IntKind.wrap IntKind.i64 (Int.tdiv (free x p) p)), .sym .i64 (IntKind.wrap IntKind.i64 (Int.tdiv (IntKind.wrap IntKind.i64 (IntKind.wrap IntKind.i64 (free x p + p) - (1 : Int))) p))]))) : Tree (AV T)).holds _
  have hp : 0 < p := by omega
  have d1 := divb (a := free x p) (b := p) (m := 1152921504606846976) hp (by omega) (by omega)
  have d2 := divb (a := -free x p) (b := p) (m := 1152921504606846976) hp (by omega) (by omega)
  have e1 : Int.tdiv (free x p) p = free x p / p := Int.tdiv_eq_ediv_of_nonneg hb.1
  have e2 : Int.tdiv (free x p + p - 1) p = -(-free x p / p) := up_eq hb.1 hp
  have w1 : IntKind.wrap IntKind.i64 (free x p + p) = free x p + p := i64_in' (by omega) (by omega)
  have w2 : IntKind.wrap IntKind.i64 (free x p + p - 1) = free x p + p - 1 := i64_in' (by omega) (by omega)
  have w3 : IntKind.wrap IntKind.i64 (free x p / p) = free x p / p := i64_in' (by omega) (by omega)
  have w4 : IntKind.wrap IntKind.i64 (-(-free x p / p)) = -(-free x p / p) := i64_in' (by omega) (by omega)
  rw [w1, w2, e1, e2, w3, w4]
  exact ⟨decide_eq_true (by omega), decide_eq_true (by omega), sp_in ⟨by omega, by omega⟩ rfl rfl⟩
noncomputable def cSpace : Con T := conV Try.prog [shG, .one (.i .i64)] [.n, .n, .n] fun d => space ⟨d.1, d.2.1⟩ d.2.2.1
theorem space_ok : ConOk Try.prog E 50 cSpace := conV_ok fun d => fact_run ctG_ok noLoops_ok (ts := [42]) rfl (h50 ⟨d.1, d.2.1⟩ _)
theorem space2_ok : ConOk Try.prog E 51 cSpace := conV_ok fun d => fact_run ctG_ok noLoops_ok (ts := [42]) rfl (h51 ⟨d.1, d.2.1⟩ _)
noncomputable abbrev ctH : CTab T := [(19, cAwake), (46, cBubble), (47, cBubble), (48, cFree), (49, cFree), (50, cSpace), (51, cSpace)]
theorem ctH_ok : CTabOk Try.prog E ctH := .cons awake_ok (.cons bubble_ok (.cons bubble2_ok (.cons free_ok (.cons free2_ok (.cons space_ok (.cons space2_ok .nil))))))
end Go.Proofs.Ytnhedcaphncliaa.W
