/- FluidBubbles: under a greater pressure there is no more free gas, and it takes up no more space; at the bubble point nothing is free. No condition. -/
import Derived.Test.YtnhedcaphncliaaF
import Derived.Test.YtnhedcaphncliaaR
import Derived.Test.YtnhedcaphncliaaLFluidBubbles
set_option linter.unusedVariables false
set_option maxRecDepth 100000
noncomputable section
namespace Go.Proofs.Ytnhedcaphncliaa.W
open Go Go.Cx Go.RowKit
noncomputable abbrev ctBu : CTab T := (60, cMod) :: ctH
theorem ctBu_ok : CTabOk Try.prog E ctBu := .cons mod64_ok ctH_ok
theorem t17 (x : Gas) (p m : Int) : runX ctBu noLoops 17 [x.av, i64 p, i64 m] [4] =
  (.req (mPre (Gas.K x) (1152921504606846976 : Int))
  (.req (mPre (Gas.Power x) (1099511627776 : Int))
  (.req (mPre p (34359738368 : Int))
  (.req (mPre m (34359738368 : Int))
  (.br (decide (free (Gas.mk (Gas.K x % (1152921504606846976 : Int)) (Gas.Power x % (1099511627776 : Int))) (IntKind.wrap IntKind.i64 (IntKind.wrap IntKind.i64 ((1 : Int) + p % (34359738368 : Int)) + m % (34359738368 : Int))) > free (Gas.mk (Gas.K x % (1152921504606846976 : Int)) (Gas.Power x % (1099511627776 : Int))) (IntKind.wrap IntKind.i64 ((1 : Int) + p % (34359738368 : Int)))))
   (.leaf (.bool (false)))
   (.br (decide ((if (1 : Int) ≤ IntKind.wrap IntKind.i64 (IntKind.wrap IntKind.i64 ((1 : Int) + p % (34359738368 : Int)) + m % (34359738368 : Int)) ∧ IntKind.wrap IntKind.i64 (IntKind.wrap IntKind.i64 ((1 : Int) + p % (34359738368 : Int)) + m % (34359738368 : Int)) ≤ (68719476736 : Int) then free (Gas.mk (Gas.K x % (1152921504606846976 : Int)) (Gas.Power x % (1099511627776 : Int))) (IntKind.wrap IntKind.i64 (IntKind.wrap IntKind.i64 ((1 : Int) + p % (34359738368 : Int)) + m % (34359738368 : Int))) / IntKind.wrap IntKind.i64 (IntKind.wrap IntKind.i64 ((1 : Int) + p % (34359738368 : Int)) + m % (34359738368 : Int)) else (0 : Int)) > if (1 : Int) ≤ IntKind.wrap IntKind.i64 ((1 : Int) + p % (34359738368 : Int)) ∧ IntKind.wrap IntKind.i64 ((1 : Int) + p % (34359738368 : Int)) ≤ (68719476736 : Int) then free (Gas.mk (Gas.K x % (1152921504606846976 : Int)) (Gas.Power x % (1099511627776 : Int))) (IntKind.wrap IntKind.i64 ((1 : Int) + p % (34359738368 : Int))) / IntKind.wrap IntKind.i64 ((1 : Int) + p % (34359738368 : Int)) else (0 : Int)))
    (.leaf (.bool (false)))
    (.br (decide ((if (1 : Int) ≤ IntKind.wrap IntKind.i64 (IntKind.wrap IntKind.i64 ((1 : Int) + p % (34359738368 : Int)) + m % (34359738368 : Int)) ∧ IntKind.wrap IntKind.i64 (IntKind.wrap IntKind.i64 ((1 : Int) + p % (34359738368 : Int)) + m % (34359738368 : Int)) ≤ (68719476736 : Int) then -(-free (Gas.mk (Gas.K x % (1152921504606846976 : Int)) (Gas.Power x % (1099511627776 : Int))) (IntKind.wrap IntKind.i64 (IntKind.wrap IntKind.i64 ((1 : Int) + p % (34359738368 : Int)) + m % (34359738368 : Int))) / IntKind.wrap IntKind.i64 (IntKind.wrap IntKind.i64 ((1 : Int) + p % (34359738368 : Int)) + m % (34359738368 : Int))) else (0 : Int)) > if (1 : Int) ≤ IntKind.wrap IntKind.i64 ((1 : Int) + p % (34359738368 : Int)) ∧ IntKind.wrap IntKind.i64 ((1 : Int) + p % (34359738368 : Int)) ≤ (68719476736 : Int) then -(-free (Gas.mk (Gas.K x % (1152921504606846976 : Int)) (Gas.Power x % (1099511627776 : Int))) (IntKind.wrap IntKind.i64 ((1 : Int) + p % (34359738368 : Int))) / IntKind.wrap IntKind.i64 ((1 : Int) + p % (34359738368 : Int))) else (0 : Int)))
     (.leaf (.bool (false)))
     (.br (decide (IntKind.wrap IntKind.i64 ((if (1 : Int) ≤ IntKind.wrap IntKind.i64 ((1 : Int) + p % (34359738368 : Int)) ∧ IntKind.wrap IntKind.i64 ((1 : Int) + p % (34359738368 : Int)) ≤ (68719476736 : Int) then -(-free (Gas.mk (Gas.K x % (1152921504606846976 : Int)) (Gas.Power x % (1099511627776 : Int))) (IntKind.wrap IntKind.i64 ((1 : Int) + p % (34359738368 : Int))) / IntKind.wrap IntKind.i64 ((1 : Int) + p % (34359738368 : Int))) else (0 : Int)) - if (1 : Int) ≤ IntKind.wrap IntKind.i64 ((1 : Int) + p % (34359738368 : Int)) ∧ IntKind.wrap IntKind.i64 ((1 : Int) + p % (34359738368 : Int)) ≤ (68719476736 : Int) then free (Gas.mk (Gas.K x % (1152921504606846976 : Int)) (Gas.Power x % (1099511627776 : Int))) (IntKind.wrap IntKind.i64 ((1 : Int) + p % (34359738368 : Int))) / IntKind.wrap IntKind.i64 ((1 : Int) + p % (34359738368 : Int)) else (0 : Int)) > (1 : Int)))
      (.leaf (.bool (false)))
      (.br (decide ((if (1 : Int) ≤ IntKind.wrap IntKind.i64 ((1 : Int) + p % (34359738368 : Int)) ∧ IntKind.wrap IntKind.i64 ((1 : Int) + p % (34359738368 : Int)) ≤ (68719476736 : Int) then -(-free (Gas.mk (Gas.K x % (1152921504606846976 : Int)) (Gas.Power x % (1099511627776 : Int))) (IntKind.wrap IntKind.i64 ((1 : Int) + p % (34359738368 : Int))) / IntKind.wrap IntKind.i64 ((1 : Int) + p % (34359738368 : Int))) else (0 : Int)) < if (1 : Int) ≤ IntKind.wrap IntKind.i64 ((1 : Int) + p % (34359738368 : Int)) ∧ IntKind.wrap IntKind.i64 ((1 : Int) + p % (34359738368 : Int)) ≤ (68719476736 : Int) then free (Gas.mk (Gas.K x % (1152921504606846976 : Int)) (Gas.Power x % (1099511627776 : Int))) (IntKind.wrap IntKind.i64 ((1 : Int) + p % (34359738368 : Int))) / IntKind.wrap IntKind.i64 ((1 : Int) + p % (34359738368 : Int)) else (0 : Int)))
       (.leaf (.bool (false)))
       (.br (decide (free (Gas.mk (Gas.K x % (1152921504606846976 : Int)) (Gas.Power x % (1099511627776 : Int))) (IntKind.wrap IntKind.i64 ((1 : Int) + p % (34359738368 : Int))) > Gas.K x % (1152921504606846976 : Int)))
        (.leaf (.bool (false)))
        (.br (!decide (hasB (Gas.mk (Gas.K x % (1152921504606846976 : Int)) (Gas.Power x % (1099511627776 : Int)))))
         (.br (decide (free (Gas.mk (Gas.K x % (1152921504606846976 : Int)) (Gas.Power x % (1099511627776 : Int))) (68719476736 : Int) > (0 : Int)))
          (.leaf (.bool (true)))
          (.leaf (.bool (false))))
         (.br (free (Gas.mk (Gas.K x % (1152921504606846976 : Int)) (Gas.Power x % (1099511627776 : Int))) (bubV (Gas.mk (Gas.K x % (1152921504606846976 : Int)) (Gas.Power x % (1099511627776 : Int)))) == (0 : Int))
          (.br (free (Gas.mk (Gas.K x % (1152921504606846976 : Int)) (Gas.Power x % (1099511627776 : Int))) (bif false then if IntKind.wrap IntKind.i64 (bubV (Gas.mk (Gas.K x % (1152921504606846976 : Int)) (Gas.Power x % (1099511627776 : Int))) + m % (34359738368 : Int)) > (68719476736 : Int) then IntKind.wrap IntKind.i64 (bubV (Gas.mk (Gas.K x % (1152921504606846976 : Int)) (Gas.Power x % (1099511627776 : Int))) + m % (34359738368 : Int)) else (68719476736 : Int) else if IntKind.wrap IntKind.i64 (bubV (Gas.mk (Gas.K x % (1152921504606846976 : Int)) (Gas.Power x % (1099511627776 : Int))) + m % (34359738368 : Int)) < (68719476736 : Int) then IntKind.wrap IntKind.i64 (bubV (Gas.mk (Gas.K x % (1152921504606846976 : Int)) (Gas.Power x % (1099511627776 : Int))) + m % (34359738368 : Int)) else (68719476736 : Int)) == (0 : Int))
           (.br (bubV (Gas.mk (Gas.K x % (1152921504606846976 : Int)) (Gas.Power x % (1099511627776 : Int))) == (1 : Int))
            (.leaf (.bool (true)))
            (.br (decide (free (Gas.mk (Gas.K x % (1152921504606846976 : Int)) (Gas.Power x % (1099511627776 : Int))) (IntKind.wrap IntKind.i64 (bubV (Gas.mk (Gas.K x % (1152921504606846976 : Int)) (Gas.Power x % (1099511627776 : Int))) - (1 : Int))) > (0 : Int)))
             (.leaf (.bool (true)))
             (.leaf (.bool (false)))))
           (.leaf (.bool (false))))
          (.leaf (.bool (false))))))))))))))) := by kernel_rfl
theorem free_anti {x : Gas} {p q : Int} (h : okG x) (h1 : 1 ≤ p) (h2 : p ≤ q) (h3 : q ≤ 68719476736) : free x q ≤ free x p ∧ free x p ≤ x.K := by
  have e1 : free x q = _ := if_pos ⟨h, by omega, h3⟩
  have e2 : free x p = _ := if_pos ⟨h, h1, by omega⟩
  have m := Int.mul_le_mul_of_nonneg_left (Int.ediv_le_ediv (show (0 : Int) < 1048576 by decide) h2) h.2.1
  have m2 := Int.mul_nonneg h.2.1 (show 0 ≤ p / 1048576 by omega)
  rw [e1, e2]
  split <;> split <;> omega
theorem div_anti {f g p q : Int} (h0 : 0 ≤ g) (h1 : g ≤ f) (h2 : 0 < p) (h3 : p ≤ q) : g / q ≤ f / p := by
  refine Int.le_ediv_of_mul_le h2 ?_
  have a := Int.ediv_mul_le g (show q ≠ 0 by omega)
  have b := Int.mul_le_mul_of_nonneg_left h3 (Int.ediv_nonneg h0 (show 0 ≤ q by omega))
  omega
theorem up_le {f p : Int} (h2 : 0 < p) : f ≤ -(-f / p) * p ∧ -(-f / p) * p < f + p := by
  have a := Int.ediv_mul_le (-f) (show p ≠ 0 by omega)
  have b := Int.lt_ediv_add_one_mul_self (-f) h2
  rw [Int.add_mul, Int.one_mul] at b
  rw [Int.neg_mul]
  omega
theorem up_anti {f g p q : Int} (h0 : 0 ≤ g) (h1 : g ≤ f) (h2 : 0 < p) (h3 : p ≤ q) : -(-g / q) ≤ -(-f / p) := by
  have a := (up_le (f := f) h2).1
  have c : 0 ≤ -(-f / p) := by
    rcases Int.lt_or_le (-(-f / p)) 0 with h | h
    · have := Int.mul_neg_of_neg_of_pos h h2
      omega
    · exact h
  have b := Int.mul_le_mul_of_nonneg_left h3 c
  have d : -f / p * q ≤ -g := by
    have : -(-f / p) * q = -(-f / p * q) := Int.neg_mul ..
    omega
  have := Int.le_ediv_of_mul_le (show 0 < q by omega) d
  omega
theorem up_down {f p : Int} (h2 : 0 < p) : f / p ≤ -(-f / p) ∧ -(-f / p) ≤ f / p + 1 := by
  have a := up_le (f := f) h2
  have b := Int.ediv_mul_le f (show p ≠ 0 by omega)
  have c := Int.lt_ediv_add_one_mul_self f h2
  have k1 : f / p * p < (-(-f / p) + 1) * p := by rw [Int.add_mul, Int.one_mul]; omega
  have k2 : -(-f / p) * p < (f / p + 1 + 1) * p := by rw [Int.add_mul (f / p + 1), Int.one_mul]; omega
  have j1 := Int.lt_of_mul_lt_mul_right k1 (by omega)
  have j2 := Int.lt_of_mul_lt_mul_right k2 (by omega)
  omega
theorem fluidBubbles_proved : Rows.FluidBubblesSaid := fluidBubbles_said fun x p m _ _ _ => fact_run ctBu_ok noLoops_ok (ts := [4]) rfl (by
  rw [t17]
  have hg : okG ⟨x.K % 1152921504606846976, x.Power % 1099511627776⟩ := ⟨⟨by simp only; omega, by simp only; omega⟩, by simp only; omega, by simp only; omega⟩
  have hK : x.K % 1152921504606846976 = Gas.K ⟨x.K % 1152921504606846976, x.Power % 1099511627776⟩ := rfl
  have hm : 0 ≤ m % 34359738368 ∧ m % 34359738368 < 34359738368 := by omega
  have hp : 0 ≤ p % 34359738368 ∧ p % 34359738368 < 34359738368 := by omega
  rw [hK]
  refine ⟨⟨by decide, by decide⟩, ⟨by decide, by decide⟩, ⟨by decide, by decide⟩, ⟨by decide, by decide⟩, ?_⟩
  generalize (⟨x.K % 1152921504606846976, x.Power % 1099511627776⟩ : Gas) = g at hg ⊢
  have e1 : IntKind.wrap IntKind.i64 (1 + p % 34359738368) = 1 + p % 34359738368 := i64_in' (by omega) (by omega)
  have e2 : IntKind.wrap IntKind.i64 (1 + p % 34359738368 + m % 34359738368) = 1 + p % 34359738368 + m % 34359738368 := i64_in' (by omega) (by omega)
  rw [e1, e2]
  generalize hP : 1 + p % 34359738368 = P
  generalize hM : m % 34359738368 = M at hm ⊢
  have f1 := free_anti (q := P + M) hg (show 1 ≤ P by omega) (by omega) (by omega)
  have b1 := free_bd g P
  have b2 := free_bd g (P + M)
  simp only [if_pos (show 1 ≤ P ∧ P ≤ 68719476736 by omega), if_pos (show 1 ≤ P + M ∧ P + M ≤ 68719476736 by omega)]
  have d1 := div_anti b2.1 f1.1 (show 0 < P by omega) (show P ≤ P + M by omega)
  have d2 := up_anti b2.1 f1.1 (show 0 < P by omega) (show P ≤ P + M by omega)
  have d3 := up_down (f := free g P) (show 0 < P by omega)
  have d4 := divb (a := free g P) (b := P) (m := 1152921504606846976) (by omega) (by omega) (by omega)
  have e3 : IntKind.wrap IntKind.i64 (-(-free g P / P) - free g P / P) = -(-free g P / P) - free g P / P := i64_in' (by omega) (by omega)
  rw [e3]
  refine way (fun h => by omega) fun _ => way (fun h => by omega) fun _ => way (fun h => by omega) fun _ => way (fun h => by omega) fun _ => way (fun h => by omega) fun _ => way (fun h => by omega) fun _ => wayN (fun h => ?_) fun h => ?_
  · refine way (fun _ => rfl) fun k => absurd ((max_free hg).1 ?_) h
    have := free_bd g 68719476736
    omega
  · have hb := bub_bd h
    have hv : bubV g = bub g := if_pos h
    rw [hv]
    have e4 : IntKind.wrap IntKind.i64 (bub g + M) = bub g + M := i64_in' (by omega) (by omega)
    have e5 : IntKind.wrap IntKind.i64 (bub g - 1) = bub g - 1 := i64_in' (by omega) (by omega)
    rw [e4, e5]
    refine wayEq (fun _ => ?_) fun k => absurd ((bub_key h hb.1 hb.2).2 (Int.le_refl _)) k
    refine wayEq (fun _ => ?_) fun k => absurd ((bub_key h (p := if bub g + M < 68719476736 then bub g + M else 68719476736) ?_ ?_).2 ?_) k
    · refine wayEq (fun _ => rfl) fun k => way (fun _ => rfl) fun k2 => ?_
      have z : free g (bub g - 1) = 0 := by have := free_bd g (bub g - 1); omega
      have := (bub_key h (p := bub g - 1) (by omega) (by omega)).1 z
      omega
    · split <;> omega
    · split <;> omega
    · split <;> omega)
end Go.Proofs.Ytnhedcaphncliaa.W
