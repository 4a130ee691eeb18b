/- Quotients, rounded down and up. No condition. -/
import Derived.Test.YtcddppakogialaaCz7
set_option linter.unusedVariables false
noncomputable section
namespace Go.Cx
theorem div_anti {f g p q : Int} (h0 : 0 ≤ g) (h1 : g ≤ f) (h2 : 0 < p) (h3 : p ≤ q) : g / q ≤ f / p := by
  refine Int.le_ediv_of_mul_le h2 ?_
  have a := Int.ediv_mul_le g (show q ≠ 0 by omega)
  have b := Int.mul_le_mul_of_nonneg_left h3 (Int.ediv_nonneg h0 (show 0 ≤ q by omega))
  omega
theorem up_le {f p : Int} (h2 : 0 < p) : f ≤ -(-f / p) * p ∧ -(-f / p) * p < f + p := by
  have a := Int.ediv_mul_le (-f) (show p ≠ 0 by omega)
  have b := Int.lt_ediv_add_one_mul_self (-f) h2
  rw [Int.add_mul, Int.one_mul] at b
  rw [Int.neg_mul]
  omega
theorem up_nonneg {f p : Int} (h0 : 0 ≤ f) (h2 : 0 < p) : 0 ≤ -(-f / p) := by
  have a := (up_le (f := f) h2).1
  rcases Int.lt_or_le (-(-f / p)) 0 with h | h
  · have := Int.mul_neg_of_neg_of_pos h h2
    omega
  · exact h
theorem up_anti {f g p q : Int} (h0 : 0 ≤ g) (h1 : g ≤ f) (h2 : 0 < p) (h3 : p ≤ q) : -(-g / q) ≤ -(-f / p) := by
  have a := (up_le (f := f) h2).1
  have c : 0 ≤ -(-f / p) := up_nonneg (by omega) h2
  have b := Int.mul_le_mul_of_nonneg_left h3 c
  have d : -f / p * q ≤ -g := by
    have : -(-f / p) * q = -(-f / p * q) := Int.neg_mul ..
    omega
  have := Int.le_ediv_of_mul_le (show 0 < q by omega) d
  omega
theorem up_down {f p : Int} (h2 : 0 < p) : f / p ≤ -(-f / p) ∧ -(-f / p) ≤ f / p + 1 := by
  have a := up_le (f := f) h2
  have b := Int.ediv_mul_le f (show p ≠ 0 by omega)
  have c := Int.lt_ediv_add_one_mul_self f h2
  have k1 : f / p * p < (-(-f / p) + 1) * p := by rw [Int.add_mul, Int.one_mul]; omega
  have k2 : -(-f / p) * p < (f / p + 1 + 1) * p := by rw [Int.add_mul (f / p + 1), Int.one_mul]; omega
  have j1 := Int.lt_of_mul_lt_mul_right k1 (by omega)
  have j2 := Int.lt_of_mul_lt_mul_right k2 (by omega)
  omega
end Go.Cx
