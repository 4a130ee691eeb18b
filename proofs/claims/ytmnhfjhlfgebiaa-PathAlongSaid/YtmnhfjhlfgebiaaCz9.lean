/- Products of two words. No condition. -/
import Derived.Test.YtmnhfjhlfgebiaaCz5
set_option linter.unusedVariables false
namespace Go.Cx
open Go
theorem wrapU_mod (n : Int) : IntKind.wrap IntKind.u64 n = n % 18446744073709551616 := by
  unfold IntKind.wrap
  rfl
theorem wrapU_in {n : Int} (h1 : 0 ≤ n) (h2 : n < 18446744073709551616) : IntKind.wrap IntKind.u64 n = n := by
  rw [wrapU_mod]; exact Int.emod_eq_of_lt h1 h2
theorem mask32 {n : Int} (h1 : 0 ≤ n) (h2 : n < 18446744073709551616) : ((BitVec.toNat (BitVec.ofInt 64 n &&& BitVec.ofInt 64 4294967295) : Nat) : Int) = n % 4294967296 := by
  obtain ⟨m, rfl⟩ := Int.eq_ofNat_of_zero_le h1
  have e1 : (BitVec.ofInt 64 (4294967295 : Int)).toNat = 2 ^ 32 - 1 := by decide
  have e2 : (BitVec.ofInt 64 (m : Int)).toNat = m := by
    rw [BitVec.toNat_ofInt]
    omega
  rw [BitVec.toNat_and, e1, e2, Nat.and_two_pow_sub_one_eq_mod]
  omega
theorem mul64 {a b : Int} (ha : 0 ≤ a) (ha' : a < 18446744073709551616) (hb : 0 ≤ b) (hb' : b < 18446744073709551616) :
    let P := a / 4294967296 * (b / 4294967296)
    let Q := a / 4294967296 * (b % 4294967296)
    let R := a % 4294967296 * (b / 4294967296)
    let S := a % 4294967296 * (b % 4294967296)
    (0 ≤ P ∧ P ≤ 18446744065119617025) ∧ (0 ≤ Q ∧ Q ≤ 18446744065119617025) ∧ (0 ≤ R ∧ R ≤ 18446744065119617025) ∧ (0 ≤ S ∧ S ≤ 18446744065119617025) ∧ a * b = P * 18446744073709551616 + (Q + R) * 4294967296 + S := by
  intro P Q R S
  have h1 := mulb (a := a / 4294967296) (b := b / 4294967296) (m := 4294967295) (k := 4294967295) (by omega) (by omega) (by omega) (by omega)
  have h2 := mulb (a := a / 4294967296) (b := b % 4294967296) (m := 4294967295) (k := 4294967295) (by omega) (by omega) (by omega) (by omega)
  have h3 := mulb (a := a % 4294967296) (b := b / 4294967296) (m := 4294967295) (k := 4294967295) (by omega) (by omega) (by omega) (by omega)
  have h4 := mulb (a := a % 4294967296) (b := b % 4294967296) (m := 4294967295) (k := 4294967295) (by omega) (by omega) (by omega) (by omega)
  refine ⟨h1, h2, h3, h4, ?_⟩
  have e1 : a = a / 4294967296 * 4294967296 + a % 4294967296 := by omega
  have e2 : b = b / 4294967296 * 4294967296 + b % 4294967296 := by omega
  have gen : ∀ x y z w : Int, (x * 4294967296 + y) * (z * 4294967296 + w) = x * z * 18446744073709551616 + (x * w + y * z) * 4294967296 + y * w := by intro x y z w; grind
  have := gen (a / 4294967296) (a % 4294967296) (b / 4294967296) (b % 4294967296)
  rw [← e1, ← e2] at this
  exact this
end Go.Cx
