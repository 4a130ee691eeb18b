/- The evaluator: ways through trees of tests. No condition. -/
import Derived.Test.YtmnhfjhlfgebiaaCz4
import Derived.IntWalk
set_option linter.unusedVariables false
noncomputable section
namespace Go.Cx
/-! ### Ways through trees of tests -/
section
variable {α : Type} {Q : α → Prop} {t f : Tree α}
theorem way {p : Prop} [Decidable p] (h1 : p → t.holds Q) (h2 : ¬ p → f.holds Q) : (Tree.br (decide p) t f).holds Q :=
  ⟨fun h => h1 (of_decide_eq_true h), fun h => h2 (of_decide_eq_false h)⟩
theorem wayN {p : Prop} [Decidable p] (h1 : ¬ p → t.holds Q) (h2 : p → f.holds Q) : (Tree.br (!decide p) t f).holds Q :=
  ⟨fun h => h1 (by simpa using h), fun h => h2 (by simpa using h)⟩
theorem wayB {b : Bool} (h1 : b = true → t.holds Q) (h2 : b = false → f.holds Q) : (Tree.br b t f).holds Q := ⟨h1, h2⟩
theorem wayEq {a b : Int} (h1 : a = b → t.holds Q) (h2 : a ≠ b → f.holds Q) : (Tree.br (a == b) t f).holds Q := ⟨fun h => h1 (by simpa using h), fun h => h2 (by simpa using h)⟩
theorem wayNe {a b : Int} (h1 : a ≠ b → t.holds Q) (h2 : a = b → f.holds Q) : (Tree.br (a != b) t f).holds Q := ⟨fun h => h1 (by simpa using h), fun h => h2 (by simpa using h)⟩
theorem wayNEq {a b : Int} (h1 : a ≠ b → t.holds Q) (h2 : a = b → f.holds Q) : (Tree.br (!(a == b)) t f).holds Q := ⟨fun h => h1 (by simpa using h), fun h => h2 (by simpa using h)⟩
theorem wayR {p : Prop} (h1 : p) (h2 : p → t.holds Q) : (Tree.req p t).holds Q := ⟨h1, h2 h1⟩
theorem wayD {p : Prop} [Decidable p] (h1 : p) (h2 : p → t.holds Q) : (Tree.req (decide p = true) t).holds Q := ⟨decide_eq_true h1, h2 h1⟩
theorem wayC {p q : Prop} [Decidable p] [Decidable q] (h1 : p) (h2 : q) (h3 : p → q → t.holds Q) : (Tree.req ((decide p && decide q) = true) t).holds Q := ⟨by simp [h1, h2], h3 h1 h2⟩
theorem wayL {a : α} (h : Q a) : (Tree.leaf a).holds Q := h
end
theorem i64_in' {n : Int} (h1 : -9223372036854775808 ≤ n) (h2 : n ≤ 9223372036854775807) : IntKind.wrap IntKind.i64 n = n := IntWalk.i64_in n (by omega)
theorem mulb {a b m k : Int} (h1 : 0 ≤ a) (h2 : a ≤ m) (h3 : 0 ≤ b) (h4 : b ≤ k) : 0 ≤ a * b ∧ a * b ≤ m * k :=
  ⟨Int.mul_nonneg h1 h3, Int.mul_le_mul h2 h4 h3 (by omega)⟩
theorem divb {a b m : Int} (h : 0 < b) (h1 : -m ≤ a) (h2 : a ≤ m) : -m ≤ a / b ∧ a / b ≤ m := by
  have := Int.natAbs_ediv_le_natAbs a b
  omega

/-! ### Lists, from a place on -/
theorem drop_ix {T : Nat → Type} {E : Enc T} {τ : Nat} {l : List (T τ)} {i : Nat} (h : i < l.length) : l.drop i = ixD E τ l (i : Int) :: l.drop (i + 1) := by
  rw [List.drop_eq_getElem_cons h]
  unfold ixD
  rw [Int.toNat_natCast, List.getElem?_eq_getElem h]
  rfl
/-- The first error of a list. -/
def firstE {A : Type} (f : A → Int) : List A → Int
  | [] => 0
  | x :: l => if f x = 0 then firstE f l else f x
theorem firstE_nil {A : Type} {f : A → Int} : firstE f [] = 0 := rfl
theorem firstE_cons {A : Type} {f : A → Int} {x : A} {l : List A} : firstE f (x :: l) = if f x = 0 then firstE f l else f x := rfl
end Go.Cx
