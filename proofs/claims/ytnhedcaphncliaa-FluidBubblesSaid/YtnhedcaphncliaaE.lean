/- FluidGas: bubble points. -/
import Derived.Test.YtnhedcaphncliaaD
set_option linter.unusedVariables false
set_option maxRecDepth 100000
noncomputable section
namespace Go.Proofs.Ytnhedcaphncliaa.W
open Go Go.Cx Go.RowKit
noncomputable def ctG : CTab T := [(64, cWithin), (73, cFloor), (74, cCeil), (48, cFree), (49, cFree)]
theorem ctG_ok : CTabOk Try.prog E ctG := .cons within_ok (.cons floor_ok (.cons ceil_ok (.cons free_ok (.cons free2_ok .nil))))
noncomputable def bubN (x : Gas) : Int := -(-x.K / x.Power)
noncomputable def bub (x : Gas) : Int := if x.K = 0 then 1 else bubN x * 1048576
@[reducible] def hasB (x : Gas) : Prop := okG x ∧ x.K ≤ x.Power * 65536
theorem free_zero {x : Gas} {p : Int} (h : okF x p) : free x p = 0 ↔ x.K ≤ x.Power * (p / 1048576) := by
  unfold free
  rw [if_pos h]
  split <;> omega
theorem bubN_le {x : Gas} (hp : 0 < x.Power) {n : Int} : x.K ≤ x.Power * n ↔ bubN x ≤ n := by
  have h := Int.le_ediv_iff_mul_le (a := -n) (b := -x.K) hp
  rw [Int.neg_mul, Int.mul_comm] at h
  unfold bubN
  omega
theorem pow_pos {x : Gas} (h : hasB x) (hk : x.K ≠ 0) : 0 < x.Power := by
  rcases Int.lt_or_le 0 x.Power with h1 | h1
  · exact h1
  · have : x.Power = 0 := by omega
    have h2 := h.2
    rw [this] at h2
    omega
theorem bub_key {x : Gas} (h : hasB x) {p : Int} (h1 : 1 ≤ p) (h2 : p ≤ 68719476736) : free x p = 0 ↔ bub x ≤ p := by
  rw [free_zero ⟨h.1, h1, h2⟩]
  unfold bub
  split
  · rename_i hk
    have := Int.mul_nonneg h.1.2.1 (show 0 ≤ p / 1048576 by omega)
    omega
  · rename_i hk
    rw [bubN_le (pow_pos h hk)]
    omega
theorem bub_bd {x : Gas} (h : hasB x) : 1 ≤ bub x ∧ bub x ≤ 68719476736 := by
  refine ⟨?_, (bub_key h (by decide) (by decide)).1 ((free_zero ⟨h.1, by decide, by decide⟩).2 (by rw [show (68719476736 : Int) / 1048576 = 65536 by decide]; exact h.2))⟩
  unfold bub
  split
  · decide
  · rename_i hk
    have : -x.K / x.Power < 0 := Int.ediv_neg_of_neg_of_pos (by omega) (pow_pos h hk)
    unfold bubN
    omega
noncomputable def c79 : LoopC T := ⟨[.n, .n, .n, .n], ⟨29, [(0, .one (.i .i64)), (1, .one (.i .i64)), (2, .fn 85 [.o 0 0])], [.c [.i .i64, .i .i64]]⟩,
  fun e => ⟨29, [(0, .one (.i .i64))], []⟩, 10, fun d => .req (hasB ⟨d.2.2.1, d.2.2.2.1⟩ ∧ 1 ≤ d.1 ∧ d.1 ≤ bub ⟨d.2.2.1, d.2.2.2.1⟩ ∧ bub ⟨d.2.2.1, d.2.2.2.1⟩ ≤ d.2.1 ∧ d.2.1 ≤ 68719476736) (.leaf (.exit 0, [.n (bub ⟨d.2.2.1, d.2.2.2.1⟩)]))⟩
theorem b79 (lo hi a b : Int) : bodyD Try.prog E c79 2 (bodyX Try.prog E ctG noLoops 1000 5 L0 (lpOf Try.prog 79 0)) (lo, hi, a, b, ()) =
  (.br (decide (lo < hi))
   (.br (free (Gas.mk a b) (IntKind.wrap IntKind.i64 (lo + IntKind.wrap IntKind.i64 (Int.tdiv (IntKind.wrap IntKind.i64 (hi - lo)) (2 : Int)))) == (0 : Int))
    (.leaf (.inl (lo, (IntKind.wrap IntKind.i64 (lo + IntKind.wrap IntKind.i64 (Int.tdiv (IntKind.wrap IntKind.i64 (hi - lo)) (2 : Int))), (a, (b, ()))))))
    (.leaf (.inl (IntKind.wrap IntKind.i64 (IntKind.wrap IntKind.i64 (lo + IntKind.wrap IntKind.i64 (Int.tdiv (IntKind.wrap IntKind.i64 (hi - lo)) (2 : Int))) + (1 : Int)), (hi, (a, (b, ())))))))
   (.leaf (.inr (.exit (0 : Nat), [.n (lo)])))) := by kernel_rfl
theorem h79' (lo hi a b : Int) (K : Ex × List (V T) → Prop) (hb : hasB ⟨a, b⟩) (h1 : 1 ≤ lo) (h2 : lo ≤ bub ⟨a, b⟩) (h3 : bub ⟨a, b⟩ ≤ hi) (h4 : hi ≤ 68719476736) (hK : K (.exit 0, [.n (bub ⟨a, b⟩)])) :
    (bodyD Try.prog E c79 2 (bodyX Try.prog E ctG noLoops 1000 5 L0 (lpOf Try.prog 79 0)) (lo, hi, a, b, ())).holds fun y => match y with
    | .inl d' => (d'.2.1 - d'.1).toNat < (hi - lo).toNat ∧ (c79.out d').holds K
    | .inr y => K y := by
  rw [b79]
  refine way (fun c => ?_) fun c => ?_
  · have e0 : IntKind.wrap IntKind.i64 (hi - lo) = hi - lo := i64_in' (by omega) (by omega)
    have e1 : Int.tdiv (hi - lo) 2 = (hi - lo) / 2 := Int.tdiv_eq_ediv_of_nonneg (by omega)
    have e2 : IntKind.wrap IntKind.i64 ((hi - lo) / 2) = (hi - lo) / 2 := i64_in' (by omega) (by omega)
    have e3 : IntKind.wrap IntKind.i64 (lo + (hi - lo) / 2) = lo + (hi - lo) / 2 := i64_in' (by omega) (by omega)
    have e4 : IntKind.wrap IntKind.i64 (lo + (hi - lo) / 2 + 1) = lo + (hi - lo) / 2 + 1 := i64_in' (by omega) (by omega)
    rw [e0, e1, e2, e3, e4]
    have key := bub_key hb (p := lo + (hi - lo) / 2) (by omega) (by omega)
    refine wayEq (fun k => ?_) fun k => ?_
    · have k1 := key.1 k
      have hlt : (lo + (hi - lo) / 2 - lo).toNat < (hi - lo).toNat := by omega
      have k2 : lo + (hi - lo) / 2 ≤ 68719476736 := by omega
      exact ⟨hlt, ⟨hb, h1, h2, k1, k2⟩, hK⟩
    · have k1 : ¬ bub ⟨a, b⟩ ≤ lo + (hi - lo) / 2 := fun h => k (key.2 h)
      have hlt : (hi - (lo + (hi - lo) / 2 + 1)).toNat < (hi - lo).toNat := by omega
      have k2 : 1 ≤ lo + (hi - lo) / 2 + 1 := by omega
      have k3 : lo + (hi - lo) / 2 + 1 ≤ bub ⟨a, b⟩ := by omega
      exact ⟨hlt, ⟨hb, k2, k3, h3, h4⟩, hK⟩
  · have : lo = bub ⟨a, b⟩ := by omega
    subst this
    exact hK
theorem h79 : LoopH Try.prog E c79 2 (bodyX Try.prog E ctG noLoops 1000 5 L0 (lpOf Try.prog 79 0)) :=
  ⟨fun d => (d.2.1 - d.1).toNat, fun d K hK => by
    obtain ⟨lo, hi, a, b, ⟨⟩⟩ := d
    obtain ⟨⟨k1, k2, k3, k4, k5⟩, k6⟩ := hK
    refine Tree.holds_mono (fun y hy => ?_) (h79' lo hi a b K k1 k2 k3 k4 k5 k6)
    cases y with
    | inl d' => exact hy
    | inr y => exact hy⟩
theorem ll79 : LLOk Try.prog E (llOfN Try.prog E 79 2 [(3, c79)]) := llOfN_ok fun i hi c hc => by
  have hi : i < 1 := hi
  obtain rfl : i = 0 := by omega
  obtain rfl : c79 = c := Option.some.inj hc
  exact LSndN.mk good names mixes ctG_ok (by decide) h79

noncomputable def c47 : LoopC T := ⟨[.n, .n, .n], ⟨24, [(1, .one (.o 0 0)), (4, .one (.i .i64))], [.c [.i .i64, .i .i64]]⟩,
  fun e => match e with
    | .ret => ⟨24, [(2, .one (.i .i64)), (3, .one .b)], []⟩
    | _ => ⟨24, [], []⟩, 10, fun d => .req ((okG ⟨d.2.1, d.2.2.1⟩ ∧ d.2.1 ≠ 0) ∧ (1 ≤ d.1 ∧ d.1 ≤ 65537) ∧ (hasB ⟨d.2.1, d.2.2.1⟩ → d.1 ≤ bubN ⟨d.2.1, d.2.2.1⟩)) (.br (decide (hasB ⟨d.2.1, d.2.2.1⟩)) (.leaf (.ret, [.n (bub ⟨d.2.1, d.2.2.1⟩), .t true])) (.leaf (.exit 0, [])))⟩
theorem b47 (n a b : Int) : bodyD Try.prog E c47 0 (bodyX Try.prog E ctG noLoops 1000 5 L0 (lpOf Try.prog 47 0)) (n, a, b, ()) =
  (.br (decide (n ≤ (65536 : Int)))
   (.br (decide (IntKind.wrap IntKind.i64 (b * n) ≥ a))
    (.leaf (.inr (.ret, [.n (IntKind.wrap IntKind.i64 (n * (1048576 : Int))), .t (true)])))
    (.leaf (.inl (IntKind.wrap IntKind.i64 (n + (1 : Int)), (a, (b, ()))))))
   (.leaf (.inr (.exit (0 : Nat), [])))) := by kernel_rfl
theorem h47' (n a b : Int) (K : Ex × List (V T) → Prop) (hg : okG ⟨a, b⟩) (ha : a ≠ 0) (hn : 1 ≤ n ∧ n ≤ 65537) (hb : hasB ⟨a, b⟩ → n ≤ bubN ⟨a, b⟩) (hK : (Tree.br (decide (hasB ⟨a, b⟩)) (.leaf (.ret, [.n (bub ⟨a, b⟩), .t true])) (.leaf (.exit 0, [])) : Tree (Ex × List (V T))).holds K) :
    (bodyD Try.prog E c47 0 (bodyX Try.prog E ctG noLoops 1000 5 L0 (lpOf Try.prog 47 0)) (n, a, b, ())).holds fun y => match y with
    | .inl d' => ((65538 : Int) - d'.1).toNat < ((65538 : Int) - n).toNat ∧ (c47.out d').holds K
    | .inr y => K y := by
  rw [b47]
  have hg1 : 0 ≤ a := hg.1.1
  have hg2 : 0 ≤ b := hg.2.1
  have hg3 : b ≤ 1099511627776 := hg.2.2
  refine way (fun c => ?_) fun c => ?_
  · have m1 := mulb hg2 hg3 (show 0 ≤ n by omega) c
    have e1 : IntKind.wrap IntKind.i64 (b * n) = b * n := i64_in' (by omega) (by omega)
    have e2 : IntKind.wrap IntKind.i64 (n * 1048576) = n * 1048576 := i64_in' (by omega) (by omega)
    have e3 : IntKind.wrap IntKind.i64 (n + 1) = n + 1 := i64_in' (by omega) (by omega)
    rw [e1, e2, e3]
    refine way (fun k => ?_) fun k => ?_
    · have m2 : b * n ≤ b * 65536 := Int.mul_le_mul_of_nonneg_left c hg2
      have h : hasB ⟨a, b⟩ := ⟨hg, Int.le_trans k m2⟩
      have q1 := (bubN_le (pow_pos h ha)).1 k
      have q2 := hb h
      have q3 : bub ⟨a, b⟩ = n * 1048576 := by
        unfold bub
        rw [if_neg ha]
        omega
      rw [← q3]
      exact hK.1 (decide_eq_true h)
    · have hlt : ((65538 : Int) - (n + 1)).toNat < ((65538 : Int) - n).toNat := by omega
      have q1 : 1 ≤ n + 1 := by omega
      have q2 : n + 1 ≤ 65537 := by omega
      have q3 : hasB ⟨a, b⟩ → n + 1 ≤ bubN ⟨a, b⟩ := fun h => by
        have := hb h
        rcases Int.lt_or_le n (bubN ⟨a, b⟩) with h1 | h1
        · omega
        · exact absurd ((bubN_le (pow_pos h ha)).2 h1) k
      exact ⟨hlt, ⟨⟨hg, ha⟩, ⟨q1, q2⟩, q3⟩, hK⟩
  · have h : ¬ hasB ⟨a, b⟩ := fun h => by
      have q1 := hb h
      have q2 := (bubN_le (pow_pos h ha)).1 h.2
      omega
    exact hK.2 (decide_eq_false h)
theorem h47 : LoopH Try.prog E c47 0 (bodyX Try.prog E ctG noLoops 1000 5 L0 (lpOf Try.prog 47 0)) :=
  ⟨fun d => ((65538 : Int) - d.1).toNat, fun d K hK => by
    obtain ⟨n, a, b, ⟨⟩⟩ := d
    obtain ⟨⟨⟨k1, k2⟩, k3, k4⟩, k5⟩ := hK
    refine Tree.holds_mono (fun y hy => ?_) (h47' n a b K k1 k2 k3 k4 k5)
    cases y with
    | inl d' => exact hy
    | inr y => exact hy⟩
theorem ll47 : LLOk Try.prog E (llOf Try.prog E 47 [(6, c47)]) := llOf_ok fun i hi c hc => by
  have hi : i < 1 := hi
  obtain rfl : i = 0 := by omega
  obtain rfl : c47 = c := Option.some.inj hc
  exact LSnd.mk good names mixes ctG_ok (by decide) h47
end Go.Proofs.Ytnhedcaphncliaa.W
