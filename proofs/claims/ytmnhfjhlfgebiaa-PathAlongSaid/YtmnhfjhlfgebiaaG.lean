/- Parts compared. No condition. -/
import Derived.Test.YtmnhfjhlfgebiaaC
import Derived.Test.YtmnhfjhlfgebiaaCz9
set_option linter.unusedVariables false
set_option maxRecDepth 100000
noncomputable section
namespace Go.Proofs.Ytmnhfjhlfgebiaa.W
open Go Go.Cx Go.RowKit
@[reducible] def ltB (a b c d : Int) : Bool := decide (a * d < c * b)
noncomputable def o112 (a b c d : Int) : Tree (Ex × List (V T)) := .req (((0 ≤ a ∧ 0 < b) ∧ 0 ≤ c ∧ 0 < d) ∧ (a ≤ 4611686018427387904 ∧ b ≤ 4611686018427387904) ∧ c ≤ 4611686018427387904 ∧ d ≤ 4611686018427387904) (.leaf (.ret, [.t (ltB a b c d)]))
noncomputable def c112 : LoopC T := ⟨[.n, .n, .n, .n], ⟨47, [(2, .one (.o 0 0)), (3, .one (.o 1 0))], [.c [.i .i64, .i .i64], .c [.i .i64, .i .i64]]⟩, fun e => match e with
    | .ret => ⟨47, [(4, .one .b)], []⟩
    | _ => ⟨47, [], []⟩, 10, fun d => o112 d.1 d.2.1 d.2.2.1 d.2.2.2.1⟩
theorem b112 (a b c d : Int) : bodyD Try.prog E c112 0 (bodyX Try.prog E [] noLoops 1000 5 L0 (lpOf Try.prog 112 0)) (a, b, c, d, ()) =
  (.req (decide (b ≠ (0 : Int)) = true)
  (.req (decide (d ≠ (0 : Int)) = true)
  (.br (IntKind.wrap IntKind.i64 (Int.tdiv a b) != IntKind.wrap IntKind.i64 (Int.tdiv c d))
   (.leaf (.inr (.ret, [.t (decide (IntKind.wrap IntKind.i64 (Int.tdiv a b) < IntKind.wrap IntKind.i64 (Int.tdiv c d)))])))
   (.req (decide (b ≠ (0 : Int)) = true)
   (.req (decide (d ≠ (0 : Int)) = true)
   (.br (Int.tmod c d == (0 : Int))
    (.leaf (.inr (.ret, [.t (false)])))
    (.br (Int.tmod a b == (0 : Int))
     (.leaf (.inr (.ret, [.t (true)])))
     (.leaf (.inl (d, (Int.tmod c d, (b, (Int.tmod a b, ()))))))))))))) := by kernel_rfl
theorem tv112 (a b c d : Int) : runX [] (llOf Try.prog E 112 [(1, c112)]) 112 [.agg [i64 a, i64 b], .agg [i64 c, i64 d]] [4] =
  (.req ((((0 : Int) ≤ a ∧ (0 : Int) < b) ∧ (0 : Int) ≤ c ∧ (0 : Int) < d) ∧ (a ≤ (4611686018427387904 : Int) ∧ b ≤ (4611686018427387904 : Int)) ∧ c ≤ (4611686018427387904 : Int) ∧ d ≤ (4611686018427387904 : Int))
  (.leaf (.bool (ltB a b c d)))) := by kernel_rfl
theorem tv167 (a b : Int) : runX [] noLoops 167 [.sym .u64 a, .sym .u64 b] [171, 171] =
  (.leaf (.tup [.sym .u64 (IntKind.wrap IntKind.u64 (IntKind.wrap IntKind.u64 (IntKind.wrap IntKind.u64 (Int.fdiv a (4294967296 : Int) * Int.fdiv b (4294967296 : Int)) + Int.fdiv (IntKind.wrap IntKind.u64 (IntKind.wrap IntKind.u64 (Int.fdiv a (4294967296 : Int) * IntKind.wrap IntKind.u64 (↑(BitVec.toNat (BitVec.ofInt (64 : Nat) b &&& BitVec.ofInt (64 : Nat) (4294967295 : Int))) : Int)) + Int.fdiv (IntKind.wrap IntKind.u64 (IntKind.wrap IntKind.u64 (↑(BitVec.toNat (BitVec.ofInt (64 : Nat) a &&& BitVec.ofInt (64 : Nat) (4294967295 : Int))) : Int) * IntKind.wrap IntKind.u64 (↑(BitVec.toNat (BitVec.ofInt (64 : Nat) b &&& BitVec.ofInt (64 : Nat) (4294967295 : Int))) : Int))) (4294967296 : Int))) (4294967296 : Int)) + Int.fdiv (IntKind.wrap IntKind.u64 (IntKind.wrap IntKind.u64 (↑(BitVec.toNat (BitVec.ofInt (64 : Nat) (IntKind.wrap IntKind.u64 (IntKind.wrap IntKind.u64 (Int.fdiv a (4294967296 : Int) * IntKind.wrap IntKind.u64 (↑(BitVec.toNat (BitVec.ofInt (64 : Nat) b &&& BitVec.ofInt (64 : Nat) (4294967295 : Int))) : Int)) + Int.fdiv (IntKind.wrap IntKind.u64 (IntKind.wrap IntKind.u64 (↑(BitVec.toNat (BitVec.ofInt (64 : Nat) a &&& BitVec.ofInt (64 : Nat) (4294967295 : Int))) : Int) * IntKind.wrap IntKind.u64 (↑(BitVec.toNat (BitVec.ofInt (64 : Nat) b &&& BitVec.ofInt (64 : Nat) (4294967295 : Int))) : Int))) (4294967296 : Int))) &&& BitVec.ofInt (64 : Nat) (4294967295 : Int))) : Int) + IntKind.wrap IntKind.u64 (IntKind.wrap IntKind.u64 (↑(BitVec.toNat (BitVec.ofInt (64 : Nat) a &&& BitVec.ofInt (64 : Nat) (4294967295 : Int))) : Int) * Int.fdiv b (4294967296 : Int)))) (4294967296 : Int))), .sym .u64 (IntKind.wrap IntKind.u64 (a * b))])) := by kernel_rfl
theorem s167 (a b : Int) (ha : 0 ≤ a ∧ a < 18446744073709551616) (hb : 0 ≤ b ∧ b < 18446744073709551616) : (runX [] noLoops 167 [.sym .u64 a, .sym .u64 b] [171, 171]).holds fun v => v = .tup [.sym .u64 (a * b / 18446744073709551616), .sym .u64 (a * b % 18446744073709551616)] := by
  rw [tv167]
  have fd : ∀ x : Int, Int.fdiv x 4294967296 = x / 4294967296 := fun x => Int.fdiv_eq_ediv_of_nonneg _ (by decide)
  simp only [fd]
  rw [mask32 ha.1 ha.2, mask32 hb.1 hb.2, wrapU_in (n := a % 4294967296) (by omega) (by omega), wrapU_in (n := b % 4294967296) (by omega) (by omega), wrapU_mod (a * b)]
  obtain ⟨h1, h2, h3, h4, h5⟩ := mul64 ha.1 ha.2 hb.1 hb.2
  rw [h5]
  generalize a / 4294967296 * (b / 4294967296) = P at *
  generalize a / 4294967296 * (b % 4294967296) = Q at *
  generalize a % 4294967296 * (b / 4294967296) = R at *
  generalize a % 4294967296 * (b % 4294967296) = S at *
  rw [wrapU_in (n := P) (by omega) (by omega), wrapU_in (n := Q) (by omega) (by omega), wrapU_in (n := R) (by omega) (by omega), wrapU_in (n := S) (by omega) (by omega)]
  rw [wrapU_in (n := Q + S / 4294967296) (by omega) (by omega)]
  rw [mask32 (n := Q + S / 4294967296) (by omega) (by omega)]
  rw [wrapU_in (n := (Q + S / 4294967296) % 4294967296) (by omega) (by omega)]
  rw [wrapU_in (n := (Q + S / 4294967296) % 4294967296 + R) (by omega) (by omega)]
  rw [wrapU_in (n := P + (Q + S / 4294967296) / 4294967296) (by omega) (by omega)]
  rw [wrapU_in (by omega) (by omega)]
  show AV.tup [_, _] = _
  congr 4
  omega
noncomputable def cMul : Con T := conP Try.prog [.one (.i .u64), .one (.i .u64)] [.n, .n] (fun d => (0 ≤ d.1 ∧ d.1 < 18446744073709551616) ∧ 0 ≤ d.2.1 ∧ d.2.1 < 18446744073709551616) fun d => .tup [.sym .u64 (d.1 * d.2.1 / 18446744073709551616), .sym .u64 (d.1 * d.2.1 % 18446744073709551616)]
theorem mul_ok : ConOk Try.prog E 167 cMul := conP_ok fun d hd => fact_run .nil noLoops_ok (ts := [171, 171]) rfl (s167 d.1 d.2.1 hd.1 hd.2)
noncomputable def ctG : CTab T := [(167, cMul)]
theorem ctG_ok : CTabOk Try.prog E ctG := .cons mul_ok .nil
theorem tv111 (a b c d : Int) : runX ctG noLoops 111 [.agg [i64 a, i64 b], .agg [i64 c, i64 d]] [4] =
  (.req (((0 : Int) ≤ IntKind.wrap IntKind.u64 a ∧ IntKind.wrap IntKind.u64 a < (18446744073709551616 : Int)) ∧ (0 : Int) ≤ IntKind.wrap IntKind.u64 d ∧ IntKind.wrap IntKind.u64 d < (18446744073709551616 : Int))
  (.req (((0 : Int) ≤ IntKind.wrap IntKind.u64 c ∧ IntKind.wrap IntKind.u64 c < (18446744073709551616 : Int)) ∧ (0 : Int) ≤ IntKind.wrap IntKind.u64 b ∧ IntKind.wrap IntKind.u64 b < (18446744073709551616 : Int))
  (.br (decide (IntKind.wrap IntKind.u64 a * IntKind.wrap IntKind.u64 d / (18446744073709551616 : Int) < IntKind.wrap IntKind.u64 c * IntKind.wrap IntKind.u64 b / (18446744073709551616 : Int)))
   (.leaf (.bool (true)))
   (.br (IntKind.wrap IntKind.u64 a * IntKind.wrap IntKind.u64 d / (18446744073709551616 : Int) == IntKind.wrap IntKind.u64 c * IntKind.wrap IntKind.u64 b / (18446744073709551616 : Int))
    (.leaf (.bool (decide (IntKind.wrap IntKind.u64 a * IntKind.wrap IntKind.u64 d % (18446744073709551616 : Int) < IntKind.wrap IntKind.u64 c * IntKind.wrap IntKind.u64 b % (18446744073709551616 : Int)))))
    (.leaf (.bool (false))))))) := by kernel_rfl
@[reducible] def ltP (a b c d : Int) : Prop := (0 ≤ a ∧ a ≤ 4611686018427387904) ∧ (0 < b ∧ b ≤ 4611686018427387904) ∧ (0 ≤ c ∧ c ≤ 4611686018427387904) ∧ (0 < d ∧ d ≤ 4611686018427387904)
theorem s111 (a b c d : Int) (h : ltP a b c d) : (runX ctG noLoops 111 [.agg [i64 a, i64 b], .agg [i64 c, i64 d]] [4]).holds fun v => v = .bool (ltB a b c d) := by
  rw [tv111]
  obtain ⟨h1, h2, h3, h4⟩ := h
  rw [wrapU_in (n := a) (by omega) (by omega), wrapU_in (n := b) (by omega) (by omega), wrapU_in (n := c) (by omega) (by omega), wrapU_in (n := d) (by omega) (by omega)]
  unfold ltB
  generalize a * d = X
  generalize c * b = Y
  refine ⟨⟨by omega, by omega⟩, ⟨by omega, by omega⟩, way (fun k => ?_) fun k => wayEq (fun k2 => ?_) fun k2 => ?_⟩
  · exact congrArg AV.bool (decide_eq_true (by omega)).symm
  · exact congrArg AV.bool (decide_eq_decide.2 (by omega))
  · exact congrArg AV.bool (decide_eq_false (by omega)).symm
noncomputable def cLess : Con T := conP Try.prog [.agg [.i .i64, .i .i64], .agg [.i .i64, .i .i64]] [.n, .n, .n, .n] (fun d => ltP d.1 d.2.1 d.2.2.1 d.2.2.2.1) fun d => .bool (ltB d.1 d.2.1 d.2.2.1 d.2.2.2.1)
theorem less_ok : ConOk Try.prog E 111 cLess := conP_ok fun d hd => fact_run ctG_ok noLoops_ok (ts := [4]) rfl (s111 d.1 d.2.1 d.2.2.1 d.2.2.2.1 hd)
/-! ### the reference's comparison -/
theorem lt_q {a b c d : Int} (hb : 0 < b) (hd : 0 < d) (h : a / b < c / d) : a * d < c * b := by
  have e1 := Int.mul_ediv_add_emod a b
  have e2 := Int.mul_ediv_add_emod c d
  have m1 := Int.emod_lt_of_pos a hb
  have m2 := Int.emod_nonneg c (b := d) (by omega)
  have k1 : a < b * (c / d) := by
    have h' : b * (a / b + 1) ≤ b * (c / d) := Int.mul_le_mul_of_nonneg_left (by omega) (by omega)
    rw [Int.mul_add, Int.mul_one] at h'
    omega
  have k2 : d * (c / d) ≤ c := by omega
  have k3 := Int.mul_lt_mul_of_pos_right k1 hd
  have k4 := Int.mul_le_mul_of_nonneg_right k2 (c := b) (by omega)
  have k5 : b * (c / d) * d = d * (c / d) * b := by
    have gen : ∀ p q r : Int, p * q * r = r * q * p := by intro p q r; grind
    exact gen _ _ _
  omega
theorem lt_r {a b c d : Int} (h : a / b = c / d) : a * d < c * b ↔ a % b * d < c % d * b := by
  have e1 := Int.mul_ediv_add_emod a b
  have e2 := Int.mul_ediv_add_emod c d
  generalize a % b = x at *
  generalize c % d = y at *
  rw [h] at e1
  generalize c / d = q at *
  have k1 : a * d = b * q * d + x * d := by rw [← e1, Int.add_mul]
  have k2 : c * b = d * q * b + y * b := by rw [← e2, Int.add_mul]
  have gen : ∀ p q r : Int, p * q * r = r * q * p := by intro p q r; grind
  have := gen b q d
  omega
theorem div_in' {n g : Int} (h : 0 ≤ n) (h1 : n ≤ 4611686018427387904) (hg : 0 < g) : IntKind.wrap IntKind.i64 (Int.tdiv n g) = n / g := by
  have e2 : Int.tdiv n g = n / g := Int.tdiv_eq_ediv_of_nonneg h
  have h4 : 0 ≤ n / g := Int.ediv_nonneg h (by omega)
  have h5 : n / g ≤ n := Int.ediv_le_self _ h
  rw [e2, i64_in' (by omega) (by omega)]
theorem h112' (a b c d : Int) (K : Ex × List (V T) → Prop) (h : (0 ≤ a ∧ 0 < b) ∧ 0 ≤ c ∧ 0 < d) (big : (a ≤ 4611686018427387904 ∧ b ≤ 4611686018427387904) ∧ c ≤ 4611686018427387904 ∧ d ≤ 4611686018427387904) (hK : K (.ret, [.t (ltB a b c d)])) :
    (bodyD Try.prog E c112 0 (bodyX Try.prog E [] noLoops 1000 5 L0 (lpOf Try.prog 112 0)) (a, b, c, d, ())).holds fun y => match y with
    | .inl z => (z.2.1 + z.2.2.2.1).toNat < (b + d).toNat ∧ (c112.out z).holds K
    | .inr y => K y := by
  rw [b112]
  obtain ⟨⟨h1, h2⟩, h3, h4⟩ := h
  have w1 : IntKind.wrap IntKind.i64 (Int.tdiv a b) = a / b := div_in' h1 big.1.1 h2
  have w2 : IntKind.wrap IntKind.i64 (Int.tdiv c d) = c / d := div_in' h3 big.2.1 h4
  have w3 : Int.tmod a b = a % b := Int.tmod_eq_emod_of_nonneg h1
  have w4 : Int.tmod c d = c % d := Int.tmod_eq_emod_of_nonneg h3
  rw [w1, w2, w3, w4]
  have m1 := Int.emod_lt_of_pos a h2
  have m2 := Int.emod_nonneg a (b := b) (by omega)
  have m3 := Int.emod_lt_of_pos c h4
  have m4 := Int.emod_nonneg c (b := d) (by omega)
  have nb : decide (b ≠ 0) = true := decide_eq_true (by omega)
  have nd : decide (d ≠ 0) = true := decide_eq_true (by omega)
  refine ⟨nb, nd, wayNe (fun k => ?_) fun k => ⟨nb, nd, wayEq (fun k2 => ?_) fun k2 => wayEq (fun k3 => ?_) fun k3 => ?_⟩⟩
  · show K (.ret, [.t (decide (a / b < c / d))])
    rw [show decide (a / b < c / d) = ltB a b c d from decide_eq_decide.2 ⟨fun q => lt_q h2 h4 q, fun q => by
      by_cases p : a / b < c / d
      · exact p
      · have := lt_q (a := c) (b := d) (c := a) (d := b) h4 h2 (by omega)
        omega⟩]
    exact hK
  · have : ltB a b c d = false := decide_eq_false (by
      rw [lt_r k, k2, Int.zero_mul]
      have := Int.mul_nonneg m2 (Int.le_of_lt h4)
      omega)
    rw [this] at hK
    exact hK
  · have : ltB a b c d = true := decide_eq_true (by
      rw [lt_r k, k3, Int.zero_mul]
      exact Int.mul_pos (by omega) h2)
    rw [this] at hK
    exact hK
  · refine ⟨?_, ⟨⟨⟨by show 0 ≤ d; omega, by show 0 < c % d; omega⟩, by show 0 ≤ b; omega, by show 0 < a % b; omega⟩, ?_⟩, ?_⟩
    · show (c % d + a % b).toNat < (b + d).toNat
      omega
    · show (d ≤ _ ∧ c % d ≤ _) ∧ b ≤ _ ∧ a % b ≤ _
      omega
    · show K (.ret, [.t (ltB d (c % d) b (a % b))])
      rw [show ltB d (c % d) b (a % b) = ltB a b c d from decide_eq_decide.2 (by
        rw [lt_r k, Int.mul_comm d, Int.mul_comm b])]
      exact hK
theorem h112 : LoopH Try.prog E c112 0 (bodyX Try.prog E [] noLoops 1000 5 L0 (lpOf Try.prog 112 0)) :=
  ⟨fun d => (d.2.1 + d.2.2.2.1).toNat, fun d K hK => by
    obtain ⟨a, b, c, d, ⟨⟩⟩ := d
    refine Tree.holds_mono (fun y hy => ?_) (h112' a b c d K hK.1.1 hK.1.2 hK.2)
    cases y with
    | inl d' => exact hy
    | inr y => exact hy⟩
theorem ll112 : LLOk Try.prog E (llOf Try.prog E 112 [(1, c112)]) := llOf_ok fun i hi c hc => by
  have hi : i < 1 := hi
  obtain rfl : i = 0 := by omega
  obtain rfl : c112 = c := Option.some.inj hc
  exact LSnd.mk good names mixes .nil (by decide) h112
theorem s112 (a b c d : Int) (h : ltP a b c d) : (runX [] (llOf Try.prog E 112 [(1, c112)]) 112 [.agg [i64 a, i64 b], .agg [i64 c, i64 d]] [4]).holds fun v => v = .bool (ltB a b c d) := by
  rw [tv112]
  obtain ⟨h1, h2, h3, h4⟩ := h
  exact ⟨⟨⟨⟨h1.1, h2.1⟩, h3.1, h4.1⟩, ⟨h1.2, h2.2⟩, h3.2, h4.2⟩, rfl⟩
theorem less2_ok : ConOk Try.prog E 112 cLess := conP_ok fun d hd => fact_run .nil ll112 (ts := [4]) rfl (s112 d.1 d.2.1 d.2.2.1 d.2.2.2.1 hd)
end Go.Proofs.Ytmnhfjhlfgebiaa.W
