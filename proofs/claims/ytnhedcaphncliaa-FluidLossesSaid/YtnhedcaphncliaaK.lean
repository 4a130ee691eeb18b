/- FluidLeast: what flows. No condition. -/
import Derived.Test.YtnhedcaphncliaaI
import Derived.Test.YtnhedcaphncliaaCz7
import Derived.Test.YtnhedcaphncliaaCz9
set_option linter.unusedVariables false
set_option maxRecDepth 100000
set_option maxHeartbeats 4000000
noncomputable section
namespace Go.Proofs.Ytnhedcaphncliaa.W
open Go Go.Cx Go.RowKit
theorem fact_run3 {ct : CTab T} (hc : CTabOk Try.prog E ct) {ll : Nat → Nat → LoopTab T} (hl : LLOk Try.prog E ll) {f : Nat} {xs : List (AV T)} {ts : List Nat} {v : AV T} (ha : xs.all flt3 = true)
    (h : (runX ct ll f xs ts).holds fun x => x = v) : Fact Try.prog E f xs v :=
  fact_of_run3 good decOk (callX_ok good names mixes hc hl 8) ha h
theorem tv104 (a b : Int) : runX [] noLoops 104 [.sym .u64 a, .sym .u64 b] [111, 111] =
  (.leaf (.tup [.sym .u64 (IntKind.wrap IntKind.u64 (IntKind.wrap IntKind.u64 (IntKind.wrap IntKind.u64 (Int.fdiv a (4294967296 : Int) * Int.fdiv b (4294967296 : Int)) + Int.fdiv (IntKind.wrap IntKind.u64 (IntKind.wrap IntKind.u64 (Int.fdiv a (4294967296 : Int) * IntKind.wrap IntKind.u64 (↑(BitVec.toNat (BitVec.ofInt (64 : Nat) b &&& BitVec.ofInt (64 : Nat) (4294967295 : Int))) : Int)) + Int.fdiv (IntKind.wrap IntKind.u64 (IntKind.wrap IntKind.u64 (↑(BitVec.toNat (BitVec.ofInt (64 : Nat) a &&& BitVec.ofInt (64 : Nat) (4294967295 : Int))) : Int) * IntKind.wrap IntKind.u64 (↑(BitVec.toNat (BitVec.ofInt (64 : Nat) b &&& BitVec.ofInt (64 : Nat) (4294967295 : Int))) : Int))) (4294967296 : Int))) (4294967296 : Int)) + Int.fdiv (IntKind.wrap IntKind.u64 (IntKind.wrap IntKind.u64 (↑(BitVec.toNat (BitVec.ofInt (64 : Nat) (IntKind.wrap IntKind.u64 (IntKind.wrap IntKind.u64 (Int.fdiv a (4294967296 : Int) * IntKind.wrap IntKind.u64 (↑(BitVec.toNat (BitVec.ofInt (64 : Nat) b &&& BitVec.ofInt (64 : Nat) (4294967295 : Int))) : Int)) + Int.fdiv (IntKind.wrap IntKind.u64 (IntKind.wrap IntKind.u64 (↑(BitVec.toNat (BitVec.ofInt (64 : Nat) a &&& BitVec.ofInt (64 : Nat) (4294967295 : Int))) : Int) * IntKind.wrap IntKind.u64 (↑(BitVec.toNat (BitVec.ofInt (64 : Nat) b &&& BitVec.ofInt (64 : Nat) (4294967295 : Int))) : Int))) (4294967296 : Int))) &&& BitVec.ofInt (64 : Nat) (4294967295 : Int))) : Int) + IntKind.wrap IntKind.u64 (IntKind.wrap IntKind.u64 (↑(BitVec.toNat (BitVec.ofInt (64 : Nat) a &&& BitVec.ofInt (64 : Nat) (4294967295 : Int))) : Int) * Int.fdiv b (4294967296 : Int)))) (4294967296 : Int))), .sym .u64 (IntKind.wrap IntKind.u64 (a * b))])) := by kernel_rfl
theorem s104 (a b : Int) (ha : 0 ≤ a ∧ a < 18446744073709551616) (hb : 0 ≤ b ∧ b < 18446744073709551616) : (runX [] noLoops 104 [.sym .u64 a, .sym .u64 b] [111, 111]).holds fun v => v = .tup [.sym .u64 (a * b / 18446744073709551616), .sym .u64 (a * b % 18446744073709551616)] := by
  rw [tv104]
  have fd : ∀ x : Int, Int.fdiv x 4294967296 = x / 4294967296 := fun x => Int.fdiv_eq_ediv_of_nonneg _ (by decide)
  simp only [fd]
  rw [mask32 ha.1 ha.2, mask32 hb.1 hb.2, wrapU_in (n := a % 4294967296) (by omega) (by omega), wrapU_in (n := b % 4294967296) (by omega) (by omega), wrapU_mod (a * b)]
  obtain ⟨h1, h2, h3, h4, h5⟩ := mul64 ha.1 ha.2 hb.1 hb.2
  rw [h5]
  generalize a / 4294967296 * (b / 4294967296) = P at *
  generalize a / 4294967296 * (b % 4294967296) = Q at *
  generalize a % 4294967296 * (b / 4294967296) = R at *
  generalize a % 4294967296 * (b % 4294967296) = S at *
  rw [wrapU_in (n := P) (by omega) (by omega), wrapU_in (n := Q) (by omega) (by omega), wrapU_in (n := R) (by omega) (by omega), wrapU_in (n := S) (by omega) (by omega)]
  rw [wrapU_in (n := Q + S / 4294967296) (by omega) (by omega)]
  rw [mask32 (n := Q + S / 4294967296) (by omega) (by omega)]
  rw [wrapU_in (n := (Q + S / 4294967296) % 4294967296) (by omega) (by omega)]
  rw [wrapU_in (n := (Q + S / 4294967296) % 4294967296 + R) (by omega) (by omega)]
  rw [wrapU_in (n := P + (Q + S / 4294967296) / 4294967296) (by omega) (by omega)]
  rw [wrapU_in (by omega) (by omega)]
  show AV.tup [_, _] = _
  congr 4
  omega
noncomputable def cMul : Con T := conP Try.prog [.one (.i .u64), .one (.i .u64)] [.n, .n] (fun d => (0 ≤ d.1 ∧ d.1 < 18446744073709551616) ∧ 0 ≤ d.2.1 ∧ d.2.1 < 18446744073709551616) fun d => .tup [.sym .u64 (d.1 * d.2.1 / 18446744073709551616), .sym .u64 (d.1 * d.2.1 % 18446744073709551616)]
theorem mul_ok : ConOk Try.prog E 104 cMul := conP_ok fun d hd => fact_run .nil noLoops_ok (ts := [111, 111]) rfl (s104 d.1 d.2.1 hd.1 hd.2)
noncomputable def ctG : CTab T := [(104, cMul), (64, cWithin)]
theorem ctG_ok : CTabOk Try.prog E ctG := .cons mul_ok (.cons within_ok .nil)
@[reducible] def vf (L R A G Y V q : Int) : Prop := (1 ≤ L ∧ L ≤ 1048576) ∧ (0 ≤ R ∧ R ≤ L) ∧ (1 ≤ A ∧ A ≤ 5000) ∧ (1 ≤ G ∧ G ≤ 200) ∧ (0 ≤ Y ∧ Y ≤ 1000000) ∧ (1 ≤ V ∧ V ≤ 1000000) ∧ (0 ≤ q ∧ q ≤ 1000000)
theorem tv78 (L R A G Y V q : Int) : runX ctG noLoops 78 [.agg [i64 L, i64 R, i64 A, i64 G], .agg [i64 Y, i64 V], i64 q] [4] =
  (.br (decide (L < (1 : Int)))
   (.leaf (.bool (false)))
   (.br (!within R (0 : Int) L)
    (.leaf (.bool (false)))
    (.br (!within A (1 : Int) (5000 : Int))
     (.leaf (.bool (false)))
     (.br (!within G (1 : Int) (200 : Int))
      (.leaf (.bool (false)))
      (.br (decide (IntKind.wrap IntKind.i64 ((0 : Int) + L) ≥ (0 : Int)))
       (.br (decide (IntKind.wrap IntKind.i64 ((0 : Int) + L) > (1048576 : Int)))
        (.leaf (.bool (false)))
        (.br (within Y (0 : Int) (1000000 : Int))
         (.br (within V (1 : Int) (1000000 : Int))
          (.leaf (.bool (within q (0 : Int) (1000000 : Int))))
          (.leaf (.bool (false))))
         (.leaf (.bool (false)))))
       (.leaf (.bool (false)))))))) := by kernel_rfl
theorem s78 (L R A G Y V q : Int) (hL : -9223372036854775808 ≤ L ∧ L ≤ 9223372036854775807) : (runX ctG noLoops 78 [.agg [i64 L, i64 R, i64 A, i64 G], .agg [i64 Y, i64 V], i64 q] [4]).holds fun v => v = .bool (decide (vf L R A G Y V q)) := by
  rw [tv78]
  have no : ¬ vf L R A G Y V q → AV.bool (T := T) false = .bool (decide (vf L R A G Y V q)) := fun h => congrArg AV.bool (decide_eq_false h).symm
  have nw : ∀ {a b c : Int}, (!within a b c) = true → ¬ (b ≤ a ∧ a ≤ c) := fun k h => by
    rw [show within _ _ _ = true from decide_eq_true h] at k; exact absurd k (by decide)
  have yw : ∀ {a b c : Int}, (!within a b c) = false → b ≤ a ∧ a ≤ c := fun {a b c} k => by
    have : within a b c = true := by simpa using k
    exact of_decide_eq_true this
  refine way (fun c => no fun h => by omega) fun c => wayB (fun k => no fun h => nw k h.2.1) fun k => wayB (fun k2 => no fun h => nw k2 h.2.2.1) fun k2 => wayB (fun k3 => no fun h => nw k3 h.2.2.2.1) fun k3 => ?_
  rw [i64_in' (n := 0 + L) (by omega) (by omega)]
  have y1 := yw k
  have y2 := yw k2
  have y3 := yw k3
  refine way (fun c2 => way (fun c3 => no fun h => by have := h.1; omega) fun c3 => way (fun c4 => way (fun c5 => ?_) fun c5 => no fun h => c5 h.2.2.2.2.2.1) fun c4 => no fun h => c4 h.2.2.2.2.1) fun c2 => absurd c2 (by omega)
  exact congrArg AV.bool (decide_eq_decide.2 ⟨fun h => ⟨by omega, y1, y2, y3, c4, c5, h⟩, fun h => h.2.2.2.2.2.2⟩)
/-- At least so much flows. -/
def pB (A G Y V g q : Int) : Bool := bif decide (g * G ≤ Y) then decide (q = 0) else decide ((q * V) * ((g * G) * (g * G)) ≤ ((g * G - Y) * (g * G - Y)) * ((2 * (g * G) + Y) * (G * A)))
theorem tv81 (L R A G Y V g q : Int) : runX ctG noLoops 81 [.agg [i64 L, i64 R, i64 A, i64 G], .agg [i64 Y, i64 V], i64 g, i64 q] [4] =
  (.br (decide (IntKind.wrap IntKind.i64 (g * G) ≤ Y))
   (.leaf (.bool (q == (0 : Int))))
   (.req (((0 : Int) ≤ IntKind.wrap IntKind.u64 (IntKind.wrap IntKind.i64 (IntKind.wrap IntKind.i64 (IntKind.wrap IntKind.i64 (g * G) - Y) * IntKind.wrap IntKind.i64 (IntKind.wrap IntKind.i64 (g * G) - Y))) ∧ IntKind.wrap IntKind.u64 (IntKind.wrap IntKind.i64 (IntKind.wrap IntKind.i64 (IntKind.wrap IntKind.i64 (g * G) - Y) * IntKind.wrap IntKind.i64 (IntKind.wrap IntKind.i64 (g * G) - Y))) < (18446744073709551616 : Int)) ∧ (0 : Int) ≤ IntKind.wrap IntKind.u64 (IntKind.wrap IntKind.i64 (IntKind.wrap IntKind.i64 (IntKind.wrap IntKind.i64 (IntKind.wrap IntKind.i64 ((2 : Int) * IntKind.wrap IntKind.i64 (g * G)) + Y) * G) * A)) ∧ IntKind.wrap IntKind.u64 (IntKind.wrap IntKind.i64 (IntKind.wrap IntKind.i64 (IntKind.wrap IntKind.i64 (IntKind.wrap IntKind.i64 ((2 : Int) * IntKind.wrap IntKind.i64 (g * G)) + Y) * G) * A)) < (18446744073709551616 : Int))
   (.req (((0 : Int) ≤ IntKind.wrap IntKind.u64 (IntKind.wrap IntKind.i64 (q * V)) ∧ IntKind.wrap IntKind.u64 (IntKind.wrap IntKind.i64 (q * V)) < (18446744073709551616 : Int)) ∧ (0 : Int) ≤ IntKind.wrap IntKind.u64 (IntKind.wrap IntKind.i64 (IntKind.wrap IntKind.i64 (g * G) * IntKind.wrap IntKind.i64 (g * G))) ∧ IntKind.wrap IntKind.u64 (IntKind.wrap IntKind.i64 (IntKind.wrap IntKind.i64 (g * G) * IntKind.wrap IntKind.i64 (g * G))) < (18446744073709551616 : Int))
   (.br (IntKind.wrap IntKind.u64 (IntKind.wrap IntKind.i64 (IntKind.wrap IntKind.i64 (IntKind.wrap IntKind.i64 (g * G) - Y) * IntKind.wrap IntKind.i64 (IntKind.wrap IntKind.i64 (g * G) - Y))) * IntKind.wrap IntKind.u64 (IntKind.wrap IntKind.i64 (IntKind.wrap IntKind.i64 (IntKind.wrap IntKind.i64 (IntKind.wrap IntKind.i64 ((2 : Int) * IntKind.wrap IntKind.i64 (g * G)) + Y) * G) * A)) / (18446744073709551616 : Int) == IntKind.wrap IntKind.u64 (IntKind.wrap IntKind.i64 (q * V)) * IntKind.wrap IntKind.u64 (IntKind.wrap IntKind.i64 (IntKind.wrap IntKind.i64 (g * G) * IntKind.wrap IntKind.i64 (g * G))) / (18446744073709551616 : Int) && (IntKind.wrap IntKind.u64 (IntKind.wrap IntKind.i64 (IntKind.wrap IntKind.i64 (IntKind.wrap IntKind.i64 (g * G) - Y) * IntKind.wrap IntKind.i64 (IntKind.wrap IntKind.i64 (g * G) - Y))) * IntKind.wrap IntKind.u64 (IntKind.wrap IntKind.i64 (IntKind.wrap IntKind.i64 (IntKind.wrap IntKind.i64 (IntKind.wrap IntKind.i64 ((2 : Int) * IntKind.wrap IntKind.i64 (g * G)) + Y) * G) * A)) % (18446744073709551616 : Int) == IntKind.wrap IntKind.u64 (IntKind.wrap IntKind.i64 (q * V)) * IntKind.wrap IntKind.u64 (IntKind.wrap IntKind.i64 (IntKind.wrap IntKind.i64 (g * G) * IntKind.wrap IntKind.i64 (g * G))) % (18446744073709551616 : Int) && true))
    (.leaf (.bool (true)))
    (.br (decide (IntKind.wrap IntKind.u64 (IntKind.wrap IntKind.i64 (q * V)) * IntKind.wrap IntKind.u64 (IntKind.wrap IntKind.i64 (IntKind.wrap IntKind.i64 (g * G) * IntKind.wrap IntKind.i64 (g * G))) / (18446744073709551616 : Int) < IntKind.wrap IntKind.u64 (IntKind.wrap IntKind.i64 (IntKind.wrap IntKind.i64 (IntKind.wrap IntKind.i64 (g * G) - Y) * IntKind.wrap IntKind.i64 (IntKind.wrap IntKind.i64 (g * G) - Y))) * IntKind.wrap IntKind.u64 (IntKind.wrap IntKind.i64 (IntKind.wrap IntKind.i64 (IntKind.wrap IntKind.i64 (IntKind.wrap IntKind.i64 ((2 : Int) * IntKind.wrap IntKind.i64 (g * G)) + Y) * G) * A)) / (18446744073709551616 : Int)))
     (.leaf (.bool (true)))
     (.br (IntKind.wrap IntKind.u64 (IntKind.wrap IntKind.i64 (q * V)) * IntKind.wrap IntKind.u64 (IntKind.wrap IntKind.i64 (IntKind.wrap IntKind.i64 (g * G) * IntKind.wrap IntKind.i64 (g * G))) / (18446744073709551616 : Int) == IntKind.wrap IntKind.u64 (IntKind.wrap IntKind.i64 (IntKind.wrap IntKind.i64 (IntKind.wrap IntKind.i64 (g * G) - Y) * IntKind.wrap IntKind.i64 (IntKind.wrap IntKind.i64 (g * G) - Y))) * IntKind.wrap IntKind.u64 (IntKind.wrap IntKind.i64 (IntKind.wrap IntKind.i64 (IntKind.wrap IntKind.i64 (IntKind.wrap IntKind.i64 ((2 : Int) * IntKind.wrap IntKind.i64 (g * G)) + Y) * G) * A)) / (18446744073709551616 : Int))
      (.leaf (.bool (decide (IntKind.wrap IntKind.u64 (IntKind.wrap IntKind.i64 (q * V)) * IntKind.wrap IntKind.u64 (IntKind.wrap IntKind.i64 (IntKind.wrap IntKind.i64 (g * G) * IntKind.wrap IntKind.i64 (g * G))) % (18446744073709551616 : Int) < IntKind.wrap IntKind.u64 (IntKind.wrap IntKind.i64 (IntKind.wrap IntKind.i64 (IntKind.wrap IntKind.i64 (g * G) - Y) * IntKind.wrap IntKind.i64 (IntKind.wrap IntKind.i64 (g * G) - Y))) * IntKind.wrap IntKind.u64 (IntKind.wrap IntKind.i64 (IntKind.wrap IntKind.i64 (IntKind.wrap IntKind.i64 (IntKind.wrap IntKind.i64 ((2 : Int) * IntKind.wrap IntKind.i64 (g * G)) + Y) * G) * A)) % (18446744073709551616 : Int)))))
      (.leaf (.bool (false))))))))) := by kernel_rfl
theorem s81 (L R A G Y V g q : Int) (h : vf L R A G Y V q) (hg : 0 ≤ g ∧ g ≤ 20000) : (runX ctG noLoops 81 [.agg [i64 L, i64 R, i64 A, i64 G], .agg [i64 Y, i64 V], i64 g, i64 q] [4]).holds fun v => v = .bool (pB A G Y V g q) := by
  rw [tv81]
  obtain ⟨h1, h2, h3, h4, h5, h6, h7⟩ := h
  have ht := mulb (a := g) (b := G) (m := 20000) (k := 200) hg.1 hg.2 (by omega) h4.2
  rw [i64_in' (n := g * G) (by omega) (by omega)]
  unfold pB
  generalize g * G = t at *
  refine way (fun c => ?_) fun c => ?_
  · rw [decide_eq_true c, Bool.cond_true]
    exact congrArg AV.bool (Bool.eq_iff_iff.2 (by simp))
  · rw [decide_eq_false c]
    rw [Bool.cond_false]
    have b1 := mulb (a := t - Y) (b := t - Y) (m := 4000000) (k := 4000000) (by omega) (by omega) (by omega) (by omega)
    have b2 := mulb (a := 2 * t + Y) (b := G) (m := 9000000) (k := 200) (by omega) (by omega) (by omega) h4.2
    have b3 := mulb (a := (2 * t + Y) * G) (b := A) (m := 1800000000) (k := 5000) b2.1 b2.2 (by omega) h3.2
    have b4 := mulb (a := q) (b := V) (m := 1000000) (k := 1000000) h7.1 h7.2 (by omega) h6.2
    have b5 := mulb (a := t) (b := t) (m := 4000000) (k := 4000000) (by omega) (by omega) (by omega) (by omega)
    rw [i64_in' (n := t - Y) (by omega) (by omega), i64_in' (n := 2 * t) (by omega) (by omega), i64_in' (n := 2 * t + Y) (by omega) (by omega), i64_in' (n := (2 * t + Y) * G) (by omega) (by omega), i64_in' (n := (2 * t + Y) * G * A) (by omega) (by omega), i64_in' (n := (t - Y) * (t - Y)) (by omega) (by omega), i64_in' (n := q * V) (by omega) (by omega), i64_in' (n := t * t) (by omega) (by omega)]
    rw [wrapU_in (n := (t - Y) * (t - Y)) (by omega) (by omega), wrapU_in (n := (2 * t + Y) * G * A) (by omega) (by omega), wrapU_in (n := q * V) (by omega) (by omega), wrapU_in (n := t * t) (by omega) (by omega)]
    rw [show (2 * t + Y) * G * A = (2 * t + Y) * (G * A) from Int.mul_assoc _ _ _]
    rw [Int.mul_assoc (2 * t + Y) G A] at b3
    refine ⟨⟨by omega, by omega⟩, ⟨by omega, by omega⟩, ?_⟩
    generalize (t - Y) * (t - Y) * ((2 * t + Y) * (G * A)) = X
    generalize q * V * (t * t) = W
    refine wayB (fun k => ?_) fun k => way (fun k2 => ?_) fun k2 => wayEq (fun k3 => ?_) fun k3 => ?_
    · rw [Bool.and_eq_true, Bool.and_eq_true, beq_iff_eq, beq_iff_eq] at k
      exact congrArg AV.bool (decide_eq_true (by omega)).symm
    · exact congrArg AV.bool (decide_eq_true (by omega)).symm
    · have k4 : ¬ X % 18446744073709551616 = W % 18446744073709551616 := fun h => by
        rw [k3, h, beq_self_eq_true, beq_self_eq_true] at k; exact absurd k (by decide)
      exact congrArg AV.bool (decide_eq_decide.2 (by omega))
    · exact congrArg AV.bool (decide_eq_false (by omega)).symm
@[reducible] def shM : Sh := .agg [.i .i64, .i .i64]
noncomputable def cValid : Con T := conP Try.prog [shSg, shM, .one (.i .i64)] [.n, .n, .n, .n, .n, .n, .n] (fun d => -9223372036854775808 ≤ d.1 ∧ d.1 ≤ 9223372036854775807) fun d => .bool (decide (vf d.1 d.2.1 d.2.2.1 d.2.2.2.1 d.2.2.2.2.1 d.2.2.2.2.2.1 d.2.2.2.2.2.2.1))
theorem valid_ok : ConOk Try.prog E 78 cValid := conP_ok fun d hd => fact_run ctG_ok noLoops_ok (ts := [4]) rfl (s78 _ _ _ _ _ _ _ hd)
noncomputable def cFlows : Con T := conP Try.prog [shSg, shM, .one (.i .i64), .one (.i .i64)] [.n, .n, .n, .n, .n, .n, .n, .n] (fun d => vf d.1 d.2.1 d.2.2.1 d.2.2.2.1 d.2.2.2.2.1 d.2.2.2.2.2.1 d.2.2.2.2.2.2.2.1 ∧ 0 ≤ d.2.2.2.2.2.2.1 ∧ d.2.2.2.2.2.2.1 ≤ 20000) fun d => .bool (pB d.2.2.1 d.2.2.2.1 d.2.2.2.2.1 d.2.2.2.2.2.1 d.2.2.2.2.2.2.1 d.2.2.2.2.2.2.2.1)
theorem flows_ok : ConOk Try.prog E 81 cFlows := conP_ok fun d hd => fact_run ctG_ok noLoops_ok (ts := [4]) rfl (s81 _ _ _ _ _ _ _ _ hd.1 hd.2)
noncomputable def ctH : CTab T := [(78, cValid), (81, cFlows), (64, cWithin)]
theorem ctH_ok : CTabOk Try.prog E ctH := .cons valid_ok (.cons flows_ok (.cons within_ok .nil))
end Go.Proofs.Ytnhedcaphncliaa.W
