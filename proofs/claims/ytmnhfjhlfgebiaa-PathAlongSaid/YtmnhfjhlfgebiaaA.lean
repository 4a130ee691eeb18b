/- Contracts of small functions. No condition. -/
import Derived.Test.YtmnhfjhlfgebiaaTy
set_option linter.unusedVariables false
set_option maxRecDepth 100000
noncomputable section
namespace Go.Proofs.Ytmnhfjhlfgebiaa.W
open Go Go.Cx Go.RowKit
@[reducible] noncomputable def i64 (n : Int) : AV T := .sym .i64 n
noncomputable def runX (ct : CTab T) (ll : Nat → Nat → LoopTab T) (f : Nat) (xs : List (AV T)) (ts : List Nat) : Tree (AV T) := resX Try.prog E ts (callX Try.prog E ct ll 1000 8 (.fn f) xs hp0)
theorem fact_run {ct : CTab T} (hc : CTabOk Try.prog E ct) {ll : Nat → Nat → LoopTab T} (hl : LLOk Try.prog E ll) {f : Nat} {xs : List (AV T)} {ts : List Nat} {v : AV T} (ha : xs.all flt2 = true)
    (h : (runX ct ll f xs ts).holds fun x => x = v) : Fact Try.prog E f xs v :=
  fact_of_run good decOk (callX_ok good names mixes hc hl 8) ha h

@[reducible] def within (a b c : Int) : Bool := decide (b ≤ a ∧ a ≤ c)
noncomputable def cWithin : Con T := conV Try.prog [.one (.i .i64), .one (.i .i64), .one (.i .i64)] [.n, .n, .n] (fun d => .bool (within d.1 d.2.1 d.2.2.1))
theorem t102 (a b c : Int) : runX [] noLoops 102 [i64 a, i64 b, i64 c] [4] =
  (.br (decide (b ≤ a))
   (.leaf (.bool (decide (a ≤ c))))
   (.leaf (.bool (false)))) := by kernel_rfl
theorem within_ok : ConOk Try.prog E 102 cWithin := conV_ok fun d => fact_run .nil noLoops_ok (ts := [4]) rfl (by
  obtain ⟨a, b, c, ⟨⟩⟩ := d
  show (runX [] noLoops 102 [i64 a, i64 b, i64 c] [4]).holds _
  rw [t102]
  refine ⟨fun h => ?_, fun h => ?_⟩
  · have h := of_decide_eq_true h
    exact congrArg AV.bool (by simp [within, h])
  · have h := of_decide_eq_false h
    exact congrArg AV.bool (by simp [within, h]))

theorem tq {a b : Int} (hb : 0 < b) : Int.tdiv a b * b + Int.tmod a b = a := by
  have := Int.mul_tdiv_add_tmod a b
  rw [Int.mul_comm] at this
  exact this
theorem tm_lo {a b : Int} (hb : 0 < b) : -b < Int.tmod a b := by
  have := Int.tmod_lt_of_pos (-a) hb
  rw [Int.neg_tmod] at this
  omega
theorem td_abs {a b : Int} (hb : 0 < b) (h1 : -4611686018427387904 ≤ a) (h2 : a ≤ 4611686018427387904) : -4611686018427387904 ≤ Int.tdiv a b ∧ Int.tdiv a b ≤ 4611686018427387904 := by
  have := Int.natAbs_tdiv_le_natAbs a b
  omega
theorem fl_eq {a b : Int} (hb : 0 < b) : a / b = if Int.tmod a b < 0 then Int.tdiv a b - 1 else Int.tdiv a b := by
  have h1 := tq (a := a) hb
  have h2 := tm_lo (a := a) hb
  have h3 := Int.tmod_lt_of_pos a hb
  split
  · exact ((Int.ediv_emod_unique hb (r := Int.tmod a b + b)).2 ⟨by rw [Int.mul_comm]; rw [Int.sub_mul, Int.one_mul]; omega, by omega, by omega⟩).1
  · exact ((Int.ediv_emod_unique hb (r := Int.tmod a b)).2 ⟨by rw [Int.mul_comm]; omega, by omega, by omega⟩).1
@[reducible] def qPre (a b : Int) : Prop := 0 < b ∧ -4611686018427387904 ≤ a ∧ a ≤ 4611686018427387904
noncomputable def cFloor : Con T := conP Try.prog [.one (.i .i64), .one (.i .i64)] [.n, .n] (fun d => qPre d.1 d.2.1) (fun d => i64 (d.1 / d.2.1))
noncomputable def cCeil : Con T := conP Try.prog [.one (.i .i64), .one (.i .i64)] [.n, .n] (fun d => qPre d.1 d.2.1) (fun d => i64 (-(-d.1 / d.2.1)))
noncomputable def qTree (a b : Int) : Tree (AV T) :=
  (.req (decide (b ≠ (0 : Int)) = true)
  (.req (decide (b ≠ (0 : Int)) = true)
  (.br (decide (Int.tmod a b < (0 : Int)))
   (.leaf (.sym .i64 (IntKind.wrap IntKind.i64 (IntKind.wrap IntKind.i64 (Int.tdiv a b) - (1 : Int)))))
   (.leaf (.sym .i64 (IntKind.wrap IntKind.i64 (Int.tdiv a b)))))))
theorem qTree_ok {a b : Int} (h0 : 0 < b) (h1 : -4611686018427387904 ≤ a) (h2 : a ≤ 4611686018427387904) : (qTree a b).holds fun x => x = i64 (a / b) := by
  have h3 := td_abs h0 h1 h2
  have e1 : IntKind.wrap IntKind.i64 (Int.tdiv a b) = Int.tdiv a b := IntWalk.i64_in _ (by omega)
  have e2 : IntKind.wrap IntKind.i64 (Int.tdiv a b - 1) = Int.tdiv a b - 1 := IntWalk.i64_in _ (by omega)
  unfold qTree
  rw [e1, e2, fl_eq h0]
  refine ⟨decide_eq_true (by omega), decide_eq_true (by omega), fun h => ?_, fun h => ?_⟩
  · rw [if_pos (of_decide_eq_true h)]; rfl
  · rw [if_neg (of_decide_eq_false h)]; rfl
theorem t106 (a b : Int) : runX [] noLoops 106 [i64 a, i64 b] [2] = qTree a b := by kernel_rfl
theorem floor106_ok : ConOk Try.prog E 106 cFloor := conP_ok fun d hd => fact_run .nil noLoops_ok (ts := [2]) rfl (by
  obtain ⟨a, b, ⟨⟩⟩ := d
  show (runX [] noLoops 106 [i64 a, i64 b] [2]).holds _
  rw [t106]
  exact qTree_ok hd.1 hd.2.1 hd.2.2)
theorem t143 (a b : Int) : runX [] noLoops 143 [i64 a, i64 b] [2] = qTree a b := by kernel_rfl
theorem floor_ok : ConOk Try.prog E 143 cFloor := conP_ok fun d hd => fact_run .nil noLoops_ok (ts := [2]) rfl (by
  obtain ⟨a, b, ⟨⟩⟩ := d
  show (runX [] noLoops 143 [i64 a, i64 b] [2]).holds _
  rw [t143]
  exact qTree_ok hd.1 hd.2.1 hd.2.2)
end Go.Proofs.Ytmnhfjhlfgebiaa.W
