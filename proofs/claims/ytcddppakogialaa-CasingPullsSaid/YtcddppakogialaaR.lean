/- Contracts of the numbers that the statements are made of. No condition. -/
import Derived.Test.YtcddppakogialaaA
import Derived.Test.YtcddppakogialaaCz6
set_option linter.unusedVariables false
set_option maxRecDepth 100000
noncomputable section
namespace Go.Proofs.Ytcddppakogialaa.W
open Go Go.Cx Go.RowKit
noncomputable def runR (ct : CTab T) (ll : Nat → Nat → LoopTab T) (f : Nat) (cs xs : List (AV T)) (ts : List Nat) : Tree (AV T × List (AV T)) := resR Try.prog E ts cs.length (callX Try.prog E ct ll 1000 8 (.fn f) xs (hpR cs))
theorem factR_run {ct : CTab T} (hc : CTabOk Try.prog E ct) {ll : Nat → Nat → LoopTab T} (hl : LLOk Try.prog E ll) {f : Nat} {cs xs : List (AV T)} {ts : List Nat} {v : AV T} {cs' : List (AV T)}
    (h : (runR ct ll f cs xs ts).holds fun x => x = (v, cs')) : FactR Try.prog E f cs xs v cs' :=
  factR_of_run good (callX_ok good names mixes hc hl 8) h
@[reducible] def mPre (a b : Int) : Prop := 0 < b ∧ b ≤ 4611686018427387904
noncomputable def cMod : Con T := conP Try.prog [.one (.i .i64), .one (.i .i64)] [.n, .n] (fun d => mPre d.1 d.2.1) (fun d => i64 (d.1 % d.2.1))
noncomputable def mTree (a b : Int) : Tree (AV T) :=
  (.req (decide (b ≠ (0 : Int)) = true)
  (.br (decide (Int.tmod a b < (0 : Int)))
   (.leaf (.sym .i64 (IntKind.wrap IntKind.i64 (Int.tmod a b + b))))
   (.leaf (.sym .i64 (Int.tmod a b)))))
theorem mTree_ok {a b : Int} (h0 : 0 < b) (h1 : b ≤ 4611686018427387904) : (mTree a b).holds fun x => x = i64 (a % b) := by
  have h2 := Int.tmod_lt_of_pos a h0
  have h3 := Int.tmod_lt_of_pos (-a) h0
  rw [Int.neg_tmod] at h3
  have h4 := Int.mul_tdiv_add_tmod a b
  unfold mTree
  refine ⟨decide_eq_true (by omega), way (fun h => ?_) fun h => ?_⟩
  · rw [show IntKind.wrap IntKind.i64 (Int.tmod a b + b) = Int.tmod a b + b from i64_in' (by omega) (by omega)]
    exact congrArg i64 ((Int.ediv_emod_unique h0 (q := Int.tdiv a b - 1)).2 ⟨by rw [Int.mul_sub, Int.mul_one]; omega, by omega, by omega⟩).2.symm
  · exact congrArg i64 ((Int.ediv_emod_unique h0 (q := Int.tdiv a b)).2 ⟨by omega, by omega, by omega⟩).2.symm
theorem t48 (a b : Int) : runX [] noLoops 48 [i64 a, i64 b] [3] = mTree a b := by kernel_rfl
theorem mod_ok : ConOk Try.prog E 48 cMod := conP_ok fun d hd => fact_run .nil noLoops_ok (ts := [3]) rfl (by
  obtain ⟨a, b, ⟨⟩⟩ := d
  show (runX [] noLoops 48 [i64 a, i64 b] [3]).holds _
  rw [t48]
  exact mTree_ok hd.1 hd.2)
theorem t49 (a b : Int) : runX [] noLoops 49 [i64 a, i64 b] [2] = mTree a b := by kernel_rfl
theorem mod64_ok : ConOk Try.prog E 49 cMod := conP_ok fun d hd => fact_run .nil noLoops_ok (ts := [2]) rfl (by
  obtain ⟨a, b, ⟨⟩⟩ := d
  show (runX [] noLoops 49 [i64 a, i64 b] [2]).holds _
  rw [t49]
  exact mTree_ok hd.1 hd.2)
end Go.Proofs.Ytcddppakogialaa.W
