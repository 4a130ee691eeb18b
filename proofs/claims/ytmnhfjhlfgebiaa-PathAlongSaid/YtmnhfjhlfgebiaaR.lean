/- Contracts of the numbers that the statements are made of. No condition. -/
import Derived.Test.YtmnhfjhlfgebiaaA
import Derived.Test.YtmnhfjhlfgebiaaCz6
set_option linter.unusedVariables false
set_option maxRecDepth 100000
noncomputable section
namespace Go.Proofs.Ytmnhfjhlfgebiaa.W
open Go Go.Cx Go.RowKit
noncomputable def runR (ct : CTab T) (ll : Nat → Nat → LoopTab T) (f : Nat) (cs xs : List (AV T)) (ts : List Nat) : Tree (AV T × List (AV T)) := resR Try.prog E ts cs.length (callX Try.prog E ct ll 1000 8 (.fn f) xs (hpR cs))
theorem factR_run {ct : CTab T} (hc : CTabOk Try.prog E ct) {ll : Nat → Nat → LoopTab T} (hl : LLOk Try.prog E ll) {f : Nat} {cs xs : List (AV T)} {ts : List Nat} {v : AV T} {cs' : List (AV T)}
    (h : (runR ct ll f cs xs ts).holds fun x => x = (v, cs')) : FactR Try.prog E f cs xs v cs' :=
  factR_of_run good (callX_ok good names mixes hc hl 8) h
@[reducible] def mPre (a b : Int) : Prop := 0 < b ∧ b ≤ 4611686018427387904
noncomputable def cMod : Con T := conP Try.prog [.one (.i .i64), .one (.i .i64)] [.n, .n] (fun d => mPre d.1 d.2.1) (fun d => i64 (d.1 % d.2.1))
noncomputable def mTree (a b : Int) : Tree (AV T) :=
  (.req (decide (b ≠ (0 : Int)) = true)
  (.br (decide (Int.tmod a b < (0 : Int)))
   (.leaf (.sym .i64 (IntKind.wrap IntKind.i64 (Int.tmod a b + b))))
   (.leaf (.sym .i64 (Int.tmod a b)))))
theorem mTree_ok {a b : Int} (h0 : 0 < b) (h1 : b ≤ 4611686018427387904) : (mTree a b).holds fun x => x = i64 (a % b) := by
  have h2 := Int.tmod_lt_of_pos a h0
  have h3 := Int.tmod_lt_of_pos (-a) h0
  rw [Int.neg_tmod] at h3
  have h4 := Int.mul_tdiv_add_tmod a b
  unfold mTree
  refine ⟨decide_eq_true (by omega), way (fun h => ?_) fun h => ?_⟩
  · rw [show IntKind.wrap IntKind.i64 (Int.tmod a b + b) = Int.tmod a b + b from i64_in' (by omega) (by omega)]
    exact congrArg i64 ((Int.ediv_emod_unique h0 (q := Int.tdiv a b - 1)).2 ⟨by rw [Int.mul_sub, Int.mul_one]; omega, by omega, by omega⟩).2.symm
  · exact congrArg i64 ((Int.ediv_emod_unique h0 (q := Int.tdiv a b)).2 ⟨by omega, by omega, by omega⟩).2.symm
theorem t81 (a b : Int) : runX [] noLoops 81 [i64 a, i64 b] [3] = mTree a b := by kernel_rfl
theorem mod_ok : ConOk Try.prog E 81 cMod := conP_ok fun d hd => fact_run .nil noLoops_ok (ts := [3]) rfl (by
  obtain ⟨a, b, ⟨⟩⟩ := d
  show (runX [] noLoops 81 [i64 a, i64 b] [3]).holds _
  rw [t81]
  exact mTree_ok hd.1 hd.2)
theorem t35 (a b : Int) : runX [] noLoops 35 [i64 a, i64 b] [2] = mTree a b := by kernel_rfl
theorem mod64_ok : ConOk Try.prog E 35 cMod := conP_ok fun d hd => fact_run .nil noLoops_ok (ts := [2]) rfl (by
  obtain ⟨a, b, ⟨⟩⟩ := d
  show (runX [] noLoops 35 [i64 a, i64 b] [2]).holds _
  rw [t35]
  exact mTree_ok hd.1 hd.2)

/-- What the ring tells at its b-th number. -/
noncomputable def ringV (l : List Int) (b n : Int) : Int := (b * 7919 % 10007 + (if 0 < (l.length : Int) then (show Int from ixD E 3 l (b % (l.length : Int))) % 1048576 / (1 + b / (l.length : Int)) else 0)) % n
theorem ringV_bd {l : List Int} {b n : Int} (hn : 0 < n) : 0 ≤ ringV l b n ∧ ringV l b n < n := ⟨Int.emod_nonneg _ (by omega), Int.emod_lt_of_pos _ hn⟩
@[reducible] def rPre (a n : Int) : Prop := (0 ≤ a ∧ a ≤ 1000000000) ∧ 0 < n
noncomputable def cNext : Con T := conR Try.prog [.one (.o 0 0), .one (.i .i64)] [.s 3, .i .i64] [.n, .l 3, .n] fun d => .req (rPre d.2.2.1 d.1) (.leaf (i64 (ringV d.2.1 (d.2.2.1 + 1) d.1), [.l 3 d.2.1, .n (d.2.2.1 + 1)]))
theorem t71 (l : List Int) (a n : Int) : runR [(81, cMod)] noLoops 71 [.sl 3 l false, i64 a] [.ptr 0 0, i64 n] [3] =
  (.br (decide ((↑(List.length l) : Int) > (0 : Int)))
   (.req (decide ((↑(List.length l) : Int) ≠ (0 : Int)) = true)
   (.req ((decide ((0 : Int) ≤ Int.tmod (IntKind.wrap IntKind.i64 (a + (1 : Int))) (↑(List.length l) : Int)) && decide (Int.tmod (IntKind.wrap IntKind.i64 (a + (1 : Int))) (↑(List.length l) : Int) < (↑(List.length l) : Int))) = true)
   (.req ((0 : Int) < (1048576 : Int) ∧ (1048576 : Int) ≤ (4611686018427387904 : Int))
   (.req (decide ((↑(List.length l) : Int) ≠ (0 : Int)) = true)
   (.req (decide (IntKind.wrap IntKind.i64 ((1 : Int) + IntKind.wrap IntKind.i64 (Int.tdiv (IntKind.wrap IntKind.i64 (a + (1 : Int))) (↑(List.length l) : Int))) ≠ (0 : Int)) = true)
   (.req (decide (n ≠ (0 : Int)) = true)
   (.leaf ((.sym .i64 (Int.tmod (IntKind.wrap IntKind.i64 (Int.tmod (IntKind.wrap IntKind.i64 (IntKind.wrap IntKind.i64 (a + (1 : Int)) * (7919 : Int))) (10007 : Int) + IntKind.wrap IntKind.i64 (Int.tdiv ((show Int from ixD E (3 : Nat) l (Int.tmod (IntKind.wrap IntKind.i64 (a + (1 : Int))) (↑(List.length l) : Int))) % (1048576 : Int)) (IntKind.wrap IntKind.i64 ((1 : Int) + IntKind.wrap IntKind.i64 (Int.tdiv (IntKind.wrap IntKind.i64 (a + (1 : Int))) (↑(List.length l) : Int))))))) n), [.sl (3 : Nat) (l) false, .sym .i64 (IntKind.wrap IntKind.i64 (a + (1 : Int)))])))))))))
   (.req (decide (n ≠ (0 : Int)) = true)
   (.leaf ((.sym .i64 (Int.tmod (Int.tmod (IntKind.wrap IntKind.i64 (IntKind.wrap IntKind.i64 (a + (1 : Int)) * (7919 : Int))) (10007 : Int)) n), [.sl (3 : Nat) (l) false, .sym .i64 (IntKind.wrap IntKind.i64 (a + (1 : Int)))]))))) := by kernel_rfl
theorem next_run (l : List Int) (a n : Int) (h : rPre a n) : (runR [(81, cMod)] noLoops 71 [.sl 3 l false, i64 a] [.ptr 0 0, i64 n] [3]).holds fun x => x = (i64 (ringV l (a + 1) n), [.sl 3 l false, i64 (a + 1)]) := by
  rw [t71]
  have e1 : IntKind.wrap IntKind.i64 (a + 1) = a + 1 := i64_in' (by omega) (by omega)
  have e2 : IntKind.wrap IntKind.i64 ((a + 1) * 7919) = (a + 1) * 7919 := i64_in' (by omega) (by omega)
  have e3 : Int.tmod ((a + 1) * 7919) 10007 = (a + 1) * 7919 % 10007 := Int.tmod_eq_emod_of_nonneg (by omega)
  rw [e1, e2, e3]
  refine way (fun hl => ?_) fun hl => ?_
  · have q1 : Int.tdiv (a + 1) (l.length : Int) = (a + 1) / (l.length : Int) := Int.tdiv_eq_ediv_of_nonneg (by omega)
    have q2 : Int.tmod (a + 1) (l.length : Int) = (a + 1) % (l.length : Int) := Int.tmod_eq_emod_of_nonneg (by omega)
    have q3 : 0 ≤ (a + 1) / (l.length : Int) := Int.ediv_nonneg (by omega) (by omega)
    have q4 : (a + 1) / (l.length : Int) ≤ a + 1 := Int.ediv_le_self _ (by omega)
    have q5 : 0 ≤ (a + 1) % (l.length : Int) := Int.emod_nonneg _ (by omega)
    have q6 : (a + 1) % (l.length : Int) < (l.length : Int) := Int.emod_lt_of_pos _ (by omega)
    have e4 : IntKind.wrap IntKind.i64 ((a + 1) / (l.length : Int)) = (a + 1) / (l.length : Int) := i64_in' (by omega) (by omega)
    have e5 : IntKind.wrap IntKind.i64 (1 + (a + 1) / (l.length : Int)) = 1 + (a + 1) / (l.length : Int) := i64_in' (by omega) (by omega)
    rw [q1, q2, e4, e5]
    generalize hx : (show Int from ixD E (3 : Nat) l ((a + 1) % (l.length : Int))) = x
    have m1 : 0 ≤ x % 1048576 ∧ x % 1048576 < 1048576 := by omega
    have m2 : Int.tdiv (x % 1048576) (1 + (a + 1) / (l.length : Int)) = x % 1048576 / (1 + (a + 1) / (l.length : Int)) := Int.tdiv_eq_ediv_of_nonneg (by omega)
    have m3 : 0 ≤ x % 1048576 / (1 + (a + 1) / (l.length : Int)) := Int.ediv_nonneg (by omega) (by omega)
    have m4 : x % 1048576 / (1 + (a + 1) / (l.length : Int)) ≤ x % 1048576 := Int.ediv_le_self _ (by omega)
    have e6 : IntKind.wrap IntKind.i64 (x % 1048576 / (1 + (a + 1) / (l.length : Int))) = x % 1048576 / (1 + (a + 1) / (l.length : Int)) := i64_in' (by omega) (by omega)
    rw [m2, e6]
    have e7 : IntKind.wrap IntKind.i64 ((a + 1) * 7919 % 10007 + x % 1048576 / (1 + (a + 1) / (l.length : Int))) = (a + 1) * 7919 % 10007 + x % 1048576 / (1 + (a + 1) / (l.length : Int)) := i64_in' (by omega) (by omega)
    have e8 : Int.tmod ((a + 1) * 7919 % 10007 + x % 1048576 / (1 + (a + 1) / (l.length : Int))) n = ringV l (a + 1) n := by
      rw [Int.tmod_eq_emod_of_nonneg (by omega)]
      unfold ringV
      rw [if_pos hl]
      rw [← hx]
    rw [e7, e8]
    exact ⟨decide_eq_true (by omega), by simp [q5, q6], ⟨by omega, by omega⟩, decide_eq_true (by omega), decide_eq_true (by omega), decide_eq_true (by omega), rfl⟩
  · have e8 : Int.tmod ((a + 1) * 7919 % 10007) n = ringV l (a + 1) n := by
      rw [Int.tmod_eq_emod_of_nonneg (by omega)]
      unfold ringV
      rw [if_neg hl, Int.add_zero]
    rw [e8]
    exact ⟨decide_eq_true (by omega), rfl⟩
theorem next_ok : ConOk Try.prog E 71 cNext := conR_ok fun d K ⟨h1, h2⟩ => ⟨_, h2, fun cs' hcs' => by
  obtain ⟨n, l, a, ⟨⟩⟩ := d
  cases hcs'
  exact factR_run (.cons mod_ok .nil) noLoops_ok (ts := [3]) (next_run l a n h1)⟩
end Go.Proofs.Ytmnhfjhlfgebiaa.W
