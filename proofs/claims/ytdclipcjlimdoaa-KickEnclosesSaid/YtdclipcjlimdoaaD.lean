/- KickFinds: what both find. -/
import Derived.Test.YtdclipcjlimdoaaC
set_option linter.unusedVariables false
set_option maxRecDepth 100000
noncomputable section
namespace Go.Proofs.Ytdclipcjlimdoaa.W
open Go Go.Cx Go.RowKit
theorem t57 (x : Shut) : runX ct1 noLoops 57 [x.av] [81, 32] =
  (.br (chk (shut (Range.Lo (Shut.Pipe x), Range.Hi (Shut.Pipe x), Range.Lo (Shut.Casing x), Range.Hi (Shut.Casing x), Range.Lo (Shut.Gain x), Range.Hi (Shut.Gain x), Shut.Weight x, Shut.Depth x, Shut.Area x, ())) != (0 : Int))
   (.leaf (.tup [.agg [.sym .i64 ((0 : Int)), .sym .i64 ((0 : Int)), .sym .i64 ((0 : Int)), .sym .i64 ((0 : Int)), .sym .i64 ((0 : Int)), .sym .i64 ((0 : Int)), .sym .i64 ((0 : Int))], .sym .i64 (chk (shut (Range.Lo (Shut.Pipe x), Range.Hi (Shut.Pipe x), Range.Lo (Shut.Casing x), Range.Hi (Shut.Casing x), Range.Lo (Shut.Gain x), Range.Hi (Shut.Gain x), Shut.Weight x, Shut.Depth x, Shut.Area x, ())))]))
   (.req ((0 : Int) < Shut.Area x ∧ (-4611686018427387904 : Int) ≤ Range.Lo (Shut.Gain x) ∧ Range.Lo (Shut.Gain x) ≤ (4611686018427387904 : Int))
   (.req ((0 : Int) < Shut.Area x ∧ (-4611686018427387904 : Int) ≤ Range.Hi (Shut.Gain x) ∧ Range.Hi (Shut.Gain x) ≤ (4611686018427387904 : Int))
   (.req ((0 : Int) < Range.Lo (Shut.Gain x) / Shut.Area x ∧ (-4611686018427387904 : Int) ≤ IntKind.wrap IntKind.i64 (Range.Hi (Shut.Casing x) - Range.Lo (Shut.Pipe x)) ∧ IntKind.wrap IntKind.i64 (Range.Hi (Shut.Casing x) - Range.Lo (Shut.Pipe x)) ≤ (4611686018427387904 : Int))
   (.req ((0 : Int) < -(-Range.Hi (Shut.Gain x) / Shut.Area x) ∧ (-4611686018427387904 : Int) ≤ IntKind.wrap IntKind.i64 (Range.Lo (Shut.Casing x) - Range.Hi (Shut.Pipe x)) ∧ IntKind.wrap IntKind.i64 (Range.Lo (Shut.Casing x) - Range.Hi (Shut.Pipe x)) ≤ (4611686018427387904 : Int))
   (.leaf (.tup [.agg [.sym .i64 (IntKind.wrap IntKind.i64 (Range.Lo (Shut.Pipe x) + IntKind.wrap IntKind.i64 (Shut.Weight x * Shut.Depth x))), .sym .i64 (IntKind.wrap IntKind.i64 (Range.Hi (Shut.Pipe x) + IntKind.wrap IntKind.i64 (Shut.Weight x * Shut.Depth x))), .sym .i64 (Range.Lo (Shut.Gain x) / Shut.Area x), .sym .i64 (-(-Range.Hi (Shut.Gain x) / Shut.Area x)), .sym .i64 (IntKind.wrap IntKind.i64 (Shut.Weight x - -(-IntKind.wrap IntKind.i64 (Range.Hi (Shut.Casing x) - Range.Lo (Shut.Pipe x)) / (Range.Lo (Shut.Gain x) / Shut.Area x)))), .sym .i64 (IntKind.wrap IntKind.i64 (Shut.Weight x - IntKind.wrap IntKind.i64 (Range.Lo (Shut.Casing x) - Range.Hi (Shut.Pipe x)) / -(-Range.Hi (Shut.Gain x) / Shut.Area x))), .sym .i64 (kind (IntKind.wrap IntKind.i64 (Shut.Weight x - -(-IntKind.wrap IntKind.i64 (Range.Hi (Shut.Casing x) - Range.Lo (Shut.Pipe x)) / (Range.Lo (Shut.Gain x) / Shut.Area x)))) (IntKind.wrap IntKind.i64 (Shut.Weight x - IntKind.wrap IntKind.i64 (Range.Lo (Shut.Casing x) - Range.Hi (Shut.Pipe x)) / -(-Range.Hi (Shut.Gain x) / Shut.Area x))))], .sym .i64 ((0 : Int))]))))))) := by kernel_rfl
theorem t58 (x : Shut) : runX ct2 noLoops 58 [x.av] [81, 32] =
  (.br (chk (shut (Range.Lo (Shut.Pipe x), Range.Hi (Shut.Pipe x), Range.Lo (Shut.Casing x), Range.Hi (Shut.Casing x), Range.Lo (Shut.Gain x), Range.Hi (Shut.Gain x), Shut.Weight x, Shut.Depth x, Shut.Area x, ())) != (0 : Int))
   (.leaf (.tup [.agg [.sym .i64 ((0 : Int)), .sym .i64 ((0 : Int)), .sym .i64 ((0 : Int)), .sym .i64 ((0 : Int)), .sym .i64 ((0 : Int)), .sym .i64 ((0 : Int)), .sym .i64 ((0 : Int))], .sym .i64 (chk (shut (Range.Lo (Shut.Pipe x), Range.Hi (Shut.Pipe x), Range.Lo (Shut.Casing x), Range.Hi (Shut.Casing x), Range.Lo (Shut.Gain x), Range.Hi (Shut.Gain x), Shut.Weight x, Shut.Depth x, Shut.Area x, ())))]))
   (.req ((0 : Int) < Shut.Area x ∧ (-4611686018427387904 : Int) ≤ Range.Lo (Shut.Gain x) ∧ Range.Lo (Shut.Gain x) ≤ (4611686018427387904 : Int))
   (.req ((0 : Int) < Shut.Area x ∧ (-4611686018427387904 : Int) ≤ IntKind.wrap IntKind.i64 ((0 : Int) - Range.Hi (Shut.Gain x)) ∧ IntKind.wrap IntKind.i64 ((0 : Int) - Range.Hi (Shut.Gain x)) ≤ (4611686018427387904 : Int))
   (.req ((0 : Int) < Range.Lo (Shut.Gain x) / Shut.Area x ∧ (-4611686018427387904 : Int) ≤ IntKind.wrap IntKind.i64 (Range.Lo (Shut.Pipe x) - Range.Hi (Shut.Casing x)) ∧ IntKind.wrap IntKind.i64 (Range.Lo (Shut.Pipe x) - Range.Hi (Shut.Casing x)) ≤ (4611686018427387904 : Int))
   (.req ((0 : Int) < IntKind.wrap IntKind.i64 ((0 : Int) - IntKind.wrap IntKind.i64 ((0 : Int) - Range.Hi (Shut.Gain x)) / Shut.Area x) ∧ (-4611686018427387904 : Int) ≤ IntKind.wrap IntKind.i64 (Range.Lo (Shut.Casing x) - Range.Hi (Shut.Pipe x)) ∧ IntKind.wrap IntKind.i64 (Range.Lo (Shut.Casing x) - Range.Hi (Shut.Pipe x)) ≤ (4611686018427387904 : Int))
   (.br (decide (IntKind.wrap IntKind.i64 (Shut.Weight x - IntKind.wrap IntKind.i64 (Range.Lo (Shut.Casing x) - Range.Hi (Shut.Pipe x)) / IntKind.wrap IntKind.i64 ((0 : Int) - IntKind.wrap IntKind.i64 ((0 : Int) - Range.Hi (Shut.Gain x)) / Shut.Area x)) ≤ (3500 : Int)))
    (.leaf (.tup [.agg [.sym .i64 (IntKind.wrap IntKind.i64 (Range.Lo (Shut.Pipe x) + IntKind.wrap IntKind.i64 (Shut.Weight x * Shut.Depth x))), .sym .i64 (IntKind.wrap IntKind.i64 (Range.Hi (Shut.Pipe x) + IntKind.wrap IntKind.i64 (Shut.Weight x * Shut.Depth x))), .sym .i64 (Range.Lo (Shut.Gain x) / Shut.Area x), .sym .i64 (IntKind.wrap IntKind.i64 ((0 : Int) - IntKind.wrap IntKind.i64 ((0 : Int) - Range.Hi (Shut.Gain x)) / Shut.Area x)), .sym .i64 (IntKind.wrap IntKind.i64 (Shut.Weight x + IntKind.wrap IntKind.i64 (Range.Lo (Shut.Pipe x) - Range.Hi (Shut.Casing x)) / (Range.Lo (Shut.Gain x) / Shut.Area x))), .sym .i64 (IntKind.wrap IntKind.i64 (Shut.Weight x - IntKind.wrap IntKind.i64 (Range.Lo (Shut.Casing x) - Range.Hi (Shut.Pipe x)) / IntKind.wrap IntKind.i64 ((0 : Int) - IntKind.wrap IntKind.i64 ((0 : Int) - Range.Hi (Shut.Gain x)) / Shut.Area x))), .sym .i64 ((1 : Int))], .sym .i64 ((0 : Int))]))
    (.br (decide (IntKind.wrap IntKind.i64 (Shut.Weight x + IntKind.wrap IntKind.i64 (Range.Lo (Shut.Pipe x) - Range.Hi (Shut.Casing x)) / (Range.Lo (Shut.Gain x) / Shut.Area x)) ≥ (9000 : Int)))
     (.leaf (.tup [.agg [.sym .i64 (IntKind.wrap IntKind.i64 (Range.Lo (Shut.Pipe x) + IntKind.wrap IntKind.i64 (Shut.Weight x * Shut.Depth x))), .sym .i64 (IntKind.wrap IntKind.i64 (Range.Hi (Shut.Pipe x) + IntKind.wrap IntKind.i64 (Shut.Weight x * Shut.Depth x))), .sym .i64 (Range.Lo (Shut.Gain x) / Shut.Area x), .sym .i64 (IntKind.wrap IntKind.i64 ((0 : Int) - IntKind.wrap IntKind.i64 ((0 : Int) - Range.Hi (Shut.Gain x)) / Shut.Area x)), .sym .i64 (IntKind.wrap IntKind.i64 (Shut.Weight x + IntKind.wrap IntKind.i64 (Range.Lo (Shut.Pipe x) - Range.Hi (Shut.Casing x)) / (Range.Lo (Shut.Gain x) / Shut.Area x))), .sym .i64 (IntKind.wrap IntKind.i64 (Shut.Weight x - IntKind.wrap IntKind.i64 (Range.Lo (Shut.Casing x) - Range.Hi (Shut.Pipe x)) / IntKind.wrap IntKind.i64 ((0 : Int) - IntKind.wrap IntKind.i64 ((0 : Int) - Range.Hi (Shut.Gain x)) / Shut.Area x))), .sym .i64 ((3 : Int))], .sym .i64 ((0 : Int))]))
     (.br (decide (IntKind.wrap IntKind.i64 (Shut.Weight x + IntKind.wrap IntKind.i64 (Range.Lo (Shut.Pipe x) - Range.Hi (Shut.Casing x)) / (Range.Lo (Shut.Gain x) / Shut.Area x)) ≥ (3501 : Int)))
      (.br (decide (IntKind.wrap IntKind.i64 (Shut.Weight x - IntKind.wrap IntKind.i64 (Range.Lo (Shut.Casing x) - Range.Hi (Shut.Pipe x)) / IntKind.wrap IntKind.i64 ((0 : Int) - IntKind.wrap IntKind.i64 ((0 : Int) - Range.Hi (Shut.Gain x)) / Shut.Area x)) ≤ (8999 : Int)))
       (.leaf (.tup [.agg [.sym .i64 (IntKind.wrap IntKind.i64 (Range.Lo (Shut.Pipe x) + IntKind.wrap IntKind.i64 (Shut.Weight x * Shut.Depth x))), .sym .i64 (IntKind.wrap IntKind.i64 (Range.Hi (Shut.Pipe x) + IntKind.wrap IntKind.i64 (Shut.Weight x * Shut.Depth x))), .sym .i64 (Range.Lo (Shut.Gain x) / Shut.Area x), .sym .i64 (IntKind.wrap IntKind.i64 ((0 : Int) - IntKind.wrap IntKind.i64 ((0 : Int) - Range.Hi (Shut.Gain x)) / Shut.Area x)), .sym .i64 (IntKind.wrap IntKind.i64 (Shut.Weight x + IntKind.wrap IntKind.i64 (Range.Lo (Shut.Pipe x) - Range.Hi (Shut.Casing x)) / (Range.Lo (Shut.Gain x) / Shut.Area x))), .sym .i64 (IntKind.wrap IntKind.i64 (Shut.Weight x - IntKind.wrap IntKind.i64 (Range.Lo (Shut.Casing x) - Range.Hi (Shut.Pipe x)) / IntKind.wrap IntKind.i64 ((0 : Int) - IntKind.wrap IntKind.i64 ((0 : Int) - Range.Hi (Shut.Gain x)) / Shut.Area x))), .sym .i64 ((2 : Int))], .sym .i64 ((0 : Int))]))
       (.leaf (.tup [.agg [.sym .i64 (IntKind.wrap IntKind.i64 (Range.Lo (Shut.Pipe x) + IntKind.wrap IntKind.i64 (Shut.Weight x * Shut.Depth x))), .sym .i64 (IntKind.wrap IntKind.i64 (Range.Hi (Shut.Pipe x) + IntKind.wrap IntKind.i64 (Shut.Weight x * Shut.Depth x))), .sym .i64 (Range.Lo (Shut.Gain x) / Shut.Area x), .sym .i64 (IntKind.wrap IntKind.i64 ((0 : Int) - IntKind.wrap IntKind.i64 ((0 : Int) - Range.Hi (Shut.Gain x)) / Shut.Area x)), .sym .i64 (IntKind.wrap IntKind.i64 (Shut.Weight x + IntKind.wrap IntKind.i64 (Range.Lo (Shut.Pipe x) - Range.Hi (Shut.Casing x)) / (Range.Lo (Shut.Gain x) / Shut.Area x))), .sym .i64 (IntKind.wrap IntKind.i64 (Shut.Weight x - IntKind.wrap IntKind.i64 (Range.Lo (Shut.Casing x) - Range.Hi (Shut.Pipe x)) / IntKind.wrap IntKind.i64 ((0 : Int) - IntKind.wrap IntKind.i64 ((0 : Int) - Range.Hi (Shut.Gain x)) / Shut.Area x))), .sym .i64 ((4 : Int))], .sym .i64 ((0 : Int))])))
      (.leaf (.tup [.agg [.sym .i64 (IntKind.wrap IntKind.i64 (Range.Lo (Shut.Pipe x) + IntKind.wrap IntKind.i64 (Shut.Weight x * Shut.Depth x))), .sym .i64 (IntKind.wrap IntKind.i64 (Range.Hi (Shut.Pipe x) + IntKind.wrap IntKind.i64 (Shut.Weight x * Shut.Depth x))), .sym .i64 (Range.Lo (Shut.Gain x) / Shut.Area x), .sym .i64 (IntKind.wrap IntKind.i64 ((0 : Int) - IntKind.wrap IntKind.i64 ((0 : Int) - Range.Hi (Shut.Gain x)) / Shut.Area x)), .sym .i64 (IntKind.wrap IntKind.i64 (Shut.Weight x + IntKind.wrap IntKind.i64 (Range.Lo (Shut.Pipe x) - Range.Hi (Shut.Casing x)) / (Range.Lo (Shut.Gain x) / Shut.Area x))), .sym .i64 (IntKind.wrap IntKind.i64 (Shut.Weight x - IntKind.wrap IntKind.i64 (Range.Lo (Shut.Casing x) - Range.Hi (Shut.Pipe x)) / IntKind.wrap IntKind.i64 ((0 : Int) - IntKind.wrap IntKind.i64 ((0 : Int) - Range.Hi (Shut.Gain x)) / Shut.Area x))), .sym .i64 ((4 : Int))], .sym .i64 ((0 : Int))])))))))))) := by kernel_rfl
noncomputable def hLo (x : Shut) : Int := x.Gain.Lo / x.Area
noncomputable def hHi (x : Shut) : Int := -(-x.Gain.Hi / x.Area)
noncomputable def wLo (x : Shut) : Int := x.Weight - -((x.Pipe.Lo - x.Casing.Hi) / hLo x)
noncomputable def wHi (x : Shut) : Int := x.Weight - (x.Casing.Lo - x.Pipe.Hi) / hHi x
noncomputable def ing (x : Shut) : Ingress := if chk x = 0 then ⟨⟨x.Pipe.Lo + x.Weight * x.Depth, x.Pipe.Hi + x.Weight * x.Depth⟩, ⟨hLo x, hHi x⟩, ⟨wLo x, wHi x⟩, kind (wLo x) (wHi x)⟩ else ⟨⟨0, 0⟩, ⟨0, 0⟩, ⟨0, 0⟩, 0⟩
@[reducible] noncomputable def found (x : Shut) : AV T := .tup [(ing x).av, i64 (chk x)]
theorem chk_zero {x : Shut} (h : chk x = 0) : okS x ∧ ¬ x.Casing.Lo < x.Pipe.Hi := by
  unfold chk at h
  split at h
  · rename_i h1
    split at h
    · omega
    · rename_i h2; exact ⟨h1, h2⟩
  · omega
structure Bd (x : Shut) : Prop where
  hl : 1 ≤ x.Gain.Lo / x.Area ∧ x.Gain.Lo / x.Area ≤ 1073741824
  hh : 1 ≤ -(-x.Gain.Hi / x.Area) ∧ -(-x.Gain.Hi / x.Area) ≤ 1073741824
  q1 : -68719476736 ≤ (x.Pipe.Lo - x.Casing.Hi) / (x.Gain.Lo / x.Area) ∧ (x.Pipe.Lo - x.Casing.Hi) / (x.Gain.Lo / x.Area) ≤ 68719476736
  q2 : -68719476736 ≤ (x.Casing.Lo - x.Pipe.Hi) / -(-x.Gain.Hi / x.Area) ∧ (x.Casing.Lo - x.Pipe.Hi) / -(-x.Gain.Hi / x.Area) ≤ 68719476736
  md : 0 ≤ x.Weight * x.Depth ∧ x.Weight * x.Depth ≤ 41943040000
theorem bd {x : Shut} (h : okS x) : Bd x := by
  have hl : 1 ≤ x.Gain.Lo / x.Area := Int.le_ediv_of_mul_le (by omega) (by omega)
  have hl2 := (divb (a := x.Gain.Lo) (b := x.Area) (m := 1073741824) (by omega) (by omega) (by omega)).2
  have hh : -x.Gain.Hi / x.Area < 0 := Int.ediv_neg_of_neg_of_pos (by omega) (by omega)
  have hh2 := (divb (a := -x.Gain.Hi) (b := x.Area) (m := 1073741824) (by omega) (by omega) (by omega)).1
  refine ⟨⟨hl, hl2⟩, ⟨by omega, by omega⟩, divb (by omega) (by omega) (by omega), divb (by omega) (by omega) (by omega), Int.mul_nonneg (by omega) (by omega), ?_⟩
  have h1 : x.Weight * x.Depth ≤ 40000 * x.Depth := Int.mul_le_mul_of_nonneg_right (by omega) (by omega)
  omega
theorem found_good {x : Shut} {k : Int} (h : chk x = 0) (hk : k = kind (wLo x) (wHi x)) :
    AV.tup [.agg [.sym .i64 (x.Pipe.Lo + x.Weight * x.Depth), .sym .i64 (x.Pipe.Hi + x.Weight * x.Depth), .sym .i64 (hLo x), .sym .i64 (hHi x), .sym .i64 (wLo x), .sym .i64 (wHi x), .sym .i64 k], .sym .i64 (0 : Int)] = found x := by
  unfold found ing
  rw [if_pos h, h, hk]
  rfl
theorem found_bad {x : Shut} (h : chk x ≠ 0) :
    AV.tup [.agg [.sym .i64 (0 : Int), .sym .i64 (0 : Int), .sym .i64 (0 : Int), .sym .i64 (0 : Int), .sym .i64 (0 : Int), .sym .i64 (0 : Int), .sym .i64 (0 : Int)], .sym .i64 (chk x)] = found x := by
  unfold found ing
  rw [if_neg h]
  rfl
theorem h57 (x : Shut) : (runX ct1 noLoops 57 [x.av] [81, 32]).holds fun v => v = found x := by
  rw [t57]
  refine wayB (fun h => found_bad (by simpa using h)) (fun h => ?_)
  have h0 : chk x = 0 := by simpa using h
  obtain ⟨hok, hord⟩ := chk_zero h0
  obtain ⟨hl, hh, q1, q2, md⟩ := bd hok
  simp (disch := omega) only [i64_in', Int.neg_sub]
  refine ⟨by omega, by omega, by omega, by omega, ?_⟩
  exact found_good h0 rfl
theorem h58 (x : Shut) : (runX ct2 noLoops 58 [x.av] [81, 32]).holds fun v => v = found x := by
  rw [t58]
  refine wayB (fun h => found_bad (by simpa using h)) (fun h => ?_)
  have h0 : chk x = 0 := by simpa using h
  obtain ⟨hok, hord⟩ := chk_zero h0
  obtain ⟨hl, hh, q1, q2, md⟩ := bd hok
  simp (disch := omega) only [i64_in', Int.zero_sub]
  refine ⟨by omega, by omega, by omega, by omega, ?_⟩
  have e : x.Weight + (x.Pipe.Lo - x.Casing.Hi) / (x.Gain.Lo / x.Area) = wLo x := by unfold wLo hLo; omega
  rw [e, show x.Weight - (x.Casing.Lo - x.Pipe.Hi) / -(-x.Gain.Hi / x.Area) = wHi x from rfl]
  (repeat' first | (apply wayEq <;> intro _) | (apply wayNe <;> intro _) | (apply wayNEq <;> intro _) | (apply way <;> intro _) | (apply wayN <;> intro _) | (apply wayB <;> intro _)) <;> refine found_good h0 ?_ <;> unfold kind <;> (repeat' split) <;> omega
noncomputable def cFound : Con T := conV Try.prog [shS] sigS fun d => found (shut d)
theorem found_ok : ConOk Try.prog E 57 cFound := conV_ok fun d => fact_run ct1_ok noLoops_ok (ts := [81, 32]) rfl (h57 (shut d))
theorem found2_ok : ConOk Try.prog E 58 cFound := conV_ok fun d => fact_run ct2_ok noLoops_ok (ts := [81, 32]) rfl (h58 (shut d))
end Go.Proofs.Ytdclipcjlimdoaa.W
