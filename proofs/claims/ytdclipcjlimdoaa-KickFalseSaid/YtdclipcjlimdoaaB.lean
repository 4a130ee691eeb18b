/- KickFinds: the checks and what they say. -/
import Derived.Test.YtdclipcjlimdoaaA
set_option linter.unusedVariables false
set_option maxRecDepth 100000
noncomputable section
namespace Go.Proofs.Ytdclipcjlimdoaa.W
open Go Go.Cx Go.RowKit
@[reducible] def okS (x : Shut) : Prop :=
  (0 ≤ x.Pipe.Lo ∧ x.Pipe.Lo ≤ x.Pipe.Hi ∧ x.Pipe.Hi ≤ 68719476736) ∧ (0 ≤ x.Casing.Lo ∧ x.Casing.Lo ≤ x.Casing.Hi ∧ x.Casing.Hi ≤ 68719476736) ∧
  (1 ≤ x.Weight ∧ x.Weight ≤ 40000) ∧ (1 ≤ x.Depth ∧ x.Depth ≤ 1048576) ∧ (1 ≤ x.Area ∧ x.Area ≤ 5000) ∧ (x.Area ≤ x.Gain.Lo ∧ x.Gain.Lo ≤ x.Gain.Hi ∧ x.Gain.Hi ≤ 1073741824)
noncomputable def chk (x : Shut) : Int := if okS x then (if x.Casing.Lo < x.Pipe.Hi then 11 else 0) else 2
@[reducible] def sigS : List VT := [.n, .n, .n, .n, .n, .n, .n, .n, .n]
@[reducible] def shS : Sh := .agg [.i .i64, .i .i64, .i .i64, .i .i64, .i .i64, .i .i64, .i .i64, .i .i64, .i .i64]
@[reducible] noncomputable def shut (d : Den T sigS) : Shut := ⟨⟨d.1, d.2.1⟩, ⟨d.2.2.1, d.2.2.2.1⟩, ⟨d.2.2.2.2.1, d.2.2.2.2.2.1⟩, d.2.2.2.2.2.2.1, d.2.2.2.2.2.2.2.1, d.2.2.2.2.2.2.2.2.1⟩
noncomputable def cChk : Con T := conV Try.prog [shS] sigS fun d => i64 (chk (shut d))
theorem t92 (x : Shut) : runX [] noLoops 92 [x.av] [32] =
  (.br (decide ((0 : Int) ≤ Range.Hi (Shut.Pipe x)))
   (.br (!decide (Range.Hi (Shut.Pipe x) ≤ (68719476736 : Int)))
    (.leaf (.sym .i64 ((2 : Int))))
    (.br (decide ((0 : Int) ≤ Range.Lo (Shut.Pipe x)))
     (.br (!decide (Range.Lo (Shut.Pipe x) ≤ Range.Hi (Shut.Pipe x)))
      (.leaf (.sym .i64 ((2 : Int))))
      (.br (decide ((0 : Int) ≤ Range.Hi (Shut.Casing x)))
       (.br (!decide (Range.Hi (Shut.Casing x) ≤ (68719476736 : Int)))
        (.leaf (.sym .i64 ((2 : Int))))
        (.br (decide ((0 : Int) ≤ Range.Lo (Shut.Casing x)))
         (.br (!decide (Range.Lo (Shut.Casing x) ≤ Range.Hi (Shut.Casing x)))
          (.leaf (.sym .i64 ((2 : Int))))
          (.br (decide ((1 : Int) ≤ Shut.Weight x))
           (.br (!decide (Shut.Weight x ≤ (40000 : Int)))
            (.leaf (.sym .i64 ((2 : Int))))
            (.br (decide ((1 : Int) ≤ Shut.Depth x))
             (.br (!decide (Shut.Depth x ≤ (1048576 : Int)))
              (.leaf (.sym .i64 ((2 : Int))))
              (.br (decide ((1 : Int) ≤ Shut.Area x))
               (.br (!decide (Shut.Area x ≤ (5000 : Int)))
                (.leaf (.sym .i64 ((2 : Int))))
                (.br (decide (Range.Hi (Shut.Gain x) > (1073741824 : Int)))
                 (.leaf (.sym .i64 ((2 : Int))))
                 (.br (decide (Shut.Area x ≤ Range.Lo (Shut.Gain x)))
                  (.br (!decide (Range.Lo (Shut.Gain x) ≤ Range.Hi (Shut.Gain x)))
                   (.leaf (.sym .i64 ((2 : Int))))
                   (.br (decide (Range.Lo (Shut.Casing x) < Range.Hi (Shut.Pipe x)))
                    (.leaf (.sym .i64 ((11 : Int))))
                    (.leaf (.sym .i64 ((0 : Int))))))
                  (.leaf (.sym .i64 ((2 : Int)))))))
               (.leaf (.sym .i64 ((2 : Int))))))
             (.leaf (.sym .i64 ((2 : Int))))))
           (.leaf (.sym .i64 ((2 : Int))))))
         (.leaf (.sym .i64 ((2 : Int))))))
       (.leaf (.sym .i64 ((2 : Int))))))
     (.leaf (.sym .i64 ((2 : Int))))))
   (.leaf (.sym .i64 ((2 : Int))))) := by kernel_rfl
theorem t96 (x : Shut) : runX [] noLoops 96 [x.av] [32] =
  (.br (decide (Range.Lo (Shut.Pipe x) < (0 : Int)))
   (.leaf (.sym .i64 ((2 : Int))))
   (.br (decide (Range.Lo (Shut.Pipe x) > Range.Hi (Shut.Pipe x)))
    (.leaf (.sym .i64 ((2 : Int))))
    (.br (decide (Range.Hi (Shut.Pipe x) > (68719476736 : Int)))
     (.leaf (.sym .i64 ((2 : Int))))
     (.br (decide (Range.Lo (Shut.Casing x) < (0 : Int)))
      (.leaf (.sym .i64 ((2 : Int))))
      (.br (decide (Range.Lo (Shut.Casing x) > Range.Hi (Shut.Casing x)))
       (.leaf (.sym .i64 ((2 : Int))))
       (.br (decide (Range.Hi (Shut.Casing x) > (68719476736 : Int)))
        (.leaf (.sym .i64 ((2 : Int))))
        (.br (decide (Shut.Weight x ≥ (1 : Int)))
         (.br (!decide (Shut.Weight x ≤ (40000 : Int)))
          (.leaf (.sym .i64 ((2 : Int))))
          (.br (decide (Shut.Depth x ≥ (1 : Int)))
           (.br (!decide (Shut.Depth x ≤ (1048576 : Int)))
            (.leaf (.sym .i64 ((2 : Int))))
            (.br (decide (Shut.Area x ≥ (1 : Int)))
             (.br (!decide (Shut.Area x ≤ (5000 : Int)))
              (.leaf (.sym .i64 ((2 : Int))))
              (.br (decide (Range.Lo (Shut.Gain x) < Shut.Area x))
               (.leaf (.sym .i64 ((2 : Int))))
               (.br (decide (Range.Lo (Shut.Gain x) > Range.Hi (Shut.Gain x)))
                (.leaf (.sym .i64 ((2 : Int))))
                (.br (decide (Range.Hi (Shut.Gain x) > (1073741824 : Int)))
                 (.leaf (.sym .i64 ((2 : Int))))
                 (.br (decide (Range.Lo (Shut.Casing x) < Range.Hi (Shut.Pipe x)))
                  (.leaf (.sym .i64 ((11 : Int))))
                  (.leaf (.sym .i64 ((0 : Int)))))))))
             (.leaf (.sym .i64 ((2 : Int))))))
           (.leaf (.sym .i64 ((2 : Int))))))
         (.leaf (.sym .i64 ((2 : Int))))))))))) := by kernel_rfl
theorem chk_bad {x : Shut} (h : ¬ okS x) : i64 2 = i64 (chk x) := by unfold chk; rw [if_neg h]
theorem chk_order {x : Shut} (h : okS x) (h' : x.Casing.Lo < x.Pipe.Hi) : i64 11 = i64 (chk x) := by unfold chk; rw [if_pos h, if_pos h']
theorem chk_good {x : Shut} (h : okS x) (h' : ¬ x.Casing.Lo < x.Pipe.Hi) : i64 0 = i64 (chk x) := by unfold chk; rw [if_pos h, if_neg h']
theorem chk_ok : ConOk Try.prog E 92 cChk := conV_ok fun d => fact_run .nil noLoops_ok (ts := [32]) rfl (by
  show (runX [] noLoops 92 [(shut d).av] [32]).holds fun v => v = i64 (chk (shut d))
  generalize shut d = x
  rw [t92]
  (repeat' first | (apply wayEq <;> intro _) | (apply wayNe <;> intro _) | (apply wayNEq <;> intro _) | (apply way <;> intro _) | (apply wayN <;> intro _) | (apply wayB <;> intro _)) <;> first | exact chk_bad (fun h => by omega) | exact chk_order (by omega) (by omega) | exact chk_good (by omega) (by omega))
theorem chk2_ok : ConOk Try.prog E 96 cChk := conV_ok fun d => fact_run .nil noLoops_ok (ts := [32]) rfl (by
  show (runX [] noLoops 96 [(shut d).av] [32]).holds fun v => v = i64 (chk (shut d))
  generalize shut d = x
  rw [t96]
  (repeat' first | (apply wayEq <;> intro _) | (apply wayNe <;> intro _) | (apply wayNEq <;> intro _) | (apply way <;> intro _) | (apply wayN <;> intro _) | (apply wayB <;> intro _)) <;> first | exact chk_bad (fun h => by omega) | exact chk_order (by omega) (by omega) | exact chk_good (by omega) (by omega))
end Go.Proofs.Ytdclipcjlimdoaa.W
