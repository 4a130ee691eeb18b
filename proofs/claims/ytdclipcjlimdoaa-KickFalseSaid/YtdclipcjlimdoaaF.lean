/- Kicks and sensors: checks, flows, gains, values. -/
import Derived.Test.YtdclipcjlimdoaaC
set_option linter.unusedVariables false
set_option maxRecDepth 100000
noncomputable section
namespace Go.Proofs.Ytdclipcjlimdoaa.W
open Go Go.Cx Go.RowKit
noncomputable def ctK : CTab T := [(66, cWithin), (67, cWithin)]
theorem ctK_ok : CTabOk Try.prog E ctK := .cons within_ok (.cons between_ok .nil)
theorem within_iff {a b c : Int} : within a b c = true ↔ b ≤ a ∧ a ≤ c := by simp [within]
/-! ### CheckKick -/
@[reducible] def okK (x : Kick) : Prop := (0 ≤ x.Rate ∧ x.Rate ≤ 16777216) ∧ (0 ≤ x.Grow ∧ x.Grow ≤ 4096)
noncomputable def kErr (x : Kick) : Int := if okK x then 0 else 2
@[reducible] def shK : Sh := .agg [.i .i64, .i .i64]
noncomputable def cKick : Con T := conV Try.prog [shK] [.n, .n] fun d => i64 (kErr ⟨d.1, d.2.1⟩)
noncomputable def kTree (x : Kick) : Tree (AV T) :=
  (.br (!decide (0 ≤ Kick.Rate x ∧ Kick.Rate x ≤ (16777216 : Int)))
   (.leaf (.sym .i64 ((2 : Int))))
   (.br (!decide (0 ≤ Kick.Grow x ∧ Kick.Grow x ≤ (4096 : Int)))
    (.leaf (.sym .i64 ((2 : Int))))
    (.leaf (.sym .i64 ((0 : Int))))))
theorem t18 (x : Kick) : runX ctK noLoops 18 [x.av] [32] = kTree x := by kernel_rfl
theorem t19 (x : Kick) : runX ctK noLoops 19 [x.av] [32] = kTree x := by kernel_rfl
theorem kTree_ok (x : Kick) : (kTree x).holds fun v => v = i64 (kErr x) := by
  unfold kTree kErr
  (repeat' first | (apply wayEq <;> intro _) | (apply wayNe <;> intro _) | (apply wayNEq <;> intro _) | (apply way <;> intro _) | (apply wayN <;> intro _) | (apply wayB <;> intro _)) <;> refine congrArg i64 ?_ <;> (repeat' split) <;> omega
theorem kick_ok : ConOk Try.prog E 18 cKick := conV_ok fun d => fact_run ctK_ok noLoops_ok (ts := [32]) rfl (by
  show (runX ctK noLoops 18 [(⟨d.1, d.2.1⟩ : Kick).av] [32]).holds _
  rw [t18]; exact kTree_ok _)
theorem kick2_ok : ConOk Try.prog E 19 cKick := conV_ok fun d => fact_run ctK_ok noLoops_ok (ts := [32]) rfl (by
  show (runX ctK noLoops 19 [(⟨d.1, d.2.1⟩ : Kick).av] [32]).holds _
  rw [t19]; exact kTree_ok _)
/-! ### CheckKicks -/
@[reducible] def okKs (x : Kicks) : Prop := (x.Rate.Lo ≤ x.Rate.Hi ∧ x.Grow.Lo ≤ x.Grow.Hi) ∧ (0 ≤ x.Rate.Lo ∧ x.Rate.Hi ≤ 16777216) ∧ (0 ≤ x.Grow.Lo ∧ x.Grow.Hi ≤ 4096)
noncomputable def ksErr (x : Kicks) : Int := if okKs x then 0 else 2
@[reducible] def shKs : Sh := .agg [.i .i64, .i .i64, .i .i64, .i .i64]
noncomputable def cKicks : Con T := conV Try.prog [shKs] [.n, .n, .n, .n] fun d => i64 (ksErr ⟨⟨d.1, d.2.1⟩, ⟨d.2.2.1, d.2.2.2.1⟩⟩)
noncomputable def ksTree (x : Kicks) : Tree (AV T) :=
  (.br (decide (Range.Lo (Kicks.Rate x) > Range.Hi (Kicks.Rate x)))
   (.leaf (.sym .i64 ((2 : Int))))
   (.br (decide (Range.Lo (Kicks.Grow x) > Range.Hi (Kicks.Grow x)))
    (.leaf (.sym .i64 ((2 : Int))))
    (.br (!within (Range.Lo (Kicks.Rate x)) (0 : Int) (16777216 : Int))
     (.leaf (.sym .i64 ((2 : Int))))
     (.br (!within (Range.Lo (Kicks.Grow x)) (0 : Int) (4096 : Int))
      (.leaf (.sym .i64 ((2 : Int))))
      (.br (!within (Range.Hi (Kicks.Rate x)) (0 : Int) (16777216 : Int))
       (.leaf (.sym .i64 ((2 : Int))))
       (.br (!within (Range.Hi (Kicks.Grow x)) (0 : Int) (4096 : Int))
        (.leaf (.sym .i64 ((2 : Int))))
        (.leaf (.sym .i64 ((0 : Int))))))))))
theorem t20 (x : Kicks) : runX ctK noLoops 20 [x.av] [32] = ksTree x := by kernel_rfl
theorem t21 (x : Kicks) : runX ctK noLoops 21 [x.av] [32] = ksTree x := by kernel_rfl
theorem ksTree_ok (x : Kicks) : (ksTree x).holds fun v => v = i64 (ksErr x) := by
  unfold ksTree ksErr
  (repeat' first | (apply wayEq <;> intro _) | (apply wayNe <;> intro _) | (apply wayNEq <;> intro _) | (apply way <;> intro _) | (apply wayN <;> intro _) | (apply wayB <;> intro _)) <;> refine congrArg i64 ?_ <;> (repeat' split) <;> omega
theorem kicks_ok : ConOk Try.prog E 20 cKicks := conV_ok fun d => fact_run ctK_ok noLoops_ok (ts := [32]) rfl (by
  show (runX ctK noLoops 20 [(⟨⟨d.1, d.2.1⟩, ⟨d.2.2.1, d.2.2.2.1⟩⟩ : Kicks).av] [32]).holds _
  rw [t20]; exact ksTree_ok _)
theorem kicks2_ok : ConOk Try.prog E 21 cKicks := conV_ok fun d => fact_run ctK_ok noLoops_ok (ts := [32]) rfl (by
  show (runX ctK noLoops 21 [(⟨⟨d.1, d.2.1⟩, ⟨d.2.2.1, d.2.2.2.1⟩⟩ : Kicks).av] [32]).holds _
  rw [t21]; exact ksTree_ok _)
/-! ### CheckSensor -/
@[reducible] def okSe (x : Sensor) : Prop := (1 ≤ x.Period ∧ x.Period ≤ 60) ∧ (0 ≤ x.Delay ∧ x.Delay ≤ 600) ∧ (0 ≤ x.Noise ∧ x.Noise ≤ 15) ∧ (1 ≤ x.Step ∧ x.Step ≤ 1048576) ∧ (0 ≤ x.Lost ∧ x.Lost ≤ 5) ∧ (1 ≤ x.Limit ∧ x.Limit ≤ 1099511627776) ∧ (1 ≤ x.Hold ∧ x.Hold ≤ 8)
noncomputable def sErr (x : Sensor) : Int := if x.Channel = 1 ∨ x.Channel = 2 then (if okSe x then 0 else 2) else 4
@[reducible] def shSe : Sh := .agg [.i .i64, .i .i64, .i .i64, .i .i64, .i .i64, .i .i64, .i .i64, .i .i64]
@[reducible] def sigSe : List VT := [.n, .n, .n, .n, .n, .n, .n, .n]
@[reducible] noncomputable def sens (d : Den T sigSe) : Sensor := ⟨d.1, d.2.1, d.2.2.1, d.2.2.2.1, d.2.2.2.2.1, d.2.2.2.2.2.1, d.2.2.2.2.2.2.1, d.2.2.2.2.2.2.2.1⟩
noncomputable def cSensor : Con T := conV Try.prog [shSe] sigSe fun d => i64 (sErr (sens d))
noncomputable def seTail (x : Sensor) : Tree (AV T) :=
    (.br (!within (Sensor.Period x) (1 : Int) (60 : Int))
     (.leaf (.sym .i64 ((2 : Int))))
     (.br (!within (Sensor.Delay x) (0 : Int) (600 : Int))
      (.leaf (.sym .i64 ((2 : Int))))
      (.br (!within (Sensor.Noise x) (0 : Int) (15 : Int))
       (.leaf (.sym .i64 ((2 : Int))))
       (.br (!within (Sensor.Step x) (1 : Int) (1048576 : Int))
        (.leaf (.sym .i64 ((2 : Int))))
        (.br (!within (Sensor.Lost x) (0 : Int) (5 : Int))
         (.leaf (.sym .i64 ((2 : Int))))
         (.br (!within (Sensor.Limit x) (1 : Int) (1099511627776 : Int))
          (.leaf (.sym .i64 ((2 : Int))))
          (.br (!within (Sensor.Hold x) (1 : Int) (8 : Int))
           (.leaf (.sym .i64 ((2 : Int))))
           (.leaf (.sym .i64 ((0 : Int)))))))))))
noncomputable def seTree (x : Sensor) : Tree (AV T) :=
  (.br (Sensor.Channel x != (1 : Int)) (.br (Sensor.Channel x != (2 : Int)) (.leaf (.sym .i64 ((4 : Int)))) (seTail x)) (seTail x))
theorem t22 (x : Sensor) : runX ctK noLoops 22 [x.av] [32] = seTree x := by kernel_rfl
theorem t23 (x : Sensor) : runX ctK noLoops 23 [x.av] [32] = seTree x := by kernel_rfl
theorem seTail_ok (x : Sensor) (h : x.Channel = 1 ∨ x.Channel = 2) : (seTail x).holds fun v => v = i64 (sErr x) := by
  unfold seTail sErr
  rw [if_pos h]
  (repeat' first | (apply wayEq <;> intro _) | (apply wayNe <;> intro _) | (apply wayNEq <;> intro _) | (apply way <;> intro _) | (apply wayN <;> intro _) | (apply wayB <;> intro _)) <;> refine congrArg i64 ?_ <;> (repeat' split) <;> omega
theorem seTree_ok (x : Sensor) : (seTree x).holds fun v => v = i64 (sErr x) := by
  unfold seTree
  refine wayB (fun h => wayB (fun h' => ?_) fun h' => seTail_ok x (.inr (by simpa using h'))) fun h => seTail_ok x (.inl (by simpa using h))
  refine congrArg i64 ?_
  unfold sErr
  rw [if_neg (by simp at h h'; omega)]
theorem sensor_ok : ConOk Try.prog E 22 cSensor := conV_ok fun d => fact_run ctK_ok noLoops_ok (ts := [32]) rfl (by
  show (runX ctK noLoops 22 [(sens d).av] [32]).holds _
  rw [t22]; exact seTree_ok _)
theorem sensor2_ok : ConOk Try.prog E 23 cSensor := conV_ok fun d => fact_run ctK_ok noLoops_ok (ts := [32]) rfl (by
  show (runX ctK noLoops 23 [(sens d).av] [32]).holds _
  rw [t23]; exact seTree_ok _)
end Go.Proofs.Ytdclipcjlimdoaa.W
