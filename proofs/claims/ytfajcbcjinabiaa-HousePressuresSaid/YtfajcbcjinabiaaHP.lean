/- HousePressures: the static pressure and the loss at a depth. No condition. -/
import Derived.Test.YtfajcbcjinabiaaFB
set_option linter.unusedVariables false
set_option maxRecDepth 100000
set_option maxHeartbeats 4000000
noncomputable section
namespace Go.Proofs.Ytfajcbcjinabiaa.W
open Go Go.Cx Go.RowKit
noncomputable def mn2 (a b : Int) : Int := if b < a then b else a
noncomputable def mx2 (a b : Int) : Int := if b > a then b else a
@[reducible] def shP : Sh := .agg [.i .i64, .i .i64, .i .i64, .i .i64, .i .i64, .i .i64, .i .i64, .i .i64, .i .i64, .i .i64, .i .i64, .i .i64, .i .i64, .i .i64, .s 2, .s 127, .s 129, .i .i64, .i .i64, .s 131, .s 131, .s 133, .i .i64, .i .i64, .i .i64, .i .i64, .i .i64, .s 77, .i .i64, .s 135, .i .i64, .i .i64, .i .i64, .i .i64, .i .i64, .i .i64, .i .i64, .s 2, .s 2]
@[reducible] def sigP : List VT := [.n, .n, .n, .n, .n, .n, .n, .n, .n, .n, .n, .n, .n, .n, .l 2, .l 127, .l 129, .n, .n, .l 131, .l 131, .l 133, .n, .n, .n, .n, .n, .l 77, .n, .l 135, .n, .n, .n, .n, .n, .n, .n, .l 2, .l 2, .n]
@[reducible] noncomputable def phO (d : Den T sigP) : Phase := ⟨d.1, d.2.1, d.2.2.1, d.2.2.2.1, d.2.2.2.2.1, d.2.2.2.2.2.1, d.2.2.2.2.2.2.1, d.2.2.2.2.2.2.2.1, d.2.2.2.2.2.2.2.2.1, d.2.2.2.2.2.2.2.2.2.1, d.2.2.2.2.2.2.2.2.2.2.1, ⟨d.2.2.2.2.2.2.2.2.2.2.2.1, d.2.2.2.2.2.2.2.2.2.2.2.2.1⟩, d.2.2.2.2.2.2.2.2.2.2.2.2.2.1, ⟨d.2.2.2.2.2.2.2.2.2.2.2.2.2.2.1, d.2.2.2.2.2.2.2.2.2.2.2.2.2.2.2.1, d.2.2.2.2.2.2.2.2.2.2.2.2.2.2.2.2.1, d.2.2.2.2.2.2.2.2.2.2.2.2.2.2.2.2.2.1, d.2.2.2.2.2.2.2.2.2.2.2.2.2.2.2.2.2.2.1⟩, d.2.2.2.2.2.2.2.2.2.2.2.2.2.2.2.2.2.2.2.1, d.2.2.2.2.2.2.2.2.2.2.2.2.2.2.2.2.2.2.2.2.1, d.2.2.2.2.2.2.2.2.2.2.2.2.2.2.2.2.2.2.2.2.2.1, ⟨⟨d.2.2.2.2.2.2.2.2.2.2.2.2.2.2.2.2.2.2.2.2.2.2.1, d.2.2.2.2.2.2.2.2.2.2.2.2.2.2.2.2.2.2.2.2.2.2.2.1⟩, ⟨d.2.2.2.2.2.2.2.2.2.2.2.2.2.2.2.2.2.2.2.2.2.2.2.2.1, d.2.2.2.2.2.2.2.2.2.2.2.2.2.2.2.2.2.2.2.2.2.2.2.2.2.1⟩⟩, d.2.2.2.2.2.2.2.2.2.2.2.2.2.2.2.2.2.2.2.2.2.2.2.2.2.2.1, ⟨⟨d.2.2.2.2.2.2.2.2.2.2.2.2.2.2.2.2.2.2.2.2.2.2.2.2.2.2.2.1⟩, d.2.2.2.2.2.2.2.2.2.2.2.2.2.2.2.2.2.2.2.2.2.2.2.2.2.2.2.2.1, d.2.2.2.2.2.2.2.2.2.2.2.2.2.2.2.2.2.2.2.2.2.2.2.2.2.2.2.2.2.1, d.2.2.2.2.2.2.2.2.2.2.2.2.2.2.2.2.2.2.2.2.2.2.2.2.2.2.2.2.2.2.1, d.2.2.2.2.2.2.2.2.2.2.2.2.2.2.2.2.2.2.2.2.2.2.2.2.2.2.2.2.2.2.2.1, d.2.2.2.2.2.2.2.2.2.2.2.2.2.2.2.2.2.2.2.2.2.2.2.2.2.2.2.2.2.2.2.2.1⟩, ⟨d.2.2.2.2.2.2.2.2.2.2.2.2.2.2.2.2.2.2.2.2.2.2.2.2.2.2.2.2.2.2.2.2.2.1, d.2.2.2.2.2.2.2.2.2.2.2.2.2.2.2.2.2.2.2.2.2.2.2.2.2.2.2.2.2.2.2.2.2.2.1, d.2.2.2.2.2.2.2.2.2.2.2.2.2.2.2.2.2.2.2.2.2.2.2.2.2.2.2.2.2.2.2.2.2.2.2.1, d.2.2.2.2.2.2.2.2.2.2.2.2.2.2.2.2.2.2.2.2.2.2.2.2.2.2.2.2.2.2.2.2.2.2.2.2.1⟩, d.2.2.2.2.2.2.2.2.2.2.2.2.2.2.2.2.2.2.2.2.2.2.2.2.2.2.2.2.2.2.2.2.2.2.2.2.2.1, d.2.2.2.2.2.2.2.2.2.2.2.2.2.2.2.2.2.2.2.2.2.2.2.2.2.2.2.2.2.2.2.2.2.2.2.2.2.2.1⟩
@[reducible] noncomputable def zO (d : Den T sigP) : Int := d.2.2.2.2.2.2.2.2.2.2.2.2.2.2.2.2.2.2.2.2.2.2.2.2.2.2.2.2.2.2.2.2.2.2.2.2.2.2.2.1
noncomputable def ctS1 : CTab T := [(33, cWithin)]
theorem ctS1_ok : CTabOk Try.prog E ctS1 := .cons within_ok .nil
theorem tS1 (x : Phase) (z : Int) : runX ctS1 noLoops 11 [x.av, i64 z] [2] =
  (.br (within (Phase.To x) (1 : Int) (1048576 : Int))
   (.br (within (Phase.Sea x) (0 : Int) (Phase.To x))
    (.br (within (Phase.Light x) (0 : Int) (40000 : Int))
     (.br (within (Phase.Weight x) (0 : Int) (40000 : Int))
      (.br (!within (Phase.Top x) (0 : Int) (68719476736 : Int))
       (.leaf (.sym .i64 ((0 : Int))))
       (.br (!within z (0 : Int) (Phase.To x))
        (.leaf (.sym .i64 ((0 : Int))))
        (.leaf (.sym .i64 (IntKind.wrap IntKind.i64 (IntKind.wrap IntKind.i64 (Phase.Top x + IntKind.wrap IntKind.i64 (Phase.Light x * (mn2 (z) (Phase.Sea x)))) + IntKind.wrap IntKind.i64 (Phase.Weight x * (mx2 ((0 : Int)) (IntKind.wrap IntKind.i64 (z - Phase.Sea x))))))))))
      (.leaf (.sym .i64 ((0 : Int)))))
     (.leaf (.sym .i64 ((0 : Int)))))
    (.leaf (.sym .i64 ((0 : Int)))))
   (.leaf (.sym .i64 ((0 : Int))))) := by kernel_rfl
theorem tS2 (x : Phase) (z : Int) : runX ctS1 noLoops 12 [x.av, i64 z] [2] =
  (.br (decide (Phase.To x ≥ (1 : Int)))
   (.br (decide (Phase.To x ≤ (1048576 : Int)))
    (.br (decide (Phase.Sea x ≥ (0 : Int)))
     (.br (decide (Phase.Sea x ≤ Phase.To x))
      (.br (decide (Phase.Light x ≥ (0 : Int)))
       (.br (decide (Phase.Light x ≤ (40000 : Int)))
        (.br (decide (Phase.Weight x ≥ (0 : Int)))
         (.br (decide (Phase.Weight x ≤ (40000 : Int)))
          (.br (decide (Phase.Top x ≥ (0 : Int)))
           (.br (!decide (Phase.Top x ≤ (68719476736 : Int)))
            (.leaf (.sym .i64 ((0 : Int))))
            (.br (decide (z < (0 : Int)))
             (.leaf (.sym .i64 ((0 : Int))))
             (.br (decide (z > Phase.To x))
              (.leaf (.sym .i64 ((0 : Int))))
              (.leaf (.sym .i64 (IntKind.wrap IntKind.i64 (IntKind.wrap IntKind.i64 (Phase.Top x + IntKind.wrap IntKind.i64 (Phase.Light x * (mn2 (z) (Phase.Sea x)))) + IntKind.wrap IntKind.i64 (Phase.Weight x * (mx2 ((0 : Int)) (IntKind.wrap IntKind.i64 (z - Phase.Sea x)))))))))))
           (.leaf (.sym .i64 ((0 : Int)))))
          (.leaf (.sym .i64 ((0 : Int)))))
         (.leaf (.sym .i64 ((0 : Int)))))
        (.leaf (.sym .i64 ((0 : Int)))))
       (.leaf (.sym .i64 ((0 : Int)))))
      (.leaf (.sym .i64 ((0 : Int)))))
     (.leaf (.sym .i64 ((0 : Int)))))
    (.leaf (.sym .i64 ((0 : Int)))))
   (.leaf (.sym .i64 ((0 : Int))))) := by kernel_rfl
noncomputable def ctS3 : CTab T := [(33, cWithin), (34, cGr), (40, cGrR), (57, cCeil)]
theorem ctS3_ok : CTabOk Try.prog E ctS3 := .cons within_ok (.cons gr_ok (.cons grR_ok (.cons ceil_ok .nil)))
theorem tS3 (x : Phase) (z : Int) : runX ctS3 noLoops 9 [x.av, i64 z] [2, 4] =
  (.br (decide (Phase.To x < (1 : Int)))
   (.leaf (.tup [.sym .i64 ((0 : Int)), .bool (false)]))
   (.br (!within z (0 : Int) (Phase.To x))
    (.leaf (.tup [.sym .i64 ((0 : Int)), .bool (false)]))
    (.req ((-9223372036854775808 : Int) ≤ Phase.Long x ∧ Phase.Long x ≤ (9223372036854775807 : Int))
    (.br (!grB (Phase.Long x) (Phase.To x) (Phase.Area x) (Phase.Gap x) (Mud.Yield (Phase.Mud x)) (Mud.Visc (Phase.Mud x)) (Phase.Flow x))
     (.leaf (.tup [.sym .i64 ((0 : Int)), .bool (false)]))
     (.req (qPre (IntKind.wrap IntKind.i64 (z * Phase.Long x)) (Phase.To x))
     (.leaf (.tup [.sym .i64 (IntKind.wrap IntKind.i64 (grN (Phase.Long x) (Phase.To x) (Phase.Area x) (Phase.Gap x) (Mud.Yield (Phase.Mud x)) (Mud.Visc (Phase.Mud x)) (Phase.Flow x) * -(-IntKind.wrap IntKind.i64 (z * Phase.Long x) / Phase.To x))), .bool (true)]))))))) := by kernel_rfl
theorem tS4 (x : Phase) (z : Int) : runX ctS3 noLoops 10 [x.av, i64 z] [2, 4] =
  (.br (decide (Phase.Flow x ≥ (0 : Int)))
   (.br (decide (Phase.Flow x ≤ (1000000 : Int)))
    (.br (decide (Mud.Yield (Phase.Mud x) ≥ (0 : Int)))
     (.br (decide (Mud.Yield (Phase.Mud x) ≤ (1000000 : Int)))
      (.br (decide (Mud.Visc (Phase.Mud x) ≥ (1 : Int)))
       (.br (!decide (Mud.Visc (Phase.Mud x) ≤ (1000000 : Int)))
        (.leaf (.tup [.sym .i64 ((0 : Int)), .bool (false)]))
        (.br (decide (Phase.Long x < (1 : Int)))
         (.leaf (.tup [.sym .i64 ((0 : Int)), .bool (false)]))
         (.br (decide (Phase.To x < (0 : Int)))
          (.leaf (.tup [.sym .i64 ((0 : Int)), .bool (false)]))
          (.br (decide (Phase.To x > Phase.Long x))
           (.leaf (.tup [.sym .i64 ((0 : Int)), .bool (false)]))
           (.br (decide (Phase.Area x < (1 : Int)))
            (.leaf (.tup [.sym .i64 ((0 : Int)), .bool (false)]))
            (.br (decide (Phase.Area x > (5000 : Int)))
             (.leaf (.tup [.sym .i64 ((0 : Int)), .bool (false)]))
             (.br (decide (Phase.Gap x < (1 : Int)))
              (.leaf (.tup [.sym .i64 ((0 : Int)), .bool (false)]))
              (.br (decide (Phase.Gap x > (200 : Int)))
               (.leaf (.tup [.sym .i64 ((0 : Int)), .bool (false)]))
               (.br (decide (IntKind.wrap IntKind.i64 ((0 : Int) + (mn2 (Phase.Long x) ((1048577 : Int)))) > (1048576 : Int)))
                (.leaf (.tup [.sym .i64 ((0 : Int)), .bool (false)]))
                (.br (decide (Phase.To x < (1 : Int)))
                 (.leaf (.tup [.sym .i64 ((0 : Int)), .bool (false)]))
                 (.br (decide (z < (0 : Int)))
                  (.leaf (.tup [.sym .i64 ((0 : Int)), .bool (false)]))
                  (.br (decide (z > Phase.To x))
                   (.leaf (.tup [.sym .i64 ((0 : Int)), .bool (false)]))
                   (.br (!grB (Phase.Long x) (Phase.To x) (Phase.Area x) (Phase.Gap x) (Mud.Yield (Phase.Mud x)) (Mud.Visc (Phase.Mud x)) (Phase.Flow x))
                    (.leaf (.tup [.sym .i64 ((0 : Int)), .bool (false)]))
                    (.req (decide (Phase.To x ≠ (0 : Int)) = true)
                    (.leaf (.tup [.sym .i64 (IntKind.wrap IntKind.i64 (grN (Phase.Long x) (Phase.To x) (Phase.Area x) (Phase.Gap x) (Mud.Yield (Phase.Mud x)) (Mud.Visc (Phase.Mud x)) (Phase.Flow x) * IntKind.wrap IntKind.i64 (Int.tdiv (IntKind.wrap IntKind.i64 (IntKind.wrap IntKind.i64 (IntKind.wrap IntKind.i64 (z * Phase.Long x) + Phase.To x) - (1 : Int))) (Phase.To x)))), .bool (true)]))))))))))))))))
       (.leaf (.tup [.sym .i64 ((0 : Int)), .bool (false)])))
      (.leaf (.tup [.sym .i64 ((0 : Int)), .bool (false)])))
     (.leaf (.tup [.sym .i64 ((0 : Int)), .bool (false)])))
    (.leaf (.tup [.sym .i64 ((0 : Int)), .bool (false)])))
   (.leaf (.tup [.sym .i64 ((0 : Int)), .bool (false)]))) := by kernel_rfl

@[reducible] def stP (x : Phase) (z : Int) : Prop := (1 ≤ x.To ∧ x.To ≤ 1048576) ∧ (0 ≤ x.Sea ∧ x.Sea ≤ x.To) ∧ (0 ≤ x.Light ∧ x.Light ≤ 40000) ∧ (0 ≤ x.Weight ∧ x.Weight ≤ 40000) ∧ (0 ≤ x.Top ∧ x.Top ≤ 68719476736) ∧ 0 ≤ z ∧ z ≤ x.To
noncomputable def stV (x : Phase) (z : Int) : Int := if stP x z then IntKind.wrap IntKind.i64 (IntKind.wrap IntKind.i64 (Phase.Top x + IntKind.wrap IntKind.i64 (Phase.Light x * (mn2 (z) (Phase.Sea x)))) + IntKind.wrap IntKind.i64 (Phase.Weight x * (mx2 ((0 : Int)) (IntKind.wrap IntKind.i64 (z - Phase.Sea x))))) else 0
theorem st_no {x : Phase} {z : Int} (h : ¬ stP x z) : (i64 0 : AV T) = i64 (stV x z) := by unfold stV; rw [if_neg h]
theorem st_yes {x : Phase} {z : Int} (h : stP x z) : (i64 (IntKind.wrap IntKind.i64 (IntKind.wrap IntKind.i64 (Phase.Top x + IntKind.wrap IntKind.i64 (Phase.Light x * (mn2 (z) (Phase.Sea x)))) + IntKind.wrap IntKind.i64 (Phase.Weight x * (mx2 ((0 : Int)) (IntKind.wrap IntKind.i64 (z - Phase.Sea x)))))) : AV T) = i64 (stV x z) := by unfold stV; rw [if_pos h]
theorem sS1 (x : Phase) (z : Int) : (runX ctS1 noLoops 11 [x.av, i64 z] [2]).holds fun v => v = i64 (stV x z) := by
  rw [tS1]
  refine way (fun h1 => way (fun h2 => way (fun h3 => way (fun h4 => wayN (fun h5 => st_no fun q => h5 q.2.2.2.2.1) fun h5 => wayN (fun h6 => st_no fun q => h6 q.2.2.2.2.2) fun h6 => st_yes ⟨h1, h2, h3, h4, h5, h6⟩) fun h => st_no fun q => h q.2.2.2.1) fun h => st_no fun q => h q.2.2.1) fun h => st_no fun q => h q.2.1) fun h => st_no fun q => h q.1
theorem sS2 (x : Phase) (z : Int) : (runX ctS1 noLoops 12 [x.av, i64 z] [2]).holds fun v => v = i64 (stV x z) := by
  rw [tS2]
  (repeat' first | (apply wayN <;> intro _) | (apply way <;> intro _)) <;> first | exact st_yes (by unfold stP; omega) | exact st_no (by unfold stP; omega)
@[reducible] noncomputable def grP (x : Phase) : Bool := grB x.Long x.To x.Area x.Gap x.Mud.Yield x.Mud.Visc x.Flow
@[reducible] noncomputable def grQ (x : Phase) : Int := grN x.Long x.To x.Area x.Gap x.Mud.Yield x.Mud.Visc x.Flow
noncomputable def liB (x : Phase) (z : Int) : Bool := decide (1 ≤ x.To ∧ 0 ≤ z ∧ z ≤ x.To) && grP x
noncomputable def liV (x : Phase) (z : Int) : Int := if liB x z = true then IntKind.wrap IntKind.i64 (grQ x * -(-(z * x.Long) / x.To)) else 0
theorem li_no {x : Phase} {z : Int} (h : ¬ ((1 ≤ x.To ∧ 0 ≤ z ∧ z ≤ x.To) ∧ grP x = true)) : (AV.tup [i64 0, .bool false] : AV T) = .tup [i64 (liV x z), .bool (liB x z)] := by
  have e : liB x z = false := by
    unfold liB
    cases c : grP x with
    | false => exact Bool.and_false _
    | true => rw [decide_eq_false (fun q => h ⟨q, c⟩)]; rfl
  unfold liV
  rw [e]
  rfl
theorem li_yes {x : Phase} {z : Int} (h : 1 ≤ x.To ∧ 0 ≤ z ∧ z ≤ x.To) (c : grP x = true) : (AV.tup [i64 (IntKind.wrap IntKind.i64 (grQ x * -(-(z * x.Long) / x.To))), .bool true] : AV T) = .tup [i64 (liV x z), .bool (liB x z)] := by
  have e : liB x z = true := by unfold liB; rw [decide_eq_true h, c]; rfl
  unfold liV
  rw [e]
  rfl
theorem gp_vf {x : Phase} (h : grP x = true) : vf x.Long x.To x.Area x.Gap x.Mud.Yield x.Mud.Visc x.Flow := by
  unfold grP grB at h
  rw [Bool.and_eq_true] at h
  exact of_decide_eq_true h.1
theorem nb {b : Bool} (h : (!b) = true) : b = false := by cases b <;> simp at h ⊢
theorem nb2 {b : Bool} (h : (!b) = false) : b = true := by cases b <;> simp at h ⊢
theorem sS3 (x : Phase) (z : Int) (hb : -9223372036854775808 ≤ x.Long ∧ x.Long ≤ 9223372036854775807) : (runX ctS3 noLoops 9 [x.av, i64 z] [2, 4]).holds fun v => v = .tup [i64 (liV x z), .bool (liB x z)] := by
  rw [tS3]
  refine way (fun h => li_no fun q => by omega) fun h => wayN (fun h2 => li_no fun q => h2 q.1.2) fun h2 => ⟨hb, wayB (fun c => li_no fun q => ?_) fun c => ?_⟩
  · have c : grP x = false := nb c
    rw [c] at q
    exact absurd q.2 (by decide)
  · have c : grP x = true := nb2 c
    have v := gp_vf c
    have vl := v.1
    have vr := v.2.1
    have m := mulb h2.1 (show z ≤ 1048576 by omega) (show 0 ≤ x.Long by omega) vl.2
    have e : IntKind.wrap IntKind.i64 (z * x.Long) = z * x.Long := i64_in' (by omega) (by omega)
    rw [e]
    exact ⟨by unfold qPre; omega, li_yes ⟨by omega, h2⟩ c⟩
theorem sS4 (x : Phase) (z : Int) : (runX ctS3 noLoops 10 [x.av, i64 z] [2, 4]).holds fun v => v = .tup [i64 (liV x z), .bool (liB x z)] := by
  rw [tS4]
  have mn : mn2 x.Long 1048577 ≤ 1048576 ↔ x.Long ≤ 1048576 := by unfold mn2; split <;> omega
  have mb : x.Long ≥ 1 → 0 ≤ mn2 x.Long 1048577 ∧ mn2 x.Long 1048577 ≤ 1048577 := fun _ => by unfold mn2; split <;> omega
  have no : ¬ (vf x.Long x.To x.Area x.Gap x.Mud.Yield x.Mud.Visc x.Flow ∧ (1 ≤ x.To ∧ 0 ≤ z ∧ z ≤ x.To)) → (AV.tup [i64 0, .bool false] : AV T) = .tup [i64 (liV x z), .bool (liB x z)] := fun h => li_no fun q => h ⟨gp_vf q.2, q.1⟩
  refine way (fun h1 => way (fun h2 => way (fun h3 => way (fun h4 => way (fun h5 => wayN (fun h6 => no fun q => h6 q.1.2.2.2.2.2.1.2) fun h6 => way (fun h7 => no fun q => by have := q.1.1; omega) fun h7 => way (fun h8 => no fun q => by have := q.2.1; omega) fun h8 => way (fun h9 => no fun q => by have := q.1.2.1; omega) fun h9 => way (fun ha => no fun q => by have := q.1.2.2.1; omega) fun ha => way (fun hb => no fun q => by have := q.1.2.2.1; omega) fun hb => way (fun hc => no fun q => by have := q.1.2.2.2.1; omega) fun hc => way (fun hd => no fun q => by have := q.1.2.2.2.1; omega) fun hd => ?_) fun h => no fun q => h q.1.2.2.2.2.2.1.1) fun h => no fun q => h q.1.2.2.2.2.1.2) fun h => no fun q => h q.1.2.2.2.2.1.1) fun h => no fun q => h q.1.2.2.2.2.2.2.2) fun h => no fun q => h q.1.2.2.2.2.2.2.1
  have w := mb (by omega)
  have e0 : IntKind.wrap IntKind.i64 (0 + mn2 x.Long 1048577) = mn2 x.Long 1048577 := by
    rw [Int.zero_add]
    exact i64_in' (by omega) (by omega)
  rw [e0]
  refine way (fun k => no fun q => by have := q.1.1.2; omega) fun k => way (fun k2 => no fun q => by have := q.2.1; omega) fun k2 => way (fun k3 => no fun q => by have := q.2.2.1; omega) fun k3 => way (fun k4 => no fun q => by have := q.2.2.2; omega) fun k4 => wayB (fun c => ?_) fun c => ?_
  · have c : grP x = false := nb c
    exact li_no fun q => by rw [c] at q; exact absurd q.2 (by decide)
  · have c : grP x = true := nb2 c
    have v := gp_vf c
    have vl := v.1
    have m := mulb (show 0 ≤ z by omega) (show z ≤ 1048576 by omega) (show 0 ≤ x.Long by omega) vl.2
    have e : IntKind.wrap IntKind.i64 (z * x.Long) = z * x.Long := i64_in' (by omega) (by omega)
    have e1 : IntKind.wrap IntKind.i64 (z * x.Long + x.To) = z * x.Long + x.To := i64_in' (by omega) (by omega)
    have e2 : IntKind.wrap IntKind.i64 (z * x.Long + x.To - 1) = z * x.Long + x.To - 1 := i64_in' (by omega) (by omega)
    rw [e, e1, e2]
    generalize hp : z * x.Long = p at *
    have d2 : Int.tdiv (p + x.To - 1) x.To = -(-p / x.To) := by
      rw [Int.tdiv_eq_ediv_of_nonneg (by omega)]
      have a := Int.mul_ediv_add_emod (-p) x.To
      have y1 := Int.emod_nonneg (-p) (show x.To ≠ 0 by omega)
      have y2 := Int.emod_lt_of_pos (-p) (show 0 < x.To by omega)
      have u := Int.ediv_emod_unique (a := p + x.To - 1) (b := x.To) (r := x.To - 1 - (-p) % x.To) (q := -(-p / x.To)) (by omega)
      exact (u.2 ⟨by rw [Int.mul_neg]; omega, by omega, by omega⟩).1
    have dn : 0 ≤ -(-p / x.To) ∧ -(-p / x.To) ≤ 1099511627776 := by
      have := divb (a := -p) (b := x.To) (m := 1099511627776) (by omega) (by omega) (by omega)
      have n := Int.ediv_le_ediv (show 0 < x.To by omega) (show -p ≤ 0 by omega)
      rw [Int.zero_ediv] at n
      omega
    rw [d2, i64_in' (n := -(-p / x.To)) (by omega) (by omega), ← hp]
    exact ⟨decide_eq_true (by omega), li_yes ⟨by omega, by omega, by omega⟩ c⟩
noncomputable def cStat : Con T := conV Try.prog [shP, .one (.i .i64)] sigP fun d => i64 (stV (phO d) (zO d))
theorem stat_ok : ConOk Try.prog E 11 cStat := conV_ok fun d => fact_run ctS1_ok noLoops_ok (ts := [2]) rfl (sS1 (phO d) (zO d))
theorem stat2_ok : ConOk Try.prog E 12 cStat := conV_ok fun d => fact_run ctS1_ok noLoops_ok (ts := [2]) rfl (sS2 (phO d) (zO d))
noncomputable def cLoss : Con T := conP Try.prog [shP, .one (.i .i64)] sigP (fun d => -9223372036854775808 ≤ (phO d).Long ∧ (phO d).Long ≤ 9223372036854775807) fun d => .tup [i64 (liV (phO d) (zO d)), .bool (liB (phO d) (zO d))]
theorem loss_ok : ConOk Try.prog E 9 cLoss := conP_ok fun d hd => fact_run ctS3_ok noLoops_ok (ts := [2, 4]) rfl (sS3 (phO d) (zO d) hd)
theorem loss2_ok : ConOk Try.prog E 10 cLoss := conP_ok fun d hd => fact_run ctS3_ok noLoops_ok (ts := [2, 4]) rfl (sS4 (phO d) (zO d))

end Go.Proofs.Ytfajcbcjinabiaa.W
