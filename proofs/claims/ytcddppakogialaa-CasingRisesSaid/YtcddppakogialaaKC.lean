/- CasingCements: how far cement rises. No condition. -/
import Derived.Test.YtcddppakogialaaU2
import Derived.Test.YtcddppakogialaaW
import Derived.Test.YtcddppakogialaaLCasingCements
set_option linter.unusedVariables false
set_option maxRecDepth 100000
set_option maxHeartbeats 4000000
noncomputable section
namespace Go.Proofs.Ytcddppakogialaa.W.Hole
open Go Go.Cx Go.RowKit
noncomputable def ctK : CTab T := (50, cAt) :: (89, cAt) :: ctO
theorem ctK_ok : CTabOk Try.prog E ctK := .cons at_ok (.cons at2_ok ctO_ok)
theorem tvC1 (h : List Seg) (v : Int) : runX ctK noLoops 42 [.agg [.sl 68 h false], i64 v] [58, 30] =
  (.req (inLg h)
  (.br (hE h != (0 : Int))
   (.leaf (.tup [.agg [.sym .i64 ((0 : Int)), .sym .i64 ((0 : Int))], .sym .i64 (hE h)]))
   (.req (inLg h)
   (.br (!within v (0 : Int) (vol h))
    (.leaf (.tup [.agg [.sym .i64 ((0 : Int)), .sym .i64 ((0 : Int))], .sym .i64 ((2 : Int))]))
    (.req (inLg h)
    (.leaf (.tup [.agg [.sym .i64 (atLo (hl h) v), .sym .i64 (atHi (hl h) v)], .sym .i64 ((0 : Int))]))))))) := by kernel_rfl
theorem tvC2 (h : List Seg) (v : Int) : runX ctK noLoops 43 [.agg [.sl 68 h false], i64 v] [58, 30] =
  (.req (inLg h)
  (.br (hE h != (0 : Int))
   (.leaf (.tup [.agg [.sym .i64 ((0 : Int)), .sym .i64 ((0 : Int))], .sym .i64 (hE h)]))
   (.br (decide (v < (0 : Int)))
    (.leaf (.tup [.agg [.sym .i64 ((0 : Int)), .sym .i64 ((0 : Int))], .sym .i64 ((2 : Int))]))
    (.req (inLg h)
    (.br (decide (v > vol h))
     (.leaf (.tup [.agg [.sym .i64 ((0 : Int)), .sym .i64 ((0 : Int))], .sym .i64 ((2 : Int))]))
     (.req (inLg h)
     (.leaf (.tup [.agg [.sym .i64 (atLo (hl h) v), .sym .i64 (atHi (hl h) v)], .sym .i64 ((0 : Int))])))))))) := by kernel_rfl
noncomputable def cmE (h : List Seg) (v : Int) : Int := if hE h = 0 then (if within v 0 (vol h) = true then 0 else 2) else hE h
noncomputable def cmLo (h : List Seg) (v : Int) : Int := if cmE h v = 0 then atLo (hl h) v else 0
noncomputable def cmHi (h : List Seg) (v : Int) : Int := if cmE h v = 0 then atHi (hl h) v else 0
noncomputable def cmV (h : List Seg) (v : Int) : AV T := .tup [.agg [i64 (cmLo h v), i64 (cmHi h v)], i64 (cmE h v)]
theorem cm_e {h : List Seg} {v e : Int} (he : cmE h v = e) (h0 : e ≠ 0) : AV.tup [.agg [i64 0, i64 0], i64 e] = cmV h v := by
  unfold cmV cmLo cmHi
  rw [he, if_neg h0, if_neg h0]
theorem cm_0 {h : List Seg} {v : Int} (he : cmE h v = 0) : AV.tup [.agg [i64 (atLo (hl h) v), i64 (atHi (hl h) v)], i64 0] = cmV h v := by
  unfold cmV cmLo cmHi
  rw [he, if_pos rfl, if_pos rfl]
theorem sC1 (h : List Seg) (v : Int) (hL : inLg h) : (runX ctK noLoops 42 [.agg [.sl 68 h false], i64 v] [58, 30]).holds fun x => x = cmV h v := by
  rw [tvC1]
  refine ⟨hL, wayNe (fun c => cm_e (by unfold cmE; rw [if_neg c]) c) fun c => ⟨hL, wayB (fun k => ?_) fun k => ⟨hL, ?_⟩⟩⟩
  · exact cm_e (by unfold cmE; rw [if_pos c, if_neg (fun q => by rw [q] at k; cases k)]) (by decide)
  · exact cm_0 (by unfold cmE; rw [if_pos c, if_pos (by simpa using k)])
theorem sC2 (h : List Seg) (v : Int) (hL : inLg h) : (runX ctK noLoops 43 [.agg [.sl 68 h false], i64 v] [58, 30]).holds fun x => x = cmV h v := by
  rw [tvC2]
  have no : ¬ (0 ≤ v ∧ v ≤ vol h) → hE h = 0 → cmE h v = 2 := fun q c => by unfold cmE; rw [if_pos c, if_neg (fun w => q (of_decide_eq_true w))]
  refine ⟨hL, wayNe (fun c => cm_e (by unfold cmE; rw [if_neg c]) c) fun c => way (fun k => ?_) fun k => ⟨hL, way (fun k2 => ?_) fun k2 => ⟨hL, ?_⟩⟩⟩
  · exact cm_e (no (by omega) c) (by decide)
  · exact cm_e (no (by omega) c) (by decide)
  · exact cm_0 (by unfold cmE; rw [if_pos c, if_pos (decide_eq_true ⟨by omega, by omega⟩)])
noncomputable def cCm : Con T := conP Try.prog [shH, .one (.i .i64)] [.l 68, .n] (fun d => inLg d.1) fun d => cmV d.1 d.2.1
theorem cm_ok : ConOk Try.prog E 42 cCm := conP_ok fun d hd => fact_run ctK_ok noLoops_ok (ts := [58, 30]) rfl (sC1 d.1 d.2.1 hd)
theorem cm2_ok : ConOk Try.prog E 43 cCm := conP_ok fun d hd => fact_run ctK_ok noLoops_ok (ts := [58, 30]) rfl (sC2 d.1 d.2.1 hd)
noncomputable def ctM5 : CTab T := (42, cCm) :: (43, cCm) :: (18, cAwake) :: ctK
theorem ctM5_ok : CTabOk Try.prog E ctM5 := .cons cm_ok (.cons cm2_ok (.cons awake_ok ctK_ok))
theorem tvL (h : List Seg) (v : Int) : runX ctM5 noLoops 7 [.agg [.sl 68 h false], i64 v] [4] =
  (.br (decide ((↑(List.length h) : Int) > (18 : Int)))
   (.leaf (.bool (true)))
   (.req (inLg h)
   (.req (inLg h)
   (.br (cmLo h v == cmLo h v && (cmHi h v == cmHi h v && true))
    (.br (cmE h v == cmE h v)
     (.leaf (.bool (true)))
     (.leaf (.bool (false))))
    (.leaf (.bool (false))))))) := by kernel_rfl
theorem no_way {α : Type} {Q : α → Prop} {t : Tree α} {b : Bool} (h : b = true) (k : b = false) : t.holds Q := by rw [h] at k; cases k
theorem sL (h : List Seg) (v : Int) (hL : inLg h) : (runX ctM5 noLoops 7 [.agg [.sl 68 h false], i64 v] [4]).holds fun x => x = .bool true := by
  rw [tvL]
  have r : ∀ x : Int, (x == x) = true := fun x => beq_self_eq_true x
  rw [r, r, r]
  exact way (fun _ => rfl) fun _ => ⟨hL, hL, wayB (fun _ => wayB (fun _ => rfl) (no_way rfl)) (no_way rfl)⟩
theorem casingCements_proved : Rows.CasingCementsSaid := casingCements_said fun h v hh _ => fact_run ctM5_ok noLoops_ok (ts := [4]) rfl (sL h.Segs v fun s hs => (hh.1.1 s hs).1.2)
end Go.Proofs.Ytcddppakogialaa.W.Hole
