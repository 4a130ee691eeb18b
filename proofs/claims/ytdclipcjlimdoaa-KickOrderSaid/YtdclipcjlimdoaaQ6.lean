/- The latest alarms of sensors: of many. No condition. -/
import Derived.Test.YtdclipcjlimdoaaQ5
set_option linter.unusedVariables false
set_option maxRecDepth 100000
set_option maxHeartbeats 4000000
noncomputable section
namespace Go.Proofs.Ytdclipcjlimdoaa.W
open Go Go.Cx Go.RowKit
noncomputable def eaE (o : Int) : Int := if o < 0 then 13 else 0
noncomputable def eaO (l : List Sensor) (x : Kick) : Int := mnT l x (-1)
theorem tb0 : tbOk 0 false := And.intro (fun h => by cases h) (fun _ => rfl)
theorem s90 (l : List Sensor) (x : Kick) (h : l.length ≤ 1000) : (runX ctEa (llOfN Try.prog E 90 0 [(3, cEa)]) 90 [.sl 29 l false, x.av] [2, 32]).holds fun v => v = .tup [i64 (pT (eaO l x)), i64 (eaE (eaO l x))] := by
  rw [tvEa]
  refine ⟨⟨⟨⟨rfl, h⟩, by decide⟩, tb0⟩, ?_⟩
  have m : (Tree.br (!!decide (eaO l x < 0)) (.leaf (.tup [i64 0, i64 13])) (.leaf (.tup [i64 (pT (eaO l x)), i64 0])) : Tree (AV T)).holds fun v => v = .tup [i64 (pT (eaO l x)), i64 (eaE (eaO l x))] := by
    unfold pT eaE
    by_cases c : eaO l x < 0
    · rw [decide_eq_true c, if_pos c, if_pos c]
      exact ⟨fun _ => rfl, fun h => by cases h⟩
    · rw [decide_eq_false c, if_neg c, if_neg c]
      exact ⟨fun h => (by cases h), fun _ => rfl⟩
  exact m
theorem s91 (l : List Sensor) (x : Kick) (h : l.length ≤ 1000) : (runX ctEa (llOfN Try.prog E 91 0 [(3, cLx)]) 91 [.sl 29 l false, x.av] [2, 32]).holds fun v => v = .tup [i64 (pT (eaO l x)), i64 (eaE (eaO l x))] := by
  rw [tvLx]
  refine ⟨⟨h, by decide⟩, ?_⟩
  have m : (Tree.br (decide (eaO l x < 0)) (.leaf (.tup [i64 0, i64 13])) (.leaf (.tup [i64 (eaO l x), i64 0])) : Tree (AV T)).holds fun v => v = .tup [i64 (pT (eaO l x)), i64 (eaE (eaO l x))] := by
    unfold pT eaE
    refine way (fun c => ?_) fun c => ?_
    · rw [if_pos c, if_pos c]; rfl
    · rw [if_neg c, if_neg c]; rfl
  exact m
noncomputable def cEarl : Con T := conP Try.prog [.one (.s 29), shK] [.l 29, .n, .n] (fun d => (d.1 : List Sensor).length ≤ 1000) fun d => .tup [i64 (pT (eaO d.1 ⟨d.2.1, d.2.2.1⟩)), i64 (eaE (eaO d.1 ⟨d.2.1, d.2.2.1⟩))]
theorem earl_ok : ConOk Try.prog E 90 cEarl := conP_ok fun d hd => fact_run ctEa_ok llEa (ts := [2, 32]) rfl (s90 d.1 ⟨d.2.1, d.2.2.1⟩ hd)
theorem earl2_ok : ConOk Try.prog E 91 cEarl := conP_ok fun d hd => fact_run ctEa_ok llLx (ts := [2, 32]) rfl (s91 d.1 ⟨d.2.1, d.2.2.1⟩ hd)
noncomputable def ctCt : CTab T := [(90, cEarl), (91, cEarl), (24, cSensors), (25, cSensors), (20, cKicks), (21, cKicks), (18, cKick), (19, cKick), (28, cGain), (29, cGain)]
theorem ctCt_ok : CTabOk Try.prog E ctCt := .cons earl_ok (.cons earl2_ok (.cons sensors_ok (.cons sensors2_ok (.cons kicks_ok (.cons kicks2_ok (.cons kick_ok (.cons kick2_ok (.cons gain_ok (.cons gain2_ok .nil)))))))))
theorem tv51 (l : List Sensor) (x : Kicks) : runN ctCt noLoops [] 51 [.sl 29 l false, x.av] [2, 32] =
  (.br (slErr l != (0 : Int))
   (.leaf (.tup [.sym .i64 ((0 : Int)), .sym .i64 (slErr l)]))
   (.br (ksErr (Kicks.mk (Range.mk (Range.Lo (Kicks.Rate x)) (Range.Hi (Kicks.Rate x))) (Range.mk (Range.Lo (Kicks.Grow x)) (Range.Hi (Kicks.Grow x)))) != (0 : Int))
    (.leaf (.tup [.sym .i64 ((0 : Int)), .sym .i64 (ksErr (Kicks.mk (Range.mk (Range.Lo (Kicks.Rate x)) (Range.Hi (Kicks.Rate x))) (Range.mk (Range.Lo (Kicks.Grow x)) (Range.Hi (Kicks.Grow x)))))]))
    (.req (List.length l ≤ (1000 : Nat))
    (.leaf (.tup [.sym .i64 (pT (eaO l (Kick.mk (Range.Lo (Kicks.Rate x)) (Range.Lo (Kicks.Grow x))))), .sym .i64 (eaE (eaO l (Kick.mk (Range.Lo (Kicks.Rate x)) (Range.Lo (Kicks.Grow x)))))]))))) := by kernel_rfl
theorem tv52 (l : List Sensor) (x : Kicks) : runN ctCt noLoops [] 52 [.sl 29 l false, x.av] [2, 32] =
  (.br (slErr l != (0 : Int))
   (.leaf (.tup [.sym .i64 ((0 : Int)), .sym .i64 (slErr l)]))
   (.br (ksErr (Kicks.mk (Range.mk (Range.Lo (Kicks.Rate x)) (Range.Hi (Kicks.Rate x))) (Range.mk (Range.Lo (Kicks.Grow x)) (Range.Hi (Kicks.Grow x)))) != (0 : Int))
    (.leaf (.tup [.sym .i64 ((0 : Int)), .sym .i64 (ksErr (Kicks.mk (Range.mk (Range.Lo (Kicks.Rate x)) (Range.Hi (Kicks.Rate x))) (Range.mk (Range.Lo (Kicks.Grow x)) (Range.Hi (Kicks.Grow x)))))]))
    (.req (List.length l ≤ (1000 : Nat))
    (.leaf (.tup [.sym .i64 (pT (eaO l (Kick.mk (Range.Lo (Kicks.Rate x)) (Range.Lo (Kicks.Grow x))))), .sym .i64 (eaE (eaO l (Kick.mk (Range.Lo (Kicks.Rate x)) (Range.Lo (Kicks.Grow x)))))]))))) := by kernel_rfl
theorem tv53 (l : List Sensor) (x : Kick) : runN ctCt noLoops [] 53 [.sl 29 l false, x.av] [2, 2, 32] =
  (.br (slErr l != (0 : Int))
   (.leaf (.tup [.sym .i64 ((0 : Int)), .sym .i64 ((0 : Int)), .sym .i64 (slErr l)]))
   (.br (kErr (Kick.mk (Kick.Rate x) (Kick.Grow x)) != (0 : Int))
    (.leaf (.tup [.sym .i64 ((0 : Int)), .sym .i64 ((0 : Int)), .sym .i64 (kErr (Kick.mk (Kick.Rate x) (Kick.Grow x)))]))
    (.req (List.length l ≤ (1000 : Nat))
    (.br (eaE (eaO l (Kick.mk (Kick.Rate x) (Kick.Grow x))) != (0 : Int))
     (.leaf (.tup [.sym .i64 ((0 : Int)), .sym .i64 ((0 : Int)), .sym .i64 (eaE (eaO l (Kick.mk (Kick.Rate x) (Kick.Grow x))))]))
     (.leaf (.tup [.sym .i64 (pT (eaO l (Kick.mk (Kick.Rate x) (Kick.Grow x)))), .sym .i64 (gain (Kick.mk (Kick.Rate x) (Kick.Grow x)) (pT (eaO l (Kick.mk (Kick.Rate x) (Kick.Grow x))))), .sym .i64 ((0 : Int))])))))) := by kernel_rfl
theorem tv54 (l : List Sensor) (x : Kick) : runN ctCt noLoops [] 54 [.sl 29 l false, x.av] [2, 2, 32] =
  (.br (slErr l != (0 : Int))
   (.leaf (.tup [.sym .i64 ((0 : Int)), .sym .i64 ((0 : Int)), .sym .i64 (slErr l)]))
   (.br (kErr (Kick.mk (Kick.Rate x) (Kick.Grow x)) != (0 : Int))
    (.leaf (.tup [.sym .i64 ((0 : Int)), .sym .i64 ((0 : Int)), .sym .i64 (kErr (Kick.mk (Kick.Rate x) (Kick.Grow x)))]))
    (.req (List.length l ≤ (1000 : Nat))
    (.br (eaE (eaO l (Kick.mk (Kick.Rate x) (Kick.Grow x))) != (0 : Int))
     (.leaf (.tup [.sym .i64 ((0 : Int)), .sym .i64 ((0 : Int)), .sym .i64 (eaE (eaO l (Kick.mk (Kick.Rate x) (Kick.Grow x))))]))
     (.leaf (.tup [.sym .i64 (pT (eaO l (Kick.mk (Kick.Rate x) (Kick.Grow x)))), .sym .i64 (gain (Kick.mk (Kick.Rate x) (Kick.Grow x)) (pT (eaO l (Kick.mk (Kick.Rate x) (Kick.Grow x))))), .sym .i64 ((0 : Int))])))))) := by kernel_rfl
noncomputable def lsE (l : List Sensor) (x : Kicks) : Int := if slErr l ≠ 0 then slErr l else if ksErr x ≠ 0 then ksErr x else eaE (eaO l ⟨x.Rate.Lo, x.Grow.Lo⟩)
noncomputable def lsT (l : List Sensor) (x : Kicks) : Int := if slErr l ≠ 0 then 0 else if ksErr x ≠ 0 then 0 else pT (eaO l ⟨x.Rate.Lo, x.Grow.Lo⟩)
noncomputable def caE (l : List Sensor) (x : Kick) : Int := if slErr l ≠ 0 then slErr l else if kErr x ≠ 0 then kErr x else eaE (eaO l x)
noncomputable def caT (l : List Sensor) (x : Kick) : Int := if slErr l ≠ 0 then 0 else if kErr x ≠ 0 then 0 else if eaE (eaO l x) ≠ 0 then 0 else pT (eaO l x)
noncomputable def caG (l : List Sensor) (x : Kick) : Int := if slErr l ≠ 0 then 0 else if kErr x ≠ 0 then 0 else if eaE (eaO l x) ≠ 0 then 0 else gain x (pT (eaO l x))
theorem sl_len {l : List Sensor} (h : slErr l = 0) : l.length ≤ 1000 := by
  unfold slErr at h
  split at h
  · cases h
  · split at h
    · cases h
    · omega
noncomputable def ltTree (l : List Sensor) (x : Kicks) : Tree (AV T) := (.br (slErr l != (0 : Int))
   (.leaf (.tup [.sym .i64 ((0 : Int)), .sym .i64 (slErr l)]))
   (.br (ksErr x != (0 : Int))
    (.leaf (.tup [.sym .i64 ((0 : Int)), .sym .i64 (ksErr x)]))
    (.req (List.length l ≤ (1000 : Nat))
    (.leaf (.tup [.sym .i64 (pT (eaO l ⟨x.Rate.Lo, x.Grow.Lo⟩)), .sym .i64 (eaE (eaO l ⟨x.Rate.Lo, x.Grow.Lo⟩))])))))
theorem ltTree_ok (l : List Sensor) (x : Kicks) : (ltTree l x).holds fun v => v = .tup [i64 (lsT l x), i64 (lsE l x)] := by
  unfold ltTree lsT lsE
  refine wayNe (fun c => ?_) fun c => wayNe (fun k => ?_) fun k => ⟨sl_len c, ?_⟩
  · rw [if_pos c, if_pos c]; rfl
  · rw [if_neg (fun h => h c), if_pos k, if_neg (fun h => h c), if_pos k]; rfl
  · rw [if_neg (fun h => h c), if_neg (fun h => h k), if_neg (fun h => h c), if_neg (fun h => h k)]; rfl
noncomputable def caTree (l : List Sensor) (x : Kick) : Tree (AV T) := (.br (slErr l != (0 : Int))
   (.leaf (.tup [.sym .i64 ((0 : Int)), .sym .i64 ((0 : Int)), .sym .i64 (slErr l)]))
   (.br (kErr x != (0 : Int))
    (.leaf (.tup [.sym .i64 ((0 : Int)), .sym .i64 ((0 : Int)), .sym .i64 (kErr x)]))
    (.req (List.length l ≤ (1000 : Nat))
    (.br (eaE (eaO l x) != (0 : Int))
     (.leaf (.tup [.sym .i64 ((0 : Int)), .sym .i64 ((0 : Int)), .sym .i64 (eaE (eaO l x))]))
     (.leaf (.tup [.sym .i64 (pT (eaO l x)), .sym .i64 (gain x (pT (eaO l x))), .sym .i64 ((0 : Int))]))))))
theorem caTree_ok (l : List Sensor) (x : Kick) : (caTree l x).holds fun v => v = .tup [i64 (caT l x), i64 (caG l x), i64 (caE l x)] := by
  unfold caTree caT caG caE
  refine wayNe (fun c => ?_) fun c => wayNe (fun k => ?_) fun k => ⟨sl_len c, wayNe (fun e => ?_) fun e => ?_⟩
  · rw [if_pos c, if_pos c, if_pos c]; rfl
  · rw [if_neg (fun h => h c), if_pos k, if_neg (fun h => h c), if_pos k, if_neg (fun h => h c), if_pos k]; rfl
  · rw [if_neg (fun h => h c), if_neg (fun h => h k), if_pos e, if_neg (fun h => h c), if_neg (fun h => h k), if_pos e, if_neg (fun h => h c), if_neg (fun h => h k)]; rfl
  · rw [if_neg (fun h => h c), if_neg (fun h => h k), if_neg (fun h => h e), if_neg (fun h => h c), if_neg (fun h => h k), if_neg (fun h => h e), if_neg (fun h => h c), if_neg (fun h => h k), e]; rfl
theorem s51 (l : List Sensor) (x : Kicks) : (runN ctCt noLoops [] 51 [.sl 29 l false, x.av] [2, 32]).holds fun v => v = .tup [i64 (lsT l x), i64 (lsE l x)] := by rw [tv51]; exact ltTree_ok l x
theorem s52 (l : List Sensor) (x : Kicks) : (runN ctCt noLoops [] 52 [.sl 29 l false, x.av] [2, 32]).holds fun v => v = .tup [i64 (lsT l x), i64 (lsE l x)] := by rw [tv52]; exact ltTree_ok l x
theorem s53 (l : List Sensor) (x : Kick) : (runN ctCt noLoops [] 53 [.sl 29 l false, x.av] [2, 2, 32]).holds fun v => v = .tup [i64 (caT l x), i64 (caG l x), i64 (caE l x)] := by rw [tv53]; exact caTree_ok l x
theorem s54 (l : List Sensor) (x : Kick) : (runN ctCt noLoops [] 54 [.sl 29 l false, x.av] [2, 2, 32]).holds fun v => v = .tup [i64 (caT l x), i64 (caG l x), i64 (caE l x)] := by rw [tv54]; exact caTree_ok l x
noncomputable def cLst : Con T := conPX Try.prog E [.one (.s 29), shKs] [.l 29, .n, .n, .n, .n] (fun _ => True) fun d => .tup [i64 (lsT d.1 ⟨⟨d.2.1, d.2.2.1⟩, ⟨d.2.2.2.1, d.2.2.2.2.1⟩⟩), i64 (lsE d.1 ⟨⟨d.2.1, d.2.2.1⟩, ⟨d.2.2.2.1, d.2.2.2.2.1⟩⟩)]
noncomputable def cCau : Con T := conPX Try.prog E [.one (.s 29), shK] [.l 29, .n, .n] (fun _ => True) fun d => .tup [i64 (caT d.1 ⟨d.2.1, d.2.2.1⟩), i64 (caG d.1 ⟨d.2.1, d.2.2.1⟩), i64 (caE d.1 ⟨d.2.1, d.2.2.1⟩)]
theorem lst_ok : ConOk Try.prog E 51 cLst := conPX_ok fun d _ => factN_run ctCt_ok noLoops_ok flN (ts := [2, 32]) rfl (s51 d.1 ⟨⟨d.2.1, d.2.2.1⟩, ⟨d.2.2.2.1, d.2.2.2.2.1⟩⟩)
theorem lst2_ok : ConOk Try.prog E 52 cLst := conPX_ok fun d _ => factN_run ctCt_ok noLoops_ok flN (ts := [2, 32]) rfl (s52 d.1 ⟨⟨d.2.1, d.2.2.1⟩, ⟨d.2.2.2.1, d.2.2.2.2.1⟩⟩)
theorem cau_ok : ConOk Try.prog E 53 cCau := conPX_ok fun d _ => factN_run ctCt_ok noLoops_ok flN (ts := [2, 2, 32]) rfl (s53 d.1 ⟨d.2.1, d.2.2.1⟩)
theorem cau2_ok : ConOk Try.prog E 54 cCau := conPX_ok fun d _ => factN_run ctCt_ok noLoops_ok flN (ts := [2, 2, 32]) rfl (s54 d.1 ⟨d.2.1, d.2.2.1⟩)
noncomputable def ctSl : CTab T := [(86, cFnd), (87, cWor), (48, cLate), (66, cWithin), (30, cValue), (31, cValue), (18, cKick), (22, cSensor)]
theorem ctSl_ok : CTabOk Try.prog E ctSl := .cons fnd_ok (.cons wor_ok (.cons late2_ok (.cons within_ok (.cons value_ok (.cons value2_ok (.cons kick_ok (.cons sensor_ok .nil)))))))
end Go.Proofs.Ytdclipcjlimdoaa.W
