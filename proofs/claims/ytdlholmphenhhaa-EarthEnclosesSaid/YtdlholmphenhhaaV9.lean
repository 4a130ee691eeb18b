/- The ranges of an earth at a depth. No condition. -/
import Derived.Test.YtdlholmphenhhaaV8
set_option linter.unusedVariables false
set_option maxRecDepth 100000
noncomputable section
namespace Go.Proofs.Ytdlholmphenhhaa.W
open Go Go.Cx Go.RowKit
noncomputable abbrev ctR : CTab T := (101, cPts) :: (113, catMost) :: (112, catLeast) :: (100, cRefup) :: (102, cRefdn) :: (31, cCheck) :: (32, cCheck) :: ctB
theorem ctR_ok : CTabOk Try.prog E ctR := .cons pts2_ok (.cons okatMost (.cons okatLeast (.cons okRefup (.cons okRefdn (.cons check_ok (.cons check2_ok ctB_ok))))))
@[reducible] def inZ (e : Earth) (z : Int) : Prop := eErr e = 0 ∧ 0 ≤ z ∧ z ≤ e.Bottom
theorem lE_good {l : Line} (h : lE l = 0) : Good l.Knots 1048576 68719476736 := (lineErr_good h).1
theorem pre_up {e : Earth} {z : Int} (h : inZ e z) {l : Line} (hl : lE l = 0) (k : Int) : pre113up e l.Knots k z := by
  have H := eErr_ok h.1
  have G := lE_good hl
  have l1 := G.len
  have l2 := H.len
  have n := H.num
  refine ⟨⟨by omega, by omega⟩, .inl hl, ⟨by omega, by omega, by omega⟩, fun k' hk => ?_, ?_⟩
  · rcases List.mem_append.1 hk with hk | hk
    · obtain ⟨i, hi, rfl⟩ := mem_kn (List.mem_filter.1 hk).1
      exact G.bd i hi
    · obtain ⟨r, hr, rfl⟩ := List.mem_map.1 hk
      have := H.rep r (List.mem_filter.1 hr).1
      exact ⟨⟨this.2.1.1, Int.le_trans this.2.1.2 n.1.2⟩, this.2.2⟩
  · have a := ptK_len (b := e.Bottom) (l := l.Knots)
    have b := ptR_len (k := k) (l := e.Reports)
    unfold pts
    rw [List.length_append]
    omega
theorem pre_dn {e : Earth} {z : Int} (h : inZ e z) {l : Line} (hl : lE l = 0) (k : Int) : pre113dn e l.Knots k z := pre_up h hl k
noncomputable def pLo (e : Earth) (z : Int) : Int := fdK mx (dn e.GLo e.GHi z) (valLo e.PoreLo.Knots z) (pts e e.PoreLo.Knots 1)
noncomputable def fHi (e : Earth) (z : Int) : Int := fdK mn (up e.GLo e.GHi z) (valHi e.FracHi.Knots z) (pts e e.FracHi.Knots 4)
noncomputable def pHi (e : Earth) (z : Int) : Int := mn (fdK mn (up e.GLo e.GHi z) (valHi e.PoreHi.Knots z) (pts e e.PoreHi.Knots 2)) (fHi e z)
noncomputable def fLo (e : Earth) (z : Int) : Int := mx (fdK mx (dn e.GLo e.GHi z) (valLo e.FracLo.Knots z) (pts e e.FracLo.Knots 3)) (pLo e z)
@[reducible] noncomputable def rgs (e : Earth) (z : Int) : AV T := .tup [.agg [i64 (pLo e z), i64 (pHi e z)], .agg [i64 (fLo e z), i64 (fHi e z)]]
theorem tv99 (e : Earth) (z : Int) : runX ctR noLoops 99 [e.av, i64 z] [32, 32] =
  (.req (pre113dn e e.PoreLo.Knots 1 z) (.req (pre113up e e.FracHi.Knots 4 z) (.req (pre113up e e.PoreHi.Knots 2 z) (.req (pre113dn e e.FracLo.Knots 3 z) (.leaf (rgs e z)))))) := by kernel_rfl
noncomputable def reqP (e : Earth) (l : List Knot) (k z : Int) (t : Tree (AV T)) : Tree (AV T) := .req (l.length ≤ 900 ∧ e.Reports.length ≤ 900) (.req (isR l) (.req (lOk e.GLo e.GHi z (pts e l k)) t))
theorem reqP_ok {e : Earth} {l : List Knot} {k z : Int} {t : Tree (AV T)} {Q : AV T → Prop} (h : pre113up e l k z) (ht : t.holds Q) : (reqP e l k z t).holds Q := ⟨h.1, h.2.1, h.2.2, ht⟩
noncomputable def pLo' (e : Earth) (z : Int) : Int := fdK mx (dn e.GLo e.GHi z) (mx 0 (valLo e.PoreLo.Knots z)) (pts e e.PoreLo.Knots 1)
theorem tv76 (e : Earth) (z : Int) : runX ctR noLoops 76 [e.av, i64 z] [32, 32] =
  reqP e e.FracHi.Knots 4 z (reqP e e.PoreHi.Knots 2 z (reqP e e.PoreLo.Knots 1 z (reqP e e.FracLo.Knots 3 z (.leaf (.tup [.agg [i64 (pLo' e z), i64 (fdK mn (up e.GLo e.GHi z) (mn (valHi e.PoreHi.Knots z) (fHi e z)) (pts e e.PoreHi.Knots 2))], .agg [i64 (fdK mx (dn e.GLo e.GHi z) (mx (pLo' e z) (valLo e.FracLo.Knots z)) (pts e e.FracLo.Knots 3)), i64 (fHi e z)]]))))) := by kernel_rfl
theorem mx_comm (a b : Int) : mx a b = mx b a := by unfold mx; repeat' split
                                                    all_goals omega
theorem mx_zero {a : Int} (h : 0 ≤ a) : mx 0 a = a := by unfold mx; split <;> omega
theorem s99 (e : Earth) (z : Int) (h : inZ e z) : (runX ctR noLoops 99 [e.av, i64 z] [32, 32]).holds fun v => v = rgs e z := by
  rw [tv99]
  have H := eErr_ok h.1
  exact ⟨pre_dn h H.l1 _, pre_up h H.l4 _, pre_up h H.l2 _, pre_dn h H.l3 _, rfl⟩
theorem s76 (e : Earth) (z : Int) (h : inZ e z) : (runX ctR noLoops 76 [e.av, i64 z] [32, 32]).holds fun v => v = rgs e z := by
  rw [tv76]
  have H := eErr_ok h.1
  refine reqP_ok (pre_up h H.l4 _) (reqP_ok (pre_up h H.l2 _) (reqP_ok (pre_up h H.l1 _) (reqP_ok (pre_up h H.l3 _) ?_)))
  have e1 : pLo' e z = pLo e z := by
    unfold pLo' pLo
    rw [mx_zero (val_bd (lE_good H.l1) z).1.1]
  show AV.tup _ = _
  unfold rgs
  rw [e1, fdK_mn, mx_comm, fdK_mx]
  rfl
noncomputable def cRanges : Con T := conP Try.prog [shE, .one (.i .i64)] [.n, .l 78, .l 78, .l 78, .l 78, .n, .n, .l 55, .n] (fun d => inZ ⟨d.1, ⟨d.2.1⟩, ⟨d.2.2.1⟩, ⟨d.2.2.2.1⟩, ⟨d.2.2.2.2.1⟩, d.2.2.2.2.2.1, d.2.2.2.2.2.2.1, d.2.2.2.2.2.2.2.1⟩ d.2.2.2.2.2.2.2.2.1) fun d => rgs ⟨d.1, ⟨d.2.1⟩, ⟨d.2.2.1⟩, ⟨d.2.2.2.1⟩, ⟨d.2.2.2.2.1⟩, d.2.2.2.2.2.1, d.2.2.2.2.2.2.1, d.2.2.2.2.2.2.2.1⟩ d.2.2.2.2.2.2.2.2.1
theorem ranges_ok : ConOk Try.prog E 99 cRanges := conP_ok fun d hd => fact_run ctR_ok noLoops_ok (ts := [32, 32]) rfl (s99 ⟨d.1, ⟨d.2.1⟩, ⟨d.2.2.1⟩, ⟨d.2.2.2.1⟩, ⟨d.2.2.2.2.1⟩, d.2.2.2.2.2.1, d.2.2.2.2.2.2.1, d.2.2.2.2.2.2.2.1⟩ d.2.2.2.2.2.2.2.2.1 hd)
theorem ranges2_ok : ConOk Try.prog E 76 cRanges := conP_ok fun d hd => fact_run ctR_ok noLoops_ok (ts := [32, 32]) rfl (s76 ⟨d.1, ⟨d.2.1⟩, ⟨d.2.2.1⟩, ⟨d.2.2.2.1⟩, ⟨d.2.2.2.2.1⟩, d.2.2.2.2.2.1, d.2.2.2.2.2.2.1, d.2.2.2.2.2.2.2.1⟩ d.2.2.2.2.2.2.2.2.1 hd)
noncomputable abbrev ctK : CTab T := (99, cRanges) :: (76, cRanges) :: ctR
theorem ctK_ok : CTabOk Try.prog E ctK := .cons ranges_ok (.cons ranges2_ok ctR_ok)
noncomputable def kP (f : Earth → Int → Int) (e : Earth) (z : Int) : Int := if inZ e z then f e z else 0
theorem kP_in {f : Earth → Int → Int} {e : Earth} {z : Int} (h : inZ e z) : kP f e z = f e z := if_pos h
theorem kP_out {f : Earth → Int → Int} {e : Earth} {z : Int} (h : ¬ inZ e z) : kP f e z = 0 := if_neg h
@[reducible] noncomputable def rgP (e : Earth) (z : Int) : AV T := .agg [i64 (kP pLo e z), i64 (kP pHi e z)]
@[reducible] noncomputable def rgF (e : Earth) (z : Int) : AV T := .agg [i64 (kP fLo e z), i64 (kP fHi e z)]
@[reducible] noncomputable def rgW (e : Earth) (z : Int) : AV T := .agg [i64 (kP pHi e z), i64 (kP fLo e z)]
noncomputable def kTree (e : Earth) (z : Int) (a b : AV T) : Tree (AV T) := .br (eErr e != 0) (.leaf a) (.br (!within z 0 e.Bottom) (.leaf a) (.req (inZ e z) (.leaf b)))
noncomputable def kTree2 (e : Earth) (z : Int) (a b : AV T) : Tree (AV T) := .br (decide (z ≥ 0)) (.br (decide (z ≤ e.Bottom)) (.br (!(eErr e == 0)) (.leaf a) (.req (inZ e z) (.leaf b))) (.leaf a)) (.leaf a)
theorem kTree_ok {e : Earth} {z : Int} {a b c : AV T} (h1 : inZ e z → b = c) (h2 : ¬ inZ e z → a = c) : (kTree e z a b).holds fun v => v = c :=
  wayNe (fun h => h2 fun k => h k.1) fun h => wayN (fun k => h2 fun q => k q.2) fun k => ⟨⟨h, k⟩, h1 ⟨h, k⟩⟩
theorem kTree2_ok {e : Earth} {z : Int} {a b c : AV T} (h1 : inZ e z → b = c) (h2 : ¬ inZ e z → a = c) : (kTree2 e z a b).holds fun v => v = c :=
  way (fun p => way (fun q => wayNEq (fun h => h2 fun k => h k.1) fun h => ⟨⟨h, p, q⟩, h1 ⟨h, p, q⟩⟩) fun k => h2 fun q => k q.2.2) fun k => h2 fun q => k q.2.1
@[reducible] noncomputable def z2 : AV T := .agg [i64 0, i64 0]
theorem tv39 (e : Earth) (z : Int) : runX ctK noLoops 39 [e.av, i64 z] [32] = kTree e z z2 (.agg [i64 (pLo e z), i64 (pHi e z)]) := by kernel_rfl
theorem tv41 (e : Earth) (z : Int) : runX ctK noLoops 41 [e.av, i64 z] [32] = kTree e z z2 (.agg [i64 (fLo e z), i64 (fHi e z)]) := by kernel_rfl
theorem tv43 (e : Earth) (z : Int) : runX ctK noLoops 43 [e.av, i64 z] [32] = kTree e z z2 (.agg [i64 (pHi e z), i64 (fLo e z)]) := by kernel_rfl
theorem tv40 (e : Earth) (z : Int) : runX ctK noLoops 40 [e.av, i64 z] [32] = kTree2 e z z2 (.agg [i64 (pLo e z), i64 (pHi e z)]) := by kernel_rfl
theorem tv42 (e : Earth) (z : Int) : runX ctK noLoops 42 [e.av, i64 z] [32] = kTree2 e z z2 (.agg [i64 (fLo e z), i64 (fHi e z)]) := by kernel_rfl
theorem tv44 (e : Earth) (z : Int) : runX ctK noLoops 44 [e.av, i64 z] [32] = kTree2 e z z2 (.agg [i64 (pHi e z), i64 (fLo e z)]) := by kernel_rfl
theorem rg_k {f g : Earth → Int → Int} {e : Earth} {z : Int} : (inZ e z → AV.agg [i64 (f e z), i64 (g e z)] = .agg [i64 (kP f e z), i64 (kP g e z)]) ∧ (¬ inZ e z → z2 = .agg [i64 (kP f e z), i64 (kP g e z)]) :=
  ⟨fun h => by rw [kP_in h, kP_in h], fun h => by rw [kP_out h, kP_out h]⟩
theorem s39 (e : Earth) (z : Int) : (runX ctK noLoops 39 [e.av, i64 z] [32]).holds fun v => v = rgP e z := by rw [tv39]; exact kTree_ok rg_k.1 rg_k.2
theorem s41 (e : Earth) (z : Int) : (runX ctK noLoops 41 [e.av, i64 z] [32]).holds fun v => v = rgF e z := by rw [tv41]; exact kTree_ok rg_k.1 rg_k.2
theorem s43 (e : Earth) (z : Int) : (runX ctK noLoops 43 [e.av, i64 z] [32]).holds fun v => v = rgW e z := by rw [tv43]; exact kTree_ok rg_k.1 rg_k.2
theorem s40 (e : Earth) (z : Int) : (runX ctK noLoops 40 [e.av, i64 z] [32]).holds fun v => v = rgP e z := by rw [tv40]; exact kTree2_ok rg_k.1 rg_k.2
theorem s42 (e : Earth) (z : Int) : (runX ctK noLoops 42 [e.av, i64 z] [32]).holds fun v => v = rgF e z := by rw [tv42]; exact kTree2_ok rg_k.1 rg_k.2
theorem s44 (e : Earth) (z : Int) : (runX ctK noLoops 44 [e.av, i64 z] [32]).holds fun v => v = rgW e z := by rw [tv44]; exact kTree2_ok rg_k.1 rg_k.2
@[reducible] def sigEz : List VT := [.n, .l 78, .l 78, .l 78, .l 78, .n, .n, .l 55, .n]
@[reducible] noncomputable def eZ (d : Den T sigEz) : Earth := ⟨d.1, ⟨d.2.1⟩, ⟨d.2.2.1⟩, ⟨d.2.2.2.1⟩, ⟨d.2.2.2.2.1⟩, d.2.2.2.2.2.1, d.2.2.2.2.2.2.1, d.2.2.2.2.2.2.2.1⟩
@[reducible] noncomputable def zZ (d : Den T sigEz) : Int := d.2.2.2.2.2.2.2.2.1
noncomputable def cPore : Con T := conV Try.prog [shE, .one (.i .i64)] sigEz fun d => rgP (eZ d) (zZ d)
noncomputable def cFrac : Con T := conV Try.prog [shE, .one (.i .i64)] sigEz fun d => rgF (eZ d) (zZ d)
noncomputable def cWindow : Con T := conV Try.prog [shE, .one (.i .i64)] sigEz fun d => rgW (eZ d) (zZ d)
theorem pore_ok : ConOk Try.prog E 39 cPore := conV_ok fun d => fact_run ctK_ok noLoops_ok (ts := [32]) rfl (s39 (eZ d) (zZ d))
theorem pore2_ok : ConOk Try.prog E 40 cPore := conV_ok fun d => fact_run ctK_ok noLoops_ok (ts := [32]) rfl (s40 (eZ d) (zZ d))
theorem frac_ok : ConOk Try.prog E 41 cFrac := conV_ok fun d => fact_run ctK_ok noLoops_ok (ts := [32]) rfl (s41 (eZ d) (zZ d))
theorem frac2_ok : ConOk Try.prog E 42 cFrac := conV_ok fun d => fact_run ctK_ok noLoops_ok (ts := [32]) rfl (s42 (eZ d) (zZ d))
theorem window_ok : ConOk Try.prog E 43 cWindow := conV_ok fun d => fact_run ctK_ok noLoops_ok (ts := [32]) rfl (s43 (eZ d) (zZ d))
theorem window2_ok : ConOk Try.prog E 44 cWindow := conV_ok fun d => fact_run ctK_ok noLoops_ok (ts := [32]) rfl (s44 (eZ d) (zZ d))
/-! ### Copies of earths -/
noncomputable abbrev ctC : CTab T := (20, cOwn) :: (29, cSame) :: ctB
theorem ctC_ok : CTabOk Try.prog E ctC := .cons own_ok (.cons same_ok ctB_ok)
@[reducible] def smallE (e : Earth) : Prop := (e.PoreLo.Knots.length ≤ 900 ∧ e.PoreHi.Knots.length ≤ 900 ∧ e.FracLo.Knots.length ≤ 900 ∧ e.FracHi.Knots.length ≤ 900) ∧ e.Reports.length ≤ 900
theorem tv38 (e : Earth) : runX ctC noLoops 38 [e.av] [39] =
  (.req (List.length (Line.Knots (Earth.PoreLo e)) ≤ (1000 : Nat))
  (.req (List.length (Line.Knots (Earth.PoreHi e)) ≤ (1000 : Nat))
  (.req (List.length (Line.Knots (Earth.FracLo e)) ≤ (1000 : Nat))
  (.req (List.length (Line.Knots (Earth.FracHi e)) ≤ (1000 : Nat))
  (.req ((0 : Nat) + List.length (Earth.Reports e) ≤ (1073741824 : Nat))
  (.req (List.length ([] ++ Earth.Reports e) = List.length ([] ++ Earth.Reports e))
  (.leaf (.agg [.sym .i64 (Earth.Bottom e), .sl (78 : Nat) (Line.Knots (Earth.PoreLo e)) false, .sl (78 : Nat) (Line.Knots (Earth.PoreHi e)) false, .sl (78 : Nat) (Line.Knots (Earth.FracLo e)) false, .sl (78 : Nat) (Line.Knots (Earth.FracHi e)) false, .sym .i64 (Earth.GLo e), .sym .i64 (Earth.GHi e), .sl (55 : Nat) ([] ++ Earth.Reports e) false])))))))) := by kernel_rfl
theorem s38 (e : Earth) (h : smallE e) : (runX ctC noLoops 38 [e.av] [39]).holds fun v => v = e.av := by
  rw [tv38]
  obtain ⟨⟨h1, h2, h3, h4⟩, h5⟩ := h
  exact ⟨by omega, by omega, by omega, by omega, by omega, rfl, rfl⟩
noncomputable def cCopy : Con T := conP Try.prog [shE] sigE (fun d => smallE (eOf d)) fun d => (eOf d).av
theorem copy_ok : ConOk Try.prog E 38 cCopy := conP_ok fun d hd => fact_run ctC_ok noLoops_ok (ts := [39]) rfl (s38 (eOf d) hd)
end Go.Proofs.Ytdlholmphenhhaa.W
