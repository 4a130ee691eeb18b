/- FluidFlows: what flows, which gradient a flow needs, and the loss above a place are those of the reference. No condition. -/
import Derived.Test.YtnhedcaphncliaaFC
import Derived.Test.YtnhedcaphncliaaW
import Derived.Test.YtnhedcaphncliaaLFluidFlows
set_option linter.unusedVariables false
set_option maxRecDepth 100000
set_option maxHeartbeats 4000000
noncomputable section
namespace Go.Proofs.Ytnhedcaphncliaa.W.Hole
open Go Go.Cx Go.RowKit
noncomputable def va : List Seg → Int
  | [] => 0
  | s :: r => s.Long * s.Area + va r
theorem prod_s {s : Seg} (h : segP s) : s.Long ≤ s.Long * s.Area ∧ s.Long * s.Area ≤ 5000 * s.Long := by
  have h1 := Int.mul_le_mul_of_nonneg_left h.2.2.1.1 (show 0 ≤ s.Long by have := h.1; omega)
  have h2 := Int.mul_le_mul_of_nonneg_left h.2.2.1.2 (show 0 ≤ s.Long by have := h.1; omega)
  omega
theorem va_bd : ∀ {l : List Seg}, allS l = true → sumL l ≤ va l ∧ va l ≤ 5000 * sumL l
  | [], _ => by decide
  | s :: r, h => by
    obtain ⟨h1, h2⟩ := Bool.and_eq_true_iff.1 h
    have h3 := prod_s (of_decide_eq_true h1)
    have h4 := va_bd h2
    show s.Long + sumL r ≤ s.Long * s.Area + va r ∧ s.Long * s.Area + va r ≤ 5000 * (s.Long + sumL r)
    omega
theorem hi_eq {s : Seg} {low : Int} (h : segP s) (h0 : 0 ≤ low) (h1 : low + 5000 * s.Long ≤ 4611686018427387904) : hi s low = low + s.Long * s.Area := by
  have h3 := prod_s h
  have h4 := h.1
  unfold hi wr
  rw [i64_in' (n := s.Long * s.Area) (by omega) (by omega)]
  exact i64_in' (by omega) (by omega)
theorem vf_va : ∀ {l : List Seg} {low : Int}, allS l = true → 0 ≤ low → low + 5000 * sumL l ≤ 4611686018427387904 → vf l low = low + va l
  | [], low, _, _, _ => by show low = low + 0; omega
  | s :: r, low, h, h0, hb => by
    obtain ⟨h1, h2⟩ := Bool.and_eq_true_iff.1 h
    have h1 := of_decide_eq_true h1
    have h3 := prod_s h1
    have h4 := sumL_nn h2
    have hb : low + 5000 * (s.Long + sumL r) ≤ 4611686018427387904 := hb
    show vf r (hi s low) = low + (s.Long * s.Area + va r)
    rw [hi_eq h1 h0 (by omega), vf_va h2 (by have := h1.1; omega) (by omega)]
    omega
theorem vol_bd (l : List Seg) : 0 ≤ vol l ∧ vol l ≤ 5242880000 := by
  unfold vol
  split
  · rename_i h
    obtain ⟨_, h1, h2⟩ := hE_0 h
    have := va_bd h1
    have := sumL_nn h1
    rw [vf_va h1 (by decide) (by omega)]
    omega
  · decide

noncomputable def loB (l : List Seg) (Y W q u : Int) : Bool := if hE l = 0 ∧ within u 0 (vol l) = true then lsB Y W q l else false
noncomputable def loL (l : List Seg) (Y W q u : Int) : Int := if loB l Y W q u = true then lsL Y W q u l 0 0 else 0
noncomputable def loH (l : List Seg) (Y W q u : Int) : Int := if loB l Y W q u = true then lsH Y W q u l 0 0 else 0
@[reducible] noncomputable def loA (l : List Seg) (Y W q u : Int) : AV T := .tup [.agg [i64 (loL l Y W q u), i64 (loH l Y W q u)], .bool (loB l Y W q u)]
theorem lo_no {l : List Seg} {Y W q u : Int} (h : loB l Y W q u = false) : (AV.tup [.agg [i64 0, i64 0], .bool false] : AV T) = loA l Y W q u := by
  unfold loA loL loH
  rw [h]
  rfl
theorem lo_out {l : List Seg} {Y W q u : Int} (h : ¬ (hE l = 0 ∧ within u 0 (vol l) = true)) : loB l Y W q u = false := if_neg h
theorem lo_fin {l : List Seg} {Y W q u : Int} (h : hE l = 0 ∧ within u 0 (vol l) = true) : (Tree.br (lsB Y W q l) (.leaf (.tup [.agg [i64 (lsL Y W q u l 0 0), i64 (lsH Y W q u l 0 0)], .bool true])) (.leaf (.tup [.agg [i64 0, i64 0], .bool false])) : Tree (AV T)).holds fun v => v = loA l Y W q u := by
  have e : loB l Y W q u = lsB Y W q l := if_pos h
  refine wayB (fun c => ?_) fun c => ?_
  · have c : lsB Y W q l = true := c
    unfold loA loL loH
    rw [e, c, if_pos rfl, if_pos rfl]; rfl
  · have c : lsB Y W q l = false := c
    exact lo_no (by rw [e]; exact c)
theorem s42 (l : List Seg) (Y W q u : Int) (h : inLg l) : (runX ctLo (llOfN Try.prog E 92 9 [(2, cLp)]) 42 [.agg [.sl 52 l false], .agg [i64 Y, i64 W], i64 q, i64 u] [42, 4]).holds fun v => v = loA l Y W q u := by
  rw [tvLp]
  refine ⟨h, wayNEq (fun c => lo_no (lo_out fun q => c q.1)) fun c => ⟨h, wayB (fun k => lo_no (lo_out fun q => by rw [q.2] at k; cases k)) fun k => ?_⟩⟩
  have k : within u 0 (vol l) = true := by simpa using k
  have b := of_decide_eq_true k
  have v := vol_bd l
  have e := hE_0 c
  exact ⟨rfl, ⟨⟨⟨⟨by decide, rfl⟩, h⟩, e.1.2, e.2.1, b.1, by omega⟩, by decide, by decide, by decide⟩, lo_fin ⟨c, k⟩⟩
theorem s43 (l : List Seg) (Y W q u : Int) (h : inLg l) : (runX ctLo (llOfN Try.prog E 43 0 [(6, cLr)]) 43 [.agg [.sl 52 l false], .agg [i64 Y, i64 W], i64 q, i64 u] [42, 4]).holds fun v => v = loA l Y W q u := by
  rw [tvLr]
  refine ⟨h, wayNe (fun c => lo_no (lo_out fun q => c q.1)) fun c => way (fun k => lo_no (lo_out fun q => ?_)) fun k => ⟨h, way (fun k2 => lo_no (lo_out fun q => ?_)) fun k2 => ?_⟩⟩
  · have := of_decide_eq_true q.2; omega
  · have := of_decide_eq_true q.2; omega
  · have v := vol_bd l
    have e := hE_0 c
    exact ⟨⟨⟨by decide, e.1.2, e.2.1, by omega, by omega⟩, by decide, by decide, by decide⟩, lo_fin ⟨c, decide_eq_true ⟨by omega, by omega⟩⟩⟩
noncomputable def cLoss : Con T := conP Try.prog [shH, shM, .one (.i .i64), .one (.i .i64)] [.l 52, .n, .n, .n, .n] (fun d => inLg d.1) fun d => loA d.1 d.2.1 d.2.2.1 d.2.2.2.1 d.2.2.2.2.1
theorem loss_ok : ConOk Try.prog E 42 cLoss := conP_ok fun d hd => fact_run ctLo_ok llLp (ts := [42, 4]) rfl (s42 d.1 d.2.1 d.2.2.1 d.2.2.2.1 d.2.2.2.2.1 hd)
theorem loss2_ok : ConOk Try.prog E 43 cLoss := conP_ok fun d hd => fact_run ctLo_ok llLr (ts := [42, 4]) rfl (s43 d.1 d.2.1 d.2.2.1 d.2.2.2.1 d.2.2.2.2.1 hd)
noncomputable def ctFF : CTab T := [(19, cAwake), (40, cGr), (41, cGrR), (42, cLoss), (43, cLoss), (44, cFw), (45, cFwR)]
theorem ctFF_ok : CTabOk Try.prog E ctFF := .cons awake_ok (.cons gr_ok (.cons grR_ok (.cons loss_ok (.cons loss2_ok (.cons fw_ok (.cons fwR_ok .nil))))))
theorem tvFF (s : Seg) (Y V g q : Int) (l : List Seg) (u : Int) : runX ctFF noLoops 7 [s.av, .agg [i64 Y, i64 V], i64 g, i64 q, .agg [.sl 52 l false], i64 u] [4] =
  (.br (decide ((↑(List.length l) : Int) > (18 : Int)))
   (.leaf (.bool (true)))
   (.req ((-9223372036854775808 : Int) ≤ Seg.Long s ∧ Seg.Long s ≤ (9223372036854775807 : Int))
   (.req (inLg l)
   (.req (inLg l)
   (.req ((-9223372036854775808 : Int) ≤ Seg.Long s ∧ Seg.Long s ≤ (9223372036854775807 : Int))
   (.br (flB (Seg.Long s) (Seg.Rise s) (Seg.Area s) (Seg.Gap s) Y V g q == flB (Seg.Long s) (Seg.Rise s) (Seg.Area s) (Seg.Gap s) Y V g q)
    (.br (grN (Seg.Long s) (Seg.Rise s) (Seg.Area s) (Seg.Gap s) Y V q == grN (Seg.Long s) (Seg.Rise s) (Seg.Area s) (Seg.Gap s) Y V q)
     (.br (grB (Seg.Long s) (Seg.Rise s) (Seg.Area s) (Seg.Gap s) Y V q == grB (Seg.Long s) (Seg.Rise s) (Seg.Area s) (Seg.Gap s) Y V q)
      (.br (loL l Y V q u == loL l Y V q u && (loH l Y V q u == loH l Y V q u && true))
       (.br (loB l Y V q u == loB l Y V q u)
        (.leaf (.bool (true)))
        (.leaf (.bool (false))))
       (.leaf (.bool (false))))
      (.leaf (.bool (false))))
     (.leaf (.bool (false))))
    (.leaf (.bool (false))))))))) := by kernel_rfl
theorem eq_y {a b : Int} {t f : Tree (AV T)} {Q : AV T → Prop} (h : a = b) (k : t.holds Q) : (Tree.br (a == b) t f).holds Q := wayEq (fun _ => k) fun c => absurd h c
theorem eqb_y {a b : Bool} {t f : Tree (AV T)} {Q : AV T → Prop} (h : a = b) (k : t.holds Q) : (Tree.br (a == b) t f).holds Q := by
  subst h
  exact ⟨fun _ => k, fun c => (by cases a <;> cases c)⟩
theorem tt_y {a : Bool} {t f : Tree (AV T)} {Q : AV T → Prop} (h : a = true) (k : t.holds Q) : (Tree.br a t f).holds Q := ⟨fun _ => k, fun c => (by rw [h] at c; cases c)⟩
theorem fluidFlows_proved : Rows.FluidFlowsSaid := fluidFlows_said fun s m g q h u hs _ _ _ hh _ => fact_run ctFF_ok noLoops_ok (ts := [4]) rfl (by
  show (runX ctFF noLoops 7 [s.av, .agg [i64 m.Yield, i64 m.Visc], i64 g, i64 q, .agg [.sl 52 h.Segs false], i64 u] [4]).holds _
  rw [tvFF]
  have hi : inLg h.Segs := fun x hx => (hh.1.1 x hx).1.2
  refine way (fun _ => rfl) fun _ => ⟨hs.1, hi, hi, hs.1, eqb_y rfl (eq_y rfl (eqb_y rfl (tt_y (by simp) (eqb_y rfl rfl))))⟩)
end Go.Proofs.Ytnhedcaphncliaa.W.Hole
