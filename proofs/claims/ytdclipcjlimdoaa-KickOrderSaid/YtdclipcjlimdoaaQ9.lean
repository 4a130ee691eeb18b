/- The latest alarms of sensors: sensors and kicks made of numbers. No condition. -/
import Derived.Test.YtdclipcjlimdoaaQ8
set_option linter.unusedVariables false
set_option maxRecDepth 100000
set_option maxHeartbeats 4000000
noncomputable section
namespace Go.Proofs.Ytdclipcjlimdoaa.W
open Go Go.Cx Go.RowKit
noncomputable def ctNx : CTab T := [(62, cMod), (35, cNext)]
theorem ctNx_ok : CTabOk Try.prog E ctNx := .cons mod64_ok (.cons next_ok .nil)
theorem t33 (l : List Int) (a : Int) : runR ctNx noLoops 33 [.sl 3 l false, i64 a] [.ptr 0 0] [23] =
  (.req (rPre a (3 : Int))
  (.req (rPre (a + (1 : Int)) (5000 : Int))
  (.req (rPre (a + (1 : Int) + (1 : Int)) (2 : Int))
  (.req (rPre (a + (1 : Int) + (1 : Int) + (1 : Int)) (300 : Int))
  (.leaf ((.agg [.sym .i64 (IntKind.wrap IntKind.i64 (ringV l (a + (1 : Int)) (3 : Int) * ringV l (a + (1 : Int) + (1 : Int)) (5000 : Int))), .sym .i64 (IntKind.wrap IntKind.i64 (ringV l (a + (1 : Int) + (1 : Int) + (1 : Int)) (2 : Int) * ringV l (a + (1 : Int) + (1 : Int) + (1 : Int) + (1 : Int)) (300 : Int)))], [.sl (3 : Nat) (l) false, .sym .i64 (a + (1 : Int) + (1 : Int) + (1 : Int) + (1 : Int))]))))))) := by kernel_rfl
theorem t34 (l : List Int) (a : Int) : runR ctNx noLoops 34 [.sl 3 l false, i64 a] [.ptr 0 0] [29] =
  (.req (rPre a (2 : Int))
  (.req (rPre (a + (1 : Int)) (12 : Int))
  (.req (rPre (a + (1 : Int) + (1 : Int)) (3 : Int))
  (.req (rPre (a + (1 : Int) + (1 : Int) + (1 : Int)) (20 : Int))
  (.req (rPre (a + (1 : Int) + (1 : Int) + (1 : Int) + (1 : Int)) (4 : Int))
  (.req (rPre (a + (1 : Int) + (1 : Int) + (1 : Int) + (1 : Int) + (1 : Int)) (500 : Int))
  (.req (rPre (a + (1 : Int) + (1 : Int) + (1 : Int) + (1 : Int) + (1 : Int) + (1 : Int)) (4 : Int))
  (.req (rPre (a + (1 : Int) + (1 : Int) + (1 : Int) + (1 : Int) + (1 : Int) + (1 : Int) + (1 : Int)) (9000 : Int))
  (.req (rPre (a + (1 : Int) + (1 : Int) + (1 : Int) + (1 : Int) + (1 : Int) + (1 : Int) + (1 : Int) + (1 : Int)) (4 : Int))
  (.br (IntKind.wrap IntKind.i64 ((1 : Int) + ringV l (a + (1 : Int)) (2 : Int)) == (1 : Int))
   (.leaf ((.agg [.sym .i64 (IntKind.wrap IntKind.i64 ((1 : Int) + ringV l (a + (1 : Int)) (2 : Int))), .sym .i64 (IntKind.wrap IntKind.i64 ((1 : Int) + ringV l (a + (1 : Int) + (1 : Int)) (12 : Int))), .sym .i64 (IntKind.wrap IntKind.i64 (ringV l (a + (1 : Int) + (1 : Int) + (1 : Int)) (3 : Int) * ringV l (a + (1 : Int) + (1 : Int) + (1 : Int) + (1 : Int)) (20 : Int))), .sym .i64 (ringV l (a + (1 : Int) + (1 : Int) + (1 : Int) + (1 : Int) + (1 : Int)) (4 : Int)), .sym .i64 (IntKind.wrap IntKind.i64 ((1 : Int) + ringV l (a + (1 : Int) + (1 : Int) + (1 : Int) + (1 : Int) + (1 : Int) + (1 : Int)) (500 : Int))), .sym .i64 (ringV l (a + (1 : Int) + (1 : Int) + (1 : Int) + (1 : Int) + (1 : Int) + (1 : Int) + (1 : Int)) (4 : Int)), .sym .i64 (IntKind.wrap IntKind.i64 (IntKind.wrap IntKind.i64 ((1 : Int) + ringV l (a + (1 : Int) + (1 : Int) + (1 : Int) + (1 : Int) + (1 : Int) + (1 : Int) + (1 : Int) + (1 : Int)) (9000 : Int)) * (20 : Int))), .sym .i64 (IntKind.wrap IntKind.i64 ((1 : Int) + ringV l (a + (1 : Int) + (1 : Int) + (1 : Int) + (1 : Int) + (1 : Int) + (1 : Int) + (1 : Int) + (1 : Int) + (1 : Int)) (4 : Int)))], [.sl (3 : Nat) (l) false, .sym .i64 (a + (1 : Int) + (1 : Int) + (1 : Int) + (1 : Int) + (1 : Int) + (1 : Int) + (1 : Int) + (1 : Int) + (1 : Int))])))
   (.leaf ((.agg [.sym .i64 (IntKind.wrap IntKind.i64 ((1 : Int) + ringV l (a + (1 : Int)) (2 : Int))), .sym .i64 (IntKind.wrap IntKind.i64 ((1 : Int) + ringV l (a + (1 : Int) + (1 : Int)) (12 : Int))), .sym .i64 (IntKind.wrap IntKind.i64 (ringV l (a + (1 : Int) + (1 : Int) + (1 : Int)) (3 : Int) * ringV l (a + (1 : Int) + (1 : Int) + (1 : Int) + (1 : Int)) (20 : Int))), .sym .i64 (ringV l (a + (1 : Int) + (1 : Int) + (1 : Int) + (1 : Int) + (1 : Int)) (4 : Int)), .sym .i64 (IntKind.wrap IntKind.i64 ((1 : Int) + ringV l (a + (1 : Int) + (1 : Int) + (1 : Int) + (1 : Int) + (1 : Int) + (1 : Int)) (500 : Int))), .sym .i64 (ringV l (a + (1 : Int) + (1 : Int) + (1 : Int) + (1 : Int) + (1 : Int) + (1 : Int) + (1 : Int)) (4 : Int)), .sym .i64 (IntKind.wrap IntKind.i64 ((1 : Int) + ringV l (a + (1 : Int) + (1 : Int) + (1 : Int) + (1 : Int) + (1 : Int) + (1 : Int) + (1 : Int) + (1 : Int)) (9000 : Int))), .sym .i64 (IntKind.wrap IntKind.i64 ((1 : Int) + ringV l (a + (1 : Int) + (1 : Int) + (1 : Int) + (1 : Int) + (1 : Int) + (1 : Int) + (1 : Int) + (1 : Int) + (1 : Int)) (4 : Int)))], [.sl (3 : Nat) (l) false, .sym .i64 (a + (1 : Int) + (1 : Int) + (1 : Int) + (1 : Int) + (1 : Int) + (1 : Int) + (1 : Int) + (1 : Int) + (1 : Int))]))))))))))))) := by kernel_rfl
@[reducible] def kBd (x : Kick) : Prop := (0 ≤ x.Rate ∧ x.Rate ≤ 9998) ∧ 0 ≤ x.Grow ∧ x.Grow ≤ 299
theorem kOf_ex (l : List Int) (a : Int) (h : 0 ≤ a ∧ a ≤ 1000) : ∃ x : Kick, kBd x ∧ (runR ctNx noLoops 33 [.sl 3 l false, i64 a] [.ptr 0 0] [23]).holds fun y => y = (x.av, [.sl 3 l false, i64 (a + 4)]) := by
  rw [t33]
  have r1 := ringV_bd (l := l) (b := a + 1) (n := 3) (by decide)
  have r2 := ringV_bd (l := l) (b := a + 1 + 1) (n := 5000) (by decide)
  have r3 := ringV_bd (l := l) (b := a + 1 + 1 + 1) (n := 2) (by decide)
  have r4 := ringV_bd (l := l) (b := a + 1 + 1 + 1 + 1) (n := 300) (by decide)
  generalize ringV l (a + 1) 3 = v1 at r1 ⊢
  generalize ringV l (a + 1 + 1) 5000 = v2 at r2 ⊢
  generalize ringV l (a + 1 + 1 + 1) 2 = v3 at r3 ⊢
  generalize ringV l (a + 1 + 1 + 1 + 1) 300 = v4 at r4 ⊢
  have m1 := mulb r1.1 (show v1 ≤ 2 by omega) r2.1 (show v2 ≤ 4999 by omega)
  have m2 := mulb r3.1 (show v3 ≤ 1 by omega) r4.1 (show v4 ≤ 299 by omega)
  generalize v1 * v2 = q1 at m1 ⊢
  generalize v3 * v4 = q2 at m2 ⊢
  simp (disch := omega) only [i64_in']
  refine ⟨⟨q1, q2⟩, ⟨⟨by show 0 ≤ q1; omega, by show q1 ≤ 9998; omega⟩, by show 0 ≤ q2; omega, by show q2 ≤ 299; omega⟩, ?_⟩
  rw [show a + 1 + 1 + 1 + 1 = a + 4 by omega]
  exact ⟨⟨by omega, by decide⟩, ⟨by omega, by decide⟩, ⟨by omega, by decide⟩, ⟨by omega, by decide⟩, rfl⟩
noncomputable def kOf (l : List Int) (a : Int) : Kick := if h : 0 ≤ a ∧ a ≤ 1000 then (kOf_ex l a h).choose else ⟨0, 0⟩
theorem kOf_bd (l : List Int) (a : Int) : kBd (kOf l a) := by
  unfold kOf
  split
  · rename_i h; exact (kOf_ex l a h).choose_spec.1
  · exact ⟨⟨by decide, by decide⟩, by decide, by decide⟩
noncomputable def cKOf : Con T := conR Try.prog [.one (.o 0 0)] [.s 3, .i .i64] [.l 3, .n] fun d => .req (0 ≤ d.2.1 ∧ d.2.1 ≤ 1000) (.leaf ((kOf d.1 d.2.1).av, [.l 3 d.1, .n (d.2.1 + 4)]))
theorem kOf_ok : ConOk Try.prog E 33 cKOf := conR_ok fun d K ⟨h1, h2⟩ => ⟨_, h2, fun cs' hcs' => by
  obtain ⟨l, a, ⟨⟩⟩ := d
  cases hcs'
  have h1 : 0 ≤ a ∧ a ≤ 1000 := h1
  have e : kOf l a = (kOf_ex l a h1).choose := dif_pos h1
  show FactR Try.prog E 33 [.sl 3 l false, i64 a] [.ptr 0 0] (kOf l a).av [.sl 3 l false, i64 (a + 4)]
  rw [e]
  exact factR_run ctNx_ok noLoops_ok (ts := [23]) (kOf_ex l a h1).choose_spec.2⟩
@[reducible] def sBd (s : Sensor) : Prop := ((s.Channel = 1 ∨ s.Channel = 2) ∧ (1 ≤ s.Period ∧ s.Period ≤ 12) ∧ (0 ≤ s.Delay ∧ s.Delay ≤ 38) ∧ (0 ≤ s.Noise ∧ s.Noise ≤ 3)) ∧ (1 ≤ s.Step ∧ s.Step ≤ 500) ∧ (0 ≤ s.Lost ∧ s.Lost ≤ 3) ∧ (1 ≤ s.Limit ∧ s.Limit ≤ 180000) ∧ (1 ≤ s.Hold ∧ s.Hold ≤ 4)
theorem sOf_ex (l : List Int) (a : Int) (h : 0 ≤ a ∧ a ≤ 1000) : ∃ x : Sensor, sBd x ∧ (runR ctNx noLoops 34 [.sl 3 l false, i64 a] [.ptr 0 0] [29]).holds fun y => y = (x.av, [.sl 3 l false, i64 (a + 9)]) := by
  rw [t34]
  have r1 := ringV_bd (l := l) (b := a + 1) (n := 2) (by decide)
  have r2 := ringV_bd (l := l) (b := a + 1 + 1) (n := 12) (by decide)
  have r3 := ringV_bd (l := l) (b := a + 1 + 1 + 1) (n := 3) (by decide)
  have r4 := ringV_bd (l := l) (b := a + 1 + 1 + 1 + 1) (n := 20) (by decide)
  have r5 := ringV_bd (l := l) (b := a + 1 + 1 + 1 + 1 + 1) (n := 4) (by decide)
  have r6 := ringV_bd (l := l) (b := a + 1 + 1 + 1 + 1 + 1 + 1) (n := 500) (by decide)
  have r7 := ringV_bd (l := l) (b := a + 1 + 1 + 1 + 1 + 1 + 1 + 1) (n := 4) (by decide)
  have r8 := ringV_bd (l := l) (b := a + 1 + 1 + 1 + 1 + 1 + 1 + 1 + 1) (n := 9000) (by decide)
  have r9 := ringV_bd (l := l) (b := a + 1 + 1 + 1 + 1 + 1 + 1 + 1 + 1 + 1) (n := 4) (by decide)
  generalize ringV l (a + 1) 2 = v1 at r1 ⊢
  generalize ringV l (a + 1 + 1) 12 = v2 at r2 ⊢
  generalize ringV l (a + 1 + 1 + 1) 3 = v3 at r3 ⊢
  generalize ringV l (a + 1 + 1 + 1 + 1) 20 = v4 at r4 ⊢
  generalize ringV l (a + 1 + 1 + 1 + 1 + 1) 4 = v5 at r5 ⊢
  generalize ringV l (a + 1 + 1 + 1 + 1 + 1 + 1) 500 = v6 at r6 ⊢
  generalize ringV l (a + 1 + 1 + 1 + 1 + 1 + 1 + 1) 4 = v7 at r7 ⊢
  generalize ringV l (a + 1 + 1 + 1 + 1 + 1 + 1 + 1 + 1) 9000 = v8 at r8 ⊢
  generalize ringV l (a + 1 + 1 + 1 + 1 + 1 + 1 + 1 + 1 + 1) 4 = v9 at r9 ⊢
  have m1 := mulb r3.1 (show v3 ≤ 2 by omega) r4.1 (show v4 ≤ 19 by omega)
  generalize v3 * v4 = q1 at m1 ⊢
  have w1 : IntKind.wrap IntKind.i64 (1 + v8) = 1 + v8 := i64_in' (by omega) (by omega)
  have w2 : IntKind.wrap IntKind.i64 (1 + v1) = 1 + v1 := i64_in' (by omega) (by omega)
  rw [w1, w2]
  simp (disch := omega) only [i64_in']
  rw [show a + 1 + 1 + 1 + 1 + 1 + 1 + 1 + 1 + 1 = a + 9 by omega]
  by_cases c : 1 + v1 = 1
  · refine ⟨⟨1 + v1, 1 + v2, q1, v5, 1 + v6, v7, (1 + v8) * 20, 1 + v9⟩, ?_, ⟨by omega, by decide⟩, ⟨by omega, by decide⟩, ⟨by omega, by decide⟩, ⟨by omega, by decide⟩, ⟨by omega, by decide⟩, ⟨by omega, by decide⟩, ⟨by omega, by decide⟩, ⟨by omega, by decide⟩, ⟨by omega, by decide⟩, wayEq (fun _ => rfl) fun k => absurd c k⟩
    unfold sBd
    simp only
    omega
  · refine ⟨⟨1 + v1, 1 + v2, q1, v5, 1 + v6, v7, 1 + v8, 1 + v9⟩, ?_, ⟨by omega, by decide⟩, ⟨by omega, by decide⟩, ⟨by omega, by decide⟩, ⟨by omega, by decide⟩, ⟨by omega, by decide⟩, ⟨by omega, by decide⟩, ⟨by omega, by decide⟩, ⟨by omega, by decide⟩, ⟨by omega, by decide⟩, wayEq (fun k => absurd k c) fun _ => rfl⟩
    unfold sBd
    simp only
    omega
noncomputable def sOf (l : List Int) (a : Int) : Sensor := if h : 0 ≤ a ∧ a ≤ 1000 then (sOf_ex l a h).choose else ⟨1, 1, 0, 0, 1, 0, 1, 1⟩
theorem sOf_bd (l : List Int) (a : Int) : sBd (sOf l a) := by
  unfold sOf
  split
  · rename_i h; exact (sOf_ex l a h).choose_spec.1
  · exact ⟨⟨.inl rfl, by decide, by decide, by decide⟩, by decide, by decide, by decide, by decide⟩
noncomputable def cSOf : Con T := conR Try.prog [.one (.o 0 0)] [.s 3, .i .i64] [.l 3, .n] fun d => .req (0 ≤ d.2.1 ∧ d.2.1 ≤ 1000) (.leaf ((sOf d.1 d.2.1).av, [.l 3 d.1, .n (d.2.1 + 9)]))
theorem sOf_ok : ConOk Try.prog E 34 cSOf := conR_ok fun d K ⟨h1, h2⟩ => ⟨_, h2, fun cs' hcs' => by
  obtain ⟨l, a, ⟨⟩⟩ := d
  cases hcs'
  have h1 : 0 ≤ a ∧ a ≤ 1000 := h1
  have e : sOf l a = (sOf_ex l a h1).choose := dif_pos h1
  show FactR Try.prog E 34 [.sl 3 l false, i64 a] [.ptr 0 0] (sOf l a).av [.sl 3 l false, i64 (a + 9)]
  rw [e]
  exact factR_run ctNx_ok noLoops_ok (ts := [29]) (sOf_ex l a h1).choose_spec.2⟩
noncomputable def ctKs : CTab T := [(35, cNext), (33, cKOf)]
theorem ctKs_ok : CTabOk Try.prog E ctKs := .cons next_ok (.cons kOf_ok .nil)
theorem t46 (l : List Int) (a : Int) : runR ctKs noLoops 46 [.sl 3 l false, i64 a] [.ptr 0 0] [27] =
  (.req ((0 : Int) ≤ a ∧ a ≤ (1000 : Int))
  (.req (rPre (a + (4 : Int)) (3000 : Int))
  (.req (rPre (a + (4 : Int) + (1 : Int)) (200 : Int))
  (.leaf ((.agg [.sym .i64 (Kick.Rate (kOf l a)), .sym .i64 (IntKind.wrap IntKind.i64 (Kick.Rate (kOf l a) + ringV l (a + (4 : Int) + (1 : Int)) (3000 : Int))), .sym .i64 (Kick.Grow (kOf l a)), .sym .i64 (IntKind.wrap IntKind.i64 (Kick.Grow (kOf l a) + ringV l (a + (4 : Int) + (1 : Int) + (1 : Int)) (200 : Int)))], [.sl (3 : Nat) (l) false, .sym .i64 (a + (4 : Int) + (1 : Int) + (1 : Int))])))))) := by kernel_rfl
@[reducible] def xBd (x : Kicks) : Prop := ((0 ≤ x.Rate.Lo ∧ x.Rate.Lo ≤ x.Rate.Hi) ∧ x.Rate.Hi ≤ 20000) ∧ (0 ≤ x.Grow.Lo ∧ x.Grow.Lo ≤ x.Grow.Hi) ∧ x.Grow.Hi ≤ 1000
theorem xOf_ex (l : List Int) (a : Int) (h : 0 ≤ a ∧ a ≤ 900) : ∃ x : Kicks, xBd x ∧ (runR ctKs noLoops 46 [.sl 3 l false, i64 a] [.ptr 0 0] [27]).holds fun y => y = (x.av, [.sl 3 l false, i64 (a + 6)]) := by
  rw [t46]
  have b := kOf_bd l a
  have r1 := ringV_bd (l := l) (b := a + 4 + 1) (n := 3000) (by decide)
  have r2 := ringV_bd (l := l) (b := a + 4 + 1 + 1) (n := 200) (by decide)
  generalize ringV l (a + 4 + 1) 3000 = v1 at r1 ⊢
  generalize ringV l (a + 4 + 1 + 1) 200 = v2 at r2 ⊢
  generalize kOf l a = k at b ⊢
  simp (disch := omega) only [i64_in']
  rw [show a + 4 + 1 + 1 = a + 6 by omega]
  refine ⟨⟨⟨k.Rate, k.Rate + v1⟩, ⟨k.Grow, k.Grow + v2⟩⟩, ?_, ⟨by omega, by omega⟩, ⟨by omega, by decide⟩, ⟨by omega, by decide⟩, rfl⟩
  unfold xBd
  simp only
  omega
noncomputable def xOf (l : List Int) (a : Int) : Kicks := if h : 0 ≤ a ∧ a ≤ 900 then (xOf_ex l a h).choose else ⟨⟨0, 0⟩, ⟨0, 0⟩⟩
theorem xOf_bd (l : List Int) (a : Int) : xBd (xOf l a) := by
  unfold xOf
  split
  · rename_i h; exact (xOf_ex l a h).choose_spec.1
  · exact ⟨⟨by decide, by decide⟩, by decide, by decide⟩
noncomputable def cXOf : Con T := conR Try.prog [.one (.o 0 0)] [.s 3, .i .i64] [.l 3, .n] fun d => .req (0 ≤ d.2.1 ∧ d.2.1 ≤ 900) (.leaf ((xOf d.1 d.2.1).av, [.l 3 d.1, .n (d.2.1 + 6)]))
theorem xOf_ok : ConOk Try.prog E 46 cXOf := conR_ok fun d K ⟨h1, h2⟩ => ⟨_, h2, fun cs' hcs' => by
  obtain ⟨l, a, ⟨⟩⟩ := d
  cases hcs'
  have h1 : 0 ≤ a ∧ a ≤ 900 := h1
  have e : xOf l a = (xOf_ex l a h1).choose := dif_pos h1
  show FactR Try.prog E 46 [.sl 3 l false, i64 a] [.ptr 0 0] (xOf l a).av [.sl 3 l false, i64 (a + 6)]
  rw [e]
  exact factR_run ctKs_ok noLoops_ok (ts := [27]) (xOf_ex l a h1).choose_spec.2⟩
end Go.Proofs.Ytdclipcjlimdoaa.W
