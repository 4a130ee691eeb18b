/- The latest alarms of sensors: the worst phase, in one loop over another. No condition. -/
import Derived.Test.YtdclipcjlimdoaaQ3
set_option linter.unusedVariables false
set_option maxRecDepth 100000
set_option maxHeartbeats 4000000
noncomputable section
namespace Go.Proofs.Ytdclipcjlimdoaa.W
open Go Go.Cx Go.RowKit
/-! ### flows and gains of a valid kick -/
theorem tv71 (x : Kick) (m : Int) : runX [] noLoops 71 [x.av, i64 m] [2] =
  (.br (decide (m < (0 : Int)))
   (.leaf (.sym .i64 ((0 : Int))))
   (.leaf (.sym .i64 (IntKind.wrap IntKind.i64 (Kick.Rate x + IntKind.wrap IntKind.i64 (m * Kick.Grow x)))))) := by kernel_rfl
theorem tv72 (x : Kick) (m : Int) : runX [] noLoops 72 [x.av, i64 m] [2] =
  (.br (decide (m < (0 : Int)))
   (.leaf (.sym .i64 ((0 : Int))))
   (.leaf (.sym .i64 (IntKind.wrap IntKind.i64 (IntKind.wrap IntKind.i64 (m * Kick.Rate x) + IntKind.wrap IntKind.i64 (Kick.Grow x * IntKind.wrap IntKind.i64 (Int.tdiv (IntKind.wrap IntKind.i64 (m * IntKind.wrap IntKind.i64 (m - (1 : Int)))) (2 : Int)))))))) := by kernel_rfl
@[reducible] def okN (x : Kick) (m : Int) : Prop := okK x ∧ 0 ≤ m ∧ m ≤ 20000
theorem s71 (x : Kick) (m : Int) (h : okN x m) : (runX [] noLoops 71 [x.av, i64 m] [2]).holds fun v => v = i64 (flow x m) := by
  rw [tv71]
  refine way (fun c => absurd c (by omega)) fun _ => congrArg i64 ?_
  exact flow_in h
theorem s72 (x : Kick) (m : Int) (h : okN x m) : (runX [] noLoops 72 [x.av, i64 m] [2]).holds fun v => v = i64 (gain x m) := by
  rw [tv72]
  refine way (fun c => absurd c (by omega)) fun _ => congrArg i64 ?_
  exact gain_in h
noncomputable def cInF : Con T := conP Try.prog [shK, .one (.i .i64)] [.n, .n, .n] (fun d => okN ⟨d.1, d.2.1⟩ d.2.2.1) fun d => i64 (flow ⟨d.1, d.2.1⟩ d.2.2.1)
noncomputable def cInG : Con T := conP Try.prog [shK, .one (.i .i64)] [.n, .n, .n] (fun d => okN ⟨d.1, d.2.1⟩ d.2.2.1) fun d => i64 (gain ⟨d.1, d.2.1⟩ d.2.2.1)
theorem inF_ok : ConOk Try.prog E 71 cInF := conP_ok fun d hd => fact_run .nil noLoops_ok (ts := [2]) rfl (s71 ⟨d.1, d.2.1⟩ d.2.2.1 hd)
theorem inG_ok : ConOk Try.prog E 72 cInG := conP_ok fun d hd => fact_run .nil noLoops_ok (ts := [2]) rfl (s72 ⟨d.1, d.2.1⟩ d.2.2.1 hd)
noncomputable def ctIn : CTab T := [(71, cInF), (72, cInG)]
theorem ctIn_ok : CTabOk Try.prog E ctIn := .cons inF_ok (.cons inG_ok .nil)
noncomputable def stpW (s : Sensor) (ph a : Int) (w : Lt) : Lt := if w.t < tk s ph a then ⟨tk s ph a, ph, a⟩ else w
theorem stp_W (s : Sensor) (x : Kick) (ph : Int) (w : Lt) : stp s x ph w = stpW s ph (fA s x ph 0) w := rfl
noncomputable def oIG (k0 : Int) (k1 : Int) (ph : Int) (a : Int) (p : Int) (i : Int) (s0 : Int) (s1 : Int) (s2 : Int) (s3 : Int) (s4 : Int) (s5 : Int) (s6 : Int) (s7 : Int) (r0 : Int) (r1 : Int) (r2 : Int) (w0 : Int) (w1 : Int) (w2 : Int) : Tree (Ex × List (V T)) := .req (((sErr (Sensor.mk s0 s1 s2 s3 s4 s5 s6 s7) = 0 ∧ okK (Kick.mk k0 k1)) ∧ s0 = 1) ∧ (0 ≤ ph ∧ ph ≤ 60) ∧ 0 ≤ a ∧ a ≤ 10001) (.br (decide ((fA (Sensor.mk s0 s1 s2 s3 s4 s5 s6 s7) (Kick.mk k0 k1) ph a) = -1)) (.leaf (.exit 2, [.n r0, .n r1, .n r2])) (.leaf (.exit 1, [.n k0, .n k1, .n p, .n i, .n s0, .n s1, .n s2, .n s3, .n s4, .n s5, .n s6, .n s7, .n r0, .n r1, .n r2, .n (stpW (Sensor.mk s0 s1 s2 s3 s4 s5 s6 s7) ph (fA (Sensor.mk s0 s1 s2 s3 s4 s5 s6 s7) (Kick.mk k0 k1) ph a) ⟨w0, w1, w2⟩).t, .n (stpW (Sensor.mk s0 s1 s2 s3 s4 s5 s6 s7) ph (fA (Sensor.mk s0 s1 s2 s3 s4 s5 s6 s7) (Kick.mk k0 k1) ph a) ⟨w0, w1, w2⟩).p, .n (stpW (Sensor.mk s0 s1 s2 s3 s4 s5 s6 s7) ph (fA (Sensor.mk s0 s1 s2 s3 s4 s5 s6 s7) (Kick.mk k0 k1) ph a) ⟨w0, w1, w2⟩).f])))
noncomputable def cIG : LoopC T := ⟨[.n, .n, .n, .n, .n, .n, .n, .n, .n, .n, .n, .n, .n, .n, .n, .n, .n, .n, .n, .n], ⟨77, [(2, .one (.o 0 0)), (4, .one (.o 1 0)), (6, .mfa 72 [.i .i64, .i .i64]), (7, .one (.o 2 0)), (8, .one (.i .i64)), (9, .one (.i .i64)), (16, .one (.i .i64)), (17, .one (.i .i64))], [.c [.i .i64, .i .i64, .i .i64, .i .i64, .i .i64, .i .i64, .i .i64, .i .i64], .c [.i .i64, .i .i64, .i .i64], .c [.i .i64, .i .i64, .i .i64]]⟩, fun e => match e with
    | .exit 1 => ⟨77, [(2, .one (.o 0 0)), (4, .one (.o 1 0)), (6, .mfa 72 [.i .i64, .i .i64]), (7, .one (.o 2 0)), (16, .one (.i .i64)), (17, .one (.i .i64))], [.c [.i .i64, .i .i64, .i .i64, .i .i64, .i .i64, .i .i64, .i .i64, .i .i64], .c [.i .i64, .i .i64, .i .i64], .c [.i .i64, .i .i64, .i .i64]]⟩
    | _ => ⟨77, [(4, .one (.o 0 0))], [.c [.i .i64, .i .i64, .i .i64]]⟩, 30, fun d => oIG d.1 d.2.1 d.2.2.1 d.2.2.2.1 d.2.2.2.2.1 d.2.2.2.2.2.1 d.2.2.2.2.2.2.1 d.2.2.2.2.2.2.2.1 d.2.2.2.2.2.2.2.2.1 d.2.2.2.2.2.2.2.2.2.1 d.2.2.2.2.2.2.2.2.2.2.1 d.2.2.2.2.2.2.2.2.2.2.2.1 d.2.2.2.2.2.2.2.2.2.2.2.2.1 d.2.2.2.2.2.2.2.2.2.2.2.2.2.1 d.2.2.2.2.2.2.2.2.2.2.2.2.2.2.1 d.2.2.2.2.2.2.2.2.2.2.2.2.2.2.2.1 d.2.2.2.2.2.2.2.2.2.2.2.2.2.2.2.2.1 d.2.2.2.2.2.2.2.2.2.2.2.2.2.2.2.2.2.1 d.2.2.2.2.2.2.2.2.2.2.2.2.2.2.2.2.2.2.1 d.2.2.2.2.2.2.2.2.2.2.2.2.2.2.2.2.2.2.2.1⟩
theorem bIG (k0 : Int) (k1 : Int) (ph : Int) (a : Int) (p : Int) (i : Int) (s0 : Int) (s1 : Int) (s2 : Int) (s3 : Int) (s4 : Int) (s5 : Int) (s6 : Int) (s7 : Int) (r0 : Int) (r1 : Int) (r2 : Int) (w0 : Int) (w1 : Int) (w2 : Int) : bodyD Try.prog E cIG 0 (bodyX Try.prog E ctIn noLoops 1000 5 L0 (lpOf Try.prog 86 1)) (k0, k1, ph, a, p, i, s0, s1, s2, s3, s4, s5, s6, s7, r0, r1, r2, w0, w1, w2, ()) =
  (.br (decide (IntKind.wrap IntKind.i64 (ph + IntKind.wrap IntKind.i64 (a * s1)) ≤ (10000 : Int)))
   (.req (okN (Kick.mk k0 k1) (IntKind.wrap IntKind.i64 (ph + IntKind.wrap IntKind.i64 (a * s1))))
   (.br (decide (IntKind.wrap IntKind.i64 (gain (Kick.mk k0 k1) (IntKind.wrap IntKind.i64 (ph + IntKind.wrap IntKind.i64 (a * s1))) - IntKind.wrap IntKind.i64 (s3 * s4)) < s6))
    (.leaf (.inl (k0, (k1, (ph, (IntKind.wrap IntKind.i64 (a + (1 : Int)), (p, (i, (s0, (s1, (s2, (s3, (s4, (s5, (s6, (s7, (r0, (r1, (r2, (w0, (w1, (w2, ()))))))))))))))))))))))
    (.br (decide (IntKind.wrap IntKind.i64 (IntKind.wrap IntKind.i64 (ph + IntKind.wrap IntKind.i64 (IntKind.wrap IntKind.i64 (IntKind.wrap IntKind.i64 (a + IntKind.wrap IntKind.i64 (s7 * IntKind.wrap IntKind.i64 (s5 + (1 : Int)))) - (1 : Int)) * s1)) + s2) > w0))
     (.leaf (.inr (.exit (1 : Nat), [.n (k0), .n (k1), .n (p), .n (i), .n (s0), .n (s1), .n (s2), .n (s3), .n (s4), .n (s5), .n (s6), .n (s7), .n (r0), .n (r1), .n (r2), .n (IntKind.wrap IntKind.i64 (IntKind.wrap IntKind.i64 (ph + IntKind.wrap IntKind.i64 (IntKind.wrap IntKind.i64 (IntKind.wrap IntKind.i64 (a + IntKind.wrap IntKind.i64 (s7 * IntKind.wrap IntKind.i64 (s5 + (1 : Int)))) - (1 : Int)) * s1)) + s2)), .n (ph), .n (a)])))
     (.leaf (.inr (.exit (1 : Nat), [.n (k0), .n (k1), .n (p), .n (i), .n (s0), .n (s1), .n (s2), .n (s3), .n (s4), .n (s5), .n (s6), .n (s7), .n (r0), .n (r1), .n (r2), .n (w0), .n (w1), .n (w2)]))))))
   (.leaf (.inr (.exit (2 : Nat), [.n (r0), .n (r1), .n (r2)])))) := by kernel_rfl
theorem nIG (k0 : Int) (k1 : Int) (ph : Int) (a : Int) (p : Int) (i : Int) (s0 : Int) (s1 : Int) (s2 : Int) (s3 : Int) (s4 : Int) (s5 : Int) (s6 : Int) (s7 : Int) (r0 : Int) (r1 : Int) (r2 : Int) (w0 : Int) (w1 : Int) (w2 : Int) (K : Ex × List (V T) → Prop) (hI : ((sErr (Sensor.mk s0 s1 s2 s3 s4 s5 s6 s7) = 0 ∧ okK (Kick.mk k0 k1)) ∧ s0 = 1) ∧ (0 ≤ ph ∧ ph ≤ 60) ∧ 0 ≤ a ∧ a ≤ 10001) (hK : (.br (decide ((fA (Sensor.mk s0 s1 s2 s3 s4 s5 s6 s7) (Kick.mk k0 k1) ph a) = -1)) (.leaf (.exit 2, [.n r0, .n r1, .n r2])) (.leaf (.exit 1, [.n k0, .n k1, .n p, .n i, .n s0, .n s1, .n s2, .n s3, .n s4, .n s5, .n s6, .n s7, .n r0, .n r1, .n r2, .n (stpW (Sensor.mk s0 s1 s2 s3 s4 s5 s6 s7) ph (fA (Sensor.mk s0 s1 s2 s3 s4 s5 s6 s7) (Kick.mk k0 k1) ph a) ⟨w0, w1, w2⟩).t, .n (stpW (Sensor.mk s0 s1 s2 s3 s4 s5 s6 s7) ph (fA (Sensor.mk s0 s1 s2 s3 s4 s5 s6 s7) (Kick.mk k0 k1) ph a) ⟨w0, w1, w2⟩).p, .n (stpW (Sensor.mk s0 s1 s2 s3 s4 s5 s6 s7) ph (fA (Sensor.mk s0 s1 s2 s3 s4 s5 s6 s7) (Kick.mk k0 k1) ph a) ⟨w0, w1, w2⟩).f])) : Tree (Ex × List (V T))).holds K) : (cIG.out (k0, k1, ph, a, p, i, s0, s1, s2, s3, s4, s5, s6, s7, r0, r1, r2, w0, w1, w2, ())).holds K := ⟨hI, hK⟩
theorem hIG' (k0 : Int) (k1 : Int) (ph : Int) (a : Int) (p : Int) (i : Int) (s0 : Int) (s1 : Int) (s2 : Int) (s3 : Int) (s4 : Int) (s5 : Int) (s6 : Int) (s7 : Int) (r0 : Int) (r1 : Int) (r2 : Int) (w0 : Int) (w1 : Int) (w2 : Int) (K : Ex × List (V T) → Prop) (hI : ((sErr (Sensor.mk s0 s1 s2 s3 s4 s5 s6 s7) = 0 ∧ okK (Kick.mk k0 k1)) ∧ s0 = 1) ∧ (0 ≤ ph ∧ ph ≤ 60) ∧ 0 ≤ a ∧ a ≤ 10001) (hK : (.br (decide ((fA (Sensor.mk s0 s1 s2 s3 s4 s5 s6 s7) (Kick.mk k0 k1) ph a) = -1)) (.leaf (.exit 2, [.n r0, .n r1, .n r2])) (.leaf (.exit 1, [.n k0, .n k1, .n p, .n i, .n s0, .n s1, .n s2, .n s3, .n s4, .n s5, .n s6, .n s7, .n r0, .n r1, .n r2, .n (stpW (Sensor.mk s0 s1 s2 s3 s4 s5 s6 s7) ph (fA (Sensor.mk s0 s1 s2 s3 s4 s5 s6 s7) (Kick.mk k0 k1) ph a) ⟨w0, w1, w2⟩).t, .n (stpW (Sensor.mk s0 s1 s2 s3 s4 s5 s6 s7) ph (fA (Sensor.mk s0 s1 s2 s3 s4 s5 s6 s7) (Kick.mk k0 k1) ph a) ⟨w0, w1, w2⟩).p, .n (stpW (Sensor.mk s0 s1 s2 s3 s4 s5 s6 s7) ph (fA (Sensor.mk s0 s1 s2 s3 s4 s5 s6 s7) (Kick.mk k0 k1) ph a) ⟨w0, w1, w2⟩).f])) : Tree (Ex × List (V T))).holds K) :
    (bodyD Try.prog E cIG 0 (bodyX Try.prog E ctIn noLoops 1000 5 L0 (lpOf Try.prog 86 1)) (k0, k1, ph, a, p, i, s0, s1, s2, s3, s4, s5, s6, s7, r0, r1, r2, w0, w1, w2, ())).holds fun y => match y with
    | .inl d => (10001 - d.2.2.2.1).toNat < (10001 - a).toNat ∧ (cIG.out d).holds K
    | .inr y => K y := by
  rw [bIG]
  obtain ⟨⟨⟨hs, hk⟩, hc⟩, hp, ha⟩ := hI
  have q : okSe (Sensor.mk s0 s1 s2 s3 s4 s5 s6 s7) := (sErr_zero.1 hs).2
  have q1 : 1 ≤ s1 ∧ s1 ≤ 60 := q.1
  have q2 : -15 ≤ s3 ∧ s3 ≤ 15 := by have : 0 ≤ s3 ∧ s3 ≤ 15 := q.2.2.1; omega
  have q3 : 1 ≤ s4 ∧ s4 ≤ 1048576 := q.2.2.2.1
  have mp := mulb ha.1 ha.2 (show 0 ≤ s1 by omega) q1.2
  have bE := bdE q2 q3
  have e1 : IntKind.wrap IntKind.i64 (a * s1) = a * s1 := i64_in' (by omega) (by omega)
  have e2 : IntKind.wrap IntKind.i64 (ph + a * s1) = ph + a * s1 := i64_in' (by omega) (by omega)
  have e3 : IntKind.wrap IntKind.i64 (s3 * s4) = s3 * s4 := i64_in' (by omega) (by omega)
  have bs := sy_bd (Sensor.mk s0 s1 s2 s3 s4 s5 s6 s7) (Kick.mk k0 k1) (ph + a * s1)
  have es : gain (Kick.mk k0 k1) (ph + a * s1) = sy (Sensor.mk s0 s1 s2 s3 s4 s5 s6 s7) (Kick.mk k0 k1) (ph + a * s1) := by
    unfold sy
    subst hc
    rfl
  rw [e1, e2, e3, es]
  have e4 : IntKind.wrap IntKind.i64 (sy (Sensor.mk s0 s1 s2 s3 s4 s5 s6 s7) (Kick.mk k0 k1) (ph + a * s1) - s3 * s4) = sy (Sensor.mk s0 s1 s2 s3 s4 s5 s6 s7) (Kick.mk k0 k1) (ph + a * s1) - s3 * s4 := i64_in' (by omega) (by omega)
  rw [e4]
  refine way (fun c => ?_) fun c => ?_
  · have le : a ≤ a * s1 := by
      have := Int.mul_le_mul_of_nonneg_left q1.1 ha.1
      omega
    have hn : okN (Kick.mk k0 k1) (ph + a * s1) := ⟨hk, by omega, by omega⟩
    refine ⟨hn, way (fun k => ?_) fun k => ?_⟩
    · have f := fA_lo (s := (Sensor.mk s0 s1 s2 s3 s4 s5 s6 s7)) (x := (Kick.mk k0 k1)) c (show 0 < s1 by omega) (by
        have k : sy (Sensor.mk s0 s1 s2 s3 s4 s5 s6 s7) (Kick.mk k0 k1) (ph + a * s1) - s3 * s4 < s6 := k
        show ¬ (s6 ≤ sy (Sensor.mk s0 s1 s2 s3 s4 s5 s6 s7) (Kick.mk k0 k1) (ph + a * s1) - s3 * s4)
        omega)
      rw [f] at hK
      have e5 : IntKind.wrap IntKind.i64 (a + 1) = a + 1 := i64_in' (by omega) (by omega)
      rw [e5]
      have hlt : (10001 - (a + 1)).toNat < (10001 - a).toNat := by omega
      exact ⟨hlt, nIG _ _ _ _ _ _ _ _ _ _ _ _ _ _ _ _ _ _ _ _ K ⟨⟨⟨hs, hk⟩, hc⟩, hp, by omega, by omega⟩ hK⟩
    · have f := fA_hi (s := (Sensor.mk s0 s1 s2 s3 s4 s5 s6 s7)) (x := (Kick.mk k0 k1)) c (show 0 < s1 by omega) (by
        have k : ¬ sy (Sensor.mk s0 s1 s2 s3 s4 s5 s6 s7) (Kick.mk k0 k1) (ph + a * s1) - s3 * s4 < s6 := k
        show s6 ≤ sy (Sensor.mk s0 s1 s2 s3 s4 s5 s6 s7) (Kick.mk k0 k1) (ph + a * s1) - s3 * s4
        omega)
      have hK2 := fA_yes (by rw [f]; omega) hK
      rw [f] at hK2
      have t := tk_in (s := (Sensor.mk s0 s1 s2 s3 s4 s5 s6 s7)) hs hp (show 0 ≤ a ∧ a ≤ 10000 by omega)
      have t1 : IntKind.wrap IntKind.i64 (IntKind.wrap IntKind.i64 (ph + IntKind.wrap IntKind.i64 (IntKind.wrap IntKind.i64 (IntKind.wrap IntKind.i64 (a + IntKind.wrap IntKind.i64 (s7 * IntKind.wrap IntKind.i64 (s5 + 1))) - 1) * s1)) + s2) = tk (Sensor.mk s0 s1 s2 s3 s4 s5 s6 s7) ph a := t.1
      rw [t1]
      unfold stpW at hK2
      refine way (fun k2 => ?_) fun k2 => ?_
      · rw [if_pos k2] at hK2
        exact hK2
      · rw [if_neg k2] at hK2
        exact hK2
  · exact fA_no (fA_out (s := (Sensor.mk s0 s1 s2 s3 s4 s5 s6 s7)) (x := (Kick.mk k0 k1)) c) hK
theorem hIG : LoopH Try.prog E cIG 0 (bodyX Try.prog E ctIn noLoops 1000 5 L0 (lpOf Try.prog 86 1)) :=
  ⟨fun d => (10001 - d.2.2.2.1).toNat, fun dd K hK => by
    obtain ⟨k0, k1, ph, a, p, i, s0, s1, s2, s3, s4, s5, s6, s7, r0, r1, r2, w0, w1, w2, ⟨⟩⟩ := dd
    obtain ⟨hI, hK⟩ := hK
    refine Tree.holds_mono (fun y hy => ?_) (hIG' k0 k1 ph a p i s0 s1 s2 s3 s4 s5 s6 s7 r0 r1 r2 w0 w1 w2 K hI hK)
    cases y with
    | inl d' => exact hy
    | inr y => exact hy⟩
theorem sndIG : LSndN Try.prog E 0 (lpOf Try.prog 86 1) cIG := LSndN.mk good names mixes ctIn_ok (by decide) hIG
noncomputable def oOG (k0 : Int) (k1 : Int) (p : Int) (i : Int) (s0 : Int) (s1 : Int) (s2 : Int) (s3 : Int) (s4 : Int) (s5 : Int) (s6 : Int) (s7 : Int) (r0 : Int) (r1 : Int) (r2 : Int) (w0 : Int) (w1 : Int) (w2 : Int) : Tree (Ex × List (V T)) := .req ((((sErr (Sensor.mk s0 s1 s2 s3 s4 s5 s6 s7) = 0 ∧ okK (Kick.mk k0 k1)) ∧ s0 = 1) ∧ p = s1) ∧ 0 ≤ i ∧ i ≤ p) (.br (allF (Sensor.mk s0 s1 s2 s3 s4 s5 s6 s7) (Kick.mk k0 k1) (p - i).toNat i) (.leaf (.exit 0, [.n r0, .n r1, .n r2, .n (wrs (Sensor.mk s0 s1 s2 s3 s4 s5 s6 s7) (Kick.mk k0 k1) (p - i).toNat i ⟨w0, w1, w2⟩).t, .n (wrs (Sensor.mk s0 s1 s2 s3 s4 s5 s6 s7) (Kick.mk k0 k1) (p - i).toNat i ⟨w0, w1, w2⟩).p, .n (wrs (Sensor.mk s0 s1 s2 s3 s4 s5 s6 s7) (Kick.mk k0 k1) (p - i).toNat i ⟨w0, w1, w2⟩).f])) (.leaf (.ret, [.t false, .n 0, .n 0, .n 0])))
noncomputable def cOG : LoopC T := ⟨[.n, .n, .n, .n, .n, .n, .n, .n, .n, .n, .n, .n, .n, .n, .n, .n, .n, .n], ⟨77, [(2, .one (.o 0 0)), (4, .one (.o 1 0)), (6, .mfa 72 [.i .i64, .i .i64]), (7, .one (.o 2 0)), (16, .one (.i .i64)), (17, .one (.i .i64))], [.c [.i .i64, .i .i64, .i .i64, .i .i64, .i .i64, .i .i64, .i .i64, .i .i64], .c [.i .i64, .i .i64, .i .i64], .c [.i .i64, .i .i64, .i .i64]]⟩, fun e => match e with
    | .ret => ⟨77, [(4, .one (.o 0 0)), (5, .one .b)], [.c [.i .i64, .i .i64, .i .i64]]⟩
    | _ => ⟨77, [(4, .one (.o 0 0)), (7, .one (.o 1 0))], [.c [.i .i64, .i .i64, .i .i64], .c [.i .i64, .i .i64, .i .i64]]⟩, 100, fun d => oOG d.1 d.2.1 d.2.2.1 d.2.2.2.1 d.2.2.2.2.1 d.2.2.2.2.2.1 d.2.2.2.2.2.2.1 d.2.2.2.2.2.2.2.1 d.2.2.2.2.2.2.2.2.1 d.2.2.2.2.2.2.2.2.2.1 d.2.2.2.2.2.2.2.2.2.2.1 d.2.2.2.2.2.2.2.2.2.2.2.1 d.2.2.2.2.2.2.2.2.2.2.2.2.1 d.2.2.2.2.2.2.2.2.2.2.2.2.2.1 d.2.2.2.2.2.2.2.2.2.2.2.2.2.2.1 d.2.2.2.2.2.2.2.2.2.2.2.2.2.2.2.1 d.2.2.2.2.2.2.2.2.2.2.2.2.2.2.2.2.1 d.2.2.2.2.2.2.2.2.2.2.2.2.2.2.2.2.2.1⟩
theorem bOG (k0 : Int) (k1 : Int) (p : Int) (i : Int) (s0 : Int) (s1 : Int) (s2 : Int) (s3 : Int) (s4 : Int) (s5 : Int) (s6 : Int) (s7 : Int) (r0 : Int) (r1 : Int) (r2 : Int) (w0 : Int) (w1 : Int) (w2 : Int) : bodyD Try.prog E cOG 0 (bodyX Try.prog E ctIn noLoops 1000 5 (tabL Try.prog E [(7, cIG)]) (lpOf Try.prog 86 0)) (k0, k1, p, i, s0, s1, s2, s3, s4, s5, s6, s7, r0, r1, r2, w0, w1, w2, ()) =
  (.br (decide (i < p))
   (.req (((sErr (Sensor.mk s0 s1 s2 s3 s4 s5 s6 s7) = (0 : Int) ∧ okK (Kick.mk k0 k1)) ∧ s0 = (1 : Int)) ∧ ((0 : Int) ≤ i ∧ i ≤ (60 : Int)) ∧ (0 : Int) ≤ (0 : Int) ∧ (0 : Int) ≤ (10001 : Int))
   (.br (decide (fA (Sensor.mk s0 s1 s2 s3 s4 s5 s6 s7) (Kick.mk k0 k1) i (0 : Int) = (-1 : Int)))
    (.leaf (.inr (.ret, [.t (false), .n ((0 : Int)), .n ((0 : Int)), .n ((0 : Int))])))
    (.leaf (.inl (k0, (k1, (p, (IntKind.wrap IntKind.i64 (i + (1 : Int)), (s0, (s1, (s2, (s3, (s4, (s5, (s6, (s7, (r0, (r1, (r2, (Lt.t (stpW (Sensor.mk s0 s1 s2 s3 s4 s5 s6 s7) i (fA (Sensor.mk s0 s1 s2 s3 s4 s5 s6 s7) (Kick.mk k0 k1) i (0 : Int)) (Lt.mk w0 w1 w2)), (Lt.p (stpW (Sensor.mk s0 s1 s2 s3 s4 s5 s6 s7) i (fA (Sensor.mk s0 s1 s2 s3 s4 s5 s6 s7) (Kick.mk k0 k1) i (0 : Int)) (Lt.mk w0 w1 w2)), (Lt.f (stpW (Sensor.mk s0 s1 s2 s3 s4 s5 s6 s7) i (fA (Sensor.mk s0 s1 s2 s3 s4 s5 s6 s7) (Kick.mk k0 k1) i (0 : Int)) (Lt.mk w0 w1 w2)), ()))))))))))))))))))))))
   (.leaf (.inr (.exit (0 : Nat), [.n (r0), .n (r1), .n (r2), .n (w0), .n (w1), .n (w2)])))) := by kernel_rfl
theorem nOG (k0 : Int) (k1 : Int) (p : Int) (i : Int) (s0 : Int) (s1 : Int) (s2 : Int) (s3 : Int) (s4 : Int) (s5 : Int) (s6 : Int) (s7 : Int) (r0 : Int) (r1 : Int) (r2 : Int) (w0 : Int) (w1 : Int) (w2 : Int) (K : Ex × List (V T) → Prop) (hI : (((sErr (Sensor.mk s0 s1 s2 s3 s4 s5 s6 s7) = 0 ∧ okK (Kick.mk k0 k1)) ∧ s0 = 1) ∧ p = s1) ∧ 0 ≤ i ∧ i ≤ p) (hK : (.br (allF (Sensor.mk s0 s1 s2 s3 s4 s5 s6 s7) (Kick.mk k0 k1) (p - i).toNat i) (.leaf (.exit 0, [.n r0, .n r1, .n r2, .n (wrs (Sensor.mk s0 s1 s2 s3 s4 s5 s6 s7) (Kick.mk k0 k1) (p - i).toNat i ⟨w0, w1, w2⟩).t, .n (wrs (Sensor.mk s0 s1 s2 s3 s4 s5 s6 s7) (Kick.mk k0 k1) (p - i).toNat i ⟨w0, w1, w2⟩).p, .n (wrs (Sensor.mk s0 s1 s2 s3 s4 s5 s6 s7) (Kick.mk k0 k1) (p - i).toNat i ⟨w0, w1, w2⟩).f])) (.leaf (.ret, [.t false, .n 0, .n 0, .n 0])) : Tree (Ex × List (V T))).holds K) : (cOG.out (k0, k1, p, i, s0, s1, s2, s3, s4, s5, s6, s7, r0, r1, r2, w0, w1, w2, ())).holds K := ⟨hI, hK⟩
theorem hOG' (k0 : Int) (k1 : Int) (p : Int) (i : Int) (s0 : Int) (s1 : Int) (s2 : Int) (s3 : Int) (s4 : Int) (s5 : Int) (s6 : Int) (s7 : Int) (r0 : Int) (r1 : Int) (r2 : Int) (w0 : Int) (w1 : Int) (w2 : Int) (K : Ex × List (V T) → Prop) (hI : (((sErr (Sensor.mk s0 s1 s2 s3 s4 s5 s6 s7) = 0 ∧ okK (Kick.mk k0 k1)) ∧ s0 = 1) ∧ p = s1) ∧ 0 ≤ i ∧ i ≤ p) (hK : (.br (allF (Sensor.mk s0 s1 s2 s3 s4 s5 s6 s7) (Kick.mk k0 k1) (p - i).toNat i) (.leaf (.exit 0, [.n r0, .n r1, .n r2, .n (wrs (Sensor.mk s0 s1 s2 s3 s4 s5 s6 s7) (Kick.mk k0 k1) (p - i).toNat i ⟨w0, w1, w2⟩).t, .n (wrs (Sensor.mk s0 s1 s2 s3 s4 s5 s6 s7) (Kick.mk k0 k1) (p - i).toNat i ⟨w0, w1, w2⟩).p, .n (wrs (Sensor.mk s0 s1 s2 s3 s4 s5 s6 s7) (Kick.mk k0 k1) (p - i).toNat i ⟨w0, w1, w2⟩).f])) (.leaf (.ret, [.t false, .n 0, .n 0, .n 0])) : Tree (Ex × List (V T))).holds K) :
    (bodyD Try.prog E cOG 0 (bodyX Try.prog E ctIn noLoops 1000 5 (tabL Try.prog E [(7, cIG)]) (lpOf Try.prog 86 0)) (k0, k1, p, i, s0, s1, s2, s3, s4, s5, s6, s7, r0, r1, r2, w0, w1, w2, ())).holds fun y => match y with
    | .inl d => (d.2.2.1 - d.2.2.2.1).toNat < (p - i).toNat ∧ (cOG.out d).holds K
    | .inr y => K y := by
  rw [bOG]
  obtain ⟨⟨⟨hv, hc⟩, hp⟩, h0, h1⟩ := hI
  have q1 : 1 ≤ s1 ∧ s1 ≤ 60 := (sErr_zero.1 hv.1).2.1
  have e1 : IntKind.wrap IntKind.i64 (i + 1) = i + 1 := i64_in' (by omega) (by omega)
  rw [e1]
  refine way (fun c => ?_) fun c => ?_
  · rw [allF_step c, wrs_step c] at hK
    have hlt : (p - (i + 1)).toNat < (p - i).toNat := by omega
    refine ⟨⟨⟨hv, hc⟩, ⟨h0, by omega⟩, by decide, by decide⟩, way (fun k => ?_) fun k => ?_⟩
    · have k : fA (Sensor.mk s0 s1 s2 s3 s4 s5 s6 s7) (Kick.mk k0 k1) i 0 = -1 := k
      rw [if_pos k] at hK
      exact gt_no rfl hK
    · have k : ¬ fA (Sensor.mk s0 s1 s2 s3 s4 s5 s6 s7) (Kick.mk k0 k1) i 0 = -1 := k
      rw [if_neg k] at hK
      exact ⟨hlt, nOG _ _ _ _ _ _ _ _ _ _ _ _ _ _ _ _ _ _ K ⟨⟨⟨hv, hc⟩, hp⟩, by omega, by omega⟩ hK⟩
  · have e := end_0 (s := (Sensor.mk s0 s1 s2 s3 s4 s5 s6 s7)) (x := (Kick.mk k0 k1)) (w := ⟨w0, w1, w2⟩) c
    rw [e.2.1, e.2.2] at hK
    exact gt_yes rfl hK
theorem hOG : LoopH Try.prog E cOG 0 (bodyX Try.prog E ctIn noLoops 1000 5 (tabL Try.prog E [(7, cIG)]) (lpOf Try.prog 86 0)) :=
  ⟨fun d => (d.2.2.1 - d.2.2.2.1).toNat, fun dd K hK => by
    obtain ⟨k0, k1, p, i, s0, s1, s2, s3, s4, s5, s6, s7, r0, r1, r2, w0, w1, w2, ⟨⟩⟩ := dd
    obtain ⟨hI, hK⟩ := hK
    refine Tree.holds_mono (fun y hy => ?_) (hOG' k0 k1 p i s0 s1 s2 s3 s4 s5 s6 s7 r0 r1 r2 w0 w1 w2 K hI hK)
    cases y with
    | inl d' => exact hy
    | inr y => exact hy⟩
theorem inOG : ∀ b' ∈ loopsIn (lpOf Try.prog 86 0), ∀ c', lkL (keyOfC b') [(7, cIG)] = some c' → LSndN Try.prog E 0 b' c' := by
  intro b' hb' c' hc'
  have e : loopsIn (lpOf Try.prog 86 0) = [lpOf Try.prog 86 1] := by kernel_rfl
  rw [e] at hb'
  obtain rfl := List.mem_singleton.1 hb'
  obtain rfl : cIG = c' := Option.some.inj hc'
  exact sndIG
theorem llG : LLOk Try.prog E (llOfN Try.prog E 86 0 [(4, cOG), (7, cIG)]) := llOfN_ok fun i hi c hc => by
  have hi : i < 2 := hi
  have : i = 0 ∨ i = 1 := by omega
  rcases this with rfl | rfl
  · obtain rfl : cOG = c := Option.some.inj hc
    exact LSndN.mk2 good names mixes ctIn_ok (by decide) inOG hOG
  · obtain rfl : cIG = c := Option.some.inj hc
    exact sndIG
theorem tfG (s : Sensor) (x : Kick) : runX ctIn (llOfN Try.prog E 86 0 [(4, cOG), (7, cIG)]) 86 [s.av, x.av] [119, 4] =
  (.br (Sensor.Channel s == (1 : Int))
   (.req ((((sErr (Sensor.mk (Sensor.Channel s) (Sensor.Period s) (Sensor.Delay s) (Sensor.Noise s) (Sensor.Step s) (Sensor.Lost s) (Sensor.Limit s) (Sensor.Hold s)) = (0 : Int) ∧ okK (Kick.mk (Kick.Rate x) (Kick.Grow x))) ∧ Sensor.Channel s = (1 : Int)) ∧ Sensor.Period s = Sensor.Period s) ∧ (0 : Int) ≤ (0 : Int) ∧ (0 : Int) ≤ Sensor.Period s)
   (.br (allF (Sensor.mk (Sensor.Channel s) (Sensor.Period s) (Sensor.Delay s) (Sensor.Noise s) (Sensor.Step s) (Sensor.Lost s) (Sensor.Limit s) (Sensor.Hold s)) (Kick.mk (Kick.Rate x) (Kick.Grow x)) (Int.toNat (Sensor.Period s - (0 : Int))) (0 : Int))
    (.leaf (.tup [.agg [.sym .i64 (Lt.t (wrs (Sensor.mk (Sensor.Channel s) (Sensor.Period s) (Sensor.Delay s) (Sensor.Noise s) (Sensor.Step s) (Sensor.Lost s) (Sensor.Limit s) (Sensor.Hold s)) (Kick.mk (Kick.Rate x) (Kick.Grow x)) (Int.toNat (Sensor.Period s - (0 : Int))) (0 : Int) (Lt.mk (-1 : Int) (0 : Int) (0 : Int)))), .sym .i64 (Lt.p (wrs (Sensor.mk (Sensor.Channel s) (Sensor.Period s) (Sensor.Delay s) (Sensor.Noise s) (Sensor.Step s) (Sensor.Lost s) (Sensor.Limit s) (Sensor.Hold s)) (Kick.mk (Kick.Rate x) (Kick.Grow x)) (Int.toNat (Sensor.Period s - (0 : Int))) (0 : Int) (Lt.mk (-1 : Int) (0 : Int) (0 : Int)))), .sym .i64 (Lt.f (wrs (Sensor.mk (Sensor.Channel s) (Sensor.Period s) (Sensor.Delay s) (Sensor.Noise s) (Sensor.Step s) (Sensor.Lost s) (Sensor.Limit s) (Sensor.Hold s)) (Kick.mk (Kick.Rate x) (Kick.Grow x)) (Int.toNat (Sensor.Period s - (0 : Int))) (0 : Int) (Lt.mk (-1 : Int) (0 : Int) (0 : Int))))], .bool (decide (Lt.t (wrs (Sensor.mk (Sensor.Channel s) (Sensor.Period s) (Sensor.Delay s) (Sensor.Noise s) (Sensor.Step s) (Sensor.Lost s) (Sensor.Limit s) (Sensor.Hold s)) (Kick.mk (Kick.Rate x) (Kick.Grow x)) (Int.toNat (Sensor.Period s - (0 : Int))) (0 : Int) (Lt.mk (-1 : Int) (0 : Int) (0 : Int))) ≤ (10000 : Int)))]))
    (.leaf (.tup [.agg [.sym .i64 ((0 : Int)), .sym .i64 ((0 : Int)), .sym .i64 ((0 : Int))], .bool (false)]))))
   .fail) := by kernel_rfl
noncomputable def oIF (k0 : Int) (k1 : Int) (ph : Int) (a : Int) (p : Int) (i : Int) (s0 : Int) (s1 : Int) (s2 : Int) (s3 : Int) (s4 : Int) (s5 : Int) (s6 : Int) (s7 : Int) (r0 : Int) (r1 : Int) (r2 : Int) (w0 : Int) (w1 : Int) (w2 : Int) : Tree (Ex × List (V T)) := .req (((sErr (Sensor.mk s0 s1 s2 s3 s4 s5 s6 s7) = 0 ∧ okK (Kick.mk k0 k1)) ∧ s0 = 2) ∧ (0 ≤ ph ∧ ph ≤ 60) ∧ 0 ≤ a ∧ a ≤ 10001) (.br (decide ((fA (Sensor.mk s0 s1 s2 s3 s4 s5 s6 s7) (Kick.mk k0 k1) ph a) = -1)) (.leaf (.exit 2, [.n r0, .n r1, .n r2])) (.leaf (.exit 1, [.n k0, .n k1, .n p, .n i, .n s0, .n s1, .n s2, .n s3, .n s4, .n s5, .n s6, .n s7, .n r0, .n r1, .n r2, .n (stpW (Sensor.mk s0 s1 s2 s3 s4 s5 s6 s7) ph (fA (Sensor.mk s0 s1 s2 s3 s4 s5 s6 s7) (Kick.mk k0 k1) ph a) ⟨w0, w1, w2⟩).t, .n (stpW (Sensor.mk s0 s1 s2 s3 s4 s5 s6 s7) ph (fA (Sensor.mk s0 s1 s2 s3 s4 s5 s6 s7) (Kick.mk k0 k1) ph a) ⟨w0, w1, w2⟩).p, .n (stpW (Sensor.mk s0 s1 s2 s3 s4 s5 s6 s7) ph (fA (Sensor.mk s0 s1 s2 s3 s4 s5 s6 s7) (Kick.mk k0 k1) ph a) ⟨w0, w1, w2⟩).f])))
noncomputable def cIF : LoopC T := ⟨[.n, .n, .n, .n, .n, .n, .n, .n, .n, .n, .n, .n, .n, .n, .n, .n, .n, .n, .n, .n], ⟨77, [(2, .one (.o 0 0)), (4, .one (.o 1 0)), (6, .mfa 71 [.i .i64, .i .i64]), (7, .one (.o 2 0)), (8, .one (.i .i64)), (9, .one (.i .i64)), (16, .one (.i .i64)), (17, .one (.i .i64))], [.c [.i .i64, .i .i64, .i .i64, .i .i64, .i .i64, .i .i64, .i .i64, .i .i64], .c [.i .i64, .i .i64, .i .i64], .c [.i .i64, .i .i64, .i .i64]]⟩, fun e => match e with
    | .exit 1 => ⟨77, [(2, .one (.o 0 0)), (4, .one (.o 1 0)), (6, .mfa 71 [.i .i64, .i .i64]), (7, .one (.o 2 0)), (16, .one (.i .i64)), (17, .one (.i .i64))], [.c [.i .i64, .i .i64, .i .i64, .i .i64, .i .i64, .i .i64, .i .i64, .i .i64], .c [.i .i64, .i .i64, .i .i64], .c [.i .i64, .i .i64, .i .i64]]⟩
    | _ => ⟨77, [(4, .one (.o 0 0))], [.c [.i .i64, .i .i64, .i .i64]]⟩, 30, fun d => oIF d.1 d.2.1 d.2.2.1 d.2.2.2.1 d.2.2.2.2.1 d.2.2.2.2.2.1 d.2.2.2.2.2.2.1 d.2.2.2.2.2.2.2.1 d.2.2.2.2.2.2.2.2.1 d.2.2.2.2.2.2.2.2.2.1 d.2.2.2.2.2.2.2.2.2.2.1 d.2.2.2.2.2.2.2.2.2.2.2.1 d.2.2.2.2.2.2.2.2.2.2.2.2.1 d.2.2.2.2.2.2.2.2.2.2.2.2.2.1 d.2.2.2.2.2.2.2.2.2.2.2.2.2.2.1 d.2.2.2.2.2.2.2.2.2.2.2.2.2.2.2.1 d.2.2.2.2.2.2.2.2.2.2.2.2.2.2.2.2.1 d.2.2.2.2.2.2.2.2.2.2.2.2.2.2.2.2.2.1 d.2.2.2.2.2.2.2.2.2.2.2.2.2.2.2.2.2.2.1 d.2.2.2.2.2.2.2.2.2.2.2.2.2.2.2.2.2.2.2.1⟩
theorem bIF (k0 : Int) (k1 : Int) (ph : Int) (a : Int) (p : Int) (i : Int) (s0 : Int) (s1 : Int) (s2 : Int) (s3 : Int) (s4 : Int) (s5 : Int) (s6 : Int) (s7 : Int) (r0 : Int) (r1 : Int) (r2 : Int) (w0 : Int) (w1 : Int) (w2 : Int) : bodyD Try.prog E cIF 0 (bodyX Try.prog E ctIn noLoops 1000 5 L0 (lpOf Try.prog 86 1)) (k0, k1, ph, a, p, i, s0, s1, s2, s3, s4, s5, s6, s7, r0, r1, r2, w0, w1, w2, ()) =
  (.br (decide (IntKind.wrap IntKind.i64 (ph + IntKind.wrap IntKind.i64 (a * s1)) ≤ (10000 : Int)))
   (.req (okN (Kick.mk k0 k1) (IntKind.wrap IntKind.i64 (ph + IntKind.wrap IntKind.i64 (a * s1))))
   (.br (decide (IntKind.wrap IntKind.i64 (flow (Kick.mk k0 k1) (IntKind.wrap IntKind.i64 (ph + IntKind.wrap IntKind.i64 (a * s1))) - IntKind.wrap IntKind.i64 (s3 * s4)) < s6))
    (.leaf (.inl (k0, (k1, (ph, (IntKind.wrap IntKind.i64 (a + (1 : Int)), (p, (i, (s0, (s1, (s2, (s3, (s4, (s5, (s6, (s7, (r0, (r1, (r2, (w0, (w1, (w2, ()))))))))))))))))))))))
    (.br (decide (IntKind.wrap IntKind.i64 (IntKind.wrap IntKind.i64 (ph + IntKind.wrap IntKind.i64 (IntKind.wrap IntKind.i64 (IntKind.wrap IntKind.i64 (a + IntKind.wrap IntKind.i64 (s7 * IntKind.wrap IntKind.i64 (s5 + (1 : Int)))) - (1 : Int)) * s1)) + s2) > w0))
     (.leaf (.inr (.exit (1 : Nat), [.n (k0), .n (k1), .n (p), .n (i), .n (s0), .n (s1), .n (s2), .n (s3), .n (s4), .n (s5), .n (s6), .n (s7), .n (r0), .n (r1), .n (r2), .n (IntKind.wrap IntKind.i64 (IntKind.wrap IntKind.i64 (ph + IntKind.wrap IntKind.i64 (IntKind.wrap IntKind.i64 (IntKind.wrap IntKind.i64 (a + IntKind.wrap IntKind.i64 (s7 * IntKind.wrap IntKind.i64 (s5 + (1 : Int)))) - (1 : Int)) * s1)) + s2)), .n (ph), .n (a)])))
     (.leaf (.inr (.exit (1 : Nat), [.n (k0), .n (k1), .n (p), .n (i), .n (s0), .n (s1), .n (s2), .n (s3), .n (s4), .n (s5), .n (s6), .n (s7), .n (r0), .n (r1), .n (r2), .n (w0), .n (w1), .n (w2)]))))))
   (.leaf (.inr (.exit (2 : Nat), [.n (r0), .n (r1), .n (r2)])))) := by kernel_rfl
theorem nIF (k0 : Int) (k1 : Int) (ph : Int) (a : Int) (p : Int) (i : Int) (s0 : Int) (s1 : Int) (s2 : Int) (s3 : Int) (s4 : Int) (s5 : Int) (s6 : Int) (s7 : Int) (r0 : Int) (r1 : Int) (r2 : Int) (w0 : Int) (w1 : Int) (w2 : Int) (K : Ex × List (V T) → Prop) (hI : ((sErr (Sensor.mk s0 s1 s2 s3 s4 s5 s6 s7) = 0 ∧ okK (Kick.mk k0 k1)) ∧ s0 = 2) ∧ (0 ≤ ph ∧ ph ≤ 60) ∧ 0 ≤ a ∧ a ≤ 10001) (hK : (.br (decide ((fA (Sensor.mk s0 s1 s2 s3 s4 s5 s6 s7) (Kick.mk k0 k1) ph a) = -1)) (.leaf (.exit 2, [.n r0, .n r1, .n r2])) (.leaf (.exit 1, [.n k0, .n k1, .n p, .n i, .n s0, .n s1, .n s2, .n s3, .n s4, .n s5, .n s6, .n s7, .n r0, .n r1, .n r2, .n (stpW (Sensor.mk s0 s1 s2 s3 s4 s5 s6 s7) ph (fA (Sensor.mk s0 s1 s2 s3 s4 s5 s6 s7) (Kick.mk k0 k1) ph a) ⟨w0, w1, w2⟩).t, .n (stpW (Sensor.mk s0 s1 s2 s3 s4 s5 s6 s7) ph (fA (Sensor.mk s0 s1 s2 s3 s4 s5 s6 s7) (Kick.mk k0 k1) ph a) ⟨w0, w1, w2⟩).p, .n (stpW (Sensor.mk s0 s1 s2 s3 s4 s5 s6 s7) ph (fA (Sensor.mk s0 s1 s2 s3 s4 s5 s6 s7) (Kick.mk k0 k1) ph a) ⟨w0, w1, w2⟩).f])) : Tree (Ex × List (V T))).holds K) : (cIF.out (k0, k1, ph, a, p, i, s0, s1, s2, s3, s4, s5, s6, s7, r0, r1, r2, w0, w1, w2, ())).holds K := ⟨hI, hK⟩
theorem hIF' (k0 : Int) (k1 : Int) (ph : Int) (a : Int) (p : Int) (i : Int) (s0 : Int) (s1 : Int) (s2 : Int) (s3 : Int) (s4 : Int) (s5 : Int) (s6 : Int) (s7 : Int) (r0 : Int) (r1 : Int) (r2 : Int) (w0 : Int) (w1 : Int) (w2 : Int) (K : Ex × List (V T) → Prop) (hI : ((sErr (Sensor.mk s0 s1 s2 s3 s4 s5 s6 s7) = 0 ∧ okK (Kick.mk k0 k1)) ∧ s0 = 2) ∧ (0 ≤ ph ∧ ph ≤ 60) ∧ 0 ≤ a ∧ a ≤ 10001) (hK : (.br (decide ((fA (Sensor.mk s0 s1 s2 s3 s4 s5 s6 s7) (Kick.mk k0 k1) ph a) = -1)) (.leaf (.exit 2, [.n r0, .n r1, .n r2])) (.leaf (.exit 1, [.n k0, .n k1, .n p, .n i, .n s0, .n s1, .n s2, .n s3, .n s4, .n s5, .n s6, .n s7, .n r0, .n r1, .n r2, .n (stpW (Sensor.mk s0 s1 s2 s3 s4 s5 s6 s7) ph (fA (Sensor.mk s0 s1 s2 s3 s4 s5 s6 s7) (Kick.mk k0 k1) ph a) ⟨w0, w1, w2⟩).t, .n (stpW (Sensor.mk s0 s1 s2 s3 s4 s5 s6 s7) ph (fA (Sensor.mk s0 s1 s2 s3 s4 s5 s6 s7) (Kick.mk k0 k1) ph a) ⟨w0, w1, w2⟩).p, .n (stpW (Sensor.mk s0 s1 s2 s3 s4 s5 s6 s7) ph (fA (Sensor.mk s0 s1 s2 s3 s4 s5 s6 s7) (Kick.mk k0 k1) ph a) ⟨w0, w1, w2⟩).f])) : Tree (Ex × List (V T))).holds K) :
    (bodyD Try.prog E cIF 0 (bodyX Try.prog E ctIn noLoops 1000 5 L0 (lpOf Try.prog 86 1)) (k0, k1, ph, a, p, i, s0, s1, s2, s3, s4, s5, s6, s7, r0, r1, r2, w0, w1, w2, ())).holds fun y => match y with
    | .inl d => (10001 - d.2.2.2.1).toNat < (10001 - a).toNat ∧ (cIF.out d).holds K
    | .inr y => K y := by
  rw [bIF]
  obtain ⟨⟨⟨hs, hk⟩, hc⟩, hp, ha⟩ := hI
  have q : okSe (Sensor.mk s0 s1 s2 s3 s4 s5 s6 s7) := (sErr_zero.1 hs).2
  have q1 : 1 ≤ s1 ∧ s1 ≤ 60 := q.1
  have q2 : -15 ≤ s3 ∧ s3 ≤ 15 := by have : 0 ≤ s3 ∧ s3 ≤ 15 := q.2.2.1; omega
  have q3 : 1 ≤ s4 ∧ s4 ≤ 1048576 := q.2.2.2.1
  have mp := mulb ha.1 ha.2 (show 0 ≤ s1 by omega) q1.2
  have bE := bdE q2 q3
  have e1 : IntKind.wrap IntKind.i64 (a * s1) = a * s1 := i64_in' (by omega) (by omega)
  have e2 : IntKind.wrap IntKind.i64 (ph + a * s1) = ph + a * s1 := i64_in' (by omega) (by omega)
  have e3 : IntKind.wrap IntKind.i64 (s3 * s4) = s3 * s4 := i64_in' (by omega) (by omega)
  have bs := sy_bd (Sensor.mk s0 s1 s2 s3 s4 s5 s6 s7) (Kick.mk k0 k1) (ph + a * s1)
  have es : flow (Kick.mk k0 k1) (ph + a * s1) = sy (Sensor.mk s0 s1 s2 s3 s4 s5 s6 s7) (Kick.mk k0 k1) (ph + a * s1) := by
    unfold sy
    subst hc
    rfl
  rw [e1, e2, e3, es]
  have e4 : IntKind.wrap IntKind.i64 (sy (Sensor.mk s0 s1 s2 s3 s4 s5 s6 s7) (Kick.mk k0 k1) (ph + a * s1) - s3 * s4) = sy (Sensor.mk s0 s1 s2 s3 s4 s5 s6 s7) (Kick.mk k0 k1) (ph + a * s1) - s3 * s4 := i64_in' (by omega) (by omega)
  rw [e4]
  refine way (fun c => ?_) fun c => ?_
  · have le : a ≤ a * s1 := by
      have := Int.mul_le_mul_of_nonneg_left q1.1 ha.1
      omega
    have hn : okN (Kick.mk k0 k1) (ph + a * s1) := ⟨hk, by omega, by omega⟩
    refine ⟨hn, way (fun k => ?_) fun k => ?_⟩
    · have f := fA_lo (s := (Sensor.mk s0 s1 s2 s3 s4 s5 s6 s7)) (x := (Kick.mk k0 k1)) c (show 0 < s1 by omega) (by
        have k : sy (Sensor.mk s0 s1 s2 s3 s4 s5 s6 s7) (Kick.mk k0 k1) (ph + a * s1) - s3 * s4 < s6 := k
        show ¬ (s6 ≤ sy (Sensor.mk s0 s1 s2 s3 s4 s5 s6 s7) (Kick.mk k0 k1) (ph + a * s1) - s3 * s4)
        omega)
      rw [f] at hK
      have e5 : IntKind.wrap IntKind.i64 (a + 1) = a + 1 := i64_in' (by omega) (by omega)
      rw [e5]
      have hlt : (10001 - (a + 1)).toNat < (10001 - a).toNat := by omega
      exact ⟨hlt, nIF _ _ _ _ _ _ _ _ _ _ _ _ _ _ _ _ _ _ _ _ K ⟨⟨⟨hs, hk⟩, hc⟩, hp, by omega, by omega⟩ hK⟩
    · have f := fA_hi (s := (Sensor.mk s0 s1 s2 s3 s4 s5 s6 s7)) (x := (Kick.mk k0 k1)) c (show 0 < s1 by omega) (by
        have k : ¬ sy (Sensor.mk s0 s1 s2 s3 s4 s5 s6 s7) (Kick.mk k0 k1) (ph + a * s1) - s3 * s4 < s6 := k
        show s6 ≤ sy (Sensor.mk s0 s1 s2 s3 s4 s5 s6 s7) (Kick.mk k0 k1) (ph + a * s1) - s3 * s4
        omega)
      have hK2 := fA_yes (by rw [f]; omega) hK
      rw [f] at hK2
      have t := tk_in (s := (Sensor.mk s0 s1 s2 s3 s4 s5 s6 s7)) hs hp (show 0 ≤ a ∧ a ≤ 10000 by omega)
      have t1 : IntKind.wrap IntKind.i64 (IntKind.wrap IntKind.i64 (ph + IntKind.wrap IntKind.i64 (IntKind.wrap IntKind.i64 (IntKind.wrap IntKind.i64 (a + IntKind.wrap IntKind.i64 (s7 * IntKind.wrap IntKind.i64 (s5 + 1))) - 1) * s1)) + s2) = tk (Sensor.mk s0 s1 s2 s3 s4 s5 s6 s7) ph a := t.1
      rw [t1]
      unfold stpW at hK2
      refine way (fun k2 => ?_) fun k2 => ?_
      · rw [if_pos k2] at hK2
        exact hK2
      · rw [if_neg k2] at hK2
        exact hK2
  · exact fA_no (fA_out (s := (Sensor.mk s0 s1 s2 s3 s4 s5 s6 s7)) (x := (Kick.mk k0 k1)) c) hK
theorem hIF : LoopH Try.prog E cIF 0 (bodyX Try.prog E ctIn noLoops 1000 5 L0 (lpOf Try.prog 86 1)) :=
  ⟨fun d => (10001 - d.2.2.2.1).toNat, fun dd K hK => by
    obtain ⟨k0, k1, ph, a, p, i, s0, s1, s2, s3, s4, s5, s6, s7, r0, r1, r2, w0, w1, w2, ⟨⟩⟩ := dd
    obtain ⟨hI, hK⟩ := hK
    refine Tree.holds_mono (fun y hy => ?_) (hIF' k0 k1 ph a p i s0 s1 s2 s3 s4 s5 s6 s7 r0 r1 r2 w0 w1 w2 K hI hK)
    cases y with
    | inl d' => exact hy
    | inr y => exact hy⟩
theorem sndIF : LSndN Try.prog E 0 (lpOf Try.prog 86 1) cIF := LSndN.mk good names mixes ctIn_ok (by decide) hIF
noncomputable def oOF (k0 : Int) (k1 : Int) (p : Int) (i : Int) (s0 : Int) (s1 : Int) (s2 : Int) (s3 : Int) (s4 : Int) (s5 : Int) (s6 : Int) (s7 : Int) (r0 : Int) (r1 : Int) (r2 : Int) (w0 : Int) (w1 : Int) (w2 : Int) : Tree (Ex × List (V T)) := .req ((((sErr (Sensor.mk s0 s1 s2 s3 s4 s5 s6 s7) = 0 ∧ okK (Kick.mk k0 k1)) ∧ s0 = 2) ∧ p = s1) ∧ 0 ≤ i ∧ i ≤ p) (.br (allF (Sensor.mk s0 s1 s2 s3 s4 s5 s6 s7) (Kick.mk k0 k1) (p - i).toNat i) (.leaf (.exit 0, [.n r0, .n r1, .n r2, .n (wrs (Sensor.mk s0 s1 s2 s3 s4 s5 s6 s7) (Kick.mk k0 k1) (p - i).toNat i ⟨w0, w1, w2⟩).t, .n (wrs (Sensor.mk s0 s1 s2 s3 s4 s5 s6 s7) (Kick.mk k0 k1) (p - i).toNat i ⟨w0, w1, w2⟩).p, .n (wrs (Sensor.mk s0 s1 s2 s3 s4 s5 s6 s7) (Kick.mk k0 k1) (p - i).toNat i ⟨w0, w1, w2⟩).f])) (.leaf (.ret, [.t false, .n 0, .n 0, .n 0])))
noncomputable def cOF : LoopC T := ⟨[.n, .n, .n, .n, .n, .n, .n, .n, .n, .n, .n, .n, .n, .n, .n, .n, .n, .n], ⟨77, [(2, .one (.o 0 0)), (4, .one (.o 1 0)), (6, .mfa 71 [.i .i64, .i .i64]), (7, .one (.o 2 0)), (16, .one (.i .i64)), (17, .one (.i .i64))], [.c [.i .i64, .i .i64, .i .i64, .i .i64, .i .i64, .i .i64, .i .i64, .i .i64], .c [.i .i64, .i .i64, .i .i64], .c [.i .i64, .i .i64, .i .i64]]⟩, fun e => match e with
    | .ret => ⟨77, [(4, .one (.o 0 0)), (5, .one .b)], [.c [.i .i64, .i .i64, .i .i64]]⟩
    | _ => ⟨77, [(4, .one (.o 0 0)), (7, .one (.o 1 0))], [.c [.i .i64, .i .i64, .i .i64], .c [.i .i64, .i .i64, .i .i64]]⟩, 100, fun d => oOF d.1 d.2.1 d.2.2.1 d.2.2.2.1 d.2.2.2.2.1 d.2.2.2.2.2.1 d.2.2.2.2.2.2.1 d.2.2.2.2.2.2.2.1 d.2.2.2.2.2.2.2.2.1 d.2.2.2.2.2.2.2.2.2.1 d.2.2.2.2.2.2.2.2.2.2.1 d.2.2.2.2.2.2.2.2.2.2.2.1 d.2.2.2.2.2.2.2.2.2.2.2.2.1 d.2.2.2.2.2.2.2.2.2.2.2.2.2.1 d.2.2.2.2.2.2.2.2.2.2.2.2.2.2.1 d.2.2.2.2.2.2.2.2.2.2.2.2.2.2.2.1 d.2.2.2.2.2.2.2.2.2.2.2.2.2.2.2.2.1 d.2.2.2.2.2.2.2.2.2.2.2.2.2.2.2.2.2.1⟩
theorem bOF (k0 : Int) (k1 : Int) (p : Int) (i : Int) (s0 : Int) (s1 : Int) (s2 : Int) (s3 : Int) (s4 : Int) (s5 : Int) (s6 : Int) (s7 : Int) (r0 : Int) (r1 : Int) (r2 : Int) (w0 : Int) (w1 : Int) (w2 : Int) : bodyD Try.prog E cOF 0 (bodyX Try.prog E ctIn noLoops 1000 5 (tabL Try.prog E [(7, cIF)]) (lpOf Try.prog 86 0)) (k0, k1, p, i, s0, s1, s2, s3, s4, s5, s6, s7, r0, r1, r2, w0, w1, w2, ()) =
  (.br (decide (i < p))
   (.req (((sErr (Sensor.mk s0 s1 s2 s3 s4 s5 s6 s7) = (0 : Int) ∧ okK (Kick.mk k0 k1)) ∧ s0 = (2 : Int)) ∧ ((0 : Int) ≤ i ∧ i ≤ (60 : Int)) ∧ (0 : Int) ≤ (0 : Int) ∧ (0 : Int) ≤ (10001 : Int))
   (.br (decide (fA (Sensor.mk s0 s1 s2 s3 s4 s5 s6 s7) (Kick.mk k0 k1) i (0 : Int) = (-1 : Int)))
    (.leaf (.inr (.ret, [.t (false), .n ((0 : Int)), .n ((0 : Int)), .n ((0 : Int))])))
    (.leaf (.inl (k0, (k1, (p, (IntKind.wrap IntKind.i64 (i + (1 : Int)), (s0, (s1, (s2, (s3, (s4, (s5, (s6, (s7, (r0, (r1, (r2, (Lt.t (stpW (Sensor.mk s0 s1 s2 s3 s4 s5 s6 s7) i (fA (Sensor.mk s0 s1 s2 s3 s4 s5 s6 s7) (Kick.mk k0 k1) i (0 : Int)) (Lt.mk w0 w1 w2)), (Lt.p (stpW (Sensor.mk s0 s1 s2 s3 s4 s5 s6 s7) i (fA (Sensor.mk s0 s1 s2 s3 s4 s5 s6 s7) (Kick.mk k0 k1) i (0 : Int)) (Lt.mk w0 w1 w2)), (Lt.f (stpW (Sensor.mk s0 s1 s2 s3 s4 s5 s6 s7) i (fA (Sensor.mk s0 s1 s2 s3 s4 s5 s6 s7) (Kick.mk k0 k1) i (0 : Int)) (Lt.mk w0 w1 w2)), ()))))))))))))))))))))))
   (.leaf (.inr (.exit (0 : Nat), [.n (r0), .n (r1), .n (r2), .n (w0), .n (w1), .n (w2)])))) := by kernel_rfl
theorem nOF (k0 : Int) (k1 : Int) (p : Int) (i : Int) (s0 : Int) (s1 : Int) (s2 : Int) (s3 : Int) (s4 : Int) (s5 : Int) (s6 : Int) (s7 : Int) (r0 : Int) (r1 : Int) (r2 : Int) (w0 : Int) (w1 : Int) (w2 : Int) (K : Ex × List (V T) → Prop) (hI : (((sErr (Sensor.mk s0 s1 s2 s3 s4 s5 s6 s7) = 0 ∧ okK (Kick.mk k0 k1)) ∧ s0 = 2) ∧ p = s1) ∧ 0 ≤ i ∧ i ≤ p) (hK : (.br (allF (Sensor.mk s0 s1 s2 s3 s4 s5 s6 s7) (Kick.mk k0 k1) (p - i).toNat i) (.leaf (.exit 0, [.n r0, .n r1, .n r2, .n (wrs (Sensor.mk s0 s1 s2 s3 s4 s5 s6 s7) (Kick.mk k0 k1) (p - i).toNat i ⟨w0, w1, w2⟩).t, .n (wrs (Sensor.mk s0 s1 s2 s3 s4 s5 s6 s7) (Kick.mk k0 k1) (p - i).toNat i ⟨w0, w1, w2⟩).p, .n (wrs (Sensor.mk s0 s1 s2 s3 s4 s5 s6 s7) (Kick.mk k0 k1) (p - i).toNat i ⟨w0, w1, w2⟩).f])) (.leaf (.ret, [.t false, .n 0, .n 0, .n 0])) : Tree (Ex × List (V T))).holds K) : (cOF.out (k0, k1, p, i, s0, s1, s2, s3, s4, s5, s6, s7, r0, r1, r2, w0, w1, w2, ())).holds K := ⟨hI, hK⟩
theorem hOF' (k0 : Int) (k1 : Int) (p : Int) (i : Int) (s0 : Int) (s1 : Int) (s2 : Int) (s3 : Int) (s4 : Int) (s5 : Int) (s6 : Int) (s7 : Int) (r0 : Int) (r1 : Int) (r2 : Int) (w0 : Int) (w1 : Int) (w2 : Int) (K : Ex × List (V T) → Prop) (hI : (((sErr (Sensor.mk s0 s1 s2 s3 s4 s5 s6 s7) = 0 ∧ okK (Kick.mk k0 k1)) ∧ s0 = 2) ∧ p = s1) ∧ 0 ≤ i ∧ i ≤ p) (hK : (.br (allF (Sensor.mk s0 s1 s2 s3 s4 s5 s6 s7) (Kick.mk k0 k1) (p - i).toNat i) (.leaf (.exit 0, [.n r0, .n r1, .n r2, .n (wrs (Sensor.mk s0 s1 s2 s3 s4 s5 s6 s7) (Kick.mk k0 k1) (p - i).toNat i ⟨w0, w1, w2⟩).t, .n (wrs (Sensor.mk s0 s1 s2 s3 s4 s5 s6 s7) (Kick.mk k0 k1) (p - i).toNat i ⟨w0, w1, w2⟩).p, .n (wrs (Sensor.mk s0 s1 s2 s3 s4 s5 s6 s7) (Kick.mk k0 k1) (p - i).toNat i ⟨w0, w1, w2⟩).f])) (.leaf (.ret, [.t false, .n 0, .n 0, .n 0])) : Tree (Ex × List (V T))).holds K) :
    (bodyD Try.prog E cOF 0 (bodyX Try.prog E ctIn noLoops 1000 5 (tabL Try.prog E [(7, cIF)]) (lpOf Try.prog 86 0)) (k0, k1, p, i, s0, s1, s2, s3, s4, s5, s6, s7, r0, r1, r2, w0, w1, w2, ())).holds fun y => match y with
    | .inl d => (d.2.2.1 - d.2.2.2.1).toNat < (p - i).toNat ∧ (cOF.out d).holds K
    | .inr y => K y := by
  rw [bOF]
  obtain ⟨⟨⟨hv, hc⟩, hp⟩, h0, h1⟩ := hI
  have q1 : 1 ≤ s1 ∧ s1 ≤ 60 := (sErr_zero.1 hv.1).2.1
  have e1 : IntKind.wrap IntKind.i64 (i + 1) = i + 1 := i64_in' (by omega) (by omega)
  rw [e1]
  refine way (fun c => ?_) fun c => ?_
  · rw [allF_step c, wrs_step c] at hK
    have hlt : (p - (i + 1)).toNat < (p - i).toNat := by omega
    refine ⟨⟨⟨hv, hc⟩, ⟨h0, by omega⟩, by decide, by decide⟩, way (fun k => ?_) fun k => ?_⟩
    · have k : fA (Sensor.mk s0 s1 s2 s3 s4 s5 s6 s7) (Kick.mk k0 k1) i 0 = -1 := k
      rw [if_pos k] at hK
      exact gt_no rfl hK
    · have k : ¬ fA (Sensor.mk s0 s1 s2 s3 s4 s5 s6 s7) (Kick.mk k0 k1) i 0 = -1 := k
      rw [if_neg k] at hK
      exact ⟨hlt, nOF _ _ _ _ _ _ _ _ _ _ _ _ _ _ _ _ _ _ K ⟨⟨⟨hv, hc⟩, hp⟩, by omega, by omega⟩ hK⟩
  · have e := end_0 (s := (Sensor.mk s0 s1 s2 s3 s4 s5 s6 s7)) (x := (Kick.mk k0 k1)) (w := ⟨w0, w1, w2⟩) c
    rw [e.2.1, e.2.2] at hK
    exact gt_yes rfl hK
theorem hOF : LoopH Try.prog E cOF 0 (bodyX Try.prog E ctIn noLoops 1000 5 (tabL Try.prog E [(7, cIF)]) (lpOf Try.prog 86 0)) :=
  ⟨fun d => (d.2.2.1 - d.2.2.2.1).toNat, fun dd K hK => by
    obtain ⟨k0, k1, p, i, s0, s1, s2, s3, s4, s5, s6, s7, r0, r1, r2, w0, w1, w2, ⟨⟩⟩ := dd
    obtain ⟨hI, hK⟩ := hK
    refine Tree.holds_mono (fun y hy => ?_) (hOF' k0 k1 p i s0 s1 s2 s3 s4 s5 s6 s7 r0 r1 r2 w0 w1 w2 K hI hK)
    cases y with
    | inl d' => exact hy
    | inr y => exact hy⟩
theorem inOF : ∀ b' ∈ loopsIn (lpOf Try.prog 86 0), ∀ c', lkL (keyOfC b') [(7, cIF)] = some c' → LSndN Try.prog E 0 b' c' := by
  intro b' hb' c' hc'
  have e : loopsIn (lpOf Try.prog 86 0) = [lpOf Try.prog 86 1] := by kernel_rfl
  rw [e] at hb'
  obtain rfl := List.mem_singleton.1 hb'
  obtain rfl : cIF = c' := Option.some.inj hc'
  exact sndIF
theorem llF : LLOk Try.prog E (llOfN Try.prog E 86 0 [(4, cOF), (7, cIF)]) := llOfN_ok fun i hi c hc => by
  have hi : i < 2 := hi
  have : i = 0 ∨ i = 1 := by omega
  rcases this with rfl | rfl
  · obtain rfl : cOF = c := Option.some.inj hc
    exact LSndN.mk2 good names mixes ctIn_ok (by decide) inOF hOF
  · obtain rfl : cIF = c := Option.some.inj hc
    exact sndIF
theorem tfF (s : Sensor) (x : Kick) : runX ctIn (llOfN Try.prog E 86 0 [(4, cOF), (7, cIF)]) 86 [s.av, x.av] [119, 4] =
  (.br (Sensor.Channel s == (1 : Int))
   .fail
   (.req ((((sErr (Sensor.mk (Sensor.Channel s) (Sensor.Period s) (Sensor.Delay s) (Sensor.Noise s) (Sensor.Step s) (Sensor.Lost s) (Sensor.Limit s) (Sensor.Hold s)) = (0 : Int) ∧ okK (Kick.mk (Kick.Rate x) (Kick.Grow x))) ∧ Sensor.Channel s = (2 : Int)) ∧ Sensor.Period s = Sensor.Period s) ∧ (0 : Int) ≤ (0 : Int) ∧ (0 : Int) ≤ Sensor.Period s)
   (.br (allF (Sensor.mk (Sensor.Channel s) (Sensor.Period s) (Sensor.Delay s) (Sensor.Noise s) (Sensor.Step s) (Sensor.Lost s) (Sensor.Limit s) (Sensor.Hold s)) (Kick.mk (Kick.Rate x) (Kick.Grow x)) (Int.toNat (Sensor.Period s - (0 : Int))) (0 : Int))
    (.leaf (.tup [.agg [.sym .i64 (Lt.t (wrs (Sensor.mk (Sensor.Channel s) (Sensor.Period s) (Sensor.Delay s) (Sensor.Noise s) (Sensor.Step s) (Sensor.Lost s) (Sensor.Limit s) (Sensor.Hold s)) (Kick.mk (Kick.Rate x) (Kick.Grow x)) (Int.toNat (Sensor.Period s - (0 : Int))) (0 : Int) (Lt.mk (-1 : Int) (0 : Int) (0 : Int)))), .sym .i64 (Lt.p (wrs (Sensor.mk (Sensor.Channel s) (Sensor.Period s) (Sensor.Delay s) (Sensor.Noise s) (Sensor.Step s) (Sensor.Lost s) (Sensor.Limit s) (Sensor.Hold s)) (Kick.mk (Kick.Rate x) (Kick.Grow x)) (Int.toNat (Sensor.Period s - (0 : Int))) (0 : Int) (Lt.mk (-1 : Int) (0 : Int) (0 : Int)))), .sym .i64 (Lt.f (wrs (Sensor.mk (Sensor.Channel s) (Sensor.Period s) (Sensor.Delay s) (Sensor.Noise s) (Sensor.Step s) (Sensor.Lost s) (Sensor.Limit s) (Sensor.Hold s)) (Kick.mk (Kick.Rate x) (Kick.Grow x)) (Int.toNat (Sensor.Period s - (0 : Int))) (0 : Int) (Lt.mk (-1 : Int) (0 : Int) (0 : Int))))], .bool (decide (Lt.t (wrs (Sensor.mk (Sensor.Channel s) (Sensor.Period s) (Sensor.Delay s) (Sensor.Noise s) (Sensor.Step s) (Sensor.Lost s) (Sensor.Limit s) (Sensor.Hold s)) (Kick.mk (Kick.Rate x) (Kick.Grow x)) (Int.toNat (Sensor.Period s - (0 : Int))) (0 : Int) (Lt.mk (-1 : Int) (0 : Int) (0 : Int))) ≤ (10000 : Int)))]))
    (.leaf (.tup [.agg [.sym .i64 ((0 : Int)), .sym .i64 ((0 : Int)), .sym .i64 ((0 : Int))], .bool (false)]))))) := by kernel_rfl
end Go.Proofs.Ytdclipcjlimdoaa.W
