/- The latest alarms of sensors: the first sample that is high. No condition. -/
import Derived.Test.YtdclipcjlimdoaaQ1
set_option linter.unusedVariables false
set_option maxRecDepth 100000
set_option maxHeartbeats 4000000
noncomputable section
namespace Go.Proofs.Ytdclipcjlimdoaa.W
open Go Go.Cx Go.RowKit
theorem fA_yes {s : Sensor} {x : Kick} {ph a : Int} {K : Ex × List (V T) → Prop} {t1 t2 : Tree (Ex × List (V T))} (h : fA s x ph a ≠ -1) (hK : (Tree.br (decide (fA s x ph a = -1)) t1 t2).holds K) : t2.holds K := hK.2 (decide_eq_false h)
theorem fA_no {s : Sensor} {x : Kick} {ph a : Int} {K : Ex × List (V T) → Prop} {t1 t2 : Tree (Ex × List (V T))} (h : fA s x ph a = -1) (hK : (Tree.br (decide (fA s x ph a = -1)) t1 t2).holds K) : t1.holds K := hK.1 (decide_eq_true h)
noncomputable def ctFi : CTab T := [(75, cSy)]
theorem ctFi_ok : CTabOk Try.prog E ctFi := .cons sy_ok .nil
noncomputable def oFi (ph : Int) (a : Int) (s0 : Int) (s1 : Int) (s2 : Int) (s3 : Int) (s4 : Int) (s5 : Int) (s6 : Int) (s7 : Int) (k0 : Int) (k1 : Int) : Tree (Ex × List (V T)) := .req ((sErr (Sensor.mk s0 s1 s2 s3 s4 s5 s6 s7) = 0 ∧ okK (Kick.mk k0 k1)) ∧ (0 ≤ ph ∧ ph ≤ 60) ∧ 0 ≤ a ∧ a ≤ 10001) (.br (decide (fA (Sensor.mk s0 s1 s2 s3 s4 s5 s6 s7) (Kick.mk k0 k1) ph a = -1)) (.leaf (.exit 0, [])) (.leaf (.ret, [.n (fA (Sensor.mk s0 s1 s2 s3 s4 s5 s6 s7) (Kick.mk k0 k1) ph a), .t true])))
noncomputable def cFi : LoopC T := ⟨[.n, .n, .n, .n, .n, .n, .n, .n, .n, .n, .n, .n], ⟨37, [(2, .one (.i .i64)), (3, .one (.o 0 0)), (4, .one (.o 1 0)), (8, .one (.i .i64))], [.c [.i .i64, .i .i64, .i .i64, .i .i64, .i .i64, .i .i64, .i .i64, .i .i64], .c [.i .i64, .i .i64]]⟩, fun e => match e with
    | .ret => ⟨37, [(6, .one (.i .i64)), (7, .one .b)], []⟩
    | _ => ⟨37, [], []⟩, 30, fun d => oFi d.1 d.2.1 d.2.2.1 d.2.2.2.1 d.2.2.2.2.1 d.2.2.2.2.2.1 d.2.2.2.2.2.2.1 d.2.2.2.2.2.2.2.1 d.2.2.2.2.2.2.2.2.1 d.2.2.2.2.2.2.2.2.2.1 d.2.2.2.2.2.2.2.2.2.2.1 d.2.2.2.2.2.2.2.2.2.2.2.1⟩
theorem bFi (ph : Int) (a : Int) (s0 : Int) (s1 : Int) (s2 : Int) (s3 : Int) (s4 : Int) (s5 : Int) (s6 : Int) (s7 : Int) (k0 : Int) (k1 : Int) : bodyD Try.prog E cFi 0 (bodyX Try.prog E ctFi noLoops 1000 5 L0 (lpOf Try.prog 105 0)) (ph, a, s0, s1, s2, s3, s4, s5, s6, s7, k0, k1, ()) =
  (.br (decide (IntKind.wrap IntKind.i64 (ph + IntKind.wrap IntKind.i64 (a * s1)) ≤ (10000 : Int)))
   (.br (decide (IntKind.wrap IntKind.i64 (sy (Sensor.mk s0 s1 s2 s3 s4 s5 s6 s7) (Kick.mk k0 k1) (IntKind.wrap IntKind.i64 (ph + IntKind.wrap IntKind.i64 (a * s1))) - IntKind.wrap IntKind.i64 (s3 * s4)) ≥ s6))
    (.leaf (.inr (.ret, [.n (a), .t (true)])))
    (.leaf (.inl (ph, (IntKind.wrap IntKind.i64 (a + (1 : Int)), (s0, (s1, (s2, (s3, (s4, (s5, (s6, (s7, (k0, (k1, ())))))))))))))))
   (.leaf (.inr (.exit (0 : Nat), [])))) := by kernel_rfl
theorem nFi (ph : Int) (a : Int) (s0 : Int) (s1 : Int) (s2 : Int) (s3 : Int) (s4 : Int) (s5 : Int) (s6 : Int) (s7 : Int) (k0 : Int) (k1 : Int) (K : Ex × List (V T) → Prop) (hI : (sErr (Sensor.mk s0 s1 s2 s3 s4 s5 s6 s7) = 0 ∧ okK (Kick.mk k0 k1)) ∧ (0 ≤ ph ∧ ph ≤ 60) ∧ 0 ≤ a ∧ a ≤ 10001) (hK : (.br (decide (fA (Sensor.mk s0 s1 s2 s3 s4 s5 s6 s7) (Kick.mk k0 k1) ph a = -1)) (.leaf (.exit 0, [])) (.leaf (.ret, [.n (fA (Sensor.mk s0 s1 s2 s3 s4 s5 s6 s7) (Kick.mk k0 k1) ph a), .t true])) : Tree (Ex × List (V T))).holds K) : (cFi.out (ph, a, s0, s1, s2, s3, s4, s5, s6, s7, k0, k1, ())).holds K := ⟨hI, hK⟩
theorem hFi' (ph : Int) (a : Int) (s0 : Int) (s1 : Int) (s2 : Int) (s3 : Int) (s4 : Int) (s5 : Int) (s6 : Int) (s7 : Int) (k0 : Int) (k1 : Int) (K : Ex × List (V T) → Prop) (hI : (sErr (Sensor.mk s0 s1 s2 s3 s4 s5 s6 s7) = 0 ∧ okK (Kick.mk k0 k1)) ∧ (0 ≤ ph ∧ ph ≤ 60) ∧ 0 ≤ a ∧ a ≤ 10001) (hK : (.br (decide (fA (Sensor.mk s0 s1 s2 s3 s4 s5 s6 s7) (Kick.mk k0 k1) ph a = -1)) (.leaf (.exit 0, [])) (.leaf (.ret, [.n (fA (Sensor.mk s0 s1 s2 s3 s4 s5 s6 s7) (Kick.mk k0 k1) ph a), .t true])) : Tree (Ex × List (V T))).holds K) :
    (bodyD Try.prog E cFi 0 (bodyX Try.prog E ctFi noLoops 1000 5 L0 (lpOf Try.prog 105 0)) (ph, a, s0, s1, s2, s3, s4, s5, s6, s7, k0, k1, ())).holds fun y => match y with
    | .inl d => (10001 - d.2.1).toNat < (10001 - a).toNat ∧ (cFi.out d).holds K
    | .inr y => K y := by
  rw [bFi]
  obtain ⟨⟨hs, hk⟩, hp, ha⟩ := hI
  have q : okSe (Sensor.mk s0 s1 s2 s3 s4 s5 s6 s7) := (sErr_zero.1 hs).2
  have q1 : 1 ≤ s1 ∧ s1 ≤ 60 := q.1
  have q2 : -15 ≤ s3 ∧ s3 ≤ 15 := by have : 0 ≤ s3 ∧ s3 ≤ 15 := q.2.2.1; omega
  have q3 : 1 ≤ s4 ∧ s4 ≤ 1048576 := q.2.2.2.1
  have mp := mulb ha.1 ha.2 (show 0 ≤ s1 by omega) q1.2
  have bE := bdE q2 q3
  have e1 : IntKind.wrap IntKind.i64 (a * s1) = a * s1 := i64_in' (by omega) (by omega)
  have e2 : IntKind.wrap IntKind.i64 (ph + a * s1) = ph + a * s1 := i64_in' (by omega) (by omega)
  have e3 : IntKind.wrap IntKind.i64 (s3 * s4) = s3 * s4 := i64_in' (by omega) (by omega)
  
  have bs := sy_bd (Sensor.mk s0 s1 s2 s3 s4 s5 s6 s7) (Kick.mk k0 k1) (ph + a * s1)
  have e4 : IntKind.wrap IntKind.i64 (sy (Sensor.mk s0 s1 s2 s3 s4 s5 s6 s7) (Kick.mk k0 k1) (ph + a * s1) - s3 * s4) = sy (Sensor.mk s0 s1 s2 s3 s4 s5 s6 s7) (Kick.mk k0 k1) (ph + a * s1) - s3 * s4 := i64_in' (by omega) (by omega)
  rw [e1, e2, e3, e4]
  refine way (fun c => way (fun k => ?_) fun k => ?_) fun c => ?_
  · have f := fA_hi (s := (Sensor.mk s0 s1 s2 s3 s4 s5 s6 s7)) (x := (Kick.mk k0 k1)) c (show 0 < s1 by omega) k
    have := fA_yes (by rw [f]; omega) hK
    rw [f] at this
    exact this
  · have f := fA_lo (s := (Sensor.mk s0 s1 s2 s3 s4 s5 s6 s7)) (x := (Kick.mk k0 k1)) c (show 0 < s1 by omega) k
    rw [f] at hK
    have le : a ≤ a * s1 := by
      have := Int.mul_le_mul_of_nonneg_left q1.1 ha.1
      omega
    have e5 : IntKind.wrap IntKind.i64 (a + 1) = a + 1 := i64_in' (by omega) (by omega)
    rw [e5]
    have hlt : (10001 - (a + 1)).toNat < (10001 - a).toNat := by omega
    exact ⟨hlt, nFi _ _ _ _ _ _ _ _ _ _ _ _ K ⟨⟨hs, hk⟩, hp, by omega, by omega⟩ hK⟩
  · exact fA_no (fA_out (s := (Sensor.mk s0 s1 s2 s3 s4 s5 s6 s7)) (x := (Kick.mk k0 k1)) c) hK
theorem hFi : LoopH Try.prog E cFi 0 (bodyX Try.prog E ctFi noLoops 1000 5 L0 (lpOf Try.prog 105 0)) :=
  ⟨fun d => (10001 - d.2.1).toNat, fun dd K hK => by
    obtain ⟨ph, a, s0, s1, s2, s3, s4, s5, s6, s7, k0, k1, ⟨⟩⟩ := dd
    obtain ⟨hI, hK⟩ := hK
    refine Tree.holds_mono (fun y hy => ?_) (hFi' ph a s0 s1 s2 s3 s4 s5 s6 s7 k0 k1 K hI hK)
    cases y with
    | inl d' => exact hy
    | inr y => exact hy⟩
theorem llFi : LLOk Try.prog E (llOfN Try.prog E 105 0 [(2, cFi)]) := llOfN_ok fun i hi c hc => by
  have hi : i < 1 := hi
  obtain rfl : i = 0 := by omega
  obtain rfl : cFi = c := Option.some.inj hc
  exact LSndN.mk good names mixes ctFi_ok (by decide) hFi
noncomputable def faV (s : Sensor) (x : Kick) (ph : Int) : Int := if fA s x ph 0 = -1 then 0 else fA s x ph 0
noncomputable def faB (s : Sensor) (x : Kick) (ph : Int) : Bool := !decide (fA s x ph 0 = -1)
@[reducible] def okP (s : Sensor) (x : Kick) (ph : Int) : Prop := (sErr s = 0 ∧ okK x) ∧ (0 ≤ ph ∧ ph ≤ 60)
theorem tvFi (s : Sensor) (x : Kick) (ph : Int) : runX ctFi (llOfN Try.prog E 105 0 [(2, cFi)]) 105 [s.av, x.av, i64 ph] [2, 4] =
  (.req ((sErr (Sensor.mk (Sensor.Channel s) (Sensor.Period s) (Sensor.Delay s) (Sensor.Noise s) (Sensor.Step s) (Sensor.Lost s) (Sensor.Limit s) (Sensor.Hold s)) = (0 : Int) ∧ okK (Kick.mk (Kick.Rate x) (Kick.Grow x))) ∧ ((0 : Int) ≤ ph ∧ ph ≤ (60 : Int)) ∧ (0 : Int) ≤ (0 : Int) ∧ (0 : Int) ≤ (10001 : Int))
  (.br (decide (fA (Sensor.mk (Sensor.Channel s) (Sensor.Period s) (Sensor.Delay s) (Sensor.Noise s) (Sensor.Step s) (Sensor.Lost s) (Sensor.Limit s) (Sensor.Hold s)) (Kick.mk (Kick.Rate x) (Kick.Grow x)) ph (0 : Int) = (-1 : Int)))
   (.leaf (.tup [.sym .i64 ((0 : Int)), .bool (false)]))
   (.leaf (.tup [.sym .i64 (fA (Sensor.mk (Sensor.Channel s) (Sensor.Period s) (Sensor.Delay s) (Sensor.Noise s) (Sensor.Step s) (Sensor.Lost s) (Sensor.Limit s) (Sensor.Hold s)) (Kick.mk (Kick.Rate x) (Kick.Grow x)) ph (0 : Int)), .bool (true)])))) := by kernel_rfl
theorem s105 (s : Sensor) (x : Kick) (ph : Int) (h : okP s x ph) : (runX ctFi (llOfN Try.prog E 105 0 [(2, cFi)]) 105 [s.av, x.av, i64 ph] [2, 4]).holds fun v => v = .tup [i64 (faV s x ph), .bool (faB s x ph)] := by
  rw [tvFi]
  refine ⟨⟨h.1, h.2, by decide, by decide⟩, ?_⟩
  unfold faV faB
  refine way (fun c => ?_) fun c => ?_
  · have c : fA s x ph 0 = -1 := c
    rw [c]; rfl
  · have c : ¬ fA s x ph 0 = -1 := c
    rw [if_neg c, decide_eq_false c]; rfl
noncomputable def cFir : Con T := conP Try.prog [shSe, shK, .one (.i .i64)] [.n, .n, .n, .n, .n, .n, .n, .n, .n, .n, .n] (fun d => okP ⟨d.1, d.2.1, d.2.2.1, d.2.2.2.1, d.2.2.2.2.1, d.2.2.2.2.2.1, d.2.2.2.2.2.2.1, d.2.2.2.2.2.2.2.1⟩ ⟨d.2.2.2.2.2.2.2.2.1, d.2.2.2.2.2.2.2.2.2.1⟩ d.2.2.2.2.2.2.2.2.2.2.1) fun d => .tup [i64 (faV ⟨d.1, d.2.1, d.2.2.1, d.2.2.2.1, d.2.2.2.2.1, d.2.2.2.2.2.1, d.2.2.2.2.2.2.1, d.2.2.2.2.2.2.2.1⟩ ⟨d.2.2.2.2.2.2.2.2.1, d.2.2.2.2.2.2.2.2.2.1⟩ d.2.2.2.2.2.2.2.2.2.2.1), .bool (faB ⟨d.1, d.2.1, d.2.2.1, d.2.2.2.1, d.2.2.2.2.1, d.2.2.2.2.2.1, d.2.2.2.2.2.2.1, d.2.2.2.2.2.2.2.1⟩ ⟨d.2.2.2.2.2.2.2.2.1, d.2.2.2.2.2.2.2.2.2.1⟩ d.2.2.2.2.2.2.2.2.2.2.1)]
theorem fir_ok : ConOk Try.prog E 105 cFir := conP_ok fun d hd => fact_run ctFi_ok llFi (ts := [2, 4]) rfl (s105 _ _ d.2.2.2.2.2.2.2.2.2.2.1 hd)
noncomputable def ctLa : CTab T := [(105, cFir)]
theorem ctLa_ok : CTabOk Try.prog E ctLa := .cons fir_ok .nil
theorem tvLa (s : Sensor) (x : Kick) (ph : Int) : runX ctLa noLoops 101 [s.av, x.av, i64 ph] [2, 2, 4] =
  (.req (okP (Sensor.mk (Sensor.Channel s) (Sensor.Period s) (Sensor.Delay s) (Sensor.Noise s) (Sensor.Step s) (Sensor.Lost s) (Sensor.Limit s) (Sensor.Hold s)) (Kick.mk (Kick.Rate x) (Kick.Grow x)) ph)
  (.br (faB (Sensor.mk (Sensor.Channel s) (Sensor.Period s) (Sensor.Delay s) (Sensor.Noise s) (Sensor.Step s) (Sensor.Lost s) (Sensor.Limit s) (Sensor.Hold s)) (Kick.mk (Kick.Rate x) (Kick.Grow x)) ph)
   (.leaf (.tup [.sym .i64 (IntKind.wrap IntKind.i64 (IntKind.wrap IntKind.i64 (ph + IntKind.wrap IntKind.i64 (IntKind.wrap IntKind.i64 (IntKind.wrap IntKind.i64 (faV (Sensor.mk (Sensor.Channel s) (Sensor.Period s) (Sensor.Delay s) (Sensor.Noise s) (Sensor.Step s) (Sensor.Lost s) (Sensor.Limit s) (Sensor.Hold s)) (Kick.mk (Kick.Rate x) (Kick.Grow x)) ph + IntKind.wrap IntKind.i64 (Sensor.Hold s * IntKind.wrap IntKind.i64 (Sensor.Lost s + (1 : Int)))) - (1 : Int)) * Sensor.Period s)) + Sensor.Delay s)), .sym .i64 (faV (Sensor.mk (Sensor.Channel s) (Sensor.Period s) (Sensor.Delay s) (Sensor.Noise s) (Sensor.Step s) (Sensor.Lost s) (Sensor.Limit s) (Sensor.Hold s)) (Kick.mk (Kick.Rate x) (Kick.Grow x)) ph), .bool (decide (IntKind.wrap IntKind.i64 (IntKind.wrap IntKind.i64 (ph + IntKind.wrap IntKind.i64 (IntKind.wrap IntKind.i64 (IntKind.wrap IntKind.i64 (faV (Sensor.mk (Sensor.Channel s) (Sensor.Period s) (Sensor.Delay s) (Sensor.Noise s) (Sensor.Step s) (Sensor.Lost s) (Sensor.Limit s) (Sensor.Hold s)) (Kick.mk (Kick.Rate x) (Kick.Grow x)) ph + IntKind.wrap IntKind.i64 (Sensor.Hold s * IntKind.wrap IntKind.i64 (Sensor.Lost s + (1 : Int)))) - (1 : Int)) * Sensor.Period s)) + Sensor.Delay s) ≤ (10000 : Int)))]))
   (.leaf (.tup [.sym .i64 (IntKind.wrap IntKind.i64 (IntKind.wrap IntKind.i64 (ph + IntKind.wrap IntKind.i64 (IntKind.wrap IntKind.i64 (IntKind.wrap IntKind.i64 (faV (Sensor.mk (Sensor.Channel s) (Sensor.Period s) (Sensor.Delay s) (Sensor.Noise s) (Sensor.Step s) (Sensor.Lost s) (Sensor.Limit s) (Sensor.Hold s)) (Kick.mk (Kick.Rate x) (Kick.Grow x)) ph + IntKind.wrap IntKind.i64 (Sensor.Hold s * IntKind.wrap IntKind.i64 (Sensor.Lost s + (1 : Int)))) - (1 : Int)) * Sensor.Period s)) + Sensor.Delay s)), .sym .i64 (faV (Sensor.mk (Sensor.Channel s) (Sensor.Period s) (Sensor.Delay s) (Sensor.Noise s) (Sensor.Step s) (Sensor.Lost s) (Sensor.Limit s) (Sensor.Hold s)) (Kick.mk (Kick.Rate x) (Kick.Grow x)) ph), .bool (false)])))) := by kernel_rfl
theorem fa_in {s : Sensor} {x : Kick} {ph : Int} (h : okP s x ph) : (0 ≤ faV s x ph ∧ faV s x ph ≤ 10000) ∧ (faV s x ph * s.Period ≤ 10000 ∨ fA s x ph 0 = -1) := by
  have q : 1 ≤ s.Period ∧ s.Period ≤ 60 := (sErr_zero.1 h.1.1).2.1
  unfold faV
  split
  · omega
  · rename_i c
    rcases fA_bd (s := s) (x := x) (ph := ph) 0 (by omega) with k | ⟨k1, k2, _⟩
    · exact absurd k c
    · have := Int.mul_le_mul_of_nonneg_left q.1 k1
      have := h.2
      omega
/-- The alarm, with what bounds it. -/
theorem tk_in {s : Sensor} {ph a : Int} (h : sErr s = 0) (hp : 0 ≤ ph ∧ ph ≤ 60) (ha : 0 ≤ a ∧ a ≤ 10000) :
    IntKind.wrap IntKind.i64 (IntKind.wrap IntKind.i64 (ph + IntKind.wrap IntKind.i64 (IntKind.wrap IntKind.i64 (IntKind.wrap IntKind.i64 (a + IntKind.wrap IntKind.i64 (s.Hold * IntKind.wrap IntKind.i64 (s.Lost + 1))) - 1) * s.Period)) + s.Delay) = tk s ph a ∧ 0 ≤ tk s ph a ∧ tk s ph a ≤ 700000 := by
  have q : okSe s := (sErr_zero.1 h).2
  have q1 : 1 ≤ s.Period ∧ s.Period ≤ 60 := q.1
  have q2 : 0 ≤ s.Delay ∧ s.Delay ≤ 600 := q.2.1
  have q3 : 0 ≤ s.Lost ∧ s.Lost ≤ 5 := q.2.2.2.2.1
  have q4 : 1 ≤ s.Hold ∧ s.Hold ≤ 8 := q.2.2.2.2.2.2
  have e1 : IntKind.wrap IntKind.i64 (s.Lost + 1) = s.Lost + 1 := i64_in' (by omega) (by omega)
  have m1 := mulb (show 0 ≤ s.Hold by omega) q4.2 (show 0 ≤ s.Lost + 1 by omega) (show s.Lost + 1 ≤ 6 by omega)
  have m0 := Int.mul_le_mul_of_nonneg_left (show 1 ≤ s.Lost + 1 by omega) (show 0 ≤ s.Hold by omega)
  unfold tk
  rw [e1]
  generalize s.Hold * (s.Lost + 1) = hl at *
  have e2 : IntKind.wrap IntKind.i64 hl = hl := i64_in' (by omega) (by omega)
  have e3 : IntKind.wrap IntKind.i64 (a + hl) = a + hl := i64_in' (by omega) (by omega)
  have e4 : IntKind.wrap IntKind.i64 (a + hl - 1) = a + hl - 1 := i64_in' (by omega) (by omega)
  have m2 := mulb (show 0 ≤ a + hl - 1 by omega) (show a + hl - 1 ≤ 10047 by omega) (show 0 ≤ s.Period by omega) q1.2
  rw [e2, e3, e4]
  generalize (a + hl - 1) * s.Period = z at *
  have e5 : IntKind.wrap IntKind.i64 z = z := i64_in' (by omega) (by omega)
  have e6 : IntKind.wrap IntKind.i64 (ph + z) = ph + z := i64_in' (by omega) (by omega)
  have e7 : IntKind.wrap IntKind.i64 (ph + z + s.Delay) = ph + z + s.Delay := i64_in' (by omega) (by omega)
  rw [e5, e6, e7]
  exact ⟨rfl, by omega, by omega⟩
noncomputable def laB (s : Sensor) (x : Kick) (ph : Int) : Bool := faB s x ph && decide (tk s ph (faV s x ph) ≤ 10000)
theorem s101 (s : Sensor) (x : Kick) (ph : Int) (h : okP s x ph) : (runX ctLa noLoops 101 [s.av, x.av, i64 ph] [2, 2, 4]).holds fun v => v = .tup [i64 (tk s ph (faV s x ph)), i64 (faV s x ph), .bool (laB s x ph)] := by
  rw [tvLa]
  have b := tk_in h.1.1 h.2 (fa_in h).1
  refine ⟨h, ?_⟩
  show (Tree.br (faB s x ph) (.leaf (.tup [i64 (IntKind.wrap IntKind.i64 (IntKind.wrap IntKind.i64 (ph + IntKind.wrap IntKind.i64 (IntKind.wrap IntKind.i64 (IntKind.wrap IntKind.i64 (faV s x ph + IntKind.wrap IntKind.i64 (s.Hold * IntKind.wrap IntKind.i64 (s.Lost + 1))) - 1) * s.Period)) + s.Delay)), i64 (faV s x ph), .bool (decide (IntKind.wrap IntKind.i64 (IntKind.wrap IntKind.i64 (ph + IntKind.wrap IntKind.i64 (IntKind.wrap IntKind.i64 (IntKind.wrap IntKind.i64 (faV s x ph + IntKind.wrap IntKind.i64 (s.Hold * IntKind.wrap IntKind.i64 (s.Lost + 1))) - 1) * s.Period)) + s.Delay) ≤ 10000))])) (.leaf (.tup [i64 (IntKind.wrap IntKind.i64 (IntKind.wrap IntKind.i64 (ph + IntKind.wrap IntKind.i64 (IntKind.wrap IntKind.i64 (IntKind.wrap IntKind.i64 (faV s x ph + IntKind.wrap IntKind.i64 (s.Hold * IntKind.wrap IntKind.i64 (s.Lost + 1))) - 1) * s.Period)) + s.Delay)), i64 (faV s x ph), .bool false])) : Tree (AV T)).holds _
  rw [b.1]
  unfold laB
  refine wayB (fun c => ?_) fun c => ?_
  · rw [c]; rfl
  · rw [c]; rfl
noncomputable def cLat : Con T := conP Try.prog [shSe, shK, .one (.i .i64)] [.n, .n, .n, .n, .n, .n, .n, .n, .n, .n, .n] (fun d => okP ⟨d.1, d.2.1, d.2.2.1, d.2.2.2.1, d.2.2.2.2.1, d.2.2.2.2.2.1, d.2.2.2.2.2.2.1, d.2.2.2.2.2.2.2.1⟩ ⟨d.2.2.2.2.2.2.2.2.1, d.2.2.2.2.2.2.2.2.2.1⟩ d.2.2.2.2.2.2.2.2.2.2.1) fun d => .tup [i64 (tk ⟨d.1, d.2.1, d.2.2.1, d.2.2.2.1, d.2.2.2.2.1, d.2.2.2.2.2.1, d.2.2.2.2.2.2.1, d.2.2.2.2.2.2.2.1⟩ d.2.2.2.2.2.2.2.2.2.2.1 (faV ⟨d.1, d.2.1, d.2.2.1, d.2.2.2.1, d.2.2.2.2.1, d.2.2.2.2.2.1, d.2.2.2.2.2.2.1, d.2.2.2.2.2.2.2.1⟩ ⟨d.2.2.2.2.2.2.2.2.1, d.2.2.2.2.2.2.2.2.2.1⟩ d.2.2.2.2.2.2.2.2.2.2.1)), i64 (faV ⟨d.1, d.2.1, d.2.2.1, d.2.2.2.1, d.2.2.2.2.1, d.2.2.2.2.2.1, d.2.2.2.2.2.2.1, d.2.2.2.2.2.2.2.1⟩ ⟨d.2.2.2.2.2.2.2.2.1, d.2.2.2.2.2.2.2.2.2.1⟩ d.2.2.2.2.2.2.2.2.2.2.1), .bool (laB ⟨d.1, d.2.1, d.2.2.1, d.2.2.2.1, d.2.2.2.2.1, d.2.2.2.2.2.1, d.2.2.2.2.2.2.1, d.2.2.2.2.2.2.2.1⟩ ⟨d.2.2.2.2.2.2.2.2.1, d.2.2.2.2.2.2.2.2.2.1⟩ d.2.2.2.2.2.2.2.2.2.2.1)]
theorem lat_ok : ConOk Try.prog E 101 cLat := conP_ok fun d hd => fact_run ctLa_ok noLoops_ok (ts := [2, 2, 4]) rfl (s101 _ _ d.2.2.2.2.2.2.2.2.2.2.1 hd)
end Go.Proofs.Ytdclipcjlimdoaa.W
