/- The latest alarms of sensors: the worst phase. No condition. -/
import Derived.Test.YtdclipcjlimdoaaQ2
set_option linter.unusedVariables false
set_option maxRecDepth 100000
set_option maxHeartbeats 4000000
noncomputable section
namespace Go.Proofs.Ytdclipcjlimdoaa.W
open Go Go.Cx Go.RowKit
theorem gt_yes {b : Bool} {K : Ex × List (V T) → Prop} {t1 t2 : Tree (Ex × List (V T))} (h : b = true) (hK : (Tree.br b t1 t2).holds K) : t1.holds K := hK.1 h
theorem gt_no {b : Bool} {K : Ex × List (V T) → Prop} {t1 t2 : Tree (Ex × List (V T))} (h : b = false) (hK : (Tree.br b t1 t2).holds K) : t2.holds K := hK.2 h
theorem allG_step {s : Sensor} {x : Kick} {f p : Int} (h : f < p) : allG s x (p - f).toNat f = if laB s x f = true then allG s x (p - (f + 1)).toNat (f + 1) else false := by
  rw [show (p - f).toNat = (p - (f + 1)).toNat + 1 by omega]
  unfold laB faB faV
  show (if fA s x f 0 = -1 ∨ 10000 < tk s f (fA s x f 0) then false else allG s x (p - (f + 1)).toNat (f + 1)) = _
  by_cases c : fA s x f 0 = -1
  · rw [if_pos (.inl c), decide_eq_true c]; rfl
  · rw [if_neg c, decide_eq_false c]
    by_cases k : tk s f (fA s x f 0) ≤ 10000
    · rw [if_neg (by omega), decide_eq_true k]; rfl
    · rw [if_pos (by omega), decide_eq_false k]; rfl
theorem allF_step {s : Sensor} {x : Kick} {f p : Int} (h : f < p) : allF s x (p - f).toNat f = if fA s x f 0 = -1 then false else allF s x (p - (f + 1)).toNat (f + 1) := by
  rw [show (p - f).toNat = (p - (f + 1)).toNat + 1 by omega]
  rfl
theorem wrs_step {s : Sensor} {x : Kick} {f p : Int} {w : Lt} (h : f < p) : wrs s x (p - f).toNat f w = wrs s x (p - (f + 1)).toNat (f + 1) (stp s x f w) := by
  rw [show (p - f).toNat = (p - (f + 1)).toNat + 1 by omega]
  rfl
theorem end_0 {s : Sensor} {x : Kick} {f p : Int} {w : Lt} (h : ¬ f < p) : allG s x (p - f).toNat f = true ∧ allF s x (p - f).toNat f = true ∧ wrs s x (p - f).toNat f w = w := by
  rw [show (p - f).toNat = 0 by omega]
  exact ⟨rfl, rfl, rfl⟩
noncomputable def ctWo : CTab T := [(101, cLat)]
theorem ctWo_ok : CTabOk Try.prog E ctWo := .cons lat_ok .nil
noncomputable def oWo (o : Int) (a : Int) (b : Int) (f : Int) (s0 : Int) (s1 : Int) (s2 : Int) (s3 : Int) (s4 : Int) (s5 : Int) (s6 : Int) (s7 : Int) (k0 : Int) (k1 : Int) : Tree (Ex × List (V T)) := .req ((sErr (Sensor.mk s0 s1 s2 s3 s4 s5 s6 s7) = 0 ∧ okK (Kick.mk k0 k1)) ∧ 0 ≤ f ∧ f ≤ s1) (.br (allG (Sensor.mk s0 s1 s2 s3 s4 s5 s6 s7) (Kick.mk k0 k1) (s1 - f).toNat f) (.leaf (.exit 0, [.n (wrs (Sensor.mk s0 s1 s2 s3 s4 s5 s6 s7) (Kick.mk k0 k1) (s1 - f).toNat f ⟨o, a, b⟩).t, .n (wrs (Sensor.mk s0 s1 s2 s3 s4 s5 s6 s7) (Kick.mk k0 k1) (s1 - f).toNat f ⟨o, a, b⟩).p, .n (wrs (Sensor.mk s0 s1 s2 s3 s4 s5 s6 s7) (Kick.mk k0 k1) (s1 - f).toNat f ⟨o, a, b⟩).f])) (.leaf (.ret, [.n 0, .n 0, .n 0, .t false])))
noncomputable def cWo : LoopC T := ⟨[.n, .n, .n, .n, .n, .n, .n, .n, .n, .n, .n, .n, .n, .n], ⟨40, [(2, .one (.o 0 0)), (3, .one (.o 1 0)), (8, .one (.i .i64)), (9, .one (.i .i64)), (10, .one (.i .i64)), (11, .one (.i .i64))], [.c [.i .i64, .i .i64, .i .i64, .i .i64, .i .i64, .i .i64, .i .i64, .i .i64], .c [.i .i64, .i .i64]]⟩, fun e => match e with
    | .ret => ⟨40, [(4, .one (.i .i64)), (5, .one (.i .i64)), (6, .one (.i .i64)), (7, .one .b)], []⟩
    | _ => ⟨40, [(8, .one (.i .i64)), (9, .one (.i .i64)), (10, .one (.i .i64))], []⟩, 30, fun d => oWo d.1 d.2.1 d.2.2.1 d.2.2.2.1 d.2.2.2.2.1 d.2.2.2.2.2.1 d.2.2.2.2.2.2.1 d.2.2.2.2.2.2.2.1 d.2.2.2.2.2.2.2.2.1 d.2.2.2.2.2.2.2.2.2.1 d.2.2.2.2.2.2.2.2.2.2.1 d.2.2.2.2.2.2.2.2.2.2.2.1 d.2.2.2.2.2.2.2.2.2.2.2.2.1 d.2.2.2.2.2.2.2.2.2.2.2.2.2.1⟩
theorem bWo (o : Int) (a : Int) (b : Int) (f : Int) (s0 : Int) (s1 : Int) (s2 : Int) (s3 : Int) (s4 : Int) (s5 : Int) (s6 : Int) (s7 : Int) (k0 : Int) (k1 : Int) : bodyD Try.prog E cWo 0 (bodyX Try.prog E ctWo noLoops 1000 5 L0 (lpOf Try.prog 87 0)) (o, a, b, f, s0, s1, s2, s3, s4, s5, s6, s7, k0, k1, ()) =
  (.br (decide (f < s1))
   (.req (okP (Sensor.mk s0 s1 s2 s3 s4 s5 s6 s7) (Kick.mk k0 k1) f)
   (.br (!laB (Sensor.mk s0 s1 s2 s3 s4 s5 s6 s7) (Kick.mk k0 k1) f)
    (.leaf (.inr (.ret, [.n ((0 : Int)), .n ((0 : Int)), .n ((0 : Int)), .t (false)])))
    (.br (decide (tk (Sensor.mk s0 s1 s2 s3 s4 s5 s6 s7) f (faV (Sensor.mk s0 s1 s2 s3 s4 s5 s6 s7) (Kick.mk k0 k1) f) > o))
     (.leaf (.inl (tk (Sensor.mk s0 s1 s2 s3 s4 s5 s6 s7) f (faV (Sensor.mk s0 s1 s2 s3 s4 s5 s6 s7) (Kick.mk k0 k1) f), (f, (faV (Sensor.mk s0 s1 s2 s3 s4 s5 s6 s7) (Kick.mk k0 k1) f, (IntKind.wrap IntKind.i64 (f + (1 : Int)), (s0, (s1, (s2, (s3, (s4, (s5, (s6, (s7, (k0, (k1, ()))))))))))))))))
     (.leaf (.inl (o, (a, (b, (IntKind.wrap IntKind.i64 (f + (1 : Int)), (s0, (s1, (s2, (s3, (s4, (s5, (s6, (s7, (k0, (k1, ())))))))))))))))))))
   (.leaf (.inr (.exit (0 : Nat), [.n (o), .n (a), .n (b)])))) := by kernel_rfl
theorem nWo (o : Int) (a : Int) (b : Int) (f : Int) (s0 : Int) (s1 : Int) (s2 : Int) (s3 : Int) (s4 : Int) (s5 : Int) (s6 : Int) (s7 : Int) (k0 : Int) (k1 : Int) (K : Ex × List (V T) → Prop) (hI : (sErr (Sensor.mk s0 s1 s2 s3 s4 s5 s6 s7) = 0 ∧ okK (Kick.mk k0 k1)) ∧ 0 ≤ f ∧ f ≤ s1) (hK : (.br (allG (Sensor.mk s0 s1 s2 s3 s4 s5 s6 s7) (Kick.mk k0 k1) (s1 - f).toNat f) (.leaf (.exit 0, [.n (wrs (Sensor.mk s0 s1 s2 s3 s4 s5 s6 s7) (Kick.mk k0 k1) (s1 - f).toNat f ⟨o, a, b⟩).t, .n (wrs (Sensor.mk s0 s1 s2 s3 s4 s5 s6 s7) (Kick.mk k0 k1) (s1 - f).toNat f ⟨o, a, b⟩).p, .n (wrs (Sensor.mk s0 s1 s2 s3 s4 s5 s6 s7) (Kick.mk k0 k1) (s1 - f).toNat f ⟨o, a, b⟩).f])) (.leaf (.ret, [.n 0, .n 0, .n 0, .t false])) : Tree (Ex × List (V T))).holds K) : (cWo.out (o, a, b, f, s0, s1, s2, s3, s4, s5, s6, s7, k0, k1, ())).holds K := ⟨hI, hK⟩
theorem hWo' (o : Int) (a : Int) (b : Int) (f : Int) (s0 : Int) (s1 : Int) (s2 : Int) (s3 : Int) (s4 : Int) (s5 : Int) (s6 : Int) (s7 : Int) (k0 : Int) (k1 : Int) (K : Ex × List (V T) → Prop) (hI : (sErr (Sensor.mk s0 s1 s2 s3 s4 s5 s6 s7) = 0 ∧ okK (Kick.mk k0 k1)) ∧ 0 ≤ f ∧ f ≤ s1) (hK : (.br (allG (Sensor.mk s0 s1 s2 s3 s4 s5 s6 s7) (Kick.mk k0 k1) (s1 - f).toNat f) (.leaf (.exit 0, [.n (wrs (Sensor.mk s0 s1 s2 s3 s4 s5 s6 s7) (Kick.mk k0 k1) (s1 - f).toNat f ⟨o, a, b⟩).t, .n (wrs (Sensor.mk s0 s1 s2 s3 s4 s5 s6 s7) (Kick.mk k0 k1) (s1 - f).toNat f ⟨o, a, b⟩).p, .n (wrs (Sensor.mk s0 s1 s2 s3 s4 s5 s6 s7) (Kick.mk k0 k1) (s1 - f).toNat f ⟨o, a, b⟩).f])) (.leaf (.ret, [.n 0, .n 0, .n 0, .t false])) : Tree (Ex × List (V T))).holds K) :
    (bodyD Try.prog E cWo 0 (bodyX Try.prog E ctWo noLoops 1000 5 L0 (lpOf Try.prog 87 0)) (o, a, b, f, s0, s1, s2, s3, s4, s5, s6, s7, k0, k1, ())).holds fun y => match y with
    | .inl d => (d.2.2.2.2.2.1 - d.2.2.2.1).toNat < (s1 - f).toNat ∧ (cWo.out d).holds K
    | .inr y => K y := by
  rw [bWo]
  obtain ⟨hv, h0, h1⟩ := hI
  have q1 : 1 ≤ s1 ∧ s1 ≤ 60 := (sErr_zero.1 hv.1).2.1
  have e1 : IntKind.wrap IntKind.i64 (f + 1) = f + 1 := i64_in' (by omega) (by omega)
  rw [e1]
  refine way (fun c => ?_) fun c => ?_
  · rw [allG_step c, wrs_step c] at hK
    have hlt : (s1 - (f + 1)).toNat < (s1 - f).toNat := by omega
    have hv2 : okP (Sensor.mk s0 s1 s2 s3 s4 s5 s6 s7) (Kick.mk k0 k1) f := ⟨hv, h0, by omega⟩
    refine ⟨hv2, wayB (fun k => ?_) fun k => ?_⟩
    · have k : laB (Sensor.mk s0 s1 s2 s3 s4 s5 s6 s7) (Kick.mk k0 k1) f = false := by
        revert k
        show (!laB (Sensor.mk s0 s1 s2 s3 s4 s5 s6 s7) (Kick.mk k0 k1) f) = true → _
        cases laB (Sensor.mk s0 s1 s2 s3 s4 s5 s6 s7) (Kick.mk k0 k1) f <;> simp
      rw [k] at hK
      exact gt_no rfl hK
    · have k : laB (Sensor.mk s0 s1 s2 s3 s4 s5 s6 s7) (Kick.mk k0 k1) f = true := by
        revert k
        show (!laB (Sensor.mk s0 s1 s2 s3 s4 s5 s6 s7) (Kick.mk k0 k1) f) = false → _
        cases laB (Sensor.mk s0 s1 s2 s3 s4 s5 s6 s7) (Kick.mk k0 k1) f <;> simp
      rw [if_pos k] at hK
      have fe : faV (Sensor.mk s0 s1 s2 s3 s4 s5 s6 s7) (Kick.mk k0 k1) f = fA (Sensor.mk s0 s1 s2 s3 s4 s5 s6 s7) (Kick.mk k0 k1) f 0 := by
        unfold laB faB at k
        unfold faV
        rw [if_neg]
        intro c
        rw [decide_eq_true c] at k
        exact absurd k (by simp)
      unfold stp at hK
      refine way (fun k2 => ?_) fun k2 => ?_
      · have k2 : o < tk (Sensor.mk s0 s1 s2 s3 s4 s5 s6 s7) f (faV (Sensor.mk s0 s1 s2 s3 s4 s5 s6 s7) (Kick.mk k0 k1) f) := k2
        rw [fe] at k2
        rw [if_pos k2] at hK
        refine ⟨hlt, nWo _ _ _ _ _ _ _ _ _ _ _ _ _ _ K ⟨hv, by omega, by omega⟩ ?_⟩
        show (Tree.br (allG (Sensor.mk s0 s1 s2 s3 s4 s5 s6 s7) (Kick.mk k0 k1) (s1 - (f + 1)).toNat (f + 1)) (.leaf (.exit 0, [.n (wrs (Sensor.mk s0 s1 s2 s3 s4 s5 s6 s7) (Kick.mk k0 k1) (s1 - (f + 1)).toNat (f + 1) ⟨tk (Sensor.mk s0 s1 s2 s3 s4 s5 s6 s7) f (faV (Sensor.mk s0 s1 s2 s3 s4 s5 s6 s7) (Kick.mk k0 k1) f), f, faV (Sensor.mk s0 s1 s2 s3 s4 s5 s6 s7) (Kick.mk k0 k1) f⟩).t, .n (wrs (Sensor.mk s0 s1 s2 s3 s4 s5 s6 s7) (Kick.mk k0 k1) (s1 - (f + 1)).toNat (f + 1) ⟨tk (Sensor.mk s0 s1 s2 s3 s4 s5 s6 s7) f (faV (Sensor.mk s0 s1 s2 s3 s4 s5 s6 s7) (Kick.mk k0 k1) f), f, faV (Sensor.mk s0 s1 s2 s3 s4 s5 s6 s7) (Kick.mk k0 k1) f⟩).p, .n (wrs (Sensor.mk s0 s1 s2 s3 s4 s5 s6 s7) (Kick.mk k0 k1) (s1 - (f + 1)).toNat (f + 1) ⟨tk (Sensor.mk s0 s1 s2 s3 s4 s5 s6 s7) f (faV (Sensor.mk s0 s1 s2 s3 s4 s5 s6 s7) (Kick.mk k0 k1) f), f, faV (Sensor.mk s0 s1 s2 s3 s4 s5 s6 s7) (Kick.mk k0 k1) f⟩).f])) (.leaf (.ret, [.n 0, .n 0, .n 0, .t false])) : Tree (Ex × List (V T))).holds K
        rw [fe]
        exact hK
      · have k2 : ¬ o < tk (Sensor.mk s0 s1 s2 s3 s4 s5 s6 s7) f (faV (Sensor.mk s0 s1 s2 s3 s4 s5 s6 s7) (Kick.mk k0 k1) f) := k2
        rw [fe] at k2
        rw [if_neg k2] at hK
        exact ⟨hlt, nWo _ _ _ _ _ _ _ _ _ _ _ _ _ _ K ⟨hv, by omega, by omega⟩ hK⟩
  · have e := end_0 (s := (Sensor.mk s0 s1 s2 s3 s4 s5 s6 s7)) (x := (Kick.mk k0 k1)) (w := ⟨o, a, b⟩) c
    rw [e.1, e.2.2] at hK
    exact gt_yes rfl hK
theorem hWo : LoopH Try.prog E cWo 0 (bodyX Try.prog E ctWo noLoops 1000 5 L0 (lpOf Try.prog 87 0)) :=
  ⟨fun d => (d.2.2.2.2.2.1 - d.2.2.2.1).toNat, fun dd K hK => by
    obtain ⟨o, a, b, f, s0, s1, s2, s3, s4, s5, s6, s7, k0, k1, ⟨⟩⟩ := dd
    obtain ⟨hI, hK⟩ := hK
    refine Tree.holds_mono (fun y hy => ?_) (hWo' o a b f s0 s1 s2 s3 s4 s5 s6 s7 k0 k1 K hI hK)
    cases y with
    | inl d' => exact hy
    | inr y => exact hy⟩
theorem llWo : LLOk Try.prog E (llOfN Try.prog E 87 0 [(3, cWo)]) := llOfN_ok fun i hi c hc => by
  have hi : i < 1 := hi
  obtain rfl : i = 0 := by omega
  obtain rfl : cWo = c := Option.some.inj hc
  exact LSndN.mk good names mixes ctWo_ok (by decide) hWo
noncomputable def woR (s : Sensor) (x : Kick) : Lt := if fnd s x = true then wst s x else ⟨0, 0, 0⟩
theorem tvWo (s : Sensor) (x : Kick) : runX ctWo (llOfN Try.prog E 87 0 [(3, cWo)]) 87 [s.av, x.av] [2, 2, 2, 4] =
  (.req ((sErr (Sensor.mk (Sensor.Channel s) (Sensor.Period s) (Sensor.Delay s) (Sensor.Noise s) (Sensor.Step s) (Sensor.Lost s) (Sensor.Limit s) (Sensor.Hold s)) = (0 : Int) ∧ okK (Kick.mk (Kick.Rate x) (Kick.Grow x))) ∧ (0 : Int) ≤ (0 : Int) ∧ (0 : Int) ≤ Sensor.Period s)
  (.br (allG (Sensor.mk (Sensor.Channel s) (Sensor.Period s) (Sensor.Delay s) (Sensor.Noise s) (Sensor.Step s) (Sensor.Lost s) (Sensor.Limit s) (Sensor.Hold s)) (Kick.mk (Kick.Rate x) (Kick.Grow x)) (Int.toNat (Sensor.Period s - (0 : Int))) (0 : Int))
   (.leaf (.tup [.sym .i64 (Lt.t (wrs (Sensor.mk (Sensor.Channel s) (Sensor.Period s) (Sensor.Delay s) (Sensor.Noise s) (Sensor.Step s) (Sensor.Lost s) (Sensor.Limit s) (Sensor.Hold s)) (Kick.mk (Kick.Rate x) (Kick.Grow x)) (Int.toNat (Sensor.Period s - (0 : Int))) (0 : Int) (Lt.mk (-1 : Int) (0 : Int) (0 : Int)))), .sym .i64 (Lt.p (wrs (Sensor.mk (Sensor.Channel s) (Sensor.Period s) (Sensor.Delay s) (Sensor.Noise s) (Sensor.Step s) (Sensor.Lost s) (Sensor.Limit s) (Sensor.Hold s)) (Kick.mk (Kick.Rate x) (Kick.Grow x)) (Int.toNat (Sensor.Period s - (0 : Int))) (0 : Int) (Lt.mk (-1 : Int) (0 : Int) (0 : Int)))), .sym .i64 (Lt.f (wrs (Sensor.mk (Sensor.Channel s) (Sensor.Period s) (Sensor.Delay s) (Sensor.Noise s) (Sensor.Step s) (Sensor.Lost s) (Sensor.Limit s) (Sensor.Hold s)) (Kick.mk (Kick.Rate x) (Kick.Grow x)) (Int.toNat (Sensor.Period s - (0 : Int))) (0 : Int) (Lt.mk (-1 : Int) (0 : Int) (0 : Int)))), .bool (true)]))
   (.leaf (.tup [.sym .i64 ((0 : Int)), .sym .i64 ((0 : Int)), .sym .i64 ((0 : Int)), .bool (false)])))) := by kernel_rfl
theorem s87 (s : Sensor) (x : Kick) (h : sErr s = 0 ∧ okK x) : (runX ctWo (llOfN Try.prog E 87 0 [(3, cWo)]) 87 [s.av, x.av] [2, 2, 2, 4]).holds fun v => v = .tup [i64 (woR s x).t, i64 (woR s x).p, i64 (woR s x).f, .bool (fnd s x)] := by
  rw [tvWo]
  have q1 : 1 ≤ s.Period ∧ s.Period ≤ 60 := (sErr_zero.1 h.1).2.1
  refine ⟨⟨h, by decide, by show 0 ≤ s.Period; omega⟩, ?_⟩
  have e : fnd s x = allG s x (s.Period - 0).toNat 0 := by unfold fnd; rw [Int.sub_zero]
  refine wayB (fun c => ?_) fun c => ?_
  · have c : allG s x (s.Period - 0).toNat 0 = true := c
    unfold woR
    rw [e, c, if_pos rfl]
    unfold wst
    rw [show s.Period.toNat = (s.Period - 0).toNat by rw [Int.sub_zero]]
    rfl
  · have c : allG s x (s.Period - 0).toNat 0 = false := c
    unfold woR
    rw [e, c, if_neg (by decide)]
    rfl
noncomputable def cWor : Con T := conP Try.prog [shSe, shK] [.n, .n, .n, .n, .n, .n, .n, .n, .n, .n] (fun d => sErr ⟨d.1, d.2.1, d.2.2.1, d.2.2.2.1, d.2.2.2.2.1, d.2.2.2.2.2.1, d.2.2.2.2.2.2.1, d.2.2.2.2.2.2.2.1⟩ = 0 ∧ okK ⟨d.2.2.2.2.2.2.2.2.1, d.2.2.2.2.2.2.2.2.2.1⟩) fun d => .tup [i64 (woR ⟨d.1, d.2.1, d.2.2.1, d.2.2.2.1, d.2.2.2.2.1, d.2.2.2.2.2.1, d.2.2.2.2.2.2.1, d.2.2.2.2.2.2.2.1⟩ ⟨d.2.2.2.2.2.2.2.2.1, d.2.2.2.2.2.2.2.2.2.1⟩).t, i64 (woR ⟨d.1, d.2.1, d.2.2.1, d.2.2.2.1, d.2.2.2.2.1, d.2.2.2.2.2.1, d.2.2.2.2.2.2.1, d.2.2.2.2.2.2.2.1⟩ ⟨d.2.2.2.2.2.2.2.2.1, d.2.2.2.2.2.2.2.2.2.1⟩).p, i64 (woR ⟨d.1, d.2.1, d.2.2.1, d.2.2.2.1, d.2.2.2.2.1, d.2.2.2.2.2.1, d.2.2.2.2.2.2.1, d.2.2.2.2.2.2.2.1⟩ ⟨d.2.2.2.2.2.2.2.2.1, d.2.2.2.2.2.2.2.2.2.1⟩).f, .bool (fnd ⟨d.1, d.2.1, d.2.2.1, d.2.2.2.1, d.2.2.2.2.1, d.2.2.2.2.2.1, d.2.2.2.2.2.2.1, d.2.2.2.2.2.2.2.1⟩ ⟨d.2.2.2.2.2.2.2.2.1, d.2.2.2.2.2.2.2.2.2.1⟩)]
theorem wor_ok : ConOk Try.prog E 87 cWor := conP_ok fun d hd => fact_run ctWo_ok llWo (ts := [2, 2, 2, 4]) rfl (s87 _ _ hd)
end Go.Proofs.Ytdclipcjlimdoaa.W
