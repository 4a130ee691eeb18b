/- The latest alarms of sensors: of one sensor, and of many. No condition. -/
import Derived.Test.YtdclipcjlimdoaaQ4
import Derived.Test.YtdclipcjlimdoaaCz11
set_option linter.unusedVariables false
set_option maxRecDepth 100000
set_option maxHeartbeats 4000000
noncomputable section
namespace Go.Proofs.Ytdclipcjlimdoaa.W
open Go Go.Cx Go.RowKit
noncomputable def runN (ct : CTab T) (ll : Nat → Nat → LoopTab T) (fl : List Nat) (f : Nat) (xs : List (AV T)) (ts : List Nat) : Tree (AV T) := resN Try.prog fl ts (callX Try.prog E ct ll 1000 8 (.fn f) xs hp0)
theorem factN_run {ct : CTab T} (hc : CTabOk Try.prog E ct) {ll : Nat → Nat → LoopTab T} (hl : LLOk Try.prog E ll) {fl : List Nat} (hfl : ∀ τ, memN τ fl = true → ∀ x : T τ, (E.enc τ x).all ind0 = true) {f : Nat} {xs : List (AV T)} {ts : List Nat} {v : AV T} (ha : xs.all flt2 = true)
    (h : (runN ct ll fl f xs ts).holds fun x => x = v) : FactN Try.prog E f xs v :=
  factN_of_run good hfl (callX_ok good names mixes hc hl 8) ha h
theorem flN : ∀ τ, memN τ [] = true → ∀ x : T τ, (E.enc τ x).all ind0 = true := fun τ h => by cases h
noncomputable def se (l : List Sensor) (i : Int) : Sensor := ixD E 29 l i
theorem drop_seI {l : List Sensor} {i : Int} (h0 : 0 ≤ i) (h : i < l.length) : l.drop i.toNat = se l i :: l.drop (i + 1).toNat := by
  have := drop_ix (E := E) (τ := 29) (l := l) (i := i.toNat) (by show i.toNat < (l : List Sensor).length; omega)
  rw [Int.toNat_of_nonneg h0] at this
  rw [show (i + 1).toNat = i.toNat + 1 by omega]
  exact this
noncomputable def fdR (s : Sensor) (x : Kick) : Lt := if allF s x s.Period.toNat 0 = true then wst s x else ⟨0, 0, 0⟩
theorem fnd_eq (s : Sensor) (x : Kick) : fnd s x = (allF s x s.Period.toNat 0 && decide ((wst s x).t ≤ 10000)) := allG_eq s x s.Period.toNat 0 w0 (by decide)
theorem s86G (s : Sensor) (x : Kick) (h : sErr s = 0 ∧ okK x) (c : s.Channel = 1) : (runX ctIn (llOfN Try.prog E 86 0 [(4, cOG), (7, cIG)]) 86 [s.av, x.av] [119, 4]).holds fun v => v = .tup [.agg [i64 (fdR s x).t, i64 (fdR s x).p, i64 (fdR s x).f], .bool (fnd s x)] := by
  rw [tfG]
  have q1 : 1 ≤ s.Period ∧ s.Period ≤ 60 := (sErr_zero.1 h.1).2.1
  rw [fnd_eq]
  have main : (Tree.br (allF s x (s.Period - 0).toNat 0) (.leaf (.tup [.agg [i64 (wrs s x (s.Period - 0).toNat 0 w0).t, i64 (wrs s x (s.Period - 0).toNat 0 w0).p, i64 (wrs s x (s.Period - 0).toNat 0 w0).f], .bool (decide ((wrs s x (s.Period - 0).toNat 0 w0).t ≤ 10000))])) (.leaf (.tup [.agg [i64 0, i64 0, i64 0], .bool false])) : Tree (AV T)).holds fun v => v = .tup [.agg [i64 (fdR s x).t, i64 (fdR s x).p, i64 (fdR s x).f], .bool (allF s x s.Period.toNat 0 && decide ((wst s x).t ≤ 10000))] := by
    rw [Int.sub_zero]
    unfold fdR
    refine wayB (fun k => ?_) fun k => ?_
    · rw [k, if_pos rfl]; rfl
    · rw [k, if_neg (by decide)]; rfl
  refine wayEq (fun _ => ⟨⟨⟨⟨h, c⟩, rfl⟩, by decide, by show 0 ≤ s.Period; omega⟩, main⟩) fun k => absurd c k
theorem s86F (s : Sensor) (x : Kick) (h : sErr s = 0 ∧ okK x) (c : s.Channel = 2) : (runX ctIn (llOfN Try.prog E 86 0 [(4, cOF), (7, cIF)]) 86 [s.av, x.av] [119, 4]).holds fun v => v = .tup [.agg [i64 (fdR s x).t, i64 (fdR s x).p, i64 (fdR s x).f], .bool (fnd s x)] := by
  rw [tfF]
  have q1 : 1 ≤ s.Period ∧ s.Period ≤ 60 := (sErr_zero.1 h.1).2.1
  rw [fnd_eq]
  have main : (Tree.br (allF s x (s.Period - 0).toNat 0) (.leaf (.tup [.agg [i64 (wrs s x (s.Period - 0).toNat 0 w0).t, i64 (wrs s x (s.Period - 0).toNat 0 w0).p, i64 (wrs s x (s.Period - 0).toNat 0 w0).f], .bool (decide ((wrs s x (s.Period - 0).toNat 0 w0).t ≤ 10000))])) (.leaf (.tup [.agg [i64 0, i64 0, i64 0], .bool false])) : Tree (AV T)).holds fun v => v = .tup [.agg [i64 (fdR s x).t, i64 (fdR s x).p, i64 (fdR s x).f], .bool (allF s x s.Period.toNat 0 && decide ((wst s x).t ≤ 10000))] := by
    rw [Int.sub_zero]
    unfold fdR
    refine wayB (fun k => ?_) fun k => ?_
    · rw [k, if_pos rfl]; rfl
    · rw [k, if_neg (by decide)]; rfl
  refine wayEq (fun k => absurd c (by rw [k]; decide)) fun _ => ⟨⟨⟨⟨h, c⟩, rfl⟩, by decide, by show 0 ≤ s.Period; omega⟩, main⟩
noncomputable def cFnd : Con T := conP Try.prog [shSe, shK] [.n, .n, .n, .n, .n, .n, .n, .n, .n, .n] (fun d => sErr ⟨d.1, d.2.1, d.2.2.1, d.2.2.2.1, d.2.2.2.2.1, d.2.2.2.2.2.1, d.2.2.2.2.2.2.1, d.2.2.2.2.2.2.2.1⟩ = 0 ∧ okK ⟨d.2.2.2.2.2.2.2.2.1, d.2.2.2.2.2.2.2.2.2.1⟩) fun d => .tup [.agg [i64 (fdR ⟨d.1, d.2.1, d.2.2.1, d.2.2.2.1, d.2.2.2.2.1, d.2.2.2.2.2.1, d.2.2.2.2.2.2.1, d.2.2.2.2.2.2.2.1⟩ ⟨d.2.2.2.2.2.2.2.2.1, d.2.2.2.2.2.2.2.2.2.1⟩).t, i64 (fdR ⟨d.1, d.2.1, d.2.2.1, d.2.2.2.1, d.2.2.2.2.1, d.2.2.2.2.2.1, d.2.2.2.2.2.2.1, d.2.2.2.2.2.2.2.1⟩ ⟨d.2.2.2.2.2.2.2.2.1, d.2.2.2.2.2.2.2.2.2.1⟩).p, i64 (fdR ⟨d.1, d.2.1, d.2.2.1, d.2.2.2.1, d.2.2.2.2.1, d.2.2.2.2.2.1, d.2.2.2.2.2.2.1, d.2.2.2.2.2.2.2.1⟩ ⟨d.2.2.2.2.2.2.2.2.1, d.2.2.2.2.2.2.2.2.2.1⟩).f], .bool (fnd ⟨d.1, d.2.1, d.2.2.1, d.2.2.2.1, d.2.2.2.2.1, d.2.2.2.2.2.1, d.2.2.2.2.2.2.1, d.2.2.2.2.2.2.2.1⟩ ⟨d.2.2.2.2.2.2.2.2.1, d.2.2.2.2.2.2.2.2.2.1⟩)]
theorem fnd_ok : ConOk Try.prog E 86 cFnd := conP_ok fun d hd => by
  rcases (sErr_zero.1 hd.1).1 with c | c
  · exact fact_run ctIn_ok llG (ts := [119, 4]) rfl (s86G ⟨d.1, d.2.1, d.2.2.1, d.2.2.2.1, d.2.2.2.2.1, d.2.2.2.2.2.1, d.2.2.2.2.2.2.1, d.2.2.2.2.2.2.2.1⟩ ⟨d.2.2.2.2.2.2.2.2.1, d.2.2.2.2.2.2.2.2.2.1⟩ hd c)
  · exact fact_run ctIn_ok llF (ts := [119, 4]) rfl (s86F ⟨d.1, d.2.1, d.2.2.1, d.2.2.2.1, d.2.2.2.2.1, d.2.2.2.2.2.1, d.2.2.2.2.2.2.1, d.2.2.2.2.2.2.2.1⟩ ⟨d.2.2.2.2.2.2.2.2.1, d.2.2.2.2.2.2.2.2.2.1⟩ hd c)
noncomputable def ctLt : CTab T := [(86, cFnd), (87, cWor), (18, cKick), (19, cKick), (22, cSensor), (23, cSensor)]
theorem ctLt_ok : CTabOk Try.prog E ctLt := .cons fnd_ok (.cons wor_ok (.cons kick_ok (.cons kick2_ok (.cons sensor_ok (.cons sensor2_ok .nil)))))
theorem tv47 (s : Sensor) (x : Kick) : runX ctLt noLoops 47 [s.av, x.av] [2, 4] =
  (.br (sErr (sens (Sensor.Channel s, Sensor.Period s, Sensor.Delay s, Sensor.Noise s, Sensor.Step s, Sensor.Lost s, Sensor.Limit s, Sensor.Hold s, ())) == (0 : Int))
   (.br (!kErr (Kick.mk (Kick.Rate x) (Kick.Grow x)) == (0 : Int))
    (.leaf (.tup [.sym .i64 ((0 : Int)), .bool (false)]))
    (.req (sErr (Sensor.mk (Sensor.Channel s) (Sensor.Period s) (Sensor.Delay s) (Sensor.Noise s) (Sensor.Step s) (Sensor.Lost s) (Sensor.Limit s) (Sensor.Hold s)) = (0 : Int) ∧ okK (Kick.mk (Kick.Rate x) (Kick.Grow x)))
    (.br (!fnd (Sensor.mk (Sensor.Channel s) (Sensor.Period s) (Sensor.Delay s) (Sensor.Noise s) (Sensor.Step s) (Sensor.Lost s) (Sensor.Limit s) (Sensor.Hold s)) (Kick.mk (Kick.Rate x) (Kick.Grow x)))
     (.leaf (.tup [.sym .i64 ((0 : Int)), .bool (false)]))
     (.leaf (.tup [.sym .i64 (Lt.t (fdR (Sensor.mk (Sensor.Channel s) (Sensor.Period s) (Sensor.Delay s) (Sensor.Noise s) (Sensor.Step s) (Sensor.Lost s) (Sensor.Limit s) (Sensor.Hold s)) (Kick.mk (Kick.Rate x) (Kick.Grow x)))), .bool (true)])))))
   (.leaf (.tup [.sym .i64 ((0 : Int)), .bool (false)]))) := by kernel_rfl
theorem tv48 (s : Sensor) (x : Kick) : runX ctLt noLoops 48 [s.av, x.av] [2, 4] =
  (.br (sErr (sens (Sensor.Channel s, Sensor.Period s, Sensor.Delay s, Sensor.Noise s, Sensor.Step s, Sensor.Lost s, Sensor.Limit s, Sensor.Hold s, ())) != (0 : Int))
   (.leaf (.tup [.sym .i64 ((0 : Int)), .bool (false)]))
   (.br (kErr (Kick.mk (Kick.Rate x) (Kick.Grow x)) != (0 : Int))
    (.leaf (.tup [.sym .i64 ((0 : Int)), .bool (false)]))
    (.req (sErr (Sensor.mk (Sensor.Channel s) (Sensor.Period s) (Sensor.Delay s) (Sensor.Noise s) (Sensor.Step s) (Sensor.Lost s) (Sensor.Limit s) (Sensor.Hold s)) = (0 : Int) ∧ okK (Kick.mk (Kick.Rate x) (Kick.Grow x)))
    (.leaf (.tup [.sym .i64 (Lt.t (woR (Sensor.mk (Sensor.Channel s) (Sensor.Period s) (Sensor.Delay s) (Sensor.Noise s) (Sensor.Step s) (Sensor.Lost s) (Sensor.Limit s) (Sensor.Hold s)) (Kick.mk (Kick.Rate x) (Kick.Grow x)))), .bool (fnd (Sensor.mk (Sensor.Channel s) (Sensor.Period s) (Sensor.Delay s) (Sensor.Noise s) (Sensor.Step s) (Sensor.Lost s) (Sensor.Limit s) (Sensor.Hold s)) (Kick.mk (Kick.Rate x) (Kick.Grow x)))]))))) := by kernel_rfl
theorem lt_nn {s : Sensor} {x : Kick} (h : ltB s x = true) : 0 ≤ ltT s x ∧ ltT s x ≤ 10000 := by
  unfold ltT
  rw [if_pos h]
  unfold ltB at h
  by_cases o : okB s x
  · rw [if_pos o] at h
    have q1 : 1 ≤ s.Period ∧ s.Period ≤ 60 := (sErr_zero.1 o.1).2.1
    have hi : (wst s x).t ≤ 10000 := by
      rw [fnd_eq, Bool.and_eq_true] at h
      exact of_decide_eq_true h.2
    refine ⟨?_, hi⟩
    unfold fnd at h
    obtain ⟨k, hk⟩ : ∃ k : Nat, s.Period.toNat = k + 1 := ⟨s.Period.toNat - 1, by omega⟩
    unfold wst
    rw [hk] at h ⊢
    have h : (if fA s x 0 0 = -1 ∨ 10000 < tk s 0 (fA s x 0 0) then false else allG s x k (0 + 1)) = true := h
    by_cases c : fA s x 0 0 = -1 ∨ 10000 < tk s 0 (fA s x 0 0)
    · rw [if_pos c] at h; cases h
    · have g := wrs_ge s x k (0 + 1) (stp s x 0 w0)
      have hf : 0 ≤ fA s x 0 0 ∧ fA s x 0 0 ≤ 10000 := by
        rcases fA_bd (s := s) (x := x) (ph := 0) 0 (by omega) with e | ⟨e1, e2, _⟩
        · exact absurd (.inl e) c
        · have := Int.mul_le_mul_of_nonneg_left q1.1 e1
          omega
      have t := (tk_in (s := s) (ph := 0) (a := fA s x 0 0) o.1 (by decide) hf).2
      have e : (stp s x 0 w0).t = tk s 0 (fA s x 0 0) := by
        unfold stp
        rw [if_pos (show w0.t < _ by show (-1 : Int) < _; omega)]
      show 0 ≤ (wrs s x k (0 + 1) (stp s x 0 w0)).t
      omega
  · rw [if_neg o] at h; cases h
theorem late_b {s : Sensor} {x : Kick} (h : okB s x) : ltB s x = fnd s x := if_pos h
theorem late_no {s : Sensor} {x : Kick} (h : ¬ okB s x) : (AV.tup [i64 0, .bool false] : AV T) = .tup [i64 (ltT s x), .bool (ltB s x)] := by
  have e : ltB s x = false := if_neg h
  unfold ltT
  rw [e, if_neg (by decide)]
theorem s47 (s : Sensor) (x : Kick) : (runX ctLt noLoops 47 [s.av, x.av] [2, 4]).holds fun v => v = .tup [i64 (ltT s x), .bool (ltB s x)] := by
  rw [tv47]
  refine wayEq (fun h => wayNEq (fun k => late_no fun c => k c.2) fun k => ?_) fun h => late_no fun c => h c.1
  have o : okB s x := ⟨h, k⟩
  refine ⟨⟨h, kErr_zero.1 k⟩, ?_⟩
  have m : (Tree.br (!fnd s x) (.leaf (.tup [i64 0, .bool false])) (.leaf (.tup [i64 (fdR s x).t, .bool true])) : Tree (AV T)).holds fun v => v = .tup [i64 (ltT s x), .bool (ltB s x)] := by
    unfold ltT
    rw [late_b o]
    cases e : fnd s x with
    | false => exact ⟨fun _ => rfl, fun h => by cases h⟩
    | true =>
      refine ⟨fun h => (by cases h), fun _ => ?_⟩
      rw [if_pos rfl]
      rw [fnd_eq, Bool.and_eq_true] at e
      show _ = _
      unfold fdR
      rw [if_pos e.1]
  exact m
theorem s48 (s : Sensor) (x : Kick) : (runX ctLt noLoops 48 [s.av, x.av] [2, 4]).holds fun v => v = .tup [i64 (ltT s x), .bool (ltB s x)] := by
  rw [tv48]
  refine wayNe (fun h => late_no fun c => h c.1) fun h => wayNe (fun k => late_no fun c => k c.2) fun k => ⟨⟨h, kErr_zero.1 k⟩, ?_⟩
  have o : okB s x := ⟨h, k⟩
  unfold ltT
  rw [late_b o]
  show AV.tup [i64 (woR s x).t, .bool (fnd s x)] = _
  unfold woR
  cases e : fnd s x <;> rfl
noncomputable def cLate : Con T := conV Try.prog [shSe, shK] [.n, .n, .n, .n, .n, .n, .n, .n, .n, .n] fun d => .tup [i64 (ltT ⟨d.1, d.2.1, d.2.2.1, d.2.2.2.1, d.2.2.2.2.1, d.2.2.2.2.2.1, d.2.2.2.2.2.2.1, d.2.2.2.2.2.2.2.1⟩ ⟨d.2.2.2.2.2.2.2.2.1, d.2.2.2.2.2.2.2.2.2.1⟩), .bool (ltB ⟨d.1, d.2.1, d.2.2.1, d.2.2.2.1, d.2.2.2.2.1, d.2.2.2.2.2.1, d.2.2.2.2.2.2.1, d.2.2.2.2.2.2.2.1⟩ ⟨d.2.2.2.2.2.2.2.2.1, d.2.2.2.2.2.2.2.2.2.1⟩)]
theorem late_ok : ConOk Try.prog E 47 cLate := conV_ok fun d => fact_run ctLt_ok noLoops_ok (ts := [2, 4]) rfl (s47 ⟨d.1, d.2.1, d.2.2.1, d.2.2.2.1, d.2.2.2.2.1, d.2.2.2.2.2.1, d.2.2.2.2.2.2.1, d.2.2.2.2.2.2.2.1⟩ ⟨d.2.2.2.2.2.2.2.2.1, d.2.2.2.2.2.2.2.2.2.1⟩)
theorem late2_ok : ConOk Try.prog E 48 cLate := conV_ok fun d => fact_run ctLt_ok noLoops_ok (ts := [2, 4]) rfl (s48 ⟨d.1, d.2.1, d.2.2.1, d.2.2.2.1, d.2.2.2.2.1, d.2.2.2.2.2.1, d.2.2.2.2.2.2.1, d.2.2.2.2.2.2.2.1⟩ ⟨d.2.2.2.2.2.2.2.2.1, d.2.2.2.2.2.2.2.2.2.1⟩)
/-! ### the least of many -/
noncomputable def ctEa : CTab T := [(47, cLate), (48, cLate)]
theorem ctEa_ok : CTabOk Try.prog E ctEa := .cons late_ok (.cons late2_ok .nil)
def tbOk (t : Int) (b : Bool) : Prop := (b = true → 0 ≤ t) ∧ (b = false → t = 0)
noncomputable def pT (o : Int) : Int := if o < 0 then 0 else o
noncomputable def toO (t : Int) (b : Bool) : Int := if b = true then t else -1
theorem mn_step {l : List Sensor} {i : Int} {x : Kick} {o : Int} (h0 : 0 ≤ i) (h : i < l.length) : mnT (l.drop i.toNat) x o = mnT (l.drop (i + 1).toNat) x (if ltB (se l i) x = true ∧ (o < 0 ∨ ltT (se l i) x < o) then ltT (se l i) x else o) := by
  rw [drop_seI h0 h]
  rfl
theorem mn_end {l : List Sensor} {i : Int} {x : Kick} {o : Int} (h : ¬ i < l.length) : mnT (l.drop i.toNat) x o = o := by
  rw [List.drop_eq_nil_of_le (by omega)]
  rfl
noncomputable def oEa (t : Int) (b : Bool) (l : List Sensor) (m : Int) (i : Int) (k0 : Int) (k1 : Int) : Tree (Ex × List (V T)) := .req (((m = l.length ∧ l.length ≤ 1000) ∧ 0 ≤ i) ∧ tbOk t b) (.leaf (.exit 0, [.n (pT (mnT (l.drop i.toNat) (Kick.mk k0 k1) (toO t b))), .t (!decide (mnT (l.drop i.toNat) (Kick.mk k0 k1) (toO t b) < 0))]))
noncomputable def cEa : LoopC T := ⟨[.n, .t, .l 29, .n, .n, .n, .n], ⟨39, [(3, .one (.o 0 0)), (6, .one (.i .i64)), (7, .one .b), (12, .one (.s 29)), (13, .one (.i .i64)), (14, .one (.i .i64))], [.c [.i .i64, .i .i64]]⟩, fun _ => ⟨39, [(6, .one (.i .i64)), (7, .one .b)], []⟩, 30, fun d => oEa d.1 d.2.1 d.2.2.1 d.2.2.2.1 d.2.2.2.2.1 d.2.2.2.2.2.1 d.2.2.2.2.2.2.1⟩
theorem bEa (t : Int) (b : Bool) (l : List Sensor) (m : Int) (i : Int) (k0 : Int) (k1 : Int) : bodyD Try.prog E cEa 0 (bodyX Try.prog E ctEa noLoops 1000 5 L0 (lpOf Try.prog 90 0)) (t, b, l, m, i, k0, k1, ()) =
  (.br (decide (i < m))
   (.req ((decide ((0 : Int) ≤ i) && decide (i < (↑(List.length l) : Int))) = true)
   (.br (ltB (Sensor.mk (Sensor.Channel (se l i)) (Sensor.Period (se l i)) (Sensor.Delay (se l i)) (Sensor.Noise (se l i)) (Sensor.Step (se l i)) (Sensor.Lost (se l i)) (Sensor.Limit (se l i)) (Sensor.Hold (se l i))) (Kick.mk k0 k1))
    (.br (!b)
     (.leaf (.inl (ltT (Sensor.mk (Sensor.Channel (se l i)) (Sensor.Period (se l i)) (Sensor.Delay (se l i)) (Sensor.Noise (se l i)) (Sensor.Step (se l i)) (Sensor.Lost (se l i)) (Sensor.Limit (se l i)) (Sensor.Hold (se l i))) (Kick.mk k0 k1), (true, (l, (m, (IntKind.wrap IntKind.i64 (i + (1 : Int)), (k0, (k1, ())))))))))
     (.br (decide (ltT (Sensor.mk (Sensor.Channel (se l i)) (Sensor.Period (se l i)) (Sensor.Delay (se l i)) (Sensor.Noise (se l i)) (Sensor.Step (se l i)) (Sensor.Lost (se l i)) (Sensor.Limit (se l i)) (Sensor.Hold (se l i))) (Kick.mk k0 k1) < t))
      (.leaf (.inl (ltT (Sensor.mk (Sensor.Channel (se l i)) (Sensor.Period (se l i)) (Sensor.Delay (se l i)) (Sensor.Noise (se l i)) (Sensor.Step (se l i)) (Sensor.Lost (se l i)) (Sensor.Limit (se l i)) (Sensor.Hold (se l i))) (Kick.mk k0 k1), (true, (l, (m, (IntKind.wrap IntKind.i64 (i + (1 : Int)), (k0, (k1, ())))))))))
      (.leaf (.inl (t, (b, (l, (m, (IntKind.wrap IntKind.i64 (i + (1 : Int)), (k0, (k1, ())))))))))))
    (.leaf (.inl (t, (b, (l, (m, (IntKind.wrap IntKind.i64 (i + (1 : Int)), (k0, (k1, ())))))))))))
   (.leaf (.inr (.exit (0 : Nat), [.n (t), .t (b)])))) := by kernel_rfl
theorem nEa (t : Int) (b : Bool) (l : List Sensor) (m : Int) (i : Int) (k0 : Int) (k1 : Int) (K : Ex × List (V T) → Prop) (hI : ((m = l.length ∧ l.length ≤ 1000) ∧ 0 ≤ i) ∧ tbOk t b) (hK : (.leaf (.exit 0, [.n (pT (mnT (l.drop i.toNat) (Kick.mk k0 k1) (toO t b))), .t (!decide (mnT (l.drop i.toNat) (Kick.mk k0 k1) (toO t b) < 0))]) : Tree (Ex × List (V T))).holds K) : (cEa.out (t, b, l, m, i, k0, k1, ())).holds K := ⟨hI, hK⟩
theorem hEa' (t : Int) (b : Bool) (l : List Sensor) (m : Int) (i : Int) (k0 : Int) (k1 : Int) (K : Ex × List (V T) → Prop) (hI : ((m = l.length ∧ l.length ≤ 1000) ∧ 0 ≤ i) ∧ tbOk t b) (hK : (.leaf (.exit 0, [.n (pT (mnT (l.drop i.toNat) (Kick.mk k0 k1) (toO t b))), .t (!decide (mnT (l.drop i.toNat) (Kick.mk k0 k1) (toO t b) < 0))]) : Tree (Ex × List (V T))).holds K) :
    (bodyD Try.prog E cEa 0 (bodyX Try.prog E ctEa noLoops 1000 5 L0 (lpOf Try.prog 90 0)) (t, b, l, m, i, k0, k1, ())).holds fun y => match y with
    | .inl d => ((d.2.2.1.length : Int) - d.2.2.2.2.1).toNat < ((l.length : Int) - i).toNat ∧ (cEa.out d).holds K
    | .inr y => K y := by
  rw [bEa]
  obtain ⟨⟨⟨rfl, hl⟩, h0⟩, hb, hb2⟩ := hI
  refine way (fun c => wayC h0 c fun _ _ => ?_) fun c => ?_
  · rw [mn_step h0 c] at hK
    have e1 : IntKind.wrap IntKind.i64 (i + 1) = i + 1 := i64_in' (by omega) (by omega)
    rw [e1]
    have hlt : ((l.length : Int) - (i + 1)).toNat < ((l.length : Int) - i).toNat := by omega
    have h3 : 0 ≤ i + 1 := by omega
    have yes : ltB (se l i) (Kick.mk k0 k1) = true → (toO t b < 0 ∨ ltT (se l i) (Kick.mk k0 k1) < toO t b) → ((ltT (se l i) (Kick.mk k0 k1), true) : Int × Bool) = (ltT (se l i) (Kick.mk k0 k1), true) → ((l.length : Int) - (i + 1)).toNat < ((l.length : Int) - i).toNat ∧ (cEa.out (ltT (se l i) (Kick.mk k0 k1), true, l, (l.length : Int), i + 1, k0, k1, ())).holds K := fun q1 q2 _ => by
      rw [if_pos ⟨q1, q2⟩] at hK
      exact ⟨hlt, nEa _ _ _ _ _ _ _ K ⟨⟨⟨rfl, hl⟩, h3⟩, fun _ => (lt_nn q1).1, fun h => by cases h⟩ hK⟩
    have no : ¬ (ltB (se l i) (Kick.mk k0 k1) = true ∧ (toO t b < 0 ∨ ltT (se l i) (Kick.mk k0 k1) < toO t b)) → ((l.length : Int) - (i + 1)).toNat < ((l.length : Int) - i).toNat ∧ (cEa.out (t, b, l, (l.length : Int), i + 1, k0, k1, ())).holds K := fun q => by
      rw [if_neg q] at hK
      exact ⟨hlt, nEa _ _ _ _ _ _ _ K ⟨⟨⟨rfl, hl⟩, h3⟩, hb, hb2⟩ hK⟩
    refine wayB (fun q => ?_) fun q => no fun w => by
      have q : ltB (se l i) (Kick.mk k0 k1) = false := q
      rw [q] at w
      exact absurd w.1 (by decide)
    refine wayB (fun k => yes q (.inl ?_) rfl) fun k => way (fun k2 => yes q (.inr ?_) rfl) fun k2 => no fun w => ?_
    · have : b = false := by simpa using k
      rw [this]; show (-1 : Int) < 0; decide
    · have : b = true := by simpa using k
      rw [this]; exact k2
    · have : b = true := by simpa using k
      have := hb this
      subst b
      have w := w.2
      have w : t < 0 ∨ ltT (se l i) (Kick.mk k0 k1) < t := w
      have k2 : ¬ ltT (se l i) (Kick.mk k0 k1) < t := k2
      omega
  · rw [mn_end c] at hK
    cases b with
    | false =>
      have e := hb2 rfl
      subst e
      exact hK
    | true =>
      have e := hb rfl
      have e1 : pT (toO t true) = t := if_neg (show ¬ t < 0 by omega)
      have e2 : (!decide (toO t true < 0)) = true := by
        show (!decide (t < 0)) = true
        rw [decide_eq_false (show ¬ t < 0 by omega)]; rfl
      rw [e1, e2] at hK
      exact hK
theorem hEa : LoopH Try.prog E cEa 0 (bodyX Try.prog E ctEa noLoops 1000 5 L0 (lpOf Try.prog 90 0)) :=
  ⟨fun d => ((d.2.2.1.length : Int) - d.2.2.2.2.1).toNat, fun dd K hK => by
    obtain ⟨t, b, l, m, i, k0, k1, ⟨⟩⟩ := dd
    obtain ⟨hI, hK⟩ := hK
    refine Tree.holds_mono (fun y hy => ?_) (hEa' t b l m i k0 k1 K hI hK)
    cases y with
    | inl d' => exact hy
    | inr y => exact hy⟩
theorem llEa : LLOk Try.prog E (llOfN Try.prog E 90 0 [(3, cEa)]) := llOfN_ok fun i hi c hc => by
  have hi : i < 1 := hi
  obtain rfl : i = 0 := by omega
  obtain rfl : cEa = c := Option.some.inj hc
  exact LSndN.mk good names mixes ctEa_ok (by decide) hEa
noncomputable def oLx (l : List Sensor) (o : Int) (i : Int) (k0 : Int) (k1 : Int) : Tree (Ex × List (V T)) := .req (l.length ≤ 1000 ∧ 0 ≤ i) (.leaf (.exit 0, [.n (mnT (l.drop i.toNat) (Kick.mk k0 k1) o)]))
noncomputable def cLx : LoopC T := ⟨[.l 29, .n, .n, .n, .n], ⟨39, [(0, .one (.s 29)), (3, .one (.o 0 0)), (6, .one (.i .i64)), (7, .one (.i .i64))], [.c [.i .i64, .i .i64]]⟩, fun _ => ⟨39, [(6, .one (.i .i64))], []⟩, 30, fun d => oLx d.1 d.2.1 d.2.2.1 d.2.2.2.1 d.2.2.2.2.1⟩
theorem bLx (l : List Sensor) (o : Int) (i : Int) (k0 : Int) (k1 : Int) : bodyD Try.prog E cLx 0 (bodyX Try.prog E ctEa noLoops 1000 5 L0 (lpOf Try.prog 91 0)) (l, o, i, k0, k1, ()) =
  (.br (decide (i < (↑(List.length l) : Int)))
   (.req ((decide ((0 : Int) ≤ i) && decide (i < (↑(List.length l) : Int))) = true)
   (.br (ltB (Sensor.mk (Sensor.Channel (se l i)) (Sensor.Period (se l i)) (Sensor.Delay (se l i)) (Sensor.Noise (se l i)) (Sensor.Step (se l i)) (Sensor.Lost (se l i)) (Sensor.Limit (se l i)) (Sensor.Hold (se l i))) (Kick.mk k0 k1))
    (.br (decide (o < (0 : Int)))
     (.leaf (.inl (l, (ltT (Sensor.mk (Sensor.Channel (se l i)) (Sensor.Period (se l i)) (Sensor.Delay (se l i)) (Sensor.Noise (se l i)) (Sensor.Step (se l i)) (Sensor.Lost (se l i)) (Sensor.Limit (se l i)) (Sensor.Hold (se l i))) (Kick.mk k0 k1), (IntKind.wrap IntKind.i64 (i + (1 : Int)), (k0, (k1, ())))))))
     (.br (decide (ltT (Sensor.mk (Sensor.Channel (se l i)) (Sensor.Period (se l i)) (Sensor.Delay (se l i)) (Sensor.Noise (se l i)) (Sensor.Step (se l i)) (Sensor.Lost (se l i)) (Sensor.Limit (se l i)) (Sensor.Hold (se l i))) (Kick.mk k0 k1) < o))
      (.leaf (.inl (l, (ltT (Sensor.mk (Sensor.Channel (se l i)) (Sensor.Period (se l i)) (Sensor.Delay (se l i)) (Sensor.Noise (se l i)) (Sensor.Step (se l i)) (Sensor.Lost (se l i)) (Sensor.Limit (se l i)) (Sensor.Hold (se l i))) (Kick.mk k0 k1), (IntKind.wrap IntKind.i64 (i + (1 : Int)), (k0, (k1, ())))))))
      (.leaf (.inl (l, (o, (IntKind.wrap IntKind.i64 (i + (1 : Int)), (k0, (k1, ())))))))))
    (.leaf (.inl (l, (o, (IntKind.wrap IntKind.i64 (i + (1 : Int)), (k0, (k1, ())))))))))
   (.leaf (.inr (.exit (0 : Nat), [.n (o)])))) := by kernel_rfl
theorem nLx (l : List Sensor) (o : Int) (i : Int) (k0 : Int) (k1 : Int) (K : Ex × List (V T) → Prop) (hI : l.length ≤ 1000 ∧ 0 ≤ i) (hK : (.leaf (.exit 0, [.n (mnT (l.drop i.toNat) (Kick.mk k0 k1) o)]) : Tree (Ex × List (V T))).holds K) : (cLx.out (l, o, i, k0, k1, ())).holds K := ⟨hI, hK⟩
theorem hLx' (l : List Sensor) (o : Int) (i : Int) (k0 : Int) (k1 : Int) (K : Ex × List (V T) → Prop) (hI : l.length ≤ 1000 ∧ 0 ≤ i) (hK : (.leaf (.exit 0, [.n (mnT (l.drop i.toNat) (Kick.mk k0 k1) o)]) : Tree (Ex × List (V T))).holds K) :
    (bodyD Try.prog E cLx 0 (bodyX Try.prog E ctEa noLoops 1000 5 L0 (lpOf Try.prog 91 0)) (l, o, i, k0, k1, ())).holds fun y => match y with
    | .inl d => ((d.1.length : Int) - d.2.2.1).toNat < ((l.length : Int) - i).toNat ∧ (cLx.out d).holds K
    | .inr y => K y := by
  rw [bLx]
  obtain ⟨hl, h0⟩ := hI
  refine way (fun c => wayC h0 c fun _ _ => ?_) fun c => ?_
  · rw [mn_step h0 c] at hK
    have e1 : IntKind.wrap IntKind.i64 (i + 1) = i + 1 := i64_in' (by omega) (by omega)
    rw [e1]
    have hlt : ((l.length : Int) - (i + 1)).toNat < ((l.length : Int) - i).toNat := by omega
    have h3 : 0 ≤ i + 1 := by omega
    have yes : ltB (se l i) (Kick.mk k0 k1) = true → (o < 0 ∨ ltT (se l i) (Kick.mk k0 k1) < o) → ((l.length : Int) - (i + 1)).toNat < ((l.length : Int) - i).toNat ∧ (cLx.out (l, ltT (se l i) (Kick.mk k0 k1), i + 1, k0, k1, ())).holds K := fun q1 q2 => by
      rw [if_pos ⟨q1, q2⟩] at hK
      exact ⟨hlt, nLx _ _ _ _ _ K ⟨hl, h3⟩ hK⟩
    have no : ¬ (ltB (se l i) (Kick.mk k0 k1) = true ∧ (o < 0 ∨ ltT (se l i) (Kick.mk k0 k1) < o)) → ((l.length : Int) - (i + 1)).toNat < ((l.length : Int) - i).toNat ∧ (cLx.out (l, o, i + 1, k0, k1, ())).holds K := fun q => by
      rw [if_neg q] at hK
      exact ⟨hlt, nLx _ _ _ _ _ K ⟨hl, h3⟩ hK⟩
    refine wayB (fun q => way (fun k => yes q (.inl k)) fun k => way (fun k2 => yes q (.inr k2)) fun k2 => no fun w => ?_) fun q => no fun w => by
      have q : ltB (se l i) (Kick.mk k0 k1) = false := q
      rw [q] at w
      exact absurd w.1 (by decide)
    have w := w.2
    have k2 : ¬ ltT (se l i) (Kick.mk k0 k1) < o := k2
    have w : o < 0 ∨ ltT (se l i) (Kick.mk k0 k1) < o := w
    omega
  · rw [mn_end c] at hK
    exact hK
theorem hLx : LoopH Try.prog E cLx 0 (bodyX Try.prog E ctEa noLoops 1000 5 L0 (lpOf Try.prog 91 0)) :=
  ⟨fun d => ((d.1.length : Int) - d.2.2.1).toNat, fun dd K hK => by
    obtain ⟨l, o, i, k0, k1, ⟨⟩⟩ := dd
    obtain ⟨hI, hK⟩ := hK
    refine Tree.holds_mono (fun y hy => ?_) (hLx' l o i k0 k1 K hI hK)
    cases y with
    | inl d' => exact hy
    | inr y => exact hy⟩
theorem llLx : LLOk Try.prog E (llOfN Try.prog E 91 0 [(3, cLx)]) := llOfN_ok fun i hi c hc => by
  have hi : i < 1 := hi
  obtain rfl : i = 0 := by omega
  obtain rfl : cLx = c := Option.some.inj hc
  exact LSndN.mk good names mixes ctEa_ok (by decide) hLx
theorem tvEa (l : List Sensor) (x : Kick) : runX ctEa (llOfN Try.prog E 90 0 [(3, cEa)]) 90 [.sl 29 l false, x.av] [2, 32] =
  (.req ((((↑(List.length l) : Int) = (↑(List.length l) : Int) ∧ List.length l ≤ (1000 : Nat)) ∧ (0 : Int) ≤ (0 : Int)) ∧ tbOk (0 : Int) false)
  (.br (!!decide (mnT (List.drop (Int.toNat (0 : Int)) l) (Kick.mk (Kick.Rate x) (Kick.Grow x)) (toO (0 : Int) false) < (0 : Int)))
   (.leaf (.tup [.sym .i64 ((0 : Int)), .sym .i64 ((13 : Int))]))
   (.leaf (.tup [.sym .i64 (pT (mnT (List.drop (Int.toNat (0 : Int)) l) (Kick.mk (Kick.Rate x) (Kick.Grow x)) (toO (0 : Int) false))), .sym .i64 ((0 : Int))])))) := by kernel_rfl
theorem tvLx (l : List Sensor) (x : Kick) : runX ctEa (llOfN Try.prog E 91 0 [(3, cLx)]) 91 [.sl 29 l false, x.av] [2, 32] =
  (.req (List.length l ≤ (1000 : Nat) ∧ (0 : Int) ≤ (0 : Int))
  (.br (decide (mnT (List.drop (Int.toNat (0 : Int)) l) (Kick.mk (Kick.Rate x) (Kick.Grow x)) (-1 : Int) < (0 : Int)))
   (.leaf (.tup [.sym .i64 ((0 : Int)), .sym .i64 ((13 : Int))]))
   (.leaf (.tup [.sym .i64 (mnT (List.drop (Int.toNat (0 : Int)) l) (Kick.mk (Kick.Rate x) (Kick.Grow x)) (-1 : Int)), .sym .i64 ((0 : Int))])))) := by kernel_rfl
end Go.Proofs.Ytdclipcjlimdoaa.W
