/- KickOrder: a greater kick is never noticed later, nor any one by a better sensor, and the latest alarm of a set is that of its least kick. No condition. -/
import Derived.Test.YtdclipcjlimdoaaQ9
import Derived.Test.YtdclipcjlimdoaaW
import Derived.Test.YtdclipcjlimdoaaLKickOrder
set_option linter.unusedVariables false
set_option maxRecDepth 100000
set_option maxHeartbeats 4000000
noncomputable section
namespace Go.Proofs.Ytdclipcjlimdoaa.W
open Go Go.Cx Go.RowKit
noncomputable def ctQO : CTab T := [(17, cAwake), (33, cKOf), (34, cSOf), (46, cXOf), (47, cLate), (51, cLst), (53, cCau), (28, cGain), (43, cMod)]
theorem ctQO_ok : CTabOk Try.prog E ctQO := .cons awake_ok (.cons kOf_ok (.cons sOf_ok (.cons xOf_ok (.cons late_ok (.cons lst_ok (.cons cau_ok (.cons gain_ok (.cons mod_ok .nil))))))))
noncomputable def restO (s t : Sensor) (lo : Kick) (x : Kicks) : Tree (AV T) :=
  (.br (lsE [s, t] x != (0 : Int))
   (.leaf (.bool (false)))
   (.br (lsT [s, t] x != ltT t lo)
    (.leaf (.bool (false)))
    (.req (True)
    (.br (caE [s, t] lo == (0 : Int))
     (.br (caT [s, t] lo == lsT [s, t] x)
      (.br (caG [s, t] lo == gain lo (lsT [s, t] x))
       (.leaf (.bool (true)))
       (.leaf (.bool (false))))
      (.leaf (.bool (false))))
     (.leaf (.bool (false)))))))
noncomputable def mainO (s t : Sensor) (lo : Kick) (x : Kicks) : Tree (AV T) :=
  (.req (True)
  (.br (!ltB s lo)
   (.br (!ltB t lo)
    (.br (lsE [s, t] x == (13 : Int))
     (.leaf (.bool (true)))
     (.leaf (.bool (false))))
    (restO s t lo x))
   (restO s t lo x)))
noncomputable def tailO (s t : Sensor) (lo : Kick) (x : Kicks) : Tree (AV T) :=
  (.br (ltB s lo)
   (.br (!ltB t lo)
    (.leaf (.bool (false)))
    (.br (decide (ltT t lo > ltT s lo))
     (.leaf (.bool (false)))
     (mainO s t lo x)))
   (mainO s t lo x))
noncomputable def mxI (a b : Int) : Int := if a > b then a else b
noncomputable def casesO (s : Sensor) (lo : Kick) (x : Kicks) (which : Int) : Tree (AV T) :=
  (.req (mPre which (5 : Int))
  (.br (which % (5 : Int) == (0 : Int)) (tailO s ⟨s.Channel, s.Period, s.Delay, s.Noise, s.Step, s.Lost, mxI (IntKind.wrap IntKind.i64 (s.Limit - 100)) 1, s.Hold⟩ lo x)
  (.br (which % (5 : Int) == (1 : Int)) (tailO s ⟨s.Channel, s.Period, s.Delay, s.Noise, s.Step, s.Lost, s.Limit, mxI (IntKind.wrap IntKind.i64 (s.Hold - 1)) 1⟩ lo x)
  (.br (which % (5 : Int) == (2 : Int)) (tailO s ⟨s.Channel, s.Period, s.Delay, s.Noise, s.Step, mxI (IntKind.wrap IntKind.i64 (s.Lost - 1)) 0, s.Limit, s.Hold⟩ lo x)
  (.br (which % (5 : Int) == (3 : Int)) (tailO s ⟨s.Channel, s.Period, mxI (IntKind.wrap IntKind.i64 (s.Delay - 1)) 0, s.Noise, s.Step, s.Lost, s.Limit, s.Hold⟩ lo x)
  (.br (which % (5 : Int) == (4 : Int)) (tailO s ⟨s.Channel, s.Period, s.Delay, mxI (IntKind.wrap IntKind.i64 (s.Noise - 1)) 0, s.Step, s.Lost, s.Limit, s.Hold⟩ lo x)
   (tailO s s lo x)))))))
noncomputable def allO (s : Sensor) (x : Kicks) (which : Int) : Tree (AV T) :=
  (.br (ltB s ⟨x.Rate.Lo, x.Grow.Lo⟩)
   (.br (!ltB s ⟨x.Rate.Hi, x.Grow.Hi⟩)
    (.leaf (.bool (false)))
    (.br (decide (ltT s ⟨x.Rate.Hi, x.Grow.Hi⟩ > ltT s ⟨x.Rate.Lo, x.Grow.Lo⟩))
     (.leaf (.bool (false)))
     (casesO s ⟨x.Rate.Lo, x.Grow.Lo⟩ x which)))
   (casesO s ⟨x.Rate.Lo, x.Grow.Lo⟩ x which))
theorem tQO (nums : List Int) (which : Int) : runX ctQO noLoops 12 [.sl 3 nums false, i64 which] [4] =
  (.req ((0 : Int) ≤ (0 : Int) ∧ (0 : Int) ≤ (900 : Int))
  (.req ((0 : Int) ≤ (0 : Int) + (6 : Int) ∧ (0 : Int) + (6 : Int) ≤ (1000 : Int))
  (allO (sOf nums (0 + 6)) (xOf nums 0) which))) := by kernel_rfl
/-! ### what is better -/
structure Bt (s t : Sensor) (x y : Kick) : Prop where
  vs : sErr s = 0
  vt : sErr t = 0
  kx : okK x
  ky : okK y
  ch : t.Channel = s.Channel
  pe : t.Period = s.Period
  li : t.Limit ≤ s.Limit
  no : t.Noise * t.Step ≤ s.Noise * s.Step
  hl : t.Hold * (t.Lost + 1) ≤ s.Hold * (s.Lost + 1)
  de : t.Delay ≤ s.Delay
  ra : x.Rate ≤ y.Rate
  gr : x.Grow ≤ y.Grow
theorem sy_mono {s t : Sensor} {x y : Kick} (b : Bt s t x y) {m : Int} (h0 : 0 ≤ m) (h1 : m ≤ 20000) : sy s x m ≤ sy t y m := by
  have nn := (bdK b.kx h0 h1).nn
  have a1 := Int.mul_le_mul_of_nonneg_left b.ra h0
  have a2 := Int.mul_le_mul_of_nonneg_left b.gr h0
  have a3 := Int.mul_le_mul_of_nonneg_right b.gr (show 0 ≤ m * (m - 1) / 2 by omega)
  unfold sy
  rw [b.ch]
  unfold gain flow
  rw [if_pos (show okK x ∧ 0 ≤ m ∧ m ≤ 20000 from ⟨b.kx, h0, h1⟩), if_pos (show okK y ∧ 0 ≤ m ∧ m ≤ 20000 from ⟨b.ky, h0, h1⟩), if_pos (show okK x ∧ 0 ≤ m ∧ m ≤ 20000 from ⟨b.kx, h0, h1⟩), if_pos (show okK y ∧ 0 ≤ m ∧ m ≤ 20000 from ⟨b.ky, h0, h1⟩)]
  have := b.ra
  split <;> omega
theorem bt_fA {s t : Sensor} {x y : Kick} (b : Bt s t x y) {ph : Int} (h0 : 0 ≤ ph) (hf : fA s x ph 0 ≠ -1) : fA t y ph 0 ≠ -1 ∧ tk t ph (fA t y ph 0) ≤ tk s ph (fA s x ph 0) := by
  have q1 : 1 ≤ s.Period ∧ s.Period ≤ 60 := (sErr_zero.1 b.vs).2.1
  rcases fA_bd (s := s) (x := x) (ph := ph) 0 (by omega) with e | ⟨e1, e2, e3⟩
  · exact absurd e hf
  · have m := Int.mul_nonneg e1 (show 0 ≤ s.Period by omega)
    have hi : hiP t y (ph + fA s x ph 0 * t.Period) := by
      have g := sy_mono b (m := ph + fA s x ph 0 * s.Period) (by omega) (by omega)
      rw [b.pe]
      have n := b.no
      have l := b.li
      show t.Limit ≤ sy t y (ph + fA s x ph 0 * s.Period) - t.Noise * t.Step
      have e3 : s.Limit ≤ sy s x (ph + fA s x ph 0 * s.Period) - s.Noise * s.Step := e3
      omega
    have k := fA_some (s := t) (x := y) (ph := ph) (by rw [b.pe]; omega) (by rw [b.pe]; exact e2) hi _ 0 e1 (Nat.le_refl _)
    refine ⟨by omega, ?_⟩
    unfold tk
    rw [b.pe]
    have hl := b.hl
    have de := b.de
    have := Int.mul_le_mul_of_nonneg_right (show fA t y ph 0 + t.Hold * (t.Lost + 1) - 1 ≤ fA s x ph 0 + s.Hold * (s.Lost + 1) - 1 by omega) (show 0 ≤ s.Period by omega)
    omega
theorem stp_t (s : Sensor) (x : Kick) (ph : Int) (w : Lt) : (stp s x ph w).t = if w.t < tk s ph (fA s x ph 0) then tk s ph (fA s x ph 0) else w.t := by
  unfold stp
  split <;> rfl
theorem bt_all {s t : Sensor} {x y : Kick} (b : Bt s t x y) : ∀ (n : Nat) (ph : Int), 0 ≤ ph → allG s x n ph = true → allG t y n ph = true ∧ ∀ w w' : Lt, w'.t ≤ w.t → (wrs t y n ph w').t ≤ (wrs s x n ph w).t
  | 0, ph, _, _ => ⟨rfl, fun w w' h => h⟩
  | n + 1, ph, h0, h => by
    have h : (if fA s x ph 0 = -1 ∨ 10000 < tk s ph (fA s x ph 0) then false else allG s x n (ph + 1)) = true := h
    split at h
    · cases h
    · rename_i c
      have k := bt_fA b h0 (fun e => c (.inl e))
      obtain ⟨i1, i2⟩ := bt_all b n (ph + 1) (by omega) h
      refine ⟨?_, fun w w' hw => ?_⟩
      · show (if fA t y ph 0 = -1 ∨ 10000 < tk t ph (fA t y ph 0) then false else allG t y n (ph + 1)) = true
        rw [if_neg (by omega)]
        exact i1
      · show (wrs t y n (ph + 1) (stp t y ph w')).t ≤ (wrs s x n (ph + 1) (stp s x ph w)).t
        refine i2 _ _ ?_
        rw [stp_t, stp_t]
        repeat' split
        all_goals omega
theorem bt_lt {s t : Sensor} {x y : Kick} (b : Bt s t x y) (h : ltB s x = true) : ltB t y = true ∧ ltT t y ≤ ltT s x := by
  have os : okB s x := ⟨b.vs, kErr_zero.2 b.kx⟩
  have ot : okB t y := ⟨b.vt, kErr_zero.2 b.ky⟩
  have f : fnd s x = true := by rw [← late_b os]; exact h
  obtain ⟨i1, i2⟩ := bt_all b s.Period.toNat 0 (by decide) f
  have g : ltB t y = true := by
    rw [late_b ot]
    unfold fnd
    rw [b.pe]
    exact i1
  refine ⟨g, ?_⟩
  unfold ltT
  rw [if_pos g, if_pos h]
  unfold wst
  rw [b.pe]
  exact i2 w0 w0 (Int.le_refl _)
/-! ### two sensors -/
theorem sl_2 {s t : Sensor} (hs : sErr s = 0) (ht : sErr t = 0) : slErr [s, t] = 0 := by
  unfold slErr
  rw [if_neg (by simp), if_neg (by simp), firstE_cons, if_pos hs, firstE_cons, if_pos ht, firstE_nil]
theorem ea_no {s t : Sensor} {x : Kick} (h1 : ltB s x = false) (h2 : ltB t x = false) : eaO [s, t] x = -1 := by
  show (if ltB t x = true ∧ _ then _ else (if ltB s x = true ∧ _ then _ else -1)) = -1
  rw [if_neg (by rw [h2]; exact fun h => absurd h.1 (by decide)), if_neg (by rw [h1]; exact fun h => absurd h.1 (by decide))]
theorem ea_yes {s t : Sensor} {x : Kick} (h2 : ltB t x = true) (h1 : ltB s x = true → ltT t x ≤ ltT s x) : eaO [s, t] x = ltT t x := by
  have n2 := lt_nn h2
  show (if ltB t x = true ∧ ((if ltB s x = true ∧ ((-1 : Int) < 0 ∨ ltT s x < -1) then ltT s x else -1) < 0 ∨ ltT t x < (if ltB s x = true ∧ ((-1 : Int) < 0 ∨ ltT s x < -1) then ltT s x else -1)) then ltT t x else (if ltB s x = true ∧ ((-1 : Int) < 0 ∨ ltT s x < -1) then ltT s x else -1)) = ltT t x
  cases c : ltB s x with
  | false =>
    rw [if_neg (show ¬ (false = true ∧ ((-1 : Int) < 0 ∨ ltT s x < -1)) from fun h => absurd h.1 (by decide))]
    rw [if_pos ⟨h2, .inl (by decide)⟩]
  | true =>
    rw [if_pos (show true = true ∧ ((-1 : Int) < 0 ∨ ltT s x < -1) from ⟨rfl, .inl (by decide)⟩)]
    have := h1 c
    split
    · rfl
    · rename_i k
      have k : ¬ (ltT s x < 0 ∨ ltT t x < ltT s x) := fun h => k ⟨h2, h⟩
      omega
theorem rest_ok {s t : Sensor} {lo : Kick} {x : Kicks} (hlo : lo = ⟨x.Rate.Lo, x.Grow.Lo⟩) (hs : sErr s = 0) (ht : sErr t = 0) (hx : ksErr x = 0) (hk : kErr lo = 0) (h2 : ltB t lo = true) (h1 : ltB s lo = true → ltT t lo ≤ ltT s lo) : (restO s t lo x).holds fun v => v = .bool true := by
  have e := ea_yes h2 h1
  have n2 := lt_nn h2
  have z := sl_2 hs ht
  have ee : eaE (ltT t lo) = 0 := if_neg (by omega)
  have ep : pT (ltT t lo) = ltT t lo := if_neg (by omega)
  have g1 : lsE [s, t] x = 0 := by
    unfold lsE
    rw [if_neg (fun h => h z), if_neg (fun h => h hx), ← hlo, e, ee]
  have g2 : lsT [s, t] x = ltT t lo := by
    unfold lsT
    rw [if_neg (fun h => h z), if_neg (fun h => h hx), ← hlo, e, ep]
  have g3 : caE [s, t] lo = 0 := by
    unfold caE
    rw [if_neg (fun h => h z), if_neg (fun h => h hk), e, ee]
  have g4 : caT [s, t] lo = ltT t lo := by
    unfold caT
    rw [if_neg (fun h => h z), if_neg (fun h => h hk), e, if_neg (fun h => h ee), ep]
  have g5 : caG [s, t] lo = gain lo (ltT t lo) := by
    unfold caG
    rw [if_neg (fun h => h z), if_neg (fun h => h hk), e, if_neg (fun h => h ee), ep]
  unfold restO
  rw [g1, g2, g3, g4, g5]
  exact wayNe (fun h => absurd rfl h) fun _ => wayNe (fun h => absurd rfl h) fun _ => ⟨trivial, wayEq (fun _ => wayEq (fun _ => wayEq (fun _ => rfl) fun h => absurd rfl h) fun h => absurd rfl h) fun h => absurd rfl h⟩
theorem main_ok {s t : Sensor} {lo : Kick} {x : Kicks} (hlo : lo = ⟨x.Rate.Lo, x.Grow.Lo⟩) (hx : ksErr x = 0) (b : Bt s t lo lo) : (mainO s t lo x).holds fun v => v = .bool true := by
  have hk := kErr_zero.2 b.kx
  have mono : ltB s lo = true → ltB t lo = true ∧ ltT t lo ≤ ltT s lo := bt_lt b
  unfold mainO
  refine ⟨trivial, ?_⟩
  cases c : ltB t lo with
  | true =>
    have r := rest_ok hlo b.vs b.vt hx hk c fun h => (mono h).2
    exact ⟨fun _ => ⟨fun h => (by cases h), fun _ => r⟩, fun _ => r⟩
  | false =>
    have d : ltB s lo = false := by
      cases d : ltB s lo with
      | false => rfl
      | true => have := (mono d).1; rw [c] at this; cases this
    rw [d]
    have g1 : lsE [s, t] x = 13 := by
      unfold lsE
      rw [if_neg (fun h => h (sl_2 b.vs b.vt)), if_neg (fun h => h hx), ← hlo, ea_no d c]
      rfl
    rw [g1]
    exact ⟨fun _ => ⟨fun _ => wayEq (fun _ => rfl) fun h => absurd rfl h, fun h => (by cases h)⟩, fun h => (by cases h)⟩
theorem tail_ok {s t : Sensor} {lo : Kick} {x : Kicks} (hlo : lo = ⟨x.Rate.Lo, x.Grow.Lo⟩) (hx : ksErr x = 0) (b : Bt s t lo lo) : (tailO s t lo x).holds fun v => v = .bool true := by
  have m := main_ok hlo hx b
  unfold tailO
  refine wayB (fun h => ?_) fun _ => m
  have k := bt_lt b h
  rw [k.1]
  exact ⟨fun h => (by cases h), fun _ => way (fun c => absurd c (by have := k.2; omega)) fun _ => m⟩
theorem sBd_ok {s : Sensor} (h : sBd s) : sErr s = 0 := sErr_zero.2 ⟨h.1.1, by unfold okSe; unfold sBd at h; omega⟩
theorem bt_of {s t : Sensor} {x : Kick} (hs : sBd s) (ht : sBd t) (hk : okK x) (ch : t.Channel = s.Channel) (pe : t.Period = s.Period) (st : t.Step = s.Step) (li : t.Limit ≤ s.Limit) (no : t.Noise ≤ s.Noise) (ho : t.Hold ≤ s.Hold) (lo : t.Lost ≤ s.Lost) (de : t.Delay ≤ s.Delay) : Bt s t x x := by
  have hs' := hs
  have ht' := ht
  unfold sBd at hs' ht'
  refine ⟨sBd_ok hs, sBd_ok ht, hk, hk, ch, pe, li, ?_, ?_, de, Int.le_refl _, Int.le_refl _⟩
  · rw [st]
    exact Int.mul_le_mul_of_nonneg_right no (by omega)
  · exact Int.mul_le_mul ho (by omega) (by omega) (by omega)
theorem mx_bd {a b : Int} : (mxI a b = a ∧ b < a) ∨ (mxI a b = b ∧ a ≤ b) := by
  unfold mxI
  split
  · exact .inl ⟨rfl, by omega⟩
  · exact .inr ⟨rfl, by omega⟩
theorem cases_ok {s : Sensor} {x : Kicks} {which : Int} (hs : sBd s) (hx : xBd x) : (casesO s ⟨x.Rate.Lo, x.Grow.Lo⟩ x which).holds fun v => v = .bool true := by
  have hs' := hs
  unfold sBd at hs'
  have hx' := hx
  unfold xBd at hx'
  have kx : okK ⟨x.Rate.Lo, x.Grow.Lo⟩ := by unfold okK; simp only; omega
  have zx : ksErr x = 0 := by
    unfold ksErr
    rw [if_pos]
    unfold okKs
    omega
  unfold casesO
  have w1 : IntKind.wrap IntKind.i64 (s.Limit - 100) = s.Limit - 100 := i64_in' (by omega) (by omega)
  have w2 : IntKind.wrap IntKind.i64 (s.Hold - 1) = s.Hold - 1 := i64_in' (by omega) (by omega)
  have w3 : IntKind.wrap IntKind.i64 (s.Lost - 1) = s.Lost - 1 := i64_in' (by omega) (by omega)
  have w4 : IntKind.wrap IntKind.i64 (s.Delay - 1) = s.Delay - 1 := i64_in' (by omega) (by omega)
  have w5 : IntKind.wrap IntKind.i64 (s.Noise - 1) = s.Noise - 1 := i64_in' (by omega) (by omega)
  rw [w1, w2, w3, w4, w5]
  have m1 := mx_bd (a := s.Limit - 100) (b := 1)
  have m2 := mx_bd (a := s.Hold - 1) (b := 1)
  have m3 := mx_bd (a := s.Lost - 1) (b := 0)
  have m4 := mx_bd (a := s.Delay - 1) (b := 0)
  have m5 := mx_bd (a := s.Noise - 1) (b := 0)
  generalize mxI (s.Limit - 100) 1 = z1 at m1 ⊢
  generalize mxI (s.Hold - 1) 1 = z2 at m2 ⊢
  generalize mxI (s.Lost - 1) 0 = z3 at m3 ⊢
  generalize mxI (s.Delay - 1) 0 = z4 at m4 ⊢
  generalize mxI (s.Noise - 1) 0 = z5 at m5 ⊢
  refine ⟨⟨by decide, by decide⟩, wayEq (fun _ => tail_ok rfl zx (bt_of hs ?_ kx rfl rfl rfl ?_ ?_ ?_ ?_ ?_)) fun _ => wayEq (fun _ => tail_ok rfl zx (bt_of hs ?_ kx rfl rfl rfl ?_ ?_ ?_ ?_ ?_)) fun _ => wayEq (fun _ => tail_ok rfl zx (bt_of hs ?_ kx rfl rfl rfl ?_ ?_ ?_ ?_ ?_)) fun _ =>
    wayEq (fun _ => tail_ok rfl zx (bt_of hs ?_ kx rfl rfl rfl ?_ ?_ ?_ ?_ ?_)) fun _ => wayEq (fun _ => tail_ok rfl zx (bt_of hs ?_ kx rfl rfl rfl ?_ ?_ ?_ ?_ ?_)) fun _ => tail_ok rfl zx (bt_of hs hs kx rfl rfl rfl (Int.le_refl _) (Int.le_refl _) (Int.le_refl _) (Int.le_refl _) (Int.le_refl _))⟩
  all_goals (first | (unfold sBd; simp only; omega) | (simp only; omega))
theorem all_ok {s : Sensor} {x : Kicks} {which : Int} (hs : sBd s) (hx : xBd x) : (allO s x which).holds fun v => v = .bool true := by
  have c := cases_ok (which := which) hs hx
  have hx' := hx
  unfold xBd at hx'
  have b : Bt s s ⟨x.Rate.Lo, x.Grow.Lo⟩ ⟨x.Rate.Hi, x.Grow.Hi⟩ := ⟨sBd_ok hs, sBd_ok hs, by unfold okK; simp only; omega, by unfold okK; simp only; omega, rfl, rfl, Int.le_refl _, Int.le_refl _, Int.le_refl _, Int.le_refl _, by simp only; omega, by simp only; omega⟩
  unfold allO
  refine wayB (fun h => ?_) fun _ => c
  have k := bt_lt b h
  rw [k.1]
  exact ⟨fun h => (by cases h), fun _ => way (fun q => absurd q (by have := k.2; omega)) fun _ => c⟩
theorem kickOrder_proved : Rows.KickOrderSaid := kickOrder_said fun nums which _ _ => fact_run ctQO_ok noLoops_ok (ts := [4]) rfl (by
  rw [tQO]
  exact ⟨by decide, by decide, all_ok (sOf_bd _ _) (xOf_bd _ _)⟩)
end Go.Proofs.Ytdclipcjlimdoaa.W
