/- FluidLeast. No condition. -/
import Derived.Test.YtnhedcaphncliaaM
set_option linter.unusedVariables false
set_option maxRecDepth 100000
set_option maxHeartbeats 4000000
noncomputable section
namespace Go.Proofs.Ytnhedcaphncliaa.W
open Go Go.Cx Go.RowKit
noncomputable def grB (L R A G Y V q : Int) : Bool := decide (vf L R A G Y V q) && gB A G Y V q
noncomputable def grN (L R A G Y V q : Int) : Int := if vf L R A G Y V q then gN A G Y V q else 0
theorem s40 (L R A G Y V q : Int) (h : -9223372036854775808 ≤ L ∧ L ≤ 9223372036854775807) : (runX ctI noLoops 40 [.agg [i64 L, i64 R, i64 A, i64 G], .agg [i64 Y, i64 V], i64 q] [2, 4]).holds fun v => v = .tup [i64 (grN L R A G Y V q), .bool (grB L R A G Y V q)] := by
  rw [tv40]
  unfold grN grB
  refine ⟨h, wayB (fun k => ?_) fun k => ?_⟩
  · have k : decide (vf L R A G Y V q) = false := by
      cases e : decide (vf L R A G Y V q) with
      | false => rfl
      | true => rw [e] at k; exact absurd k (by decide)
    rw [k, if_neg (of_decide_eq_false k)]; rfl
  · have k : decide (vf L R A G Y V q) = true := by
      cases e : decide (vf L R A G Y V q) with
      | true => rfl
      | false => rw [e] at k; exact absurd k (by decide)
    rw [k, if_pos (of_decide_eq_true k)]
    exact ⟨⟨⟨rfl, rfl⟩, of_decide_eq_true k⟩, rfl⟩
noncomputable def flB (L R A G Y V g q : Int) : Bool := decide (vf L R A G Y V q) && (within g 0 20000 && pB A G Y V g q)
theorem s44 (L R A G Y V g q : Int) (h : -9223372036854775808 ≤ L ∧ L ≤ 9223372036854775807) : (runX ctH noLoops 44 [.agg [i64 L, i64 R, i64 A, i64 G], .agg [i64 Y, i64 V], i64 g, i64 q] [4]).holds fun v => v = .bool (flB L R A G Y V g q) := by
  rw [tv44]
  unfold flB
  refine ⟨h, wayB (fun k => wayB (fun k2 => ?_) fun k2 => ?_) fun k => ?_⟩
  · rw [k, k2]
    exact ⟨⟨of_decide_eq_true k, of_decide_eq_true k2⟩, rfl⟩
  · rw [k2, Bool.false_and, Bool.and_false]; rfl
  · rw [k, Bool.false_and]; rfl
noncomputable def cGr : Con T := conP Try.prog [shSg, shM, .one (.i .i64)] [.n, .n, .n, .n, .n, .n, .n] (fun d => -9223372036854775808 ≤ d.1 ∧ d.1 ≤ 9223372036854775807) fun d => .tup [i64 (grN d.1 d.2.1 d.2.2.1 d.2.2.2.1 d.2.2.2.2.1 d.2.2.2.2.2.1 d.2.2.2.2.2.2.1), .bool (grB d.1 d.2.1 d.2.2.1 d.2.2.2.1 d.2.2.2.2.1 d.2.2.2.2.2.1 d.2.2.2.2.2.2.1)]
theorem gr_ok : ConOk Try.prog E 40 cGr := conP_ok fun d hd => fact_run ctI_ok noLoops_ok (ts := [2, 4]) rfl (s40 _ _ _ _ _ _ _ hd)
noncomputable def cFw : Con T := conP Try.prog [shSg, shM, .one (.i .i64), .one (.i .i64)] [.n, .n, .n, .n, .n, .n, .n, .n] (fun d => -9223372036854775808 ≤ d.1 ∧ d.1 ≤ 9223372036854775807) fun d => .bool (flB d.1 d.2.1 d.2.2.1 d.2.2.2.1 d.2.2.2.2.1 d.2.2.2.2.2.1 d.2.2.2.2.2.2.1 d.2.2.2.2.2.2.2.1)
theorem fw_ok : ConOk Try.prog E 44 cFw := conP_ok fun d hd => fact_run ctH_ok noLoops_ok (ts := [4]) rfl (s44 _ _ _ _ _ _ _ _ hd)
noncomputable def ctL : CTab T := [(58, cAnn), (60, cMod), (40, cGr), (44, cFw), (19, cAwake)]
theorem ctL_ok : CTabOk Try.prog E ctL := .cons ann_ok (.cons mod64_ok (.cons gr_ok (.cons fw_ok (.cons awake_ok .nil))))
@[reducible] def w64 (n : Int) : Int := IntKind.wrap IntKind.i64 n
@[reducible] def bnd (L : Int) : Prop := (-9223372036854775808 : Int) ≤ L ∧ L ≤ (9223372036854775807 : Int)
@[reducible] def gp (G m : Int) : Int := if w64 (G + Int.tmod m 50) < 200 then w64 (G + Int.tmod m 50) else 200
noncomputable def yes : Tree (AV T) := .leaf (.bool true)
noncomputable def no : Tree (AV T) := .leaf (.bool false)
noncomputable def t4 (L R A G Y V q m g : Int) : Tree (AV T) := .br (grB L R A (gp G m) Y V q) (.br (decide (grN L R A (gp G m) Y V q ≤ g)) yes no) no
noncomputable def t3 (L R A G Y V q m g : Int) : Tree (AV T) := .br (!grB L R A G Y (w64 (V + m)) q) (t4 L R A G Y V q m g) (.br (decide (grN L R A G Y (w64 (V + m)) q ≥ g)) (t4 L R A G Y V q m g) no)
noncomputable def t2 (L R A G Y V q m g : Int) : Tree (AV T) := .br (!grB L R A G (w64 (Y + m)) V q) (t3 L R A G Y V q m g) (.br (decide (grN L R A G (w64 (Y + m)) V q ≥ g)) (t3 L R A G Y V q m g) no)
noncomputable def t1 (L R A G Y V q m g : Int) : Tree (AV T) := .req (bnd L) (.req (bnd L) (.req (bnd L) (.req (bnd L) (.br (!grB L R A G Y V (w64 (q + m))) (t2 L R A G Y V q m g) (.br (decide (grN L R A G Y V (w64 (q + m)) ≥ g)) (t2 L R A G Y V q m g) no)))))
noncomputable def t0 (L R A G Y V q m g : Int) : Tree (AV T) := .br (decide (q > 0)) (.br (decide (w64 (g * G) ≤ Y)) no (t1 L R A G Y V q m g)) (t1 L R A G Y V q m g)
noncomputable def tb (L R A G Y V q m g : Int) : Tree (AV T) := .req (bnd L) (.br (!flB L R A G Y V g q) no (.br (decide (g > 0)) (.req (bnd L) (.br (flB L R A G Y V (w64 (g - 1)) q) no (t0 L R A G Y V q m g))) (t0 L R A G Y V q m g)))
noncomputable def ta (L R A G Y V q m : Int) : Tree (AV T) := .req (bnd L) (.br (!grB L R A G Y V q) (.req (bnd L) (.br (!flB L R A G Y V 20000 q) yes no)) (tb L R A G Y V q m (grN L R A G Y V q)))
theorem tv15 (l : List Int) (y v q m : Int) : runX ctL noLoops 15 [.sl 2 l false, .agg [i64 y, i64 v], i64 q, i64 m] [4] =
  (.req ((true && decide ((0 : Int) < (↑(List.length (ann l)) : Int))) = true)
  (.req (mPre y (20000 : Int))
  (.req (mPre v (5000 : Int))
  (.req (mPre q (200000 : Int))
  (.req (mPre m (3000 : Int))
  (ta (sgi (ann l) 0).Long (sgi (ann l) 0).Rise (sgi (ann l) 0).Area (sgi (ann l) 0).Gap (y % 20000) (w64 (1 + v % 5000)) (q % 200000) (m % 3000))))))) := by kernel_rfl
theorem gr_cmp {L R A G Y Z V W q r : Int} (h : vf L R A G Y V q) (hZ : Y ≤ Z) (hW : V ≤ W) (hr : q ≤ r) (k : grB L R A G Z W r = true) (hP : pB A G Y V 20000 q = true) : grN L R A G Z W r ≥ gl A G Y V q := by
  unfold grB at k
  rw [Bool.and_eq_true] at k
  have k1 := of_decide_eq_true k.1
  have k2 : pB A G Z W 20000 r = true := k.2
  have e : grN L R A G Z W r = gl A G Z W r := by
    unfold grN gN
    rw [if_pos k1, if_pos k2]
  rw [e]
  obtain ⟨⟨a, b⟩, c, d⟩ := gl_spec k2
  obtain ⟨⟨a', b'⟩, c', d'⟩ := gl_spec hP
  obtain ⟨h1, h2, h3, h4, h5, h6, h7⟩ := h
  have p := mono_q (A := A) (G := G) (Y := Y) (Z := Z) (V := V) (W := W) (q := q) (r := r) (by omega) (by omega) h5.1 hZ (by omega) hW a h7.1 hr c
  rcases Int.lt_or_le (gl A G Z W r) (gl A G Y V q) with f | f
  · rw [d' _ a f] at p; exact absurd p (by decide)
  · exact f
theorem gr_gap {L R A G H Y V q : Int} (h : vf L R A G Y V q) (hH : G ≤ H) (hH' : H ≤ 200) (hP : pB A G Y V 20000 q = true) : grB L R A H Y V q = true ∧ grN L R A H Y V q ≤ gl A G Y V q := by
  obtain ⟨⟨a', b'⟩, c', d'⟩ := gl_spec hP
  obtain ⟨h1, h2, h3, h4, h5, h6, h7⟩ := h
  have hv : vf L R A H Y V q := ⟨h1, h2, h3, by omega, h5, h6, h7⟩
  have k2 : pB A H Y V 20000 q = true := mono_g (by omega) (by omega) hH h5.1 (by omega) (by decide) (Int.le_refl _) h7.1 hP
  have e : grN L R A H Y V q = gl A H Y V q := by
    unfold grN gN
    rw [if_pos hv, if_pos k2]
  refine ⟨?_, ?_⟩
  · unfold grB
    rw [decide_eq_true hv]; exact k2
  · rw [e]
    obtain ⟨⟨a, b⟩, c, d⟩ := gl_spec k2
    have p := mono_g (A := A) (G := G) (H := H) (Y := Y) (V := V) (by omega) (by omega) hH h5.1 (by omega) a' (Int.le_refl _) h7.1 c'
    rcases Int.lt_or_le (gl A G Y V q) (gl A H Y V q) with f | f
    · rw [d _ a' f] at p; exact absurd p (by decide)
    · exact f
theorem sta {L R A G Y V q m : Int} (h : vf L R A G Y V q) (hY : Y < 20000) (hV : V ≤ 5000) (hq : q < 200000) (hm : 0 ≤ m ∧ m < 3000) : (ta L R A G Y V q m).holds fun v => v = .bool true := by
  have hb : bnd L := by have := h.1; omega
  have hh := h
  obtain ⟨h1, h2, h3, h4, h5, h6, h7⟩ := hh
  have eY : w64 (Y + m) = Y + m := i64_in' (by omega) (by omega)
  have eV : w64 (V + m) = V + m := i64_in' (by omega) (by omega)
  have eq' : w64 (q + m) = q + m := i64_in' (by omega) (by omega)
  have eM : Int.tmod m 50 = m % 50 := Int.tmod_eq_emod_of_nonneg hm.1
  have eG : G ≤ gp G m ∧ gp G m ≤ 200 := by
    have e : w64 (G + Int.tmod m 50) = G + m % 50 := by rw [eM]; exact i64_in' (by omega) (by omega)
    show G ≤ (if w64 (G + Int.tmod m 50) < 200 then w64 (G + Int.tmod m 50) else 200) ∧ (if w64 (G + Int.tmod m 50) < 200 then w64 (G + Int.tmod m 50) else 200) ≤ 200
    rw [e]
    split <;> omega
  refine ⟨hb, wayB (fun k => ?_) fun k => ?_⟩
  · refine ⟨hb, wayB (fun _ => rfl) fun k2 => ?_⟩
    unfold grB gB at k
    unfold flB at k2
    rw [decide_eq_true h, Bool.true_and] at k
    rw [decide_eq_true h, Bool.true_and, show within 20000 0 20000 = true by decide, Bool.true_and] at k2
    rw [k] at k2; exact absurd k2 (by decide)
  · have hP : pB A G Y V 20000 q = true := by
      unfold grB gB at k
      rw [decide_eq_true h, Bool.true_and] at k
      simpa using k
    have eg : grN L R A G Y V q = gl A G Y V q := by
      unfold grN gN
      rw [if_pos h, if_pos hP]
    rw [eg]
    obtain ⟨⟨a, b⟩, c, d⟩ := gl_spec hP
    have y4 : (t4 L R A G Y V q m (gl A G Y V q)).holds fun v => v = .bool true := by
      obtain ⟨g1, g2⟩ := gr_gap h eG.1 eG.2 hP
      exact wayB (fun _ => way (fun _ => rfl) fun f => absurd g2 f) fun f => by rw [g1] at f; exact absurd f (by decide)
    have tr : ∀ {b : Bool}, (!b) = false → b = true := fun f => by simpa using f
    have y3 : (t3 L R A G Y V q m (gl A G Y V q)).holds fun v => v = .bool true :=
      wayB (fun _ => y4) fun f => way (fun _ => y4) fun f2 => absurd (gr_cmp h (Int.le_refl _) (by rw [eV]; omega) (Int.le_refl _) (tr f) hP) f2
    have y2 : (t2 L R A G Y V q m (gl A G Y V q)).holds fun v => v = .bool true :=
      wayB (fun _ => y3) fun f => way (fun _ => y3) fun f2 => absurd (gr_cmp h (by rw [eY]; omega) (Int.le_refl _) (Int.le_refl _) (tr f) hP) f2
    have y1 : (t1 L R A G Y V q m (gl A G Y V q)).holds fun v => v = .bool true :=
      ⟨hb, hb, hb, hb, wayB (fun _ => y2) fun f => way (fun _ => y2) fun f2 => absurd (gr_cmp h (Int.le_refl _) (Int.le_refl _) (by rw [eq']; omega) (tr f) hP) f2⟩
    have y0 : (t0 L R A G Y V q m (gl A G Y V q)).holds fun v => v = .bool true := by
      refine way (fun f => way (fun f2 => ?_) fun _ => y1) fun _ => y1
      have mb := mulb (a := gl A G Y V q) (b := G) (m := 20000) (k := 200) a b (by omega) h4.2
      rw [show w64 (gl A G Y V q * G) = gl A G Y V q * G from i64_in' (by omega) (by omega)] at f2
      rcases pB_iff.1 c with ⟨_, p⟩ | ⟨p, _⟩ <;> omega
    refine ⟨hb, wayB (fun f => ?_) fun _ => way (fun f => ⟨hb, wayB (fun f2 => ?_) fun _ => y0⟩) fun _ => y0⟩
    · unfold flB at f
      rw [decide_eq_true h, c, show within (gl A G Y V q) 0 20000 = true from decide_eq_true ⟨a, b⟩] at f
      exact absurd f (by decide)
    · unfold flB at f2
      rw [show w64 (gl A G Y V q - 1) = gl A G Y V q - 1 from i64_in' (by omega) (by omega), d _ (by omega) (by omega), Bool.and_false, Bool.and_false] at f2
      exact absurd f2 (by decide)
theorem s15 (l : List Int) (y v q m : Int) : (runX ctL noLoops 15 [.sl 2 l false, .agg [i64 y, i64 v], i64 q, i64 m] [4]).holds fun v => v = .bool true := by
  rw [tv15]
  obtain ⟨hl, hh⟩ := ann_hd l
  rw [hh]
  have hs := sg_ok l 0
  rw [show w64 (1 + v % 5000) = 1 + v % 5000 from i64_in' (by omega) (by omega)]
  refine ⟨by simpa using hl, ⟨by decide, by decide⟩, ⟨by decide, by decide⟩, ⟨by decide, by decide⟩, ⟨by decide, by decide⟩, sta ⟨by omega, by omega, by omega, by omega, by omega, by omega, by omega⟩ (by omega) (by omega) (by omega) (by omega)⟩
end Go.Proofs.Ytnhedcaphncliaa.W
