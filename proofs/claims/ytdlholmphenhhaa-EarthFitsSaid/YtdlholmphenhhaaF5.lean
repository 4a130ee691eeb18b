/- EarthFits. No condition. -/
import Derived.Test.YtdlholmphenhhaaF4
import Derived.Test.YtdlholmphenhhaaW
set_option linter.unusedVariables false
set_option maxRecDepth 100000
set_option maxHeartbeats 4000000
noncomputable section
namespace Go.Proofs.Ytdlholmphenhhaa.W
open Go Go.Cx Go.RowKit
theorem tv81 (e : Earth) (l : List Knot) : runX [] (llOf Try.prog E 81 [(2, c81)]) 81 [e.av, .agg [.sl 78 l false]] [4] =
  (.req ((1 : Int) ≤ (1 : Int) ∧ List.length l ≤ (1000 : Nat))
  (.br (grX (Earth.GLo e) (Earth.GHi e) l (1 : Int))
   (.leaf (.bool (true)))
   (.leaf (.bool (false))))) := by kernel_rfl
theorem s81 (e : Earth) (l : List Knot) (h : l.length ≤ 1000) : (runX [] (llOf Try.prog E 81 [(2, c81)]) 81 [e.av, .agg [.sl 78 l false]] [4]).holds fun v => v = .bool (grwL e.GLo e.GHi l) := by
  rw [tv81]
  refine ⟨⟨by decide, h⟩, wayB (fun q => ?_) fun q => ?_⟩
  · rw [show grwL e.GLo e.GHi l = true from q]; rfl
  · rw [show grwL e.GLo e.GHi l = false from q]; rfl
noncomputable def cGrows2 : Con T := conP Try.prog [shE, .agg [.s 78]] [.n, .l 78, .l 78, .l 78, .l 78, .n, .n, .l 55, .l 78] (fun d => (d.2.2.2.2.2.2.2.2.1 : List Knot).length ≤ 1000) fun d => .bool (grwL d.2.2.2.2.2.1 d.2.2.2.2.2.2.1 d.2.2.2.2.2.2.2.2.1)
theorem grows2_ok : ConOk Try.prog E 81 cGrows2 := conP_ok fun d hd => fact_run .nil ll81 (ts := [4]) rfl (s81 ⟨d.1, ⟨d.2.1⟩, ⟨d.2.2.1⟩, ⟨d.2.2.2.1⟩, ⟨d.2.2.2.2.1⟩, d.2.2.2.2.2.1, d.2.2.2.2.2.2.1, d.2.2.2.2.2.2.2.1⟩ d.2.2.2.2.2.2.2.2.1 hd)
noncomputable def ctFit : CTab T := (31, cCheck) :: (32, cCheck) :: (33, cTruth) :: (34, cTruth) :: (77, cGrows) :: (81, cGrows2) :: (80, cAnyR) :: (82, cOver) :: (83, cTold) :: (69, cCov) :: (17, cAwake) :: ctB
theorem ctFit_ok : CTabOk Try.prog E ctFit := .cons check_ok (.cons check2_ok (.cons truth_ok (.cons truth2_ok (.cons grows_ok (.cons grows2_ok (.cons anyR_ok (.cons over_ok (.cons told_ok (.cons cov_ok (.cons awake_ok ctB_ok))))))))))
theorem tv46 (e : Earth) (p f : List Knot) : runX ctFit noLoops 46 [e.av, .agg [.sl 78 p false, .sl 78 f false]] [4] =
  (.br (eErr (eOf (Earth.Bottom e, Line.Knots (Earth.PoreLo e), Line.Knots (Earth.PoreHi e), Line.Knots (Earth.FracLo e), Line.Knots (Earth.FracHi e), Earth.GLo e, Earth.GHi e, Earth.Reports e, ())) != (0 : Int))
   (.leaf (.bool (false)))
   (.br (trE p f (Earth.Bottom e) != (0 : Int))
    (.leaf (.bool (false)))
    (.req (List.length p ≤ (1000 : Nat))
    (.br (!grwL (Earth.GLo e) (Earth.GHi e) p)
     (.leaf (.bool (false)))
     (.req (List.length f ≤ (1000 : Nat))
     (.br (!grwL (Earth.GLo e) (Earth.GHi e) f)
      (.leaf (.bool (false)))
      (.br (!above f p)
       (.leaf (.bool (false)))
       (.req (isR p ∧ isR (Line.Knots (Earth.PoreLo e)))
       (.br (covV p (Line.Knots (Earth.PoreLo e)) (0 : Int) (Earth.Bottom e))
        (.req (isR (Line.Knots (Earth.PoreHi e)) ∧ isR p)
        (.br (covV (Line.Knots (Earth.PoreHi e)) p (0 : Int) (Earth.Bottom e))
         (.req (isR f ∧ isR (Line.Knots (Earth.FracLo e)))
         (.br (covV f (Line.Knots (Earth.FracLo e)) (0 : Int) (Earth.Bottom e))
          (.req (isR (Line.Knots (Earth.FracHi e)) ∧ isR f)
          (.br (covV (Line.Knots (Earth.FracHi e)) f (0 : Int) (Earth.Bottom e))
           (.req (List.length (Earth.Reports e) ≤ (24 : Nat) ∧ isR p ∧ isR f)
           (.leaf (.bool (!List.any (Earth.Reports e) (dis p f)))))
           (.leaf (.bool (false)))))
          (.leaf (.bool (false)))))
         (.leaf (.bool (false)))))
        (.leaf (.bool (false)))))))))))) := by kernel_rfl
theorem tv47 (e : Earth) (p f : List Knot) : runX ctFit noLoops 47 [e.av, .agg [.sl 78 p false, .sl 78 f false]] [4] =
  (.br (eErr (eOf (Earth.Bottom e, Line.Knots (Earth.PoreLo e), Line.Knots (Earth.PoreHi e), Line.Knots (Earth.FracLo e), Line.Knots (Earth.FracHi e), Earth.GLo e, Earth.GHi e, Earth.Reports e, ())) != (0 : Int))
   (.leaf (.bool (false)))
   (.br (trE p f (Earth.Bottom e) != (0 : Int))
    (.leaf (.bool (false)))
    (.req (List.length p ≤ (1000 : Nat))
    (.br (!grwL (Earth.GLo e) (Earth.GHi e) p)
     (.leaf (.bool (false)))
     (.req (List.length f ≤ (1000 : Nat))
     (.br (!grwL (Earth.GLo e) (Earth.GHi e) f)
      (.leaf (.bool (false)))
      (.req ((isD p ∧ isD (Line.Knots (Earth.PoreLo e))) ∧ exA p (Line.Knots (Earth.PoreLo e)) (Earth.Bottom e))
      (.br (ovB p (Line.Knots (Earth.PoreLo e)) (Earth.Bottom e) (allX p (Line.Knots (Earth.PoreLo e)) (Earth.Bottom e)))
       (.req ((isD (Line.Knots (Earth.PoreHi e)) ∧ isD p) ∧ exA (Line.Knots (Earth.PoreHi e)) p (Earth.Bottom e))
       (.br (ovB (Line.Knots (Earth.PoreHi e)) p (Earth.Bottom e) (allX (Line.Knots (Earth.PoreHi e)) p (Earth.Bottom e)))
        (.req ((isD f ∧ isD (Line.Knots (Earth.FracLo e))) ∧ exA f (Line.Knots (Earth.FracLo e)) (Earth.Bottom e))
        (.br (ovB f (Line.Knots (Earth.FracLo e)) (Earth.Bottom e) (allX f (Line.Knots (Earth.FracLo e)) (Earth.Bottom e)))
         (.req ((isD (Line.Knots (Earth.FracHi e)) ∧ isD f) ∧ exA (Line.Knots (Earth.FracHi e)) f (Earth.Bottom e))
         (.br (ovB (Line.Knots (Earth.FracHi e)) f (Earth.Bottom e) (allX (Line.Knots (Earth.FracHi e)) f (Earth.Bottom e)))
          (.req ((isD f ∧ isD p) ∧ exA f p (Earth.Bottom e))
          (.br (ovB f p (Earth.Bottom e) (allX f p (Earth.Bottom e)))
           (.req (((isR p ∧ isR f) ∧ (0 : Int) ≤ (0 : Int) ∧ List.length (Earth.Reports e) ≤ (24 : Nat)) ∧ kOk (Earth.Reports e))
           (.leaf (.bool (List.all (Earth.Reports e) (agB p f)))))
           (.leaf (.bool (false)))))
          (.leaf (.bool (false)))))
         (.leaf (.bool (false)))))
        (.leaf (.bool (false)))))
       (.leaf (.bool (false))))))))))) := by kernel_rfl
theorem covV_iff {a b : List Knot} {x y : Int} : covV a b x y = true ↔ ∀ z, (z = x ∨ z = y ∨ (∃ k ∈ a, (x ≤ k.At ∧ k.At ≤ y) ∧ k.At = z) ∨ ∃ k ∈ b, (x ≤ k.At ∧ k.At ≤ y) ∧ k.At = z) → valHi b z ≤ valLo a z := by
  show cov2 a b x y 0 = true ↔ _
  unfold cov2
  rw [show decide ((1 : Int) ≤ 0) = false by decide, show decide ((2 : Int) ≤ 0) = false by decide, Bool.false_or, Bool.false_or, Bool.and_eq_true, covB_iff, covB_iff]
  constructor
  · intro ⟨h1, h2⟩ z hz
    rcases hz with hz | hz | hz | hz
    · exact h1 z (by rw [hz]; simp)
    · exact h1 z (by rw [hz]; simp)
    · exact h1 z (List.mem_cons_of_mem _ (List.mem_cons_of_mem _ (mem_plc.2 hz)))
    · exact h2 z (List.mem_cons_of_mem _ (List.mem_cons_of_mem _ (mem_plc.2 hz)))
  · intro h
    refine ⟨fun z hz => h z ?_, fun z hz => h z ?_⟩
    · rcases List.mem_cons.1 hz with q | q
      · exact Or.inl q
      · rcases List.mem_cons.1 q with q | q
        · exact Or.inr (Or.inl q)
        · exact Or.inr (Or.inr (Or.inl (mem_plc.1 q)))
    · rcases List.mem_cons.1 hz with q | q
      · exact Or.inl q
      · rcases List.mem_cons.1 q with q | q
        · exact Or.inr (Or.inl q)
        · exact Or.inr (Or.inr (Or.inr (mem_plc.1 q)))
/-- A line from 0 to the bottom. -/
structure Span (l : List Knot) (b : Int) : Prop where
  d : isD l
  f : (kn l 0).At = 0
  t : (kn l ((l.length : Int) - 1)).At = b
theorem span_0 {l : List Knot} {b : Int} (h : Span l b) : valLo l 0 = valHi l 0 := by
  have v := val_first (l := l) (x := 0) (by rw [h.f]; omega)
  omega
theorem span_b {l : List Knot} {b : Int} (h : Span l b) {x : Int} (hx : b ≤ x) : valLo l x = (kn l ((l.length : Int) - 1)).V ∧ valHi l x = (kn l ((l.length : Int) - 1)).V :=
  val_last (lineErr_good h.d).1 (by rw [h.t]; exact hx)
theorem knot_ex {l : List Knot} (hd : isD l) {k : Knot} (hk : k ∈ l) : valLo l k.At = valHi l k.At := by
  obtain ⟨i, h1, h2⟩ := mem_kn hk
  have v := val_knot (lineErr_good hd).1 h1
  rw [h2] at v
  omega
theorem knot_nn {l : List Knot} (hd : isD l) {k : Knot} (hk : k ∈ l) : 0 ≤ k.At ∧ k.At ≤ 1048576 := by
  obtain ⟨i, h1, h2⟩ := mem_kn hk
  have v := (lineErr_good hd).1.bd i h1
  rw [h2] at v
  exact v.1
theorem mem_all {a b : List Knot} {x y : Int} : y ∈ allX a b x ↔ (y = 0 ∨ y = x) ∨ (∃ k ∈ a, k.At = y) ∨ ∃ k ∈ b, k.At = y := by
  simp [allX, ats, or_assoc]
theorem ex_all {a b : List Knot} {x : Int} (ha : isD a) (hb : isD b) (hs : Span a x ∨ Span b x) : exA a b x := by
  intro y hy _
  rcases mem_all.1 hy with (q | q) | ⟨k, k1, k2⟩ | ⟨k, k1, k2⟩
  · subst q
    rcases hs with h | h
    · exact Or.inl (span_0 h)
    · exact Or.inr (span_0 h)
  · subst q
    rcases hs with h | h
    · have := span_b h (Int.le_refl _); exact Or.inl (by omega)
    · have := span_b h (Int.le_refl _); exact Or.inr (by omega)
  · subst k2; exact Or.inl (knot_ex ha k1)
  · subst k2; exact Or.inr (knot_ex hb k1)
theorem ov_cov {a b : List Knot} {x : Int} (ha : isD a) (hb : isD b) (hx : 0 ≤ x) : ovB a b x (allX a b x) = covV a b 0 x := by
  refine Bool.eq_iff_iff.2 ?_
  rw [covV_iff]
  unfold ovB
  rw [List.all_eq_true]
  constructor
  · intro h z hz
    have get : ∀ z ∈ allX a b x, z ≤ x → valHi b z ≤ valLo a z := fun z m q => by
      have := h z m
      rw [Bool.or_eq_true, decide_eq_true_eq] at this
      rcases this with t | t
      · exact absurd q t
      · exact of_decide_eq_true t
    rcases hz with q | q | ⟨k, k1, k2, k3⟩ | ⟨k, k1, k2, k3⟩
    · exact get z (mem_all.2 (Or.inl (Or.inl q))) (by omega)
    · exact get z (mem_all.2 (Or.inl (Or.inr q))) (by omega)
    · exact get z (mem_all.2 (Or.inr (Or.inl ⟨k, k1, k3⟩))) (by omega)
    · exact get z (mem_all.2 (Or.inr (Or.inr ⟨k, k1, k3⟩))) (by omega)
  · intro h z hz
    rw [Bool.or_eq_true, decide_eq_true_eq]
    by_cases q : z ≤ x
    · refine Or.inr (decide_eq_true (h z ?_))
      rcases mem_all.1 hz with (t | t) | ⟨k, k1, k2⟩ | ⟨k, k1, k2⟩
      · exact Or.inl t
      · exact Or.inr (Or.inl t)
      · exact Or.inr (Or.inr (Or.inl ⟨k, k1, ⟨(knot_nn ha k1).1, by omega⟩, k2⟩))
      · exact Or.inr (Or.inr (Or.inr ⟨k, k1, ⟨(knot_nn hb k1).1, by omega⟩, k2⟩))
    · exact Or.inl q
theorem span_le {l : List Knot} {b : Int} (h : Span l b) {k : Knot} (hk : k ∈ l) : k.At ≤ b := by
  obtain ⟨i, h1, h2⟩ := mem_kn hk
  have g := (lineErr_good h.d).1
  by_cases q : i = l.length - 1
  · have : (kn l ((l.length : Int) - 1)).At = k.At := by rw [← h2, q]; congr 2; omega
    rw [← h.t, this]; omega
  · have := g.lt (i := i) (j := l.length - 1) (by omega) (by omega)
    rw [show ((l.length - 1 : Nat) : Int) = (l.length : Int) - 1 by omega, h.t, h2] at this
    omega
theorem cov_far {a b : List Knot} {x : Int} (ha : Span a x) (hb : Span b x) (hx : 0 ≤ x ∧ x ≤ 1099511627776) : covV a b 0 x = covV a b 0 1099511627776 := by
  refine Bool.eq_iff_iff.2 ?_
  rw [covV_iff, covV_iff]
  have e1 := span_b ha (Int.le_refl x)
  have e2 := span_b hb (Int.le_refl x)
  have f1 := span_b ha hx.2
  have f2 := span_b hb hx.2
  constructor
  · intro h z hz
    rcases hz with q | q | ⟨k, k1, k2, k3⟩ | ⟨k, k1, k2, k3⟩
    · exact h z (Or.inl q)
    · subst q
      have := h x (Or.inr (Or.inl rfl))
      omega
    · exact h z (Or.inr (Or.inr (Or.inl ⟨k, k1, ⟨k2.1, span_le ha k1⟩, k3⟩)))
    · exact h z (Or.inr (Or.inr (Or.inr ⟨k, k1, ⟨k2.1, span_le hb k1⟩, k3⟩)))
  · intro h z hz
    rcases hz with q | q | ⟨k, k1, k2, k3⟩ | ⟨k, k1, k2, k3⟩
    · exact h z (Or.inl q)
    · subst q
      have := h 1099511627776 (Or.inr (Or.inl rfl))
      omega
    · exact h z (Or.inr (Or.inr (Or.inl ⟨k, k1, ⟨k2.1, by omega⟩, k3⟩)))
    · exact h z (Or.inr (Or.inr (Or.inr ⟨k, k1, ⟨k2.1, by omega⟩, k3⟩)))
theorem trE_0 {p f : List Knot} {b : Int} (h : trE p f b = 0) : Span p b ∧ Span f b := by
  unfold trE at h
  split at h
  · omega
  · split at h
    · omega
    · split at h
      · rename_i h1 h2 h3
        exact ⟨⟨by omega, h3.1, h3.2.1⟩, ⟨by omega, h3.2.2.1, h3.2.2.2⟩⟩
      · omega
noncomputable def fitV (e : Earth) (p f : List Knot) : Bool := decide (eErr e = 0) && (decide (trE p f e.Bottom = 0) && (grwL e.GLo e.GHi p && (grwL e.GLo e.GHi f && (covV f p 0 e.Bottom && (covV p e.PoreLo.Knots 0 e.Bottom && (covV e.PoreHi.Knots p 0 e.Bottom && (covV f e.FracLo.Knots 0 e.Bottom && (covV e.FracHi.Knots f 0 e.Bottom && e.Reports.all (agB p f)))))))))
theorem bT {x : Bool} (h : (!x) = false) : x = true := by simpa using h
theorem bF {x : Bool} (h : (!x) = true) : x = false := by simpa using h
theorem andR {q r : Bool} {t : Tree (AV T)} (h : q = true → t.holds fun v => v = .bool r) : (Tree.br q t (.leaf (.bool false))).holds fun v => v = (.bool (q && r) : AV T) := by
  refine wayB (fun k => ?_) fun k => ?_
  · rw [k, Bool.true_and]; exact h k
  · rw [k, Bool.false_and]; rfl
theorem andN {q r : Bool} {t : Tree (AV T)} (h : q = true → t.holds fun v => v = .bool r) : (Tree.br (!q) (.leaf (.bool false)) t).holds fun v => v = (.bool (q && r) : AV T) := by
  refine wayB (fun k => ?_) fun k => ?_
  · rw [bF k, Bool.false_and]; rfl
  · rw [bT k, Bool.true_and]; exact h (bT k)
theorem andE {n : Int} {r : Bool} {t : Tree (AV T)} (h : n = 0 → t.holds fun v => v = .bool r) : (Tree.br (n != 0) (.leaf (.bool false)) t).holds fun v => v = (.bool (decide (n = 0) && r) : AV T) := by
  refine wayNe (fun k => ?_) fun k => ?_
  · rw [decide_eq_false k, Bool.false_and]; rfl
  · rw [decide_eq_true k, Bool.true_and]; exact h k
theorem eOk_b {e : Earth} (o : EOk e) : 0 ≤ e.Bottom ∧ e.Bottom ≤ 1099511627776 := by
  have := o.num
  unfold okN at this
  omega
theorem any_all {e : Earth} {p f : List Knot} : (!e.Reports.any (dis p f)) = e.Reports.all (agB p f) := by
  induction e.Reports with
  | nil => rfl
  | cons r l ih =>
    rw [List.any_cons, List.all_cons, ← ih, Bool.not_or]
    show (!!agB p f r && _) = _
    rw [Bool.not_not]
theorem s46 (e : Earth) (p f : List Knot) : (runX ctFit noLoops 46 [e.av, .agg [.sl 78 p false, .sl 78 f false]] [4]).holds fun v => v = .bool (fitV e p f) := by
  rw [tv46]
  unfold fitV
  refine andE fun h1 => andE fun h2 => ?_
  have o : EOk e := eErr_ok h1
  have hb := eOk_b o
  obtain ⟨sp, sf⟩ := trE_0 h2
  have lp := lineErr_len sp.d
  have lf := lineErr_len sf.d
  refine ⟨by omega, andN fun _ => ⟨by omega, andN fun _ => ?_⟩⟩
  have ea : above f p = covV f p 0 e.Bottom := by
    rw [cov_far sf sp hb, cov_ab (Or.inl sf.d) (Or.inl sp.d)]
    exact above_ab (Or.inl sf.d) (Or.inl sp.d)
  rw [ea]
  refine andN fun _ => ⟨⟨Or.inl sp.d, Or.inl o.l1⟩, andR fun _ => ⟨⟨Or.inl o.l2, Or.inl sp.d⟩, andR fun _ => ⟨⟨Or.inl sf.d, Or.inl o.l3⟩, andR fun _ => ⟨⟨Or.inl o.l4, Or.inl sf.d⟩, andR fun _ => ⟨⟨o.len, Or.inl sp.d, Or.inl sf.d⟩, ?_⟩⟩⟩⟩⟩
  exact congrArg AV.bool any_all
theorem sw5 {a b c d x r : Bool} : (b && (c && (d && (x && (a && r))))) = (a && (b && (c && (d && (x && r))))) := by
  cases a <;> cases b <;> cases c <;> cases d <;> cases x <;> rfl
theorem s47 (e : Earth) (p f : List Knot) : (runX ctFit noLoops 47 [e.av, .agg [.sl 78 p false, .sl 78 f false]] [4]).holds fun v => v = .bool (fitV e p f) := by
  rw [tv47]
  unfold fitV
  refine andE fun h1 => andE fun h2 => ?_
  have o : EOk e := eErr_ok h1
  have hb := eOk_b o
  obtain ⟨sp, sf⟩ := trE_0 h2
  have lp := lineErr_len sp.d
  have lf := lineErr_len sf.d
  refine ⟨by omega, andN fun _ => ⟨by omega, andN fun _ => ?_⟩⟩
  rw [← sw5]
  rw [ov_cov sp.d o.l1 hb.1, ov_cov o.l2 sp.d hb.1, ov_cov sf.d o.l3 hb.1, ov_cov o.l4 sf.d hb.1, ov_cov sf.d sp.d hb.1]
  exact ⟨⟨⟨sp.d, o.l1⟩, ex_all sp.d o.l1 (Or.inl sp)⟩, andR fun _ => ⟨⟨⟨o.l2, sp.d⟩, ex_all o.l2 sp.d (Or.inr sp)⟩, andR fun _ => ⟨⟨⟨sf.d, o.l3⟩, ex_all sf.d o.l3 (Or.inl sf)⟩, andR fun _ => ⟨⟨⟨o.l4, sf.d⟩, ex_all o.l4 sf.d (Or.inr sf)⟩, andR fun _ => ⟨⟨⟨sf.d, sp.d⟩, ex_all sf.d sp.d (Or.inl sf)⟩, andR fun _ => ⟨⟨⟨⟨Or.inl sp.d, Or.inl sf.d⟩, by decide, o.len⟩, fun r hr => (o.rep r hr).1⟩, rfl⟩⟩⟩⟩⟩⟩
noncomputable def cFit : Con T := conV Try.prog [shE, .agg [.s 78, .s 78]] [.n, .l 78, .l 78, .l 78, .l 78, .n, .n, .l 55, .l 78, .l 78] fun d => .bool (fitV ⟨d.1, ⟨d.2.1⟩, ⟨d.2.2.1⟩, ⟨d.2.2.2.1⟩, ⟨d.2.2.2.2.1⟩, d.2.2.2.2.2.1, d.2.2.2.2.2.2.1, d.2.2.2.2.2.2.2.1⟩ d.2.2.2.2.2.2.2.2.1 d.2.2.2.2.2.2.2.2.2.1)
theorem fit_ok : ConOk Try.prog E 46 cFit := conV_ok fun d => fact_run ctFit_ok noLoops_ok (ts := [4]) rfl (s46 ⟨d.1, ⟨d.2.1⟩, ⟨d.2.2.1⟩, ⟨d.2.2.2.1⟩, ⟨d.2.2.2.2.1⟩, d.2.2.2.2.2.1, d.2.2.2.2.2.2.1, d.2.2.2.2.2.2.2.1⟩ d.2.2.2.2.2.2.2.2.1 d.2.2.2.2.2.2.2.2.2.1)
theorem fit2_ok : ConOk Try.prog E 47 cFit := conV_ok fun d => fact_run ctFit_ok noLoops_ok (ts := [4]) rfl (s47 ⟨d.1, ⟨d.2.1⟩, ⟨d.2.2.1⟩, ⟨d.2.2.2.1⟩, ⟨d.2.2.2.2.1⟩, d.2.2.2.2.2.1, d.2.2.2.2.2.2.1, d.2.2.2.2.2.2.2.1⟩ d.2.2.2.2.2.2.2.2.1 d.2.2.2.2.2.2.2.2.2.1)
noncomputable def ctE7 : CTab T := [(46, cFit), (47, cFit), (17, cAwake)]
theorem ctE7_ok : CTabOk Try.prog E ctE7 := .cons fit_ok (.cons fit2_ok (.cons awake_ok .nil))
theorem tv7 (e : Earth) (p f : List Knot) : runX ctE7 noLoops 7 [e.av, .agg [.sl 78 p false, .sl 78 f false]] [4] =
  (.br (decide ((↑(List.length (Line.Knots (Earth.PoreLo e))) : Int) ≤ (26 : Int)))
   (.br (decide ((↑(List.length (Line.Knots (Earth.PoreHi e))) : Int) ≤ (26 : Int)))
    (.br (decide ((↑(List.length (Line.Knots (Earth.FracLo e))) : Int) ≤ (26 : Int)))
     (.br (decide ((↑(List.length (Line.Knots (Earth.FracHi e))) : Int) ≤ (26 : Int)))
      (.br (!decide ((↑(List.length (Earth.Reports e)) : Int) ≤ (26 : Int)))
       (.leaf (.bool (true)))
       (.br (!decide ((↑(List.length p) : Int) ≤ (26 : Int)))
        (.leaf (.bool (true)))
        (.br (!decide ((↑(List.length f) : Int) ≤ (26 : Int)))
         (.leaf (.bool (true)))
         (.br (fitV (Earth.mk (Earth.Bottom e) (Line.mk (Line.Knots (Earth.PoreLo e))) (Line.mk (Line.Knots (Earth.PoreHi e))) (Line.mk (Line.Knots (Earth.FracLo e))) (Line.mk (Line.Knots (Earth.FracHi e))) (Earth.GLo e) (Earth.GHi e) (Earth.Reports e)) p f == fitV (Earth.mk (Earth.Bottom e) (Line.mk (Line.Knots (Earth.PoreLo e))) (Line.mk (Line.Knots (Earth.PoreHi e))) (Line.mk (Line.Knots (Earth.FracLo e))) (Line.mk (Line.Knots (Earth.FracHi e))) (Earth.GLo e) (Earth.GHi e) (Earth.Reports e)) p f)
          (.leaf (.bool (true)))
          (.leaf (.bool (false)))))))
      (.leaf (.bool (true))))
     (.leaf (.bool (true))))
    (.leaf (.bool (true))))
   (.leaf (.bool (true)))) := by kernel_rfl
end Go.Proofs.Ytdlholmphenhhaa.W
