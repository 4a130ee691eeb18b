/- Earths: the first error. No condition. -/
import Derived.Test.YtdlholmphenhhaaV5
set_option linter.unusedVariables false
set_option maxRecDepth 100000
noncomputable section
namespace Go.Proofs.Ytdlholmphenhhaa.W
open Go Go.Cx Go.RowKit
noncomputable def ri (l : List Report) (i : Int) : Report := ixD E 55 l i
theorem drop_ri {l : List Report} {i : Nat} (h : i < l.length) : l.drop i = ri l i :: l.drop (i + 1) := drop_ix (E := E) (τ := 55) h
@[reducible] def shE : Sh := .agg [.i .i64, .s 78, .s 78, .s 78, .s 78, .i .i64, .i .i64, .s 55]
@[reducible] def sigE : List VT := [.n, .l 78, .l 78, .l 78, .l 78, .n, .n, .l 55]
@[reducible] noncomputable def eOf (d : Den T sigE) : Earth := ⟨d.1, ⟨d.2.1⟩, ⟨d.2.2.1⟩, ⟨d.2.2.2.1⟩, ⟨d.2.2.2.2.1⟩, d.2.2.2.2.2.1, d.2.2.2.2.2.2.1, d.2.2.2.2.2.2.2.1⟩
noncomputable abbrev ctB : CTab T := (27, cAbove) :: (28, cAbove) :: ctA
theorem ctB_ok : CTabOk Try.prog E ctB := .cons above_ok (.cons above2_ok ctA_ok)
noncomputable def rErr (b : Int) (r : Report) : Int := if r.Kind < 1 ∨ r.Kind > 4 then 4 else if r.Z < 0 ∨ r.Z > b ∨ r.P < 0 ∨ r.P > 68719476736 then 2 else 0
@[reducible] noncomputable def cellsE : List Sh1 := [.i .i64, .s 78, .s 78, .s 78, .s 78, .i .i64, .i .i64, .s 55]
noncomputable def o31 (l : List Report) (n i b : Int) (l2 : List Report) : Tree (Ex × List (V T)) :=
  .req ((l = l2 ∧ n = l.length) ∧ 0 ≤ i ∧ l.length ≤ 1000) (.br (decide (firstE (rErr b) (l.drop i.toNat) = 0)) (.leaf (.exit 2, [])) (.leaf (.ret, [.n (firstE (rErr b) (l.drop i.toNat))])))
noncomputable def c31 : LoopC T := ⟨[.l 55, .n, .n, .n, .l 78, .l 78, .l 78, .l 78, .n, .n, .l 55], ⟨91, [(1, .one (.o 0 0)), (64, .one (.s 55)), (65, .one (.i .i64)), (66, .one (.i .i64))], [.c cellsE]⟩, fun e => match e with
    | .ret => ⟨91, [(2, .one (.i .i64))], []⟩
    | _ => ⟨91, [], []⟩, 10, fun d => o31 d.1 d.2.1 d.2.2.1 d.2.2.2.1 d.2.2.2.2.2.2.2.2.2.2.1⟩
noncomputable def c32 : LoopC T := ⟨[.n, .n, .l 78, .l 78, .l 78, .l 78, .n, .n, .l 55], ⟨122, [(1, .one (.o 0 0)), (6, .one (.i .i64))], [.c cellsE]⟩, fun e => match e with
    | .ret => ⟨122, [(2, .one (.i .i64))], []⟩
    | _ => ⟨122, [], []⟩, 10, fun d => o31 d.2.2.2.2.2.2.2.2.1 (d.2.2.2.2.2.2.2.2.1 : List Report).length d.1 d.2.1 d.2.2.2.2.2.2.2.2.1⟩
theorem b31 (l : List Report) (n i b : Int) (p q r s : List Knot) (x y : Int) (l2 : List Report) : bodyD Try.prog E c31 0 (bodyX Try.prog E ctB noLoops 1000 5 L0 (lpOf Try.prog 31 1)) (l, n, i, b, p, q, r, s, x, y, l2, ()) =
  (.br (decide (i < n))
   (.req ((decide ((0 : Int) ≤ i) && decide (i < (↑(List.length l) : Int))) = true)
   (.br (decide (Report.Kind (ri l i) < (1 : Int)))
    (.leaf (.inr (.ret, [.n ((4 : Int))])))
    (.br (decide (Report.Kind (ri l i) > (4 : Int)))
     (.leaf (.inr (.ret, [.n ((4 : Int))])))
     (.br (!within (Report.Z (ri l i)) (0 : Int) b)
      (.leaf (.inr (.ret, [.n ((2 : Int))])))
      (.br (!within (Report.P (ri l i)) (0 : Int) (68719476736 : Int))
       (.leaf (.inr (.ret, [.n ((2 : Int))])))
       (.leaf (.inl (l, (n, (IntKind.wrap IntKind.i64 (i + (1 : Int)), (b, (p, (q, (r, (s, (x, (y, (l2, ()))))))))))))))))))
   (.leaf (.inr (.exit (2 : Nat), [])))) := by kernel_rfl
theorem b32 (i b : Int) (p q r s : List Knot) (x y : Int) (l2 : List Report) : bodyD Try.prog E c32 0 (bodyX Try.prog E ctB noLoops 1000 5 L0 (lpOf Try.prog 32 1)) (i, b, p, q, r, s, x, y, l2, ()) =
  (.br (decide (i < (↑(List.length l2) : Int)))
   (.req ((decide ((0 : Int) ≤ i) && decide (i < (↑(List.length l2) : Int))) = true)
   (.br (decide (Report.Kind (ri l2 i) < (1 : Int)))
    (.leaf (.inr (.ret, [.n ((4 : Int))])))
    (.br (decide (Report.Kind (ri l2 i) > (4 : Int)))
     (.leaf (.inr (.ret, [.n ((4 : Int))])))
     (.br (decide (Report.Z (ri l2 i) < (0 : Int)))
      (.leaf (.inr (.ret, [.n ((2 : Int))])))
      (.br (decide (Report.Z (ri l2 i) > b))
       (.leaf (.inr (.ret, [.n ((2 : Int))])))
       (.br (decide (Report.P (ri l2 i) < (0 : Int)))
        (.leaf (.inr (.ret, [.n ((2 : Int))])))
        (.br (decide (Report.P (ri l2 i) > (68719476736 : Int)))
         (.leaf (.inr (.ret, [.n ((2 : Int))])))
         (.leaf (.inl (IntKind.wrap IntKind.i64 (i + (1 : Int)), (b, (p, (q, (r, (s, (x, (y, (l2, ()))))))))))))))))))
   (.leaf (.inr (.exit (2 : Nat), [])))) := by kernel_rfl
theorem tv31 (e : Earth) : runX ctB (llOf Try.prog E 31 [(15, c31)]) 31 [e.av] [27] =
  (.br (!within (Earth.Bottom e) (1 : Int) (1048576 : Int))
   (.leaf (.sym .i64 ((2 : Int))))
   (.br (!within (Earth.GHi e) (0 : Int) (40000 : Int))
    (.leaf (.sym .i64 ((2 : Int))))
    (.br (!within (Earth.GLo e) (0 : Int) (Earth.GHi e))
     (.leaf (.sym .i64 ((2 : Int))))
     (.br (lineErr (Line.Knots (Earth.PoreLo e)) (1048576 : Int) (68719476736 : Int) != (0 : Int))
      (.leaf (.sym .i64 (lineErr (Line.Knots (Earth.PoreLo e)) (1048576 : Int) (68719476736 : Int))))
      (.br (lineErr (Line.Knots (Earth.PoreHi e)) (1048576 : Int) (68719476736 : Int) != (0 : Int))
       (.leaf (.sym .i64 (lineErr (Line.Knots (Earth.PoreHi e)) (1048576 : Int) (68719476736 : Int))))
       (.br (lineErr (Line.Knots (Earth.FracLo e)) (1048576 : Int) (68719476736 : Int) != (0 : Int))
        (.leaf (.sym .i64 (lineErr (Line.Knots (Earth.FracLo e)) (1048576 : Int) (68719476736 : Int))))
        (.br (lineErr (Line.Knots (Earth.FracHi e)) (1048576 : Int) (68719476736 : Int) != (0 : Int))
         (.leaf (.sym .i64 (lineErr (Line.Knots (Earth.FracHi e)) (1048576 : Int) (68719476736 : Int))))
         (.br (!above (Line.Knots (Earth.PoreHi e)) (Line.Knots (Earth.PoreLo e)))
          (.leaf (.sym .i64 ((12 : Int))))
          (.br (!above (Line.Knots (Earth.FracHi e)) (Line.Knots (Earth.FracLo e)))
           (.leaf (.sym .i64 ((12 : Int))))
           (.br (!above (Line.Knots (Earth.FracHi e)) (Line.Knots (Earth.PoreLo e)))
            (.leaf (.sym .i64 ((12 : Int))))
            (.br (decide ((↑(List.length (Earth.Reports e)) : Int) > (24 : Int)))
             (.leaf (.sym .i64 ((8 : Int))))
             (.req ((Earth.Reports e = Earth.Reports e ∧ (↑(List.length (Earth.Reports e)) : Int) = (↑(List.length (Earth.Reports e)) : Int)) ∧ (0 : Int) ≤ (0 : Int) ∧ List.length (Earth.Reports e) ≤ (1000 : Nat))
             (.br (decide (firstE (rErr (Earth.Bottom e)) (List.drop (Int.toNat (0 : Int)) (Earth.Reports e)) = (0 : Int)))
              (.leaf (.sym .i64 ((0 : Int))))
              (.leaf (.sym .i64 (firstE (rErr (Earth.Bottom e)) (List.drop (Int.toNat (0 : Int)) (Earth.Reports e)))))))))))))))))) := by kernel_rfl
theorem tv32 (e : Earth) : runX ctB (llOf Try.prog E 32 [(15, c32)]) 32 [e.av] [27] =
  (.br (decide (Earth.Bottom e < (1 : Int)))
   (.leaf (.sym .i64 ((2 : Int))))
   (.br (decide (Earth.Bottom e > (1048576 : Int)))
    (.leaf (.sym .i64 ((2 : Int))))
    (.br (decide (Earth.GLo e < (0 : Int)))
     (.leaf (.sym .i64 ((2 : Int))))
     (.br (decide (Earth.GLo e > Earth.GHi e))
      (.leaf (.sym .i64 ((2 : Int))))
      (.br (decide (Earth.GHi e > (40000 : Int)))
       (.leaf (.sym .i64 ((2 : Int))))
       (.br (lineErr (Line.Knots (Earth.PoreLo e)) (1048576 : Int) (68719476736 : Int) != (0 : Int))
        (.leaf (.sym .i64 (lineErr (Line.Knots (Earth.PoreLo e)) (1048576 : Int) (68719476736 : Int))))
        (.br (lineErr (Line.Knots (Earth.PoreHi e)) (1048576 : Int) (68719476736 : Int) != (0 : Int))
         (.leaf (.sym .i64 (lineErr (Line.Knots (Earth.PoreHi e)) (1048576 : Int) (68719476736 : Int))))
         (.br (lineErr (Line.Knots (Earth.FracLo e)) (1048576 : Int) (68719476736 : Int) != (0 : Int))
          (.leaf (.sym .i64 (lineErr (Line.Knots (Earth.FracLo e)) (1048576 : Int) (68719476736 : Int))))
          (.br (lineErr (Line.Knots (Earth.FracHi e)) (1048576 : Int) (68719476736 : Int) != (0 : Int))
           (.leaf (.sym .i64 (lineErr (Line.Knots (Earth.FracHi e)) (1048576 : Int) (68719476736 : Int))))
           (.req (isR (Line.Knots (Earth.PoreHi e)) ∧ isR (Line.Knots (Earth.PoreLo e)))
           (.br (!abB (Line.Knots (Earth.PoreHi e)) (Line.Knots (Earth.PoreLo e)))
            (.leaf (.sym .i64 ((12 : Int))))
            (.req (isR (Line.Knots (Earth.FracHi e)) ∧ isR (Line.Knots (Earth.FracLo e)))
            (.br (!abB (Line.Knots (Earth.FracHi e)) (Line.Knots (Earth.FracLo e)))
             (.leaf (.sym .i64 ((12 : Int))))
             (.req (isR (Line.Knots (Earth.FracHi e)) ∧ isR (Line.Knots (Earth.PoreLo e)))
             (.br (!abB (Line.Knots (Earth.FracHi e)) (Line.Knots (Earth.PoreLo e)))
              (.leaf (.sym .i64 ((12 : Int))))
              (.br (decide ((↑(List.length (Earth.Reports e)) : Int) > (24 : Int)))
               (.leaf (.sym .i64 ((8 : Int))))
               (.req ((Earth.Reports e = Earth.Reports e ∧ (↑(List.length (Earth.Reports e)) : Int) = (↑(List.length (Earth.Reports e)) : Int)) ∧ (0 : Int) ≤ (0 : Int) ∧ List.length (Earth.Reports e) ≤ (1000 : Nat))
               (.br (decide (firstE (rErr (Earth.Bottom e)) (List.drop (Int.toNat (0 : Int)) (Earth.Reports e)) = (0 : Int)))
                (.leaf (.sym .i64 ((0 : Int))))
                (.leaf (.sym .i64 (firstE (rErr (Earth.Bottom e)) (List.drop (Int.toNat (0 : Int)) (Earth.Reports e))))))))))))))))))))))) := by kernel_rfl
theorem h31' (l : List Report) (i : Nat) (b : Int) (p q r s : List Knot) (x y : Int) (K : Ex × List (V T) → Prop) (hl : l.length ≤ 1000) (hK : (Tree.br (decide (firstE (rErr b) (l.drop i) = 0)) (.leaf (.exit 2, [])) (.leaf (.ret, [.n (firstE (rErr b) (l.drop i))])) : Tree (Ex × List (V T))).holds K) :
    (bodyD Try.prog E c31 0 (bodyX Try.prog E ctB noLoops 1000 5 L0 (lpOf Try.prog 31 1)) (l, (l.length : Int), (i : Int), b, p, q, r, s, x, y, l, ())).holds fun y => match y with
    | .inl d' => ((d'.1.length : Int) - d'.2.2.1).toNat < ((l.length : Int) - (i : Int)).toNat ∧ (c31.out d').holds K
    | .inr y => K y := by
  rw [b31]
  refine way (fun c => wayC (by omega) c fun _ _ => ?_) fun c => ?_
  · rw [drop_ri (by omega), firstE_cons] at hK
    have bad : ∀ n : Int, n ≠ 0 → rErr b (ri l i) = n → K (.ret, [.n n]) := fun n hn e => by
      rw [e, if_neg hn] at hK
      exact hK.2 (decide_eq_false hn)
    refine way (fun h => bad 4 (by decide) ?_) fun h1 => way (fun h => bad 4 (by decide) ?_) fun h2 => wayN (fun h => bad 2 (by decide) ?_) fun h3 => wayN (fun h => bad 2 (by decide) ?_) fun h4 => ?_
    · unfold rErr; rw [if_pos (by omega)]
    · unfold rErr; rw [if_pos (by omega)]
    · unfold rErr; rw [if_neg (by omega), if_pos (by omega)]
    · unfold rErr; rw [if_neg (by omega), if_pos (by omega)]
    · have e : rErr b (ri l i) = 0 := by unfold rErr; rw [if_neg (by omega), if_neg (by omega)]
      rw [e, if_pos rfl] at hK
      have e2 : IntKind.wrap IntKind.i64 ((i : Int) + 1) = ((i + 1 : Nat) : Int) := i64_in' (by omega) (by omega)
      rw [e2]
      have hlt : ((l.length : Int) - ((i + 1 : Nat) : Int)).toNat < ((l.length : Int) - (i : Int)).toNat := by omega
      have h3 : (0 : Int) ≤ ((i + 1 : Nat) : Int) := by omega
      exact ⟨hlt, ⟨⟨rfl, rfl⟩, h3, hl⟩, hK⟩
  · rw [List.drop_eq_nil_of_le (by omega), firstE_nil] at hK
    exact hK.1 rfl
theorem h32' (l : List Report) (i : Nat) (b : Int) (p q r s : List Knot) (x y : Int) (K : Ex × List (V T) → Prop) (hl : l.length ≤ 1000) (hK : (Tree.br (decide (firstE (rErr b) (l.drop i) = 0)) (.leaf (.exit 2, [])) (.leaf (.ret, [.n (firstE (rErr b) (l.drop i))])) : Tree (Ex × List (V T))).holds K) :
    (bodyD Try.prog E c32 0 (bodyX Try.prog E ctB noLoops 1000 5 L0 (lpOf Try.prog 32 1)) ((i : Int), b, p, q, r, s, x, y, l, ())).holds fun y => match y with
    | .inl d' => ((d'.2.2.2.2.2.2.2.2.1.length : Int) - d'.1).toNat < ((l.length : Int) - (i : Int)).toNat ∧ (c32.out d').holds K
    | .inr y => K y := by
  rw [b32]
  refine way (fun c => wayC (by omega) c fun _ _ => ?_) fun c => ?_
  · rw [drop_ri (by omega), firstE_cons] at hK
    have bad : ∀ n : Int, n ≠ 0 → rErr b (ri l i) = n → K (.ret, [.n n]) := fun n hn e => by
      rw [e, if_neg hn] at hK
      exact hK.2 (decide_eq_false hn)
    have b4 : (ri l i).Kind < 1 ∨ (ri l i).Kind > 4 → rErr b (ri l i) = 4 := fun h => by unfold rErr; rw [if_pos h]
    have b2 : ¬ ((ri l i).Kind < 1 ∨ (ri l i).Kind > 4) → ((ri l i).Z < 0 ∨ (ri l i).Z > b ∨ (ri l i).P < 0 ∨ (ri l i).P > 68719476736) → rErr b (ri l i) = 2 := fun h h' => by unfold rErr; rw [if_neg h, if_pos h']
    refine way (fun h => bad 4 (by decide) (b4 (by omega))) fun h1 => way (fun h => bad 4 (by decide) (b4 (by omega))) fun h2 => way (fun h => bad 2 (by decide) (b2 (by omega) (by omega))) fun h3 => way (fun h => bad 2 (by decide) (b2 (by omega) (by omega))) fun h4 => way (fun h => bad 2 (by decide) (b2 (by omega) (by omega))) fun h5 => way (fun h => bad 2 (by decide) (b2 (by omega) (by omega))) fun h6 => ?_
    have e : rErr b (ri l i) = 0 := by unfold rErr; rw [if_neg (by omega), if_neg (by omega)]
    rw [e, if_pos rfl] at hK
    have e2 : IntKind.wrap IntKind.i64 ((i : Int) + 1) = ((i + 1 : Nat) : Int) := i64_in' (by omega) (by omega)
    rw [e2]
    have hlt : ((l.length : Int) - ((i + 1 : Nat) : Int)).toNat < ((l.length : Int) - (i : Int)).toNat := by omega
    have h3 : (0 : Int) ≤ ((i + 1 : Nat) : Int) := by omega
    exact ⟨hlt, ⟨⟨rfl, rfl⟩, h3, hl⟩, hK⟩
  · rw [List.drop_eq_nil_of_le (by omega), firstE_nil] at hK
    exact hK.1 rfl
theorem h31 : LoopH Try.prog E c31 0 (bodyX Try.prog E ctB noLoops 1000 5 L0 (lpOf Try.prog 31 1)) :=
  ⟨fun d => ((d.1.length : Int) - d.2.2.1).toNat, fun d K hK => by
    obtain ⟨l, n, i, b, p, q, r, s, x, y, l2, ⟨⟩⟩ := d
    obtain ⟨⟨⟨k1, k2⟩, k3, k4⟩, k5⟩ := hK
    obtain ⟨m, hm⟩ := Int.eq_ofNat_of_zero_le k3
    obtain rfl : i = (m : Int) := hm
    have k1 : (l : List Report) = l2 := k1
    subst k1
    obtain rfl : n = ((l : List Report).length : Int) := k2
    refine Tree.holds_mono (fun y hy => ?_) (h31' l m b p q r s x y K k4 k5)
    cases y with
    | inl d' => exact hy
    | inr y => exact hy⟩
theorem h32 : LoopH Try.prog E c32 0 (bodyX Try.prog E ctB noLoops 1000 5 L0 (lpOf Try.prog 32 1)) :=
  ⟨fun d => ((d.2.2.2.2.2.2.2.2.1.length : Int) - d.1).toNat, fun d K hK => by
    obtain ⟨i, b, p, q, r, s, x, y, l, ⟨⟩⟩ := d
    obtain ⟨⟨⟨k1, k2⟩, k3, k4⟩, k5⟩ := hK
    obtain ⟨m, hm⟩ := Int.eq_ofNat_of_zero_le k3
    obtain rfl : i = (m : Int) := hm
    refine Tree.holds_mono (fun y hy => ?_) (h32' l m b p q r s x y K k4 k5)
    cases y with
    | inl d' => exact hy
    | inr y => exact hy⟩
theorem ll31 : LLOk Try.prog E (llOf Try.prog E 31 [(15, c31)]) := llOf_ok fun i hi c hc => by
  have hi : i < 2 := hi
  have : i = 0 ∨ i = 1 := by omega
  rcases this with rfl | rfl
  · exact absurd (show lkL (keyOfC (lpOf Try.prog 31 0)) [(15, c31)] = none by kernel_rfl) (by rw [hc]; simp)
  · obtain rfl : c31 = c := Option.some.inj hc
    exact LSnd.mk good names mixes ctB_ok (by decide) h31
theorem ll32 : LLOk Try.prog E (llOf Try.prog E 32 [(15, c32)]) := llOf_ok fun i hi c hc => by
  have hi : i < 2 := hi
  have : i = 0 ∨ i = 1 := by omega
  rcases this with rfl | rfl
  · exact absurd (show lkL (keyOfC (lpOf Try.prog 32 0)) [(15, c32)] = none by kernel_rfl) (by rw [hc]; simp)
  · obtain rfl : c32 = c := Option.some.inj hc
    exact LSnd.mk good names mixes ctB_ok (by decide) h32
/-! ### The first error of an earth -/
@[reducible] def okN (e : Earth) : Prop := (1 ≤ e.Bottom ∧ e.Bottom ≤ 1048576) ∧ (0 ≤ e.GHi ∧ e.GHi ≤ 40000) ∧ 0 ≤ e.GLo ∧ e.GLo ≤ e.GHi
@[reducible] noncomputable def lE (l : Line) : Int := lineErr l.Knots 1048576 68719476736
noncomputable def eTail (e : Earth) : Int :=
  if above e.PoreHi.Knots e.PoreLo.Knots = false then 12 else if above e.FracHi.Knots e.FracLo.Knots = false then 12 else if above e.FracHi.Knots e.PoreLo.Knots = false then 12
  else if (e.Reports.length : Int) > 24 then 8 else firstE (rErr e.Bottom) e.Reports
noncomputable def eErr (e : Earth) : Int :=
  if okN e then (if lE e.PoreLo ≠ 0 then lE e.PoreLo else if lE e.PoreHi ≠ 0 then lE e.PoreHi else if lE e.FracLo ≠ 0 then lE e.FracLo else if lE e.FracHi ≠ 0 then lE e.FracHi else eTail e) else 2
theorem above_ab {a b : List Knot} (ha : isR a) (hb : isR b) : above a b = abB a b := by
  unfold above; rw [decide_eq_true ⟨ha, hb⟩, Bool.true_and]
theorem ee_2 {e : Earth} (h : ¬ okN e) : i64 2 = i64 (eErr e) := by unfold eErr; rw [if_neg h]
theorem ee_t {e : Earth} (h : okN e) (h1 : lE e.PoreLo = 0) (h2 : lE e.PoreHi = 0) (h3 : lE e.FracLo = 0) (h4 : lE e.FracHi = 0) : eErr e = eTail e := by
  unfold eErr; rw [if_pos h, if_neg (by omega), if_neg (by omega), if_neg (by omega), if_neg (by omega)]
noncomputable def rTree (e : Earth) : Tree (AV T) :=
  (.br (decide ((↑(List.length (Earth.Reports e)) : Int) > (24 : Int)))
   (.leaf (.sym .i64 ((8 : Int))))
   (.req ((Earth.Reports e = Earth.Reports e ∧ (↑(List.length (Earth.Reports e)) : Int) = (↑(List.length (Earth.Reports e)) : Int)) ∧ (0 : Int) ≤ (0 : Int) ∧ List.length (Earth.Reports e) ≤ (1000 : Nat))
   (.br (decide (firstE (rErr (Earth.Bottom e)) (List.drop (Int.toNat (0 : Int)) (Earth.Reports e)) = (0 : Int)))
    (.leaf (.sym .i64 ((0 : Int))))
    (.leaf (.sym .i64 (firstE (rErr (Earth.Bottom e)) (List.drop (Int.toNat (0 : Int)) (Earth.Reports e))))))))
theorem rTree_ok {e : Earth} (h : eErr e = if (e.Reports.length : Int) > 24 then 8 else firstE (rErr e.Bottom) e.Reports) : (rTree e).holds fun v => v = i64 (eErr e) := by
  unfold rTree
  refine way (fun k => ?_) fun k => ⟨⟨⟨rfl, rfl⟩, by decide, by omega⟩, way (fun k2 => ?_) fun k2 => ?_⟩
  · rw [h, if_pos k]; rfl
  · have k2 : firstE (rErr e.Bottom) e.Reports = 0 := k2
    rw [h, if_neg k, k2]; rfl
  · rw [h, if_neg k]; rfl
theorem s31 (e : Earth) : (runX ctB (llOf Try.prog E 31 [(15, c31)]) 31 [e.av] [27]).holds fun v => v = i64 (eErr e) := by
  rw [tv31]
  refine wayN (fun h => ee_2 (by omega)) fun n1 => wayN (fun h => ee_2 (by omega)) fun n2 => wayN (fun h => ee_2 (by omega)) fun n3 => ?_
  have ok : okN e := ⟨n1, n2, n3⟩
  refine wayNe (fun h => ?_) fun h1 => wayNe (fun h => ?_) fun h2 => wayNe (fun h => ?_) fun h3 => wayNe (fun h => ?_) fun h4 => wayB (fun h => ?_) fun h5 => wayB (fun h => ?_) fun h6 => wayB (fun h => ?_) fun h7 => ?_
  · show i64 _ = _
    unfold eErr; rw [if_pos ok, if_pos h]
  · show i64 _ = _
    unfold eErr; rw [if_pos ok, if_neg (fun k => k h1), if_pos h]
  · show i64 _ = _
    unfold eErr; rw [if_pos ok, if_neg (fun k => k h1), if_neg (fun k => k h2), if_pos h]
  · show i64 _ = _
    unfold eErr; rw [if_pos ok, if_neg (fun k => k h1), if_neg (fun k => k h2), if_neg (fun k => k h3), if_pos h]
  · show i64 12 = _
    rw [ee_t ok h1 h2 h3 h4]; unfold eTail; rw [if_pos (by simpa using h)]
  · show i64 12 = _
    rw [ee_t ok h1 h2 h3 h4]; unfold eTail; rw [if_neg (by simpa using h5), if_pos (by simpa using h)]
  · show i64 12 = _
    rw [ee_t ok h1 h2 h3 h4]; unfold eTail; rw [if_neg (by simpa using h5), if_neg (by simpa using h6), if_pos (by simpa using h)]
  · refine rTree_ok (e := e) ?_
    rw [ee_t ok h1 h2 h3 h4]; unfold eTail; rw [if_neg (by simpa using h5), if_neg (by simpa using h6), if_neg (by simpa using h7)]
theorem s32 (e : Earth) : (runX ctB (llOf Try.prog E 32 [(15, c32)]) 32 [e.av] [27]).holds fun v => v = i64 (eErr e) := by
  rw [tv32]
  refine way (fun h => ee_2 (by omega)) fun n1 => way (fun h => ee_2 (by omega)) fun n2 => way (fun h => ee_2 (by omega)) fun n3 => way (fun h => ee_2 (by omega)) fun n4 => way (fun h => ee_2 (by omega)) fun n5 => ?_
  have ok : okN e := by unfold okN; omega
  refine wayNe (fun h => ?_) fun h1 => wayNe (fun h => ?_) fun h2 => wayNe (fun h => ?_) fun h3 => wayNe (fun h => ?_) fun h4 => ⟨⟨.inl h2, .inl h1⟩, wayB (fun h => ?_) fun h5 => ⟨⟨.inl h4, .inl h3⟩, wayB (fun h => ?_) fun h6 => ⟨⟨.inl h4, .inl h1⟩, wayB (fun h => ?_) fun h7 => ?_⟩⟩⟩
  · show i64 _ = _
    unfold eErr; rw [if_pos ok, if_pos h]
  · show i64 _ = _
    unfold eErr; rw [if_pos ok, if_neg (fun k => k h1), if_pos h]
  · show i64 _ = _
    unfold eErr; rw [if_pos ok, if_neg (fun k => k h1), if_neg (fun k => k h2), if_pos h]
  · show i64 _ = _
    unfold eErr; rw [if_pos ok, if_neg (fun k => k h1), if_neg (fun k => k h2), if_neg (fun k => k h3), if_pos h]
  · show i64 12 = _
    rw [← above_ab (.inl h2) (.inl h1)] at h
    rw [ee_t ok h1 h2 h3 h4]; unfold eTail; rw [if_pos (by simpa using h)]
  · show i64 12 = _
    rw [← above_ab (.inl h2) (.inl h1)] at h5
    rw [← above_ab (.inl h4) (.inl h3)] at h
    rw [ee_t ok h1 h2 h3 h4]; unfold eTail; rw [if_neg (by simpa using h5), if_pos (by simpa using h)]
  · show i64 12 = _
    rw [← above_ab (.inl h2) (.inl h1)] at h5
    rw [← above_ab (.inl h4) (.inl h3)] at h6
    rw [← above_ab (.inl h4) (.inl h1)] at h
    rw [ee_t ok h1 h2 h3 h4]; unfold eTail; rw [if_neg (by simpa using h5), if_neg (by simpa using h6), if_pos (by simpa using h)]
  · rw [← above_ab (.inl h2) (.inl h1)] at h5
    rw [← above_ab (.inl h4) (.inl h3)] at h6
    rw [← above_ab (.inl h4) (.inl h1)] at h7
    refine rTree_ok (e := e) ?_
    rw [ee_t ok h1 h2 h3 h4]; unfold eTail; rw [if_neg (by simpa using h5), if_neg (by simpa using h6), if_neg (by simpa using h7)]
noncomputable def cCheck : Con T := conV Try.prog [shE] sigE fun d => i64 (eErr (eOf d))
theorem check_ok : ConOk Try.prog E 31 cCheck := conV_ok fun d => fact_run ctB_ok ll31 (ts := [27]) rfl (s31 (eOf d))
theorem check2_ok : ConOk Try.prog E 32 cCheck := conV_ok fun d => fact_run ctB_ok ll32 (ts := [27]) rfl (s32 (eOf d))
/-- What a valid earth is. -/
structure EOk (e : Earth) : Prop where
  num : okN e
  l1 : lE e.PoreLo = 0
  l2 : lE e.PoreHi = 0
  l3 : lE e.FracLo = 0
  l4 : lE e.FracHi = 0
  a1 : above e.PoreHi.Knots e.PoreLo.Knots = true
  a2 : above e.FracHi.Knots e.FracLo.Knots = true
  a3 : above e.FracHi.Knots e.PoreLo.Knots = true
  len : e.Reports.length ≤ 24
  rep : ∀ r ∈ e.Reports, (1 ≤ r.Kind ∧ r.Kind ≤ 4) ∧ (0 ≤ r.Z ∧ r.Z ≤ e.Bottom) ∧ 0 ≤ r.P ∧ r.P ≤ 68719476736
theorem firstE_zero {A : Type} {f : A → Int} : ∀ {l : List A}, firstE f l = 0 → ∀ x ∈ l, f x = 0
  | [], _, x, hx => by simp at hx
  | a :: l, h, x, hx => by
    rw [firstE_cons] at h
    split at h
    · rename_i h0
      rcases List.mem_cons.1 hx with rfl | hx
      · exact h0
      · exact firstE_zero h x hx
    · rename_i h0; exact absurd h h0
theorem eErr_ok {e : Earth} (h : eErr e = 0) : EOk e := by
  unfold eErr at h
  split at h
  case isFalse => omega
  rename_i n
  split at h
  · omega
  rename_i h1
  split at h
  · omega
  rename_i h2
  split at h
  · omega
  rename_i h3
  split at h
  · omega
  rename_i h4
  unfold eTail at h
  split at h
  · omega
  rename_i h5
  split at h
  · omega
  rename_i h6
  split at h
  · omega
  rename_i h7
  split at h
  · omega
  rename_i h8
  refine ⟨n, by omega, by omega, by omega, by omega, by simpa using h5, by simpa using h6, by simpa using h7, by omega, fun r hr => ?_⟩
  have := firstE_zero h r hr
  unfold rErr at this
  split at this
  · omega
  split at this
  · omega
  omega
end Go.Proofs.Ytdlholmphenhhaa.W
