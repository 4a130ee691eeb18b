/- EarthFits: growing lines, valid truths. No condition. -/
import Derived.Test.YtdlholmphenhhaaV2
set_option linter.unusedVariables false
set_option maxRecDepth 100000
set_option maxHeartbeats 4000000
noncomputable section
namespace Go.Proofs.Ytdlholmphenhhaa.W
open Go Go.Cx Go.RowKit
@[reducible] def wI (n : Int) : Int := IntKind.wrap IntKind.i64 n
noncomputable def stepG (lo hi : Int) (a b : Knot) : Bool := within (wI (b.V - a.V)) (wI (lo * wI (b.At - a.At))) (wI (hi * wI (b.At - a.At)))
noncomputable def grw (lo hi : Int) : Knot → List Knot → Bool
  | _, [] => true
  | a, b :: l => stepG lo hi a b && grw lo hi b l
noncomputable def grX (lo hi : Int) (l : List Knot) (i : Int) : Bool := grw lo hi (kn l (i - 1)) (l.drop i.toNat)
noncomputable def o77 (lo hi i : Int) (l : List Knot) : Tree (Ex × List (V T)) := .req (1 ≤ i ∧ l.length ≤ 1000) (.br (grX lo hi l i) (.leaf (.exit 0, [])) (.leaf (.ret, [.t false])))
noncomputable def c77 : LoopC T := ⟨[.n, .n, .n, .l 78], ⟨47, [(1, .one (.i .i64)), (2, .one (.i .i64)), (3, .one (.o 0 0)), (7, .one (.i .i64))], [.c [.s 78]]⟩, fun e => match e with
    | .ret => ⟨47, [(6, .one .b)], []⟩
    | _ => ⟨47, [], []⟩, 20, fun d => o77 d.1 d.2.1 d.2.2.1 d.2.2.2.1⟩
theorem b77 (lo hi i : Int) (l : List Knot) : bodyD Try.prog E c77 0 (bodyX Try.prog E [(60, cWithin)] noLoops 1000 5 L0 (lpOf Try.prog 77 0)) (lo, hi, i, l, ()) =
  (.br (decide (i < (↑(List.length l) : Int)))
   (.req ((decide ((0 : Int) ≤ IntKind.wrap IntKind.i64 (i - (1 : Int))) && decide (IntKind.wrap IntKind.i64 (i - (1 : Int)) < (↑(List.length l) : Int))) = true)
   (.req ((decide ((0 : Int) ≤ i) && decide (i < (↑(List.length l) : Int))) = true)
   (.br (!within (IntKind.wrap IntKind.i64 (Knot.V (kn l i) - Knot.V (kn l (IntKind.wrap IntKind.i64 (i - (1 : Int)))))) (IntKind.wrap IntKind.i64 (lo * IntKind.wrap IntKind.i64 (Knot.At (kn l i) - Knot.At (kn l (IntKind.wrap IntKind.i64 (i - (1 : Int))))))) (IntKind.wrap IntKind.i64 (hi * IntKind.wrap IntKind.i64 (Knot.At (kn l i) - Knot.At (kn l (IntKind.wrap IntKind.i64 (i - (1 : Int))))))))
    (.leaf (.inr (.ret, [.t (false)])))
    (.leaf (.inl (lo, (hi, (IntKind.wrap IntKind.i64 (i + (1 : Int)), (l, ())))))))))
   (.leaf (.inr (.exit (0 : Nat), [])))) := by kernel_rfl
noncomputable def o81 (i b lo hi : Int) (p q r s : List Knot) (rs : List Report) (l : List Knot) : Tree (Ex × List (V T)) := .req (1 ≤ i ∧ l.length ≤ 1000) (.br (grX lo hi l i) (.leaf (.exit 0, [])) (.leaf (.ret, [.t false])))
noncomputable def c81 : LoopC T := ⟨[.n, .n, .l 78, .l 78, .l 78, .l 78, .n, .n, .l 55, .l 78], ⟨57, [(2, .one (.o 0 0)), (3, .one (.o 1 0)), (5, .one (.i .i64))], [.c [.i .i64, .s 78, .s 78, .s 78, .s 78, .i .i64, .i .i64, .s 55], .c [.s 78]]⟩, fun e => match e with
    | .ret => ⟨57, [(4, .one .b)], []⟩
    | _ => ⟨57, [], []⟩, 20, fun d => o81 d.1 d.2.1 d.2.2.2.2.2.2.1 d.2.2.2.2.2.2.2.1 d.2.2.1 d.2.2.2.1 d.2.2.2.2.1 d.2.2.2.2.2.1 d.2.2.2.2.2.2.2.2.1 d.2.2.2.2.2.2.2.2.2.1⟩
theorem b81 (i b : Int) (p q r s : List Knot) (lo hi : Int) (rs : List Report) (l : List Knot) : bodyD Try.prog E c81 0 (bodyX Try.prog E [] noLoops 1000 5 L0 (lpOf Try.prog 81 0)) (i, b, p, q, r, s, lo, hi, rs, l, ()) =
  (.br (decide (i < (↑(List.length l) : Int)))
   (.req ((decide ((0 : Int) ≤ i) && decide (i < (↑(List.length l) : Int))) = true)
   (.req ((decide ((0 : Int) ≤ IntKind.wrap IntKind.i64 (i - (1 : Int))) && decide (IntKind.wrap IntKind.i64 (i - (1 : Int)) < (↑(List.length l) : Int))) = true)
   (.req ((decide ((0 : Int) ≤ i) && decide (i < (↑(List.length l) : Int))) = true)
   (.req ((decide ((0 : Int) ≤ IntKind.wrap IntKind.i64 (i - (1 : Int))) && decide (IntKind.wrap IntKind.i64 (i - (1 : Int)) < (↑(List.length l) : Int))) = true)
   (.br (decide (IntKind.wrap IntKind.i64 (Knot.V (kn l i) - Knot.V (kn l (IntKind.wrap IntKind.i64 (i - (1 : Int))))) < IntKind.wrap IntKind.i64 (lo * IntKind.wrap IntKind.i64 (Knot.At (kn l i) - Knot.At (kn l (IntKind.wrap IntKind.i64 (i - (1 : Int))))))))
    (.leaf (.inr (.ret, [.t (false)])))
    (.br (decide (IntKind.wrap IntKind.i64 (Knot.V (kn l i) - Knot.V (kn l (IntKind.wrap IntKind.i64 (i - (1 : Int))))) > IntKind.wrap IntKind.i64 (hi * IntKind.wrap IntKind.i64 (Knot.At (kn l i) - Knot.At (kn l (IntKind.wrap IntKind.i64 (i - (1 : Int))))))))
     (.leaf (.inr (.ret, [.t (false)])))
     (.leaf (.inl (IntKind.wrap IntKind.i64 (i + (1 : Int)), (b, (p, (q, (r, (s, (lo, (hi, (rs, (l, ()))))))))))))))))))
   (.leaf (.inr (.exit (0 : Nat), [])))) := by kernel_rfl
theorem drop_kk {l : List Knot} {i : Nat} (h : i < l.length) : l.drop i = kn l i :: l.drop (i + 1) := drop_ix (E := E) (τ := 78) h
theorem grX_cons {lo hi : Int} {l : List Knot} {i : Nat} (h : (i : Int) < l.length) : grX lo hi l i = (stepG lo hi (kn l ((i : Int) - 1)) (kn l i) && grX lo hi l ((i + 1 : Nat) : Int)) := by
  unfold grX
  rw [show (((i + 1 : Nat) : Int)).toNat = i + 1 from Int.toNat_natCast _, show ((i + 1 : Nat) : Int) - 1 = (i : Int) by omega, show (i : Int).toNat = i from Int.toNat_natCast i]
  rw [drop_kk (by omega)]; rfl
theorem grX_end {lo hi : Int} {l : List Knot} {i : Nat} (h : ¬ (i : Int) < l.length) : grX lo hi l i = true := by
  unfold grX
  rw [show (i : Int).toNat = i from Int.toNat_natCast i, List.drop_eq_nil_of_le (by omega)]; rfl
theorem ctL1_ok : CTabOk Try.prog E [(60, cWithin)] := .cons within_ok .nil
theorem h77' (lo hi : Int) (i : Nat) (l : List Knot) (K : Ex × List (V T) → Prop) (h1 : 1 ≤ (i : Int)) (hl : l.length ≤ 1000) (hK : (Tree.br (grX lo hi l i) (.leaf (.exit 0, [])) (.leaf (.ret, [.t false])) : Tree (Ex × List (V T))).holds K) :
    (bodyD Try.prog E c77 0 (bodyX Try.prog E [(60, cWithin)] noLoops 1000 5 L0 (lpOf Try.prog 77 0)) (lo, hi, (i : Int), l, ())).holds fun y => match y with
    | .inl d => ((d.2.2.2.1.length : Int) - d.2.2.1).toNat < ((l.length : Int) - (i : Int)).toNat ∧ (c77.out d).holds K
    | .inr y => K y := by
  rw [b77]
  have e3 : (i : Int) < l.length → IntKind.wrap IntKind.i64 ((i : Int) - 1) = (i : Int) - 1 := fun h => i64_in' (by omega) (by omega)
  refine way (fun c => ?_) fun c => ?_
  · have e2 : IntKind.wrap IntKind.i64 ((i : Int) + 1) = ((i + 1 : Nat) : Int) := i64_in' (by omega) (by omega)
    rw [e2, e3 c]
    rw [grX_cons c] at hK
    have hlt : ((l.length : Int) - ((i + 1 : Nat) : Int)).toNat < ((l.length : Int) - (i : Int)).toNat := by omega
    have h3 : (1 : Int) ≤ ((i + 1 : Nat) : Int) := by omega
    have no : stepG lo hi (kn l ((i : Int) - 1)) (kn l i) = false → K (.ret, [.t false]) := fun q => by
      rw [q, Bool.false_and] at hK; exact hK.2 rfl
    have yes : stepG lo hi (kn l ((i : Int) - 1)) (kn l i) = true → (Tree.br (grX lo hi l ((i + 1 : Nat) : Int)) (.leaf (.exit 0, [])) (.leaf (.ret, [.t false])) : Tree (Ex × List (V T))).holds K := fun q => by
      rw [q, Bool.true_and] at hK; exact hK
    refine wayC (by omega) (by omega) fun _ _ => wayC (by omega) c fun _ _ => wayB (fun q => no ?_) fun q => ⟨hlt, ⟨h3, hl⟩, yes ?_⟩
    · cases e : stepG lo hi (kn l ((i : Int) - 1)) (kn l i) with
      | false => rfl
      | true =>
        have q : (!stepG lo hi (kn l ((i : Int) - 1)) (kn l i)) = true := q
        rw [e] at q; exact absurd q (by decide)
    · cases e : stepG lo hi (kn l ((i : Int) - 1)) (kn l i) with
      | true => rfl
      | false =>
        have q : (!stepG lo hi (kn l ((i : Int) - 1)) (kn l i)) = false := q
        rw [e] at q; exact absurd q (by decide)
  · rw [grX_end c] at hK
    exact hK.1 rfl
theorem h77 : LoopH Try.prog E c77 0 (bodyX Try.prog E [(60, cWithin)] noLoops 1000 5 L0 (lpOf Try.prog 77 0)) :=
  ⟨fun d => ((d.2.2.2.1.length : Int) - d.2.2.1).toNat, fun d K hK => by
    obtain ⟨lo, hi, i, l, ⟨⟩⟩ := d
    obtain ⟨⟨k1, k3⟩, k4⟩ := hK
    obtain ⟨j, hj⟩ := Int.eq_ofNat_of_zero_le (a := i) (Int.le_trans (by decide) k1)
    obtain rfl : i = (j : Int) := hj
    refine Tree.holds_mono (fun y hy => ?_) (h77' lo hi j l K k1 k3 k4)
    cases y with
    | inl d' => exact hy
    | inr y => exact hy⟩
theorem ll77 : LLOk Try.prog E (llOf Try.prog E 77 [(2, c77)]) := llOf_ok fun i hi c hc => by
  have hi : i < 1 := hi
  obtain rfl : i = 0 := by omega
  obtain rfl : c77 = c := Option.some.inj hc
  exact LSnd.mk good names mixes ctL1_ok (by decide) h77
theorem h81' (i : Nat) (b : Int) (p q r s : List Knot) (lo hi : Int) (rs : List Report) (l : List Knot) (K : Ex × List (V T) → Prop) (h1 : 1 ≤ (i : Int)) (hl : l.length ≤ 1000) (hK : (Tree.br (grX lo hi l i) (.leaf (.exit 0, [])) (.leaf (.ret, [.t false])) : Tree (Ex × List (V T))).holds K) :
    (bodyD Try.prog E c81 0 (bodyX Try.prog E [] noLoops 1000 5 L0 (lpOf Try.prog 81 0)) ((i : Int), b, p, q, r, s, lo, hi, rs, l, ())).holds fun y => match y with
    | .inl d => ((d.2.2.2.2.2.2.2.2.2.1.length : Int) - d.1).toNat < ((l.length : Int) - (i : Int)).toNat ∧ (c81.out d).holds K
    | .inr y => K y := by
  rw [b81]
  have e3 : (i : Int) < l.length → IntKind.wrap IntKind.i64 ((i : Int) - 1) = (i : Int) - 1 := fun h => i64_in' (by omega) (by omega)
  refine way (fun c => ?_) fun c => ?_
  · have e2 : IntKind.wrap IntKind.i64 ((i : Int) + 1) = ((i + 1 : Nat) : Int) := i64_in' (by omega) (by omega)
    rw [e2, e3 c]
    rw [grX_cons c] at hK
    have hlt : ((l.length : Int) - ((i + 1 : Nat) : Int)).toNat < ((l.length : Int) - (i : Int)).toNat := by omega
    have h3 : (1 : Int) ≤ ((i + 1 : Nat) : Int) := by omega
    have no : stepG lo hi (kn l ((i : Int) - 1)) (kn l i) = false → K (.ret, [.t false]) := fun q => by
      rw [q, Bool.false_and] at hK; exact hK.2 rfl
    have yes : stepG lo hi (kn l ((i : Int) - 1)) (kn l i) = true → (Tree.br (grX lo hi l ((i + 1 : Nat) : Int)) (.leaf (.exit 0, [])) (.leaf (.ret, [.t false])) : Tree (Ex × List (V T))).holds K := fun q => by
      rw [q, Bool.true_and] at hK; exact hK
    refine wayC (by omega) c fun _ _ => wayC (by omega) (by omega) fun _ _ => wayC (by omega) c fun _ _ => wayC (by omega) (by omega) fun _ _ => way (fun q => no (decide_eq_false fun h => ?_)) fun q => way (fun q2 => no (decide_eq_false fun h => ?_)) fun q2 => ⟨hlt, ⟨h3, hl⟩, yes (decide_eq_true ⟨?_, ?_⟩)⟩
    · exact absurd h.1 (Int.not_le.2 q)
    · exact absurd h.2 (Int.not_le.2 q2)
    · exact Int.not_lt.1 q
    · exact Int.not_lt.1 q2
  · rw [grX_end c] at hK
    exact hK.1 rfl
theorem h81 : LoopH Try.prog E c81 0 (bodyX Try.prog E [] noLoops 1000 5 L0 (lpOf Try.prog 81 0)) :=
  ⟨fun d => ((d.2.2.2.2.2.2.2.2.2.1.length : Int) - d.1).toNat, fun d K hK => by
    obtain ⟨i, b, p, q, r, s, lo, hi, rs, l, ⟨⟩⟩ := d
    obtain ⟨⟨k1, k3⟩, k4⟩ := hK
    obtain ⟨j, hj⟩ := Int.eq_ofNat_of_zero_le (a := i) (Int.le_trans (by decide) k1)
    obtain rfl : i = (j : Int) := hj
    refine Tree.holds_mono (fun y hy => ?_) (h81' j b p q r s lo hi rs l K k1 k3 k4)
    cases y with
    | inl d' => exact hy
    | inr y => exact hy⟩
theorem ll81 : LLOk Try.prog E (llOf Try.prog E 81 [(2, c81)]) := llOf_ok fun i hi c hc => by
  have hi : i < 1 := hi
  obtain rfl : i = 0 := by omega
  obtain rfl : c81 = c := Option.some.inj hc
  exact LSnd.mk good names mixes .nil (by decide) h81
theorem tv77 (l : List Knot) (lo hi : Int) : runX [(60, cWithin)] (llOf Try.prog E 77 [(2, c77)]) 77 [.agg [.sl 78 l false], i64 lo, i64 hi] [4] =
  (.req ((1 : Int) ≤ (1 : Int) ∧ List.length l ≤ (1000 : Nat))
  (.br (grX lo hi l (1 : Int))
   (.leaf (.bool (true)))
   (.leaf (.bool (false))))) := by kernel_rfl
noncomputable def ctLn : CTab T := [(60, cWithin), (18, cLine), (19, cLine)]
theorem tv33 (p f : List Knot) (b : Int) : runX ctLn noLoops 33 [.agg [.sl 78 p false, .sl 78 f false], i64 b] [27] =
  (.br (lineErr p (1048576 : Int) (68719476736 : Int) != (0 : Int))
   (.leaf (.sym .i64 (lineErr p (1048576 : Int) (68719476736 : Int))))
   (.br (lineErr f (1048576 : Int) (68719476736 : Int) != (0 : Int))
    (.leaf (.sym .i64 (lineErr f (1048576 : Int) (68719476736 : Int))))
    (.req ((true && decide ((0 : Int) < (↑(List.length p) : Int))) = true)
    (.br (Knot.At (kn p (0 : Int)) != (0 : Int))
     (.leaf (.sym .i64 ((3 : Int))))
     (.req ((decide ((0 : Int) ≤ IntKind.wrap IntKind.i64 ((↑(List.length p) : Int) - (1 : Int))) && decide (IntKind.wrap IntKind.i64 ((↑(List.length p) : Int) - (1 : Int)) < (↑(List.length p) : Int))) = true)
     (.br (Knot.At (kn p (IntKind.wrap IntKind.i64 ((↑(List.length p) : Int) - (1 : Int)))) != b)
      (.leaf (.sym .i64 ((3 : Int))))
      (.req ((true && decide ((0 : Int) < (↑(List.length f) : Int))) = true)
      (.br (Knot.At (kn f (0 : Int)) != (0 : Int))
       (.leaf (.sym .i64 ((3 : Int))))
       (.req ((decide ((0 : Int) ≤ IntKind.wrap IntKind.i64 ((↑(List.length f) : Int) - (1 : Int))) && decide (IntKind.wrap IntKind.i64 ((↑(List.length f) : Int) - (1 : Int)) < (↑(List.length f) : Int))) = true)
       (.br (Knot.At (kn f (IntKind.wrap IntKind.i64 ((↑(List.length f) : Int) - (1 : Int)))) != b)
        (.leaf (.sym .i64 ((3 : Int))))
        (.leaf (.sym .i64 ((0 : Int)))))))))))))) := by kernel_rfl
theorem tv34 (p f : List Knot) (b : Int) : runX ctLn noLoops 34 [.agg [.sl 78 p false, .sl 78 f false], i64 b] [27] =
  (.br (lineErr p (1048576 : Int) (68719476736 : Int) != (0 : Int))
   (.leaf (.sym .i64 (lineErr p (1048576 : Int) (68719476736 : Int))))
   (.br (lineErr f (1048576 : Int) (68719476736 : Int) != (0 : Int))
    (.leaf (.sym .i64 (lineErr f (1048576 : Int) (68719476736 : Int))))
    (.req ((true && decide ((0 : Int) < (↑(List.length p) : Int))) = true)
    (.br (Knot.At (kn p (0 : Int)) != (0 : Int))
     (.leaf (.sym .i64 ((3 : Int))))
     (.req ((decide ((0 : Int) ≤ IntKind.wrap IntKind.i64 ((↑(List.length p) : Int) - (1 : Int))) && decide (IntKind.wrap IntKind.i64 ((↑(List.length p) : Int) - (1 : Int)) < (↑(List.length p) : Int))) = true)
     (.br (Knot.At (kn p (IntKind.wrap IntKind.i64 ((↑(List.length p) : Int) - (1 : Int)))) != b)
      (.leaf (.sym .i64 ((3 : Int))))
      (.req ((true && decide ((0 : Int) < (↑(List.length f) : Int))) = true)
      (.br (Knot.At (kn f (0 : Int)) != (0 : Int))
       (.leaf (.sym .i64 ((3 : Int))))
       (.req ((decide ((0 : Int) ≤ IntKind.wrap IntKind.i64 ((↑(List.length f) : Int) - (1 : Int))) && decide (IntKind.wrap IntKind.i64 ((↑(List.length f) : Int) - (1 : Int)) < (↑(List.length f) : Int))) = true)
       (.br (Knot.At (kn f (IntKind.wrap IntKind.i64 ((↑(List.length f) : Int) - (1 : Int)))) != b)
        (.leaf (.sym .i64 ((3 : Int))))
        (.leaf (.sym .i64 ((0 : Int)))))))))))))) := by kernel_rfl
theorem ctLn_ok : CTabOk Try.prog E ctLn := .cons within_ok (.cons line_ok (.cons line2_ok .nil))
noncomputable def grwL (lo hi : Int) (l : List Knot) : Bool := grX lo hi l 1
theorem s77 (l : List Knot) (lo hi : Int) (h : l.length ≤ 1000) : (runX [(60, cWithin)] (llOf Try.prog E 77 [(2, c77)]) 77 [.agg [.sl 78 l false], i64 lo, i64 hi] [4]).holds fun v => v = .bool (grwL lo hi l) := by
  rw [tv77]
  refine ⟨⟨by decide, h⟩, wayB (fun q => ?_) fun q => ?_⟩
  · rw [show grwL lo hi l = true from q]; rfl
  · rw [show grwL lo hi l = false from q]; rfl
noncomputable def cGrows : Con T := conP Try.prog [.agg [.s 78], .one (.i .i64), .one (.i .i64)] [.l 78, .n, .n] (fun d => (d.1 : List Knot).length ≤ 1000) fun d => .bool (grwL d.2.1 d.2.2.1 d.1)
theorem grows_ok : ConOk Try.prog E 77 cGrows := conP_ok fun d hd => fact_run ctL1_ok ll77 (ts := [4]) rfl (s77 d.1 d.2.1 d.2.2.1 hd)
/-- The first error of a truth. -/
noncomputable def trE (p f : List Knot) (b : Int) : Int :=
  if lineErr p 1048576 68719476736 ≠ 0 then lineErr p 1048576 68719476736 else if lineErr f 1048576 68719476736 ≠ 0 then lineErr f 1048576 68719476736
  else if (kn p 0).At = 0 ∧ (kn p ((p.length : Int) - 1)).At = b ∧ (kn f 0).At = 0 ∧ (kn f ((f.length : Int) - 1)).At = b then 0 else 3
theorem lineErr_len {l : List Knot} {a v : Int} (h : lineErr l a v = 0) : 0 < l.length ∧ l.length ≤ 24 := by
  unfold lineErr at h
  split at h
  · omega
  · split at h
    · omega
    · split at h
      · omega
      · omega
theorem trE_t (p f : List Knot) (b : Int) (t : Tree (AV T)) (ht : t = (.br (lineErr p (1048576 : Int) (68719476736 : Int) != (0 : Int))
   (.leaf (.sym .i64 (lineErr p (1048576 : Int) (68719476736 : Int))))
   (.br (lineErr f (1048576 : Int) (68719476736 : Int) != (0 : Int))
    (.leaf (.sym .i64 (lineErr f (1048576 : Int) (68719476736 : Int))))
    (.req ((true && decide ((0 : Int) < (↑(List.length p) : Int))) = true)
    (.br (Knot.At (kn p (0 : Int)) != (0 : Int))
     (.leaf (.sym .i64 ((3 : Int))))
     (.req ((decide ((0 : Int) ≤ IntKind.wrap IntKind.i64 ((↑(List.length p) : Int) - (1 : Int))) && decide (IntKind.wrap IntKind.i64 ((↑(List.length p) : Int) - (1 : Int)) < (↑(List.length p) : Int))) = true)
     (.br (Knot.At (kn p (IntKind.wrap IntKind.i64 ((↑(List.length p) : Int) - (1 : Int)))) != b)
      (.leaf (.sym .i64 ((3 : Int))))
      (.req ((true && decide ((0 : Int) < (↑(List.length f) : Int))) = true)
      (.br (Knot.At (kn f (0 : Int)) != (0 : Int))
       (.leaf (.sym .i64 ((3 : Int))))
       (.req ((decide ((0 : Int) ≤ IntKind.wrap IntKind.i64 ((↑(List.length f) : Int) - (1 : Int))) && decide (IntKind.wrap IntKind.i64 ((↑(List.length f) : Int) - (1 : Int)) < (↑(List.length f) : Int))) = true)
       (.br (Knot.At (kn f (IntKind.wrap IntKind.i64 ((↑(List.length f) : Int) - (1 : Int)))) != b)
        (.leaf (.sym .i64 ((3 : Int))))
        (.leaf (.sym .i64 ((0 : Int))))))))))))))) : t.holds fun v => v = i64 (trE p f b) := by
  subst ht
  unfold trE
  refine wayNe (fun k => ?_) fun k => wayNe (fun k2 => ?_) fun k2 => ?_
  · rw [if_pos k]; rfl
  · rw [if_neg (by omega), if_pos k2]; rfl
  · rw [if_neg (by omega), if_neg (by omega)]
    have g1 := (lineErr_good k).1
    have g2 := (lineErr_good k2).1
    have l1 : 0 < p.length ∧ p.length ≤ 24 := lineErr_len k
    have l2 : 0 < f.length ∧ f.length ≤ 24 := lineErr_len k2
    have e1 : IntKind.wrap IntKind.i64 ((p.length : Int) - 1) = (p.length : Int) - 1 := i64_in' (by omega) (by omega)
    have e2 : IntKind.wrap IntKind.i64 ((f.length : Int) - 1) = (f.length : Int) - 1 := i64_in' (by omega) (by omega)
    rw [e1, e2]
    refine ⟨by simp only [Bool.true_and, decide_eq_true_eq]; omega, wayNe (fun q => ?_) fun q => wayC (by omega) (by omega) fun _ _ => wayNe (fun q2 => ?_) fun q2 => ⟨by simp only [Bool.true_and, decide_eq_true_eq]; omega, wayNe (fun q3 => ?_) fun q3 => wayC (by omega) (by omega) fun _ _ => wayNe (fun q4 => ?_) fun q4 => ?_⟩⟩
    · rw [if_neg (fun h => q h.1)]; rfl
    · rw [if_neg (fun h => q2 h.2.1)]; rfl
    · rw [if_neg (fun h => q3 h.2.2.1)]; rfl
    · rw [if_neg (fun h => q4 h.2.2.2)]; rfl
    · rw [if_pos ⟨q, q2, q3, q4⟩]; rfl
noncomputable def cTruth : Con T := conV Try.prog [.agg [.s 78, .s 78], .one (.i .i64)] [.l 78, .l 78, .n] fun d => i64 (trE d.1 d.2.1 d.2.2.1)
theorem truth_ok : ConOk Try.prog E 33 cTruth := conV_ok fun d => fact_run ctLn_ok noLoops_ok (ts := [27]) rfl (trE_t d.1 d.2.1 d.2.2.1 _ (tv33 d.1 d.2.1 d.2.2.1))
theorem truth2_ok : ConOk Try.prog E 34 cTruth := conV_ok fun d => fact_run ctLn_ok noLoops_ok (ts := [27]) rfl (trE_t d.1 d.2.1 d.2.2.1 _ (tv34 d.1 d.2.1 d.2.2.1))
end Go.Proofs.Ytdlholmphenhhaa.W
