/- S02F1 and S02F2 and S02F3 and S02F4 and S02F5 and S02G1 and S02G2 and S02G3 and S02G4 and S02P1 and S02P3 and S02O1 and S02O2 and S02M1 and S02M2 and S02N1 and S02N2 in one text. No condition. -/
import Derived.Test.YtdlholmphenhhaaV2
import Derived.Test.YtdlholmphenhhaaV3
import Derived.Test.YtdlholmphenhhaaCz8
import Derived.Test.YtdlholmphenhhaaV6
import Derived.Test.YtdlholmphenhhaaCz7
import Derived.Test.YtdlholmphenhhaaW
import Derived.Test.YtdlholmphenhhaaV4
import Derived.Test.YtdlholmphenhhaaCz6
import Derived.Test.YtdlholmphenhhaaCz14
import Derived.Test.YtdlholmphenhhaaV5
import Derived.Test.YtdlholmphenhhaaV9
import Derived.Test.YtdlholmphenhhaaLEarthEncloses
import Derived.Test.YtdlholmphenhhaaLEarthGrows
set_option linter.unusedVariables false
set_option linter.unusedVariables false
set_option maxRecDepth 100000
set_option maxHeartbeats 4000000
noncomputable section
namespace Go.Proofs.Ytdlholmphenhhaa.W
open Go Go.Cx Go.RowKit
@[reducible] def wI (n : Int) : Int := IntKind.wrap IntKind.i64 n
noncomputable def stepG (lo hi : Int) (a b : Knot) : Bool := within (wI (b.V - a.V)) (wI (lo * wI (b.At - a.At))) (wI (hi * wI (b.At - a.At)))
noncomputable def grw (lo hi : Int) : Knot → List Knot → Bool
  | _, [] => true
  | a, b :: l => stepG lo hi a b && grw lo hi b l
noncomputable def grX (lo hi : Int) (l : List Knot) (i : Int) : Bool := grw lo hi (kn l (i - 1)) (l.drop i.toNat)
noncomputable def o77 (lo hi i : Int) (l : List Knot) : Tree (Ex × List (V T)) := .req (1 ≤ i ∧ l.length ≤ 1000) (.br (grX lo hi l i) (.leaf (.exit 0, [])) (.leaf (.ret, [.t false])))
noncomputable def c77 : LoopC T := ⟨[.n, .n, .n, .l 78], ⟨47, [(1, .one (.i .i64)), (2, .one (.i .i64)), (3, .one (.o 0 0)), (7, .one (.i .i64))], [.c [.s 78]]⟩, fun e => match e with
    | .ret => ⟨47, [(6, .one .b)], []⟩
    | _ => ⟨47, [], []⟩, 20, fun d => o77 d.1 d.2.1 d.2.2.1 d.2.2.2.1⟩
theorem b77 (lo hi i : Int) (l : List Knot) : bodyD Try.prog E c77 0 (bodyX Try.prog E [(60, cWithin)] noLoops 1000 5 L0 (lpOf Try.prog 77 0)) (lo, hi, i, l, ()) =
  (.br (decide (i < (↑(List.length l) : Int)))
   (.req ((decide ((0 : Int) ≤ IntKind.wrap IntKind.i64 (i - (1 : Int))) && decide (IntKind.wrap IntKind.i64 (i - (1 : Int)) < (↑(List.length l) : Int))) = true)
   (.req ((decide ((0 : Int) ≤ i) && decide (i < (↑(List.length l) : Int))) = true)
   (.br (!within (IntKind.wrap IntKind.i64 (Knot.V (kn l i) - Knot.V (kn l (IntKind.wrap IntKind.i64 (i - (1 : Int)))))) (IntKind.wrap IntKind.i64 (lo * IntKind.wrap IntKind.i64 (Knot.At (kn l i) - Knot.At (kn l (IntKind.wrap IntKind.i64 (i - (1 : Int))))))) (IntKind.wrap IntKind.i64 (hi * IntKind.wrap IntKind.i64 (Knot.At (kn l i) - Knot.At (kn l (IntKind.wrap IntKind.i64 (i - (1 : Int))))))))
    (.leaf (.inr (.ret, [.t (false)])))
    (.leaf (.inl (lo, (hi, (IntKind.wrap IntKind.i64 (i + (1 : Int)), (l, ())))))))))
   (.leaf (.inr (.exit (0 : Nat), [])))) := by kernel_rfl
noncomputable def o81 (i b lo hi : Int) (p q r s : List Knot) (rs : List Report) (l : List Knot) : Tree (Ex × List (V T)) := .req (1 ≤ i ∧ l.length ≤ 1000) (.br (grX lo hi l i) (.leaf (.exit 0, [])) (.leaf (.ret, [.t false])))
noncomputable def c81 : LoopC T := ⟨[.n, .n, .l 78, .l 78, .l 78, .l 78, .n, .n, .l 55, .l 78], ⟨57, [(2, .one (.o 0 0)), (3, .one (.o 1 0)), (5, .one (.i .i64))], [.c [.i .i64, .s 78, .s 78, .s 78, .s 78, .i .i64, .i .i64, .s 55], .c [.s 78]]⟩, fun e => match e with
    | .ret => ⟨57, [(4, .one .b)], []⟩
    | _ => ⟨57, [], []⟩, 20, fun d => o81 d.1 d.2.1 d.2.2.2.2.2.2.1 d.2.2.2.2.2.2.2.1 d.2.2.1 d.2.2.2.1 d.2.2.2.2.1 d.2.2.2.2.2.1 d.2.2.2.2.2.2.2.2.1 d.2.2.2.2.2.2.2.2.2.1⟩
theorem b81 (i b : Int) (p q r s : List Knot) (lo hi : Int) (rs : List Report) (l : List Knot) : bodyD Try.prog E c81 0 (bodyX Try.prog E [] noLoops 1000 5 L0 (lpOf Try.prog 81 0)) (i, b, p, q, r, s, lo, hi, rs, l, ()) =
  (.br (decide (i < (↑(List.length l) : Int)))
   (.req ((decide ((0 : Int) ≤ i) && decide (i < (↑(List.length l) : Int))) = true)
   (.req ((decide ((0 : Int) ≤ IntKind.wrap IntKind.i64 (i - (1 : Int))) && decide (IntKind.wrap IntKind.i64 (i - (1 : Int)) < (↑(List.length l) : Int))) = true)
   (.req ((decide ((0 : Int) ≤ i) && decide (i < (↑(List.length l) : Int))) = true)
   (.req ((decide ((0 : Int) ≤ IntKind.wrap IntKind.i64 (i - (1 : Int))) && decide (IntKind.wrap IntKind.i64 (i - (1 : Int)) < (↑(List.length l) : Int))) = true)
   (.br (decide (IntKind.wrap IntKind.i64 (Knot.V (kn l i) - Knot.V (kn l (IntKind.wrap IntKind.i64 (i - (1 : Int))))) < IntKind.wrap IntKind.i64 (lo * IntKind.wrap IntKind.i64 (Knot.At (kn l i) - Knot.At (kn l (IntKind.wrap IntKind.i64 (i - (1 : Int))))))))
    (.leaf (.inr (.ret, [.t (false)])))
    (.br (decide (IntKind.wrap IntKind.i64 (Knot.V (kn l i) - Knot.V (kn l (IntKind.wrap IntKind.i64 (i - (1 : Int))))) > IntKind.wrap IntKind.i64 (hi * IntKind.wrap IntKind.i64 (Knot.At (kn l i) - Knot.At (kn l (IntKind.wrap IntKind.i64 (i - (1 : Int))))))))
     (.leaf (.inr (.ret, [.t (false)])))
     (.leaf (.inl (IntKind.wrap IntKind.i64 (i + (1 : Int)), (b, (p, (q, (r, (s, (lo, (hi, (rs, (l, ()))))))))))))))))))
   (.leaf (.inr (.exit (0 : Nat), [])))) := by kernel_rfl
theorem drop_kk {l : List Knot} {i : Nat} (h : i < l.length) : l.drop i = kn l i :: l.drop (i + 1) := drop_ix (E := E) (τ := 78) h
theorem grX_cons {lo hi : Int} {l : List Knot} {i : Nat} (h : (i : Int) < l.length) : grX lo hi l i = (stepG lo hi (kn l ((i : Int) - 1)) (kn l i) && grX lo hi l ((i + 1 : Nat) : Int)) := by
  unfold grX
  rw [show (((i + 1 : Nat) : Int)).toNat = i + 1 from Int.toNat_natCast _, show ((i + 1 : Nat) : Int) - 1 = (i : Int) by omega, show (i : Int).toNat = i from Int.toNat_natCast i]
  rw [drop_kk (by omega)]; rfl
theorem grX_end {lo hi : Int} {l : List Knot} {i : Nat} (h : ¬ (i : Int) < l.length) : grX lo hi l i = true := by
  unfold grX
  rw [show (i : Int).toNat = i from Int.toNat_natCast i, List.drop_eq_nil_of_le (by omega)]; rfl
theorem ctL1_ok : CTabOk Try.prog E [(60, cWithin)] := .cons within_ok .nil
theorem h77' (lo hi : Int) (i : Nat) (l : List Knot) (K : Ex × List (V T) → Prop) (h1 : 1 ≤ (i : Int)) (hl : l.length ≤ 1000) (hK : (Tree.br (grX lo hi l i) (.leaf (.exit 0, [])) (.leaf (.ret, [.t false])) : Tree (Ex × List (V T))).holds K) :
    (bodyD Try.prog E c77 0 (bodyX Try.prog E [(60, cWithin)] noLoops 1000 5 L0 (lpOf Try.prog 77 0)) (lo, hi, (i : Int), l, ())).holds fun y => match y with
    | .inl d => ((d.2.2.2.1.length : Int) - d.2.2.1).toNat < ((l.length : Int) - (i : Int)).toNat ∧ (c77.out d).holds K
    | .inr y => K y := by
  rw [b77]
  have e3 : (i : Int) < l.length → IntKind.wrap IntKind.i64 ((i : Int) - 1) = (i : Int) - 1 := fun h => i64_in' (by omega) (by omega)
  refine way (fun c => ?_) fun c => ?_
  · have e2 : IntKind.wrap IntKind.i64 ((i : Int) + 1) = ((i + 1 : Nat) : Int) := i64_in' (by omega) (by omega)
    rw [e2, e3 c]
    rw [grX_cons c] at hK
    have hlt : ((l.length : Int) - ((i + 1 : Nat) : Int)).toNat < ((l.length : Int) - (i : Int)).toNat := by omega
    have h3 : (1 : Int) ≤ ((i + 1 : Nat) : Int) := by omega
    have no : stepG lo hi (kn l ((i : Int) - 1)) (kn l i) = false → K (.ret, [.t false]) := fun q => by
      rw [q, Bool.false_and] at hK; exact hK.2 rfl
    have yes : stepG lo hi (kn l ((i : Int) - 1)) (kn l i) = true → (Tree.br (grX lo hi l ((i + 1 : Nat) : Int)) (.leaf (.exit 0, [])) (.leaf (.ret, [.t false])) : Tree (Ex × List (V T))).holds K := fun q => by
      rw [q, Bool.true_and] at hK; exact hK
    refine wayC (by omega) (by omega) fun _ _ => wayC (by omega) c fun _ _ => wayB (fun q => no ?_) fun q => ⟨hlt, ⟨h3, hl⟩, yes ?_⟩
    · cases e : stepG lo hi (kn l ((i : Int) - 1)) (kn l i) with
      | false => rfl
      | true =>
        have q : (!stepG lo hi (kn l ((i : Int) - 1)) (kn l i)) = true := q
        rw [e] at q; exact absurd q (by decide)
    · cases e : stepG lo hi (kn l ((i : Int) - 1)) (kn l i) with
      | true => rfl
      | false =>
        have q : (!stepG lo hi (kn l ((i : Int) - 1)) (kn l i)) = false := q
        rw [e] at q; exact absurd q (by decide)
  · rw [grX_end c] at hK
    exact hK.1 rfl
theorem h77 : LoopH Try.prog E c77 0 (bodyX Try.prog E [(60, cWithin)] noLoops 1000 5 L0 (lpOf Try.prog 77 0)) :=
  ⟨fun d => ((d.2.2.2.1.length : Int) - d.2.2.1).toNat, fun d K hK => by
    obtain ⟨lo, hi, i, l, ⟨⟩⟩ := d
    obtain ⟨⟨k1, k3⟩, k4⟩ := hK
    obtain ⟨j, hj⟩ := Int.eq_ofNat_of_zero_le (a := i) (Int.le_trans (by decide) k1)
    obtain rfl : i = (j : Int) := hj
    refine Tree.holds_mono (fun y hy => ?_) (h77' lo hi j l K k1 k3 k4)
    cases y with
    | inl d' => exact hy
    | inr y => exact hy⟩
theorem ll77 : LLOk Try.prog E (llOf Try.prog E 77 [(2, c77)]) := llOf_ok fun i hi c hc => by
  have hi : i < 1 := hi
  obtain rfl : i = 0 := by omega
  obtain rfl : c77 = c := Option.some.inj hc
  exact LSnd.mk good names mixes ctL1_ok (by decide) h77
theorem h81' (i : Nat) (b : Int) (p q r s : List Knot) (lo hi : Int) (rs : List Report) (l : List Knot) (K : Ex × List (V T) → Prop) (h1 : 1 ≤ (i : Int)) (hl : l.length ≤ 1000) (hK : (Tree.br (grX lo hi l i) (.leaf (.exit 0, [])) (.leaf (.ret, [.t false])) : Tree (Ex × List (V T))).holds K) :
    (bodyD Try.prog E c81 0 (bodyX Try.prog E [] noLoops 1000 5 L0 (lpOf Try.prog 81 0)) ((i : Int), b, p, q, r, s, lo, hi, rs, l, ())).holds fun y => match y with
    | .inl d => ((d.2.2.2.2.2.2.2.2.2.1.length : Int) - d.1).toNat < ((l.length : Int) - (i : Int)).toNat ∧ (c81.out d).holds K
    | .inr y => K y := by
  rw [b81]
  have e3 : (i : Int) < l.length → IntKind.wrap IntKind.i64 ((i : Int) - 1) = (i : Int) - 1 := fun h => i64_in' (by omega) (by omega)
  refine way (fun c => ?_) fun c => ?_
  · have e2 : IntKind.wrap IntKind.i64 ((i : Int) + 1) = ((i + 1 : Nat) : Int) := i64_in' (by omega) (by omega)
    rw [e2, e3 c]
    rw [grX_cons c] at hK
    have hlt : ((l.length : Int) - ((i + 1 : Nat) : Int)).toNat < ((l.length : Int) - (i : Int)).toNat := by omega
    have h3 : (1 : Int) ≤ ((i + 1 : Nat) : Int) := by omega
    have no : stepG lo hi (kn l ((i : Int) - 1)) (kn l i) = false → K (.ret, [.t false]) := fun q => by
      rw [q, Bool.false_and] at hK; exact hK.2 rfl
    have yes : stepG lo hi (kn l ((i : Int) - 1)) (kn l i) = true → (Tree.br (grX lo hi l ((i + 1 : Nat) : Int)) (.leaf (.exit 0, [])) (.leaf (.ret, [.t false])) : Tree (Ex × List (V T))).holds K := fun q => by
      rw [q, Bool.true_and] at hK; exact hK
    refine wayC (by omega) c fun _ _ => wayC (by omega) (by omega) fun _ _ => wayC (by omega) c fun _ _ => wayC (by omega) (by omega) fun _ _ => way (fun q => no (decide_eq_false fun h => ?_)) fun q => way (fun q2 => no (decide_eq_false fun h => ?_)) fun q2 => ⟨hlt, ⟨h3, hl⟩, yes (decide_eq_true ⟨?_, ?_⟩)⟩
    · exact absurd h.1 (Int.not_le.2 q)
    · exact absurd h.2 (Int.not_le.2 q2)
    · exact Int.not_lt.1 q
    · exact Int.not_lt.1 q2
  · rw [grX_end c] at hK
    exact hK.1 rfl
theorem h81 : LoopH Try.prog E c81 0 (bodyX Try.prog E [] noLoops 1000 5 L0 (lpOf Try.prog 81 0)) :=
  ⟨fun d => ((d.2.2.2.2.2.2.2.2.2.1.length : Int) - d.1).toNat, fun d K hK => by
    obtain ⟨i, b, p, q, r, s, lo, hi, rs, l, ⟨⟩⟩ := d
    obtain ⟨⟨k1, k3⟩, k4⟩ := hK
    obtain ⟨j, hj⟩ := Int.eq_ofNat_of_zero_le (a := i) (Int.le_trans (by decide) k1)
    obtain rfl : i = (j : Int) := hj
    refine Tree.holds_mono (fun y hy => ?_) (h81' j b p q r s lo hi rs l K k1 k3 k4)
    cases y with
    | inl d' => exact hy
    | inr y => exact hy⟩
theorem ll81 : LLOk Try.prog E (llOf Try.prog E 81 [(2, c81)]) := llOf_ok fun i hi c hc => by
  have hi : i < 1 := hi
  obtain rfl : i = 0 := by omega
  obtain rfl : c81 = c := Option.some.inj hc
  exact LSnd.mk good names mixes .nil (by decide) h81
theorem tv77 (l : List Knot) (lo hi : Int) : runX [(60, cWithin)] (llOf Try.prog E 77 [(2, c77)]) 77 [.agg [.sl 78 l false], i64 lo, i64 hi] [4] =
  (.req ((1 : Int) ≤ (1 : Int) ∧ List.length l ≤ (1000 : Nat))
  (.br (grX lo hi l (1 : Int))
   (.leaf (.bool (true)))
   (.leaf (.bool (false))))) := by kernel_rfl
noncomputable def ctLn : CTab T := [(60, cWithin), (18, cLine), (19, cLine)]
theorem tv33 (p f : List Knot) (b : Int) : runX ctLn noLoops 33 [.agg [.sl 78 p false, .sl 78 f false], i64 b] [27] =
  (.br (lineErr p (1048576 : Int) (68719476736 : Int) != (0 : Int))
   (.leaf (.sym .i64 (lineErr p (1048576 : Int) (68719476736 : Int))))
   (.br (lineErr f (1048576 : Int) (68719476736 : Int) != (0 : Int))
    (.leaf (.sym .i64 (lineErr f (1048576 : Int) (68719476736 : Int))))
    (.req ((true && decide ((0 : Int) < (↑(List.length p) : Int))) = true)
    (.br (Knot.At (kn p (0 : Int)) != (0 : Int))
     (.leaf (.sym .i64 ((3 : Int))))
     (.req ((decide ((0 : Int) ≤ IntKind.wrap IntKind.i64 ((↑(List.length p) : Int) - (1 : Int))) && decide (IntKind.wrap IntKind.i64 ((↑(List.length p) : Int) - (1 : Int)) < (↑(List.length p) : Int))) = true)
     (.br (Knot.At (kn p (IntKind.wrap IntKind.i64 ((↑(List.length p) : Int) - (1 : Int)))) != b)
      (.leaf (.sym .i64 ((3 : Int))))
      (.req ((true && decide ((0 : Int) < (↑(List.length f) : Int))) = true)
      (.br (Knot.At (kn f (0 : Int)) != (0 : Int))
       (.leaf (.sym .i64 ((3 : Int))))
       (.req ((decide ((0 : Int) ≤ IntKind.wrap IntKind.i64 ((↑(List.length f) : Int) - (1 : Int))) && decide (IntKind.wrap IntKind.i64 ((↑(List.length f) : Int) - (1 : Int)) < (↑(List.length f) : Int))) = true)
       (.br (Knot.At (kn f (IntKind.wrap IntKind.i64 ((↑(List.length f) : Int) - (1 : Int)))) != b)
        (.leaf (.sym .i64 ((3 : Int))))
        (.leaf (.sym .i64 ((0 : Int)))))))))))))) := by kernel_rfl
theorem tv34 (p f : List Knot) (b : Int) : runX ctLn noLoops 34 [.agg [.sl 78 p false, .sl 78 f false], i64 b] [27] =
  (.br (lineErr p (1048576 : Int) (68719476736 : Int) != (0 : Int))
   (.leaf (.sym .i64 (lineErr p (1048576 : Int) (68719476736 : Int))))
   (.br (lineErr f (1048576 : Int) (68719476736 : Int) != (0 : Int))
    (.leaf (.sym .i64 (lineErr f (1048576 : Int) (68719476736 : Int))))
    (.req ((true && decide ((0 : Int) < (↑(List.length p) : Int))) = true)
    (.br (Knot.At (kn p (0 : Int)) != (0 : Int))
     (.leaf (.sym .i64 ((3 : Int))))
     (.req ((decide ((0 : Int) ≤ IntKind.wrap IntKind.i64 ((↑(List.length p) : Int) - (1 : Int))) && decide (IntKind.wrap IntKind.i64 ((↑(List.length p) : Int) - (1 : Int)) < (↑(List.length p) : Int))) = true)
     (.br (Knot.At (kn p (IntKind.wrap IntKind.i64 ((↑(List.length p) : Int) - (1 : Int)))) != b)
      (.leaf (.sym .i64 ((3 : Int))))
      (.req ((true && decide ((0 : Int) < (↑(List.length f) : Int))) = true)
      (.br (Knot.At (kn f (0 : Int)) != (0 : Int))
       (.leaf (.sym .i64 ((3 : Int))))
       (.req ((decide ((0 : Int) ≤ IntKind.wrap IntKind.i64 ((↑(List.length f) : Int) - (1 : Int))) && decide (IntKind.wrap IntKind.i64 ((↑(List.length f) : Int) - (1 : Int)) < (↑(List.length f) : Int))) = true)
       (.br (Knot.At (kn f (IntKind.wrap IntKind.i64 ((↑(List.length f) : Int) - (1 : Int)))) != b)
        (.leaf (.sym .i64 ((3 : Int))))
        (.leaf (.sym .i64 ((0 : Int)))))))))))))) := by kernel_rfl
theorem ctLn_ok : CTabOk Try.prog E ctLn := .cons within_ok (.cons line_ok (.cons line2_ok .nil))
noncomputable def grwL (lo hi : Int) (l : List Knot) : Bool := grX lo hi l 1
theorem s77 (l : List Knot) (lo hi : Int) (h : l.length ≤ 1000) : (runX [(60, cWithin)] (llOf Try.prog E 77 [(2, c77)]) 77 [.agg [.sl 78 l false], i64 lo, i64 hi] [4]).holds fun v => v = .bool (grwL lo hi l) := by
  rw [tv77]
  refine ⟨⟨by decide, h⟩, wayB (fun q => ?_) fun q => ?_⟩
  · rw [show grwL lo hi l = true from q]; rfl
  · rw [show grwL lo hi l = false from q]; rfl
noncomputable def cGrows : Con T := conP Try.prog [.agg [.s 78], .one (.i .i64), .one (.i .i64)] [.l 78, .n, .n] (fun d => (d.1 : List Knot).length ≤ 1000) fun d => .bool (grwL d.2.1 d.2.2.1 d.1)
theorem grows_ok : ConOk Try.prog E 77 cGrows := conP_ok fun d hd => fact_run ctL1_ok ll77 (ts := [4]) rfl (s77 d.1 d.2.1 d.2.2.1 hd)
/-- The first error of a truth. -/
noncomputable def trE (p f : List Knot) (b : Int) : Int :=
  if lineErr p 1048576 68719476736 ≠ 0 then lineErr p 1048576 68719476736 else if lineErr f 1048576 68719476736 ≠ 0 then lineErr f 1048576 68719476736
  else if (kn p 0).At = 0 ∧ (kn p ((p.length : Int) - 1)).At = b ∧ (kn f 0).At = 0 ∧ (kn f ((f.length : Int) - 1)).At = b then 0 else 3
theorem lineErr_len {l : List Knot} {a v : Int} (h : lineErr l a v = 0) : 0 < l.length ∧ l.length ≤ 24 := by
  unfold lineErr at h
  split at h
  · omega
  · split at h
    · omega
    · split at h
      · omega
      · omega
theorem trE_t (p f : List Knot) (b : Int) (t : Tree (AV T)) (ht : t = (.br (lineErr p (1048576 : Int) (68719476736 : Int) != (0 : Int))
   (.leaf (.sym .i64 (lineErr p (1048576 : Int) (68719476736 : Int))))
   (.br (lineErr f (1048576 : Int) (68719476736 : Int) != (0 : Int))
    (.leaf (.sym .i64 (lineErr f (1048576 : Int) (68719476736 : Int))))
    (.req ((true && decide ((0 : Int) < (↑(List.length p) : Int))) = true)
    (.br (Knot.At (kn p (0 : Int)) != (0 : Int))
     (.leaf (.sym .i64 ((3 : Int))))
     (.req ((decide ((0 : Int) ≤ IntKind.wrap IntKind.i64 ((↑(List.length p) : Int) - (1 : Int))) && decide (IntKind.wrap IntKind.i64 ((↑(List.length p) : Int) - (1 : Int)) < (↑(List.length p) : Int))) = true)
     (.br (Knot.At (kn p (IntKind.wrap IntKind.i64 ((↑(List.length p) : Int) - (1 : Int)))) != b)
      (.leaf (.sym .i64 ((3 : Int))))
      (.req ((true && decide ((0 : Int) < (↑(List.length f) : Int))) = true)
      (.br (Knot.At (kn f (0 : Int)) != (0 : Int))
       (.leaf (.sym .i64 ((3 : Int))))
       (.req ((decide ((0 : Int) ≤ IntKind.wrap IntKind.i64 ((↑(List.length f) : Int) - (1 : Int))) && decide (IntKind.wrap IntKind.i64 ((↑(List.length f) : Int) - (1 : Int)) < (↑(List.length f) : Int))) = true)
       (.br (Knot.At (kn f (IntKind.wrap IntKind.i64 ((↑(List.length f) : Int) - (1 : Int)))) != b)
        (.leaf (.sym .i64 ((3 : Int))))
        (.leaf (.sym .i64 ((0 : Int))))))))))))))) : t.holds fun v => v = i64 (trE p f b) := by
  subst ht
  unfold trE
  refine wayNe (fun k => ?_) fun k => wayNe (fun k2 => ?_) fun k2 => ?_
  · rw [if_pos k]; rfl
  · rw [if_neg (by omega), if_pos k2]; rfl
  · rw [if_neg (by omega), if_neg (by omega)]
    have g1 := (lineErr_good k).1
    have g2 := (lineErr_good k2).1
    have l1 : 0 < p.length ∧ p.length ≤ 24 := lineErr_len k
    have l2 : 0 < f.length ∧ f.length ≤ 24 := lineErr_len k2
    have e1 : IntKind.wrap IntKind.i64 ((p.length : Int) - 1) = (p.length : Int) - 1 := i64_in' (by omega) (by omega)
    have e2 : IntKind.wrap IntKind.i64 ((f.length : Int) - 1) = (f.length : Int) - 1 := i64_in' (by omega) (by omega)
    rw [e1, e2]
    refine ⟨by simp only [Bool.true_and, decide_eq_true_eq]; omega, wayNe (fun q => ?_) fun q => wayC (by omega) (by omega) fun _ _ => wayNe (fun q2 => ?_) fun q2 => ⟨by simp only [Bool.true_and, decide_eq_true_eq]; omega, wayNe (fun q3 => ?_) fun q3 => wayC (by omega) (by omega) fun _ _ => wayNe (fun q4 => ?_) fun q4 => ?_⟩⟩
    · rw [if_neg (fun h => q h.1)]; rfl
    · rw [if_neg (fun h => q2 h.2.1)]; rfl
    · rw [if_neg (fun h => q3 h.2.2.1)]; rfl
    · rw [if_neg (fun h => q4 h.2.2.2)]; rfl
    · rw [if_pos ⟨q, q2, q3, q4⟩]; rfl
noncomputable def cTruth : Con T := conV Try.prog [.agg [.s 78, .s 78], .one (.i .i64)] [.l 78, .l 78, .n] fun d => i64 (trE d.1 d.2.1 d.2.2.1)
theorem truth_ok : ConOk Try.prog E 33 cTruth := conV_ok fun d => fact_run ctLn_ok noLoops_ok (ts := [27]) rfl (trE_t d.1 d.2.1 d.2.2.1 _ (tv33 d.1 d.2.1 d.2.2.1))
theorem truth2_ok : ConOk Try.prog E 34 cTruth := conV_ok fun d => fact_run ctLn_ok noLoops_ok (ts := [27]) rfl (trE_t d.1 d.2.1 d.2.2.1 _ (tv34 d.1 d.2.1 d.2.2.1))
end Go.Proofs.Ytdlholmphenhhaa.W
end

set_option linter.unusedVariables false
set_option maxRecDepth 100000
set_option maxHeartbeats 4000000
noncomputable section
namespace Go.Proofs.Ytdlholmphenhhaa.W
open Go Go.Cx Go.RowKit
@[reducible] def isD (l : List Knot) : Prop := lineErr l 1048576 68719476736 = 0
noncomputable def rs (x : Int) : List Knot → Int × Int
  | [] => (0, 1)
  | [_] => (0, 1)
  | a :: b :: r => if a.At ≤ x ∧ x < b.At then ((b.V - a.V) * (x - a.At) - (b.V - a.V) * (x - a.At) / (b.At - a.At) * (b.At - a.At), b.At - a.At) else rs x (b :: r)
noncomputable def hs (x : Int) : List Knot → Bool
  | [] => false
  | [_] => false
  | a :: b :: r => if a.At ≤ x ∧ x < b.At then true else hs x (b :: r)
theorem hs_no {x : Int} : ∀ {l : List Knot}, hs x l = false → rs x l = (0, 1)
  | [], _ => rfl
  | [_], _ => rfl
  | a :: b :: r, h => by
    unfold hs at h
    unfold rs
    split at h
    · exact absurd h (by decide)
    · rename_i c
      rw [if_neg c]
      exact hs_no h
noncomputable def o114 (x i : Int) (l : List Knot) : Tree (Ex × List (V T)) := .req (isD l ∧ 0 ≤ i ∧ i ≤ l.length) (.br (hs x (l.drop i.toNat)) (.leaf (.ret, [.n (rs x (l.drop i.toNat)).1, .n (rs x (l.drop i.toNat)).2])) (.leaf (.exit 0, [])))
noncomputable def c114 : LoopC T := ⟨[.n, .n, .l 78], ⟨63, [(1, .one (.i .i64)), (2, .one (.o 0 0)), (6, .one (.i .i64))], [.c [.s 78]]⟩, fun e => match e with
    | .ret => ⟨63, [(4, .one (.i .i64)), (5, .one (.i .i64))], []⟩
    | _ => ⟨63, [], []⟩, 20, fun d => o114 d.1 d.2.1 d.2.2.1⟩
theorem b114 (x i : Int) (l : List Knot) : bodyD Try.prog E c114 0 (bodyX Try.prog E [(93, cFloor)] noLoops 1000 5 L0 (lpOf Try.prog 114 0)) (x, i, l, ()) =
  (.br (decide (IntKind.wrap IntKind.i64 (i + (1 : Int)) < (↑(List.length l) : Int)))
   (.req ((decide ((0 : Int) ≤ i) && decide (i < (↑(List.length l) : Int))) = true)
   (.req ((decide ((0 : Int) ≤ IntKind.wrap IntKind.i64 (i + (1 : Int))) && decide (IntKind.wrap IntKind.i64 (i + (1 : Int)) < (↑(List.length l) : Int))) = true)
   (.br (decide (x ≥ Knot.At (kn l i)))
    (.br (decide (x < Knot.At (kn l (IntKind.wrap IntKind.i64 (i + (1 : Int))))))
     (.req (qPre (IntKind.wrap IntKind.i64 (IntKind.wrap IntKind.i64 (Knot.V (kn l (IntKind.wrap IntKind.i64 (i + (1 : Int)))) - Knot.V (kn l i)) * IntKind.wrap IntKind.i64 (x - Knot.At (kn l i)))) (IntKind.wrap IntKind.i64 (Knot.At (kn l (IntKind.wrap IntKind.i64 (i + (1 : Int)))) - Knot.At (kn l i))))
     (.leaf (.inr (.ret, [.n (IntKind.wrap IntKind.i64 (IntKind.wrap IntKind.i64 (IntKind.wrap IntKind.i64 (Knot.V (kn l (IntKind.wrap IntKind.i64 (i + (1 : Int)))) - Knot.V (kn l i)) * IntKind.wrap IntKind.i64 (x - Knot.At (kn l i))) - IntKind.wrap IntKind.i64 (IntKind.wrap IntKind.i64 (IntKind.wrap IntKind.i64 (Knot.V (kn l (IntKind.wrap IntKind.i64 (i + (1 : Int)))) - Knot.V (kn l i)) * IntKind.wrap IntKind.i64 (x - Knot.At (kn l i))) / IntKind.wrap IntKind.i64 (Knot.At (kn l (IntKind.wrap IntKind.i64 (i + (1 : Int)))) - Knot.At (kn l i)) * IntKind.wrap IntKind.i64 (Knot.At (kn l (IntKind.wrap IntKind.i64 (i + (1 : Int)))) - Knot.At (kn l i))))), .n (IntKind.wrap IntKind.i64 (Knot.At (kn l (IntKind.wrap IntKind.i64 (i + (1 : Int)))) - Knot.At (kn l i)))]))))
     (.leaf (.inl (x, (IntKind.wrap IntKind.i64 (i + (1 : Int)), (l, ()))))))
    (.leaf (.inl (x, (IntKind.wrap IntKind.i64 (i + (1 : Int)), (l, ()))))))))
   (.leaf (.inr (.exit (0 : Nat), [])))) := by kernel_rfl

theorem rs_step {l : List Knot} {i : Nat} {x : Int} (h : i + 1 < l.length) : rs x (l.drop i) = if (kn l i).At ≤ x ∧ x < (kn l (i + 1 : Nat)).At then (((kn l (i + 1 : Nat)).V - (kn l i).V) * (x - (kn l i).At) - ((kn l (i + 1 : Nat)).V - (kn l i).V) * (x - (kn l i).At) / ((kn l (i + 1 : Nat)).At - (kn l i).At) * ((kn l (i + 1 : Nat)).At - (kn l i).At), (kn l (i + 1 : Nat)).At - (kn l i).At) else rs x (l.drop (i + 1)) := by
  rw [drop_kk (by omega), drop_kk (i := i + 1) h]; rfl
theorem rs_end {l : List Knot} {i : Nat} {x : Int} (h : ¬ i + 1 < l.length) : rs x (l.drop i) = (0, 1) := by
  by_cases c : i < l.length
  · rw [drop_kk c, List.drop_eq_nil_of_le (by omega)]; rfl
  · rw [List.drop_eq_nil_of_le (by omega)]; rfl
theorem hs_step {l : List Knot} {i : Nat} {x : Int} (h : i + 1 < l.length) : hs x (l.drop i) = if (kn l i).At ≤ x ∧ x < (kn l (i + 1 : Nat)).At then true else hs x (l.drop (i + 1)) := by
  rw [drop_kk (by omega), drop_kk (i := i + 1) h]; rfl
theorem hs_end {l : List Knot} {i : Nat} {x : Int} (h : ¬ i + 1 < l.length) : hs x (l.drop i) = false := by
  by_cases c : i < l.length
  · rw [drop_kk c, List.drop_eq_nil_of_le (by omega)]; rfl
  · rw [List.drop_eq_nil_of_le (by omega)]; rfl
theorem h114' (x : Int) (i : Nat) (l : List Knot) (K : Ex × List (V T) → Prop) (hd : isD l) (hi : (i : Int) ≤ l.length) (hK : (Tree.br (hs x (l.drop i)) (.leaf (.ret, [.n (rs x (l.drop i)).1, .n (rs x (l.drop i)).2])) (.leaf (.exit 0, [])) : Tree (Ex × List (V T))).holds K) :
    (bodyD Try.prog E c114 0 (bodyX Try.prog E [(93, cFloor)] noLoops 1000 5 L0 (lpOf Try.prog 114 0)) (x, (i : Int), l, ())).holds fun y => match y with
    | .inl d => ((d.2.2.1.length : Int) - d.2.1).toNat < ((l.length : Int) - (i : Int)).toNat ∧ (c114.out d).holds K
    | .inr y => K y := by
  rw [b114]
  have g := (lineErr_good hd).1
  have hl := lineErr_len hd
  refine way (fun c => ?_) fun c => ?_
  · · have e2 : IntKind.wrap IntKind.i64 ((i : Int) + 1) = ((i + 1 : Nat) : Int) := i64_in' (by omega) (by omega)
      rw [e2] at c ⊢
      have c' : i + 1 < l.length := by omega
      have hlt : ((l.length : Int) - ((i + 1 : Nat) : Int)).toNat < ((l.length : Int) - (i : Int)).toNat := by omega
      have h3 : (0 : Int) ≤ ((i + 1 : Nat) : Int) := by omega
      rw [hs_step c', rs_step c'] at hK
      have bd1 := g.bd i (by omega)
      have bd2 := g.bd (i + 1) c'
      have up := g.up i c'
      have next : ¬ ((kn l i).At ≤ x ∧ x < (kn l (i + 1 : Nat)).At) → (c114.out (x, ((i + 1 : Nat) : Int), l, ())).holds K := fun q => by
        rw [if_neg q, if_neg q] at hK
        exact ⟨⟨hd, h3, by show ((i + 1 : Nat) : Int) ≤ (l.length : Int); omega⟩, hK⟩
      refine wayC (by omega) (by omega) fun _ _ => wayC h3 c fun _ _ => way (fun k1 => way (fun k2 => ?_) fun k2 => ⟨hlt, next fun q => k2 q.2⟩) fun k1 => ⟨hlt, next fun q => k1 q.1⟩
      rw [if_pos ⟨k1, k2⟩, if_pos ⟨k1, k2⟩] at hK
      generalize (kn l i).At = A1 at *
      generalize (kn l (i + 1 : Nat)).At = A2 at *
      generalize (kn l i).V = V1 at *
      generalize (kn l (i + 1 : Nat)).V = V2 at *
      rw [i64_in' (n := V2 - V1) (by omega) (by omega), i64_in' (n := x - A1) (by omega) (by omega), i64_in' (n := A2 - A1) (by omega) (by omega)]
      have m1 : -(72057594037927936) ≤ (V2 - V1) * (x - A1) ∧ (V2 - V1) * (x - A1) ≤ 72057594037927936 := by
        have j1 := Int.mul_le_mul_of_nonneg_right (show V2 - V1 ≤ 68719476736 by omega) (show 0 ≤ x - A1 by omega)
        have j2 := Int.mul_le_mul_of_nonneg_right (show -68719476736 ≤ V2 - V1 by omega) (show 0 ≤ x - A1 by omega)
        omega
      rw [i64_in' (n := (V2 - V1) * (x - A1)) (by omega) (by omega)]
      generalize (V2 - V1) * (x - A1) = N at *
      have d1 := Int.mul_ediv_add_emod N (A2 - A1)
      have d2 := Int.emod_nonneg N (b := A2 - A1) (by omega)
      have d3 := Int.emod_lt_of_pos N (b := A2 - A1) (by omega)
      have cm : N / (A2 - A1) * (A2 - A1) = (A2 - A1) * (N / (A2 - A1)) := Int.mul_comm _ _
      rw [i64_in' (n := N / (A2 - A1) * (A2 - A1)) (by omega) (by omega), i64_in' (n := N - N / (A2 - A1) * (A2 - A1)) (by omega) (by omega)]
      exact ⟨⟨by omega, by omega, by omega⟩, hK.1 rfl⟩
  · have c' : ¬ i + 1 < l.length := fun h => c (by rw [show IntKind.wrap IntKind.i64 ((i : Int) + 1) = ((i + 1 : Nat) : Int) from i64_in' (by omega) (by omega)]; omega)
    rw [hs_end c'] at hK
    exact hK.2 rfl
theorem h114 : LoopH Try.prog E c114 0 (bodyX Try.prog E [(93, cFloor)] noLoops 1000 5 L0 (lpOf Try.prog 114 0)) :=
  ⟨fun d => ((d.2.2.1.length : Int) - d.2.1).toNat, fun d K hK => by
    obtain ⟨x, i, l, ⟨⟩⟩ := d
    obtain ⟨⟨k1, k2, k3⟩, k4⟩ := hK
    obtain ⟨j, hj⟩ := Int.eq_ofNat_of_zero_le k2
    obtain rfl : i = (j : Int) := hj
    refine Tree.holds_mono (fun y hy => ?_) (h114' x j l K k1 k3 k4)
    cases y with
    | inl d' => exact hy
    | inr y => exact hy⟩
theorem ctF_ok : CTabOk Try.prog E [(93, cFloor)] := .cons floor93_ok .nil
theorem ll114 : LLOk Try.prog E (llOf Try.prog E 114 [(2, c114)]) := llOf_ok fun i hi c hc => by
  have hi : i < 1 := hi
  obtain rfl : i = 0 := by omega
  obtain rfl : c114 = c := Option.some.inj hc
  exact LSnd.mk good names mixes ctF_ok (by decide) h114
theorem tv114 (l : List Knot) (x : Int) : runX [(93, cFloor)] (llOf Try.prog E 114 [(2, c114)]) 114 [.agg [.sl 78 l false], i64 x] [2, 2] =
  (.req (isD l ∧ (0 : Int) ≤ (0 : Int) ∧ (0 : Int) ≤ (↑(List.length l) : Int))
  (.br (hs x (List.drop (Int.toNat (0 : Int)) l))
   (.leaf (.tup [.sym .i64 (Prod.fst (rs x (List.drop (Int.toNat (0 : Int)) l))), .sym .i64 (Prod.snd (rs x (List.drop (Int.toNat (0 : Int)) l)))]))
   (.leaf (.tup [.sym .i64 ((0 : Int)), .sym .i64 ((1 : Int))])))) := by kernel_rfl
theorem s114 (l : List Knot) (x : Int) (h : isD l) : (runX [(93, cFloor)] (llOf Try.prog E 114 [(2, c114)]) 114 [.agg [.sl 78 l false], i64 x] [2, 2]).holds fun v => v = .tup [i64 (rs x l).1, i64 (rs x l).2] := by
  rw [tv114]
  refine ⟨⟨h, by decide, by omega⟩, wayB (fun q => rfl) fun q => ?_⟩
  have q : hs x l = false := q
  rw [hs_no q]; rfl
noncomputable def cRest : Con T := conP Try.prog [.agg [.s 78], .one (.i .i64)] [.l 78, .n] (fun d => isD d.1) fun d => .tup [i64 (rs d.2.1 d.1).1, i64 (rs d.2.1 d.1).2]
theorem rest_ok : ConOk Try.prog E 114 cRest := conP_ok fun d hd => fact_run ctF_ok ll114 (ts := [2, 2]) rfl (s114 d.1 d.2.1 hd)
/-! ### what the rest says -/
theorem hs_out {l : List Knot} {x : Int} (hl : l.length ≤ 24) : ∀ (n : Nat) {i : Nat}, l.length - i = n → i < l.length → hs x (l.drop i) = false → x < (kn l i).At ∨ (kn l ((l.length : Int) - 1)).At ≤ x
  | 0, i, h, hi, _ => by omega
  | n + 1, i, h, hi, k => by
    by_cases c : i + 1 < l.length
    · rw [hs_step c] at k
      split at k
      · exact absurd k (by decide)
      · rename_i q
        rcases hs_out hl n (i := i + 1) (by omega) c k with e | e
        · by_cases p : (kn l i).At ≤ x
          · exact absurd ⟨p, e⟩ q
          · exact Or.inl (by omega)
        · exact Or.inr e
    · have e : (l.length : Int) - 1 = (i : Int) := by omega
      rw [e]
      omega
theorem hs_in {l : List Knot} {x : Int} : ∀ (n : Nat) {i : Nat}, l.length - i = n → hs x (l.drop i) = true → ∃ j : Nat, j + 1 < l.length ∧ ((kn l j).At ≤ x ∧ x < (kn l (j + 1 : Nat)).At) ∧ rs x (l.drop i) = (((kn l (j + 1 : Nat)).V - (kn l j).V) * (x - (kn l j).At) - ((kn l (j + 1 : Nat)).V - (kn l j).V) * (x - (kn l j).At) / ((kn l (j + 1 : Nat)).At - (kn l j).At) * ((kn l (j + 1 : Nat)).At - (kn l j).At), (kn l (j + 1 : Nat)).At - (kn l j).At)
  | n, i, h, k => by
    by_cases c : i + 1 < l.length
    · rw [hs_step c] at k
      rw [rs_step c]
      split at k
      · rename_i q
        rw [if_pos q]
        exact ⟨i, c, q, rfl⟩
      · rename_i q
        rw [if_neg q]
        cases n with
        | zero => omega
        | succ n => exact hs_in n (i := i + 1) (by omega) k
    · rw [hs_end c] at k
      exact absurd k (by decide)
theorem rs_facts {l : List Knot} (hd : isD l) (x : Int) : (0 ≤ (rs x l).1 ∧ (rs x l).1 < (rs x l).2 ∧ (rs x l).2 ≤ 1048576) ∧ ((rs x l).1 = 0 ↔ valLo l x = valHi l x) := by
  have g := (lineErr_good hd).1
  have hl := lineErr_len hd
  cases k : hs x l with
  | false =>
    rw [hs_no k]
    refine ⟨by decide, fun _ => ?_, fun _ => rfl⟩
    rcases hs_out hl.2 _ (i := 0) rfl hl.1 k with e | e
    · have := val_first (l := l) (x := x) (Int.le_of_lt e)
      omega
    · have := val_last g e
      omega
  | true =>
    obtain ⟨j, j1, j2, j3⟩ := hs_in _ (i := 0) rfl k
    rw [List.drop_zero] at j3
    rw [j3]
    have b1 := g.bd j (by omega)
    have b2 := g.bd (j + 1) j1
    have up := g.up j j1
    simp only []
    have hw : 0 < (kn l (j + 1 : Nat)).At - (kn l j).At := by omega
    have d1 := Int.mul_ediv_add_emod (((kn l (j + 1 : Nat)).V - (kn l j).V) * (x - (kn l j).At)) ((kn l (j + 1 : Nat)).At - (kn l j).At)
    have d2 := Int.emod_nonneg (((kn l (j + 1 : Nat)).V - (kn l j).V) * (x - (kn l j).At)) (b := (kn l (j + 1 : Nat)).At - (kn l j).At) (by omega)
    have d3 := Int.emod_lt_of_pos (((kn l (j + 1 : Nat)).V - (kn l j).V) * (x - (kn l j).At)) (b := (kn l (j + 1 : Nat)).At - (kn l j).At) (by omega)
    have cm : ∀ N w : Int, N / w * w = w * (N / w) := fun N w => Int.mul_comm _ _
    refine ⟨by rw [cm]; omega, ?_⟩
    by_cases e : x = (kn l j).At
    · have v := val_knot g (i := j) (by omega)
      rw [← e] at v
      have : x - (kn l j).At = 0 := by omega
      rw [this, Int.mul_zero, Int.zero_ediv, Int.zero_mul]
      omega
    · have ix : ixAt l x = j + 1 := ixAt_eq (by omega) (fun k hk => by
        by_cases q : k = j
        · subst q; omega
        · have := g.lt (i := k) (j := j) (by omega) (by omega)
          omega) fun _ => by omega
      have vl : valLo l x = pcLo (kn l j) (kn l (j + 1 : Nat)) x := by
        unfold valLo
        rw [ix, if_neg (by omega), if_neg (by omega)]
        congr 2
        omega
      have vh : valHi l x = pcHi (kn l j) (kn l (j + 1 : Nat)) x := by
        unfold valHi
        rw [ix, if_neg (by omega), if_neg (by omega)]
        congr 2
        omega
      rw [vl, vh]
      unfold pcLo pcHi
      have u := up_le (f := ((kn l (j + 1 : Nat)).V - (kn l j).V) * (x - (kn l j).At)) hw
      generalize ((kn l (j + 1 : Nat)).V - (kn l j).V) * (x - (kn l j).At) = N at *
      generalize (kn l (j + 1 : Nat)).At - (kn l j).At = w at *
      rw [cm] at *
      constructor
      · intro z
        have q1 : -(-N / w) * w < (N / w + 1) * w := by rw [Int.add_mul, Int.one_mul, cm]; omega
        have q2 : N / w * w ≤ -(-N / w) * w := by rw [cm]; omega
        have q3 := Int.lt_of_mul_lt_mul_right q1 (by omega)
        have q4 := Int.le_of_mul_le_mul_right q2 hw
        omega
      · intro z
        have z : -(-N / w) = N / w := by omega
        rw [z, cm] at u
        omega
/-! ### atLeast -/
noncomputable def ctAL : CTab T := (114, cRest) :: ctV
theorem ctAL_ok : CTabOk Try.prog E ctAL := .cons rest_ok ctV_ok
theorem tv104 (a b : List Knot) (x : Int) : runX ctAL noLoops 104 [.agg [.sl 78 a false], .agg [.sl 78 b false], i64 x] [4] =
  (.req (isR a)
  (.req (isR b)
  (.br (valLo a x != valLo b x)
   (.br (decide (valLo a x ≥ valHi b x))
    (.leaf (.bool (true)))
    (.leaf (.bool (decide (valLo a x > valLo b x)))))
   (.br (valLo a x == valHi a x)
    (.br (valLo b x == valHi b x)
     (.br (decide (valLo a x ≥ valHi b x))
      (.leaf (.bool (true)))
      (.leaf (.bool (decide (valLo a x > valLo b x)))))
     (.req (isD a)
     (.req (isD b)
     (.leaf (.bool (decide (IntKind.wrap IntKind.i64 (Prod.fst (rs x a) * Prod.snd (rs x b)) ≥ IntKind.wrap IntKind.i64 (Prod.fst (rs x b) * Prod.snd (rs x a)))))))))
    (.req (isD a)
    (.req (isD b)
    (.leaf (.bool (decide (IntKind.wrap IntKind.i64 (Prod.fst (rs x a) * Prod.snd (rs x b)) ≥ IntKind.wrap IntKind.i64 (Prod.fst (rs x b) * Prod.snd (rs x a)))))))))))) := by kernel_rfl
noncomputable def geB (a b : List Knot) (x : Int) : Bool := decide (valHi b x ≤ valLo a x)
@[reducible] def exB (a b : List Knot) (x : Int) : Prop := valLo a x = valHi a x ∨ valLo b x = valHi b x
theorem s104 (a b : List Knot) (x : Int) (ha : isD a) (hb : isD b) (he : exB a b x) : (runX ctAL noLoops 104 [.agg [.sl 78 a false], .agg [.sl 78 b false], i64 x] [4]).holds fun v => v = .bool (geB a b x) := by
  rw [tv104]
  have va := val_bd (lineErr_good ha).1 x
  have vb := val_bd (lineErr_good hb).1 x
  have ra := rs_facts ha x
  have rb := rs_facts hb x
  have m1 := mulb (a := (rs x a).1) (b := (rs x b).2) (m := 1048576) (k := 1048576) (by omega) (by omega) (by omega) (by omega)
  have m2 := mulb (a := (rs x b).1) (b := (rs x a).2) (m := 1048576) (k := 1048576) (by omega) (by omega) (by omega) (by omega)
  rw [i64_in' (n := (rs x a).1 * (rs x b).2) (by omega) (by omega), i64_in' (n := (rs x b).1 * (rs x a).2) (by omega) (by omega)]
  have n1 : 0 < (rs x a).1 → 0 < (rs x a).1 * (rs x b).2 := fun h => Int.mul_pos h (by omega)
  have n2 : 0 < (rs x b).1 → 0 < (rs x b).1 * (rs x a).2 := fun h => Int.mul_pos h (by omega)
  have z1 : (rs x a).1 = 0 → (rs x a).1 * (rs x b).2 = 0 := fun h => by rw [h, Int.zero_mul]
  have z2 : (rs x b).1 = 0 → (rs x b).1 * (rs x a).2 = 0 := fun h => by rw [h, Int.zero_mul]
  unfold geB
  have he2 : valLo a x = valHi a x ∨ valLo b x = valHi b x := he
  clear he
  generalize (rs x a).1 * (rs x b).2 = X at *
  generalize (rs x b).1 * (rs x a).2 = Y at *
  generalize (rs x a).1 = n at *
  generalize (rs x b).1 = m at *
  generalize valLo a x = pl at *
  generalize valHi a x = ph at *
  generalize valLo b x = ql at *
  generalize valHi b x = qh at *
  refine ⟨Or.inl ha, Or.inl hb, wayNe (fun c => way (fun c2 => ?_) fun c2 => ?_) fun c => wayEq (fun c2 => wayEq (fun c3 => way (fun c4 => ?_) fun c4 => ?_) fun c3 => ⟨ha, hb, ?_⟩) fun c2 => ⟨ha, hb, ?_⟩⟩
  · exact congrArg AV.bool (decide_eq_true (by omega)).symm
  · exact congrArg AV.bool (decide_eq_decide.2 (by omega))
  · exact congrArg AV.bool (decide_eq_true (by omega)).symm
  · exact congrArg AV.bool (decide_eq_decide.2 (by omega))
  · have x0 := z1 (ra.2.2 c2)
    have y0 := n2 (by
      have : m ≠ 0 := fun h => c3 (rb.2.1 h)
      omega)
    exact congrArg AV.bool (decide_eq_decide.2 (by omega))
  · have y0 := z2 (rb.2.2 (he2.resolve_left c2))
    have x0 := n1 (by
      have : n ≠ 0 := fun h => c2 (ra.2.1 h)
      omega)
    have e := he2.resolve_left c2
    exact congrArg AV.bool (decide_eq_decide.2 (by omega))
noncomputable def cAL : Con T := conP Try.prog [.agg [.s 78], .agg [.s 78], .one (.i .i64)] [.l 78, .l 78, .n] (fun d => (isD d.1 ∧ isD d.2.1) ∧ exB d.1 d.2.1 d.2.2.1) fun d => .bool (geB d.1 d.2.1 d.2.2.1)
theorem al_ok : ConOk Try.prog E 104 cAL := conP_ok fun d hd => fact_run ctAL_ok noLoops_ok (ts := [4]) rfl (s104 d.1 d.2.1 d.2.2.1 hd.1.1 hd.1.2 hd.2)
end Go.Proofs.Ytdlholmphenhhaa.W
end

set_option linter.unusedVariables false
set_option maxRecDepth 100000
set_option maxHeartbeats 4000000
noncomputable section
namespace Go.Proofs.Ytdlholmphenhhaa.W
open Go Go.Cx Go.RowKit
noncomputable def ctOv : CTab T := (104, cAL) :: ctV
theorem ctOv_ok : CTabOk Try.prog E ctOv := .cons al_ok ctV_ok
@[reducible] noncomputable def ats (l : List Knot) : List Int := l.map Knot.At
noncomputable def o82a (r : List Int) (x i : Int) (a b : List Knot) : Tree (Ex × List (V T)) := .req ((0 ≤ i ∧ a.length ≤ 24) ∧ (r.length : Int) ≤ 2 + i) (.leaf (.exit 0, [.l 2 (r ++ ats (a.drop i.toNat)), .n x, .l 78 a, .l 78 b]))
noncomputable def c82a : LoopC T := ⟨[.l 2, .n, .n, .l 78, .l 78], ⟨67, [(2, .one (.i .i64)), (3, .one (.o 0 0)), (4, .one (.o 1 0)), (7, .one (.g 2 2)), (8, .one (.i .i64))], [.c [.s 78], .c [.s 78], .l 2]⟩,
  fun _ => ⟨67, [(2, .one (.i .i64)), (3, .one (.o 0 0)), (4, .one (.o 1 0)), (7, .one (.g 2 2))], [.c [.s 78], .c [.s 78], .l 2]⟩, 20, fun d => o82a d.1 d.2.1 d.2.2.1 d.2.2.2.1 d.2.2.2.2.1⟩
theorem b82a (r : List Int) (x i : Int) (a b : List Knot) : bodyD Try.prog E c82a 0 (bodyX Try.prog E ctOv noLoops 1000 5 L0 (lpOf Try.prog 82 0)) (r, x, i, a, b, ()) =
  (.br (decide (i < (↑(List.length a) : Int)))
   (.req ((decide ((0 : Int) ≤ i) && decide (i < (↑(List.length a) : Int))) = true)
   (.req (List.length r = List.length r)
   (.req (List.length r + List.length [Knot.At (kn a i)] ≤ (1073741824 : Nat))
   (.req (List.length (r ++ [Knot.At (kn a i)]) = List.length (r ++ [Knot.At (kn a i)]))
   (.leaf (.inl (r ++ [Knot.At (kn a i)], (x, (IntKind.wrap IntKind.i64 (i + (1 : Int)), (a, (b, ())))))))))))
   (.req (List.length r = List.length r)
   (.leaf (.inr (.exit (0 : Nat), [.l (2 : Nat) (r), .n (x), .l (78 : Nat) (a), .l (78 : Nat) (b)]))))) := by kernel_rfl
noncomputable def o82b (r : List Int) (x i : Int) (a b : List Knot) : Tree (Ex × List (V T)) := .req ((0 ≤ i ∧ b.length ≤ 24) ∧ (r.length : Int) ≤ 26 + i) (.leaf (.exit 2, [.l 2 (r ++ ats (b.drop i.toNat)), .n x, .l 78 a, .l 78 b]))
noncomputable def c82b : LoopC T := ⟨[.l 2, .n, .n, .l 78, .l 78], ⟨67, [(2, .one (.i .i64)), (3, .one (.o 0 0)), (4, .one (.o 1 0)), (7, .one (.g 2 2)), (9, .one (.i .i64))], [.c [.s 78], .c [.s 78], .l 2]⟩,
  fun _ => ⟨67, [(2, .one (.i .i64)), (3, .one (.o 0 0)), (4, .one (.o 1 0)), (7, .one (.g 2 2))], [.c [.s 78], .c [.s 78], .l 2]⟩, 20, fun d => o82b d.1 d.2.1 d.2.2.1 d.2.2.2.1 d.2.2.2.2.1⟩
theorem b82b (r : List Int) (x i : Int) (a b : List Knot) : bodyD Try.prog E c82b 0 (bodyX Try.prog E ctOv noLoops 1000 5 L0 (lpOf Try.prog 82 1)) (r, x, i, a, b, ()) =
  (.br (decide (i < (↑(List.length b) : Int)))
   (.req ((decide ((0 : Int) ≤ i) && decide (i < (↑(List.length b) : Int))) = true)
   (.req (List.length r = List.length r)
   (.req (List.length r + List.length [Knot.At (kn b i)] ≤ (1073741824 : Nat))
   (.req (List.length (r ++ [Knot.At (kn b i)]) = List.length (r ++ [Knot.At (kn b i)]))
   (.leaf (.inl (r ++ [Knot.At (kn b i)], (x, (IntKind.wrap IntKind.i64 (i + (1 : Int)), (a, (b, ())))))))))))
   (.req (List.length r = List.length r)
   (.leaf (.inr (.exit (2 : Nat), [.l (2 : Nat) (r), .n (x), .l (78 : Nat) (a), .l (78 : Nat) (b)]))))) := by kernel_rfl
noncomputable def ovB (a b : List Knot) (x : Int) (l : List Int) : Bool := l.all fun y => decide (¬ y ≤ x) || geB a b y
noncomputable def o82c (r : List Int) (x i : Int) (a b : List Knot) : Tree (Ex × List (V T)) := .req ((isD a ∧ isD b) ∧ (0 ≤ i ∧ r.length ≤ 50) ∧ ∀ y ∈ r, y ≤ x → exB a b y) (.br (ovB a b x (r.drop i.toNat)) (.leaf (.exit 4, [])) (.leaf (.ret, [.t false])))
noncomputable def c82c : LoopC T := ⟨[.l 2, .n, .n, .l 78, .l 78], ⟨67, [(2, .one (.i .i64)), (3, .one (.o 0 0)), (4, .one (.o 1 0)), (7, .one (.g 2 2)), (10, .one (.i .i64))], [.c [.s 78], .c [.s 78], .l 2]⟩, fun e => match e with
    | .ret => ⟨67, [(6, .one .b)], []⟩
    | _ => ⟨67, [], []⟩, 20, fun d => o82c d.1 d.2.1 d.2.2.1 d.2.2.2.1 d.2.2.2.2.1⟩
theorem b82c (r : List Int) (x i : Int) (a b : List Knot) : bodyD Try.prog E c82c 0 (bodyX Try.prog E ctOv noLoops 1000 5 L0 (lpOf Try.prog 82 2)) (r, x, i, a, b, ()) =
  (.br (decide (i < (↑(List.length r) : Int)))
   (.req ((decide ((0 : Int) ≤ i) && decide (i < (↑(List.length r) : Int))) = true)
   (.req ((decide ((0 : Int) ≤ i) && decide (i < (↑(List.length r) : Int))) = true)
   (.br (decide (ki r i ≤ x))
    (.req ((decide ((0 : Int) ≤ i) && decide (i < (↑(List.length r) : Int))) = true)
    (.req ((decide ((0 : Int) ≤ i) && decide (i < (↑(List.length r) : Int))) = true)
    (.req ((isD a ∧ isD b) ∧ exB a b (ki r i))
    (.br (!geB a b (ki r i))
     (.leaf (.inr (.ret, [.t (false)])))
     (.req (List.length r = List.length r)
     (.leaf (.inl (r, (x, (IntKind.wrap IntKind.i64 (i + (1 : Int)), (a, (b, ()))))))))))))
    (.req (List.length r = List.length r)
    (.leaf (.inl (r, (x, (IntKind.wrap IntKind.i64 (i + (1 : Int)), (a, (b, ())))))))))))
   (.leaf (.inr (.exit (4 : Nat), [])))) := by kernel_rfl
theorem h82a' (r : List Int) (x : Int) (i : Nat) (a b : List Knot) (K : Ex × List (V T) → Prop) (hl : a.length ≤ 24) (hr : (r.length : Int) ≤ 2 + i) (hK : K (.exit 0, [.l 2 (r ++ ats (a.drop i)), .n x, .l 78 a, .l 78 b])) :
    (bodyD Try.prog E c82a 0 (bodyX Try.prog E ctOv noLoops 1000 5 L0 (lpOf Try.prog 82 0)) (r, x, (i : Int), a, b, ())).holds fun y => match y with
    | .inl d => ((d.2.2.2.1.length : Int) - d.2.2.1).toNat < ((a.length : Int) - (i : Int)).toNat ∧ (c82a.out d).holds K
    | .inr y => K y := by
  rw [b82a]
  refine way (fun c => wayC (by omega) c fun _ _ => ⟨rfl, by simp only [List.length_cons, List.length_nil]; omega, rfl, ?_⟩) fun c => ⟨rfl, ?_⟩
  · have e2 : IntKind.wrap IntKind.i64 ((i : Int) + 1) = ((i + 1 : Nat) : Int) := i64_in' (by omega) (by omega)
    rw [e2]
    have hlt : ((a.length : Int) - ((i + 1 : Nat) : Int)).toNat < ((a.length : Int) - (i : Int)).toNat := by omega
    have h3 : (0 : Int) ≤ ((i + 1 : Nat) : Int) := by omega
    have h4 : ((r ++ [(kn a i).At]).length : Int) ≤ 2 + ((i + 1 : Nat) : Int) := by simp only [List.length_append, List.length_cons, List.length_nil]; omega
    have e3 : r ++ ats (a.drop i) = (r ++ [(kn a i).At]) ++ ats (a.drop (i + 1)) := by
      rw [drop_kk (by omega)]
      show r ++ ((kn a i).At :: ats (a.drop (i + 1))) = _
      rw [List.append_assoc]; rfl
    rw [e3] at hK
    exact ⟨hlt, ⟨⟨h3, hl⟩, h4⟩, hK⟩
  · have e3 : r ++ ats (a.drop i) = r := by
      rw [List.drop_eq_nil_of_le (by omega)]
      exact List.append_nil r
    rw [e3] at hK
    exact hK
theorem h82a : LoopH Try.prog E c82a 0 (bodyX Try.prog E ctOv noLoops 1000 5 L0 (lpOf Try.prog 82 0)) :=
  ⟨fun d => ((d.2.2.2.1.length : Int) - d.2.2.1).toNat, fun d K hK => by
    obtain ⟨r, x, i, a, b, ⟨⟩⟩ := d
    obtain ⟨⟨⟨k1, k2⟩, k3⟩, k4⟩ := hK
    obtain ⟨j, hj⟩ := Int.eq_ofNat_of_zero_le k1
    obtain rfl : i = (j : Int) := hj
    refine Tree.holds_mono (fun y hy => ?_) (h82a' r x j a b K k2 k3 k4)
    cases y with
    | inl d' => exact hy
    | inr y => exact hy⟩
theorem h82b' (r : List Int) (x : Int) (i : Nat) (a b : List Knot) (K : Ex × List (V T) → Prop) (hl : b.length ≤ 24) (hr : (r.length : Int) ≤ 26 + i) (hK : K (.exit 2, [.l 2 (r ++ ats (b.drop i)), .n x, .l 78 a, .l 78 b])) :
    (bodyD Try.prog E c82b 0 (bodyX Try.prog E ctOv noLoops 1000 5 L0 (lpOf Try.prog 82 1)) (r, x, (i : Int), a, b, ())).holds fun y => match y with
    | .inl d => ((d.2.2.2.2.1.length : Int) - d.2.2.1).toNat < ((b.length : Int) - (i : Int)).toNat ∧ (c82b.out d).holds K
    | .inr y => K y := by
  rw [b82b]
  refine way (fun c => wayC (by omega) c fun _ _ => ⟨rfl, by simp only [List.length_cons, List.length_nil]; omega, rfl, ?_⟩) fun c => ⟨rfl, ?_⟩
  · have e2 : IntKind.wrap IntKind.i64 ((i : Int) + 1) = ((i + 1 : Nat) : Int) := i64_in' (by omega) (by omega)
    rw [e2]
    have hlt : ((b.length : Int) - ((i + 1 : Nat) : Int)).toNat < ((b.length : Int) - (i : Int)).toNat := by omega
    have h3 : (0 : Int) ≤ ((i + 1 : Nat) : Int) := by omega
    have h4 : ((r ++ [(kn b i).At]).length : Int) ≤ 26 + ((i + 1 : Nat) : Int) := by simp only [List.length_append, List.length_cons, List.length_nil]; omega
    have e3 : r ++ ats (b.drop i) = (r ++ [(kn b i).At]) ++ ats (b.drop (i + 1)) := by
      rw [drop_kk (by omega)]
      show r ++ ((kn b i).At :: ats (b.drop (i + 1))) = _
      rw [List.append_assoc]; rfl
    rw [e3] at hK
    exact ⟨hlt, ⟨⟨h3, hl⟩, h4⟩, hK⟩
  · have e3 : r ++ ats (b.drop i) = r := by
      rw [List.drop_eq_nil_of_le (by omega)]
      exact List.append_nil r
    rw [e3] at hK
    exact hK
theorem h82b : LoopH Try.prog E c82b 0 (bodyX Try.prog E ctOv noLoops 1000 5 L0 (lpOf Try.prog 82 1)) :=
  ⟨fun d => ((d.2.2.2.2.1.length : Int) - d.2.2.1).toNat, fun d K hK => by
    obtain ⟨r, x, i, a, b, ⟨⟩⟩ := d
    obtain ⟨⟨⟨k1, k2⟩, k3⟩, k4⟩ := hK
    obtain ⟨j, hj⟩ := Int.eq_ofNat_of_zero_le k1
    obtain rfl : i = (j : Int) := hj
    refine Tree.holds_mono (fun y hy => ?_) (h82b' r x j a b K k2 k3 k4)
    cases y with
    | inl d' => exact hy
    | inr y => exact hy⟩
theorem ov_cons {a b : List Knot} {x : Int} {r : List Int} {i : Nat} (h : (i : Int) < r.length) : ovB a b x (r.drop i) = ((decide (¬ ki r i ≤ x) || geB a b (ki r i)) && ovB a b x (r.drop (i + 1))) := by
  rw [drop_ki (by omega)]; rfl
theorem ki_mem {r : List Int} {i : Nat} (h : (i : Int) < r.length) : ki r i ∈ r := by
  have : ki r i ∈ r.drop i := by rw [drop_ki (by omega)]; exact List.mem_cons_self
  exact List.mem_of_mem_drop this
theorem h82c' (r : List Int) (x : Int) (i : Nat) (a b : List Knot) (K : Ex × List (V T) → Prop) (hd : isD a ∧ isD b) (hr : r.length ≤ 50) (hx : ∀ y ∈ r, y ≤ x → exB a b y) (hK : (Tree.br (ovB a b x (r.drop i)) (.leaf (.exit 4, [])) (.leaf (.ret, [.t false])) : Tree (Ex × List (V T))).holds K) :
    (bodyD Try.prog E c82c 0 (bodyX Try.prog E ctOv noLoops 1000 5 L0 (lpOf Try.prog 82 2)) (r, x, (i : Int), a, b, ())).holds fun y => match y with
    | .inl d => ((d.1.length : Int) - d.2.2.1).toNat < ((r.length : Int) - (i : Int)).toNat ∧ (c82c.out d).holds K
    | .inr y => K y := by
  rw [b82c]
  refine way (fun c => wayC (by omega) c fun _ _ => wayC (by omega) c fun _ _ => ?_) fun c => ?_
  · have e2 : IntKind.wrap IntKind.i64 ((i : Int) + 1) = ((i + 1 : Nat) : Int) := i64_in' (by omega) (by omega)
    rw [e2]
    rw [ov_cons c] at hK
    have hlt : ((r.length : Int) - ((i + 1 : Nat) : Int)).toNat < ((r.length : Int) - (i : Int)).toNat := by omega
    have h3 : (0 : Int) ≤ ((i + 1 : Nat) : Int) := by omega
    refine way (fun q => wayC (by omega) c fun _ _ => wayC (by omega) c fun _ _ => ⟨⟨hd, hx _ (ki_mem c) q⟩, wayB (fun k => ?_) fun k => ⟨rfl, ?_⟩⟩) fun q => ⟨rfl, ?_⟩
    · have k : geB a b (ki r i) = false := by simpa using k
      rw [k, decide_eq_false (fun h => h q)] at hK
      exact hK.2 rfl
    · have k : geB a b (ki r i) = true := by simpa using k
      rw [k, Bool.or_true, Bool.true_and] at hK
      exact ⟨hlt, ⟨hd, ⟨h3, hr⟩, hx⟩, hK⟩
    · rw [decide_eq_true q, Bool.true_or, Bool.true_and] at hK
      exact ⟨hlt, ⟨hd, ⟨h3, hr⟩, hx⟩, hK⟩
  · rw [List.drop_eq_nil_of_le (by omega)] at hK
    exact hK.1 rfl
theorem h82c : LoopH Try.prog E c82c 0 (bodyX Try.prog E ctOv noLoops 1000 5 L0 (lpOf Try.prog 82 2)) :=
  ⟨fun d => ((d.1.length : Int) - d.2.2.1).toNat, fun d K hK => by
    obtain ⟨r, x, i, a, b, ⟨⟩⟩ := d
    obtain ⟨⟨k0, ⟨k1, k2⟩, k3⟩, k4⟩ := hK
    obtain ⟨j, hj⟩ := Int.eq_ofNat_of_zero_le k1
    obtain rfl : i = (j : Int) := hj
    refine Tree.holds_mono (fun y hy => ?_) (h82c' r x j a b K k0 k2 k3 k4)
    cases y with
    | inl d' => exact hy
    | inr y => exact hy⟩
theorem ll82 : LLOk Try.prog E (llOf Try.prog E 82 [(3, c82a), (7, c82b), (11, c82c)]) := llOf_ok fun i hi c hc => by
  have hi : i < 3 := hi
  have : i = 0 ∨ i = 1 ∨ i = 2 := by omega
  rcases this with rfl | rfl | rfl
  · obtain rfl : c82a = c := Option.some.inj hc
    exact LSnd.mk good names mixes ctOv_ok (by decide) h82a
  · obtain rfl : c82b = c := Option.some.inj hc
    exact LSnd.mk good names mixes ctOv_ok (by decide) h82b
  · obtain rfl : c82c = c := Option.some.inj hc
    exact LSnd.mk good names mixes ctOv_ok (by decide) h82c
@[reducible] noncomputable def allX (a b : List Knot) (x : Int) : List Int := [(0 : Int), x] ++ ats a ++ ats b
theorem tv82 (a b : List Knot) (x : Int) : runX ctOv (llOf Try.prog E 82 [(3, c82a), (7, c82b), (11, c82c)]) 82 [.agg [.sl 78 a false], .agg [.sl 78 b false], i64 x] [4] =
  (.req (((0 : Int) ≤ (0 : Int) ∧ List.length a ≤ (24 : Nat)) ∧ (↑(List.length [(0 : Int), x]) : Int) ≤ (2 : Int) + (0 : Int))
  (.req (List.length ([(0 : Int), x] ++ ats a) = List.length ([(0 : Int), x] ++ ats a))
  (.req (((0 : Int) ≤ (0 : Int) ∧ List.length b ≤ (24 : Nat)) ∧ (↑(List.length ([(0 : Int), x] ++ ats a)) : Int) ≤ (26 : Int) + (0 : Int))
  (.req (List.length (allX a b x) = List.length (allX a b x))
  (.req ((isD a ∧ isD b) ∧ ((0 : Int) ≤ (0 : Int) ∧ List.length (allX a b x) ≤ (50 : Nat)) ∧ ∀ (y : Int), y ∈ allX a b x → y ≤ x → exB a b y)
  (.br (ovB a b x (allX a b x))
   (.leaf (.bool (true)))
   (.leaf (.bool (false))))))))) := by kernel_rfl
theorem s82 (a b : List Knot) (x : Int) (hd : isD a ∧ isD b) (hx : ∀ y ∈ allX a b x, y ≤ x → exB a b y) : (runX ctOv (llOf Try.prog E 82 [(3, c82a), (7, c82b), (11, c82c)]) 82 [.agg [.sl 78 a false], .agg [.sl 78 b false], i64 x] [4]).holds fun v => v = .bool (ovB a b x (allX a b x)) := by
  rw [tv82]
  have la := lineErr_len hd.1
  have lb := lineErr_len hd.2
  refine ⟨⟨⟨by decide, la.2⟩, by simp⟩, rfl, ⟨⟨by decide, lb.2⟩, by simp [ats]; omega⟩, rfl, ⟨hd, ⟨by decide, by simp [allX, ats]; omega⟩, hx⟩, wayB (fun q => ?_) fun q => ?_⟩
  · rw [q]; rfl
  · rw [q]; rfl
def exA (a b : List Knot) (x : Int) : Prop := ∀ y ∈ allX a b x, y ≤ x → exB a b y
noncomputable def cOver : Con T := conP Try.prog [.agg [.s 78], .agg [.s 78], .one (.i .i64)] [.l 78, .l 78, .n] (fun d => (isD d.1 ∧ isD d.2.1) ∧ exA d.1 d.2.1 d.2.2.1) fun d => .bool (ovB d.1 d.2.1 d.2.2.1 (allX d.1 d.2.1 d.2.2.1))
theorem over_ok : ConOk Try.prog E 82 cOver := conP_ok fun d hd => fact_run ctOv_ok ll82 (ts := [4]) rfl (s82 d.1 d.2.1 d.2.2.1 hd.1 hd.2)
end Go.Proofs.Ytdlholmphenhhaa.W
end

set_option linter.unusedVariables false
set_option maxRecDepth 100000
set_option maxHeartbeats 4000000
noncomputable section
namespace Go.Proofs.Ytdlholmphenhhaa.W
open Go Go.Cx Go.RowKit
theorem tv79 (p f : List Knot) (k z v : Int) : runX ctV noLoops 79 [.agg [.sl 78 p false, .sl 78 f false], .agg [.sym .i64 k, i64 z, i64 v]] [4] =
  (.br (k == (1 : Int))
   (.req (isR p)
   (.leaf (.bool (decide (valLo p z ≥ v)))))
   (.br (k == (2 : Int))
    (.req (isR p)
    (.leaf (.bool (decide (valHi p z ≤ v)))))
    (.br (k == (3 : Int))
     (.req (isR f)
     (.leaf (.bool (decide (valLo f z ≥ v)))))
     (.req (isR f)
     (.leaf (.bool (decide (valHi f z ≤ v)))))))) := by kernel_rfl
noncomputable def rq (l : List Report) (i : Int) : Report := ixD E 55 l i
theorem drop_rq {l : List Report} {i : Nat} (h : i < l.length) : l.drop i = rq l i :: l.drop (i + 1) := drop_ix (E := E) (τ := 55) h
noncomputable def agB (p f : List Knot) (r : Report) : Bool := if r.Kind = 1 then decide (valLo p r.Z ≥ r.P) else if r.Kind = 2 then decide (valHi p r.Z ≤ r.P) else if r.Kind = 3 then decide (valLo f r.Z ≥ r.P) else decide (valHi f r.Z ≤ r.P)
theorem s79 (p f : List Knot) (r : Report) (hp : isR p) (hf : isR f) : (runX ctV noLoops 79 [.agg [.sl 78 p false, .sl 78 f false], .agg [.sym .i64 r.Kind, i64 r.Z, i64 r.P]] [4]).holds fun v => v = .bool (agB p f r) := by
  rw [tv79]
  unfold agB
  refine wayEq (fun c => ⟨hp, ?_⟩) fun c => wayEq (fun c2 => ⟨hp, ?_⟩) fun c2 => wayEq (fun c3 => ⟨hf, ?_⟩) fun c3 => ⟨hf, ?_⟩
  · rw [if_pos c]; rfl
  · rw [if_neg c, if_pos c2]; rfl
  · rw [if_neg c, if_neg c2, if_pos c3]; rfl
  · rw [if_neg c, if_neg c2, if_neg c3]; rfl
noncomputable def cAg : Con T := conP Try.prog [.agg [.s 78, .s 78], .agg [.i .i64, .i .i64, .i .i64]] [.l 78, .l 78, .n, .n, .n] (fun d => isR d.1 ∧ isR d.2.1) fun d => .bool (agB d.1 d.2.1 ⟨d.2.2.1, d.2.2.2.1, d.2.2.2.2.1⟩)
theorem ag_ok : ConOk Try.prog E 79 cAg := conP_ok fun d hd => fact_run ctV_ok noLoops_ok (ts := [4]) rfl (s79 d.1 d.2.1 ⟨d.2.2.1, d.2.2.2.1, d.2.2.2.2.1⟩ hd.1 hd.2)
def kOq (l : List Report) : Prop := ∀ r ∈ l, 1 ≤ r.Kind ∧ r.Kind ≤ 4
noncomputable def o83 (i : Int) (l : List Report) (p q : List Knot) : Tree (Ex × List (V T)) := .req (((isR p ∧ isR q) ∧ 0 ≤ i ∧ l.length ≤ 24) ∧ kOq l) (.br ((l.drop i.toNat).all (agB p q)) (.leaf (.exit 0, [])) (.leaf (.ret, [.t false])))
noncomputable def c83 : LoopC T := ⟨[.n, .n, .l 78, .l 78, .l 78, .l 78, .n, .n, .l 55, .l 78, .l 78], ⟨62, [(2, .one (.o 0 0)), (3, .one (.o 1 0)), (5, .one (.i .i64))], [.c [.i .i64, .s 78, .s 78, .s 78, .s 78, .i .i64, .i .i64, .s 55], .c [.s 78, .s 78]]⟩, fun e => match e with
    | .ret => ⟨62, [(4, .one .b)], []⟩
    | _ => ⟨62, [], []⟩, 20, fun d => o83 d.1 d.2.2.2.2.2.2.2.2.1 d.2.2.2.2.2.2.2.2.2.1 d.2.2.2.2.2.2.2.2.2.2.1⟩
theorem b83 (i b : Int) (c d e f : List Knot) (g h : Int) (l : List Report) (p q : List Knot) : bodyD Try.prog E c83 0 (bodyX Try.prog E ctV noLoops 1000 5 L0 (lpOf Try.prog 83 0)) (i, b, c, d, e, f, g, h, l, p, q, ()) =
  (.br (decide (i < (↑(List.length l) : Int)))
   (.req ((decide ((0 : Int) ≤ i) && decide (i < (↑(List.length l) : Int))) = true)
   (.req (isR p)
   (.req (isR q)
   (.br (Report.Kind (rq l i) == (2 : Int))
    (.br (!decide (valHi p (Report.Z (rq l i)) ≤ Report.P (rq l i)))
     (.leaf (.inr (.ret, [.t (false)])))
     (.leaf (.inl (IntKind.wrap IntKind.i64 (i + (1 : Int)), (b, (c, (d, (e, (f, (g, (h, (l, (p, (q, ()))))))))))))))
    (.br (Report.Kind (rq l i) == (3 : Int))
     (.br (!decide (valLo q (Report.Z (rq l i)) ≥ Report.P (rq l i)))
      (.leaf (.inr (.ret, [.t (false)])))
      (.leaf (.inl (IntKind.wrap IntKind.i64 (i + (1 : Int)), (b, (c, (d, (e, (f, (g, (h, (l, (p, (q, ()))))))))))))))
     (.br (Report.Kind (rq l i) == (4 : Int))
      (.br (!decide (valHi q (Report.Z (rq l i)) ≤ Report.P (rq l i)))
       (.leaf (.inr (.ret, [.t (false)])))
       (.leaf (.inl (IntKind.wrap IntKind.i64 (i + (1 : Int)), (b, (c, (d, (e, (f, (g, (h, (l, (p, (q, ()))))))))))))))
      (.br (!decide (valLo p (Report.Z (rq l i)) ≥ Report.P (rq l i)))
       (.leaf (.inr (.ret, [.t (false)])))
       (.leaf (.inl (IntKind.wrap IntKind.i64 (i + (1 : Int)), (b, (c, (d, (e, (f, (g, (h, (l, (p, (q, ()))))))))))))))))))))
   (.leaf (.inr (.exit (0 : Nat), [])))) := by kernel_rfl
theorem ag_cons {p q : List Knot} {l : List Report} {i : Nat} (h : (i : Int) < l.length) : (l.drop i).all (agB p q) = (agB p q (rq l i) && (l.drop (i + 1)).all (agB p q)) := by
  rw [drop_rq (by omega)]; rfl
theorem rq_mem {l : List Report} {i : Nat} (h : (i : Int) < l.length) : rq l i ∈ l := by
  have : rq l i ∈ l.drop i := by rw [drop_rq (by omega)]; exact List.mem_cons_self
  exact List.mem_of_mem_drop this
theorem h83' (i : Nat) (b : Int) (c d e f : List Knot) (g h : Int) (l : List Report) (p q : List Knot) (K : Ex × List (V T) → Prop) (hp : isR p ∧ isR q) (hl : l.length ≤ 24) (hk : kOq l) (hK : (Tree.br ((l.drop i).all (agB p q)) (.leaf (.exit 0, [])) (.leaf (.ret, [.t false])) : Tree (Ex × List (V T))).holds K) :
    (bodyD Try.prog E c83 0 (bodyX Try.prog E ctV noLoops 1000 5 L0 (lpOf Try.prog 83 0)) ((i : Int), b, c, d, e, f, g, h, l, p, q, ())).holds fun y => match y with
    | .inl d => ((d.2.2.2.2.2.2.2.2.1.length : Int) - d.1).toNat < ((l.length : Int) - (i : Int)).toNat ∧ (c83.out d).holds K
    | .inr y => K y := by
  rw [b83]
  refine way (fun cc => wayC (by omega) cc fun _ _ => ⟨hp.1, hp.2, ?_⟩) fun cc => ?_
  · have e2 : IntKind.wrap IntKind.i64 ((i : Int) + 1) = ((i + 1 : Nat) : Int) := i64_in' (by omega) (by omega)
    rw [e2]
    rw [ag_cons cc] at hK
    have hlt : ((l.length : Int) - ((i + 1 : Nat) : Int)).toNat < ((l.length : Int) - (i : Int)).toNat := by omega
    have h3 : (0 : Int) ≤ ((i + 1 : Nat) : Int) := by omega
    have kk := hk _ (rq_mem cc)
    have no : agB p q (rq l i) = false → K (.ret, [.t false]) := fun z => by rw [z, Bool.false_and] at hK; exact hK.2 rfl
    have yes : agB p q (rq l i) = true → ((l.length : Int) - ((i + 1 : Nat) : Int)).toNat < ((l.length : Int) - (i : Int)).toNat ∧ (c83.out (((i + 1 : Nat) : Int), b, c, d, e, f, g, h, l, p, q, ())).holds K := fun z => by
      rw [z, Bool.true_and] at hK
      exact ⟨hlt, ⟨⟨hp, h3, hl⟩, hk⟩, hK⟩
    have nb : ∀ {x : Bool}, (!x) = true → x = false := fun z => by simpa using z
    have nt : ∀ {x : Bool}, (!x) = false → x = true := fun z => by simpa using z
    refine wayEq (fun k2 => ?_) fun k2 => wayEq (fun k3 => ?_) fun k3 => wayEq (fun k4 => ?_) fun k4 => ?_
    · have ez : agB p q (rq l i) = decide (valHi p (rq l i).Z ≤ (rq l i).P) := by unfold agB; rw [if_neg (by omega), if_pos k2]
      exact wayB (fun z => no (ez.trans (nb z))) fun z => yes (ez.trans (nt z))
    · have ez : agB p q (rq l i) = decide (valLo q (rq l i).Z ≥ (rq l i).P) := by unfold agB; rw [if_neg (by omega), if_neg k2, if_pos k3]
      exact wayB (fun z => no (ez.trans (nb z))) fun z => yes (ez.trans (nt z))
    · have ez : agB p q (rq l i) = decide (valHi q (rq l i).Z ≤ (rq l i).P) := by unfold agB; rw [if_neg (by omega), if_neg k2, if_neg k3]
      exact wayB (fun z => no (ez.trans (nb z))) fun z => yes (ez.trans (nt z))
    · have ez : agB p q (rq l i) = decide (valLo p (rq l i).Z ≥ (rq l i).P) := by unfold agB; rw [if_pos (by omega)]
      exact wayB (fun z => no (ez.trans (nb z))) fun z => yes (ez.trans (nt z))
  · rw [List.drop_eq_nil_of_le (by omega)] at hK
    exact hK.1 rfl
theorem h83 : LoopH Try.prog E c83 0 (bodyX Try.prog E ctV noLoops 1000 5 L0 (lpOf Try.prog 83 0)) :=
  ⟨fun d => ((d.2.2.2.2.2.2.2.2.1.length : Int) - d.1).toNat, fun d K hK => by
    obtain ⟨i, b, c, d, e, f, g, h, l, p, q, ⟨⟩⟩ := d
    obtain ⟨⟨⟨k0, k1, k2⟩, k3⟩, k4⟩ := hK
    obtain ⟨j, hj⟩ := Int.eq_ofNat_of_zero_le k1
    obtain rfl : i = (j : Int) := hj
    refine Tree.holds_mono (fun y hy => ?_) (h83' j b c d e f g h l p q K k0 k2 k3 k4)
    cases y with
    | inl d' => exact hy
    | inr y => exact hy⟩
theorem ll83 : LLOk Try.prog E (llOf Try.prog E 83 [(2, c83)]) := llOf_ok fun i hi c hc => by
  have hi : i < 1 := hi
  obtain rfl : i = 0 := by omega
  obtain rfl : c83 = c := Option.some.inj hc
  exact LSnd.mk good names mixes ctV_ok (by decide) h83
theorem tv83 (e : Earth) (p q : List Knot) : runX ctV (llOf Try.prog E 83 [(2, c83)]) 83 [e.av, .agg [.sl 78 p false, .sl 78 q false]] [4] =
  (.req (((isR p ∧ isR q) ∧ (0 : Int) ≤ (0 : Int) ∧ List.length (Earth.Reports e) ≤ (24 : Nat)) ∧ kOq (Earth.Reports e))
  (.br (List.all (List.drop (Int.toNat (0 : Int)) (Earth.Reports e)) (agB p q))
   (.leaf (.bool (true)))
   (.leaf (.bool (false))))) := by kernel_rfl
/-! ### the program's search -/
noncomputable def fiR (p : Report → Bool) : List Report → Int → Int
  | [], _ => -1
  | x :: l, i => if p x = true then i else fiR p l (i + 1)
theorem fiR_cons {p : Report → Bool} {x : Report} {l : List Report} {i : Int} : fiR p (x :: l) i = if p x = true then i else fiR p l (i + 1) := rfl
theorem fiR_any {p : Report → Bool} : ∀ {l : List Report} {i : Int}, 0 ≤ i → decide (fiR p l i ≥ 0) = l.any p
  | [], i, h => rfl
  | x :: l, i, h => by
    rw [fiR_cons, List.any_cons]
    cases hx : p x with
    | true => rw [if_pos rfl]; simpa using h
    | false => rw [if_neg (by simp), Bool.false_or]; exact fiR_any (by omega)
theorem fiR_no {p : Report → Bool} : ∀ (l : List Report) (i : Int), ¬ fiR p l i ≥ 0 → 0 ≤ i → -1 = fiR p l i
  | [], _, _, _ => rfl
  | x :: l, i, h, hi => by
    rw [fiR_cons] at h ⊢
    split
    · rename_i e; rw [if_pos e] at h; omega
    · rename_i e; rw [if_neg e] at h; exact fiR_no l _ h (by omega)
@[reducible] noncomputable def dis (p f : List Knot) (r : Report) : Bool := !agB p f r
noncomputable def ctAg : CTab T := [(79, cAg)]
theorem ctAg_ok : CTabOk Try.prog E ctAg := .cons ag_ok .nil
noncomputable def o103 (l : List Report) (p f : List Knot) (n i : Int) : Tree (Ex × List (V T)) := .req (((0 ≤ i ∧ n = l.length) ∧ l.length ≤ 24) ∧ isR p ∧ isR f) (.br (decide (fiR (dis p f) (l.drop i.toNat) i ≥ 0)) (.leaf (.ret, [.n (fiR (dis p f) (l.drop i.toNat) i)])) (.leaf (.exit 0, [])))
noncomputable def c103 : LoopC T := ⟨[.l 55, .l 78, .l 78, .n, .n], ⟨19, [(0, .one (.s 55)), (1, .fn 78 [.r [.s 78, .s 78]]), (7, .one (.i .i64)), (8, .one (.i .i64))], []⟩, fun e => match e with
    | .ret => ⟨19, [(4, .one (.i .i64))], []⟩
    | _ => ⟨19, [], []⟩, 10, fun d => o103 d.1 d.2.1 d.2.2.1 d.2.2.2.1 d.2.2.2.2.1⟩
theorem b103 (l : List Report) (p f : List Knot) (n i : Int) : bodyD Try.prog E c103 0 (bodyX Try.prog E ctAg noLoops 1000 5 L0 (lpOf Try.prog 103 0)) (l, p, f, n, i, ()) =
  (.br (decide (i < n))
   (.req ((decide ((0 : Int) ≤ i) && decide (i < (↑(List.length l) : Int))) = true)
   (.req (isR p ∧ isR f)
   (.br (!agB p f (Report.mk (Report.Kind (rq l i)) (Report.Z (rq l i)) (Report.P (rq l i))))
    (.leaf (.inr (.ret, [.n (i)])))
    (.leaf (.inl (l, (p, (f, (n, (IntKind.wrap IntKind.i64 (i + (1 : Int)), ()))))))))))
   (.leaf (.inr (.exit (0 : Nat), [])))) := by kernel_rfl
theorem dis_cons {p f : List Knot} {l : List Report} {i : Nat} {j : Int} (h : (i : Int) < l.length) : fiR (dis p f) (l.drop i) j = if dis p f (rq l i) = true then j else fiR (dis p f) (l.drop (i + 1)) (j + 1) := by
  rw [drop_rq (by omega), fiR_cons]
theorem h103' (l : List Report) (p f : List Knot) (i : Nat) (K : Ex × List (V T) → Prop) (hl : l.length ≤ 24) (hp : isR p ∧ isR f) (hK : (Tree.br (decide (fiR (dis p f) (l.drop i) i ≥ 0)) (.leaf (.ret, [.n (fiR (dis p f) (l.drop i) i)])) (.leaf (.exit 0, [])) : Tree (Ex × List (V T))).holds K) :
    (bodyD Try.prog E c103 0 (bodyX Try.prog E ctAg noLoops 1000 5 L0 (lpOf Try.prog 103 0)) (l, p, f, (l.length : Int), (i : Int), ())).holds fun y => match y with
    | .inl d => ((d.1.length : Int) - d.2.2.2.2.1).toNat < ((l.length : Int) - (i : Int)).toNat ∧ (c103.out d).holds K
    | .inr y => K y := by
  rw [b103]
  refine way (fun c => wayC (by omega) c fun _ _ => ⟨hp, ?_⟩) fun c => ?_
  · have e2 : IntKind.wrap IntKind.i64 ((i : Int) + 1) = ((i + 1 : Nat) : Int) := i64_in' (by omega) (by omega)
    rw [e2]
    rw [dis_cons c] at hK
    have hlt : ((l.length : Int) - ((i + 1 : Nat) : Int)).toNat < ((l.length : Int) - (i : Int)).toNat := by omega
    have h3 : (0 : Int) ≤ ((i + 1 : Nat) : Int) := by omega
    refine wayB (fun q => ?_) fun q => ?_
    · have q : dis p f (rq l i) = true := q
      rw [if_pos q] at hK
      exact hK.1 (decide_eq_true (by omega))
    · have q : dis p f (rq l i) = false := q
      rw [if_neg (by rw [q]; decide)] at hK
      exact ⟨hlt, ⟨⟨⟨h3, rfl⟩, hl⟩, hp⟩, hK⟩
  · rw [List.drop_eq_nil_of_le (by omega)] at hK
    exact hK.2 (decide_eq_false (show ¬ (-1 : Int) ≥ 0 by decide))
theorem h103 : LoopH Try.prog E c103 0 (bodyX Try.prog E ctAg noLoops 1000 5 L0 (lpOf Try.prog 103 0)) :=
  ⟨fun d => ((d.1.length : Int) - d.2.2.2.2.1).toNat, fun d K hK => by
    obtain ⟨l, p, f, n, i, ⟨⟩⟩ := d
    obtain ⟨⟨⟨⟨k1, k2⟩, k3⟩, k5⟩, k4⟩ := hK
    obtain ⟨j, hj⟩ := Int.eq_ofNat_of_zero_le k1
    obtain rfl : i = (j : Int) := hj
    obtain rfl : n = ((l : List Report).length : Int) := k2
    refine Tree.holds_mono (fun y hy => ?_) (h103' l p f j K k3 k5 k4)
    cases y with
    | inl d' => exact hy
    | inr y => exact hy⟩
theorem ll103 : LLOk Try.prog E (llOf Try.prog E 103 [(2, c103)]) := llOf_ok fun i hi c hc => by
  have hi : i < 1 := hi
  obtain rfl : i = 0 := by omega
  obtain rfl : c103 = c := Option.some.inj hc
  exact LSnd.mk good names mixes ctAg_ok (by decide) h103
theorem tv103 (l : List Report) (p f : List Knot) : runX ctAg (llOf Try.prog E 103 [(2, c103)]) 103 [.sl 55 l false, .fn 78 [.rp [.sl 78 p false, .sl 78 f false]]] [3] =
  (.req ((((0 : Int) ≤ (0 : Int) ∧ (↑(List.length l) : Int) = (↑(List.length l) : Int)) ∧ List.length l ≤ (24 : Nat)) ∧ isR p ∧ isR f)
  (.br (decide (fiR (dis p f) (List.drop (Int.toNat (0 : Int)) l) (0 : Int) ≥ (0 : Int)))
   (.leaf (.sym .i64 (fiR (dis p f) (List.drop (Int.toNat (0 : Int)) l) (0 : Int))))
   (.leaf (.sym .i64 ((-1 : Int)))))) := by kernel_rfl
theorem fact_runF {ct : CTab T} (hc : CTabOk Try.prog E ct) {ll : Nat → Nat → LoopTab T} (hl : LLOk Try.prog E ll) {f : Nat} {xs : List (AV T)} {ts : List Nat} {v : AV T} (ha : xs.all flt3 = true)
    (h : (runX ct ll f xs ts).holds fun x => x = v) : Fact Try.prog E f xs v :=
  fact_of_run3 good decOk (callX_ok good names mixes hc hl 8) ha h
theorem s103 (l : List Report) (p f : List Knot) (h : l.length ≤ 24 ∧ isR p ∧ isR f) : (runX ctAg (llOf Try.prog E 103 [(2, c103)]) 103 [.sl 55 l false, .fn 78 [.rp [.sl 78 p false, .sl 78 f false]]] [3]).holds fun v => v = i64 (fiR (dis p f) l 0) := by
  rw [tv103]
  exact ⟨⟨⟨⟨by decide, rfl⟩, h.1⟩, h.2⟩, way (fun k => rfl) fun k => congrArg i64 (fiR_no l 0 k (by decide))⟩
noncomputable def cIdxR : Con T := conFP Try.prog E [37, 91] [.one (.s 55), .fn 78 [.r [.s 78, .s 78]]] [.l 55, .l 78, .l 78] (fun d => (d.1 : List Report).length ≤ 24 ∧ isR d.2.1 ∧ isR d.2.2.1) fun d => i64 (fiR (dis d.2.1 d.2.2.1) d.1 0)
theorem idxR_ok : ConOk Try.prog E 103 cIdxR := conFP_ok good decOk fun d hd => fact_runF ctAg_ok ll103 (ts := [3]) rfl (s103 d.1 d.2.1 d.2.2.1 hd)
noncomputable def ctIx : CTab T := [(103, cIdxR)]
theorem ctIx_ok : CTabOk Try.prog E ctIx := .cons idxR_ok .nil
theorem tv80 (l : List Report) (p f : List Knot) : runX ctIx noLoops 80 [.sl 55 l false, .fn 78 [.rp [.sl 78 p false, .sl 78 f false]]] [4] =
  (.req (List.length l ≤ (24 : Nat) ∧ isR p ∧ isR f)
  (.leaf (.bool (decide (fiR (dis p f) l (0 : Int) ≥ (0 : Int)))))) := by kernel_rfl
theorem s80 (l : List Report) (p f : List Knot) (h : l.length ≤ 24 ∧ isR p ∧ isR f) : (runX ctIx noLoops 80 [.sl 55 l false, .fn 78 [.rp [.sl 78 p false, .sl 78 f false]]] [4]).holds fun v => v = .bool (l.any (dis p f)) := by
  rw [tv80]
  exact ⟨h, congrArg AV.bool (fiR_any (by decide))⟩
noncomputable def cAnyR : Con T := conFP Try.prog E [37, 91] [.one (.s 55), .fn 78 [.r [.s 78, .s 78]]] [.l 55, .l 78, .l 78] (fun d => (d.1 : List Report).length ≤ 24 ∧ isR d.2.1 ∧ isR d.2.2.1) fun d => .bool ((d.1 : List Report).any (dis d.2.1 d.2.2.1))
theorem anyR_ok : ConOk Try.prog E 80 cAnyR := conFP_ok good decOk fun d hd => fact_runF ctIx_ok noLoops_ok (ts := [4]) rfl (s80 d.1 d.2.1 d.2.2.1 hd)
theorem s83 (e : Earth) (p q : List Knot) (h : ((isR p ∧ isR q) ∧ (0 : Int) ≤ 0 ∧ e.Reports.length ≤ 24) ∧ kOq e.Reports) : (runX ctV (llOf Try.prog E 83 [(2, c83)]) 83 [e.av, .agg [.sl 78 p false, .sl 78 q false]] [4]).holds fun v => v = .bool (e.Reports.all (agB p q)) := by
  rw [tv83]
  refine ⟨h, wayB (fun z => ?_) fun z => ?_⟩
  · rw [show e.Reports.all (agB p q) = true from z]; rfl
  · rw [show e.Reports.all (agB p q) = false from z]; rfl
noncomputable def cTold : Con T := conP Try.prog [shE, .agg [.s 78, .s 78]] [.n, .l 78, .l 78, .l 78, .l 78, .n, .n, .l 55, .l 78, .l 78] (fun d => ((isR d.2.2.2.2.2.2.2.2.1 ∧ isR d.2.2.2.2.2.2.2.2.2.1) ∧ (0 : Int) ≤ 0 ∧ (d.2.2.2.2.2.2.2.1 : List Report).length ≤ 24) ∧ kOq d.2.2.2.2.2.2.2.1) fun d => .bool ((d.2.2.2.2.2.2.2.1 : List Report).all (agB d.2.2.2.2.2.2.2.2.1 d.2.2.2.2.2.2.2.2.2.1))
theorem told_ok : ConOk Try.prog E 83 cTold := conP_ok fun d hd => fact_run ctV_ok ll83 (ts := [4]) rfl (s83 ⟨d.1, ⟨d.2.1⟩, ⟨d.2.2.1⟩, ⟨d.2.2.2.1⟩, ⟨d.2.2.2.2.1⟩, d.2.2.2.2.2.1, d.2.2.2.2.2.2.1, d.2.2.2.2.2.2.2.1⟩ d.2.2.2.2.2.2.2.2.1 d.2.2.2.2.2.2.2.2.2.1 hd)
end Go.Proofs.Ytdlholmphenhhaa.W
end

set_option linter.unusedVariables false
set_option maxRecDepth 100000
set_option maxHeartbeats 4000000
noncomputable section
namespace Go.Proofs.Ytdlholmphenhhaa.W
open Go Go.Cx Go.RowKit
theorem tv81 (e : Earth) (l : List Knot) : runX [] (llOf Try.prog E 81 [(2, c81)]) 81 [e.av, .agg [.sl 78 l false]] [4] =
  (.req ((1 : Int) ≤ (1 : Int) ∧ List.length l ≤ (1000 : Nat))
  (.br (grX (Earth.GLo e) (Earth.GHi e) l (1 : Int))
   (.leaf (.bool (true)))
   (.leaf (.bool (false))))) := by kernel_rfl
theorem s81 (e : Earth) (l : List Knot) (h : l.length ≤ 1000) : (runX [] (llOf Try.prog E 81 [(2, c81)]) 81 [e.av, .agg [.sl 78 l false]] [4]).holds fun v => v = .bool (grwL e.GLo e.GHi l) := by
  rw [tv81]
  refine ⟨⟨by decide, h⟩, wayB (fun q => ?_) fun q => ?_⟩
  · rw [show grwL e.GLo e.GHi l = true from q]; rfl
  · rw [show grwL e.GLo e.GHi l = false from q]; rfl
noncomputable def cGrows2 : Con T := conP Try.prog [shE, .agg [.s 78]] [.n, .l 78, .l 78, .l 78, .l 78, .n, .n, .l 55, .l 78] (fun d => (d.2.2.2.2.2.2.2.2.1 : List Knot).length ≤ 1000) fun d => .bool (grwL d.2.2.2.2.2.1 d.2.2.2.2.2.2.1 d.2.2.2.2.2.2.2.2.1)
theorem grows2_ok : ConOk Try.prog E 81 cGrows2 := conP_ok fun d hd => fact_run .nil ll81 (ts := [4]) rfl (s81 ⟨d.1, ⟨d.2.1⟩, ⟨d.2.2.1⟩, ⟨d.2.2.2.1⟩, ⟨d.2.2.2.2.1⟩, d.2.2.2.2.2.1, d.2.2.2.2.2.2.1, d.2.2.2.2.2.2.2.1⟩ d.2.2.2.2.2.2.2.2.1 hd)
noncomputable def ctFit : CTab T := (31, cCheck) :: (32, cCheck) :: (33, cTruth) :: (34, cTruth) :: (77, cGrows) :: (81, cGrows2) :: (80, cAnyR) :: (82, cOver) :: (83, cTold) :: (69, cCov) :: (17, cAwake) :: ctB
theorem ctFit_ok : CTabOk Try.prog E ctFit := .cons check_ok (.cons check2_ok (.cons truth_ok (.cons truth2_ok (.cons grows_ok (.cons grows2_ok (.cons anyR_ok (.cons over_ok (.cons told_ok (.cons cov_ok (.cons awake_ok ctB_ok))))))))))
theorem tv46 (e : Earth) (p f : List Knot) : runX ctFit noLoops 46 [e.av, .agg [.sl 78 p false, .sl 78 f false]] [4] =
  (.br (eErr (eOf (Earth.Bottom e, Line.Knots (Earth.PoreLo e), Line.Knots (Earth.PoreHi e), Line.Knots (Earth.FracLo e), Line.Knots (Earth.FracHi e), Earth.GLo e, Earth.GHi e, Earth.Reports e, ())) != (0 : Int))
   (.leaf (.bool (false)))
   (.br (trE p f (Earth.Bottom e) != (0 : Int))
    (.leaf (.bool (false)))
    (.req (List.length p ≤ (1000 : Nat))
    (.br (!grwL (Earth.GLo e) (Earth.GHi e) p)
     (.leaf (.bool (false)))
     (.req (List.length f ≤ (1000 : Nat))
     (.br (!grwL (Earth.GLo e) (Earth.GHi e) f)
      (.leaf (.bool (false)))
      (.br (!above f p)
       (.leaf (.bool (false)))
       (.req (isR p ∧ isR (Line.Knots (Earth.PoreLo e)))
       (.br (covV p (Line.Knots (Earth.PoreLo e)) (0 : Int) (Earth.Bottom e))
        (.req (isR (Line.Knots (Earth.PoreHi e)) ∧ isR p)
        (.br (covV (Line.Knots (Earth.PoreHi e)) p (0 : Int) (Earth.Bottom e))
         (.req (isR f ∧ isR (Line.Knots (Earth.FracLo e)))
         (.br (covV f (Line.Knots (Earth.FracLo e)) (0 : Int) (Earth.Bottom e))
          (.req (isR (Line.Knots (Earth.FracHi e)) ∧ isR f)
          (.br (covV (Line.Knots (Earth.FracHi e)) f (0 : Int) (Earth.Bottom e))
           (.req (List.length (Earth.Reports e) ≤ (24 : Nat) ∧ isR p ∧ isR f)
           (.leaf (.bool (!List.any (Earth.Reports e) (dis p f)))))
           (.leaf (.bool (false)))))
          (.leaf (.bool (false)))))
         (.leaf (.bool (false)))))
        (.leaf (.bool (false)))))))))))) := by kernel_rfl
theorem tv47 (e : Earth) (p f : List Knot) : runX ctFit noLoops 47 [e.av, .agg [.sl 78 p false, .sl 78 f false]] [4] =
  (.br (eErr (eOf (Earth.Bottom e, Line.Knots (Earth.PoreLo e), Line.Knots (Earth.PoreHi e), Line.Knots (Earth.FracLo e), Line.Knots (Earth.FracHi e), Earth.GLo e, Earth.GHi e, Earth.Reports e, ())) != (0 : Int))
   (.leaf (.bool (false)))
   (.br (trE p f (Earth.Bottom e) != (0 : Int))
    (.leaf (.bool (false)))
    (.req (List.length p ≤ (1000 : Nat))
    (.br (!grwL (Earth.GLo e) (Earth.GHi e) p)
     (.leaf (.bool (false)))
     (.req (List.length f ≤ (1000 : Nat))
     (.br (!grwL (Earth.GLo e) (Earth.GHi e) f)
      (.leaf (.bool (false)))
      (.req ((isD p ∧ isD (Line.Knots (Earth.PoreLo e))) ∧ exA p (Line.Knots (Earth.PoreLo e)) (Earth.Bottom e))
      (.br (ovB p (Line.Knots (Earth.PoreLo e)) (Earth.Bottom e) (allX p (Line.Knots (Earth.PoreLo e)) (Earth.Bottom e)))
       (.req ((isD (Line.Knots (Earth.PoreHi e)) ∧ isD p) ∧ exA (Line.Knots (Earth.PoreHi e)) p (Earth.Bottom e))
       (.br (ovB (Line.Knots (Earth.PoreHi e)) p (Earth.Bottom e) (allX (Line.Knots (Earth.PoreHi e)) p (Earth.Bottom e)))
        (.req ((isD f ∧ isD (Line.Knots (Earth.FracLo e))) ∧ exA f (Line.Knots (Earth.FracLo e)) (Earth.Bottom e))
        (.br (ovB f (Line.Knots (Earth.FracLo e)) (Earth.Bottom e) (allX f (Line.Knots (Earth.FracLo e)) (Earth.Bottom e)))
         (.req ((isD (Line.Knots (Earth.FracHi e)) ∧ isD f) ∧ exA (Line.Knots (Earth.FracHi e)) f (Earth.Bottom e))
         (.br (ovB (Line.Knots (Earth.FracHi e)) f (Earth.Bottom e) (allX (Line.Knots (Earth.FracHi e)) f (Earth.Bottom e)))
          (.req ((isD f ∧ isD p) ∧ exA f p (Earth.Bottom e))
          (.br (ovB f p (Earth.Bottom e) (allX f p (Earth.Bottom e)))
           (.req (((isR p ∧ isR f) ∧ (0 : Int) ≤ (0 : Int) ∧ List.length (Earth.Reports e) ≤ (24 : Nat)) ∧ kOq (Earth.Reports e))
           (.leaf (.bool (List.all (Earth.Reports e) (agB p f)))))
           (.leaf (.bool (false)))))
          (.leaf (.bool (false)))))
         (.leaf (.bool (false)))))
        (.leaf (.bool (false)))))
       (.leaf (.bool (false))))))))))) := by kernel_rfl
theorem covV_iff {a b : List Knot} {x y : Int} : covV a b x y = true ↔ ∀ z, (z = x ∨ z = y ∨ (∃ k ∈ a, (x ≤ k.At ∧ k.At ≤ y) ∧ k.At = z) ∨ ∃ k ∈ b, (x ≤ k.At ∧ k.At ≤ y) ∧ k.At = z) → valHi b z ≤ valLo a z := by
  show cov2 a b x y 0 = true ↔ _
  unfold cov2
  rw [show decide ((1 : Int) ≤ 0) = false by decide, show decide ((2 : Int) ≤ 0) = false by decide, Bool.false_or, Bool.false_or, Bool.and_eq_true, covB_iff, covB_iff]
  constructor
  · intro ⟨h1, h2⟩ z hz
    rcases hz with hz | hz | hz | hz
    · exact h1 z (by rw [hz]; simp)
    · exact h1 z (by rw [hz]; simp)
    · exact h1 z (List.mem_cons_of_mem _ (List.mem_cons_of_mem _ (mem_plc.2 hz)))
    · exact h2 z (List.mem_cons_of_mem _ (List.mem_cons_of_mem _ (mem_plc.2 hz)))
  · intro h
    refine ⟨fun z hz => h z ?_, fun z hz => h z ?_⟩
    · rcases List.mem_cons.1 hz with q | q
      · exact Or.inl q
      · rcases List.mem_cons.1 q with q | q
        · exact Or.inr (Or.inl q)
        · exact Or.inr (Or.inr (Or.inl (mem_plc.1 q)))
    · rcases List.mem_cons.1 hz with q | q
      · exact Or.inl q
      · rcases List.mem_cons.1 q with q | q
        · exact Or.inr (Or.inl q)
        · exact Or.inr (Or.inr (Or.inr (mem_plc.1 q)))
/-- A line from 0 to the bottom. -/
structure Span (l : List Knot) (b : Int) : Prop where
  d : isD l
  f : (kn l 0).At = 0
  t : (kn l ((l.length : Int) - 1)).At = b
theorem span_0 {l : List Knot} {b : Int} (h : Span l b) : valLo l 0 = valHi l 0 := by
  have v := val_first (l := l) (x := 0) (by rw [h.f]; omega)
  omega
theorem span_b {l : List Knot} {b : Int} (h : Span l b) {x : Int} (hx : b ≤ x) : valLo l x = (kn l ((l.length : Int) - 1)).V ∧ valHi l x = (kn l ((l.length : Int) - 1)).V :=
  val_last (lineErr_good h.d).1 (by rw [h.t]; exact hx)
theorem knot_ex {l : List Knot} (hd : isD l) {k : Knot} (hk : k ∈ l) : valLo l k.At = valHi l k.At := by
  obtain ⟨i, h1, h2⟩ := mem_kn hk
  have v := val_knot (lineErr_good hd).1 h1
  rw [h2] at v
  omega
theorem knot_nn {l : List Knot} (hd : isD l) {k : Knot} (hk : k ∈ l) : 0 ≤ k.At ∧ k.At ≤ 1048576 := by
  obtain ⟨i, h1, h2⟩ := mem_kn hk
  have v := (lineErr_good hd).1.bd i h1
  rw [h2] at v
  exact v.1
theorem mem_all {a b : List Knot} {x y : Int} : y ∈ allX a b x ↔ (y = 0 ∨ y = x) ∨ (∃ k ∈ a, k.At = y) ∨ ∃ k ∈ b, k.At = y := by
  simp [allX, ats, or_assoc]
theorem ex_all {a b : List Knot} {x : Int} (ha : isD a) (hb : isD b) (hs : Span a x ∨ Span b x) : exA a b x := by
  intro y hy _
  rcases mem_all.1 hy with (q | q) | ⟨k, k1, k2⟩ | ⟨k, k1, k2⟩
  · subst q
    rcases hs with h | h
    · exact Or.inl (span_0 h)
    · exact Or.inr (span_0 h)
  · subst q
    rcases hs with h | h
    · have := span_b h (Int.le_refl _); exact Or.inl (by omega)
    · have := span_b h (Int.le_refl _); exact Or.inr (by omega)
  · subst k2; exact Or.inl (knot_ex ha k1)
  · subst k2; exact Or.inr (knot_ex hb k1)
theorem ov_cov {a b : List Knot} {x : Int} (ha : isD a) (hb : isD b) (hx : 0 ≤ x) : ovB a b x (allX a b x) = covV a b 0 x := by
  refine Bool.eq_iff_iff.2 ?_
  rw [covV_iff]
  unfold ovB
  rw [List.all_eq_true]
  constructor
  · intro h z hz
    have get : ∀ z ∈ allX a b x, z ≤ x → valHi b z ≤ valLo a z := fun z m q => by
      have := h z m
      rw [Bool.or_eq_true, decide_eq_true_eq] at this
      rcases this with t | t
      · exact absurd q t
      · exact of_decide_eq_true t
    rcases hz with q | q | ⟨k, k1, k2, k3⟩ | ⟨k, k1, k2, k3⟩
    · exact get z (mem_all.2 (Or.inl (Or.inl q))) (by omega)
    · exact get z (mem_all.2 (Or.inl (Or.inr q))) (by omega)
    · exact get z (mem_all.2 (Or.inr (Or.inl ⟨k, k1, k3⟩))) (by omega)
    · exact get z (mem_all.2 (Or.inr (Or.inr ⟨k, k1, k3⟩))) (by omega)
  · intro h z hz
    rw [Bool.or_eq_true, decide_eq_true_eq]
    by_cases q : z ≤ x
    · refine Or.inr (decide_eq_true (h z ?_))
      rcases mem_all.1 hz with (t | t) | ⟨k, k1, k2⟩ | ⟨k, k1, k2⟩
      · exact Or.inl t
      · exact Or.inr (Or.inl t)
      · exact Or.inr (Or.inr (Or.inl ⟨k, k1, ⟨(knot_nn ha k1).1, by omega⟩, k2⟩))
      · exact Or.inr (Or.inr (Or.inr ⟨k, k1, ⟨(knot_nn hb k1).1, by omega⟩, k2⟩))
    · exact Or.inl q
theorem span_le {l : List Knot} {b : Int} (h : Span l b) {k : Knot} (hk : k ∈ l) : k.At ≤ b := by
  obtain ⟨i, h1, h2⟩ := mem_kn hk
  have g := (lineErr_good h.d).1
  by_cases q : i = l.length - 1
  · have : (kn l ((l.length : Int) - 1)).At = k.At := by rw [← h2, q]; congr 2; omega
    rw [← h.t, this]; omega
  · have := g.lt (i := i) (j := l.length - 1) (by omega) (by omega)
    rw [show ((l.length - 1 : Nat) : Int) = (l.length : Int) - 1 by omega, h.t, h2] at this
    omega
theorem cov_far {a b : List Knot} {x : Int} (ha : Span a x) (hb : Span b x) (hx : 0 ≤ x ∧ x ≤ 1099511627776) : covV a b 0 x = covV a b 0 1099511627776 := by
  refine Bool.eq_iff_iff.2 ?_
  rw [covV_iff, covV_iff]
  have e1 := span_b ha (Int.le_refl x)
  have e2 := span_b hb (Int.le_refl x)
  have f1 := span_b ha hx.2
  have f2 := span_b hb hx.2
  constructor
  · intro h z hz
    rcases hz with q | q | ⟨k, k1, k2, k3⟩ | ⟨k, k1, k2, k3⟩
    · exact h z (Or.inl q)
    · subst q
      have := h x (Or.inr (Or.inl rfl))
      omega
    · exact h z (Or.inr (Or.inr (Or.inl ⟨k, k1, ⟨k2.1, span_le ha k1⟩, k3⟩)))
    · exact h z (Or.inr (Or.inr (Or.inr ⟨k, k1, ⟨k2.1, span_le hb k1⟩, k3⟩)))
  · intro h z hz
    rcases hz with q | q | ⟨k, k1, k2, k3⟩ | ⟨k, k1, k2, k3⟩
    · exact h z (Or.inl q)
    · subst q
      have := h 1099511627776 (Or.inr (Or.inl rfl))
      omega
    · exact h z (Or.inr (Or.inr (Or.inl ⟨k, k1, ⟨k2.1, by omega⟩, k3⟩)))
    · exact h z (Or.inr (Or.inr (Or.inr ⟨k, k1, ⟨k2.1, by omega⟩, k3⟩)))
theorem trE_0 {p f : List Knot} {b : Int} (h : trE p f b = 0) : Span p b ∧ Span f b := by
  unfold trE at h
  split at h
  · omega
  · split at h
    · omega
    · split at h
      · rename_i h1 h2 h3
        exact ⟨⟨by omega, h3.1, h3.2.1⟩, ⟨by omega, h3.2.2.1, h3.2.2.2⟩⟩
      · omega
noncomputable def fitV (e : Earth) (p f : List Knot) : Bool := decide (eErr e = 0) && (decide (trE p f e.Bottom = 0) && (grwL e.GLo e.GHi p && (grwL e.GLo e.GHi f && (covV f p 0 e.Bottom && (covV p e.PoreLo.Knots 0 e.Bottom && (covV e.PoreHi.Knots p 0 e.Bottom && (covV f e.FracLo.Knots 0 e.Bottom && (covV e.FracHi.Knots f 0 e.Bottom && e.Reports.all (agB p f)))))))))
theorem bT {x : Bool} (h : (!x) = false) : x = true := by simpa using h
theorem bF {x : Bool} (h : (!x) = true) : x = false := by simpa using h
theorem andR {q r : Bool} {t : Tree (AV T)} (h : q = true → t.holds fun v => v = .bool r) : (Tree.br q t (.leaf (.bool false))).holds fun v => v = (.bool (q && r) : AV T) := by
  refine wayB (fun k => ?_) fun k => ?_
  · rw [k, Bool.true_and]; exact h k
  · rw [k, Bool.false_and]; rfl
theorem andN {q r : Bool} {t : Tree (AV T)} (h : q = true → t.holds fun v => v = .bool r) : (Tree.br (!q) (.leaf (.bool false)) t).holds fun v => v = (.bool (q && r) : AV T) := by
  refine wayB (fun k => ?_) fun k => ?_
  · rw [bF k, Bool.false_and]; rfl
  · rw [bT k, Bool.true_and]; exact h (bT k)
theorem andE {n : Int} {r : Bool} {t : Tree (AV T)} (h : n = 0 → t.holds fun v => v = .bool r) : (Tree.br (n != 0) (.leaf (.bool false)) t).holds fun v => v = (.bool (decide (n = 0) && r) : AV T) := by
  refine wayNe (fun k => ?_) fun k => ?_
  · rw [decide_eq_false k, Bool.false_and]; rfl
  · rw [decide_eq_true k, Bool.true_and]; exact h k
theorem eOk_b {e : Earth} (o : EOk e) : 0 ≤ e.Bottom ∧ e.Bottom ≤ 1099511627776 := by
  have := o.num
  unfold okN at this
  omega
theorem any_all {e : Earth} {p f : List Knot} : (!e.Reports.any (dis p f)) = e.Reports.all (agB p f) := by
  induction e.Reports with
  | nil => rfl
  | cons r l ih =>
    rw [List.any_cons, List.all_cons, ← ih, Bool.not_or]
    show (!!agB p f r && _) = _
    rw [Bool.not_not]
theorem s46 (e : Earth) (p f : List Knot) : (runX ctFit noLoops 46 [e.av, .agg [.sl 78 p false, .sl 78 f false]] [4]).holds fun v => v = .bool (fitV e p f) := by
  rw [tv46]
  unfold fitV
  refine andE fun h1 => andE fun h2 => ?_
  have o : EOk e := eErr_ok h1
  have hb := eOk_b o
  obtain ⟨sp, sf⟩ := trE_0 h2
  have lp := lineErr_len sp.d
  have lf := lineErr_len sf.d
  refine ⟨by omega, andN fun _ => ⟨by omega, andN fun _ => ?_⟩⟩
  have ea : above f p = covV f p 0 e.Bottom := by
    rw [cov_far sf sp hb, cov_ab (Or.inl sf.d) (Or.inl sp.d)]
    exact above_ab (Or.inl sf.d) (Or.inl sp.d)
  rw [ea]
  refine andN fun _ => ⟨⟨Or.inl sp.d, Or.inl o.l1⟩, andR fun _ => ⟨⟨Or.inl o.l2, Or.inl sp.d⟩, andR fun _ => ⟨⟨Or.inl sf.d, Or.inl o.l3⟩, andR fun _ => ⟨⟨Or.inl o.l4, Or.inl sf.d⟩, andR fun _ => ⟨⟨o.len, Or.inl sp.d, Or.inl sf.d⟩, ?_⟩⟩⟩⟩⟩
  exact congrArg AV.bool any_all
theorem sw5 {a b c d x r : Bool} : (b && (c && (d && (x && (a && r))))) = (a && (b && (c && (d && (x && r))))) := by
  cases a <;> cases b <;> cases c <;> cases d <;> cases x <;> rfl
theorem s47 (e : Earth) (p f : List Knot) : (runX ctFit noLoops 47 [e.av, .agg [.sl 78 p false, .sl 78 f false]] [4]).holds fun v => v = .bool (fitV e p f) := by
  rw [tv47]
  unfold fitV
  refine andE fun h1 => andE fun h2 => ?_
  have o : EOk e := eErr_ok h1
  have hb := eOk_b o
  obtain ⟨sp, sf⟩ := trE_0 h2
  have lp := lineErr_len sp.d
  have lf := lineErr_len sf.d
  refine ⟨by omega, andN fun _ => ⟨by omega, andN fun _ => ?_⟩⟩
  rw [← sw5]
  rw [ov_cov sp.d o.l1 hb.1, ov_cov o.l2 sp.d hb.1, ov_cov sf.d o.l3 hb.1, ov_cov o.l4 sf.d hb.1, ov_cov sf.d sp.d hb.1]
  exact ⟨⟨⟨sp.d, o.l1⟩, ex_all sp.d o.l1 (Or.inl sp)⟩, andR fun _ => ⟨⟨⟨o.l2, sp.d⟩, ex_all o.l2 sp.d (Or.inr sp)⟩, andR fun _ => ⟨⟨⟨sf.d, o.l3⟩, ex_all sf.d o.l3 (Or.inl sf)⟩, andR fun _ => ⟨⟨⟨o.l4, sf.d⟩, ex_all o.l4 sf.d (Or.inr sf)⟩, andR fun _ => ⟨⟨⟨sf.d, sp.d⟩, ex_all sf.d sp.d (Or.inl sf)⟩, andR fun _ => ⟨⟨⟨⟨Or.inl sp.d, Or.inl sf.d⟩, by decide, o.len⟩, fun r hr => (o.rep r hr).1⟩, rfl⟩⟩⟩⟩⟩⟩
noncomputable def cFit : Con T := conV Try.prog [shE, .agg [.s 78, .s 78]] [.n, .l 78, .l 78, .l 78, .l 78, .n, .n, .l 55, .l 78, .l 78] fun d => .bool (fitV ⟨d.1, ⟨d.2.1⟩, ⟨d.2.2.1⟩, ⟨d.2.2.2.1⟩, ⟨d.2.2.2.2.1⟩, d.2.2.2.2.2.1, d.2.2.2.2.2.2.1, d.2.2.2.2.2.2.2.1⟩ d.2.2.2.2.2.2.2.2.1 d.2.2.2.2.2.2.2.2.2.1)
theorem fit_ok : ConOk Try.prog E 46 cFit := conV_ok fun d => fact_run ctFit_ok noLoops_ok (ts := [4]) rfl (s46 ⟨d.1, ⟨d.2.1⟩, ⟨d.2.2.1⟩, ⟨d.2.2.2.1⟩, ⟨d.2.2.2.2.1⟩, d.2.2.2.2.2.1, d.2.2.2.2.2.2.1, d.2.2.2.2.2.2.2.1⟩ d.2.2.2.2.2.2.2.2.1 d.2.2.2.2.2.2.2.2.2.1)
theorem fit2_ok : ConOk Try.prog E 47 cFit := conV_ok fun d => fact_run ctFit_ok noLoops_ok (ts := [4]) rfl (s47 ⟨d.1, ⟨d.2.1⟩, ⟨d.2.2.1⟩, ⟨d.2.2.2.1⟩, ⟨d.2.2.2.2.1⟩, d.2.2.2.2.2.1, d.2.2.2.2.2.2.1, d.2.2.2.2.2.2.2.1⟩ d.2.2.2.2.2.2.2.2.1 d.2.2.2.2.2.2.2.2.2.1)
noncomputable def ctE7 : CTab T := [(46, cFit), (47, cFit), (17, cAwake)]
theorem ctE7_ok : CTabOk Try.prog E ctE7 := .cons fit_ok (.cons fit2_ok (.cons awake_ok .nil))
theorem tv7 (e : Earth) (p f : List Knot) : runX ctE7 noLoops 7 [e.av, .agg [.sl 78 p false, .sl 78 f false]] [4] =
  (.br (decide ((↑(List.length (Line.Knots (Earth.PoreLo e))) : Int) ≤ (26 : Int)))
   (.br (decide ((↑(List.length (Line.Knots (Earth.PoreHi e))) : Int) ≤ (26 : Int)))
    (.br (decide ((↑(List.length (Line.Knots (Earth.FracLo e))) : Int) ≤ (26 : Int)))
     (.br (decide ((↑(List.length (Line.Knots (Earth.FracHi e))) : Int) ≤ (26 : Int)))
      (.br (!decide ((↑(List.length (Earth.Reports e)) : Int) ≤ (26 : Int)))
       (.leaf (.bool (true)))
       (.br (!decide ((↑(List.length p) : Int) ≤ (26 : Int)))
        (.leaf (.bool (true)))
        (.br (!decide ((↑(List.length f) : Int) ≤ (26 : Int)))
         (.leaf (.bool (true)))
         (.br (fitV (Earth.mk (Earth.Bottom e) (Line.mk (Line.Knots (Earth.PoreLo e))) (Line.mk (Line.Knots (Earth.PoreHi e))) (Line.mk (Line.Knots (Earth.FracLo e))) (Line.mk (Line.Knots (Earth.FracHi e))) (Earth.GLo e) (Earth.GHi e) (Earth.Reports e)) p f == fitV (Earth.mk (Earth.Bottom e) (Line.mk (Line.Knots (Earth.PoreLo e))) (Line.mk (Line.Knots (Earth.PoreHi e))) (Line.mk (Line.Knots (Earth.FracLo e))) (Line.mk (Line.Knots (Earth.FracHi e))) (Earth.GLo e) (Earth.GHi e) (Earth.Reports e)) p f)
          (.leaf (.bool (true)))
          (.leaf (.bool (false)))))))
      (.leaf (.bool (true))))
     (.leaf (.bool (true))))
    (.leaf (.bool (true))))
   (.leaf (.bool (true)))) := by kernel_rfl
end Go.Proofs.Ytdlholmphenhhaa.W
end

set_option linter.unusedVariables false
set_option maxRecDepth 100000
noncomputable section
namespace Go.Proofs.Ytdlholmphenhhaa.W.Gr
open Go Go.Cx Go.RowKit
noncomputable def runR (ct : CTab T) (ll : Nat → Nat → LoopTab T) (f : Nat) (cs xs : List (AV T)) (ts : List Nat) : Tree (AV T × List (AV T)) := resR Try.prog E ts cs.length (callX Try.prog E ct ll 1000 8 (.fn f) xs (hpR cs))
theorem factR_run {ct : CTab T} (hc : CTabOk Try.prog E ct) {ll : Nat → Nat → LoopTab T} (hl : LLOk Try.prog E ll) {f : Nat} {cs xs : List (AV T)} {ts : List Nat} {v : AV T} {cs' : List (AV T)}
    (h : (runR ct ll f cs xs ts).holds fun x => x = (v, cs')) : FactR Try.prog E f cs xs v cs' :=
  factR_of_run good (callX_ok good names mixes hc hl 8) h
@[reducible] def mPre (a b : Int) : Prop := 0 < b ∧ b ≤ 4611686018427387904
noncomputable def cMod : Con T := conP Try.prog [.one (.i .i64), .one (.i .i64)] [.n, .n] (fun d => mPre d.1 d.2.1) (fun d => i64 (d.1 % d.2.1))
noncomputable def mTree (a b : Int) : Tree (AV T) :=
  (.req (decide (b ≠ (0 : Int)) = true)
  (.br (decide (Int.tmod a b < (0 : Int)))
   (.leaf (.sym .i64 (IntKind.wrap IntKind.i64 (Int.tmod a b + b))))
   (.leaf (.sym .i64 (Int.tmod a b)))))
theorem mTree_ok {a b : Int} (h0 : 0 < b) (h1 : b ≤ 4611686018427387904) : (mTree a b).holds fun x => x = i64 (a % b) := by
  have h2 := Int.tmod_lt_of_pos a h0
  have h3 := Int.tmod_lt_of_pos (-a) h0
  rw [Int.neg_tmod] at h3
  have h4 := Int.mul_tdiv_add_tmod a b
  unfold mTree
  refine ⟨decide_eq_true (by omega), way (fun h => ?_) fun h => ?_⟩
  · rw [show IntKind.wrap IntKind.i64 (Int.tmod a b + b) = Int.tmod a b + b from i64_in' (by omega) (by omega)]
    exact congrArg i64 ((Int.ediv_emod_unique h0 (q := Int.tdiv a b - 1)).2 ⟨by rw [Int.mul_sub, Int.mul_one]; omega, by omega, by omega⟩).2.symm
  · exact congrArg i64 ((Int.ediv_emod_unique h0 (q := Int.tdiv a b)).2 ⟨by omega, by omega, by omega⟩).2.symm
theorem t57 (a b : Int) : runX [] noLoops 57 [i64 a, i64 b] [2] = mTree a b := by kernel_rfl
theorem mod64_ok : ConOk Try.prog E 57 cMod := conP_ok fun d hd => fact_run .nil noLoops_ok (ts := [2]) rfl (by
  obtain ⟨a, b, ⟨⟩⟩ := d
  show (runX [] noLoops 57 [i64 a, i64 b] [2]).holds _
  rw [t57]
  exact mTree_ok hd.1 hd.2)
noncomputable def ni (l : List Int) (i : Int) : Int := ixD E 2 l i
noncomputable def pk (l : List Int) (i : Int) : Int := if (l.length : Int) = 0 then 0 else ni l (Int.tmod i l.length) % 1099511627776
noncomputable def ctM : CTab T := [(57, cMod)]
theorem ctM_ok : CTabOk Try.prog E ctM := .cons mod64_ok .nil
theorem tv90 (l : List Int) (i : Int) : runX ctM noLoops 90 [.sl 2 l false, i64 i] [2] =
  (.br ((↑(List.length l) : Int) == (0 : Int))
   (.leaf (.sym .i64 ((0 : Int))))
   (.req (decide ((↑(List.length l) : Int) ≠ (0 : Int)) = true)
   (.req ((decide ((0 : Int) ≤ Int.tmod i (↑(List.length l) : Int)) && decide (Int.tmod i (↑(List.length l) : Int) < (↑(List.length l) : Int))) = true)
   (.req (mPre (ni l (Int.tmod i (↑(List.length l) : Int))) (1099511627776 : Int))
   (.leaf (.sym .i64 (ni l (Int.tmod i (↑(List.length l) : Int)) % (1099511627776 : Int)))))))) := by kernel_rfl
theorem s90 (l : List Int) (i : Int) (h : 0 ≤ i) : (runX ctM noLoops 90 [.sl 2 l false, i64 i] [2]).holds fun v => v = i64 (pk l i) := by
  rw [tv90]
  unfold pk
  refine wayEq (fun c => ?_) fun c => ?_
  · rw [if_pos c]; rfl
  · have h1 := Int.tmod_nonneg (l.length : Int) h
    have h2 := Int.tmod_lt_of_pos i (b := (l.length : Int)) (by omega)
    rw [if_neg c]
    exact ⟨decide_eq_true c, by simp only [Bool.and_eq_true, decide_eq_true_eq]; omega, ⟨by decide, by decide⟩, rfl⟩
theorem pk_bd (l : List Int) (i : Int) : 0 ≤ pk l i ∧ pk l i < 1099511627776 := by
  unfold pk
  split <;> omega
noncomputable def cPk : Con T := conP Try.prog [.one (.s 2), .one (.i .i64)] [.l 2, .n] (fun d => 0 ≤ d.2.1) fun d => i64 (pk d.1 d.2.1)
theorem pk_ok : ConOk Try.prog E 90 cPk := conP_ok fun d hd => fact_run ctM_ok noLoops_ok (ts := [2]) rfl (s90 d.1 d.2.1 hd)
noncomputable def ctP : CTab T := [(57, cMod), (90, cPk)]
theorem ctP_ok : CTabOk Try.prog E ctP := .cons mod64_ok (.cons pk_ok .nil)
end Go.Proofs.Ytdlholmphenhhaa.W.Gr
end

set_option linter.unusedVariables false
set_option maxRecDepth 100000
set_option maxHeartbeats 4000000
noncomputable section
namespace Go.Proofs.Ytdlholmphenhhaa.W.Gr
open Go Go.Cx Go.RowKit
noncomputable def kx (l : List Knot) (i : Int) : Knot := ixD E 78 l i
def i5 (i a B : Int) : Prop := i = 5 → a = B
def kV (l : List Knot) : Prop := ∀ k ∈ l, 0 ≤ k.V ∧ k.V ≤ 1099511627776
noncomputable def stp (s : List Int) (B i at' : Int) : Int := if i = 4 then B - at' else if at' + (1 + pk s (i + 2) % B) > B then B - at' else 1 + pk s (i + 2) % B
noncomputable def aa (s : List Int) (i : Int) : Int := 2000 + pk s (i + 3) / 7 % 20001
noncomputable def bb (s : List Int) (i : Int) : Int := aa s i + pk s (i + 4) / 11 % (30001 - aa s i)
noncomputable def tP (s : List Int) (B : Int) : Nat → Int → Int → Int → List Knot
  | 0, _, at', p => [⟨at', p⟩]
  | n + 1, i, at', p => ⟨at', p⟩ :: if at' = B then [] else tP s B n (i + 1) (at' + stp s B i at') (p + aa s i * stp s B i at')
noncomputable def tF (s : List Int) (B : Int) : Nat → Int → Int → Int → List Knot
  | 0, _, at', p => [⟨at', p⟩]
  | n + 1, i, at', p => ⟨at', p⟩ :: if at' = B then [] else tF s B n (i + 1) (at' + stp s B i at') (p + bb s i * stp s B i at')
noncomputable def oTT (P : List Knot) (F : List Knot) (B : Int) (a : Int) (p : Int) (f : Int) (i : Int) (c : Int) (s : List Int) (o : List Int) (m : List Int) : Tree (Ex × List (V T)) := .req ((0 ≤ i ∧ i ≤ 5 ∧ i5 i a B) ∧ (1000 ≤ B ∧ B ≤ 500000) ∧ (0 ≤ a ∧ a ≤ B) ∧ (0 ≤ p ∧ p ≤ 1000000 + 22000 * a) ∧ (0 ≤ f ∧ f ≤ 21000000 + 30000 * a) ∧ P.length ≤ 5 ∧ F.length ≤ 5 ∧ (P.length : Int) ≤ i ∧ (F.length : Int) ≤ i) (.leaf (.exit 0, [.l 78 (P ++ tP s B (5 - i).toNat i a p), .l 78 (F ++ tF s B (5 - i).toNat i a f)]))
noncomputable def cTT : LoopC T := ⟨[.l 78, .l 78, .n, .n, .n, .n, .n, .n, .l 2, .l 2, .l 2], ⟨106, [(1, .one (.o 0 0)), (2, .one (.o 1 0)), (3, .one (.i .i64)), (4, .one (.o 2 0)), (5, .one (.i .i64)), (6, .one (.i .i64)), (7, .one (.i .i64)), (8, .one (.i .i64))], [.c [.i .i64, .s 2, .s 2, .s 2], .c [.x, .x], .c [.g 3 78, .g 4 78], .l 78, .l 78]⟩, fun _ => ⟨106, [(2, .one (.o 0 0)), (4, .one (.o 1 0))], [.c [.x, .x], .c [.g 2 78, .g 3 78], .l 78, .l 78]⟩, 60, fun d => oTT d.1 d.2.1 d.2.2.1 d.2.2.2.1 d.2.2.2.2.1 d.2.2.2.2.2.1 d.2.2.2.2.2.2.1 d.2.2.2.2.2.2.2.1 d.2.2.2.2.2.2.2.2.1 d.2.2.2.2.2.2.2.2.2.1 d.2.2.2.2.2.2.2.2.2.2.1⟩
theorem bTT (P : List Knot) (F : List Knot) (B : Int) (a : Int) (p : Int) (f : Int) (i : Int) (c : Int) (s : List Int) (o : List Int) (m : List Int) : bodyD Try.prog E cTT 0 (bodyX Try.prog E ctP noLoops 1000 5 L0 (lpOf Try.prog 56 0)) (P, F, B, a, p, f, i, c, s, o, m, ()) =
  (.br (decide (i < (6 : Int)))
   (.req (List.length P = List.length P)
   (.req (List.length P + List.length [Knot.mk a p] ≤ (1073741824 : Nat))
   (.req (List.length F = List.length F)
   (.req (List.length F + List.length [Knot.mk a f] ≤ (1073741824 : Nat))
   (.br (a == B)
    (.req (List.length (P ++ [Knot.mk a p]) = List.length (P ++ [Knot.mk a p]))
    (.req (List.length (F ++ [Knot.mk a f]) = List.length (F ++ [Knot.mk a f]))
    (.leaf (.inr (.exit (0 : Nat), [.l (78 : Nat) (P ++ [Knot.mk a p]), .l (78 : Nat) (F ++ [Knot.mk a f])])))))
    (.req ((0 : Int) ≤ IntKind.wrap IntKind.i64 (i + (2 : Int)))
    (.req (mPre (pk s (IntKind.wrap IntKind.i64 (i + (2 : Int)))) B)
    (.br (i == (4 : Int))
     (.req ((0 : Int) ≤ IntKind.wrap IntKind.i64 (i + (3 : Int)))
     (.req (mPre (IntKind.wrap IntKind.i64 (Int.tdiv (pk s (IntKind.wrap IntKind.i64 (i + (3 : Int)))) (7 : Int))) (20001 : Int))
     (.req ((0 : Int) ≤ IntKind.wrap IntKind.i64 (i + (4 : Int)))
     (.req (mPre (IntKind.wrap IntKind.i64 (Int.tdiv (pk s (IntKind.wrap IntKind.i64 (i + (4 : Int)))) (11 : Int))) (IntKind.wrap IntKind.i64 ((30001 : Int) - IntKind.wrap IntKind.i64 ((2000 : Int) + IntKind.wrap IntKind.i64 (Int.tdiv (pk s (IntKind.wrap IntKind.i64 (i + (3 : Int)))) (7 : Int)) % (20001 : Int)))))
     (.req (List.length (P ++ [Knot.mk a p]) = List.length (P ++ [Knot.mk a p]))
     (.req (List.length (F ++ [Knot.mk a f]) = List.length (F ++ [Knot.mk a f]))
     (.leaf (.inl (P ++ [Knot.mk a p], (F ++ [Knot.mk a f], (B, (IntKind.wrap IntKind.i64 (a + IntKind.wrap IntKind.i64 (B - a)), (IntKind.wrap IntKind.i64 (p + IntKind.wrap IntKind.i64 (IntKind.wrap IntKind.i64 ((2000 : Int) + IntKind.wrap IntKind.i64 (Int.tdiv (pk s (IntKind.wrap IntKind.i64 (i + (3 : Int)))) (7 : Int)) % (20001 : Int)) * IntKind.wrap IntKind.i64 (B - a))), (IntKind.wrap IntKind.i64 (f + IntKind.wrap IntKind.i64 (IntKind.wrap IntKind.i64 (IntKind.wrap IntKind.i64 ((2000 : Int) + IntKind.wrap IntKind.i64 (Int.tdiv (pk s (IntKind.wrap IntKind.i64 (i + (3 : Int)))) (7 : Int)) % (20001 : Int)) + IntKind.wrap IntKind.i64 (Int.tdiv (pk s (IntKind.wrap IntKind.i64 (i + (4 : Int)))) (11 : Int)) % IntKind.wrap IntKind.i64 ((30001 : Int) - IntKind.wrap IntKind.i64 ((2000 : Int) + IntKind.wrap IntKind.i64 (Int.tdiv (pk s (IntKind.wrap IntKind.i64 (i + (3 : Int)))) (7 : Int)) % (20001 : Int)))) * IntKind.wrap IntKind.i64 (B - a))), (IntKind.wrap IntKind.i64 (i + (1 : Int)), (c, (s, (o, (m, ())))))))))))))))))))
     (.br (decide (IntKind.wrap IntKind.i64 (a + IntKind.wrap IntKind.i64 ((1 : Int) + pk s (IntKind.wrap IntKind.i64 (i + (2 : Int))) % B)) > B))
      (.req ((0 : Int) ≤ IntKind.wrap IntKind.i64 (i + (3 : Int)))
      (.req (mPre (IntKind.wrap IntKind.i64 (Int.tdiv (pk s (IntKind.wrap IntKind.i64 (i + (3 : Int)))) (7 : Int))) (20001 : Int))
      (.req ((0 : Int) ≤ IntKind.wrap IntKind.i64 (i + (4 : Int)))
      (.req (mPre (IntKind.wrap IntKind.i64 (Int.tdiv (pk s (IntKind.wrap IntKind.i64 (i + (4 : Int)))) (11 : Int))) (IntKind.wrap IntKind.i64 ((30001 : Int) - IntKind.wrap IntKind.i64 ((2000 : Int) + IntKind.wrap IntKind.i64 (Int.tdiv (pk s (IntKind.wrap IntKind.i64 (i + (3 : Int)))) (7 : Int)) % (20001 : Int)))))
      (.req (List.length (P ++ [Knot.mk a p]) = List.length (P ++ [Knot.mk a p]))
      (.req (List.length (F ++ [Knot.mk a f]) = List.length (F ++ [Knot.mk a f]))
      (.leaf (.inl (P ++ [Knot.mk a p], (F ++ [Knot.mk a f], (B, (IntKind.wrap IntKind.i64 (a + IntKind.wrap IntKind.i64 (B - a)), (IntKind.wrap IntKind.i64 (p + IntKind.wrap IntKind.i64 (IntKind.wrap IntKind.i64 ((2000 : Int) + IntKind.wrap IntKind.i64 (Int.tdiv (pk s (IntKind.wrap IntKind.i64 (i + (3 : Int)))) (7 : Int)) % (20001 : Int)) * IntKind.wrap IntKind.i64 (B - a))), (IntKind.wrap IntKind.i64 (f + IntKind.wrap IntKind.i64 (IntKind.wrap IntKind.i64 (IntKind.wrap IntKind.i64 ((2000 : Int) + IntKind.wrap IntKind.i64 (Int.tdiv (pk s (IntKind.wrap IntKind.i64 (i + (3 : Int)))) (7 : Int)) % (20001 : Int)) + IntKind.wrap IntKind.i64 (Int.tdiv (pk s (IntKind.wrap IntKind.i64 (i + (4 : Int)))) (11 : Int)) % IntKind.wrap IntKind.i64 ((30001 : Int) - IntKind.wrap IntKind.i64 ((2000 : Int) + IntKind.wrap IntKind.i64 (Int.tdiv (pk s (IntKind.wrap IntKind.i64 (i + (3 : Int)))) (7 : Int)) % (20001 : Int)))) * IntKind.wrap IntKind.i64 (B - a))), (IntKind.wrap IntKind.i64 (i + (1 : Int)), (c, (s, (o, (m, ())))))))))))))))))))
      (.req ((0 : Int) ≤ IntKind.wrap IntKind.i64 (i + (3 : Int)))
      (.req (mPre (IntKind.wrap IntKind.i64 (Int.tdiv (pk s (IntKind.wrap IntKind.i64 (i + (3 : Int)))) (7 : Int))) (20001 : Int))
      (.req ((0 : Int) ≤ IntKind.wrap IntKind.i64 (i + (4 : Int)))
      (.req (mPre (IntKind.wrap IntKind.i64 (Int.tdiv (pk s (IntKind.wrap IntKind.i64 (i + (4 : Int)))) (11 : Int))) (IntKind.wrap IntKind.i64 ((30001 : Int) - IntKind.wrap IntKind.i64 ((2000 : Int) + IntKind.wrap IntKind.i64 (Int.tdiv (pk s (IntKind.wrap IntKind.i64 (i + (3 : Int)))) (7 : Int)) % (20001 : Int)))))
      (.req (List.length (P ++ [Knot.mk a p]) = List.length (P ++ [Knot.mk a p]))
      (.req (List.length (F ++ [Knot.mk a f]) = List.length (F ++ [Knot.mk a f]))
      (.leaf (.inl (P ++ [Knot.mk a p], (F ++ [Knot.mk a f], (B, (IntKind.wrap IntKind.i64 (a + IntKind.wrap IntKind.i64 ((1 : Int) + pk s (IntKind.wrap IntKind.i64 (i + (2 : Int))) % B)), (IntKind.wrap IntKind.i64 (p + IntKind.wrap IntKind.i64 (IntKind.wrap IntKind.i64 ((2000 : Int) + IntKind.wrap IntKind.i64 (Int.tdiv (pk s (IntKind.wrap IntKind.i64 (i + (3 : Int)))) (7 : Int)) % (20001 : Int)) * IntKind.wrap IntKind.i64 ((1 : Int) + pk s (IntKind.wrap IntKind.i64 (i + (2 : Int))) % B))), (IntKind.wrap IntKind.i64 (f + IntKind.wrap IntKind.i64 (IntKind.wrap IntKind.i64 (IntKind.wrap IntKind.i64 ((2000 : Int) + IntKind.wrap IntKind.i64 (Int.tdiv (pk s (IntKind.wrap IntKind.i64 (i + (3 : Int)))) (7 : Int)) % (20001 : Int)) + IntKind.wrap IntKind.i64 (Int.tdiv (pk s (IntKind.wrap IntKind.i64 (i + (4 : Int)))) (11 : Int)) % IntKind.wrap IntKind.i64 ((30001 : Int) - IntKind.wrap IntKind.i64 ((2000 : Int) + IntKind.wrap IntKind.i64 (Int.tdiv (pk s (IntKind.wrap IntKind.i64 (i + (3 : Int)))) (7 : Int)) % (20001 : Int)))) * IntKind.wrap IntKind.i64 ((1 : Int) + pk s (IntKind.wrap IntKind.i64 (i + (2 : Int))) % B))), (IntKind.wrap IntKind.i64 (i + (1 : Int)), (c, (s, (o, (m, ()))))))))))))))))))))))))))))
   (.req (List.length P = List.length P)
   (.req (List.length F = List.length F)
   (.leaf (.inr (.exit (0 : Nat), [.l (78 : Nat) (P), .l (78 : Nat) (F)])))))) := by kernel_rfl
theorem tP_end {s : List Int} {B a p : Int} (h : a = B) : ∀ (n : Nat) (i : Int), tP s B n i a p = [⟨a, p⟩]
  | 0, _ => rfl
  | n + 1, i => by unfold tP; rw [if_pos h]
theorem tF_end {s : List Int} {B a p : Int} (h : a = B) : ∀ (n : Nat) (i : Int), tF s B n i a p = [⟨a, p⟩]
  | 0, _ => rfl
  | n + 1, i => by unfold tF; rw [if_pos h]
theorem nTT (P : List Knot) (F : List Knot) (B : Int) (a : Int) (p : Int) (f : Int) (i : Int) (c : Int) (s : List Int) (o : List Int) (m : List Int) (K : Ex × List (V T) → Prop) (hI : (0 ≤ i ∧ i ≤ 5 ∧ i5 i a B) ∧ (1000 ≤ B ∧ B ≤ 500000) ∧ (0 ≤ a ∧ a ≤ B) ∧ (0 ≤ p ∧ p ≤ 1000000 + 22000 * a) ∧ (0 ≤ f ∧ f ≤ 21000000 + 30000 * a) ∧ P.length ≤ 5 ∧ F.length ≤ 5 ∧ (P.length : Int) ≤ i ∧ (F.length : Int) ≤ i) (hK : (.leaf (.exit 0, [.l 78 (P ++ tP s B (5 - i).toNat i a p), .l 78 (F ++ tF s B (5 - i).toNat i a f)]) : Tree (Ex × List (V T))).holds K) : (cTT.out (P, F, B, a, p, f, i, c, s, o, m, ())).holds K := ⟨hI, hK⟩
theorem hTT' (P : List Knot) (F : List Knot) (B : Int) (a : Int) (p : Int) (f : Int) (i : Int) (c : Int) (s : List Int) (o : List Int) (m : List Int) (K : Ex × List (V T) → Prop) (hI : (0 ≤ i ∧ i ≤ 5 ∧ i5 i a B) ∧ (1000 ≤ B ∧ B ≤ 500000) ∧ (0 ≤ a ∧ a ≤ B) ∧ (0 ≤ p ∧ p ≤ 1000000 + 22000 * a) ∧ (0 ≤ f ∧ f ≤ 21000000 + 30000 * a) ∧ P.length ≤ 5 ∧ F.length ≤ 5 ∧ (P.length : Int) ≤ i ∧ (F.length : Int) ≤ i) (hK : (.leaf (.exit 0, [.l 78 (P ++ tP s B (5 - i).toNat i a p), .l 78 (F ++ tF s B (5 - i).toNat i a f)]) : Tree (Ex × List (V T))).holds K) :
    (bodyD Try.prog E cTT 0 (bodyX Try.prog E ctP noLoops 1000 5 L0 (lpOf Try.prog 56 0)) (P, F, B, a, p, f, i, c, s, o, m, ())).holds fun y => match y with
    | .inl d => (6 - d.2.2.2.2.2.2.1).toNat < (6 - i).toNat ∧ (cTT.out d).holds K
    | .inr y => K y := by
  rw [bTT]
  obtain ⟨⟨h0, h1, h15⟩, hB, ha, hp, hf, lp, lf, lp2, lf2⟩ := hI
  have k2 := pk_bd s (i + 2)
  have k3 := pk_bd s (i + 3)
  have k4 := pk_bd s (i + 4)
  have e2 : IntKind.wrap IntKind.i64 (i + 2) = i + 2 := i64_in' (by omega) (by omega)
  have e3 : IntKind.wrap IntKind.i64 (i + 3) = i + 3 := i64_in' (by omega) (by omega)
  have e4 : IntKind.wrap IntKind.i64 (i + 4) = i + 4 := i64_in' (by omega) (by omega)
  have t7 : IntKind.wrap IntKind.i64 (Int.tdiv (pk s (i + 3)) 7) = pk s (i + 3) / 7 := by rw [Int.tdiv_eq_ediv_of_nonneg k3.1]; exact i64_in' (by omega) (by omega)
  have t11 : IntKind.wrap IntKind.i64 (Int.tdiv (pk s (i + 4)) 11) = pk s (i + 4) / 11 := by rw [Int.tdiv_eq_ediv_of_nonneg k4.1]; exact i64_in' (by omega) (by omega)
  have a1 : IntKind.wrap IntKind.i64 (2000 + pk s (i + 3) / 7 % 20001) = aa s i := by unfold aa; exact i64_in' (by omega) (by omega)
  have ab : 2000 ≤ aa s i ∧ aa s i ≤ 22000 := by unfold aa; omega
  have a2 : IntKind.wrap IntKind.i64 (30001 - aa s i) = 30001 - aa s i := i64_in' (by omega) (by omega)
  have bm := Int.emod_nonneg (pk s (i + 4) / 11) (b := 30001 - aa s i) (by omega)
  have bl := Int.emod_lt_of_pos (pk s (i + 4) / 11) (b := 30001 - aa s i) (by omega)
  have a3 : IntKind.wrap IntKind.i64 (aa s i + pk s (i + 4) / 11 % (30001 - aa s i)) = bb s i := by unfold bb; exact i64_in' (by omega) (by omega)
  have bbd : aa s i ≤ bb s i ∧ bb s i ≤ 30000 := by unfold bb; omega
  have m0 := Int.emod_nonneg (pk s (i + 2)) (b := B) (by omega)
  have m1 := Int.emod_lt_of_pos (pk s (i + 2)) (b := B) (by omega)
  have e5 : IntKind.wrap IntKind.i64 (B - a) = B - a := i64_in' (by omega) (by omega)
  have e6 : IntKind.wrap IntKind.i64 (1 + pk s (i + 2) % B) = 1 + pk s (i + 2) % B := i64_in' (by omega) (by omega)
  have e7 : IntKind.wrap IntKind.i64 (a + (1 + pk s (i + 2) % B)) = a + (1 + pk s (i + 2) % B) := i64_in' (by omega) (by omega)
  have n1 : P.length + [Knot.mk a p].length ≤ 1073741824 := by show P.length + 1 ≤ _; omega
  have n2 : F.length + [Knot.mk a f].length ≤ 1073741824 := by show F.length + 1 ≤ _; omega
  refine way (fun _ => ?_) fun cc => absurd (by omega) cc
  rw [e2, e3, e4, t7, t11, a1, a2, a3, e5, e6]
  refine ⟨rfl, n1, rfl, n2, wayEq (fun cc => ?_) fun cc => ?_⟩
  · rw [tP_end cc, tF_end cc] at hK
    exact ⟨rfl, rfl, hK⟩
  · have i5' : i ≠ 5 := fun h => cc (h15 h)
    rw [show (5 - i).toNat = (5 - (i + 1)).toNat + 1 by omega] at hK
    unfold tP tF at hK
    rw [if_neg cc, if_neg cc] at hK
    have ac : ∀ (X Y : List Knot) (k : Knot), X ++ k :: Y = (X ++ [k]) ++ Y := fun X Y k => by simp
    rw [ac P, ac F] at hK
    have fin : ∀ st, stp s B i a = st → 0 ≤ st → a + st ≤ B → (i = 4 → a + st = B) → (6 - IntKind.wrap IntKind.i64 (i + 1)).toNat < (6 - i).toNat ∧ (cTT.out (P ++ [Knot.mk a p], F ++ [Knot.mk a f], B, IntKind.wrap IntKind.i64 (a + st), IntKind.wrap IntKind.i64 (p + IntKind.wrap IntKind.i64 (aa s i * st)), IntKind.wrap IntKind.i64 (f + IntKind.wrap IntKind.i64 (bb s i * st)), IntKind.wrap IntKind.i64 (i + 1), c, s, o, m, ())).holds K := by
      intro st hs s0 s1 s4
      rw [hs] at hK
      have q1 := Int.mul_le_mul_of_nonneg_right ab.2 s0
      have q2 := Int.mul_le_mul_of_nonneg_right bbd.2 s0
      have q3 := Int.mul_nonneg (show 0 ≤ aa s i by omega) s0
      have q4 := Int.mul_nonneg (show 0 ≤ bb s i by omega) s0
      have w1 : IntKind.wrap IntKind.i64 (i + 1) = i + 1 := i64_in' (by omega) (by omega)
      have w2 : IntKind.wrap IntKind.i64 (a + st) = a + st := i64_in' (by omega) (by omega)
      have w3 : IntKind.wrap IntKind.i64 (aa s i * st) = aa s i * st := i64_in' (by omega) (by omega)
      have w4 : IntKind.wrap IntKind.i64 (bb s i * st) = bb s i * st := i64_in' (by omega) (by omega)
      rw [w1, w2, w3, w4]
      have w5 : IntKind.wrap IntKind.i64 (p + aa s i * st) = p + aa s i * st := i64_in' (by omega) (by omega)
      have w6 : IntKind.wrap IntKind.i64 (f + bb s i * st) = f + bb s i * st := i64_in' (by omega) (by omega)
      rw [w5, w6]
      have L1 : (P ++ [Knot.mk a p]).length = P.length + 1 := by simp
      have L2 : (F ++ [Knot.mk a f]).length = F.length + 1 := by simp
      exact ⟨by omega, nTT _ _ _ _ _ _ _ _ _ _ _ K ⟨⟨by omega, by omega, fun h => s4 (by omega)⟩, hB, ⟨by omega, by omega⟩, ⟨by omega, by omega⟩, ⟨by omega, by omega⟩, by omega, by omega, by omega, by omega⟩ hK⟩
    have r2 : 0 ≤ i + 2 := by omega
    have r3 : 0 ≤ i + 3 := by omega
    have r4 : 0 ≤ i + 4 := by omega
    have p1 : mPre (pk s (i + 2)) B := ⟨by omega, by omega⟩
    have p2 : mPre (pk s (i + 3) / 7) 20001 := ⟨by decide, by decide⟩
    have p3 : mPre (pk s (i + 4) / 11) (30001 - aa s i) := ⟨by omega, by omega⟩
    refine ⟨r2, p1, wayEq (fun d => ⟨r3, p2, r4, p3, rfl, rfl, fin (B - a) (if_pos d) (by omega) (by omega) (fun _ => by omega)⟩) fun d => way (fun g => ⟨r3, p2, r4, p3, rfl, rfl, fin (B - a) ((if_neg d).trans (if_pos (by rw [e7] at g; exact g))) (by omega) (by omega) (fun _ => by omega)⟩) fun g => ⟨r3, p2, r4, p3, rfl, rfl, fin _ ((if_neg d).trans (if_neg (by rw [e7] at g; exact g))) (by omega) (by rw [e7] at g; omega) (fun h => absurd h d)⟩⟩
theorem hTT : LoopH Try.prog E cTT 0 (bodyX Try.prog E ctP noLoops 1000 5 L0 (lpOf Try.prog 56 0)) :=
  ⟨fun d => (6 - d.2.2.2.2.2.2.1).toNat, fun dd K hK => by
    obtain ⟨P, F, B, a, p, f, i, c, s, o, m, ⟨⟩⟩ := dd
    obtain ⟨hI, hK⟩ := hK
    refine Tree.holds_mono (fun y hy => ?_) (hTT' P F B a p f i c s o m K hI hK)
    cases y with
    | inl d' => exact hy
    | inr y => exact hy⟩
noncomputable def sd (o : List Int) (u : Bool) (j : Int) (k : Knot) : Knot := if u = true then ⟨k.At, k.V + pk o j % 40000000⟩ else ⟨k.At, if k.V - pk o j % 40000000 > 0 then k.V - pk o j % 40000000 else 0⟩
noncomputable def sft (o : List Int) (u : Bool) : Int → List Knot → List Knot
  | _, [] => []
  | j, k :: r => sd o u j k :: sft o u (j + 1) r
noncomputable def oSH (R : List Knot) (o : List Int) (q : Int) (u : Bool) (i : Int) (l : List Knot) : Tree (Ex × List (V T)) := .req ((0 ≤ i ∧ i ≤ l.length ∧ l.length ≤ 100) ∧ (0 ≤ q ∧ q ≤ 100) ∧ kV l ∧ (R.length : Int) ≤ i) (.leaf (.exit 0, [.l 78 (R ++ sft o u (q + i) (l.drop i.toNat))]))
noncomputable def cSH : LoopC T := ⟨[.l 78, .l 2, .n, .t, .n, .l 78], ⟨50, [(1, .one (.s 2)), (2, .one (.i .i64)), (3, .one (.b)), (4, .one (.o 0 0)), (8, .one (.o 1 0)), (9, .one (.o 2 0)), (10, .one (.i .i64))], [.c [.s 78], .c [.x], .c [.g 3 78], .l 78]⟩, fun _ => ⟨50, [(8, .one (.o 0 0)), (9, .one (.o 1 0))], [.c [.x], .c [.g 2 78], .l 78]⟩, 60, fun d => oSH d.1 d.2.1 d.2.2.1 d.2.2.2.1 d.2.2.2.2.1 d.2.2.2.2.2.1⟩
theorem bSH (R : List Knot) (o : List Int) (q : Int) (u : Bool) (i : Int) (l : List Knot) : bodyD Try.prog E cSH 0 (bodyX Try.prog E ctP noLoops 1000 5 L0 (lpOf Try.prog 91 0)) (R, o, q, u, i, l, ()) =
  (.br (decide (i < (↑(List.length l) : Int)))
   (.req ((0 : Int) ≤ IntKind.wrap IntKind.i64 (q + i))
   (.req (mPre (pk o (IntKind.wrap IntKind.i64 (q + i))) (40000000 : Int))
   (.req ((decide ((0 : Int) ≤ i) && decide (i < (↑(List.length l) : Int))) = true)
   (.br (u)
    (.req (List.length R = List.length R)
    (.req (List.length R + List.length [Knot.mk (Knot.At (kx l i)) (IntKind.wrap IntKind.i64 (Knot.V (kx l i) + pk o (IntKind.wrap IntKind.i64 (q + i)) % (40000000 : Int)))] ≤ (1073741824 : Nat))
    (.req (List.length (R ++ [Knot.mk (Knot.At (kx l i)) (IntKind.wrap IntKind.i64 (Knot.V (kx l i) + pk o (IntKind.wrap IntKind.i64 (q + i)) % (40000000 : Int)))]) = List.length (R ++ [Knot.mk (Knot.At (kx l i)) (IntKind.wrap IntKind.i64 (Knot.V (kx l i) + pk o (IntKind.wrap IntKind.i64 (q + i)) % (40000000 : Int)))]))
    (.leaf (.inl (R ++ [Knot.mk (Knot.At (kx l i)) (IntKind.wrap IntKind.i64 (Knot.V (kx l i) + pk o (IntKind.wrap IntKind.i64 (q + i)) % (40000000 : Int)))], (o, (q, (u, (IntKind.wrap IntKind.i64 (i + (1 : Int)), (l, ())))))))))))
    (.req (List.length R = List.length R)
    (.req (List.length R + List.length [Knot.mk (Knot.At (kx l i)) (bif true then if IntKind.wrap IntKind.i64 (Knot.V (kx l i) - pk o (IntKind.wrap IntKind.i64 (q + i)) % (40000000 : Int)) > (0 : Int) then IntKind.wrap IntKind.i64 (Knot.V (kx l i) - pk o (IntKind.wrap IntKind.i64 (q + i)) % (40000000 : Int)) else (0 : Int) else if IntKind.wrap IntKind.i64 (Knot.V (kx l i) - pk o (IntKind.wrap IntKind.i64 (q + i)) % (40000000 : Int)) < (0 : Int) then IntKind.wrap IntKind.i64 (Knot.V (kx l i) - pk o (IntKind.wrap IntKind.i64 (q + i)) % (40000000 : Int)) else (0 : Int))] ≤ (1073741824 : Nat))
    (.req (List.length (R ++ [Knot.mk (Knot.At (kx l i)) (bif true then if IntKind.wrap IntKind.i64 (Knot.V (kx l i) - pk o (IntKind.wrap IntKind.i64 (q + i)) % (40000000 : Int)) > (0 : Int) then IntKind.wrap IntKind.i64 (Knot.V (kx l i) - pk o (IntKind.wrap IntKind.i64 (q + i)) % (40000000 : Int)) else (0 : Int) else if IntKind.wrap IntKind.i64 (Knot.V (kx l i) - pk o (IntKind.wrap IntKind.i64 (q + i)) % (40000000 : Int)) < (0 : Int) then IntKind.wrap IntKind.i64 (Knot.V (kx l i) - pk o (IntKind.wrap IntKind.i64 (q + i)) % (40000000 : Int)) else (0 : Int))]) = List.length (R ++ [Knot.mk (Knot.At (kx l i)) (bif true then if IntKind.wrap IntKind.i64 (Knot.V (kx l i) - pk o (IntKind.wrap IntKind.i64 (q + i)) % (40000000 : Int)) > (0 : Int) then IntKind.wrap IntKind.i64 (Knot.V (kx l i) - pk o (IntKind.wrap IntKind.i64 (q + i)) % (40000000 : Int)) else (0 : Int) else if IntKind.wrap IntKind.i64 (Knot.V (kx l i) - pk o (IntKind.wrap IntKind.i64 (q + i)) % (40000000 : Int)) < (0 : Int) then IntKind.wrap IntKind.i64 (Knot.V (kx l i) - pk o (IntKind.wrap IntKind.i64 (q + i)) % (40000000 : Int)) else (0 : Int))]))
    (.leaf (.inl (R ++ [Knot.mk (Knot.At (kx l i)) (bif true then if IntKind.wrap IntKind.i64 (Knot.V (kx l i) - pk o (IntKind.wrap IntKind.i64 (q + i)) % (40000000 : Int)) > (0 : Int) then IntKind.wrap IntKind.i64 (Knot.V (kx l i) - pk o (IntKind.wrap IntKind.i64 (q + i)) % (40000000 : Int)) else (0 : Int) else if IntKind.wrap IntKind.i64 (Knot.V (kx l i) - pk o (IntKind.wrap IntKind.i64 (q + i)) % (40000000 : Int)) < (0 : Int) then IntKind.wrap IntKind.i64 (Knot.V (kx l i) - pk o (IntKind.wrap IntKind.i64 (q + i)) % (40000000 : Int)) else (0 : Int))], (o, (q, (u, (IntKind.wrap IntKind.i64 (i + (1 : Int)), (l, ())))))))))))))))
   (.req (List.length R = List.length R)
   (.leaf (.inr (.exit (0 : Nat), [.l (78 : Nat) (R)]))))) := by kernel_rfl
theorem nSH (R : List Knot) (o : List Int) (q : Int) (u : Bool) (i : Int) (l : List Knot) (K : Ex × List (V T) → Prop) (hI : (0 ≤ i ∧ i ≤ l.length ∧ l.length ≤ 100) ∧ (0 ≤ q ∧ q ≤ 100) ∧ kV l ∧ (R.length : Int) ≤ i) (hK : (.leaf (.exit 0, [.l 78 (R ++ sft o u (q + i) (l.drop i.toNat))]) : Tree (Ex × List (V T))).holds K) : (cSH.out (R, o, q, u, i, l, ())).holds K := ⟨hI, hK⟩
theorem hSH' (R : List Knot) (o : List Int) (q : Int) (u : Bool) (i : Int) (l : List Knot) (K : Ex × List (V T) → Prop) (hI : (0 ≤ i ∧ i ≤ l.length ∧ l.length ≤ 100) ∧ (0 ≤ q ∧ q ≤ 100) ∧ kV l ∧ (R.length : Int) ≤ i) (hK : (.leaf (.exit 0, [.l 78 (R ++ sft o u (q + i) (l.drop i.toNat))]) : Tree (Ex × List (V T))).holds K) :
    (bodyD Try.prog E cSH 0 (bodyX Try.prog E ctP noLoops 1000 5 L0 (lpOf Try.prog 91 0)) (R, o, q, u, i, l, ())).holds fun y => match y with
    | .inl d => ((d.2.2.2.2.2.1.length : Int) - d.2.2.2.2.1).toNat < ((l.length : Int) - i).toNat ∧ (cSH.out d).holds K
    | .inr y => K y := by
  rw [bSH]
  obtain ⟨⟨h0, h1, hl⟩, ⟨q0, q1⟩, hv, lr⟩ := hI
  have e1 : IntKind.wrap IntKind.i64 (q + i) = q + i := i64_in' (by omega) (by omega)
  have pm : mPre (pk o (q + i)) 40000000 := ⟨by decide, by decide⟩
  have ac : ∀ (X Y : List Knot) (k : Knot), X ++ k :: Y = (X ++ [k]) ++ Y := fun X Y k => by simp
  refine way (fun k => ?_) fun k => ?_
  · have e2 : l.drop i.toNat = kx l i :: l.drop (i + 1).toNat := by
      have := drop_ix (E := E) (τ := 78) (l := l) (i := i.toNat) (by show i.toNat < (l : List Knot).length; omega)
      rw [Int.toNat_of_nonneg h0] at this
      rw [show (i + 1).toNat = i.toNat + 1 by omega]
      exact this
    have hm : kx l i ∈ l := List.mem_of_mem_drop (by rw [e2]; exact List.mem_cons_self ..)
    have hv1 := hv _ hm
    have b0 : 0 ≤ pk o (q + i) % 40000000 ∧ pk o (q + i) % 40000000 < 40000000 := by omega
    have e3 : IntKind.wrap IntKind.i64 (i + 1) = i + 1 := i64_in' (by omega) (by omega)
    have e4 : IntKind.wrap IntKind.i64 ((kx l i).V + pk o (q + i) % 40000000) = (kx l i).V + pk o (q + i) % 40000000 := i64_in' (by omega) (by omega)
    have e5 : IntKind.wrap IntKind.i64 ((kx l i).V - pk o (q + i) % 40000000) = (kx l i).V - pk o (q + i) % 40000000 := i64_in' (by omega) (by omega)
    rw [e1, e3, e4, e5]
    rw [e2] at hK
    unfold sft at hK
    rw [ac, Int.add_assoc] at hK
    have n1 : ∀ x : Knot, R.length + [x].length ≤ 1073741824 := fun x => by show R.length + 1 ≤ _; omega
    have fin : ∀ x : Knot, sd o u (q + i) (kx l i) = x → ((l.length : Int) - (i + 1)).toNat < ((l.length : Int) - i).toNat ∧ (cSH.out (R ++ [x], o, q, u, i + 1, l, ())).holds K := by
      rintro x rfl
      have L1 : (R ++ [sd o u (q + i) (kx l i)]).length = R.length + 1 := by simp
      exact ⟨by omega, nSH _ _ _ _ _ _ K ⟨⟨by omega, by omega, hl⟩, ⟨q0, q1⟩, hv, by omega⟩ hK⟩
    have r0 : 0 ≤ q + i := by omega
    refine ⟨r0, pm, wayC h0 k fun _ _ => ?_⟩
    cases u with
    | true => exact ⟨fun _ => ⟨rfl, n1 _, rfl, fin _ rfl⟩, fun h => by cases h⟩
    | false => exact ⟨fun h => (by cases h), fun _ => ⟨rfl, n1 _, rfl, fin _ rfl⟩⟩
  · rw [List.drop_eq_nil_of_le (by omega)] at hK
    unfold sft at hK
    rw [List.append_nil] at hK
    exact ⟨rfl, hK⟩
theorem hSH : LoopH Try.prog E cSH 0 (bodyX Try.prog E ctP noLoops 1000 5 L0 (lpOf Try.prog 91 0)) :=
  ⟨fun d => ((d.2.2.2.2.2.1.length : Int) - d.2.2.2.2.1).toNat, fun dd K hK => by
    obtain ⟨R, o, q, u, i, l, ⟨⟩⟩ := dd
    obtain ⟨hI, hK⟩ := hK
    refine Tree.holds_mono (fun y hy => ?_) (hSH' R o q u i l K hI hK)
    cases y with
    | inl d' => exact hy
    | inr y => exact hy⟩
end Go.Proofs.Ytdlholmphenhhaa.W.Gr
end

set_option linter.unusedVariables false
set_option maxRecDepth 100000
set_option maxHeartbeats 4000000
noncomputable section
namespace Go.Proofs.Ytdlholmphenhhaa.W.Gr
open Go Go.Cx Go.RowKit
noncomputable def runN (ct : CTab T) (ll : Nat → Nat → LoopTab T) (fl : List Nat) (f : Nat) (xs : List (AV T)) (ts : List Nat) : Tree (AV T) := resN Try.prog fl ts (callX Try.prog E ct ll 1000 8 (.fn f) xs hp0)
theorem factN_run {ct : CTab T} (hc : CTabOk Try.prog E ct) {ll : Nat → Nat → LoopTab T} (hl : LLOk Try.prog E ll) {fl : List Nat} (hfl : ∀ τ, memN τ fl = true → ∀ x : T τ, (E.enc τ x).all ind0 = true) {f : Nat} {xs : List (AV T)} {ts : List Nat} {v : AV T} (ha : xs.all flt2 = true)
    (h : (runN ct ll fl f xs ts).holds fun x => x = v) : FactN Try.prog E f xs v :=
  factN_of_run good hfl (callX_ok good names mixes hc hl 8) ha h
theorem flK : ∀ τ, memN τ [78, 55] = true → ∀ x : T τ, (E.enc τ x).all ind0 = true := fun τ h => by
  have := memN_iff.1 h
  have : τ = 78 ∨ τ = 55 := by simpa using this
  rcases this with rfl | rfl <;> exact fun x => rfl
theorem llT : LLOk Try.prog E (llOfN Try.prog E 56 0 [(6, cTT)]) := llOfN_ok fun i hi c hc => by
  have hi : i < 1 := hi
  obtain rfl : i = 0 := by omega
  obtain rfl : cTT = c := Option.some.inj hc
  exact LSndN.mk good names mixes ctP_ok (by decide) hTT
theorem llS : LLOk Try.prog E (llOfN Try.prog E 91 0 [(3, cSH)]) := llOfN_ok fun i hi c hc => by
  have hi : i < 1 := hi
  obtain rfl : i = 0 := by omega
  obtain rfl : cSH = c := Option.some.inj hc
  exact LSndN.mk good names mixes ctP_ok (by decide) hSH
theorem tv56 (b : Int) (s o m : List Int) : runN ctP (llOfN Try.prog E 56 0 [(6, cTT)]) [78, 55] 56 [.agg [i64 b, .sl 2 s false, .sl 2 o false, .sl 2 m false]] [41] =
  (.req (mPre b (499001 : Int))
  (.req ((0 : Int) ≤ (0 : Int))
  (.req (mPre (pk s (0 : Int)) (1000000 : Int))
  (.req ((0 : Int) ≤ (1 : Int))
  (.req (mPre (pk s (1 : Int)) (20000000 : Int))
  (.req (((0 : Int) ≤ (0 : Int) ∧ (0 : Int) ≤ (5 : Int) ∧ i5 (0 : Int) (0 : Int) (IntKind.wrap IntKind.i64 ((1000 : Int) + b % (499001 : Int)))) ∧ ((1000 : Int) ≤ IntKind.wrap IntKind.i64 ((1000 : Int) + b % (499001 : Int)) ∧ IntKind.wrap IntKind.i64 ((1000 : Int) + b % (499001 : Int)) ≤ (500000 : Int)) ∧ ((0 : Int) ≤ (0 : Int) ∧ (0 : Int) ≤ IntKind.wrap IntKind.i64 ((1000 : Int) + b % (499001 : Int))) ∧ ((0 : Int) ≤ pk s (0 : Int) % (1000000 : Int) ∧ pk s (0 : Int) % (1000000 : Int) ≤ (1000000 : Int) + (22000 : Int) * (0 : Int)) ∧ ((0 : Int) ≤ IntKind.wrap IntKind.i64 (pk s (0 : Int) % (1000000 : Int) + pk s (1 : Int) % (20000000 : Int)) ∧ IntKind.wrap IntKind.i64 (pk s (0 : Int) % (1000000 : Int) + pk s (1 : Int) % (20000000 : Int)) ≤ (21000000 : Int) + (30000 : Int) * (0 : Int)) ∧ (0 : Nat) ≤ (5 : Nat) ∧ (0 : Nat) ≤ (5 : Nat) ∧ (↑((0 : Nat)) : Int) ≤ (0 : Int) ∧ (↑((0 : Nat)) : Int) ≤ (0 : Int))
  (.req (List.length ([] ++ tP s (IntKind.wrap IntKind.i64 ((1000 : Int) + b % (499001 : Int))) (Int.toNat ((5 : Int) - (0 : Int))) (0 : Int) (0 : Int) (pk s (0 : Int) % (1000000 : Int))) = List.length ([] ++ tP s (IntKind.wrap IntKind.i64 ((1000 : Int) + b % (499001 : Int))) (Int.toNat ((5 : Int) - (0 : Int))) (0 : Int) (0 : Int) (pk s (0 : Int) % (1000000 : Int))))
  (.req (List.length ([] ++ tF s (IntKind.wrap IntKind.i64 ((1000 : Int) + b % (499001 : Int))) (Int.toNat ((5 : Int) - (0 : Int))) (0 : Int) (0 : Int) (IntKind.wrap IntKind.i64 (pk s (0 : Int) % (1000000 : Int) + pk s (1 : Int) % (20000000 : Int)))) = List.length ([] ++ tF s (IntKind.wrap IntKind.i64 ((1000 : Int) + b % (499001 : Int))) (Int.toNat ((5 : Int) - (0 : Int))) (0 : Int) (0 : Int) (IntKind.wrap IntKind.i64 (pk s (0 : Int) % (1000000 : Int) + pk s (1 : Int) % (20000000 : Int)))))
  (.leaf (.agg [.sl (78 : Nat) ([] ++ tP s (IntKind.wrap IntKind.i64 ((1000 : Int) + b % (499001 : Int))) (Int.toNat ((5 : Int) - (0 : Int))) (0 : Int) (0 : Int) (pk s (0 : Int) % (1000000 : Int))) false, .sl (78 : Nat) ([] ++ tF s (IntKind.wrap IntKind.i64 ((1000 : Int) + b % (499001 : Int))) (Int.toNat ((5 : Int) - (0 : Int))) (0 : Int) (0 : Int) (IntKind.wrap IntKind.i64 (pk s (0 : Int) % (1000000 : Int) + pk s (1 : Int) % (20000000 : Int)))) false])))))))))) := by kernel_rfl
theorem tv91 (l : List Knot) (o : List Int) (q : Int) (u : Bool) : runN ctP (llOfN Try.prog E 91 0 [(3, cSH)]) [78, 55] 91 [.agg [.sl 78 l false], .sl 2 o false, i64 q, .bool u] [24] =
  (.req (((0 : Int) ≤ (0 : Int) ∧ (0 : Int) ≤ (↑(List.length l) : Int) ∧ List.length l ≤ (100 : Nat)) ∧ ((0 : Int) ≤ q ∧ q ≤ (100 : Int)) ∧ kV l ∧ (↑((0 : Nat)) : Int) ≤ (0 : Int))
  (.req (List.length ([] ++ sft o u (q + (0 : Int)) (List.drop (Int.toNat (0 : Int)) l)) = List.length ([] ++ sft o u (q + (0 : Int)) (List.drop (Int.toNat (0 : Int)) l)))
  (.leaf (.agg [.sl (78 : Nat) ([] ++ sft o u (q + (0 : Int)) (List.drop (Int.toNat (0 : Int)) l)) false])))) := by kernel_rfl
noncomputable def tb (b : Int) : Int := IntKind.wrap IntKind.i64 (1000 + b % 499001)
noncomputable def p0 (s : List Int) : Int := pk s 0 % 1000000
noncomputable def f0 (s : List Int) : Int := IntKind.wrap IntKind.i64 (pk s 0 % 1000000 + pk s 1 % 20000000)
noncomputable def tPl (b : Int) (s : List Int) : List Knot := tP s (tb b) 5 0 0 (p0 s)
noncomputable def tFl (b : Int) (s : List Int) : List Knot := tF s (tb b) 5 0 0 (f0 s)
theorem tb_bd (b : Int) : 1000 ≤ tb b ∧ tb b ≤ 500000 := by
  unfold tb
  rw [i64_in' (by omega) (by omega)]
  omega
theorem f0_bd (s : List Int) : p0 s ≤ f0 s ∧ f0 s ≤ 21000000 ∧ 0 ≤ p0 s ∧ p0 s ≤ 1000000 := by
  unfold f0 p0
  rw [i64_in' (by omega) (by omega)]
  omega
theorem s56 (b : Int) (s o m : List Int) : (runN ctP (llOfN Try.prog E 56 0 [(6, cTT)]) [78, 55] 56 [.agg [i64 b, .sl 2 s false, .sl 2 o false, .sl 2 m false]] [41]).holds fun v => v = .agg [.sl 78 (tPl b s) false, .sl 78 (tFl b s) false] := by
  rw [tv56]
  have h1 := tb_bd b
  have h2 := f0_bd s
  unfold tb at h1
  unfold f0 p0 at h2
  have m1 : mPre b 499001 := ⟨by decide, by decide⟩
  have m2 : mPre (pk s 0) 1000000 := ⟨by decide, by decide⟩
  have m3 : mPre (pk s 1) 20000000 := ⟨by decide, by decide⟩
  refine ⟨m1, by decide, m2, by decide, m3, ⟨⟨by decide, by decide, fun h => absurd h (by decide)⟩, h1, ⟨by decide, by omega⟩, ⟨by omega, by omega⟩, ⟨by omega, by omega⟩, by decide, by decide, by decide, by decide⟩, rfl, rfl, ?_⟩
  rfl
theorem s91 (l : List Knot) (o : List Int) (q : Int) (u : Bool) (h : l.length ≤ 100 ∧ (0 ≤ q ∧ q ≤ 100) ∧ kV l) : (runN ctP (llOfN Try.prog E 91 0 [(3, cSH)]) [78, 55] 91 [.agg [.sl 78 l false], .sl 2 o false, i64 q, .bool u] [24]).holds fun v => v = .agg [.sl 78 (sft o u q l) false] := by
  rw [tv91]
  refine ⟨⟨⟨by decide, by omega, h.1⟩, h.2.1, h.2.2, by decide⟩, rfl, ?_⟩
  show AV.agg _ = _
  rw [Int.add_zero]
  rfl
noncomputable def cTrue : Con T := conPN Try.prog [.agg [.i .i64, .s 2, .s 2, .s 2]] [.n, .l 2, .l 2, .l 2] (fun _ => True) fun d => .agg [.sl 78 (tPl d.1 d.2.1) false, .sl 78 (tFl d.1 d.2.1) false]
theorem true_ok : ConOk Try.prog E 56 cTrue := conPN_ok fun d _ => factN_run ctP_ok llT flK (ts := [41]) rfl (s56 d.1 d.2.1 d.2.2.1 d.2.2.2.1)
noncomputable def cSft : Con T := conPN Try.prog [.agg [.s 78], .one (.s 2), .one (.i .i64), .one .b] [.l 78, .l 2, .n, .t] (fun d => (show List Knot from d.1).length ≤ 100 ∧ (0 ≤ d.2.2.1 ∧ d.2.2.1 ≤ 100) ∧ kV d.1) fun d => .agg [.sl 78 (sft d.2.1 d.2.2.2.1 d.2.2.1 d.1) false]
theorem sft_ok : ConOk Try.prog E 91 cSft := conPN_ok fun d hd => factN_run ctP_ok llS flK (ts := [24]) rfl (s91 d.1 d.2.1 d.2.2.1 d.2.2.2.1 hd)
noncomputable def ctRp : CTab T := [(57, cMod), (22, cAt)]
theorem ctRp_ok : CTabOk Try.prog E ctRp := .cons mod64_ok (.cons at2_ok .nil)
noncomputable def mx0 (a : Int) : Int := bif true then if a > 0 then a else 0 else if a < 0 then a else 0
noncomputable def rK (n : Int) : Int := IntKind.wrap IntKind.i64 (1 + Int.tmod (n % 1099511627776) 4)
noncomputable def rZ (p : List Knot) (n : Int) : Int := Int.tmod (IntKind.wrap IntKind.i64 (Int.tdiv (n % 1099511627776) 4)) (IntKind.wrap IntKind.i64 ((kx p (IntKind.wrap IntKind.i64 ((p.length : Int) - 1))).At + 1))
noncomputable def rO (n : Int) : Int := Int.tmod (IntKind.wrap IntKind.i64 (Int.tdiv (n % 1099511627776) 4096)) 1000000
noncomputable def rP (p f : List Knot) (n : Int) : Int := if rK n = 1 then mx0 (IntKind.wrap IntKind.i64 (atLo p (rZ p n) - rO n)) else if rK n = 2 then IntKind.wrap IntKind.i64 (atHi p (rZ p n) + rO n) else if rK n = 3 then mx0 (IntKind.wrap IntKind.i64 (atLo f (rZ p n) - rO n)) else if rK n = 4 then IntKind.wrap IntKind.i64 (atHi f (rZ p n) + rO n) else 0
noncomputable def rep (p f : List Knot) (n : Int) : Report := ⟨rK n, rZ p n, rP p f n⟩
def repOk (p : List Knot) : Prop := (0 < p.length ∧ p.length ≤ 100) ∧ 0 ≤ (kx p ((p.length : Int) - 1)).At ∧ (kx p ((p.length : Int) - 1)).At ≤ 1048576
theorem tv58 (p f : List Knot) (n : Int) : runX ctRp noLoops 58 [.agg [.sl 78 p false, .sl 78 f false], i64 n] [55] =
  (.req (mPre n (1099511627776 : Int))
  (.req ((decide ((0 : Int) ≤ IntKind.wrap IntKind.i64 ((↑(List.length p) : Int) - (1 : Int))) && decide (IntKind.wrap IntKind.i64 ((↑(List.length p) : Int) - (1 : Int)) < (↑(List.length p) : Int))) = true)
  (.req (decide (IntKind.wrap IntKind.i64 (Knot.At (kx p (IntKind.wrap IntKind.i64 ((↑(List.length p) : Int) - (1 : Int)))) + (1 : Int)) ≠ (0 : Int)) = true)
  (.br (IntKind.wrap IntKind.i64 ((1 : Int) + Int.tmod (n % (1099511627776 : Int)) (4 : Int)) == (1 : Int))
   (.leaf (.agg [.sym .i64 (IntKind.wrap IntKind.i64 ((1 : Int) + Int.tmod (n % (1099511627776 : Int)) (4 : Int))), .sym .i64 (Int.tmod (IntKind.wrap IntKind.i64 (Int.tdiv (n % (1099511627776 : Int)) (4 : Int))) (IntKind.wrap IntKind.i64 (Knot.At (kx p (IntKind.wrap IntKind.i64 ((↑(List.length p) : Int) - (1 : Int)))) + (1 : Int)))), .sym .i64 (bif true then if IntKind.wrap IntKind.i64 (atLo p (Int.tmod (IntKind.wrap IntKind.i64 (Int.tdiv (n % (1099511627776 : Int)) (4 : Int))) (IntKind.wrap IntKind.i64 (Knot.At (kx p (IntKind.wrap IntKind.i64 ((↑(List.length p) : Int) - (1 : Int)))) + (1 : Int)))) - Int.tmod (IntKind.wrap IntKind.i64 (Int.tdiv (n % (1099511627776 : Int)) (4096 : Int))) (1000000 : Int)) > (0 : Int) then IntKind.wrap IntKind.i64 (atLo p (Int.tmod (IntKind.wrap IntKind.i64 (Int.tdiv (n % (1099511627776 : Int)) (4 : Int))) (IntKind.wrap IntKind.i64 (Knot.At (kx p (IntKind.wrap IntKind.i64 ((↑(List.length p) : Int) - (1 : Int)))) + (1 : Int)))) - Int.tmod (IntKind.wrap IntKind.i64 (Int.tdiv (n % (1099511627776 : Int)) (4096 : Int))) (1000000 : Int)) else (0 : Int) else if IntKind.wrap IntKind.i64 (atLo p (Int.tmod (IntKind.wrap IntKind.i64 (Int.tdiv (n % (1099511627776 : Int)) (4 : Int))) (IntKind.wrap IntKind.i64 (Knot.At (kx p (IntKind.wrap IntKind.i64 ((↑(List.length p) : Int) - (1 : Int)))) + (1 : Int)))) - Int.tmod (IntKind.wrap IntKind.i64 (Int.tdiv (n % (1099511627776 : Int)) (4096 : Int))) (1000000 : Int)) < (0 : Int) then IntKind.wrap IntKind.i64 (atLo p (Int.tmod (IntKind.wrap IntKind.i64 (Int.tdiv (n % (1099511627776 : Int)) (4 : Int))) (IntKind.wrap IntKind.i64 (Knot.At (kx p (IntKind.wrap IntKind.i64 ((↑(List.length p) : Int) - (1 : Int)))) + (1 : Int)))) - Int.tmod (IntKind.wrap IntKind.i64 (Int.tdiv (n % (1099511627776 : Int)) (4096 : Int))) (1000000 : Int)) else (0 : Int))]))
   (.br (IntKind.wrap IntKind.i64 ((1 : Int) + Int.tmod (n % (1099511627776 : Int)) (4 : Int)) == (2 : Int))
    (.leaf (.agg [.sym .i64 (IntKind.wrap IntKind.i64 ((1 : Int) + Int.tmod (n % (1099511627776 : Int)) (4 : Int))), .sym .i64 (Int.tmod (IntKind.wrap IntKind.i64 (Int.tdiv (n % (1099511627776 : Int)) (4 : Int))) (IntKind.wrap IntKind.i64 (Knot.At (kx p (IntKind.wrap IntKind.i64 ((↑(List.length p) : Int) - (1 : Int)))) + (1 : Int)))), .sym .i64 (IntKind.wrap IntKind.i64 (atHi p (Int.tmod (IntKind.wrap IntKind.i64 (Int.tdiv (n % (1099511627776 : Int)) (4 : Int))) (IntKind.wrap IntKind.i64 (Knot.At (kx p (IntKind.wrap IntKind.i64 ((↑(List.length p) : Int) - (1 : Int)))) + (1 : Int)))) + Int.tmod (IntKind.wrap IntKind.i64 (Int.tdiv (n % (1099511627776 : Int)) (4096 : Int))) (1000000 : Int)))]))
    (.br (IntKind.wrap IntKind.i64 ((1 : Int) + Int.tmod (n % (1099511627776 : Int)) (4 : Int)) == (3 : Int))
     (.leaf (.agg [.sym .i64 (IntKind.wrap IntKind.i64 ((1 : Int) + Int.tmod (n % (1099511627776 : Int)) (4 : Int))), .sym .i64 (Int.tmod (IntKind.wrap IntKind.i64 (Int.tdiv (n % (1099511627776 : Int)) (4 : Int))) (IntKind.wrap IntKind.i64 (Knot.At (kx p (IntKind.wrap IntKind.i64 ((↑(List.length p) : Int) - (1 : Int)))) + (1 : Int)))), .sym .i64 (bif true then if IntKind.wrap IntKind.i64 (atLo f (Int.tmod (IntKind.wrap IntKind.i64 (Int.tdiv (n % (1099511627776 : Int)) (4 : Int))) (IntKind.wrap IntKind.i64 (Knot.At (kx p (IntKind.wrap IntKind.i64 ((↑(List.length p) : Int) - (1 : Int)))) + (1 : Int)))) - Int.tmod (IntKind.wrap IntKind.i64 (Int.tdiv (n % (1099511627776 : Int)) (4096 : Int))) (1000000 : Int)) > (0 : Int) then IntKind.wrap IntKind.i64 (atLo f (Int.tmod (IntKind.wrap IntKind.i64 (Int.tdiv (n % (1099511627776 : Int)) (4 : Int))) (IntKind.wrap IntKind.i64 (Knot.At (kx p (IntKind.wrap IntKind.i64 ((↑(List.length p) : Int) - (1 : Int)))) + (1 : Int)))) - Int.tmod (IntKind.wrap IntKind.i64 (Int.tdiv (n % (1099511627776 : Int)) (4096 : Int))) (1000000 : Int)) else (0 : Int) else if IntKind.wrap IntKind.i64 (atLo f (Int.tmod (IntKind.wrap IntKind.i64 (Int.tdiv (n % (1099511627776 : Int)) (4 : Int))) (IntKind.wrap IntKind.i64 (Knot.At (kx p (IntKind.wrap IntKind.i64 ((↑(List.length p) : Int) - (1 : Int)))) + (1 : Int)))) - Int.tmod (IntKind.wrap IntKind.i64 (Int.tdiv (n % (1099511627776 : Int)) (4096 : Int))) (1000000 : Int)) < (0 : Int) then IntKind.wrap IntKind.i64 (atLo f (Int.tmod (IntKind.wrap IntKind.i64 (Int.tdiv (n % (1099511627776 : Int)) (4 : Int))) (IntKind.wrap IntKind.i64 (Knot.At (kx p (IntKind.wrap IntKind.i64 ((↑(List.length p) : Int) - (1 : Int)))) + (1 : Int)))) - Int.tmod (IntKind.wrap IntKind.i64 (Int.tdiv (n % (1099511627776 : Int)) (4096 : Int))) (1000000 : Int)) else (0 : Int))]))
     (.br (IntKind.wrap IntKind.i64 ((1 : Int) + Int.tmod (n % (1099511627776 : Int)) (4 : Int)) == (4 : Int))
      (.leaf (.agg [.sym .i64 (IntKind.wrap IntKind.i64 ((1 : Int) + Int.tmod (n % (1099511627776 : Int)) (4 : Int))), .sym .i64 (Int.tmod (IntKind.wrap IntKind.i64 (Int.tdiv (n % (1099511627776 : Int)) (4 : Int))) (IntKind.wrap IntKind.i64 (Knot.At (kx p (IntKind.wrap IntKind.i64 ((↑(List.length p) : Int) - (1 : Int)))) + (1 : Int)))), .sym .i64 (IntKind.wrap IntKind.i64 (atHi f (Int.tmod (IntKind.wrap IntKind.i64 (Int.tdiv (n % (1099511627776 : Int)) (4 : Int))) (IntKind.wrap IntKind.i64 (Knot.At (kx p (IntKind.wrap IntKind.i64 ((↑(List.length p) : Int) - (1 : Int)))) + (1 : Int)))) + Int.tmod (IntKind.wrap IntKind.i64 (Int.tdiv (n % (1099511627776 : Int)) (4096 : Int))) (1000000 : Int)))]))
      (.leaf (.agg [.sym .i64 (IntKind.wrap IntKind.i64 ((1 : Int) + Int.tmod (n % (1099511627776 : Int)) (4 : Int))), .sym .i64 (Int.tmod (IntKind.wrap IntKind.i64 (Int.tdiv (n % (1099511627776 : Int)) (4 : Int))) (IntKind.wrap IntKind.i64 (Knot.At (kx p (IntKind.wrap IntKind.i64 ((↑(List.length p) : Int) - (1 : Int)))) + (1 : Int)))), .sym .i64 ((0 : Int))]))))))))) := by kernel_rfl
theorem s58 (p f : List Knot) (n : Int) (h : repOk p) : (runX ctRp noLoops 58 [.agg [.sl 78 p false, .sl 78 f false], i64 n] [55]).holds fun v => v = .agg [i64 (rK n), i64 (rZ p n), i64 (rP p f n)] := by
  rw [tv58]
  obtain ⟨⟨h1, h2⟩, h3, h4⟩ := h
  have e1 : IntKind.wrap IntKind.i64 ((p.length : Int) - 1) = (p.length : Int) - 1 := i64_in' (by omega) (by omega)
  refine ⟨⟨by decide, by decide⟩, ?_, ?_, ?_⟩
  · rw [e1]; simp only [Bool.and_eq_true, decide_eq_true_eq]; omega
  · rw [e1]
    have e2 : IntKind.wrap IntKind.i64 ((kx p ((p.length : Int) - 1)).At + 1) = (kx p ((p.length : Int) - 1)).At + 1 := i64_in' (by omega) (by omega)
    exact decide_eq_true (show IntKind.wrap IntKind.i64 ((kx p ((p.length : Int) - 1)).At + 1) ≠ 0 by rw [e2]; omega)
  · unfold rP
    refine wayEq (fun c => ?_) fun c => wayEq (fun c2 => ?_) fun c2 => wayEq (fun c3 => ?_) fun c3 => wayEq (fun c4 => ?_) fun c4 => ?_
    · rw [if_pos (show rK n = 1 from c)]; rfl
    · rw [if_neg (show ¬ rK n = 1 from c), if_pos (show rK n = 2 from c2)]; rfl
    · rw [if_neg (show ¬ rK n = 1 from c), if_neg (show ¬ rK n = 2 from c2), if_pos (show rK n = 3 from c3)]; rfl
    · rw [if_neg (show ¬ rK n = 1 from c), if_neg (show ¬ rK n = 2 from c2), if_neg (show ¬ rK n = 3 from c3), if_pos (show rK n = 4 from c4)]; rfl
    · rw [if_neg (show ¬ rK n = 1 from c), if_neg (show ¬ rK n = 2 from c2), if_neg (show ¬ rK n = 3 from c3), if_neg (show ¬ rK n = 4 from c4)]; rfl
noncomputable def cRep : Con T := conP Try.prog [.agg [.s 78, .s 78], .one (.i .i64)] [.l 78, .l 78, .n] (fun d => repOk d.1) fun d => .agg [i64 (rK d.2.2.1), i64 (rZ d.1 d.2.2.1), i64 (rP d.1 d.2.1 d.2.2.1)]
theorem rep_ok : ConOk Try.prog E 58 cRep := conP_ok fun d hd => fact_run ctRp_ok noLoops_ok (ts := [55]) rfl (s58 d.1 d.2.1 d.2.2.1 hd)
noncomputable def ctKn : CTab T := [(57, cMod), (90, cPk), (56, cTrue), (91, cSft), (58, cRep)]
theorem ctKn_ok : CTabOk Try.prog E ctKn := .cons mod64_ok (.cons pk_ok (.cons true_ok (.cons sft_ok (.cons rep_ok .nil))))
end Go.Proofs.Ytdlholmphenhhaa.W.Gr
end

set_option linter.unusedVariables false
set_option maxRecDepth 100000
set_option maxHeartbeats 4000000
noncomputable section
namespace Go.Proofs.Ytdlholmphenhhaa.W.Gr
open Go Go.Cx Go.RowKit
noncomputable def mr (p f : List Knot) : Nat → List Int → List Report
  | 0, _ => []
  | _ + 1, [] => []
  | n + 1, x :: r => rep p f x :: mr p f n r
noncomputable def oKN (R : List Report) (i : Int) (b : Int) (s : List Int) (o : List Int) (m : List Int) (p : List Knot) (f : List Knot) (B : Int) (L1 : List Knot) (L2 : List Knot) (L3 : List Knot) (L4 : List Knot) (g : Int) (G : Int) : Tree (Ex × List (V T)) := .req ((0 ≤ i ∧ i ≤ 8 ∧ i ≤ m.length) ∧ (R.length : Int) ≤ i ∧ repOk p) (.leaf (.exit 0, [.l 55 (R ++ mr p f (8 - i).toNat (m.drop i.toNat)), .n B, .l 78 L1, .l 78 L2, .l 78 L3, .l 78 L4, .n g, .n G]))
noncomputable def cKN : LoopC T := ⟨[.l 55, .n, .n, .l 2, .l 2, .l 2, .l 78, .l 78, .n, .l 78, .l 78, .l 78, .l 78, .n, .n], ⟨77, [(1, .one (.o 0 0)), (2, .one (.o 1 0)), (3, .one (.o 2 0)), (4, .one (.o 3 0)), (5, .one (.i .i64))], [.c [.i .i64, .s 2, .s 2, .s 2], .c [.x, .x, .x, .x, .x, .x, .x, .x], .c [.s 78, .s 78], .c [.i .i64, .s 78, .s 78, .s 78, .s 78, .i .i64, .i .i64, .g 4 55], .l 55]⟩, fun _ => ⟨77, [(2, .one (.o 0 0)), (4, .one (.o 1 0))], [.c [.x, .x, .x, .x, .x, .x, .x, .x], .c [.i .i64, .s 78, .s 78, .s 78, .s 78, .i .i64, .i .i64, .g 2 55], .l 55]⟩, 60, fun d => oKN d.1 d.2.1 d.2.2.1 d.2.2.2.1 d.2.2.2.2.1 d.2.2.2.2.2.1 d.2.2.2.2.2.2.1 d.2.2.2.2.2.2.2.1 d.2.2.2.2.2.2.2.2.1 d.2.2.2.2.2.2.2.2.2.1 d.2.2.2.2.2.2.2.2.2.2.1 d.2.2.2.2.2.2.2.2.2.2.2.1 d.2.2.2.2.2.2.2.2.2.2.2.2.1 d.2.2.2.2.2.2.2.2.2.2.2.2.2.1 d.2.2.2.2.2.2.2.2.2.2.2.2.2.2.1⟩
theorem bKN (R : List Report) (i : Int) (b : Int) (s : List Int) (o : List Int) (m : List Int) (p : List Knot) (f : List Knot) (B : Int) (L1 : List Knot) (L2 : List Knot) (L3 : List Knot) (L4 : List Knot) (g : Int) (G : Int) : bodyD Try.prog E cKN 0 (bodyX Try.prog E ctKn noLoops 1000 5 L0 (lpOf Try.prog 55 0)) (R, i, b, s, o, m, p, f, B, L1, L2, L3, L4, g, G, ()) =
  (.br (decide (i < (↑(List.length m) : Int)))
   (.br (decide (i < (8 : Int)))
    (.req ((decide ((0 : Int) ≤ i) && decide (i < (↑(List.length m) : Int))) = true)
    (.req (repOk p)
    (.req (List.length R = List.length R)
    (.req (List.length R + List.length [Report.mk (rK (ni m i)) (rZ p (ni m i)) (rP p f (ni m i))] ≤ (1073741824 : Nat))
    (.req (List.length (R ++ [Report.mk (rK (ni m i)) (rZ p (ni m i)) (rP p f (ni m i))]) = List.length (R ++ [Report.mk (rK (ni m i)) (rZ p (ni m i)) (rP p f (ni m i))]))
    (.leaf (.inl (R ++ [Report.mk (rK (ni m i)) (rZ p (ni m i)) (rP p f (ni m i))], (IntKind.wrap IntKind.i64 (i + (1 : Int)), (b, (s, (o, (m, (p, (f, (B, (L1, (L2, (L3, (L4, (g, (G, ()))))))))))))))))))))))
    (.req (List.length R = List.length R)
    (.leaf (.inr (.exit (0 : Nat), [.l (55 : Nat) (R), .n (B), .l (78 : Nat) (L1), .l (78 : Nat) (L2), .l (78 : Nat) (L3), .l (78 : Nat) (L4), .n (g), .n (G)])))))
   (.req (List.length R = List.length R)
   (.leaf (.inr (.exit (0 : Nat), [.l (55 : Nat) (R), .n (B), .l (78 : Nat) (L1), .l (78 : Nat) (L2), .l (78 : Nat) (L3), .l (78 : Nat) (L4), .n (g), .n (G)]))))) := by kernel_rfl
theorem nKN (R : List Report) (i : Int) (b : Int) (s : List Int) (o : List Int) (m : List Int) (p : List Knot) (f : List Knot) (B : Int) (L1 : List Knot) (L2 : List Knot) (L3 : List Knot) (L4 : List Knot) (g : Int) (G : Int) (K : Ex × List (V T) → Prop) (hI : (0 ≤ i ∧ i ≤ 8 ∧ i ≤ m.length) ∧ (R.length : Int) ≤ i ∧ repOk p) (hK : (.leaf (.exit 0, [.l 55 (R ++ mr p f (8 - i).toNat (m.drop i.toNat)), .n B, .l 78 L1, .l 78 L2, .l 78 L3, .l 78 L4, .n g, .n G]) : Tree (Ex × List (V T))).holds K) : (cKN.out (R, i, b, s, o, m, p, f, B, L1, L2, L3, L4, g, G, ())).holds K := ⟨hI, hK⟩
theorem hKN' (R : List Report) (i : Int) (b : Int) (s : List Int) (o : List Int) (m : List Int) (p : List Knot) (f : List Knot) (B : Int) (L1 : List Knot) (L2 : List Knot) (L3 : List Knot) (L4 : List Knot) (g : Int) (G : Int) (K : Ex × List (V T) → Prop) (hI : (0 ≤ i ∧ i ≤ 8 ∧ i ≤ m.length) ∧ (R.length : Int) ≤ i ∧ repOk p) (hK : (.leaf (.exit 0, [.l 55 (R ++ mr p f (8 - i).toNat (m.drop i.toNat)), .n B, .l 78 L1, .l 78 L2, .l 78 L3, .l 78 L4, .n g, .n G]) : Tree (Ex × List (V T))).holds K) :
    (bodyD Try.prog E cKN 0 (bodyX Try.prog E ctKn noLoops 1000 5 L0 (lpOf Try.prog 55 0)) (R, i, b, s, o, m, p, f, B, L1, L2, L3, L4, g, G, ())).holds fun y => match y with
    | .inl d => (8 - d.2.1).toNat < (8 - i).toNat ∧ (cKN.out d).holds K
    | .inr y => K y := by
  rw [bKN]
  obtain ⟨⟨h0, h1, h2⟩, lr, hr⟩ := hI
  have n1 : ∀ x : Report, R.length + [x].length ≤ 1073741824 := fun x => by show R.length + 1 ≤ _; omega
  have ac : ∀ (X Y : List Report) (k : Report), X ++ k :: Y = (X ++ [k]) ++ Y := fun X Y k => by simp
  have fin : ¬ (i < m.length ∧ i < 8) → R ++ mr p f (8 - i).toNat (m.drop i.toNat) = R := fun h => by
    by_cases k : i < 8
    · have k2 : m.drop i.toNat = [] := List.drop_eq_nil_of_le (by omega)
      rw [k2]
      cases (8 - i).toNat <;> exact List.append_nil _
    · rw [show (8 - i).toNat = 0 by omega]
      exact List.append_nil _
  refine way (fun k => way (fun k2 => ?_) fun k2 => ?_) fun k => ?_
  · have e2 : m.drop i.toNat = ni m i :: m.drop (i + 1).toNat := by
      have := drop_ix (E := E) (τ := 2) (l := m) (i := i.toNat) (by show i.toNat < (m : List Int).length; omega)
      rw [Int.toNat_of_nonneg h0] at this
      rw [show (i + 1).toNat = i.toNat + 1 by omega]
      exact this
    have e3 : IntKind.wrap IntKind.i64 (i + 1) = i + 1 := i64_in' (by omega) (by omega)
    rw [e3]
    rw [e2, show (8 - i).toNat = (8 - (i + 1)).toNat + 1 by omega] at hK
    unfold mr at hK
    rw [ac] at hK
    have L1' : ∀ x : Report, ((R ++ [x]).length : Int) ≤ i + 1 := fun x => by rw [List.length_append]; show ((R.length + 1 : Nat) : Int) ≤ _; omega
    have g1 : (8 - (i + 1)).toNat < (8 - i).toNat := by omega
    exact wayC h0 k fun _ _ => ⟨hr, rfl, n1 _, rfl, g1, nKN _ _ _ _ _ _ _ _ _ _ _ _ _ _ _ K ⟨⟨by omega, by omega, by omega⟩, L1' _, hr⟩ hK⟩
  · rw [fin (fun h => k2 h.2)] at hK
    exact ⟨rfl, hK⟩
  · rw [fin (fun h => k h.1)] at hK
    exact ⟨rfl, hK⟩
theorem hKN : LoopH Try.prog E cKN 0 (bodyX Try.prog E ctKn noLoops 1000 5 L0 (lpOf Try.prog 55 0)) :=
  ⟨fun d => (8 - d.2.1).toNat, fun dd K hK => by
    obtain ⟨R, i, b, s, o, m, p, f, B, L1, L2, L3, L4, g, G, ⟨⟩⟩ := dd
    obtain ⟨hI, hK⟩ := hK
    refine Tree.holds_mono (fun y hy => ?_) (hKN' R i b s o m p f B L1 L2 L3 L4 g G K hI hK)
    cases y with
    | inl d' => exact hy
    | inr y => exact hy⟩
theorem llK : LLOk Try.prog E (llOfN Try.prog E 55 0 [(6, cKN)]) := llOfN_ok fun i hi c hc => by
  have hi : i < 1 := hi
  obtain rfl : i = 0 := by omega
  obtain rfl : cKN = c := Option.some.inj hc
  exact LSndN.mk good names mixes ctKn_ok (by decide) hKN
theorem tv55 (b : Int) (s o m : List Int) : runX ctKn (llOfN Try.prog E 55 0 [(6, cKN)]) 55 [.agg [i64 b, .sl 2 s false, .sl 2 o false, .sl 2 m false]] [39] =
  (.req (True)
  (.req ((decide ((0 : Int) ≤ IntKind.wrap IntKind.i64 ((↑(List.length (tPl b s)) : Int) - (1 : Int))) && decide (IntKind.wrap IntKind.i64 ((↑(List.length (tPl b s)) : Int) - (1 : Int)) < (↑(List.length (tPl b s)) : Int))) = true)
  (.req ((0 : Int) ≤ (1 : Int))
  (.req (mPre (pk o (1 : Int)) (2001 : Int))
  (.req ((0 : Int) ≤ (2 : Int))
  (.req (mPre (pk o (2 : Int)) (10001 : Int))
  (.req (List.length (tPl b s) ≤ (100 : Nat) ∧ ((0 : Int) ≤ (0 : Int) ∧ (0 : Int) ≤ (100 : Int)) ∧ kV (tPl b s))
  (.req (List.length (tPl b s) ≤ (100 : Nat) ∧ ((0 : Int) ≤ (3 : Int) ∧ (3 : Int) ≤ (100 : Int)) ∧ kV (tPl b s))
  (.req (List.length (tFl b s) ≤ (100 : Nat) ∧ ((0 : Int) ≤ (5 : Int) ∧ (5 : Int) ≤ (100 : Int)) ∧ kV (tFl b s))
  (.req (List.length (tFl b s) ≤ (100 : Nat) ∧ ((0 : Int) ≤ (7 : Int) ∧ (7 : Int) ≤ (100 : Int)) ∧ kV (tFl b s))
  (.req (((0 : Int) ≤ (0 : Int) ∧ (0 : Int) ≤ (8 : Int) ∧ (0 : Int) ≤ (↑(List.length m) : Int)) ∧ (↑((0 : Nat)) : Int) ≤ (0 : Int) ∧ repOk (tPl b s))
  (.req (List.length ([] ++ mr (tPl b s) (tFl b s) (Int.toNat ((8 : Int) - (0 : Int))) (List.drop (Int.toNat (0 : Int)) m)) = List.length ([] ++ mr (tPl b s) (tFl b s) (Int.toNat ((8 : Int) - (0 : Int))) (List.drop (Int.toNat (0 : Int)) m)))
  (.leaf (.agg [.sym .i64 (Knot.At (kx (tPl b s) (IntKind.wrap IntKind.i64 ((↑(List.length (tPl b s)) : Int) - (1 : Int))))), .sl (78 : Nat) (sft o false (0 : Int) (tPl b s)) false, .sl (78 : Nat) (sft o true (3 : Int) (tPl b s)) false, .sl (78 : Nat) (sft o false (5 : Int) (tFl b s)) false, .sl (78 : Nat) (sft o true (7 : Int) (tFl b s)) false, .sym .i64 (pk o (1 : Int) % (2001 : Int)), .sym .i64 (IntKind.wrap IntKind.i64 ((30000 : Int) + pk o (2 : Int) % (10001 : Int))), .sl (55 : Nat) ([] ++ mr (tPl b s) (tFl b s) (Int.toNat ((8 : Int) - (0 : Int))) (List.drop (Int.toNat (0 : Int)) m)) false])))))))))))))) := by kernel_rfl
noncomputable def tG (c : Int → Int) (s : List Int) (B : Int) : Nat → Int → Int → Int → List Knot
  | 0, _, at', p => [⟨at', p⟩]
  | n + 1, i, at', p => ⟨at', p⟩ :: if at' = B then [] else tG c s B n (i + 1) (at' + stp s B i at') (p + c i * stp s B i at')
theorem tP_eq {s : List Int} {B : Int} : ∀ (n : Nat) (i a p : Int), tP s B n i a p = tG (aa s) s B n i a p
  | 0, _, _, _ => rfl
  | n + 1, i, a, p => by unfold tP tG; rw [tP_eq n]
theorem tF_eq {s : List Int} {B : Int} : ∀ (n : Nat) (i a p : Int), tF s B n i a p = tG (bb s) s B n i a p
  | 0, _, _, _ => rfl
  | n + 1, i, a, p => by unfold tF tG; rw [tF_eq n]
theorem stp_bd {s : List Int} {B i a : Int} (h : 0 ≤ a ∧ a ≤ B) (hB : 1000 ≤ B) : 0 ≤ stp s B i a ∧ a + stp s B i a ≤ B ∧ (i = 4 → a + stp s B i a = B) ∧ (a < B → 1 ≤ stp s B i a) := by
  have m0 := Int.emod_nonneg (pk s (i + 2)) (b := B) (by omega)
  have m1 := Int.emod_lt_of_pos (pk s (i + 2)) (b := B) (by omega)
  unfold stp
  split
  · omega
  · split <;> omega
theorem aa_bd (s : List Int) (i : Int) : 0 ≤ aa s i ∧ aa s i ≤ 22000 := by
  have k3 := pk_bd s (i + 3)
  unfold aa; omega
theorem bb_bd (s : List Int) (i : Int) : aa s i ≤ bb s i ∧ bb s i ≤ 30000 := by
  have k4 := pk_bd s (i + 4)
  have h := aa_bd s i
  have bm := Int.emod_nonneg (pk s (i + 4) / 11) (b := 30001 - aa s i) (by omega)
  have bl := Int.emod_lt_of_pos (pk s (i + 4) / 11) (b := 30001 - aa s i) (by omega)
  unfold bb; omega
theorem kx_last {x : Knot} {y : List Knot} (h : 0 < y.length) : kx (x :: y) (((x :: y).length : Int) - 1) = kx y ((y.length : Int) - 1) := by
  show ((x :: y)[Int.toNat (((x :: y).length : Int) - 1)]?).getD _ = (y[Int.toNat ((y.length : Int) - 1)]?).getD _
  have e1 : Int.toNat (((x :: y).length : Int) - 1) = (y.length - 1) + 1 := by
    have : (x :: y).length = y.length + 1 := rfl
    omega
  have e2 : Int.toNat ((y.length : Int) - 1) = y.length - 1 := by omega
  rw [e1, e2, List.getElem?_cons_succ]
structure TOk (l : List Knot) (n : Nat) (a B M : Int) : Prop where
  l0 : 0 < l.length
  l1 : l.length ≤ n + 1
  la : (kx l ((l.length : Int) - 1)).At = B
  v : ∀ k ∈ l, 0 ≤ k.V ∧ k.V ≤ M
  at' : ∀ k ∈ l, a ≤ k.At ∧ k.At ≤ B
theorem tG_ok {c : Int → Int} {s : List Int} {B b : Int} (hc : ∀ i, 0 ≤ c i ∧ c i ≤ 30000) (hB : 1000 ≤ B ∧ B ≤ 500000) : ∀ (n : Nat) (i a p : Int), i + n = 5 → (i = 5 → a = B) → (0 ≤ a ∧ a ≤ B) → (0 ≤ p ∧ p ≤ 21000000 + 30000 * a) → TOk (tG c s B n i a p) n a B 15021000000
  | 0, i, a, p, h1, h2, h3, h4 => by
    have e := h2 (by omega)
    refine ⟨Nat.zero_lt_one, Nat.le_refl _, e, fun k hk => ?_, fun k hk => ?_⟩
    · obtain rfl : k = ⟨a, p⟩ := List.mem_singleton.1 hk
      show 0 ≤ p ∧ p ≤ 15021000000
      omega
    · obtain rfl : k = ⟨a, p⟩ := List.mem_singleton.1 hk
      show a ≤ a ∧ a ≤ B
      omega
  | n + 1, i, a, p, h1, h2, h3, h4 => by
    unfold tG
    by_cases e : a = B
    · rw [if_pos e]
      refine ⟨Nat.zero_lt_one, by show 1 ≤ _; omega, e, fun k hk => ?_, fun k hk => ?_⟩
      · obtain rfl : k = ⟨a, p⟩ := List.mem_singleton.1 hk
        show 0 ≤ p ∧ p ≤ 15021000000
        omega
      · obtain rfl : k = ⟨a, p⟩ := List.mem_singleton.1 hk
        show a ≤ a ∧ a ≤ B
        omega
    · rw [if_neg e]
      have st := stp_bd (s := s) (B := B) (i := i) h3 hB.1
      have q1 := Int.mul_le_mul_of_nonneg_right (hc i).2 st.1
      have q2 := Int.mul_nonneg (hc i).1 st.1
      have r := tG_ok (s := s) (b := b) hc hB n (i + 1) (a + stp s B i a) (p + c i * stp s B i a) (by omega) (fun h => st.2.2.1 (by omega)) (by omega) (by omega)
      generalize tG c s B n (i + 1) (a + stp s B i a) (p + c i * stp s B i a) = y at r
      refine ⟨Nat.succ_pos _, by have := r.l1; show y.length + 1 ≤ _; omega, ?_, fun k hk => ?_, fun k hk => ?_⟩
      · rw [kx_last r.l0]; exact r.la
      · cases hk with
        | head => show 0 ≤ p ∧ p ≤ 15021000000; omega
        | tail _ h => exact r.v k h
      · cases hk with
        | head => show a ≤ a ∧ a ≤ B; omega
        | tail _ h => have := r.at' k h; omega
theorem tPl_ok (b : Int) (s : List Int) : TOk (tPl b s) 5 0 (tb b) 15021000000 := by
  have h := f0_bd s
  have t := tb_bd b
  unfold tPl
  rw [tP_eq]
  exact tG_ok (b := 0) (fun i => ⟨(aa_bd s i).1, by have := aa_bd s i; omega⟩) t 5 0 0 (p0 s) (by decide) (fun h => absurd h (by decide)) (by omega) (by omega)
theorem tFl_ok (b : Int) (s : List Int) : TOk (tFl b s) 5 0 (tb b) 15021000000 := by
  have h := f0_bd s
  have t := tb_bd b
  unfold tFl
  rw [tF_eq]
  exact tG_ok (b := 0) (fun i => ⟨by have := aa_bd s i; have := bb_bd s i; omega, (bb_bd s i).2⟩) t 5 0 0 (f0 s) (by decide) (fun h => absurd h (by decide)) (by omega) (by omega)
noncomputable def knE (b : Int) (s o m : List Int) : Earth := ⟨tb b, ⟨sft o false 0 (tPl b s)⟩, ⟨sft o true 3 (tPl b s)⟩, ⟨sft o false 5 (tFl b s)⟩, ⟨sft o true 7 (tFl b s)⟩, pk o 1 % 2001, IntKind.wrap IntKind.i64 (30000 + pk o 2 % 10001), mr (tPl b s) (tFl b s) 8 m⟩
theorem TOk.kV {l : List Knot} {n : Nat} {a B : Int} (h : TOk l n a B 15021000000) : kV l := fun k hk => by
  have := h.v k hk
  omega
theorem TOk.len {l : List Knot} {a B : Int} (h : TOk l 5 a B 15021000000) : l.length ≤ 100 := by have := h.l1; omega
theorem TOk.rep {l : List Knot} {a b : Int} (h : TOk l 5 a (tb b) 15021000000) : repOk l := by
  have t := tb_bd b
  exact ⟨⟨h.l0, h.len⟩, by rw [h.la]; omega, by rw [h.la]; omega⟩
theorem s55 (b : Int) (s o m : List Int) : (runX ctKn (llOfN Try.prog E 55 0 [(6, cKN)]) 55 [.agg [i64 b, .sl 2 s false, .sl 2 o false, .sl 2 m false]] [39]).holds fun v => v = (knE b s o m).av := by
  rw [tv55]
  have hp := tPl_ok b s
  have hf := tFl_ok b s
  have e1 : IntKind.wrap IntKind.i64 (((tPl b s).length : Int) - 1) = ((tPl b s).length : Int) - 1 := by
    have := hp.len
    exact i64_in' (by omega) (by omega)
  have l0 := hp.l0
  refine ⟨trivial, ?_, by decide, ⟨by decide, by decide⟩, by decide, ⟨by decide, by decide⟩, ⟨hp.len, by decide, hp.kV⟩, ⟨hp.len, by decide, hp.kV⟩, ⟨hf.len, by decide, hf.kV⟩, ⟨hf.len, by decide, hf.kV⟩, ⟨⟨by decide, by decide, by omega⟩, by decide, hp.rep⟩, rfl, ?_⟩
  · rw [e1]; simp only [Bool.and_eq_true, decide_eq_true_eq]; omega
  · rw [e1, hp.la]; rfl
noncomputable def cKnown : Con T := conV Try.prog [.agg [.i .i64, .s 2, .s 2, .s 2]] [.n, .l 2, .l 2, .l 2] fun d => (knE d.1 d.2.1 d.2.2.1 d.2.2.2.1).av
theorem known_ok : ConOk Try.prog E 55 cKnown := conV_ok fun d => fact_run ctKn_ok llK (ts := [39]) rfl (s55 d.1 d.2.1 d.2.2.1 d.2.2.2.1)
end Go.Proofs.Ytdlholmphenhhaa.W.Gr
end

set_option linter.unusedVariables false
set_option maxRecDepth 100000
set_option maxHeartbeats 4000000
noncomputable section
namespace Go.Proofs.Ytdlholmphenhhaa.W.Gr
open Go Go.Cx Go.RowKit
theorem pc_left {a b : Knot} : pcLo a b a.At = a.V ∧ pcHi a b a.At = a.V := by
  unfold pcLo pcHi
  rw [Int.sub_self, Int.mul_zero, Int.neg_zero, Int.zero_ediv]
  omega
theorem pc_up {a b : Knot} {x z : Int} (h : a.At < b.At) (hd : 0 ≤ b.V - a.V) (hx : x ≤ z) : pcLo a b x ≤ pcLo a b z ∧ pcHi a b x ≤ pcHi a b z := by
  have m := Int.mul_le_mul_of_nonneg_left (show x - a.At ≤ z - a.At by omega) hd
  have e1 := Int.ediv_le_ediv (show 0 < b.At - a.At by omega) m
  have e2 := Int.ediv_le_ediv (show 0 < b.At - a.At by omega) (show -((b.V - a.V) * (z - a.At)) ≤ -((b.V - a.V) * (x - a.At)) by omega)
  unfold pcLo pcHi
  omega
theorem pc_dn {a b : Knot} {x z : Int} (h : a.At < b.At) (hd : b.V - a.V ≤ 0) (hx : x ≤ z) : pcLo a b z ≤ pcLo a b x ∧ pcHi a b z ≤ pcHi a b x := by
  have m := Int.mul_le_mul_of_nonpos_left hd (show x - a.At ≤ z - a.At by omega)
  have e1 := Int.ediv_le_ediv (show 0 < b.At - a.At by omega) m
  have e2 := Int.ediv_le_ediv (show 0 < b.At - a.At by omega) (show -((b.V - a.V) * (x - a.At)) ≤ -((b.V - a.V) * (z - a.At)) by omega)
  unfold pcLo pcHi
  omega
/-- A place that counts in a part. -/
def Plc (l : List Knot) (x y p : Int) : Prop := p = x ∨ p = y ∨ ∃ i : Nat, i < l.length ∧ (kn l i).At = p ∧ x < p ∧ p < y
theorem enc {l : List Knot} {a v : Int} (h : Good l a v) {x z y : Int} (hx : x ≤ z) (hy : z ≤ y) :
    (∃ p, Plc l x y p ∧ valLo l p ≤ valLo l z ∧ valHi l p ≤ valHi l z) ∧ ∃ p, Plc l x y p ∧ valLo l z ≤ valLo l p ∧ valHi l z ≤ valHi l p := by
  have hle := ixAt_le (l := l) (x := z)
  by_cases e0 : ixAt l z = 0
  · have hz : z ≤ (kn l 0).At := by
      have := ixAt_there (l := l) (x := z) (by have := h.pos; omega)
      rw [e0] at this
      exact this
    have v1 := val_first hz
    have v2 := val_first (show x ≤ (kn l 0).At by omega)
    exact ⟨⟨x, .inl rfl, by omega, by omega⟩, ⟨x, .inl rfl, by omega, by omega⟩⟩
  by_cases e1 : ixAt l z = l.length
  · have ey : ixAt l y = l.length := ixAt_eq (Nat.le_refl _) (fun j hj => by
      have := ixAt_before (l := l) (x := z) (i := j) (by omega)
      omega) fun h => by omega
    have hv : valLo l y = valLo l z ∧ valHi l y = valHi l z := by
      unfold valLo valHi
      rw [if_neg e0, if_neg e0, if_pos e1, if_pos e1, if_neg (by omega), if_pos ey, if_neg (by omega), if_pos ey]
      exact ⟨rfl, rfl⟩
    exact ⟨⟨y, .inr (.inl rfl), by omega, by omega⟩, ⟨y, .inr (.inl rfl), by omega, by omega⟩⟩
  obtain ⟨i, hi⟩ : ∃ i, ixAt l z = i + 1 := ⟨ixAt l z - 1, by omega⟩
  have hl : i + 1 < l.length := by omega
  have ez : ((i + 1 : Nat) : Int) - 1 = (i : Int) := by omega
  have vz := val_mid hi (by omega) hl
  rw [ez] at vz
  have haz := ixAt_before (l := l) (x := z) (i := i) (by omega)
  have hzb := ixAt_there (l := l) (x := z) (by omega)
  rw [hi] at hzb
  have hab := h.up i hl
  have ka := val_knot h (i := i) (by omega)
  have kb := val_knot h (i := i + 1) hl
  have mid : ∀ q, (kn l i).At < q → q ≤ (kn l (i + 1 : Nat)).At → valLo l q = pcLo (kn l i) (kn l (i + 1 : Nat)) q ∧ valHi l q = pcHi (kn l i) (kn l (i + 1 : Nat)) q := by
    intro q h1 h2
    have e : ixAt l q = i + 1 := ixAt_eq (by omega) (fun j hj => by
      rcases Nat.lt_or_ge j i with g | g
      · have := h.lt g (by omega)
        omega
      · obtain rfl : j = i := by omega
        exact h1) fun _ => h2
    have := val_mid e (by omega) hl
    rw [ez] at this
    exact this
  have left : ∃ p q, Plc l x y p ∧ valLo l p = pcLo (kn l i) (kn l (i + 1 : Nat)) q ∧ valHi l p = pcHi (kn l i) (kn l (i + 1 : Nat)) q ∧ q ≤ z := by
    by_cases g : (kn l i).At < x
    · have m := mid x g (by omega)
      exact ⟨x, x, .inl rfl, m.1, m.2, hx⟩
    · have pl := pc_left (a := kn l i) (b := kn l (i + 1 : Nat))
      refine ⟨(kn l i).At, (kn l i).At, ?_, by rw [pl.1]; exact ka.1, by rw [pl.2]; exact ka.2, by omega⟩
      by_cases g2 : (kn l i).At = x
      · exact .inl g2
      · exact .inr (.inr ⟨i, by omega, rfl, by omega, by omega⟩)
  have right : ∃ p q, Plc l x y p ∧ valLo l p = pcLo (kn l i) (kn l (i + 1 : Nat)) q ∧ valHi l p = pcHi (kn l i) (kn l (i + 1 : Nat)) q ∧ z ≤ q := by
    by_cases g : y ≤ (kn l (i + 1 : Nat)).At
    · have m := mid y (by omega) g
      exact ⟨y, y, .inr (.inl rfl), m.1, m.2, hy⟩
    · have pr := pc_end hab
      refine ⟨(kn l (i + 1 : Nat)).At, (kn l (i + 1 : Nat)).At, ?_, by rw [pr.1]; exact kb.1, by rw [pr.2]; exact kb.2, hzb⟩
      by_cases g2 : (kn l (i + 1 : Nat)).At = x
      · exact .inl g2
      · exact .inr (.inr ⟨i + 1, hl, rfl, by omega, by omega⟩)
  obtain ⟨p1, q1, a1, a2, a3, a4⟩ := left
  obtain ⟨p2, q2, b1, b2, b3, b4⟩ := right
  rcases Int.le_total 0 ((kn l (i + 1 : Nat)).V - (kn l i).V) with d | d
  · have u1 := pc_up hab d a4
    have u2 := pc_up hab d b4
    exact ⟨⟨p1, a1, by omega, by omega⟩, ⟨p2, b1, by omega, by omega⟩⟩
  · have u1 := pc_dn hab d a4
    have u2 := pc_dn hab d b4
    exact ⟨⟨p2, b1, by omega, by omega⟩, ⟨p1, a1, by omega, by omega⟩⟩
theorem mem_inn {l : List Knot} {x y p : Int} : p ∈ inn l x y ↔ ∃ k ∈ l, (x < k.At ∧ k.At < y) ∧ k.At = p := by
  unfold inn
  simp only [List.mem_map, List.mem_filter, decide_eq_true_eq, and_assoc]
theorem kn_mem {l : List Knot} {i : Nat} (h : i < l.length) : kn l i ∈ l := by
  rw [kn_get h]
  exact List.getElem_mem h
theorem mem_kn' {l : List Knot} {k : Knot} (h : k ∈ l) : ∃ i : Nat, i < l.length ∧ kn l i = k := by
  obtain ⟨i, hi, rfl⟩ := List.getElem_of_mem h
  exact ⟨i, hi, kn_get hi⟩
theorem plc_mem {l : List Knot} {x y p : Int} : Plc l x y p ↔ p ∈ x :: y :: inn l x y := by
  constructor
  · rintro (rfl | rfl | ⟨i, h1, h2, h3, h4⟩)
    · exact List.mem_cons_self ..
    · exact List.mem_cons_of_mem _ (List.mem_cons_self ..)
    · exact List.mem_cons_of_mem _ (List.mem_cons_of_mem _ (mem_inn.2 ⟨kn l i, kn_mem h1, by omega, h2⟩))
  · intro h
    cases h with
    | head => exact .inl rfl
    | tail _ h => cases h with
      | head => exact .inr (.inl rfl)
      | tail _ h =>
        obtain ⟨k, hk, h1, h2⟩ := mem_inn.1 h
        obtain ⟨i, hi, rfl⟩ := mem_kn' hk
        exact .inr (.inr ⟨i, hi, h2, by omega, by omega⟩)
/-- What is taken of pairs that are ordered. -/
theorem fd_mn {lo hi : Int → Int} (c : ∀ x, lo x ≤ hi x ∧ hi x ≤ lo x + 1) : ∀ (L : List Int) (a b : Int), (a ≤ b ∧ b ≤ a + 1) → ((fd mn lo a L = a ∧ fd mn hi b L = b) ∨ ∃ x ∈ L, fd mn lo a L = lo x ∧ fd mn hi b L = hi x) ∧ (fd mn lo a L ≤ a ∧ fd mn hi b L ≤ b) ∧ ∀ x ∈ L, fd mn lo a L ≤ lo x ∧ fd mn hi b L ≤ hi x
  | [], a, b, _ => ⟨.inl ⟨rfl, rfl⟩, ⟨Int.le_refl _, Int.le_refl _⟩, fun x h => by cases h⟩
  | x :: L, a, b, hab => by
    have cx := c x
    have m : (mn a (lo x) = a ∧ mn b (hi x) = b ∧ a ≤ lo x ∧ b ≤ hi x) ∨ (mn a (lo x) = lo x ∧ mn b (hi x) = hi x ∧ lo x ≤ a ∧ hi x ≤ b) := by
      unfold mn
      repeat' split
      all_goals omega
    rw [fd_cons, fd_cons]
    rcases m with ⟨m1, m2, m3, m4⟩ | ⟨m1, m2, m3, m4⟩
    · rw [m1, m2]
      obtain ⟨r1, r2, r3⟩ := fd_mn c L a b hab
      refine ⟨?_, r2, fun y hy => ?_⟩
      · rcases r1 with r | ⟨y, hy, r⟩
        · exact .inl r
        · exact .inr ⟨y, List.mem_cons_of_mem _ hy, r⟩
      · cases hy with
        | head => omega
        | tail _ hy => exact r3 y hy
    · rw [m1, m2]
      obtain ⟨r1, r2, r3⟩ := fd_mn c L (lo x) (hi x) cx
      refine ⟨?_, by omega, fun y hy => ?_⟩
      · rcases r1 with r | ⟨y, hy, r⟩
        · exact .inr ⟨x, List.mem_cons_self .., r⟩
        · exact .inr ⟨y, List.mem_cons_of_mem _ hy, r⟩
      · cases hy with
        | head => exact r2
        | tail _ hy => exact r3 y hy
theorem fd_mx {lo hi : Int → Int} (c : ∀ x, lo x ≤ hi x ∧ hi x ≤ lo x + 1) : ∀ (L : List Int) (a b : Int), (a ≤ b ∧ b ≤ a + 1) → ((fd mx lo a L = a ∧ fd mx hi b L = b) ∨ ∃ x ∈ L, fd mx lo a L = lo x ∧ fd mx hi b L = hi x) ∧ (a ≤ fd mx lo a L ∧ b ≤ fd mx hi b L) ∧ ∀ x ∈ L, lo x ≤ fd mx lo a L ∧ hi x ≤ fd mx hi b L
  | [], a, b, _ => ⟨.inl ⟨rfl, rfl⟩, ⟨Int.le_refl _, Int.le_refl _⟩, fun x h => by cases h⟩
  | x :: L, a, b, hab => by
    have cx := c x
    have m : (mx a (lo x) = a ∧ mx b (hi x) = b ∧ lo x ≤ a ∧ hi x ≤ b) ∨ (mx a (lo x) = lo x ∧ mx b (hi x) = hi x ∧ a ≤ lo x ∧ b ≤ hi x) := by
      unfold mx
      repeat' split
      all_goals omega
    rw [fd_cons, fd_cons]
    rcases m with ⟨m1, m2, m3, m4⟩ | ⟨m1, m2, m3, m4⟩
    · rw [m1, m2]
      obtain ⟨r1, r2, r3⟩ := fd_mx c L a b hab
      refine ⟨?_, r2, fun y hy => ?_⟩
      · rcases r1 with r | ⟨y, hy, r⟩
        · exact .inl r
        · exact .inr ⟨y, List.mem_cons_of_mem _ hy, r⟩
      · cases hy with
        | head => omega
        | tail _ hy => exact r3 y hy
    · rw [m1, m2]
      obtain ⟨r1, r2, r3⟩ := fd_mx c L (lo x) (hi x) cx
      refine ⟨?_, by omega, fun y hy => ?_⟩
      · rcases r1 with r | ⟨y, hy, r⟩
        · exact .inr ⟨x, List.mem_cons_self .., r⟩
        · exact .inr ⟨y, List.mem_cons_of_mem _ hy, r⟩
      · cases hy with
        | head => exact r2
        | tail _ hy => exact r3 y hy
end Go.Proofs.Ytdlholmphenhhaa.W.Gr
end

set_option linter.unusedVariables false
set_option maxRecDepth 100000
set_option maxHeartbeats 4000000
noncomputable section
namespace Go.Proofs.Ytdlholmphenhhaa.W.Gr
open Go Go.Cx Go.RowKit
def asc (l : List Knot) : Prop := l.Pairwise fun x y => x.At < y.At
theorem good_chk {l : List Knot} {a v : Int} (h : Good l a v) : ∀ (n i : Nat), l.length - i = n → chkI a v l i = 0
  | 0, i, hn => by rw [chkI_eq, if_neg (by omega)]
  | n + 1, i, hn => by
    have b := h.bd i (by omega)
    rw [chkI_eq, if_pos (by omega), if_neg (by omega), if_neg, good_chk h n (i + 1) (by omega)]
    rintro ⟨h1, h2⟩
    obtain ⟨j, rfl⟩ : ∃ j, i = j + 1 := ⟨i - 1, by omega⟩
    have u := h.up j (by omega)
    rw [show ((j + 1 : Nat) : Int) - 1 = (j : Int) by omega] at h2
    omega
theorem good_err {l : List Knot} {a v : Int} (h : Good l a v) (ha : 0 ≤ a ∧ a ≤ 1099511627776) (hv : 0 ≤ v ∧ v ≤ 68719476736) : lineErr l a v = 0 := by
  have p := h.pos
  have q := h.len
  unfold lineErr
  rw [if_neg (by omega), if_neg (by omega), if_neg (by omega)]
  exact good_chk h l.length 0 rfl
theorem asc_good {l : List Knot} {a v : Int} (h0 : 0 < l.length) (h1 : l.length ≤ 24) (hb : ∀ k ∈ l, (0 ≤ k.At ∧ k.At ≤ a) ∧ 0 ≤ k.V ∧ k.V ≤ v) (h : asc l) : Good l a v := by
  refine ⟨h0, h1, fun i hi => hb _ (kn_mem hi), fun i hi => ?_⟩
  have := List.pairwise_iff_getElem.1 h i (i + 1) (by omega) hi (by omega)
  rw [kn_get (by omega), kn_get hi]
  exact this
theorem tG_asc {c : Int → Int} {s : List Int} {B : Int} (hc : ∀ i, 0 ≤ c i ∧ c i ≤ 30000) (hB : 1000 ≤ B ∧ B ≤ 500000) : ∀ (n : Nat) (i a p : Int), i + n = 5 → (i = 5 → a = B) → (0 ≤ a ∧ a ≤ B) → (0 ≤ p ∧ p ≤ 21000000 + 30000 * a) → asc (tG c s B n i a p)
  | 0, i, a, p, h1, h2, h3, h4 => List.pairwise_singleton ..
  | n + 1, i, a, p, h1, h2, h3, h4 => by
    unfold tG
    by_cases e : a = B
    · rw [if_pos e]
      exact List.pairwise_singleton ..
    · rw [if_neg e]
      have st := stp_bd (s := s) (B := B) (i := i) h3 hB.1
      have st1 := st.2.2.2 (by omega)
      have q1 := Int.mul_le_mul_of_nonneg_right (hc i).2 st.1
      have q2 := Int.mul_nonneg (hc i).1 st.1
      have r := tG_ok (s := s) (b := 0) hc hB n (i + 1) (a + stp s B i a) (p + c i * stp s B i a) (by omega) (fun h => st.2.2.1 (by omega)) (by omega) (by omega)
      have r2 := tG_asc (s := s) hc hB n (i + 1) (a + stp s B i a) (p + c i * stp s B i a) (by omega) (fun h => st.2.2.1 (by omega)) (by omega) (by omega)
      refine List.pairwise_cons.2 ⟨fun k hk => ?_, r2⟩
      have := r.at' k hk
      show a < k.At
      omega
theorem sft_len {o : List Int} {u : Bool} : ∀ (j : Int) (l : List Knot), (sft o u j l).length = l.length
  | _, [] => rfl
  | j, k :: r => by
    show (sft o u (j + 1) r).length + 1 = r.length + 1
    rw [sft_len]
theorem sft_mem {o : List Int} {u : Bool} : ∀ (j : Int) (l : List Knot) (k : Knot), k ∈ sft o u j l → ∃ k' ∈ l, k.At = k'.At ∧ (0 ≤ k'.V → 0 ≤ k.V ∧ k.V ≤ k'.V + 40000000)
  | _, [], k, h => by cases h
  | j, x :: r, k, h => by
    have h : k ∈ sd o u j x :: sft o u (j + 1) r := h
    cases h with
    | head =>
      refine ⟨x, List.mem_cons_self .., ?_, fun hv => ?_⟩
      · unfold sd; split <;> rfl
      · unfold sd
        split
        · show 0 ≤ x.V + pk o j % 40000000 ∧ x.V + pk o j % 40000000 ≤ _
          omega
        · show 0 ≤ (if x.V - pk o j % 40000000 > 0 then x.V - pk o j % 40000000 else 0) ∧ (if x.V - pk o j % 40000000 > 0 then x.V - pk o j % 40000000 else 0) ≤ _
          split <;> omega
    | tail _ h =>
      obtain ⟨k', h1, h2⟩ := sft_mem (j + 1) r k h
      exact ⟨k', List.mem_cons_of_mem _ h1, h2⟩
theorem sft_asc {o : List Int} {u : Bool} : ∀ (j : Int) (l : List Knot), asc l → asc (sft o u j l)
  | _, [], _ => List.Pairwise.nil
  | j, x :: r, h => by
    obtain ⟨h1, h2⟩ := List.pairwise_cons.1 h
    refine List.pairwise_cons.2 ⟨fun k hk => ?_, sft_asc (j + 1) r h2⟩
    obtain ⟨k', h3, h4, _⟩ := sft_mem (j + 1) r k hk
    have := h1 k' h3
    have e : (sd o u j x).At = x.At := by unfold sd; split <;> rfl
    show (sd o u j x).At < k.At
    omega
theorem sft_good {l : List Knot} {o : List Int} {u : Bool} {j B : Int} (h : TOk l 5 0 B 15021000000) (ha : asc l) (hB : B ≤ 500000) : Good (sft o u j l) 1048576 68719476736 := by
  have l0 := h.l0
  have l1 := h.l1
  refine asc_good (by rw [sft_len]; exact l0) (by rw [sft_len]; omega) (fun k hk => ?_) (sft_asc j l ha)
  obtain ⟨k', h1, h2, h3⟩ := sft_mem j l k hk
  have a := h.at' k' h1
  have b := h.v k' h1
  have c := h3 b.1
  omega
theorem tPl_asc (b : Int) (s : List Int) : asc (tPl b s) := by
  have h := f0_bd s
  have t := tb_bd b
  unfold tPl
  rw [tP_eq]
  exact tG_asc (fun i => ⟨(aa_bd s i).1, by have := aa_bd s i; omega⟩) t 5 0 0 (p0 s) (by decide) (fun h => absurd h (by decide)) (by omega) (by omega)
theorem tFl_asc (b : Int) (s : List Int) : asc (tFl b s) := by
  have h := f0_bd s
  have t := tb_bd b
  unfold tFl
  rw [tF_eq]
  exact tG_asc (fun i => ⟨by have := aa_bd s i; have := bb_bd s i; omega, (bb_bd s i).2⟩) t 5 0 0 (f0 s) (by decide) (fun h => absurd h (by decide)) (by omega) (by omega)
theorem poreLo_good (b : Int) (s o m : List Int) : Good (knE b s o m).PoreLo.Knots 1048576 68719476736 ∧ isR (knE b s o m).PoreLo.Knots := by
  have g : Good (knE b s o m).PoreLo.Knots 1048576 68719476736 := sft_good (tPl_ok b s) (tPl_asc b s) (tb_bd b).2
  exact ⟨g, .inl (good_err g (by decide) (by decide))⟩
end Go.Proofs.Ytdlholmphenhhaa.W.Gr
end

set_option linter.unusedVariables false
set_option maxRecDepth 100000
set_option maxHeartbeats 4000000
noncomputable section
namespace Go.Proofs.Ytdlholmphenhhaa.W.Gr
open Go Go.Cx Go.RowKit
/-- The piece between two knots, times its width. -/
noncomputable def pn (a b : Knot) (x : Int) : Int := a.V * (b.At - a.At) + (b.V - a.V) * (x - a.At)
theorem pn_lo {a b : Knot} {x : Int} (h : a.At < b.At) : pcLo a b x = pn a b x / (b.At - a.At) ∧ pcHi a b x = -(-pn a b x / (b.At - a.At)) := by
  have hw : b.At - a.At ≠ 0 := by omega
  have e1 : pn a b x = (b.V - a.V) * (x - a.At) + a.V * (b.At - a.At) := by unfold pn; omega
  have e2 : -pn a b x = -((b.V - a.V) * (x - a.At)) + -a.V * (b.At - a.At) := by rw [e1, Int.neg_mul]; omega
  constructor
  · rw [e1, Int.add_mul_ediv_right _ _ hw]; unfold pcLo; omega
  · rw [e2, Int.add_mul_ediv_right _ _ hw]; unfold pcHi; omega
theorem fl_cmp {p q w u : Int} (hw : 0 < w) (hu : 0 < u) (h : q * w ≤ p * u) : q / u ≤ p / w := by
  refine Int.le_ediv_of_mul_le hw ?_
  have h1 := Int.ediv_mul_le q (show u ≠ 0 by omega)
  have h2 := Int.mul_le_mul_of_nonneg_right h1 (show 0 ≤ w by omega)
  have h3 : (q / u * w) * u ≤ p * u := by
    rw [show q / u * w * u = q / u * u * w by rw [Int.mul_assoc, Int.mul_comm w u, ← Int.mul_assoc]]
    omega
  exact Int.le_of_mul_le_mul_right h3 hu
theorem ce_cmp {p q w u : Int} (hw : 0 < w) (hu : 0 < u) (h : q * w ≤ p * u) : -(-q / u) ≤ -(-p / w) := by
  have := fl_cmp (p := -q) (q := -p) (w := u) (u := w) hu hw (by rw [Int.neg_mul, Int.neg_mul]; omega)
  omega
/-- What is above at two places is above between them. -/
theorem pn_mid {a b c d : Knot} {u v x : Int} (hx : u ≤ x) (hv : x ≤ v) (h1 : pn c d u * (b.At - a.At) ≤ pn a b u * (d.At - c.At)) (h2 : pn c d v * (b.At - a.At) ≤ pn a b v * (d.At - c.At)) : pn c d x * (b.At - a.At) ≤ pn a b x * (d.At - c.At) := by
  have lin : ∀ s t : Int, (pn a b t * (d.At - c.At) - pn c d t * (b.At - a.At)) - (pn a b s * (d.At - c.At) - pn c d s * (b.At - a.At)) = ((b.V - a.V) * (d.At - c.At) - (d.V - c.V) * (b.At - a.At)) * (t - s) := by
    intro s t
    unfold pn
    grind
  have l1 := lin u x
  have l2 := lin x v
  rcases Int.le_total 0 ((b.V - a.V) * (d.At - c.At) - (d.V - c.V) * (b.At - a.At)) with m | m
  · have := Int.mul_nonneg m (show 0 ≤ x - u by omega)
    omega
  · have := Int.mul_nonneg_of_nonpos_of_nonpos m (show u - x ≤ 0 by omega)
    have e : ((b.V - a.V) * (d.At - c.At) - (d.V - c.V) * (b.At - a.At)) * (v - x) ≤ 0 := Int.mul_nonpos_of_nonpos_of_nonneg m (by omega)
    omega
end Go.Proofs.Ytdlholmphenhhaa.W.Gr
end

set_option linter.unusedVariables false
set_option maxRecDepth 100000
set_option maxHeartbeats 4000000
noncomputable section
namespace Go.Proofs.Ytdlholmphenhhaa.W.Gr
open Go Go.Cx Go.RowKit
/-- The straight piece of a line at a place, with its bounds. -/
structure Piece' (l : List Knot) (x : Int) where
  p : Knot
  q : Knot
  w : p.At < q.At
  lo : Option Int
  hi : Option Int
  lo_ok : ∀ u, lo = some u → u ≤ x ∧ ∃ i : Nat, i < l.length ∧ (kn l i).At = u
  hi_ok : ∀ u, hi = some u → x ≤ u ∧ ∃ i : Nat, i < l.length ∧ (kn l i).At = u
  lo_no : lo = none → q.V = p.V
  hi_no : hi = none → q.V = p.V
  any : lo ≠ none ∨ hi ≠ none
  val : ∀ z, (∀ u, lo = some u → u ≤ z) → (∀ u, hi = some u → z ≤ u) → valLo l z = pcLo p q z ∧ valHi l z = pcHi p q z
theorem pc_const {v a b x : Int} : pcLo ⟨a, v⟩ ⟨b, v⟩ x = v ∧ pcHi ⟨a, v⟩ ⟨b, v⟩ x = v := by
  unfold pcLo pcHi
  have e : (v - v) * (x - a) = 0 := by rw [Int.sub_self, Int.zero_mul]
  show v + (v - v) * (x - a) / (b - a) = v ∧ v + -(-((v - v) * (x - a)) / (b - a)) = v
  rw [e, Int.neg_zero, Int.zero_ediv]
  omega
theorem piece {l : List Knot} {a v : Int} (h : Good l a v) (x : Int) : Nonempty (Piece' l x) := by
  have hle := ixAt_le (l := l) (x := x)
  have pos := h.pos
  by_cases e0 : ixAt l x = 0
  · have hx : x ≤ (kn l 0).At := by
      have := ixAt_there (l := l) (x := x) (by omega)
      rw [e0] at this
      exact this
    refine ⟨⟨⟨0, (kn l 0).V⟩, ⟨1, (kn l 0).V⟩, Int.zero_lt_one, none, some (kn l 0).At, fun u h => (by cases h), fun u h => ?_, fun _ => rfl, fun h => (by cases h), .inr (fun h => (by cases h)), fun z _ hz => ?_⟩⟩
    · cases h
      exact ⟨hx, 0, pos, rfl⟩
    · have := val_first (hz _ rfl)
      have c := pc_const (v := (kn l 0).V) (a := 0) (b := 1) (x := z)
      omega
  by_cases e1 : ixAt l x = l.length
  · have hb := ixAt_before (l := l) (x := x) (i := l.length - 1) (by omega)
    refine ⟨⟨⟨0, (kn l (l.length - 1 : Nat)).V⟩, ⟨1, (kn l (l.length - 1 : Nat)).V⟩, Int.zero_lt_one, some (kn l (l.length - 1 : Nat)).At, none, fun u h => ?_, fun u h => (by cases h), fun h => (by cases h), fun _ => rfl, .inl (fun h => (by cases h)), fun z hz _ => ?_⟩⟩
    · cases h
      exact ⟨by omega, l.length - 1, by omega, rfl⟩
    · have c := pc_const (v := (kn l (l.length - 1 : Nat)).V) (a := 0) (b := 1) (x := z)
      rw [c.1, c.2]
      have hz := hz _ rfl
      by_cases g : (kn l (l.length - 1 : Nat)).At = z
      · have := val_knot h (i := l.length - 1) (by omega)
        rw [g] at this
        exact this
      · have ez : ixAt l z = l.length := ixAt_eq (Nat.le_refl _) (fun j hj => by
          rcases Nat.lt_or_ge j (l.length - 1) with g2 | g2
          · have := h.lt g2 (by omega)
            omega
          · obtain rfl : j = l.length - 1 := by omega
            omega) fun h => by omega
        unfold valLo valHi
        rw [if_neg (by omega), if_pos ez, if_neg (by omega), if_pos ez]
        rw [show ((l.length - 1 : Nat) : Int) = (l.length : Int) - 1 by omega]
        exact ⟨rfl, rfl⟩
  obtain ⟨i, hi⟩ : ∃ i, ixAt l x = i + 1 := ⟨ixAt l x - 1, by omega⟩
  have hl : i + 1 < l.length := by omega
  have ez : ((i + 1 : Nat) : Int) - 1 = (i : Int) := by omega
  have hax := ixAt_before (l := l) (x := x) (i := i) (by omega)
  have hxb := ixAt_there (l := l) (x := x) (by omega)
  rw [hi] at hxb
  have hab := h.up i hl
  refine ⟨⟨kn l i, kn l (i + 1 : Nat), hab, some (kn l i).At, some (kn l (i + 1 : Nat)).At, fun u h => ?_, fun u h => ?_, fun h => (by cases h), fun h => (by cases h), .inl (fun h => (by cases h)), fun z h1 h2 => ?_⟩⟩
  · cases h
    exact ⟨by omega, i, by omega, rfl⟩
  · cases h
    exact ⟨hxb, i + 1, hl, rfl⟩
  · have h1 := h1 _ rfl
    have h2 := h2 _ rfl
    by_cases g : (kn l i).At = z
    · have k := val_knot h (i := i) (by omega)
      have pl := pc_left (a := kn l i) (b := kn l (i + 1 : Nat))
      rw [g] at k pl
      omega
    · have e : ixAt l z = i + 1 := ixAt_eq (by omega) (fun j hj => by
        rcases Nat.lt_or_ge j i with g2 | g2
        · have := h.lt g2 (by omega)
          omega
        · obtain rfl : j = i := by omega
          omega) fun _ => h2
      have := val_mid e (by omega) hl
      rw [ez] at this
      exact this
theorem pn_flat {p q : Knot} {x z : Int} (h : q.V = p.V) : pn p q x = pn p q z := by
  unfold pn
  rw [h, Int.sub_self, Int.zero_mul, Int.zero_mul]
theorem above_at {b c : List Knot} {a v a' v' : Int} (gb : Good b a v) (gc : Good c a' v') (h1 : ab1 b c b = true) (h2 : ab2 b c c = true) (x : Int) : valLo c x ≤ valLo b x ∧ valHi c x ≤ valHi b x := by
  have K : ∀ u, ((∃ i : Nat, i < b.length ∧ (kn b i).At = u) ∨ ∃ i : Nat, i < c.length ∧ (kn c i).At = u) → valHi c u ≤ valLo b u := by
    rintro u (⟨i, hi, rfl⟩ | ⟨i, hi, rfl⟩)
    · have := ab1_iff.1 h1 _ (kn_mem hi)
      have k := val_knot gb hi
      omega
    · have := ab2_iff.1 h2 _ (kn_mem hi)
      have k := val_knot gc hi
      omega
  obtain ⟨B⟩ := piece gb x
  obtain ⟨C⟩ := piece gc x
  have wb : 0 < B.q.At - B.p.At := by have := B.w; omega
  have wc : 0 < C.q.At - C.p.At := by have := C.w; omega
  have pt : ∀ u, valLo b u = pcLo B.p B.q u → valHi c u = pcHi C.p C.q u → valHi c u ≤ valLo b u → pn C.p C.q u * (B.q.At - B.p.At) ≤ pn B.p B.q u * (C.q.At - C.p.At) := by
    intro u e1 e2 h
    rw [e1, e2, (pn_lo B.w).1, (pn_lo C.w).2] at h
    have f1 := Int.ediv_mul_le (pn B.p B.q u) (show B.q.At - B.p.At ≠ 0 by omega)
    have f2 := (up_le (f := pn C.p C.q u) wc).1
    have g1 := Int.mul_le_mul_of_nonneg_right f2 (show 0 ≤ B.q.At - B.p.At by omega)
    have g2 := Int.mul_le_mul_of_nonneg_right (Int.mul_le_mul_of_nonneg_right h (show 0 ≤ C.q.At - C.p.At by omega)) (show 0 ≤ B.q.At - B.p.At by omega)
    have g3 := Int.mul_le_mul_of_nonneg_right f1 (show 0 ≤ C.q.At - C.p.At by omega)
    have g4 : pn B.p B.q u / (B.q.At - B.p.At) * (C.q.At - C.p.At) * (B.q.At - B.p.At) = pn B.p B.q u / (B.q.At - B.p.At) * (B.q.At - B.p.At) * (C.q.At - C.p.At) := by
      rw [Int.mul_assoc, Int.mul_comm (C.q.At - C.p.At), ← Int.mul_assoc]
    omega
  have fin : pn C.p C.q x * (B.q.At - B.p.At) ≤ pn B.p B.q x * (C.q.At - C.p.At) → valLo c x ≤ valLo b x ∧ valHi c x ≤ valHi b x := by
    intro h
    have vb := B.val x (fun u hu => (B.lo_ok u hu).1) (fun u hu => (B.hi_ok u hu).1)
    have vc := C.val x (fun u hu => (C.lo_ok u hu).1) (fun u hu => (C.hi_ok u hu).1)
    rw [vb.1, vb.2, vc.1, vc.2, (pn_lo B.w).1, (pn_lo B.w).2, (pn_lo C.w).1, (pn_lo C.w).2]
    exact ⟨fl_cmp wb wc h, ce_cmp wb wc h⟩
  -- a place to the left where both pieces hold and one has a knot
  have left : (∃ u, u ≤ x ∧ pn C.p C.q u * (B.q.At - B.p.At) ≤ pn B.p B.q u * (C.q.At - C.p.At)) ∨ (B.lo = none ∧ C.lo = none) := by
    have mk : ∀ u, u ≤ x → (∀ w, B.lo = some w → w ≤ u) → (∀ w, C.lo = some w → w ≤ u) → valHi c u ≤ valLo b u → ∃ u, u ≤ x ∧ pn C.p C.q u * (B.q.At - B.p.At) ≤ pn B.p B.q u * (C.q.At - C.p.At) := fun u hu k1 k2 k3 =>
      ⟨u, hu, pt u (B.val u k1 fun w hw => by have := (B.hi_ok w hw).1; omega).1 (C.val u k2 fun w hw => by have := (C.hi_ok w hw).1; omega).2 k3⟩
    cases e1 : B.lo with
    | none => cases e2 : C.lo with
      | none => exact .inr ⟨rfl, rfl⟩
      | some u =>
        have k := C.lo_ok u e2
        exact .inl (mk u k.1 (fun w hw => by rw [e1] at hw; cases hw) (fun w hw => by rw [e2] at hw; cases hw; exact Int.le_refl _) (K u (.inr k.2)))
    | some u => cases e2 : C.lo with
      | none =>
        have k := B.lo_ok u e1
        exact .inl (mk u k.1 (fun w hw => by rw [e1] at hw; cases hw; exact Int.le_refl _) (fun w hw => by rw [e2] at hw; cases hw) (K u (.inl k.2)))
      | some u' =>
        have k := B.lo_ok u e1
        have k' := C.lo_ok u' e2
        rcases Int.le_total u u' with g | g
        · exact .inl (mk u' k'.1 (fun w hw => by rw [e1] at hw; cases hw; exact g) (fun w hw => by rw [e2] at hw; cases hw; exact Int.le_refl _) (K u' (.inr k'.2)))
        · exact .inl (mk u k.1 (fun w hw => by rw [e1] at hw; cases hw; exact Int.le_refl _) (fun w hw => by rw [e2] at hw; cases hw; exact g) (K u (.inl k.2)))
  have right : (∃ u, x ≤ u ∧ pn C.p C.q u * (B.q.At - B.p.At) ≤ pn B.p B.q u * (C.q.At - C.p.At)) ∨ (B.hi = none ∧ C.hi = none) := by
    have mk : ∀ u, x ≤ u → (∀ w, B.hi = some w → u ≤ w) → (∀ w, C.hi = some w → u ≤ w) → valHi c u ≤ valLo b u → ∃ u, x ≤ u ∧ pn C.p C.q u * (B.q.At - B.p.At) ≤ pn B.p B.q u * (C.q.At - C.p.At) := fun u hu k1 k2 k3 =>
      ⟨u, hu, pt u (B.val u (fun w hw => by have := (B.lo_ok w hw).1; omega) k1).1 (C.val u (fun w hw => by have := (C.lo_ok w hw).1; omega) k2).2 k3⟩
    cases e1 : B.hi with
    | none => cases e2 : C.hi with
      | none => exact .inr ⟨rfl, rfl⟩
      | some u =>
        have k := C.hi_ok u e2
        exact .inl (mk u k.1 (fun w hw => by rw [e1] at hw; cases hw) (fun w hw => by rw [e2] at hw; cases hw; exact Int.le_refl _) (K u (.inr k.2)))
    | some u => cases e2 : C.hi with
      | none =>
        have k := B.hi_ok u e1
        exact .inl (mk u k.1 (fun w hw => by rw [e1] at hw; cases hw; exact Int.le_refl _) (fun w hw => by rw [e2] at hw; cases hw) (K u (.inl k.2)))
      | some u' =>
        have k := B.hi_ok u e1
        have k' := C.hi_ok u' e2
        rcases Int.le_total u u' with g | g
        · exact .inl (mk u k.1 (fun w hw => by rw [e1] at hw; cases hw; exact Int.le_refl _) (fun w hw => by rw [e2] at hw; cases hw; exact g) (K u (.inl k.2)))
        · exact .inl (mk u' k'.1 (fun w hw => by rw [e1] at hw; cases hw; exact g) (fun w hw => by rw [e2] at hw; cases hw; exact Int.le_refl _) (K u' (.inr k'.2)))
  apply fin
  rcases left with ⟨u, hu, n1⟩ | ⟨z1, z2⟩
  · rcases right with ⟨w, hw, n2⟩ | ⟨z1, z2⟩
    · exact pn_mid hu hw n1 n2
    · rw [pn_flat (B.hi_no z1) (x := x) (z := u), pn_flat (C.hi_no z2) (x := x) (z := u)]
      exact n1
  · rcases right with ⟨w, hw, n2⟩ | ⟨z3, z4⟩
    · rw [pn_flat (B.lo_no z1) (x := x) (z := w), pn_flat (C.lo_no z2) (x := x) (z := w)]
      exact n2
    · rcases B.any with h | h
      · exact absurd z1 h
      · exact absurd z3 h
end Go.Proofs.Ytdlholmphenhhaa.W.Gr
end

set_option linter.unusedVariables false
set_option maxRecDepth 100000
set_option maxHeartbeats 4000000
noncomputable section
namespace Go.Proofs.Ytdlholmphenhhaa.W.Gr
open Go Go.Cx Go.RowKit
/-- Every step has a whole slope between lo and hi. -/
def Slp (lo hi : Int) : List Knot → Prop
  | [] => True
  | x :: r => (∀ y s, r = y :: s → ∃ c, lo ≤ c ∧ c ≤ hi ∧ y.V = x.V + c * (y.At - x.At)) ∧ Slp lo hi r
theorem kn_cons0 {x : Knot} {r : List Knot} : kn (x :: r) ((0 : Nat) : Int) = x := by rw [kn_get (by simp)]; rfl
theorem kn_succ {x : Knot} {r : List Knot} {i : Nat} (h : i < r.length) : kn (x :: r) ((i + 1 : Nat) : Int) = kn r i := by
  rw [kn_get (by simpa using h), kn_get h, List.getElem_cons_succ]
theorem Slp.at' {lo hi : Int} : ∀ {l : List Knot}, Slp lo hi l → ∀ i : Nat, i + 1 < l.length → ∃ c, lo ≤ c ∧ c ≤ hi ∧ (kn l (i + 1 : Nat)).V = (kn l i).V + c * ((kn l (i + 1 : Nat)).At - (kn l i).At)
  | [], _, i, h => absurd h (Nat.not_lt_zero _)
  | [x], _, i, h => absurd (show i + 1 < 1 from h) (by omega)
  | x :: y :: r, s, 0, h => by
    obtain ⟨c, h1, h2, h3⟩ := s.1 y r rfl
    refine ⟨c, h1, h2, ?_⟩
    rw [kn_succ (x := x) (r := y :: r) (i := 0) (Nat.succ_pos _), kn_cons0, kn_cons0]
    exact h3
  | x :: y :: r, s, i + 1, h => by
    have h' : i + 1 < (y :: r).length := by
      have : (x :: y :: r).length = (y :: r).length + 1 := rfl
      omega
    have := s.2.at' i h'
    rw [kn_succ (x := x) (r := y :: r) (i := i + 1) h', kn_succ (x := x) (r := y :: r) (i := i) (by omega)]
    exact this
structure Sg (l : List Knot) (lo hi z : Int) (i : Nat) (c : Int) : Prop where
  i1 : i + 1 < l.length
  a1 : (kn l i).At ≤ z
  a2 : z ≤ (kn l (i + 1 : Nat)).At
  c1 : lo ≤ c
  c2 : c ≤ hi
  st : (kn l (i + 1 : Nat)).V = (kn l i).V + c * ((kn l (i + 1 : Nat)).At - (kn l i).At)
  vl : valLo l z = (kn l i).V + c * (z - (kn l i).At)
  vh : valHi l z = (kn l i).V + c * (z - (kn l i).At)
theorem seg {l : List Knot} {a v lo hi z : Int} (h : Good l a v) (s : Slp lo hi l) (h2 : 2 ≤ l.length) (h0 : (kn l (0 : Nat)).At ≤ z) (h1 : z ≤ (kn l (l.length - 1 : Nat)).At) : ∃ i c, Sg l lo hi z i c := by
  have hle := ixAt_le (l := l) (x := z)
  by_cases e0 : ixAt l z = 0
  · have hz := ixAt_there (l := l) (x := z) (by omega)
    rw [e0] at hz
    have e : z = (kn l (0 : Nat)).At := by omega
    obtain ⟨c, c1, c2, c3⟩ := s.at' 0 (by omega)
    have vk := val_knot h (i := 0) (by omega)
    have up := h.up 0 (by omega)
    subst e
    refine ⟨0, c, by omega, by omega, by omega, c1, c2, c3, ?_, ?_⟩
    · rw [Int.sub_self, Int.mul_zero]; omega
    · rw [Int.sub_self, Int.mul_zero]; omega
  · by_cases e1 : ixAt l z = l.length
    · have := ixAt_before (l := l) (x := z) (i := l.length - 1) (by omega)
      omega
    · obtain ⟨i, hi⟩ : ∃ i, ixAt l z = i + 1 := ⟨ixAt l z - 1, by omega⟩
      have hl : i + 1 < l.length := by omega
      have ez : ((i + 1 : Nat) : Int) - 1 = (i : Int) := by omega
      have vz := val_mid hi (by omega) hl
      rw [ez] at vz
      have haz := ixAt_before (l := l) (x := z) (i := i) (by omega)
      have hzb := ixAt_there (l := l) (x := z) (by omega)
      rw [hi] at hzb
      have hab := h.up i hl
      obtain ⟨c, c1, c2, c3⟩ := s.at' i hl
      have w0 : (kn l (i + 1 : Nat)).At - (kn l i).At ≠ 0 := by omega
      have e : ((kn l (i + 1 : Nat)).V - (kn l i).V) * (z - (kn l i).At) = (c * (z - (kn l i).At)) * ((kn l (i + 1 : Nat)).At - (kn l i).At) := by rw [c3]; grind
      refine ⟨i, c, hl, by omega, hzb, c1, c2, c3, ?_, ?_⟩
      · rw [vz.1]; unfold pcLo; rw [e, Int.mul_ediv_cancel _ w0]
      · rw [vz.2]; unfold pcHi; rw [e, ← Int.neg_mul, Int.mul_ediv_cancel _ w0, Int.neg_neg]
theorem kns {l : List Knot} {a v lo hi : Int} (h : Good l a v) (s : Slp lo hi l) : ∀ (n i : Nat), i + n < l.length → lo * ((kn l (i + n : Nat)).At - (kn l i).At) ≤ (kn l (i + n : Nat)).V - (kn l i).V ∧ (kn l (i + n : Nat)).V - (kn l i).V ≤ hi * ((kn l (i + n : Nat)).At - (kn l i).At)
  | 0, i, hn => by rw [Nat.add_zero, Int.sub_self, Int.sub_self, Int.mul_zero, Int.mul_zero]; omega
  | n + 1, i, hn => by
    have ih := kns h s n i (by omega)
    obtain ⟨c, c1, c2, c3⟩ := s.at' (i + n) (by omega)
    have up := h.up (i + n) (by omega)
    rw [show i + (n + 1) = i + n + 1 by omega]
    have m1 := Int.mul_le_mul_of_nonneg_right c1 (show 0 ≤ (kn l (i + n + 1 : Nat)).At - (kn l (i + n : Nat)).At by omega)
    have m2 := Int.mul_le_mul_of_nonneg_right c2 (show 0 ≤ (kn l (i + n + 1 : Nat)).At - (kn l (i + n : Nat)).At by omega)
    have d1 : lo * ((kn l (i + n + 1 : Nat)).At - (kn l i).At) = lo * ((kn l (i + n + 1 : Nat)).At - (kn l (i + n : Nat)).At) + lo * ((kn l (i + n : Nat)).At - (kn l i).At) := by grind
    have d2 : hi * ((kn l (i + n + 1 : Nat)).At - (kn l i).At) = hi * ((kn l (i + n + 1 : Nat)).At - (kn l (i + n : Nat)).At) + hi * ((kn l (i + n : Nat)).At - (kn l i).At) := by grind
    omega
/-- Between two places in the range of its knots, a line grows by at least lo and by at most hi a place. -/
theorem grow {l : List Knot} {a v lo hi x z : Int} (h : Good l a v) (s : Slp lo hi l) (h2 : 2 ≤ l.length) (h0 : (kn l (0 : Nat)).At ≤ x) (hx : x ≤ z) (h1 : z ≤ (kn l (l.length - 1 : Nat)).At) :
    (valLo l x = valHi l x ∧ valLo l z = valHi l z) ∧ lo * (z - x) ≤ valLo l z - valLo l x ∧ valLo l z - valLo l x ≤ hi * (z - x) := by
  obtain ⟨i, c, S⟩ := seg h s h2 h0 (by omega)
  obtain ⟨j, d, R⟩ := seg h s h2 (by omega) h1
  have := S.vl
  have := S.vh
  have := R.vl
  have := R.vh
  refine ⟨⟨by omega, by omega⟩, ?_⟩
  rcases Nat.lt_trichotomy i j with q | q | q
  · obtain ⟨n, rfl⟩ : ∃ n, j = i + 1 + n := ⟨j - (i + 1), by omega⟩
    have k := kns h s n (i + 1) (by have := R.i1; omega)
    have p1 := S.a1
    have p2 := S.a2
    have p3 := R.a1
    have m1 := Int.mul_le_mul_of_nonneg_right S.c1 (show 0 ≤ (kn l (i + 1 : Nat)).At - x by omega)
    have m2 := Int.mul_le_mul_of_nonneg_right S.c2 (show 0 ≤ (kn l (i + 1 : Nat)).At - x by omega)
    have m3 := Int.mul_le_mul_of_nonneg_right R.c1 (show 0 ≤ z - (kn l (i + 1 + n : Nat)).At by omega)
    have m4 := Int.mul_le_mul_of_nonneg_right R.c2 (show 0 ≤ z - (kn l (i + 1 + n : Nat)).At by omega)
    have st := S.st
    have d1 : lo * (z - x) = lo * (z - (kn l (i + 1 + n : Nat)).At) + lo * ((kn l (i + 1 + n : Nat)).At - (kn l (i + 1 : Nat)).At) + lo * ((kn l (i + 1 : Nat)).At - x) := by grind
    have d2 : hi * (z - x) = hi * (z - (kn l (i + 1 + n : Nat)).At) + hi * ((kn l (i + 1 + n : Nat)).At - (kn l (i + 1 : Nat)).At) + hi * ((kn l (i + 1 : Nat)).At - x) := by grind
    have d3 : c * ((kn l (i + 1 : Nat)).At - (kn l i).At) = c * ((kn l (i + 1 : Nat)).At - x) + c * (x - (kn l i).At) := by grind
    omega
  · subst q
    have up := h.up i S.i1
    have e : c = d := by
      have := S.st
      have := R.st
      exact Int.eq_of_mul_eq_mul_right (show (kn l (i + 1 : Nat)).At - (kn l i).At ≠ 0 by omega) (by omega)
    subst e
    have m1 := Int.mul_le_mul_of_nonneg_right S.c1 (show 0 ≤ z - x by omega)
    have m2 := Int.mul_le_mul_of_nonneg_right S.c2 (show 0 ≤ z - x by omega)
    have d1 : c * (z - (kn l i).At) = c * (z - x) + c * (x - (kn l i).At) := by grind
    omega
  · have p1 := S.a1
    have p2 := R.a2
    have p3 := h.le (i := j + 1) (j := i) (by omega) (by have := S.i1; omega)
    have e : x = z := by omega
    subst e
    rw [Int.sub_self, Int.mul_zero, Int.mul_zero]
    omega
theorem dn_le {l : List Knot} {a v lo hi glo ghi z : Int} (h : Good l a v) (s : Slp lo hi l) (h2 : 2 ≤ l.length) (g1 : glo ≤ lo) (g2 : hi ≤ ghi) {k : Knot} (k0 : (kn l (0 : Nat)).At ≤ k.At) (k1 : k.At ≤ (kn l (l.length - 1 : Nat)).At) (z0 : (kn l (0 : Nat)).At ≤ z) (z1 : z ≤ (kn l (l.length - 1 : Nat)).At) (hk : k.V ≤ valLo l k.At) : dn glo ghi z k ≤ valLo l z := by
  unfold dn
  split
  · have g := grow h s h2 z0 (show z ≤ k.At by omega) k1
    have m := Int.mul_le_mul_of_nonneg_right g2 (show 0 ≤ k.At - z by omega)
    omega
  · have g := grow h s h2 k0 (show k.At ≤ z by omega) z1
    have m := Int.mul_le_mul_of_nonneg_right g1 (show 0 ≤ z - k.At by omega)
    omega
theorem up_ge {l : List Knot} {a v lo hi glo ghi z : Int} (h : Good l a v) (s : Slp lo hi l) (h2 : 2 ≤ l.length) (g1 : glo ≤ lo) (g2 : hi ≤ ghi) {k : Knot} (k0 : (kn l (0 : Nat)).At ≤ k.At) (k1 : k.At ≤ (kn l (l.length - 1 : Nat)).At) (z0 : (kn l (0 : Nat)).At ≤ z) (z1 : z ≤ (kn l (l.length - 1 : Nat)).At) (hk : valLo l k.At ≤ k.V) : valLo l z ≤ up glo ghi z k := by
  unfold up
  split
  · have g := grow h s h2 z0 (show z ≤ k.At by omega) k1
    have m := Int.mul_le_mul_of_nonneg_right g1 (show 0 ≤ k.At - z by omega)
    omega
  · have g := grow h s h2 k0 (show k.At ≤ z by omega) z1
    have m := Int.mul_le_mul_of_nonneg_right g2 (show 0 ≤ z - k.At by omega)
    omega
theorem mx_le {a b m : Int} (h1 : a ≤ m) (h2 : b ≤ m) : mx a b ≤ m := by unfold mx; split <;> omega
theorem mn_ge {a b m : Int} (h1 : m ≤ a) (h2 : m ≤ b) : m ≤ mn a b := by unfold mn; split <;> omega
theorem fdK_le {f : Knot → Int} {m : Int} : ∀ (l : List Knot) (a : Int), a ≤ m → (∀ k ∈ l, f k ≤ m) → fdK mx f a l ≤ m
  | [], a, h, _ => h
  | k :: l, a, h, hl => fdK_le l _ (mx_le h (hl k (List.mem_cons_self ..))) fun k' hk => hl k' (List.mem_cons_of_mem _ hk)
theorem fdK_ge {f : Knot → Int} {m : Int} : ∀ (l : List Knot) (a : Int), m ≤ a → (∀ k ∈ l, m ≤ f k) → m ≤ fdK mn f a l
  | [], a, h, _ => h
  | k :: l, a, h, hl => fdK_ge l _ (mn_ge h (hl k (List.mem_cons_self ..))) fun k' hk => hl k' (List.mem_cons_of_mem _ hk)
theorem mx_mono {a b c d : Int} (h1 : a ≤ b) (h2 : c ≤ d) : mx a c ≤ mx b d := by
  unfold mx
  repeat' split
  all_goals omega
theorem mn_stp {a b c d G : Int} (h1 : b ≤ a + G) (h2 : d ≤ c + G) : mn b d ≤ mn a c + G := by
  unfold mn
  repeat' split
  all_goals omega
theorem fdK_mono {f g : Knot → Int} : ∀ (l : List Knot) (a b : Int), a ≤ b → (∀ k ∈ l, f k ≤ g k) → fdK mx f a l ≤ fdK mx g b l
  | [], a, b, h, _ => h
  | k :: l, a, b, h, hl => fdK_mono l _ _ (mx_mono h (hl k (List.mem_cons_self ..))) fun k' hk => hl k' (List.mem_cons_of_mem _ hk)
theorem fdK_stp {f g : Knot → Int} {G : Int} : ∀ (l : List Knot) (a b : Int), b ≤ a + G → (∀ k ∈ l, g k ≤ f k + G) → fdK mn g b l ≤ fdK mn f a l + G
  | [], a, b, h, _ => h
  | k :: l, a, b, h, hl => fdK_stp l _ _ (mn_stp h (hl k (List.mem_cons_self ..))) fun k' hk => hl k' (List.mem_cons_of_mem _ hk)
/-- The same places, no greater values. -/
def Le2 : List Knot → List Knot → Prop
  | [], [] => True
  | x :: a, y :: b => (x.At = y.At ∧ x.V ≤ y.V) ∧ Le2 a b
  | _, _ => False
theorem Le2.len : ∀ {a b : List Knot}, Le2 a b → a.length = b.length
  | [], [], _ => rfl
  | x :: a, y :: b, h => congrArg Nat.succ h.2.len
  | [], y :: b, h => h.elim
  | x :: a, [], h => h.elim
theorem Le2.kn : ∀ {a b : List Knot}, Le2 a b → ∀ i : Nat, i < a.length → (kn a i).At = (kn b i).At ∧ (kn a i).V ≤ (kn b i).V
  | [], [], _, i, h => absurd h (Nat.not_lt_zero _)
  | x :: a, y :: b, s, 0, _ => by rw [kn_cons0, kn_cons0]; exact s.1
  | x :: a, y :: b, s, i + 1, h => by
    have h1 : i < a.length := by
      have : (x :: a).length = a.length + 1 := rfl
      omega
    have h2 : i < b.length := by rw [← s.2.len]; exact h1
    rw [kn_succ h1, kn_succ h2]
    exact s.2.kn i h1
  | [], y :: b, h, _, _ => h.elim
  | x :: a, [], h, _, _ => h.elim
theorem Le2.refl : ∀ (a : List Knot), Le2 a a
  | [] => trivial
  | x :: a => ⟨⟨rfl, Int.le_refl _⟩, Le2.refl a⟩
theorem Le2.trans : ∀ {a b c : List Knot}, Le2 a b → Le2 b c → Le2 a c
  | [], [], [], _, _ => trivial
  | x :: a, y :: b, z :: c, h, k => ⟨⟨h.1.1.trans k.1.1, Int.le_trans h.1.2 k.1.2⟩, h.2.trans k.2⟩
  | [], y :: b, _, h, _ => h.elim
  | x :: a, [], _, h, _ => h.elim
  | _, [], z :: c, _, h => h.elim
  | _, y :: b, [], _, h => h.elim
theorem Le2.ab {x y : List Knot} {a v a' v' : Int} (h : Le2 y x) (gx : Good x a v) (gy : Good y a' v') : ab1 x y x = true ∧ ab2 x y y = true := by
  have e := h.len
  refine ⟨ab1_iff.2 fun k hk => ?_, ab2_iff.2 fun k hk => ?_⟩
  · obtain ⟨i, hi, rfl⟩ := mem_kn hk
    have p := h.kn i (by omega)
    have q := val_knot gy (i := i) (by omega)
    rw [← p.1]
    omega
  · obtain ⟨i, hi, rfl⟩ := mem_kn hk
    have p := h.kn i (by omega)
    have q := val_knot gx (i := i) (by omega)
    rw [p.1]
    omega
theorem Le2.above {x y : List Knot} (h : Le2 y x) (gx : Good x 1048576 68719476736) (gy : Good y 1048576 68719476736) : above x y = true := by
  have rx : isR x := .inl (good_err gx (by decide) (by decide))
  have ry : isR y := .inl (good_err gy (by decide) (by decide))
  obtain ⟨h1, h2⟩ := h.ab gx gy
  rw [above_ab rx ry]
  unfold abB
  rw [h1, h2]; rfl
theorem Le2.val {x y : List Knot} {a v a' v' : Int} (h : Le2 y x) (gx : Good x a v) (gy : Good y a' v') (z : Int) : valLo y z ≤ valLo x z ∧ valHi y z ≤ valHi x z := by
  obtain ⟨h1, h2⟩ := h.ab gx gy
  exact above_at gx gy h1 h2 z
end Go.Proofs.Ytdlholmphenhhaa.W.Gr
end

set_option linter.unusedVariables false
set_option maxRecDepth 100000
set_option maxHeartbeats 4000000
noncomputable section
namespace Go.Proofs.Ytdlholmphenhhaa.W.Gr
open Go Go.Cx Go.RowKit
theorem tG_head {c : Int → Int} {s : List Int} {B : Int} : ∀ (n : Nat) (i a p : Int), ∃ r, tG c s B n i a p = ⟨a, p⟩ :: r
  | 0, i, a, p => ⟨[], rfl⟩
  | n + 1, i, a, p => ⟨_, rfl⟩
theorem tG_slp {c : Int → Int} {s : List Int} {B lo hi : Int} (hc : ∀ i, lo ≤ c i ∧ c i ≤ hi) : ∀ (n : Nat) (i a p : Int), Slp lo hi (tG c s B n i a p)
  | 0, i, a, p => ⟨(fun y s h => by cases h), trivial⟩
  | n + 1, i, a, p => by
    unfold tG
    split
    · exact ⟨(fun y s h => by cases h), trivial⟩
    · refine ⟨fun y t h => ?_, tG_slp hc n _ _ _⟩
      obtain ⟨r, e⟩ := tG_head (c := c) (s := s) (B := B) n (i + 1) (a + stp s B i a) (p + c i * stp s B i a)
      rw [e] at h
      obtain ⟨rfl, _⟩ := List.cons.inj h
      exact ⟨c i, (hc i).1, (hc i).2, by show p + c i * stp s B i a = p + c i * (a + stp s B i a - a); rw [show a + stp s B i a - a = stp s B i a by omega]⟩
theorem tG_le2 {c d : Int → Int} {s : List Int} {B : Int} (hc : ∀ i, c i ≤ d i) (hB : 1000 ≤ B) : ∀ (n : Nat) (i a p f : Int), i + n = 5 → (0 ≤ a ∧ a ≤ B) → p ≤ f → Le2 (tG c s B n i a p) (tG d s B n i a f)
  | 0, i, a, p, f, _, _, h => ⟨⟨rfl, h⟩, trivial⟩
  | n + 1, i, a, p, f, h1, h3, h => by
    unfold tG
    refine ⟨⟨rfl, h⟩, ?_⟩
    split
    · trivial
    · have st := stp_bd (s := s) (B := B) (i := i) h3 hB
      have := Int.mul_le_mul_of_nonneg_right (hc i) st.1
      exact tG_le2 hc hB n _ _ _ _ (by omega) (by omega) (by omega)
theorem aa_lo (s : List Int) (i : Int) : 2000 ≤ aa s i := by
  have k3 := pk_bd s (i + 3)
  unfold aa; omega
structure Tr (l : List Knot) (B : Int) : Prop where
  good : Good l 1048576 68719476736
  slp : Slp 2000 30000 l
  two : 2 ≤ l.length
  six : l.length ≤ 6
  f : (kn l (0 : Nat)).At = 0
  t : (kn l (l.length - 1 : Nat)).At = B
  v : ∀ k ∈ l, 0 ≤ k.V ∧ k.V ≤ 15021000000
theorem tok_tr {c : Int → Int} {s : List Int} {B p : Int} (h : TOk (tG c s B 5 0 0 p) 5 0 B 15021000000) (hc : ∀ i, 2000 ≤ c i ∧ c i ≤ 30000) (ha : asc (tG c s B 5 0 0 p)) (hB : 1000 ≤ B ∧ B ≤ 500000) : Tr (tG c s B 5 0 0 p) B := by
  have sl := tG_slp (s := s) (B := B) hc 5 0 0 p
  have g : Good (tG c s B 5 0 0 p) 1048576 68719476736 := asc_good h.l0 (by have := h.l1; omega) (fun k hk => by have := h.at' k hk; have := h.v k hk; omega) ha
  have e : tG c s B 5 0 0 p = ⟨0, p⟩ :: tG c s B 4 (0 + 1) (0 + stp s B 0 0) (p + c 0 * stp s B 0 0) := by
    show (⟨0, p⟩ :: if (0 : Int) = B then [] else tG c s B 4 (0 + 1) (0 + stp s B 0 0) (p + c 0 * stp s B 0 0)) = _
    rw [if_neg (by omega)]
  obtain ⟨r, er⟩ := tG_head (c := c) (s := s) (B := B) 4 (0 + 1) (0 + stp s B 0 0) (p + c 0 * stp s B 0 0)
  have l2 : 2 ≤ (tG c s B 5 0 0 p).length := by
    rw [e, er]
    show 2 ≤ r.length + 1 + 1
    omega
  have f : (kn (tG c s B 5 0 0 p) (0 : Nat)).At = 0 := by rw [e, kn_cons0]
  refine ⟨g, sl, l2, by have := h.l1; omega, f, ?_, h.v⟩
  have la := h.la
  generalize tG c s B 5 0 0 p = l at la l2
  have e2 : (l.length : Int) - 1 = ((l.length - 1 : Nat) : Int) := by omega
  rw [e2] at la
  exact la
theorem tPl_tr (b : Int) (s : List Int) : Tr (tPl b s) (tb b) := by
  have h := tPl_ok b s
  have a := tPl_asc b s
  unfold tPl at h a ⊢
  rw [tP_eq] at h a ⊢
  exact tok_tr h (fun i => ⟨aa_lo s i, by have := aa_bd s i; omega⟩) a (tb_bd b)
theorem tFl_tr (b : Int) (s : List Int) : Tr (tFl b s) (tb b) := by
  have h := tFl_ok b s
  have a := tFl_asc b s
  unfold tFl at h a ⊢
  rw [tF_eq] at h a ⊢
  exact tok_tr h (fun i => ⟨by have := aa_lo s i; have := bb_bd s i; omega, (bb_bd s i).2⟩) a (tb_bd b)
theorem tPF (b : Int) (s : List Int) : Le2 (tPl b s) (tFl b s) := by
  unfold tPl tFl
  rw [tP_eq, tF_eq]
  have h := f0_bd s
  have t := tb_bd b
  exact tG_le2 (fun i => (bb_bd s i).1) t.1 5 0 0 _ _ (by decide) (by omega) h.1
theorem sft_dn {o : List Int} : ∀ (j : Int) (l : List Knot), (∀ k ∈ l, 0 ≤ k.V) → Le2 (sft o false j l) l
  | _, [], _ => trivial
  | j, k :: r, h => by
    refine ⟨⟨rfl, ?_⟩, sft_dn (j + 1) r fun k' hk => h k' (List.mem_cons_of_mem _ hk)⟩
    have := h k (List.mem_cons_self ..)
    show (if k.V - pk o j % 40000000 > 0 then k.V - pk o j % 40000000 else 0) ≤ k.V
    split <;> omega
theorem sft_up {o : List Int} : ∀ (j : Int) (l : List Knot), Le2 l (sft o true j l)
  | _, [] => trivial
  | j, k :: r => by
    refine ⟨⟨rfl, ?_⟩, sft_up (j + 1) r⟩
    show k.V ≤ k.V + pk o j % 40000000
    omega
theorem mem_mr {p f : List Knot} : ∀ (n : Nat) (m : List Int) (x : Report), x ∈ mr p f n m → ∃ y, x = rep p f y
  | 0, _, x, h => by cases h
  | n + 1, [], x, h => by cases h
  | n + 1, y :: m, x, h => by
    have h : x ∈ rep p f y :: mr p f n m := h
    cases h with
    | head => exact ⟨y, rfl⟩
    | tail _ h => exact mem_mr n m x h
theorem mr_len {p f : List Knot} : ∀ (n : Nat) (m : List Int), (mr p f n m).length ≤ n
  | 0, _ => Nat.le_refl _
  | n + 1, [] => Nat.zero_le _
  | n + 1, y :: m => Nat.succ_le_succ (mr_len n m)
theorem Tr.right {l : List Knot} {B : Int} (h : Tr l B) : isR l := .inl (good_err h.good (by decide) (by decide))
theorem Tr.ex {l : List Knot} {B : Int} (h : Tr l B) {z : Int} (h0 : 0 ≤ z) (h1 : z ≤ B) : valLo l z = valHi l z :=
  (grow h.good h.slp h.two (x := z) (z := z) (by rw [h.f]; exact h0) (Int.le_refl _) (by rw [h.t]; exact h1)).1.1
theorem Tr.vmax {l : List Knot} {B : Int} (h : Tr l B) (hB : B ≤ 500000) {z : Int} (h0 : 0 ≤ z) (h1 : z ≤ B) : 0 ≤ valLo l z ∧ valLo l z ≤ 15021000000 := by
  have g2 : Good l 1048576 15021000000 := ⟨h.good.pos, h.good.len, fun i hi => ⟨(h.good.bd i hi).1, h.v _ (kn_mem hi)⟩, h.good.up⟩
  have := val_bd g2 z
  omega
theorem mx0_bd {a m : Int} (h0 : 0 ≤ m) (h : a ≤ m) : 0 ≤ mx0 a ∧ mx0 a ≤ m := by
  show 0 ≤ (if a > 0 then a else 0) ∧ (if a > 0 then a else 0) ≤ m
  split <;> omega
structure Rep (p f : List Knot) (B : Int) (r : Report) : Prop where
  k : 1 ≤ r.Kind ∧ r.Kind ≤ 4
  z : 0 ≤ r.Z ∧ r.Z ≤ B
  v : 0 ≤ r.P ∧ r.P ≤ 68719476736
  k1 : r.Kind = 1 → r.P ≤ valLo p r.Z
  k2 : r.Kind = 2 → valLo p r.Z ≤ r.P
  k3 : r.Kind = 3 → r.P ≤ valLo f r.Z
  k4 : r.Kind = 4 → valLo f r.Z ≤ r.P
theorem rep_true {p f : List Knot} {B : Int} (hp : Tr p B) (hf : Tr f B) (hB : 1000 ≤ B ∧ B ≤ 500000) (n : Int) : Rep p f B (rep p f n) := by
  have kb : 1 ≤ rK n ∧ rK n ≤ 4 := by
    unfold rK
    rw [Int.tmod_eq_emod_of_nonneg (by omega), i64_in' (by omega) (by omega)]
    omega
  have e1 : ((kx p (IntKind.wrap IntKind.i64 ((p.length : Int) - 1))).At) = B := by
    have := hp.two
    have := hp.six
    rw [i64_in' (by omega) (by omega)]
    have e2 : (p.length : Int) - 1 = ((p.length - 1 : Nat) : Int) := by omega
    rw [e2]
    exact hp.t
  have zb : 0 ≤ rZ p n ∧ rZ p n ≤ B := by
    unfold rZ
    rw [e1, i64_in' (n := B + 1) (by omega) (by omega), Int.tdiv_eq_ediv_of_nonneg (by omega), i64_in' (by omega) (by omega), Int.tmod_eq_emod_of_nonneg (by omega)]
    have m0 := Int.emod_nonneg (n % 1099511627776 / 4) (b := B + 1) (by omega)
    have m1 := Int.emod_lt_of_pos (n % 1099511627776 / 4) (b := B + 1) (by omega)
    omega
  have ob : 0 ≤ rO n ∧ rO n < 1000000 := by
    unfold rO
    rw [Int.tdiv_eq_ediv_of_nonneg (by omega), i64_in' (by omega) (by omega), Int.tmod_eq_emod_of_nonneg (by omega)]
    omega
  have vp := hp.vmax hB.2 zb.1 zb.2
  have vf := hf.vmax hB.2 zb.1 zb.2
  have xp := hp.ex zb.1 zb.2
  have xf := hf.ex zb.1 zb.2
  have ap : atLo p (rZ p n) = valLo p (rZ p n) ∧ atHi p (rZ p n) = valHi p (rZ p n) := ⟨if_pos hp.right, if_pos hp.right⟩
  have af : atLo f (rZ p n) = valLo f (rZ p n) ∧ atHi f (rZ p n) = valHi f (rZ p n) := ⟨if_pos hf.right, if_pos hf.right⟩
  have w1 : IntKind.wrap IntKind.i64 (atLo p (rZ p n) - rO n) = valLo p (rZ p n) - rO n := by rw [ap.1]; exact i64_in' (by omega) (by omega)
  have w2 : IntKind.wrap IntKind.i64 (atHi p (rZ p n) + rO n) = valLo p (rZ p n) + rO n := by rw [ap.2, ← xp]; exact i64_in' (by omega) (by omega)
  have w3 : IntKind.wrap IntKind.i64 (atLo f (rZ p n) - rO n) = valLo f (rZ p n) - rO n := by rw [af.1]; exact i64_in' (by omega) (by omega)
  have w4 : IntKind.wrap IntKind.i64 (atHi f (rZ p n) + rO n) = valLo f (rZ p n) + rO n := by rw [af.2, ← xf]; exact i64_in' (by omega) (by omega)
  have m1 := mx0_bd (a := valLo p (rZ p n) - rO n) vp.1 (by omega)
  have m3 := mx0_bd (a := valLo f (rZ p n) - rO n) vf.1 (by omega)
  have P1 : rK n = 1 → rP p f n = mx0 (valLo p (rZ p n) - rO n) := fun h => by unfold rP; rw [if_pos h, w1]
  have P2 : rK n = 2 → rP p f n = valLo p (rZ p n) + rO n := fun h => by unfold rP; rw [if_neg (by omega), if_pos h, w2]
  have P3 : rK n = 3 → rP p f n = mx0 (valLo f (rZ p n) - rO n) := fun h => by unfold rP; rw [if_neg (by omega), if_neg (by omega), if_pos h, w3]
  have P4 : rK n = 4 → rP p f n = valLo f (rZ p n) + rO n := fun h => by unfold rP; rw [if_neg (by omega), if_neg (by omega), if_neg (by omega), if_pos h, w4]
  refine ⟨kb, zb, ?_, fun h => ?_, fun h => ?_, fun h => ?_, fun h => ?_⟩
  · show 0 ≤ rP p f n ∧ rP p f n ≤ 68719476736
    have : rK n = 1 ∨ rK n = 2 ∨ rK n = 3 ∨ rK n = 4 := by omega
    rcases this with h | h | h | h
    · rw [P1 h]; omega
    · rw [P2 h]; omega
    · rw [P3 h]; omega
    · rw [P4 h]; omega
  · show rP p f n ≤ valLo p (rZ p n)
    rw [P1 h]; omega
  · show valLo p (rZ p n) ≤ rP p f n
    rw [P2 h]; omega
  · show rP p f n ≤ valLo f (rZ p n)
    rw [P3 h]; omega
  · show valLo f (rZ p n) ≤ rP p f n
    rw [P4 h]; omega
theorem firstE_all {A : Type} {f : A → Int} : ∀ {l : List A}, (∀ x ∈ l, f x = 0) → firstE f l = 0
  | [], _ => rfl
  | x :: l, h => by
    rw [firstE_cons, if_pos (h x (List.mem_cons_self ..))]
    exact firstE_all fun y hy => h y (List.mem_cons_of_mem _ hy)
/-- A truth and an earth that it fits. -/
structure Tru (e : Earth) (p f : List Knot) : Prop where
  b : 1000 ≤ e.Bottom ∧ e.Bottom ≤ 500000
  g : (0 ≤ e.GLo ∧ e.GLo ≤ 2000) ∧ 30000 ≤ e.GHi ∧ e.GHi ≤ 40000
  tp : Tr p e.Bottom
  tf : Tr f e.Bottom
  pf : Le2 p f
  pl : Le2 e.PoreLo.Knots p
  ph : Le2 p e.PoreHi.Knots
  fl : Le2 e.FracLo.Knots f
  fh : Le2 f e.FracHi.Knots
  g1 : Good e.PoreLo.Knots 1048576 68719476736
  g2 : Good e.PoreHi.Knots 1048576 68719476736
  g3 : Good e.FracLo.Knots 1048576 68719476736
  g4 : Good e.FracHi.Knots 1048576 68719476736
  len : e.Reports.length ≤ 24
  rep : ∀ r ∈ e.Reports, Rep p f e.Bottom r
theorem kn_tru (b : Int) (s o m : List Int) : Tru (knE b s o m) (tPl b s) (tFl b s) := by
  have t := tb_bd b
  have p := tPl_tr b s
  have f := tFl_tr b s
  have pv : ∀ k ∈ tPl b s, 0 ≤ k.V := fun k hk => (p.v k hk).1
  have fv : ∀ k ∈ tFl b s, 0 ≤ k.V := fun k hk => (f.v k hk).1
  have k1 := pk_bd o 1
  have k2 := pk_bd o 2
  refine ⟨t, ⟨?_, ?_⟩, p, f, tPF b s, sft_dn 0 _ pv, sft_up 3 _, sft_dn 5 _ fv, sft_up 7 _, sft_good (tPl_ok b s) (tPl_asc b s) t.2, sft_good (tPl_ok b s) (tPl_asc b s) t.2, sft_good (tFl_ok b s) (tFl_asc b s) t.2, sft_good (tFl_ok b s) (tFl_asc b s) t.2, ?_, fun r hr => ?_⟩
  · show 0 ≤ pk o 1 % 2001 ∧ pk o 1 % 2001 ≤ 2000
    omega
  · show 30000 ≤ IntKind.wrap IntKind.i64 (30000 + pk o 2 % 10001) ∧ IntKind.wrap IntKind.i64 (30000 + pk o 2 % 10001) ≤ 40000
    rw [i64_in' (by omega) (by omega)]
    omega
  · have := mr_len (p := tPl b s) (f := tFl b s) 8 m
    show (mr (tPl b s) (tFl b s) 8 m).length ≤ 24
    omega
  · obtain ⟨y, rfl⟩ := mem_mr 8 m r hr
    exact rep_true p f t y
theorem Tru.err {e : Earth} {p f : List Knot} (h : Tru e p f) : eErr e = 0 := by
  have g := h.g
  have b := h.b
  have ok : okN e := ⟨by omega, by omega, by omega, by omega⟩
  rw [ee_t ok (good_err h.g1 (by decide) (by decide)) (good_err h.g2 (by decide) (by decide)) (good_err h.g3 (by decide) (by decide)) (good_err h.g4 (by decide) (by decide))]
  unfold eTail
  rw [(h.pl.trans h.ph).above h.g2 h.g1, (h.fl.trans h.fh).above h.g4 h.g3, ((h.pl.trans h.pf).trans h.fh).above h.g4 h.g1, if_neg (by decide), if_neg (by decide), if_neg (by decide), if_neg (by have := h.len; omega)]
  refine firstE_all fun r hr => ?_
  have R := h.rep r hr
  have := R.k
  have := R.z
  have := R.v
  unfold rErr
  rw [if_neg (by omega), if_neg (by omega)]
theorem cov_yes {a b : List Knot} {B : Int} (h0 : 0 ≤ B) (h : ∀ z, 0 ≤ z → z ≤ B → valHi b z ≤ valLo a z) : covV a b 0 B = true := by
  have pl : ∀ l : List Knot, ∀ z ∈ (0 : Int) :: B :: plc l 0 B, valHi b z ≤ valLo a z := fun l z hz => by
    cases hz with
    | head => exact h 0 (by omega) h0
    | tail _ hz => cases hz with
      | head => exact h B h0 (by omega)
      | tail _ hz =>
        obtain ⟨k, _, h1, rfl⟩ := mem_plc.1 hz
        exact h _ h1.1 h1.2
  unfold covV cov2
  rw [decide_eq_false (show ¬ (1 : Int) ≤ 0 by decide), decide_eq_false (show ¬ (2 : Int) ≤ 0 by decide), Bool.false_or, Bool.false_or, Bool.and_eq_true, covB_iff, covB_iff]
  exact ⟨pl a, pl b⟩
theorem grw_yes {l : List Knot} {B glo ghi : Int} (h : Tr l B) (hB : B ≤ 500000) (g1 : 0 ≤ glo ∧ glo ≤ 2000) (g2 : 30000 ≤ ghi ∧ ghi ≤ 40000) : grwL glo ghi l = true := by
  have all : ∀ (n i : Nat), 1 ≤ i → l.length - i = n → grX glo ghi l i = true := by
    intro n
    induction n with
    | zero => intro i _ hn; exact grX_end (by omega)
    | succ n ih =>
      intro i hi hn
      obtain ⟨j, rfl⟩ : ∃ j, i = j + 1 := ⟨i - 1, by omega⟩
      rw [grX_cons (by omega), ih (j + 1 + 1) (by omega) (by omega), Bool.and_true]
      obtain ⟨c, c1, c2, c3⟩ := h.slp.at' j (by omega)
      have b1 := h.good.bd j (by omega)
      have b2 := h.good.bd (j + 1) (by omega)
      have up := h.good.up j (by omega)
      rw [show ((j + 1 : Nat) : Int) - 1 = (j : Int) by omega]
      generalize kn l j = x at c3 b1 up
      generalize kn l (j + 1 : Nat) = y at c3 b2 up
      have w0 : 0 ≤ y.At - x.At := by omega
      have m1 := Int.mul_le_mul_of_nonneg_right (show glo ≤ c by omega) w0
      have m2 := Int.mul_le_mul_of_nonneg_right (show c ≤ ghi by omega) w0
      have m3 := mulb (b := y.At - x.At) (m := 40000) (k := 1048576) g1.1 (by omega) w0 (by omega)
      have m4 := mulb (b := y.At - x.At) (m := 40000) (k := 1048576) (by omega) g2.2 w0 (by omega)
      unfold stepG within
      rw [show wI (y.At - x.At) = y.At - x.At from i64_in' (by omega) (by omega), show wI (y.V - x.V) = y.V - x.V from i64_in' (by omega) (by omega), show wI (glo * (y.At - x.At)) = glo * (y.At - x.At) from i64_in' (by omega) (by omega), show wI (ghi * (y.At - x.At)) = ghi * (y.At - x.At) from i64_in' (by omega) (by omega)]
      exact decide_eq_true ⟨by omega, by omega⟩
  exact all (l.length - 1) 1 (Nat.le_refl _) rfl
theorem Tr.last {l : List Knot} {B : Int} (h : Tr l B) : (kn l ((l.length : Int) - 1)).At = B := by
  have := h.two
  rw [show (l.length : Int) - 1 = ((l.length - 1 : Nat) : Int) by omega]
  exact h.t
theorem Tru.fit {e : Earth} {p f : List Knot} (h : Tru e p f) : fitV e p f = true := by
  have hb := h.b
  have lp := good_err h.tp.good (by decide) (by decide)
  have lf := good_err h.tf.good (by decide) (by decide)
  have tr : trE p f e.Bottom = 0 := by
    unfold trE
    rw [if_neg (by rw [lp]; decide), if_neg (by rw [lf]; decide), if_pos ⟨h.tp.f, h.tp.last, h.tf.f, h.tf.last⟩]
  have c1 : covV f p 0 e.Bottom = true := cov_yes (by omega) fun z z0 z1 => by
    have := h.pf.val h.tf.good h.tp.good z
    have := h.tp.ex z0 z1
    omega
  have c2 : covV p e.PoreLo.Knots 0 e.Bottom = true := cov_yes (by omega) fun z z0 z1 => by
    have := h.pl.val h.tp.good h.g1 z
    have := h.tp.ex z0 z1
    omega
  have c3 : covV e.PoreHi.Knots p 0 e.Bottom = true := cov_yes (by omega) fun z z0 z1 => by
    have := h.ph.val h.g2 h.tp.good z
    have := h.tp.ex z0 z1
    omega
  have c4 : covV f e.FracLo.Knots 0 e.Bottom = true := cov_yes (by omega) fun z z0 z1 => by
    have := h.fl.val h.tf.good h.g3 z
    have := h.tf.ex z0 z1
    omega
  have c5 : covV e.FracHi.Knots f 0 e.Bottom = true := cov_yes (by omega) fun z z0 z1 => by
    have := h.fh.val h.g4 h.tf.good z
    have := h.tf.ex z0 z1
    omega
  have rp : e.Reports.all (agB p f) = true := List.all_eq_true.2 fun r hr => by
    have R := h.rep r hr
    have kb := R.k
    have xp := h.tp.ex R.z.1 R.z.2
    have xf := h.tf.ex R.z.1 R.z.2
    unfold agB
    split
    · rename_i q; exact decide_eq_true (R.k1 q)
    · split
      · rename_i q; exact decide_eq_true (by have := R.k2 q; omega)
      · split
        · rename_i q; exact decide_eq_true (R.k3 q)
        · exact decide_eq_true (by have := R.k4 (by omega); omega)
  unfold fitV
  rw [h.err, tr, grw_yes h.tp hb.2 h.g.1 h.g.2, grw_yes h.tf hb.2 h.g.1 h.g.2, c1, c2, c3, c4, c5, rp]
  rfl
/-- The pressures of a truth lie in the ranges. -/
structure Enc (e : Earth) (p f : List Knot) (z : Int) : Prop where
  pl : pLo e z ≤ valLo p z
  ph : valLo p z ≤ pHi e z
  fl : fLo e z ≤ valLo f z
  fh : valLo f z ≤ fHi e z
theorem Tru.enc {e : Earth} {p f : List Knot} (h : Tru e p f) {z : Int} (z0 : 0 ≤ z) (z1 : z ≤ e.Bottom) : Enc e p f z := by
  have g := h.g
  have pp := h.pf.val h.tf.good h.tp.good z
  have kk : ∀ {l t : List Knot}, Le2 l t ∨ Le2 t l → Tr t e.Bottom → ∀ k ∈ ptK e.Bottom l, ∃ i : Nat, i < t.length ∧ i < l.length ∧ kn l i = k ∧ (kn t i).At = k.At ∧ (kn t (0 : Nat)).At ≤ k.At ∧ k.At ≤ (kn t (t.length - 1 : Nat)).At := by
    intro l t hl ht k hk
    obtain ⟨i, hi, rfl⟩ := mem_kn (List.mem_filter.1 hk).1
    have len : l.length = t.length := hl.elim (fun q => q.len) fun q => q.len.symm
    have at' : (kn t i).At = (kn l i).At := hl.elim (fun q => (q.kn i hi).1.symm) fun q => (q.kn i (by omega)).1
    have a1 := ht.good.le (i := 0) (j := i) (by omega) (by omega)
    have a2 := ht.good.le (i := i) (j := t.length - 1) (by omega) (by omega)
    exact ⟨i, by omega, hi, rfl, at', by omega, by omega⟩
  have rr : ∀ {t : List Knot}, Tr t e.Bottom → ∀ (n : Int), ∀ k ∈ ptR n e.Reports, ∃ r ∈ e.Reports, r.Kind = n ∧ k = ⟨r.Z, r.P⟩ ∧ (kn t (0 : Nat)).At ≤ k.At ∧ k.At ≤ (kn t (t.length - 1 : Nat)).At := by
    intro t ht n k hk
    obtain ⟨r, hr, rfl⟩ := List.mem_map.1 hk
    obtain ⟨r1, r2⟩ := List.mem_filter.1 hr
    have R := h.rep r r1
    exact ⟨r, r1, of_decide_eq_true r2, rfl, by rw [ht.f]; exact R.z.1, by rw [ht.t]; exact R.z.2⟩
  have rg : ∀ {t : List Knot}, Tr t e.Bottom → (kn t (0 : Nat)).At ≤ z ∧ z ≤ (kn t (t.length - 1 : Nat)).At := fun ht => by
    rw [ht.f, ht.t]; exact ⟨z0, z1⟩
  have lo : ∀ {l t : List Knot} {n : Int}, Le2 l t → Good l 1048576 68719476736 → Tr t e.Bottom → (∀ r ∈ e.Reports, r.Kind = n → r.P ≤ valLo t r.Z) → fdK mx (dn e.GLo e.GHi z) (valLo l z) (pts e l n) ≤ valLo t z := by
    intro l t n hl gl ht hr
    have q := rg ht
    refine fdK_le _ _ (hl.val ht.good gl z).1 fun k hk => ?_
    rcases List.mem_append.1 hk with hk | hk
    · obtain ⟨i, i1, i2, rfl, a, a1, a2⟩ := kk (.inl hl) ht k hk
      refine dn_le ht.good ht.slp ht.two g.1.2 g.2.1 a1 a2 q.1 q.2 ?_
      have v := val_knot ht.good i1
      have := hl.kn i i2
      rw [← a]
      omega
    · obtain ⟨r, r1, r2, rfl, a1, a2⟩ := rr ht n k hk
      exact dn_le ht.good ht.slp ht.two g.1.2 g.2.1 a1 a2 q.1 q.2 (hr r r1 r2)
  have hi : ∀ {l t : List Knot} {n : Int}, Le2 t l → Good l 1048576 68719476736 → Tr t e.Bottom → (∀ r ∈ e.Reports, r.Kind = n → valLo t r.Z ≤ r.P) → valLo t z ≤ fdK mn (up e.GLo e.GHi z) (valHi l z) (pts e l n) := by
    intro l t n hl gl ht hr
    have q := rg ht
    refine fdK_ge _ _ (by have := hl.val gl ht.good z; have := ht.ex z0 z1; omega) fun k hk => ?_
    rcases List.mem_append.1 hk with hk | hk
    · obtain ⟨i, i1, i2, rfl, a, a1, a2⟩ := kk (.inr hl) ht k hk
      refine up_ge ht.good ht.slp ht.two g.1.2 g.2.1 a1 a2 q.1 q.2 ?_
      have v := val_knot ht.good i1
      have := hl.kn i i1
      rw [← a]
      omega
    · obtain ⟨r, r1, r2, rfl, a1, a2⟩ := rr ht n k hk
      exact up_ge ht.good ht.slp ht.two g.1.2 g.2.1 a1 a2 q.1 q.2 (hr r r1 r2)
  have pl : pLo e z ≤ valLo p z := lo h.pl h.g1 h.tp fun r hr => (h.rep r hr).k1
  have fh : valLo f z ≤ fHi e z := hi h.fh h.g4 h.tf fun r hr => (h.rep r hr).k4
  refine ⟨pl, ?_, ?_, fh⟩
  · exact mn_ge (hi h.ph h.g2 h.tp fun r hr => (h.rep r hr).k2) (by omega)
  · exact mx_le (lo h.fl h.g3 h.tf fun r hr => (h.rep r hr).k3) (by omega)
end Go.Proofs.Ytdlholmphenhhaa.W.Gr
end

set_option linter.unusedVariables false
set_option maxRecDepth 100000
set_option maxHeartbeats 4000000
noncomputable section
namespace Go.Proofs.Ytdlholmphenhhaa.W.Gr
open Go Go.Cx Go.RowKit
noncomputable def ctEn : CTab T := [(57, cMod), (55, cKnown), (56, cTrue), (21, cAt), (39, cPore), (41, cFrac), (43, cWindow), (46, cFit), (17, cAwake)]
theorem ctEn_ok : CTabOk Try.prog E ctEn := .cons mod64_ok (.cons known_ok (.cons true_ok (.cons at_ok (.cons pore_ok (.cons frac_ok (.cons window_ok (.cons fit_ok (.cons awake_ok .nil))))))))
theorem tvEn (b : Int) (s o m : List Int) (z : Int) : runX ctEn noLoops 10 [.agg [i64 b, .sl 2 s false, .sl 2 o false, .sl 2 m false], i64 z] [4] =
  (.req (True)
  (.req (mPre z (IntKind.wrap IntKind.i64 (Earth.Bottom (knE b s o m) + (1 : Int))))
  (.br (!fitV (Earth.mk (Earth.Bottom (knE b s o m)) (Line.mk (Line.Knots (Earth.PoreLo (knE b s o m)))) (Line.mk (Line.Knots (Earth.PoreHi (knE b s o m)))) (Line.mk (Line.Knots (Earth.FracLo (knE b s o m)))) (Line.mk (Line.Knots (Earth.FracHi (knE b s o m)))) (Earth.GLo (knE b s o m)) (Earth.GHi (knE b s o m)) (Earth.Reports (knE b s o m))) (tPl b s) (tFl b s))
   (.leaf (.bool (false)))
   (.br (decide (atLo (tPl b s) (z % IntKind.wrap IntKind.i64 (Earth.Bottom (knE b s o m) + (1 : Int))) < kP pLo (eZ (Earth.Bottom (knE b s o m), Line.Knots (Earth.PoreLo (knE b s o m)), Line.Knots (Earth.PoreHi (knE b s o m)), Line.Knots (Earth.FracLo (knE b s o m)), Line.Knots (Earth.FracHi (knE b s o m)), Earth.GLo (knE b s o m), Earth.GHi (knE b s o m), Earth.Reports (knE b s o m), z % IntKind.wrap IntKind.i64 (Earth.Bottom (knE b s o m) + (1 : Int)), ())) (zZ (Earth.Bottom (knE b s o m), Line.Knots (Earth.PoreLo (knE b s o m)), Line.Knots (Earth.PoreHi (knE b s o m)), Line.Knots (Earth.FracLo (knE b s o m)), Line.Knots (Earth.FracHi (knE b s o m)), Earth.GLo (knE b s o m), Earth.GHi (knE b s o m), Earth.Reports (knE b s o m), z % IntKind.wrap IntKind.i64 (Earth.Bottom (knE b s o m) + (1 : Int)), ()))))
    (.leaf (.bool (false)))
    (.br (decide (atHi (tPl b s) (z % IntKind.wrap IntKind.i64 (Earth.Bottom (knE b s o m) + (1 : Int))) > kP pHi (eZ (Earth.Bottom (knE b s o m), Line.Knots (Earth.PoreLo (knE b s o m)), Line.Knots (Earth.PoreHi (knE b s o m)), Line.Knots (Earth.FracLo (knE b s o m)), Line.Knots (Earth.FracHi (knE b s o m)), Earth.GLo (knE b s o m), Earth.GHi (knE b s o m), Earth.Reports (knE b s o m), z % IntKind.wrap IntKind.i64 (Earth.Bottom (knE b s o m) + (1 : Int)), ())) (zZ (Earth.Bottom (knE b s o m), Line.Knots (Earth.PoreLo (knE b s o m)), Line.Knots (Earth.PoreHi (knE b s o m)), Line.Knots (Earth.FracLo (knE b s o m)), Line.Knots (Earth.FracHi (knE b s o m)), Earth.GLo (knE b s o m), Earth.GHi (knE b s o m), Earth.Reports (knE b s o m), z % IntKind.wrap IntKind.i64 (Earth.Bottom (knE b s o m) + (1 : Int)), ()))))
     (.leaf (.bool (false)))
     (.br (decide (atLo (tFl b s) (z % IntKind.wrap IntKind.i64 (Earth.Bottom (knE b s o m) + (1 : Int))) < kP fLo (eZ (Earth.Bottom (knE b s o m), Line.Knots (Earth.PoreLo (knE b s o m)), Line.Knots (Earth.PoreHi (knE b s o m)), Line.Knots (Earth.FracLo (knE b s o m)), Line.Knots (Earth.FracHi (knE b s o m)), Earth.GLo (knE b s o m), Earth.GHi (knE b s o m), Earth.Reports (knE b s o m), z % IntKind.wrap IntKind.i64 (Earth.Bottom (knE b s o m) + (1 : Int)), ())) (zZ (Earth.Bottom (knE b s o m), Line.Knots (Earth.PoreLo (knE b s o m)), Line.Knots (Earth.PoreHi (knE b s o m)), Line.Knots (Earth.FracLo (knE b s o m)), Line.Knots (Earth.FracHi (knE b s o m)), Earth.GLo (knE b s o m), Earth.GHi (knE b s o m), Earth.Reports (knE b s o m), z % IntKind.wrap IntKind.i64 (Earth.Bottom (knE b s o m) + (1 : Int)), ()))))
      (.leaf (.bool (false)))
      (.br (decide (atHi (tFl b s) (z % IntKind.wrap IntKind.i64 (Earth.Bottom (knE b s o m) + (1 : Int))) > kP fHi (eZ (Earth.Bottom (knE b s o m), Line.Knots (Earth.PoreLo (knE b s o m)), Line.Knots (Earth.PoreHi (knE b s o m)), Line.Knots (Earth.FracLo (knE b s o m)), Line.Knots (Earth.FracHi (knE b s o m)), Earth.GLo (knE b s o m), Earth.GHi (knE b s o m), Earth.Reports (knE b s o m), z % IntKind.wrap IntKind.i64 (Earth.Bottom (knE b s o m) + (1 : Int)), ())) (zZ (Earth.Bottom (knE b s o m), Line.Knots (Earth.PoreLo (knE b s o m)), Line.Knots (Earth.PoreHi (knE b s o m)), Line.Knots (Earth.FracLo (knE b s o m)), Line.Knots (Earth.FracHi (knE b s o m)), Earth.GLo (knE b s o m), Earth.GHi (knE b s o m), Earth.Reports (knE b s o m), z % IntKind.wrap IntKind.i64 (Earth.Bottom (knE b s o m) + (1 : Int)), ()))))
       (.leaf (.bool (false)))
       (.br (decide (kP pHi (eZ (Earth.Bottom (knE b s o m), Line.Knots (Earth.PoreLo (knE b s o m)), Line.Knots (Earth.PoreHi (knE b s o m)), Line.Knots (Earth.FracLo (knE b s o m)), Line.Knots (Earth.FracHi (knE b s o m)), Earth.GLo (knE b s o m), Earth.GHi (knE b s o m), Earth.Reports (knE b s o m), z % IntKind.wrap IntKind.i64 (Earth.Bottom (knE b s o m) + (1 : Int)), ())) (zZ (Earth.Bottom (knE b s o m), Line.Knots (Earth.PoreLo (knE b s o m)), Line.Knots (Earth.PoreHi (knE b s o m)), Line.Knots (Earth.FracLo (knE b s o m)), Line.Knots (Earth.FracHi (knE b s o m)), Earth.GLo (knE b s o m), Earth.GHi (knE b s o m), Earth.Reports (knE b s o m), z % IntKind.wrap IntKind.i64 (Earth.Bottom (knE b s o m) + (1 : Int)), ())) > kP fLo (eZ (Earth.Bottom (knE b s o m), Line.Knots (Earth.PoreLo (knE b s o m)), Line.Knots (Earth.PoreHi (knE b s o m)), Line.Knots (Earth.FracLo (knE b s o m)), Line.Knots (Earth.FracHi (knE b s o m)), Earth.GLo (knE b s o m), Earth.GHi (knE b s o m), Earth.Reports (knE b s o m), z % IntKind.wrap IntKind.i64 (Earth.Bottom (knE b s o m) + (1 : Int)), ())) (zZ (Earth.Bottom (knE b s o m), Line.Knots (Earth.PoreLo (knE b s o m)), Line.Knots (Earth.PoreHi (knE b s o m)), Line.Knots (Earth.FracLo (knE b s o m)), Line.Knots (Earth.FracHi (knE b s o m)), Earth.GLo (knE b s o m), Earth.GHi (knE b s o m), Earth.Reports (knE b s o m), z % IntKind.wrap IntKind.i64 (Earth.Bottom (knE b s o m) + (1 : Int)), ()))))
        (.leaf (.bool (true)))
        (.br (decide (kP pHi (eZ (Earth.Bottom (knE b s o m), Line.Knots (Earth.PoreLo (knE b s o m)), Line.Knots (Earth.PoreHi (knE b s o m)), Line.Knots (Earth.FracLo (knE b s o m)), Line.Knots (Earth.FracHi (knE b s o m)), Earth.GLo (knE b s o m), Earth.GHi (knE b s o m), Earth.Reports (knE b s o m), z % IntKind.wrap IntKind.i64 (Earth.Bottom (knE b s o m) + (1 : Int)), ())) (zZ (Earth.Bottom (knE b s o m), Line.Knots (Earth.PoreLo (knE b s o m)), Line.Knots (Earth.PoreHi (knE b s o m)), Line.Knots (Earth.FracLo (knE b s o m)), Line.Knots (Earth.FracHi (knE b s o m)), Earth.GLo (knE b s o m), Earth.GHi (knE b s o m), Earth.Reports (knE b s o m), z % IntKind.wrap IntKind.i64 (Earth.Bottom (knE b s o m) + (1 : Int)), ())) ≥ atHi (tPl b s) (z % IntKind.wrap IntKind.i64 (Earth.Bottom (knE b s o m) + (1 : Int)))))
         (.br (decide (kP fLo (eZ (Earth.Bottom (knE b s o m), Line.Knots (Earth.PoreLo (knE b s o m)), Line.Knots (Earth.PoreHi (knE b s o m)), Line.Knots (Earth.FracLo (knE b s o m)), Line.Knots (Earth.FracHi (knE b s o m)), Earth.GLo (knE b s o m), Earth.GHi (knE b s o m), Earth.Reports (knE b s o m), z % IntKind.wrap IntKind.i64 (Earth.Bottom (knE b s o m) + (1 : Int)), ())) (zZ (Earth.Bottom (knE b s o m), Line.Knots (Earth.PoreLo (knE b s o m)), Line.Knots (Earth.PoreHi (knE b s o m)), Line.Knots (Earth.FracLo (knE b s o m)), Line.Knots (Earth.FracHi (knE b s o m)), Earth.GLo (knE b s o m), Earth.GHi (knE b s o m), Earth.Reports (knE b s o m), z % IntKind.wrap IntKind.i64 (Earth.Bottom (knE b s o m) + (1 : Int)), ())) ≤ atLo (tFl b s) (z % IntKind.wrap IntKind.i64 (Earth.Bottom (knE b s o m) + (1 : Int)))))
          (.leaf (.bool (true)))
          (.leaf (.bool (false))))
         (.leaf (.bool (false)))))))))))) := by kernel_rfl
theorem nt_y {a : Bool} {t f : Tree (AV T)} {Q : AV T → Prop} (h : a = true) (k : f.holds Q) : (Tree.br (!a) t f).holds Q := ⟨fun c => (by rw [h] at c; cases c), fun _ => k⟩
theorem at_v {L : List Knot} (r : isR L) (p : Int) : atLo L p = valLo L p ∧ atHi L p = valHi L p := ⟨if_pos r, if_pos r⟩
theorem bot_z {e : Earth} {p f : List Knot} (h : Tru e p f) (z : Int) : mPre z (IntKind.wrap IntKind.i64 (e.Bottom + 1)) ∧ inZ e (z % IntKind.wrap IntKind.i64 (e.Bottom + 1)) := by
  have b := h.b
  rw [i64_in' (n := e.Bottom + 1) (by omega) (by omega)]
  have m0 := Int.emod_nonneg z (b := e.Bottom + 1) (by omega)
  have m1 := Int.emod_lt_of_pos z (b := e.Bottom + 1) (by omega)
  exact ⟨⟨by omega, by omega⟩, h.err, by omega, by omega⟩
theorem earthEncloses_proved : Rows.EarthEnclosesSaid := earthEncloses_said fun w z _ _ => fact_run ctEn_ok noLoops_ok (ts := [4]) rfl (by
  show (runX ctEn noLoops 10 [.agg [i64 w.Bottom, .sl 2 w.Steps false, .sl 2 w.Off false, .sl 2 w.Marks false], i64 z] [4]).holds _
  rw [tvEn]
  have h := kn_tru w.Bottom w.Steps w.Off w.Marks
  obtain ⟨mz, iz⟩ := bot_z h z
  have q := h.enc iz.2.1 iz.2.2
  have ap := at_v h.tp.right (z % IntKind.wrap IntKind.i64 ((knE w.Bottom w.Steps w.Off w.Marks).Bottom + 1))
  have af := at_v h.tf.right (z % IntKind.wrap IntKind.i64 ((knE w.Bottom w.Steps w.Off w.Marks).Bottom + 1))
  have xp := h.tp.ex iz.2.1 iz.2.2
  have xf := h.tf.ex iz.2.1 iz.2.2
  have e1 := kP_in (f := pLo) iz
  have e2 := kP_in (f := pHi) iz
  have e3 := kP_in (f := fLo) iz
  have e4 := kP_in (f := fHi) iz
  have q1 := q.pl
  have q2 := q.ph
  have q3 := q.fl
  have q4 := q.fh
  have fit := h.fit
  refine ⟨trivial, mz, nt_y fit (way (fun c => absurd (show _ < kP pLo _ _ from c) ?_) fun _ => way (fun c => absurd (show _ > kP pHi _ _ from c) ?_) fun _ => way (fun c => absurd (show _ < kP fLo _ _ from c) ?_) fun _ => way (fun c => absurd (show _ > kP fHi _ _ from c) ?_) fun _ => way (fun _ => rfl) fun _ => way (fun _ => way (fun _ => rfl) fun c => absurd ?_ c) fun c => absurd ?_ c)⟩
  · rw [show kP pLo _ _ = _ from e1]; omega
  · rw [show kP pHi _ _ = _ from e2]; omega
  · rw [show kP fLo _ _ = _ from e3]; omega
  · rw [show kP fHi _ _ = _ from e4]; omega
  · show kP fLo _ _ ≤ _
    rw [show kP fLo _ _ = _ from e3]; omega
  · show kP pHi _ _ ≥ _
    rw [show kP pHi _ _ = _ from e2]; omega)
end Go.Proofs.Ytdlholmphenhhaa.W.Gr
end

set_option linter.unusedVariables false
set_option maxRecDepth 100000
set_option maxHeartbeats 4000000
noncomputable section
namespace Go.Proofs.Ytdlholmphenhhaa.W.Gr
open Go Go.Cx Go.RowKit
noncomputable def runW (ct : CTab T) (ll : Nat → Nat → LoopTab T) (fl : List Nat) (f : Nat) (xs : List (AV T)) (ts : List Nat) : Tree (AV T × List (V T)) := resW Try.prog fl ts (callX Try.prog E ct ll 1000 8 (.fn f) xs hp0)
theorem factW_run {ct : CTab T} (hc : CTabOk Try.prog E ct) {ll : Nat → Nat → LoopTab T} (hl : LLOk Try.prog E ll) {fl : List Nat} (hfl : ∀ τ, memN τ fl = true → ∀ x : T τ, (E.enc τ x).all ind0 = true) {f : Nat} {xs : List (AV T)} {ts : List Nat} {v : AV T} {es : List (V T)} (ha : xs.all flt2 = true)
    (h : (runW ct ll fl f xs ts).holds fun x => x = (v, es)) : FactW Try.prog E f xs v es :=
  factW_of_run good hfl (callX_ok good names mixes hc hl 8) ha h
theorem tvOL (l : List Knot) : runW [] noLoops [78, 55] 20 [.agg [.sl 78 l false]] [24] =
  (.req ((0 : Nat) + List.length l ≤ (1073741824 : Nat))
  (.leaf ((.agg [.ls 0 (78 : Nat) (List.length ([] ++ l))], [.l (78 : Nat) ([] ++ l)])))) := by kernel_rfl
theorem sOL (l : List Knot) (h : l.length ≤ 1000) : (runW [] noLoops [78, 55] 20 [.agg [.sl 78 l false]] [24]).holds fun x => x = (.agg [.ls 0 78 l.length], [.l 78 l]) := by
  rw [tvOL]
  have h2 : 0 + l.length ≤ 1073741824 := by omega
  exact ⟨h2, rfl⟩
noncomputable def cOL : Con T := conPW Try.prog E [.agg [.s 78]] [.l 78] (fun d => (show List Knot from d.1).length ≤ 1000) (fun d => .agg [.ls 0 78 d.1.length]) fun d => [.l 78 d.1]
theorem ol_ok : ConOk Try.prog E 20 cOL := conPW_ok fun d hd => factW_run .nil noLoops_ok flK rfl (sOL d.1 hd)
noncomputable def ctGw : CTab T := [(57, cMod), (55, cKnown), (56, cTrue), (20, cOL), (39, cPore), (41, cFrac), (31, cCheck), (17, cAwake)]
theorem ctGw_ok : CTabOk Try.prog E ctGw := .cons mod64_ok (.cons known_ok (.cons true_ok (.cons ol_ok (.cons pore_ok (.cons frac_ok (.cons check_ok (.cons awake_ok .nil)))))))
--LOOP
noncomputable def aV (x : Int) : Nat → List Knot → Nat → List Knot
  | 0, l, _ => l
  | n + 1, l, i => aV x n (l.set i ⟨(kx l i).At, IntKind.wrap IntKind.i64 ((kx l i).V + x)⟩) (i + 1)
theorem aV_len {x : Int} : ∀ (n : Nat) (l : List Knot) (i : Nat), (aV x n l i).length = l.length
  | 0, _, _ => rfl
  | n + 1, l, i => by
    show (aV x n (l.set i _) (i + 1)).length = _
    rw [aV_len n, List.length_set]
noncomputable def oGW (A : List Knot) (H : List Knot) (C : List Knot) (D : List Knot) (x : Int) (z : Int) (i : Int) (p : List Knot) (f : List Knot) (b : Int) (g : Int) (G : Int) (rs : List Report) : Tree (Ex × List (V T)) := .req ((0 ≤ i ∧ i ≤ p.length) ∧ H.length = p.length ∧ D.length = p.length ∧ p.length ≤ 1000) (.leaf (.exit 0, [.l 78 A, .l 78 (aV x (p.length - i.toNat) H i.toNat), .l 78 C, .l 78 (aV x (p.length - i.toNat) D i.toNat), .n z, .n b, .n g, .n G, .l 55 rs]))
noncomputable def cGW : LoopC T := ⟨[.l 78, .l 78, .l 78, .l 78, .n, .n, .n, .l 78, .l 78, .n, .n, .n, .l 55], ⟨132, [(1, .one (.i .i64)), (2, .one (.i .i64)), (7, .one (.o 0 0)), (8, .one (.o 1 0)), (9, .one (.i .i64))], [.c [.s 78, .s 78], .c [.i .i64, .g 2 78, .g 3 78, .g 4 78, .g 5 78, .i .i64, .i .i64, .s 55], .l 78, .l 78, .l 78, .l 78]⟩, fun _ => ⟨132, [(2, .one (.i .i64)), (8, .one (.o 0 0))], [.c [.i .i64, .g 1 78, .g 2 78, .g 3 78, .g 4 78, .i .i64, .i .i64, .s 55], .l 78, .l 78, .l 78, .l 78]⟩, 60, fun d => oGW d.1 d.2.1 d.2.2.1 d.2.2.2.1 d.2.2.2.2.1 d.2.2.2.2.2.1 d.2.2.2.2.2.2.1 d.2.2.2.2.2.2.2.1 d.2.2.2.2.2.2.2.2.1 d.2.2.2.2.2.2.2.2.2.1 d.2.2.2.2.2.2.2.2.2.2.1 d.2.2.2.2.2.2.2.2.2.2.2.1 d.2.2.2.2.2.2.2.2.2.2.2.2.1⟩
theorem bGW (A : List Knot) (H : List Knot) (C : List Knot) (D : List Knot) (x : Int) (z : Int) (i : Int) (p : List Knot) (f : List Knot) (b : Int) (g : Int) (G : Int) (rs : List Report) : bodyD Try.prog E cGW 0 (bodyX Try.prog E ctGw noLoops 1000 5 L0 (lpOf Try.prog 15 0)) (A, H, C, D, x, z, i, p, f, b, g, G, rs, ()) =
  (.br (decide (i < (↑(List.length p) : Int)))
   (.req ((decide ((0 : Int) ≤ i) && decide (i < (↑(List.length H) : Int))) = true)
   (.req ((decide ((0 : Int) ≤ i) && decide (i < (↑(List.length H) : Int))) = true)
   (.req ((decide ((0 : Int) ≤ i) && decide (i < (↑(List.length H) : Int))) = true)
   (.req ((decide ((0 : Int) ≤ i) && decide (i < (↑(List.length H) : Int))) = true)
   (.req ((decide ((0 : Int) ≤ i) && decide (i < (↑(List.length D) : Int))) = true)
   (.req ((decide ((0 : Int) ≤ i) && decide (i < (↑(List.length D) : Int))) = true)
   (.req ((decide ((0 : Int) ≤ i) && decide (i < (↑(List.length D) : Int))) = true)
   (.req ((decide ((0 : Int) ≤ i) && decide (i < (↑(List.length D) : Int))) = true)
   (.req (List.length A = List.length A)
   (.req (List.length H = List.length (List.set H (Int.toNat i) (Knot.mk (Knot.At (kx H i)) (IntKind.wrap IntKind.i64 (Knot.V (kx H i) + x)))))
   (.req (List.length C = List.length C)
   (.req (List.length D = List.length (List.set D (Int.toNat i) (Knot.mk (Knot.At (kx D i)) (IntKind.wrap IntKind.i64 (Knot.V (kx D i) + x)))))
   (.leaf (.inl (A, (List.set H (Int.toNat i) (Knot.mk (Knot.At (kx H i)) (IntKind.wrap IntKind.i64 (Knot.V (kx H i) + x))), (C, (List.set D (Int.toNat i) (Knot.mk (Knot.At (kx D i)) (IntKind.wrap IntKind.i64 (Knot.V (kx D i) + x))), (x, (z, (IntKind.wrap IntKind.i64 (i + (1 : Int)), (p, (f, (b, (g, (G, (rs, ())))))))))))))))))))))))))))
   (.req (List.length A = List.length A)
   (.req (List.length H = List.length H)
   (.req (List.length C = List.length C)
   (.req (List.length D = List.length D)
   (.leaf (.inr (.exit (0 : Nat), [.l (78 : Nat) (A), .l (78 : Nat) (H), .l (78 : Nat) (C), .l (78 : Nat) (D), .n (z), .n (b), .n (g), .n (G), .l (55 : Nat) (rs)])))))))) := by kernel_rfl
theorem nGW (A : List Knot) (H : List Knot) (C : List Knot) (D : List Knot) (x : Int) (z : Int) (i : Int) (p : List Knot) (f : List Knot) (b : Int) (g : Int) (G : Int) (rs : List Report) (K : Ex × List (V T) → Prop) (hI : (0 ≤ i ∧ i ≤ p.length) ∧ H.length = p.length ∧ D.length = p.length ∧ p.length ≤ 1000) (hK : (.leaf (.exit 0, [.l 78 A, .l 78 (aV x (p.length - i.toNat) H i.toNat), .l 78 C, .l 78 (aV x (p.length - i.toNat) D i.toNat), .n z, .n b, .n g, .n G, .l 55 rs]) : Tree (Ex × List (V T))).holds K) : (cGW.out (A, H, C, D, x, z, i, p, f, b, g, G, rs, ())).holds K := ⟨hI, hK⟩
theorem hGW' (A : List Knot) (H : List Knot) (C : List Knot) (D : List Knot) (x : Int) (z : Int) (i : Int) (p : List Knot) (f : List Knot) (b : Int) (g : Int) (G : Int) (rs : List Report) (K : Ex × List (V T) → Prop) (hI : (0 ≤ i ∧ i ≤ p.length) ∧ H.length = p.length ∧ D.length = p.length ∧ p.length ≤ 1000) (hK : (.leaf (.exit 0, [.l 78 A, .l 78 (aV x (p.length - i.toNat) H i.toNat), .l 78 C, .l 78 (aV x (p.length - i.toNat) D i.toNat), .n z, .n b, .n g, .n G, .l 55 rs]) : Tree (Ex × List (V T))).holds K) :
    (bodyD Try.prog E cGW 0 (bodyX Try.prog E ctGw noLoops 1000 5 L0 (lpOf Try.prog 15 0)) (A, H, C, D, x, z, i, p, f, b, g, G, rs, ())).holds fun y => match y with
    | .inl d => ((d.2.2.2.2.2.2.2.1.length : Int) - d.2.2.2.2.2.2.1).toNat < ((p.length : Int) - i).toNat ∧ (cGW.out d).holds K
    | .inr y => K y := by
  rw [bGW]
  obtain ⟨⟨h0, h1⟩, h2, h3, h5⟩ := hI
  refine way (fun k => ?_) fun k => ?_
  · have e3 : IntKind.wrap IntKind.i64 (i + 1) = i + 1 := i64_in' (by omega) (by omega)
    rw [e3]
    have hc : (decide (0 ≤ i) && decide (i < (H.length : Int))) = true := by rw [h2]; simp [h0, k]
    have hd : (decide (0 ≤ i) && decide (i < (D.length : Int))) = true := by rw [h3]; simp [h0, k]
    have key : ∀ H : List Knot, aV x (p.length - i.toNat) H i.toNat = aV x (p.length - (i + 1).toNat) (H.set i.toNat ⟨(kx H i).At, IntKind.wrap IntKind.i64 ((kx H i).V + x)⟩) (i + 1).toNat := by
      intro H
      rw [show p.length - i.toNat = (p.length - (i + 1).toNat) + 1 by omega, show (i + 1).toNat = i.toNat + 1 by omega]
      have : kx H i = kx H (i.toNat : Int) := by rw [Int.toNat_of_nonneg h0]
      rw [this]
      rfl
    rw [key H, key D] at hK
    have g1 : ((p.length : Int) - (i + 1)).toNat < ((p.length : Int) - i).toNat := by omega
    have g2 : (0 ≤ i + 1 ∧ i + 1 ≤ (p.length : Int)) ∧ (H.set i.toNat ⟨(kx H i).At, IntKind.wrap IntKind.i64 ((kx H i).V + x)⟩).length = p.length ∧ (D.set i.toNat ⟨(kx D i).At, IntKind.wrap IntKind.i64 ((kx D i).V + x)⟩).length = p.length ∧ p.length ≤ 1000 := ⟨by omega, by rw [List.length_set]; exact h2, by rw [List.length_set]; exact h3, h5⟩
    exact ⟨hc, hc, hc, hc, hd, hd, hd, hd, rfl, (List.length_set ..).symm, rfl, (List.length_set ..).symm, g1, nGW _ _ _ _ _ _ _ _ _ _ _ _ _ K g2 hK⟩
  · rw [show p.length - i.toNat = 0 by omega] at hK
    exact ⟨rfl, rfl, rfl, rfl, hK⟩
theorem hGW : LoopH Try.prog E cGW 0 (bodyX Try.prog E ctGw noLoops 1000 5 L0 (lpOf Try.prog 15 0)) :=
  ⟨fun d => ((d.2.2.2.2.2.2.2.1.length : Int) - d.2.2.2.2.2.2.1).toNat, fun dd K hK => by
    obtain ⟨A, H, C, D, x, z, i, p, f, b, g, G, rs, ⟨⟩⟩ := dd
    obtain ⟨hI, hK⟩ := hK
    refine Tree.holds_mono (fun y hy => ?_) (hGW' A H C D x z i p f b g G rs K hI hK)
    cases y with
    | inl d' => exact hy
    | inr y => exact hy⟩
theorem llGW : LLOk Try.prog E (llOfN Try.prog E 15 0 [(6, cGW)]) := llOfN_ok fun i hi c hc => by
  have hi : i < 1 := hi
  obtain rfl : i = 0 := by omega
  obtain rfl : cGW = c := Option.some.inj hc
  exact LSndN.mk good names mixes ctGw_ok (by decide) hGW
theorem tvGW (b : Int) (s o m : List Int) (off z : Int) : runX ctGw (llOfN Try.prog E 15 0 [(6, cGW)]) 15 [.agg [i64 b, .sl 2 s false, .sl 2 o false, .sl 2 m false], i64 off, i64 z] [4] =
  (.req (True)
  (.req (mPre off (30000000 : Int))
  (.req (List.length (tPl b s) ≤ (1000 : Nat))
  (.req (List.length (tFl b s) ≤ (1000 : Nat))
  (.req (List.length (tPl b s) ≤ (1000 : Nat))
  (.req (List.length (tFl b s) ≤ (1000 : Nat))
  (.req (List.length (tPl b s) = List.length (tPl b s))
  (.req (List.length (tPl b s) = List.length (tPl b s))
  (.req (List.length (tFl b s) = List.length (tFl b s))
  (.req (List.length (tFl b s) = List.length (tFl b s))
  (.req (((0 : Int) ≤ (0 : Int) ∧ (0 : Int) ≤ (↑(List.length (tPl b s)) : Int)) ∧ List.length (tPl b s) = List.length (tPl b s) ∧ List.length (tFl b s) = List.length (tPl b s) ∧ List.length (tPl b s) ≤ (1000 : Nat))
  (.req (mPre z (Earth.Bottom (knE b s o m)))
  (.req (List.length (tPl b s) = List.length (tPl b s))
  (.req (List.length (aV (off % (30000000 : Int)) (List.length (tPl b s) - Int.toNat (0 : Int)) (tPl b s) (Int.toNat (0 : Int))) = List.length (aV (off % (30000000 : Int)) (List.length (tPl b s) - Int.toNat (0 : Int)) (tPl b s) (Int.toNat (0 : Int))))
  (.req (List.length (tFl b s) = List.length (tFl b s))
  (.req (List.length (aV (off % (30000000 : Int)) (List.length (tPl b s) - Int.toNat (0 : Int)) (tFl b s) (Int.toNat (0 : Int))) = List.length (aV (off % (30000000 : Int)) (List.length (tPl b s) - Int.toNat (0 : Int)) (tFl b s) (Int.toNat (0 : Int))))
  (.req (List.length (tPl b s) = List.length (tPl b s))
  (.req (List.length (aV (off % (30000000 : Int)) (List.length (tPl b s) - Int.toNat (0 : Int)) (tPl b s) (Int.toNat (0 : Int))) = List.length (aV (off % (30000000 : Int)) (List.length (tPl b s) - Int.toNat (0 : Int)) (tPl b s) (Int.toNat (0 : Int))))
  (.req (List.length (tFl b s) = List.length (tFl b s))
  (.req (List.length (aV (off % (30000000 : Int)) (List.length (tPl b s) - Int.toNat (0 : Int)) (tFl b s) (Int.toNat (0 : Int))) = List.length (aV (off % (30000000 : Int)) (List.length (tPl b s) - Int.toNat (0 : Int)) (tFl b s) (Int.toNat (0 : Int))))
  (.req (List.length (tPl b s) = List.length (tPl b s))
  (.req (List.length (aV (off % (30000000 : Int)) (List.length (tPl b s) - Int.toNat (0 : Int)) (tPl b s) (Int.toNat (0 : Int))) = List.length (aV (off % (30000000 : Int)) (List.length (tPl b s) - Int.toNat (0 : Int)) (tPl b s) (Int.toNat (0 : Int))))
  (.req (List.length (tFl b s) = List.length (tFl b s))
  (.req (List.length (aV (off % (30000000 : Int)) (List.length (tPl b s) - Int.toNat (0 : Int)) (tFl b s) (Int.toNat (0 : Int))) = List.length (aV (off % (30000000 : Int)) (List.length (tPl b s) - Int.toNat (0 : Int)) (tFl b s) (Int.toNat (0 : Int))))
  (.req (List.length (tPl b s) = List.length (tPl b s))
  (.req (List.length (aV (off % (30000000 : Int)) (List.length (tPl b s) - Int.toNat (0 : Int)) (tPl b s) (Int.toNat (0 : Int))) = List.length (aV (off % (30000000 : Int)) (List.length (tPl b s) - Int.toNat (0 : Int)) (tPl b s) (Int.toNat (0 : Int))))
  (.req (List.length (tFl b s) = List.length (tFl b s))
  (.req (List.length (aV (off % (30000000 : Int)) (List.length (tPl b s) - Int.toNat (0 : Int)) (tFl b s) (Int.toNat (0 : Int))) = List.length (aV (off % (30000000 : Int)) (List.length (tPl b s) - Int.toNat (0 : Int)) (tFl b s) (Int.toNat (0 : Int))))
  (.req (List.length (tPl b s) = List.length (tPl b s))
  (.req (List.length (aV (off % (30000000 : Int)) (List.length (tPl b s) - Int.toNat (0 : Int)) (tPl b s) (Int.toNat (0 : Int))) = List.length (aV (off % (30000000 : Int)) (List.length (tPl b s) - Int.toNat (0 : Int)) (tPl b s) (Int.toNat (0 : Int))))
  (.req (List.length (tFl b s) = List.length (tFl b s))
  (.req (List.length (aV (off % (30000000 : Int)) (List.length (tPl b s) - Int.toNat (0 : Int)) (tFl b s) (Int.toNat (0 : Int))) = List.length (aV (off % (30000000 : Int)) (List.length (tPl b s) - Int.toNat (0 : Int)) (tFl b s) (Int.toNat (0 : Int))))
  (.br (eErr (eOf (Earth.Bottom (knE b s o m), tPl b s, aV (off % (30000000 : Int)) (List.length (tPl b s) - Int.toNat (0 : Int)) (tPl b s) (Int.toNat (0 : Int)), tFl b s, aV (off % (30000000 : Int)) (List.length (tPl b s) - Int.toNat (0 : Int)) (tFl b s) (Int.toNat (0 : Int)), Earth.GLo (knE b s o m), Earth.GHi (knE b s o m), Earth.Reports (knE b s o m), ())) == (0 : Int))
   (.br (decide (IntKind.wrap IntKind.i64 (kP pHi (eZ (Earth.Bottom (knE b s o m), tPl b s, aV (off % (30000000 : Int)) (List.length (tPl b s) - Int.toNat (0 : Int)) (tPl b s) (Int.toNat (0 : Int)), tFl b s, aV (off % (30000000 : Int)) (List.length (tPl b s) - Int.toNat (0 : Int)) (tFl b s) (Int.toNat (0 : Int)), Earth.GLo (knE b s o m), Earth.GHi (knE b s o m), Earth.Reports (knE b s o m), IntKind.wrap IntKind.i64 (z % Earth.Bottom (knE b s o m) + (1 : Int)), ())) (zZ (Earth.Bottom (knE b s o m), tPl b s, aV (off % (30000000 : Int)) (List.length (tPl b s) - Int.toNat (0 : Int)) (tPl b s) (Int.toNat (0 : Int)), tFl b s, aV (off % (30000000 : Int)) (List.length (tPl b s) - Int.toNat (0 : Int)) (tFl b s) (Int.toNat (0 : Int)), Earth.GLo (knE b s o m), Earth.GHi (knE b s o m), Earth.Reports (knE b s o m), IntKind.wrap IntKind.i64 (z % Earth.Bottom (knE b s o m) + (1 : Int)), ())) - kP pHi (eZ (Earth.Bottom (knE b s o m), tPl b s, aV (off % (30000000 : Int)) (List.length (tPl b s) - Int.toNat (0 : Int)) (tPl b s) (Int.toNat (0 : Int)), tFl b s, aV (off % (30000000 : Int)) (List.length (tPl b s) - Int.toNat (0 : Int)) (tFl b s) (Int.toNat (0 : Int)), Earth.GLo (knE b s o m), Earth.GHi (knE b s o m), Earth.Reports (knE b s o m), z % Earth.Bottom (knE b s o m), ())) (zZ (Earth.Bottom (knE b s o m), tPl b s, aV (off % (30000000 : Int)) (List.length (tPl b s) - Int.toNat (0 : Int)) (tPl b s) (Int.toNat (0 : Int)), tFl b s, aV (off % (30000000 : Int)) (List.length (tPl b s) - Int.toNat (0 : Int)) (tFl b s) (Int.toNat (0 : Int)), Earth.GLo (knE b s o m), Earth.GHi (knE b s o m), Earth.Reports (knE b s o m), z % Earth.Bottom (knE b s o m), ()))) ≤ Earth.GHi (knE b s o m)))
    (.br (decide (IntKind.wrap IntKind.i64 (kP fHi (eZ (Earth.Bottom (knE b s o m), tPl b s, aV (off % (30000000 : Int)) (List.length (tPl b s) - Int.toNat (0 : Int)) (tPl b s) (Int.toNat (0 : Int)), tFl b s, aV (off % (30000000 : Int)) (List.length (tPl b s) - Int.toNat (0 : Int)) (tFl b s) (Int.toNat (0 : Int)), Earth.GLo (knE b s o m), Earth.GHi (knE b s o m), Earth.Reports (knE b s o m), IntKind.wrap IntKind.i64 (z % Earth.Bottom (knE b s o m) + (1 : Int)), ())) (zZ (Earth.Bottom (knE b s o m), tPl b s, aV (off % (30000000 : Int)) (List.length (tPl b s) - Int.toNat (0 : Int)) (tPl b s) (Int.toNat (0 : Int)), tFl b s, aV (off % (30000000 : Int)) (List.length (tPl b s) - Int.toNat (0 : Int)) (tFl b s) (Int.toNat (0 : Int)), Earth.GLo (knE b s o m), Earth.GHi (knE b s o m), Earth.Reports (knE b s o m), IntKind.wrap IntKind.i64 (z % Earth.Bottom (knE b s o m) + (1 : Int)), ())) - kP fHi (eZ (Earth.Bottom (knE b s o m), tPl b s, aV (off % (30000000 : Int)) (List.length (tPl b s) - Int.toNat (0 : Int)) (tPl b s) (Int.toNat (0 : Int)), tFl b s, aV (off % (30000000 : Int)) (List.length (tPl b s) - Int.toNat (0 : Int)) (tFl b s) (Int.toNat (0 : Int)), Earth.GLo (knE b s o m), Earth.GHi (knE b s o m), Earth.Reports (knE b s o m), z % Earth.Bottom (knE b s o m), ())) (zZ (Earth.Bottom (knE b s o m), tPl b s, aV (off % (30000000 : Int)) (List.length (tPl b s) - Int.toNat (0 : Int)) (tPl b s) (Int.toNat (0 : Int)), tFl b s, aV (off % (30000000 : Int)) (List.length (tPl b s) - Int.toNat (0 : Int)) (tFl b s) (Int.toNat (0 : Int)), Earth.GLo (knE b s o m), Earth.GHi (knE b s o m), Earth.Reports (knE b s o m), z % Earth.Bottom (knE b s o m), ()))) ≤ Earth.GHi (knE b s o m)))
     (.br (decide (kP pLo (eZ (Earth.Bottom (knE b s o m), tPl b s, aV (off % (30000000 : Int)) (List.length (tPl b s) - Int.toNat (0 : Int)) (tPl b s) (Int.toNat (0 : Int)), tFl b s, aV (off % (30000000 : Int)) (List.length (tPl b s) - Int.toNat (0 : Int)) (tFl b s) (Int.toNat (0 : Int)), Earth.GLo (knE b s o m), Earth.GHi (knE b s o m), Earth.Reports (knE b s o m), IntKind.wrap IntKind.i64 (z % Earth.Bottom (knE b s o m) + (1 : Int)), ())) (zZ (Earth.Bottom (knE b s o m), tPl b s, aV (off % (30000000 : Int)) (List.length (tPl b s) - Int.toNat (0 : Int)) (tPl b s) (Int.toNat (0 : Int)), tFl b s, aV (off % (30000000 : Int)) (List.length (tPl b s) - Int.toNat (0 : Int)) (tFl b s) (Int.toNat (0 : Int)), Earth.GLo (knE b s o m), Earth.GHi (knE b s o m), Earth.Reports (knE b s o m), IntKind.wrap IntKind.i64 (z % Earth.Bottom (knE b s o m) + (1 : Int)), ())) ≥ kP pLo (eZ (Earth.Bottom (knE b s o m), tPl b s, aV (off % (30000000 : Int)) (List.length (tPl b s) - Int.toNat (0 : Int)) (tPl b s) (Int.toNat (0 : Int)), tFl b s, aV (off % (30000000 : Int)) (List.length (tPl b s) - Int.toNat (0 : Int)) (tFl b s) (Int.toNat (0 : Int)), Earth.GLo (knE b s o m), Earth.GHi (knE b s o m), Earth.Reports (knE b s o m), z % Earth.Bottom (knE b s o m), ())) (zZ (Earth.Bottom (knE b s o m), tPl b s, aV (off % (30000000 : Int)) (List.length (tPl b s) - Int.toNat (0 : Int)) (tPl b s) (Int.toNat (0 : Int)), tFl b s, aV (off % (30000000 : Int)) (List.length (tPl b s) - Int.toNat (0 : Int)) (tFl b s) (Int.toNat (0 : Int)), Earth.GLo (knE b s o m), Earth.GHi (knE b s o m), Earth.Reports (knE b s o m), z % Earth.Bottom (knE b s o m), ()))))
      (.br (decide (kP fLo (eZ (Earth.Bottom (knE b s o m), tPl b s, aV (off % (30000000 : Int)) (List.length (tPl b s) - Int.toNat (0 : Int)) (tPl b s) (Int.toNat (0 : Int)), tFl b s, aV (off % (30000000 : Int)) (List.length (tPl b s) - Int.toNat (0 : Int)) (tFl b s) (Int.toNat (0 : Int)), Earth.GLo (knE b s o m), Earth.GHi (knE b s o m), Earth.Reports (knE b s o m), IntKind.wrap IntKind.i64 (z % Earth.Bottom (knE b s o m) + (1 : Int)), ())) (zZ (Earth.Bottom (knE b s o m), tPl b s, aV (off % (30000000 : Int)) (List.length (tPl b s) - Int.toNat (0 : Int)) (tPl b s) (Int.toNat (0 : Int)), tFl b s, aV (off % (30000000 : Int)) (List.length (tPl b s) - Int.toNat (0 : Int)) (tFl b s) (Int.toNat (0 : Int)), Earth.GLo (knE b s o m), Earth.GHi (knE b s o m), Earth.Reports (knE b s o m), IntKind.wrap IntKind.i64 (z % Earth.Bottom (knE b s o m) + (1 : Int)), ())) ≥ kP fLo (eZ (Earth.Bottom (knE b s o m), tPl b s, aV (off % (30000000 : Int)) (List.length (tPl b s) - Int.toNat (0 : Int)) (tPl b s) (Int.toNat (0 : Int)), tFl b s, aV (off % (30000000 : Int)) (List.length (tPl b s) - Int.toNat (0 : Int)) (tFl b s) (Int.toNat (0 : Int)), Earth.GLo (knE b s o m), Earth.GHi (knE b s o m), Earth.Reports (knE b s o m), z % Earth.Bottom (knE b s o m), ())) (zZ (Earth.Bottom (knE b s o m), tPl b s, aV (off % (30000000 : Int)) (List.length (tPl b s) - Int.toNat (0 : Int)) (tPl b s) (Int.toNat (0 : Int)), tFl b s, aV (off % (30000000 : Int)) (List.length (tPl b s) - Int.toNat (0 : Int)) (tFl b s) (Int.toNat (0 : Int)), Earth.GLo (knE b s o m), Earth.GHi (knE b s o m), Earth.Reports (knE b s o m), z % Earth.Bottom (knE b s o m), ()))))
       (.leaf (.bool (true)))
       (.leaf (.bool (false))))
      (.leaf (.bool (false))))
     (.leaf (.bool (false))))
    (.leaf (.bool (false))))
   (.leaf (.bool (false)))))))))))))))))))))))))))))))))))) := by kernel_rfl
noncomputable def sh (x : Int) (k : Knot) : Knot := ⟨k.At, IntKind.wrap IntKind.i64 (k.V + x)⟩
noncomputable def sp (x : Int) (k : Knot) : Knot := ⟨k.At, k.V + x⟩
theorem aV_get {x : Int} : ∀ (n : Nat) (l : List Knot) (i j : Nat), (aV x n l i)[j]? = if i ≤ j ∧ j < i + n then (l[j]?).map (sh x) else l[j]?
  | 0, l, i, j => by rw [if_neg (by omega)]; rfl
  | n + 1, l, i, j => by
    show (aV x n (l.set i (sh x (kx l i))) (i + 1))[j]? = _
    rw [aV_get n]
    by_cases e : i = j
    · subst e
      rw [if_neg (by omega), if_pos (by omega)]
      by_cases h : i < l.length
      · rw [List.getElem?_set_self h, List.getElem?_eq_getElem h, show kx l i = l[i] from kn_get h]
        rfl
      · rw [List.getElem?_eq_none (by rw [List.length_set]; omega), List.getElem?_eq_none (by omega)]
        rfl
    · rw [List.getElem?_set_ne e]
      by_cases h : i + 1 ≤ j ∧ j < i + 1 + n
      · rw [if_pos h, if_pos (by omega)]
      · rw [if_neg h, if_neg (by omega)]
theorem aV_map {x : Int} {l : List Knot} : aV x l.length l 0 = l.map (sh x) := List.ext_getElem? fun j => by
  rw [aV_get, List.getElem?_map]
  split
  · rfl
  · rw [List.getElem?_eq_none (by omega)]; rfl
theorem kn_map {g : Knot → Knot} {l : List Knot} {i : Nat} (h : i < l.length) : kn (l.map g) i = g (kn l i) := by
  rw [kn_get (by rw [List.length_map]; exact h), kn_get h, List.getElem_map]
theorem sp_le2 {x : Int} (h : 0 ≤ x) : ∀ l : List Knot, Le2 l (l.map (sp x))
  | [] => trivial
  | k :: l => ⟨⟨rfl, by show k.V ≤ k.V + x; omega⟩, sp_le2 h l⟩
theorem sp_slp {lo hi x : Int} : ∀ {l : List Knot}, Slp lo hi l → Slp lo hi (l.map (sp x))
  | [], _ => trivial
  | k :: l, s => by
    refine ⟨fun y t h => ?_, sp_slp s.2⟩
    cases l with
    | nil => cases h
    | cons y' t' =>
      obtain ⟨rfl, _⟩ := List.cons.inj h
      obtain ⟨c, c1, c2, c3⟩ := s.1 y' t' rfl
      exact ⟨c, c1, c2, by show y'.V + x = k.V + x + c * (y'.At - k.At); omega⟩
structure Gr5 (l : List Knot) (B : Int) : Prop where
  good : Good l 1048576 68719476736
  slp : Slp 2000 30000 l
  two : 2 ≤ l.length
  f : (kn l (0 : Nat)).At = 0
  t : (kn l (l.length - 1 : Nat)).At = B
theorem Tr.gr {l : List Knot} {B : Int} (h : Tr l B) : Gr5 l B := ⟨h.good, h.slp, h.two, h.f, h.t⟩
theorem Tr.spg {l : List Knot} {B x : Int} (h : Tr l B) (hx : 0 ≤ x ∧ x < 30000000) : Gr5 (l.map (sp x)) B := by
  have two := h.two
  have gd := h.good
  refine ⟨⟨by rw [List.length_map]; exact gd.pos, by rw [List.length_map]; exact gd.len, fun i hi => ?_, fun i hi => ?_⟩, sp_slp h.slp, by rw [List.length_map]; exact two, by rw [kn_map (by omega)]; exact h.f, by rw [List.length_map, kn_map (by omega)]; exact h.t⟩
  · rw [List.length_map] at hi
    rw [kn_map hi]
    have b := gd.bd i hi
    have v := h.v _ (kn_mem hi)
    exact ⟨b.1, by show 0 ≤ (kn l i).V + x ∧ (kn l i).V + x ≤ 68719476736; omega⟩
  · rw [List.length_map] at hi
    rw [kn_map (by omega), kn_map hi]
    exact gd.up i hi
theorem Tr.av {l : List Knot} {B x : Int} (h : Tr l B) (hx : 0 ≤ x ∧ x < 30000000) : aV x l.length l 0 = l.map (sp x) := by
  rw [aV_map]
  refine List.map_congr_left fun k hk => ?_
  have v := h.v k hk
  show Knot.mk k.At _ = Knot.mk k.At _
  rw [show IntKind.wrap IntKind.i64 (k.V + x) = k.V + x from i64_in' (by omega) (by omega)]
theorem Gr5.stp {l : List Knot} {B z : Int} (h : Gr5 l B) (z0 : 0 ≤ z) (z1 : z + 1 ≤ B) : valLo l z ≤ valLo l (z + 1) ∧ valHi l (z + 1) ≤ valHi l z + 30000 := by
  have g := grow h.good h.slp h.two (x := z) (z := z + 1) (by rw [h.f]; exact z0) (by omega) (by rw [h.t]; exact z1)
  rw [show z + 1 - z = 1 by omega] at g
  omega
theorem dn_stp {glo ghi z : Int} {k : Knot} (h : 0 ≤ glo) (h2 : 0 ≤ ghi) : dn glo ghi z k ≤ dn glo ghi (z + 1) k := by
  unfold dn
  have e1 : ghi * (k.At - z) = ghi * (k.At - (z + 1)) + ghi := by grind
  have e2 : glo * (z + 1 - k.At) = glo * (z - k.At) + glo := by grind
  split
  · split
    · omega
    · have : z + 1 = k.At := by omega
      rw [← this, Int.sub_self, Int.mul_zero, show z + 1 - z = 1 by omega]
      omega
  · rw [if_neg (by omega)]
    omega
theorem up_stp {glo ghi z : Int} {k : Knot} (h : 0 ≤ glo) (h2 : glo ≤ ghi) : up glo ghi (z + 1) k ≤ up glo ghi z k + ghi := by
  unfold up
  have e1 : glo * (k.At - z) = glo * (k.At - (z + 1)) + glo := by grind
  have e2 : ghi * (z + 1 - k.At) = ghi * (z - k.At) + ghi := by grind
  split
  · rw [if_pos (by omega)]
    omega
  · split
    · have : z + 1 = k.At := by omega
      rw [← this, Int.sub_self, Int.mul_zero, show z + 1 - z = 1 by omega]
      omega
    · omega
theorem fdK_top {f : Knot → Int} : ∀ (l : List Knot) (a : Int), fdK mn f a l ≤ a
  | [], a => Int.le_refl _
  | k :: l, a => Int.le_trans (fdK_top l _) (by unfold mn; split <;> omega)
theorem mn_l {a b : Int} : mn a b ≤ a := by unfold mn; split <;> omega
noncomputable def gwE (e : Earth) (x : Int) (p f : List Knot) : Earth := ⟨e.Bottom, ⟨p⟩, ⟨p.map (sp x)⟩, ⟨f⟩, ⟨f.map (sp x)⟩, e.GLo, e.GHi, e.Reports⟩
theorem gw_tru {e : Earth} {p f : List Knot} {x : Int} (h : Tru e p f) (hx : 0 ≤ x ∧ x < 30000000) : Tru (gwE e x p f) p f :=
  ⟨h.b, h.g, h.tp, h.tf, h.pf, Le2.refl p, sp_le2 hx.1 p, Le2.refl f, sp_le2 hx.1 f, h.tp.good, (h.tp.spg hx).good, h.tf.good, (h.tf.spg hx).good, h.len, h.rep⟩
structure Stp (e : Earth) (z : Int) : Prop where
  a1 : pLo e z ≤ pLo e (z + 1)
  a2 : pHi e (z + 1) ≤ pHi e z + e.GHi
  a3 : fLo e z ≤ fLo e (z + 1)
  a4 : fHi e (z + 1) ≤ fHi e z + e.GHi
theorem gw_stp {e : Earth} {p f : List Knot} {x z : Int} (h : Tru e p f) (hx : 0 ≤ x ∧ x < 30000000) (z0 : 0 ≤ z) (z1 : z + 1 ≤ e.Bottom) : Stp (gwE e x p f) z := by
  have g := h.g
  have s1 := h.tp.gr.stp z0 z1
  have s2 := (h.tp.spg hx).stp z0 z1
  have s3 := h.tf.gr.stp z0 z1
  have s4 := (h.tf.spg hx).stp z0 z1
  have a1 : pLo (gwE e x p f) z ≤ pLo (gwE e x p f) (z + 1) := fdK_mono _ _ _ s1.1 fun k _ => dn_stp (show 0 ≤ e.GLo by omega) (show 0 ≤ e.GHi by omega)
  have a4 : fHi (gwE e x p f) (z + 1) ≤ fHi (gwE e x p f) z + e.GHi := fdK_stp _ _ _ (by show valHi (f.map (sp x)) (z + 1) ≤ valHi (f.map (sp x)) z + _; omega) fun k _ => up_stp (show 0 ≤ e.GLo by omega) (show e.GLo ≤ e.GHi by omega)
  refine ⟨a1, ?_, ?_, a4⟩
  · exact mn_stp (fdK_stp _ _ _ (by show valHi (p.map (sp x)) (z + 1) ≤ valHi (p.map (sp x)) z + e.GHi; omega) fun k _ => up_stp (show 0 ≤ e.GLo by omega) (show e.GLo ≤ e.GHi by omega)) a4
  · exact mx_mono (fdK_mono _ _ _ s3.1 fun k _ => dn_stp (show 0 ≤ e.GLo by omega) (show 0 ≤ e.GHi by omega)) a1
theorem hi_bd {e : Earth} {p f : List Knot} {z : Int} (h : Tru e p f) (z0 : 0 ≤ z) (z1 : z ≤ e.Bottom) : (0 ≤ pHi e z ∧ pHi e z ≤ 68719476736) ∧ 0 ≤ fHi e z ∧ fHi e z ≤ 68719476736 := by
  have q := h.enc z0 z1
  have q2 := q.ph
  have q4 := q.fh
  have v1 := h.tp.vmax h.b.2 z0 z1
  have v2 := h.tf.vmax h.b.2 z0 z1
  have t1 : pHi e z ≤ valHi e.PoreHi.Knots z := Int.le_trans mn_l (fdK_top _ _)
  have t2 : fHi e z ≤ valHi e.FracHi.Knots z := fdK_top _ _
  have b1 := val_bd h.g2 z
  have b2 := val_bd h.g4 z
  omega
noncomputable def endT (e : Earth) (z z' : Int) (G : Int) : Tree (AV T) := .br (eErr e == 0) (.br (decide (IntKind.wrap IntKind.i64 (kP pHi e z' - kP pHi e z) ≤ G)) (.br (decide (IntKind.wrap IntKind.i64 (kP fHi e z' - kP fHi e z) ≤ G)) (.br (decide (kP pLo e z' ≥ kP pLo e z)) (.br (decide (kP fLo e z' ≥ kP fLo e z)) (.leaf (.bool true)) (.leaf (.bool false))) (.leaf (.bool false))) (.leaf (.bool false))) (.leaf (.bool false))) (.leaf (.bool false))
theorem endT_ok {e : Earth} {p f : List Knot} {z : Int} (h : Tru e p f) (s : Stp e z) (z0 : 0 ≤ z) (z1 : z + 1 ≤ e.Bottom) : (endT e z (z + 1) e.GHi).holds fun v => v = .bool true := by
  have i1 : inZ e z := ⟨h.err, z0, by omega⟩
  have i2 : inZ e (z + 1) := ⟨h.err, by omega, z1⟩
  unfold endT
  rw [kP_in i1, kP_in i2, kP_in i1, kP_in i2, kP_in i1, kP_in i2, kP_in i1, kP_in i2]
  have b1 := hi_bd h z0 (show z ≤ e.Bottom by omega)
  have b2 := hi_bd h (show 0 ≤ z + 1 by omega) z1
  have q1 := s.a1
  have q2 := s.a2
  have q3 := s.a3
  have q4 := s.a4
  rw [i64_in' (n := pHi e (z + 1) - pHi e z) (by omega) (by omega), i64_in' (n := fHi e (z + 1) - fHi e z) (by omega) (by omega)]
  exact wayEq (fun _ => way (fun _ => way (fun _ => way (fun _ => way (fun _ => rfl) fun c => absurd q3 c) fun c => absurd q1 c) fun c => absurd (by omega) c) fun c => absurd (by omega) c) fun c => absurd h.err c
theorem earthGrows_proved : Rows.EarthGrowsSaid := earthGrows_said fun w x z _ _ _ => fact_run ctGw_ok llGW (ts := [4]) rfl (by
  show (runX ctGw (llOfN Try.prog E 15 0 [(6, cGW)]) 15 [.agg [i64 w.Bottom, .sl 2 w.Steps false, .sl 2 w.Off false, .sl 2 w.Marks false], i64 x, i64 z] [4]).holds _
  rw [tvGW]
  have h := kn_tru w.Bottom w.Steps w.Off w.Marks
  have hx : 0 ≤ x % 30000000 ∧ x % 30000000 < 30000000 := by omega
  have lpf := h.pf.len
  have six := h.tp.six
  have b := h.b
  have m0 := Int.emod_nonneg z (b := (knE w.Bottom w.Steps w.Off w.Marks).Bottom) (by omega)
  have m1 := Int.emod_lt_of_pos z (b := (knE w.Bottom w.Steps w.Off w.Marks).Bottom) (by omega)
  have e1 : aV (x % 30000000) ((tPl w.Bottom w.Steps).length - Int.toNat 0) (tPl w.Bottom w.Steps) (Int.toNat 0) = (tPl w.Bottom w.Steps).map (sp (x % 30000000)) := h.tp.av hx
  have e2 : aV (x % 30000000) ((tPl w.Bottom w.Steps).length - Int.toNat 0) (tFl w.Bottom w.Steps) (Int.toNat 0) = (tFl w.Bottom w.Steps).map (sp (x % 30000000)) := by rw [lpf]; exact h.tf.av hx
  have e3 : IntKind.wrap IntKind.i64 (z % (knE w.Bottom w.Steps w.Off w.Marks).Bottom + 1) = z % (knE w.Bottom w.Steps w.Off w.Marks).Bottom + 1 := i64_in' (by omega) (by omega)
  rw [e1, e2, e3]
  have mz : mPre z (knE w.Bottom w.Steps w.Off w.Marks).Bottom := ⟨by omega, by omega⟩
  have mo : mPre x 30000000 := ⟨by decide, by decide⟩
  have lp : ((0 : Int) ≤ 0 ∧ (0 : Int) ≤ ((tPl w.Bottom w.Steps).length : Int)) ∧ (tPl w.Bottom w.Steps).length = (tPl w.Bottom w.Steps).length ∧ (tFl w.Bottom w.Steps).length = (tPl w.Bottom w.Steps).length ∧ (tPl w.Bottom w.Steps).length ≤ 1000 := ⟨⟨by decide, by omega⟩, rfl, lpf.symm, by omega⟩
  have fin := endT_ok (gw_tru h hx) (gw_stp h hx m0 (by omega)) m0 (show z % (knE w.Bottom w.Steps w.Off w.Marks).Bottom + 1 ≤ (knE w.Bottom w.Steps w.Off w.Marks).Bottom by omega)
  exact ⟨trivial, mo, by omega, by omega, by omega, by omega, rfl, rfl, rfl, rfl, lp, mz, rfl, rfl, rfl, rfl, rfl, rfl, rfl, rfl, rfl, rfl, rfl, rfl, rfl, rfl, rfl, rfl, rfl, rfl, rfl, rfl, fin⟩)
end Go.Proofs.Ytdlholmphenhhaa.W.Gr
end
