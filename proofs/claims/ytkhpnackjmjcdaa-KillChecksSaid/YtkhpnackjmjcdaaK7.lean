/- KillChecks. No condition. -/
import Derived.Test.YtkhpnackjmjcdaaU0
import Derived.Test.YtkhpnackjmjcdaaW
import Derived.Test.YtkhpnackjmjcdaaLKillChecks
set_option linter.unusedVariables false
set_option maxRecDepth 100000
set_option maxHeartbeats 4000000
noncomputable section
namespace Go.Proofs.Ytkhpnackjmjcdaa.W.Hole
open Go Go.Cx Go.RowKit
noncomputable def pi (l : List Knot) (i : Int) : Knot := ixD E 55 l i
/-- The first error of points. -/
noncomputable def ptE (v : Int) (l : List Knot) (i : Nat) : Int :=
  if i < l.length then
    (if (pi l i).At < 0 ∨ (pi l i).At > v ∨ (pi l i).V < 0 ∨ (pi l i).V > 68719476736 then 2
    else if 0 < i ∧ (pi l i).At ≤ (pi l ((i : Int) - 1)).At then 11
    else ptE v l (i + 1))
  else 0
termination_by l.length - i
theorem ptE_eq (v : Int) (l : List Knot) (i : Nat) : ptE v l i = if i < l.length then
    (if (pi l i).At < 0 ∨ (pi l i).At > v ∨ (pi l i).V < 0 ∨ (pi l i).V > 68719476736 then 2
    else if 0 < i ∧ (pi l i).At ≤ (pi l ((i : Int) - 1)).At then 11
    else ptE v l (i + 1))
  else 0 := by rw [ptE]
theorem pt_bad {v : Int} {l : List Knot} {i : Nat} (h : i < l.length) (c : (pi l i).At < 0 ∨ (pi l i).At > v ∨ (pi l i).V < 0 ∨ (pi l i).V > 68719476736) : ptE v l i = 2 := by rw [ptE_eq, if_pos h, if_pos c]
theorem pt_ord {v : Int} {l : List Knot} {i : Nat} (h : i < l.length) (c : ¬ ((pi l i).At < 0 ∨ (pi l i).At > v ∨ (pi l i).V < 0 ∨ (pi l i).V > 68719476736)) (d : 0 < i ∧ (pi l i).At ≤ (pi l ((i : Int) - 1)).At) : ptE v l i = 11 := by rw [ptE_eq, if_pos h, if_neg c, if_pos d]
theorem pt_go {v : Int} {l : List Knot} {i : Nat} (h : i < l.length) (c : ¬ ((pi l i).At < 0 ∨ (pi l i).At > v ∨ (pi l i).V < 0 ∨ (pi l i).V > 68719476736)) (d : ¬ (0 < i ∧ (pi l i).At ≤ (pi l ((i : Int) - 1)).At)) : ptE v l i = ptE v l (i + 1) := by rw [ptE_eq, if_pos h, if_neg c, if_neg d]
theorem pt_end {v : Int} {l : List Knot} {i : Nat} (h : ¬ i < l.length) : ptE v l i = 0 := by rw [ptE_eq, if_neg h]
noncomputable def o15 (v : Int) (l : List Knot) (n : Int) (i : Int) (h : List Seg) (a : Int) (k : List Knot) (b : Int) (c : Int) (d : Int) : Tree (Ex × List (V T)) := .req ((l = k ∧ n = k.length ∧ k.length ≤ 8) ∧ 0 ≤ i) (.br (ptE v k i.toNat == 0) (.leaf (.exit 0, [.n v, .l 94 h, .n a, .l 55 k, .n b, .n c, .n d])) (.leaf (.ret, [.n (ptE v k i.toNat)])))
noncomputable def c15 : LoopC T := ⟨[.n, .l 55, .n, .n, .l 94, .n, .l 55, .n, .n, .n], ⟨75, [(1, .one (.o 0 0)), (4, .one (.i .i64)), (25, .one (.s 55)), (26, .one (.i .i64)), (27, .one (.i .i64))], [.c [.s 94, .i .i64, .s 55, .i .i64, .i .i64, .i .i64]]⟩, fun e => match e with
    | .ret => ⟨75, [(2, .one (.i .i64))], []⟩
    | _ => ⟨75, [(1, .one (.o 0 0)), (4, .one (.i .i64))], [.c [.s 94, .i .i64, .s 55, .i .i64, .i .i64, .i .i64]]⟩, 30, fun d => o15 d.1 d.2.1 d.2.2.1 d.2.2.2.1 d.2.2.2.2.1 d.2.2.2.2.2.1 d.2.2.2.2.2.2.1 d.2.2.2.2.2.2.2.1 d.2.2.2.2.2.2.2.2.1 d.2.2.2.2.2.2.2.2.2.1⟩
theorem b15 (v : Int) (l : List Knot) (n : Int) (i : Int) (h : List Seg) (a : Int) (k : List Knot) (b : Int) (c : Int) (d : Int) : bodyD Try.prog E c15 0 (bodyX Try.prog E ctO noLoops 1000 5 L0 (lpOf Try.prog 15 0)) (v, l, n, i, h, a, k, b, c, d, ()) =
  (.br (decide (i < n))
   (.req ((decide ((0 : Int) ≤ i) && decide (i < (↑(List.length l) : Int))) = true)
   (.br (!within (Knot.At (pi l i)) (0 : Int) v)
    (.leaf (.inr (.ret, [.n ((2 : Int))])))
    (.br (!within (Knot.V (pi l i)) (0 : Int) (68719476736 : Int))
     (.leaf (.inr (.ret, [.n ((2 : Int))])))
     (.br (decide (i > (0 : Int)))
      (.req ((decide ((0 : Int) ≤ IntKind.wrap IntKind.i64 (i - (1 : Int))) && decide (IntKind.wrap IntKind.i64 (i - (1 : Int)) < (↑(List.length k) : Int))) = true)
      (.br (decide (Knot.At (pi l i) ≤ Knot.At (pi k (IntKind.wrap IntKind.i64 (i - (1 : Int))))))
       (.leaf (.inr (.ret, [.n ((11 : Int))])))
       (.leaf (.inl (v, (l, (n, (IntKind.wrap IntKind.i64 (i + (1 : Int)), (h, (a, (k, (b, (c, (d, ()))))))))))))))
      (.leaf (.inl (v, (l, (n, (IntKind.wrap IntKind.i64 (i + (1 : Int)), (h, (a, (k, (b, (c, (d, ()))))))))))))))))
   (.leaf (.inr (.exit (0 : Nat), [.n (v), .l (94 : Nat) (h), .n (a), .l (55 : Nat) (k), .n (b), .n (c), .n (d)])))) := by kernel_rfl
noncomputable def o16 (v : Int) (i : Int) (h : List Seg) (a : Int) (k : List Knot) (b : Int) (c : Int) (d : Int) : Tree (Ex × List (V T)) := .req (0 ≤ i ∧ k.length ≤ 8) (.br (ptE v k i.toNat == 0) (.leaf (.exit 0, [.n v, .l 94 h, .n a, .l 55 k, .n b, .n c, .n d])) (.leaf (.ret, [.n (ptE v k i.toNat)])))
noncomputable def c16 : LoopC T := ⟨[.n, .n, .l 94, .n, .l 55, .n, .n, .n], ⟨102, [(1, .one (.o 0 0)), (4, .one (.i .i64)), (5, .one (.i .i64))], [.c [.s 94, .i .i64, .s 55, .i .i64, .i .i64, .i .i64]]⟩, fun e => match e with
    | .ret => ⟨102, [(2, .one (.i .i64))], []⟩
    | _ => ⟨102, [(1, .one (.o 0 0)), (4, .one (.i .i64))], [.c [.s 94, .i .i64, .s 55, .i .i64, .i .i64, .i .i64]]⟩, 30, fun d => o16 d.1 d.2.1 d.2.2.1 d.2.2.2.1 d.2.2.2.2.1 d.2.2.2.2.2.1 d.2.2.2.2.2.2.1 d.2.2.2.2.2.2.2.1⟩
theorem b16 (v : Int) (i : Int) (h : List Seg) (a : Int) (k : List Knot) (b : Int) (c : Int) (d : Int) : bodyD Try.prog E c16 0 (bodyX Try.prog E ctO noLoops 1000 5 L0 (lpOf Try.prog 16 0)) (v, i, h, a, k, b, c, d, ()) =
  (.br (decide (i < (↑(List.length k) : Int)))
   (.req ((decide ((0 : Int) ≤ i) && decide (i < (↑(List.length k) : Int))) = true)
   (.br (decide (Knot.At (pi k i) < (0 : Int)))
    (.leaf (.inr (.ret, [.n ((2 : Int))])))
    (.br (decide (Knot.At (pi k i) > v))
     (.leaf (.inr (.ret, [.n ((2 : Int))])))
     (.br (decide (Knot.V (pi k i) < (0 : Int)))
      (.leaf (.inr (.ret, [.n ((2 : Int))])))
      (.br (decide (Knot.V (pi k i) > (68719476736 : Int)))
       (.leaf (.inr (.ret, [.n ((2 : Int))])))
       (.br (decide (i > (0 : Int)))
        (.req ((decide ((0 : Int) ≤ IntKind.wrap IntKind.i64 (i - (1 : Int))) && decide (IntKind.wrap IntKind.i64 (i - (1 : Int)) < (↑(List.length k) : Int))) = true)
        (.br (decide (Knot.At (pi k i) ≤ Knot.At (pi k (IntKind.wrap IntKind.i64 (i - (1 : Int))))))
         (.leaf (.inr (.ret, [.n ((11 : Int))])))
         (.leaf (.inl (v, (IntKind.wrap IntKind.i64 (i + (1 : Int)), (h, (a, (k, (b, (c, (d, ()))))))))))))
        (.leaf (.inl (v, (IntKind.wrap IntKind.i64 (i + (1 : Int)), (h, (a, (k, (b, (c, (d, ()))))))))))))))))
   (.leaf (.inr (.exit (0 : Nat), [.n (v), .l (94 : Nat) (h), .n (a), .l (55 : Nat) (k), .n (b), .n (c), .n (d)])))) := by kernel_rfl
theorem n15 (v : Int) (l : List Knot) (n : Int) (i : Int) (h : List Seg) (a : Int) (k : List Knot) (b : Int) (c : Int) (d : Int) (K : Ex × List (V T) → Prop) (hI : (l = k ∧ n = k.length ∧ k.length ≤ 8) ∧ 0 ≤ i) (hK : (.br (ptE v k i.toNat == 0) (.leaf (.exit 0, [.n v, .l 94 h, .n a, .l 55 k, .n b, .n c, .n d])) (.leaf (.ret, [.n (ptE v k i.toNat)])) : Tree (Ex × List (V T))).holds K) : (c15.out (v, l, n, i, h, a, k, b, c, d, ())).holds K := ⟨hI, hK⟩
theorem h15' (v : Int) (l : List Knot) (n : Int) (i : Int) (h : List Seg) (a : Int) (k : List Knot) (b : Int) (c : Int) (d : Int) (K : Ex × List (V T) → Prop) (hI : (l = k ∧ n = k.length ∧ k.length ≤ 8) ∧ 0 ≤ i) (hK : (.br (ptE v k i.toNat == 0) (.leaf (.exit 0, [.n v, .l 94 h, .n a, .l 55 k, .n b, .n c, .n d])) (.leaf (.ret, [.n (ptE v k i.toNat)])) : Tree (Ex × List (V T))).holds K) :
    (bodyD Try.prog E c15 0 (bodyX Try.prog E ctO noLoops 1000 5 L0 (lpOf Try.prog 15 0)) (v, l, n, i, h, a, k, b, c, d, ())).holds fun y => match y with
    | .inl d => ((d.2.2.1 : Int) - d.2.2.2.1).toNat < ((n : Int) - i).toNat ∧ (c15.out d).holds K
    | .inr y => K y := by
  rw [b15]
  obtain ⟨⟨rfl, rfl, hl⟩, h0⟩ := hI
  obtain ⟨q, rfl⟩ := Int.eq_ofNat_of_zero_le h0
  rw [Int.toNat_natCast] at hK
  have ret : ∀ e : Int, ptE v l q = e → e ≠ 0 → K (.ret, [.n e]) := fun e he h0 => by
    have := hK.2 (by rw [he]; exact beq_eq_false_iff_ne.2 h0)
    rw [he] at this
    exact this
  refine way (fun c1 => wayC h0 c1 fun _ _ => wayB (fun k1 => ?_) fun k1 => wayB (fun k2 => ?_) fun k2 => ?_) fun c1 => hK.1 (by rw [pt_end (by omega)]; rfl)
  · have k1 : ¬ (0 ≤ (pi l (q : Int)).At ∧ (pi l (q : Int)).At ≤ v) := fun w => by have : within (pi l (q : Int)).At 0 v = true := decide_eq_true w; rw [this] at k1; cases k1
    exact ret 2 (pt_bad (by omega) (by omega)) (by decide)
  · have k2 : ¬ (0 ≤ (pi l (q : Int)).V ∧ (pi l (q : Int)).V ≤ 68719476736) := fun w => by have : within (pi l (q : Int)).V 0 68719476736 = true := decide_eq_true w; rw [this] at k2; cases k2
    exact ret 2 (pt_bad (by omega) (by omega)) (by decide)
  · have k1 : within (pi l (q : Int)).At 0 v = true := by simpa using k1
    have k2 : within (pi l (q : Int)).V 0 68719476736 = true := by simpa using k2
    have k1 : 0 ≤ (pi l (q : Int)).At ∧ (pi l (q : Int)).At ≤ v := of_decide_eq_true k1
    have k2 : 0 ≤ (pi l (q : Int)).V ∧ (pi l (q : Int)).V ≤ 68719476736 := of_decide_eq_true k2
    have e1 : IntKind.wrap IntKind.i64 ((q : Int) + 1) = ((q + 1 : Nat) : Int) := i64_in' (by omega) (by omega)
    have g2 : ((l.length : Int) - ((q + 1 : Nat) : Int)).toNat < ((l.length : Int) - (q : Int)).toNat := by omega
    have next : ¬ (0 < q ∧ (pi l (q : Int)).At ≤ (pi l ((q : Int) - 1)).At) → ((l.length : Int) - ((q + 1 : Nat) : Int)).toNat < ((l.length : Int) - (q : Int)).toNat ∧ (c15.out (v, l, (l.length : Int), ((q + 1 : Nat) : Int), h, a, l, b, c, d, ())).holds K := fun w => by
      refine ⟨g2, n15 _ _ _ _ _ _ _ _ _ _ K ⟨⟨rfl, rfl, hl⟩, by omega⟩ ?_⟩
      rw [Int.toNat_natCast, ← pt_go (by omega) (by omega) w]
      exact hK
    rw [e1]
    refine way (fun c2 => ?_) fun c2 => next (by omega)
    have e2 : IntKind.wrap IntKind.i64 ((q : Int) - 1) = (q : Int) - 1 := i64_in' (by omega) (by omega)
    rw [e2]
    refine wayC (by omega) (by omega) fun _ _ => way (fun c3 => ?_) fun c3 => next (fun w => c3 w.2)
    exact ret 11 (pt_ord (by omega) (by omega) ⟨by omega, c3⟩) (by decide)
theorem h15 : LoopH Try.prog E c15 0 (bodyX Try.prog E ctO noLoops 1000 5 L0 (lpOf Try.prog 15 0)) :=
  ⟨fun d => ((d.2.2.1 : Int) - d.2.2.2.1).toNat, fun dd K hK => by
    obtain ⟨v, l, n, i, h, a, k, b, c, d, ⟨⟩⟩ := dd
    obtain ⟨hI, hK⟩ := hK
    refine Tree.holds_mono (fun y hy => ?_) (h15' v l n i h a k b c d K hI hK)
    cases y with
    | inl d' => exact hy
    | inr y => exact hy⟩
theorem ll15 : LLOk Try.prog E (llOfN Try.prog E 15 0 [(10, c15)]) := llOfN_ok fun i hi c hc => by
  have hi : i < 1 := hi
  obtain rfl : i = 0 := by omega
  obtain rfl : c15 = c := Option.some.inj hc
  exact LSndN.mk good names mixes ctO_ok (by decide) h15
theorem n16 (v : Int) (i : Int) (h : List Seg) (a : Int) (k : List Knot) (b : Int) (c : Int) (d : Int) (K : Ex × List (V T) → Prop) (hI : 0 ≤ i ∧ k.length ≤ 8) (hK : (.br (ptE v k i.toNat == 0) (.leaf (.exit 0, [.n v, .l 94 h, .n a, .l 55 k, .n b, .n c, .n d])) (.leaf (.ret, [.n (ptE v k i.toNat)])) : Tree (Ex × List (V T))).holds K) : (c16.out (v, i, h, a, k, b, c, d, ())).holds K := ⟨hI, hK⟩
theorem h16' (v : Int) (i : Int) (h : List Seg) (a : Int) (k : List Knot) (b : Int) (c : Int) (d : Int) (K : Ex × List (V T) → Prop) (hI : 0 ≤ i ∧ k.length ≤ 8) (hK : (.br (ptE v k i.toNat == 0) (.leaf (.exit 0, [.n v, .l 94 h, .n a, .l 55 k, .n b, .n c, .n d])) (.leaf (.ret, [.n (ptE v k i.toNat)])) : Tree (Ex × List (V T))).holds K) :
    (bodyD Try.prog E c16 0 (bodyX Try.prog E ctO noLoops 1000 5 L0 (lpOf Try.prog 16 0)) (v, i, h, a, k, b, c, d, ())).holds fun y => match y with
    | .inl d => ((d.2.2.2.2.1.length : Int) - d.2.1).toNat < ((k.length : Int) - i).toNat ∧ (c16.out d).holds K
    | .inr y => K y := by
  rw [b16]
  obtain ⟨h0, hl⟩ := hI
  obtain ⟨q, rfl⟩ := Int.eq_ofNat_of_zero_le h0
  rw [Int.toNat_natCast] at hK
  have ret : ∀ e : Int, ptE v k q = e → e ≠ 0 → K (.ret, [.n e]) := fun e he h0 => by
    have := hK.2 (by rw [he]; exact beq_eq_false_iff_ne.2 h0)
    rw [he] at this
    exact this
  have e1 : (q : Int) < (k.length : Int) → IntKind.wrap IntKind.i64 ((q : Int) + 1) = ((q + 1 : Nat) : Int) := fun _ => i64_in' (by omega) (by omega)
  refine way (fun c1 => wayC h0 c1 fun _ _ => way (fun k1 => ?_) fun k1 => way (fun k2 => ?_) fun k2 => way (fun k3 => ?_) fun k3 => way (fun k4 => ?_) fun k4 => ?_) fun c1 => hK.1 (by rw [pt_end (by omega)]; rfl)
  · exact ret 2 (pt_bad (by omega) (by omega)) (by decide)
  · exact ret 2 (pt_bad (by omega) (by omega)) (by decide)
  · exact ret 2 (pt_bad (by omega) (by omega)) (by decide)
  · exact ret 2 (pt_bad (by omega) (by omega)) (by decide)
  · have g2 : ((k.length : Int) - ((q + 1 : Nat) : Int)).toNat < ((k.length : Int) - (q : Int)).toNat := by omega
    have next : ¬ (0 < q ∧ (pi k (q : Int)).At ≤ (pi k ((q : Int) - 1)).At) → ((k.length : Int) - ((q + 1 : Nat) : Int)).toNat < ((k.length : Int) - (q : Int)).toNat ∧ (c16.out (v, ((q + 1 : Nat) : Int), h, a, k, b, c, d, ())).holds K := fun w => by
      refine ⟨g2, n16 _ _ _ _ _ _ _ _ K ⟨by omega, hl⟩ ?_⟩
      rw [Int.toNat_natCast, ← pt_go (by omega) (by omega) w]
      exact hK
    rw [e1 c1]
    refine way (fun c2 => ?_) fun c2 => next (by omega)
    have e2 : IntKind.wrap IntKind.i64 ((q : Int) - 1) = (q : Int) - 1 := i64_in' (by omega) (by omega)
    rw [e2]
    refine wayC (by omega) (by omega) fun _ _ => way (fun c3 => ?_) fun c3 => next (fun w => c3 w.2)
    exact ret 11 (pt_ord (by omega) (by omega) ⟨by omega, c3⟩) (by decide)
theorem h16 : LoopH Try.prog E c16 0 (bodyX Try.prog E ctO noLoops 1000 5 L0 (lpOf Try.prog 16 0)) :=
  ⟨fun d => ((d.2.2.2.2.1.length : Int) - d.2.1).toNat, fun dd K hK => by
    obtain ⟨v, i, h, a, k, b, c, d, ⟨⟩⟩ := dd
    obtain ⟨hI, hK⟩ := hK
    refine Tree.holds_mono (fun y hy => ?_) (h16' v i h a k b c d K hI hK)
    cases y with
    | inl d' => exact hy
    | inr y => exact hy⟩
theorem ll16 : LLOk Try.prog E (llOfN Try.prog E 16 0 [(10, c16)]) := llOfN_ok fun i hi c hc => by
  have hi : i < 1 := hi
  obtain rfl : i = 0 := by omega
  obtain rfl : c16 = c := Option.some.inj hc
  exact LSndN.mk good names mixes ctO_ok (by decide) h16
theorem tv15 (h : List Seg) (k : List Knot) (a b c d : Int) : runX ctO (llOfN Try.prog E 15 0 [(10, c15)]) 15 [.agg [.sl 94 h false, i64 a, .sl 55 k false, i64 b, i64 c, i64 d]] [34] =
  (.req (inLg h)
  (.br (hE h != (0 : Int))
   (.leaf (.sym .i64 (hE h)))
   (.br (!within a (0 : Int) (40000 : Int))
    (.leaf (.sym .i64 ((2 : Int))))
    (.br (decide ((↑(List.length k) : Int) > (8 : Int)))
     (.leaf (.sym .i64 ((8 : Int))))
     (.req (inLg h)
     (.req ((k = k ∧ (↑(List.length k) : Int) = (↑(List.length k) : Int) ∧ List.length k ≤ (8 : Nat)) ∧ (0 : Int) ≤ (0 : Int))
     (.br (ptE (vol h) k (Int.toNat (0 : Int)) == (0 : Int))
      (.br (!within b (0 : Int) (68719476736 : Int))
       (.leaf (.sym .i64 ((2 : Int))))
       (.br (!within c (0 : Int) (1099511627776 : Int))
        (.leaf (.sym .i64 ((2 : Int))))
        (.br (!within d (1 : Int) (vol h))
         (.leaf (.sym .i64 ((2 : Int))))
         (.leaf (.sym .i64 ((0 : Int)))))))
      (.leaf (.sym .i64 (ptE (vol h) k (Int.toNat (0 : Int)))))))))))) := by kernel_rfl
theorem tv16 (h : List Seg) (k : List Knot) (a b c d : Int) : runX ctO (llOfN Try.prog E 16 0 [(10, c16)]) 16 [.agg [.sl 94 h false, i64 a, .sl 55 k false, i64 b, i64 c, i64 d]] [34] =
  (.req (inLg h)
  (.br (hE h != (0 : Int))
   (.leaf (.sym .i64 (hE h)))
   (.br (decide (a < (0 : Int)))
    (.leaf (.sym .i64 ((2 : Int))))
    (.br (decide (a > (40000 : Int)))
     (.leaf (.sym .i64 ((2 : Int))))
     (.br (decide ((↑(List.length k) : Int) > (8 : Int)))
      (.leaf (.sym .i64 ((8 : Int))))
      (.req (inLg h)
      (.req ((0 : Int) ≤ (0 : Int) ∧ List.length k ≤ (8 : Nat))
      (.br (ptE (vol h) k (Int.toNat (0 : Int)) == (0 : Int))
       (.br (decide (b < (0 : Int)))
        (.leaf (.sym .i64 ((2 : Int))))
        (.br (decide (b > (68719476736 : Int)))
         (.leaf (.sym .i64 ((2 : Int))))
         (.br (decide (c < (0 : Int)))
          (.leaf (.sym .i64 ((2 : Int))))
          (.br (decide (c > (1099511627776 : Int)))
           (.leaf (.sym .i64 ((2 : Int))))
           (.br (decide (d < (1 : Int)))
            (.leaf (.sym .i64 ((2 : Int))))
            (.br (decide (d > vol h))
             (.leaf (.sym .i64 ((2 : Int))))
             (.leaf (.sym .i64 ((0 : Int))))))))))
       (.leaf (.sym .i64 (ptE (vol h) k (Int.toNat (0 : Int))))))))))))) := by kernel_rfl
theorem tv17 (x y z w : Int) : runX ctO noLoops 17 [.agg [i64 x, i64 y, i64 z, i64 w]] [34] =
  (.br (x == (1 : Int))
   (.br (!within y (0 : Int) (40000 : Int))
    (.leaf (.sym .i64 ((2 : Int))))
    (.br (!within z (0 : Int) (17179869184 : Int))
     (.leaf (.sym .i64 ((2 : Int))))
     (.br (!within w (0 : Int) (17179869184 : Int))
      (.leaf (.sym .i64 ((2 : Int))))
      (.leaf (.sym .i64 ((0 : Int)))))))
   (.br (x == (2 : Int))
    (.br (!within y (0 : Int) (40000 : Int))
     (.leaf (.sym .i64 ((2 : Int))))
     (.br (!within z (0 : Int) (17179869184 : Int))
      (.leaf (.sym .i64 ((2 : Int))))
      (.br (!within w (0 : Int) (17179869184 : Int))
       (.leaf (.sym .i64 ((2 : Int))))
       (.leaf (.sym .i64 ((0 : Int)))))))
    (.br (x == (3 : Int))
     (.br (!within y (0 : Int) (40000 : Int))
      (.leaf (.sym .i64 ((2 : Int))))
      (.br (!within z (0 : Int) (17179869184 : Int))
       (.leaf (.sym .i64 ((2 : Int))))
       (.br (!within w (0 : Int) (17179869184 : Int))
        (.leaf (.sym .i64 ((2 : Int))))
        (.leaf (.sym .i64 ((0 : Int)))))))
     (.leaf (.sym .i64 ((4 : Int))))))) := by kernel_rfl
theorem tv18 (x y z w : Int) : runX ctO noLoops 18 [.agg [i64 x, i64 y, i64 z, i64 w]] [34] =
  (.br (decide (x < (1 : Int)))
   (.leaf (.sym .i64 ((4 : Int))))
   (.br (decide (x > (3 : Int)))
    (.leaf (.sym .i64 ((4 : Int))))
    (.br (decide (y < (0 : Int)))
     (.leaf (.sym .i64 ((2 : Int))))
     (.br (decide (y > (40000 : Int)))
      (.leaf (.sym .i64 ((2 : Int))))
      (.br (decide (z < (0 : Int)))
       (.leaf (.sym .i64 ((2 : Int))))
       (.br (decide (z > (17179869184 : Int)))
        (.leaf (.sym .i64 ((2 : Int))))
        (.br (decide (w < (0 : Int)))
         (.leaf (.sym .i64 ((2 : Int))))
         (.br (decide (w > (17179869184 : Int)))
          (.leaf (.sym .i64 ((2 : Int))))
          (.leaf (.sym .i64 ((0 : Int)))))))))))) := by kernel_rfl
theorem tv19 (p q : Int) : runX ctO noLoops 19 [.agg [i64 p, i64 q]] [34] =
  (.br (!within p (1 : Int) (16777216 : Int))
   (.leaf (.sym .i64 ((2 : Int))))
   (.br (!within q (1 : Int) (17179869184 : Int))
    (.leaf (.sym .i64 ((2 : Int))))
    (.leaf (.sym .i64 ((0 : Int)))))) := by kernel_rfl
theorem tv20k (p q : Int) : runX ctO noLoops 20 [.agg [i64 p, i64 q]] [34] =
  (.br (decide (p < (1 : Int)))
   (.leaf (.sym .i64 ((2 : Int))))
   (.br (decide (p > (16777216 : Int)))
    (.leaf (.sym .i64 ((2 : Int))))
    (.br (decide (q < (1 : Int)))
     (.leaf (.sym .i64 ((2 : Int))))
     (.br (decide (q > (17179869184 : Int)))
      (.leaf (.sym .i64 ((2 : Int))))
      (.leaf (.sym .i64 ((0 : Int)))))))) := by kernel_rfl
noncomputable def wlE (h : List Seg) (k : List Knot) (a b c d : Int) : Int := if hE h = 0 then (if 0 ≤ a ∧ a ≤ 40000 then (if (k.length : Int) > 8 then 8 else (if ptE (vol h) k 0 = 0 then (if (0 ≤ b ∧ b ≤ 68719476736) ∧ (0 ≤ c ∧ c ≤ 1099511627776) ∧ 1 ≤ d ∧ d ≤ vol h then 0 else 2) else ptE (vol h) k 0)) else 2) else hE h
noncomputable def pgE (x y z w : Int) : Int := if 1 ≤ x ∧ x ≤ 3 then (if (0 ≤ y ∧ y ≤ 40000) ∧ (0 ≤ z ∧ z ≤ 17179869184) ∧ 0 ≤ w ∧ w ≤ 17179869184 then 0 else 2) else 4
noncomputable def kkE (p q : Int) : Int := if (1 ≤ p ∧ p ≤ 16777216) ∧ 1 ≤ q ∧ q ≤ 17179869184 then 0 else 2
theorem iv {x y : Int} (h : y = x) : (i64 x : AV T) = i64 y := by rw [h]
theorem win_no {n a b : Int} (k : (!within n a b) = true) : ¬ (a ≤ n ∧ n ≤ b) := fun w => by
  have : within n a b = true := decide_eq_true w
  rw [this] at k
  cases k
theorem win_yes {n a b : Int} (k : (!within n a b) = false) : a ≤ n ∧ n ≤ b := by
  have : within n a b = true := by simpa using k
  exact of_decide_eq_true this
theorem s15 (h : List Seg) (k : List Knot) (a b c d : Int) (hL : inLg h) : (runX ctO (llOfN Try.prog E 15 0 [(10, c15)]) 15 [.agg [.sl 94 h false, i64 a, .sl 55 k false, i64 b, i64 c, i64 d]] [34]).holds fun v => v = i64 (wlE h k a b c d) := by
  rw [tv15]
  refine ⟨hL, wayNe (fun c0 => iv (by unfold wlE; rw [if_neg c0])) fun c0 => wayB (fun k1 => ?_) fun k1 => way (fun c2 => ?_) fun c2 => ⟨hL, ⟨⟨rfl, rfl, by omega⟩, by decide⟩, wayEq (fun c3 => ?_) fun c3 => ?_⟩⟩
  · exact iv (by unfold wlE; rw [if_pos c0, if_neg (win_no k1)])
  · exact iv (by unfold wlE; rw [if_pos c0, if_pos (win_yes k1), if_pos c2])
  · have base : wlE h k a b c d = if (0 ≤ b ∧ b ≤ 68719476736) ∧ (0 ≤ c ∧ c ≤ 1099511627776) ∧ 1 ≤ d ∧ d ≤ vol h then 0 else 2 := by unfold wlE; rw [if_pos c0, if_pos (win_yes k1), if_neg c2, if_pos (show ptE (vol h) k 0 = 0 from c3)]
    refine wayB (fun q => ?_) fun q => wayB (fun q2 => ?_) fun q2 => wayB (fun q3 => ?_) fun q3 => ?_
    · exact iv (by rw [base, if_neg (fun w => win_no q w.1)])
    · exact iv (by rw [base, if_neg (fun w => win_no q2 w.2.1)])
    · exact iv (by rw [base, if_neg (fun w => win_no q3 w.2.2)])
    · exact iv (by rw [base, if_pos ⟨win_yes q, win_yes q2, win_yes q3⟩])
  · exact iv (by unfold wlE; rw [if_pos c0, if_pos (win_yes k1), if_neg c2, if_neg (show ¬ ptE (vol h) k 0 = 0 from c3)]; rfl)
theorem s16 (h : List Seg) (k : List Knot) (a b c d : Int) (hL : inLg h) : (runX ctO (llOfN Try.prog E 16 0 [(10, c16)]) 16 [.agg [.sl 94 h false, i64 a, .sl 55 k false, i64 b, i64 c, i64 d]] [34]).holds fun v => v = i64 (wlE h k a b c d) := by
  rw [tv16]
  refine ⟨hL, wayNe (fun c0 => iv (by unfold wlE; rw [if_neg c0])) fun c0 => way (fun k1 => iv (by unfold wlE; rw [if_pos c0, if_neg (by omega)])) fun k1 => way (fun k2 => iv (by unfold wlE; rw [if_pos c0, if_neg (by omega)])) fun k2 => way (fun c2 => iv (by unfold wlE; rw [if_pos c0, if_pos ⟨by omega, by omega⟩, if_pos c2])) fun c2 => ⟨hL, ⟨by decide, by omega⟩, wayEq (fun c3 => ?_) fun c3 => iv (by unfold wlE; rw [if_pos c0, if_pos ⟨by omega, by omega⟩, if_neg c2, if_neg (show ¬ ptE (vol h) k 0 = 0 from c3)]; rfl)⟩⟩
  have base : wlE h k a b c d = if (0 ≤ b ∧ b ≤ 68719476736) ∧ (0 ≤ c ∧ c ≤ 1099511627776) ∧ 1 ≤ d ∧ d ≤ vol h then 0 else 2 := by unfold wlE; rw [if_pos c0, if_pos ⟨by omega, by omega⟩, if_neg c2, if_pos (show ptE (vol h) k 0 = 0 from c3)]
  refine way (fun q => ?_) fun q => way (fun q2 => ?_) fun q2 => way (fun q3 => ?_) fun q3 => way (fun q4 => ?_) fun q4 => way (fun q5 => ?_) fun q5 => way (fun q6 => ?_) fun q6 => ?_
  · exact iv (by rw [base, if_neg (by omega)])
  · exact iv (by rw [base, if_neg (by omega)])
  · exact iv (by rw [base, if_neg (by omega)])
  · exact iv (by rw [base, if_neg (by omega)])
  · exact iv (by rw [base, if_neg (by omega)])
  · exact iv (by rw [base, if_neg (by omega)])
  · exact iv (by rw [base, if_pos (by omega)])
theorem s17 (x y z w : Int) : (runX ctO noLoops 17 [.agg [i64 x, i64 y, i64 z, i64 w]] [34]).holds fun v => v = i64 (pgE x y z w) := by
  rw [tv17]
  have main : 1 ≤ x ∧ x ≤ 3 → (Tree.br (!within y (0 : Int) (40000 : Int)) (.leaf (.sym .i64 ((2 : Int)))) (.br (!within z (0 : Int) (17179869184 : Int)) (.leaf (.sym .i64 ((2 : Int)))) (.br (!within w (0 : Int) (17179869184 : Int)) (.leaf (.sym .i64 ((2 : Int)))) (.leaf (.sym .i64 ((0 : Int)))))) : Tree (AV T)).holds fun v => v = i64 (pgE x y z w) := fun hx => by
    have base : pgE x y z w = if (0 ≤ y ∧ y ≤ 40000) ∧ (0 ≤ z ∧ z ≤ 17179869184) ∧ 0 ≤ w ∧ w ≤ 17179869184 then 0 else 2 := by unfold pgE; rw [if_pos hx]
    refine wayB (fun q => ?_) fun q => wayB (fun q2 => ?_) fun q2 => wayB (fun q3 => ?_) fun q3 => ?_
    · exact iv (by rw [base, if_neg (fun w => win_no q w.1)])
    · exact iv (by rw [base, if_neg (fun w => win_no q2 w.2.1)])
    · exact iv (by rw [base, if_neg (fun w => win_no q3 w.2.2)])
    · exact iv (by rw [base, if_pos ⟨win_yes q, win_yes q2, win_yes q3⟩])
  refine wayEq (fun k => main (by omega)) fun k => wayEq (fun k2 => main (by omega)) fun k2 => wayEq (fun k3 => main (by omega)) fun k3 => ?_
  exact iv (by unfold pgE; rw [if_neg (by omega)])
theorem s18 (x y z w : Int) : (runX ctO noLoops 18 [.agg [i64 x, i64 y, i64 z, i64 w]] [34]).holds fun v => v = i64 (pgE x y z w) := by
  rw [tv18]
  refine way (fun q1 => iv (by unfold pgE; rw [if_neg (by omega)])) fun q1 => way (fun q2 => iv (by unfold pgE; rw [if_neg (by omega)])) fun q2 => ?_
  have base : pgE x y z w = if (0 ≤ y ∧ y ≤ 40000) ∧ (0 ≤ z ∧ z ≤ 17179869184) ∧ 0 ≤ w ∧ w ≤ 17179869184 then 0 else 2 := by unfold pgE; rw [if_pos (by omega)]
  refine way (fun q => iv (by rw [base, if_neg (by omega)])) fun q => way (fun q => iv (by rw [base, if_neg (by omega)])) fun q => way (fun q => iv (by rw [base, if_neg (by omega)])) fun q => way (fun q => iv (by rw [base, if_neg (by omega)])) fun q => way (fun q => iv (by rw [base, if_neg (by omega)])) fun q => way (fun q => iv (by rw [base, if_neg (by omega)])) fun q => iv (by rw [base, if_pos (by omega)])
theorem s19 (p q : Int) : (runX ctO noLoops 19 [.agg [i64 p, i64 q]] [34]).holds fun v => v = i64 (kkE p q) := by
  rw [tv19]
  refine wayB (fun k => iv (by unfold kkE; rw [if_neg (fun w => win_no k w.1)])) fun k => wayB (fun k2 => iv (by unfold kkE; rw [if_neg (fun w => win_no k2 w.2)])) fun k2 => iv (by unfold kkE; rw [if_pos ⟨win_yes k, win_yes k2⟩])
theorem s20k (p q : Int) : (runX ctO noLoops 20 [.agg [i64 p, i64 q]] [34]).holds fun v => v = i64 (kkE p q) := by
  rw [tv20k]
  refine way (fun k => iv (by unfold kkE; rw [if_neg (by omega)])) fun k => way (fun k => iv (by unfold kkE; rw [if_neg (by omega)])) fun k => way (fun k => iv (by unfold kkE; rw [if_neg (by omega)])) fun k => way (fun k => iv (by unfold kkE; rw [if_neg (by omega)])) fun k => iv (by unfold kkE; rw [if_pos (by omega)])
noncomputable def cWl : Con T := conP Try.prog [.agg [.s 94, .i .i64, .s 55, .i .i64, .i .i64, .i .i64]] [.l 94, .n, .l 55, .n, .n, .n] (fun d => inLg d.1) fun d => i64 (wlE d.1 d.2.2.1 d.2.1 d.2.2.2.1 d.2.2.2.2.1 d.2.2.2.2.2.1)
noncomputable def cPg : Con T := conV Try.prog [.agg [.i .i64, .i .i64, .i .i64, .i .i64]] [.n, .n, .n, .n] fun d => i64 (pgE d.1 d.2.1 d.2.2.1 d.2.2.2.1)
noncomputable def cKk : Con T := conV Try.prog [.agg [.i .i64, .i .i64]] [.n, .n] fun d => i64 (kkE d.1 d.2.1)
theorem wl_ok : ConOk Try.prog E 15 cWl := conP_ok fun d hd => fact_run ctO_ok ll15 (ts := [34]) rfl (s15 d.1 d.2.2.1 d.2.1 d.2.2.2.1 d.2.2.2.2.1 d.2.2.2.2.2.1 hd)
theorem wl2_ok : ConOk Try.prog E 16 cWl := conP_ok fun d hd => fact_run ctO_ok ll16 (ts := [34]) rfl (s16 d.1 d.2.2.1 d.2.1 d.2.2.2.1 d.2.2.2.2.1 d.2.2.2.2.2.1 hd)
theorem pg_ok : ConOk Try.prog E 17 cPg := conV_ok fun d => fact_run ctO_ok noLoops_ok (ts := [34]) rfl (s17 d.1 d.2.1 d.2.2.1 d.2.2.2.1)
theorem pg2_ok : ConOk Try.prog E 18 cPg := conV_ok fun d => fact_run ctO_ok noLoops_ok (ts := [34]) rfl (s18 d.1 d.2.1 d.2.2.1 d.2.2.2.1)
theorem kk_ok : ConOk Try.prog E 19 cKk := conV_ok fun d => fact_run ctO_ok noLoops_ok (ts := [34]) rfl (s19 d.1 d.2.1)
theorem kk2_ok : ConOk Try.prog E 20 cKk := conV_ok fun d => fact_run ctO_ok noLoops_ok (ts := [34]) rfl (s20k d.1 d.2.1)
noncomputable def ctP7 : CTab T := (15, cWl) :: (16, cWl) :: (17, cPg) :: (18, cPg) :: (19, cKk) :: (20, cKk) :: (14, cAwake) :: ctO
theorem ctP7_ok : CTabOk Try.prog E ctP7 := .cons wl_ok (.cons wl2_ok (.cons pg_ok (.cons pg2_ok (.cons kk_ok (.cons kk2_ok (.cons awake_ok ctO_ok))))))
theorem tvB (x y z w p q e : Int) : runX ctP7 noLoops 21 [.agg [i64 x, i64 y, i64 z, i64 w], .agg [i64 p, i64 q], i64 e] [2] =
  (.br (pgE x y z w != (0 : Int))
   (.leaf (.sym .i64 ((0 : Int))))
   (.br (kkE p q != (0 : Int))
    (.leaf (.sym .i64 ((0 : Int))))
    (.br (decide ((-1 : Int) ≤ e))
     (.br (!decide (e ≤ (1 : Int)))
      (.leaf (.sym .i64 ((0 : Int))))
      (.leaf (.sym .i64 (bif true then if IntKind.wrap IntKind.i64 (IntKind.wrap IntKind.i64 (q + z) + IntKind.wrap IntKind.i64 (e * w)) > (1 : Int) then IntKind.wrap IntKind.i64 (IntKind.wrap IntKind.i64 (q + z) + IntKind.wrap IntKind.i64 (e * w)) else (1 : Int) else if IntKind.wrap IntKind.i64 (IntKind.wrap IntKind.i64 (q + z) + IntKind.wrap IntKind.i64 (e * w)) < (1 : Int) then IntKind.wrap IntKind.i64 (IntKind.wrap IntKind.i64 (q + z) + IntKind.wrap IntKind.i64 (e * w)) else (1 : Int)))))
     (.leaf (.sym .i64 ((0 : Int))))))) := by kernel_rfl
theorem tv22k (x y z w p q e : Int) : runX ctP7 noLoops 22 [.agg [i64 x, i64 y, i64 z, i64 w], .agg [i64 p, i64 q], i64 e] [2] =
  (.br (pgE x y z w != (0 : Int))
   (.leaf (.sym .i64 ((0 : Int))))
   (.br (kkE p q != (0 : Int))
    (.leaf (.sym .i64 ((0 : Int))))
    (.br (decide (e < (-1 : Int)))
     (.leaf (.sym .i64 ((0 : Int))))
     (.br (decide (e > (1 : Int)))
      (.leaf (.sym .i64 ((0 : Int))))
      (.leaf (.sym .i64 (bif true then if IntKind.wrap IntKind.i64 (IntKind.wrap IntKind.i64 (q + z) + IntKind.wrap IntKind.i64 (e * w)) > (1 : Int) then IntKind.wrap IntKind.i64 (IntKind.wrap IntKind.i64 (q + z) + IntKind.wrap IntKind.i64 (e * w)) else (1 : Int) else if IntKind.wrap IntKind.i64 (IntKind.wrap IntKind.i64 (q + z) + IntKind.wrap IntKind.i64 (e * w)) < (1 : Int) then IntKind.wrap IntKind.i64 (IntKind.wrap IntKind.i64 (q + z) + IntKind.wrap IntKind.i64 (e * w)) else (1 : Int)))))))) := by kernel_rfl
noncomputable def btM (z w q e : Int) : Int := if IntKind.wrap IntKind.i64 (IntKind.wrap IntKind.i64 (q + z) + IntKind.wrap IntKind.i64 (e * w)) > 1 then IntKind.wrap IntKind.i64 (IntKind.wrap IntKind.i64 (q + z) + IntKind.wrap IntKind.i64 (e * w)) else 1
noncomputable def btV (x y z w p q e : Int) : Int := if pgE x y z w = 0 ∧ kkE p q = 0 ∧ -1 ≤ e ∧ e ≤ 1 then btM z w q e else 0
theorem sB (x y z w p q e : Int) : (runX ctP7 noLoops 21 [.agg [i64 x, i64 y, i64 z, i64 w], .agg [i64 p, i64 q], i64 e] [2]).holds fun v => v = i64 (btV x y z w p q e) := by
  rw [tvB]
  refine wayNe (fun c => iv (by unfold btV; rw [if_neg (fun k => c k.1)])) fun c => wayNe (fun c2 => iv (by unfold btV; rw [if_neg (fun k => c2 k.2.1)])) fun c2 => way (fun c3 => wayN (fun c4 => iv (by unfold btV; rw [if_neg (fun k => c4 k.2.2.2)])) fun c4 => iv (by unfold btV; rw [if_pos ⟨c, c2, c3, c4⟩]; rfl)) fun c3 => iv (by unfold btV; rw [if_neg (fun k => c3 k.2.2.1)])
theorem s22k (x y z w p q e : Int) : (runX ctP7 noLoops 22 [.agg [i64 x, i64 y, i64 z, i64 w], .agg [i64 p, i64 q], i64 e] [2]).holds fun v => v = i64 (btV x y z w p q e) := by
  rw [tv22k]
  refine wayNe (fun c => iv (by unfold btV; rw [if_neg (fun k => c k.1)])) fun c => wayNe (fun c2 => iv (by unfold btV; rw [if_neg (fun k => c2 k.2.1)])) fun c2 => way (fun c3 => iv (by unfold btV; rw [if_neg (fun k => absurd k.2.2.1 (by omega))])) fun c3 => way (fun c4 => iv (by unfold btV; rw [if_neg (fun k => absurd k.2.2.2 (by omega))])) fun c4 => iv (by unfold btV; rw [if_pos ⟨c, c2, by omega, by omega⟩]; rfl)
noncomputable def cBt : Con T := conV Try.prog [.agg [.i .i64, .i .i64, .i .i64, .i .i64], .agg [.i .i64, .i .i64], .one (.i .i64)] [.n, .n, .n, .n, .n, .n, .n] fun d => i64 (btV d.1 d.2.1 d.2.2.1 d.2.2.2.1 d.2.2.2.2.1 d.2.2.2.2.2.1 d.2.2.2.2.2.2.1)
theorem bt_ok : ConOk Try.prog E 21 cBt := conV_ok fun d => fact_run ctP7_ok noLoops_ok (ts := [2]) rfl (sB d.1 d.2.1 d.2.2.1 d.2.2.2.1 d.2.2.2.2.1 d.2.2.2.2.2.1 d.2.2.2.2.2.2.1)
theorem bt2_ok : ConOk Try.prog E 22 cBt := conV_ok fun d => fact_run ctP7_ok noLoops_ok (ts := [2]) rfl (s22k d.1 d.2.1 d.2.2.1 d.2.2.2.1 d.2.2.2.2.1 d.2.2.2.2.2.1 d.2.2.2.2.2.2.1)
noncomputable def ctB7 : CTab T := (21, cBt) :: (22, cBt) :: ctP7
theorem ctB7_ok : CTabOk Try.prog E ctB7 := .cons bt_ok (.cons bt2_ok ctP7_ok)
theorem tv3 (h : List Seg) (k : List Knot) (a b c d x y z w p q e : Int) : runX ctB7 noLoops 3 [.agg [.sl 94 h false, i64 a, .sl 55 k false, i64 b, i64 c, i64 d], .agg [i64 x, i64 y, i64 z, i64 w], .agg [i64 p, i64 q], i64 e] [4] =
  (.br (decide ((↑(List.length h) : Int) ≤ (18 : Int)))
   (.br (!decide ((↑(List.length k) : Int) ≤ (10 : Int)))
    (.leaf (.bool (true)))
    (.req (inLg h)
    (.req (inLg h)
    (.br (wlE h k a b c d == wlE h k a b c d)
     (.br (pgE x y z w == pgE x y z w)
      (.br (kkE p q == kkE p q)
       (.br (btV x y z w p q e == btV x y z w p q e)
        (.leaf (.bool (true)))
        (.leaf (.bool (false))))
       (.leaf (.bool (false))))
      (.leaf (.bool (false))))
     (.leaf (.bool (false)))))))
   (.leaf (.bool (true)))) := by kernel_rfl
theorem no_way {α : Type} {Q : α → Prop} {t : Tree α} {b : Bool} (h : b = true) (k : b = false) : t.holds Q := by rw [h] at k; cases k
theorem s3 (h : List Seg) (k : List Knot) (a b c d x y z w p q e : Int) (hL : inLg h) : (runX ctB7 noLoops 3 [.agg [.sl 94 h false, i64 a, .sl 55 k false, i64 b, i64 c, i64 d], .agg [i64 x, i64 y, i64 z, i64 w], .agg [i64 p, i64 q], i64 e] [4]).holds fun v => v = .bool true := by
  rw [tv3]
  have r : ∀ x : Int, (x == x) = true := fun x => beq_self_eq_true x
  rw [r, r, r, r]
  exact way (fun _ => wayN (fun _ => rfl) fun _ => ⟨hL, hL, wayB (fun _ => wayB (fun _ => wayB (fun _ => wayB (fun _ => rfl) (no_way rfl)) (no_way rfl)) (no_way rfl)) (no_way rfl)⟩) fun _ => rfl
theorem killChecks_proved : Rows.KillChecksSaid := killChecks_said fun w p k e hw _ _ _ => fact_run ctB7_ok noLoops_ok (ts := [4]) rfl (s3 w.Hole.Segs w.Points w.Weight w.Limit w.Pipe w.Step p.Kind p.Weight p.Margin p.Err k.Volume k.Pore e fun s hs => (hw.1.1.1 s hs).1.2)
end Go.Proofs.Ytkhpnackjmjcdaa.W.Hole
