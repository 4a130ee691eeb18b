/- CasingOnce: what is proven for a pressure is proven for a lesser one, and with a greater age; a test that did not hold, now, ends it. No condition. -/
import Derived.Test.YtcddppakogialaaP1
import Derived.Test.YtcddppakogialaaR
import Derived.Test.YtcddppakogialaaLCasingOnce
set_option linter.unusedVariables false
set_option maxRecDepth 100000
noncomputable section
namespace Go.Proofs.Ytcddppakogialaa.W
open Go Go.Cx Go.RowKit
noncomputable def ctO : CTab T := (49, cMod) :: ctPr
theorem ctO_ok : CTabOk Try.prog E ctO := .cons mod64_ok ctPr_ok
noncomputable def cl (now : Int) (t : Test) : Bool := t.Held || (t.Tick != now)
noncomputable def o16 (bd gd l : List Test) (need now age : Int) (c : Bool) (i : Int) : Tree (Ex × List (V T)) :=
  .req (0 ≤ i ∧ l.length ≤ 1000) (.leaf (.exit 0, [.l 70 bd, .l 70 gd, .n need, .n now, .n age, .t (c && (l.drop i.toNat).all (cl now))]))
noncomputable def c16 : LoopC T := ⟨[.l 70, .l 70, .l 70, .n, .n, .n, .t, .n], ⟨115, [(0, .one (.s 70)), (1, .one (.i .i64)), (3, .one (.i .i64)), (4, .one (.i .i64)), (13, .one (.g 0 70)), (14, .one (.g 1 70)), (15, .one (.b)), (16, .one (.i .i64))], [.l 70, .l 70]⟩,
  fun _ => ⟨115, [(1, .one (.i .i64)), (3, .one (.i .i64)), (4, .one (.i .i64)), (13, .one (.g 0 70)), (14, .one (.g 1 70)), (15, .one (.b))], [.l 70, .l 70]⟩, 10, fun d => o16 d.1 d.2.1 d.2.2.1 d.2.2.2.1 d.2.2.2.2.1 d.2.2.2.2.2.1 d.2.2.2.2.2.2.1 d.2.2.2.2.2.2.2.1⟩
theorem b16 (bd gd l : List Test) (need now age : Int) (c : Bool) (i : Int) : bodyD Try.prog E c16 0 (bodyX Try.prog E ctO noLoops 1000 5 L0 (lpOf Try.prog 16 0)) (bd, gd, l, need, now, age, c, i, ()) =
  (.br (decide (i < (↑(List.length l) : Int)))
   (.br (c)
    (.req ((decide ((0 : Int) ≤ i) && decide (i < (↑(List.length l) : Int))) = true)
    (.br (Test.Held (ti l i))
     (.req (List.length bd = List.length bd)
     (.req (List.length gd = List.length gd)
     (.leaf (.inl (bd, (gd, (l, (need, (now, (age, (true, (IntKind.wrap IntKind.i64 (i + (1 : Int)), ()))))))))))))
     (.req ((decide ((0 : Int) ≤ i) && decide (i < (↑(List.length l) : Int))) = true)
     (.req (List.length bd = List.length bd)
     (.req (List.length gd = List.length gd)
     (.leaf (.inl (bd, (gd, (l, (need, (now, (age, (Test.Tick (ti l i) != now, (IntKind.wrap IntKind.i64 (i + (1 : Int)), ())))))))))))))))
    (.req (List.length bd = List.length bd)
    (.req (List.length gd = List.length gd)
    (.leaf (.inl (bd, (gd, (l, (need, (now, (age, (false, (IntKind.wrap IntKind.i64 (i + (1 : Int)), ())))))))))))))
   (.req (List.length bd = List.length bd)
   (.req (List.length gd = List.length gd)
   (.leaf (.inr (.exit (0 : Nat), [.l (70 : Nat) (bd), .l (70 : Nat) (gd), .n (need), .n (now), .n (age), .t (c)])))))) := by kernel_rfl
theorem h16' (bd gd l : List Test) (need now age : Int) (b : Bool) (i : Nat) (K : Ex × List (V T) → Prop) (hl : l.length ≤ 1000) (hK : K (.exit 0, [.l 70 bd, .l 70 gd, .n need, .n now, .n age, .t (b && (l.drop i).all (cl now))])) :
    (bodyD Try.prog E c16 0 (bodyX Try.prog E ctO noLoops 1000 5 L0 (lpOf Try.prog 16 0)) (bd, gd, l, need, now, age, b, (i : Int), ())).holds fun y => match y with
    | .inl d => ((d.2.2.1.length : Int) - d.2.2.2.2.2.2.2.1).toNat < ((l.length : Int) - (i : Int)).toNat ∧ (c16.out d).holds K
    | .inr y => K y := by
  rw [b16]
  refine way (fun c => ?_) fun c => ?_
  · have e2 : IntKind.wrap IntKind.i64 ((i : Int) + 1) = ((i + 1 : Nat) : Int) := i64_in' (by omega) (by omega)
    rw [e2]
    rw [drop_ti (by omega), List.all_cons] at hK
    have hlt : ((l.length : Int) - ((i + 1 : Nat) : Int)).toNat < ((l.length : Int) - (i : Int)).toNat := by omega
    have h3 : (0 : Int) ≤ ((i + 1 : Nat) : Int) := by omega
    have next : ∀ q : Bool, (q && (l.drop (i + 1)).all (cl now)) = (b && (cl now (ti l i) && (l.drop (i + 1)).all (cl now))) → ((l.length : Int) - ((i + 1 : Nat) : Int)).toNat < ((l.length : Int) - (i : Int)).toNat ∧ (c16.out (bd, gd, l, need, now, age, q, ((i + 1 : Nat) : Int), ())).holds K := fun q e => by
      rw [← e] at hK
      exact ⟨hlt, ⟨h3, hl⟩, hK⟩
    refine wayB (fun k => wayC (by omega) c fun _ _ => wayB (fun k1 => ⟨rfl, rfl, next true ?_⟩) fun k1 => wayC (by omega) c fun _ _ => ⟨rfl, rfl, next _ ?_⟩) fun k => ⟨rfl, rfl, next false ?_⟩
    · unfold cl; rw [k, k1]; simp
    · unfold cl; rw [k, k1]; simp
    · rw [k]; rfl
  · rw [show l.drop i = [] from List.drop_eq_nil_of_le (by omega), List.all_nil, Bool.and_true] at hK
    exact ⟨rfl, rfl, hK⟩
theorem h16 : LoopH Try.prog E c16 0 (bodyX Try.prog E ctO noLoops 1000 5 L0 (lpOf Try.prog 16 0)) :=
  ⟨fun d => ((d.2.2.1.length : Int) - d.2.2.2.2.2.2.2.1).toNat, fun d K hK => by
    obtain ⟨bd, gd, l, need, now, age, b, i, ⟨⟩⟩ := d
    obtain ⟨⟨k1, k2⟩, k4⟩ := hK
    obtain ⟨q, hq⟩ := Int.eq_ofNat_of_zero_le k1
    obtain rfl : i = (q : Int) := hq
    refine Tree.holds_mono (fun y hy => ?_) (h16' bd gd l need now age b q K k2 k4)
    cases y with
    | inl d' => exact hy
    | inr y => exact hy⟩
theorem ll16 : LLOk Try.prog E (llOf Try.prog E 16 [(11, c16)]) := llOf_ok fun i hi c hc => by
  have hi : i < 1 := hi
  obtain rfl : i = 0 := by omega
  obtain rfl : c16 = c := Option.some.inj hc
  exact LSnd.mk good names mixes ctO_ok (by decide) h16
theorem t16 (l : List Test) (a b c d e : Int) : runX ctO (llOf Try.prog E 16 [(11, c16)]) 16 [.sl 70 l false, i64 a, i64 b, i64 c, i64 d, i64 e] [4] =
  (.br (decide ((↑(List.length l) : Int) > (20 : Int)))
   (.leaf (.bool (true)))
   (.req (mPre a (1099511627776 : Int))
   (.req (mPre b (1099511627776 : Int))
   (.req (mPre c (1099511627776 : Int))
   (.req (mPre d (1099511627776 : Int))
   (.req (mPre e (1099511627776 : Int))
   (.br (proven l (a % (1099511627776 : Int)) (c % (1099511627776 : Int)) (d % (1099511627776 : Int)))
    (.br (!proven l (IntKind.wrap IntKind.i64 (a % (1099511627776 : Int) - b % (1099511627776 : Int))) (c % (1099511627776 : Int)) (d % (1099511627776 : Int)))
     (.leaf (.bool (false)))
     (.br (!proven l (a % (1099511627776 : Int)) (c % (1099511627776 : Int)) (IntKind.wrap IntKind.i64 (d % (1099511627776 : Int) + e % (1099511627776 : Int))))
      (.leaf (.bool (false)))
      (.req ((0 : Nat) + List.length l ≤ (1073741824 : Nat))
      (.req (List.length ([] ++ l) = List.length ([] ++ l))
      (.req (List.length ([] ++ l) + List.length [Test.mk (a % (1099511627776 : Int)) false (c % (1099511627776 : Int))] ≤ (1073741824 : Nat))
      (.req ((0 : Nat) + List.length l ≤ (1073741824 : Nat))
      (.req (List.length ([] ++ l) = List.length ([] ++ l))
      (.req (List.length ([] ++ l) + List.length [Test.mk (a % (1099511627776 : Int)) true (c % (1099511627776 : Int))] ≤ (1073741824 : Nat))
      (.req (List.length ([] ++ l ++ [Test.mk (a % (1099511627776 : Int)) false (c % (1099511627776 : Int))]) = List.length ([] ++ l ++ [Test.mk (a % (1099511627776 : Int)) false (c % (1099511627776 : Int))]))
      (.req (List.length ([] ++ l ++ [Test.mk (a % (1099511627776 : Int)) true (c % (1099511627776 : Int))]) = List.length ([] ++ l ++ [Test.mk (a % (1099511627776 : Int)) true (c % (1099511627776 : Int))]))
      (.req ((0 : Int) ≤ (0 : Int) ∧ List.length l ≤ (1000 : Nat))
      (.req (List.length ([] ++ l ++ [Test.mk (a % (1099511627776 : Int)) false (c % (1099511627776 : Int))]) = List.length ([] ++ l ++ [Test.mk (a % (1099511627776 : Int)) false (c % (1099511627776 : Int))]))
      (.br (!proven ([] ++ l ++ [Test.mk (a % (1099511627776 : Int)) false (c % (1099511627776 : Int))]) (a % (1099511627776 : Int)) (c % (1099511627776 : Int)) (d % (1099511627776 : Int)))
       (.br (!(true && List.all (List.drop (Int.toNat (0 : Int)) l) (cl (c % (1099511627776 : Int)))))
        (.leaf (.bool (true)))
        (.req (List.length ([] ++ l ++ [Test.mk (a % (1099511627776 : Int)) true (c % (1099511627776 : Int))]) = List.length ([] ++ l ++ [Test.mk (a % (1099511627776 : Int)) true (c % (1099511627776 : Int))]))
        (.br (proven ([] ++ l ++ [Test.mk (a % (1099511627776 : Int)) true (c % (1099511627776 : Int))]) (a % (1099511627776 : Int)) (c % (1099511627776 : Int)) (d % (1099511627776 : Int)))
         (.leaf (.bool (true)))
         (.leaf (.bool (false))))))
       (.leaf (.bool (false))))))))))))))))
    (.req ((0 : Nat) + List.length l ≤ (1073741824 : Nat))
    (.req (List.length ([] ++ l) = List.length ([] ++ l))
    (.req (List.length ([] ++ l) + List.length [Test.mk (a % (1099511627776 : Int)) false (c % (1099511627776 : Int))] ≤ (1073741824 : Nat))
    (.req ((0 : Nat) + List.length l ≤ (1073741824 : Nat))
    (.req (List.length ([] ++ l) = List.length ([] ++ l))
    (.req (List.length ([] ++ l) + List.length [Test.mk (a % (1099511627776 : Int)) true (c % (1099511627776 : Int))] ≤ (1073741824 : Nat))
    (.req (List.length ([] ++ l ++ [Test.mk (a % (1099511627776 : Int)) false (c % (1099511627776 : Int))]) = List.length ([] ++ l ++ [Test.mk (a % (1099511627776 : Int)) false (c % (1099511627776 : Int))]))
    (.req (List.length ([] ++ l ++ [Test.mk (a % (1099511627776 : Int)) true (c % (1099511627776 : Int))]) = List.length ([] ++ l ++ [Test.mk (a % (1099511627776 : Int)) true (c % (1099511627776 : Int))]))
    (.req ((0 : Int) ≤ (0 : Int) ∧ List.length l ≤ (1000 : Nat))
    (.req (List.length ([] ++ l ++ [Test.mk (a % (1099511627776 : Int)) false (c % (1099511627776 : Int))]) = List.length ([] ++ l ++ [Test.mk (a % (1099511627776 : Int)) false (c % (1099511627776 : Int))]))
    (.br (!proven ([] ++ l ++ [Test.mk (a % (1099511627776 : Int)) false (c % (1099511627776 : Int))]) (a % (1099511627776 : Int)) (c % (1099511627776 : Int)) (d % (1099511627776 : Int)))
     (.br (!(true && List.all (List.drop (Int.toNat (0 : Int)) l) (cl (c % (1099511627776 : Int)))))
      (.leaf (.bool (true)))
      (.req (List.length ([] ++ l ++ [Test.mk (a % (1099511627776 : Int)) true (c % (1099511627776 : Int))]) = List.length ([] ++ l ++ [Test.mk (a % (1099511627776 : Int)) true (c % (1099511627776 : Int))]))
      (.br (proven ([] ++ l ++ [Test.mk (a % (1099511627776 : Int)) true (c % (1099511627776 : Int))]) (a % (1099511627776 : Int)) (c % (1099511627776 : Int)) (d % (1099511627776 : Int)))
       (.leaf (.bool (true)))
       (.leaf (.bool (false))))))
     (.leaf (.bool (false))))))))))))))))))))) := by kernel_rfl
theorem u64_in {n : Int} (h1 : 0 ≤ n) (h2 : n < 18446744073709551616) : IntKind.wrap IntKind.u64 n = n := by
  have : IntKind.wrap IntKind.u64 n = n % 18446744073709551616 := by
    rfl
  rw [this]
  omega
theorem proven_iff {l : List Test} {need now age : Int} : proven l need now age = true ↔ ((l.length : Int) ≤ 24 ∧ 0 ≤ age) ∧ ∃ t ∈ l, goodT now need age l t = true := by
  unfold proven
  rw [Bool.and_eq_true, decide_eq_true_eq, List.any_eq_true]
theorem goodT_iff {now need age : Int} {l : List Test} {t : Test} : goodT now need age l t = true ↔ t.Held = true ∧ t.P ≥ need ∧ (t.Tick ≤ now ∧ IntKind.wrap IntKind.u64 (IntKind.wrap IntKind.u64 now - IntKind.wrap IntKind.u64 t.Tick) ≤ IntKind.wrap IntKind.u64 age) ∧ ∀ x ∈ l, und t.Tick now x = false := by
  unfold goodT recent
  rw [Bool.and_eq_true, Bool.and_eq_true, Bool.and_eq_true, Bool.and_eq_true, decide_eq_true_eq, decide_eq_true_eq, decide_eq_true_eq, Bool.not_eq_true', List.any_eq_false]
  simp only [Bool.not_eq_true]
theorem pv_less {l : List Test} {need less now age : Int} (h0 : 0 ≤ less) (h : proven l need now age = true) : proven l (need - less) now age = true := by
  obtain ⟨h1, t, ht, hg⟩ := proven_iff.1 h
  obtain ⟨g1, g2, g3, g4⟩ := goodT_iff.1 hg
  exact proven_iff.2 ⟨h1, t, ht, goodT_iff.2 ⟨g1, by omega, g3, g4⟩⟩
theorem pv_more {l : List Test} {need now age more : Int} (h0 : 0 ≤ age ∧ age < 1099511627776) (h2 : 0 ≤ more ∧ more < 1099511627776) (h : proven l need now age = true) : proven l need now (age + more) = true := by
  obtain ⟨h1, t, ht, hg⟩ := proven_iff.1 h
  obtain ⟨g1, g2, g3, g4⟩ := goodT_iff.1 hg
  rw [u64_in (n := age) (by omega) (by omega)] at g3
  refine proven_iff.2 ⟨⟨h1.1, by omega⟩, t, ht, goodT_iff.2 ⟨g1, g2, ⟨g3.1, ?_⟩, g4⟩⟩
  rw [u64_in (n := age + more) (by omega) (by omega)]
  omega
theorem pv_bad {l : List Test} {need now age : Int} : proven ([] ++ l ++ [Test.mk need false now]) need now age = false := by
  cases h : proven ([] ++ l ++ [Test.mk need false now]) need now age with
  | false => rfl
  | true =>
    obtain ⟨h1, t, ht, hg⟩ := proven_iff.1 h
    obtain ⟨g1, g2, g3, g4⟩ := goodT_iff.1 hg
    have := g4 (Test.mk need false now) (by simp)
    unfold und at this
    simp at this
    omega
theorem pv_good {l : List Test} {need now age : Int} (hl : (l.length : Int) ≤ 20) (ha : 0 ≤ age ∧ age < 1099511627776) (hc : l.all (cl now) = true) : proven ([] ++ l ++ [Test.mk need true now]) need now age = true := by
  refine proven_iff.2 ⟨⟨?_, ha.1⟩, Test.mk need true now, by simp, goodT_iff.2 ⟨rfl, by show need ≥ need; omega, ⟨Int.le_refl _, ?_⟩, fun x hx => ?_⟩⟩
  · simp only [List.nil_append, List.length_append, List.length_cons, List.length_nil]; omega
  · show IntKind.wrap IntKind.u64 (IntKind.wrap IntKind.u64 now - IntKind.wrap IntKind.u64 now) ≤ _
    rw [Int.sub_self, u64_in (n := 0) (by omega) (by omega), u64_in (n := age) (by omega) (by omega)]
    exact ha.1
  · simp only [List.nil_append, List.mem_append, List.mem_singleton] at hx
    rcases hx with hx | rfl
    · have := List.all_eq_true.1 hc x hx
      unfold cl at this
      unfold und
      show (!x.Held && (decide (now ≤ x.Tick) && decide (x.Tick ≤ now))) = false
      cases hh : x.Held with
      | true => rfl
      | false =>
        rw [hh, Bool.false_or] at this
        have : x.Tick ≠ now := by simpa using this
        by_cases q : now ≤ x.Tick
        · rw [decide_eq_false (show ¬ x.Tick ≤ now by omega), Bool.and_false, Bool.and_false]
        · rw [decide_eq_false q, Bool.false_and, Bool.and_false]
    · rfl
theorem casingOnce_proved : Rows.CasingOnceSaid := casingOnce_said fun l a b c d e _ _ _ _ _ _ => fact_run ctO_ok ll16 (ts := [4]) rfl (by
  rw [t16]
  have ha : 0 ≤ a % 1099511627776 ∧ a % 1099511627776 < 1099511627776 := by omega
  have hb : 0 ≤ b % 1099511627776 ∧ b % 1099511627776 < 1099511627776 := by omega
  have hd : 0 ≤ d % 1099511627776 ∧ d % 1099511627776 < 1099511627776 := by omega
  have he : 0 ≤ e % 1099511627776 ∧ e % 1099511627776 < 1099511627776 := by omega
  have m : (0 : Int) < 1099511627776 ∧ (1099511627776 : Int) ≤ 4611686018427387904 := by decide
  generalize a % 1099511627776 = a at ha ⊢
  generalize b % 1099511627776 = b at hb ⊢
  generalize c % 1099511627776 = c
  generalize d % 1099511627776 = d at hd ⊢
  generalize e % 1099511627776 = e at he ⊢
  rw [show IntKind.wrap IntKind.i64 (a - b) = a - b from i64_in' (by omega) (by omega), show IntKind.wrap IntKind.i64 (d + e) = d + e from i64_in' (by omega) (by omega)]
  refine way (fun _ => rfl) fun hl => ⟨m, m, m, m, m, wayB (fun k => wayB (fun k1 => ?_) fun _ => wayB (fun k1 => ?_) fun _ => ?_) fun _ => ?_⟩
  · rw [pv_less hb.1 k] at k1; cases k1
  · rw [pv_more hd he k] at k1; cases k1
  all_goals
    refine ⟨by omega, rfl, ?_, by omega, rfl, ?_, rfl, rfl, ⟨by decide, by omega⟩, rfl, wayB (fun _ => wayB (fun _ => rfl) fun k2 => ⟨rfl, wayB (fun _ => rfl) fun k3 => ?_⟩) fun k2 => ?_⟩
    · simp only [List.nil_append, List.length_cons, List.length_nil]; omega
    · simp only [List.nil_append, List.length_cons, List.length_nil]; omega
    · have k2 : l.all (cl c) = true := by simpa using k2
      rw [pv_good (by omega) hd k2] at k3; cases k3
    · rw [pv_bad] at k2; cases k2)
end Go.Proofs.Ytcddppakogialaa.W
