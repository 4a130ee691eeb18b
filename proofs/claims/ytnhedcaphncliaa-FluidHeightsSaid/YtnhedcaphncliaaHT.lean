/- FluidHeights. No condition. -/
import Derived.Test.YtnhedcaphncliaaHA
import Derived.Test.YtnhedcaphncliaaH7
import Derived.Test.YtnhedcaphncliaaW
import Derived.Test.YtnhedcaphncliaaLFluidHeights
set_option linter.unusedVariables false
set_option maxRecDepth 100000
set_option maxHeartbeats 4000000
noncomputable section
namespace Go.Proofs.Ytnhedcaphncliaa.W.Hole
open Go Go.Cx Go.RowKit
noncomputable def ctHt : CTab T := (58, cAnn) :: (59, cLine) :: (60, cMod) :: (61, cAt) :: (25, cHl) :: (22, cVol) :: (27, cWhr) :: (19, cAwake) :: ctG
theorem ctHt_ok : CTabOk Try.prog E ctHt := .cons ann_ok (.cons line_ok (.cons mod64_ok (.cons at_ok (.cons hl_ok (.cons vol_ok (.cons whr_ok (.cons awake_ok ctG_ok)))))))
noncomputable def o11 (u : Int) (v : Int) (s : Int) (i : Int) (h : List Seg) (k : List Knot) : Tree (Ex × List (V T)) := .req ((0 ≤ i ∧ i ≤ h.length) ∧ (allS h = true ∧ sumL h ≤ 500000 ∧ h.length ≤ 5) ∧ 0 ≤ s ∧ s + ri (h.drop i.toNat) = ri h) (.leaf (.exit 0, [.n u, .n v, .n (ri h), .l 52 h, .l 72 k]))
noncomputable def c11 : LoopC T := ⟨[.n, .n, .n, .n, .l 52, .l 72], ⟨111, [(1, .one (.i .i64)), (5, .one (.o 0 0)), (6, .one (.o 1 0)), (7, .one (.i .i64)), (8, .one (.i .i64)), (9, .one (.i .i64))], [.c [.s 52], .c [.s 72]]⟩, fun _ => ⟨111, [(1, .one (.i .i64)), (5, .one (.o 0 0)), (6, .one (.o 1 0)), (7, .one (.i .i64)), (8, .one (.i .i64))], [.c [.s 52], .c [.s 72]]⟩, 30, fun d => o11 d.1 d.2.1 d.2.2.1 d.2.2.2.1 d.2.2.2.2.1 d.2.2.2.2.2.1⟩
theorem b11 (u : Int) (v : Int) (s : Int) (i : Int) (h : List Seg) (k : List Knot) : bodyD Try.prog E c11 0 (bodyX Try.prog E ctHt noLoops 1000 5 L0 (lpOf Try.prog 11 0)) (u, v, s, i, h, k, ()) =
  (.br (decide (i < (↑(List.length h) : Int)))
   (.req ((decide ((0 : Int) ≤ i) && decide (i < (↑(List.length h) : Int))) = true)
   (.leaf (.inl (u, (v, (IntKind.wrap IntKind.i64 (s + Seg.Rise (si h i)), (IntKind.wrap IntKind.i64 (i + (1 : Int)), (h, (k, ())))))))))
   (.leaf (.inr (.exit (0 : Nat), [.n (u), .n (v), .n (s), .l (52 : Nat) (h), .l (72 : Nat) (k)])))) := by kernel_rfl
theorem n11 (u : Int) (v : Int) (s : Int) (i : Int) (h : List Seg) (k : List Knot) (K : Ex × List (V T) → Prop) (hI : (0 ≤ i ∧ i ≤ h.length) ∧ (allS h = true ∧ sumL h ≤ 500000 ∧ h.length ≤ 5) ∧ 0 ≤ s ∧ s + ri (h.drop i.toNat) = ri h) (hK : (.leaf (.exit 0, [.n u, .n v, .n (ri h), .l 52 h, .l 72 k]) : Tree (Ex × List (V T))).holds K) : (c11.out (u, v, s, i, h, k, ())).holds K := ⟨hI, hK⟩
theorem h11' (u : Int) (v : Int) (s : Int) (i : Int) (h : List Seg) (k : List Knot) (K : Ex × List (V T) → Prop) (hI : (0 ≤ i ∧ i ≤ h.length) ∧ (allS h = true ∧ sumL h ≤ 500000 ∧ h.length ≤ 5) ∧ 0 ≤ s ∧ s + ri (h.drop i.toNat) = ri h) (hK : (.leaf (.exit 0, [.n u, .n v, .n (ri h), .l 52 h, .l 72 k]) : Tree (Ex × List (V T))).holds K) :
    (bodyD Try.prog E c11 0 (bodyX Try.prog E ctHt noLoops 1000 5 L0 (lpOf Try.prog 11 0)) (u, v, s, i, h, k, ())).holds fun y => match y with
    | .inl d => ((d.2.2.2.2.1.length : Int) - d.2.2.2.1).toNat < ((h.length : Int) - i).toNat ∧ (c11.out d).holds K
    | .inr y => K y := by
  rw [b11]
  obtain ⟨⟨h0, h1⟩, ⟨a, b, c⟩, hs, hr⟩ := hI
  have rb := ri_bd a
  refine way (fun k => wayC h0 k fun _ _ => ?_) fun k => ?_
  · have d := drop_sI h0 k
    have e1 : IntKind.wrap IntKind.i64 (i + 1) = i + 1 := i64_in' (by omega) (by omega)
    have hr2 : s + ((si h i).Rise + ri (h.drop (i + 1).toNat)) = ri h := by rw [d] at hr; exact hr
    clear d hr
    have m := allS_mem a _ (si_mem h0 k)
    have nn : ∀ n : Nat, 0 ≤ ri (h.drop n) := fun n => (ri_bd (allS_drop n a)).1
    have := nn (i + 1).toNat
    have e2 : IntKind.wrap IntKind.i64 (s + (si h i).Rise) = s + (si h i).Rise := i64_in' (by have := m.2.1; omega) (by omega)
    rw [e1, e2]
    have p := m.2.1
    have g2 : ((h.length : Int) - (i + 1)).toNat < ((h.length : Int) - i).toNat := by omega
    exact ⟨g2, n11 _ _ _ _ _ _ K ⟨⟨by omega, by omega⟩, ⟨a, b, c⟩, by omega, by omega⟩ hK⟩
  · clear rb
    have e : ri (h.drop i.toNat) = 0 := by rw [List.drop_eq_nil_of_le (by omega)]; rfl
    rw [e] at hr
    rw [show s = ri h by omega]
    exact hK
theorem h11 : LoopH Try.prog E c11 0 (bodyX Try.prog E ctHt noLoops 1000 5 L0 (lpOf Try.prog 11 0)) :=
  ⟨fun d => ((d.2.2.2.2.1.length : Int) - d.2.2.2.1).toNat, fun dd K hK => by
    obtain ⟨u, v, s, i, h, k, ⟨⟩⟩ := dd
    obtain ⟨hI, hK⟩ := hK
    refine Tree.holds_mono (fun y hy => ?_) (h11' u v s i h k K hI hK)
    cases y with
    | inl d' => exact hy
    | inr y => exact hy⟩
theorem ll11 : LLOk Try.prog E (llOfN Try.prog E 11 0 [(7, c11)]) := llOfN_ok fun i hi c hc => by
  have hi : i < 1 := hi
  obtain rfl : i = 0 := by omega
  obtain rfl : c11 = c := Option.some.inj hc
  exact LSndN.mk good names mixes ctHt_ok (by decide) h11
theorem tv11 (x : List Int) (u : Int) : runX ctHt (llOfN Try.prog E 11 0 [(7, c11)]) 11 [.sl 2 x false, i64 u] [4] =
  (.req (inLg (ann x))
  (.req (inLg (ann x))
  (.br (lineErr (hl (ann x)) (1099511627776 : Int) (1048576 : Int) != (0 : Int))
   (.leaf (.bool (false)))
   (.br ((↑(List.length (hl (ann x))) : Int) != IntKind.wrap IntKind.i64 ((↑(List.length (ann x)) : Int) + (1 : Int)))
    (.leaf (.bool (false)))
    (.req ((true && decide ((0 : Int) < (↑(List.length (hl (ann x))) : Int))) = true)
    (.br (!(Knot.At (ki (hl (ann x)) (0 : Int)) == (0 : Int) && (Knot.V (ki (hl (ann x)) (0 : Int)) == (0 : Int) && true)))
     (.leaf (.bool (false)))
     (.req ((decide ((0 : Int) ≤ IntKind.wrap IntKind.i64 ((↑(List.length (hl (ann x))) : Int) - (1 : Int))) && decide (IntKind.wrap IntKind.i64 ((↑(List.length (hl (ann x))) : Int) - (1 : Int)) < (↑(List.length (hl (ann x))) : Int))) = true)
     (.br (Knot.At (ki (hl (ann x)) (IntKind.wrap IntKind.i64 ((↑(List.length (hl (ann x))) : Int) - (1 : Int)))) != vol (ann x))
      (.leaf (.bool (false)))
      (.req (((0 : Int) ≤ (0 : Int) ∧ (0 : Int) ≤ (↑(List.length (ann x)) : Int)) ∧ (allS (ann x) = true ∧ sumL (ann x) ≤ (500000 : Int) ∧ List.length (ann x) ≤ (5 : Nat)) ∧ (0 : Int) ≤ (0 : Int) ∧ (0 : Int) + ri (List.drop (Int.toNat (0 : Int)) (ann x)) = ri (ann x))
      (.req (mPre u (vol (ann x)))
      (.req ((decide ((0 : Int) ≤ IntKind.wrap IntKind.i64 ((↑(List.length (hl (ann x))) : Int) - (1 : Int))) && decide (IntKind.wrap IntKind.i64 ((↑(List.length (hl (ann x))) : Int) - (1 : Int)) < (↑(List.length (hl (ann x))) : Int))) = true)
      (.br (Knot.V (ki (hl (ann x)) (IntKind.wrap IntKind.i64 ((↑(List.length (hl (ann x))) : Int) - (1 : Int)))) == ri (ann x))
       (.br (decide (atLo (hl (ann x)) (IntKind.wrap IntKind.i64 (u % vol (ann x) + (1 : Int))) ≥ atLo (hl (ann x)) (u % vol (ann x))))
        (.br (decide (atHi (hl (ann x)) (IntKind.wrap IntKind.i64 (u % vol (ann x) + (1 : Int))) ≥ atHi (hl (ann x)) (u % vol (ann x))))
         (.req (inLg (ann x))
         (.br (decide (whr (ann x) (u % vol (ann x)) ≥ (0 : Int)))
          (.leaf (.bool (true)))
          (.leaf (.bool (false)))))
         (.leaf (.bool (false))))
        (.leaf (.bool (false))))
       (.leaf (.bool (false))))))))))))))) := by kernel_rfl
theorem s11 (x : List Int) (u : Int) : (runX ctHt (llOfN Try.prog E 11 0 [(7, c11)]) 11 [.sl 2 x false, i64 u] [4]).holds fun v => v = .bool true := by
  rw [tv11]
  have c := (ann_ok' x).1
  have a := ann_in x
  have q := (ann_ok' x).2
  have g := hl_good c
  have ln := hl_len c
  have le := hl_last c
  have vb := vol_bd (ann x)
  have vp := vol_pos c
  have le2 : (ki (hl (ann x)) (((hl (ann x)).length : Int) - 1)).V = ri (ann x) := g.2.2.1
  have lr : lineErr (hl (ann x)) 1099511627776 1048576 = 0 := good_lineErr ⟨g.1.pos, g.1.len, fun i hi => by have := g.1.bd i hi; omega, g.1.up⟩ (by decide) (by decide)
  have e1 : IntKind.wrap IntKind.i64 (((hl (ann x)).length : Int) - 1) = ((hl (ann x)).length : Int) - 1 := (e_last c).1
  have e2 : IntKind.wrap IntKind.i64 (((ann x).length : Int) + 1) = ((ann x).length : Int) + 1 := i64_in' (by omega) (by omega)
  have e0 : ki (hl (ann x)) 0 = ⟨0, 0⟩ := by unfold hl; rw [if_pos c]; rfl
  have m1 := Int.emod_nonneg u (b := vol (ann x)) (by omega)
  have m2 := Int.emod_lt_of_pos u (b := vol (ann x)) (by omega)
  have e3 : IntKind.wrap IntKind.i64 (u % vol (ann x) + 1) = u % vol (ann x) + 1 := i64_in' (by omega) (by omega)
  have up := at_up c (x := u % vol (ann x)) (y := u % vol (ann x) + 1) (by omega)
  rw [e1, e2, e0, lr, le, le2, e3]
  refine ⟨a, a, wayNe (fun k => absurd rfl k) fun _ => wayNe (fun k => absurd (show ((hl (ann x)).length : Int) = ((ann x).length : Int) + 1 by omega) k) fun _ => ⟨by simp only [Bool.true_and, decide_eq_true_eq]; omega, wayB (fun k => by cases k) fun _ => wayC (by omega) (by omega) fun _ _ => wayNe (fun k => absurd rfl k) fun _ => ⟨⟨⟨by omega, by omega⟩, ⟨q.1, q.2.2, q.2.1.2⟩, by omega, by rw [Int.zero_add]; rfl⟩, by unfold mPre; omega, wayC (by omega) (by omega) fun _ _ => wayEq (fun _ => way (fun _ => way (fun _ => ⟨a, way (fun _ => rfl) fun k => ?_⟩) fun k => absurd up.2 k) fun k => absurd up.1 k) fun k => absurd rfl k⟩⟩⟩
  refine absurd ?_ k
  unfold whr
  rw [if_pos ⟨c, decide_eq_true ⟨m1, by omega⟩⟩]
  split
  · assumption
  · omega
theorem fluidHeights_proved : Rows.FluidHeightsSaid := fluidHeights_said fun x u _ _ => fact_run ctHt_ok ll11 (ts := [4]) rfl (s11 x u)
end Go.Proofs.Ytnhedcaphncliaa.W.Hole
