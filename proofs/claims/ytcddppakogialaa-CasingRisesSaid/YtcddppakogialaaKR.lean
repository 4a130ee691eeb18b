/- CasingRises. No condition. -/
import Derived.Test.YtcddppakogialaaKC
import Derived.Test.YtcddppakogialaaUA
import Derived.Test.YtcddppakogialaaLCasingRises
set_option linter.unusedVariables false
set_option maxRecDepth 100000
set_option maxHeartbeats 4000000
noncomputable section
namespace Go.Proofs.Ytcddppakogialaa.W.Hole
open Go Go.Cx Go.RowKit
noncomputable def ctR5 : CTab T := (51, cAnn) :: (49, cMod) :: ctM5
theorem ctR5_ok : CTabOk Try.prog E ctR5 := .cons ann_ok (.cons mod64_ok ctM5_ok)
noncomputable def oR5 (a : Int) (b : Int) (v : Int) (s : Int) (i : Int) (h : List Seg) : Tree (Ex × List (V T)) := .req ((0 ≤ i ∧ i ≤ h.length) ∧ (allS h = true ∧ sumL h ≤ 500000 ∧ h.length ≤ 5) ∧ 0 ≤ s ∧ s + ri (h.drop i.toNat) = ri h) (.leaf (.exit 0, [.n a, .n b, .n v, .n (ri h), .l 68 h]))
noncomputable def cR5 : LoopC T := ⟨[.n, .n, .n, .n, .n, .l 68], ⟨102, [(1, .one (.i .i64)), (2, .one (.i .i64)), (7, .one (.o 0 0)), (8, .one (.i .i64)), (9, .one (.i .i64)), (10, .one (.i .i64))], [.c [.s 68]]⟩, fun _ => ⟨102, [(1, .one (.i .i64)), (2, .one (.i .i64)), (7, .one (.o 0 0)), (8, .one (.i .i64)), (9, .one (.i .i64))], [.c [.s 68]]⟩, 30, fun d => oR5 d.1 d.2.1 d.2.2.1 d.2.2.2.1 d.2.2.2.2.1 d.2.2.2.2.2.1⟩
theorem bR5 (a : Int) (b : Int) (v : Int) (s : Int) (i : Int) (h : List Seg) : bodyD Try.prog E cR5 0 (bodyX Try.prog E ctR5 noLoops 1000 5 L0 (lpOf Try.prog 15 0)) (a, b, v, s, i, h, ()) =
  (.br (decide (i < (↑(List.length h) : Int)))
   (.req ((decide ((0 : Int) ≤ i) && decide (i < (↑(List.length h) : Int))) = true)
   (.leaf (.inl (a, (b, (v, (IntKind.wrap IntKind.i64 (s + Seg.Rise (si h i)), (IntKind.wrap IntKind.i64 (i + (1 : Int)), (h, ())))))))))
   (.leaf (.inr (.exit (0 : Nat), [.n (a), .n (b), .n (v), .n (s), .l (68 : Nat) (h)])))) := by kernel_rfl
theorem nR5 (a : Int) (b : Int) (v : Int) (s : Int) (i : Int) (h : List Seg) (K : Ex × List (V T) → Prop) (hI : (0 ≤ i ∧ i ≤ h.length) ∧ (allS h = true ∧ sumL h ≤ 500000 ∧ h.length ≤ 5) ∧ 0 ≤ s ∧ s + ri (h.drop i.toNat) = ri h) (hK : (.leaf (.exit 0, [.n a, .n b, .n v, .n (ri h), .l 68 h]) : Tree (Ex × List (V T))).holds K) : (cR5.out (a, b, v, s, i, h, ())).holds K := ⟨hI, hK⟩
theorem hR5' (a : Int) (b : Int) (v : Int) (s : Int) (i : Int) (h : List Seg) (K : Ex × List (V T) → Prop) (hI : (0 ≤ i ∧ i ≤ h.length) ∧ (allS h = true ∧ sumL h ≤ 500000 ∧ h.length ≤ 5) ∧ 0 ≤ s ∧ s + ri (h.drop i.toNat) = ri h) (hK : (.leaf (.exit 0, [.n a, .n b, .n v, .n (ri h), .l 68 h]) : Tree (Ex × List (V T))).holds K) :
    (bodyD Try.prog E cR5 0 (bodyX Try.prog E ctR5 noLoops 1000 5 L0 (lpOf Try.prog 15 0)) (a, b, v, s, i, h, ())).holds fun y => match y with
    | .inl d => ((d.2.2.2.2.2.1.length : Int) - d.2.2.2.2.1).toNat < ((h.length : Int) - i).toNat ∧ (cR5.out d).holds K
    | .inr y => K y := by
  rw [bR5]
  obtain ⟨⟨h0, h1⟩, ⟨q1, q2, q3⟩, hs, hr⟩ := hI
  have rb := ri_bd q1
  refine way (fun k => wayC h0 k fun _ _ => ?_) fun k => ?_
  · have d := drop_sI h0 k
    have e1 : IntKind.wrap IntKind.i64 (i + 1) = i + 1 := i64_in' (by omega) (by omega)
    have hr2 : s + ((si h i).Rise + ri (h.drop (i + 1).toNat)) = ri h := by rw [d] at hr; exact hr
    clear d hr
    have m := allS_mem q1 _ (si_mem h0 k)
    have nn : ∀ n : Nat, 0 ≤ ri (h.drop n) := fun n => (ri_bd (allS_drop n q1)).1
    have := nn (i + 1).toNat
    have e2 : IntKind.wrap IntKind.i64 (s + (si h i).Rise) = s + (si h i).Rise := i64_in' (by have := m.2.1; omega) (by omega)
    rw [e1, e2]
    have p := m.2.1
    have g2 : ((h.length : Int) - (i + 1)).toNat < ((h.length : Int) - i).toNat := by omega
    exact ⟨g2, nR5 _ _ _ _ _ _ K ⟨⟨by omega, by omega⟩, ⟨q1, q2, q3⟩, by omega, by omega⟩ hK⟩
  · clear rb
    have e : ri (h.drop i.toNat) = 0 := by rw [List.drop_eq_nil_of_le (by omega)]; rfl
    rw [e] at hr
    rw [show s = ri h by omega]
    exact hK
theorem hR5 : LoopH Try.prog E cR5 0 (bodyX Try.prog E ctR5 noLoops 1000 5 L0 (lpOf Try.prog 15 0)) :=
  ⟨fun d => ((d.2.2.2.2.2.1.length : Int) - d.2.2.2.2.1).toNat, fun dd K hK => by
    obtain ⟨a, b, v, s, i, h, ⟨⟩⟩ := dd
    obtain ⟨hI, hK⟩ := hK
    refine Tree.holds_mono (fun y hy => ?_) (hR5' a b v s i h K hI hK)
    cases y with
    | inl d' => exact hy
    | inr y => exact hy⟩
theorem llR5 : LLOk Try.prog E (llOfN Try.prog E 15 0 [(9, cR5)]) := llOfN_ok fun i hi c hc => by
  have hi : i < 1 := hi
  obtain rfl : i = 0 := by omega
  obtain rfl : cR5 = c := Option.some.inj hc
  exact LSndN.mk good names mixes ctR5_ok (by decide) hR5
theorem tvR5 (x : List Int) (a b : Int) : runX ctR5 (llOfN Try.prog E 15 0 [(9, cR5)]) 15 [.sl 2 x false, i64 a, i64 b] [4] =
  (.req (inLg (ann x))
  (.br (decide (vol (ann x) < (1 : Int)))
   (.leaf (.bool (false)))
   (.req (mPre a (IntKind.wrap IntKind.i64 (vol (ann x) + (1 : Int))))
   (.req (mPre b (IntKind.wrap IntKind.i64 (IntKind.wrap IntKind.i64 (vol (ann x) - a % IntKind.wrap IntKind.i64 (vol (ann x) + (1 : Int))) + (1 : Int))))
   (.req (((0 : Int) ≤ (0 : Int) ∧ (0 : Int) ≤ (↑(List.length (ann x)) : Int)) ∧ (allS (ann x) = true ∧ sumL (ann x) ≤ (500000 : Int) ∧ List.length (ann x) ≤ (5 : Nat)) ∧ (0 : Int) ≤ (0 : Int) ∧ (0 : Int) + ri (List.drop (Int.toNat (0 : Int)) (ann x)) = ri (ann x))
   (.req (inLg (ann x))
   (.req (inLg (ann x))
   (.req (inLg (ann x))
   (.br (cmE (ann x) (a % IntKind.wrap IntKind.i64 (vol (ann x) + (1 : Int))) == (0 : Int))
    (.br (cmE (ann x) (IntKind.wrap IntKind.i64 (a % IntKind.wrap IntKind.i64 (vol (ann x) + (1 : Int)) + b % IntKind.wrap IntKind.i64 (IntKind.wrap IntKind.i64 (vol (ann x) - a % IntKind.wrap IntKind.i64 (vol (ann x) + (1 : Int))) + (1 : Int)))) == (0 : Int))
     (.br (cmE (ann x) (vol (ann x)) == (0 : Int))
      (.br (decide (cmLo (ann x) (IntKind.wrap IntKind.i64 (a % IntKind.wrap IntKind.i64 (vol (ann x) + (1 : Int)) + b % IntKind.wrap IntKind.i64 (IntKind.wrap IntKind.i64 (vol (ann x) - a % IntKind.wrap IntKind.i64 (vol (ann x) + (1 : Int))) + (1 : Int)))) ≥ cmLo (ann x) (a % IntKind.wrap IntKind.i64 (vol (ann x) + (1 : Int)))))
       (.br (decide (cmHi (ann x) (IntKind.wrap IntKind.i64 (a % IntKind.wrap IntKind.i64 (vol (ann x) + (1 : Int)) + b % IntKind.wrap IntKind.i64 (IntKind.wrap IntKind.i64 (vol (ann x) - a % IntKind.wrap IntKind.i64 (vol (ann x) + (1 : Int))) + (1 : Int)))) ≥ cmHi (ann x) (a % IntKind.wrap IntKind.i64 (vol (ann x) + (1 : Int)))))
        (.br (cmLo (ann x) (vol (ann x)) == ri (ann x) && (cmHi (ann x) (vol (ann x)) == ri (ann x) && true))
         (.leaf (.bool (true)))
         (.leaf (.bool (false))))
        (.leaf (.bool (false))))
       (.leaf (.bool (false))))
      (.leaf (.bool (false))))
     (.leaf (.bool (false))))
    (.leaf (.bool (false)))))))))))) := by kernel_rfl
theorem cm_yes {h : List Seg} {v : Int} (c : hE h = 0) (hv : 0 ≤ v ∧ v ≤ vol h) : cmE h v = 0 ∧ cmLo h v = atLo (hl h) v ∧ cmHi h v = atHi (hl h) v := by
  have e : cmE h v = 0 := by unfold cmE; rw [if_pos c, if_pos (decide_eq_true hv)]
  unfold cmLo cmHi
  rw [if_pos e, if_pos e]
  exact ⟨e, rfl, rfl⟩
theorem at_top {h : List Seg} (c : hE h = 0) : atLo (hl h) (vol h) = ri h ∧ atHi (hl h) (vol h) = ri h := by
  unfold atLo atHi
  rw [if_pos (hl_right c), if_pos (hl_right c)]
  have g := hl_good c
  have l := hl_last c
  have e := val_last g.1 (x := vol h) (by show (ki (hl h) (((hl h).length : Int) - 1)).At ≤ vol h; omega)
  rw [e.1, e.2]
  exact ⟨g.2.2.1, g.2.2.1⟩
theorem sR5 (x : List Int) (a b : Int) : (runX ctR5 (llOfN Try.prog E 15 0 [(9, cR5)]) 15 [.sl 2 x false, i64 a, i64 b] [4]).holds fun v => v = .bool true := by
  rw [tvR5]
  have c := (ann_ok' x).1
  have hi := ann_in x
  have q := (ann_ok' x).2
  have vb := vol_bd (ann x)
  have vp := vol_pos c
  have e1 : IntKind.wrap IntKind.i64 (vol (ann x) + 1) = vol (ann x) + 1 := i64_in' (by omega) (by omega)
  rw [e1]
  have a1 := Int.emod_nonneg a (b := vol (ann x) + 1) (by omega)
  have a2 := Int.emod_lt_of_pos a (b := vol (ann x) + 1) (by omega)
  have ma : mPre a (vol (ann x) + 1) := by unfold mPre; omega
  generalize a % (vol (ann x) + 1) = A at *
  have e2 : IntKind.wrap IntKind.i64 (vol (ann x) - A) = vol (ann x) - A := i64_in' (by omega) (by omega)
  have e3 : IntKind.wrap IntKind.i64 (vol (ann x) - A + 1) = vol (ann x) - A + 1 := i64_in' (by omega) (by omega)
  rw [e2, e3]
  have b1 := Int.emod_nonneg b (b := vol (ann x) - A + 1) (by omega)
  have b2 := Int.emod_lt_of_pos b (b := vol (ann x) - A + 1) (by omega)
  have mb : mPre b (vol (ann x) - A + 1) := by unfold mPre; omega
  generalize b % (vol (ann x) - A + 1) = B at *
  have e4 : IntKind.wrap IntKind.i64 (A + B) = A + B := i64_in' (by omega) (by omega)
  rw [e4]
  have ka := cm_yes (v := A) c (by omega)
  have kb := cm_yes (v := A + B) c (by omega)
  have kc := cm_yes (v := vol (ann x)) c (by omega)
  have t := at_top c
  have up := at_up c (x := A) (y := A + B) (by omega)
  rw [← kc.2.1, ← kc.2.2] at t
  rw [t.1, t.2]
  exact ⟨hi, way (fun k => absurd k (by omega)) fun _ => ⟨ma, mb, ⟨⟨by omega, by omega⟩, ⟨q.1, q.2.2, q.2.1.2⟩, by omega, by rw [Int.zero_add]; rfl⟩, hi, hi, hi, wayEq (fun _ => wayEq (fun _ => wayEq (fun _ => way (fun _ => way (fun _ => wayB (fun _ => rfl) (no_way (by rw [beq_self_eq_true]; rfl))) fun k => absurd (by omega) k) fun k => absurd (by omega) k) fun k => absurd kc.1 k) fun k => absurd kb.1 k) fun k => absurd ka.1 k⟩⟩
theorem casingRises_proved : Rows.CasingRisesSaid := casingRises_said fun x a b _ _ _ => fact_run ctR5_ok llR5 (ts := [4]) rfl (sR5 x a b)
end Go.Proofs.Ytcddppakogialaa.W.Hole
