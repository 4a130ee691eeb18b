/- PathChecks. No condition. -/
import Derived.Test.YtmnhfjhlfgebiaaJ
import Derived.Test.YtmnhfjhlfgebiaaLPathChecks
set_option linter.unusedVariables false
set_option maxRecDepth 100000
noncomputable section
namespace Go.Proofs.Ytmnhfjhlfgebiaa.W
open Go Go.Cx Go.RowKit
/-! ### the reference's vertical depths -/
theorem s28 (x y z : Int) (l : List Vec) : (runX ctK noLoops 28 [.agg [i64 x, i64 y, i64 z, .sl 23 l false]] [24]).holds fun v => v = .sl 23 (jnS x y z l) false := by
  rw [tv28]
  unfold jnS
  refine wayNe (fun c => ?_) fun c => ⟨by have := (chk_lg c).1; omega, ?_⟩
  · rw [if_neg c]; rfl
  · rw [if_pos c]; rfl
theorem jnS_ok : ConOk Try.prog E 28 cJn := conV_ok fun d => fact_run ctK_ok noLoops_ok (ts := [24]) rfl (s28 d.1 d.2.1 d.2.2.1 d.2.2.2.1)
noncomputable def ctL0 : CTab T := (28, cJn) :: ctK
theorem ctL0_ok : CTabOk Try.prog E ctL0 := .cons jnS_ok ctK_ok
noncomputable def vt1 : List Vec → List Vec → Int → List Knot
  | p :: J, v :: r, d => ⟨wr (d + lgN v.X v.Y v.Z), p.Z⟩ :: vt1 J r (wr (d + lgN v.X v.Y v.Z))
  | _, _, _ => []
noncomputable def vX (J l : List Vec) (i d : Int) : List Knot := if i = 0 then (match J with
    | [] => []
    | p :: J' => ⟨d, p.Z⟩ :: vt1 J' l d) else vt1 (J.drop i.toNat) (l.drop (i - 1).toNat) d
theorem vt1_kn : ∀ (r : List Vec) (v : Vec) (s : Stp), (∀ u ∈ v :: r, lgP u.X u.Y u.Z) → vt1 (jn r (nxS s v)) (v :: r) s.d = kn r (nxS s v) := by
  intro r
  induction r with
  | nil =>
    intro v s h
    have hv := h v (List.mem_cons_self ..)
    show [Knot.mk (wr (s.d + lgN v.X v.Y v.Z)) (nxS s v).z] = [kn1 (nxS s v)]
    rw [lgN_ln hv, ← szN_ln hv]; rfl
  | cons u r ih =>
    intro v s h
    have hv := h v (List.mem_cons_self ..)
    show Knot.mk (wr (s.d + lgN v.X v.Y v.Z)) (nxS s v).z :: vt1 (jn r (nxS (nxS s v) u)) (u :: r) (wr (s.d + lgN v.X v.Y v.Z)) = kn1 (nxS s v) :: kn r (nxS (nxS s v) u)
    rw [lgN_ln hv, ← szN_ln hv]
    have := ih u (nxS s v) fun w hw => h w (List.mem_cons_of_mem _ hw)
    rw [← this]; rfl
theorem vX_kn {x y z : Int} {l : List Vec} : vX (jnS x y z l) l 0 0 = knS x y z l := by
  unfold jnS knS
  by_cases c : chk x y z l = 0
  · rw [if_pos c, if_pos c]
    have h := (chk_lg c).2.2
    cases l with
    | nil => rfl
    | cons v r =>
      show Knot.mk 0 _ :: vt1 (jn r (nxS (s0 x y z) v)) (v :: r) (s0 x y z).d = _
      rw [vt1_kn r v (s0 x y z) h]; rfl
  · rw [if_neg c, if_neg c]; rfl
theorem vX_cons {J l : List Vec} {i d : Int} (h0 : 0 ≤ i) (h : i < J.length) (hl : J.length ≤ l.length + 1) : vX J l i d =
    if 0 < i then ⟨wr (d + lgN (vi l (i - 1)).X (vi l (i - 1)).Y (vi l (i - 1)).Z), (vi J i).Z⟩ :: vX J l (i + 1) (wr (d + lgN (vi l (i - 1)).X (vi l (i - 1)).Y (vi l (i - 1)).Z))
    else ⟨d, (vi J i).Z⟩ :: vX J l (i + 1) d := by
  by_cases c : i = 0
  · subst c
    rw [if_neg (by decide)]
    have := drop_vI (l := J) (i := 0) (by decide) h
    unfold vX
    rw [if_pos rfl, if_neg (by decide)]
    cases J with
    | nil => simp at h
    | cons p J' =>
      rw [show vi (p :: J') 0 = p from rfl]
      rfl
  · rw [if_pos (by omega)]
    conv => lhs; unfold vX
    rw [if_neg c, drop_vI h0 h, drop_vI (l := l) (i := i - 1) (by omega) (by omega)]
    show _ :: vt1 _ _ _ = _
    unfold vX
    rw [if_neg (by omega), show i - 1 + 1 = i + 1 - 1 by omega]
theorem vX_nil {J l : List Vec} {i d : Int} (h0 : 0 ≤ i) (h : ¬ i < J.length) : vX J l i d = [] := by
  unfold vX
  by_cases c : i = 0
  · rw [if_pos c]
    subst c
    cases J with
    | nil => rfl
    | cons p J' => exact absurd (by simp) h
  · rw [if_neg c, drop_nilI h]
    rfl
noncomputable def o31 (q : List Knot) (J : List Vec) (d : Int) (i : Int) (x : Int) (y : Int) (z : Int) (l : List Vec) : Tree (Ex × List (V T)) := .req (0 ≤ i ∧ J.length ≤ 21 ∧ J.length ≤ l.length + 1 ∧ q.length ≤ i) (.leaf (.exit 0, [.l 98 (q ++ vX J l i d)]))
noncomputable def c31 : LoopC T := ⟨[.l 98, .l 23, .n, .n, .n, .n, .n, .l 23], ⟨45, [(1, .one (.o 0 0)), (2, .one (.o 1 0)), (3, .one (.o 2 0)), (4, .one (.s 23)), (5, .one (.i .i64)), (6, .one (.i .i64))], [.c [.i .i64, .i .i64, .i .i64, .s 23], .c [.x], .c [.g 3 98], .l 98]⟩, fun _ => ⟨45, [(2, .one (.o 0 0)), (3, .one (.o 1 0))], [.c [.x], .c [.g 2 98], .l 98]⟩, 30, fun d => o31 d.1 d.2.1 d.2.2.1 d.2.2.2.1 d.2.2.2.2.1 d.2.2.2.2.2.1 d.2.2.2.2.2.2.1 d.2.2.2.2.2.2.2.1⟩
theorem b31 (q : List Knot) (J : List Vec) (d : Int) (i : Int) (x : Int) (y : Int) (z : Int) (l : List Vec) : bodyD Try.prog E c31 0 (bodyX Try.prog E ctL0 noLoops 1000 5 L0 (lpOf Try.prog 31 0)) (q, J, d, i, x, y, z, l, ()) =
  (.br (decide (i < (↑(List.length J) : Int)))
   (.br (decide (i > (0 : Int)))
    (.req ((decide ((0 : Int) ≤ IntKind.wrap IntKind.i64 (i - (1 : Int))) && decide (IntKind.wrap IntKind.i64 (i - (1 : Int)) < (↑(List.length l) : Int))) = true)
    (.req ((decide ((0 : Int) ≤ i) && decide (i < (↑(List.length J) : Int))) = true)
    (.req (List.length q = List.length q)
    (.req (List.length q + List.length [Knot.mk (IntKind.wrap IntKind.i64 (d + lgN (Vec.X (vi l (IntKind.wrap IntKind.i64 (i - (1 : Int))))) (Vec.Y (vi l (IntKind.wrap IntKind.i64 (i - (1 : Int))))) (Vec.Z (vi l (IntKind.wrap IntKind.i64 (i - (1 : Int))))))) (Vec.Z (vi J i))] ≤ (1073741824 : Nat))
    (.req (List.length (q ++ [Knot.mk (IntKind.wrap IntKind.i64 (d + lgN (Vec.X (vi l (IntKind.wrap IntKind.i64 (i - (1 : Int))))) (Vec.Y (vi l (IntKind.wrap IntKind.i64 (i - (1 : Int))))) (Vec.Z (vi l (IntKind.wrap IntKind.i64 (i - (1 : Int))))))) (Vec.Z (vi J i))]) = List.length (q ++ [Knot.mk (IntKind.wrap IntKind.i64 (d + lgN (Vec.X (vi l (IntKind.wrap IntKind.i64 (i - (1 : Int))))) (Vec.Y (vi l (IntKind.wrap IntKind.i64 (i - (1 : Int))))) (Vec.Z (vi l (IntKind.wrap IntKind.i64 (i - (1 : Int))))))) (Vec.Z (vi J i))]))
    (.leaf (.inl (q ++ [Knot.mk (IntKind.wrap IntKind.i64 (d + lgN (Vec.X (vi l (IntKind.wrap IntKind.i64 (i - (1 : Int))))) (Vec.Y (vi l (IntKind.wrap IntKind.i64 (i - (1 : Int))))) (Vec.Z (vi l (IntKind.wrap IntKind.i64 (i - (1 : Int))))))) (Vec.Z (vi J i))], (J, (IntKind.wrap IntKind.i64 (d + lgN (Vec.X (vi l (IntKind.wrap IntKind.i64 (i - (1 : Int))))) (Vec.Y (vi l (IntKind.wrap IntKind.i64 (i - (1 : Int))))) (Vec.Z (vi l (IntKind.wrap IntKind.i64 (i - (1 : Int)))))), (IntKind.wrap IntKind.i64 (i + (1 : Int)), (x, (y, (z, (l, ())))))))))))))))
    (.req ((decide ((0 : Int) ≤ i) && decide (i < (↑(List.length J) : Int))) = true)
    (.req (List.length q = List.length q)
    (.req (List.length q + List.length [Knot.mk d (Vec.Z (vi J i))] ≤ (1073741824 : Nat))
    (.req (List.length (q ++ [Knot.mk d (Vec.Z (vi J i))]) = List.length (q ++ [Knot.mk d (Vec.Z (vi J i))]))
    (.leaf (.inl (q ++ [Knot.mk d (Vec.Z (vi J i))], (J, (d, (IntKind.wrap IntKind.i64 (i + (1 : Int)), (x, (y, (z, (l, ())))))))))))))))
   (.req (List.length q = List.length q)
   (.leaf (.inr (.exit (0 : Nat), [.l (98 : Nat) (q)]))))) := by kernel_rfl
theorem h31' (q : List Knot) (J : List Vec) (d : Int) (i : Int) (x : Int) (y : Int) (z : Int) (l : List Vec) (K : Ex × List (V T) → Prop) (hI : 0 ≤ i ∧ J.length ≤ 21 ∧ J.length ≤ l.length + 1 ∧ q.length ≤ i) (hK : (.leaf (.exit 0, [.l 98 (q ++ vX J l i d)]) : Tree (Ex × List (V T))).holds K) :
    (bodyD Try.prog E c31 0 (bodyX Try.prog E ctL0 noLoops 1000 5 L0 (lpOf Try.prog 31 0)) (q, J, d, i, x, y, z, l, ())).holds fun y => match y with
    | .inl d => ((d.2.1.length : Int) - d.2.2.2.1).toNat < ((J.length : Int) - i).toNat ∧ (c31.out d).holds K
    | .inr y => K y := by
  rw [b31]
  obtain ⟨h0, hJ, hl, hq⟩ := hI
  refine way (fun c => ?_) fun c => ⟨rfl, ?_⟩
  · have e2 : IntKind.wrap IntKind.i64 (i + 1) = i + 1 := i64_in' (by omega) (by omega)
    have e3 : IntKind.wrap IntKind.i64 (i - 1) = i - 1 := i64_in' (by omega) (by omega)
    rw [e2, e3]
    rw [vX_cons h0 c hl] at hK
    have g1 : (0 : Int) ≤ i + 1 := by omega
    have g2 : ((J.length : Int) - (i + 1)).toNat < ((J.length : Int) - i).toNat := by omega
    refine way (fun k => wayC (by omega) (by omega) fun _ _ => wayC h0 c fun _ _ => ⟨rfl, by simp; omega, rfl, ?_⟩) fun k => wayC h0 c fun _ _ => ⟨rfl, by simp; omega, rfl, ?_⟩
    · rw [if_pos k] at hK
      refine ⟨g2, ⟨g1, hJ, hl, ?_⟩, ?_⟩
      · simp; omega
      · rw [List.append_cons] at hK
        exact hK
    · rw [if_neg k] at hK
      refine ⟨g2, ⟨g1, hJ, hl, ?_⟩, ?_⟩
      · simp; omega
      · rw [List.append_cons] at hK
        exact hK
  · rw [vX_nil h0 c, List.append_nil] at hK
    exact hK
theorem h31 : LoopH Try.prog E c31 0 (bodyX Try.prog E ctL0 noLoops 1000 5 L0 (lpOf Try.prog 31 0)) :=
  ⟨fun d => ((d.2.1.length : Int) - d.2.2.2.1).toNat, fun dd K hK => by
    obtain ⟨q, J, d, i, x, y, z, l, ⟨⟩⟩ := dd
    obtain ⟨hI, hK⟩ := hK
    refine Tree.holds_mono (fun y hy => ?_) (h31' q J d i x y z l K hI hK)
    cases y with
    | inl d' => exact hy
    | inr y => exact hy⟩
theorem ll31 : LLOk Try.prog E (llOfN Try.prog E 31 0 [(5, c31)]) := llOfN_ok fun i hi c hc => by
  have hi : i < 1 := hi
  obtain rfl : i = 0 := by omega
  obtain rfl : c31 = c := Option.some.inj hc
  exact LSndN.mk good names mixes ctL0_ok (by decide) h31
noncomputable def o26 (l : List Vec) (m : List Vec) (i : Int) : Tree (Ex × List (V T)) := .req (m = l ∧ 0 ≤ i ∧ l.length ≤ 1000) (.leaf (.exit 0, []))
noncomputable def c26 : LoopC T := ⟨[.l 23, .l 23, .n], ⟨26, [(0, .one (.s 23)), (1, .one (.s 23)), (5, .one (.i .i64))], []⟩, fun e => match e with
    | .ret => ⟨26, [(4, .one .b)], []⟩
    | _ => ⟨26, [], []⟩, 30, fun d => o26 d.1 d.2.1 d.2.2.1⟩
theorem b26 (l : List Vec) (m : List Vec) (i : Int) : bodyD Try.prog E c26 0 (bodyX Try.prog E ctL0 noLoops 1000 5 L0 (lpOf Try.prog 26 0)) (l, m, i, ()) =
  (.br (decide (i < (↑(List.length l) : Int)))
   (.req ((decide ((0 : Int) ≤ i) && decide (i < (↑(List.length l) : Int))) = true)
   (.req ((decide ((0 : Int) ≤ i) && decide (i < (↑(List.length m) : Int))) = true)
   (.br (!(Vec.X (vi l i) == Vec.X (vi m i) && (Vec.Y (vi l i) == Vec.Y (vi m i) && (Vec.Z (vi l i) == Vec.Z (vi m i) && true))))
    (.leaf (.inr (.ret, [.t (false)])))
    (.leaf (.inl (l, (m, (IntKind.wrap IntKind.i64 (i + (1 : Int)), ()))))))))
   (.leaf (.inr (.exit (0 : Nat), [])))) := by kernel_rfl
theorem h26' (l : List Vec) (m : List Vec) (i : Int) (K : Ex × List (V T) → Prop) (hI : m = l ∧ 0 ≤ i ∧ l.length ≤ 1000) (hK : (.leaf (.exit 0, []) : Tree (Ex × List (V T))).holds K) :
    (bodyD Try.prog E c26 0 (bodyX Try.prog E ctL0 noLoops 1000 5 L0 (lpOf Try.prog 26 0)) (l, m, i, ())).holds fun y => match y with
    | .inl d => ((d.2.1.length : Int) - d.2.2.1).toNat < ((m.length : Int) - i).toNat ∧ (c26.out d).holds K
    | .inr y => K y := by
  rw [b26]
  obtain ⟨rfl, h0, hl⟩ := hI
  refine way (fun c => wayC h0 c fun _ _ => wayC h0 c fun _ _ => ?_) fun c => hK
  have e2 : IntKind.wrap IntKind.i64 (i + 1) = i + 1 := i64_in' (by omega) (by omega)
  rw [e2]
  have g1 : (0 : Int) ≤ i + 1 := by omega
  have g2 : ((m.length : Int) - (i + 1)).toNat < ((m.length : Int) - i).toNat := by omega
  exact wayB (fun k => absurd k (by simp)) fun k => ⟨g2, ⟨rfl, g1, hl⟩, hK⟩
theorem h26 : LoopH Try.prog E c26 0 (bodyX Try.prog E ctL0 noLoops 1000 5 L0 (lpOf Try.prog 26 0)) :=
  ⟨fun d => ((d.2.1.length : Int) - d.2.2.1).toNat, fun dd K hK => by
    obtain ⟨l, m, i, ⟨⟩⟩ := dd
    obtain ⟨hI, hK⟩ := hK
    refine Tree.holds_mono (fun y hy => ?_) (h26' l m i K hI hK)
    cases y with
    | inl d' => exact hy
    | inr y => exact hy⟩
theorem ll26 : LLOk Try.prog E (llOfN Try.prog E 26 0 [(4, c26)]) := llOfN_ok fun i hi c hc => by
  have hi : i < 1 := hi
  obtain rfl : i = 0 := by omega
  obtain rfl : c26 = c := Option.some.inj hc
  exact LSndN.mk good names mixes ctL0_ok (by decide) h26
noncomputable def o29 (i : Int) (l : List Knot) (m : List Knot) : Tree (Ex × List (V T)) := .req (m = l ∧ 0 ≤ i ∧ l.length ≤ 1000) (.leaf (.exit 0, []))
noncomputable def c29 : LoopC T := ⟨[.n, .l 98, .l 98], ⟨31, [(2, .one (.o 0 0)), (3, .one (.o 1 0)), (5, .one (.i .i64))], [.c [.s 98], .c [.s 98]]⟩, fun e => match e with
    | .ret => ⟨31, [(4, .one .b)], []⟩
    | _ => ⟨31, [], []⟩, 30, fun d => o29 d.1 d.2.1 d.2.2.1⟩
theorem b29 (i : Int) (l : List Knot) (m : List Knot) : bodyD Try.prog E c29 0 (bodyX Try.prog E ctL0 noLoops 1000 5 L0 (lpOf Try.prog 29 0)) (i, l, m, ()) =
  (.br (decide (i < (↑(List.length l) : Int)))
   (.req ((decide ((0 : Int) ≤ i) && decide (i < (↑(List.length l) : Int))) = true)
   (.req ((decide ((0 : Int) ≤ i) && decide (i < (↑(List.length m) : Int))) = true)
   (.br (!(Knot.At (ki l i) == Knot.At (ki m i) && (Knot.V (ki l i) == Knot.V (ki m i) && true)))
    (.leaf (.inr (.ret, [.t (false)])))
    (.leaf (.inl (IntKind.wrap IntKind.i64 (i + (1 : Int)), (l, (m, ()))))))))
   (.leaf (.inr (.exit (0 : Nat), [])))) := by kernel_rfl
theorem h29' (i : Int) (l : List Knot) (m : List Knot) (K : Ex × List (V T) → Prop) (hI : m = l ∧ 0 ≤ i ∧ l.length ≤ 1000) (hK : (.leaf (.exit 0, []) : Tree (Ex × List (V T))).holds K) :
    (bodyD Try.prog E c29 0 (bodyX Try.prog E ctL0 noLoops 1000 5 L0 (lpOf Try.prog 29 0)) (i, l, m, ())).holds fun y => match y with
    | .inl d => ((d.2.2.1.length : Int) - d.1).toNat < ((m.length : Int) - i).toNat ∧ (c29.out d).holds K
    | .inr y => K y := by
  rw [b29]
  obtain ⟨rfl, h0, hl⟩ := hI
  refine way (fun c => wayC h0 c fun _ _ => wayC h0 c fun _ _ => ?_) fun c => hK
  have e2 : IntKind.wrap IntKind.i64 (i + 1) = i + 1 := i64_in' (by omega) (by omega)
  rw [e2]
  have g1 : (0 : Int) ≤ i + 1 := by omega
  have g2 : ((m.length : Int) - (i + 1)).toNat < ((m.length : Int) - i).toNat := by omega
  exact wayB (fun k => absurd k (by simp)) fun k => ⟨g2, ⟨rfl, g1, hl⟩, hK⟩
theorem h29 : LoopH Try.prog E c29 0 (bodyX Try.prog E ctL0 noLoops 1000 5 L0 (lpOf Try.prog 29 0)) :=
  ⟨fun d => ((d.2.2.1.length : Int) - d.1).toNat, fun dd K hK => by
    obtain ⟨i, l, m, ⟨⟩⟩ := dd
    obtain ⟨hI, hK⟩ := hK
    refine Tree.holds_mono (fun y hy => ?_) (h29' i l m K hI hK)
    cases y with
    | inl d' => exact hy
    | inr y => exact hy⟩
theorem ll29 : LLOk Try.prog E (llOfN Try.prog E 29 0 [(4, c29)]) := llOfN_ok fun i hi c hc => by
  have hi : i < 1 := hi
  obtain rfl : i = 0 := by omega
  obtain rfl : c29 = c := Option.some.inj hc
  exact LSndN.mk good names mixes ctL0_ok (by decide) h29
theorem tv31 (x y z : Int) (l : List Vec) : runX ctL0 (llOfN Try.prog E 31 0 [(5, c31)]) 31 [.agg [i64 x, i64 y, i64 z, .sl 23 l false]] [38] =
  (.req ((0 : Int) ≤ (0 : Int) ∧ List.length (jnS x y z l) ≤ (21 : Nat) ∧ List.length (jnS x y z l) ≤ List.length l + (1 : Nat) ∧ (↑((0 : Nat)) : Int) ≤ (0 : Int))
  (.req (List.length ([] ++ vX (jnS x y z l) l (0 : Int) (0 : Int)) = List.length ([] ++ vX (jnS x y z l) l (0 : Int) (0 : Int)))
  (.leaf (.agg [.sl (98 : Nat) ([] ++ vX (jnS x y z l) l (0 : Int) (0 : Int)) false])))) := by kernel_rfl
theorem tv26 (l m : List Vec) : runX ctL0 (llOfN Try.prog E 26 0 [(4, c26)]) 26 [.sl 23 l false, .sl 23 m false] [4] =
  (.br ((↑(List.length l) : Int) != (↑(List.length m) : Int))
   (.leaf (.bool (false)))
   (.req (m = l ∧ (0 : Int) ≤ (0 : Int) ∧ List.length l ≤ (1000 : Nat))
   (.leaf (.bool (true))))) := by kernel_rfl
theorem tv29 (l m : List Knot) : runX ctL0 (llOfN Try.prog E 29 0 [(4, c29)]) 29 [.agg [.sl 98 l false], .agg [.sl 98 m false]] [4] =
  (.br ((↑(List.length l) : Int) != (↑(List.length m) : Int))
   (.leaf (.bool (false)))
   (.req (m = l ∧ (0 : Int) ≤ (0 : Int) ∧ List.length l ≤ (1000 : Nat))
   (.leaf (.bool (true))))) := by kernel_rfl
theorem tv21 (x y z : Int) (l : List Vec) : runX ctL0 noLoops 21 [.agg [i64 x, i64 y, i64 z, .sl 23 l false]] [26] =
  (.req ((0 : Nat) + List.length l ≤ (1073741824 : Nat))
  (.req (List.length ([] ++ l) = List.length ([] ++ l))
  (.leaf (.agg [.sym .i64 (x), .sym .i64 (y), .sym .i64 (z), .sl (23 : Nat) ([] ++ l) false])))) := by kernel_rfl
theorem tv19 (x y z : Int) (l : List Vec) : runX ctL0 noLoops 19 [.agg [i64 x, i64 y, i64 z, .sl 23 l false]] [4] =
  (.leaf (.bool (decide ((↑(List.length l) : Int) > (24 : Int))))) := by kernel_rfl
theorem len_jnS (x y z : Int) (l : List Vec) : (jnS x y z l).length ≤ 21 ∧ (jnS x y z l).length ≤ l.length + 1 := by
  unfold jnS
  by_cases c : chk x y z l = 0
  · rw [if_pos c, len_jn]
    have := (chk_lg c).1
    omega
  · rw [if_neg c]; simp
theorem len_knS (x y z : Int) (l : List Vec) : (knS x y z l).length ≤ 21 := by
  unfold knS
  by_cases c : chk x y z l = 0
  · rw [if_pos c, len_kn]
    have := (chk_lg c).1
    omega
  · rw [if_neg c]; simp
theorem s31 (x y z : Int) (l : List Vec) : (runX ctL0 (llOfN Try.prog E 31 0 [(5, c31)]) 31 [.agg [i64 x, i64 y, i64 z, .sl 23 l false]] [38]).holds fun v => v = .agg [.sl 98 (knS x y z l) false] := by
  rw [tv31]
  refine ⟨⟨by decide, (len_jnS x y z l).1, (len_jnS x y z l).2, by decide⟩, rfl, ?_⟩
  rw [vX_kn]
  rfl
theorem s26 (l m : List Vec) (h : m = l ∧ l.length ≤ 1000) : (runX ctL0 (llOfN Try.prog E 26 0 [(4, c26)]) 26 [.sl 23 l false, .sl 23 m false] [4]).holds fun v => v = .bool true := by
  rw [tv26]
  exact wayNe (fun k => absurd (by rw [h.1]) k) fun _ => ⟨⟨h.1, by decide, h.2⟩, rfl⟩
theorem s29 (l m : List Knot) (h : m = l ∧ l.length ≤ 1000) : (runX ctL0 (llOfN Try.prog E 29 0 [(4, c29)]) 29 [.agg [.sl 98 l false], .agg [.sl 98 m false]] [4]).holds fun v => v = .bool true := by
  rw [tv29]
  exact wayNe (fun k => absurd (by rw [h.1]) k) fun _ => ⟨⟨h.1, by decide, h.2⟩, rfl⟩
theorem s21 (x y z : Int) (l : List Vec) (h : l.length ≤ 24) : (runX ctL0 noLoops 21 [.agg [i64 x, i64 y, i64 z, .sl 23 l false]] [26]).holds fun v => v = .agg [i64 x, i64 y, i64 z, .sl 23 l false] := by
  rw [tv21]
  exact ⟨by omega, rfl, rfl⟩
noncomputable def cOwnP : Con T := conP Try.prog [shP] [.n, .n, .n, .l 23] (fun d => (d.2.2.2.1 : List Vec).length ≤ 24) fun d => .agg [i64 d.1, i64 d.2.1, i64 d.2.2.1, .sl 23 d.2.2.2.1 false]
noncomputable def cSameV : Con T := conP Try.prog [.one (.s 23), .one (.s 23)] [.l 23, .l 23] (fun d => (d.2.1 : List Vec) = d.1 ∧ (d.1 : List Vec).length ≤ 1000) fun d => .bool true
noncomputable def cSameK : Con T := conP Try.prog [.agg [.s 98], .agg [.s 98]] [.l 98, .l 98] (fun d => (d.2.1 : List Knot) = d.1 ∧ (d.1 : List Knot).length ≤ 1000) fun d => .bool true
theorem ownP_ok : ConOk Try.prog E 21 cOwnP := conP_ok fun d hd => fact_run ctL0_ok noLoops_ok (ts := [26]) rfl (s21 d.1 d.2.1 d.2.2.1 d.2.2.2.1 hd)
theorem sameV_ok : ConOk Try.prog E 26 cSameV := conP_ok fun d hd => fact_run ctL0_ok ll26 (ts := [4]) rfl (s26 d.1 d.2.1 hd)
theorem sameK_ok : ConOk Try.prog E 29 cSameK := conP_ok fun d hd => fact_run ctL0_ok ll29 (ts := [4]) rfl (s29 d.1 d.2.1 hd)
theorem knR_ok : ConOk Try.prog E 31 cKn := conV_ok fun d => fact_run ctL0_ok ll31 (ts := [38]) rfl (s31 d.1 d.2.1 d.2.2.1 d.2.2.2.1)
noncomputable def ctM0 : CTab T := (21, cOwnP) :: (26, cSameV) :: (29, cSameK) :: (31, cKn) :: (20, cAwake) :: ctL0
theorem ctM0_ok : CTabOk Try.prog E ctM0 := .cons ownP_ok (.cons sameV_ok (.cons sameK_ok (.cons knR_ok (.cons awake_ok ctL0_ok))))
theorem tv3 (x y z : Int) (l : List Vec) : runX ctM0 noLoops 3 [.agg [i64 x, i64 y, i64 z, .sl 23 l false]] [4] =
  (.br (decide ((↑(List.length l) : Int) > (24 : Int)))
   (.leaf (.bool (true)))
   (.req (List.length l ≤ (24 : Nat))
   (.br (chk x y z l == chk x y z l)
    (.br (lenS x y z l == lenS x y z l)
     (.req (jnS x y z l = jnS x y z l ∧ List.length (jnS x y z l) ≤ (1000 : Nat))
     (.br (true)
      (.req (knS x y z l = knS x y z l ∧ List.length (knS x y z l) ≤ (1000 : Nat))
      (.br (true)
       (.br (x == x && (y == y && (z == z && true)))
        (.req (l = l ∧ List.length l ≤ (1000 : Nat))
        (.br (true)
         (.leaf (.bool (true)))
         (.leaf (.bool (false)))))
        (.leaf (.bool (false))))
       (.leaf (.bool (false)))))
      (.leaf (.bool (false)))))
     (.leaf (.bool (false))))
    (.leaf (.bool (false)))))) := by kernel_rfl
theorem s3 (x y z : Int) (l : List Vec) : (runX ctM0 noLoops 3 [.agg [i64 x, i64 y, i64 z, .sl 23 l false]] [4]).holds fun v => v = .bool true := by
  rw [tv3]
  have h1 := (len_jnS x y z l).1
  have h2 := len_knS x y z l
  have no : ∀ {b : Bool} {t : Tree (AV T)} {Q : AV T → Prop}, b = true → b = false → t.holds Q := fun h k => by rw [h] at k; cases k
  refine way (fun _ => rfl) fun c => ⟨by omega, wayB (fun _ => wayB (fun _ => ⟨⟨rfl, by omega⟩, wayB (fun _ => ⟨⟨rfl, by omega⟩, wayB (fun _ => wayB (fun _ => ⟨⟨rfl, by omega⟩, wayB (fun _ => rfl) (no rfl)⟩) (no (by simp))) (no rfl)⟩) (no rfl)⟩) (no (by simp))) (no (by simp))⟩
theorem pathChecks_proved : Rows.PathChecksSaid := pathChecks_said fun p hp => fact_run ctM0_ok noLoops_ok (ts := [4]) rfl (s3 p.From.X p.From.Y p.From.Z p.Legs)
end Go.Proofs.Ytmnhfjhlfgebiaa.W
