/- Paths: Check. No condition. -/
import Derived.Test.YtmnhfjhlfgebiaaC
set_option linter.unusedVariables false
set_option maxRecDepth 100000
noncomputable section
namespace Go.Proofs.Ytmnhfjhlfgebiaa.W
open Go Go.Cx Go.RowKit
noncomputable def vi (l : List Vec) (i : Int) : Vec := ixD E 23 l i
theorem drop_vi {l : List Vec} {i : Nat} (h : i < l.length) : l.drop i = vi l i :: l.drop (i + 1) := drop_ix (E := E) (τ := 23) h
@[reducible] def plP (x y z : Int) : Prop := (-1048576 ≤ x ∧ x ≤ 1048576) ∧ (-1048576 ≤ y ∧ y ≤ 1048576) ∧ (0 ≤ z ∧ z ≤ 1048576)
def plB (x y z : Int) : Bool := decide (plP x y z)
theorem plB_no {x y z : Int} (h : ¬ plP x y z) : AV.bool false = (.bool (plB x y z) : AV T) := congrArg AV.bool (decide_eq_false h).symm
theorem tv93 (x y z : Int) : runX ctT noLoops 93 [.agg [i64 x, i64 y, i64 z]] [4] =
  (.br (decide (x ≥ (-16777216 : Int)))
   (.br (decide (x ≤ (16777216 : Int)))
    (.br (decide (y ≥ (-16777216 : Int)))
     (.br (decide (y ≤ (16777216 : Int)))
      (.br (decide (z ≥ (-16777216 : Int)))
       (.br (!decide (z ≤ (16777216 : Int)))
        (.leaf (.bool (false)))
        (.leaf (.bool (sqB (IntKind.wrap IntKind.i64 (IntKind.wrap IntKind.i64 (IntKind.wrap IntKind.i64 (x * x) + IntKind.wrap IntKind.i64 (y * y)) + IntKind.wrap IntKind.i64 (z * z)))))))
       (.leaf (.bool (false))))
      (.leaf (.bool (false))))
     (.leaf (.bool (false))))
    (.leaf (.bool (false))))
   (.leaf (.bool (false)))) := by kernel_rfl
theorem tv88 (x y z : Int) : runX ctT noLoops 88 [.agg [i64 x, i64 y, i64 z]] [4] =
  (.br (within x (-1048576 : Int) (1048576 : Int))
   (.br (within y (-1048576 : Int) (1048576 : Int))
    (.leaf (.bool (within z (0 : Int) (1048576 : Int))))
    (.leaf (.bool (false))))
   (.leaf (.bool (false)))) := by kernel_rfl
theorem tv92 (x y z : Int) : runX ctT noLoops 92 [.agg [i64 x, i64 y, i64 z]] [4] =
  (.br (decide (x ≥ (-1048576 : Int)))
   (.br (decide (x ≤ (1048576 : Int)))
    (.br (decide (y ≥ (-1048576 : Int)))
     (.br (decide (y ≤ (1048576 : Int)))
      (.br (decide (z ≥ (-1048576 : Int)))
       (.br (decide (z ≤ (1048576 : Int)))
        (.leaf (.bool (decide (z ≥ (0 : Int)))))
        (.leaf (.bool (false))))
       (.leaf (.bool (false))))
      (.leaf (.bool (false))))
     (.leaf (.bool (false))))
    (.leaf (.bool (false))))
   (.leaf (.bool (false)))) := by kernel_rfl
theorem s93 (x y z : Int) : (runX ctT noLoops 93 [.agg [i64 x, i64 y, i64 z]] [4]).holds fun v => v = .bool (szB x y z) := by
  rw [tv93]
  have no : ¬ inP 16777216 x y z → AV.bool false = (.bool (szB x y z) : AV T) := fun h => congrArg AV.bool (decide_eq_false fun k => h k.1).symm
  refine way (fun c1 => way (fun c2 => way (fun c3 => way (fun c4 => way (fun c5 => wayB (fun c6 => ?_) fun c6 => ?_) fun c => ?_) fun c => ?_) fun c => ?_) fun c => ?_) fun c => ?_
  · exact no fun h => by
      have : decide (z ≤ 16777216) = true := decide_eq_true h.2.2.2
      rw [this] at c6; exact absurd c6 (by decide)
  · have c6 : decide (z ≤ 16777216) = true := by simpa using c6
    have c6 := of_decide_eq_true c6
    have h : inP 16777216 x y z := ⟨⟨c1, c2⟩, ⟨c3, c4⟩, ⟨c5, c6⟩⟩
    rw [q3_in h]
    exact congrArg AV.bool (decide_eq_decide.2 ⟨fun k => ⟨h, k⟩, fun k => k.2⟩)
  all_goals exact no fun h => c (by unfold inP at h; omega)
theorem s88 (x y z : Int) : (runX ctT noLoops 88 [.agg [i64 x, i64 y, i64 z]] [4]).holds fun v => v = .bool (plB x y z) := by
  rw [tv88]
  refine way (fun c1 => way (fun c2 => ?_) fun c => ?_) fun c => ?_
  · exact congrArg AV.bool (decide_eq_decide.2 ⟨fun k => ⟨c1, c2, k⟩, fun k => k.2.2⟩)
  · exact plB_no fun h => c h.2.1
  · exact plB_no fun h => c h.1
theorem s92 (x y z : Int) : (runX ctT noLoops 92 [.agg [i64 x, i64 y, i64 z]] [4]).holds fun v => v = .bool (plB x y z) := by
  rw [tv92]
  refine way (fun c1 => way (fun c2 => way (fun c3 => way (fun c4 => way (fun c5 => way (fun c6 => ?_) fun c => ?_) fun c => ?_) fun c => ?_) fun c => ?_) fun c => ?_) fun c => ?_
  · exact congrArg AV.bool (decide_eq_decide.2 ⟨fun k => ⟨⟨c1, c2⟩, ⟨c3, c4⟩, ⟨k, c6⟩⟩, fun k => k.2.2.1⟩)
  all_goals exact plB_no fun h => c (by unfold plP at h; omega)
noncomputable def cB3 (f : Int → Int → Int → Bool) : Con T := conV Try.prog [sh3] [.n, .n, .n] fun d => .bool (f d.1 d.2.1 d.2.2.1)
theorem whole_ok : ConOk Try.prog E 93 (cB3 szB) := conV_ok fun d => fact_run ctT_ok noLoops_ok (ts := [4]) rfl (s93 d.1 d.2.1 d.2.2.1)
theorem isPlace_ok : ConOk Try.prog E 88 (cB3 plB) := conV_ok fun d => fact_run ctT_ok noLoops_ok (ts := [4]) rfl (s88 d.1 d.2.1 d.2.2.1)
theorem place_ok : ConOk Try.prog E 92 (cB3 plB) := conV_ok fun d => fact_run ctT_ok noLoops_ok (ts := [4]) rfl (s92 d.1 d.2.1 d.2.2.1)
noncomputable def ctP : CTab T := (93, cB3 szB) :: (88, cB3 plB) :: (92, cB3 plB) :: ctT
theorem ctP_ok : CTabOk Try.prog E ctP := .cons whole_ok (.cons isPlace_ok (.cons place_ok ctT_ok))
/-! ### the first error of a path -/
noncomputable def pE : Bool → Vec → Int → Int → Int → List Vec → Int
  | _, _, _, _, _, [] => 0
  | first, p, x, y, z, v :: r =>
    if szB v.X v.Y v.Z = true then
      if within (szN v.X v.Y v.Z) 100 131072 = true then
        if first = false ∧ dot v.X v.Y v.Z p.X p.Y p.Z ≤ 0 then 12
        else if plB (x + v.X) (y + v.Y) (z + v.Z) = true then pE false v (x + v.X) (y + v.Y) (z + v.Z) r else 2
      else 2
    else 3
noncomputable def pX (l : List Vec) (x y z i : Int) : Int := pE (decide (i = 0)) (vi l (i - 1)) x y z (l.drop i.toNat)
noncomputable def inv22 (l : List Vec) (n i x y z : Int) : Prop := ((0 ≤ i ∧ n = l.length) ∧ l.length ≤ 20) ∧ plP x y z ∧ (i = 0 ∨ lgP (vi l (i - 1)).X (vi l (i - 1)).Y (vi l (i - 1)).Z)
noncomputable def out22 (l : List Vec) (x y z i : Int) : Tree (Ex × List (V T)) := .br (decide (pX l x y z i = 0)) (.leaf (.exit 0, [])) (.leaf (.ret, [.n (pX l x y z i)]))
noncomputable def o22 (l : List Vec) (n i : Int) (l' : List Vec) (x y z : Int) : Tree (Ex × List (V T)) := .req (l' = l ∧ inv22 l n i x y z) (out22 l x y z i)
noncomputable def c22 : LoopC T := ⟨[.l 23, .n, .n, .n, .n, .n, .l 23, .n, .n, .n], ⟨51, [(1, .one (.o 0 0)), (3, .one (.o 1 0)), (18, .one (.s 23)), (19, .one (.i .i64)), (20, .one (.i .i64))], [.c [.i .i64, .i .i64, .i .i64, .s 23], .c [.i .i64, .i .i64, .i .i64]]⟩, fun e => match e with
    | .ret => ⟨51, [(2, .one (.i .i64))], []⟩
    | _ => ⟨51, [], []⟩, 20, fun d => o22 d.1 d.2.1 d.2.2.1 d.2.2.2.2.2.2.1 d.2.2.2.2.2.2.2.1 d.2.2.2.2.2.2.2.2.1 d.2.2.2.2.2.2.2.2.2.1⟩
theorem b22 (l : List Vec) (n i a b c : Int) (x y z : Int) : bodyD Try.prog E c22 0 (bodyX Try.prog E ctP noLoops 1000 5 L0 (lpOf Try.prog 22 0)) (l, n, i, a, b, c, l, x, y, z, ()) =
  (.br (decide (i < n))
   (.req ((decide ((0 : Int) ≤ i) && decide (i < (↑(List.length l) : Int))) = true)
   (.br (!szB (Vec.X (vi l i)) (Vec.Y (vi l i)) (Vec.Z (vi l i)))
    (.leaf (.inr (.ret, [.n ((3 : Int))])))
    (.br (!within (szN (Vec.X (vi l i)) (Vec.Y (vi l i)) (Vec.Z (vi l i))) (100 : Int) (131072 : Int))
     (.leaf (.inr (.ret, [.n ((2 : Int))])))
     (.br (decide (i > (0 : Int)))
      (.req ((decide ((0 : Int) ≤ IntKind.wrap IntKind.i64 (i - (1 : Int))) && decide (IntKind.wrap IntKind.i64 (i - (1 : Int)) < (↑(List.length l) : Int))) = true)
      (.br (decide (IntKind.wrap IntKind.i64 (IntKind.wrap IntKind.i64 (IntKind.wrap IntKind.i64 (Vec.X (vi l i) * Vec.X (vi l (IntKind.wrap IntKind.i64 (i - (1 : Int))))) + IntKind.wrap IntKind.i64 (Vec.Y (vi l i) * Vec.Y (vi l (IntKind.wrap IntKind.i64 (i - (1 : Int)))))) + IntKind.wrap IntKind.i64 (Vec.Z (vi l i) * Vec.Z (vi l (IntKind.wrap IntKind.i64 (i - (1 : Int)))))) ≤ (0 : Int)))
       (.leaf (.inr (.ret, [.n ((12 : Int))])))
       (.br (!plB (IntKind.wrap IntKind.i64 (x + Vec.X (vi l i))) (IntKind.wrap IntKind.i64 (y + Vec.Y (vi l i))) (IntKind.wrap IntKind.i64 (z + Vec.Z (vi l i))))
        (.leaf (.inr (.ret, [.n ((2 : Int))])))
        (.leaf (.inl (l, (n, (IntKind.wrap IntKind.i64 (i + (1 : Int)), (a, (b, (c, (l, (IntKind.wrap IntKind.i64 (x + Vec.X (vi l i)), (IntKind.wrap IntKind.i64 (y + Vec.Y (vi l i)), (IntKind.wrap IntKind.i64 (z + Vec.Z (vi l i)), ())))))))))))))))
      (.br (!plB (IntKind.wrap IntKind.i64 (x + Vec.X (vi l i))) (IntKind.wrap IntKind.i64 (y + Vec.Y (vi l i))) (IntKind.wrap IntKind.i64 (z + Vec.Z (vi l i))))
       (.leaf (.inr (.ret, [.n ((2 : Int))])))
       (.leaf (.inl (l, (n, (IntKind.wrap IntKind.i64 (i + (1 : Int)), (a, (b, (c, (l, (IntKind.wrap IntKind.i64 (x + Vec.X (vi l i)), (IntKind.wrap IntKind.i64 (y + Vec.Y (vi l i)), (IntKind.wrap IntKind.i64 (z + Vec.Z (vi l i)), ())))))))))))))))))
   (.leaf (.inr (.exit (0 : Nat), [])))) := by kernel_rfl
noncomputable def o23 (i : Int) (l : List Vec) (x y z : Int) : Tree (Ex × List (V T)) := .req (inv22 l l.length i x y z) (out22 l x y z i)
noncomputable def c23 : LoopC T := ⟨[.n, .n, .n, .n, .l 23, .n, .n, .n], ⟨63, [(1, .one (.o 0 0)), (3, .one (.o 1 0)), (4, .one (.i .i64))], [.c [.i .i64, .i .i64, .i .i64, .s 23], .c [.i .i64, .i .i64, .i .i64]]⟩, fun e => match e with
    | .ret => ⟨63, [(2, .one (.i .i64))], []⟩
    | _ => ⟨63, [], []⟩, 20, fun d => o23 d.1 d.2.2.2.2.1 d.2.2.2.2.2.1 d.2.2.2.2.2.2.1 d.2.2.2.2.2.2.2.1⟩
theorem b23 (i a b c : Int) (l : List Vec) (x y z : Int) : bodyD Try.prog E c23 0 (bodyX Try.prog E ctP noLoops 1000 5 L0 (lpOf Try.prog 23 0)) (i, a, b, c, l, x, y, z, ()) =
  (.br (decide (i < (↑(List.length l) : Int)))
   (.req ((decide ((0 : Int) ≤ i) && decide (i < (↑(List.length l) : Int))) = true)
   (.br (!szB (Vec.X (vi l i)) (Vec.Y (vi l i)) (Vec.Z (vi l i)))
    (.leaf (.inr (.ret, [.n ((3 : Int))])))
    (.br (!lgB (Vec.X (vi l i)) (Vec.Y (vi l i)) (Vec.Z (vi l i)))
     (.leaf (.inr (.ret, [.n ((2 : Int))])))
     (.br (decide (lgN (Vec.X (vi l i)) (Vec.Y (vi l i)) (Vec.Z (vi l i)) < (100 : Int)))
      (.leaf (.inr (.ret, [.n ((2 : Int))])))
      (.br (decide (i > (0 : Int)))
       (.req ((decide ((0 : Int) ≤ IntKind.wrap IntKind.i64 (i - (1 : Int))) && decide (IntKind.wrap IntKind.i64 (i - (1 : Int)) < (↑(List.length l) : Int))) = true)
       (.br (decide (IntKind.wrap IntKind.i64 (IntKind.wrap IntKind.i64 (IntKind.wrap IntKind.i64 (Vec.X (vi l (IntKind.wrap IntKind.i64 (i - (1 : Int)))) * Vec.X (vi l i)) + IntKind.wrap IntKind.i64 (Vec.Y (vi l (IntKind.wrap IntKind.i64 (i - (1 : Int)))) * Vec.Y (vi l i))) + IntKind.wrap IntKind.i64 (Vec.Z (vi l (IntKind.wrap IntKind.i64 (i - (1 : Int)))) * Vec.Z (vi l i))) ≤ (0 : Int)))
        (.leaf (.inr (.ret, [.n ((12 : Int))])))
        (.br (!plB (IntKind.wrap IntKind.i64 (x + Vec.X (vi l i))) (IntKind.wrap IntKind.i64 (y + Vec.Y (vi l i))) (IntKind.wrap IntKind.i64 (z + Vec.Z (vi l i))))
         (.leaf (.inr (.ret, [.n ((2 : Int))])))
         (.leaf (.inl (IntKind.wrap IntKind.i64 (i + (1 : Int)), (a, (b, (c, (l, (IntKind.wrap IntKind.i64 (x + Vec.X (vi l i)), (IntKind.wrap IntKind.i64 (y + Vec.Y (vi l i)), (IntKind.wrap IntKind.i64 (z + Vec.Z (vi l i)), ())))))))))))))
       (.br (!plB (IntKind.wrap IntKind.i64 (x + Vec.X (vi l i))) (IntKind.wrap IntKind.i64 (y + Vec.Y (vi l i))) (IntKind.wrap IntKind.i64 (z + Vec.Z (vi l i))))
        (.leaf (.inr (.ret, [.n ((2 : Int))])))
        (.leaf (.inl (IntKind.wrap IntKind.i64 (i + (1 : Int)), (a, (b, (c, (l, (IntKind.wrap IntKind.i64 (x + Vec.X (vi l i)), (IntKind.wrap IntKind.i64 (y + Vec.Y (vi l i)), (IntKind.wrap IntKind.i64 (z + Vec.Z (vi l i)), ()))))))))))))))))
   (.leaf (.inr (.exit (0 : Nat), [])))) := by kernel_rfl
theorem dot_comm {a b c x y z : Int} : dot a b c x y z = dot x y z a b c := by unfold dot; grind
theorem pX_cons {l : List Vec} {i : Nat} {x y z : Int} (h : i < l.length) : pX l x y z i =
    if szB (vi l i).X (vi l i).Y (vi l i).Z = true then
      if within (szN (vi l i).X (vi l i).Y (vi l i).Z) 100 131072 = true then
        if ¬ (i : Int) = 0 ∧ dot (vi l i).X (vi l i).Y (vi l i).Z (vi l ((i : Int) - 1)).X (vi l ((i : Int) - 1)).Y (vi l ((i : Int) - 1)).Z ≤ 0 then 12
        else if plB (x + (vi l i).X) (y + (vi l i).Y) (z + (vi l i).Z) = true then pX l (x + (vi l i).X) (y + (vi l i).Y) (z + (vi l i).Z) ((i + 1 : Nat) : Int) else 2
      else 2
    else 3 := by
  have e : pX l (x + (vi l i).X) (y + (vi l i).Y) (z + (vi l i).Z) ((i + 1 : Nat) : Int) = pE false (vi l i) (x + (vi l i).X) (y + (vi l i).Y) (z + (vi l i).Z) (l.drop (i + 1)) := by
    unfold pX
    rw [show (((i + 1 : Nat) : Int)).toNat = i + 1 from Int.toNat_natCast _, show ((i + 1 : Nat) : Int) - 1 = (i : Int) by omega, decide_eq_false (by omega : ¬ ((i + 1 : Nat) : Int) = 0)]
  rw [e]
  show pE _ _ _ _ _ (l.drop (i : Int).toNat) = _
  rw [show (i : Int).toNat = i from Int.toNat_natCast i, drop_vi h]
  show (if _ then if _ then if decide ((i : Int) = 0) = false ∧ _ then _ else _ else _ else _) = _
  simp only [decide_eq_false_iff_not]

theorem h22' (l : List Vec) (i : Nat) (a b c x y z : Int) (K : Ex × List (V T) → Prop) (h : inv22 l l.length i x y z) (hK : (out22 l x y z i).holds K) :
    (bodyD Try.prog E c22 0 (bodyX Try.prog E ctP noLoops 1000 5 L0 (lpOf Try.prog 22 0)) (l, l.length, i, a, b, c, l, x, y, z, ())).holds fun y => match y with
    | .inl d => ((d.1.length : Int) - d.2.2.1).toNat < ((l.length : Int) - (i : Int)).toNat ∧ (c22.out d).holds K
    | .inr y => K y := by
  rw [b22]
  obtain ⟨⟨⟨h0, _⟩, hlen⟩, hp, hprev⟩ := h
  unfold out22 at hK
  have hR : ∀ e : Int, e ≠ 0 → pX l x y z i = e → K (.ret, [.n e]) := fun e he hx => by
    rw [hx] at hK; exact hK.2 (decide_eq_false he)
  have hN : ∀ x' y' z' : Int, pX l x y z i = pX l x' y' z' ((i + 1 : Nat) : Int) → (out22 l x' y' z' ((i + 1 : Nat) : Int)).holds K := fun x' y' z' e => by
    unfold out22; rw [← e]; exact hK
  refine way (fun c1 => wayC (by omega) c1 fun _ _ => ?_) fun c1 => ?_
  · have hi : i < l.length := by omega
    have e2 : IntKind.wrap IntKind.i64 ((i : Int) + 1) = ((i + 1 : Nat) : Int) := i64_in' (by omega) (by omega)
    have e3 : IntKind.wrap IntKind.i64 ((i : Int) - 1) = (i : Int) - 1 := i64_in' (by omega) (by omega)
    rw [e2, e3]
    have hc := pX_cons (x := x) (y := y) (z := z) hi
    have hnx : vi l (((i + 1 : Nat) : Int) - 1) = vi l i := by congr 1; omega
    refine wayB (fun k => hR 3 (by decide) (by rw [hc, if_neg (by simpa using k)])) fun k1 => wayB (fun k => hR 2 (by decide) (by rw [hc, if_pos (notB k1), if_neg (notB' k)])) fun k2 => ?_
    have s1 := notB k1
    have s2 := notB k2
    have hv : lgP (vi l i).X (vi l i).Y (vi l i).Z := lgP_iff.2 ⟨s1, decide_eq_true (by have := of_decide_eq_true s2; omega)⟩
    have e4 : IntKind.wrap IntKind.i64 (x + (vi l i).X) = x + (vi l i).X := i64_in' (by have := hv.1; unfold inP at this; unfold plP at hp; omega) (by have := hv.1; unfold inP at this; unfold plP at hp; omega)
    have e5 : IntKind.wrap IntKind.i64 (y + (vi l i).Y) = y + (vi l i).Y := i64_in' (by have := hv.1; unfold inP at this; unfold plP at hp; omega) (by have := hv.1; unfold inP at this; unfold plP at hp; omega)
    have e6 : IntKind.wrap IntKind.i64 (z + (vi l i).Z) = z + (vi l i).Z := i64_in' (by have := hv.1; unfold inP at this; unfold plP at hp; omega) (by have := hv.1; unfold inP at this; unfold plP at hp; omega)
    rw [e4, e5, e6]
    rw [if_pos s1, if_pos s2] at hc
    have tR : ¬ (¬ (i : Int) = 0 ∧ dot (vi l i).X (vi l i).Y (vi l i).Z (vi l ((i : Int) - 1)).X (vi l ((i : Int) - 1)).Y (vi l ((i : Int) - 1)).Z ≤ 0) → (!plB (x + (vi l i).X) (y + (vi l i).Y) (z + (vi l i).Z)) = true → K (.ret, [.n 2]) := fun q k => by
      rw [if_neg q, if_neg (by simpa using k)] at hc
      exact hR 2 (by decide) hc
    have tN : ¬ (¬ (i : Int) = 0 ∧ dot (vi l i).X (vi l i).Y (vi l i).Z (vi l ((i : Int) - 1)).X (vi l ((i : Int) - 1)).Y (vi l ((i : Int) - 1)).Z ≤ 0) → (!plB (x + (vi l i).X) (y + (vi l i).Y) (z + (vi l i).Z)) = false → inv22 l l.length ((i + 1 : Nat) : Int) (x + (vi l i).X) (y + (vi l i).Y) (z + (vi l i).Z) ∧ (out22 l (x + (vi l i).X) (y + (vi l i).Y) (z + (vi l i).Z) ((i + 1 : Nat) : Int)).holds K := fun q k => by
      have k := notB k
      rw [if_neg q, if_pos k] at hc
      refine ⟨⟨⟨⟨by omega, rfl⟩, hlen⟩, of_decide_eq_true k, Or.inr ?_⟩, hN _ _ _ hc⟩
      rw [hnx]; exact hv
    have hm : ((l.length : Int) - ((i + 1 : Nat) : Int)).toNat < ((l.length : Int) - (i : Int)).toNat := by omega
    refine way (fun k3 => wayC (by omega) (by omega) fun _ _ => ?_) fun k3 => ?_
    · have hpv : lgP (vi l ((i : Int) - 1)).X (vi l ((i : Int) - 1)).Y (vi l ((i : Int) - 1)).Z := by
        rcases hprev with q | q
        · omega
        · exact q
      rw [dot_in hv.1 hpv.1]
      refine way (fun k4 => hR 12 (by decide) ?_) fun k4 => wayB (fun k => tR (fun q => k4 q.2) k) fun k => ?_
      · rw [if_pos ⟨by omega, k4⟩] at hc; exact hc
      · obtain ⟨q1, q2⟩ := tN (fun q => k4 q.2) k
        exact ⟨hm, ⟨rfl, q1⟩, q2⟩
    · refine wayB (fun k => tR (fun q => k3 (by omega)) k) fun k => ?_
      obtain ⟨q1, q2⟩ := tN (fun q => k3 (by omega)) k
      exact ⟨hm, ⟨rfl, q1⟩, q2⟩
  · have : pX l x y z i = 0 := by
      unfold pX
      rw [show (i : Int).toNat = i from Int.toNat_natCast i, List.drop_eq_nil_of_le (by omega)]
      rfl
    rw [this] at hK
    exact hK.1 (by decide)

theorem h23' (l : List Vec) (i : Nat) (a b c x y z : Int) (K : Ex × List (V T) → Prop) (h : inv22 l l.length i x y z) (hK : (out22 l x y z i).holds K) :
    (bodyD Try.prog E c23 0 (bodyX Try.prog E ctP noLoops 1000 5 L0 (lpOf Try.prog 23 0)) (i, a, b, c, l, x, y, z, ())).holds fun y => match y with
    | .inl d => ((d.2.2.2.2.1.length : Int) - d.1).toNat < ((l.length : Int) - (i : Int)).toNat ∧ (c23.out d).holds K
    | .inr y => K y := by
  rw [b23]
  obtain ⟨⟨⟨h0, _⟩, hlen⟩, hp, hprev⟩ := h
  unfold out22 at hK
  have hR : ∀ e : Int, e ≠ 0 → pX l x y z i = e → K (.ret, [.n e]) := fun e he hx => by
    rw [hx] at hK; exact hK.2 (decide_eq_false he)
  have hN : ∀ x' y' z' : Int, pX l x y z i = pX l x' y' z' ((i + 1 : Nat) : Int) → (out22 l x' y' z' ((i + 1 : Nat) : Int)).holds K := fun x' y' z' e => by
    unfold out22; rw [← e]; exact hK
  refine way (fun c1 => wayC (by omega) c1 fun _ _ => ?_) fun c1 => ?_
  · have hi : i < l.length := by omega
    have e2 : IntKind.wrap IntKind.i64 ((i : Int) + 1) = ((i + 1 : Nat) : Int) := i64_in' (by omega) (by omega)
    have e3 : IntKind.wrap IntKind.i64 ((i : Int) - 1) = (i : Int) - 1 := i64_in' (by omega) (by omega)
    rw [e2, e3]
    have hc := pX_cons (x := x) (y := y) (z := z) hi
    have hnx : vi l (((i + 1 : Nat) : Int) - 1) = vi l i := by congr 1; omega
    refine wayB (fun k => hR 3 (by decide) (by rw [hc, if_neg (by simpa using k)])) fun k1 => wayB (fun k => hR 2 (by decide) ?_) fun k2 => way (fun k => hR 2 (by decide) ?_) fun k3 => ?_
    · have s1 := notB k1
      rw [hc, if_pos s1, if_neg]
      intro s2
      exact notB' k (decide_eq_true (lgP_iff.2 ⟨s1, decide_eq_true (by have := of_decide_eq_true s2; omega)⟩))
    · have s1 := notB k1
      have hv : lgP (vi l i).X (vi l i).Y (vi l i).Z := of_decide_eq_true (notB k2)
      rw [lgN_ln hv] at k
      rw [hc, if_pos s1, if_neg]
      intro s2
      have := of_decide_eq_true s2
      rw [szN_ln hv] at this
      omega
    have s1 := notB k1
    have hv : lgP (vi l i).X (vi l i).Y (vi l i).Z := of_decide_eq_true (notB k2)
    rw [lgN_ln hv] at k3
    have s2 : within (szN (vi l i).X (vi l i).Y (vi l i).Z) 100 131072 = true := by
      rw [szN_ln hv]
      exact decide_eq_true ⟨by omega, hv.2.2.2⟩
    have e4 : IntKind.wrap IntKind.i64 (x + (vi l i).X) = x + (vi l i).X := i64_in' (by have := hv.1; unfold inP at this; unfold plP at hp; omega) (by have := hv.1; unfold inP at this; unfold plP at hp; omega)
    have e5 : IntKind.wrap IntKind.i64 (y + (vi l i).Y) = y + (vi l i).Y := i64_in' (by have := hv.1; unfold inP at this; unfold plP at hp; omega) (by have := hv.1; unfold inP at this; unfold plP at hp; omega)
    have e6 : IntKind.wrap IntKind.i64 (z + (vi l i).Z) = z + (vi l i).Z := i64_in' (by have := hv.1; unfold inP at this; unfold plP at hp; omega) (by have := hv.1; unfold inP at this; unfold plP at hp; omega)
    rw [e4, e5, e6]
    rw [if_pos s1, if_pos s2] at hc
    have tR : ¬ (¬ (i : Int) = 0 ∧ dot (vi l i).X (vi l i).Y (vi l i).Z (vi l ((i : Int) - 1)).X (vi l ((i : Int) - 1)).Y (vi l ((i : Int) - 1)).Z ≤ 0) → (!plB (x + (vi l i).X) (y + (vi l i).Y) (z + (vi l i).Z)) = true → K (.ret, [.n 2]) := fun q k => by
      rw [if_neg q, if_neg (by simpa using k)] at hc
      exact hR 2 (by decide) hc
    have tN : ¬ (¬ (i : Int) = 0 ∧ dot (vi l i).X (vi l i).Y (vi l i).Z (vi l ((i : Int) - 1)).X (vi l ((i : Int) - 1)).Y (vi l ((i : Int) - 1)).Z ≤ 0) → (!plB (x + (vi l i).X) (y + (vi l i).Y) (z + (vi l i).Z)) = false → inv22 l l.length ((i + 1 : Nat) : Int) (x + (vi l i).X) (y + (vi l i).Y) (z + (vi l i).Z) ∧ (out22 l (x + (vi l i).X) (y + (vi l i).Y) (z + (vi l i).Z) ((i + 1 : Nat) : Int)).holds K := fun q k => by
      have k := notB k
      rw [if_neg q, if_pos k] at hc
      refine ⟨⟨⟨⟨by omega, rfl⟩, hlen⟩, of_decide_eq_true k, Or.inr ?_⟩, hN _ _ _ hc⟩
      rw [hnx]; exact hv
    have hm : ((l.length : Int) - ((i + 1 : Nat) : Int)).toNat < ((l.length : Int) - (i : Int)).toNat := by omega
    refine way (fun k3 => wayC (by omega) (by omega) fun _ _ => ?_) fun k3 => ?_
    · have hpv : lgP (vi l ((i : Int) - 1)).X (vi l ((i : Int) - 1)).Y (vi l ((i : Int) - 1)).Z := by
        rcases hprev with q | q
        · omega
        · exact q
      rw [dot_in hpv.1 hv.1, dot_comm]
      refine way (fun k4 => hR 12 (by decide) ?_) fun k4 => wayB (fun k => tR (fun q => k4 q.2) k) fun k => ?_
      · rw [if_pos ⟨by omega, k4⟩] at hc; exact hc
      · obtain ⟨q1, q2⟩ := tN (fun q => k4 q.2) k
        exact ⟨hm, q1, q2⟩
    · refine wayB (fun k => tR (fun q => k3 (by omega)) k) fun k => ?_
      obtain ⟨q1, q2⟩ := tN (fun q => k3 (by omega)) k
      exact ⟨hm, q1, q2⟩
  · have : pX l x y z i = 0 := by
      unfold pX
      rw [show (i : Int).toNat = i from Int.toNat_natCast i, List.drop_eq_nil_of_le (by omega)]
      rfl
    rw [this] at hK
    exact hK.1 (by decide)

theorem h22 : LoopH Try.prog E c22 0 (bodyX Try.prog E ctP noLoops 1000 5 L0 (lpOf Try.prog 22 0)) :=
  ⟨fun d => ((d.1.length : Int) - d.2.2.1).toNat, fun d K hK => by
    obtain ⟨l, n, i, a, b, c, l', x, y, z, ⟨⟩⟩ := d
    obtain ⟨⟨k0, k1⟩, k6⟩ := hK
    obtain rfl : l' = l := k0
    obtain ⟨q, hq⟩ := Int.eq_ofNat_of_zero_le k1.1.1.1
    obtain rfl : i = (q : Int) := hq
    obtain rfl : n = ((l' : List Vec).length : Int) := k1.1.1.2
    refine Tree.holds_mono (fun y hy => ?_) (h22' l' q a b c x y z K k1 k6)
    cases y with
    | inl d' => exact hy
    | inr y => exact hy⟩
theorem ll22 : LLOk Try.prog E (llOf Try.prog E 22 [(7, c22)]) := llOf_ok fun i hi c hc => by
  have hi : i < 1 := hi
  obtain rfl : i = 0 := by omega
  obtain rfl : c22 = c := Option.some.inj hc
  exact LSnd.mk good names mixes ctP_ok (by decide) h22
theorem h23 : LoopH Try.prog E c23 0 (bodyX Try.prog E ctP noLoops 1000 5 L0 (lpOf Try.prog 23 0)) :=
  ⟨fun d => ((d.2.2.2.2.1.length : Int) - d.1).toNat, fun d K hK => by
    obtain ⟨i, a, b, c, l, x, y, z, ⟨⟩⟩ := d
    obtain ⟨k1, k6⟩ := hK
    obtain ⟨q, hq⟩ := Int.eq_ofNat_of_zero_le k1.1.1.1
    obtain rfl : i = (q : Int) := hq
    refine Tree.holds_mono (fun y hy => ?_) (h23' l q a b c x y z K k1 k6)
    cases y with
    | inl d' => exact hy
    | inr y => exact hy⟩
theorem ll23 : LLOk Try.prog E (llOf Try.prog E 23 [(7, c23)]) := llOf_ok fun i hi c hc => by
  have hi : i < 1 := hi
  obtain rfl : i = 0 := by omega
  obtain rfl : c23 = c := Option.some.inj hc
  exact LSnd.mk good names mixes ctP_ok (by decide) h23
noncomputable def chk (x y z : Int) (l : List Vec) : Int := if (l.length : Int) > 20 then 5 else if plP x y z then pX l x y z 0 else 2
theorem tv22 (x y z : Int) (l : List Vec) : runX ctP (llOf Try.prog E 22 [(7, c22)]) 22 [.agg [i64 x, i64 y, i64 z, .sl 23 l false]] [30] =
  (.br (decide ((↑(List.length l) : Int) > (20 : Int)))
   (.leaf (.sym .i64 ((5 : Int))))
   (.br (!plB x y z)
    (.leaf (.sym .i64 ((2 : Int))))
    (.req (l = l ∧ inv22 l (↑(List.length l) : Int) (0 : Int) x y z)
    (.br (decide (pX l x y z (0 : Int) = (0 : Int)))
     (.leaf (.sym .i64 ((0 : Int))))
     (.leaf (.sym .i64 (pX l x y z (0 : Int)))))))) := by kernel_rfl
theorem tv23 (x y z : Int) (l : List Vec) : runX ctP (llOf Try.prog E 23 [(7, c23)]) 23 [.agg [i64 x, i64 y, i64 z, .sl 23 l false]] [30] =
  (.br (decide ((↑(List.length l) : Int) > (20 : Int)))
   (.leaf (.sym .i64 ((5 : Int))))
   (.br (!plB x y z)
    (.leaf (.sym .i64 ((2 : Int))))
    (.req (inv22 l (↑(List.length l) : Int) (0 : Int) x y z)
    (.br (decide (pX l x y z (0 : Int) = (0 : Int)))
     (.leaf (.sym .i64 ((0 : Int))))
     (.leaf (.sym .i64 (pX l x y z (0 : Int)))))))) := by kernel_rfl

theorem chk_t {x y z : Int} {l : List Vec} (P : Prop) (hP : (l.length : Int) ≤ 20 → plP x y z → P) : (Tree.br (decide (↑(List.length l) > (20 : Int))) (.leaf (i64 5)) (.br (!plB x y z) (.leaf (i64 2)) (.req P (.br (decide (pX l x y z (0 : Int) = (0 : Int))) (.leaf (i64 0)) (.leaf (i64 (pX l x y z (0 : Int))))))) : Tree (AV T)).holds fun v => v = i64 (chk x y z l) := by
  unfold chk
  refine way (fun c => ?_) fun c => wayB (fun k => ?_) fun k => ⟨hP (by omega) (of_decide_eq_true (notB k)), way (fun q => ?_) fun q => ?_⟩
  · rw [if_pos c]; rfl
  · rw [if_neg c, if_neg (fun h => notB' k (decide_eq_true h))]; rfl
  · rw [if_neg c, if_pos (of_decide_eq_true (notB k)), q]; rfl
  · rw [if_neg c, if_pos (of_decide_eq_true (notB k))]; rfl
theorem s22 (x y z : Int) (l : List Vec) : (runX ctP (llOf Try.prog E 22 [(7, c22)]) 22 [.agg [i64 x, i64 y, i64 z, .sl 23 l false]] [30]).holds fun v => v = i64 (chk x y z l) := by
  rw [tv22]
  exact chk_t _ fun h1 h2 => ⟨rfl, ⟨⟨by decide, rfl⟩, by omega⟩, h2, Or.inl rfl⟩
theorem s23 (x y z : Int) (l : List Vec) : (runX ctP (llOf Try.prog E 23 [(7, c23)]) 23 [.agg [i64 x, i64 y, i64 z, .sl 23 l false]] [30]).holds fun v => v = i64 (chk x y z l) := by
  rw [tv23]
  exact chk_t _ fun h1 h2 => ⟨⟨⟨by decide, rfl⟩, by omega⟩, h2, Or.inl rfl⟩
@[reducible] def shP : Sh := .agg [.i .i64, .i .i64, .i .i64, .s 23]
noncomputable def cChk : Con T := conV Try.prog [shP] [.n, .n, .n, .l 23] fun d => i64 (chk d.1 d.2.1 d.2.2.1 d.2.2.2.1)
theorem chk_ok : ConOk Try.prog E 22 cChk := conV_ok fun d => fact_run ctP_ok ll22 (ts := [30]) rfl (s22 d.1 d.2.1 d.2.2.1 d.2.2.2.1)
theorem chk2_ok : ConOk Try.prog E 23 cChk := conV_ok fun d => fact_run ctP_ok ll23 (ts := [30]) rfl (s23 d.1 d.2.1 d.2.2.1 d.2.2.2.1)
end Go.Proofs.Ytmnhfjhlfgebiaa.W
