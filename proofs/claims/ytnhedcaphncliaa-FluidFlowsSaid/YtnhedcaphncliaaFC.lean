/- FluidFlows: the loss above a place. No condition. -/
import Derived.Test.YtnhedcaphncliaaFB
set_option linter.unusedVariables false
set_option maxRecDepth 100000
set_option maxHeartbeats 4000000
noncomputable section
namespace Go.Proofs.Ytnhedcaphncliaa.W.Hole
open Go Go.Cx Go.RowKit
noncomputable def grS (s : Seg) (Y W q : Int) : Int := grN s.Long s.Rise s.Area s.Gap Y W q
noncomputable def gbS (s : Seg) (Y W q : Int) : Bool := grB s.Long s.Rise s.Area s.Gap Y W q
noncomputable def mn2 (a b : Int) : Int := if b < a then b else a
noncomputable def mx2 (a b : Int) : Int := if b > a then b else a
noncomputable def abv (s : Seg) (low u : Int) : Int := mx2 0 (mn2 (s.Long * s.Area) (low + s.Long * s.Area - u))
noncomputable def lsB (Y W q : Int) : List Seg → Bool
  | [] => true
  | s :: r => if gbS s Y W q = true then lsB Y W q r else false
noncomputable def lsL (Y W q u : Int) : List Seg → Int → Int → Int
  | [], _, z => z
  | s :: r, low, z => lsL Y W q u r (low + s.Long * s.Area) (z + grS s Y W q * (abv s low u / s.Area))
noncomputable def lsH (Y W q u : Int) : List Seg → Int → Int → Int
  | [], _, z => z
  | s :: r, low, z => lsH Y W q u r (low + s.Long * s.Area) (z + grS s Y W q * -(-abv s low u / s.Area))
/-- What is summed until a segment does not flow. -/
noncomputable def zR (Y W q u : Int) : List Seg → Int → Int → Int
  | [], _, z => z
  | s :: r, low, z => if gbS s Y W q = true then zR Y W q u r (low + s.Long * s.Area) (z + grS s Y W q * (abv s low u / s.Area)) else z
noncomputable def zH (Y W q u : Int) : List Seg → Int → Int → Int
  | [], _, z => z
  | s :: r, low, z => if gbS s Y W q = true then zH Y W q u r (low + s.Long * s.Area) (z + grS s Y W q * -(-abv s low u / s.Area)) else z
theorem grN_bd {L R A G Y V q : Int} : 0 ≤ grN L R A G Y V q ∧ grN L R A G Y V q ≤ 20000 := by
  unfold grN gN
  split
  · split
    · rename_i h; exact (gl_spec h).1
    · decide
  · decide
theorem gb_vf {s : Seg} {Y W q : Int} (h : gbS s Y W q = true) : Go.Proofs.Ytnhedcaphncliaa.W.vf s.Long s.Rise s.Area s.Gap Y W q := by
  unfold gbS grB at h
  rw [Bool.and_eq_true] at h
  exact of_decide_eq_true h.1
structure Ab (s : Seg) (low u : Int) : Prop where
  la : 1 ≤ s.Long * s.Area ∧ s.Long * s.Area ≤ 5242880000
  ab : 0 ≤ abv s low u ∧ abv s low u ≤ s.Long * s.Area
  e1 : mx2 0 (low + s.Long * s.Area - mx2 u low) = abv s low u
  lo : 0 ≤ abv s low u / s.Area ∧ abv s low u / s.Area ≤ 1048576
  hi : 0 ≤ -(-abv s low u / s.Area) ∧ -(-abv s low u / s.Area) ≤ 1048576
  pr : 0 ≤ s.Long * abv s low u ∧ s.Long * abv s low u ≤ 5497558138880000
  q1 : s.Long * abv s low u / (s.Long * s.Area) = abv s low u / s.Area
  q2 : -(s.Long * abv s low u) / (s.Long * s.Area) = -abv s low u / s.Area
theorem ab_ok {s : Seg} {low u : Int} (hL : 1 ≤ s.Long ∧ s.Long ≤ 1048576) (hA : 1 ≤ s.Area ∧ s.Area ≤ 5000) (h0 : 0 ≤ low) (hu : 0 ≤ u) : Ab s low u := by
  have la := mulb (show 0 ≤ s.Long by omega) hL.2 (show 0 ≤ s.Area by omega) hA.2
  have l1 := Int.mul_pos (show 0 < s.Long by omega) (show 0 < s.Area by omega)
  have ab : 0 ≤ abv s low u ∧ abv s low u ≤ s.Long * s.Area := by
    unfold abv mx2 mn2
    generalize s.Long * s.Area = z at *
    repeat' split
    all_goals omega
  refine ⟨⟨by omega, by omega⟩, ab, ?_, ⟨Int.ediv_nonneg ab.1 (by omega), ?_⟩, ⟨up_nonneg ab.1 (by omega), ?_⟩, ?_, Int.mul_ediv_mul_of_pos _ _ (by omega), ?_⟩
  · unfold abv mx2 mn2
    generalize s.Long * s.Area = z at *
    repeat' split
    all_goals omega
  · have := Int.ediv_le_of_le_mul (show 0 < s.Area by omega) ab.2
    omega
  · have := Int.le_ediv_of_mul_le (a := -s.Long) (b := -abv s low u) (show 0 < s.Area by omega) (by rw [Int.neg_mul]; omega)
    omega
  · have := mulb (show 0 ≤ s.Long by omega) hL.2 ab.1 (show abv s low u ≤ 5242880000 by omega)
    omega
  · rw [← Int.mul_neg]
    exact Int.mul_ediv_mul_of_pos _ _ (by omega)
noncomputable def oLp (low : Int) (l : List Seg) (m : Int) (i : Int) (Y : Int) (W : Int) (q : Int) (u : Int) (a0 : Int) (a1 : Int) (b : Bool) (z0 : Int) (z1 : Int) : Tree (Ex × List (V T)) := .req ((((0 ≤ i ∧ m = l.length) ∧ inLg l) ∧ l.length ≤ 16 ∧ allS l = true ∧ 0 ≤ u ∧ u ≤ 1099511627776) ∧ (0 ≤ low ∧ low ≤ 5242880000 * i) ∧ (0 ≤ z0 ∧ z0 ≤ 21000000000 * i) ∧ 0 ≤ z1 ∧ z1 ≤ 21000000000 * i) (.br (lsB Y W q (l.drop i.toNat)) (.leaf (.exit 0, [.n Y, .n W, .n q, .n u, .n a0, .n a1, .t b, .n (lsL Y W q u (l.drop i.toNat) low z0), .n (lsH Y W q u (l.drop i.toNat) low z1)])) (.leaf (.ret, [.n Y, .n W, .n q, .n u, .n 0, .n 0, .t false, .n (zR Y W q u (l.drop i.toNat) low z0), .n (zH Y W q u (l.drop i.toNat) low z1)])))
noncomputable def cLp : LoopC T := ⟨[.n, .l 52, .n, .n, .n, .n, .n, .n, .n, .n, .t, .n, .n], ⟨32, [(0, .one (.y 0)), (3, .one (.i .i64)), (8, .one (.s 52)), (9, .one (.i .i64)), (10, .one (.i .i64))], [.fx 8 (.lp 85 [(5, .one (.o 1 0)), (6, .one (.o 2 0)), (7, .one (.o 3 0)), (8, .one (.o 4 0)), (9, .one (.o 5 0)), (10, .one (.o 6 0))] (rfOf Try.prog 42 0) 0), .fx 1 (.c [.i .i64, .i .i64]), .fx 2 (.c [.i .i64]), .fx 3 (.c [.i .i64]), .fx 4 (.c [.i .i64, .i .i64]), .fx 5 (.c [.b]), .fx 6 (.c [.i .i64, .i .i64])]⟩, fun e => match e with
    | .ret => ⟨32, [], [.fx 8 (.lp 85 [(5, .one (.o 1 0)), (6, .one (.o 2 0)), (7, .one (.o 3 0)), (8, .one (.o 4 0)), (9, .one (.o 5 0)), (10, .one (.o 6 0))] (rfOf Try.prog 42 0) 1), .fx 1 (.c [.i .i64, .i .i64]), .fx 2 (.c [.i .i64]), .fx 3 (.c [.i .i64]), .fx 4 (.c [.i .i64, .i .i64]), .fx 5 (.c [.b]), .fx 6 (.c [.i .i64, .i .i64])]⟩
    | _ => ⟨32, [], [.fx 8 (.lp 85 [(5, .one (.o 1 0)), (6, .one (.o 2 0)), (7, .one (.o 3 0)), (8, .one (.o 4 0)), (9, .one (.o 5 0)), (10, .one (.o 6 0))] (rfOf Try.prog 42 0) 0), .fx 1 (.c [.i .i64, .i .i64]), .fx 2 (.c [.i .i64]), .fx 3 (.c [.i .i64]), .fx 4 (.c [.i .i64, .i .i64]), .fx 5 (.c [.b]), .fx 6 (.c [.i .i64, .i .i64])]⟩, 30, fun d => oLp d.1 d.2.1 d.2.2.1 d.2.2.2.1 d.2.2.2.2.1 d.2.2.2.2.2.1 d.2.2.2.2.2.2.1 d.2.2.2.2.2.2.2.1 d.2.2.2.2.2.2.2.2.1 d.2.2.2.2.2.2.2.2.2.1 d.2.2.2.2.2.2.2.2.2.2.1 d.2.2.2.2.2.2.2.2.2.2.2.1 d.2.2.2.2.2.2.2.2.2.2.2.2.1⟩
theorem bLp (low : Int) (l : List Seg) (m : Int) (i : Int) (Y : Int) (W : Int) (q : Int) (u : Int) (a0 : Int) (a1 : Int) (b : Bool) (z0 : Int) (z1 : Int) : bodyD Try.prog E cLp 9 (bodyX Try.prog E ctLo noLoops 1000 5 L0 (lpOf Try.prog 92 0)) (low, l, m, i, Y, W, q, u, a0, a1, b, z0, z1, ()) =
  (.br (decide (i < m))
   (.req ((decide ((0 : Int) ≤ i) && decide (i < (↑(List.length l) : Int))) = true)
   (.req ((-9223372036854775808 : Int) ≤ Seg.Long (si l i) ∧ Seg.Long (si l i) ≤ (9223372036854775807 : Int))
   (.br (!grB (Seg.Long (si l i)) (Seg.Rise (si l i)) (Seg.Area (si l i)) (Seg.Gap (si l i)) Y W q)
    (.req (RecIs (rfOf Try.prog (42 : Nat) (0 : Nat)) (rfOf Try.prog (42 : Nat) (0 : Nat)))
    (.leaf (.inr (.ret, [.n (Y), .n (W), .n (q), .n (u), .n ((0 : Int)), .n ((0 : Int)), .t (false), .n (z0), .n (z1)]))))
    (.req (qPre (IntKind.wrap IntKind.i64 (Seg.Long (si l i) * (mx2 ((0 : Int)) (IntKind.wrap IntKind.i64 (IntKind.wrap IntKind.i64 (low + IntKind.wrap IntKind.i64 (Seg.Long (si l i) * Seg.Area (si l i))) - (mx2 (u) (low))))))) (IntKind.wrap IntKind.i64 (IntKind.wrap IntKind.i64 (low + IntKind.wrap IntKind.i64 (Seg.Long (si l i) * Seg.Area (si l i))) - low)))
    (.req (qPre (IntKind.wrap IntKind.i64 (Seg.Long (si l i) * (mx2 ((0 : Int)) (IntKind.wrap IntKind.i64 (IntKind.wrap IntKind.i64 (low + IntKind.wrap IntKind.i64 (Seg.Long (si l i) * Seg.Area (si l i))) - (mx2 (u) (low))))))) (IntKind.wrap IntKind.i64 (IntKind.wrap IntKind.i64 (low + IntKind.wrap IntKind.i64 (Seg.Long (si l i) * Seg.Area (si l i))) - low)))
    (.req (RecIs (rfOf Try.prog (42 : Nat) (0 : Nat)) (rfOf Try.prog (42 : Nat) (0 : Nat)))
    (.leaf (.inl (IntKind.wrap IntKind.i64 (low + IntKind.wrap IntKind.i64 (Seg.Long (si l i) * Seg.Area (si l i))), (l, (m, (IntKind.wrap IntKind.i64 (i + (1 : Int)), (Y, (W, (q, (u, (a0, (a1, (b, (IntKind.wrap IntKind.i64 (z0 + IntKind.wrap IntKind.i64 (grN (Seg.Long (si l i)) (Seg.Rise (si l i)) (Seg.Area (si l i)) (Seg.Gap (si l i)) Y W q * (IntKind.wrap IntKind.i64 (Seg.Long (si l i) * (mx2 ((0 : Int)) (IntKind.wrap IntKind.i64 (IntKind.wrap IntKind.i64 (low + IntKind.wrap IntKind.i64 (Seg.Long (si l i) * Seg.Area (si l i))) - (mx2 (u) (low)))))) / IntKind.wrap IntKind.i64 (IntKind.wrap IntKind.i64 (low + IntKind.wrap IntKind.i64 (Seg.Long (si l i) * Seg.Area (si l i))) - low)))), (IntKind.wrap IntKind.i64 (z1 + IntKind.wrap IntKind.i64 (grN (Seg.Long (si l i)) (Seg.Rise (si l i)) (Seg.Area (si l i)) (Seg.Gap (si l i)) Y W q * -(-IntKind.wrap IntKind.i64 (Seg.Long (si l i) * (mx2 ((0 : Int)) (IntKind.wrap IntKind.i64 (IntKind.wrap IntKind.i64 (low + IntKind.wrap IntKind.i64 (Seg.Long (si l i) * Seg.Area (si l i))) - (mx2 (u) (low)))))) / IntKind.wrap IntKind.i64 (IntKind.wrap IntKind.i64 (low + IntKind.wrap IntKind.i64 (Seg.Long (si l i) * Seg.Area (si l i))) - low)))), ())))))))))))))))))))))
   (.req (RecIs (rfOf Try.prog (42 : Nat) (0 : Nat)) (rfOf Try.prog (42 : Nat) (0 : Nat)))
   (.leaf (.inr (.exit (0 : Nat), [.n (Y), .n (W), .n (q), .n (u), .n (a0), .n (a1), .t (b), .n (z0), .n (z1)]))))) := by kernel_rfl
theorem nLp (low : Int) (l : List Seg) (m : Int) (i : Int) (Y : Int) (W : Int) (q : Int) (u : Int) (a0 : Int) (a1 : Int) (b : Bool) (z0 : Int) (z1 : Int) (K : Ex × List (V T) → Prop) (hI : (((0 ≤ i ∧ m = l.length) ∧ inLg l) ∧ l.length ≤ 16 ∧ allS l = true ∧ 0 ≤ u ∧ u ≤ 1099511627776) ∧ (0 ≤ low ∧ low ≤ 5242880000 * i) ∧ (0 ≤ z0 ∧ z0 ≤ 21000000000 * i) ∧ 0 ≤ z1 ∧ z1 ≤ 21000000000 * i) (hK : (.br (lsB Y W q (l.drop i.toNat)) (.leaf (.exit 0, [.n Y, .n W, .n q, .n u, .n a0, .n a1, .t b, .n (lsL Y W q u (l.drop i.toNat) low z0), .n (lsH Y W q u (l.drop i.toNat) low z1)])) (.leaf (.ret, [.n Y, .n W, .n q, .n u, .n 0, .n 0, .t false, .n (zR Y W q u (l.drop i.toNat) low z0), .n (zH Y W q u (l.drop i.toNat) low z1)])) : Tree (Ex × List (V T))).holds K) : (cLp.out (low, l, m, i, Y, W, q, u, a0, a1, b, z0, z1, ())).holds K := ⟨hI, hK⟩
theorem hLp' (low : Int) (l : List Seg) (m : Int) (i : Int) (Y : Int) (W : Int) (q : Int) (u : Int) (a0 : Int) (a1 : Int) (b : Bool) (z0 : Int) (z1 : Int) (K : Ex × List (V T) → Prop) (hI : (((0 ≤ i ∧ m = l.length) ∧ inLg l) ∧ l.length ≤ 16 ∧ allS l = true ∧ 0 ≤ u ∧ u ≤ 1099511627776) ∧ (0 ≤ low ∧ low ≤ 5242880000 * i) ∧ (0 ≤ z0 ∧ z0 ≤ 21000000000 * i) ∧ 0 ≤ z1 ∧ z1 ≤ 21000000000 * i) (hK : (.br (lsB Y W q (l.drop i.toNat)) (.leaf (.exit 0, [.n Y, .n W, .n q, .n u, .n a0, .n a1, .t b, .n (lsL Y W q u (l.drop i.toNat) low z0), .n (lsH Y W q u (l.drop i.toNat) low z1)])) (.leaf (.ret, [.n Y, .n W, .n q, .n u, .n 0, .n 0, .t false, .n (zR Y W q u (l.drop i.toNat) low z0), .n (zH Y W q u (l.drop i.toNat) low z1)])) : Tree (Ex × List (V T))).holds K) :
    (bodyD Try.prog E cLp 9 (bodyX Try.prog E ctLo noLoops 1000 5 L0 (lpOf Try.prog 92 0)) (low, l, m, i, Y, W, q, u, a0, a1, b, z0, z1, ())).holds fun y => match y with
    | .inl d => ((d.2.1.length : Int) - d.2.2.2.1).toNat < ((l.length : Int) - i).toNat ∧ (cLp.out d).holds K
    | .inr y => K y := by
  rw [bLp]
  obtain ⟨⟨⟨⟨h0, rfl⟩, hin⟩, hl, hal, hu, hu2⟩, hlo, hz0, hz1⟩ := hI
  have eb : ∀ x : Bool, (!x) = true → x = false := fun x h => by cases x <;> simp at h ⊢
  have eb2 : ∀ x : Bool, (!x) = false → x = true := fun x h => by cases x <;> simp at h ⊢
  refine way (fun c => wayC h0 c fun _ _ => ?_) fun c => ?_
  · have hlt : ((l.length : Int) - (i + 1)).toNat < ((l.length : Int) - i).toNat := by omega
    have hL9 : -9223372036854775808 ≤ (si l i).Long ∧ (si l i).Long ≤ 9223372036854775807 := by
      have a := (allS_mem hal _ (si_mem h0 c)).1
      have b := hin _ (si_mem h0 c)
      omega
    rw [drop_sI h0 c] at hK
    refine ⟨hL9, wayB (fun k => ?_) fun k => ?_⟩
    · have k : gbS (si l i) Y W q = false := eb _ k
      refine ⟨rfl, ?_⟩
      unfold lsB zR zH at hK
      rw [if_neg (by rw [k]; decide), if_neg (by rw [k]; decide), if_neg (by rw [k]; decide)] at hK
      exact hK.2 rfl
    · have k : gbS (si l i) Y W q = true := eb2 _ k
      have v := gb_vf k
      have a := ab_ok (s := si l i) (low := low) (u := u) v.1 v.2.2.1 hlo.1 hu
      have g := grN_bd (L := (si l i).Long) (R := (si l i).Rise) (A := (si l i).Area) (G := (si l i).Gap) (Y := Y) (V := W) (q := q)
      have m0 := mulb g.1 g.2 a.lo.1 a.lo.2
      have m1 := mulb g.1 g.2 a.hi.1 a.hi.2
      have mxu : 0 ≤ mx2 u low ∧ mx2 u low ≤ 1099511627776 := by unfold mx2; split <;> omega
      have la := a.la
      have e0 : IntKind.wrap IntKind.i64 ((si l i).Long * (si l i).Area) = (si l i).Long * (si l i).Area := i64_in' (by omega) (by omega)
      have e1 : IntKind.wrap IntKind.i64 (low + (si l i).Long * (si l i).Area) = low + (si l i).Long * (si l i).Area := i64_in' (by omega) (by omega)
      have e2 : IntKind.wrap IntKind.i64 (low + (si l i).Long * (si l i).Area - low) = (si l i).Long * (si l i).Area := by
        rw [show low + (si l i).Long * (si l i).Area - low = (si l i).Long * (si l i).Area by omega]
        exact e0
      have e3 : IntKind.wrap IntKind.i64 (low + (si l i).Long * (si l i).Area - mx2 u low) = low + (si l i).Long * (si l i).Area - mx2 u low := i64_in' (by omega) (by omega)
      have pr := a.pr
      have e4 : IntKind.wrap IntKind.i64 ((si l i).Long * abv (si l i) low u) = (si l i).Long * abv (si l i) low u := i64_in' (by omega) (by omega)
      have e5 : IntKind.wrap IntKind.i64 (i + 1) = i + 1 := i64_in' (by omega) (by omega)
      rw [e0, e1, e2, e3, a.e1, e4, a.q1, a.q2, e5]
      have e6 : IntKind.wrap IntKind.i64 (grN (si l i).Long (si l i).Rise (si l i).Area (si l i).Gap Y W q * (abv (si l i) low u / (si l i).Area)) = grN (si l i).Long (si l i).Rise (si l i).Area (si l i).Gap Y W q * (abv (si l i) low u / (si l i).Area) := i64_in' (by omega) (by omega)
      have e7 : IntKind.wrap IntKind.i64 (grN (si l i).Long (si l i).Rise (si l i).Area (si l i).Gap Y W q * -(-abv (si l i) low u / (si l i).Area)) = grN (si l i).Long (si l i).Rise (si l i).Area (si l i).Gap Y W q * -(-abv (si l i) low u / (si l i).Area) := i64_in' (by omega) (by omega)
      rw [e6, e7]
      have e8 : IntKind.wrap IntKind.i64 (z0 + grN (si l i).Long (si l i).Rise (si l i).Area (si l i).Gap Y W q * (abv (si l i) low u / (si l i).Area)) = z0 + grN (si l i).Long (si l i).Rise (si l i).Area (si l i).Gap Y W q * (abv (si l i) low u / (si l i).Area) := i64_in' (by omega) (by omega)
      have e9 : IntKind.wrap IntKind.i64 (z1 + grN (si l i).Long (si l i).Rise (si l i).Area (si l i).Gap Y W q * -(-abv (si l i) low u / (si l i).Area)) = z1 + grN (si l i).Long (si l i).Rise (si l i).Area (si l i).Gap Y W q * -(-abv (si l i) low u / (si l i).Area) := i64_in' (by omega) (by omega)
      rw [e8, e9]
      have qp : qPre ((si l i).Long * abv (si l i) low u) ((si l i).Long * (si l i).Area) := by unfold qPre; omega
      unfold lsB lsL lsH zR zH at hK
      rw [if_pos k, if_pos k, if_pos k] at hK
      exact ⟨qp, qp, rfl, hlt, nLp _ _ _ _ _ _ _ _ _ _ _ _ _ K ⟨⟨⟨⟨by omega, rfl⟩, hin⟩, hl, hal, hu, hu2⟩, by omega, by omega, by omega⟩ hK⟩
  · rw [drop_n c] at hK
    exact ⟨rfl, hK.1 rfl⟩
theorem hLp : LoopH Try.prog E cLp 9 (bodyX Try.prog E ctLo noLoops 1000 5 L0 (lpOf Try.prog 92 0)) :=
  ⟨fun d => ((d.2.1.length : Int) - d.2.2.2.1).toNat, fun dd K hK => by
    obtain ⟨low, l, m, i, Y, W, q, u, a0, a1, b, z0, z1, ⟨⟩⟩ := dd
    obtain ⟨hI, hK⟩ := hK
    refine Tree.holds_mono (fun y hy => ?_) (hLp' low l m i Y W q u a0 a1 b z0 z1 K hI hK)
    cases y with
    | inl d' => exact hy
    | inr y => exact hy⟩
theorem llLp : LLOk Try.prog E (llOfN Try.prog E 92 9 [(2, cLp)]) := llOfN_ok fun i hi c hc => by
  have hi : i < 1 := hi
  obtain rfl : i = 0 := by omega
  obtain rfl : cLp = c := Option.some.inj hc
  exact LSndN.mk good names mixes ctLo_ok (by decide) hLp
noncomputable def oLr (q : Int) (u : Int) (b : Int) (i : Int) (l : List Seg) (Y : Int) (W : Int) (r0 : Int) (r1 : Int) (z0 : Int) (z1 : Int) : Tree (Ex × List (V T)) := .req ((0 ≤ i ∧ l.length ≤ 16 ∧ allS l = true ∧ 0 ≤ u ∧ u ≤ 1099511627776) ∧ (0 ≤ b ∧ b ≤ 5242880000 * i) ∧ (0 ≤ z0 ∧ z0 ≤ 21000000000 * i) ∧ 0 ≤ z1 ∧ z1 ≤ 21000000000 * i) (.br (lsB Y W q (l.drop i.toNat)) (.leaf (.exit 0, [.n r0, .n r1, .n (lsL Y W q u (l.drop i.toNat) b z0), .n (lsH Y W q u (l.drop i.toNat) b z1)])) (.leaf (.ret, [.t false, .n 0, .n 0])))
noncomputable def cLr : LoopC T := ⟨[.n, .n, .n, .n, .l 52, .n, .n, .n, .n, .n, .n], ⟨91, [(2, .one (.i .i64)), (3, .one (.i .i64)), (4, .one (.o 0 0)), (5, .one (.o 1 0)), (8, .one (.o 2 0)), (10, .one (.o 3 0)), (11, .one (.i .i64)), (12, .one (.i .i64))], [.c [.s 52], .c [.i .i64, .i .i64], .c [.i .i64, .i .i64], .c [.i .i64, .i .i64]]⟩, fun e => match e with
    | .ret => ⟨91, [(8, .one (.o 0 0)), (9, .one .b)], [.c [.i .i64, .i .i64]]⟩
    | _ => ⟨91, [(8, .one (.o 0 0)), (10, .one (.o 1 0))], [.c [.i .i64, .i .i64], .c [.i .i64, .i .i64]]⟩, 30, fun d => oLr d.1 d.2.1 d.2.2.1 d.2.2.2.1 d.2.2.2.2.1 d.2.2.2.2.2.1 d.2.2.2.2.2.2.1 d.2.2.2.2.2.2.2.1 d.2.2.2.2.2.2.2.2.1 d.2.2.2.2.2.2.2.2.2.1 d.2.2.2.2.2.2.2.2.2.2.1⟩
theorem bLr (q : Int) (u : Int) (b : Int) (i : Int) (l : List Seg) (Y : Int) (W : Int) (r0 : Int) (r1 : Int) (z0 : Int) (z1 : Int) : bodyD Try.prog E cLr 0 (bodyX Try.prog E ctLo noLoops 1000 5 L0 (lpOf Try.prog 43 0)) (q, u, b, i, l, Y, W, r0, r1, z0, z1, ()) =
  (.br (decide (i < (↑(List.length l) : Int)))
   (.req ((decide ((0 : Int) ≤ i) && decide (i < (↑(List.length l) : Int))) = true)
   (.br (!grB (Seg.Long (si l i)) (Seg.Rise (si l i)) (Seg.Area (si l i)) (Seg.Gap (si l i)) Y W q)
    (.leaf (.inr (.ret, [.t (false), .n ((0 : Int)), .n ((0 : Int))])))
    (.req (decide (Seg.Area (si l i) ≠ (0 : Int)) = true)
    (.req (decide (Seg.Area (si l i) ≠ (0 : Int)) = true)
    (.leaf (.inl (q, (u, (IntKind.wrap IntKind.i64 (b + IntKind.wrap IntKind.i64 (Seg.Long (si l i) * Seg.Area (si l i))), (IntKind.wrap IntKind.i64 (i + (1 : Int)), (l, (Y, (W, (r0, (r1, (IntKind.wrap IntKind.i64 (z0 + IntKind.wrap IntKind.i64 (grN (Seg.Long (si l i)) (Seg.Rise (si l i)) (Seg.Area (si l i)) (Seg.Gap (si l i)) Y W q * IntKind.wrap IntKind.i64 (Int.tdiv (mx2 ((0 : Int)) ((mn2 (IntKind.wrap IntKind.i64 (Seg.Long (si l i) * Seg.Area (si l i))) (IntKind.wrap IntKind.i64 (IntKind.wrap IntKind.i64 (b + IntKind.wrap IntKind.i64 (Seg.Long (si l i) * Seg.Area (si l i))) - u))))) (Seg.Area (si l i))))), (IntKind.wrap IntKind.i64 (z1 + IntKind.wrap IntKind.i64 (grN (Seg.Long (si l i)) (Seg.Rise (si l i)) (Seg.Area (si l i)) (Seg.Gap (si l i)) Y W q * IntKind.wrap IntKind.i64 (Int.tdiv (IntKind.wrap IntKind.i64 (IntKind.wrap IntKind.i64 ((mx2 ((0 : Int)) ((mn2 (IntKind.wrap IntKind.i64 (Seg.Long (si l i) * Seg.Area (si l i))) (IntKind.wrap IntKind.i64 (IntKind.wrap IntKind.i64 (b + IntKind.wrap IntKind.i64 (Seg.Long (si l i) * Seg.Area (si l i))) - u))))) + Seg.Area (si l i)) - (1 : Int))) (Seg.Area (si l i))))), ())))))))))))))))))
   (.leaf (.inr (.exit (0 : Nat), [.n (r0), .n (r1), .n (z0), .n (z1)])))) := by kernel_rfl
theorem nLr (q : Int) (u : Int) (b : Int) (i : Int) (l : List Seg) (Y : Int) (W : Int) (r0 : Int) (r1 : Int) (z0 : Int) (z1 : Int) (K : Ex × List (V T) → Prop) (hI : (0 ≤ i ∧ l.length ≤ 16 ∧ allS l = true ∧ 0 ≤ u ∧ u ≤ 1099511627776) ∧ (0 ≤ b ∧ b ≤ 5242880000 * i) ∧ (0 ≤ z0 ∧ z0 ≤ 21000000000 * i) ∧ 0 ≤ z1 ∧ z1 ≤ 21000000000 * i) (hK : (.br (lsB Y W q (l.drop i.toNat)) (.leaf (.exit 0, [.n r0, .n r1, .n (lsL Y W q u (l.drop i.toNat) b z0), .n (lsH Y W q u (l.drop i.toNat) b z1)])) (.leaf (.ret, [.t false, .n 0, .n 0])) : Tree (Ex × List (V T))).holds K) : (cLr.out (q, u, b, i, l, Y, W, r0, r1, z0, z1, ())).holds K := ⟨hI, hK⟩
theorem hLr' (q : Int) (u : Int) (b : Int) (i : Int) (l : List Seg) (Y : Int) (W : Int) (r0 : Int) (r1 : Int) (z0 : Int) (z1 : Int) (K : Ex × List (V T) → Prop) (hI : (0 ≤ i ∧ l.length ≤ 16 ∧ allS l = true ∧ 0 ≤ u ∧ u ≤ 1099511627776) ∧ (0 ≤ b ∧ b ≤ 5242880000 * i) ∧ (0 ≤ z0 ∧ z0 ≤ 21000000000 * i) ∧ 0 ≤ z1 ∧ z1 ≤ 21000000000 * i) (hK : (.br (lsB Y W q (l.drop i.toNat)) (.leaf (.exit 0, [.n r0, .n r1, .n (lsL Y W q u (l.drop i.toNat) b z0), .n (lsH Y W q u (l.drop i.toNat) b z1)])) (.leaf (.ret, [.t false, .n 0, .n 0])) : Tree (Ex × List (V T))).holds K) :
    (bodyD Try.prog E cLr 0 (bodyX Try.prog E ctLo noLoops 1000 5 L0 (lpOf Try.prog 43 0)) (q, u, b, i, l, Y, W, r0, r1, z0, z1, ())).holds fun y => match y with
    | .inl d => ((d.2.2.2.2.1.length : Int) - d.2.2.2.1).toNat < ((l.length : Int) - i).toNat ∧ (cLr.out d).holds K
    | .inr y => K y := by
  rw [bLr]
  obtain ⟨⟨h0, hl, hal, hu, hu2⟩, hlo, hz0, hz1⟩ := hI
  have eb : ∀ x : Bool, (!x) = true → x = false := fun x h => by cases x <;> simp at h ⊢
  have eb2 : ∀ x : Bool, (!x) = false → x = true := fun x h => by cases x <;> simp at h ⊢
  refine way (fun c => wayC h0 c fun _ _ => ?_) fun c => ?_
  · have hlt : ((l.length : Int) - (i + 1)).toNat < ((l.length : Int) - i).toNat := by omega
    rw [drop_sI h0 c] at hK
    refine wayB (fun k => ?_) fun k => ?_
    · have k : gbS (si l i) Y W q = false := eb _ k
      unfold lsB at hK
      rw [if_neg (by rw [k]; decide)] at hK
      exact hK.2 rfl
    · have k : gbS (si l i) Y W q = true := eb2 _ k
      have v := gb_vf k
      have a := ab_ok (s := si l i) (low := b) (u := u) v.1 v.2.2.1 hlo.1 hu
      have g := grN_bd (L := (si l i).Long) (R := (si l i).Rise) (A := (si l i).Area) (G := (si l i).Gap) (Y := Y) (V := W) (q := q)
      have m0 := mulb g.1 g.2 a.lo.1 a.lo.2
      have m1 := mulb g.1 g.2 a.hi.1 a.hi.2
      have la := a.la
      have hA := v.2.2.1
      have e0 : IntKind.wrap IntKind.i64 ((si l i).Long * (si l i).Area) = (si l i).Long * (si l i).Area := i64_in' (by omega) (by omega)
      have e1 : IntKind.wrap IntKind.i64 (b + (si l i).Long * (si l i).Area) = b + (si l i).Long * (si l i).Area := i64_in' (by omega) (by omega)
      have e3 : IntKind.wrap IntKind.i64 (b + (si l i).Long * (si l i).Area - u) = b + (si l i).Long * (si l i).Area - u := i64_in' (by omega) (by omega)
      have ab := a.ab
      have ea : mx2 0 (mn2 ((si l i).Long * (si l i).Area) (b + (si l i).Long * (si l i).Area - u)) = abv (si l i) b u := rfl
      have e5 : IntKind.wrap IntKind.i64 (i + 1) = i + 1 := i64_in' (by omega) (by omega)
      rw [e0, e1, e3, ea, e5]
      have lo := a.lo
      have hi := a.hi
      have d1 : Int.tdiv (abv (si l i) b u) (si l i).Area = abv (si l i) b u / (si l i).Area := Int.tdiv_eq_ediv_of_nonneg ab.1
      have w1 : IntKind.wrap IntKind.i64 (abv (si l i) b u + (si l i).Area) = abv (si l i) b u + (si l i).Area := i64_in' (by omega) (by omega)
      have w2 : IntKind.wrap IntKind.i64 (abv (si l i) b u + (si l i).Area - 1) = abv (si l i) b u + (si l i).Area - 1 := i64_in' (by omega) (by omega)
      have d2 : Int.tdiv (abv (si l i) b u + (si l i).Area - 1) (si l i).Area = -(-abv (si l i) b u / (si l i).Area) := by
        rw [Int.tdiv_eq_ediv_of_nonneg (by omega)]
        have x := Int.mul_ediv_add_emod (abv (si l i) b u + (si l i).Area - 1) (si l i).Area
        have y := Int.mul_ediv_add_emod (-abv (si l i) b u) (si l i).Area
        have x1 := Int.emod_nonneg (abv (si l i) b u + (si l i).Area - 1) (show (si l i).Area ≠ 0 by omega)
        have x2 := Int.emod_lt_of_pos (abv (si l i) b u + (si l i).Area - 1) (show 0 < (si l i).Area by omega)
        have y1 := Int.emod_nonneg (-abv (si l i) b u) (show (si l i).Area ≠ 0 by omega)
        have y2 := Int.emod_lt_of_pos (-abv (si l i) b u) (show 0 < (si l i).Area by omega)
        have z := Int.ediv_emod_unique (a := abv (si l i) b u + (si l i).Area - 1) (b := (si l i).Area) (r := (si l i).Area - 1 - (-abv (si l i) b u) % (si l i).Area) (q := -(-abv (si l i) b u / (si l i).Area)) (by omega)
        exact (z.2 ⟨by rw [Int.mul_neg]; omega, by omega, by omega⟩).1
      rw [w1, w2, d1, d2]
      have w3 : IntKind.wrap IntKind.i64 (abv (si l i) b u / (si l i).Area) = abv (si l i) b u / (si l i).Area := i64_in' (by omega) (by omega)
      have w4 : IntKind.wrap IntKind.i64 (-(-abv (si l i) b u / (si l i).Area)) = -(-abv (si l i) b u / (si l i).Area) := i64_in' (by omega) (by omega)
      rw [w3, w4]
      have e6 : IntKind.wrap IntKind.i64 (grN (si l i).Long (si l i).Rise (si l i).Area (si l i).Gap Y W q * (abv (si l i) b u / (si l i).Area)) = grN (si l i).Long (si l i).Rise (si l i).Area (si l i).Gap Y W q * (abv (si l i) b u / (si l i).Area) := i64_in' (by omega) (by omega)
      have e7 : IntKind.wrap IntKind.i64 (grN (si l i).Long (si l i).Rise (si l i).Area (si l i).Gap Y W q * -(-abv (si l i) b u / (si l i).Area)) = grN (si l i).Long (si l i).Rise (si l i).Area (si l i).Gap Y W q * -(-abv (si l i) b u / (si l i).Area) := i64_in' (by omega) (by omega)
      rw [e6, e7]
      have e8 : IntKind.wrap IntKind.i64 (z0 + grN (si l i).Long (si l i).Rise (si l i).Area (si l i).Gap Y W q * (abv (si l i) b u / (si l i).Area)) = z0 + grN (si l i).Long (si l i).Rise (si l i).Area (si l i).Gap Y W q * (abv (si l i) b u / (si l i).Area) := i64_in' (by omega) (by omega)
      have e9 : IntKind.wrap IntKind.i64 (z1 + grN (si l i).Long (si l i).Rise (si l i).Area (si l i).Gap Y W q * -(-abv (si l i) b u / (si l i).Area)) = z1 + grN (si l i).Long (si l i).Rise (si l i).Area (si l i).Gap Y W q * -(-abv (si l i) b u / (si l i).Area) := i64_in' (by omega) (by omega)
      rw [e8, e9]
      unfold lsB lsL lsH at hK
      rw [if_pos k] at hK
      have ne : decide ((si l i).Area ≠ 0) = true := decide_eq_true (by omega)
      exact ⟨ne, ne, hlt, nLr _ _ _ _ _ _ _ _ _ _ _ K ⟨⟨by omega, hl, hal, hu, hu2⟩, by omega, by omega, by omega⟩ hK⟩
  · rw [drop_n c] at hK
    exact hK.1 rfl
theorem hLr : LoopH Try.prog E cLr 0 (bodyX Try.prog E ctLo noLoops 1000 5 L0 (lpOf Try.prog 43 0)) :=
  ⟨fun d => ((d.2.2.2.2.1.length : Int) - d.2.2.2.1).toNat, fun dd K hK => by
    obtain ⟨q, u, b, i, l, Y, W, r0, r1, z0, z1, ⟨⟩⟩ := dd
    obtain ⟨hI, hK⟩ := hK
    refine Tree.holds_mono (fun y hy => ?_) (hLr' q u b i l Y W r0 r1 z0 z1 K hI hK)
    cases y with
    | inl d' => exact hy
    | inr y => exact hy⟩
theorem llLr : LLOk Try.prog E (llOfN Try.prog E 43 0 [(6, cLr)]) := llOfN_ok fun i hi c hc => by
  have hi : i < 1 := hi
  obtain rfl : i = 0 := by omega
  obtain rfl : cLr = c := Option.some.inj hc
  exact LSndN.mk good names mixes ctLo_ok (by decide) hLr
theorem tvLp (l : List Seg) (Y V q u : Int) : runX ctLo (llOfN Try.prog E 92 9 [(2, cLp)]) 42 [.agg [.sl 52 l false], .agg [i64 Y, i64 V], i64 q, i64 u] [42, 4] =
  (.req (inLg l)
  (.br (!hE l == (0 : Int))
   (.leaf (.tup [.agg [.sym .i64 ((0 : Int)), .sym .i64 ((0 : Int))], .bool (false)]))
   (.req (inLg l)
   (.br (!within u (0 : Int) (vol l))
    (.leaf (.tup [.agg [.sym .i64 ((0 : Int)), .sym .i64 ((0 : Int))], .bool (false)]))
    (.req (RecIs (rfOf Try.prog (42 : Nat) (0 : Nat)) (rfOf Try.prog (42 : Nat) (0 : Nat)))
    (.req (((((0 : Int) ≤ (0 : Int) ∧ (↑(List.length l) : Int) = (↑(List.length l) : Int)) ∧ inLg l) ∧ List.length l ≤ (16 : Nat) ∧ allS l = true ∧ (0 : Int) ≤ u ∧ u ≤ (1099511627776 : Int)) ∧ ((0 : Int) ≤ (0 : Int) ∧ (0 : Int) ≤ (5242880000 : Int) * (0 : Int)) ∧ ((0 : Int) ≤ (0 : Int) ∧ (0 : Int) ≤ (21000000000 : Int) * (0 : Int)) ∧ (0 : Int) ≤ (0 : Int) ∧ (0 : Int) ≤ (21000000000 : Int) * (0 : Int))
    (.br (lsB Y V q (List.drop (Int.toNat (0 : Int)) l))
     (.leaf (.tup [.agg [.sym .i64 (lsL Y V q u (List.drop (Int.toNat (0 : Int)) l) (0 : Int) (0 : Int)), .sym .i64 (lsH Y V q u (List.drop (Int.toNat (0 : Int)) l) (0 : Int) (0 : Int))], .bool (true)]))
     (.leaf (.tup [.agg [.sym .i64 ((0 : Int)), .sym .i64 ((0 : Int))], .bool (false)]))))))))) := by kernel_rfl
theorem tvLr (l : List Seg) (Y V q u : Int) : runX ctLo (llOfN Try.prog E 43 0 [(6, cLr)]) 43 [.agg [.sl 52 l false], .agg [i64 Y, i64 V], i64 q, i64 u] [42, 4] =
  (.req (inLg l)
  (.br (hE l != (0 : Int))
   (.leaf (.tup [.agg [.sym .i64 ((0 : Int)), .sym .i64 ((0 : Int))], .bool (false)]))
   (.br (decide (u < (0 : Int)))
    (.leaf (.tup [.agg [.sym .i64 ((0 : Int)), .sym .i64 ((0 : Int))], .bool (false)]))
    (.req (inLg l)
    (.br (decide (u > vol l))
     (.leaf (.tup [.agg [.sym .i64 ((0 : Int)), .sym .i64 ((0 : Int))], .bool (false)]))
     (.req (((0 : Int) ≤ (0 : Int) ∧ List.length l ≤ (16 : Nat) ∧ allS l = true ∧ (0 : Int) ≤ u ∧ u ≤ (1099511627776 : Int)) ∧ ((0 : Int) ≤ (0 : Int) ∧ (0 : Int) ≤ (5242880000 : Int) * (0 : Int)) ∧ ((0 : Int) ≤ (0 : Int) ∧ (0 : Int) ≤ (21000000000 : Int) * (0 : Int)) ∧ (0 : Int) ≤ (0 : Int) ∧ (0 : Int) ≤ (21000000000 : Int) * (0 : Int))
     (.br (lsB Y V q (List.drop (Int.toNat (0 : Int)) l))
      (.leaf (.tup [.agg [.sym .i64 (lsL Y V q u (List.drop (Int.toNat (0 : Int)) l) (0 : Int) (0 : Int)), .sym .i64 (lsH Y V q u (List.drop (Int.toNat (0 : Int)) l) (0 : Int) (0 : Int))], .bool (true)]))
      (.leaf (.tup [.agg [.sym .i64 ((0 : Int)), .sym .i64 ((0 : Int))], .bool (false)]))))))))) := by kernel_rfl
end Go.Proofs.Ytnhedcaphncliaa.W.Hole
