/- The place at a depth of a path: the program's and the other. No condition. -/
import Derived.Test.YtmnhfjhlfgebiaaM1
set_option linter.unusedVariables false
set_option maxRecDepth 100000
set_option maxHeartbeats 4000000
noncomputable section
namespace Go.Proofs.Ytmnhfjhlfgebiaa.W
open Go Go.Cx Go.RowKit
noncomputable def mn2 (a b : Int) : Int := if b < a then b else a
noncomputable def mx2 (a b : Int) : Int := if b > a then b else a
def okA (l : List Vec) (i d dd : Int) : Prop := (∀ v ∈ l, lgP v.X v.Y v.Z) ∧ (0 ≤ d ∧ d ≤ 131072 * i) ∧ 0 ≤ dd ∧ dd ≤ 1099511627776
theorem vi_mm {l : List Vec} {i : Int} (h0 : 0 ≤ i) (h : i < l.length) : vi l i ∈ l := by
  show ((l : List Vec)[i.toNat]?).getD _ ∈ l
  rw [List.getElem?_eq_getElem (show i.toNat < l.length by omega)]
  exact List.getElem_mem _
theorem pt_pre {a n t : Int} (hn : 1 ≤ n ∧ n ≤ 131072) (ha : -131072 ≤ a ∧ a ≤ 131072) (ht : 0 ≤ t ∧ t ≤ 1099511627776) : qPre (IntKind.wrap IntKind.i64 (a * t)) n := by
  have m : -144115188075855872 ≤ a * t ∧ a * t ≤ 144115188075855872 := by
    have h1 := Int.mul_le_mul_of_nonneg_right ha.2 ht.1
    have h2 := Int.mul_le_mul_of_nonneg_right ha.1 ht.1
    omega
  rw [i64_in' (by omega) (by omega)]
  exact ⟨by omega, by omega, by omega⟩
theorem inP_1 {x y z : Int} (h : inP 131072 x y z) : -131072 ≤ x ∧ x ≤ 131072 := by unfold inP at h; omega
theorem inP_2 {x y z : Int} (h : inP 131072 x y z) : -131072 ≤ y ∧ y ≤ 131072 := by unfold inP at h; omega
theorem inP_3 {x y z : Int} (h : inP 131072 x y z) : -131072 ≤ z ∧ z ≤ 131072 := by unfold inP at h; omega
noncomputable def ctA : CTab T := (106, cFloor) :: (143, cFloor) :: ctK
theorem ctA_ok : CTabOk Try.prog E ctA := .cons floor106_ok (.cons floor_ok ctK_ok)
noncomputable def oAT (l : List Vec) (n : Int) (i : Int) (x : Int) (y : Int) (z : Int) (l' : List Vec) (d : Int) (X : Int) (Y : Int) (Z : Int) (x0 : Int) (y0 : Int) (z0 : Int) (l0 : List Vec) (dd : Int) (qx : Int) (qy : Int) (qz : Int) : Tree (Ex × List (V T)) := .req ((0 ≤ i ∧ n = l.length ∧ l.length ≤ 20) ∧ l0 = l ∧ okA l i d dd) (.br (brk (l.drop i.toNat) ⟨d, X, Y, Z⟩ dd) (.leaf (.ret, [.n x, .n y, .n z, .l 23 l', .n x0, .n y0, .n z0, .l 23 l0, .n dd, .n (atq (l.drop i.toNat) ⟨d, X, Y, Z⟩ dd ⟨qx, qy, qz⟩).X, .n (atq (l.drop i.toNat) ⟨d, X, Y, Z⟩ dd ⟨qx, qy, qz⟩).Y, .n (atq (l.drop i.toNat) ⟨d, X, Y, Z⟩ dd ⟨qx, qy, qz⟩).Z])) (.leaf (.exit 0, [.n x, .n y, .n z, .l 23 l', .n (en (l.drop i.toNat) ⟨d, X, Y, Z⟩).d, .n (en (l.drop i.toNat) ⟨d, X, Y, Z⟩).x, .n (en (l.drop i.toNat) ⟨d, X, Y, Z⟩).y, .n (en (l.drop i.toNat) ⟨d, X, Y, Z⟩).z, .n x0, .n y0, .n z0, .l 23 l0, .n dd, .n (atq (l.drop i.toNat) ⟨d, X, Y, Z⟩ dd ⟨qx, qy, qz⟩).X, .n (atq (l.drop i.toNat) ⟨d, X, Y, Z⟩ dd ⟨qx, qy, qz⟩).Y, .n (atq (l.drop i.toNat) ⟨d, X, Y, Z⟩ dd ⟨qx, qy, qz⟩).Z])))
noncomputable def cAT : LoopC T := ⟨[.l 23, .n, .n, .n, .n, .n, .l 23, .n, .n, .n, .n, .n, .n, .n, .l 23, .n, .n, .n, .n], ⟨45, [(0, .one (.y 0)), (1, .one (.o 1 0)), (3, .one (.o 2 0)), (12, .one (.s 23)), (13, .one (.i .i64)), (14, .one (.i .i64))], [.fx 5 (.lp 60 [(2, .one (.o 3 0)), (3, .one (.o 4 0)), (4, .one (.o 5 0)), (6, .one (.o 6 0))] (rfOf Try.prog 36 0) 0), .fx 4 (.c [.i .i64, .i .i64, .i .i64, .s 23]), .c [.i .i64, .i .i64, .i .i64, .i .i64], .fx 0 (.c [.i .i64, .i .i64, .i .i64, .s 23]), .fx 1 (.c [.i .i64]), .fx 2 (.c [.x, .x, .x]), .fx 3 (.c [.i .i64, .i .i64, .i .i64])]⟩, fun e => match e with
    | .ret => ⟨45, [], [.fx 5 (.lp 60 [(2, .one (.o 2 0)), (3, .one (.o 3 0)), (4, .one (.o 4 0)), (6, .one (.o 5 0))] (rfOf Try.prog 36 0) 2), .fx 4 (.c [.i .i64, .i .i64, .i .i64, .s 23]), .fx 0 (.c [.i .i64, .i .i64, .i .i64, .s 23]), .fx 1 (.c [.i .i64]), .fx 2 (.c [.x, .x, .x]), .fx 3 (.c [.i .i64, .i .i64, .i .i64])]⟩
    | _ => ⟨45, [(0, .one (.y 0)), (1, .one (.o 1 0)), (3, .one (.o 2 0))], [.fx 5 (.lp 60 [(2, .one (.o 3 0)), (3, .one (.o 4 0)), (4, .one (.o 5 0)), (6, .one (.o 6 0))] (rfOf Try.prog 36 0) 0), .fx 4 (.c [.i .i64, .i .i64, .i .i64, .s 23]), .c [.i .i64, .i .i64, .i .i64, .i .i64], .fx 0 (.c [.i .i64, .i .i64, .i .i64, .s 23]), .fx 1 (.c [.i .i64]), .fx 2 (.c [.x, .x, .x]), .fx 3 (.c [.i .i64, .i .i64, .i .i64])]⟩, 40, fun d => oAT d.1 d.2.1 d.2.2.1 d.2.2.2.1 d.2.2.2.2.1 d.2.2.2.2.2.1 d.2.2.2.2.2.2.1 d.2.2.2.2.2.2.2.1 d.2.2.2.2.2.2.2.2.1 d.2.2.2.2.2.2.2.2.2.1 d.2.2.2.2.2.2.2.2.2.2.1 d.2.2.2.2.2.2.2.2.2.2.2.1 d.2.2.2.2.2.2.2.2.2.2.2.2.1 d.2.2.2.2.2.2.2.2.2.2.2.2.2.1 d.2.2.2.2.2.2.2.2.2.2.2.2.2.2.1 d.2.2.2.2.2.2.2.2.2.2.2.2.2.2.2.1 d.2.2.2.2.2.2.2.2.2.2.2.2.2.2.2.2.1 d.2.2.2.2.2.2.2.2.2.2.2.2.2.2.2.2.2.1 d.2.2.2.2.2.2.2.2.2.2.2.2.2.2.2.2.2.2.1⟩
theorem bAT (l : List Vec) (n : Int) (i : Int) (x : Int) (y : Int) (z : Int) (l' : List Vec) (d : Int) (X : Int) (Y : Int) (Z : Int) (x0 : Int) (y0 : Int) (z0 : Int) (l0 : List Vec) (dd : Int) (qx : Int) (qy : Int) (qz : Int) : bodyD Try.prog E cAT 6 (bodyX Try.prog E ctA noLoops 1000 5 L0 (lpOf Try.prog 141 0)) (l, n, i, x, y, z, l', d, X, Y, Z, x0, y0, z0, l0, dd, qx, qy, qz, ()) =
  (.br (decide (i < n))
   (.req ((decide ((0 : Int) ≤ i) && decide (i < (↑(List.length l) : Int))) = true)
   (.br (decide (d > dd))
    (.req (RecIs (rfOf Try.prog (36 : Nat) (0 : Nat)) (rfOf Try.prog (36 : Nat) (0 : Nat)))
    (.leaf (.inr (.ret, [.n (x), .n (y), .n (z), .l (23 : Nat) (l'), .n (x0), .n (y0), .n (z0), .l (23 : Nat) (l0), .n (dd), .n (qx), .n (qy), .n (qz)]))))
    (.br (decide ((0 : Int) ≤ i))
     (.br (!decide (i < (↑(List.length l0) : Int)))
      (.req (RecIs (rfOf Try.prog (36 : Nat) (0 : Nat)) (rfOf Try.prog (36 : Nat) (0 : Nat)))
      (.leaf (.inr (.ret, [.n (x), .n (y), .n (z), .l (23 : Nat) (l'), .n (x0), .n (y0), .n (z0), .l (23 : Nat) (l0), .n (dd), .n (qx), .n (qy), .n (qz)]))))
      (.req ((decide ((0 : Int) ≤ i) && decide (i < (↑(List.length l0) : Int))) = true)
      (.req (qPre (IntKind.wrap IntKind.i64 (Vec.X (vi l0 i) * IntKind.wrap IntKind.i64 (dd - d))) (szN (Vec.X (vi l0 i)) (Vec.Y (vi l0 i)) (Vec.Z (vi l0 i))))
      (.req (qPre (IntKind.wrap IntKind.i64 (Vec.Y (vi l0 i) * IntKind.wrap IntKind.i64 (dd - d))) (szN (Vec.X (vi l0 i)) (Vec.Y (vi l0 i)) (Vec.Z (vi l0 i))))
      (.req (qPre (IntKind.wrap IntKind.i64 (Vec.Z (vi l0 i) * IntKind.wrap IntKind.i64 (dd - d))) (szN (Vec.X (vi l0 i)) (Vec.Y (vi l0 i)) (Vec.Z (vi l0 i))))
      (.req (RecIs (rfOf Try.prog (36 : Nat) (0 : Nat)) (rfOf Try.prog (36 : Nat) (0 : Nat)))
      (.leaf (.inl (l, (n, (IntKind.wrap IntKind.i64 (i + (1 : Int)), (x, (y, (z, (l', (IntKind.wrap IntKind.i64 (d + szN (Vec.X (vi l i)) (Vec.Y (vi l i)) (Vec.Z (vi l i))), (IntKind.wrap IntKind.i64 (X + Vec.X (vi l i)), (IntKind.wrap IntKind.i64 (Y + Vec.Y (vi l i)), (IntKind.wrap IntKind.i64 (Z + Vec.Z (vi l i)), (x0, (y0, (z0, (l0, (dd, (IntKind.wrap IntKind.i64 (X + IntKind.wrap IntKind.i64 (Vec.X (vi l0 i) * IntKind.wrap IntKind.i64 (dd - d)) / szN (Vec.X (vi l0 i)) (Vec.Y (vi l0 i)) (Vec.Z (vi l0 i))), (IntKind.wrap IntKind.i64 (Y + IntKind.wrap IntKind.i64 (Vec.Y (vi l0 i) * IntKind.wrap IntKind.i64 (dd - d)) / szN (Vec.X (vi l0 i)) (Vec.Y (vi l0 i)) (Vec.Z (vi l0 i))), (IntKind.wrap IntKind.i64 (Z + IntKind.wrap IntKind.i64 (Vec.Z (vi l0 i) * IntKind.wrap IntKind.i64 (dd - d)) / szN (Vec.X (vi l0 i)) (Vec.Y (vi l0 i)) (Vec.Z (vi l0 i))), ())))))))))))))))))))))))))))
     (.req (RecIs (rfOf Try.prog (36 : Nat) (0 : Nat)) (rfOf Try.prog (36 : Nat) (0 : Nat)))
     (.leaf (.inr (.ret, [.n (x), .n (y), .n (z), .l (23 : Nat) (l'), .n (x0), .n (y0), .n (z0), .l (23 : Nat) (l0), .n (dd), .n (qx), .n (qy), .n (qz)])))))))
   (.req (RecIs (rfOf Try.prog (36 : Nat) (0 : Nat)) (rfOf Try.prog (36 : Nat) (0 : Nat)))
   (.leaf (.inr (.exit (0 : Nat), [.n (x), .n (y), .n (z), .l (23 : Nat) (l'), .n (d), .n (X), .n (Y), .n (Z), .n (x0), .n (y0), .n (z0), .l (23 : Nat) (l0), .n (dd), .n (qx), .n (qy), .n (qz)]))))) := by kernel_rfl
theorem nAT (l : List Vec) (n : Int) (i : Int) (x : Int) (y : Int) (z : Int) (l' : List Vec) (d : Int) (X : Int) (Y : Int) (Z : Int) (x0 : Int) (y0 : Int) (z0 : Int) (l0 : List Vec) (dd : Int) (qx : Int) (qy : Int) (qz : Int) (K : Ex × List (V T) → Prop) (hI : (0 ≤ i ∧ n = l.length ∧ l.length ≤ 20) ∧ l0 = l ∧ okA l i d dd) (hK : (.br (brk (l.drop i.toNat) ⟨d, X, Y, Z⟩ dd) (.leaf (.ret, [.n x, .n y, .n z, .l 23 l', .n x0, .n y0, .n z0, .l 23 l0, .n dd, .n (atq (l.drop i.toNat) ⟨d, X, Y, Z⟩ dd ⟨qx, qy, qz⟩).X, .n (atq (l.drop i.toNat) ⟨d, X, Y, Z⟩ dd ⟨qx, qy, qz⟩).Y, .n (atq (l.drop i.toNat) ⟨d, X, Y, Z⟩ dd ⟨qx, qy, qz⟩).Z])) (.leaf (.exit 0, [.n x, .n y, .n z, .l 23 l', .n (en (l.drop i.toNat) ⟨d, X, Y, Z⟩).d, .n (en (l.drop i.toNat) ⟨d, X, Y, Z⟩).x, .n (en (l.drop i.toNat) ⟨d, X, Y, Z⟩).y, .n (en (l.drop i.toNat) ⟨d, X, Y, Z⟩).z, .n x0, .n y0, .n z0, .l 23 l0, .n dd, .n (atq (l.drop i.toNat) ⟨d, X, Y, Z⟩ dd ⟨qx, qy, qz⟩).X, .n (atq (l.drop i.toNat) ⟨d, X, Y, Z⟩ dd ⟨qx, qy, qz⟩).Y, .n (atq (l.drop i.toNat) ⟨d, X, Y, Z⟩ dd ⟨qx, qy, qz⟩).Z])) : Tree (Ex × List (V T))).holds K) : (cAT.out (l, n, i, x, y, z, l', d, X, Y, Z, x0, y0, z0, l0, dd, qx, qy, qz, ())).holds K := ⟨hI, hK⟩
theorem hAT' (l : List Vec) (n : Int) (i : Int) (x : Int) (y : Int) (z : Int) (l' : List Vec) (d : Int) (X : Int) (Y : Int) (Z : Int) (x0 : Int) (y0 : Int) (z0 : Int) (l0 : List Vec) (dd : Int) (qx : Int) (qy : Int) (qz : Int) (K : Ex × List (V T) → Prop) (hI : (0 ≤ i ∧ n = l.length ∧ l.length ≤ 20) ∧ l0 = l ∧ okA l i d dd) (hK : (.br (brk (l.drop i.toNat) ⟨d, X, Y, Z⟩ dd) (.leaf (.ret, [.n x, .n y, .n z, .l 23 l', .n x0, .n y0, .n z0, .l 23 l0, .n dd, .n (atq (l.drop i.toNat) ⟨d, X, Y, Z⟩ dd ⟨qx, qy, qz⟩).X, .n (atq (l.drop i.toNat) ⟨d, X, Y, Z⟩ dd ⟨qx, qy, qz⟩).Y, .n (atq (l.drop i.toNat) ⟨d, X, Y, Z⟩ dd ⟨qx, qy, qz⟩).Z])) (.leaf (.exit 0, [.n x, .n y, .n z, .l 23 l', .n (en (l.drop i.toNat) ⟨d, X, Y, Z⟩).d, .n (en (l.drop i.toNat) ⟨d, X, Y, Z⟩).x, .n (en (l.drop i.toNat) ⟨d, X, Y, Z⟩).y, .n (en (l.drop i.toNat) ⟨d, X, Y, Z⟩).z, .n x0, .n y0, .n z0, .l 23 l0, .n dd, .n (atq (l.drop i.toNat) ⟨d, X, Y, Z⟩ dd ⟨qx, qy, qz⟩).X, .n (atq (l.drop i.toNat) ⟨d, X, Y, Z⟩ dd ⟨qx, qy, qz⟩).Y, .n (atq (l.drop i.toNat) ⟨d, X, Y, Z⟩ dd ⟨qx, qy, qz⟩).Z])) : Tree (Ex × List (V T))).holds K) :
    (bodyD Try.prog E cAT 6 (bodyX Try.prog E ctA noLoops 1000 5 L0 (lpOf Try.prog 141 0)) (l, n, i, x, y, z, l', d, X, Y, Z, x0, y0, z0, l0, dd, qx, qy, qz, ())).holds fun y => match y with
    | .inl d => ((d.1.length : Int) - d.2.2.1).toNat < ((l.length : Int) - i).toNat ∧ (cAT.out d).holds K
    | .inr y => K y := by
  rw [bAT]
  obtain ⟨⟨h0, rfl, hl⟩, hll, hk⟩ := hI
  have hll := hll.symm
  subst hll
  obtain ⟨hv, ⟨d0, d1⟩, ⟨e0, e1⟩⟩ := hk
  refine way (fun c => wayC h0 c fun _ _ => ?_) fun c => ?_
  · rw [drop_vI h0 c] at hK
    have hm := hv _ (vi_mm h0 c)
    have p := ln_pos hm
    have e2 : IntKind.wrap IntKind.i64 (i + 1) = i + 1 := i64_in' (by omega) (by omega)
    have sz := szN_ln hm
    refine way (fun g => ⟨rfl, ?_⟩) fun g => way (fun _ => wayN (fun k => absurd c k) fun _ => ?_) fun k => absurd h0 k
    · rw [show brk (vi l i :: l.drop (i + 1).toNat) ⟨d, X, Y, Z⟩ dd = true from if_pos g, show atq (vi l i :: l.drop (i + 1).toNat) ⟨d, X, Y, Z⟩ dd ⟨qx, qy, qz⟩ = ⟨qx, qy, qz⟩ from if_pos g] at hK
      exact hK.1 rfl
    · have w1 : IntKind.wrap IntKind.i64 (dd - d) = dd - d := i64_in' (by omega) (by omega)
      have hn : nxS ⟨d, X, Y, Z⟩ (vi l i) = ⟨d + ln (vi l i).X (vi l i).Y (vi l i).Z, wr (X + (vi l i).X), wr (Y + (vi l i).Y), wr (Z + (vi l i).Z)⟩ := nxS_nx2 hm ⟨d0, by show d ≤ _; omega⟩
      rw [show brk (vi l i :: l.drop (i + 1).toNat) ⟨d, X, Y, Z⟩ dd = brk (l.drop (i + 1).toNat) (nxS ⟨d, X, Y, Z⟩ (vi l i)) dd from if_neg g, show atq (vi l i :: l.drop (i + 1).toNat) ⟨d, X, Y, Z⟩ dd ⟨qx, qy, qz⟩ = atq (l.drop (i + 1).toNat) (nxS ⟨d, X, Y, Z⟩ (vi l i)) dd (ptS ⟨d, X, Y, Z⟩ (vi l i) (dd - d)) from if_neg g, show en (vi l i :: l.drop (i + 1).toNat) ⟨d, X, Y, Z⟩ = en (l.drop (i + 1).toNat) (nxS ⟨d, X, Y, Z⟩ (vi l i)) from rfl, hn] at hK
      have w2 : IntKind.wrap IntKind.i64 (d + ln (vi l i).X (vi l i).Y (vi l i).Z) = d + ln (vi l i).X (vi l i).Y (vi l i).Z := i64_in' (by omega) (by omega)
      rw [e2, w1, sz, w2]
      have pr : ∀ a : Int, -131072 ≤ a ∧ a ≤ 131072 → qPre (IntKind.wrap IntKind.i64 (a * (dd - d))) (ln (vi l i).X (vi l i).Y (vi l i).Z) := fun a ha => pt_pre p ha ⟨by omega, by omega⟩
      have ic := hm.1
      have x1 : (decide (0 ≤ i) && decide (i < (l.length : Int))) = true := by simp only [Bool.and_eq_true, decide_eq_true_eq]; omega
      have g1 : ((l.length : Int) - (i + 1)).toNat < ((l.length : Int) - i).toNat := by omega
      exact ⟨x1, pr _ (inP_1 ic), pr _ (inP_2 ic), pr _ (inP_3 ic), rfl, g1, nAT _ _ _ _ _ _ _ _ _ _ _ _ _ _ _ _ _ _ _ K ⟨⟨by omega, rfl, hl⟩, rfl, hv, ⟨by omega, by omega⟩, e0, e1⟩ hK⟩
  · rw [drop_nilI c] at hK
    exact ⟨rfl, hK.2 rfl⟩
theorem hAT : LoopH Try.prog E cAT 6 (bodyX Try.prog E ctA noLoops 1000 5 L0 (lpOf Try.prog 141 0)) :=
  ⟨fun d => ((d.1.length : Int) - d.2.2.1).toNat, fun dd K hK => by
    obtain ⟨l, n, i, x, y, z, l', d, X, Y, Z, x0, y0, z0, l0, dd, qx, qy, qz, ⟨⟩⟩ := dd
    obtain ⟨hI, hK⟩ := hK
    refine Tree.holds_mono (fun y hy => ?_) (hAT' l n i x y z l' d X Y Z x0 y0 z0 l0 dd qx qy qz K hI hK)
    cases y with
    | inl d' => exact hy
    | inr y => exact hy⟩
theorem llAT : LLOk Try.prog E (llOfN Try.prog E 141 6 [(2, cAT)]) := llOfN_ok fun i hi c hc => by
  have hi : i < 1 := hi
  obtain rfl : i = 0 := by omega
  obtain rfl : cAT = c := Option.some.inj hc
  exact LSndN.mk good names mixes ctA_ok (by decide) hAT
theorem tv36 (x y z : Int) (l : List Vec) (dd : Int) : runX ctA (llOfN Try.prog E 141 6 [(2, cAT)]) 36 [.agg [i64 x, i64 y, i64 z, .sl 23 l false], i64 dd] [23, 4] =
  (.br (!within dd (0 : Int) (lenS x y z l))
   (.leaf (.tup [.agg [.sym .i64 ((0 : Int)), .sym .i64 ((0 : Int)), .sym .i64 ((0 : Int))], .bool (false)]))
   (.br (!chk x y z l == (0 : Int))
    (.leaf (.tup [.agg [.sym .i64 ((0 : Int)), .sym .i64 ((0 : Int)), .sym .i64 ((0 : Int))], .bool (false)]))
    (.req (RecIs (rfOf Try.prog (36 : Nat) (0 : Nat)) (rfOf Try.prog (36 : Nat) (0 : Nat)))
    (.req (((0 : Int) ≤ (0 : Int) ∧ (↑(List.length l) : Int) = (↑(List.length l) : Int) ∧ List.length l ≤ (20 : Nat)) ∧ l = l ∧ okA l (0 : Int) (0 : Int) dd)
    (.br (brk (List.drop (Int.toNat (0 : Int)) l) (Stp.mk (0 : Int) x y z) dd)
     (.leaf (.tup [.agg [.sym .i64 (Vec.X (atq (List.drop (Int.toNat (0 : Int)) l) (Stp.mk (0 : Int) x y z) dd (Vec.mk x y z))), .sym .i64 (Vec.Y (atq (List.drop (Int.toNat (0 : Int)) l) (Stp.mk (0 : Int) x y z) dd (Vec.mk x y z))), .sym .i64 (Vec.Z (atq (List.drop (Int.toNat (0 : Int)) l) (Stp.mk (0 : Int) x y z) dd (Vec.mk x y z)))], .bool (true)]))
     (.br (decide (Stp.d (en (List.drop (Int.toNat (0 : Int)) l) (Stp.mk (0 : Int) x y z)) > dd))
      (.leaf (.tup [.agg [.sym .i64 (Vec.X (atq (List.drop (Int.toNat (0 : Int)) l) (Stp.mk (0 : Int) x y z) dd (Vec.mk x y z))), .sym .i64 (Vec.Y (atq (List.drop (Int.toNat (0 : Int)) l) (Stp.mk (0 : Int) x y z) dd (Vec.mk x y z))), .sym .i64 (Vec.Z (atq (List.drop (Int.toNat (0 : Int)) l) (Stp.mk (0 : Int) x y z) dd (Vec.mk x y z)))], .bool (true)]))
      (.br (decide ((0 : Int) ≤ (↑(List.length l) : Int)))
       (.br (!decide ((↑(List.length l) : Int) < (↑(List.length l) : Int)))
        (.leaf (.tup [.agg [.sym .i64 (Vec.X (atq (List.drop (Int.toNat (0 : Int)) l) (Stp.mk (0 : Int) x y z) dd (Vec.mk x y z))), .sym .i64 (Vec.Y (atq (List.drop (Int.toNat (0 : Int)) l) (Stp.mk (0 : Int) x y z) dd (Vec.mk x y z))), .sym .i64 (Vec.Z (atq (List.drop (Int.toNat (0 : Int)) l) (Stp.mk (0 : Int) x y z) dd (Vec.mk x y z)))], .bool (true)]))
        (.req ((decide ((0 : Int) ≤ (↑(List.length l) : Int)) && decide ((↑(List.length l) : Int) < (↑(List.length l) : Int))) = true)
        (.req (qPre (IntKind.wrap IntKind.i64 (Vec.X (vi l (↑(List.length l) : Int)) * IntKind.wrap IntKind.i64 (dd - Stp.d (en (List.drop (Int.toNat (0 : Int)) l) (Stp.mk (0 : Int) x y z))))) (szN (Vec.X (vi l (↑(List.length l) : Int))) (Vec.Y (vi l (↑(List.length l) : Int))) (Vec.Z (vi l (↑(List.length l) : Int)))))
        (.req (qPre (IntKind.wrap IntKind.i64 (Vec.Y (vi l (↑(List.length l) : Int)) * IntKind.wrap IntKind.i64 (dd - Stp.d (en (List.drop (Int.toNat (0 : Int)) l) (Stp.mk (0 : Int) x y z))))) (szN (Vec.X (vi l (↑(List.length l) : Int))) (Vec.Y (vi l (↑(List.length l) : Int))) (Vec.Z (vi l (↑(List.length l) : Int)))))
        (.req (qPre (IntKind.wrap IntKind.i64 (Vec.Z (vi l (↑(List.length l) : Int)) * IntKind.wrap IntKind.i64 (dd - Stp.d (en (List.drop (Int.toNat (0 : Int)) l) (Stp.mk (0 : Int) x y z))))) (szN (Vec.X (vi l (↑(List.length l) : Int))) (Vec.Y (vi l (↑(List.length l) : Int))) (Vec.Z (vi l (↑(List.length l) : Int)))))
        (.leaf (.tup [.agg [.sym .i64 (IntKind.wrap IntKind.i64 (Stp.x (en (List.drop (Int.toNat (0 : Int)) l) (Stp.mk (0 : Int) x y z)) + IntKind.wrap IntKind.i64 (Vec.X (vi l (↑(List.length l) : Int)) * IntKind.wrap IntKind.i64 (dd - Stp.d (en (List.drop (Int.toNat (0 : Int)) l) (Stp.mk (0 : Int) x y z)))) / szN (Vec.X (vi l (↑(List.length l) : Int))) (Vec.Y (vi l (↑(List.length l) : Int))) (Vec.Z (vi l (↑(List.length l) : Int))))), .sym .i64 (IntKind.wrap IntKind.i64 (Stp.y (en (List.drop (Int.toNat (0 : Int)) l) (Stp.mk (0 : Int) x y z)) + IntKind.wrap IntKind.i64 (Vec.Y (vi l (↑(List.length l) : Int)) * IntKind.wrap IntKind.i64 (dd - Stp.d (en (List.drop (Int.toNat (0 : Int)) l) (Stp.mk (0 : Int) x y z)))) / szN (Vec.X (vi l (↑(List.length l) : Int))) (Vec.Y (vi l (↑(List.length l) : Int))) (Vec.Z (vi l (↑(List.length l) : Int))))), .sym .i64 (IntKind.wrap IntKind.i64 (Stp.z (en (List.drop (Int.toNat (0 : Int)) l) (Stp.mk (0 : Int) x y z)) + IntKind.wrap IntKind.i64 (Vec.Z (vi l (↑(List.length l) : Int)) * IntKind.wrap IntKind.i64 (dd - Stp.d (en (List.drop (Int.toNat (0 : Int)) l) (Stp.mk (0 : Int) x y z)))) / szN (Vec.X (vi l (↑(List.length l) : Int))) (Vec.Y (vi l (↑(List.length l) : Int))) (Vec.Z (vi l (↑(List.length l) : Int)))))], .bool (true)])))))))
       (.leaf (.tup [.agg [.sym .i64 (Vec.X (atq (List.drop (Int.toNat (0 : Int)) l) (Stp.mk (0 : Int) x y z) dd (Vec.mk x y z))), .sym .i64 (Vec.Y (atq (List.drop (Int.toNat (0 : Int)) l) (Stp.mk (0 : Int) x y z) dd (Vec.mk x y z))), .sym .i64 (Vec.Z (atq (List.drop (Int.toNat (0 : Int)) l) (Stp.mk (0 : Int) x y z) dd (Vec.mk x y z)))], .bool (true)]))))))))) := by kernel_rfl
noncomputable def oRA (dd : Int) (J : List Vec) (st : Int) (i : Int) (x : Int) (y : Int) (z : Int) (l : List Vec) (qx : Int) (qy : Int) (qz : Int) : Tree (Ex × List (V T)) := .req ((0 ≤ i ∧ l.length ≤ 20) ∧ J.length = l.length + 1 ∧ okA l i st dd) (.leaf (.exit 0, [.n (ratq (l.drop i.toNat) (J.drop i.toNat) st dd ⟨qx, qy, qz⟩).X, .n (ratq (l.drop i.toNat) (J.drop i.toNat) st dd ⟨qx, qy, qz⟩).Y, .n (ratq (l.drop i.toNat) (J.drop i.toNat) st dd ⟨qx, qy, qz⟩).Z]))
noncomputable def cRA : LoopC T := ⟨[.n, .l 23, .n, .n, .n, .n, .n, .l 23, .n, .n, .n], ⟨89, [(1, .one (.i .i64)), (2, .one (.o 0 0)), (4, .one (.o 1 0)), (6, .one (.s 23)), (7, .one (.o 2 0)), (8, .one (.i .i64)), (9, .one (.i .i64))], [.c [.i .i64, .i .i64, .i .i64, .s 23], .c [.x, .x, .x], .c [.i .i64, .i .i64, .i .i64]]⟩, fun _ => ⟨89, [(4, .one (.o 0 0)), (7, .one (.o 1 0))], [.c [.x, .x, .x], .c [.i .i64, .i .i64, .i .i64]]⟩, 30, fun d => oRA d.1 d.2.1 d.2.2.1 d.2.2.2.1 d.2.2.2.2.1 d.2.2.2.2.2.1 d.2.2.2.2.2.2.1 d.2.2.2.2.2.2.2.1 d.2.2.2.2.2.2.2.2.1 d.2.2.2.2.2.2.2.2.2.1 d.2.2.2.2.2.2.2.2.2.2.1⟩
theorem bRA (dd : Int) (J : List Vec) (st : Int) (i : Int) (x : Int) (y : Int) (z : Int) (l : List Vec) (qx : Int) (qy : Int) (qz : Int) : bodyD Try.prog E cRA 0 (bodyX Try.prog E ctA noLoops 1000 5 L0 (lpOf Try.prog 37 0)) (dd, J, st, i, x, y, z, l, qx, qy, qz, ()) =
  (.br (decide (i < (↑(List.length l) : Int)))
   (.req ((decide ((0 : Int) ≤ i) && decide (i < (↑(List.length l) : Int))) = true)
   (.br (decide (dd ≥ st))
    (.req ((decide ((0 : Int) ≤ i) && decide (i < (↑(List.length l) : Int))) = true)
    (.req ((decide ((0 : Int) ≤ i) && decide (i < (↑(List.length J) : Int))) = true)
    (.req (qPre (IntKind.wrap IntKind.i64 (Vec.X (vi l i) * (mn2 (IntKind.wrap IntKind.i64 (dd - st)) (lgN (Vec.X (vi l i)) (Vec.Y (vi l i)) (Vec.Z (vi l i)))))) (lgN (Vec.X (vi l i)) (Vec.Y (vi l i)) (Vec.Z (vi l i))))
    (.req (qPre (IntKind.wrap IntKind.i64 (Vec.Y (vi l i) * (mn2 (IntKind.wrap IntKind.i64 (dd - st)) (lgN (Vec.X (vi l i)) (Vec.Y (vi l i)) (Vec.Z (vi l i)))))) (lgN (Vec.X (vi l i)) (Vec.Y (vi l i)) (Vec.Z (vi l i))))
    (.req (qPre (IntKind.wrap IntKind.i64 (Vec.Z (vi l i) * (mn2 (IntKind.wrap IntKind.i64 (dd - st)) (lgN (Vec.X (vi l i)) (Vec.Y (vi l i)) (Vec.Z (vi l i)))))) (lgN (Vec.X (vi l i)) (Vec.Y (vi l i)) (Vec.Z (vi l i))))
    (.leaf (.inl (dd, (J, (IntKind.wrap IntKind.i64 (st + lgN (Vec.X (vi l i)) (Vec.Y (vi l i)) (Vec.Z (vi l i))), (IntKind.wrap IntKind.i64 (i + (1 : Int)), (x, (y, (z, (l, (IntKind.wrap IntKind.i64 (Vec.X (vi J i) + IntKind.wrap IntKind.i64 (Vec.X (vi l i) * (mn2 (IntKind.wrap IntKind.i64 (dd - st)) (lgN (Vec.X (vi l i)) (Vec.Y (vi l i)) (Vec.Z (vi l i))))) / lgN (Vec.X (vi l i)) (Vec.Y (vi l i)) (Vec.Z (vi l i))), (IntKind.wrap IntKind.i64 (Vec.Y (vi J i) + IntKind.wrap IntKind.i64 (Vec.Y (vi l i) * (mn2 (IntKind.wrap IntKind.i64 (dd - st)) (lgN (Vec.X (vi l i)) (Vec.Y (vi l i)) (Vec.Z (vi l i))))) / lgN (Vec.X (vi l i)) (Vec.Y (vi l i)) (Vec.Z (vi l i))), (IntKind.wrap IntKind.i64 (Vec.Z (vi J i) + IntKind.wrap IntKind.i64 (Vec.Z (vi l i) * (mn2 (IntKind.wrap IntKind.i64 (dd - st)) (lgN (Vec.X (vi l i)) (Vec.Y (vi l i)) (Vec.Z (vi l i))))) / lgN (Vec.X (vi l i)) (Vec.Y (vi l i)) (Vec.Z (vi l i))), ()))))))))))))))))))
    (.leaf (.inl (dd, (J, (IntKind.wrap IntKind.i64 (st + lgN (Vec.X (vi l i)) (Vec.Y (vi l i)) (Vec.Z (vi l i))), (IntKind.wrap IntKind.i64 (i + (1 : Int)), (x, (y, (z, (l, (qx, (qy, (qz, ())))))))))))))))
   (.leaf (.inr (.exit (0 : Nat), [.n (qx), .n (qy), .n (qz)])))) := by kernel_rfl
theorem nRA (dd : Int) (J : List Vec) (st : Int) (i : Int) (x : Int) (y : Int) (z : Int) (l : List Vec) (qx : Int) (qy : Int) (qz : Int) (K : Ex × List (V T) → Prop) (hI : (0 ≤ i ∧ l.length ≤ 20) ∧ J.length = l.length + 1 ∧ okA l i st dd) (hK : (.leaf (.exit 0, [.n (ratq (l.drop i.toNat) (J.drop i.toNat) st dd ⟨qx, qy, qz⟩).X, .n (ratq (l.drop i.toNat) (J.drop i.toNat) st dd ⟨qx, qy, qz⟩).Y, .n (ratq (l.drop i.toNat) (J.drop i.toNat) st dd ⟨qx, qy, qz⟩).Z]) : Tree (Ex × List (V T))).holds K) : (cRA.out (dd, J, st, i, x, y, z, l, qx, qy, qz, ())).holds K := ⟨hI, hK⟩
theorem hRA' (dd : Int) (J : List Vec) (st : Int) (i : Int) (x : Int) (y : Int) (z : Int) (l : List Vec) (qx : Int) (qy : Int) (qz : Int) (K : Ex × List (V T) → Prop) (hI : (0 ≤ i ∧ l.length ≤ 20) ∧ J.length = l.length + 1 ∧ okA l i st dd) (hK : (.leaf (.exit 0, [.n (ratq (l.drop i.toNat) (J.drop i.toNat) st dd ⟨qx, qy, qz⟩).X, .n (ratq (l.drop i.toNat) (J.drop i.toNat) st dd ⟨qx, qy, qz⟩).Y, .n (ratq (l.drop i.toNat) (J.drop i.toNat) st dd ⟨qx, qy, qz⟩).Z]) : Tree (Ex × List (V T))).holds K) :
    (bodyD Try.prog E cRA 0 (bodyX Try.prog E ctA noLoops 1000 5 L0 (lpOf Try.prog 37 0)) (dd, J, st, i, x, y, z, l, qx, qy, qz, ())).holds fun y => match y with
    | .inl d => ((d.2.2.2.2.2.2.2.1.length : Int) - d.2.2.2.1).toNat < ((l.length : Int) - i).toNat ∧ (cRA.out d).holds K
    | .inr y => K y := by
  rw [bRA]
  obtain ⟨⟨h0, hl⟩, hj, hv, ⟨d0, d1⟩, e0, e1⟩ := hI
  refine way (fun c => wayC h0 c fun _ _ => ?_) fun c => ?_
  · have x1 : (decide (0 ≤ i) && decide (i < (l.length : Int))) = true := by simp only [Bool.and_eq_true, decide_eq_true_eq]; omega
    have x2 : (decide (0 ≤ i) && decide (i < (J.length : Int))) = true := by simp only [Bool.and_eq_true, decide_eq_true_eq]; omega
    rw [drop_vI h0 c, drop_vI (l := J) h0 (by omega)] at hK
    have hm := hv _ (vi_mm h0 c)
    have p := ln_pos hm
    have e2 : IntKind.wrap IntKind.i64 (i + 1) = i + 1 := i64_in' (by omega) (by omega)
    have sz := lgN_ln hm
    have w1 : IntKind.wrap IntKind.i64 (dd - st) = dd - st := i64_in' (by omega) (by omega)
    have w2 : IntKind.wrap IntKind.i64 (st + ln (vi l i).X (vi l i).Y (vi l i).Z) = st + ln (vi l i).X (vi l i).Y (vi l i).Z := i64_in' (by omega) (by omega)
    rw [e2, sz, w1, w2]
    have ic := hm.1
    have g1 : ((l.length : Int) - (i + 1)).toNat < ((l.length : Int) - i).toNat := by omega
    have inv : (0 ≤ i + 1 ∧ l.length ≤ 20) ∧ J.length = l.length + 1 ∧ okA l (i + 1) (st + ln (vi l i).X (vi l i).Y (vi l i).Z) dd := ⟨⟨by omega, hl⟩, hj, hv, ⟨by omega, by omega⟩, e0, e1⟩
    refine way (fun g => ?_) fun g => ?_
    · rw [show ratq (vi l i :: l.drop (i + 1).toNat) (vi J i :: J.drop (i + 1).toNat) st dd ⟨qx, qy, qz⟩ = ratq (l.drop (i + 1).toNat) (J.drop (i + 1).toNat) (st + ln (vi l i).X (vi l i).Y (vi l i).Z) dd (ptS ⟨st, (vi J i).X, (vi J i).Y, (vi J i).Z⟩ (vi l i) (mn3 (dd - st) (ln (vi l i).X (vi l i).Y (vi l i).Z))) from congrArg (ratq _ _ _ dd) (if_pos g)] at hK
      have mb : 0 ≤ mn2 (dd - st) (ln (vi l i).X (vi l i).Y (vi l i).Z) ∧ mn2 (dd - st) (ln (vi l i).X (vi l i).Y (vi l i).Z) ≤ 1099511627776 := by unfold mn2; split <;> omega
      exact ⟨x1, x2, pt_pre p (inP_1 ic) mb, pt_pre p (inP_2 ic) mb, pt_pre p (inP_3 ic) mb, g1, nRA _ _ _ _ _ _ _ _ _ _ _ K inv hK⟩
    · rw [show ratq (vi l i :: l.drop (i + 1).toNat) (vi J i :: J.drop (i + 1).toNat) st dd ⟨qx, qy, qz⟩ = ratq (l.drop (i + 1).toNat) (J.drop (i + 1).toNat) (st + ln (vi l i).X (vi l i).Y (vi l i).Z) dd ⟨qx, qy, qz⟩ from congrArg (ratq _ _ _ dd) (if_neg g)] at hK
      exact ⟨g1, nRA _ _ _ _ _ _ _ _ _ _ _ K inv hK⟩
  · rw [drop_nilI c] at hK
    exact hK
theorem hRA : LoopH Try.prog E cRA 0 (bodyX Try.prog E ctA noLoops 1000 5 L0 (lpOf Try.prog 37 0)) :=
  ⟨fun d => ((d.2.2.2.2.2.2.2.1.length : Int) - d.2.2.2.1).toNat, fun dd K hK => by
    obtain ⟨dd, J, st, i, x, y, z, l, qx, qy, qz, ⟨⟩⟩ := dd
    obtain ⟨hI, hK⟩ := hK
    refine Tree.holds_mono (fun y hy => ?_) (hRA' dd J st i x y z l qx qy qz K hI hK)
    cases y with
    | inl d' => exact hy
    | inr y => exact hy⟩
theorem llRA : LLOk Try.prog E (llOfN Try.prog E 37 0 [(7, cRA)]) := llOfN_ok fun i hi c hc => by
  have hi : i < 1 := hi
  obtain rfl : i = 0 := by omega
  obtain rfl : cRA = c := Option.some.inj hc
  exact LSndN.mk good names mixes ctA_ok (by decide) hRA
theorem tv37 (x y z : Int) (l : List Vec) (dd : Int) : runX ctA (llOfN Try.prog E 37 0 [(7, cRA)]) 37 [.agg [i64 x, i64 y, i64 z, .sl 23 l false], i64 dd] [23, 4] =
  (.br (chk x y z l != (0 : Int))
   (.leaf (.tup [.agg [.sym .i64 ((0 : Int)), .sym .i64 ((0 : Int)), .sym .i64 ((0 : Int))], .bool (false)]))
   (.br (decide (dd < (0 : Int)))
    (.leaf (.tup [.agg [.sym .i64 ((0 : Int)), .sym .i64 ((0 : Int)), .sym .i64 ((0 : Int))], .bool (false)]))
    (.br (decide (dd > lenS x y z l))
     (.leaf (.tup [.agg [.sym .i64 ((0 : Int)), .sym .i64 ((0 : Int)), .sym .i64 ((0 : Int))], .bool (false)]))
     (.req (List.length l ≤ (20 : Nat))
     (.req (((0 : Int) ≤ (0 : Int) ∧ List.length l ≤ (20 : Nat)) ∧ List.length (jn l (s0 x y z)) = List.length l + (1 : Nat) ∧ okA l (0 : Int) (0 : Int) dd)
     (.leaf (.tup [.agg [.sym .i64 (Vec.X (ratq (List.drop (Int.toNat (0 : Int)) l) (List.drop (Int.toNat (0 : Int)) (jn l (s0 x y z))) (0 : Int) dd (Vec.mk x y z))), .sym .i64 (Vec.Y (ratq (List.drop (Int.toNat (0 : Int)) l) (List.drop (Int.toNat (0 : Int)) (jn l (s0 x y z))) (0 : Int) dd (Vec.mk x y z))), .sym .i64 (Vec.Z (ratq (List.drop (Int.toNat (0 : Int)) l) (List.drop (Int.toNat (0 : Int)) (jn l (s0 x y z))) (0 : Int) dd (Vec.mk x y z)))], .bool (true)]))))))) := by kernel_rfl
@[reducible] def okAt (x y z : Int) (l : List Vec) (dd : Int) : Prop := chk x y z l = 0 ∧ 0 ≤ dd ∧ dd ≤ lenS x y z l
noncomputable def atP (x y z : Int) (l : List Vec) (dd : Int) : Vec := if okAt x y z l dd then atq l (s0 x y z) dd ⟨x, y, z⟩ else ⟨0, 0, 0⟩
noncomputable def atB (x y z : Int) (l : List Vec) (dd : Int) : Bool := decide (okAt x y z l dd)
@[reducible] noncomputable def atV (x y z : Int) (l : List Vec) (dd : Int) : AV T := .tup [.agg [i64 (atP x y z l dd).X, i64 (atP x y z l dd).Y, i64 (atP x y z l dd).Z], .bool (atB x y z l dd)]
theorem at_no {x y z : Int} {l : List Vec} {dd : Int} (h : ¬ okAt x y z l dd) : (.tup [.agg [i64 0, i64 0, i64 0], .bool false] : AV T) = atV x y z l dd := by
  unfold atV atP atB
  rw [if_neg h, decide_eq_false h]
theorem at_yes {x y z : Int} {l : List Vec} {dd : Int} (h : okAt x y z l dd) : (.tup [.agg [i64 (atq l (s0 x y z) dd ⟨x, y, z⟩).X, i64 (atq l (s0 x y z) dd ⟨x, y, z⟩).Y, i64 (atq l (s0 x y z) dd ⟨x, y, z⟩).Z], .bool true] : AV T) = atV x y z l dd := by
  unfold atV atP atB
  rw [if_pos h, decide_eq_true h]
theorem en_le : ∀ (l : List Vec) (s : Stp), (∀ v ∈ l, lgP v.X v.Y v.Z) → (0 ≤ s.d ∧ s.d + 131072 * l.length ≤ 1099511627776) → s.d ≤ (en l s).d ∧ (en l s).d ≤ s.d + 131072 * l.length
  | [], s, _, _ => ⟨Int.le_refl _, by show s.d ≤ s.d + 131072 * ((0 : Nat) : Int); omega⟩
  | v :: r, s, hv, hb => by
    have hp := hv v (List.mem_cons_self ..)
    have p := ln_pos hp
    have len : ((v :: r).length : Int) = r.length + 1 := by simp
    have e := nxS_nx2 (s := s) hp ⟨hb.1, by omega⟩
    have ed : (nxS s v).d = s.d + ln v.X v.Y v.Z := by rw [e]; rfl
    have := en_le r (nxS s v) (fun u hu => hv u (List.mem_cons_of_mem _ hu)) (by rw [ed]; omega)
    show s.d ≤ (en r (nxS s v)).d ∧ (en r (nxS s v)).d ≤ _
    omega
theorem len_bd {x y z : Int} {l : List Vec} (c : chk x y z l = 0) : lenS x y z l = (en l (s0 x y z)).d ∧ 0 ≤ lenS x y z l ∧ lenS x y z l ≤ 2621440 := by
  have hl := chk_lg c
  have e : lenS x y z l = (en l (s0 x y z)).d := if_pos c
  have b := en_le l (s0 x y z) hl.2.2 ⟨Int.le_refl _, by show (0 : Int) + _ ≤ _; omega⟩
  rw [e]
  have z0 : (s0 x y z).d = 0 := rfl
  rw [z0] at b
  exact ⟨rfl, by omega, by omega⟩
theorem s36 (x y z : Int) (l : List Vec) (dd : Int) : (runX ctA (llOfN Try.prog E 141 6 [(2, cAT)]) 36 [.agg [i64 x, i64 y, i64 z, .sl 23 l false], i64 dd] [23, 4]).holds fun v => v = atV x y z l dd := by
  rw [tv36]
  refine wayN (fun h => at_no fun k => h k.2) fun h => wayNEq (fun c => at_no fun k => c k.1) fun c => ?_
  have hl := chk_lg c
  have lb := len_bd c
  have ok : okAt x y z l dd := ⟨c, h.1, h.2⟩
  have y1 := at_yes ok
  refine ⟨rfl, ⟨⟨by decide, rfl, by omega⟩, rfl, hl.2.2, ⟨by decide, by decide⟩, h.1, by omega⟩, wayB (fun _ => y1) fun _ => way (fun _ => y1) fun _ => way (fun _ => wayN (fun _ => y1) fun k => absurd k (by omega)) fun k => absurd k (by omega)⟩
theorem s37 (x y z : Int) (l : List Vec) (dd : Int) : (runX ctA (llOfN Try.prog E 37 0 [(7, cRA)]) 37 [.agg [i64 x, i64 y, i64 z, .sl 23 l false], i64 dd] [23, 4]).holds fun v => v = atV x y z l dd := by
  rw [tv37]
  refine wayNe (fun c => at_no fun k => c k.1) fun c => way (fun h => at_no fun k => by have := k.2; omega) fun h1 => way (fun h => at_no fun k => by have := k.2; omega) fun h2 => ?_
  have hl := chk_lg c
  have lb := len_bd c
  have ok : okAt x y z l dd := ⟨c, by omega, by omega⟩
  have y1 := at_yes ok
  have same := at_same l (s0 x y z) dd ⟨x, y, z⟩ ⟨x, y, z⟩ hl.2.2 ⟨Int.le_refl _, by show (0 : Int) + _ ≤ _; omega⟩ (by rw [← lb.1]; omega) (.inr rfl)
  have lj : (jn l (s0 x y z)).length = l.length + 1 := len_jn l _
  refine ⟨by omega, ⟨⟨by decide, by omega⟩, lj, hl.2.2, ⟨by decide, by decide⟩, by omega, by omega⟩, ?_⟩
  show (AV.tup [.agg [i64 (ratq l (jn l (s0 x y z)) (s0 x y z).d dd ⟨x, y, z⟩).X, i64 (ratq l (jn l (s0 x y z)) (s0 x y z).d dd ⟨x, y, z⟩).Y, i64 (ratq l (jn l (s0 x y z)) (s0 x y z).d dd ⟨x, y, z⟩).Z], .bool true] : AV T) = _
  rw [same]
  exact y1
noncomputable def cAt : Con T := conV Try.prog [shP, .one (.i .i64)] [.n, .n, .n, .l 23, .n] fun d => atV d.1 d.2.1 d.2.2.1 d.2.2.2.1 d.2.2.2.2.1
theorem at_ok : ConOk Try.prog E 36 cAt := conV_ok fun d => fact_run ctA_ok llAT (ts := [23, 4]) rfl (s36 d.1 d.2.1 d.2.2.1 d.2.2.2.1 d.2.2.2.2.1)
theorem at2_ok : ConOk Try.prog E 37 cAt := conV_ok fun d => fact_run ctA_ok llRA (ts := [23, 4]) rfl (s37 d.1 d.2.1 d.2.2.1 d.2.2.2.1 d.2.2.2.2.1)
end Go.Proofs.Ytmnhfjhlfgebiaa.W
