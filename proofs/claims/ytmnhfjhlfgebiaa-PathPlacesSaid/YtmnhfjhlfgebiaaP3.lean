/- PathPlaces. No condition. -/
import Derived.Test.YtmnhfjhlfgebiaaP2
import Derived.Test.YtmnhfjhlfgebiaaW
import Derived.Test.YtmnhfjhlfgebiaaLPathPlaces
set_option linter.unusedVariables false
set_option maxRecDepth 100000
set_option maxHeartbeats 4000000
noncomputable section
namespace Go.Proofs.Ytmnhfjhlfgebiaa.W
open Go Go.Cx Go.RowKit
noncomputable def n2 (l : List Int) (i : Int) : Int := ixD E 2 l i
noncomputable def px (l : List Path) (i : Int) : Path := ixD E 26 l i
noncomputable def ctPP : CTab T := (33, cPath) :: (36, cAt) :: (37, cAt) :: (35, cMod) :: (20, cAwake) :: ctA
theorem ctPP_ok : CTabOk Try.prog E ctPP := .cons path_ok (.cons at_ok (.cons at2_ok (.cons mod64_ok (.cons awake_ok ctA_ok))))
theorem vv_y {α : Type} {a : Bool} {t f : Tree α} {Q : α → Prop} (k : f.holds Q) (h : a = true := by simp) : (Tree.br (!a) t f).holds Q := ⟨fun c => (by rw [h] at c; cases c), fun _ => k⟩
theorem lenS_bd (x y z : Int) (l : List Vec) : 0 ≤ lenS x y z l ∧ lenS x y z l ≤ 2621440 := by
  by_cases c : chk x y z l = 0
  · exact (len_bd c).2
  · rw [show lenS x y z l = 0 from if_neg c]; omega
noncomputable def oPI (L : List Path) (ds : List Int) (k : Int) (n : Int) (i : Int) : Tree (Ex × List (V T)) := .req ((0 ≤ i ∧ ds.length ≤ 30) ∧ (0 ≤ k ∧ k < L.length) ∧ 0 ≤ n ∧ n ≤ 2621440) (.leaf (.exit 2, [.l 26 L, .l 2 ds, .n k]))
noncomputable def cPI : LoopC T := ⟨[.l 26, .l 2, .n, .n, .n], ⟨83, [(1, .one (.s 2)), (7, .one (.g 0 26)), (8, .one (.i .i64)), (9, .one (.i .i64)), (10, .one (.i .i64))], [.l 26]⟩, fun e => match e with
    | .ret => ⟨83, [(6, .one .b)], []⟩
    | _ => ⟨83, [(1, .one (.s 2)), (7, .one (.g 0 26)), (8, .one (.i .i64))], [.l 26]⟩, 60, fun d => oPI d.1 d.2.1 d.2.2.1 d.2.2.2.1 d.2.2.2.2.1⟩
theorem bPI (L : List Path) (ds : List Int) (k : Int) (n : Int) (i : Int) : bodyD Try.prog E cPI 0 (bodyX Try.prog E ctPP noLoops 1000 5 L0 (lpOf Try.prog 4 1)) (L, ds, k, n, i, ()) =
  (.br (decide (i < (↑(List.length ds) : Int)))
   (.req ((decide ((0 : Int) ≤ i) && decide (i < (↑(List.length ds) : Int))) = true)
   (.br (Int.tmod i (2 : Int) == (0 : Int))
    (.req (mPre (n2 ds i) (IntKind.wrap IntKind.i64 (n + (3 : Int))))
    (.req ((decide ((0 : Int) ≤ k) && decide (k < (↑(List.length L) : Int))) = true)
    (.req ((decide ((0 : Int) ≤ k) && decide (k < (↑(List.length L) : Int))) = true)
    (.req ((decide ((0 : Int) ≤ k) && decide (k < (↑(List.length L) : Int))) = true)
    (.req ((decide ((0 : Int) ≤ k) && decide (k < (↑(List.length L) : Int))) = true)
    (.br (!(Vec.X (atP (Vec.X (Path.From (px L k))) (Vec.Y (Path.From (px L k))) (Vec.Z (Path.From (px L k))) (Path.Legs (px L k)) (IntKind.wrap IntKind.i64 (n2 ds i % IntKind.wrap IntKind.i64 (n + (3 : Int)) - (1 : Int)))) == Vec.X (atP (Vec.X (Path.From (px L k))) (Vec.Y (Path.From (px L k))) (Vec.Z (Path.From (px L k))) (Path.Legs (px L k)) (IntKind.wrap IntKind.i64 (n2 ds i % IntKind.wrap IntKind.i64 (n + (3 : Int)) - (1 : Int)))) && (Vec.Y (atP (Vec.X (Path.From (px L k))) (Vec.Y (Path.From (px L k))) (Vec.Z (Path.From (px L k))) (Path.Legs (px L k)) (IntKind.wrap IntKind.i64 (n2 ds i % IntKind.wrap IntKind.i64 (n + (3 : Int)) - (1 : Int)))) == Vec.Y (atP (Vec.X (Path.From (px L k))) (Vec.Y (Path.From (px L k))) (Vec.Z (Path.From (px L k))) (Path.Legs (px L k)) (IntKind.wrap IntKind.i64 (n2 ds i % IntKind.wrap IntKind.i64 (n + (3 : Int)) - (1 : Int)))) && (Vec.Z (atP (Vec.X (Path.From (px L k))) (Vec.Y (Path.From (px L k))) (Vec.Z (Path.From (px L k))) (Path.Legs (px L k)) (IntKind.wrap IntKind.i64 (n2 ds i % IntKind.wrap IntKind.i64 (n + (3 : Int)) - (1 : Int)))) == Vec.Z (atP (Vec.X (Path.From (px L k))) (Vec.Y (Path.From (px L k))) (Vec.Z (Path.From (px L k))) (Path.Legs (px L k)) (IntKind.wrap IntKind.i64 (n2 ds i % IntKind.wrap IntKind.i64 (n + (3 : Int)) - (1 : Int)))) && true))))
     (.leaf (.inr (.ret, [.t (false)])))
     (.br (!atB (Vec.X (Path.From (px L k))) (Vec.Y (Path.From (px L k))) (Vec.Z (Path.From (px L k))) (Path.Legs (px L k)) (IntKind.wrap IntKind.i64 (n2 ds i % IntKind.wrap IntKind.i64 (n + (3 : Int)) - (1 : Int))) == atB (Vec.X (Path.From (px L k))) (Vec.Y (Path.From (px L k))) (Vec.Z (Path.From (px L k))) (Path.Legs (px L k)) (IntKind.wrap IntKind.i64 (n2 ds i % IntKind.wrap IntKind.i64 (n + (3 : Int)) - (1 : Int))))
      (.leaf (.inr (.ret, [.t (false)])))
      (.req (List.length L = List.length L)
      (.leaf (.inl (L, (ds, (k, (n, (IntKind.wrap IntKind.i64 (i + (1 : Int)), ())))))))))))))))
    (.req ((decide ((0 : Int) ≤ k) && decide (k < (↑(List.length L) : Int))) = true)
    (.req ((decide ((0 : Int) ≤ k) && decide (k < (↑(List.length L) : Int))) = true)
    (.req ((decide ((0 : Int) ≤ k) && decide (k < (↑(List.length L) : Int))) = true)
    (.req ((decide ((0 : Int) ≤ k) && decide (k < (↑(List.length L) : Int))) = true)
    (.br (!(Vec.X (atP (Vec.X (Path.From (px L k))) (Vec.Y (Path.From (px L k))) (Vec.Z (Path.From (px L k))) (Path.Legs (px L k)) (n2 ds i)) == Vec.X (atP (Vec.X (Path.From (px L k))) (Vec.Y (Path.From (px L k))) (Vec.Z (Path.From (px L k))) (Path.Legs (px L k)) (n2 ds i)) && (Vec.Y (atP (Vec.X (Path.From (px L k))) (Vec.Y (Path.From (px L k))) (Vec.Z (Path.From (px L k))) (Path.Legs (px L k)) (n2 ds i)) == Vec.Y (atP (Vec.X (Path.From (px L k))) (Vec.Y (Path.From (px L k))) (Vec.Z (Path.From (px L k))) (Path.Legs (px L k)) (n2 ds i)) && (Vec.Z (atP (Vec.X (Path.From (px L k))) (Vec.Y (Path.From (px L k))) (Vec.Z (Path.From (px L k))) (Path.Legs (px L k)) (n2 ds i)) == Vec.Z (atP (Vec.X (Path.From (px L k))) (Vec.Y (Path.From (px L k))) (Vec.Z (Path.From (px L k))) (Path.Legs (px L k)) (n2 ds i)) && true))))
     (.leaf (.inr (.ret, [.t (false)])))
     (.br (!atB (Vec.X (Path.From (px L k))) (Vec.Y (Path.From (px L k))) (Vec.Z (Path.From (px L k))) (Path.Legs (px L k)) (n2 ds i) == atB (Vec.X (Path.From (px L k))) (Vec.Y (Path.From (px L k))) (Vec.Z (Path.From (px L k))) (Path.Legs (px L k)) (n2 ds i))
      (.leaf (.inr (.ret, [.t (false)])))
      (.req (List.length L = List.length L)
      (.leaf (.inl (L, (ds, (k, (n, (IntKind.wrap IntKind.i64 (i + (1 : Int)), ()))))))))))))))))
   (.req (List.length L = List.length L)
   (.leaf (.inr (.exit (2 : Nat), [.l (26 : Nat) (L), .l (2 : Nat) (ds), .n (k)]))))) := by kernel_rfl
theorem nPI (L : List Path) (ds : List Int) (k : Int) (n : Int) (i : Int) (K : Ex × List (V T) → Prop) (hI : (0 ≤ i ∧ ds.length ≤ 30) ∧ (0 ≤ k ∧ k < L.length) ∧ 0 ≤ n ∧ n ≤ 2621440) (hK : (.leaf (.exit 2, [.l 26 L, .l 2 ds, .n k]) : Tree (Ex × List (V T))).holds K) : (cPI.out (L, ds, k, n, i, ())).holds K := ⟨hI, hK⟩
theorem hPI' (L : List Path) (ds : List Int) (k : Int) (n : Int) (i : Int) (K : Ex × List (V T) → Prop) (hI : (0 ≤ i ∧ ds.length ≤ 30) ∧ (0 ≤ k ∧ k < L.length) ∧ 0 ≤ n ∧ n ≤ 2621440) (hK : (.leaf (.exit 2, [.l 26 L, .l 2 ds, .n k]) : Tree (Ex × List (V T))).holds K) :
    (bodyD Try.prog E cPI 0 (bodyX Try.prog E ctPP noLoops 1000 5 L0 (lpOf Try.prog 4 1)) (L, ds, k, n, i, ())).holds fun y => match y with
    | .inl d => ((d.2.1.length : Int) - d.2.2.2.2.1).toNat < ((ds.length : Int) - i).toNat ∧ (cPI.out d).holds K
    | .inr y => K y := by
  rw [bPI]
  obtain ⟨⟨h0, hl⟩, ⟨k0, k1⟩, n0, n1⟩ := hI
  refine way (fun c => wayC h0 c fun _ _ => ?_) fun c => ⟨rfl, hK⟩
  have e : IntKind.wrap IntKind.i64 (i + 1) = i + 1 := i64_in' (by omega) (by omega)
  rw [e]
  have x1 : (decide (0 ≤ k) && decide (k < (L.length : Int))) = true := by simp only [Bool.and_eq_true, decide_eq_true_eq]; omega
  have g1 : ((ds.length : Int) - (i + 1)).toNat < ((ds.length : Int) - i).toNat := by omega
  have inv : (0 ≤ i + 1 ∧ ds.length ≤ 30) ∧ (0 ≤ k ∧ k < L.length) ∧ 0 ≤ n ∧ n ≤ 2621440 := ⟨⟨by omega, hl⟩, ⟨k0, k1⟩, n0, n1⟩
  have w : IntKind.wrap IntKind.i64 (n + 3) = n + 3 := i64_in' (by omega) (by omega)
  rw [w]
  have mp : ∀ q : Int, mPre q (n + 3) := fun q => ⟨by omega, by omega⟩
  refine wayEq (fun _ => ⟨mp _, x1, x1, x1, x1, vv_y (vv_y ⟨rfl, g1, nPI _ _ _ _ _ K inv hK⟩)⟩) fun _ => ⟨x1, x1, x1, x1, vv_y (vv_y ⟨rfl, g1, nPI _ _ _ _ _ K inv hK⟩)⟩
theorem hPI : LoopH Try.prog E cPI 0 (bodyX Try.prog E ctPP noLoops 1000 5 L0 (lpOf Try.prog 4 1)) :=
  ⟨fun d => ((d.2.1.length : Int) - d.2.2.2.2.1).toNat, fun dd K hK => by
    obtain ⟨L, ds, k, n, i, ⟨⟩⟩ := dd
    obtain ⟨hI, hK⟩ := hK
    refine Tree.holds_mono (fun y hy => ?_) (hPI' L ds k n i K hI hK)
    cases y with
    | inl d' => exact hy
    | inr y => exact hy⟩
noncomputable def oPO (L : List Path) (ds : List Int) (k : Int) : Tree (Ex × List (V T)) := .req (ds.length ≤ 30 ∧ L.length = 2 ∧ 0 ≤ k) (.leaf (.exit 0, []))
noncomputable def cPO : LoopC T := ⟨[.l 26, .l 2, .n], ⟨83, [(1, .one (.s 2)), (7, .one (.g 0 26)), (8, .one (.i .i64))], [.l 26]⟩, fun e => match e with
    | .ret => ⟨83, [(6, .one .b)], []⟩
    | _ => ⟨83, [], []⟩, 150, fun d => oPO d.1 d.2.1 d.2.2.1⟩
theorem bPO (L : List Path) (ds : List Int) (k : Int) : bodyD Try.prog E cPO 0 (bodyX Try.prog E ctPP noLoops 1000 5 (tabL Try.prog E [(9, cPI)]) (lpOf Try.prog 4 0)) (L, ds, k, ()) =
  (.br (decide (k < (2 : Int)))
   (.req ((decide ((0 : Int) ≤ k) && decide (k < (↑(List.length L) : Int))) = true)
   (.req ((decide ((0 : Int) ≤ k) && decide (k < (↑(List.length L) : Int))) = true)
   (.req (List.length L = List.length L)
   (.req (((0 : Int) ≤ (0 : Int) ∧ List.length ds ≤ (30 : Nat)) ∧ ((0 : Int) ≤ k ∧ k < (↑(List.length L) : Int)) ∧ (0 : Int) ≤ lenS (Vec.X (Path.From (px L k))) (Vec.Y (Path.From (px L k))) (Vec.Z (Path.From (px L k))) (Path.Legs (px L k)) ∧ lenS (Vec.X (Path.From (px L k))) (Vec.Y (Path.From (px L k))) (Vec.Z (Path.From (px L k))) (Path.Legs (px L k)) ≤ (2621440 : Int))
   (.req (List.length L = List.length L)
   (.leaf (.inl (L, (ds, (IntKind.wrap IntKind.i64 (k + (1 : Int)), ()))))))))))
   (.leaf (.inr (.exit (0 : Nat), [])))) := by kernel_rfl
theorem nPO (L : List Path) (ds : List Int) (k : Int) (K : Ex × List (V T) → Prop) (hI : ds.length ≤ 30 ∧ L.length = 2 ∧ 0 ≤ k) (hK : (.leaf (.exit 0, []) : Tree (Ex × List (V T))).holds K) : (cPO.out (L, ds, k, ())).holds K := ⟨hI, hK⟩
theorem hPO' (L : List Path) (ds : List Int) (k : Int) (K : Ex × List (V T) → Prop) (hI : ds.length ≤ 30 ∧ L.length = 2 ∧ 0 ≤ k) (hK : (.leaf (.exit 0, []) : Tree (Ex × List (V T))).holds K) :
    (bodyD Try.prog E cPO 0 (bodyX Try.prog E ctPP noLoops 1000 5 (tabL Try.prog E [(9, cPI)]) (lpOf Try.prog 4 0)) (L, ds, k, ())).holds fun y => match y with
    | .inl d => (2 - d.2.2.1).toNat < (2 - k).toNat ∧ (cPO.out d).holds K
    | .inr y => K y := by
  rw [bPO]
  obtain ⟨hl, hL, h0⟩ := hI
  have x1 : k < 2 → (decide (0 ≤ k) && decide (k < (L.length : Int))) = true := fun c => by simp only [Bool.and_eq_true, decide_eq_true_eq]; omega
  refine way (fun c => ⟨x1 c, x1 c, rfl, ⟨⟨by decide, hl⟩, ⟨h0, by omega⟩, lenS_bd _ _ _ _⟩, ?_⟩) fun c => hK
  have e : IntKind.wrap IntKind.i64 (k + 1) = k + 1 := i64_in' (by omega) (by omega)
  rw [e]
  have g1 : (2 - (k + 1)).toNat < (2 - k).toNat := by omega
  exact ⟨rfl, g1, nPO _ _ _ K ⟨hl, hL, by omega⟩ hK⟩
theorem hPO : LoopH Try.prog E cPO 0 (bodyX Try.prog E ctPP noLoops 1000 5 (tabL Try.prog E [(9, cPI)]) (lpOf Try.prog 4 0)) :=
  ⟨fun d => (2 - d.2.2.1).toNat, fun dd K hK => by
    obtain ⟨L, ds, k, ⟨⟩⟩ := dd
    obtain ⟨hI, hK⟩ := hK
    refine Tree.holds_mono (fun y hy => ?_) (hPO' L ds k K hI hK)
    cases y with
    | inl d' => exact hy
    | inr y => exact hy⟩
theorem inPO : ∀ b' ∈ loopsIn (lpOf Try.prog 4 0), ∀ c', lkL (keyOfC b') [(9, cPI)] = some c' → LSndN Try.prog E 0 b' c' := by
  intro b' hb' c' hc'
  have e : loopsIn (lpOf Try.prog 4 0) = [lpOf Try.prog 4 1] := by kernel_rfl
  rw [e] at hb'
  obtain rfl := List.mem_singleton.1 hb'
  obtain rfl : cPI = c' := Option.some.inj hc'
  exact LSndN.mk good names mixes ctPP_ok (by decide) hPI
theorem llPP : LLOk Try.prog E (llOfN Try.prog E 4 0 [(5, cPO), (9, cPI)]) := llOfN_ok fun i hi c hc => by
  have hi : i < 2 := hi
  have : i = 0 ∨ i = 1 := by omega
  rcases this with rfl | rfl
  · obtain rfl : cPO = c := Option.some.inj hc
    exact LSndN.mk2 good names mixes ctPP_ok (by decide) inPO hPO
  · obtain rfl : cPI = c := Option.some.inj hc
    exact LSndN.mk good names mixes ctPP_ok (by decide) hPI
theorem tvPP (x y z : Int) (l : List Vec) (ds nums : List Int) : runX ctPP (llOfN Try.prog E 4 0 [(5, cPO), (9, cPI)]) 4 [.agg [i64 x, i64 y, i64 z, .sl 23 l false], .sl 2 ds false, .sl 3 nums false] [4] =
  (.br (decide ((↑(List.length l) : Int) > (24 : Int)))
   (.leaf (.bool (true)))
   (.br (decide ((↑(List.length ds) : Int) > (30 : Int)))
    (.leaf (.bool (true)))
    (.req (pPre (0 : Int) (6 : Int))
    (.req (List.length ds ≤ (30 : Nat) ∧ List.length [Path.mk (Vec.mk x y z) l, Path.mk (Vec.mk (qX nums (0 : Int)) (qY nums (0 : Int)) (qZ nums (0 : Int))) (qL nums (0 : Int) (6 : Int))] = (2 : Nat) ∧ (0 : Int) ≤ (0 : Int))
    (.leaf (.bool (true))))))) := by kernel_rfl
theorem pathPlaces_proved : Rows.PathPlacesSaid := pathPlaces_said fun p ds nums _ _ _ => fact_run ctPP_ok llPP (ts := [4]) rfl (by
  show (runX ctPP (llOfN Try.prog E 4 0 [(5, cPO), (9, cPI)]) 4 [.agg [i64 p.From.X, i64 p.From.Y, i64 p.From.Z, .sl 23 p.Legs false], .sl 2 ds false, .sl 3 nums false] [4]).holds _
  rw [tvPP]
  exact way (fun _ => rfl) fun _ => way (fun _ => rfl) fun c => ⟨⟨⟨by decide, by decide⟩, by decide, by decide⟩, ⟨by omega, rfl, by decide⟩, rfl⟩)
end Go.Proofs.Ytmnhfjhlfgebiaa.W
