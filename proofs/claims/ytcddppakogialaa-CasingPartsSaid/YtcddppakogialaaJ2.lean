/- Jobs made of numbers: the job. No condition. -/
import Derived.Test.YtcddppakogialaaJ1
set_option linter.unusedVariables false
set_option maxRecDepth 100000
set_option maxHeartbeats 4000000
noncomputable section
namespace Go.Proofs.Ytcddppakogialaa.W.Jb
open Go Go.Cx Go.RowKit
noncomputable def sx (l : List Stress) (i : Int) : Stress := ixD E 37 l i
noncomputable def mn2 (a b : Int) : Int := if b < a then b else a
noncomputable def mx2 (a b : Int) : Int := if b > a then b else a
theorem mx_bd {n m : Int} (hm : 1 ≤ m) : mx2 1 (mn2 n m) ≤ m ∧ 1 ≤ mx2 1 (mn2 n m) := by
  unfold mx2 mn2
  repeat' split
  all_goals omega
noncomputable def eA (e : List Int) (i a : Int) : Int := a + 1 + pk e i % 150000
noncomputable def endL (e : List Int) : Nat → Int → Int → List Int
  | 0, _, _ => []
  | n + 1, i, a => if i < mx2 1 (mn2 (e.length : Int) 3) then eA e i a :: endL e n (i + 1) (eA e i a) else []
noncomputable def ldS (l : List Int) (i : Int) : Stress := ⟨⟨prL l (2 * i)⟩, ⟨prL l (2 * i + 1)⟩⟩
noncomputable def ldL (l : List Int) : Nat → Int → List Stress
  | 0, _ => []
  | n + 1, i => if i < (l.length : Int) then ldS l i :: ldL l n (i + 1) else []
noncomputable def gdG (g : List Int) (i : Int) : Grade := ⟨pk g i % 3000000000, pk g i / 5 % 3000000000, 1 + pk g i / 7 % 200000000, pk g i / 11 % 400, pk g i / 13 % 20⟩
noncomputable def gdL (g : List Int) : Nat → Int → List Grade
  | 0, _ => []
  | n + 1, i => if i < mx2 1 (mn2 (g.length : Int) 4) then gdG g i :: gdL g n (i + 1) else []
noncomputable def oJA (U : List Int) (D : List Stress) (H : List Grade) (a : Int) (i : Int) (e : List Int) (l : List Int) (g : List Int) (f : Int) (o : Int) (F : Int) (O : Int) : Tree (Ex × List (V T)) := .req ((0 ≤ i ∧ i ≤ 3) ∧ (0 ≤ a ∧ a ≤ 150000 * i) ∧ (U.length : Int) ≤ i) (.leaf (.exit 0, [.l 2 (U ++ endL e (4 - i).toNat i a), .l 37 D, .l 66 H, .l 2 e, .l 2 l, .l 2 g, .n f, .n o, .n F, .n O]))
noncomputable def cJA : LoopC T := ⟨[.l 2, .l 37, .l 66, .n, .n, .l 2, .l 2, .l 2, .n, .n, .n, .n], ⟨103, [(1, .one (.o 0 0)), (2, .one (.o 1 0)), (3, .one (.o 2 0)), (4, .one (.i .i64)), (5, .one (.i .i64))], [.c [.s 2, .s 2, .s 2, .i .i64, .i .i64], .c [.x, .x, .x, .x, .x], .c [.g 3 2, .g 4 37, .g 5 66, .i .i64, .i .i64], .l 2, .l 37, .l 66]⟩, fun _ => ⟨103, [(1, .one (.o 0 0)), (2, .one (.o 1 0)), (3, .one (.o 2 0))], [.c [.s 2, .s 2, .s 2, .i .i64, .i .i64], .c [.x, .x, .x, .x, .x], .c [.g 3 2, .g 4 37, .g 5 66, .i .i64, .i .i64], .l 2, .l 37, .l 66]⟩, 40, fun d => oJA d.1 d.2.1 d.2.2.1 d.2.2.2.1 d.2.2.2.2.1 d.2.2.2.2.2.1 d.2.2.2.2.2.2.1 d.2.2.2.2.2.2.2.1 d.2.2.2.2.2.2.2.2.1 d.2.2.2.2.2.2.2.2.2.1 d.2.2.2.2.2.2.2.2.2.2.1 d.2.2.2.2.2.2.2.2.2.2.2.1⟩
theorem bJA (U : List Int) (D : List Stress) (H : List Grade) (a : Int) (i : Int) (e : List Int) (l : List Int) (g : List Int) (f : Int) (o : Int) (F : Int) (O : Int) : bodyD Try.prog E cJA 1 (bodyX Try.prog E ctJ noLoops 1000 5 L0 (lpOf Try.prog 47 0)) (U, D, H, a, i, e, l, g, f, o, F, O, ()) =
  (.br (decide (i < (mx2 ((1 : Int)) ((mn2 ((↑(List.length e) : Int)) ((3 : Int)))))))
   (.req ((0 : Int) ≤ i)
   (.req (List.length U = List.length U)
   (.req (List.length U + List.length [IntKind.wrap IntKind.i64 (IntKind.wrap IntKind.i64 (a + (1 : Int)) + Int.tmod (pk e i) (150000 : Int))] ≤ (1073741824 : Nat))
   (.req (List.length (U ++ [IntKind.wrap IntKind.i64 (IntKind.wrap IntKind.i64 (a + (1 : Int)) + Int.tmod (pk e i) (150000 : Int))]) = List.length (U ++ [IntKind.wrap IntKind.i64 (IntKind.wrap IntKind.i64 (a + (1 : Int)) + Int.tmod (pk e i) (150000 : Int))]))
   (.req (List.length D = List.length D)
   (.req (List.length H = List.length H)
   (.leaf (.inl (U ++ [IntKind.wrap IntKind.i64 (IntKind.wrap IntKind.i64 (a + (1 : Int)) + Int.tmod (pk e i) (150000 : Int))], (D, (H, (IntKind.wrap IntKind.i64 (IntKind.wrap IntKind.i64 (a + (1 : Int)) + Int.tmod (pk e i) (150000 : Int)), (IntKind.wrap IntKind.i64 (i + (1 : Int)), (e, (l, (g, (f, (o, (F, (O, ()))))))))))))))))))))
   (.req (List.length U = List.length U)
   (.req (List.length D = List.length D)
   (.req (List.length H = List.length H)
   (.leaf (.inr (.exit (0 : Nat), [.l (2 : Nat) (U), .l (37 : Nat) (D), .l (66 : Nat) (H), .l (2 : Nat) (e), .l (2 : Nat) (l), .l (2 : Nat) (g), .n (f), .n (o), .n (F), .n (O)]))))))) := by kernel_rfl
theorem nJA (U : List Int) (D : List Stress) (H : List Grade) (a : Int) (i : Int) (e : List Int) (l : List Int) (g : List Int) (f : Int) (o : Int) (F : Int) (O : Int) (K : Ex × List (V T) → Prop) (hI : (0 ≤ i ∧ i ≤ 3) ∧ (0 ≤ a ∧ a ≤ 150000 * i) ∧ (U.length : Int) ≤ i) (hK : (.leaf (.exit 0, [.l 2 (U ++ endL e (4 - i).toNat i a), .l 37 D, .l 66 H, .l 2 e, .l 2 l, .l 2 g, .n f, .n o, .n F, .n O]) : Tree (Ex × List (V T))).holds K) : (cJA.out (U, D, H, a, i, e, l, g, f, o, F, O, ())).holds K := ⟨hI, hK⟩
theorem hJA' (U : List Int) (D : List Stress) (H : List Grade) (a : Int) (i : Int) (e : List Int) (l : List Int) (g : List Int) (f : Int) (o : Int) (F : Int) (O : Int) (K : Ex × List (V T) → Prop) (hI : (0 ≤ i ∧ i ≤ 3) ∧ (0 ≤ a ∧ a ≤ 150000 * i) ∧ (U.length : Int) ≤ i) (hK : (.leaf (.exit 0, [.l 2 (U ++ endL e (4 - i).toNat i a), .l 37 D, .l 66 H, .l 2 e, .l 2 l, .l 2 g, .n f, .n o, .n F, .n O]) : Tree (Ex × List (V T))).holds K) :
    (bodyD Try.prog E cJA 1 (bodyX Try.prog E ctJ noLoops 1000 5 L0 (lpOf Try.prog 47 0)) (U, D, H, a, i, e, l, g, f, o, F, O, ())).holds fun y => match y with
    | .inl d => (4 - d.2.2.2.2.1).toNat < (4 - i).toNat ∧ (cJA.out d).holds K
    | .inr y => K y := by
  rw [bJA]
  obtain ⟨⟨h0, h1⟩, ⟨a0, a1⟩, lr⟩ := hI
  have k1 := pk_bd e i
  have mb := mx_bd (n := (e.length : Int)) (m := 3) (by decide)
  have w1 : IntKind.wrap IntKind.i64 (a + 1) = a + 1 := i64_in' (by omega) (by omega)
  have w2 : Int.tmod (pk e i) 150000 = pk e i % 150000 := Int.tmod_eq_emod_of_nonneg k1.1
  have w3 : IntKind.wrap IntKind.i64 (a + 1 + pk e i % 150000) = eA e i a := i64_in' (by omega) (by omega)
  have w9 : IntKind.wrap IntKind.i64 (i + 1) = i + 1 := i64_in' (by omega) (by omega)
  rw [w1, w2, w3, w9]
  rw [show (4 - i).toNat = (4 - (i + 1)).toNat + 1 by omega] at hK
  unfold endL at hK
  refine way (fun c => ?_) fun c => ?_
  · rw [if_pos c] at hK
    have ac : ∀ (X Y : List Int) (k : Int), X ++ k :: Y = (X ++ [k]) ++ Y := fun X Y k => by simp
    rw [ac] at hK
    have L1 : ∀ x : Int, ((U.length + 1 : Nat) : Int) ≤ i + 1 := fun x => by omega
    have n1 : U.length + 1 ≤ 1073741824 := by omega
    have g1 : (4 - (i + 1)).toNat < (4 - i).toNat := by omega
    have g2 : (0 ≤ i + 1 ∧ i + 1 ≤ 3) ∧ (0 ≤ eA e i a ∧ eA e i a ≤ 150000 * (i + 1)) ∧ ((U ++ [eA e i a]).length : Int) ≤ i + 1 := ⟨by omega, by unfold eA; omega, by rw [List.length_append]; exact L1 0⟩
    exact ⟨h0, rfl, n1, rfl, rfl, rfl,  g1, nJA _ _ _ _ _ _ _ _ _ _ _ _ K g2 hK⟩
  · rw [if_neg c, List.append_nil] at hK
    exact ⟨rfl, rfl, rfl,  hK⟩
theorem hJA : LoopH Try.prog E cJA 1 (bodyX Try.prog E ctJ noLoops 1000 5 L0 (lpOf Try.prog 47 0)) :=
  ⟨fun d => (4 - d.2.2.2.2.1).toNat, fun dd K hK => by
    obtain ⟨U, D, H, a, i, e, l, g, f, o, F, O, ⟨⟩⟩ := dd
    obtain ⟨hI, hK⟩ := hK
    refine Tree.holds_mono (fun y hy => ?_) (hJA' U D H a i e l g f o F O K hI hK)
    cases y with
    | inl d' => exact hy
    | inr y => exact hy⟩
noncomputable def oJB (U : List Int) (D : List Stress) (H : List Grade) (i : Int) (e : List Int) (l : List Int) (g : List Int) (f : Int) (o : Int) (F : Int) (O : Int) : Tree (Ex × List (V T)) := .req ((0 ≤ i ∧ i ≤ 3) ∧ (D.length : Int) ≤ i) (.leaf (.exit 2, [.l 2 U, .l 37 (D ++ ldL l (3 - i).toNat i), .l 66 H, .l 2 e, .l 2 l, .l 2 g, .n f, .n o, .n F, .n O]))
noncomputable def cJB : LoopC T := ⟨[.l 2, .l 37, .l 66, .n, .l 2, .l 2, .l 2, .n, .n, .n, .n], ⟨103, [(1, .one (.o 0 0)), (2, .one (.o 1 0)), (3, .one (.o 2 0)), (6, .one (.i .i64))], [.c [.s 2, .s 2, .s 2, .i .i64, .i .i64], .c [.x, .x, .x, .x, .x], .c [.g 3 2, .g 4 37, .g 5 66, .i .i64, .i .i64], .l 2, .l 37, .l 66]⟩, fun _ => ⟨103, [(1, .one (.o 0 0)), (2, .one (.o 1 0)), (3, .one (.o 2 0))], [.c [.s 2, .s 2, .s 2, .i .i64, .i .i64], .c [.x, .x, .x, .x, .x], .c [.g 3 2, .g 4 37, .g 5 66, .i .i64, .i .i64], .l 2, .l 37, .l 66]⟩, 40, fun d => oJB d.1 d.2.1 d.2.2.1 d.2.2.2.1 d.2.2.2.2.1 d.2.2.2.2.2.1 d.2.2.2.2.2.2.1 d.2.2.2.2.2.2.2.1 d.2.2.2.2.2.2.2.2.1 d.2.2.2.2.2.2.2.2.2.1 d.2.2.2.2.2.2.2.2.2.2.1⟩
theorem bJB (U : List Int) (D : List Stress) (H : List Grade) (i : Int) (e : List Int) (l : List Int) (g : List Int) (f : Int) (o : Int) (F : Int) (O : Int) : bodyD Try.prog E cJB 1 (bodyX Try.prog E ctJ noLoops 1000 5 L0 (lpOf Try.prog 47 1)) (U, D, H, i, e, l, g, f, o, F, O, ()) =
  (.br (decide (i < (↑(List.length l) : Int)))
   (.br (decide (i < (3 : Int)))
    (.req ((0 : Int) ≤ IntKind.wrap IntKind.i64 ((2 : Int) * i) ∧ IntKind.wrap IntKind.i64 ((2 : Int) * i) ≤ (1000 : Int))
    (.req ((0 : Int) ≤ IntKind.wrap IntKind.i64 (IntKind.wrap IntKind.i64 ((2 : Int) * i) + (1 : Int)) ∧ IntKind.wrap IntKind.i64 (IntKind.wrap IntKind.i64 ((2 : Int) * i) + (1 : Int)) ≤ (1000 : Int))
    (.req (List.length D = List.length D)
    (.req (List.length D + List.length [Stress.mk (Line.mk (prL l (IntKind.wrap IntKind.i64 ((2 : Int) * i)))) (Line.mk (prL l (IntKind.wrap IntKind.i64 (IntKind.wrap IntKind.i64 ((2 : Int) * i) + (1 : Int)))))] ≤ (1073741824 : Nat))
    (.req (List.length U = List.length U)
    (.req (List.length (D ++ [Stress.mk (Line.mk (prL l (IntKind.wrap IntKind.i64 ((2 : Int) * i)))) (Line.mk (prL l (IntKind.wrap IntKind.i64 (IntKind.wrap IntKind.i64 ((2 : Int) * i) + (1 : Int)))))]) = List.length (D ++ [Stress.mk (Line.mk (prL l (IntKind.wrap IntKind.i64 ((2 : Int) * i)))) (Line.mk (prL l (IntKind.wrap IntKind.i64 (IntKind.wrap IntKind.i64 ((2 : Int) * i) + (1 : Int)))))]))
    (.req (List.length H = List.length H)
    (.leaf (.inl (U, (D ++ [Stress.mk (Line.mk (prL l (IntKind.wrap IntKind.i64 ((2 : Int) * i)))) (Line.mk (prL l (IntKind.wrap IntKind.i64 (IntKind.wrap IntKind.i64 ((2 : Int) * i) + (1 : Int)))))], (H, (IntKind.wrap IntKind.i64 (i + (1 : Int)), (e, (l, (g, (f, (o, (F, (O, ()))))))))))))))))))))
    (.req (List.length U = List.length U)
    (.req (List.length D = List.length D)
    (.req (List.length H = List.length H)
    (.leaf (.inr (.exit (2 : Nat), [.l (2 : Nat) (U), .l (37 : Nat) (D), .l (66 : Nat) (H), .l (2 : Nat) (e), .l (2 : Nat) (l), .l (2 : Nat) (g), .n (f), .n (o), .n (F), .n (O)])))))))
   (.req (List.length U = List.length U)
   (.req (List.length D = List.length D)
   (.req (List.length H = List.length H)
   (.leaf (.inr (.exit (2 : Nat), [.l (2 : Nat) (U), .l (37 : Nat) (D), .l (66 : Nat) (H), .l (2 : Nat) (e), .l (2 : Nat) (l), .l (2 : Nat) (g), .n (f), .n (o), .n (F), .n (O)]))))))) := by kernel_rfl
theorem nJB (U : List Int) (D : List Stress) (H : List Grade) (i : Int) (e : List Int) (l : List Int) (g : List Int) (f : Int) (o : Int) (F : Int) (O : Int) (K : Ex × List (V T) → Prop) (hI : (0 ≤ i ∧ i ≤ 3) ∧ (D.length : Int) ≤ i) (hK : (.leaf (.exit 2, [.l 2 U, .l 37 (D ++ ldL l (3 - i).toNat i), .l 66 H, .l 2 e, .l 2 l, .l 2 g, .n f, .n o, .n F, .n O]) : Tree (Ex × List (V T))).holds K) : (cJB.out (U, D, H, i, e, l, g, f, o, F, O, ())).holds K := ⟨hI, hK⟩
theorem hJB' (U : List Int) (D : List Stress) (H : List Grade) (i : Int) (e : List Int) (l : List Int) (g : List Int) (f : Int) (o : Int) (F : Int) (O : Int) (K : Ex × List (V T) → Prop) (hI : (0 ≤ i ∧ i ≤ 3) ∧ (D.length : Int) ≤ i) (hK : (.leaf (.exit 2, [.l 2 U, .l 37 (D ++ ldL l (3 - i).toNat i), .l 66 H, .l 2 e, .l 2 l, .l 2 g, .n f, .n o, .n F, .n O]) : Tree (Ex × List (V T))).holds K) :
    (bodyD Try.prog E cJB 1 (bodyX Try.prog E ctJ noLoops 1000 5 L0 (lpOf Try.prog 47 1)) (U, D, H, i, e, l, g, f, o, F, O, ())).holds fun y => match y with
    | .inl d => (3 - d.2.2.2.1).toNat < (3 - i).toNat ∧ (cJB.out d).holds K
    | .inr y => K y := by
  rw [bJB]
  obtain ⟨⟨h0, h1⟩, lr⟩ := hI
  have w1 : IntKind.wrap IntKind.i64 (2 * i) = 2 * i := i64_in' (by omega) (by omega)
  have w2 : IntKind.wrap IntKind.i64 (2 * i + 1) = 2 * i + 1 := i64_in' (by omega) (by omega)
  have w9 : IntKind.wrap IntKind.i64 (i + 1) = i + 1 := i64_in' (by omega) (by omega)
  rw [w1, w2, w9]
  have fin : ¬ (i < (l.length : Int) ∧ i < 3) → D ++ ldL l (3 - i).toNat i = D := fun h => by
    by_cases k : i < 3
    · rw [show (3 - i).toNat = (2 - i).toNat + 1 by omega]
      unfold ldL
      rw [if_neg (fun q => h ⟨q, k⟩), List.append_nil]
    · rw [show (3 - i).toNat = 0 by omega]
      exact List.append_nil _
  refine way (fun c => way (fun c2 => ?_) fun c2 => ?_) fun c => ?_
  · rw [show (3 - i).toNat = (3 - (i + 1)).toNat + 1 by omega] at hK
    unfold ldL at hK
    rw [if_pos c] at hK
    have ac : ∀ (X Y : List Stress) (k : Stress), X ++ k :: Y = (X ++ [k]) ++ Y := fun X Y k => by simp
    rw [ac] at hK
    have n1 : D.length + 1 ≤ 1073741824 := by omega
    have g1 : (3 - (i + 1)).toNat < (3 - i).toNat := by omega
    have g2 : (0 ≤ i + 1 ∧ i + 1 ≤ 3) ∧ ((D ++ [ldS l i]).length : Int) ≤ i + 1 := ⟨by omega, by rw [List.length_append]; show ((D.length + 1 : Nat) : Int) ≤ _; omega⟩
    exact ⟨⟨by omega, by omega⟩, ⟨by omega, by omega⟩, rfl, n1, rfl, rfl, rfl, g1, nJB _ _ _ _ _ _ _ _ _ _ _ K g2 hK⟩
  · rw [fin (fun h => c2 h.2)] at hK
    exact ⟨rfl, rfl, rfl,  hK⟩
  · rw [fin (fun h => c h.1)] at hK
    exact ⟨rfl, rfl, rfl,  hK⟩
theorem hJB : LoopH Try.prog E cJB 1 (bodyX Try.prog E ctJ noLoops 1000 5 L0 (lpOf Try.prog 47 1)) :=
  ⟨fun d => (3 - d.2.2.2.1).toNat, fun dd K hK => by
    obtain ⟨U, D, H, i, e, l, g, f, o, F, O, ⟨⟩⟩ := dd
    obtain ⟨hI, hK⟩ := hK
    refine Tree.holds_mono (fun y hy => ?_) (hJB' U D H i e l g f o F O K hI hK)
    cases y with
    | inl d' => exact hy
    | inr y => exact hy⟩
noncomputable def oJC (U : List Int) (D : List Stress) (H : List Grade) (i : Int) (e : List Int) (l : List Int) (g : List Int) (f : Int) (o : Int) (F : Int) (O : Int) : Tree (Ex × List (V T)) := .req ((0 ≤ i ∧ i ≤ 4) ∧ (H.length : Int) ≤ i) (.leaf (.exit 4, [.l 2 U, .l 37 D, .l 66 (H ++ gdL g (5 - i).toNat i), .l 2 e, .l 2 l, .l 2 g, .n f, .n o, .n F, .n O]))
noncomputable def cJC : LoopC T := ⟨[.l 2, .l 37, .l 66, .n, .l 2, .l 2, .l 2, .n, .n, .n, .n], ⟨103, [(1, .one (.o 0 0)), (2, .one (.o 1 0)), (3, .one (.o 2 0)), (7, .one (.i .i64))], [.c [.s 2, .s 2, .s 2, .i .i64, .i .i64], .c [.x, .x, .x, .x, .x], .c [.g 3 2, .g 4 37, .g 5 66, .i .i64, .i .i64], .l 2, .l 37, .l 66]⟩, fun _ => ⟨103, [(1, .one (.o 0 0)), (2, .one (.o 1 0)), (3, .one (.o 2 0))], [.c [.s 2, .s 2, .s 2, .i .i64, .i .i64], .c [.x, .x, .x, .x, .x], .c [.g 3 2, .g 4 37, .g 5 66, .i .i64, .i .i64], .l 2, .l 37, .l 66]⟩, 40, fun d => oJC d.1 d.2.1 d.2.2.1 d.2.2.2.1 d.2.2.2.2.1 d.2.2.2.2.2.1 d.2.2.2.2.2.2.1 d.2.2.2.2.2.2.2.1 d.2.2.2.2.2.2.2.2.1 d.2.2.2.2.2.2.2.2.2.1 d.2.2.2.2.2.2.2.2.2.2.1⟩
theorem bJC (U : List Int) (D : List Stress) (H : List Grade) (i : Int) (e : List Int) (l : List Int) (g : List Int) (f : Int) (o : Int) (F : Int) (O : Int) : bodyD Try.prog E cJC 1 (bodyX Try.prog E ctJ noLoops 1000 5 L0 (lpOf Try.prog 47 2)) (U, D, H, i, e, l, g, f, o, F, O, ()) =
  (.br (decide (i < (mx2 ((1 : Int)) ((mn2 ((↑(List.length g) : Int)) ((4 : Int)))))))
   (.req ((0 : Int) ≤ i)
   (.req (List.length H = List.length H)
   (.req (List.length H + List.length [Grade.mk (Int.tmod (pk g i) (3000000000 : Int)) (Int.tmod (IntKind.wrap IntKind.i64 (Int.tdiv (pk g i) (5 : Int))) (3000000000 : Int)) (IntKind.wrap IntKind.i64 ((1 : Int) + Int.tmod (IntKind.wrap IntKind.i64 (Int.tdiv (pk g i) (7 : Int))) (200000000 : Int))) (Int.tmod (IntKind.wrap IntKind.i64 (Int.tdiv (pk g i) (11 : Int))) (400 : Int)) (Int.tmod (IntKind.wrap IntKind.i64 (Int.tdiv (pk g i) (13 : Int))) (20 : Int))] ≤ (1073741824 : Nat))
   (.req (List.length U = List.length U)
   (.req (List.length D = List.length D)
   (.req (List.length (H ++ [Grade.mk (Int.tmod (pk g i) (3000000000 : Int)) (Int.tmod (IntKind.wrap IntKind.i64 (Int.tdiv (pk g i) (5 : Int))) (3000000000 : Int)) (IntKind.wrap IntKind.i64 ((1 : Int) + Int.tmod (IntKind.wrap IntKind.i64 (Int.tdiv (pk g i) (7 : Int))) (200000000 : Int))) (Int.tmod (IntKind.wrap IntKind.i64 (Int.tdiv (pk g i) (11 : Int))) (400 : Int)) (Int.tmod (IntKind.wrap IntKind.i64 (Int.tdiv (pk g i) (13 : Int))) (20 : Int))]) = List.length (H ++ [Grade.mk (Int.tmod (pk g i) (3000000000 : Int)) (Int.tmod (IntKind.wrap IntKind.i64 (Int.tdiv (pk g i) (5 : Int))) (3000000000 : Int)) (IntKind.wrap IntKind.i64 ((1 : Int) + Int.tmod (IntKind.wrap IntKind.i64 (Int.tdiv (pk g i) (7 : Int))) (200000000 : Int))) (Int.tmod (IntKind.wrap IntKind.i64 (Int.tdiv (pk g i) (11 : Int))) (400 : Int)) (Int.tmod (IntKind.wrap IntKind.i64 (Int.tdiv (pk g i) (13 : Int))) (20 : Int))]))
   (.leaf (.inl (U, (D, (H ++ [Grade.mk (Int.tmod (pk g i) (3000000000 : Int)) (Int.tmod (IntKind.wrap IntKind.i64 (Int.tdiv (pk g i) (5 : Int))) (3000000000 : Int)) (IntKind.wrap IntKind.i64 ((1 : Int) + Int.tmod (IntKind.wrap IntKind.i64 (Int.tdiv (pk g i) (7 : Int))) (200000000 : Int))) (Int.tmod (IntKind.wrap IntKind.i64 (Int.tdiv (pk g i) (11 : Int))) (400 : Int)) (Int.tmod (IntKind.wrap IntKind.i64 (Int.tdiv (pk g i) (13 : Int))) (20 : Int))], (IntKind.wrap IntKind.i64 (i + (1 : Int)), (e, (l, (g, (f, (o, (F, (O, ())))))))))))))))))))
   (.req (List.length U = List.length U)
   (.req (List.length D = List.length D)
   (.req (List.length H = List.length H)
   (.leaf (.inr (.exit (4 : Nat), [.l (2 : Nat) (U), .l (37 : Nat) (D), .l (66 : Nat) (H), .l (2 : Nat) (e), .l (2 : Nat) (l), .l (2 : Nat) (g), .n (f), .n (o), .n (F), .n (O)]))))))) := by kernel_rfl
theorem nJC (U : List Int) (D : List Stress) (H : List Grade) (i : Int) (e : List Int) (l : List Int) (g : List Int) (f : Int) (o : Int) (F : Int) (O : Int) (K : Ex × List (V T) → Prop) (hI : (0 ≤ i ∧ i ≤ 4) ∧ (H.length : Int) ≤ i) (hK : (.leaf (.exit 4, [.l 2 U, .l 37 D, .l 66 (H ++ gdL g (5 - i).toNat i), .l 2 e, .l 2 l, .l 2 g, .n f, .n o, .n F, .n O]) : Tree (Ex × List (V T))).holds K) : (cJC.out (U, D, H, i, e, l, g, f, o, F, O, ())).holds K := ⟨hI, hK⟩
theorem hJC' (U : List Int) (D : List Stress) (H : List Grade) (i : Int) (e : List Int) (l : List Int) (g : List Int) (f : Int) (o : Int) (F : Int) (O : Int) (K : Ex × List (V T) → Prop) (hI : (0 ≤ i ∧ i ≤ 4) ∧ (H.length : Int) ≤ i) (hK : (.leaf (.exit 4, [.l 2 U, .l 37 D, .l 66 (H ++ gdL g (5 - i).toNat i), .l 2 e, .l 2 l, .l 2 g, .n f, .n o, .n F, .n O]) : Tree (Ex × List (V T))).holds K) :
    (bodyD Try.prog E cJC 1 (bodyX Try.prog E ctJ noLoops 1000 5 L0 (lpOf Try.prog 47 2)) (U, D, H, i, e, l, g, f, o, F, O, ())).holds fun y => match y with
    | .inl d => (5 - d.2.2.2.1).toNat < (5 - i).toNat ∧ (cJC.out d).holds K
    | .inr y => K y := by
  rw [bJC]
  obtain ⟨⟨h0, h1⟩, lr⟩ := hI
  have k1 := pk_bd g i
  have mb := mx_bd (n := (g.length : Int)) (m := 4) (by decide)
  have w9 : IntKind.wrap IntKind.i64 (i + 1) = i + 1 := i64_in' (by omega) (by omega)
  have d : ∀ m : Int, 0 < m → m ≤ 20 → IntKind.wrap IntKind.i64 (Int.tdiv (pk g i) m) = pk g i / m := fun m m0 m1 => by
    have := Int.ediv_nonneg k1.1 (show 0 ≤ m by omega)
    have := Int.ediv_le_self m k1.1
    rw [Int.tdiv_eq_ediv_of_nonneg k1.1]
    exact i64_in' (by omega) (by omega)
  have t : ∀ m q : Int, 0 ≤ q → Int.tmod q m = q % m := fun m q hq => Int.tmod_eq_emod_of_nonneg hq
  rw [w9, d 5 (by decide) (by decide), d 7 (by decide) (by decide), d 11 (by decide) (by decide), d 13 (by decide) (by decide), t 3000000000 (pk g i) k1.1, t 3000000000 (pk g i / 5) (by omega), t 200000000 (pk g i / 7) (by omega), t 400 (pk g i / 11) (by omega), t 20 (pk g i / 13) (by omega)]
  rw [i64_in' (n := 1 + pk g i / 7 % 200000000) (by omega) (by omega)]
  rw [show (5 - i).toNat = (5 - (i + 1)).toNat + 1 by omega] at hK
  unfold gdL at hK
  refine way (fun c => ?_) fun c => ?_
  · rw [if_pos c] at hK
    have ac : ∀ (X Y : List Grade) (k : Grade), X ++ k :: Y = (X ++ [k]) ++ Y := fun X Y k => by simp
    rw [ac] at hK
    have n1 : H.length + 1 ≤ 1073741824 := by omega
    have g1 : (5 - (i + 1)).toNat < (5 - i).toNat := by omega
    have g2 : (0 ≤ i + 1 ∧ i + 1 ≤ 4) ∧ ((H ++ [gdG g i]).length : Int) ≤ i + 1 := ⟨by omega, by rw [List.length_append]; show ((H.length + 1 : Nat) : Int) ≤ _; omega⟩
    exact ⟨h0, rfl, n1, rfl, rfl, rfl,  g1, nJC _ _ _ _ _ _ _ _ _ _ _ K g2 hK⟩
  · rw [if_neg c, List.append_nil] at hK
    exact ⟨rfl, rfl, rfl,  hK⟩
theorem hJC : LoopH Try.prog E cJC 1 (bodyX Try.prog E ctJ noLoops 1000 5 L0 (lpOf Try.prog 47 2)) :=
  ⟨fun d => (5 - d.2.2.2.1).toNat, fun dd K hK => by
    obtain ⟨U, D, H, i, e, l, g, f, o, F, O, ⟨⟩⟩ := dd
    obtain ⟨hI, hK⟩ := hK
    refine Tree.holds_mono (fun y hy => ?_) (hJC' U D H i e l g f o F O K hI hK)
    cases y with
    | inl d' => exact hy
    | inr y => exact hy⟩
theorem llJ : LLOk Try.prog E (llOfN Try.prog E 47 1 [(4, cJA), (9, cJB), (13, cJC)]) := llOfN_ok fun i hi c hc => by
  have hi : i < 3 := hi
  have : i = 0 ∨ i = 1 ∨ i = 2 := by omega
  rcases this with rfl | rfl | rfl
  · obtain rfl : cJA = c := Option.some.inj hc
    exact LSndN.mk good names mixes ctJ_ok (by decide) hJA
  · obtain rfl : cJB = c := Option.some.inj hc
    exact LSndN.mk good names mixes ctJ_ok (by decide) hJB
  · obtain rfl : cJC = c := Option.some.inj hc
    exact LSndN.mk good names mixes ctJ_ok (by decide) hJC
end Go.Proofs.Ytcddppakogialaa.W.Jb
