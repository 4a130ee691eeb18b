/- Columns that are pumped. No condition. -/
import Derived.Test.YtnhedcaphncliaaH3
set_option linter.unusedVariables false
set_option maxRecDepth 100000
set_option maxHeartbeats 4000000
noncomputable section
namespace Go.Proofs.Ytnhedcaphncliaa.W.Hole
open Go Go.Cx Go.RowKit
noncomputable def ctC : CTab T := (31, cSameZ) :: (32, cPlz) :: (33, cPlz) :: (29, cCol) :: (30, cCol) :: ctQ
theorem ctC_ok : CTabOk Try.prog E ctC := .cons sameZ_ok (.cons plz_ok (.cons plz2_ok (.cons col_ok (.cons col2_ok ctQ_ok))))
noncomputable def mn (m v : Int) : Int := if m < v then m else v
theorem mn' (m v : Int) : (if v < m then v else m) = mn m v := by unfold mn; split <;> split <;> omega
noncomputable def pmN : List Slug → Int → List Slug
  | [], _ => []
  | s :: r, m => ⟨s.Weight, mn m s.Volume⟩ :: pmN r (wr (m - mn m s.Volume))
noncomputable def pmO : List Slug → Int → List Slug
  | [], _ => []
  | s :: r, m => ⟨s.Weight, wr (s.Volume - mn m s.Volume)⟩ :: pmO r (wr (m - mn m s.Volume))
theorem len_pmN : ∀ (l : List Slug) (m : Int), (pmN l m).length = l.length
  | [], _ => rfl
  | s :: r, m => congrArg (· + 1) (len_pmN r _)
theorem len_pmO : ∀ (l : List Slug) (m : Int), (pmO l m).length = l.length
  | [], _ => rfl
  | s :: r, m => congrArg (· + 1) (len_pmO r _)
noncomputable def o38 (p : List Slug) (q : List Slug) (l : List Slug) (n : Int) (i : Int) (m : Int) : Tree (Ex × List (V T)) := .req ((0 ≤ i ∧ n = l.length ∧ l.length ≤ 24) ∧ p.length ≤ 1 + i ∧ q.length ≤ i) (.leaf (.exit 0, [.l 47 (p ++ pmN (l.drop i.toNat) m), .l 47 (q ++ pmO (l.drop i.toNat) m)]))
noncomputable def c38 : LoopC T := ⟨[.l 47, .l 47, .l 47, .n, .n, .n], ⟨78, [(6, .one (.g 1 47)), (7, .one (.g 2 47)), (11, .fn 77 [.o 0 0]), (41, .one (.s 47)), (42, .one (.i .i64)), (43, .one (.i .i64))], [.c [.i .i64], .l 47, .l 47]⟩, fun _ => ⟨78, [(6, .one (.g 0 47)), (7, .one (.g 1 47))], [.l 47, .l 47]⟩, 40, fun d => o38 d.1 d.2.1 d.2.2.1 d.2.2.2.1 d.2.2.2.2.1 d.2.2.2.2.2.1⟩
theorem b38 (p : List Slug) (q : List Slug) (l : List Slug) (n : Int) (i : Int) (m : Int) : bodyD Try.prog E c38 0 (bodyX Try.prog E ctC noLoops 1000 5 L0 (lpOf Try.prog 38 0)) (p, q, l, n, i, m, ()) =
  (.br (decide (i < n))
   (.req ((decide ((0 : Int) ≤ i) && decide (i < (↑(List.length l) : Int))) = true)
   (.req (List.length p = List.length p)
   (.req (List.length p + List.length [Slug.mk (Slug.Weight (zi l i)) (bif false then if m > Slug.Volume (zi l i) then m else Slug.Volume (zi l i) else if m < Slug.Volume (zi l i) then m else Slug.Volume (zi l i))] ≤ (1073741824 : Nat))
   (.req (List.length q = List.length q)
   (.req (List.length q + List.length [Slug.mk (Slug.Weight (zi l i)) (IntKind.wrap IntKind.i64 (Slug.Volume (zi l i) - bif false then if m > Slug.Volume (zi l i) then m else Slug.Volume (zi l i) else if m < Slug.Volume (zi l i) then m else Slug.Volume (zi l i)))] ≤ (1073741824 : Nat))
   (.req (List.length (p ++ [Slug.mk (Slug.Weight (zi l i)) (bif false then if m > Slug.Volume (zi l i) then m else Slug.Volume (zi l i) else if m < Slug.Volume (zi l i) then m else Slug.Volume (zi l i))]) = List.length (p ++ [Slug.mk (Slug.Weight (zi l i)) (bif false then if m > Slug.Volume (zi l i) then m else Slug.Volume (zi l i) else if m < Slug.Volume (zi l i) then m else Slug.Volume (zi l i))]))
   (.req (List.length (q ++ [Slug.mk (Slug.Weight (zi l i)) (IntKind.wrap IntKind.i64 (Slug.Volume (zi l i) - bif false then if m > Slug.Volume (zi l i) then m else Slug.Volume (zi l i) else if m < Slug.Volume (zi l i) then m else Slug.Volume (zi l i)))]) = List.length (q ++ [Slug.mk (Slug.Weight (zi l i)) (IntKind.wrap IntKind.i64 (Slug.Volume (zi l i) - bif false then if m > Slug.Volume (zi l i) then m else Slug.Volume (zi l i) else if m < Slug.Volume (zi l i) then m else Slug.Volume (zi l i)))]))
   (.leaf (.inl (p ++ [Slug.mk (Slug.Weight (zi l i)) (bif false then if m > Slug.Volume (zi l i) then m else Slug.Volume (zi l i) else if m < Slug.Volume (zi l i) then m else Slug.Volume (zi l i))], (q ++ [Slug.mk (Slug.Weight (zi l i)) (IntKind.wrap IntKind.i64 (Slug.Volume (zi l i) - bif false then if m > Slug.Volume (zi l i) then m else Slug.Volume (zi l i) else if m < Slug.Volume (zi l i) then m else Slug.Volume (zi l i)))], (l, (n, (IntKind.wrap IntKind.i64 (i + (1 : Int)), (IntKind.wrap IntKind.i64 (m - bif false then if m > Slug.Volume (zi l i) then m else Slug.Volume (zi l i) else if m < Slug.Volume (zi l i) then m else Slug.Volume (zi l i)), ())))))))))))))))
   (.req (List.length p = List.length p)
   (.req (List.length q = List.length q)
   (.leaf (.inr (.exit (0 : Nat), [.l (47 : Nat) (p), .l (47 : Nat) (q)])))))) := by kernel_rfl
theorem n38 (p : List Slug) (q : List Slug) (l : List Slug) (n : Int) (i : Int) (m : Int) (K : Ex × List (V T) → Prop) (hI : (0 ≤ i ∧ n = l.length ∧ l.length ≤ 24) ∧ p.length ≤ 1 + i ∧ q.length ≤ i) (hK : (.leaf (.exit 0, [.l 47 (p ++ pmN (l.drop i.toNat) m), .l 47 (q ++ pmO (l.drop i.toNat) m)]) : Tree (Ex × List (V T))).holds K) : (c38.out (p, q, l, n, i, m, ())).holds K := ⟨hI, hK⟩
theorem h38' (p : List Slug) (q : List Slug) (l : List Slug) (n : Int) (i : Int) (m : Int) (K : Ex × List (V T) → Prop) (hI : (0 ≤ i ∧ n = l.length ∧ l.length ≤ 24) ∧ p.length ≤ 1 + i ∧ q.length ≤ i) (hK : (.leaf (.exit 0, [.l 47 (p ++ pmN (l.drop i.toNat) m), .l 47 (q ++ pmO (l.drop i.toNat) m)]) : Tree (Ex × List (V T))).holds K) :
    (bodyD Try.prog E c38 0 (bodyX Try.prog E ctC noLoops 1000 5 L0 (lpOf Try.prog 38 0)) (p, q, l, n, i, m, ())).holds fun y => match y with
    | .inl d => ((d.2.2.1.length : Int) - d.2.2.2.2.1).toNat < ((l.length : Int) - i).toNat ∧ (c38.out d).holds K
    | .inr y => K y := by
  rw [b38]
  obtain ⟨⟨h0, rfl, hl⟩, hp, hq⟩ := hI
  refine way (fun c => wayC h0 c fun _ _ => ⟨rfl, by simp; omega, rfl, by simp; omega, rfl, rfl, ?_⟩) fun c => ⟨rfl, rfl, ?_⟩
  · have e2 : IntKind.wrap IntKind.i64 (i + 1) = i + 1 := i64_in' (by omega) (by omega)
    rw [e2]
    rw [drop_zI h0 c] at hK
    unfold pmN pmO at hK
    rw [List.append_cons p, List.append_cons q] at hK
    have g1 : (0 : Int) ≤ i + 1 := by omega
    have g2 : ((l.length : Int) - (i + 1)).toNat < ((l.length : Int) - i).toNat := by omega
    exact ⟨g2, ⟨⟨g1, rfl, hl⟩, by simp; omega, by simp; omega⟩, hK⟩
  · rw [drop_n c] at hK
    unfold pmN pmO at hK
    rw [List.append_nil, List.append_nil] at hK
    exact hK
theorem h38 : LoopH Try.prog E c38 0 (bodyX Try.prog E ctC noLoops 1000 5 L0 (lpOf Try.prog 38 0)) :=
  ⟨fun d => ((d.2.2.1.length : Int) - d.2.2.2.2.1).toNat, fun dd K hK => by
    obtain ⟨p, q, l, n, i, m, ⟨⟩⟩ := dd
    obtain ⟨hI, hK⟩ := hK
    refine Tree.holds_mono (fun y hy => ?_) (h38' p q l n i m K hI hK)
    cases y with
    | inl d' => exact hy
    | inr y => exact hy⟩
theorem ll38 : LLOk Try.prog E (llOfN Try.prog E 38 0 [(10, c38)]) := llOfN_ok fun i hi c hc => by
  have hi : i < 1 := hi
  obtain rfl : i = 0 := by omega
  obtain rfl : c38 = c := Option.some.inj hc
  exact LSndN.mk good names mixes ctC_ok (by decide) h38
noncomputable def o39 (p : List Slug) (q : List Slug) (l : List Slug) (m : Int) (i : Int) : Tree (Ex × List (V T)) := .req ((0 ≤ i ∧ l.length ≤ 24) ∧ p.length ≤ 1 + i ∧ q.length ≤ i) (.leaf (.exit 0, [.l 47 (p ++ pmN (l.drop i.toNat) m), .l 47 (q ++ pmO (l.drop i.toNat) m)]))
noncomputable def c39 : LoopC T := ⟨[.l 47, .l 47, .l 47, .n, .n], ⟨100, [(1, .one (.s 47)), (10, .one (.g 0 47)), (11, .one (.g 1 47)), (12, .one (.i .i64)), (13, .one (.i .i64))], [.l 47, .l 47]⟩, fun _ => ⟨100, [(10, .one (.g 0 47)), (11, .one (.g 1 47))], [.l 47, .l 47]⟩, 40, fun d => o39 d.1 d.2.1 d.2.2.1 d.2.2.2.1 d.2.2.2.2.1⟩
theorem b39 (p : List Slug) (q : List Slug) (l : List Slug) (m : Int) (i : Int) : bodyD Try.prog E c39 0 (bodyX Try.prog E ctC noLoops 1000 5 L0 (lpOf Try.prog 39 0)) (p, q, l, m, i, ()) =
  (.br (decide (i < (↑(List.length l) : Int)))
   (.req ((decide ((0 : Int) ≤ i) && decide (i < (↑(List.length l) : Int))) = true)
   (.req ((decide ((0 : Int) ≤ i) && decide (i < (↑(List.length l) : Int))) = true)
   (.req (List.length p = List.length p)
   (.req (List.length p + List.length [Slug.mk (Slug.Weight (zi l i)) (bif false then if Slug.Volume (zi l i) > m then Slug.Volume (zi l i) else m else if Slug.Volume (zi l i) < m then Slug.Volume (zi l i) else m)] ≤ (1073741824 : Nat))
   (.req ((decide ((0 : Int) ≤ i) && decide (i < (↑(List.length l) : Int))) = true)
   (.req ((decide ((0 : Int) ≤ i) && decide (i < (↑(List.length l) : Int))) = true)
   (.req (List.length q = List.length q)
   (.req (List.length q + List.length [Slug.mk (Slug.Weight (zi l i)) (IntKind.wrap IntKind.i64 (Slug.Volume (zi l i) - bif false then if Slug.Volume (zi l i) > m then Slug.Volume (zi l i) else m else if Slug.Volume (zi l i) < m then Slug.Volume (zi l i) else m))] ≤ (1073741824 : Nat))
   (.req (List.length (p ++ [Slug.mk (Slug.Weight (zi l i)) (bif false then if Slug.Volume (zi l i) > m then Slug.Volume (zi l i) else m else if Slug.Volume (zi l i) < m then Slug.Volume (zi l i) else m)]) = List.length (p ++ [Slug.mk (Slug.Weight (zi l i)) (bif false then if Slug.Volume (zi l i) > m then Slug.Volume (zi l i) else m else if Slug.Volume (zi l i) < m then Slug.Volume (zi l i) else m)]))
   (.req (List.length (q ++ [Slug.mk (Slug.Weight (zi l i)) (IntKind.wrap IntKind.i64 (Slug.Volume (zi l i) - bif false then if Slug.Volume (zi l i) > m then Slug.Volume (zi l i) else m else if Slug.Volume (zi l i) < m then Slug.Volume (zi l i) else m))]) = List.length (q ++ [Slug.mk (Slug.Weight (zi l i)) (IntKind.wrap IntKind.i64 (Slug.Volume (zi l i) - bif false then if Slug.Volume (zi l i) > m then Slug.Volume (zi l i) else m else if Slug.Volume (zi l i) < m then Slug.Volume (zi l i) else m))]))
   (.leaf (.inl (p ++ [Slug.mk (Slug.Weight (zi l i)) (bif false then if Slug.Volume (zi l i) > m then Slug.Volume (zi l i) else m else if Slug.Volume (zi l i) < m then Slug.Volume (zi l i) else m)], (q ++ [Slug.mk (Slug.Weight (zi l i)) (IntKind.wrap IntKind.i64 (Slug.Volume (zi l i) - bif false then if Slug.Volume (zi l i) > m then Slug.Volume (zi l i) else m else if Slug.Volume (zi l i) < m then Slug.Volume (zi l i) else m))], (l, (IntKind.wrap IntKind.i64 (m - bif false then if Slug.Volume (zi l i) > m then Slug.Volume (zi l i) else m else if Slug.Volume (zi l i) < m then Slug.Volume (zi l i) else m), (IntKind.wrap IntKind.i64 (i + (1 : Int)), ())))))))))))))))))
   (.req (List.length p = List.length p)
   (.req (List.length q = List.length q)
   (.leaf (.inr (.exit (0 : Nat), [.l (47 : Nat) (p), .l (47 : Nat) (q)])))))) := by kernel_rfl
theorem n39 (p : List Slug) (q : List Slug) (l : List Slug) (m : Int) (i : Int) (K : Ex × List (V T) → Prop) (hI : (0 ≤ i ∧ l.length ≤ 24) ∧ p.length ≤ 1 + i ∧ q.length ≤ i) (hK : (.leaf (.exit 0, [.l 47 (p ++ pmN (l.drop i.toNat) m), .l 47 (q ++ pmO (l.drop i.toNat) m)]) : Tree (Ex × List (V T))).holds K) : (c39.out (p, q, l, m, i, ())).holds K := ⟨hI, hK⟩
theorem h39' (p : List Slug) (q : List Slug) (l : List Slug) (m : Int) (i : Int) (K : Ex × List (V T) → Prop) (hI : (0 ≤ i ∧ l.length ≤ 24) ∧ p.length ≤ 1 + i ∧ q.length ≤ i) (hK : (.leaf (.exit 0, [.l 47 (p ++ pmN (l.drop i.toNat) m), .l 47 (q ++ pmO (l.drop i.toNat) m)]) : Tree (Ex × List (V T))).holds K) :
    (bodyD Try.prog E c39 0 (bodyX Try.prog E ctC noLoops 1000 5 L0 (lpOf Try.prog 39 0)) (p, q, l, m, i, ())).holds fun y => match y with
    | .inl d => ((d.2.2.1.length : Int) - d.2.2.2.2.1).toNat < ((l.length : Int) - i).toNat ∧ (c39.out d).holds K
    | .inr y => K y := by
  rw [b39]
  obtain ⟨⟨h0, hl⟩, hp, hq⟩ := hI
  refine way (fun c => wayC h0 c fun _ _ => wayC h0 c fun _ _ => ⟨rfl, by simp; omega, wayC h0 c fun _ _ => wayC h0 c fun _ _ => ⟨rfl, by simp; omega, rfl, rfl, ?_⟩⟩) fun c => ⟨rfl, rfl, ?_⟩
  · have e2 : IntKind.wrap IntKind.i64 (i + 1) = i + 1 := i64_in' (by omega) (by omega)
    rw [e2]
    rw [drop_zI h0 c] at hK
    unfold pmN pmO at hK
    rw [List.append_cons p, List.append_cons q] at hK
    have g1 : (0 : Int) ≤ i + 1 := by omega
    have g2 : ((l.length : Int) - (i + 1)).toNat < ((l.length : Int) - i).toNat := by omega
    rw [← mn'] at hK
    exact ⟨g2, ⟨⟨g1, hl⟩, by simp; omega, by simp; omega⟩, hK⟩
  · rw [drop_n c] at hK
    unfold pmN pmO at hK
    rw [List.append_nil, List.append_nil] at hK
    exact hK
theorem h39 : LoopH Try.prog E c39 0 (bodyX Try.prog E ctC noLoops 1000 5 L0 (lpOf Try.prog 39 0)) :=
  ⟨fun d => ((d.2.2.1.length : Int) - d.2.2.2.2.1).toNat, fun dd K hK => by
    obtain ⟨p, q, l, m, i, ⟨⟩⟩ := dd
    obtain ⟨hI, hK⟩ := hK
    refine Tree.holds_mono (fun y hy => ?_) (h39' p q l m i K hI hK)
    cases y with
    | inl d' => exact hy
    | inr y => exact hy⟩
theorem ll39 : LLOk Try.prog E (llOfN Try.prog E 39 0 [(9, c39)]) := llOfN_ok fun i hi c hc => by
  have hi : i < 1 := hi
  obtain rfl : i = 0 := by omega
  obtain rfl : c39 = c := Option.some.inj hc
  exact LSndN.mk good names mixes ctC_ok (by decide) h39
theorem tv38 (h : List Seg) (l : List Slug) (a b : Int) : runX ctC (llOfN Try.prog E 38 0 [(10, c38)]) 38 [.agg [.sl 52 h false], .sl 47 l false, .agg [i64 a, i64 b]] [36, 36, 26] =
  (.req (inLg h ∧ inVm l)
  (.br (cE h l != (0 : Int))
   (.leaf (.tup [.sl (47 : Nat) ([]) false, .sl (47 : Nat) ([]) false, .sym .i64 (cE h l)]))
   (.br (!within a (0 : Int) (40000 : Int))
    (.leaf (.tup [.sl (47 : Nat) ([]) false, .sl (47 : Nat) ([]) false, .sym .i64 ((2 : Int))]))
    (.req (inLg h)
    (.br (!within b (1 : Int) (vol h))
     (.leaf (.tup [.sl (47 : Nat) ([]) false, .sl (47 : Nat) ([]) false, .sym .i64 ((2 : Int))]))
     (.req (inLg h)
     (.req (((0 : Int) ≤ (0 : Int) ∧ (↑(List.length l) : Int) = (↑(List.length l) : Int) ∧ List.length l ≤ (24 : Nat)) ∧ (↑(List.length [Slug.mk a b]) : Int) ≤ (1 : Int) + (0 : Int) ∧ (↑((0 : Nat)) : Int) ≤ (0 : Int))
     (.req (List.length ([Slug.mk a b] ++ pmN (List.drop (Int.toNat (0 : Int)) l) (IntKind.wrap IntKind.i64 (vol h - b))) = List.length ([Slug.mk a b] ++ pmN (List.drop (Int.toNat (0 : Int)) l) (IntKind.wrap IntKind.i64 (vol h - b))))
     (.req (List.length ([Slug.mk a b] ++ pmN (List.drop (Int.toNat (0 : Int)) l) (IntKind.wrap IntKind.i64 (vol h - b))) ≤ (100 : Nat))
     (.req (List.length ([] ++ pmO (List.drop (Int.toNat (0 : Int)) l) (IntKind.wrap IntKind.i64 (vol h - b))) = List.length ([] ++ pmO (List.drop (Int.toNat (0 : Int)) l) (IntKind.wrap IntKind.i64 (vol h - b))))
     (.req (List.length ([] ++ pmO (List.drop (Int.toNat (0 : Int)) l) (IntKind.wrap IntKind.i64 (vol h - b))) ≤ (100 : Nat))
     (.br (decide ((↑(List.length (plz ([Slug.mk a b] ++ pmN (List.drop (Int.toNat (0 : Int)) l) (IntKind.wrap IntKind.i64 (vol h - b))) [])) : Int) > (24 : Int)))
      (.leaf (.tup [.sl (47 : Nat) ([]) false, .sl (47 : Nat) ([]) false, .sym .i64 ((8 : Int))]))
      (.leaf (.tup [.sl (47 : Nat) (plz ([Slug.mk a b] ++ pmN (List.drop (Int.toNat (0 : Int)) l) (IntKind.wrap IntKind.i64 (vol h - b))) []) false, .sl (47 : Nat) (plz ([] ++ pmO (List.drop (Int.toNat (0 : Int)) l) (IntKind.wrap IntKind.i64 (vol h - b))) []) false, .sym .i64 ((0 : Int))])))))))))))))) := by kernel_rfl
theorem tv39 (h : List Seg) (l : List Slug) (a b : Int) : runX ctC (llOfN Try.prog E 39 0 [(9, c39)]) 39 [.agg [.sl 52 h false], .sl 47 l false, .agg [i64 a, i64 b]] [36, 36, 26] =
  (.req (inLg h ∧ inVm l)
  (.br (cE h l != (0 : Int))
   (.leaf (.tup [.sl (47 : Nat) ([]) false, .sl (47 : Nat) ([]) false, .sym .i64 (cE h l)]))
   (.br (decide (a < (0 : Int)))
    (.leaf (.tup [.sl (47 : Nat) ([]) false, .sl (47 : Nat) ([]) false, .sym .i64 ((2 : Int))]))
    (.br (decide (a > (40000 : Int)))
     (.leaf (.tup [.sl (47 : Nat) ([]) false, .sl (47 : Nat) ([]) false, .sym .i64 ((2 : Int))]))
     (.br (decide (b < (1 : Int)))
      (.leaf (.tup [.sl (47 : Nat) ([]) false, .sl (47 : Nat) ([]) false, .sym .i64 ((2 : Int))]))
      (.req (inLg h)
      (.br (decide (b > vol h))
       (.leaf (.tup [.sl (47 : Nat) ([]) false, .sl (47 : Nat) ([]) false, .sym .i64 ((2 : Int))]))
       (.req (inLg h)
       (.req (((0 : Int) ≤ (0 : Int) ∧ List.length l ≤ (24 : Nat)) ∧ (↑(List.length [Slug.mk a b]) : Int) ≤ (1 : Int) + (0 : Int) ∧ (↑((0 : Nat)) : Int) ≤ (0 : Int))
       (.req (List.length ([Slug.mk a b] ++ pmN (List.drop (Int.toNat (0 : Int)) l) (IntKind.wrap IntKind.i64 (vol h - b))) = List.length ([Slug.mk a b] ++ pmN (List.drop (Int.toNat (0 : Int)) l) (IntKind.wrap IntKind.i64 (vol h - b))))
       (.req (List.length ([Slug.mk a b] ++ pmN (List.drop (Int.toNat (0 : Int)) l) (IntKind.wrap IntKind.i64 (vol h - b))) ≤ (100 : Nat))
       (.req (List.length ([] ++ pmO (List.drop (Int.toNat (0 : Int)) l) (IntKind.wrap IntKind.i64 (vol h - b))) = List.length ([] ++ pmO (List.drop (Int.toNat (0 : Int)) l) (IntKind.wrap IntKind.i64 (vol h - b))))
       (.req (List.length ([] ++ pmO (List.drop (Int.toNat (0 : Int)) l) (IntKind.wrap IntKind.i64 (vol h - b))) ≤ (100 : Nat))
       (.br (decide ((↑(List.length (plz ([Slug.mk a b] ++ pmN (List.drop (Int.toNat (0 : Int)) l) (IntKind.wrap IntKind.i64 (vol h - b))) [])) : Int) > (24 : Int)))
        (.leaf (.tup [.sl (47 : Nat) ([]) false, .sl (47 : Nat) ([]) false, .sym .i64 ((8 : Int))]))
        (.leaf (.tup [.sl (47 : Nat) (plz ([Slug.mk a b] ++ pmN (List.drop (Int.toNat (0 : Int)) l) (IntKind.wrap IntKind.i64 (vol h - b))) []) false, .sl (47 : Nat) (plz ([] ++ pmO (List.drop (Int.toNat (0 : Int)) l) (IntKind.wrap IntKind.i64 (vol h - b))) []) false, .sym .i64 ((0 : Int))])))))))))))))))) := by kernel_rfl
noncomputable def pmE (h : List Seg) (l : List Slug) (a b : Int) : Int := if cE h l = 0 then (if within a 0 40000 = true ∧ within b 1 (vol h) = true then (if ((plz (⟨a, b⟩ :: pmN l (wr (vol h - b))) []).length : Int) > 24 then 8 else 0) else 2) else cE h l
noncomputable def pmA (h : List Seg) (l : List Slug) (a b : Int) : List Slug := if pmE h l a b = 0 then plz (⟨a, b⟩ :: pmN l (wr (vol h - b))) [] else []
noncomputable def pmB (h : List Seg) (l : List Slug) (a b : Int) : List Slug := if pmE h l a b = 0 then plz (pmO l (wr (vol h - b))) [] else []
noncomputable def pmV (h : List Seg) (l : List Slug) (a b : Int) : AV T := .tup [.sl 47 (pmA h l a b) false, .sl 47 (pmB h l a b) false, i64 (pmE h l a b)]
theorem cE_len {h : List Seg} {l : List Slug} (c : cE h l = 0) : hE h = 0 ∧ (0 < l.length ∧ l.length ≤ 24) ∧ allV l = true ∧ sumV l = vol h := by
  unfold cE at c
  split at c
  · split at c
    · omega
    split at c
    · omega
    split at c
    · split at c
      · omega
      split at c
      · omega
      · exact ⟨by assumption, by omega, by assumption, by omega⟩
    · omega
  · rename_i k; exact absurd c k
theorem pmV_e {h : List Seg} {l : List Slug} {a b e : Int} (he : pmE h l a b = e) (h0 : e ≠ 0) : AV.tup [.sl 47 [] false, .sl 47 [] false, i64 e] = pmV h l a b := by
  unfold pmV pmA pmB
  rw [he, if_neg h0, if_neg h0]; rfl
theorem s38 (h : List Seg) (l : List Slug) (a b : Int) (h1 : inLg h ∧ inVm l) : (runX ctC (llOfN Try.prog E 38 0 [(10, c38)]) 38 [.agg [.sl 52 h false], .sl 47 l false, .agg [i64 a, i64 b]] [36, 36, 26]).holds fun v => v = pmV h l a b := by
  rw [tv38]
  have hb := vol_bd h
  refine ⟨h1, wayNe (fun c => ?_) fun c => wayB (fun k => ?_) fun k => ⟨h1.1, wayB (fun k2 => ?_) fun k2 => ?_⟩⟩
  · exact pmV_e (by unfold pmE; rw [if_neg c]) c
  · exact pmV_e (by unfold pmE; rw [if_pos c, if_neg (fun q => by rw [q.1] at k; cases k)]) (by decide)
  · exact pmV_e (by unfold pmE; rw [if_pos c, if_neg (fun q => by rw [q.2] at k2; cases k2)]) (by decide)
  · have k : within a 0 40000 = true := by simpa using k
    have k2 : within b 1 (vol h) = true := by simpa using k2
    have hl := (cE_len c).2.1
    have hlen : (⟨a, b⟩ :: pmN l (wr (vol h - b)) : List Slug).length ≤ 25 := by simp only [List.length_cons, len_pmN]; omega
    have hlen2 : (pmO l (wr (vol h - b))).length ≤ 24 := by rw [len_pmO]; omega
    refine ⟨h1.1, ⟨⟨by decide, rfl, hl.2⟩, by show (1 : Int) ≤ 1 + 0; decide, by decide⟩, rfl, by show (⟨a, b⟩ :: pmN l (wr (vol h - b)) : List Slug).length ≤ 100; omega, rfl, by show (pmO l (wr (vol h - b))).length ≤ 100; omega, way (fun (w : ((plz (⟨a, b⟩ :: pmN l (wr (vol h - b))) []).length : Int) > 24) => ?_) fun (w : ¬ ((plz (⟨a, b⟩ :: pmN l (wr (vol h - b))) []).length : Int) > 24) => ?_⟩
    · exact pmV_e (by unfold pmE; rw [if_pos c, if_pos ⟨k, k2⟩, if_pos w]) (by decide)
    · have e0 : pmE h l a b = 0 := by unfold pmE; rw [if_pos c, if_pos ⟨k, k2⟩, if_neg w]
      unfold pmV pmA pmB
      rw [if_pos e0, if_pos e0, e0]; rfl
theorem s39 (h : List Seg) (l : List Slug) (a b : Int) (h1 : inLg h ∧ inVm l) : (runX ctC (llOfN Try.prog E 39 0 [(9, c39)]) 39 [.agg [.sl 52 h false], .sl 47 l false, .agg [i64 a, i64 b]] [36, 36, 26]).holds fun v => v = pmV h l a b := by
  rw [tv39]
  have hb := vol_bd h
  have no1 : ¬ (0 ≤ a ∧ a ≤ 40000) → cE h l = 0 → pmE h l a b = 2 := fun q c => by unfold pmE; rw [if_pos c, if_neg (fun w => q (of_decide_eq_true w.1))]
  have no2 : ¬ (1 ≤ b ∧ b ≤ vol h) → cE h l = 0 → pmE h l a b = 2 := fun q c => by unfold pmE; rw [if_pos c, if_neg (fun w => q (of_decide_eq_true w.2))]
  refine ⟨h1, wayNe (fun c => ?_) fun c => way (fun k => ?_) fun k => way (fun k1 => ?_) fun k1 => way (fun k2 => ?_) fun k2 => ⟨h1.1, way (fun k3 => ?_) fun k3 => ?_⟩⟩
  · exact pmV_e (by unfold pmE; rw [if_neg c]) c
  · exact pmV_e (no1 (by omega) c) (by decide)
  · exact pmV_e (no1 (by omega) c) (by decide)
  · exact pmV_e (no2 (by omega) c) (by decide)
  · exact pmV_e (no2 (by omega) c) (by decide)
  · have k : within a 0 40000 = true := decide_eq_true ⟨by omega, by omega⟩
    have k2 : within b 1 (vol h) = true := decide_eq_true ⟨by omega, by omega⟩
    have hl := (cE_len c).2.1
    have hlen : (⟨a, b⟩ :: pmN l (wr (vol h - b)) : List Slug).length ≤ 25 := by simp only [List.length_cons, len_pmN]; omega
    have hlen2 : (pmO l (wr (vol h - b))).length ≤ 24 := by rw [len_pmO]; omega
    refine ⟨h1.1, ⟨⟨by decide, hl.2⟩, by show (1 : Int) ≤ 1 + 0; decide, by decide⟩, rfl, by show (⟨a, b⟩ :: pmN l (wr (vol h - b)) : List Slug).length ≤ 100; omega, rfl, by show (pmO l (wr (vol h - b))).length ≤ 100; omega, way (fun (w : ((plz (⟨a, b⟩ :: pmN l (wr (vol h - b))) []).length : Int) > 24) => ?_) fun (w : ¬ ((plz (⟨a, b⟩ :: pmN l (wr (vol h - b))) []).length : Int) > 24) => ?_⟩
    · exact pmV_e (by unfold pmE; rw [if_pos c, if_pos ⟨k, k2⟩, if_pos w]) (by decide)
    · have e0 : pmE h l a b = 0 := by unfold pmE; rw [if_pos c, if_pos ⟨k, k2⟩, if_neg w]
      unfold pmV pmA pmB
      rw [if_pos e0, if_pos e0, e0]; rfl
noncomputable def cPump : Con T := conP Try.prog [shH, .one (.s 47), .agg [.i .i64, .i .i64]] [.l 52, .l 47, .n, .n] (fun d => inLg d.1 ∧ inVm d.2.1) fun d => pmV d.1 d.2.1 d.2.2.1 d.2.2.2.1
theorem pump_ok : ConOk Try.prog E 38 cPump := conP_ok fun d hd => fact_run ctC_ok ll38 (ts := [36, 36, 26]) rfl (s38 d.1 d.2.1 d.2.2.1 d.2.2.2.1 hd)
theorem pump2_ok : ConOk Try.prog E 39 cPump := conP_ok fun d hd => fact_run ctC_ok ll39 (ts := [36, 36, 26]) rfl (s39 d.1 d.2.1 d.2.2.1 d.2.2.2.1 hd)
end Go.Proofs.Ytnhedcaphncliaa.W.Hole
