/- S02V7 and S02V8 and S02V9 and S02V10 and S02AD and S02AE in one text. No condition. -/
import Derived.Test.YtdlholmphenhhaaV6
import Derived.Test.YtdlholmphenhhaaW
import Derived.Test.YtdlholmphenhhaaCz14
import Derived.Test.YtdlholmphenhhaaLEarthAdds
set_option linter.unusedVariables false
set_option linter.unusedVariables false
set_option maxRecDepth 100000
noncomputable section
namespace Go.Proofs.Ytdlholmphenhhaa.W
open Go Go.Cx Go.RowKit
noncomputable def ptK (b : Int) (l : List Knot) : List Knot := l.filter fun k => decide (k.At ≤ b)
noncomputable def ptR (kind : Int) (l : List Report) : List Knot := (l.filter fun r => decide (r.Kind = kind)).map fun r => ⟨r.Z, r.P⟩
theorem ptK_cons {b : Int} {k : Knot} {l : List Knot} : ptK b (k :: l) = if k.At ≤ b then k :: ptK b l else ptK b l := by
  unfold ptK
  by_cases h : k.At ≤ b
  · rw [List.filter_cons_of_pos (by simpa using h), if_pos h]
  · rw [List.filter_cons_of_neg (by simpa using h), if_neg h]
theorem ptR_cons {kind : Int} {r : Report} {l : List Report} : ptR kind (r :: l) = if r.Kind = kind then ⟨r.Z, r.P⟩ :: ptR kind l else ptR kind l := by
  unfold ptR
  by_cases h : r.Kind = kind
  · rw [List.filter_cons_of_pos (by simpa using h), if_pos h]; rfl
  · rw [List.filter_cons_of_neg (by simpa using h), if_neg h]
theorem ptK_len {b : Int} {l : List Knot} : (ptK b l).length ≤ l.length := List.length_filter_le ..
theorem ptR_len {k : Int} {l : List Report} : (ptR k l).length ≤ l.length := by unfold ptR; rw [List.length_map]; exact List.length_filter_le ..
@[reducible] noncomputable def eD (b : Int) (p q r s : List Knot) (x y : Int) (l : List Report) : List (V T) := [.n b, .l 78 p, .l 78 q, .l 78 r, .l 78 s, .n x, .n y, .l 55 l]
noncomputable def o127a (xs : List Knot) (kind : Int) (l : List Knot) (n i b : Int) (p q r s : List Knot) (x y : Int) (rs : List Report) : Tree (Ex × List (V T)) :=
  .req ((0 ≤ i ∧ n = l.length ∧ l.length ≤ 1000) ∧ xs.length + l.length ≤ 1000 + i.toNat) (.leaf (.exit 0, .l 78 (xs ++ ptK b (l.drop i.toNat)) :: .n kind :: eD b p q r s x y rs))
noncomputable def c127a : LoopC T := ⟨[.l 78, .n, .l 78, .n, .n, .n, .l 78, .l 78, .l 78, .l 78, .n, .n, .l 55], ⟨50, [(2, .one (.i .i64)), (3, .one (.o 0 0)), (7, .one (.g 1 78)), (13, .one (.s 78)), (14, .one (.i .i64)), (15, .one (.i .i64))], [.c cellsE, .l 78]⟩,
  fun _ => ⟨50, [(2, .one (.i .i64)), (3, .one (.o 0 0)), (7, .one (.g 1 78))], [.c cellsE, .l 78]⟩, 10,
  fun d => o127a d.1 d.2.1 d.2.2.1 d.2.2.2.1 d.2.2.2.2.1 d.2.2.2.2.2.1 d.2.2.2.2.2.2.1 d.2.2.2.2.2.2.2.1 d.2.2.2.2.2.2.2.2.1 d.2.2.2.2.2.2.2.2.2.1 d.2.2.2.2.2.2.2.2.2.2.1 d.2.2.2.2.2.2.2.2.2.2.2.1 d.2.2.2.2.2.2.2.2.2.2.2.2.1⟩
theorem b127a (xs : List Knot) (kind : Int) (l : List Knot) (n i b : Int) (p q r s : List Knot) (x y : Int) (rs : List Report) : bodyD Try.prog E c127a 0 (bodyX Try.prog E ctB noLoops 1000 5 L0 (lpOf Try.prog 127 0)) (xs, kind, l, n, i, b, p, q, r, s, x, y, rs, ()) =
  (.br (decide (i < n))
   (.req ((decide ((0 : Int) ≤ i) && decide (i < (↑(List.length l) : Int))) = true)
   (.br (decide (Knot.At (kn l i) ≤ b))
    (.req (List.length xs = List.length xs)
    (.req (List.length xs + List.length [Knot.mk (Knot.At (kn l i)) (Knot.V (kn l i))] ≤ (1073741824 : Nat))
    (.req (List.length (xs ++ [Knot.mk (Knot.At (kn l i)) (Knot.V (kn l i))]) = List.length (xs ++ [Knot.mk (Knot.At (kn l i)) (Knot.V (kn l i))]))
    (.leaf (.inl (xs ++ [Knot.mk (Knot.At (kn l i)) (Knot.V (kn l i))], (kind, (l, (n, (IntKind.wrap IntKind.i64 (i + (1 : Int)), (b, (p, (q, (r, (s, (x, (y, (rs, ()))))))))))))))))))
    (.req (List.length xs = List.length xs)
    (.leaf (.inl (xs, (kind, (l, (n, (IntKind.wrap IntKind.i64 (i + (1 : Int)), (b, (p, (q, (r, (s, (x, (y, (rs, ()))))))))))))))))))
   (.req (List.length xs = List.length xs)
   (.leaf (.inr (.exit (0 : Nat), [.l (78 : Nat) (xs), .n (kind), .n (b), .l (78 : Nat) (p), .l (78 : Nat) (q), .l (78 : Nat) (r), .l (78 : Nat) (s), .n (x), .n (y), .l (55 : Nat) (rs)]))))) := by kernel_rfl
noncomputable def c101a : LoopC T := ⟨[.l 78, .n, .n, .n, .l 78, .l 78, .l 78, .l 78, .n, .n, .l 55, .l 78], ⟨66, [(2, .one (.i .i64)), (3, .one (.o 0 0)), (4, .one (.o 2 0)), (7, .one (.g 1 78)), (8, .one (.i .i64))], [.c cellsE, .l 78, .c [.s 78]]⟩,
  fun _ => ⟨66, [(2, .one (.i .i64)), (3, .one (.o 0 0)), (7, .one (.g 1 78))], [.c cellsE, .l 78]⟩, 10,
  fun d => o127a d.1 d.2.1 d.2.2.2.2.2.2.2.2.2.2.2.1 (d.2.2.2.2.2.2.2.2.2.2.2.1 : List Knot).length d.2.2.1 d.2.2.2.1 d.2.2.2.2.1 d.2.2.2.2.2.1 d.2.2.2.2.2.2.1 d.2.2.2.2.2.2.2.1 d.2.2.2.2.2.2.2.2.1 d.2.2.2.2.2.2.2.2.2.1 d.2.2.2.2.2.2.2.2.2.2.1⟩
theorem b101a (xs : List Knot) (kind i b : Int) (p q r s : List Knot) (x y : Int) (rs : List Report) (l : List Knot) : bodyD Try.prog E c101a 0 (bodyX Try.prog E ctB noLoops 1000 5 L0 (lpOf Try.prog 101 0)) (xs, kind, i, b, p, q, r, s, x, y, rs, l, ()) =
  (.br (decide (i < (↑(List.length l) : Int)))
   (.req ((decide ((0 : Int) ≤ i) && decide (i < (↑(List.length l) : Int))) = true)
   (.br (decide (Knot.At (kn l i) ≤ b))
    (.req ((decide ((0 : Int) ≤ i) && decide (i < (↑(List.length l) : Int))) = true)
    (.req (List.length xs = List.length xs)
    (.req (List.length xs + List.length [Knot.mk (Knot.At (kn l i)) (Knot.V (kn l i))] ≤ (1073741824 : Nat))
    (.req (List.length (xs ++ [Knot.mk (Knot.At (kn l i)) (Knot.V (kn l i))]) = List.length (xs ++ [Knot.mk (Knot.At (kn l i)) (Knot.V (kn l i))]))
    (.leaf (.inl (xs ++ [Knot.mk (Knot.At (kn l i)) (Knot.V (kn l i))], (kind, (IntKind.wrap IntKind.i64 (i + (1 : Int)), (b, (p, (q, (r, (s, (x, (y, (rs, (l, ()))))))))))))))))))
    (.req (List.length xs = List.length xs)
    (.leaf (.inl (xs, (kind, (IntKind.wrap IntKind.i64 (i + (1 : Int)), (b, (p, (q, (r, (s, (x, (y, (rs, (l, ())))))))))))))))))
   (.req (List.length xs = List.length xs)
   (.leaf (.inr (.exit (0 : Nat), [.l (78 : Nat) (xs), .n (kind), .n (b), .l (78 : Nat) (p), .l (78 : Nat) (q), .l (78 : Nat) (r), .l (78 : Nat) (s), .n (x), .n (y), .l (55 : Nat) (rs)]))))) := by kernel_rfl
theorem h127a' (xs : List Knot) (kind : Int) (l : List Knot) (i : Nat) (b : Int) (p q r s : List Knot) (x y : Int) (rs : List Report) (K : Ex × List (V T) → Prop) (hn : l.length ≤ 1000) (hl : xs.length + l.length ≤ 1000 + i) (hK : K (.exit 0, .l 78 (xs ++ ptK b (l.drop i)) :: .n kind :: eD b p q r s x y rs)) :
    (bodyD Try.prog E c127a 0 (bodyX Try.prog E ctB noLoops 1000 5 L0 (lpOf Try.prog 127 0)) (xs, kind, l, (l.length : Int), (i : Int), b, p, q, r, s, x, y, rs, ())).holds fun y => match y with
    | .inl d => ((d.2.2.1.length : Int) - d.2.2.2.2.1).toNat < ((l.length : Int) - (i : Int)).toNat ∧ (c127a.out d).holds K
    | .inr y => K y := by
  rw [b127a]
  refine way (fun c => ?_) fun c => ?_
  · have e2 : IntKind.wrap IntKind.i64 ((i : Int) + 1) = ((i + 1 : Nat) : Int) := i64_in' (by omega) (by omega)
    rw [e2]
    rw [drop_kn (by omega), ptK_cons] at hK
    have hlt : ((l.length : Int) - ((i + 1 : Nat) : Int)).toNat < ((l.length : Int) - (i : Int)).toNat := by omega
    have h3 : (0 : Int) ≤ ((i + 1 : Nat) : Int) := by omega
    refine wayC (by omega) c fun _ _ => way (fun c2 => ⟨rfl, by simp only [List.length_cons, List.length_nil]; omega, rfl, hlt, ⟨⟨h3, rfl, hn⟩, ?_⟩, ?_⟩) fun c2 => ⟨rfl, hlt, ⟨⟨h3, rfl, hn⟩, ?_⟩, ?_⟩
    · show (xs ++ [kn l i]).length + l.length ≤ 1000 + (i + 1)
      simp only [List.length_append, List.length_cons, List.length_nil]
      omega
    · rw [if_pos c2] at hK
      show K (.exit 0, .l 78 ((xs ++ [kn l i]) ++ ptK b (l.drop (i + 1))) :: .n kind :: eD b p q r s x y rs)
      rw [List.append_assoc]
      exact hK
    · show xs.length + l.length ≤ 1000 + (i + 1)
      omega
    · rw [if_neg c2] at hK
      exact hK
  · rw [List.drop_eq_nil_of_le (by omega), show ptK b [] = [] from rfl, List.append_nil] at hK
    exact ⟨rfl, hK⟩
theorem h127a : LoopH Try.prog E c127a 0 (bodyX Try.prog E ctB noLoops 1000 5 L0 (lpOf Try.prog 127 0)) :=
  ⟨fun d => ((d.2.2.1.length : Int) - d.2.2.2.2.1).toNat, fun d K hK => by
    obtain ⟨xs, kind, l, n, i, b, p, q, r, s, x, y, rs, ⟨⟩⟩ := d
    obtain ⟨⟨⟨k1, k2, k3⟩, k4⟩, k5⟩ := hK
    obtain ⟨m, hm⟩ := Int.eq_ofNat_of_zero_le k1
    obtain rfl : i = (m : Int) := hm
    obtain rfl : n = ((l : List Knot).length : Int) := k2
    refine Tree.holds_mono (fun y hy => ?_) (h127a' xs kind l m b p q r s x y rs K k3 k4 k5)
    cases y with
    | inl d' => exact hy
    | inr y => exact hy⟩
theorem h101a' (xs : List Knot) (kind : Int) (l : List Knot) (i : Nat) (b : Int) (p q r s : List Knot) (x y : Int) (rs : List Report) (K : Ex × List (V T) → Prop) (hn : l.length ≤ 1000) (hl : xs.length + l.length ≤ 1000 + i) (hK : K (.exit 0, .l 78 (xs ++ ptK b (l.drop i)) :: .n kind :: eD b p q r s x y rs)) :
    (bodyD Try.prog E c101a 0 (bodyX Try.prog E ctB noLoops 1000 5 L0 (lpOf Try.prog 101 0)) (xs, kind, (i : Int), b, p, q, r, s, x, y, rs, l, ())).holds fun y => match y with
    | .inl d => ((d.2.2.2.2.2.2.2.2.2.2.2.1.length : Int) - d.2.2.1).toNat < ((l.length : Int) - (i : Int)).toNat ∧ (c101a.out d).holds K
    | .inr y => K y := by
  rw [b101a]
  refine way (fun c => ?_) fun c => ?_
  · have e2 : IntKind.wrap IntKind.i64 ((i : Int) + 1) = ((i + 1 : Nat) : Int) := i64_in' (by omega) (by omega)
    rw [e2]
    rw [drop_kn (by omega), ptK_cons] at hK
    have hlt : ((l.length : Int) - ((i + 1 : Nat) : Int)).toNat < ((l.length : Int) - (i : Int)).toNat := by omega
    have h3 : (0 : Int) ≤ ((i + 1 : Nat) : Int) := by omega
    refine wayC (by omega) c fun _ _ => way (fun c2 => wayC (by omega) c fun _ _ => ⟨rfl, by simp only [List.length_cons, List.length_nil]; omega, rfl, hlt, ⟨⟨h3, rfl, hn⟩, ?_⟩, ?_⟩) fun c2 => ⟨rfl, hlt, ⟨⟨h3, rfl, hn⟩, ?_⟩, ?_⟩
    · show (xs ++ [kn l i]).length + l.length ≤ 1000 + (i + 1)
      simp only [List.length_append, List.length_cons, List.length_nil]
      omega
    · rw [if_pos c2] at hK
      show K (.exit 0, .l 78 ((xs ++ [kn l i]) ++ ptK b (l.drop (i + 1))) :: .n kind :: eD b p q r s x y rs)
      rw [List.append_assoc]
      exact hK
    · show xs.length + l.length ≤ 1000 + (i + 1)
      omega
    · rw [if_neg c2] at hK
      exact hK
  · rw [List.drop_eq_nil_of_le (by omega), show ptK b [] = [] from rfl, List.append_nil] at hK
    exact ⟨rfl, hK⟩
theorem h101a : LoopH Try.prog E c101a 0 (bodyX Try.prog E ctB noLoops 1000 5 L0 (lpOf Try.prog 101 0)) :=
  ⟨fun d => ((d.2.2.2.2.2.2.2.2.2.2.2.1.length : Int) - d.2.2.1).toNat, fun d K hK => by
    obtain ⟨xs, kind, i, b, p, q, r, s, x, y, rs, l, ⟨⟩⟩ := d
    obtain ⟨⟨⟨k1, k2, k3⟩, k4⟩, k5⟩ := hK
    obtain ⟨m, hm⟩ := Int.eq_ofNat_of_zero_le k1
    obtain rfl : i = (m : Int) := hm
    refine Tree.holds_mono (fun y hy => ?_) (h101a' xs kind l m b p q r s x y rs K k3 k4 k5)
    cases y with
    | inl d' => exact hy
    | inr y => exact hy⟩
noncomputable def o127b (xs : List Knot) (kind : Int) (l : List Report) (n i : Int) : Tree (Ex × List (V T)) :=
  .req ((0 ≤ i ∧ n = l.length ∧ l.length ≤ 1000) ∧ xs.length + l.length ≤ 3000 + i.toNat) (.leaf (.exit 2, [.l 78 (xs ++ ptR kind (l.drop i.toNat))]))
noncomputable def c127b : LoopC T := ⟨[.l 78, .n, .l 55, .n, .n], ⟨50, [(2, .one (.i .i64)), (7, .one (.g 0 78)), (30, .one (.s 55)), (31, .one (.i .i64)), (32, .one (.i .i64))], [.l 78]⟩,
  fun _ => ⟨50, [(7, .one (.g 0 78))], [.l 78]⟩, 10, fun d => o127b d.1 d.2.1 d.2.2.1 d.2.2.2.1 d.2.2.2.2.1⟩
theorem b127b (xs : List Knot) (kind : Int) (l : List Report) (n i : Int) : bodyD Try.prog E c127b 0 (bodyX Try.prog E ctB noLoops 1000 5 L0 (lpOf Try.prog 127 1)) (xs, kind, l, n, i, ()) =
  (.br (decide (i < n))
   (.req ((decide ((0 : Int) ≤ i) && decide (i < (↑(List.length l) : Int))) = true)
   (.br (Report.Kind (ri l i) == kind)
    (.req (List.length xs = List.length xs)
    (.req (List.length xs + List.length [Knot.mk (Report.Z (ri l i)) (Report.P (ri l i))] ≤ (1073741824 : Nat))
    (.req (List.length (xs ++ [Knot.mk (Report.Z (ri l i)) (Report.P (ri l i))]) = List.length (xs ++ [Knot.mk (Report.Z (ri l i)) (Report.P (ri l i))]))
    (.leaf (.inl (xs ++ [Knot.mk (Report.Z (ri l i)) (Report.P (ri l i))], (kind, (l, (n, (IntKind.wrap IntKind.i64 (i + (1 : Int)), ()))))))))))
    (.req (List.length xs = List.length xs)
    (.leaf (.inl (xs, (kind, (l, (n, (IntKind.wrap IntKind.i64 (i + (1 : Int)), ()))))))))))
   (.req (List.length xs = List.length xs)
   (.leaf (.inr (.exit (2 : Nat), [.l (78 : Nat) (xs)]))))) := by kernel_rfl
noncomputable def c101b : LoopC T := ⟨[.l 78, .n, .n, .n, .l 78, .l 78, .l 78, .l 78, .n, .n, .l 55], ⟨66, [(2, .one (.i .i64)), (3, .one (.o 0 0)), (7, .one (.g 1 78)), (9, .one (.i .i64))], [.c cellsE, .l 78]⟩,
  fun _ => ⟨66, [(7, .one (.g 0 78))], [.l 78]⟩, 10, fun d => o127b d.1 d.2.1 d.2.2.2.2.2.2.2.2.2.2.1 (d.2.2.2.2.2.2.2.2.2.2.1 : List Report).length d.2.2.1⟩
theorem b101b (xs : List Knot) (kind i b : Int) (p q r s : List Knot) (x y : Int) (l : List Report) : bodyD Try.prog E c101b 0 (bodyX Try.prog E ctB noLoops 1000 5 L0 (lpOf Try.prog 101 1)) (xs, kind, i, b, p, q, r, s, x, y, l, ()) =
  (.br (decide (i < (↑(List.length l) : Int)))
   (.req ((decide ((0 : Int) ≤ i) && decide (i < (↑(List.length l) : Int))) = true)
   (.br (Report.Kind (ri l i) == kind)
    (.req ((decide ((0 : Int) ≤ i) && decide (i < (↑(List.length l) : Int))) = true)
    (.req ((decide ((0 : Int) ≤ i) && decide (i < (↑(List.length l) : Int))) = true)
    (.req (List.length xs = List.length xs)
    (.req (List.length xs + List.length [Knot.mk (Report.Z (ri l i)) (Report.P (ri l i))] ≤ (1073741824 : Nat))
    (.req (List.length (xs ++ [Knot.mk (Report.Z (ri l i)) (Report.P (ri l i))]) = List.length (xs ++ [Knot.mk (Report.Z (ri l i)) (Report.P (ri l i))]))
    (.leaf (.inl (xs ++ [Knot.mk (Report.Z (ri l i)) (Report.P (ri l i))], (kind, (IntKind.wrap IntKind.i64 (i + (1 : Int)), (b, (p, (q, (r, (s, (x, (y, (l, ()))))))))))))))))))
    (.req (List.length xs = List.length xs)
    (.leaf (.inl (xs, (kind, (IntKind.wrap IntKind.i64 (i + (1 : Int)), (b, (p, (q, (r, (s, (x, (y, (l, ()))))))))))))))))
   (.req (List.length xs = List.length xs)
   (.leaf (.inr (.exit (2 : Nat), [.l (78 : Nat) (xs)]))))) := by kernel_rfl
theorem h127b' (xs : List Knot) (kind : Int) (l : List Report) (i : Nat) (K : Ex × List (V T) → Prop) (hn : l.length ≤ 1000) (hl : xs.length + l.length ≤ 3000 + i) (hK : K (.exit 2, [.l 78 (xs ++ ptR kind (l.drop i))])) :
    (bodyD Try.prog E c127b 0 (bodyX Try.prog E ctB noLoops 1000 5 L0 (lpOf Try.prog 127 1)) (xs, kind, l, (l.length : Int), (i : Int), ())).holds fun y => match y with
    | .inl d => ((d.2.2.1.length : Int) - d.2.2.2.2.1).toNat < ((l.length : Int) - (i : Int)).toNat ∧ (c127b.out d).holds K
    | .inr y => K y := by
  rw [b127b]
  refine way (fun c => ?_) fun c => ?_
  · have e2 : IntKind.wrap IntKind.i64 ((i : Int) + 1) = ((i + 1 : Nat) : Int) := i64_in' (by omega) (by omega)
    rw [e2]
    rw [drop_ri (by omega), ptR_cons] at hK
    have hlt : ((l.length : Int) - ((i + 1 : Nat) : Int)).toNat < ((l.length : Int) - (i : Int)).toNat := by omega
    have h3 : (0 : Int) ≤ ((i + 1 : Nat) : Int) := by omega
    refine wayC (by omega) c fun _ _ => wayEq (fun c2 => ⟨rfl, by simp only [List.length_cons, List.length_nil]; omega, rfl, hlt, ⟨⟨h3, rfl, hn⟩, ?_⟩, ?_⟩) fun c2 => ⟨rfl, hlt, ⟨⟨h3, rfl, hn⟩, ?_⟩, ?_⟩
    · show (xs ++ [(⟨(ri l i).Z, (ri l i).P⟩ : Knot)]).length + l.length ≤ 3000 + (i + 1)
      simp only [List.length_append, List.length_cons, List.length_nil]
      omega
    · rw [if_pos c2] at hK
      show K (.exit 2, [.l 78 ((xs ++ [(⟨(ri l i).Z, (ri l i).P⟩ : Knot)]) ++ ptR kind (l.drop (i + 1)))])
      rw [List.append_assoc]
      exact hK
    · show xs.length + l.length ≤ 3000 + (i + 1)
      omega
    · rw [if_neg c2] at hK
      exact hK
  · rw [List.drop_eq_nil_of_le (by omega), show ptR kind [] = [] from rfl, List.append_nil] at hK
    exact ⟨rfl, hK⟩
theorem h127b : LoopH Try.prog E c127b 0 (bodyX Try.prog E ctB noLoops 1000 5 L0 (lpOf Try.prog 127 1)) :=
  ⟨fun d => ((d.2.2.1.length : Int) - d.2.2.2.2.1).toNat, fun d K hK => by
    obtain ⟨xs, kind, l, n, i, ⟨⟩⟩ := d
    obtain ⟨⟨⟨k1, k2, k3⟩, k4⟩, k5⟩ := hK
    obtain ⟨m, hm⟩ := Int.eq_ofNat_of_zero_le k1
    obtain rfl : i = (m : Int) := hm
    obtain rfl : n = ((l : List Report).length : Int) := k2
    refine Tree.holds_mono (fun y hy => ?_) (h127b' xs kind l m K k3 k4 k5)
    cases y with
    | inl d' => exact hy
    | inr y => exact hy⟩
theorem h101b' (xs : List Knot) (kind : Int) (l : List Report) (i : Nat) (b : Int) (p q r s : List Knot) (x y : Int) (K : Ex × List (V T) → Prop) (hn : l.length ≤ 1000) (hl : xs.length + l.length ≤ 3000 + i) (hK : K (.exit 2, [.l 78 (xs ++ ptR kind (l.drop i))])) :
    (bodyD Try.prog E c101b 0 (bodyX Try.prog E ctB noLoops 1000 5 L0 (lpOf Try.prog 101 1)) (xs, kind, (i : Int), b, p, q, r, s, x, y, l, ())).holds fun y => match y with
    | .inl d => ((d.2.2.2.2.2.2.2.2.2.2.1.length : Int) - d.2.2.1).toNat < ((l.length : Int) - (i : Int)).toNat ∧ (c101b.out d).holds K
    | .inr y => K y := by
  rw [b101b]
  refine way (fun c => ?_) fun c => ?_
  · have e2 : IntKind.wrap IntKind.i64 ((i : Int) + 1) = ((i + 1 : Nat) : Int) := i64_in' (by omega) (by omega)
    rw [e2]
    rw [drop_ri (by omega), ptR_cons] at hK
    have hlt : ((l.length : Int) - ((i + 1 : Nat) : Int)).toNat < ((l.length : Int) - (i : Int)).toNat := by omega
    have h3 : (0 : Int) ≤ ((i + 1 : Nat) : Int) := by omega
    refine wayC (by omega) c fun _ _ => wayEq (fun c2 => wayC (by omega) c fun _ _ => wayC (by omega) c fun _ _ => ⟨rfl, by simp only [List.length_cons, List.length_nil]; omega, rfl, hlt, ⟨⟨h3, rfl, hn⟩, ?_⟩, ?_⟩) fun c2 => ⟨rfl, hlt, ⟨⟨h3, rfl, hn⟩, ?_⟩, ?_⟩
    · show (xs ++ [(⟨(ri l i).Z, (ri l i).P⟩ : Knot)]).length + l.length ≤ 3000 + (i + 1)
      simp only [List.length_append, List.length_cons, List.length_nil]
      omega
    · rw [if_pos c2] at hK
      show K (.exit 2, [.l 78 ((xs ++ [(⟨(ri l i).Z, (ri l i).P⟩ : Knot)]) ++ ptR kind (l.drop (i + 1)))])
      rw [List.append_assoc]
      exact hK
    · show xs.length + l.length ≤ 3000 + (i + 1)
      omega
    · rw [if_neg c2] at hK
      exact hK
  · rw [List.drop_eq_nil_of_le (by omega), show ptR kind [] = [] from rfl, List.append_nil] at hK
    exact ⟨rfl, hK⟩
theorem h101b : LoopH Try.prog E c101b 0 (bodyX Try.prog E ctB noLoops 1000 5 L0 (lpOf Try.prog 101 1)) :=
  ⟨fun d => ((d.2.2.2.2.2.2.2.2.2.2.1.length : Int) - d.2.2.1).toNat, fun d K hK => by
    obtain ⟨xs, kind, i, b, p, q, r, s, x, y, l, ⟨⟩⟩ := d
    obtain ⟨⟨⟨k1, k2, k3⟩, k4⟩, k5⟩ := hK
    obtain ⟨m, hm⟩ := Int.eq_ofNat_of_zero_le k1
    obtain rfl : i = (m : Int) := hm
    refine Tree.holds_mono (fun y hy => ?_) (h101b' xs kind l m b p q r s x y K k3 k4 k5)
    cases y with
    | inl d' => exact hy
    | inr y => exact hy⟩
theorem ll127 : LLOk Try.prog E (llOf Try.prog E 127 [(3, c127a), (9, c127b)]) := llOf_ok fun i hi c hc => by
  have hi : i < 2 := hi
  have : i = 0 ∨ i = 1 := by omega
  rcases this with rfl | rfl
  · obtain rfl : c127a = c := Option.some.inj hc
    exact LSnd.mk good names mixes ctB_ok (by decide) h127a
  · obtain rfl : c127b = c := Option.some.inj hc
    exact LSnd.mk good names mixes ctB_ok (by decide) h127b
theorem tv127 (e : Earth) (l : List Knot) (k : Int) : runX ctB (llOf Try.prog E 127 [(3, c127a), (9, c127b)]) 127 [e.av, (⟨l⟩ : Line).av, .sym .i64 k] [22] =
  (.req (((0 : Int) ≤ (0 : Int) ∧ (↑(List.length l) : Int) = (↑(List.length l) : Int) ∧ List.length l ≤ (1000 : Nat)) ∧ (0 : Nat) + List.length l ≤ (1000 : Nat) + Int.toNat (0 : Int))
  (.req (List.length ([] ++ ptK (Earth.Bottom e) (List.drop (Int.toNat (0 : Int)) l)) = List.length ([] ++ ptK (Earth.Bottom e) (List.drop (Int.toNat (0 : Int)) l)))
  (.req (((0 : Int) ≤ (0 : Int) ∧ (↑(List.length (Earth.Reports e)) : Int) = (↑(List.length (Earth.Reports e)) : Int) ∧ List.length (Earth.Reports e) ≤ (1000 : Nat)) ∧ List.length ([] ++ ptK (Earth.Bottom e) (List.drop (Int.toNat (0 : Int)) l)) + List.length (Earth.Reports e) ≤ (3000 : Nat) + Int.toNat (0 : Int))
  (.req (List.length ([] ++ ptK (Earth.Bottom e) (List.drop (Int.toNat (0 : Int)) l) ++ ptR k (List.drop (Int.toNat (0 : Int)) (Earth.Reports e))) = List.length ([] ++ ptK (Earth.Bottom e) (List.drop (Int.toNat (0 : Int)) l) ++ ptR k (List.drop (Int.toNat (0 : Int)) (Earth.Reports e))))
  (.leaf (.sl (78 : Nat) ([] ++ ptK (Earth.Bottom e) (List.drop (Int.toNat (0 : Int)) l) ++ ptR k (List.drop (Int.toNat (0 : Int)) (Earth.Reports e))) false)))))) := by kernel_rfl
theorem s127 (e : Earth) (l : List Knot) (k : Int) (h : l.length ≤ 900 ∧ e.Reports.length ≤ 900) : (runX ctB (llOf Try.prog E 127 [(3, c127a), (9, c127b)]) 127 [e.av, (⟨l⟩ : Line).av, .sym .i64 k] [22]).holds fun v => v = .sl 78 (ptK e.Bottom l ++ ptR k e.Reports) false := by
  rw [tv127]
  have h1 := ptK_len (b := e.Bottom) (l := l)
  refine ⟨⟨⟨by decide, rfl, by omega⟩, by (try simp only [List.length_nil]); omega⟩, rfl, ⟨⟨by decide, rfl, by omega⟩, ?_⟩, rfl, rfl⟩
  show (ptK e.Bottom l).length + e.Reports.length ≤ 3000 + 0
  omega
theorem ll101 : LLOk Try.prog E (llOf Try.prog E 101 [(3, c101a), (8, c101b)]) := llOf_ok fun i hi c hc => by
  have hi : i < 2 := hi
  have : i = 0 ∨ i = 1 := by omega
  rcases this with rfl | rfl
  · obtain rfl : c101a = c := Option.some.inj hc
    exact LSnd.mk good names mixes ctB_ok (by decide) h101a
  · obtain rfl : c101b = c := Option.some.inj hc
    exact LSnd.mk good names mixes ctB_ok (by decide) h101b
theorem tv101 (e : Earth) (l : List Knot) (k : Int) : runX ctB (llOf Try.prog E 101 [(3, c101a), (8, c101b)]) 101 [e.av, (⟨l⟩ : Line).av, .sym .i64 k] [22] =
  (.req (((0 : Int) ≤ (0 : Int) ∧ (↑(List.length l) : Int) = (↑(List.length l) : Int) ∧ List.length l ≤ (1000 : Nat)) ∧ (0 : Nat) + List.length l ≤ (1000 : Nat) + Int.toNat (0 : Int))
  (.req (List.length ([] ++ ptK (Earth.Bottom e) (List.drop (Int.toNat (0 : Int)) l)) = List.length ([] ++ ptK (Earth.Bottom e) (List.drop (Int.toNat (0 : Int)) l)))
  (.req (((0 : Int) ≤ (0 : Int) ∧ (↑(List.length (Earth.Reports e)) : Int) = (↑(List.length (Earth.Reports e)) : Int) ∧ List.length (Earth.Reports e) ≤ (1000 : Nat)) ∧ List.length ([] ++ ptK (Earth.Bottom e) (List.drop (Int.toNat (0 : Int)) l)) + List.length (Earth.Reports e) ≤ (3000 : Nat) + Int.toNat (0 : Int))
  (.req (List.length ([] ++ ptK (Earth.Bottom e) (List.drop (Int.toNat (0 : Int)) l) ++ ptR k (List.drop (Int.toNat (0 : Int)) (Earth.Reports e))) = List.length ([] ++ ptK (Earth.Bottom e) (List.drop (Int.toNat (0 : Int)) l) ++ ptR k (List.drop (Int.toNat (0 : Int)) (Earth.Reports e))))
  (.leaf (.sl (78 : Nat) ([] ++ ptK (Earth.Bottom e) (List.drop (Int.toNat (0 : Int)) l) ++ ptR k (List.drop (Int.toNat (0 : Int)) (Earth.Reports e))) false)))))) := by kernel_rfl
theorem s101 (e : Earth) (l : List Knot) (k : Int) (h : l.length ≤ 900 ∧ e.Reports.length ≤ 900) : (runX ctB (llOf Try.prog E 101 [(3, c101a), (8, c101b)]) 101 [e.av, (⟨l⟩ : Line).av, .sym .i64 k] [22]).holds fun v => v = .sl 78 (ptK e.Bottom l ++ ptR k e.Reports) false := by
  rw [tv101]
  have h1 := ptK_len (b := e.Bottom) (l := l)
  refine ⟨⟨⟨by decide, rfl, by omega⟩, by (try simp only [List.length_nil]); omega⟩, rfl, ⟨⟨by decide, rfl, by omega⟩, ?_⟩, rfl, rfl⟩
  show (ptK e.Bottom l).length + e.Reports.length ≤ 3000 + 0
  omega
noncomputable def cPts : Con T := conP Try.prog [shE, .agg [.s 78], .one (.i .i64)] [.n, .l 78, .l 78, .l 78, .l 78, .n, .n, .l 55, .l 78, .n] (fun d => (d.2.2.2.2.2.2.2.2.1 : List Knot).length ≤ 900 ∧ (d.2.2.2.2.2.2.2.1 : List Report).length ≤ 900) fun d => .sl 78 (ptK d.1 d.2.2.2.2.2.2.2.2.1 ++ ptR d.2.2.2.2.2.2.2.2.2.1 d.2.2.2.2.2.2.2.1) false
theorem pts_ok : ConOk Try.prog E 127 cPts := conP_ok fun d hd => fact_run ctB_ok ll127 (ts := [22]) rfl (s127 ⟨d.1, ⟨d.2.1⟩, ⟨d.2.2.1⟩, ⟨d.2.2.2.1⟩, ⟨d.2.2.2.2.1⟩, d.2.2.2.2.2.1, d.2.2.2.2.2.2.1, d.2.2.2.2.2.2.2.1⟩ d.2.2.2.2.2.2.2.2.1 d.2.2.2.2.2.2.2.2.2.1 hd)
theorem pts2_ok : ConOk Try.prog E 101 cPts := conP_ok fun d hd => fact_run ctB_ok ll101 (ts := [22]) rfl (s101 ⟨d.1, ⟨d.2.1⟩, ⟨d.2.2.1⟩, ⟨d.2.2.2.1⟩, ⟨d.2.2.2.2.1⟩, d.2.2.2.2.2.1, d.2.2.2.2.2.2.1, d.2.2.2.2.2.2.2.1⟩ d.2.2.2.2.2.2.2.2.1 d.2.2.2.2.2.2.2.2.2.1 hd)
end Go.Proofs.Ytdlholmphenhhaa.W
end

set_option linter.unusedVariables false
set_option maxRecDepth 100000
noncomputable section
namespace Go.Proofs.Ytdlholmphenhhaa.W
open Go Go.Cx Go.RowKit
noncomputable def fdK (pk : Int → Int → Int) (f : Knot → Int) (a : Int) : List Knot → Int
  | [] => a
  | k :: l => fdK pk f (pk a (f k)) l
theorem fdK_cons {pk : Int → Int → Int} {f : Knot → Int} {a : Int} {k : Knot} {l : List Knot} : fdK pk f a (k :: l) = fdK pk f (pk a (f k)) l := rfl
noncomputable def up (glo ghi z : Int) (k : Knot) : Int := if z < k.At then k.V - glo * (k.At - z) else k.V + ghi * (z - k.At)
noncomputable def dn (glo ghi z : Int) (k : Knot) : Int := if z < k.At then k.V - ghi * (k.At - z) else k.V + glo * (z - k.At)
@[reducible] def kOk (k : Knot) : Prop := (0 ≤ k.At ∧ k.At ≤ 1048576) ∧ 0 ≤ k.V ∧ k.V ≤ 68719476736
@[reducible] def gOk (glo ghi z : Int) : Prop := (0 ≤ z ∧ z ≤ 1048576) ∧ (0 ≤ glo ∧ glo ≤ 40000) ∧ 0 ≤ ghi ∧ ghi ≤ 40000
theorem g_lt {g z : Int} {k : Knot} (hk : kOk k) (hg : 0 ≤ g ∧ g ≤ 40000) (hz : 0 ≤ z ∧ z ≤ 1048576) (h : z < k.At) : IntKind.wrap IntKind.i64 (k.At - z) = k.At - z ∧ IntKind.wrap IntKind.i64 (g * (k.At - z)) = g * (k.At - z) ∧ IntKind.wrap IntKind.i64 (k.V - g * (k.At - z)) = k.V - g * (k.At - z) := by
  have m := mulb hg.1 hg.2 (show 0 ≤ k.At - z by omega) (show k.At - z ≤ 1048576 by omega)
  exact ⟨i64_in' (by omega) (by omega), i64_in' (by omega) (by omega), i64_in' (by omega) (by omega)⟩
theorem g_ge {g z : Int} {k : Knot} (hk : kOk k) (hg : 0 ≤ g ∧ g ≤ 40000) (hz : 0 ≤ z ∧ z ≤ 1048576) (h : k.At ≤ z) : IntKind.wrap IntKind.i64 (z - k.At) = z - k.At ∧ IntKind.wrap IntKind.i64 (g * (z - k.At)) = g * (z - k.At) ∧ IntKind.wrap IntKind.i64 (k.V + g * (z - k.At)) = k.V + g * (z - k.At) := by
  have m := mulb hg.1 hg.2 (show 0 ≤ z - k.At by omega) (show z - k.At ≤ 1048576 by omega)
  exact ⟨i64_in' (by omega) (by omega), i64_in' (by omega) (by omega), i64_in' (by omega) (by omega)⟩
theorem fdK_mn {f : Knot → Int} {c : Int} : ∀ (l : List Knot) (a : Int), fdK mn f (mn a c) l = mn (fdK mn f a l) c
  | [], a => rfl
  | k :: l, a => by
    rw [fdK_cons, fdK_cons, ← fdK_mn l]
    congr 1
    unfold mn
    repeat' split
    all_goals omega
theorem fdK_mx {f : Knot → Int} {c : Int} : ∀ (l : List Knot) (a : Int), fdK mx f (mx a c) l = mx (fdK mx f a l) c
  | [], a => rfl
  | k :: l, a => by
    rw [fdK_cons, fdK_cons, ← fdK_mx l]
    congr 1
    unfold mx
    repeat' split
    all_goals omega
@[reducible] noncomputable def shC : List Sh0 := [.i .i64, .s 78, .s 78, .s 78, .s 78, .i .i64, .i .i64, .s 55]
@[reducible] def lOk (glo ghi z : Int) (l : List Knot) : Prop := gOk glo ghi z ∧ (∀ k ∈ l, kOk k) ∧ l.length ≤ 3000

/-! ### up -/
noncomputable def o126up (a z glo ghi : Int) (l : List Knot) (n i : Int) : Tree (Ex × List (V T)) :=
  .req ((0 ≤ i ∧ n = l.length) ∧ lOk glo ghi z l) (.leaf (.exit 0, [.n (fdK mn (up glo ghi z) a (l.drop i.toNat))]))
noncomputable def c126up : LoopC T := ⟨[.n, .n, .n, .l 78, .l 78, .l 78, .l 78, .n, .n, .l 55, .l 78, .n, .n], ⟨21, [(1, .one (.i .i64)), (2, .fn 129 [.r [.i .i64], .r shC]), (9, .one (.s 78)), (10, .one (.i .i64)), (11, .one (.i .i64))], []⟩,
  fun _ => ⟨21, [(1, .one (.i .i64))], []⟩, 10, fun d => o126up d.1 d.2.1 d.2.2.2.2.2.2.2.1 d.2.2.2.2.2.2.2.2.1 d.2.2.2.2.2.2.2.2.2.2.1 d.2.2.2.2.2.2.2.2.2.2.2.1 d.2.2.2.2.2.2.2.2.2.2.2.2.1⟩
theorem b126up (a z b : Int) (p q r s : List Knot) (glo ghi : Int) (rs : List Report) (l : List Knot) (n i : Int) : bodyD Try.prog E c126up 0 (bodyX Try.prog E ctB noLoops 1000 5 L0 (lpOf Try.prog 126 0)) (a, z, b, p, q, r, s, glo, ghi, rs, l, n, i, ()) =
  (.br (decide (i < n))
   (.req ((decide ((0 : Int) ≤ i) && decide (i < (↑(List.length l) : Int))) = true)
   (.br (decide (z < Knot.At (kn l i)))
    (.leaf (.inl (bif false then if IntKind.wrap IntKind.i64 (Knot.V (kn l i) - IntKind.wrap IntKind.i64 (glo * IntKind.wrap IntKind.i64 (Knot.At (kn l i) - z))) > a then IntKind.wrap IntKind.i64 (Knot.V (kn l i) - IntKind.wrap IntKind.i64 (glo * IntKind.wrap IntKind.i64 (Knot.At (kn l i) - z))) else a else if IntKind.wrap IntKind.i64 (Knot.V (kn l i) - IntKind.wrap IntKind.i64 (glo * IntKind.wrap IntKind.i64 (Knot.At (kn l i) - z))) < a then IntKind.wrap IntKind.i64 (Knot.V (kn l i) - IntKind.wrap IntKind.i64 (glo * IntKind.wrap IntKind.i64 (Knot.At (kn l i) - z))) else a, (z, (b, (p, (q, (r, (s, (glo, (ghi, (rs, (l, (n, (IntKind.wrap IntKind.i64 (i + (1 : Int)), ())))))))))))))))
    (.leaf (.inl (bif false then if IntKind.wrap IntKind.i64 (Knot.V (kn l i) + IntKind.wrap IntKind.i64 (ghi * IntKind.wrap IntKind.i64 (z - Knot.At (kn l i)))) > a then IntKind.wrap IntKind.i64 (Knot.V (kn l i) + IntKind.wrap IntKind.i64 (ghi * IntKind.wrap IntKind.i64 (z - Knot.At (kn l i)))) else a else if IntKind.wrap IntKind.i64 (Knot.V (kn l i) + IntKind.wrap IntKind.i64 (ghi * IntKind.wrap IntKind.i64 (z - Knot.At (kn l i)))) < a then IntKind.wrap IntKind.i64 (Knot.V (kn l i) + IntKind.wrap IntKind.i64 (ghi * IntKind.wrap IntKind.i64 (z - Knot.At (kn l i)))) else a, (z, (b, (p, (q, (r, (s, (glo, (ghi, (rs, (l, (n, (IntKind.wrap IntKind.i64 (i + (1 : Int)), ())))))))))))))))))
   (.leaf (.inr (.exit (0 : Nat), [.n (a)])))) := by kernel_rfl
theorem h126up' (a z b : Int) (p q r s : List Knot) (glo ghi : Int) (rs : List Report) (l : List Knot) (i : Nat) (K : Ex × List (V T) → Prop) (hl : lOk glo ghi z l) (hK : K (.exit 0, [.n (fdK mn (up glo ghi z) a (l.drop i))])) :
    (bodyD Try.prog E c126up 0 (bodyX Try.prog E ctB noLoops 1000 5 L0 (lpOf Try.prog 126 0)) (a, z, b, p, q, r, s, glo, ghi, rs, l, (l.length : Int), (i : Int), ())).holds fun y => match y with
    | .inl d => ((d.2.2.2.2.2.2.2.2.2.2.1.length : Int) - d.2.2.2.2.2.2.2.2.2.2.2.2.1).toNat < ((l.length : Int) - (i : Int)).toNat ∧ (c126up.out d).holds K
    | .inr y => K y := by
  rw [b126up]
  obtain ⟨hg, hk, hn⟩ := hl
  refine way (fun c => wayC (by omega) c fun _ _ => ?_) fun c => ?_
  · have e2 : IntKind.wrap IntKind.i64 ((i : Int) + 1) = ((i + 1 : Nat) : Int) := i64_in' (by omega) (by omega)
    rw [e2]
    rw [drop_kn (by omega), fdK_cons] at hK
    have ko := hk _ (kn_mem (l := l) (i := i) (by omega))
    have hlt : ((l.length : Int) - ((i + 1 : Nat) : Int)).toNat < ((l.length : Int) - (i : Int)).toNat := by omega
    have h3 : (0 : Int) ≤ ((i + 1 : Nat) : Int) := by omega
    refine way (fun k => ?_) fun k => ?_
    · obtain ⟨w1, w2, w3⟩ := g_lt (g := glo) ko (by omega) hg.1 k
      rw [w1, w2, w3]
      refine ⟨hlt, ⟨⟨h3, rfl⟩, hg, hk, hn⟩, ?_⟩
      unfold up at hK
      rw [if_pos k] at hK
      exact hK
    · obtain ⟨w1, w2, w3⟩ := g_ge (g := ghi) ko (by omega) hg.1 (show (kn l i).At ≤ z by omega)
      rw [w1, w2, w3]
      refine ⟨hlt, ⟨⟨h3, rfl⟩, hg, hk, hn⟩, ?_⟩
      unfold up at hK
      rw [if_neg k] at hK
      exact hK
  · rw [List.drop_eq_nil_of_le (by omega)] at hK
    exact hK
theorem h126up : LoopH Try.prog E c126up 0 (bodyX Try.prog E ctB noLoops 1000 5 L0 (lpOf Try.prog 126 0)) :=
  ⟨fun d => ((d.2.2.2.2.2.2.2.2.2.2.1.length : Int) - d.2.2.2.2.2.2.2.2.2.2.2.2.1).toNat, fun d K hK => by
    obtain ⟨a, z, b, p, q, r, s, glo, ghi, rs, l, n, i, ⟨⟩⟩ := d
    obtain ⟨⟨⟨k1, k2⟩, k3⟩, k4⟩ := hK
    obtain ⟨m, hm⟩ := Int.eq_ofNat_of_zero_le k1
    obtain rfl : i = (m : Int) := hm
    obtain rfl : n = ((l : List Knot).length : Int) := k2
    refine Tree.holds_mono (fun y hy => ?_) (h126up' a z b p q r s glo ghi rs l m K k3 k4)
    cases y with
    | inl d' => exact hy
    | inr y => exact hy⟩
theorem ll126up : LLOk Try.prog E (llOf Try.prog E 126 [(2, c126up)]) := llOf_ok fun i hi c hc => by
  have hi : i < 1 := hi
  obtain rfl : i = 0 := by omega
  obtain rfl : c126up = c := Option.some.inj hc
  exact LSnd.mk good names mixes ctB_ok (by decide) h126up
theorem tv126up (l : List Knot) (a z : Int) (e : Earth) : runX ctB (llOf Try.prog E 126 [(2, c126up)]) 126 [.sl 78 l false, i64 a, .fn 129 [.rp [i64 z], .rp e.cs]] [2] =
  (.req (((0 : Int) ≤ (0 : Int) ∧ (↑(List.length l) : Int) = (↑(List.length l) : Int)) ∧ lOk (Earth.GLo e) (Earth.GHi e) z l)
  (.leaf (.sym .i64 (fdK mn (up (Earth.GLo e) (Earth.GHi e) z) a (List.drop (Int.toNat (0 : Int)) l))))) := by kernel_rfl
theorem s126up (l : List Knot) (a z : Int) (e : Earth) (h : lOk e.GLo e.GHi z l) : (runX ctB (llOf Try.prog E 126 [(2, c126up)]) 126 [.sl 78 l false, i64 a, .fn 129 [.rp [i64 z], .rp e.cs]] [2]).holds fun v => v = i64 (fdK mn (up e.GLo e.GHi z) a l) := by
  rw [tv126up]
  exact ⟨⟨⟨by decide, rfl⟩, h⟩, rfl⟩
noncomputable def cFoldKup : Con T := conFP Try.prog E [22, 2, 138] [.one (.s 78), .one (.i .i64), .fn 129 [.r [.i .i64], .r shC]] [.l 78, .n, .n, .n, .l 78, .l 78, .l 78, .l 78, .n, .n, .l 55] (fun d => lOk d.2.2.2.2.2.2.2.2.1 d.2.2.2.2.2.2.2.2.2.1 d.2.2.1 d.1) fun d => i64 (fdK mn (up d.2.2.2.2.2.2.2.2.1 d.2.2.2.2.2.2.2.2.2.1 d.2.2.1) d.2.1 d.1)
theorem okFoldKup : ConOk Try.prog E 126 cFoldKup := conFP_ok good decOk fun d hd => fact_run3 ctB_ok ll126up (ts := [2]) rfl (s126up d.1 d.2.1 d.2.2.1 ⟨d.2.2.2.1, ⟨d.2.2.2.2.1⟩, ⟨d.2.2.2.2.2.1⟩, ⟨d.2.2.2.2.2.2.1⟩, ⟨d.2.2.2.2.2.2.2.1⟩, d.2.2.2.2.2.2.2.2.1, d.2.2.2.2.2.2.2.2.2.1, d.2.2.2.2.2.2.2.2.2.2.1⟩ hd)
/-- The reference. -/
noncomputable def o100up (l : List Knot) (z a i glo ghi : Int) : Tree (Ex × List (V T)) :=
  .req (0 ≤ i ∧ lOk glo ghi z l) (.leaf (.exit 0, [.n (fdK mn (up glo ghi z) a (l.drop i.toNat))]))
noncomputable def c100up : LoopC T := ⟨[.l 78, .n, .n, .n, .n, .l 78, .l 78, .l 78, .l 78, .n, .n, .l 55], ⟨60, [(1, .one (.s 78)), (2, .one (.i .i64)), (3, .one (.i .i64)), (4, .one (.o 0 0)), (9, .one (.i .i64))], [.c cellsE]⟩,
  fun _ => ⟨60, [(3, .one (.i .i64))], []⟩, 10, fun d => o100up d.1 d.2.1 d.2.2.1 d.2.2.2.1 d.2.2.2.2.2.2.2.2.2.1 d.2.2.2.2.2.2.2.2.2.2.1⟩
theorem b100up (l : List Knot) (z a i b : Int) (p q r s : List Knot) (glo ghi : Int) (rs : List Report) : bodyD Try.prog E c100up 0 (bodyX Try.prog E ctB noLoops 1000 5 L0 (lpOf Try.prog 100 0)) (l, z, a, i, b, p, q, r, s, glo, ghi, rs, ()) =
  (.br (decide (i < (↑(List.length l) : Int)))
   (.req ((decide ((0 : Int) ≤ i) && decide (i < (↑(List.length l) : Int))) = true)
   (.br (decide (z ≥ Knot.At (kn l i)))
    (.req ((decide ((0 : Int) ≤ i) && decide (i < (↑(List.length l) : Int))) = true)
    (.req ((decide ((0 : Int) ≤ i) && decide (i < (↑(List.length l) : Int))) = true)
    (.leaf (.inl (l, (z, (bif false then if IntKind.wrap IntKind.i64 (Knot.V (kn l i) + IntKind.wrap IntKind.i64 (ghi * IntKind.wrap IntKind.i64 (z - Knot.At (kn l i)))) > a then IntKind.wrap IntKind.i64 (Knot.V (kn l i) + IntKind.wrap IntKind.i64 (ghi * IntKind.wrap IntKind.i64 (z - Knot.At (kn l i)))) else a else if IntKind.wrap IntKind.i64 (Knot.V (kn l i) + IntKind.wrap IntKind.i64 (ghi * IntKind.wrap IntKind.i64 (z - Knot.At (kn l i)))) < a then IntKind.wrap IntKind.i64 (Knot.V (kn l i) + IntKind.wrap IntKind.i64 (ghi * IntKind.wrap IntKind.i64 (z - Knot.At (kn l i)))) else a, (IntKind.wrap IntKind.i64 (i + (1 : Int)), (b, (p, (q, (r, (s, (glo, (ghi, (rs, ()))))))))))))))))
    (.req ((decide ((0 : Int) ≤ i) && decide (i < (↑(List.length l) : Int))) = true)
    (.req ((decide ((0 : Int) ≤ i) && decide (i < (↑(List.length l) : Int))) = true)
    (.leaf (.inl (l, (z, (bif false then if IntKind.wrap IntKind.i64 (Knot.V (kn l i) - IntKind.wrap IntKind.i64 (glo * IntKind.wrap IntKind.i64 (Knot.At (kn l i) - z))) > a then IntKind.wrap IntKind.i64 (Knot.V (kn l i) - IntKind.wrap IntKind.i64 (glo * IntKind.wrap IntKind.i64 (Knot.At (kn l i) - z))) else a else if IntKind.wrap IntKind.i64 (Knot.V (kn l i) - IntKind.wrap IntKind.i64 (glo * IntKind.wrap IntKind.i64 (Knot.At (kn l i) - z))) < a then IntKind.wrap IntKind.i64 (Knot.V (kn l i) - IntKind.wrap IntKind.i64 (glo * IntKind.wrap IntKind.i64 (Knot.At (kn l i) - z))) else a, (IntKind.wrap IntKind.i64 (i + (1 : Int)), (b, (p, (q, (r, (s, (glo, (ghi, (rs, ()))))))))))))))))))
   (.leaf (.inr (.exit (0 : Nat), [.n (a)])))) := by kernel_rfl
theorem h100up' (l : List Knot) (z a : Int) (i : Nat) (b : Int) (p q r s : List Knot) (glo ghi : Int) (rs : List Report) (K : Ex × List (V T) → Prop) (hl : lOk glo ghi z l) (hK : K (.exit 0, [.n (fdK mn (up glo ghi z) a (l.drop i))])) :
    (bodyD Try.prog E c100up 0 (bodyX Try.prog E ctB noLoops 1000 5 L0 (lpOf Try.prog 100 0)) (l, z, a, (i : Int), b, p, q, r, s, glo, ghi, rs, ())).holds fun y => match y with
    | .inl d => ((d.1.length : Int) - d.2.2.2.1).toNat < ((l.length : Int) - (i : Int)).toNat ∧ (c100up.out d).holds K
    | .inr y => K y := by
  rw [b100up]
  obtain ⟨hg, hk, hn⟩ := hl
  refine way (fun c => wayC (by omega) c fun _ _ => ?_) fun c => ?_
  · have e2 : IntKind.wrap IntKind.i64 ((i : Int) + 1) = ((i + 1 : Nat) : Int) := i64_in' (by omega) (by omega)
    rw [e2]
    rw [drop_kn (by omega), fdK_cons] at hK
    have ko := hk _ (kn_mem (l := l) (i := i) (by omega))
    have hlt : ((l.length : Int) - ((i + 1 : Nat) : Int)).toNat < ((l.length : Int) - (i : Int)).toNat := by omega
    have h3 : (0 : Int) ≤ ((i + 1 : Nat) : Int) := by omega
    refine way (fun k => wayC (by omega) c fun _ _ => wayC (by omega) c fun _ _ => ?_) fun k => wayC (by omega) c fun _ _ => wayC (by omega) c fun _ _ => ?_
    · obtain ⟨w1, w2, w3⟩ := g_ge (g := ghi) ko (by omega) hg.1 (show (kn l i).At ≤ z by omega)
      rw [w1, w2, w3]
      refine ⟨hlt, ⟨h3, hg, hk, hn⟩, ?_⟩
      unfold up at hK
      rw [if_neg (by omega)] at hK
      exact hK
    · obtain ⟨w1, w2, w3⟩ := g_lt (g := glo) ko (by omega) hg.1 (show z < (kn l i).At by omega)
      rw [w1, w2, w3]
      refine ⟨hlt, ⟨h3, hg, hk, hn⟩, ?_⟩
      unfold up at hK
      rw [if_pos (by omega)] at hK
      exact hK
  · rw [List.drop_eq_nil_of_le (by omega)] at hK
    exact hK
theorem h100up : LoopH Try.prog E c100up 0 (bodyX Try.prog E ctB noLoops 1000 5 L0 (lpOf Try.prog 100 0)) :=
  ⟨fun d => ((d.1.length : Int) - d.2.2.2.1).toNat, fun d K hK => by
    obtain ⟨l, z, a, i, b, p, q, r, s, glo, ghi, rs, ⟨⟩⟩ := d
    obtain ⟨⟨k1, k3⟩, k4⟩ := hK
    obtain ⟨m, hm⟩ := Int.eq_ofNat_of_zero_le k1
    obtain rfl : i = (m : Int) := hm
    refine Tree.holds_mono (fun y hy => ?_) (h100up' l z a m b p q r s glo ghi rs K k3 k4)
    cases y with
    | inl d' => exact hy
    | inr y => exact hy⟩
theorem ll100up : LLOk Try.prog E (llOf Try.prog E 100 [(2, c100up)]) := llOf_ok fun i hi c hc => by
  have hi : i < 1 := hi
  obtain rfl : i = 0 := by omega
  obtain rfl : c100up = c := Option.some.inj hc
  exact LSnd.mk good names mixes ctB_ok (by decide) h100up
theorem tv100up (e : Earth) (l : List Knot) (z a : Int) : runX ctB (llOf Try.prog E 100 [(2, c100up)]) 100 [e.av, .sl 78 l false, i64 z, i64 a] [2] =
  (.req ((0 : Int) ≤ (0 : Int) ∧ lOk (Earth.GLo e) (Earth.GHi e) z l)
  (.leaf (.sym .i64 (fdK mn (up (Earth.GLo e) (Earth.GHi e) z) a (List.drop (Int.toNat (0 : Int)) l))))) := by kernel_rfl
theorem s100up (e : Earth) (l : List Knot) (z a : Int) (h : lOk e.GLo e.GHi z l) : (runX ctB (llOf Try.prog E 100 [(2, c100up)]) 100 [e.av, .sl 78 l false, i64 z, i64 a] [2]).holds fun v => v = i64 (fdK mn (up e.GLo e.GHi z) a l) := by
  rw [tv100up]
  exact ⟨⟨by decide, h⟩, rfl⟩
noncomputable def cRefup : Con T := conP Try.prog [shE, .one (.s 78), .one (.i .i64), .one (.i .i64)] [.n, .l 78, .l 78, .l 78, .l 78, .n, .n, .l 55, .l 78, .n, .n] (fun d => lOk d.2.2.2.2.2.1 d.2.2.2.2.2.2.1 d.2.2.2.2.2.2.2.2.2.1 d.2.2.2.2.2.2.2.2.1) fun d => i64 (fdK mn (up d.2.2.2.2.2.1 d.2.2.2.2.2.2.1 d.2.2.2.2.2.2.2.2.2.1) d.2.2.2.2.2.2.2.2.2.2.1 d.2.2.2.2.2.2.2.2.1)
theorem okRefup : ConOk Try.prog E 100 cRefup := conP_ok fun d hd => fact_run ctB_ok ll100up (ts := [2]) rfl (s100up ⟨d.1, ⟨d.2.1⟩, ⟨d.2.2.1⟩, ⟨d.2.2.2.1⟩, ⟨d.2.2.2.2.1⟩, d.2.2.2.2.2.1, d.2.2.2.2.2.2.1, d.2.2.2.2.2.2.2.1⟩ d.2.2.2.2.2.2.2.2.1 d.2.2.2.2.2.2.2.2.2.1 d.2.2.2.2.2.2.2.2.2.2.1 hd)
noncomputable def ctFup : CTab T := (127, cPts) :: (101, cPts) :: (126, cFoldKup) :: (100, cRefup) :: ctB
theorem ctFup_ok : CTabOk Try.prog E ctFup := .cons pts_ok (.cons pts2_ok (.cons okFoldKup (.cons okRefup ctB_ok)))
theorem tv113up (e : Earth) (l : List Knot) (k z : Int) : runX ctFup noLoops 113 [e.av, (⟨l⟩ : Line).av, .sym .i64 k, i64 z] [2] =
  (.req (List.length l ≤ (900 : Nat) ∧ List.length (Earth.Reports e) ≤ (900 : Nat))
  (.req (isR l)
  (.req (lOk (Earth.GLo e) (Earth.GHi e) z (ptK (Earth.Bottom e) l ++ ptR k (Earth.Reports e)))
  (.leaf (.sym .i64 (fdK mn (up (Earth.GLo e) (Earth.GHi e) z) (valHi l z) (ptK (Earth.Bottom e) l ++ ptR k (Earth.Reports e)))))))) := by kernel_rfl
noncomputable def pts (e : Earth) (l : List Knot) (k : Int) : List Knot := ptK e.Bottom l ++ ptR k e.Reports
noncomputable def pre113up (e : Earth) (l : List Knot) (k z : Int) : Prop := (l.length ≤ 900 ∧ e.Reports.length ≤ 900) ∧ isR l ∧ lOk e.GLo e.GHi z (pts e l k)
theorem s113up (e : Earth) (l : List Knot) (k z : Int) (h : pre113up e l k z) : (runX ctFup noLoops 113 [e.av, (⟨l⟩ : Line).av, .sym .i64 k, i64 z] [2]).holds fun v => v = i64 (fdK mn (up e.GLo e.GHi z) (valHi l z) (pts e l k)) := by
  rw [tv113up]
  exact ⟨h.1, h.2.1, h.2.2, rfl⟩
noncomputable def catMost : Con T := conP Try.prog [shE, .agg [.s 78], .one (.i .i64), .one (.i .i64)] [.n, .l 78, .l 78, .l 78, .l 78, .n, .n, .l 55, .l 78, .n, .n] (fun d => pre113up ⟨d.1, ⟨d.2.1⟩, ⟨d.2.2.1⟩, ⟨d.2.2.2.1⟩, ⟨d.2.2.2.2.1⟩, d.2.2.2.2.2.1, d.2.2.2.2.2.2.1, d.2.2.2.2.2.2.2.1⟩ d.2.2.2.2.2.2.2.2.1 d.2.2.2.2.2.2.2.2.2.1 d.2.2.2.2.2.2.2.2.2.2.1) fun d => i64 (fdK mn (up d.2.2.2.2.2.1 d.2.2.2.2.2.2.1 d.2.2.2.2.2.2.2.2.2.2.1) (valHi d.2.2.2.2.2.2.2.2.1 d.2.2.2.2.2.2.2.2.2.2.1) (pts ⟨d.1, ⟨d.2.1⟩, ⟨d.2.2.1⟩, ⟨d.2.2.2.1⟩, ⟨d.2.2.2.2.1⟩, d.2.2.2.2.2.1, d.2.2.2.2.2.2.1, d.2.2.2.2.2.2.2.1⟩ d.2.2.2.2.2.2.2.2.1 d.2.2.2.2.2.2.2.2.2.1))
theorem okatMost : ConOk Try.prog E 113 catMost := conP_ok fun d hd => fact_run ctFup_ok noLoops_ok (ts := [2]) rfl (s113up ⟨d.1, ⟨d.2.1⟩, ⟨d.2.2.1⟩, ⟨d.2.2.2.1⟩, ⟨d.2.2.2.2.1⟩, d.2.2.2.2.2.1, d.2.2.2.2.2.2.1, d.2.2.2.2.2.2.2.1⟩ d.2.2.2.2.2.2.2.2.1 d.2.2.2.2.2.2.2.2.2.1 d.2.2.2.2.2.2.2.2.2.2.1 hd)

/-! ### dn -/
noncomputable def o126dn (a z glo ghi : Int) (l : List Knot) (n i : Int) : Tree (Ex × List (V T)) :=
  .req ((0 ≤ i ∧ n = l.length) ∧ lOk glo ghi z l) (.leaf (.exit 0, [.n (fdK mx (dn glo ghi z) a (l.drop i.toNat))]))
noncomputable def c126dn : LoopC T := ⟨[.n, .n, .n, .l 78, .l 78, .l 78, .l 78, .n, .n, .l 55, .l 78, .n, .n], ⟨21, [(1, .one (.i .i64)), (2, .fn 128 [.r [.i .i64], .r shC]), (9, .one (.s 78)), (10, .one (.i .i64)), (11, .one (.i .i64))], []⟩,
  fun _ => ⟨21, [(1, .one (.i .i64))], []⟩, 10, fun d => o126dn d.1 d.2.1 d.2.2.2.2.2.2.2.1 d.2.2.2.2.2.2.2.2.1 d.2.2.2.2.2.2.2.2.2.2.1 d.2.2.2.2.2.2.2.2.2.2.2.1 d.2.2.2.2.2.2.2.2.2.2.2.2.1⟩
theorem b126dn (a z b : Int) (p q r s : List Knot) (glo ghi : Int) (rs : List Report) (l : List Knot) (n i : Int) : bodyD Try.prog E c126dn 0 (bodyX Try.prog E ctB noLoops 1000 5 L0 (lpOf Try.prog 126 0)) (a, z, b, p, q, r, s, glo, ghi, rs, l, n, i, ()) =
  (.br (decide (i < n))
   (.req ((decide ((0 : Int) ≤ i) && decide (i < (↑(List.length l) : Int))) = true)
   (.br (decide (z < Knot.At (kn l i)))
    (.leaf (.inl (bif true then if IntKind.wrap IntKind.i64 (Knot.V (kn l i) - IntKind.wrap IntKind.i64 (ghi * IntKind.wrap IntKind.i64 (Knot.At (kn l i) - z))) > a then IntKind.wrap IntKind.i64 (Knot.V (kn l i) - IntKind.wrap IntKind.i64 (ghi * IntKind.wrap IntKind.i64 (Knot.At (kn l i) - z))) else a else if IntKind.wrap IntKind.i64 (Knot.V (kn l i) - IntKind.wrap IntKind.i64 (ghi * IntKind.wrap IntKind.i64 (Knot.At (kn l i) - z))) < a then IntKind.wrap IntKind.i64 (Knot.V (kn l i) - IntKind.wrap IntKind.i64 (ghi * IntKind.wrap IntKind.i64 (Knot.At (kn l i) - z))) else a, (z, (b, (p, (q, (r, (s, (glo, (ghi, (rs, (l, (n, (IntKind.wrap IntKind.i64 (i + (1 : Int)), ())))))))))))))))
    (.leaf (.inl (bif true then if IntKind.wrap IntKind.i64 (Knot.V (kn l i) + IntKind.wrap IntKind.i64 (glo * IntKind.wrap IntKind.i64 (z - Knot.At (kn l i)))) > a then IntKind.wrap IntKind.i64 (Knot.V (kn l i) + IntKind.wrap IntKind.i64 (glo * IntKind.wrap IntKind.i64 (z - Knot.At (kn l i)))) else a else if IntKind.wrap IntKind.i64 (Knot.V (kn l i) + IntKind.wrap IntKind.i64 (glo * IntKind.wrap IntKind.i64 (z - Knot.At (kn l i)))) < a then IntKind.wrap IntKind.i64 (Knot.V (kn l i) + IntKind.wrap IntKind.i64 (glo * IntKind.wrap IntKind.i64 (z - Knot.At (kn l i)))) else a, (z, (b, (p, (q, (r, (s, (glo, (ghi, (rs, (l, (n, (IntKind.wrap IntKind.i64 (i + (1 : Int)), ())))))))))))))))))
   (.leaf (.inr (.exit (0 : Nat), [.n (a)])))) := by kernel_rfl
theorem h126dn' (a z b : Int) (p q r s : List Knot) (glo ghi : Int) (rs : List Report) (l : List Knot) (i : Nat) (K : Ex × List (V T) → Prop) (hl : lOk glo ghi z l) (hK : K (.exit 0, [.n (fdK mx (dn glo ghi z) a (l.drop i))])) :
    (bodyD Try.prog E c126dn 0 (bodyX Try.prog E ctB noLoops 1000 5 L0 (lpOf Try.prog 126 0)) (a, z, b, p, q, r, s, glo, ghi, rs, l, (l.length : Int), (i : Int), ())).holds fun y => match y with
    | .inl d => ((d.2.2.2.2.2.2.2.2.2.2.1.length : Int) - d.2.2.2.2.2.2.2.2.2.2.2.2.1).toNat < ((l.length : Int) - (i : Int)).toNat ∧ (c126dn.out d).holds K
    | .inr y => K y := by
  rw [b126dn]
  obtain ⟨hg, hk, hn⟩ := hl
  refine way (fun c => wayC (by omega) c fun _ _ => ?_) fun c => ?_
  · have e2 : IntKind.wrap IntKind.i64 ((i : Int) + 1) = ((i + 1 : Nat) : Int) := i64_in' (by omega) (by omega)
    rw [e2]
    rw [drop_kn (by omega), fdK_cons] at hK
    have ko := hk _ (kn_mem (l := l) (i := i) (by omega))
    have hlt : ((l.length : Int) - ((i + 1 : Nat) : Int)).toNat < ((l.length : Int) - (i : Int)).toNat := by omega
    have h3 : (0 : Int) ≤ ((i + 1 : Nat) : Int) := by omega
    refine way (fun k => ?_) fun k => ?_
    · obtain ⟨w1, w2, w3⟩ := g_lt (g := ghi) ko (by omega) hg.1 k
      rw [w1, w2, w3]
      refine ⟨hlt, ⟨⟨h3, rfl⟩, hg, hk, hn⟩, ?_⟩
      unfold dn at hK
      rw [if_pos k] at hK
      exact hK
    · obtain ⟨w1, w2, w3⟩ := g_ge (g := glo) ko (by omega) hg.1 (show (kn l i).At ≤ z by omega)
      rw [w1, w2, w3]
      refine ⟨hlt, ⟨⟨h3, rfl⟩, hg, hk, hn⟩, ?_⟩
      unfold dn at hK
      rw [if_neg k] at hK
      exact hK
  · rw [List.drop_eq_nil_of_le (by omega)] at hK
    exact hK
theorem h126dn : LoopH Try.prog E c126dn 0 (bodyX Try.prog E ctB noLoops 1000 5 L0 (lpOf Try.prog 126 0)) :=
  ⟨fun d => ((d.2.2.2.2.2.2.2.2.2.2.1.length : Int) - d.2.2.2.2.2.2.2.2.2.2.2.2.1).toNat, fun d K hK => by
    obtain ⟨a, z, b, p, q, r, s, glo, ghi, rs, l, n, i, ⟨⟩⟩ := d
    obtain ⟨⟨⟨k1, k2⟩, k3⟩, k4⟩ := hK
    obtain ⟨m, hm⟩ := Int.eq_ofNat_of_zero_le k1
    obtain rfl : i = (m : Int) := hm
    obtain rfl : n = ((l : List Knot).length : Int) := k2
    refine Tree.holds_mono (fun y hy => ?_) (h126dn' a z b p q r s glo ghi rs l m K k3 k4)
    cases y with
    | inl d' => exact hy
    | inr y => exact hy⟩
theorem ll126dn : LLOk Try.prog E (llOf Try.prog E 126 [(2, c126dn)]) := llOf_ok fun i hi c hc => by
  have hi : i < 1 := hi
  obtain rfl : i = 0 := by omega
  obtain rfl : c126dn = c := Option.some.inj hc
  exact LSnd.mk good names mixes ctB_ok (by decide) h126dn
theorem tv126dn (l : List Knot) (a z : Int) (e : Earth) : runX ctB (llOf Try.prog E 126 [(2, c126dn)]) 126 [.sl 78 l false, i64 a, .fn 128 [.rp [i64 z], .rp e.cs]] [2] =
  (.req (((0 : Int) ≤ (0 : Int) ∧ (↑(List.length l) : Int) = (↑(List.length l) : Int)) ∧ lOk (Earth.GLo e) (Earth.GHi e) z l)
  (.leaf (.sym .i64 (fdK mx (dn (Earth.GLo e) (Earth.GHi e) z) a (List.drop (Int.toNat (0 : Int)) l))))) := by kernel_rfl
theorem s126dn (l : List Knot) (a z : Int) (e : Earth) (h : lOk e.GLo e.GHi z l) : (runX ctB (llOf Try.prog E 126 [(2, c126dn)]) 126 [.sl 78 l false, i64 a, .fn 128 [.rp [i64 z], .rp e.cs]] [2]).holds fun v => v = i64 (fdK mx (dn e.GLo e.GHi z) a l) := by
  rw [tv126dn]
  exact ⟨⟨⟨by decide, rfl⟩, h⟩, rfl⟩
noncomputable def cFoldKdn : Con T := conFP Try.prog E [22, 2, 138] [.one (.s 78), .one (.i .i64), .fn 128 [.r [.i .i64], .r shC]] [.l 78, .n, .n, .n, .l 78, .l 78, .l 78, .l 78, .n, .n, .l 55] (fun d => lOk d.2.2.2.2.2.2.2.2.1 d.2.2.2.2.2.2.2.2.2.1 d.2.2.1 d.1) fun d => i64 (fdK mx (dn d.2.2.2.2.2.2.2.2.1 d.2.2.2.2.2.2.2.2.2.1 d.2.2.1) d.2.1 d.1)
theorem okFoldKdn : ConOk Try.prog E 126 cFoldKdn := conFP_ok good decOk fun d hd => fact_run3 ctB_ok ll126dn (ts := [2]) rfl (s126dn d.1 d.2.1 d.2.2.1 ⟨d.2.2.2.1, ⟨d.2.2.2.2.1⟩, ⟨d.2.2.2.2.2.1⟩, ⟨d.2.2.2.2.2.2.1⟩, ⟨d.2.2.2.2.2.2.2.1⟩, d.2.2.2.2.2.2.2.2.1, d.2.2.2.2.2.2.2.2.2.1, d.2.2.2.2.2.2.2.2.2.2.1⟩ hd)
/-- The reference. -/
noncomputable def o100dn (l : List Knot) (z a i glo ghi : Int) : Tree (Ex × List (V T)) :=
  .req (0 ≤ i ∧ lOk glo ghi z l) (.leaf (.exit 0, [.n (fdK mx (dn glo ghi z) a (l.drop i.toNat))]))
noncomputable def c100dn : LoopC T := ⟨[.l 78, .n, .n, .n, .n, .l 78, .l 78, .l 78, .l 78, .n, .n, .l 55], ⟨60, [(1, .one (.s 78)), (2, .one (.i .i64)), (3, .one (.i .i64)), (4, .one (.o 0 0)), (9, .one (.i .i64))], [.c cellsE]⟩,
  fun _ => ⟨60, [(3, .one (.i .i64))], []⟩, 10, fun d => o100dn d.1 d.2.1 d.2.2.1 d.2.2.2.1 d.2.2.2.2.2.2.2.2.2.1 d.2.2.2.2.2.2.2.2.2.2.1⟩
theorem b100dn (l : List Knot) (z a i b : Int) (p q r s : List Knot) (glo ghi : Int) (rs : List Report) : bodyD Try.prog E c100dn 0 (bodyX Try.prog E ctB noLoops 1000 5 L0 (lpOf Try.prog 102 0)) (l, z, a, i, b, p, q, r, s, glo, ghi, rs, ()) =
  (.br (decide (i < (↑(List.length l) : Int)))
   (.req ((decide ((0 : Int) ≤ i) && decide (i < (↑(List.length l) : Int))) = true)
   (.br (decide (z ≥ Knot.At (kn l i)))
    (.req ((decide ((0 : Int) ≤ i) && decide (i < (↑(List.length l) : Int))) = true)
    (.req ((decide ((0 : Int) ≤ i) && decide (i < (↑(List.length l) : Int))) = true)
    (.leaf (.inl (l, (z, (bif true then if IntKind.wrap IntKind.i64 (Knot.V (kn l i) + IntKind.wrap IntKind.i64 (glo * IntKind.wrap IntKind.i64 (z - Knot.At (kn l i)))) > a then IntKind.wrap IntKind.i64 (Knot.V (kn l i) + IntKind.wrap IntKind.i64 (glo * IntKind.wrap IntKind.i64 (z - Knot.At (kn l i)))) else a else if IntKind.wrap IntKind.i64 (Knot.V (kn l i) + IntKind.wrap IntKind.i64 (glo * IntKind.wrap IntKind.i64 (z - Knot.At (kn l i)))) < a then IntKind.wrap IntKind.i64 (Knot.V (kn l i) + IntKind.wrap IntKind.i64 (glo * IntKind.wrap IntKind.i64 (z - Knot.At (kn l i)))) else a, (IntKind.wrap IntKind.i64 (i + (1 : Int)), (b, (p, (q, (r, (s, (glo, (ghi, (rs, ()))))))))))))))))
    (.req ((decide ((0 : Int) ≤ i) && decide (i < (↑(List.length l) : Int))) = true)
    (.req ((decide ((0 : Int) ≤ i) && decide (i < (↑(List.length l) : Int))) = true)
    (.leaf (.inl (l, (z, (bif true then if IntKind.wrap IntKind.i64 (Knot.V (kn l i) - IntKind.wrap IntKind.i64 (ghi * IntKind.wrap IntKind.i64 (Knot.At (kn l i) - z))) > a then IntKind.wrap IntKind.i64 (Knot.V (kn l i) - IntKind.wrap IntKind.i64 (ghi * IntKind.wrap IntKind.i64 (Knot.At (kn l i) - z))) else a else if IntKind.wrap IntKind.i64 (Knot.V (kn l i) - IntKind.wrap IntKind.i64 (ghi * IntKind.wrap IntKind.i64 (Knot.At (kn l i) - z))) < a then IntKind.wrap IntKind.i64 (Knot.V (kn l i) - IntKind.wrap IntKind.i64 (ghi * IntKind.wrap IntKind.i64 (Knot.At (kn l i) - z))) else a, (IntKind.wrap IntKind.i64 (i + (1 : Int)), (b, (p, (q, (r, (s, (glo, (ghi, (rs, ()))))))))))))))))))
   (.leaf (.inr (.exit (0 : Nat), [.n (a)])))) := by kernel_rfl
theorem h100dn' (l : List Knot) (z a : Int) (i : Nat) (b : Int) (p q r s : List Knot) (glo ghi : Int) (rs : List Report) (K : Ex × List (V T) → Prop) (hl : lOk glo ghi z l) (hK : K (.exit 0, [.n (fdK mx (dn glo ghi z) a (l.drop i))])) :
    (bodyD Try.prog E c100dn 0 (bodyX Try.prog E ctB noLoops 1000 5 L0 (lpOf Try.prog 102 0)) (l, z, a, (i : Int), b, p, q, r, s, glo, ghi, rs, ())).holds fun y => match y with
    | .inl d => ((d.1.length : Int) - d.2.2.2.1).toNat < ((l.length : Int) - (i : Int)).toNat ∧ (c100dn.out d).holds K
    | .inr y => K y := by
  rw [b100dn]
  obtain ⟨hg, hk, hn⟩ := hl
  refine way (fun c => wayC (by omega) c fun _ _ => ?_) fun c => ?_
  · have e2 : IntKind.wrap IntKind.i64 ((i : Int) + 1) = ((i + 1 : Nat) : Int) := i64_in' (by omega) (by omega)
    rw [e2]
    rw [drop_kn (by omega), fdK_cons] at hK
    have ko := hk _ (kn_mem (l := l) (i := i) (by omega))
    have hlt : ((l.length : Int) - ((i + 1 : Nat) : Int)).toNat < ((l.length : Int) - (i : Int)).toNat := by omega
    have h3 : (0 : Int) ≤ ((i + 1 : Nat) : Int) := by omega
    refine way (fun k => wayC (by omega) c fun _ _ => wayC (by omega) c fun _ _ => ?_) fun k => wayC (by omega) c fun _ _ => wayC (by omega) c fun _ _ => ?_
    · obtain ⟨w1, w2, w3⟩ := g_ge (g := glo) ko (by omega) hg.1 (show (kn l i).At ≤ z by omega)
      rw [w1, w2, w3]
      refine ⟨hlt, ⟨h3, hg, hk, hn⟩, ?_⟩
      unfold dn at hK
      rw [if_neg (by omega)] at hK
      exact hK
    · obtain ⟨w1, w2, w3⟩ := g_lt (g := ghi) ko (by omega) hg.1 (show z < (kn l i).At by omega)
      rw [w1, w2, w3]
      refine ⟨hlt, ⟨h3, hg, hk, hn⟩, ?_⟩
      unfold dn at hK
      rw [if_pos (by omega)] at hK
      exact hK
  · rw [List.drop_eq_nil_of_le (by omega)] at hK
    exact hK
theorem h100dn : LoopH Try.prog E c100dn 0 (bodyX Try.prog E ctB noLoops 1000 5 L0 (lpOf Try.prog 102 0)) :=
  ⟨fun d => ((d.1.length : Int) - d.2.2.2.1).toNat, fun d K hK => by
    obtain ⟨l, z, a, i, b, p, q, r, s, glo, ghi, rs, ⟨⟩⟩ := d
    obtain ⟨⟨k1, k3⟩, k4⟩ := hK
    obtain ⟨m, hm⟩ := Int.eq_ofNat_of_zero_le k1
    obtain rfl : i = (m : Int) := hm
    refine Tree.holds_mono (fun y hy => ?_) (h100dn' l z a m b p q r s glo ghi rs K k3 k4)
    cases y with
    | inl d' => exact hy
    | inr y => exact hy⟩
theorem ll100dn : LLOk Try.prog E (llOf Try.prog E 102 [(2, c100dn)]) := llOf_ok fun i hi c hc => by
  have hi : i < 1 := hi
  obtain rfl : i = 0 := by omega
  obtain rfl : c100dn = c := Option.some.inj hc
  exact LSnd.mk good names mixes ctB_ok (by decide) h100dn
theorem tv100dn (e : Earth) (l : List Knot) (z a : Int) : runX ctB (llOf Try.prog E 102 [(2, c100dn)]) 102 [e.av, .sl 78 l false, i64 z, i64 a] [2] =
  (.req ((0 : Int) ≤ (0 : Int) ∧ lOk (Earth.GLo e) (Earth.GHi e) z l)
  (.leaf (.sym .i64 (fdK mx (dn (Earth.GLo e) (Earth.GHi e) z) a (List.drop (Int.toNat (0 : Int)) l))))) := by kernel_rfl
theorem s100dn (e : Earth) (l : List Knot) (z a : Int) (h : lOk e.GLo e.GHi z l) : (runX ctB (llOf Try.prog E 102 [(2, c100dn)]) 102 [e.av, .sl 78 l false, i64 z, i64 a] [2]).holds fun v => v = i64 (fdK mx (dn e.GLo e.GHi z) a l) := by
  rw [tv100dn]
  exact ⟨⟨by decide, h⟩, rfl⟩
noncomputable def cRefdn : Con T := conP Try.prog [shE, .one (.s 78), .one (.i .i64), .one (.i .i64)] [.n, .l 78, .l 78, .l 78, .l 78, .n, .n, .l 55, .l 78, .n, .n] (fun d => lOk d.2.2.2.2.2.1 d.2.2.2.2.2.2.1 d.2.2.2.2.2.2.2.2.2.1 d.2.2.2.2.2.2.2.2.1) fun d => i64 (fdK mx (dn d.2.2.2.2.2.1 d.2.2.2.2.2.2.1 d.2.2.2.2.2.2.2.2.2.1) d.2.2.2.2.2.2.2.2.2.2.1 d.2.2.2.2.2.2.2.2.1)
theorem okRefdn : ConOk Try.prog E 102 cRefdn := conP_ok fun d hd => fact_run ctB_ok ll100dn (ts := [2]) rfl (s100dn ⟨d.1, ⟨d.2.1⟩, ⟨d.2.2.1⟩, ⟨d.2.2.2.1⟩, ⟨d.2.2.2.2.1⟩, d.2.2.2.2.2.1, d.2.2.2.2.2.2.1, d.2.2.2.2.2.2.2.1⟩ d.2.2.2.2.2.2.2.2.1 d.2.2.2.2.2.2.2.2.2.1 d.2.2.2.2.2.2.2.2.2.2.1 hd)
noncomputable def ctFdn : CTab T := (127, cPts) :: (101, cPts) :: (126, cFoldKdn) :: (102, cRefdn) :: ctB
theorem ctFdn_ok : CTabOk Try.prog E ctFdn := .cons pts_ok (.cons pts2_ok (.cons okFoldKdn (.cons okRefdn ctB_ok)))
theorem tv113dn (e : Earth) (l : List Knot) (k z : Int) : runX ctFdn noLoops 112 [e.av, (⟨l⟩ : Line).av, .sym .i64 k, i64 z] [2] =
  (.req (List.length l ≤ (900 : Nat) ∧ List.length (Earth.Reports e) ≤ (900 : Nat))
  (.req (isR l)
  (.req (lOk (Earth.GLo e) (Earth.GHi e) z (ptK (Earth.Bottom e) l ++ ptR k (Earth.Reports e)))
  (.leaf (.sym .i64 (fdK mx (dn (Earth.GLo e) (Earth.GHi e) z) (valLo l z) (ptK (Earth.Bottom e) l ++ ptR k (Earth.Reports e)))))))) := by kernel_rfl
noncomputable def pre113dn (e : Earth) (l : List Knot) (k z : Int) : Prop := (l.length ≤ 900 ∧ e.Reports.length ≤ 900) ∧ isR l ∧ lOk e.GLo e.GHi z (pts e l k)
theorem s113dn (e : Earth) (l : List Knot) (k z : Int) (h : pre113dn e l k z) : (runX ctFdn noLoops 112 [e.av, (⟨l⟩ : Line).av, .sym .i64 k, i64 z] [2]).holds fun v => v = i64 (fdK mx (dn e.GLo e.GHi z) (valLo l z) (pts e l k)) := by
  rw [tv113dn]
  exact ⟨h.1, h.2.1, h.2.2, rfl⟩
noncomputable def catLeast : Con T := conP Try.prog [shE, .agg [.s 78], .one (.i .i64), .one (.i .i64)] [.n, .l 78, .l 78, .l 78, .l 78, .n, .n, .l 55, .l 78, .n, .n] (fun d => pre113dn ⟨d.1, ⟨d.2.1⟩, ⟨d.2.2.1⟩, ⟨d.2.2.2.1⟩, ⟨d.2.2.2.2.1⟩, d.2.2.2.2.2.1, d.2.2.2.2.2.2.1, d.2.2.2.2.2.2.2.1⟩ d.2.2.2.2.2.2.2.2.1 d.2.2.2.2.2.2.2.2.2.1 d.2.2.2.2.2.2.2.2.2.2.1) fun d => i64 (fdK mx (dn d.2.2.2.2.2.1 d.2.2.2.2.2.2.1 d.2.2.2.2.2.2.2.2.2.2.1) (valLo d.2.2.2.2.2.2.2.2.1 d.2.2.2.2.2.2.2.2.2.2.1) (pts ⟨d.1, ⟨d.2.1⟩, ⟨d.2.2.1⟩, ⟨d.2.2.2.1⟩, ⟨d.2.2.2.2.1⟩, d.2.2.2.2.2.1, d.2.2.2.2.2.2.1, d.2.2.2.2.2.2.2.1⟩ d.2.2.2.2.2.2.2.2.1 d.2.2.2.2.2.2.2.2.2.1))
theorem okatLeast : ConOk Try.prog E 112 catLeast := conP_ok fun d hd => fact_run ctFdn_ok noLoops_ok (ts := [2]) rfl (s113dn ⟨d.1, ⟨d.2.1⟩, ⟨d.2.2.1⟩, ⟨d.2.2.2.1⟩, ⟨d.2.2.2.2.1⟩, d.2.2.2.2.2.1, d.2.2.2.2.2.2.1, d.2.2.2.2.2.2.2.1⟩ d.2.2.2.2.2.2.2.2.1 d.2.2.2.2.2.2.2.2.2.1 d.2.2.2.2.2.2.2.2.2.2.1 hd)
end Go.Proofs.Ytdlholmphenhhaa.W
end

set_option linter.unusedVariables false
set_option maxRecDepth 100000
noncomputable section
namespace Go.Proofs.Ytdlholmphenhhaa.W
open Go Go.Cx Go.RowKit
noncomputable abbrev ctR : CTab T := (101, cPts) :: (113, catMost) :: (112, catLeast) :: (100, cRefup) :: (102, cRefdn) :: (31, cCheck) :: (32, cCheck) :: ctB
theorem ctR_ok : CTabOk Try.prog E ctR := .cons pts2_ok (.cons okatMost (.cons okatLeast (.cons okRefup (.cons okRefdn (.cons check_ok (.cons check2_ok ctB_ok))))))
@[reducible] def inZ (e : Earth) (z : Int) : Prop := eErr e = 0 ∧ 0 ≤ z ∧ z ≤ e.Bottom
theorem lE_good {l : Line} (h : lE l = 0) : Good l.Knots 1048576 68719476736 := (lineErr_good h).1
theorem pre_up {e : Earth} {z : Int} (h : inZ e z) {l : Line} (hl : lE l = 0) (k : Int) : pre113up e l.Knots k z := by
  have H := eErr_ok h.1
  have G := lE_good hl
  have l1 := G.len
  have l2 := H.len
  have n := H.num
  refine ⟨⟨by omega, by omega⟩, .inl hl, ⟨by omega, by omega, by omega⟩, fun k' hk => ?_, ?_⟩
  · rcases List.mem_append.1 hk with hk | hk
    · obtain ⟨i, hi, rfl⟩ := mem_kn (List.mem_filter.1 hk).1
      exact G.bd i hi
    · obtain ⟨r, hr, rfl⟩ := List.mem_map.1 hk
      have := H.rep r (List.mem_filter.1 hr).1
      exact ⟨⟨this.2.1.1, Int.le_trans this.2.1.2 n.1.2⟩, this.2.2⟩
  · have a := ptK_len (b := e.Bottom) (l := l.Knots)
    have b := ptR_len (k := k) (l := e.Reports)
    unfold pts
    rw [List.length_append]
    omega
theorem pre_dn {e : Earth} {z : Int} (h : inZ e z) {l : Line} (hl : lE l = 0) (k : Int) : pre113dn e l.Knots k z := pre_up h hl k
noncomputable def pLo (e : Earth) (z : Int) : Int := fdK mx (dn e.GLo e.GHi z) (valLo e.PoreLo.Knots z) (pts e e.PoreLo.Knots 1)
noncomputable def fHi (e : Earth) (z : Int) : Int := fdK mn (up e.GLo e.GHi z) (valHi e.FracHi.Knots z) (pts e e.FracHi.Knots 4)
noncomputable def pHi (e : Earth) (z : Int) : Int := mn (fdK mn (up e.GLo e.GHi z) (valHi e.PoreHi.Knots z) (pts e e.PoreHi.Knots 2)) (fHi e z)
noncomputable def fLo (e : Earth) (z : Int) : Int := mx (fdK mx (dn e.GLo e.GHi z) (valLo e.FracLo.Knots z) (pts e e.FracLo.Knots 3)) (pLo e z)
@[reducible] noncomputable def rgs (e : Earth) (z : Int) : AV T := .tup [.agg [i64 (pLo e z), i64 (pHi e z)], .agg [i64 (fLo e z), i64 (fHi e z)]]
theorem tv99 (e : Earth) (z : Int) : runX ctR noLoops 99 [e.av, i64 z] [32, 32] =
  (.req (pre113dn e e.PoreLo.Knots 1 z) (.req (pre113up e e.FracHi.Knots 4 z) (.req (pre113up e e.PoreHi.Knots 2 z) (.req (pre113dn e e.FracLo.Knots 3 z) (.leaf (rgs e z)))))) := by kernel_rfl
noncomputable def reqP (e : Earth) (l : List Knot) (k z : Int) (t : Tree (AV T)) : Tree (AV T) := .req (l.length ≤ 900 ∧ e.Reports.length ≤ 900) (.req (isR l) (.req (lOk e.GLo e.GHi z (pts e l k)) t))
theorem reqP_ok {e : Earth} {l : List Knot} {k z : Int} {t : Tree (AV T)} {Q : AV T → Prop} (h : pre113up e l k z) (ht : t.holds Q) : (reqP e l k z t).holds Q := ⟨h.1, h.2.1, h.2.2, ht⟩
noncomputable def pLo' (e : Earth) (z : Int) : Int := fdK mx (dn e.GLo e.GHi z) (mx 0 (valLo e.PoreLo.Knots z)) (pts e e.PoreLo.Knots 1)
theorem tv76 (e : Earth) (z : Int) : runX ctR noLoops 76 [e.av, i64 z] [32, 32] =
  reqP e e.FracHi.Knots 4 z (reqP e e.PoreHi.Knots 2 z (reqP e e.PoreLo.Knots 1 z (reqP e e.FracLo.Knots 3 z (.leaf (.tup [.agg [i64 (pLo' e z), i64 (fdK mn (up e.GLo e.GHi z) (mn (valHi e.PoreHi.Knots z) (fHi e z)) (pts e e.PoreHi.Knots 2))], .agg [i64 (fdK mx (dn e.GLo e.GHi z) (mx (pLo' e z) (valLo e.FracLo.Knots z)) (pts e e.FracLo.Knots 3)), i64 (fHi e z)]]))))) := by kernel_rfl
theorem mx_comm (a b : Int) : mx a b = mx b a := by unfold mx; repeat' split
                                                    all_goals omega
theorem mx_zero {a : Int} (h : 0 ≤ a) : mx 0 a = a := by unfold mx; split <;> omega
theorem s99 (e : Earth) (z : Int) (h : inZ e z) : (runX ctR noLoops 99 [e.av, i64 z] [32, 32]).holds fun v => v = rgs e z := by
  rw [tv99]
  have H := eErr_ok h.1
  exact ⟨pre_dn h H.l1 _, pre_up h H.l4 _, pre_up h H.l2 _, pre_dn h H.l3 _, rfl⟩
theorem s76 (e : Earth) (z : Int) (h : inZ e z) : (runX ctR noLoops 76 [e.av, i64 z] [32, 32]).holds fun v => v = rgs e z := by
  rw [tv76]
  have H := eErr_ok h.1
  refine reqP_ok (pre_up h H.l4 _) (reqP_ok (pre_up h H.l2 _) (reqP_ok (pre_up h H.l1 _) (reqP_ok (pre_up h H.l3 _) ?_)))
  have e1 : pLo' e z = pLo e z := by
    unfold pLo' pLo
    rw [mx_zero (val_bd (lE_good H.l1) z).1.1]
  show AV.tup _ = _
  unfold rgs
  rw [e1, fdK_mn, mx_comm, fdK_mx]
  rfl
noncomputable def cRanges : Con T := conP Try.prog [shE, .one (.i .i64)] [.n, .l 78, .l 78, .l 78, .l 78, .n, .n, .l 55, .n] (fun d => inZ ⟨d.1, ⟨d.2.1⟩, ⟨d.2.2.1⟩, ⟨d.2.2.2.1⟩, ⟨d.2.2.2.2.1⟩, d.2.2.2.2.2.1, d.2.2.2.2.2.2.1, d.2.2.2.2.2.2.2.1⟩ d.2.2.2.2.2.2.2.2.1) fun d => rgs ⟨d.1, ⟨d.2.1⟩, ⟨d.2.2.1⟩, ⟨d.2.2.2.1⟩, ⟨d.2.2.2.2.1⟩, d.2.2.2.2.2.1, d.2.2.2.2.2.2.1, d.2.2.2.2.2.2.2.1⟩ d.2.2.2.2.2.2.2.2.1
theorem ranges_ok : ConOk Try.prog E 99 cRanges := conP_ok fun d hd => fact_run ctR_ok noLoops_ok (ts := [32, 32]) rfl (s99 ⟨d.1, ⟨d.2.1⟩, ⟨d.2.2.1⟩, ⟨d.2.2.2.1⟩, ⟨d.2.2.2.2.1⟩, d.2.2.2.2.2.1, d.2.2.2.2.2.2.1, d.2.2.2.2.2.2.2.1⟩ d.2.2.2.2.2.2.2.2.1 hd)
theorem ranges2_ok : ConOk Try.prog E 76 cRanges := conP_ok fun d hd => fact_run ctR_ok noLoops_ok (ts := [32, 32]) rfl (s76 ⟨d.1, ⟨d.2.1⟩, ⟨d.2.2.1⟩, ⟨d.2.2.2.1⟩, ⟨d.2.2.2.2.1⟩, d.2.2.2.2.2.1, d.2.2.2.2.2.2.1, d.2.2.2.2.2.2.2.1⟩ d.2.2.2.2.2.2.2.2.1 hd)
noncomputable abbrev ctK : CTab T := (99, cRanges) :: (76, cRanges) :: ctR
theorem ctK_ok : CTabOk Try.prog E ctK := .cons ranges_ok (.cons ranges2_ok ctR_ok)
noncomputable def kP (f : Earth → Int → Int) (e : Earth) (z : Int) : Int := if inZ e z then f e z else 0
theorem kP_in {f : Earth → Int → Int} {e : Earth} {z : Int} (h : inZ e z) : kP f e z = f e z := if_pos h
theorem kP_out {f : Earth → Int → Int} {e : Earth} {z : Int} (h : ¬ inZ e z) : kP f e z = 0 := if_neg h
@[reducible] noncomputable def rgP (e : Earth) (z : Int) : AV T := .agg [i64 (kP pLo e z), i64 (kP pHi e z)]
@[reducible] noncomputable def rgF (e : Earth) (z : Int) : AV T := .agg [i64 (kP fLo e z), i64 (kP fHi e z)]
@[reducible] noncomputable def rgW (e : Earth) (z : Int) : AV T := .agg [i64 (kP pHi e z), i64 (kP fLo e z)]
noncomputable def kTree (e : Earth) (z : Int) (a b : AV T) : Tree (AV T) := .br (eErr e != 0) (.leaf a) (.br (!within z 0 e.Bottom) (.leaf a) (.req (inZ e z) (.leaf b)))
noncomputable def kTree2 (e : Earth) (z : Int) (a b : AV T) : Tree (AV T) := .br (decide (z ≥ 0)) (.br (decide (z ≤ e.Bottom)) (.br (!(eErr e == 0)) (.leaf a) (.req (inZ e z) (.leaf b))) (.leaf a)) (.leaf a)
theorem kTree_ok {e : Earth} {z : Int} {a b c : AV T} (h1 : inZ e z → b = c) (h2 : ¬ inZ e z → a = c) : (kTree e z a b).holds fun v => v = c :=
  wayNe (fun h => h2 fun k => h k.1) fun h => wayN (fun k => h2 fun q => k q.2) fun k => ⟨⟨h, k⟩, h1 ⟨h, k⟩⟩
theorem kTree2_ok {e : Earth} {z : Int} {a b c : AV T} (h1 : inZ e z → b = c) (h2 : ¬ inZ e z → a = c) : (kTree2 e z a b).holds fun v => v = c :=
  way (fun p => way (fun q => wayNEq (fun h => h2 fun k => h k.1) fun h => ⟨⟨h, p, q⟩, h1 ⟨h, p, q⟩⟩) fun k => h2 fun q => k q.2.2) fun k => h2 fun q => k q.2.1
@[reducible] noncomputable def z2 : AV T := .agg [i64 0, i64 0]
theorem tv39 (e : Earth) (z : Int) : runX ctK noLoops 39 [e.av, i64 z] [32] = kTree e z z2 (.agg [i64 (pLo e z), i64 (pHi e z)]) := by kernel_rfl
theorem tv41 (e : Earth) (z : Int) : runX ctK noLoops 41 [e.av, i64 z] [32] = kTree e z z2 (.agg [i64 (fLo e z), i64 (fHi e z)]) := by kernel_rfl
theorem tv43 (e : Earth) (z : Int) : runX ctK noLoops 43 [e.av, i64 z] [32] = kTree e z z2 (.agg [i64 (pHi e z), i64 (fLo e z)]) := by kernel_rfl
theorem tv40 (e : Earth) (z : Int) : runX ctK noLoops 40 [e.av, i64 z] [32] = kTree2 e z z2 (.agg [i64 (pLo e z), i64 (pHi e z)]) := by kernel_rfl
theorem tv42 (e : Earth) (z : Int) : runX ctK noLoops 42 [e.av, i64 z] [32] = kTree2 e z z2 (.agg [i64 (fLo e z), i64 (fHi e z)]) := by kernel_rfl
theorem tv44 (e : Earth) (z : Int) : runX ctK noLoops 44 [e.av, i64 z] [32] = kTree2 e z z2 (.agg [i64 (pHi e z), i64 (fLo e z)]) := by kernel_rfl
theorem rg_k {f g : Earth → Int → Int} {e : Earth} {z : Int} : (inZ e z → AV.agg [i64 (f e z), i64 (g e z)] = .agg [i64 (kP f e z), i64 (kP g e z)]) ∧ (¬ inZ e z → z2 = .agg [i64 (kP f e z), i64 (kP g e z)]) :=
  ⟨fun h => by rw [kP_in h, kP_in h], fun h => by rw [kP_out h, kP_out h]⟩
theorem s39 (e : Earth) (z : Int) : (runX ctK noLoops 39 [e.av, i64 z] [32]).holds fun v => v = rgP e z := by rw [tv39]; exact kTree_ok rg_k.1 rg_k.2
theorem s41 (e : Earth) (z : Int) : (runX ctK noLoops 41 [e.av, i64 z] [32]).holds fun v => v = rgF e z := by rw [tv41]; exact kTree_ok rg_k.1 rg_k.2
theorem s43 (e : Earth) (z : Int) : (runX ctK noLoops 43 [e.av, i64 z] [32]).holds fun v => v = rgW e z := by rw [tv43]; exact kTree_ok rg_k.1 rg_k.2
theorem s40 (e : Earth) (z : Int) : (runX ctK noLoops 40 [e.av, i64 z] [32]).holds fun v => v = rgP e z := by rw [tv40]; exact kTree2_ok rg_k.1 rg_k.2
theorem s42 (e : Earth) (z : Int) : (runX ctK noLoops 42 [e.av, i64 z] [32]).holds fun v => v = rgF e z := by rw [tv42]; exact kTree2_ok rg_k.1 rg_k.2
theorem s44 (e : Earth) (z : Int) : (runX ctK noLoops 44 [e.av, i64 z] [32]).holds fun v => v = rgW e z := by rw [tv44]; exact kTree2_ok rg_k.1 rg_k.2
@[reducible] def sigEz : List VT := [.n, .l 78, .l 78, .l 78, .l 78, .n, .n, .l 55, .n]
@[reducible] noncomputable def eZ (d : Den T sigEz) : Earth := ⟨d.1, ⟨d.2.1⟩, ⟨d.2.2.1⟩, ⟨d.2.2.2.1⟩, ⟨d.2.2.2.2.1⟩, d.2.2.2.2.2.1, d.2.2.2.2.2.2.1, d.2.2.2.2.2.2.2.1⟩
@[reducible] noncomputable def zZ (d : Den T sigEz) : Int := d.2.2.2.2.2.2.2.2.1
noncomputable def cPore : Con T := conV Try.prog [shE, .one (.i .i64)] sigEz fun d => rgP (eZ d) (zZ d)
noncomputable def cFrac : Con T := conV Try.prog [shE, .one (.i .i64)] sigEz fun d => rgF (eZ d) (zZ d)
noncomputable def cWindow : Con T := conV Try.prog [shE, .one (.i .i64)] sigEz fun d => rgW (eZ d) (zZ d)
theorem pore_ok : ConOk Try.prog E 39 cPore := conV_ok fun d => fact_run ctK_ok noLoops_ok (ts := [32]) rfl (s39 (eZ d) (zZ d))
theorem pore2_ok : ConOk Try.prog E 40 cPore := conV_ok fun d => fact_run ctK_ok noLoops_ok (ts := [32]) rfl (s40 (eZ d) (zZ d))
theorem frac_ok : ConOk Try.prog E 41 cFrac := conV_ok fun d => fact_run ctK_ok noLoops_ok (ts := [32]) rfl (s41 (eZ d) (zZ d))
theorem frac2_ok : ConOk Try.prog E 42 cFrac := conV_ok fun d => fact_run ctK_ok noLoops_ok (ts := [32]) rfl (s42 (eZ d) (zZ d))
theorem window_ok : ConOk Try.prog E 43 cWindow := conV_ok fun d => fact_run ctK_ok noLoops_ok (ts := [32]) rfl (s43 (eZ d) (zZ d))
theorem window2_ok : ConOk Try.prog E 44 cWindow := conV_ok fun d => fact_run ctK_ok noLoops_ok (ts := [32]) rfl (s44 (eZ d) (zZ d))
/-! ### Copies of earths -/
noncomputable abbrev ctC : CTab T := (20, cOwn) :: (29, cSame) :: ctB
theorem ctC_ok : CTabOk Try.prog E ctC := .cons own_ok (.cons same_ok ctB_ok)
@[reducible] def smallE (e : Earth) : Prop := (e.PoreLo.Knots.length ≤ 900 ∧ e.PoreHi.Knots.length ≤ 900 ∧ e.FracLo.Knots.length ≤ 900 ∧ e.FracHi.Knots.length ≤ 900) ∧ e.Reports.length ≤ 900
theorem tv38 (e : Earth) : runX ctC noLoops 38 [e.av] [39] =
  (.req (List.length (Line.Knots (Earth.PoreLo e)) ≤ (1000 : Nat))
  (.req (List.length (Line.Knots (Earth.PoreHi e)) ≤ (1000 : Nat))
  (.req (List.length (Line.Knots (Earth.FracLo e)) ≤ (1000 : Nat))
  (.req (List.length (Line.Knots (Earth.FracHi e)) ≤ (1000 : Nat))
  (.req ((0 : Nat) + List.length (Earth.Reports e) ≤ (1073741824 : Nat))
  (.req (List.length ([] ++ Earth.Reports e) = List.length ([] ++ Earth.Reports e))
  (.leaf (.agg [.sym .i64 (Earth.Bottom e), .sl (78 : Nat) (Line.Knots (Earth.PoreLo e)) false, .sl (78 : Nat) (Line.Knots (Earth.PoreHi e)) false, .sl (78 : Nat) (Line.Knots (Earth.FracLo e)) false, .sl (78 : Nat) (Line.Knots (Earth.FracHi e)) false, .sym .i64 (Earth.GLo e), .sym .i64 (Earth.GHi e), .sl (55 : Nat) ([] ++ Earth.Reports e) false])))))))) := by kernel_rfl
theorem s38 (e : Earth) (h : smallE e) : (runX ctC noLoops 38 [e.av] [39]).holds fun v => v = e.av := by
  rw [tv38]
  obtain ⟨⟨h1, h2, h3, h4⟩, h5⟩ := h
  exact ⟨by omega, by omega, by omega, by omega, by omega, rfl, rfl⟩
noncomputable def cCopy : Con T := conP Try.prog [shE] sigE (fun d => smallE (eOf d)) fun d => (eOf d).av
theorem copy_ok : ConOk Try.prog E 38 cCopy := conP_ok fun d hd => fact_run ctC_ok noLoops_ok (ts := [39]) rfl (s38 (eOf d) hd)
end Go.Proofs.Ytdlholmphenhhaa.W
end

set_option linter.unusedVariables false
set_option maxRecDepth 100000
noncomputable section
namespace Go.Proofs.Ytdlholmphenhhaa.W
open Go Go.Cx Go.RowKit
noncomputable def eqR : List Report → List Report → Bool
  | a :: l, b :: m => (a.Kind == b.Kind && (a.Z == b.Z && (a.P == b.P && true))) && eqR l m
  | _, _ => true
theorem eqR_cons {a b : Report} {l m : List Report} : eqR (a :: l) (b :: m) = ((a.Kind == b.Kind && (a.Z == b.Z && (a.P == b.P && true))) && eqR l m) := rfl
theorem eqR_nil {m : List Report} : eqR [] m = true := rfl
theorem eqR_self : ∀ l : List Report, eqR l l = true
  | [] => rfl
  | a :: l => by rw [eqR_cons, eqR_self l]; simp
noncomputable def o45 (i b : Int) (p q r s : List Knot) (x y : Int) (l : List Report) (b' : Int) (p' q' r' s' : List Knot) (x' y' : Int) (l' : List Report) : Tree (Ex × List (V T)) :=
  .req (0 ≤ i ∧ l.length = l'.length ∧ l.length ≤ 1000) (.br (eqR (l.drop i.toNat) (l'.drop i.toNat)) (.leaf (.exit 0, eD b p q r s x y l ++ eD b' p' q' r' s' x' y' l')) (.leaf (.ret, [.t false])))
noncomputable def c45 : LoopC T := ⟨[.n, .n, .l 78, .l 78, .l 78, .l 78, .n, .n, .l 55, .n, .l 78, .l 78, .l 78, .l 78, .n, .n, .l 55], ⟨78, [(2, .one (.o 0 0)), (3, .one (.o 1 0)), (5, .one (.i .i64))], [.c cellsE, .c cellsE]⟩, fun e => match e with
    | .ret => ⟨78, [(4, .one .b)], []⟩
    | _ => ⟨78, [(2, .one (.o 0 0)), (3, .one (.o 1 0))], [.c cellsE, .c cellsE]⟩, 10, fun d => o45 d.1 d.2.1 d.2.2.1 d.2.2.2.1 d.2.2.2.2.1 d.2.2.2.2.2.1 d.2.2.2.2.2.2.1 d.2.2.2.2.2.2.2.1 d.2.2.2.2.2.2.2.2.1 d.2.2.2.2.2.2.2.2.2.1 d.2.2.2.2.2.2.2.2.2.2.1 d.2.2.2.2.2.2.2.2.2.2.2.1 d.2.2.2.2.2.2.2.2.2.2.2.2.1 d.2.2.2.2.2.2.2.2.2.2.2.2.2.1 d.2.2.2.2.2.2.2.2.2.2.2.2.2.2.1 d.2.2.2.2.2.2.2.2.2.2.2.2.2.2.2.1 d.2.2.2.2.2.2.2.2.2.2.2.2.2.2.2.2.1⟩
theorem b45 (i b : Int) (p q r s : List Knot) (x y : Int) (l : List Report) (b' : Int) (p' q' r' s' : List Knot) (x' y' : Int) (l' : List Report) : bodyD Try.prog E c45 0 (bodyX Try.prog E ctC noLoops 1000 5 L0 (lpOf Try.prog 45 0)) (i, b, p, q, r, s, x, y, l, b', p', q', r', s', x', y', l', ()) =
  (.br (decide (i < (↑(List.length l) : Int)))
   (.req ((decide ((0 : Int) ≤ i) && decide (i < (↑(List.length l) : Int))) = true)
   (.req ((decide ((0 : Int) ≤ i) && decide (i < (↑(List.length l') : Int))) = true)
   (.br (!(Report.Kind (ri l i) == Report.Kind (ri l' i) && (Report.Z (ri l i) == Report.Z (ri l' i) && (Report.P (ri l i) == Report.P (ri l' i) && true))))
    (.leaf (.inr (.ret, [.t (false)])))
    (.leaf (.inl (IntKind.wrap IntKind.i64 (i + (1 : Int)), (b, (p, (q, (r, (s, (x, (y, (l, (b', (p', (q', (r', (s', (x', (y', (l', ()))))))))))))))))))))))
   (.leaf (.inr (.exit (0 : Nat), [.n (b), .l (78 : Nat) (p), .l (78 : Nat) (q), .l (78 : Nat) (r), .l (78 : Nat) (s), .n (x), .n (y), .l (55 : Nat) (l), .n (b'), .l (78 : Nat) (p'), .l (78 : Nat) (q'), .l (78 : Nat) (r'), .l (78 : Nat) (s'), .n (x'), .n (y'), .l (55 : Nat) (l')])))) := by kernel_rfl
theorem h45' (i : Nat) (b : Int) (p q r s : List Knot) (x y : Int) (l : List Report) (b' : Int) (p' q' r' s' : List Knot) (x' y' : Int) (l' : List Report) (K : Ex × List (V T) → Prop) (hl : l.length = l'.length) (hn : l.length ≤ 1000) (hK : (Tree.br (eqR (l.drop i) (l'.drop i)) (.leaf (.exit 0, eD b p q r s x y l ++ eD b' p' q' r' s' x' y' l')) (.leaf (.ret, [.t false])) : Tree (Ex × List (V T))).holds K) :
    (bodyD Try.prog E c45 0 (bodyX Try.prog E ctC noLoops 1000 5 L0 (lpOf Try.prog 45 0)) ((i : Int), b, p, q, r, s, x, y, l, b', p', q', r', s', x', y', l', ())).holds fun y => match y with
    | .inl d => ((d.2.2.2.2.2.2.2.2.1.length : Int) - d.1).toNat < ((l.length : Int) - (i : Int)).toNat ∧ (c45.out d).holds K
    | .inr y => K y := by
  rw [b45]
  refine way (fun c => wayC (by omega) c fun _ _ => wayC (by omega) (by omega) fun _ _ => ?_) fun c => ?_
  · have e2 : IntKind.wrap IntKind.i64 ((i : Int) + 1) = ((i + 1 : Nat) : Int) := i64_in' (by omega) (by omega)
    rw [e2]
    rw [drop_ri (by omega), drop_ri (l := l') (by omega), eqR_cons] at hK
    have hlt : ((l.length : Int) - ((i + 1 : Nat) : Int)).toNat < ((l.length : Int) - (i : Int)).toNat := by omega
    have h3 : (0 : Int) ≤ ((i + 1 : Nat) : Int) := by omega
    generalize ((ri l i).Kind == (ri l' i).Kind && ((ri l i).Z == (ri l' i).Z && ((ri l i).P == (ri l' i).P && true))) = w at hK ⊢
    cases w with
    | true =>
      rw [Bool.true_and] at hK
      exact ⟨fun h => (by cases h), fun _ => ⟨hlt, ⟨h3, hl, hn⟩, hK⟩⟩
    | false => exact ⟨fun _ => hK.2 rfl, fun h => (by cases h)⟩
  · rw [show l.drop i = [] from List.drop_eq_nil_of_le (by omega), eqR_nil] at hK
    exact hK.1 rfl
theorem h45 : LoopH Try.prog E c45 0 (bodyX Try.prog E ctC noLoops 1000 5 L0 (lpOf Try.prog 45 0)) :=
  ⟨fun d => ((d.2.2.2.2.2.2.2.2.1.length : Int) - d.1).toNat, fun d K hK => by
    obtain ⟨i, b, p, q, r, s, x, y, l, b', p', q', r', s', x', y', l', ⟨⟩⟩ := d
    obtain ⟨⟨k1, k2, k3⟩, k4⟩ := hK
    obtain ⟨m, hm⟩ := Int.eq_ofNat_of_zero_le k1
    obtain rfl : i = (m : Int) := hm
    refine Tree.holds_mono (fun y hy => ?_) (h45' m b p q r s x y l b' p' q' r' s' x' y' l' K k2 k3 k4)
    cases y with
    | inl d' => exact hy
    | inr y => exact hy⟩
theorem ll45 : LLOk Try.prog E (llOf Try.prog E 45 [(4, c45)]) := llOf_ok fun i hi c hc => by
  have hi : i < 1 := hi
  obtain rfl : i = 0 := by omega
  obtain rfl : c45 = c := Option.some.inj hc
  exact LSnd.mk good names mixes ctC_ok (by decide) h45
theorem tv45 (e f : Earth) : runX ctC (llOf Try.prog E 45 [(4, c45)]) 45 [e.av, f.av] [4] =
  (.br (Earth.Bottom e != Earth.Bottom f)
   (.leaf (.bool (false)))
   (.br (Earth.GLo e != Earth.GLo f)
    (.leaf (.bool (false)))
    (.br (Earth.GHi e != Earth.GHi f)
     (.leaf (.bool (false)))
     (.br ((↑(List.length (Earth.Reports e)) : Int) != (↑(List.length (Earth.Reports f)) : Int))
      (.leaf (.bool (false)))
      (.req ((0 : Int) ≤ (0 : Int) ∧ List.length (Earth.Reports e) = List.length (Earth.Reports f) ∧ List.length (Earth.Reports e) ≤ (1000 : Nat))
      (.br (eqR (List.drop (Int.toNat (0 : Int)) (Earth.Reports e)) (List.drop (Int.toNat (0 : Int)) (Earth.Reports f)))
       (.req (List.length (Line.Knots (Earth.PoreLo e)) ≤ (1000 : Nat) ∧ List.length (Line.Knots (Earth.PoreLo f)) ≤ (1000 : Nat))
       (.br (sameB (Line.Knots (Earth.PoreLo e)) (Line.Knots (Earth.PoreLo f)))
        (.req (List.length (Line.Knots (Earth.PoreHi e)) ≤ (1000 : Nat) ∧ List.length (Line.Knots (Earth.PoreHi f)) ≤ (1000 : Nat))
        (.br (sameB (Line.Knots (Earth.PoreHi e)) (Line.Knots (Earth.PoreHi f)))
         (.req (List.length (Line.Knots (Earth.FracLo e)) ≤ (1000 : Nat) ∧ List.length (Line.Knots (Earth.FracLo f)) ≤ (1000 : Nat))
         (.br (sameB (Line.Knots (Earth.FracLo e)) (Line.Knots (Earth.FracLo f)))
          (.req (List.length (Line.Knots (Earth.FracHi e)) ≤ (1000 : Nat) ∧ List.length (Line.Knots (Earth.FracHi f)) ≤ (1000 : Nat))
          (.leaf (.bool (sameB (Line.Knots (Earth.FracHi e)) (Line.Knots (Earth.FracHi f))))))
          (.leaf (.bool (false)))))
         (.leaf (.bool (false)))))
        (.leaf (.bool (false)))))
       (.leaf (.bool (false))))))))) := by kernel_rfl
noncomputable def sameE (e f : Earth) : Bool := (e.Bottom == f.Bottom) && ((e.GLo == f.GLo) && ((e.GHi == f.GHi) && (((e.Reports.length : Int) == (f.Reports.length : Int)) && (eqR e.Reports f.Reports && (sameB e.PoreLo.Knots f.PoreLo.Knots && (sameB e.PoreHi.Knots f.PoreHi.Knots && (sameB e.FracLo.Knots f.FracLo.Knots && sameB e.FracHi.Knots f.FracHi.Knots)))))))
theorem sameE_self (e : Earth) : sameE e e = true := by
  unfold sameE
  rw [eqR_self, sameB_self, sameB_self, sameB_self, sameB_self]
  simp
theorem wayK {b : Bool} {t : Tree (AV T)} {r : Bool} (h : b = true → t.holds fun v => v = .bool r) : (Tree.br b t (.leaf (.bool false))).holds fun v => v = .bool (b && r) := by
  cases b with
  | true => exact ⟨fun _ => h rfl, fun h => by cases h⟩
  | false => exact ⟨fun h => (by cases h), fun _ => rfl⟩
theorem wayKN {a b : Int} {t : Tree (AV T)} {r : Bool} (h : a = b → t.holds fun v => v = .bool r) : (Tree.br (a != b) (.leaf (.bool false)) t).holds fun v => v = .bool ((a == b) && r) := by
  by_cases e : a = b
  · subst e
    refine wayNe (fun k => absurd rfl k) fun _ => ?_
    rw [show (a == a) = true by simp, Bool.true_and]
    exact h rfl
  · refine wayNe (fun _ => ?_) fun k => absurd k e
    rw [show (a == b) = false by simpa using e, Bool.false_and]
    rfl
theorem s45 (e f : Earth) (h : smallE e ∧ smallE f) : (runX ctC (llOf Try.prog E 45 [(4, c45)]) 45 [e.av, f.av] [4]).holds fun v => v = .bool (sameE e f) := by
  rw [tv45]
  obtain ⟨⟨⟨h1, h2, h3, h4⟩, h5⟩, ⟨g1, g2, g3, g4⟩, g5⟩ := h
  unfold sameE
  refine wayKN fun _ => wayKN fun _ => wayKN fun _ => wayKN fun k => ⟨⟨by decide, by omega, by omega⟩, ?_⟩
  exact wayK fun _ => ⟨⟨by omega, by omega⟩, wayK fun _ => ⟨⟨by omega, by omega⟩, wayK fun _ => ⟨⟨by omega, by omega⟩, wayK fun _ => ⟨⟨by omega, by omega⟩, rfl⟩⟩⟩⟩
@[reducible] def sig2E : List VT := [.n, .l 78, .l 78, .l 78, .l 78, .n, .n, .l 55, .n, .l 78, .l 78, .l 78, .l 78, .n, .n, .l 55]
@[reducible] noncomputable def e1 (d : Den T sig2E) : Earth := ⟨d.1, ⟨d.2.1⟩, ⟨d.2.2.1⟩, ⟨d.2.2.2.1⟩, ⟨d.2.2.2.2.1⟩, d.2.2.2.2.2.1, d.2.2.2.2.2.2.1, d.2.2.2.2.2.2.2.1⟩
@[reducible] noncomputable def e2 (d : Den T sig2E) : Earth := ⟨d.2.2.2.2.2.2.2.2.1, ⟨d.2.2.2.2.2.2.2.2.2.1⟩, ⟨d.2.2.2.2.2.2.2.2.2.2.1⟩, ⟨d.2.2.2.2.2.2.2.2.2.2.2.1⟩, ⟨d.2.2.2.2.2.2.2.2.2.2.2.2.1⟩, d.2.2.2.2.2.2.2.2.2.2.2.2.2.1, d.2.2.2.2.2.2.2.2.2.2.2.2.2.2.1, d.2.2.2.2.2.2.2.2.2.2.2.2.2.2.2.1⟩
noncomputable def cSameE : Con T := conP Try.prog [shE, shE] sig2E (fun d => smallE (e1 d) ∧ smallE (e2 d)) fun d => .bool (sameE (e1 d) (e2 d))
theorem sameE_ok : ConOk Try.prog E 45 cSameE := conP_ok fun d hd => fact_run ctC_ok ll45 (ts := [4]) rfl (s45 (e1 d) (e2 d) hd)
end Go.Proofs.Ytdlholmphenhhaa.W
end

set_option linter.unusedVariables false
set_option maxRecDepth 100000
set_option maxHeartbeats 4000000
noncomputable section
namespace Go.Proofs.Ytdlholmphenhhaa.W
open Go Go.Cx Go.RowKit
noncomputable def runW (ct : CTab T) (ll : Nat → Nat → LoopTab T) (fl : List Nat) (f : Nat) (xs : List (AV T)) (ts : List Nat) : Tree (AV T × List (V T)) := resW Try.prog fl ts (callX Try.prog E ct ll 1000 8 (.fn f) xs hp0)
theorem factW_run {ct : CTab T} (hc : CTabOk Try.prog E ct) {ll : Nat → Nat → LoopTab T} (hl : LLOk Try.prog E ll) {fl : List Nat} (hfl : ∀ τ, memN τ fl = true → ∀ x : T τ, (E.enc τ x).all ind0 = true) {f : Nat} {xs : List (AV T)} {ts : List Nat} {v : AV T} {es : List (V T)} (ha : xs.all flt2 = true)
    (h : (runW ct ll fl f xs ts).holds fun x => x = (v, es)) : FactW Try.prog E f xs v es :=
  factW_of_run good hfl (callX_ok good names mixes hc hl 8) ha h
theorem flE : ∀ τ, memN τ [78, 55] = true → ∀ x : T τ, (E.enc τ x).all ind0 = true := fun τ h => by
  have := memN_iff.1 h
  have : τ = 78 ∨ τ = 55 := by simpa using this
  rcases this with rfl | rfl <;> exact fun x => rfl
theorem tv105 (l : List Knot) : runW [] noLoops [78, 55] 105 [.sl 78 l false] [22] =
  (.br (List.isEmpty l)
   (.amb
    (.leaf ((.ls 0 (78 : Nat) ((0 : Nat)), [.l (78 : Nat) ([])])))
    (.req ((0 : Nat) + List.length l ≤ (1073741824 : Nat))
    (.leaf ((.ls 0 (78 : Nat) (List.length ([] ++ l)), [.l (78 : Nat) ([] ++ l)])))))
   (.req ((0 : Nat) + List.length l ≤ (1073741824 : Nat))
   (.leaf ((.ls 0 (78 : Nat) (List.length ([] ++ l)), [.l (78 : Nat) ([] ++ l)]))))) := by kernel_rfl
theorem tv106 (l : List Report) : runW [] noLoops [78, 55] 106 [.sl 55 l false] [37] =
  (.br (List.isEmpty l)
   (.amb
    (.leaf ((.ls 0 (55 : Nat) ((0 : Nat)), [.l (55 : Nat) ([])])))
    (.req ((0 : Nat) + List.length l ≤ (1073741824 : Nat))
    (.leaf ((.ls 0 (55 : Nat) (List.length ([] ++ l)), [.l (55 : Nat) ([] ++ l)])))))
   (.req ((0 : Nat) + List.length l ≤ (1073741824 : Nat))
   (.leaf ((.ls 0 (55 : Nat) (List.length ([] ++ l)), [.l (55 : Nat) ([] ++ l)]))))) := by kernel_rfl
theorem s105 (l : List Knot) (h : l.length ≤ 1073741824) : (runW [] noLoops [78, 55] 105 [.sl 78 l false] [22]).holds fun x => x = (.ls 0 78 l.length, [.l 78 l]) := by
  rw [tv105]
  have h2 : 0 + l.length ≤ 1073741824 := by omega
  refine ⟨fun e => ⟨?_, h2, rfl⟩, fun _ => ⟨h2, rfl⟩⟩
  have e : l = [] := List.isEmpty_iff.1 e
  subst e
  rfl
theorem s106 (l : List Report) (h : l.length ≤ 1073741824) : (runW [] noLoops [78, 55] 106 [.sl 55 l false] [37]).holds fun x => x = (.ls 0 55 l.length, [.l 55 l]) := by
  rw [tv106]
  have h2 : 0 + l.length ≤ 1073741824 := by omega
  refine ⟨fun e => ⟨?_, h2, rfl⟩, fun _ => ⟨h2, rfl⟩⟩
  have e : l = [] := List.isEmpty_iff.1 e
  subst e
  rfl
noncomputable def cCl1 : Con T := conPW Try.prog E [.one (.s 78)] [.l 78] (fun d => (show List Knot from d.1).length ≤ 1073741824) (fun d => .ls 0 78 d.1.length) fun d => [.l 78 d.1]
noncomputable def cCl2 : Con T := conPW Try.prog E [.one (.s 55)] [.l 55] (fun d => (show List Report from d.1).length ≤ 1073741824) (fun d => .ls 0 55 d.1.length) fun d => [.l 55 d.1]
theorem cl1_ok : ConOk Try.prog E 105 cCl1 := conPW_ok fun d hd => factW_run .nil noLoops_ok flE rfl (s105 d.1 hd)
theorem cl2_ok : ConOk Try.prog E 106 cCl2 := conPW_ok fun d hd => factW_run .nil noLoops_ok flE rfl (s106 d.1 hd)
noncomputable def ctAd : CTab T := [(105, cCl1), (106, cCl2), (31, cCheck), (32, cCheck)]
theorem ctAd_ok : CTabOk Try.prog E ctAd := .cons cl1_ok (.cons cl2_ok (.cons check_ok (.cons check2_ok .nil)))
theorem tv48 (e : Earth) (r : Report) : runW ctAd noLoops [78, 55] 48 [e.av, r.av] [39, 27] =
  (.br (eErr (eOf (Earth.Bottom e, Line.Knots (Earth.PoreLo e), Line.Knots (Earth.PoreHi e), Line.Knots (Earth.FracLo e), Line.Knots (Earth.FracHi e), Earth.GLo e, Earth.GHi e, Earth.Reports e, ())) != (0 : Int))
   (.leaf ((.tup [.agg [.sym .i64 ((0 : Int)), .ls 0 (78 : Nat) ((0 : Nat)), .ls 1 (78 : Nat) ((0 : Nat)), .ls 2 (78 : Nat) ((0 : Nat)), .ls 3 (78 : Nat) ((0 : Nat)), .sym .i64 ((0 : Int)), .sym .i64 ((0 : Int)), .ls 4 (55 : Nat) ((0 : Nat))], .sym .i64 (eErr (eOf (Earth.Bottom e, Line.Knots (Earth.PoreLo e), Line.Knots (Earth.PoreHi e), Line.Knots (Earth.FracLo e), Line.Knots (Earth.FracHi e), Earth.GLo e, Earth.GHi e, Earth.Reports e, ())))], [.l (78 : Nat) ([]), .l (78 : Nat) ([]), .l (78 : Nat) ([]), .l (78 : Nat) ([]), .l (55 : Nat) ([])])))
   (.req (List.length (Line.Knots (Earth.PoreLo e)) ≤ (1073741824 : Nat))
   (.req (List.length (Line.Knots (Earth.PoreHi e)) ≤ (1073741824 : Nat))
   (.req (List.length (Line.Knots (Earth.FracLo e)) ≤ (1073741824 : Nat))
   (.req (List.length (Line.Knots (Earth.FracHi e)) ≤ (1073741824 : Nat))
   (.req (List.length (Earth.Reports e) ≤ (1073741824 : Nat))
   (.req (List.length (Earth.Reports e) = List.length (Earth.Reports e))
   (.req (List.length (Earth.Reports e) + List.length [Report.mk (Report.Kind r) (Report.Z r) (Report.P r)] ≤ (1073741824 : Nat))
   (.req (List.length (Line.Knots (Earth.PoreLo e)) = List.length (Line.Knots (Earth.PoreLo e)))
   (.req (List.length (Line.Knots (Earth.PoreHi e)) = List.length (Line.Knots (Earth.PoreHi e)))
   (.req (List.length (Line.Knots (Earth.FracLo e)) = List.length (Line.Knots (Earth.FracLo e)))
   (.req (List.length (Line.Knots (Earth.FracHi e)) = List.length (Line.Knots (Earth.FracHi e)))
   (.req (List.length (Earth.Reports e ++ [Report.mk (Report.Kind r) (Report.Z r) (Report.P r)]) = List.length (Earth.Reports e ++ [Report.mk (Report.Kind r) (Report.Z r) (Report.P r)]))
   (.br (eErr (eOf (Earth.Bottom e, Line.Knots (Earth.PoreLo e), Line.Knots (Earth.PoreHi e), Line.Knots (Earth.FracLo e), Line.Knots (Earth.FracHi e), Earth.GLo e, Earth.GHi e, Earth.Reports e ++ [Report.mk (Report.Kind r) (Report.Z r) (Report.P r)], ())) != (0 : Int))
    (.leaf ((.tup [.agg [.sym .i64 ((0 : Int)), .ls 0 (78 : Nat) ((0 : Nat)), .ls 1 (78 : Nat) ((0 : Nat)), .ls 2 (78 : Nat) ((0 : Nat)), .ls 3 (78 : Nat) ((0 : Nat)), .sym .i64 ((0 : Int)), .sym .i64 ((0 : Int)), .ls 4 (55 : Nat) ((0 : Nat))], .sym .i64 (eErr (eOf (Earth.Bottom e, Line.Knots (Earth.PoreLo e), Line.Knots (Earth.PoreHi e), Line.Knots (Earth.FracLo e), Line.Knots (Earth.FracHi e), Earth.GLo e, Earth.GHi e, Earth.Reports e ++ [Report.mk (Report.Kind r) (Report.Z r) (Report.P r)], ())))], [.l (78 : Nat) ([]), .l (78 : Nat) ([]), .l (78 : Nat) ([]), .l (78 : Nat) ([]), .l (55 : Nat) ([])])))
    (.leaf ((.tup [.agg [.sym .i64 (Earth.Bottom e), .ls 0 (78 : Nat) (List.length (Line.Knots (Earth.PoreLo e))), .ls 1 (78 : Nat) (List.length (Line.Knots (Earth.PoreHi e))), .ls 2 (78 : Nat) (List.length (Line.Knots (Earth.FracLo e))), .ls 3 (78 : Nat) (List.length (Line.Knots (Earth.FracHi e))), .sym .i64 (Earth.GLo e), .sym .i64 (Earth.GHi e), .ls 4 (55 : Nat) (List.length (Earth.Reports e ++ [Report.mk (Report.Kind r) (Report.Z r) (Report.P r)]))], .sym .i64 ((0 : Int))], [.l (78 : Nat) (Line.Knots (Earth.PoreLo e)), .l (78 : Nat) (Line.Knots (Earth.PoreHi e)), .l (78 : Nat) (Line.Knots (Earth.FracLo e)), .l (78 : Nat) (Line.Knots (Earth.FracHi e)), .l (55 : Nat) (Earth.Reports e ++ [Report.mk (Report.Kind r) (Report.Z r) (Report.P r)])]))))))))))))))))) := by kernel_rfl
theorem tv49 (e : Earth) (r : Report) : runW ctAd noLoops [78, 55] 49 [e.av, r.av] [39, 27] =
  (.br (eErr (eOf (Earth.Bottom e, Line.Knots (Earth.PoreLo e), Line.Knots (Earth.PoreHi e), Line.Knots (Earth.FracLo e), Line.Knots (Earth.FracHi e), Earth.GLo e, Earth.GHi e, Earth.Reports e, ())) != (0 : Int))
   (.leaf ((.tup [.agg [.sym .i64 ((0 : Int)), .ls 0 (78 : Nat) ((0 : Nat)), .ls 1 (78 : Nat) ((0 : Nat)), .ls 2 (78 : Nat) ((0 : Nat)), .ls 3 (78 : Nat) ((0 : Nat)), .sym .i64 ((0 : Int)), .sym .i64 ((0 : Int)), .ls 4 (55 : Nat) ((0 : Nat))], .sym .i64 (eErr (eOf (Earth.Bottom e, Line.Knots (Earth.PoreLo e), Line.Knots (Earth.PoreHi e), Line.Knots (Earth.FracLo e), Line.Knots (Earth.FracHi e), Earth.GLo e, Earth.GHi e, Earth.Reports e, ())))], [.l (78 : Nat) ([]), .l (78 : Nat) ([]), .l (78 : Nat) ([]), .l (78 : Nat) ([]), .l (55 : Nat) ([])])))
   (.req ((0 : Nat) + List.length (Line.Knots (Earth.PoreLo e)) ≤ (1073741824 : Nat))
   (.req ((0 : Nat) + List.length (Line.Knots (Earth.PoreHi e)) ≤ (1073741824 : Nat))
   (.req ((0 : Nat) + List.length (Line.Knots (Earth.FracLo e)) ≤ (1073741824 : Nat))
   (.req ((0 : Nat) + List.length (Line.Knots (Earth.FracHi e)) ≤ (1073741824 : Nat))
   (.req ((0 : Nat) + List.length (Earth.Reports e) ≤ (1073741824 : Nat))
   (.req (List.length ([] ++ Earth.Reports e) = List.length ([] ++ Earth.Reports e))
   (.req (List.length ([] ++ Earth.Reports e) + List.length [Report.mk (Report.Kind r) (Report.Z r) (Report.P r)] ≤ (1073741824 : Nat))
   (.req (List.length ([] ++ Line.Knots (Earth.PoreLo e)) = List.length ([] ++ Line.Knots (Earth.PoreLo e)))
   (.req (List.length ([] ++ Line.Knots (Earth.PoreHi e)) = List.length ([] ++ Line.Knots (Earth.PoreHi e)))
   (.req (List.length ([] ++ Line.Knots (Earth.FracLo e)) = List.length ([] ++ Line.Knots (Earth.FracLo e)))
   (.req (List.length ([] ++ Line.Knots (Earth.FracHi e)) = List.length ([] ++ Line.Knots (Earth.FracHi e)))
   (.req (List.length ([] ++ Earth.Reports e ++ [Report.mk (Report.Kind r) (Report.Z r) (Report.P r)]) = List.length ([] ++ Earth.Reports e ++ [Report.mk (Report.Kind r) (Report.Z r) (Report.P r)]))
   (.br (eErr (eOf (Earth.Bottom e, [] ++ Line.Knots (Earth.PoreLo e), [] ++ Line.Knots (Earth.PoreHi e), [] ++ Line.Knots (Earth.FracLo e), [] ++ Line.Knots (Earth.FracHi e), Earth.GLo e, Earth.GHi e, [] ++ Earth.Reports e ++ [Report.mk (Report.Kind r) (Report.Z r) (Report.P r)], ())) != (0 : Int))
    (.leaf ((.tup [.agg [.sym .i64 ((0 : Int)), .ls 0 (78 : Nat) ((0 : Nat)), .ls 1 (78 : Nat) ((0 : Nat)), .ls 2 (78 : Nat) ((0 : Nat)), .ls 3 (78 : Nat) ((0 : Nat)), .sym .i64 ((0 : Int)), .sym .i64 ((0 : Int)), .ls 4 (55 : Nat) ((0 : Nat))], .sym .i64 (eErr (eOf (Earth.Bottom e, [] ++ Line.Knots (Earth.PoreLo e), [] ++ Line.Knots (Earth.PoreHi e), [] ++ Line.Knots (Earth.FracLo e), [] ++ Line.Knots (Earth.FracHi e), Earth.GLo e, Earth.GHi e, [] ++ Earth.Reports e ++ [Report.mk (Report.Kind r) (Report.Z r) (Report.P r)], ())))], [.l (78 : Nat) ([]), .l (78 : Nat) ([]), .l (78 : Nat) ([]), .l (78 : Nat) ([]), .l (55 : Nat) ([])])))
    (.leaf ((.tup [.agg [.sym .i64 (Earth.Bottom e), .ls 0 (78 : Nat) (List.length ([] ++ Line.Knots (Earth.PoreLo e))), .ls 1 (78 : Nat) (List.length ([] ++ Line.Knots (Earth.PoreHi e))), .ls 2 (78 : Nat) (List.length ([] ++ Line.Knots (Earth.FracLo e))), .ls 3 (78 : Nat) (List.length ([] ++ Line.Knots (Earth.FracHi e))), .sym .i64 (Earth.GLo e), .sym .i64 (Earth.GHi e), .ls 4 (55 : Nat) (List.length ([] ++ Earth.Reports e ++ [Report.mk (Report.Kind r) (Report.Z r) (Report.P r)]))], .sym .i64 ((0 : Int))], [.l (78 : Nat) ([] ++ Line.Knots (Earth.PoreLo e)), .l (78 : Nat) ([] ++ Line.Knots (Earth.PoreHi e)), .l (78 : Nat) ([] ++ Line.Knots (Earth.FracLo e)), .l (78 : Nat) ([] ++ Line.Knots (Earth.FracHi e)), .l (55 : Nat) ([] ++ Earth.Reports e ++ [Report.mk (Report.Kind r) (Report.Z r) (Report.P r)])]))))))))))))))))) := by kernel_rfl
noncomputable def ap (e : Earth) (r : Report) : Earth := ⟨e.Bottom, e.PoreLo, e.PoreHi, e.FracLo, e.FracHi, e.GLo, e.GHi, e.Reports ++ [r]⟩
noncomputable def aE (e : Earth) (r : Report) : Int := if eErr e = 0 then eErr (ap e r) else eErr e
noncomputable def aR (e : Earth) (r : Report) : Earth := if aE e r = 0 then ap e r else ⟨0, ⟨[]⟩, ⟨[]⟩, ⟨[]⟩, ⟨[]⟩, 0, 0, []⟩
@[reducible] noncomputable def eW (x : Earth) : AV T := .agg [i64 x.Bottom, .ls 0 78 x.PoreLo.Knots.length, .ls 1 78 x.PoreHi.Knots.length, .ls 2 78 x.FracLo.Knots.length, .ls 3 78 x.FracHi.Knots.length, i64 x.GLo, i64 x.GHi, .ls 4 55 x.Reports.length]
@[reducible] noncomputable def eL (x : Earth) : List (V T) := [.l 78 x.PoreLo.Knots, .l 78 x.PoreHi.Knots, .l 78 x.FracLo.Knots, .l 78 x.FracHi.Knots, .l 55 x.Reports]
theorem a_no {e : Earth} {r : Report} {n : Int} (h : aE e r = n) (h0 : n ≠ 0) : ((.tup [.agg [i64 0, .ls 0 78 0, .ls 1 78 0, .ls 2 78 0, .ls 3 78 0, i64 0, i64 0, .ls 4 55 0], i64 n] : AV T), ([.l 78 [], .l 78 [], .l 78 [], .l 78 [], .l 55 []] : List (V T))) = (.tup [eW (aR e r), i64 (aE e r)], eL (aR e r)) := by
  unfold aR
  rw [h, if_neg h0]
  rfl
theorem a_yes {e : Earth} {r : Report} (h : aE e r = 0) : ((.tup [eW (ap e r), i64 0] : AV T), eL (ap e r)) = (.tup [eW (aR e r), i64 (aE e r)], eL (aR e r)) := by
  unfold aR
  rw [h, if_pos rfl]
theorem s48 (e : Earth) (r : Report) (h : smallE e) : (runW ctAd noLoops [78, 55] 48 [e.av, r.av] [39, 27]).holds fun x => x = (.tup [eW (aR e r), i64 (aE e r)], eL (aR e r)) := by
  rw [tv48]
  obtain ⟨⟨h1, h2, h3, h4⟩, h5⟩ := h
  have l1 : e.Reports.length + 1 ≤ 1073741824 := by omega
  refine wayNe (fun k => a_no (if_neg k) k) fun k => ?_
  refine ⟨by omega, by omega, by omega, by omega, by omega, rfl, l1, rfl, rfl, rfl, rfl, rfl, ?_⟩
  exact wayNe (fun k2 => a_no (if_pos k) k2) fun k2 => a_yes ((if_pos k).trans k2)
theorem s49 (e : Earth) (r : Report) (h : smallE e) : (runW ctAd noLoops [78, 55] 49 [e.av, r.av] [39, 27]).holds fun x => x = (.tup [eW (aR e r), i64 (aE e r)], eL (aR e r)) := by
  rw [tv49]
  obtain ⟨⟨h1, h2, h3, h4⟩, h5⟩ := h
  have l1 : e.Reports.length + 1 ≤ 1073741824 := by omega
  refine wayNe (fun k => a_no (if_neg k) k) fun k => ?_
  refine ⟨by omega, by omega, by omega, by omega, by omega, rfl, l1, rfl, rfl, rfl, rfl, rfl, ?_⟩
  exact wayNe (fun k2 => a_no (if_pos k) k2) fun k2 => a_yes ((if_pos k).trans k2)
@[reducible] def sigER : List VT := [.n, .l 78, .l 78, .l 78, .l 78, .n, .n, .l 55, .n, .n, .n]
@[reducible] noncomputable def eA (d : Den T sigER) : Earth := ⟨d.1, ⟨d.2.1⟩, ⟨d.2.2.1⟩, ⟨d.2.2.2.1⟩, ⟨d.2.2.2.2.1⟩, d.2.2.2.2.2.1, d.2.2.2.2.2.2.1, d.2.2.2.2.2.2.2.1⟩
@[reducible] noncomputable def rA (d : Den T sigER) : Report := ⟨d.2.2.2.2.2.2.2.2.1, d.2.2.2.2.2.2.2.2.2.1, d.2.2.2.2.2.2.2.2.2.2.1⟩
noncomputable def cAdd : Con T := conPW Try.prog E [shE, .agg [.i .i64, .i .i64, .i .i64]] sigER (fun d => smallE (eA d)) (fun d => .tup [eW (aR (eA d) (rA d)), i64 (aE (eA d) (rA d))]) fun d => eL (aR (eA d) (rA d))
theorem add_ok : ConOk Try.prog E 48 cAdd := conPW_ok fun d hd => factW_run ctAd_ok noLoops_ok flE rfl (s48 (eA d) (rA d) hd)
theorem add2_ok : ConOk Try.prog E 49 cAdd := conPW_ok fun d hd => factW_run ctAd_ok noLoops_ok flE rfl (s49 (eA d) (rA d) hd)
noncomputable def ctLA : CTab T := [(48, cAdd), (49, cAdd), (38, cCopy), (45, cSameE), (17, cAwake)]
theorem ctLA_ok : CTabOk Try.prog E ctLA := .cons add_ok (.cons add2_ok (.cons copy_ok (.cons sameE_ok (.cons awake_ok .nil))))
end Go.Proofs.Ytdlholmphenhhaa.W
end

set_option linter.unusedVariables false
set_option maxRecDepth 100000
set_option maxHeartbeats 4000000
noncomputable section
namespace Go.Proofs.Ytdlholmphenhhaa.W
open Go Go.Cx Go.RowKit
noncomputable def zz (l : List Report) (i : Int) : Report := ixD E 55 l i
noncomputable def rp (r : Report) : Report := ⟨r.Kind, r.Z, IntKind.wrap IntKind.i64 (r.P + 1)⟩
noncomputable def up2 : Nat → List Report → Nat → List Report
  | 0, l, _ => l
  | n + 1, l, i => up2 n (l.set i (rp (zz l i))) (i + 1)
theorem up2_len : ∀ (n : Nat) (l : List Report) (i : Nat), (up2 n l i).length = l.length
  | 0, _, _ => rfl
  | n + 1, l, i => by
    show (up2 n (l.set i (rp (zz l i))) (i + 1)).length = _
    rw [up2_len n, List.length_set]
noncomputable def oAA (a1 : List Knot) (a2 : List Knot) (a3 : List Knot) (a4 : List Knot) (a5 : List Report) (b1 : List Knot) (b2 : List Knot) (b3 : List Knot) (b4 : List Knot) (b5 : List Report) (x : Int) (y : Int) (i : Int) (c0 : Int) (c1 : List Knot) (c2 : List Knot) (c3 : List Knot) (c4 : List Knot) (c5 : Int) (c6 : Int) (c7 : List Report) (d0 : Int) (d1 : List Knot) (d2 : List Knot) (d3 : List Knot) (d4 : List Knot) (d5 : Int) (d6 : Int) (d7 : List Report) (f0 : Int) (f5 : Int) (f6 : Int) (g0 : Int) (g5 : Int) (g6 : Int) : Tree (Ex × List (V T)) := .req (0 ≤ i ∧ i ≤ a5.length ∧ a5.length ≤ 1000) (.leaf (.exit 0, [.l 78 a1, .l 78 a2, .l 78 a3, .l 78 a4, .l 55 (up2 (a5.length - i.toNat) a5 i.toNat), .l 78 b1, .l 78 b2, .l 78 b3, .l 78 b4, .l 55 b5, .n x, .n y, .n c0, .l 78 c1, .l 78 c2, .l 78 c3, .l 78 c4, .n c5, .n c6, .l 55 c7, .n d0, .l 78 d1, .l 78 d2, .l 78 d3, .l 78 d4, .n d5, .n d6, .l 55 d7, .n f0, .n f5, .n f6, .n g0, .n g5, .n g6]))
noncomputable def cAA : LoopC T := ⟨(.l 78 :: .l 78 :: .l 78 :: .l 78 :: .l 55 :: .l 78 :: .l 78 :: .l 78 :: .l 78 :: .l 55 :: .n :: .n :: .n :: .n :: .l 78 :: .l 78 :: .l 78 :: .l 78 :: .n :: .n :: .l 55 :: .n :: .l 78 :: .l 78 :: .l 78 :: .l 78 :: .n :: .n :: .l 55 :: .n :: .n :: .n :: .n :: .n :: .n :: []), ⟨78, [(2, .one (.o 0 0)), (5, .one (.o 1 0)), (6, .one (.o 2 0)), (7, .one (.i .i64)), (8, .one (.o 3 0)), (9, .one (.i .i64)), (10, .one (.i .i64))], [.c [.i .i64, .s 78, .s 78, .s 78, .s 78, .i .i64, .i .i64, .s 55], .c [.i .i64, .s 78, .s 78, .s 78, .s 78, .i .i64, .i .i64, .s 55], .c [.i .i64, .g 4 78, .g 5 78, .g 6 78, .g 7 78, .i .i64, .i .i64, .g 8 55], .c [.i .i64, .g 9 78, .g 10 78, .g 11 78, .g 12 78, .i .i64, .i .i64, .g 13 55], .l 78, .l 78, .l 78, .l 78, .l 55, .l 78, .l 78, .l 78, .l 78, .l 55]⟩, fun _ => ⟨78, [(2, .one (.o 0 0)), (5, .one (.o 1 0)), (6, .one (.o 2 0)), (7, .one (.i .i64)), (8, .one (.o 3 0)), (9, .one (.i .i64))], [.c [.i .i64, .s 78, .s 78, .s 78, .s 78, .i .i64, .i .i64, .s 55], .c [.i .i64, .s 78, .s 78, .s 78, .s 78, .i .i64, .i .i64, .s 55], .c [.i .i64, .g 4 78, .g 5 78, .g 6 78, .g 7 78, .i .i64, .i .i64, .g 8 55], .c [.i .i64, .g 9 78, .g 10 78, .g 11 78, .g 12 78, .i .i64, .i .i64, .g 13 55], .l 78, .l 78, .l 78, .l 78, .l 55, .l 78, .l 78, .l 78, .l 78, .l 55]⟩, 60, fun d => oAA d.1 d.2.1 d.2.2.1 d.2.2.2.1 d.2.2.2.2.1 d.2.2.2.2.2.1 d.2.2.2.2.2.2.1 d.2.2.2.2.2.2.2.1 d.2.2.2.2.2.2.2.2.1 d.2.2.2.2.2.2.2.2.2.1 d.2.2.2.2.2.2.2.2.2.2.1 d.2.2.2.2.2.2.2.2.2.2.2.1 d.2.2.2.2.2.2.2.2.2.2.2.2.1 d.2.2.2.2.2.2.2.2.2.2.2.2.2.1 d.2.2.2.2.2.2.2.2.2.2.2.2.2.2.1 d.2.2.2.2.2.2.2.2.2.2.2.2.2.2.2.1 d.2.2.2.2.2.2.2.2.2.2.2.2.2.2.2.2.1 d.2.2.2.2.2.2.2.2.2.2.2.2.2.2.2.2.2.1 d.2.2.2.2.2.2.2.2.2.2.2.2.2.2.2.2.2.2.1 d.2.2.2.2.2.2.2.2.2.2.2.2.2.2.2.2.2.2.2.1 d.2.2.2.2.2.2.2.2.2.2.2.2.2.2.2.2.2.2.2.2.1 d.2.2.2.2.2.2.2.2.2.2.2.2.2.2.2.2.2.2.2.2.2.1 d.2.2.2.2.2.2.2.2.2.2.2.2.2.2.2.2.2.2.2.2.2.2.1 d.2.2.2.2.2.2.2.2.2.2.2.2.2.2.2.2.2.2.2.2.2.2.2.1 d.2.2.2.2.2.2.2.2.2.2.2.2.2.2.2.2.2.2.2.2.2.2.2.2.1 d.2.2.2.2.2.2.2.2.2.2.2.2.2.2.2.2.2.2.2.2.2.2.2.2.2.1 d.2.2.2.2.2.2.2.2.2.2.2.2.2.2.2.2.2.2.2.2.2.2.2.2.2.2.1 d.2.2.2.2.2.2.2.2.2.2.2.2.2.2.2.2.2.2.2.2.2.2.2.2.2.2.2.1 d.2.2.2.2.2.2.2.2.2.2.2.2.2.2.2.2.2.2.2.2.2.2.2.2.2.2.2.2.1 d.2.2.2.2.2.2.2.2.2.2.2.2.2.2.2.2.2.2.2.2.2.2.2.2.2.2.2.2.2.1 d.2.2.2.2.2.2.2.2.2.2.2.2.2.2.2.2.2.2.2.2.2.2.2.2.2.2.2.2.2.2.1 d.2.2.2.2.2.2.2.2.2.2.2.2.2.2.2.2.2.2.2.2.2.2.2.2.2.2.2.2.2.2.2.1 d.2.2.2.2.2.2.2.2.2.2.2.2.2.2.2.2.2.2.2.2.2.2.2.2.2.2.2.2.2.2.2.2.1 d.2.2.2.2.2.2.2.2.2.2.2.2.2.2.2.2.2.2.2.2.2.2.2.2.2.2.2.2.2.2.2.2.2.1 d.2.2.2.2.2.2.2.2.2.2.2.2.2.2.2.2.2.2.2.2.2.2.2.2.2.2.2.2.2.2.2.2.2.2.1⟩
theorem bAA (a1 : List Knot) (a2 : List Knot) (a3 : List Knot) (a4 : List Knot) (a5 : List Report) (b1 : List Knot) (b2 : List Knot) (b3 : List Knot) (b4 : List Knot) (b5 : List Report) (x : Int) (y : Int) (i : Int) (c0 : Int) (c1 : List Knot) (c2 : List Knot) (c3 : List Knot) (c4 : List Knot) (c5 : Int) (c6 : Int) (c7 : List Report) (d0 : Int) (d1 : List Knot) (d2 : List Knot) (d3 : List Knot) (d4 : List Knot) (d5 : Int) (d6 : Int) (d7 : List Report) (f0 : Int) (f5 : Int) (f6 : Int) (g0 : Int) (g5 : Int) (g6 : Int) : bodyD Try.prog E cAA 0 (bodyX Try.prog E ctLA noLoops 1000 5 L0 (lpOf Try.prog 8 0)) (a1, a2, a3, a4, a5, b1, b2, b3, b4, b5, x, y, i, c0, c1, c2, c3, c4, c5, c6, c7, d0, d1, d2, d3, d4, d5, d6, d7, f0, f5, f6, g0, g5, g6, ()) =
  (.br (decide (i < (↑(List.length a5) : Int)))
   (.req ((decide ((0 : Int) ≤ i) && decide (i < (↑(List.length a5) : Int))) = true)
   (.req ((decide ((0 : Int) ≤ i) && decide (i < (↑(List.length a5) : Int))) = true)
   (.req ((decide ((0 : Int) ≤ i) && decide (i < (↑(List.length a5) : Int))) = true)
   (.req ((decide ((0 : Int) ≤ i) && decide (i < (↑(List.length a5) : Int))) = true)
   (.req (List.length a1 = List.length a1)
   (.req (List.length a2 = List.length a2)
   (.req (List.length a3 = List.length a3)
   (.req (List.length a4 = List.length a4)
   (.req (List.length a5 = List.length (List.set a5 (Int.toNat i) (Report.mk (Report.Kind (zz a5 i)) (Report.Z (zz a5 i)) (IntKind.wrap IntKind.i64 (Report.P (zz a5 i) + (1 : Int))))))
   (.req (List.length b1 = List.length b1)
   (.req (List.length b2 = List.length b2)
   (.req (List.length b3 = List.length b3)
   (.req (List.length b4 = List.length b4)
   (.req (List.length b5 = List.length b5)
   (.leaf (.inl (a1, (a2, (a3, (a4, (List.set a5 (Int.toNat i) (Report.mk (Report.Kind (zz a5 i)) (Report.Z (zz a5 i)) (IntKind.wrap IntKind.i64 (Report.P (zz a5 i) + (1 : Int)))), (b1, (b2, (b3, (b4, (b5, (x, (y, (IntKind.wrap IntKind.i64 (i + (1 : Int)), (c0, (c1, (c2, (c3, (c4, (c5, (c6, (c7, (d0, (d1, (d2, (d3, (d4, (d5, (d6, (d7, (f0, (f5, (f6, (g0, (g5, (g6, ())))))))))))))))))))))))))))))))))))))))))))))))))))
   (.req (List.length a1 = List.length a1)
   (.req (List.length a2 = List.length a2)
   (.req (List.length a3 = List.length a3)
   (.req (List.length a4 = List.length a4)
   (.req (List.length a5 = List.length a5)
   (.req (List.length b1 = List.length b1)
   (.req (List.length b2 = List.length b2)
   (.req (List.length b3 = List.length b3)
   (.req (List.length b4 = List.length b4)
   (.req (List.length b5 = List.length b5)
   (.leaf (.inr (.exit (0 : Nat), [.l (78 : Nat) (a1), .l (78 : Nat) (a2), .l (78 : Nat) (a3), .l (78 : Nat) (a4), .l (55 : Nat) (a5), .l (78 : Nat) (b1), .l (78 : Nat) (b2), .l (78 : Nat) (b3), .l (78 : Nat) (b4), .l (55 : Nat) (b5), .n (x), .n (y), .n (c0), .l (78 : Nat) (c1), .l (78 : Nat) (c2), .l (78 : Nat) (c3), .l (78 : Nat) (c4), .n (c5), .n (c6), .l (55 : Nat) (c7), .n (d0), .l (78 : Nat) (d1), .l (78 : Nat) (d2), .l (78 : Nat) (d3), .l (78 : Nat) (d4), .n (d5), .n (d6), .l (55 : Nat) (d7), .n (f0), .n (f5), .n (f6), .n (g0), .n (g5), .n (g6)])))))))))))))) := by kernel_rfl
theorem nAA (a1 : List Knot) (a2 : List Knot) (a3 : List Knot) (a4 : List Knot) (a5 : List Report) (b1 : List Knot) (b2 : List Knot) (b3 : List Knot) (b4 : List Knot) (b5 : List Report) (x : Int) (y : Int) (i : Int) (c0 : Int) (c1 : List Knot) (c2 : List Knot) (c3 : List Knot) (c4 : List Knot) (c5 : Int) (c6 : Int) (c7 : List Report) (d0 : Int) (d1 : List Knot) (d2 : List Knot) (d3 : List Knot) (d4 : List Knot) (d5 : Int) (d6 : Int) (d7 : List Report) (f0 : Int) (f5 : Int) (f6 : Int) (g0 : Int) (g5 : Int) (g6 : Int) (K : Ex × List (V T) → Prop) (hI : 0 ≤ i ∧ i ≤ a5.length ∧ a5.length ≤ 1000) (hK : (.leaf (.exit 0, [.l 78 a1, .l 78 a2, .l 78 a3, .l 78 a4, .l 55 (up2 (a5.length - i.toNat) a5 i.toNat), .l 78 b1, .l 78 b2, .l 78 b3, .l 78 b4, .l 55 b5, .n x, .n y, .n c0, .l 78 c1, .l 78 c2, .l 78 c3, .l 78 c4, .n c5, .n c6, .l 55 c7, .n d0, .l 78 d1, .l 78 d2, .l 78 d3, .l 78 d4, .n d5, .n d6, .l 55 d7, .n f0, .n f5, .n f6, .n g0, .n g5, .n g6]) : Tree (Ex × List (V T))).holds K) : (cAA.out (a1, a2, a3, a4, a5, b1, b2, b3, b4, b5, x, y, i, c0, c1, c2, c3, c4, c5, c6, c7, d0, d1, d2, d3, d4, d5, d6, d7, f0, f5, f6, g0, g5, g6, ())).holds K := ⟨hI, hK⟩
theorem hAA' (a1 : List Knot) (a2 : List Knot) (a3 : List Knot) (a4 : List Knot) (a5 : List Report) (b1 : List Knot) (b2 : List Knot) (b3 : List Knot) (b4 : List Knot) (b5 : List Report) (x : Int) (y : Int) (i : Int) (c0 : Int) (c1 : List Knot) (c2 : List Knot) (c3 : List Knot) (c4 : List Knot) (c5 : Int) (c6 : Int) (c7 : List Report) (d0 : Int) (d1 : List Knot) (d2 : List Knot) (d3 : List Knot) (d4 : List Knot) (d5 : Int) (d6 : Int) (d7 : List Report) (f0 : Int) (f5 : Int) (f6 : Int) (g0 : Int) (g5 : Int) (g6 : Int) (K : Ex × List (V T) → Prop) (hI : 0 ≤ i ∧ i ≤ a5.length ∧ a5.length ≤ 1000) (hK : (.leaf (.exit 0, [.l 78 a1, .l 78 a2, .l 78 a3, .l 78 a4, .l 55 (up2 (a5.length - i.toNat) a5 i.toNat), .l 78 b1, .l 78 b2, .l 78 b3, .l 78 b4, .l 55 b5, .n x, .n y, .n c0, .l 78 c1, .l 78 c2, .l 78 c3, .l 78 c4, .n c5, .n c6, .l 55 c7, .n d0, .l 78 d1, .l 78 d2, .l 78 d3, .l 78 d4, .n d5, .n d6, .l 55 d7, .n f0, .n f5, .n f6, .n g0, .n g5, .n g6]) : Tree (Ex × List (V T))).holds K) :
    (bodyD Try.prog E cAA 0 (bodyX Try.prog E ctLA noLoops 1000 5 L0 (lpOf Try.prog 8 0)) (a1, a2, a3, a4, a5, b1, b2, b3, b4, b5, x, y, i, c0, c1, c2, c3, c4, c5, c6, c7, d0, d1, d2, d3, d4, d5, d6, d7, f0, f5, f6, g0, g5, g6, ())).holds fun y => match y with
    | .inl d => ((d.2.2.2.2.1.length : Int) - d.2.2.2.2.2.2.2.2.2.2.2.2.1).toNat < ((a5.length : Int) - i).toNat ∧ (cAA.out d).holds K
    | .inr y => K y := by
  rw [bAA]
  obtain ⟨h0, h1, h5⟩ := hI
  refine way (fun k => wayC h0 k fun _ _ => ?_) fun k => ?_
  · have e3 : IntKind.wrap IntKind.i64 (i + 1) = i + 1 := i64_in' (by omega) (by omega)
    rw [e3]
    have hc : (decide (0 ≤ i) && decide (i < (a5.length : Int))) = true := by simp [h0, k]
    have key : ∀ L : List Report, L = a5.set i.toNat (rp (zz a5 i)) → ((L.length : Int) - (i + 1)).toNat < ((a5.length : Int) - i).toNat ∧ (0 ≤ i + 1 ∧ i + 1 ≤ L.length ∧ L.length ≤ 1000) ∧ up2 (a5.length - i.toNat) a5 i.toNat = up2 (L.length - (i + 1).toNat) L (i + 1).toNat := by
      rintro L rfl
      rw [List.length_set]
      refine ⟨by omega, ⟨by omega, by omega, h5⟩, ?_⟩
      rw [show a5.length - i.toNat = (a5.length - (i + 1).toNat) + 1 by omega, show (i + 1).toNat = i.toNat + 1 by omega]
      have : zz a5 i = zz a5 (i.toNat : Int) := by rw [Int.toNat_of_nonneg h0]
      rw [this]
      rfl
    obtain ⟨g1, g2, g3⟩ := key _ rfl
    rw [g3] at hK
    exact ⟨hc, hc, hc, rfl, rfl, rfl, rfl, (List.length_set ..).symm, rfl, rfl, rfl, rfl, rfl, g1, nAA _ _ _ _ _ _ _ _ _ _ _ _ _ _ _ _ _ _ _ _ _ _ _ _ _ _ _ _ _ _ _ _ _ _ _ K g2 hK⟩
  · rw [show a5.length - i.toNat = 0 by omega] at hK
    exact ⟨rfl, rfl, rfl, rfl, rfl, rfl, rfl, rfl, rfl, rfl,  hK⟩
theorem hAA : LoopH Try.prog E cAA 0 (bodyX Try.prog E ctLA noLoops 1000 5 L0 (lpOf Try.prog 8 0)) :=
  ⟨fun d => ((d.2.2.2.2.1.length : Int) - d.2.2.2.2.2.2.2.2.2.2.2.2.1).toNat, fun dd K hK => by
    obtain ⟨a1, a2, a3, a4, a5, b1, b2, b3, b4, b5, x, y, i, c0, c1, c2, c3, c4, c5, c6, c7, d0, d1, d2, d3, d4, d5, d6, d7, f0, f5, f6, g0, g5, g6, ⟨⟩⟩ := dd
    obtain ⟨hI, hK⟩ := hK
    refine Tree.holds_mono (fun y hy => ?_) (hAA' a1 a2 a3 a4 a5 b1 b2 b3 b4 b5 x y i c0 c1 c2 c3 c4 c5 c6 c7 d0 d1 d2 d3 d4 d5 d6 d7 f0 f5 f6 g0 g5 g6 K hI hK)
    cases y with
    | inl d' => exact hy
    | inr y => exact hy⟩
noncomputable def oAB (a1 : List Knot) (a2 : List Knot) (a3 : List Knot) (a4 : List Knot) (a5 : List Report) (b1 : List Knot) (b2 : List Knot) (b3 : List Knot) (b4 : List Knot) (b5 : List Report) (x : Int) (y : Int) (i : Int) (c0 : Int) (c1 : List Knot) (c2 : List Knot) (c3 : List Knot) (c4 : List Knot) (c5 : Int) (c6 : Int) (c7 : List Report) (d0 : Int) (d1 : List Knot) (d2 : List Knot) (d3 : List Knot) (d4 : List Knot) (d5 : Int) (d6 : Int) (d7 : List Report) (f0 : Int) (f5 : Int) (f6 : Int) (g0 : Int) (g5 : Int) (g6 : Int) : Tree (Ex × List (V T)) := .req (0 ≤ i ∧ i ≤ b5.length ∧ b5.length ≤ 1000) (.leaf (.exit 2, [.l 78 a1, .l 78 a2, .l 78 a3, .l 78 a4, .l 55 a5, .l 78 b1, .l 78 b2, .l 78 b3, .l 78 b4, .l 55 (up2 (b5.length - i.toNat) b5 i.toNat), .n x, .n y, .n c0, .l 78 c1, .l 78 c2, .l 78 c3, .l 78 c4, .n c5, .n c6, .l 55 c7, .n d0, .l 78 d1, .l 78 d2, .l 78 d3, .l 78 d4, .n d5, .n d6, .l 55 d7, .n f0, .n f5, .n f6, .n g0, .n g5, .n g6]))
noncomputable def cAB : LoopC T := ⟨(.l 78 :: .l 78 :: .l 78 :: .l 78 :: .l 55 :: .l 78 :: .l 78 :: .l 78 :: .l 78 :: .l 55 :: .n :: .n :: .n :: .n :: .l 78 :: .l 78 :: .l 78 :: .l 78 :: .n :: .n :: .l 55 :: .n :: .l 78 :: .l 78 :: .l 78 :: .l 78 :: .n :: .n :: .l 55 :: .n :: .n :: .n :: .n :: .n :: .n :: []), ⟨78, [(2, .one (.o 0 0)), (5, .one (.o 1 0)), (6, .one (.o 2 0)), (7, .one (.i .i64)), (8, .one (.o 3 0)), (9, .one (.i .i64)), (11, .one (.i .i64))], [.c [.i .i64, .s 78, .s 78, .s 78, .s 78, .i .i64, .i .i64, .s 55], .c [.i .i64, .s 78, .s 78, .s 78, .s 78, .i .i64, .i .i64, .s 55], .c [.i .i64, .g 4 78, .g 5 78, .g 6 78, .g 7 78, .i .i64, .i .i64, .g 8 55], .c [.i .i64, .g 9 78, .g 10 78, .g 11 78, .g 12 78, .i .i64, .i .i64, .g 13 55], .l 78, .l 78, .l 78, .l 78, .l 55, .l 78, .l 78, .l 78, .l 78, .l 55]⟩, fun _ => ⟨78, [(2, .one (.o 0 0)), (5, .one (.o 1 0)), (6, .one (.o 2 0)), (7, .one (.i .i64)), (8, .one (.o 3 0)), (9, .one (.i .i64))], [.c [.i .i64, .s 78, .s 78, .s 78, .s 78, .i .i64, .i .i64, .s 55], .c [.i .i64, .s 78, .s 78, .s 78, .s 78, .i .i64, .i .i64, .s 55], .c [.i .i64, .g 4 78, .g 5 78, .g 6 78, .g 7 78, .i .i64, .i .i64, .g 8 55], .c [.i .i64, .g 9 78, .g 10 78, .g 11 78, .g 12 78, .i .i64, .i .i64, .g 13 55], .l 78, .l 78, .l 78, .l 78, .l 55, .l 78, .l 78, .l 78, .l 78, .l 55]⟩, 60, fun d => oAB d.1 d.2.1 d.2.2.1 d.2.2.2.1 d.2.2.2.2.1 d.2.2.2.2.2.1 d.2.2.2.2.2.2.1 d.2.2.2.2.2.2.2.1 d.2.2.2.2.2.2.2.2.1 d.2.2.2.2.2.2.2.2.2.1 d.2.2.2.2.2.2.2.2.2.2.1 d.2.2.2.2.2.2.2.2.2.2.2.1 d.2.2.2.2.2.2.2.2.2.2.2.2.1 d.2.2.2.2.2.2.2.2.2.2.2.2.2.1 d.2.2.2.2.2.2.2.2.2.2.2.2.2.2.1 d.2.2.2.2.2.2.2.2.2.2.2.2.2.2.2.1 d.2.2.2.2.2.2.2.2.2.2.2.2.2.2.2.2.1 d.2.2.2.2.2.2.2.2.2.2.2.2.2.2.2.2.2.1 d.2.2.2.2.2.2.2.2.2.2.2.2.2.2.2.2.2.2.1 d.2.2.2.2.2.2.2.2.2.2.2.2.2.2.2.2.2.2.2.1 d.2.2.2.2.2.2.2.2.2.2.2.2.2.2.2.2.2.2.2.2.1 d.2.2.2.2.2.2.2.2.2.2.2.2.2.2.2.2.2.2.2.2.2.1 d.2.2.2.2.2.2.2.2.2.2.2.2.2.2.2.2.2.2.2.2.2.2.1 d.2.2.2.2.2.2.2.2.2.2.2.2.2.2.2.2.2.2.2.2.2.2.2.1 d.2.2.2.2.2.2.2.2.2.2.2.2.2.2.2.2.2.2.2.2.2.2.2.2.1 d.2.2.2.2.2.2.2.2.2.2.2.2.2.2.2.2.2.2.2.2.2.2.2.2.2.1 d.2.2.2.2.2.2.2.2.2.2.2.2.2.2.2.2.2.2.2.2.2.2.2.2.2.2.1 d.2.2.2.2.2.2.2.2.2.2.2.2.2.2.2.2.2.2.2.2.2.2.2.2.2.2.2.1 d.2.2.2.2.2.2.2.2.2.2.2.2.2.2.2.2.2.2.2.2.2.2.2.2.2.2.2.2.1 d.2.2.2.2.2.2.2.2.2.2.2.2.2.2.2.2.2.2.2.2.2.2.2.2.2.2.2.2.2.1 d.2.2.2.2.2.2.2.2.2.2.2.2.2.2.2.2.2.2.2.2.2.2.2.2.2.2.2.2.2.2.1 d.2.2.2.2.2.2.2.2.2.2.2.2.2.2.2.2.2.2.2.2.2.2.2.2.2.2.2.2.2.2.2.1 d.2.2.2.2.2.2.2.2.2.2.2.2.2.2.2.2.2.2.2.2.2.2.2.2.2.2.2.2.2.2.2.2.1 d.2.2.2.2.2.2.2.2.2.2.2.2.2.2.2.2.2.2.2.2.2.2.2.2.2.2.2.2.2.2.2.2.2.1 d.2.2.2.2.2.2.2.2.2.2.2.2.2.2.2.2.2.2.2.2.2.2.2.2.2.2.2.2.2.2.2.2.2.2.1⟩
theorem bAB (a1 : List Knot) (a2 : List Knot) (a3 : List Knot) (a4 : List Knot) (a5 : List Report) (b1 : List Knot) (b2 : List Knot) (b3 : List Knot) (b4 : List Knot) (b5 : List Report) (x : Int) (y : Int) (i : Int) (c0 : Int) (c1 : List Knot) (c2 : List Knot) (c3 : List Knot) (c4 : List Knot) (c5 : Int) (c6 : Int) (c7 : List Report) (d0 : Int) (d1 : List Knot) (d2 : List Knot) (d3 : List Knot) (d4 : List Knot) (d5 : Int) (d6 : Int) (d7 : List Report) (f0 : Int) (f5 : Int) (f6 : Int) (g0 : Int) (g5 : Int) (g6 : Int) : bodyD Try.prog E cAB 0 (bodyX Try.prog E ctLA noLoops 1000 5 L0 (lpOf Try.prog 8 1)) (a1, a2, a3, a4, a5, b1, b2, b3, b4, b5, x, y, i, c0, c1, c2, c3, c4, c5, c6, c7, d0, d1, d2, d3, d4, d5, d6, d7, f0, f5, f6, g0, g5, g6, ()) =
  (.br (decide (i < (↑(List.length b5) : Int)))
   (.req ((decide ((0 : Int) ≤ i) && decide (i < (↑(List.length b5) : Int))) = true)
   (.req ((decide ((0 : Int) ≤ i) && decide (i < (↑(List.length b5) : Int))) = true)
   (.req ((decide ((0 : Int) ≤ i) && decide (i < (↑(List.length b5) : Int))) = true)
   (.req ((decide ((0 : Int) ≤ i) && decide (i < (↑(List.length b5) : Int))) = true)
   (.req (List.length a1 = List.length a1)
   (.req (List.length a2 = List.length a2)
   (.req (List.length a3 = List.length a3)
   (.req (List.length a4 = List.length a4)
   (.req (List.length a5 = List.length a5)
   (.req (List.length b1 = List.length b1)
   (.req (List.length b2 = List.length b2)
   (.req (List.length b3 = List.length b3)
   (.req (List.length b4 = List.length b4)
   (.req (List.length b5 = List.length (List.set b5 (Int.toNat i) (Report.mk (Report.Kind (zz b5 i)) (Report.Z (zz b5 i)) (IntKind.wrap IntKind.i64 (Report.P (zz b5 i) + (1 : Int))))))
   (.leaf (.inl (a1, (a2, (a3, (a4, (a5, (b1, (b2, (b3, (b4, (List.set b5 (Int.toNat i) (Report.mk (Report.Kind (zz b5 i)) (Report.Z (zz b5 i)) (IntKind.wrap IntKind.i64 (Report.P (zz b5 i) + (1 : Int)))), (x, (y, (IntKind.wrap IntKind.i64 (i + (1 : Int)), (c0, (c1, (c2, (c3, (c4, (c5, (c6, (c7, (d0, (d1, (d2, (d3, (d4, (d5, (d6, (d7, (f0, (f5, (f6, (g0, (g5, (g6, ())))))))))))))))))))))))))))))))))))))))))))))))))))
   (.req (List.length a1 = List.length a1)
   (.req (List.length a2 = List.length a2)
   (.req (List.length a3 = List.length a3)
   (.req (List.length a4 = List.length a4)
   (.req (List.length a5 = List.length a5)
   (.req (List.length b1 = List.length b1)
   (.req (List.length b2 = List.length b2)
   (.req (List.length b3 = List.length b3)
   (.req (List.length b4 = List.length b4)
   (.req (List.length b5 = List.length b5)
   (.leaf (.inr (.exit (2 : Nat), [.l (78 : Nat) (a1), .l (78 : Nat) (a2), .l (78 : Nat) (a3), .l (78 : Nat) (a4), .l (55 : Nat) (a5), .l (78 : Nat) (b1), .l (78 : Nat) (b2), .l (78 : Nat) (b3), .l (78 : Nat) (b4), .l (55 : Nat) (b5), .n (x), .n (y), .n (c0), .l (78 : Nat) (c1), .l (78 : Nat) (c2), .l (78 : Nat) (c3), .l (78 : Nat) (c4), .n (c5), .n (c6), .l (55 : Nat) (c7), .n (d0), .l (78 : Nat) (d1), .l (78 : Nat) (d2), .l (78 : Nat) (d3), .l (78 : Nat) (d4), .n (d5), .n (d6), .l (55 : Nat) (d7), .n (f0), .n (f5), .n (f6), .n (g0), .n (g5), .n (g6)])))))))))))))) := by kernel_rfl
theorem nAB (a1 : List Knot) (a2 : List Knot) (a3 : List Knot) (a4 : List Knot) (a5 : List Report) (b1 : List Knot) (b2 : List Knot) (b3 : List Knot) (b4 : List Knot) (b5 : List Report) (x : Int) (y : Int) (i : Int) (c0 : Int) (c1 : List Knot) (c2 : List Knot) (c3 : List Knot) (c4 : List Knot) (c5 : Int) (c6 : Int) (c7 : List Report) (d0 : Int) (d1 : List Knot) (d2 : List Knot) (d3 : List Knot) (d4 : List Knot) (d5 : Int) (d6 : Int) (d7 : List Report) (f0 : Int) (f5 : Int) (f6 : Int) (g0 : Int) (g5 : Int) (g6 : Int) (K : Ex × List (V T) → Prop) (hI : 0 ≤ i ∧ i ≤ b5.length ∧ b5.length ≤ 1000) (hK : (.leaf (.exit 2, [.l 78 a1, .l 78 a2, .l 78 a3, .l 78 a4, .l 55 a5, .l 78 b1, .l 78 b2, .l 78 b3, .l 78 b4, .l 55 (up2 (b5.length - i.toNat) b5 i.toNat), .n x, .n y, .n c0, .l 78 c1, .l 78 c2, .l 78 c3, .l 78 c4, .n c5, .n c6, .l 55 c7, .n d0, .l 78 d1, .l 78 d2, .l 78 d3, .l 78 d4, .n d5, .n d6, .l 55 d7, .n f0, .n f5, .n f6, .n g0, .n g5, .n g6]) : Tree (Ex × List (V T))).holds K) : (cAB.out (a1, a2, a3, a4, a5, b1, b2, b3, b4, b5, x, y, i, c0, c1, c2, c3, c4, c5, c6, c7, d0, d1, d2, d3, d4, d5, d6, d7, f0, f5, f6, g0, g5, g6, ())).holds K := ⟨hI, hK⟩
theorem hAB' (a1 : List Knot) (a2 : List Knot) (a3 : List Knot) (a4 : List Knot) (a5 : List Report) (b1 : List Knot) (b2 : List Knot) (b3 : List Knot) (b4 : List Knot) (b5 : List Report) (x : Int) (y : Int) (i : Int) (c0 : Int) (c1 : List Knot) (c2 : List Knot) (c3 : List Knot) (c4 : List Knot) (c5 : Int) (c6 : Int) (c7 : List Report) (d0 : Int) (d1 : List Knot) (d2 : List Knot) (d3 : List Knot) (d4 : List Knot) (d5 : Int) (d6 : Int) (d7 : List Report) (f0 : Int) (f5 : Int) (f6 : Int) (g0 : Int) (g5 : Int) (g6 : Int) (K : Ex × List (V T) → Prop) (hI : 0 ≤ i ∧ i ≤ b5.length ∧ b5.length ≤ 1000) (hK : (.leaf (.exit 2, [.l 78 a1, .l 78 a2, .l 78 a3, .l 78 a4, .l 55 a5, .l 78 b1, .l 78 b2, .l 78 b3, .l 78 b4, .l 55 (up2 (b5.length - i.toNat) b5 i.toNat), .n x, .n y, .n c0, .l 78 c1, .l 78 c2, .l 78 c3, .l 78 c4, .n c5, .n c6, .l 55 c7, .n d0, .l 78 d1, .l 78 d2, .l 78 d3, .l 78 d4, .n d5, .n d6, .l 55 d7, .n f0, .n f5, .n f6, .n g0, .n g5, .n g6]) : Tree (Ex × List (V T))).holds K) :
    (bodyD Try.prog E cAB 0 (bodyX Try.prog E ctLA noLoops 1000 5 L0 (lpOf Try.prog 8 1)) (a1, a2, a3, a4, a5, b1, b2, b3, b4, b5, x, y, i, c0, c1, c2, c3, c4, c5, c6, c7, d0, d1, d2, d3, d4, d5, d6, d7, f0, f5, f6, g0, g5, g6, ())).holds fun y => match y with
    | .inl d => ((d.2.2.2.2.2.2.2.2.2.1.length : Int) - d.2.2.2.2.2.2.2.2.2.2.2.2.1).toNat < ((b5.length : Int) - i).toNat ∧ (cAB.out d).holds K
    | .inr y => K y := by
  rw [bAB]
  obtain ⟨h0, h1, h5⟩ := hI
  refine way (fun k => wayC h0 k fun _ _ => ?_) fun k => ?_
  · have e3 : IntKind.wrap IntKind.i64 (i + 1) = i + 1 := i64_in' (by omega) (by omega)
    rw [e3]
    have hc : (decide (0 ≤ i) && decide (i < (b5.length : Int))) = true := by simp [h0, k]
    have key : ∀ L : List Report, L = b5.set i.toNat (rp (zz b5 i)) → ((L.length : Int) - (i + 1)).toNat < ((b5.length : Int) - i).toNat ∧ (0 ≤ i + 1 ∧ i + 1 ≤ L.length ∧ L.length ≤ 1000) ∧ up2 (b5.length - i.toNat) b5 i.toNat = up2 (L.length - (i + 1).toNat) L (i + 1).toNat := by
      rintro L rfl
      rw [List.length_set]
      refine ⟨by omega, ⟨by omega, by omega, h5⟩, ?_⟩
      rw [show b5.length - i.toNat = (b5.length - (i + 1).toNat) + 1 by omega, show (i + 1).toNat = i.toNat + 1 by omega]
      have : zz b5 i = zz b5 (i.toNat : Int) := by rw [Int.toNat_of_nonneg h0]
      rw [this]
      rfl
    obtain ⟨g1, g2, g3⟩ := key _ rfl
    rw [g3] at hK
    exact ⟨hc, hc, hc, rfl, rfl, rfl, rfl, rfl, rfl, rfl, rfl, rfl, (List.length_set ..).symm, g1, nAB _ _ _ _ _ _ _ _ _ _ _ _ _ _ _ _ _ _ _ _ _ _ _ _ _ _ _ _ _ _ _ _ _ _ _ K g2 hK⟩
  · rw [show b5.length - i.toNat = 0 by omega] at hK
    exact ⟨rfl, rfl, rfl, rfl, rfl, rfl, rfl, rfl, rfl, rfl,  hK⟩
theorem hAB : LoopH Try.prog E cAB 0 (bodyX Try.prog E ctLA noLoops 1000 5 L0 (lpOf Try.prog 8 1)) :=
  ⟨fun d => ((d.2.2.2.2.2.2.2.2.2.1.length : Int) - d.2.2.2.2.2.2.2.2.2.2.2.2.1).toNat, fun dd K hK => by
    obtain ⟨a1, a2, a3, a4, a5, b1, b2, b3, b4, b5, x, y, i, c0, c1, c2, c3, c4, c5, c6, c7, d0, d1, d2, d3, d4, d5, d6, d7, f0, f5, f6, g0, g5, g6, ⟨⟩⟩ := dd
    obtain ⟨hI, hK⟩ := hK
    refine Tree.holds_mono (fun y hy => ?_) (hAB' a1 a2 a3 a4 a5 b1 b2 b3 b4 b5 x y i c0 c1 c2 c3 c4 c5 c6 c7 d0 d1 d2 d3 d4 d5 d6 d7 f0 f5 f6 g0 g5 g6 K hI hK)
    cases y with
    | inl d' => exact hy
    | inr y => exact hy⟩
theorem llAE : LLOk Try.prog E (llOfN Try.prog E 8 0 [(7, cAA), (11, cAB)]) := llOfN_ok fun i hi c hc => by
  have hi : i < 2 := hi
  have : i = 0 ∨ i = 1 := by omega
  rcases this with rfl | rfl
  · obtain rfl : cAA = c := Option.some.inj hc
    exact LSndN.mk good names mixes ctLA_ok (by decide) hAA
  · obtain rfl : cAB = c := Option.some.inj hc
    exact LSndN.mk good names mixes ctLA_ok (by decide) hAB
theorem tvAE (e : Earth) (r : Report) : runX ctLA (llOfN Try.prog E 8 0 [(7, cAA), (11, cAB)]) 8 [e.av, r.av] [4] =
  (.br (decide ((↑(List.length (Line.Knots (Earth.PoreLo e))) : Int) ≤ (26 : Int)))
   (.br (decide ((↑(List.length (Line.Knots (Earth.PoreHi e))) : Int) ≤ (26 : Int)))
    (.br (decide ((↑(List.length (Line.Knots (Earth.FracLo e))) : Int) ≤ (26 : Int)))
     (.br (decide ((↑(List.length (Line.Knots (Earth.FracHi e))) : Int) ≤ (26 : Int)))
      (.br (!decide ((↑(List.length (Earth.Reports e)) : Int) ≤ (26 : Int)))
       (.leaf (.bool (true)))
       (.req (smallE (eOf (Earth.Bottom e, Line.Knots (Earth.PoreLo e), Line.Knots (Earth.PoreHi e), Line.Knots (Earth.FracLo e), Line.Knots (Earth.FracHi e), Earth.GLo e, Earth.GHi e, Earth.Reports e, ())))
       (.req (smallE (eA (Earth.Bottom e, Line.Knots (Earth.PoreLo e), Line.Knots (Earth.PoreHi e), Line.Knots (Earth.FracLo e), Line.Knots (Earth.FracHi e), Earth.GLo e, Earth.GHi e, Earth.Reports e, Report.Kind r, Report.Z r, Report.P r, ())))
       (.req (smallE (eA (Earth.Bottom e, Line.Knots (Earth.PoreLo e), Line.Knots (Earth.PoreHi e), Line.Knots (Earth.FracLo e), Line.Knots (Earth.FracHi e), Earth.GLo e, Earth.GHi e, Earth.Reports e, Report.Kind r, Report.Z r, Report.P r, ())))
       (.req (List.length (Line.Knots (Earth.PoreLo (aR (eA (Earth.Bottom e, Line.Knots (Earth.PoreLo e), Line.Knots (Earth.PoreHi e), Line.Knots (Earth.FracLo e), Line.Knots (Earth.FracHi e), Earth.GLo e, Earth.GHi e, Earth.Reports e, Report.Kind r, Report.Z r, Report.P r, ())) (rA (Earth.Bottom e, Line.Knots (Earth.PoreLo e), Line.Knots (Earth.PoreHi e), Line.Knots (Earth.FracLo e), Line.Knots (Earth.FracHi e), Earth.GLo e, Earth.GHi e, Earth.Reports e, Report.Kind r, Report.Z r, Report.P r, ()))))) = List.length (Line.Knots (Earth.PoreLo (aR (eA (Earth.Bottom e, Line.Knots (Earth.PoreLo e), Line.Knots (Earth.PoreHi e), Line.Knots (Earth.FracLo e), Line.Knots (Earth.FracHi e), Earth.GLo e, Earth.GHi e, Earth.Reports e, Report.Kind r, Report.Z r, Report.P r, ())) (rA (Earth.Bottom e, Line.Knots (Earth.PoreLo e), Line.Knots (Earth.PoreHi e), Line.Knots (Earth.FracLo e), Line.Knots (Earth.FracHi e), Earth.GLo e, Earth.GHi e, Earth.Reports e, Report.Kind r, Report.Z r, Report.P r, ()))))))
       (.req (List.length (Line.Knots (Earth.PoreHi (aR (eA (Earth.Bottom e, Line.Knots (Earth.PoreLo e), Line.Knots (Earth.PoreHi e), Line.Knots (Earth.FracLo e), Line.Knots (Earth.FracHi e), Earth.GLo e, Earth.GHi e, Earth.Reports e, Report.Kind r, Report.Z r, Report.P r, ())) (rA (Earth.Bottom e, Line.Knots (Earth.PoreLo e), Line.Knots (Earth.PoreHi e), Line.Knots (Earth.FracLo e), Line.Knots (Earth.FracHi e), Earth.GLo e, Earth.GHi e, Earth.Reports e, Report.Kind r, Report.Z r, Report.P r, ()))))) = List.length (Line.Knots (Earth.PoreHi (aR (eA (Earth.Bottom e, Line.Knots (Earth.PoreLo e), Line.Knots (Earth.PoreHi e), Line.Knots (Earth.FracLo e), Line.Knots (Earth.FracHi e), Earth.GLo e, Earth.GHi e, Earth.Reports e, Report.Kind r, Report.Z r, Report.P r, ())) (rA (Earth.Bottom e, Line.Knots (Earth.PoreLo e), Line.Knots (Earth.PoreHi e), Line.Knots (Earth.FracLo e), Line.Knots (Earth.FracHi e), Earth.GLo e, Earth.GHi e, Earth.Reports e, Report.Kind r, Report.Z r, Report.P r, ()))))))
       (.req (List.length (Line.Knots (Earth.FracLo (aR (eA (Earth.Bottom e, Line.Knots (Earth.PoreLo e), Line.Knots (Earth.PoreHi e), Line.Knots (Earth.FracLo e), Line.Knots (Earth.FracHi e), Earth.GLo e, Earth.GHi e, Earth.Reports e, Report.Kind r, Report.Z r, Report.P r, ())) (rA (Earth.Bottom e, Line.Knots (Earth.PoreLo e), Line.Knots (Earth.PoreHi e), Line.Knots (Earth.FracLo e), Line.Knots (Earth.FracHi e), Earth.GLo e, Earth.GHi e, Earth.Reports e, Report.Kind r, Report.Z r, Report.P r, ()))))) = List.length (Line.Knots (Earth.FracLo (aR (eA (Earth.Bottom e, Line.Knots (Earth.PoreLo e), Line.Knots (Earth.PoreHi e), Line.Knots (Earth.FracLo e), Line.Knots (Earth.FracHi e), Earth.GLo e, Earth.GHi e, Earth.Reports e, Report.Kind r, Report.Z r, Report.P r, ())) (rA (Earth.Bottom e, Line.Knots (Earth.PoreLo e), Line.Knots (Earth.PoreHi e), Line.Knots (Earth.FracLo e), Line.Knots (Earth.FracHi e), Earth.GLo e, Earth.GHi e, Earth.Reports e, Report.Kind r, Report.Z r, Report.P r, ()))))))
       (.req (List.length (Line.Knots (Earth.FracHi (aR (eA (Earth.Bottom e, Line.Knots (Earth.PoreLo e), Line.Knots (Earth.PoreHi e), Line.Knots (Earth.FracLo e), Line.Knots (Earth.FracHi e), Earth.GLo e, Earth.GHi e, Earth.Reports e, Report.Kind r, Report.Z r, Report.P r, ())) (rA (Earth.Bottom e, Line.Knots (Earth.PoreLo e), Line.Knots (Earth.PoreHi e), Line.Knots (Earth.FracLo e), Line.Knots (Earth.FracHi e), Earth.GLo e, Earth.GHi e, Earth.Reports e, Report.Kind r, Report.Z r, Report.P r, ()))))) = List.length (Line.Knots (Earth.FracHi (aR (eA (Earth.Bottom e, Line.Knots (Earth.PoreLo e), Line.Knots (Earth.PoreHi e), Line.Knots (Earth.FracLo e), Line.Knots (Earth.FracHi e), Earth.GLo e, Earth.GHi e, Earth.Reports e, Report.Kind r, Report.Z r, Report.P r, ())) (rA (Earth.Bottom e, Line.Knots (Earth.PoreLo e), Line.Knots (Earth.PoreHi e), Line.Knots (Earth.FracLo e), Line.Knots (Earth.FracHi e), Earth.GLo e, Earth.GHi e, Earth.Reports e, Report.Kind r, Report.Z r, Report.P r, ()))))))
       (.req (List.length (Earth.Reports (aR (eA (Earth.Bottom e, Line.Knots (Earth.PoreLo e), Line.Knots (Earth.PoreHi e), Line.Knots (Earth.FracLo e), Line.Knots (Earth.FracHi e), Earth.GLo e, Earth.GHi e, Earth.Reports e, Report.Kind r, Report.Z r, Report.P r, ())) (rA (Earth.Bottom e, Line.Knots (Earth.PoreLo e), Line.Knots (Earth.PoreHi e), Line.Knots (Earth.FracLo e), Line.Knots (Earth.FracHi e), Earth.GLo e, Earth.GHi e, Earth.Reports e, Report.Kind r, Report.Z r, Report.P r, ())))) = List.length (Earth.Reports (aR (eA (Earth.Bottom e, Line.Knots (Earth.PoreLo e), Line.Knots (Earth.PoreHi e), Line.Knots (Earth.FracLo e), Line.Knots (Earth.FracHi e), Earth.GLo e, Earth.GHi e, Earth.Reports e, Report.Kind r, Report.Z r, Report.P r, ())) (rA (Earth.Bottom e, Line.Knots (Earth.PoreLo e), Line.Knots (Earth.PoreHi e), Line.Knots (Earth.FracLo e), Line.Knots (Earth.FracHi e), Earth.GLo e, Earth.GHi e, Earth.Reports e, Report.Kind r, Report.Z r, Report.P r, ())))))
       (.req (List.length (Line.Knots (Earth.PoreLo (aR (eA (Earth.Bottom e, Line.Knots (Earth.PoreLo e), Line.Knots (Earth.PoreHi e), Line.Knots (Earth.FracLo e), Line.Knots (Earth.FracHi e), Earth.GLo e, Earth.GHi e, Earth.Reports e, Report.Kind r, Report.Z r, Report.P r, ())) (rA (Earth.Bottom e, Line.Knots (Earth.PoreLo e), Line.Knots (Earth.PoreHi e), Line.Knots (Earth.FracLo e), Line.Knots (Earth.FracHi e), Earth.GLo e, Earth.GHi e, Earth.Reports e, Report.Kind r, Report.Z r, Report.P r, ()))))) = List.length (Line.Knots (Earth.PoreLo (aR (eA (Earth.Bottom e, Line.Knots (Earth.PoreLo e), Line.Knots (Earth.PoreHi e), Line.Knots (Earth.FracLo e), Line.Knots (Earth.FracHi e), Earth.GLo e, Earth.GHi e, Earth.Reports e, Report.Kind r, Report.Z r, Report.P r, ())) (rA (Earth.Bottom e, Line.Knots (Earth.PoreLo e), Line.Knots (Earth.PoreHi e), Line.Knots (Earth.FracLo e), Line.Knots (Earth.FracHi e), Earth.GLo e, Earth.GHi e, Earth.Reports e, Report.Kind r, Report.Z r, Report.P r, ()))))))
       (.req (List.length (Line.Knots (Earth.PoreHi (aR (eA (Earth.Bottom e, Line.Knots (Earth.PoreLo e), Line.Knots (Earth.PoreHi e), Line.Knots (Earth.FracLo e), Line.Knots (Earth.FracHi e), Earth.GLo e, Earth.GHi e, Earth.Reports e, Report.Kind r, Report.Z r, Report.P r, ())) (rA (Earth.Bottom e, Line.Knots (Earth.PoreLo e), Line.Knots (Earth.PoreHi e), Line.Knots (Earth.FracLo e), Line.Knots (Earth.FracHi e), Earth.GLo e, Earth.GHi e, Earth.Reports e, Report.Kind r, Report.Z r, Report.P r, ()))))) = List.length (Line.Knots (Earth.PoreHi (aR (eA (Earth.Bottom e, Line.Knots (Earth.PoreLo e), Line.Knots (Earth.PoreHi e), Line.Knots (Earth.FracLo e), Line.Knots (Earth.FracHi e), Earth.GLo e, Earth.GHi e, Earth.Reports e, Report.Kind r, Report.Z r, Report.P r, ())) (rA (Earth.Bottom e, Line.Knots (Earth.PoreLo e), Line.Knots (Earth.PoreHi e), Line.Knots (Earth.FracLo e), Line.Knots (Earth.FracHi e), Earth.GLo e, Earth.GHi e, Earth.Reports e, Report.Kind r, Report.Z r, Report.P r, ()))))))
       (.req (List.length (Line.Knots (Earth.FracLo (aR (eA (Earth.Bottom e, Line.Knots (Earth.PoreLo e), Line.Knots (Earth.PoreHi e), Line.Knots (Earth.FracLo e), Line.Knots (Earth.FracHi e), Earth.GLo e, Earth.GHi e, Earth.Reports e, Report.Kind r, Report.Z r, Report.P r, ())) (rA (Earth.Bottom e, Line.Knots (Earth.PoreLo e), Line.Knots (Earth.PoreHi e), Line.Knots (Earth.FracLo e), Line.Knots (Earth.FracHi e), Earth.GLo e, Earth.GHi e, Earth.Reports e, Report.Kind r, Report.Z r, Report.P r, ()))))) = List.length (Line.Knots (Earth.FracLo (aR (eA (Earth.Bottom e, Line.Knots (Earth.PoreLo e), Line.Knots (Earth.PoreHi e), Line.Knots (Earth.FracLo e), Line.Knots (Earth.FracHi e), Earth.GLo e, Earth.GHi e, Earth.Reports e, Report.Kind r, Report.Z r, Report.P r, ())) (rA (Earth.Bottom e, Line.Knots (Earth.PoreLo e), Line.Knots (Earth.PoreHi e), Line.Knots (Earth.FracLo e), Line.Knots (Earth.FracHi e), Earth.GLo e, Earth.GHi e, Earth.Reports e, Report.Kind r, Report.Z r, Report.P r, ()))))))
       (.req (List.length (Line.Knots (Earth.FracHi (aR (eA (Earth.Bottom e, Line.Knots (Earth.PoreLo e), Line.Knots (Earth.PoreHi e), Line.Knots (Earth.FracLo e), Line.Knots (Earth.FracHi e), Earth.GLo e, Earth.GHi e, Earth.Reports e, Report.Kind r, Report.Z r, Report.P r, ())) (rA (Earth.Bottom e, Line.Knots (Earth.PoreLo e), Line.Knots (Earth.PoreHi e), Line.Knots (Earth.FracLo e), Line.Knots (Earth.FracHi e), Earth.GLo e, Earth.GHi e, Earth.Reports e, Report.Kind r, Report.Z r, Report.P r, ()))))) = List.length (Line.Knots (Earth.FracHi (aR (eA (Earth.Bottom e, Line.Knots (Earth.PoreLo e), Line.Knots (Earth.PoreHi e), Line.Knots (Earth.FracLo e), Line.Knots (Earth.FracHi e), Earth.GLo e, Earth.GHi e, Earth.Reports e, Report.Kind r, Report.Z r, Report.P r, ())) (rA (Earth.Bottom e, Line.Knots (Earth.PoreLo e), Line.Knots (Earth.PoreHi e), Line.Knots (Earth.FracLo e), Line.Knots (Earth.FracHi e), Earth.GLo e, Earth.GHi e, Earth.Reports e, Report.Kind r, Report.Z r, Report.P r, ()))))))
       (.req (List.length (Earth.Reports (aR (eA (Earth.Bottom e, Line.Knots (Earth.PoreLo e), Line.Knots (Earth.PoreHi e), Line.Knots (Earth.FracLo e), Line.Knots (Earth.FracHi e), Earth.GLo e, Earth.GHi e, Earth.Reports e, Report.Kind r, Report.Z r, Report.P r, ())) (rA (Earth.Bottom e, Line.Knots (Earth.PoreLo e), Line.Knots (Earth.PoreHi e), Line.Knots (Earth.FracLo e), Line.Knots (Earth.FracHi e), Earth.GLo e, Earth.GHi e, Earth.Reports e, Report.Kind r, Report.Z r, Report.P r, ())))) = List.length (Earth.Reports (aR (eA (Earth.Bottom e, Line.Knots (Earth.PoreLo e), Line.Knots (Earth.PoreHi e), Line.Knots (Earth.FracLo e), Line.Knots (Earth.FracHi e), Earth.GLo e, Earth.GHi e, Earth.Reports e, Report.Kind r, Report.Z r, Report.P r, ())) (rA (Earth.Bottom e, Line.Knots (Earth.PoreLo e), Line.Knots (Earth.PoreHi e), Line.Knots (Earth.FracLo e), Line.Knots (Earth.FracHi e), Earth.GLo e, Earth.GHi e, Earth.Reports e, Report.Kind r, Report.Z r, Report.P r, ())))))
       (.req ((0 : Int) ≤ (0 : Int) ∧ (0 : Int) ≤ (↑(List.length (Earth.Reports (aR (eA (Earth.Bottom e, Line.Knots (Earth.PoreLo e), Line.Knots (Earth.PoreHi e), Line.Knots (Earth.FracLo e), Line.Knots (Earth.FracHi e), Earth.GLo e, Earth.GHi e, Earth.Reports e, Report.Kind r, Report.Z r, Report.P r, ())) (rA (Earth.Bottom e, Line.Knots (Earth.PoreLo e), Line.Knots (Earth.PoreHi e), Line.Knots (Earth.FracLo e), Line.Knots (Earth.FracHi e), Earth.GLo e, Earth.GHi e, Earth.Reports e, Report.Kind r, Report.Z r, Report.P r, ()))))) : Int) ∧ List.length (Earth.Reports (aR (eA (Earth.Bottom e, Line.Knots (Earth.PoreLo e), Line.Knots (Earth.PoreHi e), Line.Knots (Earth.FracLo e), Line.Knots (Earth.FracHi e), Earth.GLo e, Earth.GHi e, Earth.Reports e, Report.Kind r, Report.Z r, Report.P r, ())) (rA (Earth.Bottom e, Line.Knots (Earth.PoreLo e), Line.Knots (Earth.PoreHi e), Line.Knots (Earth.FracLo e), Line.Knots (Earth.FracHi e), Earth.GLo e, Earth.GHi e, Earth.Reports e, Report.Kind r, Report.Z r, Report.P r, ())))) ≤ (1000 : Nat))
       (.req (List.length (Line.Knots (Earth.PoreLo (aR (eA (Earth.Bottom e, Line.Knots (Earth.PoreLo e), Line.Knots (Earth.PoreHi e), Line.Knots (Earth.FracLo e), Line.Knots (Earth.FracHi e), Earth.GLo e, Earth.GHi e, Earth.Reports e, Report.Kind r, Report.Z r, Report.P r, ())) (rA (Earth.Bottom e, Line.Knots (Earth.PoreLo e), Line.Knots (Earth.PoreHi e), Line.Knots (Earth.FracLo e), Line.Knots (Earth.FracHi e), Earth.GLo e, Earth.GHi e, Earth.Reports e, Report.Kind r, Report.Z r, Report.P r, ()))))) = List.length (Line.Knots (Earth.PoreLo (aR (eA (Earth.Bottom e, Line.Knots (Earth.PoreLo e), Line.Knots (Earth.PoreHi e), Line.Knots (Earth.FracLo e), Line.Knots (Earth.FracHi e), Earth.GLo e, Earth.GHi e, Earth.Reports e, Report.Kind r, Report.Z r, Report.P r, ())) (rA (Earth.Bottom e, Line.Knots (Earth.PoreLo e), Line.Knots (Earth.PoreHi e), Line.Knots (Earth.FracLo e), Line.Knots (Earth.FracHi e), Earth.GLo e, Earth.GHi e, Earth.Reports e, Report.Kind r, Report.Z r, Report.P r, ()))))))
       (.req (List.length (Line.Knots (Earth.PoreHi (aR (eA (Earth.Bottom e, Line.Knots (Earth.PoreLo e), Line.Knots (Earth.PoreHi e), Line.Knots (Earth.FracLo e), Line.Knots (Earth.FracHi e), Earth.GLo e, Earth.GHi e, Earth.Reports e, Report.Kind r, Report.Z r, Report.P r, ())) (rA (Earth.Bottom e, Line.Knots (Earth.PoreLo e), Line.Knots (Earth.PoreHi e), Line.Knots (Earth.FracLo e), Line.Knots (Earth.FracHi e), Earth.GLo e, Earth.GHi e, Earth.Reports e, Report.Kind r, Report.Z r, Report.P r, ()))))) = List.length (Line.Knots (Earth.PoreHi (aR (eA (Earth.Bottom e, Line.Knots (Earth.PoreLo e), Line.Knots (Earth.PoreHi e), Line.Knots (Earth.FracLo e), Line.Knots (Earth.FracHi e), Earth.GLo e, Earth.GHi e, Earth.Reports e, Report.Kind r, Report.Z r, Report.P r, ())) (rA (Earth.Bottom e, Line.Knots (Earth.PoreLo e), Line.Knots (Earth.PoreHi e), Line.Knots (Earth.FracLo e), Line.Knots (Earth.FracHi e), Earth.GLo e, Earth.GHi e, Earth.Reports e, Report.Kind r, Report.Z r, Report.P r, ()))))))
       (.req (List.length (Line.Knots (Earth.FracLo (aR (eA (Earth.Bottom e, Line.Knots (Earth.PoreLo e), Line.Knots (Earth.PoreHi e), Line.Knots (Earth.FracLo e), Line.Knots (Earth.FracHi e), Earth.GLo e, Earth.GHi e, Earth.Reports e, Report.Kind r, Report.Z r, Report.P r, ())) (rA (Earth.Bottom e, Line.Knots (Earth.PoreLo e), Line.Knots (Earth.PoreHi e), Line.Knots (Earth.FracLo e), Line.Knots (Earth.FracHi e), Earth.GLo e, Earth.GHi e, Earth.Reports e, Report.Kind r, Report.Z r, Report.P r, ()))))) = List.length (Line.Knots (Earth.FracLo (aR (eA (Earth.Bottom e, Line.Knots (Earth.PoreLo e), Line.Knots (Earth.PoreHi e), Line.Knots (Earth.FracLo e), Line.Knots (Earth.FracHi e), Earth.GLo e, Earth.GHi e, Earth.Reports e, Report.Kind r, Report.Z r, Report.P r, ())) (rA (Earth.Bottom e, Line.Knots (Earth.PoreLo e), Line.Knots (Earth.PoreHi e), Line.Knots (Earth.FracLo e), Line.Knots (Earth.FracHi e), Earth.GLo e, Earth.GHi e, Earth.Reports e, Report.Kind r, Report.Z r, Report.P r, ()))))))
       (.req (List.length (Line.Knots (Earth.FracHi (aR (eA (Earth.Bottom e, Line.Knots (Earth.PoreLo e), Line.Knots (Earth.PoreHi e), Line.Knots (Earth.FracLo e), Line.Knots (Earth.FracHi e), Earth.GLo e, Earth.GHi e, Earth.Reports e, Report.Kind r, Report.Z r, Report.P r, ())) (rA (Earth.Bottom e, Line.Knots (Earth.PoreLo e), Line.Knots (Earth.PoreHi e), Line.Knots (Earth.FracLo e), Line.Knots (Earth.FracHi e), Earth.GLo e, Earth.GHi e, Earth.Reports e, Report.Kind r, Report.Z r, Report.P r, ()))))) = List.length (Line.Knots (Earth.FracHi (aR (eA (Earth.Bottom e, Line.Knots (Earth.PoreLo e), Line.Knots (Earth.PoreHi e), Line.Knots (Earth.FracLo e), Line.Knots (Earth.FracHi e), Earth.GLo e, Earth.GHi e, Earth.Reports e, Report.Kind r, Report.Z r, Report.P r, ())) (rA (Earth.Bottom e, Line.Knots (Earth.PoreLo e), Line.Knots (Earth.PoreHi e), Line.Knots (Earth.FracLo e), Line.Knots (Earth.FracHi e), Earth.GLo e, Earth.GHi e, Earth.Reports e, Report.Kind r, Report.Z r, Report.P r, ()))))))
       (.req (List.length (up2 (List.length (Earth.Reports (aR (eA (Earth.Bottom e, Line.Knots (Earth.PoreLo e), Line.Knots (Earth.PoreHi e), Line.Knots (Earth.FracLo e), Line.Knots (Earth.FracHi e), Earth.GLo e, Earth.GHi e, Earth.Reports e, Report.Kind r, Report.Z r, Report.P r, ())) (rA (Earth.Bottom e, Line.Knots (Earth.PoreLo e), Line.Knots (Earth.PoreHi e), Line.Knots (Earth.FracLo e), Line.Knots (Earth.FracHi e), Earth.GLo e, Earth.GHi e, Earth.Reports e, Report.Kind r, Report.Z r, Report.P r, ())))) - Int.toNat (0 : Int)) (Earth.Reports (aR (eA (Earth.Bottom e, Line.Knots (Earth.PoreLo e), Line.Knots (Earth.PoreHi e), Line.Knots (Earth.FracLo e), Line.Knots (Earth.FracHi e), Earth.GLo e, Earth.GHi e, Earth.Reports e, Report.Kind r, Report.Z r, Report.P r, ())) (rA (Earth.Bottom e, Line.Knots (Earth.PoreLo e), Line.Knots (Earth.PoreHi e), Line.Knots (Earth.FracLo e), Line.Knots (Earth.FracHi e), Earth.GLo e, Earth.GHi e, Earth.Reports e, Report.Kind r, Report.Z r, Report.P r, ())))) (Int.toNat (0 : Int))) = List.length (up2 (List.length (Earth.Reports (aR (eA (Earth.Bottom e, Line.Knots (Earth.PoreLo e), Line.Knots (Earth.PoreHi e), Line.Knots (Earth.FracLo e), Line.Knots (Earth.FracHi e), Earth.GLo e, Earth.GHi e, Earth.Reports e, Report.Kind r, Report.Z r, Report.P r, ())) (rA (Earth.Bottom e, Line.Knots (Earth.PoreLo e), Line.Knots (Earth.PoreHi e), Line.Knots (Earth.FracLo e), Line.Knots (Earth.FracHi e), Earth.GLo e, Earth.GHi e, Earth.Reports e, Report.Kind r, Report.Z r, Report.P r, ())))) - Int.toNat (0 : Int)) (Earth.Reports (aR (eA (Earth.Bottom e, Line.Knots (Earth.PoreLo e), Line.Knots (Earth.PoreHi e), Line.Knots (Earth.FracLo e), Line.Knots (Earth.FracHi e), Earth.GLo e, Earth.GHi e, Earth.Reports e, Report.Kind r, Report.Z r, Report.P r, ())) (rA (Earth.Bottom e, Line.Knots (Earth.PoreLo e), Line.Knots (Earth.PoreHi e), Line.Knots (Earth.FracLo e), Line.Knots (Earth.FracHi e), Earth.GLo e, Earth.GHi e, Earth.Reports e, Report.Kind r, Report.Z r, Report.P r, ())))) (Int.toNat (0 : Int))))
       (.req (List.length (Line.Knots (Earth.PoreLo (aR (eA (Earth.Bottom e, Line.Knots (Earth.PoreLo e), Line.Knots (Earth.PoreHi e), Line.Knots (Earth.FracLo e), Line.Knots (Earth.FracHi e), Earth.GLo e, Earth.GHi e, Earth.Reports e, Report.Kind r, Report.Z r, Report.P r, ())) (rA (Earth.Bottom e, Line.Knots (Earth.PoreLo e), Line.Knots (Earth.PoreHi e), Line.Knots (Earth.FracLo e), Line.Knots (Earth.FracHi e), Earth.GLo e, Earth.GHi e, Earth.Reports e, Report.Kind r, Report.Z r, Report.P r, ()))))) = List.length (Line.Knots (Earth.PoreLo (aR (eA (Earth.Bottom e, Line.Knots (Earth.PoreLo e), Line.Knots (Earth.PoreHi e), Line.Knots (Earth.FracLo e), Line.Knots (Earth.FracHi e), Earth.GLo e, Earth.GHi e, Earth.Reports e, Report.Kind r, Report.Z r, Report.P r, ())) (rA (Earth.Bottom e, Line.Knots (Earth.PoreLo e), Line.Knots (Earth.PoreHi e), Line.Knots (Earth.FracLo e), Line.Knots (Earth.FracHi e), Earth.GLo e, Earth.GHi e, Earth.Reports e, Report.Kind r, Report.Z r, Report.P r, ()))))))
       (.req (List.length (Line.Knots (Earth.PoreHi (aR (eA (Earth.Bottom e, Line.Knots (Earth.PoreLo e), Line.Knots (Earth.PoreHi e), Line.Knots (Earth.FracLo e), Line.Knots (Earth.FracHi e), Earth.GLo e, Earth.GHi e, Earth.Reports e, Report.Kind r, Report.Z r, Report.P r, ())) (rA (Earth.Bottom e, Line.Knots (Earth.PoreLo e), Line.Knots (Earth.PoreHi e), Line.Knots (Earth.FracLo e), Line.Knots (Earth.FracHi e), Earth.GLo e, Earth.GHi e, Earth.Reports e, Report.Kind r, Report.Z r, Report.P r, ()))))) = List.length (Line.Knots (Earth.PoreHi (aR (eA (Earth.Bottom e, Line.Knots (Earth.PoreLo e), Line.Knots (Earth.PoreHi e), Line.Knots (Earth.FracLo e), Line.Knots (Earth.FracHi e), Earth.GLo e, Earth.GHi e, Earth.Reports e, Report.Kind r, Report.Z r, Report.P r, ())) (rA (Earth.Bottom e, Line.Knots (Earth.PoreLo e), Line.Knots (Earth.PoreHi e), Line.Knots (Earth.FracLo e), Line.Knots (Earth.FracHi e), Earth.GLo e, Earth.GHi e, Earth.Reports e, Report.Kind r, Report.Z r, Report.P r, ()))))))
       (.req (List.length (Line.Knots (Earth.FracLo (aR (eA (Earth.Bottom e, Line.Knots (Earth.PoreLo e), Line.Knots (Earth.PoreHi e), Line.Knots (Earth.FracLo e), Line.Knots (Earth.FracHi e), Earth.GLo e, Earth.GHi e, Earth.Reports e, Report.Kind r, Report.Z r, Report.P r, ())) (rA (Earth.Bottom e, Line.Knots (Earth.PoreLo e), Line.Knots (Earth.PoreHi e), Line.Knots (Earth.FracLo e), Line.Knots (Earth.FracHi e), Earth.GLo e, Earth.GHi e, Earth.Reports e, Report.Kind r, Report.Z r, Report.P r, ()))))) = List.length (Line.Knots (Earth.FracLo (aR (eA (Earth.Bottom e, Line.Knots (Earth.PoreLo e), Line.Knots (Earth.PoreHi e), Line.Knots (Earth.FracLo e), Line.Knots (Earth.FracHi e), Earth.GLo e, Earth.GHi e, Earth.Reports e, Report.Kind r, Report.Z r, Report.P r, ())) (rA (Earth.Bottom e, Line.Knots (Earth.PoreLo e), Line.Knots (Earth.PoreHi e), Line.Knots (Earth.FracLo e), Line.Knots (Earth.FracHi e), Earth.GLo e, Earth.GHi e, Earth.Reports e, Report.Kind r, Report.Z r, Report.P r, ()))))))
       (.req (List.length (Line.Knots (Earth.FracHi (aR (eA (Earth.Bottom e, Line.Knots (Earth.PoreLo e), Line.Knots (Earth.PoreHi e), Line.Knots (Earth.FracLo e), Line.Knots (Earth.FracHi e), Earth.GLo e, Earth.GHi e, Earth.Reports e, Report.Kind r, Report.Z r, Report.P r, ())) (rA (Earth.Bottom e, Line.Knots (Earth.PoreLo e), Line.Knots (Earth.PoreHi e), Line.Knots (Earth.FracLo e), Line.Knots (Earth.FracHi e), Earth.GLo e, Earth.GHi e, Earth.Reports e, Report.Kind r, Report.Z r, Report.P r, ()))))) = List.length (Line.Knots (Earth.FracHi (aR (eA (Earth.Bottom e, Line.Knots (Earth.PoreLo e), Line.Knots (Earth.PoreHi e), Line.Knots (Earth.FracLo e), Line.Knots (Earth.FracHi e), Earth.GLo e, Earth.GHi e, Earth.Reports e, Report.Kind r, Report.Z r, Report.P r, ())) (rA (Earth.Bottom e, Line.Knots (Earth.PoreLo e), Line.Knots (Earth.PoreHi e), Line.Knots (Earth.FracLo e), Line.Knots (Earth.FracHi e), Earth.GLo e, Earth.GHi e, Earth.Reports e, Report.Kind r, Report.Z r, Report.P r, ()))))))
       (.req (List.length (Earth.Reports (aR (eA (Earth.Bottom e, Line.Knots (Earth.PoreLo e), Line.Knots (Earth.PoreHi e), Line.Knots (Earth.FracLo e), Line.Knots (Earth.FracHi e), Earth.GLo e, Earth.GHi e, Earth.Reports e, Report.Kind r, Report.Z r, Report.P r, ())) (rA (Earth.Bottom e, Line.Knots (Earth.PoreLo e), Line.Knots (Earth.PoreHi e), Line.Knots (Earth.FracLo e), Line.Knots (Earth.FracHi e), Earth.GLo e, Earth.GHi e, Earth.Reports e, Report.Kind r, Report.Z r, Report.P r, ())))) = List.length (Earth.Reports (aR (eA (Earth.Bottom e, Line.Knots (Earth.PoreLo e), Line.Knots (Earth.PoreHi e), Line.Knots (Earth.FracLo e), Line.Knots (Earth.FracHi e), Earth.GLo e, Earth.GHi e, Earth.Reports e, Report.Kind r, Report.Z r, Report.P r, ())) (rA (Earth.Bottom e, Line.Knots (Earth.PoreLo e), Line.Knots (Earth.PoreHi e), Line.Knots (Earth.FracLo e), Line.Knots (Earth.FracHi e), Earth.GLo e, Earth.GHi e, Earth.Reports e, Report.Kind r, Report.Z r, Report.P r, ())))))
       (.req ((0 : Int) ≤ (0 : Int) ∧ (0 : Int) ≤ (↑(List.length (Earth.Reports (aR (eA (Earth.Bottom e, Line.Knots (Earth.PoreLo e), Line.Knots (Earth.PoreHi e), Line.Knots (Earth.FracLo e), Line.Knots (Earth.FracHi e), Earth.GLo e, Earth.GHi e, Earth.Reports e, Report.Kind r, Report.Z r, Report.P r, ())) (rA (Earth.Bottom e, Line.Knots (Earth.PoreLo e), Line.Knots (Earth.PoreHi e), Line.Knots (Earth.FracLo e), Line.Knots (Earth.FracHi e), Earth.GLo e, Earth.GHi e, Earth.Reports e, Report.Kind r, Report.Z r, Report.P r, ()))))) : Int) ∧ List.length (Earth.Reports (aR (eA (Earth.Bottom e, Line.Knots (Earth.PoreLo e), Line.Knots (Earth.PoreHi e), Line.Knots (Earth.FracLo e), Line.Knots (Earth.FracHi e), Earth.GLo e, Earth.GHi e, Earth.Reports e, Report.Kind r, Report.Z r, Report.P r, ())) (rA (Earth.Bottom e, Line.Knots (Earth.PoreLo e), Line.Knots (Earth.PoreHi e), Line.Knots (Earth.FracLo e), Line.Knots (Earth.FracHi e), Earth.GLo e, Earth.GHi e, Earth.Reports e, Report.Kind r, Report.Z r, Report.P r, ())))) ≤ (1000 : Nat))
       (.br (aE (eA (Earth.Bottom e, Line.Knots (Earth.PoreLo e), Line.Knots (Earth.PoreHi e), Line.Knots (Earth.FracLo e), Line.Knots (Earth.FracHi e), Earth.GLo e, Earth.GHi e, Earth.Reports e, Report.Kind r, Report.Z r, Report.P r, ())) (rA (Earth.Bottom e, Line.Knots (Earth.PoreLo e), Line.Knots (Earth.PoreHi e), Line.Knots (Earth.FracLo e), Line.Knots (Earth.FracHi e), Earth.GLo e, Earth.GHi e, Earth.Reports e, Report.Kind r, Report.Z r, Report.P r, ())) == aE (eA (Earth.Bottom e, Line.Knots (Earth.PoreLo e), Line.Knots (Earth.PoreHi e), Line.Knots (Earth.FracLo e), Line.Knots (Earth.FracHi e), Earth.GLo e, Earth.GHi e, Earth.Reports e, Report.Kind r, Report.Z r, Report.P r, ())) (rA (Earth.Bottom e, Line.Knots (Earth.PoreLo e), Line.Knots (Earth.PoreHi e), Line.Knots (Earth.FracLo e), Line.Knots (Earth.FracHi e), Earth.GLo e, Earth.GHi e, Earth.Reports e, Report.Kind r, Report.Z r, Report.P r, ())))
        (.req (List.length (Line.Knots (Earth.PoreLo (aR (eA (Earth.Bottom e, Line.Knots (Earth.PoreLo e), Line.Knots (Earth.PoreHi e), Line.Knots (Earth.FracLo e), Line.Knots (Earth.FracHi e), Earth.GLo e, Earth.GHi e, Earth.Reports e, Report.Kind r, Report.Z r, Report.P r, ())) (rA (Earth.Bottom e, Line.Knots (Earth.PoreLo e), Line.Knots (Earth.PoreHi e), Line.Knots (Earth.FracLo e), Line.Knots (Earth.FracHi e), Earth.GLo e, Earth.GHi e, Earth.Reports e, Report.Kind r, Report.Z r, Report.P r, ()))))) = List.length (Line.Knots (Earth.PoreLo (aR (eA (Earth.Bottom e, Line.Knots (Earth.PoreLo e), Line.Knots (Earth.PoreHi e), Line.Knots (Earth.FracLo e), Line.Knots (Earth.FracHi e), Earth.GLo e, Earth.GHi e, Earth.Reports e, Report.Kind r, Report.Z r, Report.P r, ())) (rA (Earth.Bottom e, Line.Knots (Earth.PoreLo e), Line.Knots (Earth.PoreHi e), Line.Knots (Earth.FracLo e), Line.Knots (Earth.FracHi e), Earth.GLo e, Earth.GHi e, Earth.Reports e, Report.Kind r, Report.Z r, Report.P r, ()))))))
        (.req (List.length (Line.Knots (Earth.PoreHi (aR (eA (Earth.Bottom e, Line.Knots (Earth.PoreLo e), Line.Knots (Earth.PoreHi e), Line.Knots (Earth.FracLo e), Line.Knots (Earth.FracHi e), Earth.GLo e, Earth.GHi e, Earth.Reports e, Report.Kind r, Report.Z r, Report.P r, ())) (rA (Earth.Bottom e, Line.Knots (Earth.PoreLo e), Line.Knots (Earth.PoreHi e), Line.Knots (Earth.FracLo e), Line.Knots (Earth.FracHi e), Earth.GLo e, Earth.GHi e, Earth.Reports e, Report.Kind r, Report.Z r, Report.P r, ()))))) = List.length (Line.Knots (Earth.PoreHi (aR (eA (Earth.Bottom e, Line.Knots (Earth.PoreLo e), Line.Knots (Earth.PoreHi e), Line.Knots (Earth.FracLo e), Line.Knots (Earth.FracHi e), Earth.GLo e, Earth.GHi e, Earth.Reports e, Report.Kind r, Report.Z r, Report.P r, ())) (rA (Earth.Bottom e, Line.Knots (Earth.PoreLo e), Line.Knots (Earth.PoreHi e), Line.Knots (Earth.FracLo e), Line.Knots (Earth.FracHi e), Earth.GLo e, Earth.GHi e, Earth.Reports e, Report.Kind r, Report.Z r, Report.P r, ()))))))
        (.req (List.length (Line.Knots (Earth.FracLo (aR (eA (Earth.Bottom e, Line.Knots (Earth.PoreLo e), Line.Knots (Earth.PoreHi e), Line.Knots (Earth.FracLo e), Line.Knots (Earth.FracHi e), Earth.GLo e, Earth.GHi e, Earth.Reports e, Report.Kind r, Report.Z r, Report.P r, ())) (rA (Earth.Bottom e, Line.Knots (Earth.PoreLo e), Line.Knots (Earth.PoreHi e), Line.Knots (Earth.FracLo e), Line.Knots (Earth.FracHi e), Earth.GLo e, Earth.GHi e, Earth.Reports e, Report.Kind r, Report.Z r, Report.P r, ()))))) = List.length (Line.Knots (Earth.FracLo (aR (eA (Earth.Bottom e, Line.Knots (Earth.PoreLo e), Line.Knots (Earth.PoreHi e), Line.Knots (Earth.FracLo e), Line.Knots (Earth.FracHi e), Earth.GLo e, Earth.GHi e, Earth.Reports e, Report.Kind r, Report.Z r, Report.P r, ())) (rA (Earth.Bottom e, Line.Knots (Earth.PoreLo e), Line.Knots (Earth.PoreHi e), Line.Knots (Earth.FracLo e), Line.Knots (Earth.FracHi e), Earth.GLo e, Earth.GHi e, Earth.Reports e, Report.Kind r, Report.Z r, Report.P r, ()))))))
        (.req (List.length (Line.Knots (Earth.FracHi (aR (eA (Earth.Bottom e, Line.Knots (Earth.PoreLo e), Line.Knots (Earth.PoreHi e), Line.Knots (Earth.FracLo e), Line.Knots (Earth.FracHi e), Earth.GLo e, Earth.GHi e, Earth.Reports e, Report.Kind r, Report.Z r, Report.P r, ())) (rA (Earth.Bottom e, Line.Knots (Earth.PoreLo e), Line.Knots (Earth.PoreHi e), Line.Knots (Earth.FracLo e), Line.Knots (Earth.FracHi e), Earth.GLo e, Earth.GHi e, Earth.Reports e, Report.Kind r, Report.Z r, Report.P r, ()))))) = List.length (Line.Knots (Earth.FracHi (aR (eA (Earth.Bottom e, Line.Knots (Earth.PoreLo e), Line.Knots (Earth.PoreHi e), Line.Knots (Earth.FracLo e), Line.Knots (Earth.FracHi e), Earth.GLo e, Earth.GHi e, Earth.Reports e, Report.Kind r, Report.Z r, Report.P r, ())) (rA (Earth.Bottom e, Line.Knots (Earth.PoreLo e), Line.Knots (Earth.PoreHi e), Line.Knots (Earth.FracLo e), Line.Knots (Earth.FracHi e), Earth.GLo e, Earth.GHi e, Earth.Reports e, Report.Kind r, Report.Z r, Report.P r, ()))))))
        (.req (List.length (up2 (List.length (Earth.Reports (aR (eA (Earth.Bottom e, Line.Knots (Earth.PoreLo e), Line.Knots (Earth.PoreHi e), Line.Knots (Earth.FracLo e), Line.Knots (Earth.FracHi e), Earth.GLo e, Earth.GHi e, Earth.Reports e, Report.Kind r, Report.Z r, Report.P r, ())) (rA (Earth.Bottom e, Line.Knots (Earth.PoreLo e), Line.Knots (Earth.PoreHi e), Line.Knots (Earth.FracLo e), Line.Knots (Earth.FracHi e), Earth.GLo e, Earth.GHi e, Earth.Reports e, Report.Kind r, Report.Z r, Report.P r, ())))) - Int.toNat (0 : Int)) (Earth.Reports (aR (eA (Earth.Bottom e, Line.Knots (Earth.PoreLo e), Line.Knots (Earth.PoreHi e), Line.Knots (Earth.FracLo e), Line.Knots (Earth.FracHi e), Earth.GLo e, Earth.GHi e, Earth.Reports e, Report.Kind r, Report.Z r, Report.P r, ())) (rA (Earth.Bottom e, Line.Knots (Earth.PoreLo e), Line.Knots (Earth.PoreHi e), Line.Knots (Earth.FracLo e), Line.Knots (Earth.FracHi e), Earth.GLo e, Earth.GHi e, Earth.Reports e, Report.Kind r, Report.Z r, Report.P r, ())))) (Int.toNat (0 : Int))) = List.length (up2 (List.length (Earth.Reports (aR (eA (Earth.Bottom e, Line.Knots (Earth.PoreLo e), Line.Knots (Earth.PoreHi e), Line.Knots (Earth.FracLo e), Line.Knots (Earth.FracHi e), Earth.GLo e, Earth.GHi e, Earth.Reports e, Report.Kind r, Report.Z r, Report.P r, ())) (rA (Earth.Bottom e, Line.Knots (Earth.PoreLo e), Line.Knots (Earth.PoreHi e), Line.Knots (Earth.FracLo e), Line.Knots (Earth.FracHi e), Earth.GLo e, Earth.GHi e, Earth.Reports e, Report.Kind r, Report.Z r, Report.P r, ())))) - Int.toNat (0 : Int)) (Earth.Reports (aR (eA (Earth.Bottom e, Line.Knots (Earth.PoreLo e), Line.Knots (Earth.PoreHi e), Line.Knots (Earth.FracLo e), Line.Knots (Earth.FracHi e), Earth.GLo e, Earth.GHi e, Earth.Reports e, Report.Kind r, Report.Z r, Report.P r, ())) (rA (Earth.Bottom e, Line.Knots (Earth.PoreLo e), Line.Knots (Earth.PoreHi e), Line.Knots (Earth.FracLo e), Line.Knots (Earth.FracHi e), Earth.GLo e, Earth.GHi e, Earth.Reports e, Report.Kind r, Report.Z r, Report.P r, ())))) (Int.toNat (0 : Int))))
        (.req (List.length (Line.Knots (Earth.PoreLo (aR (eA (Earth.Bottom e, Line.Knots (Earth.PoreLo e), Line.Knots (Earth.PoreHi e), Line.Knots (Earth.FracLo e), Line.Knots (Earth.FracHi e), Earth.GLo e, Earth.GHi e, Earth.Reports e, Report.Kind r, Report.Z r, Report.P r, ())) (rA (Earth.Bottom e, Line.Knots (Earth.PoreLo e), Line.Knots (Earth.PoreHi e), Line.Knots (Earth.FracLo e), Line.Knots (Earth.FracHi e), Earth.GLo e, Earth.GHi e, Earth.Reports e, Report.Kind r, Report.Z r, Report.P r, ()))))) = List.length (Line.Knots (Earth.PoreLo (aR (eA (Earth.Bottom e, Line.Knots (Earth.PoreLo e), Line.Knots (Earth.PoreHi e), Line.Knots (Earth.FracLo e), Line.Knots (Earth.FracHi e), Earth.GLo e, Earth.GHi e, Earth.Reports e, Report.Kind r, Report.Z r, Report.P r, ())) (rA (Earth.Bottom e, Line.Knots (Earth.PoreLo e), Line.Knots (Earth.PoreHi e), Line.Knots (Earth.FracLo e), Line.Knots (Earth.FracHi e), Earth.GLo e, Earth.GHi e, Earth.Reports e, Report.Kind r, Report.Z r, Report.P r, ()))))))
        (.req (List.length (Line.Knots (Earth.PoreHi (aR (eA (Earth.Bottom e, Line.Knots (Earth.PoreLo e), Line.Knots (Earth.PoreHi e), Line.Knots (Earth.FracLo e), Line.Knots (Earth.FracHi e), Earth.GLo e, Earth.GHi e, Earth.Reports e, Report.Kind r, Report.Z r, Report.P r, ())) (rA (Earth.Bottom e, Line.Knots (Earth.PoreLo e), Line.Knots (Earth.PoreHi e), Line.Knots (Earth.FracLo e), Line.Knots (Earth.FracHi e), Earth.GLo e, Earth.GHi e, Earth.Reports e, Report.Kind r, Report.Z r, Report.P r, ()))))) = List.length (Line.Knots (Earth.PoreHi (aR (eA (Earth.Bottom e, Line.Knots (Earth.PoreLo e), Line.Knots (Earth.PoreHi e), Line.Knots (Earth.FracLo e), Line.Knots (Earth.FracHi e), Earth.GLo e, Earth.GHi e, Earth.Reports e, Report.Kind r, Report.Z r, Report.P r, ())) (rA (Earth.Bottom e, Line.Knots (Earth.PoreLo e), Line.Knots (Earth.PoreHi e), Line.Knots (Earth.FracLo e), Line.Knots (Earth.FracHi e), Earth.GLo e, Earth.GHi e, Earth.Reports e, Report.Kind r, Report.Z r, Report.P r, ()))))))
        (.req (List.length (Line.Knots (Earth.FracLo (aR (eA (Earth.Bottom e, Line.Knots (Earth.PoreLo e), Line.Knots (Earth.PoreHi e), Line.Knots (Earth.FracLo e), Line.Knots (Earth.FracHi e), Earth.GLo e, Earth.GHi e, Earth.Reports e, Report.Kind r, Report.Z r, Report.P r, ())) (rA (Earth.Bottom e, Line.Knots (Earth.PoreLo e), Line.Knots (Earth.PoreHi e), Line.Knots (Earth.FracLo e), Line.Knots (Earth.FracHi e), Earth.GLo e, Earth.GHi e, Earth.Reports e, Report.Kind r, Report.Z r, Report.P r, ()))))) = List.length (Line.Knots (Earth.FracLo (aR (eA (Earth.Bottom e, Line.Knots (Earth.PoreLo e), Line.Knots (Earth.PoreHi e), Line.Knots (Earth.FracLo e), Line.Knots (Earth.FracHi e), Earth.GLo e, Earth.GHi e, Earth.Reports e, Report.Kind r, Report.Z r, Report.P r, ())) (rA (Earth.Bottom e, Line.Knots (Earth.PoreLo e), Line.Knots (Earth.PoreHi e), Line.Knots (Earth.FracLo e), Line.Knots (Earth.FracHi e), Earth.GLo e, Earth.GHi e, Earth.Reports e, Report.Kind r, Report.Z r, Report.P r, ()))))))
        (.req (List.length (Line.Knots (Earth.FracHi (aR (eA (Earth.Bottom e, Line.Knots (Earth.PoreLo e), Line.Knots (Earth.PoreHi e), Line.Knots (Earth.FracLo e), Line.Knots (Earth.FracHi e), Earth.GLo e, Earth.GHi e, Earth.Reports e, Report.Kind r, Report.Z r, Report.P r, ())) (rA (Earth.Bottom e, Line.Knots (Earth.PoreLo e), Line.Knots (Earth.PoreHi e), Line.Knots (Earth.FracLo e), Line.Knots (Earth.FracHi e), Earth.GLo e, Earth.GHi e, Earth.Reports e, Report.Kind r, Report.Z r, Report.P r, ()))))) = List.length (Line.Knots (Earth.FracHi (aR (eA (Earth.Bottom e, Line.Knots (Earth.PoreLo e), Line.Knots (Earth.PoreHi e), Line.Knots (Earth.FracLo e), Line.Knots (Earth.FracHi e), Earth.GLo e, Earth.GHi e, Earth.Reports e, Report.Kind r, Report.Z r, Report.P r, ())) (rA (Earth.Bottom e, Line.Knots (Earth.PoreLo e), Line.Knots (Earth.PoreHi e), Line.Knots (Earth.FracLo e), Line.Knots (Earth.FracHi e), Earth.GLo e, Earth.GHi e, Earth.Reports e, Report.Kind r, Report.Z r, Report.P r, ()))))))
        (.req (List.length (up2 (List.length (Earth.Reports (aR (eA (Earth.Bottom e, Line.Knots (Earth.PoreLo e), Line.Knots (Earth.PoreHi e), Line.Knots (Earth.FracLo e), Line.Knots (Earth.FracHi e), Earth.GLo e, Earth.GHi e, Earth.Reports e, Report.Kind r, Report.Z r, Report.P r, ())) (rA (Earth.Bottom e, Line.Knots (Earth.PoreLo e), Line.Knots (Earth.PoreHi e), Line.Knots (Earth.FracLo e), Line.Knots (Earth.FracHi e), Earth.GLo e, Earth.GHi e, Earth.Reports e, Report.Kind r, Report.Z r, Report.P r, ())))) - Int.toNat (0 : Int)) (Earth.Reports (aR (eA (Earth.Bottom e, Line.Knots (Earth.PoreLo e), Line.Knots (Earth.PoreHi e), Line.Knots (Earth.FracLo e), Line.Knots (Earth.FracHi e), Earth.GLo e, Earth.GHi e, Earth.Reports e, Report.Kind r, Report.Z r, Report.P r, ())) (rA (Earth.Bottom e, Line.Knots (Earth.PoreLo e), Line.Knots (Earth.PoreHi e), Line.Knots (Earth.FracLo e), Line.Knots (Earth.FracHi e), Earth.GLo e, Earth.GHi e, Earth.Reports e, Report.Kind r, Report.Z r, Report.P r, ())))) (Int.toNat (0 : Int))) = List.length (up2 (List.length (Earth.Reports (aR (eA (Earth.Bottom e, Line.Knots (Earth.PoreLo e), Line.Knots (Earth.PoreHi e), Line.Knots (Earth.FracLo e), Line.Knots (Earth.FracHi e), Earth.GLo e, Earth.GHi e, Earth.Reports e, Report.Kind r, Report.Z r, Report.P r, ())) (rA (Earth.Bottom e, Line.Knots (Earth.PoreLo e), Line.Knots (Earth.PoreHi e), Line.Knots (Earth.FracLo e), Line.Knots (Earth.FracHi e), Earth.GLo e, Earth.GHi e, Earth.Reports e, Report.Kind r, Report.Z r, Report.P r, ())))) - Int.toNat (0 : Int)) (Earth.Reports (aR (eA (Earth.Bottom e, Line.Knots (Earth.PoreLo e), Line.Knots (Earth.PoreHi e), Line.Knots (Earth.FracLo e), Line.Knots (Earth.FracHi e), Earth.GLo e, Earth.GHi e, Earth.Reports e, Report.Kind r, Report.Z r, Report.P r, ())) (rA (Earth.Bottom e, Line.Knots (Earth.PoreLo e), Line.Knots (Earth.PoreHi e), Line.Knots (Earth.FracLo e), Line.Knots (Earth.FracHi e), Earth.GLo e, Earth.GHi e, Earth.Reports e, Report.Kind r, Report.Z r, Report.P r, ())))) (Int.toNat (0 : Int))))
        (.req (smallE (e1 (Earth.Bottom (aR (eA (Earth.Bottom e, Line.Knots (Earth.PoreLo e), Line.Knots (Earth.PoreHi e), Line.Knots (Earth.FracLo e), Line.Knots (Earth.FracHi e), Earth.GLo e, Earth.GHi e, Earth.Reports e, Report.Kind r, Report.Z r, Report.P r, ())) (rA (Earth.Bottom e, Line.Knots (Earth.PoreLo e), Line.Knots (Earth.PoreHi e), Line.Knots (Earth.FracLo e), Line.Knots (Earth.FracHi e), Earth.GLo e, Earth.GHi e, Earth.Reports e, Report.Kind r, Report.Z r, Report.P r, ()))), Line.Knots (Earth.PoreLo (aR (eA (Earth.Bottom e, Line.Knots (Earth.PoreLo e), Line.Knots (Earth.PoreHi e), Line.Knots (Earth.FracLo e), Line.Knots (Earth.FracHi e), Earth.GLo e, Earth.GHi e, Earth.Reports e, Report.Kind r, Report.Z r, Report.P r, ())) (rA (Earth.Bottom e, Line.Knots (Earth.PoreLo e), Line.Knots (Earth.PoreHi e), Line.Knots (Earth.FracLo e), Line.Knots (Earth.FracHi e), Earth.GLo e, Earth.GHi e, Earth.Reports e, Report.Kind r, Report.Z r, Report.P r, ())))), Line.Knots (Earth.PoreHi (aR (eA (Earth.Bottom e, Line.Knots (Earth.PoreLo e), Line.Knots (Earth.PoreHi e), Line.Knots (Earth.FracLo e), Line.Knots (Earth.FracHi e), Earth.GLo e, Earth.GHi e, Earth.Reports e, Report.Kind r, Report.Z r, Report.P r, ())) (rA (Earth.Bottom e, Line.Knots (Earth.PoreLo e), Line.Knots (Earth.PoreHi e), Line.Knots (Earth.FracLo e), Line.Knots (Earth.FracHi e), Earth.GLo e, Earth.GHi e, Earth.Reports e, Report.Kind r, Report.Z r, Report.P r, ())))), Line.Knots (Earth.FracLo (aR (eA (Earth.Bottom e, Line.Knots (Earth.PoreLo e), Line.Knots (Earth.PoreHi e), Line.Knots (Earth.FracLo e), Line.Knots (Earth.FracHi e), Earth.GLo e, Earth.GHi e, Earth.Reports e, Report.Kind r, Report.Z r, Report.P r, ())) (rA (Earth.Bottom e, Line.Knots (Earth.PoreLo e), Line.Knots (Earth.PoreHi e), Line.Knots (Earth.FracLo e), Line.Knots (Earth.FracHi e), Earth.GLo e, Earth.GHi e, Earth.Reports e, Report.Kind r, Report.Z r, Report.P r, ())))), Line.Knots (Earth.FracHi (aR (eA (Earth.Bottom e, Line.Knots (Earth.PoreLo e), Line.Knots (Earth.PoreHi e), Line.Knots (Earth.FracLo e), Line.Knots (Earth.FracHi e), Earth.GLo e, Earth.GHi e, Earth.Reports e, Report.Kind r, Report.Z r, Report.P r, ())) (rA (Earth.Bottom e, Line.Knots (Earth.PoreLo e), Line.Knots (Earth.PoreHi e), Line.Knots (Earth.FracLo e), Line.Knots (Earth.FracHi e), Earth.GLo e, Earth.GHi e, Earth.Reports e, Report.Kind r, Report.Z r, Report.P r, ())))), Earth.GLo (aR (eA (Earth.Bottom e, Line.Knots (Earth.PoreLo e), Line.Knots (Earth.PoreHi e), Line.Knots (Earth.FracLo e), Line.Knots (Earth.FracHi e), Earth.GLo e, Earth.GHi e, Earth.Reports e, Report.Kind r, Report.Z r, Report.P r, ())) (rA (Earth.Bottom e, Line.Knots (Earth.PoreLo e), Line.Knots (Earth.PoreHi e), Line.Knots (Earth.FracLo e), Line.Knots (Earth.FracHi e), Earth.GLo e, Earth.GHi e, Earth.Reports e, Report.Kind r, Report.Z r, Report.P r, ()))), Earth.GHi (aR (eA (Earth.Bottom e, Line.Knots (Earth.PoreLo e), Line.Knots (Earth.PoreHi e), Line.Knots (Earth.FracLo e), Line.Knots (Earth.FracHi e), Earth.GLo e, Earth.GHi e, Earth.Reports e, Report.Kind r, Report.Z r, Report.P r, ())) (rA (Earth.Bottom e, Line.Knots (Earth.PoreLo e), Line.Knots (Earth.PoreHi e), Line.Knots (Earth.FracLo e), Line.Knots (Earth.FracHi e), Earth.GLo e, Earth.GHi e, Earth.Reports e, Report.Kind r, Report.Z r, Report.P r, ()))), up2 (List.length (Earth.Reports (aR (eA (Earth.Bottom e, Line.Knots (Earth.PoreLo e), Line.Knots (Earth.PoreHi e), Line.Knots (Earth.FracLo e), Line.Knots (Earth.FracHi e), Earth.GLo e, Earth.GHi e, Earth.Reports e, Report.Kind r, Report.Z r, Report.P r, ())) (rA (Earth.Bottom e, Line.Knots (Earth.PoreLo e), Line.Knots (Earth.PoreHi e), Line.Knots (Earth.FracLo e), Line.Knots (Earth.FracHi e), Earth.GLo e, Earth.GHi e, Earth.Reports e, Report.Kind r, Report.Z r, Report.P r, ())))) - Int.toNat (0 : Int)) (Earth.Reports (aR (eA (Earth.Bottom e, Line.Knots (Earth.PoreLo e), Line.Knots (Earth.PoreHi e), Line.Knots (Earth.FracLo e), Line.Knots (Earth.FracHi e), Earth.GLo e, Earth.GHi e, Earth.Reports e, Report.Kind r, Report.Z r, Report.P r, ())) (rA (Earth.Bottom e, Line.Knots (Earth.PoreLo e), Line.Knots (Earth.PoreHi e), Line.Knots (Earth.FracLo e), Line.Knots (Earth.FracHi e), Earth.GLo e, Earth.GHi e, Earth.Reports e, Report.Kind r, Report.Z r, Report.P r, ())))) (Int.toNat (0 : Int)), Earth.Bottom (aR (eA (Earth.Bottom e, Line.Knots (Earth.PoreLo e), Line.Knots (Earth.PoreHi e), Line.Knots (Earth.FracLo e), Line.Knots (Earth.FracHi e), Earth.GLo e, Earth.GHi e, Earth.Reports e, Report.Kind r, Report.Z r, Report.P r, ())) (rA (Earth.Bottom e, Line.Knots (Earth.PoreLo e), Line.Knots (Earth.PoreHi e), Line.Knots (Earth.FracLo e), Line.Knots (Earth.FracHi e), Earth.GLo e, Earth.GHi e, Earth.Reports e, Report.Kind r, Report.Z r, Report.P r, ()))), Line.Knots (Earth.PoreLo (aR (eA (Earth.Bottom e, Line.Knots (Earth.PoreLo e), Line.Knots (Earth.PoreHi e), Line.Knots (Earth.FracLo e), Line.Knots (Earth.FracHi e), Earth.GLo e, Earth.GHi e, Earth.Reports e, Report.Kind r, Report.Z r, Report.P r, ())) (rA (Earth.Bottom e, Line.Knots (Earth.PoreLo e), Line.Knots (Earth.PoreHi e), Line.Knots (Earth.FracLo e), Line.Knots (Earth.FracHi e), Earth.GLo e, Earth.GHi e, Earth.Reports e, Report.Kind r, Report.Z r, Report.P r, ())))), Line.Knots (Earth.PoreHi (aR (eA (Earth.Bottom e, Line.Knots (Earth.PoreLo e), Line.Knots (Earth.PoreHi e), Line.Knots (Earth.FracLo e), Line.Knots (Earth.FracHi e), Earth.GLo e, Earth.GHi e, Earth.Reports e, Report.Kind r, Report.Z r, Report.P r, ())) (rA (Earth.Bottom e, Line.Knots (Earth.PoreLo e), Line.Knots (Earth.PoreHi e), Line.Knots (Earth.FracLo e), Line.Knots (Earth.FracHi e), Earth.GLo e, Earth.GHi e, Earth.Reports e, Report.Kind r, Report.Z r, Report.P r, ())))), Line.Knots (Earth.FracLo (aR (eA (Earth.Bottom e, Line.Knots (Earth.PoreLo e), Line.Knots (Earth.PoreHi e), Line.Knots (Earth.FracLo e), Line.Knots (Earth.FracHi e), Earth.GLo e, Earth.GHi e, Earth.Reports e, Report.Kind r, Report.Z r, Report.P r, ())) (rA (Earth.Bottom e, Line.Knots (Earth.PoreLo e), Line.Knots (Earth.PoreHi e), Line.Knots (Earth.FracLo e), Line.Knots (Earth.FracHi e), Earth.GLo e, Earth.GHi e, Earth.Reports e, Report.Kind r, Report.Z r, Report.P r, ())))), Line.Knots (Earth.FracHi (aR (eA (Earth.Bottom e, Line.Knots (Earth.PoreLo e), Line.Knots (Earth.PoreHi e), Line.Knots (Earth.FracLo e), Line.Knots (Earth.FracHi e), Earth.GLo e, Earth.GHi e, Earth.Reports e, Report.Kind r, Report.Z r, Report.P r, ())) (rA (Earth.Bottom e, Line.Knots (Earth.PoreLo e), Line.Knots (Earth.PoreHi e), Line.Knots (Earth.FracLo e), Line.Knots (Earth.FracHi e), Earth.GLo e, Earth.GHi e, Earth.Reports e, Report.Kind r, Report.Z r, Report.P r, ())))), Earth.GLo (aR (eA (Earth.Bottom e, Line.Knots (Earth.PoreLo e), Line.Knots (Earth.PoreHi e), Line.Knots (Earth.FracLo e), Line.Knots (Earth.FracHi e), Earth.GLo e, Earth.GHi e, Earth.Reports e, Report.Kind r, Report.Z r, Report.P r, ())) (rA (Earth.Bottom e, Line.Knots (Earth.PoreLo e), Line.Knots (Earth.PoreHi e), Line.Knots (Earth.FracLo e), Line.Knots (Earth.FracHi e), Earth.GLo e, Earth.GHi e, Earth.Reports e, Report.Kind r, Report.Z r, Report.P r, ()))), Earth.GHi (aR (eA (Earth.Bottom e, Line.Knots (Earth.PoreLo e), Line.Knots (Earth.PoreHi e), Line.Knots (Earth.FracLo e), Line.Knots (Earth.FracHi e), Earth.GLo e, Earth.GHi e, Earth.Reports e, Report.Kind r, Report.Z r, Report.P r, ())) (rA (Earth.Bottom e, Line.Knots (Earth.PoreLo e), Line.Knots (Earth.PoreHi e), Line.Knots (Earth.FracLo e), Line.Knots (Earth.FracHi e), Earth.GLo e, Earth.GHi e, Earth.Reports e, Report.Kind r, Report.Z r, Report.P r, ()))), up2 (List.length (Earth.Reports (aR (eA (Earth.Bottom e, Line.Knots (Earth.PoreLo e), Line.Knots (Earth.PoreHi e), Line.Knots (Earth.FracLo e), Line.Knots (Earth.FracHi e), Earth.GLo e, Earth.GHi e, Earth.Reports e, Report.Kind r, Report.Z r, Report.P r, ())) (rA (Earth.Bottom e, Line.Knots (Earth.PoreLo e), Line.Knots (Earth.PoreHi e), Line.Knots (Earth.FracLo e), Line.Knots (Earth.FracHi e), Earth.GLo e, Earth.GHi e, Earth.Reports e, Report.Kind r, Report.Z r, Report.P r, ())))) - Int.toNat (0 : Int)) (Earth.Reports (aR (eA (Earth.Bottom e, Line.Knots (Earth.PoreLo e), Line.Knots (Earth.PoreHi e), Line.Knots (Earth.FracLo e), Line.Knots (Earth.FracHi e), Earth.GLo e, Earth.GHi e, Earth.Reports e, Report.Kind r, Report.Z r, Report.P r, ())) (rA (Earth.Bottom e, Line.Knots (Earth.PoreLo e), Line.Knots (Earth.PoreHi e), Line.Knots (Earth.FracLo e), Line.Knots (Earth.FracHi e), Earth.GLo e, Earth.GHi e, Earth.Reports e, Report.Kind r, Report.Z r, Report.P r, ())))) (Int.toNat (0 : Int)), ())) ∧ smallE (e2 (Earth.Bottom (aR (eA (Earth.Bottom e, Line.Knots (Earth.PoreLo e), Line.Knots (Earth.PoreHi e), Line.Knots (Earth.FracLo e), Line.Knots (Earth.FracHi e), Earth.GLo e, Earth.GHi e, Earth.Reports e, Report.Kind r, Report.Z r, Report.P r, ())) (rA (Earth.Bottom e, Line.Knots (Earth.PoreLo e), Line.Knots (Earth.PoreHi e), Line.Knots (Earth.FracLo e), Line.Knots (Earth.FracHi e), Earth.GLo e, Earth.GHi e, Earth.Reports e, Report.Kind r, Report.Z r, Report.P r, ()))), Line.Knots (Earth.PoreLo (aR (eA (Earth.Bottom e, Line.Knots (Earth.PoreLo e), Line.Knots (Earth.PoreHi e), Line.Knots (Earth.FracLo e), Line.Knots (Earth.FracHi e), Earth.GLo e, Earth.GHi e, Earth.Reports e, Report.Kind r, Report.Z r, Report.P r, ())) (rA (Earth.Bottom e, Line.Knots (Earth.PoreLo e), Line.Knots (Earth.PoreHi e), Line.Knots (Earth.FracLo e), Line.Knots (Earth.FracHi e), Earth.GLo e, Earth.GHi e, Earth.Reports e, Report.Kind r, Report.Z r, Report.P r, ())))), Line.Knots (Earth.PoreHi (aR (eA (Earth.Bottom e, Line.Knots (Earth.PoreLo e), Line.Knots (Earth.PoreHi e), Line.Knots (Earth.FracLo e), Line.Knots (Earth.FracHi e), Earth.GLo e, Earth.GHi e, Earth.Reports e, Report.Kind r, Report.Z r, Report.P r, ())) (rA (Earth.Bottom e, Line.Knots (Earth.PoreLo e), Line.Knots (Earth.PoreHi e), Line.Knots (Earth.FracLo e), Line.Knots (Earth.FracHi e), Earth.GLo e, Earth.GHi e, Earth.Reports e, Report.Kind r, Report.Z r, Report.P r, ())))), Line.Knots (Earth.FracLo (aR (eA (Earth.Bottom e, Line.Knots (Earth.PoreLo e), Line.Knots (Earth.PoreHi e), Line.Knots (Earth.FracLo e), Line.Knots (Earth.FracHi e), Earth.GLo e, Earth.GHi e, Earth.Reports e, Report.Kind r, Report.Z r, Report.P r, ())) (rA (Earth.Bottom e, Line.Knots (Earth.PoreLo e), Line.Knots (Earth.PoreHi e), Line.Knots (Earth.FracLo e), Line.Knots (Earth.FracHi e), Earth.GLo e, Earth.GHi e, Earth.Reports e, Report.Kind r, Report.Z r, Report.P r, ())))), Line.Knots (Earth.FracHi (aR (eA (Earth.Bottom e, Line.Knots (Earth.PoreLo e), Line.Knots (Earth.PoreHi e), Line.Knots (Earth.FracLo e), Line.Knots (Earth.FracHi e), Earth.GLo e, Earth.GHi e, Earth.Reports e, Report.Kind r, Report.Z r, Report.P r, ())) (rA (Earth.Bottom e, Line.Knots (Earth.PoreLo e), Line.Knots (Earth.PoreHi e), Line.Knots (Earth.FracLo e), Line.Knots (Earth.FracHi e), Earth.GLo e, Earth.GHi e, Earth.Reports e, Report.Kind r, Report.Z r, Report.P r, ())))), Earth.GLo (aR (eA (Earth.Bottom e, Line.Knots (Earth.PoreLo e), Line.Knots (Earth.PoreHi e), Line.Knots (Earth.FracLo e), Line.Knots (Earth.FracHi e), Earth.GLo e, Earth.GHi e, Earth.Reports e, Report.Kind r, Report.Z r, Report.P r, ())) (rA (Earth.Bottom e, Line.Knots (Earth.PoreLo e), Line.Knots (Earth.PoreHi e), Line.Knots (Earth.FracLo e), Line.Knots (Earth.FracHi e), Earth.GLo e, Earth.GHi e, Earth.Reports e, Report.Kind r, Report.Z r, Report.P r, ()))), Earth.GHi (aR (eA (Earth.Bottom e, Line.Knots (Earth.PoreLo e), Line.Knots (Earth.PoreHi e), Line.Knots (Earth.FracLo e), Line.Knots (Earth.FracHi e), Earth.GLo e, Earth.GHi e, Earth.Reports e, Report.Kind r, Report.Z r, Report.P r, ())) (rA (Earth.Bottom e, Line.Knots (Earth.PoreLo e), Line.Knots (Earth.PoreHi e), Line.Knots (Earth.FracLo e), Line.Knots (Earth.FracHi e), Earth.GLo e, Earth.GHi e, Earth.Reports e, Report.Kind r, Report.Z r, Report.P r, ()))), up2 (List.length (Earth.Reports (aR (eA (Earth.Bottom e, Line.Knots (Earth.PoreLo e), Line.Knots (Earth.PoreHi e), Line.Knots (Earth.FracLo e), Line.Knots (Earth.FracHi e), Earth.GLo e, Earth.GHi e, Earth.Reports e, Report.Kind r, Report.Z r, Report.P r, ())) (rA (Earth.Bottom e, Line.Knots (Earth.PoreLo e), Line.Knots (Earth.PoreHi e), Line.Knots (Earth.FracLo e), Line.Knots (Earth.FracHi e), Earth.GLo e, Earth.GHi e, Earth.Reports e, Report.Kind r, Report.Z r, Report.P r, ())))) - Int.toNat (0 : Int)) (Earth.Reports (aR (eA (Earth.Bottom e, Line.Knots (Earth.PoreLo e), Line.Knots (Earth.PoreHi e), Line.Knots (Earth.FracLo e), Line.Knots (Earth.FracHi e), Earth.GLo e, Earth.GHi e, Earth.Reports e, Report.Kind r, Report.Z r, Report.P r, ())) (rA (Earth.Bottom e, Line.Knots (Earth.PoreLo e), Line.Knots (Earth.PoreHi e), Line.Knots (Earth.FracLo e), Line.Knots (Earth.FracHi e), Earth.GLo e, Earth.GHi e, Earth.Reports e, Report.Kind r, Report.Z r, Report.P r, ())))) (Int.toNat (0 : Int)), Earth.Bottom (aR (eA (Earth.Bottom e, Line.Knots (Earth.PoreLo e), Line.Knots (Earth.PoreHi e), Line.Knots (Earth.FracLo e), Line.Knots (Earth.FracHi e), Earth.GLo e, Earth.GHi e, Earth.Reports e, Report.Kind r, Report.Z r, Report.P r, ())) (rA (Earth.Bottom e, Line.Knots (Earth.PoreLo e), Line.Knots (Earth.PoreHi e), Line.Knots (Earth.FracLo e), Line.Knots (Earth.FracHi e), Earth.GLo e, Earth.GHi e, Earth.Reports e, Report.Kind r, Report.Z r, Report.P r, ()))), Line.Knots (Earth.PoreLo (aR (eA (Earth.Bottom e, Line.Knots (Earth.PoreLo e), Line.Knots (Earth.PoreHi e), Line.Knots (Earth.FracLo e), Line.Knots (Earth.FracHi e), Earth.GLo e, Earth.GHi e, Earth.Reports e, Report.Kind r, Report.Z r, Report.P r, ())) (rA (Earth.Bottom e, Line.Knots (Earth.PoreLo e), Line.Knots (Earth.PoreHi e), Line.Knots (Earth.FracLo e), Line.Knots (Earth.FracHi e), Earth.GLo e, Earth.GHi e, Earth.Reports e, Report.Kind r, Report.Z r, Report.P r, ())))), Line.Knots (Earth.PoreHi (aR (eA (Earth.Bottom e, Line.Knots (Earth.PoreLo e), Line.Knots (Earth.PoreHi e), Line.Knots (Earth.FracLo e), Line.Knots (Earth.FracHi e), Earth.GLo e, Earth.GHi e, Earth.Reports e, Report.Kind r, Report.Z r, Report.P r, ())) (rA (Earth.Bottom e, Line.Knots (Earth.PoreLo e), Line.Knots (Earth.PoreHi e), Line.Knots (Earth.FracLo e), Line.Knots (Earth.FracHi e), Earth.GLo e, Earth.GHi e, Earth.Reports e, Report.Kind r, Report.Z r, Report.P r, ())))), Line.Knots (Earth.FracLo (aR (eA (Earth.Bottom e, Line.Knots (Earth.PoreLo e), Line.Knots (Earth.PoreHi e), Line.Knots (Earth.FracLo e), Line.Knots (Earth.FracHi e), Earth.GLo e, Earth.GHi e, Earth.Reports e, Report.Kind r, Report.Z r, Report.P r, ())) (rA (Earth.Bottom e, Line.Knots (Earth.PoreLo e), Line.Knots (Earth.PoreHi e), Line.Knots (Earth.FracLo e), Line.Knots (Earth.FracHi e), Earth.GLo e, Earth.GHi e, Earth.Reports e, Report.Kind r, Report.Z r, Report.P r, ())))), Line.Knots (Earth.FracHi (aR (eA (Earth.Bottom e, Line.Knots (Earth.PoreLo e), Line.Knots (Earth.PoreHi e), Line.Knots (Earth.FracLo e), Line.Knots (Earth.FracHi e), Earth.GLo e, Earth.GHi e, Earth.Reports e, Report.Kind r, Report.Z r, Report.P r, ())) (rA (Earth.Bottom e, Line.Knots (Earth.PoreLo e), Line.Knots (Earth.PoreHi e), Line.Knots (Earth.FracLo e), Line.Knots (Earth.FracHi e), Earth.GLo e, Earth.GHi e, Earth.Reports e, Report.Kind r, Report.Z r, Report.P r, ())))), Earth.GLo (aR (eA (Earth.Bottom e, Line.Knots (Earth.PoreLo e), Line.Knots (Earth.PoreHi e), Line.Knots (Earth.FracLo e), Line.Knots (Earth.FracHi e), Earth.GLo e, Earth.GHi e, Earth.Reports e, Report.Kind r, Report.Z r, Report.P r, ())) (rA (Earth.Bottom e, Line.Knots (Earth.PoreLo e), Line.Knots (Earth.PoreHi e), Line.Knots (Earth.FracLo e), Line.Knots (Earth.FracHi e), Earth.GLo e, Earth.GHi e, Earth.Reports e, Report.Kind r, Report.Z r, Report.P r, ()))), Earth.GHi (aR (eA (Earth.Bottom e, Line.Knots (Earth.PoreLo e), Line.Knots (Earth.PoreHi e), Line.Knots (Earth.FracLo e), Line.Knots (Earth.FracHi e), Earth.GLo e, Earth.GHi e, Earth.Reports e, Report.Kind r, Report.Z r, Report.P r, ())) (rA (Earth.Bottom e, Line.Knots (Earth.PoreLo e), Line.Knots (Earth.PoreHi e), Line.Knots (Earth.FracLo e), Line.Knots (Earth.FracHi e), Earth.GLo e, Earth.GHi e, Earth.Reports e, Report.Kind r, Report.Z r, Report.P r, ()))), up2 (List.length (Earth.Reports (aR (eA (Earth.Bottom e, Line.Knots (Earth.PoreLo e), Line.Knots (Earth.PoreHi e), Line.Knots (Earth.FracLo e), Line.Knots (Earth.FracHi e), Earth.GLo e, Earth.GHi e, Earth.Reports e, Report.Kind r, Report.Z r, Report.P r, ())) (rA (Earth.Bottom e, Line.Knots (Earth.PoreLo e), Line.Knots (Earth.PoreHi e), Line.Knots (Earth.FracLo e), Line.Knots (Earth.FracHi e), Earth.GLo e, Earth.GHi e, Earth.Reports e, Report.Kind r, Report.Z r, Report.P r, ())))) - Int.toNat (0 : Int)) (Earth.Reports (aR (eA (Earth.Bottom e, Line.Knots (Earth.PoreLo e), Line.Knots (Earth.PoreHi e), Line.Knots (Earth.FracLo e), Line.Knots (Earth.FracHi e), Earth.GLo e, Earth.GHi e, Earth.Reports e, Report.Kind r, Report.Z r, Report.P r, ())) (rA (Earth.Bottom e, Line.Knots (Earth.PoreLo e), Line.Knots (Earth.PoreHi e), Line.Knots (Earth.FracLo e), Line.Knots (Earth.FracHi e), Earth.GLo e, Earth.GHi e, Earth.Reports e, Report.Kind r, Report.Z r, Report.P r, ())))) (Int.toNat (0 : Int)), ())))
        (.br (sameE (e1 (Earth.Bottom (aR (eA (Earth.Bottom e, Line.Knots (Earth.PoreLo e), Line.Knots (Earth.PoreHi e), Line.Knots (Earth.FracLo e), Line.Knots (Earth.FracHi e), Earth.GLo e, Earth.GHi e, Earth.Reports e, Report.Kind r, Report.Z r, Report.P r, ())) (rA (Earth.Bottom e, Line.Knots (Earth.PoreLo e), Line.Knots (Earth.PoreHi e), Line.Knots (Earth.FracLo e), Line.Knots (Earth.FracHi e), Earth.GLo e, Earth.GHi e, Earth.Reports e, Report.Kind r, Report.Z r, Report.P r, ()))), Line.Knots (Earth.PoreLo (aR (eA (Earth.Bottom e, Line.Knots (Earth.PoreLo e), Line.Knots (Earth.PoreHi e), Line.Knots (Earth.FracLo e), Line.Knots (Earth.FracHi e), Earth.GLo e, Earth.GHi e, Earth.Reports e, Report.Kind r, Report.Z r, Report.P r, ())) (rA (Earth.Bottom e, Line.Knots (Earth.PoreLo e), Line.Knots (Earth.PoreHi e), Line.Knots (Earth.FracLo e), Line.Knots (Earth.FracHi e), Earth.GLo e, Earth.GHi e, Earth.Reports e, Report.Kind r, Report.Z r, Report.P r, ())))), Line.Knots (Earth.PoreHi (aR (eA (Earth.Bottom e, Line.Knots (Earth.PoreLo e), Line.Knots (Earth.PoreHi e), Line.Knots (Earth.FracLo e), Line.Knots (Earth.FracHi e), Earth.GLo e, Earth.GHi e, Earth.Reports e, Report.Kind r, Report.Z r, Report.P r, ())) (rA (Earth.Bottom e, Line.Knots (Earth.PoreLo e), Line.Knots (Earth.PoreHi e), Line.Knots (Earth.FracLo e), Line.Knots (Earth.FracHi e), Earth.GLo e, Earth.GHi e, Earth.Reports e, Report.Kind r, Report.Z r, Report.P r, ())))), Line.Knots (Earth.FracLo (aR (eA (Earth.Bottom e, Line.Knots (Earth.PoreLo e), Line.Knots (Earth.PoreHi e), Line.Knots (Earth.FracLo e), Line.Knots (Earth.FracHi e), Earth.GLo e, Earth.GHi e, Earth.Reports e, Report.Kind r, Report.Z r, Report.P r, ())) (rA (Earth.Bottom e, Line.Knots (Earth.PoreLo e), Line.Knots (Earth.PoreHi e), Line.Knots (Earth.FracLo e), Line.Knots (Earth.FracHi e), Earth.GLo e, Earth.GHi e, Earth.Reports e, Report.Kind r, Report.Z r, Report.P r, ())))), Line.Knots (Earth.FracHi (aR (eA (Earth.Bottom e, Line.Knots (Earth.PoreLo e), Line.Knots (Earth.PoreHi e), Line.Knots (Earth.FracLo e), Line.Knots (Earth.FracHi e), Earth.GLo e, Earth.GHi e, Earth.Reports e, Report.Kind r, Report.Z r, Report.P r, ())) (rA (Earth.Bottom e, Line.Knots (Earth.PoreLo e), Line.Knots (Earth.PoreHi e), Line.Knots (Earth.FracLo e), Line.Knots (Earth.FracHi e), Earth.GLo e, Earth.GHi e, Earth.Reports e, Report.Kind r, Report.Z r, Report.P r, ())))), Earth.GLo (aR (eA (Earth.Bottom e, Line.Knots (Earth.PoreLo e), Line.Knots (Earth.PoreHi e), Line.Knots (Earth.FracLo e), Line.Knots (Earth.FracHi e), Earth.GLo e, Earth.GHi e, Earth.Reports e, Report.Kind r, Report.Z r, Report.P r, ())) (rA (Earth.Bottom e, Line.Knots (Earth.PoreLo e), Line.Knots (Earth.PoreHi e), Line.Knots (Earth.FracLo e), Line.Knots (Earth.FracHi e), Earth.GLo e, Earth.GHi e, Earth.Reports e, Report.Kind r, Report.Z r, Report.P r, ()))), Earth.GHi (aR (eA (Earth.Bottom e, Line.Knots (Earth.PoreLo e), Line.Knots (Earth.PoreHi e), Line.Knots (Earth.FracLo e), Line.Knots (Earth.FracHi e), Earth.GLo e, Earth.GHi e, Earth.Reports e, Report.Kind r, Report.Z r, Report.P r, ())) (rA (Earth.Bottom e, Line.Knots (Earth.PoreLo e), Line.Knots (Earth.PoreHi e), Line.Knots (Earth.FracLo e), Line.Knots (Earth.FracHi e), Earth.GLo e, Earth.GHi e, Earth.Reports e, Report.Kind r, Report.Z r, Report.P r, ()))), up2 (List.length (Earth.Reports (aR (eA (Earth.Bottom e, Line.Knots (Earth.PoreLo e), Line.Knots (Earth.PoreHi e), Line.Knots (Earth.FracLo e), Line.Knots (Earth.FracHi e), Earth.GLo e, Earth.GHi e, Earth.Reports e, Report.Kind r, Report.Z r, Report.P r, ())) (rA (Earth.Bottom e, Line.Knots (Earth.PoreLo e), Line.Knots (Earth.PoreHi e), Line.Knots (Earth.FracLo e), Line.Knots (Earth.FracHi e), Earth.GLo e, Earth.GHi e, Earth.Reports e, Report.Kind r, Report.Z r, Report.P r, ())))) - Int.toNat (0 : Int)) (Earth.Reports (aR (eA (Earth.Bottom e, Line.Knots (Earth.PoreLo e), Line.Knots (Earth.PoreHi e), Line.Knots (Earth.FracLo e), Line.Knots (Earth.FracHi e), Earth.GLo e, Earth.GHi e, Earth.Reports e, Report.Kind r, Report.Z r, Report.P r, ())) (rA (Earth.Bottom e, Line.Knots (Earth.PoreLo e), Line.Knots (Earth.PoreHi e), Line.Knots (Earth.FracLo e), Line.Knots (Earth.FracHi e), Earth.GLo e, Earth.GHi e, Earth.Reports e, Report.Kind r, Report.Z r, Report.P r, ())))) (Int.toNat (0 : Int)), Earth.Bottom (aR (eA (Earth.Bottom e, Line.Knots (Earth.PoreLo e), Line.Knots (Earth.PoreHi e), Line.Knots (Earth.FracLo e), Line.Knots (Earth.FracHi e), Earth.GLo e, Earth.GHi e, Earth.Reports e, Report.Kind r, Report.Z r, Report.P r, ())) (rA (Earth.Bottom e, Line.Knots (Earth.PoreLo e), Line.Knots (Earth.PoreHi e), Line.Knots (Earth.FracLo e), Line.Knots (Earth.FracHi e), Earth.GLo e, Earth.GHi e, Earth.Reports e, Report.Kind r, Report.Z r, Report.P r, ()))), Line.Knots (Earth.PoreLo (aR (eA (Earth.Bottom e, Line.Knots (Earth.PoreLo e), Line.Knots (Earth.PoreHi e), Line.Knots (Earth.FracLo e), Line.Knots (Earth.FracHi e), Earth.GLo e, Earth.GHi e, Earth.Reports e, Report.Kind r, Report.Z r, Report.P r, ())) (rA (Earth.Bottom e, Line.Knots (Earth.PoreLo e), Line.Knots (Earth.PoreHi e), Line.Knots (Earth.FracLo e), Line.Knots (Earth.FracHi e), Earth.GLo e, Earth.GHi e, Earth.Reports e, Report.Kind r, Report.Z r, Report.P r, ())))), Line.Knots (Earth.PoreHi (aR (eA (Earth.Bottom e, Line.Knots (Earth.PoreLo e), Line.Knots (Earth.PoreHi e), Line.Knots (Earth.FracLo e), Line.Knots (Earth.FracHi e), Earth.GLo e, Earth.GHi e, Earth.Reports e, Report.Kind r, Report.Z r, Report.P r, ())) (rA (Earth.Bottom e, Line.Knots (Earth.PoreLo e), Line.Knots (Earth.PoreHi e), Line.Knots (Earth.FracLo e), Line.Knots (Earth.FracHi e), Earth.GLo e, Earth.GHi e, Earth.Reports e, Report.Kind r, Report.Z r, Report.P r, ())))), Line.Knots (Earth.FracLo (aR (eA (Earth.Bottom e, Line.Knots (Earth.PoreLo e), Line.Knots (Earth.PoreHi e), Line.Knots (Earth.FracLo e), Line.Knots (Earth.FracHi e), Earth.GLo e, Earth.GHi e, Earth.Reports e, Report.Kind r, Report.Z r, Report.P r, ())) (rA (Earth.Bottom e, Line.Knots (Earth.PoreLo e), Line.Knots (Earth.PoreHi e), Line.Knots (Earth.FracLo e), Line.Knots (Earth.FracHi e), Earth.GLo e, Earth.GHi e, Earth.Reports e, Report.Kind r, Report.Z r, Report.P r, ())))), Line.Knots (Earth.FracHi (aR (eA (Earth.Bottom e, Line.Knots (Earth.PoreLo e), Line.Knots (Earth.PoreHi e), Line.Knots (Earth.FracLo e), Line.Knots (Earth.FracHi e), Earth.GLo e, Earth.GHi e, Earth.Reports e, Report.Kind r, Report.Z r, Report.P r, ())) (rA (Earth.Bottom e, Line.Knots (Earth.PoreLo e), Line.Knots (Earth.PoreHi e), Line.Knots (Earth.FracLo e), Line.Knots (Earth.FracHi e), Earth.GLo e, Earth.GHi e, Earth.Reports e, Report.Kind r, Report.Z r, Report.P r, ())))), Earth.GLo (aR (eA (Earth.Bottom e, Line.Knots (Earth.PoreLo e), Line.Knots (Earth.PoreHi e), Line.Knots (Earth.FracLo e), Line.Knots (Earth.FracHi e), Earth.GLo e, Earth.GHi e, Earth.Reports e, Report.Kind r, Report.Z r, Report.P r, ())) (rA (Earth.Bottom e, Line.Knots (Earth.PoreLo e), Line.Knots (Earth.PoreHi e), Line.Knots (Earth.FracLo e), Line.Knots (Earth.FracHi e), Earth.GLo e, Earth.GHi e, Earth.Reports e, Report.Kind r, Report.Z r, Report.P r, ()))), Earth.GHi (aR (eA (Earth.Bottom e, Line.Knots (Earth.PoreLo e), Line.Knots (Earth.PoreHi e), Line.Knots (Earth.FracLo e), Line.Knots (Earth.FracHi e), Earth.GLo e, Earth.GHi e, Earth.Reports e, Report.Kind r, Report.Z r, Report.P r, ())) (rA (Earth.Bottom e, Line.Knots (Earth.PoreLo e), Line.Knots (Earth.PoreHi e), Line.Knots (Earth.FracLo e), Line.Knots (Earth.FracHi e), Earth.GLo e, Earth.GHi e, Earth.Reports e, Report.Kind r, Report.Z r, Report.P r, ()))), up2 (List.length (Earth.Reports (aR (eA (Earth.Bottom e, Line.Knots (Earth.PoreLo e), Line.Knots (Earth.PoreHi e), Line.Knots (Earth.FracLo e), Line.Knots (Earth.FracHi e), Earth.GLo e, Earth.GHi e, Earth.Reports e, Report.Kind r, Report.Z r, Report.P r, ())) (rA (Earth.Bottom e, Line.Knots (Earth.PoreLo e), Line.Knots (Earth.PoreHi e), Line.Knots (Earth.FracLo e), Line.Knots (Earth.FracHi e), Earth.GLo e, Earth.GHi e, Earth.Reports e, Report.Kind r, Report.Z r, Report.P r, ())))) - Int.toNat (0 : Int)) (Earth.Reports (aR (eA (Earth.Bottom e, Line.Knots (Earth.PoreLo e), Line.Knots (Earth.PoreHi e), Line.Knots (Earth.FracLo e), Line.Knots (Earth.FracHi e), Earth.GLo e, Earth.GHi e, Earth.Reports e, Report.Kind r, Report.Z r, Report.P r, ())) (rA (Earth.Bottom e, Line.Knots (Earth.PoreLo e), Line.Knots (Earth.PoreHi e), Line.Knots (Earth.FracLo e), Line.Knots (Earth.FracHi e), Earth.GLo e, Earth.GHi e, Earth.Reports e, Report.Kind r, Report.Z r, Report.P r, ())))) (Int.toNat (0 : Int)), ())) (e2 (Earth.Bottom (aR (eA (Earth.Bottom e, Line.Knots (Earth.PoreLo e), Line.Knots (Earth.PoreHi e), Line.Knots (Earth.FracLo e), Line.Knots (Earth.FracHi e), Earth.GLo e, Earth.GHi e, Earth.Reports e, Report.Kind r, Report.Z r, Report.P r, ())) (rA (Earth.Bottom e, Line.Knots (Earth.PoreLo e), Line.Knots (Earth.PoreHi e), Line.Knots (Earth.FracLo e), Line.Knots (Earth.FracHi e), Earth.GLo e, Earth.GHi e, Earth.Reports e, Report.Kind r, Report.Z r, Report.P r, ()))), Line.Knots (Earth.PoreLo (aR (eA (Earth.Bottom e, Line.Knots (Earth.PoreLo e), Line.Knots (Earth.PoreHi e), Line.Knots (Earth.FracLo e), Line.Knots (Earth.FracHi e), Earth.GLo e, Earth.GHi e, Earth.Reports e, Report.Kind r, Report.Z r, Report.P r, ())) (rA (Earth.Bottom e, Line.Knots (Earth.PoreLo e), Line.Knots (Earth.PoreHi e), Line.Knots (Earth.FracLo e), Line.Knots (Earth.FracHi e), Earth.GLo e, Earth.GHi e, Earth.Reports e, Report.Kind r, Report.Z r, Report.P r, ())))), Line.Knots (Earth.PoreHi (aR (eA (Earth.Bottom e, Line.Knots (Earth.PoreLo e), Line.Knots (Earth.PoreHi e), Line.Knots (Earth.FracLo e), Line.Knots (Earth.FracHi e), Earth.GLo e, Earth.GHi e, Earth.Reports e, Report.Kind r, Report.Z r, Report.P r, ())) (rA (Earth.Bottom e, Line.Knots (Earth.PoreLo e), Line.Knots (Earth.PoreHi e), Line.Knots (Earth.FracLo e), Line.Knots (Earth.FracHi e), Earth.GLo e, Earth.GHi e, Earth.Reports e, Report.Kind r, Report.Z r, Report.P r, ())))), Line.Knots (Earth.FracLo (aR (eA (Earth.Bottom e, Line.Knots (Earth.PoreLo e), Line.Knots (Earth.PoreHi e), Line.Knots (Earth.FracLo e), Line.Knots (Earth.FracHi e), Earth.GLo e, Earth.GHi e, Earth.Reports e, Report.Kind r, Report.Z r, Report.P r, ())) (rA (Earth.Bottom e, Line.Knots (Earth.PoreLo e), Line.Knots (Earth.PoreHi e), Line.Knots (Earth.FracLo e), Line.Knots (Earth.FracHi e), Earth.GLo e, Earth.GHi e, Earth.Reports e, Report.Kind r, Report.Z r, Report.P r, ())))), Line.Knots (Earth.FracHi (aR (eA (Earth.Bottom e, Line.Knots (Earth.PoreLo e), Line.Knots (Earth.PoreHi e), Line.Knots (Earth.FracLo e), Line.Knots (Earth.FracHi e), Earth.GLo e, Earth.GHi e, Earth.Reports e, Report.Kind r, Report.Z r, Report.P r, ())) (rA (Earth.Bottom e, Line.Knots (Earth.PoreLo e), Line.Knots (Earth.PoreHi e), Line.Knots (Earth.FracLo e), Line.Knots (Earth.FracHi e), Earth.GLo e, Earth.GHi e, Earth.Reports e, Report.Kind r, Report.Z r, Report.P r, ())))), Earth.GLo (aR (eA (Earth.Bottom e, Line.Knots (Earth.PoreLo e), Line.Knots (Earth.PoreHi e), Line.Knots (Earth.FracLo e), Line.Knots (Earth.FracHi e), Earth.GLo e, Earth.GHi e, Earth.Reports e, Report.Kind r, Report.Z r, Report.P r, ())) (rA (Earth.Bottom e, Line.Knots (Earth.PoreLo e), Line.Knots (Earth.PoreHi e), Line.Knots (Earth.FracLo e), Line.Knots (Earth.FracHi e), Earth.GLo e, Earth.GHi e, Earth.Reports e, Report.Kind r, Report.Z r, Report.P r, ()))), Earth.GHi (aR (eA (Earth.Bottom e, Line.Knots (Earth.PoreLo e), Line.Knots (Earth.PoreHi e), Line.Knots (Earth.FracLo e), Line.Knots (Earth.FracHi e), Earth.GLo e, Earth.GHi e, Earth.Reports e, Report.Kind r, Report.Z r, Report.P r, ())) (rA (Earth.Bottom e, Line.Knots (Earth.PoreLo e), Line.Knots (Earth.PoreHi e), Line.Knots (Earth.FracLo e), Line.Knots (Earth.FracHi e), Earth.GLo e, Earth.GHi e, Earth.Reports e, Report.Kind r, Report.Z r, Report.P r, ()))), up2 (List.length (Earth.Reports (aR (eA (Earth.Bottom e, Line.Knots (Earth.PoreLo e), Line.Knots (Earth.PoreHi e), Line.Knots (Earth.FracLo e), Line.Knots (Earth.FracHi e), Earth.GLo e, Earth.GHi e, Earth.Reports e, Report.Kind r, Report.Z r, Report.P r, ())) (rA (Earth.Bottom e, Line.Knots (Earth.PoreLo e), Line.Knots (Earth.PoreHi e), Line.Knots (Earth.FracLo e), Line.Knots (Earth.FracHi e), Earth.GLo e, Earth.GHi e, Earth.Reports e, Report.Kind r, Report.Z r, Report.P r, ())))) - Int.toNat (0 : Int)) (Earth.Reports (aR (eA (Earth.Bottom e, Line.Knots (Earth.PoreLo e), Line.Knots (Earth.PoreHi e), Line.Knots (Earth.FracLo e), Line.Knots (Earth.FracHi e), Earth.GLo e, Earth.GHi e, Earth.Reports e, Report.Kind r, Report.Z r, Report.P r, ())) (rA (Earth.Bottom e, Line.Knots (Earth.PoreLo e), Line.Knots (Earth.PoreHi e), Line.Knots (Earth.FracLo e), Line.Knots (Earth.FracHi e), Earth.GLo e, Earth.GHi e, Earth.Reports e, Report.Kind r, Report.Z r, Report.P r, ())))) (Int.toNat (0 : Int)), Earth.Bottom (aR (eA (Earth.Bottom e, Line.Knots (Earth.PoreLo e), Line.Knots (Earth.PoreHi e), Line.Knots (Earth.FracLo e), Line.Knots (Earth.FracHi e), Earth.GLo e, Earth.GHi e, Earth.Reports e, Report.Kind r, Report.Z r, Report.P r, ())) (rA (Earth.Bottom e, Line.Knots (Earth.PoreLo e), Line.Knots (Earth.PoreHi e), Line.Knots (Earth.FracLo e), Line.Knots (Earth.FracHi e), Earth.GLo e, Earth.GHi e, Earth.Reports e, Report.Kind r, Report.Z r, Report.P r, ()))), Line.Knots (Earth.PoreLo (aR (eA (Earth.Bottom e, Line.Knots (Earth.PoreLo e), Line.Knots (Earth.PoreHi e), Line.Knots (Earth.FracLo e), Line.Knots (Earth.FracHi e), Earth.GLo e, Earth.GHi e, Earth.Reports e, Report.Kind r, Report.Z r, Report.P r, ())) (rA (Earth.Bottom e, Line.Knots (Earth.PoreLo e), Line.Knots (Earth.PoreHi e), Line.Knots (Earth.FracLo e), Line.Knots (Earth.FracHi e), Earth.GLo e, Earth.GHi e, Earth.Reports e, Report.Kind r, Report.Z r, Report.P r, ())))), Line.Knots (Earth.PoreHi (aR (eA (Earth.Bottom e, Line.Knots (Earth.PoreLo e), Line.Knots (Earth.PoreHi e), Line.Knots (Earth.FracLo e), Line.Knots (Earth.FracHi e), Earth.GLo e, Earth.GHi e, Earth.Reports e, Report.Kind r, Report.Z r, Report.P r, ())) (rA (Earth.Bottom e, Line.Knots (Earth.PoreLo e), Line.Knots (Earth.PoreHi e), Line.Knots (Earth.FracLo e), Line.Knots (Earth.FracHi e), Earth.GLo e, Earth.GHi e, Earth.Reports e, Report.Kind r, Report.Z r, Report.P r, ())))), Line.Knots (Earth.FracLo (aR (eA (Earth.Bottom e, Line.Knots (Earth.PoreLo e), Line.Knots (Earth.PoreHi e), Line.Knots (Earth.FracLo e), Line.Knots (Earth.FracHi e), Earth.GLo e, Earth.GHi e, Earth.Reports e, Report.Kind r, Report.Z r, Report.P r, ())) (rA (Earth.Bottom e, Line.Knots (Earth.PoreLo e), Line.Knots (Earth.PoreHi e), Line.Knots (Earth.FracLo e), Line.Knots (Earth.FracHi e), Earth.GLo e, Earth.GHi e, Earth.Reports e, Report.Kind r, Report.Z r, Report.P r, ())))), Line.Knots (Earth.FracHi (aR (eA (Earth.Bottom e, Line.Knots (Earth.PoreLo e), Line.Knots (Earth.PoreHi e), Line.Knots (Earth.FracLo e), Line.Knots (Earth.FracHi e), Earth.GLo e, Earth.GHi e, Earth.Reports e, Report.Kind r, Report.Z r, Report.P r, ())) (rA (Earth.Bottom e, Line.Knots (Earth.PoreLo e), Line.Knots (Earth.PoreHi e), Line.Knots (Earth.FracLo e), Line.Knots (Earth.FracHi e), Earth.GLo e, Earth.GHi e, Earth.Reports e, Report.Kind r, Report.Z r, Report.P r, ())))), Earth.GLo (aR (eA (Earth.Bottom e, Line.Knots (Earth.PoreLo e), Line.Knots (Earth.PoreHi e), Line.Knots (Earth.FracLo e), Line.Knots (Earth.FracHi e), Earth.GLo e, Earth.GHi e, Earth.Reports e, Report.Kind r, Report.Z r, Report.P r, ())) (rA (Earth.Bottom e, Line.Knots (Earth.PoreLo e), Line.Knots (Earth.PoreHi e), Line.Knots (Earth.FracLo e), Line.Knots (Earth.FracHi e), Earth.GLo e, Earth.GHi e, Earth.Reports e, Report.Kind r, Report.Z r, Report.P r, ()))), Earth.GHi (aR (eA (Earth.Bottom e, Line.Knots (Earth.PoreLo e), Line.Knots (Earth.PoreHi e), Line.Knots (Earth.FracLo e), Line.Knots (Earth.FracHi e), Earth.GLo e, Earth.GHi e, Earth.Reports e, Report.Kind r, Report.Z r, Report.P r, ())) (rA (Earth.Bottom e, Line.Knots (Earth.PoreLo e), Line.Knots (Earth.PoreHi e), Line.Knots (Earth.FracLo e), Line.Knots (Earth.FracHi e), Earth.GLo e, Earth.GHi e, Earth.Reports e, Report.Kind r, Report.Z r, Report.P r, ()))), up2 (List.length (Earth.Reports (aR (eA (Earth.Bottom e, Line.Knots (Earth.PoreLo e), Line.Knots (Earth.PoreHi e), Line.Knots (Earth.FracLo e), Line.Knots (Earth.FracHi e), Earth.GLo e, Earth.GHi e, Earth.Reports e, Report.Kind r, Report.Z r, Report.P r, ())) (rA (Earth.Bottom e, Line.Knots (Earth.PoreLo e), Line.Knots (Earth.PoreHi e), Line.Knots (Earth.FracLo e), Line.Knots (Earth.FracHi e), Earth.GLo e, Earth.GHi e, Earth.Reports e, Report.Kind r, Report.Z r, Report.P r, ())))) - Int.toNat (0 : Int)) (Earth.Reports (aR (eA (Earth.Bottom e, Line.Knots (Earth.PoreLo e), Line.Knots (Earth.PoreHi e), Line.Knots (Earth.FracLo e), Line.Knots (Earth.FracHi e), Earth.GLo e, Earth.GHi e, Earth.Reports e, Report.Kind r, Report.Z r, Report.P r, ())) (rA (Earth.Bottom e, Line.Knots (Earth.PoreLo e), Line.Knots (Earth.PoreHi e), Line.Knots (Earth.FracLo e), Line.Knots (Earth.FracHi e), Earth.GLo e, Earth.GHi e, Earth.Reports e, Report.Kind r, Report.Z r, Report.P r, ())))) (Int.toNat (0 : Int)), ())))
         (.req (smallE (e1 (Earth.Bottom e, Line.Knots (Earth.PoreLo e), Line.Knots (Earth.PoreHi e), Line.Knots (Earth.FracLo e), Line.Knots (Earth.FracHi e), Earth.GLo e, Earth.GHi e, Earth.Reports e, Earth.Bottom e, Line.Knots (Earth.PoreLo e), Line.Knots (Earth.PoreHi e), Line.Knots (Earth.FracLo e), Line.Knots (Earth.FracHi e), Earth.GLo e, Earth.GHi e, Earth.Reports e, ())) ∧ smallE (e2 (Earth.Bottom e, Line.Knots (Earth.PoreLo e), Line.Knots (Earth.PoreHi e), Line.Knots (Earth.FracLo e), Line.Knots (Earth.FracHi e), Earth.GLo e, Earth.GHi e, Earth.Reports e, Earth.Bottom e, Line.Knots (Earth.PoreLo e), Line.Knots (Earth.PoreHi e), Line.Knots (Earth.FracLo e), Line.Knots (Earth.FracHi e), Earth.GLo e, Earth.GHi e, Earth.Reports e, ())))
         (.br (sameE (e1 (Earth.Bottom e, Line.Knots (Earth.PoreLo e), Line.Knots (Earth.PoreHi e), Line.Knots (Earth.FracLo e), Line.Knots (Earth.FracHi e), Earth.GLo e, Earth.GHi e, Earth.Reports e, Earth.Bottom e, Line.Knots (Earth.PoreLo e), Line.Knots (Earth.PoreHi e), Line.Knots (Earth.FracLo e), Line.Knots (Earth.FracHi e), Earth.GLo e, Earth.GHi e, Earth.Reports e, ())) (e2 (Earth.Bottom e, Line.Knots (Earth.PoreLo e), Line.Knots (Earth.PoreHi e), Line.Knots (Earth.FracLo e), Line.Knots (Earth.FracHi e), Earth.GLo e, Earth.GHi e, Earth.Reports e, Earth.Bottom e, Line.Knots (Earth.PoreLo e), Line.Knots (Earth.PoreHi e), Line.Knots (Earth.FracLo e), Line.Knots (Earth.FracHi e), Earth.GLo e, Earth.GHi e, Earth.Reports e, ())))
          (.leaf (.bool (true)))
          (.leaf (.bool (false)))))
         (.leaf (.bool (false)))))))))))))))
        (.leaf (.bool (false))))))))))))))))))))))))))))))
      (.leaf (.bool (true))))
     (.leaf (.bool (true))))
    (.leaf (.bool (true))))
   (.leaf (.bool (true)))) := by kernel_rfl
theorem tt_y {a : Bool} {t f : Tree (AV T)} {Q : AV T → Prop} (h : a = true) (k : t.holds Q) : (Tree.br a t f).holds Q := ⟨fun _ => k, fun c => (by rw [h] at c; cases c)⟩
theorem eq_y {a b : Int} {t f : Tree (AV T)} {Q : AV T → Prop} (h : a = b) (k : t.holds Q) : (Tree.br (a == b) t f).holds Q := wayEq (fun _ => k) fun c => absurd h c
theorem aR_b {e : Earth} {r : Report} (h : smallE e) (h5 : e.Reports.length ≤ 26) : smallE (aR e r) ∧ (aR e r).Reports.length ≤ 27 := by
  unfold aR
  obtain ⟨⟨h1, h2, h3, h4⟩, _⟩ := h
  split
  · have : (ap e r).Reports.length = e.Reports.length + 1 := by
      show (e.Reports ++ [r]).length = _
      rw [List.length_append]; rfl
    exact ⟨⟨⟨h1, h2, h3, h4⟩, by omega⟩, by omega⟩
  · exact ⟨⟨⟨Nat.zero_le _, Nat.zero_le _, Nat.zero_le _, Nat.zero_le _⟩, Nat.zero_le _⟩, Nat.zero_le _⟩
theorem smallU {a : Earth} (h : smallE a) (n : Nat) (i : Nat) : smallE ⟨a.Bottom, a.PoreLo, a.PoreHi, a.FracLo, a.FracHi, a.GLo, a.GHi, up2 n a.Reports i⟩ := by
  refine ⟨h.1, ?_⟩
  show (up2 n a.Reports i).length ≤ 900
  rw [up2_len]
  exact h.2
theorem earthAdds_proved : Rows.EarthAddsSaid := earthAdds_said fun e r _ _ => fact_run ctLA_ok llAE (ts := [4]) rfl (by
  rw [tvAE]
  refine way (fun h1 => way (fun h2 => way (fun h3 => way (fun h4 => wayB (fun _ => rfl) fun k => ?_) fun _ => rfl) fun _ => rfl) fun _ => rfl) fun _ => rfl
  have h5 : (e.Reports.length : Int) ≤ 26 := by simpa using k
  have se : smallE e := ⟨⟨by omega, by omega, by omega, by omega⟩, by omega⟩
  obtain ⟨sa, sb⟩ := aR_b (e := e) (r := r) se (by omega)
  have sc : (aR e r).Reports.length ≤ 1000 := by omega
  have su := smallU sa ((aR e r).Reports.length - Int.toNat 0) (Int.toNat 0)
  have lp : (0 : Int) ≤ 0 ∧ (0 : Int) ≤ ((aR e r).Reports.length : Int) ∧ (aR e r).Reports.length ≤ 1000 := ⟨by decide, Int.natCast_nonneg _, sc⟩
  exact ⟨se, se, se, rfl, rfl, rfl, rfl, rfl, rfl, rfl, rfl, rfl, rfl, lp, rfl, rfl, rfl, rfl, rfl, rfl, rfl, rfl, rfl, rfl, lp, eq_y rfl ⟨rfl, rfl, rfl, rfl, rfl, rfl, rfl, rfl, rfl, rfl, ⟨su, su⟩, tt_y (sameE_self _) ⟨⟨se, se⟩, tt_y (sameE_self _) rfl⟩⟩⟩)
end Go.Proofs.Ytdlholmphenhhaa.W
end
