/- The points of a bound. No condition. -/
import Derived.Test.YtdlholmphenhhaaV6
set_option linter.unusedVariables false
set_option maxRecDepth 100000
noncomputable section
namespace Go.Proofs.Ytdlholmphenhhaa.W
open Go Go.Cx Go.RowKit
noncomputable def ptK (b : Int) (l : List Knot) : List Knot := l.filter fun k => decide (k.At ≤ b)
noncomputable def ptR (kind : Int) (l : List Report) : List Knot := (l.filter fun r => decide (r.Kind = kind)).map fun r => ⟨r.Z, r.P⟩
theorem ptK_cons {b : Int} {k : Knot} {l : List Knot} : ptK b (k :: l) = if k.At ≤ b then k :: ptK b l else ptK b l := by
  unfold ptK
  by_cases h : k.At ≤ b
  · rw [List.filter_cons_of_pos (by simpa using h), if_pos h]
  · rw [List.filter_cons_of_neg (by simpa using h), if_neg h]
theorem ptR_cons {kind : Int} {r : Report} {l : List Report} : ptR kind (r :: l) = if r.Kind = kind then ⟨r.Z, r.P⟩ :: ptR kind l else ptR kind l := by
  unfold ptR
  by_cases h : r.Kind = kind
  · rw [List.filter_cons_of_pos (by simpa using h), if_pos h]; rfl
  · rw [List.filter_cons_of_neg (by simpa using h), if_neg h]
theorem ptK_len {b : Int} {l : List Knot} : (ptK b l).length ≤ l.length := List.length_filter_le ..
theorem ptR_len {k : Int} {l : List Report} : (ptR k l).length ≤ l.length := by unfold ptR; rw [List.length_map]; exact List.length_filter_le ..
@[reducible] noncomputable def eD (b : Int) (p q r s : List Knot) (x y : Int) (l : List Report) : List (V T) := [.n b, .l 78 p, .l 78 q, .l 78 r, .l 78 s, .n x, .n y, .l 55 l]
noncomputable def o127a (xs : List Knot) (kind : Int) (l : List Knot) (n i b : Int) (p q r s : List Knot) (x y : Int) (rs : List Report) : Tree (Ex × List (V T)) :=
  .req ((0 ≤ i ∧ n = l.length ∧ l.length ≤ 1000) ∧ xs.length + l.length ≤ 1000 + i.toNat) (.leaf (.exit 0, .l 78 (xs ++ ptK b (l.drop i.toNat)) :: .n kind :: eD b p q r s x y rs))
noncomputable def c127a : LoopC T := ⟨[.l 78, .n, .l 78, .n, .n, .n, .l 78, .l 78, .l 78, .l 78, .n, .n, .l 55], ⟨50, [(2, .one (.i .i64)), (3, .one (.o 0 0)), (7, .one (.g 1 78)), (13, .one (.s 78)), (14, .one (.i .i64)), (15, .one (.i .i64))], [.c cellsE, .l 78]⟩,
  fun _ => ⟨50, [(2, .one (.i .i64)), (3, .one (.o 0 0)), (7, .one (.g 1 78))], [.c cellsE, .l 78]⟩, 10,
  fun d => o127a d.1 d.2.1 d.2.2.1 d.2.2.2.1 d.2.2.2.2.1 d.2.2.2.2.2.1 d.2.2.2.2.2.2.1 d.2.2.2.2.2.2.2.1 d.2.2.2.2.2.2.2.2.1 d.2.2.2.2.2.2.2.2.2.1 d.2.2.2.2.2.2.2.2.2.2.1 d.2.2.2.2.2.2.2.2.2.2.2.1 d.2.2.2.2.2.2.2.2.2.2.2.2.1⟩
theorem b127a (xs : List Knot) (kind : Int) (l : List Knot) (n i b : Int) (p q r s : List Knot) (x y : Int) (rs : List Report) : bodyD Try.prog E c127a 0 (bodyX Try.prog E ctB noLoops 1000 5 L0 (lpOf Try.prog 127 0)) (xs, kind, l, n, i, b, p, q, r, s, x, y, rs, ()) =
  (.br (decide (i < n))
   (.req ((decide ((0 : Int) ≤ i) && decide (i < (↑(List.length l) : Int))) = true)
   (.br (decide (Knot.At (kn l i) ≤ b))
    (.req (List.length xs = List.length xs)
    (.req (List.length xs + List.length [Knot.mk (Knot.At (kn l i)) (Knot.V (kn l i))] ≤ (1073741824 : Nat))
    (.req (List.length (xs ++ [Knot.mk (Knot.At (kn l i)) (Knot.V (kn l i))]) = List.length (xs ++ [Knot.mk (Knot.At (kn l i)) (Knot.V (kn l i))]))
    (.leaf (.inl (xs ++ [Knot.mk (Knot.At (kn l i)) (Knot.V (kn l i))], (kind, (l, (n, (IntKind.wrap IntKind.i64 (i + (1 : Int)), (b, (p, (q, (r, (s, (x, (y, (rs, ()))))))))))))))))))
    (.req (List.length xs = List.length xs)
    (.leaf (.inl (xs, (kind, (l, (n, (IntKind.wrap IntKind.i64 (i + (1 : Int)), (b, (p, (q, (r, (s, (x, (y, (rs, ()))))))))))))))))))
   (.req (List.length xs = List.length xs)
   (.leaf (.inr (.exit (0 : Nat), [.l (78 : Nat) (xs), .n (kind), .n (b), .l (78 : Nat) (p), .l (78 : Nat) (q), .l (78 : Nat) (r), .l (78 : Nat) (s), .n (x), .n (y), .l (55 : Nat) (rs)]))))) := by kernel_rfl
noncomputable def c101a : LoopC T := ⟨[.l 78, .n, .n, .n, .l 78, .l 78, .l 78, .l 78, .n, .n, .l 55, .l 78], ⟨66, [(2, .one (.i .i64)), (3, .one (.o 0 0)), (4, .one (.o 2 0)), (7, .one (.g 1 78)), (8, .one (.i .i64))], [.c cellsE, .l 78, .c [.s 78]]⟩,
  fun _ => ⟨66, [(2, .one (.i .i64)), (3, .one (.o 0 0)), (7, .one (.g 1 78))], [.c cellsE, .l 78]⟩, 10,
  fun d => o127a d.1 d.2.1 d.2.2.2.2.2.2.2.2.2.2.2.1 (d.2.2.2.2.2.2.2.2.2.2.2.1 : List Knot).length d.2.2.1 d.2.2.2.1 d.2.2.2.2.1 d.2.2.2.2.2.1 d.2.2.2.2.2.2.1 d.2.2.2.2.2.2.2.1 d.2.2.2.2.2.2.2.2.1 d.2.2.2.2.2.2.2.2.2.1 d.2.2.2.2.2.2.2.2.2.2.1⟩
theorem b101a (xs : List Knot) (kind i b : Int) (p q r s : List Knot) (x y : Int) (rs : List Report) (l : List Knot) : bodyD Try.prog E c101a 0 (bodyX Try.prog E ctB noLoops 1000 5 L0 (lpOf Try.prog 101 0)) (xs, kind, i, b, p, q, r, s, x, y, rs, l, ()) =
  (.br (decide (i < (↑(List.length l) : Int)))
   (.req ((decide ((0 : Int) ≤ i) && decide (i < (↑(List.length l) : Int))) = true)
   (.br (decide (Knot.At (kn l i) ≤ b))
    (.req ((decide ((0 : Int) ≤ i) && decide (i < (↑(List.length l) : Int))) = true)
    (.req (List.length xs = List.length xs)
    (.req (List.length xs + List.length [Knot.mk (Knot.At (kn l i)) (Knot.V (kn l i))] ≤ (1073741824 : Nat))
    (.req (List.length (xs ++ [Knot.mk (Knot.At (kn l i)) (Knot.V (kn l i))]) = List.length (xs ++ [Knot.mk (Knot.At (kn l i)) (Knot.V (kn l i))]))
    (.leaf (.inl (xs ++ [Knot.mk (Knot.At (kn l i)) (Knot.V (kn l i))], (kind, (IntKind.wrap IntKind.i64 (i + (1 : Int)), (b, (p, (q, (r, (s, (x, (y, (rs, (l, ()))))))))))))))))))
    (.req (List.length xs = List.length xs)
    (.leaf (.inl (xs, (kind, (IntKind.wrap IntKind.i64 (i + (1 : Int)), (b, (p, (q, (r, (s, (x, (y, (rs, (l, ())))))))))))))))))
   (.req (List.length xs = List.length xs)
   (.leaf (.inr (.exit (0 : Nat), [.l (78 : Nat) (xs), .n (kind), .n (b), .l (78 : Nat) (p), .l (78 : Nat) (q), .l (78 : Nat) (r), .l (78 : Nat) (s), .n (x), .n (y), .l (55 : Nat) (rs)]))))) := by kernel_rfl
theorem h127a' (xs : List Knot) (kind : Int) (l : List Knot) (i : Nat) (b : Int) (p q r s : List Knot) (x y : Int) (rs : List Report) (K : Ex × List (V T) → Prop) (hn : l.length ≤ 1000) (hl : xs.length + l.length ≤ 1000 + i) (hK : K (.exit 0, .l 78 (xs ++ ptK b (l.drop i)) :: .n kind :: eD b p q r s x y rs)) :
    (bodyD Try.prog E c127a 0 (bodyX Try.prog E ctB noLoops 1000 5 L0 (lpOf Try.prog 127 0)) (xs, kind, l, (l.length : Int), (i : Int), b, p, q, r, s, x, y, rs, ())).holds fun y => match y with
    | .inl d => ((d.2.2.1.length : Int) - d.2.2.2.2.1).toNat < ((l.length : Int) - (i : Int)).toNat ∧ (c127a.out d).holds K
    | .inr y => K y := by
  rw [b127a]
  refine way (fun c => ?_) fun c => ?_
  · have e2 : IntKind.wrap IntKind.i64 ((i : Int) + 1) = ((i + 1 : Nat) : Int) := i64_in' (by omega) (by omega)
    rw [e2]
    rw [drop_kn (by omega), ptK_cons] at hK
    have hlt : ((l.length : Int) - ((i + 1 : Nat) : Int)).toNat < ((l.length : Int) - (i : Int)).toNat := by omega
    have h3 : (0 : Int) ≤ ((i + 1 : Nat) : Int) := by omega
    refine wayC (by omega) c fun _ _ => way (fun c2 => ⟨rfl, by simp only [List.length_cons, List.length_nil]; omega, rfl, hlt, ⟨⟨h3, rfl, hn⟩, ?_⟩, ?_⟩) fun c2 => ⟨rfl, hlt, ⟨⟨h3, rfl, hn⟩, ?_⟩, ?_⟩
    · show (xs ++ [kn l i]).length + l.length ≤ 1000 + (i + 1)
      simp only [List.length_append, List.length_cons, List.length_nil]
      omega
    · rw [if_pos c2] at hK
      show K (.exit 0, .l 78 ((xs ++ [kn l i]) ++ ptK b (l.drop (i + 1))) :: .n kind :: eD b p q r s x y rs)
      rw [List.append_assoc]
      exact hK
    · show xs.length + l.length ≤ 1000 + (i + 1)
      omega
    · rw [if_neg c2] at hK
      exact hK
  · rw [List.drop_eq_nil_of_le (by omega), show ptK b [] = [] from rfl, List.append_nil] at hK
    exact ⟨rfl, hK⟩
theorem h127a : LoopH Try.prog E c127a 0 (bodyX Try.prog E ctB noLoops 1000 5 L0 (lpOf Try.prog 127 0)) :=
  ⟨fun d => ((d.2.2.1.length : Int) - d.2.2.2.2.1).toNat, fun d K hK => by
    obtain ⟨xs, kind, l, n, i, b, p, q, r, s, x, y, rs, ⟨⟩⟩ := d
    obtain ⟨⟨⟨k1, k2, k3⟩, k4⟩, k5⟩ := hK
    obtain ⟨m, hm⟩ := Int.eq_ofNat_of_zero_le k1
    obtain rfl : i = (m : Int) := hm
    obtain rfl : n = ((l : List Knot).length : Int) := k2
    refine Tree.holds_mono (fun y hy => ?_) (h127a' xs kind l m b p q r s x y rs K k3 k4 k5)
    cases y with
    | inl d' => exact hy
    | inr y => exact hy⟩
theorem h101a' (xs : List Knot) (kind : Int) (l : List Knot) (i : Nat) (b : Int) (p q r s : List Knot) (x y : Int) (rs : List Report) (K : Ex × List (V T) → Prop) (hn : l.length ≤ 1000) (hl : xs.length + l.length ≤ 1000 + i) (hK : K (.exit 0, .l 78 (xs ++ ptK b (l.drop i)) :: .n kind :: eD b p q r s x y rs)) :
    (bodyD Try.prog E c101a 0 (bodyX Try.prog E ctB noLoops 1000 5 L0 (lpOf Try.prog 101 0)) (xs, kind, (i : Int), b, p, q, r, s, x, y, rs, l, ())).holds fun y => match y with
    | .inl d => ((d.2.2.2.2.2.2.2.2.2.2.2.1.length : Int) - d.2.2.1).toNat < ((l.length : Int) - (i : Int)).toNat ∧ (c101a.out d).holds K
    | .inr y => K y := by
  rw [b101a]
  refine way (fun c => ?_) fun c => ?_
  · have e2 : IntKind.wrap IntKind.i64 ((i : Int) + 1) = ((i + 1 : Nat) : Int) := i64_in' (by omega) (by omega)
    rw [e2]
    rw [drop_kn (by omega), ptK_cons] at hK
    have hlt : ((l.length : Int) - ((i + 1 : Nat) : Int)).toNat < ((l.length : Int) - (i : Int)).toNat := by omega
    have h3 : (0 : Int) ≤ ((i + 1 : Nat) : Int) := by omega
    refine wayC (by omega) c fun _ _ => way (fun c2 => wayC (by omega) c fun _ _ => ⟨rfl, by simp only [List.length_cons, List.length_nil]; omega, rfl, hlt, ⟨⟨h3, rfl, hn⟩, ?_⟩, ?_⟩) fun c2 => ⟨rfl, hlt, ⟨⟨h3, rfl, hn⟩, ?_⟩, ?_⟩
    · show (xs ++ [kn l i]).length + l.length ≤ 1000 + (i + 1)
      simp only [List.length_append, List.length_cons, List.length_nil]
      omega
    · rw [if_pos c2] at hK
      show K (.exit 0, .l 78 ((xs ++ [kn l i]) ++ ptK b (l.drop (i + 1))) :: .n kind :: eD b p q r s x y rs)
      rw [List.append_assoc]
      exact hK
    · show xs.length + l.length ≤ 1000 + (i + 1)
      omega
    · rw [if_neg c2] at hK
      exact hK
  · rw [List.drop_eq_nil_of_le (by omega), show ptK b [] = [] from rfl, List.append_nil] at hK
    exact ⟨rfl, hK⟩
theorem h101a : LoopH Try.prog E c101a 0 (bodyX Try.prog E ctB noLoops 1000 5 L0 (lpOf Try.prog 101 0)) :=
  ⟨fun d => ((d.2.2.2.2.2.2.2.2.2.2.2.1.length : Int) - d.2.2.1).toNat, fun d K hK => by
    obtain ⟨xs, kind, i, b, p, q, r, s, x, y, rs, l, ⟨⟩⟩ := d
    obtain ⟨⟨⟨k1, k2, k3⟩, k4⟩, k5⟩ := hK
    obtain ⟨m, hm⟩ := Int.eq_ofNat_of_zero_le k1
    obtain rfl : i = (m : Int) := hm
    refine Tree.holds_mono (fun y hy => ?_) (h101a' xs kind l m b p q r s x y rs K k3 k4 k5)
    cases y with
    | inl d' => exact hy
    | inr y => exact hy⟩
noncomputable def o127b (xs : List Knot) (kind : Int) (l : List Report) (n i : Int) : Tree (Ex × List (V T)) :=
  .req ((0 ≤ i ∧ n = l.length ∧ l.length ≤ 1000) ∧ xs.length + l.length ≤ 3000 + i.toNat) (.leaf (.exit 2, [.l 78 (xs ++ ptR kind (l.drop i.toNat))]))
noncomputable def c127b : LoopC T := ⟨[.l 78, .n, .l 55, .n, .n], ⟨50, [(2, .one (.i .i64)), (7, .one (.g 0 78)), (30, .one (.s 55)), (31, .one (.i .i64)), (32, .one (.i .i64))], [.l 78]⟩,
  fun _ => ⟨50, [(7, .one (.g 0 78))], [.l 78]⟩, 10, fun d => o127b d.1 d.2.1 d.2.2.1 d.2.2.2.1 d.2.2.2.2.1⟩
theorem b127b (xs : List Knot) (kind : Int) (l : List Report) (n i : Int) : bodyD Try.prog E c127b 0 (bodyX Try.prog E ctB noLoops 1000 5 L0 (lpOf Try.prog 127 1)) (xs, kind, l, n, i, ()) =
  (.br (decide (i < n))
   (.req ((decide ((0 : Int) ≤ i) && decide (i < (↑(List.length l) : Int))) = true)
   (.br (Report.Kind (ri l i) == kind)
    (.req (List.length xs = List.length xs)
    (.req (List.length xs + List.length [Knot.mk (Report.Z (ri l i)) (Report.P (ri l i))] ≤ (1073741824 : Nat))
    (.req (List.length (xs ++ [Knot.mk (Report.Z (ri l i)) (Report.P (ri l i))]) = List.length (xs ++ [Knot.mk (Report.Z (ri l i)) (Report.P (ri l i))]))
    (.leaf (.inl (xs ++ [Knot.mk (Report.Z (ri l i)) (Report.P (ri l i))], (kind, (l, (n, (IntKind.wrap IntKind.i64 (i + (1 : Int)), ()))))))))))
    (.req (List.length xs = List.length xs)
    (.leaf (.inl (xs, (kind, (l, (n, (IntKind.wrap IntKind.i64 (i + (1 : Int)), ()))))))))))
   (.req (List.length xs = List.length xs)
   (.leaf (.inr (.exit (2 : Nat), [.l (78 : Nat) (xs)]))))) := by kernel_rfl
noncomputable def c101b : LoopC T := ⟨[.l 78, .n, .n, .n, .l 78, .l 78, .l 78, .l 78, .n, .n, .l 55], ⟨66, [(2, .one (.i .i64)), (3, .one (.o 0 0)), (7, .one (.g 1 78)), (9, .one (.i .i64))], [.c cellsE, .l 78]⟩,
  fun _ => ⟨66, [(7, .one (.g 0 78))], [.l 78]⟩, 10, fun d => o127b d.1 d.2.1 d.2.2.2.2.2.2.2.2.2.2.1 (d.2.2.2.2.2.2.2.2.2.2.1 : List Report).length d.2.2.1⟩
theorem b101b (xs : List Knot) (kind i b : Int) (p q r s : List Knot) (x y : Int) (l : List Report) : bodyD Try.prog E c101b 0 (bodyX Try.prog E ctB noLoops 1000 5 L0 (lpOf Try.prog 101 1)) (xs, kind, i, b, p, q, r, s, x, y, l, ()) =
  (.br (decide (i < (↑(List.length l) : Int)))
   (.req ((decide ((0 : Int) ≤ i) && decide (i < (↑(List.length l) : Int))) = true)
   (.br (Report.Kind (ri l i) == kind)
    (.req ((decide ((0 : Int) ≤ i) && decide (i < (↑(List.length l) : Int))) = true)
    (.req ((decide ((0 : Int) ≤ i) && decide (i < (↑(List.length l) : Int))) = true)
    (.req (List.length xs = List.length xs)
    (.req (List.length xs + List.length [Knot.mk (Report.Z (ri l i)) (Report.P (ri l i))] ≤ (1073741824 : Nat))
    (.req (List.length (xs ++ [Knot.mk (Report.Z (ri l i)) (Report.P (ri l i))]) = List.length (xs ++ [Knot.mk (Report.Z (ri l i)) (Report.P (ri l i))]))
    (.leaf (.inl (xs ++ [Knot.mk (Report.Z (ri l i)) (Report.P (ri l i))], (kind, (IntKind.wrap IntKind.i64 (i + (1 : Int)), (b, (p, (q, (r, (s, (x, (y, (l, ()))))))))))))))))))
    (.req (List.length xs = List.length xs)
    (.leaf (.inl (xs, (kind, (IntKind.wrap IntKind.i64 (i + (1 : Int)), (b, (p, (q, (r, (s, (x, (y, (l, ()))))))))))))))))
   (.req (List.length xs = List.length xs)
   (.leaf (.inr (.exit (2 : Nat), [.l (78 : Nat) (xs)]))))) := by kernel_rfl
theorem h127b' (xs : List Knot) (kind : Int) (l : List Report) (i : Nat) (K : Ex × List (V T) → Prop) (hn : l.length ≤ 1000) (hl : xs.length + l.length ≤ 3000 + i) (hK : K (.exit 2, [.l 78 (xs ++ ptR kind (l.drop i))])) :
    (bodyD Try.prog E c127b 0 (bodyX Try.prog E ctB noLoops 1000 5 L0 (lpOf Try.prog 127 1)) (xs, kind, l, (l.length : Int), (i : Int), ())).holds fun y => match y with
    | .inl d => ((d.2.2.1.length : Int) - d.2.2.2.2.1).toNat < ((l.length : Int) - (i : Int)).toNat ∧ (c127b.out d).holds K
    | .inr y => K y := by
  rw [b127b]
  refine way (fun c => ?_) fun c => ?_
  · have e2 : IntKind.wrap IntKind.i64 ((i : Int) + 1) = ((i + 1 : Nat) : Int) := i64_in' (by omega) (by omega)
    rw [e2]
    rw [drop_ri (by omega), ptR_cons] at hK
    have hlt : ((l.length : Int) - ((i + 1 : Nat) : Int)).toNat < ((l.length : Int) - (i : Int)).toNat := by omega
    have h3 : (0 : Int) ≤ ((i + 1 : Nat) : Int) := by omega
    refine wayC (by omega) c fun _ _ => wayEq (fun c2 => ⟨rfl, by simp only [List.length_cons, List.length_nil]; omega, rfl, hlt, ⟨⟨h3, rfl, hn⟩, ?_⟩, ?_⟩) fun c2 => ⟨rfl, hlt, ⟨⟨h3, rfl, hn⟩, ?_⟩, ?_⟩
    · show (xs ++ [(⟨(ri l i).Z, (ri l i).P⟩ : Knot)]).length + l.length ≤ 3000 + (i + 1)
      simp only [List.length_append, List.length_cons, List.length_nil]
      omega
    · rw [if_pos c2] at hK
      show K (.exit 2, [.l 78 ((xs ++ [(⟨(ri l i).Z, (ri l i).P⟩ : Knot)]) ++ ptR kind (l.drop (i + 1)))])
      rw [List.append_assoc]
      exact hK
    · show xs.length + l.length ≤ 3000 + (i + 1)
      omega
    · rw [if_neg c2] at hK
      exact hK
  · rw [List.drop_eq_nil_of_le (by omega), show ptR kind [] = [] from rfl, List.append_nil] at hK
    exact ⟨rfl, hK⟩
theorem h127b : LoopH Try.prog E c127b 0 (bodyX Try.prog E ctB noLoops 1000 5 L0 (lpOf Try.prog 127 1)) :=
  ⟨fun d => ((d.2.2.1.length : Int) - d.2.2.2.2.1).toNat, fun d K hK => by
    obtain ⟨xs, kind, l, n, i, ⟨⟩⟩ := d
    obtain ⟨⟨⟨k1, k2, k3⟩, k4⟩, k5⟩ := hK
    obtain ⟨m, hm⟩ := Int.eq_ofNat_of_zero_le k1
    obtain rfl : i = (m : Int) := hm
    obtain rfl : n = ((l : List Report).length : Int) := k2
    refine Tree.holds_mono (fun y hy => ?_) (h127b' xs kind l m K k3 k4 k5)
    cases y with
    | inl d' => exact hy
    | inr y => exact hy⟩
theorem h101b' (xs : List Knot) (kind : Int) (l : List Report) (i : Nat) (b : Int) (p q r s : List Knot) (x y : Int) (K : Ex × List (V T) → Prop) (hn : l.length ≤ 1000) (hl : xs.length + l.length ≤ 3000 + i) (hK : K (.exit 2, [.l 78 (xs ++ ptR kind (l.drop i))])) :
    (bodyD Try.prog E c101b 0 (bodyX Try.prog E ctB noLoops 1000 5 L0 (lpOf Try.prog 101 1)) (xs, kind, (i : Int), b, p, q, r, s, x, y, l, ())).holds fun y => match y with
    | .inl d => ((d.2.2.2.2.2.2.2.2.2.2.1.length : Int) - d.2.2.1).toNat < ((l.length : Int) - (i : Int)).toNat ∧ (c101b.out d).holds K
    | .inr y => K y := by
  rw [b101b]
  refine way (fun c => ?_) fun c => ?_
  · have e2 : IntKind.wrap IntKind.i64 ((i : Int) + 1) = ((i + 1 : Nat) : Int) := i64_in' (by omega) (by omega)
    rw [e2]
    rw [drop_ri (by omega), ptR_cons] at hK
    have hlt : ((l.length : Int) - ((i + 1 : Nat) : Int)).toNat < ((l.length : Int) - (i : Int)).toNat := by omega
    have h3 : (0 : Int) ≤ ((i + 1 : Nat) : Int) := by omega
    refine wayC (by omega) c fun _ _ => wayEq (fun c2 => wayC (by omega) c fun _ _ => wayC (by omega) c fun _ _ => ⟨rfl, by simp only [List.length_cons, List.length_nil]; omega, rfl, hlt, ⟨⟨h3, rfl, hn⟩, ?_⟩, ?_⟩) fun c2 => ⟨rfl, hlt, ⟨⟨h3, rfl, hn⟩, ?_⟩, ?_⟩
    · show (xs ++ [(⟨(ri l i).Z, (ri l i).P⟩ : Knot)]).length + l.length ≤ 3000 + (i + 1)
      simp only [List.length_append, List.length_cons, List.length_nil]
      omega
    · rw [if_pos c2] at hK
      show K (.exit 2, [.l 78 ((xs ++ [(⟨(ri l i).Z, (ri l i).P⟩ : Knot)]) ++ ptR kind (l.drop (i + 1)))])
      rw [List.append_assoc]
      exact hK
    · show xs.length + l.length ≤ 3000 + (i + 1)
      omega
    · rw [if_neg c2] at hK
      exact hK
  · rw [List.drop_eq_nil_of_le (by omega), show ptR kind [] = [] from rfl, List.append_nil] at hK
    exact ⟨rfl, hK⟩
theorem h101b : LoopH Try.prog E c101b 0 (bodyX Try.prog E ctB noLoops 1000 5 L0 (lpOf Try.prog 101 1)) :=
  ⟨fun d => ((d.2.2.2.2.2.2.2.2.2.2.1.length : Int) - d.2.2.1).toNat, fun d K hK => by
    obtain ⟨xs, kind, i, b, p, q, r, s, x, y, l, ⟨⟩⟩ := d
    obtain ⟨⟨⟨k1, k2, k3⟩, k4⟩, k5⟩ := hK
    obtain ⟨m, hm⟩ := Int.eq_ofNat_of_zero_le k1
    obtain rfl : i = (m : Int) := hm
    refine Tree.holds_mono (fun y hy => ?_) (h101b' xs kind l m b p q r s x y K k3 k4 k5)
    cases y with
    | inl d' => exact hy
    | inr y => exact hy⟩
theorem ll127 : LLOk Try.prog E (llOf Try.prog E 127 [(3, c127a), (9, c127b)]) := llOf_ok fun i hi c hc => by
  have hi : i < 2 := hi
  have : i = 0 ∨ i = 1 := by omega
  rcases this with rfl | rfl
  · obtain rfl : c127a = c := Option.some.inj hc
    exact LSnd.mk good names mixes ctB_ok (by decide) h127a
  · obtain rfl : c127b = c := Option.some.inj hc
    exact LSnd.mk good names mixes ctB_ok (by decide) h127b
theorem tv127 (e : Earth) (l : List Knot) (k : Int) : runX ctB (llOf Try.prog E 127 [(3, c127a), (9, c127b)]) 127 [e.av, (⟨l⟩ : Line).av, .sym .i64 k] [22] =
  (.req (((0 : Int) ≤ (0 : Int) ∧ (↑(List.length l) : Int) = (↑(List.length l) : Int) ∧ List.length l ≤ (1000 : Nat)) ∧ (0 : Nat) + List.length l ≤ (1000 : Nat) + Int.toNat (0 : Int))
  (.req (List.length ([] ++ ptK (Earth.Bottom e) (List.drop (Int.toNat (0 : Int)) l)) = List.length ([] ++ ptK (Earth.Bottom e) (List.drop (Int.toNat (0 : Int)) l)))
  (.req (((0 : Int) ≤ (0 : Int) ∧ (↑(List.length (Earth.Reports e)) : Int) = (↑(List.length (Earth.Reports e)) : Int) ∧ List.length (Earth.Reports e) ≤ (1000 : Nat)) ∧ List.length ([] ++ ptK (Earth.Bottom e) (List.drop (Int.toNat (0 : Int)) l)) + List.length (Earth.Reports e) ≤ (3000 : Nat) + Int.toNat (0 : Int))
  (.req (List.length ([] ++ ptK (Earth.Bottom e) (List.drop (Int.toNat (0 : Int)) l) ++ ptR k (List.drop (Int.toNat (0 : Int)) (Earth.Reports e))) = List.length ([] ++ ptK (Earth.Bottom e) (List.drop (Int.toNat (0 : Int)) l) ++ ptR k (List.drop (Int.toNat (0 : Int)) (Earth.Reports e))))
  (.leaf (.sl (78 : Nat) ([] ++ ptK (Earth.Bottom e) (List.drop (Int.toNat (0 : Int)) l) ++ ptR k (List.drop (Int.toNat (0 : Int)) (Earth.Reports e))) false)))))) := by kernel_rfl
theorem s127 (e : Earth) (l : List Knot) (k : Int) (h : l.length ≤ 900 ∧ e.Reports.length ≤ 900) : (runX ctB (llOf Try.prog E 127 [(3, c127a), (9, c127b)]) 127 [e.av, (⟨l⟩ : Line).av, .sym .i64 k] [22]).holds fun v => v = .sl 78 (ptK e.Bottom l ++ ptR k e.Reports) false := by
  rw [tv127]
  have h1 := ptK_len (b := e.Bottom) (l := l)
  refine ⟨⟨⟨by decide, rfl, by omega⟩, by (try simp only [List.length_nil]); omega⟩, rfl, ⟨⟨by decide, rfl, by omega⟩, ?_⟩, rfl, rfl⟩
  show (ptK e.Bottom l).length + e.Reports.length ≤ 3000 + 0
  omega
theorem ll101 : LLOk Try.prog E (llOf Try.prog E 101 [(3, c101a), (8, c101b)]) := llOf_ok fun i hi c hc => by
  have hi : i < 2 := hi
  have : i = 0 ∨ i = 1 := by omega
  rcases this with rfl | rfl
  · obtain rfl : c101a = c := Option.some.inj hc
    exact LSnd.mk good names mixes ctB_ok (by decide) h101a
  · obtain rfl : c101b = c := Option.some.inj hc
    exact LSnd.mk good names mixes ctB_ok (by decide) h101b
theorem tv101 (e : Earth) (l : List Knot) (k : Int) : runX ctB (llOf Try.prog E 101 [(3, c101a), (8, c101b)]) 101 [e.av, (⟨l⟩ : Line).av, .sym .i64 k] [22] =
  (.req (((0 : Int) ≤ (0 : Int) ∧ (↑(List.length l) : Int) = (↑(List.length l) : Int) ∧ List.length l ≤ (1000 : Nat)) ∧ (0 : Nat) + List.length l ≤ (1000 : Nat) + Int.toNat (0 : Int))
  (.req (List.length ([] ++ ptK (Earth.Bottom e) (List.drop (Int.toNat (0 : Int)) l)) = List.length ([] ++ ptK (Earth.Bottom e) (List.drop (Int.toNat (0 : Int)) l)))
  (.req (((0 : Int) ≤ (0 : Int) ∧ (↑(List.length (Earth.Reports e)) : Int) = (↑(List.length (Earth.Reports e)) : Int) ∧ List.length (Earth.Reports e) ≤ (1000 : Nat)) ∧ List.length ([] ++ ptK (Earth.Bottom e) (List.drop (Int.toNat (0 : Int)) l)) + List.length (Earth.Reports e) ≤ (3000 : Nat) + Int.toNat (0 : Int))
  (.req (List.length ([] ++ ptK (Earth.Bottom e) (List.drop (Int.toNat (0 : Int)) l) ++ ptR k (List.drop (Int.toNat (0 : Int)) (Earth.Reports e))) = List.length ([] ++ ptK (Earth.Bottom e) (List.drop (Int.toNat (0 : Int)) l) ++ ptR k (List.drop (Int.toNat (0 : Int)) (Earth.Reports e))))
  (.leaf (.sl (78 : Nat) ([] ++ ptK (Earth.Bottom e) (List.drop (Int.toNat (0 : Int)) l) ++ ptR k (List.drop (Int.toNat (0 : Int)) (Earth.Reports e))) false)))))) := by kernel_rfl
theorem s101 (e : Earth) (l : List Knot) (k : Int) (h : l.length ≤ 900 ∧ e.Reports.length ≤ 900) : (runX ctB (llOf Try.prog E 101 [(3, c101a), (8, c101b)]) 101 [e.av, (⟨l⟩ : Line).av, .sym .i64 k] [22]).holds fun v => v = .sl 78 (ptK e.Bottom l ++ ptR k e.Reports) false := by
  rw [tv101]
  have h1 := ptK_len (b := e.Bottom) (l := l)
  refine ⟨⟨⟨by decide, rfl, by omega⟩, by (try simp only [List.length_nil]); omega⟩, rfl, ⟨⟨by decide, rfl, by omega⟩, ?_⟩, rfl, rfl⟩
  show (ptK e.Bottom l).length + e.Reports.length ≤ 3000 + 0
  omega
noncomputable def cPts : Con T := conP Try.prog [shE, .agg [.s 78], .one (.i .i64)] [.n, .l 78, .l 78, .l 78, .l 78, .n, .n, .l 55, .l 78, .n] (fun d => (d.2.2.2.2.2.2.2.2.1 : List Knot).length ≤ 900 ∧ (d.2.2.2.2.2.2.2.1 : List Report).length ≤ 900) fun d => .sl 78 (ptK d.1 d.2.2.2.2.2.2.2.2.1 ++ ptR d.2.2.2.2.2.2.2.2.2.1 d.2.2.2.2.2.2.2.1) false
theorem pts_ok : ConOk Try.prog E 127 cPts := conP_ok fun d hd => fact_run ctB_ok ll127 (ts := [22]) rfl (s127 ⟨d.1, ⟨d.2.1⟩, ⟨d.2.2.1⟩, ⟨d.2.2.2.1⟩, ⟨d.2.2.2.2.1⟩, d.2.2.2.2.2.1, d.2.2.2.2.2.2.1, d.2.2.2.2.2.2.2.1⟩ d.2.2.2.2.2.2.2.2.1 d.2.2.2.2.2.2.2.2.2.1 hd)
theorem pts2_ok : ConOk Try.prog E 101 cPts := conP_ok fun d hd => fact_run ctB_ok ll101 (ts := [22]) rfl (s101 ⟨d.1, ⟨d.2.1⟩, ⟨d.2.2.1⟩, ⟨d.2.2.2.1⟩, ⟨d.2.2.2.2.1⟩, d.2.2.2.2.2.1, d.2.2.2.2.2.2.1, d.2.2.2.2.2.2.2.1⟩ d.2.2.2.2.2.2.2.2.1 d.2.2.2.2.2.2.2.2.2.1 hd)
end Go.Proofs.Ytdlholmphenhhaa.W
