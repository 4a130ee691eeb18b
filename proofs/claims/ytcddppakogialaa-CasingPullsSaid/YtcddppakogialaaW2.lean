/- Loads of casings: the reference. No condition. -/
import Derived.Test.YtcddppakogialaaW1
set_option linter.unusedVariables false
set_option maxRecDepth 100000
noncomputable section
namespace Go.Proofs.Ytcddppakogialaa.W
open Go Go.Cx Go.RowKit
/-! ### The reference: all places, then those of the part -/
@[reducible] noncomputable def abD (xs : List Int) (x y : Int) (a b : List Knot) : List (V T) := [.l 2 xs, .n x, .n y, .l 39 a, .l 39 b]
noncomputable def o73a (xs : List Int) (x y i : Int) (a b l : List Knot) (id : Nat) : Tree (Ex × List (V T)) :=
  .req ((0 ≤ i ∧ l.length ≤ 1000) ∧ xs.length + l.length ≤ 3000 + i.toNat) (.leaf (.exit id, abD (xs ++ (l.drop i.toNat).map Knot.At) x y a b))
noncomputable def c73a : LoopC T := ⟨[.l 2, .n, .n, .n, .l 39, .l 39], ⟨117, [(2, .one (.i .i64)), (3, .one (.i .i64)), (4, .one (.o 0 0)), (5, .one (.o 1 0)), (9, .one (.g 2 2)), (10, .one (.i .i64))], [.c [.s 39], .c [.s 39], .l 2]⟩,
  fun _ => ⟨117, [(2, .one (.i .i64)), (3, .one (.i .i64)), (4, .one (.o 0 0)), (5, .one (.o 1 0)), (9, .one (.g 2 2))], [.c [.s 39], .c [.s 39], .l 2]⟩, 10, fun d => o73a d.1 d.2.1 d.2.2.1 d.2.2.2.1 d.2.2.2.2.1 d.2.2.2.2.2.1 d.2.2.2.2.1 0⟩
theorem b73a (xs : List Int) (x y i : Int) (a b : List Knot) : bodyD Try.prog E c73a 0 (bodyX Try.prog E ctT noLoops 1000 5 L0 (lpOf Try.prog 73 0)) (xs, x, y, i, a, b, ()) =
  (.br (decide (i < (↑(List.length a) : Int)))
   (.req ((decide ((0 : Int) ≤ i) && decide (i < (↑(List.length a) : Int))) = true)
   (.req (List.length xs = List.length xs)
   (.req (List.length xs + List.length [Knot.At (kn a i)] ≤ (1073741824 : Nat))
   (.req (List.length (xs ++ [Knot.At (kn a i)]) = List.length (xs ++ [Knot.At (kn a i)]))
   (.leaf (.inl (xs ++ [Knot.At (kn a i)], (x, (y, (IntKind.wrap IntKind.i64 (i + (1 : Int)), (a, (b, ()))))))))))))
   (.req (List.length xs = List.length xs)
   (.leaf (.inr (.exit (0 : Nat), [.l (2 : Nat) (xs), .n (x), .n (y), .l (39 : Nat) (a), .l (39 : Nat) (b)]))))) := by kernel_rfl
noncomputable def c73b : LoopC T := ⟨[.l 2, .n, .n, .n, .l 39, .l 39], ⟨117, [(2, .one (.i .i64)), (3, .one (.i .i64)), (4, .one (.o 0 0)), (5, .one (.o 1 0)), (9, .one (.g 2 2)), (11, .one (.i .i64))], [.c [.s 39], .c [.s 39], .l 2]⟩,
  fun _ => ⟨117, [(2, .one (.i .i64)), (3, .one (.i .i64)), (4, .one (.o 0 0)), (5, .one (.o 1 0)), (9, .one (.g 2 2))], [.c [.s 39], .c [.s 39], .l 2]⟩, 10, fun d => o73a d.1 d.2.1 d.2.2.1 d.2.2.2.1 d.2.2.2.2.1 d.2.2.2.2.2.1 d.2.2.2.2.2.1 2⟩
theorem b73b (xs : List Int) (x y i : Int) (a b : List Knot) : bodyD Try.prog E c73b 0 (bodyX Try.prog E ctT noLoops 1000 5 L0 (lpOf Try.prog 73 1)) (xs, x, y, i, a, b, ()) =
  (.br (decide (i < (↑(List.length b) : Int)))
   (.req ((decide ((0 : Int) ≤ i) && decide (i < (↑(List.length b) : Int))) = true)
   (.req (List.length xs = List.length xs)
   (.req (List.length xs + List.length [Knot.At (kn b i)] ≤ (1073741824 : Nat))
   (.req (List.length (xs ++ [Knot.At (kn b i)]) = List.length (xs ++ [Knot.At (kn b i)]))
   (.leaf (.inl (xs ++ [Knot.At (kn b i)], (x, (y, (IntKind.wrap IntKind.i64 (i + (1 : Int)), (a, (b, ()))))))))))))
   (.req (List.length xs = List.length xs)
   (.leaf (.inr (.exit (2 : Nat), [.l (2 : Nat) (xs), .n (x), .n (y), .l (39 : Nat) (a), .l (39 : Nat) (b)]))))) := by kernel_rfl
theorem h73a' (xs : List Int) (x y : Int) (i : Nat) (a b : List Knot) (K : Ex × List (V T) → Prop) (hn : a.length ≤ 1000) (hl : xs.length + a.length ≤ 3000 + i) (hK : K (.exit 0, abD (xs ++ (a.drop i).map Knot.At) x y a b)) :
    (bodyD Try.prog E c73a 0 (bodyX Try.prog E ctT noLoops 1000 5 L0 (lpOf Try.prog 73 0)) (xs, x, y, (i : Int), a, b, ())).holds fun y => match y with
    | .inl d => ((d.2.2.2.2.1.length : Int) - d.2.2.2.1).toNat < ((a.length : Int) - (i : Int)).toNat ∧ (c73a.out d).holds K
    | .inr y => K y := by
  rw [b73a]
  refine way (fun c => ?_) fun c => ?_
  · have e2 : IntKind.wrap IntKind.i64 ((i : Int) + 1) = ((i + 1 : Nat) : Int) := i64_in' (by omega) (by omega)
    rw [e2]
    rw [drop_kn (l := a) (by omega), List.map_cons] at hK
    have hlt : ((a.length : Int) - ((i + 1 : Nat) : Int)).toNat < ((a.length : Int) - (i : Int)).toNat := by omega
    have h3 : (0 : Int) ≤ ((i + 1 : Nat) : Int) := by omega
    refine wayC (by omega) c fun _ _ => ⟨rfl, by simp only [List.length_cons, List.length_nil]; omega, rfl, hlt, ⟨⟨h3, hn⟩, ?_⟩, ?_⟩
    · show (xs ++ [(kn a i).At]).length + a.length ≤ 3000 + (i + 1)
      simp only [List.length_append, List.length_cons, List.length_nil]
      omega
    · show K (.exit 0, abD ((xs ++ [(kn a i).At]) ++ (a.drop (i + 1)).map Knot.At) x y a b)
      rw [List.append_assoc]
      exact hK
  · rw [show a.drop i = [] from List.drop_eq_nil_of_le (by omega), List.map_nil, List.append_nil] at hK
    exact ⟨rfl, hK⟩
theorem h73a : LoopH Try.prog E c73a 0 (bodyX Try.prog E ctT noLoops 1000 5 L0 (lpOf Try.prog 73 0)) :=
  ⟨fun d => ((d.2.2.2.2.1.length : Int) - d.2.2.2.1).toNat, fun d K hK => by
    obtain ⟨xs, x, y, i, a, b, ⟨⟩⟩ := d
    obtain ⟨⟨⟨k1, k2⟩, k3⟩, k4⟩ := hK
    obtain ⟨q, hq⟩ := Int.eq_ofNat_of_zero_le k1
    obtain rfl : i = (q : Int) := hq
    refine Tree.holds_mono (fun y hy => ?_) (h73a' xs x y q a b K k2 k3 k4)
    cases y with
    | inl d' => exact hy
    | inr y => exact hy⟩
theorem h73b' (xs : List Int) (x y : Int) (i : Nat) (a b : List Knot) (K : Ex × List (V T) → Prop) (hn : b.length ≤ 1000) (hl : xs.length + b.length ≤ 3000 + i) (hK : K (.exit 2, abD (xs ++ (b.drop i).map Knot.At) x y a b)) :
    (bodyD Try.prog E c73b 0 (bodyX Try.prog E ctT noLoops 1000 5 L0 (lpOf Try.prog 73 1)) (xs, x, y, (i : Int), a, b, ())).holds fun y => match y with
    | .inl d => ((d.2.2.2.2.2.1.length : Int) - d.2.2.2.1).toNat < ((b.length : Int) - (i : Int)).toNat ∧ (c73b.out d).holds K
    | .inr y => K y := by
  rw [b73b]
  refine way (fun c => ?_) fun c => ?_
  · have e2 : IntKind.wrap IntKind.i64 ((i : Int) + 1) = ((i + 1 : Nat) : Int) := i64_in' (by omega) (by omega)
    rw [e2]
    rw [drop_kn (l := b) (by omega), List.map_cons] at hK
    have hlt : ((b.length : Int) - ((i + 1 : Nat) : Int)).toNat < ((b.length : Int) - (i : Int)).toNat := by omega
    have h3 : (0 : Int) ≤ ((i + 1 : Nat) : Int) := by omega
    refine wayC (by omega) c fun _ _ => ⟨rfl, by simp only [List.length_cons, List.length_nil]; omega, rfl, hlt, ⟨⟨h3, hn⟩, ?_⟩, ?_⟩
    · show (xs ++ [(kn b i).At]).length + b.length ≤ 3000 + (i + 1)
      simp only [List.length_append, List.length_cons, List.length_nil]
      omega
    · show K (.exit 2, abD ((xs ++ [(kn b i).At]) ++ (b.drop (i + 1)).map Knot.At) x y a b)
      rw [List.append_assoc]
      exact hK
  · rw [show b.drop i = [] from List.drop_eq_nil_of_le (by omega), List.map_nil, List.append_nil] at hK
    exact ⟨rfl, hK⟩
theorem h73b : LoopH Try.prog E c73b 0 (bodyX Try.prog E ctT noLoops 1000 5 L0 (lpOf Try.prog 73 1)) :=
  ⟨fun d => ((d.2.2.2.2.2.1.length : Int) - d.2.2.2.1).toNat, fun d K hK => by
    obtain ⟨xs, x, y, i, a, b, ⟨⟩⟩ := d
    obtain ⟨⟨⟨k1, k2⟩, k3⟩, k4⟩ := hK
    obtain ⟨q, hq⟩ := Int.eq_ofNat_of_zero_le k1
    obtain rfl : i = (q : Int) := hq
    refine Tree.holds_mono (fun y hy => ?_) (h73b' xs x y q a b K k2 k3 k4)
    cases y with
    | inl d' => exact hy
    | inr y => exact hy⟩
end Go.Proofs.Ytcddppakogialaa.W
