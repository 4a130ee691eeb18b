/- Places of a part of a line, its least and greatest values. No condition. -/
import Derived.Test.YtdlholmphenhhaaV2
set_option linter.unusedVariables false
set_option maxRecDepth 100000
noncomputable section
namespace Go.Proofs.Ytdlholmphenhhaa.W
open Go Go.Cx Go.RowKit
noncomputable def ki (l : List Int) (i : Int) : Int := ixD E 2 l i
theorem drop_kn {l : List Knot} {i : Nat} (h : i < l.length) : l.drop i = kn l i :: l.drop (i + 1) := drop_ix (E := E) (τ := 78) h
theorem drop_ki {l : List Int} {i : Nat} (h : i < l.length) : l.drop i = ki l i :: l.drop (i + 1) := drop_ix (E := E) (τ := 2) h
noncomputable def ctV : CTab T := (62, cVal) :: (64, cVal) :: (61, cRight) :: (63, cRight) :: ctL
theorem ctV_ok : CTabOk Try.prog E ctV := .cons val_ok (.cons val2_ok (.cons right_ok (.cons right2_ok ctL_ok)))
/-! ### At -/
noncomputable def atLo (l : List Knot) (x : Int) : Int := if isR l then valLo l x else 0
noncomputable def atHi (l : List Knot) (x : Int) : Int := if isR l then valHi l x else 0
noncomputable def cAt : Con T := conV Try.prog [.agg [.s 78], .one (.i .i64)] [.l 78, .n] fun d => .agg [i64 (atLo d.1 d.2.1), i64 (atHi d.1 d.2.1)]
noncomputable def atTree (l : List Knot) (x : Int) : Tree (AV T) :=
  (.br (!decide (isR l))
   (.leaf (.agg [.sym .i64 ((0 : Int)), .sym .i64 ((0 : Int))]))
   (.req (isR l)
   (.leaf (.agg [.sym .i64 (valLo l x), .sym .i64 (valHi l x)]))))
theorem tv21 (l : List Knot) (x : Int) : runX ctV noLoops 21 [(⟨l⟩ : Line).av, i64 x] [32] = atTree l x := by kernel_rfl
theorem tv22 (l : List Knot) (x : Int) : runX ctV noLoops 22 [(⟨l⟩ : Line).av, i64 x] [32] = atTree l x := by kernel_rfl
theorem atTree_ok (l : List Knot) (x : Int) : (atTree l x).holds fun v => v = .agg [i64 (atLo l x), i64 (atHi l x)] := by
  unfold atTree atLo atHi
  refine wayN (fun h => ?_) fun h => ⟨h, ?_⟩
  · rw [if_neg h, if_neg h]; rfl
  · rw [if_pos h, if_pos h]; rfl
theorem s21 (l : List Knot) (x : Int) : (runX ctV noLoops 21 [(⟨l⟩ : Line).av, i64 x] [32]).holds fun v => v = .agg [i64 (atLo l x), i64 (atHi l x)] := by rw [tv21]; exact atTree_ok l x
theorem s22 (l : List Knot) (x : Int) : (runX ctV noLoops 22 [(⟨l⟩ : Line).av, i64 x] [32]).holds fun v => v = .agg [i64 (atLo l x), i64 (atHi l x)] := by rw [tv22]; exact atTree_ok l x
theorem at_ok : ConOk Try.prog E 21 cAt := conV_ok fun d => fact_run ctV_ok noLoops_ok (ts := [32]) rfl (s21 d.1 d.2.1)
theorem at2_ok : ConOk Try.prog E 22 cAt := conV_ok fun d => fact_run ctV_ok noLoops_ok (ts := [32]) rfl (s22 d.1 d.2.1)
/-! ### Places -/
noncomputable def inn (l : List Knot) (x y : Int) : List Int := (l.filter fun k => decide (x < k.At ∧ k.At < y)).map Knot.At
noncomputable def plc (l : List Knot) (x y : Int) : List Int := (l.filter fun k => decide (x ≤ k.At ∧ k.At ≤ y)).map Knot.At
theorem inn_cons {k : Knot} {l : List Knot} {x y : Int} : inn (k :: l) x y = if x < k.At ∧ k.At < y then k.At :: inn l x y else inn l x y := by
  unfold inn
  by_cases h : x < k.At ∧ k.At < y
  · rw [List.filter_cons_of_pos (by simpa using h), if_pos h]; rfl
  · rw [List.filter_cons_of_neg (by simpa using h), if_neg h]
theorem plc_cons {k : Knot} {l : List Knot} {x y : Int} : plc (k :: l) x y = if x ≤ k.At ∧ k.At ≤ y then k.At :: plc l x y else plc l x y := by
  unfold plc
  by_cases h : x ≤ k.At ∧ k.At ≤ y
  · rw [List.filter_cons_of_pos (by simpa using h), if_pos h]; rfl
  · rw [List.filter_cons_of_neg (by simpa using h), if_neg h]
theorem inn_nil {x y : Int} : inn [] x y = [] := rfl
theorem plc_nil {x y : Int} : plc [] x y = [] := rfl
theorem inn_len {l : List Knot} {x y : Int} : (inn l x y).length ≤ l.length := by unfold inn; rw [List.length_map]; exact List.length_filter_le ..
theorem plc_len {l : List Knot} {x y : Int} : (plc l x y).length ≤ l.length := by unfold plc; rw [List.length_map]; exact List.length_filter_le ..
noncomputable def o67 (xs : List Int) (x y i : Int) (l : List Knot) : Tree (Ex × List (V T)) :=
  .req ((0 ≤ i ∧ l.length ≤ 1000) ∧ xs.length + l.length ≤ 1000 + i.toNat) (.leaf (.exit 0, [.l 2 (xs ++ inn (l.drop i.toNat) x y)]))
noncomputable def o95 (xs : List Int) (x y : Int) (l : List Knot) (n i : Int) : Tree (Ex × List (V T)) :=
  .req ((0 ≤ i ∧ l.length ≤ 1000 ∧ n = l.length) ∧ xs.length + l.length ≤ 1000 + i.toNat) (.leaf (.exit 0, [.l 2 (xs ++ plc (l.drop i.toNat) x y)]))
noncomputable def c67 : LoopC T := ⟨[.l 2, .n, .n, .n, .l 78], ⟨47, [(1, .one (.i .i64)), (2, .one (.i .i64)), (3, .one (.o 0 0)), (7, .one (.g 1 2)), (8, .one (.i .i64))], [.c [.s 78], .l 2]⟩,
  fun _ => ⟨47, [(7, .one (.g 0 2))], [.l 2]⟩, 10, fun d => o67 d.1 d.2.1 d.2.2.1 d.2.2.2.1 d.2.2.2.2.1⟩
theorem b67 (xs : List Int) (x y i : Int) (l : List Knot) : bodyD Try.prog E c67 0 (bodyX Try.prog E ctV noLoops 1000 5 L0 (lpOf Try.prog 67 0)) (xs, x, y, i, l, ()) =
  (.br (decide (i < (↑(List.length l) : Int)))
   (.req ((decide ((0 : Int) ≤ i) && decide (i < (↑(List.length l) : Int))) = true)
   (.br (decide (Knot.At (kn l i) > x))
    (.req ((decide ((0 : Int) ≤ i) && decide (i < (↑(List.length l) : Int))) = true)
    (.br (decide (Knot.At (kn l i) < y))
     (.req ((decide ((0 : Int) ≤ i) && decide (i < (↑(List.length l) : Int))) = true)
     (.req (List.length xs = List.length xs)
     (.req (List.length xs + List.length [Knot.At (kn l i)] ≤ (1073741824 : Nat))
     (.req (List.length (xs ++ [Knot.At (kn l i)]) = List.length (xs ++ [Knot.At (kn l i)]))
     (.leaf (.inl (xs ++ [Knot.At (kn l i)], (x, (y, (IntKind.wrap IntKind.i64 (i + (1 : Int)), (l, ())))))))))))
     (.req (List.length xs = List.length xs)
     (.leaf (.inl (xs, (x, (y, (IntKind.wrap IntKind.i64 (i + (1 : Int)), (l, ()))))))))))
    (.req (List.length xs = List.length xs)
    (.leaf (.inl (xs, (x, (y, (IntKind.wrap IntKind.i64 (i + (1 : Int)), (l, ()))))))))))
   (.req (List.length xs = List.length xs)
   (.leaf (.inr (.exit (0 : Nat), [.l (2 : Nat) (xs)]))))) := by kernel_rfl
theorem h67' (xs : List Int) (x y : Int) (i : Nat) (l : List Knot) (K : Ex × List (V T) → Prop) (hn : l.length ≤ 1000) (hl : xs.length + l.length ≤ 1000 + i) (hK : K (.exit 0, [.l 2 (xs ++ inn (l.drop i) x y)])) : (bodyD Try.prog E c67 0 (bodyX Try.prog E ctV noLoops 1000 5 L0 (lpOf Try.prog 67 0)) (xs, x, y, (i : Int), l, ())).holds fun y => match y with
    | .inl d' => ((d'.2.2.2.2.1.length : Int) - d'.2.2.2.1).toNat < ((l.length : Int) - (i : Int)).toNat ∧ (c67.out d').holds K
    | .inr y => K y := by
  rw [b67]
  refine way (fun c => ?_) fun c => ?_
  · have e2 : IntKind.wrap IntKind.i64 ((i : Int) + 1) = ((i + 1 : Nat) : Int) := i64_in' (by omega) (by omega)
    rw [e2]
    rw [drop_kn (by omega), inn_cons] at hK
    have hlt : ((l.length : Int) - ((i + 1 : Nat) : Int)).toNat < ((l.length : Int) - (i : Int)).toNat := by omega
    have h3 : (0 : Int) ≤ ((i + 1 : Nat) : Int) := by omega
    have skip : ¬ (x < (kn l i).At ∧ (kn l i).At < y) → (c67.out (xs, x, y, ((i + 1 : Nat) : Int), l, ())).holds K := fun h => by
      rw [if_neg h] at hK
      exact ⟨⟨⟨h3, hn⟩, by show xs.length + l.length ≤ 1000 + (i + 1); omega⟩, hK⟩
    refine wayC (by omega) c fun _ _ => way (fun c2 => wayC (by omega) c fun _ _ => way (fun c3 => wayC (by omega) c fun _ _ => ⟨rfl, by simp only [List.length_cons, List.length_nil]; omega, rfl, hlt, ⟨⟨h3, hn⟩, ?_⟩, ?_⟩) fun c3 => ⟨rfl, hlt, skip fun h => c3 h.2⟩) fun c2 => ⟨rfl, hlt, skip fun h => c2 h.1⟩
    · show (xs ++ [(kn l i).At]).length + l.length ≤ 1000 + (i + 1)
      simp only [List.length_append, List.length_cons, List.length_nil]
      omega
    · rw [if_pos ⟨c2, c3⟩] at hK
      show K (.exit 0, [.l 2 ((xs ++ [(kn l i).At]) ++ inn (l.drop (i + 1)) x y)])
      rw [List.append_assoc]
      exact hK
  · rw [List.drop_eq_nil_of_le (by omega), inn_nil, List.append_nil] at hK
    exact ⟨rfl, hK⟩
theorem h67 : LoopH Try.prog E c67 0 (bodyX Try.prog E ctV noLoops 1000 5 L0 (lpOf Try.prog 67 0)) :=
  ⟨fun d => ((d.2.2.2.2.1.length : Int) - d.2.2.2.1).toNat, fun d K hK => by
    obtain ⟨xs, x, y, i, l, ⟨⟩⟩ := d
    obtain ⟨⟨⟨k1, k0⟩, k2⟩, k3⟩ := hK
    obtain ⟨m, hm⟩ := Int.eq_ofNat_of_zero_le k1
    obtain rfl : i = (m : Int) := hm
    refine Tree.holds_mono (fun y hy => ?_) (h67' xs x y m l K k0 k2 k3)
    cases y with
    | inl d' => exact hy
    | inr y => exact hy⟩
theorem ll67 : LLOk Try.prog E (llOf Try.prog E 67 [(3, c67)]) := llOf_ok fun i hi c hc => by
  have hi : i < 1 := hi
  obtain rfl : i = 0 := by omega
  obtain rfl : c67 = c := Option.some.inj hc
  exact LSnd.mk good names mixes ctV_ok (by decide) h67
noncomputable def c95 : LoopC T := ⟨[.l 2, .n, .n, .l 78, .n, .n], ⟨32, [(1, .one (.i .i64)), (2, .one (.i .i64)), (7, .one (.g 0 2)), (14, .one (.s 78)), (15, .one (.i .i64)), (16, .one (.i .i64))], [.l 2]⟩,
  fun _ => ⟨32, [(7, .one (.g 0 2))], [.l 2]⟩, 10, fun d => o95 d.1 d.2.1 d.2.2.1 d.2.2.2.1 d.2.2.2.2.1 d.2.2.2.2.2.1⟩
theorem b95 (xs : List Int) (x y : Int) (l : List Knot) (n i : Int) : bodyD Try.prog E c95 0 (bodyX Try.prog E ctV noLoops 1000 5 L0 (lpOf Try.prog 95 0)) (xs, x, y, l, n, i, ()) =
  (.br (decide (i < n))
   (.req ((decide ((0 : Int) ≤ i) && decide (i < (↑(List.length l) : Int))) = true)
   (.br (within (Knot.At (kn l i)) x y)
    (.req (List.length xs = List.length xs)
    (.req (List.length xs + List.length [Knot.At (kn l i)] ≤ (1073741824 : Nat))
    (.req (List.length (xs ++ [Knot.At (kn l i)]) = List.length (xs ++ [Knot.At (kn l i)]))
    (.leaf (.inl (xs ++ [Knot.At (kn l i)], (x, (y, (l, (n, (IntKind.wrap IntKind.i64 (i + (1 : Int)), ())))))))))))
    (.req (List.length xs = List.length xs)
    (.leaf (.inl (xs, (x, (y, (l, (n, (IntKind.wrap IntKind.i64 (i + (1 : Int)), ())))))))))))
   (.req (List.length xs = List.length xs)
   (.leaf (.inr (.exit (0 : Nat), [.l (2 : Nat) (xs)]))))) := by kernel_rfl
theorem h95' (xs : List Int) (x y : Int) (l : List Knot) (i : Nat) (K : Ex × List (V T) → Prop) (hn : l.length ≤ 1000) (hl : xs.length + l.length ≤ 1000 + i) (hK : K (.exit 0, [.l 2 (xs ++ plc (l.drop i) x y)])) : (bodyD Try.prog E c95 0 (bodyX Try.prog E ctV noLoops 1000 5 L0 (lpOf Try.prog 95 0)) (xs, x, y, l, (l.length : Int), (i : Int), ())).holds fun y => match y with
    | .inl d' => ((d'.2.2.2.1.length : Int) - d'.2.2.2.2.2.1).toNat < ((l.length : Int) - (i : Int)).toNat ∧ (c95.out d').holds K
    | .inr y => K y := by
  rw [b95]
  refine way (fun c => ?_) fun c => ?_
  · have e2 : IntKind.wrap IntKind.i64 ((i : Int) + 1) = ((i + 1 : Nat) : Int) := i64_in' (by omega) (by omega)
    rw [e2]
    rw [drop_kn (by omega), plc_cons] at hK
    have hlt : ((l.length : Int) - ((i + 1 : Nat) : Int)).toNat < ((l.length : Int) - (i : Int)).toNat := by omega
    have h3 : (0 : Int) ≤ ((i + 1 : Nat) : Int) := by omega
    refine wayC (by omega) c fun _ _ => way (fun c2 => ⟨rfl, by simp only [List.length_cons, List.length_nil]; omega, rfl, hlt, ⟨⟨h3, hn, rfl⟩, ?_⟩, ?_⟩) fun c2 => ⟨rfl, hlt, ⟨⟨h3, hn, rfl⟩, ?_⟩, ?_⟩
    · show (xs ++ [(kn l i).At]).length + l.length ≤ 1000 + (i + 1)
      simp only [List.length_append, List.length_cons, List.length_nil]
      omega
    · rw [if_pos c2] at hK
      show K (.exit 0, [.l 2 ((xs ++ [(kn l i).At]) ++ plc (l.drop (i + 1)) x y)])
      rw [List.append_assoc]
      exact hK
    · show xs.length + l.length ≤ 1000 + (i + 1)
      omega
    · rw [if_neg c2] at hK
      exact hK
  · rw [List.drop_eq_nil_of_le (by omega), plc_nil, List.append_nil] at hK
    exact ⟨rfl, hK⟩
theorem h95 : LoopH Try.prog E c95 0 (bodyX Try.prog E ctV noLoops 1000 5 L0 (lpOf Try.prog 95 0)) :=
  ⟨fun d => ((d.2.2.2.1.length : Int) - d.2.2.2.2.2.1).toNat, fun d K hK => by
    obtain ⟨xs, x, y, l, n, i, ⟨⟩⟩ := d
    obtain ⟨⟨⟨k1, k0, k2⟩, k3⟩, k4⟩ := hK
    obtain ⟨m, hm⟩ := Int.eq_ofNat_of_zero_le k1
    obtain rfl : i = (m : Int) := hm
    obtain rfl : n = ((l : List Knot).length : Int) := k2
    refine Tree.holds_mono (fun y hy => ?_) (h95' xs x y l m K k0 k3 k4)
    cases y with
    | inl d' => exact hy
    | inr y => exact hy⟩
theorem ll95 : LLOk Try.prog E (llOf Try.prog E 95 [(3, c95)]) := llOf_ok fun i hi c hc => by
  have hi : i < 1 := hi
  obtain rfl : i = 0 := by omega
  obtain rfl : c95 = c := Option.some.inj hc
  exact LSnd.mk good names mixes ctV_ok (by decide) h95
theorem tv67 (l : List Knot) (x y : Int) : runX ctV (llOf Try.prog E 67 [(3, c67)]) 67 [(⟨l⟩ : Line).av, i64 x, i64 y] [46] =
  (.req (((0 : Int) ≤ (0 : Int) ∧ List.length l ≤ (1000 : Nat)) ∧ List.length [x, y] + List.length l ≤ (1000 : Nat) + Int.toNat (0 : Int))
  (.req (List.length ([x, y] ++ inn (List.drop (Int.toNat (0 : Int)) l) x y) = List.length ([x, y] ++ inn (List.drop (Int.toNat (0 : Int)) l) x y))
  (.leaf (.sl (2 : Nat) ([x, y] ++ inn (List.drop (Int.toNat (0 : Int)) l) x y) false)))) := by kernel_rfl
theorem tv95 (l : List Knot) (x y : Int) : runX ctV (llOf Try.prog E 95 [(3, c95)]) 95 [(⟨l⟩ : Line).av, i64 x, i64 y] [46] =
  (.req (((0 : Int) ≤ (0 : Int) ∧ List.length l ≤ (1000 : Nat) ∧ (↑(List.length l) : Int) = (↑(List.length l) : Int)) ∧ List.length [x, y] + List.length l ≤ (1000 : Nat) + Int.toNat (0 : Int))
  (.req (List.length ([x, y] ++ plc (List.drop (Int.toNat (0 : Int)) l) x y) = List.length ([x, y] ++ plc (List.drop (Int.toNat (0 : Int)) l) x y))
  (.leaf (.sl (2 : Nat) ([x, y] ++ plc (List.drop (Int.toNat (0 : Int)) l) x y) false)))) := by kernel_rfl
noncomputable def cInn : Con T := conP Try.prog [.agg [.s 78], .one (.i .i64), .one (.i .i64)] [.l 78, .n, .n] (fun d => (d.1 : List Knot).length ≤ 900) fun d => .sl 2 (d.2.1 :: d.2.2.1 :: inn d.1 d.2.1 d.2.2.1) false
noncomputable def cPlc : Con T := conP Try.prog [.agg [.s 78], .one (.i .i64), .one (.i .i64)] [.l 78, .n, .n] (fun d => (d.1 : List Knot).length ≤ 900) fun d => .sl 2 (d.2.1 :: d.2.2.1 :: plc d.1 d.2.1 d.2.2.1) false
theorem s67 (l : List Knot) (x y : Int) (h : l.length ≤ 900) : (runX ctV (llOf Try.prog E 67 [(3, c67)]) 67 [(⟨l⟩ : Line).av, i64 x, i64 y] [46]).holds fun v => v = .sl 2 (x :: y :: inn l x y) false := by
  rw [tv67]
  exact ⟨⟨⟨by decide, by omega⟩, by show 2 + l.length ≤ 1000 + 0; omega⟩, rfl, rfl⟩
theorem s95 (l : List Knot) (x y : Int) (h : l.length ≤ 900) : (runX ctV (llOf Try.prog E 95 [(3, c95)]) 95 [(⟨l⟩ : Line).av, i64 x, i64 y] [46]).holds fun v => v = .sl 2 (x :: y :: plc l x y) false := by
  rw [tv95]
  exact ⟨⟨⟨by decide, by omega, rfl⟩, by show 2 + l.length ≤ 1000 + 0; omega⟩, rfl, rfl⟩
theorem inn_ok : ConOk Try.prog E 67 cInn := conP_ok fun d hd => fact_run ctV_ok ll67 (ts := [46]) rfl (s67 d.1 d.2.1 d.2.2.1 hd)
theorem plc_ok : ConOk Try.prog E 95 cPlc := conP_ok fun d hd => fact_run ctV_ok ll95 (ts := [46]) rfl (s95 d.1 d.2.1 d.2.2.1 hd)
end Go.Proofs.Ytdlholmphenhhaa.W
