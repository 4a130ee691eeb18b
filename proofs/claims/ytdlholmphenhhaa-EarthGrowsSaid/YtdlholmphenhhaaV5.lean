/- Which line is nowhere less than another one. No condition. -/
import Derived.Test.YtdlholmphenhhaaV4
set_option linter.unusedVariables false
set_option maxRecDepth 100000
noncomputable section
namespace Go.Proofs.Ytdlholmphenhhaa.W
open Go Go.Cx Go.RowKit
noncomputable def li (l : List Line) (i : Int) : Line := ixD E 24 l i
/-! ### Copies, and equal lines -/
theorem tv20 (l : List Knot) : runX ctV noLoops 20 [(⟨l⟩ : Line).av] [24] =
  (.req ((0 : Nat) + List.length l ≤ (1073741824 : Nat))
  (.req (List.length ([] ++ l) = List.length ([] ++ l))
  (.leaf (.agg [.sl (78 : Nat) ([] ++ l) false])))) := by kernel_rfl
noncomputable def cOwn : Con T := conP Try.prog [.agg [.s 78]] [.l 78] (fun d => (d.1 : List Knot).length ≤ 1000) fun d => .agg [.sl 78 d.1 false]
theorem s20 (l : List Knot) (h : l.length ≤ 1000) : (runX ctV noLoops 20 [(⟨l⟩ : Line).av] [24]).holds fun v => v = .agg [.sl 78 l false] := by
  rw [tv20]
  exact ⟨by omega, rfl, rfl⟩
theorem own_ok : ConOk Try.prog E 20 cOwn := conP_ok fun d hd => fact_run ctV_ok noLoops_ok (ts := [24]) rfl (s20 d.1 hd)
noncomputable def eqP : List Knot → List Knot → Bool
  | a :: l, b :: m => (a.At == b.At && (a.V == b.V && true)) && eqP l m
  | _, _ => true
theorem eqP_cons {a b : Knot} {l m : List Knot} : eqP (a :: l) (b :: m) = ((a.At == b.At && (a.V == b.V && true)) && eqP l m) := rfl
theorem eqP_nil {m : List Knot} : eqP [] m = true := rfl
theorem eqP_nil2 {m : List Knot} : eqP m [] = true := by cases m <;> rfl
theorem eqP_self : ∀ l : List Knot, eqP l l = true
  | [] => rfl
  | a :: l => by rw [eqP_cons, eqP_self l]; simp
noncomputable def sameB (a b : List Knot) : Bool := eqP a b && ((a.length : Int) == (b.length : Int))
theorem sameB_self (l : List Knot) : sameB l l = true := by unfold sameB; rw [eqP_self]; simp
noncomputable def o29 (i : Int) (a b : List Knot) : Tree (Ex × List (V T)) := .req ((0 ≤ i ∧ i ≤ a.length ∧ i ≤ b.length) ∧ a.length ≤ 1000 ∧ b.length ≤ 1000) (.br (eqP (a.drop i.toNat) (b.drop i.toNat)) (.leaf (.exit 0, [.l 78 a, .l 78 b])) (.leaf (.ret, [.t false])))
noncomputable def c29 : LoopC T := ⟨[.n, .l 78, .l 78], ⟨38, [(2, .one (.o 0 0)), (3, .one (.o 1 0)), (5, .one (.i .i64))], [.c [.s 78], .c [.s 78]]⟩, fun e => match e with
    | .ret => ⟨38, [(4, .one .b)], []⟩
    | _ => ⟨38, [(2, .one (.o 0 0)), (3, .one (.o 1 0))], [.c [.s 78], .c [.s 78]]⟩, 10, fun d => o29 d.1 d.2.1 d.2.2.1⟩
theorem b29 (i : Int) (a b : List Knot) : bodyD Try.prog E c29 0 (bodyX Try.prog E ctV noLoops 1000 5 L0 (lpOf Try.prog 29 0)) (i, a, b, ()) =
  (.br (decide (i < (↑(List.length a) : Int)))
   (.br (decide (i < (↑(List.length b) : Int)))
    (.req ((decide ((0 : Int) ≤ i) && decide (i < (↑(List.length a) : Int))) = true)
    (.req ((decide ((0 : Int) ≤ i) && decide (i < (↑(List.length b) : Int))) = true)
    (.br (!(Knot.At (kn a i) == Knot.At (kn b i) && (Knot.V (kn a i) == Knot.V (kn b i) && true)))
     (.leaf (.inr (.ret, [.t (false)])))
     (.leaf (.inl (IntKind.wrap IntKind.i64 (i + (1 : Int)), (a, (b, ()))))))))
    (.leaf (.inr (.exit (0 : Nat), [.l (78 : Nat) (a), .l (78 : Nat) (b)]))))
   (.leaf (.inr (.exit (0 : Nat), [.l (78 : Nat) (a), .l (78 : Nat) (b)])))) := by kernel_rfl
theorem h29' (i : Nat) (a b : List Knot) (K : Ex × List (V T) → Prop) (ha : a.length ≤ 1000) (hb : b.length ≤ 1000) (hK : (Tree.br (eqP (a.drop i) (b.drop i)) (.leaf (.exit 0, [.l 78 a, .l 78 b])) (.leaf (.ret, [.t false])) : Tree (Ex × List (V T))).holds K) :
    (bodyD Try.prog E c29 0 (bodyX Try.prog E ctV noLoops 1000 5 L0 (lpOf Try.prog 29 0)) ((i : Int), a, b, ())).holds fun y => match y with
    | .inl d' => ((d'.2.1.length : Int) - d'.1).toNat < ((a.length : Int) - (i : Int)).toNat ∧ (c29.out d').holds K
    | .inr y => K y := by
  rw [b29]
  refine way (fun c => way (fun c2 => wayC (by omega) c fun _ _ => wayC (by omega) c2 fun _ _ => ?_) fun c2 => ?_) fun c => ?_
  · have e2 : IntKind.wrap IntKind.i64 ((i : Int) + 1) = ((i + 1 : Nat) : Int) := i64_in' (by omega) (by omega)
    rw [e2]
    rw [drop_kn (by omega), drop_kn (l := b) (by omega), eqP_cons] at hK
    have hlt : ((a.length : Int) - ((i + 1 : Nat) : Int)).toNat < ((a.length : Int) - (i : Int)).toNat := by omega
    have h3 : (0 : Int) ≤ ((i + 1 : Nat) : Int) := by omega
    have h4 : ((i + 1 : Nat) : Int) ≤ a.length := by omega
    have h5 : ((i + 1 : Nat) : Int) ≤ b.length := by omega
    generalize ((kn a i).At == (kn b i).At && ((kn a i).V == (kn b i).V && true)) = q at hK ⊢
    cases q with
    | true =>
      rw [Bool.true_and] at hK
      exact ⟨fun h => (by cases h), fun _ => ⟨hlt, ⟨⟨h3, h4, h5⟩, ha, hb⟩, hK⟩⟩
    | false => exact ⟨fun _ => hK.2 rfl, fun h => (by cases h)⟩
  · rw [show b.drop i = [] from List.drop_eq_nil_of_le (by omega), eqP_nil2] at hK
    exact hK.1 rfl
  · rw [show a.drop i = [] from List.drop_eq_nil_of_le (by omega), eqP_nil] at hK
    exact hK.1 rfl
theorem h29 : LoopH Try.prog E c29 0 (bodyX Try.prog E ctV noLoops 1000 5 L0 (lpOf Try.prog 29 0)) :=
  ⟨fun d => ((d.2.1.length : Int) - d.1).toNat, fun d K hK => by
    obtain ⟨i, a, b, ⟨⟩⟩ := d
    obtain ⟨⟨⟨k1, k2, k3⟩, k4, k5⟩, k6⟩ := hK
    obtain ⟨m, hm⟩ := Int.eq_ofNat_of_zero_le k1
    obtain rfl : i = (m : Int) := hm
    refine Tree.holds_mono (fun y hy => ?_) (h29' m a b K k4 k5 k6)
    cases y with
    | inl d' => exact hy
    | inr y => exact hy⟩
theorem ll29 : LLOk Try.prog E (llOf Try.prog E 29 [(2, c29)]) := llOf_ok fun i hi c hc => by
  have hi : i < 1 := hi
  obtain rfl : i = 0 := by omega
  obtain rfl : c29 = c := Option.some.inj hc
  exact LSnd.mk good names mixes ctV_ok (by decide) h29
theorem tv29 (a b : List Knot) : runX ctV (llOf Try.prog E 29 [(2, c29)]) 29 [(⟨a⟩ : Line).av, (⟨b⟩ : Line).av] [4] =
  (.req (((0 : Int) ≤ (0 : Int) ∧ (0 : Int) ≤ (↑(List.length a) : Int) ∧ (0 : Int) ≤ (↑(List.length b) : Int)) ∧ List.length a ≤ (1000 : Nat) ∧ List.length b ≤ (1000 : Nat))
  (.br (eqP (List.drop (Int.toNat (0 : Int)) a) (List.drop (Int.toNat (0 : Int)) b))
   (.leaf (.bool ((↑(List.length a) : Int) == (↑(List.length b) : Int))))
   (.leaf (.bool (false))))) := by kernel_rfl
theorem s29 (a b : List Knot) (h : a.length ≤ 1000 ∧ b.length ≤ 1000) : (runX ctV (llOf Try.prog E 29 [(2, c29)]) 29 [(⟨a⟩ : Line).av, (⟨b⟩ : Line).av] [4]).holds fun v => v = .bool (sameB a b) := by
  rw [tv29]
  refine ⟨⟨⟨by decide, by omega, by omega⟩, h.1, h.2⟩, wayB (fun k => ?_) fun k => ?_⟩
  · have k : eqP a b = true := k
    show AV.bool _ = _
    unfold sameB
    rw [k, Bool.true_and]
  · have k : eqP a b = false := k
    show AV.bool _ = _
    unfold sameB
    rw [k, Bool.false_and]
noncomputable def cSame : Con T := conP Try.prog [.agg [.s 78], .agg [.s 78]] [.l 78, .l 78] (fun d => (d.1 : List Knot).length ≤ 1000 ∧ (d.2.1 : List Knot).length ≤ 1000) fun d => .bool (sameB d.1 d.2.1)
theorem same_ok : ConOk Try.prog E 29 cSame := conP_ok fun d hd => fact_run ctV_ok ll29 (ts := [4]) rfl (s29 d.1 d.2.1 hd)
/-! ### The program: places of both lines -/
noncomputable def covB (a b : List Knot) : List Int → Bool
  | [] => true
  | z :: l => decide (valHi b z ≤ valLo a z) && covB a b l
theorem covB_cons {a b : List Knot} {z : Int} {l : List Int} : covB a b (z :: l) = (decide (valHi b z ≤ valLo a z) && covB a b l) := rfl
theorem covB_nil {a b : List Knot} : covB a b [] = true := rfl
noncomputable def o69i (ls : List Line) (x y n i : Int) (xs : List Int) (m j : Int) (a b : List Knot) : Tree (Ex × List (V T)) :=
  .req ((isR a ∧ isR b) ∧ m = xs.length ∧ 0 ≤ j ∧ xs.length ≤ 1000) (.br (covB a b (xs.drop j.toNat)) (.leaf (.exit 2, [.l 24 ls, .n x, .n y, .n n, .n i, .l 78 a, .l 78 b])) (.leaf (.ret, [.t false])))
noncomputable def c69i : LoopC T := ⟨[.l 24, .n, .n, .n, .n, .l 2, .n, .n, .l 78, .l 78], ⟨41, [(2, .one (.i .i64)), (3, .one (.i .i64)), (4, .one (.o 0 0)), (5, .one (.o 1 0)), (15, .one (.g 2 24)), (16, .one (.i .i64)), (17, .one (.i .i64)), (24, .one (.s 2)), (25, .one (.i .i64)), (26, .one (.i .i64))], [.c [.s 78], .c [.s 78], .l 24]⟩, fun e => match e with
    | .ret => ⟨41, [(8, .one .b)], []⟩
    | _ => ⟨41, [(2, .one (.i .i64)), (3, .one (.i .i64)), (4, .one (.o 0 0)), (5, .one (.o 1 0)), (15, .one (.g 2 24)), (16, .one (.i .i64)), (17, .one (.i .i64))], [.c [.s 78], .c [.s 78], .l 24]⟩, 10, fun d => o69i d.1 d.2.1 d.2.2.1 d.2.2.2.1 d.2.2.2.2.1 d.2.2.2.2.2.1 d.2.2.2.2.2.2.1 d.2.2.2.2.2.2.2.1 d.2.2.2.2.2.2.2.2.1 d.2.2.2.2.2.2.2.2.2.1⟩
theorem b69i (ls : List Line) (x y n i : Int) (xs : List Int) (m j : Int) (a b : List Knot) : bodyD Try.prog E c69i 0 (bodyX Try.prog E ctP noLoops 1000 5 L0 (lpOf Try.prog 69 1)) (ls, x, y, n, i, xs, m, j, a, b, ()) =
  (.br (decide (j < m))
   (.req ((decide ((0 : Int) ≤ j) && decide (j < (↑(List.length xs) : Int))) = true)
   (.req (isR a)
   (.req (isR b)
   (.br (decide (valLo a (ki xs j) < valHi b (ki xs j)))
    (.leaf (.inr (.ret, [.t (false)])))
    (.req (List.length ls = List.length ls)
    (.leaf (.inl (ls, (x, (y, (n, (i, (xs, (m, (IntKind.wrap IntKind.i64 (j + (1 : Int)), (a, (b, ())))))))))))))))))
   (.req (List.length ls = List.length ls)
   (.leaf (.inr (.exit (2 : Nat), [.l (24 : Nat) (ls), .n (x), .n (y), .n (n), .n (i), .l (78 : Nat) (a), .l (78 : Nat) (b)]))))) := by kernel_rfl
theorem h69i' (ls : List Line) (x y n i : Int) (xs : List Int) (j : Nat) (a b : List Knot) (K : Ex × List (V T) → Prop) (h1 : isR a) (h2 : isR b) (hl : xs.length ≤ 1000) (hK : (Tree.br (covB a b (xs.drop j)) (.leaf (.exit 2, [.l 24 ls, .n x, .n y, .n n, .n i, .l 78 a, .l 78 b])) (.leaf (.ret, [.t false])) : Tree (Ex × List (V T))).holds K) :
    (bodyD Try.prog E c69i 0 (bodyX Try.prog E ctP noLoops 1000 5 L0 (lpOf Try.prog 69 1)) (ls, x, y, n, i, xs, (xs.length : Int), (j : Int), a, b, ())).holds fun y => match y with
    | .inl d' => ((d'.2.2.2.2.2.1.length : Int) - d'.2.2.2.2.2.2.2.1).toNat < ((xs.length : Int) - (j : Int)).toNat ∧ (c69i.out d').holds K
    | .inr y => K y := by
  rw [b69i]
  refine way (fun c => wayC (by omega) c fun _ _ => ⟨h1, h2, ?_⟩) fun c => ?_
  · rw [drop_ki (by omega), covB_cons] at hK
    refine way (fun k => ?_) fun k => ?_
    · rw [decide_eq_false (by omega), Bool.false_and] at hK
      exact hK.2 rfl
    · rw [decide_eq_true (by omega), Bool.true_and] at hK
      have e2 : IntKind.wrap IntKind.i64 ((j : Int) + 1) = ((j + 1 : Nat) : Int) := i64_in' (by omega) (by omega)
      rw [e2]
      have hlt : ((xs.length : Int) - ((j + 1 : Nat) : Int)).toNat < ((xs.length : Int) - (j : Int)).toNat := by omega
      have h3 : (0 : Int) ≤ ((j + 1 : Nat) : Int) := by omega
      exact ⟨rfl, hlt, ⟨⟨h1, h2⟩, rfl, h3, hl⟩, hK⟩
  · rw [List.drop_eq_nil_of_le (by omega), covB_nil] at hK
    exact ⟨rfl, hK.1 rfl⟩
theorem h69i : LoopH Try.prog E c69i 0 (bodyX Try.prog E ctP noLoops 1000 5 L0 (lpOf Try.prog 69 1)) :=
  ⟨fun d => ((d.2.2.2.2.2.1.length : Int) - d.2.2.2.2.2.2.2.1).toNat, fun d K hK => by
    obtain ⟨ls, x, y, n, i, xs, m, j, a, b, ⟨⟩⟩ := d
    obtain ⟨⟨⟨k1, k2⟩, k3, k4, k5⟩, k6⟩ := hK
    obtain ⟨q, hq⟩ := Int.eq_ofNat_of_zero_le k4
    obtain rfl : j = (q : Int) := hq
    obtain rfl : m = ((xs : List Int).length : Int) := k3
    refine Tree.holds_mono (fun y hy => ?_) (h69i' ls x y n i xs q a b K k1 k2 k5 k6)
    cases y with
    | inl d' => exact hy
    | inr y => exact hy⟩
theorem snd69i : LSnd Try.prog E (lpOf Try.prog 69 1) c69i := LSnd.mk good names mixes ctP_ok (by decide) h69i
noncomputable def cov2 (a b : List Knot) (x y i : Int) : Bool := (decide (1 ≤ i) || covB a b (x :: y :: plc a x y)) && (decide (2 ≤ i) || covB a b (x :: y :: plc b x y))
noncomputable def o69 (ls : List Line) (x y n i : Int) (a b : List Knot) : Tree (Ex × List (V T)) :=
  .req ((isR a ∧ isR b) ∧ ls = [⟨a⟩, ⟨b⟩] ∧ n = 2 ∧ 0 ≤ i ∧ i ≤ 2) (.br (cov2 a b x y i) (.leaf (.exit 0, [])) (.leaf (.ret, [.t false])))
noncomputable def c69 : LoopC T := ⟨[.l 24, .n, .n, .n, .n, .l 78, .l 78], ⟨41, [(2, .one (.i .i64)), (3, .one (.i .i64)), (4, .one (.o 0 0)), (5, .one (.o 1 0)), (15, .one (.g 2 24)), (16, .one (.i .i64)), (17, .one (.i .i64))], [.c [.s 78], .c [.s 78], .l 24]⟩, fun e => match e with
    | .ret => ⟨41, [(8, .one .b)], []⟩
    | _ => ⟨41, [], []⟩, 40, fun d => o69 d.1 d.2.1 d.2.2.1 d.2.2.2.1 d.2.2.2.2.1 d.2.2.2.2.2.1 d.2.2.2.2.2.2.1⟩
theorem b69 (ls : List Line) (x y n i : Int) (a b : List Knot) : bodyD Try.prog E c69 0 (bodyX Try.prog E ctP noLoops 1000 5 (tabL Try.prog E [(5, c69i)]) (lpOf Try.prog 69 0)) (ls, x, y, n, i, a, b, ()) =
  (.br (decide (i < n))
   (.req ((decide ((0 : Int) ≤ i) && decide (i < (↑(List.length ls) : Int))) = true)
   (.req ((decide ((0 : Int) ≤ i) && decide (i < (↑(List.length ls) : Int))) = true)
   (.req (List.length (Line.Knots (li ls i)) ≤ (900 : Nat))
   (.req (List.length ls = List.length ls)
   (.req ((isR a ∧ isR b) ∧ (↑(List.length (x :: y :: plc (Line.Knots (li ls i)) x y)) : Int) = (↑(List.length (x :: y :: plc (Line.Knots (li ls i)) x y)) : Int) ∧ (0 : Int) ≤ (0 : Int) ∧ List.length (x :: y :: plc (Line.Knots (li ls i)) x y) ≤ (1000 : Nat))
   (.br (covB a b (List.drop (Int.toNat (0 : Int)) (x :: y :: plc (Line.Knots (li ls i)) x y)))
    (.req (List.length ls = List.length ls)
    (.leaf (.inl (ls, (x, (y, (n, (IntKind.wrap IntKind.i64 (i + (1 : Int)), (a, (b, ()))))))))))
    (.leaf (.inr (.ret, [.t (false)])))))))))
   (.leaf (.inr (.exit (0 : Nat), [])))) := by kernel_rfl
theorem h69' (ls : List Line) (x y n : Int) (i : Int) (a b : List Knot) (K : Ex × List (V T) → Prop) (hls : ls = [⟨a⟩, ⟨b⟩]) (hn : n = 2) (h1 : isR a) (h2 : isR b) (hi : 0 ≤ i ∧ i ≤ 2) (hK : (Tree.br (cov2 a b x y i) (.leaf (.exit 0, [])) (.leaf (.ret, [.t false])) : Tree (Ex × List (V T))).holds K) :
    (bodyD Try.prog E c69 0 (bodyX Try.prog E ctP noLoops 1000 5 (tabL Try.prog E [(5, c69i)]) (lpOf Try.prog 69 0)) (ls, x, y, n, i, a, b, ())).holds fun y => match y with
    | .inl d' => ((2 : Int) - d'.2.2.2.2.1).toNat < ((2 : Int) - i).toNat ∧ (c69.out d').holds K
    | .inr y => K y := by
  rw [b69]
  subst hls; subst hn
  have la := lenLeast h1
  have lb := lenLeast h2
  have pa := plc_len (l := a) (x := x) (y := y)
  have pb := plc_len (l := b) (x := x) (y := y)
  refine way (fun c => ?_) fun c => ?_
  · have e2 : IntKind.wrap IntKind.i64 (i + 1) = i + 1 := i64_in' (by omega) (by omega)
    rw [e2]
    have hlt : ((2 : Int) - (i + 1)).toNat < ((2 : Int) - i).toNat := by omega
    have h3 : (0 : Int) ≤ i + 1 := by omega
    have h4 : i + 1 ≤ 2 := by omega
    have : i = 0 ∨ i = 1 := by omega
    rcases this with rfl | rfl
    · have e : cov2 a b x y 0 = (covB a b (x :: y :: plc a x y) && cov2 a b x y 1) := by
        unfold cov2
        rw [decide_eq_false (show ¬ (1 : Int) ≤ 0 by decide), decide_eq_false (show ¬ (2 : Int) ≤ 0 by decide), decide_eq_true (show (1 : Int) ≤ 1 by decide), decide_eq_false (show ¬ (2 : Int) ≤ 1 by decide)]
        simp
      rw [e] at hK
      refine ⟨by simp, by simp, (show a.length ≤ 900 by omega), rfl, ⟨⟨h1, h2⟩, rfl, by decide, ?_⟩, wayB (fun k => ?_) fun k => ?_⟩
      · show (x :: y :: plc a x y).length ≤ 1000
        simp only [List.length_cons]; omega
      · have k : covB a b (x :: y :: plc a x y) = true := k
        rw [k, Bool.true_and] at hK
        exact ⟨rfl, hlt, ⟨⟨h1, h2⟩, rfl, rfl, h3, h4⟩, hK⟩
      · have k : covB a b (x :: y :: plc a x y) = false := k
        rw [k, Bool.false_and] at hK
        exact hK.2 rfl
    · have e : cov2 a b x y 1 = (covB a b (x :: y :: plc b x y) && cov2 a b x y 2) := by
        unfold cov2
        rw [decide_eq_true (show (1 : Int) ≤ 1 by decide), decide_eq_false (show ¬ (2 : Int) ≤ 1 by decide), decide_eq_true (show (1 : Int) ≤ 2 by decide), decide_eq_true (show (2 : Int) ≤ 2 by decide)]
        simp
      rw [e] at hK
      refine ⟨by simp, by simp, (show b.length ≤ 900 by omega), rfl, ⟨⟨h1, h2⟩, rfl, by decide, ?_⟩, wayB (fun k => ?_) fun k => ?_⟩
      · show (x :: y :: plc b x y).length ≤ 1000
        simp only [List.length_cons]; omega
      · have k : covB a b (x :: y :: plc b x y) = true := k
        rw [k, Bool.true_and] at hK
        exact ⟨rfl, hlt, ⟨⟨h1, h2⟩, rfl, rfl, h3, h4⟩, hK⟩
      · have k : covB a b (x :: y :: plc b x y) = false := k
        rw [k, Bool.false_and] at hK
        exact hK.2 rfl
  · have : i = 2 := by omega
    subst this
    have e : cov2 a b x y 2 = true := by
      unfold cov2
      rw [decide_eq_true (show (1 : Int) ≤ 2 by decide), decide_eq_true (show (2 : Int) ≤ 2 by decide)]
      simp
    exact hK.1 e
theorem h69 : LoopH Try.prog E c69 0 (bodyX Try.prog E ctP noLoops 1000 5 (tabL Try.prog E [(5, c69i)]) (lpOf Try.prog 69 0)) :=
  ⟨fun d => ((2 : Int) - d.2.2.2.2.1).toNat, fun d K hK => by
    obtain ⟨ls, x, y, n, i, a, b, ⟨⟩⟩ := d
    obtain ⟨⟨⟨k1, k2⟩, k3, k4, k5⟩, k6⟩ := hK
    refine Tree.holds_mono (fun y hy => ?_) (h69' ls x y n i a b K k3 k4 k1 k2 k5 k6)
    cases y with
    | inl d' => exact hy
    | inr y => exact hy⟩
theorem in69 : ∀ b' ∈ loopsIn (lpOf Try.prog 69 0), ∀ c', lkL (keyOfC b') [(5, c69i)] = some c' → LSnd Try.prog E b' c' := by
  intro b' hb' c' hc'
  have e : loopsIn (lpOf Try.prog 69 0) = [lpOf Try.prog 69 1] := by kernel_rfl
  rw [e] at hb'
  obtain rfl := List.mem_singleton.1 hb'
  obtain rfl : c69i = c' := Option.some.inj hc'
  exact snd69i
theorem ll69 : LLOk Try.prog E (llOf Try.prog E 69 [(2, c69), (5, c69i)]) := llOf_ok fun i hi c hc => by
  have hi : i < 2 := hi
  have : i = 0 ∨ i = 1 := by omega
  rcases this with rfl | rfl
  · obtain rfl : c69 = c := Option.some.inj hc
    exact LSnd.mk2 good names mixes ctP_ok (by decide) in69 h69
  · obtain rfl : c69i = c := Option.some.inj hc
    exact snd69i
theorem tv69 (a b : List Knot) (x y : Int) : runX ctP (llOf Try.prog E 69 [(2, c69), (5, c69i)]) 69 [(⟨a⟩ : Line).av, (⟨b⟩ : Line).av, i64 x, i64 y] [4] =
  (.req ((isR a ∧ isR b) ∧ [Line.mk a, Line.mk b] = [Line.mk a, Line.mk b] ∧ (2 : Int) = (2 : Int) ∧ (0 : Int) ≤ (0 : Int) ∧ (0 : Int) ≤ (2 : Int))
  (.br (cov2 a b x y (0 : Int))
   (.leaf (.bool (true)))
   (.leaf (.bool (false))))) := by kernel_rfl
@[reducible] noncomputable def covV (a b : List Knot) (x y : Int) : Bool := cov2 a b x y 0
theorem s69 (a b : List Knot) (x y : Int) (h : isR a ∧ isR b) : (runX ctP (llOf Try.prog E 69 [(2, c69), (5, c69i)]) 69 [(⟨a⟩ : Line).av, (⟨b⟩ : Line).av, i64 x, i64 y] [4]).holds fun v => v = .bool (covV a b x y) := by
  rw [tv69]
  exact ⟨⟨h, rfl, rfl, by decide, by decide⟩, wayB (fun k => congrArg AV.bool k.symm) fun k => congrArg AV.bool k.symm⟩
noncomputable def cCov : Con T := conP Try.prog [.agg [.s 78], .agg [.s 78], .one (.i .i64), .one (.i .i64)] [.l 78, .l 78, .n, .n] (fun d => isR d.1 ∧ isR d.2.1) fun d => .bool (covV d.1 d.2.1 d.2.2.1 d.2.2.2.1)
theorem cov_ok : ConOk Try.prog E 69 cCov := conP_ok fun d hd => fact_run ctP_ok ll69 (ts := [4]) rfl (s69 d.1 d.2.1 d.2.2.1 d.2.2.2.1 hd)
/-! ### The reference: knots of both lines -/
noncomputable def ab1 (a b : List Knot) : List Knot → Bool
  | [] => true
  | k :: l => decide (valHi b k.At ≤ k.V) && ab1 a b l
noncomputable def ab2 (a b : List Knot) : List Knot → Bool
  | [] => true
  | k :: l => decide (k.V ≤ valLo a k.At) && ab2 a b l
theorem ab1_cons {a b : List Knot} {k : Knot} {l : List Knot} : ab1 a b (k :: l) = (decide (valHi b k.At ≤ k.V) && ab1 a b l) := rfl
theorem ab2_cons {a b : List Knot} {k : Knot} {l : List Knot} : ab2 a b (k :: l) = (decide (k.V ≤ valLo a k.At) && ab2 a b l) := rfl
noncomputable def o70a (i : Int) (a b : List Knot) : Tree (Ex × List (V T)) := .req ((isR a ∧ isR b) ∧ 0 ≤ i) (.br (ab1 a b (a.drop i.toNat)) (.leaf (.exit 0, [.l 78 a, .l 78 b])) (.leaf (.ret, [.t false])))
noncomputable def c70a : LoopC T := ⟨[.n, .l 78, .l 78], ⟨53, [(2, .one (.o 0 0)), (3, .one (.o 1 0)), (5, .one (.i .i64))], [.c [.s 78], .c [.s 78]]⟩, fun e => match e with
    | .ret => ⟨53, [(4, .one .b)], []⟩
    | _ => ⟨53, [(2, .one (.o 0 0)), (3, .one (.o 1 0))], [.c [.s 78], .c [.s 78]]⟩, 10, fun d => o70a d.1 d.2.1 d.2.2.1⟩
noncomputable def o70b (i : Int) (a b : List Knot) : Tree (Ex × List (V T)) := .req ((isR a ∧ isR b) ∧ 0 ≤ i) (.br (ab2 a b (b.drop i.toNat)) (.leaf (.exit 2, [])) (.leaf (.ret, [.t false])))
noncomputable def c70b : LoopC T := ⟨[.n, .l 78, .l 78], ⟨53, [(2, .one (.o 0 0)), (3, .one (.o 1 0)), (6, .one (.i .i64))], [.c [.s 78], .c [.s 78]]⟩, fun e => match e with
    | .ret => ⟨53, [(4, .one .b)], []⟩
    | _ => ⟨53, [], []⟩, 10, fun d => o70b d.1 d.2.1 d.2.2.1⟩
theorem b70a (i : Int) (a b : List Knot) : bodyD Try.prog E c70a 0 (bodyX Try.prog E ctV noLoops 1000 5 L0 (lpOf Try.prog 70 0)) (i, a, b, ()) =
  (.br (decide (i < (↑(List.length a) : Int)))
   (.req ((decide ((0 : Int) ≤ i) && decide (i < (↑(List.length a) : Int))) = true)
   (.req ((decide ((0 : Int) ≤ i) && decide (i < (↑(List.length a) : Int))) = true)
   (.req (isR b)
   (.br (decide (Knot.V (kn a i) < valHi b (Knot.At (kn a i))))
    (.leaf (.inr (.ret, [.t (false)])))
    (.leaf (.inl (IntKind.wrap IntKind.i64 (i + (1 : Int)), (a, (b, ())))))))))
   (.leaf (.inr (.exit (0 : Nat), [.l (78 : Nat) (a), .l (78 : Nat) (b)])))) := by kernel_rfl
theorem b70b (i : Int) (a b : List Knot) : bodyD Try.prog E c70b 0 (bodyX Try.prog E ctV noLoops 1000 5 L0 (lpOf Try.prog 70 1)) (i, a, b, ()) =
  (.br (decide (i < (↑(List.length b) : Int)))
   (.req ((decide ((0 : Int) ≤ i) && decide (i < (↑(List.length b) : Int))) = true)
   (.req (isR a)
   (.req ((decide ((0 : Int) ≤ i) && decide (i < (↑(List.length b) : Int))) = true)
   (.br (decide (valLo a (Knot.At (kn b i)) < Knot.V (kn b i)))
    (.leaf (.inr (.ret, [.t (false)])))
    (.leaf (.inl (IntKind.wrap IntKind.i64 (i + (1 : Int)), (a, (b, ())))))))))
   (.leaf (.inr (.exit (2 : Nat), [])))) := by kernel_rfl
theorem h70a' (i : Nat) (a b : List Knot) (K : Ex × List (V T) → Prop) (h1 : isR a) (h2 : isR b) (hK : (Tree.br (ab1 a b (a.drop i)) (.leaf (.exit 0, [.l 78 a, .l 78 b])) (.leaf (.ret, [.t false])) : Tree (Ex × List (V T))).holds K) :
    (bodyD Try.prog E c70a 0 (bodyX Try.prog E ctV noLoops 1000 5 L0 (lpOf Try.prog 70 0)) ((i : Int), a, b, ())).holds fun y => match y with
    | .inl d' => ((d'.2.1.length : Int) - d'.1).toNat < ((a.length : Int) - (i : Int)).toNat ∧ (c70a.out d').holds K
    | .inr y => K y := by
  rw [b70a]
  have la := lenLeast h1
  refine way (fun c => wayC (by omega) c fun _ _ => wayC (by omega) c fun _ _ => ⟨h2, ?_⟩) fun c => ?_
  · rw [drop_kn (by omega), ab1_cons] at hK
    refine way (fun k => ?_) fun k => ?_
    · rw [decide_eq_false (by omega), Bool.false_and] at hK
      exact hK.2 rfl
    · rw [decide_eq_true (by omega), Bool.true_and] at hK
      have e2 : IntKind.wrap IntKind.i64 ((i : Int) + 1) = ((i + 1 : Nat) : Int) := i64_in' (by omega) (by omega)
      rw [e2]
      have hlt : ((a.length : Int) - ((i + 1 : Nat) : Int)).toNat < ((a.length : Int) - (i : Int)).toNat := by omega
      have h3 : (0 : Int) ≤ ((i + 1 : Nat) : Int) := by omega
      exact ⟨hlt, ⟨⟨h1, h2⟩, h3⟩, hK⟩
  · rw [List.drop_eq_nil_of_le (by omega)] at hK
    exact hK.1 rfl
theorem h70b' (i : Nat) (a b : List Knot) (K : Ex × List (V T) → Prop) (h1 : isR a) (h2 : isR b) (hK : (Tree.br (ab2 a b (b.drop i)) (.leaf (.exit 2, [])) (.leaf (.ret, [.t false])) : Tree (Ex × List (V T))).holds K) :
    (bodyD Try.prog E c70b 0 (bodyX Try.prog E ctV noLoops 1000 5 L0 (lpOf Try.prog 70 1)) ((i : Int), a, b, ())).holds fun y => match y with
    | .inl d' => ((d'.2.2.1.length : Int) - d'.1).toNat < ((b.length : Int) - (i : Int)).toNat ∧ (c70b.out d').holds K
    | .inr y => K y := by
  rw [b70b]
  have lb := lenLeast h2
  refine way (fun c => wayC (by omega) c fun _ _ => ⟨h1, wayC (by omega) c fun _ _ => ?_⟩) fun c => ?_
  · rw [drop_kn (l := b) (by omega), ab2_cons] at hK
    refine way (fun k => ?_) fun k => ?_
    · rw [decide_eq_false (by omega), Bool.false_and] at hK
      exact hK.2 rfl
    · rw [decide_eq_true (by omega), Bool.true_and] at hK
      have e2 : IntKind.wrap IntKind.i64 ((i : Int) + 1) = ((i + 1 : Nat) : Int) := i64_in' (by omega) (by omega)
      rw [e2]
      have hlt : ((b.length : Int) - ((i + 1 : Nat) : Int)).toNat < ((b.length : Int) - (i : Int)).toNat := by omega
      have h3 : (0 : Int) ≤ ((i + 1 : Nat) : Int) := by omega
      exact ⟨hlt, ⟨⟨h1, h2⟩, h3⟩, hK⟩
  · rw [List.drop_eq_nil_of_le (by omega)] at hK
    exact hK.1 rfl
theorem h70a : LoopH Try.prog E c70a 0 (bodyX Try.prog E ctV noLoops 1000 5 L0 (lpOf Try.prog 70 0)) :=
  ⟨fun d => ((d.2.1.length : Int) - d.1).toNat, fun d K hK => by
    obtain ⟨i, a, b, ⟨⟩⟩ := d
    obtain ⟨⟨⟨k1, k2⟩, k3⟩, k4⟩ := hK
    obtain ⟨m, hm⟩ := Int.eq_ofNat_of_zero_le k3
    obtain rfl : i = (m : Int) := hm
    refine Tree.holds_mono (fun y hy => ?_) (h70a' m a b K k1 k2 k4)
    cases y with
    | inl d' => exact hy
    | inr y => exact hy⟩
theorem h70b : LoopH Try.prog E c70b 0 (bodyX Try.prog E ctV noLoops 1000 5 L0 (lpOf Try.prog 70 1)) :=
  ⟨fun d => ((d.2.2.1.length : Int) - d.1).toNat, fun d K hK => by
    obtain ⟨i, a, b, ⟨⟩⟩ := d
    obtain ⟨⟨⟨k1, k2⟩, k3⟩, k4⟩ := hK
    obtain ⟨m, hm⟩ := Int.eq_ofNat_of_zero_le k3
    obtain rfl : i = (m : Int) := hm
    refine Tree.holds_mono (fun y hy => ?_) (h70b' m a b K k1 k2 k4)
    cases y with
    | inl d' => exact hy
    | inr y => exact hy⟩
theorem ll70 : LLOk Try.prog E (llOf Try.prog E 70 [(2, c70a), (7, c70b)]) := llOf_ok fun i hi c hc => by
  have hi : i < 2 := hi
  have : i = 0 ∨ i = 1 := by omega
  rcases this with rfl | rfl
  · obtain rfl : c70a = c := Option.some.inj hc
    exact LSnd.mk good names mixes ctV_ok (by decide) h70a
  · obtain rfl : c70b = c := Option.some.inj hc
    exact LSnd.mk good names mixes ctV_ok (by decide) h70b
theorem tv70 (a b : List Knot) : runX ctV (llOf Try.prog E 70 [(2, c70a), (7, c70b)]) 70 [(⟨a⟩ : Line).av, (⟨b⟩ : Line).av] [4] =
  (.req ((isR a ∧ isR b) ∧ (0 : Int) ≤ (0 : Int))
  (.br (ab1 a b (List.drop (Int.toNat (0 : Int)) a))
   (.req ((isR a ∧ isR b) ∧ (0 : Int) ≤ (0 : Int))
   (.br (ab2 a b (List.drop (Int.toNat (0 : Int)) b))
    (.leaf (.bool (true)))
    (.leaf (.bool (false)))))
   (.leaf (.bool (false))))) := by kernel_rfl
noncomputable def abB (a b : List Knot) : Bool := ab1 a b a && ab2 a b b
theorem s70 (a b : List Knot) (h : isR a ∧ isR b) : (runX ctV (llOf Try.prog E 70 [(2, c70a), (7, c70b)]) 70 [(⟨a⟩ : Line).av, (⟨b⟩ : Line).av] [4]).holds fun v => v = .bool (abB a b) := by
  rw [tv70]
  refine ⟨⟨h, by decide⟩, wayB (fun k => ⟨⟨h, by decide⟩, wayB (fun k2 => ?_) fun k2 => ?_⟩) fun k => ?_⟩
  · have k : ab1 a b a = true := k
    have k2 : ab2 a b b = true := k2
    show AV.bool true = _
    unfold abB; rw [k, k2]; rfl
  · have k : ab1 a b a = true := k
    have k2 : ab2 a b b = false := k2
    show AV.bool false = _
    unfold abB; rw [k, k2]; rfl
  · have k : ab1 a b a = false := k
    show AV.bool false = _
    unfold abB; rw [k]; rfl
noncomputable def cAb : Con T := conP Try.prog [.agg [.s 78], .agg [.s 78]] [.l 78, .l 78] (fun d => isR d.1 ∧ isR d.2.1) fun d => .bool (abB d.1 d.2.1)
theorem ab_ok : ConOk Try.prog E 70 cAb := conP_ok fun d hd => fact_run ctV_ok ll70 (ts := [4]) rfl (s70 d.1 d.2.1 hd)
/-! ### Both are the same -/
theorem covB_iff {a b : List Knot} : ∀ {l : List Int}, covB a b l = true ↔ ∀ z ∈ l, valHi b z ≤ valLo a z
  | [] => by simp [covB_nil]
  | z :: l => by rw [covB_cons, Bool.and_eq_true, covB_iff]; simp
theorem ab1_iff {a b : List Knot} : ∀ {l : List Knot}, ab1 a b l = true ↔ ∀ k ∈ l, valHi b k.At ≤ k.V
  | [] => by simp [ab1]
  | z :: l => by rw [ab1_cons, Bool.and_eq_true, ab1_iff]; simp
theorem ab2_iff {a b : List Knot} : ∀ {l : List Knot}, ab2 a b l = true ↔ ∀ k ∈ l, k.V ≤ valLo a k.At
  | [] => by simp [ab2]
  | z :: l => by rw [ab2_cons, Bool.and_eq_true, ab2_iff]; simp
theorem mem_kn {l : List Knot} {k : Knot} (h : k ∈ l) : ∃ i : Nat, i < l.length ∧ kn l i = k := by
  obtain ⟨i, hi, e⟩ := List.getElem_of_mem h
  exact ⟨i, hi, by rw [kn_get hi, e]⟩
theorem kn_mem {l : List Knot} {i : Nat} (h : i < l.length) : kn l i ∈ l := by rw [kn_get h]; exact List.getElem_mem h
theorem mem_plc {l : List Knot} {x y z : Int} : z ∈ plc l x y ↔ ∃ k ∈ l, (x ≤ k.At ∧ k.At ≤ y) ∧ k.At = z := by
  unfold plc
  simp only [List.mem_map, List.mem_filter, decide_eq_true_eq]
  exact ⟨fun ⟨k, ⟨h1, h2⟩, h3⟩ => ⟨k, h1, h2, h3⟩, fun ⟨k, h1, h2, h3⟩ => ⟨k, ⟨h1, h2⟩, h3⟩⟩
theorem cov_ab {a b : List Knot} (ha : isR a) (hb : isR b) : covV a b 0 1099511627776 = abB a b := by
  obtain ⟨aa, av, A⟩ := isR_rt ha
  obtain ⟨ba, bv, B⟩ := isR_rt hb
  have A0 := A.good.pos
  have B0 := B.good.pos
  have all : ∀ {l : List Knot} {c v : Int}, Rt l c v → ∀ k ∈ l, 0 ≤ k.At ∧ k.At ≤ 1099511627776 := fun R k hk => by
    obtain ⟨i, hi, rfl⟩ := mem_kn hk
    have := R.good.bd i hi
    have := R.a1
    omega
  have kv : ∀ {l : List Knot} {c v : Int}, Rt l c v → ∀ k ∈ l, valLo l k.At = k.V ∧ valHi l k.At = k.V := fun R k hk => by
    obtain ⟨i, hi, rfl⟩ := mem_kn hk
    exact val_knot R.good hi
  rw [Bool.eq_iff_iff]
  unfold covV cov2 abB
  rw [decide_eq_false (show ¬ (1 : Int) ≤ 0 by decide), decide_eq_false (show ¬ (2 : Int) ≤ 0 by decide), Bool.false_or, Bool.false_or, Bool.and_eq_true, Bool.and_eq_true, covB_iff, covB_iff, ab1_iff, ab2_iff]
  constructor
  · rintro ⟨h1, h2⟩
    refine ⟨fun k hk => ?_, fun k hk => ?_⟩
    · have := h1 k.At (List.mem_cons_of_mem _ (List.mem_cons_of_mem _ (mem_plc.2 ⟨k, hk, all A k hk, rfl⟩)))
      rw [(kv A k hk).1] at this
      exact this
    · have := h2 k.At (List.mem_cons_of_mem _ (List.mem_cons_of_mem _ (mem_plc.2 ⟨k, hk, all B k hk, rfl⟩)))
      rw [(kv B k hk).2] at this
      exact this
  · rintro ⟨h1, h2⟩
    have z0 : valHi b 0 ≤ valLo a 0 := by
      have a0 := kn_mem A0
      have b0 := kn_mem B0
      have p := all A _ a0
      have q := all B _ b0
      rw [Int.natCast_zero] at a0 b0 p q
      rw [(val_first (l := a) p.1).1, (val_first (l := b) q.1).2]
      rcases Int.le_total (kn a 0).At (kn b 0).At with h | h
      · have := h1 _ a0
        rw [(val_first (l := b) h).2] at this
        exact this
      · have := h2 _ b0
        rw [(val_first (l := a) h).1] at this
        exact this
    have z1 : valHi b 1099511627776 ≤ valLo a 1099511627776 := by
      have a0 := kn_mem (l := a) (i := a.length - 1) (by omega)
      have b0 := kn_mem (l := b) (i := b.length - 1) (by omega)
      have p := all A _ a0
      have q := all B _ b0
      rw [show ((a.length - 1 : Nat) : Int) = (a.length : Int) - 1 by omega] at a0 p
      rw [show ((b.length - 1 : Nat) : Int) = (b.length : Int) - 1 by omega] at b0 q
      rw [(val_last A.good p.2).1, (val_last B.good q.2).2]
      rcases Int.le_total (kn b ((b.length : Int) - 1)).At (kn a ((a.length : Int) - 1)).At with h | h
      · have := h1 _ a0
        rw [(val_last B.good h).2] at this
        exact this
      · have := h2 _ b0
        rw [(val_last A.good h).1] at this
        exact this
    refine ⟨fun z hz => ?_, fun z hz => ?_⟩
    · rcases List.mem_cons.1 hz with rfl | hz
      · exact z0
      rcases List.mem_cons.1 hz with rfl | hz
      · exact z1
      obtain ⟨k, hk, _, rfl⟩ := mem_plc.1 hz
      rw [(kv A k hk).1]
      exact h1 k hk
    · rcases List.mem_cons.1 hz with rfl | hz
      · exact z0
      rcases List.mem_cons.1 hz with rfl | hz
      · exact z1
      obtain ⟨k, hk, _, rfl⟩ := mem_plc.1 hz
      rw [(kv B k hk).2]
      exact h2 k hk
noncomputable abbrev ctA : CTab T := (69, cCov) :: (70, cAb) :: ctP
theorem ctA_ok : CTabOk Try.prog E ctA := .cons cov_ok (.cons ab_ok ctP_ok)
noncomputable def above (a b : List Knot) : Bool := decide (isR a ∧ isR b) && abB a b
theorem tv27 (a b : List Knot) : runX ctA noLoops 27 [(⟨a⟩ : Line).av, (⟨b⟩ : Line).av] [4] =
  (.br (decide (isR a))
   (.br (decide (isR b))
    (.req (isR a ∧ isR b)
    (.leaf (.bool (covV a b (0 : Int) (1099511627776 : Int)))))
    (.leaf (.bool (false))))
   (.leaf (.bool (false)))) := by kernel_rfl
theorem tv28 (a b : List Knot) : runX ctA noLoops 28 [(⟨a⟩ : Line).av, (⟨b⟩ : Line).av] [4] =
  (.br (decide (isR a))
   (.br (decide (isR b))
    (.req (isR a ∧ isR b)
    (.leaf (.bool (abB a b))))
    (.leaf (.bool (false))))
   (.leaf (.bool (false)))) := by kernel_rfl
theorem s27 (a b : List Knot) : (runX ctA noLoops 27 [(⟨a⟩ : Line).av, (⟨b⟩ : Line).av] [4]).holds fun v => v = .bool (above a b) := by
  rw [tv27]
  refine way (fun h1 => way (fun h2 => ⟨⟨h1, h2⟩, ?_⟩) fun h2 => ?_) fun h1 => ?_
  · show AV.bool _ = _
    unfold above
    rw [cov_ab h1 h2, decide_eq_true ⟨h1, h2⟩, Bool.true_and]
  · show AV.bool _ = _
    unfold above
    rw [decide_eq_false fun k => h2 k.2, Bool.false_and]
  · show AV.bool _ = _
    unfold above
    rw [decide_eq_false fun k => h1 k.1, Bool.false_and]
theorem s28 (a b : List Knot) : (runX ctA noLoops 28 [(⟨a⟩ : Line).av, (⟨b⟩ : Line).av] [4]).holds fun v => v = .bool (above a b) := by
  rw [tv28]
  refine way (fun h1 => way (fun h2 => ⟨⟨h1, h2⟩, ?_⟩) fun h2 => ?_) fun h1 => ?_
  · show AV.bool _ = _
    unfold above
    rw [decide_eq_true ⟨h1, h2⟩, Bool.true_and]
  · show AV.bool _ = _
    unfold above
    rw [decide_eq_false fun k => h2 k.2, Bool.false_and]
  · show AV.bool _ = _
    unfold above
    rw [decide_eq_false fun k => h1 k.1, Bool.false_and]
noncomputable def cAbove : Con T := conV Try.prog [.agg [.s 78], .agg [.s 78]] [.l 78, .l 78] fun d => .bool (above d.1 d.2.1)
theorem above_ok : ConOk Try.prog E 27 cAbove := conV_ok fun d => fact_run ctA_ok noLoops_ok (ts := [4]) rfl (s27 d.1 d.2.1)
theorem above2_ok : ConOk Try.prog E 28 cAbove := conV_ok fun d => fact_run ctA_ok noLoops_ok (ts := [4]) rfl (s28 d.1 d.2.1)
end Go.Proofs.Ytdlholmphenhhaa.W
