/- The least and the greatest values of a part of a line. No condition. -/
import Derived.Test.YtdlholmphenhhaaV3
set_option linter.unusedVariables false
set_option maxRecDepth 100000
noncomputable section
namespace Go.Proofs.Ytdlholmphenhhaa.W
open Go Go.Cx Go.RowKit
noncomputable abbrev ctP : CTab T := (67, cInn) :: (95, cPlc) :: ctV
theorem ctP_ok : CTabOk Try.prog E ctP := .cons inn_ok (.cons plc_ok ctV_ok)
noncomputable def mn (a b : Int) : Int := if b < a then b else a
noncomputable def mx (a b : Int) : Int := if b > a then b else a
theorem fact_run3 {ct : CTab T} (hc : CTabOk Try.prog E ct) {ll : Nat → Nat → LoopTab T} (hl : LLOk Try.prog E ll) {f : Nat} {xs : List (AV T)} {ts : List Nat} {v : AV T} (ha : xs.all flt3 = true)
    (h : (runX ct ll f xs ts).holds fun x => x = v) : Fact Try.prog E f xs v :=
  fact_of_run3 good decOk (callX_ok good names mixes hc hl 8) ha h
/-- What is made of the values at places, one behind the other. -/
noncomputable def fd (pk : Int → Int → Int) (f : Int → Int) (a : Int) : List Int → Int
  | [] => a
  | x :: l => fd pk f (pk a (f x)) l
theorem fd_cons {pk : Int → Int → Int} {f : Int → Int} {a x : Int} {l : List Int} : fd pk f a (x :: l) = fd pk f (pk a (f x)) l := rfl
theorem fd_nil {pk : Int → Int → Int} {f : Int → Int} {a : Int} : fd pk f a [] = a := rfl
/-- Places at the ends add nothing. -/
theorem fd_eq {pk : Int → Int → Int} {f : Int → Int} (hp : ∀ a b c, pk a c = a → pk (pk a b) c = pk a b) {x y : Int} : ∀ (l : List Knot) (a : Int), pk a (f x) = a → pk a (f y) = a → fd pk f a (plc l x y) = fd pk f a (inn l x y)
  | [], _, _, _ => rfl
  | k :: l, a, h1, h2 => by
    rw [plc_cons, inn_cons]
    by_cases c1 : x < k.At ∧ k.At < y
    · rw [if_pos (by omega), if_pos c1, fd_cons, fd_cons]
      exact fd_eq hp l _ (hp _ _ _ h1) (hp _ _ _ h2)
    · rw [if_neg c1]
      by_cases c2 : x ≤ k.At ∧ k.At ≤ y
      · rw [if_pos c2, fd_cons]
        have : k.At = x ∨ k.At = y := by omega
        rcases this with e | e
        · rw [e, h1]; exact fd_eq hp l a h1 h2
        · rw [e, h2]; exact fd_eq hp l a h1 h2
      · rw [if_neg c2]
        exact fd_eq hp l a h1 h2
theorem mn_ab (a b c : Int) (h : mn a c = a) : mn (mn a b) c = mn a b := by
  unfold mn at *
  repeat' split
  all_goals (repeat' split at h) <;> omega
theorem mx_ab (a b c : Int) (h : mx a c = a) : mx (mx a b) c = mx a b := by
  unfold mx at *
  repeat' split
  all_goals (repeat' split at h) <;> omega
theorem mn_self (a : Int) : mn a a = a := by unfold mn; split <;> rfl
theorem mx_self (a : Int) : mx a a = a := by unfold mx; split <;> rfl
theorem mn_r (a b : Int) : mn (mn a b) b = mn a b := by unfold mn; repeat' split
                                                        all_goals omega
theorem mx_r (a b : Int) : mx (mx a b) b = mx a b := by unfold mx; repeat' split
                                                        all_goals omega

/-! ### Least -/
noncomputable def o94Least (l : List Knot) (xs : List Int) (n i a0 a1 q0 q1 : Int) : Tree (Ex × List (V T)) :=
  .req ((isR l ∧ n = xs.length) ∧ 0 ≤ i ∧ xs.length ≤ 1000) (.leaf (.exit 0, [.n (fd mn (valLo l) a0 (xs.drop i.toNat)), .n (fd mn (valHi l) a1 (xs.drop i.toNat)), .n q0, .n q1]))
noncomputable def c94Least : LoopC T := ⟨[.l 78, .l 2, .n, .n, .n, .n, .n, .n], ⟨21, [(2, .fn 96 [.r [.s 78], .r [.f 66]]), (4, .one (.o 0 0)), (6, .one (.o 1 0)), (9, .one (.s 2)), (10, .one (.i .i64)), (11, .one (.i .i64))], [.c [.i .i64, .i .i64], .c [.i .i64, .i .i64]]⟩,
  fun _ => ⟨21, [(4, .one (.o 0 0)), (6, .one (.o 1 0))], [.c [.i .i64, .i .i64], .c [.i .i64, .i .i64]]⟩, 10, fun d => o94Least d.1 d.2.1 d.2.2.1 d.2.2.2.1 d.2.2.2.2.1 d.2.2.2.2.2.1 d.2.2.2.2.2.2.1 d.2.2.2.2.2.2.2.1⟩
theorem b94Least (l : List Knot) (xs : List Int) (n i a0 a1 q0 q1 : Int) : bodyD Try.prog E c94Least 0 (bodyX Try.prog E ctP noLoops 1000 5 L0 (lpOf Try.prog 94 0)) (l, xs, n, i, a0, a1, q0, q1, ()) =
  (.br (decide (i < n))
   (.req ((decide ((0 : Int) ≤ i) && decide (i < (↑(List.length xs) : Int))) = true)
   (.req (isR l)
   (.leaf (.inl (l, (xs, (n, (IntKind.wrap IntKind.i64 (i + (1 : Int)), (bif false then if valLo l (ki xs i) > a0 then valLo l (ki xs i) else a0 else if valLo l (ki xs i) < a0 then valLo l (ki xs i) else a0, (bif false then if valHi l (ki xs i) > a1 then valHi l (ki xs i) else a1 else if valHi l (ki xs i) < a1 then valHi l (ki xs i) else a1, (q0, (q1, ()))))))))))))
   (.leaf (.inr (.exit (0 : Nat), [.n (a0), .n (a1), .n (q0), .n (q1)])))) := by kernel_rfl
theorem h94Least' (l : List Knot) (xs : List Int) (i : Nat) (a0 a1 q0 q1 : Int) (K : Ex × List (V T) → Prop) (hr : isR l) (hl : xs.length ≤ 1000) (hK : K (.exit 0, [.n (fd mn (valLo l) a0 (xs.drop i)), .n (fd mn (valHi l) a1 (xs.drop i)), .n q0, .n q1])) :
    (bodyD Try.prog E c94Least 0 (bodyX Try.prog E ctP noLoops 1000 5 L0 (lpOf Try.prog 94 0)) (l, xs, (xs.length : Int), (i : Int), a0, a1, q0, q1, ())).holds fun y => match y with
    | .inl d' => ((d'.2.1.length : Int) - d'.2.2.2.1).toNat < ((xs.length : Int) - (i : Int)).toNat ∧ (c94Least.out d').holds K
    | .inr y => K y := by
  rw [b94Least]
  refine way (fun c => ?_) fun c => ?_
  · have e2 : IntKind.wrap IntKind.i64 ((i : Int) + 1) = ((i + 1 : Nat) : Int) := i64_in' (by omega) (by omega)
    rw [e2]
    rw [drop_ki (by omega), fd_cons, fd_cons] at hK
    have hlt : ((xs.length : Int) - ((i + 1 : Nat) : Int)).toNat < ((xs.length : Int) - (i : Int)).toNat := by omega
    have h3 : (0 : Int) ≤ ((i + 1 : Nat) : Int) := by omega
    exact wayC (by omega) c fun _ _ => ⟨hr, hlt, ⟨⟨hr, rfl⟩, h3, hl⟩, hK⟩
  · rw [List.drop_eq_nil_of_le (by omega), fd_nil, fd_nil] at hK
    exact hK
theorem h94Least : LoopH Try.prog E c94Least 0 (bodyX Try.prog E ctP noLoops 1000 5 L0 (lpOf Try.prog 94 0)) :=
  ⟨fun d => ((d.2.1.length : Int) - d.2.2.2.1).toNat, fun d K hK => by
    obtain ⟨l, xs, n, i, a0, a1, q0, q1, ⟨⟩⟩ := d
    obtain ⟨⟨⟨k1, k2⟩, k3, k4⟩, k5⟩ := hK
    obtain ⟨m, hm⟩ := Int.eq_ofNat_of_zero_le k3
    obtain rfl : i = (m : Int) := hm
    obtain rfl : n = ((xs : List Int).length : Int) := k2
    refine Tree.holds_mono (fun y hy => ?_) (h94Least' l xs m a0 a1 q0 q1 K k1 k4 k5)
    cases y with
    | inl d' => exact hy
    | inr y => exact hy⟩
theorem ll94Least : LLOk Try.prog E (llOf Try.prog E 94 [(2, c94Least)]) := llOf_ok fun i hi c hc => by
  have hi : i < 1 := hi
  obtain rfl : i = 0 := by omega
  obtain rfl : c94Least = c := Option.some.inj hc
  exact LSnd.mk good names mixes ctP_ok (by decide) h94Least
theorem tv94Least (l : List Knot) (xs : List Int) (a0 a1 : Int) : runX ctP (llOf Try.prog E 94 [(2, c94Least)]) 94 [.sl 2 xs false, .agg [i64 a0, i64 a1], .fn 96 [.rp [.sl 78 l false], .rp [.fn 66 []]]] [32] =
  (.req ((isR l ∧ (↑(List.length xs) : Int) = (↑(List.length xs) : Int)) ∧ (0 : Int) ≤ (0 : Int) ∧ List.length xs ≤ (1000 : Nat))
  (.leaf (.agg [.sym .i64 (fd mn (valLo l) a0 (List.drop (Int.toNat (0 : Int)) xs)), .sym .i64 (fd mn (valHi l) a1 (List.drop (Int.toNat (0 : Int)) xs))]))) := by kernel_rfl
theorem s94Least (l : List Knot) (xs : List Int) (a0 a1 : Int) (h : isR l ∧ xs.length ≤ 1000) : (runX ctP (llOf Try.prog E 94 [(2, c94Least)]) 94 [.sl 2 xs false, .agg [i64 a0, i64 a1], .fn 96 [.rp [.sl 78 l false], .rp [.fn 66 []]]] [32]).holds fun v => v = .agg [i64 (fd mn (valLo l) a0 xs), i64 (fd mn (valHi l) a1 xs)] := by
  rw [tv94Least]
  exact ⟨⟨⟨h.1, rfl⟩, by decide, h.2⟩, rfl⟩
noncomputable def cFoldLeast : Con T := conFP Try.prog E [46, 32, 107] [.one (.s 2), .agg [.i .i64, .i .i64], .fn 96 [.r [.s 78], .r [.f 66]]] [.l 2, .n, .n, .l 78] (fun d => isR d.2.2.2.1 ∧ (d.1 : List Int).length ≤ 1000) fun d => .agg [i64 (fd mn (valLo d.2.2.2.1) d.2.1 d.1), i64 (fd mn (valHi d.2.2.2.1) d.2.2.1 d.1)]
theorem okFoldLeast : ConOk Try.prog E 94 cFoldLeast := conFP_ok good decOk fun d hd => fact_run3 ctP_ok ll94Least (ts := [32]) rfl (s94Least d.2.2.2.1 d.1 d.2.1 d.2.2.1 hd)
noncomputable abbrev ctQLeast : CTab T := (94, cFoldLeast) :: ctP
theorem ctQLeast_ok : CTabOk Try.prog E ctQLeast := .cons okFoldLeast ctP_ok
noncomputable def o24Least (xs : List Int) (i : Int) (l : List Knot) (q0 q1 a0 a1 : Int) : Tree (Ex × List (V T)) :=
  .req (isR l ∧ 0 ≤ i ∧ xs.length ≤ 1000) (.leaf (.exit 0, [.n q0, .n q1, .n (fd mn (valLo l) a0 (xs.drop i.toNat)), .n (fd mn (valHi l) a1 (xs.drop i.toNat))]))
noncomputable def c24Least : LoopC T := ⟨[.l 2, .n, .l 78, .n, .n, .n, .n], ⟨51, [(3, .one (.o 0 0)), (6, .one (.o 1 0)), (7, .one (.o 2 0)), (8, .one (.s 2)), (9, .one (.i .i64))], [.c [.s 78], .c [.i .i64, .i .i64], .c [.i .i64, .i .i64]]⟩,
  fun _ => ⟨51, [(6, .one (.o 0 0)), (7, .one (.o 1 0))], [.c [.i .i64, .i .i64], .c [.i .i64, .i .i64]]⟩, 10, fun d => o24Least d.1 d.2.1 d.2.2.1 d.2.2.2.1 d.2.2.2.2.1 d.2.2.2.2.2.1 d.2.2.2.2.2.2.1⟩
theorem b24Least (xs : List Int) (i : Int) (l : List Knot) (q0 q1 a0 a1 : Int) : bodyD Try.prog E c24Least 0 (bodyX Try.prog E ctP noLoops 1000 5 L0 (lpOf Try.prog 24 0)) (xs, i, l, q0, q1, a0, a1, ()) =
  (.br (decide (i < (↑(List.length xs) : Int)))
   (.req ((decide ((0 : Int) ≤ i) && decide (i < (↑(List.length xs) : Int))) = true)
   (.req (isR l)
   (.leaf (.inl (xs, (IntKind.wrap IntKind.i64 (i + (1 : Int)), (l, (q0, (q1, (bif false then if valLo l (ki xs i) > a0 then valLo l (ki xs i) else a0 else if valLo l (ki xs i) < a0 then valLo l (ki xs i) else a0, (bif false then if valHi l (ki xs i) > a1 then valHi l (ki xs i) else a1 else if valHi l (ki xs i) < a1 then valHi l (ki xs i) else a1, ())))))))))))
   (.leaf (.inr (.exit (0 : Nat), [.n (q0), .n (q1), .n (a0), .n (a1)])))) := by kernel_rfl
theorem h24Least' (xs : List Int) (i : Nat) (l : List Knot) (q0 q1 a0 a1 : Int) (K : Ex × List (V T) → Prop) (hr : isR l) (hl : xs.length ≤ 1000) (hK : K (.exit 0, [.n q0, .n q1, .n (fd mn (valLo l) a0 (xs.drop i)), .n (fd mn (valHi l) a1 (xs.drop i))])) :
    (bodyD Try.prog E c24Least 0 (bodyX Try.prog E ctP noLoops 1000 5 L0 (lpOf Try.prog 24 0)) (xs, (i : Int), l, q0, q1, a0, a1, ())).holds fun y => match y with
    | .inl d' => ((d'.1.length : Int) - d'.2.1).toNat < ((xs.length : Int) - (i : Int)).toNat ∧ (c24Least.out d').holds K
    | .inr y => K y := by
  rw [b24Least]
  refine way (fun c => ?_) fun c => ?_
  · have e2 : IntKind.wrap IntKind.i64 ((i : Int) + 1) = ((i + 1 : Nat) : Int) := i64_in' (by omega) (by omega)
    rw [e2]
    rw [drop_ki (by omega), fd_cons, fd_cons] at hK
    have hlt : ((xs.length : Int) - ((i + 1 : Nat) : Int)).toNat < ((xs.length : Int) - (i : Int)).toNat := by omega
    have h3 : (0 : Int) ≤ ((i + 1 : Nat) : Int) := by omega
    exact wayC (by omega) c fun _ _ => ⟨hr, hlt, ⟨hr, h3, hl⟩, hK⟩
  · rw [List.drop_eq_nil_of_le (by omega), fd_nil, fd_nil] at hK
    exact hK
theorem h24Least : LoopH Try.prog E c24Least 0 (bodyX Try.prog E ctP noLoops 1000 5 L0 (lpOf Try.prog 24 0)) :=
  ⟨fun d => ((d.1.length : Int) - d.2.1).toNat, fun d K hK => by
    obtain ⟨xs, i, l, q0, q1, a0, a1, ⟨⟩⟩ := d
    obtain ⟨⟨k1, k3, k4⟩, k5⟩ := hK
    obtain ⟨m, hm⟩ := Int.eq_ofNat_of_zero_le k3
    obtain rfl : i = (m : Int) := hm
    refine Tree.holds_mono (fun y hy => ?_) (h24Least' xs m l q0 q1 a0 a1 K k1 k4 k5)
    cases y with
    | inl d' => exact hy
    | inr y => exact hy⟩
theorem ll24Least : LLOk Try.prog E (llOf Try.prog E 24 [(6, c24Least)]) := llOf_ok fun i hi c hc => by
  have hi : i < 1 := hi
  obtain rfl : i = 0 := by omega
  obtain rfl : c24Least = c := Option.some.inj hc
  exact LSnd.mk good names mixes ctP_ok (by decide) h24Least
noncomputable def exLeastLo (l : List Knot) (x y : Int) : Int := if isR l ∧ x ≤ y then fd mn (valLo l) (valLo l x) (x :: y :: inn l x y) else 0
noncomputable def exLeastHi (l : List Knot) (x y : Int) : Int := if isR l ∧ x ≤ y then fd mn (valHi l) (valHi l x) (x :: y :: inn l x y) else 0
@[reducible] noncomputable def rgLeast (l : List Knot) (x y : Int) : AV T := .agg [i64 (exLeastLo l x y), i64 (exLeastHi l x y)]
theorem tv23Least (l : List Knot) (x y : Int) : runX ctQLeast noLoops 23 [(⟨l⟩ : Line).av, i64 x, i64 y] [32] =
  (.br (!decide (isR l))
   (.leaf (.agg [.sym .i64 ((0 : Int)), .sym .i64 ((0 : Int))]))
   (.br (decide (x > y))
    (.leaf (.agg [.sym .i64 ((0 : Int)), .sym .i64 ((0 : Int))]))
    (.req (List.length l ≤ (900 : Nat))
    (.req (isR l)
    (.req (isR l ∧ List.length (x :: y :: plc l x y) ≤ (1000 : Nat))
    (.leaf (.agg [.sym .i64 (fd mn (valLo l) (valLo l x) (x :: y :: plc l x y)), .sym .i64 (fd mn (valHi l) (valHi l x) (x :: y :: plc l x y))]))))))) := by kernel_rfl
theorem tv24Least (l : List Knot) (x y : Int) : runX ctP (llOf Try.prog E 24 [(6, c24Least)]) 24 [(⟨l⟩ : Line).av, i64 x, i64 y] [32] =
  (.br (!decide (isR l))
   (.leaf (.agg [.sym .i64 ((0 : Int)), .sym .i64 ((0 : Int))]))
   (.br (decide (x > y))
    (.leaf (.agg [.sym .i64 ((0 : Int)), .sym .i64 ((0 : Int))]))
    (.req (isR l)
    (.req (List.length l ≤ (900 : Nat))
    (.req (isR l ∧ (0 : Int) ≤ (0 : Int) ∧ List.length (x :: y :: inn l x y) ≤ (1000 : Nat))
    (.leaf (.agg [.sym .i64 (fd mn (valLo l) (valLo l x) (List.drop (Int.toNat (0 : Int)) (x :: y :: inn l x y))), .sym .i64 (fd mn (valHi l) (valHi l x) (List.drop (Int.toNat (0 : Int)) (x :: y :: inn l x y)))]))))))) := by kernel_rfl
theorem rgLeast_out {l : List Knot} {x y : Int} (h : ¬ (isR l ∧ x ≤ y)) : AV.agg [i64 0, i64 0] = rgLeast l x y := by
  unfold rgLeast exLeastLo exLeastHi
  rw [if_neg h, if_neg h]
theorem rgLeast_in {l : List Knot} {x y a b : Int} (h : isR l ∧ x ≤ y) (h1 : a = fd mn (valLo l) (valLo l x) (x :: y :: inn l x y)) (h2 : b = fd mn (valHi l) (valHi l x) (x :: y :: inn l x y)) : AV.agg [i64 a, i64 b] = rgLeast l x y := by
  unfold rgLeast exLeastLo exLeastHi
  rw [if_pos h, if_pos h, h1, h2]
theorem lenLeast {l : List Knot} (h : isR l) : l.length ≤ 24 := by
  obtain ⟨a, v, R⟩ := isR_rt h
  exact R.good.len
theorem fdLeast (f : Int → Int) (l : List Knot) (x y : Int) : fd mn f (f x) (x :: y :: plc l x y) = fd mn f (f x) (x :: y :: inn l x y) := by
  rw [fd_cons, fd_cons, fd_cons, fd_cons]
  exact fd_eq mn_ab l _ (mn_ab _ _ _ (mn_r _ _)) (mn_r _ _)
theorem s23Least (l : List Knot) (x y : Int) : (runX ctQLeast noLoops 23 [(⟨l⟩ : Line).av, i64 x, i64 y] [32]).holds fun v => v = rgLeast l x y := by
  rw [tv23Least]
  refine wayN (fun h => rgLeast_out fun k => h k.1) fun h => way (fun h1 => rgLeast_out fun k => by omega) fun h1 => ?_
  have hl := lenLeast h
  have hp := plc_len (l := l) (x := x) (y := y)
  exact ⟨by omega, h, ⟨h, by simp only [List.length_cons]; omega⟩, rgLeast_in ⟨h, by omega⟩ (fdLeast _ _ _ _) (fdLeast _ _ _ _)⟩
theorem s24Least (l : List Knot) (x y : Int) : (runX ctP (llOf Try.prog E 24 [(6, c24Least)]) 24 [(⟨l⟩ : Line).av, i64 x, i64 y] [32]).holds fun v => v = rgLeast l x y := by
  rw [tv24Least]
  refine wayN (fun h => rgLeast_out fun k => h k.1) fun h => way (fun h1 => rgLeast_out fun k => by omega) fun h1 => ?_
  have hl := lenLeast h
  have hp := inn_len (l := l) (x := x) (y := y)
  exact ⟨h, by omega, ⟨h, by decide, by simp only [List.length_cons]; omega⟩, rgLeast_in ⟨h, by omega⟩ rfl rfl⟩
noncomputable def cLeast : Con T := conV Try.prog [.agg [.s 78], .one (.i .i64), .one (.i .i64)] [.l 78, .n, .n] fun d => rgLeast d.1 d.2.1 d.2.2.1
theorem okLeast : ConOk Try.prog E 23 cLeast := conV_ok fun d => fact_run ctQLeast_ok noLoops_ok (ts := [32]) rfl (s23Least d.1 d.2.1 d.2.2.1)
theorem ok2Least : ConOk Try.prog E 24 cLeast := conV_ok fun d => fact_run ctP_ok ll24Least (ts := [32]) rfl (s24Least d.1 d.2.1 d.2.2.1)

/-! ### Most -/
noncomputable def o94Most (l : List Knot) (xs : List Int) (n i a0 a1 q0 q1 : Int) : Tree (Ex × List (V T)) :=
  .req ((isR l ∧ n = xs.length) ∧ 0 ≤ i ∧ xs.length ≤ 1000) (.leaf (.exit 0, [.n (fd mx (valLo l) a0 (xs.drop i.toNat)), .n (fd mx (valHi l) a1 (xs.drop i.toNat)), .n q0, .n q1]))
noncomputable def c94Most : LoopC T := ⟨[.l 78, .l 2, .n, .n, .n, .n, .n, .n], ⟨21, [(2, .fn 96 [.r [.s 78], .r [.f 68]]), (4, .one (.o 0 0)), (6, .one (.o 1 0)), (9, .one (.s 2)), (10, .one (.i .i64)), (11, .one (.i .i64))], [.c [.i .i64, .i .i64], .c [.i .i64, .i .i64]]⟩,
  fun _ => ⟨21, [(4, .one (.o 0 0)), (6, .one (.o 1 0))], [.c [.i .i64, .i .i64], .c [.i .i64, .i .i64]]⟩, 10, fun d => o94Most d.1 d.2.1 d.2.2.1 d.2.2.2.1 d.2.2.2.2.1 d.2.2.2.2.2.1 d.2.2.2.2.2.2.1 d.2.2.2.2.2.2.2.1⟩
theorem b94Most (l : List Knot) (xs : List Int) (n i a0 a1 q0 q1 : Int) : bodyD Try.prog E c94Most 0 (bodyX Try.prog E ctP noLoops 1000 5 L0 (lpOf Try.prog 94 0)) (l, xs, n, i, a0, a1, q0, q1, ()) =
  (.br (decide (i < n))
   (.req ((decide ((0 : Int) ≤ i) && decide (i < (↑(List.length xs) : Int))) = true)
   (.req (isR l)
   (.leaf (.inl (l, (xs, (n, (IntKind.wrap IntKind.i64 (i + (1 : Int)), (bif true then if valLo l (ki xs i) > a0 then valLo l (ki xs i) else a0 else if valLo l (ki xs i) < a0 then valLo l (ki xs i) else a0, (bif true then if valHi l (ki xs i) > a1 then valHi l (ki xs i) else a1 else if valHi l (ki xs i) < a1 then valHi l (ki xs i) else a1, (q0, (q1, ()))))))))))))
   (.leaf (.inr (.exit (0 : Nat), [.n (a0), .n (a1), .n (q0), .n (q1)])))) := by kernel_rfl
theorem h94Most' (l : List Knot) (xs : List Int) (i : Nat) (a0 a1 q0 q1 : Int) (K : Ex × List (V T) → Prop) (hr : isR l) (hl : xs.length ≤ 1000) (hK : K (.exit 0, [.n (fd mx (valLo l) a0 (xs.drop i)), .n (fd mx (valHi l) a1 (xs.drop i)), .n q0, .n q1])) :
    (bodyD Try.prog E c94Most 0 (bodyX Try.prog E ctP noLoops 1000 5 L0 (lpOf Try.prog 94 0)) (l, xs, (xs.length : Int), (i : Int), a0, a1, q0, q1, ())).holds fun y => match y with
    | .inl d' => ((d'.2.1.length : Int) - d'.2.2.2.1).toNat < ((xs.length : Int) - (i : Int)).toNat ∧ (c94Most.out d').holds K
    | .inr y => K y := by
  rw [b94Most]
  refine way (fun c => ?_) fun c => ?_
  · have e2 : IntKind.wrap IntKind.i64 ((i : Int) + 1) = ((i + 1 : Nat) : Int) := i64_in' (by omega) (by omega)
    rw [e2]
    rw [drop_ki (by omega), fd_cons, fd_cons] at hK
    have hlt : ((xs.length : Int) - ((i + 1 : Nat) : Int)).toNat < ((xs.length : Int) - (i : Int)).toNat := by omega
    have h3 : (0 : Int) ≤ ((i + 1 : Nat) : Int) := by omega
    exact wayC (by omega) c fun _ _ => ⟨hr, hlt, ⟨⟨hr, rfl⟩, h3, hl⟩, hK⟩
  · rw [List.drop_eq_nil_of_le (by omega), fd_nil, fd_nil] at hK
    exact hK
theorem h94Most : LoopH Try.prog E c94Most 0 (bodyX Try.prog E ctP noLoops 1000 5 L0 (lpOf Try.prog 94 0)) :=
  ⟨fun d => ((d.2.1.length : Int) - d.2.2.2.1).toNat, fun d K hK => by
    obtain ⟨l, xs, n, i, a0, a1, q0, q1, ⟨⟩⟩ := d
    obtain ⟨⟨⟨k1, k2⟩, k3, k4⟩, k5⟩ := hK
    obtain ⟨m, hm⟩ := Int.eq_ofNat_of_zero_le k3
    obtain rfl : i = (m : Int) := hm
    obtain rfl : n = ((xs : List Int).length : Int) := k2
    refine Tree.holds_mono (fun y hy => ?_) (h94Most' l xs m a0 a1 q0 q1 K k1 k4 k5)
    cases y with
    | inl d' => exact hy
    | inr y => exact hy⟩
theorem ll94Most : LLOk Try.prog E (llOf Try.prog E 94 [(2, c94Most)]) := llOf_ok fun i hi c hc => by
  have hi : i < 1 := hi
  obtain rfl : i = 0 := by omega
  obtain rfl : c94Most = c := Option.some.inj hc
  exact LSnd.mk good names mixes ctP_ok (by decide) h94Most
theorem tv94Most (l : List Knot) (xs : List Int) (a0 a1 : Int) : runX ctP (llOf Try.prog E 94 [(2, c94Most)]) 94 [.sl 2 xs false, .agg [i64 a0, i64 a1], .fn 96 [.rp [.sl 78 l false], .rp [.fn 68 []]]] [32] =
  (.req ((isR l ∧ (↑(List.length xs) : Int) = (↑(List.length xs) : Int)) ∧ (0 : Int) ≤ (0 : Int) ∧ List.length xs ≤ (1000 : Nat))
  (.leaf (.agg [.sym .i64 (fd mx (valLo l) a0 (List.drop (Int.toNat (0 : Int)) xs)), .sym .i64 (fd mx (valHi l) a1 (List.drop (Int.toNat (0 : Int)) xs))]))) := by kernel_rfl
theorem s94Most (l : List Knot) (xs : List Int) (a0 a1 : Int) (h : isR l ∧ xs.length ≤ 1000) : (runX ctP (llOf Try.prog E 94 [(2, c94Most)]) 94 [.sl 2 xs false, .agg [i64 a0, i64 a1], .fn 96 [.rp [.sl 78 l false], .rp [.fn 68 []]]] [32]).holds fun v => v = .agg [i64 (fd mx (valLo l) a0 xs), i64 (fd mx (valHi l) a1 xs)] := by
  rw [tv94Most]
  exact ⟨⟨⟨h.1, rfl⟩, by decide, h.2⟩, rfl⟩
noncomputable def cFoldMost : Con T := conFP Try.prog E [46, 32, 107] [.one (.s 2), .agg [.i .i64, .i .i64], .fn 96 [.r [.s 78], .r [.f 68]]] [.l 2, .n, .n, .l 78] (fun d => isR d.2.2.2.1 ∧ (d.1 : List Int).length ≤ 1000) fun d => .agg [i64 (fd mx (valLo d.2.2.2.1) d.2.1 d.1), i64 (fd mx (valHi d.2.2.2.1) d.2.2.1 d.1)]
theorem okFoldMost : ConOk Try.prog E 94 cFoldMost := conFP_ok good decOk fun d hd => fact_run3 ctP_ok ll94Most (ts := [32]) rfl (s94Most d.2.2.2.1 d.1 d.2.1 d.2.2.1 hd)
noncomputable abbrev ctQMost : CTab T := (94, cFoldMost) :: ctP
theorem ctQMost_ok : CTabOk Try.prog E ctQMost := .cons okFoldMost ctP_ok
noncomputable def o24Most (xs : List Int) (i : Int) (l : List Knot) (q0 q1 a0 a1 : Int) : Tree (Ex × List (V T)) :=
  .req (isR l ∧ 0 ≤ i ∧ xs.length ≤ 1000) (.leaf (.exit 0, [.n q0, .n q1, .n (fd mx (valLo l) a0 (xs.drop i.toNat)), .n (fd mx (valHi l) a1 (xs.drop i.toNat))]))
noncomputable def c24Most : LoopC T := ⟨[.l 2, .n, .l 78, .n, .n, .n, .n], ⟨51, [(3, .one (.o 0 0)), (6, .one (.o 1 0)), (7, .one (.o 2 0)), (8, .one (.s 2)), (9, .one (.i .i64))], [.c [.s 78], .c [.i .i64, .i .i64], .c [.i .i64, .i .i64]]⟩,
  fun _ => ⟨51, [(6, .one (.o 0 0)), (7, .one (.o 1 0))], [.c [.i .i64, .i .i64], .c [.i .i64, .i .i64]]⟩, 10, fun d => o24Most d.1 d.2.1 d.2.2.1 d.2.2.2.1 d.2.2.2.2.1 d.2.2.2.2.2.1 d.2.2.2.2.2.2.1⟩
theorem b24Most (xs : List Int) (i : Int) (l : List Knot) (q0 q1 a0 a1 : Int) : bodyD Try.prog E c24Most 0 (bodyX Try.prog E ctP noLoops 1000 5 L0 (lpOf Try.prog 26 0)) (xs, i, l, q0, q1, a0, a1, ()) =
  (.br (decide (i < (↑(List.length xs) : Int)))
   (.req ((decide ((0 : Int) ≤ i) && decide (i < (↑(List.length xs) : Int))) = true)
   (.req (isR l)
   (.leaf (.inl (xs, (IntKind.wrap IntKind.i64 (i + (1 : Int)), (l, (q0, (q1, (bif true then if valLo l (ki xs i) > a0 then valLo l (ki xs i) else a0 else if valLo l (ki xs i) < a0 then valLo l (ki xs i) else a0, (bif true then if valHi l (ki xs i) > a1 then valHi l (ki xs i) else a1 else if valHi l (ki xs i) < a1 then valHi l (ki xs i) else a1, ())))))))))))
   (.leaf (.inr (.exit (0 : Nat), [.n (q0), .n (q1), .n (a0), .n (a1)])))) := by kernel_rfl
theorem h24Most' (xs : List Int) (i : Nat) (l : List Knot) (q0 q1 a0 a1 : Int) (K : Ex × List (V T) → Prop) (hr : isR l) (hl : xs.length ≤ 1000) (hK : K (.exit 0, [.n q0, .n q1, .n (fd mx (valLo l) a0 (xs.drop i)), .n (fd mx (valHi l) a1 (xs.drop i))])) :
    (bodyD Try.prog E c24Most 0 (bodyX Try.prog E ctP noLoops 1000 5 L0 (lpOf Try.prog 26 0)) (xs, (i : Int), l, q0, q1, a0, a1, ())).holds fun y => match y with
    | .inl d' => ((d'.1.length : Int) - d'.2.1).toNat < ((xs.length : Int) - (i : Int)).toNat ∧ (c24Most.out d').holds K
    | .inr y => K y := by
  rw [b24Most]
  refine way (fun c => ?_) fun c => ?_
  · have e2 : IntKind.wrap IntKind.i64 ((i : Int) + 1) = ((i + 1 : Nat) : Int) := i64_in' (by omega) (by omega)
    rw [e2]
    rw [drop_ki (by omega), fd_cons, fd_cons] at hK
    have hlt : ((xs.length : Int) - ((i + 1 : Nat) : Int)).toNat < ((xs.length : Int) - (i : Int)).toNat := by omega
    have h3 : (0 : Int) ≤ ((i + 1 : Nat) : Int) := by omega
    exact wayC (by omega) c fun _ _ => ⟨hr, hlt, ⟨hr, h3, hl⟩, hK⟩
  · rw [List.drop_eq_nil_of_le (by omega), fd_nil, fd_nil] at hK
    exact hK
theorem h24Most : LoopH Try.prog E c24Most 0 (bodyX Try.prog E ctP noLoops 1000 5 L0 (lpOf Try.prog 26 0)) :=
  ⟨fun d => ((d.1.length : Int) - d.2.1).toNat, fun d K hK => by
    obtain ⟨xs, i, l, q0, q1, a0, a1, ⟨⟩⟩ := d
    obtain ⟨⟨k1, k3, k4⟩, k5⟩ := hK
    obtain ⟨m, hm⟩ := Int.eq_ofNat_of_zero_le k3
    obtain rfl : i = (m : Int) := hm
    refine Tree.holds_mono (fun y hy => ?_) (h24Most' xs m l q0 q1 a0 a1 K k1 k4 k5)
    cases y with
    | inl d' => exact hy
    | inr y => exact hy⟩
theorem ll24Most : LLOk Try.prog E (llOf Try.prog E 26 [(6, c24Most)]) := llOf_ok fun i hi c hc => by
  have hi : i < 1 := hi
  obtain rfl : i = 0 := by omega
  obtain rfl : c24Most = c := Option.some.inj hc
  exact LSnd.mk good names mixes ctP_ok (by decide) h24Most
noncomputable def exMostLo (l : List Knot) (x y : Int) : Int := if isR l ∧ x ≤ y then fd mx (valLo l) (valLo l x) (x :: y :: inn l x y) else 0
noncomputable def exMostHi (l : List Knot) (x y : Int) : Int := if isR l ∧ x ≤ y then fd mx (valHi l) (valHi l x) (x :: y :: inn l x y) else 0
@[reducible] noncomputable def rgMost (l : List Knot) (x y : Int) : AV T := .agg [i64 (exMostLo l x y), i64 (exMostHi l x y)]
theorem tv23Most (l : List Knot) (x y : Int) : runX ctQMost noLoops 25 [(⟨l⟩ : Line).av, i64 x, i64 y] [32] =
  (.br (!decide (isR l))
   (.leaf (.agg [.sym .i64 ((0 : Int)), .sym .i64 ((0 : Int))]))
   (.br (decide (x > y))
    (.leaf (.agg [.sym .i64 ((0 : Int)), .sym .i64 ((0 : Int))]))
    (.req (List.length l ≤ (900 : Nat))
    (.req (isR l)
    (.req (isR l ∧ List.length (x :: y :: plc l x y) ≤ (1000 : Nat))
    (.leaf (.agg [.sym .i64 (fd mx (valLo l) (valLo l x) (x :: y :: plc l x y)), .sym .i64 (fd mx (valHi l) (valHi l x) (x :: y :: plc l x y))]))))))) := by kernel_rfl
theorem tv24Most (l : List Knot) (x y : Int) : runX ctP (llOf Try.prog E 26 [(6, c24Most)]) 26 [(⟨l⟩ : Line).av, i64 x, i64 y] [32] =
  (.br (!decide (isR l))
   (.leaf (.agg [.sym .i64 ((0 : Int)), .sym .i64 ((0 : Int))]))
   (.br (decide (x > y))
    (.leaf (.agg [.sym .i64 ((0 : Int)), .sym .i64 ((0 : Int))]))
    (.req (isR l)
    (.req (List.length l ≤ (900 : Nat))
    (.req (isR l ∧ (0 : Int) ≤ (0 : Int) ∧ List.length (x :: y :: inn l x y) ≤ (1000 : Nat))
    (.leaf (.agg [.sym .i64 (fd mx (valLo l) (valLo l x) (List.drop (Int.toNat (0 : Int)) (x :: y :: inn l x y))), .sym .i64 (fd mx (valHi l) (valHi l x) (List.drop (Int.toNat (0 : Int)) (x :: y :: inn l x y)))]))))))) := by kernel_rfl
theorem rgMost_out {l : List Knot} {x y : Int} (h : ¬ (isR l ∧ x ≤ y)) : AV.agg [i64 0, i64 0] = rgMost l x y := by
  unfold rgMost exMostLo exMostHi
  rw [if_neg h, if_neg h]
theorem rgMost_in {l : List Knot} {x y a b : Int} (h : isR l ∧ x ≤ y) (h1 : a = fd mx (valLo l) (valLo l x) (x :: y :: inn l x y)) (h2 : b = fd mx (valHi l) (valHi l x) (x :: y :: inn l x y)) : AV.agg [i64 a, i64 b] = rgMost l x y := by
  unfold rgMost exMostLo exMostHi
  rw [if_pos h, if_pos h, h1, h2]
theorem lenMost {l : List Knot} (h : isR l) : l.length ≤ 24 := by
  obtain ⟨a, v, R⟩ := isR_rt h
  exact R.good.len
theorem fdMost (f : Int → Int) (l : List Knot) (x y : Int) : fd mx f (f x) (x :: y :: plc l x y) = fd mx f (f x) (x :: y :: inn l x y) := by
  rw [fd_cons, fd_cons, fd_cons, fd_cons]
  exact fd_eq mx_ab l _ (mx_ab _ _ _ (mx_r _ _)) (mx_r _ _)
theorem s23Most (l : List Knot) (x y : Int) : (runX ctQMost noLoops 25 [(⟨l⟩ : Line).av, i64 x, i64 y] [32]).holds fun v => v = rgMost l x y := by
  rw [tv23Most]
  refine wayN (fun h => rgMost_out fun k => h k.1) fun h => way (fun h1 => rgMost_out fun k => by omega) fun h1 => ?_
  have hl := lenMost h
  have hp := plc_len (l := l) (x := x) (y := y)
  exact ⟨by omega, h, ⟨h, by simp only [List.length_cons]; omega⟩, rgMost_in ⟨h, by omega⟩ (fdMost _ _ _ _) (fdMost _ _ _ _)⟩
theorem s24Most (l : List Knot) (x y : Int) : (runX ctP (llOf Try.prog E 26 [(6, c24Most)]) 26 [(⟨l⟩ : Line).av, i64 x, i64 y] [32]).holds fun v => v = rgMost l x y := by
  rw [tv24Most]
  refine wayN (fun h => rgMost_out fun k => h k.1) fun h => way (fun h1 => rgMost_out fun k => by omega) fun h1 => ?_
  have hl := lenMost h
  have hp := inn_len (l := l) (x := x) (y := y)
  exact ⟨h, by omega, ⟨h, by decide, by simp only [List.length_cons]; omega⟩, rgMost_in ⟨h, by omega⟩ rfl rfl⟩
noncomputable def cMost : Con T := conV Try.prog [.agg [.s 78], .one (.i .i64), .one (.i .i64)] [.l 78, .n, .n] fun d => rgMost d.1 d.2.1 d.2.2.1
theorem okMost : ConOk Try.prog E 25 cMost := conV_ok fun d => fact_run ctQMost_ok noLoops_ok (ts := [32]) rfl (s23Most d.1 d.2.1 d.2.2.1)
theorem ok2Most : ConOk Try.prog E 26 cMost := conV_ok fun d => fact_run ctP_ok ll24Most (ts := [32]) rfl (s24Most d.1 d.2.1 d.2.2.1)
end Go.Proofs.Ytdlholmphenhhaa.W
