/- PipeChecks: checks, weights, joints. No condition. -/
import Derived.Test.YtkaiffdndhhfcaaB
set_option linter.unusedVariables false
set_option maxRecDepth 100000
set_option maxHeartbeats 4000000
noncomputable section
namespace Go.Proofs.Ytkaiffdndhhfcaa.W
open Go Go.Cx Go.RowKit
noncomputable def ctC : CTab T := (60, cLen) :: (62, cLen) :: ctB
theorem ctC_ok : CTabOk Try.prog E ctC := .cons len_ok (.cons len2_ok ctB_ok)
theorem all_cons {l : List Tube} {i : Nat} (h : (i : Int) < l.length) : (l.drop i).all tub = (tub (ti l i) && (l.drop (i + 1)).all tub) := by
  rw [drop_ti (by omega)]; rfl
theorem all_end {l : List Tube} {i : Nat} (h : ¬ (i : Int) < l.length) : (l.drop i).all tub = true := by
  rw [List.drop_eq_nil_of_le (by omega)]; rfl
noncomputable def o16 (l : List Tube) (n i : Int) (l' : List Tube) : Tree (Ex × List (V T)) := .req ((0 ≤ i ∧ n = l.length) ∧ l.length ≤ 8) (.br ((l.drop i.toNat).all tub) (.leaf (.exit 0, [.l 26 l'])) (.leaf (.ret, [.n 2])))
noncomputable def c16 : LoopC T := ⟨[.l 26, .n, .n, .l 26], ⟨27, [(1, .one (.o 0 0)), (14, .one (.s 26)), (15, .one (.i .i64)), (16, .one (.i .i64))], [.c [.s 26]]⟩, fun e => match e with
    | .ret => ⟨27, [(2, .one (.i .i64))], []⟩
    | _ => ⟨27, [(1, .one (.o 0 0))], [.c [.s 26]]⟩, 20, fun d => o16 d.1 d.2.1 d.2.2.1 d.2.2.2.1⟩
theorem b16 (l : List Tube) (n i : Int) (l' : List Tube) : bodyD Try.prog E c16 0 (bodyX Try.prog E ctC noLoops 1000 5 L0 (lpOf Try.prog 16 0)) (l, n, i, l', ()) =
  (.br (decide (i < n))
   (.req ((decide ((0 : Int) ≤ i) && decide (i < (↑(List.length l) : Int))) = true)
   (.br (!tub (Tube.mk (Tube.Count (ti l i)) (Tube.Len (ti l i)) (Tube.Air (ti l i)) (Tube.Steel (ti l i)) (Tube.Out (ti l i)) (Tube.Yield (ti l i)) (Tube.Twist (ti l i)) (Tube.Stiff (ti l i)) (Tube.Used (ti l i))))
    (.leaf (.inr (.ret, [.n ((2 : Int))])))
    (.leaf (.inl (l, (n, (IntKind.wrap IntKind.i64 (i + (1 : Int)), (l', ()))))))))
   (.leaf (.inr (.exit (0 : Nat), [.l (26 : Nat) (l')])))) := by kernel_rfl
noncomputable def o17 (i : Int) (l : List Tube) : Tree (Ex × List (V T)) := .req (0 ≤ i ∧ l.length ≤ 8) (.br ((l.drop i.toNat).all tub) (.leaf (.exit 0, [.l 26 l])) (.leaf (.ret, [.n 2])))
noncomputable def c17 : LoopC T := ⟨[.n, .l 26], ⟨29, [(1, .one (.o 0 0)), (3, .one (.i .i64))], [.c [.s 26]]⟩, fun e => match e with
    | .ret => ⟨29, [(2, .one (.i .i64))], []⟩
    | _ => ⟨29, [(1, .one (.o 0 0))], [.c [.s 26]]⟩, 20, fun d => o17 d.1 d.2.1⟩
theorem b17 (i : Int) (l : List Tube) : bodyD Try.prog E c17 0 (bodyX Try.prog E ctC noLoops 1000 5 L0 (lpOf Try.prog 17 0)) (i, l, ()) =
  (.br (decide (i < (↑(List.length l) : Int)))
   (.req ((decide ((0 : Int) ≤ i) && decide (i < (↑(List.length l) : Int))) = true)
   (.br (!tub (Tube.mk (Tube.Count (ti l i)) (Tube.Len (ti l i)) (Tube.Air (ti l i)) (Tube.Steel (ti l i)) (Tube.Out (ti l i)) (Tube.Yield (ti l i)) (Tube.Twist (ti l i)) (Tube.Stiff (ti l i)) (Tube.Used (ti l i))))
    (.leaf (.inr (.ret, [.n ((2 : Int))])))
    (.leaf (.inl (IntKind.wrap IntKind.i64 (i + (1 : Int)), (l, ()))))))
   (.leaf (.inr (.exit (0 : Nat), [.l (26 : Nat) (l)])))) := by kernel_rfl
theorem h16' (l : List Tube) (i : Nat) (l' : List Tube) (K : Ex × List (V T) → Prop) (hl : l.length ≤ 8) (hK : (Tree.br ((l.drop i).all tub) (.leaf (.exit 0, [.l 26 l'])) (.leaf (.ret, [.n 2])) : Tree (Ex × List (V T))).holds K) :
    (bodyD Try.prog E c16 0 (bodyX Try.prog E ctC noLoops 1000 5 L0 (lpOf Try.prog 16 0)) (l, (l.length : Int), (i : Int), l', ())).holds fun y => match y with
    | .inl d => ((d.1.length : Int) - d.2.2.1).toNat < ((l.length : Int) - (i : Int)).toNat ∧ (c16.out d).holds K
    | .inr y => K y := by
  rw [b16]
  refine way (fun c => wayC (by omega) c fun _ _ => ?_) fun c => ?_
  · have e2 : IntKind.wrap IntKind.i64 ((i : Int) + 1) = ((i + 1 : Nat) : Int) := i64_in' (by omega) (by omega)
    rw [e2]
    rw [all_cons c] at hK
    have hlt : ((l.length : Int) - ((i + 1 : Nat) : Int)).toNat < ((l.length : Int) - (i : Int)).toNat := by omega
    have h3 : (0 : Int) ≤ ((i + 1 : Nat) : Int) := by omega
    refine wayB (fun k => ?_) fun k => ?_
    · have k : tub (ti l i) = false := by
        cases h : tub (ti l i) with
        | false => rfl
        | true =>
          have k : (!tub (ti l i)) = true := k
          rw [h] at k; exact absurd k (by decide)
      rw [k] at hK
      exact hK.2 rfl
    · have k : tub (ti l i) = true := notB k
      rw [k, Bool.true_and] at hK
      exact ⟨hlt, ⟨⟨h3, rfl⟩, hl⟩, hK⟩
  · rw [all_end c] at hK
    exact hK.1 rfl
theorem h16 : LoopH Try.prog E c16 0 (bodyX Try.prog E ctC noLoops 1000 5 L0 (lpOf Try.prog 16 0)) :=
  ⟨fun d => ((d.1.length : Int) - d.2.2.1).toNat, fun d K hK => by
    obtain ⟨l, n, i, l', ⟨⟩⟩ := d
    obtain ⟨⟨⟨k1, k2⟩, k3⟩, k4⟩ := hK
    obtain ⟨q, hq⟩ := Int.eq_ofNat_of_zero_le k1
    obtain rfl : i = (q : Int) := hq
    obtain rfl : n = ((l : List Tube).length : Int) := k2
    refine Tree.holds_mono (fun y hy => ?_) (h16' l q l' K k3 k4)
    cases y with
    | inl d' => exact hy
    | inr y => exact hy⟩
theorem ll16 : LLOk Try.prog E (llOf Try.prog E 16 [(6, c16)]) := llOf_ok fun i hi c hc => by
  have hi : i < 1 := hi
  obtain rfl : i = 0 := by omega
  obtain rfl : c16 = c := Option.some.inj hc
  exact LSnd.mk good names mixes ctC_ok (by decide) h16

theorem h17' (i : Nat) (l : List Tube) (K : Ex × List (V T) → Prop) (hl : l.length ≤ 8) (hK : (Tree.br ((l.drop i).all tub) (.leaf (.exit 0, [.l 26 l])) (.leaf (.ret, [.n 2])) : Tree (Ex × List (V T))).holds K) :
    (bodyD Try.prog E c17 0 (bodyX Try.prog E ctC noLoops 1000 5 L0 (lpOf Try.prog 17 0)) ((i : Int), l, ())).holds fun y => match y with
    | .inl d => ((d.2.1.length : Int) - d.1).toNat < ((l.length : Int) - (i : Int)).toNat ∧ (c17.out d).holds K
    | .inr y => K y := by
  rw [b17]
  refine way (fun c => wayC (by omega) c fun _ _ => ?_) fun c => ?_
  · have e2 : IntKind.wrap IntKind.i64 ((i : Int) + 1) = ((i + 1 : Nat) : Int) := i64_in' (by omega) (by omega)
    rw [e2]
    rw [all_cons c] at hK
    have hlt : ((l.length : Int) - ((i + 1 : Nat) : Int)).toNat < ((l.length : Int) - (i : Int)).toNat := by omega
    have h3 : (0 : Int) ≤ ((i + 1 : Nat) : Int) := by omega
    refine wayB (fun k => ?_) fun k => ?_
    · have k : tub (ti l i) = false := by
        cases h : tub (ti l i) with
        | false => rfl
        | true =>
          have k : (!tub (ti l i)) = true := k
          rw [h] at k; exact absurd k (by decide)
      rw [k] at hK
      exact hK.2 rfl
    · have k : tub (ti l i) = true := notB k
      rw [k, Bool.true_and] at hK
      exact ⟨hlt, ⟨h3, hl⟩, hK⟩
  · rw [all_end c] at hK
    exact hK.1 rfl
theorem h17 : LoopH Try.prog E c17 0 (bodyX Try.prog E ctC noLoops 1000 5 L0 (lpOf Try.prog 17 0)) :=
  ⟨fun d => ((d.2.1.length : Int) - d.1).toNat, fun d K hK => by
    obtain ⟨i, l, ⟨⟩⟩ := d
    obtain ⟨⟨k1, k3⟩, k4⟩ := hK
    obtain ⟨q, hq⟩ := Int.eq_ofNat_of_zero_le k1
    obtain rfl : i = (q : Int) := hq
    refine Tree.holds_mono (fun y hy => ?_) (h17' q l K k3 k4)
    cases y with
    | inl d' => exact hy
    | inr y => exact hy⟩
theorem ll17 : LLOk Try.prog E (llOf Try.prog E 17 [(6, c17)]) := llOf_ok fun i hi c hc => by
  have hi : i < 1 := hi
  obtain rfl : i = 0 := by omega
  obtain rfl : c17 = c := Option.some.inj hc
  exact LSnd.mk good names mixes ctC_ok (by decide) h17

theorem tv16 (l : List Tube) : runX ctC (llOf Try.prog E 16 [(6, c16)]) 16 [.agg [.sl 26 l false]] [29] =
  (.br ((↑(List.length l) : Int) == (0 : Int))
   (.leaf (.sym .i64 ((6 : Int))))
   (.br (decide ((↑(List.length l) : Int) > (8 : Int)))
    (.leaf (.sym .i64 ((8 : Int))))
    (.req (((0 : Int) ≤ (0 : Int) ∧ (↑(List.length l) : Int) = (↑(List.length l) : Int)) ∧ List.length l ≤ (8 : Nat))
    (.br (List.all (List.drop (Int.toNat (0 : Int)) l) tub)
     (.req (List.length l ≤ (1000 : Nat))
     (.br (decide (len l > (1048576 : Int)))
      (.leaf (.sym .i64 ((5 : Int))))
      (.leaf (.sym .i64 ((0 : Int))))))
     (.leaf (.sym .i64 ((2 : Int)))))))) := by kernel_rfl
theorem tv17 (l : List Tube) : runX ctC (llOf Try.prog E 17 [(6, c17)]) 17 [.agg [.sl 26 l false]] [29] =
  (.br ((↑(List.length l) : Int) == (0 : Int))
   (.leaf (.sym .i64 ((6 : Int))))
   (.br (decide ((↑(List.length l) : Int) > (8 : Int)))
    (.leaf (.sym .i64 ((8 : Int))))
    (.req ((0 : Int) ≤ (0 : Int) ∧ List.length l ≤ (8 : Nat))
    (.br (List.all (List.drop (Int.toNat (0 : Int)) l) tub)
     (.req (List.length l ≤ (1000 : Nat))
     (.br (decide (len l > (1048576 : Int)))
      (.leaf (.sym .i64 ((5 : Int))))
      (.leaf (.sym .i64 ((0 : Int))))))
     (.leaf (.sym .i64 ((2 : Int)))))))) := by kernel_rfl

/-- The first error of a string. -/
noncomputable def ckS (l : List Tube) : Int := if (l.length : Int) = 0 then 6 else if (l.length : Int) > 8 then 8 else if l.all tub = true then (if len l > 1048576 then 5 else 0) else 2
theorem ck_t {l : List Tube} {P Q : Prop} (hP : (l.length : Int) ≤ 8 → P) (hQ : (l.length : Int) ≤ 8 → Q) : (Tree.br ((↑(List.length l) : Int) == (0 : Int)) (.leaf (i64 6)) (.br (decide ((↑(List.length l) : Int) > (8 : Int))) (.leaf (i64 8)) (.req P (.br (List.all (List.drop (Int.toNat (0 : Int)) l) tub) (.req Q (.br (decide (len l > (1048576 : Int))) (.leaf (i64 5)) (.leaf (i64 0)))) (.leaf (i64 2))))) : Tree (AV T)).holds fun v => v = i64 (ckS l) := by
  unfold ckS
  refine wayEq (fun c => ?_) fun c => way (fun c2 => ?_) fun c2 => ⟨hP (by omega), wayB (fun k => ⟨hQ (by omega), way (fun q => ?_) fun q => ?_⟩) fun k => ?_⟩
  · rw [if_pos c]; rfl
  · rw [if_neg c, if_pos c2]; rfl
  · have k : l.all tub = true := k
    rw [if_neg c, if_neg c2, if_pos k, if_pos q]; rfl
  · have k : l.all tub = true := k
    rw [if_neg c, if_neg c2, if_pos k, if_neg q]; rfl
  · have k : ¬ l.all tub = true := by
      have k : l.all tub = false := k
      rw [k]; decide
    rw [if_neg c, if_neg c2, if_neg k]; rfl
theorem s16 (l : List Tube) : (runX ctC (llOf Try.prog E 16 [(6, c16)]) 16 [.agg [.sl 26 l false]] [29]).holds fun v => v = i64 (ckS l) := by
  rw [tv16]
  exact ck_t (fun h => ⟨⟨by decide, rfl⟩, by omega⟩) fun h => by omega
theorem s17 (l : List Tube) : (runX ctC (llOf Try.prog E 17 [(6, c17)]) 17 [.agg [.sl 26 l false]] [29]).holds fun v => v = i64 (ckS l) := by
  rw [tv17]
  exact ck_t (fun h => ⟨by decide, by omega⟩) fun h => by omega
theorem ck_0 {l : List Tube} (h : ckS l = 0) : l.length ≤ 8 ∧ l.all tub = true := by
  unfold ckS at h
  split at h
  · exact absurd h (by decide)
  · split at h
    · exact absurd h (by decide)
    · split at h
      · exact ⟨by omega, by assumption⟩
      · exact absurd h (by decide)
noncomputable def cCk : Con T := conV Try.prog [.agg [.s 26]] [.l 26] fun d => i64 (ckS d.1)
theorem ck_ok : ConOk Try.prog E 16 cCk := conV_ok fun d => fact_run ctC_ok ll16 (ts := [29]) rfl (s16 d.1)
theorem ck2_ok : ConOk Try.prog E 17 cCk := conV_ok fun d => fact_run ctC_ok ll17 (ts := [29]) rfl (s17 d.1)
noncomputable def ctD : CTab T := (16, cCk) :: (17, cCk) :: ctC
theorem ctD_ok : CTabOk Try.prog E ctD := .cons ck_ok (.cons ck2_ok ctC_ok)
/-! ### weights -/
theorem tv20 (l : List Tube) (m : Int) : runX ctD (llOf Try.prog E 20 [(5, c20)]) 20 [.agg [.sl 26 l false], i64 m] [2] =
  (.br (ckS l != (0 : Int))
   (.leaf (.sym .i64 ((0 : Int))))
   (.br (!within m (0 : Int) (40000 : Int))
    (.leaf (.sym .i64 ((0 : Int))))
    (.req (((0 : Int) ≤ (0 : Int) ∧ (↑(List.length l) : Int) = (↑(List.length l) : Int)) ∧ List.length l ≤ (1000 : Nat))
    (.leaf (.sym .i64 (fdT (fW m) (0 : Int) (List.drop (Int.toNat (0 : Int)) l))))))) := by kernel_rfl
theorem tv21 (l : List Tube) (m : Int) : runX ctD (llOf Try.prog E 21 [(5, c21)]) 21 [.agg [.sl 26 l false], i64 m] [2] =
  (.br (ckS l != (0 : Int))
   (.leaf (.sym .i64 ((0 : Int))))
   (.br (!within m (0 : Int) (40000 : Int))
    (.leaf (.sym .i64 ((0 : Int))))
    (.req ((0 : Int) ≤ (0 : Int) ∧ List.length l ≤ (1000 : Nat))
    (.leaf (.sym .i64 (fdT (fW m) (0 : Int) (List.drop (Int.toNat (0 : Int)) l))))))) := by kernel_rfl
/-! ### joints -/
noncomputable def ap (b : Int) (r : List Int) : List Int := r ++ [w64 (ni r ((r.length : Int) - 1) + b)]
noncomputable def it : Nat → Int → List Int → List Int
  | 0, _, r => r
  | k + 1, b, r => it k b (ap b r)
noncomputable def jn : List Int → List Tube → List Int
  | r, [] => r
  | r, t :: l => jn (it t.Count.toNat t.Len r) l
noncomputable def o25i (l : List Tube) (n j cnt i : Int) (r : List Int) (b : Int) : Tree (Ex × List (V T)) := .req ((0 ≤ i ∧ i ≤ cnt ∧ cnt ≤ 400) ∧ 1 ≤ r.length ∧ (r.length : Int) + (cnt - i) ≤ 4000) (.leaf (.exit 2, [.l 2 (it (cnt - i).toNat b r), .l 26 l, .n n, .n j]))
noncomputable def c25i : LoopC T := ⟨[.l 2, .l 26, .n, .n, .n, .n, .n, .n, .n, .n, .n, .n, .n, .n, .n], ⟨36, [(3, .one (.g 0 2)), (5, .one (.o 1 0)), (11, .one (.s 26)), (12, .one (.i .i64)), (13, .one (.i .i64)), (18, .one (.i .i64)), (19, .one (.i .i64))], [.l 2, .c [.i .i64, .i .i64, .i .i64, .i .i64, .i .i64, .i .i64, .i .i64, .i .i64, .i .i64]]⟩,
  fun _ => ⟨36, [(3, .one (.g 0 2)), (11, .one (.s 26)), (12, .one (.i .i64)), (13, .one (.i .i64))], [.l 2]⟩, 20, fun d => o25i d.2.1 d.2.2.1 d.2.2.2.1 d.2.2.2.2.1 d.2.2.2.2.2.1 d.1 d.2.2.2.2.2.2.2.1⟩
theorem b25i (l : List Tube) (n j cnt i : Int) (r : List Int) (a b c d e f g h k : Int) : bodyD Try.prog E c25i 0 (bodyX Try.prog E ctD noLoops 1000 5 L0 (lpOf Try.prog 25 1)) (r, l, n, j, cnt, i, a, b, c, d, e, f, g, h, k, ()) =
  (.br (decide (i < cnt))
   (.req ((decide ((0 : Int) ≤ IntKind.wrap IntKind.i64 ((↑(List.length r) : Int) - (1 : Int))) && decide (IntKind.wrap IntKind.i64 ((↑(List.length r) : Int) - (1 : Int)) < (↑(List.length r) : Int))) = true)
   (.req ((decide ((0 : Int) ≤ IntKind.wrap IntKind.i64 ((↑(List.length r) : Int) - (1 : Int))) && decide (IntKind.wrap IntKind.i64 ((↑(List.length r) : Int) - (1 : Int)) < (↑(List.length r) : Int))) = true)
   (.req (List.length r = List.length r)
   (.req (List.length r + List.length [IntKind.wrap IntKind.i64 (ni r (IntKind.wrap IntKind.i64 ((↑(List.length r) : Int) - (1 : Int))) + b)] ≤ (1073741824 : Nat))
   (.req (List.length (r ++ [IntKind.wrap IntKind.i64 (ni r (IntKind.wrap IntKind.i64 ((↑(List.length r) : Int) - (1 : Int))) + b)]) = List.length (r ++ [IntKind.wrap IntKind.i64 (ni r (IntKind.wrap IntKind.i64 ((↑(List.length r) : Int) - (1 : Int))) + b)]))
   (.leaf (.inl (r ++ [IntKind.wrap IntKind.i64 (ni r (IntKind.wrap IntKind.i64 ((↑(List.length r) : Int) - (1 : Int))) + b)], (l, (n, (j, (cnt, (IntKind.wrap IntKind.i64 (i + (1 : Int)), (a, (b, (c, (d, (e, (f, (g, (h, (k, ()))))))))))))))))))))))
   (.req (List.length r = List.length r)
   (.leaf (.inr (.exit (2 : Nat), [.l (2 : Nat) (r), .l (26 : Nat) (l), .n (n), .n (j)]))))) := by kernel_rfl
noncomputable def inv25 (l : List Tube) (i : Int) (r : List Int) : Prop := ((0 ≤ i ∧ l.length ≤ 8) ∧ l.all tub = true) ∧ 1 ≤ r.length ∧ (r.length : Int) ≤ 1 + 400 * i
noncomputable def o25 (l : List Tube) (n i : Int) (r : List Int) : Tree (Ex × List (V T)) := .req (n = l.length ∧ inv25 l i r) (.leaf (.exit 0, [.l 2 (jn r (l.drop i.toNat))]))
noncomputable def c25 : LoopC T := ⟨[.l 2, .l 26, .n, .n], ⟨36, [(3, .one (.g 0 2)), (11, .one (.s 26)), (12, .one (.i .i64)), (13, .one (.i .i64))], [.l 2]⟩,
  fun _ => ⟨36, [(3, .one (.g 0 2))], [.l 2]⟩, 40, fun d => o25 d.2.1 d.2.2.1 d.2.2.2.1 d.1⟩
theorem b25 (l : List Tube) (n i : Int) (r : List Int) : bodyD Try.prog E c25 0 (bodyX Try.prog E ctD noLoops 1000 5 (tabL Try.prog E [(8, c25i)]) (lpOf Try.prog 25 0)) (r, l, n, i, ()) =
  (.br (decide (i < n))
   (.req ((decide ((0 : Int) ≤ i) && decide (i < (↑(List.length l) : Int))) = true)
   (.req (List.length r = List.length r)
   (.req (((0 : Int) ≤ (0 : Int) ∧ (0 : Int) ≤ Tube.Count (ti l i) ∧ Tube.Count (ti l i) ≤ (400 : Int)) ∧ (1 : Nat) ≤ List.length r ∧ (↑(List.length r) : Int) + (Tube.Count (ti l i) - (0 : Int)) ≤ (4000 : Int))
   (.req (List.length (it (Int.toNat (Tube.Count (ti l i) - (0 : Int))) (Tube.Len (ti l i)) r) = List.length (it (Int.toNat (Tube.Count (ti l i) - (0 : Int))) (Tube.Len (ti l i)) r))
   (.leaf (.inl (it (Int.toNat (Tube.Count (ti l i) - (0 : Int))) (Tube.Len (ti l i)) r, (l, (n, (IntKind.wrap IntKind.i64 (i + (1 : Int)), ()))))))))))
   (.req (List.length r = List.length r)
   (.leaf (.inr (.exit (0 : Nat), [.l (2 : Nat) (r)]))))) := by kernel_rfl
theorem tv25 (l : List Tube) : runX ctD (llOf Try.prog E 25 [(5, c25), (8, c25i)]) 25 [.agg [.sl 26 l false]] [35] =
  (.br (ckS l != (0 : Int))
   (.leaf (.sl (2 : Nat) ([]) false))
   (.req ((↑(List.length l) : Int) = (↑(List.length l) : Int) ∧ inv25 l (0 : Int) [(0 : Int)])
   (.req (List.length (jn [(0 : Int)] (List.drop (Int.toNat (0 : Int)) l)) = List.length (jn [(0 : Int)] (List.drop (Int.toNat (0 : Int)) l)))
   (.leaf (.sl (2 : Nat) (jn [(0 : Int)] (List.drop (Int.toNat (0 : Int)) l)) false))))) := by kernel_rfl
end Go.Proofs.Ytkaiffdndhhfcaa.W
