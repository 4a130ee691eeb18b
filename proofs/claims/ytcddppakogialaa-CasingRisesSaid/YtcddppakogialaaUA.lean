/- Annuli made of numbers. No condition. -/
import Derived.Test.YtcddppakogialaaU2
import Derived.Test.YtcddppakogialaaR
set_option linter.unusedVariables false
set_option maxRecDepth 100000
noncomputable section
namespace Go.Proofs.Ytcddppakogialaa.W.Hole
open Go Go.Cx Go.RowKit
noncomputable def ni (l : List Int) (i : Int) : Int := ixD E 2 l i
noncomputable def sgi (l : List Seg) (i : Int) : Seg := ixD E 68 l i
theorem drop_sg {l : List Seg} {i : Nat} (h : i < l.length) : l.drop i = sgi l i :: l.drop (i + 1) := drop_ix (E := E) (τ := 68) h
noncomputable def pk (l : List Int) (i : Int) : Int := if (l.length : Int) = 0 then 0 else ni l (Int.tmod i l.length) % 1099511627776
noncomputable def ctM : CTab T := [(49, cMod)]
theorem ctM_ok : CTabOk Try.prog E ctM := .cons mod64_ok .nil
theorem tv89 (l : List Int) (i : Int) : runX ctM noLoops 96 [.sl 2 l false, i64 i] [2] =
  (.br ((↑(List.length l) : Int) == (0 : Int))
   (.leaf (.sym .i64 ((0 : Int))))
   (.req (decide ((↑(List.length l) : Int) ≠ (0 : Int)) = true)
   (.req ((decide ((0 : Int) ≤ Int.tmod i (↑(List.length l) : Int)) && decide (Int.tmod i (↑(List.length l) : Int) < (↑(List.length l) : Int))) = true)
   (.req (mPre (ni l (Int.tmod i (↑(List.length l) : Int))) (1099511627776 : Int))
   (.leaf (.sym .i64 (ni l (Int.tmod i (↑(List.length l) : Int)) % (1099511627776 : Int)))))))) := by kernel_rfl
theorem s89 (l : List Int) (i : Int) (h : 0 ≤ i) : (runX ctM noLoops 96 [.sl 2 l false, i64 i] [2]).holds fun v => v = i64 (pk l i) := by
  rw [tv89]
  unfold pk
  refine wayEq (fun c => ?_) fun c => ?_
  · rw [if_pos c]; rfl
  · have h1 := Int.tmod_nonneg (l.length : Int) h
    have h2 := Int.tmod_lt_of_pos i (b := (l.length : Int)) (by omega)
    rw [if_neg c]
    exact ⟨decide_eq_true c, by simp only [Bool.and_eq_true, decide_eq_true_eq]; omega, ⟨by decide, by decide⟩, rfl⟩
theorem pk_bd (l : List Int) (i : Int) : 0 ≤ pk l i ∧ pk l i < 1099511627776 := by
  unfold pk
  split <;> omega
noncomputable def cPk : Con T := conP Try.prog [.one (.s 2), .one (.i .i64)] [.l 2, .n] (fun d => 0 ≤ d.2.1) fun d => i64 (pk d.1 d.2.1)
theorem pk_ok : ConOk Try.prog E 96 cPk := conP_ok fun d hd => fact_run ctM_ok noLoops_ok (ts := [2]) rfl (s89 d.1 d.2.1 hd)
noncomputable def ctP : CTab T := [(96, cPk)]
theorem ctP_ok : CTabOk Try.prog E ctP := .cons pk_ok .nil
noncomputable def sg (l : List Int) (i : Int) : Seg := ⟨IntKind.wrap IntKind.i64 (1 + Int.tmod (pk l i) 100000), Int.tmod (IntKind.wrap IntKind.i64 (Int.tdiv (pk l i) 11)) (IntKind.wrap IntKind.i64 (IntKind.wrap IntKind.i64 (1 + Int.tmod (pk l i) 100000) + 1)), IntKind.wrap IntKind.i64 (1 + Int.tmod (IntKind.wrap IntKind.i64 (Int.tdiv (pk l i) 3)) 1500), IntKind.wrap IntKind.i64 (1 + Int.tmod (IntKind.wrap IntKind.i64 (Int.tdiv (pk l i) 7)) 200)⟩
noncomputable def an (l : List Int) : Nat → Int → List Seg → List Seg
  | 0, _, r => r
  | n + 1, i, r => an l n (i + 1) (r ++ [sg l i])
noncomputable def cnt (l : List Int) : Int := if (if (5 : Int) < (l.length : Int) then (5 : Int) else (l.length : Int)) > 1 then (if (5 : Int) < (l.length : Int) then (5 : Int) else (l.length : Int)) else 1
theorem cnt_bd (l : List Int) : 1 ≤ cnt l ∧ cnt l ≤ 5 := by
  unfold cnt
  split <;> split <;> omega
noncomputable def o58 (z r : List Seg) (l : List Int) (i : Int) : Tree (Ex × List (V T)) := .req ((0 ≤ i ∧ i ≤ cnt l) ∧ (r.length : Int) ≤ i) (.leaf (.exit 0, [.l 68 z, .l 68 (an l (cnt l - i).toNat i r)]))
noncomputable def c58 : LoopC T := ⟨[.l 68, .l 68, .l 2, .n], ⟨44, [(0, .one (.s 2)), (2, .one (.o 0 0)), (3, .one (.o 1 0)), (4, .one (.i .i64))], [.c [.g 2 68], .c [.g 3 68], .l 68, .l 68]⟩,
  fun _ => ⟨44, [(2, .one (.o 0 0)), (3, .one (.o 1 0))], [.c [.g 2 68], .c [.g 3 68], .l 68, .l 68]⟩, 20, fun d => o58 d.1 d.2.1 d.2.2.1 d.2.2.2.1⟩
theorem b58 (z r : List Seg) (l : List Int) (i : Int) : bodyD Try.prog E c58 0 (bodyX Try.prog E ctP noLoops 1000 5 L0 (lpOf Try.prog 51 0)) (z, r, l, i, ()) =
  (.br (decide (i < cnt l))
   (.req ((0 : Int) ≤ i)
   (.req (decide (IntKind.wrap IntKind.i64 (IntKind.wrap IntKind.i64 ((1 : Int) + Int.tmod (pk l i) (100000 : Int)) + (1 : Int)) ≠ (0 : Int)) = true)
   (.req (List.length r = List.length r)
   (.req (List.length r + List.length [sg l i] ≤ (1073741824 : Nat))
   (.req (List.length z = List.length z)
   (.req (List.length (r ++ [sg l i]) = List.length (r ++ [sg l i]))
   (.leaf (.inl (z, (r ++ [sg l i], (l, (IntKind.wrap IntKind.i64 (i + (1 : Int)), ()))))))))))))
   (.req (List.length z = List.length z)
   (.req (List.length r = List.length r)
   (.leaf (.inr (.exit (0 : Nat), [.l (68 : Nat) (z), .l (68 : Nat) (r)])))))) := by kernel_rfl
theorem sg_ok (l : List Int) (i : Int) : (1 ≤ (sg l i).Long ∧ (sg l i).Long ≤ 100000) ∧ (0 ≤ (sg l i).Rise ∧ (sg l i).Rise ≤ (sg l i).Long) ∧ (1 ≤ (sg l i).Area ∧ (sg l i).Area ≤ 1500) ∧ (1 ≤ (sg l i).Gap ∧ (sg l i).Gap ≤ 200) ∧ IntKind.wrap IntKind.i64 ((sg l i).Long + 1) = (sg l i).Long + 1 := by
  have h := pk_bd l i
  unfold sg
  generalize pk l i = n at h
  simp only []
  have e1 : Int.tmod n 100000 = n % 100000 := Int.tmod_eq_emod_of_nonneg h.1
  have e2 : Int.tdiv n 11 = n / 11 := Int.tdiv_eq_ediv_of_nonneg h.1
  have e3 : Int.tdiv n 3 = n / 3 := Int.tdiv_eq_ediv_of_nonneg h.1
  have e4 : Int.tdiv n 7 = n / 7 := Int.tdiv_eq_ediv_of_nonneg h.1
  rw [e1, e2, e3, e4, i64_in' (n := 1 + n % 100000) (by omega) (by omega), i64_in' (n := n / 11) (by omega) (by omega), i64_in' (n := n / 3) (by omega) (by omega), i64_in' (n := n / 7) (by omega) (by omega), i64_in' (n := 1 + n % 100000 + 1) (by omega) (by omega)]
  have e5 : Int.tmod (n / 11) (1 + n % 100000 + 1) = (n / 11) % (1 + n % 100000 + 1) := Int.tmod_eq_emod_of_nonneg (by omega)
  have e6 : Int.tmod (n / 3) 1500 = (n / 3) % 1500 := Int.tmod_eq_emod_of_nonneg (by omega)
  have e7 : Int.tmod (n / 7) 200 = (n / 7) % 200 := Int.tmod_eq_emod_of_nonneg (by omega)
  rw [e5, e6, e7, i64_in' (n := 1 + n / 3 % 1500) (by omega) (by omega), i64_in' (n := 1 + n / 7 % 200) (by omega) (by omega)]
  have m1 := Int.emod_nonneg (n / 11) (b := 1 + n % 100000 + 1) (by omega)
  have m2 := Int.emod_lt_of_pos (n / 11) (b := 1 + n % 100000 + 1) (by omega)
  refine ⟨by omega, ⟨m1, by omega⟩, by omega, by omega, rfl⟩
theorem h58' (z r : List Seg) (l : List Int) (i : Int) (K : Ex × List (V T) → Prop) (h : (0 ≤ i ∧ i ≤ cnt l) ∧ (r.length : Int) ≤ i) (hK : K (.exit 0, [.l 68 z, .l 68 (an l (cnt l - i).toNat i r)])) :
    (bodyD Try.prog E c58 0 (bodyX Try.prog E ctP noLoops 1000 5 L0 (lpOf Try.prog 51 0)) (z, r, l, i, ())).holds fun y => match y with
    | .inl d => (cnt d.2.2.1 - d.2.2.2.1).toNat < (cnt l - i).toNat ∧ (c58.out d).holds K
    | .inr y => K y := by
  rw [b58]
  have hc := cnt_bd l
  obtain ⟨⟨h0, h1⟩, h2⟩ := h
  refine way (fun c => ?_) fun c => ⟨rfl, rfl, ?_⟩
  · have e2 : IntKind.wrap IntKind.i64 (i + 1) = i + 1 := i64_in' (by omega) (by omega)
    rw [e2]
    have hs := sg_ok l i
    have e3 : IntKind.wrap IntKind.i64 (IntKind.wrap IntKind.i64 (1 + Int.tmod (pk l i) 100000) + 1) = (sg l i).Long + 1 := hs.2.2.2.2
    rw [e3]
    have hlt : (cnt l - (i + 1)).toNat < (cnt l - i).toNat := by omega
    have hK' : K (.exit 0, [.l 68 z, .l 68 (an l (cnt l - (i + 1)).toNat (i + 1) (r ++ [sg l i]))]) := by
      rw [show (cnt l - i).toNat = (cnt l - (i + 1)).toNat + 1 by omega] at hK
      exact hK
    have hin : (0 ≤ i + 1 ∧ i + 1 ≤ cnt l) ∧ ((r ++ [sg l i]).length : Int) ≤ i + 1 := by
      simp only [List.length_append, List.length_cons, List.length_nil]; omega
    exact ⟨h0, decide_eq_true (by omega), rfl, by simp only [List.length_cons, List.length_nil]; omega, rfl, rfl, hlt, hin, hK'⟩
  · rw [show (cnt l - i).toNat = 0 by omega] at hK
    exact hK
theorem h58 : LoopH Try.prog E c58 0 (bodyX Try.prog E ctP noLoops 1000 5 L0 (lpOf Try.prog 51 0)) :=
  ⟨fun d => (cnt d.2.2.1 - d.2.2.2.1).toNat, fun d K hK => by
    obtain ⟨z, r, l, i, ⟨⟩⟩ := d
    refine Tree.holds_mono (fun y hy => ?_) (h58' z r l i K hK.1 hK.2)
    cases y with
    | inl d' => exact hy
    | inr y => exact hy⟩
theorem ll58 : LLOk Try.prog E (llOf Try.prog E 51 [(3, c58)]) := llOf_ok fun i hi c hc => by
  have hi : i < 1 := hi
  obtain rfl : i = 0 := by omega
  obtain rfl : c58 = c := Option.some.inj hc
  exact LSnd.mk good names mixes ctP_ok (by decide) h58
noncomputable def ann (l : List Int) : List Seg := an l (cnt l).toNat 0 []
theorem tv58 (l : List Int) : runX ctP (llOf Try.prog E 51 [(3, c58)]) 51 [.sl 2 l false] [56] =
  (.req (((0 : Int) ≤ (0 : Int) ∧ (0 : Int) ≤ cnt l) ∧ (↑((0 : Nat)) : Int) ≤ (0 : Int))
  (.req (List.length (an l (Int.toNat (cnt l - (0 : Int))) (0 : Int) []) = List.length (an l (Int.toNat (cnt l - (0 : Int))) (0 : Int) []))
  (.leaf (.agg [.sl (68 : Nat) (an l (Int.toNat (cnt l - (0 : Int))) (0 : Int) []) false])))) := by kernel_rfl
theorem s58 (l : List Int) : (runX ctP (llOf Try.prog E 51 [(3, c58)]) 51 [.sl 2 l false] [56]).holds fun v => v = .agg [.sl 68 (ann l) false] := by
  rw [tv58]
  have hc := cnt_bd l
  refine ⟨⟨⟨by decide, by omega⟩, by decide⟩, rfl, ?_⟩
  show AV.agg _ = _
  rw [Int.sub_zero]
  rfl
noncomputable def cAnn : Con T := conV Try.prog [.one (.s 2)] [.l 2] fun d => .agg [.sl 68 (ann d.1) false]
theorem ann_ok : ConOk Try.prog E 51 cAnn := conV_ok fun d => fact_run ctP_ok ll58 (ts := [56]) rfl (s58 d.1)
theorem an_hd (l : List Int) (x : Seg) : ∀ (n : Nat) (i : Int) (r : List Seg), ∃ t, an l n i (x :: r) = x :: t
  | 0, _, r => ⟨r, rfl⟩
  | n + 1, i, r => by
    obtain ⟨t, ht⟩ := an_hd l x n (i + 1) (r ++ [sg l i])
    exact ⟨t, ht⟩
theorem ann_hd (l : List Int) : 0 < (ann l).length ∧ sgi (ann l) 0 = sg l 0 := by
  have hc := cnt_bd l
  have e : ann l = an l ((cnt l).toNat - 1) (0 + 1) ([] ++ [sg l 0]) := by
    unfold ann
    rw [show (cnt l).toNat = ((cnt l).toNat - 1) + 1 by omega]; rfl
  obtain ⟨t, ht⟩ := an_hd l (sg l 0) ((cnt l).toNat - 1) (0 + 1) []
  have e2 : ann l = sg l 0 :: t := e.trans ht
  refine ⟨by rw [e2]; simp, ?_⟩
  have := drop_sg (l := ann l) (i := 0) (by rw [e2]; simp)
  rw [List.drop_zero] at this
  have h2 := e2.symm.trans this
  exact (List.cons.inj h2).1.symm
theorem allS_snoc : ∀ {l : List Seg} {s : Seg}, allS l = true → segP s → allS (l ++ [s]) = true
  | [], s, _, h => Bool.and_eq_true_iff.2 ⟨decide_eq_true h, rfl⟩
  | x :: r, s, h, hs => by
    obtain ⟨h1, h2⟩ := Bool.and_eq_true_iff.1 h
    exact Bool.and_eq_true_iff.2 ⟨h1, allS_snoc h2 hs⟩
theorem sumL_snoc : ∀ (l : List Seg) (s : Seg), sumL (l ++ [s]) = sumL l + s.Long
  | [], s => by show s.Long + 0 = 0 + s.Long; omega
  | x :: r, s => by
    show x.Long + sumL (r ++ [s]) = x.Long + sumL r + s.Long
    rw [sumL_snoc r s]
    omega
theorem sg_P (l : List Int) (i : Int) : segP (sg l i) ∧ (sg l i).Long ≤ 100000 := by
  have := sg_ok l i
  unfold segP
  omega
theorem an_all (l : List Int) : ∀ (n : Nat) (i : Int) (r : List Seg), allS r = true → sumL r ≤ 100000 * (r.length : Int) → allS (an l n i r) = true ∧ sumL (an l n i r) ≤ 100000 * ((r.length : Int) + (n : Int)) ∧ (an l n i r).length = r.length + n
  | 0, _, r, h1, h2 => ⟨h1, by show sumL r ≤ _; omega, rfl⟩
  | n + 1, i, r, h1, h2 => by
    have s := sg_P l i
    have := an_all l n (i + 1) (r ++ [sg l i]) (allS_snoc h1 s.1) (by
      rw [sumL_snoc, List.length_append]
      have : ([sg l i] : List Seg).length = 1 := rfl
      omega)
    rw [List.length_append] at this
    have e : ([sg l i] : List Seg).length = 1 := rfl
    obtain ⟨a, b, c⟩ := this
    refine ⟨a, ?_, ?_⟩
    · show sumL (an l n (i + 1) (r ++ [sg l i])) ≤ _
      omega
    · show (an l n (i + 1) (r ++ [sg l i])).length = _
      omega
theorem ann_ok' (l : List Int) : hE (ann l) = 0 ∧ allS (ann l) = true ∧ (0 < (ann l).length ∧ (ann l).length ≤ 5) ∧ sumL (ann l) ≤ 500000 := by
  have c := cnt_bd l
  obtain ⟨a, b, d⟩ := an_all l (cnt l).toNat 0 [] rfl (by decide)
  have a : allS (ann l) = true := a
  have b : sumL (ann l) ≤ _ := b
  have d : (ann l).length = _ := d
  have e : ([] : List Seg).length = 0 := rfl
  rw [e] at b d
  refine ⟨?_, a, by omega, by omega⟩
  unfold hE
  rw [if_neg (by omega), if_neg (by omega), if_pos a, if_neg (by omega)]
theorem long_le : ∀ {l : List Seg}, allS l = true → ∀ s ∈ l, s.Long ≤ sumL l
  | [], _, s, h => by cases h
  | x :: r, h, s, hs => by
    obtain ⟨h1, h2⟩ := Bool.and_eq_true_iff.1 h
    have h1 := of_decide_eq_true h1
    have n := sumL_nn h2
    show s.Long ≤ x.Long + sumL r
    have p : 1 ≤ x.Long := h1.1
    cases hs with
    | head => omega
    | tail _ hs => have := long_le h2 s hs; omega
theorem ann_in (l : List Int) : inLg (ann l) := fun s hs => by
  have := long_le (ann_ok' l).2.1 s hs
  have := (ann_ok' l).2.2.2
  omega
end Go.Proofs.Ytcddppakogialaa.W.Hole
