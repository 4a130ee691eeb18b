/- FluidCarried. No condition. -/
import Derived.Test.YtnhedcaphncliaaB
import Derived.Test.YtnhedcaphncliaaR
import Derived.Test.YtnhedcaphncliaaW
import Derived.Test.YtnhedcaphncliaaCz8
set_option linter.unusedVariables false
set_option maxRecDepth 100000
noncomputable section
namespace Go.Proofs.Ytnhedcaphncliaa.W
open Go Go.Cx Go.RowKit
noncomputable def ni (l : List Int) (i : Int) : Int := ixD E 2 l i
noncomputable def sgi (l : List Seg) (i : Int) : Seg := ixD E 52 l i
theorem drop_sg {l : List Seg} {i : Nat} (h : i < l.length) : l.drop i = sgi l i :: l.drop (i + 1) := drop_ix (E := E) (τ := 52) h
noncomputable def pk (l : List Int) (i : Int) : Int := if (l.length : Int) = 0 then 0 else ni l (Int.tmod i l.length) % 1099511627776
noncomputable def ctM : CTab T := [(60, cMod)]
theorem ctM_ok : CTabOk Try.prog E ctM := .cons mod64_ok .nil
theorem tv89 (l : List Int) (i : Int) : runX ctM noLoops 89 [.sl 2 l false, i64 i] [2] =
  (.br ((↑(List.length l) : Int) == (0 : Int))
   (.leaf (.sym .i64 ((0 : Int))))
   (.req (decide ((↑(List.length l) : Int) ≠ (0 : Int)) = true)
   (.req ((decide ((0 : Int) ≤ Int.tmod i (↑(List.length l) : Int)) && decide (Int.tmod i (↑(List.length l) : Int) < (↑(List.length l) : Int))) = true)
   (.req (mPre (ni l (Int.tmod i (↑(List.length l) : Int))) (1099511627776 : Int))
   (.leaf (.sym .i64 (ni l (Int.tmod i (↑(List.length l) : Int)) % (1099511627776 : Int)))))))) := by kernel_rfl
theorem s89 (l : List Int) (i : Int) (h : 0 ≤ i) : (runX ctM noLoops 89 [.sl 2 l false, i64 i] [2]).holds fun v => v = i64 (pk l i) := by
  rw [tv89]
  unfold pk
  refine wayEq (fun c => ?_) fun c => ?_
  · rw [if_pos c]; rfl
  · have h1 := Int.tmod_nonneg (l.length : Int) h
    have h2 := Int.tmod_lt_of_pos i (b := (l.length : Int)) (by omega)
    rw [if_neg c]
    exact ⟨decide_eq_true c, by simp only [Bool.and_eq_true, decide_eq_true_eq]; omega, ⟨by decide, by decide⟩, rfl⟩
theorem pk_bd (l : List Int) (i : Int) : 0 ≤ pk l i ∧ pk l i < 1099511627776 := by
  unfold pk
  split <;> omega
noncomputable def cPk : Con T := conP Try.prog [.one (.s 2), .one (.i .i64)] [.l 2, .n] (fun d => 0 ≤ d.2.1) fun d => i64 (pk d.1 d.2.1)
theorem pk_ok : ConOk Try.prog E 89 cPk := conP_ok fun d hd => fact_run ctM_ok noLoops_ok (ts := [2]) rfl (s89 d.1 d.2.1 hd)
noncomputable def ctP : CTab T := [(89, cPk)]
theorem ctP_ok : CTabOk Try.prog E ctP := .cons pk_ok .nil
noncomputable def sg (l : List Int) (i : Int) : Seg := ⟨IntKind.wrap IntKind.i64 (1 + Int.tmod (pk l i) 100000), Int.tmod (IntKind.wrap IntKind.i64 (Int.tdiv (pk l i) 11)) (IntKind.wrap IntKind.i64 (IntKind.wrap IntKind.i64 (1 + Int.tmod (pk l i) 100000) + 1)), IntKind.wrap IntKind.i64 (1 + Int.tmod (IntKind.wrap IntKind.i64 (Int.tdiv (pk l i) 3)) 1500), IntKind.wrap IntKind.i64 (1 + Int.tmod (IntKind.wrap IntKind.i64 (Int.tdiv (pk l i) 7)) 200)⟩
noncomputable def an (l : List Int) : Nat → Int → List Seg → List Seg
  | 0, _, r => r
  | n + 1, i, r => an l n (i + 1) (r ++ [sg l i])
noncomputable def cnt (l : List Int) : Int := if (if (5 : Int) < (l.length : Int) then (5 : Int) else (l.length : Int)) > 1 then (if (5 : Int) < (l.length : Int) then (5 : Int) else (l.length : Int)) else 1
theorem cnt_bd (l : List Int) : 1 ≤ cnt l ∧ cnt l ≤ 5 := by
  unfold cnt
  split <;> split <;> omega
noncomputable def o58 (z r : List Seg) (l : List Int) (i : Int) : Tree (Ex × List (V T)) := .req ((0 ≤ i ∧ i ≤ cnt l) ∧ (r.length : Int) ≤ i) (.leaf (.exit 0, [.l 52 z, .l 52 (an l (cnt l - i).toNat i r)]))
noncomputable def c58 : LoopC T := ⟨[.l 52, .l 52, .l 2, .n], ⟨44, [(0, .one (.s 2)), (2, .one (.o 0 0)), (3, .one (.o 1 0)), (4, .one (.i .i64))], [.c [.g 2 52], .c [.g 3 52], .l 52, .l 52]⟩,
  fun _ => ⟨44, [(2, .one (.o 0 0)), (3, .one (.o 1 0))], [.c [.g 2 52], .c [.g 3 52], .l 52, .l 52]⟩, 20, fun d => o58 d.1 d.2.1 d.2.2.1 d.2.2.2.1⟩
theorem b58 (z r : List Seg) (l : List Int) (i : Int) : bodyD Try.prog E c58 0 (bodyX Try.prog E ctP noLoops 1000 5 L0 (lpOf Try.prog 58 0)) (z, r, l, i, ()) =
  (.br (decide (i < cnt l))
   (.req ((0 : Int) ≤ i)
   (.req (decide (IntKind.wrap IntKind.i64 (IntKind.wrap IntKind.i64 ((1 : Int) + Int.tmod (pk l i) (100000 : Int)) + (1 : Int)) ≠ (0 : Int)) = true)
   (.req (List.length r = List.length r)
   (.req (List.length r + List.length [sg l i] ≤ (1073741824 : Nat))
   (.req (List.length z = List.length z)
   (.req (List.length (r ++ [sg l i]) = List.length (r ++ [sg l i]))
   (.leaf (.inl (z, (r ++ [sg l i], (l, (IntKind.wrap IntKind.i64 (i + (1 : Int)), ()))))))))))))
   (.req (List.length z = List.length z)
   (.req (List.length r = List.length r)
   (.leaf (.inr (.exit (0 : Nat), [.l (52 : Nat) (z), .l (52 : Nat) (r)])))))) := by kernel_rfl
theorem sg_ok (l : List Int) (i : Int) : (1 ≤ (sg l i).Long ∧ (sg l i).Long ≤ 100000) ∧ (0 ≤ (sg l i).Rise ∧ (sg l i).Rise ≤ (sg l i).Long) ∧ (1 ≤ (sg l i).Area ∧ (sg l i).Area ≤ 1500) ∧ (1 ≤ (sg l i).Gap ∧ (sg l i).Gap ≤ 200) ∧ IntKind.wrap IntKind.i64 ((sg l i).Long + 1) = (sg l i).Long + 1 := by
  have h := pk_bd l i
  unfold sg
  generalize pk l i = n at h
  simp only []
  have e1 : Int.tmod n 100000 = n % 100000 := Int.tmod_eq_emod_of_nonneg h.1
  have e2 : Int.tdiv n 11 = n / 11 := Int.tdiv_eq_ediv_of_nonneg h.1
  have e3 : Int.tdiv n 3 = n / 3 := Int.tdiv_eq_ediv_of_nonneg h.1
  have e4 : Int.tdiv n 7 = n / 7 := Int.tdiv_eq_ediv_of_nonneg h.1
  rw [e1, e2, e3, e4, i64_in' (n := 1 + n % 100000) (by omega) (by omega), i64_in' (n := n / 11) (by omega) (by omega), i64_in' (n := n / 3) (by omega) (by omega), i64_in' (n := n / 7) (by omega) (by omega), i64_in' (n := 1 + n % 100000 + 1) (by omega) (by omega)]
  have e5 : Int.tmod (n / 11) (1 + n % 100000 + 1) = (n / 11) % (1 + n % 100000 + 1) := Int.tmod_eq_emod_of_nonneg (by omega)
  have e6 : Int.tmod (n / 3) 1500 = (n / 3) % 1500 := Int.tmod_eq_emod_of_nonneg (by omega)
  have e7 : Int.tmod (n / 7) 200 = (n / 7) % 200 := Int.tmod_eq_emod_of_nonneg (by omega)
  rw [e5, e6, e7, i64_in' (n := 1 + n / 3 % 1500) (by omega) (by omega), i64_in' (n := 1 + n / 7 % 200) (by omega) (by omega)]
  have m1 := Int.emod_nonneg (n / 11) (b := 1 + n % 100000 + 1) (by omega)
  have m2 := Int.emod_lt_of_pos (n / 11) (b := 1 + n % 100000 + 1) (by omega)
  refine ⟨by omega, ⟨m1, by omega⟩, by omega, by omega, rfl⟩
theorem h58' (z r : List Seg) (l : List Int) (i : Int) (K : Ex × List (V T) → Prop) (h : (0 ≤ i ∧ i ≤ cnt l) ∧ (r.length : Int) ≤ i) (hK : K (.exit 0, [.l 52 z, .l 52 (an l (cnt l - i).toNat i r)])) :
    (bodyD Try.prog E c58 0 (bodyX Try.prog E ctP noLoops 1000 5 L0 (lpOf Try.prog 58 0)) (z, r, l, i, ())).holds fun y => match y with
    | .inl d => (cnt d.2.2.1 - d.2.2.2.1).toNat < (cnt l - i).toNat ∧ (c58.out d).holds K
    | .inr y => K y := by
  rw [b58]
  have hc := cnt_bd l
  obtain ⟨⟨h0, h1⟩, h2⟩ := h
  refine way (fun c => ?_) fun c => ⟨rfl, rfl, ?_⟩
  · have e2 : IntKind.wrap IntKind.i64 (i + 1) = i + 1 := i64_in' (by omega) (by omega)
    rw [e2]
    have hs := sg_ok l i
    have e3 : IntKind.wrap IntKind.i64 (IntKind.wrap IntKind.i64 (1 + Int.tmod (pk l i) 100000) + 1) = (sg l i).Long + 1 := hs.2.2.2.2
    rw [e3]
    have hlt : (cnt l - (i + 1)).toNat < (cnt l - i).toNat := by omega
    have hK' : K (.exit 0, [.l 52 z, .l 52 (an l (cnt l - (i + 1)).toNat (i + 1) (r ++ [sg l i]))]) := by
      rw [show (cnt l - i).toNat = (cnt l - (i + 1)).toNat + 1 by omega] at hK
      exact hK
    have hin : (0 ≤ i + 1 ∧ i + 1 ≤ cnt l) ∧ ((r ++ [sg l i]).length : Int) ≤ i + 1 := by
      simp only [List.length_append, List.length_cons, List.length_nil]; omega
    exact ⟨h0, decide_eq_true (by omega), rfl, by simp only [List.length_cons, List.length_nil]; omega, rfl, rfl, hlt, hin, hK'⟩
  · rw [show (cnt l - i).toNat = 0 by omega] at hK
    exact hK
theorem h58 : LoopH Try.prog E c58 0 (bodyX Try.prog E ctP noLoops 1000 5 L0 (lpOf Try.prog 58 0)) :=
  ⟨fun d => (cnt d.2.2.1 - d.2.2.2.1).toNat, fun d K hK => by
    obtain ⟨z, r, l, i, ⟨⟩⟩ := d
    refine Tree.holds_mono (fun y hy => ?_) (h58' z r l i K hK.1 hK.2)
    cases y with
    | inl d' => exact hy
    | inr y => exact hy⟩
theorem ll58 : LLOk Try.prog E (llOf Try.prog E 58 [(3, c58)]) := llOf_ok fun i hi c hc => by
  have hi : i < 1 := hi
  obtain rfl : i = 0 := by omega
  obtain rfl : c58 = c := Option.some.inj hc
  exact LSnd.mk good names mixes ctP_ok (by decide) h58
noncomputable def ann (l : List Int) : List Seg := an l (cnt l).toNat 0 []
theorem tv58 (l : List Int) : runX ctP (llOf Try.prog E 58 [(3, c58)]) 58 [.sl 2 l false] [24] =
  (.req (((0 : Int) ≤ (0 : Int) ∧ (0 : Int) ≤ cnt l) ∧ ((([] : List Seg).length : Int) ≤ 0))
  (.req (List.length (an l (Int.toNat (cnt l - (0 : Int))) (0 : Int) []) = List.length (an l (Int.toNat (cnt l - (0 : Int))) (0 : Int) []))
  (.leaf (.agg [.sl (52 : Nat) (an l (Int.toNat (cnt l - (0 : Int))) (0 : Int) []) false])))) := by kernel_rfl
theorem s58 (l : List Int) : (runX ctP (llOf Try.prog E 58 [(3, c58)]) 58 [.sl 2 l false] [24]).holds fun v => v = .agg [.sl 52 (ann l) false] := by
  rw [tv58]
  have hc := cnt_bd l
  refine ⟨⟨⟨by decide, by omega⟩, by decide⟩, rfl, ?_⟩
  show AV.agg _ = _
  rw [Int.sub_zero]
  rfl
noncomputable def cAnn : Con T := conV Try.prog [.one (.s 2)] [.l 2] fun d => .agg [.sl 52 (ann d.1) false]
theorem ann_ok : ConOk Try.prog E 58 cAnn := conV_ok fun d => fact_run ctP_ok ll58 (ts := [24]) rfl (s58 d.1)
theorem an_hd (l : List Int) (x : Seg) : ∀ (n : Nat) (i : Int) (r : List Seg), ∃ t, an l n i (x :: r) = x :: t
  | 0, _, r => ⟨r, rfl⟩
  | n + 1, i, r => by
    obtain ⟨t, ht⟩ := an_hd l x n (i + 1) (r ++ [sg l i])
    exact ⟨t, ht⟩
theorem ann_hd (l : List Int) : 0 < (ann l).length ∧ sgi (ann l) 0 = sg l 0 := by
  have hc := cnt_bd l
  have e : ann l = an l ((cnt l).toNat - 1) (0 + 1) ([] ++ [sg l 0]) := by
    unfold ann
    rw [show (cnt l).toNat = ((cnt l).toNat - 1) + 1 by omega]; rfl
  obtain ⟨t, ht⟩ := an_hd l (sg l 0) ((cnt l).toNat - 1) (0 + 1) []
  have e2 : ann l = sg l 0 :: t := e.trans ht
  refine ⟨by rw [e2]; simp, ?_⟩
  have := drop_sg (l := ann l) (i := 0) (by rw [e2]; simp)
  rw [List.drop_zero] at this
  have h2 := e2.symm.trans this
  exact (List.cons.inj h2).1.symm
noncomputable def ctQ : CTab T := [(58, cAnn), (60, cMod), (52, cLoad), (54, cMixed), (19, cAwake)]
theorem ctQ_ok : CTabOk Try.prog E ctQ := .cons ann_ok (.cons mod64_ok (.cons load_ok (.cons mixed_ok (.cons awake_ok .nil))))
theorem tv18 (l : List Int) (a b c d e f : Int) : runX ctQ noLoops 18 [.sl 2 l false, i64 a, i64 b, i64 c, i64 d, i64 e, i64 f] [4] =
  (.req ((true && decide ((0 : Int) < (↑(List.length (ann l)) : Int))) = true)
  (.req (mPre a (10000 : Int))
  (.req (mPre b (500000 : Int))
  (.req (mPre c (300 : Int))
  (.req (mPre d (500000 : Int))
  (.req (mPre e (30000 : Int))
  (.req (mPre f (10001 : Int))
  (.req (inL (Seg.mk (Seg.Long (sgi (ann l) (0 : Int))) (Seg.Rise (sgi (ann l) (0 : Int))) (Seg.Area (sgi (ann l) (0 : Int))) (Seg.Gap (sgi (ann l) (0 : Int)))))
  (.req (inL (Seg.mk (Seg.Long (sgi (ann l) (0 : Int))) (Seg.Rise (sgi (ann l) (0 : Int))) (Seg.Area (sgi (ann l) (0 : Int))) (Seg.Gap (sgi (ann l) (0 : Int)))))
  (.br (!decide (okL (Seg.mk (Seg.Long (sgi (ann l) (0 : Int))) (Seg.Rise (sgi (ann l) (0 : Int))) (Seg.Area (sgi (ann l) (0 : Int))) (Seg.Gap (sgi (ann l) (0 : Int)))) (a % (10000 : Int)) (b % (500000 : Int)) (c % (300 : Int))) == decide (b % (500000 : Int) > IntKind.wrap IntKind.i64 (c % (300 : Int) * Seg.Area (sgi (ann l) (0 : Int)))))
   (.leaf (.bool (false)))
   (.br (decide (okL (Seg.mk (Seg.Long (sgi (ann l) (0 : Int))) (Seg.Rise (sgi (ann l) (0 : Int))) (Seg.Area (sgi (ann l) (0 : Int))) (Seg.Gap (sgi (ann l) (0 : Int)))) (a % (10000 : Int)) (b % (500000 : Int)) (c % (300 : Int))))
    (.br (!decide (okL (Seg.mk (Seg.Long (sgi (ann l) (0 : Int))) (Seg.Rise (sgi (ann l) (0 : Int))) (Seg.Area (sgi (ann l) (0 : Int))) (Seg.Gap (sgi (ann l) (0 : Int)))) (a % (10000 : Int)) (IntKind.wrap IntKind.i64 (b % (500000 : Int) + d % (500000 : Int))) (c % (300 : Int))))
     (.leaf (.bool (false)))
     (.br (decide (load (Seg.mk (Seg.Long (sgi (ann l) (0 : Int))) (Seg.Rise (sgi (ann l) (0 : Int))) (Seg.Area (sgi (ann l) (0 : Int))) (Seg.Gap (sgi (ann l) (0 : Int)))) (a % (10000 : Int)) (IntKind.wrap IntKind.i64 (b % (500000 : Int) + d % (500000 : Int))) (c % (300 : Int)) > load (Seg.mk (Seg.Long (sgi (ann l) (0 : Int))) (Seg.Rise (sgi (ann l) (0 : Int))) (Seg.Area (sgi (ann l) (0 : Int))) (Seg.Gap (sgi (ann l) (0 : Int)))) (a % (10000 : Int)) (b % (500000 : Int)) (c % (300 : Int))))
      (.leaf (.bool (false)))
      (.br (decide (load (Seg.mk (Seg.Long (sgi (ann l) (0 : Int))) (Seg.Rise (sgi (ann l) (0 : Int))) (Seg.Area (sgi (ann l) (0 : Int))) (Seg.Gap (sgi (ann l) (0 : Int)))) (a % (10000 : Int)) (b % (500000 : Int)) (c % (300 : Int)) < (0 : Int)))
       (.leaf (.bool (false)))
       (.br (decide (load (Seg.mk (Seg.Long (sgi (ann l) (0 : Int))) (Seg.Rise (sgi (ann l) (0 : Int))) (Seg.Area (sgi (ann l) (0 : Int))) (Seg.Gap (sgi (ann l) (0 : Int)))) (a % (10000 : Int)) (b % (500000 : Int)) (c % (300 : Int)) > (1000 : Int)))
        (.leaf (.bool (false)))
        (.br (decide (mixed (e % (30000 : Int)) (IntKind.wrap IntKind.i64 (e % (30000 : Int) + f % (10001 : Int))) (load (Seg.mk (Seg.Long (sgi (ann l) (0 : Int))) (Seg.Rise (sgi (ann l) (0 : Int))) (Seg.Area (sgi (ann l) (0 : Int))) (Seg.Gap (sgi (ann l) (0 : Int)))) (a % (10000 : Int)) (b % (500000 : Int)) (c % (300 : Int))) ≥ e % (30000 : Int)))
         (.br (decide (mixed (e % (30000 : Int)) (IntKind.wrap IntKind.i64 (e % (30000 : Int) + f % (10001 : Int))) (load (Seg.mk (Seg.Long (sgi (ann l) (0 : Int))) (Seg.Rise (sgi (ann l) (0 : Int))) (Seg.Area (sgi (ann l) (0 : Int))) (Seg.Gap (sgi (ann l) (0 : Int)))) (a % (10000 : Int)) (b % (500000 : Int)) (c % (300 : Int))) ≤ IntKind.wrap IntKind.i64 (e % (30000 : Int) + f % (10001 : Int))))
          (.br (mixed (e % (30000 : Int)) (IntKind.wrap IntKind.i64 (e % (30000 : Int) + f % (10001 : Int))) (0 : Int) == e % (30000 : Int))
           (.br (mixed (e % (30000 : Int)) (IntKind.wrap IntKind.i64 (e % (30000 : Int) + f % (10001 : Int))) (1000 : Int) == IntKind.wrap IntKind.i64 (e % (30000 : Int) + f % (10001 : Int)))
            (.leaf (.bool (true)))
            (.leaf (.bool (false))))
           (.leaf (.bool (false))))
          (.leaf (.bool (false))))
         (.leaf (.bool (false))))))))
    (.br (decide (mixed (e % (30000 : Int)) (IntKind.wrap IntKind.i64 (e % (30000 : Int) + f % (10001 : Int))) (load (Seg.mk (Seg.Long (sgi (ann l) (0 : Int))) (Seg.Rise (sgi (ann l) (0 : Int))) (Seg.Area (sgi (ann l) (0 : Int))) (Seg.Gap (sgi (ann l) (0 : Int)))) (a % (10000 : Int)) (b % (500000 : Int)) (c % (300 : Int))) ≥ e % (30000 : Int)))
     (.br (decide (mixed (e % (30000 : Int)) (IntKind.wrap IntKind.i64 (e % (30000 : Int) + f % (10001 : Int))) (load (Seg.mk (Seg.Long (sgi (ann l) (0 : Int))) (Seg.Rise (sgi (ann l) (0 : Int))) (Seg.Area (sgi (ann l) (0 : Int))) (Seg.Gap (sgi (ann l) (0 : Int)))) (a % (10000 : Int)) (b % (500000 : Int)) (c % (300 : Int))) ≤ IntKind.wrap IntKind.i64 (e % (30000 : Int) + f % (10001 : Int))))
      (.br (mixed (e % (30000 : Int)) (IntKind.wrap IntKind.i64 (e % (30000 : Int) + f % (10001 : Int))) (0 : Int) == e % (30000 : Int))
       (.br (mixed (e % (30000 : Int)) (IntKind.wrap IntKind.i64 (e % (30000 : Int) + f % (10001 : Int))) (1000 : Int) == IntKind.wrap IntKind.i64 (e % (30000 : Int) + f % (10001 : Int)))
        (.leaf (.bool (true)))
        (.leaf (.bool (false))))
       (.leaf (.bool (false))))
      (.leaf (.bool (false))))
     (.leaf (.bool (false))))))))))))))) := by kernel_rfl
theorem mix_eq {e g x : Int} (he : 0 ≤ e ∧ e < 30000) (hg : 0 ≤ g ∧ g < 10001) (hx : 0 ≤ x ∧ x ≤ 1000) : mixed e (e + g) x = e + -(-(g * x) / 1000) := by
  unfold mixed
  rw [if_pos (by omega), show e + g - e = g by omega]
theorem s18 (l : List Int) (a b c d e f : Int) : (runX ctQ noLoops 18 [.sl 2 l false, i64 a, i64 b, i64 c, i64 d, i64 e, i64 f] [4]).holds fun v => v = .bool true := by
  rw [tv18]
  obtain ⟨hl, hh⟩ := ann_hd l
  rw [hh]
  have hs := sg_ok l 0
  generalize sg l 0 = s at hs
  obtain ⟨L, R, A, G⟩ := s
  simp only [] at hs
  have ha : 0 ≤ a % 10000 ∧ a % 10000 < 10000 := by omega
  have hb : 0 ≤ b % 500000 ∧ b % 500000 < 500000 := by omega
  have hc : 0 ≤ c % 300 ∧ c % 300 < 300 := by omega
  have hd : 0 ≤ d % 500000 ∧ d % 500000 < 500000 := by omega
  have he : 0 ≤ e % 30000 ∧ e % 30000 < 30000 := by omega
  have hg : 0 ≤ f % 10001 ∧ f % 10001 < 10001 := by omega
  refine ⟨by simpa using hl, ⟨by decide, by decide⟩, ⟨by decide, by decide⟩, ⟨by decide, by decide⟩, ⟨by decide, by decide⟩, ⟨by decide, by decide⟩, ⟨by decide, by decide⟩, by unfold inL; simp only []; omega, by unfold inL; simp only []; omega, ?_⟩
  generalize a % 10000 = a at *
  generalize b % 500000 = b at *
  generalize c % 300 = c at *
  generalize d % 500000 = d at *
  generalize e % 30000 = e at *
  generalize f % 10001 = g at *
  have hm := mulb (a := c) (b := A) (m := 300) (k := 1500) hc.1 (by omega) (by omega) hs.2.2.1.2
  rw [i64_in' (n := b + d) (by omega) (by omega), i64_in' (n := e + g) (by omega) (by omega), i64_in' (n := c * A) (by omega) (by omega)]
  have ok1 : okL ⟨L, R, A, G⟩ a b c ↔ b > c * A := ⟨fun h => by have := h.2.2.2.2; simp only [] at this; omega, fun h => ⟨by unfold okSg; simp only []; omega, by omega, by omega, by omega, by simp only []; omega⟩⟩
  have ok2 : b > c * A → okL ⟨L, R, A, G⟩ a (b + d) c := fun h => ⟨by unfold okSg; simp only []; omega, by omega, by omega, by omega, by simp only []; omega⟩
  have tail : ∀ x : Int, 0 ≤ x ∧ x ≤ 1000 → (Tree.br (decide (mixed e (e + g) x ≥ e)) (.br (decide (mixed e (e + g) x ≤ e + g)) (.br (mixed e (e + g) 0 == e) (.br (mixed e (e + g) 1000 == e + g) (.leaf (.bool true)) (.leaf (.bool false))) (.leaf (.bool false))) (.leaf (.bool false))) (.leaf (.bool false)) : Tree (AV T)).holds fun v => v = .bool true := fun x hx => by
    rw [mix_eq he hg hx, mix_eq he hg (by omega), mix_eq he hg (by omega)]
    have h1 := mulb (a := g) (b := x) (m := g) (k := 1000) hg.1 (Int.le_refl g) hx.1 hx.2
    generalize g * x = m at *
    exact way (fun _ => way (fun _ => wayEq (fun _ => wayEq (fun _ => rfl) fun q => absurd (by omega) q) fun q => absurd (by omega) q) fun q => absurd (by omega) q) fun q => absurd (by omega) q
  refine wayB (fun q => ?_) fun _ => wayB (fun k => ?_) fun k => ?_
  · rw [decide_eq_decide.2 ok1] at q
    cases h : decide (b > c * A) <;> rw [h] at q <;> exact absurd q (by decide)
  · have k : okL ⟨L, R, A, G⟩ a b c := of_decide_eq_true k
    have k2 := ok2 (ok1.1 k)
    have e1 : load ⟨L, R, A, G⟩ a b c = if lift ⟨L, R, A, G⟩ a b c < 1000 then lift ⟨L, R, A, G⟩ a b c else 1000 := if_pos k
    have e2 : load ⟨L, R, A, G⟩ a (b + d) c = if lift ⟨L, R, A, G⟩ a (b + d) c < 1000 then lift ⟨L, R, A, G⟩ a (b + d) c else 1000 := if_pos k2
    have l1 := lift_bd k
    have l2 : lift ⟨L, R, A, G⟩ a (b + d) c ≤ lift ⟨L, R, A, G⟩ a b c := up_anti (by omega) (Int.le_refl _) (by have := ok1.1 k; simp only []; omega) (by simp only []; omega)
    have x1 : 0 ≤ load ⟨L, R, A, G⟩ a b c ∧ load ⟨L, R, A, G⟩ a b c ≤ 1000 := by rw [e1]; split <;> omega
    have x2 : load ⟨L, R, A, G⟩ a (b + d) c ≤ load ⟨L, R, A, G⟩ a b c := by rw [e1, e2]; split <;> split <;> omega
    refine wayB (fun q => ?_) fun _ => way (fun q => absurd q (by show ¬ load ⟨L, R, A, G⟩ a (b + d) c > load ⟨L, R, A, G⟩ a b c; omega)) fun _ => way (fun q => absurd q (by show ¬ load ⟨L, R, A, G⟩ a b c < 0; omega)) fun _ => way (fun q => absurd q (by show ¬ load ⟨L, R, A, G⟩ a b c > 1000; omega)) fun _ => tail _ x1
    have k2' : decide (okL ⟨L, R, A, G⟩ a (b + d) c) = true := decide_eq_true k2
    have q : (!decide (okL ⟨L, R, A, G⟩ a (b + d) c)) = true := q
    rw [k2'] at q
    exact absurd q (by decide)
  · have k : ¬ okL ⟨L, R, A, G⟩ a b c := of_decide_eq_false k
    have e1 : load ⟨L, R, A, G⟩ a b c = 0 := if_neg k
    exact tail _ (by show 0 ≤ load ⟨L, R, A, G⟩ a b c ∧ load ⟨L, R, A, G⟩ a b c ≤ 1000; omega)
end Go.Proofs.Ytnhedcaphncliaa.W
