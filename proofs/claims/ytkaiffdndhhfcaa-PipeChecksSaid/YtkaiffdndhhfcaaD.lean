/- PipeChecks: weights, joints. No condition. -/
import Derived.Test.YtkaiffdndhhfcaaC
set_option linter.unusedVariables false
set_option maxRecDepth 100000
set_option maxHeartbeats 4000000
noncomputable section
namespace Go.Proofs.Ytkaiffdndhhfcaa.W
open Go Go.Cx Go.RowKit
noncomputable def wtS (l : List Tube) (m : Int) : Int := if ckS l = 0 ∧ within m 0 40000 = true then fdT (fW m) 0 l else 0
theorem wt_t {l : List Tube} {m : Int} {P : Prop} (hP : l.length ≤ 8 → P) : (Tree.br (ckS l != (0 : Int)) (.leaf (i64 0)) (.br (!within m (0 : Int) (40000 : Int)) (.leaf (i64 0)) (.req P (.leaf (i64 (fdT (fW m) (0 : Int) (List.drop (Int.toNat (0 : Int)) l)))))) : Tree (AV T)).holds fun v => v = i64 (wtS l m) := by
  unfold wtS
  refine wayNe (fun c => ?_) fun c => wayB (fun k => ?_) fun k => ⟨hP (ck_0 c).1, ?_⟩
  · rw [if_neg (fun q => c q.1)]; rfl
  · rw [if_neg (fun q => notB' k q.2)]; rfl
  · rw [if_pos ⟨c, notB k⟩]; rfl
theorem s20 (l : List Tube) (m : Int) : (runX ctD (llOf Try.prog E 20 [(5, c20)]) 20 [.agg [.sl 26 l false], i64 m] [2]).holds fun v => v = i64 (wtS l m) := by
  rw [tv20]
  exact wt_t fun h => ⟨⟨by decide, rfl⟩, by omega⟩
theorem s21 (l : List Tube) (m : Int) : (runX ctD (llOf Try.prog E 21 [(5, c21)]) 21 [.agg [.sl 26 l false], i64 m] [2]).holds fun v => v = i64 (wtS l m) := by
  rw [tv21]
  exact wt_t fun h => ⟨by decide, by omega⟩
noncomputable def cWt : Con T := conV Try.prog [.agg [.s 26], .one (.i .i64)] [.l 26, .n] fun d => i64 (wtS d.1 d.2.1)
theorem wt_ok : ConOk Try.prog E 20 cWt := conV_ok fun d => fact_run ctD_ok ll20 (ts := [2]) rfl (s20 d.1 d.2.1)
theorem wt2_ok : ConOk Try.prog E 21 cWt := conV_ok fun d => fact_run ctD_ok ll21 (ts := [2]) rfl (s21 d.1 d.2.1)
/-! ### joints -/
@[reducible] noncomputable def lst (r : List Int) : Int := ni r ((r.length : Int) - 1)
theorem len_ap {b : Int} {r : List Int} : (ap b r).length = r.length + 1 := by unfold ap; simp
theorem len_it : ∀ (k : Nat) (b : Int) (r : List Int), (it k b r).length = r.length + k
  | 0, _, _ => rfl
  | k + 1, b, r => by
    show (it k b (ap b r)).length = _
    rw [len_it k b (ap b r), len_ap]; omega
theorem lst_ap {b : Int} {r : List Int} : lst (ap b r) = w64 (lst r + b) := by
  unfold lst
  rw [len_ap, show ((r.length + 1 : Nat) : Int) - 1 = (r.length : Int) by omega]
  have := drop_ni (l := ap b r) (i := r.length) (by rw [len_ap]; omega)
  unfold ap at this ⊢
  rw [List.drop_left] at this
  exact (List.cons.inj this).1.symm
theorem it_step {cnt i b : Int} {r : List Int} (h : i < cnt) : it (cnt - i).toNat b r = it (cnt - (i + 1)).toNat b (ap b r) := by
  rw [show (cnt - i).toNat = (cnt - (i + 1)).toNat + 1 by omega]; rfl
theorem ti_tub {l : List Tube} {i : Nat} (h : (i : Int) < l.length) (g : l.all tub = true) : tub (ti l i) = true := by
  have : ti l i ∈ l.drop i := by rw [drop_ti (by omega)]; exact List.mem_cons_self
  exact List.all_eq_true.1 g _ (List.mem_of_mem_drop this)
theorem tub_cnt {t : Tube} (h : tub t = true) : 1 ≤ t.Count ∧ t.Count ≤ 400 := by
  unfold tub at h
  exact of_decide_eq_true (Bool.and_eq_true_iff.1 h).1
theorem jn_cons {l : List Tube} {i : Nat} {r : List Int} (h : (i : Int) < l.length) : jn r (l.drop i) = jn (it (ti l i).Count.toNat (ti l i).Len r) (l.drop (i + 1)) := by
  rw [drop_ti (by omega)]; rfl
theorem jn_end {l : List Tube} {i : Nat} {r : List Int} (h : ¬ (i : Int) < l.length) : jn r (l.drop i) = r := by
  rw [List.drop_eq_nil_of_le (by omega)]; rfl
theorem h25i' (r : List Int) (l : List Tube) (n j cnt i a b c d e f g h k : Int) (K : Ex × List (V T) → Prop) (hi : (0 ≤ i ∧ i ≤ cnt ∧ cnt ≤ 400) ∧ 1 ≤ r.length ∧ (r.length : Int) + (cnt - i) ≤ 4000) (hK : K (.exit 2, [.l 2 (it (cnt - i).toNat b r), .l 26 l, .n n, .n j])) :
    (bodyD Try.prog E c25i 0 (bodyX Try.prog E ctD noLoops 1000 5 L0 (lpOf Try.prog 25 1)) (r, l, n, j, cnt, i, a, b, c, d, e, f, g, h, k, ())).holds fun y => match y with
    | .inl d => (d.2.2.2.2.1 - d.2.2.2.2.2.1).toNat < (cnt - i).toNat ∧ (c25i.out d).holds K
    | .inr y => K y := by
  rw [b25i]
  have e1 : IntKind.wrap IntKind.i64 ((r.length : Int) - 1) = (r.length : Int) - 1 := i64_in' (by omega) (by omega)
  have e2 : IntKind.wrap IntKind.i64 (i + 1) = i + 1 := i64_in' (by omega) (by omega)
  rw [e1, e2]
  refine way (fun q => ?_) fun q => ⟨rfl, ?_⟩
  · rw [it_step q] at hK
    have hl : (ap b r).length = r.length + 1 := len_ap
    have hlt : (cnt - (i + 1)).toNat < (cnt - i).toNat := by omega
    have hin : (0 ≤ i + 1 ∧ i + 1 ≤ cnt ∧ cnt ≤ 400) ∧ 1 ≤ (ap b r).length ∧ ((ap b r).length : Int) + (cnt - (i + 1)) ≤ 4000 := by omega
    exact wayC (by omega) (by omega) fun _ _ => wayC (by omega) (by omega) fun _ _ => ⟨rfl, by simp only [List.length_cons, List.length_nil]; omega, rfl, hlt, hin, hK⟩
  · rw [show (cnt - i).toNat = 0 by omega] at hK
    exact hK
theorem h25i : LoopH Try.prog E c25i 0 (bodyX Try.prog E ctD noLoops 1000 5 L0 (lpOf Try.prog 25 1)) :=
  ⟨fun d => (d.2.2.2.2.1 - d.2.2.2.2.2.1).toNat, fun d K hK => by
    obtain ⟨r, l, n, j, cnt, i, a, b, c, d, e, f, g, h, k, ⟨⟩⟩ := d
    refine Tree.holds_mono (fun y hy => ?_) (h25i' r l n j cnt i a b c d e f g h k K hK.1 hK.2)
    cases y with
    | inl d' => exact hy
    | inr y => exact hy⟩
theorem snd25i : LSnd Try.prog E (lpOf Try.prog 25 1) c25i := LSnd.mk good names mixes ctD_ok (by decide) h25i
theorem h25' (r : List Int) (l : List Tube) (i : Nat) (K : Ex × List (V T) → Prop) (h : inv25 l i r) (hK : K (.exit 0, [.l 2 (jn r (l.drop i))])) :
    (bodyD Try.prog E c25 0 (bodyX Try.prog E ctD noLoops 1000 5 (tabL Try.prog E [(8, c25i)]) (lpOf Try.prog 25 0)) (r, l, (l.length : Int), (i : Int), ())).holds fun y => match y with
    | .inl d => ((d.2.1.length : Int) - d.2.2.2.1).toNat < ((l.length : Int) - (i : Int)).toNat ∧ (c25.out d).holds K
    | .inr y => K y := by
  rw [b25]
  obtain ⟨⟨⟨h0, h1⟩, h2⟩, h3, h4⟩ := h
  refine way (fun c => ?_) fun c => ⟨rfl, ?_⟩
  · have e2 : IntKind.wrap IntKind.i64 ((i : Int) + 1) = ((i + 1 : Nat) : Int) := i64_in' (by omega) (by omega)
    rw [e2]
    have hc := tub_cnt (ti_tub c h2)
    rw [jn_cons c] at hK
    have hlt : ((l.length : Int) - ((i + 1 : Nat) : Int)).toNat < ((l.length : Int) - (i : Int)).toNat := by omega
    rw [Int.sub_zero]
    have hl := len_it (ti l i).Count.toNat (ti l i).Len r
    have hin : inv25 l ((i + 1 : Nat) : Int) (it (ti l i).Count.toNat (ti l i).Len r) := ⟨⟨⟨by omega, h1⟩, h2⟩, by omega, by omega⟩
    exact wayC h0 c fun _ _ => ⟨rfl, ⟨⟨by decide, by omega, by omega⟩, h3, by omega⟩, rfl, hlt, ⟨rfl, hin⟩, hK⟩
  · rw [jn_end c] at hK
    exact hK
theorem h25 : LoopH Try.prog E c25 0 (bodyX Try.prog E ctD noLoops 1000 5 (tabL Try.prog E [(8, c25i)]) (lpOf Try.prog 25 0)) :=
  ⟨fun d => ((d.2.1.length : Int) - d.2.2.2.1).toNat, fun d K hK => by
    obtain ⟨r, l, n, i, ⟨⟩⟩ := d
    obtain ⟨⟨k2, k3⟩, k4⟩ := hK
    obtain ⟨q, hq⟩ := Int.eq_ofNat_of_zero_le k3.1.1.1
    obtain rfl : i = (q : Int) := hq
    obtain rfl : n = ((l : List Tube).length : Int) := k2
    refine Tree.holds_mono (fun y hy => ?_) (h25' r l q K k3 k4)
    cases y with
    | inl d' => exact hy
    | inr y => exact hy⟩
theorem in25 : ∀ b' ∈ loopsIn (lpOf Try.prog 25 0), ∀ c', lkL (keyOfC b') [(8, c25i)] = some c' → LSnd Try.prog E b' c' := by
  intro b' hb' c' hc'
  have e : loopsIn (lpOf Try.prog 25 0) = [lpOf Try.prog 25 1] := by kernel_rfl
  rw [e] at hb'
  obtain rfl := List.mem_singleton.1 hb'
  obtain rfl : c25i = c' := Option.some.inj hc'
  exact snd25i
theorem ll25 : LLOk Try.prog E (llOf Try.prog E 25 [(5, c25), (8, c25i)]) := llOf_ok fun i hi c hc => by
  have hi : i < 2 := hi
  have : i = 0 ∨ i = 1 := by omega
  rcases this with rfl | rfl
  · obtain rfl : c25 = c := Option.some.inj hc
    exact LSnd.mk2 good names mixes ctD_ok (by decide) in25 h25
  · obtain rfl : c25i = c := Option.some.inj hc
    exact snd25i
noncomputable def joS (l : List Tube) : List Int := if ckS l = 0 then jn [0] l else []
theorem s25 (l : List Tube) : (runX ctD (llOf Try.prog E 25 [(5, c25), (8, c25i)]) 25 [.agg [.sl 26 l false]] [35]).holds fun v => v = .sl 2 (joS l) false := by
  rw [tv25]
  unfold joS
  refine wayNe (fun c => ?_) fun c => ⟨⟨rfl, ⟨⟨⟨by decide, (ck_0 c).1⟩, (ck_0 c).2⟩, by decide, by decide⟩⟩, rfl, ?_⟩
  · rw [if_neg c]; rfl
  · rw [if_pos c]; rfl
noncomputable def cJo : Con T := conV Try.prog [.agg [.s 26]] [.l 26] fun d => .sl 2 (joS d.1) false
theorem jo_ok : ConOk Try.prog E 25 cJo := conV_ok fun d => fact_run ctD_ok ll25 (ts := [35]) rfl (s25 d.1)
/-! ### the reference's joints -/
noncomputable def i26 (l : List Tube) (i at' : Int) (r : List Int) : Prop := (0 ≤ i ∧ i < l.length) ∧ at' = lst r ∧ 1 ≤ r.length
noncomputable def o26i (r : List Int) (x i n : Int) (l : List Tube) : Tree (Ex × List (V T)) := .req (i26 l i x r ∧ (0 ≤ n ∧ n ≤ (ti l i).Count ∧ (ti l i).Count ≤ 400) ∧ (r.length : Int) + ((ti l i).Count - n) ≤ 4000) (.leaf (.exit 2, [.l 2 (it ((ti l i).Count - n).toNat (ti l i).Len r), .n (lst (it ((ti l i).Count - n).toNat (ti l i).Len r)), .n i, .l 26 l]))
noncomputable def c26i : LoopC T := ⟨[.l 2, .n, .n, .n, .l 26], ⟨41, [(1, .one (.o 0 0)), (3, .one (.g 1 2)), (4, .one (.i .i64)), (5, .one (.i .i64)), (6, .one (.i .i64))], [.c [.s 26], .l 2]⟩,
  fun _ => ⟨41, [(1, .one (.o 0 0)), (3, .one (.g 1 2)), (4, .one (.i .i64)), (5, .one (.i .i64))], [.c [.s 26], .l 2]⟩, 20, fun d => o26i d.1 d.2.1 d.2.2.1 d.2.2.2.1 d.2.2.2.2.1⟩
theorem b26i (r : List Int) (x i n : Int) (l : List Tube) : bodyD Try.prog E c26i 0 (bodyX Try.prog E ctD noLoops 1000 5 L0 (lpOf Try.prog 26 1)) (r, x, i, n, l, ()) =
  (.req ((decide ((0 : Int) ≤ i) && decide (i < (↑(List.length l) : Int))) = true)
  (.br (decide (n < Tube.Count (ti l i)))
   (.req ((decide ((0 : Int) ≤ i) && decide (i < (↑(List.length l) : Int))) = true)
   (.req (List.length r = List.length r)
   (.req (List.length r + List.length [IntKind.wrap IntKind.i64 (x + Tube.Len (ti l i))] ≤ (1073741824 : Nat))
   (.req (List.length (r ++ [IntKind.wrap IntKind.i64 (x + Tube.Len (ti l i))]) = List.length (r ++ [IntKind.wrap IntKind.i64 (x + Tube.Len (ti l i))]))
   (.leaf (.inl (r ++ [IntKind.wrap IntKind.i64 (x + Tube.Len (ti l i))], (IntKind.wrap IntKind.i64 (x + Tube.Len (ti l i)), (i, (IntKind.wrap IntKind.i64 (n + (1 : Int)), (l, ())))))))))))
   (.req (List.length r = List.length r)
   (.leaf (.inr (.exit (2 : Nat), [.l (2 : Nat) (r), .n (x), .n (i), .l (26 : Nat) (l)])))))) := by kernel_rfl
noncomputable def o26 (r : List Int) (x i : Int) (l : List Tube) : Tree (Ex × List (V T)) := .req (x = lst r ∧ inv25 l i r) (.leaf (.exit 0, [.l 2 (jn r (l.drop i.toNat))]))
noncomputable def c26 : LoopC T := ⟨[.l 2, .n, .n, .l 26], ⟨41, [(1, .one (.o 0 0)), (3, .one (.g 1 2)), (4, .one (.i .i64)), (5, .one (.i .i64))], [.c [.s 26], .l 2]⟩,
  fun _ => ⟨41, [(3, .one (.g 0 2))], [.l 2]⟩, 40, fun d => o26 d.1 d.2.1 d.2.2.1 d.2.2.2.1⟩
theorem b26 (r : List Int) (x i : Int) (l : List Tube) : bodyD Try.prog E c26 0 (bodyX Try.prog E ctD noLoops 1000 5 (tabL Try.prog E [(9, c26i)]) (lpOf Try.prog 26 0)) (r, x, i, l, ()) =
  (.br (decide (i < (↑(List.length l) : Int)))
   (.req (List.length r = List.length r)
   (.req (i26 l i x r ∧ ((0 : Int) ≤ (0 : Int) ∧ (0 : Int) ≤ Tube.Count (ti l i) ∧ Tube.Count (ti l i) ≤ (400 : Int)) ∧ (↑(List.length r) : Int) + (Tube.Count (ti l i) - (0 : Int)) ≤ (4000 : Int))
   (.req (List.length (it (Int.toNat (Tube.Count (ti l i) - (0 : Int))) (Tube.Len (ti l i)) r) = List.length (it (Int.toNat (Tube.Count (ti l i) - (0 : Int))) (Tube.Len (ti l i)) r))
   (.leaf (.inl (it (Int.toNat (Tube.Count (ti l i) - (0 : Int))) (Tube.Len (ti l i)) r, (lst (it (Int.toNat (Tube.Count (ti l i) - (0 : Int))) (Tube.Len (ti l i)) r), (IntKind.wrap IntKind.i64 (i + (1 : Int)), (l, ())))))))))
   (.req (List.length r = List.length r)
   (.leaf (.inr (.exit (0 : Nat), [.l (2 : Nat) (r)]))))) := by kernel_rfl
theorem tv26 (l : List Tube) : runX ctD (llOf Try.prog E 26 [(6, c26), (9, c26i)]) 26 [.agg [.sl 26 l false]] [35] =
  (.br (ckS l != (0 : Int))
   (.leaf (.sl (2 : Nat) ([]) false))
   (.req ((0 : Int) = lst [(0 : Int)] ∧ inv25 l (0 : Int) [(0 : Int)])
   (.req (List.length (jn [(0 : Int)] (List.drop (Int.toNat (0 : Int)) l)) = List.length (jn [(0 : Int)] (List.drop (Int.toNat (0 : Int)) l)))
   (.leaf (.sl (2 : Nat) (jn [(0 : Int)] (List.drop (Int.toNat (0 : Int)) l)) false))))) := by kernel_rfl
end Go.Proofs.Ytkaiffdndhhfcaa.W
