/- Numbers by their digits: products, sums, and which is greater: the loops. No condition. -/
import Derived.Test.YtnhedcaphncliaaBG
set_option linter.unusedVariables false
set_option maxRecDepth 100000
set_option maxHeartbeats 4000000
noncomputable section
namespace Go.Proofs.Ytnhedcaphncliaa.W.Big
open Go Go.Cx Go.RowKit
theorem mulD_cons {r : List Int} {k f c : Int} (h0 : 0 ≤ k) (h : k < r.length) : mulD (r.drop k.toNat) f c = (c + bi r k * f) % 1000000 :: mulD (r.drop (k + 1).toNat) f ((c + bi r k * f) / 1000000) := by
  rw [drop_bI h0 h]
  rfl
theorem mulD_more {r : List Int} {k f c : Int} (h : ¬ k < r.length) (hc : 0 < c) : mulD (r.drop k.toNat) f c = c % 1000000 :: mulD (r.drop (k + 1).toNat) f (c / 1000000) := by
  rw [drop_b h, drop_b (i := k + 1) (by omega)]
  show dg c = _
  rw [dg_eq, if_pos hc]
  rfl
theorem mulD_end {r : List Int} {k f c : Int} (h : ¬ k < r.length) (hc : ¬ 0 < c) : mulD (r.drop k.toNat) f c = [] := by
  rw [drop_b h]
  show dg c = _
  rw [dg_eq, if_neg hc]
theorem dg_nn {l : List Int} (h : Dg l) {k : Int} (h0 : 0 ≤ k) (h1 : k < l.length) : 0 ≤ bi l k ∧ bi l k < 1000000 := h _ (bi_mem h0 h1)
theorem addD_xy {x y : List Int} {k c : Int} (h0 : 0 ≤ k) (hx : k < x.length) (hy : k < y.length) : addD (x.drop k.toNat) (y.drop k.toNat) c = (c + bi x k + bi y k) % 1000000 :: addD (x.drop (k + 1).toNat) (y.drop (k + 1).toNat) ((c + bi x k + bi y k) / 1000000) := by
  rw [drop_bI h0 hx, drop_bI h0 hy]
  rfl
theorem addD_x {x y : List Int} {k c : Int} (h0 : 0 ≤ k) (hx : k < x.length) (hy : ¬ k < y.length) : addD (x.drop k.toNat) (y.drop k.toNat) c = (c + bi x k) % 1000000 :: addD (x.drop (k + 1).toNat) (y.drop (k + 1).toNat) ((c + bi x k) / 1000000) := by
  rw [drop_bI h0 hx, drop_b hy, drop_b (l := y) (i := k + 1) (by omega)]
  rfl
theorem addD_y {x y : List Int} {k c : Int} (h0 : 0 ≤ k) (hx : ¬ k < x.length) (hy : k < y.length) : addD (x.drop k.toNat) (y.drop k.toNat) c = (c + bi y k) % 1000000 :: addD (x.drop (k + 1).toNat) (y.drop (k + 1).toNat) ((c + bi y k) / 1000000) := by
  rw [drop_b hx, drop_bI h0 hy, drop_b (l := x) (i := k + 1) (by omega)]
  rfl
theorem addD_c {x y : List Int} {k c : Int} (hx : ¬ k < x.length) (hy : ¬ k < y.length) (hc : 0 < c) : addD (x.drop k.toNat) (y.drop k.toNat) c = c % 1000000 :: addD (x.drop (k + 1).toNat) (y.drop (k + 1).toNat) (c / 1000000) := by
  rw [drop_b hx, drop_b hy, drop_b (l := x) (i := k + 1) (by omega), drop_b (l := y) (i := k + 1) (by omega)]
  show dg c = _
  rw [dg_eq, if_pos hc]
  rfl
theorem addD_e {x y : List Int} {k c : Int} (hx : ¬ k < x.length) (hy : ¬ k < y.length) (hc : ¬ 0 < c) : addD (x.drop k.toNat) (y.drop k.toNat) c = [] := by
  rw [drop_b hx, drop_b hy]
  show dg c = _
  rw [dg_eq, if_neg hc]
theorem tmod_m {c : Int} (h : 0 ≤ c) : Int.tmod c 1000000 = c % 1000000 ∧ Int.tdiv c 1000000 = c / 1000000 := ⟨Int.tmod_eq_emod_of_nonneg h, Int.tdiv_eq_ediv_of_nonneg h⟩
noncomputable def oBi (r : List Int) (x : List Int) (l : List Int) (i : Int) (c : Int) (k : Int) : Tree (Ex × List (V T)) := .req (((Dg r ∧ okF l) ∧ 0 ≤ i ∧ i < l.length ∧ l.length ≤ 100) ∧ (0 ≤ c ∧ c ≤ 2199023255552) ∧ (0 ≤ k ∧ r.length ≤ 1000 ∧ x.length ≤ k.toNat) ∧ k.toNat + (mulD (r.drop k.toNat) (bi l i) c).length ≤ 2000) (.leaf (.exit 2, [.l 2 (x ++ mulD (r.drop k.toNat) (bi l i) c), .l 2 l, .n i]))
noncomputable def cBi : LoopC T := ⟨[.l 2, .l 2, .l 2, .n, .n, .n], ⟨50, [(0, .one (.s 2)), (3, .one (.g 0 2)), (4, .one (.i .i64)), (5, .one (.i .i64)), (6, .one (.g 1 2)), (7, .one (.i .i64))], [.l 2, .l 2]⟩, fun _ => ⟨50, [(0, .one (.s 2)), (4, .one (.i .i64)), (6, .one (.g 0 2))], [.l 2]⟩, 30, fun d => oBi d.1 d.2.1 d.2.2.1 d.2.2.2.1 d.2.2.2.2.1 d.2.2.2.2.2.1⟩
theorem bBi (r : List Int) (x : List Int) (l : List Int) (i : Int) (c : Int) (k : Int) : bodyD Try.prog E cBi 0 (bodyX Try.prog E ([] : CTab T) noLoops 1000 5 L0 (lpOf Try.prog 98 1)) (r, x, l, i, c, k, ()) =
  (.br (decide (k < (↑(List.length r) : Int)))
   (.br (decide (k < (↑(List.length r) : Int)))
    (.req ((decide ((0 : Int) ≤ k) && decide (k < (↑(List.length r) : Int))) = true)
    (.req ((decide ((0 : Int) ≤ k) && decide (k < (↑(List.length r) : Int))) = true)
    (.req ((decide ((0 : Int) ≤ i) && decide (i < (↑(List.length l) : Int))) = true)
    (.req (List.length x = List.length x)
    (.req (List.length x + List.length [Int.tmod (IntKind.wrap IntKind.i64 (c + IntKind.wrap IntKind.i64 (bi r k * bi l i))) (1000000 : Int)] ≤ (1073741824 : Nat))
    (.req (List.length r = List.length r)
    (.req (List.length (x ++ [Int.tmod (IntKind.wrap IntKind.i64 (c + IntKind.wrap IntKind.i64 (bi r k * bi l i))) (1000000 : Int)]) = List.length (x ++ [Int.tmod (IntKind.wrap IntKind.i64 (c + IntKind.wrap IntKind.i64 (bi r k * bi l i))) (1000000 : Int)]))
    (.leaf (.inl (r, (x ++ [Int.tmod (IntKind.wrap IntKind.i64 (c + IntKind.wrap IntKind.i64 (bi r k * bi l i))) (1000000 : Int)], (l, (i, (IntKind.wrap IntKind.i64 (Int.tdiv (IntKind.wrap IntKind.i64 (c + IntKind.wrap IntKind.i64 (bi r k * bi l i))) (1000000 : Int)), (IntKind.wrap IntKind.i64 (k + (1 : Int)), ())))))))))))))))
    (.req (List.length x = List.length x)
    (.req (List.length x + List.length [Int.tmod c (1000000 : Int)] ≤ (1073741824 : Nat))
    (.req (List.length r = List.length r)
    (.req (List.length (x ++ [Int.tmod c (1000000 : Int)]) = List.length (x ++ [Int.tmod c (1000000 : Int)]))
    (.leaf (.inl (r, (x ++ [Int.tmod c (1000000 : Int)], (l, (i, (IntKind.wrap IntKind.i64 (Int.tdiv c (1000000 : Int)), (IntKind.wrap IntKind.i64 (k + (1 : Int)), ())))))))))))))
   (.br (decide (c > (0 : Int)))
    (.br (decide (k < (↑(List.length r) : Int)))
     (.req ((decide ((0 : Int) ≤ k) && decide (k < (↑(List.length r) : Int))) = true)
     (.req ((decide ((0 : Int) ≤ k) && decide (k < (↑(List.length r) : Int))) = true)
     (.req ((decide ((0 : Int) ≤ i) && decide (i < (↑(List.length l) : Int))) = true)
     (.req (List.length x = List.length x)
     (.req (List.length x + List.length [Int.tmod (IntKind.wrap IntKind.i64 (c + IntKind.wrap IntKind.i64 (bi r k * bi l i))) (1000000 : Int)] ≤ (1073741824 : Nat))
     (.req (List.length r = List.length r)
     (.req (List.length (x ++ [Int.tmod (IntKind.wrap IntKind.i64 (c + IntKind.wrap IntKind.i64 (bi r k * bi l i))) (1000000 : Int)]) = List.length (x ++ [Int.tmod (IntKind.wrap IntKind.i64 (c + IntKind.wrap IntKind.i64 (bi r k * bi l i))) (1000000 : Int)]))
     (.leaf (.inl (r, (x ++ [Int.tmod (IntKind.wrap IntKind.i64 (c + IntKind.wrap IntKind.i64 (bi r k * bi l i))) (1000000 : Int)], (l, (i, (IntKind.wrap IntKind.i64 (Int.tdiv (IntKind.wrap IntKind.i64 (c + IntKind.wrap IntKind.i64 (bi r k * bi l i))) (1000000 : Int)), (IntKind.wrap IntKind.i64 (k + (1 : Int)), ())))))))))))))))
     (.req (List.length x = List.length x)
     (.req (List.length x + List.length [Int.tmod c (1000000 : Int)] ≤ (1073741824 : Nat))
     (.req (List.length r = List.length r)
     (.req (List.length (x ++ [Int.tmod c (1000000 : Int)]) = List.length (x ++ [Int.tmod c (1000000 : Int)]))
     (.leaf (.inl (r, (x ++ [Int.tmod c (1000000 : Int)], (l, (i, (IntKind.wrap IntKind.i64 (Int.tdiv c (1000000 : Int)), (IntKind.wrap IntKind.i64 (k + (1 : Int)), ())))))))))))))
    (.req (List.length x = List.length x)
    (.leaf (.inr (.exit (2 : Nat), [.l (2 : Nat) (x), .l (2 : Nat) (l), .n (i)])))))) := by kernel_rfl
theorem nBi (r : List Int) (x : List Int) (l : List Int) (i : Int) (c : Int) (k : Int) (K : Ex × List (V T) → Prop) (hI : ((Dg r ∧ okF l) ∧ 0 ≤ i ∧ i < l.length ∧ l.length ≤ 100) ∧ (0 ≤ c ∧ c ≤ 2199023255552) ∧ (0 ≤ k ∧ r.length ≤ 1000 ∧ x.length ≤ k.toNat) ∧ k.toNat + (mulD (r.drop k.toNat) (bi l i) c).length ≤ 2000) (hK : (.leaf (.exit 2, [.l 2 (x ++ mulD (r.drop k.toNat) (bi l i) c), .l 2 l, .n i]) : Tree (Ex × List (V T))).holds K) : (cBi.out (r, x, l, i, c, k, ())).holds K := ⟨hI, hK⟩
theorem hBi' (r : List Int) (x : List Int) (l : List Int) (i : Int) (c : Int) (k : Int) (K : Ex × List (V T) → Prop) (hI : ((Dg r ∧ okF l) ∧ 0 ≤ i ∧ i < l.length ∧ l.length ≤ 100) ∧ (0 ≤ c ∧ c ≤ 2199023255552) ∧ (0 ≤ k ∧ r.length ≤ 1000 ∧ x.length ≤ k.toNat) ∧ k.toNat + (mulD (r.drop k.toNat) (bi l i) c).length ≤ 2000) (hK : (.leaf (.exit 2, [.l 2 (x ++ mulD (r.drop k.toNat) (bi l i) c), .l 2 l, .n i]) : Tree (Ex × List (V T))).holds K) :
    (bodyD Try.prog E cBi 0 (bodyX Try.prog E ([] : CTab T) noLoops 1000 5 L0 (lpOf Try.prog 98 1)) (r, x, l, i, c, k, ())).holds fun y => match y with
    | .inl d => (mulD (d.1.drop d.2.2.2.2.2.1.toNat) (bi d.2.2.1 d.2.2.2.1) d.2.2.2.2.1).length < (mulD (r.drop k.toNat) (bi l i) c).length ∧ (cBi.out d).holds K
    | .inr y => K y := by
  rw [bBi]
  obtain ⟨⟨hd, hi⟩, ⟨hc0, hc1⟩, ⟨h0, hr, hq⟩, hlen⟩ := hI
  have klen : k ≤ 3000 := by omega
  have e4 : IntKind.wrap IntKind.i64 (k + 1) = k + 1 := i64_in' (by omega) (by omega)
  
  refine way (fun c1 => way (fun _ => wayC h0 c1 fun _ _ => wayC h0 c1 fun _ _ => wayC hi.1 hi.2.1 fun _ _ => ?_) fun c => absurd c1 c) fun c1 => way (fun c3 => way (fun c => absurd c c1) fun _ => ?_) fun c3 => ⟨rfl, ?_⟩
  · have dx := dg_nn hd.1 h0 c1
    have fx := hd.2 _ (bi_mem hi.1 hi.2.1)
    have mb := mul_bd dx fx ⟨hc0, hc1⟩
    have hA := mulD_cons (r := r) (f := bi l i) (c := c) h0 c1
    have b0 : 0 ≤ c + bi r k * bi l i ∧ (c + bi r k * bi l i) / 1000000 ≤ 2199023255552 := ⟨by omega, mb.2.2⟩
    have m := tmod_m b0.1
    have w9 : IntKind.wrap IntKind.i64 ((c + bi r k * bi l i) / 1000000) = (c + bi r k * bi l i) / 1000000 := i64_in' (by omega) (by omega)
    rw [i64_in' (n := bi r k * bi l i) (by omega) (by omega), i64_in' (n := c + bi r k * bi l i) (by omega) (by omega), e4]
    rw [m.1, m.2, w9]
    rw [hA] at hK hlen
    have hlt : (mulD (r.drop (k + 1).toNat) (bi l i) ((c + bi r k * bi l i) / 1000000)).length < (mulD (r.drop k.toNat) (bi l i) c).length := by rw [hA]; simp
    refine ⟨rfl, by simp only [List.length_cons, List.length_nil]; omega, rfl, rfl, hlt, nBi _ _ _ _ _ _ K ⟨⟨hd, hi⟩, ⟨by omega, b0.2⟩, ⟨by omega, hr, by rw [List.length_append]; simp only [List.length_cons, List.length_nil]; omega⟩, by simp only [List.length_cons] at hlen; omega⟩ ?_⟩
    rw [List.append_assoc]
    exact hK
  · have hA := mulD_more (r := r) (f := bi l i) (c := c) c1 c3
    have b0 : 0 ≤ c ∧ (c) / 1000000 ≤ 2199023255552 := ⟨hc0, by omega⟩
    have m := tmod_m b0.1
    have w9 : IntKind.wrap IntKind.i64 ((c) / 1000000) = (c) / 1000000 := i64_in' (by omega) (by omega)
    rw [e4]
    rw [m.1, m.2, w9]
    rw [hA] at hK hlen
    have hlt : (mulD (r.drop (k + 1).toNat) (bi l i) ((c) / 1000000)).length < (mulD (r.drop k.toNat) (bi l i) c).length := by rw [hA]; simp
    refine ⟨rfl, by simp only [List.length_cons, List.length_nil]; omega, rfl, rfl, hlt, nBi _ _ _ _ _ _ K ⟨⟨hd, hi⟩, ⟨by omega, b0.2⟩, ⟨by omega, hr, by rw [List.length_append]; simp only [List.length_cons, List.length_nil]; omega⟩, by simp only [List.length_cons] at hlen; omega⟩ ?_⟩
    rw [List.append_assoc]
    exact hK
  · rw [mulD_end c1 c3, List.append_nil] at hK
    exact hK
theorem hBi : LoopH Try.prog E cBi 0 (bodyX Try.prog E ([] : CTab T) noLoops 1000 5 L0 (lpOf Try.prog 98 1)) :=
  ⟨fun d => (mulD (d.1.drop d.2.2.2.2.2.1.toNat) (bi d.2.2.1 d.2.2.2.1) d.2.2.2.2.1).length, fun dd K hK => by
    obtain ⟨r, x, l, i, c, k, ⟨⟩⟩ := dd
    obtain ⟨hI, hK⟩ := hK
    refine Tree.holds_mono (fun y hy => ?_) (hBi' r x l i c k K hI hK)
    cases y with
    | inl d' => exact hy
    | inr y => exact hy⟩
theorem sndBi : LSndN Try.prog E 0 (lpOf Try.prog 98 1) cBi := LSndN.mk good names mixes .nil (by decide) hBi
noncomputable def oBo (r : List Int) (l : List Int) (i : Int) : Tree (Ex × List (V T)) := .req (((Dg r ∧ okF l) ∧ 0 ≤ i ∧ l.length ≤ 100) ∧ r.length ≤ 1 + 4 * i.toNat ∧ i ≤ l.length) (.leaf (.exit 0, [.l 2 (prodL (l.drop i.toNat) r)]))
noncomputable def cBo : LoopC T := ⟨[.l 2, .l 2, .n], ⟨50, [(0, .one (.s 2)), (3, .one (.g 0 2)), (4, .one (.i .i64))], [.l 2]⟩, fun _ => ⟨50, [(3, .one (.g 0 2))], [.l 2]⟩, 100, fun d => oBo d.1 d.2.1 d.2.2.1⟩
theorem bBo (r : List Int) (l : List Int) (i : Int) : bodyD Try.prog E cBo 0 (bodyX Try.prog E ([] : CTab T) noLoops 1000 5 (tabL Try.prog E [(8, cBi)]) (lpOf Try.prog 98 0)) (r, l, i, ()) =
  (.br (decide (i < (↑(List.length l) : Int)))
   (.req (List.length r = List.length r)
   (.req (((Dg r ∧ okF l) ∧ (0 : Int) ≤ i ∧ i < (↑(List.length l) : Int) ∧ List.length l ≤ (100 : Nat)) ∧ ((0 : Int) ≤ (0 : Int) ∧ (0 : Int) ≤ (2199023255552 : Int)) ∧ ((0 : Int) ≤ (0 : Int) ∧ List.length r ≤ (1000 : Nat) ∧ (0 : Nat) ≤ Int.toNat (0 : Int)) ∧ Int.toNat (0 : Int) + List.length (mulD (List.drop (Int.toNat (0 : Int)) r) (bi l i) (0 : Int)) ≤ (2000 : Nat))
   (.req (List.length ([] ++ mulD (List.drop (Int.toNat (0 : Int)) r) (bi l i) (0 : Int)) = List.length ([] ++ mulD (List.drop (Int.toNat (0 : Int)) r) (bi l i) (0 : Int)))
   (.leaf (.inl ([] ++ mulD (List.drop (Int.toNat (0 : Int)) r) (bi l i) (0 : Int), (l, (IntKind.wrap IntKind.i64 (i + (1 : Int)), ()))))))))
   (.req (List.length r = List.length r)
   (.leaf (.inr (.exit (0 : Nat), [.l (2 : Nat) (r)]))))) := by kernel_rfl
theorem nBo (r : List Int) (l : List Int) (i : Int) (K : Ex × List (V T) → Prop) (hI : ((Dg r ∧ okF l) ∧ 0 ≤ i ∧ l.length ≤ 100) ∧ r.length ≤ 1 + 4 * i.toNat ∧ i ≤ l.length) (hK : (.leaf (.exit 0, [.l 2 (prodL (l.drop i.toNat) r)]) : Tree (Ex × List (V T))).holds K) : (cBo.out (r, l, i, ())).holds K := ⟨hI, hK⟩
theorem hBo' (r : List Int) (l : List Int) (i : Int) (K : Ex × List (V T) → Prop) (hI : ((Dg r ∧ okF l) ∧ 0 ≤ i ∧ l.length ≤ 100) ∧ r.length ≤ 1 + 4 * i.toNat ∧ i ≤ l.length) (hK : (.leaf (.exit 0, [.l 2 (prodL (l.drop i.toNat) r)]) : Tree (Ex × List (V T))).holds K) :
    (bodyD Try.prog E cBo 0 (bodyX Try.prog E ([] : CTab T) noLoops 1000 5 (tabL Try.prog E [(8, cBi)]) (lpOf Try.prog 98 0)) (r, l, i, ())).holds fun y => match y with
    | .inl d => ((d.2.1.length : Int) - d.2.2.1).toNat < ((l.length : Int) - i).toNat ∧ (cBo.out d).holds K
    | .inr y => K y := by
  rw [bBo]
  obtain ⟨⟨hd, h0, hl⟩, hr, hi⟩ := hI
  refine way (fun c => ⟨rfl, ?_⟩) fun c => ⟨rfl, ?_⟩
  · have e1 : IntKind.wrap IntKind.i64 (i + 1) = i + 1 := i64_in' (by omega) (by omega)
    rw [e1]
    have fx := hd.2 _ (bi_mem h0 c)
    have mk := mulD_ok (c := 0) hd.1 fx (by decide)
    have hlt : ((l.length : Int) - (i + 1)).toNat < ((l.length : Int) - i).toNat := by omega
    rw [drop_bI h0 c] at hK
    exact ⟨⟨⟨hd, h0, c, hl⟩, by decide, ⟨by decide, by omega, by decide⟩, by
      show 0 + (mulD r (bi l i) 0).length ≤ 2000
      omega⟩, rfl, hlt, nBo _ _ _ K ⟨⟨⟨mk.1, hd.2⟩, by omega, hl⟩, by show (mulD r (bi l i) 0).length ≤ _; omega, by omega⟩ hK⟩
  · rw [drop_b c] at hK
    exact hK
theorem hBo : LoopH Try.prog E cBo 0 (bodyX Try.prog E ([] : CTab T) noLoops 1000 5 (tabL Try.prog E [(8, cBi)]) (lpOf Try.prog 98 0)) :=
  ⟨fun d => ((d.2.1.length : Int) - d.2.2.1).toNat, fun dd K hK => by
    obtain ⟨r, l, i, ⟨⟩⟩ := dd
    obtain ⟨hI, hK⟩ := hK
    refine Tree.holds_mono (fun y hy => ?_) (hBo' r l i K hI hK)
    cases y with
    | inl d' => exact hy
    | inr y => exact hy⟩
noncomputable def oBa (q : List Int) (x : List Int) (z : List Int) (c : Int) (k : Int) : Tree (Ex × List (V T)) := .req (((Dg x ∧ Dg z) ∧ 0 ≤ c ∧ c ≤ 2) ∧ (0 ≤ k ∧ x.length ≤ 1000 ∧ z.length ≤ 1000 ∧ q.length ≤ k.toNat) ∧ k.toNat + (addD (x.drop k.toNat) (z.drop k.toNat) c).length ≤ 3000) (.leaf (.exit 0, [.l 2 (q ++ addD (x.drop k.toNat) (z.drop k.toNat) c)]))
noncomputable def cBa : LoopC T := ⟨[.l 2, .l 2, .l 2, .n, .n], ⟨52, [(0, .one (.s 2)), (1, .one (.s 2)), (5, .one (.g 0 2)), (6, .one (.i .i64)), (7, .one (.i .i64))], [.l 2]⟩, fun _ => ⟨52, [(5, .one (.g 0 2))], [.l 2]⟩, 30, fun d => oBa d.1 d.2.1 d.2.2.1 d.2.2.2.1 d.2.2.2.2.1⟩
theorem bBa (q : List Int) (x : List Int) (z : List Int) (c : Int) (k : Int) : bodyD Try.prog E cBa 0 (bodyX Try.prog E ([] : CTab T) noLoops 1000 5 L0 (lpOf Try.prog 99 0)) (q, x, z, c, k, ()) =
  (.br (decide (k < (↑(List.length x) : Int)))
   (.br (decide (k < (↑(List.length x) : Int)))
    (.req ((decide ((0 : Int) ≤ k) && decide (k < (↑(List.length x) : Int))) = true)
    (.br (decide (k < (↑(List.length z) : Int)))
     (.req ((decide ((0 : Int) ≤ k) && decide (k < (↑(List.length z) : Int))) = true)
     (.req (List.length q = List.length q)
     (.req (List.length q + List.length [Int.tmod (IntKind.wrap IntKind.i64 (IntKind.wrap IntKind.i64 (c + bi x k) + bi z k)) (1000000 : Int)] ≤ (1073741824 : Nat))
     (.req (List.length (q ++ [Int.tmod (IntKind.wrap IntKind.i64 (IntKind.wrap IntKind.i64 (c + bi x k) + bi z k)) (1000000 : Int)]) = List.length (q ++ [Int.tmod (IntKind.wrap IntKind.i64 (IntKind.wrap IntKind.i64 (c + bi x k) + bi z k)) (1000000 : Int)]))
     (.leaf (.inl (q ++ [Int.tmod (IntKind.wrap IntKind.i64 (IntKind.wrap IntKind.i64 (c + bi x k) + bi z k)) (1000000 : Int)], (x, (z, (IntKind.wrap IntKind.i64 (Int.tdiv (IntKind.wrap IntKind.i64 (IntKind.wrap IntKind.i64 (c + bi x k) + bi z k)) (1000000 : Int)), (IntKind.wrap IntKind.i64 (k + (1 : Int)), ())))))))))))
     (.req (List.length q = List.length q)
     (.req (List.length q + List.length [Int.tmod (IntKind.wrap IntKind.i64 (c + bi x k)) (1000000 : Int)] ≤ (1073741824 : Nat))
     (.req (List.length (q ++ [Int.tmod (IntKind.wrap IntKind.i64 (c + bi x k)) (1000000 : Int)]) = List.length (q ++ [Int.tmod (IntKind.wrap IntKind.i64 (c + bi x k)) (1000000 : Int)]))
     (.leaf (.inl (q ++ [Int.tmod (IntKind.wrap IntKind.i64 (c + bi x k)) (1000000 : Int)], (x, (z, (IntKind.wrap IntKind.i64 (Int.tdiv (IntKind.wrap IntKind.i64 (c + bi x k)) (1000000 : Int)), (IntKind.wrap IntKind.i64 (k + (1 : Int)), ()))))))))))))
    (.br (decide (k < (↑(List.length z) : Int)))
     (.req ((decide ((0 : Int) ≤ k) && decide (k < (↑(List.length z) : Int))) = true)
     (.req (List.length q = List.length q)
     (.req (List.length q + List.length [Int.tmod (IntKind.wrap IntKind.i64 (c + bi z k)) (1000000 : Int)] ≤ (1073741824 : Nat))
     (.req (List.length (q ++ [Int.tmod (IntKind.wrap IntKind.i64 (c + bi z k)) (1000000 : Int)]) = List.length (q ++ [Int.tmod (IntKind.wrap IntKind.i64 (c + bi z k)) (1000000 : Int)]))
     (.leaf (.inl (q ++ [Int.tmod (IntKind.wrap IntKind.i64 (c + bi z k)) (1000000 : Int)], (x, (z, (IntKind.wrap IntKind.i64 (Int.tdiv (IntKind.wrap IntKind.i64 (c + bi z k)) (1000000 : Int)), (IntKind.wrap IntKind.i64 (k + (1 : Int)), ())))))))))))
     (.req (List.length q = List.length q)
     (.req (List.length q + List.length [Int.tmod c (1000000 : Int)] ≤ (1073741824 : Nat))
     (.req (List.length (q ++ [Int.tmod c (1000000 : Int)]) = List.length (q ++ [Int.tmod c (1000000 : Int)]))
     (.leaf (.inl (q ++ [Int.tmod c (1000000 : Int)], (x, (z, (IntKind.wrap IntKind.i64 (Int.tdiv c (1000000 : Int)), (IntKind.wrap IntKind.i64 (k + (1 : Int)), ()))))))))))))
   (.br (decide (k < (↑(List.length z) : Int)))
    (.br (decide (k < (↑(List.length x) : Int)))
     (.req ((decide ((0 : Int) ≤ k) && decide (k < (↑(List.length x) : Int))) = true)
     (.br (decide (k < (↑(List.length z) : Int)))
      (.req ((decide ((0 : Int) ≤ k) && decide (k < (↑(List.length z) : Int))) = true)
      (.req (List.length q = List.length q)
      (.req (List.length q + List.length [Int.tmod (IntKind.wrap IntKind.i64 (IntKind.wrap IntKind.i64 (c + bi x k) + bi z k)) (1000000 : Int)] ≤ (1073741824 : Nat))
      (.req (List.length (q ++ [Int.tmod (IntKind.wrap IntKind.i64 (IntKind.wrap IntKind.i64 (c + bi x k) + bi z k)) (1000000 : Int)]) = List.length (q ++ [Int.tmod (IntKind.wrap IntKind.i64 (IntKind.wrap IntKind.i64 (c + bi x k) + bi z k)) (1000000 : Int)]))
      (.leaf (.inl (q ++ [Int.tmod (IntKind.wrap IntKind.i64 (IntKind.wrap IntKind.i64 (c + bi x k) + bi z k)) (1000000 : Int)], (x, (z, (IntKind.wrap IntKind.i64 (Int.tdiv (IntKind.wrap IntKind.i64 (IntKind.wrap IntKind.i64 (c + bi x k) + bi z k)) (1000000 : Int)), (IntKind.wrap IntKind.i64 (k + (1 : Int)), ())))))))))))
      (.req (List.length q = List.length q)
      (.req (List.length q + List.length [Int.tmod (IntKind.wrap IntKind.i64 (c + bi x k)) (1000000 : Int)] ≤ (1073741824 : Nat))
      (.req (List.length (q ++ [Int.tmod (IntKind.wrap IntKind.i64 (c + bi x k)) (1000000 : Int)]) = List.length (q ++ [Int.tmod (IntKind.wrap IntKind.i64 (c + bi x k)) (1000000 : Int)]))
      (.leaf (.inl (q ++ [Int.tmod (IntKind.wrap IntKind.i64 (c + bi x k)) (1000000 : Int)], (x, (z, (IntKind.wrap IntKind.i64 (Int.tdiv (IntKind.wrap IntKind.i64 (c + bi x k)) (1000000 : Int)), (IntKind.wrap IntKind.i64 (k + (1 : Int)), ()))))))))))))
     (.br (decide (k < (↑(List.length z) : Int)))
      (.req ((decide ((0 : Int) ≤ k) && decide (k < (↑(List.length z) : Int))) = true)
      (.req (List.length q = List.length q)
      (.req (List.length q + List.length [Int.tmod (IntKind.wrap IntKind.i64 (c + bi z k)) (1000000 : Int)] ≤ (1073741824 : Nat))
      (.req (List.length (q ++ [Int.tmod (IntKind.wrap IntKind.i64 (c + bi z k)) (1000000 : Int)]) = List.length (q ++ [Int.tmod (IntKind.wrap IntKind.i64 (c + bi z k)) (1000000 : Int)]))
      (.leaf (.inl (q ++ [Int.tmod (IntKind.wrap IntKind.i64 (c + bi z k)) (1000000 : Int)], (x, (z, (IntKind.wrap IntKind.i64 (Int.tdiv (IntKind.wrap IntKind.i64 (c + bi z k)) (1000000 : Int)), (IntKind.wrap IntKind.i64 (k + (1 : Int)), ())))))))))))
      (.req (List.length q = List.length q)
      (.req (List.length q + List.length [Int.tmod c (1000000 : Int)] ≤ (1073741824 : Nat))
      (.req (List.length (q ++ [Int.tmod c (1000000 : Int)]) = List.length (q ++ [Int.tmod c (1000000 : Int)]))
      (.leaf (.inl (q ++ [Int.tmod c (1000000 : Int)], (x, (z, (IntKind.wrap IntKind.i64 (Int.tdiv c (1000000 : Int)), (IntKind.wrap IntKind.i64 (k + (1 : Int)), ()))))))))))))
    (.br (decide (c > (0 : Int)))
     (.br (decide (k < (↑(List.length x) : Int)))
      (.req ((decide ((0 : Int) ≤ k) && decide (k < (↑(List.length x) : Int))) = true)
      (.br (decide (k < (↑(List.length z) : Int)))
       (.req ((decide ((0 : Int) ≤ k) && decide (k < (↑(List.length z) : Int))) = true)
       (.req (List.length q = List.length q)
       (.req (List.length q + List.length [Int.tmod (IntKind.wrap IntKind.i64 (IntKind.wrap IntKind.i64 (c + bi x k) + bi z k)) (1000000 : Int)] ≤ (1073741824 : Nat))
       (.req (List.length (q ++ [Int.tmod (IntKind.wrap IntKind.i64 (IntKind.wrap IntKind.i64 (c + bi x k) + bi z k)) (1000000 : Int)]) = List.length (q ++ [Int.tmod (IntKind.wrap IntKind.i64 (IntKind.wrap IntKind.i64 (c + bi x k) + bi z k)) (1000000 : Int)]))
       (.leaf (.inl (q ++ [Int.tmod (IntKind.wrap IntKind.i64 (IntKind.wrap IntKind.i64 (c + bi x k) + bi z k)) (1000000 : Int)], (x, (z, (IntKind.wrap IntKind.i64 (Int.tdiv (IntKind.wrap IntKind.i64 (IntKind.wrap IntKind.i64 (c + bi x k) + bi z k)) (1000000 : Int)), (IntKind.wrap IntKind.i64 (k + (1 : Int)), ())))))))))))
       (.req (List.length q = List.length q)
       (.req (List.length q + List.length [Int.tmod (IntKind.wrap IntKind.i64 (c + bi x k)) (1000000 : Int)] ≤ (1073741824 : Nat))
       (.req (List.length (q ++ [Int.tmod (IntKind.wrap IntKind.i64 (c + bi x k)) (1000000 : Int)]) = List.length (q ++ [Int.tmod (IntKind.wrap IntKind.i64 (c + bi x k)) (1000000 : Int)]))
       (.leaf (.inl (q ++ [Int.tmod (IntKind.wrap IntKind.i64 (c + bi x k)) (1000000 : Int)], (x, (z, (IntKind.wrap IntKind.i64 (Int.tdiv (IntKind.wrap IntKind.i64 (c + bi x k)) (1000000 : Int)), (IntKind.wrap IntKind.i64 (k + (1 : Int)), ()))))))))))))
      (.br (decide (k < (↑(List.length z) : Int)))
       (.req ((decide ((0 : Int) ≤ k) && decide (k < (↑(List.length z) : Int))) = true)
       (.req (List.length q = List.length q)
       (.req (List.length q + List.length [Int.tmod (IntKind.wrap IntKind.i64 (c + bi z k)) (1000000 : Int)] ≤ (1073741824 : Nat))
       (.req (List.length (q ++ [Int.tmod (IntKind.wrap IntKind.i64 (c + bi z k)) (1000000 : Int)]) = List.length (q ++ [Int.tmod (IntKind.wrap IntKind.i64 (c + bi z k)) (1000000 : Int)]))
       (.leaf (.inl (q ++ [Int.tmod (IntKind.wrap IntKind.i64 (c + bi z k)) (1000000 : Int)], (x, (z, (IntKind.wrap IntKind.i64 (Int.tdiv (IntKind.wrap IntKind.i64 (c + bi z k)) (1000000 : Int)), (IntKind.wrap IntKind.i64 (k + (1 : Int)), ())))))))))))
       (.req (List.length q = List.length q)
       (.req (List.length q + List.length [Int.tmod c (1000000 : Int)] ≤ (1073741824 : Nat))
       (.req (List.length (q ++ [Int.tmod c (1000000 : Int)]) = List.length (q ++ [Int.tmod c (1000000 : Int)]))
       (.leaf (.inl (q ++ [Int.tmod c (1000000 : Int)], (x, (z, (IntKind.wrap IntKind.i64 (Int.tdiv c (1000000 : Int)), (IntKind.wrap IntKind.i64 (k + (1 : Int)), ()))))))))))))
     (.req (List.length q = List.length q)
     (.leaf (.inr (.exit (0 : Nat), [.l (2 : Nat) (q)]))))))) := by kernel_rfl
theorem nBa (q : List Int) (x : List Int) (z : List Int) (c : Int) (k : Int) (K : Ex × List (V T) → Prop) (hI : ((Dg x ∧ Dg z) ∧ 0 ≤ c ∧ c ≤ 2) ∧ (0 ≤ k ∧ x.length ≤ 1000 ∧ z.length ≤ 1000 ∧ q.length ≤ k.toNat) ∧ k.toNat + (addD (x.drop k.toNat) (z.drop k.toNat) c).length ≤ 3000) (hK : (.leaf (.exit 0, [.l 2 (q ++ addD (x.drop k.toNat) (z.drop k.toNat) c)]) : Tree (Ex × List (V T))).holds K) : (cBa.out (q, x, z, c, k, ())).holds K := ⟨hI, hK⟩
theorem hBa' (q : List Int) (x : List Int) (z : List Int) (c : Int) (k : Int) (K : Ex × List (V T) → Prop) (hI : ((Dg x ∧ Dg z) ∧ 0 ≤ c ∧ c ≤ 2) ∧ (0 ≤ k ∧ x.length ≤ 1000 ∧ z.length ≤ 1000 ∧ q.length ≤ k.toNat) ∧ k.toNat + (addD (x.drop k.toNat) (z.drop k.toNat) c).length ≤ 3000) (hK : (.leaf (.exit 0, [.l 2 (q ++ addD (x.drop k.toNat) (z.drop k.toNat) c)]) : Tree (Ex × List (V T))).holds K) :
    (bodyD Try.prog E cBa 0 (bodyX Try.prog E ([] : CTab T) noLoops 1000 5 L0 (lpOf Try.prog 99 0)) (q, x, z, c, k, ())).holds fun y => match y with
    | .inl d => (addD (d.2.1.drop d.2.2.2.2.1.toNat) (d.2.2.1.drop d.2.2.2.2.1.toNat) d.2.2.2.1).length < (addD (x.drop k.toNat) (z.drop k.toNat) c).length ∧ (cBa.out d).holds K
    | .inr y => K y := by
  rw [bBa]
  obtain ⟨⟨hd, hc0, hc1⟩, ⟨h0, hx, hy, hq⟩, hlen⟩ := hI
  have klen : k ≤ 3000 := by omega
  have e4 : IntKind.wrap IntKind.i64 (k + 1) = k + 1 := i64_in' (by omega) (by omega)
  
  refine way (fun c1 => way (fun _ => wayC h0 c1 fun _ _ => way (fun c2 => wayC h0 c2 fun _ _ => ?_) fun c2 => ?_) fun c => absurd c1 c) fun c1 => way (fun c2 => way (fun c => absurd c c1) fun _ => way (fun _ => wayC h0 c2 fun _ _ => ?_) fun c => absurd c2 c) fun c2 => way (fun c3 => way (fun c => absurd c c1) fun _ => way (fun c => absurd c c2) fun _ => ?_) fun c3 => ⟨rfl, ?_⟩
  · have dx := dg_nn hd.1 h0 c1
    have dy := dg_nn hd.2 h0 c2
    have hA := addD_xy (x := x) (y := z) (c := c) h0 c1 c2
    have b0 : 0 ≤ c + bi x k + bi z k ∧ c + bi x k + bi z k ≤ 2000000 := by omega
    have m := tmod_m b0.1
    have w9 : IntKind.wrap IntKind.i64 ((c + bi x k + bi z k) / 1000000) = (c + bi x k + bi z k) / 1000000 := i64_in' (by omega) (by omega)
    rw [i64_in' (n := c + bi x k) (by omega) (by omega), i64_in' (n := c + bi x k + bi z k) (by omega) (by omega), e4]
    rw [m.1, m.2, w9]
    rw [hA] at hK hlen
    have hlt : (addD (x.drop (k + 1).toNat) (z.drop (k + 1).toNat) ((c + bi x k + bi z k) / 1000000)).length < (addD (x.drop k.toNat) (z.drop k.toNat) c).length := by rw [hA]; simp
    refine ⟨rfl, by simp only [List.length_cons, List.length_nil]; omega, rfl, hlt, nBa _ _ _ _ _ K ⟨⟨hd, by omega, by omega⟩, ⟨by omega, hx, hy, by rw [List.length_append]; simp only [List.length_cons, List.length_nil]; omega⟩, by simp only [List.length_cons] at hlen; omega⟩ ?_⟩
    rw [List.append_assoc]
    exact hK
  · have dx := dg_nn hd.1 h0 c1
    have hA := addD_x (x := x) (y := z) (c := c) h0 c1 c2
    have b0 : 0 ≤ c + bi x k ∧ c + bi x k ≤ 2000000 := by omega
    have m := tmod_m b0.1
    have w9 : IntKind.wrap IntKind.i64 ((c + bi x k) / 1000000) = (c + bi x k) / 1000000 := i64_in' (by omega) (by omega)
    rw [i64_in' (n := c + bi x k) (by omega) (by omega), e4]
    rw [m.1, m.2, w9]
    rw [hA] at hK hlen
    have hlt : (addD (x.drop (k + 1).toNat) (z.drop (k + 1).toNat) ((c + bi x k) / 1000000)).length < (addD (x.drop k.toNat) (z.drop k.toNat) c).length := by rw [hA]; simp
    refine ⟨rfl, by simp only [List.length_cons, List.length_nil]; omega, rfl, hlt, nBa _ _ _ _ _ K ⟨⟨hd, by omega, by omega⟩, ⟨by omega, hx, hy, by rw [List.length_append]; simp only [List.length_cons, List.length_nil]; omega⟩, by simp only [List.length_cons] at hlen; omega⟩ ?_⟩
    rw [List.append_assoc]
    exact hK
  · have dy := dg_nn hd.2 h0 c2
    have hA := addD_y (x := x) (y := z) (c := c) h0 c1 c2
    have b0 : 0 ≤ c + bi z k ∧ c + bi z k ≤ 2000000 := by omega
    have m := tmod_m b0.1
    have w9 : IntKind.wrap IntKind.i64 ((c + bi z k) / 1000000) = (c + bi z k) / 1000000 := i64_in' (by omega) (by omega)
    rw [i64_in' (n := c + bi z k) (by omega) (by omega), e4]
    rw [m.1, m.2, w9]
    rw [hA] at hK hlen
    have hlt : (addD (x.drop (k + 1).toNat) (z.drop (k + 1).toNat) ((c + bi z k) / 1000000)).length < (addD (x.drop k.toNat) (z.drop k.toNat) c).length := by rw [hA]; simp
    refine ⟨rfl, by simp only [List.length_cons, List.length_nil]; omega, rfl, hlt, nBa _ _ _ _ _ K ⟨⟨hd, by omega, by omega⟩, ⟨by omega, hx, hy, by rw [List.length_append]; simp only [List.length_cons, List.length_nil]; omega⟩, by simp only [List.length_cons] at hlen; omega⟩ ?_⟩
    rw [List.append_assoc]
    exact hK
  · have hA := addD_c (x := x) (y := z) (c := c) c1 c2 c3
    have b0 : 0 ≤ c ∧ c ≤ 2000000 := by omega
    have m := tmod_m b0.1
    have w9 : IntKind.wrap IntKind.i64 ((c) / 1000000) = (c) / 1000000 := i64_in' (by omega) (by omega)
    rw [e4]
    rw [m.1, m.2, w9]
    rw [hA] at hK hlen
    have hlt : (addD (x.drop (k + 1).toNat) (z.drop (k + 1).toNat) ((c) / 1000000)).length < (addD (x.drop k.toNat) (z.drop k.toNat) c).length := by rw [hA]; simp
    refine ⟨rfl, by simp only [List.length_cons, List.length_nil]; omega, rfl, hlt, nBa _ _ _ _ _ K ⟨⟨hd, by omega, by omega⟩, ⟨by omega, hx, hy, by rw [List.length_append]; simp only [List.length_cons, List.length_nil]; omega⟩, by simp only [List.length_cons] at hlen; omega⟩ ?_⟩
    rw [List.append_assoc]
    exact hK
  · rw [addD_e c1 c2 c3, List.append_nil] at hK
    exact hK
theorem hBa : LoopH Try.prog E cBa 0 (bodyX Try.prog E ([] : CTab T) noLoops 1000 5 L0 (lpOf Try.prog 99 0)) :=
  ⟨fun d => (addD (d.2.1.drop d.2.2.2.2.1.toNat) (d.2.2.1.drop d.2.2.2.2.1.toNat) d.2.2.2.1).length, fun dd K hK => by
    obtain ⟨q, x, z, c, k, ⟨⟩⟩ := dd
    obtain ⟨hI, hK⟩ := hK
    refine Tree.holds_mono (fun y hy => ?_) (hBa' q x z c k K hI hK)
    cases y with
    | inl d' => exact hy
    | inr y => exact hy⟩
theorem llBa : LLOk Try.prog E (llOfN Try.prog E 99 0 [(4, cBa)]) := llOfN_ok fun i hi c hc => by
  have hi : i < 1 := hi
  obtain rfl : i = 0 := by omega
  obtain rfl : cBa = c := Option.some.inj hc
  exact LSndN.mk good names mixes .nil (by decide) hBa
noncomputable def oBg (x : List Int) (y : List Int) (k : Int) : Tree (Ex × List (V T)) := .req ((x.length ≤ 2000 ∧ y.length ≤ 2000) ∧ -1 ≤ k ∧ k ≤ 2000) (.br (deN x y (k + 1).toNat) (.leaf (.ret, [.t (geN x y (k + 1).toNat)])) (.leaf (.exit 0, [])))
noncomputable def cBg : LoopC T := ⟨[.l 2, .l 2, .n], ⟨40, [(0, .one (.s 2)), (1, .one (.s 2)), (5, .one (.i .i64))], []⟩, fun e => match e with
    | .ret => ⟨40, [(4, .one .b)], []⟩
    | _ => ⟨40, [], []⟩, 30, fun d => oBg d.1 d.2.1 d.2.2.1⟩
theorem bBg (x : List Int) (y : List Int) (k : Int) : bodyD Try.prog E cBg 0 (bodyX Try.prog E ([] : CTab T) noLoops 1000 5 L0 (lpOf Try.prog 100 0)) (x, y, k, ()) =
  (.br (decide (k ≥ (0 : Int)))
   (.br (decide (k < (↑(List.length x) : Int)))
    (.req ((decide ((0 : Int) ≤ k) && decide (k < (↑(List.length x) : Int))) = true)
    (.br (decide (k < (↑(List.length y) : Int)))
     (.req ((decide ((0 : Int) ≤ k) && decide (k < (↑(List.length y) : Int))) = true)
     (.br (bi x k != bi y k)
      (.leaf (.inr (.ret, [.t (decide (bi x k > bi y k))])))
      (.leaf (.inl (x, (y, (IntKind.wrap IntKind.i64 (k - (1 : Int)), ())))))))
     (.br (bi x k != (0 : Int))
      (.leaf (.inr (.ret, [.t (decide (bi x k > (0 : Int)))])))
      (.leaf (.inl (x, (y, (IntKind.wrap IntKind.i64 (k - (1 : Int)), ()))))))))
    (.br (decide (k < (↑(List.length y) : Int)))
     (.req ((decide ((0 : Int) ≤ k) && decide (k < (↑(List.length y) : Int))) = true)
     (.br ((0 : Int) != bi y k)
      (.leaf (.inr (.ret, [.t (decide ((0 : Int) > bi y k))])))
      (.leaf (.inl (x, (y, (IntKind.wrap IntKind.i64 (k - (1 : Int)), ())))))))
     (.leaf (.inl (x, (y, (IntKind.wrap IntKind.i64 (k - (1 : Int)), ())))))))
   (.leaf (.inr (.exit (0 : Nat), [])))) := by kernel_rfl
theorem nBg (x : List Int) (y : List Int) (k : Int) (K : Ex × List (V T) → Prop) (hI : (x.length ≤ 2000 ∧ y.length ≤ 2000) ∧ -1 ≤ k ∧ k ≤ 2000) (hK : (.br (deN x y (k + 1).toNat) (.leaf (.ret, [.t (geN x y (k + 1).toNat)])) (.leaf (.exit 0, [])) : Tree (Ex × List (V T))).holds K) : (cBg.out (x, y, k, ())).holds K := ⟨hI, hK⟩
theorem hBg' (x : List Int) (y : List Int) (k : Int) (K : Ex × List (V T) → Prop) (hI : (x.length ≤ 2000 ∧ y.length ≤ 2000) ∧ -1 ≤ k ∧ k ≤ 2000) (hK : (.br (deN x y (k + 1).toNat) (.leaf (.ret, [.t (geN x y (k + 1).toNat)])) (.leaf (.exit 0, [])) : Tree (Ex × List (V T))).holds K) :
    (bodyD Try.prog E cBg 0 (bodyX Try.prog E ([] : CTab T) noLoops 1000 5 L0 (lpOf Try.prog 100 0)) (x, y, k, ())).holds fun y => match y with
    | .inl d => (d.2.2.1 + 1).toNat < (k + 1).toNat ∧ (cBg.out d).holds K
    | .inr y => K y := by
  rw [bBg]
  obtain ⟨⟨hx, hy⟩, h0, h1⟩ := hI
  have e4 : IntKind.wrap IntKind.i64 (k - 1) = k - 1 := i64_in' (by omega) (by omega)
  refine way (fun c => ?_) fun c => ?_
  · rw [e4]
    have hk : (k + 1).toNat = k.toNat + 1 := by omega
    have hz : ((k.toNat : Nat) : Int) = k := by omega
    have hlt : (k - 1 + 1).toNat < (k + 1).toNat := by omega
    have eq : atD x k.toNat = atD y k.toNat → (k - 1 + 1).toNat < (k + 1).toNat ∧ (cBg.out (x, y, k - 1, ())).holds K := fun q => by
      refine ⟨hlt, nBg _ _ _ K ⟨⟨hx, hy⟩, by omega, by omega⟩ ?_⟩
      rw [hk] at hK
      unfold deN geN at hK
      rw [if_pos q, if_pos q] at hK
      rw [show k - 1 + 1 = k by omega]
      exact hK
    have ne : atD x k.toNat ≠ atD y k.toNat → K (.ret, [.t (decide (atD x k.toNat > atD y k.toNat))]) := fun q => by
      rw [hk] at hK
      unfold deN geN at hK
      rw [if_neg q, if_neg q] at hK
      exact hK.1 rfl
    unfold atD at eq ne
    rw [hz] at eq ne
    refine way (fun cx => wayC c cx fun _ _ => way (fun cy => wayC c cy fun _ _ => ?_) fun cy => ?_) fun cx => way (fun cy => wayC c cy fun _ _ => ?_) fun cy => ?_
    · rw [if_pos (show k.toNat < x.length by omega), if_pos (show k.toNat < y.length by omega)] at eq ne
      exact wayNe ne eq
    · rw [if_pos (show k.toNat < x.length by omega), if_neg (show ¬ k.toNat < y.length by omega)] at eq ne
      exact wayNe ne eq
    · rw [if_neg (show ¬ k.toNat < x.length by omega), if_pos (show k.toNat < y.length by omega)] at eq ne
      exact wayNe ne eq
    · rw [if_neg (show ¬ k.toNat < x.length by omega), if_neg (show ¬ k.toNat < y.length by omega)] at eq ne
      exact eq rfl
  · rw [show (k + 1).toNat = 0 by omega] at hK
    exact hK.2 rfl
theorem hBg : LoopH Try.prog E cBg 0 (bodyX Try.prog E ([] : CTab T) noLoops 1000 5 L0 (lpOf Try.prog 100 0)) :=
  ⟨fun d => (d.2.2.1 + 1).toNat, fun dd K hK => by
    obtain ⟨x, y, k, ⟨⟩⟩ := dd
    obtain ⟨hI, hK⟩ := hK
    refine Tree.holds_mono (fun y hy => ?_) (hBg' x y k K hI hK)
    cases y with
    | inl d' => exact hy
    | inr y => exact hy⟩
theorem llBg : LLOk Try.prog E (llOfN Try.prog E 100 0 [(2, cBg)]) := llOfN_ok fun i hi c hc => by
  have hi : i < 1 := hi
  obtain rfl : i = 0 := by omega
  obtain rfl : cBg = c := Option.some.inj hc
  exact LSndN.mk good names mixes .nil (by decide) hBg
theorem inBo : ∀ b' ∈ loopsIn (lpOf Try.prog 98 0), ∀ c', lkL (keyOfC b') [(8, cBi)] = some c' → LSndN Try.prog E 0 b' c' := by
  intro b' hb' c' hc'
  have e : loopsIn (lpOf Try.prog 98 0) = [lpOf Try.prog 98 1] := by kernel_rfl
  rw [e] at hb'
  obtain rfl := List.mem_singleton.1 hb'
  obtain rfl : cBi = c' := Option.some.inj hc'
  exact sndBi
theorem llBo : LLOk Try.prog E (llOfN Try.prog E 98 0 [(3, cBo), (8, cBi)]) := llOfN_ok fun i hi c hc => by
  have hi : i < 2 := hi
  have : i = 0 ∨ i = 1 := by omega
  rcases this with rfl | rfl
  · obtain rfl : cBo = c := Option.some.inj hc
    exact LSndN.mk2 good names mixes .nil (by decide) inBo hBo
  · obtain rfl : cBi = c := Option.some.inj hc
    exact sndBi
noncomputable def runN (ct : CTab T) (ll : Nat → Nat → LoopTab T) (fl : List Nat) (f : Nat) (xs : List (AV T)) (ts : List Nat) : Tree (AV T) := resN Try.prog fl ts (callX Try.prog E ct ll 1000 8 (.fn f) xs hp0)
theorem factN_run {ct : CTab T} (hc : CTabOk Try.prog E ct) {ll : Nat → Nat → LoopTab T} (hl : LLOk Try.prog E ll) {fl : List Nat} (hfl : ∀ τ, memN τ fl = true → ∀ x : T τ, (E.enc τ x).all ind0 = true) {f : Nat} {xs : List (AV T)} {ts : List Nat} {v : AV T} (ha : xs.all flt2 = true)
    (h : (runN ct ll fl f xs ts).holds fun x => x = v) : FactN Try.prog E f xs v :=
  factN_of_run good hfl (callX_ok good names mixes hc hl 8) ha h
theorem fl2 : ∀ τ, memN τ [2] = true → ∀ x : T τ, (E.enc τ x).all ind0 = true := fun τ h => by
  have := memN_iff.1 h
  obtain rfl : τ = 2 := by simpa using this
  exact fun x => rfl
theorem flN : ∀ τ, memN τ [] = true → ∀ x : T τ, (E.enc τ x).all ind0 = true := fun τ h => by cases h
theorem tvBP (l : List Int) : runN ([] : CTab T) (llOfN Try.prog E 98 0 [(3, cBo), (8, cBi)]) [2] 98 [.sl 2 l false] [116] =
  (.req (((Dg [(1 : Int)] ∧ okF l) ∧ (0 : Int) ≤ (0 : Int) ∧ List.length l ≤ (100 : Nat)) ∧ List.length [(1 : Int)] ≤ (1 : Nat) + (4 : Nat) * Int.toNat (0 : Int) ∧ (0 : Int) ≤ (↑(List.length l) : Int))
  (.req (List.length (prodL (List.drop (Int.toNat (0 : Int)) l) [(1 : Int)]) = List.length (prodL (List.drop (Int.toNat (0 : Int)) l) [(1 : Int)]))
  (.leaf (.sl (2 : Nat) (prodL (List.drop (Int.toNat (0 : Int)) l) [(1 : Int)]) false)))) := by kernel_rfl
theorem tvBA (x y : List Int) : runN ([] : CTab T) (llOfN Try.prog E 99 0 [(4, cBa)]) [2] 99 [.sl 2 x false, .sl 2 y false] [116] =
  (.req (((Dg x ∧ Dg y) ∧ (0 : Int) ≤ (0 : Int) ∧ (0 : Int) ≤ (2 : Int)) ∧ ((0 : Int) ≤ (0 : Int) ∧ List.length x ≤ (1000 : Nat) ∧ List.length y ≤ (1000 : Nat) ∧ (0 : Nat) ≤ Int.toNat (0 : Int)) ∧ Int.toNat (0 : Int) + List.length (addD (List.drop (Int.toNat (0 : Int)) x) (List.drop (Int.toNat (0 : Int)) y) (0 : Int)) ≤ (3000 : Nat))
  (.req (List.length ([] ++ addD (List.drop (Int.toNat (0 : Int)) x) (List.drop (Int.toNat (0 : Int)) y) (0 : Int)) = List.length ([] ++ addD (List.drop (Int.toNat (0 : Int)) x) (List.drop (Int.toNat (0 : Int)) y) (0 : Int)))
  (.leaf (.sl (2 : Nat) ([] ++ addD (List.drop (Int.toNat (0 : Int)) x) (List.drop (Int.toNat (0 : Int)) y) (0 : Int)) false)))) := by kernel_rfl
theorem tvBG (x y : List Int) : runN ([] : CTab T) (llOfN Try.prog E 100 0 [(2, cBg)]) [] 100 [.sl 2 x false, .sl 2 y false] [4] =
  (.req ((List.length x ≤ (2000 : Nat) ∧ List.length y ≤ (2000 : Nat)) ∧ (-1 : Int) ≤ IntKind.wrap IntKind.i64 ((bif true then if (↑(List.length y) : Int) > (↑(List.length x) : Int) then (↑(List.length y) : Int) else (↑(List.length x) : Int) else if (↑(List.length y) : Int) < (↑(List.length x) : Int) then (↑(List.length y) : Int) else (↑(List.length x) : Int)) - (1 : Int)) ∧ IntKind.wrap IntKind.i64 ((bif true then if (↑(List.length y) : Int) > (↑(List.length x) : Int) then (↑(List.length y) : Int) else (↑(List.length x) : Int) else if (↑(List.length y) : Int) < (↑(List.length x) : Int) then (↑(List.length y) : Int) else (↑(List.length x) : Int)) - (1 : Int)) ≤ (2000 : Int))
  (.br (deN x y (Int.toNat (IntKind.wrap IntKind.i64 ((bif true then if (↑(List.length y) : Int) > (↑(List.length x) : Int) then (↑(List.length y) : Int) else (↑(List.length x) : Int) else if (↑(List.length y) : Int) < (↑(List.length x) : Int) then (↑(List.length y) : Int) else (↑(List.length x) : Int)) - (1 : Int)) + (1 : Int))))
   (.leaf (.bool (geN x y (Int.toNat (IntKind.wrap IntKind.i64 ((bif true then if (↑(List.length y) : Int) > (↑(List.length x) : Int) then (↑(List.length y) : Int) else (↑(List.length x) : Int) else if (↑(List.length y) : Int) < (↑(List.length x) : Int) then (↑(List.length y) : Int) else (↑(List.length x) : Int)) - (1 : Int)) + (1 : Int))))))
   (.leaf (.bool (true))))) := by kernel_rfl
end Go.Proofs.Ytnhedcaphncliaa.W.Big
