/- Columns: their first error. No condition. -/
import Derived.Test.YtnhedcaphncliaaH2
set_option linter.unusedVariables false
set_option maxRecDepth 100000
set_option maxHeartbeats 4000000
noncomputable section
namespace Go.Proofs.Ytnhedcaphncliaa.W.Hole
open Go Go.Cx Go.RowKit
/-! ### volumes -/
noncomputable def va : List Seg → Int
  | [] => 0
  | s :: r => s.Long * s.Area + va r
theorem prod_s {s : Seg} (h : segP s) : s.Long ≤ s.Long * s.Area ∧ s.Long * s.Area ≤ 5000 * s.Long := by
  have h1 := Int.mul_le_mul_of_nonneg_left h.2.2.1.1 (show 0 ≤ s.Long by have := h.1; omega)
  have h2 := Int.mul_le_mul_of_nonneg_left h.2.2.1.2 (show 0 ≤ s.Long by have := h.1; omega)
  omega
theorem va_bd : ∀ {l : List Seg}, allS l = true → sumL l ≤ va l ∧ va l ≤ 5000 * sumL l
  | [], _ => by decide
  | s :: r, h => by
    obtain ⟨h1, h2⟩ := Bool.and_eq_true_iff.1 h
    have h3 := prod_s (of_decide_eq_true h1)
    have h4 := va_bd h2
    show s.Long + sumL r ≤ s.Long * s.Area + va r ∧ s.Long * s.Area + va r ≤ 5000 * (s.Long + sumL r)
    omega
theorem hi_eq {s : Seg} {low : Int} (h : segP s) (h0 : 0 ≤ low) (h1 : low + 5000 * s.Long ≤ 4611686018427387904) : hi s low = low + s.Long * s.Area := by
  have h3 := prod_s h
  have h4 := h.1
  unfold hi wr
  rw [i64_in' (n := s.Long * s.Area) (by omega) (by omega)]
  exact i64_in' (by omega) (by omega)
theorem vf_va : ∀ {l : List Seg} {low : Int}, allS l = true → 0 ≤ low → low + 5000 * sumL l ≤ 4611686018427387904 → vf l low = low + va l
  | [], low, _, _, _ => by show low = low + 0; omega
  | s :: r, low, h, h0, hb => by
    obtain ⟨h1, h2⟩ := Bool.and_eq_true_iff.1 h
    have h1 := of_decide_eq_true h1
    have h3 := prod_s h1
    have h4 := sumL_nn h2
    have hb : low + 5000 * (s.Long + sumL r) ≤ 4611686018427387904 := hb
    show vf r (hi s low) = low + (s.Long * s.Area + va r)
    rw [hi_eq h1 h0 (by omega), vf_va h2 (by have := h1.1; omega) (by omega)]
    omega
theorem vol_bd (l : List Seg) : 0 ≤ vol l ∧ vol l ≤ 5242880000 := by
  unfold vol
  split
  · rename_i h
    obtain ⟨_, h1, h2⟩ := hE_0 h
    have := va_bd h1
    have := sumL_nn h1
    rw [vf_va h1 (by decide) (by omega)]
    omega
  · decide
theorem vol_va {l : List Seg} (h : hE l = 0) : vol l = va l := by
  unfold vol
  obtain ⟨_, h1, h2⟩ := hE_0 h
  have := va_bd h1
  rw [if_pos h, vf_va h1 (by decide) (by omega)]
  omega
/-! ### slugs -/
@[reducible] def zP (s : Slug) : Prop := (0 ≤ s.Weight ∧ s.Weight ≤ 40000) ∧ 1 ≤ s.Volume
noncomputable def allV : List Slug → Bool
  | [] => true
  | s :: r => decide (zP s) && allV r
theorem allV_cons {s : Slug} {r : List Slug} : allV (s :: r) = (decide (zP s) && allV r) := rfl
theorem allV_no {s : Slug} {r : List Slug} (h : ¬ zP s) : allV (s :: r) = false := by rw [allV_cons, decide_eq_false h]; rfl
theorem allV_yes {s : Slug} {r : List Slug} (h : zP s) : allV (s :: r) = allV r := by rw [allV_cons, decide_eq_true h]; rfl
theorem allV_mem : ∀ {l : List Slug}, allV l = true → ∀ s ∈ l, zP s
  | [], _, s, h => by cases h
  | x :: r, h, s, hs => by
    obtain ⟨h1, h2⟩ := Bool.and_eq_true_iff.1 h
    rcases List.mem_cons.1 hs with rfl | hs
    · exact of_decide_eq_true h1
    · exact allV_mem h2 s hs
noncomputable def satV : List Slug → Int → Int
  | [], m => m
  | s :: r, m => satV r (if m + s.Volume ≤ 9223372036854775807 then m + s.Volume else 9223372036854775807)
noncomputable def sumV : List Slug → Int
  | [] => 0
  | s :: r => s.Volume + sumV r
theorem sumV_nn : ∀ {l : List Slug}, allV l = true → 0 ≤ sumV l
  | [], _ => by decide
  | s :: r, h => by
    obtain ⟨h1, h2⟩ := Bool.and_eq_true_iff.1 h
    have := of_decide_eq_true h1
    have := sumV_nn h2
    show 0 ≤ s.Volume + sumV r
    omega
theorem satV_eq : ∀ {l : List Slug} {m : Int}, allV l = true → 0 ≤ m → m ≤ 9223372036854775807 → satV l m = if m + sumV l ≤ 9223372036854775807 then m + sumV l else 9223372036854775807
  | [], m, _, _, hm => by show m = if m + 0 ≤ _ then m + 0 else _; rw [Int.add_zero, if_pos hm]
  | s :: r, m, h, h0, hm => by
    obtain ⟨h1, h2⟩ := Bool.and_eq_true_iff.1 h
    have h1 := (of_decide_eq_true h1).2
    have hn := sumV_nn h2
    show satV r _ = if m + (s.Volume + sumV r) ≤ _ then m + (s.Volume + sumV r) else _
    by_cases q : m + s.Volume ≤ 9223372036854775807
    · rw [if_pos q, satV_eq h2 (by omega) q, show m + s.Volume + sumV r = m + (s.Volume + sumV r) by omega]
    · rw [if_neg q, satV_eq h2 (by decide) (by decide), if_neg (show ¬ m + (s.Volume + sumV r) ≤ 9223372036854775807 by omega)]
      split <;> omega
noncomputable def fitsB : List Slug → Int → Bool
  | [], _ => true
  | s :: r, m => if s.Volume > m then false else fitsB r (m - s.Volume)
theorem fitsB_iff : ∀ {l : List Slug} {m : Int}, allV l = true → 0 ≤ m → (fitsB l m = true ↔ sumV l ≤ m)
  | [], m, _, h0 => ⟨fun _ => h0, fun _ => rfl⟩
  | s :: r, m, h, h0 => by
    obtain ⟨h1, h2⟩ := Bool.and_eq_true_iff.1 h
    have h1 := (of_decide_eq_true h1).2
    have hn := sumV_nn h2
    show (if s.Volume > m then false else fitsB r (m - s.Volume)) = true ↔ s.Volume + sumV r ≤ m
    by_cases q : s.Volume > m
    · rw [if_pos q]; exact ⟨fun h => (by cases h), fun h => by omega⟩
    · rw [if_neg q, fitsB_iff h2 (by omega)]; omega
@[reducible] def inVm (l : List Slug) : Prop := ∀ s ∈ l, s.Volume ≤ 9223372036854775807
noncomputable def o29 (m : Int) (l : List Slug) (n : Int) (i : Int) (h : List Seg) : Tree (Ex × List (V T)) := .req ((0 ≤ i ∧ n = l.length ∧ l.length ≤ 24) ∧ (0 ≤ m ∧ m ≤ 9223372036854775807) ∧ inVm l) (.br (allV (l.drop i.toNat)) (.leaf (.exit 0, [.n (satV (l.drop i.toNat) m), .l 52 h])) (.leaf (.ret, [.n 2])))
noncomputable def c29 : LoopC T := ⟨[.n, .l 47, .n, .n, .l 52], ⟨48, [(2, .one (.o 0 0)), (6, .one (.i .i64)), (20, .one (.s 47)), (21, .one (.i .i64)), (22, .one (.i .i64))], [.c [.s 52]]⟩, fun e => match e with
    | .ret => ⟨48, [(4, .one (.i .i64))], []⟩
    | _ => ⟨48, [(2, .one (.o 0 0)), (6, .one (.i .i64))], [.c [.s 52]]⟩, 30, fun d => o29 d.1 d.2.1 d.2.2.1 d.2.2.2.1 d.2.2.2.2.1⟩
theorem b29 (m : Int) (l : List Slug) (n : Int) (i : Int) (h : List Seg) : bodyD Try.prog E c29 0 (bodyX Try.prog E ctQ noLoops 1000 5 L0 (lpOf Try.prog 29 0)) (m, l, n, i, h, ()) =
  (.br (decide (i < n))
   (.req ((decide ((0 : Int) ≤ i) && decide (i < (↑(List.length l) : Int))) = true)
   (.br (!within (Slug.Weight (zi l i)) (0 : Int) (40000 : Int))
    (.leaf (.inr (.ret, [.n ((2 : Int))])))
    (.br (decide (Slug.Volume (zi l i) < (1 : Int)))
     (.leaf (.inr (.ret, [.n ((2 : Int))])))
     (.br (decide (IntKind.wrap IntKind.i64 (m + Slug.Volume (zi l i)) ≥ (0 : Int)))
      (.leaf (.inl (IntKind.wrap IntKind.i64 (m + Slug.Volume (zi l i)), (l, (n, (IntKind.wrap IntKind.i64 (i + (1 : Int)), (h, ())))))))
      (.leaf (.inl ((9223372036854775807 : Int), (l, (n, (IntKind.wrap IntKind.i64 (i + (1 : Int)), (h, ())))))))))))
   (.leaf (.inr (.exit (0 : Nat), [.n (m), .l (52 : Nat) (h)])))) := by kernel_rfl
theorem n29 (m : Int) (l : List Slug) (n : Int) (i : Int) (h : List Seg) (K : Ex × List (V T) → Prop) (hI : (0 ≤ i ∧ n = l.length ∧ l.length ≤ 24) ∧ (0 ≤ m ∧ m ≤ 9223372036854775807) ∧ inVm l) (hK : (.br (allV (l.drop i.toNat)) (.leaf (.exit 0, [.n (satV (l.drop i.toNat) m), .l 52 h])) (.leaf (.ret, [.n 2])) : Tree (Ex × List (V T))).holds K) : (c29.out (m, l, n, i, h, ())).holds K := ⟨hI, hK⟩
theorem h29' (m : Int) (l : List Slug) (n : Int) (i : Int) (h : List Seg) (K : Ex × List (V T) → Prop) (hI : (0 ≤ i ∧ n = l.length ∧ l.length ≤ 24) ∧ (0 ≤ m ∧ m ≤ 9223372036854775807) ∧ inVm l) (hK : (.br (allV (l.drop i.toNat)) (.leaf (.exit 0, [.n (satV (l.drop i.toNat) m), .l 52 h])) (.leaf (.ret, [.n 2])) : Tree (Ex × List (V T))).holds K) :
    (bodyD Try.prog E c29 0 (bodyX Try.prog E ctQ noLoops 1000 5 L0 (lpOf Try.prog 29 0)) (m, l, n, i, h, ())).holds fun y => match y with
    | .inl d => ((d.2.1.length : Int) - d.2.2.2.1).toNat < ((l.length : Int) - i).toNat ∧ (c29.out d).holds K
    | .inr y => K y := by
  rw [b29]
  obtain ⟨⟨h0, rfl, hl⟩, hm, hL⟩ := hI
  have hK := pT hK
  refine way (fun c => wayC h0 c fun _ _ => ?_) fun c => ?_
  · have e2 : IntKind.wrap IntKind.i64 (i + 1) = i + 1 := i64_in' (by omega) (by omega)
    rw [e2]
    rw [drop_zI h0 c] at hK
    have hs := hL _ (zi_mem h0 c)
    have g1 : (0 : Int) ≤ i + 1 := by omega
    have g2 : ((l.length : Int) - (i + 1)).toNat < ((l.length : Int) - i).toNat := by omega
    generalize zi l i = s at *
    have no : ¬ zP s → K (.ret, [.n 2]) := fun h => hK.2 (allV_no h)
    refine wayB (fun k => no fun h => ?_) fun k1 => way (fun k => no fun h => by have := h.2; omega) fun k2 => ?_
    · rw [show within s.Weight 0 40000 = true from decide_eq_true h.1] at k; cases k
    have hp : zP s := ⟨of_decide_eq_true (show within s.Weight 0 40000 = true by simpa using k1), by omega⟩
    rw [allV_yes hp] at hK
    unfold satV at hK
    have next : ∀ m' : Int, 0 ≤ m' → m' ≤ 9223372036854775807 → (if m + s.Volume ≤ 9223372036854775807 then m + s.Volume else 9223372036854775807) = m' → ((l.length : Int) - (i + 1)).toNat < ((l.length : Int) - i).toNat ∧ (c29.out (m', l, (l.length : Int), i + 1, h, ())).holds K := fun m' a b e => by
      rw [e] at hK
      exact ⟨g2, ⟨⟨g1, rfl, hl⟩, ⟨a, b⟩, hL⟩, hK⟩
    by_cases q : m + s.Volume ≤ 9223372036854775807
    · have e3 : IntKind.wrap IntKind.i64 (m + s.Volume) = m + s.Volume := i64_in' (by omega) (by omega)
      rw [e3]
      exact way (fun _ => next _ (by omega) (by omega) (if_pos q)) fun k => absurd (by omega) k
    · have e3 : IntKind.wrap IntKind.i64 (m + s.Volume) = m + s.Volume - 18446744073709551616 := i64_over (by omega) (by omega)
      rw [e3]
      exact way (fun k => absurd k (by omega)) fun k => next _ (by decide) (by decide) (if_neg q)
  · rw [drop_n c] at hK
    exact hK.1 rfl
theorem h29 : LoopH Try.prog E c29 0 (bodyX Try.prog E ctQ noLoops 1000 5 L0 (lpOf Try.prog 29 0)) :=
  ⟨fun d => ((d.2.1.length : Int) - d.2.2.2.1).toNat, fun dd K hK => by
    obtain ⟨m, l, n, i, h, ⟨⟩⟩ := dd
    obtain ⟨hI, hK⟩ := hK
    refine Tree.holds_mono (fun y hy => ?_) (h29' m l n i h K hI hK)
    cases y with
    | inl d' => exact hy
    | inr y => exact hy⟩
theorem ll29 : LLOk Try.prog E (llOfN Try.prog E 29 0 [(10, c29)]) := llOfN_ok fun i hi c hc => by
  have hi : i < 1 := hi
  obtain rfl : i = 0 := by omega
  obtain rfl : c29 = c := Option.some.inj hc
  exact LSndN.mk good names mixes ctQ_ok (by decide) h29
noncomputable def o30a (l : List Slug) (i : Int) (h : List Seg) : Tree (Ex × List (V T)) := .req (0 ≤ i ∧ l.length ≤ 24) (.br (allV (l.drop i.toNat)) (.leaf (.exit 0, [.l 47 l, .l 52 h])) (.leaf (.ret, [.n 2])))
noncomputable def c30a : LoopC T := ⟨[.l 47, .n, .l 52], ⟨72, [(1, .one (.s 47)), (2, .one (.o 0 0)), (6, .one (.i .i64))], [.c [.s 52]]⟩, fun e => match e with
    | .ret => ⟨72, [(4, .one (.i .i64))], []⟩
    | _ => ⟨72, [(1, .one (.s 47)), (2, .one (.o 0 0))], [.c [.s 52]]⟩, 30, fun d => o30a d.1 d.2.1 d.2.2.1⟩
theorem b30a (l : List Slug) (i : Int) (h : List Seg) : bodyD Try.prog E c30a 0 (bodyX Try.prog E ctQ noLoops 1000 5 L0 (lpOf Try.prog 30 0)) (l, i, h, ()) =
  (.br (decide (i < (↑(List.length l) : Int)))
   (.req ((decide ((0 : Int) ≤ i) && decide (i < (↑(List.length l) : Int))) = true)
   (.br (decide (Slug.Weight (zi l i) < (0 : Int)))
    (.leaf (.inr (.ret, [.n ((2 : Int))])))
    (.req ((decide ((0 : Int) ≤ i) && decide (i < (↑(List.length l) : Int))) = true)
    (.br (decide (Slug.Weight (zi l i) > (40000 : Int)))
     (.leaf (.inr (.ret, [.n ((2 : Int))])))
     (.req ((decide ((0 : Int) ≤ i) && decide (i < (↑(List.length l) : Int))) = true)
     (.br (decide (Slug.Volume (zi l i) < (1 : Int)))
      (.leaf (.inr (.ret, [.n ((2 : Int))])))
      (.leaf (.inl (l, (IntKind.wrap IntKind.i64 (i + (1 : Int)), (h, ())))))))))))
   (.leaf (.inr (.exit (0 : Nat), [.l (47 : Nat) (l), .l (52 : Nat) (h)])))) := by kernel_rfl
theorem n30a (l : List Slug) (i : Int) (h : List Seg) (K : Ex × List (V T) → Prop) (hI : 0 ≤ i ∧ l.length ≤ 24) (hK : (.br (allV (l.drop i.toNat)) (.leaf (.exit 0, [.l 47 l, .l 52 h])) (.leaf (.ret, [.n 2])) : Tree (Ex × List (V T))).holds K) : (c30a.out (l, i, h, ())).holds K := ⟨hI, hK⟩
theorem h30a' (l : List Slug) (i : Int) (h : List Seg) (K : Ex × List (V T) → Prop) (hI : 0 ≤ i ∧ l.length ≤ 24) (hK : (.br (allV (l.drop i.toNat)) (.leaf (.exit 0, [.l 47 l, .l 52 h])) (.leaf (.ret, [.n 2])) : Tree (Ex × List (V T))).holds K) :
    (bodyD Try.prog E c30a 0 (bodyX Try.prog E ctQ noLoops 1000 5 L0 (lpOf Try.prog 30 0)) (l, i, h, ())).holds fun y => match y with
    | .inl d => ((d.1.length : Int) - d.2.1).toNat < ((l.length : Int) - i).toNat ∧ (c30a.out d).holds K
    | .inr y => K y := by
  rw [b30a]
  obtain ⟨h0, hl⟩ := hI
  have hK := pT hK
  refine way (fun c => wayC h0 c fun _ _ => ?_) fun c => ?_
  · have e2 : IntKind.wrap IntKind.i64 (i + 1) = i + 1 := i64_in' (by omega) (by omega)
    rw [e2]
    rw [drop_zI h0 c] at hK
    have g1 : (0 : Int) ≤ i + 1 := by omega
    have g2 : ((l.length : Int) - (i + 1)).toNat < ((l.length : Int) - i).toNat := by omega
    generalize zi l i = s at *
    have no : ¬ zP s → K (.ret, [.n 2]) := fun h => hK.2 (allV_no h)
    refine way (fun k => no fun h => by have := h.1; omega) fun k1 => wayC h0 c fun _ _ => way (fun k => no fun h => by have := h.1; omega) fun k2 => wayC h0 c fun _ _ => way (fun k => no fun h => by have := h.2; omega) fun k3 => ?_
    have hp : zP s := ⟨⟨by omega, by omega⟩, by omega⟩
    rw [allV_yes hp] at hK
    exact ⟨g2, ⟨g1, hl⟩, hK⟩
  · rw [drop_n c] at hK
    exact hK.1 rfl
theorem h30a : LoopH Try.prog E c30a 0 (bodyX Try.prog E ctQ noLoops 1000 5 L0 (lpOf Try.prog 30 0)) :=
  ⟨fun d => ((d.1.length : Int) - d.2.1).toNat, fun dd K hK => by
    obtain ⟨l, i, h, ⟨⟩⟩ := dd
    obtain ⟨hI, hK⟩ := hK
    refine Tree.holds_mono (fun y hy => ?_) (h30a' l i h K hI hK)
    cases y with
    | inl d' => exact hy
    | inr y => exact hy⟩
noncomputable def o30b (l : List Slug) (m : Int) (i : Int) : Tree (Ex × List (V T)) := .req ((0 ≤ i ∧ l.length ≤ 24) ∧ (0 ≤ m ∧ m ≤ 5242880000) ∧ allV l = true) (.br (fitsB (l.drop i.toNat) m) (.leaf (.exit 2, [.n (m - sumV (l.drop i.toNat))])) (.leaf (.ret, [.n 5])))
noncomputable def c30b : LoopC T := ⟨[.l 47, .n, .n], ⟨72, [(1, .one (.s 47)), (7, .one (.i .i64)), (8, .one (.i .i64))], []⟩, fun e => match e with
    | .ret => ⟨72, [(4, .one (.i .i64))], []⟩
    | _ => ⟨72, [(7, .one (.i .i64))], []⟩, 30, fun d => o30b d.1 d.2.1 d.2.2.1⟩
theorem b30b (l : List Slug) (m : Int) (i : Int) : bodyD Try.prog E c30b 0 (bodyX Try.prog E ctQ noLoops 1000 5 L0 (lpOf Try.prog 30 1)) (l, m, i, ()) =
  (.br (decide (i < (↑(List.length l) : Int)))
   (.req ((decide ((0 : Int) ≤ i) && decide (i < (↑(List.length l) : Int))) = true)
   (.br (decide (Slug.Volume (zi l i) > m))
    (.leaf (.inr (.ret, [.n ((5 : Int))])))
    (.req ((decide ((0 : Int) ≤ i) && decide (i < (↑(List.length l) : Int))) = true)
    (.leaf (.inl (l, (IntKind.wrap IntKind.i64 (m - Slug.Volume (zi l i)), (IntKind.wrap IntKind.i64 (i + (1 : Int)), ()))))))))
   (.leaf (.inr (.exit (2 : Nat), [.n (m)])))) := by kernel_rfl
theorem n30b (l : List Slug) (m : Int) (i : Int) (K : Ex × List (V T) → Prop) (hI : (0 ≤ i ∧ l.length ≤ 24) ∧ (0 ≤ m ∧ m ≤ 5242880000) ∧ allV l = true) (hK : (.br (fitsB (l.drop i.toNat) m) (.leaf (.exit 2, [.n (m - sumV (l.drop i.toNat))])) (.leaf (.ret, [.n 5])) : Tree (Ex × List (V T))).holds K) : (c30b.out (l, m, i, ())).holds K := ⟨hI, hK⟩
theorem h30b' (l : List Slug) (m : Int) (i : Int) (K : Ex × List (V T) → Prop) (hI : (0 ≤ i ∧ l.length ≤ 24) ∧ (0 ≤ m ∧ m ≤ 5242880000) ∧ allV l = true) (hK : (.br (fitsB (l.drop i.toNat) m) (.leaf (.exit 2, [.n (m - sumV (l.drop i.toNat))])) (.leaf (.ret, [.n 5])) : Tree (Ex × List (V T))).holds K) :
    (bodyD Try.prog E c30b 0 (bodyX Try.prog E ctQ noLoops 1000 5 L0 (lpOf Try.prog 30 1)) (l, m, i, ())).holds fun y => match y with
    | .inl d => ((d.1.length : Int) - d.2.2.1).toNat < ((l.length : Int) - i).toNat ∧ (c30b.out d).holds K
    | .inr y => K y := by
  rw [b30b]
  obtain ⟨⟨h0, hl⟩, hm, hV⟩ := hI
  have hK := pT hK
  refine way (fun c => wayC h0 c fun _ _ => ?_) fun c => ?_
  · have e2 : IntKind.wrap IntKind.i64 (i + 1) = i + 1 := i64_in' (by omega) (by omega)
    rw [e2]
    have hs := (allV_mem hV _ (zi_mem h0 c)).2
    rw [drop_zI h0 c] at hK
    unfold fitsB sumV at hK
    have g1 : (0 : Int) ≤ i + 1 := by omega
    have g2 : ((l.length : Int) - (i + 1)).toNat < ((l.length : Int) - i).toNat := by omega
    generalize zi l i = s at *
    refine way (fun k => ?_) fun k => ?_
    · rw [if_pos k] at hK; exact hK.2 rfl
    · rw [if_neg k] at hK
      have e3 : IntKind.wrap IntKind.i64 (m - s.Volume) = m - s.Volume := i64_in' (by omega) (by omega)
      rw [e3]
      refine wayC h0 c fun _ _ => ⟨g2, ⟨⟨g1, hl⟩, ⟨by show 0 ≤ m - s.Volume; omega, by show m - s.Volume ≤ _; omega⟩, hV⟩, fun t => ?_, fun t => hK.2 t⟩
      have := hK.1 t
      rw [show m - (s.Volume + sumV (l.drop (i + 1).toNat)) = m - s.Volume - sumV (l.drop (i + 1).toNat) by omega] at this
      exact this
  · rw [drop_n c] at hK
    have := hK.1 rfl
    rw [show m - sumV [] = m from Int.sub_zero m] at this
    exact this
theorem h30b : LoopH Try.prog E c30b 0 (bodyX Try.prog E ctQ noLoops 1000 5 L0 (lpOf Try.prog 30 1)) :=
  ⟨fun d => ((d.1.length : Int) - d.2.2.1).toNat, fun dd K hK => by
    obtain ⟨l, m, i, ⟨⟩⟩ := dd
    obtain ⟨hI, hK⟩ := hK
    refine Tree.holds_mono (fun y hy => ?_) (h30b' l m i K hI hK)
    cases y with
    | inl d' => exact hy
    | inr y => exact hy⟩
theorem ll30 : LLOk Try.prog E (llOfN Try.prog E 30 0 [(9, c30a), (15, c30b)]) := llOfN_ok fun i hi c hc => by
  have hi : i < 2 := hi
  rcases (by omega : i = 0 ∨ i = 1) with rfl | rfl
  · obtain rfl : c30a = c := Option.some.inj hc
    exact LSndN.mk good names mixes ctQ_ok (by decide) h30a
  · obtain rfl : c30b = c := Option.some.inj hc
    exact LSndN.mk good names mixes ctQ_ok (by decide) h30b
noncomputable def cE (h : List Seg) (l : List Slug) : Int := if hE h = 0 then (if (l.length : Int) = 0 then 6 else if (l.length : Int) > 24 then 8 else if allV l = true then (if sumV l < vol h then 6 else if sumV l > vol h then 5 else 0) else 2) else hE h
theorem tv29 (h : List Seg) (l : List Slug) : runX ctQ (llOfN Try.prog E 29 0 [(10, c29)]) 29 [.agg [.sl 52 h false], .sl 47 l false] [26] =
  (.req (inLg h)
  (.br (hE h != (0 : Int))
   (.leaf (.sym .i64 (hE h)))
   (.br ((↑(List.length l) : Int) == (0 : Int))
    (.leaf (.sym .i64 ((6 : Int))))
    (.br (decide ((↑(List.length l) : Int) > (24 : Int)))
     (.leaf (.sym .i64 ((8 : Int))))
     (.req (((0 : Int) ≤ (0 : Int) ∧ (↑(List.length l) : Int) = (↑(List.length l) : Int) ∧ List.length l ≤ (24 : Nat)) ∧ ((0 : Int) ≤ (0 : Int) ∧ (0 : Int) ≤ (9223372036854775807 : Int)) ∧ inVm l)
     (.br (allV (List.drop (Int.toNat (0 : Int)) l))
      (.req (inLg h)
      (.br (decide (satV (List.drop (Int.toNat (0 : Int)) l) (0 : Int) < vol h))
       (.leaf (.sym .i64 ((6 : Int))))
       (.req (inLg h)
       (.br (decide (satV (List.drop (Int.toNat (0 : Int)) l) (0 : Int) > vol h))
        (.leaf (.sym .i64 ((5 : Int))))
        (.leaf (.sym .i64 ((0 : Int))))))))
      (.leaf (.sym .i64 ((2 : Int)))))))))) := by kernel_rfl
theorem tv30 (h : List Seg) (l : List Slug) : runX ctQ (llOfN Try.prog E 30 0 [(9, c30a), (15, c30b)]) 30 [.agg [.sl 52 h false], .sl 47 l false] [26] =
  (.req (inLg h)
  (.br (hE h != (0 : Int))
   (.leaf (.sym .i64 (hE h)))
   (.br ((↑(List.length l) : Int) == (0 : Int))
    (.leaf (.sym .i64 ((6 : Int))))
    (.br (decide ((↑(List.length l) : Int) > (24 : Int)))
     (.leaf (.sym .i64 ((8 : Int))))
     (.req ((0 : Int) ≤ (0 : Int) ∧ List.length l ≤ (24 : Nat))
     (.br (allV (List.drop (Int.toNat (0 : Int)) l))
      (.req (inLg h)
      (.req (((0 : Int) ≤ (0 : Int) ∧ List.length l ≤ (24 : Nat)) ∧ ((0 : Int) ≤ vol h ∧ vol h ≤ (5242880000 : Int)) ∧ allV l = true)
      (.br (fitsB (List.drop (Int.toNat (0 : Int)) l) (vol h))
       (.br (decide (vol h - sumV (List.drop (Int.toNat (0 : Int)) l) > (0 : Int)))
        (.leaf (.sym .i64 ((6 : Int))))
        (.leaf (.sym .i64 ((0 : Int)))))
       (.leaf (.sym .i64 ((5 : Int)))))))
      (.leaf (.sym .i64 ((2 : Int)))))))))) := by kernel_rfl
theorem s29 (h : List Seg) (l : List Slug) (h1 : inLg h) (h2 : inVm l) : (runX ctQ (llOfN Try.prog E 29 0 [(10, c29)]) 29 [.agg [.sl 52 h false], .sl 47 l false] [26]).holds fun v => v = i64 (cE h l) := by
  rw [tv29]
  have hb := vol_bd h
  unfold cE
  refine ⟨h1, wayNe (fun c => ?_) fun c => wayEq (fun c1 => ?_) fun c1 => way (fun c2 => ?_) fun c2 => ⟨⟨⟨by decide, rfl, by omega⟩, ⟨by decide, by decide⟩, h2⟩, wayB (fun c3 => ?_) fun c3 => ?_⟩⟩
  · rw [if_neg c]; rfl
  · rw [if_pos c, if_pos c1]; rfl
  · rw [if_pos c, if_neg c1, if_pos c2]; rfl
  · have c3 : allV l = true := c3
    have e : satV (l.drop (Int.toNat 0)) 0 = if 0 + sumV l ≤ 9223372036854775807 then 0 + sumV l else 9223372036854775807 := satV_eq c3 (by decide) (by decide)
    rw [if_pos c, if_neg c1, if_neg c2, if_pos c3]
    have e' : (satV (l.drop (Int.toNat 0)) 0 < vol h ↔ sumV l < vol h) ∧ (satV (l.drop (Int.toNat 0)) 0 > vol h ↔ sumV l > vol h) := by
      rw [e]; split <;> omega
    refine ⟨h1, way (fun k => ?_) fun k => ⟨h1, way (fun k2 => ?_) fun k2 => ?_⟩⟩
    · rw [if_pos (e'.1.1 k)]; rfl
    · rw [if_neg (fun q => k (e'.1.2 q)), if_pos (e'.2.1 k2)]; rfl
    · rw [if_neg (fun q => k (e'.1.2 q)), if_neg (fun q => k2 (e'.2.2 q))]; rfl
  · have c3 : allV l = false := c3
    rw [if_pos c, if_neg c1, if_neg c2, if_neg (by rw [c3]; decide)]; rfl
theorem s30 (h : List Seg) (l : List Slug) (h1 : inLg h) : (runX ctQ (llOfN Try.prog E 30 0 [(9, c30a), (15, c30b)]) 30 [.agg [.sl 52 h false], .sl 47 l false] [26]).holds fun v => v = i64 (cE h l) := by
  rw [tv30]
  have hb := vol_bd h
  unfold cE
  refine ⟨h1, wayNe (fun c => ?_) fun c => wayEq (fun c1 => ?_) fun c1 => way (fun c2 => ?_) fun c2 => ⟨⟨by decide, by omega⟩, wayB (fun c3 => ?_) fun c3 => ?_⟩⟩
  · rw [if_neg c]; rfl
  · rw [if_pos c, if_pos c1]; rfl
  · rw [if_pos c, if_neg c1, if_pos c2]; rfl
  · have c3 : allV l = true := c3
    rw [if_pos c, if_neg c1, if_neg c2, if_pos c3]
    have e : fitsB l (vol h) = true ↔ sumV l ≤ vol h := fitsB_iff c3 hb.1
    refine ⟨h1, ⟨⟨by decide, by omega⟩, hb, c3⟩, wayB (fun (k : fitsB l (vol h) = true) => way (fun (k2 : vol h - sumV l > 0) => ?_) fun (k2 : ¬ vol h - sumV l > 0) => ?_) fun (k : fitsB l (vol h) = false) => ?_⟩
    · rw [if_pos (by omega)]; rfl
    · have := e.1 k
      rw [if_neg (by omega), if_neg (by omega)]; rfl
    · have : ¬ sumV l ≤ vol h := fun q => by rw [e.2 q] at k; cases k
      rw [if_neg (by omega), if_pos (by omega)]; rfl
  · have c3 : allV l = false := c3
    rw [if_pos c, if_neg c1, if_neg c2, if_neg (by rw [c3]; decide)]; rfl
noncomputable def cCol : Con T := conP Try.prog [shH, .one (.s 47)] [.l 52, .l 47] (fun d => inLg d.1 ∧ inVm d.2.1) fun d => i64 (cE d.1 d.2.1)
theorem col_ok : ConOk Try.prog E 29 cCol := conP_ok fun d hd => fact_run ctQ_ok ll29 (ts := [26]) rfl (s29 d.1 d.2.1 hd.1 hd.2)
theorem col2_ok : ConOk Try.prog E 30 cCol := conP_ok fun d hd => fact_run ctQ_ok ll30 (ts := [26]) rfl (s30 d.1 d.2.1 hd.1)
end Go.Proofs.Ytnhedcaphncliaa.W.Hole
