/- Holes: their first error, volume, height line and places. No condition. -/
import Derived.Test.YtnhedcaphncliaaA
import Derived.Test.YtnhedcaphncliaaCz8
set_option linter.unusedVariables false
set_option maxRecDepth 100000
set_option maxHeartbeats 4000000
noncomputable section
namespace Go.Proofs.Ytnhedcaphncliaa.W.Hole
open Go Go.Cx Go.RowKit
@[reducible] def wr (n : Int) : Int := IntKind.wrap IntKind.i64 n
theorem swapT {α : Type} {Q : α → Prop} {t t' : Tree α} (e : t = t') (h : t'.holds Q) : t.holds Q := by rw [e]; exact h
noncomputable def si (l : List Seg) (i : Int) : Seg := ixD E 52 l i
theorem drop_sI {l : List Seg} {i : Int} (h0 : 0 ≤ i) (h : i < l.length) : l.drop i.toNat = si l i :: l.drop (i + 1).toNat := by
  have := drop_ix (E := E) (τ := 52) (l := l) (i := i.toNat) (by show i.toNat < (l : List Seg).length; omega)
  rw [Int.toNat_of_nonneg h0] at this
  rw [show (i + 1).toNat = i.toNat + 1 by omega]
  exact this
theorem drop_n {α : Type} {l : List α} {i : Int} (h : ¬ i < l.length) : l.drop i.toNat = [] := List.drop_eq_nil_of_le (by omega)
theorem mem_drop {α : Type} {l : List α} {n : Nat} {x : α} (h : x ∈ l.drop n) : x ∈ l := List.mem_of_mem_drop h
@[reducible] def segP (s : Seg) : Prop := 1 ≤ s.Long ∧ (0 ≤ s.Rise ∧ s.Rise ≤ s.Long) ∧ (1 ≤ s.Area ∧ s.Area ≤ 5000) ∧ (1 ≤ s.Gap ∧ s.Gap ≤ 200)
noncomputable def allS : List Seg → Bool
  | [] => true
  | s :: r => decide (segP s) && allS r
theorem allS_mem : ∀ {l : List Seg}, allS l = true → ∀ s ∈ l, segP s
  | [], _, s, h => by cases h
  | x :: r, h, s, hs => by
    obtain ⟨h1, h2⟩ := Bool.and_eq_true_iff.1 h
    rcases List.mem_cons.1 hs with rfl | hs
    · exact of_decide_eq_true h1
    · exact allS_mem h2 s hs
noncomputable def sat1 : List Seg → Int → Int
  | [], m => m
  | s :: r, m => sat1 r (if m + s.Long ≤ 9223372036854775807 then m + s.Long else 9223372036854775807)
noncomputable def sat2 : List Seg → Int → Int
  | [], m => m
  | s :: r, m => sat2 r (m + (if (1048577 : Int) < s.Long then 1048577 else s.Long))
noncomputable def sumL : List Seg → Int
  | [] => 0
  | s :: r => s.Long + sumL r
theorem sumL_nn : ∀ {l : List Seg}, allS l = true → 0 ≤ sumL l
  | [], _ => by decide
  | s :: r, h => by
    obtain ⟨h1, h2⟩ := Bool.and_eq_true_iff.1 h
    have := of_decide_eq_true h1
    have := sumL_nn h2
    show 0 ≤ s.Long + sumL r
    omega
theorem sat1_le : ∀ {l : List Seg} {m : Int}, allS l = true → 0 ≤ m → (sat1 l m ≤ 1048576 ↔ m + sumL l ≤ 1048576)
  | [], m, _, _ => by show m ≤ _ ↔ m + 0 ≤ _; omega
  | s :: r, m, h, h0 => by
    obtain ⟨h1, h2⟩ := Bool.and_eq_true_iff.1 h
    have h1 := of_decide_eq_true h1
    have hn := sumL_nn h2
    show sat1 r _ ≤ _ ↔ m + (s.Long + sumL r) ≤ _
    split
    · rw [sat1_le h2 (by omega)]; omega
    · rw [sat1_le h2 (by omega)]; omega
theorem sat2_le : ∀ {l : List Seg} {m : Int}, allS l = true → 0 ≤ m → (sat2 l m ≤ 1048576 ↔ m + sumL l ≤ 1048576)
  | [], m, _, _ => by show m ≤ _ ↔ m + 0 ≤ _; omega
  | s :: r, m, h, h0 => by
    obtain ⟨h1, h2⟩ := Bool.and_eq_true_iff.1 h
    have h1 := of_decide_eq_true h1
    have hn := sumL_nn h2
    show sat2 r _ ≤ _ ↔ m + (s.Long + sumL r) ≤ _
    split
    · rw [sat2_le h2 (by omega)]; omega
    · rw [sat2_le h2 (by omega)]; omega
noncomputable def ctW : CTab T := [(64, cWithin)]
theorem ctW_ok : CTabOk Try.prog E ctW := .cons within_ok .nil
@[reducible] def inLg (l : List Seg) : Prop := ∀ s ∈ l, s.Long ≤ 9223372036854775807
theorem allS_cons {s : Seg} {r : List Seg} : allS (s :: r) = (decide (segP s) && allS r) := rfl
theorem allS_no {s : Seg} {r : List Seg} (h : ¬ segP s) : allS (s :: r) = false := by rw [allS_cons, decide_eq_false h]; rfl
theorem allS_yes {s : Seg} {r : List Seg} (h : segP s) : allS (s :: r) = allS r := by rw [allS_cons, decide_eq_true h]; rfl
theorem si_mem {l : List Seg} {i : Int} (h0 : 0 ≤ i) (h : i < l.length) : si l i ∈ l := by
  have : si l i ∈ l.drop i.toNat := by rw [drop_sI h0 h]; exact List.mem_cons_self ..
  exact mem_drop this
theorem si_in {l : List Seg} {i : Int} (hL : inLg l) (h0 : 0 ≤ i) (h : i < l.length) : (si l i).Long ≤ 9223372036854775807 := hL _ (si_mem h0 h)
theorem pT {α : Type} {P : α → Prop} {a b : α} {t : Bool} (h : (Tree.br t (.leaf a) (.leaf b) : Tree α).holds P) : (t = true → P a) ∧ (t = false → P b) := h
theorem i64_over {n : Int} (h1 : 9223372036854775807 < n) (h2 : n < 18446744073709551616) : IntKind.wrap IntKind.i64 n = n - 18446744073709551616 := by
  simp [IntKind.wrap, IntKind.signed, IntKind.bits]
  omega
noncomputable def o20 (m : Int) (l : List Seg) (n : Int) (i : Int) : Tree (Ex × List (V T)) := .req ((0 ≤ i ∧ n = l.length ∧ l.length ≤ 16) ∧ (0 ≤ m ∧ m ≤ 9223372036854775807) ∧ inLg l) (.br (allS (l.drop i.toNat)) (.leaf (.exit 0, [.n (sat1 (l.drop i.toNat) m)])) (.leaf (.ret, [.n 2])))
noncomputable def c20 : LoopC T := ⟨[.n, .l 52, .n, .n], ⟨51, [(3, .one (.i .i64)), (15, .one (.s 52)), (16, .one (.i .i64)), (17, .one (.i .i64))], []⟩, fun e => match e with
    | .ret => ⟨51, [(2, .one (.i .i64))], []⟩
    | _ => ⟨51, [(3, .one (.i .i64))], []⟩, 30, fun d => o20 d.1 d.2.1 d.2.2.1 d.2.2.2.1⟩
theorem b20 (m : Int) (l : List Seg) (n : Int) (i : Int) : bodyD Try.prog E c20 0 (bodyX Try.prog E ctW noLoops 1000 5 L0 (lpOf Try.prog 20 0)) (m, l, n, i, ()) =
  (.br (decide (i < n))
   (.req ((decide ((0 : Int) ≤ i) && decide (i < (↑(List.length l) : Int))) = true)
   (.br (decide (Seg.Long (si l i) < (1 : Int)))
    (.leaf (.inr (.ret, [.n ((2 : Int))])))
    (.br (!within (Seg.Rise (si l i)) (0 : Int) (Seg.Long (si l i)))
     (.leaf (.inr (.ret, [.n ((2 : Int))])))
     (.br (!within (Seg.Area (si l i)) (1 : Int) (5000 : Int))
      (.leaf (.inr (.ret, [.n ((2 : Int))])))
      (.br (!within (Seg.Gap (si l i)) (1 : Int) (200 : Int))
       (.leaf (.inr (.ret, [.n ((2 : Int))])))
       (.br (decide (IntKind.wrap IntKind.i64 (m + Seg.Long (si l i)) ≥ (0 : Int)))
        (.leaf (.inl (IntKind.wrap IntKind.i64 (m + Seg.Long (si l i)), (l, (n, (IntKind.wrap IntKind.i64 (i + (1 : Int)), ()))))))
        (.leaf (.inl ((9223372036854775807 : Int), (l, (n, (IntKind.wrap IntKind.i64 (i + (1 : Int)), ()))))))))))))
   (.leaf (.inr (.exit (0 : Nat), [.n (m)])))) := by kernel_rfl
theorem n20 (m : Int) (l : List Seg) (n : Int) (i : Int) (K : Ex × List (V T) → Prop) (hI : (0 ≤ i ∧ n = l.length ∧ l.length ≤ 16) ∧ (0 ≤ m ∧ m ≤ 9223372036854775807) ∧ inLg l) (hK : (.br (allS (l.drop i.toNat)) (.leaf (.exit 0, [.n (sat1 (l.drop i.toNat) m)])) (.leaf (.ret, [.n 2])) : Tree (Ex × List (V T))).holds K) : (c20.out (m, l, n, i, ())).holds K := ⟨hI, hK⟩
theorem h20' (m : Int) (l : List Seg) (n : Int) (i : Int) (K : Ex × List (V T) → Prop) (hI : (0 ≤ i ∧ n = l.length ∧ l.length ≤ 16) ∧ (0 ≤ m ∧ m ≤ 9223372036854775807) ∧ inLg l) (hK : (.br (allS (l.drop i.toNat)) (.leaf (.exit 0, [.n (sat1 (l.drop i.toNat) m)])) (.leaf (.ret, [.n 2])) : Tree (Ex × List (V T))).holds K) :
    (bodyD Try.prog E c20 0 (bodyX Try.prog E ctW noLoops 1000 5 L0 (lpOf Try.prog 20 0)) (m, l, n, i, ())).holds fun y => match y with
    | .inl d => ((d.2.1.length : Int) - d.2.2.2.1).toNat < ((l.length : Int) - i).toNat ∧ (c20.out d).holds K
    | .inr y => K y := by
  rw [b20]
  obtain ⟨⟨h0, rfl, hl⟩, hm, hL⟩ := hI
  have hK := pT hK
  refine way (fun c => wayC h0 c fun _ _ => ?_) fun c => ?_
  · have e2 : IntKind.wrap IntKind.i64 (i + 1) = i + 1 := i64_in' (by omega) (by omega)
    rw [e2]
    rw [drop_sI h0 c] at hK
    have hs := si_in hL h0 c
    have g1 : (0 : Int) ≤ i + 1 := by omega
    have g2 : ((l.length : Int) - (i + 1)).toNat < ((l.length : Int) - i).toNat := by omega
    generalize si l i = s at *
    have no : ¬ segP s → K (.ret, [.n 2]) := fun h => hK.2 (allS_no h)
    refine way (fun k => no (by unfold segP; omega)) fun k1 => wayB (fun k => no fun h => ?_) fun k2 => wayB (fun k => no fun h => ?_) fun k3 => wayB (fun k => no fun h => ?_) fun k4 => ?_
    · rw [show within s.Rise 0 s.Long = true from decide_eq_true h.2.1] at k; cases k
    · rw [show within s.Area 1 5000 = true from decide_eq_true h.2.2.1] at k; cases k
    · rw [show within s.Gap 1 200 = true from decide_eq_true h.2.2.2] at k; cases k
    have k2 : within s.Rise 0 s.Long = true := by simpa using k2
    have k3 : within s.Area 1 5000 = true := by simpa using k3
    have k4 : within s.Gap 1 200 = true := by simpa using k4
    have hp : segP s := ⟨by omega, of_decide_eq_true k2, of_decide_eq_true k3, of_decide_eq_true k4⟩
    rw [allS_yes hp] at hK
    unfold sat1 at hK
    have next : ∀ m' : Int, 0 ≤ m' → m' ≤ 9223372036854775807 → (if m + s.Long ≤ 9223372036854775807 then m + s.Long else 9223372036854775807) = m' → ((l.length : Int) - (i + 1)).toNat < ((l.length : Int) - i).toNat ∧ (c20.out (m', l, (l.length : Int), i + 1, ())).holds K := fun m' a b e => by
      rw [e] at hK
      exact ⟨g2, ⟨⟨g1, rfl, hl⟩, ⟨a, b⟩, hL⟩, hK⟩
    by_cases q : m + s.Long ≤ 9223372036854775807
    · have e3 : IntKind.wrap IntKind.i64 (m + s.Long) = m + s.Long := i64_in' (by omega) (by omega)
      rw [e3]
      exact way (fun _ => next _ (by omega) (by omega) (if_pos q)) fun k => absurd (by omega) k
    · have e3 : IntKind.wrap IntKind.i64 (m + s.Long) = m + s.Long - 18446744073709551616 := i64_over (by omega) (by omega)
      rw [e3]
      exact way (fun k => absurd k (by omega)) fun k => next _ (by decide) (by decide) (if_neg q)
  · rw [drop_n c] at hK
    exact hK.1 rfl
theorem h20 : LoopH Try.prog E c20 0 (bodyX Try.prog E ctW noLoops 1000 5 L0 (lpOf Try.prog 20 0)) :=
  ⟨fun d => ((d.2.1.length : Int) - d.2.2.2.1).toNat, fun dd K hK => by
    obtain ⟨m, l, n, i, ⟨⟩⟩ := dd
    obtain ⟨hI, hK⟩ := hK
    refine Tree.holds_mono (fun y hy => ?_) (h20' m l n i K hI hK)
    cases y with
    | inl d' => exact hy
    | inr y => exact hy⟩
theorem ll20 : LLOk Try.prog E (llOfN Try.prog E 20 0 [(7, c20)]) := llOfN_ok fun i hi c hc => by
  have hi : i < 1 := hi
  obtain rfl : i = 0 := by omega
  obtain rfl : c20 = c := Option.some.inj hc
  exact LSndN.mk good names mixes ctW_ok (by decide) h20
noncomputable def o21 (m : Int) (i : Int) (l : List Seg) : Tree (Ex × List (V T)) := .req (0 ≤ i ∧ l.length ≤ 16 ∧ 0 ≤ m ∧ m ≤ 1048577 * i) (.br (allS (l.drop i.toNat)) (.leaf (.exit 0, [.n (sat2 (l.drop i.toNat) m)])) (.leaf (.ret, [.n 2])))
noncomputable def c21 : LoopC T := ⟨[.n, .n, .l 52], ⟨68, [(1, .one (.o 0 0)), (3, .one (.i .i64)), (4, .one (.i .i64))], [.c [.s 52]]⟩, fun e => match e with
    | .ret => ⟨68, [(2, .one (.i .i64))], []⟩
    | _ => ⟨68, [(3, .one (.i .i64))], []⟩, 30, fun d => o21 d.1 d.2.1 d.2.2.1⟩
theorem b21 (m : Int) (i : Int) (l : List Seg) : bodyD Try.prog E c21 0 (bodyX Try.prog E ctW noLoops 1000 5 L0 (lpOf Try.prog 21 0)) (m, i, l, ()) =
  (.br (decide (i < (↑(List.length l) : Int)))
   (.req ((decide ((0 : Int) ≤ i) && decide (i < (↑(List.length l) : Int))) = true)
   (.br (decide (Seg.Long (si l i) < (1 : Int)))
    (.leaf (.inr (.ret, [.n ((2 : Int))])))
    (.br (decide (Seg.Rise (si l i) < (0 : Int)))
     (.leaf (.inr (.ret, [.n ((2 : Int))])))
     (.br (decide (Seg.Rise (si l i) > Seg.Long (si l i)))
      (.leaf (.inr (.ret, [.n ((2 : Int))])))
      (.br (decide (Seg.Area (si l i) < (1 : Int)))
       (.leaf (.inr (.ret, [.n ((2 : Int))])))
       (.br (decide (Seg.Area (si l i) > (5000 : Int)))
        (.leaf (.inr (.ret, [.n ((2 : Int))])))
        (.br (decide (Seg.Gap (si l i) < (1 : Int)))
         (.leaf (.inr (.ret, [.n ((2 : Int))])))
         (.br (decide (Seg.Gap (si l i) > (200 : Int)))
          (.leaf (.inr (.ret, [.n ((2 : Int))])))
          (.leaf (.inl (IntKind.wrap IntKind.i64 (m + bif false then if (1048577 : Int) > Seg.Long (si l i) then (1048577 : Int) else Seg.Long (si l i) else if (1048577 : Int) < Seg.Long (si l i) then (1048577 : Int) else Seg.Long (si l i)), (IntKind.wrap IntKind.i64 (i + (1 : Int)), (l, ())))))))))))))
   (.leaf (.inr (.exit (0 : Nat), [.n (m)])))) := by kernel_rfl
theorem n21 (m : Int) (i : Int) (l : List Seg) (K : Ex × List (V T) → Prop) (hI : 0 ≤ i ∧ l.length ≤ 16 ∧ 0 ≤ m ∧ m ≤ 1048577 * i) (hK : (.br (allS (l.drop i.toNat)) (.leaf (.exit 0, [.n (sat2 (l.drop i.toNat) m)])) (.leaf (.ret, [.n 2])) : Tree (Ex × List (V T))).holds K) : (c21.out (m, i, l, ())).holds K := ⟨hI, hK⟩
theorem h21' (m : Int) (i : Int) (l : List Seg) (K : Ex × List (V T) → Prop) (hI : 0 ≤ i ∧ l.length ≤ 16 ∧ 0 ≤ m ∧ m ≤ 1048577 * i) (hK : (.br (allS (l.drop i.toNat)) (.leaf (.exit 0, [.n (sat2 (l.drop i.toNat) m)])) (.leaf (.ret, [.n 2])) : Tree (Ex × List (V T))).holds K) :
    (bodyD Try.prog E c21 0 (bodyX Try.prog E ctW noLoops 1000 5 L0 (lpOf Try.prog 21 0)) (m, i, l, ())).holds fun y => match y with
    | .inl d => ((d.2.2.1.length : Int) - d.2.1).toNat < ((l.length : Int) - i).toNat ∧ (c21.out d).holds K
    | .inr y => K y := by
  rw [b21]
  obtain ⟨h0, hl, hm0, hm1⟩ := hI
  have hK := pT hK
  refine way (fun c => wayC h0 c fun _ _ => ?_) fun c => ?_
  · have e2 : IntKind.wrap IntKind.i64 (i + 1) = i + 1 := i64_in' (by omega) (by omega)
    rw [e2]
    rw [drop_sI h0 c] at hK
    have g1 : (0 : Int) ≤ i + 1 := by omega
    have g2 : ((l.length : Int) - (i + 1)).toNat < ((l.length : Int) - i).toNat := by omega
    generalize si l i = s at *
    have no : ¬ segP s → K (.ret, [.n 2]) := fun h => hK.2 (allS_no h)
    refine way (fun k => no (by unfold segP; omega)) fun k1 => way (fun k => no (by unfold segP; omega)) fun k2 => way (fun k => no (by unfold segP; omega)) fun k3 => way (fun k => no (by unfold segP; omega)) fun k4 => way (fun k => no (by unfold segP; omega)) fun k5 => way (fun k => no (by unfold segP; omega)) fun k6 => way (fun k => no (by unfold segP; omega)) fun k7 => ?_
    have hp : segP s := ⟨by omega, by omega, by omega, by omega⟩
    rw [allS_yes hp] at hK
    unfold sat2 at hK
    show _ ∧ (c21.out (IntKind.wrap IntKind.i64 (m + (if (1048577 : Int) < s.Long then 1048577 else s.Long)), i + 1, l, ())).holds K
    have b : 1 ≤ (if (1048577 : Int) < s.Long then 1048577 else s.Long) ∧ (if (1048577 : Int) < s.Long then 1048577 else s.Long) ≤ 1048577 := by split <;> omega
    generalize (if (1048577 : Int) < s.Long then 1048577 else s.Long) = y at *
    have e3 : IntKind.wrap IntKind.i64 (m + y) = m + y := i64_in' (by omega) (by omega)
    rw [e3]
    exact ⟨g2, ⟨g1, hl, by show 0 ≤ m + y; omega, by show m + y ≤ 1048577 * (i + 1); omega⟩, hK⟩
  · rw [drop_n c] at hK
    exact hK.1 rfl
theorem h21 : LoopH Try.prog E c21 0 (bodyX Try.prog E ctW noLoops 1000 5 L0 (lpOf Try.prog 21 0)) :=
  ⟨fun d => ((d.2.2.1.length : Int) - d.2.1).toNat, fun dd K hK => by
    obtain ⟨m, i, l, ⟨⟩⟩ := dd
    obtain ⟨hI, hK⟩ := hK
    refine Tree.holds_mono (fun y hy => ?_) (h21' m i l K hI hK)
    cases y with
    | inl d' => exact hy
    | inr y => exact hy⟩
theorem ll21 : LLOk Try.prog E (llOfN Try.prog E 21 0 [(7, c21)]) := llOfN_ok fun i hi c hc => by
  have hi : i < 1 := hi
  obtain rfl : i = 0 := by omega
  obtain rfl : c21 = c := Option.some.inj hc
  exact LSndN.mk good names mixes ctW_ok (by decide) h21
theorem tv20 (l : List Seg) : runX ctW (llOfN Try.prog E 20 0 [(7, c20)]) 20 [.agg [.sl 52 l false]] [26] =
  (.br ((↑(List.length l) : Int) == (0 : Int))
   (.leaf (.sym .i64 ((6 : Int))))
   (.br (decide ((↑(List.length l) : Int) > (16 : Int)))
    (.leaf (.sym .i64 ((8 : Int))))
    (.req (((0 : Int) ≤ (0 : Int) ∧ (↑(List.length l) : Int) = (↑(List.length l) : Int) ∧ List.length l ≤ (16 : Nat)) ∧ ((0 : Int) ≤ (0 : Int) ∧ (0 : Int) ≤ (9223372036854775807 : Int)) ∧ inLg l)
    (.br (allS (List.drop (Int.toNat (0 : Int)) l))
     (.br (decide (sat1 (List.drop (Int.toNat (0 : Int)) l) (0 : Int) > (1048576 : Int)))
      (.leaf (.sym .i64 ((5 : Int))))
      (.leaf (.sym .i64 ((0 : Int)))))
     (.leaf (.sym .i64 ((2 : Int)))))))) := by kernel_rfl
theorem tv21 (l : List Seg) : runX ctW (llOfN Try.prog E 21 0 [(7, c21)]) 21 [.agg [.sl 52 l false]] [26] =
  (.br ((↑(List.length l) : Int) == (0 : Int))
   (.leaf (.sym .i64 ((6 : Int))))
   (.br (decide ((↑(List.length l) : Int) > (16 : Int)))
    (.leaf (.sym .i64 ((8 : Int))))
    (.req ((0 : Int) ≤ (0 : Int) ∧ List.length l ≤ (16 : Nat) ∧ (0 : Int) ≤ (0 : Int) ∧ (0 : Int) ≤ (1048577 : Int) * (0 : Int))
    (.br (allS (List.drop (Int.toNat (0 : Int)) l))
     (.br (decide (sat2 (List.drop (Int.toNat (0 : Int)) l) (0 : Int) > (1048576 : Int)))
      (.leaf (.sym .i64 ((5 : Int))))
      (.leaf (.sym .i64 ((0 : Int)))))
     (.leaf (.sym .i64 ((2 : Int)))))))) := by kernel_rfl
noncomputable def hE (l : List Seg) : Int := if (l.length : Int) = 0 then 6 else if (l.length : Int) > 16 then 8 else if allS l = true then (if sumL l > 1048576 then 5 else 0) else 2
theorem dB {a b c d : Bool} (h : (a && (b && (c && d))) = true) : a = true := (Bool.and_eq_true_iff.1 h).1
theorem hE_t (l : List Seg) (s : Int) (hs : allS l = true → (s ≤ 1048576 ↔ sumL l ≤ 1048576)) (P : Prop) (hP : l.length ≤ 16 → P) : (Tree.br ((l.length : Int) == (0 : Int)) (.leaf (i64 6)) (.br (decide ((l.length : Int) > (16 : Int))) (.leaf (i64 8)) (.req P (.br (allS l) (.br (decide (s > (1048576 : Int))) (.leaf (i64 5)) (.leaf (i64 0))) (.leaf (i64 2))))) : Tree (AV T)).holds fun v => v = i64 (hE l) := by
  unfold hE
  refine wayEq (fun c => ?_) fun c => way (fun k => ?_) fun k => ⟨hP (by omega), wayB (fun a => way (fun q => ?_) fun q => ?_) fun a => ?_⟩
  · rw [if_pos c]; rfl
  · rw [if_neg c, if_pos k]; rfl
  · rw [if_neg c, if_neg k, if_pos a, if_pos (by have := hs a; omega)]; rfl
  · rw [if_neg c, if_neg k, if_pos a, if_neg (by have := hs a; omega)]; rfl
  · rw [if_neg c, if_neg k, if_neg (by rw [a]; decide)]; rfl
theorem s20 (l : List Seg) (h : inLg l) : (runX ctW (llOfN Try.prog E 20 0 [(7, c20)]) 20 [.agg [.sl 52 l false]] [26]).holds fun v => v = i64 (hE l) := by
  rw [tv20]
  exact hE_t l _ (fun a => by have := sat1_le (m := 0) a (by decide); rw [Int.zero_add] at this; exact this) _ fun k => ⟨⟨by decide, rfl, k⟩, ⟨by decide, by decide⟩, h⟩
theorem s21 (l : List Seg) : (runX ctW (llOfN Try.prog E 21 0 [(7, c21)]) 21 [.agg [.sl 52 l false]] [26]).holds fun v => v = i64 (hE l) := by
  rw [tv21]
  exact hE_t l _ (fun a => by have := sat2_le (m := 0) a (by decide); rw [Int.zero_add] at this; exact this) _ fun k => ⟨by decide, k, by decide, by decide⟩
@[reducible] def shH : Sh := .agg [.s 52]
noncomputable def cHE : Con T := conP Try.prog [shH] [.l 52] (fun d => inLg d.1) fun d => i64 (hE d.1)
theorem hE_ok : ConOk Try.prog E 20 cHE := conP_ok fun d hd => fact_run ctW_ok ll20 (ts := [26]) rfl (s20 d.1 hd)
theorem hE2_ok : ConOk Try.prog E 21 cHE := conP_ok fun d _ => fact_run ctW_ok ll21 (ts := [26]) rfl (s21 d.1)
noncomputable def ctE : CTab T := (20, cHE) :: (21, cHE) :: ctW
theorem ctE_ok : CTabOk Try.prog E ctE := .cons hE_ok (.cons hE2_ok ctW_ok)
theorem tv66 (l : List Seg) : runX ctE noLoops 66 [.agg [.sl 52 l false]] [4] =
  (.req (inLg l)
  (.leaf (.bool (hE l == (0 : Int))))) := by kernel_rfl
theorem s66 (l : List Seg) (h : inLg l) : (runX ctE noLoops 66 [.agg [.sl 52 l false]] [4]).holds fun v => v = .bool (hE l == 0) := by
  rw [tv66]
  exact ⟨h, rfl⟩
noncomputable def cVH : Con T := conP Try.prog [shH] [.l 52] (fun d => inLg d.1) fun d => .bool (hE d.1 == 0)
theorem vh_ok : ConOk Try.prog E 66 cVH := conP_ok fun d hd => fact_run ctE_ok noLoops_ok (ts := [4]) rfl (s66 d.1 hd)
noncomputable def ctV : CTab T := (66, cVH) :: ctE
theorem ctV_ok : CTabOk Try.prog E ctV := .cons vh_ok ctE_ok
/-! ### the segments, as they are walked -/
theorem hE_0 {l : List Seg} (h : hE l = 0) : (0 < l.length ∧ l.length ≤ 16) ∧ allS l = true ∧ sumL l ≤ 1048576 := by
  unfold hE at h
  split at h
  · omega
  split at h
  · omega
  split at h
  · split at h
    · omega
    · exact ⟨by omega, by assumption, by omega⟩
  · omega
noncomputable def hi (s : Seg) (low : Int) : Int := wr (low + wr (s.Long * s.Area))
noncomputable def vf : List Seg → Int → Int
  | [], low => low
  | s :: r, low => vf r (hi s low)
noncomputable def kl : List Seg → Int → Int → List Knot
  | [], _, _ => []
  | s :: r, low, v => ⟨hi s low, wr (v + s.Rise)⟩ :: kl r (hi s low) (wr (v + s.Rise))
noncomputable def wf (u : Int) : List Seg → Int → Int → Int
  | [], _, _ => -1
  | s :: r, low, i => if u < hi s low then i else wf u r (hi s low) (i + 1)
theorem len_kl : ∀ (l : List Seg) (low v : Int), (kl l low v).length = l.length
  | [], _, _ => rfl
  | s :: r, low, v => congrArg (· + 1) (len_kl r (hi s low) (wr (v + s.Rise)))
noncomputable def lastI (l : List Seg) (q : Int) : Int := if 0 < (l.length : Int) then (l.length : Int) - 1 else q
noncomputable def prevI (w q : Int) : Int := if 0 < w then w - 1 else q
theorem wf_ge (u : Int) : ∀ (l : List Seg) (low i : Int), wf u l low i = -1 ∨ i ≤ wf u l low i
  | [], low, i => .inl rfl
  | s :: r, low, i => by
    unfold wf
    split
    · exact .inr (Int.le_refl _)
    · rcases wf_ge u r (hi s low) (i + 1) with h | h
      · exact .inl h
      · exact .inr (by omega)
noncomputable def o92V (low : Int) (l : List Seg) (n : Int) (i : Int) (q : Int) : Tree (Ex × List (V T)) := .req (0 ≤ i ∧ n = l.length ∧ l.length ≤ 16 ∧ q = low) (.leaf (.exit 0, [.n (vf (l.drop i.toNat) low)]))
noncomputable def c92V : LoopC T := ⟨[.n, .l 52, .n, .n, .n], ⟨32, [(0, .one (.y 0)), (3, .one (.i .i64)), (8, .one (.s 52)), (9, .one (.i .i64)), (10, .one (.i .i64))], [.fx 3 (.lp 15 [(3, .one (.o 1 0))] (rfOf Try.prog 22 0) 0), .fx 1 (.c [.i .i64])]⟩, fun e => match e with
    | .ret => ⟨32, [], []⟩
    | _ => ⟨32, [], [.fx 3 (.lp 15 [(3, .one (.o 1 0))] (rfOf Try.prog 22 0) 0), .fx 1 (.c [.i .i64])]⟩, 30, fun d => o92V d.1 d.2.1 d.2.2.1 d.2.2.2.1 d.2.2.2.2.1⟩
theorem b92V (low : Int) (l : List Seg) (n : Int) (i : Int) (q : Int) : bodyD Try.prog E c92V 4 (bodyX Try.prog E ctV noLoops 1000 5 L0 (lpOf Try.prog 92 0)) (low, l, n, i, q, ()) =
  (.br (decide (i < n))
   (.req ((decide ((0 : Int) ≤ i) && decide (i < (↑(List.length l) : Int))) = true)
   (.req (RecIs (rfOf Try.prog (22 : Nat) (0 : Nat)) (rfOf Try.prog (22 : Nat) (0 : Nat)))
   (.leaf (.inl (IntKind.wrap IntKind.i64 (low + IntKind.wrap IntKind.i64 (Seg.Long (si l i) * Seg.Area (si l i))), (l, (n, (IntKind.wrap IntKind.i64 (i + (1 : Int)), (IntKind.wrap IntKind.i64 (low + IntKind.wrap IntKind.i64 (Seg.Long (si l i) * Seg.Area (si l i))), ())))))))))
   (.req (RecIs (rfOf Try.prog (22 : Nat) (0 : Nat)) (rfOf Try.prog (22 : Nat) (0 : Nat)))
   (.leaf (.inr (.exit (0 : Nat), [.n (q)]))))) := by kernel_rfl
theorem n92V (low : Int) (l : List Seg) (n : Int) (i : Int) (q : Int) (K : Ex × List (V T) → Prop) (hI : 0 ≤ i ∧ n = l.length ∧ l.length ≤ 16 ∧ q = low) (hK : (.leaf (.exit 0, [.n (vf (l.drop i.toNat) low)]) : Tree (Ex × List (V T))).holds K) : (c92V.out (low, l, n, i, q, ())).holds K := ⟨hI, hK⟩
theorem h92V' (low : Int) (l : List Seg) (n : Int) (i : Int) (q : Int) (K : Ex × List (V T) → Prop) (hI : 0 ≤ i ∧ n = l.length ∧ l.length ≤ 16 ∧ q = low) (hK : (.leaf (.exit 0, [.n (vf (l.drop i.toNat) low)]) : Tree (Ex × List (V T))).holds K) :
    (bodyD Try.prog E c92V 4 (bodyX Try.prog E ctV noLoops 1000 5 L0 (lpOf Try.prog 92 0)) (low, l, n, i, q, ())).holds fun y => match y with
    | .inl d => ((d.2.1.length : Int) - d.2.2.2.1).toNat < ((l.length : Int) - i).toNat ∧ (c92V.out d).holds K
    | .inr y => K y := by
  rw [b92V]
  obtain ⟨h0, rfl, hl, rfl⟩ := hI
  refine way (fun c => wayC h0 c fun _ _ => ⟨rfl, ?_⟩) fun c => ⟨rfl, ?_⟩
  · have e2 : IntKind.wrap IntKind.i64 (i + 1) = i + 1 := i64_in' (by omega) (by omega)
    rw [e2]
    rw [drop_sI h0 c] at hK
    have g1 : (0 : Int) ≤ i + 1 := by omega
    have g2 : ((l.length : Int) - (i + 1)).toNat < ((l.length : Int) - i).toNat := by omega
    exact ⟨g2, ⟨g1, rfl, hl, rfl⟩, hK⟩
  · rw [drop_n c] at hK
    exact hK
theorem h92V : LoopH Try.prog E c92V 4 (bodyX Try.prog E ctV noLoops 1000 5 L0 (lpOf Try.prog 92 0)) :=
  ⟨fun d => ((d.2.1.length : Int) - d.2.2.2.1).toNat, fun dd K hK => by
    obtain ⟨low, l, n, i, q, ⟨⟩⟩ := dd
    obtain ⟨hI, hK⟩ := hK
    refine Tree.holds_mono (fun y hy => ?_) (h92V' low l n i q K hI hK)
    cases y with
    | inl d' => exact hy
    | inr y => exact hy⟩
theorem ll92V : LLOk Try.prog E (llOfN Try.prog E 92 4 [(2, c92V)]) := llOfN_ok fun i hi c hc => by
  have hi : i < 1 := hi
  obtain rfl : i = 0 := by omega
  obtain rfl : c92V = c := Option.some.inj hc
  exact LSndN.mk good names mixes ctV_ok (by decide) h92V
noncomputable def o23 (q : Int) (i : Int) (l : List Seg) : Tree (Ex × List (V T)) := .req (0 ≤ i ∧ l.length ≤ 16) (.leaf (.exit 0, [.n (vf (l.drop i.toNat) q)]))
noncomputable def c23 : LoopC T := ⟨[.n, .n, .l 52], ⟨31, [(1, .one (.o 0 0)), (3, .one (.i .i64)), (4, .one (.i .i64))], [.c [.s 52]]⟩, fun _ => ⟨31, [(3, .one (.i .i64))], []⟩, 30, fun d => o23 d.1 d.2.1 d.2.2.1⟩
theorem b23 (q : Int) (i : Int) (l : List Seg) : bodyD Try.prog E c23 0 (bodyX Try.prog E ctV noLoops 1000 5 L0 (lpOf Try.prog 23 0)) (q, i, l, ()) =
  (.br (decide (i < (↑(List.length l) : Int)))
   (.req ((decide ((0 : Int) ≤ i) && decide (i < (↑(List.length l) : Int))) = true)
   (.req ((decide ((0 : Int) ≤ i) && decide (i < (↑(List.length l) : Int))) = true)
   (.leaf (.inl (IntKind.wrap IntKind.i64 (q + IntKind.wrap IntKind.i64 (Seg.Long (si l i) * Seg.Area (si l i))), (IntKind.wrap IntKind.i64 (i + (1 : Int)), (l, ())))))))
   (.leaf (.inr (.exit (0 : Nat), [.n (q)])))) := by kernel_rfl
theorem n23 (q : Int) (i : Int) (l : List Seg) (K : Ex × List (V T) → Prop) (hI : 0 ≤ i ∧ l.length ≤ 16) (hK : (.leaf (.exit 0, [.n (vf (l.drop i.toNat) q)]) : Tree (Ex × List (V T))).holds K) : (c23.out (q, i, l, ())).holds K := ⟨hI, hK⟩
theorem h23' (q : Int) (i : Int) (l : List Seg) (K : Ex × List (V T) → Prop) (hI : 0 ≤ i ∧ l.length ≤ 16) (hK : (.leaf (.exit 0, [.n (vf (l.drop i.toNat) q)]) : Tree (Ex × List (V T))).holds K) :
    (bodyD Try.prog E c23 0 (bodyX Try.prog E ctV noLoops 1000 5 L0 (lpOf Try.prog 23 0)) (q, i, l, ())).holds fun y => match y with
    | .inl d => ((d.2.2.1.length : Int) - d.2.1).toNat < ((l.length : Int) - i).toNat ∧ (c23.out d).holds K
    | .inr y => K y := by
  rw [b23]
  obtain ⟨h0, hl⟩ := hI
  refine way (fun c => wayC h0 c fun _ _ => wayC h0 c fun _ _ => ?_) fun c => ?_
  · have e2 : IntKind.wrap IntKind.i64 (i + 1) = i + 1 := i64_in' (by omega) (by omega)
    rw [e2]
    rw [drop_sI h0 c] at hK
    have g1 : (0 : Int) ≤ i + 1 := by omega
    have g2 : ((l.length : Int) - (i + 1)).toNat < ((l.length : Int) - i).toNat := by omega
    exact ⟨g2, ⟨g1, hl⟩, hK⟩
  · rw [drop_n c] at hK
    exact hK
theorem h23 : LoopH Try.prog E c23 0 (bodyX Try.prog E ctV noLoops 1000 5 L0 (lpOf Try.prog 23 0)) :=
  ⟨fun d => ((d.2.2.1.length : Int) - d.2.1).toNat, fun dd K hK => by
    obtain ⟨q, i, l, ⟨⟩⟩ := dd
    obtain ⟨hI, hK⟩ := hK
    refine Tree.holds_mono (fun y hy => ?_) (h23' q i l K hI hK)
    cases y with
    | inl d' => exact hy
    | inr y => exact hy⟩
theorem ll23 : LLOk Try.prog E (llOfN Try.prog E 23 0 [(5, c23)]) := llOfN_ok fun i hi c hc => by
  have hi : i < 1 := hi
  obtain rfl : i = 0 := by omega
  obtain rfl : c23 = c := Option.some.inj hc
  exact LSndN.mk good names mixes ctV_ok (by decide) h23
noncomputable def o92H (q : List Knot) (low : Int) (l : List Seg) (n : Int) (i : Int) (a : Int) (v : Int) : Tree (Ex × List (V T)) := .req (0 ≤ i ∧ n = l.length ∧ l.length ≤ 16 ∧ q.length ≤ 1 + i) (.leaf (.exit 0, [.l 72 (q ++ kl (l.drop i.toNat) low v)]))
noncomputable def c92H : LoopC T := ⟨[.l 72, .n, .l 52, .n, .n, .n, .n], ⟨32, [(0, .one (.y 0)), (3, .one (.i .i64)), (8, .one (.s 52)), (9, .one (.i .i64)), (10, .one (.i .i64))], [.fx 6 (.lp 35 [(3, .one (.o 1 0)), (4, .one (.o 2 0))] (rfOf Try.prog 25 0) 0), .fx 2 (.c [.i .i64, .i .i64]), .fx 4 (.c [.g 4 72]), .fx 1 (.c [.x]), .l 72]⟩, fun e => match e with
    | .ret => ⟨32, [], []⟩
    | _ => ⟨32, [], [.fx 6 (.lp 35 [(3, .one (.o 1 0)), (4, .one (.o 2 0))] (rfOf Try.prog 25 0) 0), .fx 2 (.c [.x, .x]), .fx 4 (.c [.g 4 72]), .fx 1 (.c [.x]), .l 72]⟩, 30, fun d => o92H d.1 d.2.1 d.2.2.1 d.2.2.2.1 d.2.2.2.2.1 d.2.2.2.2.2.1 d.2.2.2.2.2.2.1⟩
theorem b92H (q : List Knot) (low : Int) (l : List Seg) (n : Int) (i : Int) (a : Int) (v : Int) : bodyD Try.prog E c92H 7 (bodyX Try.prog E ctV noLoops 1000 5 L0 (lpOf Try.prog 92 0)) (q, low, l, n, i, a, v, ()) =
  (.br (decide (i < n))
   (.req ((decide ((0 : Int) ≤ i) && decide (i < (↑(List.length l) : Int))) = true)
   (.req (List.length q = List.length q)
   (.req (List.length q + List.length [Knot.mk (IntKind.wrap IntKind.i64 (low + IntKind.wrap IntKind.i64 (Seg.Long (si l i) * Seg.Area (si l i)))) (IntKind.wrap IntKind.i64 (v + Seg.Rise (si l i)))] ≤ (1073741824 : Nat))
   (.req (RecIs (rfOf Try.prog (25 : Nat) (0 : Nat)) (rfOf Try.prog (25 : Nat) (0 : Nat)))
   (.req (List.length (q ++ [Knot.mk (IntKind.wrap IntKind.i64 (low + IntKind.wrap IntKind.i64 (Seg.Long (si l i) * Seg.Area (si l i)))) (IntKind.wrap IntKind.i64 (v + Seg.Rise (si l i)))]) = List.length (q ++ [Knot.mk (IntKind.wrap IntKind.i64 (low + IntKind.wrap IntKind.i64 (Seg.Long (si l i) * Seg.Area (si l i)))) (IntKind.wrap IntKind.i64 (v + Seg.Rise (si l i)))]))
   (.leaf (.inl (q ++ [Knot.mk (IntKind.wrap IntKind.i64 (low + IntKind.wrap IntKind.i64 (Seg.Long (si l i) * Seg.Area (si l i)))) (IntKind.wrap IntKind.i64 (v + Seg.Rise (si l i)))], (IntKind.wrap IntKind.i64 (low + IntKind.wrap IntKind.i64 (Seg.Long (si l i) * Seg.Area (si l i))), (l, (n, (IntKind.wrap IntKind.i64 (i + (1 : Int)), (IntKind.wrap IntKind.i64 (low + IntKind.wrap IntKind.i64 (Seg.Long (si l i) * Seg.Area (si l i))), (IntKind.wrap IntKind.i64 (v + Seg.Rise (si l i)), ()))))))))))))))
   (.req (RecIs (rfOf Try.prog (25 : Nat) (0 : Nat)) (rfOf Try.prog (25 : Nat) (0 : Nat)))
   (.req (List.length q = List.length q)
   (.leaf (.inr (.exit (0 : Nat), [.l (72 : Nat) (q)])))))) := by kernel_rfl
theorem n92H (q : List Knot) (low : Int) (l : List Seg) (n : Int) (i : Int) (a : Int) (v : Int) (K : Ex × List (V T) → Prop) (hI : 0 ≤ i ∧ n = l.length ∧ l.length ≤ 16 ∧ q.length ≤ 1 + i) (hK : (.leaf (.exit 0, [.l 72 (q ++ kl (l.drop i.toNat) low v)]) : Tree (Ex × List (V T))).holds K) : (c92H.out (q, low, l, n, i, a, v, ())).holds K := ⟨hI, hK⟩
theorem h92H' (q : List Knot) (low : Int) (l : List Seg) (n : Int) (i : Int) (a : Int) (v : Int) (K : Ex × List (V T) → Prop) (hI : 0 ≤ i ∧ n = l.length ∧ l.length ≤ 16 ∧ q.length ≤ 1 + i) (hK : (.leaf (.exit 0, [.l 72 (q ++ kl (l.drop i.toNat) low v)]) : Tree (Ex × List (V T))).holds K) :
    (bodyD Try.prog E c92H 7 (bodyX Try.prog E ctV noLoops 1000 5 L0 (lpOf Try.prog 92 0)) (q, low, l, n, i, a, v, ())).holds fun y => match y with
    | .inl d => ((d.2.2.1.length : Int) - d.2.2.2.2.1).toNat < ((l.length : Int) - i).toNat ∧ (c92H.out d).holds K
    | .inr y => K y := by
  rw [b92H]
  obtain ⟨h0, rfl, hl, hq⟩ := hI
  refine way (fun c => wayC h0 c fun _ _ => ⟨rfl, by simp; omega, rfl, rfl, ?_⟩) fun c => ⟨rfl, rfl, ?_⟩
  · have e2 : IntKind.wrap IntKind.i64 (i + 1) = i + 1 := i64_in' (by omega) (by omega)
    rw [e2]
    rw [drop_sI h0 c] at hK
    unfold kl at hK
    rw [List.append_cons] at hK
    have g1 : (0 : Int) ≤ i + 1 := by omega
    have g2 : ((l.length : Int) - (i + 1)).toNat < ((l.length : Int) - i).toNat := by omega
    exact ⟨g2, ⟨g1, rfl, hl, by simp; omega⟩, hK⟩
  · rw [drop_n c] at hK
    unfold kl at hK
    rw [List.append_nil] at hK
    exact hK
theorem h92H : LoopH Try.prog E c92H 7 (bodyX Try.prog E ctV noLoops 1000 5 L0 (lpOf Try.prog 92 0)) :=
  ⟨fun d => ((d.2.2.1.length : Int) - d.2.2.2.2.1).toNat, fun dd K hK => by
    obtain ⟨q, low, l, n, i, a, v, ⟨⟩⟩ := dd
    obtain ⟨hI, hK⟩ := hK
    refine Tree.holds_mono (fun y hy => ?_) (h92H' q low l n i a v K hI hK)
    cases y with
    | inl d' => exact hy
    | inr y => exact hy⟩
theorem ll92H : LLOk Try.prog E (llOfN Try.prog E 92 7 [(2, c92H)]) := llOfN_ok fun i hi c hc => by
  have hi : i < 1 := hi
  obtain rfl : i = 0 := by omega
  obtain rfl : c92H = c := Option.some.inj hc
  exact LSndN.mk good names mixes ctV_ok (by decide) h92H
noncomputable def o26 (q : List Knot) (i : Int) (l : List Seg) (a : Int) (v : Int) : Tree (Ex × List (V T)) := .req (0 ≤ i ∧ l.length ≤ 16 ∧ q.length ≤ 1 + i) (.leaf (.exit 0, [.l 72 (q ++ kl (l.drop i.toNat) a v)]))
noncomputable def c26 : LoopC T := ⟨[.l 72, .n, .l 52, .n, .n], ⟨54, [(1, .one (.o 0 0)), (2, .one (.o 1 0)), (3, .one (.o 2 0)), (4, .one (.o 3 0)), (5, .one (.i .i64))], [.c [.s 52], .c [.x], .c [.g 4 72], .c [.i .i64, .i .i64], .l 72]⟩, fun _ => ⟨54, [(2, .one (.o 0 0)), (3, .one (.o 1 0))], [.c [.x], .c [.g 2 72], .l 72]⟩, 30, fun d => o26 d.1 d.2.1 d.2.2.1 d.2.2.2.1 d.2.2.2.2.1⟩
theorem b26 (q : List Knot) (i : Int) (l : List Seg) (a : Int) (v : Int) : bodyD Try.prog E c26 0 (bodyX Try.prog E ctV noLoops 1000 5 L0 (lpOf Try.prog 26 0)) (q, i, l, a, v, ()) =
  (.br (decide (i < (↑(List.length l) : Int)))
   (.req ((decide ((0 : Int) ≤ i) && decide (i < (↑(List.length l) : Int))) = true)
   (.req ((decide ((0 : Int) ≤ i) && decide (i < (↑(List.length l) : Int))) = true)
   (.req ((decide ((0 : Int) ≤ i) && decide (i < (↑(List.length l) : Int))) = true)
   (.req (List.length q = List.length q)
   (.req (List.length q + List.length [Knot.mk (IntKind.wrap IntKind.i64 (a + IntKind.wrap IntKind.i64 (Seg.Long (si l i) * Seg.Area (si l i)))) (IntKind.wrap IntKind.i64 (v + Seg.Rise (si l i)))] ≤ (1073741824 : Nat))
   (.req (List.length (q ++ [Knot.mk (IntKind.wrap IntKind.i64 (a + IntKind.wrap IntKind.i64 (Seg.Long (si l i) * Seg.Area (si l i)))) (IntKind.wrap IntKind.i64 (v + Seg.Rise (si l i)))]) = List.length (q ++ [Knot.mk (IntKind.wrap IntKind.i64 (a + IntKind.wrap IntKind.i64 (Seg.Long (si l i) * Seg.Area (si l i)))) (IntKind.wrap IntKind.i64 (v + Seg.Rise (si l i)))]))
   (.leaf (.inl (q ++ [Knot.mk (IntKind.wrap IntKind.i64 (a + IntKind.wrap IntKind.i64 (Seg.Long (si l i) * Seg.Area (si l i)))) (IntKind.wrap IntKind.i64 (v + Seg.Rise (si l i)))], (IntKind.wrap IntKind.i64 (i + (1 : Int)), (l, (IntKind.wrap IntKind.i64 (a + IntKind.wrap IntKind.i64 (Seg.Long (si l i) * Seg.Area (si l i))), (IntKind.wrap IntKind.i64 (v + Seg.Rise (si l i)), ())))))))))))))
   (.req (List.length q = List.length q)
   (.leaf (.inr (.exit (0 : Nat), [.l (72 : Nat) (q)]))))) := by kernel_rfl
theorem n26 (q : List Knot) (i : Int) (l : List Seg) (a : Int) (v : Int) (K : Ex × List (V T) → Prop) (hI : 0 ≤ i ∧ l.length ≤ 16 ∧ q.length ≤ 1 + i) (hK : (.leaf (.exit 0, [.l 72 (q ++ kl (l.drop i.toNat) a v)]) : Tree (Ex × List (V T))).holds K) : (c26.out (q, i, l, a, v, ())).holds K := ⟨hI, hK⟩
theorem h26' (q : List Knot) (i : Int) (l : List Seg) (a : Int) (v : Int) (K : Ex × List (V T) → Prop) (hI : 0 ≤ i ∧ l.length ≤ 16 ∧ q.length ≤ 1 + i) (hK : (.leaf (.exit 0, [.l 72 (q ++ kl (l.drop i.toNat) a v)]) : Tree (Ex × List (V T))).holds K) :
    (bodyD Try.prog E c26 0 (bodyX Try.prog E ctV noLoops 1000 5 L0 (lpOf Try.prog 26 0)) (q, i, l, a, v, ())).holds fun y => match y with
    | .inl d => ((d.2.2.1.length : Int) - d.2.1).toNat < ((l.length : Int) - i).toNat ∧ (c26.out d).holds K
    | .inr y => K y := by
  rw [b26]
  obtain ⟨h0, hl, hq⟩ := hI
  refine way (fun c => wayC h0 c fun _ _ => wayC h0 c fun _ _ => wayC h0 c fun _ _ => ⟨rfl, by simp; omega, rfl, ?_⟩) fun c => ⟨rfl, ?_⟩
  · have e2 : IntKind.wrap IntKind.i64 (i + 1) = i + 1 := i64_in' (by omega) (by omega)
    rw [e2]
    rw [drop_sI h0 c] at hK
    unfold kl at hK
    rw [List.append_cons] at hK
    have g1 : (0 : Int) ≤ i + 1 := by omega
    have g2 : ((l.length : Int) - (i + 1)).toNat < ((l.length : Int) - i).toNat := by omega
    exact ⟨g2, ⟨g1, hl, by simp; omega⟩, hK⟩
  · rw [drop_n c] at hK
    unfold kl at hK
    rw [List.append_nil] at hK
    exact hK
theorem h26 : LoopH Try.prog E c26 0 (bodyX Try.prog E ctV noLoops 1000 5 L0 (lpOf Try.prog 26 0)) :=
  ⟨fun d => ((d.2.2.1.length : Int) - d.2.1).toNat, fun dd K hK => by
    obtain ⟨q, i, l, a, v, ⟨⟩⟩ := dd
    obtain ⟨hI, hK⟩ := hK
    refine Tree.holds_mono (fun y hy => ?_) (h26' q i l a v K hI hK)
    cases y with
    | inl d' => exact hy
    | inr y => exact hy⟩
theorem ll26 : LLOk Try.prog E (llOfN Try.prog E 26 0 [(6, c26)]) := llOfN_ok fun i hi c hc => by
  have hi : i < 1 := hi
  obtain rfl : i = 0 := by omega
  obtain rfl : c26 = c := Option.some.inj hc
  exact LSndN.mk good names mixes ctV_ok (by decide) h26
noncomputable def o92W (low : Int) (l : List Seg) (n : Int) (i : Int) (u : Int) (p : Int) (q : Int) : Tree (Ex × List (V T)) := .req (0 ≤ i ∧ n = l.length ∧ l.length ≤ 16 ∧ i ≤ l.length ∧ (i = 0 ∨ q = i - 1)) (.br (decide (0 ≤ wf u (l.drop i.toNat) low i)) (.leaf (.ret, [.n u, .n (wf u (l.drop i.toNat) low i), .n (prevI (wf u (l.drop i.toNat) low i) q)])) (.leaf (.exit 0, [.n u, .n p, .n (lastI l q)])))
noncomputable def c92W : LoopC T := ⟨[.n, .l 52, .n, .n, .n, .n, .n], ⟨32, [(0, .one (.y 0)), (3, .one (.i .i64)), (8, .one (.s 52)), (9, .one (.i .i64)), (10, .one (.i .i64))], [.fx 5 (.lp 28 [(3, .one (.o 1 0)), (4, .one (.o 2 0)), (5, .one (.o 3 0))] (rfOf Try.prog 27 0) 0), .fx 1 (.c [.i .i64]), .fx 2 (.c [.i .i64]), .fx 3 (.c [.i .i64])]⟩, fun e => match e with
    | .ret => ⟨32, [], [.fx 5 (.lp 28 [(3, .one (.o 1 0)), (4, .one (.o 2 0)), (5, .one (.o 3 0))] (rfOf Try.prog 27 0) 1), .fx 1 (.c [.i .i64]), .fx 2 (.c [.i .i64]), .fx 3 (.c [.i .i64])]⟩
    | _ => ⟨32, [], [.fx 5 (.lp 28 [(3, .one (.o 1 0)), (4, .one (.o 2 0)), (5, .one (.o 3 0))] (rfOf Try.prog 27 0) 0), .fx 1 (.c [.i .i64]), .fx 2 (.c [.i .i64]), .fx 3 (.c [.i .i64])]⟩, 30, fun d => o92W d.1 d.2.1 d.2.2.1 d.2.2.2.1 d.2.2.2.2.1 d.2.2.2.2.2.1 d.2.2.2.2.2.2.1⟩
theorem b92W (low : Int) (l : List Seg) (n : Int) (i : Int) (u : Int) (p : Int) (q : Int) : bodyD Try.prog E c92W 6 (bodyX Try.prog E ctV noLoops 1000 5 L0 (lpOf Try.prog 92 0)) (low, l, n, i, u, p, q, ()) =
  (.br (decide (i < n))
   (.req ((decide ((0 : Int) ≤ i) && decide (i < (↑(List.length l) : Int))) = true)
   (.br (decide (u < IntKind.wrap IntKind.i64 (low + IntKind.wrap IntKind.i64 (Seg.Long (si l i) * Seg.Area (si l i)))))
    (.req (RecIs (rfOf Try.prog (27 : Nat) (0 : Nat)) (rfOf Try.prog (27 : Nat) (0 : Nat)))
    (.leaf (.inr (.ret, [.n (u), .n (i), .n (q)]))))
    (.req (RecIs (rfOf Try.prog (27 : Nat) (0 : Nat)) (rfOf Try.prog (27 : Nat) (0 : Nat)))
    (.leaf (.inl (IntKind.wrap IntKind.i64 (low + IntKind.wrap IntKind.i64 (Seg.Long (si l i) * Seg.Area (si l i))), (l, (n, (IntKind.wrap IntKind.i64 (i + (1 : Int)), (u, (p, (i, ()))))))))))))
   (.req (RecIs (rfOf Try.prog (27 : Nat) (0 : Nat)) (rfOf Try.prog (27 : Nat) (0 : Nat)))
   (.leaf (.inr (.exit (0 : Nat), [.n (u), .n (p), .n (q)]))))) := by kernel_rfl
theorem n92W (low : Int) (l : List Seg) (n : Int) (i : Int) (u : Int) (p : Int) (q : Int) (K : Ex × List (V T) → Prop) (hI : 0 ≤ i ∧ n = l.length ∧ l.length ≤ 16 ∧ i ≤ l.length ∧ (i = 0 ∨ q = i - 1)) (hK : (.br (decide (0 ≤ wf u (l.drop i.toNat) low i)) (.leaf (.ret, [.n u, .n (wf u (l.drop i.toNat) low i), .n (prevI (wf u (l.drop i.toNat) low i) q)])) (.leaf (.exit 0, [.n u, .n p, .n (lastI l q)])) : Tree (Ex × List (V T))).holds K) : (c92W.out (low, l, n, i, u, p, q, ())).holds K := ⟨hI, hK⟩
theorem h92W' (low : Int) (l : List Seg) (n : Int) (i : Int) (u : Int) (p : Int) (q : Int) (K : Ex × List (V T) → Prop) (hI : 0 ≤ i ∧ n = l.length ∧ l.length ≤ 16 ∧ i ≤ l.length ∧ (i = 0 ∨ q = i - 1)) (hK : (.br (decide (0 ≤ wf u (l.drop i.toNat) low i)) (.leaf (.ret, [.n u, .n (wf u (l.drop i.toNat) low i), .n (prevI (wf u (l.drop i.toNat) low i) q)])) (.leaf (.exit 0, [.n u, .n p, .n (lastI l q)])) : Tree (Ex × List (V T))).holds K) :
    (bodyD Try.prog E c92W 6 (bodyX Try.prog E ctV noLoops 1000 5 L0 (lpOf Try.prog 92 0)) (low, l, n, i, u, p, q, ())).holds fun y => match y with
    | .inl d => ((d.2.1.length : Int) - d.2.2.2.1).toNat < ((l.length : Int) - i).toNat ∧ (c92W.out d).holds K
    | .inr y => K y := by
  rw [b92W]
  obtain ⟨h0, rfl, hl, hil, hq⟩ := hI
  have hK := pT hK
  refine way (fun c => wayC h0 c fun _ _ => way (fun k => ?_) fun k => ?_) fun c => ?_
  · rw [drop_sI h0 c] at hK
    unfold wf at hK
    have k' : u < hi (si l i) low := k
    rw [if_pos k'] at hK
    have := hK.1 (decide_eq_true h0)
    have e : prevI i q = q := by unfold prevI; split <;> omega
    rw [e] at this
    exact ⟨rfl, this⟩
  · have e2 : IntKind.wrap IntKind.i64 (i + 1) = i + 1 := i64_in' (by omega) (by omega)
    rw [e2]
    rw [drop_sI h0 c] at hK
    unfold wf at hK
    have k' : ¬ u < hi (si l i) low := k
    rw [if_neg k'] at hK
    have g1 : (0 : Int) ≤ i + 1 := by omega
    have g2 : ((l.length : Int) - (i + 1)).toNat < ((l.length : Int) - i).toNat := by omega
    have w := wf_ge u (l.drop (i + 1).toNat) (hi (si l i) low) (i + 1)
    refine ⟨rfl, g2, n92W _ _ _ _ _ _ _ K ⟨g1, rfl, hl, by omega, by omega⟩ ⟨fun t => ?_, fun t => ?_⟩⟩
    · have t' : 0 ≤ wf u (l.drop (i + 1).toNat) (hi (si l i) low) (i + 1) := of_decide_eq_true t
      have := hK.1 (decide_eq_true t')
      have e : prevI (wf u (l.drop (i + 1).toNat) (hi (si l i) low) (i + 1)) q = prevI (wf u (l.drop (i + 1).toNat) (hi (si l i) low) (i + 1)) i := by
        unfold prevI; rw [if_pos (by omega), if_pos (by omega)]
      rw [e] at this
      exact this
    · have t' := of_decide_eq_false t
      have := hK.2 (decide_eq_false t')
      have e : lastI l q = lastI l i := by unfold lastI; rw [if_pos (by omega), if_pos (by omega)]
      rw [e] at this
      exact this
  · rw [drop_n c] at hK
    have := hK.2 (decide_eq_false (by unfold wf; decide))
    have e : lastI l q = q := by unfold lastI; split <;> omega
    rw [e] at this
    exact ⟨rfl, this⟩
theorem h92W : LoopH Try.prog E c92W 6 (bodyX Try.prog E ctV noLoops 1000 5 L0 (lpOf Try.prog 92 0)) :=
  ⟨fun d => ((d.2.1.length : Int) - d.2.2.2.1).toNat, fun dd K hK => by
    obtain ⟨low, l, n, i, u, p, q, ⟨⟩⟩ := dd
    obtain ⟨hI, hK⟩ := hK
    refine Tree.holds_mono (fun y hy => ?_) (h92W' low l n i u p q K hI hK)
    cases y with
    | inl d' => exact hy
    | inr y => exact hy⟩
theorem ll92W : LLOk Try.prog E (llOfN Try.prog E 92 6 [(2, c92W)]) := llOfN_ok fun i hi c hc => by
  have hi : i < 1 := hi
  obtain rfl : i = 0 := by omega
  obtain rfl : c92W = c := Option.some.inj hc
  exact LSndN.mk good names mixes ctV_ok (by decide) h92W
noncomputable def o28 (u : Int) (low : Int) (i : Int) (l : List Seg) : Tree (Ex × List (V T)) := .req (0 ≤ i ∧ l.length ≤ 16) (.br (decide (0 ≤ wf u (l.drop i.toNat) low i)) (.leaf (.ret, [.n (wf u (l.drop i.toNat) low i)])) (.leaf (.exit 0, [.l 52 l])))
noncomputable def c28 : LoopC T := ⟨[.n, .n, .n, .l 52], ⟨50, [(1, .one (.i .i64)), (2, .one (.o 0 0)), (5, .one (.i .i64)), (6, .one (.i .i64))], [.c [.s 52]]⟩, fun e => match e with
    | .ret => ⟨50, [(4, .one (.i .i64))], []⟩
    | _ => ⟨50, [(2, .one (.o 0 0))], [.c [.s 52]]⟩, 30, fun d => o28 d.1 d.2.1 d.2.2.1 d.2.2.2.1⟩
theorem b28 (u : Int) (low : Int) (i : Int) (l : List Seg) : bodyD Try.prog E c28 0 (bodyX Try.prog E ctV noLoops 1000 5 L0 (lpOf Try.prog 28 0)) (u, low, i, l, ()) =
  (.br (decide (i < (↑(List.length l) : Int)))
   (.req ((decide ((0 : Int) ≤ i) && decide (i < (↑(List.length l) : Int))) = true)
   (.req ((decide ((0 : Int) ≤ i) && decide (i < (↑(List.length l) : Int))) = true)
   (.br (decide (u < IntKind.wrap IntKind.i64 (low + IntKind.wrap IntKind.i64 (Seg.Long (si l i) * Seg.Area (si l i)))))
    (.leaf (.inr (.ret, [.n (i)])))
    (.leaf (.inl (u, (IntKind.wrap IntKind.i64 (low + IntKind.wrap IntKind.i64 (Seg.Long (si l i) * Seg.Area (si l i))), (IntKind.wrap IntKind.i64 (i + (1 : Int)), (l, ())))))))))
   (.leaf (.inr (.exit (0 : Nat), [.l (52 : Nat) (l)])))) := by kernel_rfl
theorem n28 (u : Int) (low : Int) (i : Int) (l : List Seg) (K : Ex × List (V T) → Prop) (hI : 0 ≤ i ∧ l.length ≤ 16) (hK : (.br (decide (0 ≤ wf u (l.drop i.toNat) low i)) (.leaf (.ret, [.n (wf u (l.drop i.toNat) low i)])) (.leaf (.exit 0, [.l 52 l])) : Tree (Ex × List (V T))).holds K) : (c28.out (u, low, i, l, ())).holds K := ⟨hI, hK⟩
theorem h28' (u : Int) (low : Int) (i : Int) (l : List Seg) (K : Ex × List (V T) → Prop) (hI : 0 ≤ i ∧ l.length ≤ 16) (hK : (.br (decide (0 ≤ wf u (l.drop i.toNat) low i)) (.leaf (.ret, [.n (wf u (l.drop i.toNat) low i)])) (.leaf (.exit 0, [.l 52 l])) : Tree (Ex × List (V T))).holds K) :
    (bodyD Try.prog E c28 0 (bodyX Try.prog E ctV noLoops 1000 5 L0 (lpOf Try.prog 28 0)) (u, low, i, l, ())).holds fun y => match y with
    | .inl d => ((d.2.2.2.1.length : Int) - d.2.2.1).toNat < ((l.length : Int) - i).toNat ∧ (c28.out d).holds K
    | .inr y => K y := by
  rw [b28]
  obtain ⟨h0, hl⟩ := hI
  have hK := pT hK
  refine way (fun c => wayC h0 c fun _ _ => wayC h0 c fun _ _ => way (fun k => ?_) fun k => ?_) fun c => ?_
  · rw [drop_sI h0 c] at hK
    unfold wf at hK
    have k' : u < hi (si l i) low := k
    rw [if_pos k'] at hK
    exact hK.1 (decide_eq_true h0)
  · have e2 : IntKind.wrap IntKind.i64 (i + 1) = i + 1 := i64_in' (by omega) (by omega)
    rw [e2]
    rw [drop_sI h0 c] at hK
    unfold wf at hK
    have k' : ¬ u < hi (si l i) low := k
    rw [if_neg k'] at hK
    have g1 : (0 : Int) ≤ i + 1 := by omega
    have g2 : ((l.length : Int) - (i + 1)).toNat < ((l.length : Int) - i).toNat := by omega
    exact ⟨g2, ⟨g1, hl⟩, hK⟩
  · rw [drop_n c] at hK
    exact hK.2 (decide_eq_false (by unfold wf; decide))
theorem h28 : LoopH Try.prog E c28 0 (bodyX Try.prog E ctV noLoops 1000 5 L0 (lpOf Try.prog 28 0)) :=
  ⟨fun d => ((d.2.2.2.1.length : Int) - d.2.2.1).toNat, fun dd K hK => by
    obtain ⟨u, low, i, l, ⟨⟩⟩ := dd
    obtain ⟨hI, hK⟩ := hK
    refine Tree.holds_mono (fun y hy => ?_) (h28' u low i l K hI hK)
    cases y with
    | inl d' => exact hy
    | inr y => exact hy⟩
theorem ll28 : LLOk Try.prog E (llOfN Try.prog E 28 0 [(5, c28)]) := llOfN_ok fun i hi c hc => by
  have hi : i < 1 := hi
  obtain rfl : i = 0 := by omega
  obtain rfl : c28 = c := Option.some.inj hc
  exact LSndN.mk good names mixes ctV_ok (by decide) h28
theorem tv22 (l : List Seg) : runX ctV (llOfN Try.prog E 92 4 [(2, c92V)]) 22 [.agg [.sl 52 l false]] [2] =
  (.req (inLg l)
  (.br (hE l == (0 : Int))
   (.req (RecIs (rfOf Try.prog (22 : Nat) (0 : Nat)) (rfOf Try.prog (22 : Nat) (0 : Nat)))
   (.req ((0 : Int) ≤ (0 : Int) ∧ (↑(List.length l) : Int) = (↑(List.length l) : Int) ∧ List.length l ≤ (16 : Nat) ∧ (0 : Int) = (0 : Int))
   (.leaf (.sym .i64 (vf (List.drop (Int.toNat (0 : Int)) l) (0 : Int))))))
   (.leaf (.sym .i64 ((0 : Int)))))) := by kernel_rfl
theorem tv23 (l : List Seg) : runX ctV (llOfN Try.prog E 23 0 [(5, c23)]) 23 [.agg [.sl 52 l false]] [2] =
  (.req (inLg l)
  (.br (hE l != (0 : Int))
   (.leaf (.sym .i64 ((0 : Int))))
   (.req ((0 : Int) ≤ (0 : Int) ∧ List.length l ≤ (16 : Nat))
   (.leaf (.sym .i64 (vf (List.drop (Int.toNat (0 : Int)) l) (0 : Int))))))) := by kernel_rfl
theorem tv25 (l : List Seg) : runX ctV (llOfN Try.prog E 92 7 [(2, c92H)]) 25 [.agg [.sl 52 l false]] [32] =
  (.req (inLg l)
  (.br (!hE l == (0 : Int))
   (.leaf (.agg [.sl (72 : Nat) ([]) false]))
   (.req (RecIs (rfOf Try.prog (25 : Nat) (0 : Nat)) (rfOf Try.prog (25 : Nat) (0 : Nat)))
   (.req ((0 : Int) ≤ (0 : Int) ∧ (↑(List.length l) : Int) = (↑(List.length l) : Int) ∧ List.length l ≤ (16 : Nat) ∧ (↑(List.length [Knot.mk (0 : Int) (0 : Int)]) : Int) ≤ (1 : Int) + (0 : Int))
   (.req (List.length ([Knot.mk (0 : Int) (0 : Int)] ++ kl (List.drop (Int.toNat (0 : Int)) l) (0 : Int) (0 : Int)) = List.length ([Knot.mk (0 : Int) (0 : Int)] ++ kl (List.drop (Int.toNat (0 : Int)) l) (0 : Int) (0 : Int)))
   (.leaf (.agg [.sl (72 : Nat) ([Knot.mk (0 : Int) (0 : Int)] ++ kl (List.drop (Int.toNat (0 : Int)) l) (0 : Int) (0 : Int)) false]))))))) := by kernel_rfl
theorem tv26 (l : List Seg) : runX ctV (llOfN Try.prog E 26 0 [(6, c26)]) 26 [.agg [.sl 52 l false]] [32] =
  (.req (inLg l)
  (.br (hE l != (0 : Int))
   (.leaf (.agg [.sl (72 : Nat) ([]) false]))
   (.req ((0 : Int) ≤ (0 : Int) ∧ List.length l ≤ (16 : Nat) ∧ (↑(List.length [Knot.mk (0 : Int) (0 : Int)]) : Int) ≤ (1 : Int) + (0 : Int))
   (.req (List.length ([Knot.mk (0 : Int) (0 : Int)] ++ kl (List.drop (Int.toNat (0 : Int)) l) (0 : Int) (0 : Int)) = List.length ([Knot.mk (0 : Int) (0 : Int)] ++ kl (List.drop (Int.toNat (0 : Int)) l) (0 : Int) (0 : Int)))
   (.leaf (.agg [.sl (72 : Nat) ([Knot.mk (0 : Int) (0 : Int)] ++ kl (List.drop (Int.toNat (0 : Int)) l) (0 : Int) (0 : Int)) false])))))) := by kernel_rfl
noncomputable def vol (l : List Seg) : Int := if hE l = 0 then vf l 0 else 0
noncomputable def hl (l : List Seg) : List Knot := if hE l = 0 then ⟨0, 0⟩ :: kl l 0 0 else []
theorem s22 (l : List Seg) (h : inLg l) : (runX ctV (llOfN Try.prog E 92 4 [(2, c92V)]) 22 [.agg [.sl 52 l false]] [2]).holds fun v => v = i64 (vol l) := by
  rw [tv22]
  unfold vol
  refine ⟨h, wayEq (fun c => ⟨rfl, ⟨by decide, rfl, (hE_0 c).1.2, rfl⟩, ?_⟩) fun c => ?_⟩
  · rw [if_pos c]; rfl
  · rw [if_neg c]; rfl
theorem s23 (l : List Seg) (h : inLg l) : (runX ctV (llOfN Try.prog E 23 0 [(5, c23)]) 23 [.agg [.sl 52 l false]] [2]).holds fun v => v = i64 (vol l) := by
  rw [tv23]
  unfold vol
  refine ⟨h, wayNe (fun c => ?_) fun c => ⟨⟨by decide, (hE_0 c).1.2⟩, ?_⟩⟩
  · rw [if_neg c]; rfl
  · rw [if_pos c]; rfl
theorem s25 (l : List Seg) (h : inLg l) : (runX ctV (llOfN Try.prog E 92 7 [(2, c92H)]) 25 [.agg [.sl 52 l false]] [32]).holds fun v => v = .agg [.sl 72 (hl l) false] := by
  rw [tv25]
  unfold hl
  refine ⟨h, wayNEq (fun c => ?_) fun c => ⟨rfl, ⟨by decide, rfl, (hE_0 c).1.2, by decide⟩, rfl, ?_⟩⟩
  · rw [if_neg c]; rfl
  · rw [if_pos c]; rfl
theorem s26 (l : List Seg) (h : inLg l) : (runX ctV (llOfN Try.prog E 26 0 [(6, c26)]) 26 [.agg [.sl 52 l false]] [32]).holds fun v => v = .agg [.sl 72 (hl l) false] := by
  rw [tv26]
  unfold hl
  refine ⟨h, wayNe (fun c => ?_) fun c => ⟨⟨by decide, (hE_0 c).1.2, by decide⟩, rfl, ?_⟩⟩
  · rw [if_neg c]; rfl
  · rw [if_pos c]; rfl
noncomputable def cVol : Con T := conP Try.prog [shH] [.l 52] (fun d => inLg d.1) fun d => i64 (vol d.1)
noncomputable def cHl : Con T := conP Try.prog [shH] [.l 52] (fun d => inLg d.1) fun d => .agg [.sl 72 (hl d.1) false]
theorem vol_ok : ConOk Try.prog E 22 cVol := conP_ok fun d hd => fact_run ctV_ok ll92V (ts := [2]) rfl (s22 d.1 hd)
theorem vol2_ok : ConOk Try.prog E 23 cVol := conP_ok fun d hd => fact_run ctV_ok ll23 (ts := [2]) rfl (s23 d.1 hd)
theorem hl_ok : ConOk Try.prog E 25 cHl := conP_ok fun d hd => fact_run ctV_ok ll92H (ts := [32]) rfl (s25 d.1 hd)
theorem hl2_ok : ConOk Try.prog E 26 cHl := conP_ok fun d hd => fact_run ctV_ok ll26 (ts := [32]) rfl (s26 d.1 hd)
noncomputable def ctO : CTab T := (22, cVol) :: (23, cVol) :: (25, cHl) :: (26, cHl) :: ctV
theorem ctO_ok : CTabOk Try.prog E ctO := .cons vol_ok (.cons vol2_ok (.cons hl_ok (.cons hl2_ok ctV_ok)))
theorem tv68 (l : List Seg) (u : Int) : runX ctO noLoops 68 [.agg [.sl 52 l false], i64 u] [4] =
  (.req (inLg l)
  (.leaf (.bool (within u (0 : Int) (vol l))))) := by kernel_rfl
theorem s68 (l : List Seg) (u : Int) (h : inLg l) : (runX ctO noLoops 68 [.agg [.sl 52 l false], i64 u] [4]).holds fun v => v = .bool (within u 0 (vol l)) := by
  rw [tv68]
  exact ⟨h, rfl⟩
noncomputable def cPl : Con T := conP Try.prog [shH, .one (.i .i64)] [.l 52, .n] (fun d => inLg d.1) fun d => .bool (within d.2.1 0 (vol d.1))
theorem pl_ok : ConOk Try.prog E 68 cPl := conP_ok fun d hd => fact_run ctO_ok noLoops_ok (ts := [4]) rfl (s68 d.1 d.2.1 hd)
noncomputable def ctQ : CTab T := (68, cPl) :: ctO
theorem ctQ_ok : CTabOk Try.prog E ctQ := .cons pl_ok ctO_ok
theorem tv27 (l : List Seg) (u : Int) : runX ctQ (llOfN Try.prog E 92 6 [(2, c92W)]) 27 [.agg [.sl 52 l false], i64 u] [3] =
  (.req (inLg l)
  (.br (!hE l == (0 : Int))
   (.leaf (.sym .i64 ((-1 : Int))))
   (.req (inLg l)
   (.br (!within u (0 : Int) (vol l))
    (.leaf (.sym .i64 ((-1 : Int))))
    (.req (RecIs (rfOf Try.prog (27 : Nat) (0 : Nat)) (rfOf Try.prog (27 : Nat) (0 : Nat)))
    (.req ((0 : Int) ≤ (0 : Int) ∧ (↑(List.length l) : Int) = (↑(List.length l) : Int) ∧ List.length l ≤ (16 : Nat) ∧ (0 : Int) ≤ (↑(List.length l) : Int) ∧ ((0 : Int) = (0 : Int) ∨ (0 : Int) = (0 : Int) - (1 : Int)))
    (.br (decide ((0 : Int) ≤ wf u (List.drop (Int.toNat (0 : Int)) l) (0 : Int) (0 : Int)))
     (.leaf (.sym .i64 (wf u (List.drop (Int.toNat (0 : Int)) l) (0 : Int) (0 : Int))))
     (.leaf (.sym .i64 (lastI l (0 : Int))))))))))) := by kernel_rfl
theorem tv28 (l : List Seg) (u : Int) : runX ctQ (llOfN Try.prog E 28 0 [(5, c28)]) 28 [.agg [.sl 52 l false], i64 u] [3] =
  (.req (inLg l)
  (.br (hE l != (0 : Int))
   (.leaf (.sym .i64 ((-1 : Int))))
   (.br (decide (u < (0 : Int)))
    (.leaf (.sym .i64 ((-1 : Int))))
    (.req (inLg l)
    (.br (decide (u > vol l))
     (.leaf (.sym .i64 ((-1 : Int))))
     (.req ((0 : Int) ≤ (0 : Int) ∧ List.length l ≤ (16 : Nat))
     (.br (decide ((0 : Int) ≤ wf u (List.drop (Int.toNat (0 : Int)) l) (0 : Int) (0 : Int)))
      (.leaf (.sym .i64 (wf u (List.drop (Int.toNat (0 : Int)) l) (0 : Int) (0 : Int))))
      (.leaf (.sym .i64 (IntKind.wrap IntKind.i64 ((↑(List.length l) : Int) - (1 : Int)))))))))))) := by kernel_rfl
noncomputable def whr (l : List Seg) (u : Int) : Int := if hE l = 0 ∧ within u 0 (vol l) = true then (if 0 ≤ wf u l 0 0 then wf u l 0 0 else (l.length : Int) - 1) else -1
theorem s27 (l : List Seg) (u : Int) (h : inLg l) : (runX ctQ (llOfN Try.prog E 92 6 [(2, c92W)]) 27 [.agg [.sl 52 l false], i64 u] [3]).holds fun v => v = i64 (whr l u) := by
  rw [tv27]
  unfold whr
  refine ⟨h, wayNEq (fun c => ?_) fun c => ⟨h, wayB (fun k => ?_) fun k => ⟨rfl, ⟨by decide, rfl, (hE_0 c).1.2, by omega, .inl rfl⟩, way (fun (w : 0 ≤ wf u l 0 0) => ?_) fun (w : ¬ 0 ≤ wf u l 0 0) => ?_⟩⟩⟩
  · rw [if_neg (fun q => c q.1)]; rfl
  · rw [if_neg (fun q => by rw [q.2] at k; cases k)]; rfl
  · rw [if_pos ⟨c, by simpa using k⟩, if_pos w]; rfl
  · rw [if_pos ⟨c, by simpa using k⟩, if_neg w]
    show i64 (lastI l 0) = _
    unfold lastI
    rw [if_pos (by have := (hE_0 c).1.1; omega)]
theorem s28 (l : List Seg) (u : Int) (h : inLg l) : (runX ctQ (llOfN Try.prog E 28 0 [(5, c28)]) 28 [.agg [.sl 52 l false], i64 u] [3]).holds fun v => v = i64 (whr l u) := by
  rw [tv28]
  unfold whr
  refine ⟨h, wayNe (fun c => ?_) fun c => way (fun k => ?_) fun k => ⟨h, way (fun k2 => ?_) fun k2 => ⟨⟨by decide, (hE_0 c).1.2⟩, way (fun (w : 0 ≤ wf u l 0 0) => ?_) fun (w : ¬ 0 ≤ wf u l 0 0) => ?_⟩⟩⟩
  · rw [if_neg (fun q => c q.1)]; rfl
  · rw [if_neg (fun q => by have := of_decide_eq_true q.2; omega)]; rfl
  · rw [if_neg (fun q => by have := of_decide_eq_true q.2; omega)]; rfl
  · rw [if_pos ⟨c, decide_eq_true ⟨by omega, by omega⟩⟩, if_pos w]; rfl
  · rw [if_pos ⟨c, decide_eq_true ⟨by omega, by omega⟩⟩, if_neg w]
    have := (hE_0 c).1
    exact congrArg i64 (i64_in' (by omega) (by omega))
end Go.Proofs.Ytnhedcaphncliaa.W.Hole
