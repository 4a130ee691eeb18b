/- Columns: their first error, and what is plain. No condition. -/
import Derived.Test.YtnhedcaphncliaaH1
import Derived.Test.YtnhedcaphncliaaCz10
set_option linter.unusedVariables false
set_option maxRecDepth 100000
set_option maxHeartbeats 4000000
noncomputable section
namespace Go.Proofs.Ytnhedcaphncliaa.W.Hole
open Go Go.Cx Go.RowKit
theorem no_way {α : Type} {Q : α → Prop} {t : Tree α} {b : Bool} (h : b = true) (k : b = false) : t.holds Q := by rw [h] at k; cases k
theorem way_no {α : Type} {Q : α → Prop} {t : Tree α} {b : Bool} (h : b = false) (k : b = true) : t.holds Q := by rw [h] at k; cases k
noncomputable def zi (l : List Slug) (i : Int) : Slug := ixD E 47 l i
noncomputable def ki (l : List Knot) (i : Int) : Knot := ixD E 72 l i
theorem drop_zI {l : List Slug} {i : Int} (h0 : 0 ≤ i) (h : i < l.length) : l.drop i.toNat = zi l i :: l.drop (i + 1).toNat := by
  have := drop_ix (E := E) (τ := 47) (l := l) (i := i.toNat) (by show i.toNat < (l : List Slug).length; omega)
  rw [Int.toNat_of_nonneg h0] at this
  rw [show (i + 1).toNat = i.toNat + 1 by omega]
  exact this
theorem zi_mem {l : List Slug} {i : Int} (h0 : 0 ≤ i) (h : i < l.length) : zi l i ∈ l := by
  have : zi l i ∈ l.drop i.toNat := by rw [drop_zI h0 h]; exact List.mem_cons_self ..
  exact mem_drop this
/-! ### equal lists -/
noncomputable def o24 (i : Int) (l : List Knot) (m : List Knot) : Tree (Ex × List (V T)) := .req (m = l ∧ 0 ≤ i ∧ l.length ≤ 1000) (.leaf (.exit 0, [.l 72 l, .l 72 l]))
noncomputable def c24 : LoopC T := ⟨[.n, .l 72, .l 72], ⟨38, [(2, .one (.o 0 0)), (3, .one (.o 1 0)), (5, .one (.i .i64))], [.c [.s 72], .c [.s 72]]⟩, fun e => match e with
    | .ret => ⟨38, [(4, .one .b)], []⟩
    | _ => ⟨38, [(2, .one (.o 0 0)), (3, .one (.o 1 0))], [.c [.s 72], .c [.s 72]]⟩, 30, fun d => o24 d.1 d.2.1 d.2.2.1⟩
theorem b24 (i : Int) (l : List Knot) (m : List Knot) : bodyD Try.prog E c24 0 (bodyX Try.prog E ctQ noLoops 1000 5 L0 (lpOf Try.prog 24 0)) (i, l, m, ()) =
  (.br (decide (i < (↑(List.length l) : Int)))
   (.br (decide (i < (↑(List.length m) : Int)))
    (.req ((decide ((0 : Int) ≤ i) && decide (i < (↑(List.length l) : Int))) = true)
    (.req ((decide ((0 : Int) ≤ i) && decide (i < (↑(List.length m) : Int))) = true)
    (.br (!(Knot.At (ki l i) == Knot.At (ki m i) && (Knot.V (ki l i) == Knot.V (ki m i) && true)))
     (.leaf (.inr (.ret, [.t (false)])))
     (.leaf (.inl (IntKind.wrap IntKind.i64 (i + (1 : Int)), (l, (m, ()))))))))
    (.leaf (.inr (.exit (0 : Nat), [.l (72 : Nat) (l), .l (72 : Nat) (m)]))))
   (.leaf (.inr (.exit (0 : Nat), [.l (72 : Nat) (l), .l (72 : Nat) (m)])))) := by kernel_rfl
theorem n24 (i : Int) (l : List Knot) (m : List Knot) (K : Ex × List (V T) → Prop) (hI : m = l ∧ 0 ≤ i ∧ l.length ≤ 1000) (hK : (.leaf (.exit 0, [.l 72 l, .l 72 l]) : Tree (Ex × List (V T))).holds K) : (c24.out (i, l, m, ())).holds K := ⟨hI, hK⟩
theorem h24' (i : Int) (l : List Knot) (m : List Knot) (K : Ex × List (V T) → Prop) (hI : m = l ∧ 0 ≤ i ∧ l.length ≤ 1000) (hK : (.leaf (.exit 0, [.l 72 l, .l 72 l]) : Tree (Ex × List (V T))).holds K) :
    (bodyD Try.prog E c24 0 (bodyX Try.prog E ctQ noLoops 1000 5 L0 (lpOf Try.prog 24 0)) (i, l, m, ())).holds fun y => match y with
    | .inl d => ((d.2.2.1.length : Int) - d.1).toNat < ((m.length : Int) - i).toNat ∧ (c24.out d).holds K
    | .inr y => K y := by
  rw [b24]
  obtain ⟨rfl, h0, hl⟩ := hI
  refine way (fun c => way (fun c2 => wayC h0 c fun _ _ => wayC h0 c fun _ _ => ?_) fun c2 => absurd c c2) fun c => hK
  have e2 : IntKind.wrap IntKind.i64 (i + 1) = i + 1 := i64_in' (by omega) (by omega)
  rw [e2]
  have g1 : (0 : Int) ≤ i + 1 := by omega
  have g2 : ((m.length : Int) - (i + 1)).toNat < ((m.length : Int) - i).toNat := by omega
  exact wayB (fun k => absurd k (by simp)) fun k => ⟨g2, ⟨rfl, g1, hl⟩, hK⟩
theorem h24 : LoopH Try.prog E c24 0 (bodyX Try.prog E ctQ noLoops 1000 5 L0 (lpOf Try.prog 24 0)) :=
  ⟨fun d => ((d.2.2.1.length : Int) - d.1).toNat, fun dd K hK => by
    obtain ⟨i, l, m, ⟨⟩⟩ := dd
    obtain ⟨hI, hK⟩ := hK
    refine Tree.holds_mono (fun y hy => ?_) (h24' i l m K hI hK)
    cases y with
    | inl d' => exact hy
    | inr y => exact hy⟩
theorem ll24 : LLOk Try.prog E (llOfN Try.prog E 24 0 [(2, c24)]) := llOfN_ok fun i hi c hc => by
  have hi : i < 1 := hi
  obtain rfl : i = 0 := by omega
  obtain rfl : c24 = c := Option.some.inj hc
  exact LSndN.mk good names mixes ctQ_ok (by decide) h24
noncomputable def o31 (l : List Slug) (m : List Slug) (i : Int) : Tree (Ex × List (V T)) := .req (m = l ∧ 0 ≤ i ∧ l.length ≤ 1000) (.leaf (.exit 0, [.l 47 l, .l 47 l]))
noncomputable def c31 : LoopC T := ⟨[.l 47, .l 47, .n], ⟨32, [(0, .one (.s 47)), (1, .one (.s 47)), (5, .one (.i .i64))], []⟩, fun e => match e with
    | .ret => ⟨32, [(4, .one .b)], []⟩
    | _ => ⟨32, [(0, .one (.s 47)), (1, .one (.s 47))], []⟩, 30, fun d => o31 d.1 d.2.1 d.2.2.1⟩
theorem b31 (l : List Slug) (m : List Slug) (i : Int) : bodyD Try.prog E c31 0 (bodyX Try.prog E ctQ noLoops 1000 5 L0 (lpOf Try.prog 31 0)) (l, m, i, ()) =
  (.br (decide (i < (↑(List.length l) : Int)))
   (.br (decide (i < (↑(List.length m) : Int)))
    (.req ((decide ((0 : Int) ≤ i) && decide (i < (↑(List.length l) : Int))) = true)
    (.req ((decide ((0 : Int) ≤ i) && decide (i < (↑(List.length m) : Int))) = true)
    (.br (!(Slug.Weight (zi l i) == Slug.Weight (zi m i) && (Slug.Volume (zi l i) == Slug.Volume (zi m i) && true)))
     (.leaf (.inr (.ret, [.t (false)])))
     (.leaf (.inl (l, (m, (IntKind.wrap IntKind.i64 (i + (1 : Int)), ()))))))))
    (.leaf (.inr (.exit (0 : Nat), [.l (47 : Nat) (l), .l (47 : Nat) (m)]))))
   (.leaf (.inr (.exit (0 : Nat), [.l (47 : Nat) (l), .l (47 : Nat) (m)])))) := by kernel_rfl
theorem n31 (l : List Slug) (m : List Slug) (i : Int) (K : Ex × List (V T) → Prop) (hI : m = l ∧ 0 ≤ i ∧ l.length ≤ 1000) (hK : (.leaf (.exit 0, [.l 47 l, .l 47 l]) : Tree (Ex × List (V T))).holds K) : (c31.out (l, m, i, ())).holds K := ⟨hI, hK⟩
theorem h31' (l : List Slug) (m : List Slug) (i : Int) (K : Ex × List (V T) → Prop) (hI : m = l ∧ 0 ≤ i ∧ l.length ≤ 1000) (hK : (.leaf (.exit 0, [.l 47 l, .l 47 l]) : Tree (Ex × List (V T))).holds K) :
    (bodyD Try.prog E c31 0 (bodyX Try.prog E ctQ noLoops 1000 5 L0 (lpOf Try.prog 31 0)) (l, m, i, ())).holds fun y => match y with
    | .inl d => ((d.2.1.length : Int) - d.2.2.1).toNat < ((m.length : Int) - i).toNat ∧ (c31.out d).holds K
    | .inr y => K y := by
  rw [b31]
  obtain ⟨rfl, h0, hl⟩ := hI
  refine way (fun c => way (fun c2 => wayC h0 c fun _ _ => wayC h0 c fun _ _ => ?_) fun c2 => absurd c c2) fun c => hK
  have e2 : IntKind.wrap IntKind.i64 (i + 1) = i + 1 := i64_in' (by omega) (by omega)
  rw [e2]
  have g1 : (0 : Int) ≤ i + 1 := by omega
  have g2 : ((m.length : Int) - (i + 1)).toNat < ((m.length : Int) - i).toNat := by omega
  exact wayB (fun k => absurd k (by simp)) fun k => ⟨g2, ⟨rfl, g1, hl⟩, hK⟩
theorem h31 : LoopH Try.prog E c31 0 (bodyX Try.prog E ctQ noLoops 1000 5 L0 (lpOf Try.prog 31 0)) :=
  ⟨fun d => ((d.2.1.length : Int) - d.2.2.1).toNat, fun dd K hK => by
    obtain ⟨l, m, i, ⟨⟩⟩ := dd
    obtain ⟨hI, hK⟩ := hK
    refine Tree.holds_mono (fun y hy => ?_) (h31' l m i K hI hK)
    cases y with
    | inl d' => exact hy
    | inr y => exact hy⟩
theorem ll31 : LLOk Try.prog E (llOfN Try.prog E 31 0 [(2, c31)]) := llOfN_ok fun i hi c hc => by
  have hi : i < 1 := hi
  obtain rfl : i = 0 := by omega
  obtain rfl : c31 = c := Option.some.inj hc
  exact LSndN.mk good names mixes ctQ_ok (by decide) h31
theorem tv24 (l m : List Knot) : runX ctQ (llOfN Try.prog E 24 0 [(2, c24)]) 24 [.agg [.sl 72 l false], .agg [.sl 72 m false]] [4] =
  (.req (m = l ∧ (0 : Int) ≤ (0 : Int) ∧ List.length l ≤ (1000 : Nat))
  (.leaf (.bool ((↑(List.length l) : Int) == (↑(List.length l) : Int))))) := by kernel_rfl
theorem tv31 (l m : List Slug) : runX ctQ (llOfN Try.prog E 31 0 [(2, c31)]) 31 [.sl 47 l false, .sl 47 m false] [4] =
  (.req (m = l ∧ (0 : Int) ≤ (0 : Int) ∧ List.length l ≤ (1000 : Nat))
  (.leaf (.bool ((↑(List.length l) : Int) == (↑(List.length l) : Int))))) := by kernel_rfl
theorem s24 (l m : List Knot) (h : m = l ∧ l.length ≤ 1000) : (runX ctQ (llOfN Try.prog E 24 0 [(2, c24)]) 24 [.agg [.sl 72 l false], .agg [.sl 72 m false]] [4]).holds fun v => v = .bool true := by
  rw [tv24]
  exact ⟨⟨h.1, by decide, h.2⟩, congrArg AV.bool (by simp)⟩
theorem s31 (l m : List Slug) (h : m = l ∧ l.length ≤ 1000) : (runX ctQ (llOfN Try.prog E 31 0 [(2, c31)]) 31 [.sl 47 l false, .sl 47 m false] [4]).holds fun v => v = .bool true := by
  rw [tv31]
  exact ⟨⟨h.1, by decide, h.2⟩, congrArg AV.bool (by simp)⟩
noncomputable def cSameL : Con T := conP Try.prog [.agg [.s 72], .agg [.s 72]] [.l 72, .l 72] (fun d => (d.2.1 : List Knot) = d.1 ∧ (d.1 : List Knot).length ≤ 1000) fun d => .bool true
noncomputable def cSameZ : Con T := conP Try.prog [.one (.s 47), .one (.s 47)] [.l 47, .l 47] (fun d => (d.2.1 : List Slug) = d.1 ∧ (d.1 : List Slug).length ≤ 1000) fun d => .bool true
theorem sameL_ok : ConOk Try.prog E 24 cSameL := conP_ok fun d hd => fact_run ctQ_ok ll24 (ts := [4]) rfl (s24 d.1 d.2.1 hd)
theorem sameZ_ok : ConOk Try.prog E 31 cSameZ := conP_ok fun d hd => fact_run ctQ_ok ll31 (ts := [4]) rfl (s31 d.1 d.2.1 hd)
noncomputable def cWhr : Con T := conP Try.prog [shH, .one (.i .i64)] [.l 52, .n] (fun d => inLg d.1) fun d => i64 (whr d.1 d.2.1)
theorem whr_ok : ConOk Try.prog E 27 cWhr := conP_ok fun d hd => fact_run ctQ_ok ll92W (ts := [3]) rfl (s27 d.1 d.2.1 hd)
theorem whr2_ok : ConOk Try.prog E 28 cWhr := conP_ok fun d hd => fact_run ctQ_ok ll28 (ts := [3]) rfl (s28 d.1 d.2.1 hd)
/-! ### what is plain -/
@[reducible] def vOk (s : Slug) : Prop := 1 ≤ s.Volume ∧ s.Volume ≤ 1099511627776
noncomputable def stz (q : List Slug) (s : Slug) : List Slug :=
  if vOk s then
    (if 0 < q.length ∧ (zi q ((q.length : Int) - 1)).Weight = s.Weight then q.set ((q.length : Int) - 1).toNat ⟨(zi q ((q.length : Int) - 1)).Weight, wr ((zi q ((q.length : Int) - 1)).Volume + s.Volume)⟩
    else q ++ [s])
  else q
noncomputable def plz : List Slug → List Slug → List Slug
  | [], q => q
  | s :: r, q => plz r (stz q s)
theorem stz_len (q : List Slug) (s : Slug) : (stz q s).length ≤ q.length + 1 ∧ q.length ≤ (stz q s).length := by
  unfold stz
  split
  · split <;> simp
  · simp
theorem plz_len : ∀ (l q : List Slug), (plz l q).length ≤ q.length + l.length
  | [], q => by simp [plz]
  | s :: r, q => by
    have := plz_len r (stz q s)
    have := (stz_len q s).1
    show (plz r (stz q s)).length ≤ _
    simp only [List.length_cons]
    omega
theorem stz_no {q : List Slug} {s : Slug} (h : ¬ vOk s) : stz q s = q := by unfold stz; rw [if_neg h]
theorem stz_set {q : List Slug} {s : Slug} (h : vOk s) (h1 : 0 < q.length) (h2 : (zi q ((q.length : Int) - 1)).Weight = s.Weight) : stz q s = q.set ((q.length : Int) - 1).toNat ⟨(zi q ((q.length : Int) - 1)).Weight, wr ((zi q ((q.length : Int) - 1)).Volume + s.Volume)⟩ := by unfold stz; rw [if_pos h, if_pos ⟨h1, h2⟩]
theorem stz_app {q : List Slug} {s : Slug} (h : vOk s) (h1 : ¬ (0 < q.length ∧ (zi q ((q.length : Int) - 1)).Weight = s.Weight)) : stz q s = q ++ [s] := by unfold stz; rw [if_pos h, if_neg h1]
noncomputable def o32 (q : List Slug) (l : List Slug) (n : Int) (i : Int) : Tree (Ex × List (V T)) := .req ((0 ≤ i ∧ n = l.length) ∧ l.length ≤ 100 ∧ q.length ≤ i) (.leaf (.exit 0, [.l 47 (plz (l.drop i.toNat) q)]))
noncomputable def c32 : LoopC T := ⟨[.l 47, .l 47, .n, .n], ⟨50, [(3, .one (.g 0 47)), (7, .one (.s 47)), (8, .one (.i .i64)), (9, .one (.i .i64))], [.l 47]⟩, fun _ => ⟨50, [(3, .one (.g 0 47))], [.l 47]⟩, 30, fun d => o32 d.1 d.2.1 d.2.2.1 d.2.2.2.1⟩
theorem b32 (q : List Slug) (l : List Slug) (n : Int) (i : Int) : bodyD Try.prog E c32 0 (bodyX Try.prog E ctQ noLoops 1000 5 L0 (lpOf Try.prog 32 0)) (q, l, n, i, ()) =
  (.br (decide (i < n))
   (.req ((decide ((0 : Int) ≤ i) && decide (i < (↑(List.length l) : Int))) = true)
   (.br (!within (Slug.Volume (zi l i)) (1 : Int) (1099511627776 : Int))
    (.req (List.length q = List.length q)
    (.leaf (.inl (q, (l, (n, (IntKind.wrap IntKind.i64 (i + (1 : Int)), ())))))))
    (.br (decide (IntKind.wrap IntKind.i64 ((↑(List.length q) : Int) - (1 : Int)) ≥ (0 : Int)))
     (.req ((decide ((0 : Int) ≤ IntKind.wrap IntKind.i64 ((↑(List.length q) : Int) - (1 : Int))) && decide (IntKind.wrap IntKind.i64 ((↑(List.length q) : Int) - (1 : Int)) < (↑(List.length q) : Int))) = true)
     (.req ((decide ((0 : Int) ≤ IntKind.wrap IntKind.i64 ((↑(List.length q) : Int) - (1 : Int))) && decide (IntKind.wrap IntKind.i64 ((↑(List.length q) : Int) - (1 : Int)) < (↑(List.length q) : Int))) = true)
     (.br (Slug.Weight (zi q (IntKind.wrap IntKind.i64 ((↑(List.length q) : Int) - (1 : Int)))) == Slug.Weight (zi l i))
      (.req ((decide ((0 : Int) ≤ IntKind.wrap IntKind.i64 ((↑(List.length q) : Int) - (1 : Int))) && decide (IntKind.wrap IntKind.i64 ((↑(List.length q) : Int) - (1 : Int)) < (↑(List.length q) : Int))) = true)
      (.req ((decide ((0 : Int) ≤ IntKind.wrap IntKind.i64 ((↑(List.length q) : Int) - (1 : Int))) && decide (IntKind.wrap IntKind.i64 ((↑(List.length q) : Int) - (1 : Int)) < (↑(List.length q) : Int))) = true)
      (.req ((decide ((0 : Int) ≤ IntKind.wrap IntKind.i64 ((↑(List.length q) : Int) - (1 : Int))) && decide (IntKind.wrap IntKind.i64 ((↑(List.length q) : Int) - (1 : Int)) < (↑(List.length q) : Int))) = true)
      (.req ((decide ((0 : Int) ≤ IntKind.wrap IntKind.i64 ((↑(List.length q) : Int) - (1 : Int))) && decide (IntKind.wrap IntKind.i64 ((↑(List.length q) : Int) - (1 : Int)) < (↑(List.length q) : Int))) = true)
      (.req (List.length q = List.length (List.set q (Int.toNat (IntKind.wrap IntKind.i64 ((↑(List.length q) : Int) - (1 : Int)))) (Slug.mk (Slug.Weight (zi q (IntKind.wrap IntKind.i64 ((↑(List.length q) : Int) - (1 : Int))))) (IntKind.wrap IntKind.i64 (Slug.Volume (zi q (IntKind.wrap IntKind.i64 ((↑(List.length q) : Int) - (1 : Int)))) + Slug.Volume (zi l i))))))
      (.leaf (.inl (List.set q (Int.toNat (IntKind.wrap IntKind.i64 ((↑(List.length q) : Int) - (1 : Int)))) (Slug.mk (Slug.Weight (zi q (IntKind.wrap IntKind.i64 ((↑(List.length q) : Int) - (1 : Int))))) (IntKind.wrap IntKind.i64 (Slug.Volume (zi q (IntKind.wrap IntKind.i64 ((↑(List.length q) : Int) - (1 : Int)))) + Slug.Volume (zi l i)))), (l, (n, (IntKind.wrap IntKind.i64 (i + (1 : Int)), ())))))))))))
      (.req (List.length q = List.length q)
      (.req (List.length q + List.length [Slug.mk (Slug.Weight (zi l i)) (Slug.Volume (zi l i))] ≤ (1073741824 : Nat))
      (.req (List.length (q ++ [Slug.mk (Slug.Weight (zi l i)) (Slug.Volume (zi l i))]) = List.length (q ++ [Slug.mk (Slug.Weight (zi l i)) (Slug.Volume (zi l i))]))
      (.leaf (.inl (q ++ [Slug.mk (Slug.Weight (zi l i)) (Slug.Volume (zi l i))], (l, (n, (IntKind.wrap IntKind.i64 (i + (1 : Int)), ()))))))))))))
     (.req (List.length q = List.length q)
     (.req (List.length q + List.length [Slug.mk (Slug.Weight (zi l i)) (Slug.Volume (zi l i))] ≤ (1073741824 : Nat))
     (.req (List.length (q ++ [Slug.mk (Slug.Weight (zi l i)) (Slug.Volume (zi l i))]) = List.length (q ++ [Slug.mk (Slug.Weight (zi l i)) (Slug.Volume (zi l i))]))
     (.leaf (.inl (q ++ [Slug.mk (Slug.Weight (zi l i)) (Slug.Volume (zi l i))], (l, (n, (IntKind.wrap IntKind.i64 (i + (1 : Int)), ()))))))))))))
   (.req (List.length q = List.length q)
   (.leaf (.inr (.exit (0 : Nat), [.l (47 : Nat) (q)]))))) := by kernel_rfl
theorem n32 (q : List Slug) (l : List Slug) (n : Int) (i : Int) (K : Ex × List (V T) → Prop) (hI : (0 ≤ i ∧ n = l.length) ∧ l.length ≤ 100 ∧ q.length ≤ i) (hK : (.leaf (.exit 0, [.l 47 (plz (l.drop i.toNat) q)]) : Tree (Ex × List (V T))).holds K) : (c32.out (q, l, n, i, ())).holds K := ⟨hI, hK⟩
theorem h32' (q : List Slug) (l : List Slug) (n : Int) (i : Int) (K : Ex × List (V T) → Prop) (hI : (0 ≤ i ∧ n = l.length) ∧ l.length ≤ 100 ∧ q.length ≤ i) (hK : (.leaf (.exit 0, [.l 47 (plz (l.drop i.toNat) q)]) : Tree (Ex × List (V T))).holds K) :
    (bodyD Try.prog E c32 0 (bodyX Try.prog E ctQ noLoops 1000 5 L0 (lpOf Try.prog 32 0)) (q, l, n, i, ())).holds fun y => match y with
    | .inl d => ((d.2.1.length : Int) - d.2.2.2.1).toNat < ((l.length : Int) - i).toNat ∧ (c32.out d).holds K
    | .inr y => K y := by
  rw [b32]
  obtain ⟨⟨h0, rfl⟩, hl, hq⟩ := hI
  refine way (fun c => wayC h0 c fun _ _ => ?_) fun c => ⟨rfl, ?_⟩
  
  · have e2 : IntKind.wrap IntKind.i64 (i + 1) = i + 1 := i64_in' (by omega) (by omega)
    have e3 : IntKind.wrap IntKind.i64 ((q.length : Int) - 1) = (q.length : Int) - 1 := i64_in' (by omega) (by omega)
    rw [e2, e3]
    rw [drop_zI h0 c] at hK
    unfold plz at hK
    have g1 : (0 : Int) ≤ i + 1 := by omega
    have g2 : ((l.length : Int) - (i + 1)).toNat < ((l.length : Int) - i).toNat := by omega
    have hL := stz_len q (zi l i)
    generalize hs : zi l i = s at *
    have next : ∀ q' : List Slug, stz q s = q' → ((l.length : Int) - (i + 1)).toNat < ((l.length : Int) - i).toNat ∧ (c32.out (q', l, (l.length : Int), i + 1, ())).holds K := fun q' e => by
      rw [e] at hK hL
      have := hL.1
      exact ⟨g2, ⟨⟨g1, rfl⟩, hl, by show (q'.length : Int) ≤ i + 1; omega⟩, hK⟩
    have bd : 0 < q.length → (0 : Int) ≤ (q.length : Int) - 1 ∧ (q.length : Int) - 1 < q.length := fun h => by omega
    refine wayB (fun k => ⟨rfl, next q (stz_no fun h => ?_)⟩) fun k => ?_
    · rw [show within s.Volume 1 1099511627776 = true from decide_eq_true h] at k; cases k
    have hv : vOk s := of_decide_eq_true (show within s.Volume 1 1099511627776 = true by simpa using k)
    refine way (fun k2 => ?_) fun k2 => ?_
    · have h1 : 0 < q.length := by omega
      obtain ⟨b1, b2⟩ := bd h1
      refine wayC b1 b2 fun _ _ => wayC b1 b2 fun _ _ => wayEq (fun k3 => ?_) fun k3 => ?_
      · exact wayC b1 b2 fun _ _ => wayC b1 b2 fun _ _ => wayC b1 b2 fun _ _ => wayC b1 b2 fun _ _ => ⟨by simp, next _ (stz_set hv h1 k3)⟩
      · exact ⟨rfl, by simp; omega, rfl, next _ (stz_app hv fun h => k3 h.2)⟩
    · exact ⟨rfl, by simp; omega, rfl, next _ (stz_app hv fun h => k2 (by omega))⟩
  · rw [drop_n c] at hK
    exact hK
theorem h32 : LoopH Try.prog E c32 0 (bodyX Try.prog E ctQ noLoops 1000 5 L0 (lpOf Try.prog 32 0)) :=
  ⟨fun d => ((d.2.1.length : Int) - d.2.2.2.1).toNat, fun dd K hK => by
    obtain ⟨q, l, n, i, ⟨⟩⟩ := dd
    obtain ⟨hI, hK⟩ := hK
    refine Tree.holds_mono (fun y hy => ?_) (h32' q l n i K hI hK)
    cases y with
    | inl d' => exact hy
    | inr y => exact hy⟩
theorem ll32 : LLOk Try.prog E (llOfN Try.prog E 32 0 [(3, c32)]) := llOfN_ok fun i hi c hc => by
  have hi : i < 1 := hi
  obtain rfl : i = 0 := by omega
  obtain rfl : c32 = c := Option.some.inj hc
  exact LSndN.mk good names mixes ctQ_ok (by decide) h32
noncomputable def o33 (q : List Slug) (l : List Slug) (i : Int) : Tree (Ex × List (V T)) := .req (0 ≤ i ∧ l.length ≤ 100 ∧ q.length ≤ i) (.leaf (.exit 0, [.l 47 (plz (l.drop i.toNat) q)]))
noncomputable def c33 : LoopC T := ⟨[.l 47, .l 47, .n], ⟨67, [(0, .one (.s 47)), (3, .one (.g 0 47)), (4, .one (.i .i64))], [.l 47]⟩, fun _ => ⟨67, [(3, .one (.g 0 47))], [.l 47]⟩, 30, fun d => o33 d.1 d.2.1 d.2.2.1⟩
theorem b33 (q : List Slug) (l : List Slug) (i : Int) : bodyD Try.prog E c33 0 (bodyX Try.prog E ctQ noLoops 1000 5 L0 (lpOf Try.prog 33 0)) (q, l, i, ()) =
  (.br (decide (i < (↑(List.length l) : Int)))
   (.req ((decide ((0 : Int) ≤ i) && decide (i < (↑(List.length l) : Int))) = true)
   (.br (decide (Slug.Volume (zi l i) < (1 : Int)))
    (.req (List.length q = List.length q)
    (.leaf (.inl (q, (l, (IntKind.wrap IntKind.i64 (i + (1 : Int)), ()))))))
    (.req ((decide ((0 : Int) ≤ i) && decide (i < (↑(List.length l) : Int))) = true)
    (.br (decide (Slug.Volume (zi l i) > (1099511627776 : Int)))
     (.req (List.length q = List.length q)
     (.leaf (.inl (q, (l, (IntKind.wrap IntKind.i64 (i + (1 : Int)), ()))))))
     (.br (decide (IntKind.wrap IntKind.i64 ((↑(List.length q) : Int) - (1 : Int)) ≥ (0 : Int)))
      (.req ((decide ((0 : Int) ≤ IntKind.wrap IntKind.i64 ((↑(List.length q) : Int) - (1 : Int))) && decide (IntKind.wrap IntKind.i64 ((↑(List.length q) : Int) - (1 : Int)) < (↑(List.length q) : Int))) = true)
      (.req ((decide ((0 : Int) ≤ IntKind.wrap IntKind.i64 ((↑(List.length q) : Int) - (1 : Int))) && decide (IntKind.wrap IntKind.i64 ((↑(List.length q) : Int) - (1 : Int)) < (↑(List.length q) : Int))) = true)
      (.req ((decide ((0 : Int) ≤ i) && decide (i < (↑(List.length l) : Int))) = true)
      (.br (Slug.Weight (zi q (IntKind.wrap IntKind.i64 ((↑(List.length q) : Int) - (1 : Int)))) == Slug.Weight (zi l i))
       (.req ((decide ((0 : Int) ≤ IntKind.wrap IntKind.i64 ((↑(List.length q) : Int) - (1 : Int))) && decide (IntKind.wrap IntKind.i64 ((↑(List.length q) : Int) - (1 : Int)) < (↑(List.length q) : Int))) = true)
       (.req ((decide ((0 : Int) ≤ IntKind.wrap IntKind.i64 ((↑(List.length q) : Int) - (1 : Int))) && decide (IntKind.wrap IntKind.i64 ((↑(List.length q) : Int) - (1 : Int)) < (↑(List.length q) : Int))) = true)
       (.req ((decide ((0 : Int) ≤ i) && decide (i < (↑(List.length l) : Int))) = true)
       (.req ((decide ((0 : Int) ≤ IntKind.wrap IntKind.i64 ((↑(List.length q) : Int) - (1 : Int))) && decide (IntKind.wrap IntKind.i64 ((↑(List.length q) : Int) - (1 : Int)) < (↑(List.length q) : Int))) = true)
       (.req ((decide ((0 : Int) ≤ IntKind.wrap IntKind.i64 ((↑(List.length q) : Int) - (1 : Int))) && decide (IntKind.wrap IntKind.i64 ((↑(List.length q) : Int) - (1 : Int)) < (↑(List.length q) : Int))) = true)
       (.req (List.length q = List.length (List.set q (Int.toNat (IntKind.wrap IntKind.i64 ((↑(List.length q) : Int) - (1 : Int)))) (Slug.mk (Slug.Weight (zi q (IntKind.wrap IntKind.i64 ((↑(List.length q) : Int) - (1 : Int))))) (IntKind.wrap IntKind.i64 (Slug.Volume (zi q (IntKind.wrap IntKind.i64 ((↑(List.length q) : Int) - (1 : Int)))) + Slug.Volume (zi l i))))))
       (.leaf (.inl (List.set q (Int.toNat (IntKind.wrap IntKind.i64 ((↑(List.length q) : Int) - (1 : Int)))) (Slug.mk (Slug.Weight (zi q (IntKind.wrap IntKind.i64 ((↑(List.length q) : Int) - (1 : Int))))) (IntKind.wrap IntKind.i64 (Slug.Volume (zi q (IntKind.wrap IntKind.i64 ((↑(List.length q) : Int) - (1 : Int)))) + Slug.Volume (zi l i)))), (l, (IntKind.wrap IntKind.i64 (i + (1 : Int)), ())))))))))))
       (.req ((decide ((0 : Int) ≤ i) && decide (i < (↑(List.length l) : Int))) = true)
       (.req (List.length q = List.length q)
       (.req (List.length q + List.length [Slug.mk (Slug.Weight (zi l i)) (Slug.Volume (zi l i))] ≤ (1073741824 : Nat))
       (.req (List.length (q ++ [Slug.mk (Slug.Weight (zi l i)) (Slug.Volume (zi l i))]) = List.length (q ++ [Slug.mk (Slug.Weight (zi l i)) (Slug.Volume (zi l i))]))
       (.leaf (.inl (q ++ [Slug.mk (Slug.Weight (zi l i)) (Slug.Volume (zi l i))], (l, (IntKind.wrap IntKind.i64 (i + (1 : Int)), ())))))))))))))
      (.req ((decide ((0 : Int) ≤ i) && decide (i < (↑(List.length l) : Int))) = true)
      (.req (List.length q = List.length q)
      (.req (List.length q + List.length [Slug.mk (Slug.Weight (zi l i)) (Slug.Volume (zi l i))] ≤ (1073741824 : Nat))
      (.req (List.length (q ++ [Slug.mk (Slug.Weight (zi l i)) (Slug.Volume (zi l i))]) = List.length (q ++ [Slug.mk (Slug.Weight (zi l i)) (Slug.Volume (zi l i))]))
      (.leaf (.inl (q ++ [Slug.mk (Slug.Weight (zi l i)) (Slug.Volume (zi l i))], (l, (IntKind.wrap IntKind.i64 (i + (1 : Int)), ()))))))))))))))
   (.req (List.length q = List.length q)
   (.leaf (.inr (.exit (0 : Nat), [.l (47 : Nat) (q)]))))) := by kernel_rfl
theorem n33 (q : List Slug) (l : List Slug) (i : Int) (K : Ex × List (V T) → Prop) (hI : 0 ≤ i ∧ l.length ≤ 100 ∧ q.length ≤ i) (hK : (.leaf (.exit 0, [.l 47 (plz (l.drop i.toNat) q)]) : Tree (Ex × List (V T))).holds K) : (c33.out (q, l, i, ())).holds K := ⟨hI, hK⟩
theorem h33' (q : List Slug) (l : List Slug) (i : Int) (K : Ex × List (V T) → Prop) (hI : 0 ≤ i ∧ l.length ≤ 100 ∧ q.length ≤ i) (hK : (.leaf (.exit 0, [.l 47 (plz (l.drop i.toNat) q)]) : Tree (Ex × List (V T))).holds K) :
    (bodyD Try.prog E c33 0 (bodyX Try.prog E ctQ noLoops 1000 5 L0 (lpOf Try.prog 33 0)) (q, l, i, ())).holds fun y => match y with
    | .inl d => ((d.2.1.length : Int) - d.2.2.1).toNat < ((l.length : Int) - i).toNat ∧ (c33.out d).holds K
    | .inr y => K y := by
  rw [b33]
  obtain ⟨h0, hl, hq⟩ := hI
  refine way (fun c => wayC h0 c fun _ _ => ?_) fun c => ⟨rfl, ?_⟩
  
  · have e2 : IntKind.wrap IntKind.i64 (i + 1) = i + 1 := i64_in' (by omega) (by omega)
    have e3 : IntKind.wrap IntKind.i64 ((q.length : Int) - 1) = (q.length : Int) - 1 := i64_in' (by omega) (by omega)
    rw [e2, e3]
    rw [drop_zI h0 c] at hK
    unfold plz at hK
    have g1 : (0 : Int) ≤ i + 1 := by omega
    have g2 : ((l.length : Int) - (i + 1)).toNat < ((l.length : Int) - i).toNat := by omega
    have hL := stz_len q (zi l i)
    generalize hs : zi l i = s at *
    have next : ∀ q' : List Slug, stz q s = q' → ((l.length : Int) - (i + 1)).toNat < ((l.length : Int) - i).toNat ∧ (c33.out (q', l, i + 1, ())).holds K := fun q' e => by
      rw [e] at hK hL
      have := hL.1
      exact ⟨g2, ⟨g1, hl, by show (q'.length : Int) ≤ i + 1; omega⟩, hK⟩
    have bd : 0 < q.length → (0 : Int) ≤ (q.length : Int) - 1 ∧ (q.length : Int) - 1 < q.length := fun h => by omega
    refine way (fun k => ⟨rfl, next q (stz_no fun h => by have := h.1; omega)⟩) fun k => wayC h0 c fun _ _ => way (fun k1 => ⟨rfl, next q (stz_no fun h => by have := h.2; omega)⟩) fun k1 => ?_
    have hv : vOk s := ⟨by omega, by omega⟩
    refine way (fun k2 => ?_) fun k2 => ?_
    · have h1 : 0 < q.length := by omega
      obtain ⟨b1, b2⟩ := bd h1
      refine wayC b1 b2 fun _ _ => wayC b1 b2 fun _ _ => wayC h0 c fun _ _ => wayEq (fun k3 => ?_) fun k3 => ?_
      · exact wayC b1 b2 fun _ _ => wayC b1 b2 fun _ _ => wayC h0 c fun _ _ => wayC b1 b2 fun _ _ => wayC b1 b2 fun _ _ => ⟨by simp, next _ (stz_set hv h1 k3)⟩
      · exact wayC h0 c fun _ _ => ⟨rfl, by simp; omega, rfl, next _ (stz_app hv fun h => k3 h.2)⟩
    · exact wayC h0 c fun _ _ => ⟨rfl, by simp; omega, rfl, next _ (stz_app hv fun h => k2 (by omega))⟩
  · rw [drop_n c] at hK
    exact hK
theorem h33 : LoopH Try.prog E c33 0 (bodyX Try.prog E ctQ noLoops 1000 5 L0 (lpOf Try.prog 33 0)) :=
  ⟨fun d => ((d.2.1.length : Int) - d.2.2.1).toNat, fun dd K hK => by
    obtain ⟨q, l, i, ⟨⟩⟩ := dd
    obtain ⟨hI, hK⟩ := hK
    refine Tree.holds_mono (fun y hy => ?_) (h33' q l i K hI hK)
    cases y with
    | inl d' => exact hy
    | inr y => exact hy⟩
theorem ll33 : LLOk Try.prog E (llOfN Try.prog E 33 0 [(3, c33)]) := llOfN_ok fun i hi c hc => by
  have hi : i < 1 := hi
  obtain rfl : i = 0 := by omega
  obtain rfl : c33 = c := Option.some.inj hc
  exact LSndN.mk good names mixes ctQ_ok (by decide) h33
noncomputable def runN (ct : CTab T) (ll : Nat → Nat → LoopTab T) (fl : List Nat) (f : Nat) (xs : List (AV T)) (ts : List Nat) : Tree (AV T) := resN Try.prog fl ts (callX Try.prog E ct ll 1000 8 (.fn f) xs hp0)
theorem factN_run {ct : CTab T} (hc : CTabOk Try.prog E ct) {ll : Nat → Nat → LoopTab T} (hl : LLOk Try.prog E ll) {fl : List Nat} (hfl : ∀ τ, memN τ fl = true → ∀ x : T τ, (E.enc τ x).all ind0 = true) {f : Nat} {xs : List (AV T)} {ts : List Nat} {v : AV T} (ha : xs.all flt2 = true)
    (h : (runN ct ll fl f xs ts).holds fun x => x = v) : FactN Try.prog E f xs v :=
  factN_of_run good hfl (callX_ok good names mixes hc hl 8) ha h
theorem flZ : ∀ τ, memN τ [47] = true → ∀ x : T τ, (E.enc τ x).all ind0 = true := fun τ h => by
  have := memN_iff.1 h
  obtain rfl : τ = 47 := by simpa using this
  exact fun x => rfl
theorem tv32 (l : List Slug) : runN ctQ (llOfN Try.prog E 32 0 [(3, c32)]) [47] 32 [.sl 47 l false] [36] =
  (.req (((0 : Int) ≤ (0 : Int) ∧ (↑(List.length l) : Int) = (↑(List.length l) : Int)) ∧ List.length l ≤ (100 : Nat) ∧ (↑((0 : Nat)) : Int) ≤ (0 : Int))
  (.req (List.length (plz (List.drop (Int.toNat (0 : Int)) l) []) = List.length (plz (List.drop (Int.toNat (0 : Int)) l) []))
  (.leaf (.sl (47 : Nat) (plz (List.drop (Int.toNat (0 : Int)) l) []) false)))) := by kernel_rfl
theorem tv33 (l : List Slug) : runN ctQ (llOfN Try.prog E 33 0 [(3, c33)]) [47] 33 [.sl 47 l false] [36] =
  (.req ((0 : Int) ≤ (0 : Int) ∧ List.length l ≤ (100 : Nat) ∧ (↑((0 : Nat)) : Int) ≤ (0 : Int))
  (.req (List.length (plz (List.drop (Int.toNat (0 : Int)) l) []) = List.length (plz (List.drop (Int.toNat (0 : Int)) l) []))
  (.leaf (.sl (47 : Nat) (plz (List.drop (Int.toNat (0 : Int)) l) []) false)))) := by kernel_rfl
theorem s32 (l : List Slug) (h : l.length ≤ 100) : (runN ctQ (llOfN Try.prog E 32 0 [(3, c32)]) [47] 32 [.sl 47 l false] [36]).holds fun v => v = .sl 47 (plz l []) false := by
  rw [tv32]
  exact ⟨⟨⟨by decide, rfl⟩, h, by decide⟩, rfl, rfl⟩
theorem s33 (l : List Slug) (h : l.length ≤ 100) : (runN ctQ (llOfN Try.prog E 33 0 [(3, c33)]) [47] 33 [.sl 47 l false] [36]).holds fun v => v = .sl 47 (plz l []) false := by
  rw [tv33]
  exact ⟨⟨by decide, h, by decide⟩, rfl, rfl⟩
noncomputable def cPlz : Con T := conPN Try.prog [.one (.s 47)] [.l 47] (fun d => (d.1 : List Slug).length ≤ 100) fun d => .sl 47 (plz d.1 []) false
theorem plz_ok : ConOk Try.prog E 32 cPlz := conPN_ok fun d hd => factN_run ctQ_ok ll32 flZ (ts := [36]) rfl (s32 d.1 hd)
theorem plz2_ok : ConOk Try.prog E 33 cPlz := conPN_ok fun d hd => factN_run ctQ_ok ll33 flZ (ts := [36]) rfl (s33 d.1 hd)
end Go.Proofs.Ytnhedcaphncliaa.W.Hole
