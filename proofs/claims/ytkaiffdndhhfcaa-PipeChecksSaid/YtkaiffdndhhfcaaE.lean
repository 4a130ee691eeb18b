/- PipeChecks: the reference's joints; lists compared. No condition. -/
import Derived.Test.YtkaiffdndhhfcaaD
set_option linter.unusedVariables false
set_option maxRecDepth 100000
set_option maxHeartbeats 4000000
noncomputable section
namespace Go.Proofs.Ytkaiffdndhhfcaa.W
open Go Go.Cx Go.RowKit
theorem h26i' (r : List Int) (x i n : Int) (l : List Tube) (K : Ex × List (V T) → Prop) (hi : i26 l i x r ∧ (0 ≤ n ∧ n ≤ (ti l i).Count ∧ (ti l i).Count ≤ 400) ∧ (r.length : Int) + ((ti l i).Count - n) ≤ 4000) (hK : K (.exit 2, [.l 2 (it ((ti l i).Count - n).toNat (ti l i).Len r), .n (lst (it ((ti l i).Count - n).toNat (ti l i).Len r)), .n i, .l 26 l])) :
    (bodyD Try.prog E c26i 0 (bodyX Try.prog E ctD noLoops 1000 5 L0 (lpOf Try.prog 26 1)) (r, x, i, n, l, ())).holds fun y => match y with
    | .inl d => ((ti d.2.2.2.2.1 d.2.2.1).Count - d.2.2.2.1).toNat < ((ti l i).Count - n).toNat ∧ (c26i.out d).holds K
    | .inr y => K y := by
  rw [b26i]
  obtain ⟨⟨⟨h0, h1⟩, h2, h3⟩, h4, h5⟩ := hi
  have e2 : IntKind.wrap IntKind.i64 (n + 1) = n + 1 := i64_in' (by omega) (by omega)
  rw [e2]
  refine wayC h0 h1 fun _ _ => way (fun q => ?_) fun q => ⟨rfl, ?_⟩
  · rw [it_step q] at hK
    have hl : (ap (ti l i).Len r).length = r.length + 1 := len_ap
    have hlt : ((ti l i).Count - (n + 1)).toNat < ((ti l i).Count - n).toNat := by omega
    have hx : IntKind.wrap IntKind.i64 (x + (ti l i).Len) = lst (ap (ti l i).Len r) := by rw [h2]; exact lst_ap.symm
    have hr : r ++ [IntKind.wrap IntKind.i64 (x + (ti l i).Len)] = ap (ti l i).Len r := by rw [h2]; rfl
    rw [hr, hx]
    have hin : i26 l i (lst (ap (ti l i).Len r)) (ap (ti l i).Len r) ∧ (0 ≤ n + 1 ∧ n + 1 ≤ (ti l i).Count ∧ (ti l i).Count ≤ 400) ∧ ((ap (ti l i).Len r).length : Int) + ((ti l i).Count - (n + 1)) ≤ 4000 := ⟨⟨⟨h0, h1⟩, rfl, by omega⟩, by omega, by omega⟩
    exact wayC h0 h1 fun _ _ => ⟨rfl, by simp only [List.length_cons, List.length_nil]; omega, rfl, hlt, hin, hK⟩
  · rw [show ((ti l i).Count - n).toNat = 0 by omega] at hK
    rw [h2]
    exact hK
theorem h26i : LoopH Try.prog E c26i 0 (bodyX Try.prog E ctD noLoops 1000 5 L0 (lpOf Try.prog 26 1)) :=
  ⟨fun d => ((ti d.2.2.2.2.1 d.2.2.1).Count - d.2.2.2.1).toNat, fun d K hK => by
    obtain ⟨r, x, i, n, l, ⟨⟩⟩ := d
    refine Tree.holds_mono (fun y hy => ?_) (h26i' r x i n l K hK.1 hK.2)
    cases y with
    | inl d' => exact hy
    | inr y => exact hy⟩
theorem snd26i : LSnd Try.prog E (lpOf Try.prog 26 1) c26i := LSnd.mk good names mixes ctD_ok (by decide) h26i
theorem h26' (r : List Int) (x : Int) (i : Nat) (l : List Tube) (K : Ex × List (V T) → Prop) (hx : x = lst r) (h : inv25 l i r) (hK : K (.exit 0, [.l 2 (jn r (l.drop i))])) :
    (bodyD Try.prog E c26 0 (bodyX Try.prog E ctD noLoops 1000 5 (tabL Try.prog E [(9, c26i)]) (lpOf Try.prog 26 0)) (r, x, (i : Int), l, ())).holds fun y => match y with
    | .inl d => ((d.2.2.2.1.length : Int) - d.2.2.1).toNat < ((l.length : Int) - (i : Int)).toNat ∧ (c26.out d).holds K
    | .inr y => K y := by
  rw [b26]
  obtain ⟨⟨⟨h0, h1⟩, h2⟩, h3, h4⟩ := h
  refine way (fun c => ?_) fun c => ⟨rfl, ?_⟩
  · have e2 : IntKind.wrap IntKind.i64 ((i : Int) + 1) = ((i + 1 : Nat) : Int) := i64_in' (by omega) (by omega)
    rw [e2]
    have hc := tub_cnt (ti_tub c h2)
    rw [jn_cons c] at hK
    have hlt : ((l.length : Int) - ((i + 1 : Nat) : Int)).toNat < ((l.length : Int) - (i : Int)).toNat := by omega
    rw [Int.sub_zero]
    have hl := len_it (ti l i).Count.toNat (ti l i).Len r
    have hin : inv25 l ((i + 1 : Nat) : Int) (it (ti l i).Count.toNat (ti l i).Len r) := ⟨⟨⟨by omega, h1⟩, h2⟩, by omega, by omega⟩
    exact ⟨rfl, ⟨⟨⟨h0, c⟩, hx, h3⟩, ⟨by decide, by omega, by omega⟩, by omega⟩, rfl, hlt, ⟨rfl, hin⟩, hK⟩
  · rw [jn_end c] at hK
    exact hK
theorem h26 : LoopH Try.prog E c26 0 (bodyX Try.prog E ctD noLoops 1000 5 (tabL Try.prog E [(9, c26i)]) (lpOf Try.prog 26 0)) :=
  ⟨fun d => ((d.2.2.2.1.length : Int) - d.2.2.1).toNat, fun d K hK => by
    obtain ⟨r, x, i, l, ⟨⟩⟩ := d
    obtain ⟨⟨k2, k3⟩, k4⟩ := hK
    obtain ⟨q, hq⟩ := Int.eq_ofNat_of_zero_le k3.1.1.1
    obtain rfl : i = (q : Int) := hq
    refine Tree.holds_mono (fun y hy => ?_) (h26' r x q l K k2 k3 k4)
    cases y with
    | inl d' => exact hy
    | inr y => exact hy⟩
theorem in26 : ∀ b' ∈ loopsIn (lpOf Try.prog 26 0), ∀ c', lkL (keyOfC b') [(9, c26i)] = some c' → LSnd Try.prog E b' c' := by
  intro b' hb' c' hc'
  have e : loopsIn (lpOf Try.prog 26 0) = [lpOf Try.prog 26 1] := by kernel_rfl
  rw [e] at hb'
  obtain rfl := List.mem_singleton.1 hb'
  obtain rfl : c26i = c' := Option.some.inj hc'
  exact snd26i
theorem ll26 : LLOk Try.prog E (llOf Try.prog E 26 [(6, c26), (9, c26i)]) := llOf_ok fun i hi c hc => by
  have hi : i < 2 := hi
  have : i = 0 ∨ i = 1 := by omega
  rcases this with rfl | rfl
  · obtain rfl : c26 = c := Option.some.inj hc
    exact LSnd.mk2 good names mixes ctD_ok (by decide) in26 h26
  · obtain rfl : c26i = c := Option.some.inj hc
    exact snd26i
theorem lst_0 : (0 : Int) = lst [0] := by
  have := drop_ni (l := [(0 : Int)]) (i := 0) (by decide)
  exact (List.cons.inj this).1
theorem s26 (l : List Tube) : (runX ctD (llOf Try.prog E 26 [(6, c26), (9, c26i)]) 26 [.agg [.sl 26 l false]] [35]).holds fun v => v = .sl 2 (joS l) false := by
  rw [tv26]
  unfold joS
  refine wayNe (fun c => ?_) fun c => ⟨⟨lst_0, ⟨⟨⟨by decide, (ck_0 c).1⟩, (ck_0 c).2⟩, by decide, by decide⟩⟩, rfl, ?_⟩
  · rw [if_neg c]; rfl
  · rw [if_pos c]; rfl
theorem jo2_ok : ConOk Try.prog E 26 cJo := conV_ok fun d => fact_run ctD_ok ll26 (ts := [35]) rfl (s26 d.1)
/-! ### equal lists -/
theorem same_at {α : Type} {f : List α → Nat → α} (hf : ∀ {l : List α} {i : Nat}, i < l.length → l.drop i = f l i :: l.drop (i + 1)) : ∀ (n : Nat) {l m : List α} {i : Nat}, l.length - i = n → l.length = m.length → i ≤ l.length → (l.drop i = m.drop i ↔ ∀ j, i ≤ j → j < l.length → f l j = f m j)
  | 0, l, m, i, h, hl, hi => by
    rw [List.drop_eq_nil_of_le (by omega), List.drop_eq_nil_of_le (by omega)]
    exact ⟨fun _ j h1 h2 => by omega, fun _ => rfl⟩
  | n + 1, l, m, i, h, hl, hi => by
    have ih := same_at hf n (l := l) (m := m) (i := i + 1) (by omega) hl (by omega)
    rw [hf (l := l) (i := i) (by omega), hf (l := m) (i := i) (by omega), List.cons.injEq, ih]
    constructor
    · intro ⟨h1, h2⟩ j h3 h4
      by_cases q : j = i
      · subst q; exact h1
      · exact h2 j (by omega) h4
    · intro h
      exact ⟨h i (by omega) (by omega), fun j h1 h2 => h j (by omega) h2⟩
noncomputable def o24 (l m : List Int) (i : Int) : Tree (Ex × List (V T)) := .leaf (.ret, [.t true])
noncomputable def c24 : LoopC T := ⟨[.l 2, .l 2, .n], ⟨32, [(0, .one (.s 2)), (1, .one (.s 2)), (5, .one (.i .i64))], []⟩, fun e => match e with
    | .ret => ⟨32, [(4, .one .b)], []⟩
    | _ => ⟨32, [(0, .one (.s 2)), (1, .one (.s 2))], []⟩, 20, fun d => o24 d.1 d.2.1 d.2.2.1⟩
theorem b24 (l m : List Int) (i : Int) : bodyD Try.prog E c24 0 (bodyX Try.prog E ctD noLoops 1000 5 L0 (lpOf Try.prog 24 0)) (l, m, i, ()) =
  (.br (decide (i < (↑(List.length l) : Int)))
   (.br (decide (i < (↑(List.length m) : Int)))
    (.req ((decide ((0 : Int) ≤ i) && decide (i < (↑(List.length l) : Int))) = true)
    (.req ((decide ((0 : Int) ≤ i) && decide (i < (↑(List.length m) : Int))) = true)
    (.br (ni l i != ni m i)
     (.leaf (.inr (.ret, [.t (false)])))
     (.leaf (.inl (l, (m, (IntKind.wrap IntKind.i64 (i + (1 : Int)), ()))))))))
    (.leaf (.inr (.exit (0 : Nat), [.l (2 : Nat) (l), .l (2 : Nat) (m)]))))
   (.leaf (.inr (.exit (0 : Nat), [.l (2 : Nat) (l), .l (2 : Nat) (m)])))) := by kernel_rfl
noncomputable def o29 (i : Int) (l m : List Tube) : Tree (Ex × List (V T)) := .leaf (.ret, [.t true])
noncomputable def c29 : LoopC T := ⟨[.n, .l 26, .l 26], ⟨31, [(2, .one (.o 0 0)), (3, .one (.o 1 0)), (5, .one (.i .i64))], [.c [.s 26], .c [.s 26]]⟩, fun e => match e with
    | .ret => ⟨31, [(4, .one .b)], []⟩
    | _ => ⟨31, [], []⟩, 20, fun d => o29 d.1 d.2.1 d.2.2.1⟩
theorem b29 (i : Int) (l m : List Tube) : bodyD Try.prog E c29 0 (bodyX Try.prog E ctD noLoops 1000 5 L0 (lpOf Try.prog 29 0)) (i, l, m, ()) =
  (.br (decide (i < (↑(List.length l) : Int)))
   (.req ((decide ((0 : Int) ≤ i) && decide (i < (↑(List.length l) : Int))) = true)
   (.req ((decide ((0 : Int) ≤ i) && decide (i < (↑(List.length m) : Int))) = true)
   (.br (!(Tube.Count (ti l i) == Tube.Count (ti m i) && (Tube.Len (ti l i) == Tube.Len (ti m i) && (Tube.Air (ti l i) == Tube.Air (ti m i) && (Tube.Steel (ti l i) == Tube.Steel (ti m i) && (Tube.Out (ti l i) == Tube.Out (ti m i) && (Tube.Yield (ti l i) == Tube.Yield (ti m i) && (Tube.Twist (ti l i) == Tube.Twist (ti m i) && (Tube.Stiff (ti l i) == Tube.Stiff (ti m i) && (Tube.Used (ti l i) == Tube.Used (ti m i) && true))))))))))
    (.leaf (.inr (.ret, [.t (false)])))
    (.leaf (.inl (IntKind.wrap IntKind.i64 (i + (1 : Int)), (l, (m, ()))))))))
   (.leaf (.inr (.exit (0 : Nat), [])))) := by kernel_rfl
noncomputable def o94 (l : List Int) (a b n i : Int) : Tree (Ex × List (V T)) := .leaf (.ret, [.t true])
noncomputable def c94 : LoopC T := ⟨[.l 2, .n, .n, .n, .n], ⟨19, [(0, .one (.s 2)), (1, .fn 66 [.r [.i .i64], .r [.i .i64]]), (7, .one (.i .i64)), (8, .one (.i .i64))], []⟩, fun e => match e with
    | .ret => ⟨19, [(4, .one (.i .i64))], []⟩
    | _ => ⟨19, [], []⟩, 10, fun d => o94 d.1 d.2.1 d.2.2.1 d.2.2.2.1 d.2.2.2.2.1⟩
theorem b94 (l : List Int) (a b n i : Int) : bodyD Try.prog E c94 0 (bodyX Try.prog E ctD noLoops 1000 5 L0 (lpOf Try.prog 94 0)) (l, a, b, n, i, ()) =
  (.br (decide (i < n))
   (.req ((decide ((0 : Int) ≤ i) && decide (i < (↑(List.length l) : Int))) = true)
   (.br (within (ni l i) a b)
    (.leaf (.inr (.ret, [.n (i)])))
    (.leaf (.inl (l, (a, (b, (n, (IntKind.wrap IntKind.i64 (i + (1 : Int)), ())))))))))
   (.leaf (.inr (.exit (0 : Nat), [])))) := by kernel_rfl
noncomputable def c28 : LoopC T := ⟨[.n, .n, .l 2, .n], ⟨24, [(1, .one (.i .i64)), (2, .one (.i .i64)), (7, .one (.s 2)), (8, .one (.i .i64))], []⟩, fun e => match e with
    | .ret => ⟨24, [(6, .one .b)], []⟩
    | _ => ⟨24, [], []⟩, 10, fun d => o94 d.2.2.1 d.1 d.2.1 d.2.2.2.1 d.2.2.2.1⟩
theorem b28 (a b : Int) (l : List Int) (i : Int) : bodyD Try.prog E c28 0 (bodyX Try.prog E ctD noLoops 1000 5 L0 (lpOf Try.prog 28 0)) (a, b, l, i, ()) =
  (.br (decide (i < (↑(List.length l) : Int)))
   (.req ((decide ((0 : Int) ≤ i) && decide (i < (↑(List.length l) : Int))) = true)
   (.br (within (ni l i) a b)
    (.leaf (.inr (.ret, [.t (true)])))
    (.leaf (.inl (a, (b, (l, (IntKind.wrap IntKind.i64 (i + (1 : Int)), ()))))))))
   (.leaf (.inr (.exit (0 : Nat), [])))) := by kernel_rfl
end Go.Proofs.Ytkaiffdndhhfcaa.W
