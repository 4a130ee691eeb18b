/- PipeChecks. No condition. -/
import Derived.Test.YtkaiffdndhhfcaaE
import Derived.Test.YtkaiffdndhhfcaaW
set_option linter.unusedVariables false
set_option maxRecDepth 100000
set_option maxHeartbeats 4000000
noncomputable section
namespace Go.Proofs.Ytkaiffdndhhfcaa.W
open Go Go.Cx Go.RowKit
/-! ### equal lists -/
noncomputable def p24 (l m : List Int) (i : Int) : Tree (Ex × List (V T)) := .req (m = l ∧ 0 ≤ i ∧ l.length ≤ 4100) (.leaf (.exit 0, [.l 2 l, .l 2 m]))
noncomputable def k24 : LoopC T := ⟨[.l 2, .l 2, .n], ⟨32, [(0, .one (.s 2)), (1, .one (.s 2)), (5, .one (.i .i64))], []⟩, fun e => match e with
    | .ret => ⟨32, [(4, .one .b)], []⟩
    | _ => ⟨32, [(0, .one (.s 2)), (1, .one (.s 2))], []⟩, 20, fun d => p24 d.1 d.2.1 d.2.2.1⟩
theorem z24 (l : List Int) (i : Int) : bodyD Try.prog E k24 0 (bodyX Try.prog E ctD noLoops 1000 5 L0 (lpOf Try.prog 24 0)) (l, l, i, ()) =
  (.br (decide (i < (↑(List.length l) : Int)))
   (.br (decide (i < (↑(List.length l) : Int)))
    (.req ((decide ((0 : Int) ≤ i) && decide (i < (↑(List.length l) : Int))) = true)
    (.req ((decide ((0 : Int) ≤ i) && decide (i < (↑(List.length l) : Int))) = true)
    (.br (ni l i != ni l i)
     (.leaf (.inr (.ret, [.t (false)])))
     (.leaf (.inl (l, (l, (IntKind.wrap IntKind.i64 (i + (1 : Int)), ()))))))))
    (.leaf (.inr (.exit (0 : Nat), [.l (2 : Nat) (l), .l (2 : Nat) (l)]))))
   (.leaf (.inr (.exit (0 : Nat), [.l (2 : Nat) (l), .l (2 : Nat) (l)])))) := by kernel_rfl
theorem h24' (l : List Int) (i : Nat) (K : Ex × List (V T) → Prop) (hl : l.length ≤ 4100) (hK : K (.exit 0, [.l 2 l, .l 2 l])) :
    (bodyD Try.prog E k24 0 (bodyX Try.prog E ctD noLoops 1000 5 L0 (lpOf Try.prog 24 0)) (l, l, (i : Int), ())).holds fun y => match y with
    | .inl d => ((d.1.length : Int) - d.2.2.1).toNat < ((l.length : Int) - (i : Int)).toNat ∧ (k24.out d).holds K
    | .inr y => K y := by
  rw [z24]
  refine way (fun c => way (fun _ => wayC (by omega) c fun _ _ => wayC (by omega) c fun _ _ => ?_) fun q => absurd c q) fun c => hK
  have e2 : IntKind.wrap IntKind.i64 ((i : Int) + 1) = ((i + 1 : Nat) : Int) := i64_in' (by omega) (by omega)
  rw [e2]
  have hlt : ((l.length : Int) - ((i + 1 : Nat) : Int)).toNat < ((l.length : Int) - (i : Int)).toNat := by omega
  have h3 : (0 : Int) ≤ ((i + 1 : Nat) : Int) := by omega
  exact wayNe (fun q => absurd rfl q) fun _ => ⟨hlt, ⟨rfl, h3, hl⟩, hK⟩
theorem h24 : LoopH Try.prog E k24 0 (bodyX Try.prog E ctD noLoops 1000 5 L0 (lpOf Try.prog 24 0)) :=
  ⟨fun d => ((d.1.length : Int) - d.2.2.1).toNat, fun d K hK => by
    obtain ⟨l, m, i, ⟨⟩⟩ := d
    obtain ⟨⟨k1, k2, k3⟩, k4⟩ := hK
    obtain rfl : m = l := k1
    obtain ⟨q, hq⟩ := Int.eq_ofNat_of_zero_le k2
    obtain rfl : i = (q : Int) := hq
    refine Tree.holds_mono (fun y hy => ?_) (h24' m q K k3 k4)
    cases y with
    | inl d' => exact hy
    | inr y => exact hy⟩
theorem ll24 : LLOk Try.prog E (llOf Try.prog E 24 [(2, k24)]) := llOf_ok fun i hi c hc => by
  have hi : i < 1 := hi
  obtain rfl : i = 0 := by omega
  obtain rfl : k24 = c := Option.some.inj hc
  exact LSnd.mk good names mixes ctD_ok (by decide) h24
theorem tv24 (l m : List Int) : runX ctD (llOf Try.prog E 24 [(2, k24)]) 24 [.sl 2 l false, .sl 2 m false] [4] =
  (.req (m = l ∧ (0 : Int) ≤ (0 : Int) ∧ List.length l ≤ (4100 : Nat))
  (.leaf (.bool ((↑(List.length l) : Int) == (↑(List.length m) : Int))))) := by kernel_rfl
theorem s24 (l m : List Int) (h : m = l ∧ l.length ≤ 4100) : (runX ctD (llOf Try.prog E 24 [(2, k24)]) 24 [.sl 2 l false, .sl 2 m false] [4]).holds fun v => v = .bool true := by
  rw [tv24]
  obtain ⟨rfl, h⟩ := h
  exact ⟨⟨rfl, by decide, h⟩, congrArg AV.bool (by simp)⟩
noncomputable def cSame : Con T := conP Try.prog [.one (.s 2), .one (.s 2)] [.l 2, .l 2] (fun d => (d.2.1 : List Int) = (d.1 : List Int) ∧ (d.1 : List Int).length ≤ 4100) fun _ => .bool true
theorem same_ok : ConOk Try.prog E 24 cSame := conP_ok fun d hd => fact_run ctD_ok ll24 (ts := [4]) rfl (s24 d.1 d.2.1 hd)
noncomputable def p29 (i : Int) (l m : List Tube) : Tree (Ex × List (V T)) := .req (m = l ∧ 0 ≤ i ∧ l.length ≤ 4100) (.leaf (.exit 0, []))
noncomputable def k29 : LoopC T := ⟨[.n, .l 26, .l 26], ⟨31, [(2, .one (.o 0 0)), (3, .one (.o 1 0)), (5, .one (.i .i64))], [.c [.s 26], .c [.s 26]]⟩, fun e => match e with
    | .ret => ⟨31, [(4, .one .b)], []⟩
    | _ => ⟨31, [], []⟩, 20, fun d => p29 d.1 d.2.1 d.2.2.1⟩
theorem z29 (i : Int) (l : List Tube) : bodyD Try.prog E k29 0 (bodyX Try.prog E ctD noLoops 1000 5 L0 (lpOf Try.prog 29 0)) (i, l, l, ()) =
  (.br (decide (i < (↑(List.length l) : Int)))
   (.req ((decide ((0 : Int) ≤ i) && decide (i < (↑(List.length l) : Int))) = true)
   (.req ((decide ((0 : Int) ≤ i) && decide (i < (↑(List.length l) : Int))) = true)
   (.br (!(Tube.Count (ti l i) == Tube.Count (ti l i) && (Tube.Len (ti l i) == Tube.Len (ti l i) && (Tube.Air (ti l i) == Tube.Air (ti l i) && (Tube.Steel (ti l i) == Tube.Steel (ti l i) && (Tube.Out (ti l i) == Tube.Out (ti l i) && (Tube.Yield (ti l i) == Tube.Yield (ti l i) && (Tube.Twist (ti l i) == Tube.Twist (ti l i) && (Tube.Stiff (ti l i) == Tube.Stiff (ti l i) && (Tube.Used (ti l i) == Tube.Used (ti l i) && true))))))))))
    (.leaf (.inr (.ret, [.t (false)])))
    (.leaf (.inl (IntKind.wrap IntKind.i64 (i + (1 : Int)), (l, (l, ()))))))))
   (.leaf (.inr (.exit (0 : Nat), [])))) := by kernel_rfl
theorem h29' (l : List Tube) (i : Nat) (K : Ex × List (V T) → Prop) (hl : l.length ≤ 4100) (hK : K (.exit 0, [])) :
    (bodyD Try.prog E k29 0 (bodyX Try.prog E ctD noLoops 1000 5 L0 (lpOf Try.prog 29 0)) ((i : Int), l, l, ())).holds fun y => match y with
    | .inl d => ((d.2.1.length : Int) - d.1).toNat < ((l.length : Int) - (i : Int)).toNat ∧ (k29.out d).holds K
    | .inr y => K y := by
  rw [z29]
  refine way (fun c => wayC (by omega) c fun _ _ => wayC (by omega) c fun _ _ => ?_) fun c => hK
  have e2 : IntKind.wrap IntKind.i64 ((i : Int) + 1) = ((i + 1 : Nat) : Int) := i64_in' (by omega) (by omega)
  rw [e2]
  have hlt : ((l.length : Int) - ((i + 1 : Nat) : Int)).toNat < ((l.length : Int) - (i : Int)).toNat := by omega
  have h3 : (0 : Int) ≤ ((i + 1 : Nat) : Int) := by omega
  refine wayB (fun q => ?_) fun _ => ⟨hlt, ⟨rfl, h3, hl⟩, hK⟩
  simp at q
theorem h29 : LoopH Try.prog E k29 0 (bodyX Try.prog E ctD noLoops 1000 5 L0 (lpOf Try.prog 29 0)) :=
  ⟨fun d => ((d.2.1.length : Int) - d.1).toNat, fun d K hK => by
    obtain ⟨i, l, m, ⟨⟩⟩ := d
    obtain ⟨⟨k1, k2, k3⟩, k4⟩ := hK
    obtain rfl : m = l := k1
    obtain ⟨q, hq⟩ := Int.eq_ofNat_of_zero_le k2
    obtain rfl : i = (q : Int) := hq
    refine Tree.holds_mono (fun y hy => ?_) (h29' m q K k3 k4)
    cases y with
    | inl d' => exact hy
    | inr y => exact hy⟩
theorem ll29 : LLOk Try.prog E (llOf Try.prog E 29 [(4, k29)]) := llOf_ok fun i hi c hc => by
  have hi : i < 1 := hi
  obtain rfl : i = 0 := by omega
  obtain rfl : k29 = c := Option.some.inj hc
  exact LSnd.mk good names mixes ctD_ok (by decide) h29
theorem tv29 (l m : List Tube) : runX ctD (llOf Try.prog E 29 [(4, k29)]) 29 [.agg [.sl 26 l false], .agg [.sl 26 m false]] [4] =
  (.br ((↑(List.length l) : Int) != (↑(List.length m) : Int))
   (.leaf (.bool (false)))
   (.req (m = l ∧ (0 : Int) ≤ (0 : Int) ∧ List.length l ≤ (4100 : Nat))
   (.leaf (.bool (true))))) := by kernel_rfl
theorem s29 (l m : List Tube) (h : m = l ∧ l.length ≤ 4100) : (runX ctD (llOf Try.prog E 29 [(4, k29)]) 29 [.agg [.sl 26 l false], .agg [.sl 26 m false]] [4]).holds fun v => v = .bool true := by
  rw [tv29]
  obtain ⟨rfl, h⟩ := h
  exact wayNe (fun q => absurd rfl q) fun _ => ⟨⟨rfl, by decide, h⟩, rfl⟩
noncomputable def cSameT : Con T := conP Try.prog [.agg [.s 26], .agg [.s 26]] [.l 26, .l 26] (fun d => (d.2.1 : List Tube) = (d.1 : List Tube) ∧ (d.1 : List Tube).length ≤ 4100) fun _ => .bool true
theorem sameT_ok : ConOk Try.prog E 29 cSameT := conP_ok fun d hd => fact_run ctD_ok ll29 (ts := [4]) rfl (s29 d.1 d.2.1 hd)
/-! ### near -/
noncomputable def fi (p : Int → Bool) : List Int → Int → Int
  | [], _ => -1
  | x :: l, i => if p x = true then i else fi p l (i + 1)
theorem fi_cons {p : Int → Bool} {x : Int} {l : List Int} {i : Int} : fi p (x :: l) i = if p x = true then i else fi p l (i + 1) := rfl
theorem fi_any {p : Int → Bool} : ∀ {l : List Int} {i : Int}, 0 ≤ i → decide (fi p l i ≥ 0) = l.any p
  | [], i, h => rfl
  | x :: l, i, h => by
    rw [fi_cons, List.any_cons]
    cases hx : p x with
    | true => rw [if_pos rfl]; simpa using h
    | false => rw [if_neg (by simp), Bool.false_or]; exact fi_any (by omega)
@[reducible] noncomputable def nr (a b : Int) (x : Int) : Bool := within x a b
noncomputable def p94 (l : List Int) (a b n i : Int) : Tree (Ex × List (V T)) := .req ((0 ≤ i ∧ n = l.length) ∧ l.length ≤ 4100) (.br (decide (fi (nr a b) (l.drop i.toNat) i ≥ 0)) (.leaf (.ret, [.n (fi (nr a b) (l.drop i.toNat) i)])) (.leaf (.exit 0, [])))
noncomputable def k94 : LoopC T := ⟨[.l 2, .n, .n, .n, .n], ⟨19, [(0, .one (.s 2)), (1, .fn 66 [.r [.i .i64], .r [.i .i64]]), (7, .one (.i .i64)), (8, .one (.i .i64))], []⟩, fun e => match e with
    | .ret => ⟨19, [(4, .one (.i .i64))], []⟩
    | _ => ⟨19, [], []⟩, 10, fun d => p94 d.1 d.2.1 d.2.2.1 d.2.2.2.1 d.2.2.2.2.1⟩
theorem z94 (l : List Int) (a b n i : Int) : bodyD Try.prog E k94 0 (bodyX Try.prog E ctD noLoops 1000 5 L0 (lpOf Try.prog 94 0)) (l, a, b, n, i, ()) =
  (.br (decide (i < n))
   (.req ((decide ((0 : Int) ≤ i) && decide (i < (↑(List.length l) : Int))) = true)
   (.br (within (ni l i) a b)
    (.leaf (.inr (.ret, [.n (i)])))
    (.leaf (.inl (l, (a, (b, (n, (IntKind.wrap IntKind.i64 (i + (1 : Int)), ())))))))))
   (.leaf (.inr (.exit (0 : Nat), [])))) := by kernel_rfl
theorem h94' (l : List Int) (a b : Int) (i : Nat) (K : Ex × List (V T) → Prop) (hl : l.length ≤ 4100) (hK : (Tree.br (decide (fi (nr a b) (l.drop i) i ≥ 0)) (.leaf (.ret, [.n (fi (nr a b) (l.drop i) i)])) (.leaf (.exit 0, [])) : Tree (Ex × List (V T))).holds K) :
    (bodyD Try.prog E k94 0 (bodyX Try.prog E ctD noLoops 1000 5 L0 (lpOf Try.prog 94 0)) (l, a, b, (l.length : Int), (i : Int), ())).holds fun y => match y with
    | .inl d => ((d.1.length : Int) - d.2.2.2.2.1).toNat < ((l.length : Int) - (i : Int)).toNat ∧ (k94.out d).holds K
    | .inr y => K y := by
  rw [z94]
  refine way (fun c => wayC (by omega) c fun _ _ => ?_) fun c => ?_
  · have e2 : IntKind.wrap IntKind.i64 ((i : Int) + 1) = ((i + 1 : Nat) : Int) := i64_in' (by omega) (by omega)
    rw [e2]
    rw [drop_ni (by omega), fi_cons] at hK
    have hlt : ((l.length : Int) - ((i + 1 : Nat) : Int)).toNat < ((l.length : Int) - (i : Int)).toNat := by omega
    have h3 : (0 : Int) ≤ ((i + 1 : Nat) : Int) := by omega
    refine wayB (fun q => ?_) fun q => ?_
    · rw [if_pos q] at hK
      exact hK.1 (decide_eq_true (by omega))
    · rw [if_neg (by rw [show nr a b (ni l i) = false from q]; decide)] at hK
      exact ⟨hlt, ⟨⟨h3, rfl⟩, hl⟩, hK⟩
  · rw [List.drop_eq_nil_of_le (by omega)] at hK
    exact hK.2 (decide_eq_false (show ¬ (-1 : Int) ≥ 0 by decide))
theorem h94 : LoopH Try.prog E k94 0 (bodyX Try.prog E ctD noLoops 1000 5 L0 (lpOf Try.prog 94 0)) :=
  ⟨fun d => ((d.1.length : Int) - d.2.2.2.2.1).toNat, fun d K hK => by
    obtain ⟨l, a, b, n, i, ⟨⟩⟩ := d
    obtain ⟨⟨⟨k1, k2⟩, k3⟩, k4⟩ := hK
    obtain ⟨q, hq⟩ := Int.eq_ofNat_of_zero_le k1
    obtain rfl : i = (q : Int) := hq
    obtain rfl : n = ((l : List Int).length : Int) := k2
    refine Tree.holds_mono (fun y hy => ?_) (h94' l a b q K k3 k4)
    cases y with
    | inl d' => exact hy
    | inr y => exact hy⟩
theorem ll94 : LLOk Try.prog E (llOf Try.prog E 94 [(2, k94)]) := llOf_ok fun i hi c hc => by
  have hi : i < 1 := hi
  obtain rfl : i = 0 := by omega
  obtain rfl : k94 = c := Option.some.inj hc
  exact LSnd.mk good names mixes ctD_ok (by decide) h94
theorem tv94 (l : List Int) (a b : Int) : runX ctD (llOf Try.prog E 94 [(2, k94)]) 94 [.sl 2 l false, .fn 66 [.rp [i64 a], .rp [i64 b]]] [3] =
  (.req (((0 : Int) ≤ (0 : Int) ∧ (↑(List.length l) : Int) = (↑(List.length l) : Int)) ∧ List.length l ≤ (4100 : Nat))
  (.br (decide (fi (nr a b) (List.drop (Int.toNat (0 : Int)) l) (0 : Int) ≥ (0 : Int)))
   (.leaf (.sym .i64 (fi (nr a b) (List.drop (Int.toNat (0 : Int)) l) (0 : Int))))
   (.leaf (.sym .i64 ((-1 : Int)))))) := by kernel_rfl
theorem fi_no {p : Int → Bool} : ∀ (l : List Int) (i : Int), ¬ fi p l i ≥ 0 → 0 ≤ i → -1 = fi p l i
  | [], _, _, _ => rfl
  | x :: l, i, h, hi => by
    rw [fi_cons] at h ⊢
    split
    · rename_i e; rw [if_pos e] at h; omega
    · rename_i e; rw [if_neg e] at h; exact fi_no l _ h (by omega)
theorem s94 (l : List Int) (a b : Int) (h : l.length ≤ 4100) : (runX ctD (llOf Try.prog E 94 [(2, k94)]) 94 [.sl 2 l false, .fn 66 [.rp [i64 a], .rp [i64 b]]] [3]).holds fun v => v = i64 (fi (nr a b) l 0) := by
  rw [tv94]
  exact ⟨⟨⟨by decide, rfl⟩, h⟩, way (fun k => rfl) fun k => congrArg i64 (fi_no l 0 k (by decide))⟩
noncomputable def cIdx : Con T := conFP Try.prog E [35, 99] [.one (.s 2), .fn 66 [.r [.i .i64], .r [.i .i64]]] [.l 2, .n, .n] (fun d => (d.1 : List Int).length ≤ 4100) fun d => i64 (fi (nr d.2.1 d.2.2.1) d.1 0)
theorem idx_ok : ConOk Try.prog E 94 cIdx := conFP_ok good decOk fun d hd => fact_run3 ctD_ok ll94 (ts := [3]) rfl (s94 d.1 d.2.1 d.2.2.1 hd)
noncomputable def ctI : CTab T := [(94, cIdx)]
theorem ctI_ok : CTabOk Try.prog E ctI := .cons idx_ok .nil
theorem tv65 (l : List Int) (a b : Int) : runX ctI noLoops 65 [.sl 2 l false, .fn 66 [.rp [i64 a], .rp [i64 b]]] [4] =
  (.req (List.length l ≤ (4100 : Nat))
  (.leaf (.bool (decide (fi (nr a b) l (0 : Int) ≥ (0 : Int)))))) := by kernel_rfl
theorem s65 (l : List Int) (a b : Int) (h : l.length ≤ 4100) : (runX ctI noLoops 65 [.sl 2 l false, .fn 66 [.rp [i64 a], .rp [i64 b]]] [4]).holds fun v => v = .bool (l.any (nr a b)) := by
  rw [tv65]
  exact ⟨h, congrArg AV.bool (fi_any (by decide))⟩
noncomputable def cAny : Con T := conFP Try.prog E [35, 99] [.one (.s 2), .fn 66 [.r [.i .i64], .r [.i .i64]]] [.l 2, .n, .n] (fun d => (d.1 : List Int).length ≤ 4100) fun d => .bool ((d.1 : List Int).any (nr d.2.1 d.2.2.1))
theorem any_ok : ConOk Try.prog E 65 cAny := conFP_ok good decOk fun d hd => fact_run3 ctI_ok noLoops_ok (ts := [4]) rfl (s65 d.1 d.2.1 d.2.2.1 hd)
noncomputable def p28 (a b : Int) (l : List Int) (i : Int) : Tree (Ex × List (V T)) := .req (0 ≤ i ∧ l.length ≤ 4100) (.br ((l.drop i.toNat).any (nr a b)) (.leaf (.ret, [.t true])) (.leaf (.exit 0, [])))
noncomputable def k28 : LoopC T := ⟨[.n, .n, .l 2, .n], ⟨24, [(1, .one (.i .i64)), (2, .one (.i .i64)), (7, .one (.s 2)), (8, .one (.i .i64))], []⟩, fun e => match e with
    | .ret => ⟨24, [(6, .one .b)], []⟩
    | _ => ⟨24, [], []⟩, 10, fun d => p28 d.1 d.2.1 d.2.2.1 d.2.2.2.1⟩
theorem z28 (a b : Int) (l : List Int) (i : Int) : bodyD Try.prog E k28 0 (bodyX Try.prog E ctD noLoops 1000 5 L0 (lpOf Try.prog 28 0)) (a, b, l, i, ()) =
  (.br (decide (i < (↑(List.length l) : Int)))
   (.req ((decide ((0 : Int) ≤ i) && decide (i < (↑(List.length l) : Int))) = true)
   (.br (within (ni l i) a b)
    (.leaf (.inr (.ret, [.t (true)])))
    (.leaf (.inl (a, (b, (l, (IntKind.wrap IntKind.i64 (i + (1 : Int)), ()))))))))
   (.leaf (.inr (.exit (0 : Nat), [])))) := by kernel_rfl
theorem h28' (a b : Int) (l : List Int) (i : Nat) (K : Ex × List (V T) → Prop) (hl : l.length ≤ 4100) (hK : (Tree.br ((l.drop i).any (nr a b)) (.leaf (.ret, [.t true])) (.leaf (.exit 0, [])) : Tree (Ex × List (V T))).holds K) :
    (bodyD Try.prog E k28 0 (bodyX Try.prog E ctD noLoops 1000 5 L0 (lpOf Try.prog 28 0)) (a, b, l, (i : Int), ())).holds fun y => match y with
    | .inl d => ((d.2.2.1.length : Int) - d.2.2.2.1).toNat < ((l.length : Int) - (i : Int)).toNat ∧ (k28.out d).holds K
    | .inr y => K y := by
  rw [z28]
  refine way (fun c => wayC (by omega) c fun _ _ => ?_) fun c => ?_
  · have e2 : IntKind.wrap IntKind.i64 ((i : Int) + 1) = ((i + 1 : Nat) : Int) := i64_in' (by omega) (by omega)
    rw [e2]
    rw [drop_ni (by omega), List.any_cons] at hK
    have hlt : ((l.length : Int) - ((i + 1 : Nat) : Int)).toNat < ((l.length : Int) - (i : Int)).toNat := by omega
    have h3 : (0 : Int) ≤ ((i + 1 : Nat) : Int) := by omega
    refine wayB (fun q => ?_) fun q => ?_
    · rw [show nr a b (ni l i) = true from q, Bool.true_or] at hK
      exact hK.1 rfl
    · rw [show nr a b (ni l i) = false from q, Bool.false_or] at hK
      exact ⟨hlt, ⟨h3, hl⟩, hK⟩
  · rw [List.drop_eq_nil_of_le (by omega)] at hK
    exact hK.2 rfl
theorem h28 : LoopH Try.prog E k28 0 (bodyX Try.prog E ctD noLoops 1000 5 L0 (lpOf Try.prog 28 0)) :=
  ⟨fun d => ((d.2.2.1.length : Int) - d.2.2.2.1).toNat, fun d K hK => by
    obtain ⟨a, b, l, i, ⟨⟩⟩ := d
    obtain ⟨⟨k1, k3⟩, k4⟩ := hK
    obtain ⟨q, hq⟩ := Int.eq_ofNat_of_zero_le k1
    obtain rfl : i = (q : Int) := hq
    refine Tree.holds_mono (fun y hy => ?_) (h28' a b l q K k3 k4)
    cases y with
    | inl d' => exact hy
    | inr y => exact hy⟩
theorem ll28 : LLOk Try.prog E (llOf Try.prog E 28 [(3, k28)]) := llOf_ok fun i hi c hc => by
  have hi : i < 1 := hi
  obtain rfl : i = 0 := by omega
  obtain rfl : k28 = c := Option.some.inj hc
  exact LSnd.mk good names mixes ctD_ok (by decide) h28
noncomputable def ctN : CTab T := (65, cAny) :: (25, cJo) :: (26, cJo) :: ctD
theorem ctN_ok : CTabOk Try.prog E ctN := .cons any_ok (.cons jo_ok (.cons jo2_ok ctD_ok))
theorem tv27 (l : List Tube) (a b : Int) : runX ctN noLoops 27 [.agg [.sl 26 l false], i64 a, i64 b] [4] =
  (.req (List.length (joS l) ≤ (4100 : Nat))
  (.leaf (.bool (List.any (joS l) (nr a b))))) := by kernel_rfl
theorem tv28 (l : List Tube) (a b : Int) : runX ctN (llOf Try.prog E 28 [(3, k28)]) 28 [.agg [.sl 26 l false], i64 a, i64 b] [4] =
  (.req ((0 : Int) ≤ (0 : Int) ∧ List.length (joS l) ≤ (4100 : Nat))
  (.br (List.any (List.drop (Int.toNat (0 : Int)) (joS l)) (nr a b))
   (.leaf (.bool (true)))
   (.leaf (.bool (false))))) := by kernel_rfl
theorem tv15 (l : List Tube) : runX [] noLoops 15 [.agg [.sl 26 l false]] [24] =
  (.req ((0 : Nat) + List.length l ≤ (1073741824 : Nat))
  (.req (List.length ([] ++ l) = List.length ([] ++ l))
  (.leaf (.agg [.sl (26 : Nat) ([] ++ l) false])))) := by kernel_rfl
theorem len_jn : ∀ (l : List Tube) (r : List Int), l.all tub = true → (jn r l).length ≤ r.length + 400 * l.length
  | [], _, _ => Nat.le_refl _
  | t :: l, r, h => by
    rw [List.all_cons, Bool.and_eq_true] at h
    have h1 := tub_cnt h.1
    have h2 := len_jn l (it t.Count.toNat t.Len r) h.2
    rw [len_it] at h2
    show (jn (it t.Count.toNat t.Len r) l).length ≤ r.length + 400 * (l.length + 1)
    omega
theorem len_jo (l : List Tube) : (joS l).length ≤ 4100 := by
  unfold joS
  split
  · rename_i c
    have := len_jn l [0] (ck_0 c).2
    have := (ck_0 c).1
    simp only [List.length_cons, List.length_nil] at *
    omega
  · simp
theorem s27 (l : List Tube) (a b : Int) : (runX ctN noLoops 27 [.agg [.sl 26 l false], i64 a, i64 b] [4]).holds fun v => v = .bool ((joS l).any (nr a b)) := by
  rw [tv27]
  exact ⟨len_jo l, rfl⟩
theorem s28 (l : List Tube) (a b : Int) : (runX ctN (llOf Try.prog E 28 [(3, k28)]) 28 [.agg [.sl 26 l false], i64 a, i64 b] [4]).holds fun v => v = .bool ((joS l).any (nr a b)) := by
  rw [tv28]
  refine ⟨⟨by decide, len_jo l⟩, wayB (fun q => ?_) fun q => ?_⟩
  · rw [show (joS l).any (nr a b) = true from q]; rfl
  · rw [show (joS l).any (nr a b) = false from q]; rfl
noncomputable def cNear : Con T := conV Try.prog [.agg [.s 26], .one (.i .i64), .one (.i .i64)] [.l 26, .n, .n] fun d => .bool ((joS d.1).any (nr d.2.1 d.2.2.1))
theorem near_ok : ConOk Try.prog E 27 cNear := conV_ok fun d => fact_run ctN_ok noLoops_ok (ts := [4]) rfl (s27 d.1 d.2.1 d.2.2.1)
theorem near2_ok : ConOk Try.prog E 28 cNear := conV_ok fun d => fact_run ctN_ok ll28 (ts := [4]) rfl (s28 d.1 d.2.1 d.2.2.1)
theorem s15 (l : List Tube) (h : l.length ≤ 10) : (runX [] noLoops 15 [.agg [.sl 26 l false]] [24]).holds fun v => v = .agg [.sl 26 l false] := by
  rw [tv15]
  exact ⟨by omega, rfl, rfl⟩
noncomputable def cOwn : Con T := conP Try.prog [.agg [.s 26]] [.l 26] (fun d => (d.1 : List Tube).length ≤ 10) fun d => .agg [.sl 26 d.1 false]
theorem own_ok : ConOk Try.prog E 15 cOwn := conP_ok fun d hd => fact_run .nil noLoops_ok (ts := [24]) rfl (s15 d.1 hd)
noncomputable def lnS (l : List Tube) : Int := if ckS l = 0 then len l else 0
theorem tv18 (l : List Tube) : runX ctD noLoops 18 [.agg [.sl 26 l false]] [2] =
  (.br (ckS l != (0 : Int))
   (.leaf (.sym .i64 ((0 : Int))))
   (.req (List.length l ≤ (1000 : Nat))
   (.leaf (.sym .i64 (len l))))) := by kernel_rfl
theorem tv19 (l : List Tube) : runX ctD noLoops 19 [.agg [.sl 26 l false]] [2] =
  (.br (ckS l != (0 : Int))
   (.leaf (.sym .i64 ((0 : Int))))
   (.req (List.length l ≤ (1000 : Nat))
   (.leaf (.sym .i64 (len l))))) := by kernel_rfl
theorem ln_t {l : List Tube} : (Tree.br (ckS l != (0 : Int)) (.leaf (i64 0)) (.req (l.length ≤ 1000) (.leaf (i64 (len l)))) : Tree (AV T)).holds fun v => v = i64 (lnS l) := by
  unfold lnS
  refine wayNe (fun c => ?_) fun c => ⟨by have := (ck_0 c).1; omega, ?_⟩
  · rw [if_neg c]; rfl
  · rw [if_pos c]; rfl
noncomputable def cLn : Con T := conV Try.prog [.agg [.s 26]] [.l 26] fun d => i64 (lnS d.1)
theorem s18 (l : List Tube) : (runX ctD noLoops 18 [.agg [.sl 26 l false]] [2]).holds fun v => v = i64 (lnS l) := by
  rw [tv18]; exact ln_t
theorem s19 (l : List Tube) : (runX ctD noLoops 19 [.agg [.sl 26 l false]] [2]).holds fun v => v = i64 (lnS l) := by
  rw [tv19]; exact ln_t
theorem ln_ok : ConOk Try.prog E 18 cLn := conV_ok fun d => fact_run ctD_ok noLoops_ok (ts := [2]) rfl (s18 d.1)
theorem ln2_ok : ConOk Try.prog E 19 cLn := conV_ok fun d => fact_run ctD_ok noLoops_ok (ts := [2]) rfl (s19 d.1)
noncomputable def ctU : CTab T := (20, cWt) :: (21, cWt) :: (24, cSame) :: (29, cSameT) :: (27, cNear) :: (28, cNear) :: (15, cOwn) :: (18, cLn) :: (19, cLn) :: (14, cAwake) :: ctN
theorem ctU_ok : CTabOk Try.prog E ctU := .cons wt_ok (.cons wt2_ok (.cons same_ok (.cons sameT_ok (.cons near_ok (.cons near2_ok (.cons own_ok (.cons ln_ok (.cons ln2_ok (.cons awake_ok ctN_ok)))))))))
theorem tv3 (l : List Tube) (t : Tube) (m x y : Int) : runX ctU noLoops 3 [.agg [.sl 26 l false], avT t, i64 m, i64 x, i64 y] [4] =
  (.br (decide ((↑(List.length l) : Int) > (10 : Int)))
   (.leaf (.bool (true)))
   (.req (List.length l ≤ (10 : Nat))
   (.br (ckS l != ckS l)
    (.leaf (.bool (false)))
    (.br (lnS l != lnS l)
     (.leaf (.bool (false)))
     (.br (wtS l m != wtS l m)
      (.leaf (.bool (false)))
      (.br (wet (Tube.mk (Tube.Count t) (Tube.Len t) (Tube.Air t) (Tube.Steel t) (Tube.Out t) (Tube.Yield t) (Tube.Twist t) (Tube.Stiff t) (Tube.Used t)) m != wet (Tube.mk (Tube.Count t) (Tube.Len t) (Tube.Air t) (Tube.Steel t) (Tube.Out t) (Tube.Yield t) (Tube.Twist t) (Tube.Stiff t) (Tube.Used t)) m)
       (.leaf (.bool (false)))
       (.req (joS l = joS l ∧ List.length (joS l) ≤ (4100 : Nat))
       (.br (true)
        (.br (List.any (joS l) (nr x y) == List.any (joS l) (nr x y))
         (.req (l = l ∧ List.length l ≤ (4100 : Nat))
         (.br (true)
          (.leaf (.bool (true)))
          (.leaf (.bool (false)))))
         (.leaf (.bool (false))))
        (.leaf (.bool (false))))))))))) := by kernel_rfl
theorem s3 (l : List Tube) (t : Tube) (m x y : Int) : (runX ctU noLoops 3 [.agg [.sl 26 l false], avT t, i64 m, i64 x, i64 y] [4]).holds fun v => v = .bool true := by
  rw [tv3]
  have be : ∀ b : Bool, (b == b) = true := by decide
  refine way (fun _ => rfl) fun h => ⟨by omega, wayNe (fun q => absurd rfl q) fun _ => wayNe (fun q => absurd rfl q) fun _ => wayNe (fun q => absurd rfl q) fun _ => wayNe (fun q => absurd rfl q) fun _ => ⟨⟨rfl, len_jo l⟩, wayB (fun _ => wayB (fun _ => ⟨⟨rfl, by omega⟩, wayB (fun _ => rfl) fun q => absurd q (by decide)⟩) fun q => ?_) fun q => absurd q (by decide)⟩⟩
  rw [be] at q; exact absurd q (by decide)
end Go.Proofs.Ytkaiffdndhhfcaa.W
