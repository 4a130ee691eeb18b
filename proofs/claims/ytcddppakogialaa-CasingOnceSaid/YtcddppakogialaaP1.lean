/- CasingProves: what tests have proven. No condition. -/
import Derived.Test.YtcddppakogialaaW1
import Derived.Test.YtcddppakogialaaW
set_option linter.unusedVariables false
set_option maxRecDepth 100000
noncomputable section
namespace Go.Proofs.Ytcddppakogialaa.W
open Go Go.Cx Go.RowKit
noncomputable def ti (l : List Test) (i : Int) : Test := ixD E 70 l i
theorem drop_ti {l : List Test} {i : Nat} (h : i < l.length) : l.drop i = ti l i :: l.drop (i + 1) := drop_ix (E := E) (τ := 70) h
noncomputable def fi (p : Test → Bool) : List Test → Int → Int
  | [], _ => -1
  | x :: l, i => if p x = true then i else fi p l (i + 1)
theorem fi_cons {p : Test → Bool} {x : Test} {l : List Test} {i : Int} : fi p (x :: l) i = if p x = true then i else fi p l (i + 1) := rfl
theorem fi_nil {p : Test → Bool} {i : Int} : fi p [] i = -1 := rfl
theorem fi_any {p : Test → Bool} : ∀ {l : List Test} {i : Int}, 0 ≤ i → decide (fi p l i ≥ 0) = l.any p
  | [], i, h => rfl
  | x :: l, i, h => by
    rw [fi_cons, List.any_cons]
    cases hx : p x with
    | true => rw [if_pos rfl]; simpa using h
    | false => rw [if_neg (by simp), Bool.false_or]; exact fi_any (by omega)
/-- A test that did not hold, from a good one on until now. -/
noncomputable def und (g n : Int) (t : Test) : Bool := !t.Held && (decide (g ≤ t.Tick) && decide (t.Tick ≤ n))
noncomputable def recent (t n a : Int) : Bool := decide (t ≤ n) && decide (IntKind.wrap IntKind.u64 (IntKind.wrap IntKind.u64 n - IntKind.wrap IntKind.u64 t) ≤ IntKind.wrap IntKind.u64 a)
noncomputable def goodT (n need age : Int) (l : List Test) (t : Test) : Bool := t.Held && (decide (t.P ≥ need) && (recent t.Tick n age && !l.any (und t.Tick n)))
noncomputable def ctW1 : CTab T := [(61, cWithin)]
theorem ctW1_ok : CTabOk Try.prog E ctW1 := .cons within_ok .nil

/-! ### closure 93 -/
noncomputable def o11693 (l : List Test) (gp : Int) (gh : Bool) (gt now : Int) (n i : Int) : Tree (Ex × List (V T)) :=
  .req ((0 ≤ i ∧ n = l.length) ∧ l.length ≤ 1000) (.br (decide (fi (und gt now) (l.drop i.toNat) i ≥ 0)) (.leaf (.ret, [.n (fi (und gt now) (l.drop i.toNat) i)])) (.leaf (.exit 0, [])))
noncomputable def c11693 : LoopC T := ⟨[.l 70, .n, .t, .n, .n, .n, .n], ⟨19, [(0, .one (.s 70)), (1, .fn 93 [.r [.i .i64, .b, .i .i64], .r [.i .i64]]), (7, .one (.i .i64)), (8, .one (.i .i64))], []⟩, fun e => match e with
    | .ret => ⟨19, [(4, .one (.i .i64))], []⟩
    | _ => ⟨19, [], []⟩, 10, fun d => o11693 d.1 d.2.1 d.2.2.1 d.2.2.2.1 d.2.2.2.2.1 d.2.2.2.2.2.1 d.2.2.2.2.2.2.1⟩
theorem b11693 (l : List Test) (gp : Int) (gh : Bool) (gt now : Int) (n i : Int) : bodyD Try.prog E c11693 0 (bodyX Try.prog E ctW1 noLoops 1000 5 L0 (lpOf Try.prog 116 0)) (l, gp, gh, gt, now, n, i, ()) =
  (.br (decide (i < n))
   (.req ((decide ((0 : Int) ≤ i) && decide (i < (↑(List.length l) : Int))) = true)
   (.br (!Test.Held (ti l i))
    (.br (within (Test.Tick (ti l i)) gt now)
     (.leaf (.inr (.ret, [.n (i)])))
     (.leaf (.inl (l, (gp, (gh, (gt, (now, (n, (IntKind.wrap IntKind.i64 (i + (1 : Int)), ()))))))))))
    (.leaf (.inl (l, (gp, (gh, (gt, (now, (n, (IntKind.wrap IntKind.i64 (i + (1 : Int)), ())))))))))))
   (.leaf (.inr (.exit (0 : Nat), [])))) := by kernel_rfl
theorem h11693' (l : List Test) (gp : Int) (gh : Bool) (gt now : Int) (i : Nat) (K : Ex × List (V T) → Prop) (hl : l.length ≤ 1000) (hK : (Tree.br (decide (fi (und gt now) (l.drop i) i ≥ 0)) (.leaf (.ret, [.n (fi (und gt now) (l.drop i) i)])) (.leaf (.exit 0, [])) : Tree (Ex × List (V T))).holds K) :
    (bodyD Try.prog E c11693 0 (bodyX Try.prog E ctW1 noLoops 1000 5 L0 (lpOf Try.prog 116 0)) (l, gp, gh, gt, now, (l.length : Int), (i : Int), ())).holds fun y => match y with
    | .inl d => ((d.1.length : Int) - d.2.2.2.2.2.2.1).toNat < ((l.length : Int) - (i : Int)).toNat ∧ (c11693.out d).holds K
    | .inr y => K y := by
  rw [b11693]
  refine way (fun c => wayC (by omega) c fun _ _ => ?_) fun c => ?_
  · have e2 : IntKind.wrap IntKind.i64 ((i : Int) + 1) = ((i + 1 : Nat) : Int) := i64_in' (by omega) (by omega)
    rw [e2]
    rw [drop_ti (by omega), fi_cons] at hK
    have yes : (und gt now) (ti l i) = true → K (.ret, [.n (i : Int)]) := fun h => by
      rw [if_pos h] at hK
      exact hK.1 (decide_eq_true (by omega))
    have no : (und gt now) (ti l i) = false → ((l.length : Int) - ((i + 1 : Nat) : Int)).toNat < ((l.length : Int) - (i : Int)).toNat ∧ (c11693.out (l, gp, gh, gt, now, (l.length : Int), ((i + 1 : Nat) : Int), ())).holds K := fun h => by
      rw [if_neg (by rw [h]; simp)] at hK
      have hlt : ((l.length : Int) - ((i + 1 : Nat) : Int)).toNat < ((l.length : Int) - (i : Int)).toNat := by omega
      have h3 : (0 : Int) ≤ ((i + 1 : Nat) : Int) := by omega
      exact ⟨hlt, ⟨⟨h3, rfl⟩, hl⟩, hK⟩
    refine wayB (fun k1 => way (fun k2 => yes ?_) fun k2 => no ?_) fun k1 => no ?_
    · unfold und; rw [k1, decide_eq_true k2.1, decide_eq_true k2.2]; rfl
    · unfold und
      rw [k1, Bool.true_and]
      by_cases q : gt ≤ (ti l i).Tick
      · rw [decide_eq_false (fun h => k2 ⟨q, h⟩), Bool.and_false]
      · rw [decide_eq_false q, Bool.false_and]
    · unfold und; rw [k1, Bool.false_and]
  · rw [List.drop_eq_nil_of_le (by omega), fi_nil] at hK
    exact hK.2 (by decide)
theorem h11693 : LoopH Try.prog E c11693 0 (bodyX Try.prog E ctW1 noLoops 1000 5 L0 (lpOf Try.prog 116 0)) :=
  ⟨fun d => ((d.1.length : Int) - d.2.2.2.2.2.2.1).toNat, fun d K hK => by
    obtain ⟨l, gp, gh, gt, now, n, i, ⟨⟩⟩ := d
    obtain ⟨⟨⟨k1, k2⟩, k3⟩, k4⟩ := hK
    obtain ⟨q, hq⟩ := Int.eq_ofNat_of_zero_le k1
    obtain rfl : i = (q : Int) := hq
    obtain rfl : n = ((l : List Test).length : Int) := k2
    refine Tree.holds_mono (fun y hy => ?_) (h11693' l gp gh gt now q K k3 k4)
    cases y with
    | inl d' => exact hy
    | inr y => exact hy⟩
theorem ll11693 : LLOk Try.prog E (llOf Try.prog E 116 [(2, c11693)]) := llOf_ok fun i hi c hc => by
  have hi : i < 1 := hi
  obtain rfl : i = 0 := by omega
  obtain rfl : c11693 = c := Option.some.inj hc
  exact LSnd.mk good names mixes ctW1_ok (by decide) h11693
theorem tv11693 (l : List Test) (gp : Int) (gh : Bool) (gt now : Int) : runX ctW1 (llOf Try.prog E 116 [(2, c11693)]) 116 [.sl 70 l false, .fn 93 [.rp [i64 gp, .bool gh, i64 gt], .rp [i64 now]]] [3] =
  (.req (((0 : Int) ≤ (0 : Int) ∧ (↑(List.length l) : Int) = (↑(List.length l) : Int)) ∧ List.length l ≤ (1000 : Nat))
  (.br (decide (fi (und gt now) (List.drop (Int.toNat (0 : Int)) l) (0 : Int) ≥ (0 : Int)))
   (.leaf (.sym .i64 (fi (und gt now) (List.drop (Int.toNat (0 : Int)) l) (0 : Int))))
   (.leaf (.sym .i64 ((-1 : Int)))))) := by kernel_rfl
theorem s11693 (l : List Test) (gp : Int) (gh : Bool) (gt now : Int) (h : l.length ≤ 1000) : (runX ctW1 (llOf Try.prog E 116 [(2, c11693)]) 116 [.sl 70 l false, .fn 93 [.rp [i64 gp, .bool gh, i64 gt], .rp [i64 now]]] [3]).holds fun v => v = i64 (fi (und gt now) l 0) := by
  rw [tv11693]
  refine ⟨⟨⟨by decide, rfl⟩, h⟩, way (fun k => rfl) fun k => ?_⟩
  have k : ¬ fi (und gt now) l 0 ≥ 0 := k
  show i64 (-1) = _
  congr 1
  have : ∀ (l : List Test) (i : Int), ¬ fi (und gt now) l i ≥ 0 → 0 ≤ i → -1 = fi (und gt now) l i := by
    intro l
    induction l with
    | nil => intro i _ _; rfl
    | cons x l ih =>
      intro i h hi
      rw [fi_cons] at h ⊢
      split
      · rename_i e; rw [if_pos e] at h; omega
      · rename_i e; rw [if_neg e] at h; exact ih _ h (by omega)
  exact this l 0 k (by decide)
noncomputable def cIdx93 : Con T := conFP Try.prog E [62, 115] [.one (.s 70), .fn 93 [.r [.i .i64, .b, .i .i64], .r [.i .i64]]] [.l 70, .n, .t, .n, .n] (fun d => (d.1 : List Test).length ≤ 1000) fun d => i64 (fi (und d.2.2.2.1 d.2.2.2.2.1) d.1 0)
set_option maxHeartbeats 4000000 in
theorem idx93_ok : ConOk Try.prog E 116 cIdx93 := conFP_ok good decOk fun d hd => fact_run3 ctW1_ok ll11693 (ts := [3]) rfl (s11693 d.1 d.2.1 d.2.2.1 d.2.2.2.1 d.2.2.2.2.1 hd)
noncomputable def ct93I : CTab T := [(116, cIdx93)]
theorem ct93I_ok : CTabOk Try.prog E ct93I := .cons idx93_ok .nil
theorem tv9193 (l : List Test) (gp : Int) (gh : Bool) (gt now : Int) : runX ct93I noLoops 91 [.sl 70 l false, .fn 93 [.rp [i64 gp, .bool gh, i64 gt], .rp [i64 now]]] [4] =
  (.req (List.length l ≤ (1000 : Nat))
  (.leaf (.bool (decide (fi (und gt now) l (0 : Int) ≥ (0 : Int)))))) := by kernel_rfl
theorem s9193 (l : List Test) (gp : Int) (gh : Bool) (gt now : Int) (h : l.length ≤ 1000) : (runX ct93I noLoops 91 [.sl 70 l false, .fn 93 [.rp [i64 gp, .bool gh, i64 gt], .rp [i64 now]]] [4]).holds fun v => v = .bool (l.any (und gt now)) := by
  rw [tv9193]
  exact ⟨h, congrArg AV.bool (fi_any (by decide))⟩
noncomputable def cAny93 : Con T := conFP Try.prog E [62, 115] [.one (.s 70), .fn 93 [.r [.i .i64, .b, .i .i64], .r [.i .i64]]] [.l 70, .n, .t, .n, .n] (fun d => (d.1 : List Test).length ≤ 1000) fun d => .bool ((d.1 : List Test).any (und d.2.2.2.1 d.2.2.2.2.1))
set_option maxHeartbeats 4000000 in
theorem any93_ok : ConOk Try.prog E 91 cAny93 := conFP_ok good decOk fun d hd => fact_run3 ct93I_ok noLoops_ok (ts := [4]) rfl (s9193 d.1 d.2.1 d.2.2.1 d.2.2.2.1 d.2.2.2.2.1 hd)
noncomputable def ctW2 : CTab T := [(61, cWithin), (91, cAny93)]
theorem ctW2_ok : CTabOk Try.prog E ctW2 := .cons within_ok (.cons any93_ok .nil)

/-! ### closure 92 -/
noncomputable def o11692 (l : List Test) (now need age : Int) (tl : List Test) (n i : Int) : Tree (Ex × List (V T)) :=
  .req ((0 ≤ i ∧ n = l.length) ∧ l.length ≤ 1000 ∧ tl.length ≤ 1000) (.br (decide (fi (goodT now need age tl) (l.drop i.toNat) i ≥ 0)) (.leaf (.ret, [.n (fi (goodT now need age tl) (l.drop i.toNat) i)])) (.leaf (.exit 0, [])))
noncomputable def c11692 : LoopC T := ⟨[.l 70, .n, .n, .n, .l 70, .n, .n], ⟨19, [(0, .one (.s 70)), (1, .fn 92 [.r [.i .i64], .r [.i .i64], .r [.i .i64], .r [.s 70]]), (7, .one (.i .i64)), (8, .one (.i .i64))], []⟩, fun e => match e with
    | .ret => ⟨19, [(4, .one (.i .i64))], []⟩
    | _ => ⟨19, [], []⟩, 10, fun d => o11692 d.1 d.2.1 d.2.2.1 d.2.2.2.1 d.2.2.2.2.1 d.2.2.2.2.2.1 d.2.2.2.2.2.2.1⟩
theorem b11692 (l : List Test) (now need age : Int) (tl : List Test) (n i : Int) : bodyD Try.prog E c11692 0 (bodyX Try.prog E ctW2 noLoops 1000 5 L0 (lpOf Try.prog 116 0)) (l, now, need, age, tl, n, i, ()) =
  (.br (decide (i < n))
   (.req ((decide ((0 : Int) ≤ i) && decide (i < (↑(List.length l) : Int))) = true)
   (.br (Test.Held (ti l i))
    (.br (decide (Test.P (ti l i) ≥ need))
     (.br (decide (Test.Tick (ti l i) ≤ now))
      (.br (decide (IntKind.wrap IntKind.u64 (IntKind.wrap IntKind.u64 now - IntKind.wrap IntKind.u64 (Test.Tick (ti l i))) ≤ IntKind.wrap IntKind.u64 age))
       (.req (List.length tl ≤ (1000 : Nat))
       (.br (!List.any tl (und (Test.Tick (ti l i)) now))
        (.leaf (.inr (.ret, [.n (i)])))
        (.leaf (.inl (l, (now, (need, (age, (tl, (n, (IntKind.wrap IntKind.i64 (i + (1 : Int)), ())))))))))))
       (.leaf (.inl (l, (now, (need, (age, (tl, (n, (IntKind.wrap IntKind.i64 (i + (1 : Int)), ()))))))))))
      (.leaf (.inl (l, (now, (need, (age, (tl, (n, (IntKind.wrap IntKind.i64 (i + (1 : Int)), ()))))))))))
     (.leaf (.inl (l, (now, (need, (age, (tl, (n, (IntKind.wrap IntKind.i64 (i + (1 : Int)), ()))))))))))
    (.leaf (.inl (l, (now, (need, (age, (tl, (n, (IntKind.wrap IntKind.i64 (i + (1 : Int)), ())))))))))))
   (.leaf (.inr (.exit (0 : Nat), [])))) := by kernel_rfl
theorem h11692' (l : List Test) (now need age : Int) (tl : List Test) (i : Nat) (K : Ex × List (V T) → Prop) (hl : l.length ≤ 1000 ∧ tl.length ≤ 1000) (hK : (Tree.br (decide (fi (goodT now need age tl) (l.drop i) i ≥ 0)) (.leaf (.ret, [.n (fi (goodT now need age tl) (l.drop i) i)])) (.leaf (.exit 0, [])) : Tree (Ex × List (V T))).holds K) :
    (bodyD Try.prog E c11692 0 (bodyX Try.prog E ctW2 noLoops 1000 5 L0 (lpOf Try.prog 116 0)) (l, now, need, age, tl, (l.length : Int), (i : Int), ())).holds fun y => match y with
    | .inl d => ((d.1.length : Int) - d.2.2.2.2.2.2.1).toNat < ((l.length : Int) - (i : Int)).toNat ∧ (c11692.out d).holds K
    | .inr y => K y := by
  rw [b11692]
  refine way (fun c => wayC (by omega) c fun _ _ => ?_) fun c => ?_
  · have e2 : IntKind.wrap IntKind.i64 ((i : Int) + 1) = ((i + 1 : Nat) : Int) := i64_in' (by omega) (by omega)
    rw [e2]
    rw [drop_ti (by omega), fi_cons] at hK
    have yes : (goodT now need age tl) (ti l i) = true → K (.ret, [.n (i : Int)]) := fun h => by
      rw [if_pos h] at hK
      exact hK.1 (decide_eq_true (by omega))
    have no : (goodT now need age tl) (ti l i) = false → ((l.length : Int) - ((i + 1 : Nat) : Int)).toNat < ((l.length : Int) - (i : Int)).toNat ∧ (c11692.out (l, now, need, age, tl, (l.length : Int), ((i + 1 : Nat) : Int), ())).holds K := fun h => by
      rw [if_neg (by rw [h]; simp)] at hK
      have hlt : ((l.length : Int) - ((i + 1 : Nat) : Int)).toNat < ((l.length : Int) - (i : Int)).toNat := by omega
      have h3 : (0 : Int) ≤ ((i + 1 : Nat) : Int) := by omega
      exact ⟨hlt, ⟨⟨h3, rfl⟩, hl⟩, hK⟩
    refine wayB (fun k1 => way (fun k2 => way (fun k3 => way (fun k4 => ⟨hl.2, wayB (fun k5 => yes ?_) fun k5 => no ?_⟩) fun k4 => no ?_) fun k3 => no ?_) fun k2 => no ?_) fun k1 => no ?_
    · unfold goodT recent; rw [k1, decide_eq_true k2, decide_eq_true k3, decide_eq_true k4, k5]; rfl
    · unfold goodT; rw [k5, Bool.and_false, Bool.and_false, Bool.and_false]
    · unfold goodT recent; rw [decide_eq_false k4, Bool.and_false, Bool.false_and, Bool.and_false, Bool.and_false]
    · unfold goodT recent; rw [decide_eq_false k3, Bool.false_and, Bool.false_and, Bool.and_false, Bool.and_false]
    · unfold goodT; rw [decide_eq_false k2, Bool.false_and, Bool.and_false]
    · unfold goodT; rw [k1, Bool.false_and]
  · rw [List.drop_eq_nil_of_le (by omega), fi_nil] at hK
    exact hK.2 (by decide)
theorem h11692 : LoopH Try.prog E c11692 0 (bodyX Try.prog E ctW2 noLoops 1000 5 L0 (lpOf Try.prog 116 0)) :=
  ⟨fun d => ((d.1.length : Int) - d.2.2.2.2.2.2.1).toNat, fun d K hK => by
    obtain ⟨l, now, need, age, tl, n, i, ⟨⟩⟩ := d
    obtain ⟨⟨⟨k1, k2⟩, k3⟩, k4⟩ := hK
    obtain ⟨q, hq⟩ := Int.eq_ofNat_of_zero_le k1
    obtain rfl : i = (q : Int) := hq
    obtain rfl : n = ((l : List Test).length : Int) := k2
    refine Tree.holds_mono (fun y hy => ?_) (h11692' l now need age tl q K k3 k4)
    cases y with
    | inl d' => exact hy
    | inr y => exact hy⟩
theorem ll11692 : LLOk Try.prog E (llOf Try.prog E 116 [(2, c11692)]) := llOf_ok fun i hi c hc => by
  have hi : i < 1 := hi
  obtain rfl : i = 0 := by omega
  obtain rfl : c11692 = c := Option.some.inj hc
  exact LSnd.mk good names mixes ctW2_ok (by decide) h11692
theorem tv11692 (l : List Test) (now need age : Int) (tl : List Test) : runX ctW2 (llOf Try.prog E 116 [(2, c11692)]) 116 [.sl 70 l false, .fn 92 [.rp [i64 now], .rp [i64 need], .rp [i64 age], .rp [.sl 70 tl false]]] [3] =
  (.req (((0 : Int) ≤ (0 : Int) ∧ (↑(List.length l) : Int) = (↑(List.length l) : Int)) ∧ List.length l ≤ (1000 : Nat) ∧ List.length tl ≤ (1000 : Nat))
  (.br (decide (fi (goodT now need age tl) (List.drop (Int.toNat (0 : Int)) l) (0 : Int) ≥ (0 : Int)))
   (.leaf (.sym .i64 (fi (goodT now need age tl) (List.drop (Int.toNat (0 : Int)) l) (0 : Int))))
   (.leaf (.sym .i64 ((-1 : Int)))))) := by kernel_rfl
theorem s11692 (l : List Test) (now need age : Int) (tl : List Test) (h : l.length ≤ 1000 ∧ tl.length ≤ 1000) : (runX ctW2 (llOf Try.prog E 116 [(2, c11692)]) 116 [.sl 70 l false, .fn 92 [.rp [i64 now], .rp [i64 need], .rp [i64 age], .rp [.sl 70 tl false]]] [3]).holds fun v => v = i64 (fi (goodT now need age tl) l 0) := by
  rw [tv11692]
  refine ⟨⟨⟨by decide, rfl⟩, h⟩, way (fun k => rfl) fun k => ?_⟩
  have k : ¬ fi (goodT now need age tl) l 0 ≥ 0 := k
  show i64 (-1) = _
  congr 1
  have : ∀ (l : List Test) (i : Int), ¬ fi (goodT now need age tl) l i ≥ 0 → 0 ≤ i → -1 = fi (goodT now need age tl) l i := by
    intro l
    induction l with
    | nil => intro i _ _; rfl
    | cons x l ih =>
      intro i h hi
      rw [fi_cons] at h ⊢
      split
      · rename_i e; rw [if_pos e] at h; omega
      · rename_i e; rw [if_neg e] at h; exact ih _ h (by omega)
  exact this l 0 k (by decide)
noncomputable def cIdx92 : Con T := conFP Try.prog E [62, 115] [.one (.s 70), .fn 92 [.r [.i .i64], .r [.i .i64], .r [.i .i64], .r [.s 70]]] [.l 70, .n, .n, .n, .l 70] (fun d => (d.1 : List Test).length ≤ 1000 ∧ (d.2.2.2.2.1 : List Test).length ≤ 1000) fun d => i64 (fi (goodT d.2.1 d.2.2.1 d.2.2.2.1 d.2.2.2.2.1) d.1 0)
set_option maxHeartbeats 4000000 in
theorem idx92_ok : ConOk Try.prog E 116 cIdx92 := conFP_ok good decOk fun d hd => fact_run3 ctW2_ok ll11692 (ts := [3]) rfl (s11692 d.1 d.2.1 d.2.2.1 d.2.2.2.1 d.2.2.2.2.1 hd)
noncomputable def ct92I : CTab T := [(116, cIdx92)]
theorem ct92I_ok : CTabOk Try.prog E ct92I := .cons idx92_ok .nil
theorem tv9192 (l : List Test) (now need age : Int) (tl : List Test) : runX ct92I noLoops 91 [.sl 70 l false, .fn 92 [.rp [i64 now], .rp [i64 need], .rp [i64 age], .rp [.sl 70 tl false]]] [4] =
  (.req (List.length l ≤ (1000 : Nat) ∧ List.length tl ≤ (1000 : Nat))
  (.leaf (.bool (decide (fi (goodT now need age tl) l (0 : Int) ≥ (0 : Int)))))) := by kernel_rfl
theorem s9192 (l : List Test) (now need age : Int) (tl : List Test) (h : l.length ≤ 1000 ∧ tl.length ≤ 1000) : (runX ct92I noLoops 91 [.sl 70 l false, .fn 92 [.rp [i64 now], .rp [i64 need], .rp [i64 age], .rp [.sl 70 tl false]]] [4]).holds fun v => v = .bool (l.any (goodT now need age tl)) := by
  rw [tv9192]
  exact ⟨h, congrArg AV.bool (fi_any (by decide))⟩
noncomputable def cAny92 : Con T := conFP Try.prog E [62, 115] [.one (.s 70), .fn 92 [.r [.i .i64], .r [.i .i64], .r [.i .i64], .r [.s 70]]] [.l 70, .n, .n, .n, .l 70] (fun d => (d.1 : List Test).length ≤ 1000 ∧ (d.2.2.2.2.1 : List Test).length ≤ 1000) fun d => .bool ((d.1 : List Test).any (goodT d.2.1 d.2.2.1 d.2.2.2.1 d.2.2.2.2.1))
set_option maxHeartbeats 4000000 in
theorem any92_ok : ConOk Try.prog E 91 cAny92 := conFP_ok good decOk fun d hd => fact_run3 ct92I_ok noLoops_ok (ts := [4]) rfl (s9192 d.1 d.2.1 d.2.2.1 d.2.2.2.1 d.2.2.2.2.1 hd)
noncomputable def ctP44 : CTab T := [(91, cAny92)]
theorem ctP44_ok : CTabOk Try.prog E ctP44 := .cons any92_ok .nil
noncomputable def proven (l : List Test) (need now age : Int) : Bool := decide ((l.length : Int) ≤ 24 ∧ 0 ≤ age) && l.any (goodT now need age l)
theorem tv44 (l : List Test) (need now age : Int) : runX ctP44 noLoops 44 [.sl 70 l false, i64 need, i64 now, i64 age] [4] =
  (.br (decide ((↑(List.length l) : Int) > (24 : Int)))
   (.leaf (.bool (false)))
   (.br (decide (age < (0 : Int)))
    (.leaf (.bool (false)))
    (.req (List.length l ≤ (1000 : Nat) ∧ List.length l ≤ (1000 : Nat))
    (.leaf (.bool (List.any l (goodT now need age l))))))) := by kernel_rfl
noncomputable def o45i (l : List Test) (need now age i : Int) (bad : Bool) (j : Int) : Tree (Ex × List (V T)) :=
  .req ((0 ≤ j ∧ l.length ≤ 1000) ∧ 0 ≤ i ∧ i < l.length) (.leaf (.exit 2, [.l 70 l, .n need, .n now, .n age, .n i, .t (bad || (l.drop j.toNat).any (und (ti l i).Tick now))]))
noncomputable def c45i : LoopC T := ⟨[.l 70, .n, .n, .n, .n, .t, .n], ⟨102, [(0, .one (.s 70)), (1, .one (.i .i64)), (2, .one (.i .i64)), (3, .one (.i .i64)), (9, .one (.i .i64)), (10, .one .b), (11, .one (.i .i64))], []⟩,
  fun _ => ⟨102, [(0, .one (.s 70)), (1, .one (.i .i64)), (2, .one (.i .i64)), (3, .one (.i .i64)), (9, .one (.i .i64)), (10, .one .b)], []⟩, 10, fun d => o45i d.1 d.2.1 d.2.2.1 d.2.2.2.1 d.2.2.2.2.1 d.2.2.2.2.2.1 d.2.2.2.2.2.2.1⟩
theorem b45i (l : List Test) (need now age i : Int) (bad : Bool) (j : Int) : bodyD Try.prog E c45i 0 (bodyX Try.prog E ctW1 noLoops 1000 5 L0 (lpOf Try.prog 45 1)) (l, need, now, age, i, bad, j, ()) =
  (.br (decide (j < (↑(List.length l) : Int)))
   (.br (bad)
    (.leaf (.inl (l, (need, (now, (age, (i, (true, (IntKind.wrap IntKind.i64 (j + (1 : Int)), ())))))))))
    (.req ((decide ((0 : Int) ≤ j) && decide (j < (↑(List.length l) : Int))) = true)
    (.br (!Test.Held (ti l j))
     (.req ((decide ((0 : Int) ≤ j) && decide (j < (↑(List.length l) : Int))) = true)
     (.req ((decide ((0 : Int) ≤ i) && decide (i < (↑(List.length l) : Int))) = true)
     (.br (decide (Test.Tick (ti l j) ≥ Test.Tick (ti l i)))
      (.req ((decide ((0 : Int) ≤ j) && decide (j < (↑(List.length l) : Int))) = true)
      (.leaf (.inl (l, (need, (now, (age, (i, (decide (Test.Tick (ti l j) ≤ now), (IntKind.wrap IntKind.i64 (j + (1 : Int)), ()))))))))))
      (.leaf (.inl (l, (need, (now, (age, (i, (false, (IntKind.wrap IntKind.i64 (j + (1 : Int)), ()))))))))))))
     (.leaf (.inl (l, (need, (now, (age, (i, (false, (IntKind.wrap IntKind.i64 (j + (1 : Int)), ()))))))))))))
   (.leaf (.inr (.exit (2 : Nat), [.l (70 : Nat) (l), .n (need), .n (now), .n (age), .n (i), .t (bad)])))) := by kernel_rfl
noncomputable def o45 (l : List Test) (need now age i : Int) : Tree (Ex × List (V T)) :=
  .req (0 ≤ i ∧ l.length ≤ 1000) (.br ((l.drop i.toNat).any (goodT now need age l)) (.leaf (.ret, [.t true])) (.leaf (.exit 0, [])))
noncomputable def c45 : LoopC T := ⟨[.l 70, .n, .n, .n, .n], ⟨102, [(0, .one (.s 70)), (1, .one (.i .i64)), (2, .one (.i .i64)), (3, .one (.i .i64)), (9, .one (.i .i64))], []⟩, fun e => match e with
    | .ret => ⟨102, [(8, .one .b)], []⟩
    | _ => ⟨102, [], []⟩, 40, fun d => o45 d.1 d.2.1 d.2.2.1 d.2.2.2.1 d.2.2.2.2.1⟩
theorem b45 (l : List Test) (need now age i : Int) : bodyD Try.prog E c45 0 (bodyX Try.prog E ctW1 noLoops 1000 5 (tabL Try.prog E [(9, c45i)]) (lpOf Try.prog 45 0)) (l, need, now, age, i, ()) =
  (.br (decide (i < (↑(List.length l) : Int)))
   (.req ((decide ((0 : Int) ≤ i) && decide (i < (↑(List.length l) : Int))) = true)
   (.br (!Test.Held (ti l i))
    (.leaf (.inl (l, (need, (now, (age, (IntKind.wrap IntKind.i64 (i + (1 : Int)), ())))))))
    (.req ((decide ((0 : Int) ≤ i) && decide (i < (↑(List.length l) : Int))) = true)
    (.br (decide (Test.P (ti l i) < need))
     (.leaf (.inl (l, (need, (now, (age, (IntKind.wrap IntKind.i64 (i + (1 : Int)), ())))))))
     (.req ((decide ((0 : Int) ≤ i) && decide (i < (↑(List.length l) : Int))) = true)
     (.br (decide (Test.Tick (ti l i) > now))
      (.leaf (.inl (l, (need, (now, (age, (IntKind.wrap IntKind.i64 (i + (1 : Int)), ())))))))
      (.req ((decide ((0 : Int) ≤ i) && decide (i < (↑(List.length l) : Int))) = true)
      (.br (decide (IntKind.wrap IntKind.u64 (IntKind.wrap IntKind.u64 now - IntKind.wrap IntKind.u64 (Test.Tick (ti l i))) > IntKind.wrap IntKind.u64 age))
       (.leaf (.inl (l, (need, (now, (age, (IntKind.wrap IntKind.i64 (i + (1 : Int)), ())))))))
       (.req (((0 : Int) ≤ (0 : Int) ∧ List.length l ≤ (1000 : Nat)) ∧ (0 : Int) ≤ i ∧ i < (↑(List.length l) : Int))
       (.br (!(false || List.any (List.drop (Int.toNat (0 : Int)) l) (und (Test.Tick (ti l i)) now)))
        (.leaf (.inr (.ret, [.t (true)])))
        (.leaf (.inl (l, (need, (now, (age, (IntKind.wrap IntKind.i64 (i + (1 : Int)), ())))))))))))))))))
   (.leaf (.inr (.exit (0 : Nat), [])))) := by kernel_rfl
theorem h45i' (l : List Test) (need now age i : Int) (bad : Bool) (j : Nat) (K : Ex × List (V T) → Prop) (hl : l.length ≤ 1000) (hi : 0 ≤ i ∧ i < l.length) (hK : K (.exit 2, [.l 70 l, .n need, .n now, .n age, .n i, .t (bad || (l.drop j).any (und (ti l i).Tick now))])) :
    (bodyD Try.prog E c45i 0 (bodyX Try.prog E ctW1 noLoops 1000 5 L0 (lpOf Try.prog 45 1)) (l, need, now, age, i, bad, (j : Int), ())).holds fun y => match y with
    | .inl d => ((d.1.length : Int) - d.2.2.2.2.2.2.1).toNat < ((l.length : Int) - (j : Int)).toNat ∧ (c45i.out d).holds K
    | .inr y => K y := by
  rw [b45i]
  refine way (fun c => ?_) fun c => ?_
  · have e2 : IntKind.wrap IntKind.i64 ((j : Int) + 1) = ((j + 1 : Nat) : Int) := i64_in' (by omega) (by omega)
    rw [e2]
    rw [drop_ti (by omega), List.any_cons] at hK
    have hlt : ((l.length : Int) - ((j + 1 : Nat) : Int)).toNat < ((l.length : Int) - (j : Int)).toNat := by omega
    have h3 : (0 : Int) ≤ ((j + 1 : Nat) : Int) := by omega
    have next : ∀ b : Bool, (b || (l.drop (j + 1)).any (und (ti l i).Tick now)) = (bad || (und (ti l i).Tick now (ti l j) || (l.drop (j + 1)).any (und (ti l i).Tick now))) → ((l.length : Int) - ((j + 1 : Nat) : Int)).toNat < ((l.length : Int) - (j : Int)).toNat ∧ (c45i.out (l, need, now, age, i, b, ((j + 1 : Nat) : Int), ())).holds K := fun b e => by
      rw [← e] at hK
      exact ⟨hlt, ⟨⟨h3, hl⟩, hi⟩, hK⟩
    refine wayB (fun k => next true ?_) fun k => wayC (by omega) c fun _ _ => wayB (fun k1 => wayC (by omega) c fun _ _ => wayC hi.1 hi.2 fun _ _ => way (fun k2 => wayC (by omega) c fun _ _ => next _ ?_) fun k2 => next false ?_) fun k1 => next false ?_
    · rw [k]; rfl
    · unfold und; rw [k, k1, decide_eq_true (show (ti l i).Tick ≤ (ti l j).Tick from k2)]; simp
    · unfold und; rw [k, k1, decide_eq_false (show ¬ (ti l i).Tick ≤ (ti l j).Tick from k2)]; simp
    · unfold und; rw [k, k1]; simp
  · rw [show l.drop j = [] from List.drop_eq_nil_of_le (by omega), List.any_nil, Bool.or_false] at hK
    exact hK
theorem h45i : LoopH Try.prog E c45i 0 (bodyX Try.prog E ctW1 noLoops 1000 5 L0 (lpOf Try.prog 45 1)) :=
  ⟨fun d => ((d.1.length : Int) - d.2.2.2.2.2.2.1).toNat, fun d K hK => by
    obtain ⟨l, need, now, age, i, bad, j, ⟨⟩⟩ := d
    obtain ⟨⟨⟨k1, k2⟩, k3⟩, k4⟩ := hK
    obtain ⟨q, hq⟩ := Int.eq_ofNat_of_zero_le k1
    obtain rfl : j = (q : Int) := hq
    refine Tree.holds_mono (fun y hy => ?_) (h45i' l need now age i bad q K k2 k3 k4)
    cases y with
    | inl d' => exact hy
    | inr y => exact hy⟩
theorem snd45i : LSnd Try.prog E (lpOf Try.prog 45 1) c45i := LSnd.mk good names mixes ctW1_ok (by decide) h45i
theorem h45' (l : List Test) (need now age : Int) (i : Nat) (K : Ex × List (V T) → Prop) (hl : l.length ≤ 1000) (hK : (Tree.br ((l.drop i).any (goodT now need age l)) (.leaf (.ret, [.t true])) (.leaf (.exit 0, [])) : Tree (Ex × List (V T))).holds K) :
    (bodyD Try.prog E c45 0 (bodyX Try.prog E ctW1 noLoops 1000 5 (tabL Try.prog E [(9, c45i)]) (lpOf Try.prog 45 0)) (l, need, now, age, (i : Int), ())).holds fun y => match y with
    | .inl d => ((d.1.length : Int) - d.2.2.2.2.1).toNat < ((l.length : Int) - (i : Int)).toNat ∧ (c45.out d).holds K
    | .inr y => K y := by
  rw [b45]
  refine way (fun c => wayC (by omega) c fun _ _ => ?_) fun c => ?_
  · have e2 : IntKind.wrap IntKind.i64 ((i : Int) + 1) = ((i + 1 : Nat) : Int) := i64_in' (by omega) (by omega)
    rw [e2]
    rw [drop_ti (by omega), List.any_cons] at hK
    have hlt : ((l.length : Int) - ((i + 1 : Nat) : Int)).toNat < ((l.length : Int) - (i : Int)).toNat := by omega
    have h3 : (0 : Int) ≤ ((i + 1 : Nat) : Int) := by omega
    have no : goodT now need age l (ti l i) = false → ((l.length : Int) - ((i + 1 : Nat) : Int)).toNat < ((l.length : Int) - (i : Int)).toNat ∧ (c45.out (l, need, now, age, ((i + 1 : Nat) : Int), ())).holds K := fun h => by
      rw [h, Bool.false_or] at hK
      exact ⟨hlt, ⟨h3, hl⟩, hK⟩
    refine wayB (fun k1 => no ?_) fun k1 => wayC (by omega) c fun _ _ => way (fun k2 => no ?_) fun k2 => wayC (by omega) c fun _ _ => way (fun k3 => no ?_) fun k3 => wayC (by omega) c fun _ _ => way (fun k4 => no ?_) fun k4 => ⟨⟨⟨by decide, hl⟩, by omega, c⟩, wayB (fun k5 => ?_) fun k5 => no ?_⟩
    · have k1 : (ti l i).Held = false := by simpa using k1
      unfold goodT; rw [k1, Bool.false_and]
    · unfold goodT; rw [decide_eq_false (by omega), Bool.false_and, Bool.and_false]
    · unfold goodT recent; rw [decide_eq_false (show ¬ (ti l i).Tick ≤ now by omega), Bool.false_and, Bool.false_and, Bool.and_false, Bool.and_false]
    · unfold goodT recent; rw [decide_eq_false (show ¬ IntKind.wrap IntKind.u64 (IntKind.wrap IntKind.u64 now - IntKind.wrap IntKind.u64 (ti l i).Tick) ≤ IntKind.wrap IntKind.u64 age by omega), Bool.and_false, Bool.false_and, Bool.and_false, Bool.and_false]
    · have k5 : (!l.any (und (ti l i).Tick now)) = true := by simpa using k5
      have k1 : (ti l i).Held = true := by simpa using k1
      have g : goodT now need age l (ti l i) = true := by
        unfold goodT recent
        rw [k1, decide_eq_true (show (ti l i).P ≥ need by omega), decide_eq_true (show (ti l i).Tick ≤ now by omega), decide_eq_true (show IntKind.wrap IntKind.u64 (IntKind.wrap IntKind.u64 now - IntKind.wrap IntKind.u64 (ti l i).Tick) ≤ IntKind.wrap IntKind.u64 age by omega), k5]
        rfl
      rw [g, Bool.true_or] at hK
      exact hK.1 rfl
    · have k5 : (!l.any (und (ti l i).Tick now)) = false := by simpa using k5
      unfold goodT; rw [k5, Bool.and_false, Bool.and_false, Bool.and_false]
  · rw [show l.drop i = [] from List.drop_eq_nil_of_le (by omega), List.any_nil] at hK
    exact hK.2 rfl
theorem h45 : LoopH Try.prog E c45 0 (bodyX Try.prog E ctW1 noLoops 1000 5 (tabL Try.prog E [(9, c45i)]) (lpOf Try.prog 45 0)) :=
  ⟨fun d => ((d.1.length : Int) - d.2.2.2.2.1).toNat, fun d K hK => by
    obtain ⟨l, need, now, age, i, ⟨⟩⟩ := d
    obtain ⟨⟨k1, k2⟩, k4⟩ := hK
    obtain ⟨q, hq⟩ := Int.eq_ofNat_of_zero_le k1
    obtain rfl : i = (q : Int) := hq
    refine Tree.holds_mono (fun y hy => ?_) (h45' l need now age q K k2 k4)
    cases y with
    | inl d' => exact hy
    | inr y => exact hy⟩
theorem in45 : ∀ b' ∈ loopsIn (lpOf Try.prog 45 0), ∀ c', lkL (keyOfC b') [(9, c45i)] = some c' → LSnd Try.prog E b' c' := by
  intro b' hb' c' hc'
  have e : loopsIn (lpOf Try.prog 45 0) = [lpOf Try.prog 45 1] := by kernel_rfl
  rw [e] at hb'
  obtain rfl := List.mem_singleton.1 hb'
  obtain rfl : c45i = c' := Option.some.inj hc'
  exact snd45i
theorem ll45 : LLOk Try.prog E (llOf Try.prog E 45 [(4, c45), (9, c45i)]) := llOf_ok fun i hi c hc => by
  have hi : i < 2 := hi
  have : i = 0 ∨ i = 1 := by omega
  rcases this with rfl | rfl
  · obtain rfl : c45 = c := Option.some.inj hc
    exact LSnd.mk2 good names mixes ctW1_ok (by decide) in45 h45
  · obtain rfl : c45i = c := Option.some.inj hc
    exact snd45i
theorem tv45 (l : List Test) (need now age : Int) : runX ctW1 (llOf Try.prog E 45 [(4, c45), (9, c45i)]) 45 [.sl 70 l false, i64 need, i64 now, i64 age] [4] =
  (.br (decide ((↑(List.length l) : Int) > (24 : Int)))
   (.leaf (.bool (false)))
   (.br (decide (age < (0 : Int)))
    (.leaf (.bool (false)))
    (.req ((0 : Int) ≤ (0 : Int) ∧ List.length l ≤ (1000 : Nat))
    (.br (List.any (List.drop (Int.toNat (0 : Int)) l) (goodT now need age l))
     (.leaf (.bool (true)))
     (.leaf (.bool (false))))))) := by kernel_rfl
theorem pv_out {l : List Test} {need now age : Int} (h : ¬ ((l.length : Int) ≤ 24 ∧ 0 ≤ age)) : AV.bool (T := T) false = .bool (proven l need now age) := by
  unfold proven; rw [decide_eq_false h, Bool.false_and]
theorem pv_in {l : List Test} {need now age : Int} {b : Bool} (h : (l.length : Int) ≤ 24 ∧ 0 ≤ age) (e : b = l.any (goodT now need age l)) : AV.bool (T := T) b = .bool (proven l need now age) := by
  unfold proven; rw [decide_eq_true h, Bool.true_and, e]
theorem s44 (l : List Test) (need now age : Int) : (runX ctP44 noLoops 44 [.sl 70 l false, i64 need, i64 now, i64 age] [4]).holds fun v => v = .bool (proven l need now age) := by
  rw [tv44]
  exact way (fun h => pv_out (by omega)) fun h1 => way (fun h => pv_out (by omega)) fun h2 => ⟨⟨by omega, by omega⟩, pv_in ⟨by omega, by omega⟩ rfl⟩
theorem s45 (l : List Test) (need now age : Int) : (runX ctW1 (llOf Try.prog E 45 [(4, c45), (9, c45i)]) 45 [.sl 70 l false, i64 need, i64 now, i64 age] [4]).holds fun v => v = .bool (proven l need now age) := by
  rw [tv45]
  exact way (fun h => pv_out (by omega)) fun h1 => way (fun h => pv_out (by omega)) fun h2 => ⟨⟨by decide, by omega⟩, wayB (fun k => pv_in ⟨by omega, by omega⟩ k.symm) fun k => pv_in ⟨by omega, by omega⟩ k.symm⟩
noncomputable def cProven : Con T := conFV Try.prog E [62, 2, 2, 2] [.one (.s 70), .one (.i .i64), .one (.i .i64), .one (.i .i64)] [.l 70, .n, .n, .n] fun d => .bool (proven d.1 d.2.1 d.2.2.1 d.2.2.2.1)
set_option maxHeartbeats 4000000 in
theorem proven_ok : ConOk Try.prog E 44 cProven := conFV_ok good decOk fun d => fact_run ctP44_ok noLoops_ok (ts := [4]) rfl (s44 d.1 d.2.1 d.2.2.1 d.2.2.2.1)
set_option maxHeartbeats 4000000 in
theorem proven2_ok : ConOk Try.prog E 45 cProven := conFV_ok good decOk fun d => fact_run ctW1_ok ll45 (ts := [4]) rfl (s45 d.1 d.2.1 d.2.2.1 d.2.2.2.1)
noncomputable abbrev ctPr : CTab T := [(18, cAwake), (44, cProven), (45, cProven)]
theorem ctPr_ok : CTabOk Try.prog E ctPr := .cons awake_ok (.cons proven_ok (.cons proven2_ok .nil))
end Go.Proofs.Ytcddppakogialaa.W
