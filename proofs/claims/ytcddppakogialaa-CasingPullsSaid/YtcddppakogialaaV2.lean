/- The values of a line at a place. No condition. -/
import Derived.Test.YtcddppakogialaaV1
set_option linter.unusedVariables false
set_option maxRecDepth 100000
noncomputable section
namespace Go.Proofs.Ytcddppakogialaa.W
open Go Go.Cx Go.RowKit
/-! ### Right lines -/
@[reducible] def isR (l : List Knot) : Prop := lineErr l 1048576 68719476736 = 0 ∨ lineErr l 1099511627776 1048576 = 0
structure Rt (l : List Knot) (a v : Int) : Prop where
  good : Good l a v
  a1 : a ≤ 1099511627776
  v1 : v ≤ 68719476736
  v0 : 0 ≤ v
  prod : v * a ≤ 1152921504606846976
theorem isR_rt {l : List Knot} (h : isR l) : ∃ a v, Rt l a v := by
  rcases h with h | h
  · exact ⟨_, _, (lineErr_good h).1, by decide, by decide, by decide, by decide⟩
  · exact ⟨_, _, (lineErr_good h).1, by decide, by decide, by decide, by decide⟩
noncomputable def ctL : CTab T := [(61, cWithin), (102, cLine), (103, cLine), (120, cFloor), (74, cCeil), (122, cFloor)]
theorem ctL_ok : CTabOk Try.prog E ctL := .cons within_ok (.cons line_ok (.cons line2_ok (.cons floor_ok (.cons ceil_ok (.cons floor122_ok .nil)))))
theorem tv61 (l : List Knot) : runX ctL noLoops 98 [(⟨l⟩ : Line).av] [4] =
  (.br (lineErr l (1048576 : Int) (68719476736 : Int) == (0 : Int))
   (.leaf (.bool (true)))
   (.leaf (.bool (lineErr l (1099511627776 : Int) (1048576 : Int) == (0 : Int))))) := by kernel_rfl
theorem tv63 (l : List Knot) : runX ctL noLoops 114 [(⟨l⟩ : Line).av] [4] =
  (.br (lineErr l (1048576 : Int) (68719476736 : Int) == (0 : Int))
   (.leaf (.bool (true)))
   (.leaf (.bool (lineErr l (1099511627776 : Int) (1048576 : Int) == (0 : Int))))) := by kernel_rfl
noncomputable def cRight : Con T := conV Try.prog [.agg [.s 39]] [.l 39] fun d => .bool (decide (isR d.1))
theorem isR_t {l : List Knot} (h : isR l) : AV.bool true = AV.bool (T := T) (decide (isR l)) := by rw [decide_eq_true h]
theorem isR_l {l : List Knot} (h : lineErr l 1048576 68719476736 ≠ 0) : AV.bool (lineErr l (1099511627776 : Int) (1048576 : Int) == (0 : Int)) = AV.bool (T := T) (decide (isR l)) := by
  congr 1
  by_cases h2 : lineErr l 1099511627776 1048576 = 0
  · rw [decide_eq_true (.inr h2)]; simpa using h2
  · rw [decide_eq_false (fun k => k.elim h h2)]; simpa using h2
theorem s61 (l : List Knot) : (runX ctL noLoops 98 [(⟨l⟩ : Line).av] [4]).holds fun x => x = AV.bool (decide (isR l)) := by
  rw [tv61]
  exact wayEq (fun h => isR_t (.inl h)) fun h => isR_l h
theorem right_ok : ConOk Try.prog E 98 cRight := conV_ok fun d => fact_run ctL_ok noLoops_ok (ts := [4]) rfl (s61 d.1)
theorem s63 (l : List Knot) : (runX ctL noLoops 114 [(⟨l⟩ : Line).av] [4]).holds fun x => x = AV.bool (decide (isR l)) := by
  rw [tv63]
  exact wayEq (fun h => isR_t (.inl h)) fun h => isR_l h
theorem right2_ok : ConOk Try.prog E 114 cRight := conV_ok fun d => fact_run ctL_ok noLoops_ok (ts := [4]) rfl (s63 d.1)
/-! ### The program's loop -/
@[reducible] def i62 (x : Int) (l9 : List Knot) (n i : Int) (l : List Knot) : Prop := isR l ∧ l9 = l ∧ n = l.length ∧ 0 ≤ i ∧ i ≤ ixAt l x
noncomputable def c62 : LoopC T := ⟨[.n, .l 39, .n, .n, .l 39, .n, .n], ⟨59, [(1, .one (.i .i64)), (2, .one (.o 0 0)), (4, .one (.o 1 0)), (9, .one (.s 39)), (10, .one (.i .i64)), (11, .one (.i .i64))], [.c [.s 39], .c [.i .i64, .i .i64]]⟩,
  fun e => match e with
    | .ret => ⟨59, [(4, .one (.o 0 0))], [.c [.i .i64, .i .i64]]⟩
    | _ => ⟨59, [(2, .one (.o 0 0)), (4, .one (.o 1 0))], [.c [.s 39], .c [.i .i64, .i .i64]]⟩, 10,
  fun d => .req (i62 d.1 d.2.1 d.2.2.1 d.2.2.2.1 d.2.2.2.2.1) (.br (decide (ixAt d.2.2.2.2.1 d.1 = (d.2.2.2.2.1 : List Knot).length)) (.leaf (.exit 0, [.l 39 d.2.2.2.2.1, .n d.2.2.2.2.2.1, .n d.2.2.2.2.2.2.1])) (.leaf (.ret, [.n (valLo d.2.2.2.2.1 d.1), .n (valHi d.2.2.2.2.1 d.1)])))⟩
theorem b62 (x : Int) (l9 : List Knot) (n i : Int) (l : List Knot) (r0 r1 : Int) : bodyD Try.prog E c62 0 (bodyX Try.prog E ctL noLoops 1000 5 L0 (lpOf Try.prog 99 0)) (x, l9, n, i, l, r0, r1, ()) =
  (.br (decide (i < n))
   (.req ((decide ((0 : Int) ≤ i) && decide (i < (↑(List.length l9) : Int))) = true)
   (.br (decide (x > Knot.At (kn l9 i)))
    (.leaf (.inl (x, (l9, (n, (IntKind.wrap IntKind.i64 (i + (1 : Int)), (l, (r0, (r1, ())))))))))
    (.br (x == Knot.At (kn l9 i))
     (.leaf (.inr (.ret, [.n (Knot.V (kn l9 i)), .n (Knot.V (kn l9 i))])))
     (.br (i == (0 : Int))
      (.leaf (.inr (.ret, [.n (Knot.V (kn l9 i)), .n (Knot.V (kn l9 i))])))
      (.req ((decide ((0 : Int) ≤ IntKind.wrap IntKind.i64 (i - (1 : Int))) && decide (IntKind.wrap IntKind.i64 (i - (1 : Int)) < (↑(List.length l) : Int))) = true)
      (.req (qPre (IntKind.wrap IntKind.i64 (IntKind.wrap IntKind.i64 (Knot.V (kn l9 i) - Knot.V (kn l (IntKind.wrap IntKind.i64 (i - (1 : Int))))) * IntKind.wrap IntKind.i64 (x - Knot.At (kn l (IntKind.wrap IntKind.i64 (i - (1 : Int))))))) (IntKind.wrap IntKind.i64 (Knot.At (kn l9 i) - Knot.At (kn l (IntKind.wrap IntKind.i64 (i - (1 : Int)))))))
      (.req (qPre (IntKind.wrap IntKind.i64 (IntKind.wrap IntKind.i64 (Knot.V (kn l9 i) - Knot.V (kn l (IntKind.wrap IntKind.i64 (i - (1 : Int))))) * IntKind.wrap IntKind.i64 (x - Knot.At (kn l (IntKind.wrap IntKind.i64 (i - (1 : Int))))))) (IntKind.wrap IntKind.i64 (Knot.At (kn l9 i) - Knot.At (kn l (IntKind.wrap IntKind.i64 (i - (1 : Int)))))))
      (.leaf (.inr (.ret, [.n (IntKind.wrap IntKind.i64 (Knot.V (kn l (IntKind.wrap IntKind.i64 (i - (1 : Int)))) + IntKind.wrap IntKind.i64 (IntKind.wrap IntKind.i64 (Knot.V (kn l9 i) - Knot.V (kn l (IntKind.wrap IntKind.i64 (i - (1 : Int))))) * IntKind.wrap IntKind.i64 (x - Knot.At (kn l (IntKind.wrap IntKind.i64 (i - (1 : Int)))))) / IntKind.wrap IntKind.i64 (Knot.At (kn l9 i) - Knot.At (kn l (IntKind.wrap IntKind.i64 (i - (1 : Int))))))), .n (IntKind.wrap IntKind.i64 (Knot.V (kn l (IntKind.wrap IntKind.i64 (i - (1 : Int)))) + -(-IntKind.wrap IntKind.i64 (IntKind.wrap IntKind.i64 (Knot.V (kn l9 i) - Knot.V (kn l (IntKind.wrap IntKind.i64 (i - (1 : Int))))) * IntKind.wrap IntKind.i64 (x - Knot.At (kn l (IntKind.wrap IntKind.i64 (i - (1 : Int)))))) / IntKind.wrap IntKind.i64 (Knot.At (kn l9 i) - Knot.At (kn l (IntKind.wrap IntKind.i64 (i - (1 : Int))))))))]))))))))))
   (.leaf (.inr (.exit (0 : Nat), [.l (39 : Nat) (l), .n (r0), .n (r1)])))) := by kernel_rfl
theorem pc_wrap {a b : Knot} {x m n : Int} (h1 : a.At < x) (h2 : x ≤ b.At) (ha : 0 ≤ a.V ∧ a.V ≤ m) (hb : 0 ≤ b.V ∧ b.V ≤ m) (a0 : 0 ≤ a.At) (hn : b.At ≤ n) (hm : m ≤ 68719476736) (hn2 : n ≤ 1099511627776) (hp : m * n ≤ 1152921504606846976) :
    IntKind.wrap IntKind.i64 (b.V - a.V) = b.V - a.V ∧ IntKind.wrap IntKind.i64 (x - a.At) = x - a.At ∧ IntKind.wrap IntKind.i64 (b.At - a.At) = b.At - a.At ∧ IntKind.wrap IntKind.i64 ((b.V - a.V) * (x - a.At)) = (b.V - a.V) * (x - a.At) ∧
    qPre ((b.V - a.V) * (x - a.At)) (b.At - a.At) ∧ IntKind.wrap IntKind.i64 (a.V + (b.V - a.V) * (x - a.At) / (b.At - a.At)) = pcLo a b x ∧ IntKind.wrap IntKind.i64 (a.V + -(-((b.V - a.V) * (x - a.At)) / (b.At - a.At))) = pcHi a b x := by
  have p := pc_prod h1 h2 ha hb (n := n) (by omega)
  have q := pc_bd h1 h2 ha hb
  have e1 : pcLo a b x = a.V + (b.V - a.V) * (x - a.At) / (b.At - a.At) := rfl
  have e2 : pcHi a b x = a.V + -(-((b.V - a.V) * (x - a.At)) / (b.At - a.At)) := rfl
  refine ⟨i64_in' (by omega) (by omega), i64_in' (by omega) (by omega), i64_in' (by omega) (by omega), i64_in' (by omega) (by omega), ⟨by omega, by omega, by omega⟩, ?_, ?_⟩
  · rw [← e1]; exact i64_in' (by omega) (by omega)
  · rw [← e2]; exact i64_in' (by omega) (by omega)
theorem val_mid {l : List Knot} {x : Int} {i : Nat} (e : ixAt l x = i) (h0 : i ≠ 0) (h1 : i < l.length) : valLo l x = pcLo (kn l ((i : Int) - 1)) (kn l i) x ∧ valHi l x = pcHi (kn l ((i : Int) - 1)) (kn l i) x := by
  unfold valLo valHi
  rw [e]
  rw [if_neg h0, if_neg (by omega), if_neg h0, if_neg (by omega)]
  exact ⟨rfl, rfl⟩
/-- What is known where a place lies between two knots. -/
theorem mid_wrap {l : List Knot} {a v : Int} (h : Rt l a v) {x : Int} {i : Nat} (e : ixAt l x = i) (h0 : i ≠ 0) (h1 : i < l.length) :
    ((kn l ((i : Int) - 1)).At < x ∧ x ≤ (kn l i).At) ∧ (0 ≤ (kn l ((i : Int) - 1)).V ∧ (kn l ((i : Int) - 1)).V ≤ v) ∧ (0 ≤ (kn l i).V ∧ (kn l i).V ≤ v) ∧ 0 ≤ (kn l ((i : Int) - 1)).At ∧ (kn l i).At ≤ a := by
  have k1 := ixAt_before (l := l) (x := x) (i := i - 1) (by omega)
  have k2 := ixAt_there (l := l) (x := x) (by omega)
  have k3 := h.good.bd (i - 1) (by omega)
  have k4 := h.good.bd i h1
  rw [e] at k2
  rw [show ((i - 1 : Nat) : Int) = (i : Int) - 1 by omega] at k1 k3
  exact ⟨⟨k1, k2⟩, k3.2, k4.2, k3.1.1, k4.1.2⟩
theorem h62' (x : Int) (i : Nat) (l : List Knot) (r0 r1 : Int) (K : Ex × List (V T) → Prop) (hr : isR l) (hi : i ≤ ixAt l x) (hK : (Tree.br (decide (ixAt l x = l.length)) (.leaf (.exit 0, [.l 39 l, .n r0, .n r1])) (.leaf (.ret, [.n (valLo l x), .n (valHi l x)])) : Tree (Ex × List (V T))).holds K) :
    (bodyD Try.prog E c62 0 (bodyX Try.prog E ctL noLoops 1000 5 L0 (lpOf Try.prog 99 0)) (x, l, (l.length : Int), (i : Int), l, r0, r1, ())).holds fun y => match y with
    | .inl d' => ((d'.2.2.2.2.1.length : Int) - d'.2.2.2.1).toNat < ((l.length : Int) - (i : Int)).toNat ∧ (c62.out d').holds K
    | .inr y => K y := by
  rw [b62]
  obtain ⟨a, v, R⟩ := isR_rt hr
  have hlen := R.good.len
  have hle := ixAt_le (l := l) (x := x)
  refine way (fun c => wayC (by omega) c fun _ _ => way (fun c2 => ?_) fun c2 => ?_) fun c => ?_
  · have e2 : IntKind.wrap IntKind.i64 ((i : Int) + 1) = ((i + 1 : Nat) : Int) := i64_in' (by omega) (by omega)
    rw [e2]
    have h2 : i + 1 ≤ ixAt l x := by
      rcases Nat.lt_or_eq_of_le hi with h | h
      · exact h
      · have := ixAt_there (l := l) (x := x) (by omega)
        rw [← h] at this
        omega
    have hlt : ((l.length : Int) - ((i + 1 : Nat) : Int)).toNat < ((l.length : Int) - (i : Int)).toNat := by omega
    have h3 : (0 : Int) ≤ ((i + 1 : Nat) : Int) := by omega
    have h4 : ((i + 1 : Nat) : Int) ≤ (ixAt l x : Int) := by omega
    exact ⟨hlt, ⟨hr, rfl, rfl, h3, h4⟩, hK⟩
  · have e : ixAt l x = i := by
      rcases Nat.lt_or_eq_of_le hi with h | h
      · have := ixAt_before h
        omega
      · exact h.symm
    have hK := hK.2 (decide_eq_false (by omega))
    refine wayEq (fun k => ?_) fun k => wayEq (fun k2 => ?_) fun k2 => ?_
    · have := val_knot R.good (i := i) (by omega)
      rw [k, this.1, this.2] at hK
      exact hK
    · have := val_first (l := l) (x := x) (by have : i = 0 := by omega
                                              subst this; simpa using c2)
      rw [this.1, this.2] at hK
      have : i = 0 := by omega
      subst this
      exact hK
    · obtain ⟨⟨q1, q2⟩, q3, q4, q5, q6⟩ := mid_wrap R e (by omega) (by omega)
      obtain ⟨w1, w2, w3, w4, w5, w6, w7⟩ := pc_wrap q1 q2 q3 q4 q5 q6 R.v1 R.a1 R.prod
      have e1 : IntKind.wrap IntKind.i64 ((i : Int) - 1) = (i : Int) - 1 := i64_in' (by omega) (by omega)
      rw [e1]
      have m := val_mid e (by omega) (by omega)
      rw [m.1, m.2] at hK
      show (Tree.req _ _).holds _
      simp only [w1, w2, w3, w4, w6, w7]
      exact wayC (by omega) (by omega) fun _ _ => ⟨w5, w5, hK⟩
  · exact hK.1 (decide_eq_true (by omega))
theorem h62 : LoopH Try.prog E c62 0 (bodyX Try.prog E ctL noLoops 1000 5 L0 (lpOf Try.prog 99 0)) :=
  ⟨fun d => ((d.2.2.2.2.1.length : Int) - d.2.2.2.1).toNat, fun d K hK => by
    obtain ⟨x, l9, n, i, l, r0, r1, ⟨⟩⟩ := d
    obtain ⟨⟨k1, k2, k3, k4, k5⟩, k6⟩ := hK
    have k2 : l9 = l := k2
    have k3 : n = (l.length : Int) := k3
    obtain ⟨m, hm⟩ := Int.eq_ofNat_of_zero_le k4
    have hm : i = (m : Int) := hm
    subst k2; subst k3; subst hm
    have k5 : m ≤ ixAt l9 x := by have : (m : Int) ≤ (ixAt l9 x : Int) := k5; omega
    refine Tree.holds_mono (fun y hy => ?_) (h62' x m l9 r0 r1 K k1 k5 k6)
    cases y with
    | inl d' => exact hy
    | inr y => exact hy⟩
theorem ll62 : LLOk Try.prog E (llOf Try.prog E 99 [(2, c62)]) := llOf_ok fun i hi c hc => by
  have hi : i < 1 := hi
  obtain rfl : i = 0 := by omega
  obtain rfl : c62 = c := Option.some.inj hc
  exact LSnd.mk good names mixes ctL_ok (by decide) h62
/-! ### The reference's loop -/
@[reducible] def i64r (x i : Int) (l : List Knot) : Prop := isR l ∧ (0 ≤ i ∧ i + 1 ≤ ixAt l x) ∧ ixAt l x < l.length
noncomputable def c64 : LoopC T := ⟨[.n, .n, .l 39, .n, .n], ⟨93, [(1, .one (.i .i64)), (2, .one (.o 0 0)), (4, .one (.o 1 0)), (7, .one (.i .i64))], [.c [.s 39], .c [.i .i64, .i .i64]]⟩,
  fun _ => ⟨93, [(1, .one (.i .i64)), (2, .one (.o 0 0)), (4, .one (.o 1 0)), (7, .one (.i .i64))], [.c [.s 39], .c [.i .i64, .i .i64]]⟩, 10,
  fun d => .req (i64r d.1 d.2.1 d.2.2.1) (.leaf (.exit 0, [.n d.1, .n ((ixAt d.2.2.1 d.1 : Int) - 1), .l 39 d.2.2.1, .n d.2.2.2.1, .n d.2.2.2.2.1]))⟩
theorem b64 (x i : Int) (l : List Knot) (r0 r1 : Int) : bodyD Try.prog E c64 0 (bodyX Try.prog E ctL noLoops 1000 5 L0 (lpOf Try.prog 115 0)) (x, i, l, r0, r1, ()) =
  (.req ((decide ((0 : Int) ≤ IntKind.wrap IntKind.i64 (i + (1 : Int))) && decide (IntKind.wrap IntKind.i64 (i + (1 : Int)) < (↑(List.length l) : Int))) = true)
  (.br (decide (Knot.At (kn l (IntKind.wrap IntKind.i64 (i + (1 : Int)))) < x))
   (.leaf (.inl (x, (IntKind.wrap IntKind.i64 (i + (1 : Int)), (l, (r0, (r1, ())))))))
   (.leaf (.inr (.exit (0 : Nat), [.n (x), .n (i), .l (39 : Nat) (l), .n (r0), .n (r1)]))))) := by kernel_rfl
theorem h64' (x : Int) (i : Nat) (l : List Knot) (r0 r1 : Int) (K : Ex × List (V T) → Prop) (hr : isR l) (hi : i + 1 ≤ ixAt l x) (hn : ixAt l x < l.length) (hK : K (.exit 0, [.n x, .n ((ixAt l x : Int) - 1), .l 39 l, .n r0, .n r1])) :
    (bodyD Try.prog E c64 0 (bodyX Try.prog E ctL noLoops 1000 5 L0 (lpOf Try.prog 115 0)) (x, (i : Int), l, r0, r1, ())).holds fun y => match y with
    | .inl d' => ((d'.2.2.1.length : Int) - d'.2.1).toNat < ((l.length : Int) - (i : Int)).toNat ∧ (c64.out d').holds K
    | .inr y => K y := by
  rw [b64]
  obtain ⟨a, v, R⟩ := isR_rt hr
  have hlen := R.good.len
  have e2 : IntKind.wrap IntKind.i64 ((i : Int) + 1) = ((i + 1 : Nat) : Int) := i64_in' (by omega) (by omega)
  rw [e2]
  refine wayC (by omega) (by omega) fun _ _ => way (fun c => ?_) fun c => ?_
  · have h2 : i + 1 + 1 ≤ ixAt l x := by
      rcases Nat.lt_or_eq_of_le hi with h | h
      · exact h
      · have := ixAt_there (l := l) (x := x) (by omega)
        rw [← h] at this
        omega
    have hlt : ((l.length : Int) - ((i + 1 : Nat) : Int)).toNat < ((l.length : Int) - (i : Int)).toNat := by omega
    have h3 : (0 : Int) ≤ ((i + 1 : Nat) : Int) := by omega
    have h4 : ((i + 1 : Nat) : Int) + 1 ≤ (ixAt l x : Int) := by omega
    exact ⟨hlt, ⟨hr, ⟨h3, h4⟩, hn⟩, hK⟩
  · have e : (i : Int) = (ixAt l x : Int) - 1 := by
      rcases Nat.lt_or_eq_of_le hi with h | h
      · have := ixAt_before h
        omega
      · omega
    rw [← e] at hK
    exact hK
theorem h64 : LoopH Try.prog E c64 0 (bodyX Try.prog E ctL noLoops 1000 5 L0 (lpOf Try.prog 115 0)) :=
  ⟨fun d => ((d.2.2.1.length : Int) - d.2.1).toNat, fun d K hK => by
    obtain ⟨x, i, l, r0, r1, ⟨⟩⟩ := d
    obtain ⟨⟨k1, ⟨k2, k3⟩, k4⟩, k6⟩ := hK
    obtain ⟨m, hm⟩ := Int.eq_ofNat_of_zero_le k2
    have hm : i = (m : Int) := hm
    subst hm
    have k3 : m + 1 ≤ ixAt l x := by have : (m : Int) + 1 ≤ (ixAt l x : Int) := k3; omega
    refine Tree.holds_mono (fun y hy => ?_) (h64' x m l r0 r1 K k1 k3 k4 k6)
    cases y with
    | inl d' => exact hy
    | inr y => exact hy⟩
theorem ll64 : LLOk Try.prog E (llOf Try.prog E 115 [(7, c64)]) := llOf_ok fun i hi c hc => by
  have hi : i < 1 := hi
  obtain rfl : i = 0 := by omega
  obtain rfl : c64 = c := Option.some.inj hc
  exact LSnd.mk good names mixes ctL_ok (by decide) h64
/-! ### Values -/
@[reducible] noncomputable def rgV (l : List Knot) (x : Int) : AV T := .agg [i64 (valLo l x), i64 (valHi l x)]
theorem rg_in {l : List Knot} {x a b : Int} (h1 : a = valLo l x) (h2 : b = valHi l x) : AV.agg [.sym .i64 a, .sym .i64 b] = rgV l x := by rw [h1, h2]
theorem tv62 (l : List Knot) (x : Int) : runX ctL (llOf Try.prog E 99 [(2, c62)]) 99 [(⟨l⟩ : Line).av, i64 x] [58] =
  (.req (i62 x l (↑(List.length l) : Int) (0 : Int) l)
  (.br (decide (ixAt l x = List.length l))
   (.req ((decide ((0 : Int) ≤ IntKind.wrap IntKind.i64 ((↑(List.length l) : Int) - (1 : Int))) && decide (IntKind.wrap IntKind.i64 ((↑(List.length l) : Int) - (1 : Int)) < (↑(List.length l) : Int))) = true)
   (.leaf (.agg [.sym .i64 (Knot.V (kn l (IntKind.wrap IntKind.i64 ((↑(List.length l) : Int) - (1 : Int))))), .sym .i64 (Knot.V (kn l (IntKind.wrap IntKind.i64 ((↑(List.length l) : Int) - (1 : Int)))))])))
   (.leaf (.agg [.sym .i64 (valLo l x), .sym .i64 (valHi l x)])))) := by kernel_rfl
theorem tv64 (l : List Knot) (x : Int) : runX ctL (llOf Try.prog E 115 [(7, c64)]) 115 [(⟨l⟩ : Line).av, i64 x] [58] =
  (.req ((true && decide ((0 : Int) < (↑(List.length l) : Int))) = true)
  (.req ((decide ((0 : Int) ≤ IntKind.wrap IntKind.i64 ((↑(List.length l) : Int) - (1 : Int))) && decide (IntKind.wrap IntKind.i64 ((↑(List.length l) : Int) - (1 : Int)) < (↑(List.length l) : Int))) = true)
  (.br (decide (x ≤ Knot.At (kn l (0 : Int))))
   (.leaf (.agg [.sym .i64 (Knot.V (kn l (0 : Int))), .sym .i64 (Knot.V (kn l (0 : Int)))]))
   (.br (decide (x ≥ Knot.At (kn l (IntKind.wrap IntKind.i64 ((↑(List.length l) : Int) - (1 : Int))))))
    (.leaf (.agg [.sym .i64 (Knot.V (kn l (IntKind.wrap IntKind.i64 ((↑(List.length l) : Int) - (1 : Int))))), .sym .i64 (Knot.V (kn l (IntKind.wrap IntKind.i64 ((↑(List.length l) : Int) - (1 : Int)))))]))
    (.req (i64r x (0 : Int) l)
    (.req ((decide ((0 : Int) ≤ (↑(ixAt l x) : Int) - (1 : Int)) && decide ((↑(ixAt l x) : Int) - (1 : Int) < (↑(List.length l) : Int))) = true)
    (.req ((decide ((0 : Int) ≤ IntKind.wrap IntKind.i64 ((↑(ixAt l x) : Int) - (1 : Int) + (1 : Int))) && decide (IntKind.wrap IntKind.i64 ((↑(ixAt l x) : Int) - (1 : Int) + (1 : Int)) < (↑(List.length l) : Int))) = true)
    (.req (qPre (IntKind.wrap IntKind.i64 (IntKind.wrap IntKind.i64 (Knot.V (kn l (IntKind.wrap IntKind.i64 ((↑(ixAt l x) : Int) - (1 : Int) + (1 : Int)))) - Knot.V (kn l ((↑(ixAt l x) : Int) - (1 : Int)))) * IntKind.wrap IntKind.i64 (x - Knot.At (kn l ((↑(ixAt l x) : Int) - (1 : Int)))))) (IntKind.wrap IntKind.i64 (Knot.At (kn l (IntKind.wrap IntKind.i64 ((↑(ixAt l x) : Int) - (1 : Int) + (1 : Int)))) - Knot.At (kn l ((↑(ixAt l x) : Int) - (1 : Int))))))
    (.req (qPre (IntKind.wrap IntKind.i64 ((0 : Int) - IntKind.wrap IntKind.i64 (IntKind.wrap IntKind.i64 (Knot.V (kn l (IntKind.wrap IntKind.i64 ((↑(ixAt l x) : Int) - (1 : Int) + (1 : Int)))) - Knot.V (kn l ((↑(ixAt l x) : Int) - (1 : Int)))) * IntKind.wrap IntKind.i64 (x - Knot.At (kn l ((↑(ixAt l x) : Int) - (1 : Int))))))) (IntKind.wrap IntKind.i64 (Knot.At (kn l (IntKind.wrap IntKind.i64 ((↑(ixAt l x) : Int) - (1 : Int) + (1 : Int)))) - Knot.At (kn l ((↑(ixAt l x) : Int) - (1 : Int))))))
    (.leaf (.agg [.sym .i64 (IntKind.wrap IntKind.i64 (Knot.V (kn l ((↑(ixAt l x) : Int) - (1 : Int))) + IntKind.wrap IntKind.i64 (IntKind.wrap IntKind.i64 (Knot.V (kn l (IntKind.wrap IntKind.i64 ((↑(ixAt l x) : Int) - (1 : Int) + (1 : Int)))) - Knot.V (kn l ((↑(ixAt l x) : Int) - (1 : Int)))) * IntKind.wrap IntKind.i64 (x - Knot.At (kn l ((↑(ixAt l x) : Int) - (1 : Int))))) / IntKind.wrap IntKind.i64 (Knot.At (kn l (IntKind.wrap IntKind.i64 ((↑(ixAt l x) : Int) - (1 : Int) + (1 : Int)))) - Knot.At (kn l ((↑(ixAt l x) : Int) - (1 : Int)))))), .sym .i64 (IntKind.wrap IntKind.i64 (Knot.V (kn l ((↑(ixAt l x) : Int) - (1 : Int))) - IntKind.wrap IntKind.i64 ((0 : Int) - IntKind.wrap IntKind.i64 (IntKind.wrap IntKind.i64 (Knot.V (kn l (IntKind.wrap IntKind.i64 ((↑(ixAt l x) : Int) - (1 : Int) + (1 : Int)))) - Knot.V (kn l ((↑(ixAt l x) : Int) - (1 : Int)))) * IntKind.wrap IntKind.i64 (x - Knot.At (kn l ((↑(ixAt l x) : Int) - (1 : Int)))))) / IntKind.wrap IntKind.i64 (Knot.At (kn l (IntKind.wrap IntKind.i64 ((↑(ixAt l x) : Int) - (1 : Int) + (1 : Int)))) - Knot.At (kn l ((↑(ixAt l x) : Int) - (1 : Int))))))]))))))))))) := by kernel_rfl
theorem s62 (l : List Knot) (x : Int) (hr : isR l) : (runX ctL (llOf Try.prog E 99 [(2, c62)]) 99 [(⟨l⟩ : Line).av, i64 x] [58]).holds fun y => y = rgV l x := by
  rw [tv62]
  obtain ⟨a, v, R⟩ := isR_rt hr
  have hp := R.good.pos
  have hlen := R.good.len
  refine ⟨⟨hr, rfl, rfl, by omega, by omega⟩, way (fun h => ?_) fun h => rfl⟩
  have e1 : IntKind.wrap IntKind.i64 ((l.length : Int) - 1) = (l.length : Int) - 1 := i64_in' (by omega) (by omega)
  rw [e1]
  refine wayC (by omega) (by omega) fun _ _ => rg_in ?_ ?_
  · unfold valLo; rw [if_neg (by omega), if_pos h]
  · unfold valHi; rw [if_neg (by omega), if_pos h]
theorem s64 (l : List Knot) (x : Int) (hr : isR l) : (runX ctL (llOf Try.prog E 115 [(7, c64)]) 115 [(⟨l⟩ : Line).av, i64 x] [58]).holds fun y => y = rgV l x := by
  rw [tv64]
  obtain ⟨a, v, R⟩ := isR_rt hr
  have hp := R.good.pos
  have hlen := R.good.len
  have hle := ixAt_le (l := l) (x := x)
  have e1 : IntKind.wrap IntKind.i64 ((l.length : Int) - 1) = (l.length : Int) - 1 := i64_in' (by omega) (by omega)
  rw [e1]
  refine ⟨by simpa using hp, wayC (by omega) (by omega) fun _ _ => way (fun c => ?_) fun c => way (fun c2 => ?_) fun c2 => ?_⟩
  · have := val_first (l := l) (x := x) c
    exact rg_in this.1.symm this.2.symm
  · have := val_last R.good (x := x) c2
    exact rg_in this.1.symm this.2.symm
  · have k1 : ixAt l x ≠ 0 := fun h => by
      have := ixAt_there (l := l) (x := x) (by omega)
      rw [h] at this
      exact c this
    have k2 : ixAt l x < l.length := by
      rcases Nat.lt_or_eq_of_le hle with h | h
      · exact h
      · have := ixAt_before (l := l) (x := x) (i := l.length - 1) (by omega)
        rw [show ((l.length - 1 : Nat) : Int) = (l.length : Int) - 1 by omega] at this
        omega
    obtain ⟨⟨q1, q2⟩, q3, q4, q5, q6⟩ := mid_wrap R rfl k1 k2
    obtain ⟨w1, w2, w3, w4, w5, w6, w7⟩ := pc_wrap q1 q2 q3 q4 q5 q6 R.v1 R.a1 R.prod
    have m := val_mid (l := l) (x := x) rfl k1 k2
    have e3 : IntKind.wrap IntKind.i64 ((ixAt l x : Int) - 1 + 1) = (ixAt l x : Int) := by rw [i64_in' (by omega) (by omega)]; omega
    have e4 : IntKind.wrap IntKind.i64 (0 - ((kn l (ixAt l x)).V - (kn l ((ixAt l x : Int) - 1)).V) * (x - (kn l ((ixAt l x : Int) - 1)).At)) = -(((kn l (ixAt l x)).V - (kn l ((ixAt l x : Int) - 1)).V) * (x - (kn l ((ixAt l x : Int) - 1)).At)) := by
      rw [i64_in' (by have := w5; omega) (by have := w5; omega)]; omega
    have e5 : pcHi (kn l ((ixAt l x : Int) - 1)) (kn l (ixAt l x)) x = (kn l ((ixAt l x : Int) - 1)).V - -(((kn l (ixAt l x)).V - (kn l ((ixAt l x : Int) - 1)).V) * (x - (kn l ((ixAt l x : Int) - 1)).At)) / ((kn l (ixAt l x)).At - (kn l ((ixAt l x : Int) - 1)).At) := by
      unfold pcHi; omega
    have w8 : IntKind.wrap IntKind.i64 ((kn l ((ixAt l x : Int) - 1)).V - -(((kn l (ixAt l x)).V - (kn l ((ixAt l x : Int) - 1)).V) * (x - (kn l ((ixAt l x : Int) - 1)).At)) / ((kn l (ixAt l x)).At - (kn l ((ixAt l x : Int) - 1)).At)) = pcHi (kn l ((ixAt l x : Int) - 1)) (kn l (ixAt l x)) x := by
      rw [← e5]
      have := (pc_bd q1 q2 q3 q4)
      exact i64_in' (by omega) (by have := R.v1; omega)
    simp only [e3, w1, w2, w3, w4, e4, w6, w8]
    exact ⟨⟨hr, ⟨by omega, by omega⟩, k2⟩, wayC (by omega) (by omega) fun _ _ => wayC (by omega) (by omega) fun _ _ => ⟨w5, ⟨w5.1, by have := w5; omega, by have := w5; omega⟩, rg_in m.1.symm m.2.symm⟩⟩
noncomputable def cVal : Con T := conP Try.prog [.agg [.s 39], .one (.i .i64)] [.l 39, .n] (fun d => isR d.1) fun d => rgV d.1 d.2.1
theorem val_ok : ConOk Try.prog E 99 cVal := conP_ok fun d hd => fact_run ctL_ok ll62 (ts := [58]) rfl (s62 d.1 d.2.1 hd)
theorem val2_ok : ConOk Try.prog E 115 cVal := conP_ok fun d hd => fact_run ctL_ok ll64 (ts := [58]) rfl (s64 d.1 d.2.1 hd)
end Go.Proofs.Ytcddppakogialaa.W
