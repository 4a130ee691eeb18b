/- Lines: the first error of a line, and its values. No condition. -/
import Derived.Test.YtcddppakogialaaA
import Derived.Test.YtcddppakogialaaCz8
set_option linter.unusedVariables false
set_option maxRecDepth 100000
noncomputable section
namespace Go.Proofs.Ytcddppakogialaa.W
open Go Go.Cx Go.RowKit
noncomputable def kn (l : List Knot) (i : Int) : Knot := ixD E 39 l i
/-! ### Lines -/
structure Good (l : List Knot) (a v : Int) : Prop where
  pos : 0 < l.length
  len : l.length ≤ 24
  bd : ∀ i : Nat, i < l.length → (0 ≤ (kn l i).At ∧ (kn l i).At ≤ a) ∧ 0 ≤ (kn l i).V ∧ (kn l i).V ≤ v
  up : ∀ i : Nat, i + 1 < l.length → (kn l i).At < (kn l (i + 1 : Nat)).At
theorem Good.lt {l : List Knot} {a v : Int} (h : Good l a v) : ∀ {i j : Nat}, i < j → j < l.length → (kn l i).At < (kn l j).At := by
  intro i j hij hj
  induction j with
  | zero => omega
  | succ j ih =>
    have h1 := h.up j hj
    rcases Nat.lt_or_ge i j with k | k
    · exact Int.lt_trans (ih k (by omega)) h1
    · obtain rfl : i = j := by omega
      exact h1
theorem Good.le {l : List Knot} {a v : Int} (h : Good l a v) {i j : Nat} (hij : i ≤ j) (hj : j < l.length) : (kn l i).At ≤ (kn l j).At := by
  rcases Nat.lt_or_ge i j with k | k
  · exact Int.le_of_lt (h.lt k hj)
  · obtain rfl : i = j := by omega
    exact Int.le_refl _
/-- The first knot that is not before x. -/
noncomputable def ixAt (l : List Knot) (x : Int) : Nat := l.findIdx fun k => decide (x ≤ k.At)
theorem kn_get {l : List Knot} {i : Nat} (h : i < l.length) : kn l i = l[i] := by
  show Option.getD ((l : List Knot)[((i : Nat) : Int).toNat]?) (⟨0, 0⟩ : Knot) = _
  rw [Int.toNat_natCast, List.getElem?_eq_getElem h]
  rfl
theorem ixAt_le {l : List Knot} {x : Int} : ixAt l x ≤ l.length := List.findIdx_le_length
theorem ixAt_before {l : List Knot} {x : Int} {i : Nat} (h : i < ixAt l x) : (kn l i).At < x := by
  have h' := ixAt_le (l := l) (x := x)
  have := List.not_of_lt_findIdx (p := fun k : Knot => decide (x ≤ k.At)) h
  rw [kn_get (by omega)]
  simpa using this
theorem ixAt_there {l : List Knot} {x : Int} (h : ixAt l x < l.length) : x ≤ (kn l (ixAt l x)).At := by
  rw [kn_get h]
  have := List.findIdx_getElem (p := fun k : Knot => decide (x ≤ k.At)) (xs := l) (w := h)
  exact of_decide_eq_true this
theorem ixAt_eq {l : List Knot} {x : Int} {i : Nat} (hi : i ≤ l.length) (h1 : ∀ j : Nat, j < i → (kn l j).At < x) (h2 : i < l.length → x ≤ (kn l i).At) : ixAt l x = i := by
  rcases Nat.lt_trichotomy (ixAt l x) i with h | h | h
  · have a := h1 _ h
    have b := ixAt_there (l := l) (x := x) (by omega)
    omega
  · exact h
  · have a := ixAt_before h
    have b := ixAt_le (l := l) (x := x)
    have c := h2 (by omega)
    omega
/-- The piece between two knots, at x: rounded down, and up. -/
noncomputable def pcLo (a b : Knot) (x : Int) : Int := a.V + (b.V - a.V) * (x - a.At) / (b.At - a.At)
noncomputable def pcHi (a b : Knot) (x : Int) : Int := a.V + -(-((b.V - a.V) * (x - a.At)) / (b.At - a.At))
noncomputable def valLo (l : List Knot) (x : Int) : Int := if ixAt l x = 0 then (kn l 0).V else if ixAt l x = l.length then (kn l ((l.length : Int) - 1)).V else pcLo (kn l ((ixAt l x : Int) - 1)) (kn l (ixAt l x)) x
noncomputable def valHi (l : List Knot) (x : Int) : Int := if ixAt l x = 0 then (kn l 0).V else if ixAt l x = l.length then (kn l ((l.length : Int) - 1)).V else pcHi (kn l ((ixAt l x : Int) - 1)) (kn l (ixAt l x)) x
theorem pc_end {a b : Knot} (h : a.At < b.At) : pcLo a b b.At = b.V ∧ pcHi a b b.At = b.V := by
  unfold pcLo pcHi
  have h0 : b.At - a.At ≠ 0 := by omega
  rw [← Int.neg_mul, Int.mul_ediv_cancel _ h0, Int.mul_ediv_cancel _ h0]
  omega
/-- What lies between two numbers, in parts. -/
theorem part_bd {d w t : Int} (h0 : 0 ≤ t) (h1 : t ≤ w) (hw : 0 < w) : (0 ≤ d → 0 ≤ d * t / w ∧ -(-(d * t) / w) ≤ d) ∧ (d ≤ 0 → d ≤ d * t / w ∧ -(-(d * t) / w) ≤ 0) := by
  refine ⟨fun hd => ⟨Int.ediv_nonneg (Int.mul_nonneg hd h0) (by omega), ?_⟩, fun hd => ⟨?_, ?_⟩⟩
  · have a := Int.mul_le_mul_of_nonneg_left h1 hd
    have : -d * w ≤ -(d * t) := by rw [Int.neg_mul]; omega
    have := Int.le_ediv_of_mul_le hw this
    omega
  · have a := Int.mul_le_mul_of_nonpos_left hd h1
    exact Int.le_ediv_of_mul_le hw a
  · have a : 0 ≤ -(d * t) := by
      have := Int.mul_nonneg (show 0 ≤ -d by omega) h0
      rw [Int.neg_mul] at this
      omega
    have := Int.ediv_nonneg a (show 0 ≤ w by omega)
    omega
theorem pc_bd {a b : Knot} {x m : Int} (h1 : a.At < x) (h2 : x ≤ b.At) (ha : 0 ≤ a.V ∧ a.V ≤ m) (hb : 0 ≤ b.V ∧ b.V ≤ m) : (0 ≤ pcLo a b x ∧ pcHi a b x ≤ m) ∧ pcLo a b x ≤ pcHi a b x ∧ pcHi a b x ≤ pcLo a b x + 1 := by
  have hw : 0 < b.At - a.At := by omega
  have p := part_bd (d := b.V - a.V) (show 0 ≤ x - a.At by omega) (show x - a.At ≤ b.At - a.At by omega) hw
  have u := up_down (f := (b.V - a.V) * (x - a.At)) hw
  unfold pcLo pcHi
  rcases Int.le_total 0 (b.V - a.V) with h | h
  · have := p.1 h
    omega
  · have := p.2 h
    omega
theorem pc_prod {a b : Knot} {x m n : Int} (h1 : a.At < x) (h2 : x ≤ b.At) (ha : 0 ≤ a.V ∧ a.V ≤ m) (hb : 0 ≤ b.V ∧ b.V ≤ m) (hn : b.At - a.At ≤ n) : -(m * n) ≤ (b.V - a.V) * (x - a.At) ∧ (b.V - a.V) * (x - a.At) ≤ m * n := by
  rcases Int.le_total 0 (b.V - a.V) with h | h
  · have := mulb h (show b.V - a.V ≤ m by omega) (show 0 ≤ x - a.At by omega) (show x - a.At ≤ n by omega)
    omega
  · have := mulb (show 0 ≤ -(b.V - a.V) by omega) (show -(b.V - a.V) ≤ m by omega) (show 0 ≤ x - a.At by omega) (show x - a.At ≤ n by omega)
    rw [Int.neg_mul] at this
    omega
theorem val_first {l : List Knot} {x : Int} (hx : x ≤ (kn l 0).At) : valLo l x = (kn l 0).V ∧ valHi l x = (kn l 0).V := by
  have e : ixAt l x = 0 := ixAt_eq (by omega) (fun j hj => by omega) fun _ => hx
  unfold valLo valHi
  rw [if_pos e, if_pos e]
  exact ⟨rfl, rfl⟩
section
variable {l : List Knot} {a v : Int} (h : Good l a v)
include h
theorem val_bd (x : Int) : (0 ≤ valLo l x ∧ valHi l x ≤ v) ∧ valLo l x ≤ valHi l x ∧ valHi l x ≤ valLo l x + 1 := by
  unfold valLo valHi
  have hp := h.pos
  split
  · have := h.bd 0 hp
    simp only [Int.natCast_zero] at this
    omega
  · split
    · have := h.bd (l.length - 1) (by omega)
      rw [show ((l.length - 1 : Nat) : Int) = (l.length : Int) - 1 by omega] at this
      omega
    · have hle := ixAt_le (l := l) (x := x)
      rename_i h0 hn
      have e : ((ixAt l x - 1 : Nat) : Int) = (ixAt l x : Int) - 1 := by omega
      have k1 := ixAt_before (l := l) (x := x) (i := ixAt l x - 1) (by omega)
      have k2 := ixAt_there (l := l) (x := x) (by omega)
      have k3 := h.bd (ixAt l x - 1) (by omega)
      have k4 := h.bd (ixAt l x) (by omega)
      rw [e] at k1 k3
      exact pc_bd k1 k2 k3.2 k4.2
theorem val_knot {i : Nat} (hi : i < l.length) : valLo l (kn l i).At = (kn l i).V ∧ valHi l (kn l i).At = (kn l i).V := by
  have e : ixAt l (kn l i).At = i := ixAt_eq (by omega) (fun j hj => h.lt hj hi) fun _ => Int.le_refl _
  unfold valLo valHi
  rw [e]
  split
  · rename_i h0
    subst h0
    exact ⟨rfl, rfl⟩
  · rw [if_neg (by omega), if_neg (by omega)]
    have := h.up (i - 1) (by omega)
    rw [show i - 1 + 1 = i by omega, show ((i - 1 : Nat) : Int) = (i : Int) - 1 by omega] at this
    exact pc_end this
theorem val_last {x : Int} (hx : (kn l ((l.length : Int) - 1)).At ≤ x) : valLo l x = (kn l ((l.length : Int) - 1)).V ∧ valHi l x = (kn l ((l.length : Int) - 1)).V := by
  rcases Int.lt_or_eq_of_le hx with hx | hx
  · have hp := h.pos
    have e : ixAt l x = l.length := ixAt_eq (by omega) (fun j hj => by
      have := h.le (i := j) (j := l.length - 1) (by omega) (by omega)
      rw [show ((l.length - 1 : Nat) : Int) = (l.length : Int) - 1 by omega] at this
      omega) fun k => by omega
    unfold valLo valHi
    rw [if_neg (show ¬ ixAt l x = 0 by omega), if_pos e, if_neg (show ¬ ixAt l x = 0 by omega), if_pos e]
    exact ⟨rfl, rfl⟩
  · have hp := h.pos
    have := val_knot h (i := l.length - 1) (by omega)
    rw [show ((l.length - 1 : Nat) : Int) = (l.length : Int) - 1 by omega] at this
    rw [← hx]
    exact this
end

/-! ### The first error -/
noncomputable def chkI (at' v : Int) (l : List Knot) (i : Nat) : Int :=
  if i < l.length then
    (if (kn l i).At < 0 ∨ (kn l i).At > at' ∨ (kn l i).V < 0 ∨ (kn l i).V > v then 2
    else if 0 < i ∧ (kn l i).At ≤ (kn l ((i : Int) - 1)).At then 11
    else chkI at' v l (i + 1))
  else 0
termination_by l.length - i
theorem chkI_eq (at' v : Int) (l : List Knot) (i : Nat) : chkI at' v l i = if i < l.length then
    (if (kn l i).At < 0 ∨ (kn l i).At > at' ∨ (kn l i).V < 0 ∨ (kn l i).V > v then 2
    else if 0 < i ∧ (kn l i).At ≤ (kn l ((i : Int) - 1)).At then 11
    else chkI at' v l (i + 1))
  else 0 := by rw [chkI]
theorem chkI_zero {at' v : Int} {l : List Knot} : ∀ (n i : Nat), l.length - i = n → chkI at' v l i = 0 → ∀ j : Nat, i ≤ j → j < l.length → ((0 ≤ (kn l j).At ∧ (kn l j).At ≤ at') ∧ 0 ≤ (kn l j).V ∧ (kn l j).V ≤ v) ∧ (0 < j → (kn l ((j : Int) - 1)).At < (kn l j).At)
  | 0, i, hn, _, j, h1, h2 => by omega
  | n + 1, i, hn, h, j, h1, h2 => by
    rw [chkI_eq, if_pos (by omega)] at h
    split at h
    · omega
    · rename_i a1
      split at h
      · omega
      · rename_i a2
        rcases Nat.eq_or_lt_of_le h1 with rfl | h1
        · omega
        · exact chkI_zero n (i + 1) (by omega) h j h1 h2
noncomputable def lineErr (l : List Knot) (at' v : Int) : Int :=
  if at' < 0 ∨ at' > 1099511627776 ∨ v < 0 ∨ v > 68719476736 then 2 else if l.length = 0 then 6 else if l.length > 24 then 8 else chkI at' v l 0
theorem lineErr_good {l : List Knot} {a v : Int} (h : lineErr l a v = 0) : Good l a v ∧ (0 ≤ a ∧ a ≤ 1099511627776) ∧ 0 ≤ v ∧ v ≤ 68719476736 := by
  unfold lineErr at h
  split at h
  · omega
  split at h
  · omega
  split at h
  · omega
  have k := fun (j : Nat) (hj : j < l.length) => chkI_zero l.length 0 (by omega) h j (by omega) hj
  refine ⟨⟨by omega, by omega, fun i hi => (k i hi).1, fun i hi => ?_⟩, by omega, by omega⟩
  have := (k (i + 1) hi).2 (by omega)
  rw [show ((i + 1 : Nat) : Int) - 1 = (i : Int) by omega] at this
  exact this
noncomputable def o19 (at' v i : Int) (l : List Knot) : Tree (Ex × List (V T)) :=
  .req (0 ≤ i ∧ (l.length : Int) ≤ 24) (.br (decide (chkI at' v l i.toNat = 0)) (.leaf (.exit 0, [])) (.leaf (.ret, [.n (chkI at' v l i.toNat)])))
noncomputable def c19 : LoopC T := ⟨[.n, .n, .n, .l 39], ⟨77, [(1, .one (.i .i64)), (2, .one (.i .i64)), (3, .one (.o 0 0)), (7, .one (.i .i64))], [.c [.s 39]]⟩,
  fun e => match e with
    | .ret => ⟨77, [(6, .one (.i .i64))], []⟩
    | _ => ⟨77, [], []⟩, 10, fun d => o19 d.1 d.2.1 d.2.2.1 d.2.2.2.1⟩
theorem b19 (at' v i : Int) (l : List Knot) : bodyD Try.prog E c19 0 (bodyX Try.prog E [] noLoops 1000 5 L0 (lpOf Try.prog 103 0)) (at', v, i, l, ()) =
  (.br (decide (i < (↑(List.length l) : Int)))
   (.req ((decide ((0 : Int) ≤ i) && decide (i < (↑(List.length l) : Int))) = true)
   (.br (decide (Knot.At (kn l i) < (0 : Int)))
    (.leaf (.inr (.ret, [.n ((2 : Int))])))
    (.br (decide (Knot.At (kn l i) > at'))
     (.leaf (.inr (.ret, [.n ((2 : Int))])))
     (.br (decide (Knot.V (kn l i) < (0 : Int)))
      (.leaf (.inr (.ret, [.n ((2 : Int))])))
      (.br (decide (Knot.V (kn l i) > v))
       (.leaf (.inr (.ret, [.n ((2 : Int))])))
       (.br (decide (i > (0 : Int)))
        (.req ((decide ((0 : Int) ≤ IntKind.wrap IntKind.i64 (i - (1 : Int))) && decide (IntKind.wrap IntKind.i64 (i - (1 : Int)) < (↑(List.length l) : Int))) = true)
        (.br (decide (Knot.At (kn l i) ≤ Knot.At (kn l (IntKind.wrap IntKind.i64 (i - (1 : Int))))))
         (.leaf (.inr (.ret, [.n ((11 : Int))])))
         (.leaf (.inl (at', (v, (IntKind.wrap IntKind.i64 (i + (1 : Int)), (l, ()))))))))
        (.leaf (.inl (at', (v, (IntKind.wrap IntKind.i64 (i + (1 : Int)), (l, ()))))))))))))
   (.leaf (.inr (.exit (0 : Nat), [])))) := by kernel_rfl
theorem h19' (at' v i : Int) (l : List Knot) (K : Ex × List (V T) → Prop) (hK : (o19 at' v i l).holds K) : (bodyD Try.prog E c19 0 (bodyX Try.prog E [] noLoops 1000 5 L0 (lpOf Try.prog 103 0)) (at', v, i, l, ())).holds fun y => match y with
    | .inl d' => ((d'.2.2.2.1.length : Int) - d'.2.2.1).toNat < ((l.length : Int) - i).toNat ∧ (c19.out d').holds K
    | .inr y => K y := by
  rw [b19 at' v i l]
  obtain ⟨⟨h0, hlen⟩, hK⟩ := hK
  obtain ⟨n, rfl⟩ := Int.eq_ofNat_of_zero_le h0
  rw [Int.toNat_natCast, chkI_eq] at hK
  refine way (fun c => ?_) fun c => ?_
  · rw [if_pos (by omega)] at hK
    have e2 : IntKind.wrap IntKind.i64 ((n : Int) + 1) = ((n + 1 : Nat) : Int) := i64_in' (by omega) (by omega)
    rw [e2]
    have next : (¬ ((kn l n).At < 0 ∨ (kn l n).At > at' ∨ (kn l n).V < 0 ∨ (kn l n).V > v)) → ¬ (0 < n ∧ (kn l n).At ≤ (kn l ((n : Int) - 1)).At) →
        ((l.length : Int) - (n + 1 : Nat)).toNat < ((l.length : Int) - n).toNat ∧ (o19 at' v ((n + 1 : Nat) : Int) l).holds K := by
      intro b1 b2
      rw [if_neg b1, if_neg b2] at hK
      exact ⟨by omega, ⟨by omega, hlen⟩, hK⟩
    refine wayC h0 c fun _ _ => way (fun c1 => ?_) fun c1 => way (fun c2 => ?_) fun c2 => way (fun c3 => ?_) fun c3 => way (fun c4 => ?_) fun c4 => way (fun c5 => ?_) fun c5 => ?_
    · rw [if_pos (.inl c1)] at hK; exact hK.2 (by decide)
    · rw [if_pos (.inr (.inl c2))] at hK; exact hK.2 (by decide)
    · rw [if_pos (.inr (.inr (.inl c3)))] at hK; exact hK.2 (by decide)
    · rw [if_pos (.inr (.inr (.inr c4)))] at hK; exact hK.2 (by decide)
    · have e1 : IntKind.wrap IntKind.i64 ((n : Int) - 1) = (n : Int) - 1 := i64_in' (by omega) (by omega)
      rw [e1]
      have b1 : ¬ ((kn l n).At < 0 ∨ (kn l n).At > at' ∨ (kn l n).V < 0 ∨ (kn l n).V > v) := by omega
      refine wayC (by omega) (by omega) fun _ _ => way (fun c6 => ?_) fun c6 => next b1 fun h => c6 h.2
      rw [if_neg b1, if_pos ⟨by omega, c6⟩] at hK; exact hK.2 (by decide)
    · exact next (by omega) fun h => by omega
  · rw [if_neg (by omega)] at hK
    exact hK.1 rfl
theorem h19 : LoopH Try.prog E c19 0 (bodyX Try.prog E [] noLoops 1000 5 L0 (lpOf Try.prog 103 0)) := ⟨fun d => ((d.2.2.2.1.length : Int) - d.2.2.1).toNat, fun d K hK => by
  obtain ⟨at', v, i, l, ⟨⟩⟩ := d
  refine Tree.holds_mono (fun y hy => ?_) (h19' at' v i l K hK)
  cases y <;> exact hy⟩
noncomputable def o18 (at' v n i : Int) (l k : List Knot) : Tree (Ex × List (V T)) := .req (n = l.length ∧ k = l) (o19 at' v i l)
noncomputable def c18 : LoopC T := ⟨[.n, .n, .n, .n, .l 39, .l 39], ⟨60, [(1, .one (.i .i64)), (2, .one (.i .i64)), (27, .one (.i .i64)), (28, .one (.i .i64)), (26, .one (.s 39)), (3, .one (.o 0 0))], [.c [.s 39]]⟩,
  fun e => match e with
    | .ret => ⟨60, [(6, .one (.i .i64))], []⟩
    | _ => ⟨60, [], []⟩, 10, fun d => o18 d.1 d.2.1 d.2.2.1 d.2.2.2.1 d.2.2.2.2.1 d.2.2.2.2.2.1⟩
noncomputable def ctW : CTab T := [(61, cWithin)]
theorem ctW_ok : CTabOk Try.prog E ctW := .cons within_ok .nil
theorem b18 (at' v n i : Int) (l k : List Knot) : bodyD Try.prog E c18 0 (bodyX Try.prog E ctW noLoops 1000 5 L0 (lpOf Try.prog 102 0)) (at', v, n, i, l, k, ()) =
  (.br (decide (i < n))
   (.req ((decide ((0 : Int) ≤ i) && decide (i < (↑(List.length l) : Int))) = true)
   (.br (!within (Knot.At (kn l i)) (0 : Int) at')
    (.leaf (.inr (.ret, [.n ((2 : Int))])))
    (.br (!within (Knot.V (kn l i)) (0 : Int) v)
     (.leaf (.inr (.ret, [.n ((2 : Int))])))
     (.br (decide (i > (0 : Int)))
      (.req ((decide ((0 : Int) ≤ IntKind.wrap IntKind.i64 (i - (1 : Int))) && decide (IntKind.wrap IntKind.i64 (i - (1 : Int)) < (↑(List.length k) : Int))) = true)
      (.br (decide (Knot.At (kn l i) ≤ Knot.At (kn k (IntKind.wrap IntKind.i64 (i - (1 : Int))))))
       (.leaf (.inr (.ret, [.n ((11 : Int))])))
       (.leaf (.inl (at', (v, (n, (IntKind.wrap IntKind.i64 (i + (1 : Int)), (l, (k, ()))))))))))
      (.leaf (.inl (at', (v, (n, (IntKind.wrap IntKind.i64 (i + (1 : Int)), (l, (k, ()))))))))))))
   (.leaf (.inr (.exit (0 : Nat), [])))) := by kernel_rfl
theorem h18' (at' v n' i : Int) (l k : List Knot) (K : Ex × List (V T) → Prop) (hK : (o18 at' v n' i l k).holds K) : (bodyD Try.prog E c18 0 (bodyX Try.prog E ctW noLoops 1000 5 L0 (lpOf Try.prog 102 0)) (at', v, n', i, l, k, ())).holds fun y => match y with
    | .inl d' => ((d'.2.2.2.2.1.length : Int) - d'.2.2.2.1).toNat < ((l.length : Int) - i).toNat ∧ (c18.out d').holds K
    | .inr y => K y := by
  rw [b18 at' v n' i l k]
  obtain ⟨⟨rfl, rfl⟩, ⟨h0, hlen⟩, hK⟩ := hK
  obtain ⟨n, rfl⟩ := Int.eq_ofNat_of_zero_le h0
  rw [Int.toNat_natCast, chkI_eq] at hK
  refine way (fun c => ?_) fun c => ?_
  · rw [if_pos (by omega)] at hK
    have e2 : IntKind.wrap IntKind.i64 ((n : Int) + 1) = ((n + 1 : Nat) : Int) := i64_in' (by omega) (by omega)
    rw [e2]
    have next : (¬ ((kn k n).At < 0 ∨ (kn k n).At > at' ∨ (kn k n).V < 0 ∨ (kn k n).V > v)) → ¬ (0 < n ∧ (kn k n).At ≤ (kn k ((n : Int) - 1)).At) →
        ((k.length : Int) - (n + 1 : Nat)).toNat < ((k.length : Int) - n).toNat ∧ (o18 at' v k.length ((n + 1 : Nat) : Int) k k).holds K := by
      intro b1 b2
      rw [if_neg b1, if_neg b2] at hK
      exact ⟨by omega, ⟨rfl, rfl⟩, ⟨by omega, hlen⟩, hK⟩
    refine wayC h0 c fun _ _ => wayN (fun c1 => ?_) fun c1 => wayN (fun c3 => ?_) fun c3 => way (fun c5 => ?_) fun c5 => ?_
    · rw [if_pos (by omega)] at hK; exact hK.2 (by decide)
    · rw [if_pos (by omega)] at hK; exact hK.2 (by decide)
    · have e1 : IntKind.wrap IntKind.i64 ((n : Int) - 1) = (n : Int) - 1 := i64_in' (by omega) (by omega)
      rw [e1]
      have b1 : ¬ ((kn k n).At < 0 ∨ (kn k n).At > at' ∨ (kn k n).V < 0 ∨ (kn k n).V > v) := by omega
      refine wayC (by omega) (by omega) fun _ _ => way (fun c6 => ?_) fun c6 => next b1 fun h => c6 h.2
      rw [if_neg b1, if_pos ⟨by omega, c6⟩] at hK; exact hK.2 (by decide)
    · exact next (by omega) fun h => by omega
  · rw [if_neg (by omega)] at hK
    exact hK.1 rfl
theorem h18 : LoopH Try.prog E c18 0 (bodyX Try.prog E ctW noLoops 1000 5 L0 (lpOf Try.prog 102 0)) := ⟨fun d => ((d.2.2.2.2.1.length : Int) - d.2.2.2.1).toNat, fun d K hK => by
  obtain ⟨at', v, n, i, l, k, ⟨⟩⟩ := d
  refine Tree.holds_mono (fun y hy => ?_) (h18' at' v n i l k K hK)
  cases y <;> exact hy⟩
theorem ll19 : LLOk Try.prog E (llOf Try.prog E 103 [(8, c19)]) := llOf_ok fun i hi c hc => by
  have hi : i < 1 := hi
  obtain rfl : i = 0 := by omega
  obtain rfl : c19 = c := Option.some.inj hc
  exact LSnd.mk good names mixes .nil (by decide) h19
theorem ll18 : LLOk Try.prog E (llOf Try.prog E 102 [(8, c18)]) := llOf_ok fun i hi c hc => by
  have hi : i < 1 := hi
  obtain rfl : i = 0 := by omega
  obtain rfl : c18 = c := Option.some.inj hc
  exact LSnd.mk good names mixes ctW_ok (by decide) h18
theorem tv19 (l : List Knot) (at' v : Int) : runX [] (llOf Try.prog E 103 [(8, c19)]) 103 [(⟨l⟩ : Line).av, i64 at', i64 v] [30] =
  (.br (decide (at' < (0 : Int)))
   (.leaf (.sym .i64 ((2 : Int))))
   (.br (decide (at' > (1099511627776 : Int)))
    (.leaf (.sym .i64 ((2 : Int))))
    (.br (decide (v < (0 : Int)))
     (.leaf (.sym .i64 ((2 : Int))))
     (.br (decide (v > (68719476736 : Int)))
      (.leaf (.sym .i64 ((2 : Int))))
      (.br ((↑(List.length l) : Int) == (0 : Int))
       (.leaf (.sym .i64 ((6 : Int))))
       (.br (decide ((↑(List.length l) : Int) > (24 : Int)))
        (.leaf (.sym .i64 ((8 : Int))))
        (.req ((0 : Int) ≤ (0 : Int) ∧ (↑(List.length l) : Int) ≤ (24 : Int))
        (.br (decide (chkI at' v l (Int.toNat (0 : Int)) = (0 : Int)))
         (.leaf (.sym .i64 ((0 : Int))))
         (.leaf (.sym .i64 (chkI at' v l (Int.toNat (0 : Int))))))))))))) := by kernel_rfl
theorem tv18 (l : List Knot) (at' v : Int) : runX ctW (llOf Try.prog E 102 [(8, c18)]) 102 [(⟨l⟩ : Line).av, i64 at', i64 v] [30] =
  (.br (!within at' (0 : Int) (1099511627776 : Int))
   (.leaf (.sym .i64 ((2 : Int))))
   (.br (!within v (0 : Int) (68719476736 : Int))
    (.leaf (.sym .i64 ((2 : Int))))
    (.br ((↑(List.length l) : Int) == (0 : Int))
     (.leaf (.sym .i64 ((6 : Int))))
     (.br (decide ((↑(List.length l) : Int) > (24 : Int)))
      (.leaf (.sym .i64 ((8 : Int))))
      (.req ((↑(List.length l) : Int) = (↑(List.length l) : Int) ∧ l = l)
      (.req ((0 : Int) ≤ (0 : Int) ∧ (↑(List.length l) : Int) ≤ (24 : Int))
      (.br (decide (chkI at' v l (Int.toNat (0 : Int)) = (0 : Int)))
       (.leaf (.sym .i64 ((0 : Int))))
       (.leaf (.sym .i64 (chkI at' v l (Int.toNat (0 : Int)))))))))))) := by kernel_rfl
theorem le_2 {l : List Knot} {a v : Int} (h : a < 0 ∨ a > 1099511627776 ∨ v < 0 ∨ v > 68719476736) : i64 2 = i64 (lineErr l a v) := by unfold lineErr; rw [if_pos h]
theorem le_6 {l : List Knot} {a v : Int} (h : ¬ (a < 0 ∨ a > 1099511627776 ∨ v < 0 ∨ v > 68719476736)) (h1 : (l.length : Int) = 0) : i64 6 = i64 (lineErr l a v) := by unfold lineErr; rw [if_neg h, if_pos (by omega)]
theorem le_8 {l : List Knot} {a v : Int} (h : ¬ (a < 0 ∨ a > 1099511627776 ∨ v < 0 ∨ v > 68719476736)) (h1 : (l.length : Int) > 24) : i64 8 = i64 (lineErr l a v) := by unfold lineErr; rw [if_neg h, if_neg (by omega), if_pos (by omega)]
theorem le_c {l : List Knot} {a v : Int} (h : ¬ (a < 0 ∨ a > 1099511627776 ∨ v < 0 ∨ v > 68719476736)) (h0 : (l.length : Int) ≠ 0) (h1 : ¬ (l.length : Int) > 24) : lineErr l a v = chkI a v l 0 := by unfold lineErr; rw [if_neg h, if_neg (by omega), if_neg (by omega)]
theorem s19 (l : List Knot) (at' v : Int) : (runX [] (llOf Try.prog E 103 [(8, c19)]) 103 [(⟨l⟩ : Line).av, i64 at', i64 v] [30]).holds fun x => x = i64 (lineErr l at' v) := by
  rw [tv19]
  refine way (fun h => le_2 (by omega)) fun h1 => way (fun h => le_2 (by omega)) fun h2 => way (fun h => le_2 (by omega)) fun h3 => way (fun h => le_2 (by omega)) fun h4 => wayEq (fun h => le_6 (by omega) h) fun h5 => way (fun h => le_8 (by omega) h) fun h6 => ⟨⟨by omega, by omega⟩, ?_⟩
  rw [le_c (by omega) h5 h6]
  exact way (fun h => congrArg i64 h.symm) fun h => rfl
theorem s18 (l : List Knot) (at' v : Int) : (runX ctW (llOf Try.prog E 102 [(8, c18)]) 102 [(⟨l⟩ : Line).av, i64 at', i64 v] [30]).holds fun x => x = i64 (lineErr l at' v) := by
  rw [tv18]
  refine wayN (fun h => le_2 (by omega)) fun h1 => wayN (fun h => le_2 (by omega)) fun h2 => wayEq (fun h => le_6 (by omega) h) fun h5 => way (fun h => le_8 (by omega) h) fun h6 => ⟨⟨rfl, rfl⟩, ⟨by omega, by omega⟩, ?_⟩
  rw [le_c (by omega) h5 h6]
  exact way (fun h => congrArg i64 h.symm) fun h => rfl
noncomputable def cLine : Con T := conV Try.prog [.agg [.s 39], .one (.i .i64), .one (.i .i64)] [.l 39, .n, .n] fun d => i64 (lineErr d.1 d.2.1 d.2.2.1)
theorem line_ok : ConOk Try.prog E 102 cLine := conV_ok fun d => fact_run ctW_ok ll18 (ts := [30]) rfl (s18 d.1 d.2.1 d.2.2.1)
theorem line2_ok : ConOk Try.prog E 103 cLine := conV_ok fun d => fact_run .nil ll19 (ts := [30]) rfl (s19 d.1 d.2.1 d.2.2.1)
end Go.Proofs.Ytcddppakogialaa.W
