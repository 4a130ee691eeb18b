/- EarthLines: both checks of a line answer the same. -/
import Derived.Test.YtdlholmphenhhaaTy
import Derived.IntWalk
set_option linter.unusedVariables false
set_option maxRecDepth 100000
noncomputable section
namespace Go.Proofs.Ytdlholmphenhhaa.W
open Go Go.Cx Go.RowKit
@[reducible] def i64 (n : Int) : AV T := .sym .i64 n
def runX (ct : CTab T) (ll : Nat → Nat → LoopTab T) (f : Nat) (xs : List (AV T)) (ts : List Nat) : Tree (AV T) := resX Try.prog E ts (callX Try.prog E ct ll 1000 8 (.fn f) xs hp0)
theorem fact_run {ct : CTab T} (hc : CTabOk Try.prog E ct) {ll : Nat → Nat → LoopTab T} (hl : LLOk Try.prog E ll) {f : Nat} {xs : List (AV T)} {ts : List Nat} {v : AV T} (ha : xs.all flt2 = true)
    (h : (runX ct ll f xs ts).holds fun x => x = v) : Fact Try.prog E f xs v :=
  fact_of_run good decOk (callX_ok good names mixes hc hl 8) ha h

/-! ### whole.Within -/
theorem t60 (a b c : Int) : runX [] noLoops 60 [i64 a, i64 b, i64 c] [4] =
  (.br (decide (b ≤ a))
   (.leaf (.bool (decide (a ≤ c))))
   (.leaf (.bool (false)))) := by kernel_rfl
def within (a b c : Int) : Bool := decide (b ≤ a) && decide (a ≤ c)
def cWithin : Con T := conV [.one (.i .i64), .one (.i .i64), .one (.i .i64)] [.n, .n, .n] (fun d => .bool (within d.1 d.2.1 d.2.2.1))
theorem within_ok : ConOk Try.prog E 60 cWithin := conV_ok fun d => fact_run .nil noLoops_ok (ts := [4]) rfl (by
  obtain ⟨a, b, c, ⟨⟩⟩ := d
  show (runX [] noLoops 60 [i64 a, i64 b, i64 c] [4]).holds _
  rw [t60]
  unfold within
  refine ⟨fun h => ?_, fun h => ?_⟩
  · rw [h]; exact congrArg AV.bool (Bool.true_and _).symm
  · rw [h]; rfl)

/-! ### short -/
theorem t16 (l : Line) : runX [] noLoops 16 [l.av] [4] =
  (.leaf (.bool (decide ((↑(List.length (Line.Knots l)) : Int) ≤ 26)))) := by kernel_rfl
def cShort : Con T := conV [.agg [.s 78]] [.l 78] (fun d => .bool (decide ((d.1.length : Int) ≤ 26)))
theorem short_ok : ConOk Try.prog E 16 cShort := conV_ok fun d => fact_run .nil noLoops_ok (ts := [4]) rfl (by
  obtain ⟨l, ⟨⟩⟩ := d
  show (runX [] noLoops 16 [(⟨l⟩ : Line).av] [4]).holds _
  rw [t16]
  rfl)

/-! ### The loops -/
/-- The first error of the knots from the i-th on. -/
def chkI (at' v : Int) (l : List Knot) (i : Nat) : Int :=
  if i < l.length then
    (if Knot.At (ixD E 78 l i) < 0 ∨ Knot.At (ixD E 78 l i) > at' ∨ Knot.V (ixD E 78 l i) < 0 ∨ Knot.V (ixD E 78 l i) > v then 2
    else if 0 < i ∧ Knot.At (ixD E 78 l i) ≤ Knot.At (ixD E 78 l ((i : Int) - 1)) then 11
    else chkI at' v l (i + 1))
  else 0
termination_by l.length - i

theorem chkI_eq (at' v : Int) (l : List Knot) (i : Nat) : chkI at' v l i = if i < l.length then
    (if Knot.At (ixD E 78 l i) < 0 ∨ Knot.At (ixD E 78 l i) > at' ∨ Knot.V (ixD E 78 l i) < 0 ∨ Knot.V (ixD E 78 l i) > v then 2
    else if 0 < i ∧ Knot.At (ixD E 78 l i) ≤ Knot.At (ixD E 78 l ((i : Int) - 1)) then 11
    else chkI at' v l (i + 1))
  else 0 := by rw [chkI]
def o19 (at' v i : Int) (l : List Knot) : Tree (Ex × List (V T)) :=
  .req (0 ≤ i ∧ (l.length : Int) ≤ 24) (.br (decide (chkI at' v l i.toNat = 0)) (.leaf (.exit 0, [])) (.leaf (.ret, [.n (chkI at' v l i.toNat)])))
def out19 : Den T [.n, .n, .n, .l 78] → Tree (Ex × List (V T)) := fun d => o19 d.1 d.2.1 d.2.2.1 d.2.2.2.1
def c19 : LoopC T := ⟨[.n, .n, .n, .l 78], ⟨77, [(1, .one (.i .i64)), (2, .one (.i .i64)), (3, .one (.o 0 0)), (7, .one (.i .i64))], [[.s 78]]⟩,
  fun e => match e with
    | .ret => ⟨77, [(6, .one (.i .i64))], []⟩
    | _ => ⟨77, [], []⟩, 10, out19⟩
theorem b19 (at' v i : Int) (l : List Knot) : bodyD c19 0 (bodyX Try.prog E [] noLoops 1000 5 L0 (lpOf Try.prog 19 0)) (at', v, i, l, ()) =
  (.br (decide (i < (↑(List.length l) : Int)))
   (.req ((decide (0 ≤ i) && decide (i < (↑(List.length l) : Int))) = true)
   (.br (decide (Knot.At (ixD E 78 l i) < 0))
    (.leaf (.inr (.ret, [.n (2)])))
    (.br (decide (Knot.At (ixD E 78 l i) > at'))
     (.leaf (.inr (.ret, [.n (2)])))
     (.br (decide (Knot.V (ixD E 78 l i) < 0))
      (.leaf (.inr (.ret, [.n (2)])))
      (.br (decide (Knot.V (ixD E 78 l i) > v))
       (.leaf (.inr (.ret, [.n (2)])))
       (.br (decide (i > 0))
        (.req ((decide (0 ≤ IntKind.wrap IntKind.i64 (i - 1)) && decide (IntKind.wrap IntKind.i64 (i - 1) < (↑(List.length l) : Int))) = true)
        (.br (decide (Knot.At (ixD E 78 l i) ≤ Knot.At (ixD E 78 l (IntKind.wrap IntKind.i64 (i - 1)))))
         (.leaf (.inr (.ret, [.n (11)])))
         (.leaf (.inl (at', (v, (IntKind.wrap IntKind.i64 (i + 1), (l, ()))))))))
        (.leaf (.inl (at', (v, (IntKind.wrap IntKind.i64 (i + 1), (l, ()))))))))))))
   (.leaf (.inr (.exit 0, [])))) := by kernel_rfl
theorem h19' (at' v i : Int) (l : List Knot) (K : Ex × List (V T) → Prop) (hK : (o19 at' v i l).holds K) : (bodyD c19 0 (bodyX Try.prog E [] noLoops 1000 5 L0 (lpOf Try.prog 19 0)) (at', v, i, l, ())).holds fun y => match y with
    | .inl d' => ((d'.2.2.2.1.length : Int) - d'.2.2.1).toNat < ((l.length : Int) - i).toNat ∧ (out19 d').holds K
    | .inr y => K y := by
  rw [b19 at' v i l]
  obtain ⟨⟨h0, hlen⟩, hK⟩ := hK
  obtain ⟨n, rfl⟩ := Int.eq_ofNat_of_zero_le h0
  rw [Int.toNat_natCast, chkI_eq] at hK
  simp only [Tree.holds, decide_eq_true_eq, decide_eq_false_iff_not, Bool.and_eq_true] at hK ⊢
  by_cases h1 : n < l.length
  · rw [if_pos h1] at hK
    refine ⟨fun _ => ⟨⟨h0, by omega⟩, ?_⟩, fun h => absurd (by omega) h⟩
    have e1 : 0 < n → IntKind.wrap IntKind.i64 ((n : Int) - 1) = (n : Int) - 1 := fun _ => IntWalk.i64_in _ (by omega)
    have e2 : IntKind.wrap IntKind.i64 ((n : Int) + 1) = ((n + 1 : Nat) : Int) := IntWalk.i64_in _ (by omega)
    rw [e2]
    have next : (¬ (Knot.At (ixD E 78 l n) < 0 ∨ Knot.At (ixD E 78 l n) > at' ∨ Knot.V (ixD E 78 l n) < 0 ∨ Knot.V (ixD E 78 l n) > v)) → ¬ (0 < n ∧ Knot.At (ixD E 78 l n) ≤ Knot.At (ixD E 78 l ((n : Int) - 1))) →
        ((l.length : Int) - (n + 1 : Nat)).toNat < ((l.length : Int) - n).toNat ∧ (o19 at' v ((n + 1 : Nat) : Int) l).holds K := by
      intro b1 b2
      rw [if_neg b1, if_neg b2] at hK
      refine ⟨by omega, ⟨by omega, hlen⟩, ?_⟩
      simpa only [Int.toNat_natCast, Tree.holds, decide_eq_true_eq, decide_eq_false_iff_not] using hK
    refine ⟨fun c1 => ?_, fun c1 => ⟨fun c2 => ?_, fun c2 => ⟨fun c3 => ?_, fun c3 => ⟨fun c4 => ?_, fun c4 => ⟨fun c5 => ?_, fun c5 => ?_⟩⟩⟩⟩⟩
    · rw [if_pos (.inl c1)] at hK; exact hK.2 (by decide)
    · rw [if_pos (.inr (.inl c2))] at hK; exact hK.2 (by decide)
    · rw [if_pos (.inr (.inr (.inl c3)))] at hK; exact hK.2 (by decide)
    · rw [if_pos (.inr (.inr (.inr c4)))] at hK; exact hK.2 (by decide)
    · rw [e1 (by omega)]
      have b1 : ¬ (Knot.At (ixD E 78 l n) < 0 ∨ Knot.At (ixD E 78 l n) > at' ∨ Knot.V (ixD E 78 l n) < 0 ∨ Knot.V (ixD E 78 l n) > v) := by omega
      refine ⟨⟨by omega, by omega⟩, fun c6 => ?_, fun c6 => next b1 fun h => c6 h.2⟩
      rw [if_neg b1, if_pos ⟨by omega, c6⟩] at hK; exact hK.2 (by decide)
    · exact next (by omega) fun h => by omega
  · rw [if_neg h1] at hK
    exact ⟨fun h => absurd h (by omega), fun _ => hK.1 rfl⟩
theorem h19 : LoopH c19 0 (bodyX Try.prog E [] noLoops 1000 5 L0 (lpOf Try.prog 19 0)) := ⟨fun d => ((d.2.2.2.1.length : Int) - d.2.2.1).toNat, fun d K hK => h19' d.1 d.2.1 d.2.2.1 d.2.2.2.1 K hK⟩

def o18 (at' v n i : Int) (l k : List Knot) : Tree (Ex × List (V T)) :=
  .req (0 ≤ i ∧ n = l.length ∧ k = l ∧ (l.length : Int) ≤ 24) (.br (decide (chkI at' v l i.toNat = 0)) (.leaf (.exit 0, [])) (.leaf (.ret, [.n (chkI at' v l i.toNat)])))
def c18 : LoopC T := ⟨[.n, .n, .n, .n, .l 78, .l 78], ⟨60, [(1, .one (.i .i64)), (2, .one (.i .i64)), (27, .one (.i .i64)), (28, .one (.i .i64)), (26, .one (.s 78)), (3, .one (.o 0 0))], [[.s 78]]⟩,
  fun e => match e with
    | .ret => ⟨60, [(6, .one (.i .i64))], []⟩
    | _ => ⟨60, [], []⟩, 10, fun d => o18 d.1 d.2.1 d.2.2.1 d.2.2.2.1 d.2.2.2.2.1 d.2.2.2.2.2.1⟩
theorem b18 (at' v n i : Int) (l k : List Knot) : bodyD c18 0 (bodyX Try.prog E [(60, cWithin)] noLoops 1000 5 L0 (lpOf Try.prog 18 0)) (at', v, n, i, l, k, ()) =
  (.br (decide (i < n))
   (.req ((decide (0 ≤ i) && decide (i < (↑(List.length l) : Int))) = true)
   (.br (!within (Knot.At (ixD E 78 l i)) 0 at')
    (.leaf (.inr (.ret, [.n (2)])))
    (.br (!within (Knot.V (ixD E 78 l i)) 0 v)
     (.leaf (.inr (.ret, [.n (2)])))
     (.br (decide (i > 0))
      (.req ((decide (0 ≤ IntKind.wrap IntKind.i64 (i - 1)) && decide (IntKind.wrap IntKind.i64 (i - 1) < (↑(List.length k) : Int))) = true)
      (.br (decide (Knot.At (ixD E 78 l i) ≤ Knot.At (ixD E 78 k (IntKind.wrap IntKind.i64 (i - 1)))))
       (.leaf (.inr (.ret, [.n (11)])))
       (.leaf (.inl (at', (v, (n, (IntKind.wrap IntKind.i64 (i + 1), (l, (k, ()))))))))))
      (.leaf (.inl (at', (v, (n, (IntKind.wrap IntKind.i64 (i + 1), (l, (k, ()))))))))))))
   (.leaf (.inr (.exit 0, [])))) := by kernel_rfl
theorem within_true {a b c : Int} : within a b c = true ↔ b ≤ a ∧ a ≤ c := by simp [within]
theorem nwithin_true {a b c : Int} : (!within a b c) = true ↔ ¬ (b ≤ a ∧ a ≤ c) := by rw [← within_true]; simp
theorem nwithin_false {a b c : Int} : (!within a b c) = false ↔ (b ≤ a ∧ a ≤ c) := by rw [← within_true]; simp
theorem h18' (at' v n' i : Int) (l k : List Knot) (K : Ex × List (V T) → Prop) (hK : (o18 at' v n' i l k).holds K) : (bodyD c18 0 (bodyX Try.prog E [(60, cWithin)] noLoops 1000 5 L0 (lpOf Try.prog 18 0)) (at', v, n', i, l, k, ())).holds fun y => match y with
    | .inl d' => ((d'.2.2.2.2.1.length : Int) - d'.2.2.2.1).toNat < ((l.length : Int) - i).toNat ∧ (c18.out d').holds K
    | .inr y => K y := by
  rw [b18 at' v n' i l k]
  obtain ⟨⟨h0, rfl, rfl, hlen⟩, hK⟩ := hK
  obtain ⟨n, rfl⟩ := Int.eq_ofNat_of_zero_le h0
  rw [Int.toNat_natCast, chkI_eq] at hK
  simp only [Tree.holds, decide_eq_true_eq, decide_eq_false_iff_not, Bool.and_eq_true, nwithin_true, nwithin_false] at hK ⊢
  by_cases h1 : n < k.length
  · rw [if_pos h1] at hK
    refine ⟨fun _ => ⟨⟨h0, by omega⟩, ?_⟩, fun h => absurd (by omega) h⟩
    have e1 : 0 < n → IntKind.wrap IntKind.i64 ((n : Int) - 1) = (n : Int) - 1 := fun _ => IntWalk.i64_in _ (by omega)
    have e2 : IntKind.wrap IntKind.i64 ((n : Int) + 1) = ((n + 1 : Nat) : Int) := IntWalk.i64_in _ (by omega)
    rw [e2]
    have next : (¬ (Knot.At (ixD E 78 k n) < 0 ∨ Knot.At (ixD E 78 k n) > at' ∨ Knot.V (ixD E 78 k n) < 0 ∨ Knot.V (ixD E 78 k n) > v)) → ¬ (0 < n ∧ Knot.At (ixD E 78 k n) ≤ Knot.At (ixD E 78 k ((n : Int) - 1))) →
        ((k.length : Int) - (n + 1 : Nat)).toNat < ((k.length : Int) - n).toNat ∧ (o18 at' v k.length ((n + 1 : Nat) : Int) k k).holds K := by
      intro b1 b2
      rw [if_neg b1, if_neg b2] at hK
      refine ⟨by omega, ⟨by omega, rfl, rfl, hlen⟩, ?_⟩
      simpa only [Int.toNat_natCast, Tree.holds, decide_eq_true_eq, decide_eq_false_iff_not] using hK
    refine ⟨fun c1 => ?_, fun c1 => ⟨fun c2 => ?_, fun c2 => ⟨fun c5 => ?_, fun c5 => ?_⟩⟩⟩
    · rw [if_pos (by omega)] at hK; exact hK.2 (by decide)
    · rw [if_pos (by omega)] at hK; exact hK.2 (by decide)
    · rw [e1 (by omega)]
      have b1 : ¬ (Knot.At (ixD E 78 k n) < 0 ∨ Knot.At (ixD E 78 k n) > at' ∨ Knot.V (ixD E 78 k n) < 0 ∨ Knot.V (ixD E 78 k n) > v) := by omega
      refine ⟨⟨by omega, by omega⟩, fun c6 => ?_, fun c6 => next b1 fun h => c6 h.2⟩
      rw [if_neg b1, if_pos ⟨by omega, c6⟩] at hK; exact hK.2 (by decide)
    · exact next (by omega) fun h => by omega
  · rw [if_neg h1] at hK
    exact ⟨fun h => absurd h (by omega), fun _ => hK.1 rfl⟩
theorem h18 : LoopH c18 0 (bodyX Try.prog E [(60, cWithin)] noLoops 1000 5 L0 (lpOf Try.prog 18 0)) := ⟨fun d => ((d.2.2.2.2.1.length : Int) - d.2.2.2.1).toNat, fun d K hK => by
  obtain ⟨at', v, n, i, l, k, ⟨⟩⟩ := d
  exact h18' at' v n i l k K hK⟩

theorem ct60 : CTabOk Try.prog E [(60, cWithin)] := .cons within_ok .nil
theorem ll19 : LLOk Try.prog E (llOf 19 [(8, c19)]) := llOf_ok fun i hi c hc => by
  have hi : i < 1 := hi
  obtain rfl : i = 0 := by omega
  obtain rfl : c19 = c := Option.some.inj hc
  exact LSnd.mk good names mixes .nil (by decide) h19
theorem ll18 : LLOk Try.prog E (llOf 18 [(8, c18)]) := llOf_ok fun i hi c hc => by
  have hi : i < 1 := hi
  obtain rfl : i = 0 := by omega
  obtain rfl : c18 = c := Option.some.inj hc
  exact LSnd.mk good names mixes ct60 (by decide) h18

/-- The first error of a line. -/
def lineErr (l : List Knot) (at' v : Int) : Int :=
  if at' < 0 ∨ at' > 1099511627776 ∨ v < 0 ∨ v > 68719476736 then 2 else if l.length = 0 then 6 else if l.length > 24 then 8 else chkI at' v l 0
theorem t19 (l : List Knot) (at' v : Int) : runX [] (llOf 19 [(8, c19)]) 19 [(⟨l⟩ : Line).av, i64 at', i64 v] [27] =
  (.br (decide (at' < 0))
   (.leaf (.sym .i64 (2)))
   (.br (decide (at' > 1099511627776))
    (.leaf (.sym .i64 (2)))
    (.br (decide (v < 0))
     (.leaf (.sym .i64 (2)))
     (.br (decide (v > 68719476736))
      (.leaf (.sym .i64 (2)))
      (.br ((↑(List.length l) : Int) == 0)
       (.leaf (.sym .i64 (6)))
       (.br (decide ((↑(List.length l) : Int) > 24))
        (.leaf (.sym .i64 (8)))
        (.req ((0 : Int) ≤ 0 ∧ (↑(List.length l) : Int) ≤ 24)
        (.br (decide (chkI at' v l (Int.toNat (0 : Int)) = 0))
         (.leaf (.sym .i64 (0)))
         (.leaf (.sym .i64 (chkI at' v l (Int.toNat (0 : Int))))))))))))) := by kernel_rfl
theorem fact19 (l : List Knot) (at' v : Int) : Fact Try.prog E 19 [(⟨l⟩ : Line).av, i64 at', i64 v] (.sym .i64 (lineErr l at' v)) := fact_run .nil ll19 (ts := [27]) rfl (by
  rw [t19]
  simp only [Tree.holds, decide_eq_true_eq, decide_eq_false_iff_not, beq_iff_eq, beq_eq_false_iff_ne, AV.sym.injEq, true_and, Int.toNat_zero, lineErr]
  refine ⟨fun c1 => ?_, fun c1 => ⟨fun c2 => ?_, fun c2 => ⟨fun c3 => ?_, fun c3 => ⟨fun c4 => ?_, fun c4 => ⟨fun c5 => ?_, fun c5 => ⟨fun c6 => ?_, fun c6 => ⟨by omega, fun c7 => ?_, fun c7 => ?_⟩⟩⟩⟩⟩⟩⟩
  · rw [if_pos (by omega)]
  · rw [if_pos (by omega)]
  · rw [if_pos (by omega)]
  · rw [if_pos (by omega)]
  · rw [if_neg (by omega), if_pos (by omega)]
  · rw [if_neg (by omega), if_neg (by omega), if_pos (by omega)]
  · rw [if_neg (by omega), if_neg (by omega), if_neg (by omega)]; exact c7.symm
  · rw [if_neg (by omega), if_neg (by omega), if_neg (by omega)])
theorem t18 (l : List Knot) (at' v : Int) : runX [(60, cWithin)] (llOf 18 [(8, c18)]) 18 [(⟨l⟩ : Line).av, i64 at', i64 v] [27] =
  (.br (!within at' 0 1099511627776)
   (.leaf (.sym .i64 (2)))
   (.br (!within v 0 68719476736)
    (.leaf (.sym .i64 (2)))
    (.br ((↑(List.length l) : Int) == 0)
     (.leaf (.sym .i64 (6)))
     (.br (decide ((↑(List.length l) : Int) > 24))
      (.leaf (.sym .i64 (8)))
      (.req ((0 : Int) ≤ 0 ∧ (↑(List.length l) : Int) = ↑(List.length l) ∧ l = l ∧ (↑(List.length l) : Int) ≤ 24)
      (.br (decide (chkI at' v l (Int.toNat (0 : Int)) = 0))
         (.leaf (.sym .i64 (0)))
         (.leaf (.sym .i64 (chkI at' v l (Int.toNat (0 : Int))))))))))) := by kernel_rfl
theorem fact18 (l : List Knot) (at' v : Int) : Fact Try.prog E 18 [(⟨l⟩ : Line).av, i64 at', i64 v] (.sym .i64 (lineErr l at' v)) := fact_run ct60 ll18 (ts := [27]) rfl (by
  rw [t18]
  simp only [Tree.holds, decide_eq_true_eq, decide_eq_false_iff_not, beq_iff_eq, beq_eq_false_iff_ne, AV.sym.injEq, true_and, Int.toNat_zero, lineErr, nwithin_true, nwithin_false]
  refine ⟨fun c1 => ?_, fun c1 => ⟨fun c2 => ?_, fun c2 => ⟨fun c5 => ?_, fun c5 => ⟨fun c6 => ?_, fun c6 => ⟨by omega, fun c7 => ?_, fun c7 => ?_⟩⟩⟩⟩⟩
  · rw [if_pos (by omega)]
  · rw [if_pos (by omega)]
  · rw [if_neg (by omega), if_pos (by omega)]
  · rw [if_neg (by omega), if_neg (by omega), if_pos (by omega)]
  · rw [if_neg (by omega), if_neg (by omega), if_neg (by omega)]; exact c7.symm
  · rw [if_neg (by omega), if_neg (by omega), if_neg (by omega)])
def cLine : Con T := conV [.agg [.s 78], .one (.i .i64), .one (.i .i64)] [.l 78, .n, .n] (fun d => .sym .i64 (lineErr d.1 d.2.1 d.2.2.1))
theorem line19_ok : ConOk Try.prog E 19 cLine := conV_ok fun d => fact19 d.1 d.2.1 d.2.2.1
theorem line18_ok : ConOk Try.prog E 18 cLine := conV_ok fun d => fact18 d.1 d.2.1 d.2.2.1
end Go.Proofs.Ytdlholmphenhhaa.W
