/- PipeChecks: tubes, lengths, checks, weights. No condition. -/
import Derived.Test.YtkaiffdndhhfcaaA
import Derived.Test.YtkaiffdndhhfcaaCz7
set_option linter.unusedVariables false
set_option maxRecDepth 100000
noncomputable section
namespace Go.Proofs.Ytkaiffdndhhfcaa.W
open Go Go.Cx Go.RowKit
theorem fact_run3 {ct : CTab T} (hc : CTabOk Try.prog E ct) {ll : Nat → Nat → LoopTab T} (hl : LLOk Try.prog E ll) {f : Nat} {xs : List (AV T)} {ts : List Nat} {v : AV T} (ha : xs.all flt3 = true)
    (h : (runX ct ll f xs ts).holds fun x => x = v) : Fact Try.prog E f xs v :=
  fact_of_run3 good decOk (callX_ok good names mixes hc hl 8) ha h
noncomputable def ti (l : List Tube) (i : Int) : Tube := ixD E 26 l i
theorem drop_ti {l : List Tube} {i : Nat} (h : i < l.length) : l.drop i = ti l i :: l.drop (i + 1) := drop_ix (E := E) (τ := 26) h
noncomputable def ni (l : List Int) (i : Int) : Int := ixD E 2 l i
theorem drop_ni {l : List Int} {i : Nat} (h : i < l.length) : l.drop i = ni l i :: l.drop (i + 1) := drop_ix (E := E) (τ := 2) h
@[reducible] def w64 (n : Int) : Int := IntKind.wrap IntKind.i64 n
theorem w_def (n : Int) : w64 n = if n % 18446744073709551616 ≥ 9223372036854775808 then n % 18446744073709551616 - 18446744073709551616 else n % 18446744073709551616 := by
  show (if (true && decide (n % 18446744073709551616 ≥ 9223372036854775808)) = true then n % 18446744073709551616 - 18446744073709551616 else n % 18446744073709551616) = _
  by_cases h : n % 18446744073709551616 ≥ 9223372036854775808
  · rw [if_pos h, if_pos (by rw [decide_eq_true h]; rfl)]
  · rw [if_neg h, if_neg (by rw [decide_eq_false h]; decide)]
theorem w_congr {n m : Int} (h : n % 18446744073709551616 = m % 18446744073709551616) : w64 n = w64 m := by
  rw [w_def, w_def, h]
theorem w_mod (n : Int) : w64 n % 18446744073709551616 = n % 18446744073709551616 := by
  rw [w_def]
  split <;> omega
theorem w_mul (x y : Int) : w64 (w64 x * y) = w64 (x * y) := w_congr (by rw [Int.mul_emod, w_mod, ← Int.mul_emod])
/-! ### tubes -/
theorem tv64 (a b c : Int) : runX [] noLoops 64 [i64 a, i64 b, i64 c] [4] =
  (.br (decide (a ≥ b))
   (.leaf (.bool (decide (a ≤ c))))
   (.leaf (.bool (false)))) := by kernel_rfl
theorem within2_ok : ConOk Try.prog E 64 cWithin := conV_ok fun d => fact_run .nil noLoops_ok (ts := [4]) rfl (by
  obtain ⟨a, b, c, ⟨⟩⟩ := d
  show (runX [] noLoops 64 [i64 a, i64 b, i64 c] [4]).holds _
  rw [tv64]
  refine way (fun h => ?_) fun h => ?_
  · exact congrArg AV.bool (by simp [within, h])
  · exact congrArg AV.bool (by simp [within, h]))
noncomputable def ctA : CTab T := [(63, cWithin), (64, cWithin)]
theorem ctA_ok : CTabOk Try.prog E ctA := .cons within_ok (.cons within2_ok .nil)
noncomputable def tub (t : Tube) : Bool := within t.Count 1 400 && (within t.Len 100 4000 && (within t.Air 1 4000000 && (within t.Steel 1 400 && (within t.Out 2 90 && (within t.Yield 1 4398046511104 && (within t.Twist 1 281474976710656 && (within t.Stiff 0 17179869184 && within t.Used 0 1099511627776)))))))
@[reducible] noncomputable def avT (t : Tube) : AV T := .agg [i64 t.Count, i64 t.Len, i64 t.Air, i64 t.Steel, i64 t.Out, i64 t.Yield, i64 t.Twist, i64 t.Stiff, i64 t.Used]
theorem tv59 (a b c d e f g h i : Int) : runX ctA noLoops 59 [.agg [i64 a, i64 b, i64 c, i64 d, i64 e, i64 f, i64 g, i64 h, i64 i]] [4] =
  (.br (within a (1 : Int) (400 : Int))
   (.br (within b (100 : Int) (4000 : Int))
    (.br (within c (1 : Int) (4000000 : Int))
     (.br (within d (1 : Int) (400 : Int))
      (.br (within e (2 : Int) (90 : Int))
       (.br (within f (1 : Int) (4398046511104 : Int))
        (.br (within g (1 : Int) (281474976710656 : Int))
         (.br (within h (0 : Int) (17179869184 : Int))
          (.leaf (.bool (within i (0 : Int) (1099511627776 : Int))))
          (.leaf (.bool (false))))
         (.leaf (.bool (false))))
        (.leaf (.bool (false))))
       (.leaf (.bool (false))))
      (.leaf (.bool (false))))
     (.leaf (.bool (false))))
    (.leaf (.bool (false))))
   (.leaf (.bool (false)))) := by kernel_rfl
theorem tv61 (a b c d e f g h i : Int) : runX ctA noLoops 61 [.agg [i64 a, i64 b, i64 c, i64 d, i64 e, i64 f, i64 g, i64 h, i64 i]] [4] =
  (.br (within a (1 : Int) (400 : Int))
   (.br (within b (100 : Int) (4000 : Int))
    (.br (within c (1 : Int) (4000000 : Int))
     (.br (within d (1 : Int) (400 : Int))
      (.br (within e (2 : Int) (90 : Int))
       (.br (within f (1 : Int) (4398046511104 : Int))
        (.br (within g (1 : Int) (281474976710656 : Int))
         (.br (within h (0 : Int) (17179869184 : Int))
          (.leaf (.bool (within i (0 : Int) (1099511627776 : Int))))
          (.leaf (.bool (false))))
         (.leaf (.bool (false))))
        (.leaf (.bool (false))))
       (.leaf (.bool (false))))
      (.leaf (.bool (false))))
     (.leaf (.bool (false))))
    (.leaf (.bool (false))))
   (.leaf (.bool (false)))) := by kernel_rfl
theorem andL {p q : Bool} {t : Tree (AV T)} (h : p = true → t.holds fun v => v = .bool q) : (Tree.br p t (.leaf (.bool false))).holds fun v => v = (.bool (p && q) : AV T) := by
  refine wayB (fun k => ?_) fun k => ?_
  · rw [k, Bool.true_and]; exact h k
  · rw [k, Bool.false_and]; rfl
theorem s59 (t : Tube) : (runX ctA noLoops 59 [avT t] [4]).holds fun v => v = .bool (tub t) := by
  obtain ⟨a, b, c, d, e, f, g, h, i⟩ := t
  show (runX ctA noLoops 59 [.agg [i64 a, i64 b, i64 c, i64 d, i64 e, i64 f, i64 g, i64 h, i64 i]] [4]).holds _
  rw [tv59]
  exact andL fun _ => andL fun _ => andL fun _ => andL fun _ => andL fun _ => andL fun _ => andL fun _ => andL fun _ => rfl
theorem s61 (t : Tube) : (runX ctA noLoops 61 [avT t] [4]).holds fun v => v = .bool (tub t) := by
  obtain ⟨a, b, c, d, e, f, g, h, i⟩ := t
  show (runX ctA noLoops 61 [.agg [i64 a, i64 b, i64 c, i64 d, i64 e, i64 f, i64 g, i64 h, i64 i]] [4]).holds _
  rw [tv61]
  exact andL fun _ => andL fun _ => andL fun _ => andL fun _ => andL fun _ => andL fun _ => andL fun _ => andL fun _ => rfl
@[reducible] def shT : Sh := .agg [.i .i64, .i .i64, .i .i64, .i .i64, .i .i64, .i .i64, .i .i64, .i .i64, .i .i64]
noncomputable def cTub : Con T := conV Try.prog [shT] [.n, .n, .n, .n, .n, .n, .n, .n, .n] fun d => .bool (tub ⟨d.1, d.2.1, d.2.2.1, d.2.2.2.1, d.2.2.2.2.1, d.2.2.2.2.2.1, d.2.2.2.2.2.2.1, d.2.2.2.2.2.2.2.1, d.2.2.2.2.2.2.2.2.1⟩)
theorem tub_ok : ConOk Try.prog E 59 cTub := conV_ok fun d => fact_run ctA_ok noLoops_ok (ts := [4]) rfl (s59 ⟨d.1, d.2.1, d.2.2.1, d.2.2.2.1, d.2.2.2.2.1, d.2.2.2.2.2.1, d.2.2.2.2.2.2.1, d.2.2.2.2.2.2.2.1, d.2.2.2.2.2.2.2.2.1⟩)
theorem tub2_ok : ConOk Try.prog E 61 cTub := conV_ok fun d => fact_run ctA_ok noLoops_ok (ts := [4]) rfl (s61 ⟨d.1, d.2.1, d.2.2.1, d.2.2.2.1, d.2.2.2.2.1, d.2.2.2.2.2.1, d.2.2.2.2.2.2.1, d.2.2.2.2.2.2.2.1, d.2.2.2.2.2.2.2.2.1⟩)
/-- What a cm of a tube weighs. -/
noncomputable def wet (t : Tube) (m : Int) : Int := if within t.Air 0 1000000000 = true ∧ within t.Steel 0 1000000000 = true ∧ within m 0 1000000000 = true then w64 (t.Air - w64 (m * t.Steel)) else 0
theorem tv22 (a b c d e f g h i m : Int) : runX ctA noLoops 22 [.agg [i64 a, i64 b, i64 c, i64 d, i64 e, i64 f, i64 g, i64 h, i64 i], i64 m] [2] =
  (.br (!within c (0 : Int) (1000000000 : Int))
   (.leaf (.sym .i64 ((0 : Int))))
   (.br (!within d (0 : Int) (1000000000 : Int))
    (.leaf (.sym .i64 ((0 : Int))))
    (.br (!within m (0 : Int) (1000000000 : Int))
     (.leaf (.sym .i64 ((0 : Int))))
     (.leaf (.sym .i64 (IntKind.wrap IntKind.i64 (c - IntKind.wrap IntKind.i64 (m * d)))))))) := by kernel_rfl
theorem tv23 (a b c d e f g h i m : Int) : runX ctA noLoops 23 [.agg [i64 a, i64 b, i64 c, i64 d, i64 e, i64 f, i64 g, i64 h, i64 i], i64 m] [2] =
  (.br (!within c (0 : Int) (1000000000 : Int))
   (.leaf (.sym .i64 ((0 : Int))))
   (.br (!within d (0 : Int) (1000000000 : Int))
    (.leaf (.sym .i64 ((0 : Int))))
    (.br (!within m (0 : Int) (1000000000 : Int))
     (.leaf (.sym .i64 ((0 : Int))))
     (.leaf (.sym .i64 (IntKind.wrap IntKind.i64 (c - IntKind.wrap IntKind.i64 (m * d)))))))) := by kernel_rfl
theorem notB {b : Bool} (h : (!b) = false) : b = true := by simpa using h
theorem notB' {b : Bool} (h : (!b) = true) : b ≠ true := by simpa using h
theorem s22 (t : Tube) (m : Int) : (runX ctA noLoops 22 [avT t, i64 m] [2]).holds fun v => v = i64 (wet t m) := by
  obtain ⟨a, b, c, d, e, f, g, h, i⟩ := t
  show (runX ctA noLoops 22 [.agg [i64 a, i64 b, i64 c, i64 d, i64 e, i64 f, i64 g, i64 h, i64 i], i64 m] [2]).holds _
  rw [tv22]
  unfold wet
  refine wayB (fun k => ?_) fun k => wayB (fun k2 => ?_) fun k2 => wayB (fun k3 => ?_) fun k3 => ?_
  · rw [if_neg (fun q => notB' k q.1)]; rfl
  · rw [if_neg (fun q => notB' k2 q.2.1)]; rfl
  · rw [if_neg (fun q => notB' k3 q.2.2)]; rfl
  · rw [if_pos ⟨notB k, notB k2, notB k3⟩]; rfl
theorem s23 (t : Tube) (m : Int) : (runX ctA noLoops 23 [avT t, i64 m] [2]).holds fun v => v = i64 (wet t m) := by
  obtain ⟨a, b, c, d, e, f, g, h, i⟩ := t
  show (runX ctA noLoops 23 [.agg [i64 a, i64 b, i64 c, i64 d, i64 e, i64 f, i64 g, i64 h, i64 i], i64 m] [2]).holds _
  rw [tv23]
  unfold wet
  refine wayB (fun k => ?_) fun k => wayB (fun k2 => ?_) fun k2 => wayB (fun k3 => ?_) fun k3 => ?_
  · rw [if_neg (fun q => notB' k q.1)]; rfl
  · rw [if_neg (fun q => notB' k2 q.2.1)]; rfl
  · rw [if_neg (fun q => notB' k3 q.2.2)]; rfl
  · rw [if_pos ⟨notB k, notB k2, notB k3⟩]; rfl
noncomputable def cWet : Con T := conV Try.prog [shT, .one (.i .i64)] [.n, .n, .n, .n, .n, .n, .n, .n, .n, .n] fun d => i64 (wet ⟨d.1, d.2.1, d.2.2.1, d.2.2.2.1, d.2.2.2.2.1, d.2.2.2.2.2.1, d.2.2.2.2.2.2.1, d.2.2.2.2.2.2.2.1, d.2.2.2.2.2.2.2.2.1⟩ d.2.2.2.2.2.2.2.2.2.1)
theorem wet_ok : ConOk Try.prog E 22 cWet := conV_ok fun d => fact_run ctA_ok noLoops_ok (ts := [2]) rfl (s22 ⟨d.1, d.2.1, d.2.2.1, d.2.2.2.1, d.2.2.2.2.1, d.2.2.2.2.2.1, d.2.2.2.2.2.2.1, d.2.2.2.2.2.2.2.1, d.2.2.2.2.2.2.2.2.1⟩ d.2.2.2.2.2.2.2.2.2.1)
theorem wet2_ok : ConOk Try.prog E 23 cWet := conV_ok fun d => fact_run ctA_ok noLoops_ok (ts := [2]) rfl (s23 ⟨d.1, d.2.1, d.2.2.1, d.2.2.2.1, d.2.2.2.2.1, d.2.2.2.2.2.1, d.2.2.2.2.2.2.1, d.2.2.2.2.2.2.2.1, d.2.2.2.2.2.2.2.2.1⟩ d.2.2.2.2.2.2.2.2.2.1)
noncomputable def ctB : CTab T := [(63, cWithin), (64, cWithin), (59, cTub), (61, cTub), (22, cWet), (23, cWet)]
theorem ctB_ok : CTabOk Try.prog E ctB := .cons within_ok (.cons within2_ok (.cons tub_ok (.cons tub2_ok (.cons wet_ok (.cons wet2_ok .nil)))))
/-! ### sums over tubes -/
noncomputable def fdT (f : Tube → Int) : Int → List Tube → Int
  | a, [] => a
  | a, t :: l => fdT f (w64 (a + f t)) l
theorem fdT_end {f : Tube → Int} {a : Int} {l : List Tube} {i : Nat} (h : ¬ (i : Int) < l.length) : fdT f a (l.drop i) = a := by
  rw [List.drop_eq_nil_of_le (by omega)]; rfl
theorem fdT_cons {f : Tube → Int} {a : Int} {l : List Tube} {i : Nat} (h : (i : Int) < l.length) : fdT f a (l.drop i) = fdT f (w64 (a + f (ti l i))) (l.drop (i + 1)) := by
  rw [drop_ti (by omega)]; rfl
noncomputable def fL (t : Tube) : Int := w64 (t.Count * t.Len)
noncomputable def fW (m : Int) (t : Tube) : Int := w64 (w64 (wet t m * t.Count) * t.Len)
theorem fW_eq (m : Int) (t : Tube) : w64 (w64 (t.Count * t.Len) * wet t m) = fW m t := by
  unfold fW
  rw [w_mul, w_mul]
  congr 1
  grind

noncomputable def o60 (a : Int) (l : List Tube) (n i : Int) : Tree (Ex × List (V T)) := .req ((0 ≤ i ∧ n = l.length) ∧ l.length ≤ 1000) (.leaf (.exit 0, [.n (fdT fL a (l.drop i.toNat))]))
noncomputable def c60 : LoopC T := ⟨[.n, .l 26, .n, .n], ⟨22, [(3, .one (.i .i64)), (7, .one (.s 26)), (8, .one (.i .i64)), (9, .one (.i .i64))], []⟩, fun _ => ⟨22, [(3, .one (.i .i64))], []⟩, 20, fun d => o60 d.1 d.2.1 d.2.2.1 d.2.2.2.1⟩
theorem b60 (a : Int) (l : List Tube) (n i : Int) : bodyD Try.prog E c60 0 (bodyX Try.prog E ctB noLoops 1000 5 L0 (lpOf Try.prog 60 0)) (a, l, n, i, ()) =
  (.br (decide (i < n))
   (.req ((decide ((0 : Int) ≤ i) && decide (i < (↑(List.length l) : Int))) = true)
   (.leaf (.inl (IntKind.wrap IntKind.i64 (a + IntKind.wrap IntKind.i64 (Tube.Count (ti l i) * Tube.Len (ti l i))), (l, (n, (IntKind.wrap IntKind.i64 (i + (1 : Int)), ())))))))
   (.leaf (.inr (.exit (0 : Nat), [.n (a)])))) := by kernel_rfl
theorem h60' (a : Int) (l : List Tube) (i : Nat) (K : Ex × List (V T) → Prop) (hl : l.length ≤ 1000) (hK : K (.exit 0, [.n (fdT fL a (l.drop i))])) :
    (bodyD Try.prog E c60 0 (bodyX Try.prog E ctB noLoops 1000 5 L0 (lpOf Try.prog 60 0)) (a, l, (l.length : Int), (i : Int), ())).holds fun y => match y with
    | .inl d => ((d.2.1.length : Int) - d.2.2.2.1).toNat < ((l.length : Int) - (i : Int)).toNat ∧ (c60.out d).holds K
    | .inr y => K y := by
  rw [b60]
  refine way (fun c => wayC (by omega) c fun _ _ => ?_) fun c => ?_
  · have e2 : IntKind.wrap IntKind.i64 ((i : Int) + 1) = ((i + 1 : Nat) : Int) := i64_in' (by omega) (by omega)
    rw [e2]
    rw [fdT_cons c] at hK
    have hlt : ((l.length : Int) - ((i + 1 : Nat) : Int)).toNat < ((l.length : Int) - (i : Int)).toNat := by omega
    have h3 : (0 : Int) ≤ ((i + 1 : Nat) : Int) := by omega
    exact ⟨hlt, ⟨⟨h3, rfl⟩, hl⟩, hK⟩
  · rw [fdT_end c] at hK
    exact hK
theorem h60 : LoopH Try.prog E c60 0 (bodyX Try.prog E ctB noLoops 1000 5 L0 (lpOf Try.prog 60 0)) :=
  ⟨fun d => ((d.2.1.length : Int) - d.2.2.2.1).toNat, fun d K hK => by
    obtain ⟨a, l, n, i, ⟨⟩⟩ := d
    obtain ⟨⟨⟨k1, k2⟩, k3⟩, k4⟩ := hK
    obtain ⟨q, hq⟩ := Int.eq_ofNat_of_zero_le k1
    obtain rfl : i = (q : Int) := hq
    obtain rfl : n = ((l : List Tube).length : Int) := k2
    refine Tree.holds_mono (fun y hy => ?_) (h60' a l q K k3 k4)
    cases y with
    | inl d' => exact hy
    | inr y => exact hy⟩
theorem ll60 : LLOk Try.prog E (llOf Try.prog E 60 [(3, c60)]) := llOf_ok fun i hi c hc => by
  have hi : i < 1 := hi
  obtain rfl : i = 0 := by omega
  obtain rfl : c60 = c := Option.some.inj hc
  exact LSnd.mk good names mixes ctB_ok (by decide) h60

noncomputable def o62 (a i : Int) (l : List Tube) : Tree (Ex × List (V T)) := .req (0 ≤ i ∧ l.length ≤ 1000) (.leaf (.exit 0, [.n (fdT fL a (l.drop i.toNat))]))
noncomputable def c62 : LoopC T := ⟨[.n, .n, .l 26], ⟨28, [(1, .one (.o 0 0)), (3, .one (.i .i64)), (4, .one (.i .i64))], [.c [.s 26]]⟩, fun _ => ⟨28, [(3, .one (.i .i64))], []⟩, 20, fun d => o62 d.1 d.2.1 d.2.2.1⟩
theorem b62 (a i : Int) (l : List Tube) : bodyD Try.prog E c62 0 (bodyX Try.prog E ctB noLoops 1000 5 L0 (lpOf Try.prog 62 0)) (a, i, l, ()) =
  (.br (decide (i < (↑(List.length l) : Int)))
   (.req ((decide ((0 : Int) ≤ i) && decide (i < (↑(List.length l) : Int))) = true)
   (.req ((decide ((0 : Int) ≤ i) && decide (i < (↑(List.length l) : Int))) = true)
   (.leaf (.inl (IntKind.wrap IntKind.i64 (a + IntKind.wrap IntKind.i64 (Tube.Count (ti l i) * Tube.Len (ti l i))), (IntKind.wrap IntKind.i64 (i + (1 : Int)), (l, ())))))))
   (.leaf (.inr (.exit (0 : Nat), [.n (a)])))) := by kernel_rfl
theorem h62' (a : Int) (i : Nat) (l : List Tube) (K : Ex × List (V T) → Prop) (hl : l.length ≤ 1000) (hK : K (.exit 0, [.n (fdT fL a (l.drop i))])) :
    (bodyD Try.prog E c62 0 (bodyX Try.prog E ctB noLoops 1000 5 L0 (lpOf Try.prog 62 0)) (a, (i : Int), l, ())).holds fun y => match y with
    | .inl d => ((d.2.2.1.length : Int) - d.2.1).toNat < ((l.length : Int) - (i : Int)).toNat ∧ (c62.out d).holds K
    | .inr y => K y := by
  rw [b62]
  refine way (fun c => wayC (by omega) c fun _ _ => wayC (by omega) c fun _ _ => ?_) fun c => ?_
  · have e2 : IntKind.wrap IntKind.i64 ((i : Int) + 1) = ((i + 1 : Nat) : Int) := i64_in' (by omega) (by omega)
    rw [e2]
    rw [fdT_cons c] at hK
    have hlt : ((l.length : Int) - ((i + 1 : Nat) : Int)).toNat < ((l.length : Int) - (i : Int)).toNat := by omega
    have h3 : (0 : Int) ≤ ((i + 1 : Nat) : Int) := by omega
    exact ⟨hlt, ⟨h3, hl⟩, hK⟩
  · rw [fdT_end c] at hK
    exact hK
theorem h62 : LoopH Try.prog E c62 0 (bodyX Try.prog E ctB noLoops 1000 5 L0 (lpOf Try.prog 62 0)) :=
  ⟨fun d => ((d.2.2.1.length : Int) - d.2.1).toNat, fun d K hK => by
    obtain ⟨a, i, l, ⟨⟩⟩ := d
    obtain ⟨⟨k1, k3⟩, k4⟩ := hK
    obtain ⟨q, hq⟩ := Int.eq_ofNat_of_zero_le k1
    obtain rfl : i = (q : Int) := hq
    refine Tree.holds_mono (fun y hy => ?_) (h62' a q l K k3 k4)
    cases y with
    | inl d' => exact hy
    | inr y => exact hy⟩
theorem ll62 : LLOk Try.prog E (llOf Try.prog E 62 [(3, c62)]) := llOf_ok fun i hi c hc => by
  have hi : i < 1 := hi
  obtain rfl : i = 0 := by omega
  obtain rfl : c62 = c := Option.some.inj hc
  exact LSnd.mk good names mixes ctB_ok (by decide) h62

noncomputable def o20 (m : Int) (a : Int) (l : List Tube) (n i : Int) : Tree (Ex × List (V T)) := .req ((0 ≤ i ∧ n = l.length) ∧ l.length ≤ 1000) (.leaf (.exit 0, [.n (fdT (fW m) a (l.drop i.toNat))]))
noncomputable def c20 : LoopC T := ⟨[.n, .n, .l 26, .n, .n], ⟨36, [(1, .one (.i .i64)), (5, .one (.i .i64)), (17, .one (.s 26)), (18, .one (.i .i64)), (19, .one (.i .i64))], []⟩, fun _ => ⟨36, [(5, .one (.i .i64))], []⟩, 20, fun d => o20 d.1 d.2.1 d.2.2.1 d.2.2.2.1 d.2.2.2.2.1⟩
theorem b20 (m : Int) (a : Int) (l : List Tube) (n i : Int) : bodyD Try.prog E c20 0 (bodyX Try.prog E ctB noLoops 1000 5 L0 (lpOf Try.prog 20 0)) (m, a, l, n, i, ()) =
  (.br (decide (i < n))
   (.req ((decide ((0 : Int) ≤ i) && decide (i < (↑(List.length l) : Int))) = true)
   (.leaf (.inl (m, (IntKind.wrap IntKind.i64 (a + IntKind.wrap IntKind.i64 (IntKind.wrap IntKind.i64 (wet (Tube.mk (Tube.Count (ti l i)) (Tube.Len (ti l i)) (Tube.Air (ti l i)) (Tube.Steel (ti l i)) (Tube.Out (ti l i)) (Tube.Yield (ti l i)) (Tube.Twist (ti l i)) (Tube.Stiff (ti l i)) (Tube.Used (ti l i))) m * Tube.Count (ti l i)) * Tube.Len (ti l i))), (l, (n, (IntKind.wrap IntKind.i64 (i + (1 : Int)), ()))))))))
   (.leaf (.inr (.exit (0 : Nat), [.n (a)])))) := by kernel_rfl
theorem h20' (m : Int) (a : Int) (l : List Tube) (i : Nat) (K : Ex × List (V T) → Prop) (hl : l.length ≤ 1000) (hK : K (.exit 0, [.n (fdT (fW m) a (l.drop i))])) :
    (bodyD Try.prog E c20 0 (bodyX Try.prog E ctB noLoops 1000 5 L0 (lpOf Try.prog 20 0)) (m, a, l, (l.length : Int), (i : Int), ())).holds fun y => match y with
    | .inl d => ((d.2.2.1.length : Int) - d.2.2.2.2.1).toNat < ((l.length : Int) - (i : Int)).toNat ∧ (c20.out d).holds K
    | .inr y => K y := by
  rw [b20]
  refine way (fun c => wayC (by omega) c fun _ _ => ?_) fun c => ?_
  · have e2 : IntKind.wrap IntKind.i64 ((i : Int) + 1) = ((i + 1 : Nat) : Int) := i64_in' (by omega) (by omega)
    rw [e2]
    rw [fdT_cons c] at hK
    have hlt : ((l.length : Int) - ((i + 1 : Nat) : Int)).toNat < ((l.length : Int) - (i : Int)).toNat := by omega
    have h3 : (0 : Int) ≤ ((i + 1 : Nat) : Int) := by omega
    exact ⟨hlt, ⟨⟨h3, rfl⟩, hl⟩, hK⟩
  · rw [fdT_end c] at hK
    exact hK
theorem h20 : LoopH Try.prog E c20 0 (bodyX Try.prog E ctB noLoops 1000 5 L0 (lpOf Try.prog 20 0)) :=
  ⟨fun d => ((d.2.2.1.length : Int) - d.2.2.2.2.1).toNat, fun d K hK => by
    obtain ⟨m, a, l, n, i, ⟨⟩⟩ := d
    obtain ⟨⟨⟨k1, k2⟩, k3⟩, k4⟩ := hK
    obtain ⟨q, hq⟩ := Int.eq_ofNat_of_zero_le k1
    obtain rfl : i = (q : Int) := hq
    obtain rfl : n = ((l : List Tube).length : Int) := k2
    refine Tree.holds_mono (fun y hy => ?_) (h20' m a l q K k3 k4)
    cases y with
    | inl d' => exact hy
    | inr y => exact hy⟩
theorem ll20 : LLOk Try.prog E (llOf Try.prog E 20 [(5, c20)]) := llOf_ok fun i hi c hc => by
  have hi : i < 1 := hi
  obtain rfl : i = 0 := by omega
  obtain rfl : c20 = c := Option.some.inj hc
  exact LSnd.mk good names mixes ctB_ok (by decide) h20

noncomputable def o21 (m : Int) (a i : Int) (l : List Tube) : Tree (Ex × List (V T)) := .req (0 ≤ i ∧ l.length ≤ 1000) (.leaf (.exit 0, [.n (fdT (fW m) a (l.drop i.toNat))]))
noncomputable def c21 : LoopC T := ⟨[.n, .n, .n, .l 26], ⟨46, [(1, .one (.i .i64)), (2, .one (.o 0 0)), (5, .one (.i .i64)), (6, .one (.i .i64))], [.c [.s 26]]⟩, fun _ => ⟨46, [(5, .one (.i .i64))], []⟩, 20, fun d => o21 d.1 d.2.1 d.2.2.1 d.2.2.2.1⟩
theorem b21 (m : Int) (a i : Int) (l : List Tube) : bodyD Try.prog E c21 0 (bodyX Try.prog E ctB noLoops 1000 5 L0 (lpOf Try.prog 21 0)) (m, a, i, l, ()) =
  (.br (decide (i < (↑(List.length l) : Int)))
   (.req ((decide ((0 : Int) ≤ i) && decide (i < (↑(List.length l) : Int))) = true)
   (.req ((decide ((0 : Int) ≤ i) && decide (i < (↑(List.length l) : Int))) = true)
   (.req ((decide ((0 : Int) ≤ i) && decide (i < (↑(List.length l) : Int))) = true)
   (.leaf (.inl (m, (IntKind.wrap IntKind.i64 (a + IntKind.wrap IntKind.i64 (IntKind.wrap IntKind.i64 (Tube.Count (ti l i) * Tube.Len (ti l i)) * wet (Tube.mk (Tube.Count (ti l i)) (Tube.Len (ti l i)) (Tube.Air (ti l i)) (Tube.Steel (ti l i)) (Tube.Out (ti l i)) (Tube.Yield (ti l i)) (Tube.Twist (ti l i)) (Tube.Stiff (ti l i)) (Tube.Used (ti l i))) m)), (IntKind.wrap IntKind.i64 (i + (1 : Int)), (l, ())))))))))
   (.leaf (.inr (.exit (0 : Nat), [.n (a)])))) := by kernel_rfl
theorem h21' (m : Int) (a : Int) (i : Nat) (l : List Tube) (K : Ex × List (V T) → Prop) (hl : l.length ≤ 1000) (hK : K (.exit 0, [.n (fdT (fW m) a (l.drop i))])) :
    (bodyD Try.prog E c21 0 (bodyX Try.prog E ctB noLoops 1000 5 L0 (lpOf Try.prog 21 0)) (m, a, (i : Int), l, ())).holds fun y => match y with
    | .inl d => ((d.2.2.2.1.length : Int) - d.2.2.1).toNat < ((l.length : Int) - (i : Int)).toNat ∧ (c21.out d).holds K
    | .inr y => K y := by
  rw [b21]
  refine way (fun c => wayC (by omega) c fun _ _ => wayC (by omega) c fun _ _ => wayC (by omega) c fun _ _ => ?_) fun c => ?_
  · have e2 : IntKind.wrap IntKind.i64 ((i : Int) + 1) = ((i + 1 : Nat) : Int) := i64_in' (by omega) (by omega)
    rw [e2]
    rw [fdT_cons c] at hK
    rw [← fW_eq] at hK
    have hlt : ((l.length : Int) - ((i + 1 : Nat) : Int)).toNat < ((l.length : Int) - (i : Int)).toNat := by omega
    have h3 : (0 : Int) ≤ ((i + 1 : Nat) : Int) := by omega
    exact ⟨hlt, ⟨h3, hl⟩, hK⟩
  · rw [fdT_end c] at hK
    exact hK
theorem h21 : LoopH Try.prog E c21 0 (bodyX Try.prog E ctB noLoops 1000 5 L0 (lpOf Try.prog 21 0)) :=
  ⟨fun d => ((d.2.2.2.1.length : Int) - d.2.2.1).toNat, fun d K hK => by
    obtain ⟨m, a, i, l, ⟨⟩⟩ := d
    obtain ⟨⟨k1, k3⟩, k4⟩ := hK
    obtain ⟨q, hq⟩ := Int.eq_ofNat_of_zero_le k1
    obtain rfl : i = (q : Int) := hq
    refine Tree.holds_mono (fun y hy => ?_) (h21' m a q l K k3 k4)
    cases y with
    | inl d' => exact hy
    | inr y => exact hy⟩
theorem ll21 : LLOk Try.prog E (llOf Try.prog E 21 [(5, c21)]) := llOf_ok fun i hi c hc => by
  have hi : i < 1 := hi
  obtain rfl : i = 0 := by omega
  obtain rfl : c21 = c := Option.some.inj hc
  exact LSnd.mk good names mixes ctB_ok (by decide) h21

theorem tv60 (l : List Tube) : runX ctB (llOf Try.prog E 60 [(3, c60)]) 60 [.agg [.sl 26 l false]] [2] =
  (.req (((0 : Int) ≤ (0 : Int) ∧ (↑(List.length l) : Int) = (↑(List.length l) : Int)) ∧ List.length l ≤ (1000 : Nat))
  (.leaf (.sym .i64 (fdT fL (0 : Int) (List.drop (Int.toNat (0 : Int)) l))))) := by kernel_rfl
theorem tv62 (l : List Tube) : runX ctB (llOf Try.prog E 62 [(3, c62)]) 62 [.agg [.sl 26 l false]] [2] =
  (.req ((0 : Int) ≤ (0 : Int) ∧ List.length l ≤ (1000 : Nat))
  (.leaf (.sym .i64 (fdT fL (0 : Int) (List.drop (Int.toNat (0 : Int)) l))))) := by kernel_rfl
noncomputable def len (l : List Tube) : Int := fdT fL 0 l
theorem s60 (l : List Tube) (h : l.length ≤ 1000) : (runX ctB (llOf Try.prog E 60 [(3, c60)]) 60 [.agg [.sl 26 l false]] [2]).holds fun v => v = i64 (len l) := by
  rw [tv60]
  exact ⟨⟨⟨by decide, rfl⟩, h⟩, rfl⟩
theorem s62 (l : List Tube) (h : l.length ≤ 1000) : (runX ctB (llOf Try.prog E 62 [(3, c62)]) 62 [.agg [.sl 26 l false]] [2]).holds fun v => v = i64 (len l) := by
  rw [tv62]
  exact ⟨⟨by decide, h⟩, rfl⟩
noncomputable def cLen : Con T := conP Try.prog [.agg [.s 26]] [.l 26] (fun d => (d.1 : List Tube).length ≤ 1000) fun d => i64 (len d.1)
theorem len_ok : ConOk Try.prog E 60 cLen := conP_ok fun d hd => fact_run ctB_ok ll60 (ts := [2]) rfl (s60 d.1 hd)
theorem len2_ok : ConOk Try.prog E 62 cLen := conP_ok fun d hd => fact_run ctB_ok ll62 (ts := [2]) rfl (s62 d.1 hd)
end Go.Proofs.Ytkaiffdndhhfcaa.W
