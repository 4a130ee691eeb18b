/- How many errors are high. No condition. -/
import Derived.Test.YtdclipcjlimdoaaF
set_option linter.unusedVariables false
set_option maxRecDepth 100000
set_option maxHeartbeats 4000000
noncomputable section
namespace Go.Proofs.Ytdclipcjlimdoaa.W
open Go Go.Cx Go.RowKit
noncomputable def ctFa : CTab T := [(22, cSensor), (23, cSensor)]
theorem ctFa_ok : CTabOk Try.prog E ctFa := .cons sensor_ok (.cons sensor2_ok .nil)
noncomputable def hc (st li : Int) : Nat → Int → Int → Int
  | 0, _, a => a
  | k + 1, e, a => hc st li k (e + 1) (if IntKind.wrap IntKind.i64 (e * st) ≥ li then a + 1 else a)
noncomputable def oHP1 (q : Int) (a : Int) (e : Int) (c : Int) (p : Int) (d : Int) (n : Int) (st : Int) (lo : Int) (li : Int) : Tree (Ex × List (V T)) := .req ((0 ≤ n ∧ n ≤ 15) ∧ (-n ≤ e ∧ e ≤ n + 1) ∧ 0 ≤ a ∧ a ≤ n + e) (.leaf (.exit 0, [.n q, .n (hc st li (n + 1 - e).toNat e a), .n c, .n p, .n d, .n n, .n st, .n lo, .n li]))
noncomputable def cHP1 : LoopC T := ⟨[.n, .n, .n, .n, .n, .n, .n, .n, .n, .n], ⟨102, [(1, .one (.i .i64)), (2, .one (.o 0 0)), (8, .one (.i .i64)), (9, .one (.i .i64))], [.c [.i .i64, .i .i64, .i .i64, .i .i64, .i .i64, .i .i64, .i .i64, .k .i64 1]]⟩, fun _ => ⟨102, [(1, .one (.i .i64)), (2, .one (.o 0 0)), (8, .one (.i .i64))], [.c [.i .i64, .i .i64, .i .i64, .i .i64, .i .i64, .i .i64, .i .i64, .k .i64 1]]⟩, 30, fun d => oHP1 d.1 d.2.1 d.2.2.1 d.2.2.2.1 d.2.2.2.2.1 d.2.2.2.2.2.1 d.2.2.2.2.2.2.1 d.2.2.2.2.2.2.2.1 d.2.2.2.2.2.2.2.2.1 d.2.2.2.2.2.2.2.2.2.1⟩
theorem bHP1 (q : Int) (a : Int) (e : Int) (c : Int) (p : Int) (d : Int) (n : Int) (st : Int) (lo : Int) (li : Int) : bodyD Try.prog E cHP1 0 (bodyX Try.prog E ctFa noLoops 1000 5 L0 (lpOf Try.prog 55 0)) (q, a, e, c, p, d, n, st, lo, li, ()) =
  (.br (decide (e ≤ n))
   (.br (decide (IntKind.wrap IntKind.i64 (e * st) ≥ li))
    (.leaf (.inl (q, (IntKind.wrap IntKind.i64 (a + (1 : Int)), (IntKind.wrap IntKind.i64 (e + (1 : Int)), (c, (p, (d, (n, (st, (lo, (li, ()))))))))))))
    (.leaf (.inl (q, (a, (IntKind.wrap IntKind.i64 (e + (1 : Int)), (c, (p, (d, (n, (st, (lo, (li, ())))))))))))))
   (.leaf (.inr (.exit (0 : Nat), [.n (q), .n (a), .n (c), .n (p), .n (d), .n (n), .n (st), .n (lo), .n (li)])))) := by kernel_rfl
theorem nHP1 (q : Int) (a : Int) (e : Int) (c : Int) (p : Int) (d : Int) (n : Int) (st : Int) (lo : Int) (li : Int) (K : Ex × List (V T) → Prop) (hI : (0 ≤ n ∧ n ≤ 15) ∧ (-n ≤ e ∧ e ≤ n + 1) ∧ 0 ≤ a ∧ a ≤ n + e) (hK : (.leaf (.exit 0, [.n q, .n (hc st li (n + 1 - e).toNat e a), .n c, .n p, .n d, .n n, .n st, .n lo, .n li]) : Tree (Ex × List (V T))).holds K) : (cHP1.out (q, a, e, c, p, d, n, st, lo, li, ())).holds K := ⟨hI, hK⟩
theorem hHP1' (q : Int) (a : Int) (e : Int) (c : Int) (p : Int) (d : Int) (n : Int) (st : Int) (lo : Int) (li : Int) (K : Ex × List (V T) → Prop) (hI : (0 ≤ n ∧ n ≤ 15) ∧ (-n ≤ e ∧ e ≤ n + 1) ∧ 0 ≤ a ∧ a ≤ n + e) (hK : (.leaf (.exit 0, [.n q, .n (hc st li (n + 1 - e).toNat e a), .n c, .n p, .n d, .n n, .n st, .n lo, .n li]) : Tree (Ex × List (V T))).holds K) :
    (bodyD Try.prog E cHP1 0 (bodyX Try.prog E ctFa noLoops 1000 5 L0 (lpOf Try.prog 55 0)) (q, a, e, c, p, d, n, st, lo, li, ())).holds fun y => match y with
    | .inl d => (d.2.2.2.2.2.2.1 + 1 - d.2.2.1).toNat < (n + 1 - e).toNat ∧ (cHP1.out d).holds K
    | .inr y => K y := by
  rw [bHP1]
  obtain ⟨hn, he, ha⟩ := hI
  refine way (fun k => ?_) fun k => ?_
  · have e1 : IntKind.wrap IntKind.i64 (e + 1) = e + 1 := i64_in' (by omega) (by omega)
    have e2 : IntKind.wrap IntKind.i64 (a + 1) = a + 1 := i64_in' (by omega) (by omega)
    have hlt : (n + 1 - (e + 1)).toNat < (n + 1 - e).toNat := by omega
    rw [e1, e2]
    rw [show (n + 1 - e).toNat = (n + 1 - (e + 1)).toNat + 1 by omega] at hK
    have hK : K (.exit 0, [.n q, .n (hc st li (n + 1 - (e + 1)).toNat (e + 1) (if IntKind.wrap IntKind.i64 (e * st) ≥ li then a + 1 else a)), .n c, .n p, .n d, .n n, .n st, .n lo, .n li]) := hK
    refine way (fun g => ?_) fun g => ?_
    · rw [if_pos g] at hK
      exact ⟨hlt, nHP1 _ _ _ _ _ _ _ _ _ _ K ⟨hn, by omega, by omega, by omega⟩ hK⟩
    · rw [if_neg g] at hK
      exact ⟨hlt, nHP1 _ _ _ _ _ _ _ _ _ _ K ⟨hn, by omega, by omega, by omega⟩ hK⟩
  · rw [show (n + 1 - e).toNat = 0 by omega] at hK
    exact hK
theorem hHP1 : LoopH Try.prog E cHP1 0 (bodyX Try.prog E ctFa noLoops 1000 5 L0 (lpOf Try.prog 55 0)) :=
  ⟨fun d => (d.2.2.2.2.2.2.1 + 1 - d.2.2.1).toNat, fun dd K hK => by
    obtain ⟨q, a, e, c, p, d, n, st, lo, li, ⟨⟩⟩ := dd
    obtain ⟨hI, hK⟩ := hK
    refine Tree.holds_mono (fun y hy => ?_) (hHP1' q a e c p d n st lo li K hI hK)
    cases y with
    | inl d' => exact hy
    | inr y => exact hy⟩
noncomputable def oHR1 (q : Int) (a : Int) (e : Int) (c : Int) (p : Int) (d : Int) (n : Int) (st : Int) (lo : Int) (li : Int) : Tree (Ex × List (V T)) := .req ((0 ≤ n ∧ n ≤ 15) ∧ (-n ≤ e ∧ e ≤ n + 1) ∧ 0 ≤ a ∧ a ≤ n + e) (.leaf (.exit 0, [.n q, .n (hc st li (n + 1 - e).toNat e a), .n c, .n p, .n d, .n n, .n st, .n lo, .n li]))
noncomputable def cHR1 : LoopC T := ⟨[.n, .n, .n, .n, .n, .n, .n, .n, .n, .n], ⟨121, [(1, .one (.i .i64)), (2, .one (.o 0 0)), (8, .one (.i .i64)), (9, .one (.i .i64))], [.c [.i .i64, .i .i64, .i .i64, .i .i64, .i .i64, .i .i64, .i .i64, .k .i64 1]]⟩, fun _ => ⟨121, [(1, .one (.i .i64)), (2, .one (.o 0 0)), (8, .one (.i .i64))], [.c [.i .i64, .i .i64, .i .i64, .i .i64, .i .i64, .i .i64, .i .i64, .k .i64 1]]⟩, 30, fun d => oHR1 d.1 d.2.1 d.2.2.1 d.2.2.2.1 d.2.2.2.2.1 d.2.2.2.2.2.1 d.2.2.2.2.2.2.1 d.2.2.2.2.2.2.2.1 d.2.2.2.2.2.2.2.2.1 d.2.2.2.2.2.2.2.2.2.1⟩
theorem bHR1 (q : Int) (a : Int) (e : Int) (c : Int) (p : Int) (d : Int) (n : Int) (st : Int) (lo : Int) (li : Int) : bodyD Try.prog E cHR1 0 (bodyX Try.prog E ctFa noLoops 1000 5 L0 (lpOf Try.prog 56 0)) (q, a, e, c, p, d, n, st, lo, li, ()) =
  (.br (decide (e ≤ n))
   (.br (decide (IntKind.wrap IntKind.i64 (e * st) ≥ li))
    (.leaf (.inl (q, (IntKind.wrap IntKind.i64 (a + (1 : Int)), (IntKind.wrap IntKind.i64 (e + (1 : Int)), (c, (p, (d, (n, (st, (lo, (li, ()))))))))))))
    (.leaf (.inl (q, (a, (IntKind.wrap IntKind.i64 (e + (1 : Int)), (c, (p, (d, (n, (st, (lo, (li, ())))))))))))))
   (.leaf (.inr (.exit (0 : Nat), [.n (q), .n (a), .n (c), .n (p), .n (d), .n (n), .n (st), .n (lo), .n (li)])))) := by kernel_rfl
theorem nHR1 (q : Int) (a : Int) (e : Int) (c : Int) (p : Int) (d : Int) (n : Int) (st : Int) (lo : Int) (li : Int) (K : Ex × List (V T) → Prop) (hI : (0 ≤ n ∧ n ≤ 15) ∧ (-n ≤ e ∧ e ≤ n + 1) ∧ 0 ≤ a ∧ a ≤ n + e) (hK : (.leaf (.exit 0, [.n q, .n (hc st li (n + 1 - e).toNat e a), .n c, .n p, .n d, .n n, .n st, .n lo, .n li]) : Tree (Ex × List (V T))).holds K) : (cHR1.out (q, a, e, c, p, d, n, st, lo, li, ())).holds K := ⟨hI, hK⟩
theorem hHR1' (q : Int) (a : Int) (e : Int) (c : Int) (p : Int) (d : Int) (n : Int) (st : Int) (lo : Int) (li : Int) (K : Ex × List (V T) → Prop) (hI : (0 ≤ n ∧ n ≤ 15) ∧ (-n ≤ e ∧ e ≤ n + 1) ∧ 0 ≤ a ∧ a ≤ n + e) (hK : (.leaf (.exit 0, [.n q, .n (hc st li (n + 1 - e).toNat e a), .n c, .n p, .n d, .n n, .n st, .n lo, .n li]) : Tree (Ex × List (V T))).holds K) :
    (bodyD Try.prog E cHR1 0 (bodyX Try.prog E ctFa noLoops 1000 5 L0 (lpOf Try.prog 56 0)) (q, a, e, c, p, d, n, st, lo, li, ())).holds fun y => match y with
    | .inl d => (d.2.2.2.2.2.2.1 + 1 - d.2.2.1).toNat < (n + 1 - e).toNat ∧ (cHR1.out d).holds K
    | .inr y => K y := by
  rw [bHR1]
  obtain ⟨hn, he, ha⟩ := hI
  refine way (fun k => ?_) fun k => ?_
  · have e1 : IntKind.wrap IntKind.i64 (e + 1) = e + 1 := i64_in' (by omega) (by omega)
    have e2 : IntKind.wrap IntKind.i64 (a + 1) = a + 1 := i64_in' (by omega) (by omega)
    have hlt : (n + 1 - (e + 1)).toNat < (n + 1 - e).toNat := by omega
    rw [e1, e2]
    rw [show (n + 1 - e).toNat = (n + 1 - (e + 1)).toNat + 1 by omega] at hK
    have hK : K (.exit 0, [.n q, .n (hc st li (n + 1 - (e + 1)).toNat (e + 1) (if IntKind.wrap IntKind.i64 (e * st) ≥ li then a + 1 else a)), .n c, .n p, .n d, .n n, .n st, .n lo, .n li]) := hK
    refine way (fun g => ?_) fun g => ?_
    · rw [if_pos g] at hK
      exact ⟨hlt, nHR1 _ _ _ _ _ _ _ _ _ _ K ⟨hn, by omega, by omega, by omega⟩ hK⟩
    · rw [if_neg g] at hK
      exact ⟨hlt, nHR1 _ _ _ _ _ _ _ _ _ _ K ⟨hn, by omega, by omega, by omega⟩ hK⟩
  · rw [show (n + 1 - e).toNat = 0 by omega] at hK
    exact hK
theorem hHR1 : LoopH Try.prog E cHR1 0 (bodyX Try.prog E ctFa noLoops 1000 5 L0 (lpOf Try.prog 56 0)) :=
  ⟨fun d => (d.2.2.2.2.2.2.1 + 1 - d.2.2.1).toNat, fun dd K hK => by
    obtain ⟨q, a, e, c, p, d, n, st, lo, li, ⟨⟩⟩ := dd
    obtain ⟨hI, hK⟩ := hK
    refine Tree.holds_mono (fun y hy => ?_) (hHR1' q a e c p d n st lo li K hI hK)
    cases y with
    | inl d' => exact hy
    | inr y => exact hy⟩
noncomputable def oHP2 (q : Int) (a : Int) (e : Int) (c : Int) (p : Int) (d : Int) (n : Int) (st : Int) (lo : Int) (li : Int) : Tree (Ex × List (V T)) := .req ((0 ≤ n ∧ n ≤ 15) ∧ (-n ≤ e ∧ e ≤ n + 1) ∧ 0 ≤ a ∧ a ≤ n + e) (.leaf (.exit 0, [.n q, .n (hc st li (n + 1 - e).toNat e a), .n c, .n p, .n d, .n n, .n st, .n lo, .n li]))
noncomputable def cHP2 : LoopC T := ⟨[.n, .n, .n, .n, .n, .n, .n, .n, .n, .n], ⟨102, [(1, .one (.i .i64)), (2, .one (.o 0 0)), (8, .one (.i .i64)), (9, .one (.i .i64))], [.c [.i .i64, .i .i64, .i .i64, .i .i64, .i .i64, .i .i64, .i .i64, .k .i64 2]]⟩, fun _ => ⟨102, [(1, .one (.i .i64)), (2, .one (.o 0 0)), (8, .one (.i .i64))], [.c [.i .i64, .i .i64, .i .i64, .i .i64, .i .i64, .i .i64, .i .i64, .k .i64 2]]⟩, 30, fun d => oHP2 d.1 d.2.1 d.2.2.1 d.2.2.2.1 d.2.2.2.2.1 d.2.2.2.2.2.1 d.2.2.2.2.2.2.1 d.2.2.2.2.2.2.2.1 d.2.2.2.2.2.2.2.2.1 d.2.2.2.2.2.2.2.2.2.1⟩
theorem bHP2 (q : Int) (a : Int) (e : Int) (c : Int) (p : Int) (d : Int) (n : Int) (st : Int) (lo : Int) (li : Int) : bodyD Try.prog E cHP2 0 (bodyX Try.prog E ctFa noLoops 1000 5 L0 (lpOf Try.prog 55 0)) (q, a, e, c, p, d, n, st, lo, li, ()) =
  (.br (decide (e ≤ n))
   (.br (decide (IntKind.wrap IntKind.i64 (e * st) ≥ li))
    (.leaf (.inl (q, (IntKind.wrap IntKind.i64 (a + (1 : Int)), (IntKind.wrap IntKind.i64 (e + (1 : Int)), (c, (p, (d, (n, (st, (lo, (li, ()))))))))))))
    (.leaf (.inl (q, (a, (IntKind.wrap IntKind.i64 (e + (1 : Int)), (c, (p, (d, (n, (st, (lo, (li, ())))))))))))))
   (.leaf (.inr (.exit (0 : Nat), [.n (q), .n (a), .n (c), .n (p), .n (d), .n (n), .n (st), .n (lo), .n (li)])))) := by kernel_rfl
theorem nHP2 (q : Int) (a : Int) (e : Int) (c : Int) (p : Int) (d : Int) (n : Int) (st : Int) (lo : Int) (li : Int) (K : Ex × List (V T) → Prop) (hI : (0 ≤ n ∧ n ≤ 15) ∧ (-n ≤ e ∧ e ≤ n + 1) ∧ 0 ≤ a ∧ a ≤ n + e) (hK : (.leaf (.exit 0, [.n q, .n (hc st li (n + 1 - e).toNat e a), .n c, .n p, .n d, .n n, .n st, .n lo, .n li]) : Tree (Ex × List (V T))).holds K) : (cHP2.out (q, a, e, c, p, d, n, st, lo, li, ())).holds K := ⟨hI, hK⟩
theorem hHP2' (q : Int) (a : Int) (e : Int) (c : Int) (p : Int) (d : Int) (n : Int) (st : Int) (lo : Int) (li : Int) (K : Ex × List (V T) → Prop) (hI : (0 ≤ n ∧ n ≤ 15) ∧ (-n ≤ e ∧ e ≤ n + 1) ∧ 0 ≤ a ∧ a ≤ n + e) (hK : (.leaf (.exit 0, [.n q, .n (hc st li (n + 1 - e).toNat e a), .n c, .n p, .n d, .n n, .n st, .n lo, .n li]) : Tree (Ex × List (V T))).holds K) :
    (bodyD Try.prog E cHP2 0 (bodyX Try.prog E ctFa noLoops 1000 5 L0 (lpOf Try.prog 55 0)) (q, a, e, c, p, d, n, st, lo, li, ())).holds fun y => match y with
    | .inl d => (d.2.2.2.2.2.2.1 + 1 - d.2.2.1).toNat < (n + 1 - e).toNat ∧ (cHP2.out d).holds K
    | .inr y => K y := by
  rw [bHP2]
  obtain ⟨hn, he, ha⟩ := hI
  refine way (fun k => ?_) fun k => ?_
  · have e1 : IntKind.wrap IntKind.i64 (e + 1) = e + 1 := i64_in' (by omega) (by omega)
    have e2 : IntKind.wrap IntKind.i64 (a + 1) = a + 1 := i64_in' (by omega) (by omega)
    have hlt : (n + 1 - (e + 1)).toNat < (n + 1 - e).toNat := by omega
    rw [e1, e2]
    rw [show (n + 1 - e).toNat = (n + 1 - (e + 1)).toNat + 1 by omega] at hK
    have hK : K (.exit 0, [.n q, .n (hc st li (n + 1 - (e + 1)).toNat (e + 1) (if IntKind.wrap IntKind.i64 (e * st) ≥ li then a + 1 else a)), .n c, .n p, .n d, .n n, .n st, .n lo, .n li]) := hK
    refine way (fun g => ?_) fun g => ?_
    · rw [if_pos g] at hK
      exact ⟨hlt, nHP2 _ _ _ _ _ _ _ _ _ _ K ⟨hn, by omega, by omega, by omega⟩ hK⟩
    · rw [if_neg g] at hK
      exact ⟨hlt, nHP2 _ _ _ _ _ _ _ _ _ _ K ⟨hn, by omega, by omega, by omega⟩ hK⟩
  · rw [show (n + 1 - e).toNat = 0 by omega] at hK
    exact hK
theorem hHP2 : LoopH Try.prog E cHP2 0 (bodyX Try.prog E ctFa noLoops 1000 5 L0 (lpOf Try.prog 55 0)) :=
  ⟨fun d => (d.2.2.2.2.2.2.1 + 1 - d.2.2.1).toNat, fun dd K hK => by
    obtain ⟨q, a, e, c, p, d, n, st, lo, li, ⟨⟩⟩ := dd
    obtain ⟨hI, hK⟩ := hK
    refine Tree.holds_mono (fun y hy => ?_) (hHP2' q a e c p d n st lo li K hI hK)
    cases y with
    | inl d' => exact hy
    | inr y => exact hy⟩
noncomputable def oHR2 (q : Int) (a : Int) (e : Int) (c : Int) (p : Int) (d : Int) (n : Int) (st : Int) (lo : Int) (li : Int) : Tree (Ex × List (V T)) := .req ((0 ≤ n ∧ n ≤ 15) ∧ (-n ≤ e ∧ e ≤ n + 1) ∧ 0 ≤ a ∧ a ≤ n + e) (.leaf (.exit 0, [.n q, .n (hc st li (n + 1 - e).toNat e a), .n c, .n p, .n d, .n n, .n st, .n lo, .n li]))
noncomputable def cHR2 : LoopC T := ⟨[.n, .n, .n, .n, .n, .n, .n, .n, .n, .n], ⟨121, [(1, .one (.i .i64)), (2, .one (.o 0 0)), (8, .one (.i .i64)), (9, .one (.i .i64))], [.c [.i .i64, .i .i64, .i .i64, .i .i64, .i .i64, .i .i64, .i .i64, .k .i64 2]]⟩, fun _ => ⟨121, [(1, .one (.i .i64)), (2, .one (.o 0 0)), (8, .one (.i .i64))], [.c [.i .i64, .i .i64, .i .i64, .i .i64, .i .i64, .i .i64, .i .i64, .k .i64 2]]⟩, 30, fun d => oHR2 d.1 d.2.1 d.2.2.1 d.2.2.2.1 d.2.2.2.2.1 d.2.2.2.2.2.1 d.2.2.2.2.2.2.1 d.2.2.2.2.2.2.2.1 d.2.2.2.2.2.2.2.2.1 d.2.2.2.2.2.2.2.2.2.1⟩
theorem bHR2 (q : Int) (a : Int) (e : Int) (c : Int) (p : Int) (d : Int) (n : Int) (st : Int) (lo : Int) (li : Int) : bodyD Try.prog E cHR2 0 (bodyX Try.prog E ctFa noLoops 1000 5 L0 (lpOf Try.prog 56 0)) (q, a, e, c, p, d, n, st, lo, li, ()) =
  (.br (decide (e ≤ n))
   (.br (decide (IntKind.wrap IntKind.i64 (e * st) ≥ li))
    (.leaf (.inl (q, (IntKind.wrap IntKind.i64 (a + (1 : Int)), (IntKind.wrap IntKind.i64 (e + (1 : Int)), (c, (p, (d, (n, (st, (lo, (li, ()))))))))))))
    (.leaf (.inl (q, (a, (IntKind.wrap IntKind.i64 (e + (1 : Int)), (c, (p, (d, (n, (st, (lo, (li, ())))))))))))))
   (.leaf (.inr (.exit (0 : Nat), [.n (q), .n (a), .n (c), .n (p), .n (d), .n (n), .n (st), .n (lo), .n (li)])))) := by kernel_rfl
theorem nHR2 (q : Int) (a : Int) (e : Int) (c : Int) (p : Int) (d : Int) (n : Int) (st : Int) (lo : Int) (li : Int) (K : Ex × List (V T) → Prop) (hI : (0 ≤ n ∧ n ≤ 15) ∧ (-n ≤ e ∧ e ≤ n + 1) ∧ 0 ≤ a ∧ a ≤ n + e) (hK : (.leaf (.exit 0, [.n q, .n (hc st li (n + 1 - e).toNat e a), .n c, .n p, .n d, .n n, .n st, .n lo, .n li]) : Tree (Ex × List (V T))).holds K) : (cHR2.out (q, a, e, c, p, d, n, st, lo, li, ())).holds K := ⟨hI, hK⟩
theorem hHR2' (q : Int) (a : Int) (e : Int) (c : Int) (p : Int) (d : Int) (n : Int) (st : Int) (lo : Int) (li : Int) (K : Ex × List (V T) → Prop) (hI : (0 ≤ n ∧ n ≤ 15) ∧ (-n ≤ e ∧ e ≤ n + 1) ∧ 0 ≤ a ∧ a ≤ n + e) (hK : (.leaf (.exit 0, [.n q, .n (hc st li (n + 1 - e).toNat e a), .n c, .n p, .n d, .n n, .n st, .n lo, .n li]) : Tree (Ex × List (V T))).holds K) :
    (bodyD Try.prog E cHR2 0 (bodyX Try.prog E ctFa noLoops 1000 5 L0 (lpOf Try.prog 56 0)) (q, a, e, c, p, d, n, st, lo, li, ())).holds fun y => match y with
    | .inl d => (d.2.2.2.2.2.2.1 + 1 - d.2.2.1).toNat < (n + 1 - e).toNat ∧ (cHR2.out d).holds K
    | .inr y => K y := by
  rw [bHR2]
  obtain ⟨hn, he, ha⟩ := hI
  refine way (fun k => ?_) fun k => ?_
  · have e1 : IntKind.wrap IntKind.i64 (e + 1) = e + 1 := i64_in' (by omega) (by omega)
    have e2 : IntKind.wrap IntKind.i64 (a + 1) = a + 1 := i64_in' (by omega) (by omega)
    have hlt : (n + 1 - (e + 1)).toNat < (n + 1 - e).toNat := by omega
    rw [e1, e2]
    rw [show (n + 1 - e).toNat = (n + 1 - (e + 1)).toNat + 1 by omega] at hK
    have hK : K (.exit 0, [.n q, .n (hc st li (n + 1 - (e + 1)).toNat (e + 1) (if IntKind.wrap IntKind.i64 (e * st) ≥ li then a + 1 else a)), .n c, .n p, .n d, .n n, .n st, .n lo, .n li]) := hK
    refine way (fun g => ?_) fun g => ?_
    · rw [if_pos g] at hK
      exact ⟨hlt, nHR2 _ _ _ _ _ _ _ _ _ _ K ⟨hn, by omega, by omega, by omega⟩ hK⟩
    · rw [if_neg g] at hK
      exact ⟨hlt, nHR2 _ _ _ _ _ _ _ _ _ _ K ⟨hn, by omega, by omega, by omega⟩ hK⟩
  · rw [show (n + 1 - e).toNat = 0 by omega] at hK
    exact hK
theorem hHR2 : LoopH Try.prog E cHR2 0 (bodyX Try.prog E ctFa noLoops 1000 5 L0 (lpOf Try.prog 56 0)) :=
  ⟨fun d => (d.2.2.2.2.2.2.1 + 1 - d.2.2.1).toNat, fun dd K hK => by
    obtain ⟨q, a, e, c, p, d, n, st, lo, li, ⟨⟩⟩ := dd
    obtain ⟨hI, hK⟩ := hK
    refine Tree.holds_mono (fun y hy => ?_) (hHR2' q a e c p d n st lo li K hI hK)
    cases y with
    | inl d' => exact hy
    | inr y => exact hy⟩
noncomputable def oHP3 (q : Int) (a : Int) (e : Int) (c : Int) (p : Int) (d : Int) (n : Int) (st : Int) (lo : Int) (li : Int) : Tree (Ex × List (V T)) := .req ((0 ≤ n ∧ n ≤ 15) ∧ (-n ≤ e ∧ e ≤ n + 1) ∧ 0 ≤ a ∧ a ≤ n + e) (.leaf (.exit 0, [.n q, .n (hc st li (n + 1 - e).toNat e a), .n c, .n p, .n d, .n n, .n st, .n lo, .n li]))
noncomputable def cHP3 : LoopC T := ⟨[.n, .n, .n, .n, .n, .n, .n, .n, .n, .n], ⟨102, [(1, .one (.i .i64)), (2, .one (.o 0 0)), (8, .one (.i .i64)), (9, .one (.i .i64))], [.c [.i .i64, .i .i64, .i .i64, .i .i64, .i .i64, .i .i64, .i .i64, .k .i64 3]]⟩, fun _ => ⟨102, [(1, .one (.i .i64)), (2, .one (.o 0 0)), (8, .one (.i .i64))], [.c [.i .i64, .i .i64, .i .i64, .i .i64, .i .i64, .i .i64, .i .i64, .k .i64 3]]⟩, 30, fun d => oHP3 d.1 d.2.1 d.2.2.1 d.2.2.2.1 d.2.2.2.2.1 d.2.2.2.2.2.1 d.2.2.2.2.2.2.1 d.2.2.2.2.2.2.2.1 d.2.2.2.2.2.2.2.2.1 d.2.2.2.2.2.2.2.2.2.1⟩
theorem bHP3 (q : Int) (a : Int) (e : Int) (c : Int) (p : Int) (d : Int) (n : Int) (st : Int) (lo : Int) (li : Int) : bodyD Try.prog E cHP3 0 (bodyX Try.prog E ctFa noLoops 1000 5 L0 (lpOf Try.prog 55 0)) (q, a, e, c, p, d, n, st, lo, li, ()) =
  (.br (decide (e ≤ n))
   (.br (decide (IntKind.wrap IntKind.i64 (e * st) ≥ li))
    (.leaf (.inl (q, (IntKind.wrap IntKind.i64 (a + (1 : Int)), (IntKind.wrap IntKind.i64 (e + (1 : Int)), (c, (p, (d, (n, (st, (lo, (li, ()))))))))))))
    (.leaf (.inl (q, (a, (IntKind.wrap IntKind.i64 (e + (1 : Int)), (c, (p, (d, (n, (st, (lo, (li, ())))))))))))))
   (.leaf (.inr (.exit (0 : Nat), [.n (q), .n (a), .n (c), .n (p), .n (d), .n (n), .n (st), .n (lo), .n (li)])))) := by kernel_rfl
theorem nHP3 (q : Int) (a : Int) (e : Int) (c : Int) (p : Int) (d : Int) (n : Int) (st : Int) (lo : Int) (li : Int) (K : Ex × List (V T) → Prop) (hI : (0 ≤ n ∧ n ≤ 15) ∧ (-n ≤ e ∧ e ≤ n + 1) ∧ 0 ≤ a ∧ a ≤ n + e) (hK : (.leaf (.exit 0, [.n q, .n (hc st li (n + 1 - e).toNat e a), .n c, .n p, .n d, .n n, .n st, .n lo, .n li]) : Tree (Ex × List (V T))).holds K) : (cHP3.out (q, a, e, c, p, d, n, st, lo, li, ())).holds K := ⟨hI, hK⟩
theorem hHP3' (q : Int) (a : Int) (e : Int) (c : Int) (p : Int) (d : Int) (n : Int) (st : Int) (lo : Int) (li : Int) (K : Ex × List (V T) → Prop) (hI : (0 ≤ n ∧ n ≤ 15) ∧ (-n ≤ e ∧ e ≤ n + 1) ∧ 0 ≤ a ∧ a ≤ n + e) (hK : (.leaf (.exit 0, [.n q, .n (hc st li (n + 1 - e).toNat e a), .n c, .n p, .n d, .n n, .n st, .n lo, .n li]) : Tree (Ex × List (V T))).holds K) :
    (bodyD Try.prog E cHP3 0 (bodyX Try.prog E ctFa noLoops 1000 5 L0 (lpOf Try.prog 55 0)) (q, a, e, c, p, d, n, st, lo, li, ())).holds fun y => match y with
    | .inl d => (d.2.2.2.2.2.2.1 + 1 - d.2.2.1).toNat < (n + 1 - e).toNat ∧ (cHP3.out d).holds K
    | .inr y => K y := by
  rw [bHP3]
  obtain ⟨hn, he, ha⟩ := hI
  refine way (fun k => ?_) fun k => ?_
  · have e1 : IntKind.wrap IntKind.i64 (e + 1) = e + 1 := i64_in' (by omega) (by omega)
    have e2 : IntKind.wrap IntKind.i64 (a + 1) = a + 1 := i64_in' (by omega) (by omega)
    have hlt : (n + 1 - (e + 1)).toNat < (n + 1 - e).toNat := by omega
    rw [e1, e2]
    rw [show (n + 1 - e).toNat = (n + 1 - (e + 1)).toNat + 1 by omega] at hK
    have hK : K (.exit 0, [.n q, .n (hc st li (n + 1 - (e + 1)).toNat (e + 1) (if IntKind.wrap IntKind.i64 (e * st) ≥ li then a + 1 else a)), .n c, .n p, .n d, .n n, .n st, .n lo, .n li]) := hK
    refine way (fun g => ?_) fun g => ?_
    · rw [if_pos g] at hK
      exact ⟨hlt, nHP3 _ _ _ _ _ _ _ _ _ _ K ⟨hn, by omega, by omega, by omega⟩ hK⟩
    · rw [if_neg g] at hK
      exact ⟨hlt, nHP3 _ _ _ _ _ _ _ _ _ _ K ⟨hn, by omega, by omega, by omega⟩ hK⟩
  · rw [show (n + 1 - e).toNat = 0 by omega] at hK
    exact hK
theorem hHP3 : LoopH Try.prog E cHP3 0 (bodyX Try.prog E ctFa noLoops 1000 5 L0 (lpOf Try.prog 55 0)) :=
  ⟨fun d => (d.2.2.2.2.2.2.1 + 1 - d.2.2.1).toNat, fun dd K hK => by
    obtain ⟨q, a, e, c, p, d, n, st, lo, li, ⟨⟩⟩ := dd
    obtain ⟨hI, hK⟩ := hK
    refine Tree.holds_mono (fun y hy => ?_) (hHP3' q a e c p d n st lo li K hI hK)
    cases y with
    | inl d' => exact hy
    | inr y => exact hy⟩
noncomputable def oHR3 (q : Int) (a : Int) (e : Int) (c : Int) (p : Int) (d : Int) (n : Int) (st : Int) (lo : Int) (li : Int) : Tree (Ex × List (V T)) := .req ((0 ≤ n ∧ n ≤ 15) ∧ (-n ≤ e ∧ e ≤ n + 1) ∧ 0 ≤ a ∧ a ≤ n + e) (.leaf (.exit 0, [.n q, .n (hc st li (n + 1 - e).toNat e a), .n c, .n p, .n d, .n n, .n st, .n lo, .n li]))
noncomputable def cHR3 : LoopC T := ⟨[.n, .n, .n, .n, .n, .n, .n, .n, .n, .n], ⟨121, [(1, .one (.i .i64)), (2, .one (.o 0 0)), (8, .one (.i .i64)), (9, .one (.i .i64))], [.c [.i .i64, .i .i64, .i .i64, .i .i64, .i .i64, .i .i64, .i .i64, .k .i64 3]]⟩, fun _ => ⟨121, [(1, .one (.i .i64)), (2, .one (.o 0 0)), (8, .one (.i .i64))], [.c [.i .i64, .i .i64, .i .i64, .i .i64, .i .i64, .i .i64, .i .i64, .k .i64 3]]⟩, 30, fun d => oHR3 d.1 d.2.1 d.2.2.1 d.2.2.2.1 d.2.2.2.2.1 d.2.2.2.2.2.1 d.2.2.2.2.2.2.1 d.2.2.2.2.2.2.2.1 d.2.2.2.2.2.2.2.2.1 d.2.2.2.2.2.2.2.2.2.1⟩
theorem bHR3 (q : Int) (a : Int) (e : Int) (c : Int) (p : Int) (d : Int) (n : Int) (st : Int) (lo : Int) (li : Int) : bodyD Try.prog E cHR3 0 (bodyX Try.prog E ctFa noLoops 1000 5 L0 (lpOf Try.prog 56 0)) (q, a, e, c, p, d, n, st, lo, li, ()) =
  (.br (decide (e ≤ n))
   (.br (decide (IntKind.wrap IntKind.i64 (e * st) ≥ li))
    (.leaf (.inl (q, (IntKind.wrap IntKind.i64 (a + (1 : Int)), (IntKind.wrap IntKind.i64 (e + (1 : Int)), (c, (p, (d, (n, (st, (lo, (li, ()))))))))))))
    (.leaf (.inl (q, (a, (IntKind.wrap IntKind.i64 (e + (1 : Int)), (c, (p, (d, (n, (st, (lo, (li, ())))))))))))))
   (.leaf (.inr (.exit (0 : Nat), [.n (q), .n (a), .n (c), .n (p), .n (d), .n (n), .n (st), .n (lo), .n (li)])))) := by kernel_rfl
theorem nHR3 (q : Int) (a : Int) (e : Int) (c : Int) (p : Int) (d : Int) (n : Int) (st : Int) (lo : Int) (li : Int) (K : Ex × List (V T) → Prop) (hI : (0 ≤ n ∧ n ≤ 15) ∧ (-n ≤ e ∧ e ≤ n + 1) ∧ 0 ≤ a ∧ a ≤ n + e) (hK : (.leaf (.exit 0, [.n q, .n (hc st li (n + 1 - e).toNat e a), .n c, .n p, .n d, .n n, .n st, .n lo, .n li]) : Tree (Ex × List (V T))).holds K) : (cHR3.out (q, a, e, c, p, d, n, st, lo, li, ())).holds K := ⟨hI, hK⟩
theorem hHR3' (q : Int) (a : Int) (e : Int) (c : Int) (p : Int) (d : Int) (n : Int) (st : Int) (lo : Int) (li : Int) (K : Ex × List (V T) → Prop) (hI : (0 ≤ n ∧ n ≤ 15) ∧ (-n ≤ e ∧ e ≤ n + 1) ∧ 0 ≤ a ∧ a ≤ n + e) (hK : (.leaf (.exit 0, [.n q, .n (hc st li (n + 1 - e).toNat e a), .n c, .n p, .n d, .n n, .n st, .n lo, .n li]) : Tree (Ex × List (V T))).holds K) :
    (bodyD Try.prog E cHR3 0 (bodyX Try.prog E ctFa noLoops 1000 5 L0 (lpOf Try.prog 56 0)) (q, a, e, c, p, d, n, st, lo, li, ())).holds fun y => match y with
    | .inl d => (d.2.2.2.2.2.2.1 + 1 - d.2.2.1).toNat < (n + 1 - e).toNat ∧ (cHR3.out d).holds K
    | .inr y => K y := by
  rw [bHR3]
  obtain ⟨hn, he, ha⟩ := hI
  refine way (fun k => ?_) fun k => ?_
  · have e1 : IntKind.wrap IntKind.i64 (e + 1) = e + 1 := i64_in' (by omega) (by omega)
    have e2 : IntKind.wrap IntKind.i64 (a + 1) = a + 1 := i64_in' (by omega) (by omega)
    have hlt : (n + 1 - (e + 1)).toNat < (n + 1 - e).toNat := by omega
    rw [e1, e2]
    rw [show (n + 1 - e).toNat = (n + 1 - (e + 1)).toNat + 1 by omega] at hK
    have hK : K (.exit 0, [.n q, .n (hc st li (n + 1 - (e + 1)).toNat (e + 1) (if IntKind.wrap IntKind.i64 (e * st) ≥ li then a + 1 else a)), .n c, .n p, .n d, .n n, .n st, .n lo, .n li]) := hK
    refine way (fun g => ?_) fun g => ?_
    · rw [if_pos g] at hK
      exact ⟨hlt, nHR3 _ _ _ _ _ _ _ _ _ _ K ⟨hn, by omega, by omega, by omega⟩ hK⟩
    · rw [if_neg g] at hK
      exact ⟨hlt, nHR3 _ _ _ _ _ _ _ _ _ _ K ⟨hn, by omega, by omega, by omega⟩ hK⟩
  · rw [show (n + 1 - e).toNat = 0 by omega] at hK
    exact hK
theorem hHR3 : LoopH Try.prog E cHR3 0 (bodyX Try.prog E ctFa noLoops 1000 5 L0 (lpOf Try.prog 56 0)) :=
  ⟨fun d => (d.2.2.2.2.2.2.1 + 1 - d.2.2.1).toNat, fun dd K hK => by
    obtain ⟨q, a, e, c, p, d, n, st, lo, li, ⟨⟩⟩ := dd
    obtain ⟨hI, hK⟩ := hK
    refine Tree.holds_mono (fun y hy => ?_) (hHR3' q a e c p d n st lo li K hI hK)
    cases y with
    | inl d' => exact hy
    | inr y => exact hy⟩
noncomputable def oHP4 (q : Int) (a : Int) (e : Int) (c : Int) (p : Int) (d : Int) (n : Int) (st : Int) (lo : Int) (li : Int) : Tree (Ex × List (V T)) := .req ((0 ≤ n ∧ n ≤ 15) ∧ (-n ≤ e ∧ e ≤ n + 1) ∧ 0 ≤ a ∧ a ≤ n + e) (.leaf (.exit 0, [.n q, .n (hc st li (n + 1 - e).toNat e a), .n c, .n p, .n d, .n n, .n st, .n lo, .n li]))
noncomputable def cHP4 : LoopC T := ⟨[.n, .n, .n, .n, .n, .n, .n, .n, .n, .n], ⟨102, [(1, .one (.i .i64)), (2, .one (.o 0 0)), (8, .one (.i .i64)), (9, .one (.i .i64))], [.c [.i .i64, .i .i64, .i .i64, .i .i64, .i .i64, .i .i64, .i .i64, .k .i64 4]]⟩, fun _ => ⟨102, [(1, .one (.i .i64)), (2, .one (.o 0 0)), (8, .one (.i .i64))], [.c [.i .i64, .i .i64, .i .i64, .i .i64, .i .i64, .i .i64, .i .i64, .k .i64 4]]⟩, 30, fun d => oHP4 d.1 d.2.1 d.2.2.1 d.2.2.2.1 d.2.2.2.2.1 d.2.2.2.2.2.1 d.2.2.2.2.2.2.1 d.2.2.2.2.2.2.2.1 d.2.2.2.2.2.2.2.2.1 d.2.2.2.2.2.2.2.2.2.1⟩
theorem bHP4 (q : Int) (a : Int) (e : Int) (c : Int) (p : Int) (d : Int) (n : Int) (st : Int) (lo : Int) (li : Int) : bodyD Try.prog E cHP4 0 (bodyX Try.prog E ctFa noLoops 1000 5 L0 (lpOf Try.prog 55 0)) (q, a, e, c, p, d, n, st, lo, li, ()) =
  (.br (decide (e ≤ n))
   (.br (decide (IntKind.wrap IntKind.i64 (e * st) ≥ li))
    (.leaf (.inl (q, (IntKind.wrap IntKind.i64 (a + (1 : Int)), (IntKind.wrap IntKind.i64 (e + (1 : Int)), (c, (p, (d, (n, (st, (lo, (li, ()))))))))))))
    (.leaf (.inl (q, (a, (IntKind.wrap IntKind.i64 (e + (1 : Int)), (c, (p, (d, (n, (st, (lo, (li, ())))))))))))))
   (.leaf (.inr (.exit (0 : Nat), [.n (q), .n (a), .n (c), .n (p), .n (d), .n (n), .n (st), .n (lo), .n (li)])))) := by kernel_rfl
theorem nHP4 (q : Int) (a : Int) (e : Int) (c : Int) (p : Int) (d : Int) (n : Int) (st : Int) (lo : Int) (li : Int) (K : Ex × List (V T) → Prop) (hI : (0 ≤ n ∧ n ≤ 15) ∧ (-n ≤ e ∧ e ≤ n + 1) ∧ 0 ≤ a ∧ a ≤ n + e) (hK : (.leaf (.exit 0, [.n q, .n (hc st li (n + 1 - e).toNat e a), .n c, .n p, .n d, .n n, .n st, .n lo, .n li]) : Tree (Ex × List (V T))).holds K) : (cHP4.out (q, a, e, c, p, d, n, st, lo, li, ())).holds K := ⟨hI, hK⟩
theorem hHP4' (q : Int) (a : Int) (e : Int) (c : Int) (p : Int) (d : Int) (n : Int) (st : Int) (lo : Int) (li : Int) (K : Ex × List (V T) → Prop) (hI : (0 ≤ n ∧ n ≤ 15) ∧ (-n ≤ e ∧ e ≤ n + 1) ∧ 0 ≤ a ∧ a ≤ n + e) (hK : (.leaf (.exit 0, [.n q, .n (hc st li (n + 1 - e).toNat e a), .n c, .n p, .n d, .n n, .n st, .n lo, .n li]) : Tree (Ex × List (V T))).holds K) :
    (bodyD Try.prog E cHP4 0 (bodyX Try.prog E ctFa noLoops 1000 5 L0 (lpOf Try.prog 55 0)) (q, a, e, c, p, d, n, st, lo, li, ())).holds fun y => match y with
    | .inl d => (d.2.2.2.2.2.2.1 + 1 - d.2.2.1).toNat < (n + 1 - e).toNat ∧ (cHP4.out d).holds K
    | .inr y => K y := by
  rw [bHP4]
  obtain ⟨hn, he, ha⟩ := hI
  refine way (fun k => ?_) fun k => ?_
  · have e1 : IntKind.wrap IntKind.i64 (e + 1) = e + 1 := i64_in' (by omega) (by omega)
    have e2 : IntKind.wrap IntKind.i64 (a + 1) = a + 1 := i64_in' (by omega) (by omega)
    have hlt : (n + 1 - (e + 1)).toNat < (n + 1 - e).toNat := by omega
    rw [e1, e2]
    rw [show (n + 1 - e).toNat = (n + 1 - (e + 1)).toNat + 1 by omega] at hK
    have hK : K (.exit 0, [.n q, .n (hc st li (n + 1 - (e + 1)).toNat (e + 1) (if IntKind.wrap IntKind.i64 (e * st) ≥ li then a + 1 else a)), .n c, .n p, .n d, .n n, .n st, .n lo, .n li]) := hK
    refine way (fun g => ?_) fun g => ?_
    · rw [if_pos g] at hK
      exact ⟨hlt, nHP4 _ _ _ _ _ _ _ _ _ _ K ⟨hn, by omega, by omega, by omega⟩ hK⟩
    · rw [if_neg g] at hK
      exact ⟨hlt, nHP4 _ _ _ _ _ _ _ _ _ _ K ⟨hn, by omega, by omega, by omega⟩ hK⟩
  · rw [show (n + 1 - e).toNat = 0 by omega] at hK
    exact hK
theorem hHP4 : LoopH Try.prog E cHP4 0 (bodyX Try.prog E ctFa noLoops 1000 5 L0 (lpOf Try.prog 55 0)) :=
  ⟨fun d => (d.2.2.2.2.2.2.1 + 1 - d.2.2.1).toNat, fun dd K hK => by
    obtain ⟨q, a, e, c, p, d, n, st, lo, li, ⟨⟩⟩ := dd
    obtain ⟨hI, hK⟩ := hK
    refine Tree.holds_mono (fun y hy => ?_) (hHP4' q a e c p d n st lo li K hI hK)
    cases y with
    | inl d' => exact hy
    | inr y => exact hy⟩
noncomputable def oHR4 (q : Int) (a : Int) (e : Int) (c : Int) (p : Int) (d : Int) (n : Int) (st : Int) (lo : Int) (li : Int) : Tree (Ex × List (V T)) := .req ((0 ≤ n ∧ n ≤ 15) ∧ (-n ≤ e ∧ e ≤ n + 1) ∧ 0 ≤ a ∧ a ≤ n + e) (.leaf (.exit 0, [.n q, .n (hc st li (n + 1 - e).toNat e a), .n c, .n p, .n d, .n n, .n st, .n lo, .n li]))
noncomputable def cHR4 : LoopC T := ⟨[.n, .n, .n, .n, .n, .n, .n, .n, .n, .n], ⟨121, [(1, .one (.i .i64)), (2, .one (.o 0 0)), (8, .one (.i .i64)), (9, .one (.i .i64))], [.c [.i .i64, .i .i64, .i .i64, .i .i64, .i .i64, .i .i64, .i .i64, .k .i64 4]]⟩, fun _ => ⟨121, [(1, .one (.i .i64)), (2, .one (.o 0 0)), (8, .one (.i .i64))], [.c [.i .i64, .i .i64, .i .i64, .i .i64, .i .i64, .i .i64, .i .i64, .k .i64 4]]⟩, 30, fun d => oHR4 d.1 d.2.1 d.2.2.1 d.2.2.2.1 d.2.2.2.2.1 d.2.2.2.2.2.1 d.2.2.2.2.2.2.1 d.2.2.2.2.2.2.2.1 d.2.2.2.2.2.2.2.2.1 d.2.2.2.2.2.2.2.2.2.1⟩
theorem bHR4 (q : Int) (a : Int) (e : Int) (c : Int) (p : Int) (d : Int) (n : Int) (st : Int) (lo : Int) (li : Int) : bodyD Try.prog E cHR4 0 (bodyX Try.prog E ctFa noLoops 1000 5 L0 (lpOf Try.prog 56 0)) (q, a, e, c, p, d, n, st, lo, li, ()) =
  (.br (decide (e ≤ n))
   (.br (decide (IntKind.wrap IntKind.i64 (e * st) ≥ li))
    (.leaf (.inl (q, (IntKind.wrap IntKind.i64 (a + (1 : Int)), (IntKind.wrap IntKind.i64 (e + (1 : Int)), (c, (p, (d, (n, (st, (lo, (li, ()))))))))))))
    (.leaf (.inl (q, (a, (IntKind.wrap IntKind.i64 (e + (1 : Int)), (c, (p, (d, (n, (st, (lo, (li, ())))))))))))))
   (.leaf (.inr (.exit (0 : Nat), [.n (q), .n (a), .n (c), .n (p), .n (d), .n (n), .n (st), .n (lo), .n (li)])))) := by kernel_rfl
theorem nHR4 (q : Int) (a : Int) (e : Int) (c : Int) (p : Int) (d : Int) (n : Int) (st : Int) (lo : Int) (li : Int) (K : Ex × List (V T) → Prop) (hI : (0 ≤ n ∧ n ≤ 15) ∧ (-n ≤ e ∧ e ≤ n + 1) ∧ 0 ≤ a ∧ a ≤ n + e) (hK : (.leaf (.exit 0, [.n q, .n (hc st li (n + 1 - e).toNat e a), .n c, .n p, .n d, .n n, .n st, .n lo, .n li]) : Tree (Ex × List (V T))).holds K) : (cHR4.out (q, a, e, c, p, d, n, st, lo, li, ())).holds K := ⟨hI, hK⟩
theorem hHR4' (q : Int) (a : Int) (e : Int) (c : Int) (p : Int) (d : Int) (n : Int) (st : Int) (lo : Int) (li : Int) (K : Ex × List (V T) → Prop) (hI : (0 ≤ n ∧ n ≤ 15) ∧ (-n ≤ e ∧ e ≤ n + 1) ∧ 0 ≤ a ∧ a ≤ n + e) (hK : (.leaf (.exit 0, [.n q, .n (hc st li (n + 1 - e).toNat e a), .n c, .n p, .n d, .n n, .n st, .n lo, .n li]) : Tree (Ex × List (V T))).holds K) :
    (bodyD Try.prog E cHR4 0 (bodyX Try.prog E ctFa noLoops 1000 5 L0 (lpOf Try.prog 56 0)) (q, a, e, c, p, d, n, st, lo, li, ())).holds fun y => match y with
    | .inl d => (d.2.2.2.2.2.2.1 + 1 - d.2.2.1).toNat < (n + 1 - e).toNat ∧ (cHR4.out d).holds K
    | .inr y => K y := by
  rw [bHR4]
  obtain ⟨hn, he, ha⟩ := hI
  refine way (fun k => ?_) fun k => ?_
  · have e1 : IntKind.wrap IntKind.i64 (e + 1) = e + 1 := i64_in' (by omega) (by omega)
    have e2 : IntKind.wrap IntKind.i64 (a + 1) = a + 1 := i64_in' (by omega) (by omega)
    have hlt : (n + 1 - (e + 1)).toNat < (n + 1 - e).toNat := by omega
    rw [e1, e2]
    rw [show (n + 1 - e).toNat = (n + 1 - (e + 1)).toNat + 1 by omega] at hK
    have hK : K (.exit 0, [.n q, .n (hc st li (n + 1 - (e + 1)).toNat (e + 1) (if IntKind.wrap IntKind.i64 (e * st) ≥ li then a + 1 else a)), .n c, .n p, .n d, .n n, .n st, .n lo, .n li]) := hK
    refine way (fun g => ?_) fun g => ?_
    · rw [if_pos g] at hK
      exact ⟨hlt, nHR4 _ _ _ _ _ _ _ _ _ _ K ⟨hn, by omega, by omega, by omega⟩ hK⟩
    · rw [if_neg g] at hK
      exact ⟨hlt, nHR4 _ _ _ _ _ _ _ _ _ _ K ⟨hn, by omega, by omega, by omega⟩ hK⟩
  · rw [show (n + 1 - e).toNat = 0 by omega] at hK
    exact hK
theorem hHR4 : LoopH Try.prog E cHR4 0 (bodyX Try.prog E ctFa noLoops 1000 5 L0 (lpOf Try.prog 56 0)) :=
  ⟨fun d => (d.2.2.2.2.2.2.1 + 1 - d.2.2.1).toNat, fun dd K hK => by
    obtain ⟨q, a, e, c, p, d, n, st, lo, li, ⟨⟩⟩ := dd
    obtain ⟨hI, hK⟩ := hK
    refine Tree.holds_mono (fun y hy => ?_) (hHR4' q a e c p d n st lo li K hI hK)
    cases y with
    | inl d' => exact hy
    | inr y => exact hy⟩
noncomputable def oHP5 (q : Int) (a : Int) (e : Int) (c : Int) (p : Int) (d : Int) (n : Int) (st : Int) (lo : Int) (li : Int) : Tree (Ex × List (V T)) := .req ((0 ≤ n ∧ n ≤ 15) ∧ (-n ≤ e ∧ e ≤ n + 1) ∧ 0 ≤ a ∧ a ≤ n + e) (.leaf (.exit 0, [.n q, .n (hc st li (n + 1 - e).toNat e a), .n c, .n p, .n d, .n n, .n st, .n lo, .n li]))
noncomputable def cHP5 : LoopC T := ⟨[.n, .n, .n, .n, .n, .n, .n, .n, .n, .n], ⟨102, [(1, .one (.i .i64)), (2, .one (.o 0 0)), (8, .one (.i .i64)), (9, .one (.i .i64))], [.c [.i .i64, .i .i64, .i .i64, .i .i64, .i .i64, .i .i64, .i .i64, .k .i64 5]]⟩, fun _ => ⟨102, [(1, .one (.i .i64)), (2, .one (.o 0 0)), (8, .one (.i .i64))], [.c [.i .i64, .i .i64, .i .i64, .i .i64, .i .i64, .i .i64, .i .i64, .k .i64 5]]⟩, 30, fun d => oHP5 d.1 d.2.1 d.2.2.1 d.2.2.2.1 d.2.2.2.2.1 d.2.2.2.2.2.1 d.2.2.2.2.2.2.1 d.2.2.2.2.2.2.2.1 d.2.2.2.2.2.2.2.2.1 d.2.2.2.2.2.2.2.2.2.1⟩
theorem bHP5 (q : Int) (a : Int) (e : Int) (c : Int) (p : Int) (d : Int) (n : Int) (st : Int) (lo : Int) (li : Int) : bodyD Try.prog E cHP5 0 (bodyX Try.prog E ctFa noLoops 1000 5 L0 (lpOf Try.prog 55 0)) (q, a, e, c, p, d, n, st, lo, li, ()) =
  (.br (decide (e ≤ n))
   (.br (decide (IntKind.wrap IntKind.i64 (e * st) ≥ li))
    (.leaf (.inl (q, (IntKind.wrap IntKind.i64 (a + (1 : Int)), (IntKind.wrap IntKind.i64 (e + (1 : Int)), (c, (p, (d, (n, (st, (lo, (li, ()))))))))))))
    (.leaf (.inl (q, (a, (IntKind.wrap IntKind.i64 (e + (1 : Int)), (c, (p, (d, (n, (st, (lo, (li, ())))))))))))))
   (.leaf (.inr (.exit (0 : Nat), [.n (q), .n (a), .n (c), .n (p), .n (d), .n (n), .n (st), .n (lo), .n (li)])))) := by kernel_rfl
theorem nHP5 (q : Int) (a : Int) (e : Int) (c : Int) (p : Int) (d : Int) (n : Int) (st : Int) (lo : Int) (li : Int) (K : Ex × List (V T) → Prop) (hI : (0 ≤ n ∧ n ≤ 15) ∧ (-n ≤ e ∧ e ≤ n + 1) ∧ 0 ≤ a ∧ a ≤ n + e) (hK : (.leaf (.exit 0, [.n q, .n (hc st li (n + 1 - e).toNat e a), .n c, .n p, .n d, .n n, .n st, .n lo, .n li]) : Tree (Ex × List (V T))).holds K) : (cHP5.out (q, a, e, c, p, d, n, st, lo, li, ())).holds K := ⟨hI, hK⟩
theorem hHP5' (q : Int) (a : Int) (e : Int) (c : Int) (p : Int) (d : Int) (n : Int) (st : Int) (lo : Int) (li : Int) (K : Ex × List (V T) → Prop) (hI : (0 ≤ n ∧ n ≤ 15) ∧ (-n ≤ e ∧ e ≤ n + 1) ∧ 0 ≤ a ∧ a ≤ n + e) (hK : (.leaf (.exit 0, [.n q, .n (hc st li (n + 1 - e).toNat e a), .n c, .n p, .n d, .n n, .n st, .n lo, .n li]) : Tree (Ex × List (V T))).holds K) :
    (bodyD Try.prog E cHP5 0 (bodyX Try.prog E ctFa noLoops 1000 5 L0 (lpOf Try.prog 55 0)) (q, a, e, c, p, d, n, st, lo, li, ())).holds fun y => match y with
    | .inl d => (d.2.2.2.2.2.2.1 + 1 - d.2.2.1).toNat < (n + 1 - e).toNat ∧ (cHP5.out d).holds K
    | .inr y => K y := by
  rw [bHP5]
  obtain ⟨hn, he, ha⟩ := hI
  refine way (fun k => ?_) fun k => ?_
  · have e1 : IntKind.wrap IntKind.i64 (e + 1) = e + 1 := i64_in' (by omega) (by omega)
    have e2 : IntKind.wrap IntKind.i64 (a + 1) = a + 1 := i64_in' (by omega) (by omega)
    have hlt : (n + 1 - (e + 1)).toNat < (n + 1 - e).toNat := by omega
    rw [e1, e2]
    rw [show (n + 1 - e).toNat = (n + 1 - (e + 1)).toNat + 1 by omega] at hK
    have hK : K (.exit 0, [.n q, .n (hc st li (n + 1 - (e + 1)).toNat (e + 1) (if IntKind.wrap IntKind.i64 (e * st) ≥ li then a + 1 else a)), .n c, .n p, .n d, .n n, .n st, .n lo, .n li]) := hK
    refine way (fun g => ?_) fun g => ?_
    · rw [if_pos g] at hK
      exact ⟨hlt, nHP5 _ _ _ _ _ _ _ _ _ _ K ⟨hn, by omega, by omega, by omega⟩ hK⟩
    · rw [if_neg g] at hK
      exact ⟨hlt, nHP5 _ _ _ _ _ _ _ _ _ _ K ⟨hn, by omega, by omega, by omega⟩ hK⟩
  · rw [show (n + 1 - e).toNat = 0 by omega] at hK
    exact hK
theorem hHP5 : LoopH Try.prog E cHP5 0 (bodyX Try.prog E ctFa noLoops 1000 5 L0 (lpOf Try.prog 55 0)) :=
  ⟨fun d => (d.2.2.2.2.2.2.1 + 1 - d.2.2.1).toNat, fun dd K hK => by
    obtain ⟨q, a, e, c, p, d, n, st, lo, li, ⟨⟩⟩ := dd
    obtain ⟨hI, hK⟩ := hK
    refine Tree.holds_mono (fun y hy => ?_) (hHP5' q a e c p d n st lo li K hI hK)
    cases y with
    | inl d' => exact hy
    | inr y => exact hy⟩
noncomputable def oHR5 (q : Int) (a : Int) (e : Int) (c : Int) (p : Int) (d : Int) (n : Int) (st : Int) (lo : Int) (li : Int) : Tree (Ex × List (V T)) := .req ((0 ≤ n ∧ n ≤ 15) ∧ (-n ≤ e ∧ e ≤ n + 1) ∧ 0 ≤ a ∧ a ≤ n + e) (.leaf (.exit 0, [.n q, .n (hc st li (n + 1 - e).toNat e a), .n c, .n p, .n d, .n n, .n st, .n lo, .n li]))
noncomputable def cHR5 : LoopC T := ⟨[.n, .n, .n, .n, .n, .n, .n, .n, .n, .n], ⟨121, [(1, .one (.i .i64)), (2, .one (.o 0 0)), (8, .one (.i .i64)), (9, .one (.i .i64))], [.c [.i .i64, .i .i64, .i .i64, .i .i64, .i .i64, .i .i64, .i .i64, .k .i64 5]]⟩, fun _ => ⟨121, [(1, .one (.i .i64)), (2, .one (.o 0 0)), (8, .one (.i .i64))], [.c [.i .i64, .i .i64, .i .i64, .i .i64, .i .i64, .i .i64, .i .i64, .k .i64 5]]⟩, 30, fun d => oHR5 d.1 d.2.1 d.2.2.1 d.2.2.2.1 d.2.2.2.2.1 d.2.2.2.2.2.1 d.2.2.2.2.2.2.1 d.2.2.2.2.2.2.2.1 d.2.2.2.2.2.2.2.2.1 d.2.2.2.2.2.2.2.2.2.1⟩
theorem bHR5 (q : Int) (a : Int) (e : Int) (c : Int) (p : Int) (d : Int) (n : Int) (st : Int) (lo : Int) (li : Int) : bodyD Try.prog E cHR5 0 (bodyX Try.prog E ctFa noLoops 1000 5 L0 (lpOf Try.prog 56 0)) (q, a, e, c, p, d, n, st, lo, li, ()) =
  (.br (decide (e ≤ n))
   (.br (decide (IntKind.wrap IntKind.i64 (e * st) ≥ li))
    (.leaf (.inl (q, (IntKind.wrap IntKind.i64 (a + (1 : Int)), (IntKind.wrap IntKind.i64 (e + (1 : Int)), (c, (p, (d, (n, (st, (lo, (li, ()))))))))))))
    (.leaf (.inl (q, (a, (IntKind.wrap IntKind.i64 (e + (1 : Int)), (c, (p, (d, (n, (st, (lo, (li, ())))))))))))))
   (.leaf (.inr (.exit (0 : Nat), [.n (q), .n (a), .n (c), .n (p), .n (d), .n (n), .n (st), .n (lo), .n (li)])))) := by kernel_rfl
theorem nHR5 (q : Int) (a : Int) (e : Int) (c : Int) (p : Int) (d : Int) (n : Int) (st : Int) (lo : Int) (li : Int) (K : Ex × List (V T) → Prop) (hI : (0 ≤ n ∧ n ≤ 15) ∧ (-n ≤ e ∧ e ≤ n + 1) ∧ 0 ≤ a ∧ a ≤ n + e) (hK : (.leaf (.exit 0, [.n q, .n (hc st li (n + 1 - e).toNat e a), .n c, .n p, .n d, .n n, .n st, .n lo, .n li]) : Tree (Ex × List (V T))).holds K) : (cHR5.out (q, a, e, c, p, d, n, st, lo, li, ())).holds K := ⟨hI, hK⟩
theorem hHR5' (q : Int) (a : Int) (e : Int) (c : Int) (p : Int) (d : Int) (n : Int) (st : Int) (lo : Int) (li : Int) (K : Ex × List (V T) → Prop) (hI : (0 ≤ n ∧ n ≤ 15) ∧ (-n ≤ e ∧ e ≤ n + 1) ∧ 0 ≤ a ∧ a ≤ n + e) (hK : (.leaf (.exit 0, [.n q, .n (hc st li (n + 1 - e).toNat e a), .n c, .n p, .n d, .n n, .n st, .n lo, .n li]) : Tree (Ex × List (V T))).holds K) :
    (bodyD Try.prog E cHR5 0 (bodyX Try.prog E ctFa noLoops 1000 5 L0 (lpOf Try.prog 56 0)) (q, a, e, c, p, d, n, st, lo, li, ())).holds fun y => match y with
    | .inl d => (d.2.2.2.2.2.2.1 + 1 - d.2.2.1).toNat < (n + 1 - e).toNat ∧ (cHR5.out d).holds K
    | .inr y => K y := by
  rw [bHR5]
  obtain ⟨hn, he, ha⟩ := hI
  refine way (fun k => ?_) fun k => ?_
  · have e1 : IntKind.wrap IntKind.i64 (e + 1) = e + 1 := i64_in' (by omega) (by omega)
    have e2 : IntKind.wrap IntKind.i64 (a + 1) = a + 1 := i64_in' (by omega) (by omega)
    have hlt : (n + 1 - (e + 1)).toNat < (n + 1 - e).toNat := by omega
    rw [e1, e2]
    rw [show (n + 1 - e).toNat = (n + 1 - (e + 1)).toNat + 1 by omega] at hK
    have hK : K (.exit 0, [.n q, .n (hc st li (n + 1 - (e + 1)).toNat (e + 1) (if IntKind.wrap IntKind.i64 (e * st) ≥ li then a + 1 else a)), .n c, .n p, .n d, .n n, .n st, .n lo, .n li]) := hK
    refine way (fun g => ?_) fun g => ?_
    · rw [if_pos g] at hK
      exact ⟨hlt, nHR5 _ _ _ _ _ _ _ _ _ _ K ⟨hn, by omega, by omega, by omega⟩ hK⟩
    · rw [if_neg g] at hK
      exact ⟨hlt, nHR5 _ _ _ _ _ _ _ _ _ _ K ⟨hn, by omega, by omega, by omega⟩ hK⟩
  · rw [show (n + 1 - e).toNat = 0 by omega] at hK
    exact hK
theorem hHR5 : LoopH Try.prog E cHR5 0 (bodyX Try.prog E ctFa noLoops 1000 5 L0 (lpOf Try.prog 56 0)) :=
  ⟨fun d => (d.2.2.2.2.2.2.1 + 1 - d.2.2.1).toNat, fun dd K hK => by
    obtain ⟨q, a, e, c, p, d, n, st, lo, li, ⟨⟩⟩ := dd
    obtain ⟨hI, hK⟩ := hK
    refine Tree.holds_mono (fun y hy => ?_) (hHR5' q a e c p d n st lo li K hI hK)
    cases y with
    | inl d' => exact hy
    | inr y => exact hy⟩
noncomputable def oHP6 (q : Int) (a : Int) (e : Int) (c : Int) (p : Int) (d : Int) (n : Int) (st : Int) (lo : Int) (li : Int) : Tree (Ex × List (V T)) := .req ((0 ≤ n ∧ n ≤ 15) ∧ (-n ≤ e ∧ e ≤ n + 1) ∧ 0 ≤ a ∧ a ≤ n + e) (.leaf (.exit 0, [.n q, .n (hc st li (n + 1 - e).toNat e a), .n c, .n p, .n d, .n n, .n st, .n lo, .n li]))
noncomputable def cHP6 : LoopC T := ⟨[.n, .n, .n, .n, .n, .n, .n, .n, .n, .n], ⟨102, [(1, .one (.i .i64)), (2, .one (.o 0 0)), (8, .one (.i .i64)), (9, .one (.i .i64))], [.c [.i .i64, .i .i64, .i .i64, .i .i64, .i .i64, .i .i64, .i .i64, .k .i64 6]]⟩, fun _ => ⟨102, [(1, .one (.i .i64)), (2, .one (.o 0 0)), (8, .one (.i .i64))], [.c [.i .i64, .i .i64, .i .i64, .i .i64, .i .i64, .i .i64, .i .i64, .k .i64 6]]⟩, 30, fun d => oHP6 d.1 d.2.1 d.2.2.1 d.2.2.2.1 d.2.2.2.2.1 d.2.2.2.2.2.1 d.2.2.2.2.2.2.1 d.2.2.2.2.2.2.2.1 d.2.2.2.2.2.2.2.2.1 d.2.2.2.2.2.2.2.2.2.1⟩
theorem bHP6 (q : Int) (a : Int) (e : Int) (c : Int) (p : Int) (d : Int) (n : Int) (st : Int) (lo : Int) (li : Int) : bodyD Try.prog E cHP6 0 (bodyX Try.prog E ctFa noLoops 1000 5 L0 (lpOf Try.prog 55 0)) (q, a, e, c, p, d, n, st, lo, li, ()) =
  (.br (decide (e ≤ n))
   (.br (decide (IntKind.wrap IntKind.i64 (e * st) ≥ li))
    (.leaf (.inl (q, (IntKind.wrap IntKind.i64 (a + (1 : Int)), (IntKind.wrap IntKind.i64 (e + (1 : Int)), (c, (p, (d, (n, (st, (lo, (li, ()))))))))))))
    (.leaf (.inl (q, (a, (IntKind.wrap IntKind.i64 (e + (1 : Int)), (c, (p, (d, (n, (st, (lo, (li, ())))))))))))))
   (.leaf (.inr (.exit (0 : Nat), [.n (q), .n (a), .n (c), .n (p), .n (d), .n (n), .n (st), .n (lo), .n (li)])))) := by kernel_rfl
theorem nHP6 (q : Int) (a : Int) (e : Int) (c : Int) (p : Int) (d : Int) (n : Int) (st : Int) (lo : Int) (li : Int) (K : Ex × List (V T) → Prop) (hI : (0 ≤ n ∧ n ≤ 15) ∧ (-n ≤ e ∧ e ≤ n + 1) ∧ 0 ≤ a ∧ a ≤ n + e) (hK : (.leaf (.exit 0, [.n q, .n (hc st li (n + 1 - e).toNat e a), .n c, .n p, .n d, .n n, .n st, .n lo, .n li]) : Tree (Ex × List (V T))).holds K) : (cHP6.out (q, a, e, c, p, d, n, st, lo, li, ())).holds K := ⟨hI, hK⟩
theorem hHP6' (q : Int) (a : Int) (e : Int) (c : Int) (p : Int) (d : Int) (n : Int) (st : Int) (lo : Int) (li : Int) (K : Ex × List (V T) → Prop) (hI : (0 ≤ n ∧ n ≤ 15) ∧ (-n ≤ e ∧ e ≤ n + 1) ∧ 0 ≤ a ∧ a ≤ n + e) (hK : (.leaf (.exit 0, [.n q, .n (hc st li (n + 1 - e).toNat e a), .n c, .n p, .n d, .n n, .n st, .n lo, .n li]) : Tree (Ex × List (V T))).holds K) :
    (bodyD Try.prog E cHP6 0 (bodyX Try.prog E ctFa noLoops 1000 5 L0 (lpOf Try.prog 55 0)) (q, a, e, c, p, d, n, st, lo, li, ())).holds fun y => match y with
    | .inl d => (d.2.2.2.2.2.2.1 + 1 - d.2.2.1).toNat < (n + 1 - e).toNat ∧ (cHP6.out d).holds K
    | .inr y => K y := by
  rw [bHP6]
  obtain ⟨hn, he, ha⟩ := hI
  refine way (fun k => ?_) fun k => ?_
  · have e1 : IntKind.wrap IntKind.i64 (e + 1) = e + 1 := i64_in' (by omega) (by omega)
    have e2 : IntKind.wrap IntKind.i64 (a + 1) = a + 1 := i64_in' (by omega) (by omega)
    have hlt : (n + 1 - (e + 1)).toNat < (n + 1 - e).toNat := by omega
    rw [e1, e2]
    rw [show (n + 1 - e).toNat = (n + 1 - (e + 1)).toNat + 1 by omega] at hK
    have hK : K (.exit 0, [.n q, .n (hc st li (n + 1 - (e + 1)).toNat (e + 1) (if IntKind.wrap IntKind.i64 (e * st) ≥ li then a + 1 else a)), .n c, .n p, .n d, .n n, .n st, .n lo, .n li]) := hK
    refine way (fun g => ?_) fun g => ?_
    · rw [if_pos g] at hK
      exact ⟨hlt, nHP6 _ _ _ _ _ _ _ _ _ _ K ⟨hn, by omega, by omega, by omega⟩ hK⟩
    · rw [if_neg g] at hK
      exact ⟨hlt, nHP6 _ _ _ _ _ _ _ _ _ _ K ⟨hn, by omega, by omega, by omega⟩ hK⟩
  · rw [show (n + 1 - e).toNat = 0 by omega] at hK
    exact hK
theorem hHP6 : LoopH Try.prog E cHP6 0 (bodyX Try.prog E ctFa noLoops 1000 5 L0 (lpOf Try.prog 55 0)) :=
  ⟨fun d => (d.2.2.2.2.2.2.1 + 1 - d.2.2.1).toNat, fun dd K hK => by
    obtain ⟨q, a, e, c, p, d, n, st, lo, li, ⟨⟩⟩ := dd
    obtain ⟨hI, hK⟩ := hK
    refine Tree.holds_mono (fun y hy => ?_) (hHP6' q a e c p d n st lo li K hI hK)
    cases y with
    | inl d' => exact hy
    | inr y => exact hy⟩
noncomputable def oHR6 (q : Int) (a : Int) (e : Int) (c : Int) (p : Int) (d : Int) (n : Int) (st : Int) (lo : Int) (li : Int) : Tree (Ex × List (V T)) := .req ((0 ≤ n ∧ n ≤ 15) ∧ (-n ≤ e ∧ e ≤ n + 1) ∧ 0 ≤ a ∧ a ≤ n + e) (.leaf (.exit 0, [.n q, .n (hc st li (n + 1 - e).toNat e a), .n c, .n p, .n d, .n n, .n st, .n lo, .n li]))
noncomputable def cHR6 : LoopC T := ⟨[.n, .n, .n, .n, .n, .n, .n, .n, .n, .n], ⟨121, [(1, .one (.i .i64)), (2, .one (.o 0 0)), (8, .one (.i .i64)), (9, .one (.i .i64))], [.c [.i .i64, .i .i64, .i .i64, .i .i64, .i .i64, .i .i64, .i .i64, .k .i64 6]]⟩, fun _ => ⟨121, [(1, .one (.i .i64)), (2, .one (.o 0 0)), (8, .one (.i .i64))], [.c [.i .i64, .i .i64, .i .i64, .i .i64, .i .i64, .i .i64, .i .i64, .k .i64 6]]⟩, 30, fun d => oHR6 d.1 d.2.1 d.2.2.1 d.2.2.2.1 d.2.2.2.2.1 d.2.2.2.2.2.1 d.2.2.2.2.2.2.1 d.2.2.2.2.2.2.2.1 d.2.2.2.2.2.2.2.2.1 d.2.2.2.2.2.2.2.2.2.1⟩
theorem bHR6 (q : Int) (a : Int) (e : Int) (c : Int) (p : Int) (d : Int) (n : Int) (st : Int) (lo : Int) (li : Int) : bodyD Try.prog E cHR6 0 (bodyX Try.prog E ctFa noLoops 1000 5 L0 (lpOf Try.prog 56 0)) (q, a, e, c, p, d, n, st, lo, li, ()) =
  (.br (decide (e ≤ n))
   (.br (decide (IntKind.wrap IntKind.i64 (e * st) ≥ li))
    (.leaf (.inl (q, (IntKind.wrap IntKind.i64 (a + (1 : Int)), (IntKind.wrap IntKind.i64 (e + (1 : Int)), (c, (p, (d, (n, (st, (lo, (li, ()))))))))))))
    (.leaf (.inl (q, (a, (IntKind.wrap IntKind.i64 (e + (1 : Int)), (c, (p, (d, (n, (st, (lo, (li, ())))))))))))))
   (.leaf (.inr (.exit (0 : Nat), [.n (q), .n (a), .n (c), .n (p), .n (d), .n (n), .n (st), .n (lo), .n (li)])))) := by kernel_rfl
theorem nHR6 (q : Int) (a : Int) (e : Int) (c : Int) (p : Int) (d : Int) (n : Int) (st : Int) (lo : Int) (li : Int) (K : Ex × List (V T) → Prop) (hI : (0 ≤ n ∧ n ≤ 15) ∧ (-n ≤ e ∧ e ≤ n + 1) ∧ 0 ≤ a ∧ a ≤ n + e) (hK : (.leaf (.exit 0, [.n q, .n (hc st li (n + 1 - e).toNat e a), .n c, .n p, .n d, .n n, .n st, .n lo, .n li]) : Tree (Ex × List (V T))).holds K) : (cHR6.out (q, a, e, c, p, d, n, st, lo, li, ())).holds K := ⟨hI, hK⟩
theorem hHR6' (q : Int) (a : Int) (e : Int) (c : Int) (p : Int) (d : Int) (n : Int) (st : Int) (lo : Int) (li : Int) (K : Ex × List (V T) → Prop) (hI : (0 ≤ n ∧ n ≤ 15) ∧ (-n ≤ e ∧ e ≤ n + 1) ∧ 0 ≤ a ∧ a ≤ n + e) (hK : (.leaf (.exit 0, [.n q, .n (hc st li (n + 1 - e).toNat e a), .n c, .n p, .n d, .n n, .n st, .n lo, .n li]) : Tree (Ex × List (V T))).holds K) :
    (bodyD Try.prog E cHR6 0 (bodyX Try.prog E ctFa noLoops 1000 5 L0 (lpOf Try.prog 56 0)) (q, a, e, c, p, d, n, st, lo, li, ())).holds fun y => match y with
    | .inl d => (d.2.2.2.2.2.2.1 + 1 - d.2.2.1).toNat < (n + 1 - e).toNat ∧ (cHR6.out d).holds K
    | .inr y => K y := by
  rw [bHR6]
  obtain ⟨hn, he, ha⟩ := hI
  refine way (fun k => ?_) fun k => ?_
  · have e1 : IntKind.wrap IntKind.i64 (e + 1) = e + 1 := i64_in' (by omega) (by omega)
    have e2 : IntKind.wrap IntKind.i64 (a + 1) = a + 1 := i64_in' (by omega) (by omega)
    have hlt : (n + 1 - (e + 1)).toNat < (n + 1 - e).toNat := by omega
    rw [e1, e2]
    rw [show (n + 1 - e).toNat = (n + 1 - (e + 1)).toNat + 1 by omega] at hK
    have hK : K (.exit 0, [.n q, .n (hc st li (n + 1 - (e + 1)).toNat (e + 1) (if IntKind.wrap IntKind.i64 (e * st) ≥ li then a + 1 else a)), .n c, .n p, .n d, .n n, .n st, .n lo, .n li]) := hK
    refine way (fun g => ?_) fun g => ?_
    · rw [if_pos g] at hK
      exact ⟨hlt, nHR6 _ _ _ _ _ _ _ _ _ _ K ⟨hn, by omega, by omega, by omega⟩ hK⟩
    · rw [if_neg g] at hK
      exact ⟨hlt, nHR6 _ _ _ _ _ _ _ _ _ _ K ⟨hn, by omega, by omega, by omega⟩ hK⟩
  · rw [show (n + 1 - e).toNat = 0 by omega] at hK
    exact hK
theorem hHR6 : LoopH Try.prog E cHR6 0 (bodyX Try.prog E ctFa noLoops 1000 5 L0 (lpOf Try.prog 56 0)) :=
  ⟨fun d => (d.2.2.2.2.2.2.1 + 1 - d.2.2.1).toNat, fun dd K hK => by
    obtain ⟨q, a, e, c, p, d, n, st, lo, li, ⟨⟩⟩ := dd
    obtain ⟨hI, hK⟩ := hK
    refine Tree.holds_mono (fun y hy => ?_) (hHR6' q a e c p d n st lo li K hI hK)
    cases y with
    | inl d' => exact hy
    | inr y => exact hy⟩
noncomputable def oHP7 (q : Int) (a : Int) (e : Int) (c : Int) (p : Int) (d : Int) (n : Int) (st : Int) (lo : Int) (li : Int) : Tree (Ex × List (V T)) := .req ((0 ≤ n ∧ n ≤ 15) ∧ (-n ≤ e ∧ e ≤ n + 1) ∧ 0 ≤ a ∧ a ≤ n + e) (.leaf (.exit 0, [.n q, .n (hc st li (n + 1 - e).toNat e a), .n c, .n p, .n d, .n n, .n st, .n lo, .n li]))
noncomputable def cHP7 : LoopC T := ⟨[.n, .n, .n, .n, .n, .n, .n, .n, .n, .n], ⟨102, [(1, .one (.i .i64)), (2, .one (.o 0 0)), (8, .one (.i .i64)), (9, .one (.i .i64))], [.c [.i .i64, .i .i64, .i .i64, .i .i64, .i .i64, .i .i64, .i .i64, .k .i64 7]]⟩, fun _ => ⟨102, [(1, .one (.i .i64)), (2, .one (.o 0 0)), (8, .one (.i .i64))], [.c [.i .i64, .i .i64, .i .i64, .i .i64, .i .i64, .i .i64, .i .i64, .k .i64 7]]⟩, 30, fun d => oHP7 d.1 d.2.1 d.2.2.1 d.2.2.2.1 d.2.2.2.2.1 d.2.2.2.2.2.1 d.2.2.2.2.2.2.1 d.2.2.2.2.2.2.2.1 d.2.2.2.2.2.2.2.2.1 d.2.2.2.2.2.2.2.2.2.1⟩
theorem bHP7 (q : Int) (a : Int) (e : Int) (c : Int) (p : Int) (d : Int) (n : Int) (st : Int) (lo : Int) (li : Int) : bodyD Try.prog E cHP7 0 (bodyX Try.prog E ctFa noLoops 1000 5 L0 (lpOf Try.prog 55 0)) (q, a, e, c, p, d, n, st, lo, li, ()) =
  (.br (decide (e ≤ n))
   (.br (decide (IntKind.wrap IntKind.i64 (e * st) ≥ li))
    (.leaf (.inl (q, (IntKind.wrap IntKind.i64 (a + (1 : Int)), (IntKind.wrap IntKind.i64 (e + (1 : Int)), (c, (p, (d, (n, (st, (lo, (li, ()))))))))))))
    (.leaf (.inl (q, (a, (IntKind.wrap IntKind.i64 (e + (1 : Int)), (c, (p, (d, (n, (st, (lo, (li, ())))))))))))))
   (.leaf (.inr (.exit (0 : Nat), [.n (q), .n (a), .n (c), .n (p), .n (d), .n (n), .n (st), .n (lo), .n (li)])))) := by kernel_rfl
theorem nHP7 (q : Int) (a : Int) (e : Int) (c : Int) (p : Int) (d : Int) (n : Int) (st : Int) (lo : Int) (li : Int) (K : Ex × List (V T) → Prop) (hI : (0 ≤ n ∧ n ≤ 15) ∧ (-n ≤ e ∧ e ≤ n + 1) ∧ 0 ≤ a ∧ a ≤ n + e) (hK : (.leaf (.exit 0, [.n q, .n (hc st li (n + 1 - e).toNat e a), .n c, .n p, .n d, .n n, .n st, .n lo, .n li]) : Tree (Ex × List (V T))).holds K) : (cHP7.out (q, a, e, c, p, d, n, st, lo, li, ())).holds K := ⟨hI, hK⟩
theorem hHP7' (q : Int) (a : Int) (e : Int) (c : Int) (p : Int) (d : Int) (n : Int) (st : Int) (lo : Int) (li : Int) (K : Ex × List (V T) → Prop) (hI : (0 ≤ n ∧ n ≤ 15) ∧ (-n ≤ e ∧ e ≤ n + 1) ∧ 0 ≤ a ∧ a ≤ n + e) (hK : (.leaf (.exit 0, [.n q, .n (hc st li (n + 1 - e).toNat e a), .n c, .n p, .n d, .n n, .n st, .n lo, .n li]) : Tree (Ex × List (V T))).holds K) :
    (bodyD Try.prog E cHP7 0 (bodyX Try.prog E ctFa noLoops 1000 5 L0 (lpOf Try.prog 55 0)) (q, a, e, c, p, d, n, st, lo, li, ())).holds fun y => match y with
    | .inl d => (d.2.2.2.2.2.2.1 + 1 - d.2.2.1).toNat < (n + 1 - e).toNat ∧ (cHP7.out d).holds K
    | .inr y => K y := by
  rw [bHP7]
  obtain ⟨hn, he, ha⟩ := hI
  refine way (fun k => ?_) fun k => ?_
  · have e1 : IntKind.wrap IntKind.i64 (e + 1) = e + 1 := i64_in' (by omega) (by omega)
    have e2 : IntKind.wrap IntKind.i64 (a + 1) = a + 1 := i64_in' (by omega) (by omega)
    have hlt : (n + 1 - (e + 1)).toNat < (n + 1 - e).toNat := by omega
    rw [e1, e2]
    rw [show (n + 1 - e).toNat = (n + 1 - (e + 1)).toNat + 1 by omega] at hK
    have hK : K (.exit 0, [.n q, .n (hc st li (n + 1 - (e + 1)).toNat (e + 1) (if IntKind.wrap IntKind.i64 (e * st) ≥ li then a + 1 else a)), .n c, .n p, .n d, .n n, .n st, .n lo, .n li]) := hK
    refine way (fun g => ?_) fun g => ?_
    · rw [if_pos g] at hK
      exact ⟨hlt, nHP7 _ _ _ _ _ _ _ _ _ _ K ⟨hn, by omega, by omega, by omega⟩ hK⟩
    · rw [if_neg g] at hK
      exact ⟨hlt, nHP7 _ _ _ _ _ _ _ _ _ _ K ⟨hn, by omega, by omega, by omega⟩ hK⟩
  · rw [show (n + 1 - e).toNat = 0 by omega] at hK
    exact hK
theorem hHP7 : LoopH Try.prog E cHP7 0 (bodyX Try.prog E ctFa noLoops 1000 5 L0 (lpOf Try.prog 55 0)) :=
  ⟨fun d => (d.2.2.2.2.2.2.1 + 1 - d.2.2.1).toNat, fun dd K hK => by
    obtain ⟨q, a, e, c, p, d, n, st, lo, li, ⟨⟩⟩ := dd
    obtain ⟨hI, hK⟩ := hK
    refine Tree.holds_mono (fun y hy => ?_) (hHP7' q a e c p d n st lo li K hI hK)
    cases y with
    | inl d' => exact hy
    | inr y => exact hy⟩
noncomputable def oHR7 (q : Int) (a : Int) (e : Int) (c : Int) (p : Int) (d : Int) (n : Int) (st : Int) (lo : Int) (li : Int) : Tree (Ex × List (V T)) := .req ((0 ≤ n ∧ n ≤ 15) ∧ (-n ≤ e ∧ e ≤ n + 1) ∧ 0 ≤ a ∧ a ≤ n + e) (.leaf (.exit 0, [.n q, .n (hc st li (n + 1 - e).toNat e a), .n c, .n p, .n d, .n n, .n st, .n lo, .n li]))
noncomputable def cHR7 : LoopC T := ⟨[.n, .n, .n, .n, .n, .n, .n, .n, .n, .n], ⟨121, [(1, .one (.i .i64)), (2, .one (.o 0 0)), (8, .one (.i .i64)), (9, .one (.i .i64))], [.c [.i .i64, .i .i64, .i .i64, .i .i64, .i .i64, .i .i64, .i .i64, .k .i64 7]]⟩, fun _ => ⟨121, [(1, .one (.i .i64)), (2, .one (.o 0 0)), (8, .one (.i .i64))], [.c [.i .i64, .i .i64, .i .i64, .i .i64, .i .i64, .i .i64, .i .i64, .k .i64 7]]⟩, 30, fun d => oHR7 d.1 d.2.1 d.2.2.1 d.2.2.2.1 d.2.2.2.2.1 d.2.2.2.2.2.1 d.2.2.2.2.2.2.1 d.2.2.2.2.2.2.2.1 d.2.2.2.2.2.2.2.2.1 d.2.2.2.2.2.2.2.2.2.1⟩
theorem bHR7 (q : Int) (a : Int) (e : Int) (c : Int) (p : Int) (d : Int) (n : Int) (st : Int) (lo : Int) (li : Int) : bodyD Try.prog E cHR7 0 (bodyX Try.prog E ctFa noLoops 1000 5 L0 (lpOf Try.prog 56 0)) (q, a, e, c, p, d, n, st, lo, li, ()) =
  (.br (decide (e ≤ n))
   (.br (decide (IntKind.wrap IntKind.i64 (e * st) ≥ li))
    (.leaf (.inl (q, (IntKind.wrap IntKind.i64 (a + (1 : Int)), (IntKind.wrap IntKind.i64 (e + (1 : Int)), (c, (p, (d, (n, (st, (lo, (li, ()))))))))))))
    (.leaf (.inl (q, (a, (IntKind.wrap IntKind.i64 (e + (1 : Int)), (c, (p, (d, (n, (st, (lo, (li, ())))))))))))))
   (.leaf (.inr (.exit (0 : Nat), [.n (q), .n (a), .n (c), .n (p), .n (d), .n (n), .n (st), .n (lo), .n (li)])))) := by kernel_rfl
theorem nHR7 (q : Int) (a : Int) (e : Int) (c : Int) (p : Int) (d : Int) (n : Int) (st : Int) (lo : Int) (li : Int) (K : Ex × List (V T) → Prop) (hI : (0 ≤ n ∧ n ≤ 15) ∧ (-n ≤ e ∧ e ≤ n + 1) ∧ 0 ≤ a ∧ a ≤ n + e) (hK : (.leaf (.exit 0, [.n q, .n (hc st li (n + 1 - e).toNat e a), .n c, .n p, .n d, .n n, .n st, .n lo, .n li]) : Tree (Ex × List (V T))).holds K) : (cHR7.out (q, a, e, c, p, d, n, st, lo, li, ())).holds K := ⟨hI, hK⟩
theorem hHR7' (q : Int) (a : Int) (e : Int) (c : Int) (p : Int) (d : Int) (n : Int) (st : Int) (lo : Int) (li : Int) (K : Ex × List (V T) → Prop) (hI : (0 ≤ n ∧ n ≤ 15) ∧ (-n ≤ e ∧ e ≤ n + 1) ∧ 0 ≤ a ∧ a ≤ n + e) (hK : (.leaf (.exit 0, [.n q, .n (hc st li (n + 1 - e).toNat e a), .n c, .n p, .n d, .n n, .n st, .n lo, .n li]) : Tree (Ex × List (V T))).holds K) :
    (bodyD Try.prog E cHR7 0 (bodyX Try.prog E ctFa noLoops 1000 5 L0 (lpOf Try.prog 56 0)) (q, a, e, c, p, d, n, st, lo, li, ())).holds fun y => match y with
    | .inl d => (d.2.2.2.2.2.2.1 + 1 - d.2.2.1).toNat < (n + 1 - e).toNat ∧ (cHR7.out d).holds K
    | .inr y => K y := by
  rw [bHR7]
  obtain ⟨hn, he, ha⟩ := hI
  refine way (fun k => ?_) fun k => ?_
  · have e1 : IntKind.wrap IntKind.i64 (e + 1) = e + 1 := i64_in' (by omega) (by omega)
    have e2 : IntKind.wrap IntKind.i64 (a + 1) = a + 1 := i64_in' (by omega) (by omega)
    have hlt : (n + 1 - (e + 1)).toNat < (n + 1 - e).toNat := by omega
    rw [e1, e2]
    rw [show (n + 1 - e).toNat = (n + 1 - (e + 1)).toNat + 1 by omega] at hK
    have hK : K (.exit 0, [.n q, .n (hc st li (n + 1 - (e + 1)).toNat (e + 1) (if IntKind.wrap IntKind.i64 (e * st) ≥ li then a + 1 else a)), .n c, .n p, .n d, .n n, .n st, .n lo, .n li]) := hK
    refine way (fun g => ?_) fun g => ?_
    · rw [if_pos g] at hK
      exact ⟨hlt, nHR7 _ _ _ _ _ _ _ _ _ _ K ⟨hn, by omega, by omega, by omega⟩ hK⟩
    · rw [if_neg g] at hK
      exact ⟨hlt, nHR7 _ _ _ _ _ _ _ _ _ _ K ⟨hn, by omega, by omega, by omega⟩ hK⟩
  · rw [show (n + 1 - e).toNat = 0 by omega] at hK
    exact hK
theorem hHR7 : LoopH Try.prog E cHR7 0 (bodyX Try.prog E ctFa noLoops 1000 5 L0 (lpOf Try.prog 56 0)) :=
  ⟨fun d => (d.2.2.2.2.2.2.1 + 1 - d.2.2.1).toNat, fun dd K hK => by
    obtain ⟨q, a, e, c, p, d, n, st, lo, li, ⟨⟩⟩ := dd
    obtain ⟨hI, hK⟩ := hK
    refine Tree.holds_mono (fun y hy => ?_) (hHR7' q a e c p d n st lo li K hI hK)
    cases y with
    | inl d' => exact hy
    | inr y => exact hy⟩
noncomputable def oHP8 (q : Int) (a : Int) (e : Int) (c : Int) (p : Int) (d : Int) (n : Int) (st : Int) (lo : Int) (li : Int) : Tree (Ex × List (V T)) := .req ((0 ≤ n ∧ n ≤ 15) ∧ (-n ≤ e ∧ e ≤ n + 1) ∧ 0 ≤ a ∧ a ≤ n + e) (.leaf (.exit 0, [.n q, .n (hc st li (n + 1 - e).toNat e a), .n c, .n p, .n d, .n n, .n st, .n lo, .n li]))
noncomputable def cHP8 : LoopC T := ⟨[.n, .n, .n, .n, .n, .n, .n, .n, .n, .n], ⟨102, [(1, .one (.i .i64)), (2, .one (.o 0 0)), (8, .one (.i .i64)), (9, .one (.i .i64))], [.c [.i .i64, .i .i64, .i .i64, .i .i64, .i .i64, .i .i64, .i .i64, .k .i64 8]]⟩, fun _ => ⟨102, [(1, .one (.i .i64)), (2, .one (.o 0 0)), (8, .one (.i .i64))], [.c [.i .i64, .i .i64, .i .i64, .i .i64, .i .i64, .i .i64, .i .i64, .k .i64 8]]⟩, 30, fun d => oHP8 d.1 d.2.1 d.2.2.1 d.2.2.2.1 d.2.2.2.2.1 d.2.2.2.2.2.1 d.2.2.2.2.2.2.1 d.2.2.2.2.2.2.2.1 d.2.2.2.2.2.2.2.2.1 d.2.2.2.2.2.2.2.2.2.1⟩
theorem bHP8 (q : Int) (a : Int) (e : Int) (c : Int) (p : Int) (d : Int) (n : Int) (st : Int) (lo : Int) (li : Int) : bodyD Try.prog E cHP8 0 (bodyX Try.prog E ctFa noLoops 1000 5 L0 (lpOf Try.prog 55 0)) (q, a, e, c, p, d, n, st, lo, li, ()) =
  (.br (decide (e ≤ n))
   (.br (decide (IntKind.wrap IntKind.i64 (e * st) ≥ li))
    (.leaf (.inl (q, (IntKind.wrap IntKind.i64 (a + (1 : Int)), (IntKind.wrap IntKind.i64 (e + (1 : Int)), (c, (p, (d, (n, (st, (lo, (li, ()))))))))))))
    (.leaf (.inl (q, (a, (IntKind.wrap IntKind.i64 (e + (1 : Int)), (c, (p, (d, (n, (st, (lo, (li, ())))))))))))))
   (.leaf (.inr (.exit (0 : Nat), [.n (q), .n (a), .n (c), .n (p), .n (d), .n (n), .n (st), .n (lo), .n (li)])))) := by kernel_rfl
theorem nHP8 (q : Int) (a : Int) (e : Int) (c : Int) (p : Int) (d : Int) (n : Int) (st : Int) (lo : Int) (li : Int) (K : Ex × List (V T) → Prop) (hI : (0 ≤ n ∧ n ≤ 15) ∧ (-n ≤ e ∧ e ≤ n + 1) ∧ 0 ≤ a ∧ a ≤ n + e) (hK : (.leaf (.exit 0, [.n q, .n (hc st li (n + 1 - e).toNat e a), .n c, .n p, .n d, .n n, .n st, .n lo, .n li]) : Tree (Ex × List (V T))).holds K) : (cHP8.out (q, a, e, c, p, d, n, st, lo, li, ())).holds K := ⟨hI, hK⟩
theorem hHP8' (q : Int) (a : Int) (e : Int) (c : Int) (p : Int) (d : Int) (n : Int) (st : Int) (lo : Int) (li : Int) (K : Ex × List (V T) → Prop) (hI : (0 ≤ n ∧ n ≤ 15) ∧ (-n ≤ e ∧ e ≤ n + 1) ∧ 0 ≤ a ∧ a ≤ n + e) (hK : (.leaf (.exit 0, [.n q, .n (hc st li (n + 1 - e).toNat e a), .n c, .n p, .n d, .n n, .n st, .n lo, .n li]) : Tree (Ex × List (V T))).holds K) :
    (bodyD Try.prog E cHP8 0 (bodyX Try.prog E ctFa noLoops 1000 5 L0 (lpOf Try.prog 55 0)) (q, a, e, c, p, d, n, st, lo, li, ())).holds fun y => match y with
    | .inl d => (d.2.2.2.2.2.2.1 + 1 - d.2.2.1).toNat < (n + 1 - e).toNat ∧ (cHP8.out d).holds K
    | .inr y => K y := by
  rw [bHP8]
  obtain ⟨hn, he, ha⟩ := hI
  refine way (fun k => ?_) fun k => ?_
  · have e1 : IntKind.wrap IntKind.i64 (e + 1) = e + 1 := i64_in' (by omega) (by omega)
    have e2 : IntKind.wrap IntKind.i64 (a + 1) = a + 1 := i64_in' (by omega) (by omega)
    have hlt : (n + 1 - (e + 1)).toNat < (n + 1 - e).toNat := by omega
    rw [e1, e2]
    rw [show (n + 1 - e).toNat = (n + 1 - (e + 1)).toNat + 1 by omega] at hK
    have hK : K (.exit 0, [.n q, .n (hc st li (n + 1 - (e + 1)).toNat (e + 1) (if IntKind.wrap IntKind.i64 (e * st) ≥ li then a + 1 else a)), .n c, .n p, .n d, .n n, .n st, .n lo, .n li]) := hK
    refine way (fun g => ?_) fun g => ?_
    · rw [if_pos g] at hK
      exact ⟨hlt, nHP8 _ _ _ _ _ _ _ _ _ _ K ⟨hn, by omega, by omega, by omega⟩ hK⟩
    · rw [if_neg g] at hK
      exact ⟨hlt, nHP8 _ _ _ _ _ _ _ _ _ _ K ⟨hn, by omega, by omega, by omega⟩ hK⟩
  · rw [show (n + 1 - e).toNat = 0 by omega] at hK
    exact hK
theorem hHP8 : LoopH Try.prog E cHP8 0 (bodyX Try.prog E ctFa noLoops 1000 5 L0 (lpOf Try.prog 55 0)) :=
  ⟨fun d => (d.2.2.2.2.2.2.1 + 1 - d.2.2.1).toNat, fun dd K hK => by
    obtain ⟨q, a, e, c, p, d, n, st, lo, li, ⟨⟩⟩ := dd
    obtain ⟨hI, hK⟩ := hK
    refine Tree.holds_mono (fun y hy => ?_) (hHP8' q a e c p d n st lo li K hI hK)
    cases y with
    | inl d' => exact hy
    | inr y => exact hy⟩
noncomputable def oHR8 (q : Int) (a : Int) (e : Int) (c : Int) (p : Int) (d : Int) (n : Int) (st : Int) (lo : Int) (li : Int) : Tree (Ex × List (V T)) := .req ((0 ≤ n ∧ n ≤ 15) ∧ (-n ≤ e ∧ e ≤ n + 1) ∧ 0 ≤ a ∧ a ≤ n + e) (.leaf (.exit 0, [.n q, .n (hc st li (n + 1 - e).toNat e a), .n c, .n p, .n d, .n n, .n st, .n lo, .n li]))
noncomputable def cHR8 : LoopC T := ⟨[.n, .n, .n, .n, .n, .n, .n, .n, .n, .n], ⟨121, [(1, .one (.i .i64)), (2, .one (.o 0 0)), (8, .one (.i .i64)), (9, .one (.i .i64))], [.c [.i .i64, .i .i64, .i .i64, .i .i64, .i .i64, .i .i64, .i .i64, .k .i64 8]]⟩, fun _ => ⟨121, [(1, .one (.i .i64)), (2, .one (.o 0 0)), (8, .one (.i .i64))], [.c [.i .i64, .i .i64, .i .i64, .i .i64, .i .i64, .i .i64, .i .i64, .k .i64 8]]⟩, 30, fun d => oHR8 d.1 d.2.1 d.2.2.1 d.2.2.2.1 d.2.2.2.2.1 d.2.2.2.2.2.1 d.2.2.2.2.2.2.1 d.2.2.2.2.2.2.2.1 d.2.2.2.2.2.2.2.2.1 d.2.2.2.2.2.2.2.2.2.1⟩
theorem bHR8 (q : Int) (a : Int) (e : Int) (c : Int) (p : Int) (d : Int) (n : Int) (st : Int) (lo : Int) (li : Int) : bodyD Try.prog E cHR8 0 (bodyX Try.prog E ctFa noLoops 1000 5 L0 (lpOf Try.prog 56 0)) (q, a, e, c, p, d, n, st, lo, li, ()) =
  (.br (decide (e ≤ n))
   (.br (decide (IntKind.wrap IntKind.i64 (e * st) ≥ li))
    (.leaf (.inl (q, (IntKind.wrap IntKind.i64 (a + (1 : Int)), (IntKind.wrap IntKind.i64 (e + (1 : Int)), (c, (p, (d, (n, (st, (lo, (li, ()))))))))))))
    (.leaf (.inl (q, (a, (IntKind.wrap IntKind.i64 (e + (1 : Int)), (c, (p, (d, (n, (st, (lo, (li, ())))))))))))))
   (.leaf (.inr (.exit (0 : Nat), [.n (q), .n (a), .n (c), .n (p), .n (d), .n (n), .n (st), .n (lo), .n (li)])))) := by kernel_rfl
theorem nHR8 (q : Int) (a : Int) (e : Int) (c : Int) (p : Int) (d : Int) (n : Int) (st : Int) (lo : Int) (li : Int) (K : Ex × List (V T) → Prop) (hI : (0 ≤ n ∧ n ≤ 15) ∧ (-n ≤ e ∧ e ≤ n + 1) ∧ 0 ≤ a ∧ a ≤ n + e) (hK : (.leaf (.exit 0, [.n q, .n (hc st li (n + 1 - e).toNat e a), .n c, .n p, .n d, .n n, .n st, .n lo, .n li]) : Tree (Ex × List (V T))).holds K) : (cHR8.out (q, a, e, c, p, d, n, st, lo, li, ())).holds K := ⟨hI, hK⟩
theorem hHR8' (q : Int) (a : Int) (e : Int) (c : Int) (p : Int) (d : Int) (n : Int) (st : Int) (lo : Int) (li : Int) (K : Ex × List (V T) → Prop) (hI : (0 ≤ n ∧ n ≤ 15) ∧ (-n ≤ e ∧ e ≤ n + 1) ∧ 0 ≤ a ∧ a ≤ n + e) (hK : (.leaf (.exit 0, [.n q, .n (hc st li (n + 1 - e).toNat e a), .n c, .n p, .n d, .n n, .n st, .n lo, .n li]) : Tree (Ex × List (V T))).holds K) :
    (bodyD Try.prog E cHR8 0 (bodyX Try.prog E ctFa noLoops 1000 5 L0 (lpOf Try.prog 56 0)) (q, a, e, c, p, d, n, st, lo, li, ())).holds fun y => match y with
    | .inl d => (d.2.2.2.2.2.2.1 + 1 - d.2.2.1).toNat < (n + 1 - e).toNat ∧ (cHR8.out d).holds K
    | .inr y => K y := by
  rw [bHR8]
  obtain ⟨hn, he, ha⟩ := hI
  refine way (fun k => ?_) fun k => ?_
  · have e1 : IntKind.wrap IntKind.i64 (e + 1) = e + 1 := i64_in' (by omega) (by omega)
    have e2 : IntKind.wrap IntKind.i64 (a + 1) = a + 1 := i64_in' (by omega) (by omega)
    have hlt : (n + 1 - (e + 1)).toNat < (n + 1 - e).toNat := by omega
    rw [e1, e2]
    rw [show (n + 1 - e).toNat = (n + 1 - (e + 1)).toNat + 1 by omega] at hK
    have hK : K (.exit 0, [.n q, .n (hc st li (n + 1 - (e + 1)).toNat (e + 1) (if IntKind.wrap IntKind.i64 (e * st) ≥ li then a + 1 else a)), .n c, .n p, .n d, .n n, .n st, .n lo, .n li]) := hK
    refine way (fun g => ?_) fun g => ?_
    · rw [if_pos g] at hK
      exact ⟨hlt, nHR8 _ _ _ _ _ _ _ _ _ _ K ⟨hn, by omega, by omega, by omega⟩ hK⟩
    · rw [if_neg g] at hK
      exact ⟨hlt, nHR8 _ _ _ _ _ _ _ _ _ _ K ⟨hn, by omega, by omega, by omega⟩ hK⟩
  · rw [show (n + 1 - e).toNat = 0 by omega] at hK
    exact hK
theorem hHR8 : LoopH Try.prog E cHR8 0 (bodyX Try.prog E ctFa noLoops 1000 5 L0 (lpOf Try.prog 56 0)) :=
  ⟨fun d => (d.2.2.2.2.2.2.1 + 1 - d.2.2.1).toNat, fun dd K hK => by
    obtain ⟨q, a, e, c, p, d, n, st, lo, li, ⟨⟩⟩ := dd
    obtain ⟨hI, hK⟩ := hK
    refine Tree.holds_mono (fun y hy => ?_) (hHR8' q a e c p d n st lo li K hI hK)
    cases y with
    | inl d' => exact hy
    | inr y => exact hy⟩
noncomputable def cB55 : LoopC T := ⟨[.n, .n, .n, .n, .n, .n, .n, .n, .n, .n, .n], ⟨102, [(1, .one (.i .i64)), (2, .one (.o 0 0)), (8, .one (.i .i64)), (9, .one (.i .i64))], [.c [.i .i64, .i .i64, .i .i64, .i .i64, .i .i64, .i .i64, .i .i64, .i .i64]]⟩, fun _ => ⟨102, [], []⟩, 10, fun _ => .fail⟩
theorem hB55 : LoopH Try.prog E cB55 0 (bodyX Try.prog E ctFa noLoops 1000 5 L0 (lpOf Try.prog 55 0)) := ⟨fun _ => 0, fun _ _ h => absurd h id⟩
noncomputable def cB56 : LoopC T := ⟨[.n, .n, .n, .n, .n, .n, .n, .n, .n, .n, .n], ⟨121, [(1, .one (.i .i64)), (2, .one (.o 0 0)), (8, .one (.i .i64)), (9, .one (.i .i64))], [.c [.i .i64, .i .i64, .i .i64, .i .i64, .i .i64, .i .i64, .i .i64, .i .i64]]⟩, fun _ => ⟨121, [], []⟩, 10, fun _ => .fail⟩
theorem hB56 : LoopH Try.prog E cB56 0 (bodyX Try.prog E ctFa noLoops 1000 5 L0 (lpOf Try.prog 56 0)) := ⟨fun _ => 0, fun _ _ h => absurd h id⟩
end Go.Proofs.Ytdclipcjlimdoaa.W
