/- FluidFlows: the least gradient, as the reference finds it. No condition. -/
import Derived.Test.YtfajcbcjinabiaaFA
set_option linter.unusedVariables false
set_option maxRecDepth 100000
set_option maxHeartbeats 4000000
noncomputable section
namespace Go.Proofs.Ytfajcbcjinabiaa.W
open Go Go.Cx Go.RowKit
noncomputable def o41 (q : Int) (lo : Int) (hi : Int) (L : Int) (R : Int) (A : Int) (G : Int) (Y : Int) (W : Int) : Tree (Ex × List (V T)) := .req (inv79 lo hi L R A G Y W q) (.leaf (.exit 0, [.n (gl A G Y W q)]))
noncomputable def c41 : LoopC T := ⟨[.n, .n, .n, .n, .n, .n, .n, .n, .n], ⟨39, [(2, .one (.i .i64)), (3, .one (.o 0 0)), (4, .one (.o 1 0)), (8, .one (.i .i64)), (9, .one (.i .i64))], [.c [.i .i64, .i .i64, .i .i64, .i .i64], .c [.i .i64, .i .i64]]⟩, fun _ => ⟨39, [(8, .one (.i .i64))], []⟩, 30, fun d => o41 d.1 d.2.1 d.2.2.1 d.2.2.2.1 d.2.2.2.2.1 d.2.2.2.2.2.1 d.2.2.2.2.2.2.1 d.2.2.2.2.2.2.2.1 d.2.2.2.2.2.2.2.2.1⟩
theorem b41 (q : Int) (lo : Int) (hi : Int) (L : Int) (R : Int) (A : Int) (G : Int) (Y : Int) (W : Int) : bodyD Try.prog E c41 0 (bodyX Try.prog E ctFR noLoops 1000 5 L0 (lpOf Try.prog 40 0)) (q, lo, hi, L, R, A, G, Y, W, ()) =
  (.br (decide (lo < hi))
   (.req (vf L R A G Y W q ∧ (0 : Int) ≤ IntKind.wrap IntKind.i64 (Int.tdiv (IntKind.wrap IntKind.i64 (lo + hi)) (2 : Int)) ∧ IntKind.wrap IntKind.i64 (Int.tdiv (IntKind.wrap IntKind.i64 (lo + hi)) (2 : Int)) ≤ (20000 : Int))
   (.br (pB A G Y W (IntKind.wrap IntKind.i64 (Int.tdiv (IntKind.wrap IntKind.i64 (lo + hi)) (2 : Int))) q)
    (.leaf (.inl (q, (lo, (IntKind.wrap IntKind.i64 (Int.tdiv (IntKind.wrap IntKind.i64 (lo + hi)) (2 : Int)), (L, (R, (A, (G, (Y, (W, ())))))))))))
    (.leaf (.inl (q, (IntKind.wrap IntKind.i64 (IntKind.wrap IntKind.i64 (Int.tdiv (IntKind.wrap IntKind.i64 (lo + hi)) (2 : Int)) + (1 : Int)), (hi, (L, (R, (A, (G, (Y, (W, ())))))))))))))
   (.leaf (.inr (.exit (0 : Nat), [.n (lo)])))) := by kernel_rfl
theorem n41 (q : Int) (lo : Int) (hi : Int) (L : Int) (R : Int) (A : Int) (G : Int) (Y : Int) (W : Int) (K : Ex × List (V T) → Prop) (hI : inv79 lo hi L R A G Y W q) (hK : (.leaf (.exit 0, [.n (gl A G Y W q)]) : Tree (Ex × List (V T))).holds K) : (c41.out (q, lo, hi, L, R, A, G, Y, W, ())).holds K := ⟨hI, hK⟩
theorem h41' (q : Int) (lo : Int) (hi : Int) (L : Int) (R : Int) (A : Int) (G : Int) (Y : Int) (W : Int) (K : Ex × List (V T) → Prop) (hI : inv79 lo hi L R A G Y W q) (hK : (.leaf (.exit 0, [.n (gl A G Y W q)]) : Tree (Ex × List (V T))).holds K) :
    (bodyD Try.prog E c41 0 (bodyX Try.prog E ctFR noLoops 1000 5 L0 (lpOf Try.prog 40 0)) (q, lo, hi, L, R, A, G, Y, W, ())).holds fun y => match y with
    | .inl d => (d.2.2.1 - d.2.1).toNat < (hi - lo).toNat ∧ (c41.out d).holds K
    | .inr y => K y := by
  rw [b41]
  obtain ⟨⟨hv, hP⟩, h1, h2, h3⟩ := hI
  refine way (fun c => ?_) fun c => ?_
  · have e1 : IntKind.wrap IntKind.i64 (lo + hi) = lo + hi := i64_in' (by omega) (by omega)
    have e2 : Int.tdiv (lo + hi) 2 = (lo + hi) / 2 := Int.tdiv_eq_ediv_of_nonneg (by omega)
    rw [e1, e2, i64_in' (n := (lo + hi) / 2) (by omega) (by omega), i64_in' (n := (lo + hi) / 2 + 1) (by omega) (by omega)]
    generalize hm : (lo + hi) / 2 = m
    refine ⟨⟨hv, by omega, by omega⟩, wayB (fun k => ?_) fun k => ?_⟩
    · have hin : inv79 lo m L R A G Y W q := ⟨⟨hv, hP⟩, by omega, k, h3⟩
      have hlt : (m - lo).toNat < (hi - lo).toNat := by omega
      exact ⟨hlt, hin, hK⟩
    · have hin : inv79 (m + 1) hi L R A G Y W q := ⟨⟨hv, hP⟩, by omega, h2, fun j j1 j2 => by
        cases e : pB A G Y W j q with
        | false => rfl
        | true =>
          have g1 := hv.2.2.2.1
          have g2 := hv.2.2.1
          have g3 := hv.2.2.2.2.1
          have g4 := hv.2.2.2.2.2.1
          have g5 := hv.2.2.2.2.2.2
          have := mono_g (H := G) (h := m) (by omega) (by omega) (Int.le_refl G) (by omega) (by omega) j1 (by omega) (by omega) e
          rw [show pB A G Y W m q = false from k] at this
          exact absurd this (by decide)⟩
      have hlt : (hi - (m + 1)).toNat < (hi - lo).toNat := by omega
      exact ⟨hlt, hin, hK⟩
  · have e : gl A G Y W q = lo := by
      obtain rfl : lo = hi := by omega
      exact gl_uni hP h1.1 h2 h3
    rw [e] at hK
    exact hK
theorem h41 : LoopH Try.prog E c41 0 (bodyX Try.prog E ctFR noLoops 1000 5 L0 (lpOf Try.prog 40 0)) :=
  ⟨fun d => (d.2.2.1 - d.2.1).toNat, fun dd K hK => by
    obtain ⟨q, lo, hi, L, R, A, G, Y, W, ⟨⟩⟩ := dd
    obtain ⟨hI, hK⟩ := hK
    refine Tree.holds_mono (fun y hy => ?_) (h41' q lo hi L R A G Y W K hI hK)
    cases y with
    | inl d' => exact hy
    | inr y => exact hy⟩
theorem ll41 : LLOk Try.prog E (llOfN Try.prog E 40 0 [(4, c41)]) := llOfN_ok fun i hi c hc => by
  have hi : i < 1 := hi
  obtain rfl : i = 0 := by omega
  obtain rfl : c41 = c := Option.some.inj hc
  exact LSndN.mk good names mixes ctFR_ok (by decide) h41
theorem tv41 (L R A G Y V q : Int) : runX ctFR (llOfN Try.prog E 40 0 [(4, c41)]) 40 [.agg [i64 L, i64 R, i64 A, i64 G], .agg [i64 Y, i64 V], i64 q] [2, 4] =
  (.br (!decide (vf L R A G Y V q))
   (.leaf (.tup [.sym .i64 ((0 : Int)), .bool (false)]))
   (.req (vf L R A G Y V q ∧ (0 : Int) ≤ (20000 : Int) ∧ (20000 : Int) ≤ (20000 : Int))
   (.br (!pB A G Y V (20000 : Int) q)
    (.leaf (.tup [.sym .i64 ((0 : Int)), .bool (false)]))
    (.req (inv79 (0 : Int) (20000 : Int) L R A G Y V q)
    (.leaf (.tup [.sym .i64 (gl A G Y V q), .bool (true)])))))) := by kernel_rfl
theorem s41 (L R A G Y V q : Int) : (runX ctFR (llOfN Try.prog E 40 0 [(4, c41)]) 40 [.agg [i64 L, i64 R, i64 A, i64 G], .agg [i64 Y, i64 V], i64 q] [2, 4]).holds fun v => v = .tup [i64 (grN L R A G Y V q), .bool (grB L R A G Y V q)] := by
  rw [tv41]
  unfold grN grB
  refine wayN (fun k => ?_) fun k => ⟨⟨k, by decide, by decide⟩, wayB (fun p => ?_) fun p => ?_⟩
  · rw [decide_eq_false k, if_neg k]; rfl
  · have p : pB A G Y V 20000 q = false := by simpa using p
    rw [decide_eq_true k, if_pos k]
    unfold gN gB
    rw [p]; rfl
  · have p : pB A G Y V 20000 q = true := by simpa using p
    refine ⟨⟨⟨k, p⟩, by decide, p, fun j j1 j2 => absurd j2 (by omega)⟩, ?_⟩
    rw [decide_eq_true k, if_pos k]
    unfold gN gB
    rw [p]; rfl
noncomputable def cGrR : Con T := conV Try.prog [shSg, shM, .one (.i .i64)] [.n, .n, .n, .n, .n, .n, .n] fun d => .tup [i64 (grN d.1 d.2.1 d.2.2.1 d.2.2.2.1 d.2.2.2.2.1 d.2.2.2.2.2.1 d.2.2.2.2.2.2.1), .bool (grB d.1 d.2.1 d.2.2.1 d.2.2.2.1 d.2.2.2.2.1 d.2.2.2.2.2.1 d.2.2.2.2.2.2.1)]
theorem grR_ok : ConOk Try.prog E 40 cGrR := conV_ok fun d => fact_run ctFR_ok ll41 (ts := [2, 4]) rfl (s41 _ _ _ _ _ _ _)
end Go.Proofs.Ytfajcbcjinabiaa.W
