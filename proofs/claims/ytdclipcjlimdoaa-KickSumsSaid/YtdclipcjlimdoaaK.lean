/- KickSums: the gain of a kick that is made of numbers is the sum of its flows. -/
import Derived.Test.YtdclipcjlimdoaaJ
import Derived.Test.YtdclipcjlimdoaaR
import Derived.Test.YtdclipcjlimdoaaLKickSums
set_option linter.unusedVariables false
set_option maxRecDepth 100000
noncomputable section
namespace Go.Proofs.Ytdclipcjlimdoaa.W
open Go Go.Cx Go.RowKit
noncomputable def ctS : CTab T := (62, cMod) :: (35, cNext) :: ctC
theorem ctS_ok : CTabOk Try.prog E ctS := .cons mod64_ok (.cons next_ok ctC_ok)
noncomputable def c14 : LoopC T := ⟨[.n, .n, .n, .n, .n], ⟨36, [(1, .one (.i .i64)), (5, .one (.o 0 0)), (6, .one (.i .i64)), (7, .one (.i .i64))], [.c [.i .i64, .i .i64]]⟩,
  fun e => match e with
    | .ret => ⟨36, [(4, .one .b)], []⟩
    | _ => ⟨36, [], []⟩, 10, fun d => .req ((okK ⟨d.2.2.2.1, d.2.2.2.2.1⟩ ∧ 0 ≤ d.2.2.1 ∧ d.2.2.1 ≤ 201) ∧ d.2.1 = gain ⟨d.2.2.2.1, d.2.2.2.2.1⟩ d.2.2.1) (.leaf (.exit 0, []))⟩
theorem b14 (m s n a b : Int) : bodyD Try.prog E c14 0 (bodyX Try.prog E ctS noLoops 1000 5 L0 (lpOf Try.prog 14 0)) (m, s, n, a, b, ()) =
  (.req (mPre m (201 : Int))
  (.br (decide (n ≤ m % (201 : Int)))
   (.br (gain (Kick.mk a b) n != s)
    (.leaf (.inr (.ret, [.t (false)])))
    (.br (decide (flow (Kick.mk a b) n < flow (Kick.mk a b) (0 : Int)))
     (.leaf (.inr (.ret, [.t (false)])))
     (.leaf (.inl (m, (IntKind.wrap IntKind.i64 (s + flow (Kick.mk a b) n), (IntKind.wrap IntKind.i64 (n + (1 : Int)), (a, (b, ())))))))))
   (.leaf (.inr (.exit (0 : Nat), []))))) := by kernel_rfl
theorem gain_next {x : Kick} {n : Int} (h : okK x) (h0 : 0 ≤ n) (h1 : n ≤ 200) : gain x n + flow x n = gain x (n + 1) := by
  have g1 : gain x n = n * x.Rate + x.Grow * (n * (n - 1) / 2) := if_pos ⟨h, h0, by omega⟩
  have g2 : gain x (n + 1) = (n + 1) * x.Rate + x.Grow * ((n + 1) * (n + 1 - 1) / 2) := if_pos ⟨h, by omega, by omega⟩
  have g3 : flow x n = x.Rate + n * x.Grow := if_pos ⟨h, h0, by omega⟩
  rw [g1, g2, g3]
  have e : (n + 1) * (n + 1 - 1) / 2 = n * (n - 1) / 2 + n := by
    have : (n + 1) * (n + 1 - 1) = n * (n - 1) + 2 * n := by
      rw [Int.add_sub_cancel, Int.add_mul, Int.mul_sub, Int.one_mul, Int.mul_one]
      omega
    rw [this]
    omega
  rw [e, Int.add_mul, Int.mul_add, Int.one_mul, Int.mul_comm x.Grow n]
  omega
theorem flow_mono {x : Kick} {n : Int} (h : okK x) (h0 : 0 ≤ n) (h1 : n ≤ 200) : ¬ flow x n < flow x 0 := by
  unfold flow
  rw [if_pos ⟨h, h0, by omega⟩, if_pos ⟨h, by omega, by omega⟩]
  have := (bdK h h0 (by omega)).ng
  omega
theorem h14' (m s n a b : Int) (K : Ex × List (V T) → Prop) (ha : okK ⟨a, b⟩) (hn : 0 ≤ n ∧ n ≤ 201) (hs : s = gain ⟨a, b⟩ n) (hK : K (.exit 0, [])) : (bodyD Try.prog E c14 0 (bodyX Try.prog E ctS noLoops 1000 5 L0 (lpOf Try.prog 14 0)) (m, s, n, a, b, ())).holds fun y => match y with
    | .inl d' => ((202 : Int) - d'.2.2.1).toNat < ((202 : Int) - n).toNat ∧ (c14.out d').holds K
    | .inr y => K y := by
  rw [b14]
  refine ⟨⟨by omega, by omega⟩, way (fun c => ?_) fun c => hK⟩
  refine wayNe (fun h => absurd hs.symm h) fun _ => way (fun h => absurd h (flow_mono ha hn.1 (by omega))) fun _ => ?_
  have e1 : IntKind.wrap IntKind.i64 (n + 1) = n + 1 := i64_in' (by omega) (by omega)
  have b1 := gain_bd ⟨a, b⟩ n
  have b2 := flow_bd ⟨a, b⟩ n
  have e2 : IntKind.wrap IntKind.i64 (s + flow ⟨a, b⟩ n) = s + flow ⟨a, b⟩ n := i64_in' (by omega) (by omega)
  rw [e1, e2, hs, gain_next ha hn.1 (by omega)]
  have hlt : ((202 : Int) - (n + 1)).toNat < ((202 : Int) - n).toNat := by omega
  have h0 : 0 ≤ n + 1 := by omega
  have h1 : n + 1 ≤ 201 := by omega
  exact ⟨hlt, ⟨⟨ha, h0, h1⟩, rfl⟩, hK⟩
theorem h14 : LoopH Try.prog E c14 0 (bodyX Try.prog E ctS noLoops 1000 5 L0 (lpOf Try.prog 14 0)) :=
  ⟨fun d => ((202 : Int) - d.2.2.1).toNat, fun d K hK => by
    obtain ⟨m, s, n, a, b, ⟨⟩⟩ := d
    obtain ⟨⟨⟨k1, k2⟩, k3⟩, k4⟩ := hK
    refine Tree.holds_mono (fun y hy => ?_) (h14' m s n a b K k1 k2 k3 k4)
    cases y with
    | inl d' => exact hy
    | inr y => exact hy⟩
theorem ll14 : LLOk Try.prog E (llOf Try.prog E 14 [(4, c14)]) := llOf_ok fun i hi c hc => by
  have hi : i < 1 := hi
  obtain rfl : i = 0 := by omega
  obtain rfl : c14 = c := Option.some.inj hc
  exact LSnd.mk good names mixes ctS_ok (by decide) h14
theorem t14 (l : List Int) (m : Int) : runX ctS (llOf Try.prog E 14 [(4, c14)]) 14 [.sl 3 l false, i64 m] [4] =
  (.req (rPre (0 : Int) (3 : Int))
  (.req (rPre ((0 : Int) + (1 : Int)) (5000 : Int))
  (.req (rPre ((0 : Int) + (1 : Int) + (1 : Int)) (2 : Int))
  (.req (rPre ((0 : Int) + (1 : Int) + (1 : Int) + (1 : Int)) (300 : Int))
  (.req ((okK (Kick.mk (IntKind.wrap IntKind.i64 (ringV l ((0 : Int) + (1 : Int)) (3 : Int) * ringV l ((0 : Int) + (1 : Int) + (1 : Int)) (5000 : Int))) (IntKind.wrap IntKind.i64 (ringV l ((0 : Int) + (1 : Int) + (1 : Int) + (1 : Int)) (2 : Int) * ringV l ((0 : Int) + (1 : Int) + (1 : Int) + (1 : Int) + (1 : Int)) (300 : Int)))) ∧ (0 : Int) ≤ (0 : Int) ∧ (0 : Int) ≤ (201 : Int)) ∧ (0 : Int) = gain (Kick.mk (IntKind.wrap IntKind.i64 (ringV l ((0 : Int) + (1 : Int)) (3 : Int) * ringV l ((0 : Int) + (1 : Int) + (1 : Int)) (5000 : Int))) (IntKind.wrap IntKind.i64 (ringV l ((0 : Int) + (1 : Int) + (1 : Int) + (1 : Int)) (2 : Int) * ringV l ((0 : Int) + (1 : Int) + (1 : Int) + (1 : Int) + (1 : Int)) (300 : Int)))) (0 : Int))
  (.leaf (.bool (true)))))))) := by kernel_rfl
theorem gain_zero (x : Kick) : 0 = gain x 0 := by
  unfold gain
  split
  · rw [Int.zero_mul, Int.zero_mul]; simp
  · rfl
theorem kickSums_proved : Rows.KickSumsSaid := kickSums_said fun l m _ _ => fact_run ctS_ok ll14 (ts := [4]) rfl (by
  rw [t14]
  have r1 := ringV_bd (l := l) (b := 0 + 1) (n := 3) (by omega)
  have r2 := ringV_bd (l := l) (b := 0 + 1 + 1) (n := 5000) (by omega)
  have r3 := ringV_bd (l := l) (b := 0 + 1 + 1 + 1) (n := 2) (by omega)
  have r4 := ringV_bd (l := l) (b := 0 + 1 + 1 + 1 + 1) (n := 300) (by omega)
  have m1 := mulb r1.1 (show ringV l (0 + 1) 3 ≤ 2 by omega) r2.1 (show ringV l (0 + 1 + 1) 5000 ≤ 4999 by omega)
  have m2 := mulb r3.1 (show ringV l (0 + 1 + 1 + 1) 2 ≤ 1 by omega) r4.1 (show ringV l (0 + 1 + 1 + 1 + 1) 300 ≤ 299 by omega)
  have e1 := i64_in' (n := ringV l (0 + 1) 3 * ringV l (0 + 1 + 1) 5000) (by omega) (by omega)
  have e2 := i64_in' (n := ringV l (0 + 1 + 1 + 1) 2 * ringV l (0 + 1 + 1 + 1 + 1) 300) (by omega) (by omega)
  rw [e1, e2]
  have m3 : ringV l (0 + 1) 3 * ringV l (0 + 1 + 1) 5000 ≤ 16777216 := by omega
  have m4 : ringV l (0 + 1 + 1 + 1) 2 * ringV l (0 + 1 + 1 + 1 + 1) 300 ≤ 4096 := by omega
  have hk : okK ⟨ringV l (0 + 1) 3 * ringV l (0 + 1 + 1) 5000, ringV l (0 + 1 + 1 + 1) 2 * ringV l (0 + 1 + 1 + 1 + 1) 300⟩ := ⟨⟨m1.1, m3⟩, m2.1, m4⟩
  exact ⟨by decide, by decide, by decide, by decide, ⟨⟨hk, by decide, by decide⟩, gain_zero _⟩, rfl⟩)
end Go.Proofs.Ytdclipcjlimdoaa.W
