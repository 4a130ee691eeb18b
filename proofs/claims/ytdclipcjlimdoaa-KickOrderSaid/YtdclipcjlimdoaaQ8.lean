/- The latest alarms of sensors: the samples that come as late as they can: contracts. No condition. -/
import Derived.Test.YtdclipcjlimdoaaQ7
set_option linter.unusedVariables false
set_option maxRecDepth 100000
set_option maxHeartbeats 4000000
noncomputable section
namespace Go.Proofs.Ytdclipcjlimdoaa.W
open Go Go.Cx Go.RowKit
theorem ll50 : LLOk Try.prog E (llOfN Try.prog E 50 0 [(9, cRa), (13, cRb)]) := llOfN_ok fun i hi c hc => by
  have hi : i < 2 := hi
  have : i = 0 ∨ i = 1 := by omega
  rcases this with rfl | rfl
  · obtain rfl : cRa = c := Option.some.inj hc
    exact LSndN.mk good names mixes ctSl_ok (by decide) hRa
  · obtain rfl : cRb = c := Option.some.inj hc
    exact LSndN.mk good names mixes ctSl_ok (by decide) hRb
theorem ll49 : LLOk Try.prog E (llOfN Try.prog E 49 0 [(9, cPa), (14, cPb)]) := llOfN_ok fun i hi c hc => by
  have hi : i < 2 := hi
  have : i = 0 ∨ i = 1 := by omega
  rcases this with rfl | rfl
  · obtain rfl : cPa = c := Option.some.inj hc
    exact LSndN.mk good names mixes ctSl_ok (by decide) hPa
  · obtain rfl : cPb = c := Option.some.inj hc
    exact LSndN.mk good names mixes ctSl_ok (by decide) hPb
theorem fl60 : ∀ τ, memN τ [60] = true → ∀ x : T τ, (E.enc τ x).all ind0 = true := fun τ h => by
  have := memN_iff.1 h
  obtain rfl : τ = 60 := by simpa using this
  exact fun x => rfl
theorem tv49 (s : Sensor) (x : Kick) : runN ctSl (llOfN Try.prog E 49 0 [(9, cPa), (14, cPb)]) [60] 49 [s.av, x.av] [40, 4] =
  (.br (sErr (sens (Sensor.Channel s, Sensor.Period s, Sensor.Delay s, Sensor.Noise s, Sensor.Step s, Sensor.Lost s, Sensor.Limit s, Sensor.Hold s, ())) == (0 : Int))
   (.br (!kErr (Kick.mk (Kick.Rate x) (Kick.Grow x)) == (0 : Int))
    (.leaf (.tup [.sl (60 : Nat) ([]) false, .bool (false)]))
    (.req (sErr (Sensor.mk (Sensor.Channel s) (Sensor.Period s) (Sensor.Delay s) (Sensor.Noise s) (Sensor.Step s) (Sensor.Lost s) (Sensor.Limit s) (Sensor.Hold s)) = (0 : Int) ∧ okK (Kick.mk (Kick.Rate x) (Kick.Grow x)))
    (.br (!fnd (Sensor.mk (Sensor.Channel s) (Sensor.Period s) (Sensor.Delay s) (Sensor.Noise s) (Sensor.Step s) (Sensor.Lost s) (Sensor.Limit s) (Sensor.Hold s)) (Kick.mk (Kick.Rate x) (Kick.Grow x)))
     (.leaf (.tup [.sl (60 : Nat) ([]) false, .bool (false)]))
     (.br (!within (IntKind.wrap IntKind.i64 (Lt.f (fdR (Sensor.mk (Sensor.Channel s) (Sensor.Period s) (Sensor.Delay s) (Sensor.Noise s) (Sensor.Step s) (Sensor.Lost s) (Sensor.Limit s) (Sensor.Hold s)) (Kick.mk (Kick.Rate x) (Kick.Grow x))) + Sensor.Hold s)) (0 : Int) (200 : Int))
      (.leaf (.tup [.sl (60 : Nat) ([]) false, .bool (false)]))
      (.req (((sErr (Sensor.mk (Sensor.Channel s) (Sensor.Period s) (Sensor.Delay s) (Sensor.Noise s) (Sensor.Step s) (Sensor.Lost s) (Sensor.Limit s) (Sensor.Hold s)) = (0 : Int) ∧ okK (Kick.mk (Kick.Rate x) (Kick.Grow x))) ∧ (0 : Int) ≤ Lt.p (fdR (Sensor.mk (Sensor.Channel s) (Sensor.Period s) (Sensor.Delay s) (Sensor.Noise s) (Sensor.Step s) (Sensor.Lost s) (Sensor.Limit s) (Sensor.Hold s)) (Kick.mk (Kick.Rate x) (Kick.Grow x))) ∧ Lt.p (fdR (Sensor.mk (Sensor.Channel s) (Sensor.Period s) (Sensor.Delay s) (Sensor.Noise s) (Sensor.Step s) (Sensor.Lost s) (Sensor.Limit s) (Sensor.Hold s)) (Kick.mk (Kick.Rate x) (Kick.Grow x))) ≤ (60 : Int)) ∧ ((0 : Int) ≤ (0 : Int) ∧ (0 : Int) ≤ Lt.f (fdR (Sensor.mk (Sensor.Channel s) (Sensor.Period s) (Sensor.Delay s) (Sensor.Noise s) (Sensor.Step s) (Sensor.Lost s) (Sensor.Limit s) (Sensor.Hold s)) (Kick.mk (Kick.Rate x) (Kick.Grow x))) ∧ Lt.f (fdR (Sensor.mk (Sensor.Channel s) (Sensor.Period s) (Sensor.Delay s) (Sensor.Noise s) (Sensor.Step s) (Sensor.Lost s) (Sensor.Limit s) (Sensor.Hold s)) (Kick.mk (Kick.Rate x) (Kick.Grow x))) ≤ (200 : Int)) ∧ (0 : Nat) ≤ (1000 : Nat) + Int.toNat (0 : Int))
      (.req (List.length ([] ++ gA (Sensor.mk (Sensor.Channel s) (Sensor.Period s) (Sensor.Delay s) (Sensor.Noise s) (Sensor.Step s) (Sensor.Lost s) (Sensor.Limit s) (Sensor.Hold s)) (Kick.mk (Kick.Rate x) (Kick.Grow x)) (Lt.p (fdR (Sensor.mk (Sensor.Channel s) (Sensor.Period s) (Sensor.Delay s) (Sensor.Noise s) (Sensor.Step s) (Sensor.Lost s) (Sensor.Limit s) (Sensor.Hold s)) (Kick.mk (Kick.Rate x) (Kick.Grow x)))) (Int.toNat (Lt.f (fdR (Sensor.mk (Sensor.Channel s) (Sensor.Period s) (Sensor.Delay s) (Sensor.Noise s) (Sensor.Step s) (Sensor.Lost s) (Sensor.Limit s) (Sensor.Hold s)) (Kick.mk (Kick.Rate x) (Kick.Grow x))) - (0 : Int))) (0 : Int)) = List.length ([] ++ gA (Sensor.mk (Sensor.Channel s) (Sensor.Period s) (Sensor.Delay s) (Sensor.Noise s) (Sensor.Step s) (Sensor.Lost s) (Sensor.Limit s) (Sensor.Hold s)) (Kick.mk (Kick.Rate x) (Kick.Grow x)) (Lt.p (fdR (Sensor.mk (Sensor.Channel s) (Sensor.Period s) (Sensor.Delay s) (Sensor.Noise s) (Sensor.Step s) (Sensor.Lost s) (Sensor.Limit s) (Sensor.Hold s)) (Kick.mk (Kick.Rate x) (Kick.Grow x)))) (Int.toNat (Lt.f (fdR (Sensor.mk (Sensor.Channel s) (Sensor.Period s) (Sensor.Delay s) (Sensor.Noise s) (Sensor.Step s) (Sensor.Lost s) (Sensor.Limit s) (Sensor.Hold s)) (Kick.mk (Kick.Rate x) (Kick.Grow x))) - (0 : Int))) (0 : Int)))
      (.req (((sErr (Sensor.mk (Sensor.Channel s) (Sensor.Period s) (Sensor.Delay s) (Sensor.Noise s) (Sensor.Step s) (Sensor.Lost s) (Sensor.Limit s) (Sensor.Hold s)) = (0 : Int) ∧ okK (Kick.mk (Kick.Rate x) (Kick.Grow x))) ∧ (0 : Int) ≤ Lt.p (fdR (Sensor.mk (Sensor.Channel s) (Sensor.Period s) (Sensor.Delay s) (Sensor.Noise s) (Sensor.Step s) (Sensor.Lost s) (Sensor.Limit s) (Sensor.Hold s)) (Kick.mk (Kick.Rate x) (Kick.Grow x))) ∧ Lt.p (fdR (Sensor.mk (Sensor.Channel s) (Sensor.Period s) (Sensor.Delay s) (Sensor.Noise s) (Sensor.Step s) (Sensor.Lost s) (Sensor.Limit s) (Sensor.Hold s)) (Kick.mk (Kick.Rate x) (Kick.Grow x))) ≤ (60 : Int)) ∧ ((0 : Int) ≤ (0 : Int) ∧ (0 : Int) ≤ Sensor.Hold s ∧ Sensor.Hold s = Sensor.Hold s ∧ (0 : Int) ≤ Lt.f (fdR (Sensor.mk (Sensor.Channel s) (Sensor.Period s) (Sensor.Delay s) (Sensor.Noise s) (Sensor.Step s) (Sensor.Lost s) (Sensor.Limit s) (Sensor.Hold s)) (Kick.mk (Kick.Rate x) (Kick.Grow x))) ∧ Lt.f (fdR (Sensor.mk (Sensor.Channel s) (Sensor.Period s) (Sensor.Delay s) (Sensor.Noise s) (Sensor.Step s) (Sensor.Lost s) (Sensor.Limit s) (Sensor.Hold s)) (Kick.mk (Kick.Rate x) (Kick.Grow x))) ≤ (200 : Int)) ∧ List.length ([] ++ gA (Sensor.mk (Sensor.Channel s) (Sensor.Period s) (Sensor.Delay s) (Sensor.Noise s) (Sensor.Step s) (Sensor.Lost s) (Sensor.Limit s) (Sensor.Hold s)) (Kick.mk (Kick.Rate x) (Kick.Grow x)) (Lt.p (fdR (Sensor.mk (Sensor.Channel s) (Sensor.Period s) (Sensor.Delay s) (Sensor.Noise s) (Sensor.Step s) (Sensor.Lost s) (Sensor.Limit s) (Sensor.Hold s)) (Kick.mk (Kick.Rate x) (Kick.Grow x)))) (Int.toNat (Lt.f (fdR (Sensor.mk (Sensor.Channel s) (Sensor.Period s) (Sensor.Delay s) (Sensor.Noise s) (Sensor.Step s) (Sensor.Lost s) (Sensor.Limit s) (Sensor.Hold s)) (Kick.mk (Kick.Rate x) (Kick.Grow x))) - (0 : Int))) (0 : Int)) ≤ (2000 : Nat) + Int.toNat (0 : Int))
      (.req (List.length ([] ++ gA (Sensor.mk (Sensor.Channel s) (Sensor.Period s) (Sensor.Delay s) (Sensor.Noise s) (Sensor.Step s) (Sensor.Lost s) (Sensor.Limit s) (Sensor.Hold s)) (Kick.mk (Kick.Rate x) (Kick.Grow x)) (Lt.p (fdR (Sensor.mk (Sensor.Channel s) (Sensor.Period s) (Sensor.Delay s) (Sensor.Noise s) (Sensor.Step s) (Sensor.Lost s) (Sensor.Limit s) (Sensor.Hold s)) (Kick.mk (Kick.Rate x) (Kick.Grow x)))) (Int.toNat (Lt.f (fdR (Sensor.mk (Sensor.Channel s) (Sensor.Period s) (Sensor.Delay s) (Sensor.Noise s) (Sensor.Step s) (Sensor.Lost s) (Sensor.Limit s) (Sensor.Hold s)) (Kick.mk (Kick.Rate x) (Kick.Grow x))) - (0 : Int))) (0 : Int) ++ gB (Sensor.mk (Sensor.Channel s) (Sensor.Period s) (Sensor.Delay s) (Sensor.Noise s) (Sensor.Step s) (Sensor.Lost s) (Sensor.Limit s) (Sensor.Hold s)) (Kick.mk (Kick.Rate x) (Kick.Grow x)) (Lt.p (fdR (Sensor.mk (Sensor.Channel s) (Sensor.Period s) (Sensor.Delay s) (Sensor.Noise s) (Sensor.Step s) (Sensor.Lost s) (Sensor.Limit s) (Sensor.Hold s)) (Kick.mk (Kick.Rate x) (Kick.Grow x)))) (Lt.f (fdR (Sensor.mk (Sensor.Channel s) (Sensor.Period s) (Sensor.Delay s) (Sensor.Noise s) (Sensor.Step s) (Sensor.Lost s) (Sensor.Limit s) (Sensor.Hold s)) (Kick.mk (Kick.Rate x) (Kick.Grow x)))) (Int.toNat (Sensor.Hold s - (0 : Int))) (0 : Int)) = List.length ([] ++ gA (Sensor.mk (Sensor.Channel s) (Sensor.Period s) (Sensor.Delay s) (Sensor.Noise s) (Sensor.Step s) (Sensor.Lost s) (Sensor.Limit s) (Sensor.Hold s)) (Kick.mk (Kick.Rate x) (Kick.Grow x)) (Lt.p (fdR (Sensor.mk (Sensor.Channel s) (Sensor.Period s) (Sensor.Delay s) (Sensor.Noise s) (Sensor.Step s) (Sensor.Lost s) (Sensor.Limit s) (Sensor.Hold s)) (Kick.mk (Kick.Rate x) (Kick.Grow x)))) (Int.toNat (Lt.f (fdR (Sensor.mk (Sensor.Channel s) (Sensor.Period s) (Sensor.Delay s) (Sensor.Noise s) (Sensor.Step s) (Sensor.Lost s) (Sensor.Limit s) (Sensor.Hold s)) (Kick.mk (Kick.Rate x) (Kick.Grow x))) - (0 : Int))) (0 : Int) ++ gB (Sensor.mk (Sensor.Channel s) (Sensor.Period s) (Sensor.Delay s) (Sensor.Noise s) (Sensor.Step s) (Sensor.Lost s) (Sensor.Limit s) (Sensor.Hold s)) (Kick.mk (Kick.Rate x) (Kick.Grow x)) (Lt.p (fdR (Sensor.mk (Sensor.Channel s) (Sensor.Period s) (Sensor.Delay s) (Sensor.Noise s) (Sensor.Step s) (Sensor.Lost s) (Sensor.Limit s) (Sensor.Hold s)) (Kick.mk (Kick.Rate x) (Kick.Grow x)))) (Lt.f (fdR (Sensor.mk (Sensor.Channel s) (Sensor.Period s) (Sensor.Delay s) (Sensor.Noise s) (Sensor.Step s) (Sensor.Lost s) (Sensor.Limit s) (Sensor.Hold s)) (Kick.mk (Kick.Rate x) (Kick.Grow x)))) (Int.toNat (Sensor.Hold s - (0 : Int))) (0 : Int)))
      (.leaf (.tup [.sl (60 : Nat) ([] ++ gA (Sensor.mk (Sensor.Channel s) (Sensor.Period s) (Sensor.Delay s) (Sensor.Noise s) (Sensor.Step s) (Sensor.Lost s) (Sensor.Limit s) (Sensor.Hold s)) (Kick.mk (Kick.Rate x) (Kick.Grow x)) (Lt.p (fdR (Sensor.mk (Sensor.Channel s) (Sensor.Period s) (Sensor.Delay s) (Sensor.Noise s) (Sensor.Step s) (Sensor.Lost s) (Sensor.Limit s) (Sensor.Hold s)) (Kick.mk (Kick.Rate x) (Kick.Grow x)))) (Int.toNat (Lt.f (fdR (Sensor.mk (Sensor.Channel s) (Sensor.Period s) (Sensor.Delay s) (Sensor.Noise s) (Sensor.Step s) (Sensor.Lost s) (Sensor.Limit s) (Sensor.Hold s)) (Kick.mk (Kick.Rate x) (Kick.Grow x))) - (0 : Int))) (0 : Int) ++ gB (Sensor.mk (Sensor.Channel s) (Sensor.Period s) (Sensor.Delay s) (Sensor.Noise s) (Sensor.Step s) (Sensor.Lost s) (Sensor.Limit s) (Sensor.Hold s)) (Kick.mk (Kick.Rate x) (Kick.Grow x)) (Lt.p (fdR (Sensor.mk (Sensor.Channel s) (Sensor.Period s) (Sensor.Delay s) (Sensor.Noise s) (Sensor.Step s) (Sensor.Lost s) (Sensor.Limit s) (Sensor.Hold s)) (Kick.mk (Kick.Rate x) (Kick.Grow x)))) (Lt.f (fdR (Sensor.mk (Sensor.Channel s) (Sensor.Period s) (Sensor.Delay s) (Sensor.Noise s) (Sensor.Step s) (Sensor.Lost s) (Sensor.Limit s) (Sensor.Hold s)) (Kick.mk (Kick.Rate x) (Kick.Grow x)))) (Int.toNat (Sensor.Hold s - (0 : Int))) (0 : Int)) false, .bool (true)]))))))))))
   (.leaf (.tup [.sl (60 : Nat) ([]) false, .bool (false)]))) := by kernel_rfl
theorem tv50 (s : Sensor) (x : Kick) : runN ctSl (llOfN Try.prog E 50 0 [(9, cRa), (13, cRb)]) [60] 50 [s.av, x.av] [40, 4] =
  (.br (!ltB (Sensor.mk (Sensor.Channel s) (Sensor.Period s) (Sensor.Delay s) (Sensor.Noise s) (Sensor.Step s) (Sensor.Lost s) (Sensor.Limit s) (Sensor.Hold s)) (Kick.mk (Kick.Rate x) (Kick.Grow x)))
   (.leaf (.tup [.sl (60 : Nat) ([]) false, .bool (false)]))
   (.req (sErr (Sensor.mk (Sensor.Channel s) (Sensor.Period s) (Sensor.Delay s) (Sensor.Noise s) (Sensor.Step s) (Sensor.Lost s) (Sensor.Limit s) (Sensor.Hold s)) = (0 : Int) ∧ okK (Kick.mk (Kick.Rate x) (Kick.Grow x)))
   (.br (decide (IntKind.wrap IntKind.i64 (Lt.f (woR (Sensor.mk (Sensor.Channel s) (Sensor.Period s) (Sensor.Delay s) (Sensor.Noise s) (Sensor.Step s) (Sensor.Lost s) (Sensor.Limit s) (Sensor.Hold s)) (Kick.mk (Kick.Rate x) (Kick.Grow x))) + Sensor.Hold s) > (200 : Int)))
    (.leaf (.tup [.sl (60 : Nat) ([]) false, .bool (false)]))
    (.req (((sErr (Sensor.mk (Sensor.Channel s) (Sensor.Period s) (Sensor.Delay s) (Sensor.Noise s) (Sensor.Step s) (Sensor.Lost s) (Sensor.Limit s) (Sensor.Hold s)) = (0 : Int) ∧ okK (Kick.mk (Kick.Rate x) (Kick.Grow x))) ∧ (0 : Int) ≤ Lt.p (woR (Sensor.mk (Sensor.Channel s) (Sensor.Period s) (Sensor.Delay s) (Sensor.Noise s) (Sensor.Step s) (Sensor.Lost s) (Sensor.Limit s) (Sensor.Hold s)) (Kick.mk (Kick.Rate x) (Kick.Grow x))) ∧ Lt.p (woR (Sensor.mk (Sensor.Channel s) (Sensor.Period s) (Sensor.Delay s) (Sensor.Noise s) (Sensor.Step s) (Sensor.Lost s) (Sensor.Limit s) (Sensor.Hold s)) (Kick.mk (Kick.Rate x) (Kick.Grow x))) ≤ (60 : Int)) ∧ ((0 : Int) ≤ (0 : Int) ∧ (0 : Int) ≤ Lt.f (woR (Sensor.mk (Sensor.Channel s) (Sensor.Period s) (Sensor.Delay s) (Sensor.Noise s) (Sensor.Step s) (Sensor.Lost s) (Sensor.Limit s) (Sensor.Hold s)) (Kick.mk (Kick.Rate x) (Kick.Grow x))) ∧ Lt.f (woR (Sensor.mk (Sensor.Channel s) (Sensor.Period s) (Sensor.Delay s) (Sensor.Noise s) (Sensor.Step s) (Sensor.Lost s) (Sensor.Limit s) (Sensor.Hold s)) (Kick.mk (Kick.Rate x) (Kick.Grow x))) ≤ (200 : Int)) ∧ (0 : Nat) ≤ (1000 : Nat) + Int.toNat (0 : Int))
    (.req (List.length ([] ++ gA (Sensor.mk (Sensor.Channel s) (Sensor.Period s) (Sensor.Delay s) (Sensor.Noise s) (Sensor.Step s) (Sensor.Lost s) (Sensor.Limit s) (Sensor.Hold s)) (Kick.mk (Kick.Rate x) (Kick.Grow x)) (Lt.p (woR (Sensor.mk (Sensor.Channel s) (Sensor.Period s) (Sensor.Delay s) (Sensor.Noise s) (Sensor.Step s) (Sensor.Lost s) (Sensor.Limit s) (Sensor.Hold s)) (Kick.mk (Kick.Rate x) (Kick.Grow x)))) (Int.toNat (Lt.f (woR (Sensor.mk (Sensor.Channel s) (Sensor.Period s) (Sensor.Delay s) (Sensor.Noise s) (Sensor.Step s) (Sensor.Lost s) (Sensor.Limit s) (Sensor.Hold s)) (Kick.mk (Kick.Rate x) (Kick.Grow x))) - (0 : Int))) (0 : Int)) = List.length ([] ++ gA (Sensor.mk (Sensor.Channel s) (Sensor.Period s) (Sensor.Delay s) (Sensor.Noise s) (Sensor.Step s) (Sensor.Lost s) (Sensor.Limit s) (Sensor.Hold s)) (Kick.mk (Kick.Rate x) (Kick.Grow x)) (Lt.p (woR (Sensor.mk (Sensor.Channel s) (Sensor.Period s) (Sensor.Delay s) (Sensor.Noise s) (Sensor.Step s) (Sensor.Lost s) (Sensor.Limit s) (Sensor.Hold s)) (Kick.mk (Kick.Rate x) (Kick.Grow x)))) (Int.toNat (Lt.f (woR (Sensor.mk (Sensor.Channel s) (Sensor.Period s) (Sensor.Delay s) (Sensor.Noise s) (Sensor.Step s) (Sensor.Lost s) (Sensor.Limit s) (Sensor.Hold s)) (Kick.mk (Kick.Rate x) (Kick.Grow x))) - (0 : Int))) (0 : Int)))
    (.req (((sErr (Sensor.mk (Sensor.Channel s) (Sensor.Period s) (Sensor.Delay s) (Sensor.Noise s) (Sensor.Step s) (Sensor.Lost s) (Sensor.Limit s) (Sensor.Hold s)) = (0 : Int) ∧ okK (Kick.mk (Kick.Rate x) (Kick.Grow x))) ∧ (0 : Int) ≤ Lt.p (woR (Sensor.mk (Sensor.Channel s) (Sensor.Period s) (Sensor.Delay s) (Sensor.Noise s) (Sensor.Step s) (Sensor.Lost s) (Sensor.Limit s) (Sensor.Hold s)) (Kick.mk (Kick.Rate x) (Kick.Grow x))) ∧ Lt.p (woR (Sensor.mk (Sensor.Channel s) (Sensor.Period s) (Sensor.Delay s) (Sensor.Noise s) (Sensor.Step s) (Sensor.Lost s) (Sensor.Limit s) (Sensor.Hold s)) (Kick.mk (Kick.Rate x) (Kick.Grow x))) ≤ (60 : Int)) ∧ ((1 : Int) ≤ (1 : Int) ∧ (1 : Int) ≤ Sensor.Hold s + (1 : Int) ∧ (0 : Int) ≤ Lt.f (woR (Sensor.mk (Sensor.Channel s) (Sensor.Period s) (Sensor.Delay s) (Sensor.Noise s) (Sensor.Step s) (Sensor.Lost s) (Sensor.Limit s) (Sensor.Hold s)) (Kick.mk (Kick.Rate x) (Kick.Grow x))) ∧ Lt.f (woR (Sensor.mk (Sensor.Channel s) (Sensor.Period s) (Sensor.Delay s) (Sensor.Noise s) (Sensor.Step s) (Sensor.Lost s) (Sensor.Limit s) (Sensor.Hold s)) (Kick.mk (Kick.Rate x) (Kick.Grow x))) ≤ (200 : Int)) ∧ List.length ([] ++ gA (Sensor.mk (Sensor.Channel s) (Sensor.Period s) (Sensor.Delay s) (Sensor.Noise s) (Sensor.Step s) (Sensor.Lost s) (Sensor.Limit s) (Sensor.Hold s)) (Kick.mk (Kick.Rate x) (Kick.Grow x)) (Lt.p (woR (Sensor.mk (Sensor.Channel s) (Sensor.Period s) (Sensor.Delay s) (Sensor.Noise s) (Sensor.Step s) (Sensor.Lost s) (Sensor.Limit s) (Sensor.Hold s)) (Kick.mk (Kick.Rate x) (Kick.Grow x)))) (Int.toNat (Lt.f (woR (Sensor.mk (Sensor.Channel s) (Sensor.Period s) (Sensor.Delay s) (Sensor.Noise s) (Sensor.Step s) (Sensor.Lost s) (Sensor.Limit s) (Sensor.Hold s)) (Kick.mk (Kick.Rate x) (Kick.Grow x))) - (0 : Int))) (0 : Int)) ≤ (2000 : Nat) + Int.toNat (1 : Int))
    (.req (List.length ([] ++ gA (Sensor.mk (Sensor.Channel s) (Sensor.Period s) (Sensor.Delay s) (Sensor.Noise s) (Sensor.Step s) (Sensor.Lost s) (Sensor.Limit s) (Sensor.Hold s)) (Kick.mk (Kick.Rate x) (Kick.Grow x)) (Lt.p (woR (Sensor.mk (Sensor.Channel s) (Sensor.Period s) (Sensor.Delay s) (Sensor.Noise s) (Sensor.Step s) (Sensor.Lost s) (Sensor.Limit s) (Sensor.Hold s)) (Kick.mk (Kick.Rate x) (Kick.Grow x)))) (Int.toNat (Lt.f (woR (Sensor.mk (Sensor.Channel s) (Sensor.Period s) (Sensor.Delay s) (Sensor.Noise s) (Sensor.Step s) (Sensor.Lost s) (Sensor.Limit s) (Sensor.Hold s)) (Kick.mk (Kick.Rate x) (Kick.Grow x))) - (0 : Int))) (0 : Int) ++ gB (Sensor.mk (Sensor.Channel s) (Sensor.Period s) (Sensor.Delay s) (Sensor.Noise s) (Sensor.Step s) (Sensor.Lost s) (Sensor.Limit s) (Sensor.Hold s)) (Kick.mk (Kick.Rate x) (Kick.Grow x)) (Lt.p (woR (Sensor.mk (Sensor.Channel s) (Sensor.Period s) (Sensor.Delay s) (Sensor.Noise s) (Sensor.Step s) (Sensor.Lost s) (Sensor.Limit s) (Sensor.Hold s)) (Kick.mk (Kick.Rate x) (Kick.Grow x)))) (Lt.f (woR (Sensor.mk (Sensor.Channel s) (Sensor.Period s) (Sensor.Delay s) (Sensor.Noise s) (Sensor.Step s) (Sensor.Lost s) (Sensor.Limit s) (Sensor.Hold s)) (Kick.mk (Kick.Rate x) (Kick.Grow x)))) (Int.toNat (Sensor.Hold s - ((1 : Int) - (1 : Int)))) ((1 : Int) - (1 : Int))) = List.length ([] ++ gA (Sensor.mk (Sensor.Channel s) (Sensor.Period s) (Sensor.Delay s) (Sensor.Noise s) (Sensor.Step s) (Sensor.Lost s) (Sensor.Limit s) (Sensor.Hold s)) (Kick.mk (Kick.Rate x) (Kick.Grow x)) (Lt.p (woR (Sensor.mk (Sensor.Channel s) (Sensor.Period s) (Sensor.Delay s) (Sensor.Noise s) (Sensor.Step s) (Sensor.Lost s) (Sensor.Limit s) (Sensor.Hold s)) (Kick.mk (Kick.Rate x) (Kick.Grow x)))) (Int.toNat (Lt.f (woR (Sensor.mk (Sensor.Channel s) (Sensor.Period s) (Sensor.Delay s) (Sensor.Noise s) (Sensor.Step s) (Sensor.Lost s) (Sensor.Limit s) (Sensor.Hold s)) (Kick.mk (Kick.Rate x) (Kick.Grow x))) - (0 : Int))) (0 : Int) ++ gB (Sensor.mk (Sensor.Channel s) (Sensor.Period s) (Sensor.Delay s) (Sensor.Noise s) (Sensor.Step s) (Sensor.Lost s) (Sensor.Limit s) (Sensor.Hold s)) (Kick.mk (Kick.Rate x) (Kick.Grow x)) (Lt.p (woR (Sensor.mk (Sensor.Channel s) (Sensor.Period s) (Sensor.Delay s) (Sensor.Noise s) (Sensor.Step s) (Sensor.Lost s) (Sensor.Limit s) (Sensor.Hold s)) (Kick.mk (Kick.Rate x) (Kick.Grow x)))) (Lt.f (woR (Sensor.mk (Sensor.Channel s) (Sensor.Period s) (Sensor.Delay s) (Sensor.Noise s) (Sensor.Step s) (Sensor.Lost s) (Sensor.Limit s) (Sensor.Hold s)) (Kick.mk (Kick.Rate x) (Kick.Grow x)))) (Int.toNat (Sensor.Hold s - ((1 : Int) - (1 : Int)))) ((1 : Int) - (1 : Int))))
    (.leaf (.tup [.sl (60 : Nat) ([] ++ gA (Sensor.mk (Sensor.Channel s) (Sensor.Period s) (Sensor.Delay s) (Sensor.Noise s) (Sensor.Step s) (Sensor.Lost s) (Sensor.Limit s) (Sensor.Hold s)) (Kick.mk (Kick.Rate x) (Kick.Grow x)) (Lt.p (woR (Sensor.mk (Sensor.Channel s) (Sensor.Period s) (Sensor.Delay s) (Sensor.Noise s) (Sensor.Step s) (Sensor.Lost s) (Sensor.Limit s) (Sensor.Hold s)) (Kick.mk (Kick.Rate x) (Kick.Grow x)))) (Int.toNat (Lt.f (woR (Sensor.mk (Sensor.Channel s) (Sensor.Period s) (Sensor.Delay s) (Sensor.Noise s) (Sensor.Step s) (Sensor.Lost s) (Sensor.Limit s) (Sensor.Hold s)) (Kick.mk (Kick.Rate x) (Kick.Grow x))) - (0 : Int))) (0 : Int) ++ gB (Sensor.mk (Sensor.Channel s) (Sensor.Period s) (Sensor.Delay s) (Sensor.Noise s) (Sensor.Step s) (Sensor.Lost s) (Sensor.Limit s) (Sensor.Hold s)) (Kick.mk (Kick.Rate x) (Kick.Grow x)) (Lt.p (woR (Sensor.mk (Sensor.Channel s) (Sensor.Period s) (Sensor.Delay s) (Sensor.Noise s) (Sensor.Step s) (Sensor.Lost s) (Sensor.Limit s) (Sensor.Hold s)) (Kick.mk (Kick.Rate x) (Kick.Grow x)))) (Lt.f (woR (Sensor.mk (Sensor.Channel s) (Sensor.Period s) (Sensor.Delay s) (Sensor.Noise s) (Sensor.Step s) (Sensor.Lost s) (Sensor.Limit s) (Sensor.Hold s)) (Kick.mk (Kick.Rate x) (Kick.Grow x)))) (Int.toNat (Sensor.Hold s - ((1 : Int) - (1 : Int)))) ((1 : Int) - (1 : Int))) false, .bool (true)]))))))))) := by kernel_rfl
theorem wrs_pf (s : Sensor) (x : Kick) (hp : 1 ≤ s.Period) : ∀ (n : Nat) (ph : Int) (w : Lt), allF s x n ph = true → 0 ≤ ph → ph + n ≤ 60 → (0 ≤ w.p ∧ w.p ≤ 60) ∧ 0 ≤ w.f ∧ w.f ≤ 10000 → (0 ≤ (wrs s x n ph w).p ∧ (wrs s x n ph w).p ≤ 60) ∧ 0 ≤ (wrs s x n ph w).f ∧ (wrs s x n ph w).f ≤ 10000
  | 0, ph, w, _, _, _, h => h
  | n + 1, ph, w, ha, h0, h1, h => by
    have ha : (if fA s x ph 0 = -1 then false else allF s x n (ph + 1)) = true := ha
    split at ha
    · cases ha
    · rename_i c
      refine wrs_pf s x hp n (ph + 1) (stp s x ph w) ha (by omega) (by omega) ?_
      unfold stp
      split
      · rcases fA_bd (s := s) (x := x) (ph := ph) 0 (by omega) with e | ⟨e1, e2, _⟩
        · exact absurd e c
        · have := Int.mul_le_mul_of_nonneg_left hp e1
          exact ⟨⟨h0, by show ph ≤ 60; omega⟩, e1, by show fA s x ph 0 ≤ 10000; omega⟩
      · exact h
theorem wst_pf {s : Sensor} {x : Kick} (h : sErr s = 0) (hf : fnd s x = true) : (0 ≤ (wst s x).p ∧ (wst s x).p ≤ 60) ∧ 0 ≤ (wst s x).f ∧ (wst s x).f ≤ 10000 := by
  have q1 : 1 ≤ s.Period ∧ s.Period ≤ 60 := (sErr_zero.1 h).2.1
  rw [fnd_eq, Bool.and_eq_true] at hf
  exact wrs_pf s x q1.1 _ 0 w0 hf.1 (by decide) (by omega) (by decide)
noncomputable def slB (s : Sensor) (x : Kick) : Bool := ltB s x && decide ((wst s x).f + s.Hold ≤ 200)
noncomputable def slL (s : Sensor) (x : Kick) : List Sample := if slB s x = true then gA s x (wst s x).p (wst s x).f.toNat 0 ++ gB s x (wst s x).p (wst s x).f s.Hold.toNat 0 else []
theorem gA_len {s : Sensor} {x : Kick} {p : Int} : ∀ (n : Nat) (i : Int), (gA s x p n i).length = n
  | 0, _ => rfl
  | n + 1, i => congrArg (· + 1) (gA_len n (i + 1))
noncomputable def slR (s : Sensor) (x : Kick) (r : Lt) : List Sample := if r.f + s.Hold ≤ 200 then gA s x r.p r.f.toNat 0 ++ gB s x r.p r.f s.Hold.toNat 0 else []
@[reducible] noncomputable def slA (s : Sensor) (x : Kick) (r : Lt) : AV T := .tup [.sl 60 (slR s x r) false, .bool (decide (r.f + s.Hold ≤ 200))]
theorem sl_no {s : Sensor} {x : Kick} {r : Lt} (h : ¬ r.f + s.Hold ≤ 200) : (AV.tup [.sl 60 [] false, .bool false] : AV T) = slA s x r := by
  unfold slA slR
  rw [if_neg h, decide_eq_false h]
  rfl
theorem sl_yes {s : Sensor} {x : Kick} {r : Lt} (h : r.f + s.Hold ≤ 200) : (AV.tup [.sl 60 ([] ++ gA s x r.p (r.f - 0).toNat 0 ++ gB s x r.p r.f (s.Hold - 0).toNat 0) false, .bool true] : AV T) = slA s x r := by
  unfold slA slR
  rw [if_pos h, decide_eq_true h, Int.sub_zero, Int.sub_zero, List.nil_append]
  rfl
theorem sl49 (s : Sensor) (x : Kick) (r : Lt) (h : sErr s = 0 ∧ okK x) (b : (0 ≤ r.p ∧ r.p ≤ 60) ∧ 0 ≤ r.f ∧ r.f ≤ 10000) : (Tree.br (!within (IntKind.wrap IntKind.i64 (r.f + s.Hold)) (0 : Int) (200 : Int))
      (.leaf (.tup [.sl (60 : Nat) ([]) false, .bool (false)]))
      (.req (((sErr s = (0 : Int) ∧ okK x) ∧ (0 : Int) ≤ r.p ∧ r.p ≤ (60 : Int)) ∧ ((0 : Int) ≤ (0 : Int) ∧ (0 : Int) ≤ r.f ∧ r.f ≤ (200 : Int)) ∧ (0 : Nat) ≤ (1000 : Nat) + Int.toNat (0 : Int))
      (.req (List.length ([] ++ gA s x r.p (Int.toNat (r.f - (0 : Int))) (0 : Int)) = List.length ([] ++ gA s x r.p (Int.toNat (r.f - (0 : Int))) (0 : Int)))
      (.req (((sErr s = (0 : Int) ∧ okK x) ∧ (0 : Int) ≤ r.p ∧ r.p ≤ (60 : Int)) ∧ ((0 : Int) ≤ (0 : Int) ∧ (0 : Int) ≤ s.Hold ∧ s.Hold = s.Hold ∧ (0 : Int) ≤ r.f ∧ r.f ≤ (200 : Int)) ∧ List.length ([] ++ gA s x r.p (Int.toNat (r.f - (0 : Int))) (0 : Int)) ≤ (2000 : Nat) + Int.toNat (0 : Int))
      (.req (List.length ([] ++ gA s x r.p (Int.toNat (r.f - (0 : Int))) (0 : Int) ++ gB s x r.p r.f (Int.toNat (s.Hold - (0 : Int))) (0 : Int)) = List.length ([] ++ gA s x r.p (Int.toNat (r.f - (0 : Int))) (0 : Int) ++ gB s x r.p r.f (Int.toNat (s.Hold - (0 : Int))) (0 : Int)))
      (.leaf (.tup [.sl (60 : Nat) ([] ++ gA s x r.p (Int.toNat (r.f - (0 : Int))) (0 : Int) ++ gB s x r.p r.f (Int.toNat (s.Hold - (0 : Int))) (0 : Int)) false, .bool (true)])))))) : Tree (AV T)).holds fun v => v = slA s x r := by
  have q4 : 1 ≤ s.Hold ∧ s.Hold ≤ 8 := (sErr_zero.1 h.1).2.2.2.2.2.2.2
  have e : IntKind.wrap IntKind.i64 (r.f + s.Hold) = r.f + s.Hold := i64_in' (by omega) (by omega)
  rw [e]
  refine wayB (fun k => ?_) fun k => ?_
  · refine sl_no fun c => ?_
    rw [within_iff.2 ⟨by omega, c⟩] at k
    cases k
  · have k : within (r.f + s.Hold) 0 200 = true := by
      revert k
      cases within (r.f + s.Hold) 0 200 <;> simp
    have c := (within_iff.1 k).2
    exact ⟨⟨⟨h, b.1⟩, ⟨by decide, b.2.1, by omega⟩, by omega⟩, rfl, ⟨⟨h, b.1⟩, ⟨by decide, by omega, rfl, b.2.1, by omega⟩, by rw [List.nil_append, gA_len]; omega⟩, rfl, sl_yes c⟩
theorem sl50 (s : Sensor) (x : Kick) (r : Lt) (h : sErr s = 0 ∧ okK x) (b : (0 ≤ r.p ∧ r.p ≤ 60) ∧ 0 ≤ r.f ∧ r.f ≤ 10000) : (Tree.br (decide (IntKind.wrap IntKind.i64 (r.f + s.Hold) > (200 : Int)))
    (.leaf (.tup [.sl (60 : Nat) ([]) false, .bool (false)]))
    (.req (((sErr s = (0 : Int) ∧ okK x) ∧ (0 : Int) ≤ r.p ∧ r.p ≤ (60 : Int)) ∧ ((0 : Int) ≤ (0 : Int) ∧ (0 : Int) ≤ r.f ∧ r.f ≤ (200 : Int)) ∧ (0 : Nat) ≤ (1000 : Nat) + Int.toNat (0 : Int))
    (.req (List.length ([] ++ gA s x r.p (Int.toNat (r.f - (0 : Int))) (0 : Int)) = List.length ([] ++ gA s x r.p (Int.toNat (r.f - (0 : Int))) (0 : Int)))
    (.req (((sErr s = (0 : Int) ∧ okK x) ∧ (0 : Int) ≤ r.p ∧ r.p ≤ (60 : Int)) ∧ ((1 : Int) ≤ (1 : Int) ∧ (1 : Int) ≤ s.Hold + (1 : Int) ∧ (0 : Int) ≤ r.f ∧ r.f ≤ (200 : Int)) ∧ List.length ([] ++ gA s x r.p (Int.toNat (r.f - (0 : Int))) (0 : Int)) ≤ (2000 : Nat) + Int.toNat (1 : Int))
    (.req (List.length ([] ++ gA s x r.p (Int.toNat (r.f - (0 : Int))) (0 : Int) ++ gB s x r.p r.f (Int.toNat (s.Hold - ((1 : Int) - (1 : Int)))) ((1 : Int) - (1 : Int))) = List.length ([] ++ gA s x r.p (Int.toNat (r.f - (0 : Int))) (0 : Int) ++ gB s x r.p r.f (Int.toNat (s.Hold - ((1 : Int) - (1 : Int)))) ((1 : Int) - (1 : Int))))
    (.leaf (.tup [.sl (60 : Nat) ([] ++ gA s x r.p (Int.toNat (r.f - (0 : Int))) (0 : Int) ++ gB s x r.p r.f (Int.toNat (s.Hold - ((1 : Int) - (1 : Int)))) ((1 : Int) - (1 : Int))) false, .bool (true)])))))) : Tree (AV T)).holds fun v => v = slA s x r := by
  have q4 : 1 ≤ s.Hold ∧ s.Hold ≤ 8 := (sErr_zero.1 h.1).2.2.2.2.2.2.2
  have e : IntKind.wrap IntKind.i64 (r.f + s.Hold) = r.f + s.Hold := i64_in' (by omega) (by omega)
  rw [e]
  refine way (fun k => sl_no fun c => by omega) fun k => ?_
  exact ⟨⟨⟨h, b.1⟩, ⟨by decide, b.2.1, by omega⟩, by omega⟩, rfl, ⟨⟨h, b.1⟩, ⟨by decide, by omega, b.2.1, by omega⟩, by rw [List.nil_append, gA_len]; omega⟩, rfl, sl_yes (s := s) (x := x) (r := r) (by omega)⟩
theorem sl_out {s : Sensor} {x : Kick} (h : ltB s x = false) : (AV.tup [.sl 60 [] false, .bool false] : AV T) = .tup [.sl 60 (slL s x) false, .bool (slB s x)] := by
  have e : slB s x = false := by unfold slB; rw [h]; rfl
  unfold slL
  rw [e, if_neg (by decide)]
  rfl
theorem sl_in {s : Sensor} {x : Kick} (h : ltB s x = true) : slA s x (wst s x) = (.tup [.sl 60 (slL s x) false, .bool (slB s x)] : AV T) := by
  have e : slB s x = decide ((wst s x).f + s.Hold ≤ 200) := by unfold slB; rw [h]; rfl
  unfold slL slA slR
  rw [e]
  by_cases c : (wst s x).f + s.Hold ≤ 200
  · rw [if_pos c, if_pos (decide_eq_true c)]
  · rw [if_neg c, if_neg (by rw [decide_eq_false c]; decide)]
theorem ltB_no {s : Sensor} {x : Kick} (h : ¬ okB s x) : ltB s x = false := if_neg h
theorem s49 (s : Sensor) (x : Kick) : (runN ctSl (llOfN Try.prog E 49 0 [(9, cPa), (14, cPb)]) [60] 49 [s.av, x.av] [40, 4]).holds fun v => v = .tup [.sl 60 (slL s x) false, .bool (slB s x)] := by
  rw [tv49]
  refine wayEq (fun h => wayNEq (fun k => sl_out (ltB_no fun c => k c.2)) fun k => ?_) fun h => sl_out (ltB_no fun c => h c.1)
  have o : okB s x := ⟨h, k⟩
  have v : sErr s = 0 ∧ okK x := ⟨h, kErr_zero.1 k⟩
  refine ⟨v, wayB (fun f => ?_) fun f => ?_⟩
  · have f : (!fnd s x) = true := f
    exact sl_out (by rw [late_b o]; revert f; cases fnd s x <;> simp)
  · have f : (!fnd s x) = false := f
    have f : fnd s x = true := by revert f; cases fnd s x <;> simp
    have e : fdR s x = wst s x := by
      have f2 := f
      rw [fnd_eq, Bool.and_eq_true] at f2
      unfold fdR
      rw [if_pos f2.1]
    rw [← sl_in (by rw [late_b o]; exact f), ← e]
    exact sl49 s x (fdR s x) v (by rw [e]; exact wst_pf h f)
theorem s50 (s : Sensor) (x : Kick) : (runN ctSl (llOfN Try.prog E 50 0 [(9, cRa), (13, cRb)]) [60] 50 [s.av, x.av] [40, 4]).holds fun v => v = .tup [.sl 60 (slL s x) false, .bool (slB s x)] := by
  rw [tv50]
  refine wayB (fun f => ?_) fun f => ?_
  · have f : (!ltB s x) = true := f
    exact sl_out (by revert f; cases ltB s x <;> simp)
  · have f : (!ltB s x) = false := f
    have f : ltB s x = true := by revert f; cases ltB s x <;> simp
    have o : okB s x := by
      apply Classical.byContradiction
      intro c
      rw [ltB_no c] at f
      cases f
    have g : fnd s x = true := by rw [← late_b o]; exact f
    have e : woR s x = wst s x := if_pos g
    have v : sErr s = 0 ∧ okK x := ⟨o.1, kErr_zero.1 o.2⟩
    rw [← sl_in f, ← e]
    exact ⟨v, sl50 s x (woR s x) v (by rw [e]; exact wst_pf o.1 g)⟩
noncomputable def cSlow : Con T := conPN Try.prog [shSe, shK] [.n, .n, .n, .n, .n, .n, .n, .n, .n, .n] (fun _ => True) fun d => .tup [.sl 60 (slL ⟨d.1, d.2.1, d.2.2.1, d.2.2.2.1, d.2.2.2.2.1, d.2.2.2.2.2.1, d.2.2.2.2.2.2.1, d.2.2.2.2.2.2.2.1⟩ ⟨d.2.2.2.2.2.2.2.2.1, d.2.2.2.2.2.2.2.2.2.1⟩) false, .bool (slB ⟨d.1, d.2.1, d.2.2.1, d.2.2.2.1, d.2.2.2.2.1, d.2.2.2.2.2.1, d.2.2.2.2.2.2.1, d.2.2.2.2.2.2.2.1⟩ ⟨d.2.2.2.2.2.2.2.2.1, d.2.2.2.2.2.2.2.2.2.1⟩)]
theorem slow_ok : ConOk Try.prog E 49 cSlow := conPN_ok fun d _ => factN_run ctSl_ok ll49 fl60 (ts := [40, 4]) rfl (s49 ⟨d.1, d.2.1, d.2.2.1, d.2.2.2.1, d.2.2.2.2.1, d.2.2.2.2.2.1, d.2.2.2.2.2.2.1, d.2.2.2.2.2.2.2.1⟩ ⟨d.2.2.2.2.2.2.2.2.1, d.2.2.2.2.2.2.2.2.2.1⟩)
theorem slow2_ok : ConOk Try.prog E 50 cSlow := conPN_ok fun d _ => factN_run ctSl_ok ll50 fl60 (ts := [40, 4]) rfl (s50 ⟨d.1, d.2.1, d.2.2.1, d.2.2.2.1, d.2.2.2.2.1, d.2.2.2.2.2.1, d.2.2.2.2.2.2.1, d.2.2.2.2.2.2.2.1⟩ ⟨d.2.2.2.2.2.2.2.2.1, d.2.2.2.2.2.2.2.2.2.1⟩)
/-! ### equal samples -/
noncomputable def sa (l : List Sample) (i : Int) : Sample := ixD E 60 l i
noncomputable def oSm (l : List Sample) (m : List Sample) (i : Int) : Tree (Ex × List (V T)) := .req (m = l ∧ 0 ≤ i ∧ l.length ≤ 1000) (.leaf (.exit 0, []))
noncomputable def cSm : LoopC T := ⟨[.l 60, .l 60, .n], ⟨26, [(0, .one (.s 60)), (1, .one (.s 60)), (5, .one (.i .i64))], []⟩, fun e => match e with
    | .ret => ⟨26, [(4, .one .b)], []⟩
    | _ => ⟨26, [], []⟩, 30, fun d => oSm d.1 d.2.1 d.2.2.1⟩
theorem bSm (l : List Sample) (m : List Sample) (i : Int) : bodyD Try.prog E cSm 0 (bodyX Try.prog E ([] : CTab T) noLoops 1000 5 L0 (lpOf Try.prog 42 0)) (l, m, i, ()) =
  (.br (decide (i < (↑(List.length l) : Int)))
   (.req ((decide ((0 : Int) ≤ i) && decide (i < (↑(List.length l) : Int))) = true)
   (.req ((decide ((0 : Int) ≤ i) && decide (i < (↑(List.length m) : Int))) = true)
   (.br (!(Sample.Sensor (sa l i) == Sample.Sensor (sa m i) && (Sample.Tick (sa l i) == Sample.Tick (sa m i) && (Sample.Value (sa l i) == Sample.Value (sa m i) && true))))
    (.leaf (.inr (.ret, [.t (false)])))
    (.leaf (.inl (l, (m, (IntKind.wrap IntKind.i64 (i + (1 : Int)), ()))))))))
   (.leaf (.inr (.exit (0 : Nat), [])))) := by kernel_rfl
theorem nSm (l : List Sample) (m : List Sample) (i : Int) (K : Ex × List (V T) → Prop) (hI : m = l ∧ 0 ≤ i ∧ l.length ≤ 1000) (hK : (.leaf (.exit 0, []) : Tree (Ex × List (V T))).holds K) : (cSm.out (l, m, i, ())).holds K := ⟨hI, hK⟩
theorem hSm' (l : List Sample) (m : List Sample) (i : Int) (K : Ex × List (V T) → Prop) (hI : m = l ∧ 0 ≤ i ∧ l.length ≤ 1000) (hK : (.leaf (.exit 0, []) : Tree (Ex × List (V T))).holds K) :
    (bodyD Try.prog E cSm 0 (bodyX Try.prog E ([] : CTab T) noLoops 1000 5 L0 (lpOf Try.prog 42 0)) (l, m, i, ())).holds fun y => match y with
    | .inl d => ((d.2.1.length : Int) - d.2.2.1).toNat < ((m.length : Int) - i).toNat ∧ (cSm.out d).holds K
    | .inr y => K y := by
  rw [bSm]
  obtain ⟨rfl, h0, hl⟩ := hI
  refine way (fun c => wayC h0 c fun _ _ => wayC h0 c fun _ _ => ?_) fun c => hK
  have e2 : IntKind.wrap IntKind.i64 (i + 1) = i + 1 := i64_in' (by omega) (by omega)
  rw [e2]
  have g1 : (0 : Int) ≤ i + 1 := by omega
  have g2 : ((m.length : Int) - (i + 1)).toNat < ((m.length : Int) - i).toNat := by omega
  exact wayB (fun k => absurd k (by simp)) fun k => ⟨g2, ⟨rfl, g1, hl⟩, hK⟩
theorem hSm : LoopH Try.prog E cSm 0 (bodyX Try.prog E ([] : CTab T) noLoops 1000 5 L0 (lpOf Try.prog 42 0)) :=
  ⟨fun d => ((d.2.1.length : Int) - d.2.2.1).toNat, fun dd K hK => by
    obtain ⟨l, m, i, ⟨⟩⟩ := dd
    obtain ⟨hI, hK⟩ := hK
    refine Tree.holds_mono (fun y hy => ?_) (hSm' l m i K hI hK)
    cases y with
    | inl d' => exact hy
    | inr y => exact hy⟩
theorem llSm : LLOk Try.prog E (llOfN Try.prog E 42 0 [(4, cSm)]) := llOfN_ok fun i hi c hc => by
  have hi : i < 1 := hi
  obtain rfl : i = 0 := by omega
  obtain rfl : cSm = c := Option.some.inj hc
  exact LSndN.mk good names mixes (.nil) (by decide) hSm
theorem tvSm (l m : List Sample) : runX ([] : CTab T) (llOfN Try.prog E 42 0 [(4, cSm)]) 42 [.sl 60 l false, .sl 60 m false] [4] =
  (.br ((↑(List.length l) : Int) != (↑(List.length m) : Int))
   (.leaf (.bool (false)))
   (.req (m = l ∧ (0 : Int) ≤ (0 : Int) ∧ List.length l ≤ (1000 : Nat))
   (.leaf (.bool (true))))) := by kernel_rfl
theorem s42 (l m : List Sample) (h : m = l ∧ l.length ≤ 1000) : (runX ([] : CTab T) (llOfN Try.prog E 42 0 [(4, cSm)]) 42 [.sl 60 l false, .sl 60 m false] [4]).holds fun v => v = .bool true := by
  rw [tvSm]
  obtain ⟨rfl, h⟩ := h
  exact wayNe (fun k => absurd rfl k) fun _ => ⟨⟨rfl, by decide, h⟩, rfl⟩
noncomputable def cSameSm : Con T := conP Try.prog [.one (.s 60), .one (.s 60)] [.l 60, .l 60] (fun d => (d.2.1 : List Sample) = d.1 ∧ (d.1 : List Sample).length ≤ 1000) fun d => .bool true
theorem sameSm_ok : ConOk Try.prog E 42 cSameSm := conP_ok fun d hd => fact_run .nil llSm (ts := [4]) rfl (s42 d.1 d.2.1 hd)
end Go.Proofs.Ytdclipcjlimdoaa.W
