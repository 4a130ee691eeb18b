/- FluidPumps. No condition. -/
import Derived.Test.YtnhedcaphncliaaH4
import Derived.Test.YtnhedcaphncliaaW
import Derived.Test.YtnhedcaphncliaaLFluidPumps
set_option linter.unusedVariables false
set_option maxRecDepth 100000
set_option maxHeartbeats 4000000
noncomputable section
namespace Go.Proofs.Ytnhedcaphncliaa.W
open Go Go.Cx Go.RowKit Hole
noncomputable def ctPu : CTab T := (38, cPump) :: (39, cPump) :: (19, cAwake) :: (999983, cFz) :: ctC
theorem ctPu_ok : CTabOk Try.prog E ctPu := .cons pump_ok (.cons pump2_ok (.cons awake_ok (.cons cFz_ok ctC_ok)))
theorem tv6 (h : List Seg) (l : List Slug) (a b : Int) : runX ctPu noLoops 6 [.agg [.sl 52 h false], .sl 47 l false, .agg [i64 a, i64 b]] [4] =
  (.br (decide ((↑(List.length h) : Int) > (18 : Int)))
   (.leaf (.bool (true)))
   (.br (decide ((↑(List.length l) : Int) > (26 : Int)))
    (.leaf (.bool (true)))
    (.req ((0 : Nat) + List.length l ≤ (1073741824 : Nat))
    (.req (List.length ([] ++ l) = List.length ([] ++ l))
    (.req (inLg h ∧ inVm ([] ++ l))
    (.req (inLg h ∧ inVm l)
    (.br (pmE h ([] ++ l) a b == pmE h l a b)
     (.req (pmA h l a b = pmA h ([] ++ l) a b ∧ List.length (pmA h ([] ++ l) a b) ≤ (1000 : Nat))
     (.br (true)
      (.req (pmB h l a b = pmB h ([] ++ l) a b ∧ List.length (pmB h ([] ++ l) a b) ≤ (1000 : Nat))
      (.br (true)
       (.req (l = [] ++ l ∧ List.length ([] ++ l) ≤ (1000 : Nat))
       (.br (true)
        (.leaf (.bool (true)))
        (.leaf (.bool (false)))))
       (.leaf (.bool (false)))))
      (.leaf (.bool (false)))))
     (.leaf (.bool (false)))))))))) := by kernel_rfl
theorem s6 (h : List Seg) (l : List Slug) (a b : Int) (h1 : inLg h) (h2 : inVm l) : (runX ctPu noLoops 6 [.agg [.sl 52 h false], .sl 47 l false, .agg [i64 a, i64 b]] [4]).holds fun v => v = .bool true := by
  rw [tv6]
  simp only [List.nil_append]
  have hA : l.length ≤ 26 → (pmA h l a b).length ≤ 1000 ∧ (pmB h l a b).length ≤ 1000 := fun hl => by
    unfold pmA pmB
    have q1 := plz_len (⟨a, b⟩ :: pmN l (wr (vol h - b))) []
    have q2 := plz_len (pmO l (wr (vol h - b))) []
    simp only [List.length_cons, List.length_nil, len_pmN] at q1
    simp only [List.length_nil, len_pmO] at q2
    constructor <;> split <;> first | omega | simp
  refine way (fun _ => rfl) fun c => way (fun _ => rfl) fun c2 => ⟨by omega, trivial, ⟨h1, h2⟩, ⟨h1, h2⟩, wayEq (fun _ => ⟨⟨trivial, (hA (by omega)).1⟩, wayB (fun _ => ⟨⟨trivial, (hA (by omega)).2⟩, wayB (fun _ => ⟨⟨trivial, by omega⟩, wayB (fun _ => rfl) (no_way rfl)⟩) (no_way rfl)⟩) (no_way rfl)⟩) fun k => absurd rfl k⟩
theorem fluidPumps_proved : Rows.FluidPumpsSaid := fluidPumps_said fun h l s hh hl _ => fact_run ctPu_ok noLoops_ok (ts := [4]) rfl (s6 h.Segs l s.Weight s.Volume (fun s hs => (hh.1.1 s hs).1.2) fun s hs => (hl.1 s hs).2.1.2)
end Go.Proofs.Ytnhedcaphncliaa.W
