/- FluidHoles and FluidColumns. No condition. -/
import Derived.Test.YtnhedcaphncliaaH3
import Derived.Test.YtnhedcaphncliaaW
import Derived.Test.YtnhedcaphncliaaLFluidHoles
import Derived.Test.YtnhedcaphncliaaLFluidColumns
set_option linter.unusedVariables false
set_option maxRecDepth 100000
set_option maxHeartbeats 4000000
noncomputable section
namespace Go.Proofs.Ytnhedcaphncliaa.W
open Go Go.Cx Go.RowKit Hole
noncomputable def ctZ : CTab T := (24, cSameL) :: (31, cSameZ) :: (27, cWhr) :: (28, cWhr) :: (32, cPlz) :: (33, cPlz) :: (29, cCol) :: (30, cCol) :: (19, cAwake) :: (999983, cFz) :: ctQ
theorem ctZ_ok : CTabOk Try.prog E ctZ := .cons sameL_ok (.cons sameZ_ok (.cons whr_ok (.cons whr2_ok (.cons plz_ok (.cons plz2_ok (.cons col_ok (.cons col2_ok (.cons awake_ok (.cons cFz_ok ctQ_ok)))))))))
theorem tv3 (l : List Seg) (u : Int) : runX ctZ noLoops 3 [.agg [.sl 52 l false], i64 u] [4] =
  (.br (decide ((↑(List.length l) : Int) > (18 : Int)))
   (.leaf (.bool (true)))
   (.req (inLg l)
   (.req (inLg l)
   (.br (hE l == hE l)
    (.req (inLg l)
    (.req (inLg l)
    (.br (vol l == vol l)
     (.req (inLg l)
     (.req (inLg l)
     (.req (hl l = hl l ∧ List.length (hl l) ≤ (1000 : Nat))
     (.br (true)
      (.req (inLg l)
      (.req (inLg l)
      (.br (whr l u == whr l u)
       (.leaf (.bool (true)))
       (.leaf (.bool (false))))))
      (.leaf (.bool (false)))))))
     (.leaf (.bool (false))))))
    (.leaf (.bool (false))))))) := by kernel_rfl
theorem tv4 (h : List Seg) (l : List Slug) : runX ctZ noLoops 4 [.agg [.sl 52 h false], .sl 47 l false] [4] =
  (.br (decide ((↑(List.length h) : Int) > (18 : Int)))
   (.leaf (.bool (true)))
   (.br (decide ((↑(List.length l) : Int) > (26 : Int)))
    (.leaf (.bool (true)))
    (.req ((0 : Nat) + List.length l ≤ (1073741824 : Nat))
    (.req (List.length ([] ++ l) = List.length ([] ++ l))
    (.req (inLg h ∧ inVm ([] ++ l))
    (.req (inLg h ∧ inVm l)
    (.br (cE h ([] ++ l) == cE h l)
     (.req (List.length ([] ++ l) ≤ (100 : Nat))
     (.req (List.length l ≤ (100 : Nat))
     (.req (plz l [] = plz ([] ++ l) [] ∧ List.length (plz ([] ++ l) []) ≤ (1000 : Nat))
     (.br (true)
      (.req (l = [] ++ l ∧ List.length ([] ++ l) ≤ (1000 : Nat))
      (.br (true)
       (.leaf (.bool (true)))
       (.leaf (.bool (false)))))
      (.leaf (.bool (false)))))))
     (.leaf (.bool (false)))))))))) := by kernel_rfl
theorem s3 (l : List Seg) (u : Int) (hL : inLg l) : (runX ctZ noLoops 3 [.agg [.sl 52 l false], i64 u] [4]).holds fun v => v = .bool true := by
  rw [tv3]
  refine way (fun _ => rfl) fun c => ⟨hL, hL, wayEq (fun _ => ⟨hL, hL, wayEq (fun _ => ⟨hL, hL, ⟨rfl, ?_⟩, wayB (fun _ => ⟨hL, hL, wayEq (fun _ => rfl) fun k => absurd rfl k⟩) (no_way rfl)⟩) fun k => absurd rfl k⟩) fun k => absurd rfl k⟩
  unfold hl
  split
  · rename_i h
    have := (hE_0 h).1.2
    simp only [List.length_cons, len_kl]
    omega
  · simp
theorem s4 (h : List Seg) (l : List Slug) (h1 : inLg h) (h2 : inVm l) : (runX ctZ noLoops 4 [.agg [.sl 52 h false], .sl 47 l false] [4]).holds fun v => v = .bool true := by
  rw [tv4]
  simp only [List.nil_append]
  refine way (fun _ => rfl) fun c => way (fun _ => rfl) fun c2 => ⟨by omega, trivial, ⟨h1, h2⟩, ⟨h1, h2⟩, wayEq (fun _ => ⟨by omega, by omega, ⟨trivial, ?_⟩, wayB (fun _ => ⟨⟨trivial, by omega⟩, wayB (fun _ => rfl) (no_way rfl)⟩) (no_way rfl)⟩) fun k => absurd rfl k⟩
  have := plz_len l []
  simp only [List.length_nil] at this
  omega
theorem fluidHoles_proved : Rows.FluidHolesSaid := fluidHoles_said fun h u hh _ => fact_run ctZ_ok noLoops_ok (ts := [4]) rfl (s3 h.Segs u fun s hs => (hh.1.1 s hs).1.2)
theorem fluidColumns_proved : Rows.FluidColumnsSaid := fluidColumns_said fun h l hh hl => fact_run ctZ_ok noLoops_ok (ts := [4]) rfl (s4 h.Segs l (fun s hs => (hh.1.1 s hs).1.2) fun s hs => (hl.1 s hs).2.1.2)
end Go.Proofs.Ytnhedcaphncliaa.W
