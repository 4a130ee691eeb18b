/- The law EarthKnown returns true in every world. No condition: the run is evaluated by the kernel. -/
import Derived.Test.YtncnpgmfeneliaaEarthKnownB4
namespace Go.Proofs.Ytncnpgmfeneliaa.earthKnown
open Go.ChangeShapes Go.WideShapes Go.ChangeAt Go.RowKit Go.Bx Go.Bx.Q

set_option maxRecDepth 100000 in
/-- What the law's run gives, in any world. -/
theorem contract (run : ∀ W : World, Calls Try.prog 3 #[] W fun e W' => e = .returned (.bool true) ∧ Kept W W') (H : Type) (enc : TypeId × Value → H) (W : World) (args : Array Value) (ds gs : List (DataW H)) (before : List MemPlace)
    (hW : DataW.Whole enc Try.prog Try.f3.params.toList Rows.earthKnownSpec.vars false W args.toList ds gs before) :
    Calls Try.prog 3 args W fun e W' => ∃ v, e = .returned v ∧ Rows.earthKnownSpec.post enc Try.prog Try.f3 false true false false W args v W' := by
  have hW' := hW
  obtain ⟨p, q, hA0, hV, rfl, hfz, hnd⟩ := hW
  have hA : DataW.TrodAll enc Try.prog W 0 (fun _ => true) true Try.f3.params.toList args.toList ds p := hA0
  rw [Try.params3] at hA
  obtain ⟨hargs, rfl, rfl⟩ := trodAll_nil hA
  obtain rfl : args = #[] := by cases args; simp_all
  obtain ⟨rfl, rfl⟩ := trodVars_none hV
  clear hA0
  simp only [List.append_nil] at hW'
  refine (run W).mono fun e W' ⟨he, hg⟩ => ?_
  subst he
  exact ⟨_, rfl, post_old (pa := []) (pv := []) hW' (fun _ _ _ => trodAll_cons_mk (shut_bool Try.underlying4 _) trodAll_mk0) (fun _ _ => trodAll_mk0) (fun _ _ => rfl) rfl hg (ok_one (by kernel_rfl) rfl (okWide_bool_mk Try.underlying4 _))⟩

set_option maxRecDepth 100000 in
theorem lifted (run : ∀ W : World, Calls Try.prog 3 #[] W fun e W' => e = .returned (.bool true) ∧ Kept W W') (os : Os) (started : os.Started) (H : Type) (enc : TypeId × Value → H) :
    ReturnsInHanded {} Try.checked os 3 .any (Rows.earthKnownSpec.pre6 enc Try.prog Try.f3 Rows.earthKnownRow.domain false) (Rows.earthKnownSpec.post enc Try.prog Try.f3 false true false false) := by
  refine returnsInHanded_of_change (C := Try.checked) own started (by kernel_rfl) Try.func3
    (ChangeSpec.witness6 (enc := enc) (C := Try.checked) false ⟨#[], #[], []⟩ 8 (by kernel_rfl) (by kernel_rfl) (by kernel_rfl) (by kernel_rfl)) ?_
  intro W base args ds gs before _ hW _ _
  exact contract run H enc W args ds gs before hW

set_option maxRecDepth 100000 in
theorem said_of (run : ∀ W : World, Calls Try.prog 3 #[] W fun e W' => e = .returned (.bool true) ∧ Kept W W') : Rows.EarthKnownSaid :=
  OpenClaim.holds_of_wide 3 Try.f3 rfl rfl rfl rfl rfl rfl rfl ⟨rfl, rfl, rfl, rfl, rfl⟩ rfl rfl rfl rfl rfl (by kernel_rfl) Try.func3 (by kernel_rfl)
    (of_decide_eq_true (by kernel_rfl)) (by unfold Func.isWrapper; first | (rw [if_pos (by decide +kernel)]; kernel_rfl) | (rw [if_neg (by decide +kernel)]; exact ⟨rfl, rfl⟩))
    (fun os started H enc _ => lifted run os started H enc)
set_option maxRecDepth 100000 in
theorem runs_true : isTrue (callF Try.prog dt4 tab 2000 40 (.fn 3) [] (hp0 : Hp U)) = true := by decide +kernel
theorem proved : Rows.EarthKnownSaid := said_of (closed_trueF names mixes dt4_ok tab_ok runs_true)
end Go.Proofs.Ytncnpgmfeneliaa.earthKnown
