/- The statement of PathPlaces, out of what its call is known to answer. -/
import Derived.Test.YtmnhfjhlfgebiaaTy
import Derived.ProofKit
import Derived.OpenShut
import Derived.JoinedCond
noncomputable section
namespace Go.Proofs.Ytmnhfjhlfgebiaa.W
open Go Go.Cx Go.RowKit Go.ChangeShapes Go.WideShapes Go.ChangeAt
set_option linter.unusedVariables false
set_option maxRecDepth 100000 in
theorem pathPlaces_contract (h : ∀ (a0 : Path) (a1 : List Int) (a2 : List Int), Path.ok a0 → ((∀ y ∈ a1, InK .i64 (y)) ∧ (a1).length ≤ maxLen) → ((∀ y ∈ a2, InK .i64 (y)) ∧ (a2).length ≤ maxLen) → Fact Try.prog E 4 [Path.av a0, .sl 2 a1 false, .sl 3 a2 false] (.bool true)) (H : Type) (enc : TypeId × Value → H) (W : World) (base : Nat) (args : Array Value) (ds gs : List (DataW H)) (before : List MemPlace)
    (hval : ∀ (j : Nat) t v, Try.f4.params[j]? = some t → args[j]? = some v → Value.okWide Try.prog W .any base t v)
    (hW : DataW.Whole enc Try.prog Try.f4.params.toList Rows.pathPlacesSpec.vars false W args.toList ds gs before) :
    Calls Try.prog 4 args W fun e W' => ∃ v, e = .returned v ∧ Rows.pathPlacesSpec.post enc Try.prog Try.f4 false true false false W args v W' := by
  have hW' := hW
  have hlt := hW.lt
  obtain ⟨p, q, hA0, hV, rfl, hfz, hnd⟩ := hW
  have hA : DataW.TrodAll enc Try.prog W 0 (fun _ => true) true Try.f4.params.toList args.toList ds p := hA0
  have hAA := hA
  rw [Try.params4] at hA hval
  obtain ⟨v0, vs0, d0, ds0, p0, q0, hargs, rfl, rfl, h0, r0⟩ := trodAll_cons hA
  obtain ⟨v1, vs1, d1, ds1, p1, q1, rfl, rfl, rfl, h1, r1⟩ := trodAll_cons r0
  obtain ⟨v2, vs2, d2, ds2, p2, q2, rfl, rfl, rfl, h2, r2⟩ := trodAll_cons r1
  obtain ⟨rfl, rfl, rfl⟩ := trodAll_nil r2
  obtain rfl : args = #[v0, v1, v2] := by cases args; simp_all
  obtain ⟨rfl, rfl⟩ := trodVars_none hV
  obtain ⟨a0, k0, l0⟩ := (rdA_struct Try.underlying26 readC26) H enc base v0 d0 p0 (hval 0 26 v0 rfl rfl) h0
  obtain ⟨a1, k1, l1⟩ := (rdA_one (E := E) (by kernel_rfl) (rdT_slice good Try.underlying41 rfl read2)) H enc base v1 d1 p1 (hval 1 41 v1 rfl rfl) h1
  obtain ⟨a2, k2, l2⟩ := (rdA_one (E := E) (by kernel_rfl) (rdT_slice good Try.underlying42 rfl read3)) H enc base v2 d2 p2 (hval 2 42 v2 rfl rfl) h2
  simp only [List.append_nil] at hW' hlt
  refine (law_run (h a0 a1 a2 k0 k1 k2) (show LR Try.prog E W (fun _ => False) (fun _ => none) _ [v0, v1, v2] from (LR.cons l0 (LR.cons l1 (LR.cons l2 LR.nil))))).mono fun e W' ⟨he, hg⟩ => ?_
  subst he
  have again : ∀ sp : Nat → Bool, (∀ p : MemPlace, p ∈ _ → sp p.block = true) → DataW.TrodAll enc Try.prog W' 0 sp true Try.f4.params.toList _ _ _ := fun sp hs => trodAll_kept hg kids fullS (by rw [Try.params4]; decide +kernel) hAA (fun p hp => hlt p (by simpa using hp)) hs
  exact ⟨_, rfl, post_old (pv := []) hW' (fun _ _ _ => trodAll_cons_mk (shut_bool Try.underlying4 _) trodAll_mk0) (fun sp hs => again sp (fun p hp => hs p (by simpa using hp))) (fun _ _ => rfl) (by simp) hg (ok_one (by kernel_rfl) rfl (okWide_bool_mk Try.underlying4 _))⟩

set_option maxRecDepth 100000 in
theorem pathPlaces_lifted (h : ∀ (a0 : Path) (a1 : List Int) (a2 : List Int), Path.ok a0 → ((∀ y ∈ a1, InK .i64 (y)) ∧ (a1).length ≤ maxLen) → ((∀ y ∈ a2, InK .i64 (y)) ∧ (a2).length ≤ maxLen) → Fact Try.prog E 4 [Path.av a0, .sl 2 a1 false, .sl 3 a2 false] (.bool true)) (os : Os) (started : os.Started) (H : Type) (enc : TypeId × Value → H) :
    ReturnsInHanded {} Try.checked os 4 .any (Rows.pathPlacesSpec.pre6 enc Try.prog Try.f4 Rows.pathPlacesRow.domain false) (Rows.pathPlacesSpec.post enc Try.prog Try.f4 false true false false) := by
  refine returnsInHanded_of_change (C := Try.checked) own started (by kernel_rfl) Try.func4
    (ChangeSpec.witness6 (enc := enc) (C := Try.checked) false ⟨#[], #[.agg #[.int .i64 0, .int .i64 0, .int .i64 0, .slice none 0 0], .slice none 0 0, .slice none 0 0], []⟩ 8 (by kernel_rfl) (by kernel_rfl) (by kernel_rfl) (by kernel_rfl)) ?_
  intro W base args ds gs before hval hW _ _
  exact pathPlaces_contract h H enc W base args ds gs before hval hW

set_option maxRecDepth 100000 in
theorem pathPlaces_said (h : ∀ (a0 : Path) (a1 : List Int) (a2 : List Int), Path.ok a0 → ((∀ y ∈ a1, InK .i64 (y)) ∧ (a1).length ≤ maxLen) → ((∀ y ∈ a2, InK .i64 (y)) ∧ (a2).length ≤ maxLen) → Fact Try.prog E 4 [Path.av a0, .sl 2 a1 false, .sl 3 a2 false] (.bool true)) : Rows.PathPlacesSaid :=
  OpenClaim.holds_of_wide 4 Try.f4 rfl rfl rfl rfl rfl rfl rfl ⟨rfl, rfl, rfl, rfl, rfl⟩ rfl rfl rfl rfl rfl (by kernel_rfl) Try.func4 (by kernel_rfl)
    (of_decide_eq_true (by kernel_rfl)) (by unfold Func.isWrapper; first | (rw [if_pos (by decide +kernel)]; kernel_rfl) | (rw [if_neg (by decide +kernel)]; exact ⟨rfl, rfl⟩))
    (fun os started H enc _ => pathPlaces_lifted h os started H enc)
end Go.Proofs.Ytmnhfjhlfgebiaa.W
