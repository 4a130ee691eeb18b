/- The statement of PathAlong, out of what its call is known to answer. -/
import Derived.Test.YtmnhfjhlfgebiaaTy
import Derived.ProofKit
import Derived.OpenShut
import Derived.JoinedCond
noncomputable section
namespace Go.Proofs.Ytmnhfjhlfgebiaa.W
open Go Go.Cx Go.RowKit Go.ChangeShapes Go.WideShapes Go.ChangeAt
set_option linter.unusedVariables false
set_option maxRecDepth 100000 in
theorem pathAlong_contract (h : ∀ (a0 : List Int) (a1 : Int) (a2 : Int), ((∀ y ∈ a0, InK .i64 (y)) ∧ (a0).length ≤ maxLen) → InK .i64 (a1) → InK .i64 (a2) → Fact Try.prog E 12 [.sl 3 a0 false, .sym .i64 a1, .sym .i64 a2] (.bool true)) (H : Type) (enc : TypeId × Value → H) (W : World) (base : Nat) (args : Array Value) (ds gs : List (DataW H)) (before : List MemPlace)
    (hval : ∀ (j : Nat) t v, Try.f12.params[j]? = some t → args[j]? = some v → Value.okWide Try.prog W .any base t v)
    (hW : DataW.Whole enc Try.prog Try.f12.params.toList Rows.pathAlongSpec.vars false W args.toList ds gs before) :
    Calls Try.prog 12 args W fun e W' => ∃ v, e = .returned v ∧ Rows.pathAlongSpec.post enc Try.prog Try.f12 false true false false W args v W' := by
  have hW' := hW
  have hlt := hW.lt
  obtain ⟨p, q, hA0, hV, rfl, hfz, hnd⟩ := hW
  have hA : DataW.TrodAll enc Try.prog W 0 (fun _ => true) true Try.f12.params.toList args.toList ds p := hA0
  have hAA := hA
  rw [Try.params12] at hA hval
  obtain ⟨v0, vs0, d0, ds0, p0, q0, hargs, rfl, rfl, h0, r0⟩ := trodAll_cons hA
  obtain ⟨v1, vs1, d1, ds1, p1, q1, rfl, rfl, rfl, h1, r1⟩ := trodAll_cons r0
  obtain ⟨v2, vs2, d2, ds2, p2, q2, rfl, rfl, rfl, h2, r2⟩ := trodAll_cons r1
  obtain ⟨rfl, rfl, rfl⟩ := trodAll_nil r2
  obtain rfl : args = #[v0, v1, v2] := by cases args; simp_all
  obtain ⟨rfl, rfl⟩ := trodVars_none hV
  obtain ⟨a0, k0, l0⟩ := (rdA_one (E := E) (by kernel_rfl) (rdT_slice good Try.underlying42 rfl read3)) H enc base v0 d0 p0 (hval 0 42 v0 rfl rfl) h0
  obtain ⟨a1, k1, l1⟩ := (rdA_one (E := E) (by kernel_rfl) (rdT_int Try.underlying2)) H enc base v1 d1 p1 (hval 1 2 v1 rfl rfl) h1
  obtain ⟨a2, k2, l2⟩ := (rdA_one (E := E) (by kernel_rfl) (rdT_int Try.underlying2)) H enc base v2 d2 p2 (hval 2 2 v2 rfl rfl) h2
  simp only [List.append_nil] at hW' hlt
  refine (law_run (h a0 a1 a2 k0 k1 k2) (show LR Try.prog E W (fun _ => False) (fun _ => none) _ [v0, v1, v2] from (LR.cons l0 (LR.cons l1 (LR.cons l2 LR.nil))))).mono fun e W' ⟨he, hg⟩ => ?_
  subst he
  have again : ∀ sp : Nat → Bool, (∀ p : MemPlace, p ∈ _ → sp p.block = true) → DataW.TrodAll enc Try.prog W' 0 sp true Try.f12.params.toList _ _ _ := fun sp hs => trodAll_kept hg kids fullS (by rw [Try.params12]; decide +kernel) hAA (fun p hp => hlt p (by simpa using hp)) hs
  exact ⟨_, rfl, post_old (pv := []) hW' (fun _ _ _ => trodAll_cons_mk (shut_bool Try.underlying4 _) trodAll_mk0) (fun sp hs => again sp (fun p hp => hs p (by simpa using hp))) (fun _ _ => rfl) (by simp) hg (ok_one (by kernel_rfl) rfl (okWide_bool_mk Try.underlying4 _))⟩

set_option maxRecDepth 100000 in
theorem pathAlong_lifted (h : ∀ (a0 : List Int) (a1 : Int) (a2 : Int), ((∀ y ∈ a0, InK .i64 (y)) ∧ (a0).length ≤ maxLen) → InK .i64 (a1) → InK .i64 (a2) → Fact Try.prog E 12 [.sl 3 a0 false, .sym .i64 a1, .sym .i64 a2] (.bool true)) (os : Os) (started : os.Started) (H : Type) (enc : TypeId × Value → H) :
    ReturnsInHanded {} Try.checked os 12 .any (Rows.pathAlongSpec.pre6 enc Try.prog Try.f12 Rows.pathAlongRow.domain false) (Rows.pathAlongSpec.post enc Try.prog Try.f12 false true false false) := by
  refine returnsInHanded_of_change (C := Try.checked) own started (by kernel_rfl) Try.func12
    (ChangeSpec.witness6 (enc := enc) (C := Try.checked) false ⟨#[], #[.slice none 0 0, .int .i64 0, .int .i64 0], []⟩ 8 (by kernel_rfl) (by kernel_rfl) (by kernel_rfl) (by kernel_rfl)) ?_
  intro W base args ds gs before hval hW _ _
  exact pathAlong_contract h H enc W base args ds gs before hval hW

set_option maxRecDepth 100000 in
theorem pathAlong_said (h : ∀ (a0 : List Int) (a1 : Int) (a2 : Int), ((∀ y ∈ a0, InK .i64 (y)) ∧ (a0).length ≤ maxLen) → InK .i64 (a1) → InK .i64 (a2) → Fact Try.prog E 12 [.sl 3 a0 false, .sym .i64 a1, .sym .i64 a2] (.bool true)) : Rows.PathAlongSaid :=
  OpenClaim.holds_of_wide 12 Try.f12 rfl rfl rfl rfl rfl rfl rfl ⟨rfl, rfl, rfl, rfl, rfl⟩ rfl rfl rfl rfl rfl (by kernel_rfl) Try.func12 (by kernel_rfl)
    (of_decide_eq_true (by kernel_rfl)) (by unfold Func.isWrapper; first | (rw [if_pos (by decide +kernel)]; kernel_rfl) | (rw [if_neg (by decide +kernel)]; exact ⟨rfl, rfl⟩))
    (fun os started H enc _ => pathAlong_lifted h os started H enc)
end Go.Proofs.Ytmnhfjhlfgebiaa.W
