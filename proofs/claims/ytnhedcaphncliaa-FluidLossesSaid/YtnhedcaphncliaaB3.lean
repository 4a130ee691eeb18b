/- Numbers by their digits: contracts of products, sums, and which is greater. No condition. -/
import Derived.Test.YtnhedcaphncliaaB2
set_option linter.unusedVariables false
set_option maxRecDepth 100000
set_option maxHeartbeats 4000000
noncomputable section
namespace Go.Proofs.Ytnhedcaphncliaa.W.Big
open Go Go.Cx Go.RowKit
theorem dg_1 : Dg [1] := fun d h => by
  obtain rfl : d = 1 := by simpa using h
  decide
theorem sBP (l : List Int) (h : okF l ∧ l.length ≤ 20) : (runN ([] : CTab T) (llOfN Try.prog E 98 0 [(3, cBo), (8, cBi)]) [2] 98 [.sl 2 l false] [116]).holds fun v => v = .sl 2 (prodL l [1]) false := by
  rw [tvBP]
  exact ⟨⟨⟨⟨dg_1, h.1⟩, by decide, by omega⟩, by decide, by omega⟩, rfl, rfl⟩
theorem sBA (x y : List Int) (h : (Dg x ∧ Dg y) ∧ x.length ≤ 500 ∧ y.length ≤ 500) : (runN ([] : CTab T) (llOfN Try.prog E 99 0 [(4, cBa)]) [2] 99 [.sl 2 x false, .sl 2 y false] [116]).holds fun v => v = .sl 2 (addD x y 0) false := by
  rw [tvBA]
  have a := (addD_ok (c := 0) h.1.1 h.1.2 (by decide)).2.2
  exact ⟨⟨⟨h.1, by decide⟩, ⟨by decide, by omega, by omega, by decide⟩, by show 0 + (addD x y 0).length ≤ 3000; omega⟩, rfl, rfl⟩
noncomputable def mxL (x y : List Int) : Int := if (y.length : Int) > (x.length : Int) then (y.length : Int) else (x.length : Int)
theorem sBG (x y : List Int) (h : (Dg x ∧ Dg y) ∧ x.length ≤ 1000 ∧ y.length ≤ 1000) : (runN ([] : CTab T) (llOfN Try.prog E 100 0 [(2, cBg)]) [] 100 [.sl 2 x false, .sl 2 y false] [4]).holds fun v => v = .bool (decide (val y ≤ val x)) := by
  rw [tvBG]
  have b : 0 ≤ mxL x y ∧ mxL x y ≤ 1000 ∧ (x.length : Int) ≤ mxL x y ∧ (y.length : Int) ≤ mxL x y := by unfold mxL; split <;> omega
  have m : ∀ z, z = IntKind.wrap IntKind.i64 (mxL x y - 1) → (Tree.req (((x.length ≤ 2000 ∧ y.length ≤ 2000) ∧ (-1 : Int) ≤ z ∧ z ≤ 2000)) (.br (deN x y (z + 1).toNat) (.leaf (.bool (geN x y (z + 1).toNat))) (.leaf (.bool true))) : Tree (AV T)).holds fun v => v = .bool (decide (val y ≤ val x)) := by
    intro z hz
    rw [i64_in' (n := mxL x y - 1) (by omega) (by omega)] at hz
    have e : (z + 1).toNat = (mxL x y).toNat := by omega
    rw [e]
    have g : geN x y (mxL x y).toNat = decide (val y ≤ val x) := by
      rw [geN_ok h.1.1 h.1.2, vN_val (x := x) (by omega), vN_val (x := y) (by omega)]
    refine ⟨⟨by omega, by omega, by omega⟩, wayB (fun _ => congrArg AV.bool g) fun k => ?_⟩
    rw [ge_of_de _ k] at g
    exact congrArg AV.bool g
  exact m _ rfl
noncomputable def cBP : Con T := conPX Try.prog E [.one (.s 2)] [.l 2] (fun d => okF d.1 ∧ (d.1 : List Int).length ≤ 20) fun d => .sl 2 (prodL d.1 [1]) false
noncomputable def cBA : Con T := conPX Try.prog E [.one (.s 2), .one (.s 2)] [.l 2, .l 2] (fun d => (Dg d.1 ∧ Dg d.2.1) ∧ (d.1 : List Int).length ≤ 500 ∧ (d.2.1 : List Int).length ≤ 500) fun d => .sl 2 (addD d.1 d.2.1 0) false
noncomputable def cBG : Con T := conPX Try.prog E [.one (.s 2), .one (.s 2)] [.l 2, .l 2] (fun d => (Dg d.1 ∧ Dg d.2.1) ∧ (d.1 : List Int).length ≤ 1000 ∧ (d.2.1 : List Int).length ≤ 1000) fun d => .bool (decide (val d.2.1 ≤ val d.1))
theorem bP_ok : ConOk Try.prog E 98 cBP := conPX_ok fun d hd => factN_run .nil llBo fl2 (ts := [116]) rfl (sBP d.1 hd)
theorem bA_ok : ConOk Try.prog E 99 cBA := conPX_ok fun d hd => factN_run .nil llBa fl2 (ts := [116]) rfl (sBA d.1 d.2.1 hd)
theorem bG_ok : ConOk Try.prog E 100 cBG := conPX_ok fun d hd => factN_run .nil llBg flN (ts := [4]) rfl (sBG d.1 d.2.1 hd)
noncomputable def ctB : CTab T := [(98, cBP), (99, cBA), (100, cBG)]
theorem ctB_ok : CTabOk Try.prog E ctB := .cons bP_ok (.cons bA_ok (.cons bG_ok .nil))
theorem prod_val {l : List Int} (h : okF l) : val (prodL l [1]) = pr l := by
  rw [prodL_val h dg_1]
  show (1 + 1000000 * 0) * pr l = pr l
  omega
theorem okF_cons {f : Int} {l : List Int} (h : 0 ≤ f ∧ f ≤ 1099511627776) (k : okF l) : okF (f :: l) := fun g hg => by
  cases hg with
  | head => exact h
  | tail _ hg => exact k g hg
theorem okF_nil : okF [] := fun g hg => (by cases hg)
theorem prod_dg {l : List Int} (h : okF l) : Dg (prodL l [1]) ∧ (prodL l [1]).length ≤ 1 + 4 * l.length := prodL_ok h dg_1
theorem add_val {x y : List Int} (hx : Dg x) (hy : Dg y) : Dg (addD x y 0) ∧ val (addD x y 0) = val x + val y ∧ (addD x y 0).length ≤ x.length + y.length + 1 := by
  have a := addD_ok (c := 0) hx hy (by decide)
  exact ⟨a.1, by omega, a.2.2⟩
end Go.Proofs.Ytnhedcaphncliaa.W.Big
