/- Jobs made of numbers: the numbers. No condition. -/
import Derived.Test.YtcddppakogialaaCM
import Derived.Test.YtcddppakogialaaR
import Derived.Test.YtcddppakogialaaW
import Derived.Test.YtcddppakogialaaCz10
import Derived.Test.YtcddppakogialaaCz14
set_option linter.unusedVariables false
set_option maxRecDepth 100000
set_option maxHeartbeats 4000000
noncomputable section
namespace Go.Proofs.Ytcddppakogialaa.W.Jb
open Go Go.Cx Go.RowKit
noncomputable def ni (l : List Int) (i : Int) : Int := ixD E 2 l i
noncomputable def pk (l : List Int) (i : Int) : Int := if (l.length : Int) = 0 then 0 else ni l (Int.tmod i l.length) % 1099511627776
noncomputable def ctM : CTab T := [(49, cMod)]
theorem ctM_ok : CTabOk Try.prog E ctM := .cons mod64_ok .nil
theorem tv96 (l : List Int) (i : Int) : runX ctM noLoops 96 [.sl 2 l false, i64 i] [2] =
  (.br ((↑(List.length l) : Int) == (0 : Int))
   (.leaf (.sym .i64 ((0 : Int))))
   (.req (decide ((↑(List.length l) : Int) ≠ (0 : Int)) = true)
   (.req ((decide ((0 : Int) ≤ Int.tmod i (↑(List.length l) : Int)) && decide (Int.tmod i (↑(List.length l) : Int) < (↑(List.length l) : Int))) = true)
   (.req (mPre (ni l (Int.tmod i (↑(List.length l) : Int))) (1099511627776 : Int))
   (.leaf (.sym .i64 (ni l (Int.tmod i (↑(List.length l) : Int)) % (1099511627776 : Int)))))))) := by kernel_rfl
theorem s96 (l : List Int) (i : Int) (h : 0 ≤ i) : (runX ctM noLoops 96 [.sl 2 l false, i64 i] [2]).holds fun v => v = i64 (pk l i) := by
  rw [tv96]
  unfold pk
  refine wayEq (fun c => ?_) fun c => ?_
  · rw [if_pos c]; rfl
  · have h1 := Int.tmod_nonneg (l.length : Int) h
    have h2 := Int.tmod_lt_of_pos i (b := (l.length : Int)) (by omega)
    rw [if_neg c]
    exact ⟨decide_eq_true c, by simp only [Bool.and_eq_true, decide_eq_true_eq]; omega, ⟨by decide, by decide⟩, rfl⟩
theorem pk_bd (l : List Int) (i : Int) : 0 ≤ pk l i ∧ pk l i < 1099511627776 := by
  unfold pk
  split <;> omega
noncomputable def cPk : Con T := conP Try.prog [.one (.s 2), .one (.i .i64)] [.l 2, .n] (fun d => 0 ≤ d.2.1) fun d => i64 (pk d.1 d.2.1)
theorem pk_ok : ConOk Try.prog E 96 cPk := conP_ok fun d hd => fact_run ctM_ok noLoops_ok (ts := [2]) rfl (s96 d.1 d.2.1 hd)
noncomputable def ctP : CTab T := [(49, cMod), (96, cPk)]
theorem ctP_ok : CTabOk Try.prog E ctP := .cons mod64_ok (.cons pk_ok .nil)
noncomputable def runN (ct : CTab T) (ll : Nat → Nat → LoopTab T) (fl : List Nat) (f : Nat) (xs : List (AV T)) (ts : List Nat) : Tree (AV T) := resN Try.prog fl ts (callX Try.prog E ct ll 1000 8 (.fn f) xs hp0)
theorem factN_run {ct : CTab T} (hc : CTabOk Try.prog E ct) {ll : Nat → Nat → LoopTab T} (hl : LLOk Try.prog E ll) {fl : List Nat} (hfl : ∀ τ, memN τ fl = true → ∀ x : T τ, (E.enc τ x).all ind0 = true) {f : Nat} {xs : List (AV T)} {ts : List Nat} {v : AV T} (ha : xs.all flt2 = true)
    (h : (runN ct ll fl f xs ts).holds fun x => x = v) : FactN Try.prog E f xs v :=
  factN_of_run good hfl (callX_ok good names mixes hc hl 8) ha h
theorem flK : ∀ τ, memN τ [39, 66, 2] = true → ∀ x : T τ, (E.enc τ x).all ind0 = true := fun τ h => by
  have := memN_iff.1 h
  have : τ = 39 ∨ τ = 66 ∨ τ = 2 := by simpa using this
  rcases this with rfl | rfl | rfl <;> exact fun x => rfl
--PRESS
noncomputable def pN (l : List Int) (q i : Int) : Int := pk l (q + i + 1)
noncomputable def prs (l : List Int) (q : Int) : Nat → Int → Int → List Knot
  | 0, _, _ => []
  | n + 1, i, a => if i < 1 + pk l q % 3 then ⟨a, pN l q i % 2000000000⟩ :: prs l q n (i + 1) (a + 1 + pN l q i / 3 % 150000) else []
noncomputable def oPR (R : List Knot) (l : List Int) (q : Int) (a : Int) (i : Int) : Tree (Ex × List (V T)) := .req ((0 ≤ i ∧ i ≤ 3) ∧ (0 ≤ q ∧ q ≤ 1000) ∧ (0 ≤ a ∧ a ≤ 150000 * i) ∧ (R.length : Int) ≤ i) (.leaf (.exit 0, [.l 39 (R ++ prs l q (4 - i).toNat i a)]))
noncomputable def cPR : LoopC T := ⟨[.l 39, .l 2, .n, .n, .n], ⟨40, [(0, .one (.s 2)), (1, .one (.i .i64)), (4, .one (.o 0 0)), (5, .one (.o 1 0)), (6, .one (.i .i64)), (7, .one (.i .i64))], [.c [.x], .c [.g 2 39], .l 39]⟩, fun _ => ⟨40, [(4, .one (.o 0 0)), (5, .one (.o 1 0))], [.c [.x], .c [.g 2 39], .l 39]⟩, 40, fun d => oPR d.1 d.2.1 d.2.2.1 d.2.2.2.1 d.2.2.2.2.1⟩
theorem bPR (R : List Knot) (l : List Int) (q : Int) (a : Int) (i : Int) : bodyD Try.prog E cPR 0 (bodyX Try.prog E ctP noLoops 1000 5 L0 (lpOf Try.prog 97 0)) (R, l, q, a, i, ()) =
  (.req ((0 : Int) ≤ q)
  (.br (decide (i < IntKind.wrap IntKind.i64 ((1 : Int) + Int.tmod (pk l q) (3 : Int))))
   (.req ((0 : Int) ≤ IntKind.wrap IntKind.i64 (IntKind.wrap IntKind.i64 (q + i) + (1 : Int)))
   (.req (List.length R = List.length R)
   (.req (List.length R + List.length [Knot.mk a (Int.tmod (pk l (IntKind.wrap IntKind.i64 (IntKind.wrap IntKind.i64 (q + i) + (1 : Int)))) (2000000000 : Int))] ≤ (1073741824 : Nat))
   (.req (List.length (R ++ [Knot.mk a (Int.tmod (pk l (IntKind.wrap IntKind.i64 (IntKind.wrap IntKind.i64 (q + i) + (1 : Int)))) (2000000000 : Int))]) = List.length (R ++ [Knot.mk a (Int.tmod (pk l (IntKind.wrap IntKind.i64 (IntKind.wrap IntKind.i64 (q + i) + (1 : Int)))) (2000000000 : Int))]))
   (.leaf (.inl (R ++ [Knot.mk a (Int.tmod (pk l (IntKind.wrap IntKind.i64 (IntKind.wrap IntKind.i64 (q + i) + (1 : Int)))) (2000000000 : Int))], (l, (q, (IntKind.wrap IntKind.i64 (IntKind.wrap IntKind.i64 (a + (1 : Int)) + Int.tmod (IntKind.wrap IntKind.i64 (Int.tdiv (pk l (IntKind.wrap IntKind.i64 (IntKind.wrap IntKind.i64 (q + i) + (1 : Int)))) (3 : Int))) (150000 : Int)), (IntKind.wrap IntKind.i64 (i + (1 : Int)), ())))))))))))
   (.req (List.length R = List.length R)
   (.leaf (.inr (.exit (0 : Nat), [.l (39 : Nat) (R)])))))) := by kernel_rfl
theorem nPR (R : List Knot) (l : List Int) (q : Int) (a : Int) (i : Int) (K : Ex × List (V T) → Prop) (hI : (0 ≤ i ∧ i ≤ 3) ∧ (0 ≤ q ∧ q ≤ 1000) ∧ (0 ≤ a ∧ a ≤ 150000 * i) ∧ (R.length : Int) ≤ i) (hK : (.leaf (.exit 0, [.l 39 (R ++ prs l q (4 - i).toNat i a)]) : Tree (Ex × List (V T))).holds K) : (cPR.out (R, l, q, a, i, ())).holds K := ⟨hI, hK⟩
theorem hPR' (R : List Knot) (l : List Int) (q : Int) (a : Int) (i : Int) (K : Ex × List (V T) → Prop) (hI : (0 ≤ i ∧ i ≤ 3) ∧ (0 ≤ q ∧ q ≤ 1000) ∧ (0 ≤ a ∧ a ≤ 150000 * i) ∧ (R.length : Int) ≤ i) (hK : (.leaf (.exit 0, [.l 39 (R ++ prs l q (4 - i).toNat i a)]) : Tree (Ex × List (V T))).holds K) :
    (bodyD Try.prog E cPR 0 (bodyX Try.prog E ctP noLoops 1000 5 L0 (lpOf Try.prog 97 0)) (R, l, q, a, i, ())).holds fun y => match y with
    | .inl d => (4 - d.2.2.2.2.1).toNat < (4 - i).toNat ∧ (cPR.out d).holds K
    | .inr y => K y := by
  rw [bPR]
  obtain ⟨⟨h0, h1⟩, ⟨q0, q1⟩, ⟨a0, a1⟩, lr⟩ := hI
  have k1 := pk_bd l q
  have k2 := pk_bd l (q + i + 1)
  have w1 : IntKind.wrap IntKind.i64 (1 + Int.tmod (pk l q) 3) = 1 + pk l q % 3 := by rw [Int.tmod_eq_emod_of_nonneg k1.1]; exact i64_in' (by omega) (by omega)
  have w2 : IntKind.wrap IntKind.i64 (q + i) = q + i := i64_in' (by omega) (by omega)
  have w3 : IntKind.wrap IntKind.i64 (q + i + 1) = q + i + 1 := i64_in' (by omega) (by omega)
  have w4 : Int.tmod (pk l (q + i + 1)) 2000000000 = pN l q i % 2000000000 := Int.tmod_eq_emod_of_nonneg k2.1
  have w5 : IntKind.wrap IntKind.i64 (a + 1) = a + 1 := i64_in' (by omega) (by omega)
  have w6 : IntKind.wrap IntKind.i64 (Int.tdiv (pk l (q + i + 1)) 3) = pN l q i / 3 := by rw [Int.tdiv_eq_ediv_of_nonneg k2.1]; exact i64_in' (by omega) (by omega)
  have w7 : Int.tmod (pN l q i / 3) 150000 = pN l q i / 3 % 150000 := Int.tmod_eq_emod_of_nonneg (by unfold pN; omega)
  have w8 : IntKind.wrap IntKind.i64 (a + 1 + pN l q i / 3 % 150000) = a + 1 + pN l q i / 3 % 150000 := i64_in' (by omega) (by omega)
  have w9 : IntKind.wrap IntKind.i64 (i + 1) = i + 1 := i64_in' (by omega) (by omega)
  rw [w1, w2, w3, w4, w5, w6, w7, w8, w9]
  rw [show (4 - i).toNat = (4 - (i + 1)).toNat + 1 by omega] at hK
  unfold prs at hK
  refine ⟨q0, way (fun c => ?_) fun c => ?_⟩
  · rw [if_pos c] at hK
    have ac : ∀ (X Y : List Knot) (k : Knot), X ++ k :: Y = (X ++ [k]) ++ Y := fun X Y k => by simp
    rw [ac] at hK
    have L1 : ∀ x : Knot, ((R ++ [x]).length : Int) ≤ i + 1 := fun x => by rw [List.length_append]; show ((R.length + 1 : Nat) : Int) ≤ _; omega
    have n1 : ∀ x : Knot, R.length + [x].length ≤ 1073741824 := fun x => by show R.length + 1 ≤ _; omega
    have g1 : (4 - (i + 1)).toNat < (4 - i).toNat := by omega
    have r0 : 0 ≤ q + i + 1 := by omega
    exact ⟨r0, rfl, n1 _, rfl, g1, nPR _ _ _ _ _ K ⟨⟨by omega, by omega⟩, ⟨q0, q1⟩, ⟨by omega, by omega⟩, L1 _⟩ hK⟩
  · rw [if_neg c, List.append_nil] at hK
    exact ⟨rfl, hK⟩
theorem hPR : LoopH Try.prog E cPR 0 (bodyX Try.prog E ctP noLoops 1000 5 L0 (lpOf Try.prog 97 0)) :=
  ⟨fun d => (4 - d.2.2.2.2.1).toNat, fun dd K hK => by
    obtain ⟨R, l, q, a, i, ⟨⟩⟩ := dd
    obtain ⟨hI, hK⟩ := hK
    refine Tree.holds_mono (fun y hy => ?_) (hPR' R l q a i K hI hK)
    cases y with
    | inl d' => exact hy
    | inr y => exact hy⟩
theorem llPR : LLOk Try.prog E (llOfN Try.prog E 97 0 [(4, cPR)]) := llOfN_ok fun i hi c hc => by
  have hi : i < 1 := hi
  obtain rfl : i = 0 := by omega
  obtain rfl : cPR = c := Option.some.inj hc
  exact LSndN.mk good names mixes ctP_ok (by decide) hPR
theorem tv97 (l : List Int) (q : Int) : runN ctP (llOfN Try.prog E 97 0 [(4, cPR)]) [39] 97 [.sl 2 l false, i64 q] [35] =
  (.req (((0 : Int) ≤ (0 : Int) ∧ (0 : Int) ≤ (3 : Int)) ∧ ((0 : Int) ≤ q ∧ q ≤ (1000 : Int)) ∧ ((0 : Int) ≤ (0 : Int) ∧ (0 : Int) ≤ (150000 : Int) * (0 : Int)) ∧ (↑((0 : Nat)) : Int) ≤ (0 : Int))
  (.req (List.length ([] ++ prs l q (Int.toNat ((4 : Int) - (0 : Int))) (0 : Int) (0 : Int)) = List.length ([] ++ prs l q (Int.toNat ((4 : Int) - (0 : Int))) (0 : Int) (0 : Int)))
  (.leaf (.agg [.sl (39 : Nat) ([] ++ prs l q (Int.toNat ((4 : Int) - (0 : Int))) (0 : Int) (0 : Int)) false])))) := by kernel_rfl
noncomputable def prL (l : List Int) (q : Int) : List Knot := prs l q 4 0 0
theorem s97 (l : List Int) (q : Int) (h : 0 ≤ q ∧ q ≤ 1000) : (runN ctP (llOfN Try.prog E 97 0 [(4, cPR)]) [39] 97 [.sl 2 l false, i64 q] [35]).holds fun v => v = .agg [.sl 39 (prL l q) false] := by
  rw [tv97]
  exact ⟨⟨⟨by decide, by decide⟩, h, ⟨by decide, by decide⟩, by decide⟩, rfl, rfl⟩
theorem flP : ∀ τ, memN τ [39] = true → ∀ x : T τ, (E.enc τ x).all ind0 = true := fun τ h => by
  obtain rfl : τ = 39 := by simpa using memN_iff.1 h
  exact fun x => rfl
noncomputable def cPr : Con T := conPN Try.prog [.one (.s 2), .one (.i .i64)] [.l 2, .n] (fun d => 0 ≤ d.2.1 ∧ d.2.1 ≤ 1000) fun d => .agg [.sl 39 (prL d.1 d.2.1) false]
theorem pr_ok : ConOk Try.prog E 97 cPr := conPN_ok fun d hd => factN_run ctP_ok llPR flP (ts := [35]) rfl (s97 d.1 d.2.1 hd)
noncomputable def ctJ : CTab T := [(49, cMod), (96, cPk), (97, cPr), (26, cIn), (28, cOut), (18, cAwake)]
theorem ctJ_ok : CTabOk Try.prog E ctJ := .cons mod64_ok (.cons pk_ok (.cons pr_ok (.cons in_ok (.cons out_ok (.cons awake_ok .nil)))))
end Go.Proofs.Ytcddppakogialaa.W.Jb
