/- S05J1 and S05J2 and S05Q1 and S05Q2 and S05Q3 and S05Q4 and S05Q5 in one text. No condition. -/
import Derived.Test.YtcddppakogialaaCM
import Derived.Test.YtcddppakogialaaR
import Derived.Test.YtcddppakogialaaW
import Derived.Test.YtcddppakogialaaCz10
import Derived.Test.YtcddppakogialaaCz14
import Derived.Test.YtcddppakogialaaLCasingPulls
set_option linter.unusedVariables false
set_option linter.unusedVariables false
set_option maxRecDepth 100000
set_option maxHeartbeats 4000000
noncomputable section
namespace Go.Proofs.Ytcddppakogialaa.W.Jb
open Go Go.Cx Go.RowKit
noncomputable def ni (l : List Int) (i : Int) : Int := ixD E 2 l i
noncomputable def pk (l : List Int) (i : Int) : Int := if (l.length : Int) = 0 then 0 else ni l (Int.tmod i l.length) % 1099511627776
noncomputable def ctM : CTab T := [(49, cMod)]
theorem ctM_ok : CTabOk Try.prog E ctM := .cons mod64_ok .nil
theorem tv96 (l : List Int) (i : Int) : runX ctM noLoops 96 [.sl 2 l false, i64 i] [2] =
  (.br ((↑(List.length l) : Int) == (0 : Int))
   (.leaf (.sym .i64 ((0 : Int))))
   (.req (decide ((↑(List.length l) : Int) ≠ (0 : Int)) = true)
   (.req ((decide ((0 : Int) ≤ Int.tmod i (↑(List.length l) : Int)) && decide (Int.tmod i (↑(List.length l) : Int) < (↑(List.length l) : Int))) = true)
   (.req (mPre (ni l (Int.tmod i (↑(List.length l) : Int))) (1099511627776 : Int))
   (.leaf (.sym .i64 (ni l (Int.tmod i (↑(List.length l) : Int)) % (1099511627776 : Int)))))))) := by kernel_rfl
theorem s96 (l : List Int) (i : Int) (h : 0 ≤ i) : (runX ctM noLoops 96 [.sl 2 l false, i64 i] [2]).holds fun v => v = i64 (pk l i) := by
  rw [tv96]
  unfold pk
  refine wayEq (fun c => ?_) fun c => ?_
  · rw [if_pos c]; rfl
  · have h1 := Int.tmod_nonneg (l.length : Int) h
    have h2 := Int.tmod_lt_of_pos i (b := (l.length : Int)) (by omega)
    rw [if_neg c]
    exact ⟨decide_eq_true c, by simp only [Bool.and_eq_true, decide_eq_true_eq]; omega, ⟨by decide, by decide⟩, rfl⟩
theorem pk_bd (l : List Int) (i : Int) : 0 ≤ pk l i ∧ pk l i < 1099511627776 := by
  unfold pk
  split <;> omega
noncomputable def cPk : Con T := conP Try.prog [.one (.s 2), .one (.i .i64)] [.l 2, .n] (fun d => 0 ≤ d.2.1) fun d => i64 (pk d.1 d.2.1)
theorem pk_ok : ConOk Try.prog E 96 cPk := conP_ok fun d hd => fact_run ctM_ok noLoops_ok (ts := [2]) rfl (s96 d.1 d.2.1 hd)
noncomputable def ctP : CTab T := [(49, cMod), (96, cPk)]
theorem ctP_ok : CTabOk Try.prog E ctP := .cons mod64_ok (.cons pk_ok .nil)
noncomputable def runN (ct : CTab T) (ll : Nat → Nat → LoopTab T) (fl : List Nat) (f : Nat) (xs : List (AV T)) (ts : List Nat) : Tree (AV T) := resN Try.prog fl ts (callX Try.prog E ct ll 1000 8 (.fn f) xs hp0)
theorem factN_run {ct : CTab T} (hc : CTabOk Try.prog E ct) {ll : Nat → Nat → LoopTab T} (hl : LLOk Try.prog E ll) {fl : List Nat} (hfl : ∀ τ, memN τ fl = true → ∀ x : T τ, (E.enc τ x).all ind0 = true) {f : Nat} {xs : List (AV T)} {ts : List Nat} {v : AV T} (ha : xs.all flt2 = true)
    (h : (runN ct ll fl f xs ts).holds fun x => x = v) : FactN Try.prog E f xs v :=
  factN_of_run good hfl (callX_ok good names mixes hc hl 8) ha h
theorem flK : ∀ τ, memN τ [39, 66, 2] = true → ∀ x : T τ, (E.enc τ x).all ind0 = true := fun τ h => by
  have := memN_iff.1 h
  have : τ = 39 ∨ τ = 66 ∨ τ = 2 := by simpa using this
  rcases this with rfl | rfl | rfl <;> exact fun x => rfl
--PRESS
noncomputable def pN (l : List Int) (q i : Int) : Int := pk l (q + i + 1)
noncomputable def prs (l : List Int) (q : Int) : Nat → Int → Int → List Knot
  | 0, _, _ => []
  | n + 1, i, a => if i < 1 + pk l q % 3 then ⟨a, pN l q i % 2000000000⟩ :: prs l q n (i + 1) (a + 1 + pN l q i / 3 % 150000) else []
noncomputable def oPR (R : List Knot) (l : List Int) (q : Int) (a : Int) (i : Int) : Tree (Ex × List (V T)) := .req ((0 ≤ i ∧ i ≤ 3) ∧ (0 ≤ q ∧ q ≤ 1000) ∧ (0 ≤ a ∧ a ≤ 150000 * i) ∧ (R.length : Int) ≤ i) (.leaf (.exit 0, [.l 39 (R ++ prs l q (4 - i).toNat i a)]))
noncomputable def cPR : LoopC T := ⟨[.l 39, .l 2, .n, .n, .n], ⟨40, [(0, .one (.s 2)), (1, .one (.i .i64)), (4, .one (.o 0 0)), (5, .one (.o 1 0)), (6, .one (.i .i64)), (7, .one (.i .i64))], [.c [.x], .c [.g 2 39], .l 39]⟩, fun _ => ⟨40, [(4, .one (.o 0 0)), (5, .one (.o 1 0))], [.c [.x], .c [.g 2 39], .l 39]⟩, 40, fun d => oPR d.1 d.2.1 d.2.2.1 d.2.2.2.1 d.2.2.2.2.1⟩
theorem bPR (R : List Knot) (l : List Int) (q : Int) (a : Int) (i : Int) : bodyD Try.prog E cPR 0 (bodyX Try.prog E ctP noLoops 1000 5 L0 (lpOf Try.prog 97 0)) (R, l, q, a, i, ()) =
  (.req ((0 : Int) ≤ q)
  (.br (decide (i < IntKind.wrap IntKind.i64 ((1 : Int) + Int.tmod (pk l q) (3 : Int))))
   (.req ((0 : Int) ≤ IntKind.wrap IntKind.i64 (IntKind.wrap IntKind.i64 (q + i) + (1 : Int)))
   (.req (List.length R = List.length R)
   (.req (List.length R + List.length [Knot.mk a (Int.tmod (pk l (IntKind.wrap IntKind.i64 (IntKind.wrap IntKind.i64 (q + i) + (1 : Int)))) (2000000000 : Int))] ≤ (1073741824 : Nat))
   (.req (List.length (R ++ [Knot.mk a (Int.tmod (pk l (IntKind.wrap IntKind.i64 (IntKind.wrap IntKind.i64 (q + i) + (1 : Int)))) (2000000000 : Int))]) = List.length (R ++ [Knot.mk a (Int.tmod (pk l (IntKind.wrap IntKind.i64 (IntKind.wrap IntKind.i64 (q + i) + (1 : Int)))) (2000000000 : Int))]))
   (.leaf (.inl (R ++ [Knot.mk a (Int.tmod (pk l (IntKind.wrap IntKind.i64 (IntKind.wrap IntKind.i64 (q + i) + (1 : Int)))) (2000000000 : Int))], (l, (q, (IntKind.wrap IntKind.i64 (IntKind.wrap IntKind.i64 (a + (1 : Int)) + Int.tmod (IntKind.wrap IntKind.i64 (Int.tdiv (pk l (IntKind.wrap IntKind.i64 (IntKind.wrap IntKind.i64 (q + i) + (1 : Int)))) (3 : Int))) (150000 : Int)), (IntKind.wrap IntKind.i64 (i + (1 : Int)), ())))))))))))
   (.req (List.length R = List.length R)
   (.leaf (.inr (.exit (0 : Nat), [.l (39 : Nat) (R)])))))) := by kernel_rfl
theorem nPR (R : List Knot) (l : List Int) (q : Int) (a : Int) (i : Int) (K : Ex × List (V T) → Prop) (hI : (0 ≤ i ∧ i ≤ 3) ∧ (0 ≤ q ∧ q ≤ 1000) ∧ (0 ≤ a ∧ a ≤ 150000 * i) ∧ (R.length : Int) ≤ i) (hK : (.leaf (.exit 0, [.l 39 (R ++ prs l q (4 - i).toNat i a)]) : Tree (Ex × List (V T))).holds K) : (cPR.out (R, l, q, a, i, ())).holds K := ⟨hI, hK⟩
theorem hPR' (R : List Knot) (l : List Int) (q : Int) (a : Int) (i : Int) (K : Ex × List (V T) → Prop) (hI : (0 ≤ i ∧ i ≤ 3) ∧ (0 ≤ q ∧ q ≤ 1000) ∧ (0 ≤ a ∧ a ≤ 150000 * i) ∧ (R.length : Int) ≤ i) (hK : (.leaf (.exit 0, [.l 39 (R ++ prs l q (4 - i).toNat i a)]) : Tree (Ex × List (V T))).holds K) :
    (bodyD Try.prog E cPR 0 (bodyX Try.prog E ctP noLoops 1000 5 L0 (lpOf Try.prog 97 0)) (R, l, q, a, i, ())).holds fun y => match y with
    | .inl d => (4 - d.2.2.2.2.1).toNat < (4 - i).toNat ∧ (cPR.out d).holds K
    | .inr y => K y := by
  rw [bPR]
  obtain ⟨⟨h0, h1⟩, ⟨q0, q1⟩, ⟨a0, a1⟩, lr⟩ := hI
  have k1 := pk_bd l q
  have k2 := pk_bd l (q + i + 1)
  have w1 : IntKind.wrap IntKind.i64 (1 + Int.tmod (pk l q) 3) = 1 + pk l q % 3 := by rw [Int.tmod_eq_emod_of_nonneg k1.1]; exact i64_in' (by omega) (by omega)
  have w2 : IntKind.wrap IntKind.i64 (q + i) = q + i := i64_in' (by omega) (by omega)
  have w3 : IntKind.wrap IntKind.i64 (q + i + 1) = q + i + 1 := i64_in' (by omega) (by omega)
  have w4 : Int.tmod (pk l (q + i + 1)) 2000000000 = pN l q i % 2000000000 := Int.tmod_eq_emod_of_nonneg k2.1
  have w5 : IntKind.wrap IntKind.i64 (a + 1) = a + 1 := i64_in' (by omega) (by omega)
  have w6 : IntKind.wrap IntKind.i64 (Int.tdiv (pk l (q + i + 1)) 3) = pN l q i / 3 := by rw [Int.tdiv_eq_ediv_of_nonneg k2.1]; exact i64_in' (by omega) (by omega)
  have w7 : Int.tmod (pN l q i / 3) 150000 = pN l q i / 3 % 150000 := Int.tmod_eq_emod_of_nonneg (by unfold pN; omega)
  have w8 : IntKind.wrap IntKind.i64 (a + 1 + pN l q i / 3 % 150000) = a + 1 + pN l q i / 3 % 150000 := i64_in' (by omega) (by omega)
  have w9 : IntKind.wrap IntKind.i64 (i + 1) = i + 1 := i64_in' (by omega) (by omega)
  rw [w1, w2, w3, w4, w5, w6, w7, w8, w9]
  rw [show (4 - i).toNat = (4 - (i + 1)).toNat + 1 by omega] at hK
  unfold prs at hK
  refine ⟨q0, way (fun c => ?_) fun c => ?_⟩
  · rw [if_pos c] at hK
    have ac : ∀ (X Y : List Knot) (k : Knot), X ++ k :: Y = (X ++ [k]) ++ Y := fun X Y k => by simp
    rw [ac] at hK
    have L1 : ∀ x : Knot, ((R ++ [x]).length : Int) ≤ i + 1 := fun x => by rw [List.length_append]; show ((R.length + 1 : Nat) : Int) ≤ _; omega
    have n1 : ∀ x : Knot, R.length + [x].length ≤ 1073741824 := fun x => by show R.length + 1 ≤ _; omega
    have g1 : (4 - (i + 1)).toNat < (4 - i).toNat := by omega
    have r0 : 0 ≤ q + i + 1 := by omega
    exact ⟨r0, rfl, n1 _, rfl, g1, nPR _ _ _ _ _ K ⟨⟨by omega, by omega⟩, ⟨q0, q1⟩, ⟨by omega, by omega⟩, L1 _⟩ hK⟩
  · rw [if_neg c, List.append_nil] at hK
    exact ⟨rfl, hK⟩
theorem hPR : LoopH Try.prog E cPR 0 (bodyX Try.prog E ctP noLoops 1000 5 L0 (lpOf Try.prog 97 0)) :=
  ⟨fun d => (4 - d.2.2.2.2.1).toNat, fun dd K hK => by
    obtain ⟨R, l, q, a, i, ⟨⟩⟩ := dd
    obtain ⟨hI, hK⟩ := hK
    refine Tree.holds_mono (fun y hy => ?_) (hPR' R l q a i K hI hK)
    cases y with
    | inl d' => exact hy
    | inr y => exact hy⟩
theorem llPR : LLOk Try.prog E (llOfN Try.prog E 97 0 [(4, cPR)]) := llOfN_ok fun i hi c hc => by
  have hi : i < 1 := hi
  obtain rfl : i = 0 := by omega
  obtain rfl : cPR = c := Option.some.inj hc
  exact LSndN.mk good names mixes ctP_ok (by decide) hPR
theorem tv97 (l : List Int) (q : Int) : runN ctP (llOfN Try.prog E 97 0 [(4, cPR)]) [39] 97 [.sl 2 l false, i64 q] [35] =
  (.req (((0 : Int) ≤ (0 : Int) ∧ (0 : Int) ≤ (3 : Int)) ∧ ((0 : Int) ≤ q ∧ q ≤ (1000 : Int)) ∧ ((0 : Int) ≤ (0 : Int) ∧ (0 : Int) ≤ (150000 : Int) * (0 : Int)) ∧ (↑((0 : Nat)) : Int) ≤ (0 : Int))
  (.req (List.length ([] ++ prs l q (Int.toNat ((4 : Int) - (0 : Int))) (0 : Int) (0 : Int)) = List.length ([] ++ prs l q (Int.toNat ((4 : Int) - (0 : Int))) (0 : Int) (0 : Int)))
  (.leaf (.agg [.sl (39 : Nat) ([] ++ prs l q (Int.toNat ((4 : Int) - (0 : Int))) (0 : Int) (0 : Int)) false])))) := by kernel_rfl
noncomputable def prL (l : List Int) (q : Int) : List Knot := prs l q 4 0 0
theorem s97 (l : List Int) (q : Int) (h : 0 ≤ q ∧ q ≤ 1000) : (runN ctP (llOfN Try.prog E 97 0 [(4, cPR)]) [39] 97 [.sl 2 l false, i64 q] [35]).holds fun v => v = .agg [.sl 39 (prL l q) false] := by
  rw [tv97]
  exact ⟨⟨⟨by decide, by decide⟩, h, ⟨by decide, by decide⟩, by decide⟩, rfl, rfl⟩
theorem flP : ∀ τ, memN τ [39] = true → ∀ x : T τ, (E.enc τ x).all ind0 = true := fun τ h => by
  obtain rfl : τ = 39 := by simpa using memN_iff.1 h
  exact fun x => rfl
noncomputable def cPr : Con T := conPN Try.prog [.one (.s 2), .one (.i .i64)] [.l 2, .n] (fun d => 0 ≤ d.2.1 ∧ d.2.1 ≤ 1000) fun d => .agg [.sl 39 (prL d.1 d.2.1) false]
theorem pr_ok : ConOk Try.prog E 97 cPr := conPN_ok fun d hd => factN_run ctP_ok llPR flP (ts := [35]) rfl (s97 d.1 d.2.1 hd)
noncomputable def ctJ : CTab T := [(49, cMod), (96, cPk), (97, cPr), (26, cIn), (28, cOut), (18, cAwake)]
theorem ctJ_ok : CTabOk Try.prog E ctJ := .cons mod64_ok (.cons pk_ok (.cons pr_ok (.cons in_ok (.cons out_ok (.cons awake_ok .nil)))))
end Go.Proofs.Ytcddppakogialaa.W.Jb
end

set_option linter.unusedVariables false
set_option maxRecDepth 100000
set_option maxHeartbeats 4000000
noncomputable section
namespace Go.Proofs.Ytcddppakogialaa.W.Jb
open Go Go.Cx Go.RowKit
noncomputable def sx (l : List Stress) (i : Int) : Stress := ixD E 37 l i
noncomputable def mn2 (a b : Int) : Int := if b < a then b else a
noncomputable def mx2 (a b : Int) : Int := if b > a then b else a
theorem mx_bd {n m : Int} (hm : 1 ≤ m) : mx2 1 (mn2 n m) ≤ m ∧ 1 ≤ mx2 1 (mn2 n m) := by
  unfold mx2 mn2
  repeat' split
  all_goals omega
noncomputable def eA (e : List Int) (i a : Int) : Int := a + 1 + pk e i % 150000
noncomputable def endL (e : List Int) : Nat → Int → Int → List Int
  | 0, _, _ => []
  | n + 1, i, a => if i < mx2 1 (mn2 (e.length : Int) 3) then eA e i a :: endL e n (i + 1) (eA e i a) else []
noncomputable def ldS (l : List Int) (i : Int) : Stress := ⟨⟨prL l (2 * i)⟩, ⟨prL l (2 * i + 1)⟩⟩
noncomputable def ldL (l : List Int) : Nat → Int → List Stress
  | 0, _ => []
  | n + 1, i => if i < (l.length : Int) then ldS l i :: ldL l n (i + 1) else []
noncomputable def gdG (g : List Int) (i : Int) : Grade := ⟨pk g i % 3000000000, pk g i / 5 % 3000000000, 1 + pk g i / 7 % 200000000, pk g i / 11 % 400, pk g i / 13 % 20⟩
noncomputable def gdL (g : List Int) : Nat → Int → List Grade
  | 0, _ => []
  | n + 1, i => if i < mx2 1 (mn2 (g.length : Int) 4) then gdG g i :: gdL g n (i + 1) else []
noncomputable def oJA (U : List Int) (D : List Stress) (H : List Grade) (a : Int) (i : Int) (e : List Int) (l : List Int) (g : List Int) (f : Int) (o : Int) (F : Int) (O : Int) : Tree (Ex × List (V T)) := .req ((0 ≤ i ∧ i ≤ 3) ∧ (0 ≤ a ∧ a ≤ 150000 * i) ∧ (U.length : Int) ≤ i) (.leaf (.exit 0, [.l 2 (U ++ endL e (4 - i).toNat i a), .l 37 D, .l 66 H, .l 2 e, .l 2 l, .l 2 g, .n f, .n o, .n F, .n O]))
noncomputable def cJA : LoopC T := ⟨[.l 2, .l 37, .l 66, .n, .n, .l 2, .l 2, .l 2, .n, .n, .n, .n], ⟨103, [(1, .one (.o 0 0)), (2, .one (.o 1 0)), (3, .one (.o 2 0)), (4, .one (.i .i64)), (5, .one (.i .i64))], [.c [.s 2, .s 2, .s 2, .i .i64, .i .i64], .c [.x, .x, .x, .x, .x], .c [.g 3 2, .g 4 37, .g 5 66, .i .i64, .i .i64], .l 2, .l 37, .l 66]⟩, fun _ => ⟨103, [(1, .one (.o 0 0)), (2, .one (.o 1 0)), (3, .one (.o 2 0))], [.c [.s 2, .s 2, .s 2, .i .i64, .i .i64], .c [.x, .x, .x, .x, .x], .c [.g 3 2, .g 4 37, .g 5 66, .i .i64, .i .i64], .l 2, .l 37, .l 66]⟩, 40, fun d => oJA d.1 d.2.1 d.2.2.1 d.2.2.2.1 d.2.2.2.2.1 d.2.2.2.2.2.1 d.2.2.2.2.2.2.1 d.2.2.2.2.2.2.2.1 d.2.2.2.2.2.2.2.2.1 d.2.2.2.2.2.2.2.2.2.1 d.2.2.2.2.2.2.2.2.2.2.1 d.2.2.2.2.2.2.2.2.2.2.2.1⟩
theorem bJA (U : List Int) (D : List Stress) (H : List Grade) (a : Int) (i : Int) (e : List Int) (l : List Int) (g : List Int) (f : Int) (o : Int) (F : Int) (O : Int) : bodyD Try.prog E cJA 1 (bodyX Try.prog E ctJ noLoops 1000 5 L0 (lpOf Try.prog 47 0)) (U, D, H, a, i, e, l, g, f, o, F, O, ()) =
  (.br (decide (i < (mx2 ((1 : Int)) ((mn2 ((↑(List.length e) : Int)) ((3 : Int)))))))
   (.req ((0 : Int) ≤ i)
   (.req (List.length U = List.length U)
   (.req (List.length U + List.length [IntKind.wrap IntKind.i64 (IntKind.wrap IntKind.i64 (a + (1 : Int)) + Int.tmod (pk e i) (150000 : Int))] ≤ (1073741824 : Nat))
   (.req (List.length (U ++ [IntKind.wrap IntKind.i64 (IntKind.wrap IntKind.i64 (a + (1 : Int)) + Int.tmod (pk e i) (150000 : Int))]) = List.length (U ++ [IntKind.wrap IntKind.i64 (IntKind.wrap IntKind.i64 (a + (1 : Int)) + Int.tmod (pk e i) (150000 : Int))]))
   (.req (List.length D = List.length D)
   (.req (List.length H = List.length H)
   (.leaf (.inl (U ++ [IntKind.wrap IntKind.i64 (IntKind.wrap IntKind.i64 (a + (1 : Int)) + Int.tmod (pk e i) (150000 : Int))], (D, (H, (IntKind.wrap IntKind.i64 (IntKind.wrap IntKind.i64 (a + (1 : Int)) + Int.tmod (pk e i) (150000 : Int)), (IntKind.wrap IntKind.i64 (i + (1 : Int)), (e, (l, (g, (f, (o, (F, (O, ()))))))))))))))))))))
   (.req (List.length U = List.length U)
   (.req (List.length D = List.length D)
   (.req (List.length H = List.length H)
   (.leaf (.inr (.exit (0 : Nat), [.l (2 : Nat) (U), .l (37 : Nat) (D), .l (66 : Nat) (H), .l (2 : Nat) (e), .l (2 : Nat) (l), .l (2 : Nat) (g), .n (f), .n (o), .n (F), .n (O)]))))))) := by kernel_rfl
theorem nJA (U : List Int) (D : List Stress) (H : List Grade) (a : Int) (i : Int) (e : List Int) (l : List Int) (g : List Int) (f : Int) (o : Int) (F : Int) (O : Int) (K : Ex × List (V T) → Prop) (hI : (0 ≤ i ∧ i ≤ 3) ∧ (0 ≤ a ∧ a ≤ 150000 * i) ∧ (U.length : Int) ≤ i) (hK : (.leaf (.exit 0, [.l 2 (U ++ endL e (4 - i).toNat i a), .l 37 D, .l 66 H, .l 2 e, .l 2 l, .l 2 g, .n f, .n o, .n F, .n O]) : Tree (Ex × List (V T))).holds K) : (cJA.out (U, D, H, a, i, e, l, g, f, o, F, O, ())).holds K := ⟨hI, hK⟩
theorem hJA' (U : List Int) (D : List Stress) (H : List Grade) (a : Int) (i : Int) (e : List Int) (l : List Int) (g : List Int) (f : Int) (o : Int) (F : Int) (O : Int) (K : Ex × List (V T) → Prop) (hI : (0 ≤ i ∧ i ≤ 3) ∧ (0 ≤ a ∧ a ≤ 150000 * i) ∧ (U.length : Int) ≤ i) (hK : (.leaf (.exit 0, [.l 2 (U ++ endL e (4 - i).toNat i a), .l 37 D, .l 66 H, .l 2 e, .l 2 l, .l 2 g, .n f, .n o, .n F, .n O]) : Tree (Ex × List (V T))).holds K) :
    (bodyD Try.prog E cJA 1 (bodyX Try.prog E ctJ noLoops 1000 5 L0 (lpOf Try.prog 47 0)) (U, D, H, a, i, e, l, g, f, o, F, O, ())).holds fun y => match y with
    | .inl d => (4 - d.2.2.2.2.1).toNat < (4 - i).toNat ∧ (cJA.out d).holds K
    | .inr y => K y := by
  rw [bJA]
  obtain ⟨⟨h0, h1⟩, ⟨a0, a1⟩, lr⟩ := hI
  have k1 := pk_bd e i
  have mb := mx_bd (n := (e.length : Int)) (m := 3) (by decide)
  have w1 : IntKind.wrap IntKind.i64 (a + 1) = a + 1 := i64_in' (by omega) (by omega)
  have w2 : Int.tmod (pk e i) 150000 = pk e i % 150000 := Int.tmod_eq_emod_of_nonneg k1.1
  have w3 : IntKind.wrap IntKind.i64 (a + 1 + pk e i % 150000) = eA e i a := i64_in' (by omega) (by omega)
  have w9 : IntKind.wrap IntKind.i64 (i + 1) = i + 1 := i64_in' (by omega) (by omega)
  rw [w1, w2, w3, w9]
  rw [show (4 - i).toNat = (4 - (i + 1)).toNat + 1 by omega] at hK
  unfold endL at hK
  refine way (fun c => ?_) fun c => ?_
  · rw [if_pos c] at hK
    have ac : ∀ (X Y : List Int) (k : Int), X ++ k :: Y = (X ++ [k]) ++ Y := fun X Y k => by simp
    rw [ac] at hK
    have L1 : ∀ x : Int, ((U.length + 1 : Nat) : Int) ≤ i + 1 := fun x => by omega
    have n1 : U.length + 1 ≤ 1073741824 := by omega
    have g1 : (4 - (i + 1)).toNat < (4 - i).toNat := by omega
    have g2 : (0 ≤ i + 1 ∧ i + 1 ≤ 3) ∧ (0 ≤ eA e i a ∧ eA e i a ≤ 150000 * (i + 1)) ∧ ((U ++ [eA e i a]).length : Int) ≤ i + 1 := ⟨by omega, by unfold eA; omega, by rw [List.length_append]; exact L1 0⟩
    exact ⟨h0, rfl, n1, rfl, rfl, rfl,  g1, nJA _ _ _ _ _ _ _ _ _ _ _ _ K g2 hK⟩
  · rw [if_neg c, List.append_nil] at hK
    exact ⟨rfl, rfl, rfl,  hK⟩
theorem hJA : LoopH Try.prog E cJA 1 (bodyX Try.prog E ctJ noLoops 1000 5 L0 (lpOf Try.prog 47 0)) :=
  ⟨fun d => (4 - d.2.2.2.2.1).toNat, fun dd K hK => by
    obtain ⟨U, D, H, a, i, e, l, g, f, o, F, O, ⟨⟩⟩ := dd
    obtain ⟨hI, hK⟩ := hK
    refine Tree.holds_mono (fun y hy => ?_) (hJA' U D H a i e l g f o F O K hI hK)
    cases y with
    | inl d' => exact hy
    | inr y => exact hy⟩
noncomputable def oJB (U : List Int) (D : List Stress) (H : List Grade) (i : Int) (e : List Int) (l : List Int) (g : List Int) (f : Int) (o : Int) (F : Int) (O : Int) : Tree (Ex × List (V T)) := .req ((0 ≤ i ∧ i ≤ 3) ∧ (D.length : Int) ≤ i) (.leaf (.exit 2, [.l 2 U, .l 37 (D ++ ldL l (3 - i).toNat i), .l 66 H, .l 2 e, .l 2 l, .l 2 g, .n f, .n o, .n F, .n O]))
noncomputable def cJB : LoopC T := ⟨[.l 2, .l 37, .l 66, .n, .l 2, .l 2, .l 2, .n, .n, .n, .n], ⟨103, [(1, .one (.o 0 0)), (2, .one (.o 1 0)), (3, .one (.o 2 0)), (6, .one (.i .i64))], [.c [.s 2, .s 2, .s 2, .i .i64, .i .i64], .c [.x, .x, .x, .x, .x], .c [.g 3 2, .g 4 37, .g 5 66, .i .i64, .i .i64], .l 2, .l 37, .l 66]⟩, fun _ => ⟨103, [(1, .one (.o 0 0)), (2, .one (.o 1 0)), (3, .one (.o 2 0))], [.c [.s 2, .s 2, .s 2, .i .i64, .i .i64], .c [.x, .x, .x, .x, .x], .c [.g 3 2, .g 4 37, .g 5 66, .i .i64, .i .i64], .l 2, .l 37, .l 66]⟩, 40, fun d => oJB d.1 d.2.1 d.2.2.1 d.2.2.2.1 d.2.2.2.2.1 d.2.2.2.2.2.1 d.2.2.2.2.2.2.1 d.2.2.2.2.2.2.2.1 d.2.2.2.2.2.2.2.2.1 d.2.2.2.2.2.2.2.2.2.1 d.2.2.2.2.2.2.2.2.2.2.1⟩
theorem bJB (U : List Int) (D : List Stress) (H : List Grade) (i : Int) (e : List Int) (l : List Int) (g : List Int) (f : Int) (o : Int) (F : Int) (O : Int) : bodyD Try.prog E cJB 1 (bodyX Try.prog E ctJ noLoops 1000 5 L0 (lpOf Try.prog 47 1)) (U, D, H, i, e, l, g, f, o, F, O, ()) =
  (.br (decide (i < (↑(List.length l) : Int)))
   (.br (decide (i < (3 : Int)))
    (.req ((0 : Int) ≤ IntKind.wrap IntKind.i64 ((2 : Int) * i) ∧ IntKind.wrap IntKind.i64 ((2 : Int) * i) ≤ (1000 : Int))
    (.req ((0 : Int) ≤ IntKind.wrap IntKind.i64 (IntKind.wrap IntKind.i64 ((2 : Int) * i) + (1 : Int)) ∧ IntKind.wrap IntKind.i64 (IntKind.wrap IntKind.i64 ((2 : Int) * i) + (1 : Int)) ≤ (1000 : Int))
    (.req (List.length D = List.length D)
    (.req (List.length D + List.length [Stress.mk (Line.mk (prL l (IntKind.wrap IntKind.i64 ((2 : Int) * i)))) (Line.mk (prL l (IntKind.wrap IntKind.i64 (IntKind.wrap IntKind.i64 ((2 : Int) * i) + (1 : Int)))))] ≤ (1073741824 : Nat))
    (.req (List.length U = List.length U)
    (.req (List.length (D ++ [Stress.mk (Line.mk (prL l (IntKind.wrap IntKind.i64 ((2 : Int) * i)))) (Line.mk (prL l (IntKind.wrap IntKind.i64 (IntKind.wrap IntKind.i64 ((2 : Int) * i) + (1 : Int)))))]) = List.length (D ++ [Stress.mk (Line.mk (prL l (IntKind.wrap IntKind.i64 ((2 : Int) * i)))) (Line.mk (prL l (IntKind.wrap IntKind.i64 (IntKind.wrap IntKind.i64 ((2 : Int) * i) + (1 : Int)))))]))
    (.req (List.length H = List.length H)
    (.leaf (.inl (U, (D ++ [Stress.mk (Line.mk (prL l (IntKind.wrap IntKind.i64 ((2 : Int) * i)))) (Line.mk (prL l (IntKind.wrap IntKind.i64 (IntKind.wrap IntKind.i64 ((2 : Int) * i) + (1 : Int)))))], (H, (IntKind.wrap IntKind.i64 (i + (1 : Int)), (e, (l, (g, (f, (o, (F, (O, ()))))))))))))))))))))
    (.req (List.length U = List.length U)
    (.req (List.length D = List.length D)
    (.req (List.length H = List.length H)
    (.leaf (.inr (.exit (2 : Nat), [.l (2 : Nat) (U), .l (37 : Nat) (D), .l (66 : Nat) (H), .l (2 : Nat) (e), .l (2 : Nat) (l), .l (2 : Nat) (g), .n (f), .n (o), .n (F), .n (O)])))))))
   (.req (List.length U = List.length U)
   (.req (List.length D = List.length D)
   (.req (List.length H = List.length H)
   (.leaf (.inr (.exit (2 : Nat), [.l (2 : Nat) (U), .l (37 : Nat) (D), .l (66 : Nat) (H), .l (2 : Nat) (e), .l (2 : Nat) (l), .l (2 : Nat) (g), .n (f), .n (o), .n (F), .n (O)]))))))) := by kernel_rfl
theorem nJB (U : List Int) (D : List Stress) (H : List Grade) (i : Int) (e : List Int) (l : List Int) (g : List Int) (f : Int) (o : Int) (F : Int) (O : Int) (K : Ex × List (V T) → Prop) (hI : (0 ≤ i ∧ i ≤ 3) ∧ (D.length : Int) ≤ i) (hK : (.leaf (.exit 2, [.l 2 U, .l 37 (D ++ ldL l (3 - i).toNat i), .l 66 H, .l 2 e, .l 2 l, .l 2 g, .n f, .n o, .n F, .n O]) : Tree (Ex × List (V T))).holds K) : (cJB.out (U, D, H, i, e, l, g, f, o, F, O, ())).holds K := ⟨hI, hK⟩
theorem hJB' (U : List Int) (D : List Stress) (H : List Grade) (i : Int) (e : List Int) (l : List Int) (g : List Int) (f : Int) (o : Int) (F : Int) (O : Int) (K : Ex × List (V T) → Prop) (hI : (0 ≤ i ∧ i ≤ 3) ∧ (D.length : Int) ≤ i) (hK : (.leaf (.exit 2, [.l 2 U, .l 37 (D ++ ldL l (3 - i).toNat i), .l 66 H, .l 2 e, .l 2 l, .l 2 g, .n f, .n o, .n F, .n O]) : Tree (Ex × List (V T))).holds K) :
    (bodyD Try.prog E cJB 1 (bodyX Try.prog E ctJ noLoops 1000 5 L0 (lpOf Try.prog 47 1)) (U, D, H, i, e, l, g, f, o, F, O, ())).holds fun y => match y with
    | .inl d => (3 - d.2.2.2.1).toNat < (3 - i).toNat ∧ (cJB.out d).holds K
    | .inr y => K y := by
  rw [bJB]
  obtain ⟨⟨h0, h1⟩, lr⟩ := hI
  have w1 : IntKind.wrap IntKind.i64 (2 * i) = 2 * i := i64_in' (by omega) (by omega)
  have w2 : IntKind.wrap IntKind.i64 (2 * i + 1) = 2 * i + 1 := i64_in' (by omega) (by omega)
  have w9 : IntKind.wrap IntKind.i64 (i + 1) = i + 1 := i64_in' (by omega) (by omega)
  rw [w1, w2, w9]
  have fin : ¬ (i < (l.length : Int) ∧ i < 3) → D ++ ldL l (3 - i).toNat i = D := fun h => by
    by_cases k : i < 3
    · rw [show (3 - i).toNat = (2 - i).toNat + 1 by omega]
      unfold ldL
      rw [if_neg (fun q => h ⟨q, k⟩), List.append_nil]
    · rw [show (3 - i).toNat = 0 by omega]
      exact List.append_nil _
  refine way (fun c => way (fun c2 => ?_) fun c2 => ?_) fun c => ?_
  · rw [show (3 - i).toNat = (3 - (i + 1)).toNat + 1 by omega] at hK
    unfold ldL at hK
    rw [if_pos c] at hK
    have ac : ∀ (X Y : List Stress) (k : Stress), X ++ k :: Y = (X ++ [k]) ++ Y := fun X Y k => by simp
    rw [ac] at hK
    have n1 : D.length + 1 ≤ 1073741824 := by omega
    have g1 : (3 - (i + 1)).toNat < (3 - i).toNat := by omega
    have g2 : (0 ≤ i + 1 ∧ i + 1 ≤ 3) ∧ ((D ++ [ldS l i]).length : Int) ≤ i + 1 := ⟨by omega, by rw [List.length_append]; show ((D.length + 1 : Nat) : Int) ≤ _; omega⟩
    exact ⟨⟨by omega, by omega⟩, ⟨by omega, by omega⟩, rfl, n1, rfl, rfl, rfl, g1, nJB _ _ _ _ _ _ _ _ _ _ _ K g2 hK⟩
  · rw [fin (fun h => c2 h.2)] at hK
    exact ⟨rfl, rfl, rfl,  hK⟩
  · rw [fin (fun h => c h.1)] at hK
    exact ⟨rfl, rfl, rfl,  hK⟩
theorem hJB : LoopH Try.prog E cJB 1 (bodyX Try.prog E ctJ noLoops 1000 5 L0 (lpOf Try.prog 47 1)) :=
  ⟨fun d => (3 - d.2.2.2.1).toNat, fun dd K hK => by
    obtain ⟨U, D, H, i, e, l, g, f, o, F, O, ⟨⟩⟩ := dd
    obtain ⟨hI, hK⟩ := hK
    refine Tree.holds_mono (fun y hy => ?_) (hJB' U D H i e l g f o F O K hI hK)
    cases y with
    | inl d' => exact hy
    | inr y => exact hy⟩
noncomputable def oJC (U : List Int) (D : List Stress) (H : List Grade) (i : Int) (e : List Int) (l : List Int) (g : List Int) (f : Int) (o : Int) (F : Int) (O : Int) : Tree (Ex × List (V T)) := .req ((0 ≤ i ∧ i ≤ 4) ∧ (H.length : Int) ≤ i) (.leaf (.exit 4, [.l 2 U, .l 37 D, .l 66 (H ++ gdL g (5 - i).toNat i), .l 2 e, .l 2 l, .l 2 g, .n f, .n o, .n F, .n O]))
noncomputable def cJC : LoopC T := ⟨[.l 2, .l 37, .l 66, .n, .l 2, .l 2, .l 2, .n, .n, .n, .n], ⟨103, [(1, .one (.o 0 0)), (2, .one (.o 1 0)), (3, .one (.o 2 0)), (7, .one (.i .i64))], [.c [.s 2, .s 2, .s 2, .i .i64, .i .i64], .c [.x, .x, .x, .x, .x], .c [.g 3 2, .g 4 37, .g 5 66, .i .i64, .i .i64], .l 2, .l 37, .l 66]⟩, fun _ => ⟨103, [(1, .one (.o 0 0)), (2, .one (.o 1 0)), (3, .one (.o 2 0))], [.c [.s 2, .s 2, .s 2, .i .i64, .i .i64], .c [.x, .x, .x, .x, .x], .c [.g 3 2, .g 4 37, .g 5 66, .i .i64, .i .i64], .l 2, .l 37, .l 66]⟩, 40, fun d => oJC d.1 d.2.1 d.2.2.1 d.2.2.2.1 d.2.2.2.2.1 d.2.2.2.2.2.1 d.2.2.2.2.2.2.1 d.2.2.2.2.2.2.2.1 d.2.2.2.2.2.2.2.2.1 d.2.2.2.2.2.2.2.2.2.1 d.2.2.2.2.2.2.2.2.2.2.1⟩
theorem bJC (U : List Int) (D : List Stress) (H : List Grade) (i : Int) (e : List Int) (l : List Int) (g : List Int) (f : Int) (o : Int) (F : Int) (O : Int) : bodyD Try.prog E cJC 1 (bodyX Try.prog E ctJ noLoops 1000 5 L0 (lpOf Try.prog 47 2)) (U, D, H, i, e, l, g, f, o, F, O, ()) =
  (.br (decide (i < (mx2 ((1 : Int)) ((mn2 ((↑(List.length g) : Int)) ((4 : Int)))))))
   (.req ((0 : Int) ≤ i)
   (.req (List.length H = List.length H)
   (.req (List.length H + List.length [Grade.mk (Int.tmod (pk g i) (3000000000 : Int)) (Int.tmod (IntKind.wrap IntKind.i64 (Int.tdiv (pk g i) (5 : Int))) (3000000000 : Int)) (IntKind.wrap IntKind.i64 ((1 : Int) + Int.tmod (IntKind.wrap IntKind.i64 (Int.tdiv (pk g i) (7 : Int))) (200000000 : Int))) (Int.tmod (IntKind.wrap IntKind.i64 (Int.tdiv (pk g i) (11 : Int))) (400 : Int)) (Int.tmod (IntKind.wrap IntKind.i64 (Int.tdiv (pk g i) (13 : Int))) (20 : Int))] ≤ (1073741824 : Nat))
   (.req (List.length U = List.length U)
   (.req (List.length D = List.length D)
   (.req (List.length (H ++ [Grade.mk (Int.tmod (pk g i) (3000000000 : Int)) (Int.tmod (IntKind.wrap IntKind.i64 (Int.tdiv (pk g i) (5 : Int))) (3000000000 : Int)) (IntKind.wrap IntKind.i64 ((1 : Int) + Int.tmod (IntKind.wrap IntKind.i64 (Int.tdiv (pk g i) (7 : Int))) (200000000 : Int))) (Int.tmod (IntKind.wrap IntKind.i64 (Int.tdiv (pk g i) (11 : Int))) (400 : Int)) (Int.tmod (IntKind.wrap IntKind.i64 (Int.tdiv (pk g i) (13 : Int))) (20 : Int))]) = List.length (H ++ [Grade.mk (Int.tmod (pk g i) (3000000000 : Int)) (Int.tmod (IntKind.wrap IntKind.i64 (Int.tdiv (pk g i) (5 : Int))) (3000000000 : Int)) (IntKind.wrap IntKind.i64 ((1 : Int) + Int.tmod (IntKind.wrap IntKind.i64 (Int.tdiv (pk g i) (7 : Int))) (200000000 : Int))) (Int.tmod (IntKind.wrap IntKind.i64 (Int.tdiv (pk g i) (11 : Int))) (400 : Int)) (Int.tmod (IntKind.wrap IntKind.i64 (Int.tdiv (pk g i) (13 : Int))) (20 : Int))]))
   (.leaf (.inl (U, (D, (H ++ [Grade.mk (Int.tmod (pk g i) (3000000000 : Int)) (Int.tmod (IntKind.wrap IntKind.i64 (Int.tdiv (pk g i) (5 : Int))) (3000000000 : Int)) (IntKind.wrap IntKind.i64 ((1 : Int) + Int.tmod (IntKind.wrap IntKind.i64 (Int.tdiv (pk g i) (7 : Int))) (200000000 : Int))) (Int.tmod (IntKind.wrap IntKind.i64 (Int.tdiv (pk g i) (11 : Int))) (400 : Int)) (Int.tmod (IntKind.wrap IntKind.i64 (Int.tdiv (pk g i) (13 : Int))) (20 : Int))], (IntKind.wrap IntKind.i64 (i + (1 : Int)), (e, (l, (g, (f, (o, (F, (O, ())))))))))))))))))))
   (.req (List.length U = List.length U)
   (.req (List.length D = List.length D)
   (.req (List.length H = List.length H)
   (.leaf (.inr (.exit (4 : Nat), [.l (2 : Nat) (U), .l (37 : Nat) (D), .l (66 : Nat) (H), .l (2 : Nat) (e), .l (2 : Nat) (l), .l (2 : Nat) (g), .n (f), .n (o), .n (F), .n (O)]))))))) := by kernel_rfl
theorem nJC (U : List Int) (D : List Stress) (H : List Grade) (i : Int) (e : List Int) (l : List Int) (g : List Int) (f : Int) (o : Int) (F : Int) (O : Int) (K : Ex × List (V T) → Prop) (hI : (0 ≤ i ∧ i ≤ 4) ∧ (H.length : Int) ≤ i) (hK : (.leaf (.exit 4, [.l 2 U, .l 37 D, .l 66 (H ++ gdL g (5 - i).toNat i), .l 2 e, .l 2 l, .l 2 g, .n f, .n o, .n F, .n O]) : Tree (Ex × List (V T))).holds K) : (cJC.out (U, D, H, i, e, l, g, f, o, F, O, ())).holds K := ⟨hI, hK⟩
theorem hJC' (U : List Int) (D : List Stress) (H : List Grade) (i : Int) (e : List Int) (l : List Int) (g : List Int) (f : Int) (o : Int) (F : Int) (O : Int) (K : Ex × List (V T) → Prop) (hI : (0 ≤ i ∧ i ≤ 4) ∧ (H.length : Int) ≤ i) (hK : (.leaf (.exit 4, [.l 2 U, .l 37 D, .l 66 (H ++ gdL g (5 - i).toNat i), .l 2 e, .l 2 l, .l 2 g, .n f, .n o, .n F, .n O]) : Tree (Ex × List (V T))).holds K) :
    (bodyD Try.prog E cJC 1 (bodyX Try.prog E ctJ noLoops 1000 5 L0 (lpOf Try.prog 47 2)) (U, D, H, i, e, l, g, f, o, F, O, ())).holds fun y => match y with
    | .inl d => (5 - d.2.2.2.1).toNat < (5 - i).toNat ∧ (cJC.out d).holds K
    | .inr y => K y := by
  rw [bJC]
  obtain ⟨⟨h0, h1⟩, lr⟩ := hI
  have k1 := pk_bd g i
  have mb := mx_bd (n := (g.length : Int)) (m := 4) (by decide)
  have w9 : IntKind.wrap IntKind.i64 (i + 1) = i + 1 := i64_in' (by omega) (by omega)
  have d : ∀ m : Int, 0 < m → m ≤ 20 → IntKind.wrap IntKind.i64 (Int.tdiv (pk g i) m) = pk g i / m := fun m m0 m1 => by
    have := Int.ediv_nonneg k1.1 (show 0 ≤ m by omega)
    have := Int.ediv_le_self m k1.1
    rw [Int.tdiv_eq_ediv_of_nonneg k1.1]
    exact i64_in' (by omega) (by omega)
  have t : ∀ m q : Int, 0 ≤ q → Int.tmod q m = q % m := fun m q hq => Int.tmod_eq_emod_of_nonneg hq
  rw [w9, d 5 (by decide) (by decide), d 7 (by decide) (by decide), d 11 (by decide) (by decide), d 13 (by decide) (by decide), t 3000000000 (pk g i) k1.1, t 3000000000 (pk g i / 5) (by omega), t 200000000 (pk g i / 7) (by omega), t 400 (pk g i / 11) (by omega), t 20 (pk g i / 13) (by omega)]
  rw [i64_in' (n := 1 + pk g i / 7 % 200000000) (by omega) (by omega)]
  rw [show (5 - i).toNat = (5 - (i + 1)).toNat + 1 by omega] at hK
  unfold gdL at hK
  refine way (fun c => ?_) fun c => ?_
  · rw [if_pos c] at hK
    have ac : ∀ (X Y : List Grade) (k : Grade), X ++ k :: Y = (X ++ [k]) ++ Y := fun X Y k => by simp
    rw [ac] at hK
    have n1 : H.length + 1 ≤ 1073741824 := by omega
    have g1 : (5 - (i + 1)).toNat < (5 - i).toNat := by omega
    have g2 : (0 ≤ i + 1 ∧ i + 1 ≤ 4) ∧ ((H ++ [gdG g i]).length : Int) ≤ i + 1 := ⟨by omega, by rw [List.length_append]; show ((H.length + 1 : Nat) : Int) ≤ _; omega⟩
    exact ⟨h0, rfl, n1, rfl, rfl, rfl,  g1, nJC _ _ _ _ _ _ _ _ _ _ _ K g2 hK⟩
  · rw [if_neg c, List.append_nil] at hK
    exact ⟨rfl, rfl, rfl,  hK⟩
theorem hJC : LoopH Try.prog E cJC 1 (bodyX Try.prog E ctJ noLoops 1000 5 L0 (lpOf Try.prog 47 2)) :=
  ⟨fun d => (5 - d.2.2.2.1).toNat, fun dd K hK => by
    obtain ⟨U, D, H, i, e, l, g, f, o, F, O, ⟨⟩⟩ := dd
    obtain ⟨hI, hK⟩ := hK
    refine Tree.holds_mono (fun y hy => ?_) (hJC' U D H i e l g f o F O K hI hK)
    cases y with
    | inl d' => exact hy
    | inr y => exact hy⟩
theorem llJ : LLOk Try.prog E (llOfN Try.prog E 47 1 [(4, cJA), (9, cJB), (13, cJC)]) := llOfN_ok fun i hi c hc => by
  have hi : i < 3 := hi
  have : i = 0 ∨ i = 1 ∨ i = 2 := by omega
  rcases this with rfl | rfl | rfl
  · obtain rfl : cJA = c := Option.some.inj hc
    exact LSndN.mk good names mixes ctJ_ok (by decide) hJA
  · obtain rfl : cJB = c := Option.some.inj hc
    exact LSndN.mk good names mixes ctJ_ok (by decide) hJB
  · obtain rfl : cJC = c := Option.some.inj hc
    exact LSndN.mk good names mixes ctJ_ok (by decide) hJC
end Go.Proofs.Ytcddppakogialaa.W.Jb
end

set_option linter.unusedVariables false
set_option maxRecDepth 100000
set_option maxHeartbeats 4000000
noncomputable section
namespace Go.Proofs.Ytcddppakogialaa.W.Jb
open Go Go.Cx Go.RowKit
noncomputable def n3 (l : List Int) (i : Int) : Int := ixD E 3 l i
noncomputable def gx (l : List Grade) (i : Int) : Grade := ixD E 66 l i
theorem ixD_mem {τ : Nat} {l : List (T τ)} {i : Int} (h0 : 0 ≤ i) (h : i < l.length) : ixD E τ l i ∈ l := by
  unfold ixD
  rw [List.getElem?_eq_getElem (show i.toNat < l.length by omega)]
  exact List.getElem_mem _
theorem ni_mem {l : List Int} {i : Int} (h0 : 0 ≤ i) (h : i < l.length) : ni l i ∈ l := ixD_mem (τ := 2) h0 h
theorem n3_mem {l : List Int} {i : Int} (h0 : 0 ≤ i) (h : i < l.length) : n3 l i ∈ l := ixD_mem (τ := 3) h0 h
theorem sx_mem {l : List Stress} {i : Int} (h0 : 0 ≤ i) (h : i < l.length) : sx l i ∈ l := ixD_mem (τ := 37) h0 h
theorem gx_mem {l : List Grade} {i : Int} (h0 : 0 ≤ i) (h : i < l.length) : gx l i ∈ l := ixD_mem (τ := 66) h0 h
def okE (u : List Int) : Prop := (1 ≤ u.length ∧ u.length ≤ 5) ∧ (∀ x ∈ u, 1 ≤ x ∧ x ≤ 1048576) ∧ ∀ i : Int, 1 ≤ i → i < u.length → ni u (i - 1) < ni u i
def okL (s : Stress) : Prop := lineErr s.In.Knots 1048576 68719476736 = 0 ∧ lineErr s.Out.Knots 1048576 68719476736 = 0
def okG (g : Grade) : Prop := (0 ≤ g.Burst ∧ g.Burst ≤ 68719476736) ∧ (0 ≤ g.Collapse ∧ g.Collapse ≤ 68719476736) ∧ (1 ≤ g.Pull ∧ g.Pull ≤ 1099511627776) ∧ (0 ≤ g.Weight ∧ g.Weight ≤ 1048576) ∧ 0 ≤ g.Cost ∧ g.Cost ≤ 1048576
def okD (d : List Stress) : Prop := d.length ≤ 6 ∧ ∀ s ∈ d, okL s
def okH (h : List Grade) : Prop := (1 ≤ h.length ∧ h.length ≤ 6) ∧ ∀ g ∈ h, okG g
def okC (c : List Int) (k : Nat) : Prop := c.length ≤ 1000 ∧ ∀ x ∈ c, 0 ≤ x ∧ x < (k : Int)
theorem wayF {α : Type} {t f : Tree α} {Q : α → Prop} (k : f.holds Q) : (Tree.br false t f).holds Q := ⟨fun h => (by cases h), fun _ => k⟩
noncomputable def ctQ0 : CTab T := [(61, cWithin), (102, cLine)]
theorem ctQ0_ok : CTabOk Try.prog E ctQ0 := .cons within_ok (.cons line_ok .nil)
noncomputable def oQA (u : List Int) (w : List Int) (n : Int) (i : Int) : Tree (Ex × List (V T)) := .req (okE u ∧ w = u ∧ n = u.length ∧ 0 ≤ i) (.leaf (.exit 0, [.l 2 u]))
noncomputable def cQA : LoopC T := ⟨[.l 2, .l 2, .n, .n], ⟨38, [(0, .one (.s 2)), (12, .one (.s 2)), (13, .one (.i .i64)), (14, .one (.i .i64))], []⟩, fun e => match e with
    | .ret => ⟨38, [(2, .one (.i .i64))], []⟩
    | _ => ⟨38, [(0, .one (.s 2))], []⟩, 10, fun d => oQA d.1 d.2.1 d.2.2.1 d.2.2.2.1⟩
theorem bQA (u : List Int) (w : List Int) (n : Int) (i : Int) : bodyD Try.prog E cQA 0 (bodyX Try.prog E ctQ0 noLoops 1000 5 L0 (lpOf Try.prog 57 0)) (u, w, n, i, ()) =
  (.br (decide (i < n))
   (.req ((decide ((0 : Int) ≤ i) && decide (i < (↑(List.length w) : Int))) = true)
   (.br (!within (ni w i) (1 : Int) (1048576 : Int))
    (.leaf (.inr (.ret, [.n ((2 : Int))])))
    (.leaf (.inl (u, (w, (n, (IntKind.wrap IntKind.i64 (i + (1 : Int)), ()))))))))
   (.leaf (.inr (.exit (0 : Nat), [.l (2 : Nat) (u)])))) := by kernel_rfl
theorem nQA (u : List Int) (w : List Int) (n : Int) (i : Int) (K : Ex × List (V T) → Prop) (hI : okE u ∧ w = u ∧ n = u.length ∧ 0 ≤ i) (hK : (.leaf (.exit 0, [.l 2 u]) : Tree (Ex × List (V T))).holds K) : (cQA.out (u, w, n, i, ())).holds K := ⟨hI, hK⟩
theorem hQA' (u : List Int) (w : List Int) (n : Int) (i : Int) (K : Ex × List (V T) → Prop) (hI : okE u ∧ w = u ∧ n = u.length ∧ 0 ≤ i) (hK : (.leaf (.exit 0, [.l 2 u]) : Tree (Ex × List (V T))).holds K) :
    (bodyD Try.prog E cQA 0 (bodyX Try.prog E ctQ0 noLoops 1000 5 L0 (lpOf Try.prog 57 0)) (u, w, n, i, ())).holds fun y => match y with
    | .inl d => ((d.2.1.length : Int) - d.2.2.2.1).toNat < ((w.length : Int) - i).toNat ∧ (cQA.out d).holds K
    | .inr y => K y := by
  rw [bQA]
  obtain ⟨hu, rfl, rfl, h0⟩ := hI
  have l5 := hu.1.2
  refine way (fun c => wayC h0 c fun _ _ => wayN (fun h => absurd (hu.2.1 _ (ni_mem h0 c)) h) fun _ => ?_) fun c => hK
  have e : IntKind.wrap IntKind.i64 (i + 1) = i + 1 := i64_in' (by omega) (by omega)
  rw [e]
  have g1 : ((w.length : Int) - (i + 1)).toNat < ((w.length : Int) - i).toNat := by omega
  exact ⟨g1, nQA _ _ _ _ K ⟨hu, rfl, rfl, by omega⟩ hK⟩
theorem hQA : LoopH Try.prog E cQA 0 (bodyX Try.prog E ctQ0 noLoops 1000 5 L0 (lpOf Try.prog 57 0)) :=
  ⟨fun d => ((d.2.1.length : Int) - d.2.2.2.1).toNat, fun dd K hK => by
    obtain ⟨u, w, n, i, ⟨⟩⟩ := dd
    obtain ⟨hI, hK⟩ := hK
    refine Tree.holds_mono (fun y hy => ?_) (hQA' u w n i K hI hK)
    cases y with
    | inl d' => exact hy
    | inr y => exact hy⟩
noncomputable def oQB (u : List Int) (i : Int) : Tree (Ex × List (V T)) := .req (okE u ∧ 1 ≤ i) (.leaf (.exit 2, []))
noncomputable def cQB : LoopC T := ⟨[.l 2, .n], ⟨38, [(0, .one (.s 2)), (5, .one (.i .i64))], []⟩, fun e => match e with
    | .ret => ⟨38, [(2, .one (.i .i64))], []⟩
    | _ => ⟨38, [], []⟩, 10, fun d => oQB d.1 d.2.1⟩
theorem bQB (u : List Int) (i : Int) : bodyD Try.prog E cQB 0 (bodyX Try.prog E ctQ0 noLoops 1000 5 L0 (lpOf Try.prog 57 1)) (u, i, ()) =
  (.br (decide (i < (↑(List.length u) : Int)))
   (.req ((decide ((0 : Int) ≤ i) && decide (i < (↑(List.length u) : Int))) = true)
   (.req ((decide ((0 : Int) ≤ IntKind.wrap IntKind.i64 (i - (1 : Int))) && decide (IntKind.wrap IntKind.i64 (i - (1 : Int)) < (↑(List.length u) : Int))) = true)
   (.br (decide (ni u i ≤ ni u (IntKind.wrap IntKind.i64 (i - (1 : Int)))))
    (.leaf (.inr (.ret, [.n ((11 : Int))])))
    (.leaf (.inl (u, (IntKind.wrap IntKind.i64 (i + (1 : Int)), ())))))))
   (.leaf (.inr (.exit (2 : Nat), [])))) := by kernel_rfl
theorem nQB (u : List Int) (i : Int) (K : Ex × List (V T) → Prop) (hI : okE u ∧ 1 ≤ i) (hK : (.leaf (.exit 2, []) : Tree (Ex × List (V T))).holds K) : (cQB.out (u, i, ())).holds K := ⟨hI, hK⟩
theorem hQB' (u : List Int) (i : Int) (K : Ex × List (V T) → Prop) (hI : okE u ∧ 1 ≤ i) (hK : (.leaf (.exit 2, []) : Tree (Ex × List (V T))).holds K) :
    (bodyD Try.prog E cQB 0 (bodyX Try.prog E ctQ0 noLoops 1000 5 L0 (lpOf Try.prog 57 1)) (u, i, ())).holds fun y => match y with
    | .inl d => ((d.1.length : Int) - d.2.1).toNat < ((u.length : Int) - i).toNat ∧ (cQB.out d).holds K
    | .inr y => K y := by
  rw [bQB]
  obtain ⟨hu, h0⟩ := hI
  have l5 := hu.1.2
  refine way (fun c => ?_) fun c => hK
  have e : IntKind.wrap IntKind.i64 (i + 1) = i + 1 := i64_in' (by omega) (by omega)
  have e2 : IntKind.wrap IntKind.i64 (i - 1) = i - 1 := i64_in' (by omega) (by omega)
  rw [e, e2]
  have g := hu.2.2 i h0 c
  have x1 : (decide (0 ≤ i) && decide (i < (u.length : Int))) = true := by simp only [Bool.and_eq_true, decide_eq_true_eq]; omega
  have x2 : (decide (0 ≤ i - 1) && decide (i - 1 < (u.length : Int))) = true := by simp only [Bool.and_eq_true, decide_eq_true_eq]; omega
  have g1 : ((u.length : Int) - (i + 1)).toNat < ((u.length : Int) - i).toNat := by omega
  exact ⟨x1, x2, way (fun q => absurd q (by omega)) fun _ => ⟨g1, nQB _ _ K ⟨hu, by omega⟩ hK⟩⟩
theorem hQB : LoopH Try.prog E cQB 0 (bodyX Try.prog E ctQ0 noLoops 1000 5 L0 (lpOf Try.prog 57 1)) :=
  ⟨fun d => ((d.1.length : Int) - d.2.1).toNat, fun dd K hK => by
    obtain ⟨u, i, ⟨⟩⟩ := dd
    obtain ⟨hI, hK⟩ := hK
    refine Tree.holds_mono (fun y hy => ?_) (hQB' u i K hI hK)
    cases y with
    | inl d' => exact hy
    | inr y => exact hy⟩
theorem llQE : LLOk Try.prog E (llOfN Try.prog E 57 0 [(6, cQA), (12, cQB)]) := llOfN_ok fun i hi c hc => by
  have hi : i < 2 := hi
  have : i = 0 ∨ i = 1 := by omega
  rcases this with rfl | rfl
  · obtain rfl : cQA = c := Option.some.inj hc
    exact LSndN.mk good names mixes ctQ0_ok (by decide) hQA
  · obtain rfl : cQB = c := Option.some.inj hc
    exact LSndN.mk good names mixes ctQ0_ok (by decide) hQB
theorem tv57 (u : List Int) : runX ctQ0 (llOfN Try.prog E 57 0 [(6, cQA), (12, cQB)]) 57 [.sl 2 u false] [30] =
  (.br ((↑(List.length u) : Int) == (0 : Int))
   (.leaf (.sym .i64 ((6 : Int))))
   (.br (decide ((↑(List.length u) : Int) > (5 : Int)))
    (.leaf (.sym .i64 ((8 : Int))))
    (.req (okE u ∧ u = u ∧ (↑(List.length u) : Int) = (↑(List.length u) : Int) ∧ (0 : Int) ≤ (0 : Int))
    (.req (okE u ∧ (1 : Int) ≤ (1 : Int))
    (.leaf (.sym .i64 ((0 : Int)))))))) := by kernel_rfl
theorem s57 (u : List Int) (h : okE u) : (runX ctQ0 (llOfN Try.prog E 57 0 [(6, cQA), (12, cQB)]) 57 [.sl 2 u false] [30]).holds fun v => v = i64 0 := by
  rw [tv57]
  have := h.1
  exact wayEq (fun c => absurd c (by omega)) fun _ => way (fun c => absurd c (by omega)) fun _ => ⟨⟨h, rfl, rfl, by decide⟩, ⟨h, by decide⟩, rfl⟩
noncomputable def cEnds : Con T := conP Try.prog [.one (.s 2)] [.l 2] (fun d => okE d.1) fun _ => i64 0
theorem ends_ok : ConOk Try.prog E 57 cEnds := conP_ok fun d hd => fact_run ctQ0_ok llQE (ts := [30]) rfl (s57 d.1 hd)
theorem tv58 (a b : List Knot) : runX ctQ0 noLoops 58 [.agg [.sl 39 a false, .sl 39 b false]] [30] =
  (.br (lineErr a (1048576 : Int) (68719476736 : Int) != (0 : Int))
   (.leaf (.sym .i64 (lineErr a (1048576 : Int) (68719476736 : Int))))
   (.leaf (.sym .i64 (lineErr b (1048576 : Int) (68719476736 : Int))))) := by kernel_rfl
theorem s58 (a b : List Knot) (h : okL ⟨⟨a⟩, ⟨b⟩⟩) : (runX ctQ0 noLoops 58 [.agg [.sl 39 a false, .sl 39 b false]] [30]).holds fun v => v = i64 0 := by
  rw [tv58]
  exact wayNe (fun c => absurd h.1 c) fun _ => congrArg i64 h.2
noncomputable def cLoad : Con T := conP Try.prog [.agg [.s 39, .s 39]] [.l 39, .l 39] (fun d => okL ⟨⟨d.1⟩, ⟨d.2.1⟩⟩) fun _ => i64 0
theorem load_ok : ConOk Try.prog E 58 cLoad := conP_ok fun d hd => fact_run ctQ0_ok noLoops_ok (ts := [30]) rfl (s58 d.1 d.2.1 hd)
theorem tv59 (a b c d e : Int) : runX ctQ0 noLoops 59 [.agg [i64 a, i64 b, i64 c, i64 d, i64 e]] [4] =
  (.br (within a (0 : Int) (68719476736 : Int))
   (.br (within b (0 : Int) (68719476736 : Int))
    (.br (within c (1 : Int) (1099511627776 : Int))
     (.br (within d (0 : Int) (1048576 : Int))
      (.leaf (.bool (within e (0 : Int) (1048576 : Int))))
      (.leaf (.bool (false))))
     (.leaf (.bool (false))))
    (.leaf (.bool (false))))
   (.leaf (.bool (false)))) := by kernel_rfl
theorem wayW {a b c : Int} {t f : Tree (AV T)} {Q : AV T → Prop} (h : b ≤ a ∧ a ≤ c) (k : t.holds Q) : (Tree.br (within a b c) t f).holds Q := ⟨fun _ => k, fun q => by rw [show within a b c = true from decide_eq_true h] at q; cases q⟩
theorem s59 (a b c d e : Int) (h : okG ⟨a, b, c, d, e⟩) : (runX ctQ0 noLoops 59 [.agg [i64 a, i64 b, i64 c, i64 d, i64 e]] [4]).holds fun v => v = .bool true := by
  rw [tv59]
  exact wayW h.1 (wayW h.2.1 (wayW h.2.2.1 (wayW h.2.2.2.1 (congrArg AV.bool (decide_eq_true h.2.2.2.2)))))
noncomputable def cGd : Con T := conP Try.prog [.agg [.i .i64, .i .i64, .i .i64, .i .i64, .i .i64]] [.n, .n, .n, .n, .n] (fun d => okG ⟨d.1, d.2.1, d.2.2.1, d.2.2.2.1, d.2.2.2.2.1⟩) fun _ => .bool true
theorem gd_ok : ConOk Try.prog E 59 cGd := conP_ok fun d hd => fact_run ctQ0_ok noLoops_ok (ts := [4]) rfl (s59 d.1 d.2.1 d.2.2.1 d.2.2.2.1 d.2.2.2.2.1 hd)
noncomputable def ctQ1 : CTab T := [(61, cWithin), (57, cEnds), (58, cLoad), (59, cGd)]
theorem ctQ1_ok : CTabOk Try.prog E ctQ1 := .cons within_ok (.cons ends_ok (.cons load_ok (.cons gd_ok .nil)))
noncomputable def oQC (ld : List Stress) (n : Int) (i : Int) (U : List Int) (D : List Stress) (H : List Grade) (F : Int) (O : Int) : Tree (Ex × List (V T)) := .req (okD D ∧ ld = D ∧ n = D.length ∧ 0 ≤ i) (.leaf (.exit 0, [.l 2 U, .l 37 D, .l 66 H, .n F, .n O]))
noncomputable def cQC : LoopC T := ⟨[.l 37, .n, .n, .l 2, .l 37, .l 66, .n, .n], ⟨61, [(1, .one (.o 0 0)), (20, .one (.s 37)), (21, .one (.i .i64)), (22, .one (.i .i64))], [.c [.s 2, .s 37, .s 66, .i .i64, .i .i64]]⟩, fun e => match e with
    | .ret => ⟨61, [(2, .one (.i .i64))], []⟩
    | _ => ⟨61, [(1, .one (.o 0 0))], [.c [.s 2, .s 37, .s 66, .i .i64, .i .i64]]⟩, 20, fun d => oQC d.1 d.2.1 d.2.2.1 d.2.2.2.1 d.2.2.2.2.1 d.2.2.2.2.2.1 d.2.2.2.2.2.2.1 d.2.2.2.2.2.2.2.1⟩
theorem bQC (ld : List Stress) (n : Int) (i : Int) (U : List Int) (D : List Stress) (H : List Grade) (F : Int) (O : Int) : bodyD Try.prog E cQC 0 (bodyX Try.prog E ctQ1 noLoops 1000 5 L0 (lpOf Try.prog 20 0)) (ld, n, i, U, D, H, F, O, ()) =
  (.br (decide (i < n))
   (.req ((decide ((0 : Int) ≤ i) && decide (i < (↑(List.length ld) : Int))) = true)
   (.req (okL (Stress.mk (Line.mk (Line.Knots (Stress.In (sx ld i)))) (Line.mk (Line.Knots (Stress.Out (sx ld i))))))
   (.br (false)
    (.leaf (.inr (.ret, [.n ((0 : Int))])))
    (.leaf (.inl (ld, (n, (IntKind.wrap IntKind.i64 (i + (1 : Int)), (U, (D, (H, (F, (O, ())))))))))))))
   (.leaf (.inr (.exit (0 : Nat), [.l (2 : Nat) (U), .l (37 : Nat) (D), .l (66 : Nat) (H), .n (F), .n (O)])))) := by kernel_rfl
theorem nQC (ld : List Stress) (n : Int) (i : Int) (U : List Int) (D : List Stress) (H : List Grade) (F : Int) (O : Int) (K : Ex × List (V T) → Prop) (hI : okD D ∧ ld = D ∧ n = D.length ∧ 0 ≤ i) (hK : (.leaf (.exit 0, [.l 2 U, .l 37 D, .l 66 H, .n F, .n O]) : Tree (Ex × List (V T))).holds K) : (cQC.out (ld, n, i, U, D, H, F, O, ())).holds K := ⟨hI, hK⟩
theorem hQC' (ld : List Stress) (n : Int) (i : Int) (U : List Int) (D : List Stress) (H : List Grade) (F : Int) (O : Int) (K : Ex × List (V T) → Prop) (hI : okD D ∧ ld = D ∧ n = D.length ∧ 0 ≤ i) (hK : (.leaf (.exit 0, [.l 2 U, .l 37 D, .l 66 H, .n F, .n O]) : Tree (Ex × List (V T))).holds K) :
    (bodyD Try.prog E cQC 0 (bodyX Try.prog E ctQ1 noLoops 1000 5 L0 (lpOf Try.prog 20 0)) (ld, n, i, U, D, H, F, O, ())).holds fun y => match y with
    | .inl d => ((d.1.length : Int) - d.2.2.1).toNat < ((ld.length : Int) - i).toNat ∧ (cQC.out d).holds K
    | .inr y => K y := by
  rw [bQC]
  obtain ⟨hu, rfl, rfl, h0⟩ := hI
  have l5 := hu.1
  refine way (fun c => wayC h0 c fun _ _ => ⟨hu.2 _ (sx_mem h0 c), ?_⟩) fun c => hK
  have e : IntKind.wrap IntKind.i64 (i + 1) = i + 1 := i64_in' (by omega) (by omega)
  rw [e]
  have g1 : ((ld.length : Int) - (i + 1)).toNat < ((ld.length : Int) - i).toNat := by omega
  exact wayF ⟨g1, nQC _ _ _ _ _ _ _ _ K ⟨hu, rfl, rfl, by omega⟩ hK⟩
theorem hQC : LoopH Try.prog E cQC 0 (bodyX Try.prog E ctQ1 noLoops 1000 5 L0 (lpOf Try.prog 20 0)) :=
  ⟨fun d => ((d.1.length : Int) - d.2.2.1).toNat, fun dd K hK => by
    obtain ⟨ld, n, i, U, D, H, F, O, ⟨⟩⟩ := dd
    obtain ⟨hI, hK⟩ := hK
    refine Tree.holds_mono (fun y hy => ?_) (hQC' ld n i U D H F O K hI hK)
    cases y with
    | inl d' => exact hy
    | inr y => exact hy⟩
noncomputable def oQD (h : List Grade) (n : Int) (i : Int) (U : List Int) (D : List Stress) (H : List Grade) (F : Int) (O : Int) : Tree (Ex × List (V T)) := .req (okH H ∧ h = H ∧ n = H.length ∧ 0 ≤ i) (.leaf (.exit 2, [.l 2 U, .l 37 D, .l 66 H, .n F, .n O]))
noncomputable def cQD : LoopC T := ⟨[.l 66, .n, .n, .l 2, .l 37, .l 66, .n, .n], ⟨61, [(1, .one (.o 0 0)), (41, .one (.s 66)), (42, .one (.i .i64)), (43, .one (.i .i64))], [.c [.s 2, .s 37, .s 66, .i .i64, .i .i64]]⟩, fun e => match e with
    | .ret => ⟨61, [(2, .one (.i .i64))], []⟩
    | _ => ⟨61, [(1, .one (.o 0 0))], [.c [.s 2, .s 37, .s 66, .i .i64, .i .i64]]⟩, 20, fun d => oQD d.1 d.2.1 d.2.2.1 d.2.2.2.1 d.2.2.2.2.1 d.2.2.2.2.2.1 d.2.2.2.2.2.2.1 d.2.2.2.2.2.2.2.1⟩
theorem bQD (h : List Grade) (n : Int) (i : Int) (U : List Int) (D : List Stress) (H : List Grade) (F : Int) (O : Int) : bodyD Try.prog E cQD 0 (bodyX Try.prog E ctQ1 noLoops 1000 5 L0 (lpOf Try.prog 20 1)) (h, n, i, U, D, H, F, O, ()) =
  (.br (decide (i < n))
   (.req ((decide ((0 : Int) ≤ i) && decide (i < (↑(List.length h) : Int))) = true)
   (.req (okG (Grade.mk (Grade.Burst (gx h i)) (Grade.Collapse (gx h i)) (Grade.Pull (gx h i)) (Grade.Weight (gx h i)) (Grade.Cost (gx h i))))
   (.br (false)
    (.leaf (.inr (.ret, [.n ((2 : Int))])))
    (.leaf (.inl (h, (n, (IntKind.wrap IntKind.i64 (i + (1 : Int)), (U, (D, (H, (F, (O, ())))))))))))))
   (.leaf (.inr (.exit (2 : Nat), [.l (2 : Nat) (U), .l (37 : Nat) (D), .l (66 : Nat) (H), .n (F), .n (O)])))) := by kernel_rfl
theorem nQD (h : List Grade) (n : Int) (i : Int) (U : List Int) (D : List Stress) (H : List Grade) (F : Int) (O : Int) (K : Ex × List (V T) → Prop) (hI : okH H ∧ h = H ∧ n = H.length ∧ 0 ≤ i) (hK : (.leaf (.exit 2, [.l 2 U, .l 37 D, .l 66 H, .n F, .n O]) : Tree (Ex × List (V T))).holds K) : (cQD.out (h, n, i, U, D, H, F, O, ())).holds K := ⟨hI, hK⟩
theorem hQD' (h : List Grade) (n : Int) (i : Int) (U : List Int) (D : List Stress) (H : List Grade) (F : Int) (O : Int) (K : Ex × List (V T) → Prop) (hI : okH H ∧ h = H ∧ n = H.length ∧ 0 ≤ i) (hK : (.leaf (.exit 2, [.l 2 U, .l 37 D, .l 66 H, .n F, .n O]) : Tree (Ex × List (V T))).holds K) :
    (bodyD Try.prog E cQD 0 (bodyX Try.prog E ctQ1 noLoops 1000 5 L0 (lpOf Try.prog 20 1)) (h, n, i, U, D, H, F, O, ())).holds fun y => match y with
    | .inl d => ((d.1.length : Int) - d.2.2.1).toNat < ((h.length : Int) - i).toNat ∧ (cQD.out d).holds K
    | .inr y => K y := by
  rw [bQD]
  obtain ⟨hu, rfl, rfl, h0⟩ := hI
  have l5 := hu.1
  refine way (fun c => wayC h0 c fun _ _ => ⟨hu.2 _ (gx_mem h0 c), ?_⟩) fun c => hK
  have e : IntKind.wrap IntKind.i64 (i + 1) = i + 1 := i64_in' (by omega) (by omega)
  rw [e]
  have g1 : ((h.length : Int) - (i + 1)).toNat < ((h.length : Int) - i).toNat := by omega
  exact wayF ⟨g1, nQD _ _ _ _ _ _ _ _ K ⟨hu, rfl, rfl, by omega⟩ hK⟩
theorem hQD : LoopH Try.prog E cQD 0 (bodyX Try.prog E ctQ1 noLoops 1000 5 L0 (lpOf Try.prog 20 1)) :=
  ⟨fun d => ((d.1.length : Int) - d.2.2.1).toNat, fun dd K hK => by
    obtain ⟨h, n, i, U, D, H, F, O, ⟨⟩⟩ := dd
    obtain ⟨hI, hK⟩ := hK
    refine Tree.holds_mono (fun y hy => ?_) (hQD' h n i U D H F O K hI hK)
    cases y with
    | inl d' => exact hy
    | inr y => exact hy⟩
@[reducible] noncomputable def jA (U : List Int) (D : List Stress) (H : List Grade) (F O : Int) : AV T := .agg [.sl 2 U false, .sl 37 D false, .sl 66 H false, i64 F, i64 O]
def okJ (U : List Int) (D : List Stress) (H : List Grade) (F O : Int) : Prop := okE U ∧ okD D ∧ okH H ∧ (1000 ≤ F ∧ F ≤ 3000) ∧ 0 ≤ O ∧ O ≤ 1099511627776
theorem llQC : LLOk Try.prog E (llOfN Try.prog E 20 0 [(7, cQC), (18, cQD)]) := llOfN_ok fun i hi c hc => by
  have hi : i < 2 := hi
  have : i = 0 ∨ i = 1 := by omega
  rcases this with rfl | rfl
  · obtain rfl : cQC = c := Option.some.inj hc
    exact LSndN.mk good names mixes ctQ1_ok (by decide) hQC
  · obtain rfl : cQD = c := Option.some.inj hc
    exact LSndN.mk good names mixes ctQ1_ok (by decide) hQD
theorem tv20 (U : List Int) (D : List Stress) (H : List Grade) (F O : Int) : runX ctQ1 (llOfN Try.prog E 20 0 [(7, cQC), (18, cQD)]) 20 [jA U D H F O] [30] =
  (.req (okE U)
  (.br (false)
   (.leaf (.sym .i64 ((0 : Int))))
   (.br (decide ((↑(List.length D) : Int) > (6 : Int)))
    (.leaf (.sym .i64 ((8 : Int))))
    (.req (okD D ∧ D = D ∧ (↑(List.length D) : Int) = (↑(List.length D) : Int) ∧ (0 : Int) ≤ (0 : Int))
    (.br ((↑(List.length H) : Int) == (0 : Int))
     (.leaf (.sym .i64 ((6 : Int))))
     (.br (decide ((↑(List.length H) : Int) > (6 : Int)))
      (.leaf (.sym .i64 ((8 : Int))))
      (.req (okH H ∧ H = H ∧ (↑(List.length H) : Int) = (↑(List.length H) : Int) ∧ (0 : Int) ≤ (0 : Int))
      (.br (!within F (1000 : Int) (3000 : Int))
       (.leaf (.sym .i64 ((2 : Int))))
       (.br (!within O (0 : Int) (1099511627776 : Int))
        (.leaf (.sym .i64 ((2 : Int))))
        (.leaf (.sym .i64 ((0 : Int))))))))))))) := by kernel_rfl
theorem s20 (U : List Int) (D : List Stress) (H : List Grade) (F O : Int) (h : okJ U D H F O) : (runX ctQ1 (llOfN Try.prog E 20 0 [(7, cQC), (18, cQD)]) 20 [jA U D H F O] [30]).holds fun v => v = i64 0 := by
  rw [tv20]
  obtain ⟨h1, h2, h3, h4, h5⟩ := h
  have a := h2.1
  have b := h3.1
  exact ⟨h1, wayF (way (fun c => absurd c (by omega)) fun _ => ⟨⟨h2, rfl, rfl, by decide⟩, wayEq (fun c => absurd c (by omega)) fun _ => way (fun c => absurd c (by omega)) fun _ => ⟨⟨h3, rfl, rfl, by decide⟩, wayN (fun c => absurd h4 c) fun _ => wayN (fun c => absurd h5 c) fun _ => rfl⟩⟩)⟩
noncomputable def shJ : Sh := .agg [.s 2, .s 37, .s 66, .i .i64, .i .i64]
noncomputable def cCk : Con T := conP Try.prog [.agg [.s 2, .s 37, .s 66, .i .i64, .i .i64]] [.l 2, .l 37, .l 66, .n, .n] (fun d => okJ d.1 d.2.1 d.2.2.1 d.2.2.2.1 d.2.2.2.2.1) fun _ => i64 0
theorem ck_ok : ConOk Try.prog E 20 cCk := conP_ok fun d hd => fact_run ctQ1_ok llQC (ts := [30]) rfl (s20 d.1 d.2.1 d.2.2.1 d.2.2.2.1 d.2.2.2.2.1 hd)
noncomputable def oQI (c : List Int) (U : List Int) (D : List Stress) (H : List Grade) (F : Int) (O : Int) (n : Int) (i : Int) : Tree (Ex × List (V T)) := .req (okC c H.length ∧ n = c.length ∧ 0 ≤ i) (.leaf (.exit 0, []))
noncomputable def cQI : LoopC T := ⟨[.l 3, .l 2, .l 37, .l 66, .n, .n, .n, .n], ⟨19, [(0, .one (.s 3)), (1, .fn 107 [.r [.s 2, .s 37, .s 66, .i .i64, .i .i64]]), (7, .one (.i .i64)), (8, .one (.i .i64))], []⟩, fun e => match e with
    | .ret => ⟨19, [(4, .one (.i .i64))], []⟩
    | _ => ⟨19, [], []⟩, 20, fun d => oQI d.1 d.2.1 d.2.2.1 d.2.2.2.1 d.2.2.2.2.1 d.2.2.2.2.2.1 d.2.2.2.2.2.2.1 d.2.2.2.2.2.2.2.1⟩
theorem bQI (c : List Int) (U : List Int) (D : List Stress) (H : List Grade) (F : Int) (O : Int) (n : Int) (i : Int) : bodyD Try.prog E cQI 0 (bodyX Try.prog E ctQ1 noLoops 1000 5 L0 (lpOf Try.prog 119 0)) (c, U, D, H, F, O, n, i, ()) =
  (.br (decide (i < n))
   (.req ((decide ((0 : Int) ≤ i) && decide (i < (↑(List.length c) : Int))) = true)
   (.br (decide (n3 c i < (0 : Int)))
    (.leaf (.inr (.ret, [.n (i)])))
    (.br (decide (n3 c i ≥ (↑(List.length H) : Int)))
     (.leaf (.inr (.ret, [.n (i)])))
     (.leaf (.inl (c, (U, (D, (H, (F, (O, (n, (IntKind.wrap IntKind.i64 (i + (1 : Int)), ())))))))))))))
   (.leaf (.inr (.exit (0 : Nat), [])))) := by kernel_rfl
theorem nQI (c : List Int) (U : List Int) (D : List Stress) (H : List Grade) (F : Int) (O : Int) (n : Int) (i : Int) (K : Ex × List (V T) → Prop) (hI : okC c H.length ∧ n = c.length ∧ 0 ≤ i) (hK : (.leaf (.exit 0, []) : Tree (Ex × List (V T))).holds K) : (cQI.out (c, U, D, H, F, O, n, i, ())).holds K := ⟨hI, hK⟩
theorem hQI' (c : List Int) (U : List Int) (D : List Stress) (H : List Grade) (F : Int) (O : Int) (n : Int) (i : Int) (K : Ex × List (V T) → Prop) (hI : okC c H.length ∧ n = c.length ∧ 0 ≤ i) (hK : (.leaf (.exit 0, []) : Tree (Ex × List (V T))).holds K) :
    (bodyD Try.prog E cQI 0 (bodyX Try.prog E ctQ1 noLoops 1000 5 L0 (lpOf Try.prog 119 0)) (c, U, D, H, F, O, n, i, ())).holds fun y => match y with
    | .inl d => ((d.1.length : Int) - d.2.2.2.2.2.2.2.1).toNat < ((c.length : Int) - i).toNat ∧ (cQI.out d).holds K
    | .inr y => K y := by
  rw [bQI]
  obtain ⟨hu, rfl, h0⟩ := hI
  have l5 := hu.1
  refine way (fun q => wayC h0 q fun _ _ => ?_) fun q => hK
  have m := hu.2 _ (n3_mem h0 q)
  have e : IntKind.wrap IntKind.i64 (i + 1) = i + 1 := i64_in' (by omega) (by omega)
  rw [e]
  have g1 : ((c.length : Int) - (i + 1)).toNat < ((c.length : Int) - i).toNat := by omega
  exact way (fun q => absurd q (by omega)) fun _ => way (fun q => absurd q (by omega)) fun _ => ⟨g1, nQI _ _ _ _ _ _ _ _ K ⟨hu, rfl, by omega⟩ hK⟩
theorem hQI : LoopH Try.prog E cQI 0 (bodyX Try.prog E ctQ1 noLoops 1000 5 L0 (lpOf Try.prog 119 0)) :=
  ⟨fun d => ((d.1.length : Int) - d.2.2.2.2.2.2.2.1).toNat, fun dd K hK => by
    obtain ⟨c, U, D, H, F, O, n, i, ⟨⟩⟩ := dd
    obtain ⟨hI, hK⟩ := hK
    refine Tree.holds_mono (fun y hy => ?_) (hQI' c U D H F O n i K hI hK)
    cases y with
    | inl d' => exact hy
    | inr y => exact hy⟩
theorem llQI : LLOk Try.prog E (llOfN Try.prog E 119 0 [(2, cQI)]) := llOfN_ok fun i hi c hc => by
  have hi : i < 1 := hi
  obtain rfl : i = 0 := by omega
  obtain rfl : cQI = c := Option.some.inj hc
  exact LSndN.mk good names mixes ctQ1_ok (by decide) hQI
theorem tv119 (c U : List Int) (D : List Stress) (H : List Grade) (F O : Int) : runX ctQ1 (llOfN Try.prog E 119 0 [(2, cQI)]) 119 [.sl 3 c false, .fn 107 [.rp [.sl 2 U false, .sl 37 D false, .sl 66 H false, i64 F, i64 O]]] [3] =
  (.req (okC c (List.length H) ∧ (↑(List.length c) : Int) = (↑(List.length c) : Int) ∧ (0 : Int) ≤ (0 : Int))
  (.leaf (.sym .i64 ((-1 : Int))))) := by kernel_rfl
theorem s119 (c U : List Int) (D : List Stress) (H : List Grade) (F O : Int) (h : okC c H.length) : (runX ctQ1 (llOfN Try.prog E 119 0 [(2, cQI)]) 119 [.sl 3 c false, .fn 107 [.rp [.sl 2 U false, .sl 37 D false, .sl 66 H false, i64 F, i64 O]]] [3]).holds fun v => v = i64 (-1) := by
  rw [tv119]
  exact ⟨⟨h, rfl, by decide⟩, rfl⟩
theorem fact_runF {ct : CTab T} (hc : CTabOk Try.prog E ct) {ll : Nat → Nat → LoopTab T} (hl : LLOk Try.prog E ll) {f : Nat} {xs : List (AV T)} {ts : List Nat} {v : AV T} (ha : xs.all flt3 = true)
    (h : (runX ct ll f xs ts).holds fun x => x = v) : Fact Try.prog E f xs v :=
  fact_of_run3 good decOk (callX_ok good names mixes hc hl 8) ha h
noncomputable def cIx : Con T := conFP Try.prog E [44, 131] [.one (.s 3), .fn 107 [.r [.s 2, .s 37, .s 66, .i .i64, .i .i64]]] [.l 3, .l 2, .l 37, .l 66, .n, .n] (fun d => okC d.1 (d.2.2.2.1 : List Grade).length) fun d => i64 (-1)
theorem ix_ok : ConOk Try.prog E 119 cIx := conFP_ok good decOk fun d hd => fact_runF ctQ1_ok llQI (ts := [3]) rfl (s119 d.1 d.2.1 d.2.2.1 d.2.2.2.1 d.2.2.2.2.1 d.2.2.2.2.2.1 hd)
noncomputable def ctQ2 : CTab T := [(119, cIx)]
theorem ctQ2_ok : CTabOk Try.prog E ctQ2 := .cons ix_ok .nil
theorem tv75 (U : List Int) (D : List Stress) (H : List Grade) (F O : Int) (c : List Int) : runX ctQ2 noLoops 75 [jA U D H F O, .sl 3 c false] [4] =
  (.br ((↑(List.length c) : Int) == (↑(List.length U) : Int))
   (.req (okC c (List.length H))
   (.leaf (.bool (true))))
   (.leaf (.bool (false)))) := by kernel_rfl
theorem s75 (U : List Int) (D : List Stress) (H : List Grade) (F O : Int) (c : List Int) (h : c.length = U.length ∧ okC c H.length) : (runX ctQ2 noLoops 75 [jA U D H F O, .sl 3 c false] [4]).holds fun v => v = .bool true := by
  rw [tv75]
  exact wayEq (fun _ => ⟨h.2, rfl⟩) fun q => absurd (congrArg Int.ofNat h.1) q
noncomputable def cIsC : Con T := conP Try.prog [.agg [.s 2, .s 37, .s 66, .i .i64, .i .i64], .one (.s 3)] [.l 2, .l 37, .l 66, .n, .n, .l 3] (fun d => (d.2.2.2.2.2.1 : List Int).length = (d.1 : List Int).length ∧ okC d.2.2.2.2.2.1 (d.2.2.1 : List Grade).length) fun _ => .bool true
theorem isC_ok : ConOk Try.prog E 75 cIsC := conP_ok fun d hd => fact_run ctQ2_ok noLoops_ok (ts := [4]) rfl (s75 d.1 d.2.1 d.2.2.1 d.2.2.2.1 d.2.2.2.2.1 d.2.2.2.2.2.1 hd)
end Go.Proofs.Ytcddppakogialaa.W.Jb
end

set_option linter.unusedVariables false
set_option maxRecDepth 100000
set_option maxHeartbeats 4000000
noncomputable section
namespace Go.Proofs.Ytcddppakogialaa.W.Jb
open Go Go.Cx Go.RowKit
noncomputable def runU (fuel : Nat) (ct : CTab T) (fl : List Nat) (f : Nat) (xs : List (AV T)) (ts : List Nat) : Tree (AV T) := resN Try.prog fl ts (callX Try.prog E ct noLoops fuel 8 (.fn f) xs hp0)
noncomputable def Z0 (U : List Int) (H : List Grade) (O : Int) (c : List Int) : List Int := (List.replicate (Int.toNat (↑(List.length c) : Int)) (0 : Int))
noncomputable def Z1 (U : List Int) (H : List Grade) (O : Int) (c : List Int) : List Int := (List.set (Z0 U H O c) (0 : Nat) (IntKind.wrap IntKind.i64 (ni (Z0 U H O c) (0 : Int) + IntKind.wrap IntKind.i64 (Grade.Weight (gx H (n3 c (0 : Int))) * IntKind.wrap IntKind.i64 (ni U (0 : Int) - (0 : Int))))))
noncomputable def Z2 (U : List Int) (H : List Grade) (O : Int) (c : List Int) : List Int := (List.set (Z1 U H O c) (0 : Nat) (IntKind.wrap IntKind.i64 (ni (Z1 U H O c) (0 : Int) + O)))
noncomputable def Z3 (U : List Int) (H : List Grade) (O : Int) (c : List Int) : List Int := (List.set (Z2 U H O c) (0 : Nat) (IntKind.wrap IntKind.i64 (ni (Z2 U H O c) (0 : Int) + IntKind.wrap IntKind.i64 (Grade.Weight (gx H (n3 c (1 : Int))) * IntKind.wrap IntKind.i64 (ni U (1 : Int) - ni U (0 : Int))))))
noncomputable def Z4 (U : List Int) (H : List Grade) (O : Int) (c : List Int) : List Int := (List.set (Z3 U H O c) (1 : Nat) (IntKind.wrap IntKind.i64 (ni (Z3 U H O c) (1 : Int) + IntKind.wrap IntKind.i64 (Grade.Weight (gx H (n3 c (1 : Int))) * IntKind.wrap IntKind.i64 (ni U (1 : Int) - ni U (0 : Int))))))
noncomputable def Z5 (U : List Int) (H : List Grade) (O : Int) (c : List Int) : List Int := (List.set (Z4 U H O c) (1 : Nat) (IntKind.wrap IntKind.i64 (ni (Z4 U H O c) (1 : Int) + O)))
noncomputable def Z6 (U : List Int) (H : List Grade) (O : Int) (c : List Int) : List Int := (List.set (Z5 U H O c) (0 : Nat) (IntKind.wrap IntKind.i64 (ni (Z5 U H O c) (0 : Int) + IntKind.wrap IntKind.i64 (Grade.Weight (gx H (n3 c (2 : Int))) * IntKind.wrap IntKind.i64 (ni U (2 : Int) - ni U (1 : Int))))))
noncomputable def Z7 (U : List Int) (H : List Grade) (O : Int) (c : List Int) : List Int := (List.set (Z6 U H O c) (1 : Nat) (IntKind.wrap IntKind.i64 (ni (Z6 U H O c) (1 : Int) + IntKind.wrap IntKind.i64 (Grade.Weight (gx H (n3 c (2 : Int))) * IntKind.wrap IntKind.i64 (ni U (2 : Int) - ni U (1 : Int))))))
noncomputable def Z8 (U : List Int) (H : List Grade) (O : Int) (c : List Int) : List Int := (List.set (Z7 U H O c) (2 : Nat) (IntKind.wrap IntKind.i64 (ni (Z7 U H O c) (2 : Int) + IntKind.wrap IntKind.i64 (Grade.Weight (gx H (n3 c (2 : Int))) * IntKind.wrap IntKind.i64 (ni U (2 : Int) - ni U (1 : Int))))))
noncomputable def Z9 (U : List Int) (H : List Grade) (O : Int) (c : List Int) : List Int := (List.set (Z8 U H O c) (2 : Nat) (IntKind.wrap IntKind.i64 (ni (Z8 U H O c) (2 : Int) + O)))
noncomputable def Z10 (U : List Int) (H : List Grade) (O : Int) (c : List Int) : List Int := (List.set (Z9 U H O c) (0 : Nat) (IntKind.wrap IntKind.i64 (ni (Z9 U H O c) (0 : Int) + IntKind.wrap IntKind.i64 (Grade.Weight (gx H (n3 c (3 : Int))) * IntKind.wrap IntKind.i64 (ni U (3 : Int) - ni U (2 : Int))))))
noncomputable def Z11 (U : List Int) (H : List Grade) (O : Int) (c : List Int) : List Int := (List.set (Z10 U H O c) (1 : Nat) (IntKind.wrap IntKind.i64 (ni (Z10 U H O c) (1 : Int) + IntKind.wrap IntKind.i64 (Grade.Weight (gx H (n3 c (3 : Int))) * IntKind.wrap IntKind.i64 (ni U (3 : Int) - ni U (2 : Int))))))
noncomputable def Z12 (U : List Int) (H : List Grade) (O : Int) (c : List Int) : List Int := (List.set (Z11 U H O c) (2 : Nat) (IntKind.wrap IntKind.i64 (ni (Z11 U H O c) (2 : Int) + IntKind.wrap IntKind.i64 (Grade.Weight (gx H (n3 c (3 : Int))) * IntKind.wrap IntKind.i64 (ni U (3 : Int) - ni U (2 : Int))))))
theorem tv80 (U : List Int) (D : List Stress) (H : List Grade) (F O : Int) (c : List Int) : runU 4 [] [2] 80 [jA U D H F O, .sl 3 c false] [22] = 
 (.req ((0 : Int) ≤ (↑(List.length c) : Int) ∧ (↑(List.length c) : Int) = (↑(List.length c) : Int) ∧ (↑(List.length c) : Int) ≤ (1073741824 : Int)) 
 (.br (decide ((0 : Int) < (↑(List.length U) : Int))) 
 (.req ((true && decide ((0 : Int) < (↑(List.length U) : Int))) = true) 
 (.req ((true && decide ((0 : Int) < (↑(List.length c) : Int))) = true) 
 (.req ((decide ((0 : Int) ≤ n3 c (0 : Int)) && decide (n3 c (0 : Int) < (↑(List.length H) : Int))) = true) 
 (.req ((true && decide ((0 : Int) < (↑(Int.toNat (↑(List.length c) : Int)) : Int))) = true) 
 (.req ((true && decide ((0 : Int) < (↑(List.length (Z0 U H O c)) : Int))) = true) 
 (.req ((true && decide ((0 : Int) < (↑(Int.toNat (↑(List.length c) : Int)) : Int))) = true) 
 (.req ((true && decide ((0 : Int) < (↑(List.length (Z0 U H O c)) : Int))) = true) 
 (.req ((true && decide ((0 : Int) < (↑(Int.toNat (↑(List.length c) : Int)) : Int))) = true) 
 (.req ((true && decide ((0 : Int) < (↑(List.length (Z1 U H O c)) : Int))) = true) 
 (.req ((true && decide ((0 : Int) < (↑(Int.toNat (↑(List.length c) : Int)) : Int))) = true) 
 (.req ((true && decide ((0 : Int) < (↑(List.length (Z1 U H O c)) : Int))) = true) 
 (.br (decide ((1 : Int) < (↑(List.length U) : Int))) 
 (.req ((true && decide ((1 : Int) < (↑(List.length U) : Int))) = true) 
 (.req ((true && decide ((1 : Int) < (↑(List.length c) : Int))) = true) 
 (.req ((decide ((0 : Int) ≤ n3 c (1 : Int)) && decide (n3 c (1 : Int) < (↑(List.length H) : Int))) = true) 
 (.req ((true && decide ((0 : Int) < (↑(Int.toNat (↑(List.length c) : Int)) : Int))) = true) 
 (.req ((true && decide ((0 : Int) < (↑(List.length (Z2 U H O c)) : Int))) = true) 
 (.req ((true && decide ((0 : Int) < (↑(Int.toNat (↑(List.length c) : Int)) : Int))) = true) 
 (.req ((true && decide ((0 : Int) < (↑(List.length (Z2 U H O c)) : Int))) = true) 
 (.req ((true && decide ((1 : Int) < (↑(Int.toNat (↑(List.length c) : Int)) : Int))) = true) 
 (.req ((true && decide ((1 : Int) < (↑(List.length (Z3 U H O c)) : Int))) = true) 
 (.req ((true && decide ((1 : Int) < (↑(Int.toNat (↑(List.length c) : Int)) : Int))) = true) 
 (.req ((true && decide ((1 : Int) < (↑(List.length (Z3 U H O c)) : Int))) = true) 
 (.req ((true && decide ((1 : Int) < (↑(Int.toNat (↑(List.length c) : Int)) : Int))) = true) 
 (.req ((true && decide ((1 : Int) < (↑(List.length (Z4 U H O c)) : Int))) = true) 
 (.req ((true && decide ((1 : Int) < (↑(Int.toNat (↑(List.length c) : Int)) : Int))) = true) 
 (.req ((true && decide ((1 : Int) < (↑(List.length (Z4 U H O c)) : Int))) = true) 
 (.br (decide ((2 : Int) < (↑(List.length U) : Int))) 
 (.req ((true && decide ((2 : Int) < (↑(List.length U) : Int))) = true) 
 (.req ((true && decide ((2 : Int) < (↑(List.length c) : Int))) = true) 
 (.req ((decide ((0 : Int) ≤ n3 c (2 : Int)) && decide (n3 c (2 : Int) < (↑(List.length H) : Int))) = true) 
 (.req ((true && decide ((0 : Int) < (↑(Int.toNat (↑(List.length c) : Int)) : Int))) = true) 
 (.req ((true && decide ((0 : Int) < (↑(List.length (Z5 U H O c)) : Int))) = true) 
 (.req ((true && decide ((0 : Int) < (↑(Int.toNat (↑(List.length c) : Int)) : Int))) = true) 
 (.req ((true && decide ((0 : Int) < (↑(List.length (Z5 U H O c)) : Int))) = true) 
 (.req ((true && decide ((1 : Int) < (↑(Int.toNat (↑(List.length c) : Int)) : Int))) = true) 
 (.req ((true && decide ((1 : Int) < (↑(List.length (Z6 U H O c)) : Int))) = true) 
 (.req ((true && decide ((1 : Int) < (↑(Int.toNat (↑(List.length c) : Int)) : Int))) = true) 
 (.req ((true && decide ((1 : Int) < (↑(List.length (Z6 U H O c)) : Int))) = true) 
 (.req ((true && decide ((2 : Int) < (↑(Int.toNat (↑(List.length c) : Int)) : Int))) = true) 
 (.req ((true && decide ((2 : Int) < (↑(List.length (Z7 U H O c)) : Int))) = true) 
 (.req ((true && decide ((2 : Int) < (↑(Int.toNat (↑(List.length c) : Int)) : Int))) = true) 
 (.req ((true && decide ((2 : Int) < (↑(List.length (Z7 U H O c)) : Int))) = true) 
 (.req ((true && decide ((2 : Int) < (↑(Int.toNat (↑(List.length c) : Int)) : Int))) = true) 
 (.req ((true && decide ((2 : Int) < (↑(List.length (Z8 U H O c)) : Int))) = true) 
 (.req ((true && decide ((2 : Int) < (↑(Int.toNat (↑(List.length c) : Int)) : Int))) = true) 
 (.req ((true && decide ((2 : Int) < (↑(List.length (Z8 U H O c)) : Int))) = true) 
 (.br (decide ((3 : Int) < (↑(List.length U) : Int))) 
 (.req ((true && decide ((3 : Int) < (↑(List.length U) : Int))) = true) 
 (.req ((true && decide ((3 : Int) < (↑(List.length c) : Int))) = true) 
 (.req ((decide ((0 : Int) ≤ n3 c (3 : Int)) && decide (n3 c (3 : Int) < (↑(List.length H) : Int))) = true) 
 (.req ((true && decide ((0 : Int) < (↑(Int.toNat (↑(List.length c) : Int)) : Int))) = true) 
 (.req ((true && decide ((0 : Int) < (↑(List.length (Z9 U H O c)) : Int))) = true) 
 (.req ((true && decide ((0 : Int) < (↑(Int.toNat (↑(List.length c) : Int)) : Int))) = true) 
 (.req ((true && decide ((0 : Int) < (↑(List.length (Z9 U H O c)) : Int))) = true) 
 (.req ((true && decide ((1 : Int) < (↑(Int.toNat (↑(List.length c) : Int)) : Int))) = true) 
 (.req ((true && decide ((1 : Int) < (↑(List.length (Z10 U H O c)) : Int))) = true) 
 (.req ((true && decide ((1 : Int) < (↑(Int.toNat (↑(List.length c) : Int)) : Int))) = true) 
 (.req ((true && decide ((1 : Int) < (↑(List.length (Z10 U H O c)) : Int))) = true) 
 (.req ((true && decide ((2 : Int) < (↑(Int.toNat (↑(List.length c) : Int)) : Int))) = true) 
 (.req ((true && decide ((2 : Int) < (↑(List.length (Z11 U H O c)) : Int))) = true) 
 (.req ((true && decide ((2 : Int) < (↑(Int.toNat (↑(List.length c) : Int)) : Int))) = true) 
 (.req ((true && decide ((2 : Int) < (↑(List.length (Z11 U H O c)) : Int))) = true) 
 (.req ((true && decide ((3 : Int) < (↑(Int.toNat (↑(List.length c) : Int)) : Int))) = true) 
 (.req ((true && decide ((3 : Int) < (↑(List.length (Z12 U H O c)) : Int))) = true) 
 (.req ((true && decide ((3 : Int) < (↑(Int.toNat (↑(List.length c) : Int)) : Int))) = true) 
 (.req ((true && decide ((3 : Int) < (↑(List.length (Z12 U H O c)) : Int))) = true) .fail))))))))))))))))))) 
 (.req (Int.toNat (↑(List.length c) : Int) = List.length (Z9 U H O c)) (.leaf (.sl (2 : Nat) (Z9 U H O c) false))))))))))))))))))))))) 
 (.req (Int.toNat (↑(List.length c) : Int) = List.length (Z5 U H O c)) (.leaf (.sl (2 : Nat) (Z5 U H O c) false))))))))))))))))))) 
 (.req (Int.toNat (↑(List.length c) : Int) = List.length (Z2 U H O c)) (.leaf (.sl (2 : Nat) (Z2 U H O c) false))))))))))))))) 
 (.req (Int.toNat (↑(List.length c) : Int) = List.length (Z0 U H O c)) (.leaf (.sl (2 : Nat) (Z0 U H O c) false))))) := by kernel_rfl
end Go.Proofs.Ytcddppakogialaa.W.Jb
end

set_option linter.unusedVariables false
set_option maxRecDepth 100000
set_option maxHeartbeats 4000000
noncomputable section
namespace Go.Proofs.Ytcddppakogialaa.W.Jb
open Go Go.Cx Go.RowKit
theorem rq {a : Int} {m : Nat} (h : a < m) : (true && decide (a < (m : Int))) = true := by simp [h]
theorem Z0_len (U : List Int) (H : List Grade) (O : Int) (c : List Int) : (Z0 U H O c).length = c.length := by unfold Z0; rw [List.length_replicate]; omega
theorem Z1_len (U : List Int) (H : List Grade) (O : Int) (c : List Int) : (Z1 U H O c).length = c.length := by unfold Z1; rw [List.length_set]; exact Z0_len U H O c
theorem Z2_len (U : List Int) (H : List Grade) (O : Int) (c : List Int) : (Z2 U H O c).length = c.length := by unfold Z2; rw [List.length_set]; exact Z1_len U H O c
theorem Z3_len (U : List Int) (H : List Grade) (O : Int) (c : List Int) : (Z3 U H O c).length = c.length := by unfold Z3; rw [List.length_set]; exact Z2_len U H O c
theorem Z4_len (U : List Int) (H : List Grade) (O : Int) (c : List Int) : (Z4 U H O c).length = c.length := by unfold Z4; rw [List.length_set]; exact Z3_len U H O c
theorem Z5_len (U : List Int) (H : List Grade) (O : Int) (c : List Int) : (Z5 U H O c).length = c.length := by unfold Z5; rw [List.length_set]; exact Z4_len U H O c
theorem Z6_len (U : List Int) (H : List Grade) (O : Int) (c : List Int) : (Z6 U H O c).length = c.length := by unfold Z6; rw [List.length_set]; exact Z5_len U H O c
theorem Z7_len (U : List Int) (H : List Grade) (O : Int) (c : List Int) : (Z7 U H O c).length = c.length := by unfold Z7; rw [List.length_set]; exact Z6_len U H O c
theorem Z8_len (U : List Int) (H : List Grade) (O : Int) (c : List Int) : (Z8 U H O c).length = c.length := by unfold Z8; rw [List.length_set]; exact Z7_len U H O c
theorem Z9_len (U : List Int) (H : List Grade) (O : Int) (c : List Int) : (Z9 U H O c).length = c.length := by unfold Z9; rw [List.length_set]; exact Z8_len U H O c
theorem Z10_len (U : List Int) (H : List Grade) (O : Int) (c : List Int) : (Z10 U H O c).length = c.length := by unfold Z10; rw [List.length_set]; exact Z9_len U H O c
theorem Z11_len (U : List Int) (H : List Grade) (O : Int) (c : List Int) : (Z11 U H O c).length = c.length := by unfold Z11; rw [List.length_set]; exact Z10_len U H O c
theorem Z12_len (U : List Int) (H : List Grade) (O : Int) (c : List Int) : (Z12 U H O c).length = c.length := by unfold Z12; rw [List.length_set]; exact Z11_len U H O c
noncomputable def gW (H : List Grade) (c : List Int) (i : Int) : Int := (gx H (n3 c i)).Weight
noncomputable def W0 (U : List Int) (H : List Grade) (c : List Int) : Int := gW H c 0 * (ni U 0 - 0)
noncomputable def W1 (U : List Int) (H : List Grade) (c : List Int) : Int := gW H c 1 * (ni U 1 - ni U 0)
noncomputable def W2 (U : List Int) (H : List Grade) (c : List Int) : Int := gW H c 2 * (ni U 2 - ni U 1)
noncomputable def plS (U : List Int) (H : List Grade) (O : Int) (c : List Int) : List Int :=
  if U.length = 1 then [W0 U H c + O] else if U.length = 2 then [W0 U H c + O + W1 U H c, W1 U H c + O] else [W0 U H c + O + W1 U H c + W2 U H c, W1 U H c + O + W2 U H c, W2 U H c + O]
def okP (U : List Int) (H : List Grade) (O : Int) (c : List Int) : Prop := (c.length = U.length ∧ okC c H.length) ∧ okE U ∧ okH H ∧ (0 ≤ O ∧ O ≤ 1099511627776) ∧ U.length ≤ 3
theorem wt_bd {g d : Int} (hg : 0 ≤ g ∧ g ≤ 1048576) (hd : 0 ≤ d ∧ d ≤ 1048576) : (0 ≤ g * d ∧ g * d ≤ 1099511627776) ∧ IntKind.wrap IntKind.i64 (g * IntKind.wrap IntKind.i64 d) = g * d := by
  have m := mulb hg.1 hg.2 hd.1 hd.2
  rw [i64_in' (n := d) (by omega) (by omega)]
  exact ⟨⟨m.1, by omega⟩, i64_in' (by omega) (by omega)⟩
theorem gW_bd {U : List Int} {H : List Grade} {O : Int} {c : List Int} (h : okP U H O c) {i : Int} (h0 : 0 ≤ i) (h1 : i < c.length) : (0 ≤ gW H c i ∧ gW H c i ≤ 1048576) ∧ (decide (0 ≤ n3 c i) && decide (n3 c i < (H.length : Int))) = true := by
  obtain ⟨⟨_, hc⟩, _, hh, _⟩ := h
  have m := hc.2 _ (n3_mem h0 h1)
  have g := hh.2 _ (gx_mem (l := H) m.1 m.2)
  exact ⟨g.2.2.2.1, by simp only [Bool.and_eq_true, decide_eq_true_eq]; exact m⟩
theorem zz1 {U : List Int} {H : List Grade} {O : Int} {c : List Int} (h : okP U H O c) (hn : U.length = 1) : Z2 U H O c = plS U H O c := by
  have hc : c.length = 1 := h.1.1.trans hn
  obtain ⟨_, he, _, ho, _⟩ := id h
  have m0 := he.2.1 _ (ni_mem (l := U) (i := 0) (by decide) (by omega))
  obtain ⟨b0, w0⟩ := wt_bd (d := ni U 0 - 0) (gW_bd h (i := 0) (by decide) (by omega)).1 ⟨by omega, by omega⟩
  have b0 : 0 ≤ W0 U H c ∧ W0 U H c ≤ 1099511627776 := b0
  have w0 : IntKind.wrap IntKind.i64 (Grade.Weight (gx H (n3 c 0)) * IntKind.wrap IntKind.i64 (ni U 0 - 0)) = W0 U H c := w0
  have z0 : Z0 U H O c = [0] := by unfold Z0; rw [hc]; rfl
  have z1 : Z1 U H O c = [W0 U H c] := by
    unfold Z1
    rw [z0]
    show [IntKind.wrap IntKind.i64 (0 + IntKind.wrap IntKind.i64 (Grade.Weight (gx H (n3 c 0)) * IntKind.wrap IntKind.i64 (ni U 0 - 0)))] = _
    rw [w0]
    rw [i64_in' (n := 0 + W0 U H c) (by omega) (by omega), Int.zero_add]
  have z2 : Z2 U H O c = [W0 U H c + O] := by
    unfold Z2
    rw [z1]
    show [IntKind.wrap IntKind.i64 (W0 U H c + O)] = _
    rw [i64_in' (n := W0 U H c + O) (by omega) (by omega)]
  rw [z2]
  unfold plS
  rw [if_pos hn]
theorem zz2 {U : List Int} {H : List Grade} {O : Int} {c : List Int} (h : okP U H O c) (hn : U.length = 2) : Z5 U H O c = plS U H O c := by
  have hc : c.length = 2 := h.1.1.trans hn
  obtain ⟨_, he, _, ho, _⟩ := id h
  have m0 := he.2.1 _ (ni_mem (l := U) (i := 0) (by decide) (by omega))
  obtain ⟨b0, w0⟩ := wt_bd (d := ni U 0 - 0) (gW_bd h (i := 0) (by decide) (by omega)).1 ⟨by omega, by omega⟩
  have b0 : 0 ≤ W0 U H c ∧ W0 U H c ≤ 1099511627776 := b0
  have w0 : IntKind.wrap IntKind.i64 (Grade.Weight (gx H (n3 c 0)) * IntKind.wrap IntKind.i64 (ni U 0 - 0)) = W0 U H c := w0
  have m1 := he.2.1 _ (ni_mem (l := U) (i := 1) (by decide) (by omega))
  have a1 : ni U 0 < ni U 1 := he.2.2 1 (by decide) (by omega)
  obtain ⟨b1, w1⟩ := wt_bd (d := ni U 1 - ni U 0) (gW_bd h (i := 1) (by decide) (by omega)).1 ⟨by omega, by omega⟩
  have b1 : 0 ≤ W1 U H c ∧ W1 U H c ≤ 1099511627776 := b1
  have w1 : IntKind.wrap IntKind.i64 (Grade.Weight (gx H (n3 c 1)) * IntKind.wrap IntKind.i64 (ni U 1 - ni U 0)) = W1 U H c := w1
  have z0 : Z0 U H O c = [0, 0] := by unfold Z0; rw [hc]; rfl
  have z1 : Z1 U H O c = [W0 U H c, 0] := by
    unfold Z1
    rw [z0]
    show [IntKind.wrap IntKind.i64 (0 + IntKind.wrap IntKind.i64 (Grade.Weight (gx H (n3 c 0)) * IntKind.wrap IntKind.i64 (ni U 0 - 0))), 0] = _
    rw [w0]
    rw [i64_in' (n := 0 + W0 U H c) (by omega) (by omega), Int.zero_add]
  have z2 : Z2 U H O c = [W0 U H c + O, 0] := by
    unfold Z2
    rw [z1]
    show [IntKind.wrap IntKind.i64 (W0 U H c + O), 0] = _
    rw [i64_in' (n := W0 U H c + O) (by omega) (by omega)]
  have z3 : Z3 U H O c = [W0 U H c + O + W1 U H c, 0] := by
    unfold Z3
    rw [z2]
    show [IntKind.wrap IntKind.i64 (W0 U H c + O + IntKind.wrap IntKind.i64 (Grade.Weight (gx H (n3 c 1)) * IntKind.wrap IntKind.i64 (ni U 1 - ni U 0))), 0] = _
    rw [w1]
    rw [i64_in' (n := W0 U H c + O + W1 U H c) (by omega) (by omega)]
  have z4 : Z4 U H O c = [W0 U H c + O + W1 U H c, W1 U H c] := by
    unfold Z4
    rw [z3]
    show [W0 U H c + O + W1 U H c, IntKind.wrap IntKind.i64 (0 + IntKind.wrap IntKind.i64 (Grade.Weight (gx H (n3 c 1)) * IntKind.wrap IntKind.i64 (ni U 1 - ni U 0)))] = _
    rw [w1]
    rw [i64_in' (n := 0 + W1 U H c) (by omega) (by omega), Int.zero_add]
  have z5 : Z5 U H O c = [W0 U H c + O + W1 U H c, W1 U H c + O] := by
    unfold Z5
    rw [z4]
    show [W0 U H c + O + W1 U H c, IntKind.wrap IntKind.i64 (W1 U H c + O)] = _
    rw [i64_in' (n := W1 U H c + O) (by omega) (by omega)]
  rw [z5]
  unfold plS
  rw [if_neg (by omega), if_pos hn]
theorem zz3 {U : List Int} {H : List Grade} {O : Int} {c : List Int} (h : okP U H O c) (hn : U.length = 3) : Z9 U H O c = plS U H O c := by
  have hc : c.length = 3 := h.1.1.trans hn
  obtain ⟨_, he, _, ho, _⟩ := id h
  have m0 := he.2.1 _ (ni_mem (l := U) (i := 0) (by decide) (by omega))
  obtain ⟨b0, w0⟩ := wt_bd (d := ni U 0 - 0) (gW_bd h (i := 0) (by decide) (by omega)).1 ⟨by omega, by omega⟩
  have b0 : 0 ≤ W0 U H c ∧ W0 U H c ≤ 1099511627776 := b0
  have w0 : IntKind.wrap IntKind.i64 (Grade.Weight (gx H (n3 c 0)) * IntKind.wrap IntKind.i64 (ni U 0 - 0)) = W0 U H c := w0
  have m1 := he.2.1 _ (ni_mem (l := U) (i := 1) (by decide) (by omega))
  have a1 : ni U 0 < ni U 1 := he.2.2 1 (by decide) (by omega)
  obtain ⟨b1, w1⟩ := wt_bd (d := ni U 1 - ni U 0) (gW_bd h (i := 1) (by decide) (by omega)).1 ⟨by omega, by omega⟩
  have b1 : 0 ≤ W1 U H c ∧ W1 U H c ≤ 1099511627776 := b1
  have w1 : IntKind.wrap IntKind.i64 (Grade.Weight (gx H (n3 c 1)) * IntKind.wrap IntKind.i64 (ni U 1 - ni U 0)) = W1 U H c := w1
  have m2 := he.2.1 _ (ni_mem (l := U) (i := 2) (by decide) (by omega))
  have a2 : ni U 1 < ni U 2 := he.2.2 2 (by decide) (by omega)
  obtain ⟨b2, w2⟩ := wt_bd (d := ni U 2 - ni U 1) (gW_bd h (i := 2) (by decide) (by omega)).1 ⟨by omega, by omega⟩
  have b2 : 0 ≤ W2 U H c ∧ W2 U H c ≤ 1099511627776 := b2
  have w2 : IntKind.wrap IntKind.i64 (Grade.Weight (gx H (n3 c 2)) * IntKind.wrap IntKind.i64 (ni U 2 - ni U 1)) = W2 U H c := w2
  have z0 : Z0 U H O c = [0, 0, 0] := by unfold Z0; rw [hc]; rfl
  have z1 : Z1 U H O c = [W0 U H c, 0, 0] := by
    unfold Z1
    rw [z0]
    show [IntKind.wrap IntKind.i64 (0 + IntKind.wrap IntKind.i64 (Grade.Weight (gx H (n3 c 0)) * IntKind.wrap IntKind.i64 (ni U 0 - 0))), 0, 0] = _
    rw [w0]
    rw [i64_in' (n := 0 + W0 U H c) (by omega) (by omega), Int.zero_add]
  have z2 : Z2 U H O c = [W0 U H c + O, 0, 0] := by
    unfold Z2
    rw [z1]
    show [IntKind.wrap IntKind.i64 (W0 U H c + O), 0, 0] = _
    rw [i64_in' (n := W0 U H c + O) (by omega) (by omega)]
  have z3 : Z3 U H O c = [W0 U H c + O + W1 U H c, 0, 0] := by
    unfold Z3
    rw [z2]
    show [IntKind.wrap IntKind.i64 (W0 U H c + O + IntKind.wrap IntKind.i64 (Grade.Weight (gx H (n3 c 1)) * IntKind.wrap IntKind.i64 (ni U 1 - ni U 0))), 0, 0] = _
    rw [w1]
    rw [i64_in' (n := W0 U H c + O + W1 U H c) (by omega) (by omega)]
  have z4 : Z4 U H O c = [W0 U H c + O + W1 U H c, W1 U H c, 0] := by
    unfold Z4
    rw [z3]
    show [W0 U H c + O + W1 U H c, IntKind.wrap IntKind.i64 (0 + IntKind.wrap IntKind.i64 (Grade.Weight (gx H (n3 c 1)) * IntKind.wrap IntKind.i64 (ni U 1 - ni U 0))), 0] = _
    rw [w1]
    rw [i64_in' (n := 0 + W1 U H c) (by omega) (by omega), Int.zero_add]
  have z5 : Z5 U H O c = [W0 U H c + O + W1 U H c, W1 U H c + O, 0] := by
    unfold Z5
    rw [z4]
    show [W0 U H c + O + W1 U H c, IntKind.wrap IntKind.i64 (W1 U H c + O), 0] = _
    rw [i64_in' (n := W1 U H c + O) (by omega) (by omega)]
  have z6 : Z6 U H O c = [W0 U H c + O + W1 U H c + W2 U H c, W1 U H c + O, 0] := by
    unfold Z6
    rw [z5]
    show [IntKind.wrap IntKind.i64 (W0 U H c + O + W1 U H c + IntKind.wrap IntKind.i64 (Grade.Weight (gx H (n3 c 2)) * IntKind.wrap IntKind.i64 (ni U 2 - ni U 1))), W1 U H c + O, 0] = _
    rw [w2]
    rw [i64_in' (n := W0 U H c + O + W1 U H c + W2 U H c) (by omega) (by omega)]
  have z7 : Z7 U H O c = [W0 U H c + O + W1 U H c + W2 U H c, W1 U H c + O + W2 U H c, 0] := by
    unfold Z7
    rw [z6]
    show [W0 U H c + O + W1 U H c + W2 U H c, IntKind.wrap IntKind.i64 (W1 U H c + O + IntKind.wrap IntKind.i64 (Grade.Weight (gx H (n3 c 2)) * IntKind.wrap IntKind.i64 (ni U 2 - ni U 1))), 0] = _
    rw [w2]
    rw [i64_in' (n := W1 U H c + O + W2 U H c) (by omega) (by omega)]
  have z8 : Z8 U H O c = [W0 U H c + O + W1 U H c + W2 U H c, W1 U H c + O + W2 U H c, W2 U H c] := by
    unfold Z8
    rw [z7]
    show [W0 U H c + O + W1 U H c + W2 U H c, W1 U H c + O + W2 U H c, IntKind.wrap IntKind.i64 (0 + IntKind.wrap IntKind.i64 (Grade.Weight (gx H (n3 c 2)) * IntKind.wrap IntKind.i64 (ni U 2 - ni U 1)))] = _
    rw [w2]
    rw [i64_in' (n := 0 + W2 U H c) (by omega) (by omega), Int.zero_add]
  have z9 : Z9 U H O c = [W0 U H c + O + W1 U H c + W2 U H c, W1 U H c + O + W2 U H c, W2 U H c + O] := by
    unfold Z9
    rw [z8]
    show [W0 U H c + O + W1 U H c + W2 U H c, W1 U H c + O + W2 U H c, IntKind.wrap IntKind.i64 (W2 U H c + O)] = _
    rw [i64_in' (n := W2 U H c + O) (by omega) (by omega)]
  rw [z9]
  unfold plS
  rw [if_neg (by omega), if_neg (by omega)]
theorem s80 (U : List Int) (D : List Stress) (H : List Grade) (F O : Int) (c : List Int) (h : okP U H O c) : (runU 4 [] [2] 80 [jA U D H F O, .sl 3 c false] [22]).holds fun v => v = .sl 2 (plS U H O c) false := by
  rw [tv80]
  have hc := h.1.1
  have n1 := h.2.1.1.1
  have n3' := h.2.2.2.2
  have : U.length = 1 ∨ U.length = 2 ∨ U.length = 3 := by omega
  rcases this with hn | hn | hn
  · exact ⟨⟨by omega, rfl, by omega⟩, way (fun _ => ⟨rq (by omega), rq (by omega), (gW_bd h (i := 0) (by decide) (by omega)).2, rq (by omega), rq (by rw [Z0_len]; omega), rq (by omega), rq (by rw [Z0_len]; omega), rq (by omega), rq (by rw [Z1_len]; omega), rq (by omega), rq (by rw [Z1_len]; omega), way (fun q => absurd q (by omega)) fun _ => ⟨by rw [Z2_len]; omega, congrArg (fun x => (AV.sl 2 x false : AV T)) (zz1 h hn)⟩⟩) fun q => absurd (by omega) q⟩
  · exact ⟨⟨by omega, rfl, by omega⟩, way (fun _ => ⟨rq (by omega), rq (by omega), (gW_bd h (i := 0) (by decide) (by omega)).2, rq (by omega), rq (by rw [Z0_len]; omega), rq (by omega), rq (by rw [Z0_len]; omega), rq (by omega), rq (by rw [Z1_len]; omega), rq (by omega), rq (by rw [Z1_len]; omega), way (fun _ => ⟨rq (by omega), rq (by omega), (gW_bd h (i := 1) (by decide) (by omega)).2, rq (by omega), rq (by rw [Z2_len]; omega), rq (by omega), rq (by rw [Z2_len]; omega), rq (by omega), rq (by rw [Z3_len]; omega), rq (by omega), rq (by rw [Z3_len]; omega), rq (by omega), rq (by rw [Z4_len]; omega), rq (by omega), rq (by rw [Z4_len]; omega), way (fun q => absurd q (by omega)) fun _ => ⟨by rw [Z5_len]; omega, congrArg (fun x => (AV.sl 2 x false : AV T)) (zz2 h hn)⟩⟩) fun q => absurd (by omega) q⟩) fun q => absurd (by omega) q⟩
  · exact ⟨⟨by omega, rfl, by omega⟩, way (fun _ => ⟨rq (by omega), rq (by omega), (gW_bd h (i := 0) (by decide) (by omega)).2, rq (by omega), rq (by rw [Z0_len]; omega), rq (by omega), rq (by rw [Z0_len]; omega), rq (by omega), rq (by rw [Z1_len]; omega), rq (by omega), rq (by rw [Z1_len]; omega), way (fun _ => ⟨rq (by omega), rq (by omega), (gW_bd h (i := 1) (by decide) (by omega)).2, rq (by omega), rq (by rw [Z2_len]; omega), rq (by omega), rq (by rw [Z2_len]; omega), rq (by omega), rq (by rw [Z3_len]; omega), rq (by omega), rq (by rw [Z3_len]; omega), rq (by omega), rq (by rw [Z4_len]; omega), rq (by omega), rq (by rw [Z4_len]; omega), way (fun _ => ⟨rq (by omega), rq (by omega), (gW_bd h (i := 2) (by decide) (by omega)).2, rq (by omega), rq (by rw [Z5_len]; omega), rq (by omega), rq (by rw [Z5_len]; omega), rq (by omega), rq (by rw [Z6_len]; omega), rq (by omega), rq (by rw [Z6_len]; omega), rq (by omega), rq (by rw [Z7_len]; omega), rq (by omega), rq (by rw [Z7_len]; omega), rq (by omega), rq (by rw [Z8_len]; omega), rq (by omega), rq (by rw [Z8_len]; omega), way (fun q => absurd q (by omega)) fun _ => ⟨by rw [Z9_len]; omega, congrArg (fun x => (AV.sl 2 x false : AV T)) (zz3 h hn)⟩⟩) fun q => absurd (by omega) q⟩) fun q => absurd (by omega) q⟩) fun q => absurd (by omega) q⟩
theorem flI : ∀ τ, memN τ [2] = true → ∀ x : T τ, (E.enc τ x).all ind0 = true := fun τ h => by
  obtain rfl : τ = 2 := by simpa using memN_iff.1 h
  exact fun x => rfl
noncomputable def cPl : Con T := conPN Try.prog [.agg [.s 2, .s 37, .s 66, .i .i64, .i .i64], .one (.s 3)] [.l 2, .l 37, .l 66, .n, .n, .l 3] (fun d => okP d.1 d.2.2.1 d.2.2.2.2.1 d.2.2.2.2.2.1) fun d => .sl 2 (plS d.1 d.2.2.1 d.2.2.2.2.1 d.2.2.2.2.2.1) false
theorem pl_ok : ConOk Try.prog E 80 cPl := conPN_ok fun d hd => factN_of_run good flI (callX_ok (fuel := 4) good names mixes .nil noLoops_ok 8) rfl (s80 d.1 d.2.1 d.2.2.1 d.2.2.2.1 d.2.2.2.2.1 d.2.2.2.2.2.1 hd)
end Go.Proofs.Ytcddppakogialaa.W.Jb
end

set_option linter.unusedVariables false
set_option maxRecDepth 100000
set_option maxHeartbeats 4000000
noncomputable section
namespace Go.Proofs.Ytcddppakogialaa.W.Jb
open Go Go.Cx Go.RowKit
def asc (l : List Knot) : Prop := l.Pairwise fun x y => x.At < y.At
theorem good_chk {l : List Knot} {a v : Int} (h : Good l a v) : ∀ (n i : Nat), l.length - i = n → chkI a v l i = 0
  | 0, i, hn => by rw [chkI_eq, if_neg (by omega)]
  | n + 1, i, hn => by
    have b := h.bd i (by omega)
    rw [chkI_eq, if_pos (by omega), if_neg (by omega), if_neg, good_chk h n (i + 1) (by omega)]
    rintro ⟨h1, h2⟩
    obtain ⟨j, rfl⟩ : ∃ j, i = j + 1 := ⟨i - 1, by omega⟩
    have u := h.up j (by omega)
    rw [show ((j + 1 : Nat) : Int) - 1 = (j : Int) by omega] at h2
    omega
theorem good_err {l : List Knot} {a v : Int} (h : Good l a v) (ha : 0 ≤ a ∧ a ≤ 1099511627776) (hv : 0 ≤ v ∧ v ≤ 68719476736) : lineErr l a v = 0 := by
  have p := h.pos
  have q := h.len
  unfold lineErr
  rw [if_neg (by omega), if_neg (by omega), if_neg (by omega)]
  exact good_chk h l.length 0 rfl
theorem asc_good {l : List Knot} {a v : Int} (h0 : 0 < l.length) (h1 : l.length ≤ 24) (hb : ∀ k ∈ l, (0 ≤ k.At ∧ k.At ≤ a) ∧ 0 ≤ k.V ∧ k.V ≤ v) (h : asc l) : Good l a v := by
  refine ⟨h0, h1, fun i hi => hb _ (kn_mem hi), fun i hi => ?_⟩
  have := List.pairwise_iff_getElem.1 h i (i + 1) (by omega) hi (by omega)
  rw [kn_get (by omega), kn_get hi]
  exact this
theorem prs_ok (l : List Int) (q : Int) : ∀ (n : Nat) (i a : Int), 0 ≤ a → (∀ k ∈ prs l q n i a, (a ≤ k.At ∧ k.At ≤ a + 150000 * n) ∧ 0 ≤ k.V ∧ k.V ≤ 2000000000) ∧ asc (prs l q n i a) ∧ (prs l q n i a).length ≤ n
  | 0, i, a, h => ⟨(fun k hk => by cases hk), List.Pairwise.nil, Nat.le_refl _⟩
  | n + 1, i, a, h => by
    unfold prs
    split
    · have p := pk_bd l (q + i + 1)
      have p : 0 ≤ pN l q i ∧ pN l q i < 1099511627776 := p
      obtain ⟨h1, h2, h3⟩ := prs_ok l q n (i + 1) (a + 1 + pN l q i / 3 % 150000) (by omega)
      refine ⟨fun k hk => ?_, List.pairwise_cons.2 ⟨fun k hk => ?_, h2⟩, Nat.succ_le_succ h3⟩
      · cases hk with
        | head => exact ⟨⟨Int.le_refl _, by show a ≤ a + 150000 * ((n + 1 : Nat) : Int); omega⟩, by show 0 ≤ pN l q i % 2000000000 ∧ pN l q i % 2000000000 ≤ 2000000000; omega⟩
        | tail _ hk => have := h1 k hk; omega
      · have := h1 k hk
        show a < k.At
        omega
    · exact ⟨(fun k hk => by cases hk), List.Pairwise.nil, Nat.zero_le _⟩
theorem prL_pos (l : List Int) (q : Int) : 0 < (prL l q).length := by
  have p := pk_bd l q
  show 0 < (if (0 : Int) < 1 + pk l q % 3 then (_ :: _ : List Knot) else []).length
  rw [if_pos (by omega)]
  exact Nat.succ_pos _
theorem prL_err (l : List Int) (q : Int) : lineErr (prL l q) 1048576 68719476736 = 0 := by
  obtain ⟨h1, h2, h3⟩ := prs_ok l q 4 0 0 (by decide)
  exact good_err (asc_good (prL_pos l q) (by show (prs l q 4 0 0).length ≤ 24; omega) (fun k hk => by have := h1 k hk; omega) h2) (by decide) (by decide)
theorem ldL_ok (l : List Int) : ∀ (n : Nat) (i : Int), (ldL l n i).length ≤ n ∧ ∀ s ∈ ldL l n i, okL s
  | 0, i => ⟨Nat.le_refl _, (fun s hs => by cases hs)⟩
  | n + 1, i => by
    unfold ldL
    obtain ⟨h1, h2⟩ := ldL_ok l n (i + 1)
    split
    · refine ⟨Nat.succ_le_succ h1, fun s hs => ?_⟩
      cases hs with
      | head => exact ⟨prL_err l _, prL_err l _⟩
      | tail _ hs => exact h2 s hs
    · exact ⟨Nat.zero_le _, (fun s hs => by cases hs)⟩
theorem gdG_ok (g : List Int) (i : Int) : okG (gdG g i) := by
  have p := pk_bd g i
  refine ⟨?_, ?_, ?_, ?_, ?_⟩
  · show 0 ≤ pk g i % 3000000000 ∧ pk g i % 3000000000 ≤ 68719476736
    omega
  · show 0 ≤ pk g i / 5 % 3000000000 ∧ pk g i / 5 % 3000000000 ≤ 68719476736
    omega
  · show 1 ≤ 1 + pk g i / 7 % 200000000 ∧ 1 + pk g i / 7 % 200000000 ≤ 1099511627776
    omega
  · show 0 ≤ pk g i / 11 % 400 ∧ pk g i / 11 % 400 ≤ 1048576
    omega
  · show 0 ≤ pk g i / 13 % 20 ∧ pk g i / 13 % 20 ≤ 1048576
    omega
theorem gdL_ok (g : List Int) : ∀ (n : Nat) (i : Int), 0 ≤ i → (∀ s ∈ gdL g n i, okG s) ∧ ((gdL g n i).length : Int) ≤ (if i < mx2 1 (mn2 (g.length : Int) 4) then mx2 1 (mn2 (g.length : Int) 4) - i else 0)
  | 0, i, h => ⟨(fun s hs => by cases hs), by show (0 : Int) ≤ _; split <;> omega⟩
  | n + 1, i, h => by
    unfold gdL
    obtain ⟨h1, h2⟩ := gdL_ok g n (i + 1) (by omega)
    split
    · refine ⟨fun s hs => ?_, ?_⟩
      · cases hs with
        | head => exact gdG_ok g i
        | tail _ hs => exact h1 s hs
      · rw [List.length_cons]
        split at h2 <;> omega
    · exact ⟨(fun s hs => by cases hs), Int.le_refl _⟩
theorem gdL_H (g : List Int) : okH ([] ++ gdL g (Int.toNat (5 - 0)) 0) := by
  obtain ⟨h1, h2⟩ := gdL_ok g 5 0 (by decide)
  have mb := mx_bd (n := (g.length : Int)) (m := 4) (by decide)
  rw [if_pos (by omega)] at h2
  have p : 0 < (gdL g 5 0).length := by
    show 0 < (if (0 : Int) < mx2 1 (mn2 (g.length : Int) 4) then (_ :: _ : List Grade) else []).length
    rw [if_pos (by omega)]
    exact Nat.succ_pos _
  exact ⟨⟨by show 1 ≤ (gdL g 5 0).length; omega, by show (gdL g 5 0).length ≤ 6; omega⟩, h1⟩
theorem endL_ok (e : List Int) : ∀ (n : Nat) (i a : Int), 0 ≤ i → 0 ≤ a → (∀ x ∈ endL e n i a, a < x ∧ x ≤ a + 150000 * n) ∧ (endL e n i a).Pairwise (· < ·) ∧ ((endL e n i a).length : Int) ≤ (if i < mx2 1 (mn2 (e.length : Int) 3) then mx2 1 (mn2 (e.length : Int) 3) - i else 0)
  | 0, i, a, h, _ => ⟨(fun s hs => by cases hs), List.Pairwise.nil, by show (0 : Int) ≤ _; split <;> omega⟩
  | n + 1, i, a, h, ha => by
    have p := pk_bd e i
    have ea : eA e i a = a + 1 + pk e i % 150000 := rfl
    unfold endL
    obtain ⟨h1, h2, h3⟩ := endL_ok e n (i + 1) (eA e i a) (by omega) (by omega)
    split
    · refine ⟨fun s hs => ?_, List.pairwise_cons.2 ⟨fun s hs => (h1 s hs).1, h2⟩, ?_⟩
      · cases hs with
        | head => omega
        | tail _ hs => have := h1 s hs; omega
      · rw [List.length_cons]
        split at h3 <;> omega
    · exact ⟨(fun s hs => by cases hs), List.Pairwise.nil, Int.le_refl _⟩
theorem ni_get {l : List Int} {i : Nat} (h : i < l.length) : ni l (i : Int) = l[i] := by
  show ((l : List Int)[((i : Nat) : Int).toNat]?).getD _ = _
  rw [Int.toNat_natCast, List.getElem?_eq_getElem h]
  rfl
theorem endL_E (e : List Int) : okE ([] ++ endL e (Int.toNat (4 - 0)) 0 0) ∧ ([] ++ endL e (Int.toNat (4 - 0)) 0 0).length ≤ 3 := by
  obtain ⟨h1, h2, h3⟩ := endL_ok e 4 0 0 (by decide) (by decide)
  have mb := mx_bd (n := (e.length : Int)) (m := 3) (by decide)
  rw [if_pos (by omega)] at h3
  have p : 0 < (endL e 4 0 0).length := by
    show 0 < (if (0 : Int) < mx2 1 (mn2 (e.length : Int) 3) then (_ :: _ : List Int) else []).length
    rw [if_pos (by omega)]
    exact Nat.succ_pos _
  refine ⟨⟨⟨by show 1 ≤ (endL e 4 0 0).length; omega, by show (endL e 4 0 0).length ≤ 5; omega⟩, fun x hx => by have := h1 x hx; omega, fun i i0 i1 => ?_⟩, by show (endL e 4 0 0).length ≤ 3; omega⟩
  have i1 : i < ((endL e 4 0 0).length : Int) := i1
  show ni (endL e 4 0 0) (i - 1) < ni (endL e 4 0 0) i
  generalize endL e 4 0 0 = u at *
  obtain ⟨k, rfl⟩ : ∃ k : Nat, i = ((k + 1 : Nat) : Int) := ⟨(i - 1).toNat, by omega⟩
  rw [show ((k + 1 : Nat) : Int) - 1 = (k : Int) by omega, ni_get (by omega), ni_get (by omega)]
  exact List.pairwise_iff_getElem.1 h2 k (k + 1) (by omega) (by omega) (by omega)
end Go.Proofs.Ytcddppakogialaa.W.Jb
end

set_option linter.unusedVariables false
set_option maxRecDepth 100000
set_option maxHeartbeats 4000000
noncomputable section
namespace Go.Proofs.Ytcddppakogialaa.W.Jb
open Go Go.Cx Go.RowKit
noncomputable def ctL5 : CTab T := (48, cMod) :: (20, cCk) :: (75, cIsC) :: (80, cPl) :: ctJ
theorem ctL5_ok : CTabOk Try.prog E ctL5 := .cons mod_ok (.cons ck_ok (.cons isC_ok (.cons pl_ok ctJ_ok)))
noncomputable def chs (n k : Int) : Nat → Int → List Int
  | 0, _ => []
  | m + 1, i => IntKind.wrap IntKind.i64 (n + Int.tmod i 2) % k :: chs n k m (i + 1)
theorem chs_len (n k : Int) : ∀ (m : Nat) (i : Int), (chs n k m i).length = m
  | 0, _ => rfl
  | m + 1, i => congrArg (· + 1) (chs_len n k m (i + 1))
theorem chs_in {n k : Int} (hk : 0 < k) : ∀ (m : Nat) (i : Int), ∀ x ∈ chs n k m i, 0 ≤ x ∧ x < k
  | 0, _, x, h => by cases h
  | m + 1, i, x, h => by
    have h : x ∈ IntKind.wrap IntKind.i64 (n + Int.tmod i 2) % k :: chs n k m (i + 1) := h
    cases h with
    | head => exact ⟨Int.emod_nonneg _ (by omega), Int.emod_lt_of_pos _ hk⟩
    | tail _ h => exact chs_in hk m (i + 1) x h
noncomputable def oLA (U : List Int) (D : List Stress) (H : List Grade) (C : List Int) (n : Int) (i : Int) (F : Int) (O : Int) : Tree (Ex × List (V T)) := .req ((0 ≤ i ∧ i ≤ U.length) ∧ (U.length ≤ 3 ∧ 1 ≤ H.length ∧ H.length ≤ 6) ∧ (C.length : Int) = i) (.leaf (.exit 0, [.l 2 U, .l 37 D, .l 66 H, .l 3 (C ++ chs n H.length (U.length - i.toNat) i), .n F, .n O]))
noncomputable def cLA : LoopC T := ⟨[.l 2, .l 37, .l 66, .l 3, .n, .n, .n, .n], ⟨66, [(1, .one (.i .i64)), (5, .one (.o 0 0)), (6, .one (.g 4 3)), (7, .one (.i .i64))], [.c [.g 1 2, .g 2 37, .g 3 66, .i .i64, .i .i64], .l 2, .l 37, .l 66, .l 3]⟩, fun _ => ⟨66, [(5, .one (.o 0 0)), (6, .one (.g 4 3))], [.c [.g 1 2, .g 2 37, .g 3 66, .i .i64, .i .i64], .l 2, .l 37, .l 66, .l 3]⟩, 40, fun d => oLA d.1 d.2.1 d.2.2.1 d.2.2.2.1 d.2.2.2.2.1 d.2.2.2.2.2.1 d.2.2.2.2.2.2.1 d.2.2.2.2.2.2.2.1⟩
theorem bLA (U : List Int) (D : List Stress) (H : List Grade) (C : List Int) (n : Int) (i : Int) (F : Int) (O : Int) : bodyD Try.prog E cLA 0 (bodyX Try.prog E ctL5 noLoops 1000 5 L0 (lpOf Try.prog 13 0)) (U, D, H, C, n, i, F, O, ()) =
  (.br (decide (i < (↑(List.length U) : Int)))
   (.req (mPre (IntKind.wrap IntKind.i64 (n + Int.tmod i (2 : Int))) (↑(List.length H) : Int))
   (.req (List.length C = List.length C)
   (.req (List.length C + List.length [IntKind.wrap IntKind.i64 (n + Int.tmod i (2 : Int)) % (↑(List.length H) : Int)] ≤ (1073741824 : Nat))
   (.req (List.length U = List.length U)
   (.req (List.length D = List.length D)
   (.req (List.length H = List.length H)
   (.req (List.length (C ++ [IntKind.wrap IntKind.i64 (n + Int.tmod i (2 : Int)) % (↑(List.length H) : Int)]) = List.length (C ++ [IntKind.wrap IntKind.i64 (n + Int.tmod i (2 : Int)) % (↑(List.length H) : Int)]))
   (.leaf (.inl (U, (D, (H, (C ++ [IntKind.wrap IntKind.i64 (n + Int.tmod i (2 : Int)) % (↑(List.length H) : Int)], (n, (IntKind.wrap IntKind.i64 (i + (1 : Int)), (F, (O, ())))))))))))))))))
   (.req (List.length U = List.length U)
   (.req (List.length D = List.length D)
   (.req (List.length H = List.length H)
   (.req (List.length C = List.length C)
   (.leaf (.inr (.exit (0 : Nat), [.l (2 : Nat) (U), .l (37 : Nat) (D), .l (66 : Nat) (H), .l (3 : Nat) (C), .n (F), .n (O)])))))))) := by kernel_rfl
theorem nLA (U : List Int) (D : List Stress) (H : List Grade) (C : List Int) (n : Int) (i : Int) (F : Int) (O : Int) (K : Ex × List (V T) → Prop) (hI : (0 ≤ i ∧ i ≤ U.length) ∧ (U.length ≤ 3 ∧ 1 ≤ H.length ∧ H.length ≤ 6) ∧ (C.length : Int) = i) (hK : (.leaf (.exit 0, [.l 2 U, .l 37 D, .l 66 H, .l 3 (C ++ chs n H.length (U.length - i.toNat) i), .n F, .n O]) : Tree (Ex × List (V T))).holds K) : (cLA.out (U, D, H, C, n, i, F, O, ())).holds K := ⟨hI, hK⟩
theorem hLA' (U : List Int) (D : List Stress) (H : List Grade) (C : List Int) (n : Int) (i : Int) (F : Int) (O : Int) (K : Ex × List (V T) → Prop) (hI : (0 ≤ i ∧ i ≤ U.length) ∧ (U.length ≤ 3 ∧ 1 ≤ H.length ∧ H.length ≤ 6) ∧ (C.length : Int) = i) (hK : (.leaf (.exit 0, [.l 2 U, .l 37 D, .l 66 H, .l 3 (C ++ chs n H.length (U.length - i.toNat) i), .n F, .n O]) : Tree (Ex × List (V T))).holds K) :
    (bodyD Try.prog E cLA 0 (bodyX Try.prog E ctL5 noLoops 1000 5 L0 (lpOf Try.prog 13 0)) (U, D, H, C, n, i, F, O, ())).holds fun y => match y with
    | .inl d => ((d.1.length : Int) - d.2.2.2.2.2.1).toNat < ((U.length : Int) - i).toNat ∧ (cLA.out d).holds K
    | .inr y => K y := by
  rw [bLA]
  obtain ⟨⟨h0, h1⟩, ⟨lu, g0, g1⟩, hc⟩ := hI
  refine way (fun q => ?_) fun q => ?_
  · have e : IntKind.wrap IntKind.i64 (i + 1) = i + 1 := i64_in' (by omega) (by omega)
    rw [e]
    rw [show U.length - i.toNat = (U.length - (i + 1).toNat) + 1 by omega] at hK
    unfold chs at hK
    have ac : ∀ (X Y : List Int) (k : Int), X ++ k :: Y = (X ++ [k]) ++ Y := fun X Y k => by simp
    rw [ac] at hK
    have n1 : C.length + 1 ≤ 1073741824 := by omega
    have k1 : ((U.length : Int) - (i + 1)).toNat < ((U.length : Int) - i).toNat := by omega
    have inv : (0 ≤ i + 1 ∧ i + 1 ≤ U.length) ∧ (U.length ≤ 3 ∧ 1 ≤ H.length ∧ H.length ≤ 6) ∧ ((C ++ [IntKind.wrap IntKind.i64 (n + Int.tmod i 2) % (H.length : Int)]).length : Int) = i + 1 := ⟨⟨by omega, by omega⟩, ⟨lu, g0, g1⟩, by rw [List.length_append]; show ((C.length + 1 : Nat) : Int) = _; omega⟩
    have mp : mPre (IntKind.wrap IntKind.i64 (n + Int.tmod i 2)) (H.length : Int) := ⟨by omega, by omega⟩
    exact ⟨mp, rfl, n1, rfl, rfl, rfl, rfl, k1, nLA _ _ _ _ _ _ _ _ K inv hK⟩
  · rw [show U.length - i.toNat = 0 by omega] at hK
    unfold chs at hK
    rw [List.append_nil] at hK
    exact ⟨rfl, rfl, rfl, rfl, hK⟩
theorem hLA : LoopH Try.prog E cLA 0 (bodyX Try.prog E ctL5 noLoops 1000 5 L0 (lpOf Try.prog 13 0)) :=
  ⟨fun d => ((d.1.length : Int) - d.2.2.2.2.2.1).toNat, fun dd K hK => by
    obtain ⟨U, D, H, C, n, i, F, O, ⟨⟩⟩ := dd
    obtain ⟨hI, hK⟩ := hK
    refine Tree.holds_mono (fun y hy => ?_) (hLA' U D H C n i F O K hI hK)
    cases y with
    | inl d' => exact hy
    | inr y => exact hy⟩
def dsc (l : List Int) : Prop := ∀ i : Int, 1 ≤ i → i < l.length → ni l i ≤ ni l (i - 1)
noncomputable def oLB (l : List Int) (i : Int) (O : Int) : Tree (Ex × List (V T)) := .req (dsc l ∧ 1 ≤ i ∧ l.length ≤ 3) (.leaf (.exit 2, [.l 2 l, .n O]))
noncomputable def cLB : LoopC T := ⟨[.l 2, .n, .n], ⟨66, [(5, .one (.o 0 0)), (8, .one (.s 2)), (9, .one (.i .i64))], [.c [.x, .x, .x, .x, .i .i64]]⟩, fun e => match e with
    | .ret => ⟨66, [(4, .one .b)], []⟩
    | _ => ⟨66, [(5, .one (.o 0 0)), (8, .one (.s 2))], [.c [.x, .x, .x, .x, .i .i64]]⟩, 40, fun d => oLB d.1 d.2.1 d.2.2.1⟩
theorem bLB (l : List Int) (i : Int) (O : Int) : bodyD Try.prog E cLB 0 (bodyX Try.prog E ctL5 noLoops 1000 5 L0 (lpOf Try.prog 13 1)) (l, i, O, ()) =
  (.br (decide (i < (↑(List.length l) : Int)))
   (.req ((decide ((0 : Int) ≤ i) && decide (i < (↑(List.length l) : Int))) = true)
   (.req ((decide ((0 : Int) ≤ IntKind.wrap IntKind.i64 (i - (1 : Int))) && decide (IntKind.wrap IntKind.i64 (i - (1 : Int)) < (↑(List.length l) : Int))) = true)
   (.br (decide (ni l i > ni l (IntKind.wrap IntKind.i64 (i - (1 : Int)))))
    (.leaf (.inr (.ret, [.t (false)])))
    (.leaf (.inl (l, (IntKind.wrap IntKind.i64 (i + (1 : Int)), (O, ()))))))))
   (.leaf (.inr (.exit (2 : Nat), [.l (2 : Nat) (l), .n (O)])))) := by kernel_rfl
theorem nLB (l : List Int) (i : Int) (O : Int) (K : Ex × List (V T) → Prop) (hI : dsc l ∧ 1 ≤ i ∧ l.length ≤ 3) (hK : (.leaf (.exit 2, [.l 2 l, .n O]) : Tree (Ex × List (V T))).holds K) : (cLB.out (l, i, O, ())).holds K := ⟨hI, hK⟩
theorem hLB' (l : List Int) (i : Int) (O : Int) (K : Ex × List (V T) → Prop) (hI : dsc l ∧ 1 ≤ i ∧ l.length ≤ 3) (hK : (.leaf (.exit 2, [.l 2 l, .n O]) : Tree (Ex × List (V T))).holds K) :
    (bodyD Try.prog E cLB 0 (bodyX Try.prog E ctL5 noLoops 1000 5 L0 (lpOf Try.prog 13 1)) (l, i, O, ())).holds fun y => match y with
    | .inl d => ((d.1.length : Int) - d.2.1).toNat < ((l.length : Int) - i).toNat ∧ (cLB.out d).holds K
    | .inr y => K y := by
  rw [bLB]
  obtain ⟨hd, h0, hl⟩ := hI
  refine way (fun q => ?_) fun q => hK
  have e : IntKind.wrap IntKind.i64 (i + 1) = i + 1 := i64_in' (by omega) (by omega)
  have e2 : IntKind.wrap IntKind.i64 (i - 1) = i - 1 := i64_in' (by omega) (by omega)
  rw [e, e2]
  have g := hd i h0 q
  have x1 : (decide (0 ≤ i) && decide (i < (l.length : Int))) = true := by simp only [Bool.and_eq_true, decide_eq_true_eq]; omega
  have x2 : (decide (0 ≤ i - 1) && decide (i - 1 < (l.length : Int))) = true := by simp only [Bool.and_eq_true, decide_eq_true_eq]; omega
  have g1 : ((l.length : Int) - (i + 1)).toNat < ((l.length : Int) - i).toNat := by omega
  exact ⟨x1, x2, way (fun k => absurd k (by omega)) fun _ => ⟨g1, nLB _ _ _ K ⟨hd, by omega, hl⟩ hK⟩⟩
theorem hLB : LoopH Try.prog E cLB 0 (bodyX Try.prog E ctL5 noLoops 1000 5 L0 (lpOf Try.prog 13 1)) :=
  ⟨fun d => ((d.1.length : Int) - d.2.1).toNat, fun dd K hK => by
    obtain ⟨l, i, O, ⟨⟩⟩ := dd
    obtain ⟨hI, hK⟩ := hK
    refine Tree.holds_mono (fun y hy => ?_) (hLB' l i O K hI hK)
    cases y with
    | inl d' => exact hy
    | inr y => exact hy⟩
noncomputable def llC : Nat → Nat → LoopTab T := fun f m => bif Nat.beq f 13 then llOfN Try.prog E 13 0 [(4, cLA), (11, cLB)] f m else llOfN Try.prog E 47 1 [(4, cJA), (9, cJB), (13, cJC)] f m
theorem ll13 : LLOk Try.prog E (llOfN Try.prog E 13 0 [(4, cLA), (11, cLB)]) := llOfN_ok fun i hi c hc => by
  have hi : i < 2 := hi
  have : i = 0 ∨ i = 1 := by omega
  rcases this with rfl | rfl
  · obtain rfl : cLA = c := Option.some.inj hc
    exact LSndN.mk good names mixes ctL5_ok (by decide) hLA
  · obtain rfl : cLB = c := Option.some.inj hc
    exact LSndN.mk good names mixes ctL5_ok (by decide) hLB
theorem llC_ok : LLOk Try.prog E llC := fun f fn n0 h => by
  have e : llC f n0 = llOfN Try.prog E 13 0 [(4, cLA), (11, cLB)] f n0 ∨ llC f n0 = llOfN Try.prog E 47 1 [(4, cJA), (9, cJB), (13, cJC)] f n0 := by
    unfold llC
    cases Nat.beq f 13
    · exact .inr rfl
    · exact .inl rfl
  rcases e with e | e
  · rw [e]; exact ll13 f fn n0 h
  · rw [e]; exact llJ f fn n0 h
theorem tv13 (e l g : List Int) (f o n : Int) : runX ctL5 llC 13 [.agg [.sl 2 e false, .sl 2 l false, .sl 2 g false, i64 f, i64 o], i64 n] [4] =
  (.req (mPre f (500 : Int))
  (.req (mPre o (20000000 : Int))
  (.req (((0 : Int) ≤ (0 : Int) ∧ (0 : Int) ≤ (3 : Int)) ∧ ((0 : Int) ≤ (0 : Int) ∧ (0 : Int) ≤ (150000 : Int) * (0 : Int)) ∧ (↑((0 : Nat)) : Int) ≤ (0 : Int))
  (.req (List.length ([] ++ endL e (Int.toNat ((4 : Int) - (0 : Int))) (0 : Int) (0 : Int)) = List.length ([] ++ endL e (Int.toNat ((4 : Int) - (0 : Int))) (0 : Int) (0 : Int)))
  (.req ((0 : Nat) = (0 : Nat))
  (.req ((0 : Nat) = (0 : Nat))
  (.req (((0 : Int) ≤ (0 : Int) ∧ (0 : Int) ≤ (3 : Int)) ∧ (↑((0 : Nat)) : Int) ≤ (0 : Int))
  (.req (List.length ([] ++ endL e (Int.toNat ((4 : Int) - (0 : Int))) (0 : Int) (0 : Int)) = List.length ([] ++ endL e (Int.toNat ((4 : Int) - (0 : Int))) (0 : Int) (0 : Int)))
  (.req (List.length ([] ++ ldL l (Int.toNat ((3 : Int) - (0 : Int))) (0 : Int)) = List.length ([] ++ ldL l (Int.toNat ((3 : Int) - (0 : Int))) (0 : Int)))
  (.req ((0 : Nat) = (0 : Nat))
  (.req (((0 : Int) ≤ (0 : Int) ∧ (0 : Int) ≤ (4 : Int)) ∧ (↑((0 : Nat)) : Int) ≤ (0 : Int))
  (.req (List.length ([] ++ endL e (Int.toNat ((4 : Int) - (0 : Int))) (0 : Int) (0 : Int)) = List.length ([] ++ endL e (Int.toNat ((4 : Int) - (0 : Int))) (0 : Int) (0 : Int)))
  (.req (List.length ([] ++ ldL l (Int.toNat ((3 : Int) - (0 : Int))) (0 : Int)) = List.length ([] ++ ldL l (Int.toNat ((3 : Int) - (0 : Int))) (0 : Int)))
  (.req (List.length ([] ++ gdL g (Int.toNat ((5 : Int) - (0 : Int))) (0 : Int)) = List.length ([] ++ gdL g (Int.toNat ((5 : Int) - (0 : Int))) (0 : Int)))
  (.req (((0 : Int) ≤ (0 : Int) ∧ (0 : Int) ≤ (↑(List.length ([] ++ endL e (Int.toNat ((4 : Int) - (0 : Int))) (0 : Int) (0 : Int))) : Int)) ∧ (List.length ([] ++ endL e (Int.toNat ((4 : Int) - (0 : Int))) (0 : Int) (0 : Int)) ≤ (3 : Nat) ∧ (1 : Nat) ≤ List.length ([] ++ gdL g (Int.toNat ((5 : Int) - (0 : Int))) (0 : Int)) ∧ List.length ([] ++ gdL g (Int.toNat ((5 : Int) - (0 : Int))) (0 : Int)) ≤ (6 : Nat)) ∧ (↑((0 : Nat)) : Int) = (0 : Int))
  (.req (List.length ([] ++ endL e (Int.toNat ((4 : Int) - (0 : Int))) (0 : Int) (0 : Int)) = List.length ([] ++ endL e (Int.toNat ((4 : Int) - (0 : Int))) (0 : Int) (0 : Int)))
  (.req (List.length ([] ++ ldL l (Int.toNat ((3 : Int) - (0 : Int))) (0 : Int)) = List.length ([] ++ ldL l (Int.toNat ((3 : Int) - (0 : Int))) (0 : Int)))
  (.req (List.length ([] ++ gdL g (Int.toNat ((5 : Int) - (0 : Int))) (0 : Int)) = List.length ([] ++ gdL g (Int.toNat ((5 : Int) - (0 : Int))) (0 : Int)))
  (.req (okJ ([] ++ endL e (Int.toNat ((4 : Int) - (0 : Int))) (0 : Int) (0 : Int)) ([] ++ ldL l (Int.toNat ((3 : Int) - (0 : Int))) (0 : Int)) ([] ++ gdL g (Int.toNat ((5 : Int) - (0 : Int))) (0 : Int)) (IntKind.wrap IntKind.i64 ((1000 : Int) + f % (500 : Int))) (o % (20000000 : Int)))
  (.br (false)
   (.br ((0 : Int) != (↑(List.length ([] ++ chs n (↑(List.length ([] ++ gdL g (Int.toNat ((5 : Int) - (0 : Int))) (0 : Int))) : Int) (List.length ([] ++ endL e (Int.toNat ((4 : Int) - (0 : Int))) (0 : Int) (0 : Int)) - Int.toNat (0 : Int)) (0 : Int))) : Int))
    (.leaf (.bool (false)))
    (.req (dsc [] ∧ (1 : Int) ≤ (1 : Int) ∧ (0 : Nat) ≤ (3 : Nat))
    (.req ((decide ((0 : Int) ≤ IntKind.wrap IntKind.i64 ((↑((0 : Nat)) : Int) - (1 : Int))) && decide (IntKind.wrap IntKind.i64 ((↑((0 : Nat)) : Int) - (1 : Int)) < (↑((0 : Nat)) : Int))) = true)
    (.br (decide (ni [] (IntKind.wrap IntKind.i64 ((↑((0 : Nat)) : Int) - (1 : Int))) ≥ o % (20000000 : Int)))
     (.leaf (.bool (true)))
     (.leaf (.bool (false)))))))
   (.req (List.length ([] ++ endL e (Int.toNat ((4 : Int) - (0 : Int))) (0 : Int) (0 : Int)) = List.length ([] ++ endL e (Int.toNat ((4 : Int) - (0 : Int))) (0 : Int) (0 : Int)))
   (.req (List.length ([] ++ ldL l (Int.toNat ((3 : Int) - (0 : Int))) (0 : Int)) = List.length ([] ++ ldL l (Int.toNat ((3 : Int) - (0 : Int))) (0 : Int)))
   (.req (List.length ([] ++ gdL g (Int.toNat ((5 : Int) - (0 : Int))) (0 : Int)) = List.length ([] ++ gdL g (Int.toNat ((5 : Int) - (0 : Int))) (0 : Int)))
   (.req (List.length ([] ++ chs n (↑(List.length ([] ++ gdL g (Int.toNat ((5 : Int) - (0 : Int))) (0 : Int))) : Int) (List.length ([] ++ endL e (Int.toNat ((4 : Int) - (0 : Int))) (0 : Int) (0 : Int)) - Int.toNat (0 : Int)) (0 : Int)) = List.length ([] ++ chs n (↑(List.length ([] ++ gdL g (Int.toNat ((5 : Int) - (0 : Int))) (0 : Int))) : Int) (List.length ([] ++ endL e (Int.toNat ((4 : Int) - (0 : Int))) (0 : Int) (0 : Int)) - Int.toNat (0 : Int)) (0 : Int)))
   (.req (List.length ([] ++ chs n (↑(List.length ([] ++ gdL g (Int.toNat ((5 : Int) - (0 : Int))) (0 : Int))) : Int) (List.length ([] ++ endL e (Int.toNat ((4 : Int) - (0 : Int))) (0 : Int) (0 : Int)) - Int.toNat (0 : Int)) (0 : Int)) = List.length ([] ++ endL e (Int.toNat ((4 : Int) - (0 : Int))) (0 : Int) (0 : Int)) ∧ okC ([] ++ chs n (↑(List.length ([] ++ gdL g (Int.toNat ((5 : Int) - (0 : Int))) (0 : Int))) : Int) (List.length ([] ++ endL e (Int.toNat ((4 : Int) - (0 : Int))) (0 : Int) (0 : Int)) - Int.toNat (0 : Int)) (0 : Int)) (List.length ([] ++ gdL g (Int.toNat ((5 : Int) - (0 : Int))) (0 : Int))))
   (.br (false)
    (.br ((0 : Int) != (↑(List.length ([] ++ chs n (↑(List.length ([] ++ gdL g (Int.toNat ((5 : Int) - (0 : Int))) (0 : Int))) : Int) (List.length ([] ++ endL e (Int.toNat ((4 : Int) - (0 : Int))) (0 : Int) (0 : Int)) - Int.toNat (0 : Int)) (0 : Int))) : Int))
     (.leaf (.bool (false)))
     (.req (dsc [] ∧ (1 : Int) ≤ (1 : Int) ∧ (0 : Nat) ≤ (3 : Nat))
     (.req ((decide ((0 : Int) ≤ IntKind.wrap IntKind.i64 ((↑((0 : Nat)) : Int) - (1 : Int))) && decide (IntKind.wrap IntKind.i64 ((↑((0 : Nat)) : Int) - (1 : Int)) < (↑((0 : Nat)) : Int))) = true)
     (.br (decide (ni [] (IntKind.wrap IntKind.i64 ((↑((0 : Nat)) : Int) - (1 : Int))) ≥ o % (20000000 : Int)))
      (.leaf (.bool (true)))
      (.leaf (.bool (false)))))))
    (.req (List.length ([] ++ endL e (Int.toNat ((4 : Int) - (0 : Int))) (0 : Int) (0 : Int)) = List.length ([] ++ endL e (Int.toNat ((4 : Int) - (0 : Int))) (0 : Int) (0 : Int)))
    (.req (List.length ([] ++ ldL l (Int.toNat ((3 : Int) - (0 : Int))) (0 : Int)) = List.length ([] ++ ldL l (Int.toNat ((3 : Int) - (0 : Int))) (0 : Int)))
    (.req (List.length ([] ++ gdL g (Int.toNat ((5 : Int) - (0 : Int))) (0 : Int)) = List.length ([] ++ gdL g (Int.toNat ((5 : Int) - (0 : Int))) (0 : Int)))
    (.req (List.length ([] ++ chs n (↑(List.length ([] ++ gdL g (Int.toNat ((5 : Int) - (0 : Int))) (0 : Int))) : Int) (List.length ([] ++ endL e (Int.toNat ((4 : Int) - (0 : Int))) (0 : Int) (0 : Int)) - Int.toNat (0 : Int)) (0 : Int)) = List.length ([] ++ chs n (↑(List.length ([] ++ gdL g (Int.toNat ((5 : Int) - (0 : Int))) (0 : Int))) : Int) (List.length ([] ++ endL e (Int.toNat ((4 : Int) - (0 : Int))) (0 : Int) (0 : Int)) - Int.toNat (0 : Int)) (0 : Int)))
    (.req (okP ([] ++ endL e (Int.toNat ((4 : Int) - (0 : Int))) (0 : Int) (0 : Int)) ([] ++ gdL g (Int.toNat ((5 : Int) - (0 : Int))) (0 : Int)) (o % (20000000 : Int)) ([] ++ chs n (↑(List.length ([] ++ gdL g (Int.toNat ((5 : Int) - (0 : Int))) (0 : Int))) : Int) (List.length ([] ++ endL e (Int.toNat ((4 : Int) - (0 : Int))) (0 : Int) (0 : Int)) - Int.toNat (0 : Int)) (0 : Int)))
    (.br ((↑(List.length (plS ([] ++ endL e (Int.toNat ((4 : Int) - (0 : Int))) (0 : Int) (0 : Int)) ([] ++ gdL g (Int.toNat ((5 : Int) - (0 : Int))) (0 : Int)) (o % (20000000 : Int)) ([] ++ chs n (↑(List.length ([] ++ gdL g (Int.toNat ((5 : Int) - (0 : Int))) (0 : Int))) : Int) (List.length ([] ++ endL e (Int.toNat ((4 : Int) - (0 : Int))) (0 : Int) (0 : Int)) - Int.toNat (0 : Int)) (0 : Int)))) : Int) != (↑(List.length ([] ++ chs n (↑(List.length ([] ++ gdL g (Int.toNat ((5 : Int) - (0 : Int))) (0 : Int))) : Int) (List.length ([] ++ endL e (Int.toNat ((4 : Int) - (0 : Int))) (0 : Int) (0 : Int)) - Int.toNat (0 : Int)) (0 : Int))) : Int))
     (.leaf (.bool (false)))
     (.req (dsc (plS ([] ++ endL e (Int.toNat ((4 : Int) - (0 : Int))) (0 : Int) (0 : Int)) ([] ++ gdL g (Int.toNat ((5 : Int) - (0 : Int))) (0 : Int)) (o % (20000000 : Int)) ([] ++ chs n (↑(List.length ([] ++ gdL g (Int.toNat ((5 : Int) - (0 : Int))) (0 : Int))) : Int) (List.length ([] ++ endL e (Int.toNat ((4 : Int) - (0 : Int))) (0 : Int) (0 : Int)) - Int.toNat (0 : Int)) (0 : Int))) ∧ (1 : Int) ≤ (1 : Int) ∧ List.length (plS ([] ++ endL e (Int.toNat ((4 : Int) - (0 : Int))) (0 : Int) (0 : Int)) ([] ++ gdL g (Int.toNat ((5 : Int) - (0 : Int))) (0 : Int)) (o % (20000000 : Int)) ([] ++ chs n (↑(List.length ([] ++ gdL g (Int.toNat ((5 : Int) - (0 : Int))) (0 : Int))) : Int) (List.length ([] ++ endL e (Int.toNat ((4 : Int) - (0 : Int))) (0 : Int) (0 : Int)) - Int.toNat (0 : Int)) (0 : Int))) ≤ (3 : Nat))
     (.req ((decide ((0 : Int) ≤ IntKind.wrap IntKind.i64 ((↑(List.length (plS ([] ++ endL e (Int.toNat ((4 : Int) - (0 : Int))) (0 : Int) (0 : Int)) ([] ++ gdL g (Int.toNat ((5 : Int) - (0 : Int))) (0 : Int)) (o % (20000000 : Int)) ([] ++ chs n (↑(List.length ([] ++ gdL g (Int.toNat ((5 : Int) - (0 : Int))) (0 : Int))) : Int) (List.length ([] ++ endL e (Int.toNat ((4 : Int) - (0 : Int))) (0 : Int) (0 : Int)) - Int.toNat (0 : Int)) (0 : Int)))) : Int) - (1 : Int))) && decide (IntKind.wrap IntKind.i64 ((↑(List.length (plS ([] ++ endL e (Int.toNat ((4 : Int) - (0 : Int))) (0 : Int) (0 : Int)) ([] ++ gdL g (Int.toNat ((5 : Int) - (0 : Int))) (0 : Int)) (o % (20000000 : Int)) ([] ++ chs n (↑(List.length ([] ++ gdL g (Int.toNat ((5 : Int) - (0 : Int))) (0 : Int))) : Int) (List.length ([] ++ endL e (Int.toNat ((4 : Int) - (0 : Int))) (0 : Int) (0 : Int)) - Int.toNat (0 : Int)) (0 : Int)))) : Int) - (1 : Int)) < (↑(List.length (plS ([] ++ endL e (Int.toNat ((4 : Int) - (0 : Int))) (0 : Int) (0 : Int)) ([] ++ gdL g (Int.toNat ((5 : Int) - (0 : Int))) (0 : Int)) (o % (20000000 : Int)) ([] ++ chs n (↑(List.length ([] ++ gdL g (Int.toNat ((5 : Int) - (0 : Int))) (0 : Int))) : Int) (List.length ([] ++ endL e (Int.toNat ((4 : Int) - (0 : Int))) (0 : Int) (0 : Int)) - Int.toNat (0 : Int)) (0 : Int)))) : Int))) = true)
     (.br (decide (ni (plS ([] ++ endL e (Int.toNat ((4 : Int) - (0 : Int))) (0 : Int) (0 : Int)) ([] ++ gdL g (Int.toNat ((5 : Int) - (0 : Int))) (0 : Int)) (o % (20000000 : Int)) ([] ++ chs n (↑(List.length ([] ++ gdL g (Int.toNat ((5 : Int) - (0 : Int))) (0 : Int))) : Int) (List.length ([] ++ endL e (Int.toNat ((4 : Int) - (0 : Int))) (0 : Int) (0 : Int)) - Int.toNat (0 : Int)) (0 : Int))) (IntKind.wrap IntKind.i64 ((↑(List.length (plS ([] ++ endL e (Int.toNat ((4 : Int) - (0 : Int))) (0 : Int) (0 : Int)) ([] ++ gdL g (Int.toNat ((5 : Int) - (0 : Int))) (0 : Int)) (o % (20000000 : Int)) ([] ++ chs n (↑(List.length ([] ++ gdL g (Int.toNat ((5 : Int) - (0 : Int))) (0 : Int))) : Int) (List.length ([] ++ endL e (Int.toNat ((4 : Int) - (0 : Int))) (0 : Int) (0 : Int)) - Int.toNat (0 : Int)) (0 : Int)))) : Int) - (1 : Int))) ≥ o % (20000000 : Int)))
      (.leaf (.bool (true)))
      (.leaf (.bool (false)))))))))))))))))))))))))))))))))))))) := by kernel_rfl
theorem W_bd {U : List Int} {H : List Grade} {O : Int} {c : List Int} (h : okP U H O c) : 0 ≤ W0 U H c ∧ (2 ≤ U.length → 0 ≤ W1 U H c) ∧ (3 ≤ U.length → 0 ≤ W2 U H c) := by
  have hc := h.1.1
  obtain ⟨_, he, _, _, _⟩ := id h
  have l1 := he.1.1
  refine ⟨?_, fun l2 => ?_, fun l3 => ?_⟩
  · have m := he.2.1 _ (ni_mem (l := U) (i := 0) (by decide) (by omega))
    exact (wt_bd (d := ni U 0 - 0) (gW_bd h (i := 0) (by decide) (by omega)).1 ⟨by omega, by omega⟩).1.1
  · have m := he.2.1 _ (ni_mem (l := U) (i := 0) (by decide) (by omega))
    have m1 := he.2.1 _ (ni_mem (l := U) (i := 1) (by decide) (by omega))
    have a : ni U 0 < ni U 1 := he.2.2 1 (by decide) (by omega)
    exact (wt_bd (d := ni U 1 - ni U 0) (gW_bd h (i := 1) (by decide) (by omega)).1 ⟨by omega, by omega⟩).1.1
  · have m := he.2.1 _ (ni_mem (l := U) (i := 1) (by decide) (by omega))
    have m1 := he.2.1 _ (ni_mem (l := U) (i := 2) (by decide) (by omega))
    have a : ni U 1 < ni U 2 := he.2.2 2 (by decide) (by omega)
    exact (wt_bd (d := ni U 2 - ni U 1) (gW_bd h (i := 2) (by decide) (by omega)).1 ⟨by omega, by omega⟩).1.1
theorem plS_ok {U : List Int} {H : List Grade} {O : Int} {c : List Int} (h : okP U H O c) : (plS U H O c).length = U.length ∧ dsc (plS U H O c) ∧ O ≤ ni (plS U H O c) ((U.length : Int) - 1) := by
  obtain ⟨b0, b1, b2⟩ := W_bd h
  have n1 := h.2.1.1.1
  have n3' := h.2.2.2.2
  have : U.length = 1 ∨ U.length = 2 ∨ U.length = 3 := by omega
  rcases this with hn | hn | hn
  · unfold plS
    rw [if_pos hn, hn]
    refine ⟨rfl, fun i i0 i1 => ?_, ?_⟩
    · have i1 : i < 1 := i1
      omega
    · show O ≤ W0 U H c + O
      omega
  · have b1 := b1 (by omega)
    unfold plS
    rw [if_neg (by omega), if_pos hn, hn]
    refine ⟨rfl, fun i i0 i1 => ?_, ?_⟩
    · have i1 : i < 2 := i1
      obtain rfl : i = 1 := by omega
      show W1 U H c + O ≤ W0 U H c + O + W1 U H c
      omega
    · show O ≤ W1 U H c + O
      omega
  · have b1 := b1 (by omega)
    have b2 := b2 (by omega)
    unfold plS
    rw [if_neg (by omega), if_neg (by omega), hn]
    refine ⟨rfl, fun i i0 i1 => ?_, ?_⟩
    · have i1 : i < 3 := i1
      have : i = 1 ∨ i = 2 := by omega
      rcases this with rfl | rfl
      · show W1 U H c + O + W2 U H c ≤ W0 U H c + O + W1 U H c + W2 U H c
        omega
      · show W2 U H c + O ≤ W1 U H c + O + W2 U H c
        omega
    · show O ≤ W2 U H c + O
      omega
theorem casingPulls_proved : Rows.CasingPullsSaid := casingPulls_said fun w n _ _ => fact_run ctL5_ok llC_ok (ts := [4]) rfl (by
  show (runX ctL5 llC 13 [.agg [.sl 2 w.Ends false, .sl 2 w.Loads false, .sl 2 w.Grades false, i64 w.Factor, i64 w.Over], i64 n] [4]).holds _
  rw [tv13]
  obtain ⟨hU, lU⟩ := endL_E w.Ends
  have hH := gdL_H w.Grades
  have hD : okD ([] ++ ldL w.Loads (Int.toNat (3 - 0)) 0) := by
    obtain ⟨d1, d2⟩ := ldL_ok w.Loads 3 0
    exact ⟨by show (ldL w.Loads 3 0).length ≤ 6; omega, d2⟩
  generalize [] ++ endL w.Ends (Int.toNat (4 - 0)) 0 0 = U at *
  generalize [] ++ gdL w.Grades (Int.toNat (5 - 0)) 0 = H at *
  generalize [] ++ ldL w.Loads (Int.toNat (3 - 0)) 0 = D at *
  have hO : 0 ≤ w.Over % 20000000 ∧ w.Over % 20000000 < 20000000 := by omega
  have hF : 1000 ≤ IntKind.wrap IntKind.i64 (1000 + w.Factor % 500) ∧ IntKind.wrap IntKind.i64 (1000 + w.Factor % 500) ≤ 3000 := by
    rw [i64_in' (by omega) (by omega)]
    omega
  have cl : ([] ++ chs n (H.length : Int) (U.length - Int.toNat 0) 0).length = U.length := chs_len _ _ _ _
  have l1 := hU.1
  have g1 := hH.1
  have ci : okC ([] ++ chs n (H.length : Int) (U.length - Int.toNat 0) 0) H.length := ⟨by omega, chs_in (by omega) _ _⟩
  generalize [] ++ chs n (H.length : Int) (U.length - Int.toNat 0) 0 = c at *
  generalize w.Over % 20000000 = O at *
  generalize IntKind.wrap IntKind.i64 (1000 + w.Factor % 500) = F at *
  have okj : okJ U D H F O := ⟨hU, hD, hH, hF, hO.1, by omega⟩
  have okp : okP U H O c := ⟨⟨cl, ci⟩, hU, hH, ⟨hO.1, by omega⟩, lU⟩
  obtain ⟨p1, p2, p3⟩ := plS_ok okp
  have e1 : IntKind.wrap IntKind.i64 (((plS U H O c).length : Int) - 1) = (U.length : Int) - 1 := by rw [p1]; exact i64_in' (by omega) (by omega)
  rw [e1]
  refine ⟨⟨by decide, by decide⟩, ⟨by decide, by decide⟩, by decide, rfl, rfl, rfl, by decide, rfl, rfl, rfl, by decide, rfl, rfl, rfl, ⟨⟨by decide, by omega⟩, ⟨lU, g1⟩, rfl⟩, rfl, rfl, rfl, okj, wayF ⟨rfl, rfl, rfl, rfl, ⟨cl, ci⟩, wayF ⟨rfl, rfl, rfl, rfl, okp, wayNe (fun q => absurd (by rw [p1, cl]) q) fun _ => ⟨⟨p2, by decide, by omega⟩, ?_, way (fun _ => rfl) fun q => absurd p3 q⟩⟩⟩⟩
  simp only [Bool.and_eq_true, decide_eq_true_eq]
  omega)
end Go.Proofs.Ytcddppakogialaa.W.Jb
end
