/- S02G1 and S02G2 and S02G3 and S02G4 and S02P1 and S02P3 and S02O1 and S02O2 and S02O3 in one text. No condition. -/
import Derived.Test.YtdlholmphenhhaaV4
import Derived.Test.YtdlholmphenhhaaCz6
import Derived.Test.YtdlholmphenhhaaCz14
import Derived.Test.YtdlholmphenhhaaV5
import Derived.Test.YtdlholmphenhhaaW
import Derived.Test.YtdlholmphenhhaaLEarthOrder
set_option linter.unusedVariables false
set_option linter.unusedVariables false
set_option maxRecDepth 100000
noncomputable section
namespace Go.Proofs.Ytdlholmphenhhaa.W.Gr
open Go Go.Cx Go.RowKit
noncomputable def runR (ct : CTab T) (ll : Nat → Nat → LoopTab T) (f : Nat) (cs xs : List (AV T)) (ts : List Nat) : Tree (AV T × List (AV T)) := resR Try.prog E ts cs.length (callX Try.prog E ct ll 1000 8 (.fn f) xs (hpR cs))
theorem factR_run {ct : CTab T} (hc : CTabOk Try.prog E ct) {ll : Nat → Nat → LoopTab T} (hl : LLOk Try.prog E ll) {f : Nat} {cs xs : List (AV T)} {ts : List Nat} {v : AV T} {cs' : List (AV T)}
    (h : (runR ct ll f cs xs ts).holds fun x => x = (v, cs')) : FactR Try.prog E f cs xs v cs' :=
  factR_of_run good (callX_ok good names mixes hc hl 8) h
@[reducible] def mPre (a b : Int) : Prop := 0 < b ∧ b ≤ 4611686018427387904
noncomputable def cMod : Con T := conP Try.prog [.one (.i .i64), .one (.i .i64)] [.n, .n] (fun d => mPre d.1 d.2.1) (fun d => i64 (d.1 % d.2.1))
noncomputable def mTree (a b : Int) : Tree (AV T) :=
  (.req (decide (b ≠ (0 : Int)) = true)
  (.br (decide (Int.tmod a b < (0 : Int)))
   (.leaf (.sym .i64 (IntKind.wrap IntKind.i64 (Int.tmod a b + b))))
   (.leaf (.sym .i64 (Int.tmod a b)))))
theorem mTree_ok {a b : Int} (h0 : 0 < b) (h1 : b ≤ 4611686018427387904) : (mTree a b).holds fun x => x = i64 (a % b) := by
  have h2 := Int.tmod_lt_of_pos a h0
  have h3 := Int.tmod_lt_of_pos (-a) h0
  rw [Int.neg_tmod] at h3
  have h4 := Int.mul_tdiv_add_tmod a b
  unfold mTree
  refine ⟨decide_eq_true (by omega), way (fun h => ?_) fun h => ?_⟩
  · rw [show IntKind.wrap IntKind.i64 (Int.tmod a b + b) = Int.tmod a b + b from i64_in' (by omega) (by omega)]
    exact congrArg i64 ((Int.ediv_emod_unique h0 (q := Int.tdiv a b - 1)).2 ⟨by rw [Int.mul_sub, Int.mul_one]; omega, by omega, by omega⟩).2.symm
  · exact congrArg i64 ((Int.ediv_emod_unique h0 (q := Int.tdiv a b)).2 ⟨by omega, by omega, by omega⟩).2.symm
theorem t57 (a b : Int) : runX [] noLoops 57 [i64 a, i64 b] [2] = mTree a b := by kernel_rfl
theorem mod64_ok : ConOk Try.prog E 57 cMod := conP_ok fun d hd => fact_run .nil noLoops_ok (ts := [2]) rfl (by
  obtain ⟨a, b, ⟨⟩⟩ := d
  show (runX [] noLoops 57 [i64 a, i64 b] [2]).holds _
  rw [t57]
  exact mTree_ok hd.1 hd.2)
noncomputable def ni (l : List Int) (i : Int) : Int := ixD E 2 l i
noncomputable def pk (l : List Int) (i : Int) : Int := if (l.length : Int) = 0 then 0 else ni l (Int.tmod i l.length) % 1099511627776
noncomputable def ctM : CTab T := [(57, cMod)]
theorem ctM_ok : CTabOk Try.prog E ctM := .cons mod64_ok .nil
theorem tv90 (l : List Int) (i : Int) : runX ctM noLoops 90 [.sl 2 l false, i64 i] [2] =
  (.br ((↑(List.length l) : Int) == (0 : Int))
   (.leaf (.sym .i64 ((0 : Int))))
   (.req (decide ((↑(List.length l) : Int) ≠ (0 : Int)) = true)
   (.req ((decide ((0 : Int) ≤ Int.tmod i (↑(List.length l) : Int)) && decide (Int.tmod i (↑(List.length l) : Int) < (↑(List.length l) : Int))) = true)
   (.req (mPre (ni l (Int.tmod i (↑(List.length l) : Int))) (1099511627776 : Int))
   (.leaf (.sym .i64 (ni l (Int.tmod i (↑(List.length l) : Int)) % (1099511627776 : Int)))))))) := by kernel_rfl
theorem s90 (l : List Int) (i : Int) (h : 0 ≤ i) : (runX ctM noLoops 90 [.sl 2 l false, i64 i] [2]).holds fun v => v = i64 (pk l i) := by
  rw [tv90]
  unfold pk
  refine wayEq (fun c => ?_) fun c => ?_
  · rw [if_pos c]; rfl
  · have h1 := Int.tmod_nonneg (l.length : Int) h
    have h2 := Int.tmod_lt_of_pos i (b := (l.length : Int)) (by omega)
    rw [if_neg c]
    exact ⟨decide_eq_true c, by simp only [Bool.and_eq_true, decide_eq_true_eq]; omega, ⟨by decide, by decide⟩, rfl⟩
theorem pk_bd (l : List Int) (i : Int) : 0 ≤ pk l i ∧ pk l i < 1099511627776 := by
  unfold pk
  split <;> omega
noncomputable def cPk : Con T := conP Try.prog [.one (.s 2), .one (.i .i64)] [.l 2, .n] (fun d => 0 ≤ d.2.1) fun d => i64 (pk d.1 d.2.1)
theorem pk_ok : ConOk Try.prog E 90 cPk := conP_ok fun d hd => fact_run ctM_ok noLoops_ok (ts := [2]) rfl (s90 d.1 d.2.1 hd)
noncomputable def ctP : CTab T := [(57, cMod), (90, cPk)]
theorem ctP_ok : CTabOk Try.prog E ctP := .cons mod64_ok (.cons pk_ok .nil)
end Go.Proofs.Ytdlholmphenhhaa.W.Gr
end

set_option linter.unusedVariables false
set_option maxRecDepth 100000
set_option maxHeartbeats 4000000
noncomputable section
namespace Go.Proofs.Ytdlholmphenhhaa.W.Gr
open Go Go.Cx Go.RowKit
noncomputable def kx (l : List Knot) (i : Int) : Knot := ixD E 78 l i
def i5 (i a B : Int) : Prop := i = 5 → a = B
def kV (l : List Knot) : Prop := ∀ k ∈ l, 0 ≤ k.V ∧ k.V ≤ 1099511627776
noncomputable def stp (s : List Int) (B i at' : Int) : Int := if i = 4 then B - at' else if at' + (1 + pk s (i + 2) % B) > B then B - at' else 1 + pk s (i + 2) % B
noncomputable def aa (s : List Int) (i : Int) : Int := 2000 + pk s (i + 3) / 7 % 20001
noncomputable def bb (s : List Int) (i : Int) : Int := aa s i + pk s (i + 4) / 11 % (30001 - aa s i)
noncomputable def tP (s : List Int) (B : Int) : Nat → Int → Int → Int → List Knot
  | 0, _, at', p => [⟨at', p⟩]
  | n + 1, i, at', p => ⟨at', p⟩ :: if at' = B then [] else tP s B n (i + 1) (at' + stp s B i at') (p + aa s i * stp s B i at')
noncomputable def tF (s : List Int) (B : Int) : Nat → Int → Int → Int → List Knot
  | 0, _, at', p => [⟨at', p⟩]
  | n + 1, i, at', p => ⟨at', p⟩ :: if at' = B then [] else tF s B n (i + 1) (at' + stp s B i at') (p + bb s i * stp s B i at')
noncomputable def oTT (P : List Knot) (F : List Knot) (B : Int) (a : Int) (p : Int) (f : Int) (i : Int) (c : Int) (s : List Int) (o : List Int) (m : List Int) : Tree (Ex × List (V T)) := .req ((0 ≤ i ∧ i ≤ 5 ∧ i5 i a B) ∧ (1000 ≤ B ∧ B ≤ 500000) ∧ (0 ≤ a ∧ a ≤ B) ∧ (0 ≤ p ∧ p ≤ 1000000 + 22000 * a) ∧ (0 ≤ f ∧ f ≤ 21000000 + 30000 * a) ∧ P.length ≤ 5 ∧ F.length ≤ 5 ∧ (P.length : Int) ≤ i ∧ (F.length : Int) ≤ i) (.leaf (.exit 0, [.l 78 (P ++ tP s B (5 - i).toNat i a p), .l 78 (F ++ tF s B (5 - i).toNat i a f)]))
noncomputable def cTT : LoopC T := ⟨[.l 78, .l 78, .n, .n, .n, .n, .n, .n, .l 2, .l 2, .l 2], ⟨106, [(1, .one (.o 0 0)), (2, .one (.o 1 0)), (3, .one (.i .i64)), (4, .one (.o 2 0)), (5, .one (.i .i64)), (6, .one (.i .i64)), (7, .one (.i .i64)), (8, .one (.i .i64))], [.c [.i .i64, .s 2, .s 2, .s 2], .c [.x, .x], .c [.g 3 78, .g 4 78], .l 78, .l 78]⟩, fun _ => ⟨106, [(2, .one (.o 0 0)), (4, .one (.o 1 0))], [.c [.x, .x], .c [.g 2 78, .g 3 78], .l 78, .l 78]⟩, 60, fun d => oTT d.1 d.2.1 d.2.2.1 d.2.2.2.1 d.2.2.2.2.1 d.2.2.2.2.2.1 d.2.2.2.2.2.2.1 d.2.2.2.2.2.2.2.1 d.2.2.2.2.2.2.2.2.1 d.2.2.2.2.2.2.2.2.2.1 d.2.2.2.2.2.2.2.2.2.2.1⟩
theorem bTT (P : List Knot) (F : List Knot) (B : Int) (a : Int) (p : Int) (f : Int) (i : Int) (c : Int) (s : List Int) (o : List Int) (m : List Int) : bodyD Try.prog E cTT 0 (bodyX Try.prog E ctP noLoops 1000 5 L0 (lpOf Try.prog 56 0)) (P, F, B, a, p, f, i, c, s, o, m, ()) =
  (.br (decide (i < (6 : Int)))
   (.req (List.length P = List.length P)
   (.req (List.length P + List.length [Knot.mk a p] ≤ (1073741824 : Nat))
   (.req (List.length F = List.length F)
   (.req (List.length F + List.length [Knot.mk a f] ≤ (1073741824 : Nat))
   (.br (a == B)
    (.req (List.length (P ++ [Knot.mk a p]) = List.length (P ++ [Knot.mk a p]))
    (.req (List.length (F ++ [Knot.mk a f]) = List.length (F ++ [Knot.mk a f]))
    (.leaf (.inr (.exit (0 : Nat), [.l (78 : Nat) (P ++ [Knot.mk a p]), .l (78 : Nat) (F ++ [Knot.mk a f])])))))
    (.req ((0 : Int) ≤ IntKind.wrap IntKind.i64 (i + (2 : Int)))
    (.req (mPre (pk s (IntKind.wrap IntKind.i64 (i + (2 : Int)))) B)
    (.br (i == (4 : Int))
     (.req ((0 : Int) ≤ IntKind.wrap IntKind.i64 (i + (3 : Int)))
     (.req (mPre (IntKind.wrap IntKind.i64 (Int.tdiv (pk s (IntKind.wrap IntKind.i64 (i + (3 : Int)))) (7 : Int))) (20001 : Int))
     (.req ((0 : Int) ≤ IntKind.wrap IntKind.i64 (i + (4 : Int)))
     (.req (mPre (IntKind.wrap IntKind.i64 (Int.tdiv (pk s (IntKind.wrap IntKind.i64 (i + (4 : Int)))) (11 : Int))) (IntKind.wrap IntKind.i64 ((30001 : Int) - IntKind.wrap IntKind.i64 ((2000 : Int) + IntKind.wrap IntKind.i64 (Int.tdiv (pk s (IntKind.wrap IntKind.i64 (i + (3 : Int)))) (7 : Int)) % (20001 : Int)))))
     (.req (List.length (P ++ [Knot.mk a p]) = List.length (P ++ [Knot.mk a p]))
     (.req (List.length (F ++ [Knot.mk a f]) = List.length (F ++ [Knot.mk a f]))
     (.leaf (.inl (P ++ [Knot.mk a p], (F ++ [Knot.mk a f], (B, (IntKind.wrap IntKind.i64 (a + IntKind.wrap IntKind.i64 (B - a)), (IntKind.wrap IntKind.i64 (p + IntKind.wrap IntKind.i64 (IntKind.wrap IntKind.i64 ((2000 : Int) + IntKind.wrap IntKind.i64 (Int.tdiv (pk s (IntKind.wrap IntKind.i64 (i + (3 : Int)))) (7 : Int)) % (20001 : Int)) * IntKind.wrap IntKind.i64 (B - a))), (IntKind.wrap IntKind.i64 (f + IntKind.wrap IntKind.i64 (IntKind.wrap IntKind.i64 (IntKind.wrap IntKind.i64 ((2000 : Int) + IntKind.wrap IntKind.i64 (Int.tdiv (pk s (IntKind.wrap IntKind.i64 (i + (3 : Int)))) (7 : Int)) % (20001 : Int)) + IntKind.wrap IntKind.i64 (Int.tdiv (pk s (IntKind.wrap IntKind.i64 (i + (4 : Int)))) (11 : Int)) % IntKind.wrap IntKind.i64 ((30001 : Int) - IntKind.wrap IntKind.i64 ((2000 : Int) + IntKind.wrap IntKind.i64 (Int.tdiv (pk s (IntKind.wrap IntKind.i64 (i + (3 : Int)))) (7 : Int)) % (20001 : Int)))) * IntKind.wrap IntKind.i64 (B - a))), (IntKind.wrap IntKind.i64 (i + (1 : Int)), (c, (s, (o, (m, ())))))))))))))))))))
     (.br (decide (IntKind.wrap IntKind.i64 (a + IntKind.wrap IntKind.i64 ((1 : Int) + pk s (IntKind.wrap IntKind.i64 (i + (2 : Int))) % B)) > B))
      (.req ((0 : Int) ≤ IntKind.wrap IntKind.i64 (i + (3 : Int)))
      (.req (mPre (IntKind.wrap IntKind.i64 (Int.tdiv (pk s (IntKind.wrap IntKind.i64 (i + (3 : Int)))) (7 : Int))) (20001 : Int))
      (.req ((0 : Int) ≤ IntKind.wrap IntKind.i64 (i + (4 : Int)))
      (.req (mPre (IntKind.wrap IntKind.i64 (Int.tdiv (pk s (IntKind.wrap IntKind.i64 (i + (4 : Int)))) (11 : Int))) (IntKind.wrap IntKind.i64 ((30001 : Int) - IntKind.wrap IntKind.i64 ((2000 : Int) + IntKind.wrap IntKind.i64 (Int.tdiv (pk s (IntKind.wrap IntKind.i64 (i + (3 : Int)))) (7 : Int)) % (20001 : Int)))))
      (.req (List.length (P ++ [Knot.mk a p]) = List.length (P ++ [Knot.mk a p]))
      (.req (List.length (F ++ [Knot.mk a f]) = List.length (F ++ [Knot.mk a f]))
      (.leaf (.inl (P ++ [Knot.mk a p], (F ++ [Knot.mk a f], (B, (IntKind.wrap IntKind.i64 (a + IntKind.wrap IntKind.i64 (B - a)), (IntKind.wrap IntKind.i64 (p + IntKind.wrap IntKind.i64 (IntKind.wrap IntKind.i64 ((2000 : Int) + IntKind.wrap IntKind.i64 (Int.tdiv (pk s (IntKind.wrap IntKind.i64 (i + (3 : Int)))) (7 : Int)) % (20001 : Int)) * IntKind.wrap IntKind.i64 (B - a))), (IntKind.wrap IntKind.i64 (f + IntKind.wrap IntKind.i64 (IntKind.wrap IntKind.i64 (IntKind.wrap IntKind.i64 ((2000 : Int) + IntKind.wrap IntKind.i64 (Int.tdiv (pk s (IntKind.wrap IntKind.i64 (i + (3 : Int)))) (7 : Int)) % (20001 : Int)) + IntKind.wrap IntKind.i64 (Int.tdiv (pk s (IntKind.wrap IntKind.i64 (i + (4 : Int)))) (11 : Int)) % IntKind.wrap IntKind.i64 ((30001 : Int) - IntKind.wrap IntKind.i64 ((2000 : Int) + IntKind.wrap IntKind.i64 (Int.tdiv (pk s (IntKind.wrap IntKind.i64 (i + (3 : Int)))) (7 : Int)) % (20001 : Int)))) * IntKind.wrap IntKind.i64 (B - a))), (IntKind.wrap IntKind.i64 (i + (1 : Int)), (c, (s, (o, (m, ())))))))))))))))))))
      (.req ((0 : Int) ≤ IntKind.wrap IntKind.i64 (i + (3 : Int)))
      (.req (mPre (IntKind.wrap IntKind.i64 (Int.tdiv (pk s (IntKind.wrap IntKind.i64 (i + (3 : Int)))) (7 : Int))) (20001 : Int))
      (.req ((0 : Int) ≤ IntKind.wrap IntKind.i64 (i + (4 : Int)))
      (.req (mPre (IntKind.wrap IntKind.i64 (Int.tdiv (pk s (IntKind.wrap IntKind.i64 (i + (4 : Int)))) (11 : Int))) (IntKind.wrap IntKind.i64 ((30001 : Int) - IntKind.wrap IntKind.i64 ((2000 : Int) + IntKind.wrap IntKind.i64 (Int.tdiv (pk s (IntKind.wrap IntKind.i64 (i + (3 : Int)))) (7 : Int)) % (20001 : Int)))))
      (.req (List.length (P ++ [Knot.mk a p]) = List.length (P ++ [Knot.mk a p]))
      (.req (List.length (F ++ [Knot.mk a f]) = List.length (F ++ [Knot.mk a f]))
      (.leaf (.inl (P ++ [Knot.mk a p], (F ++ [Knot.mk a f], (B, (IntKind.wrap IntKind.i64 (a + IntKind.wrap IntKind.i64 ((1 : Int) + pk s (IntKind.wrap IntKind.i64 (i + (2 : Int))) % B)), (IntKind.wrap IntKind.i64 (p + IntKind.wrap IntKind.i64 (IntKind.wrap IntKind.i64 ((2000 : Int) + IntKind.wrap IntKind.i64 (Int.tdiv (pk s (IntKind.wrap IntKind.i64 (i + (3 : Int)))) (7 : Int)) % (20001 : Int)) * IntKind.wrap IntKind.i64 ((1 : Int) + pk s (IntKind.wrap IntKind.i64 (i + (2 : Int))) % B))), (IntKind.wrap IntKind.i64 (f + IntKind.wrap IntKind.i64 (IntKind.wrap IntKind.i64 (IntKind.wrap IntKind.i64 ((2000 : Int) + IntKind.wrap IntKind.i64 (Int.tdiv (pk s (IntKind.wrap IntKind.i64 (i + (3 : Int)))) (7 : Int)) % (20001 : Int)) + IntKind.wrap IntKind.i64 (Int.tdiv (pk s (IntKind.wrap IntKind.i64 (i + (4 : Int)))) (11 : Int)) % IntKind.wrap IntKind.i64 ((30001 : Int) - IntKind.wrap IntKind.i64 ((2000 : Int) + IntKind.wrap IntKind.i64 (Int.tdiv (pk s (IntKind.wrap IntKind.i64 (i + (3 : Int)))) (7 : Int)) % (20001 : Int)))) * IntKind.wrap IntKind.i64 ((1 : Int) + pk s (IntKind.wrap IntKind.i64 (i + (2 : Int))) % B))), (IntKind.wrap IntKind.i64 (i + (1 : Int)), (c, (s, (o, (m, ()))))))))))))))))))))))))))))
   (.req (List.length P = List.length P)
   (.req (List.length F = List.length F)
   (.leaf (.inr (.exit (0 : Nat), [.l (78 : Nat) (P), .l (78 : Nat) (F)])))))) := by kernel_rfl
theorem tP_end {s : List Int} {B a p : Int} (h : a = B) : ∀ (n : Nat) (i : Int), tP s B n i a p = [⟨a, p⟩]
  | 0, _ => rfl
  | n + 1, i => by unfold tP; rw [if_pos h]
theorem tF_end {s : List Int} {B a p : Int} (h : a = B) : ∀ (n : Nat) (i : Int), tF s B n i a p = [⟨a, p⟩]
  | 0, _ => rfl
  | n + 1, i => by unfold tF; rw [if_pos h]
theorem nTT (P : List Knot) (F : List Knot) (B : Int) (a : Int) (p : Int) (f : Int) (i : Int) (c : Int) (s : List Int) (o : List Int) (m : List Int) (K : Ex × List (V T) → Prop) (hI : (0 ≤ i ∧ i ≤ 5 ∧ i5 i a B) ∧ (1000 ≤ B ∧ B ≤ 500000) ∧ (0 ≤ a ∧ a ≤ B) ∧ (0 ≤ p ∧ p ≤ 1000000 + 22000 * a) ∧ (0 ≤ f ∧ f ≤ 21000000 + 30000 * a) ∧ P.length ≤ 5 ∧ F.length ≤ 5 ∧ (P.length : Int) ≤ i ∧ (F.length : Int) ≤ i) (hK : (.leaf (.exit 0, [.l 78 (P ++ tP s B (5 - i).toNat i a p), .l 78 (F ++ tF s B (5 - i).toNat i a f)]) : Tree (Ex × List (V T))).holds K) : (cTT.out (P, F, B, a, p, f, i, c, s, o, m, ())).holds K := ⟨hI, hK⟩
theorem hTT' (P : List Knot) (F : List Knot) (B : Int) (a : Int) (p : Int) (f : Int) (i : Int) (c : Int) (s : List Int) (o : List Int) (m : List Int) (K : Ex × List (V T) → Prop) (hI : (0 ≤ i ∧ i ≤ 5 ∧ i5 i a B) ∧ (1000 ≤ B ∧ B ≤ 500000) ∧ (0 ≤ a ∧ a ≤ B) ∧ (0 ≤ p ∧ p ≤ 1000000 + 22000 * a) ∧ (0 ≤ f ∧ f ≤ 21000000 + 30000 * a) ∧ P.length ≤ 5 ∧ F.length ≤ 5 ∧ (P.length : Int) ≤ i ∧ (F.length : Int) ≤ i) (hK : (.leaf (.exit 0, [.l 78 (P ++ tP s B (5 - i).toNat i a p), .l 78 (F ++ tF s B (5 - i).toNat i a f)]) : Tree (Ex × List (V T))).holds K) :
    (bodyD Try.prog E cTT 0 (bodyX Try.prog E ctP noLoops 1000 5 L0 (lpOf Try.prog 56 0)) (P, F, B, a, p, f, i, c, s, o, m, ())).holds fun y => match y with
    | .inl d => (6 - d.2.2.2.2.2.2.1).toNat < (6 - i).toNat ∧ (cTT.out d).holds K
    | .inr y => K y := by
  rw [bTT]
  obtain ⟨⟨h0, h1, h15⟩, hB, ha, hp, hf, lp, lf, lp2, lf2⟩ := hI
  have k2 := pk_bd s (i + 2)
  have k3 := pk_bd s (i + 3)
  have k4 := pk_bd s (i + 4)
  have e2 : IntKind.wrap IntKind.i64 (i + 2) = i + 2 := i64_in' (by omega) (by omega)
  have e3 : IntKind.wrap IntKind.i64 (i + 3) = i + 3 := i64_in' (by omega) (by omega)
  have e4 : IntKind.wrap IntKind.i64 (i + 4) = i + 4 := i64_in' (by omega) (by omega)
  have t7 : IntKind.wrap IntKind.i64 (Int.tdiv (pk s (i + 3)) 7) = pk s (i + 3) / 7 := by rw [Int.tdiv_eq_ediv_of_nonneg k3.1]; exact i64_in' (by omega) (by omega)
  have t11 : IntKind.wrap IntKind.i64 (Int.tdiv (pk s (i + 4)) 11) = pk s (i + 4) / 11 := by rw [Int.tdiv_eq_ediv_of_nonneg k4.1]; exact i64_in' (by omega) (by omega)
  have a1 : IntKind.wrap IntKind.i64 (2000 + pk s (i + 3) / 7 % 20001) = aa s i := by unfold aa; exact i64_in' (by omega) (by omega)
  have ab : 2000 ≤ aa s i ∧ aa s i ≤ 22000 := by unfold aa; omega
  have a2 : IntKind.wrap IntKind.i64 (30001 - aa s i) = 30001 - aa s i := i64_in' (by omega) (by omega)
  have bm := Int.emod_nonneg (pk s (i + 4) / 11) (b := 30001 - aa s i) (by omega)
  have bl := Int.emod_lt_of_pos (pk s (i + 4) / 11) (b := 30001 - aa s i) (by omega)
  have a3 : IntKind.wrap IntKind.i64 (aa s i + pk s (i + 4) / 11 % (30001 - aa s i)) = bb s i := by unfold bb; exact i64_in' (by omega) (by omega)
  have bbd : aa s i ≤ bb s i ∧ bb s i ≤ 30000 := by unfold bb; omega
  have m0 := Int.emod_nonneg (pk s (i + 2)) (b := B) (by omega)
  have m1 := Int.emod_lt_of_pos (pk s (i + 2)) (b := B) (by omega)
  have e5 : IntKind.wrap IntKind.i64 (B - a) = B - a := i64_in' (by omega) (by omega)
  have e6 : IntKind.wrap IntKind.i64 (1 + pk s (i + 2) % B) = 1 + pk s (i + 2) % B := i64_in' (by omega) (by omega)
  have e7 : IntKind.wrap IntKind.i64 (a + (1 + pk s (i + 2) % B)) = a + (1 + pk s (i + 2) % B) := i64_in' (by omega) (by omega)
  have n1 : P.length + [Knot.mk a p].length ≤ 1073741824 := by show P.length + 1 ≤ _; omega
  have n2 : F.length + [Knot.mk a f].length ≤ 1073741824 := by show F.length + 1 ≤ _; omega
  refine way (fun _ => ?_) fun cc => absurd (by omega) cc
  rw [e2, e3, e4, t7, t11, a1, a2, a3, e5, e6]
  refine ⟨rfl, n1, rfl, n2, wayEq (fun cc => ?_) fun cc => ?_⟩
  · rw [tP_end cc, tF_end cc] at hK
    exact ⟨rfl, rfl, hK⟩
  · have i5' : i ≠ 5 := fun h => cc (h15 h)
    rw [show (5 - i).toNat = (5 - (i + 1)).toNat + 1 by omega] at hK
    unfold tP tF at hK
    rw [if_neg cc, if_neg cc] at hK
    have ac : ∀ (X Y : List Knot) (k : Knot), X ++ k :: Y = (X ++ [k]) ++ Y := fun X Y k => by simp
    rw [ac P, ac F] at hK
    have fin : ∀ st, stp s B i a = st → 0 ≤ st → a + st ≤ B → (i = 4 → a + st = B) → (6 - IntKind.wrap IntKind.i64 (i + 1)).toNat < (6 - i).toNat ∧ (cTT.out (P ++ [Knot.mk a p], F ++ [Knot.mk a f], B, IntKind.wrap IntKind.i64 (a + st), IntKind.wrap IntKind.i64 (p + IntKind.wrap IntKind.i64 (aa s i * st)), IntKind.wrap IntKind.i64 (f + IntKind.wrap IntKind.i64 (bb s i * st)), IntKind.wrap IntKind.i64 (i + 1), c, s, o, m, ())).holds K := by
      intro st hs s0 s1 s4
      rw [hs] at hK
      have q1 := Int.mul_le_mul_of_nonneg_right ab.2 s0
      have q2 := Int.mul_le_mul_of_nonneg_right bbd.2 s0
      have q3 := Int.mul_nonneg (show 0 ≤ aa s i by omega) s0
      have q4 := Int.mul_nonneg (show 0 ≤ bb s i by omega) s0
      have w1 : IntKind.wrap IntKind.i64 (i + 1) = i + 1 := i64_in' (by omega) (by omega)
      have w2 : IntKind.wrap IntKind.i64 (a + st) = a + st := i64_in' (by omega) (by omega)
      have w3 : IntKind.wrap IntKind.i64 (aa s i * st) = aa s i * st := i64_in' (by omega) (by omega)
      have w4 : IntKind.wrap IntKind.i64 (bb s i * st) = bb s i * st := i64_in' (by omega) (by omega)
      rw [w1, w2, w3, w4]
      have w5 : IntKind.wrap IntKind.i64 (p + aa s i * st) = p + aa s i * st := i64_in' (by omega) (by omega)
      have w6 : IntKind.wrap IntKind.i64 (f + bb s i * st) = f + bb s i * st := i64_in' (by omega) (by omega)
      rw [w5, w6]
      have L1 : (P ++ [Knot.mk a p]).length = P.length + 1 := by simp
      have L2 : (F ++ [Knot.mk a f]).length = F.length + 1 := by simp
      exact ⟨by omega, nTT _ _ _ _ _ _ _ _ _ _ _ K ⟨⟨by omega, by omega, fun h => s4 (by omega)⟩, hB, ⟨by omega, by omega⟩, ⟨by omega, by omega⟩, ⟨by omega, by omega⟩, by omega, by omega, by omega, by omega⟩ hK⟩
    have r2 : 0 ≤ i + 2 := by omega
    have r3 : 0 ≤ i + 3 := by omega
    have r4 : 0 ≤ i + 4 := by omega
    have p1 : mPre (pk s (i + 2)) B := ⟨by omega, by omega⟩
    have p2 : mPre (pk s (i + 3) / 7) 20001 := ⟨by decide, by decide⟩
    have p3 : mPre (pk s (i + 4) / 11) (30001 - aa s i) := ⟨by omega, by omega⟩
    refine ⟨r2, p1, wayEq (fun d => ⟨r3, p2, r4, p3, rfl, rfl, fin (B - a) (if_pos d) (by omega) (by omega) (fun _ => by omega)⟩) fun d => way (fun g => ⟨r3, p2, r4, p3, rfl, rfl, fin (B - a) ((if_neg d).trans (if_pos (by rw [e7] at g; exact g))) (by omega) (by omega) (fun _ => by omega)⟩) fun g => ⟨r3, p2, r4, p3, rfl, rfl, fin _ ((if_neg d).trans (if_neg (by rw [e7] at g; exact g))) (by omega) (by rw [e7] at g; omega) (fun h => absurd h d)⟩⟩
theorem hTT : LoopH Try.prog E cTT 0 (bodyX Try.prog E ctP noLoops 1000 5 L0 (lpOf Try.prog 56 0)) :=
  ⟨fun d => (6 - d.2.2.2.2.2.2.1).toNat, fun dd K hK => by
    obtain ⟨P, F, B, a, p, f, i, c, s, o, m, ⟨⟩⟩ := dd
    obtain ⟨hI, hK⟩ := hK
    refine Tree.holds_mono (fun y hy => ?_) (hTT' P F B a p f i c s o m K hI hK)
    cases y with
    | inl d' => exact hy
    | inr y => exact hy⟩
noncomputable def sd (o : List Int) (u : Bool) (j : Int) (k : Knot) : Knot := if u = true then ⟨k.At, k.V + pk o j % 40000000⟩ else ⟨k.At, if k.V - pk o j % 40000000 > 0 then k.V - pk o j % 40000000 else 0⟩
noncomputable def sft (o : List Int) (u : Bool) : Int → List Knot → List Knot
  | _, [] => []
  | j, k :: r => sd o u j k :: sft o u (j + 1) r
noncomputable def oSH (R : List Knot) (o : List Int) (q : Int) (u : Bool) (i : Int) (l : List Knot) : Tree (Ex × List (V T)) := .req ((0 ≤ i ∧ i ≤ l.length ∧ l.length ≤ 100) ∧ (0 ≤ q ∧ q ≤ 100) ∧ kV l ∧ (R.length : Int) ≤ i) (.leaf (.exit 0, [.l 78 (R ++ sft o u (q + i) (l.drop i.toNat))]))
noncomputable def cSH : LoopC T := ⟨[.l 78, .l 2, .n, .t, .n, .l 78], ⟨50, [(1, .one (.s 2)), (2, .one (.i .i64)), (3, .one (.b)), (4, .one (.o 0 0)), (8, .one (.o 1 0)), (9, .one (.o 2 0)), (10, .one (.i .i64))], [.c [.s 78], .c [.x], .c [.g 3 78], .l 78]⟩, fun _ => ⟨50, [(8, .one (.o 0 0)), (9, .one (.o 1 0))], [.c [.x], .c [.g 2 78], .l 78]⟩, 60, fun d => oSH d.1 d.2.1 d.2.2.1 d.2.2.2.1 d.2.2.2.2.1 d.2.2.2.2.2.1⟩
theorem bSH (R : List Knot) (o : List Int) (q : Int) (u : Bool) (i : Int) (l : List Knot) : bodyD Try.prog E cSH 0 (bodyX Try.prog E ctP noLoops 1000 5 L0 (lpOf Try.prog 91 0)) (R, o, q, u, i, l, ()) =
  (.br (decide (i < (↑(List.length l) : Int)))
   (.req ((0 : Int) ≤ IntKind.wrap IntKind.i64 (q + i))
   (.req (mPre (pk o (IntKind.wrap IntKind.i64 (q + i))) (40000000 : Int))
   (.req ((decide ((0 : Int) ≤ i) && decide (i < (↑(List.length l) : Int))) = true)
   (.br (u)
    (.req (List.length R = List.length R)
    (.req (List.length R + List.length [Knot.mk (Knot.At (kx l i)) (IntKind.wrap IntKind.i64 (Knot.V (kx l i) + pk o (IntKind.wrap IntKind.i64 (q + i)) % (40000000 : Int)))] ≤ (1073741824 : Nat))
    (.req (List.length (R ++ [Knot.mk (Knot.At (kx l i)) (IntKind.wrap IntKind.i64 (Knot.V (kx l i) + pk o (IntKind.wrap IntKind.i64 (q + i)) % (40000000 : Int)))]) = List.length (R ++ [Knot.mk (Knot.At (kx l i)) (IntKind.wrap IntKind.i64 (Knot.V (kx l i) + pk o (IntKind.wrap IntKind.i64 (q + i)) % (40000000 : Int)))]))
    (.leaf (.inl (R ++ [Knot.mk (Knot.At (kx l i)) (IntKind.wrap IntKind.i64 (Knot.V (kx l i) + pk o (IntKind.wrap IntKind.i64 (q + i)) % (40000000 : Int)))], (o, (q, (u, (IntKind.wrap IntKind.i64 (i + (1 : Int)), (l, ())))))))))))
    (.req (List.length R = List.length R)
    (.req (List.length R + List.length [Knot.mk (Knot.At (kx l i)) (bif true then if IntKind.wrap IntKind.i64 (Knot.V (kx l i) - pk o (IntKind.wrap IntKind.i64 (q + i)) % (40000000 : Int)) > (0 : Int) then IntKind.wrap IntKind.i64 (Knot.V (kx l i) - pk o (IntKind.wrap IntKind.i64 (q + i)) % (40000000 : Int)) else (0 : Int) else if IntKind.wrap IntKind.i64 (Knot.V (kx l i) - pk o (IntKind.wrap IntKind.i64 (q + i)) % (40000000 : Int)) < (0 : Int) then IntKind.wrap IntKind.i64 (Knot.V (kx l i) - pk o (IntKind.wrap IntKind.i64 (q + i)) % (40000000 : Int)) else (0 : Int))] ≤ (1073741824 : Nat))
    (.req (List.length (R ++ [Knot.mk (Knot.At (kx l i)) (bif true then if IntKind.wrap IntKind.i64 (Knot.V (kx l i) - pk o (IntKind.wrap IntKind.i64 (q + i)) % (40000000 : Int)) > (0 : Int) then IntKind.wrap IntKind.i64 (Knot.V (kx l i) - pk o (IntKind.wrap IntKind.i64 (q + i)) % (40000000 : Int)) else (0 : Int) else if IntKind.wrap IntKind.i64 (Knot.V (kx l i) - pk o (IntKind.wrap IntKind.i64 (q + i)) % (40000000 : Int)) < (0 : Int) then IntKind.wrap IntKind.i64 (Knot.V (kx l i) - pk o (IntKind.wrap IntKind.i64 (q + i)) % (40000000 : Int)) else (0 : Int))]) = List.length (R ++ [Knot.mk (Knot.At (kx l i)) (bif true then if IntKind.wrap IntKind.i64 (Knot.V (kx l i) - pk o (IntKind.wrap IntKind.i64 (q + i)) % (40000000 : Int)) > (0 : Int) then IntKind.wrap IntKind.i64 (Knot.V (kx l i) - pk o (IntKind.wrap IntKind.i64 (q + i)) % (40000000 : Int)) else (0 : Int) else if IntKind.wrap IntKind.i64 (Knot.V (kx l i) - pk o (IntKind.wrap IntKind.i64 (q + i)) % (40000000 : Int)) < (0 : Int) then IntKind.wrap IntKind.i64 (Knot.V (kx l i) - pk o (IntKind.wrap IntKind.i64 (q + i)) % (40000000 : Int)) else (0 : Int))]))
    (.leaf (.inl (R ++ [Knot.mk (Knot.At (kx l i)) (bif true then if IntKind.wrap IntKind.i64 (Knot.V (kx l i) - pk o (IntKind.wrap IntKind.i64 (q + i)) % (40000000 : Int)) > (0 : Int) then IntKind.wrap IntKind.i64 (Knot.V (kx l i) - pk o (IntKind.wrap IntKind.i64 (q + i)) % (40000000 : Int)) else (0 : Int) else if IntKind.wrap IntKind.i64 (Knot.V (kx l i) - pk o (IntKind.wrap IntKind.i64 (q + i)) % (40000000 : Int)) < (0 : Int) then IntKind.wrap IntKind.i64 (Knot.V (kx l i) - pk o (IntKind.wrap IntKind.i64 (q + i)) % (40000000 : Int)) else (0 : Int))], (o, (q, (u, (IntKind.wrap IntKind.i64 (i + (1 : Int)), (l, ())))))))))))))))
   (.req (List.length R = List.length R)
   (.leaf (.inr (.exit (0 : Nat), [.l (78 : Nat) (R)]))))) := by kernel_rfl
theorem nSH (R : List Knot) (o : List Int) (q : Int) (u : Bool) (i : Int) (l : List Knot) (K : Ex × List (V T) → Prop) (hI : (0 ≤ i ∧ i ≤ l.length ∧ l.length ≤ 100) ∧ (0 ≤ q ∧ q ≤ 100) ∧ kV l ∧ (R.length : Int) ≤ i) (hK : (.leaf (.exit 0, [.l 78 (R ++ sft o u (q + i) (l.drop i.toNat))]) : Tree (Ex × List (V T))).holds K) : (cSH.out (R, o, q, u, i, l, ())).holds K := ⟨hI, hK⟩
theorem hSH' (R : List Knot) (o : List Int) (q : Int) (u : Bool) (i : Int) (l : List Knot) (K : Ex × List (V T) → Prop) (hI : (0 ≤ i ∧ i ≤ l.length ∧ l.length ≤ 100) ∧ (0 ≤ q ∧ q ≤ 100) ∧ kV l ∧ (R.length : Int) ≤ i) (hK : (.leaf (.exit 0, [.l 78 (R ++ sft o u (q + i) (l.drop i.toNat))]) : Tree (Ex × List (V T))).holds K) :
    (bodyD Try.prog E cSH 0 (bodyX Try.prog E ctP noLoops 1000 5 L0 (lpOf Try.prog 91 0)) (R, o, q, u, i, l, ())).holds fun y => match y with
    | .inl d => ((d.2.2.2.2.2.1.length : Int) - d.2.2.2.2.1).toNat < ((l.length : Int) - i).toNat ∧ (cSH.out d).holds K
    | .inr y => K y := by
  rw [bSH]
  obtain ⟨⟨h0, h1, hl⟩, ⟨q0, q1⟩, hv, lr⟩ := hI
  have e1 : IntKind.wrap IntKind.i64 (q + i) = q + i := i64_in' (by omega) (by omega)
  have pm : mPre (pk o (q + i)) 40000000 := ⟨by decide, by decide⟩
  have ac : ∀ (X Y : List Knot) (k : Knot), X ++ k :: Y = (X ++ [k]) ++ Y := fun X Y k => by simp
  refine way (fun k => ?_) fun k => ?_
  · have e2 : l.drop i.toNat = kx l i :: l.drop (i + 1).toNat := by
      have := drop_ix (E := E) (τ := 78) (l := l) (i := i.toNat) (by show i.toNat < (l : List Knot).length; omega)
      rw [Int.toNat_of_nonneg h0] at this
      rw [show (i + 1).toNat = i.toNat + 1 by omega]
      exact this
    have hm : kx l i ∈ l := List.mem_of_mem_drop (by rw [e2]; exact List.mem_cons_self ..)
    have hv1 := hv _ hm
    have b0 : 0 ≤ pk o (q + i) % 40000000 ∧ pk o (q + i) % 40000000 < 40000000 := by omega
    have e3 : IntKind.wrap IntKind.i64 (i + 1) = i + 1 := i64_in' (by omega) (by omega)
    have e4 : IntKind.wrap IntKind.i64 ((kx l i).V + pk o (q + i) % 40000000) = (kx l i).V + pk o (q + i) % 40000000 := i64_in' (by omega) (by omega)
    have e5 : IntKind.wrap IntKind.i64 ((kx l i).V - pk o (q + i) % 40000000) = (kx l i).V - pk o (q + i) % 40000000 := i64_in' (by omega) (by omega)
    rw [e1, e3, e4, e5]
    rw [e2] at hK
    unfold sft at hK
    rw [ac, Int.add_assoc] at hK
    have n1 : ∀ x : Knot, R.length + [x].length ≤ 1073741824 := fun x => by show R.length + 1 ≤ _; omega
    have fin : ∀ x : Knot, sd o u (q + i) (kx l i) = x → ((l.length : Int) - (i + 1)).toNat < ((l.length : Int) - i).toNat ∧ (cSH.out (R ++ [x], o, q, u, i + 1, l, ())).holds K := by
      rintro x rfl
      have L1 : (R ++ [sd o u (q + i) (kx l i)]).length = R.length + 1 := by simp
      exact ⟨by omega, nSH _ _ _ _ _ _ K ⟨⟨by omega, by omega, hl⟩, ⟨q0, q1⟩, hv, by omega⟩ hK⟩
    have r0 : 0 ≤ q + i := by omega
    refine ⟨r0, pm, wayC h0 k fun _ _ => ?_⟩
    cases u with
    | true => exact ⟨fun _ => ⟨rfl, n1 _, rfl, fin _ rfl⟩, fun h => by cases h⟩
    | false => exact ⟨fun h => (by cases h), fun _ => ⟨rfl, n1 _, rfl, fin _ rfl⟩⟩
  · rw [List.drop_eq_nil_of_le (by omega)] at hK
    unfold sft at hK
    rw [List.append_nil] at hK
    exact ⟨rfl, hK⟩
theorem hSH : LoopH Try.prog E cSH 0 (bodyX Try.prog E ctP noLoops 1000 5 L0 (lpOf Try.prog 91 0)) :=
  ⟨fun d => ((d.2.2.2.2.2.1.length : Int) - d.2.2.2.2.1).toNat, fun dd K hK => by
    obtain ⟨R, o, q, u, i, l, ⟨⟩⟩ := dd
    obtain ⟨hI, hK⟩ := hK
    refine Tree.holds_mono (fun y hy => ?_) (hSH' R o q u i l K hI hK)
    cases y with
    | inl d' => exact hy
    | inr y => exact hy⟩
end Go.Proofs.Ytdlholmphenhhaa.W.Gr
end

set_option linter.unusedVariables false
set_option maxRecDepth 100000
set_option maxHeartbeats 4000000
noncomputable section
namespace Go.Proofs.Ytdlholmphenhhaa.W.Gr
open Go Go.Cx Go.RowKit
noncomputable def runN (ct : CTab T) (ll : Nat → Nat → LoopTab T) (fl : List Nat) (f : Nat) (xs : List (AV T)) (ts : List Nat) : Tree (AV T) := resN Try.prog fl ts (callX Try.prog E ct ll 1000 8 (.fn f) xs hp0)
theorem factN_run {ct : CTab T} (hc : CTabOk Try.prog E ct) {ll : Nat → Nat → LoopTab T} (hl : LLOk Try.prog E ll) {fl : List Nat} (hfl : ∀ τ, memN τ fl = true → ∀ x : T τ, (E.enc τ x).all ind0 = true) {f : Nat} {xs : List (AV T)} {ts : List Nat} {v : AV T} (ha : xs.all flt2 = true)
    (h : (runN ct ll fl f xs ts).holds fun x => x = v) : FactN Try.prog E f xs v :=
  factN_of_run good hfl (callX_ok good names mixes hc hl 8) ha h
theorem flK : ∀ τ, memN τ [78, 55] = true → ∀ x : T τ, (E.enc τ x).all ind0 = true := fun τ h => by
  have := memN_iff.1 h
  have : τ = 78 ∨ τ = 55 := by simpa using this
  rcases this with rfl | rfl <;> exact fun x => rfl
theorem llT : LLOk Try.prog E (llOfN Try.prog E 56 0 [(6, cTT)]) := llOfN_ok fun i hi c hc => by
  have hi : i < 1 := hi
  obtain rfl : i = 0 := by omega
  obtain rfl : cTT = c := Option.some.inj hc
  exact LSndN.mk good names mixes ctP_ok (by decide) hTT
theorem llS : LLOk Try.prog E (llOfN Try.prog E 91 0 [(3, cSH)]) := llOfN_ok fun i hi c hc => by
  have hi : i < 1 := hi
  obtain rfl : i = 0 := by omega
  obtain rfl : cSH = c := Option.some.inj hc
  exact LSndN.mk good names mixes ctP_ok (by decide) hSH
theorem tv56 (b : Int) (s o m : List Int) : runN ctP (llOfN Try.prog E 56 0 [(6, cTT)]) [78, 55] 56 [.agg [i64 b, .sl 2 s false, .sl 2 o false, .sl 2 m false]] [41] =
  (.req (mPre b (499001 : Int))
  (.req ((0 : Int) ≤ (0 : Int))
  (.req (mPre (pk s (0 : Int)) (1000000 : Int))
  (.req ((0 : Int) ≤ (1 : Int))
  (.req (mPre (pk s (1 : Int)) (20000000 : Int))
  (.req (((0 : Int) ≤ (0 : Int) ∧ (0 : Int) ≤ (5 : Int) ∧ i5 (0 : Int) (0 : Int) (IntKind.wrap IntKind.i64 ((1000 : Int) + b % (499001 : Int)))) ∧ ((1000 : Int) ≤ IntKind.wrap IntKind.i64 ((1000 : Int) + b % (499001 : Int)) ∧ IntKind.wrap IntKind.i64 ((1000 : Int) + b % (499001 : Int)) ≤ (500000 : Int)) ∧ ((0 : Int) ≤ (0 : Int) ∧ (0 : Int) ≤ IntKind.wrap IntKind.i64 ((1000 : Int) + b % (499001 : Int))) ∧ ((0 : Int) ≤ pk s (0 : Int) % (1000000 : Int) ∧ pk s (0 : Int) % (1000000 : Int) ≤ (1000000 : Int) + (22000 : Int) * (0 : Int)) ∧ ((0 : Int) ≤ IntKind.wrap IntKind.i64 (pk s (0 : Int) % (1000000 : Int) + pk s (1 : Int) % (20000000 : Int)) ∧ IntKind.wrap IntKind.i64 (pk s (0 : Int) % (1000000 : Int) + pk s (1 : Int) % (20000000 : Int)) ≤ (21000000 : Int) + (30000 : Int) * (0 : Int)) ∧ (0 : Nat) ≤ (5 : Nat) ∧ (0 : Nat) ≤ (5 : Nat) ∧ (↑((0 : Nat)) : Int) ≤ (0 : Int) ∧ (↑((0 : Nat)) : Int) ≤ (0 : Int))
  (.req (List.length ([] ++ tP s (IntKind.wrap IntKind.i64 ((1000 : Int) + b % (499001 : Int))) (Int.toNat ((5 : Int) - (0 : Int))) (0 : Int) (0 : Int) (pk s (0 : Int) % (1000000 : Int))) = List.length ([] ++ tP s (IntKind.wrap IntKind.i64 ((1000 : Int) + b % (499001 : Int))) (Int.toNat ((5 : Int) - (0 : Int))) (0 : Int) (0 : Int) (pk s (0 : Int) % (1000000 : Int))))
  (.req (List.length ([] ++ tF s (IntKind.wrap IntKind.i64 ((1000 : Int) + b % (499001 : Int))) (Int.toNat ((5 : Int) - (0 : Int))) (0 : Int) (0 : Int) (IntKind.wrap IntKind.i64 (pk s (0 : Int) % (1000000 : Int) + pk s (1 : Int) % (20000000 : Int)))) = List.length ([] ++ tF s (IntKind.wrap IntKind.i64 ((1000 : Int) + b % (499001 : Int))) (Int.toNat ((5 : Int) - (0 : Int))) (0 : Int) (0 : Int) (IntKind.wrap IntKind.i64 (pk s (0 : Int) % (1000000 : Int) + pk s (1 : Int) % (20000000 : Int)))))
  (.leaf (.agg [.sl (78 : Nat) ([] ++ tP s (IntKind.wrap IntKind.i64 ((1000 : Int) + b % (499001 : Int))) (Int.toNat ((5 : Int) - (0 : Int))) (0 : Int) (0 : Int) (pk s (0 : Int) % (1000000 : Int))) false, .sl (78 : Nat) ([] ++ tF s (IntKind.wrap IntKind.i64 ((1000 : Int) + b % (499001 : Int))) (Int.toNat ((5 : Int) - (0 : Int))) (0 : Int) (0 : Int) (IntKind.wrap IntKind.i64 (pk s (0 : Int) % (1000000 : Int) + pk s (1 : Int) % (20000000 : Int)))) false])))))))))) := by kernel_rfl
theorem tv91 (l : List Knot) (o : List Int) (q : Int) (u : Bool) : runN ctP (llOfN Try.prog E 91 0 [(3, cSH)]) [78, 55] 91 [.agg [.sl 78 l false], .sl 2 o false, i64 q, .bool u] [24] =
  (.req (((0 : Int) ≤ (0 : Int) ∧ (0 : Int) ≤ (↑(List.length l) : Int) ∧ List.length l ≤ (100 : Nat)) ∧ ((0 : Int) ≤ q ∧ q ≤ (100 : Int)) ∧ kV l ∧ (↑((0 : Nat)) : Int) ≤ (0 : Int))
  (.req (List.length ([] ++ sft o u (q + (0 : Int)) (List.drop (Int.toNat (0 : Int)) l)) = List.length ([] ++ sft o u (q + (0 : Int)) (List.drop (Int.toNat (0 : Int)) l)))
  (.leaf (.agg [.sl (78 : Nat) ([] ++ sft o u (q + (0 : Int)) (List.drop (Int.toNat (0 : Int)) l)) false])))) := by kernel_rfl
noncomputable def tb (b : Int) : Int := IntKind.wrap IntKind.i64 (1000 + b % 499001)
noncomputable def p0 (s : List Int) : Int := pk s 0 % 1000000
noncomputable def f0 (s : List Int) : Int := IntKind.wrap IntKind.i64 (pk s 0 % 1000000 + pk s 1 % 20000000)
noncomputable def tPl (b : Int) (s : List Int) : List Knot := tP s (tb b) 5 0 0 (p0 s)
noncomputable def tFl (b : Int) (s : List Int) : List Knot := tF s (tb b) 5 0 0 (f0 s)
theorem tb_bd (b : Int) : 1000 ≤ tb b ∧ tb b ≤ 500000 := by
  unfold tb
  rw [i64_in' (by omega) (by omega)]
  omega
theorem f0_bd (s : List Int) : p0 s ≤ f0 s ∧ f0 s ≤ 21000000 ∧ 0 ≤ p0 s ∧ p0 s ≤ 1000000 := by
  unfold f0 p0
  rw [i64_in' (by omega) (by omega)]
  omega
theorem s56 (b : Int) (s o m : List Int) : (runN ctP (llOfN Try.prog E 56 0 [(6, cTT)]) [78, 55] 56 [.agg [i64 b, .sl 2 s false, .sl 2 o false, .sl 2 m false]] [41]).holds fun v => v = .agg [.sl 78 (tPl b s) false, .sl 78 (tFl b s) false] := by
  rw [tv56]
  have h1 := tb_bd b
  have h2 := f0_bd s
  unfold tb at h1
  unfold f0 p0 at h2
  have m1 : mPre b 499001 := ⟨by decide, by decide⟩
  have m2 : mPre (pk s 0) 1000000 := ⟨by decide, by decide⟩
  have m3 : mPre (pk s 1) 20000000 := ⟨by decide, by decide⟩
  refine ⟨m1, by decide, m2, by decide, m3, ⟨⟨by decide, by decide, fun h => absurd h (by decide)⟩, h1, ⟨by decide, by omega⟩, ⟨by omega, by omega⟩, ⟨by omega, by omega⟩, by decide, by decide, by decide, by decide⟩, rfl, rfl, ?_⟩
  rfl
theorem s91 (l : List Knot) (o : List Int) (q : Int) (u : Bool) (h : l.length ≤ 100 ∧ (0 ≤ q ∧ q ≤ 100) ∧ kV l) : (runN ctP (llOfN Try.prog E 91 0 [(3, cSH)]) [78, 55] 91 [.agg [.sl 78 l false], .sl 2 o false, i64 q, .bool u] [24]).holds fun v => v = .agg [.sl 78 (sft o u q l) false] := by
  rw [tv91]
  refine ⟨⟨⟨by decide, by omega, h.1⟩, h.2.1, h.2.2, by decide⟩, rfl, ?_⟩
  show AV.agg _ = _
  rw [Int.add_zero]
  rfl
noncomputable def cTrue : Con T := conPN Try.prog [.agg [.i .i64, .s 2, .s 2, .s 2]] [.n, .l 2, .l 2, .l 2] (fun _ => True) fun d => .agg [.sl 78 (tPl d.1 d.2.1) false, .sl 78 (tFl d.1 d.2.1) false]
theorem true_ok : ConOk Try.prog E 56 cTrue := conPN_ok fun d _ => factN_run ctP_ok llT flK (ts := [41]) rfl (s56 d.1 d.2.1 d.2.2.1 d.2.2.2.1)
noncomputable def cSft : Con T := conPN Try.prog [.agg [.s 78], .one (.s 2), .one (.i .i64), .one .b] [.l 78, .l 2, .n, .t] (fun d => (show List Knot from d.1).length ≤ 100 ∧ (0 ≤ d.2.2.1 ∧ d.2.2.1 ≤ 100) ∧ kV d.1) fun d => .agg [.sl 78 (sft d.2.1 d.2.2.2.1 d.2.2.1 d.1) false]
theorem sft_ok : ConOk Try.prog E 91 cSft := conPN_ok fun d hd => factN_run ctP_ok llS flK (ts := [24]) rfl (s91 d.1 d.2.1 d.2.2.1 d.2.2.2.1 hd)
noncomputable def ctRp : CTab T := [(57, cMod), (22, cAt)]
theorem ctRp_ok : CTabOk Try.prog E ctRp := .cons mod64_ok (.cons at2_ok .nil)
noncomputable def mx0 (a : Int) : Int := bif true then if a > 0 then a else 0 else if a < 0 then a else 0
noncomputable def rK (n : Int) : Int := IntKind.wrap IntKind.i64 (1 + Int.tmod (n % 1099511627776) 4)
noncomputable def rZ (p : List Knot) (n : Int) : Int := Int.tmod (IntKind.wrap IntKind.i64 (Int.tdiv (n % 1099511627776) 4)) (IntKind.wrap IntKind.i64 ((kx p (IntKind.wrap IntKind.i64 ((p.length : Int) - 1))).At + 1))
noncomputable def rO (n : Int) : Int := Int.tmod (IntKind.wrap IntKind.i64 (Int.tdiv (n % 1099511627776) 4096)) 1000000
noncomputable def rP (p f : List Knot) (n : Int) : Int := if rK n = 1 then mx0 (IntKind.wrap IntKind.i64 (atLo p (rZ p n) - rO n)) else if rK n = 2 then IntKind.wrap IntKind.i64 (atHi p (rZ p n) + rO n) else if rK n = 3 then mx0 (IntKind.wrap IntKind.i64 (atLo f (rZ p n) - rO n)) else if rK n = 4 then IntKind.wrap IntKind.i64 (atHi f (rZ p n) + rO n) else 0
noncomputable def rep (p f : List Knot) (n : Int) : Report := ⟨rK n, rZ p n, rP p f n⟩
def repOk (p : List Knot) : Prop := (0 < p.length ∧ p.length ≤ 100) ∧ 0 ≤ (kx p ((p.length : Int) - 1)).At ∧ (kx p ((p.length : Int) - 1)).At ≤ 1048576
theorem tv58 (p f : List Knot) (n : Int) : runX ctRp noLoops 58 [.agg [.sl 78 p false, .sl 78 f false], i64 n] [55] =
  (.req (mPre n (1099511627776 : Int))
  (.req ((decide ((0 : Int) ≤ IntKind.wrap IntKind.i64 ((↑(List.length p) : Int) - (1 : Int))) && decide (IntKind.wrap IntKind.i64 ((↑(List.length p) : Int) - (1 : Int)) < (↑(List.length p) : Int))) = true)
  (.req (decide (IntKind.wrap IntKind.i64 (Knot.At (kx p (IntKind.wrap IntKind.i64 ((↑(List.length p) : Int) - (1 : Int)))) + (1 : Int)) ≠ (0 : Int)) = true)
  (.br (IntKind.wrap IntKind.i64 ((1 : Int) + Int.tmod (n % (1099511627776 : Int)) (4 : Int)) == (1 : Int))
   (.leaf (.agg [.sym .i64 (IntKind.wrap IntKind.i64 ((1 : Int) + Int.tmod (n % (1099511627776 : Int)) (4 : Int))), .sym .i64 (Int.tmod (IntKind.wrap IntKind.i64 (Int.tdiv (n % (1099511627776 : Int)) (4 : Int))) (IntKind.wrap IntKind.i64 (Knot.At (kx p (IntKind.wrap IntKind.i64 ((↑(List.length p) : Int) - (1 : Int)))) + (1 : Int)))), .sym .i64 (bif true then if IntKind.wrap IntKind.i64 (atLo p (Int.tmod (IntKind.wrap IntKind.i64 (Int.tdiv (n % (1099511627776 : Int)) (4 : Int))) (IntKind.wrap IntKind.i64 (Knot.At (kx p (IntKind.wrap IntKind.i64 ((↑(List.length p) : Int) - (1 : Int)))) + (1 : Int)))) - Int.tmod (IntKind.wrap IntKind.i64 (Int.tdiv (n % (1099511627776 : Int)) (4096 : Int))) (1000000 : Int)) > (0 : Int) then IntKind.wrap IntKind.i64 (atLo p (Int.tmod (IntKind.wrap IntKind.i64 (Int.tdiv (n % (1099511627776 : Int)) (4 : Int))) (IntKind.wrap IntKind.i64 (Knot.At (kx p (IntKind.wrap IntKind.i64 ((↑(List.length p) : Int) - (1 : Int)))) + (1 : Int)))) - Int.tmod (IntKind.wrap IntKind.i64 (Int.tdiv (n % (1099511627776 : Int)) (4096 : Int))) (1000000 : Int)) else (0 : Int) else if IntKind.wrap IntKind.i64 (atLo p (Int.tmod (IntKind.wrap IntKind.i64 (Int.tdiv (n % (1099511627776 : Int)) (4 : Int))) (IntKind.wrap IntKind.i64 (Knot.At (kx p (IntKind.wrap IntKind.i64 ((↑(List.length p) : Int) - (1 : Int)))) + (1 : Int)))) - Int.tmod (IntKind.wrap IntKind.i64 (Int.tdiv (n % (1099511627776 : Int)) (4096 : Int))) (1000000 : Int)) < (0 : Int) then IntKind.wrap IntKind.i64 (atLo p (Int.tmod (IntKind.wrap IntKind.i64 (Int.tdiv (n % (1099511627776 : Int)) (4 : Int))) (IntKind.wrap IntKind.i64 (Knot.At (kx p (IntKind.wrap IntKind.i64 ((↑(List.length p) : Int) - (1 : Int)))) + (1 : Int)))) - Int.tmod (IntKind.wrap IntKind.i64 (Int.tdiv (n % (1099511627776 : Int)) (4096 : Int))) (1000000 : Int)) else (0 : Int))]))
   (.br (IntKind.wrap IntKind.i64 ((1 : Int) + Int.tmod (n % (1099511627776 : Int)) (4 : Int)) == (2 : Int))
    (.leaf (.agg [.sym .i64 (IntKind.wrap IntKind.i64 ((1 : Int) + Int.tmod (n % (1099511627776 : Int)) (4 : Int))), .sym .i64 (Int.tmod (IntKind.wrap IntKind.i64 (Int.tdiv (n % (1099511627776 : Int)) (4 : Int))) (IntKind.wrap IntKind.i64 (Knot.At (kx p (IntKind.wrap IntKind.i64 ((↑(List.length p) : Int) - (1 : Int)))) + (1 : Int)))), .sym .i64 (IntKind.wrap IntKind.i64 (atHi p (Int.tmod (IntKind.wrap IntKind.i64 (Int.tdiv (n % (1099511627776 : Int)) (4 : Int))) (IntKind.wrap IntKind.i64 (Knot.At (kx p (IntKind.wrap IntKind.i64 ((↑(List.length p) : Int) - (1 : Int)))) + (1 : Int)))) + Int.tmod (IntKind.wrap IntKind.i64 (Int.tdiv (n % (1099511627776 : Int)) (4096 : Int))) (1000000 : Int)))]))
    (.br (IntKind.wrap IntKind.i64 ((1 : Int) + Int.tmod (n % (1099511627776 : Int)) (4 : Int)) == (3 : Int))
     (.leaf (.agg [.sym .i64 (IntKind.wrap IntKind.i64 ((1 : Int) + Int.tmod (n % (1099511627776 : Int)) (4 : Int))), .sym .i64 (Int.tmod (IntKind.wrap IntKind.i64 (Int.tdiv (n % (1099511627776 : Int)) (4 : Int))) (IntKind.wrap IntKind.i64 (Knot.At (kx p (IntKind.wrap IntKind.i64 ((↑(List.length p) : Int) - (1 : Int)))) + (1 : Int)))), .sym .i64 (bif true then if IntKind.wrap IntKind.i64 (atLo f (Int.tmod (IntKind.wrap IntKind.i64 (Int.tdiv (n % (1099511627776 : Int)) (4 : Int))) (IntKind.wrap IntKind.i64 (Knot.At (kx p (IntKind.wrap IntKind.i64 ((↑(List.length p) : Int) - (1 : Int)))) + (1 : Int)))) - Int.tmod (IntKind.wrap IntKind.i64 (Int.tdiv (n % (1099511627776 : Int)) (4096 : Int))) (1000000 : Int)) > (0 : Int) then IntKind.wrap IntKind.i64 (atLo f (Int.tmod (IntKind.wrap IntKind.i64 (Int.tdiv (n % (1099511627776 : Int)) (4 : Int))) (IntKind.wrap IntKind.i64 (Knot.At (kx p (IntKind.wrap IntKind.i64 ((↑(List.length p) : Int) - (1 : Int)))) + (1 : Int)))) - Int.tmod (IntKind.wrap IntKind.i64 (Int.tdiv (n % (1099511627776 : Int)) (4096 : Int))) (1000000 : Int)) else (0 : Int) else if IntKind.wrap IntKind.i64 (atLo f (Int.tmod (IntKind.wrap IntKind.i64 (Int.tdiv (n % (1099511627776 : Int)) (4 : Int))) (IntKind.wrap IntKind.i64 (Knot.At (kx p (IntKind.wrap IntKind.i64 ((↑(List.length p) : Int) - (1 : Int)))) + (1 : Int)))) - Int.tmod (IntKind.wrap IntKind.i64 (Int.tdiv (n % (1099511627776 : Int)) (4096 : Int))) (1000000 : Int)) < (0 : Int) then IntKind.wrap IntKind.i64 (atLo f (Int.tmod (IntKind.wrap IntKind.i64 (Int.tdiv (n % (1099511627776 : Int)) (4 : Int))) (IntKind.wrap IntKind.i64 (Knot.At (kx p (IntKind.wrap IntKind.i64 ((↑(List.length p) : Int) - (1 : Int)))) + (1 : Int)))) - Int.tmod (IntKind.wrap IntKind.i64 (Int.tdiv (n % (1099511627776 : Int)) (4096 : Int))) (1000000 : Int)) else (0 : Int))]))
     (.br (IntKind.wrap IntKind.i64 ((1 : Int) + Int.tmod (n % (1099511627776 : Int)) (4 : Int)) == (4 : Int))
      (.leaf (.agg [.sym .i64 (IntKind.wrap IntKind.i64 ((1 : Int) + Int.tmod (n % (1099511627776 : Int)) (4 : Int))), .sym .i64 (Int.tmod (IntKind.wrap IntKind.i64 (Int.tdiv (n % (1099511627776 : Int)) (4 : Int))) (IntKind.wrap IntKind.i64 (Knot.At (kx p (IntKind.wrap IntKind.i64 ((↑(List.length p) : Int) - (1 : Int)))) + (1 : Int)))), .sym .i64 (IntKind.wrap IntKind.i64 (atHi f (Int.tmod (IntKind.wrap IntKind.i64 (Int.tdiv (n % (1099511627776 : Int)) (4 : Int))) (IntKind.wrap IntKind.i64 (Knot.At (kx p (IntKind.wrap IntKind.i64 ((↑(List.length p) : Int) - (1 : Int)))) + (1 : Int)))) + Int.tmod (IntKind.wrap IntKind.i64 (Int.tdiv (n % (1099511627776 : Int)) (4096 : Int))) (1000000 : Int)))]))
      (.leaf (.agg [.sym .i64 (IntKind.wrap IntKind.i64 ((1 : Int) + Int.tmod (n % (1099511627776 : Int)) (4 : Int))), .sym .i64 (Int.tmod (IntKind.wrap IntKind.i64 (Int.tdiv (n % (1099511627776 : Int)) (4 : Int))) (IntKind.wrap IntKind.i64 (Knot.At (kx p (IntKind.wrap IntKind.i64 ((↑(List.length p) : Int) - (1 : Int)))) + (1 : Int)))), .sym .i64 ((0 : Int))]))))))))) := by kernel_rfl
theorem s58 (p f : List Knot) (n : Int) (h : repOk p) : (runX ctRp noLoops 58 [.agg [.sl 78 p false, .sl 78 f false], i64 n] [55]).holds fun v => v = .agg [i64 (rK n), i64 (rZ p n), i64 (rP p f n)] := by
  rw [tv58]
  obtain ⟨⟨h1, h2⟩, h3, h4⟩ := h
  have e1 : IntKind.wrap IntKind.i64 ((p.length : Int) - 1) = (p.length : Int) - 1 := i64_in' (by omega) (by omega)
  refine ⟨⟨by decide, by decide⟩, ?_, ?_, ?_⟩
  · rw [e1]; simp only [Bool.and_eq_true, decide_eq_true_eq]; omega
  · rw [e1]
    have e2 : IntKind.wrap IntKind.i64 ((kx p ((p.length : Int) - 1)).At + 1) = (kx p ((p.length : Int) - 1)).At + 1 := i64_in' (by omega) (by omega)
    exact decide_eq_true (show IntKind.wrap IntKind.i64 ((kx p ((p.length : Int) - 1)).At + 1) ≠ 0 by rw [e2]; omega)
  · unfold rP
    refine wayEq (fun c => ?_) fun c => wayEq (fun c2 => ?_) fun c2 => wayEq (fun c3 => ?_) fun c3 => wayEq (fun c4 => ?_) fun c4 => ?_
    · rw [if_pos (show rK n = 1 from c)]; rfl
    · rw [if_neg (show ¬ rK n = 1 from c), if_pos (show rK n = 2 from c2)]; rfl
    · rw [if_neg (show ¬ rK n = 1 from c), if_neg (show ¬ rK n = 2 from c2), if_pos (show rK n = 3 from c3)]; rfl
    · rw [if_neg (show ¬ rK n = 1 from c), if_neg (show ¬ rK n = 2 from c2), if_neg (show ¬ rK n = 3 from c3), if_pos (show rK n = 4 from c4)]; rfl
    · rw [if_neg (show ¬ rK n = 1 from c), if_neg (show ¬ rK n = 2 from c2), if_neg (show ¬ rK n = 3 from c3), if_neg (show ¬ rK n = 4 from c4)]; rfl
noncomputable def cRep : Con T := conP Try.prog [.agg [.s 78, .s 78], .one (.i .i64)] [.l 78, .l 78, .n] (fun d => repOk d.1) fun d => .agg [i64 (rK d.2.2.1), i64 (rZ d.1 d.2.2.1), i64 (rP d.1 d.2.1 d.2.2.1)]
theorem rep_ok : ConOk Try.prog E 58 cRep := conP_ok fun d hd => fact_run ctRp_ok noLoops_ok (ts := [55]) rfl (s58 d.1 d.2.1 d.2.2.1 hd)
noncomputable def ctKn : CTab T := [(57, cMod), (90, cPk), (56, cTrue), (91, cSft), (58, cRep)]
theorem ctKn_ok : CTabOk Try.prog E ctKn := .cons mod64_ok (.cons pk_ok (.cons true_ok (.cons sft_ok (.cons rep_ok .nil))))
end Go.Proofs.Ytdlholmphenhhaa.W.Gr
end

set_option linter.unusedVariables false
set_option maxRecDepth 100000
set_option maxHeartbeats 4000000
noncomputable section
namespace Go.Proofs.Ytdlholmphenhhaa.W.Gr
open Go Go.Cx Go.RowKit
noncomputable def mr (p f : List Knot) : Nat → List Int → List Report
  | 0, _ => []
  | _ + 1, [] => []
  | n + 1, x :: r => rep p f x :: mr p f n r
noncomputable def oKN (R : List Report) (i : Int) (b : Int) (s : List Int) (o : List Int) (m : List Int) (p : List Knot) (f : List Knot) (B : Int) (L1 : List Knot) (L2 : List Knot) (L3 : List Knot) (L4 : List Knot) (g : Int) (G : Int) : Tree (Ex × List (V T)) := .req ((0 ≤ i ∧ i ≤ 8 ∧ i ≤ m.length) ∧ (R.length : Int) ≤ i ∧ repOk p) (.leaf (.exit 0, [.l 55 (R ++ mr p f (8 - i).toNat (m.drop i.toNat)), .n B, .l 78 L1, .l 78 L2, .l 78 L3, .l 78 L4, .n g, .n G]))
noncomputable def cKN : LoopC T := ⟨[.l 55, .n, .n, .l 2, .l 2, .l 2, .l 78, .l 78, .n, .l 78, .l 78, .l 78, .l 78, .n, .n], ⟨77, [(1, .one (.o 0 0)), (2, .one (.o 1 0)), (3, .one (.o 2 0)), (4, .one (.o 3 0)), (5, .one (.i .i64))], [.c [.i .i64, .s 2, .s 2, .s 2], .c [.x, .x, .x, .x, .x, .x, .x, .x], .c [.s 78, .s 78], .c [.i .i64, .s 78, .s 78, .s 78, .s 78, .i .i64, .i .i64, .g 4 55], .l 55]⟩, fun _ => ⟨77, [(2, .one (.o 0 0)), (4, .one (.o 1 0))], [.c [.x, .x, .x, .x, .x, .x, .x, .x], .c [.i .i64, .s 78, .s 78, .s 78, .s 78, .i .i64, .i .i64, .g 2 55], .l 55]⟩, 60, fun d => oKN d.1 d.2.1 d.2.2.1 d.2.2.2.1 d.2.2.2.2.1 d.2.2.2.2.2.1 d.2.2.2.2.2.2.1 d.2.2.2.2.2.2.2.1 d.2.2.2.2.2.2.2.2.1 d.2.2.2.2.2.2.2.2.2.1 d.2.2.2.2.2.2.2.2.2.2.1 d.2.2.2.2.2.2.2.2.2.2.2.1 d.2.2.2.2.2.2.2.2.2.2.2.2.1 d.2.2.2.2.2.2.2.2.2.2.2.2.2.1 d.2.2.2.2.2.2.2.2.2.2.2.2.2.2.1⟩
theorem bKN (R : List Report) (i : Int) (b : Int) (s : List Int) (o : List Int) (m : List Int) (p : List Knot) (f : List Knot) (B : Int) (L1 : List Knot) (L2 : List Knot) (L3 : List Knot) (L4 : List Knot) (g : Int) (G : Int) : bodyD Try.prog E cKN 0 (bodyX Try.prog E ctKn noLoops 1000 5 L0 (lpOf Try.prog 55 0)) (R, i, b, s, o, m, p, f, B, L1, L2, L3, L4, g, G, ()) =
  (.br (decide (i < (↑(List.length m) : Int)))
   (.br (decide (i < (8 : Int)))
    (.req ((decide ((0 : Int) ≤ i) && decide (i < (↑(List.length m) : Int))) = true)
    (.req (repOk p)
    (.req (List.length R = List.length R)
    (.req (List.length R + List.length [Report.mk (rK (ni m i)) (rZ p (ni m i)) (rP p f (ni m i))] ≤ (1073741824 : Nat))
    (.req (List.length (R ++ [Report.mk (rK (ni m i)) (rZ p (ni m i)) (rP p f (ni m i))]) = List.length (R ++ [Report.mk (rK (ni m i)) (rZ p (ni m i)) (rP p f (ni m i))]))
    (.leaf (.inl (R ++ [Report.mk (rK (ni m i)) (rZ p (ni m i)) (rP p f (ni m i))], (IntKind.wrap IntKind.i64 (i + (1 : Int)), (b, (s, (o, (m, (p, (f, (B, (L1, (L2, (L3, (L4, (g, (G, ()))))))))))))))))))))))
    (.req (List.length R = List.length R)
    (.leaf (.inr (.exit (0 : Nat), [.l (55 : Nat) (R), .n (B), .l (78 : Nat) (L1), .l (78 : Nat) (L2), .l (78 : Nat) (L3), .l (78 : Nat) (L4), .n (g), .n (G)])))))
   (.req (List.length R = List.length R)
   (.leaf (.inr (.exit (0 : Nat), [.l (55 : Nat) (R), .n (B), .l (78 : Nat) (L1), .l (78 : Nat) (L2), .l (78 : Nat) (L3), .l (78 : Nat) (L4), .n (g), .n (G)]))))) := by kernel_rfl
theorem nKN (R : List Report) (i : Int) (b : Int) (s : List Int) (o : List Int) (m : List Int) (p : List Knot) (f : List Knot) (B : Int) (L1 : List Knot) (L2 : List Knot) (L3 : List Knot) (L4 : List Knot) (g : Int) (G : Int) (K : Ex × List (V T) → Prop) (hI : (0 ≤ i ∧ i ≤ 8 ∧ i ≤ m.length) ∧ (R.length : Int) ≤ i ∧ repOk p) (hK : (.leaf (.exit 0, [.l 55 (R ++ mr p f (8 - i).toNat (m.drop i.toNat)), .n B, .l 78 L1, .l 78 L2, .l 78 L3, .l 78 L4, .n g, .n G]) : Tree (Ex × List (V T))).holds K) : (cKN.out (R, i, b, s, o, m, p, f, B, L1, L2, L3, L4, g, G, ())).holds K := ⟨hI, hK⟩
theorem hKN' (R : List Report) (i : Int) (b : Int) (s : List Int) (o : List Int) (m : List Int) (p : List Knot) (f : List Knot) (B : Int) (L1 : List Knot) (L2 : List Knot) (L3 : List Knot) (L4 : List Knot) (g : Int) (G : Int) (K : Ex × List (V T) → Prop) (hI : (0 ≤ i ∧ i ≤ 8 ∧ i ≤ m.length) ∧ (R.length : Int) ≤ i ∧ repOk p) (hK : (.leaf (.exit 0, [.l 55 (R ++ mr p f (8 - i).toNat (m.drop i.toNat)), .n B, .l 78 L1, .l 78 L2, .l 78 L3, .l 78 L4, .n g, .n G]) : Tree (Ex × List (V T))).holds K) :
    (bodyD Try.prog E cKN 0 (bodyX Try.prog E ctKn noLoops 1000 5 L0 (lpOf Try.prog 55 0)) (R, i, b, s, o, m, p, f, B, L1, L2, L3, L4, g, G, ())).holds fun y => match y with
    | .inl d => (8 - d.2.1).toNat < (8 - i).toNat ∧ (cKN.out d).holds K
    | .inr y => K y := by
  rw [bKN]
  obtain ⟨⟨h0, h1, h2⟩, lr, hr⟩ := hI
  have n1 : ∀ x : Report, R.length + [x].length ≤ 1073741824 := fun x => by show R.length + 1 ≤ _; omega
  have ac : ∀ (X Y : List Report) (k : Report), X ++ k :: Y = (X ++ [k]) ++ Y := fun X Y k => by simp
  have fin : ¬ (i < m.length ∧ i < 8) → R ++ mr p f (8 - i).toNat (m.drop i.toNat) = R := fun h => by
    by_cases k : i < 8
    · have k2 : m.drop i.toNat = [] := List.drop_eq_nil_of_le (by omega)
      rw [k2]
      cases (8 - i).toNat <;> exact List.append_nil _
    · rw [show (8 - i).toNat = 0 by omega]
      exact List.append_nil _
  refine way (fun k => way (fun k2 => ?_) fun k2 => ?_) fun k => ?_
  · have e2 : m.drop i.toNat = ni m i :: m.drop (i + 1).toNat := by
      have := drop_ix (E := E) (τ := 2) (l := m) (i := i.toNat) (by show i.toNat < (m : List Int).length; omega)
      rw [Int.toNat_of_nonneg h0] at this
      rw [show (i + 1).toNat = i.toNat + 1 by omega]
      exact this
    have e3 : IntKind.wrap IntKind.i64 (i + 1) = i + 1 := i64_in' (by omega) (by omega)
    rw [e3]
    rw [e2, show (8 - i).toNat = (8 - (i + 1)).toNat + 1 by omega] at hK
    unfold mr at hK
    rw [ac] at hK
    have L1' : ∀ x : Report, ((R ++ [x]).length : Int) ≤ i + 1 := fun x => by rw [List.length_append]; show ((R.length + 1 : Nat) : Int) ≤ _; omega
    have g1 : (8 - (i + 1)).toNat < (8 - i).toNat := by omega
    exact wayC h0 k fun _ _ => ⟨hr, rfl, n1 _, rfl, g1, nKN _ _ _ _ _ _ _ _ _ _ _ _ _ _ _ K ⟨⟨by omega, by omega, by omega⟩, L1' _, hr⟩ hK⟩
  · rw [fin (fun h => k2 h.2)] at hK
    exact ⟨rfl, hK⟩
  · rw [fin (fun h => k h.1)] at hK
    exact ⟨rfl, hK⟩
theorem hKN : LoopH Try.prog E cKN 0 (bodyX Try.prog E ctKn noLoops 1000 5 L0 (lpOf Try.prog 55 0)) :=
  ⟨fun d => (8 - d.2.1).toNat, fun dd K hK => by
    obtain ⟨R, i, b, s, o, m, p, f, B, L1, L2, L3, L4, g, G, ⟨⟩⟩ := dd
    obtain ⟨hI, hK⟩ := hK
    refine Tree.holds_mono (fun y hy => ?_) (hKN' R i b s o m p f B L1 L2 L3 L4 g G K hI hK)
    cases y with
    | inl d' => exact hy
    | inr y => exact hy⟩
theorem llK : LLOk Try.prog E (llOfN Try.prog E 55 0 [(6, cKN)]) := llOfN_ok fun i hi c hc => by
  have hi : i < 1 := hi
  obtain rfl : i = 0 := by omega
  obtain rfl : cKN = c := Option.some.inj hc
  exact LSndN.mk good names mixes ctKn_ok (by decide) hKN
theorem tv55 (b : Int) (s o m : List Int) : runX ctKn (llOfN Try.prog E 55 0 [(6, cKN)]) 55 [.agg [i64 b, .sl 2 s false, .sl 2 o false, .sl 2 m false]] [39] =
  (.req (True)
  (.req ((decide ((0 : Int) ≤ IntKind.wrap IntKind.i64 ((↑(List.length (tPl b s)) : Int) - (1 : Int))) && decide (IntKind.wrap IntKind.i64 ((↑(List.length (tPl b s)) : Int) - (1 : Int)) < (↑(List.length (tPl b s)) : Int))) = true)
  (.req ((0 : Int) ≤ (1 : Int))
  (.req (mPre (pk o (1 : Int)) (2001 : Int))
  (.req ((0 : Int) ≤ (2 : Int))
  (.req (mPre (pk o (2 : Int)) (10001 : Int))
  (.req (List.length (tPl b s) ≤ (100 : Nat) ∧ ((0 : Int) ≤ (0 : Int) ∧ (0 : Int) ≤ (100 : Int)) ∧ kV (tPl b s))
  (.req (List.length (tPl b s) ≤ (100 : Nat) ∧ ((0 : Int) ≤ (3 : Int) ∧ (3 : Int) ≤ (100 : Int)) ∧ kV (tPl b s))
  (.req (List.length (tFl b s) ≤ (100 : Nat) ∧ ((0 : Int) ≤ (5 : Int) ∧ (5 : Int) ≤ (100 : Int)) ∧ kV (tFl b s))
  (.req (List.length (tFl b s) ≤ (100 : Nat) ∧ ((0 : Int) ≤ (7 : Int) ∧ (7 : Int) ≤ (100 : Int)) ∧ kV (tFl b s))
  (.req (((0 : Int) ≤ (0 : Int) ∧ (0 : Int) ≤ (8 : Int) ∧ (0 : Int) ≤ (↑(List.length m) : Int)) ∧ (↑((0 : Nat)) : Int) ≤ (0 : Int) ∧ repOk (tPl b s))
  (.req (List.length ([] ++ mr (tPl b s) (tFl b s) (Int.toNat ((8 : Int) - (0 : Int))) (List.drop (Int.toNat (0 : Int)) m)) = List.length ([] ++ mr (tPl b s) (tFl b s) (Int.toNat ((8 : Int) - (0 : Int))) (List.drop (Int.toNat (0 : Int)) m)))
  (.leaf (.agg [.sym .i64 (Knot.At (kx (tPl b s) (IntKind.wrap IntKind.i64 ((↑(List.length (tPl b s)) : Int) - (1 : Int))))), .sl (78 : Nat) (sft o false (0 : Int) (tPl b s)) false, .sl (78 : Nat) (sft o true (3 : Int) (tPl b s)) false, .sl (78 : Nat) (sft o false (5 : Int) (tFl b s)) false, .sl (78 : Nat) (sft o true (7 : Int) (tFl b s)) false, .sym .i64 (pk o (1 : Int) % (2001 : Int)), .sym .i64 (IntKind.wrap IntKind.i64 ((30000 : Int) + pk o (2 : Int) % (10001 : Int))), .sl (55 : Nat) ([] ++ mr (tPl b s) (tFl b s) (Int.toNat ((8 : Int) - (0 : Int))) (List.drop (Int.toNat (0 : Int)) m)) false])))))))))))))) := by kernel_rfl
noncomputable def tG (c : Int → Int) (s : List Int) (B : Int) : Nat → Int → Int → Int → List Knot
  | 0, _, at', p => [⟨at', p⟩]
  | n + 1, i, at', p => ⟨at', p⟩ :: if at' = B then [] else tG c s B n (i + 1) (at' + stp s B i at') (p + c i * stp s B i at')
theorem tP_eq {s : List Int} {B : Int} : ∀ (n : Nat) (i a p : Int), tP s B n i a p = tG (aa s) s B n i a p
  | 0, _, _, _ => rfl
  | n + 1, i, a, p => by unfold tP tG; rw [tP_eq n]
theorem tF_eq {s : List Int} {B : Int} : ∀ (n : Nat) (i a p : Int), tF s B n i a p = tG (bb s) s B n i a p
  | 0, _, _, _ => rfl
  | n + 1, i, a, p => by unfold tF tG; rw [tF_eq n]
theorem stp_bd {s : List Int} {B i a : Int} (h : 0 ≤ a ∧ a ≤ B) (hB : 1000 ≤ B) : 0 ≤ stp s B i a ∧ a + stp s B i a ≤ B ∧ (i = 4 → a + stp s B i a = B) ∧ (a < B → 1 ≤ stp s B i a) := by
  have m0 := Int.emod_nonneg (pk s (i + 2)) (b := B) (by omega)
  have m1 := Int.emod_lt_of_pos (pk s (i + 2)) (b := B) (by omega)
  unfold stp
  split
  · omega
  · split <;> omega
theorem aa_bd (s : List Int) (i : Int) : 0 ≤ aa s i ∧ aa s i ≤ 22000 := by
  have k3 := pk_bd s (i + 3)
  unfold aa; omega
theorem bb_bd (s : List Int) (i : Int) : aa s i ≤ bb s i ∧ bb s i ≤ 30000 := by
  have k4 := pk_bd s (i + 4)
  have h := aa_bd s i
  have bm := Int.emod_nonneg (pk s (i + 4) / 11) (b := 30001 - aa s i) (by omega)
  have bl := Int.emod_lt_of_pos (pk s (i + 4) / 11) (b := 30001 - aa s i) (by omega)
  unfold bb; omega
theorem kx_last {x : Knot} {y : List Knot} (h : 0 < y.length) : kx (x :: y) (((x :: y).length : Int) - 1) = kx y ((y.length : Int) - 1) := by
  show ((x :: y)[Int.toNat (((x :: y).length : Int) - 1)]?).getD _ = (y[Int.toNat ((y.length : Int) - 1)]?).getD _
  have e1 : Int.toNat (((x :: y).length : Int) - 1) = (y.length - 1) + 1 := by
    have : (x :: y).length = y.length + 1 := rfl
    omega
  have e2 : Int.toNat ((y.length : Int) - 1) = y.length - 1 := by omega
  rw [e1, e2, List.getElem?_cons_succ]
structure TOk (l : List Knot) (n : Nat) (a B M : Int) : Prop where
  l0 : 0 < l.length
  l1 : l.length ≤ n + 1
  la : (kx l ((l.length : Int) - 1)).At = B
  v : ∀ k ∈ l, 0 ≤ k.V ∧ k.V ≤ M
  at' : ∀ k ∈ l, a ≤ k.At ∧ k.At ≤ B
theorem tG_ok {c : Int → Int} {s : List Int} {B b : Int} (hc : ∀ i, 0 ≤ c i ∧ c i ≤ 30000) (hB : 1000 ≤ B ∧ B ≤ 500000) : ∀ (n : Nat) (i a p : Int), i + n = 5 → (i = 5 → a = B) → (0 ≤ a ∧ a ≤ B) → (0 ≤ p ∧ p ≤ 21000000 + 30000 * a) → TOk (tG c s B n i a p) n a B 15021000000
  | 0, i, a, p, h1, h2, h3, h4 => by
    have e := h2 (by omega)
    refine ⟨Nat.zero_lt_one, Nat.le_refl _, e, fun k hk => ?_, fun k hk => ?_⟩
    · obtain rfl : k = ⟨a, p⟩ := List.mem_singleton.1 hk
      show 0 ≤ p ∧ p ≤ 15021000000
      omega
    · obtain rfl : k = ⟨a, p⟩ := List.mem_singleton.1 hk
      show a ≤ a ∧ a ≤ B
      omega
  | n + 1, i, a, p, h1, h2, h3, h4 => by
    unfold tG
    by_cases e : a = B
    · rw [if_pos e]
      refine ⟨Nat.zero_lt_one, by show 1 ≤ _; omega, e, fun k hk => ?_, fun k hk => ?_⟩
      · obtain rfl : k = ⟨a, p⟩ := List.mem_singleton.1 hk
        show 0 ≤ p ∧ p ≤ 15021000000
        omega
      · obtain rfl : k = ⟨a, p⟩ := List.mem_singleton.1 hk
        show a ≤ a ∧ a ≤ B
        omega
    · rw [if_neg e]
      have st := stp_bd (s := s) (B := B) (i := i) h3 hB.1
      have q1 := Int.mul_le_mul_of_nonneg_right (hc i).2 st.1
      have q2 := Int.mul_nonneg (hc i).1 st.1
      have r := tG_ok (s := s) (b := b) hc hB n (i + 1) (a + stp s B i a) (p + c i * stp s B i a) (by omega) (fun h => st.2.2.1 (by omega)) (by omega) (by omega)
      generalize tG c s B n (i + 1) (a + stp s B i a) (p + c i * stp s B i a) = y at r
      refine ⟨Nat.succ_pos _, by have := r.l1; show y.length + 1 ≤ _; omega, ?_, fun k hk => ?_, fun k hk => ?_⟩
      · rw [kx_last r.l0]; exact r.la
      · cases hk with
        | head => show 0 ≤ p ∧ p ≤ 15021000000; omega
        | tail _ h => exact r.v k h
      · cases hk with
        | head => show a ≤ a ∧ a ≤ B; omega
        | tail _ h => have := r.at' k h; omega
theorem tPl_ok (b : Int) (s : List Int) : TOk (tPl b s) 5 0 (tb b) 15021000000 := by
  have h := f0_bd s
  have t := tb_bd b
  unfold tPl
  rw [tP_eq]
  exact tG_ok (b := 0) (fun i => ⟨(aa_bd s i).1, by have := aa_bd s i; omega⟩) t 5 0 0 (p0 s) (by decide) (fun h => absurd h (by decide)) (by omega) (by omega)
theorem tFl_ok (b : Int) (s : List Int) : TOk (tFl b s) 5 0 (tb b) 15021000000 := by
  have h := f0_bd s
  have t := tb_bd b
  unfold tFl
  rw [tF_eq]
  exact tG_ok (b := 0) (fun i => ⟨by have := aa_bd s i; have := bb_bd s i; omega, (bb_bd s i).2⟩) t 5 0 0 (f0 s) (by decide) (fun h => absurd h (by decide)) (by omega) (by omega)
noncomputable def knE (b : Int) (s o m : List Int) : Earth := ⟨tb b, ⟨sft o false 0 (tPl b s)⟩, ⟨sft o true 3 (tPl b s)⟩, ⟨sft o false 5 (tFl b s)⟩, ⟨sft o true 7 (tFl b s)⟩, pk o 1 % 2001, IntKind.wrap IntKind.i64 (30000 + pk o 2 % 10001), mr (tPl b s) (tFl b s) 8 m⟩
theorem TOk.kV {l : List Knot} {n : Nat} {a B : Int} (h : TOk l n a B 15021000000) : kV l := fun k hk => by
  have := h.v k hk
  omega
theorem TOk.len {l : List Knot} {a B : Int} (h : TOk l 5 a B 15021000000) : l.length ≤ 100 := by have := h.l1; omega
theorem TOk.rep {l : List Knot} {a b : Int} (h : TOk l 5 a (tb b) 15021000000) : repOk l := by
  have t := tb_bd b
  exact ⟨⟨h.l0, h.len⟩, by rw [h.la]; omega, by rw [h.la]; omega⟩
theorem s55 (b : Int) (s o m : List Int) : (runX ctKn (llOfN Try.prog E 55 0 [(6, cKN)]) 55 [.agg [i64 b, .sl 2 s false, .sl 2 o false, .sl 2 m false]] [39]).holds fun v => v = (knE b s o m).av := by
  rw [tv55]
  have hp := tPl_ok b s
  have hf := tFl_ok b s
  have e1 : IntKind.wrap IntKind.i64 (((tPl b s).length : Int) - 1) = ((tPl b s).length : Int) - 1 := by
    have := hp.len
    exact i64_in' (by omega) (by omega)
  have l0 := hp.l0
  refine ⟨trivial, ?_, by decide, ⟨by decide, by decide⟩, by decide, ⟨by decide, by decide⟩, ⟨hp.len, by decide, hp.kV⟩, ⟨hp.len, by decide, hp.kV⟩, ⟨hf.len, by decide, hf.kV⟩, ⟨hf.len, by decide, hf.kV⟩, ⟨⟨by decide, by decide, by omega⟩, by decide, hp.rep⟩, rfl, ?_⟩
  · rw [e1]; simp only [Bool.and_eq_true, decide_eq_true_eq]; omega
  · rw [e1, hp.la]; rfl
noncomputable def cKnown : Con T := conV Try.prog [.agg [.i .i64, .s 2, .s 2, .s 2]] [.n, .l 2, .l 2, .l 2] fun d => (knE d.1 d.2.1 d.2.2.1 d.2.2.2.1).av
theorem known_ok : ConOk Try.prog E 55 cKnown := conV_ok fun d => fact_run ctKn_ok llK (ts := [39]) rfl (s55 d.1 d.2.1 d.2.2.1 d.2.2.2.1)
end Go.Proofs.Ytdlholmphenhhaa.W.Gr
end

set_option linter.unusedVariables false
set_option maxRecDepth 100000
set_option maxHeartbeats 4000000
noncomputable section
namespace Go.Proofs.Ytdlholmphenhhaa.W.Gr
open Go Go.Cx Go.RowKit
theorem pc_left {a b : Knot} : pcLo a b a.At = a.V ∧ pcHi a b a.At = a.V := by
  unfold pcLo pcHi
  rw [Int.sub_self, Int.mul_zero, Int.neg_zero, Int.zero_ediv]
  omega
theorem pc_up {a b : Knot} {x z : Int} (h : a.At < b.At) (hd : 0 ≤ b.V - a.V) (hx : x ≤ z) : pcLo a b x ≤ pcLo a b z ∧ pcHi a b x ≤ pcHi a b z := by
  have m := Int.mul_le_mul_of_nonneg_left (show x - a.At ≤ z - a.At by omega) hd
  have e1 := Int.ediv_le_ediv (show 0 < b.At - a.At by omega) m
  have e2 := Int.ediv_le_ediv (show 0 < b.At - a.At by omega) (show -((b.V - a.V) * (z - a.At)) ≤ -((b.V - a.V) * (x - a.At)) by omega)
  unfold pcLo pcHi
  omega
theorem pc_dn {a b : Knot} {x z : Int} (h : a.At < b.At) (hd : b.V - a.V ≤ 0) (hx : x ≤ z) : pcLo a b z ≤ pcLo a b x ∧ pcHi a b z ≤ pcHi a b x := by
  have m := Int.mul_le_mul_of_nonpos_left hd (show x - a.At ≤ z - a.At by omega)
  have e1 := Int.ediv_le_ediv (show 0 < b.At - a.At by omega) m
  have e2 := Int.ediv_le_ediv (show 0 < b.At - a.At by omega) (show -((b.V - a.V) * (x - a.At)) ≤ -((b.V - a.V) * (z - a.At)) by omega)
  unfold pcLo pcHi
  omega
/-- A place that counts in a part. -/
def Plc (l : List Knot) (x y p : Int) : Prop := p = x ∨ p = y ∨ ∃ i : Nat, i < l.length ∧ (kn l i).At = p ∧ x < p ∧ p < y
theorem enc {l : List Knot} {a v : Int} (h : Good l a v) {x z y : Int} (hx : x ≤ z) (hy : z ≤ y) :
    (∃ p, Plc l x y p ∧ valLo l p ≤ valLo l z ∧ valHi l p ≤ valHi l z) ∧ ∃ p, Plc l x y p ∧ valLo l z ≤ valLo l p ∧ valHi l z ≤ valHi l p := by
  have hle := ixAt_le (l := l) (x := z)
  by_cases e0 : ixAt l z = 0
  · have hz : z ≤ (kn l 0).At := by
      have := ixAt_there (l := l) (x := z) (by have := h.pos; omega)
      rw [e0] at this
      exact this
    have v1 := val_first hz
    have v2 := val_first (show x ≤ (kn l 0).At by omega)
    exact ⟨⟨x, .inl rfl, by omega, by omega⟩, ⟨x, .inl rfl, by omega, by omega⟩⟩
  by_cases e1 : ixAt l z = l.length
  · have ey : ixAt l y = l.length := ixAt_eq (Nat.le_refl _) (fun j hj => by
      have := ixAt_before (l := l) (x := z) (i := j) (by omega)
      omega) fun h => by omega
    have hv : valLo l y = valLo l z ∧ valHi l y = valHi l z := by
      unfold valLo valHi
      rw [if_neg e0, if_neg e0, if_pos e1, if_pos e1, if_neg (by omega), if_pos ey, if_neg (by omega), if_pos ey]
      exact ⟨rfl, rfl⟩
    exact ⟨⟨y, .inr (.inl rfl), by omega, by omega⟩, ⟨y, .inr (.inl rfl), by omega, by omega⟩⟩
  obtain ⟨i, hi⟩ : ∃ i, ixAt l z = i + 1 := ⟨ixAt l z - 1, by omega⟩
  have hl : i + 1 < l.length := by omega
  have ez : ((i + 1 : Nat) : Int) - 1 = (i : Int) := by omega
  have vz := val_mid hi (by omega) hl
  rw [ez] at vz
  have haz := ixAt_before (l := l) (x := z) (i := i) (by omega)
  have hzb := ixAt_there (l := l) (x := z) (by omega)
  rw [hi] at hzb
  have hab := h.up i hl
  have ka := val_knot h (i := i) (by omega)
  have kb := val_knot h (i := i + 1) hl
  have mid : ∀ q, (kn l i).At < q → q ≤ (kn l (i + 1 : Nat)).At → valLo l q = pcLo (kn l i) (kn l (i + 1 : Nat)) q ∧ valHi l q = pcHi (kn l i) (kn l (i + 1 : Nat)) q := by
    intro q h1 h2
    have e : ixAt l q = i + 1 := ixAt_eq (by omega) (fun j hj => by
      rcases Nat.lt_or_ge j i with g | g
      · have := h.lt g (by omega)
        omega
      · obtain rfl : j = i := by omega
        exact h1) fun _ => h2
    have := val_mid e (by omega) hl
    rw [ez] at this
    exact this
  have left : ∃ p q, Plc l x y p ∧ valLo l p = pcLo (kn l i) (kn l (i + 1 : Nat)) q ∧ valHi l p = pcHi (kn l i) (kn l (i + 1 : Nat)) q ∧ q ≤ z := by
    by_cases g : (kn l i).At < x
    · have m := mid x g (by omega)
      exact ⟨x, x, .inl rfl, m.1, m.2, hx⟩
    · have pl := pc_left (a := kn l i) (b := kn l (i + 1 : Nat))
      refine ⟨(kn l i).At, (kn l i).At, ?_, by rw [pl.1]; exact ka.1, by rw [pl.2]; exact ka.2, by omega⟩
      by_cases g2 : (kn l i).At = x
      · exact .inl g2
      · exact .inr (.inr ⟨i, by omega, rfl, by omega, by omega⟩)
  have right : ∃ p q, Plc l x y p ∧ valLo l p = pcLo (kn l i) (kn l (i + 1 : Nat)) q ∧ valHi l p = pcHi (kn l i) (kn l (i + 1 : Nat)) q ∧ z ≤ q := by
    by_cases g : y ≤ (kn l (i + 1 : Nat)).At
    · have m := mid y (by omega) g
      exact ⟨y, y, .inr (.inl rfl), m.1, m.2, hy⟩
    · have pr := pc_end hab
      refine ⟨(kn l (i + 1 : Nat)).At, (kn l (i + 1 : Nat)).At, ?_, by rw [pr.1]; exact kb.1, by rw [pr.2]; exact kb.2, hzb⟩
      by_cases g2 : (kn l (i + 1 : Nat)).At = x
      · exact .inl g2
      · exact .inr (.inr ⟨i + 1, hl, rfl, by omega, by omega⟩)
  obtain ⟨p1, q1, a1, a2, a3, a4⟩ := left
  obtain ⟨p2, q2, b1, b2, b3, b4⟩ := right
  rcases Int.le_total 0 ((kn l (i + 1 : Nat)).V - (kn l i).V) with d | d
  · have u1 := pc_up hab d a4
    have u2 := pc_up hab d b4
    exact ⟨⟨p1, a1, by omega, by omega⟩, ⟨p2, b1, by omega, by omega⟩⟩
  · have u1 := pc_dn hab d a4
    have u2 := pc_dn hab d b4
    exact ⟨⟨p2, b1, by omega, by omega⟩, ⟨p1, a1, by omega, by omega⟩⟩
theorem mem_inn {l : List Knot} {x y p : Int} : p ∈ inn l x y ↔ ∃ k ∈ l, (x < k.At ∧ k.At < y) ∧ k.At = p := by
  unfold inn
  simp only [List.mem_map, List.mem_filter, decide_eq_true_eq, and_assoc]
theorem kn_mem {l : List Knot} {i : Nat} (h : i < l.length) : kn l i ∈ l := by
  rw [kn_get h]
  exact List.getElem_mem h
theorem mem_kn' {l : List Knot} {k : Knot} (h : k ∈ l) : ∃ i : Nat, i < l.length ∧ kn l i = k := by
  obtain ⟨i, hi, rfl⟩ := List.getElem_of_mem h
  exact ⟨i, hi, kn_get hi⟩
theorem plc_mem {l : List Knot} {x y p : Int} : Plc l x y p ↔ p ∈ x :: y :: inn l x y := by
  constructor
  · rintro (rfl | rfl | ⟨i, h1, h2, h3, h4⟩)
    · exact List.mem_cons_self ..
    · exact List.mem_cons_of_mem _ (List.mem_cons_self ..)
    · exact List.mem_cons_of_mem _ (List.mem_cons_of_mem _ (mem_inn.2 ⟨kn l i, kn_mem h1, by omega, h2⟩))
  · intro h
    cases h with
    | head => exact .inl rfl
    | tail _ h => cases h with
      | head => exact .inr (.inl rfl)
      | tail _ h =>
        obtain ⟨k, hk, h1, h2⟩ := mem_inn.1 h
        obtain ⟨i, hi, rfl⟩ := mem_kn' hk
        exact .inr (.inr ⟨i, hi, h2, by omega, by omega⟩)
/-- What is taken of pairs that are ordered. -/
theorem fd_mn {lo hi : Int → Int} (c : ∀ x, lo x ≤ hi x ∧ hi x ≤ lo x + 1) : ∀ (L : List Int) (a b : Int), (a ≤ b ∧ b ≤ a + 1) → ((fd mn lo a L = a ∧ fd mn hi b L = b) ∨ ∃ x ∈ L, fd mn lo a L = lo x ∧ fd mn hi b L = hi x) ∧ (fd mn lo a L ≤ a ∧ fd mn hi b L ≤ b) ∧ ∀ x ∈ L, fd mn lo a L ≤ lo x ∧ fd mn hi b L ≤ hi x
  | [], a, b, _ => ⟨.inl ⟨rfl, rfl⟩, ⟨Int.le_refl _, Int.le_refl _⟩, fun x h => by cases h⟩
  | x :: L, a, b, hab => by
    have cx := c x
    have m : (mn a (lo x) = a ∧ mn b (hi x) = b ∧ a ≤ lo x ∧ b ≤ hi x) ∨ (mn a (lo x) = lo x ∧ mn b (hi x) = hi x ∧ lo x ≤ a ∧ hi x ≤ b) := by
      unfold mn
      repeat' split
      all_goals omega
    rw [fd_cons, fd_cons]
    rcases m with ⟨m1, m2, m3, m4⟩ | ⟨m1, m2, m3, m4⟩
    · rw [m1, m2]
      obtain ⟨r1, r2, r3⟩ := fd_mn c L a b hab
      refine ⟨?_, r2, fun y hy => ?_⟩
      · rcases r1 with r | ⟨y, hy, r⟩
        · exact .inl r
        · exact .inr ⟨y, List.mem_cons_of_mem _ hy, r⟩
      · cases hy with
        | head => omega
        | tail _ hy => exact r3 y hy
    · rw [m1, m2]
      obtain ⟨r1, r2, r3⟩ := fd_mn c L (lo x) (hi x) cx
      refine ⟨?_, by omega, fun y hy => ?_⟩
      · rcases r1 with r | ⟨y, hy, r⟩
        · exact .inr ⟨x, List.mem_cons_self .., r⟩
        · exact .inr ⟨y, List.mem_cons_of_mem _ hy, r⟩
      · cases hy with
        | head => exact r2
        | tail _ hy => exact r3 y hy
theorem fd_mx {lo hi : Int → Int} (c : ∀ x, lo x ≤ hi x ∧ hi x ≤ lo x + 1) : ∀ (L : List Int) (a b : Int), (a ≤ b ∧ b ≤ a + 1) → ((fd mx lo a L = a ∧ fd mx hi b L = b) ∨ ∃ x ∈ L, fd mx lo a L = lo x ∧ fd mx hi b L = hi x) ∧ (a ≤ fd mx lo a L ∧ b ≤ fd mx hi b L) ∧ ∀ x ∈ L, lo x ≤ fd mx lo a L ∧ hi x ≤ fd mx hi b L
  | [], a, b, _ => ⟨.inl ⟨rfl, rfl⟩, ⟨Int.le_refl _, Int.le_refl _⟩, fun x h => by cases h⟩
  | x :: L, a, b, hab => by
    have cx := c x
    have m : (mx a (lo x) = a ∧ mx b (hi x) = b ∧ lo x ≤ a ∧ hi x ≤ b) ∨ (mx a (lo x) = lo x ∧ mx b (hi x) = hi x ∧ a ≤ lo x ∧ b ≤ hi x) := by
      unfold mx
      repeat' split
      all_goals omega
    rw [fd_cons, fd_cons]
    rcases m with ⟨m1, m2, m3, m4⟩ | ⟨m1, m2, m3, m4⟩
    · rw [m1, m2]
      obtain ⟨r1, r2, r3⟩ := fd_mx c L a b hab
      refine ⟨?_, r2, fun y hy => ?_⟩
      · rcases r1 with r | ⟨y, hy, r⟩
        · exact .inl r
        · exact .inr ⟨y, List.mem_cons_of_mem _ hy, r⟩
      · cases hy with
        | head => omega
        | tail _ hy => exact r3 y hy
    · rw [m1, m2]
      obtain ⟨r1, r2, r3⟩ := fd_mx c L (lo x) (hi x) cx
      refine ⟨?_, by omega, fun y hy => ?_⟩
      · rcases r1 with r | ⟨y, hy, r⟩
        · exact .inr ⟨x, List.mem_cons_self .., r⟩
        · exact .inr ⟨y, List.mem_cons_of_mem _ hy, r⟩
      · cases hy with
        | head => exact r2
        | tail _ hy => exact r3 y hy
end Go.Proofs.Ytdlholmphenhhaa.W.Gr
end

set_option linter.unusedVariables false
set_option maxRecDepth 100000
set_option maxHeartbeats 4000000
noncomputable section
namespace Go.Proofs.Ytdlholmphenhhaa.W.Gr
open Go Go.Cx Go.RowKit
def asc (l : List Knot) : Prop := l.Pairwise fun x y => x.At < y.At
theorem good_chk {l : List Knot} {a v : Int} (h : Good l a v) : ∀ (n i : Nat), l.length - i = n → chkI a v l i = 0
  | 0, i, hn => by rw [chkI_eq, if_neg (by omega)]
  | n + 1, i, hn => by
    have b := h.bd i (by omega)
    rw [chkI_eq, if_pos (by omega), if_neg (by omega), if_neg, good_chk h n (i + 1) (by omega)]
    rintro ⟨h1, h2⟩
    obtain ⟨j, rfl⟩ : ∃ j, i = j + 1 := ⟨i - 1, by omega⟩
    have u := h.up j (by omega)
    rw [show ((j + 1 : Nat) : Int) - 1 = (j : Int) by omega] at h2
    omega
theorem good_err {l : List Knot} {a v : Int} (h : Good l a v) (ha : 0 ≤ a ∧ a ≤ 1099511627776) (hv : 0 ≤ v ∧ v ≤ 68719476736) : lineErr l a v = 0 := by
  have p := h.pos
  have q := h.len
  unfold lineErr
  rw [if_neg (by omega), if_neg (by omega), if_neg (by omega)]
  exact good_chk h l.length 0 rfl
theorem asc_good {l : List Knot} {a v : Int} (h0 : 0 < l.length) (h1 : l.length ≤ 24) (hb : ∀ k ∈ l, (0 ≤ k.At ∧ k.At ≤ a) ∧ 0 ≤ k.V ∧ k.V ≤ v) (h : asc l) : Good l a v := by
  refine ⟨h0, h1, fun i hi => hb _ (kn_mem hi), fun i hi => ?_⟩
  have := List.pairwise_iff_getElem.1 h i (i + 1) (by omega) hi (by omega)
  rw [kn_get (by omega), kn_get hi]
  exact this
theorem tG_asc {c : Int → Int} {s : List Int} {B : Int} (hc : ∀ i, 0 ≤ c i ∧ c i ≤ 30000) (hB : 1000 ≤ B ∧ B ≤ 500000) : ∀ (n : Nat) (i a p : Int), i + n = 5 → (i = 5 → a = B) → (0 ≤ a ∧ a ≤ B) → (0 ≤ p ∧ p ≤ 21000000 + 30000 * a) → asc (tG c s B n i a p)
  | 0, i, a, p, h1, h2, h3, h4 => List.pairwise_singleton ..
  | n + 1, i, a, p, h1, h2, h3, h4 => by
    unfold tG
    by_cases e : a = B
    · rw [if_pos e]
      exact List.pairwise_singleton ..
    · rw [if_neg e]
      have st := stp_bd (s := s) (B := B) (i := i) h3 hB.1
      have st1 := st.2.2.2 (by omega)
      have q1 := Int.mul_le_mul_of_nonneg_right (hc i).2 st.1
      have q2 := Int.mul_nonneg (hc i).1 st.1
      have r := tG_ok (s := s) (b := 0) hc hB n (i + 1) (a + stp s B i a) (p + c i * stp s B i a) (by omega) (fun h => st.2.2.1 (by omega)) (by omega) (by omega)
      have r2 := tG_asc (s := s) hc hB n (i + 1) (a + stp s B i a) (p + c i * stp s B i a) (by omega) (fun h => st.2.2.1 (by omega)) (by omega) (by omega)
      refine List.pairwise_cons.2 ⟨fun k hk => ?_, r2⟩
      have := r.at' k hk
      show a < k.At
      omega
theorem sft_len {o : List Int} {u : Bool} : ∀ (j : Int) (l : List Knot), (sft o u j l).length = l.length
  | _, [] => rfl
  | j, k :: r => by
    show (sft o u (j + 1) r).length + 1 = r.length + 1
    rw [sft_len]
theorem sft_mem {o : List Int} {u : Bool} : ∀ (j : Int) (l : List Knot) (k : Knot), k ∈ sft o u j l → ∃ k' ∈ l, k.At = k'.At ∧ (0 ≤ k'.V → 0 ≤ k.V ∧ k.V ≤ k'.V + 40000000)
  | _, [], k, h => by cases h
  | j, x :: r, k, h => by
    have h : k ∈ sd o u j x :: sft o u (j + 1) r := h
    cases h with
    | head =>
      refine ⟨x, List.mem_cons_self .., ?_, fun hv => ?_⟩
      · unfold sd; split <;> rfl
      · unfold sd
        split
        · show 0 ≤ x.V + pk o j % 40000000 ∧ x.V + pk o j % 40000000 ≤ _
          omega
        · show 0 ≤ (if x.V - pk o j % 40000000 > 0 then x.V - pk o j % 40000000 else 0) ∧ (if x.V - pk o j % 40000000 > 0 then x.V - pk o j % 40000000 else 0) ≤ _
          split <;> omega
    | tail _ h =>
      obtain ⟨k', h1, h2⟩ := sft_mem (j + 1) r k h
      exact ⟨k', List.mem_cons_of_mem _ h1, h2⟩
theorem sft_asc {o : List Int} {u : Bool} : ∀ (j : Int) (l : List Knot), asc l → asc (sft o u j l)
  | _, [], _ => List.Pairwise.nil
  | j, x :: r, h => by
    obtain ⟨h1, h2⟩ := List.pairwise_cons.1 h
    refine List.pairwise_cons.2 ⟨fun k hk => ?_, sft_asc (j + 1) r h2⟩
    obtain ⟨k', h3, h4, _⟩ := sft_mem (j + 1) r k hk
    have := h1 k' h3
    have e : (sd o u j x).At = x.At := by unfold sd; split <;> rfl
    show (sd o u j x).At < k.At
    omega
theorem sft_good {l : List Knot} {o : List Int} {u : Bool} {j B : Int} (h : TOk l 5 0 B 15021000000) (ha : asc l) (hB : B ≤ 500000) : Good (sft o u j l) 1048576 68719476736 := by
  have l0 := h.l0
  have l1 := h.l1
  refine asc_good (by rw [sft_len]; exact l0) (by rw [sft_len]; omega) (fun k hk => ?_) (sft_asc j l ha)
  obtain ⟨k', h1, h2, h3⟩ := sft_mem j l k hk
  have a := h.at' k' h1
  have b := h.v k' h1
  have c := h3 b.1
  omega
theorem tPl_asc (b : Int) (s : List Int) : asc (tPl b s) := by
  have h := f0_bd s
  have t := tb_bd b
  unfold tPl
  rw [tP_eq]
  exact tG_asc (fun i => ⟨(aa_bd s i).1, by have := aa_bd s i; omega⟩) t 5 0 0 (p0 s) (by decide) (fun h => absurd h (by decide)) (by omega) (by omega)
theorem tFl_asc (b : Int) (s : List Int) : asc (tFl b s) := by
  have h := f0_bd s
  have t := tb_bd b
  unfold tFl
  rw [tF_eq]
  exact tG_asc (fun i => ⟨by have := aa_bd s i; have := bb_bd s i; omega, (bb_bd s i).2⟩) t 5 0 0 (f0 s) (by decide) (fun h => absurd h (by decide)) (by omega) (by omega)
theorem poreLo_good (b : Int) (s o m : List Int) : Good (knE b s o m).PoreLo.Knots 1048576 68719476736 ∧ isR (knE b s o m).PoreLo.Knots := by
  have g : Good (knE b s o m).PoreLo.Knots 1048576 68719476736 := sft_good (tPl_ok b s) (tPl_asc b s) (tb_bd b).2
  exact ⟨g, .inl (good_err g (by decide) (by decide))⟩
end Go.Proofs.Ytdlholmphenhhaa.W.Gr
end

set_option linter.unusedVariables false
set_option maxRecDepth 100000
set_option maxHeartbeats 4000000
noncomputable section
namespace Go.Proofs.Ytdlholmphenhhaa.W.Gr
open Go Go.Cx Go.RowKit
/-- The piece between two knots, times its width. -/
noncomputable def pn (a b : Knot) (x : Int) : Int := a.V * (b.At - a.At) + (b.V - a.V) * (x - a.At)
theorem pn_lo {a b : Knot} {x : Int} (h : a.At < b.At) : pcLo a b x = pn a b x / (b.At - a.At) ∧ pcHi a b x = -(-pn a b x / (b.At - a.At)) := by
  have hw : b.At - a.At ≠ 0 := by omega
  have e1 : pn a b x = (b.V - a.V) * (x - a.At) + a.V * (b.At - a.At) := by unfold pn; omega
  have e2 : -pn a b x = -((b.V - a.V) * (x - a.At)) + -a.V * (b.At - a.At) := by rw [e1, Int.neg_mul]; omega
  constructor
  · rw [e1, Int.add_mul_ediv_right _ _ hw]; unfold pcLo; omega
  · rw [e2, Int.add_mul_ediv_right _ _ hw]; unfold pcHi; omega
theorem fl_cmp {p q w u : Int} (hw : 0 < w) (hu : 0 < u) (h : q * w ≤ p * u) : q / u ≤ p / w := by
  refine Int.le_ediv_of_mul_le hw ?_
  have h1 := Int.ediv_mul_le q (show u ≠ 0 by omega)
  have h2 := Int.mul_le_mul_of_nonneg_right h1 (show 0 ≤ w by omega)
  have h3 : (q / u * w) * u ≤ p * u := by
    rw [show q / u * w * u = q / u * u * w by rw [Int.mul_assoc, Int.mul_comm w u, ← Int.mul_assoc]]
    omega
  exact Int.le_of_mul_le_mul_right h3 hu
theorem ce_cmp {p q w u : Int} (hw : 0 < w) (hu : 0 < u) (h : q * w ≤ p * u) : -(-q / u) ≤ -(-p / w) := by
  have := fl_cmp (p := -q) (q := -p) (w := u) (u := w) hu hw (by rw [Int.neg_mul, Int.neg_mul]; omega)
  omega
/-- What is above at two places is above between them. -/
theorem pn_mid {a b c d : Knot} {u v x : Int} (hx : u ≤ x) (hv : x ≤ v) (h1 : pn c d u * (b.At - a.At) ≤ pn a b u * (d.At - c.At)) (h2 : pn c d v * (b.At - a.At) ≤ pn a b v * (d.At - c.At)) : pn c d x * (b.At - a.At) ≤ pn a b x * (d.At - c.At) := by
  have lin : ∀ s t : Int, (pn a b t * (d.At - c.At) - pn c d t * (b.At - a.At)) - (pn a b s * (d.At - c.At) - pn c d s * (b.At - a.At)) = ((b.V - a.V) * (d.At - c.At) - (d.V - c.V) * (b.At - a.At)) * (t - s) := by
    intro s t
    unfold pn
    grind
  have l1 := lin u x
  have l2 := lin x v
  rcases Int.le_total 0 ((b.V - a.V) * (d.At - c.At) - (d.V - c.V) * (b.At - a.At)) with m | m
  · have := Int.mul_nonneg m (show 0 ≤ x - u by omega)
    omega
  · have := Int.mul_nonneg_of_nonpos_of_nonpos m (show u - x ≤ 0 by omega)
    have e : ((b.V - a.V) * (d.At - c.At) - (d.V - c.V) * (b.At - a.At)) * (v - x) ≤ 0 := Int.mul_nonpos_of_nonpos_of_nonneg m (by omega)
    omega
end Go.Proofs.Ytdlholmphenhhaa.W.Gr
end

set_option linter.unusedVariables false
set_option maxRecDepth 100000
set_option maxHeartbeats 4000000
noncomputable section
namespace Go.Proofs.Ytdlholmphenhhaa.W.Gr
open Go Go.Cx Go.RowKit
/-- The straight piece of a line at a place, with its bounds. -/
structure Piece' (l : List Knot) (x : Int) where
  p : Knot
  q : Knot
  w : p.At < q.At
  lo : Option Int
  hi : Option Int
  lo_ok : ∀ u, lo = some u → u ≤ x ∧ ∃ i : Nat, i < l.length ∧ (kn l i).At = u
  hi_ok : ∀ u, hi = some u → x ≤ u ∧ ∃ i : Nat, i < l.length ∧ (kn l i).At = u
  lo_no : lo = none → q.V = p.V
  hi_no : hi = none → q.V = p.V
  any : lo ≠ none ∨ hi ≠ none
  val : ∀ z, (∀ u, lo = some u → u ≤ z) → (∀ u, hi = some u → z ≤ u) → valLo l z = pcLo p q z ∧ valHi l z = pcHi p q z
theorem pc_const {v a b x : Int} : pcLo ⟨a, v⟩ ⟨b, v⟩ x = v ∧ pcHi ⟨a, v⟩ ⟨b, v⟩ x = v := by
  unfold pcLo pcHi
  have e : (v - v) * (x - a) = 0 := by rw [Int.sub_self, Int.zero_mul]
  show v + (v - v) * (x - a) / (b - a) = v ∧ v + -(-((v - v) * (x - a)) / (b - a)) = v
  rw [e, Int.neg_zero, Int.zero_ediv]
  omega
theorem piece {l : List Knot} {a v : Int} (h : Good l a v) (x : Int) : Nonempty (Piece' l x) := by
  have hle := ixAt_le (l := l) (x := x)
  have pos := h.pos
  by_cases e0 : ixAt l x = 0
  · have hx : x ≤ (kn l 0).At := by
      have := ixAt_there (l := l) (x := x) (by omega)
      rw [e0] at this
      exact this
    refine ⟨⟨⟨0, (kn l 0).V⟩, ⟨1, (kn l 0).V⟩, Int.zero_lt_one, none, some (kn l 0).At, fun u h => (by cases h), fun u h => ?_, fun _ => rfl, fun h => (by cases h), .inr (fun h => (by cases h)), fun z _ hz => ?_⟩⟩
    · cases h
      exact ⟨hx, 0, pos, rfl⟩
    · have := val_first (hz _ rfl)
      have c := pc_const (v := (kn l 0).V) (a := 0) (b := 1) (x := z)
      omega
  by_cases e1 : ixAt l x = l.length
  · have hb := ixAt_before (l := l) (x := x) (i := l.length - 1) (by omega)
    refine ⟨⟨⟨0, (kn l (l.length - 1 : Nat)).V⟩, ⟨1, (kn l (l.length - 1 : Nat)).V⟩, Int.zero_lt_one, some (kn l (l.length - 1 : Nat)).At, none, fun u h => ?_, fun u h => (by cases h), fun h => (by cases h), fun _ => rfl, .inl (fun h => (by cases h)), fun z hz _ => ?_⟩⟩
    · cases h
      exact ⟨by omega, l.length - 1, by omega, rfl⟩
    · have c := pc_const (v := (kn l (l.length - 1 : Nat)).V) (a := 0) (b := 1) (x := z)
      rw [c.1, c.2]
      have hz := hz _ rfl
      by_cases g : (kn l (l.length - 1 : Nat)).At = z
      · have := val_knot h (i := l.length - 1) (by omega)
        rw [g] at this
        exact this
      · have ez : ixAt l z = l.length := ixAt_eq (Nat.le_refl _) (fun j hj => by
          rcases Nat.lt_or_ge j (l.length - 1) with g2 | g2
          · have := h.lt g2 (by omega)
            omega
          · obtain rfl : j = l.length - 1 := by omega
            omega) fun h => by omega
        unfold valLo valHi
        rw [if_neg (by omega), if_pos ez, if_neg (by omega), if_pos ez]
        rw [show ((l.length - 1 : Nat) : Int) = (l.length : Int) - 1 by omega]
        exact ⟨rfl, rfl⟩
  obtain ⟨i, hi⟩ : ∃ i, ixAt l x = i + 1 := ⟨ixAt l x - 1, by omega⟩
  have hl : i + 1 < l.length := by omega
  have ez : ((i + 1 : Nat) : Int) - 1 = (i : Int) := by omega
  have hax := ixAt_before (l := l) (x := x) (i := i) (by omega)
  have hxb := ixAt_there (l := l) (x := x) (by omega)
  rw [hi] at hxb
  have hab := h.up i hl
  refine ⟨⟨kn l i, kn l (i + 1 : Nat), hab, some (kn l i).At, some (kn l (i + 1 : Nat)).At, fun u h => ?_, fun u h => ?_, fun h => (by cases h), fun h => (by cases h), .inl (fun h => (by cases h)), fun z h1 h2 => ?_⟩⟩
  · cases h
    exact ⟨by omega, i, by omega, rfl⟩
  · cases h
    exact ⟨hxb, i + 1, hl, rfl⟩
  · have h1 := h1 _ rfl
    have h2 := h2 _ rfl
    by_cases g : (kn l i).At = z
    · have k := val_knot h (i := i) (by omega)
      have pl := pc_left (a := kn l i) (b := kn l (i + 1 : Nat))
      rw [g] at k pl
      omega
    · have e : ixAt l z = i + 1 := ixAt_eq (by omega) (fun j hj => by
        rcases Nat.lt_or_ge j i with g2 | g2
        · have := h.lt g2 (by omega)
          omega
        · obtain rfl : j = i := by omega
          omega) fun _ => h2
      have := val_mid e (by omega) hl
      rw [ez] at this
      exact this
theorem pn_flat {p q : Knot} {x z : Int} (h : q.V = p.V) : pn p q x = pn p q z := by
  unfold pn
  rw [h, Int.sub_self, Int.zero_mul, Int.zero_mul]
theorem above_at {b c : List Knot} {a v a' v' : Int} (gb : Good b a v) (gc : Good c a' v') (h1 : ab1 b c b = true) (h2 : ab2 b c c = true) (x : Int) : valLo c x ≤ valLo b x ∧ valHi c x ≤ valHi b x := by
  have K : ∀ u, ((∃ i : Nat, i < b.length ∧ (kn b i).At = u) ∨ ∃ i : Nat, i < c.length ∧ (kn c i).At = u) → valHi c u ≤ valLo b u := by
    rintro u (⟨i, hi, rfl⟩ | ⟨i, hi, rfl⟩)
    · have := ab1_iff.1 h1 _ (kn_mem hi)
      have k := val_knot gb hi
      omega
    · have := ab2_iff.1 h2 _ (kn_mem hi)
      have k := val_knot gc hi
      omega
  obtain ⟨B⟩ := piece gb x
  obtain ⟨C⟩ := piece gc x
  have wb : 0 < B.q.At - B.p.At := by have := B.w; omega
  have wc : 0 < C.q.At - C.p.At := by have := C.w; omega
  have pt : ∀ u, valLo b u = pcLo B.p B.q u → valHi c u = pcHi C.p C.q u → valHi c u ≤ valLo b u → pn C.p C.q u * (B.q.At - B.p.At) ≤ pn B.p B.q u * (C.q.At - C.p.At) := by
    intro u e1 e2 h
    rw [e1, e2, (pn_lo B.w).1, (pn_lo C.w).2] at h
    have f1 := Int.ediv_mul_le (pn B.p B.q u) (show B.q.At - B.p.At ≠ 0 by omega)
    have f2 := (up_le (f := pn C.p C.q u) wc).1
    have g1 := Int.mul_le_mul_of_nonneg_right f2 (show 0 ≤ B.q.At - B.p.At by omega)
    have g2 := Int.mul_le_mul_of_nonneg_right (Int.mul_le_mul_of_nonneg_right h (show 0 ≤ C.q.At - C.p.At by omega)) (show 0 ≤ B.q.At - B.p.At by omega)
    have g3 := Int.mul_le_mul_of_nonneg_right f1 (show 0 ≤ C.q.At - C.p.At by omega)
    have g4 : pn B.p B.q u / (B.q.At - B.p.At) * (C.q.At - C.p.At) * (B.q.At - B.p.At) = pn B.p B.q u / (B.q.At - B.p.At) * (B.q.At - B.p.At) * (C.q.At - C.p.At) := by
      rw [Int.mul_assoc, Int.mul_comm (C.q.At - C.p.At), ← Int.mul_assoc]
    omega
  have fin : pn C.p C.q x * (B.q.At - B.p.At) ≤ pn B.p B.q x * (C.q.At - C.p.At) → valLo c x ≤ valLo b x ∧ valHi c x ≤ valHi b x := by
    intro h
    have vb := B.val x (fun u hu => (B.lo_ok u hu).1) (fun u hu => (B.hi_ok u hu).1)
    have vc := C.val x (fun u hu => (C.lo_ok u hu).1) (fun u hu => (C.hi_ok u hu).1)
    rw [vb.1, vb.2, vc.1, vc.2, (pn_lo B.w).1, (pn_lo B.w).2, (pn_lo C.w).1, (pn_lo C.w).2]
    exact ⟨fl_cmp wb wc h, ce_cmp wb wc h⟩
  -- a place to the left where both pieces hold and one has a knot
  have left : (∃ u, u ≤ x ∧ pn C.p C.q u * (B.q.At - B.p.At) ≤ pn B.p B.q u * (C.q.At - C.p.At)) ∨ (B.lo = none ∧ C.lo = none) := by
    have mk : ∀ u, u ≤ x → (∀ w, B.lo = some w → w ≤ u) → (∀ w, C.lo = some w → w ≤ u) → valHi c u ≤ valLo b u → ∃ u, u ≤ x ∧ pn C.p C.q u * (B.q.At - B.p.At) ≤ pn B.p B.q u * (C.q.At - C.p.At) := fun u hu k1 k2 k3 =>
      ⟨u, hu, pt u (B.val u k1 fun w hw => by have := (B.hi_ok w hw).1; omega).1 (C.val u k2 fun w hw => by have := (C.hi_ok w hw).1; omega).2 k3⟩
    cases e1 : B.lo with
    | none => cases e2 : C.lo with
      | none => exact .inr ⟨rfl, rfl⟩
      | some u =>
        have k := C.lo_ok u e2
        exact .inl (mk u k.1 (fun w hw => by rw [e1] at hw; cases hw) (fun w hw => by rw [e2] at hw; cases hw; exact Int.le_refl _) (K u (.inr k.2)))
    | some u => cases e2 : C.lo with
      | none =>
        have k := B.lo_ok u e1
        exact .inl (mk u k.1 (fun w hw => by rw [e1] at hw; cases hw; exact Int.le_refl _) (fun w hw => by rw [e2] at hw; cases hw) (K u (.inl k.2)))
      | some u' =>
        have k := B.lo_ok u e1
        have k' := C.lo_ok u' e2
        rcases Int.le_total u u' with g | g
        · exact .inl (mk u' k'.1 (fun w hw => by rw [e1] at hw; cases hw; exact g) (fun w hw => by rw [e2] at hw; cases hw; exact Int.le_refl _) (K u' (.inr k'.2)))
        · exact .inl (mk u k.1 (fun w hw => by rw [e1] at hw; cases hw; exact Int.le_refl _) (fun w hw => by rw [e2] at hw; cases hw; exact g) (K u (.inl k.2)))
  have right : (∃ u, x ≤ u ∧ pn C.p C.q u * (B.q.At - B.p.At) ≤ pn B.p B.q u * (C.q.At - C.p.At)) ∨ (B.hi = none ∧ C.hi = none) := by
    have mk : ∀ u, x ≤ u → (∀ w, B.hi = some w → u ≤ w) → (∀ w, C.hi = some w → u ≤ w) → valHi c u ≤ valLo b u → ∃ u, x ≤ u ∧ pn C.p C.q u * (B.q.At - B.p.At) ≤ pn B.p B.q u * (C.q.At - C.p.At) := fun u hu k1 k2 k3 =>
      ⟨u, hu, pt u (B.val u (fun w hw => by have := (B.lo_ok w hw).1; omega) k1).1 (C.val u (fun w hw => by have := (C.lo_ok w hw).1; omega) k2).2 k3⟩
    cases e1 : B.hi with
    | none => cases e2 : C.hi with
      | none => exact .inr ⟨rfl, rfl⟩
      | some u =>
        have k := C.hi_ok u e2
        exact .inl (mk u k.1 (fun w hw => by rw [e1] at hw; cases hw) (fun w hw => by rw [e2] at hw; cases hw; exact Int.le_refl _) (K u (.inr k.2)))
    | some u => cases e2 : C.hi with
      | none =>
        have k := B.hi_ok u e1
        exact .inl (mk u k.1 (fun w hw => by rw [e1] at hw; cases hw; exact Int.le_refl _) (fun w hw => by rw [e2] at hw; cases hw) (K u (.inl k.2)))
      | some u' =>
        have k := B.hi_ok u e1
        have k' := C.hi_ok u' e2
        rcases Int.le_total u u' with g | g
        · exact .inl (mk u k.1 (fun w hw => by rw [e1] at hw; cases hw; exact Int.le_refl _) (fun w hw => by rw [e2] at hw; cases hw; exact g) (K u (.inl k.2)))
        · exact .inl (mk u' k'.1 (fun w hw => by rw [e1] at hw; cases hw; exact g) (fun w hw => by rw [e2] at hw; cases hw; exact Int.le_refl _) (K u' (.inr k'.2)))
  apply fin
  rcases left with ⟨u, hu, n1⟩ | ⟨z1, z2⟩
  · rcases right with ⟨w, hw, n2⟩ | ⟨z1, z2⟩
    · exact pn_mid hu hw n1 n2
    · rw [pn_flat (B.hi_no z1) (x := x) (z := u), pn_flat (C.hi_no z2) (x := x) (z := u)]
      exact n1
  · rcases right with ⟨w, hw, n2⟩ | ⟨z3, z4⟩
    · rw [pn_flat (B.lo_no z1) (x := x) (z := w), pn_flat (C.lo_no z2) (x := x) (z := w)]
      exact n2
    · rcases B.any with h | h
      · exact absurd z1 h
      · exact absurd z3 h
end Go.Proofs.Ytdlholmphenhhaa.W.Gr
end

set_option linter.unusedVariables false
set_option maxRecDepth 100000
set_option maxHeartbeats 4000000
noncomputable section
namespace Go.Proofs.Ytdlholmphenhhaa.W.Gr
open Go Go.Cx Go.RowKit
noncomputable def runW (ct : CTab T) (ll : Nat → Nat → LoopTab T) (fl : List Nat) (f : Nat) (xs : List (AV T)) (ts : List Nat) : Tree (AV T × List (V T)) := resW Try.prog fl ts (callX Try.prog E ct ll 1000 8 (.fn f) xs hp0)
theorem factW_run {ct : CTab T} (hc : CTabOk Try.prog E ct) {ll : Nat → Nat → LoopTab T} (hl : LLOk Try.prog E ll) {fl : List Nat} (hfl : ∀ τ, memN τ fl = true → ∀ x : T τ, (E.enc τ x).all ind0 = true) {f : Nat} {xs : List (AV T)} {ts : List Nat} {v : AV T} {es : List (V T)} (ha : xs.all flt2 = true)
    (h : (runW ct ll fl f xs ts).holds fun x => x = (v, es)) : FactW Try.prog E f xs v es :=
  factW_of_run good hfl (callX_ok good names mixes hc hl 8) ha h
theorem tvOL (l : List Knot) : runW [] noLoops [78, 55] 20 [.agg [.sl 78 l false]] [24] =
  (.req ((0 : Nat) + List.length l ≤ (1073741824 : Nat))
  (.leaf ((.agg [.ls 0 (78 : Nat) (List.length ([] ++ l))], [.l (78 : Nat) ([] ++ l)])))) := by kernel_rfl
theorem sOL (l : List Knot) (h : l.length ≤ 1000) : (runW [] noLoops [78, 55] 20 [.agg [.sl 78 l false]] [24]).holds fun x => x = (.agg [.ls 0 78 l.length], [.l 78 l]) := by
  rw [tvOL]
  have h2 : 0 + l.length ≤ 1073741824 := by omega
  exact ⟨h2, rfl⟩
noncomputable def cOL : Con T := conPW Try.prog E [.agg [.s 78]] [.l 78] (fun d => (show List Knot from d.1).length ≤ 1000) (fun d => .agg [.ls 0 78 d.1.length]) fun d => [.l 78 d.1]
theorem ol_ok : ConOk Try.prog E 20 cOL := conPW_ok fun d hd => factW_run .nil noLoops_ok flK rfl (sOL d.1 hd)
noncomputable def ctEO : CTab T := [(57, cMod), (55, cKnown), (21, cAt), (27, cAbove), (20, cOL), (17, cAwake)]
theorem ctEO_ok : CTabOk Try.prog E ctEO := .cons mod64_ok (.cons known_ok (.cons at_ok (.cons above_ok (.cons ol_ok (.cons awake_ok .nil)))))
theorem tvEO (b b' b'' : Int) (s o m s' o' m' s'' o'' m'' : List Int) (z : Int) : runX ctEO noLoops 14 [.agg [i64 b, .sl 2 s false, .sl 2 o false, .sl 2 m false], .agg [i64 b', .sl 2 s' false, .sl 2 o' false, .sl 2 m' false], .agg [i64 b'', .sl 2 s'' false, .sl 2 o'' false, .sl 2 m'' false], i64 z] [4] =
  (.br (!above (Line.Knots (Earth.PoreHi (knE b s o m))) (Line.Knots (Earth.PoreHi (knE b s o m))))
   (.leaf (.bool (false)))
   (.br (above (Line.Knots (Earth.PoreHi (knE b s o m))) (Line.Knots (Earth.PoreLo (knE b' s' o' m'))))
    (.br (above (Line.Knots (Earth.PoreLo (knE b' s' o' m'))) (Line.Knots (Earth.PoreLo (knE b'' s'' o'' m''))))
     (.br (!above (Line.Knots (Earth.PoreHi (knE b s o m))) (Line.Knots (Earth.PoreLo (knE b'' s'' o'' m''))))
      (.leaf (.bool (false)))
      (.req (mPre z (600000 : Int))
      (.br (above (Line.Knots (Earth.PoreHi (knE b s o m))) (Line.Knots (Earth.PoreLo (knE b' s' o' m'))))
       (.br (decide (atLo (Line.Knots (Earth.PoreHi (knE b s o m))) (z % (600000 : Int)) < atLo (Line.Knots (Earth.PoreLo (knE b' s' o' m'))) (z % (600000 : Int))))
        (.leaf (.bool (false)))
        (.br (decide (atHi (Line.Knots (Earth.PoreHi (knE b s o m))) (z % (600000 : Int)) < atHi (Line.Knots (Earth.PoreLo (knE b' s' o' m'))) (z % (600000 : Int))))
         (.leaf (.bool (false)))
         (.br (above (Line.Knots (Earth.PoreHi (knE b s o m))) (Line.Knots (Earth.PoreLo (knE b' s' o' m'))))
          (.br (above (Line.Knots (Earth.PoreLo (knE b' s' o' m'))) (Line.Knots (Earth.PoreHi (knE b s o m))))
           (.br (!(atLo (Line.Knots (Earth.PoreHi (knE b s o m))) (z % (600000 : Int)) == atLo (Line.Knots (Earth.PoreLo (knE b' s' o' m'))) (z % (600000 : Int)) && (atHi (Line.Knots (Earth.PoreHi (knE b s o m))) (z % (600000 : Int)) == atHi (Line.Knots (Earth.PoreLo (knE b' s' o' m'))) (z % (600000 : Int)) && true)))
            (.leaf (.bool (false)))
            (.req (List.length (Line.Knots (Earth.PoreHi (knE b s o m))) ≤ (1000 : Nat))
            (.req ((decide ((0 : Int) ≤ IntKind.wrap IntKind.i64 ((↑(List.length (Line.Knots (Earth.PoreHi (knE b s o m)))) : Int) - (1 : Int))) && decide (IntKind.wrap IntKind.i64 ((↑(List.length (Line.Knots (Earth.PoreHi (knE b s o m)))) : Int) - (1 : Int)) < (↑(List.length (Line.Knots (Earth.PoreHi (knE b s o m)))) : Int))) = true)
            (.req (List.length (Line.Knots (Earth.PoreHi (knE b s o m))) = List.length (Line.Knots (Earth.PoreHi (knE b s o m))))
            (.req (List.length (Line.Knots (Earth.PoreHi (knE b s o m))) + List.length [Knot.mk (IntKind.wrap IntKind.i64 (Knot.At (kx (Line.Knots (Earth.PoreHi (knE b s o m))) (IntKind.wrap IntKind.i64 ((↑(List.length (Line.Knots (Earth.PoreHi (knE b s o m)))) : Int) - (1 : Int)))) + (5 : Int))) (Knot.V (kx (Line.Knots (Earth.PoreHi (knE b s o m))) (IntKind.wrap IntKind.i64 ((↑(List.length (Line.Knots (Earth.PoreHi (knE b s o m)))) : Int) - (1 : Int)))))] ≤ (1073741824 : Nat))
            (.req (List.length (Line.Knots (Earth.PoreHi (knE b s o m)) ++ [Knot.mk (IntKind.wrap IntKind.i64 (Knot.At (kx (Line.Knots (Earth.PoreHi (knE b s o m))) (IntKind.wrap IntKind.i64 ((↑(List.length (Line.Knots (Earth.PoreHi (knE b s o m)))) : Int) - (1 : Int)))) + (5 : Int))) (Knot.V (kx (Line.Knots (Earth.PoreHi (knE b s o m))) (IntKind.wrap IntKind.i64 ((↑(List.length (Line.Knots (Earth.PoreHi (knE b s o m)))) : Int) - (1 : Int)))))]) = List.length (Line.Knots (Earth.PoreHi (knE b s o m)) ++ [Knot.mk (IntKind.wrap IntKind.i64 (Knot.At (kx (Line.Knots (Earth.PoreHi (knE b s o m))) (IntKind.wrap IntKind.i64 ((↑(List.length (Line.Knots (Earth.PoreHi (knE b s o m)))) : Int) - (1 : Int)))) + (5 : Int))) (Knot.V (kx (Line.Knots (Earth.PoreHi (knE b s o m))) (IntKind.wrap IntKind.i64 ((↑(List.length (Line.Knots (Earth.PoreHi (knE b s o m)))) : Int) - (1 : Int)))))]))
            (.br (above (Line.Knots (Earth.PoreHi (knE b s o m))) (Line.Knots (Earth.PoreHi (knE b s o m)) ++ [Knot.mk (IntKind.wrap IntKind.i64 (Knot.At (kx (Line.Knots (Earth.PoreHi (knE b s o m))) (IntKind.wrap IntKind.i64 ((↑(List.length (Line.Knots (Earth.PoreHi (knE b s o m)))) : Int) - (1 : Int)))) + (5 : Int))) (Knot.V (kx (Line.Knots (Earth.PoreHi (knE b s o m))) (IntKind.wrap IntKind.i64 ((↑(List.length (Line.Knots (Earth.PoreHi (knE b s o m)))) : Int) - (1 : Int)))))]))
             (.req (List.length (Line.Knots (Earth.PoreHi (knE b s o m)) ++ [Knot.mk (IntKind.wrap IntKind.i64 (Knot.At (kx (Line.Knots (Earth.PoreHi (knE b s o m))) (IntKind.wrap IntKind.i64 ((↑(List.length (Line.Knots (Earth.PoreHi (knE b s o m)))) : Int) - (1 : Int)))) + (5 : Int))) (Knot.V (kx (Line.Knots (Earth.PoreHi (knE b s o m))) (IntKind.wrap IntKind.i64 ((↑(List.length (Line.Knots (Earth.PoreHi (knE b s o m)))) : Int) - (1 : Int)))))]) = List.length (Line.Knots (Earth.PoreHi (knE b s o m)) ++ [Knot.mk (IntKind.wrap IntKind.i64 (Knot.At (kx (Line.Knots (Earth.PoreHi (knE b s o m))) (IntKind.wrap IntKind.i64 ((↑(List.length (Line.Knots (Earth.PoreHi (knE b s o m)))) : Int) - (1 : Int)))) + (5 : Int))) (Knot.V (kx (Line.Knots (Earth.PoreHi (knE b s o m))) (IntKind.wrap IntKind.i64 ((↑(List.length (Line.Knots (Earth.PoreHi (knE b s o m)))) : Int) - (1 : Int)))))]))
             (.br (above (Line.Knots (Earth.PoreHi (knE b s o m)) ++ [Knot.mk (IntKind.wrap IntKind.i64 (Knot.At (kx (Line.Knots (Earth.PoreHi (knE b s o m))) (IntKind.wrap IntKind.i64 ((↑(List.length (Line.Knots (Earth.PoreHi (knE b s o m)))) : Int) - (1 : Int)))) + (5 : Int))) (Knot.V (kx (Line.Knots (Earth.PoreHi (knE b s o m))) (IntKind.wrap IntKind.i64 ((↑(List.length (Line.Knots (Earth.PoreHi (knE b s o m)))) : Int) - (1 : Int)))))]) (Line.Knots (Earth.PoreHi (knE b s o m))))
              (.leaf (.bool (true)))
              (.leaf (.bool (false)))))
             (.leaf (.bool (false))))))))))
           (.req (List.length (Line.Knots (Earth.PoreHi (knE b s o m))) ≤ (1000 : Nat))
           (.req ((decide ((0 : Int) ≤ IntKind.wrap IntKind.i64 ((↑(List.length (Line.Knots (Earth.PoreHi (knE b s o m)))) : Int) - (1 : Int))) && decide (IntKind.wrap IntKind.i64 ((↑(List.length (Line.Knots (Earth.PoreHi (knE b s o m)))) : Int) - (1 : Int)) < (↑(List.length (Line.Knots (Earth.PoreHi (knE b s o m)))) : Int))) = true)
           (.req (List.length (Line.Knots (Earth.PoreHi (knE b s o m))) = List.length (Line.Knots (Earth.PoreHi (knE b s o m))))
           (.req (List.length (Line.Knots (Earth.PoreHi (knE b s o m))) + List.length [Knot.mk (IntKind.wrap IntKind.i64 (Knot.At (kx (Line.Knots (Earth.PoreHi (knE b s o m))) (IntKind.wrap IntKind.i64 ((↑(List.length (Line.Knots (Earth.PoreHi (knE b s o m)))) : Int) - (1 : Int)))) + (5 : Int))) (Knot.V (kx (Line.Knots (Earth.PoreHi (knE b s o m))) (IntKind.wrap IntKind.i64 ((↑(List.length (Line.Knots (Earth.PoreHi (knE b s o m)))) : Int) - (1 : Int)))))] ≤ (1073741824 : Nat))
           (.req (List.length (Line.Knots (Earth.PoreHi (knE b s o m)) ++ [Knot.mk (IntKind.wrap IntKind.i64 (Knot.At (kx (Line.Knots (Earth.PoreHi (knE b s o m))) (IntKind.wrap IntKind.i64 ((↑(List.length (Line.Knots (Earth.PoreHi (knE b s o m)))) : Int) - (1 : Int)))) + (5 : Int))) (Knot.V (kx (Line.Knots (Earth.PoreHi (knE b s o m))) (IntKind.wrap IntKind.i64 ((↑(List.length (Line.Knots (Earth.PoreHi (knE b s o m)))) : Int) - (1 : Int)))))]) = List.length (Line.Knots (Earth.PoreHi (knE b s o m)) ++ [Knot.mk (IntKind.wrap IntKind.i64 (Knot.At (kx (Line.Knots (Earth.PoreHi (knE b s o m))) (IntKind.wrap IntKind.i64 ((↑(List.length (Line.Knots (Earth.PoreHi (knE b s o m)))) : Int) - (1 : Int)))) + (5 : Int))) (Knot.V (kx (Line.Knots (Earth.PoreHi (knE b s o m))) (IntKind.wrap IntKind.i64 ((↑(List.length (Line.Knots (Earth.PoreHi (knE b s o m)))) : Int) - (1 : Int)))))]))
           (.br (above (Line.Knots (Earth.PoreHi (knE b s o m))) (Line.Knots (Earth.PoreHi (knE b s o m)) ++ [Knot.mk (IntKind.wrap IntKind.i64 (Knot.At (kx (Line.Knots (Earth.PoreHi (knE b s o m))) (IntKind.wrap IntKind.i64 ((↑(List.length (Line.Knots (Earth.PoreHi (knE b s o m)))) : Int) - (1 : Int)))) + (5 : Int))) (Knot.V (kx (Line.Knots (Earth.PoreHi (knE b s o m))) (IntKind.wrap IntKind.i64 ((↑(List.length (Line.Knots (Earth.PoreHi (knE b s o m)))) : Int) - (1 : Int)))))]))
            (.req (List.length (Line.Knots (Earth.PoreHi (knE b s o m)) ++ [Knot.mk (IntKind.wrap IntKind.i64 (Knot.At (kx (Line.Knots (Earth.PoreHi (knE b s o m))) (IntKind.wrap IntKind.i64 ((↑(List.length (Line.Knots (Earth.PoreHi (knE b s o m)))) : Int) - (1 : Int)))) + (5 : Int))) (Knot.V (kx (Line.Knots (Earth.PoreHi (knE b s o m))) (IntKind.wrap IntKind.i64 ((↑(List.length (Line.Knots (Earth.PoreHi (knE b s o m)))) : Int) - (1 : Int)))))]) = List.length (Line.Knots (Earth.PoreHi (knE b s o m)) ++ [Knot.mk (IntKind.wrap IntKind.i64 (Knot.At (kx (Line.Knots (Earth.PoreHi (knE b s o m))) (IntKind.wrap IntKind.i64 ((↑(List.length (Line.Knots (Earth.PoreHi (knE b s o m)))) : Int) - (1 : Int)))) + (5 : Int))) (Knot.V (kx (Line.Knots (Earth.PoreHi (knE b s o m))) (IntKind.wrap IntKind.i64 ((↑(List.length (Line.Knots (Earth.PoreHi (knE b s o m)))) : Int) - (1 : Int)))))]))
            (.br (above (Line.Knots (Earth.PoreHi (knE b s o m)) ++ [Knot.mk (IntKind.wrap IntKind.i64 (Knot.At (kx (Line.Knots (Earth.PoreHi (knE b s o m))) (IntKind.wrap IntKind.i64 ((↑(List.length (Line.Knots (Earth.PoreHi (knE b s o m)))) : Int) - (1 : Int)))) + (5 : Int))) (Knot.V (kx (Line.Knots (Earth.PoreHi (knE b s o m))) (IntKind.wrap IntKind.i64 ((↑(List.length (Line.Knots (Earth.PoreHi (knE b s o m)))) : Int) - (1 : Int)))))]) (Line.Knots (Earth.PoreHi (knE b s o m))))
             (.leaf (.bool (true)))
             (.leaf (.bool (false)))))
            (.leaf (.bool (false))))))))))
          (.req (List.length (Line.Knots (Earth.PoreHi (knE b s o m))) ≤ (1000 : Nat))
          (.req ((decide ((0 : Int) ≤ IntKind.wrap IntKind.i64 ((↑(List.length (Line.Knots (Earth.PoreHi (knE b s o m)))) : Int) - (1 : Int))) && decide (IntKind.wrap IntKind.i64 ((↑(List.length (Line.Knots (Earth.PoreHi (knE b s o m)))) : Int) - (1 : Int)) < (↑(List.length (Line.Knots (Earth.PoreHi (knE b s o m)))) : Int))) = true)
          (.req (List.length (Line.Knots (Earth.PoreHi (knE b s o m))) = List.length (Line.Knots (Earth.PoreHi (knE b s o m))))
          (.req (List.length (Line.Knots (Earth.PoreHi (knE b s o m))) + List.length [Knot.mk (IntKind.wrap IntKind.i64 (Knot.At (kx (Line.Knots (Earth.PoreHi (knE b s o m))) (IntKind.wrap IntKind.i64 ((↑(List.length (Line.Knots (Earth.PoreHi (knE b s o m)))) : Int) - (1 : Int)))) + (5 : Int))) (Knot.V (kx (Line.Knots (Earth.PoreHi (knE b s o m))) (IntKind.wrap IntKind.i64 ((↑(List.length (Line.Knots (Earth.PoreHi (knE b s o m)))) : Int) - (1 : Int)))))] ≤ (1073741824 : Nat))
          (.req (List.length (Line.Knots (Earth.PoreHi (knE b s o m)) ++ [Knot.mk (IntKind.wrap IntKind.i64 (Knot.At (kx (Line.Knots (Earth.PoreHi (knE b s o m))) (IntKind.wrap IntKind.i64 ((↑(List.length (Line.Knots (Earth.PoreHi (knE b s o m)))) : Int) - (1 : Int)))) + (5 : Int))) (Knot.V (kx (Line.Knots (Earth.PoreHi (knE b s o m))) (IntKind.wrap IntKind.i64 ((↑(List.length (Line.Knots (Earth.PoreHi (knE b s o m)))) : Int) - (1 : Int)))))]) = List.length (Line.Knots (Earth.PoreHi (knE b s o m)) ++ [Knot.mk (IntKind.wrap IntKind.i64 (Knot.At (kx (Line.Knots (Earth.PoreHi (knE b s o m))) (IntKind.wrap IntKind.i64 ((↑(List.length (Line.Knots (Earth.PoreHi (knE b s o m)))) : Int) - (1 : Int)))) + (5 : Int))) (Knot.V (kx (Line.Knots (Earth.PoreHi (knE b s o m))) (IntKind.wrap IntKind.i64 ((↑(List.length (Line.Knots (Earth.PoreHi (knE b s o m)))) : Int) - (1 : Int)))))]))
          (.br (above (Line.Knots (Earth.PoreHi (knE b s o m))) (Line.Knots (Earth.PoreHi (knE b s o m)) ++ [Knot.mk (IntKind.wrap IntKind.i64 (Knot.At (kx (Line.Knots (Earth.PoreHi (knE b s o m))) (IntKind.wrap IntKind.i64 ((↑(List.length (Line.Knots (Earth.PoreHi (knE b s o m)))) : Int) - (1 : Int)))) + (5 : Int))) (Knot.V (kx (Line.Knots (Earth.PoreHi (knE b s o m))) (IntKind.wrap IntKind.i64 ((↑(List.length (Line.Knots (Earth.PoreHi (knE b s o m)))) : Int) - (1 : Int)))))]))
           (.req (List.length (Line.Knots (Earth.PoreHi (knE b s o m)) ++ [Knot.mk (IntKind.wrap IntKind.i64 (Knot.At (kx (Line.Knots (Earth.PoreHi (knE b s o m))) (IntKind.wrap IntKind.i64 ((↑(List.length (Line.Knots (Earth.PoreHi (knE b s o m)))) : Int) - (1 : Int)))) + (5 : Int))) (Knot.V (kx (Line.Knots (Earth.PoreHi (knE b s o m))) (IntKind.wrap IntKind.i64 ((↑(List.length (Line.Knots (Earth.PoreHi (knE b s o m)))) : Int) - (1 : Int)))))]) = List.length (Line.Knots (Earth.PoreHi (knE b s o m)) ++ [Knot.mk (IntKind.wrap IntKind.i64 (Knot.At (kx (Line.Knots (Earth.PoreHi (knE b s o m))) (IntKind.wrap IntKind.i64 ((↑(List.length (Line.Knots (Earth.PoreHi (knE b s o m)))) : Int) - (1 : Int)))) + (5 : Int))) (Knot.V (kx (Line.Knots (Earth.PoreHi (knE b s o m))) (IntKind.wrap IntKind.i64 ((↑(List.length (Line.Knots (Earth.PoreHi (knE b s o m)))) : Int) - (1 : Int)))))]))
           (.br (above (Line.Knots (Earth.PoreHi (knE b s o m)) ++ [Knot.mk (IntKind.wrap IntKind.i64 (Knot.At (kx (Line.Knots (Earth.PoreHi (knE b s o m))) (IntKind.wrap IntKind.i64 ((↑(List.length (Line.Knots (Earth.PoreHi (knE b s o m)))) : Int) - (1 : Int)))) + (5 : Int))) (Knot.V (kx (Line.Knots (Earth.PoreHi (knE b s o m))) (IntKind.wrap IntKind.i64 ((↑(List.length (Line.Knots (Earth.PoreHi (knE b s o m)))) : Int) - (1 : Int)))))]) (Line.Knots (Earth.PoreHi (knE b s o m))))
            (.leaf (.bool (true)))
            (.leaf (.bool (false)))))
           (.leaf (.bool (false))))))))))))
       (.br (above (Line.Knots (Earth.PoreHi (knE b s o m))) (Line.Knots (Earth.PoreLo (knE b' s' o' m'))))
        (.br (above (Line.Knots (Earth.PoreLo (knE b' s' o' m'))) (Line.Knots (Earth.PoreHi (knE b s o m))))
         (.br (!(atLo (Line.Knots (Earth.PoreHi (knE b s o m))) (z % (600000 : Int)) == atLo (Line.Knots (Earth.PoreLo (knE b' s' o' m'))) (z % (600000 : Int)) && (atHi (Line.Knots (Earth.PoreHi (knE b s o m))) (z % (600000 : Int)) == atHi (Line.Knots (Earth.PoreLo (knE b' s' o' m'))) (z % (600000 : Int)) && true)))
          (.leaf (.bool (false)))
          (.req (List.length (Line.Knots (Earth.PoreHi (knE b s o m))) ≤ (1000 : Nat))
          (.req ((decide ((0 : Int) ≤ IntKind.wrap IntKind.i64 ((↑(List.length (Line.Knots (Earth.PoreHi (knE b s o m)))) : Int) - (1 : Int))) && decide (IntKind.wrap IntKind.i64 ((↑(List.length (Line.Knots (Earth.PoreHi (knE b s o m)))) : Int) - (1 : Int)) < (↑(List.length (Line.Knots (Earth.PoreHi (knE b s o m)))) : Int))) = true)
          (.req (List.length (Line.Knots (Earth.PoreHi (knE b s o m))) = List.length (Line.Knots (Earth.PoreHi (knE b s o m))))
          (.req (List.length (Line.Knots (Earth.PoreHi (knE b s o m))) + List.length [Knot.mk (IntKind.wrap IntKind.i64 (Knot.At (kx (Line.Knots (Earth.PoreHi (knE b s o m))) (IntKind.wrap IntKind.i64 ((↑(List.length (Line.Knots (Earth.PoreHi (knE b s o m)))) : Int) - (1 : Int)))) + (5 : Int))) (Knot.V (kx (Line.Knots (Earth.PoreHi (knE b s o m))) (IntKind.wrap IntKind.i64 ((↑(List.length (Line.Knots (Earth.PoreHi (knE b s o m)))) : Int) - (1 : Int)))))] ≤ (1073741824 : Nat))
          (.req (List.length (Line.Knots (Earth.PoreHi (knE b s o m)) ++ [Knot.mk (IntKind.wrap IntKind.i64 (Knot.At (kx (Line.Knots (Earth.PoreHi (knE b s o m))) (IntKind.wrap IntKind.i64 ((↑(List.length (Line.Knots (Earth.PoreHi (knE b s o m)))) : Int) - (1 : Int)))) + (5 : Int))) (Knot.V (kx (Line.Knots (Earth.PoreHi (knE b s o m))) (IntKind.wrap IntKind.i64 ((↑(List.length (Line.Knots (Earth.PoreHi (knE b s o m)))) : Int) - (1 : Int)))))]) = List.length (Line.Knots (Earth.PoreHi (knE b s o m)) ++ [Knot.mk (IntKind.wrap IntKind.i64 (Knot.At (kx (Line.Knots (Earth.PoreHi (knE b s o m))) (IntKind.wrap IntKind.i64 ((↑(List.length (Line.Knots (Earth.PoreHi (knE b s o m)))) : Int) - (1 : Int)))) + (5 : Int))) (Knot.V (kx (Line.Knots (Earth.PoreHi (knE b s o m))) (IntKind.wrap IntKind.i64 ((↑(List.length (Line.Knots (Earth.PoreHi (knE b s o m)))) : Int) - (1 : Int)))))]))
          (.br (above (Line.Knots (Earth.PoreHi (knE b s o m))) (Line.Knots (Earth.PoreHi (knE b s o m)) ++ [Knot.mk (IntKind.wrap IntKind.i64 (Knot.At (kx (Line.Knots (Earth.PoreHi (knE b s o m))) (IntKind.wrap IntKind.i64 ((↑(List.length (Line.Knots (Earth.PoreHi (knE b s o m)))) : Int) - (1 : Int)))) + (5 : Int))) (Knot.V (kx (Line.Knots (Earth.PoreHi (knE b s o m))) (IntKind.wrap IntKind.i64 ((↑(List.length (Line.Knots (Earth.PoreHi (knE b s o m)))) : Int) - (1 : Int)))))]))
           (.req (List.length (Line.Knots (Earth.PoreHi (knE b s o m)) ++ [Knot.mk (IntKind.wrap IntKind.i64 (Knot.At (kx (Line.Knots (Earth.PoreHi (knE b s o m))) (IntKind.wrap IntKind.i64 ((↑(List.length (Line.Knots (Earth.PoreHi (knE b s o m)))) : Int) - (1 : Int)))) + (5 : Int))) (Knot.V (kx (Line.Knots (Earth.PoreHi (knE b s o m))) (IntKind.wrap IntKind.i64 ((↑(List.length (Line.Knots (Earth.PoreHi (knE b s o m)))) : Int) - (1 : Int)))))]) = List.length (Line.Knots (Earth.PoreHi (knE b s o m)) ++ [Knot.mk (IntKind.wrap IntKind.i64 (Knot.At (kx (Line.Knots (Earth.PoreHi (knE b s o m))) (IntKind.wrap IntKind.i64 ((↑(List.length (Line.Knots (Earth.PoreHi (knE b s o m)))) : Int) - (1 : Int)))) + (5 : Int))) (Knot.V (kx (Line.Knots (Earth.PoreHi (knE b s o m))) (IntKind.wrap IntKind.i64 ((↑(List.length (Line.Knots (Earth.PoreHi (knE b s o m)))) : Int) - (1 : Int)))))]))
           (.br (above (Line.Knots (Earth.PoreHi (knE b s o m)) ++ [Knot.mk (IntKind.wrap IntKind.i64 (Knot.At (kx (Line.Knots (Earth.PoreHi (knE b s o m))) (IntKind.wrap IntKind.i64 ((↑(List.length (Line.Knots (Earth.PoreHi (knE b s o m)))) : Int) - (1 : Int)))) + (5 : Int))) (Knot.V (kx (Line.Knots (Earth.PoreHi (knE b s o m))) (IntKind.wrap IntKind.i64 ((↑(List.length (Line.Knots (Earth.PoreHi (knE b s o m)))) : Int) - (1 : Int)))))]) (Line.Knots (Earth.PoreHi (knE b s o m))))
            (.leaf (.bool (true)))
            (.leaf (.bool (false)))))
           (.leaf (.bool (false))))))))))
         (.req (List.length (Line.Knots (Earth.PoreHi (knE b s o m))) ≤ (1000 : Nat))
         (.req ((decide ((0 : Int) ≤ IntKind.wrap IntKind.i64 ((↑(List.length (Line.Knots (Earth.PoreHi (knE b s o m)))) : Int) - (1 : Int))) && decide (IntKind.wrap IntKind.i64 ((↑(List.length (Line.Knots (Earth.PoreHi (knE b s o m)))) : Int) - (1 : Int)) < (↑(List.length (Line.Knots (Earth.PoreHi (knE b s o m)))) : Int))) = true)
         (.req (List.length (Line.Knots (Earth.PoreHi (knE b s o m))) = List.length (Line.Knots (Earth.PoreHi (knE b s o m))))
         (.req (List.length (Line.Knots (Earth.PoreHi (knE b s o m))) + List.length [Knot.mk (IntKind.wrap IntKind.i64 (Knot.At (kx (Line.Knots (Earth.PoreHi (knE b s o m))) (IntKind.wrap IntKind.i64 ((↑(List.length (Line.Knots (Earth.PoreHi (knE b s o m)))) : Int) - (1 : Int)))) + (5 : Int))) (Knot.V (kx (Line.Knots (Earth.PoreHi (knE b s o m))) (IntKind.wrap IntKind.i64 ((↑(List.length (Line.Knots (Earth.PoreHi (knE b s o m)))) : Int) - (1 : Int)))))] ≤ (1073741824 : Nat))
         (.req (List.length (Line.Knots (Earth.PoreHi (knE b s o m)) ++ [Knot.mk (IntKind.wrap IntKind.i64 (Knot.At (kx (Line.Knots (Earth.PoreHi (knE b s o m))) (IntKind.wrap IntKind.i64 ((↑(List.length (Line.Knots (Earth.PoreHi (knE b s o m)))) : Int) - (1 : Int)))) + (5 : Int))) (Knot.V (kx (Line.Knots (Earth.PoreHi (knE b s o m))) (IntKind.wrap IntKind.i64 ((↑(List.length (Line.Knots (Earth.PoreHi (knE b s o m)))) : Int) - (1 : Int)))))]) = List.length (Line.Knots (Earth.PoreHi (knE b s o m)) ++ [Knot.mk (IntKind.wrap IntKind.i64 (Knot.At (kx (Line.Knots (Earth.PoreHi (knE b s o m))) (IntKind.wrap IntKind.i64 ((↑(List.length (Line.Knots (Earth.PoreHi (knE b s o m)))) : Int) - (1 : Int)))) + (5 : Int))) (Knot.V (kx (Line.Knots (Earth.PoreHi (knE b s o m))) (IntKind.wrap IntKind.i64 ((↑(List.length (Line.Knots (Earth.PoreHi (knE b s o m)))) : Int) - (1 : Int)))))]))
         (.br (above (Line.Knots (Earth.PoreHi (knE b s o m))) (Line.Knots (Earth.PoreHi (knE b s o m)) ++ [Knot.mk (IntKind.wrap IntKind.i64 (Knot.At (kx (Line.Knots (Earth.PoreHi (knE b s o m))) (IntKind.wrap IntKind.i64 ((↑(List.length (Line.Knots (Earth.PoreHi (knE b s o m)))) : Int) - (1 : Int)))) + (5 : Int))) (Knot.V (kx (Line.Knots (Earth.PoreHi (knE b s o m))) (IntKind.wrap IntKind.i64 ((↑(List.length (Line.Knots (Earth.PoreHi (knE b s o m)))) : Int) - (1 : Int)))))]))
          (.req (List.length (Line.Knots (Earth.PoreHi (knE b s o m)) ++ [Knot.mk (IntKind.wrap IntKind.i64 (Knot.At (kx (Line.Knots (Earth.PoreHi (knE b s o m))) (IntKind.wrap IntKind.i64 ((↑(List.length (Line.Knots (Earth.PoreHi (knE b s o m)))) : Int) - (1 : Int)))) + (5 : Int))) (Knot.V (kx (Line.Knots (Earth.PoreHi (knE b s o m))) (IntKind.wrap IntKind.i64 ((↑(List.length (Line.Knots (Earth.PoreHi (knE b s o m)))) : Int) - (1 : Int)))))]) = List.length (Line.Knots (Earth.PoreHi (knE b s o m)) ++ [Knot.mk (IntKind.wrap IntKind.i64 (Knot.At (kx (Line.Knots (Earth.PoreHi (knE b s o m))) (IntKind.wrap IntKind.i64 ((↑(List.length (Line.Knots (Earth.PoreHi (knE b s o m)))) : Int) - (1 : Int)))) + (5 : Int))) (Knot.V (kx (Line.Knots (Earth.PoreHi (knE b s o m))) (IntKind.wrap IntKind.i64 ((↑(List.length (Line.Knots (Earth.PoreHi (knE b s o m)))) : Int) - (1 : Int)))))]))
          (.br (above (Line.Knots (Earth.PoreHi (knE b s o m)) ++ [Knot.mk (IntKind.wrap IntKind.i64 (Knot.At (kx (Line.Knots (Earth.PoreHi (knE b s o m))) (IntKind.wrap IntKind.i64 ((↑(List.length (Line.Knots (Earth.PoreHi (knE b s o m)))) : Int) - (1 : Int)))) + (5 : Int))) (Knot.V (kx (Line.Knots (Earth.PoreHi (knE b s o m))) (IntKind.wrap IntKind.i64 ((↑(List.length (Line.Knots (Earth.PoreHi (knE b s o m)))) : Int) - (1 : Int)))))]) (Line.Knots (Earth.PoreHi (knE b s o m))))
           (.leaf (.bool (true)))
           (.leaf (.bool (false)))))
          (.leaf (.bool (false))))))))))
        (.req (List.length (Line.Knots (Earth.PoreHi (knE b s o m))) ≤ (1000 : Nat))
        (.req ((decide ((0 : Int) ≤ IntKind.wrap IntKind.i64 ((↑(List.length (Line.Knots (Earth.PoreHi (knE b s o m)))) : Int) - (1 : Int))) && decide (IntKind.wrap IntKind.i64 ((↑(List.length (Line.Knots (Earth.PoreHi (knE b s o m)))) : Int) - (1 : Int)) < (↑(List.length (Line.Knots (Earth.PoreHi (knE b s o m)))) : Int))) = true)
        (.req (List.length (Line.Knots (Earth.PoreHi (knE b s o m))) = List.length (Line.Knots (Earth.PoreHi (knE b s o m))))
        (.req (List.length (Line.Knots (Earth.PoreHi (knE b s o m))) + List.length [Knot.mk (IntKind.wrap IntKind.i64 (Knot.At (kx (Line.Knots (Earth.PoreHi (knE b s o m))) (IntKind.wrap IntKind.i64 ((↑(List.length (Line.Knots (Earth.PoreHi (knE b s o m)))) : Int) - (1 : Int)))) + (5 : Int))) (Knot.V (kx (Line.Knots (Earth.PoreHi (knE b s o m))) (IntKind.wrap IntKind.i64 ((↑(List.length (Line.Knots (Earth.PoreHi (knE b s o m)))) : Int) - (1 : Int)))))] ≤ (1073741824 : Nat))
        (.req (List.length (Line.Knots (Earth.PoreHi (knE b s o m)) ++ [Knot.mk (IntKind.wrap IntKind.i64 (Knot.At (kx (Line.Knots (Earth.PoreHi (knE b s o m))) (IntKind.wrap IntKind.i64 ((↑(List.length (Line.Knots (Earth.PoreHi (knE b s o m)))) : Int) - (1 : Int)))) + (5 : Int))) (Knot.V (kx (Line.Knots (Earth.PoreHi (knE b s o m))) (IntKind.wrap IntKind.i64 ((↑(List.length (Line.Knots (Earth.PoreHi (knE b s o m)))) : Int) - (1 : Int)))))]) = List.length (Line.Knots (Earth.PoreHi (knE b s o m)) ++ [Knot.mk (IntKind.wrap IntKind.i64 (Knot.At (kx (Line.Knots (Earth.PoreHi (knE b s o m))) (IntKind.wrap IntKind.i64 ((↑(List.length (Line.Knots (Earth.PoreHi (knE b s o m)))) : Int) - (1 : Int)))) + (5 : Int))) (Knot.V (kx (Line.Knots (Earth.PoreHi (knE b s o m))) (IntKind.wrap IntKind.i64 ((↑(List.length (Line.Knots (Earth.PoreHi (knE b s o m)))) : Int) - (1 : Int)))))]))
        (.br (above (Line.Knots (Earth.PoreHi (knE b s o m))) (Line.Knots (Earth.PoreHi (knE b s o m)) ++ [Knot.mk (IntKind.wrap IntKind.i64 (Knot.At (kx (Line.Knots (Earth.PoreHi (knE b s o m))) (IntKind.wrap IntKind.i64 ((↑(List.length (Line.Knots (Earth.PoreHi (knE b s o m)))) : Int) - (1 : Int)))) + (5 : Int))) (Knot.V (kx (Line.Knots (Earth.PoreHi (knE b s o m))) (IntKind.wrap IntKind.i64 ((↑(List.length (Line.Knots (Earth.PoreHi (knE b s o m)))) : Int) - (1 : Int)))))]))
         (.req (List.length (Line.Knots (Earth.PoreHi (knE b s o m)) ++ [Knot.mk (IntKind.wrap IntKind.i64 (Knot.At (kx (Line.Knots (Earth.PoreHi (knE b s o m))) (IntKind.wrap IntKind.i64 ((↑(List.length (Line.Knots (Earth.PoreHi (knE b s o m)))) : Int) - (1 : Int)))) + (5 : Int))) (Knot.V (kx (Line.Knots (Earth.PoreHi (knE b s o m))) (IntKind.wrap IntKind.i64 ((↑(List.length (Line.Knots (Earth.PoreHi (knE b s o m)))) : Int) - (1 : Int)))))]) = List.length (Line.Knots (Earth.PoreHi (knE b s o m)) ++ [Knot.mk (IntKind.wrap IntKind.i64 (Knot.At (kx (Line.Knots (Earth.PoreHi (knE b s o m))) (IntKind.wrap IntKind.i64 ((↑(List.length (Line.Knots (Earth.PoreHi (knE b s o m)))) : Int) - (1 : Int)))) + (5 : Int))) (Knot.V (kx (Line.Knots (Earth.PoreHi (knE b s o m))) (IntKind.wrap IntKind.i64 ((↑(List.length (Line.Knots (Earth.PoreHi (knE b s o m)))) : Int) - (1 : Int)))))]))
         (.br (above (Line.Knots (Earth.PoreHi (knE b s o m)) ++ [Knot.mk (IntKind.wrap IntKind.i64 (Knot.At (kx (Line.Knots (Earth.PoreHi (knE b s o m))) (IntKind.wrap IntKind.i64 ((↑(List.length (Line.Knots (Earth.PoreHi (knE b s o m)))) : Int) - (1 : Int)))) + (5 : Int))) (Knot.V (kx (Line.Knots (Earth.PoreHi (knE b s o m))) (IntKind.wrap IntKind.i64 ((↑(List.length (Line.Knots (Earth.PoreHi (knE b s o m)))) : Int) - (1 : Int)))))]) (Line.Knots (Earth.PoreHi (knE b s o m))))
          (.leaf (.bool (true)))
          (.leaf (.bool (false)))))
         (.leaf (.bool (false)))))))))))))
     (.req (mPre z (600000 : Int))
     (.br (above (Line.Knots (Earth.PoreHi (knE b s o m))) (Line.Knots (Earth.PoreLo (knE b' s' o' m'))))
      (.br (decide (atLo (Line.Knots (Earth.PoreHi (knE b s o m))) (z % (600000 : Int)) < atLo (Line.Knots (Earth.PoreLo (knE b' s' o' m'))) (z % (600000 : Int))))
       (.leaf (.bool (false)))
       (.br (decide (atHi (Line.Knots (Earth.PoreHi (knE b s o m))) (z % (600000 : Int)) < atHi (Line.Knots (Earth.PoreLo (knE b' s' o' m'))) (z % (600000 : Int))))
        (.leaf (.bool (false)))
        (.br (above (Line.Knots (Earth.PoreHi (knE b s o m))) (Line.Knots (Earth.PoreLo (knE b' s' o' m'))))
         (.br (above (Line.Knots (Earth.PoreLo (knE b' s' o' m'))) (Line.Knots (Earth.PoreHi (knE b s o m))))
          (.br (!(atLo (Line.Knots (Earth.PoreHi (knE b s o m))) (z % (600000 : Int)) == atLo (Line.Knots (Earth.PoreLo (knE b' s' o' m'))) (z % (600000 : Int)) && (atHi (Line.Knots (Earth.PoreHi (knE b s o m))) (z % (600000 : Int)) == atHi (Line.Knots (Earth.PoreLo (knE b' s' o' m'))) (z % (600000 : Int)) && true)))
           (.leaf (.bool (false)))
           (.req (List.length (Line.Knots (Earth.PoreHi (knE b s o m))) ≤ (1000 : Nat))
           (.req ((decide ((0 : Int) ≤ IntKind.wrap IntKind.i64 ((↑(List.length (Line.Knots (Earth.PoreHi (knE b s o m)))) : Int) - (1 : Int))) && decide (IntKind.wrap IntKind.i64 ((↑(List.length (Line.Knots (Earth.PoreHi (knE b s o m)))) : Int) - (1 : Int)) < (↑(List.length (Line.Knots (Earth.PoreHi (knE b s o m)))) : Int))) = true)
           (.req (List.length (Line.Knots (Earth.PoreHi (knE b s o m))) = List.length (Line.Knots (Earth.PoreHi (knE b s o m))))
           (.req (List.length (Line.Knots (Earth.PoreHi (knE b s o m))) + List.length [Knot.mk (IntKind.wrap IntKind.i64 (Knot.At (kx (Line.Knots (Earth.PoreHi (knE b s o m))) (IntKind.wrap IntKind.i64 ((↑(List.length (Line.Knots (Earth.PoreHi (knE b s o m)))) : Int) - (1 : Int)))) + (5 : Int))) (Knot.V (kx (Line.Knots (Earth.PoreHi (knE b s o m))) (IntKind.wrap IntKind.i64 ((↑(List.length (Line.Knots (Earth.PoreHi (knE b s o m)))) : Int) - (1 : Int)))))] ≤ (1073741824 : Nat))
           (.req (List.length (Line.Knots (Earth.PoreHi (knE b s o m)) ++ [Knot.mk (IntKind.wrap IntKind.i64 (Knot.At (kx (Line.Knots (Earth.PoreHi (knE b s o m))) (IntKind.wrap IntKind.i64 ((↑(List.length (Line.Knots (Earth.PoreHi (knE b s o m)))) : Int) - (1 : Int)))) + (5 : Int))) (Knot.V (kx (Line.Knots (Earth.PoreHi (knE b s o m))) (IntKind.wrap IntKind.i64 ((↑(List.length (Line.Knots (Earth.PoreHi (knE b s o m)))) : Int) - (1 : Int)))))]) = List.length (Line.Knots (Earth.PoreHi (knE b s o m)) ++ [Knot.mk (IntKind.wrap IntKind.i64 (Knot.At (kx (Line.Knots (Earth.PoreHi (knE b s o m))) (IntKind.wrap IntKind.i64 ((↑(List.length (Line.Knots (Earth.PoreHi (knE b s o m)))) : Int) - (1 : Int)))) + (5 : Int))) (Knot.V (kx (Line.Knots (Earth.PoreHi (knE b s o m))) (IntKind.wrap IntKind.i64 ((↑(List.length (Line.Knots (Earth.PoreHi (knE b s o m)))) : Int) - (1 : Int)))))]))
           (.br (above (Line.Knots (Earth.PoreHi (knE b s o m))) (Line.Knots (Earth.PoreHi (knE b s o m)) ++ [Knot.mk (IntKind.wrap IntKind.i64 (Knot.At (kx (Line.Knots (Earth.PoreHi (knE b s o m))) (IntKind.wrap IntKind.i64 ((↑(List.length (Line.Knots (Earth.PoreHi (knE b s o m)))) : Int) - (1 : Int)))) + (5 : Int))) (Knot.V (kx (Line.Knots (Earth.PoreHi (knE b s o m))) (IntKind.wrap IntKind.i64 ((↑(List.length (Line.Knots (Earth.PoreHi (knE b s o m)))) : Int) - (1 : Int)))))]))
            (.req (List.length (Line.Knots (Earth.PoreHi (knE b s o m)) ++ [Knot.mk (IntKind.wrap IntKind.i64 (Knot.At (kx (Line.Knots (Earth.PoreHi (knE b s o m))) (IntKind.wrap IntKind.i64 ((↑(List.length (Line.Knots (Earth.PoreHi (knE b s o m)))) : Int) - (1 : Int)))) + (5 : Int))) (Knot.V (kx (Line.Knots (Earth.PoreHi (knE b s o m))) (IntKind.wrap IntKind.i64 ((↑(List.length (Line.Knots (Earth.PoreHi (knE b s o m)))) : Int) - (1 : Int)))))]) = List.length (Line.Knots (Earth.PoreHi (knE b s o m)) ++ [Knot.mk (IntKind.wrap IntKind.i64 (Knot.At (kx (Line.Knots (Earth.PoreHi (knE b s o m))) (IntKind.wrap IntKind.i64 ((↑(List.length (Line.Knots (Earth.PoreHi (knE b s o m)))) : Int) - (1 : Int)))) + (5 : Int))) (Knot.V (kx (Line.Knots (Earth.PoreHi (knE b s o m))) (IntKind.wrap IntKind.i64 ((↑(List.length (Line.Knots (Earth.PoreHi (knE b s o m)))) : Int) - (1 : Int)))))]))
            (.br (above (Line.Knots (Earth.PoreHi (knE b s o m)) ++ [Knot.mk (IntKind.wrap IntKind.i64 (Knot.At (kx (Line.Knots (Earth.PoreHi (knE b s o m))) (IntKind.wrap IntKind.i64 ((↑(List.length (Line.Knots (Earth.PoreHi (knE b s o m)))) : Int) - (1 : Int)))) + (5 : Int))) (Knot.V (kx (Line.Knots (Earth.PoreHi (knE b s o m))) (IntKind.wrap IntKind.i64 ((↑(List.length (Line.Knots (Earth.PoreHi (knE b s o m)))) : Int) - (1 : Int)))))]) (Line.Knots (Earth.PoreHi (knE b s o m))))
             (.leaf (.bool (true)))
             (.leaf (.bool (false)))))
            (.leaf (.bool (false))))))))))
          (.req (List.length (Line.Knots (Earth.PoreHi (knE b s o m))) ≤ (1000 : Nat))
          (.req ((decide ((0 : Int) ≤ IntKind.wrap IntKind.i64 ((↑(List.length (Line.Knots (Earth.PoreHi (knE b s o m)))) : Int) - (1 : Int))) && decide (IntKind.wrap IntKind.i64 ((↑(List.length (Line.Knots (Earth.PoreHi (knE b s o m)))) : Int) - (1 : Int)) < (↑(List.length (Line.Knots (Earth.PoreHi (knE b s o m)))) : Int))) = true)
          (.req (List.length (Line.Knots (Earth.PoreHi (knE b s o m))) = List.length (Line.Knots (Earth.PoreHi (knE b s o m))))
          (.req (List.length (Line.Knots (Earth.PoreHi (knE b s o m))) + List.length [Knot.mk (IntKind.wrap IntKind.i64 (Knot.At (kx (Line.Knots (Earth.PoreHi (knE b s o m))) (IntKind.wrap IntKind.i64 ((↑(List.length (Line.Knots (Earth.PoreHi (knE b s o m)))) : Int) - (1 : Int)))) + (5 : Int))) (Knot.V (kx (Line.Knots (Earth.PoreHi (knE b s o m))) (IntKind.wrap IntKind.i64 ((↑(List.length (Line.Knots (Earth.PoreHi (knE b s o m)))) : Int) - (1 : Int)))))] ≤ (1073741824 : Nat))
          (.req (List.length (Line.Knots (Earth.PoreHi (knE b s o m)) ++ [Knot.mk (IntKind.wrap IntKind.i64 (Knot.At (kx (Line.Knots (Earth.PoreHi (knE b s o m))) (IntKind.wrap IntKind.i64 ((↑(List.length (Line.Knots (Earth.PoreHi (knE b s o m)))) : Int) - (1 : Int)))) + (5 : Int))) (Knot.V (kx (Line.Knots (Earth.PoreHi (knE b s o m))) (IntKind.wrap IntKind.i64 ((↑(List.length (Line.Knots (Earth.PoreHi (knE b s o m)))) : Int) - (1 : Int)))))]) = List.length (Line.Knots (Earth.PoreHi (knE b s o m)) ++ [Knot.mk (IntKind.wrap IntKind.i64 (Knot.At (kx (Line.Knots (Earth.PoreHi (knE b s o m))) (IntKind.wrap IntKind.i64 ((↑(List.length (Line.Knots (Earth.PoreHi (knE b s o m)))) : Int) - (1 : Int)))) + (5 : Int))) (Knot.V (kx (Line.Knots (Earth.PoreHi (knE b s o m))) (IntKind.wrap IntKind.i64 ((↑(List.length (Line.Knots (Earth.PoreHi (knE b s o m)))) : Int) - (1 : Int)))))]))
          (.br (above (Line.Knots (Earth.PoreHi (knE b s o m))) (Line.Knots (Earth.PoreHi (knE b s o m)) ++ [Knot.mk (IntKind.wrap IntKind.i64 (Knot.At (kx (Line.Knots (Earth.PoreHi (knE b s o m))) (IntKind.wrap IntKind.i64 ((↑(List.length (Line.Knots (Earth.PoreHi (knE b s o m)))) : Int) - (1 : Int)))) + (5 : Int))) (Knot.V (kx (Line.Knots (Earth.PoreHi (knE b s o m))) (IntKind.wrap IntKind.i64 ((↑(List.length (Line.Knots (Earth.PoreHi (knE b s o m)))) : Int) - (1 : Int)))))]))
           (.req (List.length (Line.Knots (Earth.PoreHi (knE b s o m)) ++ [Knot.mk (IntKind.wrap IntKind.i64 (Knot.At (kx (Line.Knots (Earth.PoreHi (knE b s o m))) (IntKind.wrap IntKind.i64 ((↑(List.length (Line.Knots (Earth.PoreHi (knE b s o m)))) : Int) - (1 : Int)))) + (5 : Int))) (Knot.V (kx (Line.Knots (Earth.PoreHi (knE b s o m))) (IntKind.wrap IntKind.i64 ((↑(List.length (Line.Knots (Earth.PoreHi (knE b s o m)))) : Int) - (1 : Int)))))]) = List.length (Line.Knots (Earth.PoreHi (knE b s o m)) ++ [Knot.mk (IntKind.wrap IntKind.i64 (Knot.At (kx (Line.Knots (Earth.PoreHi (knE b s o m))) (IntKind.wrap IntKind.i64 ((↑(List.length (Line.Knots (Earth.PoreHi (knE b s o m)))) : Int) - (1 : Int)))) + (5 : Int))) (Knot.V (kx (Line.Knots (Earth.PoreHi (knE b s o m))) (IntKind.wrap IntKind.i64 ((↑(List.length (Line.Knots (Earth.PoreHi (knE b s o m)))) : Int) - (1 : Int)))))]))
           (.br (above (Line.Knots (Earth.PoreHi (knE b s o m)) ++ [Knot.mk (IntKind.wrap IntKind.i64 (Knot.At (kx (Line.Knots (Earth.PoreHi (knE b s o m))) (IntKind.wrap IntKind.i64 ((↑(List.length (Line.Knots (Earth.PoreHi (knE b s o m)))) : Int) - (1 : Int)))) + (5 : Int))) (Knot.V (kx (Line.Knots (Earth.PoreHi (knE b s o m))) (IntKind.wrap IntKind.i64 ((↑(List.length (Line.Knots (Earth.PoreHi (knE b s o m)))) : Int) - (1 : Int)))))]) (Line.Knots (Earth.PoreHi (knE b s o m))))
            (.leaf (.bool (true)))
            (.leaf (.bool (false)))))
           (.leaf (.bool (false))))))))))
         (.req (List.length (Line.Knots (Earth.PoreHi (knE b s o m))) ≤ (1000 : Nat))
         (.req ((decide ((0 : Int) ≤ IntKind.wrap IntKind.i64 ((↑(List.length (Line.Knots (Earth.PoreHi (knE b s o m)))) : Int) - (1 : Int))) && decide (IntKind.wrap IntKind.i64 ((↑(List.length (Line.Knots (Earth.PoreHi (knE b s o m)))) : Int) - (1 : Int)) < (↑(List.length (Line.Knots (Earth.PoreHi (knE b s o m)))) : Int))) = true)
         (.req (List.length (Line.Knots (Earth.PoreHi (knE b s o m))) = List.length (Line.Knots (Earth.PoreHi (knE b s o m))))
         (.req (List.length (Line.Knots (Earth.PoreHi (knE b s o m))) + List.length [Knot.mk (IntKind.wrap IntKind.i64 (Knot.At (kx (Line.Knots (Earth.PoreHi (knE b s o m))) (IntKind.wrap IntKind.i64 ((↑(List.length (Line.Knots (Earth.PoreHi (knE b s o m)))) : Int) - (1 : Int)))) + (5 : Int))) (Knot.V (kx (Line.Knots (Earth.PoreHi (knE b s o m))) (IntKind.wrap IntKind.i64 ((↑(List.length (Line.Knots (Earth.PoreHi (knE b s o m)))) : Int) - (1 : Int)))))] ≤ (1073741824 : Nat))
         (.req (List.length (Line.Knots (Earth.PoreHi (knE b s o m)) ++ [Knot.mk (IntKind.wrap IntKind.i64 (Knot.At (kx (Line.Knots (Earth.PoreHi (knE b s o m))) (IntKind.wrap IntKind.i64 ((↑(List.length (Line.Knots (Earth.PoreHi (knE b s o m)))) : Int) - (1 : Int)))) + (5 : Int))) (Knot.V (kx (Line.Knots (Earth.PoreHi (knE b s o m))) (IntKind.wrap IntKind.i64 ((↑(List.length (Line.Knots (Earth.PoreHi (knE b s o m)))) : Int) - (1 : Int)))))]) = List.length (Line.Knots (Earth.PoreHi (knE b s o m)) ++ [Knot.mk (IntKind.wrap IntKind.i64 (Knot.At (kx (Line.Knots (Earth.PoreHi (knE b s o m))) (IntKind.wrap IntKind.i64 ((↑(List.length (Line.Knots (Earth.PoreHi (knE b s o m)))) : Int) - (1 : Int)))) + (5 : Int))) (Knot.V (kx (Line.Knots (Earth.PoreHi (knE b s o m))) (IntKind.wrap IntKind.i64 ((↑(List.length (Line.Knots (Earth.PoreHi (knE b s o m)))) : Int) - (1 : Int)))))]))
         (.br (above (Line.Knots (Earth.PoreHi (knE b s o m))) (Line.Knots (Earth.PoreHi (knE b s o m)) ++ [Knot.mk (IntKind.wrap IntKind.i64 (Knot.At (kx (Line.Knots (Earth.PoreHi (knE b s o m))) (IntKind.wrap IntKind.i64 ((↑(List.length (Line.Knots (Earth.PoreHi (knE b s o m)))) : Int) - (1 : Int)))) + (5 : Int))) (Knot.V (kx (Line.Knots (Earth.PoreHi (knE b s o m))) (IntKind.wrap IntKind.i64 ((↑(List.length (Line.Knots (Earth.PoreHi (knE b s o m)))) : Int) - (1 : Int)))))]))
          (.req (List.length (Line.Knots (Earth.PoreHi (knE b s o m)) ++ [Knot.mk (IntKind.wrap IntKind.i64 (Knot.At (kx (Line.Knots (Earth.PoreHi (knE b s o m))) (IntKind.wrap IntKind.i64 ((↑(List.length (Line.Knots (Earth.PoreHi (knE b s o m)))) : Int) - (1 : Int)))) + (5 : Int))) (Knot.V (kx (Line.Knots (Earth.PoreHi (knE b s o m))) (IntKind.wrap IntKind.i64 ((↑(List.length (Line.Knots (Earth.PoreHi (knE b s o m)))) : Int) - (1 : Int)))))]) = List.length (Line.Knots (Earth.PoreHi (knE b s o m)) ++ [Knot.mk (IntKind.wrap IntKind.i64 (Knot.At (kx (Line.Knots (Earth.PoreHi (knE b s o m))) (IntKind.wrap IntKind.i64 ((↑(List.length (Line.Knots (Earth.PoreHi (knE b s o m)))) : Int) - (1 : Int)))) + (5 : Int))) (Knot.V (kx (Line.Knots (Earth.PoreHi (knE b s o m))) (IntKind.wrap IntKind.i64 ((↑(List.length (Line.Knots (Earth.PoreHi (knE b s o m)))) : Int) - (1 : Int)))))]))
          (.br (above (Line.Knots (Earth.PoreHi (knE b s o m)) ++ [Knot.mk (IntKind.wrap IntKind.i64 (Knot.At (kx (Line.Knots (Earth.PoreHi (knE b s o m))) (IntKind.wrap IntKind.i64 ((↑(List.length (Line.Knots (Earth.PoreHi (knE b s o m)))) : Int) - (1 : Int)))) + (5 : Int))) (Knot.V (kx (Line.Knots (Earth.PoreHi (knE b s o m))) (IntKind.wrap IntKind.i64 ((↑(List.length (Line.Knots (Earth.PoreHi (knE b s o m)))) : Int) - (1 : Int)))))]) (Line.Knots (Earth.PoreHi (knE b s o m))))
           (.leaf (.bool (true)))
           (.leaf (.bool (false)))))
          (.leaf (.bool (false))))))))))))
      (.br (above (Line.Knots (Earth.PoreHi (knE b s o m))) (Line.Knots (Earth.PoreLo (knE b' s' o' m'))))
       (.br (above (Line.Knots (Earth.PoreLo (knE b' s' o' m'))) (Line.Knots (Earth.PoreHi (knE b s o m))))
        (.br (!(atLo (Line.Knots (Earth.PoreHi (knE b s o m))) (z % (600000 : Int)) == atLo (Line.Knots (Earth.PoreLo (knE b' s' o' m'))) (z % (600000 : Int)) && (atHi (Line.Knots (Earth.PoreHi (knE b s o m))) (z % (600000 : Int)) == atHi (Line.Knots (Earth.PoreLo (knE b' s' o' m'))) (z % (600000 : Int)) && true)))
         (.leaf (.bool (false)))
         (.req (List.length (Line.Knots (Earth.PoreHi (knE b s o m))) ≤ (1000 : Nat))
         (.req ((decide ((0 : Int) ≤ IntKind.wrap IntKind.i64 ((↑(List.length (Line.Knots (Earth.PoreHi (knE b s o m)))) : Int) - (1 : Int))) && decide (IntKind.wrap IntKind.i64 ((↑(List.length (Line.Knots (Earth.PoreHi (knE b s o m)))) : Int) - (1 : Int)) < (↑(List.length (Line.Knots (Earth.PoreHi (knE b s o m)))) : Int))) = true)
         (.req (List.length (Line.Knots (Earth.PoreHi (knE b s o m))) = List.length (Line.Knots (Earth.PoreHi (knE b s o m))))
         (.req (List.length (Line.Knots (Earth.PoreHi (knE b s o m))) + List.length [Knot.mk (IntKind.wrap IntKind.i64 (Knot.At (kx (Line.Knots (Earth.PoreHi (knE b s o m))) (IntKind.wrap IntKind.i64 ((↑(List.length (Line.Knots (Earth.PoreHi (knE b s o m)))) : Int) - (1 : Int)))) + (5 : Int))) (Knot.V (kx (Line.Knots (Earth.PoreHi (knE b s o m))) (IntKind.wrap IntKind.i64 ((↑(List.length (Line.Knots (Earth.PoreHi (knE b s o m)))) : Int) - (1 : Int)))))] ≤ (1073741824 : Nat))
         (.req (List.length (Line.Knots (Earth.PoreHi (knE b s o m)) ++ [Knot.mk (IntKind.wrap IntKind.i64 (Knot.At (kx (Line.Knots (Earth.PoreHi (knE b s o m))) (IntKind.wrap IntKind.i64 ((↑(List.length (Line.Knots (Earth.PoreHi (knE b s o m)))) : Int) - (1 : Int)))) + (5 : Int))) (Knot.V (kx (Line.Knots (Earth.PoreHi (knE b s o m))) (IntKind.wrap IntKind.i64 ((↑(List.length (Line.Knots (Earth.PoreHi (knE b s o m)))) : Int) - (1 : Int)))))]) = List.length (Line.Knots (Earth.PoreHi (knE b s o m)) ++ [Knot.mk (IntKind.wrap IntKind.i64 (Knot.At (kx (Line.Knots (Earth.PoreHi (knE b s o m))) (IntKind.wrap IntKind.i64 ((↑(List.length (Line.Knots (Earth.PoreHi (knE b s o m)))) : Int) - (1 : Int)))) + (5 : Int))) (Knot.V (kx (Line.Knots (Earth.PoreHi (knE b s o m))) (IntKind.wrap IntKind.i64 ((↑(List.length (Line.Knots (Earth.PoreHi (knE b s o m)))) : Int) - (1 : Int)))))]))
         (.br (above (Line.Knots (Earth.PoreHi (knE b s o m))) (Line.Knots (Earth.PoreHi (knE b s o m)) ++ [Knot.mk (IntKind.wrap IntKind.i64 (Knot.At (kx (Line.Knots (Earth.PoreHi (knE b s o m))) (IntKind.wrap IntKind.i64 ((↑(List.length (Line.Knots (Earth.PoreHi (knE b s o m)))) : Int) - (1 : Int)))) + (5 : Int))) (Knot.V (kx (Line.Knots (Earth.PoreHi (knE b s o m))) (IntKind.wrap IntKind.i64 ((↑(List.length (Line.Knots (Earth.PoreHi (knE b s o m)))) : Int) - (1 : Int)))))]))
          (.req (List.length (Line.Knots (Earth.PoreHi (knE b s o m)) ++ [Knot.mk (IntKind.wrap IntKind.i64 (Knot.At (kx (Line.Knots (Earth.PoreHi (knE b s o m))) (IntKind.wrap IntKind.i64 ((↑(List.length (Line.Knots (Earth.PoreHi (knE b s o m)))) : Int) - (1 : Int)))) + (5 : Int))) (Knot.V (kx (Line.Knots (Earth.PoreHi (knE b s o m))) (IntKind.wrap IntKind.i64 ((↑(List.length (Line.Knots (Earth.PoreHi (knE b s o m)))) : Int) - (1 : Int)))))]) = List.length (Line.Knots (Earth.PoreHi (knE b s o m)) ++ [Knot.mk (IntKind.wrap IntKind.i64 (Knot.At (kx (Line.Knots (Earth.PoreHi (knE b s o m))) (IntKind.wrap IntKind.i64 ((↑(List.length (Line.Knots (Earth.PoreHi (knE b s o m)))) : Int) - (1 : Int)))) + (5 : Int))) (Knot.V (kx (Line.Knots (Earth.PoreHi (knE b s o m))) (IntKind.wrap IntKind.i64 ((↑(List.length (Line.Knots (Earth.PoreHi (knE b s o m)))) : Int) - (1 : Int)))))]))
          (.br (above (Line.Knots (Earth.PoreHi (knE b s o m)) ++ [Knot.mk (IntKind.wrap IntKind.i64 (Knot.At (kx (Line.Knots (Earth.PoreHi (knE b s o m))) (IntKind.wrap IntKind.i64 ((↑(List.length (Line.Knots (Earth.PoreHi (knE b s o m)))) : Int) - (1 : Int)))) + (5 : Int))) (Knot.V (kx (Line.Knots (Earth.PoreHi (knE b s o m))) (IntKind.wrap IntKind.i64 ((↑(List.length (Line.Knots (Earth.PoreHi (knE b s o m)))) : Int) - (1 : Int)))))]) (Line.Knots (Earth.PoreHi (knE b s o m))))
           (.leaf (.bool (true)))
           (.leaf (.bool (false)))))
          (.leaf (.bool (false))))))))))
        (.req (List.length (Line.Knots (Earth.PoreHi (knE b s o m))) ≤ (1000 : Nat))
        (.req ((decide ((0 : Int) ≤ IntKind.wrap IntKind.i64 ((↑(List.length (Line.Knots (Earth.PoreHi (knE b s o m)))) : Int) - (1 : Int))) && decide (IntKind.wrap IntKind.i64 ((↑(List.length (Line.Knots (Earth.PoreHi (knE b s o m)))) : Int) - (1 : Int)) < (↑(List.length (Line.Knots (Earth.PoreHi (knE b s o m)))) : Int))) = true)
        (.req (List.length (Line.Knots (Earth.PoreHi (knE b s o m))) = List.length (Line.Knots (Earth.PoreHi (knE b s o m))))
        (.req (List.length (Line.Knots (Earth.PoreHi (knE b s o m))) + List.length [Knot.mk (IntKind.wrap IntKind.i64 (Knot.At (kx (Line.Knots (Earth.PoreHi (knE b s o m))) (IntKind.wrap IntKind.i64 ((↑(List.length (Line.Knots (Earth.PoreHi (knE b s o m)))) : Int) - (1 : Int)))) + (5 : Int))) (Knot.V (kx (Line.Knots (Earth.PoreHi (knE b s o m))) (IntKind.wrap IntKind.i64 ((↑(List.length (Line.Knots (Earth.PoreHi (knE b s o m)))) : Int) - (1 : Int)))))] ≤ (1073741824 : Nat))
        (.req (List.length (Line.Knots (Earth.PoreHi (knE b s o m)) ++ [Knot.mk (IntKind.wrap IntKind.i64 (Knot.At (kx (Line.Knots (Earth.PoreHi (knE b s o m))) (IntKind.wrap IntKind.i64 ((↑(List.length (Line.Knots (Earth.PoreHi (knE b s o m)))) : Int) - (1 : Int)))) + (5 : Int))) (Knot.V (kx (Line.Knots (Earth.PoreHi (knE b s o m))) (IntKind.wrap IntKind.i64 ((↑(List.length (Line.Knots (Earth.PoreHi (knE b s o m)))) : Int) - (1 : Int)))))]) = List.length (Line.Knots (Earth.PoreHi (knE b s o m)) ++ [Knot.mk (IntKind.wrap IntKind.i64 (Knot.At (kx (Line.Knots (Earth.PoreHi (knE b s o m))) (IntKind.wrap IntKind.i64 ((↑(List.length (Line.Knots (Earth.PoreHi (knE b s o m)))) : Int) - (1 : Int)))) + (5 : Int))) (Knot.V (kx (Line.Knots (Earth.PoreHi (knE b s o m))) (IntKind.wrap IntKind.i64 ((↑(List.length (Line.Knots (Earth.PoreHi (knE b s o m)))) : Int) - (1 : Int)))))]))
        (.br (above (Line.Knots (Earth.PoreHi (knE b s o m))) (Line.Knots (Earth.PoreHi (knE b s o m)) ++ [Knot.mk (IntKind.wrap IntKind.i64 (Knot.At (kx (Line.Knots (Earth.PoreHi (knE b s o m))) (IntKind.wrap IntKind.i64 ((↑(List.length (Line.Knots (Earth.PoreHi (knE b s o m)))) : Int) - (1 : Int)))) + (5 : Int))) (Knot.V (kx (Line.Knots (Earth.PoreHi (knE b s o m))) (IntKind.wrap IntKind.i64 ((↑(List.length (Line.Knots (Earth.PoreHi (knE b s o m)))) : Int) - (1 : Int)))))]))
         (.req (List.length (Line.Knots (Earth.PoreHi (knE b s o m)) ++ [Knot.mk (IntKind.wrap IntKind.i64 (Knot.At (kx (Line.Knots (Earth.PoreHi (knE b s o m))) (IntKind.wrap IntKind.i64 ((↑(List.length (Line.Knots (Earth.PoreHi (knE b s o m)))) : Int) - (1 : Int)))) + (5 : Int))) (Knot.V (kx (Line.Knots (Earth.PoreHi (knE b s o m))) (IntKind.wrap IntKind.i64 ((↑(List.length (Line.Knots (Earth.PoreHi (knE b s o m)))) : Int) - (1 : Int)))))]) = List.length (Line.Knots (Earth.PoreHi (knE b s o m)) ++ [Knot.mk (IntKind.wrap IntKind.i64 (Knot.At (kx (Line.Knots (Earth.PoreHi (knE b s o m))) (IntKind.wrap IntKind.i64 ((↑(List.length (Line.Knots (Earth.PoreHi (knE b s o m)))) : Int) - (1 : Int)))) + (5 : Int))) (Knot.V (kx (Line.Knots (Earth.PoreHi (knE b s o m))) (IntKind.wrap IntKind.i64 ((↑(List.length (Line.Knots (Earth.PoreHi (knE b s o m)))) : Int) - (1 : Int)))))]))
         (.br (above (Line.Knots (Earth.PoreHi (knE b s o m)) ++ [Knot.mk (IntKind.wrap IntKind.i64 (Knot.At (kx (Line.Knots (Earth.PoreHi (knE b s o m))) (IntKind.wrap IntKind.i64 ((↑(List.length (Line.Knots (Earth.PoreHi (knE b s o m)))) : Int) - (1 : Int)))) + (5 : Int))) (Knot.V (kx (Line.Knots (Earth.PoreHi (knE b s o m))) (IntKind.wrap IntKind.i64 ((↑(List.length (Line.Knots (Earth.PoreHi (knE b s o m)))) : Int) - (1 : Int)))))]) (Line.Knots (Earth.PoreHi (knE b s o m))))
          (.leaf (.bool (true)))
          (.leaf (.bool (false)))))
         (.leaf (.bool (false))))))))))
       (.req (List.length (Line.Knots (Earth.PoreHi (knE b s o m))) ≤ (1000 : Nat))
       (.req ((decide ((0 : Int) ≤ IntKind.wrap IntKind.i64 ((↑(List.length (Line.Knots (Earth.PoreHi (knE b s o m)))) : Int) - (1 : Int))) && decide (IntKind.wrap IntKind.i64 ((↑(List.length (Line.Knots (Earth.PoreHi (knE b s o m)))) : Int) - (1 : Int)) < (↑(List.length (Line.Knots (Earth.PoreHi (knE b s o m)))) : Int))) = true)
       (.req (List.length (Line.Knots (Earth.PoreHi (knE b s o m))) = List.length (Line.Knots (Earth.PoreHi (knE b s o m))))
       (.req (List.length (Line.Knots (Earth.PoreHi (knE b s o m))) + List.length [Knot.mk (IntKind.wrap IntKind.i64 (Knot.At (kx (Line.Knots (Earth.PoreHi (knE b s o m))) (IntKind.wrap IntKind.i64 ((↑(List.length (Line.Knots (Earth.PoreHi (knE b s o m)))) : Int) - (1 : Int)))) + (5 : Int))) (Knot.V (kx (Line.Knots (Earth.PoreHi (knE b s o m))) (IntKind.wrap IntKind.i64 ((↑(List.length (Line.Knots (Earth.PoreHi (knE b s o m)))) : Int) - (1 : Int)))))] ≤ (1073741824 : Nat))
       (.req (List.length (Line.Knots (Earth.PoreHi (knE b s o m)) ++ [Knot.mk (IntKind.wrap IntKind.i64 (Knot.At (kx (Line.Knots (Earth.PoreHi (knE b s o m))) (IntKind.wrap IntKind.i64 ((↑(List.length (Line.Knots (Earth.PoreHi (knE b s o m)))) : Int) - (1 : Int)))) + (5 : Int))) (Knot.V (kx (Line.Knots (Earth.PoreHi (knE b s o m))) (IntKind.wrap IntKind.i64 ((↑(List.length (Line.Knots (Earth.PoreHi (knE b s o m)))) : Int) - (1 : Int)))))]) = List.length (Line.Knots (Earth.PoreHi (knE b s o m)) ++ [Knot.mk (IntKind.wrap IntKind.i64 (Knot.At (kx (Line.Knots (Earth.PoreHi (knE b s o m))) (IntKind.wrap IntKind.i64 ((↑(List.length (Line.Knots (Earth.PoreHi (knE b s o m)))) : Int) - (1 : Int)))) + (5 : Int))) (Knot.V (kx (Line.Knots (Earth.PoreHi (knE b s o m))) (IntKind.wrap IntKind.i64 ((↑(List.length (Line.Knots (Earth.PoreHi (knE b s o m)))) : Int) - (1 : Int)))))]))
       (.br (above (Line.Knots (Earth.PoreHi (knE b s o m))) (Line.Knots (Earth.PoreHi (knE b s o m)) ++ [Knot.mk (IntKind.wrap IntKind.i64 (Knot.At (kx (Line.Knots (Earth.PoreHi (knE b s o m))) (IntKind.wrap IntKind.i64 ((↑(List.length (Line.Knots (Earth.PoreHi (knE b s o m)))) : Int) - (1 : Int)))) + (5 : Int))) (Knot.V (kx (Line.Knots (Earth.PoreHi (knE b s o m))) (IntKind.wrap IntKind.i64 ((↑(List.length (Line.Knots (Earth.PoreHi (knE b s o m)))) : Int) - (1 : Int)))))]))
        (.req (List.length (Line.Knots (Earth.PoreHi (knE b s o m)) ++ [Knot.mk (IntKind.wrap IntKind.i64 (Knot.At (kx (Line.Knots (Earth.PoreHi (knE b s o m))) (IntKind.wrap IntKind.i64 ((↑(List.length (Line.Knots (Earth.PoreHi (knE b s o m)))) : Int) - (1 : Int)))) + (5 : Int))) (Knot.V (kx (Line.Knots (Earth.PoreHi (knE b s o m))) (IntKind.wrap IntKind.i64 ((↑(List.length (Line.Knots (Earth.PoreHi (knE b s o m)))) : Int) - (1 : Int)))))]) = List.length (Line.Knots (Earth.PoreHi (knE b s o m)) ++ [Knot.mk (IntKind.wrap IntKind.i64 (Knot.At (kx (Line.Knots (Earth.PoreHi (knE b s o m))) (IntKind.wrap IntKind.i64 ((↑(List.length (Line.Knots (Earth.PoreHi (knE b s o m)))) : Int) - (1 : Int)))) + (5 : Int))) (Knot.V (kx (Line.Knots (Earth.PoreHi (knE b s o m))) (IntKind.wrap IntKind.i64 ((↑(List.length (Line.Knots (Earth.PoreHi (knE b s o m)))) : Int) - (1 : Int)))))]))
        (.br (above (Line.Knots (Earth.PoreHi (knE b s o m)) ++ [Knot.mk (IntKind.wrap IntKind.i64 (Knot.At (kx (Line.Knots (Earth.PoreHi (knE b s o m))) (IntKind.wrap IntKind.i64 ((↑(List.length (Line.Knots (Earth.PoreHi (knE b s o m)))) : Int) - (1 : Int)))) + (5 : Int))) (Knot.V (kx (Line.Knots (Earth.PoreHi (knE b s o m))) (IntKind.wrap IntKind.i64 ((↑(List.length (Line.Knots (Earth.PoreHi (knE b s o m)))) : Int) - (1 : Int)))))]) (Line.Knots (Earth.PoreHi (knE b s o m))))
         (.leaf (.bool (true)))
         (.leaf (.bool (false)))))
        (.leaf (.bool (false)))))))))))))
    (.req (mPre z (600000 : Int))
    (.br (above (Line.Knots (Earth.PoreHi (knE b s o m))) (Line.Knots (Earth.PoreLo (knE b' s' o' m'))))
     (.br (decide (atLo (Line.Knots (Earth.PoreHi (knE b s o m))) (z % (600000 : Int)) < atLo (Line.Knots (Earth.PoreLo (knE b' s' o' m'))) (z % (600000 : Int))))
      (.leaf (.bool (false)))
      (.br (decide (atHi (Line.Knots (Earth.PoreHi (knE b s o m))) (z % (600000 : Int)) < atHi (Line.Knots (Earth.PoreLo (knE b' s' o' m'))) (z % (600000 : Int))))
       (.leaf (.bool (false)))
       (.br (above (Line.Knots (Earth.PoreHi (knE b s o m))) (Line.Knots (Earth.PoreLo (knE b' s' o' m'))))
        (.br (above (Line.Knots (Earth.PoreLo (knE b' s' o' m'))) (Line.Knots (Earth.PoreHi (knE b s o m))))
         (.br (!(atLo (Line.Knots (Earth.PoreHi (knE b s o m))) (z % (600000 : Int)) == atLo (Line.Knots (Earth.PoreLo (knE b' s' o' m'))) (z % (600000 : Int)) && (atHi (Line.Knots (Earth.PoreHi (knE b s o m))) (z % (600000 : Int)) == atHi (Line.Knots (Earth.PoreLo (knE b' s' o' m'))) (z % (600000 : Int)) && true)))
          (.leaf (.bool (false)))
          (.req (List.length (Line.Knots (Earth.PoreHi (knE b s o m))) ≤ (1000 : Nat))
          (.req ((decide ((0 : Int) ≤ IntKind.wrap IntKind.i64 ((↑(List.length (Line.Knots (Earth.PoreHi (knE b s o m)))) : Int) - (1 : Int))) && decide (IntKind.wrap IntKind.i64 ((↑(List.length (Line.Knots (Earth.PoreHi (knE b s o m)))) : Int) - (1 : Int)) < (↑(List.length (Line.Knots (Earth.PoreHi (knE b s o m)))) : Int))) = true)
          (.req (List.length (Line.Knots (Earth.PoreHi (knE b s o m))) = List.length (Line.Knots (Earth.PoreHi (knE b s o m))))
          (.req (List.length (Line.Knots (Earth.PoreHi (knE b s o m))) + List.length [Knot.mk (IntKind.wrap IntKind.i64 (Knot.At (kx (Line.Knots (Earth.PoreHi (knE b s o m))) (IntKind.wrap IntKind.i64 ((↑(List.length (Line.Knots (Earth.PoreHi (knE b s o m)))) : Int) - (1 : Int)))) + (5 : Int))) (Knot.V (kx (Line.Knots (Earth.PoreHi (knE b s o m))) (IntKind.wrap IntKind.i64 ((↑(List.length (Line.Knots (Earth.PoreHi (knE b s o m)))) : Int) - (1 : Int)))))] ≤ (1073741824 : Nat))
          (.req (List.length (Line.Knots (Earth.PoreHi (knE b s o m)) ++ [Knot.mk (IntKind.wrap IntKind.i64 (Knot.At (kx (Line.Knots (Earth.PoreHi (knE b s o m))) (IntKind.wrap IntKind.i64 ((↑(List.length (Line.Knots (Earth.PoreHi (knE b s o m)))) : Int) - (1 : Int)))) + (5 : Int))) (Knot.V (kx (Line.Knots (Earth.PoreHi (knE b s o m))) (IntKind.wrap IntKind.i64 ((↑(List.length (Line.Knots (Earth.PoreHi (knE b s o m)))) : Int) - (1 : Int)))))]) = List.length (Line.Knots (Earth.PoreHi (knE b s o m)) ++ [Knot.mk (IntKind.wrap IntKind.i64 (Knot.At (kx (Line.Knots (Earth.PoreHi (knE b s o m))) (IntKind.wrap IntKind.i64 ((↑(List.length (Line.Knots (Earth.PoreHi (knE b s o m)))) : Int) - (1 : Int)))) + (5 : Int))) (Knot.V (kx (Line.Knots (Earth.PoreHi (knE b s o m))) (IntKind.wrap IntKind.i64 ((↑(List.length (Line.Knots (Earth.PoreHi (knE b s o m)))) : Int) - (1 : Int)))))]))
          (.br (above (Line.Knots (Earth.PoreHi (knE b s o m))) (Line.Knots (Earth.PoreHi (knE b s o m)) ++ [Knot.mk (IntKind.wrap IntKind.i64 (Knot.At (kx (Line.Knots (Earth.PoreHi (knE b s o m))) (IntKind.wrap IntKind.i64 ((↑(List.length (Line.Knots (Earth.PoreHi (knE b s o m)))) : Int) - (1 : Int)))) + (5 : Int))) (Knot.V (kx (Line.Knots (Earth.PoreHi (knE b s o m))) (IntKind.wrap IntKind.i64 ((↑(List.length (Line.Knots (Earth.PoreHi (knE b s o m)))) : Int) - (1 : Int)))))]))
           (.req (List.length (Line.Knots (Earth.PoreHi (knE b s o m)) ++ [Knot.mk (IntKind.wrap IntKind.i64 (Knot.At (kx (Line.Knots (Earth.PoreHi (knE b s o m))) (IntKind.wrap IntKind.i64 ((↑(List.length (Line.Knots (Earth.PoreHi (knE b s o m)))) : Int) - (1 : Int)))) + (5 : Int))) (Knot.V (kx (Line.Knots (Earth.PoreHi (knE b s o m))) (IntKind.wrap IntKind.i64 ((↑(List.length (Line.Knots (Earth.PoreHi (knE b s o m)))) : Int) - (1 : Int)))))]) = List.length (Line.Knots (Earth.PoreHi (knE b s o m)) ++ [Knot.mk (IntKind.wrap IntKind.i64 (Knot.At (kx (Line.Knots (Earth.PoreHi (knE b s o m))) (IntKind.wrap IntKind.i64 ((↑(List.length (Line.Knots (Earth.PoreHi (knE b s o m)))) : Int) - (1 : Int)))) + (5 : Int))) (Knot.V (kx (Line.Knots (Earth.PoreHi (knE b s o m))) (IntKind.wrap IntKind.i64 ((↑(List.length (Line.Knots (Earth.PoreHi (knE b s o m)))) : Int) - (1 : Int)))))]))
           (.br (above (Line.Knots (Earth.PoreHi (knE b s o m)) ++ [Knot.mk (IntKind.wrap IntKind.i64 (Knot.At (kx (Line.Knots (Earth.PoreHi (knE b s o m))) (IntKind.wrap IntKind.i64 ((↑(List.length (Line.Knots (Earth.PoreHi (knE b s o m)))) : Int) - (1 : Int)))) + (5 : Int))) (Knot.V (kx (Line.Knots (Earth.PoreHi (knE b s o m))) (IntKind.wrap IntKind.i64 ((↑(List.length (Line.Knots (Earth.PoreHi (knE b s o m)))) : Int) - (1 : Int)))))]) (Line.Knots (Earth.PoreHi (knE b s o m))))
            (.leaf (.bool (true)))
            (.leaf (.bool (false)))))
           (.leaf (.bool (false))))))))))
         (.req (List.length (Line.Knots (Earth.PoreHi (knE b s o m))) ≤ (1000 : Nat))
         (.req ((decide ((0 : Int) ≤ IntKind.wrap IntKind.i64 ((↑(List.length (Line.Knots (Earth.PoreHi (knE b s o m)))) : Int) - (1 : Int))) && decide (IntKind.wrap IntKind.i64 ((↑(List.length (Line.Knots (Earth.PoreHi (knE b s o m)))) : Int) - (1 : Int)) < (↑(List.length (Line.Knots (Earth.PoreHi (knE b s o m)))) : Int))) = true)
         (.req (List.length (Line.Knots (Earth.PoreHi (knE b s o m))) = List.length (Line.Knots (Earth.PoreHi (knE b s o m))))
         (.req (List.length (Line.Knots (Earth.PoreHi (knE b s o m))) + List.length [Knot.mk (IntKind.wrap IntKind.i64 (Knot.At (kx (Line.Knots (Earth.PoreHi (knE b s o m))) (IntKind.wrap IntKind.i64 ((↑(List.length (Line.Knots (Earth.PoreHi (knE b s o m)))) : Int) - (1 : Int)))) + (5 : Int))) (Knot.V (kx (Line.Knots (Earth.PoreHi (knE b s o m))) (IntKind.wrap IntKind.i64 ((↑(List.length (Line.Knots (Earth.PoreHi (knE b s o m)))) : Int) - (1 : Int)))))] ≤ (1073741824 : Nat))
         (.req (List.length (Line.Knots (Earth.PoreHi (knE b s o m)) ++ [Knot.mk (IntKind.wrap IntKind.i64 (Knot.At (kx (Line.Knots (Earth.PoreHi (knE b s o m))) (IntKind.wrap IntKind.i64 ((↑(List.length (Line.Knots (Earth.PoreHi (knE b s o m)))) : Int) - (1 : Int)))) + (5 : Int))) (Knot.V (kx (Line.Knots (Earth.PoreHi (knE b s o m))) (IntKind.wrap IntKind.i64 ((↑(List.length (Line.Knots (Earth.PoreHi (knE b s o m)))) : Int) - (1 : Int)))))]) = List.length (Line.Knots (Earth.PoreHi (knE b s o m)) ++ [Knot.mk (IntKind.wrap IntKind.i64 (Knot.At (kx (Line.Knots (Earth.PoreHi (knE b s o m))) (IntKind.wrap IntKind.i64 ((↑(List.length (Line.Knots (Earth.PoreHi (knE b s o m)))) : Int) - (1 : Int)))) + (5 : Int))) (Knot.V (kx (Line.Knots (Earth.PoreHi (knE b s o m))) (IntKind.wrap IntKind.i64 ((↑(List.length (Line.Knots (Earth.PoreHi (knE b s o m)))) : Int) - (1 : Int)))))]))
         (.br (above (Line.Knots (Earth.PoreHi (knE b s o m))) (Line.Knots (Earth.PoreHi (knE b s o m)) ++ [Knot.mk (IntKind.wrap IntKind.i64 (Knot.At (kx (Line.Knots (Earth.PoreHi (knE b s o m))) (IntKind.wrap IntKind.i64 ((↑(List.length (Line.Knots (Earth.PoreHi (knE b s o m)))) : Int) - (1 : Int)))) + (5 : Int))) (Knot.V (kx (Line.Knots (Earth.PoreHi (knE b s o m))) (IntKind.wrap IntKind.i64 ((↑(List.length (Line.Knots (Earth.PoreHi (knE b s o m)))) : Int) - (1 : Int)))))]))
          (.req (List.length (Line.Knots (Earth.PoreHi (knE b s o m)) ++ [Knot.mk (IntKind.wrap IntKind.i64 (Knot.At (kx (Line.Knots (Earth.PoreHi (knE b s o m))) (IntKind.wrap IntKind.i64 ((↑(List.length (Line.Knots (Earth.PoreHi (knE b s o m)))) : Int) - (1 : Int)))) + (5 : Int))) (Knot.V (kx (Line.Knots (Earth.PoreHi (knE b s o m))) (IntKind.wrap IntKind.i64 ((↑(List.length (Line.Knots (Earth.PoreHi (knE b s o m)))) : Int) - (1 : Int)))))]) = List.length (Line.Knots (Earth.PoreHi (knE b s o m)) ++ [Knot.mk (IntKind.wrap IntKind.i64 (Knot.At (kx (Line.Knots (Earth.PoreHi (knE b s o m))) (IntKind.wrap IntKind.i64 ((↑(List.length (Line.Knots (Earth.PoreHi (knE b s o m)))) : Int) - (1 : Int)))) + (5 : Int))) (Knot.V (kx (Line.Knots (Earth.PoreHi (knE b s o m))) (IntKind.wrap IntKind.i64 ((↑(List.length (Line.Knots (Earth.PoreHi (knE b s o m)))) : Int) - (1 : Int)))))]))
          (.br (above (Line.Knots (Earth.PoreHi (knE b s o m)) ++ [Knot.mk (IntKind.wrap IntKind.i64 (Knot.At (kx (Line.Knots (Earth.PoreHi (knE b s o m))) (IntKind.wrap IntKind.i64 ((↑(List.length (Line.Knots (Earth.PoreHi (knE b s o m)))) : Int) - (1 : Int)))) + (5 : Int))) (Knot.V (kx (Line.Knots (Earth.PoreHi (knE b s o m))) (IntKind.wrap IntKind.i64 ((↑(List.length (Line.Knots (Earth.PoreHi (knE b s o m)))) : Int) - (1 : Int)))))]) (Line.Knots (Earth.PoreHi (knE b s o m))))
           (.leaf (.bool (true)))
           (.leaf (.bool (false)))))
          (.leaf (.bool (false))))))))))
        (.req (List.length (Line.Knots (Earth.PoreHi (knE b s o m))) ≤ (1000 : Nat))
        (.req ((decide ((0 : Int) ≤ IntKind.wrap IntKind.i64 ((↑(List.length (Line.Knots (Earth.PoreHi (knE b s o m)))) : Int) - (1 : Int))) && decide (IntKind.wrap IntKind.i64 ((↑(List.length (Line.Knots (Earth.PoreHi (knE b s o m)))) : Int) - (1 : Int)) < (↑(List.length (Line.Knots (Earth.PoreHi (knE b s o m)))) : Int))) = true)
        (.req (List.length (Line.Knots (Earth.PoreHi (knE b s o m))) = List.length (Line.Knots (Earth.PoreHi (knE b s o m))))
        (.req (List.length (Line.Knots (Earth.PoreHi (knE b s o m))) + List.length [Knot.mk (IntKind.wrap IntKind.i64 (Knot.At (kx (Line.Knots (Earth.PoreHi (knE b s o m))) (IntKind.wrap IntKind.i64 ((↑(List.length (Line.Knots (Earth.PoreHi (knE b s o m)))) : Int) - (1 : Int)))) + (5 : Int))) (Knot.V (kx (Line.Knots (Earth.PoreHi (knE b s o m))) (IntKind.wrap IntKind.i64 ((↑(List.length (Line.Knots (Earth.PoreHi (knE b s o m)))) : Int) - (1 : Int)))))] ≤ (1073741824 : Nat))
        (.req (List.length (Line.Knots (Earth.PoreHi (knE b s o m)) ++ [Knot.mk (IntKind.wrap IntKind.i64 (Knot.At (kx (Line.Knots (Earth.PoreHi (knE b s o m))) (IntKind.wrap IntKind.i64 ((↑(List.length (Line.Knots (Earth.PoreHi (knE b s o m)))) : Int) - (1 : Int)))) + (5 : Int))) (Knot.V (kx (Line.Knots (Earth.PoreHi (knE b s o m))) (IntKind.wrap IntKind.i64 ((↑(List.length (Line.Knots (Earth.PoreHi (knE b s o m)))) : Int) - (1 : Int)))))]) = List.length (Line.Knots (Earth.PoreHi (knE b s o m)) ++ [Knot.mk (IntKind.wrap IntKind.i64 (Knot.At (kx (Line.Knots (Earth.PoreHi (knE b s o m))) (IntKind.wrap IntKind.i64 ((↑(List.length (Line.Knots (Earth.PoreHi (knE b s o m)))) : Int) - (1 : Int)))) + (5 : Int))) (Knot.V (kx (Line.Knots (Earth.PoreHi (knE b s o m))) (IntKind.wrap IntKind.i64 ((↑(List.length (Line.Knots (Earth.PoreHi (knE b s o m)))) : Int) - (1 : Int)))))]))
        (.br (above (Line.Knots (Earth.PoreHi (knE b s o m))) (Line.Knots (Earth.PoreHi (knE b s o m)) ++ [Knot.mk (IntKind.wrap IntKind.i64 (Knot.At (kx (Line.Knots (Earth.PoreHi (knE b s o m))) (IntKind.wrap IntKind.i64 ((↑(List.length (Line.Knots (Earth.PoreHi (knE b s o m)))) : Int) - (1 : Int)))) + (5 : Int))) (Knot.V (kx (Line.Knots (Earth.PoreHi (knE b s o m))) (IntKind.wrap IntKind.i64 ((↑(List.length (Line.Knots (Earth.PoreHi (knE b s o m)))) : Int) - (1 : Int)))))]))
         (.req (List.length (Line.Knots (Earth.PoreHi (knE b s o m)) ++ [Knot.mk (IntKind.wrap IntKind.i64 (Knot.At (kx (Line.Knots (Earth.PoreHi (knE b s o m))) (IntKind.wrap IntKind.i64 ((↑(List.length (Line.Knots (Earth.PoreHi (knE b s o m)))) : Int) - (1 : Int)))) + (5 : Int))) (Knot.V (kx (Line.Knots (Earth.PoreHi (knE b s o m))) (IntKind.wrap IntKind.i64 ((↑(List.length (Line.Knots (Earth.PoreHi (knE b s o m)))) : Int) - (1 : Int)))))]) = List.length (Line.Knots (Earth.PoreHi (knE b s o m)) ++ [Knot.mk (IntKind.wrap IntKind.i64 (Knot.At (kx (Line.Knots (Earth.PoreHi (knE b s o m))) (IntKind.wrap IntKind.i64 ((↑(List.length (Line.Knots (Earth.PoreHi (knE b s o m)))) : Int) - (1 : Int)))) + (5 : Int))) (Knot.V (kx (Line.Knots (Earth.PoreHi (knE b s o m))) (IntKind.wrap IntKind.i64 ((↑(List.length (Line.Knots (Earth.PoreHi (knE b s o m)))) : Int) - (1 : Int)))))]))
         (.br (above (Line.Knots (Earth.PoreHi (knE b s o m)) ++ [Knot.mk (IntKind.wrap IntKind.i64 (Knot.At (kx (Line.Knots (Earth.PoreHi (knE b s o m))) (IntKind.wrap IntKind.i64 ((↑(List.length (Line.Knots (Earth.PoreHi (knE b s o m)))) : Int) - (1 : Int)))) + (5 : Int))) (Knot.V (kx (Line.Knots (Earth.PoreHi (knE b s o m))) (IntKind.wrap IntKind.i64 ((↑(List.length (Line.Knots (Earth.PoreHi (knE b s o m)))) : Int) - (1 : Int)))))]) (Line.Knots (Earth.PoreHi (knE b s o m))))
          (.leaf (.bool (true)))
          (.leaf (.bool (false)))))
         (.leaf (.bool (false))))))))))))
     (.br (above (Line.Knots (Earth.PoreHi (knE b s o m))) (Line.Knots (Earth.PoreLo (knE b' s' o' m'))))
      (.br (above (Line.Knots (Earth.PoreLo (knE b' s' o' m'))) (Line.Knots (Earth.PoreHi (knE b s o m))))
       (.br (!(atLo (Line.Knots (Earth.PoreHi (knE b s o m))) (z % (600000 : Int)) == atLo (Line.Knots (Earth.PoreLo (knE b' s' o' m'))) (z % (600000 : Int)) && (atHi (Line.Knots (Earth.PoreHi (knE b s o m))) (z % (600000 : Int)) == atHi (Line.Knots (Earth.PoreLo (knE b' s' o' m'))) (z % (600000 : Int)) && true)))
        (.leaf (.bool (false)))
        (.req (List.length (Line.Knots (Earth.PoreHi (knE b s o m))) ≤ (1000 : Nat))
        (.req ((decide ((0 : Int) ≤ IntKind.wrap IntKind.i64 ((↑(List.length (Line.Knots (Earth.PoreHi (knE b s o m)))) : Int) - (1 : Int))) && decide (IntKind.wrap IntKind.i64 ((↑(List.length (Line.Knots (Earth.PoreHi (knE b s o m)))) : Int) - (1 : Int)) < (↑(List.length (Line.Knots (Earth.PoreHi (knE b s o m)))) : Int))) = true)
        (.req (List.length (Line.Knots (Earth.PoreHi (knE b s o m))) = List.length (Line.Knots (Earth.PoreHi (knE b s o m))))
        (.req (List.length (Line.Knots (Earth.PoreHi (knE b s o m))) + List.length [Knot.mk (IntKind.wrap IntKind.i64 (Knot.At (kx (Line.Knots (Earth.PoreHi (knE b s o m))) (IntKind.wrap IntKind.i64 ((↑(List.length (Line.Knots (Earth.PoreHi (knE b s o m)))) : Int) - (1 : Int)))) + (5 : Int))) (Knot.V (kx (Line.Knots (Earth.PoreHi (knE b s o m))) (IntKind.wrap IntKind.i64 ((↑(List.length (Line.Knots (Earth.PoreHi (knE b s o m)))) : Int) - (1 : Int)))))] ≤ (1073741824 : Nat))
        (.req (List.length (Line.Knots (Earth.PoreHi (knE b s o m)) ++ [Knot.mk (IntKind.wrap IntKind.i64 (Knot.At (kx (Line.Knots (Earth.PoreHi (knE b s o m))) (IntKind.wrap IntKind.i64 ((↑(List.length (Line.Knots (Earth.PoreHi (knE b s o m)))) : Int) - (1 : Int)))) + (5 : Int))) (Knot.V (kx (Line.Knots (Earth.PoreHi (knE b s o m))) (IntKind.wrap IntKind.i64 ((↑(List.length (Line.Knots (Earth.PoreHi (knE b s o m)))) : Int) - (1 : Int)))))]) = List.length (Line.Knots (Earth.PoreHi (knE b s o m)) ++ [Knot.mk (IntKind.wrap IntKind.i64 (Knot.At (kx (Line.Knots (Earth.PoreHi (knE b s o m))) (IntKind.wrap IntKind.i64 ((↑(List.length (Line.Knots (Earth.PoreHi (knE b s o m)))) : Int) - (1 : Int)))) + (5 : Int))) (Knot.V (kx (Line.Knots (Earth.PoreHi (knE b s o m))) (IntKind.wrap IntKind.i64 ((↑(List.length (Line.Knots (Earth.PoreHi (knE b s o m)))) : Int) - (1 : Int)))))]))
        (.br (above (Line.Knots (Earth.PoreHi (knE b s o m))) (Line.Knots (Earth.PoreHi (knE b s o m)) ++ [Knot.mk (IntKind.wrap IntKind.i64 (Knot.At (kx (Line.Knots (Earth.PoreHi (knE b s o m))) (IntKind.wrap IntKind.i64 ((↑(List.length (Line.Knots (Earth.PoreHi (knE b s o m)))) : Int) - (1 : Int)))) + (5 : Int))) (Knot.V (kx (Line.Knots (Earth.PoreHi (knE b s o m))) (IntKind.wrap IntKind.i64 ((↑(List.length (Line.Knots (Earth.PoreHi (knE b s o m)))) : Int) - (1 : Int)))))]))
         (.req (List.length (Line.Knots (Earth.PoreHi (knE b s o m)) ++ [Knot.mk (IntKind.wrap IntKind.i64 (Knot.At (kx (Line.Knots (Earth.PoreHi (knE b s o m))) (IntKind.wrap IntKind.i64 ((↑(List.length (Line.Knots (Earth.PoreHi (knE b s o m)))) : Int) - (1 : Int)))) + (5 : Int))) (Knot.V (kx (Line.Knots (Earth.PoreHi (knE b s o m))) (IntKind.wrap IntKind.i64 ((↑(List.length (Line.Knots (Earth.PoreHi (knE b s o m)))) : Int) - (1 : Int)))))]) = List.length (Line.Knots (Earth.PoreHi (knE b s o m)) ++ [Knot.mk (IntKind.wrap IntKind.i64 (Knot.At (kx (Line.Knots (Earth.PoreHi (knE b s o m))) (IntKind.wrap IntKind.i64 ((↑(List.length (Line.Knots (Earth.PoreHi (knE b s o m)))) : Int) - (1 : Int)))) + (5 : Int))) (Knot.V (kx (Line.Knots (Earth.PoreHi (knE b s o m))) (IntKind.wrap IntKind.i64 ((↑(List.length (Line.Knots (Earth.PoreHi (knE b s o m)))) : Int) - (1 : Int)))))]))
         (.br (above (Line.Knots (Earth.PoreHi (knE b s o m)) ++ [Knot.mk (IntKind.wrap IntKind.i64 (Knot.At (kx (Line.Knots (Earth.PoreHi (knE b s o m))) (IntKind.wrap IntKind.i64 ((↑(List.length (Line.Knots (Earth.PoreHi (knE b s o m)))) : Int) - (1 : Int)))) + (5 : Int))) (Knot.V (kx (Line.Knots (Earth.PoreHi (knE b s o m))) (IntKind.wrap IntKind.i64 ((↑(List.length (Line.Knots (Earth.PoreHi (knE b s o m)))) : Int) - (1 : Int)))))]) (Line.Knots (Earth.PoreHi (knE b s o m))))
          (.leaf (.bool (true)))
          (.leaf (.bool (false)))))
         (.leaf (.bool (false))))))))))
       (.req (List.length (Line.Knots (Earth.PoreHi (knE b s o m))) ≤ (1000 : Nat))
       (.req ((decide ((0 : Int) ≤ IntKind.wrap IntKind.i64 ((↑(List.length (Line.Knots (Earth.PoreHi (knE b s o m)))) : Int) - (1 : Int))) && decide (IntKind.wrap IntKind.i64 ((↑(List.length (Line.Knots (Earth.PoreHi (knE b s o m)))) : Int) - (1 : Int)) < (↑(List.length (Line.Knots (Earth.PoreHi (knE b s o m)))) : Int))) = true)
       (.req (List.length (Line.Knots (Earth.PoreHi (knE b s o m))) = List.length (Line.Knots (Earth.PoreHi (knE b s o m))))
       (.req (List.length (Line.Knots (Earth.PoreHi (knE b s o m))) + List.length [Knot.mk (IntKind.wrap IntKind.i64 (Knot.At (kx (Line.Knots (Earth.PoreHi (knE b s o m))) (IntKind.wrap IntKind.i64 ((↑(List.length (Line.Knots (Earth.PoreHi (knE b s o m)))) : Int) - (1 : Int)))) + (5 : Int))) (Knot.V (kx (Line.Knots (Earth.PoreHi (knE b s o m))) (IntKind.wrap IntKind.i64 ((↑(List.length (Line.Knots (Earth.PoreHi (knE b s o m)))) : Int) - (1 : Int)))))] ≤ (1073741824 : Nat))
       (.req (List.length (Line.Knots (Earth.PoreHi (knE b s o m)) ++ [Knot.mk (IntKind.wrap IntKind.i64 (Knot.At (kx (Line.Knots (Earth.PoreHi (knE b s o m))) (IntKind.wrap IntKind.i64 ((↑(List.length (Line.Knots (Earth.PoreHi (knE b s o m)))) : Int) - (1 : Int)))) + (5 : Int))) (Knot.V (kx (Line.Knots (Earth.PoreHi (knE b s o m))) (IntKind.wrap IntKind.i64 ((↑(List.length (Line.Knots (Earth.PoreHi (knE b s o m)))) : Int) - (1 : Int)))))]) = List.length (Line.Knots (Earth.PoreHi (knE b s o m)) ++ [Knot.mk (IntKind.wrap IntKind.i64 (Knot.At (kx (Line.Knots (Earth.PoreHi (knE b s o m))) (IntKind.wrap IntKind.i64 ((↑(List.length (Line.Knots (Earth.PoreHi (knE b s o m)))) : Int) - (1 : Int)))) + (5 : Int))) (Knot.V (kx (Line.Knots (Earth.PoreHi (knE b s o m))) (IntKind.wrap IntKind.i64 ((↑(List.length (Line.Knots (Earth.PoreHi (knE b s o m)))) : Int) - (1 : Int)))))]))
       (.br (above (Line.Knots (Earth.PoreHi (knE b s o m))) (Line.Knots (Earth.PoreHi (knE b s o m)) ++ [Knot.mk (IntKind.wrap IntKind.i64 (Knot.At (kx (Line.Knots (Earth.PoreHi (knE b s o m))) (IntKind.wrap IntKind.i64 ((↑(List.length (Line.Knots (Earth.PoreHi (knE b s o m)))) : Int) - (1 : Int)))) + (5 : Int))) (Knot.V (kx (Line.Knots (Earth.PoreHi (knE b s o m))) (IntKind.wrap IntKind.i64 ((↑(List.length (Line.Knots (Earth.PoreHi (knE b s o m)))) : Int) - (1 : Int)))))]))
        (.req (List.length (Line.Knots (Earth.PoreHi (knE b s o m)) ++ [Knot.mk (IntKind.wrap IntKind.i64 (Knot.At (kx (Line.Knots (Earth.PoreHi (knE b s o m))) (IntKind.wrap IntKind.i64 ((↑(List.length (Line.Knots (Earth.PoreHi (knE b s o m)))) : Int) - (1 : Int)))) + (5 : Int))) (Knot.V (kx (Line.Knots (Earth.PoreHi (knE b s o m))) (IntKind.wrap IntKind.i64 ((↑(List.length (Line.Knots (Earth.PoreHi (knE b s o m)))) : Int) - (1 : Int)))))]) = List.length (Line.Knots (Earth.PoreHi (knE b s o m)) ++ [Knot.mk (IntKind.wrap IntKind.i64 (Knot.At (kx (Line.Knots (Earth.PoreHi (knE b s o m))) (IntKind.wrap IntKind.i64 ((↑(List.length (Line.Knots (Earth.PoreHi (knE b s o m)))) : Int) - (1 : Int)))) + (5 : Int))) (Knot.V (kx (Line.Knots (Earth.PoreHi (knE b s o m))) (IntKind.wrap IntKind.i64 ((↑(List.length (Line.Knots (Earth.PoreHi (knE b s o m)))) : Int) - (1 : Int)))))]))
        (.br (above (Line.Knots (Earth.PoreHi (knE b s o m)) ++ [Knot.mk (IntKind.wrap IntKind.i64 (Knot.At (kx (Line.Knots (Earth.PoreHi (knE b s o m))) (IntKind.wrap IntKind.i64 ((↑(List.length (Line.Knots (Earth.PoreHi (knE b s o m)))) : Int) - (1 : Int)))) + (5 : Int))) (Knot.V (kx (Line.Knots (Earth.PoreHi (knE b s o m))) (IntKind.wrap IntKind.i64 ((↑(List.length (Line.Knots (Earth.PoreHi (knE b s o m)))) : Int) - (1 : Int)))))]) (Line.Knots (Earth.PoreHi (knE b s o m))))
         (.leaf (.bool (true)))
         (.leaf (.bool (false)))))
        (.leaf (.bool (false))))))))))
      (.req (List.length (Line.Knots (Earth.PoreHi (knE b s o m))) ≤ (1000 : Nat))
      (.req ((decide ((0 : Int) ≤ IntKind.wrap IntKind.i64 ((↑(List.length (Line.Knots (Earth.PoreHi (knE b s o m)))) : Int) - (1 : Int))) && decide (IntKind.wrap IntKind.i64 ((↑(List.length (Line.Knots (Earth.PoreHi (knE b s o m)))) : Int) - (1 : Int)) < (↑(List.length (Line.Knots (Earth.PoreHi (knE b s o m)))) : Int))) = true)
      (.req (List.length (Line.Knots (Earth.PoreHi (knE b s o m))) = List.length (Line.Knots (Earth.PoreHi (knE b s o m))))
      (.req (List.length (Line.Knots (Earth.PoreHi (knE b s o m))) + List.length [Knot.mk (IntKind.wrap IntKind.i64 (Knot.At (kx (Line.Knots (Earth.PoreHi (knE b s o m))) (IntKind.wrap IntKind.i64 ((↑(List.length (Line.Knots (Earth.PoreHi (knE b s o m)))) : Int) - (1 : Int)))) + (5 : Int))) (Knot.V (kx (Line.Knots (Earth.PoreHi (knE b s o m))) (IntKind.wrap IntKind.i64 ((↑(List.length (Line.Knots (Earth.PoreHi (knE b s o m)))) : Int) - (1 : Int)))))] ≤ (1073741824 : Nat))
      (.req (List.length (Line.Knots (Earth.PoreHi (knE b s o m)) ++ [Knot.mk (IntKind.wrap IntKind.i64 (Knot.At (kx (Line.Knots (Earth.PoreHi (knE b s o m))) (IntKind.wrap IntKind.i64 ((↑(List.length (Line.Knots (Earth.PoreHi (knE b s o m)))) : Int) - (1 : Int)))) + (5 : Int))) (Knot.V (kx (Line.Knots (Earth.PoreHi (knE b s o m))) (IntKind.wrap IntKind.i64 ((↑(List.length (Line.Knots (Earth.PoreHi (knE b s o m)))) : Int) - (1 : Int)))))]) = List.length (Line.Knots (Earth.PoreHi (knE b s o m)) ++ [Knot.mk (IntKind.wrap IntKind.i64 (Knot.At (kx (Line.Knots (Earth.PoreHi (knE b s o m))) (IntKind.wrap IntKind.i64 ((↑(List.length (Line.Knots (Earth.PoreHi (knE b s o m)))) : Int) - (1 : Int)))) + (5 : Int))) (Knot.V (kx (Line.Knots (Earth.PoreHi (knE b s o m))) (IntKind.wrap IntKind.i64 ((↑(List.length (Line.Knots (Earth.PoreHi (knE b s o m)))) : Int) - (1 : Int)))))]))
      (.br (above (Line.Knots (Earth.PoreHi (knE b s o m))) (Line.Knots (Earth.PoreHi (knE b s o m)) ++ [Knot.mk (IntKind.wrap IntKind.i64 (Knot.At (kx (Line.Knots (Earth.PoreHi (knE b s o m))) (IntKind.wrap IntKind.i64 ((↑(List.length (Line.Knots (Earth.PoreHi (knE b s o m)))) : Int) - (1 : Int)))) + (5 : Int))) (Knot.V (kx (Line.Knots (Earth.PoreHi (knE b s o m))) (IntKind.wrap IntKind.i64 ((↑(List.length (Line.Knots (Earth.PoreHi (knE b s o m)))) : Int) - (1 : Int)))))]))
       (.req (List.length (Line.Knots (Earth.PoreHi (knE b s o m)) ++ [Knot.mk (IntKind.wrap IntKind.i64 (Knot.At (kx (Line.Knots (Earth.PoreHi (knE b s o m))) (IntKind.wrap IntKind.i64 ((↑(List.length (Line.Knots (Earth.PoreHi (knE b s o m)))) : Int) - (1 : Int)))) + (5 : Int))) (Knot.V (kx (Line.Knots (Earth.PoreHi (knE b s o m))) (IntKind.wrap IntKind.i64 ((↑(List.length (Line.Knots (Earth.PoreHi (knE b s o m)))) : Int) - (1 : Int)))))]) = List.length (Line.Knots (Earth.PoreHi (knE b s o m)) ++ [Knot.mk (IntKind.wrap IntKind.i64 (Knot.At (kx (Line.Knots (Earth.PoreHi (knE b s o m))) (IntKind.wrap IntKind.i64 ((↑(List.length (Line.Knots (Earth.PoreHi (knE b s o m)))) : Int) - (1 : Int)))) + (5 : Int))) (Knot.V (kx (Line.Knots (Earth.PoreHi (knE b s o m))) (IntKind.wrap IntKind.i64 ((↑(List.length (Line.Knots (Earth.PoreHi (knE b s o m)))) : Int) - (1 : Int)))))]))
       (.br (above (Line.Knots (Earth.PoreHi (knE b s o m)) ++ [Knot.mk (IntKind.wrap IntKind.i64 (Knot.At (kx (Line.Knots (Earth.PoreHi (knE b s o m))) (IntKind.wrap IntKind.i64 ((↑(List.length (Line.Knots (Earth.PoreHi (knE b s o m)))) : Int) - (1 : Int)))) + (5 : Int))) (Knot.V (kx (Line.Knots (Earth.PoreHi (knE b s o m))) (IntKind.wrap IntKind.i64 ((↑(List.length (Line.Knots (Earth.PoreHi (knE b s o m)))) : Int) - (1 : Int)))))]) (Line.Knots (Earth.PoreHi (knE b s o m))))
        (.leaf (.bool (true)))
        (.leaf (.bool (false)))))
       (.leaf (.bool (false)))))))))))))) := by kernel_rfl
structure Ln (l : List Knot) : Prop where
  l0 : 0 < l.length
  l1 : l.length ≤ 6
  bd : ∀ k ∈ l, (0 ≤ k.At ∧ k.At ≤ 500000) ∧ 0 ≤ k.V ∧ k.V ≤ 15061000000
  up : asc l
theorem sft_ln {l : List Knot} {o : List Int} {u : Bool} {j B : Int} (h : TOk l 5 0 B 15021000000) (ha : asc l) (hB : B ≤ 500000) : Ln (sft o u j l) := by
  refine ⟨by rw [sft_len]; exact h.l0, by rw [sft_len]; have := h.l1; omega, fun k hk => ?_, sft_asc j l ha⟩
  obtain ⟨k', h1, h2, h3⟩ := sft_mem j l k hk
  have a := h.at' k' h1
  have b := h.v k' h1
  have c := h3 b.1
  omega
theorem Ln.good {l : List Knot} (h : Ln l) : Good l 1048576 68719476736 := asc_good h.l0 (by have := h.l1; omega) (fun k hk => by have := h.bd k hk; omega) h.up
theorem Ln.right {l : List Knot} (h : Ln l) : isR l := .inl (good_err h.good (by decide) (by decide))
theorem above_iff {x y : List Knot} (gx : Good x 1048576 68719476736) (gy : Good y 1048576 68719476736) : above x y = true ↔ ∀ z, valLo y z ≤ valLo x z ∧ valHi y z ≤ valHi x z := by
  have rx : isR x := .inl (good_err gx (by decide) (by decide))
  have ry : isR y := .inl (good_err gy (by decide) (by decide))
  unfold above abB
  rw [decide_eq_true (show isR x ∧ isR y from ⟨rx, ry⟩), Bool.true_and, Bool.and_eq_true]
  constructor
  · rintro ⟨h1, h2⟩ z
    exact above_at gx gy h1 h2 z
  · intro h
    refine ⟨ab1_iff.2 fun k hk => ?_, ab2_iff.2 fun k hk => ?_⟩
    · obtain ⟨i, hi, rfl⟩ := mem_kn' hk
      have := h (kn x i).At
      have k := val_knot gx hi
      omega
    · obtain ⟨i, hi, rfl⟩ := mem_kn' hk
      have := h (kn y i).At
      have k := val_knot gy hi
      omega
theorem kn_app {l r : List Knot} {i : Nat} (h : i < l.length) : kn (l ++ r) i = kn l i := by
  rw [kn_get (by rw [List.length_append]; omega), kn_get h, List.getElem_append_left h]
theorem more_ok {l : List Knot} (h : Ln l) {q : Knot} (hq : q = ⟨(kn l (l.length - 1 : Nat)).At + 5, (kn l (l.length - 1 : Nat)).V⟩) : above l (l ++ [q]) = true ∧ above (l ++ [q]) l = true := by
  have l0 := h.l0
  have l1 := h.l1
  have bl := h.bd _ (kn_mem (l := l) (i := l.length - 1) (by omega))
  have gl := h.good
  have last : ∀ k ∈ l, k.At ≤ (kn l (l.length - 1 : Nat)).At := fun k hk => by
    obtain ⟨i, hi, rfl⟩ := mem_kn' hk
    rcases Nat.lt_or_ge i (l.length - 1) with g | g
    · have := gl.lt g (by omega); omega
    · obtain rfl : i = l.length - 1 := by omega
      exact Int.le_refl _
  have qa : q.At = (kn l (l.length - 1 : Nat)).At + 5 := by rw [hq]
  have qv : q.V = (kn l (l.length - 1 : Nat)).V := by rw [hq]
  have gm : Good (l ++ [q]) 1048576 68719476736 := by
    refine asc_good (by rw [List.length_append]; omega) (by rw [List.length_append]; show l.length + 1 ≤ 24; omega) (fun k hk => ?_) (List.pairwise_append.2 ⟨h.up, List.pairwise_singleton .., fun x hx y hy => ?_⟩)
    · rcases List.mem_append.1 hk with g | g
      · have := h.bd k g; omega
      · obtain rfl : k = q := List.mem_singleton.1 g
        omega
    · obtain rfl : y = q := List.mem_singleton.1 hy
      have := last x hx
      omega
  have vl : ∀ k ∈ l, valLo l k.At = k.V ∧ valHi l k.At = k.V := fun k hk => by
    obtain ⟨i, hi, rfl⟩ := mem_kn' hk
    exact val_knot gl hi
  have vm : ∀ k ∈ l ++ [q], valLo (l ++ [q]) k.At = k.V ∧ valHi (l ++ [q]) k.At = k.V := fun k hk => by
    obtain ⟨i, hi, rfl⟩ := mem_kn' hk
    exact val_knot gm hi
  have ql : valLo l q.At = q.V ∧ valHi l q.At = q.V := by
    have ez : ixAt l q.At = l.length := ixAt_eq (Nat.le_refl _) (fun j hj => by
      have := last _ (kn_mem hj)
      omega) fun h => by omega
    unfold valLo valHi
    rw [if_neg (by omega), if_pos ez, if_neg (by omega), if_pos ez, show (l.length : Int) - 1 = ((l.length - 1 : Nat) : Int) by omega]
    exact ⟨qv.symm, qv.symm⟩
  have both : ∀ k ∈ l ++ [q], valLo l k.At = k.V ∧ valHi l k.At = k.V := fun k hk => by
    rcases List.mem_append.1 hk with g | g
    · exact vl k g
    · obtain rfl : k = q := List.mem_singleton.1 g
      exact ql
  have rl := h.right
  have rm : isR (l ++ [q]) := .inl (good_err gm (by decide) (by decide))
  constructor
  · unfold above abB
    rw [decide_eq_true (show isR l ∧ isR (l ++ [q]) from ⟨rl, rm⟩), Bool.true_and, Bool.and_eq_true]
    exact ⟨ab1_iff.2 fun k hk => by have := vm k (List.mem_append_left _ hk); omega, ab2_iff.2 fun k hk => by have := both k hk; omega⟩
  · unfold above abB
    rw [decide_eq_true (show isR (l ++ [q]) ∧ isR l from ⟨rm, rl⟩), Bool.true_and, Bool.and_eq_true]
    exact ⟨ab1_iff.2 fun k hk => by have := both k hk; omega, ab2_iff.2 fun k hk => by have := vm k (List.mem_append_left _ hk); omega⟩
theorem at_v {L : List Knot} (r : isR L) (p : Int) : atLo L p = valLo L p ∧ atHi L p = valHi L p := ⟨if_pos r, if_pos r⟩
theorem nt_y {a : Bool} {t f : Tree (AV T)} {Q : AV T → Prop} (h : a = true) (k : f.holds Q) : (Tree.br (!a) t f).holds Q := ⟨fun c => (by rw [h] at c; cases c), fun _ => k⟩
theorem ff_y {a : Bool} {t f : Tree (AV T)} {Q : AV T → Prop} (h : a = false) (k : f.holds Q) : (Tree.br a t f).holds Q := ⟨fun c => (by rw [h] at c; cases c), fun _ => k⟩
theorem tt_y {a : Bool} {t f : Tree (AV T)} {Q : AV T → Prop} (h : a = true) (k : t.holds Q) : (Tree.br a t f).holds Q := ⟨fun _ => k, fun c => (by rw [h] at c; cases c)⟩
theorem earthOrder_proved : Rows.EarthOrderSaid := earthOrder_said fun x y w z _ _ _ _ => fact_run ctEO_ok noLoops_ok (ts := [4]) rfl (by
  show (runX ctEO noLoops 14 [.agg [i64 x.Bottom, .sl 2 x.Steps false, .sl 2 x.Off false, .sl 2 x.Marks false], .agg [i64 y.Bottom, .sl 2 y.Steps false, .sl 2 y.Off false, .sl 2 y.Marks false], .agg [i64 w.Bottom, .sl 2 w.Steps false, .sl 2 w.Off false, .sl 2 w.Marks false], i64 z] [4]).holds _
  rw [tvEO]
  have ha : Ln (knE x.Bottom x.Steps x.Off x.Marks).PoreHi.Knots := sft_ln (tPl_ok _ _) (tPl_asc _ _) (tb_bd _).2
  have hb : Ln (knE y.Bottom y.Steps y.Off y.Marks).PoreLo.Knots := sft_ln (tPl_ok _ _) (tPl_asc _ _) (tb_bd _).2
  have hc : Ln (knE w.Bottom w.Steps w.Off w.Marks).PoreLo.Knots := sft_ln (tPl_ok _ _) (tPl_asc _ _) (tb_bd _).2
  generalize (knE x.Bottom x.Steps x.Off x.Marks).PoreHi.Knots = A at ha
  generalize (knE y.Bottom y.Steps y.Off y.Marks).PoreLo.Knots = B at hb
  generalize (knE w.Bottom w.Steps w.Off w.Marks).PoreLo.Knots = C at hc
  have l0 := ha.l0
  have l1 := ha.l1
  have e1 : IntKind.wrap IntKind.i64 ((A.length : Int) - 1) = ((A.length - 1 : Nat) : Int) := by rw [i64_in' (by omega) (by omega)]; omega
  rw [e1]
  have bl := ha.bd _ (kn_mem (l := A) (i := A.length - 1) (by omega))
  have e2 : IntKind.wrap IntKind.i64 ((kx A ((A.length - 1 : Nat) : Int)).At + 5) = (kn A (A.length - 1 : Nat)).At + 5 := i64_in' (show _ ≤ (kn A (A.length - 1 : Nat)).At + 5 by omega) (show (kn A (A.length - 1 : Nat)).At + 5 ≤ _ by omega)
  rw [e2]
  obtain ⟨m1, m2⟩ := more_ok ha (q := ⟨(kn A (A.length - 1 : Nat)).At + 5, (kn A (A.length - 1 : Nat)).V⟩) rfl
  have iAB := above_iff ha.good hb.good
  have iBA := above_iff hb.good ha.good
  have iBC := above_iff hb.good hc.good
  have iAC := above_iff ha.good hc.good
  have fR : above A A = true := (above_iff ha.good ha.good).2 fun z => ⟨Int.le_refl _, Int.le_refl _⟩
  have fT : above A B = true → above B C = true → above A C = true := fun h1 h2 => iAC.2 fun z => by
    have := iAB.1 h1 z
    have := iBC.1 h2 z
    omega
  have qa := at_v ha.right (z % 600000)
  have qb := at_v hb.right (z % 600000)
  have fAB : above A B = true → atLo B (z % 600000) ≤ atLo A (z % 600000) ∧ atHi B (z % 600000) ≤ atHi A (z % 600000) := fun h => by
    have := iAB.1 h (z % 600000)
    omega
  have fE : above A B = true → above B A = true → (atLo A (z % 600000) == atLo B (z % 600000) && (atHi A (z % 600000) == atHi B (z % 600000) && true)) = true := fun h1 h2 => by
    have := iAB.1 h1 (z % 600000)
    have := iBA.1 h2 (z % 600000)
    have a1 : atLo A (z % 600000) = atLo B (z % 600000) := by omega
    have a2 : atHi A (z % 600000) = atHi B (z % 600000) := by omega
    rw [a1, a2]
    simp
  have mp : mPre z 600000 := ⟨by decide, by decide⟩
  have kl : A.length ≤ 1000 := by omega
  have ki : (decide ((0 : Int) ≤ ((A.length - 1 : Nat) : Int)) && decide (((A.length - 1 : Nat) : Int) < (A.length : Int))) = true := by simp only [Bool.and_eq_true, decide_eq_true_eq]; omega
  have kn1 : ∀ {q : Knot}, A.length + [q].length ≤ 1073741824 := fun {q} => by show A.length + 1 ≤ _; omega
  refine nt_y fR ⟨fun ab => ⟨fun bc => nt_y (fT ab bc) ⟨mp, tt_y ab (way (fun c => absurd c (by have := fAB ab; omega)) fun _ => way (fun c => absurd c (by have := fAB ab; omega)) fun _ => tt_y ab ⟨fun ba => nt_y (fE ab ba) ⟨kl, ki, rfl, kn1, rfl, tt_y m1 ⟨rfl, tt_y m2 rfl⟩⟩, fun _ => ⟨kl, ki, rfl, kn1, rfl, tt_y m1 ⟨rfl, tt_y m2 rfl⟩⟩⟩)⟩, fun _ => ⟨mp, tt_y ab (way (fun c => absurd c (by have := fAB ab; omega)) fun _ => way (fun c => absurd c (by have := fAB ab; omega)) fun _ => tt_y ab ⟨fun ba => nt_y (fE ab ba) ⟨kl, ki, rfl, kn1, rfl, tt_y m1 ⟨rfl, tt_y m2 rfl⟩⟩, fun _ => ⟨kl, ki, rfl, kn1, rfl, tt_y m1 ⟨rfl, tt_y m2 rfl⟩⟩⟩)⟩⟩, fun ab => ⟨mp, ff_y ab (ff_y ab ⟨kl, ki, rfl, kn1, rfl, tt_y m1 ⟨rfl, tt_y m2 rfl⟩⟩)⟩⟩)
end Go.Proofs.Ytdlholmphenhhaa.W.Gr
end
