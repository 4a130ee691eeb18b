/- Sequences of errors, for each Hold: the reference. No condition. -/
import Derived.Test.YtdclipcjlimdoaaX2
set_option linter.unusedVariables false
set_option maxRecDepth 100000
set_option maxHeartbeats 4000000
noncomputable section
namespace Go.Proofs.Ytdclipcjlimdoaa.W
open Go Go.Cx Go.RowKit
noncomputable def ni6 (l : List Int) (i : Int) : Int := ixD E 2 l i
noncomputable def bb (n : Int) : Int := IntKind.wrap IntKind.i64 (IntKind.wrap IntKind.i64 (2 * n) + 1)
theorem wr_rng (n : Int) : -9223372036854775808 ≤ IntKind.wrap IntKind.i64 n ∧ IntKind.wrap IntKind.i64 n ≤ 9223372036854775807 := by
  have e : IntKind.wrap IntKind.i64 n = if n % 18446744073709551616 ≥ 9223372036854775808 then n % 18446744073709551616 - 18446744073709551616 else n % 18446744073709551616 := by
    unfold IntKind.wrap
    simp [IntKind.bits, IntKind.signed]
  rw [e]
  split <;> omega
theorem mu_c (a b : Int) : mu a b = mu b a := by unfold mu; rw [Int.mul_comm]
theorem ad_c (a b : Int) : ad a b = ad b a := by unfold ad; rw [Int.add_comm]
theorem ad_z (a b : Int) : ad 0 (mu a b) = mu a b := by
  unfold ad mu
  rw [Int.zero_add]
  exact i64_in' (wr_rng _).1 (wr_rng _).2
noncomputable def oR1 (l : List Int) (q : Int) (m : Int) (al : Int) (A : Int) (i : Int) (c : Int) (p : Int) (d : Int) (n : Int) (st : Int) (lo : Int) (li : Int) : Tree (Ex × List (V T)) := .req (l.length = 1 ∧ 0 ≤ i ∧ i ≤ q ∧ q ≤ 12) (.leaf (.exit 2, [.n (als (bb n) (q - i).toNat al), .n (it1 (bb n) m (IntKind.wrap IntKind.i64 (bb n - m)) (q - i).toNat ⟨ni6 l 0, A, 0, 0, 0, 0, 0, 0, 0⟩).a1]))
noncomputable def cR1 : LoopC T := ⟨[.l 2, .n, .n, .n, .n, .n, .n, .n, .n, .n, .n, .n, .n], ⟨121, [(1, .one (.i .i64)), (2, .one (.o 0 0)), (8, .one (.i .i64)), (10, .one (.i .i64)), (11, .one (.i .i64)), (12, .one (.g 1 2)), (13, .one (.i .i64))], [.c [.i .i64, .i .i64, .i .i64, .i .i64, .i .i64, .i .i64, .i .i64, .k .i64 1], .l 2]⟩, fun _ => ⟨121, [(10, .one (.i .i64)), (11, .one (.i .i64))], []⟩, 60, fun d => oR1 d.1 d.2.1 d.2.2.1 d.2.2.2.1 d.2.2.2.2.1 d.2.2.2.2.2.1 d.2.2.2.2.2.2.1 d.2.2.2.2.2.2.2.1 d.2.2.2.2.2.2.2.2.1 d.2.2.2.2.2.2.2.2.2.1 d.2.2.2.2.2.2.2.2.2.2.1 d.2.2.2.2.2.2.2.2.2.2.2.1 d.2.2.2.2.2.2.2.2.2.2.2.2.1⟩
theorem bR1 (x0 : Int) (q : Int) (m : Int) (al : Int) (A : Int) (i : Int) (c : Int) (p : Int) (d : Int) (n : Int) (st : Int) (lo : Int) (li : Int) : bodyD Try.prog E cR1 0 (bodyX Try.prog E ctFa noLoops 1000 7 L0 (lpOf Try.prog 56 1)) (([x0] : List Int), q, m, al, A, i, c, p, d, n, st, lo, li, ()) =
  (.br (decide (i < q))
   (.req ((true && decide ((0 : Int) < (↑(List.length [x0]) : Int))) = true)
   (.req ((true && decide ((0 : Int) < (↑(List.length [x0]) : Int))) = true)
   (.req ((true && decide ((0 : Int) < (↑(List.length [x0]) : Int))) = true)
   (.req ((true && decide ((0 : Int) < (↑(List.length [x0]) : Int))) = true)
   (.leaf (.inl ([IntKind.wrap IntKind.i64 ((0 : Int) + IntKind.wrap IntKind.i64 (ni6 [x0] (0 : Int) * IntKind.wrap IntKind.i64 (IntKind.wrap IntKind.i64 (IntKind.wrap IntKind.i64 ((2 : Int) * n) + (1 : Int)) - m)))], (q, (m, (IntKind.wrap IntKind.i64 (al * IntKind.wrap IntKind.i64 (IntKind.wrap IntKind.i64 ((2 : Int) * n) + (1 : Int))), (IntKind.wrap IntKind.i64 (IntKind.wrap IntKind.i64 (A * IntKind.wrap IntKind.i64 (IntKind.wrap IntKind.i64 ((2 : Int) * n) + (1 : Int))) + IntKind.wrap IntKind.i64 (ni6 [x0] (0 : Int) * m)), (IntKind.wrap IntKind.i64 (i + (1 : Int)), (c, (p, (d, (n, (st, (lo, (li, ())))))))))))))))))))
   (.leaf (.inr (.exit (2 : Nat), [.n (al), .n (A)])))) := by kernel_rfl
theorem len1 {l : List Int} (h : l.length = 1) : ∃ x0 : Int, l = [x0] := by
  match l, h with
  | [x0], _ => exact ⟨x0, rfl⟩
theorem sR1 (x0 A B m D : Int) : st1 B m D ⟨x0, A, 0, 0, 0, 0, 0, 0, 0⟩ = ⟨ad (0) (mu x0 D), ad (mu A B) (mu x0 m), 0, 0, 0, 0, 0, 0, 0⟩ := by
  simp only [st1, mu_c D, mu_c m, mu_c B, ad_z]
  rw [ad_c (mu x0 m)]
theorem nR1 (l : List Int) (q : Int) (m : Int) (al : Int) (A : Int) (i : Int) (c : Int) (p : Int) (d : Int) (n : Int) (st : Int) (lo : Int) (li : Int) (K : Ex × List (V T) → Prop) (hI : l.length = 1 ∧ 0 ≤ i ∧ i ≤ q ∧ q ≤ 12) (hK : (.leaf (.exit 2, [.n (als (bb n) (q - i).toNat al), .n (it1 (bb n) m (IntKind.wrap IntKind.i64 (bb n - m)) (q - i).toNat ⟨ni6 l 0, A, 0, 0, 0, 0, 0, 0, 0⟩).a1]) : Tree (Ex × List (V T))).holds K) : (cR1.out (l, q, m, al, A, i, c, p, d, n, st, lo, li, ())).holds K := ⟨hI, hK⟩
theorem hR1' (l : List Int) (q : Int) (m : Int) (al : Int) (A : Int) (i : Int) (c : Int) (p : Int) (d : Int) (n : Int) (st : Int) (lo : Int) (li : Int) (K : Ex × List (V T) → Prop) (hI : l.length = 1 ∧ 0 ≤ i ∧ i ≤ q ∧ q ≤ 12) (hK : (.leaf (.exit 2, [.n (als (bb n) (q - i).toNat al), .n (it1 (bb n) m (IntKind.wrap IntKind.i64 (bb n - m)) (q - i).toNat ⟨ni6 l 0, A, 0, 0, 0, 0, 0, 0, 0⟩).a1]) : Tree (Ex × List (V T))).holds K) :
    (bodyD Try.prog E cR1 0 (bodyX Try.prog E ctFa noLoops 1000 7 L0 (lpOf Try.prog 56 1)) (l, q, m, al, A, i, c, p, d, n, st, lo, li, ())).holds fun y => match y with
    | .inl d => (d.2.1 - d.2.2.2.2.2.1).toNat < (q - i).toNat ∧ (cR1.out d).holds K
    | .inr y => K y := by
  obtain ⟨hl, h0, h1, h2⟩ := hI
  obtain ⟨x0, rfl⟩ := len1 hl
  rw [bR1]
  refine way (fun k => ?_) fun k => ?_
  · have e1 : IntKind.wrap IntKind.i64 (i + 1) = i + 1 := i64_in' (by omega) (by omega)
    have hlt : (q - (i + 1)).toNat < (q - i).toNat := by omega
    rw [e1]
    rw [show (q - i).toNat = (q - (i + 1)).toNat + 1 by omega] at hK
    have hK : K (.exit 2, [.n (als (bb n) (q - (i + 1)).toNat (mu al (bb n))), .n (it1 (bb n) m (IntKind.wrap IntKind.i64 (bb n - m)) (q - (i + 1)).toNat (st1 (bb n) m (IntKind.wrap IntKind.i64 (bb n - m)) ⟨x0, A, 0, 0, 0, 0, 0, 0, 0⟩)).a1]) := hK
    rw [sR1] at hK
    exact ⟨rfl, rfl, rfl, rfl, hlt, nR1 _ _ _ _ _ _ _ _ _ _ _ _ _ K ⟨rfl, by omega, by omega, h2⟩ hK⟩
  · rw [show (q - i).toNat = 0 by omega] at hK
    exact hK
theorem hR1 : LoopH Try.prog E cR1 0 (bodyX Try.prog E ctFa noLoops 1000 7 L0 (lpOf Try.prog 56 1)) :=
  ⟨fun d => (d.2.1 - d.2.2.2.2.2.1).toNat, fun dd K hK => by
    obtain ⟨l, q, m, al, A, i, c, p, d, n, st, lo, li, ⟨⟩⟩ := dd
    obtain ⟨hI, hK⟩ := hK
    refine Tree.holds_mono (fun y hy => ?_) (hR1' l q m al A i c p d n st lo li K hI hK)
    cases y with
    | inl d' => exact hy
    | inr y => exact hy⟩
noncomputable def oR2 (l : List Int) (q : Int) (m : Int) (al : Int) (A : Int) (i : Int) (c : Int) (p : Int) (d : Int) (n : Int) (st : Int) (lo : Int) (li : Int) : Tree (Ex × List (V T)) := .req (l.length = 2 ∧ 0 ≤ i ∧ i ≤ q ∧ q ≤ 12) (.leaf (.exit 2, [.n (als (bb n) (q - i).toNat al), .n (it2 (bb n) m (IntKind.wrap IntKind.i64 (bb n - m)) (q - i).toNat ⟨ni6 l 0, ni6 l 1, A, 0, 0, 0, 0, 0, 0⟩).a2]))
noncomputable def cR2 : LoopC T := ⟨[.l 2, .n, .n, .n, .n, .n, .n, .n, .n, .n, .n, .n, .n], ⟨121, [(1, .one (.i .i64)), (2, .one (.o 0 0)), (8, .one (.i .i64)), (10, .one (.i .i64)), (11, .one (.i .i64)), (12, .one (.g 1 2)), (13, .one (.i .i64))], [.c [.i .i64, .i .i64, .i .i64, .i .i64, .i .i64, .i .i64, .i .i64, .k .i64 2], .l 2]⟩, fun _ => ⟨121, [(10, .one (.i .i64)), (11, .one (.i .i64))], []⟩, 60, fun d => oR2 d.1 d.2.1 d.2.2.1 d.2.2.2.1 d.2.2.2.2.1 d.2.2.2.2.2.1 d.2.2.2.2.2.2.1 d.2.2.2.2.2.2.2.1 d.2.2.2.2.2.2.2.2.1 d.2.2.2.2.2.2.2.2.2.1 d.2.2.2.2.2.2.2.2.2.2.1 d.2.2.2.2.2.2.2.2.2.2.2.1 d.2.2.2.2.2.2.2.2.2.2.2.2.1⟩
theorem bR2 (x0 : Int) (x1 : Int) (q : Int) (m : Int) (al : Int) (A : Int) (i : Int) (c : Int) (p : Int) (d : Int) (n : Int) (st : Int) (lo : Int) (li : Int) : bodyD Try.prog E cR2 0 (bodyX Try.prog E ctFa noLoops 1000 7 L0 (lpOf Try.prog 56 1)) (([x0, x1] : List Int), q, m, al, A, i, c, p, d, n, st, lo, li, ()) =
  (.br (decide (i < q))
   (.req ((true && decide ((0 : Int) < (↑(List.length [x0, x1]) : Int))) = true)
   (.req ((true && decide ((0 : Int) < (↑(List.length [x0, x1]) : Int))) = true)
   (.req ((true && decide ((0 : Int) < (↑(List.length [x0, x1]) : Int))) = true)
   (.req ((true && decide ((0 : Int) < (↑(List.length [x0, x1]) : Int))) = true)
   (.req ((true && decide ((1 : Int) < (↑(List.length [x0, x1]) : Int))) = true)
   (.req ((true && decide ((1 : Int) < (↑(List.length [x0, x1]) : Int))) = true)
   (.req ((true && decide ((1 : Int) < (↑(List.length [x0, x1]) : Int))) = true)
   (.req ((true && decide ((1 : Int) < (↑(List.length [x0, x1]) : Int))) = true)
   (.leaf (.inl ([IntKind.wrap IntKind.i64 (IntKind.wrap IntKind.i64 ((0 : Int) + IntKind.wrap IntKind.i64 (ni6 [x0, x1] (0 : Int) * IntKind.wrap IntKind.i64 (IntKind.wrap IntKind.i64 (IntKind.wrap IntKind.i64 ((2 : Int) * n) + (1 : Int)) - m))) + IntKind.wrap IntKind.i64 (ni6 [x0, x1] (1 : Int) * IntKind.wrap IntKind.i64 (IntKind.wrap IntKind.i64 (IntKind.wrap IntKind.i64 ((2 : Int) * n) + (1 : Int)) - m))), IntKind.wrap IntKind.i64 ((0 : Int) + IntKind.wrap IntKind.i64 (ni6 [x0, x1] (0 : Int) * m))], (q, (m, (IntKind.wrap IntKind.i64 (al * IntKind.wrap IntKind.i64 (IntKind.wrap IntKind.i64 ((2 : Int) * n) + (1 : Int))), (IntKind.wrap IntKind.i64 (IntKind.wrap IntKind.i64 (A * IntKind.wrap IntKind.i64 (IntKind.wrap IntKind.i64 ((2 : Int) * n) + (1 : Int))) + IntKind.wrap IntKind.i64 (ni6 [x0, x1] (1 : Int) * m)), (IntKind.wrap IntKind.i64 (i + (1 : Int)), (c, (p, (d, (n, (st, (lo, (li, ())))))))))))))))))))))))
   (.leaf (.inr (.exit (2 : Nat), [.n (al), .n (A)])))) := by kernel_rfl
theorem len2 {l : List Int} (h : l.length = 2) : ∃ x0 x1 : Int, l = [x0, x1] := by
  match l, h with
  | [x0, x1], _ => exact ⟨x0, x1, rfl⟩
theorem sR2 (x0 x1 A B m D : Int) : st2 B m D ⟨x0, x1, A, 0, 0, 0, 0, 0, 0⟩ = ⟨ad (ad (0) (mu x0 D)) (mu x1 D), ad 0 (mu x0 m), ad (mu A B) (mu x1 m), 0, 0, 0, 0, 0, 0⟩ := by
  simp only [st2, mu_c D, mu_c m, mu_c B, ad_z]
  rw [ad_c (mu x1 m)]
theorem nR2 (l : List Int) (q : Int) (m : Int) (al : Int) (A : Int) (i : Int) (c : Int) (p : Int) (d : Int) (n : Int) (st : Int) (lo : Int) (li : Int) (K : Ex × List (V T) → Prop) (hI : l.length = 2 ∧ 0 ≤ i ∧ i ≤ q ∧ q ≤ 12) (hK : (.leaf (.exit 2, [.n (als (bb n) (q - i).toNat al), .n (it2 (bb n) m (IntKind.wrap IntKind.i64 (bb n - m)) (q - i).toNat ⟨ni6 l 0, ni6 l 1, A, 0, 0, 0, 0, 0, 0⟩).a2]) : Tree (Ex × List (V T))).holds K) : (cR2.out (l, q, m, al, A, i, c, p, d, n, st, lo, li, ())).holds K := ⟨hI, hK⟩
theorem hR2' (l : List Int) (q : Int) (m : Int) (al : Int) (A : Int) (i : Int) (c : Int) (p : Int) (d : Int) (n : Int) (st : Int) (lo : Int) (li : Int) (K : Ex × List (V T) → Prop) (hI : l.length = 2 ∧ 0 ≤ i ∧ i ≤ q ∧ q ≤ 12) (hK : (.leaf (.exit 2, [.n (als (bb n) (q - i).toNat al), .n (it2 (bb n) m (IntKind.wrap IntKind.i64 (bb n - m)) (q - i).toNat ⟨ni6 l 0, ni6 l 1, A, 0, 0, 0, 0, 0, 0⟩).a2]) : Tree (Ex × List (V T))).holds K) :
    (bodyD Try.prog E cR2 0 (bodyX Try.prog E ctFa noLoops 1000 7 L0 (lpOf Try.prog 56 1)) (l, q, m, al, A, i, c, p, d, n, st, lo, li, ())).holds fun y => match y with
    | .inl d => (d.2.1 - d.2.2.2.2.2.1).toNat < (q - i).toNat ∧ (cR2.out d).holds K
    | .inr y => K y := by
  obtain ⟨hl, h0, h1, h2⟩ := hI
  obtain ⟨x0, x1, rfl⟩ := len2 hl
  rw [bR2]
  refine way (fun k => ?_) fun k => ?_
  · have e1 : IntKind.wrap IntKind.i64 (i + 1) = i + 1 := i64_in' (by omega) (by omega)
    have hlt : (q - (i + 1)).toNat < (q - i).toNat := by omega
    rw [e1]
    rw [show (q - i).toNat = (q - (i + 1)).toNat + 1 by omega] at hK
    have hK : K (.exit 2, [.n (als (bb n) (q - (i + 1)).toNat (mu al (bb n))), .n (it2 (bb n) m (IntKind.wrap IntKind.i64 (bb n - m)) (q - (i + 1)).toNat (st2 (bb n) m (IntKind.wrap IntKind.i64 (bb n - m)) ⟨x0, x1, A, 0, 0, 0, 0, 0, 0⟩)).a2]) := hK
    rw [sR2] at hK
    exact ⟨rfl, rfl, rfl, rfl, rfl, rfl, rfl, rfl, hlt, nR2 _ _ _ _ _ _ _ _ _ _ _ _ _ K ⟨rfl, by omega, by omega, h2⟩ hK⟩
  · rw [show (q - i).toNat = 0 by omega] at hK
    exact hK
theorem hR2 : LoopH Try.prog E cR2 0 (bodyX Try.prog E ctFa noLoops 1000 7 L0 (lpOf Try.prog 56 1)) :=
  ⟨fun d => (d.2.1 - d.2.2.2.2.2.1).toNat, fun dd K hK => by
    obtain ⟨l, q, m, al, A, i, c, p, d, n, st, lo, li, ⟨⟩⟩ := dd
    obtain ⟨hI, hK⟩ := hK
    refine Tree.holds_mono (fun y hy => ?_) (hR2' l q m al A i c p d n st lo li K hI hK)
    cases y with
    | inl d' => exact hy
    | inr y => exact hy⟩
noncomputable def oR3 (l : List Int) (q : Int) (m : Int) (al : Int) (A : Int) (i : Int) (c : Int) (p : Int) (d : Int) (n : Int) (st : Int) (lo : Int) (li : Int) : Tree (Ex × List (V T)) := .req (l.length = 3 ∧ 0 ≤ i ∧ i ≤ q ∧ q ≤ 12) (.leaf (.exit 2, [.n (als (bb n) (q - i).toNat al), .n (it3 (bb n) m (IntKind.wrap IntKind.i64 (bb n - m)) (q - i).toNat ⟨ni6 l 0, ni6 l 1, ni6 l 2, A, 0, 0, 0, 0, 0⟩).a3]))
noncomputable def cR3 : LoopC T := ⟨[.l 2, .n, .n, .n, .n, .n, .n, .n, .n, .n, .n, .n, .n], ⟨121, [(1, .one (.i .i64)), (2, .one (.o 0 0)), (8, .one (.i .i64)), (10, .one (.i .i64)), (11, .one (.i .i64)), (12, .one (.g 1 2)), (13, .one (.i .i64))], [.c [.i .i64, .i .i64, .i .i64, .i .i64, .i .i64, .i .i64, .i .i64, .k .i64 3], .l 2]⟩, fun _ => ⟨121, [(10, .one (.i .i64)), (11, .one (.i .i64))], []⟩, 60, fun d => oR3 d.1 d.2.1 d.2.2.1 d.2.2.2.1 d.2.2.2.2.1 d.2.2.2.2.2.1 d.2.2.2.2.2.2.1 d.2.2.2.2.2.2.2.1 d.2.2.2.2.2.2.2.2.1 d.2.2.2.2.2.2.2.2.2.1 d.2.2.2.2.2.2.2.2.2.2.1 d.2.2.2.2.2.2.2.2.2.2.2.1 d.2.2.2.2.2.2.2.2.2.2.2.2.1⟩
theorem bR3 (x0 : Int) (x1 : Int) (x2 : Int) (q : Int) (m : Int) (al : Int) (A : Int) (i : Int) (c : Int) (p : Int) (d : Int) (n : Int) (st : Int) (lo : Int) (li : Int) : bodyD Try.prog E cR3 0 (bodyX Try.prog E ctFa noLoops 1000 7 L0 (lpOf Try.prog 56 1)) (([x0, x1, x2] : List Int), q, m, al, A, i, c, p, d, n, st, lo, li, ()) =
  (.br (decide (i < q))
   (.req ((true && decide ((0 : Int) < (↑(List.length [x0, x1, x2]) : Int))) = true)
   (.req ((true && decide ((0 : Int) < (↑(List.length [x0, x1, x2]) : Int))) = true)
   (.req ((true && decide ((0 : Int) < (↑(List.length [x0, x1, x2]) : Int))) = true)
   (.req ((true && decide ((0 : Int) < (↑(List.length [x0, x1, x2]) : Int))) = true)
   (.req ((true && decide ((1 : Int) < (↑(List.length [x0, x1, x2]) : Int))) = true)
   (.req ((true && decide ((1 : Int) < (↑(List.length [x0, x1, x2]) : Int))) = true)
   (.req ((true && decide ((1 : Int) < (↑(List.length [x0, x1, x2]) : Int))) = true)
   (.req ((true && decide ((1 : Int) < (↑(List.length [x0, x1, x2]) : Int))) = true)
   (.req ((true && decide ((2 : Int) < (↑(List.length [x0, x1, x2]) : Int))) = true)
   (.req ((true && decide ((2 : Int) < (↑(List.length [x0, x1, x2]) : Int))) = true)
   (.req ((true && decide ((2 : Int) < (↑(List.length [x0, x1, x2]) : Int))) = true)
   (.req ((true && decide ((2 : Int) < (↑(List.length [x0, x1, x2]) : Int))) = true)
   (.leaf (.inl ([IntKind.wrap IntKind.i64 (IntKind.wrap IntKind.i64 (IntKind.wrap IntKind.i64 ((0 : Int) + IntKind.wrap IntKind.i64 (ni6 [x0, x1, x2] (0 : Int) * IntKind.wrap IntKind.i64 (IntKind.wrap IntKind.i64 (IntKind.wrap IntKind.i64 ((2 : Int) * n) + (1 : Int)) - m))) + IntKind.wrap IntKind.i64 (ni6 [x0, x1, x2] (1 : Int) * IntKind.wrap IntKind.i64 (IntKind.wrap IntKind.i64 (IntKind.wrap IntKind.i64 ((2 : Int) * n) + (1 : Int)) - m))) + IntKind.wrap IntKind.i64 (ni6 [x0, x1, x2] (2 : Int) * IntKind.wrap IntKind.i64 (IntKind.wrap IntKind.i64 (IntKind.wrap IntKind.i64 ((2 : Int) * n) + (1 : Int)) - m))), IntKind.wrap IntKind.i64 ((0 : Int) + IntKind.wrap IntKind.i64 (ni6 [x0, x1, x2] (0 : Int) * m)), IntKind.wrap IntKind.i64 ((0 : Int) + IntKind.wrap IntKind.i64 (ni6 [x0, x1, x2] (1 : Int) * m))], (q, (m, (IntKind.wrap IntKind.i64 (al * IntKind.wrap IntKind.i64 (IntKind.wrap IntKind.i64 ((2 : Int) * n) + (1 : Int))), (IntKind.wrap IntKind.i64 (IntKind.wrap IntKind.i64 (A * IntKind.wrap IntKind.i64 (IntKind.wrap IntKind.i64 ((2 : Int) * n) + (1 : Int))) + IntKind.wrap IntKind.i64 (ni6 [x0, x1, x2] (2 : Int) * m)), (IntKind.wrap IntKind.i64 (i + (1 : Int)), (c, (p, (d, (n, (st, (lo, (li, ())))))))))))))))))))))))))))
   (.leaf (.inr (.exit (2 : Nat), [.n (al), .n (A)])))) := by kernel_rfl
theorem len3 {l : List Int} (h : l.length = 3) : ∃ x0 x1 x2 : Int, l = [x0, x1, x2] := by
  match l, h with
  | [x0, x1, x2], _ => exact ⟨x0, x1, x2, rfl⟩
theorem sR3 (x0 x1 x2 A B m D : Int) : st3 B m D ⟨x0, x1, x2, A, 0, 0, 0, 0, 0⟩ = ⟨ad (ad (ad (0) (mu x0 D)) (mu x1 D)) (mu x2 D), ad 0 (mu x0 m), ad 0 (mu x1 m), ad (mu A B) (mu x2 m), 0, 0, 0, 0, 0⟩ := by
  simp only [st3, mu_c D, mu_c m, mu_c B, ad_z]
  rw [ad_c (mu x2 m)]
theorem nR3 (l : List Int) (q : Int) (m : Int) (al : Int) (A : Int) (i : Int) (c : Int) (p : Int) (d : Int) (n : Int) (st : Int) (lo : Int) (li : Int) (K : Ex × List (V T) → Prop) (hI : l.length = 3 ∧ 0 ≤ i ∧ i ≤ q ∧ q ≤ 12) (hK : (.leaf (.exit 2, [.n (als (bb n) (q - i).toNat al), .n (it3 (bb n) m (IntKind.wrap IntKind.i64 (bb n - m)) (q - i).toNat ⟨ni6 l 0, ni6 l 1, ni6 l 2, A, 0, 0, 0, 0, 0⟩).a3]) : Tree (Ex × List (V T))).holds K) : (cR3.out (l, q, m, al, A, i, c, p, d, n, st, lo, li, ())).holds K := ⟨hI, hK⟩
theorem hR3' (l : List Int) (q : Int) (m : Int) (al : Int) (A : Int) (i : Int) (c : Int) (p : Int) (d : Int) (n : Int) (st : Int) (lo : Int) (li : Int) (K : Ex × List (V T) → Prop) (hI : l.length = 3 ∧ 0 ≤ i ∧ i ≤ q ∧ q ≤ 12) (hK : (.leaf (.exit 2, [.n (als (bb n) (q - i).toNat al), .n (it3 (bb n) m (IntKind.wrap IntKind.i64 (bb n - m)) (q - i).toNat ⟨ni6 l 0, ni6 l 1, ni6 l 2, A, 0, 0, 0, 0, 0⟩).a3]) : Tree (Ex × List (V T))).holds K) :
    (bodyD Try.prog E cR3 0 (bodyX Try.prog E ctFa noLoops 1000 7 L0 (lpOf Try.prog 56 1)) (l, q, m, al, A, i, c, p, d, n, st, lo, li, ())).holds fun y => match y with
    | .inl d => (d.2.1 - d.2.2.2.2.2.1).toNat < (q - i).toNat ∧ (cR3.out d).holds K
    | .inr y => K y := by
  obtain ⟨hl, h0, h1, h2⟩ := hI
  obtain ⟨x0, x1, x2, rfl⟩ := len3 hl
  rw [bR3]
  refine way (fun k => ?_) fun k => ?_
  · have e1 : IntKind.wrap IntKind.i64 (i + 1) = i + 1 := i64_in' (by omega) (by omega)
    have hlt : (q - (i + 1)).toNat < (q - i).toNat := by omega
    rw [e1]
    rw [show (q - i).toNat = (q - (i + 1)).toNat + 1 by omega] at hK
    have hK : K (.exit 2, [.n (als (bb n) (q - (i + 1)).toNat (mu al (bb n))), .n (it3 (bb n) m (IntKind.wrap IntKind.i64 (bb n - m)) (q - (i + 1)).toNat (st3 (bb n) m (IntKind.wrap IntKind.i64 (bb n - m)) ⟨x0, x1, x2, A, 0, 0, 0, 0, 0⟩)).a3]) := hK
    rw [sR3] at hK
    exact ⟨rfl, rfl, rfl, rfl, rfl, rfl, rfl, rfl, rfl, rfl, rfl, rfl, hlt, nR3 _ _ _ _ _ _ _ _ _ _ _ _ _ K ⟨rfl, by omega, by omega, h2⟩ hK⟩
  · rw [show (q - i).toNat = 0 by omega] at hK
    exact hK
theorem hR3 : LoopH Try.prog E cR3 0 (bodyX Try.prog E ctFa noLoops 1000 7 L0 (lpOf Try.prog 56 1)) :=
  ⟨fun d => (d.2.1 - d.2.2.2.2.2.1).toNat, fun dd K hK => by
    obtain ⟨l, q, m, al, A, i, c, p, d, n, st, lo, li, ⟨⟩⟩ := dd
    obtain ⟨hI, hK⟩ := hK
    refine Tree.holds_mono (fun y hy => ?_) (hR3' l q m al A i c p d n st lo li K hI hK)
    cases y with
    | inl d' => exact hy
    | inr y => exact hy⟩
noncomputable def oR4 (l : List Int) (q : Int) (m : Int) (al : Int) (A : Int) (i : Int) (c : Int) (p : Int) (d : Int) (n : Int) (st : Int) (lo : Int) (li : Int) : Tree (Ex × List (V T)) := .req (l.length = 4 ∧ 0 ≤ i ∧ i ≤ q ∧ q ≤ 12) (.leaf (.exit 2, [.n (als (bb n) (q - i).toNat al), .n (it4 (bb n) m (IntKind.wrap IntKind.i64 (bb n - m)) (q - i).toNat ⟨ni6 l 0, ni6 l 1, ni6 l 2, ni6 l 3, A, 0, 0, 0, 0⟩).a4]))
noncomputable def cR4 : LoopC T := ⟨[.l 2, .n, .n, .n, .n, .n, .n, .n, .n, .n, .n, .n, .n], ⟨121, [(1, .one (.i .i64)), (2, .one (.o 0 0)), (8, .one (.i .i64)), (10, .one (.i .i64)), (11, .one (.i .i64)), (12, .one (.g 1 2)), (13, .one (.i .i64))], [.c [.i .i64, .i .i64, .i .i64, .i .i64, .i .i64, .i .i64, .i .i64, .k .i64 4], .l 2]⟩, fun _ => ⟨121, [(10, .one (.i .i64)), (11, .one (.i .i64))], []⟩, 60, fun d => oR4 d.1 d.2.1 d.2.2.1 d.2.2.2.1 d.2.2.2.2.1 d.2.2.2.2.2.1 d.2.2.2.2.2.2.1 d.2.2.2.2.2.2.2.1 d.2.2.2.2.2.2.2.2.1 d.2.2.2.2.2.2.2.2.2.1 d.2.2.2.2.2.2.2.2.2.2.1 d.2.2.2.2.2.2.2.2.2.2.2.1 d.2.2.2.2.2.2.2.2.2.2.2.2.1⟩
theorem bR4 (x0 : Int) (x1 : Int) (x2 : Int) (x3 : Int) (q : Int) (m : Int) (al : Int) (A : Int) (i : Int) (c : Int) (p : Int) (d : Int) (n : Int) (st : Int) (lo : Int) (li : Int) : bodyD Try.prog E cR4 0 (bodyX Try.prog E ctFa noLoops 1000 7 L0 (lpOf Try.prog 56 1)) (([x0, x1, x2, x3] : List Int), q, m, al, A, i, c, p, d, n, st, lo, li, ()) =
  (.br (decide (i < q))
   (.req ((true && decide ((0 : Int) < (↑(List.length [x0, x1, x2, x3]) : Int))) = true)
   (.req ((true && decide ((0 : Int) < (↑(List.length [x0, x1, x2, x3]) : Int))) = true)
   (.req ((true && decide ((0 : Int) < (↑(List.length [x0, x1, x2, x3]) : Int))) = true)
   (.req ((true && decide ((0 : Int) < (↑(List.length [x0, x1, x2, x3]) : Int))) = true)
   (.req ((true && decide ((1 : Int) < (↑(List.length [x0, x1, x2, x3]) : Int))) = true)
   (.req ((true && decide ((1 : Int) < (↑(List.length [x0, x1, x2, x3]) : Int))) = true)
   (.req ((true && decide ((1 : Int) < (↑(List.length [x0, x1, x2, x3]) : Int))) = true)
   (.req ((true && decide ((1 : Int) < (↑(List.length [x0, x1, x2, x3]) : Int))) = true)
   (.req ((true && decide ((2 : Int) < (↑(List.length [x0, x1, x2, x3]) : Int))) = true)
   (.req ((true && decide ((2 : Int) < (↑(List.length [x0, x1, x2, x3]) : Int))) = true)
   (.req ((true && decide ((2 : Int) < (↑(List.length [x0, x1, x2, x3]) : Int))) = true)
   (.req ((true && decide ((2 : Int) < (↑(List.length [x0, x1, x2, x3]) : Int))) = true)
   (.req ((true && decide ((3 : Int) < (↑(List.length [x0, x1, x2, x3]) : Int))) = true)
   (.req ((true && decide ((3 : Int) < (↑(List.length [x0, x1, x2, x3]) : Int))) = true)
   (.req ((true && decide ((3 : Int) < (↑(List.length [x0, x1, x2, x3]) : Int))) = true)
   (.req ((true && decide ((3 : Int) < (↑(List.length [x0, x1, x2, x3]) : Int))) = true)
   (.leaf (.inl ([IntKind.wrap IntKind.i64 (IntKind.wrap IntKind.i64 (IntKind.wrap IntKind.i64 (IntKind.wrap IntKind.i64 ((0 : Int) + IntKind.wrap IntKind.i64 (ni6 [x0, x1, x2, x3] (0 : Int) * IntKind.wrap IntKind.i64 (IntKind.wrap IntKind.i64 (IntKind.wrap IntKind.i64 ((2 : Int) * n) + (1 : Int)) - m))) + IntKind.wrap IntKind.i64 (ni6 [x0, x1, x2, x3] (1 : Int) * IntKind.wrap IntKind.i64 (IntKind.wrap IntKind.i64 (IntKind.wrap IntKind.i64 ((2 : Int) * n) + (1 : Int)) - m))) + IntKind.wrap IntKind.i64 (ni6 [x0, x1, x2, x3] (2 : Int) * IntKind.wrap IntKind.i64 (IntKind.wrap IntKind.i64 (IntKind.wrap IntKind.i64 ((2 : Int) * n) + (1 : Int)) - m))) + IntKind.wrap IntKind.i64 (ni6 [x0, x1, x2, x3] (3 : Int) * IntKind.wrap IntKind.i64 (IntKind.wrap IntKind.i64 (IntKind.wrap IntKind.i64 ((2 : Int) * n) + (1 : Int)) - m))), IntKind.wrap IntKind.i64 ((0 : Int) + IntKind.wrap IntKind.i64 (ni6 [x0, x1, x2, x3] (0 : Int) * m)), IntKind.wrap IntKind.i64 ((0 : Int) + IntKind.wrap IntKind.i64 (ni6 [x0, x1, x2, x3] (1 : Int) * m)), IntKind.wrap IntKind.i64 ((0 : Int) + IntKind.wrap IntKind.i64 (ni6 [x0, x1, x2, x3] (2 : Int) * m))], (q, (m, (IntKind.wrap IntKind.i64 (al * IntKind.wrap IntKind.i64 (IntKind.wrap IntKind.i64 ((2 : Int) * n) + (1 : Int))), (IntKind.wrap IntKind.i64 (IntKind.wrap IntKind.i64 (A * IntKind.wrap IntKind.i64 (IntKind.wrap IntKind.i64 ((2 : Int) * n) + (1 : Int))) + IntKind.wrap IntKind.i64 (ni6 [x0, x1, x2, x3] (3 : Int) * m)), (IntKind.wrap IntKind.i64 (i + (1 : Int)), (c, (p, (d, (n, (st, (lo, (li, ())))))))))))))))))))))))))))))))
   (.leaf (.inr (.exit (2 : Nat), [.n (al), .n (A)])))) := by kernel_rfl
theorem len4 {l : List Int} (h : l.length = 4) : ∃ x0 x1 x2 x3 : Int, l = [x0, x1, x2, x3] := by
  match l, h with
  | [x0, x1, x2, x3], _ => exact ⟨x0, x1, x2, x3, rfl⟩
theorem sR4 (x0 x1 x2 x3 A B m D : Int) : st4 B m D ⟨x0, x1, x2, x3, A, 0, 0, 0, 0⟩ = ⟨ad (ad (ad (ad (0) (mu x0 D)) (mu x1 D)) (mu x2 D)) (mu x3 D), ad 0 (mu x0 m), ad 0 (mu x1 m), ad 0 (mu x2 m), ad (mu A B) (mu x3 m), 0, 0, 0, 0⟩ := by
  simp only [st4, mu_c D, mu_c m, mu_c B, ad_z]
  rw [ad_c (mu x3 m)]
theorem nR4 (l : List Int) (q : Int) (m : Int) (al : Int) (A : Int) (i : Int) (c : Int) (p : Int) (d : Int) (n : Int) (st : Int) (lo : Int) (li : Int) (K : Ex × List (V T) → Prop) (hI : l.length = 4 ∧ 0 ≤ i ∧ i ≤ q ∧ q ≤ 12) (hK : (.leaf (.exit 2, [.n (als (bb n) (q - i).toNat al), .n (it4 (bb n) m (IntKind.wrap IntKind.i64 (bb n - m)) (q - i).toNat ⟨ni6 l 0, ni6 l 1, ni6 l 2, ni6 l 3, A, 0, 0, 0, 0⟩).a4]) : Tree (Ex × List (V T))).holds K) : (cR4.out (l, q, m, al, A, i, c, p, d, n, st, lo, li, ())).holds K := ⟨hI, hK⟩
theorem hR4' (l : List Int) (q : Int) (m : Int) (al : Int) (A : Int) (i : Int) (c : Int) (p : Int) (d : Int) (n : Int) (st : Int) (lo : Int) (li : Int) (K : Ex × List (V T) → Prop) (hI : l.length = 4 ∧ 0 ≤ i ∧ i ≤ q ∧ q ≤ 12) (hK : (.leaf (.exit 2, [.n (als (bb n) (q - i).toNat al), .n (it4 (bb n) m (IntKind.wrap IntKind.i64 (bb n - m)) (q - i).toNat ⟨ni6 l 0, ni6 l 1, ni6 l 2, ni6 l 3, A, 0, 0, 0, 0⟩).a4]) : Tree (Ex × List (V T))).holds K) :
    (bodyD Try.prog E cR4 0 (bodyX Try.prog E ctFa noLoops 1000 7 L0 (lpOf Try.prog 56 1)) (l, q, m, al, A, i, c, p, d, n, st, lo, li, ())).holds fun y => match y with
    | .inl d => (d.2.1 - d.2.2.2.2.2.1).toNat < (q - i).toNat ∧ (cR4.out d).holds K
    | .inr y => K y := by
  obtain ⟨hl, h0, h1, h2⟩ := hI
  obtain ⟨x0, x1, x2, x3, rfl⟩ := len4 hl
  rw [bR4]
  refine way (fun k => ?_) fun k => ?_
  · have e1 : IntKind.wrap IntKind.i64 (i + 1) = i + 1 := i64_in' (by omega) (by omega)
    have hlt : (q - (i + 1)).toNat < (q - i).toNat := by omega
    rw [e1]
    rw [show (q - i).toNat = (q - (i + 1)).toNat + 1 by omega] at hK
    have hK : K (.exit 2, [.n (als (bb n) (q - (i + 1)).toNat (mu al (bb n))), .n (it4 (bb n) m (IntKind.wrap IntKind.i64 (bb n - m)) (q - (i + 1)).toNat (st4 (bb n) m (IntKind.wrap IntKind.i64 (bb n - m)) ⟨x0, x1, x2, x3, A, 0, 0, 0, 0⟩)).a4]) := hK
    rw [sR4] at hK
    exact ⟨rfl, rfl, rfl, rfl, rfl, rfl, rfl, rfl, rfl, rfl, rfl, rfl, rfl, rfl, rfl, rfl, hlt, nR4 _ _ _ _ _ _ _ _ _ _ _ _ _ K ⟨rfl, by omega, by omega, h2⟩ hK⟩
  · rw [show (q - i).toNat = 0 by omega] at hK
    exact hK
theorem hR4 : LoopH Try.prog E cR4 0 (bodyX Try.prog E ctFa noLoops 1000 7 L0 (lpOf Try.prog 56 1)) :=
  ⟨fun d => (d.2.1 - d.2.2.2.2.2.1).toNat, fun dd K hK => by
    obtain ⟨l, q, m, al, A, i, c, p, d, n, st, lo, li, ⟨⟩⟩ := dd
    obtain ⟨hI, hK⟩ := hK
    refine Tree.holds_mono (fun y hy => ?_) (hR4' l q m al A i c p d n st lo li K hI hK)
    cases y with
    | inl d' => exact hy
    | inr y => exact hy⟩
noncomputable def oR5 (l : List Int) (q : Int) (m : Int) (al : Int) (A : Int) (i : Int) (c : Int) (p : Int) (d : Int) (n : Int) (st : Int) (lo : Int) (li : Int) : Tree (Ex × List (V T)) := .req (l.length = 5 ∧ 0 ≤ i ∧ i ≤ q ∧ q ≤ 12) (.leaf (.exit 2, [.n (als (bb n) (q - i).toNat al), .n (it5 (bb n) m (IntKind.wrap IntKind.i64 (bb n - m)) (q - i).toNat ⟨ni6 l 0, ni6 l 1, ni6 l 2, ni6 l 3, ni6 l 4, A, 0, 0, 0⟩).a5]))
noncomputable def cR5 : LoopC T := ⟨[.l 2, .n, .n, .n, .n, .n, .n, .n, .n, .n, .n, .n, .n], ⟨121, [(1, .one (.i .i64)), (2, .one (.o 0 0)), (8, .one (.i .i64)), (10, .one (.i .i64)), (11, .one (.i .i64)), (12, .one (.g 1 2)), (13, .one (.i .i64))], [.c [.i .i64, .i .i64, .i .i64, .i .i64, .i .i64, .i .i64, .i .i64, .k .i64 5], .l 2]⟩, fun _ => ⟨121, [(10, .one (.i .i64)), (11, .one (.i .i64))], []⟩, 60, fun d => oR5 d.1 d.2.1 d.2.2.1 d.2.2.2.1 d.2.2.2.2.1 d.2.2.2.2.2.1 d.2.2.2.2.2.2.1 d.2.2.2.2.2.2.2.1 d.2.2.2.2.2.2.2.2.1 d.2.2.2.2.2.2.2.2.2.1 d.2.2.2.2.2.2.2.2.2.2.1 d.2.2.2.2.2.2.2.2.2.2.2.1 d.2.2.2.2.2.2.2.2.2.2.2.2.1⟩
theorem bR5 (x0 : Int) (x1 : Int) (x2 : Int) (x3 : Int) (x4 : Int) (q : Int) (m : Int) (al : Int) (A : Int) (i : Int) (c : Int) (p : Int) (d : Int) (n : Int) (st : Int) (lo : Int) (li : Int) : bodyD Try.prog E cR5 0 (bodyX Try.prog E ctFa noLoops 1000 7 L0 (lpOf Try.prog 56 1)) (([x0, x1, x2, x3, x4] : List Int), q, m, al, A, i, c, p, d, n, st, lo, li, ()) =
  (.br (decide (i < q))
   (.req ((true && decide ((0 : Int) < (↑(List.length [x0, x1, x2, x3, x4]) : Int))) = true)
   (.req ((true && decide ((0 : Int) < (↑(List.length [x0, x1, x2, x3, x4]) : Int))) = true)
   (.req ((true && decide ((0 : Int) < (↑(List.length [x0, x1, x2, x3, x4]) : Int))) = true)
   (.req ((true && decide ((0 : Int) < (↑(List.length [x0, x1, x2, x3, x4]) : Int))) = true)
   (.req ((true && decide ((1 : Int) < (↑(List.length [x0, x1, x2, x3, x4]) : Int))) = true)
   (.req ((true && decide ((1 : Int) < (↑(List.length [x0, x1, x2, x3, x4]) : Int))) = true)
   (.req ((true && decide ((1 : Int) < (↑(List.length [x0, x1, x2, x3, x4]) : Int))) = true)
   (.req ((true && decide ((1 : Int) < (↑(List.length [x0, x1, x2, x3, x4]) : Int))) = true)
   (.req ((true && decide ((2 : Int) < (↑(List.length [x0, x1, x2, x3, x4]) : Int))) = true)
   (.req ((true && decide ((2 : Int) < (↑(List.length [x0, x1, x2, x3, x4]) : Int))) = true)
   (.req ((true && decide ((2 : Int) < (↑(List.length [x0, x1, x2, x3, x4]) : Int))) = true)
   (.req ((true && decide ((2 : Int) < (↑(List.length [x0, x1, x2, x3, x4]) : Int))) = true)
   (.req ((true && decide ((3 : Int) < (↑(List.length [x0, x1, x2, x3, x4]) : Int))) = true)
   (.req ((true && decide ((3 : Int) < (↑(List.length [x0, x1, x2, x3, x4]) : Int))) = true)
   (.req ((true && decide ((3 : Int) < (↑(List.length [x0, x1, x2, x3, x4]) : Int))) = true)
   (.req ((true && decide ((3 : Int) < (↑(List.length [x0, x1, x2, x3, x4]) : Int))) = true)
   (.req ((true && decide ((4 : Int) < (↑(List.length [x0, x1, x2, x3, x4]) : Int))) = true)
   (.req ((true && decide ((4 : Int) < (↑(List.length [x0, x1, x2, x3, x4]) : Int))) = true)
   (.req ((true && decide ((4 : Int) < (↑(List.length [x0, x1, x2, x3, x4]) : Int))) = true)
   (.req ((true && decide ((4 : Int) < (↑(List.length [x0, x1, x2, x3, x4]) : Int))) = true)
   (.leaf (.inl ([IntKind.wrap IntKind.i64 (IntKind.wrap IntKind.i64 (IntKind.wrap IntKind.i64 (IntKind.wrap IntKind.i64 (IntKind.wrap IntKind.i64 ((0 : Int) + IntKind.wrap IntKind.i64 (ni6 [x0, x1, x2, x3, x4] (0 : Int) * IntKind.wrap IntKind.i64 (IntKind.wrap IntKind.i64 (IntKind.wrap IntKind.i64 ((2 : Int) * n) + (1 : Int)) - m))) + IntKind.wrap IntKind.i64 (ni6 [x0, x1, x2, x3, x4] (1 : Int) * IntKind.wrap IntKind.i64 (IntKind.wrap IntKind.i64 (IntKind.wrap IntKind.i64 ((2 : Int) * n) + (1 : Int)) - m))) + IntKind.wrap IntKind.i64 (ni6 [x0, x1, x2, x3, x4] (2 : Int) * IntKind.wrap IntKind.i64 (IntKind.wrap IntKind.i64 (IntKind.wrap IntKind.i64 ((2 : Int) * n) + (1 : Int)) - m))) + IntKind.wrap IntKind.i64 (ni6 [x0, x1, x2, x3, x4] (3 : Int) * IntKind.wrap IntKind.i64 (IntKind.wrap IntKind.i64 (IntKind.wrap IntKind.i64 ((2 : Int) * n) + (1 : Int)) - m))) + IntKind.wrap IntKind.i64 (ni6 [x0, x1, x2, x3, x4] (4 : Int) * IntKind.wrap IntKind.i64 (IntKind.wrap IntKind.i64 (IntKind.wrap IntKind.i64 ((2 : Int) * n) + (1 : Int)) - m))), IntKind.wrap IntKind.i64 ((0 : Int) + IntKind.wrap IntKind.i64 (ni6 [x0, x1, x2, x3, x4] (0 : Int) * m)), IntKind.wrap IntKind.i64 ((0 : Int) + IntKind.wrap IntKind.i64 (ni6 [x0, x1, x2, x3, x4] (1 : Int) * m)), IntKind.wrap IntKind.i64 ((0 : Int) + IntKind.wrap IntKind.i64 (ni6 [x0, x1, x2, x3, x4] (2 : Int) * m)), IntKind.wrap IntKind.i64 ((0 : Int) + IntKind.wrap IntKind.i64 (ni6 [x0, x1, x2, x3, x4] (3 : Int) * m))], (q, (m, (IntKind.wrap IntKind.i64 (al * IntKind.wrap IntKind.i64 (IntKind.wrap IntKind.i64 ((2 : Int) * n) + (1 : Int))), (IntKind.wrap IntKind.i64 (IntKind.wrap IntKind.i64 (A * IntKind.wrap IntKind.i64 (IntKind.wrap IntKind.i64 ((2 : Int) * n) + (1 : Int))) + IntKind.wrap IntKind.i64 (ni6 [x0, x1, x2, x3, x4] (4 : Int) * m)), (IntKind.wrap IntKind.i64 (i + (1 : Int)), (c, (p, (d, (n, (st, (lo, (li, ())))))))))))))))))))))))))))))))))))
   (.leaf (.inr (.exit (2 : Nat), [.n (al), .n (A)])))) := by kernel_rfl
theorem len5 {l : List Int} (h : l.length = 5) : ∃ x0 x1 x2 x3 x4 : Int, l = [x0, x1, x2, x3, x4] := by
  match l, h with
  | [x0, x1, x2, x3, x4], _ => exact ⟨x0, x1, x2, x3, x4, rfl⟩
theorem sR5 (x0 x1 x2 x3 x4 A B m D : Int) : st5 B m D ⟨x0, x1, x2, x3, x4, A, 0, 0, 0⟩ = ⟨ad (ad (ad (ad (ad (0) (mu x0 D)) (mu x1 D)) (mu x2 D)) (mu x3 D)) (mu x4 D), ad 0 (mu x0 m), ad 0 (mu x1 m), ad 0 (mu x2 m), ad 0 (mu x3 m), ad (mu A B) (mu x4 m), 0, 0, 0⟩ := by
  simp only [st5, mu_c D, mu_c m, mu_c B, ad_z]
  rw [ad_c (mu x4 m)]
theorem nR5 (l : List Int) (q : Int) (m : Int) (al : Int) (A : Int) (i : Int) (c : Int) (p : Int) (d : Int) (n : Int) (st : Int) (lo : Int) (li : Int) (K : Ex × List (V T) → Prop) (hI : l.length = 5 ∧ 0 ≤ i ∧ i ≤ q ∧ q ≤ 12) (hK : (.leaf (.exit 2, [.n (als (bb n) (q - i).toNat al), .n (it5 (bb n) m (IntKind.wrap IntKind.i64 (bb n - m)) (q - i).toNat ⟨ni6 l 0, ni6 l 1, ni6 l 2, ni6 l 3, ni6 l 4, A, 0, 0, 0⟩).a5]) : Tree (Ex × List (V T))).holds K) : (cR5.out (l, q, m, al, A, i, c, p, d, n, st, lo, li, ())).holds K := ⟨hI, hK⟩
theorem hR5' (l : List Int) (q : Int) (m : Int) (al : Int) (A : Int) (i : Int) (c : Int) (p : Int) (d : Int) (n : Int) (st : Int) (lo : Int) (li : Int) (K : Ex × List (V T) → Prop) (hI : l.length = 5 ∧ 0 ≤ i ∧ i ≤ q ∧ q ≤ 12) (hK : (.leaf (.exit 2, [.n (als (bb n) (q - i).toNat al), .n (it5 (bb n) m (IntKind.wrap IntKind.i64 (bb n - m)) (q - i).toNat ⟨ni6 l 0, ni6 l 1, ni6 l 2, ni6 l 3, ni6 l 4, A, 0, 0, 0⟩).a5]) : Tree (Ex × List (V T))).holds K) :
    (bodyD Try.prog E cR5 0 (bodyX Try.prog E ctFa noLoops 1000 7 L0 (lpOf Try.prog 56 1)) (l, q, m, al, A, i, c, p, d, n, st, lo, li, ())).holds fun y => match y with
    | .inl d => (d.2.1 - d.2.2.2.2.2.1).toNat < (q - i).toNat ∧ (cR5.out d).holds K
    | .inr y => K y := by
  obtain ⟨hl, h0, h1, h2⟩ := hI
  obtain ⟨x0, x1, x2, x3, x4, rfl⟩ := len5 hl
  rw [bR5]
  refine way (fun k => ?_) fun k => ?_
  · have e1 : IntKind.wrap IntKind.i64 (i + 1) = i + 1 := i64_in' (by omega) (by omega)
    have hlt : (q - (i + 1)).toNat < (q - i).toNat := by omega
    rw [e1]
    rw [show (q - i).toNat = (q - (i + 1)).toNat + 1 by omega] at hK
    have hK : K (.exit 2, [.n (als (bb n) (q - (i + 1)).toNat (mu al (bb n))), .n (it5 (bb n) m (IntKind.wrap IntKind.i64 (bb n - m)) (q - (i + 1)).toNat (st5 (bb n) m (IntKind.wrap IntKind.i64 (bb n - m)) ⟨x0, x1, x2, x3, x4, A, 0, 0, 0⟩)).a5]) := hK
    rw [sR5] at hK
    exact ⟨rfl, rfl, rfl, rfl, rfl, rfl, rfl, rfl, rfl, rfl, rfl, rfl, rfl, rfl, rfl, rfl, rfl, rfl, rfl, rfl, hlt, nR5 _ _ _ _ _ _ _ _ _ _ _ _ _ K ⟨rfl, by omega, by omega, h2⟩ hK⟩
  · rw [show (q - i).toNat = 0 by omega] at hK
    exact hK
theorem hR5 : LoopH Try.prog E cR5 0 (bodyX Try.prog E ctFa noLoops 1000 7 L0 (lpOf Try.prog 56 1)) :=
  ⟨fun d => (d.2.1 - d.2.2.2.2.2.1).toNat, fun dd K hK => by
    obtain ⟨l, q, m, al, A, i, c, p, d, n, st, lo, li, ⟨⟩⟩ := dd
    obtain ⟨hI, hK⟩ := hK
    refine Tree.holds_mono (fun y hy => ?_) (hR5' l q m al A i c p d n st lo li K hI hK)
    cases y with
    | inl d' => exact hy
    | inr y => exact hy⟩
noncomputable def oR6 (l : List Int) (q : Int) (m : Int) (al : Int) (A : Int) (i : Int) (c : Int) (p : Int) (d : Int) (n : Int) (st : Int) (lo : Int) (li : Int) : Tree (Ex × List (V T)) := .req (l.length = 6 ∧ 0 ≤ i ∧ i ≤ q ∧ q ≤ 12) (.leaf (.exit 2, [.n (als (bb n) (q - i).toNat al), .n (it6 (bb n) m (IntKind.wrap IntKind.i64 (bb n - m)) (q - i).toNat ⟨ni6 l 0, ni6 l 1, ni6 l 2, ni6 l 3, ni6 l 4, ni6 l 5, A, 0, 0⟩).a6]))
noncomputable def cR6 : LoopC T := ⟨[.l 2, .n, .n, .n, .n, .n, .n, .n, .n, .n, .n, .n, .n], ⟨121, [(1, .one (.i .i64)), (2, .one (.o 0 0)), (8, .one (.i .i64)), (10, .one (.i .i64)), (11, .one (.i .i64)), (12, .one (.g 1 2)), (13, .one (.i .i64))], [.c [.i .i64, .i .i64, .i .i64, .i .i64, .i .i64, .i .i64, .i .i64, .k .i64 6], .l 2]⟩, fun _ => ⟨121, [(10, .one (.i .i64)), (11, .one (.i .i64))], []⟩, 60, fun d => oR6 d.1 d.2.1 d.2.2.1 d.2.2.2.1 d.2.2.2.2.1 d.2.2.2.2.2.1 d.2.2.2.2.2.2.1 d.2.2.2.2.2.2.2.1 d.2.2.2.2.2.2.2.2.1 d.2.2.2.2.2.2.2.2.2.1 d.2.2.2.2.2.2.2.2.2.2.1 d.2.2.2.2.2.2.2.2.2.2.2.1 d.2.2.2.2.2.2.2.2.2.2.2.2.1⟩
theorem bR6 (x0 : Int) (x1 : Int) (x2 : Int) (x3 : Int) (x4 : Int) (x5 : Int) (q : Int) (m : Int) (al : Int) (A : Int) (i : Int) (c : Int) (p : Int) (d : Int) (n : Int) (st : Int) (lo : Int) (li : Int) : bodyD Try.prog E cR6 0 (bodyX Try.prog E ctFa noLoops 1000 7 L0 (lpOf Try.prog 56 1)) (([x0, x1, x2, x3, x4, x5] : List Int), q, m, al, A, i, c, p, d, n, st, lo, li, ()) =
  (.br (decide (i < q))
   (.req ((true && decide ((0 : Int) < (↑(List.length [x0, x1, x2, x3, x4, x5]) : Int))) = true)
   (.req ((true && decide ((0 : Int) < (↑(List.length [x0, x1, x2, x3, x4, x5]) : Int))) = true)
   (.req ((true && decide ((0 : Int) < (↑(List.length [x0, x1, x2, x3, x4, x5]) : Int))) = true)
   (.req ((true && decide ((0 : Int) < (↑(List.length [x0, x1, x2, x3, x4, x5]) : Int))) = true)
   (.req ((true && decide ((1 : Int) < (↑(List.length [x0, x1, x2, x3, x4, x5]) : Int))) = true)
   (.req ((true && decide ((1 : Int) < (↑(List.length [x0, x1, x2, x3, x4, x5]) : Int))) = true)
   (.req ((true && decide ((1 : Int) < (↑(List.length [x0, x1, x2, x3, x4, x5]) : Int))) = true)
   (.req ((true && decide ((1 : Int) < (↑(List.length [x0, x1, x2, x3, x4, x5]) : Int))) = true)
   (.req ((true && decide ((2 : Int) < (↑(List.length [x0, x1, x2, x3, x4, x5]) : Int))) = true)
   (.req ((true && decide ((2 : Int) < (↑(List.length [x0, x1, x2, x3, x4, x5]) : Int))) = true)
   (.req ((true && decide ((2 : Int) < (↑(List.length [x0, x1, x2, x3, x4, x5]) : Int))) = true)
   (.req ((true && decide ((2 : Int) < (↑(List.length [x0, x1, x2, x3, x4, x5]) : Int))) = true)
   (.req ((true && decide ((3 : Int) < (↑(List.length [x0, x1, x2, x3, x4, x5]) : Int))) = true)
   (.req ((true && decide ((3 : Int) < (↑(List.length [x0, x1, x2, x3, x4, x5]) : Int))) = true)
   (.req ((true && decide ((3 : Int) < (↑(List.length [x0, x1, x2, x3, x4, x5]) : Int))) = true)
   (.req ((true && decide ((3 : Int) < (↑(List.length [x0, x1, x2, x3, x4, x5]) : Int))) = true)
   (.req ((true && decide ((4 : Int) < (↑(List.length [x0, x1, x2, x3, x4, x5]) : Int))) = true)
   (.req ((true && decide ((4 : Int) < (↑(List.length [x0, x1, x2, x3, x4, x5]) : Int))) = true)
   (.req ((true && decide ((4 : Int) < (↑(List.length [x0, x1, x2, x3, x4, x5]) : Int))) = true)
   (.req ((true && decide ((4 : Int) < (↑(List.length [x0, x1, x2, x3, x4, x5]) : Int))) = true)
   (.req ((true && decide ((5 : Int) < (↑(List.length [x0, x1, x2, x3, x4, x5]) : Int))) = true)
   (.req ((true && decide ((5 : Int) < (↑(List.length [x0, x1, x2, x3, x4, x5]) : Int))) = true)
   (.req ((true && decide ((5 : Int) < (↑(List.length [x0, x1, x2, x3, x4, x5]) : Int))) = true)
   (.req ((true && decide ((5 : Int) < (↑(List.length [x0, x1, x2, x3, x4, x5]) : Int))) = true)
   (.leaf (.inl ([IntKind.wrap IntKind.i64 (IntKind.wrap IntKind.i64 (IntKind.wrap IntKind.i64 (IntKind.wrap IntKind.i64 (IntKind.wrap IntKind.i64 (IntKind.wrap IntKind.i64 ((0 : Int) + IntKind.wrap IntKind.i64 (ni6 [x0, x1, x2, x3, x4, x5] (0 : Int) * IntKind.wrap IntKind.i64 (IntKind.wrap IntKind.i64 (IntKind.wrap IntKind.i64 ((2 : Int) * n) + (1 : Int)) - m))) + IntKind.wrap IntKind.i64 (ni6 [x0, x1, x2, x3, x4, x5] (1 : Int) * IntKind.wrap IntKind.i64 (IntKind.wrap IntKind.i64 (IntKind.wrap IntKind.i64 ((2 : Int) * n) + (1 : Int)) - m))) + IntKind.wrap IntKind.i64 (ni6 [x0, x1, x2, x3, x4, x5] (2 : Int) * IntKind.wrap IntKind.i64 (IntKind.wrap IntKind.i64 (IntKind.wrap IntKind.i64 ((2 : Int) * n) + (1 : Int)) - m))) + IntKind.wrap IntKind.i64 (ni6 [x0, x1, x2, x3, x4, x5] (3 : Int) * IntKind.wrap IntKind.i64 (IntKind.wrap IntKind.i64 (IntKind.wrap IntKind.i64 ((2 : Int) * n) + (1 : Int)) - m))) + IntKind.wrap IntKind.i64 (ni6 [x0, x1, x2, x3, x4, x5] (4 : Int) * IntKind.wrap IntKind.i64 (IntKind.wrap IntKind.i64 (IntKind.wrap IntKind.i64 ((2 : Int) * n) + (1 : Int)) - m))) + IntKind.wrap IntKind.i64 (ni6 [x0, x1, x2, x3, x4, x5] (5 : Int) * IntKind.wrap IntKind.i64 (IntKind.wrap IntKind.i64 (IntKind.wrap IntKind.i64 ((2 : Int) * n) + (1 : Int)) - m))), IntKind.wrap IntKind.i64 ((0 : Int) + IntKind.wrap IntKind.i64 (ni6 [x0, x1, x2, x3, x4, x5] (0 : Int) * m)), IntKind.wrap IntKind.i64 ((0 : Int) + IntKind.wrap IntKind.i64 (ni6 [x0, x1, x2, x3, x4, x5] (1 : Int) * m)), IntKind.wrap IntKind.i64 ((0 : Int) + IntKind.wrap IntKind.i64 (ni6 [x0, x1, x2, x3, x4, x5] (2 : Int) * m)), IntKind.wrap IntKind.i64 ((0 : Int) + IntKind.wrap IntKind.i64 (ni6 [x0, x1, x2, x3, x4, x5] (3 : Int) * m)), IntKind.wrap IntKind.i64 ((0 : Int) + IntKind.wrap IntKind.i64 (ni6 [x0, x1, x2, x3, x4, x5] (4 : Int) * m))], (q, (m, (IntKind.wrap IntKind.i64 (al * IntKind.wrap IntKind.i64 (IntKind.wrap IntKind.i64 ((2 : Int) * n) + (1 : Int))), (IntKind.wrap IntKind.i64 (IntKind.wrap IntKind.i64 (A * IntKind.wrap IntKind.i64 (IntKind.wrap IntKind.i64 ((2 : Int) * n) + (1 : Int))) + IntKind.wrap IntKind.i64 (ni6 [x0, x1, x2, x3, x4, x5] (5 : Int) * m)), (IntKind.wrap IntKind.i64 (i + (1 : Int)), (c, (p, (d, (n, (st, (lo, (li, ())))))))))))))))))))))))))))))))))))))))
   (.leaf (.inr (.exit (2 : Nat), [.n (al), .n (A)])))) := by kernel_rfl
theorem len6 {l : List Int} (h : l.length = 6) : ∃ x0 x1 x2 x3 x4 x5 : Int, l = [x0, x1, x2, x3, x4, x5] := by
  match l, h with
  | [x0, x1, x2, x3, x4, x5], _ => exact ⟨x0, x1, x2, x3, x4, x5, rfl⟩
theorem sR6 (x0 x1 x2 x3 x4 x5 A B m D : Int) : st6 B m D ⟨x0, x1, x2, x3, x4, x5, A, 0, 0⟩ = ⟨ad (ad (ad (ad (ad (ad (0) (mu x0 D)) (mu x1 D)) (mu x2 D)) (mu x3 D)) (mu x4 D)) (mu x5 D), ad 0 (mu x0 m), ad 0 (mu x1 m), ad 0 (mu x2 m), ad 0 (mu x3 m), ad 0 (mu x4 m), ad (mu A B) (mu x5 m), 0, 0⟩ := by
  simp only [st6, mu_c D, mu_c m, mu_c B, ad_z]
  rw [ad_c (mu x5 m)]
theorem nR6 (l : List Int) (q : Int) (m : Int) (al : Int) (A : Int) (i : Int) (c : Int) (p : Int) (d : Int) (n : Int) (st : Int) (lo : Int) (li : Int) (K : Ex × List (V T) → Prop) (hI : l.length = 6 ∧ 0 ≤ i ∧ i ≤ q ∧ q ≤ 12) (hK : (.leaf (.exit 2, [.n (als (bb n) (q - i).toNat al), .n (it6 (bb n) m (IntKind.wrap IntKind.i64 (bb n - m)) (q - i).toNat ⟨ni6 l 0, ni6 l 1, ni6 l 2, ni6 l 3, ni6 l 4, ni6 l 5, A, 0, 0⟩).a6]) : Tree (Ex × List (V T))).holds K) : (cR6.out (l, q, m, al, A, i, c, p, d, n, st, lo, li, ())).holds K := ⟨hI, hK⟩
theorem hR6' (l : List Int) (q : Int) (m : Int) (al : Int) (A : Int) (i : Int) (c : Int) (p : Int) (d : Int) (n : Int) (st : Int) (lo : Int) (li : Int) (K : Ex × List (V T) → Prop) (hI : l.length = 6 ∧ 0 ≤ i ∧ i ≤ q ∧ q ≤ 12) (hK : (.leaf (.exit 2, [.n (als (bb n) (q - i).toNat al), .n (it6 (bb n) m (IntKind.wrap IntKind.i64 (bb n - m)) (q - i).toNat ⟨ni6 l 0, ni6 l 1, ni6 l 2, ni6 l 3, ni6 l 4, ni6 l 5, A, 0, 0⟩).a6]) : Tree (Ex × List (V T))).holds K) :
    (bodyD Try.prog E cR6 0 (bodyX Try.prog E ctFa noLoops 1000 7 L0 (lpOf Try.prog 56 1)) (l, q, m, al, A, i, c, p, d, n, st, lo, li, ())).holds fun y => match y with
    | .inl d => (d.2.1 - d.2.2.2.2.2.1).toNat < (q - i).toNat ∧ (cR6.out d).holds K
    | .inr y => K y := by
  obtain ⟨hl, h0, h1, h2⟩ := hI
  obtain ⟨x0, x1, x2, x3, x4, x5, rfl⟩ := len6 hl
  rw [bR6]
  refine way (fun k => ?_) fun k => ?_
  · have e1 : IntKind.wrap IntKind.i64 (i + 1) = i + 1 := i64_in' (by omega) (by omega)
    have hlt : (q - (i + 1)).toNat < (q - i).toNat := by omega
    rw [e1]
    rw [show (q - i).toNat = (q - (i + 1)).toNat + 1 by omega] at hK
    have hK : K (.exit 2, [.n (als (bb n) (q - (i + 1)).toNat (mu al (bb n))), .n (it6 (bb n) m (IntKind.wrap IntKind.i64 (bb n - m)) (q - (i + 1)).toNat (st6 (bb n) m (IntKind.wrap IntKind.i64 (bb n - m)) ⟨x0, x1, x2, x3, x4, x5, A, 0, 0⟩)).a6]) := hK
    rw [sR6] at hK
    exact ⟨rfl, rfl, rfl, rfl, rfl, rfl, rfl, rfl, rfl, rfl, rfl, rfl, rfl, rfl, rfl, rfl, rfl, rfl, rfl, rfl, rfl, rfl, rfl, rfl, hlt, nR6 _ _ _ _ _ _ _ _ _ _ _ _ _ K ⟨rfl, by omega, by omega, h2⟩ hK⟩
  · rw [show (q - i).toNat = 0 by omega] at hK
    exact hK
theorem hR6 : LoopH Try.prog E cR6 0 (bodyX Try.prog E ctFa noLoops 1000 7 L0 (lpOf Try.prog 56 1)) :=
  ⟨fun d => (d.2.1 - d.2.2.2.2.2.1).toNat, fun dd K hK => by
    obtain ⟨l, q, m, al, A, i, c, p, d, n, st, lo, li, ⟨⟩⟩ := dd
    obtain ⟨hI, hK⟩ := hK
    refine Tree.holds_mono (fun y hy => ?_) (hR6' l q m al A i c p d n st lo li K hI hK)
    cases y with
    | inl d' => exact hy
    | inr y => exact hy⟩
noncomputable def oR7 (l : List Int) (q : Int) (m : Int) (al : Int) (A : Int) (i : Int) (c : Int) (p : Int) (d : Int) (n : Int) (st : Int) (lo : Int) (li : Int) : Tree (Ex × List (V T)) := .req (l.length = 7 ∧ 0 ≤ i ∧ i ≤ q ∧ q ≤ 12) (.leaf (.exit 2, [.n (als (bb n) (q - i).toNat al), .n (it7 (bb n) m (IntKind.wrap IntKind.i64 (bb n - m)) (q - i).toNat ⟨ni6 l 0, ni6 l 1, ni6 l 2, ni6 l 3, ni6 l 4, ni6 l 5, ni6 l 6, A, 0⟩).a7]))
noncomputable def cR7 : LoopC T := ⟨[.l 2, .n, .n, .n, .n, .n, .n, .n, .n, .n, .n, .n, .n], ⟨121, [(1, .one (.i .i64)), (2, .one (.o 0 0)), (8, .one (.i .i64)), (10, .one (.i .i64)), (11, .one (.i .i64)), (12, .one (.g 1 2)), (13, .one (.i .i64))], [.c [.i .i64, .i .i64, .i .i64, .i .i64, .i .i64, .i .i64, .i .i64, .k .i64 7], .l 2]⟩, fun _ => ⟨121, [(10, .one (.i .i64)), (11, .one (.i .i64))], []⟩, 60, fun d => oR7 d.1 d.2.1 d.2.2.1 d.2.2.2.1 d.2.2.2.2.1 d.2.2.2.2.2.1 d.2.2.2.2.2.2.1 d.2.2.2.2.2.2.2.1 d.2.2.2.2.2.2.2.2.1 d.2.2.2.2.2.2.2.2.2.1 d.2.2.2.2.2.2.2.2.2.2.1 d.2.2.2.2.2.2.2.2.2.2.2.1 d.2.2.2.2.2.2.2.2.2.2.2.2.1⟩
theorem bR7 (x0 : Int) (x1 : Int) (x2 : Int) (x3 : Int) (x4 : Int) (x5 : Int) (x6 : Int) (q : Int) (m : Int) (al : Int) (A : Int) (i : Int) (c : Int) (p : Int) (d : Int) (n : Int) (st : Int) (lo : Int) (li : Int) : bodyD Try.prog E cR7 0 (bodyX Try.prog E ctFa noLoops 1000 7 L0 (lpOf Try.prog 56 1)) (([x0, x1, x2, x3, x4, x5, x6] : List Int), q, m, al, A, i, c, p, d, n, st, lo, li, ()) =
  (.br (decide (i < q))
   (.req ((true && decide ((0 : Int) < (↑(List.length [x0, x1, x2, x3, x4, x5, x6]) : Int))) = true)
   (.req ((true && decide ((0 : Int) < (↑(List.length [x0, x1, x2, x3, x4, x5, x6]) : Int))) = true)
   (.req ((true && decide ((0 : Int) < (↑(List.length [x0, x1, x2, x3, x4, x5, x6]) : Int))) = true)
   (.req ((true && decide ((0 : Int) < (↑(List.length [x0, x1, x2, x3, x4, x5, x6]) : Int))) = true)
   (.req ((true && decide ((1 : Int) < (↑(List.length [x0, x1, x2, x3, x4, x5, x6]) : Int))) = true)
   (.req ((true && decide ((1 : Int) < (↑(List.length [x0, x1, x2, x3, x4, x5, x6]) : Int))) = true)
   (.req ((true && decide ((1 : Int) < (↑(List.length [x0, x1, x2, x3, x4, x5, x6]) : Int))) = true)
   (.req ((true && decide ((1 : Int) < (↑(List.length [x0, x1, x2, x3, x4, x5, x6]) : Int))) = true)
   (.req ((true && decide ((2 : Int) < (↑(List.length [x0, x1, x2, x3, x4, x5, x6]) : Int))) = true)
   (.req ((true && decide ((2 : Int) < (↑(List.length [x0, x1, x2, x3, x4, x5, x6]) : Int))) = true)
   (.req ((true && decide ((2 : Int) < (↑(List.length [x0, x1, x2, x3, x4, x5, x6]) : Int))) = true)
   (.req ((true && decide ((2 : Int) < (↑(List.length [x0, x1, x2, x3, x4, x5, x6]) : Int))) = true)
   (.req ((true && decide ((3 : Int) < (↑(List.length [x0, x1, x2, x3, x4, x5, x6]) : Int))) = true)
   (.req ((true && decide ((3 : Int) < (↑(List.length [x0, x1, x2, x3, x4, x5, x6]) : Int))) = true)
   (.req ((true && decide ((3 : Int) < (↑(List.length [x0, x1, x2, x3, x4, x5, x6]) : Int))) = true)
   (.req ((true && decide ((3 : Int) < (↑(List.length [x0, x1, x2, x3, x4, x5, x6]) : Int))) = true)
   (.req ((true && decide ((4 : Int) < (↑(List.length [x0, x1, x2, x3, x4, x5, x6]) : Int))) = true)
   (.req ((true && decide ((4 : Int) < (↑(List.length [x0, x1, x2, x3, x4, x5, x6]) : Int))) = true)
   (.req ((true && decide ((4 : Int) < (↑(List.length [x0, x1, x2, x3, x4, x5, x6]) : Int))) = true)
   (.req ((true && decide ((4 : Int) < (↑(List.length [x0, x1, x2, x3, x4, x5, x6]) : Int))) = true)
   (.req ((true && decide ((5 : Int) < (↑(List.length [x0, x1, x2, x3, x4, x5, x6]) : Int))) = true)
   (.req ((true && decide ((5 : Int) < (↑(List.length [x0, x1, x2, x3, x4, x5, x6]) : Int))) = true)
   (.req ((true && decide ((5 : Int) < (↑(List.length [x0, x1, x2, x3, x4, x5, x6]) : Int))) = true)
   (.req ((true && decide ((5 : Int) < (↑(List.length [x0, x1, x2, x3, x4, x5, x6]) : Int))) = true)
   (.req ((true && decide ((6 : Int) < (↑(List.length [x0, x1, x2, x3, x4, x5, x6]) : Int))) = true)
   (.req ((true && decide ((6 : Int) < (↑(List.length [x0, x1, x2, x3, x4, x5, x6]) : Int))) = true)
   (.req ((true && decide ((6 : Int) < (↑(List.length [x0, x1, x2, x3, x4, x5, x6]) : Int))) = true)
   (.req ((true && decide ((6 : Int) < (↑(List.length [x0, x1, x2, x3, x4, x5, x6]) : Int))) = true)
   (.leaf (.inl ([IntKind.wrap IntKind.i64 (IntKind.wrap IntKind.i64 (IntKind.wrap IntKind.i64 (IntKind.wrap IntKind.i64 (IntKind.wrap IntKind.i64 (IntKind.wrap IntKind.i64 (IntKind.wrap IntKind.i64 ((0 : Int) + IntKind.wrap IntKind.i64 (ni6 [x0, x1, x2, x3, x4, x5, x6] (0 : Int) * IntKind.wrap IntKind.i64 (IntKind.wrap IntKind.i64 (IntKind.wrap IntKind.i64 ((2 : Int) * n) + (1 : Int)) - m))) + IntKind.wrap IntKind.i64 (ni6 [x0, x1, x2, x3, x4, x5, x6] (1 : Int) * IntKind.wrap IntKind.i64 (IntKind.wrap IntKind.i64 (IntKind.wrap IntKind.i64 ((2 : Int) * n) + (1 : Int)) - m))) + IntKind.wrap IntKind.i64 (ni6 [x0, x1, x2, x3, x4, x5, x6] (2 : Int) * IntKind.wrap IntKind.i64 (IntKind.wrap IntKind.i64 (IntKind.wrap IntKind.i64 ((2 : Int) * n) + (1 : Int)) - m))) + IntKind.wrap IntKind.i64 (ni6 [x0, x1, x2, x3, x4, x5, x6] (3 : Int) * IntKind.wrap IntKind.i64 (IntKind.wrap IntKind.i64 (IntKind.wrap IntKind.i64 ((2 : Int) * n) + (1 : Int)) - m))) + IntKind.wrap IntKind.i64 (ni6 [x0, x1, x2, x3, x4, x5, x6] (4 : Int) * IntKind.wrap IntKind.i64 (IntKind.wrap IntKind.i64 (IntKind.wrap IntKind.i64 ((2 : Int) * n) + (1 : Int)) - m))) + IntKind.wrap IntKind.i64 (ni6 [x0, x1, x2, x3, x4, x5, x6] (5 : Int) * IntKind.wrap IntKind.i64 (IntKind.wrap IntKind.i64 (IntKind.wrap IntKind.i64 ((2 : Int) * n) + (1 : Int)) - m))) + IntKind.wrap IntKind.i64 (ni6 [x0, x1, x2, x3, x4, x5, x6] (6 : Int) * IntKind.wrap IntKind.i64 (IntKind.wrap IntKind.i64 (IntKind.wrap IntKind.i64 ((2 : Int) * n) + (1 : Int)) - m))), IntKind.wrap IntKind.i64 ((0 : Int) + IntKind.wrap IntKind.i64 (ni6 [x0, x1, x2, x3, x4, x5, x6] (0 : Int) * m)), IntKind.wrap IntKind.i64 ((0 : Int) + IntKind.wrap IntKind.i64 (ni6 [x0, x1, x2, x3, x4, x5, x6] (1 : Int) * m)), IntKind.wrap IntKind.i64 ((0 : Int) + IntKind.wrap IntKind.i64 (ni6 [x0, x1, x2, x3, x4, x5, x6] (2 : Int) * m)), IntKind.wrap IntKind.i64 ((0 : Int) + IntKind.wrap IntKind.i64 (ni6 [x0, x1, x2, x3, x4, x5, x6] (3 : Int) * m)), IntKind.wrap IntKind.i64 ((0 : Int) + IntKind.wrap IntKind.i64 (ni6 [x0, x1, x2, x3, x4, x5, x6] (4 : Int) * m)), IntKind.wrap IntKind.i64 ((0 : Int) + IntKind.wrap IntKind.i64 (ni6 [x0, x1, x2, x3, x4, x5, x6] (5 : Int) * m))], (q, (m, (IntKind.wrap IntKind.i64 (al * IntKind.wrap IntKind.i64 (IntKind.wrap IntKind.i64 ((2 : Int) * n) + (1 : Int))), (IntKind.wrap IntKind.i64 (IntKind.wrap IntKind.i64 (A * IntKind.wrap IntKind.i64 (IntKind.wrap IntKind.i64 ((2 : Int) * n) + (1 : Int))) + IntKind.wrap IntKind.i64 (ni6 [x0, x1, x2, x3, x4, x5, x6] (6 : Int) * m)), (IntKind.wrap IntKind.i64 (i + (1 : Int)), (c, (p, (d, (n, (st, (lo, (li, ())))))))))))))))))))))))))))))))))))))))))))
   (.leaf (.inr (.exit (2 : Nat), [.n (al), .n (A)])))) := by kernel_rfl
theorem len7 {l : List Int} (h : l.length = 7) : ∃ x0 x1 x2 x3 x4 x5 x6 : Int, l = [x0, x1, x2, x3, x4, x5, x6] := by
  match l, h with
  | [x0, x1, x2, x3, x4, x5, x6], _ => exact ⟨x0, x1, x2, x3, x4, x5, x6, rfl⟩
theorem sR7 (x0 x1 x2 x3 x4 x5 x6 A B m D : Int) : st7 B m D ⟨x0, x1, x2, x3, x4, x5, x6, A, 0⟩ = ⟨ad (ad (ad (ad (ad (ad (ad (0) (mu x0 D)) (mu x1 D)) (mu x2 D)) (mu x3 D)) (mu x4 D)) (mu x5 D)) (mu x6 D), ad 0 (mu x0 m), ad 0 (mu x1 m), ad 0 (mu x2 m), ad 0 (mu x3 m), ad 0 (mu x4 m), ad 0 (mu x5 m), ad (mu A B) (mu x6 m), 0⟩ := by
  simp only [st7, mu_c D, mu_c m, mu_c B, ad_z]
  rw [ad_c (mu x6 m)]
theorem nR7 (l : List Int) (q : Int) (m : Int) (al : Int) (A : Int) (i : Int) (c : Int) (p : Int) (d : Int) (n : Int) (st : Int) (lo : Int) (li : Int) (K : Ex × List (V T) → Prop) (hI : l.length = 7 ∧ 0 ≤ i ∧ i ≤ q ∧ q ≤ 12) (hK : (.leaf (.exit 2, [.n (als (bb n) (q - i).toNat al), .n (it7 (bb n) m (IntKind.wrap IntKind.i64 (bb n - m)) (q - i).toNat ⟨ni6 l 0, ni6 l 1, ni6 l 2, ni6 l 3, ni6 l 4, ni6 l 5, ni6 l 6, A, 0⟩).a7]) : Tree (Ex × List (V T))).holds K) : (cR7.out (l, q, m, al, A, i, c, p, d, n, st, lo, li, ())).holds K := ⟨hI, hK⟩
theorem hR7' (l : List Int) (q : Int) (m : Int) (al : Int) (A : Int) (i : Int) (c : Int) (p : Int) (d : Int) (n : Int) (st : Int) (lo : Int) (li : Int) (K : Ex × List (V T) → Prop) (hI : l.length = 7 ∧ 0 ≤ i ∧ i ≤ q ∧ q ≤ 12) (hK : (.leaf (.exit 2, [.n (als (bb n) (q - i).toNat al), .n (it7 (bb n) m (IntKind.wrap IntKind.i64 (bb n - m)) (q - i).toNat ⟨ni6 l 0, ni6 l 1, ni6 l 2, ni6 l 3, ni6 l 4, ni6 l 5, ni6 l 6, A, 0⟩).a7]) : Tree (Ex × List (V T))).holds K) :
    (bodyD Try.prog E cR7 0 (bodyX Try.prog E ctFa noLoops 1000 7 L0 (lpOf Try.prog 56 1)) (l, q, m, al, A, i, c, p, d, n, st, lo, li, ())).holds fun y => match y with
    | .inl d => (d.2.1 - d.2.2.2.2.2.1).toNat < (q - i).toNat ∧ (cR7.out d).holds K
    | .inr y => K y := by
  obtain ⟨hl, h0, h1, h2⟩ := hI
  obtain ⟨x0, x1, x2, x3, x4, x5, x6, rfl⟩ := len7 hl
  rw [bR7]
  refine way (fun k => ?_) fun k => ?_
  · have e1 : IntKind.wrap IntKind.i64 (i + 1) = i + 1 := i64_in' (by omega) (by omega)
    have hlt : (q - (i + 1)).toNat < (q - i).toNat := by omega
    rw [e1]
    rw [show (q - i).toNat = (q - (i + 1)).toNat + 1 by omega] at hK
    have hK : K (.exit 2, [.n (als (bb n) (q - (i + 1)).toNat (mu al (bb n))), .n (it7 (bb n) m (IntKind.wrap IntKind.i64 (bb n - m)) (q - (i + 1)).toNat (st7 (bb n) m (IntKind.wrap IntKind.i64 (bb n - m)) ⟨x0, x1, x2, x3, x4, x5, x6, A, 0⟩)).a7]) := hK
    rw [sR7] at hK
    exact ⟨rfl, rfl, rfl, rfl, rfl, rfl, rfl, rfl, rfl, rfl, rfl, rfl, rfl, rfl, rfl, rfl, rfl, rfl, rfl, rfl, rfl, rfl, rfl, rfl, rfl, rfl, rfl, rfl, hlt, nR7 _ _ _ _ _ _ _ _ _ _ _ _ _ K ⟨rfl, by omega, by omega, h2⟩ hK⟩
  · rw [show (q - i).toNat = 0 by omega] at hK
    exact hK
theorem hR7 : LoopH Try.prog E cR7 0 (bodyX Try.prog E ctFa noLoops 1000 7 L0 (lpOf Try.prog 56 1)) :=
  ⟨fun d => (d.2.1 - d.2.2.2.2.2.1).toNat, fun dd K hK => by
    obtain ⟨l, q, m, al, A, i, c, p, d, n, st, lo, li, ⟨⟩⟩ := dd
    obtain ⟨hI, hK⟩ := hK
    refine Tree.holds_mono (fun y hy => ?_) (hR7' l q m al A i c p d n st lo li K hI hK)
    cases y with
    | inl d' => exact hy
    | inr y => exact hy⟩
noncomputable def oR8 (l : List Int) (q : Int) (m : Int) (al : Int) (A : Int) (i : Int) (c : Int) (p : Int) (d : Int) (n : Int) (st : Int) (lo : Int) (li : Int) : Tree (Ex × List (V T)) := .req (l.length = 8 ∧ 0 ≤ i ∧ i ≤ q ∧ q ≤ 12) (.leaf (.exit 2, [.n (als (bb n) (q - i).toNat al), .n (it8 (bb n) m (IntKind.wrap IntKind.i64 (bb n - m)) (q - i).toNat ⟨ni6 l 0, ni6 l 1, ni6 l 2, ni6 l 3, ni6 l 4, ni6 l 5, ni6 l 6, ni6 l 7, A⟩).a8]))
noncomputable def cR8 : LoopC T := ⟨[.l 2, .n, .n, .n, .n, .n, .n, .n, .n, .n, .n, .n, .n], ⟨121, [(1, .one (.i .i64)), (2, .one (.o 0 0)), (8, .one (.i .i64)), (10, .one (.i .i64)), (11, .one (.i .i64)), (12, .one (.g 1 2)), (13, .one (.i .i64))], [.c [.i .i64, .i .i64, .i .i64, .i .i64, .i .i64, .i .i64, .i .i64, .k .i64 8], .l 2]⟩, fun _ => ⟨121, [(10, .one (.i .i64)), (11, .one (.i .i64))], []⟩, 60, fun d => oR8 d.1 d.2.1 d.2.2.1 d.2.2.2.1 d.2.2.2.2.1 d.2.2.2.2.2.1 d.2.2.2.2.2.2.1 d.2.2.2.2.2.2.2.1 d.2.2.2.2.2.2.2.2.1 d.2.2.2.2.2.2.2.2.2.1 d.2.2.2.2.2.2.2.2.2.2.1 d.2.2.2.2.2.2.2.2.2.2.2.1 d.2.2.2.2.2.2.2.2.2.2.2.2.1⟩
theorem bR8 (x0 : Int) (x1 : Int) (x2 : Int) (x3 : Int) (x4 : Int) (x5 : Int) (x6 : Int) (x7 : Int) (q : Int) (m : Int) (al : Int) (A : Int) (i : Int) (c : Int) (p : Int) (d : Int) (n : Int) (st : Int) (lo : Int) (li : Int) : bodyD Try.prog E cR8 0 (bodyX Try.prog E ctFa noLoops 1000 7 L0 (lpOf Try.prog 56 1)) (([x0, x1, x2, x3, x4, x5, x6, x7] : List Int), q, m, al, A, i, c, p, d, n, st, lo, li, ()) =
  (.br (decide (i < q))
   (.req ((true && decide ((0 : Int) < (↑(List.length [x0, x1, x2, x3, x4, x5, x6, x7]) : Int))) = true)
   (.req ((true && decide ((0 : Int) < (↑(List.length [x0, x1, x2, x3, x4, x5, x6, x7]) : Int))) = true)
   (.req ((true && decide ((0 : Int) < (↑(List.length [x0, x1, x2, x3, x4, x5, x6, x7]) : Int))) = true)
   (.req ((true && decide ((0 : Int) < (↑(List.length [x0, x1, x2, x3, x4, x5, x6, x7]) : Int))) = true)
   (.req ((true && decide ((1 : Int) < (↑(List.length [x0, x1, x2, x3, x4, x5, x6, x7]) : Int))) = true)
   (.req ((true && decide ((1 : Int) < (↑(List.length [x0, x1, x2, x3, x4, x5, x6, x7]) : Int))) = true)
   (.req ((true && decide ((1 : Int) < (↑(List.length [x0, x1, x2, x3, x4, x5, x6, x7]) : Int))) = true)
   (.req ((true && decide ((1 : Int) < (↑(List.length [x0, x1, x2, x3, x4, x5, x6, x7]) : Int))) = true)
   (.req ((true && decide ((2 : Int) < (↑(List.length [x0, x1, x2, x3, x4, x5, x6, x7]) : Int))) = true)
   (.req ((true && decide ((2 : Int) < (↑(List.length [x0, x1, x2, x3, x4, x5, x6, x7]) : Int))) = true)
   (.req ((true && decide ((2 : Int) < (↑(List.length [x0, x1, x2, x3, x4, x5, x6, x7]) : Int))) = true)
   (.req ((true && decide ((2 : Int) < (↑(List.length [x0, x1, x2, x3, x4, x5, x6, x7]) : Int))) = true)
   (.req ((true && decide ((3 : Int) < (↑(List.length [x0, x1, x2, x3, x4, x5, x6, x7]) : Int))) = true)
   (.req ((true && decide ((3 : Int) < (↑(List.length [x0, x1, x2, x3, x4, x5, x6, x7]) : Int))) = true)
   (.req ((true && decide ((3 : Int) < (↑(List.length [x0, x1, x2, x3, x4, x5, x6, x7]) : Int))) = true)
   (.req ((true && decide ((3 : Int) < (↑(List.length [x0, x1, x2, x3, x4, x5, x6, x7]) : Int))) = true)
   (.req ((true && decide ((4 : Int) < (↑(List.length [x0, x1, x2, x3, x4, x5, x6, x7]) : Int))) = true)
   (.req ((true && decide ((4 : Int) < (↑(List.length [x0, x1, x2, x3, x4, x5, x6, x7]) : Int))) = true)
   (.req ((true && decide ((4 : Int) < (↑(List.length [x0, x1, x2, x3, x4, x5, x6, x7]) : Int))) = true)
   (.req ((true && decide ((4 : Int) < (↑(List.length [x0, x1, x2, x3, x4, x5, x6, x7]) : Int))) = true)
   (.req ((true && decide ((5 : Int) < (↑(List.length [x0, x1, x2, x3, x4, x5, x6, x7]) : Int))) = true)
   (.req ((true && decide ((5 : Int) < (↑(List.length [x0, x1, x2, x3, x4, x5, x6, x7]) : Int))) = true)
   (.req ((true && decide ((5 : Int) < (↑(List.length [x0, x1, x2, x3, x4, x5, x6, x7]) : Int))) = true)
   (.req ((true && decide ((5 : Int) < (↑(List.length [x0, x1, x2, x3, x4, x5, x6, x7]) : Int))) = true)
   (.req ((true && decide ((6 : Int) < (↑(List.length [x0, x1, x2, x3, x4, x5, x6, x7]) : Int))) = true)
   (.req ((true && decide ((6 : Int) < (↑(List.length [x0, x1, x2, x3, x4, x5, x6, x7]) : Int))) = true)
   (.req ((true && decide ((6 : Int) < (↑(List.length [x0, x1, x2, x3, x4, x5, x6, x7]) : Int))) = true)
   (.req ((true && decide ((6 : Int) < (↑(List.length [x0, x1, x2, x3, x4, x5, x6, x7]) : Int))) = true)
   (.req ((true && decide ((7 : Int) < (↑(List.length [x0, x1, x2, x3, x4, x5, x6, x7]) : Int))) = true)
   (.req ((true && decide ((7 : Int) < (↑(List.length [x0, x1, x2, x3, x4, x5, x6, x7]) : Int))) = true)
   (.req ((true && decide ((7 : Int) < (↑(List.length [x0, x1, x2, x3, x4, x5, x6, x7]) : Int))) = true)
   (.req ((true && decide ((7 : Int) < (↑(List.length [x0, x1, x2, x3, x4, x5, x6, x7]) : Int))) = true)
   (.leaf (.inl ([IntKind.wrap IntKind.i64 (IntKind.wrap IntKind.i64 (IntKind.wrap IntKind.i64 (IntKind.wrap IntKind.i64 (IntKind.wrap IntKind.i64 (IntKind.wrap IntKind.i64 (IntKind.wrap IntKind.i64 (IntKind.wrap IntKind.i64 ((0 : Int) + IntKind.wrap IntKind.i64 (ni6 [x0, x1, x2, x3, x4, x5, x6, x7] (0 : Int) * IntKind.wrap IntKind.i64 (IntKind.wrap IntKind.i64 (IntKind.wrap IntKind.i64 ((2 : Int) * n) + (1 : Int)) - m))) + IntKind.wrap IntKind.i64 (ni6 [x0, x1, x2, x3, x4, x5, x6, x7] (1 : Int) * IntKind.wrap IntKind.i64 (IntKind.wrap IntKind.i64 (IntKind.wrap IntKind.i64 ((2 : Int) * n) + (1 : Int)) - m))) + IntKind.wrap IntKind.i64 (ni6 [x0, x1, x2, x3, x4, x5, x6, x7] (2 : Int) * IntKind.wrap IntKind.i64 (IntKind.wrap IntKind.i64 (IntKind.wrap IntKind.i64 ((2 : Int) * n) + (1 : Int)) - m))) + IntKind.wrap IntKind.i64 (ni6 [x0, x1, x2, x3, x4, x5, x6, x7] (3 : Int) * IntKind.wrap IntKind.i64 (IntKind.wrap IntKind.i64 (IntKind.wrap IntKind.i64 ((2 : Int) * n) + (1 : Int)) - m))) + IntKind.wrap IntKind.i64 (ni6 [x0, x1, x2, x3, x4, x5, x6, x7] (4 : Int) * IntKind.wrap IntKind.i64 (IntKind.wrap IntKind.i64 (IntKind.wrap IntKind.i64 ((2 : Int) * n) + (1 : Int)) - m))) + IntKind.wrap IntKind.i64 (ni6 [x0, x1, x2, x3, x4, x5, x6, x7] (5 : Int) * IntKind.wrap IntKind.i64 (IntKind.wrap IntKind.i64 (IntKind.wrap IntKind.i64 ((2 : Int) * n) + (1 : Int)) - m))) + IntKind.wrap IntKind.i64 (ni6 [x0, x1, x2, x3, x4, x5, x6, x7] (6 : Int) * IntKind.wrap IntKind.i64 (IntKind.wrap IntKind.i64 (IntKind.wrap IntKind.i64 ((2 : Int) * n) + (1 : Int)) - m))) + IntKind.wrap IntKind.i64 (ni6 [x0, x1, x2, x3, x4, x5, x6, x7] (7 : Int) * IntKind.wrap IntKind.i64 (IntKind.wrap IntKind.i64 (IntKind.wrap IntKind.i64 ((2 : Int) * n) + (1 : Int)) - m))), IntKind.wrap IntKind.i64 ((0 : Int) + IntKind.wrap IntKind.i64 (ni6 [x0, x1, x2, x3, x4, x5, x6, x7] (0 : Int) * m)), IntKind.wrap IntKind.i64 ((0 : Int) + IntKind.wrap IntKind.i64 (ni6 [x0, x1, x2, x3, x4, x5, x6, x7] (1 : Int) * m)), IntKind.wrap IntKind.i64 ((0 : Int) + IntKind.wrap IntKind.i64 (ni6 [x0, x1, x2, x3, x4, x5, x6, x7] (2 : Int) * m)), IntKind.wrap IntKind.i64 ((0 : Int) + IntKind.wrap IntKind.i64 (ni6 [x0, x1, x2, x3, x4, x5, x6, x7] (3 : Int) * m)), IntKind.wrap IntKind.i64 ((0 : Int) + IntKind.wrap IntKind.i64 (ni6 [x0, x1, x2, x3, x4, x5, x6, x7] (4 : Int) * m)), IntKind.wrap IntKind.i64 ((0 : Int) + IntKind.wrap IntKind.i64 (ni6 [x0, x1, x2, x3, x4, x5, x6, x7] (5 : Int) * m)), IntKind.wrap IntKind.i64 ((0 : Int) + IntKind.wrap IntKind.i64 (ni6 [x0, x1, x2, x3, x4, x5, x6, x7] (6 : Int) * m))], (q, (m, (IntKind.wrap IntKind.i64 (al * IntKind.wrap IntKind.i64 (IntKind.wrap IntKind.i64 ((2 : Int) * n) + (1 : Int))), (IntKind.wrap IntKind.i64 (IntKind.wrap IntKind.i64 (A * IntKind.wrap IntKind.i64 (IntKind.wrap IntKind.i64 ((2 : Int) * n) + (1 : Int))) + IntKind.wrap IntKind.i64 (ni6 [x0, x1, x2, x3, x4, x5, x6, x7] (7 : Int) * m)), (IntKind.wrap IntKind.i64 (i + (1 : Int)), (c, (p, (d, (n, (st, (lo, (li, ())))))))))))))))))))))))))))))))))))))))))))))))
   (.leaf (.inr (.exit (2 : Nat), [.n (al), .n (A)])))) := by kernel_rfl
theorem len8 {l : List Int} (h : l.length = 8) : ∃ x0 x1 x2 x3 x4 x5 x6 x7 : Int, l = [x0, x1, x2, x3, x4, x5, x6, x7] := by
  match l, h with
  | [x0, x1, x2, x3, x4, x5, x6, x7], _ => exact ⟨x0, x1, x2, x3, x4, x5, x6, x7, rfl⟩
theorem sR8 (x0 x1 x2 x3 x4 x5 x6 x7 A B m D : Int) : st8 B m D ⟨x0, x1, x2, x3, x4, x5, x6, x7, A⟩ = ⟨ad (ad (ad (ad (ad (ad (ad (ad (0) (mu x0 D)) (mu x1 D)) (mu x2 D)) (mu x3 D)) (mu x4 D)) (mu x5 D)) (mu x6 D)) (mu x7 D), ad 0 (mu x0 m), ad 0 (mu x1 m), ad 0 (mu x2 m), ad 0 (mu x3 m), ad 0 (mu x4 m), ad 0 (mu x5 m), ad 0 (mu x6 m), ad (mu A B) (mu x7 m)⟩ := by
  simp only [st8, mu_c D, mu_c m, mu_c B, ad_z]
  rw [ad_c (mu x7 m)]
theorem nR8 (l : List Int) (q : Int) (m : Int) (al : Int) (A : Int) (i : Int) (c : Int) (p : Int) (d : Int) (n : Int) (st : Int) (lo : Int) (li : Int) (K : Ex × List (V T) → Prop) (hI : l.length = 8 ∧ 0 ≤ i ∧ i ≤ q ∧ q ≤ 12) (hK : (.leaf (.exit 2, [.n (als (bb n) (q - i).toNat al), .n (it8 (bb n) m (IntKind.wrap IntKind.i64 (bb n - m)) (q - i).toNat ⟨ni6 l 0, ni6 l 1, ni6 l 2, ni6 l 3, ni6 l 4, ni6 l 5, ni6 l 6, ni6 l 7, A⟩).a8]) : Tree (Ex × List (V T))).holds K) : (cR8.out (l, q, m, al, A, i, c, p, d, n, st, lo, li, ())).holds K := ⟨hI, hK⟩
theorem hR8' (l : List Int) (q : Int) (m : Int) (al : Int) (A : Int) (i : Int) (c : Int) (p : Int) (d : Int) (n : Int) (st : Int) (lo : Int) (li : Int) (K : Ex × List (V T) → Prop) (hI : l.length = 8 ∧ 0 ≤ i ∧ i ≤ q ∧ q ≤ 12) (hK : (.leaf (.exit 2, [.n (als (bb n) (q - i).toNat al), .n (it8 (bb n) m (IntKind.wrap IntKind.i64 (bb n - m)) (q - i).toNat ⟨ni6 l 0, ni6 l 1, ni6 l 2, ni6 l 3, ni6 l 4, ni6 l 5, ni6 l 6, ni6 l 7, A⟩).a8]) : Tree (Ex × List (V T))).holds K) :
    (bodyD Try.prog E cR8 0 (bodyX Try.prog E ctFa noLoops 1000 7 L0 (lpOf Try.prog 56 1)) (l, q, m, al, A, i, c, p, d, n, st, lo, li, ())).holds fun y => match y with
    | .inl d => (d.2.1 - d.2.2.2.2.2.1).toNat < (q - i).toNat ∧ (cR8.out d).holds K
    | .inr y => K y := by
  obtain ⟨hl, h0, h1, h2⟩ := hI
  obtain ⟨x0, x1, x2, x3, x4, x5, x6, x7, rfl⟩ := len8 hl
  rw [bR8]
  refine way (fun k => ?_) fun k => ?_
  · have e1 : IntKind.wrap IntKind.i64 (i + 1) = i + 1 := i64_in' (by omega) (by omega)
    have hlt : (q - (i + 1)).toNat < (q - i).toNat := by omega
    rw [e1]
    rw [show (q - i).toNat = (q - (i + 1)).toNat + 1 by omega] at hK
    have hK : K (.exit 2, [.n (als (bb n) (q - (i + 1)).toNat (mu al (bb n))), .n (it8 (bb n) m (IntKind.wrap IntKind.i64 (bb n - m)) (q - (i + 1)).toNat (st8 (bb n) m (IntKind.wrap IntKind.i64 (bb n - m)) ⟨x0, x1, x2, x3, x4, x5, x6, x7, A⟩)).a8]) := hK
    rw [sR8] at hK
    exact ⟨rfl, rfl, rfl, rfl, rfl, rfl, rfl, rfl, rfl, rfl, rfl, rfl, rfl, rfl, rfl, rfl, rfl, rfl, rfl, rfl, rfl, rfl, rfl, rfl, rfl, rfl, rfl, rfl, rfl, rfl, rfl, rfl, hlt, nR8 _ _ _ _ _ _ _ _ _ _ _ _ _ K ⟨rfl, by omega, by omega, h2⟩ hK⟩
  · rw [show (q - i).toNat = 0 by omega] at hK
    exact hK
theorem hR8 : LoopH Try.prog E cR8 0 (bodyX Try.prog E ctFa noLoops 1000 7 L0 (lpOf Try.prog 56 1)) :=
  ⟨fun d => (d.2.1 - d.2.2.2.2.2.1).toNat, fun dd K hK => by
    obtain ⟨l, q, m, al, A, i, c, p, d, n, st, lo, li, ⟨⟩⟩ := dd
    obtain ⟨hI, hK⟩ := hK
    refine Tree.holds_mono (fun y hy => ?_) (hR8' l q m al A i c p d n st lo li K hI hK)
    cases y with
    | inl d' => exact hy
    | inr y => exact hy⟩
end Go.Proofs.Ytdclipcjlimdoaa.W
