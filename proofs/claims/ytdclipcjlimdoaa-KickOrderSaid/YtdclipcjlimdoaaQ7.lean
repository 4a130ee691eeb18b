/- The latest alarms of sensors: the samples that come as late as they can. No condition. -/
import Derived.Test.YtdclipcjlimdoaaQ6
set_option linter.unusedVariables false
set_option maxRecDepth 100000
set_option maxHeartbeats 4000000
noncomputable section
namespace Go.Proofs.Ytdclipcjlimdoaa.W
open Go Go.Cx Go.RowKit
noncomputable def sm (s : Sensor) (x : Kick) (m : Int) : Sample := ⟨0, m, value s x m (-s.Noise)⟩
noncomputable def gA (s : Sensor) (x : Kick) (p : Int) : Nat → Int → List Sample
  | 0, _ => []
  | n + 1, i => sm s x (p + i * s.Period) :: gA s x p n (i + 1)
noncomputable def gB (s : Sensor) (x : Kick) (p a : Int) : Nat → Int → List Sample
  | 0, _ => []
  | n + 1, j => sm s x (p + (a + (j + 1) * (s.Lost + 1) - 1) * s.Period) :: gB s x p a n (j + 1)
theorem gA_step {s : Sensor} {x : Kick} {p a i : Int} (h : i < a) (q : List Sample) : q ++ gA s x p (a - i).toNat i = (q ++ [sm s x (p + i * s.Period)]) ++ gA s x p (a - (i + 1)).toNat (i + 1) := by
  rw [show (a - i).toNat = (a - (i + 1)).toNat + 1 by omega, List.append_assoc]
  rfl
theorem gA_end {s : Sensor} {x : Kick} {p a i : Int} (h : ¬ i < a) (q : List Sample) : q ++ gA s x p (a - i).toNat i = q := by
  rw [show (a - i).toNat = 0 by omega]
  exact List.append_nil q
theorem gB_step {s : Sensor} {x : Kick} {p a j m : Int} (h : j < m) (q : List Sample) : q ++ gB s x p a (m - j).toNat j = (q ++ [sm s x (p + (a + (j + 1) * (s.Lost + 1) - 1) * s.Period)]) ++ gB s x p a (m - (j + 1)).toNat (j + 1) := by
  rw [show (m - j).toNat = (m - (j + 1)).toNat + 1 by omega, List.append_assoc]
  rfl
theorem gB_end {s : Sensor} {x : Kick} {p a j m : Int} (h : ¬ j < m) (q : List Sample) : q ++ gB s x p a (m - j).toNat j = q := by
  rw [show (m - j).toNat = 0 by omega]
  exact List.append_nil q
noncomputable def oRa (q : List Sample) (p : Int) (a : Int) (i : Int) (s0 : Int) (s1 : Int) (s2 : Int) (s3 : Int) (s4 : Int) (s5 : Int) (s6 : Int) (s7 : Int) (k0 : Int) (k1 : Int) : Tree (Ex × List (V T)) := .req (((sErr (Sensor.mk s0 s1 s2 s3 s4 s5 s6 s7) = 0 ∧ okK (Kick.mk k0 k1)) ∧ (0 ≤ p ∧ p ≤ 60)) ∧ (0 ≤ i ∧ i ≤ a ∧ a ≤ 200) ∧ q.length ≤ 1000 + i.toNat) (.leaf (.exit 0, [.l 60 (q ++ gA (Sensor.mk s0 s1 s2 s3 s4 s5 s6 s7) (Kick.mk k0 k1) p (a - i).toNat i), .n p, .n a, .n s0, .n s1, .n s2, .n s3, .n s4, .n s5, .n s6, .n s7, .n k0, .n k1]))
noncomputable def cRa : LoopC T := ⟨[.l 60, .n, .n, .n, .n, .n, .n, .n, .n, .n, .n, .n, .n, .n], ⟨79, [(2, .one (.o 0 0)), (3, .one (.o 1 0)), (9, .one (.i .i64)), (10, .one (.i .i64)), (12, .one (.g 2 60)), (13, .one (.i .i64))], [.c [.i .i64, .i .i64, .i .i64, .i .i64, .i .i64, .i .i64, .i .i64, .i .i64], .c [.i .i64, .i .i64], .l 60]⟩, fun _ => ⟨79, [(2, .one (.o 0 0)), (3, .one (.o 1 0)), (9, .one (.i .i64)), (10, .one (.i .i64)), (12, .one (.g 2 60))], [.c [.i .i64, .i .i64, .i .i64, .i .i64, .i .i64, .i .i64, .i .i64, .i .i64], .c [.i .i64, .i .i64], .l 60]⟩, 30, fun d => oRa d.1 d.2.1 d.2.2.1 d.2.2.2.1 d.2.2.2.2.1 d.2.2.2.2.2.1 d.2.2.2.2.2.2.1 d.2.2.2.2.2.2.2.1 d.2.2.2.2.2.2.2.2.1 d.2.2.2.2.2.2.2.2.2.1 d.2.2.2.2.2.2.2.2.2.2.1 d.2.2.2.2.2.2.2.2.2.2.2.1 d.2.2.2.2.2.2.2.2.2.2.2.2.1 d.2.2.2.2.2.2.2.2.2.2.2.2.2.1⟩
theorem bRa (q : List Sample) (p : Int) (a : Int) (i : Int) (s0 : Int) (s1 : Int) (s2 : Int) (s3 : Int) (s4 : Int) (s5 : Int) (s6 : Int) (s7 : Int) (k0 : Int) (k1 : Int) : bodyD Try.prog E cRa 0 (bodyX Try.prog E ctSl noLoops 1000 5 L0 (lpOf Try.prog 50 0)) (q, p, a, i, s0, s1, s2, s3, s4, s5, s6, s7, k0, k1, ()) =
  (.br (decide (i < a))
   (.req (List.length q = List.length q)
   (.req (List.length q + List.length [Sample.mk (0 : Int) (IntKind.wrap IntKind.i64 (p + IntKind.wrap IntKind.i64 (i * s1))) (value (Sensor.mk s0 s1 s2 s3 s4 s5 s6 s7) (Kick.mk k0 k1) (IntKind.wrap IntKind.i64 (p + IntKind.wrap IntKind.i64 (i * s1))) (IntKind.wrap IntKind.i64 ((0 : Int) - s3)))] ≤ (1073741824 : Nat))
   (.req (List.length (q ++ [Sample.mk (0 : Int) (IntKind.wrap IntKind.i64 (p + IntKind.wrap IntKind.i64 (i * s1))) (value (Sensor.mk s0 s1 s2 s3 s4 s5 s6 s7) (Kick.mk k0 k1) (IntKind.wrap IntKind.i64 (p + IntKind.wrap IntKind.i64 (i * s1))) (IntKind.wrap IntKind.i64 ((0 : Int) - s3)))]) = List.length (q ++ [Sample.mk (0 : Int) (IntKind.wrap IntKind.i64 (p + IntKind.wrap IntKind.i64 (i * s1))) (value (Sensor.mk s0 s1 s2 s3 s4 s5 s6 s7) (Kick.mk k0 k1) (IntKind.wrap IntKind.i64 (p + IntKind.wrap IntKind.i64 (i * s1))) (IntKind.wrap IntKind.i64 ((0 : Int) - s3)))]))
   (.leaf (.inl (q ++ [Sample.mk (0 : Int) (IntKind.wrap IntKind.i64 (p + IntKind.wrap IntKind.i64 (i * s1))) (value (Sensor.mk s0 s1 s2 s3 s4 s5 s6 s7) (Kick.mk k0 k1) (IntKind.wrap IntKind.i64 (p + IntKind.wrap IntKind.i64 (i * s1))) (IntKind.wrap IntKind.i64 ((0 : Int) - s3)))], (p, (a, (IntKind.wrap IntKind.i64 (i + (1 : Int)), (s0, (s1, (s2, (s3, (s4, (s5, (s6, (s7, (k0, (k1, ())))))))))))))))))))
   (.req (List.length q = List.length q)
   (.leaf (.inr (.exit (0 : Nat), [.l (60 : Nat) (q), .n (p), .n (a), .n (s0), .n (s1), .n (s2), .n (s3), .n (s4), .n (s5), .n (s6), .n (s7), .n (k0), .n (k1)]))))) := by kernel_rfl
theorem nRa (q : List Sample) (p : Int) (a : Int) (i : Int) (s0 : Int) (s1 : Int) (s2 : Int) (s3 : Int) (s4 : Int) (s5 : Int) (s6 : Int) (s7 : Int) (k0 : Int) (k1 : Int) (K : Ex × List (V T) → Prop) (hI : ((sErr (Sensor.mk s0 s1 s2 s3 s4 s5 s6 s7) = 0 ∧ okK (Kick.mk k0 k1)) ∧ (0 ≤ p ∧ p ≤ 60)) ∧ (0 ≤ i ∧ i ≤ a ∧ a ≤ 200) ∧ q.length ≤ 1000 + i.toNat) (hK : (.leaf (.exit 0, [.l 60 (q ++ gA (Sensor.mk s0 s1 s2 s3 s4 s5 s6 s7) (Kick.mk k0 k1) p (a - i).toNat i), .n p, .n a, .n s0, .n s1, .n s2, .n s3, .n s4, .n s5, .n s6, .n s7, .n k0, .n k1]) : Tree (Ex × List (V T))).holds K) : (cRa.out (q, p, a, i, s0, s1, s2, s3, s4, s5, s6, s7, k0, k1, ())).holds K := ⟨hI, hK⟩
theorem hRa' (q : List Sample) (p : Int) (a : Int) (i : Int) (s0 : Int) (s1 : Int) (s2 : Int) (s3 : Int) (s4 : Int) (s5 : Int) (s6 : Int) (s7 : Int) (k0 : Int) (k1 : Int) (K : Ex × List (V T) → Prop) (hI : ((sErr (Sensor.mk s0 s1 s2 s3 s4 s5 s6 s7) = 0 ∧ okK (Kick.mk k0 k1)) ∧ (0 ≤ p ∧ p ≤ 60)) ∧ (0 ≤ i ∧ i ≤ a ∧ a ≤ 200) ∧ q.length ≤ 1000 + i.toNat) (hK : (.leaf (.exit 0, [.l 60 (q ++ gA (Sensor.mk s0 s1 s2 s3 s4 s5 s6 s7) (Kick.mk k0 k1) p (a - i).toNat i), .n p, .n a, .n s0, .n s1, .n s2, .n s3, .n s4, .n s5, .n s6, .n s7, .n k0, .n k1]) : Tree (Ex × List (V T))).holds K) :
    (bodyD Try.prog E cRa 0 (bodyX Try.prog E ctSl noLoops 1000 5 L0 (lpOf Try.prog 50 0)) (q, p, a, i, s0, s1, s2, s3, s4, s5, s6, s7, k0, k1, ())).holds fun y => match y with
    | .inl d => (d.2.2.1 - d.2.2.2.1).toNat < (a - i).toNat ∧ (cRa.out d).holds K
    | .inr y => K y := by
  rw [bRa]
  obtain ⟨hv, hi, hq⟩ := hI
  
  have q : okSe (Sensor.mk s0 s1 s2 s3 s4 s5 s6 s7) := (sErr_zero.1 hv.1.1).2
  have q1 : 1 ≤ s1 ∧ s1 ≤ 60 := q.1
  have q2 : 0 ≤ s3 ∧ s3 ≤ 15 := q.2.2.1
  have q3 : 0 ≤ s5 ∧ s5 ≤ 5 := q.2.2.2.2.1
  have q4 : 1 ≤ s7 ∧ s7 ≤ 8 := q.2.2.2.2.2.2
  have e3 : IntKind.wrap IntKind.i64 (0 - s3) = -s3 := by rw [Int.zero_sub]; exact i64_in' (by omega) (by omega)
  
  have mp := mulb hi.1 (show i ≤ 200 by omega) (show 0 ≤ s1 by omega) q1.2
  have e1 : IntKind.wrap IntKind.i64 (i * s1) = i * s1 := i64_in' (by omega) (by omega)
  have e2 : IntKind.wrap IntKind.i64 (p + i * s1) = p + i * s1 := i64_in' (by omega) (by omega)
  have e4 : IntKind.wrap IntKind.i64 (i + 1) = i + 1 := i64_in' (by omega) (by omega)
  rw [e1, e2, e3, e4]
  refine way (fun c => ⟨rfl, by simp only [List.length_cons, List.length_nil]; omega, rfl, ?_⟩) fun c => ⟨rfl, ?_⟩
  · rw [gA_step c] at hK
    have hlt : (a - (i + 1)).toNat < (a - i).toNat := by omega
    exact ⟨hlt, nRa _ _ _ _ _ _ _ _ _ _ _ _ _ _ K ⟨hv, ⟨by omega, by omega, by omega⟩, by rw [List.length_append]; simp only [List.length_cons, List.length_nil]; omega⟩ hK⟩
  · rw [gA_end c] at hK
    exact hK
theorem hRa : LoopH Try.prog E cRa 0 (bodyX Try.prog E ctSl noLoops 1000 5 L0 (lpOf Try.prog 50 0)) :=
  ⟨fun d => (d.2.2.1 - d.2.2.2.1).toNat, fun dd K hK => by
    obtain ⟨q, p, a, i, s0, s1, s2, s3, s4, s5, s6, s7, k0, k1, ⟨⟩⟩ := dd
    obtain ⟨hI, hK⟩ := hK
    refine Tree.holds_mono (fun y hy => ?_) (hRa' q p a i s0 s1 s2 s3 s4 s5 s6 s7 k0 k1 K hI hK)
    cases y with
    | inl d' => exact hy
    | inr y => exact hy⟩
noncomputable def oRb (q : List Sample) (p : Int) (a : Int) (j : Int) (s0 : Int) (s1 : Int) (s2 : Int) (s3 : Int) (s4 : Int) (s5 : Int) (s6 : Int) (s7 : Int) (k0 : Int) (k1 : Int) : Tree (Ex × List (V T)) := .req (((sErr (Sensor.mk s0 s1 s2 s3 s4 s5 s6 s7) = 0 ∧ okK (Kick.mk k0 k1)) ∧ (0 ≤ p ∧ p ≤ 60)) ∧ (1 ≤ j ∧ j ≤ s7 + 1 ∧ 0 ≤ a ∧ a ≤ 200) ∧ q.length ≤ 2000 + j.toNat) (.leaf (.exit 2, [.l 60 (q ++ gB (Sensor.mk s0 s1 s2 s3 s4 s5 s6 s7) (Kick.mk k0 k1) p a (s7 - (j - 1)).toNat (j - 1))]))
noncomputable def cRb : LoopC T := ⟨[.l 60, .n, .n, .n, .n, .n, .n, .n, .n, .n, .n, .n, .n, .n], ⟨79, [(2, .one (.o 0 0)), (3, .one (.o 1 0)), (9, .one (.i .i64)), (10, .one (.i .i64)), (12, .one (.g 2 60)), (14, .one (.i .i64))], [.c [.i .i64, .i .i64, .i .i64, .i .i64, .i .i64, .i .i64, .i .i64, .i .i64], .c [.i .i64, .i .i64], .l 60]⟩, fun _ => ⟨79, [(12, .one (.g 0 60))], [.l 60]⟩, 30, fun d => oRb d.1 d.2.1 d.2.2.1 d.2.2.2.1 d.2.2.2.2.1 d.2.2.2.2.2.1 d.2.2.2.2.2.2.1 d.2.2.2.2.2.2.2.1 d.2.2.2.2.2.2.2.2.1 d.2.2.2.2.2.2.2.2.2.1 d.2.2.2.2.2.2.2.2.2.2.1 d.2.2.2.2.2.2.2.2.2.2.2.1 d.2.2.2.2.2.2.2.2.2.2.2.2.1 d.2.2.2.2.2.2.2.2.2.2.2.2.2.1⟩
theorem bRb (q : List Sample) (p : Int) (a : Int) (j : Int) (s0 : Int) (s1 : Int) (s2 : Int) (s3 : Int) (s4 : Int) (s5 : Int) (s6 : Int) (s7 : Int) (k0 : Int) (k1 : Int) : bodyD Try.prog E cRb 0 (bodyX Try.prog E ctSl noLoops 1000 5 L0 (lpOf Try.prog 50 1)) (q, p, a, j, s0, s1, s2, s3, s4, s5, s6, s7, k0, k1, ()) =
  (.br (decide (j ≤ s7))
   (.req (List.length q = List.length q)
   (.req (List.length q + List.length [Sample.mk (0 : Int) (IntKind.wrap IntKind.i64 (p + IntKind.wrap IntKind.i64 (IntKind.wrap IntKind.i64 (IntKind.wrap IntKind.i64 (a + IntKind.wrap IntKind.i64 (j * IntKind.wrap IntKind.i64 (s5 + (1 : Int)))) - (1 : Int)) * s1))) (value (Sensor.mk s0 s1 s2 s3 s4 s5 s6 s7) (Kick.mk k0 k1) (IntKind.wrap IntKind.i64 (p + IntKind.wrap IntKind.i64 (IntKind.wrap IntKind.i64 (IntKind.wrap IntKind.i64 (a + IntKind.wrap IntKind.i64 (j * IntKind.wrap IntKind.i64 (s5 + (1 : Int)))) - (1 : Int)) * s1))) (IntKind.wrap IntKind.i64 ((0 : Int) - s3)))] ≤ (1073741824 : Nat))
   (.req (List.length (q ++ [Sample.mk (0 : Int) (IntKind.wrap IntKind.i64 (p + IntKind.wrap IntKind.i64 (IntKind.wrap IntKind.i64 (IntKind.wrap IntKind.i64 (a + IntKind.wrap IntKind.i64 (j * IntKind.wrap IntKind.i64 (s5 + (1 : Int)))) - (1 : Int)) * s1))) (value (Sensor.mk s0 s1 s2 s3 s4 s5 s6 s7) (Kick.mk k0 k1) (IntKind.wrap IntKind.i64 (p + IntKind.wrap IntKind.i64 (IntKind.wrap IntKind.i64 (IntKind.wrap IntKind.i64 (a + IntKind.wrap IntKind.i64 (j * IntKind.wrap IntKind.i64 (s5 + (1 : Int)))) - (1 : Int)) * s1))) (IntKind.wrap IntKind.i64 ((0 : Int) - s3)))]) = List.length (q ++ [Sample.mk (0 : Int) (IntKind.wrap IntKind.i64 (p + IntKind.wrap IntKind.i64 (IntKind.wrap IntKind.i64 (IntKind.wrap IntKind.i64 (a + IntKind.wrap IntKind.i64 (j * IntKind.wrap IntKind.i64 (s5 + (1 : Int)))) - (1 : Int)) * s1))) (value (Sensor.mk s0 s1 s2 s3 s4 s5 s6 s7) (Kick.mk k0 k1) (IntKind.wrap IntKind.i64 (p + IntKind.wrap IntKind.i64 (IntKind.wrap IntKind.i64 (IntKind.wrap IntKind.i64 (a + IntKind.wrap IntKind.i64 (j * IntKind.wrap IntKind.i64 (s5 + (1 : Int)))) - (1 : Int)) * s1))) (IntKind.wrap IntKind.i64 ((0 : Int) - s3)))]))
   (.leaf (.inl (q ++ [Sample.mk (0 : Int) (IntKind.wrap IntKind.i64 (p + IntKind.wrap IntKind.i64 (IntKind.wrap IntKind.i64 (IntKind.wrap IntKind.i64 (a + IntKind.wrap IntKind.i64 (j * IntKind.wrap IntKind.i64 (s5 + (1 : Int)))) - (1 : Int)) * s1))) (value (Sensor.mk s0 s1 s2 s3 s4 s5 s6 s7) (Kick.mk k0 k1) (IntKind.wrap IntKind.i64 (p + IntKind.wrap IntKind.i64 (IntKind.wrap IntKind.i64 (IntKind.wrap IntKind.i64 (a + IntKind.wrap IntKind.i64 (j * IntKind.wrap IntKind.i64 (s5 + (1 : Int)))) - (1 : Int)) * s1))) (IntKind.wrap IntKind.i64 ((0 : Int) - s3)))], (p, (a, (IntKind.wrap IntKind.i64 (j + (1 : Int)), (s0, (s1, (s2, (s3, (s4, (s5, (s6, (s7, (k0, (k1, ())))))))))))))))))))
   (.req (List.length q = List.length q)
   (.leaf (.inr (.exit (2 : Nat), [.l (60 : Nat) (q)]))))) := by kernel_rfl
theorem nRb (q : List Sample) (p : Int) (a : Int) (j : Int) (s0 : Int) (s1 : Int) (s2 : Int) (s3 : Int) (s4 : Int) (s5 : Int) (s6 : Int) (s7 : Int) (k0 : Int) (k1 : Int) (K : Ex × List (V T) → Prop) (hI : ((sErr (Sensor.mk s0 s1 s2 s3 s4 s5 s6 s7) = 0 ∧ okK (Kick.mk k0 k1)) ∧ (0 ≤ p ∧ p ≤ 60)) ∧ (1 ≤ j ∧ j ≤ s7 + 1 ∧ 0 ≤ a ∧ a ≤ 200) ∧ q.length ≤ 2000 + j.toNat) (hK : (.leaf (.exit 2, [.l 60 (q ++ gB (Sensor.mk s0 s1 s2 s3 s4 s5 s6 s7) (Kick.mk k0 k1) p a (s7 - (j - 1)).toNat (j - 1))]) : Tree (Ex × List (V T))).holds K) : (cRb.out (q, p, a, j, s0, s1, s2, s3, s4, s5, s6, s7, k0, k1, ())).holds K := ⟨hI, hK⟩
theorem hRb' (q : List Sample) (p : Int) (a : Int) (j : Int) (s0 : Int) (s1 : Int) (s2 : Int) (s3 : Int) (s4 : Int) (s5 : Int) (s6 : Int) (s7 : Int) (k0 : Int) (k1 : Int) (K : Ex × List (V T) → Prop) (hI : ((sErr (Sensor.mk s0 s1 s2 s3 s4 s5 s6 s7) = 0 ∧ okK (Kick.mk k0 k1)) ∧ (0 ≤ p ∧ p ≤ 60)) ∧ (1 ≤ j ∧ j ≤ s7 + 1 ∧ 0 ≤ a ∧ a ≤ 200) ∧ q.length ≤ 2000 + j.toNat) (hK : (.leaf (.exit 2, [.l 60 (q ++ gB (Sensor.mk s0 s1 s2 s3 s4 s5 s6 s7) (Kick.mk k0 k1) p a (s7 - (j - 1)).toNat (j - 1))]) : Tree (Ex × List (V T))).holds K) :
    (bodyD Try.prog E cRb 0 (bodyX Try.prog E ctSl noLoops 1000 5 L0 (lpOf Try.prog 50 1)) (q, p, a, j, s0, s1, s2, s3, s4, s5, s6, s7, k0, k1, ())).holds fun y => match y with
    | .inl d => (d.2.2.2.2.2.2.2.2.2.2.2.1 - d.2.2.2.1 + 1).toNat < (s7 - j + 1).toNat ∧ (cRb.out d).holds K
    | .inr y => K y := by
  rw [bRb]
  obtain ⟨hv, hi, hq⟩ := hI
  
  have q : okSe (Sensor.mk s0 s1 s2 s3 s4 s5 s6 s7) := (sErr_zero.1 hv.1.1).2
  have q1 : 1 ≤ s1 ∧ s1 ≤ 60 := q.1
  have q2 : 0 ≤ s3 ∧ s3 ≤ 15 := q.2.2.1
  have q3 : 0 ≤ s5 ∧ s5 ≤ 5 := q.2.2.2.2.1
  have q4 : 1 ≤ s7 ∧ s7 ≤ 8 := q.2.2.2.2.2.2
  have e3 : IntKind.wrap IntKind.i64 (0 - s3) = -s3 := by rw [Int.zero_sub]; exact i64_in' (by omega) (by omega)
  
  have e5 : IntKind.wrap IntKind.i64 (s5 + 1) = s5 + 1 := i64_in' (by omega) (by omega)
  have m1 := mulb (a := j) (show 0 ≤ j by omega) (show j ≤ 9 by omega) (show 0 ≤ s5 + 1 by omega) (show s5 + 1 ≤ 6 by omega)
  have m0 : j ≤ j * (s5 + 1) := by
    have := Int.mul_le_mul_of_nonneg_left (show 1 ≤ s5 + 1 by omega) (show 0 ≤ j by omega)
    omega
  have ej : IntKind.wrap IntKind.i64 (j + 1) = j + 1 := i64_in' (by omega) (by omega)
  rw [ej]
  rw [e5]
  have e6 : IntKind.wrap IntKind.i64 (j * (s5 + 1)) = j * (s5 + 1) := i64_in' (by omega) (by omega)
  rw [e6]
  have e7 : IntKind.wrap IntKind.i64 (a + j * (s5 + 1)) = a + j * (s5 + 1) := i64_in' (by omega) (by omega)
  rw [e7]
  have e8 : IntKind.wrap IntKind.i64 (a + j * (s5 + 1) - 1) = a + j * (s5 + 1) - 1 := i64_in' (by omega) (by omega)
  rw [e8]
  have m2 := mulb (a := a + j * (s5 + 1) - 1) (b := s1) (show 0 ≤ a + j * (s5 + 1) - 1 by omega) (show a + j * (s5 + 1) - 1 ≤ 300 by omega) (show 0 ≤ s1 by omega) q1.2
  have e9 : IntKind.wrap IntKind.i64 ((a + j * (s5 + 1) - 1) * s1) = (a + j * (s5 + 1) - 1) * s1 := i64_in' (by omega) (by omega)
  rw [e9]
  have e10 : IntKind.wrap IntKind.i64 (p + (a + j * (s5 + 1) - 1) * s1) = p + (a + j * (s5 + 1) - 1) * s1 := i64_in' (by omega) (by omega)
  rw [e10, e3]
  refine way (fun c => ⟨rfl, by simp only [List.length_cons, List.length_nil]; omega, rfl, ?_⟩) fun c => ⟨rfl, ?_⟩
  · rw [gB_step (j := j - 1) (m := s7) (by omega), show j - 1 + 1 = j by omega] at hK
    have hlt : (s7 - (j + 1) + 1).toNat < (s7 - j + 1).toNat := by omega
    refine ⟨hlt, nRb _ _ _ _ _ _ _ _ _ _ _ _ _ _ K ⟨hv, ⟨by omega, by omega, by omega, by omega⟩, by rw [List.length_append]; simp only [List.length_cons, List.length_nil]; omega⟩ ?_⟩
    rw [show j + 1 - 1 = j by omega]
    exact hK
  · rw [gB_end (j := j - 1) (m := s7) (by omega)] at hK
    exact hK
theorem hRb : LoopH Try.prog E cRb 0 (bodyX Try.prog E ctSl noLoops 1000 5 L0 (lpOf Try.prog 50 1)) :=
  ⟨fun d => (d.2.2.2.2.2.2.2.2.2.2.2.1 - d.2.2.2.1 + 1).toNat, fun dd K hK => by
    obtain ⟨q, p, a, j, s0, s1, s2, s3, s4, s5, s6, s7, k0, k1, ⟨⟩⟩ := dd
    obtain ⟨hI, hK⟩ := hK
    refine Tree.holds_mono (fun y hy => ?_) (hRb' q p a j s0 s1 s2 s3 s4 s5 s6 s7 k0 k1 K hI hK)
    cases y with
    | inl d' => exact hy
    | inr y => exact hy⟩
noncomputable def oPa (q : List Sample) (m : Int) (i : Int) (s0 : Int) (s1 : Int) (s2 : Int) (s3 : Int) (s4 : Int) (s5 : Int) (s6 : Int) (s7 : Int) (w0 : Int) (w1 : Int) (w2 : Int) (k0 : Int) (k1 : Int) : Tree (Ex × List (V T)) := .req (((sErr (Sensor.mk s0 s1 s2 s3 s4 s5 s6 s7) = 0 ∧ okK (Kick.mk k0 k1)) ∧ (0 ≤ w1 ∧ w1 ≤ 60)) ∧ (0 ≤ i ∧ i ≤ m ∧ m ≤ 200) ∧ q.length ≤ 1000 + i.toNat) (.leaf (.exit 0, [.l 60 (q ++ gA (Sensor.mk s0 s1 s2 s3 s4 s5 s6 s7) (Kick.mk k0 k1) w1 (m - i).toNat i), .n s0, .n s1, .n s2, .n s3, .n s4, .n s5, .n s6, .n s7, .n w0, .n w1, .n w2, .n k0, .n k1]))
noncomputable def cPa : LoopC T := ⟨[.l 60, .n, .n, .n, .n, .n, .n, .n, .n, .n, .n, .n, .n, .n, .n, .n], ⟨62, [(2, .one (.o 0 0)), (6, .one (.o 1 0)), (8, .one (.o 2 0)), (9, .fn 88 [.o 1 0, .o 0 0, .o 2 0, .o 3 0]), (35, .one (.i .i64)), (36, .one (.i .i64))], [.c [.i .i64, .i .i64, .i .i64, .i .i64, .i .i64, .i .i64, .i .i64, .i .i64], .c [.i .i64, .i .i64, .i .i64], .c [.g 4 60], .c [.i .i64, .i .i64], .l 60]⟩, fun _ => ⟨62, [(2, .one (.o 0 0)), (6, .one (.o 1 0)), (8, .one (.o 2 0)), (9, .fn 88 [.o 1 0, .o 0 0, .o 2 0, .o 3 0])], [.c [.i .i64, .i .i64, .i .i64, .i .i64, .i .i64, .i .i64, .i .i64, .i .i64], .c [.i .i64, .i .i64, .i .i64], .c [.g 4 60], .c [.i .i64, .i .i64], .l 60]⟩, 30, fun d => oPa d.1 d.2.1 d.2.2.1 d.2.2.2.1 d.2.2.2.2.1 d.2.2.2.2.2.1 d.2.2.2.2.2.2.1 d.2.2.2.2.2.2.2.1 d.2.2.2.2.2.2.2.2.1 d.2.2.2.2.2.2.2.2.2.1 d.2.2.2.2.2.2.2.2.2.2.1 d.2.2.2.2.2.2.2.2.2.2.2.1 d.2.2.2.2.2.2.2.2.2.2.2.2.1 d.2.2.2.2.2.2.2.2.2.2.2.2.2.1 d.2.2.2.2.2.2.2.2.2.2.2.2.2.2.1 d.2.2.2.2.2.2.2.2.2.2.2.2.2.2.2.1⟩
theorem bPa (q : List Sample) (m : Int) (i : Int) (s0 : Int) (s1 : Int) (s2 : Int) (s3 : Int) (s4 : Int) (s5 : Int) (s6 : Int) (s7 : Int) (w0 : Int) (w1 : Int) (w2 : Int) (k0 : Int) (k1 : Int) : bodyD Try.prog E cPa 0 (bodyX Try.prog E ctSl noLoops 1000 5 L0 (lpOf Try.prog 49 0)) (q, m, i, s0, s1, s2, s3, s4, s5, s6, s7, w0, w1, w2, k0, k1, ()) =
  (.br (decide (i < m))
   (.req (List.length q = List.length q)
   (.req (List.length q + List.length [Sample.mk (0 : Int) (IntKind.wrap IntKind.i64 (w1 + IntKind.wrap IntKind.i64 (i * s1))) (value (Sensor.mk s0 s1 s2 s3 s4 s5 s6 s7) (Kick.mk k0 k1) (IntKind.wrap IntKind.i64 (w1 + IntKind.wrap IntKind.i64 (i * s1))) (IntKind.wrap IntKind.i64 ((0 : Int) - s3)))] ≤ (1073741824 : Nat))
   (.req (List.length (q ++ [Sample.mk (0 : Int) (IntKind.wrap IntKind.i64 (w1 + IntKind.wrap IntKind.i64 (i * s1))) (value (Sensor.mk s0 s1 s2 s3 s4 s5 s6 s7) (Kick.mk k0 k1) (IntKind.wrap IntKind.i64 (w1 + IntKind.wrap IntKind.i64 (i * s1))) (IntKind.wrap IntKind.i64 ((0 : Int) - s3)))]) = List.length (q ++ [Sample.mk (0 : Int) (IntKind.wrap IntKind.i64 (w1 + IntKind.wrap IntKind.i64 (i * s1))) (value (Sensor.mk s0 s1 s2 s3 s4 s5 s6 s7) (Kick.mk k0 k1) (IntKind.wrap IntKind.i64 (w1 + IntKind.wrap IntKind.i64 (i * s1))) (IntKind.wrap IntKind.i64 ((0 : Int) - s3)))]))
   (.leaf (.inl (q ++ [Sample.mk (0 : Int) (IntKind.wrap IntKind.i64 (w1 + IntKind.wrap IntKind.i64 (i * s1))) (value (Sensor.mk s0 s1 s2 s3 s4 s5 s6 s7) (Kick.mk k0 k1) (IntKind.wrap IntKind.i64 (w1 + IntKind.wrap IntKind.i64 (i * s1))) (IntKind.wrap IntKind.i64 ((0 : Int) - s3)))], (m, (IntKind.wrap IntKind.i64 (i + (1 : Int)), (s0, (s1, (s2, (s3, (s4, (s5, (s6, (s7, (w0, (w1, (w2, (k0, (k1, ())))))))))))))))))))))
   (.req (List.length q = List.length q)
   (.leaf (.inr (.exit (0 : Nat), [.l (60 : Nat) (q), .n (s0), .n (s1), .n (s2), .n (s3), .n (s4), .n (s5), .n (s6), .n (s7), .n (w0), .n (w1), .n (w2), .n (k0), .n (k1)]))))) := by kernel_rfl
theorem nPa (q : List Sample) (m : Int) (i : Int) (s0 : Int) (s1 : Int) (s2 : Int) (s3 : Int) (s4 : Int) (s5 : Int) (s6 : Int) (s7 : Int) (w0 : Int) (w1 : Int) (w2 : Int) (k0 : Int) (k1 : Int) (K : Ex × List (V T) → Prop) (hI : ((sErr (Sensor.mk s0 s1 s2 s3 s4 s5 s6 s7) = 0 ∧ okK (Kick.mk k0 k1)) ∧ (0 ≤ w1 ∧ w1 ≤ 60)) ∧ (0 ≤ i ∧ i ≤ m ∧ m ≤ 200) ∧ q.length ≤ 1000 + i.toNat) (hK : (.leaf (.exit 0, [.l 60 (q ++ gA (Sensor.mk s0 s1 s2 s3 s4 s5 s6 s7) (Kick.mk k0 k1) w1 (m - i).toNat i), .n s0, .n s1, .n s2, .n s3, .n s4, .n s5, .n s6, .n s7, .n w0, .n w1, .n w2, .n k0, .n k1]) : Tree (Ex × List (V T))).holds K) : (cPa.out (q, m, i, s0, s1, s2, s3, s4, s5, s6, s7, w0, w1, w2, k0, k1, ())).holds K := ⟨hI, hK⟩
theorem hPa' (q : List Sample) (m : Int) (i : Int) (s0 : Int) (s1 : Int) (s2 : Int) (s3 : Int) (s4 : Int) (s5 : Int) (s6 : Int) (s7 : Int) (w0 : Int) (w1 : Int) (w2 : Int) (k0 : Int) (k1 : Int) (K : Ex × List (V T) → Prop) (hI : ((sErr (Sensor.mk s0 s1 s2 s3 s4 s5 s6 s7) = 0 ∧ okK (Kick.mk k0 k1)) ∧ (0 ≤ w1 ∧ w1 ≤ 60)) ∧ (0 ≤ i ∧ i ≤ m ∧ m ≤ 200) ∧ q.length ≤ 1000 + i.toNat) (hK : (.leaf (.exit 0, [.l 60 (q ++ gA (Sensor.mk s0 s1 s2 s3 s4 s5 s6 s7) (Kick.mk k0 k1) w1 (m - i).toNat i), .n s0, .n s1, .n s2, .n s3, .n s4, .n s5, .n s6, .n s7, .n w0, .n w1, .n w2, .n k0, .n k1]) : Tree (Ex × List (V T))).holds K) :
    (bodyD Try.prog E cPa 0 (bodyX Try.prog E ctSl noLoops 1000 5 L0 (lpOf Try.prog 49 0)) (q, m, i, s0, s1, s2, s3, s4, s5, s6, s7, w0, w1, w2, k0, k1, ())).holds fun y => match y with
    | .inl d => (d.2.1 - d.2.2.1).toNat < (m - i).toNat ∧ (cPa.out d).holds K
    | .inr y => K y := by
  rw [bPa]
  obtain ⟨hv, hi, hq⟩ := hI
  
  have q : okSe (Sensor.mk s0 s1 s2 s3 s4 s5 s6 s7) := (sErr_zero.1 hv.1.1).2
  have q1 : 1 ≤ s1 ∧ s1 ≤ 60 := q.1
  have q2 : 0 ≤ s3 ∧ s3 ≤ 15 := q.2.2.1
  have q3 : 0 ≤ s5 ∧ s5 ≤ 5 := q.2.2.2.2.1
  have q4 : 1 ≤ s7 ∧ s7 ≤ 8 := q.2.2.2.2.2.2
  have e3 : IntKind.wrap IntKind.i64 (0 - s3) = -s3 := by rw [Int.zero_sub]; exact i64_in' (by omega) (by omega)
  
  have mp := mulb hi.1 (show i ≤ 200 by omega) (show 0 ≤ s1 by omega) q1.2
  have e1 : IntKind.wrap IntKind.i64 (i * s1) = i * s1 := i64_in' (by omega) (by omega)
  have e2 : IntKind.wrap IntKind.i64 (w1 + i * s1) = w1 + i * s1 := i64_in' (by omega) (by omega)
  have e4 : IntKind.wrap IntKind.i64 (i + 1) = i + 1 := i64_in' (by omega) (by omega)
  rw [e1, e2, e3, e4]
  refine way (fun c => ⟨rfl, by simp only [List.length_cons, List.length_nil]; omega, rfl, ?_⟩) fun c => ⟨rfl, ?_⟩
  · rw [gA_step c] at hK
    have hlt : (m - (i + 1)).toNat < (m - i).toNat := by omega
    exact ⟨hlt, nPa _ _ _ _ _ _ _ _ _ _ _ _ _ _ _ _ K ⟨hv, ⟨by omega, by omega, by omega⟩, by rw [List.length_append]; simp only [List.length_cons, List.length_nil]; omega⟩ hK⟩
  · rw [gA_end c] at hK
    exact hK
theorem hPa : LoopH Try.prog E cPa 0 (bodyX Try.prog E ctSl noLoops 1000 5 L0 (lpOf Try.prog 49 0)) :=
  ⟨fun d => (d.2.1 - d.2.2.1).toNat, fun dd K hK => by
    obtain ⟨q, m, i, s0, s1, s2, s3, s4, s5, s6, s7, w0, w1, w2, k0, k1, ⟨⟩⟩ := dd
    obtain ⟨hI, hK⟩ := hK
    refine Tree.holds_mono (fun y hy => ?_) (hPa' q m i s0 s1 s2 s3 s4 s5 s6 s7 w0 w1 w2 k0 k1 K hI hK)
    cases y with
    | inl d' => exact hy
    | inr y => exact hy⟩
noncomputable def oPb (q : List Sample) (m : Int) (j : Int) (s0 : Int) (s1 : Int) (s2 : Int) (s3 : Int) (s4 : Int) (s5 : Int) (s6 : Int) (s7 : Int) (w0 : Int) (w1 : Int) (w2 : Int) (k0 : Int) (k1 : Int) : Tree (Ex × List (V T)) := .req (((sErr (Sensor.mk s0 s1 s2 s3 s4 s5 s6 s7) = 0 ∧ okK (Kick.mk k0 k1)) ∧ (0 ≤ w1 ∧ w1 ≤ 60)) ∧ (0 ≤ j ∧ j ≤ m ∧ m = s7 ∧ 0 ≤ w2 ∧ w2 ≤ 200) ∧ q.length ≤ 2000 + j.toNat) (.leaf (.exit 2, [.l 60 (q ++ gB (Sensor.mk s0 s1 s2 s3 s4 s5 s6 s7) (Kick.mk k0 k1) w1 w2 (m - j).toNat j)]))
noncomputable def cPb : LoopC T := ⟨[.l 60, .n, .n, .n, .n, .n, .n, .n, .n, .n, .n, .n, .n, .n, .n, .n], ⟨62, [(2, .one (.o 0 0)), (6, .one (.o 1 0)), (8, .one (.o 2 0)), (9, .fn 88 [.o 1 0, .o 0 0, .o 2 0, .o 3 0]), (44, .one (.i .i64)), (45, .one (.i .i64))], [.c [.i .i64, .i .i64, .i .i64, .i .i64, .i .i64, .i .i64, .i .i64, .i .i64], .c [.i .i64, .i .i64, .i .i64], .c [.g 4 60], .c [.i .i64, .i .i64], .l 60]⟩, fun _ => ⟨62, [(8, .one (.o 0 0))], [.c [.g 1 60], .l 60]⟩, 30, fun d => oPb d.1 d.2.1 d.2.2.1 d.2.2.2.1 d.2.2.2.2.1 d.2.2.2.2.2.1 d.2.2.2.2.2.2.1 d.2.2.2.2.2.2.2.1 d.2.2.2.2.2.2.2.2.1 d.2.2.2.2.2.2.2.2.2.1 d.2.2.2.2.2.2.2.2.2.2.1 d.2.2.2.2.2.2.2.2.2.2.2.1 d.2.2.2.2.2.2.2.2.2.2.2.2.1 d.2.2.2.2.2.2.2.2.2.2.2.2.2.1 d.2.2.2.2.2.2.2.2.2.2.2.2.2.2.1 d.2.2.2.2.2.2.2.2.2.2.2.2.2.2.2.1⟩
theorem bPb (q : List Sample) (m : Int) (j : Int) (s0 : Int) (s1 : Int) (s2 : Int) (s3 : Int) (s4 : Int) (s5 : Int) (s6 : Int) (s7 : Int) (w0 : Int) (w1 : Int) (w2 : Int) (k0 : Int) (k1 : Int) : bodyD Try.prog E cPb 0 (bodyX Try.prog E ctSl noLoops 1000 5 L0 (lpOf Try.prog 49 1)) (q, m, j, s0, s1, s2, s3, s4, s5, s6, s7, w0, w1, w2, k0, k1, ()) =
  (.br (decide (j < m))
   (.req (List.length q = List.length q)
   (.req (List.length q + List.length [Sample.mk (0 : Int) (IntKind.wrap IntKind.i64 (w1 + IntKind.wrap IntKind.i64 (IntKind.wrap IntKind.i64 (IntKind.wrap IntKind.i64 (w2 + IntKind.wrap IntKind.i64 (IntKind.wrap IntKind.i64 (j + (1 : Int)) * IntKind.wrap IntKind.i64 (s5 + (1 : Int)))) - (1 : Int)) * s1))) (value (Sensor.mk s0 s1 s2 s3 s4 s5 s6 s7) (Kick.mk k0 k1) (IntKind.wrap IntKind.i64 (w1 + IntKind.wrap IntKind.i64 (IntKind.wrap IntKind.i64 (IntKind.wrap IntKind.i64 (w2 + IntKind.wrap IntKind.i64 (IntKind.wrap IntKind.i64 (j + (1 : Int)) * IntKind.wrap IntKind.i64 (s5 + (1 : Int)))) - (1 : Int)) * s1))) (IntKind.wrap IntKind.i64 ((0 : Int) - s3)))] ≤ (1073741824 : Nat))
   (.req (List.length (q ++ [Sample.mk (0 : Int) (IntKind.wrap IntKind.i64 (w1 + IntKind.wrap IntKind.i64 (IntKind.wrap IntKind.i64 (IntKind.wrap IntKind.i64 (w2 + IntKind.wrap IntKind.i64 (IntKind.wrap IntKind.i64 (j + (1 : Int)) * IntKind.wrap IntKind.i64 (s5 + (1 : Int)))) - (1 : Int)) * s1))) (value (Sensor.mk s0 s1 s2 s3 s4 s5 s6 s7) (Kick.mk k0 k1) (IntKind.wrap IntKind.i64 (w1 + IntKind.wrap IntKind.i64 (IntKind.wrap IntKind.i64 (IntKind.wrap IntKind.i64 (w2 + IntKind.wrap IntKind.i64 (IntKind.wrap IntKind.i64 (j + (1 : Int)) * IntKind.wrap IntKind.i64 (s5 + (1 : Int)))) - (1 : Int)) * s1))) (IntKind.wrap IntKind.i64 ((0 : Int) - s3)))]) = List.length (q ++ [Sample.mk (0 : Int) (IntKind.wrap IntKind.i64 (w1 + IntKind.wrap IntKind.i64 (IntKind.wrap IntKind.i64 (IntKind.wrap IntKind.i64 (w2 + IntKind.wrap IntKind.i64 (IntKind.wrap IntKind.i64 (j + (1 : Int)) * IntKind.wrap IntKind.i64 (s5 + (1 : Int)))) - (1 : Int)) * s1))) (value (Sensor.mk s0 s1 s2 s3 s4 s5 s6 s7) (Kick.mk k0 k1) (IntKind.wrap IntKind.i64 (w1 + IntKind.wrap IntKind.i64 (IntKind.wrap IntKind.i64 (IntKind.wrap IntKind.i64 (w2 + IntKind.wrap IntKind.i64 (IntKind.wrap IntKind.i64 (j + (1 : Int)) * IntKind.wrap IntKind.i64 (s5 + (1 : Int)))) - (1 : Int)) * s1))) (IntKind.wrap IntKind.i64 ((0 : Int) - s3)))]))
   (.leaf (.inl (q ++ [Sample.mk (0 : Int) (IntKind.wrap IntKind.i64 (w1 + IntKind.wrap IntKind.i64 (IntKind.wrap IntKind.i64 (IntKind.wrap IntKind.i64 (w2 + IntKind.wrap IntKind.i64 (IntKind.wrap IntKind.i64 (j + (1 : Int)) * IntKind.wrap IntKind.i64 (s5 + (1 : Int)))) - (1 : Int)) * s1))) (value (Sensor.mk s0 s1 s2 s3 s4 s5 s6 s7) (Kick.mk k0 k1) (IntKind.wrap IntKind.i64 (w1 + IntKind.wrap IntKind.i64 (IntKind.wrap IntKind.i64 (IntKind.wrap IntKind.i64 (w2 + IntKind.wrap IntKind.i64 (IntKind.wrap IntKind.i64 (j + (1 : Int)) * IntKind.wrap IntKind.i64 (s5 + (1 : Int)))) - (1 : Int)) * s1))) (IntKind.wrap IntKind.i64 ((0 : Int) - s3)))], (m, (IntKind.wrap IntKind.i64 (j + (1 : Int)), (s0, (s1, (s2, (s3, (s4, (s5, (s6, (s7, (w0, (w1, (w2, (k0, (k1, ())))))))))))))))))))))
   (.req (List.length q = List.length q)
   (.leaf (.inr (.exit (2 : Nat), [.l (60 : Nat) (q)]))))) := by kernel_rfl
theorem nPb (q : List Sample) (m : Int) (j : Int) (s0 : Int) (s1 : Int) (s2 : Int) (s3 : Int) (s4 : Int) (s5 : Int) (s6 : Int) (s7 : Int) (w0 : Int) (w1 : Int) (w2 : Int) (k0 : Int) (k1 : Int) (K : Ex × List (V T) → Prop) (hI : ((sErr (Sensor.mk s0 s1 s2 s3 s4 s5 s6 s7) = 0 ∧ okK (Kick.mk k0 k1)) ∧ (0 ≤ w1 ∧ w1 ≤ 60)) ∧ (0 ≤ j ∧ j ≤ m ∧ m = s7 ∧ 0 ≤ w2 ∧ w2 ≤ 200) ∧ q.length ≤ 2000 + j.toNat) (hK : (.leaf (.exit 2, [.l 60 (q ++ gB (Sensor.mk s0 s1 s2 s3 s4 s5 s6 s7) (Kick.mk k0 k1) w1 w2 (m - j).toNat j)]) : Tree (Ex × List (V T))).holds K) : (cPb.out (q, m, j, s0, s1, s2, s3, s4, s5, s6, s7, w0, w1, w2, k0, k1, ())).holds K := ⟨hI, hK⟩
theorem hPb' (q : List Sample) (m : Int) (j : Int) (s0 : Int) (s1 : Int) (s2 : Int) (s3 : Int) (s4 : Int) (s5 : Int) (s6 : Int) (s7 : Int) (w0 : Int) (w1 : Int) (w2 : Int) (k0 : Int) (k1 : Int) (K : Ex × List (V T) → Prop) (hI : ((sErr (Sensor.mk s0 s1 s2 s3 s4 s5 s6 s7) = 0 ∧ okK (Kick.mk k0 k1)) ∧ (0 ≤ w1 ∧ w1 ≤ 60)) ∧ (0 ≤ j ∧ j ≤ m ∧ m = s7 ∧ 0 ≤ w2 ∧ w2 ≤ 200) ∧ q.length ≤ 2000 + j.toNat) (hK : (.leaf (.exit 2, [.l 60 (q ++ gB (Sensor.mk s0 s1 s2 s3 s4 s5 s6 s7) (Kick.mk k0 k1) w1 w2 (m - j).toNat j)]) : Tree (Ex × List (V T))).holds K) :
    (bodyD Try.prog E cPb 0 (bodyX Try.prog E ctSl noLoops 1000 5 L0 (lpOf Try.prog 49 1)) (q, m, j, s0, s1, s2, s3, s4, s5, s6, s7, w0, w1, w2, k0, k1, ())).holds fun y => match y with
    | .inl d => (d.2.1 - d.2.2.1).toNat < (m - j).toNat ∧ (cPb.out d).holds K
    | .inr y => K y := by
  rw [bPb]
  obtain ⟨hv, hi, hq⟩ := hI
  
  have q : okSe (Sensor.mk s0 s1 s2 s3 s4 s5 s6 s7) := (sErr_zero.1 hv.1.1).2
  have q1 : 1 ≤ s1 ∧ s1 ≤ 60 := q.1
  have q2 : 0 ≤ s3 ∧ s3 ≤ 15 := q.2.2.1
  have q3 : 0 ≤ s5 ∧ s5 ≤ 5 := q.2.2.2.2.1
  have q4 : 1 ≤ s7 ∧ s7 ≤ 8 := q.2.2.2.2.2.2
  have e3 : IntKind.wrap IntKind.i64 (0 - s3) = -s3 := by rw [Int.zero_sub]; exact i64_in' (by omega) (by omega)
  
  have e5 : IntKind.wrap IntKind.i64 (s5 + 1) = s5 + 1 := i64_in' (by omega) (by omega)
  have m1 := mulb (a := (j + 1)) (show 0 ≤ (j + 1) by omega) (show (j + 1) ≤ 9 by omega) (show 0 ≤ s5 + 1 by omega) (show s5 + 1 ≤ 6 by omega)
  have m0 : (j + 1) ≤ (j + 1) * (s5 + 1) := by
    have := Int.mul_le_mul_of_nonneg_left (show 1 ≤ s5 + 1 by omega) (show 0 ≤ (j + 1) by omega)
    omega
  have ej : IntKind.wrap IntKind.i64 (j + 1) = j + 1 := i64_in' (by omega) (by omega)
  rw [ej]
  rw [e5]
  have e6 : IntKind.wrap IntKind.i64 ((j + 1) * (s5 + 1)) = (j + 1) * (s5 + 1) := i64_in' (by omega) (by omega)
  rw [e6]
  have e7 : IntKind.wrap IntKind.i64 (w2 + (j + 1) * (s5 + 1)) = w2 + (j + 1) * (s5 + 1) := i64_in' (by omega) (by omega)
  rw [e7]
  have e8 : IntKind.wrap IntKind.i64 (w2 + (j + 1) * (s5 + 1) - 1) = w2 + (j + 1) * (s5 + 1) - 1 := i64_in' (by omega) (by omega)
  rw [e8]
  have m2 := mulb (a := w2 + (j + 1) * (s5 + 1) - 1) (b := s1) (show 0 ≤ w2 + (j + 1) * (s5 + 1) - 1 by omega) (show w2 + (j + 1) * (s5 + 1) - 1 ≤ 300 by omega) (show 0 ≤ s1 by omega) q1.2
  have e9 : IntKind.wrap IntKind.i64 ((w2 + (j + 1) * (s5 + 1) - 1) * s1) = (w2 + (j + 1) * (s5 + 1) - 1) * s1 := i64_in' (by omega) (by omega)
  rw [e9]
  have e10 : IntKind.wrap IntKind.i64 (w1 + (w2 + (j + 1) * (s5 + 1) - 1) * s1) = w1 + (w2 + (j + 1) * (s5 + 1) - 1) * s1 := i64_in' (by omega) (by omega)
  rw [e10, e3]
  refine way (fun c => ⟨rfl, by simp only [List.length_cons, List.length_nil]; omega, rfl, ?_⟩) fun c => ⟨rfl, ?_⟩
  · rw [gB_step (j := j) c] at hK
    have hlt : (m - (j + 1)).toNat < (m - j).toNat := by omega
    exact ⟨hlt, nPb _ _ _ _ _ _ _ _ _ _ _ _ _ _ _ _ K ⟨hv, ⟨by omega, by omega, by omega, by omega, by omega⟩, by rw [List.length_append]; simp only [List.length_cons, List.length_nil]; omega⟩ hK⟩
  · rw [gB_end (j := j) c] at hK
    exact hK
theorem hPb : LoopH Try.prog E cPb 0 (bodyX Try.prog E ctSl noLoops 1000 5 L0 (lpOf Try.prog 49 1)) :=
  ⟨fun d => (d.2.1 - d.2.2.1).toNat, fun dd K hK => by
    obtain ⟨q, m, j, s0, s1, s2, s3, s4, s5, s6, s7, w0, w1, w2, k0, k1, ⟨⟩⟩ := dd
    obtain ⟨hI, hK⟩ := hK
    refine Tree.holds_mono (fun y hy => ?_) (hPb' q m j s0 s1 s2 s3 s4 s5 s6 s7 w0 w1 w2 k0 k1 K hI hK)
    cases y with
    | inl d' => exact hy
    | inr y => exact hy⟩
end Go.Proofs.Ytdclipcjlimdoaa.W
