/- KickEncloses: what is read from a well, made of numbers. No condition. -/
import Derived.Test.YtdclipcjlimdoaaR
import Derived.Test.YtdclipcjlimdoaaD
import Derived.Test.YtdclipcjlimdoaaW
set_option linter.unusedVariables false
set_option maxRecDepth 100000
noncomputable section
namespace Go.Proofs.Ytdclipcjlimdoaa.W
open Go Go.Cx Go.RowKit
noncomputable def ctM : CTab T := [(62, cMod), (35, cNext)]
theorem ctM_ok : CTabOk Try.prog E ctM := .cons mod64_ok (.cons next_ok .nil)
structure ShutBd (x : Shut) : Prop where
  pipe : 0 ≤ x.Pipe.Lo ∧ x.Pipe.Lo ≤ x.Pipe.Hi
  order : x.Pipe.Hi ≤ x.Casing.Lo
  casing : x.Casing.Lo ≤ x.Casing.Hi ∧ x.Casing.Hi ≤ 68719476736
  gain : x.Area ≤ x.Gain.Lo ∧ x.Gain.Lo ≤ x.Gain.Hi ∧ x.Gain.Hi ≤ 1073741824
  weight : 1 ≤ x.Weight ∧ x.Weight ≤ 40000
  depth : 1 ≤ x.Depth ∧ x.Depth ≤ 1048576
  area : 1 ≤ x.Area ∧ x.Area ≤ 5000
theorem t63 (l : List Int) : runR ctM noLoops 63 [.sl 3 l false, i64 0] [.ptr 0 0] [79] =
  (.req (rPre (0 : Int) (12000 : Int))
  (.req (rPre ((0 : Int) + (1 : Int)) (400000 : Int))
  (.req (rPre ((0 : Int) + (1 : Int) + (1 : Int)) (500 : Int))
  (.req (rPre ((0 : Int) + (1 : Int) + (1 : Int) + (1 : Int)) (1048576 : Int))
  (.req (rPre ((0 : Int) + (1 : Int) + (1 : Int) + (1 : Int) + (1 : Int)) (3 : Int))
  (.req (rPre ((0 : Int) + (1 : Int) + (1 : Int) + (1 : Int) + (1 : Int) + (1 : Int)) (262144 : Int))
  (.req (rPre ((0 : Int) + (1 : Int) + (1 : Int) + (1 : Int) + (1 : Int) + (1 : Int) + (1 : Int)) (1048576 : Int))
  (.req (rPre ((0 : Int) + (1 : Int) + (1 : Int) + (1 : Int) + (1 : Int) + (1 : Int) + (1 : Int) + (1 : Int)) (200 : Int))
  (.req (rPre ((0 : Int) + (1 : Int) + (1 : Int) + (1 : Int) + (1 : Int) + (1 : Int) + (1 : Int) + (1 : Int) + (1 : Int)) (3 : Int))
  (.req (rPre ((0 : Int) + (1 : Int) + (1 : Int) + (1 : Int) + (1 : Int) + (1 : Int) + (1 : Int) + (1 : Int) + (1 : Int) + (1 : Int)) (262144 : Int))
  (.req (rPre ((0 : Int) + (1 : Int) + (1 : Int) + (1 : Int) + (1 : Int) + (1 : Int) + (1 : Int) + (1 : Int) + (1 : Int) + (1 : Int) + (1 : Int)) (1048576 : Int))
  (.req (rPre ((0 : Int) + (1 : Int) + (1 : Int) + (1 : Int) + (1 : Int) + (1 : Int) + (1 : Int) + (1 : Int) + (1 : Int) + (1 : Int) + (1 : Int) + (1 : Int)) (3 : Int))
  (.req (rPre ((0 : Int) + (1 : Int) + (1 : Int) + (1 : Int) + (1 : Int) + (1 : Int) + (1 : Int) + (1 : Int) + (1 : Int) + (1 : Int) + (1 : Int) + (1 : Int) + (1 : Int)) (16384 : Int))
  (.leaf ((.agg [.sym .i64 (ringV l ((0 : Int) + (1 : Int) + (1 : Int) + (1 : Int) + (1 : Int)) (1048576 : Int)), .sym .i64 (IntKind.wrap IntKind.i64 (ringV l ((0 : Int) + (1 : Int) + (1 : Int) + (1 : Int) + (1 : Int)) (1048576 : Int) + IntKind.wrap IntKind.i64 (ringV l ((0 : Int) + (1 : Int) + (1 : Int) + (1 : Int) + (1 : Int) + (1 : Int)) (3 : Int) * ringV l ((0 : Int) + (1 : Int) + (1 : Int) + (1 : Int) + (1 : Int) + (1 : Int) + (1 : Int)) (262144 : Int)))), .sym .i64 (IntKind.wrap IntKind.i64 (IntKind.wrap IntKind.i64 (ringV l ((0 : Int) + (1 : Int) + (1 : Int) + (1 : Int) + (1 : Int)) (1048576 : Int) + IntKind.wrap IntKind.i64 (ringV l ((0 : Int) + (1 : Int) + (1 : Int) + (1 : Int) + (1 : Int) + (1 : Int)) (3 : Int) * ringV l ((0 : Int) + (1 : Int) + (1 : Int) + (1 : Int) + (1 : Int) + (1 : Int) + (1 : Int)) (262144 : Int))) + IntKind.wrap IntKind.i64 (ringV l ((0 : Int) + (1 : Int) + (1 : Int) + (1 : Int) + (1 : Int) + (1 : Int) + (1 : Int) + (1 : Int)) (1048576 : Int) * IntKind.wrap IntKind.i64 ((1 : Int) + ringV l ((0 : Int) + (1 : Int) + (1 : Int) + (1 : Int) + (1 : Int) + (1 : Int) + (1 : Int) + (1 : Int) + (1 : Int)) (200 : Int))))), .sym .i64 (IntKind.wrap IntKind.i64 (IntKind.wrap IntKind.i64 (IntKind.wrap IntKind.i64 (ringV l ((0 : Int) + (1 : Int) + (1 : Int) + (1 : Int) + (1 : Int)) (1048576 : Int) + IntKind.wrap IntKind.i64 (ringV l ((0 : Int) + (1 : Int) + (1 : Int) + (1 : Int) + (1 : Int) + (1 : Int)) (3 : Int) * ringV l ((0 : Int) + (1 : Int) + (1 : Int) + (1 : Int) + (1 : Int) + (1 : Int) + (1 : Int)) (262144 : Int))) + IntKind.wrap IntKind.i64 (ringV l ((0 : Int) + (1 : Int) + (1 : Int) + (1 : Int) + (1 : Int) + (1 : Int) + (1 : Int) + (1 : Int)) (1048576 : Int) * IntKind.wrap IntKind.i64 ((1 : Int) + ringV l ((0 : Int) + (1 : Int) + (1 : Int) + (1 : Int) + (1 : Int) + (1 : Int) + (1 : Int) + (1 : Int) + (1 : Int)) (200 : Int)))) + IntKind.wrap IntKind.i64 (ringV l ((0 : Int) + (1 : Int) + (1 : Int) + (1 : Int) + (1 : Int) + (1 : Int) + (1 : Int) + (1 : Int) + (1 : Int) + (1 : Int)) (3 : Int) * ringV l ((0 : Int) + (1 : Int) + (1 : Int) + (1 : Int) + (1 : Int) + (1 : Int) + (1 : Int) + (1 : Int) + (1 : Int) + (1 : Int) + (1 : Int)) (262144 : Int)))), .sym .i64 (IntKind.wrap IntKind.i64 (IntKind.wrap IntKind.i64 ((1 : Int) + ringV l ((0 : Int) + (1 : Int) + (1 : Int) + (1 : Int)) (500 : Int)) + ringV l ((0 : Int) + (1 : Int) + (1 : Int) + (1 : Int) + (1 : Int) + (1 : Int) + (1 : Int) + (1 : Int) + (1 : Int) + (1 : Int) + (1 : Int) + (1 : Int)) (1048576 : Int))), .sym .i64 (IntKind.wrap IntKind.i64 (IntKind.wrap IntKind.i64 (IntKind.wrap IntKind.i64 ((1 : Int) + ringV l ((0 : Int) + (1 : Int) + (1 : Int) + (1 : Int)) (500 : Int)) + ringV l ((0 : Int) + (1 : Int) + (1 : Int) + (1 : Int) + (1 : Int) + (1 : Int) + (1 : Int) + (1 : Int) + (1 : Int) + (1 : Int) + (1 : Int) + (1 : Int)) (1048576 : Int)) + IntKind.wrap IntKind.i64 (ringV l ((0 : Int) + (1 : Int) + (1 : Int) + (1 : Int) + (1 : Int) + (1 : Int) + (1 : Int) + (1 : Int) + (1 : Int) + (1 : Int) + (1 : Int) + (1 : Int) + (1 : Int)) (3 : Int) * ringV l ((0 : Int) + (1 : Int) + (1 : Int) + (1 : Int) + (1 : Int) + (1 : Int) + (1 : Int) + (1 : Int) + (1 : Int) + (1 : Int) + (1 : Int) + (1 : Int) + (1 : Int) + (1 : Int)) (16384 : Int)))), .sym .i64 (IntKind.wrap IntKind.i64 ((9000 : Int) + ringV l ((0 : Int) + (1 : Int)) (12000 : Int))), .sym .i64 (IntKind.wrap IntKind.i64 ((1 : Int) + ringV l ((0 : Int) + (1 : Int) + (1 : Int)) (400000 : Int))), .sym .i64 (IntKind.wrap IntKind.i64 ((1 : Int) + ringV l ((0 : Int) + (1 : Int) + (1 : Int) + (1 : Int)) (500 : Int)))], [.sl (3 : Nat) (l) false, .sym .i64 ((0 : Int) + (1 : Int) + (1 : Int) + (1 : Int) + (1 : Int) + (1 : Int) + (1 : Int) + (1 : Int) + (1 : Int) + (1 : Int) + (1 : Int) + (1 : Int) + (1 : Int) + (1 : Int))])))))))))))))))) := by kernel_rfl
theorem shut_ex (l : List Int) : ∃ s : Shut, ShutBd s ∧ (runR ctM noLoops 63 [.sl 3 l false, i64 0] [.ptr 0 0] [79]).holds fun x => x = (s.av, [.sl 3 l false, i64 13]) := by
  have rb := fun b n (hn : 0 < n) => ringV_bd (l := l) (b := b) (n := n) hn
  have r1 := rb (0 + 1) 12000 (by decide)
  have r2 := rb (0 + 1 + 1) 400000 (by decide)
  have r3 := rb (0 + 1 + 1 + 1) 500 (by decide)
  have r4 := rb (0 + 1 + 1 + 1 + 1) 1048576 (by decide)
  have r5 := rb (0 + 1 + 1 + 1 + 1 + 1) 3 (by decide)
  have r6 := rb (0 + 1 + 1 + 1 + 1 + 1 + 1) 262144 (by decide)
  have r7 := rb (0 + 1 + 1 + 1 + 1 + 1 + 1 + 1) 1048576 (by decide)
  have r8 := rb (0 + 1 + 1 + 1 + 1 + 1 + 1 + 1 + 1) 200 (by decide)
  have r9 := rb (0 + 1 + 1 + 1 + 1 + 1 + 1 + 1 + 1 + 1) 3 (by decide)
  have r10 := rb (0 + 1 + 1 + 1 + 1 + 1 + 1 + 1 + 1 + 1 + 1) 262144 (by decide)
  have r11 := rb (0 + 1 + 1 + 1 + 1 + 1 + 1 + 1 + 1 + 1 + 1 + 1) 1048576 (by decide)
  have r12 := rb (0 + 1 + 1 + 1 + 1 + 1 + 1 + 1 + 1 + 1 + 1 + 1 + 1) 3 (by decide)
  have r13 := rb (0 + 1 + 1 + 1 + 1 + 1 + 1 + 1 + 1 + 1 + 1 + 1 + 1 + 1) 16384 (by decide)
  rw [t63]
  generalize ringV l (0 + 1) 12000 = v1 at r1 ⊢
  generalize ringV l (0 + 1 + 1) 400000 = v2 at r2 ⊢
  generalize ringV l (0 + 1 + 1 + 1) 500 = v3 at r3 ⊢
  generalize ringV l (0 + 1 + 1 + 1 + 1) 1048576 = v4 at r4 ⊢
  generalize ringV l (0 + 1 + 1 + 1 + 1 + 1) 3 = v5 at r5 ⊢
  generalize ringV l (0 + 1 + 1 + 1 + 1 + 1 + 1) 262144 = v6 at r6 ⊢
  generalize ringV l (0 + 1 + 1 + 1 + 1 + 1 + 1 + 1) 1048576 = v7 at r7 ⊢
  generalize ringV l (0 + 1 + 1 + 1 + 1 + 1 + 1 + 1 + 1) 200 = v8 at r8 ⊢
  generalize ringV l (0 + 1 + 1 + 1 + 1 + 1 + 1 + 1 + 1 + 1) 3 = v9 at r9 ⊢
  generalize ringV l (0 + 1 + 1 + 1 + 1 + 1 + 1 + 1 + 1 + 1 + 1) 262144 = v10 at r10 ⊢
  generalize ringV l (0 + 1 + 1 + 1 + 1 + 1 + 1 + 1 + 1 + 1 + 1 + 1) 1048576 = v11 at r11 ⊢
  generalize ringV l (0 + 1 + 1 + 1 + 1 + 1 + 1 + 1 + 1 + 1 + 1 + 1 + 1) 3 = v12 at r12 ⊢
  generalize ringV l (0 + 1 + 1 + 1 + 1 + 1 + 1 + 1 + 1 + 1 + 1 + 1 + 1 + 1) 16384 = v13 at r13 ⊢
  have m1 := mulb r5.1 (show v5 ≤ 2 by omega) r6.1 (show v6 ≤ 262143 by omega)
  have m2 := mulb r7.1 (show v7 ≤ 1048575 by omega) (show 0 ≤ 1 + v8 by omega) (show 1 + v8 ≤ 200 by omega)
  have m3 := mulb r9.1 (show v9 ≤ 2 by omega) r10.1 (show v10 ≤ 262143 by omega)
  have m4 := mulb r12.1 (show v12 ≤ 2 by omega) r13.1 (show v13 ≤ 16383 by omega)
  generalize v5 * v6 = q1 at m1 ⊢
  generalize v9 * v10 = q3 at m3 ⊢
  generalize v12 * v13 = q4 at m4 ⊢
  have w1 : IntKind.wrap IntKind.i64 (1 + v8) = 1 + v8 := i64_in' (by omega) (by omega)
  rw [w1]
  generalize v7 * (1 + v8) = q2 at m2 ⊢
  simp (disch := omega) only [i64_in']
  refine ⟨⟨⟨v4, v4 + q1⟩, ⟨v4 + q1 + q2, v4 + q1 + q2 + q3⟩, ⟨1 + v3 + v11, 1 + v3 + v11 + q4⟩, 9000 + v1, 1 + v2, 1 + v3⟩, ?_, ?_⟩
  · exact ⟨by simp only; omega, by simp only; omega, by simp only; omega, by simp only; omega, by simp only; omega, by simp only; omega, by simp only; omega⟩
  · exact ⟨by decide, by decide, by decide, by decide, by decide, by decide, by decide, by decide, by decide, by decide, by decide, by decide, by decide, rfl⟩
noncomputable def shutOf (l : List Int) : Shut := (shut_ex l).choose
theorem shutOf_bd (l : List Int) : ShutBd (shutOf l) := (shut_ex l).choose_spec.1
noncomputable def cShut : Con T := conR Try.prog [.one (.o 0 0)] [.s 3, .i .i64] [.l 3, .n] fun d => .req (d.2.1 = 0) (.leaf ((shutOf d.1).av, [.l 3 d.1, .n 13]))
theorem shut_ok : ConOk Try.prog E 63 cShut := conR_ok fun d K ⟨h1, h2⟩ => ⟨_, h2, fun cs' hcs' => by
  obtain ⟨l, a, ⟨⟩⟩ := d
  cases hcs'
  have h1 : a = 0 := h1
  subst h1
  exact factR_run ctM_ok noLoops_ok (ts := [79]) (shut_ex l).choose_spec.2⟩
@[reducible] def okW (x : Range) : Prop := x.Lo ≤ x.Hi ∧ 0 ≤ x.Lo ∧ x.Hi ≤ 1099511627776
noncomputable def wi (x : Range) (n : Int) : Int := x.Lo + n % (x.Hi - x.Lo + 1)
theorem wi_bd {x : Range} {n : Int} (h : okW x) : x.Lo ≤ wi x n ∧ wi x n ≤ x.Hi := by
  have a := Int.emod_nonneg n (show x.Hi - x.Lo + 1 ≠ 0 by omega)
  have b := Int.emod_lt_of_pos n (show 0 < x.Hi - x.Lo + 1 by omega)
  unfold wi
  omega
theorem t64 (x : Range) (n : Int) : runX ctM noLoops 64 [x.av, i64 n] [25] =
  (.req (mPre n (IntKind.wrap IntKind.i64 (IntKind.wrap IntKind.i64 (Range.Hi x - Range.Lo x) + (1 : Int))))
  (.leaf (.agg [.sym .i64 (IntKind.wrap IntKind.i64 (Range.Lo x + n % IntKind.wrap IntKind.i64 (IntKind.wrap IntKind.i64 (Range.Hi x - Range.Lo x) + (1 : Int)))), .sym .i64 (IntKind.wrap IntKind.i64 (Range.Lo x + n % IntKind.wrap IntKind.i64 (IntKind.wrap IntKind.i64 (Range.Hi x - Range.Lo x) + (1 : Int))))]))) := by kernel_rfl
noncomputable def cWi : Con T := conP Try.prog [.agg [.i .i64, .i .i64], .one (.i .i64)] [.n, .n, .n] (fun d => okW ⟨d.1, d.2.1⟩) fun d => .agg [i64 (wi ⟨d.1, d.2.1⟩ d.2.2.1), i64 (wi ⟨d.1, d.2.1⟩ d.2.2.1)]
theorem wi_ok : ConOk Try.prog E 64 cWi := conP_ok fun d hd => fact_run ctM_ok noLoops_ok (ts := [25]) rfl (by
  obtain ⟨a, b, n, ⟨⟩⟩ := d
  show (runX ctM noLoops 64 [(⟨a, b⟩ : Range).av, i64 n] [25]).holds _
  rw [t64]
  have h : okW ⟨a, b⟩ := hd
  have k := wi_bd (n := n) h
  obtain ⟨h1, h2, h3⟩ := h
  simp only at h1 h2 h3
  have e1 : IntKind.wrap IntKind.i64 (b - a) = b - a := i64_in' (by omega) (by omega)
  have e2 : IntKind.wrap IntKind.i64 (b - a + 1) = b - a + 1 := i64_in' (by omega) (by omega)
  simp only [e1, e2]
  have e3 : IntKind.wrap IntKind.i64 (a + n % (b - a + 1)) = wi ⟨a, b⟩ n := by
    rw [i64_in']
    · rfl
    · have : wi ⟨a, b⟩ n = a + n % (b - a + 1) := rfl
      simp only at k
      omega
    · have : wi ⟨a, b⟩ n = a + n % (b - a + 1) := rfl
      simp only at k
      omega
  rw [e3]
  exact ⟨⟨by omega, by omega⟩, rfl⟩)
noncomputable abbrev ctE : CTab T := [(62, cMod), (35, cNext), (63, cShut), (64, cWi), (57, cFound), (17, cAwake)]
theorem ctE_ok : CTabOk Try.prog E ctE := .cons mod64_ok (.cons next_ok (.cons shut_ok (.cons wi_ok (.cons found_ok (.cons awake_ok .nil)))))
end Go.Proofs.Ytdclipcjlimdoaa.W
