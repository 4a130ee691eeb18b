/- FluidCuttings: loads and mixed weights. -/
import Derived.Test.YtnhedcaphncliaaA
set_option linter.unusedVariables false
set_option maxRecDepth 100000
noncomputable section
namespace Go.Proofs.Ytnhedcaphncliaa.W
open Go Go.Cx Go.RowKit
noncomputable def ctA : CTab T := [(64, cWithin), (73, cFloor), (74, cCeil)]
theorem ctA_ok : CTabOk Try.prog E ctA := .cons within_ok (.cons floor_ok (.cons ceil_ok .nil))
theorem up_eq {a b : Int} (h0 : 0 ≤ a) (hb : 0 < b) : Int.tdiv (a + b - 1) b = -(-a / b) := by
  rw [Int.tdiv_eq_ediv_of_nonneg (by omega)]
  have h1 := Int.mul_ediv_add_emod (-a) b
  have h2 := Int.emod_nonneg (-a) (show b ≠ 0 by omega)
  have h3 := Int.emod_lt_of_pos (-a) hb
  exact ((Int.ediv_emod_unique hb (r := b - 1 - (-a) % b)).2 ⟨by rw [Int.mul_neg]; omega, by omega, by omega⟩).1
@[reducible] def okSg (x : Seg) : Prop := (1 ≤ x.Long ∧ x.Long ≤ 1048576) ∧ (0 ≤ x.Rise ∧ x.Rise ≤ x.Long) ∧ (1 ≤ x.Area ∧ x.Area ≤ 5000) ∧ (1 ≤ x.Gap ∧ x.Gap ≤ 200)
@[reducible] def okL (x : Seg) (a b c : Int) : Prop := okSg x ∧ (0 ≤ a ∧ a ≤ 1000000) ∧ (0 ≤ b ∧ b ≤ 1000000) ∧ (0 ≤ c ∧ c ≤ 1000) ∧ 0 < b - c * x.Area
noncomputable def lift (x : Seg) (a b c : Int) : Int := -(-(1000 * a) / (b - c * x.Area))
noncomputable def load (x : Seg) (a b c : Int) : Int := if okL x a b c then (if lift x a b c < 1000 then lift x a b c else 1000) else 0
@[reducible] noncomputable def loaded (x : Seg) (a b c : Int) : AV T := .tup [i64 (load x a b c), .bool (decide (okL x a b c))]
theorem load_in {x : Seg} {a b c : Int} (h : okL x a b c) {n : Int} (hn : n = if lift x a b c < 1000 then lift x a b c else 1000) : AV.tup [.sym .i64 n, .bool true] = loaded x a b c := by
  unfold loaded load
  rw [if_pos h, decide_eq_true h, hn]
theorem load_out {x : Seg} {a b c : Int} (h : ¬ okL x a b c) : AV.tup [.sym .i64 (0 : Int), .bool false] = loaded x a b c := by
  unfold loaded load
  rw [if_neg h, decide_eq_false h]
theorem lift_bd {x : Seg} {a b c : Int} (h : okL x a b c) : 0 ≤ lift x a b c ∧ lift x a b c ≤ 1000000000 := by
  unfold lift
  have h1 := divb (a := -(1000 * a)) (b := b - c * x.Area) (m := 1000000000) (by omega) (by omega) (by omega)
  have h2 : -(1000 * a) / (b - c * x.Area) ≤ 0 := Int.ediv_nonpos_of_nonpos_of_neg (by omega) (by omega)
  omega
theorem t52 (x : Seg) (a b c : Int) : runX ctA noLoops 52 [x.av, i64 a, i64 b, i64 c] [2, 4] =
  (.br (decide (Seg.Long x < (1 : Int)))
   (.leaf (.tup [.sym .i64 ((0 : Int)), .bool (false)]))
   (.br (!within (Seg.Rise x) (0 : Int) (Seg.Long x))
    (.leaf (.tup [.sym .i64 ((0 : Int)), .bool (false)]))
    (.br (!within (Seg.Area x) (1 : Int) (5000 : Int))
     (.leaf (.tup [.sym .i64 ((0 : Int)), .bool (false)]))
     (.br (!within (Seg.Gap x) (1 : Int) (200 : Int))
      (.leaf (.tup [.sym .i64 ((0 : Int)), .bool (false)]))
      (.br (decide (IntKind.wrap IntKind.i64 ((0 : Int) + Seg.Long x) ≥ (0 : Int)))
       (.br (decide (IntKind.wrap IntKind.i64 ((0 : Int) + Seg.Long x) > (1048576 : Int)))
        (.leaf (.tup [.sym .i64 ((0 : Int)), .bool (false)]))
        (.br (!within a (0 : Int) (1000000 : Int))
         (.leaf (.tup [.sym .i64 ((0 : Int)), .bool (false)]))
         (.br (!within b (0 : Int) (1000000 : Int))
          (.leaf (.tup [.sym .i64 ((0 : Int)), .bool (false)]))
          (.br (!within c (0 : Int) (1000 : Int))
           (.leaf (.tup [.sym .i64 ((0 : Int)), .bool (false)]))
           (.br (decide (IntKind.wrap IntKind.i64 (b - IntKind.wrap IntKind.i64 (c * Seg.Area x)) ≤ (0 : Int)))
            (.leaf (.tup [.sym .i64 ((0 : Int)), .bool (false)]))
            (.req (qPre (IntKind.wrap IntKind.i64 ((1000 : Int) * a)) (IntKind.wrap IntKind.i64 (b - IntKind.wrap IntKind.i64 (c * Seg.Area x))))
            (.leaf (.tup [.sym .i64 (bif false then if -(-IntKind.wrap IntKind.i64 ((1000 : Int) * a) / IntKind.wrap IntKind.i64 (b - IntKind.wrap IntKind.i64 (c * Seg.Area x))) > (1000 : Int) then -(-IntKind.wrap IntKind.i64 ((1000 : Int) * a) / IntKind.wrap IntKind.i64 (b - IntKind.wrap IntKind.i64 (c * Seg.Area x))) else (1000 : Int) else if -(-IntKind.wrap IntKind.i64 ((1000 : Int) * a) / IntKind.wrap IntKind.i64 (b - IntKind.wrap IntKind.i64 (c * Seg.Area x))) < (1000 : Int) then -(-IntKind.wrap IntKind.i64 ((1000 : Int) * a) / IntKind.wrap IntKind.i64 (b - IntKind.wrap IntKind.i64 (c * Seg.Area x))) else (1000 : Int)), .bool (true)]))))))))
       (.leaf (.tup [.sym .i64 ((0 : Int)), .bool (false)]))))))) := by kernel_rfl
theorem t53 (x : Seg) (a b c : Int) : runX ctA noLoops 53 [x.av, i64 a, i64 b, i64 c] [2, 4] =
  (.br (decide (Seg.Long x ≥ (1 : Int)))
   (.br (decide (Seg.Long x ≤ (1048576 : Int)))
    (.br (decide (Seg.Rise x ≥ (0 : Int)))
     (.br (decide (Seg.Rise x ≤ Seg.Long x))
      (.br (decide (Seg.Area x ≥ (1 : Int)))
       (.br (decide (Seg.Area x ≤ (5000 : Int)))
        (.br (decide (Seg.Gap x ≥ (1 : Int)))
         (.br (!decide (Seg.Gap x ≤ (200 : Int)))
          (.leaf (.tup [.sym .i64 ((0 : Int)), .bool (false)]))
          (.br (decide (a < (0 : Int)))
           (.leaf (.tup [.sym .i64 ((0 : Int)), .bool (false)]))
           (.br (decide (a > (1000000 : Int)))
            (.leaf (.tup [.sym .i64 ((0 : Int)), .bool (false)]))
            (.br (decide (b < (0 : Int)))
             (.leaf (.tup [.sym .i64 ((0 : Int)), .bool (false)]))
             (.br (decide (b > (1000000 : Int)))
              (.leaf (.tup [.sym .i64 ((0 : Int)), .bool (false)]))
              (.br (decide (c < (0 : Int)))
               (.leaf (.tup [.sym .i64 ((0 : Int)), .bool (false)]))
               (.br (decide (c > (1000 : Int)))
                (.leaf (.tup [.sym .i64 ((0 : Int)), .bool (false)]))
                (.br (decide (b ≤ IntKind.wrap IntKind.i64 (c * Seg.Area x)))
                 (.leaf (.tup [.sym .i64 ((0 : Int)), .bool (false)]))
                 (.req (decide (IntKind.wrap IntKind.i64 (b - IntKind.wrap IntKind.i64 (c * Seg.Area x)) ≠ (0 : Int)) = true)
                 (.leaf (.tup [.sym .i64 (bif false then if IntKind.wrap IntKind.i64 (Int.tdiv (IntKind.wrap IntKind.i64 (IntKind.wrap IntKind.i64 (IntKind.wrap IntKind.i64 ((1000 : Int) * a) + IntKind.wrap IntKind.i64 (b - IntKind.wrap IntKind.i64 (c * Seg.Area x))) - (1 : Int))) (IntKind.wrap IntKind.i64 (b - IntKind.wrap IntKind.i64 (c * Seg.Area x)))) > (1000 : Int) then IntKind.wrap IntKind.i64 (Int.tdiv (IntKind.wrap IntKind.i64 (IntKind.wrap IntKind.i64 (IntKind.wrap IntKind.i64 ((1000 : Int) * a) + IntKind.wrap IntKind.i64 (b - IntKind.wrap IntKind.i64 (c * Seg.Area x))) - (1 : Int))) (IntKind.wrap IntKind.i64 (b - IntKind.wrap IntKind.i64 (c * Seg.Area x)))) else (1000 : Int) else if IntKind.wrap IntKind.i64 (Int.tdiv (IntKind.wrap IntKind.i64 (IntKind.wrap IntKind.i64 (IntKind.wrap IntKind.i64 ((1000 : Int) * a) + IntKind.wrap IntKind.i64 (b - IntKind.wrap IntKind.i64 (c * Seg.Area x))) - (1 : Int))) (IntKind.wrap IntKind.i64 (b - IntKind.wrap IntKind.i64 (c * Seg.Area x)))) < (1000 : Int) then IntKind.wrap IntKind.i64 (Int.tdiv (IntKind.wrap IntKind.i64 (IntKind.wrap IntKind.i64 (IntKind.wrap IntKind.i64 ((1000 : Int) * a) + IntKind.wrap IntKind.i64 (b - IntKind.wrap IntKind.i64 (c * Seg.Area x))) - (1 : Int))) (IntKind.wrap IntKind.i64 (b - IntKind.wrap IntKind.i64 (c * Seg.Area x)))) else (1000 : Int)), .bool (true)])))))))))))
         (.leaf (.tup [.sym .i64 ((0 : Int)), .bool (false)])))
        (.leaf (.tup [.sym .i64 ((0 : Int)), .bool (false)])))
       (.leaf (.tup [.sym .i64 ((0 : Int)), .bool (false)])))
      (.leaf (.tup [.sym .i64 ((0 : Int)), .bool (false)])))
     (.leaf (.tup [.sym .i64 ((0 : Int)), .bool (false)])))
    (.leaf (.tup [.sym .i64 ((0 : Int)), .bool (false)])))
   (.leaf (.tup [.sym .i64 ((0 : Int)), .bool (false)]))) := by kernel_rfl
@[reducible] def inL (x : Seg) : Prop := -9223372036854775808 ≤ x.Long ∧ x.Long ≤ 9223372036854775807
theorem h52 (x : Seg) (a b c : Int) (hx : inL x) : (runX ctA noLoops 52 [x.av, i64 a, i64 b, i64 c] [2, 4]).holds fun v => v = loaded x a b c := by
  rw [t52]
  refine way (fun k => load_out (by omega)) fun k1 => wayN (fun k => load_out (by omega)) fun k2 => wayN (fun k => load_out (by omega)) fun k3 => wayN (fun k => load_out (by omega)) fun k4 => way (fun k5 => way (fun k => ?_) fun k6 => ?_) fun k => ?_
  · exact load_out fun h => by rw [i64_in' (by omega) (by omega)] at k; omega
  · refine wayN (fun k => load_out (by omega)) fun k7 => wayN (fun k => load_out (by omega)) fun k8 => wayN (fun k => load_out (by omega)) fun k9 => ?_
    have m1 := mulb k9.1 k9.2 (show 0 ≤ x.Area by omega) k3.2
    have k0 : IntKind.wrap IntKind.i64 (0 + x.Long) = x.Long := by rw [Int.zero_add]; exact i64_in' hx.1 hx.2
    rw [k0] at k6
    simp (disch := omega) only [i64_in']
    refine way (fun k => load_out (by omega)) fun k10 => ?_
    have h : okL x a b c := by refine ⟨⟨⟨?_, ?_⟩, ?_, ?_, ?_⟩, ?_, ?_, ?_, ?_⟩ <;> omega
    refine ⟨⟨by omega, by omega, by omega⟩, load_in h rfl⟩
  · exact load_out fun h => by rw [i64_in' (by omega) (by omega)] at k; omega
theorem h53 (x : Seg) (a b c : Int) : (runX ctA noLoops 53 [x.av, i64 a, i64 b, i64 c] [2, 4]).holds fun v => v = loaded x a b c := by
  rw [t53]
  refine way (fun k1 => way (fun k2 => way (fun k3 => way (fun k4 => way (fun k5 => way (fun k6 => way (fun k7 => wayN (fun k => load_out (by omega)) fun k8 => way (fun k => load_out (by omega)) fun k9 => way (fun k => load_out (by omega)) fun k10 =>
    way (fun k => load_out (by omega)) fun k11 => way (fun k => load_out (by omega)) fun k12 => way (fun k => load_out (by omega)) fun k13 => way (fun k => load_out (by omega)) fun k14 => ?_)
    fun k => load_out (by omega)) fun k => load_out (by omega)) fun k => load_out (by omega)) fun k => load_out (by omega)) fun k => load_out (by omega)) fun k => load_out (by omega)) fun k => load_out (by omega)
  have m1 := mulb (a := c) (b := x.Area) (m := 1000) (k := 5000) (by omega) (by omega) (by omega) (by omega)
  simp (disch := omega) only [i64_in']
  refine way (fun k => load_out (by omega)) fun k15 => ?_
  have h : okL x a b c := by refine ⟨⟨⟨?_, ?_⟩, ?_, ?_, ?_⟩, ?_, ?_, ?_, ?_⟩ <;> omega
  have hl := lift_bd h
  have e : Int.tdiv (1000 * a + (b - c * x.Area) - 1) (b - c * x.Area) = lift x a b c := up_eq (by omega) (by omega)
  rw [e]
  simp (disch := omega) only [i64_in']
  exact ⟨decide_eq_true (by omega), load_in h rfl⟩
noncomputable def mixed (a b c : Int) : Int := if (0 ≤ a ∧ a ≤ 40000) ∧ (0 ≤ b ∧ b ≤ 40000) ∧ (0 ≤ c ∧ c ≤ 1000) then a + -(-((b - a) * c) / 1000) else 0
theorem mix_out {a b c : Int} (h : ¬ ((0 ≤ a ∧ a ≤ 40000) ∧ (0 ≤ b ∧ b ≤ 40000) ∧ (0 ≤ c ∧ c ≤ 1000))) : i64 0 = i64 (mixed a b c) := by unfold mixed; rw [if_neg h]
theorem mix_in {a b c n : Int} (h : (0 ≤ a ∧ a ≤ 40000) ∧ (0 ≤ b ∧ b ≤ 40000) ∧ (0 ≤ c ∧ c ≤ 1000)) (hn : n = a + -(-((b - a) * c) / 1000)) : i64 n = i64 (mixed a b c) := by unfold mixed; rw [if_pos h, hn]
theorem mix_bd {a b c : Int} (h : (0 ≤ a ∧ a ≤ 40000) ∧ (0 ≤ b ∧ b ≤ 40000) ∧ (0 ≤ c ∧ c ≤ 1000)) : 0 ≤ 1000 * a + (b - a) * c ∧ -40000000 ≤ (b - a) * c ∧ (b - a) * c ≤ 40000000 := by
  have m1 := mulb h.1.1 h.1.2 h.2.2.1 h.2.2.2
  have m2 := mulb h.2.1.1 h.2.1.2 h.2.2.1 h.2.2.2
  have m3 : a * c ≤ a * 1000 := Int.mul_le_mul_of_nonneg_left h.2.2.2 h.1.1
  rw [Int.sub_mul]
  omega
theorem t54 (a b c : Int) : runX ctA noLoops 54 [i64 a, i64 b, i64 c] [2] =
  (.br (!within a (0 : Int) (40000 : Int))
   (.leaf (.sym .i64 ((0 : Int))))
   (.br (!within b (0 : Int) (40000 : Int))
    (.leaf (.sym .i64 ((0 : Int))))
    (.br (!within c (0 : Int) (1000 : Int))
     (.leaf (.sym .i64 ((0 : Int))))
     (.req (qPre (IntKind.wrap IntKind.i64 (IntKind.wrap IntKind.i64 (b - a) * c)) (1000 : Int))
     (.leaf (.sym .i64 (IntKind.wrap IntKind.i64 (a + -(-IntKind.wrap IntKind.i64 (IntKind.wrap IntKind.i64 (b - a) * c) / (1000 : Int)))))))))) := by kernel_rfl
theorem t55 (a b c : Int) : runX ctA noLoops 55 [i64 a, i64 b, i64 c] [2] =
  (.br (decide (a < (0 : Int)))
   (.leaf (.sym .i64 ((0 : Int))))
   (.br (decide (a > (40000 : Int)))
    (.leaf (.sym .i64 ((0 : Int))))
    (.br (decide (b < (0 : Int)))
     (.leaf (.sym .i64 ((0 : Int))))
     (.br (decide (b > (40000 : Int)))
      (.leaf (.sym .i64 ((0 : Int))))
      (.br (decide (c < (0 : Int)))
       (.leaf (.sym .i64 ((0 : Int))))
       (.br (decide (c > (1000 : Int)))
        (.leaf (.sym .i64 ((0 : Int))))
        (.leaf (.sym .i64 (IntKind.wrap IntKind.i64 (Int.tdiv (IntKind.wrap IntKind.i64 (IntKind.wrap IntKind.i64 (IntKind.wrap IntKind.i64 (IntKind.wrap IntKind.i64 ((1000 : Int) * a) + IntKind.wrap IntKind.i64 (IntKind.wrap IntKind.i64 (b - a) * c)) + (1000 : Int)) - (1 : Int))) (1000 : Int))))))))))) := by kernel_rfl
theorem h54 (a b c : Int) : (runX ctA noLoops 54 [i64 a, i64 b, i64 c] [2]).holds fun v => v = i64 (mixed a b c) := by
  rw [t54]
  refine wayN (fun k => mix_out (by omega)) fun k1 => wayN (fun k => mix_out (by omega)) fun k2 => wayN (fun k => mix_out (by omega)) fun k3 => ?_
  have h := mix_bd ⟨k1, k2, k3⟩
  simp (disch := omega) only [i64_in']
  exact ⟨⟨by omega, by omega, by omega⟩, mix_in ⟨k1, k2, k3⟩ rfl⟩
theorem h55 (a b c : Int) : (runX ctA noLoops 55 [i64 a, i64 b, i64 c] [2]).holds fun v => v = i64 (mixed a b c) := by
  rw [t55]
  refine way (fun k => mix_out (by omega)) fun k1 => way (fun k => mix_out (by omega)) fun k2 => way (fun k => mix_out (by omega)) fun k3 => way (fun k => mix_out (by omega)) fun k4 => way (fun k => mix_out (by omega)) fun k5 => way (fun k => mix_out (by omega)) fun k6 => ?_
  have h := mix_bd (a := a) (b := b) (c := c) ⟨⟨by omega, by omega⟩, ⟨by omega, by omega⟩, by omega, by omega⟩
  have e : Int.tdiv (1000 * a + (b - a) * c + 1000 - 1) 1000 = -(-(1000 * a + (b - a) * c) / 1000) := up_eq (by omega) (by omega)
  simp (disch := omega) only [i64_in']
  rw [e]
  exact mix_in ⟨⟨by omega, by omega⟩, ⟨by omega, by omega⟩, by omega, by omega⟩ (by omega)
@[reducible] def shSg : Sh := .agg [.i .i64, .i .i64, .i .i64, .i .i64]
noncomputable def cLoad : Con T := conP Try.prog [shSg, .one (.i .i64), .one (.i .i64), .one (.i .i64)] [.n, .n, .n, .n, .n, .n, .n] (fun d => inL ⟨d.1, d.2.1, d.2.2.1, d.2.2.2.1⟩) fun d => loaded ⟨d.1, d.2.1, d.2.2.1, d.2.2.2.1⟩ d.2.2.2.2.1 d.2.2.2.2.2.1 d.2.2.2.2.2.2.1
noncomputable def cMixed : Con T := conV Try.prog [.one (.i .i64), .one (.i .i64), .one (.i .i64)] [.n, .n, .n] fun d => i64 (mixed d.1 d.2.1 d.2.2.1)
theorem load_ok : ConOk Try.prog E 52 cLoad := conP_ok fun d hd => fact_run ctA_ok noLoops_ok (ts := [2, 4]) rfl (h52 ⟨d.1, d.2.1, d.2.2.1, d.2.2.2.1⟩ _ _ _ hd)
theorem load2_ok : ConOk Try.prog E 53 cLoad := conP_ok fun d _ => fact_run ctA_ok noLoops_ok (ts := [2, 4]) rfl (h53 ⟨d.1, d.2.1, d.2.2.1, d.2.2.2.1⟩ _ _ _)
theorem mixed_ok : ConOk Try.prog E 54 cMixed := conV_ok fun d => fact_run ctA_ok noLoops_ok (ts := [2]) rfl (h54 _ _ _)
theorem mixed2_ok : ConOk Try.prog E 55 cMixed := conV_ok fun d => fact_run ctA_ok noLoops_ok (ts := [2]) rfl (h55 _ _ _)
end Go.Proofs.Ytnhedcaphncliaa.W
