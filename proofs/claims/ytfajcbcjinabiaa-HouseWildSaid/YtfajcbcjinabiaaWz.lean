/- HouseWild: the wild well. No condition. -/
import Derived.Test.YtfajcbcjinabiaaWb0
import Derived.Test.YtfajcbcjinabiaaWb1
import Derived.Test.YtfajcbcjinabiaaWb2
import Derived.Test.YtfajcbcjinabiaaWb3
import Derived.Test.YtfajcbcjinabiaaWb4
import Derived.Test.YtfajcbcjinabiaaWb5
import Derived.Test.YtfajcbcjinabiaaWb6
import Derived.Test.YtfajcbcjinabiaaWb7
import Derived.Test.YtfajcbcjinabiaaWb8
import Derived.Test.YtfajcbcjinabiaaWb9
import Derived.Test.YtfajcbcjinabiaaWb10
import Derived.Test.YtfajcbcjinabiaaWb11
import Derived.Test.YtfajcbcjinabiaaWc0
import Derived.Test.YtfajcbcjinabiaaWc1
import Derived.Test.YtfajcbcjinabiaaWc2
import Derived.Test.YtfajcbcjinabiaaWc3
import Derived.Test.YtfajcbcjinabiaaLHouseWild
set_option linter.unusedVariables false
set_option maxRecDepth 100000
set_option maxHeartbeats 4000000
noncomputable section
namespace Go.Proofs.Ytfajcbcjinabiaa.W
open Go Go.Cx Go.RowKit
noncomputable def cW23 : LoopC T := ⟨[], ⟨97, [], []⟩, fun _ => ⟨97, [], []⟩, 10, fun _ => .fail⟩
theorem hW23 (m : Nat) : LoopH Try.prog E cW23 m (bodyX Try.prog E ctHW noLoops 1000 5 L0 (lpOf Try.prog 23 0)) := ⟨fun _ => 0, fun _ _ h => absurd h id⟩
theorem hW24 (m : Nat) : LoopH Try.prog E cW23 m (bodyX Try.prog E ctHW noLoops 1000 5 L0 (lpOf Try.prog 24 0)) := ⟨fun _ => 0, fun _ _ h => absurd h id⟩
theorem llW23 (m : Nat) : LLOk Try.prog E (llOfN Try.prog E 23 m [(7, cW23)]) := llOfN_ok fun i hi c hc => by
  have hi : i < 2 := hi
  have : i = 0 ∨ i = 1 := by omega
  rcases this with rfl | rfl
  · obtain rfl : cW23 = c := Option.some.inj hc
    exact LSndN.mk good names mixes ctHW_ok (by decide) (hW23 m)
  · cases hc
theorem llW24 (m : Nat) : LLOk Try.prog E (llOfN Try.prog E 24 m [(7, cW23)]) := llOfN_ok fun i hi c hc => by
  have hi : i < 2 := hi
  have : i = 0 ∨ i = 1 := by omega
  rcases this with rfl | rfl
  · obtain rfl : cW23 = c := Option.some.inj hc
    exact LSndN.mk good names mixes ctHW_ok (by decide) (hW24 m)
  · cases hc
noncomputable def llW : Nat → Nat → LoopTab T := fun g n0 => bif Nat.beq g 23 then llOfN Try.prog E 23 n0 [(7, cW23)] g n0 else llOfN Try.prog E 24 n0 [(7, cW23)] g n0
theorem llW_ok : LLOk Try.prog E llW := by
  intro g fn n0 hg
  have h1 := llW23 n0 g fn n0 hg
  have h2 := llW24 n0 g fn n0 hg
  unfold llW
  cases hb : Nat.beq g 23 with
  | true => exact h1
  | false => exact h2
theorem tvWO (l r t : Int) : runX ctHW llW 5 [i64 l, i64 r, i64 t] [4] =
  (.br (decide (l < (1 : Int)))
   (.br (decide (l < (1 : Int)))
    (.leaf (.bool (true)))
    (.br (decide (l > (15 : Int)))
     (.leaf (.bool (true)))
     (.br (decide (r < (1 : Int)))
      (.leaf (.bool (true)))
      (.br (decide (r > (15 : Int)))
       (.leaf (.bool (true)))
       (.br (decide (t < (0 : Int)))
        (.leaf (.bool (true)))
        (.br (decide (t > (3 : Int)))
         (.leaf (.bool (true)))
         (.br (decide (IntKind.wrap IntKind.i64 (IntKind.wrap IntKind.i64 (l + (1 : Int)) * IntKind.wrap IntKind.i64 (t + (1 : Int))) > (64 : Int)))
          (.leaf (.bool (false)))
          .fail)))))))
   (.br (decide (l > (15 : Int)))
    (.br (decide (l < (1 : Int)))
     (.leaf (.bool (true)))
     (.br (decide (l > (15 : Int)))
      (.leaf (.bool (true)))
      (.br (decide (r < (1 : Int)))
       (.leaf (.bool (true)))
       (.br (decide (r > (15 : Int)))
        (.leaf (.bool (true)))
        (.br (decide (t < (0 : Int)))
         (.leaf (.bool (true)))
         (.br (decide (t > (3 : Int)))
          (.leaf (.bool (true)))
          (.br (decide (IntKind.wrap IntKind.i64 (IntKind.wrap IntKind.i64 (l + (1 : Int)) * IntKind.wrap IntKind.i64 (t + (1 : Int))) > (64 : Int)))
           (.leaf (.bool (false)))
           .fail)))))))
    (.br (decide (r < (1 : Int)))
     (.br (decide (l < (1 : Int)))
      (.leaf (.bool (true)))
      (.br (decide (l > (15 : Int)))
       (.leaf (.bool (true)))
       (.br (decide (r < (1 : Int)))
        (.leaf (.bool (true)))
        (.br (decide (r > (15 : Int)))
         (.leaf (.bool (true)))
         (.br (decide (t < (0 : Int)))
          (.leaf (.bool (true)))
          (.br (decide (t > (3 : Int)))
           (.leaf (.bool (true)))
           (.br (decide (IntKind.wrap IntKind.i64 (IntKind.wrap IntKind.i64 (l + (1 : Int)) * IntKind.wrap IntKind.i64 (t + (1 : Int))) > (64 : Int)))
            (.leaf (.bool (false)))
            .fail)))))))
     (.br (decide (r > (15 : Int)))
      (.br (decide (l < (1 : Int)))
       (.leaf (.bool (true)))
       (.br (decide (l > (15 : Int)))
        (.leaf (.bool (true)))
        (.br (decide (r < (1 : Int)))
         (.leaf (.bool (true)))
         (.br (decide (r > (15 : Int)))
          (.leaf (.bool (true)))
          (.br (decide (t < (0 : Int)))
           (.leaf (.bool (true)))
           (.br (decide (t > (3 : Int)))
            (.leaf (.bool (true)))
            (.br (decide (IntKind.wrap IntKind.i64 (IntKind.wrap IntKind.i64 (l + (1 : Int)) * IntKind.wrap IntKind.i64 (t + (1 : Int))) > (64 : Int)))
             (.leaf (.bool (false)))
             .fail)))))))
      (.br (decide (t < (0 : Int)))
       (.br (decide (l < (1 : Int)))
        (.leaf (.bool (true)))
        (.br (decide (l > (15 : Int)))
         (.leaf (.bool (true)))
         (.br (decide (r < (1 : Int)))
          (.leaf (.bool (true)))
          (.br (decide (r > (15 : Int)))
           (.leaf (.bool (true)))
           (.br (decide (t < (0 : Int)))
            (.leaf (.bool (true)))
            (.br (decide (t > (3 : Int)))
             (.leaf (.bool (true)))
             (.br (decide (IntKind.wrap IntKind.i64 (IntKind.wrap IntKind.i64 (l + (1 : Int)) * IntKind.wrap IntKind.i64 (t + (1 : Int))) > (64 : Int)))
              (.leaf (.bool (false)))
              .fail)))))))
       (.br (decide (t > (3 : Int)))
        (.br (decide (l < (1 : Int)))
         (.leaf (.bool (true)))
         (.br (decide (l > (15 : Int)))
          (.leaf (.bool (true)))
          (.br (decide (r < (1 : Int)))
           (.leaf (.bool (true)))
           (.br (decide (r > (15 : Int)))
            (.leaf (.bool (true)))
            (.br (decide (t < (0 : Int)))
             (.leaf (.bool (true)))
             (.br (decide (t > (3 : Int)))
              (.leaf (.bool (true)))
              (.br (decide (IntKind.wrap IntKind.i64 (IntKind.wrap IntKind.i64 (l + (1 : Int)) * IntKind.wrap IntKind.i64 (t + (1 : Int))) > (64 : Int)))
               (.leaf (.bool (false)))
               .fail)))))))
        (.br (decide (IntKind.wrap IntKind.i64 (IntKind.wrap IntKind.i64 (l + (1 : Int)) * IntKind.wrap IntKind.i64 (t + (1 : Int))) > (64 : Int)))
         (.br (decide (l < (1 : Int)))
          (.leaf (.bool (false)))
          (.br (decide (l > (15 : Int)))
           (.leaf (.bool (false)))
           (.br (decide (r < (1 : Int)))
            (.leaf (.bool (false)))
            (.br (decide (r > (15 : Int)))
             (.leaf (.bool (false)))
             (.br (decide (t < (0 : Int)))
              (.leaf (.bool (false)))
              (.br (decide (t > (3 : Int)))
               (.leaf (.bool (false)))
               (.br (decide (IntKind.wrap IntKind.i64 (IntKind.wrap IntKind.i64 (l + (1 : Int)) * IntKind.wrap IntKind.i64 (t + (1 : Int))) > (64 : Int)))
                (.leaf (.bool (true)))
                .fail)))))))
         .fail))))))) := by kernel_rfl
theorem fact_lit3 {f : Nat} {l r t : Int} {v : AV T} (H : Fact Try.prog E f [.int .i64 l, i64 r, .int .i64 t] v) : Fact Try.prog E f [i64 l, i64 r, i64 t] v := fun lim M β hp w vs hn hL => H lim M β hp w vs hn ⟨hL.1, fun j c x hc hx => by
  match j, hc with
  | 0, hc =>
    cases hc
    have k := hL.2 0 _ x rfl hx
    cases k
    exact .int
  | 1, hc => exact hL.2 1 _ x hc hx
  | 2, hc =>
    cases hc
    have k := hL.2 2 _ x rfl hx
    cases k
    exact .int
  | j + 3, hc => cases hc⟩
theorem fact_lit3r {f : Nat} {l r t : Int} {v : AV T} (H : Fact Try.prog E f [.int .i64 l, .int .i64 r, .int .i64 t] v) : Fact Try.prog E f [i64 l, i64 r, i64 t] v := fun lim M β hp w vs hn hL => H lim M β hp w vs hn ⟨hL.1, fun j c x hc hx => by
  match j, hc with
  | 0, hc =>
    cases hc
    have k := hL.2 0 _ x rfl hx
    cases k
    exact .int
  | 1, hc =>
    cases hc
    have k := hL.2 1 _ x rfl hx
    cases k
    exact .int
  | 2, hc =>
    cases hc
    have k := hL.2 2 _ x rfl hx
    cases k
    exact .int
  | j + 3, hc => cases hc⟩
theorem cl_fact {l r t : Int} (h : isT (runX ctHW noLoops 5 [.int .i64 l, .int .i64 r, .int .i64 t] [4]) = true) : Fact Try.prog E 5 [i64 l, i64 r, i64 t] (.bool true) := fact_lit3r (fact_run ctHW_ok noLoops_ok (ts := [4]) rfl (by rw [isT_eq h]; rfl))
theorem w_out {l r t : Int} (v : ¬ ((1 ≤ l ∧ l ≤ 15) ∧ (0 ≤ t ∧ t ≤ 3) ∧ 1 ≤ r ∧ r ≤ 15)) : Fact Try.prog E 5 [i64 l, i64 r, i64 t] (.bool true) := fact_run ctHW_ok llW_ok (ts := [4]) rfl (by
  rw [tvWO]
  repeat' (first | exact rfl | exact absurd ⟨⟨by omega, by omega⟩, ⟨by omega, by omega⟩, by omega, by omega⟩ v | refine way (fun _ => ?_) fun _ => ?_))
theorem houseWild_proved : Rows.HouseWildSaid := houseWild_said fun l r t _ _ _ => by
  by_cases v : (1 ≤ l ∧ l ≤ 15) ∧ 0 ≤ t ∧ t ≤ 3
  · have hl : l = 1 ∨ l = 2 ∨ l = 3 ∨ l = 4 ∨ l = 5 ∨ l = 6 ∨ l = 7 ∨ l = 8 ∨ l = 9 ∨ l = 10 ∨ l = 11 ∨ l = 12 ∨ l = 13 ∨ l = 14 ∨ l = 15 := by omega
    have ht : t = 0 ∨ t = 1 ∨ t = 2 ∨ t = 3 := by omega
    rcases hl with rfl | rfl | rfl | rfl | rfl | rfl | rfl | rfl | rfl | rfl | rfl | rfl | rfl | rfl | rfl
    · rcases ht with rfl | rfl | rfl | rfl
      · exact fact_lit3 (fact_run ctHW_ok noLoops_ok (ts := [4]) rfl (w1_0 r))
      · exact fact_lit3 (fact_run ctHW_ok noLoops_ok (ts := [4]) rfl (w1_1 r))
      · exact fact_lit3 (fact_run ctHW_ok noLoops_ok (ts := [4]) rfl (w1_2 r))
      · exact fact_lit3 (fact_run ctHW_ok noLoops_ok (ts := [4]) rfl (w1_3 r))
    · rcases ht with rfl | rfl | rfl | rfl
      · exact fact_lit3 (fact_run ctHW_ok noLoops_ok (ts := [4]) rfl (w2_0 r))
      · exact fact_lit3 (fact_run ctHW_ok noLoops_ok (ts := [4]) rfl (w2_1 r))
      · exact fact_lit3 (fact_run ctHW_ok noLoops_ok (ts := [4]) rfl (w2_2 r))
      · exact fact_lit3 (fact_run ctHW_ok noLoops_ok (ts := [4]) rfl (w2_3 r))
    · rcases ht with rfl | rfl | rfl | rfl
      · exact fact_lit3 (fact_run ctHW_ok noLoops_ok (ts := [4]) rfl (w3_0 r))
      · exact fact_lit3 (fact_run ctHW_ok noLoops_ok (ts := [4]) rfl (w3_1 r))
      · exact fact_lit3 (fact_run ctHW_ok noLoops_ok (ts := [4]) rfl (w3_2 r))
      · exact fact_lit3 (fact_run ctHW_ok noLoops_ok (ts := [4]) rfl (w3_3 r))
    · rcases ht with rfl | rfl | rfl | rfl
      · exact fact_lit3 (fact_run ctHW_ok noLoops_ok (ts := [4]) rfl (w4_0 r))
      · exact fact_lit3 (fact_run ctHW_ok noLoops_ok (ts := [4]) rfl (w4_1 r))
      · exact fact_lit3 (fact_run ctHW_ok noLoops_ok (ts := [4]) rfl (w4_2 r))
      · exact fact_lit3 (fact_run ctHW_ok noLoops_ok (ts := [4]) rfl (w4_3 r))
    · rcases ht with rfl | rfl | rfl | rfl
      · exact fact_lit3 (fact_run ctHW_ok noLoops_ok (ts := [4]) rfl (w5_0 r))
      · exact fact_lit3 (fact_run ctHW_ok noLoops_ok (ts := [4]) rfl (w5_1 r))
      · exact fact_lit3 (fact_run ctHW_ok noLoops_ok (ts := [4]) rfl (w5_2 r))
      · exact fact_lit3 (fact_run ctHW_ok noLoops_ok (ts := [4]) rfl (w5_3 r))
    · rcases ht with rfl | rfl | rfl | rfl
      · exact fact_lit3 (fact_run ctHW_ok noLoops_ok (ts := [4]) rfl (w6_0 r))
      · exact fact_lit3 (fact_run ctHW_ok noLoops_ok (ts := [4]) rfl (w6_1 r))
      · exact fact_lit3 (fact_run ctHW_ok noLoops_ok (ts := [4]) rfl (w6_2 r))
      · exact fact_lit3 (fact_run ctHW_ok noLoops_ok (ts := [4]) rfl (w6_3 r))
    · rcases ht with rfl | rfl | rfl | rfl
      · exact fact_lit3 (fact_run ctHW_ok noLoops_ok (ts := [4]) rfl (w7_0 r))
      · exact fact_lit3 (fact_run ctHW_ok noLoops_ok (ts := [4]) rfl (w7_1 r))
      · exact fact_lit3 (fact_run ctHW_ok noLoops_ok (ts := [4]) rfl (w7_2 r))
      · exact fact_lit3 (fact_run ctHW_ok noLoops_ok (ts := [4]) rfl (w7_3 r))
    · rcases ht with rfl | rfl | rfl | rfl
      · exact fact_lit3 (fact_run ctHW_ok noLoops_ok (ts := [4]) rfl (w8_0 r))
      · exact fact_lit3 (fact_run ctHW_ok noLoops_ok (ts := [4]) rfl (w8_1 r))
      · exact fact_lit3 (fact_run ctHW_ok noLoops_ok (ts := [4]) rfl (w8_2 r))
      · exact fact_lit3 (fact_run ctHW_ok noLoops_ok (ts := [4]) rfl (w8_3 r))
    · rcases ht with rfl | rfl | rfl | rfl
      · exact fact_lit3 (fact_run ctHW_ok noLoops_ok (ts := [4]) rfl (w9_0 r))
      · exact fact_lit3 (fact_run ctHW_ok noLoops_ok (ts := [4]) rfl (w9_1 r))
      · exact fact_lit3 (fact_run ctHW_ok noLoops_ok (ts := [4]) rfl (w9_2 r))
      · exact fact_lit3 (fact_run ctHW_ok noLoops_ok (ts := [4]) rfl (w9_3 r))
    · rcases ht with rfl | rfl | rfl | rfl
      · exact fact_lit3 (fact_run ctHW_ok noLoops_ok (ts := [4]) rfl (w10_0 r))
      · exact fact_lit3 (fact_run ctHW_ok noLoops_ok (ts := [4]) rfl (w10_1 r))
      · exact fact_lit3 (fact_run ctHW_ok noLoops_ok (ts := [4]) rfl (w10_2 r))
      · exact fact_lit3 (fact_run ctHW_ok noLoops_ok (ts := [4]) rfl (w10_3 r))
    · rcases ht with rfl | rfl | rfl | rfl
      · exact fact_lit3 (fact_run ctHW_ok noLoops_ok (ts := [4]) rfl (w11_0 r))
      · exact fact_lit3 (fact_run ctHW_ok noLoops_ok (ts := [4]) rfl (w11_1 r))
      · exact fact_lit3 (fact_run ctHW_ok noLoops_ok (ts := [4]) rfl (w11_2 r))
      · exact fact_lit3 (fact_run ctHW_ok noLoops_ok (ts := [4]) rfl (w11_3 r))
    · rcases ht with rfl | rfl | rfl | rfl
      · exact fact_lit3 (fact_run ctHW_ok noLoops_ok (ts := [4]) rfl (w12_0 r))
      · exact fact_lit3 (fact_run ctHW_ok noLoops_ok (ts := [4]) rfl (w12_1 r))
      · exact fact_lit3 (fact_run ctHW_ok noLoops_ok (ts := [4]) rfl (w12_2 r))
      · exact fact_lit3 (fact_run ctHW_ok noLoops_ok (ts := [4]) rfl (w12_3 r))
    · rcases ht with rfl | rfl | rfl | rfl
      · exact fact_lit3 (fact_run ctHW_ok noLoops_ok (ts := [4]) rfl (w13_0 r))
      · exact fact_lit3 (fact_run ctHW_ok noLoops_ok (ts := [4]) rfl (w13_1 r))
      · exact fact_lit3 (fact_run ctHW_ok noLoops_ok (ts := [4]) rfl (w13_2 r))
      · exact fact_lit3 (fact_run ctHW_ok noLoops_ok (ts := [4]) rfl (w13_3 r))
    · rcases ht with rfl | rfl | rfl | rfl
      · exact fact_lit3 (fact_run ctHW_ok noLoops_ok (ts := [4]) rfl (w14_0 r))
      · exact fact_lit3 (fact_run ctHW_ok noLoops_ok (ts := [4]) rfl (w14_1 r))
      · exact fact_lit3 (fact_run ctHW_ok noLoops_ok (ts := [4]) rfl (w14_2 r))
      · by_cases hr : 1 ≤ r ∧ r ≤ 15
        · have hr : r = 1 ∨ r = 2 ∨ r = 3 ∨ r = 4 ∨ r = 5 ∨ r = 6 ∨ r = 7 ∨ r = 8 ∨ r = 9 ∨ r = 10 ∨ r = 11 ∨ r = 12 ∨ r = 13 ∨ r = 14 ∨ r = 15 := by omega
          rcases hr with rfl | rfl | rfl | rfl | rfl | rfl | rfl | rfl | rfl | rfl | rfl | rfl | rfl | rfl | rfl
          · exact cl_fact c14_1_3
          · exact cl_fact c14_2_3
          · exact cl_fact c14_3_3
          · exact cl_fact c14_4_3
          · exact cl_fact c14_5_3
          · exact cl_fact c14_6_3
          · exact cl_fact c14_7_3
          · exact cl_fact c14_8_3
          · exact cl_fact c14_9_3
          · exact cl_fact c14_10_3
          · exact cl_fact c14_11_3
          · exact cl_fact c14_12_3
          · exact cl_fact c14_13_3
          · exact cl_fact c14_14_3
          · exact cl_fact c14_15_3
        · exact w_out fun h => hr h.2.2
    · rcases ht with rfl | rfl | rfl | rfl
      · exact fact_lit3 (fact_run ctHW_ok noLoops_ok (ts := [4]) rfl (w15_0 r))
      · exact fact_lit3 (fact_run ctHW_ok noLoops_ok (ts := [4]) rfl (w15_1 r))
      · exact fact_lit3 (fact_run ctHW_ok noLoops_ok (ts := [4]) rfl (w15_2 r))
      · by_cases hr : 1 ≤ r ∧ r ≤ 15
        · have hr : r = 1 ∨ r = 2 ∨ r = 3 ∨ r = 4 ∨ r = 5 ∨ r = 6 ∨ r = 7 ∨ r = 8 ∨ r = 9 ∨ r = 10 ∨ r = 11 ∨ r = 12 ∨ r = 13 ∨ r = 14 ∨ r = 15 := by omega
          rcases hr with rfl | rfl | rfl | rfl | rfl | rfl | rfl | rfl | rfl | rfl | rfl | rfl | rfl | rfl | rfl
          · exact cl_fact c15_1_3
          · exact cl_fact c15_2_3
          · exact cl_fact c15_3_3
          · exact cl_fact c15_4_3
          · exact cl_fact c15_5_3
          · exact cl_fact c15_6_3
          · exact cl_fact c15_7_3
          · exact cl_fact c15_8_3
          · exact cl_fact c15_9_3
          · exact cl_fact c15_10_3
          · exact cl_fact c15_11_3
          · exact cl_fact c15_12_3
          · exact cl_fact c15_13_3
          · exact cl_fact c15_14_3
          · exact cl_fact c15_15_3
        · exact w_out fun h => hr h.2.2
  · exact w_out fun h => v ⟨h.1, h.2.1⟩
end Go.Proofs.Ytfajcbcjinabiaa.W
