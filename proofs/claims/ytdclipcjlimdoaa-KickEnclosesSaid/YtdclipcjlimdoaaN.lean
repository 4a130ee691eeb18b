/- KickEncloses: what is said of an influx contains what is said for all values within the ranges. No condition. -/
import Derived.Test.YtdclipcjlimdoaaM
import Derived.Test.YtdclipcjlimdoaaCz8
import Derived.Test.YtdclipcjlimdoaaLKickEncloses
set_option linter.unusedVariables false
set_option maxRecDepth 100000
noncomputable section
namespace Go.Proofs.Ytdclipcjlimdoaa.W
open Go Go.Cx Go.RowKit
noncomputable def T15 (x y : Shut) (P C G : Int) : Tree (AV T) :=
  (.br (chk x != (0 : Int))
   (.leaf (.bool (false)))
   (.br (chk y != (0 : Int))
    (.leaf (.bool (false)))
    (.br (decide (Range.Lo (Ingress.Pore (ing x)) ≤ Range.Lo (Ingress.Pore (ing y))))
     (.br (!decide (Range.Hi (Ingress.Pore (ing y)) ≤ Range.Hi (Ingress.Pore (ing x))))
      (.leaf (.bool (false)))
      (.br (decide (Range.Lo (Ingress.Height (ing x)) ≤ Range.Lo (Ingress.Height (ing y))))
       (.br (!decide (Range.Hi (Ingress.Height (ing y)) ≤ Range.Hi (Ingress.Height (ing x))))
        (.leaf (.bool (false)))
        (.br (decide (Range.Lo (Ingress.Weight (ing x)) ≤ Range.Lo (Ingress.Weight (ing y))))
         (.br (!decide (Range.Hi (Ingress.Weight (ing y)) ≤ Range.Hi (Ingress.Weight (ing x))))
          (.leaf (.bool (false)))
          (.br (Range.Lo (Ingress.Pore (ing y)) != Range.Hi (Ingress.Pore (ing y)))
           (.leaf (.bool (false)))
           (.br (decide (IntKind.wrap IntKind.i64 (Range.Hi (Ingress.Height (ing y)) - Range.Lo (Ingress.Height (ing y))) > (1 : Int)))
            (.leaf (.bool (false)))
            (.br (decide (IntKind.wrap IntKind.i64 (IntKind.wrap IntKind.i64 (Shut.Weight x - Range.Hi (Ingress.Weight (ing y))) * G) > IntKind.wrap IntKind.i64 (IntKind.wrap IntKind.i64 (C - P) * Shut.Area x)))
             (.leaf (.bool (false)))
             (.br (decide (IntKind.wrap IntKind.i64 (IntKind.wrap IntKind.i64 (Shut.Weight x - Range.Lo (Ingress.Weight (ing y))) * G) < IntKind.wrap IntKind.i64 (IntKind.wrap IntKind.i64 (C - P) * Shut.Area x)))
              (.leaf (.bool (false)))
              (.br (Ingress.Kind (ing x) != (4 : Int))
               (.br (Ingress.Kind (ing y) != Ingress.Kind (ing x))
                (.leaf (.bool (false)))
                (.br (Range.Lo (Ingress.Pore (ing y)) == IntKind.wrap IntKind.i64 (P + IntKind.wrap IntKind.i64 (Shut.Weight x * Shut.Depth x)))
                 (.leaf (.bool (true)))
                 (.leaf (.bool (false)))))
               (.br (Range.Lo (Ingress.Pore (ing y)) == IntKind.wrap IntKind.i64 (P + IntKind.wrap IntKind.i64 (Shut.Weight x * Shut.Depth x)))
                (.leaf (.bool (true)))
                (.leaf (.bool (false))))))))))
         (.leaf (.bool (false)))))
       (.leaf (.bool (false)))))
     (.leaf (.bool (false))))))
theorem t15 (l : List Int) (p c g : Int) : runX ctE noLoops 15 [.sl 3 l false, i64 p, i64 c, i64 g] [4] =
  (.req ((0 : Int) = (0 : Int))
  (.req (okW (Shut.Pipe (shutOf l)))
  (.req (okW (Shut.Casing (shutOf l)))
  (.req (okW (Shut.Gain (shutOf l)))
   (T15 (shutOf l) ⟨⟨wi (Shut.Pipe (shutOf l)) p, wi (Shut.Pipe (shutOf l)) p⟩, ⟨wi (Shut.Casing (shutOf l)) c, wi (Shut.Casing (shutOf l)) c⟩, ⟨wi (Shut.Gain (shutOf l)) g, wi (Shut.Gain (shutOf l)) g⟩, Shut.Weight (shutOf l), Shut.Depth (shutOf l), Shut.Area (shutOf l)⟩ (wi (Shut.Pipe (shutOf l)) p) (wi (Shut.Casing (shutOf l)) c) (wi (Shut.Gain (shutOf l)) g)))))) := by kernel_rfl
theorem kind_in {a b c d : Int} (h1 : a ≤ c) (h2 : d ≤ b) (h3 : c ≤ d) (h : kind a b ≠ 4) : kind c d = kind a b := by
  unfold kind at h ⊢
  repeat' split
  all_goals first | omega | (exfalso; simp_all; done) | (split at h <;> omega)
theorem T15_ok {x : Shut} (hx : ShutBd x) {P C G : Int} (hP : x.Pipe.Lo ≤ P ∧ P ≤ x.Pipe.Hi) (hC : x.Casing.Lo ≤ C ∧ C ≤ x.Casing.Hi) (hG : x.Gain.Lo ≤ G ∧ G ≤ x.Gain.Hi) :
    (T15 x ⟨⟨P, P⟩, ⟨C, C⟩, ⟨G, G⟩, x.Weight, x.Depth, x.Area⟩ P C G).holds fun v => v = .bool true := by
  obtain ⟨x1, x2, x3, x4, x5, x6, x7⟩ := hx
  have ox : okS x := by unfold okS; omega
  have oy : okS ⟨⟨P, P⟩, ⟨C, C⟩, ⟨G, G⟩, x.Weight, x.Depth, x.Area⟩ := by unfold okS; simp only; omega
  have cx : chk x = 0 := by unfold chk; rw [if_pos ox, if_neg (by omega)]
  have cy : chk ⟨⟨P, P⟩, ⟨C, C⟩, ⟨G, G⟩, x.Weight, x.Depth, x.Area⟩ = 0 := by unfold chk; rw [if_pos oy, if_neg (by simp only; omega)]
  have ex : ing x = ⟨⟨x.Pipe.Lo + x.Weight * x.Depth, x.Pipe.Hi + x.Weight * x.Depth⟩, ⟨hLo x, hHi x⟩, ⟨wLo x, wHi x⟩, kind (wLo x) (wHi x)⟩ := if_pos cx
  have ey : ing ⟨⟨P, P⟩, ⟨C, C⟩, ⟨G, G⟩, x.Weight, x.Depth, x.Area⟩ = _ := if_pos cy
  have bx := bd ox
  have e1 : hLo x = x.Gain.Lo / x.Area := rfl
  have e2 : hHi x = -(-x.Gain.Hi / x.Area) := rfl
  have e3 : wLo x = x.Weight - -((x.Pipe.Lo - x.Casing.Hi) / hLo x) := rfl
  have e4 : wHi x = x.Weight - (x.Casing.Lo - x.Pipe.Hi) / hHi x := rfl
  have f1 : hLo ⟨⟨P, P⟩, ⟨C, C⟩, ⟨G, G⟩, x.Weight, x.Depth, x.Area⟩ = G / x.Area := rfl
  have f2 : hHi ⟨⟨P, P⟩, ⟨C, C⟩, ⟨G, G⟩, x.Weight, x.Depth, x.Area⟩ = -(-G / x.Area) := rfl
  have f3 : wLo ⟨⟨P, P⟩, ⟨C, C⟩, ⟨G, G⟩, x.Weight, x.Depth, x.Area⟩ = x.Weight - -((P - C) / (G / x.Area)) := rfl
  have f4 : wHi ⟨⟨P, P⟩, ⟨C, C⟩, ⟨G, G⟩, x.Weight, x.Depth, x.Area⟩ = x.Weight - (C - P) / -(-G / x.Area) := rfl
  have hA : 0 < x.Area := by omega
  -- heights
  have g1 : hLo x ≤ G / x.Area := by rw [e1]; exact Int.ediv_le_ediv hA hG.1
  have g2 : -(-G / x.Area) ≤ hHi x := by rw [e2]; have := Int.ediv_le_ediv hA (show -x.Gain.Hi ≤ -G by omega); omega
  have g3 : 1 ≤ hLo x := by rw [e1]; exact bx.hl.1
  have g4 : hHi x ≤ 1073741824 := by rw [e2]; exact bx.hh.2
  have g5 := up_down (f := G) hA
  have g6 := up_le (f := G) hA
  have g7 := Int.ediv_mul_le G (show x.Area ≠ 0 by omega)
  have g8 := Int.lt_ediv_add_one_mul_self G hA
  generalize hk : G / x.Area = k at *
  generalize hh : -(-G / x.Area) = h at *
  have e5 : P - C = -(C - P) := by omega
  have e6 : x.Pipe.Lo - x.Casing.Hi = -(x.Casing.Hi - x.Pipe.Lo) := by omega
  have w1 := up_anti (f := x.Casing.Hi - x.Pipe.Lo) (g := C - P) (p := hLo x) (q := k) (by omega) (by omega) (by omega) g1
  have w2 := div_anti (g := x.Casing.Lo - x.Pipe.Hi) (f := C - P) (p := h) (q := hHi x) (by omega) (by omega) (by omega) g2
  have w3 := div_anti (g := C - P) (f := C - P) (p := k) (q := h) (by omega) (by omega) (by omega) g5.1
  have w4 := up_down (f := C - P) (p := k) (by omega)
  have w5 := up_le (f := C - P) (p := k) (by omega)
  have w6 := Int.ediv_mul_le (C - P) (show h ≠ 0 by omega)
  have w7 := up_nonneg (f := C - P) (p := k) (by omega) (by omega)
  have w8 := Int.ediv_nonneg (show 0 ≤ C - P by omega) (show 0 ≤ h by omega)
  have w9 := Int.ediv_le_self h (show 0 ≤ C - P by omega)
  have w10 := Int.ediv_le_self k (show 0 ≤ C - P by omega)
  rw [e6] at e3
  rw [e5] at f3
  generalize hu : -(-(C - P) / k) = u at *
  generalize ht : (C - P) / h = t at *
  -- products
  have p1 : t * G ≤ (C - P) * x.Area := by
    have a := Int.mul_le_mul_of_nonneg_left g6.1 w8
    have b := Int.mul_le_mul_of_nonneg_right w6 (show 0 ≤ x.Area by omega)
    rw [Int.mul_assoc] at b
    omega
  have p2 : (C - P) * x.Area ≤ u * G := by
    have a := Int.mul_le_mul_of_nonneg_left g7 w7
    have b := Int.mul_le_mul_of_nonneg_right w5.1 (show 0 ≤ x.Area by omega)
    rw [Int.mul_assoc] at b
    omega
  have p3 : u * G ≤ 1000000000000000 := by
    have a1 : (k + 1) * x.Area ≤ (k + k) * x.Area := Int.mul_le_mul_of_nonneg_right (by omega) (by omega)
    have a2 : u * G ≤ u * ((k + k) * x.Area) := Int.mul_le_mul_of_nonneg_left (by omega) w7
    have a3 : u * ((k + k) * x.Area) = (u * k + u * k) * x.Area := by rw [← Int.mul_assoc, Int.mul_add]
    have a4 := mulb (a := u * k + u * k) (b := x.Area) (m := 140000000000) (k := 5000) (by omega) (by omega) (by omega) (by omega)
    omega
  have p4 := mulb (a := C - P) (b := x.Area) (m := 68719476736) (k := 5000) (by omega) (by omega) (by omega) (by omega)
  have p5 := Int.mul_nonneg w8 (show 0 ≤ G by omega)
  have p6 := bx.md
  unfold T15
  rw [ex, ey]
  simp only [f1, f2, f3, f4, e3, e4] at *
  have i1 : x.Weight - (x.Weight - t) = t := by omega
  have i2 : x.Weight - (x.Weight - u) = u := by omega
  have q1 : IntKind.wrap IntKind.i64 (h - k) = h - k := i64_in' (by omega) (by omega)
  have q2 : IntKind.wrap IntKind.i64 (C - P) = C - P := i64_in' (by omega) (by omega)
  have q3 : IntKind.wrap IntKind.i64 (x.Weight - (x.Weight - t)) = t := by rw [i64_in' (by omega) (by omega)]; omega
  have q4 : IntKind.wrap IntKind.i64 (x.Weight - (x.Weight - u)) = u := by rw [i64_in' (by omega) (by omega)]; omega
  have q5 : IntKind.wrap IntKind.i64 (t * G) = t * G := i64_in' (by omega) (by omega)
  have q6 : IntKind.wrap IntKind.i64 (u * G) = u * G := i64_in' (by omega) (by omega)
  have q7 : IntKind.wrap IntKind.i64 ((C - P) * x.Area) = (C - P) * x.Area := i64_in' (by omega) (by omega)
  have q8 : IntKind.wrap IntKind.i64 (x.Weight * x.Depth) = x.Weight * x.Depth := i64_in' (by omega) (by omega)
  have q9 : IntKind.wrap IntKind.i64 (P + x.Weight * x.Depth) = P + x.Weight * x.Depth := i64_in' (by omega) (by omega)
  rw [q1, q2, q3, q4, q5, q6, q7, q8, q9]
  refine wayNe (fun a => absurd cx a) fun _ => wayNe (fun a => absurd cy a) fun _ => way (fun _ => wayN (fun a => ?_) fun _ => way (fun _ => wayN (fun a => ?_) fun _ => way (fun _ => wayN (fun a => ?_) fun _ => wayNe (fun a => absurd rfl a) fun _ => way (fun a => ?_) fun _ => way (fun a => ?_) fun _ => way (fun a => ?_) fun _ => wayNe (fun a => wayNe (fun b => ?_) fun _ => wayEq (fun _ => rfl) fun b => absurd rfl b) fun _ => wayEq (fun _ => rfl) fun b => absurd rfl b) fun a => ?_) fun a => ?_) fun a => ?_
  · omega
  · omega
  · omega
  · omega
  · omega
  · omega
  · exact absurd (kind_in (by omega) (by omega) (by omega) a) b
  · omega
  · omega
  · omega
theorem kickEncloses_proved : Rows.KickEnclosesSaid := kickEncloses_said fun l p c g _ _ _ _ => fact_run ctE_ok noLoops_ok (ts := [4]) rfl (by
  rw [t15]
  have hx := shutOf_bd l
  have o1 : okW (shutOf l).Pipe := ⟨hx.pipe.2, hx.pipe.1, by have := hx.order; have := hx.casing; omega⟩
  have o2 : okW (shutOf l).Casing := ⟨hx.casing.1, by have := hx.order; have := hx.pipe; omega, by have := hx.casing; omega⟩
  have o3 : okW (shutOf l).Gain := ⟨hx.gain.2.1, by have := hx.gain; have := hx.area; omega, by have := hx.gain; omega⟩
  exact ⟨rfl, o1, o2, o3, T15_ok hx (wi_bd o1) (wi_bd o2) (wi_bd o3)⟩)
end Go.Proofs.Ytdclipcjlimdoaa.W
