/- Turns. No condition. -/
import Derived.Test.YtmnhfjhlfgebiaaB
set_option linter.unusedVariables false
set_option maxRecDepth 100000
noncomputable section
namespace Go.Proofs.Ytmnhfjhlfgebiaa.W
open Go Go.Cx Go.RowKit
@[reducible] def inP (m x y z : Int) : Prop := (-m ≤ x ∧ x ≤ m) ∧ (-m ≤ y ∧ y ≤ m) ∧ (-m ≤ z ∧ z ≤ m)
@[reducible] def q3 (x y z : Int) : Int := x * x + y * y + z * z
theorem sq_bd {x m : Int} (h : -m ≤ x ∧ x ≤ m) : 0 ≤ x * x ∧ x * x ≤ m * m := by
  rcases Int.le_total 0 x with p | p
  · exact ⟨Int.mul_nonneg p p, Int.mul_self_le_mul_self p h.2⟩
  · have h1 := Int.mul_self_le_mul_self (a := -x) (b := m) (by omega) (by omega)
    rw [Int.neg_mul_neg] at h1
    have h2 := Int.mul_nonneg (a := -x) (b := -x) (by omega) (by omega)
    rw [Int.neg_mul_neg] at h2
    exact ⟨h2, h1⟩
theorem q3_in {x y z : Int} (h : inP 16777216 x y z) : IntKind.wrap IntKind.i64 (IntKind.wrap IntKind.i64 (IntKind.wrap IntKind.i64 (x * x) + IntKind.wrap IntKind.i64 (y * y)) + IntKind.wrap IntKind.i64 (z * z)) = q3 x y z := by
  have h1 := sq_bd h.1
  have h2 := sq_bd h.2.1
  have h3 := sq_bd h.2.2
  rw [i64_in' (n := x * x) (by omega) (by omega), i64_in' (n := y * y) (by omega) (by omega), i64_in' (n := z * z) (by omega) (by omega), i64_in' (n := x * x + y * y) (by omega) (by omega), i64_in' (by omega) (by omega)]
theorem tupB {n : Int} {a b : Bool} (h : a = b) : AV.tup [i64 n, .bool a] = (AV.tup [i64 n, .bool b] : AV T) := by rw [h]
noncomputable def szN (x y z : Int) : Int := if inP 16777216 x y z then sqN (q3 x y z) else 0
noncomputable def szB (x y z : Int) : Bool := decide (inP 16777216 x y z ∧ sqOk (q3 x y z))
@[reducible] noncomputable def szV (x y z : Int) : AV T := .tup [i64 (szN x y z), .bool (szB x y z)]
theorem szV_no {x y z : Int} (h : ¬ inP 16777216 x y z) : AV.tup [i64 0, .bool false] = szV x y z := by
  unfold szV szN szB
  rw [if_neg h, decide_eq_false (fun k => h k.1)]
theorem szV_yes {x y z : Int} (h : inP 16777216 x y z) : AV.tup [i64 (sqN (q3 x y z)), .bool (sqB (q3 x y z))] = szV x y z := by
  unfold szV szN szB sqB
  rw [if_pos h]
  exact tupB (decide_eq_decide.2 ⟨fun k => ⟨h, k⟩, fun k => k.2⟩)
theorem s104 (x y z : Int) : (runX ctR noLoops 104 [.agg [i64 x, i64 y, i64 z]] [2, 4]).holds fun v => v = szV x y z := by
  rw [tv104]
  refine way (fun c1 => way (fun c2 => wayB (fun c3 => ?_) fun c3 => ?_) fun c2 => ?_) fun c1 => ?_
  · exact szV_no fun h => by
      have : within z (-16777216) 16777216 = true := decide_eq_true h.2.2
      rw [this] at c3; exact absurd c3 (by decide)
  · have c3 : within z (-16777216) 16777216 = true := by simpa using c3
    have h : inP 16777216 x y z := ⟨c1, c2, of_decide_eq_true c3⟩
    rw [q3_in h]
    exact szV_yes h
  · exact szV_no fun h => c2 h.2.1
  · exact szV_no fun h => c1 h.1
noncomputable def lgN (x y z : Int) : Int := if inP 131072 x y z then sqN (q3 x y z) else 0
@[reducible] noncomputable def lgP (x y z : Int) : Prop := inP 131072 x y z ∧ sqOk (q3 x y z) ∧ 1 ≤ rt (q3 x y z) ∧ rt (q3 x y z) ≤ 131072
noncomputable def lgB (x y z : Int) : Bool := decide (lgP x y z)
@[reducible] noncomputable def lgV (x y z : Int) : AV T := .tup [i64 (lgN x y z), .bool (lgB x y z)]
theorem lgV_no {x y z : Int} (h : ¬ inP 131072 x y z) : AV.tup [i64 0, .bool false] = lgV x y z := by
  unfold lgV lgN lgB
  rw [if_neg h, decide_eq_false (fun k => h k.1)]
theorem s94 (x y z : Int) : (runX ctR noLoops 94 [.agg [i64 x, i64 y, i64 z]] [2, 4]).holds fun v => v = lgV x y z := by
  rw [tv94]
  refine way (fun c1 => way (fun c2 => way (fun c3 => way (fun c4 => way (fun c5 => wayB (fun c6 => ?_) fun c6 => ?_) fun c => ?_) fun c => ?_) fun c => ?_) fun c => ?_) fun c => ?_
  · exact lgV_no fun h => by
      have : decide (z ≤ 131072) = true := decide_eq_true h.2.2.2
      rw [this] at c6; exact absurd c6 (by decide)
  · have c6 : decide (z ≤ 131072) = true := by simpa using c6
    have c6 := of_decide_eq_true c6
    have h : inP 131072 x y z := ⟨⟨c1, c2⟩, ⟨c3, c4⟩, ⟨c5, c6⟩⟩
    rw [q3_in (by unfold inP; omega)]
    unfold lgV lgN lgB
    rw [if_pos h]
    refine wayB (fun k => ?_) fun k => ?_
    · have k := of_decide_eq_true k
      have e : sqN (q3 x y z) = rt (q3 x y z) := if_pos k
      rw [e]
      refine way (fun k2 => ?_) fun k2 => ?_
      · show AV.tup [_, _] = _
        exact tupB <| decide_eq_decide.2 ⟨fun k3 => ⟨h, k, k2, k3⟩, fun k3 => k3.2.2.2⟩
      · show AV.tup [_, _] = _
        exact tupB <| (decide_eq_false fun k3 => k2 k3.2.2.1).symm
    · have k := of_decide_eq_false k
      show AV.tup [_, _] = _
      exact tupB <| (decide_eq_false fun k3 => k k3.2.1).symm
  all_goals exact lgV_no fun h => c (by unfold inP at h; omega)
noncomputable def cSize : Con T := conV Try.prog [.agg [.i .i64, .i .i64, .i .i64]] [.n, .n, .n] fun d => szV d.1 d.2.1 d.2.2.1
noncomputable def cLong : Con T := conV Try.prog [.agg [.i .i64, .i .i64, .i .i64]] [.n, .n, .n] fun d => lgV d.1 d.2.1 d.2.2.1
theorem size_ok : ConOk Try.prog E 104 cSize := conV_ok fun d => fact_run ctR_ok noLoops_ok (ts := [2, 4]) rfl (s104 d.1 d.2.1 d.2.2.1)
theorem long_ok : ConOk Try.prog E 94 cLong := conV_ok fun d => fact_run ctR_ok noLoops_ok (ts := [2, 4]) rfl (s94 d.1 d.2.1 d.2.2.1)
/-! ### gcd -/
@[reducible] def gc (n m : Int) : Int := ((Int.gcd n m : Nat) : Int)
theorem gc_step {n m : Int} (h0 : 0 ≤ n) (h : 0 < m) : gc m (Int.tmod n m) = gc n m ∧ 0 ≤ Int.tmod n m ∧ Int.tmod n m < m := by
  obtain ⟨a, rfl⟩ := Int.eq_ofNat_of_zero_le h0
  obtain ⟨b, rfl⟩ := Int.eq_ofNat_of_zero_le (Int.le_of_lt h)
  have e : Int.tmod (a : Int) (b : Int) = ((a % b : Nat) : Int) := (Int.ofNat_tmod a b).symm
  refine ⟨?_, Int.tmod_nonneg _ h0, Int.tmod_lt_of_pos _ h⟩
  rw [e]
  unfold gc
  rw [Int.gcd_natCast_natCast, Int.gcd_natCast_natCast]
  congr 1
  rw [Nat.gcd_comm a b, Nat.gcd_rec b a, Nat.gcd_comm]
theorem gc_zero {n : Int} (h0 : 0 ≤ n) : gc n 0 = n := by
  unfold gc
  rw [Int.gcd_zero_right]
  omega
noncomputable def o110 (n m : Int) : Tree (Ex × List (V T)) := .req (0 ≤ n ∧ 0 ≤ m) (.leaf (.exit 0, [.n (gc n m)]))
noncomputable def c110 : LoopC T := ⟨[.n, .n], ⟨12, [(0, .one (.i .i64)), (1, .one (.i .i64))], []⟩, fun _ => ⟨12, [(0, .one (.i .i64))], []⟩, 10, fun d => o110 d.1 d.2.1⟩
theorem b110 (n m : Int) : bodyD Try.prog E c110 0 (bodyX Try.prog E [] noLoops 1000 5 L0 (lpOf Try.prog 110 0)) (n, m, ()) =
  (.br (decide (m > (0 : Int)))
   (.req (decide (m ≠ (0 : Int)) = true)
   (.leaf (.inl (m, (Int.tmod n m, ())))))
   (.leaf (.inr (.exit (0 : Nat), [.n (n)])))) := by kernel_rfl
theorem h110' (n m : Int) (K : Ex × List (V T) → Prop) (h : 0 ≤ n ∧ 0 ≤ m) (hK : K (.exit 0, [.n (gc n m)])) :
    (bodyD Try.prog E c110 0 (bodyX Try.prog E [] noLoops 1000 5 L0 (lpOf Try.prog 110 0)) (n, m, ())).holds fun y => match y with
    | .inl d => d.2.1.toNat < m.toNat ∧ (c110.out d).holds K
    | .inr y => K y := by
  rw [b110]
  refine way (fun c => ⟨decide_eq_true (by omega), ?_⟩) fun c => ?_
  · obtain ⟨k1, k2, k3⟩ := gc_step h.1 c
    refine ⟨?_, ⟨h.2, k2⟩, ?_⟩
    · show (Int.tmod n m).toNat < m.toNat
      omega
    · show K (.exit 0, [.n (gc m (Int.tmod n m))])
      rw [k1]; exact hK
  · obtain rfl : m = 0 := by omega
    rw [gc_zero h.1] at hK
    exact hK
theorem h110 : LoopH Try.prog E c110 0 (bodyX Try.prog E [] noLoops 1000 5 L0 (lpOf Try.prog 110 0)) :=
  ⟨fun d => d.2.1.toNat, fun d K hK => by
    obtain ⟨n, m, ⟨⟩⟩ := d
    refine Tree.holds_mono (fun y hy => ?_) (h110' n m K hK.1 hK.2)
    cases y with
    | inl d' => exact hy
    | inr y => exact hy⟩
theorem ll110 : LLOk Try.prog E (llOf Try.prog E 110 [(1, c110)]) := llOf_ok fun i hi c hc => by
  have hi : i < 1 := hi
  obtain rfl : i = 0 := by omega
  obtain rfl : c110 = c := Option.some.inj hc
  exact LSnd.mk good names mixes .nil (by decide) h110
theorem tv110 (n m : Int) : runX [] (llOf Try.prog E 110 [(1, c110)]) 110 [i64 n, i64 m] [2] =
  (.req ((0 : Int) ≤ n ∧ (0 : Int) ≤ m)
  (.leaf (.sym .i64 (gc n m)))) := by kernel_rfl
theorem s110 (n m : Int) (h : 0 ≤ n ∧ 0 ≤ m) : (runX [] (llOf Try.prog E 110 [(1, c110)]) 110 [i64 n, i64 m] [2]).holds fun v => v = i64 (gc n m) := by
  rw [tv110]
  exact ⟨h, rfl⟩
noncomputable def cGcd : Con T := conP Try.prog [.one (.i .i64), .one (.i .i64)] [.n, .n] (fun d => 0 ≤ d.1 ∧ 0 ≤ d.2.1) fun d => i64 (gc d.1 d.2.1)
theorem gcd_ok : ConOk Try.prog E 110 cGcd := conP_ok fun d hd => fact_run .nil ll110 (ts := [2]) rfl (s110 d.1 d.2.1 hd)
noncomputable def o108 (n m x y z w : Int) : Tree (Ex × List (V T)) := .req (0 ≤ n ∧ 0 ≤ m) (.leaf (.exit 0, [.n (gc n m), .n x, .n y, .n z, .n w]))
noncomputable def c108 : LoopC T := ⟨[.n, .n, .n, .n, .n, .n], ⟨24, [(1, .one (.o 0 0)), (2, .one (.o 1 0)), (3, .one (.i .i64)), (4, .one (.i .i64))], [.c [.i .i64, .i .i64], .c [.i .i64, .i .i64]]⟩, fun _ => ⟨24, [(1, .one (.o 0 0)), (2, .one (.o 1 0)), (3, .one (.i .i64))], [.c [.i .i64, .i .i64], .c [.i .i64, .i .i64]]⟩, 10, fun d => o108 d.1 d.2.1 d.2.2.1 d.2.2.2.1 d.2.2.2.2.1 d.2.2.2.2.2.1⟩
theorem b108 (n m x y z w : Int) : bodyD Try.prog E c108 0 (bodyX Try.prog E [] noLoops 1000 5 L0 (lpOf Try.prog 108 0)) (n, m, x, y, z, w, ()) =
  (.br (m != (0 : Int))
   (.req (decide (m ≠ (0 : Int)) = true)
   (.leaf (.inl (m, (Int.tmod n m, (x, (y, (z, (w, ())))))))))
   (.leaf (.inr (.exit (0 : Nat), [.n (n), .n (x), .n (y), .n (z), .n (w)])))) := by kernel_rfl
theorem h108' (n m x y z w : Int) (K : Ex × List (V T) → Prop) (h : 0 ≤ n ∧ 0 ≤ m) (hK : K (.exit 0, [.n (gc n m), .n x, .n y, .n z, .n w])) :
    (bodyD Try.prog E c108 0 (bodyX Try.prog E [] noLoops 1000 5 L0 (lpOf Try.prog 108 0)) (n, m, x, y, z, w, ())).holds fun y => match y with
    | .inl d => d.2.1.toNat < m.toNat ∧ (c108.out d).holds K
    | .inr y => K y := by
  rw [b108]
  refine wayNe (fun c => ⟨decide_eq_true (by omega), ?_⟩) fun c => ?_
  · obtain ⟨k1, k2, k3⟩ := gc_step (n := n) (m := m) h.1 (by omega)
    refine ⟨?_, ⟨h.2, k2⟩, ?_⟩
    · show (Int.tmod n m).toNat < m.toNat
      omega
    · show K (.exit 0, [.n (gc m (Int.tmod n m)), _, _, _, _])
      rw [k1]; exact hK
  · obtain rfl : m = 0 := c
    rw [gc_zero h.1] at hK
    exact hK
theorem h108 : LoopH Try.prog E c108 0 (bodyX Try.prog E [] noLoops 1000 5 L0 (lpOf Try.prog 108 0)) :=
  ⟨fun d => d.2.1.toNat, fun d K hK => by
    obtain ⟨n, m, x, y, z, w, ⟨⟩⟩ := d
    refine Tree.holds_mono (fun y hy => ?_) (h108' n m x y z w K hK.1 hK.2)
    cases y with
    | inl d' => exact hy
    | inr y => exact hy⟩
theorem ll108 : LLOk Try.prog E (llOf Try.prog E 108 [(2, c108)]) := llOf_ok fun i hi c hc => by
  have hi : i < 1 := hi
  obtain rfl : i = 0 := by omega
  obtain rfl : c108 = c := Option.some.inj hc
  exact LSnd.mk good names mixes .nil (by decide) h108
theorem tv108 (n m : Int) : runX [] (llOf Try.prog E 108 [(2, c108)]) 108 [.agg [i64 n, i64 m]] [54] =
  (.req ((0 : Int) ≤ n ∧ (0 : Int) ≤ m)
  (.req (decide (gc n m ≠ (0 : Int)) = true)
  (.req (decide (gc n m ≠ (0 : Int)) = true)
  (.leaf (.agg [.sym .i64 (IntKind.wrap IntKind.i64 (Int.tdiv n (gc n m))), .sym .i64 (IntKind.wrap IntKind.i64 (Int.tdiv m (gc n m)))]))))) := by kernel_rfl
theorem gc_pos {n m : Int} (h : 0 < m) : 0 < gc n m := by
  have := Int.gcd_pos_of_ne_zero_right (a := n) (b := m) (by omega)
  unfold gc
  omega
theorem div_in {n g : Int} (h : 0 ≤ n) (h1 : n ≤ 1125899906842624) (hg : 0 < g) : IntKind.wrap IntKind.i64 (Int.tdiv n g) = n / g := by
  have e2 : Int.tdiv n g = n / g := Int.tdiv_eq_ediv_of_nonneg h
  have h4 : 0 ≤ n / g := Int.ediv_nonneg h (by omega)
  have h5 : n / g ≤ n := Int.ediv_le_self _ h
  rw [e2, i64_in' (by omega) (by omega)]
@[reducible] def loP (n m : Int) : Prop := (0 ≤ n ∧ n ≤ 1125899906842624) ∧ (0 < m ∧ m ≤ 1125899906842624)
noncomputable def loN (n m : Int) : Int := n / gc n m
noncomputable def loD (n m : Int) : Int := m / gc n m
theorem s108 (n m : Int) (h : loP n m) : (runX [] (llOf Try.prog E 108 [(2, c108)]) 108 [.agg [i64 n, i64 m]] [54]).holds fun v => v = .agg [i64 (loN n m), i64 (loD n m)] := by
  rw [tv108]
  have g := gc_pos (n := n) h.2.1
  rw [div_in h.1.1 h.1.2 g, div_in (by omega) h.2.2 g]
  exact ⟨⟨h.1.1, by omega⟩, decide_eq_true (by omega), decide_eq_true (by omega), rfl⟩
noncomputable def cLow : Con T := conP Try.prog [.agg [.i .i64, .i .i64]] [.n, .n] (fun d => loP d.1 d.2.1) fun d => .agg [i64 (loN d.1 d.2.1), i64 (loD d.1 d.2.1)]
theorem low_ok : ConOk Try.prog E 108 cLow := conP_ok fun d hd => fact_run .nil ll108 (ts := [54]) rfl (s108 d.1 d.2.1 hd)
/-! ### Turn -/
noncomputable def ctT : CTab T := [(102, cWithin), (38, cRoot), (39, cRoot), (104, cSize), (94, cLong), (110, cGcd), (108, cLow)]
theorem ctT_ok : CTabOk Try.prog E ctT := .cons within_ok (.cons root_ok (.cons root2_ok (.cons size_ok (.cons long_ok (.cons gcd_ok (.cons low_ok .nil))))))
theorem tv40 (a b c x y z : Int) : runX ctT noLoops 40 [.agg [i64 a, i64 b, i64 c], .agg [i64 x, i64 y, i64 z]] [54, 30] =
  (.br (!szB a b c)
   (.leaf (.tup [.agg [.sym .i64 ((0 : Int)), .sym .i64 ((0 : Int))], .sym .i64 ((3 : Int))]))
   (.br (!szB x y z)
    (.leaf (.tup [.agg [.sym .i64 ((0 : Int)), .sym .i64 ((0 : Int))], .sym .i64 ((3 : Int))]))
    (.br (!within (szN a b c) (1 : Int) (131072 : Int))
     (.leaf (.tup [.agg [.sym .i64 ((0 : Int)), .sym .i64 ((0 : Int))], .sym .i64 ((3 : Int))]))
     (.br (!within (szN x y z) (1 : Int) (131072 : Int))
      (.leaf (.tup [.agg [.sym .i64 ((0 : Int)), .sym .i64 ((0 : Int))], .sym .i64 ((3 : Int))]))
      (.req (loP (IntKind.wrap IntKind.i64 (IntKind.wrap IntKind.i64 (szN a b c * szN x y z) - IntKind.wrap IntKind.i64 (IntKind.wrap IntKind.i64 (IntKind.wrap IntKind.i64 (a * x) + IntKind.wrap IntKind.i64 (b * y)) + IntKind.wrap IntKind.i64 (c * z)))) (IntKind.wrap IntKind.i64 (szN a b c * szN x y z)))
      (.leaf (.tup [.agg [.sym .i64 (loN (IntKind.wrap IntKind.i64 (IntKind.wrap IntKind.i64 (szN a b c * szN x y z) - IntKind.wrap IntKind.i64 (IntKind.wrap IntKind.i64 (IntKind.wrap IntKind.i64 (a * x) + IntKind.wrap IntKind.i64 (b * y)) + IntKind.wrap IntKind.i64 (c * z)))) (IntKind.wrap IntKind.i64 (szN a b c * szN x y z))), .sym .i64 (loD (IntKind.wrap IntKind.i64 (IntKind.wrap IntKind.i64 (szN a b c * szN x y z) - IntKind.wrap IntKind.i64 (IntKind.wrap IntKind.i64 (IntKind.wrap IntKind.i64 (a * x) + IntKind.wrap IntKind.i64 (b * y)) + IntKind.wrap IntKind.i64 (c * z)))) (IntKind.wrap IntKind.i64 (szN a b c * szN x y z)))], .sym .i64 ((0 : Int))]))))))) := by kernel_rfl
theorem tv41 (a b c x y z : Int) : runX ctT noLoops 41 [.agg [i64 a, i64 b, i64 c], .agg [i64 x, i64 y, i64 z]] [54, 30] =
  (.br (!lgB a b c)
   (.leaf (.tup [.agg [.sym .i64 ((0 : Int)), .sym .i64 ((0 : Int))], .sym .i64 ((3 : Int))]))
   (.br (!lgB x y z)
    (.leaf (.tup [.agg [.sym .i64 ((0 : Int)), .sym .i64 ((0 : Int))], .sym .i64 ((3 : Int))]))
    (.req ((0 : Int) ≤ IntKind.wrap IntKind.i64 (IntKind.wrap IntKind.i64 (lgN a b c * lgN x y z) - IntKind.wrap IntKind.i64 (IntKind.wrap IntKind.i64 (IntKind.wrap IntKind.i64 (a * x) + IntKind.wrap IntKind.i64 (b * y)) + IntKind.wrap IntKind.i64 (c * z))) ∧ (0 : Int) ≤ IntKind.wrap IntKind.i64 (lgN a b c * lgN x y z))
    (.req (decide (gc (IntKind.wrap IntKind.i64 (IntKind.wrap IntKind.i64 (lgN a b c * lgN x y z) - IntKind.wrap IntKind.i64 (IntKind.wrap IntKind.i64 (IntKind.wrap IntKind.i64 (a * x) + IntKind.wrap IntKind.i64 (b * y)) + IntKind.wrap IntKind.i64 (c * z)))) (IntKind.wrap IntKind.i64 (lgN a b c * lgN x y z)) ≠ (0 : Int)) = true)
    (.req (decide (gc (IntKind.wrap IntKind.i64 (IntKind.wrap IntKind.i64 (lgN a b c * lgN x y z) - IntKind.wrap IntKind.i64 (IntKind.wrap IntKind.i64 (IntKind.wrap IntKind.i64 (a * x) + IntKind.wrap IntKind.i64 (b * y)) + IntKind.wrap IntKind.i64 (c * z)))) (IntKind.wrap IntKind.i64 (lgN a b c * lgN x y z)) ≠ (0 : Int)) = true)
    (.leaf (.tup [.agg [.sym .i64 (IntKind.wrap IntKind.i64 (Int.tdiv (IntKind.wrap IntKind.i64 (IntKind.wrap IntKind.i64 (lgN a b c * lgN x y z) - IntKind.wrap IntKind.i64 (IntKind.wrap IntKind.i64 (IntKind.wrap IntKind.i64 (a * x) + IntKind.wrap IntKind.i64 (b * y)) + IntKind.wrap IntKind.i64 (c * z)))) (gc (IntKind.wrap IntKind.i64 (IntKind.wrap IntKind.i64 (lgN a b c * lgN x y z) - IntKind.wrap IntKind.i64 (IntKind.wrap IntKind.i64 (IntKind.wrap IntKind.i64 (a * x) + IntKind.wrap IntKind.i64 (b * y)) + IntKind.wrap IntKind.i64 (c * z)))) (IntKind.wrap IntKind.i64 (lgN a b c * lgN x y z))))), .sym .i64 (IntKind.wrap IntKind.i64 (Int.tdiv (IntKind.wrap IntKind.i64 (lgN a b c * lgN x y z)) (gc (IntKind.wrap IntKind.i64 (IntKind.wrap IntKind.i64 (lgN a b c * lgN x y z) - IntKind.wrap IntKind.i64 (IntKind.wrap IntKind.i64 (IntKind.wrap IntKind.i64 (a * x) + IntKind.wrap IntKind.i64 (b * y)) + IntKind.wrap IntKind.i64 (c * z)))) (IntKind.wrap IntKind.i64 (lgN a b c * lgN x y z)))))], .sym .i64 ((0 : Int))]))))))) := by kernel_rfl
theorem sqnn (x : Int) : 0 ≤ x * x := by
  rcases Int.le_total 0 x with p | p
  · exact Int.mul_nonneg p p
  · have h2 := Int.mul_nonneg (a := -x) (b := -x) (by omega) (by omega)
    rw [Int.neg_mul_neg] at h2
    exact h2
theorem prod_bd {a x m : Int} (h : -m ≤ a ∧ a ≤ m) (k : -m ≤ x ∧ x ≤ m) : -(m * m) ≤ a * x ∧ a * x ≤ m * m := by
  have h1 := sq_bd h
  have h2 := sq_bd k
  have h3 := sqnn (a - x)
  have h4 := sqnn (a + x)
  have e3 : (a - x) * (a - x) = a * a + x * x - 2 * (a * x) := by grind
  have e4 : (a + x) * (a + x) = a * a + x * x + 2 * (a * x) := by grind
  omega
theorem lgP_iff {x y z : Int} : lgP x y z ↔ szB x y z = true ∧ within (szN x y z) 1 131072 = true := by
  constructor
  · intro ⟨h1, h2, h3, h4⟩
    have h5 : inP 16777216 x y z := by unfold inP at h1 ⊢; omega
    refine ⟨decide_eq_true ⟨h5, h2⟩, ?_⟩
    unfold szN sqN
    rw [if_pos h5, if_pos h2]
    exact decide_eq_true ⟨h3, h4⟩
  · intro ⟨h1, h2⟩
    have h1 : inP 16777216 x y z ∧ sqOk (q3 x y z) := of_decide_eq_true h1
    obtain ⟨h5, h6⟩ := h1
    unfold szN sqN at h2
    rw [if_pos h5, if_pos h6] at h2
    have h2 := of_decide_eq_true h2
    have h7 := sq_bd (x := rt (q3 x y z)) (m := 131072) (by omega)
    have h8 : q3 x y z ≤ 131072 * 131072 := by rw [← h6.2]; exact h7.2
    have hx := sqnn x
    have hy := sqnn y
    have hz := sqnn z
    have up : ∀ t : Int, t * t ≤ 131072 * 131072 → -131072 ≤ t ∧ t ≤ 131072 := fun t ht => by
      have h1 := le_of_sq (r := t) (m := 131072) (by decide) ht
      have h2 := le_of_sq (r := -t) (m := 131072) (by decide) (by rw [Int.neg_mul_neg]; exact ht)
      omega
    exact ⟨⟨up x (by unfold q3 at h8; omega), up y (by unfold q3 at h8; omega), up z (by unfold q3 at h8; omega)⟩, h6, h2⟩
@[reducible] noncomputable def ln (x y z : Int) : Int := rt (q3 x y z)
@[reducible] def dot (a b c x y z : Int) : Int := a * x + b * y + c * z
theorem lagr (a b c x y z : Int) : dot a b c x y z * dot a b c x y z + ((b * z - c * y) * (b * z - c * y) + (c * x - a * z) * (c * x - a * z) + (a * y - b * x) * (a * y - b * x)) = q3 a b c * q3 x y z := by
  unfold dot q3; grind
theorem ln_bd {a b c x y z : Int} (h : lgP a b c) (k : lgP x y z) : (1 ≤ ln a b c * ln x y z ∧ ln a b c * ln x y z ≤ 17179869184) ∧ -(ln a b c * ln x y z) ≤ dot a b c x y z ∧ dot a b c x y z ≤ ln a b c * ln x y z := by
  obtain ⟨h1, h2, h3, h4⟩ := h
  obtain ⟨k1, k2, k3, k4⟩ := k
  have p1 : ln a b c * ln a b c = q3 a b c := h2.2
  have p2 : ln x y z * ln x y z = q3 x y z := k2.2
  have gen : ∀ l m : Int, (l * l) * (m * m) = (l * m) * (l * m) := by intro l m; grind
  have e1 := gen (ln a b c) (ln x y z)
  rw [p1, p2] at e1
  have hl := lagr a b c x y z
  have s1 := sqnn (b * z - c * y)
  have s2 := sqnn (c * x - a * z)
  have s3 := sqnn (a * y - b * x)
  have m1 := mulb (a := ln a b c) (b := ln x y z) (m := 131072) (k := 131072) (by unfold ln; omega) h4 (by unfold ln; omega) k4
  have m2 : 0 < ln a b c * ln x y z := Int.mul_pos (by unfold ln; omega) (by unfold ln; omega)
  have c1 : dot a b c x y z * dot a b c x y z ≤ (ln a b c * ln x y z) * (ln a b c * ln x y z) := by omega
  have c2 := le_of_sq (r := dot a b c x y z) (m := ln a b c * ln x y z) (by omega) c1
  have c3 := le_of_sq (r := -dot a b c x y z) (m := ln a b c * ln x y z) (by omega) (by rw [Int.neg_mul_neg]; exact c1)
  omega
theorem dot_in {a b c x y z : Int} (h : inP 131072 a b c) (k : inP 131072 x y z) : IntKind.wrap IntKind.i64 (IntKind.wrap IntKind.i64 (IntKind.wrap IntKind.i64 (a * x) + IntKind.wrap IntKind.i64 (b * y)) + IntKind.wrap IntKind.i64 (c * z)) = dot a b c x y z := by
  have h1 := prod_bd h.1 k.1
  have h2 := prod_bd h.2.1 k.2.1
  have h3 := prod_bd h.2.2 k.2.2
  rw [i64_in' (n := a * x) (by omega) (by omega), i64_in' (n := b * y) (by omega) (by omega), i64_in' (n := c * z) (by omega) (by omega), i64_in' (n := a * x + b * y) (by omega) (by omega), i64_in' (by omega) (by omega)]
noncomputable def tN (a b c x y z : Int) : Int := loN (ln a b c * ln x y z - dot a b c x y z) (ln a b c * ln x y z)
noncomputable def tD (a b c x y z : Int) : Int := loD (ln a b c * ln x y z - dot a b c x y z) (ln a b c * ln x y z)
@[reducible] noncomputable def tP (a b c x y z : Int) : Prop := lgP a b c ∧ lgP x y z
noncomputable def tuN (a b c x y z : Int) : Int := if tP a b c x y z then tN a b c x y z else 0
noncomputable def tuD (a b c x y z : Int) : Int := if tP a b c x y z then tD a b c x y z else 0
noncomputable def tuE (a b c x y z : Int) : Int := if tP a b c x y z then 0 else 3
@[reducible] noncomputable def tuV (a b c x y z : Int) : AV T := .tup [.agg [i64 (tuN a b c x y z), i64 (tuD a b c x y z)], i64 (tuE a b c x y z)]
theorem tuV_no {a b c x y z : Int} (h : ¬ tP a b c x y z) : AV.tup [.agg [i64 0, i64 0], i64 3] = tuV a b c x y z := by
  unfold tuV tuN tuD tuE
  rw [if_neg h, if_neg h, if_neg h]
theorem tuV_yes {a b c x y z : Int} (h : tP a b c x y z) : AV.tup [.agg [i64 (tN a b c x y z), i64 (tD a b c x y z)], i64 0] = tuV a b c x y z := by
  unfold tuV tuN tuD tuE
  rw [if_pos h, if_pos h, if_pos h]
theorem szN_ln {x y z : Int} (h : lgP x y z) : szN x y z = ln x y z := by
  obtain ⟨h1, h2, h3, h4⟩ := h
  have h5 : inP 16777216 x y z := by unfold inP at h1 ⊢; omega
  unfold szN sqN
  rw [if_pos h5, if_pos h2]
theorem lgN_ln {x y z : Int} (h : lgP x y z) : lgN x y z = ln x y z := by
  obtain ⟨h1, h2, h3, h4⟩ := h
  unfold lgN sqN
  rw [if_pos h1, if_pos h2]
theorem notB {b : Bool} (h : (!b) = false) : b = true := by simpa using h
theorem notB' {b : Bool} (h : (!b) = true) : b ≠ true := by simpa using h
theorem s40 (a b c x y z : Int) : (runX ctT noLoops 40 [.agg [i64 a, i64 b, i64 c], .agg [i64 x, i64 y, i64 z]] [54, 30]).holds fun v => v = tuV a b c x y z := by
  rw [tv40]
  refine wayB (fun c1 => tuV_no fun h => notB' c1 (lgP_iff.1 h.1).1) fun c1 => wayB (fun c2 => tuV_no fun h => notB' c2 (lgP_iff.1 h.2).1) fun c2 => wayB (fun c3 => tuV_no fun h => notB' c3 (lgP_iff.1 h.1).2) fun c3 => wayB (fun c4 => tuV_no fun h => notB' c4 (lgP_iff.1 h.2).2) fun c4 => ?_
  have h1 : lgP a b c := lgP_iff.2 ⟨notB c1, notB c3⟩
  have h2 : lgP x y z := lgP_iff.2 ⟨notB c2, notB c4⟩
  obtain ⟨k1, k2⟩ := ln_bd h1 h2
  rw [szN_ln h1, szN_ln h2, dot_in h1.1 h2.1, i64_in' (n := ln a b c * ln x y z) (by omega) (by omega), i64_in' (n := ln a b c * ln x y z - dot a b c x y z) (by omega) (by omega)]
  exact ⟨⟨by omega, by omega⟩, tuV_yes ⟨h1, h2⟩⟩
theorem s41 (a b c x y z : Int) : (runX ctT noLoops 41 [.agg [i64 a, i64 b, i64 c], .agg [i64 x, i64 y, i64 z]] [54, 30]).holds fun v => v = tuV a b c x y z := by
  rw [tv41]
  refine wayB (fun c1 => tuV_no fun h => notB' c1 (decide_eq_true h.1)) fun c1 => wayB (fun c2 => tuV_no fun h => notB' c2 (decide_eq_true h.2)) fun c2 => ?_
  have h1 : lgP a b c := of_decide_eq_true (notB c1)
  have h2 : lgP x y z := of_decide_eq_true (notB c2)
  obtain ⟨k1, k2⟩ := ln_bd h1 h2
  rw [lgN_ln h1, lgN_ln h2, dot_in h1.1 h2.1, i64_in' (n := ln a b c * ln x y z) (by omega) (by omega), i64_in' (n := ln a b c * ln x y z - dot a b c x y z) (by omega) (by omega)]
  have g := gc_pos (n := ln a b c * ln x y z - dot a b c x y z) (m := ln a b c * ln x y z) (by omega)
  rw [div_in (by omega) (by omega) g, div_in (by omega) (by omega) g]
  exact ⟨⟨by omega, by omega⟩, decide_eq_true (by omega), decide_eq_true (by omega), tuV_yes ⟨h1, h2⟩⟩
@[reducible] def sh3 : Sh := .agg [.i .i64, .i .i64, .i .i64]
noncomputable def cTurn : Con T := conV Try.prog [sh3, sh3] [.n, .n, .n, .n, .n, .n] fun d => tuV d.1 d.2.1 d.2.2.1 d.2.2.2.1 d.2.2.2.2.1 d.2.2.2.2.2.1
theorem turn_ok : ConOk Try.prog E 40 cTurn := conV_ok fun d => fact_run ctT_ok noLoops_ok (ts := [54, 30]) rfl (s40 d.1 d.2.1 d.2.2.1 d.2.2.2.1 d.2.2.2.2.1 d.2.2.2.2.2.1)
theorem turn2_ok : ConOk Try.prog E 41 cTurn := conV_ok fun d => fact_run ctT_ok noLoops_ok (ts := [54, 30]) rfl (s41 d.1 d.2.1 d.2.2.1 d.2.2.2.1 d.2.2.2.2.1 d.2.2.2.2.2.1)
end Go.Proofs.Ytmnhfjhlfgebiaa.W
