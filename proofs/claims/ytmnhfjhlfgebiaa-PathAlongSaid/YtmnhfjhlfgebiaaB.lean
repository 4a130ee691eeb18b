/- Roots. No condition. -/
import Derived.Test.YtmnhfjhlfgebiaaA
import Derived.Test.YtmnhfjhlfgebiaaCz7
set_option linter.unusedVariables false
set_option maxRecDepth 100000
noncomputable section
namespace Go.Proofs.Ytmnhfjhlfgebiaa.W
open Go Go.Cx Go.RowKit
theorem fact_run3 {ct : CTab T} (hc : CTabOk Try.prog E ct) {ll : Nat → Nat → LoopTab T} (hl : LLOk Try.prog E ll) {f : Nat} {xs : List (AV T)} {ts : List Nat} {v : AV T} (ha : xs.all flt3 = true)
    (h : (runX ct ll f xs ts).holds fun x => x = v) : Fact Try.prog E f xs v :=
  fact_of_run3 good decOk (callX_ok good names mixes hc hl 8) ha h
theorem rt_ex : ∀ n : Nat, ∃ r : Nat, r * r ≤ n ∧ n < (r + 1) * (r + 1)
  | 0 => ⟨0, by decide⟩
  | n + 1 => by
    obtain ⟨r, h1, h2⟩ := rt_ex n
    by_cases h : n + 1 < (r + 1) * (r + 1)
    · exact ⟨r, by omega, h⟩
    · refine ⟨r + 1, by omega, ?_⟩
      have : (r + 1 + 1) * (r + 1 + 1) = (r + 1) * (r + 1) + 2 * (r + 1) + 1 := by grind
      omega
noncomputable def rt (n : Int) : Int := ((Classical.choose (rt_ex n.toNat) : Nat) : Int)
theorem rt_spec {n : Int} (h : 0 ≤ n) : 0 ≤ rt n ∧ rt n * rt n ≤ n ∧ n < (rt n + 1) * (rt n + 1) := by
  obtain ⟨m, rfl⟩ := Int.eq_ofNat_of_zero_le h
  have := Classical.choose_spec (rt_ex (m : Int).toNat)
  show (0 : Int) ≤ ((Classical.choose (rt_ex (m : Int).toNat) : Nat) : Int) ∧ _
  unfold rt
  generalize Classical.choose (rt_ex (m : Int).toNat) = r at this ⊢
  obtain ⟨h1, h2⟩ := this
  have h3 : (m : Int).toNat = m := Int.toNat_natCast m
  rw [h3] at h1 h2
  refine ⟨by omega, ?_, ?_⟩
  · exact_mod_cast h1
  · exact_mod_cast h2
theorem rt_uni {n r : Int} (h0 : 0 ≤ r) (h1 : r * r ≤ n) (h2 : n < (r + 1) * (r + 1)) : rt n = r := by
  have h3 : 0 ≤ r * r := Int.mul_nonneg h0 h0
  obtain ⟨k0, k1, k2⟩ := rt_spec (n := n) (by omega)
  rcases Int.lt_trichotomy (rt n) r with h | h | h
  · have := Int.mul_self_le_mul_self (a := rt n + 1) (b := r) (by omega) (by omega)
    omega
  · exact h
  · have := Int.mul_self_le_mul_self (a := r + 1) (b := rt n) (by omega) (by omega)
    omega
theorem le_of_sq {r m : Int} (hm : 0 ≤ m) (h : r * r ≤ m * m) : r ≤ m := by
  by_cases q : r ≤ m
  · exact q
  · have := Int.mul_self_le_mul_self (a := m + 1) (b := r) (by omega) (by omega)
    have : (m + 1) * (m + 1) = m * m + 2 * m + 1 := by grind
    omega
def pw : Nat → Int
  | 0 => 0
  | k + 1 => 2 ^ k
noncomputable def i107 (n r b : Int) : Prop := (0 ≤ n ∧ n ≤ 1125899906842624) ∧ (0 ≤ r ∧ r * r ≤ n) ∧ ∃ k : Nat, k ≤ 32 ∧ b = pw k ∧ n < (r + 2 ^ k) * (r + 2 ^ k)
noncomputable def o107 (n r b : Int) : Tree (Ex × List (V T)) := .req (i107 n r b) (.leaf (.exit 0, [.n (rt n)]))
noncomputable def c107 : LoopC T := ⟨[.n, .n, .n], ⟨20, [(0, .one (.i .i64)), (3, .one (.i .i64)), (4, .one (.i .i64))], []⟩, fun _ => ⟨20, [(3, .one (.i .i64))], []⟩, 10, fun d => o107 d.1 d.2.1 d.2.2.1⟩
theorem b107 (n r b : Int) : bodyD Try.prog E c107 0 (bodyX Try.prog E [] noLoops 1000 5 L0 (lpOf Try.prog 107 0)) (n, r, b, ()) =
  (.br (decide (b > (0 : Int)))
   (.req (decide (IntKind.wrap IntKind.i64 (r + b) ≠ (0 : Int)) = true)
   (.br (decide (IntKind.wrap IntKind.i64 (r + b) ≤ IntKind.wrap IntKind.i64 (Int.tdiv n (IntKind.wrap IntKind.i64 (r + b)))))
    (.leaf (.inl (n, (IntKind.wrap IntKind.i64 (r + b), (Int.fdiv b (2 : Int), ())))))
    (.leaf (.inl (n, (r, (Int.fdiv b (2 : Int), ())))))))
   (.leaf (.inr (.exit (0 : Nat), [.n (r)])))) := by kernel_rfl
theorem pow_bd : ∀ k : Nat, k ≤ 32 → (1 : Int) ≤ 2 ^ k ∧ (2 : Int) ^ k ≤ 4294967296 := by decide
theorem h107' (n r : Int) (k : Nat) (K : Ex × List (V T) → Prop) (h0 : 0 ≤ n ∧ n ≤ 1125899906842624) (h1 : 0 ≤ r ∧ r * r ≤ n) (hk : k ≤ 32) (h2 : n < (r + 2 ^ k) * (r + 2 ^ k)) (hK : K (.exit 0, [.n (rt n)])) :
    (bodyD Try.prog E c107 0 (bodyX Try.prog E [] noLoops 1000 5 L0 (lpOf Try.prog 107 0)) (n, r, pw k, ())).holds fun y => match y with
    | .inl d => d.2.2.1.toNat < (pw k).toNat ∧ (c107.out d).holds K
    | .inr y => K y := by
  rw [b107]
  cases k with
  | zero =>
    refine way (fun c => absurd c (by decide)) fun c => ?_
    have h2 : n < (r + 1) * (r + 1) := h2
    show K (.exit 0, [.n r])
    rw [← rt_uni h1.1 h1.2 h2]
    exact hK
  | succ k =>
    obtain ⟨p1, p2⟩ := pow_bd k (by omega)
    have hp : (2 : Int) ^ (k + 1) = 2 ^ k * 2 := Int.pow_succ 2 k
    rw [hp] at h2
    have hb : pw (k + 1) = 2 ^ k := rfl
    rw [hb]
    have hr : r ≤ 33554432 := le_of_sq (by decide) (by omega)
    have hf : Int.fdiv (2 ^ k) 2 = pw k := by
      rw [Int.fdiv_eq_ediv_of_nonneg _ (by decide)]
      cases k with
      | zero => rfl
      | succ j => rw [Int.pow_succ 2 j]; show _ = (2 : Int) ^ j; omega
    have hq : (0 : Int) ≤ pw k ∧ pw k < 2 ^ k := by
      rw [← hf, Int.fdiv_eq_ediv_of_nonneg _ (by decide)]
      omega
    have e1 : IntKind.wrap IntKind.i64 (r + 2 ^ k) = r + 2 ^ k := i64_in' (by omega) (by omega)
    rw [e1, hf]
    generalize hP : (2 : Int) ^ k = p at *
    have e2 : Int.tdiv n (r + p) = n / (r + p) := Int.tdiv_eq_ediv_of_nonneg h0.1
    have h4 : 0 ≤ n / (r + p) := Int.ediv_nonneg h0.1 (by omega)
    have h5 : n / (r + p) ≤ n := Int.ediv_le_self _ h0.1
    have e3 : IntKind.wrap IntKind.i64 (n / (r + p)) = n / (r + p) := i64_in' (by omega) (by omega)
    rw [e2, e3]
    refine way (fun c => ?_) fun c => absurd p1 (by omega)
    refine ⟨decide_eq_true (by omega), way (fun q => ?_) fun q => ?_⟩
    · have q := (Int.le_ediv_iff_mul_le (by omega)).1 q
      refine ⟨?_, ⟨h0, ⟨?_, q⟩, k, by omega, rfl, ?_⟩, hK⟩
      · show (pw k).toNat < p.toNat
        omega
      · show (0 : Int) ≤ r + p
        omega
      · rw [hP]
        have : r + p + p = r + p * 2 := by omega
        rw [this]; exact h2
    · have q : ¬ (r + p) * (r + p) ≤ n := fun h => q ((Int.le_ediv_iff_mul_le (by omega)).2 h)
      refine ⟨?_, ⟨h0, h1, k, by omega, rfl, ?_⟩, hK⟩
      · show (pw k).toNat < p.toNat
        omega
      · rw [hP]; show n < (r + p) * (r + p); omega
theorem h107 : LoopH Try.prog E c107 0 (bodyX Try.prog E [] noLoops 1000 5 L0 (lpOf Try.prog 107 0)) :=
  ⟨fun d => d.2.2.1.toNat, fun d K hK => by
    obtain ⟨n, r, b, ⟨⟩⟩ := d
    obtain ⟨⟨k1, k2, k, k3, k4, k5⟩, k6⟩ := hK
    obtain rfl : b = pw k := k4
    refine Tree.holds_mono (fun y hy => ?_) (h107' n r k K k1 k2 k3 k5 k6)
    cases y with
    | inl d' => exact hy
    | inr y => exact hy⟩
theorem ll107 : LLOk Try.prog E (llOf Try.prog E 107 [(3, c107)]) := llOf_ok fun i hi c hc => by
  have hi : i < 1 := hi
  obtain rfl : i = 0 := by omega
  obtain rfl : c107 = c := Option.some.inj hc
  exact LSnd.mk good names mixes .nil (by decide) h107
theorem tv107 (n : Int) : runX [] (llOf Try.prog E 107 [(3, c107)]) 107 [i64 n] [2] =
  (.req (i107 n (0 : Int) (2147483648 : Int))
  (.leaf (.sym .i64 (rt n)))) := by kernel_rfl
theorem s107 (n : Int) (h : 0 ≤ n ∧ n ≤ 1125899906842624) : (runX [] (llOf Try.prog E 107 [(3, c107)]) 107 [i64 n] [2]).holds fun v => v = i64 (rt n) := by
  rw [tv107]
  exact ⟨⟨h, ⟨by decide, by simpa using h.1⟩, 32, by decide, rfl, by omega⟩, rfl⟩
noncomputable def cRootF : Con T := conP Try.prog [.one (.i .i64)] [.n] (fun d => 0 ≤ d.1 ∧ d.1 ≤ 1125899906842624) fun d => i64 (rt d.1)
theorem rootF_ok : ConOk Try.prog E 107 cRootF := conP_ok fun d hd => fact_run .nil ll107 (ts := [2]) rfl (s107 d.1 hd)
/-! ### the reference's root -/
noncomputable def crt (n : Int) : Int := if rt n * rt n = n then rt n else rt n + 1
noncomputable def i39 (n lo hi : Int) : Prop := (0 ≤ n ∧ n ≤ 1125899906842624) ∧ (0 ≤ lo ∧ lo ≤ hi ∧ hi ≤ 67108864) ∧ (lo = 0 ∨ (lo - 1) * (lo - 1) < n) ∧ n ≤ hi * hi
noncomputable def o39 (n lo hi : Int) : Tree (Ex × List (V T)) := .req (i39 n lo hi) (.leaf (.exit 0, [.n n, .n (crt n)]))
noncomputable def c39 : LoopC T := ⟨[.n, .n, .n], ⟨34, [(0, .one (.i .i64)), (4, .one (.i .i64)), (5, .one (.i .i64))], []⟩, fun _ => ⟨34, [(0, .one (.i .i64)), (4, .one (.i .i64))], []⟩, 10, fun d => o39 d.1 d.2.1 d.2.2.1⟩
theorem b39 (n lo hi : Int) : bodyD Try.prog E c39 0 (bodyX Try.prog E [] noLoops 1000 5 L0 (lpOf Try.prog 39 0)) (n, lo, hi, ()) =
  (.br (decide (lo < hi))
   (.br (decide (IntKind.wrap IntKind.i64 (IntKind.wrap IntKind.i64 (Int.tdiv (IntKind.wrap IntKind.i64 (lo + hi)) (2 : Int)) * IntKind.wrap IntKind.i64 (Int.tdiv (IntKind.wrap IntKind.i64 (lo + hi)) (2 : Int))) < n))
    (.leaf (.inl (n, (IntKind.wrap IntKind.i64 (IntKind.wrap IntKind.i64 (Int.tdiv (IntKind.wrap IntKind.i64 (lo + hi)) (2 : Int)) + (1 : Int)), (hi, ())))))
    (.leaf (.inl (n, (lo, (IntKind.wrap IntKind.i64 (Int.tdiv (IntKind.wrap IntKind.i64 (lo + hi)) (2 : Int)), ()))))))
   (.leaf (.inr (.exit (0 : Nat), [.n (n), .n (lo)])))) := by kernel_rfl
theorem crt_eq {n lo : Int} (h0 : 0 ≤ n) (h : 0 ≤ lo) (h1 : lo = 0 ∨ (lo - 1) * (lo - 1) < n) (h2 : n ≤ lo * lo) : crt n = lo := by
  unfold crt
  have ex : (lo + 1) * (lo + 1) = lo * lo + 2 * lo + 1 := by grind
  by_cases q : n = lo * lo
  · have : rt n = lo := rt_uni h (by omega) (by omega)
    rw [this, if_pos q.symm]
  · rcases h1 with h1 | h1
    · subst h1
      omega
    · have : rt n = lo - 1 := rt_uni (by
        by_cases z : lo = 0
        · subst z; omega
        · omega) (by omega) (by
        have : lo - 1 + 1 = lo := by omega
        rw [this]; omega)
      rw [this, if_neg (by omega)]
      omega
theorem h39' (n lo hi : Int) (K : Ex × List (V T) → Prop) (h : i39 n lo hi) (hK : K (.exit 0, [.n n, .n (crt n)])) :
    (bodyD Try.prog E c39 0 (bodyX Try.prog E [] noLoops 1000 5 L0 (lpOf Try.prog 39 0)) (n, lo, hi, ())).holds fun y => match y with
    | .inl d => (d.2.2.1 - d.2.1).toNat < (hi - lo).toNat ∧ (c39.out d).holds K
    | .inr y => K y := by
  rw [b39]
  obtain ⟨h0, h1, h2, h3⟩ := h
  have e1 : IntKind.wrap IntKind.i64 (lo + hi) = lo + hi := i64_in' (by omega) (by omega)
  have e2 : Int.tdiv (lo + hi) 2 = (lo + hi) / 2 := Int.tdiv_eq_ediv_of_nonneg (by omega)
  rw [e1, e2]
  have e3 : IntKind.wrap IntKind.i64 ((lo + hi) / 2) = (lo + hi) / 2 := i64_in' (by omega) (by omega)
  rw [e3]
  have e5 : IntKind.wrap IntKind.i64 ((lo + hi) / 2 + 1) = (lo + hi) / 2 + 1 := i64_in' (by omega) (by omega)
  rw [e5]
  generalize hm : (lo + hi) / 2 = m
  have m0 : 0 ≤ m * m := Int.mul_nonneg (by omega) (by omega)
  have m1 := Int.mul_self_le_mul_self (a := m) (b := 67108864) (by omega) (by omega)
  have e4 : IntKind.wrap IntKind.i64 (m * m) = m * m := i64_in' (by omega) (by omega)
  rw [e4]
  refine way (fun c => way (fun q => ?_) fun q => ?_) fun c => ?_
  · refine ⟨?_, ⟨h0, ?_, Or.inr ?_, h3⟩, hK⟩
    · show (hi - (m + 1)).toNat < _
      omega
    · show 0 ≤ m + 1 ∧ m + 1 ≤ hi ∧ hi ≤ 67108864
      omega
    · show (m + 1 - 1) * (m + 1 - 1) < n
      have : m + 1 - 1 = m := by omega
      rw [this]; exact q
  · refine ⟨?_, ⟨h0, ?_, h2, ?_⟩, hK⟩
    · show (m - lo).toNat < _
      omega
    · show 0 ≤ lo ∧ lo ≤ m ∧ m ≤ 67108864
      omega
    · show n ≤ m * m
      omega
  · have : lo = hi := by omega
    subst this
    show K (.exit 0, [.n n, .n lo])
    rw [← crt_eq h0.1 h1.1 h2 h3]
    exact hK
theorem h39 : LoopH Try.prog E c39 0 (bodyX Try.prog E [] noLoops 1000 5 L0 (lpOf Try.prog 39 0)) :=
  ⟨fun d => (d.2.2.1 - d.2.1).toNat, fun d K hK => by
    obtain ⟨n, r, b, ⟨⟩⟩ := d
    refine Tree.holds_mono (fun y hy => ?_) (h39' n r b K hK.1 hK.2)
    cases y with
    | inl d' => exact hy
    | inr y => exact hy⟩
theorem ll39 : LLOk Try.prog E (llOf Try.prog E 39 [(4, c39)]) := llOf_ok fun i hi c hc => by
  have hi : i < 1 := hi
  obtain rfl : i = 0 := by omega
  obtain rfl : c39 = c := Option.some.inj hc
  exact LSnd.mk good names mixes .nil (by decide) h39
theorem tv39 (n : Int) : runX [] (llOf Try.prog E 39 [(4, c39)]) 39 [i64 n] [2, 4] =
  (.br (decide (n < (0 : Int)))
   (.leaf (.tup [.sym .i64 ((0 : Int)), .bool (false)]))
   (.br (decide (n > (1125899906842624 : Int)))
    (.leaf (.tup [.sym .i64 ((0 : Int)), .bool (false)]))
    (.req (i39 n (0 : Int) (67108864 : Int))
    (.br (IntKind.wrap IntKind.i64 (crt n * crt n) != n)
     (.leaf (.tup [.sym .i64 ((0 : Int)), .bool (false)]))
     (.leaf (.tup [.sym .i64 (crt n), .bool (true)])))))) := by kernel_rfl
noncomputable def ct38 : CTab T := [(102, cWithin), (107, cRootF)]
theorem ct38_ok : CTabOk Try.prog E ct38 := .cons within_ok (.cons rootF_ok .nil)
theorem tv38 (n : Int) : runX ct38 noLoops 38 [i64 n] [2, 4] =
  (.br (!within n (0 : Int) (1125899906842624 : Int))
   (.leaf (.tup [.sym .i64 ((0 : Int)), .bool (false)]))
   (.req ((0 : Int) ≤ n ∧ n ≤ (1125899906842624 : Int))
   (.br (IntKind.wrap IntKind.i64 (rt n * rt n) != n)
    (.leaf (.tup [.sym .i64 ((0 : Int)), .bool (false)]))
    (.leaf (.tup [.sym .i64 (rt n), .bool (true)]))))) := by kernel_rfl
@[reducible] noncomputable def sqOk (n : Int) : Prop := (0 ≤ n ∧ n ≤ 1125899906842624) ∧ rt n * rt n = n
noncomputable def sqN (n : Int) : Int := if sqOk n then rt n else 0
noncomputable def sqB (n : Int) : Bool := decide (sqOk n)
@[reducible] noncomputable def rootV (n : Int) : AV T := .tup [i64 (sqN n), .bool (sqB n)]
theorem rootV_no {n : Int} (h : ¬ sqOk n) : AV.tup [i64 0, .bool false] = rootV n := by
  unfold rootV sqN sqB
  rw [if_neg h, decide_eq_false h]
theorem rootV_yes {n : Int} (h : sqOk n) : AV.tup [i64 (rt n), .bool true] = rootV n := by
  unfold rootV sqN sqB
  rw [if_pos h, decide_eq_true h]
theorem rt_le {n : Int} (h : 0 ≤ n ∧ n ≤ 1125899906842624) : rt n ≤ 33554432 := by
  obtain ⟨k0, k1, k2⟩ := rt_spec h.1
  exact le_of_sq (by decide) (by omega)
theorem s38 (n : Int) : (runX ct38 noLoops 38 [i64 n] [2, 4]).holds fun v => v = rootV n := by
  rw [tv38]
  refine wayB (fun c => ?_) fun c => ?_
  · exact rootV_no fun h => by
      have : within n 0 1125899906842624 = true := decide_eq_true h.1
      rw [this] at c; exact absurd c (by decide)
  · have c : within n 0 1125899906842624 = true := by simpa using c
    have c := of_decide_eq_true c
    obtain ⟨k0, k1, k2⟩ := rt_spec c.1
    have h4 : 0 ≤ rt n * rt n := Int.mul_nonneg k0 k0
    rw [i64_in' (n := rt n * rt n) (by omega) (by omega)]
    exact ⟨c, wayNe (fun q => rootV_no fun h => q h.2) fun q => rootV_yes ⟨c, q⟩⟩
theorem s39 (n : Int) : (runX [] (llOf Try.prog E 39 [(4, c39)]) 39 [i64 n] [2, 4]).holds fun v => v = rootV n := by
  rw [tv39]
  refine way (fun c => rootV_no fun h => by have := h.1.1; omega) fun c => way (fun c2 => rootV_no fun h => by have := h.1.2; omega) fun c2 => ?_
  have h0 : 0 ≤ n ∧ n ≤ 1125899906842624 := by omega
  have h1 := rt_le h0
  obtain ⟨k0, k1, k2⟩ := rt_spec h0.1
  have h4 : 0 ≤ rt n * rt n := Int.mul_nonneg k0 k0
  refine ⟨⟨h0, by decide, Or.inl rfl, by omega⟩, ?_⟩
  unfold crt
  split
  · rename_i q
    rw [i64_in' (n := rt n * rt n) (by omega) (by omega)]
    exact wayNe (fun p => absurd q p) fun p => rootV_yes ⟨h0, q⟩
  · rename_i q
    have ex : (rt n + 1) * (rt n + 1) = rt n * rt n + 2 * rt n + 1 := by grind
    rw [i64_in' (n := (rt n + 1) * (rt n + 1)) (by omega) (by omega)]
    exact wayNe (fun p => rootV_no fun h => q h.2) fun p => absurd p (by omega)
noncomputable def cRoot : Con T := conV Try.prog [.one (.i .i64)] [.n] fun d => rootV d.1
theorem root_ok : ConOk Try.prog E 38 cRoot := conV_ok fun d => fact_run ct38_ok noLoops_ok (ts := [2, 4]) rfl (s38 d.1)
theorem root2_ok : ConOk Try.prog E 39 cRoot := conV_ok fun d => fact_run .nil ll39 (ts := [2, 4]) rfl (s39 d.1)
/-! ### sizes -/
noncomputable def ctR : CTab T := [(102, cWithin), (38, cRoot), (39, cRoot)]
theorem ctR_ok : CTabOk Try.prog E ctR := .cons within_ok (.cons root_ok (.cons root2_ok .nil))
theorem tv104 (x y z : Int) : runX ctR noLoops 104 [.agg [i64 x, i64 y, i64 z]] [2, 4] =
  (.br (within x (-16777216 : Int) (16777216 : Int))
   (.br (within y (-16777216 : Int) (16777216 : Int))
    (.br (!within z (-16777216 : Int) (16777216 : Int))
     (.leaf (.tup [.sym .i64 ((0 : Int)), .bool (false)]))
     (.leaf (.tup [.sym .i64 (sqN (IntKind.wrap IntKind.i64 (IntKind.wrap IntKind.i64 (IntKind.wrap IntKind.i64 (x * x) + IntKind.wrap IntKind.i64 (y * y)) + IntKind.wrap IntKind.i64 (z * z)))), .bool (sqB (IntKind.wrap IntKind.i64 (IntKind.wrap IntKind.i64 (IntKind.wrap IntKind.i64 (x * x) + IntKind.wrap IntKind.i64 (y * y)) + IntKind.wrap IntKind.i64 (z * z))))])))
    (.leaf (.tup [.sym .i64 ((0 : Int)), .bool (false)])))
   (.leaf (.tup [.sym .i64 ((0 : Int)), .bool (false)]))) := by kernel_rfl
theorem tv94 (x y z : Int) : runX ctR noLoops 94 [.agg [i64 x, i64 y, i64 z]] [2, 4] =
  (.br (decide (x ≥ (-131072 : Int)))
   (.br (decide (x ≤ (131072 : Int)))
    (.br (decide (y ≥ (-131072 : Int)))
     (.br (decide (y ≤ (131072 : Int)))
      (.br (decide (z ≥ (-131072 : Int)))
       (.br (!decide (z ≤ (131072 : Int)))
        (.leaf (.tup [.sym .i64 ((0 : Int)), .bool (false)]))
        (.br (sqB (IntKind.wrap IntKind.i64 (IntKind.wrap IntKind.i64 (IntKind.wrap IntKind.i64 (x * x) + IntKind.wrap IntKind.i64 (y * y)) + IntKind.wrap IntKind.i64 (z * z))))
         (.br (decide (sqN (IntKind.wrap IntKind.i64 (IntKind.wrap IntKind.i64 (IntKind.wrap IntKind.i64 (x * x) + IntKind.wrap IntKind.i64 (y * y)) + IntKind.wrap IntKind.i64 (z * z))) ≥ (1 : Int)))
          (.leaf (.tup [.sym .i64 (sqN (IntKind.wrap IntKind.i64 (IntKind.wrap IntKind.i64 (IntKind.wrap IntKind.i64 (x * x) + IntKind.wrap IntKind.i64 (y * y)) + IntKind.wrap IntKind.i64 (z * z)))), .bool (decide (sqN (IntKind.wrap IntKind.i64 (IntKind.wrap IntKind.i64 (IntKind.wrap IntKind.i64 (x * x) + IntKind.wrap IntKind.i64 (y * y)) + IntKind.wrap IntKind.i64 (z * z))) ≤ (131072 : Int)))]))
          (.leaf (.tup [.sym .i64 (sqN (IntKind.wrap IntKind.i64 (IntKind.wrap IntKind.i64 (IntKind.wrap IntKind.i64 (x * x) + IntKind.wrap IntKind.i64 (y * y)) + IntKind.wrap IntKind.i64 (z * z)))), .bool (false)])))
         (.leaf (.tup [.sym .i64 (sqN (IntKind.wrap IntKind.i64 (IntKind.wrap IntKind.i64 (IntKind.wrap IntKind.i64 (x * x) + IntKind.wrap IntKind.i64 (y * y)) + IntKind.wrap IntKind.i64 (z * z)))), .bool (false)]))))
       (.leaf (.tup [.sym .i64 ((0 : Int)), .bool (false)])))
      (.leaf (.tup [.sym .i64 ((0 : Int)), .bool (false)])))
     (.leaf (.tup [.sym .i64 ((0 : Int)), .bool (false)])))
    (.leaf (.tup [.sym .i64 ((0 : Int)), .bool (false)])))
   (.leaf (.tup [.sym .i64 ((0 : Int)), .bool (false)]))) := by kernel_rfl
theorem tv142 (x y z n : Int) : runX ctR noLoops 142 [.agg [i64 x, i64 y, i64 z], i64 n] [4] =
  (.br (within x (IntKind.wrap IntKind.i64 ((0 : Int) - n)) n)
   (.br (within y (IntKind.wrap IntKind.i64 ((0 : Int) - n)) n)
    (.leaf (.bool (within z (IntKind.wrap IntKind.i64 ((0 : Int) - n)) n)))
    (.leaf (.bool (false))))
   (.leaf (.bool (false)))) := by kernel_rfl
theorem tv114 (x y z n : Int) : runX ctR noLoops 114 [.agg [i64 x, i64 y, i64 z], i64 n] [4] =
  (.br (decide (x ≥ IntKind.wrap IntKind.i64 ((0 : Int) - n)))
   (.br (decide (x ≤ n))
    (.br (decide (y ≥ IntKind.wrap IntKind.i64 ((0 : Int) - n)))
     (.br (decide (y ≤ n))
      (.br (decide (z ≥ IntKind.wrap IntKind.i64 ((0 : Int) - n)))
       (.leaf (.bool (decide (z ≤ n))))
       (.leaf (.bool (false))))
      (.leaf (.bool (false))))
     (.leaf (.bool (false))))
    (.leaf (.bool (false))))
   (.leaf (.bool (false)))) := by kernel_rfl
end Go.Proofs.Ytmnhfjhlfgebiaa.W
