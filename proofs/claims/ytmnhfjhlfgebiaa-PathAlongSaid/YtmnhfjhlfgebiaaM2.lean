/- Places at depths are no farther from each other than their depths, and joints are the places at theirs. No condition. -/
import Derived.Test.YtmnhfjhlfgebiaaP2
set_option linter.unusedVariables false
set_option maxRecDepth 100000
set_option maxHeartbeats 4000000
noncomputable section
namespace Go.Proofs.Ytmnhfjhlfgebiaa.W
open Go Go.Cx Go.RowKit
/-- One component of the place at a depth. -/
noncomputable def qc (f : Vec → Int) : List Vec → Int → Int → Int → Int → Int
  | [], _, _, _, q => q
  | v :: r, c, d, dd, q => if d > dd then q else qc f r (c + f v) (d + ln v.X v.Y v.Z) dd (c + f v * (dd - d) / ln v.X v.Y v.Z)
theorem fl {a n t : Int} (ha : -n ≤ a ∧ a ≤ n) (hn : 1 ≤ n) (ht : 0 ≤ t) : -t ≤ a * t / n ∧ a * t / n ≤ t := by
  have m1 := Int.mul_le_mul_of_nonneg_right ha.2 ht
  have m2 := Int.mul_le_mul_of_nonneg_right ha.1 ht
  have e1 : n * t = t * n := Int.mul_comm ..
  have e2 : -n * t = -t * n := by rw [Int.neg_mul, Int.neg_mul, Int.mul_comm]
  exact ⟨Int.le_ediv_of_mul_le (by omega) (by omega), Int.ediv_le_of_le_mul (by omega) (by omega)⟩
theorem fl_sub {a n s t : Int} (ha : -n ≤ a ∧ a ≤ n) (hn : 1 ≤ n) (h : s ≤ t) : -(t - s) ≤ a * t / n - a * s / n ∧ a * t / n - a * s / n ≤ t - s + 1 := by
  have f := fl ha hn (show 0 ≤ t - s by omega)
  have e : a * t = a * s + a * (t - s) := by grind
  have d0 := Int.emod_nonneg (a * s) (show n ≠ 0 by omega)
  have d1 := Int.emod_lt_of_pos (a * s) (show 0 < n by omega)
  have d2 := Int.emod_nonneg (a * (t - s)) (show n ≠ 0 by omega)
  have d3 := Int.emod_lt_of_pos (a * (t - s)) (show 0 < n by omega)
  have d4 := Int.emod_nonneg (a * t) (show n ≠ 0 by omega)
  have d5 := Int.emod_lt_of_pos (a * t) (show 0 < n by omega)
  have k1 := Int.mul_ediv_add_emod (a * s) n
  have k2 := Int.mul_ediv_add_emod (a * (t - s)) n
  have k3 := Int.mul_ediv_add_emod (a * t) n
  generalize a * s / n = p at *
  generalize a * (t - s) / n = q at *
  generalize a * t / n = r at *
  have lo : p + q ≤ r := by
    by_cases g : p + q ≤ r
    · exact g
    · have := Int.mul_le_mul_of_nonneg_left (show r + 1 ≤ p + q by omega) (show 0 ≤ n by omega)
      rw [Int.mul_add, Int.mul_add, Int.mul_one] at this
      omega
  have hi : r ≤ p + q + 1 := by
    by_cases g : r ≤ p + q + 1
    · exact g
    · have := Int.mul_le_mul_of_nonneg_left (show p + q + 2 ≤ r by omega) (show 0 ≤ n by omega)
      rw [Int.mul_add, Int.mul_add] at this
      omega
  omega
theorem fl_end {a n t : Int} (ha : -n ≤ a ∧ a ≤ n) (hn : 1 ≤ n) (ht : t ≤ n) : -(n - t) ≤ a - a * t / n ∧ a - a * t / n ≤ n - t := by
  have f := fl (a := -a) (n := n) (t := n - t) ⟨by omega, by omega⟩ hn (by omega)
  have e : a * t = -a * (n - t) + a * n := by grind
  rw [e, Int.add_mul_ediv_right _ _ (by omega)]
  omega
theorem fl_past {a n t : Int} (ha : -n ≤ a ∧ a ≤ n) (hn : 1 ≤ n) (ht : n ≤ t) : -(t - n) ≤ a * t / n - a ∧ a * t / n - a ≤ t - n := by
  have f := fl ha hn (show 0 ≤ t - n by omega)
  have e : a * t = a * (t - n) + a * n := by grind
  rw [e, Int.add_mul_ediv_right _ _ (by omega)]
  omega
def okF (f : Vec → Int) (l : List Vec) : Prop := ∀ v ∈ l, (-ln v.X v.Y v.Z ≤ f v ∧ f v ≤ ln v.X v.Y v.Z) ∧ 1 ≤ ln v.X v.Y v.Z
theorem qc_near {f : Vec → Int} : ∀ (l : List Vec) (c d dd q : Int), okF f l → d ≤ dd → (-(dd - d) ≤ q - c ∧ q - c ≤ dd - d) → -(dd - d) ≤ qc f l c d dd q - c ∧ qc f l c d dd q - c ≤ dd - d
  | [], c, d, dd, q, _, _, h => h
  | v :: r, c, d, dd, q, hf, hd, h => by
    have hv := hf v (List.mem_cons_self ..)
    have hr : okF f r := fun u hu => hf u (List.mem_cons_of_mem _ hu)
    unfold qc
    rw [if_neg (by omega)]
    have f1 := fl hv.1 hv.2 (show 0 ≤ dd - d by omega)
    by_cases g : d + ln v.X v.Y v.Z ≤ dd
    · have f2 := fl_past hv.1 hv.2 (show ln v.X v.Y v.Z ≤ dd - d by omega)
      have := qc_near r (c + f v) (d + ln v.X v.Y v.Z) dd (c + f v * (dd - d) / ln v.X v.Y v.Z) hr g (by omega)
      omega
    · cases r with
      | nil => show _ ≤ c + _ - c ∧ c + _ - c ≤ _; omega
      | cons u w =>
        unfold qc
        rw [if_pos (by omega)]
        omega
theorem qc_far {f : Vec → Int} : ∀ (l : List Vec) (c d d1 d2 q1 q2 : Int), okF f l → d ≤ d1 → d1 ≤ d2 → (-(d2 - d1 + 1) ≤ q2 - q1 ∧ q2 - q1 ≤ d2 - d1 + 1) → -(d2 - d1 + 1) ≤ qc f l c d d2 q2 - qc f l c d d1 q1 ∧ qc f l c d d2 q2 - qc f l c d d1 q1 ≤ d2 - d1 + 1
  | [], c, d, d1, d2, q1, q2, _, _, _, h => h
  | v :: r, c, d, d1, d2, q1, q2, hf, hd, h12, h => by
    have hv := hf v (List.mem_cons_self ..)
    have hr : okF f r := fun u hu => hf u (List.mem_cons_of_mem _ hu)
    unfold qc
    rw [if_neg (by omega), if_neg (by omega)]
    have f1 := fl_sub hv.1 hv.2 (show d1 - d ≤ d2 - d by omega)
    by_cases g : d + ln v.X v.Y v.Z ≤ d1
    · exact qc_far r _ _ d1 d2 _ _ hr g h12 (by omega)
    · cases r with
      | nil => show _ ≤ c + _ - (c + _) ∧ c + _ - (c + _) ≤ _; omega
      | cons u w =>
        have e1 : qc f (u :: w) (c + f v) (d + ln v.X v.Y v.Z) d1 (c + f v * (d1 - d) / ln v.X v.Y v.Z) = c + f v * (d1 - d) / ln v.X v.Y v.Z := if_pos (by omega)
        rw [e1]
        by_cases g2 : d + ln v.X v.Y v.Z ≤ d2
        · have f2 := fl_past hv.1 hv.2 (show ln v.X v.Y v.Z ≤ d2 - d by omega)
          have f3 := fl_end hv.1 hv.2 (show d1 - d ≤ ln v.X v.Y v.Z by omega)
          have := qc_near (u :: w) (c + f v) (d + ln v.X v.Y v.Z) d2 (c + f v * (d2 - d) / ln v.X v.Y v.Z) hr g2 (by omega)
          omega
        · have e2 : qc f (u :: w) (c + f v) (d + ln v.X v.Y v.Z) d2 (c + f v * (d2 - d) / ln v.X v.Y v.Z) = c + f v * (d2 - d) / ln v.X v.Y v.Z := if_pos (by omega)
          rw [e2]
          omega
theorem comp_le {x y z : Int} (h : lgP x y z) : (-ln x y z ≤ x ∧ x ≤ ln x y z) ∧ (-ln x y z ≤ y ∧ y ≤ ln x y z) ∧ (-ln x y z ≤ z ∧ z ≤ ln x y z) := by
  have e : ln x y z * ln x y z = x * x + y * y + z * z := h.2.1.2
  have p : 1 ≤ ln x y z := h.2.2.1
  have a := sqnn x
  have b := sqnn y
  have c := sqnn z
  have one : ∀ u : Int, u * u ≤ ln x y z * ln x y z → -ln x y z ≤ u ∧ u ≤ ln x y z := fun u hu => by
    refine ⟨?_, ?_⟩
    · by_cases g : -ln x y z ≤ u
      · exact g
      · have := Int.mul_self_le_mul_self (show 0 ≤ ln x y z + 1 by omega) (show ln x y z + 1 ≤ -u by omega)
        have e2 : (ln x y z + 1) * (ln x y z + 1) = ln x y z * ln x y z + 2 * ln x y z + 1 := by grind
        have e3 : -u * -u = u * u := by grind
        omega
    · by_cases g : u ≤ ln x y z
      · exact g
      · have := Int.mul_self_le_mul_self (show 0 ≤ ln x y z + 1 by omega) (show ln x y z + 1 ≤ u by omega)
        have e2 : (ln x y z + 1) * (ln x y z + 1) = ln x y z * ln x y z + 2 * ln x y z + 1 := by grind
        omega
  exact ⟨one x (by omega), one y (by omega), one z (by omega)⟩
theorem okF_X {l : List Vec} (h : ∀ v ∈ l, lgP v.X v.Y v.Z) : okF Vec.X l ∧ okF Vec.Y l ∧ okF Vec.Z l :=
  ⟨fun v hv => ⟨(comp_le (h v hv)).1, (ln_pos (h v hv)).1⟩, fun v hv => ⟨(comp_le (h v hv)).2.1, (ln_pos (h v hv)).1⟩, fun v hv => ⟨(comp_le (h v hv)).2.2, (ln_pos (h v hv)).1⟩⟩
/-- Small enough that nothing wraps. -/
structure Sm (l : List Vec) (s : Stp) : Prop where
  v : ∀ v ∈ l, lgP v.X v.Y v.Z
  d : 0 ≤ s.d ∧ s.d + 131072 * l.length ≤ 8388608
  x : -8388608 ≤ s.x - 131072 * l.length ∧ s.x + 131072 * l.length ≤ 8388608
  y : -8388608 ≤ s.y - 131072 * l.length ∧ s.y + 131072 * l.length ≤ 8388608
  z : -8388608 ≤ s.z - 131072 * l.length ∧ s.z + 131072 * l.length ≤ 8388608
theorem nx_eq {v : Vec} {r : List Vec} {s : Stp} (h : Sm (v :: r) s) : nxS s v = ⟨s.d + ln v.X v.Y v.Z, s.x + v.X, s.y + v.Y, s.z + v.Z⟩ := by
  have hp := h.v v (List.mem_cons_self ..)
  have p := ln_pos hp
  have c := comp_le hp
  have len : ((v :: r).length : Int) = r.length + 1 := by simp
  have d := h.d
  have x := h.x
  have y := h.y
  have z := h.z
  rw [nxS_nx2 hp ⟨d.1, by omega⟩]
  unfold nx2
  rw [show wr (s.x + v.X) = s.x + v.X from i64_in' (by omega) (by omega), show wr (s.y + v.Y) = s.y + v.Y from i64_in' (by omega) (by omega), show wr (s.z + v.Z) = s.z + v.Z from i64_in' (by omega) (by omega)]
theorem Sm.next {v : Vec} {r : List Vec} {s : Stp} (h : Sm (v :: r) s) : Sm r (nxS s v) := by
  have e := nx_eq h
  have hp := h.v v (List.mem_cons_self ..)
  have p := ln_pos hp
  have c := comp_le hp
  have len : ((v :: r).length : Int) = r.length + 1 := by simp
  have d := h.d
  have x := h.x
  have y := h.y
  have z := h.z
  rw [e]
  refine ⟨fun u hu => h.v u (List.mem_cons_of_mem _ hu), ?_, ?_, ?_, ?_⟩
  · show 0 ≤ s.d + ln v.X v.Y v.Z ∧ s.d + ln v.X v.Y v.Z + _ ≤ _; omega
  · show _ ≤ s.x + v.X - _ ∧ s.x + v.X + _ ≤ _; omega
  · show _ ≤ s.y + v.Y - _ ∧ s.y + v.Y + _ ≤ _; omega
  · show _ ≤ s.z + v.Z - _ ∧ s.z + v.Z + _ ≤ _; omega
theorem pt_eq {v : Vec} {r : List Vec} {s : Stp} (h : Sm (v :: r) s) {t : Int} (ht : 0 ≤ t ∧ t ≤ 8388608) : ptS s v t = ⟨s.x + v.X * t / ln v.X v.Y v.Z, s.y + v.Y * t / ln v.X v.Y v.Z, s.z + v.Z * t / ln v.X v.Y v.Z⟩ := by
  have hp := h.v v (List.mem_cons_self ..)
  have p := ln_pos hp
  have c := comp_le hp
  have d := h.d
  have x := h.x
  have y := h.y
  have z := h.z
  have f1 := fl c.1 p.1 ht.1
  have f2 := fl c.2.1 p.1 ht.1
  have f3 := fl c.2.2 p.1 ht.1
  have m : ∀ a : Int, -131072 ≤ a ∧ a ≤ 131072 → wr (a * t) = a * t := fun a ha => by
    have h1 := Int.mul_le_mul_of_nonneg_right ha.2 ht.1
    have h2 := Int.mul_le_mul_of_nonneg_right ha.1 ht.1
    exact i64_in' (by omega) (by omega)
  unfold ptS
  rw [m _ (by omega), m _ (by omega), m _ (by omega)]
  rw [show wr (s.x + v.X * t / ln v.X v.Y v.Z) = s.x + v.X * t / ln v.X v.Y v.Z from i64_in' (by omega) (by omega), show wr (s.y + v.Y * t / ln v.X v.Y v.Z) = s.y + v.Y * t / ln v.X v.Y v.Z from i64_in' (by omega) (by omega), show wr (s.z + v.Z * t / ln v.X v.Y v.Z) = s.z + v.Z * t / ln v.X v.Y v.Z from i64_in' (by omega) (by omega)]
theorem atq_qc : ∀ (l : List Vec) (s : Stp) (dd a b c : Int), Sm l s → dd ≤ 8388608 → atq l s dd ⟨a, b, c⟩ = ⟨qc Vec.X l s.x s.d dd a, qc Vec.Y l s.y s.d dd b, qc Vec.Z l s.z s.d dd c⟩
  | [], s, dd, a, b, c, _, _ => rfl
  | v :: r, s, dd, a, b, c, h, hd => by
    unfold atq qc
    by_cases g : s.d > dd
    · rw [if_pos g, if_pos g, if_pos g, if_pos g]
    · have d := h.d
      rw [if_neg g, if_neg g, if_neg g, if_neg g, pt_eq h ⟨by omega, by omega⟩, atq_qc r (nxS s v) dd _ _ _ h.next hd, nx_eq h]
/-! ### Stops -/
noncomputable def sts : List Vec → Stp → List Stp
  | [], s => [s]
  | v :: r, s => s :: sts r (nxS s v)
theorem jn_sts : ∀ (l : List Vec) (s : Stp), jn l s = (sts l s).map pl
  | [], s => rfl
  | v :: r, s => by show pl s :: jn r (nxS s v) = pl s :: (sts r (nxS s v)).map pl; rw [jn_sts r]
theorem kn_sts : ∀ (l : List Vec) (s : Stp), kn l s = (sts l s).map kn1
  | [], s => rfl
  | v :: r, s => by show kn1 s :: kn r (nxS s v) = kn1 s :: (sts r (nxS s v)).map kn1; rw [kn_sts r]
theorem sts_len : ∀ (l : List Vec) (s : Stp), (sts l s).length = l.length + 1
  | [], s => rfl
  | v :: r, s => congrArg (· + 1) (sts_len r (nxS s v))
theorem sts_ge : ∀ (l : List Vec) (s : Stp), Sm l s → ∀ u ∈ sts l s, s.d ≤ u.d ∧ u.d ≤ (en l s).d
  | [], s, _, u, hu => by
    obtain rfl : u = s := List.mem_singleton.1 hu
    exact ⟨Int.le_refl _, Int.le_refl _⟩
  | v :: r, s, h, u, hu => by
    have p := ln_pos (h.v v (List.mem_cons_self ..))
    have e : (nxS s v).d = s.d + ln v.X v.Y v.Z := by rw [nx_eq h]
    have hu : u ∈ s :: sts r (nxS s v) := hu
    have ih := sts_ge r (nxS s v) h.next
    have top := ih
    cases hu with
    | head =>
      have b := en_le r (nxS s v) h.next.v ⟨h.next.d.1, by have := h.next.d.2; omega⟩
      exact ⟨Int.le_refl _, by show s.d ≤ (en r (nxS s v)).d; omega⟩
    | tail _ hu =>
      have := ih u hu
      exact ⟨by omega, this.2⟩
theorem sts_up : ∀ (l : List Vec) (s : Stp), Sm l s → (sts l s).Pairwise fun a b => a.d < b.d
  | [], s, _ => List.pairwise_singleton ..
  | v :: r, s, h => by
    have p := ln_pos (h.v v (List.mem_cons_self ..))
    have e : (nxS s v).d = s.d + ln v.X v.Y v.Z := by rw [nx_eq h]
    refine List.pairwise_cons.2 ⟨fun u hu => ?_, sts_up r _ h.next⟩
    have := sts_ge r (nxS s v) h.next u hu
    omega
theorem sts_last : ∀ (l : List Vec) (s : Stp), (sts l s)[l.length]? = some (en l s)
  | [], s => rfl
  | v :: r, s => by
    show (s :: sts r (nxS s v))[r.length + 1]? = some (en r (nxS s v))
    rw [List.getElem?_cons_succ]
    exact sts_last r (nxS s v)
theorem at_stop : ∀ (l : List Vec) (s : Stp) (q : Vec), Sm l s → (l = [] → q = pl s) → ∀ u ∈ sts l s, atq l s u.d q = pl u
  | [], s, q, _, hq, u, hu => by
    obtain rfl : u = s := List.mem_singleton.1 hu
    exact hq rfl
  | v :: r, s, q, h, _, u, hu => by
    have hp := h.v v (List.mem_cons_self ..)
    have p := ln_pos hp
    have e : (nxS s v).d = s.d + ln v.X v.Y v.Z := by rw [nx_eq h]
    have hu : u ∈ s :: sts r (nxS s v) := hu
    unfold atq
    cases hu with
    | head =>
      rw [if_neg (by omega), Int.sub_self, pt_eq h ⟨by decide, by decide⟩]
      have z : (⟨s.x + v.X * 0 / ln v.X v.Y v.Z, s.y + v.Y * 0 / ln v.X v.Y v.Z, s.z + v.Z * 0 / ln v.X v.Y v.Z⟩ : Vec) = pl s := by
        rw [Int.mul_zero, Int.mul_zero, Int.mul_zero, Int.zero_ediv, Int.add_zero, Int.add_zero, Int.add_zero]
        rfl
      rw [z]
      cases r with
      | nil => rfl
      | cons u w =>
        unfold atq
        rw [if_pos (by rw [e]; omega)]
    | tail _ hu =>
      have g := sts_ge r (nxS s v) h.next u hu
      rw [if_neg (by omega)]
      refine at_stop r (nxS s v) _ h.next (fun hr => ?_) u hu
      subst hr
      obtain rfl : u = nxS s v := List.mem_singleton.1 hu
      have ed : (nxS s v).d - s.d = ln v.X v.Y v.Z := by omega
      have d := h.d
      rw [ed, pt_eq h ⟨by omega, by omega⟩, nx_eq h, Int.mul_ediv_cancel _ (by omega), Int.mul_ediv_cancel _ (by omega), Int.mul_ediv_cancel _ (by omega)]
      rfl
/-! ### The path that is made -/
theorem pth_chk (r : List Int) {x y z : Int} : ∀ (m : Nat) (a : Int) (Q : List Vec), chk x y z Q = 0 → chk x y z (pth r x y z m a Q) = 0
  | 0, a, Q, h => h
  | m + 1, a, Q, h => by
    unfold pth
    refine pth_chk r m _ _ ?_
    split
    · assumption
    · exact h
theorem made_chk (r : List Int) (a m : Int) : chk (qX r a) (qY r a) (qZ r a) (qL r a m) = 0 := by
  refine pth_chk r _ _ _ ?_
  have b1 := ringV_bd (l := r) (b := a + 1) (n := 40000) (by decide)
  have b2 := ringV_bd (l := r) (b := a + 1 + 1) (n := 40000) (by decide)
  have b3 := ringV_bd (l := r) (b := a + 1 + 1 + 1) (n := 3) (by decide)
  have b4 := ringV_bd (l := r) (b := a + 1 + 1 + 1 + 1) (n := 20000) (by decide)
  have mb := mulb b3.1 (show _ ≤ (2 : Int) by omega) b4.1 (show _ ≤ (19999 : Int) by omega)
  unfold chk
  rw [if_neg (by decide), if_pos]
  · rfl
  · unfold qX qY qZ
    rw [show wr (ringV r (a + 1) 40000 - 20000) = ringV r (a + 1) 40000 - 20000 from i64_in' (by omega) (by omega), show wr (ringV r (a + 1 + 1) 40000 - 20000) = ringV r (a + 1 + 1) 40000 - 20000 from i64_in' (by omega) (by omega), show wr (ringV r (a + 1 + 1 + 1) 3 * ringV r (a + 1 + 1 + 1 + 1) 20000) = ringV r (a + 1 + 1 + 1) 3 * ringV r (a + 1 + 1 + 1 + 1) 20000 from i64_in' (by omega) (by omega)]
    exact ⟨⟨by omega, by omega⟩, ⟨by omega, by omega⟩, by omega, by omega⟩
theorem chk_sm {x y z : Int} {l : List Vec} (h : chk x y z l = 0) : Sm l (s0 x y z) := by
  obtain ⟨h1, h2, h3⟩ := chk_lg h
  refine ⟨h3, ?_, ?_, ?_, ?_⟩
  · show 0 ≤ (0 : Int) ∧ (0 : Int) + _ ≤ _; omega
  · show _ ≤ x - _ ∧ x + _ ≤ _; omega
  · show _ ≤ y - _ ∧ y + _ ≤ _; omega
  · show _ ≤ z - _ ∧ z + _ ≤ _; omega
end Go.Proofs.Ytmnhfjhlfgebiaa.W
