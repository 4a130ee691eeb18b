/- Pressures in columns. No condition. -/
import Derived.Test.YtnhedcaphncliaaH4
import Derived.Test.YtnhedcaphncliaaV3a
set_option linter.unusedVariables false
set_option maxRecDepth 100000
set_option maxHeartbeats 4000000
noncomputable section
namespace Go.Proofs.Ytnhedcaphncliaa.W.Hole
open Go Go.Cx Go.RowKit
theorem wr_wr (a b : Int) : wr (wr a + b) = wr (a + b) := by
  unfold wr
  simp [IntKind.wrap, IntKind.signed, IntKind.bits]
  omega
theorem wr_wr2 (a b : Int) : wr (a + wr b) = wr (a + b) := by rw [Int.add_comm, wr_wr, Int.add_comm]
theorem wr_id (a : Int) : wr (wr a) = wr a := by have := wr_wr a 0; rw [Int.add_zero, Int.add_zero] at this; exact this
theorem wr3 (a b c : Int) : wr (wr a + b + c) = wr (a + b + c) := by rw [Int.add_assoc, wr_wr, Int.add_assoc]
noncomputable def tl (w a b : Int) : Int := w * (if w < 0 then b else a)
noncomputable def th (w a b : Int) : Int := w * (if w < 0 then a else b)
theorem tv71 (p q w a b : Int) : runX ctC noLoops 71 [.agg [i64 p, i64 q], i64 w, .agg [i64 a, i64 b]] [42] =
  (.br (decide (w < (0 : Int)))
   (.leaf (.agg [.sym .i64 (IntKind.wrap IntKind.i64 (p + IntKind.wrap IntKind.i64 (w * b))), .sym .i64 (IntKind.wrap IntKind.i64 (q + IntKind.wrap IntKind.i64 (w * a)))]))
   (.leaf (.agg [.sym .i64 (IntKind.wrap IntKind.i64 (p + IntKind.wrap IntKind.i64 (w * a))), .sym .i64 (IntKind.wrap IntKind.i64 (q + IntKind.wrap IntKind.i64 (w * b)))]))) := by kernel_rfl
theorem tv93 (w a b : Int) : runX ctC noLoops 93 [i64 w, .agg [i64 a, i64 b]] [42] =
  (.br (decide (w ≥ (0 : Int)))
   (.leaf (.agg [.sym .i64 (IntKind.wrap IntKind.i64 (w * a)), .sym .i64 (IntKind.wrap IntKind.i64 (w * b))]))
   (.leaf (.agg [.sym .i64 (IntKind.wrap IntKind.i64 (w * b)), .sym .i64 (IntKind.wrap IntKind.i64 (w * a))]))) := by kernel_rfl
theorem s71 (p q w a b : Int) : (runX ctC noLoops 71 [.agg [i64 p, i64 q], i64 w, .agg [i64 a, i64 b]] [42]).holds fun v => v = .agg [i64 (wr (p + tl w a b)), i64 (wr (q + th w a b))] := by
  rw [tv71]
  unfold tl th
  refine way (fun c => ?_) fun c => ?_
  · rw [if_pos c, if_pos c, ← wr_wr2 p, ← wr_wr2 q]; rfl
  · rw [if_neg c, if_neg c, ← wr_wr2 p, ← wr_wr2 q]; rfl
theorem s93 (w a b : Int) : (runX ctC noLoops 93 [i64 w, .agg [i64 a, i64 b]] [42]).holds fun v => v = .agg [i64 (wr (tl w a b)), i64 (wr (th w a b))] := by
  rw [tv93]
  unfold tl th
  refine way (fun c => ?_) fun c => ?_
  · rw [if_neg (by omega), if_neg (by omega)]; rfl
  · rw [if_pos (by omega), if_pos (by omega)]; rfl
noncomputable def cAdd : Con T := conV Try.prog [.agg [.i .i64, .i .i64], .one (.i .i64), .agg [.i .i64, .i .i64]] [.n, .n, .n, .n, .n] fun d => .agg [i64 (wr (d.1 + tl d.2.2.1 d.2.2.2.1 d.2.2.2.2.1)), i64 (wr (d.2.1 + th d.2.2.1 d.2.2.2.1 d.2.2.2.2.1))]
noncomputable def cTim : Con T := conV Try.prog [.one (.i .i64), .agg [.i .i64, .i .i64]] [.n, .n, .n] fun d => .agg [i64 (wr (tl d.1 d.2.1 d.2.2.1)), i64 (wr (th d.1 d.2.1 d.2.2.1))]
theorem add_ok : ConOk Try.prog E 71 cAdd := conV_ok fun d => fact_run ctC_ok noLoops_ok (ts := [42]) rfl (s71 d.1 d.2.1 d.2.2.1 d.2.2.2.1 d.2.2.2.2.1)
theorem tim_ok : ConOk Try.prog E 93 cTim := conV_ok fun d => fact_run ctC_ok noLoops_ok (ts := [42]) rfl (s93 d.1 d.2.1 d.2.2.1)
noncomputable def ctD : CTab T := (71, cAdd) :: (93, cTim) :: (61, cAt) :: (75, cAt) :: ctC
theorem ctD_ok : CTabOk Try.prog E ctD := .cons add_ok (.cons tim_ok (.cons at_ok (.cons at2_ok ctC_ok)))
/-! ### sums over slugs -/
noncomputable def SV (l : List Slug) : Nat → Int
  | 0 => 0
  | k + 1 => SV l k + (zi l (k : Int)).Volume
noncomputable def GL (l : List Slug) (J : List Knot) (u : Int) : Nat → Int
  | 0 => 0
  | k + 1 => GL l J u k + (if SV l (k + 1) > u then tl ((zi l (k : Int)).Weight - (zi l ((k : Int) + 1)).Weight) (atLo J (SV l (k + 1))) (atHi J (SV l (k + 1))) else 0)
noncomputable def GH (l : List Slug) (J : List Knot) (u : Int) : Nat → Int
  | 0 => 0
  | k + 1 => GH l J u k + (if SV l (k + 1) > u then th ((zi l (k : Int)).Weight - (zi l ((k : Int) + 1)).Weight) (atLo J (SV l (k + 1))) (atHi J (SV l (k + 1))) else 0)
noncomputable def jd (l : List Slug) (u : Int) : Nat → Nat
  | 0 => 0
  | i + 1 => if SV l (i + 1) ≤ u then i + 1 else jd l u i
theorem SV_sum : ∀ (l : List Slug) (k : Nat), k ≤ l.length → SV l k + sumV (l.drop k) = sumV l
  | l, 0, _ => by show 0 + sumV l = sumV l; omega
  | l, k + 1, h => by
    have := SV_sum l k (by omega)
    have d := drop_zI (l := l) (i := (k : Int)) (by omega) (by omega)
    rw [Int.toNat_natCast, show ((k : Int) + 1).toNat = k + 1 by omega] at d
    rw [d] at this
    show SV l k + (zi l (k : Int)).Volume + sumV (l.drop (k + 1)) = sumV l
    have e : sumV (zi l (k : Int) :: l.drop (k + 1)) = (zi l (k : Int)).Volume + sumV (l.drop (k + 1)) := rfl
    omega
structure Col (l : List Slug) : Prop where
  len : 0 < l.length ∧ l.length ≤ 24
  wt : ∀ k : Nat, k < l.length → 0 ≤ (zi l (k : Int)).Weight ∧ (zi l (k : Int)).Weight ≤ 40000
  vo : ∀ k : Nat, k < l.length → 1 ≤ (zi l (k : Int)).Volume
  sum : sumV l ≤ 5242880000
theorem col_of {h : List Seg} {l : List Slug} (c : cE h l = 0) : Col l := by
  obtain ⟨_, h1, h2, h3⟩ := cE_len c
  have m := allV_mem h2
  refine ⟨h1, fun k hk => (m _ (zi_mem (by omega) (by omega))).1, fun k hk => (m _ (zi_mem (by omega) (by omega))).2, by have := vol_bd h; omega⟩
theorem SV_up {l : List Slug} (c : Col l) : ∀ {j k : Nat}, j ≤ k → k ≤ l.length → SV l j ≤ SV l k := by
  intro j k
  induction k with
  | zero => intro h _; obtain rfl : j = 0 := by omega
            exact Int.le_refl _
  | succ k ih =>
    intro h hk
    rcases Nat.lt_or_eq_of_le h with h | rfl
    · have := ih (by omega) (by omega)
      have := c.vo k (by omega)
      show _ ≤ SV l k + (zi l (k : Int)).Volume
      omega
    · exact Int.le_refl _
theorem SV_bd {l : List Slug} (c : Col l) {k : Nat} (hk : k ≤ l.length) : 0 ≤ SV l k ∧ SV l k ≤ 5242880000 := by
  have h1 := SV_up c (j := 0) (k := k) (by omega) hk
  have h2 := SV_up c (j := k) (k := l.length) hk (Nat.le_refl _)
  have h3 := SV_sum l l.length (Nat.le_refl _)
  rw [List.drop_length] at h3
  have h4 : sumV ([] : List Slug) = 0 := rfl
  have h5 : SV l 0 = 0 := rfl
  have := c.sum
  omega
theorem jd_eq {l : List Slug} {u : Int} (c : Col l) {j : Nat} (hj : j < l.length) (h1 : j = 0 ∨ SV l j ≤ u) (h2 : j = l.length - 1 ∨ SV l (j + 1) > u) : jd l u (l.length - 1) = j := by
  have key : ∀ m : Nat, j ≤ m → m ≤ l.length - 1 → jd l u m = j := by
    intro m
    induction m with
    | zero => intro h _; show 0 = j; omega
    | succ m ih =>
      intro h hm
      rcases Nat.lt_or_eq_of_le h with h | rfl
      · have h3 : SV l (j + 1) > u := by rcases h2 with h2 | h2; omega; exact h2
        have h4 := SV_up c (j := j + 1) (k := m + 1) (by omega) (by omega)
        show (if SV l (m + 1) ≤ u then m + 1 else jd l u m) = j
        rw [if_neg (by omega)]
        exact ih (by omega) (by omega)
      · show (if SV l (m + 1) ≤ u then m + 1 else jd l u m) = m + 1
        rw [if_pos (by rcases h1 with h1 | h1; omega; exact h1)]
  exact key _ (by omega) (Nat.le_refl _)
theorem GL_zero {l : List Slug} {J : List Knot} {u : Int} (c : Col l) : ∀ m : Nat, m ≤ l.length → SV l m ≤ u → GL l J u m = 0 ∧ GH l J u m = 0
  | 0, _, _ => ⟨rfl, rfl⟩
  | m + 1, hm, h => by
    have h1 := SV_up c (j := m) (k := m + 1) (by omega) hm
    obtain ⟨q1, q2⟩ := GL_zero (J := J) (u := u) c m (by omega) (by omega)
    constructor
    · show GL l J u m + (if SV l (m + 1) > u then _ else 0) = 0
      rw [q1, if_neg (by omega)]; rfl
    · show GH l J u m + (if SV l (m + 1) > u then _ else 0) = 0
      rw [q2, if_neg (by omega)]; rfl
theorem GL_more {l : List Slug} {J : List Knot} {u : Int} {m : Nat} (h : SV l (m + 1) > u) : GL l J u (m + 1) = GL l J u m + tl ((zi l (m : Int)).Weight - (zi l ((m : Int) + 1)).Weight) (atLo J (SV l (m + 1))) (atHi J (SV l (m + 1))) ∧ GH l J u (m + 1) = GH l J u m + th ((zi l (m : Int)).Weight - (zi l ((m : Int) + 1)).Weight) (atLo J (SV l (m + 1))) (atHi J (SV l (m + 1))) := by
  constructor
  · show GL l J u m + (if SV l (m + 1) > u then _ else 0) = _
    rw [if_pos h]
  · show GH l J u m + (if SV l (m + 1) > u then _ else 0) = _
    rw [if_pos h]
noncomputable def o69 (l : List Slug) (u : Int) (wt : Int) (b : Int) (i : Int) (r0 : Int) (r1 : Int) (J : List Knot) (p : Int) (q : Int) : Tree (Ex × List (V T)) := .req ((0 ≤ i ∧ i < l.length ∧ Col l) ∧ (b = SV l (i.toNat + 1) ∧ wt = (zi l i).Weight) ∧ wr p = p ∧ wr q = q) (.leaf (.exit 0, [.n u, .n (zi l (jd l u i.toNat : Int)).Weight, .n r0, .n r1, .l 72 J, .n (wr (p + GL l J u i.toNat)), .n (wr (q + GH l J u i.toNat))]))
noncomputable def c69 : LoopC T := ⟨[.l 47, .n, .n, .n, .n, .n, .n, .l 72, .n, .n], ⟨81, [(1, .one (.s 47)), (3, .one (.i .i64)), (8, .one (.o 0 0)), (9, .one (.o 1 0)), (12, .one (.o 2 0)), (13, .one (.i .i64)), (14, .one (.i .i64)), (15, .one (.i .i64))], [.c [.i .i64, .i .i64], .c [.s 72], .c [.i .i64, .i .i64]]⟩, fun _ => ⟨81, [(3, .one (.i .i64)), (8, .one (.o 0 0)), (9, .one (.o 1 0)), (12, .one (.o 2 0)), (13, .one (.i .i64))], [.c [.i .i64, .i .i64], .c [.s 72], .c [.i .i64, .i .i64]]⟩, 30, fun d => o69 d.1 d.2.1 d.2.2.1 d.2.2.2.1 d.2.2.2.2.1 d.2.2.2.2.2.1 d.2.2.2.2.2.2.1 d.2.2.2.2.2.2.2.1 d.2.2.2.2.2.2.2.2.1 d.2.2.2.2.2.2.2.2.2.1⟩
theorem b69 (l : List Slug) (u : Int) (wt : Int) (b : Int) (i : Int) (r0 : Int) (r1 : Int) (J : List Knot) (p : Int) (q : Int) : bodyD Try.prog E c69 0 (bodyX Try.prog E ctD noLoops 1000 5 L0 (lpOf Try.prog 69 0)) (l, u, wt, b, i, r0, r1, J, p, q, ()) =
  (.br (decide (i > (0 : Int)))
   (.req ((decide ((0 : Int) ≤ i) && decide (i < (↑(List.length l) : Int))) = true)
   (.br (decide (IntKind.wrap IntKind.i64 (b - Slug.Volume (zi l i)) ≤ u))
    (.leaf (.inr (.exit (0 : Nat), [.n (u), .n (wt), .n (r0), .n (r1), .l (72 : Nat) (J), .n (p), .n (q)])))
    (.req ((decide ((0 : Int) ≤ IntKind.wrap IntKind.i64 (i - (1 : Int))) && decide (IntKind.wrap IntKind.i64 (i - (1 : Int)) < (↑(List.length l) : Int))) = true)
    (.req ((decide ((0 : Int) ≤ i) && decide (i < (↑(List.length l) : Int))) = true)
    (.leaf (.inl (l, (u, (Slug.Weight (zi l (IntKind.wrap IntKind.i64 (i - (1 : Int)))), (IntKind.wrap IntKind.i64 (b - Slug.Volume (zi l i)), (IntKind.wrap IntKind.i64 (i - (1 : Int)), (r0, (r1, (J, (wr (p + tl (IntKind.wrap IntKind.i64 (Slug.Weight (zi l (IntKind.wrap IntKind.i64 (i - (1 : Int)))) - Slug.Weight (zi l i))) (atLo J (IntKind.wrap IntKind.i64 (b - Slug.Volume (zi l i)))) (atHi J (IntKind.wrap IntKind.i64 (b - Slug.Volume (zi l i))))), (wr (q + th (IntKind.wrap IntKind.i64 (Slug.Weight (zi l (IntKind.wrap IntKind.i64 (i - (1 : Int)))) - Slug.Weight (zi l i))) (atLo J (IntKind.wrap IntKind.i64 (b - Slug.Volume (zi l i)))) (atHi J (IntKind.wrap IntKind.i64 (b - Slug.Volume (zi l i))))), ()))))))))))))))))
   (.leaf (.inr (.exit (0 : Nat), [.n (u), .n (wt), .n (r0), .n (r1), .l (72 : Nat) (J), .n (p), .n (q)])))) := by kernel_rfl
theorem n69 (l : List Slug) (u : Int) (wt : Int) (b : Int) (i : Int) (r0 : Int) (r1 : Int) (J : List Knot) (p : Int) (q : Int) (K : Ex × List (V T) → Prop) (hI : (0 ≤ i ∧ i < l.length ∧ Col l) ∧ (b = SV l (i.toNat + 1) ∧ wt = (zi l i).Weight) ∧ wr p = p ∧ wr q = q) (hK : (.leaf (.exit 0, [.n u, .n (zi l (jd l u i.toNat : Int)).Weight, .n r0, .n r1, .l 72 J, .n (wr (p + GL l J u i.toNat)), .n (wr (q + GH l J u i.toNat))]) : Tree (Ex × List (V T))).holds K) : (c69.out (l, u, wt, b, i, r0, r1, J, p, q, ())).holds K := ⟨hI, hK⟩
theorem h69' (l : List Slug) (u : Int) (wt : Int) (b : Int) (i : Int) (r0 : Int) (r1 : Int) (J : List Knot) (p : Int) (q : Int) (K : Ex × List (V T) → Prop) (hI : (0 ≤ i ∧ i < l.length ∧ Col l) ∧ (b = SV l (i.toNat + 1) ∧ wt = (zi l i).Weight) ∧ wr p = p ∧ wr q = q) (hK : (.leaf (.exit 0, [.n u, .n (zi l (jd l u i.toNat : Int)).Weight, .n r0, .n r1, .l 72 J, .n (wr (p + GL l J u i.toNat)), .n (wr (q + GH l J u i.toNat))]) : Tree (Ex × List (V T))).holds K) :
    (bodyD Try.prog E c69 0 (bodyX Try.prog E ctD noLoops 1000 5 L0 (lpOf Try.prog 69 0)) (l, u, wt, b, i, r0, r1, J, p, q, ())).holds fun y => match y with
    | .inl d => (d.2.2.2.2.1).toNat < (i).toNat ∧ (c69.out d).holds K
    | .inr y => K y := by
  rw [b69]
  obtain ⟨⟨h0, hi, hc⟩, ⟨rfl, rfl⟩, hp, hq⟩ := hI
  obtain ⟨k, rfl⟩ := Int.eq_ofNat_of_zero_le h0
  have hl := hc.len.2
  rw [Int.toNat_natCast] at hK ⊢
  refine way (fun c => wayC (by omega) hi fun _ _ => ?_) fun c => ?_
  · obtain ⟨m, rfl⟩ : ∃ m, k = m + 1 := ⟨k - 1, by omega⟩
    have b0 := SV_bd hc (k := m + 1) (by omega)
    have w1 := hc.wt m (by omega)
    have w2 := hc.wt (m + 1) (by omega)
    have e1 : IntKind.wrap IntKind.i64 (SV l (m + 1 + 1) - (zi l ((m + 1 : Nat) : Int)).Volume) = SV l (m + 1) := by
      show IntKind.wrap IntKind.i64 (SV l (m + 1) + (zi l ((m + 1 : Nat) : Int)).Volume - (zi l ((m + 1 : Nat) : Int)).Volume) = _
      rw [Int.add_sub_cancel]
      exact i64_in' (by omega) (by omega)
    have e2 : IntKind.wrap IntKind.i64 (((m + 1 : Nat) : Int) - 1) = (m : Int) := by
      rw [show ((m + 1 : Nat) : Int) - 1 = (m : Int) by omega]
      exact i64_in' (by omega) (by omega)
    rw [e1, e2]
    refine way (fun c2 => ?_) fun c2 => wayC (by omega) (by omega) fun _ _ => wayC (by omega) hi fun _ _ => ?_
    · have g := GL_zero (J := J) hc (m + 1) (by omega) c2
      rw [g.1, g.2, Int.add_zero, Int.add_zero, hp, hq] at hK
      have ej : jd l u (m + 1) = m + 1 := by
        show (if SV l (m + 1) ≤ u then m + 1 else jd l u m) = m + 1
        rw [if_pos c2]
      rw [ej] at hK
      exact hK
    · have ew : IntKind.wrap IntKind.i64 ((zi l (m : Int)).Weight - (zi l ((m + 1 : Nat) : Int)).Weight) = (zi l (m : Int)).Weight - (zi l ((m + 1 : Nat) : Int)).Weight := i64_in' (by omega) (by omega)
      rw [ew]
      have g := GL_more (J := J) (m := m) (l := l) (u := u) (by omega)
      have ej : jd l u (m + 1) = jd l u m := by
        show (if SV l (m + 1) ≤ u then m + 1 else jd l u m) = jd l u m
        rw [if_neg c2]
      rw [ej, g.1, g.2] at hK
      have ei : ((m + 1 : Nat) : Int) = (m : Int) + 1 := by omega
      rw [ei] at *
      generalize tl ((zi l (m : Int)).Weight - (zi l ((m : Int) + 1)).Weight) (atLo J (SV l (m + 1))) (atHi J (SV l (m + 1))) = x at *
      generalize th ((zi l (m : Int)).Weight - (zi l ((m : Int) + 1)).Weight) (atLo J (SV l (m + 1))) (atHi J (SV l (m + 1))) = y at *
      have g2 : (m : Int).toNat < ((m : Int) + 1).toNat := by omega
      refine ⟨g2, n69 _ _ _ _ _ _ _ _ _ _ K ⟨⟨by omega, by omega, hc⟩, ⟨by rw [Int.toNat_natCast], rfl⟩, wr_id _, wr_id _⟩ ?_⟩
      rw [Int.toNat_natCast, wr_wr, wr_wr, show p + x + GL l J u m = p + (GL l J u m + x) by omega, show q + y + GH l J u m = q + (GH l J u m + y) by omega]
      exact hK
  · obtain rfl : k = 0 := by omega
    have e1 : p + GL l J u 0 = p := Int.add_zero p
    have e2 : q + GH l J u 0 = q := Int.add_zero q
    rw [e1, e2, hp, hq] at hK
    exact hK
theorem h69 : LoopH Try.prog E c69 0 (bodyX Try.prog E ctD noLoops 1000 5 L0 (lpOf Try.prog 69 0)) :=
  ⟨fun d => (d.2.2.2.2.1).toNat, fun dd K hK => by
    obtain ⟨l, u, wt, b, i, r0, r1, J, p, q, ⟨⟩⟩ := dd
    obtain ⟨hI, hK⟩ := hK
    refine Tree.holds_mono (fun y hy => ?_) (h69' l u wt b i r0 r1 J p q K hI hK)
    cases y with
    | inl d' => exact hy
    | inr y => exact hy⟩
theorem ll69 : LLOk Try.prog E (llOfN Try.prog E 69 0 [(7, c69)]) := llOfN_ok fun i hi c hc => by
  have hi : i < 1 := hi
  obtain rfl : i = 0 := by omega
  obtain rfl : c69 = c := Option.some.inj hc
  exact LSndN.mk good names mixes ctD_ok (by decide) h69
noncomputable def o70 (l : List Slug) (u : Int) (a : Int) (wt : Int) (f : Bool) (i : Int) (r0 : Int) (r1 : Int) (J : List Knot) (p : Int) (q : Int) : Tree (Ex × List (V T)) := .req ((0 ≤ i ∧ i ≤ l.length ∧ Col l) ∧ (a = SV l i.toNat ∧ ((f = true ∧ wt = (zi l (jd l u (l.length - 1) : Int)).Weight) ∨ (f = false ∧ wt = (zi l ((l.length : Int) - 1)).Weight ∧ (i = 0 ∨ SV l i.toNat ≤ u)))) ∧ wr p = p ∧ wr q = q) (.leaf (.exit 0, [.n u, .n (zi l (jd l u (l.length - 1) : Int)).Weight, .n r0, .n r1, .l 72 J, .n (wr (p + (GL l J u (l.length - 1) - GL l J u (min i.toNat (l.length - 1))))), .n (wr (q + (GH l J u (l.length - 1) - GH l J u (min i.toNat (l.length - 1)))))]))
noncomputable def c70 : LoopC T := ⟨[.l 47, .n, .n, .n, .t, .n, .n, .n, .l 72, .n, .n], ⟨122, [(1, .one (.s 47)), (3, .one (.i .i64)), (8, .one (.o 0 0)), (9, .one (.o 1 0)), (12, .one (.o 2 0)), (13, .one (.i .i64)), (14, .one (.i .i64)), (15, .one .b), (16, .one (.i .i64))], [.c [.i .i64, .i .i64], .c [.s 72], .c [.i .i64, .i .i64]]⟩, fun _ => ⟨122, [(3, .one (.i .i64)), (8, .one (.o 0 0)), (9, .one (.o 1 0)), (12, .one (.o 2 0)), (14, .one (.i .i64))], [.c [.i .i64, .i .i64], .c [.s 72], .c [.i .i64, .i .i64]]⟩, 30, fun d => o70 d.1 d.2.1 d.2.2.1 d.2.2.2.1 d.2.2.2.2.1 d.2.2.2.2.2.1 d.2.2.2.2.2.2.1 d.2.2.2.2.2.2.2.1 d.2.2.2.2.2.2.2.2.1 d.2.2.2.2.2.2.2.2.2.1 d.2.2.2.2.2.2.2.2.2.2.1⟩
theorem b70 (l : List Slug) (u : Int) (a : Int) (wt : Int) (f : Bool) (i : Int) (r0 : Int) (r1 : Int) (J : List Knot) (p : Int) (q : Int) : bodyD Try.prog E c70 0 (bodyX Try.prog E ctD noLoops 1000 5 L0 (lpOf Try.prog 70 0)) (l, u, a, wt, f, i, r0, r1, J, p, q, ()) =
  (.br (decide (i < (↑(List.length l) : Int)))
   (.req ((decide ((0 : Int) ≤ i) && decide (i < (↑(List.length l) : Int))) = true)
   (.br (decide (IntKind.wrap IntKind.i64 (a + Slug.Volume (zi l i)) ≤ u))
    (.leaf (.inl (l, (u, (IntKind.wrap IntKind.i64 (a + Slug.Volume (zi l i)), (wt, (f, (IntKind.wrap IntKind.i64 (i + (1 : Int)), (r0, (r1, (J, (p, (q, ())))))))))))))
    (.br (!f)
     (.req ((decide ((0 : Int) ≤ i) && decide (i < (↑(List.length l) : Int))) = true)
     (.br (decide (IntKind.wrap IntKind.i64 (i + (1 : Int)) < (↑(List.length l) : Int)))
      (.req ((decide ((0 : Int) ≤ i) && decide (i < (↑(List.length l) : Int))) = true)
      (.req ((decide ((0 : Int) ≤ IntKind.wrap IntKind.i64 (i + (1 : Int))) && decide (IntKind.wrap IntKind.i64 (i + (1 : Int)) < (↑(List.length l) : Int))) = true)
      (.leaf (.inl (l, (u, (IntKind.wrap IntKind.i64 (a + Slug.Volume (zi l i)), (Slug.Weight (zi l i), (true, (IntKind.wrap IntKind.i64 (i + (1 : Int)), (r0, (r1, (J, (IntKind.wrap IntKind.i64 (p + wr (tl (IntKind.wrap IntKind.i64 (Slug.Weight (zi l i) - Slug.Weight (zi l (IntKind.wrap IntKind.i64 (i + (1 : Int)))))) (atLo J (IntKind.wrap IntKind.i64 (a + Slug.Volume (zi l i)))) (atHi J (IntKind.wrap IntKind.i64 (a + Slug.Volume (zi l i)))))), (IntKind.wrap IntKind.i64 (q + wr (th (IntKind.wrap IntKind.i64 (Slug.Weight (zi l i) - Slug.Weight (zi l (IntKind.wrap IntKind.i64 (i + (1 : Int)))))) (atLo J (IntKind.wrap IntKind.i64 (a + Slug.Volume (zi l i)))) (atHi J (IntKind.wrap IntKind.i64 (a + Slug.Volume (zi l i)))))), ())))))))))))))))
      (.leaf (.inl (l, (u, (IntKind.wrap IntKind.i64 (a + Slug.Volume (zi l i)), (Slug.Weight (zi l i), (true, (IntKind.wrap IntKind.i64 (i + (1 : Int)), (r0, (r1, (J, (p, (q, ())))))))))))))))
     (.br (decide (IntKind.wrap IntKind.i64 (i + (1 : Int)) < (↑(List.length l) : Int)))
      (.req ((decide ((0 : Int) ≤ i) && decide (i < (↑(List.length l) : Int))) = true)
      (.req ((decide ((0 : Int) ≤ IntKind.wrap IntKind.i64 (i + (1 : Int))) && decide (IntKind.wrap IntKind.i64 (i + (1 : Int)) < (↑(List.length l) : Int))) = true)
      (.leaf (.inl (l, (u, (IntKind.wrap IntKind.i64 (a + Slug.Volume (zi l i)), (wt, (f, (IntKind.wrap IntKind.i64 (i + (1 : Int)), (r0, (r1, (J, (IntKind.wrap IntKind.i64 (p + wr (tl (IntKind.wrap IntKind.i64 (Slug.Weight (zi l i) - Slug.Weight (zi l (IntKind.wrap IntKind.i64 (i + (1 : Int)))))) (atLo J (IntKind.wrap IntKind.i64 (a + Slug.Volume (zi l i)))) (atHi J (IntKind.wrap IntKind.i64 (a + Slug.Volume (zi l i)))))), (IntKind.wrap IntKind.i64 (q + wr (th (IntKind.wrap IntKind.i64 (Slug.Weight (zi l i) - Slug.Weight (zi l (IntKind.wrap IntKind.i64 (i + (1 : Int)))))) (atLo J (IntKind.wrap IntKind.i64 (a + Slug.Volume (zi l i)))) (atHi J (IntKind.wrap IntKind.i64 (a + Slug.Volume (zi l i)))))), ())))))))))))))))
      (.leaf (.inl (l, (u, (IntKind.wrap IntKind.i64 (a + Slug.Volume (zi l i)), (wt, (f, (IntKind.wrap IntKind.i64 (i + (1 : Int)), (r0, (r1, (J, (p, (q, ())))))))))))))))))
   (.leaf (.inr (.exit (0 : Nat), [.n (u), .n (wt), .n (r0), .n (r1), .l (72 : Nat) (J), .n (p), .n (q)])))) := by kernel_rfl
theorem n70 (l : List Slug) (u : Int) (a : Int) (wt : Int) (f : Bool) (i : Int) (r0 : Int) (r1 : Int) (J : List Knot) (p : Int) (q : Int) (K : Ex × List (V T) → Prop) (hI : (0 ≤ i ∧ i ≤ l.length ∧ Col l) ∧ (a = SV l i.toNat ∧ ((f = true ∧ wt = (zi l (jd l u (l.length - 1) : Int)).Weight) ∨ (f = false ∧ wt = (zi l ((l.length : Int) - 1)).Weight ∧ (i = 0 ∨ SV l i.toNat ≤ u)))) ∧ wr p = p ∧ wr q = q) (hK : (.leaf (.exit 0, [.n u, .n (zi l (jd l u (l.length - 1) : Int)).Weight, .n r0, .n r1, .l 72 J, .n (wr (p + (GL l J u (l.length - 1) - GL l J u (min i.toNat (l.length - 1))))), .n (wr (q + (GH l J u (l.length - 1) - GH l J u (min i.toNat (l.length - 1)))))]) : Tree (Ex × List (V T))).holds K) : (c70.out (l, u, a, wt, f, i, r0, r1, J, p, q, ())).holds K := ⟨hI, hK⟩
theorem h70' (l : List Slug) (u : Int) (a : Int) (wt : Int) (f : Bool) (i : Int) (r0 : Int) (r1 : Int) (J : List Knot) (p : Int) (q : Int) (K : Ex × List (V T) → Prop) (hI : (0 ≤ i ∧ i ≤ l.length ∧ Col l) ∧ (a = SV l i.toNat ∧ ((f = true ∧ wt = (zi l (jd l u (l.length - 1) : Int)).Weight) ∨ (f = false ∧ wt = (zi l ((l.length : Int) - 1)).Weight ∧ (i = 0 ∨ SV l i.toNat ≤ u)))) ∧ wr p = p ∧ wr q = q) (hK : (.leaf (.exit 0, [.n u, .n (zi l (jd l u (l.length - 1) : Int)).Weight, .n r0, .n r1, .l 72 J, .n (wr (p + (GL l J u (l.length - 1) - GL l J u (min i.toNat (l.length - 1))))), .n (wr (q + (GH l J u (l.length - 1) - GH l J u (min i.toNat (l.length - 1)))))]) : Tree (Ex × List (V T))).holds K) :
    (bodyD Try.prog E c70 0 (bodyX Try.prog E ctD noLoops 1000 5 L0 (lpOf Try.prog 70 0)) (l, u, a, wt, f, i, r0, r1, J, p, q, ())).holds fun y => match y with
    | .inl d => ((d.1.length : Int) - d.2.2.2.2.2.1).toNat < ((l.length : Int) - i).toNat ∧ (c70.out d).holds K
    | .inr y => K y := by
  rw [b70]
  obtain ⟨⟨h0, hi, hc⟩, ⟨rfl, hf⟩, hp, hq⟩ := hI
  obtain ⟨k, rfl⟩ := Int.eq_ofNat_of_zero_le h0
  have hl := hc.len
  rw [Int.toNat_natCast] at hK hf ⊢
  refine way (fun c => wayC h0 c fun _ _ => ?_) fun c => ?_
  · have hk : k < l.length := by omega
    have b0 := SV_bd hc (k := k + 1) (by omega)
    have e1 : IntKind.wrap IntKind.i64 (SV l k + (zi l (k : Int)).Volume) = SV l (k + 1) := i64_in' (show _ ≤ SV l (k + 1) by omega) (show SV l (k + 1) ≤ _ by omega)
    have e2 : IntKind.wrap IntKind.i64 ((k : Int) + 1) = ((k + 1 : Nat) : Int) := i64_in' (by omega) (by omega)
    rw [e1, e2]
    have g2 : ((l.length : Int) - ((k + 1 : Nat) : Int)).toNat < ((l.length : Int) - (k : Int)).toNat := by omega
    have next : ∀ (wt' : Int) (f' : Bool) (p' q' : Int), ((f' = true ∧ wt' = (zi l (jd l u (l.length - 1) : Int)).Weight) ∨ (f' = false ∧ wt' = (zi l ((l.length : Int) - 1)).Weight ∧ SV l (k + 1) ≤ u)) → wr p' = p' → wr q' = q' →
        wr (p' + (GL l J u (l.length - 1) - GL l J u (min (k + 1) (l.length - 1)))) = wr (p + (GL l J u (l.length - 1) - GL l J u (min k (l.length - 1)))) → wr (q' + (GH l J u (l.length - 1) - GH l J u (min (k + 1) (l.length - 1)))) = wr (q + (GH l J u (l.length - 1) - GH l J u (min k (l.length - 1)))) →
        ((l.length : Int) - ((k + 1 : Nat) : Int)).toNat < ((l.length : Int) - (k : Int)).toNat ∧ (c70.out (l, u, SV l (k + 1), wt', f', ((k + 1 : Nat) : Int), r0, r1, J, p', q', ())).holds K := by
      intro wt' f' p' q' a1 a2 a3 a4 a5
      refine ⟨g2, n70 _ _ _ _ _ _ _ _ _ _ _ K ⟨⟨by omega, by omega, hc⟩, ⟨by rw [Int.toNat_natCast], ?_⟩, a2, a3⟩ ?_⟩
      · rw [Int.toNat_natCast]
        rcases a1 with a1 | a1
        · exact .inl a1
        · exact .inr ⟨a1.1, a1.2.1, .inr a1.2.2⟩
      · rw [Int.toNat_natCast, a4, a5]
        exact hK
    refine way (fun c2 => ?_) fun c2 => ?_
    · have z : ∀ m : Nat, m ≤ k + 1 → GL l J u m = 0 ∧ GH l J u m = 0 := fun m hm => GL_zero hc m (by omega) (by have := SV_up hc hm (by omega); omega)
      have z1 := z (min (k + 1) (l.length - 1)) (by omega)
      have z2 := z (min k (l.length - 1)) (by omega)
      refine next _ _ _ _ ?_ hp hq (by rw [z1.1, z2.1]) (by rw [z1.2, z2.2])
      rcases hf with hf | hf
      · exact .inl hf
      · exact .inr ⟨hf.1, hf.2.1, c2⟩
    · have hg : SV l (k + 1) > u := by omega
      have g := GL_more (J := J) hg
      have w1 := hc.wt k hk
      -- what is added
      have stay : ¬ (((k + 1 : Nat) : Int) < (l.length : Int)) → min (k + 1) (l.length - 1) = l.length - 1 ∧ min k (l.length - 1) = l.length - 1 := fun h => by omega
      have step : ((k + 1 : Nat) : Int) < (l.length : Int) → (min (k + 1) (l.length - 1) = k + 1 ∧ min k (l.length - 1) = k) ∧ IntKind.wrap IntKind.i64 ((zi l (k : Int)).Weight - (zi l ((k + 1 : Nat) : Int)).Weight) = (zi l (k : Int)).Weight - (zi l ((k : Int) + 1)).Weight := fun h => by
        have w2 := hc.wt (k + 1) (by omega)
        refine ⟨by omega, ?_⟩
        rw [show ((k + 1 : Nat) : Int) = (k : Int) + 1 by omega] at *
        exact i64_in' (by omega) (by omega)
      have add : ∀ (wt' : Int), ((true = true ∧ wt' = (zi l (jd l u (l.length - 1) : Int)).Weight)) → ((k + 1 : Nat) : Int) < (l.length : Int) → 
          ((l.length : Int) - ((k + 1 : Nat) : Int)).toNat < ((l.length : Int) - (k : Int)).toNat ∧ (c70.out (l, u, SV l (k + 1), wt', true, ((k + 1 : Nat) : Int), r0, r1, J, IntKind.wrap IntKind.i64 (p + wr (tl ((zi l (k : Int)).Weight - (zi l ((k : Int) + 1)).Weight) (atLo J (SV l (k + 1))) (atHi J (SV l (k + 1))))), IntKind.wrap IntKind.i64 (q + wr (th ((zi l (k : Int)).Weight - (zi l ((k : Int) + 1)).Weight) (atLo J (SV l (k + 1))) (atHi J (SV l (k + 1))))), ())).holds K := by
        intro wt' a1 h
        obtain ⟨⟨m1, m2⟩, _⟩ := step h
        refine next _ _ _ _ (.inl a1) (wr_id _) (wr_id _) ?_ ?_
        · rw [m1, m2, g.1]
          show wr (wr (p + wr _) + _) = _
          rw [wr_wr2, wr_wr]
          congr 1
          omega
        · rw [m1, m2, g.2]
          show wr (wr (q + wr _) + _) = _
          rw [wr_wr2, wr_wr]
          congr 1
          omega
      refine wayB (fun kf => wayC h0 c fun _ _ => ?_) fun kf => ?_
      · have ff : f = false := by simpa using kf
        have hj : jd l u (l.length - 1) = k := by
          rcases hf with hf | hf
          · rw [ff] at hf; exact absurd hf.1 (by decide)
          · exact jd_eq hc hk (by rcases hf.2.2 with h | h; exact .inl (by omega); exact .inr h) (.inr hg)
        have ew : (zi l (k : Int)).Weight = (zi l (jd l u (l.length - 1) : Int)).Weight := by rw [hj]
        refine way (fun c3 => wayC h0 c fun _ _ => wayC (by omega) c3 fun _ _ => ?_) fun c3 => ?_
        · rw [(step c3).2]
          exact add _ ⟨rfl, ew⟩ c3
        · obtain ⟨m1, m2⟩ := stay c3
          exact next _ _ _ _ (.inl ⟨rfl, ew⟩) hp hq (by rw [m1, m2]) (by rw [m1, m2])
      · have ff : f = true := by simpa using kf
        subst ff
        have ew : wt = (zi l (jd l u (l.length - 1) : Int)).Weight := by
          rcases hf with hf | hf
          · exact hf.2
          · exact absurd hf.1 (by decide)
        refine way (fun c3 => wayC h0 c fun _ _ => wayC (by omega) c3 fun _ _ => ?_) fun c3 => ?_
        · rw [(step c3).2]
          exact add _ ⟨rfl, ew⟩ c3
        · obtain ⟨m1, m2⟩ := stay c3
          exact next _ _ _ _ (.inl ⟨rfl, ew⟩) hp hq (by rw [m1, m2]) (by rw [m1, m2])
  · have hk : k = l.length := by omega
    have m1 : min k (l.length - 1) = l.length - 1 := by omega
    rw [m1, Int.sub_self, Int.add_zero, Int.sub_self, Int.add_zero, hp, hq] at hK
    have ew : wt = (zi l (jd l u (l.length - 1) : Int)).Weight := by
      rcases hf with hf | hf
      · exact hf.2
      · have := SV_up hc (j := l.length - 1) (k := k) (by omega) (by omega)
        have hj : jd l u (l.length - 1) = l.length - 1 := jd_eq hc (by omega) (by rcases hf.2.2 with h | h; omega; exact .inr (by omega)) (.inl rfl)
        rw [hj, hf.2.1]
        congr 2
        omega
    rw [← ew] at hK
    exact hK
theorem h70 : LoopH Try.prog E c70 0 (bodyX Try.prog E ctD noLoops 1000 5 L0 (lpOf Try.prog 70 0)) :=
  ⟨fun d => ((d.1.length : Int) - d.2.2.2.2.2.1).toNat, fun dd K hK => by
    obtain ⟨l, u, a, wt, f, i, r0, r1, J, p, q, ⟨⟩⟩ := dd
    obtain ⟨hI, hK⟩ := hK
    refine Tree.holds_mono (fun y hy => ?_) (h70' l u a wt f i r0 r1 J p q K hI hK)
    cases y with
    | inl d' => exact hy
    | inr y => exact hy⟩
theorem ll70 : LLOk Try.prog E (llOfN Try.prog E 70 0 [(8, c70)]) := llOfN_ok fun i hi c hc => by
  have hi : i < 1 := hi
  obtain rfl : i = 0 := by omega
  obtain rfl : c70 = c := Option.some.inj hc
  exact LSndN.mk good names mixes ctD_ok (by decide) h70
theorem tv69 (h : List Seg) (l : List Slug) (a u : Int) : runX ctD (llOfN Try.prog E 69 0 [(7, c69)]) 69 [.agg [.sl 52 h false], .sl 47 l false, i64 a, i64 u] [42] =
  (.req (inLg h)
  (.req ((decide ((0 : Int) ≤ IntKind.wrap IntKind.i64 ((↑(List.length l) : Int) - (1 : Int))) && decide (IntKind.wrap IntKind.i64 ((↑(List.length l) : Int) - (1 : Int)) < (↑(List.length l) : Int))) = true)
  (.req ((decide ((0 : Int) ≤ IntKind.wrap IntKind.i64 ((↑(List.length (hl h)) : Int) - (1 : Int))) && decide (IntKind.wrap IntKind.i64 ((↑(List.length (hl h)) : Int) - (1 : Int)) < (↑(List.length (hl h)) : Int))) = true)
  (.req ((decide ((0 : Int) ≤ IntKind.wrap IntKind.i64 ((↑(List.length (hl h)) : Int) - (1 : Int))) && decide (IntKind.wrap IntKind.i64 ((↑(List.length (hl h)) : Int) - (1 : Int)) < (↑(List.length (hl h)) : Int))) = true)
  (.req (((0 : Int) ≤ IntKind.wrap IntKind.i64 ((↑(List.length l) : Int) - (1 : Int)) ∧ IntKind.wrap IntKind.i64 ((↑(List.length l) : Int) - (1 : Int)) < (↑(List.length l) : Int) ∧ Col l) ∧ (Knot.At (ki (hl h) (IntKind.wrap IntKind.i64 ((↑(List.length (hl h)) : Int) - (1 : Int)))) = SV l (Int.toNat (IntKind.wrap IntKind.i64 ((↑(List.length l) : Int) - (1 : Int))) + (1 : Nat)) ∧ Slug.Weight (zi l (IntKind.wrap IntKind.i64 ((↑(List.length l) : Int) - (1 : Int)))) = Slug.Weight (zi l (IntKind.wrap IntKind.i64 ((↑(List.length l) : Int) - (1 : Int))))) ∧ wr (IntKind.wrap IntKind.i64 (a + IntKind.wrap IntKind.i64 (Slug.Weight (zi l (IntKind.wrap IntKind.i64 ((↑(List.length l) : Int) - (1 : Int)))) * Knot.V (ki (hl h) (IntKind.wrap IntKind.i64 ((↑(List.length (hl h)) : Int) - (1 : Int))))))) = IntKind.wrap IntKind.i64 (a + IntKind.wrap IntKind.i64 (Slug.Weight (zi l (IntKind.wrap IntKind.i64 ((↑(List.length l) : Int) - (1 : Int)))) * Knot.V (ki (hl h) (IntKind.wrap IntKind.i64 ((↑(List.length (hl h)) : Int) - (1 : Int)))))) ∧ wr (IntKind.wrap IntKind.i64 (a + IntKind.wrap IntKind.i64 (Slug.Weight (zi l (IntKind.wrap IntKind.i64 ((↑(List.length l) : Int) - (1 : Int)))) * Knot.V (ki (hl h) (IntKind.wrap IntKind.i64 ((↑(List.length (hl h)) : Int) - (1 : Int))))))) = IntKind.wrap IntKind.i64 (a + IntKind.wrap IntKind.i64 (Slug.Weight (zi l (IntKind.wrap IntKind.i64 ((↑(List.length l) : Int) - (1 : Int)))) * Knot.V (ki (hl h) (IntKind.wrap IntKind.i64 ((↑(List.length (hl h)) : Int) - (1 : Int)))))))
  (.leaf (.agg [.sym .i64 (wr (wr (IntKind.wrap IntKind.i64 (a + IntKind.wrap IntKind.i64 (Slug.Weight (zi l (IntKind.wrap IntKind.i64 ((↑(List.length l) : Int) - (1 : Int)))) * Knot.V (ki (hl h) (IntKind.wrap IntKind.i64 ((↑(List.length (hl h)) : Int) - (1 : Int)))))) + GL l (hl h) u (Int.toNat (IntKind.wrap IntKind.i64 ((↑(List.length l) : Int) - (1 : Int))))) + tl (IntKind.wrap IntKind.i64 ((0 : Int) - Slug.Weight (zi l (↑(jd l u (Int.toNat (IntKind.wrap IntKind.i64 ((↑(List.length l) : Int) - (1 : Int))))) : Int)))) (atLo (hl h) u) (atHi (hl h) u))), .sym .i64 (wr (wr (IntKind.wrap IntKind.i64 (a + IntKind.wrap IntKind.i64 (Slug.Weight (zi l (IntKind.wrap IntKind.i64 ((↑(List.length l) : Int) - (1 : Int)))) * Knot.V (ki (hl h) (IntKind.wrap IntKind.i64 ((↑(List.length (hl h)) : Int) - (1 : Int)))))) + GH l (hl h) u (Int.toNat (IntKind.wrap IntKind.i64 ((↑(List.length l) : Int) - (1 : Int))))) + th (IntKind.wrap IntKind.i64 ((0 : Int) - Slug.Weight (zi l (↑(jd l u (Int.toNat (IntKind.wrap IntKind.i64 ((↑(List.length l) : Int) - (1 : Int))))) : Int)))) (atLo (hl h) u) (atHi (hl h) u)))]))))))) := by kernel_rfl
theorem tv70 (h : List Seg) (l : List Slug) (a u : Int) : runX ctD (llOfN Try.prog E 70 0 [(8, c70)]) 70 [.agg [.sl 52 h false], .sl 47 l false, i64 a, i64 u] [42] =
  (.req (inLg h)
  (.req ((decide ((0 : Int) ≤ IntKind.wrap IntKind.i64 ((↑(List.length (hl h)) : Int) - (1 : Int))) && decide (IntKind.wrap IntKind.i64 ((↑(List.length (hl h)) : Int) - (1 : Int)) < (↑(List.length (hl h)) : Int))) = true)
  (.req ((decide ((0 : Int) ≤ IntKind.wrap IntKind.i64 ((↑(List.length l) : Int) - (1 : Int))) && decide (IntKind.wrap IntKind.i64 ((↑(List.length l) : Int) - (1 : Int)) < (↑(List.length l) : Int))) = true)
  (.req (((0 : Int) ≤ (0 : Int) ∧ (0 : Int) ≤ (↑(List.length l) : Int) ∧ Col l) ∧ ((0 : Int) = SV l (Int.toNat (0 : Int)) ∧ (false = true ∧ Slug.Weight (zi l (IntKind.wrap IntKind.i64 ((↑(List.length l) : Int) - (1 : Int)))) = Slug.Weight (zi l (↑(jd l u (List.length l - (1 : Nat))) : Int)) ∨ false = false ∧ Slug.Weight (zi l (IntKind.wrap IntKind.i64 ((↑(List.length l) : Int) - (1 : Int)))) = Slug.Weight (zi l ((↑(List.length l) : Int) - (1 : Int))) ∧ ((0 : Int) = (0 : Int) ∨ SV l (Int.toNat (0 : Int)) ≤ u))) ∧ wr (IntKind.wrap IntKind.i64 (a + IntKind.wrap IntKind.i64 (Slug.Weight (zi l (IntKind.wrap IntKind.i64 ((↑(List.length l) : Int) - (1 : Int)))) * Knot.V (ki (hl h) (IntKind.wrap IntKind.i64 ((↑(List.length (hl h)) : Int) - (1 : Int))))))) = IntKind.wrap IntKind.i64 (a + IntKind.wrap IntKind.i64 (Slug.Weight (zi l (IntKind.wrap IntKind.i64 ((↑(List.length l) : Int) - (1 : Int)))) * Knot.V (ki (hl h) (IntKind.wrap IntKind.i64 ((↑(List.length (hl h)) : Int) - (1 : Int)))))) ∧ wr (IntKind.wrap IntKind.i64 (a + IntKind.wrap IntKind.i64 (Slug.Weight (zi l (IntKind.wrap IntKind.i64 ((↑(List.length l) : Int) - (1 : Int)))) * Knot.V (ki (hl h) (IntKind.wrap IntKind.i64 ((↑(List.length (hl h)) : Int) - (1 : Int))))))) = IntKind.wrap IntKind.i64 (a + IntKind.wrap IntKind.i64 (Slug.Weight (zi l (IntKind.wrap IntKind.i64 ((↑(List.length l) : Int) - (1 : Int)))) * Knot.V (ki (hl h) (IntKind.wrap IntKind.i64 ((↑(List.length (hl h)) : Int) - (1 : Int)))))))
  (.leaf (.agg [.sym .i64 (IntKind.wrap IntKind.i64 (wr (IntKind.wrap IntKind.i64 (a + IntKind.wrap IntKind.i64 (Slug.Weight (zi l (IntKind.wrap IntKind.i64 ((↑(List.length l) : Int) - (1 : Int)))) * Knot.V (ki (hl h) (IntKind.wrap IntKind.i64 ((↑(List.length (hl h)) : Int) - (1 : Int)))))) + (GL l (hl h) u (List.length l - (1 : Nat)) - GL l (hl h) u (min (Int.toNat (0 : Int)) (List.length l - (1 : Nat))))) + wr (tl (IntKind.wrap IntKind.i64 ((0 : Int) - Slug.Weight (zi l (↑(jd l u (List.length l - (1 : Nat))) : Int)))) (atLo (hl h) u) (atHi (hl h) u)))), .sym .i64 (IntKind.wrap IntKind.i64 (wr (IntKind.wrap IntKind.i64 (a + IntKind.wrap IntKind.i64 (Slug.Weight (zi l (IntKind.wrap IntKind.i64 ((↑(List.length l) : Int) - (1 : Int)))) * Knot.V (ki (hl h) (IntKind.wrap IntKind.i64 ((↑(List.length (hl h)) : Int) - (1 : Int)))))) + (GH l (hl h) u (List.length l - (1 : Nat)) - GH l (hl h) u (min (Int.toNat (0 : Int)) (List.length l - (1 : Nat))))) + wr (th (IntKind.wrap IntKind.i64 ((0 : Int) - Slug.Weight (zi l (↑(jd l u (List.length l - (1 : Nat))) : Int)))) (atLo (hl h) u) (atHi (hl h) u))))])))))) := by kernel_rfl
theorem ki_cons {x y : Knot} {r : List Knot} : ki (x :: y :: r) (((x :: y :: r).length : Int) - 1) = ki (y :: r) (((y :: r).length : Int) - 1) := by
  show ixD E 72 (x :: y :: r) (((x :: y :: r : List Knot).length : Int) - 1) = ixD E 72 (y :: r) (((y :: r : List Knot).length : Int) - 1)
  unfold ixD
  rw [show (((x :: y :: r : List Knot).length : Int) - 1).toNat = r.length + 1 by simp, show (((y :: r : List Knot).length : Int) - 1).toNat = r.length by simp]
  rfl
theorem kl_last : ∀ (l : List Seg) (low v : Int) (x : Knot), x.At = low → (ki (x :: kl l low v) (((x :: kl l low v).length : Int) - 1)).At = vf l low
  | [], low, v, x, h => h
  | s :: r, low, v, x, h => by
    show (ki (x :: ⟨hi s low, wr (v + s.Rise)⟩ :: kl r (hi s low) (wr (v + s.Rise))) _).At = vf r (hi s low)
    have := kl_last r (hi s low) (wr (v + s.Rise)) ⟨hi s low, wr (v + s.Rise)⟩ rfl
    rw [← this]
    exact congrArg Knot.At ki_cons
theorem hl_last {h : List Seg} (c : hE h = 0) : (ki (hl h) (((hl h).length : Int) - 1)).At = vol h := by
  unfold hl vol
  rw [if_pos c, if_pos c]
  exact kl_last h 0 0 ⟨0, 0⟩ rfl
theorem hl_len {h : List Seg} (c : hE h = 0) : (hl h).length = h.length + 1 := by
  unfold hl
  rw [if_pos c]
  simp [len_kl]
noncomputable def top0 (h : List Seg) (l : List Slug) (a : Int) : Int := a + (zi l ((l.length : Int) - 1)).Weight * (ki (hl h) (((hl h).length : Int) - 1)).V
noncomputable def prLo (h : List Seg) (l : List Slug) (a u : Int) : Int := wr (top0 h l a + GL l (hl h) u (l.length - 1) + tl (-(zi l (jd l u (l.length - 1) : Int)).Weight) (atLo (hl h) u) (atHi (hl h) u))
noncomputable def prHi (h : List Seg) (l : List Slug) (a u : Int) : Int := wr (top0 h l a + GH l (hl h) u (l.length - 1) + th (-(zi l (jd l u (l.length - 1) : Int)).Weight) (atLo (hl h) u) (atHi (hl h) u))
theorem jd_le (l : List Slug) (u : Int) : ∀ m : Nat, jd l u m ≤ m
  | 0 => Nat.le_refl _
  | m + 1 => by
    show (if SV l (m + 1) ≤ u then m + 1 else jd l u m) ≤ m + 1
    have := jd_le l u m
    split <;> omega
theorem press_pre {h : List Seg} {l : List Slug} (c : cE h l = 0) : IntKind.wrap IntKind.i64 ((l.length : Int) - 1) = (l.length : Int) - 1 ∧ IntKind.wrap IntKind.i64 (((hl h).length : Int) - 1) = ((hl h).length : Int) - 1 ∧ 0 < l.length ∧ 0 < (hl h).length ∧ ((l.length : Int) - 1).toNat = l.length - 1 ∧ (ki (hl h) (((hl h).length : Int) - 1)).At = SV l l.length ∧ ∀ u, IntKind.wrap IntKind.i64 (0 - (zi l (jd l u (l.length - 1) : Int)).Weight) = -(zi l (jd l u (l.length - 1) : Int)).Weight := by
  obtain ⟨h1, h2, h3, h4⟩ := cE_len c
  have hc := col_of c
  have e := hl_len h1
  have hh := (hE_0 h1).1
  have hs := SV_sum l l.length (Nat.le_refl _)
  rw [List.drop_length] at hs
  have hs : SV l l.length + 0 = sumV l := hs
  refine ⟨i64_in' (by omega) (by omega), i64_in' (by omega) (by omega), h2.1, by omega, by omega, by rw [hl_last h1]; omega, fun u => ?_⟩
  have := hc.wt (jd l u (l.length - 1)) (by have := jd_le l u (l.length - 1); omega)
  rw [Int.zero_sub]
  exact i64_in' (by omega) (by omega)
theorem s69 (h : List Seg) (l : List Slug) (a u : Int) (hL : inLg h) (c : cE h l = 0) : (runX ctD (llOfN Try.prog E 69 0 [(7, c69)]) 69 [.agg [.sl 52 h false], .sl 47 l false, i64 a, i64 u] [42]).holds fun v => v = .agg [i64 (prLo h l a u), i64 (prHi h l a u)] := by
  rw [tv69]
  obtain ⟨e1, e2, q1, q2, e3, e4, e5⟩ := press_pre c
  rw [e1, e2, e3, e5]
  refine ⟨hL, wayC (by omega) (by omega) fun _ _ => wayC (by omega) (by omega) fun _ _ => wayC (by omega) (by omega) fun _ _ => ⟨⟨⟨by omega, by omega, col_of c⟩, ⟨?_, rfl⟩, wr_id _, wr_id _⟩, ?_⟩⟩
  · rw [show l.length - 1 + 1 = l.length by omega]
    exact e4
  · show AV.agg [i64 (wr (wr (wr (a + wr _) + _) + _)), i64 (wr (wr (wr (a + wr _) + _) + _))] = _
    simp only [wr_wr2, wr_wr]
    rfl
theorem s70 (h : List Seg) (l : List Slug) (a u : Int) (hL : inLg h) (c : cE h l = 0) : (runX ctD (llOfN Try.prog E 70 0 [(8, c70)]) 70 [.agg [.sl 52 h false], .sl 47 l false, i64 a, i64 u] [42]).holds fun v => v = .agg [i64 (prLo h l a u), i64 (prHi h l a u)] := by
  rw [tv70]
  obtain ⟨e1, e2, q1, q2, e3, e4, e5⟩ := press_pre c
  rw [e1, e2, e5]
  refine ⟨hL, wayC (by omega) (by omega) fun _ _ => wayC (by omega) (by omega) fun _ _ => ⟨⟨⟨by decide, by omega, col_of c⟩, ⟨rfl, .inr ⟨rfl, rfl, .inl rfl⟩⟩, wr_id _, wr_id _⟩, ?_⟩⟩
  have m0 : min (Int.toNat 0) (l.length - 1) = 0 := by show min 0 _ = 0; omega
  have z1 : GL l (hl h) u 0 = 0 := rfl
  have z2 : GH l (hl h) u 0 = 0 := rfl
  rw [m0, z1, z2, Int.sub_zero, Int.sub_zero]
  show AV.agg [i64 (wr (wr (wr (a + wr _) + _) + wr _)), i64 (wr (wr (wr (a + wr _) + _) + wr _))] = _
  simp only [wr_wr2, wr_wr]
  rfl
noncomputable def cPr : Con T := conP Try.prog [shH, .one (.s 47), .one (.i .i64), .one (.i .i64)] [.l 52, .l 47, .n, .n] (fun d => inLg d.1 ∧ cE d.1 d.2.1 = 0) fun d => .agg [i64 (prLo d.1 d.2.1 d.2.2.1 d.2.2.2.1), i64 (prHi d.1 d.2.1 d.2.2.1 d.2.2.2.1)]
theorem pr_ok : ConOk Try.prog E 69 cPr := conP_ok fun d hd => fact_run ctD_ok ll69 (ts := [42]) rfl (s69 d.1 d.2.1 d.2.2.1 d.2.2.2.1 hd.1 hd.2)
theorem pr2_ok : ConOk Try.prog E 70 cPr := conP_ok fun d hd => fact_run ctD_ok ll70 (ts := [42]) rfl (s70 d.1 d.2.1 d.2.2.1 d.2.2.2.1 hd.1 hd.2)
noncomputable def ctF : CTab T := (69, cPr) :: (70, cPr) :: ctD
theorem ctF_ok : CTabOk Try.prog E ctF := .cons pr_ok (.cons pr2_ok ctD_ok)
theorem tv34 (h : List Seg) (l : List Slug) (a u : Int) : runX ctF noLoops 34 [.agg [.sl 52 h false], .sl 47 l false, i64 a, i64 u] [42, 26] =
  (.req (inLg h ∧ inVm l)
  (.br (cE h l != (0 : Int))
   (.leaf (.tup [.agg [.sym .i64 ((0 : Int)), .sym .i64 ((0 : Int))], .sym .i64 (cE h l)]))
   (.br (!within a (0 : Int) (68719476736 : Int))
    (.leaf (.tup [.agg [.sym .i64 ((0 : Int)), .sym .i64 ((0 : Int))], .sym .i64 ((2 : Int))]))
    (.req (inLg h)
    (.br (!within u (0 : Int) (vol h))
     (.leaf (.tup [.agg [.sym .i64 ((0 : Int)), .sym .i64 ((0 : Int))], .sym .i64 ((2 : Int))]))
     (.req (inLg h ∧ cE h l = (0 : Int))
     (.leaf (.tup [.agg [.sym .i64 (prLo h l a u), .sym .i64 (prHi h l a u)], .sym .i64 ((0 : Int))])))))))) := by kernel_rfl
theorem tv35 (h : List Seg) (l : List Slug) (a u : Int) : runX ctF noLoops 35 [.agg [.sl 52 h false], .sl 47 l false, i64 a, i64 u] [42, 26] =
  (.req (inLg h ∧ inVm l)
  (.br (cE h l != (0 : Int))
   (.leaf (.tup [.agg [.sym .i64 ((0 : Int)), .sym .i64 ((0 : Int))], .sym .i64 (cE h l)]))
   (.br (decide (a < (0 : Int)))
    (.leaf (.tup [.agg [.sym .i64 ((0 : Int)), .sym .i64 ((0 : Int))], .sym .i64 ((2 : Int))]))
    (.br (decide (a > (68719476736 : Int)))
     (.leaf (.tup [.agg [.sym .i64 ((0 : Int)), .sym .i64 ((0 : Int))], .sym .i64 ((2 : Int))]))
     (.br (decide (u < (0 : Int)))
      (.leaf (.tup [.agg [.sym .i64 ((0 : Int)), .sym .i64 ((0 : Int))], .sym .i64 ((2 : Int))]))
      (.req (inLg h)
      (.br (decide (u > vol h))
       (.leaf (.tup [.agg [.sym .i64 ((0 : Int)), .sym .i64 ((0 : Int))], .sym .i64 ((2 : Int))]))
       (.req (inLg h ∧ cE h l = (0 : Int))
       (.leaf (.tup [.agg [.sym .i64 (prLo h l a u), .sym .i64 (prHi h l a u)], .sym .i64 ((0 : Int))])))))))))) := by kernel_rfl
noncomputable def pE (h : List Seg) (l : List Slug) (a u : Int) : Int := if cE h l = 0 then (if within a 0 68719476736 = true ∧ within u 0 (vol h) = true then 0 else 2) else cE h l
noncomputable def pLo (h : List Seg) (l : List Slug) (a u : Int) : Int := if pE h l a u = 0 then prLo h l a u else 0
noncomputable def pHi (h : List Seg) (l : List Slug) (a u : Int) : Int := if pE h l a u = 0 then prHi h l a u else 0
theorem pV_e {h : List Seg} {l : List Slug} {a u e : Int} (he : pE h l a u = e) (h0 : e ≠ 0) : AV.tup [.agg [i64 0, i64 0], i64 e] = (.tup [.agg [i64 (pLo h l a u), i64 (pHi h l a u)], i64 (pE h l a u)] : AV T) := by
  unfold pLo pHi
  rw [he, if_neg h0, if_neg h0]
theorem pV_0 {h : List Seg} {l : List Slug} {a u : Int} (he : pE h l a u = 0) : AV.tup [.agg [i64 (prLo h l a u), i64 (prHi h l a u)], i64 0] = (.tup [.agg [i64 (pLo h l a u), i64 (pHi h l a u)], i64 (pE h l a u)] : AV T) := by
  unfold pLo pHi
  rw [he, if_pos rfl, if_pos rfl]
theorem s34 (h : List Seg) (l : List Slug) (a u : Int) (hL : inLg h ∧ inVm l) : (runX ctF noLoops 34 [.agg [.sl 52 h false], .sl 47 l false, i64 a, i64 u] [42, 26]).holds fun v => v = .tup [.agg [i64 (pLo h l a u), i64 (pHi h l a u)], i64 (pE h l a u)] := by
  rw [tv34]
  refine ⟨hL, wayNe (fun c => ?_) fun c => wayB (fun k => ?_) fun k => ⟨hL.1, wayB (fun k2 => ?_) fun k2 => ⟨⟨hL.1, c⟩, ?_⟩⟩⟩
  · exact pV_e (by unfold pE; rw [if_neg c]) c
  · exact pV_e (by unfold pE; rw [if_pos c, if_neg (fun q => by rw [q.1] at k; cases k)]) (by decide)
  · exact pV_e (by unfold pE; rw [if_pos c, if_neg (fun q => by rw [q.2] at k2; cases k2)]) (by decide)
  · exact pV_0 (by unfold pE; rw [if_pos c, if_pos ⟨by simpa using k, by simpa using k2⟩])
theorem s35 (h : List Seg) (l : List Slug) (a u : Int) (hL : inLg h ∧ inVm l) : (runX ctF noLoops 35 [.agg [.sl 52 h false], .sl 47 l false, i64 a, i64 u] [42, 26]).holds fun v => v = .tup [.agg [i64 (pLo h l a u), i64 (pHi h l a u)], i64 (pE h l a u)] := by
  rw [tv35]
  have no1 : ¬ (0 ≤ a ∧ a ≤ 68719476736) → cE h l = 0 → pE h l a u = 2 := fun q c => by unfold pE; rw [if_pos c, if_neg (fun w => q (of_decide_eq_true w.1))]
  have no2 : ¬ (0 ≤ u ∧ u ≤ vol h) → cE h l = 0 → pE h l a u = 2 := fun q c => by unfold pE; rw [if_pos c, if_neg (fun w => q (of_decide_eq_true w.2))]
  refine ⟨hL, wayNe (fun c => ?_) fun c => way (fun k => ?_) fun k => way (fun k1 => ?_) fun k1 => way (fun k2 => ?_) fun k2 => ⟨hL.1, way (fun k3 => ?_) fun k3 => ⟨⟨hL.1, c⟩, ?_⟩⟩⟩
  · exact pV_e (by unfold pE; rw [if_neg c]) c
  · exact pV_e (no1 (by omega) c) (by decide)
  · exact pV_e (no1 (by omega) c) (by decide)
  · exact pV_e (no2 (by omega) c) (by decide)
  · exact pV_e (no2 (by omega) c) (by decide)
  · exact pV_0 (by unfold pE; rw [if_pos c, if_pos ⟨decide_eq_true ⟨by omega, by omega⟩, decide_eq_true ⟨by omega, by omega⟩⟩])
noncomputable def cPress : Con T := conP Try.prog [shH, .one (.s 47), .one (.i .i64), .one (.i .i64)] [.l 52, .l 47, .n, .n] (fun d => inLg d.1 ∧ inVm d.2.1) fun d => .tup [.agg [i64 (pLo d.1 d.2.1 d.2.2.1 d.2.2.2.1), i64 (pHi d.1 d.2.1 d.2.2.1 d.2.2.2.1)], i64 (pE d.1 d.2.1 d.2.2.1 d.2.2.2.1)]
theorem press_ok : ConOk Try.prog E 34 cPress := conP_ok fun d hd => fact_run ctF_ok noLoops_ok (ts := [42, 26]) rfl (s34 d.1 d.2.1 d.2.2.1 d.2.2.2.1 hd)
theorem press2_ok : ConOk Try.prog E 35 cPress := conP_ok fun d hd => fact_run ctF_ok noLoops_ok (ts := [42, 26]) rfl (s35 d.1 d.2.1 d.2.2.1 d.2.2.2.1 hd)
noncomputable def ctG : CTab T := (34, cPress) :: (35, cPress) :: (73, cFloor) :: (74, cCeil) :: ctF
theorem ctG_ok : CTabOk Try.prog E ctG := .cons press_ok (.cons press2_ok (.cons floor_ok (.cons ceil_ok ctF_ok)))
end Go.Proofs.Ytnhedcaphncliaa.W.Hole
