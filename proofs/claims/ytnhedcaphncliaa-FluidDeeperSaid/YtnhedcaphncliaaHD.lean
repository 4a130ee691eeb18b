/- FluidDeeper. No condition. -/
import Derived.Test.YtnhedcaphncliaaHC
import Derived.Test.YtnhedcaphncliaaLFluidDeeper
set_option linter.unusedVariables false
set_option maxRecDepth 100000
set_option maxHeartbeats 4000000
noncomputable section
namespace Go.Proofs.Ytnhedcaphncliaa.W.Hole
open Go Go.Cx Go.RowKit
noncomputable def o13 (u : Int) (d : Int) (t : Int) (m : Int) (l : List Slug) (a : Int) (i : Int) (h : List Seg) : Tree (Ex × List (V T)) := .req ((0 ≤ i ∧ i ≤ l.length) ∧ Col l ∧ a = SV l i.toNat ∧ SV l i.toNat ≤ u ∧ u < SV l l.length) (.leaf (.exit 0, [.n u, .n d, .n t, .n m, .l 47 l, .n (SV l (jd l u (l.length - 1))), .l 52 h]))
noncomputable def c13 : LoopC T := ⟨[.n, .n, .n, .n, .l 47, .n, .n, .l 52], ⟨149, [(2, .one (.i .i64)), (3, .one (.i .i64)), (4, .one (.i .i64)), (5, .one (.i .i64)), (13, .one (.o 0 0)), (14, .one (.s 47)), (16, .one (.i .i64)), (17, .one (.i .i64))], [.c [.s 52]]⟩, fun _ => ⟨149, [(2, .one (.i .i64)), (3, .one (.i .i64)), (4, .one (.i .i64)), (5, .one (.i .i64)), (13, .one (.o 0 0)), (14, .one (.s 47)), (16, .one (.i .i64))], [.c [.s 52]]⟩, 30, fun d => o13 d.1 d.2.1 d.2.2.1 d.2.2.2.1 d.2.2.2.2.1 d.2.2.2.2.2.1 d.2.2.2.2.2.2.1 d.2.2.2.2.2.2.2.1⟩
theorem b13 (u : Int) (d : Int) (t : Int) (m : Int) (l : List Slug) (a : Int) (i : Int) (h : List Seg) : bodyD Try.prog E c13 0 (bodyX Try.prog E ctI noLoops 1000 5 L0 (lpOf Try.prog 13 0)) (u, d, t, m, l, a, i, h, ()) =
  (.br (decide (i < (↑(List.length l) : Int)))
   (.req ((decide ((0 : Int) ≤ i) && decide (i < (↑(List.length l) : Int))) = true)
   (.br (decide (IntKind.wrap IntKind.i64 (a + Slug.Volume (zi l i)) ≤ u))
    (.req ((decide ((0 : Int) ≤ i) && decide (i < (↑(List.length l) : Int))) = true)
    (.leaf (.inl (u, (d, (t, (m, (l, (IntKind.wrap IntKind.i64 (a + Slug.Volume (zi l i)), (IntKind.wrap IntKind.i64 (i + (1 : Int)), (h, ())))))))))))
    (.leaf (.inr (.exit (0 : Nat), [.n (u), .n (d), .n (t), .n (m), .l (47 : Nat) (l), .n (a), .l (52 : Nat) (h)])))))
   (.leaf (.inr (.exit (0 : Nat), [.n (u), .n (d), .n (t), .n (m), .l (47 : Nat) (l), .n (a), .l (52 : Nat) (h)])))) := by kernel_rfl
theorem n13 (u : Int) (d : Int) (t : Int) (m : Int) (l : List Slug) (a : Int) (i : Int) (h : List Seg) (K : Ex × List (V T) → Prop) (hI : (0 ≤ i ∧ i ≤ l.length) ∧ Col l ∧ a = SV l i.toNat ∧ SV l i.toNat ≤ u ∧ u < SV l l.length) (hK : (.leaf (.exit 0, [.n u, .n d, .n t, .n m, .l 47 l, .n (SV l (jd l u (l.length - 1))), .l 52 h]) : Tree (Ex × List (V T))).holds K) : (c13.out (u, d, t, m, l, a, i, h, ())).holds K := ⟨hI, hK⟩
theorem h13' (u : Int) (d : Int) (t : Int) (m : Int) (l : List Slug) (a : Int) (i : Int) (h : List Seg) (K : Ex × List (V T) → Prop) (hI : (0 ≤ i ∧ i ≤ l.length) ∧ Col l ∧ a = SV l i.toNat ∧ SV l i.toNat ≤ u ∧ u < SV l l.length) (hK : (.leaf (.exit 0, [.n u, .n d, .n t, .n m, .l 47 l, .n (SV l (jd l u (l.length - 1))), .l 52 h]) : Tree (Ex × List (V T))).holds K) :
    (bodyD Try.prog E c13 0 (bodyX Try.prog E ctI noLoops 1000 5 L0 (lpOf Try.prog 13 0)) (u, d, t, m, l, a, i, h, ())).holds fun y => match y with
    | .inl d => ((d.2.2.2.2.1.length : Int) - d.2.2.2.2.2.2.1).toNat < ((l.length : Int) - i).toNat ∧ (c13.out d).holds K
    | .inr y => K y := by
  rw [b13]
  obtain ⟨⟨h0, h1⟩, hc, rfl, hu, hv⟩ := hI
  obtain ⟨k, rfl⟩ := Int.eq_ofNat_of_zero_le h0
  have ln := hc.len
  rw [Int.toNat_natCast] at *
  have ks : k < l.length := by
    rcases Nat.lt_or_ge k l.length with q | q
    · exact q
    · have : SV l l.length ≤ SV l k := by rw [show k = l.length by omega]; exact Int.le_refl _
      omega
  have b0 := SV_bd hc (k := k + 1) (by omega)
  have e1 : IntKind.wrap IntKind.i64 (SV l k + (zi l (k : Int)).Volume) = SV l (k + 1) := i64_in' (show _ ≤ SV l (k + 1) by omega) (show SV l (k + 1) ≤ _ by omega)
  have e2 : IntKind.wrap IntKind.i64 ((k : Int) + 1) = ((k + 1 : Nat) : Int) := i64_in' (by omega) (by omega)
  rw [e1, e2]
  refine way (fun c => wayC h0 c fun _ _ => way (fun c2 => wayC h0 c fun _ _ => ?_) fun c2 => ?_) fun c => absurd (by omega) c
  · have g2 : ((l.length : Int) - ((k + 1 : Nat) : Int)).toNat < ((l.length : Int) - (k : Int)).toNat := by omega
    exact ⟨g2, n13 _ _ _ _ _ _ _ _ K ⟨⟨by omega, by omega⟩, hc, by rw [Int.toNat_natCast], by rw [Int.toNat_natCast]; exact c2, hv⟩ hK⟩
  · rw [jd_eq hc ks (.inr hu) (.inr (by omega))] at hK
    exact hK
theorem h13 : LoopH Try.prog E c13 0 (bodyX Try.prog E ctI noLoops 1000 5 L0 (lpOf Try.prog 13 0)) :=
  ⟨fun d => ((d.2.2.2.2.1.length : Int) - d.2.2.2.2.2.2.1).toNat, fun dd K hK => by
    obtain ⟨u, d, t, m, l, a, i, h, ⟨⟩⟩ := dd
    obtain ⟨hI, hK⟩ := hK
    refine Tree.holds_mono (fun y hy => ?_) (h13' u d t m l a i h K hI hK)
    cases y with
    | inl d' => exact hy
    | inr y => exact hy⟩
theorem ll13 : LLOk Try.prog E (llOfN Try.prog E 13 0 [(7, c13)]) := llOfN_ok fun i hi c hc => by
  have hi : i < 1 := hi
  obtain rfl : i = 0 := by omega
  obtain rfl : c13 = c := Option.some.inj hc
  exact LSndN.mk good names mixes ctI_ok (by decide) h13
theorem tv13 (x y : List Int) (u d t m : Int) : runX ctI (llOfN Try.prog E 13 0 [(7, c13)]) 13 [.sl 2 x false, .sl 2 y false, i64 u, i64 d, i64 t, i64 m] [4] =
  (.req (inLg (ann x))
  (.req (List.length (colN (ann x) y) ≤ (1000 : Nat))
  (.req (mPre u (hel (colN (ann x) y)))
  (.req (mPre t (17179869184 : Int))
  (.req (mPre m (17179869184 : Int))
  (.req (((0 : Int) ≤ (0 : Int) ∧ (0 : Int) ≤ (↑(List.length (colN (ann x) y)) : Int)) ∧ Col (colN (ann x) y) ∧ (0 : Int) = SV (colN (ann x) y) (Int.toNat (0 : Int)) ∧ SV (colN (ann x) y) (Int.toNat (0 : Int)) ≤ u % hel (colN (ann x) y) ∧ u % hel (colN (ann x) y) < SV (colN (ann x) y) (List.length (colN (ann x) y)))
  (.req (mPre d (IntKind.wrap IntKind.i64 (IntKind.wrap IntKind.i64 (u % hel (colN (ann x) y) - SV (colN (ann x) y) (jd (colN (ann x) y) (u % hel (colN (ann x) y)) (List.length (colN (ann x) y) - (1 : Nat)))) + (1 : Int))))
  (.req (inLg (ann x) ∧ inVm (colN (ann x) y))
  (.req (inLg (ann x) ∧ inVm (colN (ann x) y))
  (.req (inLg (ann x) ∧ inVm (colN (ann x) y))
  (.br (pE (ann x) (colN (ann x) y) (t % (17179869184 : Int)) (u % hel (colN (ann x) y)) == (0 : Int))
   (.br (pE (ann x) (colN (ann x) y) (t % (17179869184 : Int)) (IntKind.wrap IntKind.i64 (SV (colN (ann x) y) (jd (colN (ann x) y) (u % hel (colN (ann x) y)) (List.length (colN (ann x) y) - (1 : Nat))) + d % IntKind.wrap IntKind.i64 (IntKind.wrap IntKind.i64 (u % hel (colN (ann x) y) - SV (colN (ann x) y) (jd (colN (ann x) y) (u % hel (colN (ann x) y)) (List.length (colN (ann x) y) - (1 : Nat)))) + (1 : Int)))) == (0 : Int))
    (.br (pE (ann x) (colN (ann x) y) (IntKind.wrap IntKind.i64 (t % (17179869184 : Int) + m % (17179869184 : Int))) (u % hel (colN (ann x) y)) == (0 : Int))
     (.br (decide (pLo (ann x) (colN (ann x) y) (t % (17179869184 : Int)) (IntKind.wrap IntKind.i64 (SV (colN (ann x) y) (jd (colN (ann x) y) (u % hel (colN (ann x) y)) (List.length (colN (ann x) y) - (1 : Nat))) + d % IntKind.wrap IntKind.i64 (IntKind.wrap IntKind.i64 (u % hel (colN (ann x) y) - SV (colN (ann x) y) (jd (colN (ann x) y) (u % hel (colN (ann x) y)) (List.length (colN (ann x) y) - (1 : Nat)))) + (1 : Int)))) ≥ pLo (ann x) (colN (ann x) y) (t % (17179869184 : Int)) (u % hel (colN (ann x) y))))
      (.br (decide (pHi (ann x) (colN (ann x) y) (t % (17179869184 : Int)) (IntKind.wrap IntKind.i64 (SV (colN (ann x) y) (jd (colN (ann x) y) (u % hel (colN (ann x) y)) (List.length (colN (ann x) y) - (1 : Nat))) + d % IntKind.wrap IntKind.i64 (IntKind.wrap IntKind.i64 (u % hel (colN (ann x) y) - SV (colN (ann x) y) (jd (colN (ann x) y) (u % hel (colN (ann x) y)) (List.length (colN (ann x) y) - (1 : Nat)))) + (1 : Int)))) ≥ pHi (ann x) (colN (ann x) y) (t % (17179869184 : Int)) (u % hel (colN (ann x) y))))
       (.br (IntKind.wrap IntKind.i64 (pLo (ann x) (colN (ann x) y) (IntKind.wrap IntKind.i64 (t % (17179869184 : Int) + m % (17179869184 : Int))) (u % hel (colN (ann x) y)) - pLo (ann x) (colN (ann x) y) (t % (17179869184 : Int)) (u % hel (colN (ann x) y))) == m % (17179869184 : Int))
        (.br (IntKind.wrap IntKind.i64 (pHi (ann x) (colN (ann x) y) (IntKind.wrap IntKind.i64 (t % (17179869184 : Int) + m % (17179869184 : Int))) (u % hel (colN (ann x) y)) - pHi (ann x) (colN (ann x) y) (t % (17179869184 : Int)) (u % hel (colN (ann x) y))) == m % (17179869184 : Int))
         (.br (decide (pLo (ann x) (colN (ann x) y) (t % (17179869184 : Int)) (u % hel (colN (ann x) y)) ≤ pHi (ann x) (colN (ann x) y) (t % (17179869184 : Int)) (u % hel (colN (ann x) y))))
          (.leaf (.bool (true)))
          (.leaf (.bool (false))))
         (.leaf (.bool (false))))
        (.leaf (.bool (false))))
       (.leaf (.bool (false))))
      (.leaf (.bool (false))))
     (.leaf (.bool (false))))
    (.leaf (.bool (false))))
   (.leaf (.bool (false)))))))))))))) := by kernel_rfl
theorem GL_same {l : List Slug} {J : List Knot} {u v : Int} : ∀ m : Nat, (∀ k : Nat, k < m → (SV l (k + 1) > u ↔ SV l (k + 1) > v)) → GL l J u m = GL l J v m ∧ GH l J u m = GH l J v m
  | 0, _ => ⟨rfl, rfl⟩
  | m + 1, h => by
    obtain ⟨a, b⟩ := GL_same (J := J) m fun k hk => h k (by omega)
    have c := h m (by omega)
    have f : ∀ p : Int, (if SV l (m + 1) > u then p else 0) = (if SV l (m + 1) > v then p else 0) := fun p => by
      by_cases q : SV l (m + 1) > u
      · rw [if_pos q, if_pos (c.1 q)]
      · rw [if_neg q, if_neg fun r => q (c.2 r)]
    constructor
    · show GL l J u m + _ = GL l J v m + _
      rw [a, f]
    · show GH l J u m + _ = GH l J v m + _
      rw [b, f]
theorem tl_le {w a b : Int} (h : a ≤ b) : tl w a b ≤ th w a b := by
  unfold tl th
  by_cases c : w < 0
  · rw [if_pos c, if_pos c]
    exact Int.mul_le_mul_of_nonpos_left (by omega) h
  · rw [if_neg c, if_neg c]
    exact Int.mul_le_mul_of_nonneg_left h (by omega)
theorem GL_le {h : List Seg} {l : List Slug} {u : Int} (c : hE h = 0) : ∀ m : Nat, GL l (hl h) u m ≤ GH l (hl h) u m
  | 0 => Int.le_refl _
  | m + 1 => by
    have ih := GL_le (l := l) (u := u) c m
    have t := tl_le (w := (zi l (m : Int)).Weight - (zi l ((m : Int) + 1)).Weight) (at_bd c (SV l (m + 1))).2.1
    show GL l (hl h) u m + (if SV l (m + 1) > u then tl _ _ _ else 0) ≤ GH l (hl h) u m + (if SV l (m + 1) > u then th _ _ _ else 0)
    split <;> omega
theorem down {w a b a' b' : Int} (hw : 0 ≤ w) (ha : a' ≤ a) (hb : b' ≤ b) : tl (-w) a b ≤ tl (-w) a' b' ∧ th (-w) a b ≤ th (-w) a' b' := by
  unfold tl th
  by_cases c : -w < 0
  · rw [if_pos c, if_pos c, if_pos c, if_pos c]
    exact ⟨Int.mul_le_mul_of_nonpos_left (by omega) hb, Int.mul_le_mul_of_nonpos_left (by omega) ha⟩
  · rw [if_neg c, if_neg c, if_neg c, if_neg c]
    obtain rfl : w = 0 := by omega
    exact ⟨by omega, by omega⟩
theorem pE_yes {h : List Seg} {l : List Slug} {a u : Int} (c : cE h l = 0) (ha : 0 ≤ a ∧ a ≤ 68719476736) (hu : 0 ≤ u ∧ u ≤ vol h) : pE h l a u = 0 := by
  unfold pE
  rw [if_pos c, if_pos ⟨decide_eq_true ha, decide_eq_true hu⟩]
theorem p_x {h : List Seg} {l : List Slug} {a u : Int} (c : pE h l a u = 0) : pLo h l a u = xLo h l a u ∧ pHi h l a u = xHi h l a u := by
  obtain ⟨c1, c2, _⟩ := pE_0 c
  obtain ⟨e1, e2, _⟩ := pr_x (u := u) c1 c2
  unfold pLo pHi
  rw [if_pos c, if_pos c]
  exact ⟨e1, e2⟩
theorem x_more (h : List Seg) (l : List Slug) (a m u : Int) : xLo h l (a + m) u = xLo h l a u + m ∧ xHi h l (a + m) u = xHi h l a u + m := by
  unfold xLo xHi top0
  omega
theorem x_le {h : List Seg} {l : List Slug} {a u : Int} (c : hE h = 0) : xLo h l a u ≤ xHi h l a u := by
  have g := GL_le (l := l) (u := u) c (l.length - 1)
  have t := tl_le (w := -(zi l (jd l u (l.length - 1) : Int)).Weight) (at_bd c u).2.1
  unfold xLo xHi
  omega
theorem x_deep {h : List Seg} {l : List Slug} {a u v : Int} (c : cE h l = 0) (hv : SV l (jd l u (l.length - 1)) ≤ v ∧ v ≤ u) (hu : 0 ≤ u ∧ u < SV l l.length) : xLo h l a u ≤ xLo h l a v ∧ xHi h l a u ≤ xHi h l a v := by
  have hc := col_of c
  have hn := hc.len
  -- the slug
  obtain ⟨j, hj, h1, h2⟩ : ∃ j : Nat, j < l.length ∧ SV l j ≤ u ∧ u < SV l (j + 1) := by
    have key : ∀ n : Nat, n ≤ l.length → u < SV l n → ∃ j : Nat, j < n ∧ SV l j ≤ u ∧ u < SV l (j + 1) := by
      intro n
      induction n with
      | zero => intro _ q; have q : u < 0 := q; omega
      | succ n ih =>
        intro hn q
        by_cases k : u < SV l n
        · obtain ⟨j, a, b⟩ := ih (by omega) k
          exact ⟨j, by omega, b⟩
        · exact ⟨n, by omega, by omega, q⟩
    exact key _ (Nat.le_refl _) hu.2
  have ju := jd_eq (u := u) hc hj (.inr h1) (.inr h2)
  rw [ju] at hv
  have jv := jd_eq (u := v) hc hj (.inr hv.1) (.inr (by omega))
  obtain ⟨g1, g2⟩ := GL_same (l := l) (J := hl h) (u := u) (v := v) (l.length - 1) fun k hk => by
    rcases Nat.lt_or_ge k j with q | q
    · have := SV_up hc (j := k + 1) (k := j) (by omega) (by omega)
      omega
    · have := SV_up hc (j := j + 1) (k := k + 1) (by omega) (by omega)
      omega
  have w := (hc.wt j hj).1
  have up := at_up (cE_len c).1 hv.2
  have d := down w up.1 up.2
  unfold xLo xHi
  rw [ju, jv, g1, g2]
  omega
theorem jd_at {l : List Slug} {u : Int} (h : 0 ≤ u) : ∀ n : Nat, SV l (jd l u n) ≤ u
  | 0 => h
  | n + 1 => by
    show SV l (if SV l (n + 1) ≤ u then n + 1 else jd l u n) ≤ u
    split
    · assumption
    · exact jd_at h n
theorem s13 (x y : List Int) (u d t m : Int) : (runX ctI (llOfN Try.prog E 13 0 [(7, c13)]) 13 [.sl 2 x false, .sl 2 y false, i64 u, i64 d, i64 t, i64 m] [4]).holds fun v => v = .bool true := by
  rw [tv13]
  have hx := (ann_ok' x).1
  have hi := ann_in x
  obtain ⟨⟨c, hl'⟩, hs⟩ := col_bd y hx
  have v := vol_bd (ann x)
  have vp := vol_pos hx
  have eh : hel (colN (ann x) y) = vol (ann x) := by unfold hel; rw [hs]; exact i64_in' (by omega) (by omega)
  have mp : mPre u (vol (ann x)) := by unfold mPre; omega
  have mt : mPre t 17179869184 := by unfold mPre; omega
  have mm : mPre m 17179869184 := by unfold mPre; omega
  have u1 := Int.emod_nonneg u (b := vol (ann x)) (by omega)
  have u2 := Int.emod_lt_of_pos u (b := vol (ann x)) (by omega)
  have t1 : 0 ≤ t % 17179869184 ∧ t % 17179869184 < 17179869184 := by omega
  have m1 : 0 ≤ m % 17179869184 ∧ m % 17179869184 < 17179869184 := by omega
  rw [eh]
  generalize u % vol (ann x) = U at *
  generalize t % 17179869184 = P at *
  generalize m % 17179869184 = M at *
  have col := col_of c
  generalize colN (ann x) y = l at *
  generalize ann x = h at *
  have sv : SV l l.length = vol h := by
    have e := SV_sum l l.length (Nat.le_refl _)
    rw [List.drop_length] at e
    have z : sumV ([] : List Slug) = 0 := rfl
    omega
  have ja := jd_at (l := l) u1 (l.length - 1)
  have jl := jd_le l U (l.length - 1)
  have jb := SV_bd col (k := jd l U (l.length - 1)) (by have := col.len; omega)
  have S0 : (0 : Int) = SV l (Int.toNat 0) ∧ SV l (Int.toNat 0) ≤ U := ⟨rfl, u1⟩
  have deep := fun w => x_deep (a := P) (u := U) (v := w) c
  generalize SV l (jd l U (l.length - 1)) = A at *
  have e1 : IntKind.wrap IntKind.i64 (U - A) = U - A := i64_in' (by omega) (by omega)
  have e2 : IntKind.wrap IntKind.i64 (U - A + 1) = U - A + 1 := i64_in' (by omega) (by omega)
  have e3 : IntKind.wrap IntKind.i64 (P + M) = P + M := i64_in' (by omega) (by omega)
  rw [e1, e2, e3]
  have d1 := Int.emod_nonneg d (b := U - A + 1) (by omega)
  have d2 := Int.emod_lt_of_pos d (b := U - A + 1) (by omega)
  have md : mPre d (U - A + 1) := by unfold mPre; omega
  generalize d % (U - A + 1) = D at *
  have e4 : IntKind.wrap IntKind.i64 (A + D) = A + D := i64_in' (by omega) (by omega)
  rw [e4]
  have pu := pE_yes (a := P) (u := U) c (by omega) (by omega)
  have pd := pE_yes (a := P) (u := A + D) c (by omega) (by omega)
  have pm := pE_yes (a := P + M) (u := U) c (by omega) (by omega)
  have xu := p_x pu
  have xd := p_x pd
  have xm := p_x pm
  have more := x_more h l P M U
  have le := x_le (l := l) (a := P) (u := U) hx
  have dp := deep (A + D) ⟨by omega, by omega⟩ ⟨by omega, by omega⟩
  have f1 : IntKind.wrap IntKind.i64 (pLo h l (P + M) U - pLo h l P U) = M := by
    rw [xu.1, xm.1, more.1, show xLo h l P U + M - xLo h l P U = M by omega]
    exact i64_in' (by omega) (by omega)
  have f2 : IntKind.wrap IntKind.i64 (pHi h l (P + M) U - pHi h l P U) = M := by
    rw [xu.2, xm.2, more.2, show xHi h l P U + M - xHi h l P U = M by omega]
    exact i64_in' (by omega) (by omega)
  exact ⟨hi, by omega, mp, mt, mm, ⟨⟨by omega, by omega⟩, col, S0.1, S0.2, by omega⟩, md, ⟨hi, cE_in c⟩, ⟨hi, cE_in c⟩, ⟨hi, cE_in c⟩, wayEq (fun _ => wayEq (fun _ => wayEq (fun _ => way (fun _ => way (fun _ => wayEq (fun _ => wayEq (fun _ => way (fun _ => rfl) fun k => absurd (by omega) k) fun k => absurd f2 k) fun k => absurd f1 k) fun k => absurd (by omega) k) fun k => absurd (by omega) k) fun k => absurd pm k) fun k => absurd pd k) fun k => absurd pu k⟩
theorem fluidDeeper_proved : Rows.FluidDeeperSaid := fluidDeeper_said fun x y u d t m _ _ _ _ _ _ => fact_run ctI_ok ll13 (ts := [4]) rfl (s13 x y u d t m)
end Go.Proofs.Ytnhedcaphncliaa.W.Hole
