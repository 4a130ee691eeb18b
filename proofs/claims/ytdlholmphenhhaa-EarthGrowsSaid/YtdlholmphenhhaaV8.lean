/- What points of a bound allow, and ask for. No condition. -/
import Derived.Test.YtdlholmphenhhaaV7
set_option linter.unusedVariables false
set_option maxRecDepth 100000
noncomputable section
namespace Go.Proofs.Ytdlholmphenhhaa.W
open Go Go.Cx Go.RowKit
noncomputable def fdK (pk : Int → Int → Int) (f : Knot → Int) (a : Int) : List Knot → Int
  | [] => a
  | k :: l => fdK pk f (pk a (f k)) l
theorem fdK_cons {pk : Int → Int → Int} {f : Knot → Int} {a : Int} {k : Knot} {l : List Knot} : fdK pk f a (k :: l) = fdK pk f (pk a (f k)) l := rfl
noncomputable def up (glo ghi z : Int) (k : Knot) : Int := if z < k.At then k.V - glo * (k.At - z) else k.V + ghi * (z - k.At)
noncomputable def dn (glo ghi z : Int) (k : Knot) : Int := if z < k.At then k.V - ghi * (k.At - z) else k.V + glo * (z - k.At)
@[reducible] def kOk (k : Knot) : Prop := (0 ≤ k.At ∧ k.At ≤ 1048576) ∧ 0 ≤ k.V ∧ k.V ≤ 68719476736
@[reducible] def gOk (glo ghi z : Int) : Prop := (0 ≤ z ∧ z ≤ 1048576) ∧ (0 ≤ glo ∧ glo ≤ 40000) ∧ 0 ≤ ghi ∧ ghi ≤ 40000
theorem g_lt {g z : Int} {k : Knot} (hk : kOk k) (hg : 0 ≤ g ∧ g ≤ 40000) (hz : 0 ≤ z ∧ z ≤ 1048576) (h : z < k.At) : IntKind.wrap IntKind.i64 (k.At - z) = k.At - z ∧ IntKind.wrap IntKind.i64 (g * (k.At - z)) = g * (k.At - z) ∧ IntKind.wrap IntKind.i64 (k.V - g * (k.At - z)) = k.V - g * (k.At - z) := by
  have m := mulb hg.1 hg.2 (show 0 ≤ k.At - z by omega) (show k.At - z ≤ 1048576 by omega)
  exact ⟨i64_in' (by omega) (by omega), i64_in' (by omega) (by omega), i64_in' (by omega) (by omega)⟩
theorem g_ge {g z : Int} {k : Knot} (hk : kOk k) (hg : 0 ≤ g ∧ g ≤ 40000) (hz : 0 ≤ z ∧ z ≤ 1048576) (h : k.At ≤ z) : IntKind.wrap IntKind.i64 (z - k.At) = z - k.At ∧ IntKind.wrap IntKind.i64 (g * (z - k.At)) = g * (z - k.At) ∧ IntKind.wrap IntKind.i64 (k.V + g * (z - k.At)) = k.V + g * (z - k.At) := by
  have m := mulb hg.1 hg.2 (show 0 ≤ z - k.At by omega) (show z - k.At ≤ 1048576 by omega)
  exact ⟨i64_in' (by omega) (by omega), i64_in' (by omega) (by omega), i64_in' (by omega) (by omega)⟩
theorem fdK_mn {f : Knot → Int} {c : Int} : ∀ (l : List Knot) (a : Int), fdK mn f (mn a c) l = mn (fdK mn f a l) c
  | [], a => rfl
  | k :: l, a => by
    rw [fdK_cons, fdK_cons, ← fdK_mn l]
    congr 1
    unfold mn
    repeat' split
    all_goals omega
theorem fdK_mx {f : Knot → Int} {c : Int} : ∀ (l : List Knot) (a : Int), fdK mx f (mx a c) l = mx (fdK mx f a l) c
  | [], a => rfl
  | k :: l, a => by
    rw [fdK_cons, fdK_cons, ← fdK_mx l]
    congr 1
    unfold mx
    repeat' split
    all_goals omega
@[reducible] noncomputable def shC : List Sh0 := [.i .i64, .s 78, .s 78, .s 78, .s 78, .i .i64, .i .i64, .s 55]
@[reducible] def lOk (glo ghi z : Int) (l : List Knot) : Prop := gOk glo ghi z ∧ (∀ k ∈ l, kOk k) ∧ l.length ≤ 3000

/-! ### up -/
noncomputable def o126up (a z glo ghi : Int) (l : List Knot) (n i : Int) : Tree (Ex × List (V T)) :=
  .req ((0 ≤ i ∧ n = l.length) ∧ lOk glo ghi z l) (.leaf (.exit 0, [.n (fdK mn (up glo ghi z) a (l.drop i.toNat))]))
noncomputable def c126up : LoopC T := ⟨[.n, .n, .n, .l 78, .l 78, .l 78, .l 78, .n, .n, .l 55, .l 78, .n, .n], ⟨21, [(1, .one (.i .i64)), (2, .fn 129 [.r [.i .i64], .r shC]), (9, .one (.s 78)), (10, .one (.i .i64)), (11, .one (.i .i64))], []⟩,
  fun _ => ⟨21, [(1, .one (.i .i64))], []⟩, 10, fun d => o126up d.1 d.2.1 d.2.2.2.2.2.2.2.1 d.2.2.2.2.2.2.2.2.1 d.2.2.2.2.2.2.2.2.2.2.1 d.2.2.2.2.2.2.2.2.2.2.2.1 d.2.2.2.2.2.2.2.2.2.2.2.2.1⟩
theorem b126up (a z b : Int) (p q r s : List Knot) (glo ghi : Int) (rs : List Report) (l : List Knot) (n i : Int) : bodyD Try.prog E c126up 0 (bodyX Try.prog E ctB noLoops 1000 5 L0 (lpOf Try.prog 126 0)) (a, z, b, p, q, r, s, glo, ghi, rs, l, n, i, ()) =
  (.br (decide (i < n))
   (.req ((decide ((0 : Int) ≤ i) && decide (i < (↑(List.length l) : Int))) = true)
   (.br (decide (z < Knot.At (kn l i)))
    (.leaf (.inl (bif false then if IntKind.wrap IntKind.i64 (Knot.V (kn l i) - IntKind.wrap IntKind.i64 (glo * IntKind.wrap IntKind.i64 (Knot.At (kn l i) - z))) > a then IntKind.wrap IntKind.i64 (Knot.V (kn l i) - IntKind.wrap IntKind.i64 (glo * IntKind.wrap IntKind.i64 (Knot.At (kn l i) - z))) else a else if IntKind.wrap IntKind.i64 (Knot.V (kn l i) - IntKind.wrap IntKind.i64 (glo * IntKind.wrap IntKind.i64 (Knot.At (kn l i) - z))) < a then IntKind.wrap IntKind.i64 (Knot.V (kn l i) - IntKind.wrap IntKind.i64 (glo * IntKind.wrap IntKind.i64 (Knot.At (kn l i) - z))) else a, (z, (b, (p, (q, (r, (s, (glo, (ghi, (rs, (l, (n, (IntKind.wrap IntKind.i64 (i + (1 : Int)), ())))))))))))))))
    (.leaf (.inl (bif false then if IntKind.wrap IntKind.i64 (Knot.V (kn l i) + IntKind.wrap IntKind.i64 (ghi * IntKind.wrap IntKind.i64 (z - Knot.At (kn l i)))) > a then IntKind.wrap IntKind.i64 (Knot.V (kn l i) + IntKind.wrap IntKind.i64 (ghi * IntKind.wrap IntKind.i64 (z - Knot.At (kn l i)))) else a else if IntKind.wrap IntKind.i64 (Knot.V (kn l i) + IntKind.wrap IntKind.i64 (ghi * IntKind.wrap IntKind.i64 (z - Knot.At (kn l i)))) < a then IntKind.wrap IntKind.i64 (Knot.V (kn l i) + IntKind.wrap IntKind.i64 (ghi * IntKind.wrap IntKind.i64 (z - Knot.At (kn l i)))) else a, (z, (b, (p, (q, (r, (s, (glo, (ghi, (rs, (l, (n, (IntKind.wrap IntKind.i64 (i + (1 : Int)), ())))))))))))))))))
   (.leaf (.inr (.exit (0 : Nat), [.n (a)])))) := by kernel_rfl
theorem h126up' (a z b : Int) (p q r s : List Knot) (glo ghi : Int) (rs : List Report) (l : List Knot) (i : Nat) (K : Ex × List (V T) → Prop) (hl : lOk glo ghi z l) (hK : K (.exit 0, [.n (fdK mn (up glo ghi z) a (l.drop i))])) :
    (bodyD Try.prog E c126up 0 (bodyX Try.prog E ctB noLoops 1000 5 L0 (lpOf Try.prog 126 0)) (a, z, b, p, q, r, s, glo, ghi, rs, l, (l.length : Int), (i : Int), ())).holds fun y => match y with
    | .inl d => ((d.2.2.2.2.2.2.2.2.2.2.1.length : Int) - d.2.2.2.2.2.2.2.2.2.2.2.2.1).toNat < ((l.length : Int) - (i : Int)).toNat ∧ (c126up.out d).holds K
    | .inr y => K y := by
  rw [b126up]
  obtain ⟨hg, hk, hn⟩ := hl
  refine way (fun c => wayC (by omega) c fun _ _ => ?_) fun c => ?_
  · have e2 : IntKind.wrap IntKind.i64 ((i : Int) + 1) = ((i + 1 : Nat) : Int) := i64_in' (by omega) (by omega)
    rw [e2]
    rw [drop_kn (by omega), fdK_cons] at hK
    have ko := hk _ (kn_mem (l := l) (i := i) (by omega))
    have hlt : ((l.length : Int) - ((i + 1 : Nat) : Int)).toNat < ((l.length : Int) - (i : Int)).toNat := by omega
    have h3 : (0 : Int) ≤ ((i + 1 : Nat) : Int) := by omega
    refine way (fun k => ?_) fun k => ?_
    · obtain ⟨w1, w2, w3⟩ := g_lt (g := glo) ko (by omega) hg.1 k
      rw [w1, w2, w3]
      refine ⟨hlt, ⟨⟨h3, rfl⟩, hg, hk, hn⟩, ?_⟩
      unfold up at hK
      rw [if_pos k] at hK
      exact hK
    · obtain ⟨w1, w2, w3⟩ := g_ge (g := ghi) ko (by omega) hg.1 (show (kn l i).At ≤ z by omega)
      rw [w1, w2, w3]
      refine ⟨hlt, ⟨⟨h3, rfl⟩, hg, hk, hn⟩, ?_⟩
      unfold up at hK
      rw [if_neg k] at hK
      exact hK
  · rw [List.drop_eq_nil_of_le (by omega)] at hK
    exact hK
theorem h126up : LoopH Try.prog E c126up 0 (bodyX Try.prog E ctB noLoops 1000 5 L0 (lpOf Try.prog 126 0)) :=
  ⟨fun d => ((d.2.2.2.2.2.2.2.2.2.2.1.length : Int) - d.2.2.2.2.2.2.2.2.2.2.2.2.1).toNat, fun d K hK => by
    obtain ⟨a, z, b, p, q, r, s, glo, ghi, rs, l, n, i, ⟨⟩⟩ := d
    obtain ⟨⟨⟨k1, k2⟩, k3⟩, k4⟩ := hK
    obtain ⟨m, hm⟩ := Int.eq_ofNat_of_zero_le k1
    obtain rfl : i = (m : Int) := hm
    obtain rfl : n = ((l : List Knot).length : Int) := k2
    refine Tree.holds_mono (fun y hy => ?_) (h126up' a z b p q r s glo ghi rs l m K k3 k4)
    cases y with
    | inl d' => exact hy
    | inr y => exact hy⟩
theorem ll126up : LLOk Try.prog E (llOf Try.prog E 126 [(2, c126up)]) := llOf_ok fun i hi c hc => by
  have hi : i < 1 := hi
  obtain rfl : i = 0 := by omega
  obtain rfl : c126up = c := Option.some.inj hc
  exact LSnd.mk good names mixes ctB_ok (by decide) h126up
theorem tv126up (l : List Knot) (a z : Int) (e : Earth) : runX ctB (llOf Try.prog E 126 [(2, c126up)]) 126 [.sl 78 l false, i64 a, .fn 129 [.rp [i64 z], .rp e.cs]] [2] =
  (.req (((0 : Int) ≤ (0 : Int) ∧ (↑(List.length l) : Int) = (↑(List.length l) : Int)) ∧ lOk (Earth.GLo e) (Earth.GHi e) z l)
  (.leaf (.sym .i64 (fdK mn (up (Earth.GLo e) (Earth.GHi e) z) a (List.drop (Int.toNat (0 : Int)) l))))) := by kernel_rfl
theorem s126up (l : List Knot) (a z : Int) (e : Earth) (h : lOk e.GLo e.GHi z l) : (runX ctB (llOf Try.prog E 126 [(2, c126up)]) 126 [.sl 78 l false, i64 a, .fn 129 [.rp [i64 z], .rp e.cs]] [2]).holds fun v => v = i64 (fdK mn (up e.GLo e.GHi z) a l) := by
  rw [tv126up]
  exact ⟨⟨⟨by decide, rfl⟩, h⟩, rfl⟩
noncomputable def cFoldKup : Con T := conFP Try.prog E [22, 2, 138] [.one (.s 78), .one (.i .i64), .fn 129 [.r [.i .i64], .r shC]] [.l 78, .n, .n, .n, .l 78, .l 78, .l 78, .l 78, .n, .n, .l 55] (fun d => lOk d.2.2.2.2.2.2.2.2.1 d.2.2.2.2.2.2.2.2.2.1 d.2.2.1 d.1) fun d => i64 (fdK mn (up d.2.2.2.2.2.2.2.2.1 d.2.2.2.2.2.2.2.2.2.1 d.2.2.1) d.2.1 d.1)
theorem okFoldKup : ConOk Try.prog E 126 cFoldKup := conFP_ok good decOk fun d hd => fact_run3 ctB_ok ll126up (ts := [2]) rfl (s126up d.1 d.2.1 d.2.2.1 ⟨d.2.2.2.1, ⟨d.2.2.2.2.1⟩, ⟨d.2.2.2.2.2.1⟩, ⟨d.2.2.2.2.2.2.1⟩, ⟨d.2.2.2.2.2.2.2.1⟩, d.2.2.2.2.2.2.2.2.1, d.2.2.2.2.2.2.2.2.2.1, d.2.2.2.2.2.2.2.2.2.2.1⟩ hd)
/-- The reference. -/
noncomputable def o100up (l : List Knot) (z a i glo ghi : Int) : Tree (Ex × List (V T)) :=
  .req (0 ≤ i ∧ lOk glo ghi z l) (.leaf (.exit 0, [.n (fdK mn (up glo ghi z) a (l.drop i.toNat))]))
noncomputable def c100up : LoopC T := ⟨[.l 78, .n, .n, .n, .n, .l 78, .l 78, .l 78, .l 78, .n, .n, .l 55], ⟨60, [(1, .one (.s 78)), (2, .one (.i .i64)), (3, .one (.i .i64)), (4, .one (.o 0 0)), (9, .one (.i .i64))], [.c cellsE]⟩,
  fun _ => ⟨60, [(3, .one (.i .i64))], []⟩, 10, fun d => o100up d.1 d.2.1 d.2.2.1 d.2.2.2.1 d.2.2.2.2.2.2.2.2.2.1 d.2.2.2.2.2.2.2.2.2.2.1⟩
theorem b100up (l : List Knot) (z a i b : Int) (p q r s : List Knot) (glo ghi : Int) (rs : List Report) : bodyD Try.prog E c100up 0 (bodyX Try.prog E ctB noLoops 1000 5 L0 (lpOf Try.prog 100 0)) (l, z, a, i, b, p, q, r, s, glo, ghi, rs, ()) =
  (.br (decide (i < (↑(List.length l) : Int)))
   (.req ((decide ((0 : Int) ≤ i) && decide (i < (↑(List.length l) : Int))) = true)
   (.br (decide (z ≥ Knot.At (kn l i)))
    (.req ((decide ((0 : Int) ≤ i) && decide (i < (↑(List.length l) : Int))) = true)
    (.req ((decide ((0 : Int) ≤ i) && decide (i < (↑(List.length l) : Int))) = true)
    (.leaf (.inl (l, (z, (bif false then if IntKind.wrap IntKind.i64 (Knot.V (kn l i) + IntKind.wrap IntKind.i64 (ghi * IntKind.wrap IntKind.i64 (z - Knot.At (kn l i)))) > a then IntKind.wrap IntKind.i64 (Knot.V (kn l i) + IntKind.wrap IntKind.i64 (ghi * IntKind.wrap IntKind.i64 (z - Knot.At (kn l i)))) else a else if IntKind.wrap IntKind.i64 (Knot.V (kn l i) + IntKind.wrap IntKind.i64 (ghi * IntKind.wrap IntKind.i64 (z - Knot.At (kn l i)))) < a then IntKind.wrap IntKind.i64 (Knot.V (kn l i) + IntKind.wrap IntKind.i64 (ghi * IntKind.wrap IntKind.i64 (z - Knot.At (kn l i)))) else a, (IntKind.wrap IntKind.i64 (i + (1 : Int)), (b, (p, (q, (r, (s, (glo, (ghi, (rs, ()))))))))))))))))
    (.req ((decide ((0 : Int) ≤ i) && decide (i < (↑(List.length l) : Int))) = true)
    (.req ((decide ((0 : Int) ≤ i) && decide (i < (↑(List.length l) : Int))) = true)
    (.leaf (.inl (l, (z, (bif false then if IntKind.wrap IntKind.i64 (Knot.V (kn l i) - IntKind.wrap IntKind.i64 (glo * IntKind.wrap IntKind.i64 (Knot.At (kn l i) - z))) > a then IntKind.wrap IntKind.i64 (Knot.V (kn l i) - IntKind.wrap IntKind.i64 (glo * IntKind.wrap IntKind.i64 (Knot.At (kn l i) - z))) else a else if IntKind.wrap IntKind.i64 (Knot.V (kn l i) - IntKind.wrap IntKind.i64 (glo * IntKind.wrap IntKind.i64 (Knot.At (kn l i) - z))) < a then IntKind.wrap IntKind.i64 (Knot.V (kn l i) - IntKind.wrap IntKind.i64 (glo * IntKind.wrap IntKind.i64 (Knot.At (kn l i) - z))) else a, (IntKind.wrap IntKind.i64 (i + (1 : Int)), (b, (p, (q, (r, (s, (glo, (ghi, (rs, ()))))))))))))))))))
   (.leaf (.inr (.exit (0 : Nat), [.n (a)])))) := by kernel_rfl
theorem h100up' (l : List Knot) (z a : Int) (i : Nat) (b : Int) (p q r s : List Knot) (glo ghi : Int) (rs : List Report) (K : Ex × List (V T) → Prop) (hl : lOk glo ghi z l) (hK : K (.exit 0, [.n (fdK mn (up glo ghi z) a (l.drop i))])) :
    (bodyD Try.prog E c100up 0 (bodyX Try.prog E ctB noLoops 1000 5 L0 (lpOf Try.prog 100 0)) (l, z, a, (i : Int), b, p, q, r, s, glo, ghi, rs, ())).holds fun y => match y with
    | .inl d => ((d.1.length : Int) - d.2.2.2.1).toNat < ((l.length : Int) - (i : Int)).toNat ∧ (c100up.out d).holds K
    | .inr y => K y := by
  rw [b100up]
  obtain ⟨hg, hk, hn⟩ := hl
  refine way (fun c => wayC (by omega) c fun _ _ => ?_) fun c => ?_
  · have e2 : IntKind.wrap IntKind.i64 ((i : Int) + 1) = ((i + 1 : Nat) : Int) := i64_in' (by omega) (by omega)
    rw [e2]
    rw [drop_kn (by omega), fdK_cons] at hK
    have ko := hk _ (kn_mem (l := l) (i := i) (by omega))
    have hlt : ((l.length : Int) - ((i + 1 : Nat) : Int)).toNat < ((l.length : Int) - (i : Int)).toNat := by omega
    have h3 : (0 : Int) ≤ ((i + 1 : Nat) : Int) := by omega
    refine way (fun k => wayC (by omega) c fun _ _ => wayC (by omega) c fun _ _ => ?_) fun k => wayC (by omega) c fun _ _ => wayC (by omega) c fun _ _ => ?_
    · obtain ⟨w1, w2, w3⟩ := g_ge (g := ghi) ko (by omega) hg.1 (show (kn l i).At ≤ z by omega)
      rw [w1, w2, w3]
      refine ⟨hlt, ⟨h3, hg, hk, hn⟩, ?_⟩
      unfold up at hK
      rw [if_neg (by omega)] at hK
      exact hK
    · obtain ⟨w1, w2, w3⟩ := g_lt (g := glo) ko (by omega) hg.1 (show z < (kn l i).At by omega)
      rw [w1, w2, w3]
      refine ⟨hlt, ⟨h3, hg, hk, hn⟩, ?_⟩
      unfold up at hK
      rw [if_pos (by omega)] at hK
      exact hK
  · rw [List.drop_eq_nil_of_le (by omega)] at hK
    exact hK
theorem h100up : LoopH Try.prog E c100up 0 (bodyX Try.prog E ctB noLoops 1000 5 L0 (lpOf Try.prog 100 0)) :=
  ⟨fun d => ((d.1.length : Int) - d.2.2.2.1).toNat, fun d K hK => by
    obtain ⟨l, z, a, i, b, p, q, r, s, glo, ghi, rs, ⟨⟩⟩ := d
    obtain ⟨⟨k1, k3⟩, k4⟩ := hK
    obtain ⟨m, hm⟩ := Int.eq_ofNat_of_zero_le k1
    obtain rfl : i = (m : Int) := hm
    refine Tree.holds_mono (fun y hy => ?_) (h100up' l z a m b p q r s glo ghi rs K k3 k4)
    cases y with
    | inl d' => exact hy
    | inr y => exact hy⟩
theorem ll100up : LLOk Try.prog E (llOf Try.prog E 100 [(2, c100up)]) := llOf_ok fun i hi c hc => by
  have hi : i < 1 := hi
  obtain rfl : i = 0 := by omega
  obtain rfl : c100up = c := Option.some.inj hc
  exact LSnd.mk good names mixes ctB_ok (by decide) h100up
theorem tv100up (e : Earth) (l : List Knot) (z a : Int) : runX ctB (llOf Try.prog E 100 [(2, c100up)]) 100 [e.av, .sl 78 l false, i64 z, i64 a] [2] =
  (.req ((0 : Int) ≤ (0 : Int) ∧ lOk (Earth.GLo e) (Earth.GHi e) z l)
  (.leaf (.sym .i64 (fdK mn (up (Earth.GLo e) (Earth.GHi e) z) a (List.drop (Int.toNat (0 : Int)) l))))) := by kernel_rfl
theorem s100up (e : Earth) (l : List Knot) (z a : Int) (h : lOk e.GLo e.GHi z l) : (runX ctB (llOf Try.prog E 100 [(2, c100up)]) 100 [e.av, .sl 78 l false, i64 z, i64 a] [2]).holds fun v => v = i64 (fdK mn (up e.GLo e.GHi z) a l) := by
  rw [tv100up]
  exact ⟨⟨by decide, h⟩, rfl⟩
noncomputable def cRefup : Con T := conP Try.prog [shE, .one (.s 78), .one (.i .i64), .one (.i .i64)] [.n, .l 78, .l 78, .l 78, .l 78, .n, .n, .l 55, .l 78, .n, .n] (fun d => lOk d.2.2.2.2.2.1 d.2.2.2.2.2.2.1 d.2.2.2.2.2.2.2.2.2.1 d.2.2.2.2.2.2.2.2.1) fun d => i64 (fdK mn (up d.2.2.2.2.2.1 d.2.2.2.2.2.2.1 d.2.2.2.2.2.2.2.2.2.1) d.2.2.2.2.2.2.2.2.2.2.1 d.2.2.2.2.2.2.2.2.1)
theorem okRefup : ConOk Try.prog E 100 cRefup := conP_ok fun d hd => fact_run ctB_ok ll100up (ts := [2]) rfl (s100up ⟨d.1, ⟨d.2.1⟩, ⟨d.2.2.1⟩, ⟨d.2.2.2.1⟩, ⟨d.2.2.2.2.1⟩, d.2.2.2.2.2.1, d.2.2.2.2.2.2.1, d.2.2.2.2.2.2.2.1⟩ d.2.2.2.2.2.2.2.2.1 d.2.2.2.2.2.2.2.2.2.1 d.2.2.2.2.2.2.2.2.2.2.1 hd)
noncomputable def ctFup : CTab T := (127, cPts) :: (101, cPts) :: (126, cFoldKup) :: (100, cRefup) :: ctB
theorem ctFup_ok : CTabOk Try.prog E ctFup := .cons pts_ok (.cons pts2_ok (.cons okFoldKup (.cons okRefup ctB_ok)))
theorem tv113up (e : Earth) (l : List Knot) (k z : Int) : runX ctFup noLoops 113 [e.av, (⟨l⟩ : Line).av, .sym .i64 k, i64 z] [2] =
  (.req (List.length l ≤ (900 : Nat) ∧ List.length (Earth.Reports e) ≤ (900 : Nat))
  (.req (isR l)
  (.req (lOk (Earth.GLo e) (Earth.GHi e) z (ptK (Earth.Bottom e) l ++ ptR k (Earth.Reports e)))
  (.leaf (.sym .i64 (fdK mn (up (Earth.GLo e) (Earth.GHi e) z) (valHi l z) (ptK (Earth.Bottom e) l ++ ptR k (Earth.Reports e)))))))) := by kernel_rfl
noncomputable def pts (e : Earth) (l : List Knot) (k : Int) : List Knot := ptK e.Bottom l ++ ptR k e.Reports
noncomputable def pre113up (e : Earth) (l : List Knot) (k z : Int) : Prop := (l.length ≤ 900 ∧ e.Reports.length ≤ 900) ∧ isR l ∧ lOk e.GLo e.GHi z (pts e l k)
theorem s113up (e : Earth) (l : List Knot) (k z : Int) (h : pre113up e l k z) : (runX ctFup noLoops 113 [e.av, (⟨l⟩ : Line).av, .sym .i64 k, i64 z] [2]).holds fun v => v = i64 (fdK mn (up e.GLo e.GHi z) (valHi l z) (pts e l k)) := by
  rw [tv113up]
  exact ⟨h.1, h.2.1, h.2.2, rfl⟩
noncomputable def catMost : Con T := conP Try.prog [shE, .agg [.s 78], .one (.i .i64), .one (.i .i64)] [.n, .l 78, .l 78, .l 78, .l 78, .n, .n, .l 55, .l 78, .n, .n] (fun d => pre113up ⟨d.1, ⟨d.2.1⟩, ⟨d.2.2.1⟩, ⟨d.2.2.2.1⟩, ⟨d.2.2.2.2.1⟩, d.2.2.2.2.2.1, d.2.2.2.2.2.2.1, d.2.2.2.2.2.2.2.1⟩ d.2.2.2.2.2.2.2.2.1 d.2.2.2.2.2.2.2.2.2.1 d.2.2.2.2.2.2.2.2.2.2.1) fun d => i64 (fdK mn (up d.2.2.2.2.2.1 d.2.2.2.2.2.2.1 d.2.2.2.2.2.2.2.2.2.2.1) (valHi d.2.2.2.2.2.2.2.2.1 d.2.2.2.2.2.2.2.2.2.2.1) (pts ⟨d.1, ⟨d.2.1⟩, ⟨d.2.2.1⟩, ⟨d.2.2.2.1⟩, ⟨d.2.2.2.2.1⟩, d.2.2.2.2.2.1, d.2.2.2.2.2.2.1, d.2.2.2.2.2.2.2.1⟩ d.2.2.2.2.2.2.2.2.1 d.2.2.2.2.2.2.2.2.2.1))
theorem okatMost : ConOk Try.prog E 113 catMost := conP_ok fun d hd => fact_run ctFup_ok noLoops_ok (ts := [2]) rfl (s113up ⟨d.1, ⟨d.2.1⟩, ⟨d.2.2.1⟩, ⟨d.2.2.2.1⟩, ⟨d.2.2.2.2.1⟩, d.2.2.2.2.2.1, d.2.2.2.2.2.2.1, d.2.2.2.2.2.2.2.1⟩ d.2.2.2.2.2.2.2.2.1 d.2.2.2.2.2.2.2.2.2.1 d.2.2.2.2.2.2.2.2.2.2.1 hd)

/-! ### dn -/
noncomputable def o126dn (a z glo ghi : Int) (l : List Knot) (n i : Int) : Tree (Ex × List (V T)) :=
  .req ((0 ≤ i ∧ n = l.length) ∧ lOk glo ghi z l) (.leaf (.exit 0, [.n (fdK mx (dn glo ghi z) a (l.drop i.toNat))]))
noncomputable def c126dn : LoopC T := ⟨[.n, .n, .n, .l 78, .l 78, .l 78, .l 78, .n, .n, .l 55, .l 78, .n, .n], ⟨21, [(1, .one (.i .i64)), (2, .fn 128 [.r [.i .i64], .r shC]), (9, .one (.s 78)), (10, .one (.i .i64)), (11, .one (.i .i64))], []⟩,
  fun _ => ⟨21, [(1, .one (.i .i64))], []⟩, 10, fun d => o126dn d.1 d.2.1 d.2.2.2.2.2.2.2.1 d.2.2.2.2.2.2.2.2.1 d.2.2.2.2.2.2.2.2.2.2.1 d.2.2.2.2.2.2.2.2.2.2.2.1 d.2.2.2.2.2.2.2.2.2.2.2.2.1⟩
theorem b126dn (a z b : Int) (p q r s : List Knot) (glo ghi : Int) (rs : List Report) (l : List Knot) (n i : Int) : bodyD Try.prog E c126dn 0 (bodyX Try.prog E ctB noLoops 1000 5 L0 (lpOf Try.prog 126 0)) (a, z, b, p, q, r, s, glo, ghi, rs, l, n, i, ()) =
  (.br (decide (i < n))
   (.req ((decide ((0 : Int) ≤ i) && decide (i < (↑(List.length l) : Int))) = true)
   (.br (decide (z < Knot.At (kn l i)))
    (.leaf (.inl (bif true then if IntKind.wrap IntKind.i64 (Knot.V (kn l i) - IntKind.wrap IntKind.i64 (ghi * IntKind.wrap IntKind.i64 (Knot.At (kn l i) - z))) > a then IntKind.wrap IntKind.i64 (Knot.V (kn l i) - IntKind.wrap IntKind.i64 (ghi * IntKind.wrap IntKind.i64 (Knot.At (kn l i) - z))) else a else if IntKind.wrap IntKind.i64 (Knot.V (kn l i) - IntKind.wrap IntKind.i64 (ghi * IntKind.wrap IntKind.i64 (Knot.At (kn l i) - z))) < a then IntKind.wrap IntKind.i64 (Knot.V (kn l i) - IntKind.wrap IntKind.i64 (ghi * IntKind.wrap IntKind.i64 (Knot.At (kn l i) - z))) else a, (z, (b, (p, (q, (r, (s, (glo, (ghi, (rs, (l, (n, (IntKind.wrap IntKind.i64 (i + (1 : Int)), ())))))))))))))))
    (.leaf (.inl (bif true then if IntKind.wrap IntKind.i64 (Knot.V (kn l i) + IntKind.wrap IntKind.i64 (glo * IntKind.wrap IntKind.i64 (z - Knot.At (kn l i)))) > a then IntKind.wrap IntKind.i64 (Knot.V (kn l i) + IntKind.wrap IntKind.i64 (glo * IntKind.wrap IntKind.i64 (z - Knot.At (kn l i)))) else a else if IntKind.wrap IntKind.i64 (Knot.V (kn l i) + IntKind.wrap IntKind.i64 (glo * IntKind.wrap IntKind.i64 (z - Knot.At (kn l i)))) < a then IntKind.wrap IntKind.i64 (Knot.V (kn l i) + IntKind.wrap IntKind.i64 (glo * IntKind.wrap IntKind.i64 (z - Knot.At (kn l i)))) else a, (z, (b, (p, (q, (r, (s, (glo, (ghi, (rs, (l, (n, (IntKind.wrap IntKind.i64 (i + (1 : Int)), ())))))))))))))))))
   (.leaf (.inr (.exit (0 : Nat), [.n (a)])))) := by kernel_rfl
theorem h126dn' (a z b : Int) (p q r s : List Knot) (glo ghi : Int) (rs : List Report) (l : List Knot) (i : Nat) (K : Ex × List (V T) → Prop) (hl : lOk glo ghi z l) (hK : K (.exit 0, [.n (fdK mx (dn glo ghi z) a (l.drop i))])) :
    (bodyD Try.prog E c126dn 0 (bodyX Try.prog E ctB noLoops 1000 5 L0 (lpOf Try.prog 126 0)) (a, z, b, p, q, r, s, glo, ghi, rs, l, (l.length : Int), (i : Int), ())).holds fun y => match y with
    | .inl d => ((d.2.2.2.2.2.2.2.2.2.2.1.length : Int) - d.2.2.2.2.2.2.2.2.2.2.2.2.1).toNat < ((l.length : Int) - (i : Int)).toNat ∧ (c126dn.out d).holds K
    | .inr y => K y := by
  rw [b126dn]
  obtain ⟨hg, hk, hn⟩ := hl
  refine way (fun c => wayC (by omega) c fun _ _ => ?_) fun c => ?_
  · have e2 : IntKind.wrap IntKind.i64 ((i : Int) + 1) = ((i + 1 : Nat) : Int) := i64_in' (by omega) (by omega)
    rw [e2]
    rw [drop_kn (by omega), fdK_cons] at hK
    have ko := hk _ (kn_mem (l := l) (i := i) (by omega))
    have hlt : ((l.length : Int) - ((i + 1 : Nat) : Int)).toNat < ((l.length : Int) - (i : Int)).toNat := by omega
    have h3 : (0 : Int) ≤ ((i + 1 : Nat) : Int) := by omega
    refine way (fun k => ?_) fun k => ?_
    · obtain ⟨w1, w2, w3⟩ := g_lt (g := ghi) ko (by omega) hg.1 k
      rw [w1, w2, w3]
      refine ⟨hlt, ⟨⟨h3, rfl⟩, hg, hk, hn⟩, ?_⟩
      unfold dn at hK
      rw [if_pos k] at hK
      exact hK
    · obtain ⟨w1, w2, w3⟩ := g_ge (g := glo) ko (by omega) hg.1 (show (kn l i).At ≤ z by omega)
      rw [w1, w2, w3]
      refine ⟨hlt, ⟨⟨h3, rfl⟩, hg, hk, hn⟩, ?_⟩
      unfold dn at hK
      rw [if_neg k] at hK
      exact hK
  · rw [List.drop_eq_nil_of_le (by omega)] at hK
    exact hK
theorem h126dn : LoopH Try.prog E c126dn 0 (bodyX Try.prog E ctB noLoops 1000 5 L0 (lpOf Try.prog 126 0)) :=
  ⟨fun d => ((d.2.2.2.2.2.2.2.2.2.2.1.length : Int) - d.2.2.2.2.2.2.2.2.2.2.2.2.1).toNat, fun d K hK => by
    obtain ⟨a, z, b, p, q, r, s, glo, ghi, rs, l, n, i, ⟨⟩⟩ := d
    obtain ⟨⟨⟨k1, k2⟩, k3⟩, k4⟩ := hK
    obtain ⟨m, hm⟩ := Int.eq_ofNat_of_zero_le k1
    obtain rfl : i = (m : Int) := hm
    obtain rfl : n = ((l : List Knot).length : Int) := k2
    refine Tree.holds_mono (fun y hy => ?_) (h126dn' a z b p q r s glo ghi rs l m K k3 k4)
    cases y with
    | inl d' => exact hy
    | inr y => exact hy⟩
theorem ll126dn : LLOk Try.prog E (llOf Try.prog E 126 [(2, c126dn)]) := llOf_ok fun i hi c hc => by
  have hi : i < 1 := hi
  obtain rfl : i = 0 := by omega
  obtain rfl : c126dn = c := Option.some.inj hc
  exact LSnd.mk good names mixes ctB_ok (by decide) h126dn
theorem tv126dn (l : List Knot) (a z : Int) (e : Earth) : runX ctB (llOf Try.prog E 126 [(2, c126dn)]) 126 [.sl 78 l false, i64 a, .fn 128 [.rp [i64 z], .rp e.cs]] [2] =
  (.req (((0 : Int) ≤ (0 : Int) ∧ (↑(List.length l) : Int) = (↑(List.length l) : Int)) ∧ lOk (Earth.GLo e) (Earth.GHi e) z l)
  (.leaf (.sym .i64 (fdK mx (dn (Earth.GLo e) (Earth.GHi e) z) a (List.drop (Int.toNat (0 : Int)) l))))) := by kernel_rfl
theorem s126dn (l : List Knot) (a z : Int) (e : Earth) (h : lOk e.GLo e.GHi z l) : (runX ctB (llOf Try.prog E 126 [(2, c126dn)]) 126 [.sl 78 l false, i64 a, .fn 128 [.rp [i64 z], .rp e.cs]] [2]).holds fun v => v = i64 (fdK mx (dn e.GLo e.GHi z) a l) := by
  rw [tv126dn]
  exact ⟨⟨⟨by decide, rfl⟩, h⟩, rfl⟩
noncomputable def cFoldKdn : Con T := conFP Try.prog E [22, 2, 138] [.one (.s 78), .one (.i .i64), .fn 128 [.r [.i .i64], .r shC]] [.l 78, .n, .n, .n, .l 78, .l 78, .l 78, .l 78, .n, .n, .l 55] (fun d => lOk d.2.2.2.2.2.2.2.2.1 d.2.2.2.2.2.2.2.2.2.1 d.2.2.1 d.1) fun d => i64 (fdK mx (dn d.2.2.2.2.2.2.2.2.1 d.2.2.2.2.2.2.2.2.2.1 d.2.2.1) d.2.1 d.1)
theorem okFoldKdn : ConOk Try.prog E 126 cFoldKdn := conFP_ok good decOk fun d hd => fact_run3 ctB_ok ll126dn (ts := [2]) rfl (s126dn d.1 d.2.1 d.2.2.1 ⟨d.2.2.2.1, ⟨d.2.2.2.2.1⟩, ⟨d.2.2.2.2.2.1⟩, ⟨d.2.2.2.2.2.2.1⟩, ⟨d.2.2.2.2.2.2.2.1⟩, d.2.2.2.2.2.2.2.2.1, d.2.2.2.2.2.2.2.2.2.1, d.2.2.2.2.2.2.2.2.2.2.1⟩ hd)
/-- The reference. -/
noncomputable def o100dn (l : List Knot) (z a i glo ghi : Int) : Tree (Ex × List (V T)) :=
  .req (0 ≤ i ∧ lOk glo ghi z l) (.leaf (.exit 0, [.n (fdK mx (dn glo ghi z) a (l.drop i.toNat))]))
noncomputable def c100dn : LoopC T := ⟨[.l 78, .n, .n, .n, .n, .l 78, .l 78, .l 78, .l 78, .n, .n, .l 55], ⟨60, [(1, .one (.s 78)), (2, .one (.i .i64)), (3, .one (.i .i64)), (4, .one (.o 0 0)), (9, .one (.i .i64))], [.c cellsE]⟩,
  fun _ => ⟨60, [(3, .one (.i .i64))], []⟩, 10, fun d => o100dn d.1 d.2.1 d.2.2.1 d.2.2.2.1 d.2.2.2.2.2.2.2.2.2.1 d.2.2.2.2.2.2.2.2.2.2.1⟩
theorem b100dn (l : List Knot) (z a i b : Int) (p q r s : List Knot) (glo ghi : Int) (rs : List Report) : bodyD Try.prog E c100dn 0 (bodyX Try.prog E ctB noLoops 1000 5 L0 (lpOf Try.prog 102 0)) (l, z, a, i, b, p, q, r, s, glo, ghi, rs, ()) =
  (.br (decide (i < (↑(List.length l) : Int)))
   (.req ((decide ((0 : Int) ≤ i) && decide (i < (↑(List.length l) : Int))) = true)
   (.br (decide (z ≥ Knot.At (kn l i)))
    (.req ((decide ((0 : Int) ≤ i) && decide (i < (↑(List.length l) : Int))) = true)
    (.req ((decide ((0 : Int) ≤ i) && decide (i < (↑(List.length l) : Int))) = true)
    (.leaf (.inl (l, (z, (bif true then if IntKind.wrap IntKind.i64 (Knot.V (kn l i) + IntKind.wrap IntKind.i64 (glo * IntKind.wrap IntKind.i64 (z - Knot.At (kn l i)))) > a then IntKind.wrap IntKind.i64 (Knot.V (kn l i) + IntKind.wrap IntKind.i64 (glo * IntKind.wrap IntKind.i64 (z - Knot.At (kn l i)))) else a else if IntKind.wrap IntKind.i64 (Knot.V (kn l i) + IntKind.wrap IntKind.i64 (glo * IntKind.wrap IntKind.i64 (z - Knot.At (kn l i)))) < a then IntKind.wrap IntKind.i64 (Knot.V (kn l i) + IntKind.wrap IntKind.i64 (glo * IntKind.wrap IntKind.i64 (z - Knot.At (kn l i)))) else a, (IntKind.wrap IntKind.i64 (i + (1 : Int)), (b, (p, (q, (r, (s, (glo, (ghi, (rs, ()))))))))))))))))
    (.req ((decide ((0 : Int) ≤ i) && decide (i < (↑(List.length l) : Int))) = true)
    (.req ((decide ((0 : Int) ≤ i) && decide (i < (↑(List.length l) : Int))) = true)
    (.leaf (.inl (l, (z, (bif true then if IntKind.wrap IntKind.i64 (Knot.V (kn l i) - IntKind.wrap IntKind.i64 (ghi * IntKind.wrap IntKind.i64 (Knot.At (kn l i) - z))) > a then IntKind.wrap IntKind.i64 (Knot.V (kn l i) - IntKind.wrap IntKind.i64 (ghi * IntKind.wrap IntKind.i64 (Knot.At (kn l i) - z))) else a else if IntKind.wrap IntKind.i64 (Knot.V (kn l i) - IntKind.wrap IntKind.i64 (ghi * IntKind.wrap IntKind.i64 (Knot.At (kn l i) - z))) < a then IntKind.wrap IntKind.i64 (Knot.V (kn l i) - IntKind.wrap IntKind.i64 (ghi * IntKind.wrap IntKind.i64 (Knot.At (kn l i) - z))) else a, (IntKind.wrap IntKind.i64 (i + (1 : Int)), (b, (p, (q, (r, (s, (glo, (ghi, (rs, ()))))))))))))))))))
   (.leaf (.inr (.exit (0 : Nat), [.n (a)])))) := by kernel_rfl
theorem h100dn' (l : List Knot) (z a : Int) (i : Nat) (b : Int) (p q r s : List Knot) (glo ghi : Int) (rs : List Report) (K : Ex × List (V T) → Prop) (hl : lOk glo ghi z l) (hK : K (.exit 0, [.n (fdK mx (dn glo ghi z) a (l.drop i))])) :
    (bodyD Try.prog E c100dn 0 (bodyX Try.prog E ctB noLoops 1000 5 L0 (lpOf Try.prog 102 0)) (l, z, a, (i : Int), b, p, q, r, s, glo, ghi, rs, ())).holds fun y => match y with
    | .inl d => ((d.1.length : Int) - d.2.2.2.1).toNat < ((l.length : Int) - (i : Int)).toNat ∧ (c100dn.out d).holds K
    | .inr y => K y := by
  rw [b100dn]
  obtain ⟨hg, hk, hn⟩ := hl
  refine way (fun c => wayC (by omega) c fun _ _ => ?_) fun c => ?_
  · have e2 : IntKind.wrap IntKind.i64 ((i : Int) + 1) = ((i + 1 : Nat) : Int) := i64_in' (by omega) (by omega)
    rw [e2]
    rw [drop_kn (by omega), fdK_cons] at hK
    have ko := hk _ (kn_mem (l := l) (i := i) (by omega))
    have hlt : ((l.length : Int) - ((i + 1 : Nat) : Int)).toNat < ((l.length : Int) - (i : Int)).toNat := by omega
    have h3 : (0 : Int) ≤ ((i + 1 : Nat) : Int) := by omega
    refine way (fun k => wayC (by omega) c fun _ _ => wayC (by omega) c fun _ _ => ?_) fun k => wayC (by omega) c fun _ _ => wayC (by omega) c fun _ _ => ?_
    · obtain ⟨w1, w2, w3⟩ := g_ge (g := glo) ko (by omega) hg.1 (show (kn l i).At ≤ z by omega)
      rw [w1, w2, w3]
      refine ⟨hlt, ⟨h3, hg, hk, hn⟩, ?_⟩
      unfold dn at hK
      rw [if_neg (by omega)] at hK
      exact hK
    · obtain ⟨w1, w2, w3⟩ := g_lt (g := ghi) ko (by omega) hg.1 (show z < (kn l i).At by omega)
      rw [w1, w2, w3]
      refine ⟨hlt, ⟨h3, hg, hk, hn⟩, ?_⟩
      unfold dn at hK
      rw [if_pos (by omega)] at hK
      exact hK
  · rw [List.drop_eq_nil_of_le (by omega)] at hK
    exact hK
theorem h100dn : LoopH Try.prog E c100dn 0 (bodyX Try.prog E ctB noLoops 1000 5 L0 (lpOf Try.prog 102 0)) :=
  ⟨fun d => ((d.1.length : Int) - d.2.2.2.1).toNat, fun d K hK => by
    obtain ⟨l, z, a, i, b, p, q, r, s, glo, ghi, rs, ⟨⟩⟩ := d
    obtain ⟨⟨k1, k3⟩, k4⟩ := hK
    obtain ⟨m, hm⟩ := Int.eq_ofNat_of_zero_le k1
    obtain rfl : i = (m : Int) := hm
    refine Tree.holds_mono (fun y hy => ?_) (h100dn' l z a m b p q r s glo ghi rs K k3 k4)
    cases y with
    | inl d' => exact hy
    | inr y => exact hy⟩
theorem ll100dn : LLOk Try.prog E (llOf Try.prog E 102 [(2, c100dn)]) := llOf_ok fun i hi c hc => by
  have hi : i < 1 := hi
  obtain rfl : i = 0 := by omega
  obtain rfl : c100dn = c := Option.some.inj hc
  exact LSnd.mk good names mixes ctB_ok (by decide) h100dn
theorem tv100dn (e : Earth) (l : List Knot) (z a : Int) : runX ctB (llOf Try.prog E 102 [(2, c100dn)]) 102 [e.av, .sl 78 l false, i64 z, i64 a] [2] =
  (.req ((0 : Int) ≤ (0 : Int) ∧ lOk (Earth.GLo e) (Earth.GHi e) z l)
  (.leaf (.sym .i64 (fdK mx (dn (Earth.GLo e) (Earth.GHi e) z) a (List.drop (Int.toNat (0 : Int)) l))))) := by kernel_rfl
theorem s100dn (e : Earth) (l : List Knot) (z a : Int) (h : lOk e.GLo e.GHi z l) : (runX ctB (llOf Try.prog E 102 [(2, c100dn)]) 102 [e.av, .sl 78 l false, i64 z, i64 a] [2]).holds fun v => v = i64 (fdK mx (dn e.GLo e.GHi z) a l) := by
  rw [tv100dn]
  exact ⟨⟨by decide, h⟩, rfl⟩
noncomputable def cRefdn : Con T := conP Try.prog [shE, .one (.s 78), .one (.i .i64), .one (.i .i64)] [.n, .l 78, .l 78, .l 78, .l 78, .n, .n, .l 55, .l 78, .n, .n] (fun d => lOk d.2.2.2.2.2.1 d.2.2.2.2.2.2.1 d.2.2.2.2.2.2.2.2.2.1 d.2.2.2.2.2.2.2.2.1) fun d => i64 (fdK mx (dn d.2.2.2.2.2.1 d.2.2.2.2.2.2.1 d.2.2.2.2.2.2.2.2.2.1) d.2.2.2.2.2.2.2.2.2.2.1 d.2.2.2.2.2.2.2.2.1)
theorem okRefdn : ConOk Try.prog E 102 cRefdn := conP_ok fun d hd => fact_run ctB_ok ll100dn (ts := [2]) rfl (s100dn ⟨d.1, ⟨d.2.1⟩, ⟨d.2.2.1⟩, ⟨d.2.2.2.1⟩, ⟨d.2.2.2.2.1⟩, d.2.2.2.2.2.1, d.2.2.2.2.2.2.1, d.2.2.2.2.2.2.2.1⟩ d.2.2.2.2.2.2.2.2.1 d.2.2.2.2.2.2.2.2.2.1 d.2.2.2.2.2.2.2.2.2.2.1 hd)
noncomputable def ctFdn : CTab T := (127, cPts) :: (101, cPts) :: (126, cFoldKdn) :: (102, cRefdn) :: ctB
theorem ctFdn_ok : CTabOk Try.prog E ctFdn := .cons pts_ok (.cons pts2_ok (.cons okFoldKdn (.cons okRefdn ctB_ok)))
theorem tv113dn (e : Earth) (l : List Knot) (k z : Int) : runX ctFdn noLoops 112 [e.av, (⟨l⟩ : Line).av, .sym .i64 k, i64 z] [2] =
  (.req (List.length l ≤ (900 : Nat) ∧ List.length (Earth.Reports e) ≤ (900 : Nat))
  (.req (isR l)
  (.req (lOk (Earth.GLo e) (Earth.GHi e) z (ptK (Earth.Bottom e) l ++ ptR k (Earth.Reports e)))
  (.leaf (.sym .i64 (fdK mx (dn (Earth.GLo e) (Earth.GHi e) z) (valLo l z) (ptK (Earth.Bottom e) l ++ ptR k (Earth.Reports e)))))))) := by kernel_rfl
noncomputable def pre113dn (e : Earth) (l : List Knot) (k z : Int) : Prop := (l.length ≤ 900 ∧ e.Reports.length ≤ 900) ∧ isR l ∧ lOk e.GLo e.GHi z (pts e l k)
theorem s113dn (e : Earth) (l : List Knot) (k z : Int) (h : pre113dn e l k z) : (runX ctFdn noLoops 112 [e.av, (⟨l⟩ : Line).av, .sym .i64 k, i64 z] [2]).holds fun v => v = i64 (fdK mx (dn e.GLo e.GHi z) (valLo l z) (pts e l k)) := by
  rw [tv113dn]
  exact ⟨h.1, h.2.1, h.2.2, rfl⟩
noncomputable def catLeast : Con T := conP Try.prog [shE, .agg [.s 78], .one (.i .i64), .one (.i .i64)] [.n, .l 78, .l 78, .l 78, .l 78, .n, .n, .l 55, .l 78, .n, .n] (fun d => pre113dn ⟨d.1, ⟨d.2.1⟩, ⟨d.2.2.1⟩, ⟨d.2.2.2.1⟩, ⟨d.2.2.2.2.1⟩, d.2.2.2.2.2.1, d.2.2.2.2.2.2.1, d.2.2.2.2.2.2.2.1⟩ d.2.2.2.2.2.2.2.2.1 d.2.2.2.2.2.2.2.2.2.1 d.2.2.2.2.2.2.2.2.2.2.1) fun d => i64 (fdK mx (dn d.2.2.2.2.2.1 d.2.2.2.2.2.2.1 d.2.2.2.2.2.2.2.2.2.2.1) (valLo d.2.2.2.2.2.2.2.2.1 d.2.2.2.2.2.2.2.2.2.2.1) (pts ⟨d.1, ⟨d.2.1⟩, ⟨d.2.2.1⟩, ⟨d.2.2.2.1⟩, ⟨d.2.2.2.2.1⟩, d.2.2.2.2.2.1, d.2.2.2.2.2.2.1, d.2.2.2.2.2.2.2.1⟩ d.2.2.2.2.2.2.2.2.1 d.2.2.2.2.2.2.2.2.2.1))
theorem okatLeast : ConOk Try.prog E 112 catLeast := conP_ok fun d hd => fact_run ctFdn_ok noLoops_ok (ts := [2]) rfl (s113dn ⟨d.1, ⟨d.2.1⟩, ⟨d.2.2.1⟩, ⟨d.2.2.2.1⟩, ⟨d.2.2.2.2.1⟩, d.2.2.2.2.2.1, d.2.2.2.2.2.2.1, d.2.2.2.2.2.2.2.1⟩ d.2.2.2.2.2.2.2.2.1 d.2.2.2.2.2.2.2.2.2.1 d.2.2.2.2.2.2.2.2.2.2.1 hd)
end Go.Proofs.Ytdlholmphenhhaa.W
