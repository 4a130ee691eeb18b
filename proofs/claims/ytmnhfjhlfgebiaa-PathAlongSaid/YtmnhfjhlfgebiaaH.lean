/- Steepest. No condition. -/
import Derived.Test.YtmnhfjhlfgebiaaF
import Derived.Test.YtmnhfjhlfgebiaaG
import Derived.Test.YtmnhfjhlfgebiaaD
set_option linter.unusedVariables false
set_option maxRecDepth 100000
noncomputable section
namespace Go.Proofs.Ytmnhfjhlfgebiaa.W
open Go Go.Cx Go.RowKit
noncomputable def ctS : CTab T := (22, cChk) :: (23, cChk) :: (40, cTurn) :: (41, cTurn) :: (111, cLess) :: (112, cLess) :: ctP
theorem ctS_ok : CTabOk Try.prog E ctS := .cons chk_ok (.cons chk2_ok (.cons turn_ok (.cons turn2_ok (.cons less_ok (.cons less2_ok ctP_ok)))))
@[reducible] noncomputable def nx (m : Int × Int) (p v : Vec) : Int × Int := if ltB m.1 m.2 (tuN p.X p.Y p.Z v.X v.Y v.Z) (tuD p.X p.Y p.Z v.X v.Y v.Z) = true then (tuN p.X p.Y p.Z v.X v.Y v.Z, tuD p.X p.Y p.Z v.X v.Y v.Z) else m
noncomputable def st : Int × Int → Vec → List Vec → Int × Int
  | m, _, [] => m
  | m, p, v :: r => st (nx m p v) v r
noncomputable def sX (l : List Vec) (m : Int × Int) (i : Int) : Int × Int := st m (vi l (i - 1)) (l.drop i.toNat)
@[reducible] def mOk (n d : Int) : Prop := (0 ≤ n ∧ n ≤ 34359738368) ∧ (0 < d ∧ d ≤ 34359738368)
noncomputable def inv42 (l : List Vec) (i n d : Int) : Prop := ((1 ≤ i ∧ l.length ≤ 20) ∧ mOk n d) ∧ ∀ v ∈ l, lgP v.X v.Y v.Z
noncomputable def o42 (i : Int) (l : List Vec) (r q n d : Int) : Tree (Ex × List (V T)) := .req (inv42 l i n d) (.leaf (.exit 0, [.n r, .n q, .n (sX l (n, d) i).1, .n (sX l (n, d) i).2]))
noncomputable def c42 : LoopC T := ⟨[.n, .n, .n, .n, .l 23, .n, .n, .n, .n], ⟨39, [(1, .one (.o 0 0)), (2, .one (.o 1 0)), (3, .one (.o 2 0)), (4, .one (.i .i64))], [.c [.i .i64, .i .i64, .i .i64, .s 23], .c [.i .i64, .i .i64], .c [.i .i64, .i .i64]]⟩, fun _ => ⟨39, [(2, .one (.o 0 0)), (3, .one (.o 1 0))], [.c [.i .i64, .i .i64], .c [.i .i64, .i .i64]]⟩, 20, fun d => o42 d.1 d.2.2.2.2.1 d.2.2.2.2.2.1 d.2.2.2.2.2.2.1 d.2.2.2.2.2.2.2.1 d.2.2.2.2.2.2.2.2.1⟩
theorem b42 (i a b c : Int) (l : List Vec) (r q n d : Int) : bodyD Try.prog E c42 0 (bodyX Try.prog E ctS noLoops 1000 5 L0 (lpOf Try.prog 42 0)) (i, a, b, c, l, r, q, n, d, ()) =
  (.br (decide (i < (↑(List.length l) : Int)))
   (.req ((decide ((0 : Int) ≤ IntKind.wrap IntKind.i64 (i - (1 : Int))) && decide (IntKind.wrap IntKind.i64 (i - (1 : Int)) < (↑(List.length l) : Int))) = true)
   (.req ((decide ((0 : Int) ≤ i) && decide (i < (↑(List.length l) : Int))) = true)
   (.req (ltP n d (tuN (Vec.X (vi l (IntKind.wrap IntKind.i64 (i - (1 : Int))))) (Vec.Y (vi l (IntKind.wrap IntKind.i64 (i - (1 : Int))))) (Vec.Z (vi l (IntKind.wrap IntKind.i64 (i - (1 : Int))))) (Vec.X (vi l i)) (Vec.Y (vi l i)) (Vec.Z (vi l i))) (tuD (Vec.X (vi l (IntKind.wrap IntKind.i64 (i - (1 : Int))))) (Vec.Y (vi l (IntKind.wrap IntKind.i64 (i - (1 : Int))))) (Vec.Z (vi l (IntKind.wrap IntKind.i64 (i - (1 : Int))))) (Vec.X (vi l i)) (Vec.Y (vi l i)) (Vec.Z (vi l i))))
   (.br (ltB n d (tuN (Vec.X (vi l (IntKind.wrap IntKind.i64 (i - (1 : Int))))) (Vec.Y (vi l (IntKind.wrap IntKind.i64 (i - (1 : Int))))) (Vec.Z (vi l (IntKind.wrap IntKind.i64 (i - (1 : Int))))) (Vec.X (vi l i)) (Vec.Y (vi l i)) (Vec.Z (vi l i))) (tuD (Vec.X (vi l (IntKind.wrap IntKind.i64 (i - (1 : Int))))) (Vec.Y (vi l (IntKind.wrap IntKind.i64 (i - (1 : Int))))) (Vec.Z (vi l (IntKind.wrap IntKind.i64 (i - (1 : Int))))) (Vec.X (vi l i)) (Vec.Y (vi l i)) (Vec.Z (vi l i))))
    (.leaf (.inl (IntKind.wrap IntKind.i64 (i + (1 : Int)), (a, (b, (c, (l, (r, (q, (tuN (Vec.X (vi l (IntKind.wrap IntKind.i64 (i - (1 : Int))))) (Vec.Y (vi l (IntKind.wrap IntKind.i64 (i - (1 : Int))))) (Vec.Z (vi l (IntKind.wrap IntKind.i64 (i - (1 : Int))))) (Vec.X (vi l i)) (Vec.Y (vi l i)) (Vec.Z (vi l i)), (tuD (Vec.X (vi l (IntKind.wrap IntKind.i64 (i - (1 : Int))))) (Vec.Y (vi l (IntKind.wrap IntKind.i64 (i - (1 : Int))))) (Vec.Z (vi l (IntKind.wrap IntKind.i64 (i - (1 : Int))))) (Vec.X (vi l i)) (Vec.Y (vi l i)) (Vec.Z (vi l i)), ())))))))))))
    (.leaf (.inl (IntKind.wrap IntKind.i64 (i + (1 : Int)), (a, (b, (c, (l, (r, (q, (n, (d, ())))))))))))))))
   (.leaf (.inr (.exit (0 : Nat), [.n (r), .n (q), .n (n), .n (d)])))) := by kernel_rfl
theorem b43 (i a b c : Int) (l : List Vec) (r q n d : Int) : bodyD Try.prog E c42 0 (bodyX Try.prog E ctS noLoops 1000 5 L0 (lpOf Try.prog 43 0)) (i, a, b, c, l, r, q, n, d, ()) =
  (.br (decide (i < (↑(List.length l) : Int)))
   (.req ((decide ((0 : Int) ≤ IntKind.wrap IntKind.i64 (i - (1 : Int))) && decide (IntKind.wrap IntKind.i64 (i - (1 : Int)) < (↑(List.length l) : Int))) = true)
   (.req ((decide ((0 : Int) ≤ i) && decide (i < (↑(List.length l) : Int))) = true)
   (.req (ltP n d (tuN (Vec.X (vi l (IntKind.wrap IntKind.i64 (i - (1 : Int))))) (Vec.Y (vi l (IntKind.wrap IntKind.i64 (i - (1 : Int))))) (Vec.Z (vi l (IntKind.wrap IntKind.i64 (i - (1 : Int))))) (Vec.X (vi l i)) (Vec.Y (vi l i)) (Vec.Z (vi l i))) (tuD (Vec.X (vi l (IntKind.wrap IntKind.i64 (i - (1 : Int))))) (Vec.Y (vi l (IntKind.wrap IntKind.i64 (i - (1 : Int))))) (Vec.Z (vi l (IntKind.wrap IntKind.i64 (i - (1 : Int))))) (Vec.X (vi l i)) (Vec.Y (vi l i)) (Vec.Z (vi l i))))
   (.br (ltB n d (tuN (Vec.X (vi l (IntKind.wrap IntKind.i64 (i - (1 : Int))))) (Vec.Y (vi l (IntKind.wrap IntKind.i64 (i - (1 : Int))))) (Vec.Z (vi l (IntKind.wrap IntKind.i64 (i - (1 : Int))))) (Vec.X (vi l i)) (Vec.Y (vi l i)) (Vec.Z (vi l i))) (tuD (Vec.X (vi l (IntKind.wrap IntKind.i64 (i - (1 : Int))))) (Vec.Y (vi l (IntKind.wrap IntKind.i64 (i - (1 : Int))))) (Vec.Z (vi l (IntKind.wrap IntKind.i64 (i - (1 : Int))))) (Vec.X (vi l i)) (Vec.Y (vi l i)) (Vec.Z (vi l i))))
    (.leaf (.inl (IntKind.wrap IntKind.i64 (i + (1 : Int)), (a, (b, (c, (l, (r, (q, (tuN (Vec.X (vi l (IntKind.wrap IntKind.i64 (i - (1 : Int))))) (Vec.Y (vi l (IntKind.wrap IntKind.i64 (i - (1 : Int))))) (Vec.Z (vi l (IntKind.wrap IntKind.i64 (i - (1 : Int))))) (Vec.X (vi l i)) (Vec.Y (vi l i)) (Vec.Z (vi l i)), (tuD (Vec.X (vi l (IntKind.wrap IntKind.i64 (i - (1 : Int))))) (Vec.Y (vi l (IntKind.wrap IntKind.i64 (i - (1 : Int))))) (Vec.Z (vi l (IntKind.wrap IntKind.i64 (i - (1 : Int))))) (Vec.X (vi l i)) (Vec.Y (vi l i)) (Vec.Z (vi l i)), ())))))))))))
    (.leaf (.inl (IntKind.wrap IntKind.i64 (i + (1 : Int)), (a, (b, (c, (l, (r, (q, (n, (d, ())))))))))))))))
   (.leaf (.inr (.exit (0 : Nat), [.n (r), .n (q), .n (n), .n (d)])))) := by kernel_rfl
theorem vi_mem {l : List Vec} {i : Nat} (h : i < l.length) : vi l i ∈ l := by
  have : vi l i ∈ l.drop i := by rw [drop_vi h]; exact List.mem_cons_self
  exact List.mem_of_mem_drop this
theorem pE_lg : ∀ (l : List Vec) (f : Bool) (p : Vec) (x y z : Int), pE f p x y z l = 0 → ∀ v ∈ l, lgP v.X v.Y v.Z
  | [], _, _, _, _, _, _, v, h => absurd h List.not_mem_nil
  | w :: r, f, p, x, y, z, h, v, hv => by
    unfold pE at h
    split at h
    · rename_i s1
      split at h
      · rename_i s2
        split at h
        · exact absurd h (by decide)
        · split at h
          · rcases List.mem_cons.1 hv with q | q
            · subst q
              exact lgP_iff.2 ⟨s1, decide_eq_true (by have := of_decide_eq_true s2; omega)⟩
            · exact pE_lg r _ _ _ _ _ h v q
          · exact absurd h (by decide)
      · exact absurd h (by decide)
    · exact absurd h (by decide)
theorem chk_lg {x y z : Int} {l : List Vec} (h : chk x y z l = 0) : (l.length : Int) ≤ 20 ∧ plP x y z ∧ ∀ v ∈ l, lgP v.X v.Y v.Z := by
  unfold chk at h
  split at h
  · exact absurd h (by decide)
  · split at h
    · exact ⟨by omega, by assumption, pE_lg _ _ _ _ _ _ h⟩
    · exact absurd h (by decide)
theorem sX_cons {l : List Vec} {i : Nat} {m : Int × Int} (h : i < l.length) : sX l m i = sX l (nx m (vi l ((i : Int) - 1)) (vi l i)) ((i + 1 : Nat) : Int) := by
  unfold sX
  rw [show (((i + 1 : Nat) : Int)).toNat = i + 1 from Int.toNat_natCast _, show ((i + 1 : Nat) : Int) - 1 = (i : Int) by omega, show (i : Int).toNat = i from Int.toNat_natCast i, drop_vi h]
  rfl
theorem h42' (i : Nat) (a b c : Int) (l : List Vec) (r q n d : Int) (K : Ex × List (V T) → Prop) (h : inv42 l i n d) (hK : K (.exit 0, [.n r, .n q, .n (sX l (n, d) i).1, .n (sX l (n, d) i).2])) :
    (bodyD Try.prog E c42 0 (bodyX Try.prog E ctS noLoops 1000 5 L0 (lpOf Try.prog 42 0)) ((i : Int), a, b, c, l, r, q, n, d, ())).holds fun y => match y with
    | .inl d => ((d.2.2.2.2.1.length : Int) - d.1).toNat < ((l.length : Int) - (i : Int)).toNat ∧ (c42.out d).holds K
    | .inr y => K y := by
  rw [b42]
  obtain ⟨⟨⟨h1, h2⟩, hm⟩, hl⟩ := h
  refine way (fun c1 => ?_) fun c1 => ?_
  · have hi : i < l.length := by omega
    have e2 : IntKind.wrap IntKind.i64 ((i : Int) + 1) = ((i + 1 : Nat) : Int) := i64_in' (by omega) (by omega)
    have e3 : IntKind.wrap IntKind.i64 ((i : Int) - 1) = (i : Int) - 1 := i64_in' (by omega) (by omega)
    rw [e2, e3]
    have g1 := hl _ (vi_mem hi)
    have g2 : lgP (vi l ((i : Int) - 1)).X (vi l ((i : Int) - 1)).Y (vi l ((i : Int) - 1)).Z := by
      have := vi_mem (l := l) (i := i - 1) (by omega)
      rw [show ((i - 1 : Nat) : Int) = (i : Int) - 1 by omega] at this
      exact hl _ this
    obtain ⟨t1, t2, _, _⟩ := turn_facts g2 g1
    rw [sX_cons hi] at hK
    have iN : tuN (vi l ((i : Int) - 1)).X (vi l ((i : Int) - 1)).Y (vi l ((i : Int) - 1)).Z (vi l i).X (vi l i).Y (vi l i).Z = tN (vi l ((i : Int) - 1)).X (vi l ((i : Int) - 1)).Y (vi l ((i : Int) - 1)).Z (vi l i).X (vi l i).Y (vi l i).Z := if_pos ⟨g2, g1⟩
    have iD : tuD (vi l ((i : Int) - 1)).X (vi l ((i : Int) - 1)).Y (vi l ((i : Int) - 1)).Z (vi l i).X (vi l i).Y (vi l i).Z = tD (vi l ((i : Int) - 1)).X (vi l ((i : Int) - 1)).Y (vi l ((i : Int) - 1)).Z (vi l i).X (vi l i).Y (vi l i).Z := if_pos ⟨g2, g1⟩
    rw [← iN, ← iD] at t2
    rw [← iD] at t1
    have m2 : mOk (tuN (vi l ((i : Int) - 1)).X (vi l ((i : Int) - 1)).Y (vi l ((i : Int) - 1)).Z (vi l i).X (vi l i).Y (vi l i).Z) (tuD (vi l ((i : Int) - 1)).X (vi l ((i : Int) - 1)).Y (vi l ((i : Int) - 1)).Z (vi l i).X (vi l i).Y (vi l i).Z) := by unfold mOk; omega
    have hlt : ((l.length : Int) - ((i + 1 : Nat) : Int)).toNat < ((l.length : Int) - (i : Int)).toNat := by omega
    have go : ∀ n' d' : Int, mOk n' d' → K (.exit 0, [.n r, .n q, .n (sX l (n', d') ((i + 1 : Nat) : Int)).1, .n (sX l (n', d') ((i + 1 : Nat) : Int)).2]) → (o42 ((i + 1 : Nat) : Int) l r q n' d').holds K := fun n' d' hm' hk => ⟨⟨⟨⟨by omega, h2⟩, hm'⟩, hl⟩, hk⟩
    unfold nx at hK
    refine wayC (by omega) (by omega) fun _ _ => wayC (by omega) c1 fun _ _ => ⟨?_, wayB (fun k => ?_) fun k => ?_⟩
    · unfold mOk at hm; unfold ltP; omega
    · rw [if_pos k] at hK
      exact ⟨hlt, go _ _ m2 hK⟩
    · rw [if_neg (by rw [k]; decide)] at hK
      exact ⟨hlt, go _ _ hm hK⟩
  · have : sX l (n, d) (i : Int) = (n, d) := by
      unfold sX
      rw [show (i : Int).toNat = i from Int.toNat_natCast i, List.drop_eq_nil_of_le (by omega)]
      rfl
    rw [this] at hK
    exact hK
theorem h42 : LoopH Try.prog E c42 0 (bodyX Try.prog E ctS noLoops 1000 5 L0 (lpOf Try.prog 42 0)) :=
  ⟨fun d => ((d.2.2.2.2.1.length : Int) - d.1).toNat, fun d K hK => by
    obtain ⟨i, a, b, c, l, r, q, n, d, ⟨⟩⟩ := d
    obtain ⟨k1, k6⟩ := hK
    obtain ⟨j, hj⟩ := Int.eq_ofNat_of_zero_le (a := i) (Int.le_trans (by decide) k1.1.1.1)
    obtain rfl : i = (j : Int) := hj
    refine Tree.holds_mono (fun y hy => ?_) (h42' j a b c l r q n d K k1 k6)
    cases y with
    | inl d' => exact hy
    | inr y => exact hy⟩
theorem ll42 : LLOk Try.prog E (llOf Try.prog E 42 [(5, c42)]) := llOf_ok fun i hi c hc => by
  have hi : i < 1 := hi
  obtain rfl : i = 0 := by omega
  obtain rfl : c42 = c := Option.some.inj hc
  exact LSnd.mk good names mixes ctS_ok (by decide) h42
theorem h43' (i : Nat) (a b c : Int) (l : List Vec) (r q n d : Int) (K : Ex × List (V T) → Prop) (h : inv42 l i n d) (hK : K (.exit 0, [.n r, .n q, .n (sX l (n, d) i).1, .n (sX l (n, d) i).2])) :
    (bodyD Try.prog E c42 0 (bodyX Try.prog E ctS noLoops 1000 5 L0 (lpOf Try.prog 43 0)) ((i : Int), a, b, c, l, r, q, n, d, ())).holds fun y => match y with
    | .inl d => ((d.2.2.2.2.1.length : Int) - d.1).toNat < ((l.length : Int) - (i : Int)).toNat ∧ (c42.out d).holds K
    | .inr y => K y := by
  rw [b43]
  obtain ⟨⟨⟨h1, h2⟩, hm⟩, hl⟩ := h
  refine way (fun c1 => ?_) fun c1 => ?_
  · have hi : i < l.length := by omega
    have e2 : IntKind.wrap IntKind.i64 ((i : Int) + 1) = ((i + 1 : Nat) : Int) := i64_in' (by omega) (by omega)
    have e3 : IntKind.wrap IntKind.i64 ((i : Int) - 1) = (i : Int) - 1 := i64_in' (by omega) (by omega)
    rw [e2, e3]
    have g1 := hl _ (vi_mem hi)
    have g2 : lgP (vi l ((i : Int) - 1)).X (vi l ((i : Int) - 1)).Y (vi l ((i : Int) - 1)).Z := by
      have := vi_mem (l := l) (i := i - 1) (by omega)
      rw [show ((i - 1 : Nat) : Int) = (i : Int) - 1 by omega] at this
      exact hl _ this
    obtain ⟨t1, t2, _, _⟩ := turn_facts g2 g1
    rw [sX_cons hi] at hK
    have iN : tuN (vi l ((i : Int) - 1)).X (vi l ((i : Int) - 1)).Y (vi l ((i : Int) - 1)).Z (vi l i).X (vi l i).Y (vi l i).Z = tN (vi l ((i : Int) - 1)).X (vi l ((i : Int) - 1)).Y (vi l ((i : Int) - 1)).Z (vi l i).X (vi l i).Y (vi l i).Z := if_pos ⟨g2, g1⟩
    have iD : tuD (vi l ((i : Int) - 1)).X (vi l ((i : Int) - 1)).Y (vi l ((i : Int) - 1)).Z (vi l i).X (vi l i).Y (vi l i).Z = tD (vi l ((i : Int) - 1)).X (vi l ((i : Int) - 1)).Y (vi l ((i : Int) - 1)).Z (vi l i).X (vi l i).Y (vi l i).Z := if_pos ⟨g2, g1⟩
    rw [← iN, ← iD] at t2
    rw [← iD] at t1
    have m2 : mOk (tuN (vi l ((i : Int) - 1)).X (vi l ((i : Int) - 1)).Y (vi l ((i : Int) - 1)).Z (vi l i).X (vi l i).Y (vi l i).Z) (tuD (vi l ((i : Int) - 1)).X (vi l ((i : Int) - 1)).Y (vi l ((i : Int) - 1)).Z (vi l i).X (vi l i).Y (vi l i).Z) := by unfold mOk; omega
    have hlt : ((l.length : Int) - ((i + 1 : Nat) : Int)).toNat < ((l.length : Int) - (i : Int)).toNat := by omega
    have go : ∀ n' d' : Int, mOk n' d' → K (.exit 0, [.n r, .n q, .n (sX l (n', d') ((i + 1 : Nat) : Int)).1, .n (sX l (n', d') ((i + 1 : Nat) : Int)).2]) → (o42 ((i + 1 : Nat) : Int) l r q n' d').holds K := fun n' d' hm' hk => ⟨⟨⟨⟨by omega, h2⟩, hm'⟩, hl⟩, hk⟩
    unfold nx at hK
    refine wayC (by omega) (by omega) fun _ _ => wayC (by omega) c1 fun _ _ => ⟨?_, wayB (fun k => ?_) fun k => ?_⟩
    · unfold mOk at hm; unfold ltP; omega
    · rw [if_pos k] at hK
      exact ⟨hlt, go _ _ m2 hK⟩
    · rw [if_neg (by rw [k]; decide)] at hK
      exact ⟨hlt, go _ _ hm hK⟩
  · have : sX l (n, d) (i : Int) = (n, d) := by
      unfold sX
      rw [show (i : Int).toNat = i from Int.toNat_natCast i, List.drop_eq_nil_of_le (by omega)]
      rfl
    rw [this] at hK
    exact hK
theorem h43 : LoopH Try.prog E c42 0 (bodyX Try.prog E ctS noLoops 1000 5 L0 (lpOf Try.prog 43 0)) :=
  ⟨fun d => ((d.2.2.2.2.1.length : Int) - d.1).toNat, fun d K hK => by
    obtain ⟨i, a, b, c, l, r, q, n, d, ⟨⟩⟩ := d
    obtain ⟨k1, k6⟩ := hK
    obtain ⟨j, hj⟩ := Int.eq_ofNat_of_zero_le (a := i) (Int.le_trans (by decide) k1.1.1.1)
    obtain rfl : i = (j : Int) := hj
    refine Tree.holds_mono (fun y hy => ?_) (h43' j a b c l r q n d K k1 k6)
    cases y with
    | inl d' => exact hy
    | inr y => exact hy⟩
theorem ll43 : LLOk Try.prog E (llOf Try.prog E 43 [(5, c42)]) := llOf_ok fun i hi c hc => by
  have hi : i < 1 := hi
  obtain rfl : i = 0 := by omega
  obtain rfl : c42 = c := Option.some.inj hc
  exact LSnd.mk good names mixes ctS_ok (by decide) h43
theorem tv42 (x y z : Int) (l : List Vec) : runX ctS (llOf Try.prog E 42 [(5, c42)]) 42 [.agg [i64 x, i64 y, i64 z, .sl 23 l false]] [54] =
  (.br (!chk x y z l == (0 : Int))
   (.leaf (.agg [.sym .i64 ((0 : Int)), .sym .i64 ((0 : Int))]))
   (.req (inv42 l (1 : Int) (0 : Int) (1 : Int))
   (.leaf (.agg [.sym .i64 (Prod.fst (sX l ((0 : Int), (1 : Int)) (1 : Int))), .sym .i64 (Prod.snd (sX l ((0 : Int), (1 : Int)) (1 : Int)))])))) := by kernel_rfl
theorem tv43 (x y z : Int) (l : List Vec) : runX ctS (llOf Try.prog E 43 [(5, c42)]) 43 [.agg [i64 x, i64 y, i64 z, .sl 23 l false]] [54] =
  (.br (chk x y z l != (0 : Int))
   (.leaf (.agg [.sym .i64 ((0 : Int)), .sym .i64 ((0 : Int))]))
   (.req (inv42 l (1 : Int) (0 : Int) (1 : Int))
   (.leaf (.agg [.sym .i64 (Prod.fst (sX l ((0 : Int), (1 : Int)) (1 : Int))), .sym .i64 (Prod.snd (sX l ((0 : Int), (1 : Int)) (1 : Int)))])))) := by kernel_rfl
noncomputable def stp (x y z : Int) (l : List Vec) : Int × Int := if chk x y z l = 0 then sX l (0, 1) 1 else (0, 0)
theorem inv_0 {x y z : Int} {l : List Vec} (h : chk x y z l = 0) : inv42 l 1 0 1 := by
  obtain ⟨h1, h2, h3⟩ := chk_lg h
  exact ⟨⟨⟨by decide, by omega⟩, by unfold mOk; omega⟩, h3⟩
theorem s42 (x y z : Int) (l : List Vec) : (runX ctS (llOf Try.prog E 42 [(5, c42)]) 42 [.agg [i64 x, i64 y, i64 z, .sl 23 l false]] [54]).holds fun v => v = .agg [i64 (stp x y z l).1, i64 (stp x y z l).2] := by
  rw [tv42]
  unfold stp
  refine wayNEq (fun k => ?_) fun k => ⟨inv_0 k, ?_⟩
  · rw [if_neg k]; rfl
  · rw [if_pos k]; rfl
theorem s43 (x y z : Int) (l : List Vec) : (runX ctS (llOf Try.prog E 43 [(5, c42)]) 43 [.agg [i64 x, i64 y, i64 z, .sl 23 l false]] [54]).holds fun v => v = .agg [i64 (stp x y z l).1, i64 (stp x y z l).2] := by
  rw [tv43]
  unfold stp
  refine wayNe (fun k => ?_) fun k => ⟨inv_0 k, ?_⟩
  · rw [if_neg k]; rfl
  · rw [if_pos k]; rfl
noncomputable def cStp : Con T := conV Try.prog [shP] [.n, .n, .n, .l 23] fun d => .agg [i64 (stp d.1 d.2.1 d.2.2.1 d.2.2.2.1).1, i64 (stp d.1 d.2.1 d.2.2.1 d.2.2.2.1).2]
theorem stp_ok : ConOk Try.prog E 42 cStp := conV_ok fun d => fact_run ctS_ok ll42 (ts := [54]) rfl (s42 d.1 d.2.1 d.2.2.1 d.2.2.2.1)
theorem stp2_ok : ConOk Try.prog E 43 cStp := conV_ok fun d => fact_run ctS_ok ll43 (ts := [54]) rfl (s43 d.1 d.2.1 d.2.2.1 d.2.2.2.1)
noncomputable def ctU : CTab T := (42, cStp) :: (43, cStp) :: (20, cAwake) :: ctS
theorem ctU_ok : CTabOk Try.prog E ctU := .cons stp_ok (.cons stp2_ok (.cons awake_ok ctS_ok))
theorem tv5 (n a b c x y z f g h : Int) (l : List Vec) : runX ctU noLoops 5 [i64 n, .agg [i64 a, i64 b, i64 c], .agg [i64 x, i64 y, i64 z], .agg [i64 f, i64 g, i64 h, .sl 23 l false]] [4] =
  (.br (decide ((↑(List.length l) : Int) > (24 : Int)))
   (.leaf (.bool (true)))
   (.br (sqN n != sqN n)
    (.leaf (.bool (false)))
    (.br (!sqB n == sqB n)
     (.leaf (.bool (false)))
     (.br (sqN (IntKind.wrap IntKind.i64 (n * n)) != sqN (IntKind.wrap IntKind.i64 (n * n)))
      (.leaf (.bool (false)))
      (.br (!sqB (IntKind.wrap IntKind.i64 (n * n)) == sqB (IntKind.wrap IntKind.i64 (n * n)))
       (.leaf (.bool (false)))
       (.br (tuN a b c x y z == tuN a b c x y z && (tuD a b c x y z == tuD a b c x y z && true))
        (.br (tuE a b c x y z == tuE a b c x y z)
         (.br (Prod.fst (stp f g h l) == Prod.fst (stp f g h l) && (Prod.snd (stp f g h l) == Prod.snd (stp f g h l) && true))
          (.leaf (.bool (true)))
          (.leaf (.bool (false))))
         (.leaf (.bool (false))))
        (.leaf (.bool (false))))))))) := by kernel_rfl
theorem neT {a : Int} : (a != a) = false := by simp
theorem s5 (n a b c x y z f g h : Int) (l : List Vec) : (runX ctU noLoops 5 [i64 n, .agg [i64 a, i64 b, i64 c], .agg [i64 x, i64 y, i64 z], .agg [i64 f, i64 g, i64 h, .sl 23 l false]] [4]).holds fun v => v = .bool true := by
  rw [tv5]
  have nb : ∀ b : Bool, (!b == b) = false := by decide
  have ab : ∀ p q : Int, (p == p && (q == q && true)) = true := fun p q => by simp
  refine way (fun _ => rfl) fun _ => wayNe (fun q => absurd rfl q) fun _ => wayB (fun q => ?_) fun _ => wayNe (fun q => absurd rfl q) fun _ => wayB (fun q => ?_) fun _ => wayB (fun _ => wayEq (fun _ => wayB (fun _ => rfl) fun q => ?_) fun q => absurd rfl q) fun q => ?_
  · rw [nb] at q; exact absurd q (by decide)
  · rw [nb] at q; exact absurd q (by decide)
  · rw [ab] at q; exact absurd q (by decide)
  · rw [ab] at q; exact absurd q (by decide)
end Go.Proofs.Ytmnhfjhlfgebiaa.W
