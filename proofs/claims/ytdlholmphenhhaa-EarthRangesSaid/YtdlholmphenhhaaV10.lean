/- Equal earths. No condition. -/
import Derived.Test.YtdlholmphenhhaaV9
set_option linter.unusedVariables false
set_option maxRecDepth 100000
noncomputable section
namespace Go.Proofs.Ytdlholmphenhhaa.W
open Go Go.Cx Go.RowKit
noncomputable def eqR : List Report → List Report → Bool
  | a :: l, b :: m => (a.Kind == b.Kind && (a.Z == b.Z && (a.P == b.P && true))) && eqR l m
  | _, _ => true
theorem eqR_cons {a b : Report} {l m : List Report} : eqR (a :: l) (b :: m) = ((a.Kind == b.Kind && (a.Z == b.Z && (a.P == b.P && true))) && eqR l m) := rfl
theorem eqR_nil {m : List Report} : eqR [] m = true := rfl
theorem eqR_self : ∀ l : List Report, eqR l l = true
  | [] => rfl
  | a :: l => by rw [eqR_cons, eqR_self l]; simp
noncomputable def o45 (i b : Int) (p q r s : List Knot) (x y : Int) (l : List Report) (b' : Int) (p' q' r' s' : List Knot) (x' y' : Int) (l' : List Report) : Tree (Ex × List (V T)) :=
  .req (0 ≤ i ∧ l.length = l'.length ∧ l.length ≤ 1000) (.br (eqR (l.drop i.toNat) (l'.drop i.toNat)) (.leaf (.exit 0, eD b p q r s x y l ++ eD b' p' q' r' s' x' y' l')) (.leaf (.ret, [.t false])))
noncomputable def c45 : LoopC T := ⟨[.n, .n, .l 78, .l 78, .l 78, .l 78, .n, .n, .l 55, .n, .l 78, .l 78, .l 78, .l 78, .n, .n, .l 55], ⟨78, [(2, .one (.o 0 0)), (3, .one (.o 1 0)), (5, .one (.i .i64))], [.c cellsE, .c cellsE]⟩, fun e => match e with
    | .ret => ⟨78, [(4, .one .b)], []⟩
    | _ => ⟨78, [(2, .one (.o 0 0)), (3, .one (.o 1 0))], [.c cellsE, .c cellsE]⟩, 10, fun d => o45 d.1 d.2.1 d.2.2.1 d.2.2.2.1 d.2.2.2.2.1 d.2.2.2.2.2.1 d.2.2.2.2.2.2.1 d.2.2.2.2.2.2.2.1 d.2.2.2.2.2.2.2.2.1 d.2.2.2.2.2.2.2.2.2.1 d.2.2.2.2.2.2.2.2.2.2.1 d.2.2.2.2.2.2.2.2.2.2.2.1 d.2.2.2.2.2.2.2.2.2.2.2.2.1 d.2.2.2.2.2.2.2.2.2.2.2.2.2.1 d.2.2.2.2.2.2.2.2.2.2.2.2.2.2.1 d.2.2.2.2.2.2.2.2.2.2.2.2.2.2.2.1 d.2.2.2.2.2.2.2.2.2.2.2.2.2.2.2.2.1⟩
theorem b45 (i b : Int) (p q r s : List Knot) (x y : Int) (l : List Report) (b' : Int) (p' q' r' s' : List Knot) (x' y' : Int) (l' : List Report) : bodyD Try.prog E c45 0 (bodyX Try.prog E ctC noLoops 1000 5 L0 (lpOf Try.prog 45 0)) (i, b, p, q, r, s, x, y, l, b', p', q', r', s', x', y', l', ()) =
  (.br (decide (i < (↑(List.length l) : Int)))
   (.req ((decide ((0 : Int) ≤ i) && decide (i < (↑(List.length l) : Int))) = true)
   (.req ((decide ((0 : Int) ≤ i) && decide (i < (↑(List.length l') : Int))) = true)
   (.br (!(Report.Kind (ri l i) == Report.Kind (ri l' i) && (Report.Z (ri l i) == Report.Z (ri l' i) && (Report.P (ri l i) == Report.P (ri l' i) && true))))
    (.leaf (.inr (.ret, [.t (false)])))
    (.leaf (.inl (IntKind.wrap IntKind.i64 (i + (1 : Int)), (b, (p, (q, (r, (s, (x, (y, (l, (b', (p', (q', (r', (s', (x', (y', (l', ()))))))))))))))))))))))
   (.leaf (.inr (.exit (0 : Nat), [.n (b), .l (78 : Nat) (p), .l (78 : Nat) (q), .l (78 : Nat) (r), .l (78 : Nat) (s), .n (x), .n (y), .l (55 : Nat) (l), .n (b'), .l (78 : Nat) (p'), .l (78 : Nat) (q'), .l (78 : Nat) (r'), .l (78 : Nat) (s'), .n (x'), .n (y'), .l (55 : Nat) (l')])))) := by kernel_rfl
theorem h45' (i : Nat) (b : Int) (p q r s : List Knot) (x y : Int) (l : List Report) (b' : Int) (p' q' r' s' : List Knot) (x' y' : Int) (l' : List Report) (K : Ex × List (V T) → Prop) (hl : l.length = l'.length) (hn : l.length ≤ 1000) (hK : (Tree.br (eqR (l.drop i) (l'.drop i)) (.leaf (.exit 0, eD b p q r s x y l ++ eD b' p' q' r' s' x' y' l')) (.leaf (.ret, [.t false])) : Tree (Ex × List (V T))).holds K) :
    (bodyD Try.prog E c45 0 (bodyX Try.prog E ctC noLoops 1000 5 L0 (lpOf Try.prog 45 0)) ((i : Int), b, p, q, r, s, x, y, l, b', p', q', r', s', x', y', l', ())).holds fun y => match y with
    | .inl d => ((d.2.2.2.2.2.2.2.2.1.length : Int) - d.1).toNat < ((l.length : Int) - (i : Int)).toNat ∧ (c45.out d).holds K
    | .inr y => K y := by
  rw [b45]
  refine way (fun c => wayC (by omega) c fun _ _ => wayC (by omega) (by omega) fun _ _ => ?_) fun c => ?_
  · have e2 : IntKind.wrap IntKind.i64 ((i : Int) + 1) = ((i + 1 : Nat) : Int) := i64_in' (by omega) (by omega)
    rw [e2]
    rw [drop_ri (by omega), drop_ri (l := l') (by omega), eqR_cons] at hK
    have hlt : ((l.length : Int) - ((i + 1 : Nat) : Int)).toNat < ((l.length : Int) - (i : Int)).toNat := by omega
    have h3 : (0 : Int) ≤ ((i + 1 : Nat) : Int) := by omega
    generalize ((ri l i).Kind == (ri l' i).Kind && ((ri l i).Z == (ri l' i).Z && ((ri l i).P == (ri l' i).P && true))) = w at hK ⊢
    cases w with
    | true =>
      rw [Bool.true_and] at hK
      exact ⟨fun h => (by cases h), fun _ => ⟨hlt, ⟨h3, hl, hn⟩, hK⟩⟩
    | false => exact ⟨fun _ => hK.2 rfl, fun h => (by cases h)⟩
  · rw [show l.drop i = [] from List.drop_eq_nil_of_le (by omega), eqR_nil] at hK
    exact hK.1 rfl
theorem h45 : LoopH Try.prog E c45 0 (bodyX Try.prog E ctC noLoops 1000 5 L0 (lpOf Try.prog 45 0)) :=
  ⟨fun d => ((d.2.2.2.2.2.2.2.2.1.length : Int) - d.1).toNat, fun d K hK => by
    obtain ⟨i, b, p, q, r, s, x, y, l, b', p', q', r', s', x', y', l', ⟨⟩⟩ := d
    obtain ⟨⟨k1, k2, k3⟩, k4⟩ := hK
    obtain ⟨m, hm⟩ := Int.eq_ofNat_of_zero_le k1
    obtain rfl : i = (m : Int) := hm
    refine Tree.holds_mono (fun y hy => ?_) (h45' m b p q r s x y l b' p' q' r' s' x' y' l' K k2 k3 k4)
    cases y with
    | inl d' => exact hy
    | inr y => exact hy⟩
theorem ll45 : LLOk Try.prog E (llOf Try.prog E 45 [(4, c45)]) := llOf_ok fun i hi c hc => by
  have hi : i < 1 := hi
  obtain rfl : i = 0 := by omega
  obtain rfl : c45 = c := Option.some.inj hc
  exact LSnd.mk good names mixes ctC_ok (by decide) h45
theorem t45 (e f : Earth) : runX ctC (llOf Try.prog E 45 [(4, c45)]) 45 [e.av, f.av] [4] =
  (.br (Earth.Bottom e != Earth.Bottom f)
   (.leaf (.bool (false)))
   (.br (Earth.GLo e != Earth.GLo f)
    (.leaf (.bool (false)))
    (.br (Earth.GHi e != Earth.GHi f)
     (.leaf (.bool (false)))
     (.br ((↑(List.length (Earth.Reports e)) : Int) != (↑(List.length (Earth.Reports f)) : Int))
      (.leaf (.bool (false)))
      (.req ((0 : Int) ≤ (0 : Int) ∧ List.length (Earth.Reports e) = List.length (Earth.Reports f) ∧ List.length (Earth.Reports e) ≤ (1000 : Nat))
      (.br (eqR (List.drop (Int.toNat (0 : Int)) (Earth.Reports e)) (List.drop (Int.toNat (0 : Int)) (Earth.Reports f)))
       (.req (List.length (Line.Knots (Earth.PoreLo e)) ≤ (1000 : Nat) ∧ List.length (Line.Knots (Earth.PoreLo f)) ≤ (1000 : Nat))
       (.br (sameB (Line.Knots (Earth.PoreLo e)) (Line.Knots (Earth.PoreLo f)))
        (.req (List.length (Line.Knots (Earth.PoreHi e)) ≤ (1000 : Nat) ∧ List.length (Line.Knots (Earth.PoreHi f)) ≤ (1000 : Nat))
        (.br (sameB (Line.Knots (Earth.PoreHi e)) (Line.Knots (Earth.PoreHi f)))
         (.req (List.length (Line.Knots (Earth.FracLo e)) ≤ (1000 : Nat) ∧ List.length (Line.Knots (Earth.FracLo f)) ≤ (1000 : Nat))
         (.br (sameB (Line.Knots (Earth.FracLo e)) (Line.Knots (Earth.FracLo f)))
          (.req (List.length (Line.Knots (Earth.FracHi e)) ≤ (1000 : Nat) ∧ List.length (Line.Knots (Earth.FracHi f)) ≤ (1000 : Nat))
          (.leaf (.bool (sameB (Line.Knots (Earth.FracHi e)) (Line.Knots (Earth.FracHi f))))))
          (.leaf (.bool (false)))))
         (.leaf (.bool (false)))))
        (.leaf (.bool (false)))))
       (.leaf (.bool (false))))))))) := by kernel_rfl
noncomputable def sameE (e f : Earth) : Bool := (e.Bottom == f.Bottom) && ((e.GLo == f.GLo) && ((e.GHi == f.GHi) && (((e.Reports.length : Int) == (f.Reports.length : Int)) && (eqR e.Reports f.Reports && (sameB e.PoreLo.Knots f.PoreLo.Knots && (sameB e.PoreHi.Knots f.PoreHi.Knots && (sameB e.FracLo.Knots f.FracLo.Knots && sameB e.FracHi.Knots f.FracHi.Knots)))))))
theorem sameE_self (e : Earth) : sameE e e = true := by
  unfold sameE
  rw [eqR_self, sameB_self, sameB_self, sameB_self, sameB_self]
  simp
theorem wayK {b : Bool} {t : Tree (AV T)} {r : Bool} (h : b = true → t.holds fun v => v = .bool r) : (Tree.br b t (.leaf (.bool false))).holds fun v => v = .bool (b && r) := by
  cases b with
  | true => exact ⟨fun _ => h rfl, fun h => by cases h⟩
  | false => exact ⟨fun h => (by cases h), fun _ => rfl⟩
theorem wayKN {a b : Int} {t : Tree (AV T)} {r : Bool} (h : a = b → t.holds fun v => v = .bool r) : (Tree.br (a != b) (.leaf (.bool false)) t).holds fun v => v = .bool ((a == b) && r) := by
  by_cases e : a = b
  · subst e
    refine wayNe (fun k => absurd rfl k) fun _ => ?_
    rw [show (a == a) = true by simp, Bool.true_and]
    exact h rfl
  · refine wayNe (fun _ => ?_) fun k => absurd k e
    rw [show (a == b) = false by simpa using e, Bool.false_and]
    rfl
theorem s45 (e f : Earth) (h : smallE e ∧ smallE f) : (runX ctC (llOf Try.prog E 45 [(4, c45)]) 45 [e.av, f.av] [4]).holds fun v => v = .bool (sameE e f) := by
  rw [t45]
  obtain ⟨⟨⟨h1, h2, h3, h4⟩, h5⟩, ⟨g1, g2, g3, g4⟩, g5⟩ := h
  unfold sameE
  refine wayKN fun _ => wayKN fun _ => wayKN fun _ => wayKN fun k => ⟨⟨by decide, by omega, by omega⟩, ?_⟩
  exact wayK fun _ => ⟨⟨by omega, by omega⟩, wayK fun _ => ⟨⟨by omega, by omega⟩, wayK fun _ => ⟨⟨by omega, by omega⟩, wayK fun _ => ⟨⟨by omega, by omega⟩, rfl⟩⟩⟩⟩
@[reducible] def sig2E : List VT := [.n, .l 78, .l 78, .l 78, .l 78, .n, .n, .l 55, .n, .l 78, .l 78, .l 78, .l 78, .n, .n, .l 55]
@[reducible] noncomputable def e1 (d : Den T sig2E) : Earth := ⟨d.1, ⟨d.2.1⟩, ⟨d.2.2.1⟩, ⟨d.2.2.2.1⟩, ⟨d.2.2.2.2.1⟩, d.2.2.2.2.2.1, d.2.2.2.2.2.2.1, d.2.2.2.2.2.2.2.1⟩
@[reducible] noncomputable def e2 (d : Den T sig2E) : Earth := ⟨d.2.2.2.2.2.2.2.2.1, ⟨d.2.2.2.2.2.2.2.2.2.1⟩, ⟨d.2.2.2.2.2.2.2.2.2.2.1⟩, ⟨d.2.2.2.2.2.2.2.2.2.2.2.1⟩, ⟨d.2.2.2.2.2.2.2.2.2.2.2.2.1⟩, d.2.2.2.2.2.2.2.2.2.2.2.2.2.1, d.2.2.2.2.2.2.2.2.2.2.2.2.2.2.1, d.2.2.2.2.2.2.2.2.2.2.2.2.2.2.2.1⟩
noncomputable def cSameE : Con T := conP Try.prog [shE, shE] sig2E (fun d => smallE (e1 d) ∧ smallE (e2 d)) fun d => .bool (sameE (e1 d) (e2 d))
theorem sameE_ok : ConOk Try.prog E 45 cSameE := conP_ok fun d hd => fact_run ctC_ok ll45 (ts := [4]) rfl (s45 (e1 d) (e2 d) hd)
end Go.Proofs.Ytdlholmphenhhaa.W
