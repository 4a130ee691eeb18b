/- EarthFits: reports. No condition. -/
import Derived.Test.YtdlholmphenhhaaF3
import Derived.Test.YtdlholmphenhhaaV6
import Derived.Test.YtdlholmphenhhaaCz7
set_option linter.unusedVariables false
set_option maxRecDepth 100000
set_option maxHeartbeats 4000000
noncomputable section
namespace Go.Proofs.Ytdlholmphenhhaa.W
open Go Go.Cx Go.RowKit
theorem tv79 (p f : List Knot) (k z v : Int) : runX ctV noLoops 79 [.agg [.sl 78 p false, .sl 78 f false], .agg [.sym .i64 k, i64 z, i64 v]] [4] =
  (.br (k == (1 : Int))
   (.req (isR p)
   (.leaf (.bool (decide (valLo p z ≥ v)))))
   (.br (k == (2 : Int))
    (.req (isR p)
    (.leaf (.bool (decide (valHi p z ≤ v)))))
    (.br (k == (3 : Int))
     (.req (isR f)
     (.leaf (.bool (decide (valLo f z ≥ v)))))
     (.req (isR f)
     (.leaf (.bool (decide (valHi f z ≤ v)))))))) := by kernel_rfl
noncomputable def rq (l : List Report) (i : Int) : Report := ixD E 55 l i
theorem drop_rq {l : List Report} {i : Nat} (h : i < l.length) : l.drop i = rq l i :: l.drop (i + 1) := drop_ix (E := E) (τ := 55) h
noncomputable def agB (p f : List Knot) (r : Report) : Bool := if r.Kind = 1 then decide (valLo p r.Z ≥ r.P) else if r.Kind = 2 then decide (valHi p r.Z ≤ r.P) else if r.Kind = 3 then decide (valLo f r.Z ≥ r.P) else decide (valHi f r.Z ≤ r.P)
theorem s79 (p f : List Knot) (r : Report) (hp : isR p) (hf : isR f) : (runX ctV noLoops 79 [.agg [.sl 78 p false, .sl 78 f false], .agg [.sym .i64 r.Kind, i64 r.Z, i64 r.P]] [4]).holds fun v => v = .bool (agB p f r) := by
  rw [tv79]
  unfold agB
  refine wayEq (fun c => ⟨hp, ?_⟩) fun c => wayEq (fun c2 => ⟨hp, ?_⟩) fun c2 => wayEq (fun c3 => ⟨hf, ?_⟩) fun c3 => ⟨hf, ?_⟩
  · rw [if_pos c]; rfl
  · rw [if_neg c, if_pos c2]; rfl
  · rw [if_neg c, if_neg c2, if_pos c3]; rfl
  · rw [if_neg c, if_neg c2, if_neg c3]; rfl
noncomputable def cAg : Con T := conP Try.prog [.agg [.s 78, .s 78], .agg [.i .i64, .i .i64, .i .i64]] [.l 78, .l 78, .n, .n, .n] (fun d => isR d.1 ∧ isR d.2.1) fun d => .bool (agB d.1 d.2.1 ⟨d.2.2.1, d.2.2.2.1, d.2.2.2.2.1⟩)
theorem ag_ok : ConOk Try.prog E 79 cAg := conP_ok fun d hd => fact_run ctV_ok noLoops_ok (ts := [4]) rfl (s79 d.1 d.2.1 ⟨d.2.2.1, d.2.2.2.1, d.2.2.2.2.1⟩ hd.1 hd.2)
def kOk (l : List Report) : Prop := ∀ r ∈ l, 1 ≤ r.Kind ∧ r.Kind ≤ 4
noncomputable def o83 (i : Int) (l : List Report) (p q : List Knot) : Tree (Ex × List (V T)) := .req (((isR p ∧ isR q) ∧ 0 ≤ i ∧ l.length ≤ 24) ∧ kOk l) (.br ((l.drop i.toNat).all (agB p q)) (.leaf (.exit 0, [])) (.leaf (.ret, [.t false])))
noncomputable def c83 : LoopC T := ⟨[.n, .n, .l 78, .l 78, .l 78, .l 78, .n, .n, .l 55, .l 78, .l 78], ⟨62, [(2, .one (.o 0 0)), (3, .one (.o 1 0)), (5, .one (.i .i64))], [.c [.i .i64, .s 78, .s 78, .s 78, .s 78, .i .i64, .i .i64, .s 55], .c [.s 78, .s 78]]⟩, fun e => match e with
    | .ret => ⟨62, [(4, .one .b)], []⟩
    | _ => ⟨62, [], []⟩, 20, fun d => o83 d.1 d.2.2.2.2.2.2.2.2.1 d.2.2.2.2.2.2.2.2.2.1 d.2.2.2.2.2.2.2.2.2.2.1⟩
theorem b83 (i b : Int) (c d e f : List Knot) (g h : Int) (l : List Report) (p q : List Knot) : bodyD Try.prog E c83 0 (bodyX Try.prog E ctV noLoops 1000 5 L0 (lpOf Try.prog 83 0)) (i, b, c, d, e, f, g, h, l, p, q, ()) =
  (.br (decide (i < (↑(List.length l) : Int)))
   (.req ((decide ((0 : Int) ≤ i) && decide (i < (↑(List.length l) : Int))) = true)
   (.req (isR p)
   (.req (isR q)
   (.br (Report.Kind (rq l i) == (2 : Int))
    (.br (!decide (valHi p (Report.Z (rq l i)) ≤ Report.P (rq l i)))
     (.leaf (.inr (.ret, [.t (false)])))
     (.leaf (.inl (IntKind.wrap IntKind.i64 (i + (1 : Int)), (b, (c, (d, (e, (f, (g, (h, (l, (p, (q, ()))))))))))))))
    (.br (Report.Kind (rq l i) == (3 : Int))
     (.br (!decide (valLo q (Report.Z (rq l i)) ≥ Report.P (rq l i)))
      (.leaf (.inr (.ret, [.t (false)])))
      (.leaf (.inl (IntKind.wrap IntKind.i64 (i + (1 : Int)), (b, (c, (d, (e, (f, (g, (h, (l, (p, (q, ()))))))))))))))
     (.br (Report.Kind (rq l i) == (4 : Int))
      (.br (!decide (valHi q (Report.Z (rq l i)) ≤ Report.P (rq l i)))
       (.leaf (.inr (.ret, [.t (false)])))
       (.leaf (.inl (IntKind.wrap IntKind.i64 (i + (1 : Int)), (b, (c, (d, (e, (f, (g, (h, (l, (p, (q, ()))))))))))))))
      (.br (!decide (valLo p (Report.Z (rq l i)) ≥ Report.P (rq l i)))
       (.leaf (.inr (.ret, [.t (false)])))
       (.leaf (.inl (IntKind.wrap IntKind.i64 (i + (1 : Int)), (b, (c, (d, (e, (f, (g, (h, (l, (p, (q, ()))))))))))))))))))))
   (.leaf (.inr (.exit (0 : Nat), [])))) := by kernel_rfl
theorem ag_cons {p q : List Knot} {l : List Report} {i : Nat} (h : (i : Int) < l.length) : (l.drop i).all (agB p q) = (agB p q (rq l i) && (l.drop (i + 1)).all (agB p q)) := by
  rw [drop_rq (by omega)]; rfl
theorem rq_mem {l : List Report} {i : Nat} (h : (i : Int) < l.length) : rq l i ∈ l := by
  have : rq l i ∈ l.drop i := by rw [drop_rq (by omega)]; exact List.mem_cons_self
  exact List.mem_of_mem_drop this
theorem h83' (i : Nat) (b : Int) (c d e f : List Knot) (g h : Int) (l : List Report) (p q : List Knot) (K : Ex × List (V T) → Prop) (hp : isR p ∧ isR q) (hl : l.length ≤ 24) (hk : kOk l) (hK : (Tree.br ((l.drop i).all (agB p q)) (.leaf (.exit 0, [])) (.leaf (.ret, [.t false])) : Tree (Ex × List (V T))).holds K) :
    (bodyD Try.prog E c83 0 (bodyX Try.prog E ctV noLoops 1000 5 L0 (lpOf Try.prog 83 0)) ((i : Int), b, c, d, e, f, g, h, l, p, q, ())).holds fun y => match y with
    | .inl d => ((d.2.2.2.2.2.2.2.2.1.length : Int) - d.1).toNat < ((l.length : Int) - (i : Int)).toNat ∧ (c83.out d).holds K
    | .inr y => K y := by
  rw [b83]
  refine way (fun cc => wayC (by omega) cc fun _ _ => ⟨hp.1, hp.2, ?_⟩) fun cc => ?_
  · have e2 : IntKind.wrap IntKind.i64 ((i : Int) + 1) = ((i + 1 : Nat) : Int) := i64_in' (by omega) (by omega)
    rw [e2]
    rw [ag_cons cc] at hK
    have hlt : ((l.length : Int) - ((i + 1 : Nat) : Int)).toNat < ((l.length : Int) - (i : Int)).toNat := by omega
    have h3 : (0 : Int) ≤ ((i + 1 : Nat) : Int) := by omega
    have kk := hk _ (rq_mem cc)
    have no : agB p q (rq l i) = false → K (.ret, [.t false]) := fun z => by rw [z, Bool.false_and] at hK; exact hK.2 rfl
    have yes : agB p q (rq l i) = true → ((l.length : Int) - ((i + 1 : Nat) : Int)).toNat < ((l.length : Int) - (i : Int)).toNat ∧ (c83.out (((i + 1 : Nat) : Int), b, c, d, e, f, g, h, l, p, q, ())).holds K := fun z => by
      rw [z, Bool.true_and] at hK
      exact ⟨hlt, ⟨⟨hp, h3, hl⟩, hk⟩, hK⟩
    have nb : ∀ {x : Bool}, (!x) = true → x = false := fun z => by simpa using z
    have nt : ∀ {x : Bool}, (!x) = false → x = true := fun z => by simpa using z
    refine wayEq (fun k2 => ?_) fun k2 => wayEq (fun k3 => ?_) fun k3 => wayEq (fun k4 => ?_) fun k4 => ?_
    · have ez : agB p q (rq l i) = decide (valHi p (rq l i).Z ≤ (rq l i).P) := by unfold agB; rw [if_neg (by omega), if_pos k2]
      exact wayB (fun z => no (ez.trans (nb z))) fun z => yes (ez.trans (nt z))
    · have ez : agB p q (rq l i) = decide (valLo q (rq l i).Z ≥ (rq l i).P) := by unfold agB; rw [if_neg (by omega), if_neg k2, if_pos k3]
      exact wayB (fun z => no (ez.trans (nb z))) fun z => yes (ez.trans (nt z))
    · have ez : agB p q (rq l i) = decide (valHi q (rq l i).Z ≤ (rq l i).P) := by unfold agB; rw [if_neg (by omega), if_neg k2, if_neg k3]
      exact wayB (fun z => no (ez.trans (nb z))) fun z => yes (ez.trans (nt z))
    · have ez : agB p q (rq l i) = decide (valLo p (rq l i).Z ≥ (rq l i).P) := by unfold agB; rw [if_pos (by omega)]
      exact wayB (fun z => no (ez.trans (nb z))) fun z => yes (ez.trans (nt z))
  · rw [List.drop_eq_nil_of_le (by omega)] at hK
    exact hK.1 rfl
theorem h83 : LoopH Try.prog E c83 0 (bodyX Try.prog E ctV noLoops 1000 5 L0 (lpOf Try.prog 83 0)) :=
  ⟨fun d => ((d.2.2.2.2.2.2.2.2.1.length : Int) - d.1).toNat, fun d K hK => by
    obtain ⟨i, b, c, d, e, f, g, h, l, p, q, ⟨⟩⟩ := d
    obtain ⟨⟨⟨k0, k1, k2⟩, k3⟩, k4⟩ := hK
    obtain ⟨j, hj⟩ := Int.eq_ofNat_of_zero_le k1
    obtain rfl : i = (j : Int) := hj
    refine Tree.holds_mono (fun y hy => ?_) (h83' j b c d e f g h l p q K k0 k2 k3 k4)
    cases y with
    | inl d' => exact hy
    | inr y => exact hy⟩
theorem ll83 : LLOk Try.prog E (llOf Try.prog E 83 [(2, c83)]) := llOf_ok fun i hi c hc => by
  have hi : i < 1 := hi
  obtain rfl : i = 0 := by omega
  obtain rfl : c83 = c := Option.some.inj hc
  exact LSnd.mk good names mixes ctV_ok (by decide) h83
theorem tv83 (e : Earth) (p q : List Knot) : runX ctV (llOf Try.prog E 83 [(2, c83)]) 83 [e.av, .agg [.sl 78 p false, .sl 78 q false]] [4] =
  (.req (((isR p ∧ isR q) ∧ (0 : Int) ≤ (0 : Int) ∧ List.length (Earth.Reports e) ≤ (24 : Nat)) ∧ kOk (Earth.Reports e))
  (.br (List.all (List.drop (Int.toNat (0 : Int)) (Earth.Reports e)) (agB p q))
   (.leaf (.bool (true)))
   (.leaf (.bool (false))))) := by kernel_rfl
/-! ### the program's search -/
noncomputable def fiR (p : Report → Bool) : List Report → Int → Int
  | [], _ => -1
  | x :: l, i => if p x = true then i else fiR p l (i + 1)
theorem fiR_cons {p : Report → Bool} {x : Report} {l : List Report} {i : Int} : fiR p (x :: l) i = if p x = true then i else fiR p l (i + 1) := rfl
theorem fiR_any {p : Report → Bool} : ∀ {l : List Report} {i : Int}, 0 ≤ i → decide (fiR p l i ≥ 0) = l.any p
  | [], i, h => rfl
  | x :: l, i, h => by
    rw [fiR_cons, List.any_cons]
    cases hx : p x with
    | true => rw [if_pos rfl]; simpa using h
    | false => rw [if_neg (by simp), Bool.false_or]; exact fiR_any (by omega)
theorem fiR_no {p : Report → Bool} : ∀ (l : List Report) (i : Int), ¬ fiR p l i ≥ 0 → 0 ≤ i → -1 = fiR p l i
  | [], _, _, _ => rfl
  | x :: l, i, h, hi => by
    rw [fiR_cons] at h ⊢
    split
    · rename_i e; rw [if_pos e] at h; omega
    · rename_i e; rw [if_neg e] at h; exact fiR_no l _ h (by omega)
@[reducible] noncomputable def dis (p f : List Knot) (r : Report) : Bool := !agB p f r
noncomputable def ctAg : CTab T := [(79, cAg)]
theorem ctAg_ok : CTabOk Try.prog E ctAg := .cons ag_ok .nil
noncomputable def o103 (l : List Report) (p f : List Knot) (n i : Int) : Tree (Ex × List (V T)) := .req (((0 ≤ i ∧ n = l.length) ∧ l.length ≤ 24) ∧ isR p ∧ isR f) (.br (decide (fiR (dis p f) (l.drop i.toNat) i ≥ 0)) (.leaf (.ret, [.n (fiR (dis p f) (l.drop i.toNat) i)])) (.leaf (.exit 0, [])))
noncomputable def c103 : LoopC T := ⟨[.l 55, .l 78, .l 78, .n, .n], ⟨19, [(0, .one (.s 55)), (1, .fn 78 [.r [.s 78, .s 78]]), (7, .one (.i .i64)), (8, .one (.i .i64))], []⟩, fun e => match e with
    | .ret => ⟨19, [(4, .one (.i .i64))], []⟩
    | _ => ⟨19, [], []⟩, 10, fun d => o103 d.1 d.2.1 d.2.2.1 d.2.2.2.1 d.2.2.2.2.1⟩
theorem b103 (l : List Report) (p f : List Knot) (n i : Int) : bodyD Try.prog E c103 0 (bodyX Try.prog E ctAg noLoops 1000 5 L0 (lpOf Try.prog 103 0)) (l, p, f, n, i, ()) =
  (.br (decide (i < n))
   (.req ((decide ((0 : Int) ≤ i) && decide (i < (↑(List.length l) : Int))) = true)
   (.req (isR p ∧ isR f)
   (.br (!agB p f (Report.mk (Report.Kind (rq l i)) (Report.Z (rq l i)) (Report.P (rq l i))))
    (.leaf (.inr (.ret, [.n (i)])))
    (.leaf (.inl (l, (p, (f, (n, (IntKind.wrap IntKind.i64 (i + (1 : Int)), ()))))))))))
   (.leaf (.inr (.exit (0 : Nat), [])))) := by kernel_rfl
theorem dis_cons {p f : List Knot} {l : List Report} {i : Nat} {j : Int} (h : (i : Int) < l.length) : fiR (dis p f) (l.drop i) j = if dis p f (rq l i) = true then j else fiR (dis p f) (l.drop (i + 1)) (j + 1) := by
  rw [drop_rq (by omega), fiR_cons]
theorem h103' (l : List Report) (p f : List Knot) (i : Nat) (K : Ex × List (V T) → Prop) (hl : l.length ≤ 24) (hp : isR p ∧ isR f) (hK : (Tree.br (decide (fiR (dis p f) (l.drop i) i ≥ 0)) (.leaf (.ret, [.n (fiR (dis p f) (l.drop i) i)])) (.leaf (.exit 0, [])) : Tree (Ex × List (V T))).holds K) :
    (bodyD Try.prog E c103 0 (bodyX Try.prog E ctAg noLoops 1000 5 L0 (lpOf Try.prog 103 0)) (l, p, f, (l.length : Int), (i : Int), ())).holds fun y => match y with
    | .inl d => ((d.1.length : Int) - d.2.2.2.2.1).toNat < ((l.length : Int) - (i : Int)).toNat ∧ (c103.out d).holds K
    | .inr y => K y := by
  rw [b103]
  refine way (fun c => wayC (by omega) c fun _ _ => ⟨hp, ?_⟩) fun c => ?_
  · have e2 : IntKind.wrap IntKind.i64 ((i : Int) + 1) = ((i + 1 : Nat) : Int) := i64_in' (by omega) (by omega)
    rw [e2]
    rw [dis_cons c] at hK
    have hlt : ((l.length : Int) - ((i + 1 : Nat) : Int)).toNat < ((l.length : Int) - (i : Int)).toNat := by omega
    have h3 : (0 : Int) ≤ ((i + 1 : Nat) : Int) := by omega
    refine wayB (fun q => ?_) fun q => ?_
    · have q : dis p f (rq l i) = true := q
      rw [if_pos q] at hK
      exact hK.1 (decide_eq_true (by omega))
    · have q : dis p f (rq l i) = false := q
      rw [if_neg (by rw [q]; decide)] at hK
      exact ⟨hlt, ⟨⟨⟨h3, rfl⟩, hl⟩, hp⟩, hK⟩
  · rw [List.drop_eq_nil_of_le (by omega)] at hK
    exact hK.2 (decide_eq_false (show ¬ (-1 : Int) ≥ 0 by decide))
theorem h103 : LoopH Try.prog E c103 0 (bodyX Try.prog E ctAg noLoops 1000 5 L0 (lpOf Try.prog 103 0)) :=
  ⟨fun d => ((d.1.length : Int) - d.2.2.2.2.1).toNat, fun d K hK => by
    obtain ⟨l, p, f, n, i, ⟨⟩⟩ := d
    obtain ⟨⟨⟨⟨k1, k2⟩, k3⟩, k5⟩, k4⟩ := hK
    obtain ⟨j, hj⟩ := Int.eq_ofNat_of_zero_le k1
    obtain rfl : i = (j : Int) := hj
    obtain rfl : n = ((l : List Report).length : Int) := k2
    refine Tree.holds_mono (fun y hy => ?_) (h103' l p f j K k3 k5 k4)
    cases y with
    | inl d' => exact hy
    | inr y => exact hy⟩
theorem ll103 : LLOk Try.prog E (llOf Try.prog E 103 [(2, c103)]) := llOf_ok fun i hi c hc => by
  have hi : i < 1 := hi
  obtain rfl : i = 0 := by omega
  obtain rfl : c103 = c := Option.some.inj hc
  exact LSnd.mk good names mixes ctAg_ok (by decide) h103
theorem tv103 (l : List Report) (p f : List Knot) : runX ctAg (llOf Try.prog E 103 [(2, c103)]) 103 [.sl 55 l false, .fn 78 [.rp [.sl 78 p false, .sl 78 f false]]] [3] =
  (.req ((((0 : Int) ≤ (0 : Int) ∧ (↑(List.length l) : Int) = (↑(List.length l) : Int)) ∧ List.length l ≤ (24 : Nat)) ∧ isR p ∧ isR f)
  (.br (decide (fiR (dis p f) (List.drop (Int.toNat (0 : Int)) l) (0 : Int) ≥ (0 : Int)))
   (.leaf (.sym .i64 (fiR (dis p f) (List.drop (Int.toNat (0 : Int)) l) (0 : Int))))
   (.leaf (.sym .i64 ((-1 : Int)))))) := by kernel_rfl
theorem fact_runF {ct : CTab T} (hc : CTabOk Try.prog E ct) {ll : Nat → Nat → LoopTab T} (hl : LLOk Try.prog E ll) {f : Nat} {xs : List (AV T)} {ts : List Nat} {v : AV T} (ha : xs.all flt3 = true)
    (h : (runX ct ll f xs ts).holds fun x => x = v) : Fact Try.prog E f xs v :=
  fact_of_run3 good decOk (callX_ok good names mixes hc hl 8) ha h
theorem s103 (l : List Report) (p f : List Knot) (h : l.length ≤ 24 ∧ isR p ∧ isR f) : (runX ctAg (llOf Try.prog E 103 [(2, c103)]) 103 [.sl 55 l false, .fn 78 [.rp [.sl 78 p false, .sl 78 f false]]] [3]).holds fun v => v = i64 (fiR (dis p f) l 0) := by
  rw [tv103]
  exact ⟨⟨⟨⟨by decide, rfl⟩, h.1⟩, h.2⟩, way (fun k => rfl) fun k => congrArg i64 (fiR_no l 0 k (by decide))⟩
noncomputable def cIdxR : Con T := conFP Try.prog E [37, 91] [.one (.s 55), .fn 78 [.r [.s 78, .s 78]]] [.l 55, .l 78, .l 78] (fun d => (d.1 : List Report).length ≤ 24 ∧ isR d.2.1 ∧ isR d.2.2.1) fun d => i64 (fiR (dis d.2.1 d.2.2.1) d.1 0)
theorem idxR_ok : ConOk Try.prog E 103 cIdxR := conFP_ok good decOk fun d hd => fact_runF ctAg_ok ll103 (ts := [3]) rfl (s103 d.1 d.2.1 d.2.2.1 hd)
noncomputable def ctIx : CTab T := [(103, cIdxR)]
theorem ctIx_ok : CTabOk Try.prog E ctIx := .cons idxR_ok .nil
theorem tv80 (l : List Report) (p f : List Knot) : runX ctIx noLoops 80 [.sl 55 l false, .fn 78 [.rp [.sl 78 p false, .sl 78 f false]]] [4] =
  (.req (List.length l ≤ (24 : Nat) ∧ isR p ∧ isR f)
  (.leaf (.bool (decide (fiR (dis p f) l (0 : Int) ≥ (0 : Int)))))) := by kernel_rfl
theorem s80 (l : List Report) (p f : List Knot) (h : l.length ≤ 24 ∧ isR p ∧ isR f) : (runX ctIx noLoops 80 [.sl 55 l false, .fn 78 [.rp [.sl 78 p false, .sl 78 f false]]] [4]).holds fun v => v = .bool (l.any (dis p f)) := by
  rw [tv80]
  exact ⟨h, congrArg AV.bool (fiR_any (by decide))⟩
noncomputable def cAnyR : Con T := conFP Try.prog E [37, 91] [.one (.s 55), .fn 78 [.r [.s 78, .s 78]]] [.l 55, .l 78, .l 78] (fun d => (d.1 : List Report).length ≤ 24 ∧ isR d.2.1 ∧ isR d.2.2.1) fun d => .bool ((d.1 : List Report).any (dis d.2.1 d.2.2.1))
theorem anyR_ok : ConOk Try.prog E 80 cAnyR := conFP_ok good decOk fun d hd => fact_runF ctIx_ok noLoops_ok (ts := [4]) rfl (s80 d.1 d.2.1 d.2.2.1 hd)
theorem s83 (e : Earth) (p q : List Knot) (h : ((isR p ∧ isR q) ∧ (0 : Int) ≤ 0 ∧ e.Reports.length ≤ 24) ∧ kOk e.Reports) : (runX ctV (llOf Try.prog E 83 [(2, c83)]) 83 [e.av, .agg [.sl 78 p false, .sl 78 q false]] [4]).holds fun v => v = .bool (e.Reports.all (agB p q)) := by
  rw [tv83]
  refine ⟨h, wayB (fun z => ?_) fun z => ?_⟩
  · rw [show e.Reports.all (agB p q) = true from z]; rfl
  · rw [show e.Reports.all (agB p q) = false from z]; rfl
noncomputable def cTold : Con T := conP Try.prog [shE, .agg [.s 78, .s 78]] [.n, .l 78, .l 78, .l 78, .l 78, .n, .n, .l 55, .l 78, .l 78] (fun d => ((isR d.2.2.2.2.2.2.2.2.1 ∧ isR d.2.2.2.2.2.2.2.2.2.1) ∧ (0 : Int) ≤ 0 ∧ (d.2.2.2.2.2.2.2.1 : List Report).length ≤ 24) ∧ kOk d.2.2.2.2.2.2.2.1) fun d => .bool ((d.2.2.2.2.2.2.2.1 : List Report).all (agB d.2.2.2.2.2.2.2.2.1 d.2.2.2.2.2.2.2.2.2.1))
theorem told_ok : ConOk Try.prog E 83 cTold := conP_ok fun d hd => fact_run ctV_ok ll83 (ts := [4]) rfl (s83 ⟨d.1, ⟨d.2.1⟩, ⟨d.2.2.1⟩, ⟨d.2.2.2.1⟩, ⟨d.2.2.2.2.1⟩, d.2.2.2.2.2.1, d.2.2.2.2.2.2.1, d.2.2.2.2.2.2.2.1⟩ d.2.2.2.2.2.2.2.2.1 d.2.2.2.2.2.2.2.2.2.1 hd)
end Go.Proofs.Ytdlholmphenhhaa.W
