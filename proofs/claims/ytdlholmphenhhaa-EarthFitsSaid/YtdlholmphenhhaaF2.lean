/- EarthFits: what a value has over its whole part. No condition. -/
import Derived.Test.YtdlholmphenhhaaF1
import Derived.Test.YtdlholmphenhhaaV3
import Derived.Test.YtdlholmphenhhaaCz8
set_option linter.unusedVariables false
set_option maxRecDepth 100000
set_option maxHeartbeats 4000000
noncomputable section
namespace Go.Proofs.Ytdlholmphenhhaa.W
open Go Go.Cx Go.RowKit
@[reducible] def isD (l : List Knot) : Prop := lineErr l 1048576 68719476736 = 0
noncomputable def rs (x : Int) : List Knot → Int × Int
  | [] => (0, 1)
  | [_] => (0, 1)
  | a :: b :: r => if a.At ≤ x ∧ x < b.At then ((b.V - a.V) * (x - a.At) - (b.V - a.V) * (x - a.At) / (b.At - a.At) * (b.At - a.At), b.At - a.At) else rs x (b :: r)
noncomputable def hs (x : Int) : List Knot → Bool
  | [] => false
  | [_] => false
  | a :: b :: r => if a.At ≤ x ∧ x < b.At then true else hs x (b :: r)
theorem hs_no {x : Int} : ∀ {l : List Knot}, hs x l = false → rs x l = (0, 1)
  | [], _ => rfl
  | [_], _ => rfl
  | a :: b :: r, h => by
    unfold hs at h
    unfold rs
    split at h
    · exact absurd h (by decide)
    · rename_i c
      rw [if_neg c]
      exact hs_no h
noncomputable def o114 (x i : Int) (l : List Knot) : Tree (Ex × List (V T)) := .req (isD l ∧ 0 ≤ i ∧ i ≤ l.length) (.br (hs x (l.drop i.toNat)) (.leaf (.ret, [.n (rs x (l.drop i.toNat)).1, .n (rs x (l.drop i.toNat)).2])) (.leaf (.exit 0, [])))
noncomputable def c114 : LoopC T := ⟨[.n, .n, .l 78], ⟨63, [(1, .one (.i .i64)), (2, .one (.o 0 0)), (6, .one (.i .i64))], [.c [.s 78]]⟩, fun e => match e with
    | .ret => ⟨63, [(4, .one (.i .i64)), (5, .one (.i .i64))], []⟩
    | _ => ⟨63, [], []⟩, 20, fun d => o114 d.1 d.2.1 d.2.2.1⟩
theorem b114 (x i : Int) (l : List Knot) : bodyD Try.prog E c114 0 (bodyX Try.prog E [(93, cFloor)] noLoops 1000 5 L0 (lpOf Try.prog 114 0)) (x, i, l, ()) =
  (.br (decide (IntKind.wrap IntKind.i64 (i + (1 : Int)) < (↑(List.length l) : Int)))
   (.req ((decide ((0 : Int) ≤ i) && decide (i < (↑(List.length l) : Int))) = true)
   (.req ((decide ((0 : Int) ≤ IntKind.wrap IntKind.i64 (i + (1 : Int))) && decide (IntKind.wrap IntKind.i64 (i + (1 : Int)) < (↑(List.length l) : Int))) = true)
   (.br (decide (x ≥ Knot.At (kn l i)))
    (.br (decide (x < Knot.At (kn l (IntKind.wrap IntKind.i64 (i + (1 : Int))))))
     (.req (qPre (IntKind.wrap IntKind.i64 (IntKind.wrap IntKind.i64 (Knot.V (kn l (IntKind.wrap IntKind.i64 (i + (1 : Int)))) - Knot.V (kn l i)) * IntKind.wrap IntKind.i64 (x - Knot.At (kn l i)))) (IntKind.wrap IntKind.i64 (Knot.At (kn l (IntKind.wrap IntKind.i64 (i + (1 : Int)))) - Knot.At (kn l i))))
     (.leaf (.inr (.ret, [.n (IntKind.wrap IntKind.i64 (IntKind.wrap IntKind.i64 (IntKind.wrap IntKind.i64 (Knot.V (kn l (IntKind.wrap IntKind.i64 (i + (1 : Int)))) - Knot.V (kn l i)) * IntKind.wrap IntKind.i64 (x - Knot.At (kn l i))) - IntKind.wrap IntKind.i64 (IntKind.wrap IntKind.i64 (IntKind.wrap IntKind.i64 (Knot.V (kn l (IntKind.wrap IntKind.i64 (i + (1 : Int)))) - Knot.V (kn l i)) * IntKind.wrap IntKind.i64 (x - Knot.At (kn l i))) / IntKind.wrap IntKind.i64 (Knot.At (kn l (IntKind.wrap IntKind.i64 (i + (1 : Int)))) - Knot.At (kn l i)) * IntKind.wrap IntKind.i64 (Knot.At (kn l (IntKind.wrap IntKind.i64 (i + (1 : Int)))) - Knot.At (kn l i))))), .n (IntKind.wrap IntKind.i64 (Knot.At (kn l (IntKind.wrap IntKind.i64 (i + (1 : Int)))) - Knot.At (kn l i)))]))))
     (.leaf (.inl (x, (IntKind.wrap IntKind.i64 (i + (1 : Int)), (l, ()))))))
    (.leaf (.inl (x, (IntKind.wrap IntKind.i64 (i + (1 : Int)), (l, ()))))))))
   (.leaf (.inr (.exit (0 : Nat), [])))) := by kernel_rfl

theorem rs_step {l : List Knot} {i : Nat} {x : Int} (h : i + 1 < l.length) : rs x (l.drop i) = if (kn l i).At ≤ x ∧ x < (kn l (i + 1 : Nat)).At then (((kn l (i + 1 : Nat)).V - (kn l i).V) * (x - (kn l i).At) - ((kn l (i + 1 : Nat)).V - (kn l i).V) * (x - (kn l i).At) / ((kn l (i + 1 : Nat)).At - (kn l i).At) * ((kn l (i + 1 : Nat)).At - (kn l i).At), (kn l (i + 1 : Nat)).At - (kn l i).At) else rs x (l.drop (i + 1)) := by
  rw [drop_kk (by omega), drop_kk (i := i + 1) h]; rfl
theorem rs_end {l : List Knot} {i : Nat} {x : Int} (h : ¬ i + 1 < l.length) : rs x (l.drop i) = (0, 1) := by
  by_cases c : i < l.length
  · rw [drop_kk c, List.drop_eq_nil_of_le (by omega)]; rfl
  · rw [List.drop_eq_nil_of_le (by omega)]; rfl
theorem hs_step {l : List Knot} {i : Nat} {x : Int} (h : i + 1 < l.length) : hs x (l.drop i) = if (kn l i).At ≤ x ∧ x < (kn l (i + 1 : Nat)).At then true else hs x (l.drop (i + 1)) := by
  rw [drop_kk (by omega), drop_kk (i := i + 1) h]; rfl
theorem hs_end {l : List Knot} {i : Nat} {x : Int} (h : ¬ i + 1 < l.length) : hs x (l.drop i) = false := by
  by_cases c : i < l.length
  · rw [drop_kk c, List.drop_eq_nil_of_le (by omega)]; rfl
  · rw [List.drop_eq_nil_of_le (by omega)]; rfl
theorem h114' (x : Int) (i : Nat) (l : List Knot) (K : Ex × List (V T) → Prop) (hd : isD l) (hi : (i : Int) ≤ l.length) (hK : (Tree.br (hs x (l.drop i)) (.leaf (.ret, [.n (rs x (l.drop i)).1, .n (rs x (l.drop i)).2])) (.leaf (.exit 0, [])) : Tree (Ex × List (V T))).holds K) :
    (bodyD Try.prog E c114 0 (bodyX Try.prog E [(93, cFloor)] noLoops 1000 5 L0 (lpOf Try.prog 114 0)) (x, (i : Int), l, ())).holds fun y => match y with
    | .inl d => ((d.2.2.1.length : Int) - d.2.1).toNat < ((l.length : Int) - (i : Int)).toNat ∧ (c114.out d).holds K
    | .inr y => K y := by
  rw [b114]
  have g := (lineErr_good hd).1
  have hl := lineErr_len hd
  refine way (fun c => ?_) fun c => ?_
  · · have e2 : IntKind.wrap IntKind.i64 ((i : Int) + 1) = ((i + 1 : Nat) : Int) := i64_in' (by omega) (by omega)
      rw [e2] at c ⊢
      have c' : i + 1 < l.length := by omega
      have hlt : ((l.length : Int) - ((i + 1 : Nat) : Int)).toNat < ((l.length : Int) - (i : Int)).toNat := by omega
      have h3 : (0 : Int) ≤ ((i + 1 : Nat) : Int) := by omega
      rw [hs_step c', rs_step c'] at hK
      have bd1 := g.bd i (by omega)
      have bd2 := g.bd (i + 1) c'
      have up := g.up i c'
      have next : ¬ ((kn l i).At ≤ x ∧ x < (kn l (i + 1 : Nat)).At) → (c114.out (x, ((i + 1 : Nat) : Int), l, ())).holds K := fun q => by
        rw [if_neg q, if_neg q] at hK
        exact ⟨⟨hd, h3, by show ((i + 1 : Nat) : Int) ≤ (l.length : Int); omega⟩, hK⟩
      refine wayC (by omega) (by omega) fun _ _ => wayC h3 c fun _ _ => way (fun k1 => way (fun k2 => ?_) fun k2 => ⟨hlt, next fun q => k2 q.2⟩) fun k1 => ⟨hlt, next fun q => k1 q.1⟩
      rw [if_pos ⟨k1, k2⟩, if_pos ⟨k1, k2⟩] at hK
      generalize (kn l i).At = A1 at *
      generalize (kn l (i + 1 : Nat)).At = A2 at *
      generalize (kn l i).V = V1 at *
      generalize (kn l (i + 1 : Nat)).V = V2 at *
      rw [i64_in' (n := V2 - V1) (by omega) (by omega), i64_in' (n := x - A1) (by omega) (by omega), i64_in' (n := A2 - A1) (by omega) (by omega)]
      have m1 : -(72057594037927936) ≤ (V2 - V1) * (x - A1) ∧ (V2 - V1) * (x - A1) ≤ 72057594037927936 := by
        have j1 := Int.mul_le_mul_of_nonneg_right (show V2 - V1 ≤ 68719476736 by omega) (show 0 ≤ x - A1 by omega)
        have j2 := Int.mul_le_mul_of_nonneg_right (show -68719476736 ≤ V2 - V1 by omega) (show 0 ≤ x - A1 by omega)
        omega
      rw [i64_in' (n := (V2 - V1) * (x - A1)) (by omega) (by omega)]
      generalize (V2 - V1) * (x - A1) = N at *
      have d1 := Int.mul_ediv_add_emod N (A2 - A1)
      have d2 := Int.emod_nonneg N (b := A2 - A1) (by omega)
      have d3 := Int.emod_lt_of_pos N (b := A2 - A1) (by omega)
      have cm : N / (A2 - A1) * (A2 - A1) = (A2 - A1) * (N / (A2 - A1)) := Int.mul_comm _ _
      rw [i64_in' (n := N / (A2 - A1) * (A2 - A1)) (by omega) (by omega), i64_in' (n := N - N / (A2 - A1) * (A2 - A1)) (by omega) (by omega)]
      exact ⟨⟨by omega, by omega, by omega⟩, hK.1 rfl⟩
  · have c' : ¬ i + 1 < l.length := fun h => c (by rw [show IntKind.wrap IntKind.i64 ((i : Int) + 1) = ((i + 1 : Nat) : Int) from i64_in' (by omega) (by omega)]; omega)
    rw [hs_end c'] at hK
    exact hK.2 rfl
theorem h114 : LoopH Try.prog E c114 0 (bodyX Try.prog E [(93, cFloor)] noLoops 1000 5 L0 (lpOf Try.prog 114 0)) :=
  ⟨fun d => ((d.2.2.1.length : Int) - d.2.1).toNat, fun d K hK => by
    obtain ⟨x, i, l, ⟨⟩⟩ := d
    obtain ⟨⟨k1, k2, k3⟩, k4⟩ := hK
    obtain ⟨j, hj⟩ := Int.eq_ofNat_of_zero_le k2
    obtain rfl : i = (j : Int) := hj
    refine Tree.holds_mono (fun y hy => ?_) (h114' x j l K k1 k3 k4)
    cases y with
    | inl d' => exact hy
    | inr y => exact hy⟩
theorem ctF_ok : CTabOk Try.prog E [(93, cFloor)] := .cons floor93_ok .nil
theorem ll114 : LLOk Try.prog E (llOf Try.prog E 114 [(2, c114)]) := llOf_ok fun i hi c hc => by
  have hi : i < 1 := hi
  obtain rfl : i = 0 := by omega
  obtain rfl : c114 = c := Option.some.inj hc
  exact LSnd.mk good names mixes ctF_ok (by decide) h114
theorem tv114 (l : List Knot) (x : Int) : runX [(93, cFloor)] (llOf Try.prog E 114 [(2, c114)]) 114 [.agg [.sl 78 l false], i64 x] [2, 2] =
  (.req (isD l ∧ (0 : Int) ≤ (0 : Int) ∧ (0 : Int) ≤ (↑(List.length l) : Int))
  (.br (hs x (List.drop (Int.toNat (0 : Int)) l))
   (.leaf (.tup [.sym .i64 (Prod.fst (rs x (List.drop (Int.toNat (0 : Int)) l))), .sym .i64 (Prod.snd (rs x (List.drop (Int.toNat (0 : Int)) l)))]))
   (.leaf (.tup [.sym .i64 ((0 : Int)), .sym .i64 ((1 : Int))])))) := by kernel_rfl
theorem s114 (l : List Knot) (x : Int) (h : isD l) : (runX [(93, cFloor)] (llOf Try.prog E 114 [(2, c114)]) 114 [.agg [.sl 78 l false], i64 x] [2, 2]).holds fun v => v = .tup [i64 (rs x l).1, i64 (rs x l).2] := by
  rw [tv114]
  refine ⟨⟨h, by decide, by omega⟩, wayB (fun q => rfl) fun q => ?_⟩
  have q : hs x l = false := q
  rw [hs_no q]; rfl
noncomputable def cRest : Con T := conP Try.prog [.agg [.s 78], .one (.i .i64)] [.l 78, .n] (fun d => isD d.1) fun d => .tup [i64 (rs d.2.1 d.1).1, i64 (rs d.2.1 d.1).2]
theorem rest_ok : ConOk Try.prog E 114 cRest := conP_ok fun d hd => fact_run ctF_ok ll114 (ts := [2, 2]) rfl (s114 d.1 d.2.1 hd)
/-! ### what the rest says -/
theorem hs_out {l : List Knot} {x : Int} (hl : l.length ≤ 24) : ∀ (n : Nat) {i : Nat}, l.length - i = n → i < l.length → hs x (l.drop i) = false → x < (kn l i).At ∨ (kn l ((l.length : Int) - 1)).At ≤ x
  | 0, i, h, hi, _ => by omega
  | n + 1, i, h, hi, k => by
    by_cases c : i + 1 < l.length
    · rw [hs_step c] at k
      split at k
      · exact absurd k (by decide)
      · rename_i q
        rcases hs_out hl n (i := i + 1) (by omega) c k with e | e
        · by_cases p : (kn l i).At ≤ x
          · exact absurd ⟨p, e⟩ q
          · exact Or.inl (by omega)
        · exact Or.inr e
    · have e : (l.length : Int) - 1 = (i : Int) := by omega
      rw [e]
      omega
theorem hs_in {l : List Knot} {x : Int} : ∀ (n : Nat) {i : Nat}, l.length - i = n → hs x (l.drop i) = true → ∃ j : Nat, j + 1 < l.length ∧ ((kn l j).At ≤ x ∧ x < (kn l (j + 1 : Nat)).At) ∧ rs x (l.drop i) = (((kn l (j + 1 : Nat)).V - (kn l j).V) * (x - (kn l j).At) - ((kn l (j + 1 : Nat)).V - (kn l j).V) * (x - (kn l j).At) / ((kn l (j + 1 : Nat)).At - (kn l j).At) * ((kn l (j + 1 : Nat)).At - (kn l j).At), (kn l (j + 1 : Nat)).At - (kn l j).At)
  | n, i, h, k => by
    by_cases c : i + 1 < l.length
    · rw [hs_step c] at k
      rw [rs_step c]
      split at k
      · rename_i q
        rw [if_pos q]
        exact ⟨i, c, q, rfl⟩
      · rename_i q
        rw [if_neg q]
        cases n with
        | zero => omega
        | succ n => exact hs_in n (i := i + 1) (by omega) k
    · rw [hs_end c] at k
      exact absurd k (by decide)
theorem rs_facts {l : List Knot} (hd : isD l) (x : Int) : (0 ≤ (rs x l).1 ∧ (rs x l).1 < (rs x l).2 ∧ (rs x l).2 ≤ 1048576) ∧ ((rs x l).1 = 0 ↔ valLo l x = valHi l x) := by
  have g := (lineErr_good hd).1
  have hl := lineErr_len hd
  cases k : hs x l with
  | false =>
    rw [hs_no k]
    refine ⟨by decide, fun _ => ?_, fun _ => rfl⟩
    rcases hs_out hl.2 _ (i := 0) rfl hl.1 k with e | e
    · have := val_first (l := l) (x := x) (Int.le_of_lt e)
      omega
    · have := val_last g e
      omega
  | true =>
    obtain ⟨j, j1, j2, j3⟩ := hs_in _ (i := 0) rfl k
    rw [List.drop_zero] at j3
    rw [j3]
    have b1 := g.bd j (by omega)
    have b2 := g.bd (j + 1) j1
    have up := g.up j j1
    simp only []
    have hw : 0 < (kn l (j + 1 : Nat)).At - (kn l j).At := by omega
    have d1 := Int.mul_ediv_add_emod (((kn l (j + 1 : Nat)).V - (kn l j).V) * (x - (kn l j).At)) ((kn l (j + 1 : Nat)).At - (kn l j).At)
    have d2 := Int.emod_nonneg (((kn l (j + 1 : Nat)).V - (kn l j).V) * (x - (kn l j).At)) (b := (kn l (j + 1 : Nat)).At - (kn l j).At) (by omega)
    have d3 := Int.emod_lt_of_pos (((kn l (j + 1 : Nat)).V - (kn l j).V) * (x - (kn l j).At)) (b := (kn l (j + 1 : Nat)).At - (kn l j).At) (by omega)
    have cm : ∀ N w : Int, N / w * w = w * (N / w) := fun N w => Int.mul_comm _ _
    refine ⟨by rw [cm]; omega, ?_⟩
    by_cases e : x = (kn l j).At
    · have v := val_knot g (i := j) (by omega)
      rw [← e] at v
      have : x - (kn l j).At = 0 := by omega
      rw [this, Int.mul_zero, Int.zero_ediv, Int.zero_mul]
      omega
    · have ix : ixAt l x = j + 1 := ixAt_eq (by omega) (fun k hk => by
        by_cases q : k = j
        · subst q; omega
        · have := g.lt (i := k) (j := j) (by omega) (by omega)
          omega) fun _ => by omega
      have vl : valLo l x = pcLo (kn l j) (kn l (j + 1 : Nat)) x := by
        unfold valLo
        rw [ix, if_neg (by omega), if_neg (by omega)]
        congr 2
        omega
      have vh : valHi l x = pcHi (kn l j) (kn l (j + 1 : Nat)) x := by
        unfold valHi
        rw [ix, if_neg (by omega), if_neg (by omega)]
        congr 2
        omega
      rw [vl, vh]
      unfold pcLo pcHi
      have u := up_le (f := ((kn l (j + 1 : Nat)).V - (kn l j).V) * (x - (kn l j).At)) hw
      generalize ((kn l (j + 1 : Nat)).V - (kn l j).V) * (x - (kn l j).At) = N at *
      generalize (kn l (j + 1 : Nat)).At - (kn l j).At = w at *
      rw [cm] at *
      constructor
      · intro z
        have q1 : -(-N / w) * w < (N / w + 1) * w := by rw [Int.add_mul, Int.one_mul, cm]; omega
        have q2 : N / w * w ≤ -(-N / w) * w := by rw [cm]; omega
        have q3 := Int.lt_of_mul_lt_mul_right q1 (by omega)
        have q4 := Int.le_of_mul_le_mul_right q2 hw
        omega
      · intro z
        have z : -(-N / w) = N / w := by omega
        rw [z, cm] at u
        omega
/-! ### atLeast -/
noncomputable def ctAL : CTab T := (114, cRest) :: ctV
theorem ctAL_ok : CTabOk Try.prog E ctAL := .cons rest_ok ctV_ok
theorem tv104 (a b : List Knot) (x : Int) : runX ctAL noLoops 104 [.agg [.sl 78 a false], .agg [.sl 78 b false], i64 x] [4] =
  (.req (isR a)
  (.req (isR b)
  (.br (valLo a x != valLo b x)
   (.br (decide (valLo a x ≥ valHi b x))
    (.leaf (.bool (true)))
    (.leaf (.bool (decide (valLo a x > valLo b x)))))
   (.br (valLo a x == valHi a x)
    (.br (valLo b x == valHi b x)
     (.br (decide (valLo a x ≥ valHi b x))
      (.leaf (.bool (true)))
      (.leaf (.bool (decide (valLo a x > valLo b x)))))
     (.req (isD a)
     (.req (isD b)
     (.leaf (.bool (decide (IntKind.wrap IntKind.i64 (Prod.fst (rs x a) * Prod.snd (rs x b)) ≥ IntKind.wrap IntKind.i64 (Prod.fst (rs x b) * Prod.snd (rs x a)))))))))
    (.req (isD a)
    (.req (isD b)
    (.leaf (.bool (decide (IntKind.wrap IntKind.i64 (Prod.fst (rs x a) * Prod.snd (rs x b)) ≥ IntKind.wrap IntKind.i64 (Prod.fst (rs x b) * Prod.snd (rs x a)))))))))))) := by kernel_rfl
noncomputable def geB (a b : List Knot) (x : Int) : Bool := decide (valHi b x ≤ valLo a x)
@[reducible] def exB (a b : List Knot) (x : Int) : Prop := valLo a x = valHi a x ∨ valLo b x = valHi b x
theorem s104 (a b : List Knot) (x : Int) (ha : isD a) (hb : isD b) (he : exB a b x) : (runX ctAL noLoops 104 [.agg [.sl 78 a false], .agg [.sl 78 b false], i64 x] [4]).holds fun v => v = .bool (geB a b x) := by
  rw [tv104]
  have va := val_bd (lineErr_good ha).1 x
  have vb := val_bd (lineErr_good hb).1 x
  have ra := rs_facts ha x
  have rb := rs_facts hb x
  have m1 := mulb (a := (rs x a).1) (b := (rs x b).2) (m := 1048576) (k := 1048576) (by omega) (by omega) (by omega) (by omega)
  have m2 := mulb (a := (rs x b).1) (b := (rs x a).2) (m := 1048576) (k := 1048576) (by omega) (by omega) (by omega) (by omega)
  rw [i64_in' (n := (rs x a).1 * (rs x b).2) (by omega) (by omega), i64_in' (n := (rs x b).1 * (rs x a).2) (by omega) (by omega)]
  have n1 : 0 < (rs x a).1 → 0 < (rs x a).1 * (rs x b).2 := fun h => Int.mul_pos h (by omega)
  have n2 : 0 < (rs x b).1 → 0 < (rs x b).1 * (rs x a).2 := fun h => Int.mul_pos h (by omega)
  have z1 : (rs x a).1 = 0 → (rs x a).1 * (rs x b).2 = 0 := fun h => by rw [h, Int.zero_mul]
  have z2 : (rs x b).1 = 0 → (rs x b).1 * (rs x a).2 = 0 := fun h => by rw [h, Int.zero_mul]
  unfold geB
  have he2 : valLo a x = valHi a x ∨ valLo b x = valHi b x := he
  clear he
  generalize (rs x a).1 * (rs x b).2 = X at *
  generalize (rs x b).1 * (rs x a).2 = Y at *
  generalize (rs x a).1 = n at *
  generalize (rs x b).1 = m at *
  generalize valLo a x = pl at *
  generalize valHi a x = ph at *
  generalize valLo b x = ql at *
  generalize valHi b x = qh at *
  refine ⟨Or.inl ha, Or.inl hb, wayNe (fun c => way (fun c2 => ?_) fun c2 => ?_) fun c => wayEq (fun c2 => wayEq (fun c3 => way (fun c4 => ?_) fun c4 => ?_) fun c3 => ⟨ha, hb, ?_⟩) fun c2 => ⟨ha, hb, ?_⟩⟩
  · exact congrArg AV.bool (decide_eq_true (by omega)).symm
  · exact congrArg AV.bool (decide_eq_decide.2 (by omega))
  · exact congrArg AV.bool (decide_eq_true (by omega)).symm
  · exact congrArg AV.bool (decide_eq_decide.2 (by omega))
  · have x0 := z1 (ra.2.2 c2)
    have y0 := n2 (by
      have : m ≠ 0 := fun h => c3 (rb.2.1 h)
      omega)
    exact congrArg AV.bool (decide_eq_decide.2 (by omega))
  · have y0 := z2 (rb.2.2 (he2.resolve_left c2))
    have x0 := n1 (by
      have : n ≠ 0 := fun h => c2 (ra.2.1 h)
      omega)
    have e := he2.resolve_left c2
    exact congrArg AV.bool (decide_eq_decide.2 (by omega))
noncomputable def cAL : Con T := conP Try.prog [.agg [.s 78], .agg [.s 78], .one (.i .i64)] [.l 78, .l 78, .n] (fun d => (isD d.1 ∧ isD d.2.1) ∧ exB d.1 d.2.1 d.2.2.1) fun d => .bool (geB d.1 d.2.1 d.2.2.1)
theorem al_ok : ConOk Try.prog E 104 cAL := conP_ok fun d hd => fact_run ctAL_ok noLoops_ok (ts := [4]) rfl (s104 d.1 d.2.1 d.2.2.1 hd.1.1 hd.1.2 hd.2)
end Go.Proofs.Ytdlholmphenhhaa.W
