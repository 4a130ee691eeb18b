/- Loads of casings: both are the same. No condition. -/
import Derived.Test.YtcddppakogialaaW2
set_option linter.unusedVariables false
set_option maxRecDepth 100000
noncomputable section
namespace Go.Proofs.Ytcddppakogialaa.W
open Go Go.Cx Go.RowKit
noncomputable def inP (x y : Int) : List Int → List Int
  | [] => []
  | z :: l => if x ≤ z ∧ z ≤ y then z :: inP x y l else inP x y l
theorem inP_cons {x y z : Int} {l : List Int} : inP x y (z :: l) = if x ≤ z ∧ z ≤ y then z :: inP x y l else inP x y l := rfl
theorem inP_append {x y : Int} : ∀ {l m : List Int}, inP x y (l ++ m) = inP x y l ++ inP x y m
  | [], m => rfl
  | z :: l, m => by
    rw [List.cons_append, inP_cons, inP_cons, inP_append]
    split <;> rfl
theorem inP_map {x y : Int} : ∀ {l : List Knot}, inP x y (l.map Knot.At) = plc l x y
  | [] => rfl
  | k :: l => by rw [List.map_cons, inP_cons, plc_cons, inP_map]
noncomputable def o73c (xs : List Int) (x y acc i : Int) (a b : List Knot) : Tree (Ex × List (V T)) :=
  .req (0 ≤ i ∧ xs.length ≤ 3000) (.leaf (.exit 4, [.n (fdm a b acc (inP x y (xs.drop i.toNat)))]))
noncomputable def c73c : LoopC T := ⟨[.l 2, .n, .n, .n, .n, .l 39, .l 39], ⟨117, [(2, .one (.i .i64)), (3, .one (.i .i64)), (4, .one (.o 0 0)), (5, .one (.o 1 0)), (9, .one (.g 2 2)), (12, .one (.i .i64)), (13, .one (.i .i64))], [.c [.s 39], .c [.s 39], .l 2]⟩,
  fun _ => ⟨117, [(12, .one (.i .i64))], []⟩, 10, fun d => o73c d.1 d.2.1 d.2.2.1 d.2.2.2.1 d.2.2.2.2.1 d.2.2.2.2.2.1 d.2.2.2.2.2.2.1⟩
theorem b73c (xs : List Int) (x y acc i : Int) (a b : List Knot) : bodyD Try.prog E c73c 0 (bodyX Try.prog E ctT noLoops 1000 5 L0 (lpOf Try.prog 73 2)) (xs, x, y, acc, i, a, b, ()) =
  (.br (decide (i < (↑(List.length xs) : Int)))
   (.req ((decide ((0 : Int) ≤ i) && decide (i < (↑(List.length xs) : Int))) = true)
   (.req ((decide ((0 : Int) ≤ i) && decide (i < (↑(List.length xs) : Int))) = true)
   (.br (decide (ki xs i ≥ x))
    (.req ((decide ((0 : Int) ≤ i) && decide (i < (↑(List.length xs) : Int))) = true)
    (.req ((decide ((0 : Int) ≤ i) && decide (i < (↑(List.length xs) : Int))) = true)
    (.br (decide (ki xs i ≤ y))
     (.req ((decide ((0 : Int) ≤ i) && decide (i < (↑(List.length xs) : Int))) = true)
     (.req ((decide ((0 : Int) ≤ i) && decide (i < (↑(List.length xs) : Int))) = true)
     (.req ((decide ((0 : Int) ≤ i) && decide (i < (↑(List.length xs) : Int))) = true)
     (.req ((decide ((0 : Int) ≤ i) && decide (i < (↑(List.length xs) : Int))) = true)
     (.req (List.length xs = List.length xs)
     (.leaf (.inl (xs, (x, (y, (bif true then if IntKind.wrap IntKind.i64 (atHi a (ki xs i) - atLo b (ki xs i)) > acc then IntKind.wrap IntKind.i64 (atHi a (ki xs i) - atLo b (ki xs i)) else acc else if IntKind.wrap IntKind.i64 (atHi a (ki xs i) - atLo b (ki xs i)) < acc then IntKind.wrap IntKind.i64 (atHi a (ki xs i) - atLo b (ki xs i)) else acc, (IntKind.wrap IntKind.i64 (i + (1 : Int)), (a, (b, ()))))))))))))))
     (.req (List.length xs = List.length xs)
     (.leaf (.inl (xs, (x, (y, (acc, (IntKind.wrap IntKind.i64 (i + (1 : Int)), (a, (b, ())))))))))))))
    (.req (List.length xs = List.length xs)
    (.leaf (.inl (xs, (x, (y, (acc, (IntKind.wrap IntKind.i64 (i + (1 : Int)), (a, (b, ())))))))))))))
   (.leaf (.inr (.exit (4 : Nat), [.n (acc)])))) := by kernel_rfl
theorem h73c' (xs : List Int) (x y acc : Int) (i : Nat) (a b : List Knot) (K : Ex × List (V T) → Prop) (hn : xs.length ≤ 3000) (hK : K (.exit 4, [.n (fdm a b acc (inP x y (xs.drop i)))])) :
    (bodyD Try.prog E c73c 0 (bodyX Try.prog E ctT noLoops 1000 5 L0 (lpOf Try.prog 73 2)) (xs, x, y, acc, (i : Int), a, b, ())).holds fun y => match y with
    | .inl d => ((d.1.length : Int) - d.2.2.2.2.1).toNat < ((xs.length : Int) - (i : Int)).toNat ∧ (c73c.out d).holds K
    | .inr y => K y := by
  rw [b73c]
  refine way (fun c => wayC (by omega) c fun _ _ => wayC (by omega) c fun _ _ => ?_) fun c => ?_
  · have e2 : IntKind.wrap IntKind.i64 ((i : Int) + 1) = ((i + 1 : Nat) : Int) := i64_in' (by omega) (by omega)
    rw [e2]
    rw [drop_ki (by omega), inP_cons] at hK
    have hlt : ((xs.length : Int) - ((i + 1 : Nat) : Int)).toNat < ((xs.length : Int) - (i : Int)).toNat := by omega
    have h3 : (0 : Int) ≤ ((i + 1 : Nat) : Int) := by omega
    refine way (fun c2 => wayC (by omega) c fun _ _ => wayC (by omega) c fun _ _ => way (fun c3 => wayC (by omega) c fun _ _ => wayC (by omega) c fun _ _ => wayC (by omega) c fun _ _ => wayC (by omega) c fun _ _ => ⟨rfl, hlt, ⟨h3, hn⟩, ?_⟩) fun c3 => ⟨rfl, hlt, ⟨h3, hn⟩, ?_⟩) fun c2 => ⟨rfl, hlt, ⟨h3, hn⟩, ?_⟩
    · rw [op_wrap]
      rw [if_pos ⟨c2, c3⟩, fdm_cons] at hK
      exact hK
    · rw [if_neg fun h => c3 h.2] at hK
      exact hK
    · rw [if_neg fun h => c2 h.1] at hK
      exact hK
  · rw [List.drop_eq_nil_of_le (by omega)] at hK
    exact hK
theorem h73c : LoopH Try.prog E c73c 0 (bodyX Try.prog E ctT noLoops 1000 5 L0 (lpOf Try.prog 73 2)) :=
  ⟨fun d => ((d.1.length : Int) - d.2.2.2.2.1).toNat, fun d K hK => by
    obtain ⟨xs, x, y, acc, i, a, b, ⟨⟩⟩ := d
    obtain ⟨⟨k1, k3⟩, k4⟩ := hK
    obtain ⟨q, hq⟩ := Int.eq_ofNat_of_zero_le k1
    obtain rfl : i = (q : Int) := hq
    refine Tree.holds_mono (fun y hy => ?_) (h73c' xs x y acc q a b K k3 k4)
    cases y with
    | inl d' => exact hy
    | inr y => exact hy⟩
theorem ll73 : LLOk Try.prog E (llOf Try.prog E 73 [(5, c73a), (9, c73b), (14, c73c)]) := llOf_ok fun i hi c hc => by
  have hi : i < 3 := hi
  have : i = 0 ∨ i = 1 ∨ i = 2 := by omega
  rcases this with rfl | rfl | rfl
  · obtain rfl : c73a = c := Option.some.inj hc
    exact LSnd.mk good names mixes ctT_ok (by decide) h73a
  · obtain rfl : c73b = c := Option.some.inj hc
    exact LSnd.mk good names mixes ctT_ok (by decide) h73b
  · obtain rfl : c73c = c := Option.some.inj hc
    exact LSnd.mk good names mixes ctT_ok (by decide) h73c
@[reducible] def askd (a b : List Knot) (x y : Int) : Prop := (lineErr a 1048576 68719476736 = 0 ∧ lineErr b 1048576 68719476736 = 0) ∧ 0 ≤ x ∧ x ≤ y ∧ y ≤ 1048576
noncomputable def exc (a b : List Knot) (x y : Int) : Int := if askd a b x y then grt a b x y [⟨a⟩, ⟨b⟩] else 0
theorem exc_out {a b : List Knot} {x y : Int} (h : ¬ askd a b x y) : i64 0 = i64 (exc a b x y) := by unfold exc; rw [if_neg h]
theorem tv73 (a b : List Knot) (x y : Int) : runX ctT (llOf Try.prog E 73 [(5, c73a), (9, c73b), (14, c73c)]) 73 [(⟨a⟩ : Line).av, (⟨b⟩ : Line).av, i64 x, i64 y] [2] =
  (.br (lineErr a (1048576 : Int) (68719476736 : Int) != (0 : Int))
   (.leaf (.sym .i64 ((0 : Int))))
   (.br (lineErr b (1048576 : Int) (68719476736 : Int) != (0 : Int))
    (.leaf (.sym .i64 ((0 : Int))))
    (.br (decide (x < (0 : Int)))
     (.leaf (.sym .i64 ((0 : Int))))
     (.br (decide (x > y))
      (.leaf (.sym .i64 ((0 : Int))))
      (.br (decide (y > (1048576 : Int)))
       (.leaf (.sym .i64 ((0 : Int))))
       (.req (((0 : Int) ≤ (0 : Int) ∧ List.length a ≤ (1000 : Nat)) ∧ List.length [x, y] + List.length a ≤ (3000 : Nat) + Int.toNat (0 : Int))
       (.req (List.length ([x, y] ++ List.map Knot.At (List.drop (Int.toNat (0 : Int)) a)) = List.length ([x, y] ++ List.map Knot.At (List.drop (Int.toNat (0 : Int)) a)))
       (.req (((0 : Int) ≤ (0 : Int) ∧ List.length b ≤ (1000 : Nat)) ∧ List.length ([x, y] ++ List.map Knot.At (List.drop (Int.toNat (0 : Int)) a)) + List.length b ≤ (3000 : Nat) + Int.toNat (0 : Int))
       (.req (List.length ([x, y] ++ List.map Knot.At (List.drop (Int.toNat (0 : Int)) a) ++ List.map Knot.At (List.drop (Int.toNat (0 : Int)) b)) = List.length ([x, y] ++ List.map Knot.At (List.drop (Int.toNat (0 : Int)) a) ++ List.map Knot.At (List.drop (Int.toNat (0 : Int)) b)))
       (.req ((0 : Int) ≤ (0 : Int) ∧ List.length ([x, y] ++ List.map Knot.At (List.drop (Int.toNat (0 : Int)) a) ++ List.map Knot.At (List.drop (Int.toNat (0 : Int)) b)) ≤ (3000 : Nat))
       (.leaf (.sym .i64 (fdm a b (IntKind.wrap IntKind.i64 (atHi a x - atLo b x)) (inP x y (List.drop (Int.toNat (0 : Int)) ([x, y] ++ List.map Knot.At (List.drop (Int.toNat (0 : Int)) a) ++ List.map Knot.At (List.drop (Int.toNat (0 : Int)) b))))))))))))))))) := by kernel_rfl
theorem len_of {a : List Knot} (h : lineErr a 1048576 68719476736 = 0) : a.length ≤ 24 := (lineErr_good h).1.len
theorem s73 (a b : List Knot) (x y : Int) : (runX ctT (llOf Try.prog E 73 [(5, c73a), (9, c73b), (14, c73c)]) 73 [(⟨a⟩ : Line).av, (⟨b⟩ : Line).av, i64 x, i64 y] [2]).holds fun v => v = i64 (exc a b x y) := by
  rw [tv73]
  refine wayNe (fun h => exc_out fun k => h k.1.1) fun h1 => wayNe (fun h => exc_out fun k => h k.1.2) fun h2 => way (fun h => exc_out fun k => by omega) fun h3 => way (fun h => exc_out fun k => by omega) fun h4 => way (fun h => exc_out fun k => by omega) fun h5 => ?_
  have la := len_of h1
  have lb := len_of h2
  refine ⟨⟨⟨by decide, by omega⟩, by simp only [List.length_cons, List.length_nil]; omega⟩, rfl, ⟨⟨by decide, by omega⟩, ?_⟩, rfl, ⟨by decide, ?_⟩, ?_⟩
  · show ([x, y] ++ a.map Knot.At).length + b.length ≤ 3000 + 0
    simp only [List.length_append, List.length_map, List.length_cons, List.length_nil]; omega
  · show ([x, y] ++ a.map Knot.At ++ b.map Knot.At).length ≤ 3000
    simp only [List.length_append, List.length_map, List.length_cons, List.length_nil]; omega
  · have h : askd a b x y := ⟨⟨h1, h2⟩, by omega, by omega, by omega⟩
    show i64 (fdm a b _ (inP x y ([x, y] ++ a.map Knot.At ++ b.map Knot.At))) = _
    unfold exc grt
    rw [if_pos h, op_wrap, inP_append, inP_append, inP_map, inP_map]
    rw [show inP x y [x, y] = [x, y] by rw [inP_cons, if_pos (by omega), inP_cons, if_pos (by omega)]; rfl]
    rw [show [x, y] ++ plc a x y ++ plc b x y = x :: y :: (plc a x y ++ plc b x y) from rfl, fdm_cons, fdm_cons, mx_self]
    rw [show plcs [⟨a⟩, ⟨b⟩] x y = plc a x y ++ (plc b x y ++ []) from rfl, List.append_nil]
noncomputable def cExc : Con T := conV Try.prog [.agg [.s 39], .agg [.s 39], .one (.i .i64), .one (.i .i64)] [.l 39, .l 39, .n, .n] fun d => i64 (exc d.1 d.2.1 d.2.2.1 d.2.2.2.1)
theorem exc_ok : ConOk Try.prog E 73 cExc := conV_ok fun d => fact_run ctT_ok ll73 (ts := [2]) rfl (s73 d.1 d.2.1 d.2.2.1 d.2.2.2.1)
noncomputable abbrev ctX : CTab T := (73, cExc) :: ctG
theorem ctX_ok : CTabOk Try.prog E ctX := .cons exc_ok ctG_ok
@[reducible] noncomputable def stA (a b : List Knot) : AV T := .agg [.sl 39 a false, .sl 39 b false]
theorem tv27 (a b : List Knot) (x y : Int) : runX ctX noLoops 27 [stA a b, i64 x, i64 y] [2] =
  (.leaf (.sym .i64 (exc a b x y))) := by kernel_rfl
theorem tv29 (a b : List Knot) (x y : Int) : runX ctX noLoops 29 [stA a b, i64 x, i64 y] [2] =
  (.leaf (.sym .i64 (exc b a x y))) := by kernel_rfl
noncomputable def sTree (x y : Int) (t z : Tree (AV T)) : Tree (AV T) := .br (decide ((0 : Int) ≤ x)) (.br (decide (x ≤ y)) (.br (!decide (y ≤ 1048576)) z t) z) z
noncomputable def gTree (a b : List Knot) (x y : Int) (t z : Tree (AV T)) : Tree (AV T) :=
  .br (lineErr a 1048576 68719476736 != 0) (.br (lineErr a 1048576 68719476736 == 0) (sTree x y t z) z) (.br (lineErr b 1048576 68719476736 == 0) (sTree x y t z) z)
theorem gTree_ok {a b : List Knot} {x y : Int} {t z : Tree (AV T)} {Q : AV T → Prop} (h1 : askd a b x y → t.holds Q) (h2 : ¬ askd a b x y → z.holds Q) : (gTree a b x y t z).holds Q := by
  refine wayNe (fun h => wayEq (fun k => absurd k h) fun _ => h2 fun k => h k.1.1) fun h => wayEq (fun k => ?_) fun k => h2 fun q => k q.1.2
  exact way (fun p => way (fun q => wayN (fun r => h2 fun s => r s.2.2.2) fun r => h1 ⟨⟨h, k⟩, p, q, r⟩) fun q => h2 fun s => q s.2.2.1) fun p => h2 fun s => p s.2.1
theorem ls_two {a b : List Knot} (ha : lineErr a 1048576 68719476736 = 0) (hb : lineErr b 1048576 68719476736 = 0) : lsOk [⟨a⟩, ⟨b⟩] := by
  have := len_of ha
  have := len_of hb
  refine ⟨by show 2 ≤ 1000; decide, fun l hl => ?_⟩
  rcases List.mem_cons.1 hl with rfl | hl
  · show a.length ≤ 1000; omega
  rcases List.mem_cons.1 hl with rfl | hl
  · show b.length ≤ 1000; omega
  · simp at hl
theorem tv26' (a b : List Knot) (x y : Int) : runX ctX noLoops 26 [stA a b, i64 x, i64 y] [2] = gTree a b x y (.req (lsOk [⟨a⟩, ⟨b⟩]) (.leaf (i64 (grt a b x y [⟨a⟩, ⟨b⟩])))) (.leaf (i64 0)) := by kernel_rfl
theorem tv28' (a b : List Knot) (x y : Int) : runX ctX noLoops 28 [stA a b, i64 x, i64 y] [2] = gTree a b x y (.req (lsOk [⟨b⟩, ⟨a⟩]) (.leaf (i64 (grt b a x y [⟨b⟩, ⟨a⟩])))) (.leaf (i64 0)) := by kernel_rfl
theorem s26 (a b : List Knot) (x y : Int) : (runX ctX noLoops 26 [stA a b, i64 x, i64 y] [2]).holds fun v => v = i64 (exc a b x y) := by
  rw [tv26']
  refine gTree_ok (fun h => ⟨ls_two h.1.1 h.1.2, ?_⟩) fun h => exc_out h
  show i64 _ = _
  unfold exc; rw [if_pos h]
theorem s28 (a b : List Knot) (x y : Int) : (runX ctX noLoops 28 [stA a b, i64 x, i64 y] [2]).holds fun v => v = i64 (exc b a x y) := by
  rw [tv28']
  refine gTree_ok (fun h => ⟨ls_two h.1.2 h.1.1, ?_⟩) fun h => exc_out fun k => h ⟨⟨k.1.2, k.1.1⟩, k.2⟩
  show i64 _ = _
  unfold exc; rw [if_pos ⟨⟨h.1.2, h.1.1⟩, h.2⟩]
theorem s27 (a b : List Knot) (x y : Int) : (runX ctX noLoops 27 [stA a b, i64 x, i64 y] [2]).holds fun v => v = i64 (exc a b x y) := by rw [tv27]; rfl
theorem s29 (a b : List Knot) (x y : Int) : (runX ctX noLoops 29 [stA a b, i64 x, i64 y] [2]).holds fun v => v = i64 (exc b a x y) := by rw [tv29]; rfl
@[reducible] def okQ (q f : Int) : Prop := (-68719476736 ≤ q ∧ q ≤ 68719476736) ∧ 1000 ≤ f ∧ f ≤ 3000
noncomputable def need (q f : Int) : Int := if okQ q f then -(-(mx 0 q * f) / 1000) else 0
theorem need_out {q f : Int} (h : ¬ okQ q f) : i64 0 = i64 (need q f) := by unfold need; rw [if_neg h]
theorem mq_bd {q f : Int} (h : okQ q f) : 0 ≤ mx 0 q * f ∧ mx 0 q * f ≤ 68719476736 * 3000 := by
  have : 0 ≤ mx 0 q ∧ mx 0 q ≤ 68719476736 := by unfold mx; split <;> omega
  exact mulb this.1 this.2 (by omega) (by omega)
theorem tv30' (q f : Int) : runX ctX noLoops 30 [i64 q, i64 f] [2] =
  (.br (!within q (-68719476736 : Int) (68719476736 : Int)) (.leaf (i64 0)) (.br (!within f 1000 3000) (.leaf (i64 0)) (.req (qPre (IntKind.wrap IntKind.i64 (mx 0 q * f)) 1000) (.leaf (i64 (-(-IntKind.wrap IntKind.i64 (mx 0 q * f) / 1000))))))) := by kernel_rfl
theorem tv31' (q f : Int) : runX ctX noLoops 31 [i64 q, i64 f] [2] =
  (.br (decide (q < (-68719476736 : Int))) (.leaf (i64 0)) (.br (decide (q > (68719476736 : Int))) (.leaf (i64 0)) (.br (decide (f < (1000 : Int))) (.leaf (i64 0)) (.br (decide (f > (3000 : Int))) (.leaf (i64 0)) (.leaf (i64 (IntKind.wrap IntKind.i64 (Int.tdiv (IntKind.wrap IntKind.i64 (IntKind.wrap IntKind.i64 (mx 0 q * f) + 999)) 1000)))))))) := by kernel_rfl
theorem s30 (q f : Int) : (runX ctX noLoops 30 [i64 q, i64 f] [2]).holds fun v => v = i64 (need q f) := by
  rw [tv30']
  refine wayN (fun h => need_out fun k => h k.1) fun h1 => wayN (fun h => need_out fun k => h k.2) fun h2 => ?_
  have h : okQ q f := ⟨h1, h2⟩
  have b := mq_bd h
  have e : IntKind.wrap IntKind.i64 (mx 0 q * f) = mx 0 q * f := i64_in' (by omega) (by omega)
  rw [e]
  refine ⟨⟨by decide, by omega, by omega⟩, ?_⟩
  show i64 _ = _
  unfold need; rw [if_pos h]
theorem s31 (q f : Int) : (runX ctX noLoops 31 [i64 q, i64 f] [2]).holds fun v => v = i64 (need q f) := by
  rw [tv31']
  refine way (fun h => need_out fun k => by omega) fun h1 => way (fun h => need_out fun k => by omega) fun h2 => way (fun h => need_out fun k => by omega) fun h3 => way (fun h => need_out fun k => by omega) fun h4 => ?_
  have h : okQ q f := ⟨by omega, by omega⟩
  have b := mq_bd h
  have e : IntKind.wrap IntKind.i64 (mx 0 q * f) = mx 0 q * f := i64_in' (by omega) (by omega)
  have e2 : IntKind.wrap IntKind.i64 (mx 0 q * f + 999) = mx 0 q * f + 999 := i64_in' (by omega) (by omega)
  have e3 : Int.tdiv (mx 0 q * f + 999) 1000 = (mx 0 q * f + 999) / 1000 := Int.tdiv_eq_ediv_of_nonneg (by omega)
  have e4 : IntKind.wrap IntKind.i64 ((mx 0 q * f + 999) / 1000) = (mx 0 q * f + 999) / 1000 := i64_in' (by omega) (by omega)
  rw [e, e2, e3, e4]
  show i64 _ = _
  unfold need; rw [if_pos h]
  congr 1
  omega
@[reducible] noncomputable def shSt : List Sh := [.agg [.s 39, .s 39], .one (.i .i64), .one (.i .i64)]
@[reducible] noncomputable def sgSt : List VT := [.l 39, .l 39, .n, .n]
noncomputable def cIn : Con T := conV Try.prog shSt sgSt fun d => i64 (exc d.1 d.2.1 d.2.2.1 d.2.2.2.1)
noncomputable def cOut : Con T := conV Try.prog shSt sgSt fun d => i64 (exc d.2.1 d.1 d.2.2.1 d.2.2.2.1)
noncomputable def cNeed : Con T := conV Try.prog [.one (.i .i64), .one (.i .i64)] [.n, .n] fun d => i64 (need d.1 d.2.1)
theorem in_ok : ConOk Try.prog E 26 cIn := conV_ok fun d => fact_run ctX_ok noLoops_ok (ts := [2]) rfl (s26 d.1 d.2.1 d.2.2.1 d.2.2.2.1)
theorem in2_ok : ConOk Try.prog E 27 cIn := conV_ok fun d => fact_run ctX_ok noLoops_ok (ts := [2]) rfl (s27 d.1 d.2.1 d.2.2.1 d.2.2.2.1)
theorem out_ok : ConOk Try.prog E 28 cOut := conV_ok fun d => fact_run ctX_ok noLoops_ok (ts := [2]) rfl (s28 d.1 d.2.1 d.2.2.1 d.2.2.2.1)
theorem out2_ok : ConOk Try.prog E 29 cOut := conV_ok fun d => fact_run ctX_ok noLoops_ok (ts := [2]) rfl (s29 d.1 d.2.1 d.2.2.1 d.2.2.2.1)
theorem need_ok : ConOk Try.prog E 30 cNeed := conV_ok fun d => fact_run ctX_ok noLoops_ok (ts := [2]) rfl (s30 d.1 d.2.1)
theorem need2_ok : ConOk Try.prog E 31 cNeed := conV_ok fun d => fact_run ctX_ok noLoops_ok (ts := [2]) rfl (s31 d.1 d.2.1)
end Go.Proofs.Ytcddppakogialaa.W
