/- Loads of casings. No condition. -/
import Derived.Test.YtcddppakogialaaV3a
set_option linter.unusedVariables false
set_option maxRecDepth 100000
noncomputable section
namespace Go.Proofs.Ytcddppakogialaa.W
open Go Go.Cx Go.RowKit
noncomputable def li (l : List Line) (i : Int) : Line := ixD E 35 l i
theorem drop_li {l : List Line} {i : Nat} (h : i < l.length) : l.drop i = li l i :: l.drop (i + 1) := drop_ix (E := E) (τ := 35) h
noncomputable def ctT : CTab T := (50, cAt) :: (89, cAt) :: ctV
theorem ctT_ok : CTabOk Try.prog E ctT := .cons at_ok (.cons at2_ok ctV_ok)
noncomputable def mx (a b : Int) : Int := if b > a then b else a
theorem mx_self (a : Int) : mx a a = a := by unfold mx; split <;> rfl
theorem at_bd (l : List Knot) (x : Int) : (0 ≤ atLo l x ∧ atLo l x ≤ 68719476736) ∧ 0 ≤ atHi l x ∧ atHi l x ≤ 68719476736 := by
  unfold atLo atHi
  split
  · rename_i h
    obtain ⟨a, v, R⟩ := isR_rt h
    have := val_bd R.good x
    have := R.v1
    omega
  · omega
noncomputable def op (a b : List Knot) (z : Int) : Int := atHi a z - atLo b z
theorem op_wrap (a b : List Knot) (z : Int) : IntKind.wrap IntKind.i64 (atHi a z - atLo b z) = op a b z := by
  have := at_bd a z
  have := at_bd b z
  exact i64_in' (by omega) (by omega)
/-- The greatest, over places. -/
noncomputable def fdm (a b : List Knot) (n : Int) : List Int → Int
  | [] => n
  | z :: l => fdm a b (mx n (op a b z)) l
theorem fdm_cons {a b : List Knot} {n z : Int} {l : List Int} : fdm a b n (z :: l) = fdm a b (mx n (op a b z)) l := rfl
theorem fdm_append {a b : List Knot} : ∀ {l m : List Int} {n : Int}, fdm a b n (l ++ m) = fdm a b (fdm a b n l) m
  | [], m, n => rfl
  | z :: l, m, n => by rw [List.cons_append, fdm_cons, fdm_cons, fdm_append]
noncomputable def plc (l : List Knot) (x y : Int) : List Int := (l.filter fun k => decide (x ≤ k.At ∧ k.At ≤ y)).map Knot.At
theorem plc_cons {k : Knot} {l : List Knot} {x y : Int} : plc (k :: l) x y = if x ≤ k.At ∧ k.At ≤ y then k.At :: plc l x y else plc l x y := by
  unfold plc
  by_cases h : x ≤ k.At ∧ k.At ≤ y
  · rw [List.filter_cons_of_pos (by simpa using h), if_pos h]; rfl
  · rw [List.filter_cons_of_neg (by simpa using h), if_neg h]
noncomputable def plcs (ls : List Line) (x y : Int) : List Int := ls.flatMap fun l => plc l.Knots x y
theorem plcs_cons {l : Line} {ls : List Line} {x y : Int} : plcs (l :: ls) x y = plc l.Knots x y ++ plcs ls x y := rfl
theorem fact_run3 {ct : CTab T} (hc : CTabOk Try.prog E ct) {ll : Nat → Nat → LoopTab T} (hl : LLOk Try.prog E ll) {f : Nat} {xs : List (AV T)} {ts : List Nat} {v : AV T} (ha : xs.all flt3 = true)
    (h : (runX ct ll f xs ts).holds fun x => x = v) : Fact Try.prog E f xs v :=
  fact_of_run3 good decOk (callX_ok good names mixes hc hl 8) ha h
/-! ### The program -/
@[reducible] noncomputable def outD (x y : Int) (a b : List Knot) (acc : Int) (ls : List Line) (n i : Int) : List (V T) := [.n x, .n y, .l 39 a, .l 39 b, .n acc, .l 35 ls, .n n, .n i]
noncomputable def o105i (x y : Int) (a b : List Knot) (acc : Int) (ls : List Line) (n i : Int) (l : List Knot) (m j : Int) : Tree (Ex × List (V T)) :=
  .req ((0 ≤ j ∧ m = l.length) ∧ l.length ≤ 1000) (.leaf (.exit 2, outD x y a b (fdm a b acc (plc (l.drop j.toNat) x y)) ls n i))
noncomputable def c105i : LoopC T := ⟨[.n, .n, .l 39, .l 39, .n, .l 35, .n, .n, .l 39, .n, .n], ⟨48, [(0, .one (.i .i64)), (1, .one (.i .i64)), (2, .fn 106 [.r [.s 39], .r [.s 39]]), (9, .one (.i .i64)), (21, .one (.s 35)), (22, .one (.i .i64)), (23, .one (.i .i64)), (28, .one (.s 39)), (29, .one (.i .i64)), (30, .one (.i .i64))], []⟩,
  fun _ => ⟨48, [(0, .one (.i .i64)), (1, .one (.i .i64)), (2, .fn 106 [.r [.s 39], .r [.s 39]]), (9, .one (.i .i64)), (21, .one (.s 35)), (22, .one (.i .i64)), (23, .one (.i .i64))], []⟩, 10,
  fun d => o105i d.1 d.2.1 d.2.2.1 d.2.2.2.1 d.2.2.2.2.1 d.2.2.2.2.2.1 d.2.2.2.2.2.2.1 d.2.2.2.2.2.2.2.1 d.2.2.2.2.2.2.2.2.1 d.2.2.2.2.2.2.2.2.2.1 d.2.2.2.2.2.2.2.2.2.2.1⟩
theorem b105i (x y : Int) (a b : List Knot) (acc : Int) (ls : List Line) (n i : Int) (l : List Knot) (m j : Int) : bodyD Try.prog E c105i 0 (bodyX Try.prog E ctT noLoops 1000 5 L0 (lpOf Try.prog 105 1)) (x, y, a, b, acc, ls, n, i, l, m, j, ()) =
  (.br (decide (j < m))
   (.req ((decide ((0 : Int) ≤ j) && decide (j < (↑(List.length l) : Int))) = true)
   (.br (within (Knot.At (kn l j)) x y)
    (.leaf (.inl (x, (y, (a, (b, (bif true then if IntKind.wrap IntKind.i64 (atHi a (Knot.At (kn l j)) - atLo b (Knot.At (kn l j))) > acc then IntKind.wrap IntKind.i64 (atHi a (Knot.At (kn l j)) - atLo b (Knot.At (kn l j))) else acc else if IntKind.wrap IntKind.i64 (atHi a (Knot.At (kn l j)) - atLo b (Knot.At (kn l j))) < acc then IntKind.wrap IntKind.i64 (atHi a (Knot.At (kn l j)) - atLo b (Knot.At (kn l j))) else acc, (ls, (n, (i, (l, (m, (IntKind.wrap IntKind.i64 (j + (1 : Int)), ())))))))))))))
    (.leaf (.inl (x, (y, (a, (b, (acc, (ls, (n, (i, (l, (m, (IntKind.wrap IntKind.i64 (j + (1 : Int)), ())))))))))))))))
   (.leaf (.inr (.exit (2 : Nat), [.n (x), .n (y), .l (39 : Nat) (a), .l (39 : Nat) (b), .n (acc), .l (35 : Nat) (ls), .n (n), .n (i)])))) := by kernel_rfl
theorem h105i' (x y : Int) (a b : List Knot) (acc : Int) (ls : List Line) (n i : Int) (l : List Knot) (j : Nat) (K : Ex × List (V T) → Prop) (hn : l.length ≤ 1000) (hK : K (.exit 2, outD x y a b (fdm a b acc (plc (l.drop j) x y)) ls n i)) :
    (bodyD Try.prog E c105i 0 (bodyX Try.prog E ctT noLoops 1000 5 L0 (lpOf Try.prog 105 1)) (x, y, a, b, acc, ls, n, i, l, (l.length : Int), (j : Int), ())).holds fun y => match y with
    | .inl d => ((d.2.2.2.2.2.2.2.2.1.length : Int) - d.2.2.2.2.2.2.2.2.2.2.1).toNat < ((l.length : Int) - (j : Int)).toNat ∧ (c105i.out d).holds K
    | .inr y => K y := by
  rw [b105i]
  refine way (fun c => wayC (by omega) c fun _ _ => ?_) fun c => ?_
  · have e2 : IntKind.wrap IntKind.i64 ((j : Int) + 1) = ((j + 1 : Nat) : Int) := i64_in' (by omega) (by omega)
    rw [e2]
    rw [drop_kn (by omega), plc_cons] at hK
    have hlt : ((l.length : Int) - ((j + 1 : Nat) : Int)).toNat < ((l.length : Int) - (j : Int)).toNat := by omega
    have h3 : (0 : Int) ≤ ((j + 1 : Nat) : Int) := by omega
    refine way (fun c2 => ?_) fun c2 => ?_
    · rw [op_wrap]
      rw [if_pos c2, fdm_cons] at hK
      exact ⟨hlt, ⟨⟨h3, rfl⟩, hn⟩, hK⟩
    · rw [if_neg c2] at hK
      exact ⟨hlt, ⟨⟨h3, rfl⟩, hn⟩, hK⟩
  · rw [List.drop_eq_nil_of_le (by omega)] at hK
    exact hK
theorem h105i : LoopH Try.prog E c105i 0 (bodyX Try.prog E ctT noLoops 1000 5 L0 (lpOf Try.prog 105 1)) :=
  ⟨fun d => ((d.2.2.2.2.2.2.2.2.1.length : Int) - d.2.2.2.2.2.2.2.2.2.2.1).toNat, fun d K hK => by
    obtain ⟨x, y, a, b, acc, ls, n, i, l, m, j, ⟨⟩⟩ := d
    obtain ⟨⟨⟨k1, k2⟩, k3⟩, k4⟩ := hK
    obtain ⟨q, hq⟩ := Int.eq_ofNat_of_zero_le k1
    obtain rfl : j = (q : Int) := hq
    obtain rfl : m = ((l : List Knot).length : Int) := k2
    refine Tree.holds_mono (fun y hy => ?_) (h105i' x y a b acc ls n i l q K k3 k4)
    cases y with
    | inl d' => exact hy
    | inr y => exact hy⟩
theorem snd105i : LSnd Try.prog E (lpOf Try.prog 105 1) c105i := LSnd.mk good names mixes ctT_ok (by decide) h105i
noncomputable def o105 (x y : Int) (a b : List Knot) (acc : Int) (ls : List Line) (n i : Int) : Tree (Ex × List (V T)) :=
  .req ((0 ≤ i ∧ n = ls.length) ∧ ls.length ≤ 1000 ∧ ∀ l ∈ ls, l.Knots.length ≤ 1000) (.leaf (.exit 0, [.n (fdm a b acc (plcs (ls.drop i.toNat) x y))]))
noncomputable def c105 : LoopC T := ⟨[.n, .n, .l 39, .l 39, .n, .l 35, .n, .n], ⟨48, [(0, .one (.i .i64)), (1, .one (.i .i64)), (2, .fn 106 [.r [.s 39], .r [.s 39]]), (9, .one (.i .i64)), (21, .one (.s 35)), (22, .one (.i .i64)), (23, .one (.i .i64))], []⟩,
  fun _ => ⟨48, [(9, .one (.i .i64))], []⟩, 40, fun d => o105 d.1 d.2.1 d.2.2.1 d.2.2.2.1 d.2.2.2.2.1 d.2.2.2.2.2.1 d.2.2.2.2.2.2.1 d.2.2.2.2.2.2.2.1⟩
theorem b105 (x y : Int) (a b : List Knot) (acc : Int) (ls : List Line) (n i : Int) : bodyD Try.prog E c105 0 (bodyX Try.prog E ctT noLoops 1000 5 (tabL Try.prog E [(6, c105i)]) (lpOf Try.prog 105 0)) (x, y, a, b, acc, ls, n, i, ()) =
  (.br (decide (i < n))
   (.req ((decide ((0 : Int) ≤ i) && decide (i < (↑(List.length ls) : Int))) = true)
   (.req (((0 : Int) ≤ (0 : Int) ∧ (↑(List.length (Line.Knots (li ls i))) : Int) = (↑(List.length (Line.Knots (li ls i))) : Int)) ∧ List.length (Line.Knots (li ls i)) ≤ (1000 : Nat))
   (.leaf (.inl (x, (y, (a, (b, (fdm a b acc (plc (List.drop (Int.toNat (0 : Int)) (Line.Knots (li ls i))) x y), (ls, (n, (IntKind.wrap IntKind.i64 (i + (1 : Int)), ()))))))))))))
   (.leaf (.inr (.exit (0 : Nat), [.n (acc)])))) := by kernel_rfl
theorem li_mem {l : List Line} {i : Nat} (h : i < l.length) : li l i ∈ l := by
  have : li l i = l[i] := by
    show Option.getD ((l : List Line)[((i : Nat) : Int).toNat]?) _ = _
    rw [Int.toNat_natCast, List.getElem?_eq_getElem h]
    rfl
  rw [this]
  exact List.getElem_mem h
theorem h105' (x y : Int) (a b : List Knot) (acc : Int) (ls : List Line) (i : Nat) (K : Ex × List (V T) → Prop) (hn : ls.length ≤ 1000) (hs : ∀ l ∈ ls, l.Knots.length ≤ 1000) (hK : K (.exit 0, [.n (fdm a b acc (plcs (ls.drop i) x y))])) :
    (bodyD Try.prog E c105 0 (bodyX Try.prog E ctT noLoops 1000 5 (tabL Try.prog E [(6, c105i)]) (lpOf Try.prog 105 0)) (x, y, a, b, acc, ls, (ls.length : Int), (i : Int), ())).holds fun y => match y with
    | .inl d => ((d.2.2.2.2.2.1.length : Int) - d.2.2.2.2.2.2.2.1).toNat < ((ls.length : Int) - (i : Int)).toNat ∧ (c105.out d).holds K
    | .inr y => K y := by
  rw [b105]
  refine way (fun c => wayC (by omega) c fun _ _ => ?_) fun c => ?_
  · have e2 : IntKind.wrap IntKind.i64 ((i : Int) + 1) = ((i + 1 : Nat) : Int) := i64_in' (by omega) (by omega)
    rw [e2]
    rw [drop_li (by omega), plcs_cons, fdm_append] at hK
    have hlt : ((ls.length : Int) - ((i + 1 : Nat) : Int)).toNat < ((ls.length : Int) - (i : Int)).toNat := by omega
    have h3 : (0 : Int) ≤ ((i + 1 : Nat) : Int) := by omega
    have hm := hs _ (li_mem (l := ls) (i := i) (by omega))
    exact ⟨⟨⟨by decide, rfl⟩, hm⟩, hlt, ⟨⟨h3, rfl⟩, hn, hs⟩, hK⟩
  · rw [List.drop_eq_nil_of_le (by omega)] at hK
    exact hK
theorem h105 : LoopH Try.prog E c105 0 (bodyX Try.prog E ctT noLoops 1000 5 (tabL Try.prog E [(6, c105i)]) (lpOf Try.prog 105 0)) :=
  ⟨fun d => ((d.2.2.2.2.2.1.length : Int) - d.2.2.2.2.2.2.2.1).toNat, fun d K hK => by
    obtain ⟨x, y, a, b, acc, ls, n, i, ⟨⟩⟩ := d
    obtain ⟨⟨⟨k1, k2⟩, k3, k5⟩, k4⟩ := hK
    obtain ⟨q, hq⟩ := Int.eq_ofNat_of_zero_le k1
    obtain rfl : i = (q : Int) := hq
    obtain rfl : n = ((ls : List Line).length : Int) := k2
    refine Tree.holds_mono (fun y hy => ?_) (h105' x y a b acc ls q K k3 k5 k4)
    cases y with
    | inl d' => exact hy
    | inr y => exact hy⟩
theorem in105 : ∀ b' ∈ loopsIn (lpOf Try.prog 105 0), ∀ c', lkL (keyOfC b') [(6, c105i)] = some c' → LSnd Try.prog E b' c' := by
  intro b' hb' c' hc'
  have e : loopsIn (lpOf Try.prog 105 0) = [lpOf Try.prog 105 1] := by kernel_rfl
  rw [e] at hb'
  obtain rfl := List.mem_singleton.1 hb'
  obtain rfl : c105i = c' := Option.some.inj hc'
  exact snd105i
theorem ll105 : LLOk Try.prog E (llOf Try.prog E 105 [(3, c105), (6, c105i)]) := llOf_ok fun i hi c hc => by
  have hi : i < 2 := hi
  have : i = 0 ∨ i = 1 := by omega
  rcases this with rfl | rfl
  · obtain rfl : c105 = c := Option.some.inj hc
    exact LSnd.mk2 good names mixes ctT_ok (by decide) in105 h105
  · obtain rfl : c105i = c := Option.some.inj hc
    exact snd105i
theorem tv105 (x y : Int) (a b : List Knot) (ls : List Line) : runX ctT (llOf Try.prog E 105 [(3, c105), (6, c105i)]) 105 [i64 x, i64 y, .fn 106 [.rp [.sl 39 a false], .rp [.sl 39 b false]], .sl 35 ls false] [2] =
  (.req (((0 : Int) ≤ (0 : Int) ∧ (ls.length : Int) = (ls.length : Int)) ∧ ls.length ≤ 1000 ∧ ∀ l ∈ ls, l.Knots.length ≤ 1000)
  (.leaf (i64 (fdm a b (mx (IntKind.wrap IntKind.i64 (atHi a x - atLo b x)) (IntKind.wrap IntKind.i64 (atHi a y - atLo b y))) (plcs ls x y))))) := by kernel_rfl
@[reducible] def lsOk (ls : List Line) : Prop := ls.length ≤ 1000 ∧ ∀ l ∈ ls, l.Knots.length ≤ 1000
noncomputable def grt (a b : List Knot) (x y : Int) (ls : List Line) : Int := fdm a b (mx (op a b x) (op a b y)) (plcs ls x y)
theorem s105 (x y : Int) (a b : List Knot) (ls : List Line) (h : lsOk ls) : (runX ctT (llOf Try.prog E 105 [(3, c105), (6, c105i)]) 105 [i64 x, i64 y, .fn 106 [.rp [.sl 39 a false], .rp [.sl 39 b false]], .sl 35 ls false] [2]).holds fun v => v = i64 (grt a b x y ls) := by
  rw [tv105, op_wrap, op_wrap]
  exact ⟨⟨⟨by decide, rfl⟩, h⟩, rfl⟩
noncomputable def cGrt : Con T := conFP Try.prog E [2, 2, 130, 148] [.one (.i .i64), .one (.i .i64), .fn 106 [.r [.s 39], .r [.s 39]], .one (.s 35)] [.n, .n, .l 39, .l 39, .l 35] (fun d => lsOk d.2.2.2.2.1) fun d => i64 (grt d.2.2.1 d.2.2.2.1 d.1 d.2.1 d.2.2.2.2.1)
set_option maxHeartbeats 4000000 in
theorem grt_ok : ConOk Try.prog E 105 cGrt := conFP_ok good decOk fun d hd => fact_run3 ctT_ok ll105 (ts := [2]) rfl (s105 d.1 d.2.1 d.2.2.1 d.2.2.2.1 d.2.2.2.2.1 hd)
noncomputable abbrev ctG : CTab T := (105, cGrt) :: ctT
theorem ctG_ok : CTabOk Try.prog E ctG := .cons grt_ok ctT_ok
theorem tv72 (a b : List Knot) (x y : Int) : runX ctG noLoops 72 [(⟨a⟩ : Line).av, (⟨b⟩ : Line).av, i64 x, i64 y] [2] = (.req (lsOk [⟨a⟩, ⟨b⟩]) (.leaf (i64 (grt a b x y [⟨a⟩, ⟨b⟩])))) := by kernel_rfl
end Go.Proofs.Ytcddppakogialaa.W
