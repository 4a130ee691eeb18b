/- Columns made of numbers, and what they hold. No condition. -/
import Derived.Test.YtnhedcaphncliaaHA
import Derived.Test.YtnhedcaphncliaaH8
import Derived.Test.YtnhedcaphncliaaW
import Derived.Test.YtnhedcaphncliaaLFluidBalance
set_option linter.unusedVariables false
set_option maxRecDepth 100000
set_option maxHeartbeats 4000000
noncomputable section
namespace Go.Proofs.Ytnhedcaphncliaa.W.Hole
open Go Go.Cx Go.RowKit
noncomputable def ctHc : CTab T := (89, cPk) :: (23, cVol) :: ctG
theorem ctHc_ok : CTabOk Try.prog E ctHc := .cons pk_ok (.cons vol2_ok ctG_ok)
noncomputable def cv (n room : Int) : Int := 1 + n / 13 % (room - 1)
noncomputable def cw (n : Int) : Int := 9000 + n % 13001
noncomputable def cwR (x : List Int) : Nat → Int → Int → List Slug → Int
  | 0, _, room, _ => room
  | n + 1, i, room, r => if i < x.length ∧ i < 5 ∧ room > 1 then cwR x n (i + 1) (room - cv (pk x i) room) (r ++ [⟨cw (pk x i), cv (pk x i) room⟩]) else room
noncomputable def cwL (x : List Int) : Nat → Int → Int → List Slug → List Slug
  | 0, _, room, r => r
  | n + 1, i, room, r => if i < x.length ∧ i < 5 ∧ room > 1 then cwL x n (i + 1) (room - cv (pk x i) room) (r ++ [⟨cw (pk x i), cv (pk x i) room⟩]) else r
noncomputable def o62 (r : List Slug) (x : List Int) (room : Int) (i : Int) : Tree (Ex × List (V T)) := .req ((0 ≤ i ∧ i ≤ 5) ∧ (0 ≤ room ∧ room ≤ 5242880000) ∧ r.length ≤ i) (.leaf (.exit 0, [.l 47 (cwL x (5 - i).toNat i room r), .l 2 x, .n (cwR x (5 - i).toNat i room r)]))
noncomputable def c62 : LoopC T := ⟨[.l 47, .l 2, .n, .n], ⟨56, [(1, .one (.s 2)), (5, .one (.i .i64)), (6, .one (.g 0 47)), (7, .one (.i .i64))], [.l 47]⟩, fun _ => ⟨56, [(1, .one (.s 2)), (5, .one (.i .i64)), (6, .one (.g 0 47))], [.l 47]⟩, 40, fun d => o62 d.1 d.2.1 d.2.2.1 d.2.2.2.1⟩
theorem b62 (r : List Slug) (x : List Int) (room : Int) (i : Int) : bodyD Try.prog E c62 0 (bodyX Try.prog E ctHc noLoops 1000 5 L0 (lpOf Try.prog 62 0)) (r, x, room, i, ()) =
  (.br (decide (i < (↑(List.length x) : Int)))
   (.br (decide (i < (5 : Int)))
    (.br (decide (room > (1 : Int)))
     (.req ((0 : Int) ≤ i)
     (.req (decide (IntKind.wrap IntKind.i64 (room - (1 : Int)) ≠ (0 : Int)) = true)
     (.req (List.length r = List.length r)
     (.req (List.length r + List.length [Slug.mk (IntKind.wrap IntKind.i64 ((9000 : Int) + Int.tmod (pk x i) (13001 : Int))) (IntKind.wrap IntKind.i64 ((1 : Int) + Int.tmod (IntKind.wrap IntKind.i64 (Int.tdiv (pk x i) (13 : Int))) (IntKind.wrap IntKind.i64 (room - (1 : Int)))))] ≤ (1073741824 : Nat))
     (.req (List.length (r ++ [Slug.mk (IntKind.wrap IntKind.i64 ((9000 : Int) + Int.tmod (pk x i) (13001 : Int))) (IntKind.wrap IntKind.i64 ((1 : Int) + Int.tmod (IntKind.wrap IntKind.i64 (Int.tdiv (pk x i) (13 : Int))) (IntKind.wrap IntKind.i64 (room - (1 : Int)))))]) = List.length (r ++ [Slug.mk (IntKind.wrap IntKind.i64 ((9000 : Int) + Int.tmod (pk x i) (13001 : Int))) (IntKind.wrap IntKind.i64 ((1 : Int) + Int.tmod (IntKind.wrap IntKind.i64 (Int.tdiv (pk x i) (13 : Int))) (IntKind.wrap IntKind.i64 (room - (1 : Int)))))]))
     (.leaf (.inl (r ++ [Slug.mk (IntKind.wrap IntKind.i64 ((9000 : Int) + Int.tmod (pk x i) (13001 : Int))) (IntKind.wrap IntKind.i64 ((1 : Int) + Int.tmod (IntKind.wrap IntKind.i64 (Int.tdiv (pk x i) (13 : Int))) (IntKind.wrap IntKind.i64 (room - (1 : Int)))))], (x, (IntKind.wrap IntKind.i64 (room - IntKind.wrap IntKind.i64 ((1 : Int) + Int.tmod (IntKind.wrap IntKind.i64 (Int.tdiv (pk x i) (13 : Int))) (IntKind.wrap IntKind.i64 (room - (1 : Int))))), (IntKind.wrap IntKind.i64 (i + (1 : Int)), ())))))))))))
     (.req (List.length r = List.length r)
     (.leaf (.inr (.exit (0 : Nat), [.l (47 : Nat) (r), .l (2 : Nat) (x), .n (room)])))))
    (.req (List.length r = List.length r)
    (.leaf (.inr (.exit (0 : Nat), [.l (47 : Nat) (r), .l (2 : Nat) (x), .n (room)])))))
   (.req (List.length r = List.length r)
   (.leaf (.inr (.exit (0 : Nat), [.l (47 : Nat) (r), .l (2 : Nat) (x), .n (room)]))))) := by kernel_rfl
noncomputable def o63 (l : List Slug) (s : Int) (i : Int) : Tree (Ex × List (V T)) := .req ((0 ≤ i ∧ i ≤ l.length) ∧ wr s = s ∧ l.length ≤ 1000) (.leaf (.exit 0, [.n (wr (s + sumV (l.drop i.toNat)))]))
noncomputable def c63 : LoopC T := ⟨[.l 47, .n, .n], ⟨19, [(0, .one (.s 47)), (3, .one (.i .i64)), (4, .one (.i .i64))], []⟩, fun _ => ⟨19, [(3, .one (.i .i64))], []⟩, 30, fun d => o63 d.1 d.2.1 d.2.2.1⟩
theorem b63 (l : List Slug) (s : Int) (i : Int) : bodyD Try.prog E c63 0 (bodyX Try.prog E ctHc noLoops 1000 5 L0 (lpOf Try.prog 63 0)) (l, s, i, ()) =
  (.br (decide (i < (↑(List.length l) : Int)))
   (.req ((decide ((0 : Int) ≤ i) && decide (i < (↑(List.length l) : Int))) = true)
   (.leaf (.inl (l, (IntKind.wrap IntKind.i64 (s + Slug.Volume (zi l i)), (IntKind.wrap IntKind.i64 (i + (1 : Int)), ()))))))
   (.leaf (.inr (.exit (0 : Nat), [.n (s)])))) := by kernel_rfl
theorem cw_stop {x : List Int} {i room : Int} {r : List Slug} (h : ¬ (i < x.length ∧ i < 5 ∧ room > 1)) : ∀ n : Nat, cwL x n i room r = r ∧ cwR x n i room r = room
  | 0 => ⟨rfl, rfl⟩
  | n + 1 => by unfold cwL cwR; rw [if_neg h, if_neg h]; exact ⟨rfl, rfl⟩
theorem cw_step {x : List Int} {i room : Int} {r : List Slug} (h : i < x.length ∧ i < 5 ∧ room > 1) : cwL x (5 - i).toNat i room r = cwL x (5 - (i + 1)).toNat (i + 1) (room - cv (pk x i) room) (r ++ [⟨cw (pk x i), cv (pk x i) room⟩]) ∧ cwR x (5 - i).toNat i room r = cwR x (5 - (i + 1)).toNat (i + 1) (room - cv (pk x i) room) (r ++ [⟨cw (pk x i), cv (pk x i) room⟩]) := by
  rw [show (5 - i).toNat = (5 - (i + 1)).toNat + 1 by omega, cwL, cwR, if_pos h, if_pos h]
  exact ⟨rfl, rfl⟩
theorem cv_bd {n room : Int} (h : 1 < room) : 1 ≤ cv n room ∧ cv n room < room := by
  have a := Int.emod_nonneg (n / 13) (b := room - 1) (by omega)
  have b := Int.emod_lt_of_pos (n / 13) (b := room - 1) (by omega)
  unfold cv
  omega
theorem cv_w {x : List Int} {i room : Int} (h : 1 < room) (hr : room ≤ 5242880000) : IntKind.wrap IntKind.i64 (1 + Int.tmod (IntKind.wrap IntKind.i64 (Int.tdiv (pk x i) 13)) (IntKind.wrap IntKind.i64 (room - 1))) = cv (pk x i) room := by
  have p := pk_bd x i
  have b := cv_bd (n := pk x i) h
  have e2 : Int.tdiv (pk x i) 13 = pk x i / 13 := Int.tdiv_eq_ediv_of_nonneg p.1
  rw [e2, i64_in' (n := pk x i / 13) (by omega) (by omega), i64_in' (n := room - 1) (by omega) (by omega)]
  have e3 : Int.tmod (pk x i / 13) (room - 1) = (pk x i / 13) % (room - 1) := Int.tmod_eq_emod_of_nonneg (by omega)
  rw [e3]
  exact i64_in' (show _ ≤ cv (pk x i) room by omega) (show cv (pk x i) room ≤ _ by omega)
theorem cw_w (x : List Int) (i : Int) : IntKind.wrap IntKind.i64 (9000 + Int.tmod (pk x i) 13001) = cw (pk x i) ∧ 9000 ≤ cw (pk x i) ∧ cw (pk x i) ≤ 22000 := by
  have p := pk_bd x i
  have e : Int.tmod (pk x i) 13001 = pk x i % 13001 := Int.tmod_eq_emod_of_nonneg p.1
  rw [e]
  unfold cw
  exact ⟨i64_in' (by omega) (by omega), by omega, by omega⟩
theorem n62 (r : List Slug) (x : List Int) (room : Int) (i : Int) (K : Ex × List (V T) → Prop) (hI : (0 ≤ i ∧ i ≤ 5) ∧ (0 ≤ room ∧ room ≤ 5242880000) ∧ r.length ≤ i) (hK : (.leaf (.exit 0, [.l 47 (cwL x (5 - i).toNat i room r), .l 2 x, .n (cwR x (5 - i).toNat i room r)]) : Tree (Ex × List (V T))).holds K) : (c62.out (r, x, room, i, ())).holds K := ⟨hI, hK⟩
theorem h62' (r : List Slug) (x : List Int) (room : Int) (i : Int) (K : Ex × List (V T) → Prop) (hI : (0 ≤ i ∧ i ≤ 5) ∧ (0 ≤ room ∧ room ≤ 5242880000) ∧ r.length ≤ i) (hK : (.leaf (.exit 0, [.l 47 (cwL x (5 - i).toNat i room r), .l 2 x, .n (cwR x (5 - i).toNat i room r)]) : Tree (Ex × List (V T))).holds K) :
    (bodyD Try.prog E c62 0 (bodyX Try.prog E ctHc noLoops 1000 5 L0 (lpOf Try.prog 62 0)) (r, x, room, i, ())).holds fun y => match y with
    | .inl d => (5 - d.2.2.2.1).toNat < (5 - i).toNat ∧ (c62.out d).holds K
    | .inr y => K y := by
  rw [b62]
  obtain ⟨⟨h0, h1⟩, ⟨r0, r1⟩, hr⟩ := hI
  have stop : ¬ (i < x.length ∧ i < 5 ∧ room > 1) → K (.exit 0, [.l 47 r, .l 2 x, .n room]) := fun h => by
    have := cw_stop (r := r) h (5 - i).toNat
    rw [this.1, this.2] at hK
    exact hK
  refine way (fun c1 => way (fun c2 => way (fun c3 => ?_) fun c => ⟨rfl, stop (fun q => c q.2.2)⟩) fun c => ⟨rfl, stop (fun q => c q.2.1)⟩) fun c => ⟨rfl, stop (fun q => c q.1)⟩
  have st := cw_step (r := r) (show i < x.length ∧ i < 5 ∧ room > 1 from ⟨c1, c2, c3⟩)
  rw [st.1, st.2] at hK
  have b := cv_bd (n := pk x i) c3
  have e1 := cv_w (x := x) (i := i) c3 r1
  have e2 := (cw_w x i).1
  have e4 : IntKind.wrap IntKind.i64 (i + 1) = i + 1 := i64_in' (by omega) (by omega)
  have e5 : IntKind.wrap IntKind.i64 (room - cv (pk x i) room) = room - cv (pk x i) room := i64_in' (by omega) (by omega)
  have e6 : IntKind.wrap IntKind.i64 (room - 1) = room - 1 := i64_in' (by omega) (by omega)
  rw [e1, e2, e4, e5, e6]
  have g2 : (5 - (i + 1)).toNat < (5 - i).toNat := by omega
  exact ⟨h0, decide_eq_true (by omega), rfl, by simp only [List.length_cons, List.length_nil]; omega, rfl, g2, n62 _ _ _ _ K ⟨by omega, by omega, by simp only [List.length_append, List.length_cons, List.length_nil]; omega⟩ hK⟩
theorem h62 : LoopH Try.prog E c62 0 (bodyX Try.prog E ctHc noLoops 1000 5 L0 (lpOf Try.prog 62 0)) :=
  ⟨fun d => (5 - d.2.2.2.1).toNat, fun dd K hK => by
    obtain ⟨r, x, room, i, ⟨⟩⟩ := dd
    obtain ⟨hI, hK⟩ := hK
    refine Tree.holds_mono (fun y hy => ?_) (h62' r x room i K hI hK)
    cases y with
    | inl d' => exact hy
    | inr y => exact hy⟩
theorem ll62 : LLOk Try.prog E (llOfN Try.prog E 62 0 [(4, c62)]) := llOfN_ok fun i hi c hc => by
  have hi : i < 1 := hi
  obtain rfl : i = 0 := by omega
  obtain rfl : c62 = c := Option.some.inj hc
  exact LSndN.mk good names mixes ctHc_ok (by decide) h62
theorem n63 (l : List Slug) (s : Int) (i : Int) (K : Ex × List (V T) → Prop) (hI : (0 ≤ i ∧ i ≤ l.length) ∧ wr s = s ∧ l.length ≤ 1000) (hK : (.leaf (.exit 0, [.n (wr (s + sumV (l.drop i.toNat)))]) : Tree (Ex × List (V T))).holds K) : (c63.out (l, s, i, ())).holds K := ⟨hI, hK⟩
theorem h63' (l : List Slug) (s : Int) (i : Int) (K : Ex × List (V T) → Prop) (hI : (0 ≤ i ∧ i ≤ l.length) ∧ wr s = s ∧ l.length ≤ 1000) (hK : (.leaf (.exit 0, [.n (wr (s + sumV (l.drop i.toNat)))]) : Tree (Ex × List (V T))).holds K) :
    (bodyD Try.prog E c63 0 (bodyX Try.prog E ctHc noLoops 1000 5 L0 (lpOf Try.prog 63 0)) (l, s, i, ())).holds fun y => match y with
    | .inl d => ((d.1.length : Int) - d.2.2.1).toNat < ((l.length : Int) - i).toNat ∧ (c63.out d).holds K
    | .inr y => K y := by
  rw [b63]
  obtain ⟨⟨h0, h1⟩, hs, hl⟩ := hI
  refine way (fun k => wayC h0 k fun _ _ => ?_) fun k => ?_
  · have d := drop_zI h0 k
    have e1 : IntKind.wrap IntKind.i64 (i + 1) = i + 1 := i64_in' (by omega) (by omega)
    have g2 : ((l.length : Int) - (i + 1)).toNat < ((l.length : Int) - i).toNat := by omega
    rw [e1]
    refine ⟨g2, n63 _ _ _ K ⟨⟨by omega, by omega⟩, wr_id _, hl⟩ ?_⟩
    rw [d] at hK
    rw [wr_wr, Int.add_assoc]
    exact hK
  · have e : sumV (l.drop i.toNat) = 0 := by rw [drop_n k]; rfl
    rw [e, Int.add_zero, hs] at hK
    exact hK
theorem h63 : LoopH Try.prog E c63 0 (bodyX Try.prog E ctHc noLoops 1000 5 L0 (lpOf Try.prog 63 0)) :=
  ⟨fun d => ((d.1.length : Int) - d.2.2.1).toNat, fun dd K hK => by
    obtain ⟨l, s, i, ⟨⟩⟩ := dd
    obtain ⟨hI, hK⟩ := hK
    refine Tree.holds_mono (fun y hy => ?_) (h63' l s i K hI hK)
    cases y with
    | inl d' => exact hy
    | inr y => exact hy⟩
theorem ll63 : LLOk Try.prog E (llOfN Try.prog E 63 0 [(3, c63)]) := llOfN_ok fun i hi c hc => by
  have hi : i < 1 := hi
  obtain rfl : i = 0 := by omega
  obtain rfl : c63 = c := Option.some.inj hc
  exact LSndN.mk good names mixes ctHc_ok (by decide) h63
theorem tv62 (h : List Seg) (x : List Int) : runN ctHc (llOfN Try.prog E 62 0 [(4, c62)]) [47] 62 [.agg [.sl 52 h false], .sl 2 x false] [36] =
  (.req (inLg h)
  (.req (((0 : Int) ≤ (0 : Int) ∧ (0 : Int) ≤ (5 : Int)) ∧ ((0 : Int) ≤ vol h ∧ vol h ≤ (5242880000 : Int)) ∧ (↑((0 : Nat)) : Int) ≤ (0 : Int))
  (.req ((0 : Int) ≤ (5 : Int))
  (.req (List.length (cwL x (Int.toNat ((5 : Int) - (0 : Int))) (0 : Int) (vol h) []) = List.length (cwL x (Int.toNat ((5 : Int) - (0 : Int))) (0 : Int) (vol h) []))
  (.req (List.length (cwL x (Int.toNat ((5 : Int) - (0 : Int))) (0 : Int) (vol h) []) + List.length [Slug.mk (IntKind.wrap IntKind.i64 ((9000 : Int) + Int.tmod (IntKind.wrap IntKind.i64 (Int.tdiv (pk x (5 : Int)) (17 : Int))) (13001 : Int))) (cwR x (Int.toNat ((5 : Int) - (0 : Int))) (0 : Int) (vol h) [])] ≤ (1073741824 : Nat))
  (.req (List.length (cwL x (Int.toNat ((5 : Int) - (0 : Int))) (0 : Int) (vol h) [] ++ [Slug.mk (IntKind.wrap IntKind.i64 ((9000 : Int) + Int.tmod (IntKind.wrap IntKind.i64 (Int.tdiv (pk x (5 : Int)) (17 : Int))) (13001 : Int))) (cwR x (Int.toNat ((5 : Int) - (0 : Int))) (0 : Int) (vol h) [])]) = List.length (cwL x (Int.toNat ((5 : Int) - (0 : Int))) (0 : Int) (vol h) [] ++ [Slug.mk (IntKind.wrap IntKind.i64 ((9000 : Int) + Int.tmod (IntKind.wrap IntKind.i64 (Int.tdiv (pk x (5 : Int)) (17 : Int))) (13001 : Int))) (cwR x (Int.toNat ((5 : Int) - (0 : Int))) (0 : Int) (vol h) [])]))
  (.leaf (.sl (47 : Nat) (cwL x (Int.toNat ((5 : Int) - (0 : Int))) (0 : Int) (vol h) [] ++ [Slug.mk (IntKind.wrap IntKind.i64 ((9000 : Int) + Int.tmod (IntKind.wrap IntKind.i64 (Int.tdiv (pk x (5 : Int)) (17 : Int))) (13001 : Int))) (cwR x (Int.toNat ((5 : Int) - (0 : Int))) (0 : Int) (vol h) [])]) false)))))))) := by kernel_rfl
theorem tv63 (l : List Slug) : runX ctHc (llOfN Try.prog E 63 0 [(3, c63)]) 63 [.sl 47 l false] [2] =
  (.req (((0 : Int) ≤ (0 : Int) ∧ (0 : Int) ≤ (↑(List.length l) : Int)) ∧ wr (0 : Int) = (0 : Int) ∧ List.length l ≤ (1000 : Nat))
  (.leaf (.sym .i64 (wr ((0 : Int) + sumV (List.drop (Int.toNat (0 : Int)) l)))))) := by kernel_rfl
theorem allV_snoc : ∀ {l : List Slug} {s : Slug}, allV l = true → zP s → allV (l ++ [s]) = true
  | [], s, _, h => Bool.and_eq_true_iff.2 ⟨decide_eq_true h, rfl⟩
  | x :: r, s, h, hs => by
    obtain ⟨h1, h2⟩ := Bool.and_eq_true_iff.1 h
    exact Bool.and_eq_true_iff.2 ⟨h1, allV_snoc h2 hs⟩
theorem sumV_snoc : ∀ (l : List Slug) (s : Slug), sumV (l ++ [s]) = sumV l + s.Volume
  | [], s => by show s.Volume + 0 = 0 + s.Volume; omega
  | x :: r, s => by
    show x.Volume + sumV (r ++ [s]) = x.Volume + sumV r + s.Volume
    rw [sumV_snoc r s]
    omega
noncomputable def colN (h : List Seg) (x : List Int) : List Slug := cwL x 5 0 (vol h) [] ++ [⟨9000 + pk x 5 / 17 % 13001, cwR x 5 0 (vol h) []⟩]
theorem cw_bd (x : List Int) : ∀ (n : Nat) (i room : Int) (r : List Slug), (allV r = true ∧ 1 ≤ room) → (allV (cwL x n i room r) = true ∧ 1 ≤ cwR x n i room r) ∧ sumV (cwL x n i room r) + cwR x n i room r = sumV r + room ∧ (cwL x n i room r).length ≤ r.length + n
  | 0, i, room, r, h => ⟨h, rfl, Nat.le_refl _⟩
  | n + 1, i, room, r, h => by
    unfold cwL cwR
    split
    next c =>
      have b := cv_bd (n := pk x i) c.2.2
      have w := (cw_w x i).2
      have k := cw_bd x n (i + 1) (room - cv (pk x i) room) (r ++ [⟨cw (pk x i), cv (pk x i) room⟩]) ⟨allV_snoc h.1 ⟨⟨by show (0 : Int) ≤ cw (pk x i); omega, by show cw (pk x i) ≤ 40000; omega⟩, b.1⟩, by omega⟩
      rw [sumV_snoc, List.length_append] at k
      have e : ([⟨cw (pk x i), cv (pk x i) room⟩] : List Slug).length = 1 := rfl
      rw [e] at k
      refine ⟨k.1, ?_, by omega⟩
      have k2 := k.2.1
      dsimp only at k2
      omega
    next c =>
      exact ⟨h, rfl, by omega⟩
theorem col_bd {h : List Seg} (x : List Int) (c : hE h = 0) : (cE h (colN h x) = 0 ∧ (colN h x).length ≤ 6) ∧ sumV (colN h x) = vol h := by
  have v := vol_pos c
  obtain ⟨⟨a, b⟩, d, e⟩ := cw_bd x 5 0 (vol h) [] ⟨rfl, v⟩
  have p := pk_bd x 5
  have A : allV (colN h x) = true := allV_snoc a ⟨⟨by show (0 : Int) ≤ 9000 + pk x 5 / 17 % 13001; omega, by show 9000 + pk x 5 / 17 % 13001 ≤ 40000; omega⟩, b⟩
  have S : sumV (colN h x) = vol h := by
    unfold colN
    rw [sumV_snoc]
    have z : sumV ([] : List Slug) = 0 := rfl
    show sumV (cwL x 5 0 (vol h) []) + cwR x 5 0 (vol h) [] = vol h
    omega
  have L : 1 ≤ (colN h x).length ∧ (colN h x).length ≤ 6 := by
    unfold colN
    rw [List.length_append]
    have z : ([⟨9000 + pk x 5 / 17 % 13001, cwR x 5 0 (vol h) []⟩] : List Slug).length = 1 := rfl
    have z2 : ([] : List Slug).length = 0 := rfl
    omega
  refine ⟨⟨?_, L.2⟩, S⟩
  unfold cE
  rw [if_pos c, if_neg (by omega), if_neg (by omega), if_pos A, if_neg (by omega), if_neg (by omega)]
theorem cE_in {h : List Seg} {l : List Slug} (c : cE h l = 0) : inVm l := fun s hs => by
  obtain ⟨_, h1, h2, h3⟩ := cE_len c
  have := vol_le h2 s hs
  have := vol_bd h
  omega
theorem s62 (h : List Seg) (x : List Int) (hL : inLg h) : (runN ctHc (llOfN Try.prog E 62 0 [(4, c62)]) [47] 62 [.agg [.sl 52 h false], .sl 2 x false] [36]).holds fun v => v = .sl 47 (colN h x) false := by
  rw [tv62]
  have v := vol_bd h
  have p := pk_bd x 5
  have e1 : Int.tdiv (pk x 5) 17 = pk x 5 / 17 := Int.tdiv_eq_ediv_of_nonneg p.1
  have e2 : Int.tmod (pk x 5 / 17) 13001 = pk x 5 / 17 % 13001 := Int.tmod_eq_emod_of_nonneg (by omega)
  rw [e1, i64_in' (n := pk x 5 / 17) (by omega) (by omega), e2, i64_in' (n := 9000 + pk x 5 / 17 % 13001) (by omega) (by omega)]
  refine ⟨hL, ⟨by decide, by omega, by decide⟩, by decide, rfl, ?_, rfl, rfl⟩
  have k : ∀ (n : Nat) (i room : Int) (r : List Slug), (cwL x n i room r).length ≤ r.length + n := by
    intro n
    induction n with
    | zero => intro i room r; exact Nat.le_refl _
    | succ n ih =>
      intro i room r
      unfold cwL
      split
      · have := ih (i + 1) (room - cv (pk x i) room) (r ++ [⟨cw (pk x i), cv (pk x i) room⟩])
        rw [List.length_append] at this
        have e : ([⟨cw (pk x i), cv (pk x i) room⟩] : List Slug).length = 1 := rfl
        omega
      · omega
  have := k 5 0 (vol h) []
  have z : ∀ s : Slug, ([s] : List Slug).length = 1 := fun _ => rfl
  have z2 : ([] : List Slug).length = 0 := rfl
  rw [z]
  show (cwL x 5 0 (vol h) []).length + 1 ≤ _
  omega
noncomputable def hel (l : List Slug) : Int := wr (sumV l)
theorem s63 (l : List Slug) (h : l.length ≤ 1000) : (runX ctHc (llOfN Try.prog E 63 0 [(3, c63)]) 63 [.sl 47 l false] [2]).holds fun v => v = i64 (hel l) := by
  rw [tv63]
  refine ⟨⟨by omega, by decide, h⟩, ?_⟩
  rw [Int.zero_add]
  rfl
noncomputable def cCl : Con T := conPN Try.prog [shH, .one (.s 2)] [.l 52, .l 2] (fun d => inLg d.1) fun d => .sl 47 (colN d.1 d.2.1) false
theorem cl_ok : ConOk Try.prog E 62 cCl := conPN_ok fun d hd => factN_run ctHc_ok ll62 flZ (ts := [36]) rfl (s62 d.1 d.2.1 hd)
noncomputable def cHel : Con T := conP Try.prog [.one (.s 47)] [.l 47] (fun d => (d.1 : List Slug).length ≤ 1000) fun d => i64 (hel d.1)
theorem hel_ok : ConOk Try.prog E 63 cHel := conP_ok fun d hd => fact_run ctHc_ok ll63 (ts := [2]) rfl (s63 d.1 hd)
noncomputable def ctI : CTab T := (62, cCl) :: (63, cHel) :: (58, cAnn) :: (60, cMod) :: (38, cPump) :: (19, cAwake) :: (999983, cFz) :: ctG
theorem ctI_ok : CTabOk Try.prog E ctI := .cons cl_ok (.cons hel_ok (.cons ann_ok (.cons mod64_ok (.cons pump_ok (.cons awake_ok (.cons cFz_ok ctG_ok))))))
theorem tv14 (x y : List Int) (w a b : Int) : runX ctI noLoops 14 [.sl 2 x false, .sl 2 y false, i64 w, i64 a, i64 b] [4] =
  (.req (inLg (ann x))
  (.req (List.length (colN (ann x) y) ≤ (1000 : Nat))
  (.req (mPre w (10000 : Int))
  (.req (mPre a (hel (colN (ann x) y)))
  (.req (mPre b (hel (colN (ann x) y)))
  (.req (inLg (ann x) ∧ inVm (colN (ann x) y))
  (.br (pmE (ann x) (colN (ann x) y) (IntKind.wrap IntKind.i64 ((9000 : Int) + w % (10000 : Int))) (IntKind.wrap IntKind.i64 ((1 : Int) + a % hel (colN (ann x) y))) != (0 : Int))
   (.leaf (.bool (false)))
   (.req (List.length (pmB (ann x) (colN (ann x) y) (IntKind.wrap IntKind.i64 ((9000 : Int) + w % (10000 : Int))) (IntKind.wrap IntKind.i64 ((1 : Int) + a % hel (colN (ann x) y)))) ≤ (1000 : Nat))
   (.br (hel (pmB (ann x) (colN (ann x) y) (IntKind.wrap IntKind.i64 ((9000 : Int) + w % (10000 : Int))) (IntKind.wrap IntKind.i64 ((1 : Int) + a % hel (colN (ann x) y)))) != IntKind.wrap IntKind.i64 ((1 : Int) + a % hel (colN (ann x) y)))
    (.leaf (.bool (false)))
    (.req (inLg (ann x) ∧ inVm (pmA (ann x) (colN (ann x) y) (IntKind.wrap IntKind.i64 ((9000 : Int) + w % (10000 : Int))) (IntKind.wrap IntKind.i64 ((1 : Int) + a % hel (colN (ann x) y)))))
    (.br (cE (ann x) (pmA (ann x) (colN (ann x) y) (IntKind.wrap IntKind.i64 ((9000 : Int) + w % (10000 : Int))) (IntKind.wrap IntKind.i64 ((1 : Int) + a % hel (colN (ann x) y)))) != (0 : Int))
     (.leaf (.bool (false)))
     (.req (List.length (pmA (ann x) (colN (ann x) y) (IntKind.wrap IntKind.i64 ((9000 : Int) + w % (10000 : Int))) (IntKind.wrap IntKind.i64 ((1 : Int) + a % hel (colN (ann x) y)))) ≤ (100 : Nat))
     (.req (pmA (ann x) (colN (ann x) y) (IntKind.wrap IntKind.i64 ((9000 : Int) + w % (10000 : Int))) (IntKind.wrap IntKind.i64 ((1 : Int) + a % hel (colN (ann x) y))) = plz (pmA (ann x) (colN (ann x) y) (IntKind.wrap IntKind.i64 ((9000 : Int) + w % (10000 : Int))) (IntKind.wrap IntKind.i64 ((1 : Int) + a % hel (colN (ann x) y)))) [] ∧ List.length (plz (pmA (ann x) (colN (ann x) y) (IntKind.wrap IntKind.i64 ((9000 : Int) + w % (10000 : Int))) (IntKind.wrap IntKind.i64 ((1 : Int) + a % hel (colN (ann x) y)))) []) ≤ (1000 : Nat))
     (.br (false)
      (.leaf (.bool (false)))
      (.req (List.length (pmB (ann x) (colN (ann x) y) (IntKind.wrap IntKind.i64 ((9000 : Int) + w % (10000 : Int))) (IntKind.wrap IntKind.i64 ((1 : Int) + a % hel (colN (ann x) y)))) ≤ (100 : Nat))
      (.req (pmB (ann x) (colN (ann x) y) (IntKind.wrap IntKind.i64 ((9000 : Int) + w % (10000 : Int))) (IntKind.wrap IntKind.i64 ((1 : Int) + a % hel (colN (ann x) y))) = plz (pmB (ann x) (colN (ann x) y) (IntKind.wrap IntKind.i64 ((9000 : Int) + w % (10000 : Int))) (IntKind.wrap IntKind.i64 ((1 : Int) + a % hel (colN (ann x) y)))) [] ∧ List.length (plz (pmB (ann x) (colN (ann x) y) (IntKind.wrap IntKind.i64 ((9000 : Int) + w % (10000 : Int))) (IntKind.wrap IntKind.i64 ((1 : Int) + a % hel (colN (ann x) y)))) []) ≤ (1000 : Nat))
      (.br (false)
       (.leaf (.bool (false)))
       (.br ((↑(List.length (pmA (ann x) (colN (ann x) y) (IntKind.wrap IntKind.i64 ((9000 : Int) + w % (10000 : Int))) (IntKind.wrap IntKind.i64 ((1 : Int) + a % hel (colN (ann x) y))))) : Int) == (0 : Int))
        (.leaf (.bool (false)))
        (.req ((true && decide ((0 : Int) < (↑(List.length (pmA (ann x) (colN (ann x) y) (IntKind.wrap IntKind.i64 ((9000 : Int) + w % (10000 : Int))) (IntKind.wrap IntKind.i64 ((1 : Int) + a % hel (colN (ann x) y))))) : Int))) = true)
        (.br (Slug.Weight (zi (pmA (ann x) (colN (ann x) y) (IntKind.wrap IntKind.i64 ((9000 : Int) + w % (10000 : Int))) (IntKind.wrap IntKind.i64 ((1 : Int) + a % hel (colN (ann x) y)))) (0 : Int)) != IntKind.wrap IntKind.i64 ((9000 : Int) + w % (10000 : Int)))
         (.leaf (.bool (false)))
         (.req ((true && decide ((0 : Int) < (↑(List.length (pmA (ann x) (colN (ann x) y) (IntKind.wrap IntKind.i64 ((9000 : Int) + w % (10000 : Int))) (IntKind.wrap IntKind.i64 ((1 : Int) + a % hel (colN (ann x) y))))) : Int))) = true)
         (.br (decide (Slug.Volume (zi (pmA (ann x) (colN (ann x) y) (IntKind.wrap IntKind.i64 ((9000 : Int) + w % (10000 : Int))) (IntKind.wrap IntKind.i64 ((1 : Int) + a % hel (colN (ann x) y)))) (0 : Int)) < IntKind.wrap IntKind.i64 ((1 : Int) + a % hel (colN (ann x) y))))
          (.leaf (.bool (false)))
          (.req (inLg (ann x) ∧ inVm (pmA (ann x) (colN (ann x) y) (IntKind.wrap IntKind.i64 ((9000 : Int) + w % (10000 : Int))) (IntKind.wrap IntKind.i64 ((1 : Int) + a % hel (colN (ann x) y)))))
          (.req (inLg (ann x) ∧ inVm (colN (ann x) y))
          (.br (pmE (ann x) (pmA (ann x) (colN (ann x) y) (IntKind.wrap IntKind.i64 ((9000 : Int) + w % (10000 : Int))) (IntKind.wrap IntKind.i64 ((1 : Int) + a % hel (colN (ann x) y)))) (IntKind.wrap IntKind.i64 ((9000 : Int) + w % (10000 : Int))) (IntKind.wrap IntKind.i64 ((1 : Int) + b % hel (colN (ann x) y))) != (0 : Int))
           (.leaf (.bool (false)))
           (.br (pmE (ann x) (colN (ann x) y) (IntKind.wrap IntKind.i64 ((9000 : Int) + w % (10000 : Int))) (IntKind.wrap IntKind.i64 ((1 : Int) + b % hel (colN (ann x) y))) != (0 : Int))
            (.leaf (.bool (false)))
            (.req (inLg (ann x) ∧ inVm (pmA (ann x) (colN (ann x) y) (IntKind.wrap IntKind.i64 ((9000 : Int) + w % (10000 : Int))) (IntKind.wrap IntKind.i64 ((1 : Int) + b % hel (colN (ann x) y)))))
            (.br (pmE (ann x) (pmA (ann x) (colN (ann x) y) (IntKind.wrap IntKind.i64 ((9000 : Int) + w % (10000 : Int))) (IntKind.wrap IntKind.i64 ((1 : Int) + b % hel (colN (ann x) y)))) (IntKind.wrap IntKind.i64 ((9000 : Int) + w % (10000 : Int))) (IntKind.wrap IntKind.i64 ((1 : Int) + a % hel (colN (ann x) y))) == (0 : Int))
             (.req (pmA (ann x) (pmA (ann x) (colN (ann x) y) (IntKind.wrap IntKind.i64 ((9000 : Int) + w % (10000 : Int))) (IntKind.wrap IntKind.i64 ((1 : Int) + b % hel (colN (ann x) y)))) (IntKind.wrap IntKind.i64 ((9000 : Int) + w % (10000 : Int))) (IntKind.wrap IntKind.i64 ((1 : Int) + a % hel (colN (ann x) y))) = pmA (ann x) (pmA (ann x) (colN (ann x) y) (IntKind.wrap IntKind.i64 ((9000 : Int) + w % (10000 : Int))) (IntKind.wrap IntKind.i64 ((1 : Int) + a % hel (colN (ann x) y)))) (IntKind.wrap IntKind.i64 ((9000 : Int) + w % (10000 : Int))) (IntKind.wrap IntKind.i64 ((1 : Int) + b % hel (colN (ann x) y))) ∧ List.length (pmA (ann x) (pmA (ann x) (colN (ann x) y) (IntKind.wrap IntKind.i64 ((9000 : Int) + w % (10000 : Int))) (IntKind.wrap IntKind.i64 ((1 : Int) + a % hel (colN (ann x) y)))) (IntKind.wrap IntKind.i64 ((9000 : Int) + w % (10000 : Int))) (IntKind.wrap IntKind.i64 ((1 : Int) + b % hel (colN (ann x) y)))) ≤ (1000 : Nat))
             (.br (true)
              (.leaf (.bool (true)))
              (.leaf (.bool (false)))))
             (.leaf (.bool (false))))))))))))))))))))))))))))))) := by kernel_rfl
theorem s14 (x y : List Int) (w a b : Int) : (runX ctI noLoops 14 [.sl 2 x false, .sl 2 y false, i64 w, i64 a, i64 b] [4]).holds fun v => v = .bool true := by
  rw [tv14]
  have hx := (ann_ok' x).1
  have hi := ann_in x
  obtain ⟨⟨c, hl⟩, hs⟩ := col_bd y hx
  have v := vol_bd (ann x)
  have vp := vol_pos hx
  have eh : hel (colN (ann x) y) = vol (ann x) := by unfold hel; rw [hs]; exact i64_in' (by omega) (by omega)
  have mp : ∀ z : Int, mPre z (vol (ann x)) := fun z => by unfold mPre; omega
  have mw : mPre w 10000 := by unfold mPre; omega
  have a1 := Int.emod_nonneg a (b := vol (ann x)) (by omega)
  have a2 := Int.emod_lt_of_pos a (b := vol (ann x)) (by omega)
  have b1 := Int.emod_nonneg b (b := vol (ann x)) (by omega)
  have b2 := Int.emod_lt_of_pos b (b := vol (ann x)) (by omega)
  have eW : IntKind.wrap IntKind.i64 (9000 + w % 10000) = 9000 + w % 10000 := i64_in' (by omega) (by omega)
  have eA : IntKind.wrap IntKind.i64 (1 + a % vol (ann x)) = 1 + a % vol (ann x) := i64_in' (by omega) (by omega)
  have eB : IntKind.wrap IntKind.i64 (1 + b % vol (ann x)) = 1 + b % vol (ann x) := i64_in' (by omega) (by omega)
  rw [eh, eW, eA, eB]
  have hW : 0 ≤ 9000 + w % 10000 ∧ 9000 + w % 10000 ≤ 40000 := by omega
  have hA : 1 ≤ 1 + a % vol (ann x) ∧ 1 + a % vol (ann x) ≤ vol (ann x) := by omega
  have hB : 1 ≤ 1 + b % vol (ann x) ∧ 1 + b % vol (ann x) ≤ vol (ann x) := by omega
  clear eW eA eB a1 a2 b1 b2
  generalize 9000 + w % 10000 = W at *
  generalize 1 + a % vol (ann x) = A at *
  generalize 1 + b % vol (ann x) = B at *
  generalize colN (ann x) y = l at *
  generalize ann x = h at *
  have pa := pumped c hW hA (by omega)
  have pb := pumped c hW hB (by omega)
  have la := pa.len
  have lb := pb.len
  have pab := pumped pa.c hW hB (by omega)
  have pba := pumped pb.c hW hA (by omega)
  have tw := pumped_twice c hW hA hB (by omega)
  have f : 0 < (pmA h l W A).length ∧ (zi (pmA h l W A) 0).Weight = W ∧ A ≤ (zi (pmA h l W A) 0).Volume := pa.first hA.1
  have lo := pa.lo
  have lab := pab.len
  have bd1 : sumV (pmA h l W A) ≤ 1099511627776 := by rw [(cE_len pa.c).2.2.2]; omega
  have bd2 : sumV (pmB h l W A) ≤ 1099511627776 := by rw [pa.ob]; omega
  have i1 := plz_id pa.a bd1
  have i2 := plz_id pa.o bd2
  have ho : hel (pmB h l W A) = A := by unfold hel; rw [pa.ob]; exact i64_in' (by omega) (by omega)
  have no : ∀ {p q : Tree (AV T)} {Q : AV T → Prop}, q.holds Q → (Tree.br false p q).holds Q := fun hq => wayB (fun k => by cases k) fun _ => hq
  have r0 : (true && decide ((0 : Int) < ((pmA h l W A).length : Int))) = true := by rw [Bool.true_and]; exact decide_eq_true (by omega)
  refine ⟨hi, by omega, mw, mp _, mp _, ⟨hi, cE_in c⟩, wayNe (fun k => absurd pa.e k) fun _ => ⟨by omega, wayNe (fun k => absurd ho k) fun _ => ⟨⟨hi, cE_in pa.c⟩, wayNe (fun k => absurd pa.c k) fun _ => ⟨by omega, ⟨i1.symm, by rw [i1]; omega⟩, no ⟨by omega, ⟨i2.symm, by rw [i2]; omega⟩, no (wayEq (fun k => by omega) fun _ => ⟨r0, wayNe (fun k => absurd f.2.1 k) fun _ => ⟨r0, way (fun k => absurd f.2.2 (by omega)) fun _ => ⟨⟨hi, cE_in pa.c⟩, ⟨hi, cE_in c⟩, wayNe (fun k => absurd pab.e k) fun _ => wayNe (fun k => absurd pb.e k) fun _ => ⟨⟨hi, cE_in pb.c⟩, wayEq (fun _ => ⟨⟨tw, by omega⟩, wayB (fun _ => rfl) (no_way rfl)⟩) fun k => absurd pba.e k⟩⟩⟩⟩)⟩⟩⟩⟩⟩
theorem fluidBalance_proved : Rows.FluidBalanceSaid := fluidBalance_said fun x y w a b _ _ _ _ _ => fact_run ctI_ok noLoops_ok (ts := [4]) rfl (s14 x y w a b)
end Go.Proofs.Ytnhedcaphncliaa.W.Hole
