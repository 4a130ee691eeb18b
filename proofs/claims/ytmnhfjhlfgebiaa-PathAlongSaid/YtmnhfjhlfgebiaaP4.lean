/- PathAlong. No condition. -/
import Derived.Test.YtmnhfjhlfgebiaaM2
import Derived.Test.YtmnhfjhlfgebiaaW
import Derived.Test.YtmnhfjhlfgebiaaLPathAlong
set_option linter.unusedVariables false
set_option maxRecDepth 100000
set_option maxHeartbeats 4000000
noncomputable section
namespace Go.Proofs.Ytmnhfjhlfgebiaa.W
open Go Go.Cx Go.RowKit
theorem tv78 (a b c x y z m : Int) : runX [] noLoops 78 [.agg [i64 a, i64 b, i64 c], .agg [i64 x, i64 y, i64 z], i64 m] [4] =
  (.br (decide (IntKind.wrap IntKind.i64 (a - x) > m))
   (.leaf (.bool (true)))
   (.br (decide (IntKind.wrap IntKind.i64 ((0 : Int) - IntKind.wrap IntKind.i64 (a - x)) > m))
    (.leaf (.bool (true)))
    (.br (decide (IntKind.wrap IntKind.i64 (b - y) > m))
     (.leaf (.bool (true)))
     (.br (decide (IntKind.wrap IntKind.i64 ((0 : Int) - IntKind.wrap IntKind.i64 (b - y)) > m))
      (.leaf (.bool (true)))
      (.br (decide (IntKind.wrap IntKind.i64 (c - z) > m))
       (.leaf (.bool (true)))
       (.br (decide (IntKind.wrap IntKind.i64 ((0 : Int) - IntKind.wrap IntKind.i64 (c - z)) > m))
        (.leaf (.bool (true)))
        (.leaf (.bool (false))))))))) := by kernel_rfl
noncomputable def fr1 (u m : Int) : Bool := decide (wr u > m) || decide (wr (0 - wr u) > m)
theorem or_br {a : Bool} {p : Prop} [Decidable p] {t : Tree (AV T)} (h : t.holds fun v => v = .bool a) : (Tree.br (decide p) (.leaf (.bool true)) t).holds fun v => v = .bool (decide p || a) := ⟨fun k => by rw [k]; rfl, fun k => by rw [k, Bool.false_or]; exact h⟩
noncomputable def frB (a b c x y z m : Int) : Bool := decide (wr (a - x) > m) || (decide (wr (0 - wr (a - x)) > m) || (decide (wr (b - y) > m) || (decide (wr (0 - wr (b - y)) > m) || (decide (wr (c - z) > m) || (decide (wr (0 - wr (c - z)) > m) || false)))))
theorem s78 (a b c x y z m : Int) : (runX [] noLoops 78 [.agg [i64 a, i64 b, i64 c], .agg [i64 x, i64 y, i64 z], i64 m] [4]).holds fun v => v = .bool (frB a b c x y z m) := by
  rw [tv78]
  exact or_br (or_br (or_br (or_br (or_br (or_br rfl)))))
noncomputable def cFr : Con T := conV Try.prog [sh3, sh3, .one (.i .i64)] [.n, .n, .n, .n, .n, .n, .n] fun d => .bool (frB d.1 d.2.1 d.2.2.1 d.2.2.2.1 d.2.2.2.2.1 d.2.2.2.2.2.1 d.2.2.2.2.2.2.1)
theorem fr_ok : ConOk Try.prog E 78 cFr := conV_ok fun d => fact_run .nil noLoops_ok (ts := [4]) rfl (s78 d.1 d.2.1 d.2.2.1 d.2.2.2.1 d.2.2.2.2.1 d.2.2.2.2.2.1 d.2.2.2.2.2.2.1)
noncomputable def ctAL : CTab T := (33, cPath) :: (36, cAt) :: (35, cMod) :: (20, cAwake) :: (78, cFr) :: (24, cLenP) :: (27, cJn) :: (30, cKn) :: ctA
theorem ctAL_ok : CTabOk Try.prog E ctAL := .cons path_ok (.cons at_ok (.cons mod64_ok (.cons awake_ok (.cons fr_ok (.cons lenP_ok (.cons jn_ok (.cons kn_ok ctA_ok)))))))
theorem vv_y {α : Type} {a : Bool} {t f : Tree α} {Q : α → Prop} (k : f.holds Q) (h : a = true) : (Tree.br (!a) t f).holds Q := ⟨fun c => (by rw [h] at c; cases c), fun _ => k⟩
theorem vv_n {α : Type} {a : Bool} {t f : Tree α} {Q : α → Prop} (k : f.holds Q) (h : a = false) : (Tree.br a t f).holds Q := ⟨fun c => (by rw [h] at c; cases c), fun _ => k⟩
theorem stop_i {l : List Vec} {s : Stp} {i : Int} (sm : Sm l s) (h0 : 0 ≤ i) (h : i < (jn l s).length) : ∃ u ∈ sts l s, vi (jn l s) i = pl u ∧ ki (kn l s) i = kn1 u ∧ (0 < i → ∃ w, ki (kn l s) (i - 1) = kn1 w ∧ w.d < u.d) := by
  have up := List.pairwise_iff_getElem.1 (sts_up l s sm)
  have hl : i.toNat < (sts l s).length := by rw [jn_sts, List.length_map] at h; omega
  have kk : ∀ (j : Int) (hj : j.toNat < (sts l s).length), ki (kn l s) j = kn1 (sts l s)[j.toNat] := fun j hj => by
    show ((kn l s : List Knot)[j.toNat]?).getD _ = _
    rw [kn_sts, List.getElem?_map, List.getElem?_eq_getElem hj]
    rfl
  refine ⟨(sts l s)[i.toNat], List.getElem_mem _, ?_, kk i hl, fun hi => ⟨(sts l s)[(i - 1).toNat]'(by omega), kk (i - 1) (by omega), up _ _ _ _ (by omega)⟩⟩
  show ((jn l s : List Vec)[i.toNat]?).getD _ = _
  rw [jn_sts, List.getElem?_map, List.getElem?_eq_getElem hl]
  rfl
theorem last_k {l : List Vec} {s : Stp} : ki (kn l s) l.length = kn1 (en l s) := by
  show ((kn l s : List Knot)[((l.length : Int)).toNat]?).getD _ = _
  rw [kn_sts, List.getElem?_map, Int.toNat_natCast, sts_last]
  rfl
theorem frB_no {a b c x y z m : Int} (h1 : -m ≤ a - x ∧ a - x ≤ m) (h2 : -m ≤ b - y ∧ b - y ≤ m) (h3 : -m ≤ c - z ∧ c - z ≤ m) (hm : m ≤ 8388609) : frB a b c x y z m = false := by
  have w : ∀ u : Int, -m ≤ u ∧ u ≤ m → decide (wr u > m) = false ∧ decide (wr (0 - wr u) > m) = false := fun u hu => by
    have e : wr u = u := i64_in' (by omega) (by omega)
    have e2 : wr (0 - u) = 0 - u := i64_in' (by omega) (by omega)
    rw [e, e2]
    exact ⟨decide_eq_false (by omega), decide_eq_false (by omega)⟩
  unfold frB
  rw [(w _ h1).1, (w _ h1).2, (w _ h2).1, (w _ h2).2, (w _ h3).1, (w _ h3).2]
  rfl
theorem atP_c {x y z : Int} {l : List Vec} {dd : Int} (hc : chk x y z l = 0) (h : 0 ≤ dd ∧ dd ≤ lenS x y z l) : atP x y z l dd = ⟨qc Vec.X l x 0 dd x, qc Vec.Y l y 0 dd y, qc Vec.Z l z 0 dd z⟩ := by
  have := (len_bd hc).2
  unfold atP
  rw [if_pos ⟨hc, h⟩, atq_qc l _ dd _ _ _ (chk_sm hc) (by omega)]
  rfl
theorem fr_no {x y z : Int} {l : List Vec} {p q : Int} (hc : chk x y z l = 0) (hp : 0 ≤ p ∧ p ≤ lenS x y z l) (hq : 0 ≤ q ∧ q ≤ lenS x y z l) : frB (atP x y z l p).X (atP x y z l p).Y (atP x y z l p).Z (atP x y z l q).X (atP x y z l q).Y (atP x y z l q).Z ((if q - p > p - q then q - p else p - q) + 1) = false := by
  have b := (len_bd hc).2
  obtain ⟨f1, f2, f3⟩ := okF_X (chk_sm hc).v
  rw [atP_c hc hp, atP_c hc hq]
  by_cases c : p ≤ q
  · have k : ∀ (f : Vec → Int) (o : Int), okF f l → -((if q - p > p - q then q - p else p - q) + 1) ≤ qc f l o 0 p o - qc f l o 0 q o ∧ qc f l o 0 p o - qc f l o 0 q o ≤ (if q - p > p - q then q - p else p - q) + 1 := fun f o hf => by
      have h := qc_far l o 0 p q o o hf hp.1 c (by omega)
      split <;> omega
    exact frB_no (k _ _ f1) (k _ _ f2) (k _ _ f3) (by split <;> omega)
  · have k : ∀ (f : Vec → Int) (o : Int), okF f l → -((if q - p > p - q then q - p else p - q) + 1) ≤ qc f l o 0 p o - qc f l o 0 q o ∧ qc f l o 0 p o - qc f l o 0 q o ≤ (if q - p > p - q then q - p else p - q) + 1 := fun f o hf => by
      have h := qc_far l o 0 q p o o hf hq.1 (by omega) (by omega)
      split <;> omega
    exact frB_no (k _ _ f1) (k _ _ f2) (k _ _ f3) (by split <;> omega)
def invA (J : List Vec) (x y z : Int) (l : List Vec) (K : List Knot) : Prop := chk x y z l = 0 ∧ J = jn l (s0 x y z) ∧ K = kn l (s0 x y z)
noncomputable def oAL (J : List Vec) (i : Int) (x : Int) (y : Int) (z : Int) (l : List Vec) (G : List Knot) : Tree (Ex × List (V T)) := .req (invA J x y z l G ∧ 0 ≤ i) (.leaf (.exit 0, []))
noncomputable def cAL : LoopC T := ⟨[.l 23, .n, .n, .n, .n, .l 23, .l 98], ⟨155, [(7, .one (.o 0 0)), (13, .one (.s 23)), (14, .one (.o 1 0)), (15, .one (.i .i64))], [.c [.i .i64, .i .i64, .i .i64, .s 23], .c [.s 98]]⟩, fun e => match e with
    | .ret => ⟨155, [(6, .one .b)], []⟩
    | _ => ⟨155, [], []⟩, 60, fun d => oAL d.1 d.2.1 d.2.2.1 d.2.2.2.1 d.2.2.2.2.1 d.2.2.2.2.2.1 d.2.2.2.2.2.2.1⟩
theorem bAL (J : List Vec) (i : Int) (x : Int) (y : Int) (z : Int) (l : List Vec) (G : List Knot) : bodyD Try.prog E cAL 0 (bodyX Try.prog E ctAL noLoops 1000 5 L0 (lpOf Try.prog 12 0)) (J, i, x, y, z, l, G, ()) =
  (.br (decide (i < (↑(List.length J) : Int)))
   (.req ((decide ((0 : Int) ≤ i) && decide (i < (↑(List.length G) : Int))) = true)
   (.br (!atB x y z l (Knot.At (ki G i)))
    (.leaf (.inr (.ret, [.t (false)])))
    (.req ((decide ((0 : Int) ≤ i) && decide (i < (↑(List.length J) : Int))) = true)
    (.br (!(Vec.X (atP x y z l (Knot.At (ki G i))) == Vec.X (vi J i) && (Vec.Y (atP x y z l (Knot.At (ki G i))) == Vec.Y (vi J i) && (Vec.Z (atP x y z l (Knot.At (ki G i))) == Vec.Z (vi J i) && true))))
     (.leaf (.inr (.ret, [.t (false)])))
     (.req ((decide ((0 : Int) ≤ i) && decide (i < (↑(List.length G) : Int))) = true)
     (.req ((decide ((0 : Int) ≤ i) && decide (i < (↑(List.length J) : Int))) = true)
     (.br (Knot.V (ki G i) != Vec.Z (vi J i))
      (.leaf (.inr (.ret, [.t (false)])))
      (.br (decide (i > (0 : Int)))
       (.req ((decide ((0 : Int) ≤ i) && decide (i < (↑(List.length G) : Int))) = true)
       (.req ((decide ((0 : Int) ≤ IntKind.wrap IntKind.i64 (i - (1 : Int))) && decide (IntKind.wrap IntKind.i64 (i - (1 : Int)) < (↑(List.length G) : Int))) = true)
       (.br (decide (Knot.At (ki G i) ≤ Knot.At (ki G (IntKind.wrap IntKind.i64 (i - (1 : Int))))))
        (.leaf (.inr (.ret, [.t (false)])))
        (.leaf (.inl (J, (IntKind.wrap IntKind.i64 (i + (1 : Int)), (x, (y, (z, (l, (G, ()))))))))))))
       (.leaf (.inl (J, (IntKind.wrap IntKind.i64 (i + (1 : Int)), (x, (y, (z, (l, (G, ())))))))))))))))))
   (.leaf (.inr (.exit (0 : Nat), [])))) := by kernel_rfl
theorem nAL (J : List Vec) (i : Int) (x : Int) (y : Int) (z : Int) (l : List Vec) (G : List Knot) (K : Ex × List (V T) → Prop) (hI : invA J x y z l G ∧ 0 ≤ i) (hK : (.leaf (.exit 0, []) : Tree (Ex × List (V T))).holds K) : (cAL.out (J, i, x, y, z, l, G, ())).holds K := ⟨hI, hK⟩
theorem hAL' (J : List Vec) (i : Int) (x : Int) (y : Int) (z : Int) (l : List Vec) (G : List Knot) (K : Ex × List (V T) → Prop) (hI : invA J x y z l G ∧ 0 ≤ i) (hK : (.leaf (.exit 0, []) : Tree (Ex × List (V T))).holds K) :
    (bodyD Try.prog E cAL 0 (bodyX Try.prog E ctAL noLoops 1000 5 L0 (lpOf Try.prog 12 0)) (J, i, x, y, z, l, G, ())).holds fun y => match y with
    | .inl d => ((d.1.length : Int) - d.2.1).toNat < ((J.length : Int) - i).toNat ∧ (cAL.out d).holds K
    | .inr y => K y := by
  rw [bAL]
  obtain ⟨⟨hc, hJ, hKn⟩, h0⟩ := hI
  subst hJ
  subst hKn
  have lj := len_jn l (s0 x y z)
  have lk := len_kn l (s0 x y z)
  have ll := (chk_lg hc).1
  refine way (fun c => ?_) fun c => hK
  obtain ⟨u, hu, eJ, eK, low⟩ := stop_i (chk_sm hc) h0 c
  have g := sts_ge l (s0 x y z) (chk_sm hc) u hu
  have ln := (len_bd hc).1
  have x1 : (decide (0 ≤ i) && decide (i < ((kn l (s0 x y z)).length : Int))) = true := by simp only [Bool.and_eq_true, decide_eq_true_eq]; omega
  have x2 : (decide (0 ≤ i) && decide (i < ((jn l (s0 x y z)).length : Int))) = true := by simp only [Bool.and_eq_true, decide_eq_true_eq]; omega
  have e1 : IntKind.wrap IntKind.i64 (i + 1) = i + 1 := i64_in' (by omega) (by omega)
  have e2 : IntKind.wrap IntKind.i64 (i - 1) = i - 1 := i64_in' (by omega) (by omega)
  rw [e1, e2, eJ, eK]
  have s0d : (s0 x y z).d = 0 := rfl
  have kd : (kn1 u).At = u.d := rfl
  have kv : (kn1 u).V = (pl u).Z := rfl
  have ok : okAt x y z l u.d := ⟨hc, by omega, by omega⟩
  have pa : atP x y z l u.d = pl u := by
    unfold atP
    rw [if_pos ok]
    exact at_stop l (s0 x y z) _ (chk_sm hc) (fun hl => rfl) u hu
  have ba : atB x y z l u.d = true := decide_eq_true ok
  rw [kd, pa, kv]
  have g1 : (((jn l (s0 x y z)).length : Int) - (i + 1)).toNat < (((jn l (s0 x y z)).length : Int) - i).toNat := by omega
  have fin : (((jn l (s0 x y z)).length : Int) - (i + 1)).toNat < (((jn l (s0 x y z)).length : Int) - i).toNat ∧ (cAL.out (jn l (s0 x y z), i + 1, x, y, z, l, kn l (s0 x y z), ())).holds K := ⟨g1, nAL _ _ _ _ _ _ _ K ⟨⟨hc, rfl, rfl⟩, by omega⟩ hK⟩
  refine ⟨x1, vv_y ⟨x2, vv_y ⟨x1, x2, wayNe (fun k => absurd rfl k) fun _ => way (fun c0 => ⟨x1, ?_, way (fun k => ?_) fun _ => fin⟩) fun _ => fin⟩ (by simp)⟩ ba⟩
  · simp only [Bool.and_eq_true, decide_eq_true_eq]; omega
  · obtain ⟨w, ew, hw⟩ := low c0
    rw [ew] at k
    exact absurd hw (by show ¬ w.d < u.d; have k : u.d ≤ w.d := k; omega)
theorem hAL : LoopH Try.prog E cAL 0 (bodyX Try.prog E ctAL noLoops 1000 5 L0 (lpOf Try.prog 12 0)) :=
  ⟨fun d => ((d.1.length : Int) - d.2.1).toNat, fun dd K hK => by
    obtain ⟨J, i, x, y, z, l, G, ⟨⟩⟩ := dd
    obtain ⟨hI, hK⟩ := hK
    refine Tree.holds_mono (fun y hy => ?_) (hAL' J i x y z l G K hI hK)
    cases y with
    | inl d' => exact hy
    | inr y => exact hy⟩
theorem llAL : LLOk Try.prog E (llOfN Try.prog E 12 0 [(12, cAL)]) := llOfN_ok fun i hi c hc => by
  have hi : i < 1 := hi
  obtain rfl : i = 0 := by omega
  obtain rfl : cAL = c := Option.some.inj hc
  exact LSndN.mk good names mixes ctAL_ok (by decide) hAL
noncomputable def runQ (fuel : Nat) (ct : CTab T) (ll : Nat → Nat → LoopTab T) (f : Nat) (xs : List (AV T)) (ts : List Nat) : Tree (AV T) := resX Try.prog E ts (callX Try.prog E ct ll fuel 8 (.fn f) xs hp0)
theorem tv12 (nums : List Int) (d e : Int) : runQ 2 ctAL (llOfN Try.prog E 12 0 [(12, cAL)]) 12 [.sl 3 nums false, i64 d, i64 e] [4] =
  (.req (pPre (0 : Int) (8 : Int))
  (.req (mPre d (IntKind.wrap IntKind.i64 (lenS (qX nums (0 : Int)) (qY nums (0 : Int)) (qZ nums (0 : Int)) (qL nums (0 : Int) (8 : Int)) + (1 : Int))))
  (.req (mPre e (IntKind.wrap IntKind.i64 (lenS (qX nums (0 : Int)) (qY nums (0 : Int)) (qZ nums (0 : Int)) (qL nums (0 : Int) (8 : Int)) + (1 : Int))))
  (.br (!atB (qX nums (0 : Int)) (qY nums (0 : Int)) (qZ nums (0 : Int)) (qL nums (0 : Int) (8 : Int)) (d % IntKind.wrap IntKind.i64 (lenS (qX nums (0 : Int)) (qY nums (0 : Int)) (qZ nums (0 : Int)) (qL nums (0 : Int) (8 : Int)) + (1 : Int))))
   (.leaf (.bool (false)))
   (.br (!atB (qX nums (0 : Int)) (qY nums (0 : Int)) (qZ nums (0 : Int)) (qL nums (0 : Int) (8 : Int)) (e % IntKind.wrap IntKind.i64 (lenS (qX nums (0 : Int)) (qY nums (0 : Int)) (qZ nums (0 : Int)) (qL nums (0 : Int) (8 : Int)) + (1 : Int))))
    (.leaf (.bool (false)))
    (.br (frB (Vec.X (atP (qX nums (0 : Int)) (qY nums (0 : Int)) (qZ nums (0 : Int)) (qL nums (0 : Int) (8 : Int)) (d % IntKind.wrap IntKind.i64 (lenS (qX nums (0 : Int)) (qY nums (0 : Int)) (qZ nums (0 : Int)) (qL nums (0 : Int) (8 : Int)) + (1 : Int))))) (Vec.Y (atP (qX nums (0 : Int)) (qY nums (0 : Int)) (qZ nums (0 : Int)) (qL nums (0 : Int) (8 : Int)) (d % IntKind.wrap IntKind.i64 (lenS (qX nums (0 : Int)) (qY nums (0 : Int)) (qZ nums (0 : Int)) (qL nums (0 : Int) (8 : Int)) + (1 : Int))))) (Vec.Z (atP (qX nums (0 : Int)) (qY nums (0 : Int)) (qZ nums (0 : Int)) (qL nums (0 : Int) (8 : Int)) (d % IntKind.wrap IntKind.i64 (lenS (qX nums (0 : Int)) (qY nums (0 : Int)) (qZ nums (0 : Int)) (qL nums (0 : Int) (8 : Int)) + (1 : Int))))) (Vec.X (atP (qX nums (0 : Int)) (qY nums (0 : Int)) (qZ nums (0 : Int)) (qL nums (0 : Int) (8 : Int)) (e % IntKind.wrap IntKind.i64 (lenS (qX nums (0 : Int)) (qY nums (0 : Int)) (qZ nums (0 : Int)) (qL nums (0 : Int) (8 : Int)) + (1 : Int))))) (Vec.Y (atP (qX nums (0 : Int)) (qY nums (0 : Int)) (qZ nums (0 : Int)) (qL nums (0 : Int) (8 : Int)) (e % IntKind.wrap IntKind.i64 (lenS (qX nums (0 : Int)) (qY nums (0 : Int)) (qZ nums (0 : Int)) (qL nums (0 : Int) (8 : Int)) + (1 : Int))))) (Vec.Z (atP (qX nums (0 : Int)) (qY nums (0 : Int)) (qZ nums (0 : Int)) (qL nums (0 : Int) (8 : Int)) (e % IntKind.wrap IntKind.i64 (lenS (qX nums (0 : Int)) (qY nums (0 : Int)) (qZ nums (0 : Int)) (qL nums (0 : Int) (8 : Int)) + (1 : Int))))) (IntKind.wrap IntKind.i64 ((mx2 (IntKind.wrap IntKind.i64 (d % IntKind.wrap IntKind.i64 (lenS (qX nums (0 : Int)) (qY nums (0 : Int)) (qZ nums (0 : Int)) (qL nums (0 : Int) (8 : Int)) + (1 : Int)) - e % IntKind.wrap IntKind.i64 (lenS (qX nums (0 : Int)) (qY nums (0 : Int)) (qZ nums (0 : Int)) (qL nums (0 : Int) (8 : Int)) + (1 : Int)))) (IntKind.wrap IntKind.i64 (e % IntKind.wrap IntKind.i64 (lenS (qX nums (0 : Int)) (qY nums (0 : Int)) (qZ nums (0 : Int)) (qL nums (0 : Int) (8 : Int)) + (1 : Int)) - d % IntKind.wrap IntKind.i64 (lenS (qX nums (0 : Int)) (qY nums (0 : Int)) (qZ nums (0 : Int)) (qL nums (0 : Int) (8 : Int)) + (1 : Int))))) + (1 : Int))))
     (.leaf (.bool (false)))
     (.br ((↑(List.length (jnS (qX nums (0 : Int)) (qY nums (0 : Int)) (qZ nums (0 : Int)) (qL nums (0 : Int) (8 : Int)))) : Int) != IntKind.wrap IntKind.i64 ((↑(List.length (qL nums (0 : Int) (8 : Int))) : Int) + (1 : Int)))
      (.leaf (.bool (false)))
      (.br ((↑(List.length (knS (qX nums (0 : Int)) (qY nums (0 : Int)) (qZ nums (0 : Int)) (qL nums (0 : Int) (8 : Int)))) : Int) != (↑(List.length (jnS (qX nums (0 : Int)) (qY nums (0 : Int)) (qZ nums (0 : Int)) (qL nums (0 : Int) (8 : Int)))) : Int))
       (.leaf (.bool (false)))
       (.req ((decide ((0 : Int) ≤ IntKind.wrap IntKind.i64 ((↑(List.length (jnS (qX nums (0 : Int)) (qY nums (0 : Int)) (qZ nums (0 : Int)) (qL nums (0 : Int) (8 : Int)))) : Int) - (1 : Int))) && decide (IntKind.wrap IntKind.i64 ((↑(List.length (jnS (qX nums (0 : Int)) (qY nums (0 : Int)) (qZ nums (0 : Int)) (qL nums (0 : Int) (8 : Int)))) : Int) - (1 : Int)) < (↑(List.length (knS (qX nums (0 : Int)) (qY nums (0 : Int)) (qZ nums (0 : Int)) (qL nums (0 : Int) (8 : Int)))) : Int))) = true)
       (.br (Knot.At (ki (knS (qX nums (0 : Int)) (qY nums (0 : Int)) (qZ nums (0 : Int)) (qL nums (0 : Int) (8 : Int))) (IntKind.wrap IntKind.i64 ((↑(List.length (jnS (qX nums (0 : Int)) (qY nums (0 : Int)) (qZ nums (0 : Int)) (qL nums (0 : Int) (8 : Int)))) : Int) - (1 : Int)))) != lenS (qX nums (0 : Int)) (qY nums (0 : Int)) (qZ nums (0 : Int)) (qL nums (0 : Int) (8 : Int)))
        (.leaf (.bool (false)))
        (.req (invA (jnS (qX nums (0 : Int)) (qY nums (0 : Int)) (qZ nums (0 : Int)) (qL nums (0 : Int) (8 : Int))) (qX nums (0 : Int)) (qY nums (0 : Int)) (qZ nums (0 : Int)) (qL nums (0 : Int) (8 : Int)) (knS (qX nums (0 : Int)) (qY nums (0 : Int)) (qZ nums (0 : Int)) (qL nums (0 : Int) (8 : Int))) ∧ (0 : Int) ≤ (0 : Int))
        (.leaf (.bool (true)))))))))))))) := by kernel_rfl
theorem s12 (nums : List Int) (d e : Int) : (runQ 2 ctAL (llOfN Try.prog E 12 0 [(12, cAL)]) 12 [.sl 3 nums false, i64 d, i64 e] [4]).holds fun v => v = .bool true := by
  rw [tv12]
  have hc := made_chk nums 0 8
  generalize qX nums 0 = x at *
  generalize qY nums 0 = y at *
  generalize qZ nums 0 = z at *
  generalize qL nums 0 8 = l at *
  obtain ⟨hn, n0, n1⟩ := len_bd hc
  have ll := (chk_lg hc).1
  have hJ : jnS x y z l = jn l (s0 x y z) := if_pos hc
  have hK : knS x y z l = kn l (s0 x y z) := if_pos hc
  have w1 : IntKind.wrap IntKind.i64 (lenS x y z l + 1) = lenS x y z l + 1 := i64_in' (by omega) (by omega)
  have w2 : IntKind.wrap IntKind.i64 ((l.length : Int) + 1) = (l.length : Int) + 1 := i64_in' (by omega) (by omega)
  rw [hJ, hK, len_jn, len_kn, w1, w2]
  have c1 : ((l.length + 1 : Nat) : Int) = (l.length : Int) + 1 := rfl
  rw [c1]
  have w3 : IntKind.wrap IntKind.i64 ((l.length : Int) + 1 - 1) = (l.length : Int) := by rw [Int.add_sub_cancel]; exact i64_in' (by omega) (by omega)
  rw [w3, last_k]
  have hp : 0 ≤ d % (lenS x y z l + 1) ∧ d % (lenS x y z l + 1) ≤ lenS x y z l := by
    have a := Int.emod_nonneg d (show lenS x y z l + 1 ≠ 0 by omega)
    have b := Int.emod_lt_of_pos d (show 0 < lenS x y z l + 1 by omega)
    omega
  have hq : 0 ≤ e % (lenS x y z l + 1) ∧ e % (lenS x y z l + 1) ≤ lenS x y z l := by
    have a := Int.emod_nonneg e (show lenS x y z l + 1 ≠ 0 by omega)
    have b := Int.emod_lt_of_pos e (show 0 < lenS x y z l + 1 by omega)
    omega
  generalize d % (lenS x y z l + 1) = p at *
  generalize e % (lenS x y z l + 1) = q at *
  have fr := fr_no hc hp hq
  have ba : atB x y z l p = true := decide_eq_true ⟨hc, hp⟩
  have bb : atB x y z l q = true := decide_eq_true ⟨hc, hq⟩
  have mp : ∀ u : Int, mPre u (lenS x y z l + 1) := fun u => ⟨by omega, by omega⟩
  have u1 : IntKind.wrap IntKind.i64 (q - p) = q - p := i64_in' (by omega) (by omega)
  have u2 : IntKind.wrap IntKind.i64 (p - q) = p - q := i64_in' (by omega) (by omega)
  rw [u1, u2]
  rw [show mx2 (p - q) (q - p) = (if q - p > p - q then q - p else p - q) from rfl]
  have u3 : IntKind.wrap IntKind.i64 ((if q - p > p - q then q - p else p - q) + 1) = (if q - p > p - q then q - p else p - q) + 1 := i64_in' (by split <;> omega) (by split <;> omega)
  rw [u3]
  have x1 : (decide ((0 : Int) ≤ (l.length : Int)) && decide ((l.length : Int) < (l.length : Int) + 1)) = true := by simp only [Bool.and_eq_true, decide_eq_true_eq]; omega
  exact ⟨⟨⟨by decide, by decide⟩, by decide, by decide⟩, mp _, mp _, vv_y (vv_y (vv_n (wayNe (fun k => absurd rfl k) fun _ => wayNe (fun k => absurd rfl k) fun _ => ⟨x1, wayNe (fun k => absurd hn.symm k) fun _ => ⟨⟨⟨hc, rfl, rfl⟩, by decide⟩, rfl⟩⟩) fr) bb) ba⟩
theorem pathAlong_proved : Rows.PathAlongSaid := pathAlong_said fun nums d e _ _ _ => fact_of_run good decOk (callX_ok (fuel := 2) good names mixes ctAL_ok llAL 8) (ts := [4]) rfl (s12 nums d e)
end Go.Proofs.Ytmnhfjhlfgebiaa.W
