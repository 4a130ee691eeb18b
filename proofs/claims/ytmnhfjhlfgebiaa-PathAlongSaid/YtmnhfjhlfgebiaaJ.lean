/- Paths: joints, lengths, vertical depths. No condition. -/
import Derived.Test.YtmnhfjhlfgebiaaH
set_option linter.unusedVariables false
set_option maxRecDepth 100000
noncomputable section
namespace Go.Proofs.Ytmnhfjhlfgebiaa.W
open Go Go.Cx Go.RowKit
@[reducible] def wr (n : Int) : Int := IntKind.wrap IntKind.i64 n
noncomputable def ki (l : List Knot) (i : Int) : Knot := ixD E 98 l i
theorem drop_vI {l : List Vec} {i : Int} (h0 : 0 ≤ i) (h : i < l.length) : l.drop i.toNat = vi l i :: l.drop (i + 1).toNat := by
  have := drop_vi (l := l) (i := i.toNat) (by omega)
  rw [Int.toNat_of_nonneg h0] at this
  rw [this, show (i + 1).toNat = i.toNat + 1 by omega]
theorem vldV (x y z : Int) (l : List Vec) : (runX ctS noLoops 97 [.agg [i64 x, i64 y, i64 z, .sl 23 l false]] [4]).holds fun v => v = .bool (chk x y z l == 0) := by
  have e : runX ctS noLoops 97 [.agg [i64 x, i64 y, i64 z, .sl 23 l false]] [4] = .leaf (.bool (chk x y z l == 0)) := by kernel_rfl
  rw [e]; rfl
noncomputable def cVal : Con T := conV Try.prog [shP] [.n, .n, .n, .l 23] fun d => .bool (chk d.1 d.2.1 d.2.2.1 d.2.2.2.1 == 0)
theorem val_ok : ConOk Try.prog E 97 cVal := conV_ok fun d => fact_run ctS_ok noLoops_ok (ts := [4]) rfl (vldV d.1 d.2.1 d.2.2.1 d.2.2.2.1)
noncomputable def ctJ : CTab T := (97, cVal) :: ctS
theorem ctJ_ok : CTabOk Try.prog E ctJ := .cons val_ok ctS_ok
/-! ### the joints, as they are walked -/
structure Stp where
  d : Int
  x : Int
  y : Int
  z : Int
noncomputable def nxS (s : Stp) (v : Vec) : Stp := ⟨wr (s.d + szN v.X v.Y v.Z), wr (s.x + v.X), wr (s.y + v.Y), wr (s.z + v.Z)⟩
noncomputable def en : List Vec → Stp → Stp
  | [], s => s
  | v :: r, s => en r (nxS s v)
/-- what a loop over the joints but the last one does -/
noncomputable def fo {α : Type} (g : α → Stp → α) : List Vec → Stp → α → α
  | [], _, q => q
  | v :: r, s, q => fo g r (nxS s v) (g q s)
theorem swapT {α : Type} {Q : α → Prop} {t t' : Tree α} (e : t = t') (h : t'.holds Q) : t.holds Q := by rw [e]; exact h
noncomputable def pl (s : Stp) : Vec := ⟨s.x, s.y, s.z⟩
noncomputable def kn1 (s : Stp) : Knot := ⟨s.d, s.z⟩
noncomputable def jn : List Vec → Stp → List Vec
  | [], s => [pl s]
  | v :: r, s => pl s :: jn r (nxS s v)
noncomputable def kn : List Vec → Stp → List Knot
  | [], s => [kn1 s]
  | v :: r, s => kn1 s :: kn r (nxS s v)
noncomputable def foJ (l : List Vec) (s : Stp) (q : List Vec) : List Vec := fo (fun q s => q ++ [pl s]) l s q
noncomputable def foK (l : List Vec) (s : Stp) (q : List Knot) : List Knot := fo (fun q s => q ++ [kn1 s]) l s q
noncomputable def foD (l : List Vec) (s : Stp) (q : Int) : Int := fo (fun _ s => s.d) l s q
theorem fo_jn : ∀ (l : List Vec) (s : Stp) (q : List Vec), fo (fun q s => q ++ [pl s]) l s q ++ [pl (en l s)] = q ++ jn l s
  | [], s, q => rfl
  | v :: r, s, q => by
    show fo _ r (nxS s v) (q ++ [pl s]) ++ [pl (en r (nxS s v))] = q ++ (pl s :: jn r (nxS s v))
    rw [fo_jn r (nxS s v) (q ++ [pl s]), List.append_assoc]; rfl
theorem fo_kn : ∀ (l : List Vec) (s : Stp) (q : List Knot), fo (fun q s => q ++ [kn1 s]) l s q ++ [kn1 (en l s)] = q ++ kn l s
  | [], s, q => rfl
  | v :: r, s, q => by
    show fo _ r (nxS s v) (q ++ [kn1 s]) ++ [kn1 (en r (nxS s v))] = q ++ (kn1 s :: kn r (nxS s v))
    rw [fo_kn r (nxS s v) (q ++ [kn1 s]), List.append_assoc]; rfl
theorem len_jn : ∀ (l : List Vec) (s : Stp), (jn l s).length = l.length + 1
  | [], s => rfl
  | v :: r, s => congrArg (· + 1) (len_jn r (nxS s v))
theorem len_kn : ∀ (l : List Vec) (s : Stp), (kn l s).length = l.length + 1
  | [], s => rfl
  | v :: r, s => congrArg (· + 1) (len_kn r (nxS s v))
theorem len_foJ : ∀ (l : List Vec) (s : Stp) (q : List Vec), (fo (fun q s => q ++ [pl s]) l s q).length = q.length + l.length
  | [], s, q => rfl
  | v :: r, s, q => by
    show (fo _ r (nxS s v) (q ++ [pl s])).length = _
    rw [len_foJ r]; simp; omega
theorem len_foK : ∀ (l : List Vec) (s : Stp) (q : List Knot), (fo (fun q s => q ++ [kn1 s]) l s q).length = q.length + l.length
  | [], s, q => rfl
  | v :: r, s, q => by
    show (fo _ r (nxS s v) (q ++ [kn1 s])).length = _
    rw [len_foK r]; simp; omega
theorem drop_nilI {l : List Vec} {i : Int} (h : ¬ i < l.length) : l.drop i.toNat = [] := List.drop_eq_nil_of_le (by omega)
noncomputable def o141L (l : List Vec) (n : Int) (i : Int) (x : Int) (y : Int) (z : Int) (l' : List Vec) (d : Int) (X : Int) (Y : Int) (Z : Int) (q : Int) : Tree (Ex × List (V T)) := .req (0 ≤ i ∧ n = l.length ∧ l.length ≤ 20) (.leaf (.exit 0, [.n x, .n y, .n z, .l 23 l', .n (en (l.drop i.toNat) ⟨d, X, Y, Z⟩).d, .n (en (l.drop i.toNat) ⟨d, X, Y, Z⟩).x, .n (en (l.drop i.toNat) ⟨d, X, Y, Z⟩).y, .n (en (l.drop i.toNat) ⟨d, X, Y, Z⟩).z, .n (foD (l.drop i.toNat) ⟨d, X, Y, Z⟩ q)]))
noncomputable def c141L : LoopC T := ⟨[.l 23, .n, .n, .n, .n, .n, .l 23, .n, .n, .n, .n, .n], ⟨45, [(0, .one (.y 0)), (1, .one (.o 1 0)), (3, .one (.o 2 0)), (12, .one (.s 23)), (13, .one (.i .i64)), (14, .one (.i .i64))], [.fx 3 (.lp 15 [(3, .one (.o 3 0))] (rfOf Try.prog 24 0) 0), .fx 2 (.c [.i .i64, .i .i64, .i .i64, .s 23]), .c [.i .i64, .i .i64, .i .i64, .i .i64], .fx 1 (.c [.i .i64])]⟩, fun e => match e with
    | .ret => ⟨45, [], []⟩
    | _ => ⟨45, [(0, .one (.y 0)), (1, .one (.o 1 0)), (3, .one (.o 2 0))], [.fx 3 (.lp 15 [(3, .one (.o 3 0))] (rfOf Try.prog 24 0) 0), .fx 2 (.c [.i .i64, .i .i64, .i .i64, .s 23]), .c [.i .i64, .i .i64, .i .i64, .i .i64], .fx 1 (.c [.i .i64])]⟩, 30, fun d => o141L d.1 d.2.1 d.2.2.1 d.2.2.2.1 d.2.2.2.2.1 d.2.2.2.2.2.1 d.2.2.2.2.2.2.1 d.2.2.2.2.2.2.2.1 d.2.2.2.2.2.2.2.2.1 d.2.2.2.2.2.2.2.2.2.1 d.2.2.2.2.2.2.2.2.2.2.1 d.2.2.2.2.2.2.2.2.2.2.2.1⟩
theorem b141L (l : List Vec) (n : Int) (i : Int) (x : Int) (y : Int) (z : Int) (l' : List Vec) (d : Int) (X : Int) (Y : Int) (Z : Int) (q : Int) : bodyD Try.prog E c141L 4 (bodyX Try.prog E ctJ noLoops 1000 5 L0 (lpOf Try.prog 141 0)) (l, n, i, x, y, z, l', d, X, Y, Z, q, ()) =
  (.br (decide (i < n))
   (.req ((decide ((0 : Int) ≤ i) && decide (i < (↑(List.length l) : Int))) = true)
   (.req (RecIs (rfOf Try.prog (24 : Nat) (0 : Nat)) (rfOf Try.prog (24 : Nat) (0 : Nat)))
   (.leaf (.inl (l, (n, (IntKind.wrap IntKind.i64 (i + (1 : Int)), (x, (y, (z, (l', (IntKind.wrap IntKind.i64 (d + szN (Vec.X (vi l i)) (Vec.Y (vi l i)) (Vec.Z (vi l i))), (IntKind.wrap IntKind.i64 (X + Vec.X (vi l i)), (IntKind.wrap IntKind.i64 (Y + Vec.Y (vi l i)), (IntKind.wrap IntKind.i64 (Z + Vec.Z (vi l i)), (d, ()))))))))))))))))
   (.req (RecIs (rfOf Try.prog (24 : Nat) (0 : Nat)) (rfOf Try.prog (24 : Nat) (0 : Nat)))
   (.leaf (.inr (.exit (0 : Nat), [.n (x), .n (y), .n (z), .l (23 : Nat) (l'), .n (d), .n (X), .n (Y), .n (Z), .n (q)]))))) := by kernel_rfl
theorem h141L' (l : List Vec) (n : Int) (i : Int) (x : Int) (y : Int) (z : Int) (l' : List Vec) (d : Int) (X : Int) (Y : Int) (Z : Int) (q : Int) (K : Ex × List (V T) → Prop) (hI : 0 ≤ i ∧ n = l.length ∧ l.length ≤ 20) (hK : (.leaf (.exit 0, [.n x, .n y, .n z, .l 23 l', .n (en (l.drop i.toNat) ⟨d, X, Y, Z⟩).d, .n (en (l.drop i.toNat) ⟨d, X, Y, Z⟩).x, .n (en (l.drop i.toNat) ⟨d, X, Y, Z⟩).y, .n (en (l.drop i.toNat) ⟨d, X, Y, Z⟩).z, .n (foD (l.drop i.toNat) ⟨d, X, Y, Z⟩ q)]) : Tree (Ex × List (V T))).holds K) :
    (bodyD Try.prog E c141L 4 (bodyX Try.prog E ctJ noLoops 1000 5 L0 (lpOf Try.prog 141 0)) (l, n, i, x, y, z, l', d, X, Y, Z, q, ())).holds fun y => match y with
    | .inl d => ((d.1.length : Int) - d.2.2.1).toNat < ((l.length : Int) - i).toNat ∧ (c141L.out d).holds K
    | .inr y => K y := by
  rw [b141L]
  obtain ⟨h0, rfl, hl⟩ := hI
  refine way (fun c => wayC h0 c fun _ _ => ⟨rfl, ?_⟩) fun c => ⟨rfl, ?_⟩
  · have e2 : IntKind.wrap IntKind.i64 (i + 1) = i + 1 := i64_in' (by omega) (by omega)
    rw [e2]
    rw [drop_vI h0 c] at hK
    have g1 : (0 : Int) ≤ i + 1 := by omega
    have g2 : ((l.length : Int) - (i + 1)).toNat < ((l.length : Int) - i).toNat := by omega
    exact ⟨g2, ⟨g1, rfl, hl⟩, hK⟩
  · rw [drop_nilI c] at hK
    exact hK
theorem h141L : LoopH Try.prog E c141L 4 (bodyX Try.prog E ctJ noLoops 1000 5 L0 (lpOf Try.prog 141 0)) :=
  ⟨fun d => ((d.1.length : Int) - d.2.2.1).toNat, fun dd K hK => by
    obtain ⟨l, n, i, x, y, z, l', d, X, Y, Z, q, ⟨⟩⟩ := dd
    obtain ⟨hI, hK⟩ := hK
    refine Tree.holds_mono (fun y hy => ?_) (h141L' l n i x y z l' d X Y Z q K hI hK)
    cases y with
    | inl d' => exact hy
    | inr y => exact hy⟩
theorem ll141L : LLOk Try.prog E (llOfN Try.prog E 141 4 [(2, c141L)]) := llOfN_ok fun i hi c hc => by
  have hi : i < 1 := hi
  obtain rfl : i = 0 := by omega
  obtain rfl : c141L = c := Option.some.inj hc
  exact LSndN.mk good names mixes ctJ_ok (by decide) h141L
noncomputable def o141J (q : List Vec) (l : List Vec) (n : Int) (i : Int) (x : Int) (y : Int) (z : Int) (l' : List Vec) (d : Int) (X : Int) (Y : Int) (Z : Int) : Tree (Ex × List (V T)) := .req (0 ≤ i ∧ n = l.length ∧ l.length ≤ 20 ∧ q.length ≤ 1000 + i) (.leaf (.exit 0, [.l 23 (foJ (l.drop i.toNat) ⟨d, X, Y, Z⟩ q), .n x, .n y, .n z, .l 23 l', .n (en (l.drop i.toNat) ⟨d, X, Y, Z⟩).d, .n (en (l.drop i.toNat) ⟨d, X, Y, Z⟩).x, .n (en (l.drop i.toNat) ⟨d, X, Y, Z⟩).y, .n (en (l.drop i.toNat) ⟨d, X, Y, Z⟩).z]))
noncomputable def c141J : LoopC T := ⟨[.l 23, .l 23, .n, .n, .n, .n, .n, .l 23, .n, .n, .n, .n], ⟨45, [(0, .one (.y 0)), (1, .one (.o 1 0)), (3, .one (.o 2 0)), (12, .one (.s 23)), (13, .one (.i .i64)), (14, .one (.i .i64))], [.fx 3 (.lp 19 [(3, .one (.o 3 0))] (rfOf Try.prog 27 0) 0), .fx 2 (.c [.i .i64, .i .i64, .i .i64, .s 23]), .c [.i .i64, .i .i64, .i .i64, .i .i64], .fx 1 (.c [.g 4 23]), .l 23]⟩, fun e => match e with
    | .ret => ⟨45, [], []⟩
    | _ => ⟨45, [(0, .one (.y 0)), (1, .one (.o 1 0)), (3, .one (.o 2 0))], [.fx 3 (.lp 19 [(3, .one (.o 3 0))] (rfOf Try.prog 27 0) 0), .fx 2 (.c [.i .i64, .i .i64, .i .i64, .s 23]), .c [.i .i64, .i .i64, .i .i64, .i .i64], .fx 1 (.c [.g 4 23]), .l 23]⟩, 30, fun d => o141J d.1 d.2.1 d.2.2.1 d.2.2.2.1 d.2.2.2.2.1 d.2.2.2.2.2.1 d.2.2.2.2.2.2.1 d.2.2.2.2.2.2.2.1 d.2.2.2.2.2.2.2.2.1 d.2.2.2.2.2.2.2.2.2.1 d.2.2.2.2.2.2.2.2.2.2.1 d.2.2.2.2.2.2.2.2.2.2.2.1⟩
theorem b141J (q : List Vec) (l : List Vec) (n : Int) (i : Int) (x : Int) (y : Int) (z : Int) (l' : List Vec) (d : Int) (X : Int) (Y : Int) (Z : Int) : bodyD Try.prog E c141J 4 (bodyX Try.prog E ctJ noLoops 1000 5 L0 (lpOf Try.prog 141 0)) (q, l, n, i, x, y, z, l', d, X, Y, Z, ()) =
  (.br (decide (i < n))
   (.req ((decide ((0 : Int) ≤ i) && decide (i < (↑(List.length l) : Int))) = true)
   (.req (List.length q = List.length q)
   (.req (List.length q + List.length [Vec.mk X Y Z] ≤ (1073741824 : Nat))
   (.req (RecIs (rfOf Try.prog (27 : Nat) (0 : Nat)) (rfOf Try.prog (27 : Nat) (0 : Nat)))
   (.req (List.length (q ++ [Vec.mk X Y Z]) = List.length (q ++ [Vec.mk X Y Z]))
   (.leaf (.inl (q ++ [Vec.mk X Y Z], (l, (n, (IntKind.wrap IntKind.i64 (i + (1 : Int)), (x, (y, (z, (l', (IntKind.wrap IntKind.i64 (d + szN (Vec.X (vi l i)) (Vec.Y (vi l i)) (Vec.Z (vi l i))), (IntKind.wrap IntKind.i64 (X + Vec.X (vi l i)), (IntKind.wrap IntKind.i64 (Y + Vec.Y (vi l i)), (IntKind.wrap IntKind.i64 (Z + Vec.Z (vi l i)), ())))))))))))))))))))
   (.req (RecIs (rfOf Try.prog (27 : Nat) (0 : Nat)) (rfOf Try.prog (27 : Nat) (0 : Nat)))
   (.req (List.length q = List.length q)
   (.leaf (.inr (.exit (0 : Nat), [.l (23 : Nat) (q), .n (x), .n (y), .n (z), .l (23 : Nat) (l'), .n (d), .n (X), .n (Y), .n (Z)])))))) := by kernel_rfl
theorem h141J' (q : List Vec) (l : List Vec) (n : Int) (i : Int) (x : Int) (y : Int) (z : Int) (l' : List Vec) (d : Int) (X : Int) (Y : Int) (Z : Int) (K : Ex × List (V T) → Prop) (hI : 0 ≤ i ∧ n = l.length ∧ l.length ≤ 20 ∧ q.length ≤ 1000 + i) (hK : (.leaf (.exit 0, [.l 23 (foJ (l.drop i.toNat) ⟨d, X, Y, Z⟩ q), .n x, .n y, .n z, .l 23 l', .n (en (l.drop i.toNat) ⟨d, X, Y, Z⟩).d, .n (en (l.drop i.toNat) ⟨d, X, Y, Z⟩).x, .n (en (l.drop i.toNat) ⟨d, X, Y, Z⟩).y, .n (en (l.drop i.toNat) ⟨d, X, Y, Z⟩).z]) : Tree (Ex × List (V T))).holds K) :
    (bodyD Try.prog E c141J 4 (bodyX Try.prog E ctJ noLoops 1000 5 L0 (lpOf Try.prog 141 0)) (q, l, n, i, x, y, z, l', d, X, Y, Z, ())).holds fun y => match y with
    | .inl d => ((d.2.1.length : Int) - d.2.2.2.1).toNat < ((l.length : Int) - i).toNat ∧ (c141J.out d).holds K
    | .inr y => K y := by
  rw [b141J]
  obtain ⟨h0, rfl, hl, hq⟩ := hI
  refine way (fun c => wayC h0 c fun _ _ => ⟨rfl, by simp; omega, rfl, rfl, ?_⟩) fun c => ⟨rfl, rfl, ?_⟩
  · have e2 : IntKind.wrap IntKind.i64 (i + 1) = i + 1 := i64_in' (by omega) (by omega)
    rw [e2]
    rw [drop_vI h0 c] at hK
    have g1 : (0 : Int) ≤ i + 1 := by omega
    have g2 : ((l.length : Int) - (i + 1)).toNat < ((l.length : Int) - i).toNat := by omega
    exact ⟨g2, ⟨g1, rfl, hl, by simp; omega⟩, hK⟩
  · rw [drop_nilI c] at hK
    exact hK
theorem h141J : LoopH Try.prog E c141J 4 (bodyX Try.prog E ctJ noLoops 1000 5 L0 (lpOf Try.prog 141 0)) :=
  ⟨fun d => ((d.2.1.length : Int) - d.2.2.2.1).toNat, fun dd K hK => by
    obtain ⟨q, l, n, i, x, y, z, l', d, X, Y, Z, ⟨⟩⟩ := dd
    obtain ⟨hI, hK⟩ := hK
    refine Tree.holds_mono (fun y hy => ?_) (h141J' q l n i x y z l' d X Y Z K hI hK)
    cases y with
    | inl d' => exact hy
    | inr y => exact hy⟩
theorem ll141J : LLOk Try.prog E (llOfN Try.prog E 141 4 [(2, c141J)]) := llOfN_ok fun i hi c hc => by
  have hi : i < 1 := hi
  obtain rfl : i = 0 := by omega
  obtain rfl : c141J = c := Option.some.inj hc
  exact LSndN.mk good names mixes ctJ_ok (by decide) h141J
noncomputable def o141V (q : List Knot) (l : List Vec) (n : Int) (i : Int) (x : Int) (y : Int) (z : Int) (l' : List Vec) (d : Int) (X : Int) (Y : Int) (Z : Int) : Tree (Ex × List (V T)) := .req (0 ≤ i ∧ n = l.length ∧ l.length ≤ 20 ∧ q.length ≤ 1000 + i) (.leaf (.exit 0, [.l 98 (foK (l.drop i.toNat) ⟨d, X, Y, Z⟩ q), .n x, .n y, .n z, .l 23 l', .n (en (l.drop i.toNat) ⟨d, X, Y, Z⟩).d, .n (en (l.drop i.toNat) ⟨d, X, Y, Z⟩).x, .n (en (l.drop i.toNat) ⟨d, X, Y, Z⟩).y, .n (en (l.drop i.toNat) ⟨d, X, Y, Z⟩).z]))
noncomputable def c141V : LoopC T := ⟨[.l 98, .l 23, .n, .n, .n, .n, .n, .l 23, .n, .n, .n, .n], ⟨45, [(0, .one (.y 0)), (1, .one (.o 1 0)), (3, .one (.o 2 0)), (12, .one (.s 23)), (13, .one (.i .i64)), (14, .one (.i .i64))], [.fx 4 (.lp 26 [(3, .one (.o 3 0))] (rfOf Try.prog 30 0) 0), .fx 3 (.c [.i .i64, .i .i64, .i .i64, .s 23]), .c [.i .i64, .i .i64, .i .i64, .i .i64], .fx 2 (.c [.g 5 98]), .fx 1 (.c [.x]), .l 98]⟩, fun e => match e with
    | .ret => ⟨45, [], []⟩
    | _ => ⟨45, [(0, .one (.y 0)), (1, .one (.o 1 0)), (3, .one (.o 2 0))], [.fx 4 (.lp 26 [(3, .one (.o 3 0))] (rfOf Try.prog 30 0) 0), .fx 3 (.c [.i .i64, .i .i64, .i .i64, .s 23]), .c [.i .i64, .i .i64, .i .i64, .i .i64], .fx 2 (.c [.g 5 98]), .fx 1 (.c [.x]), .l 98]⟩, 30, fun d => o141V d.1 d.2.1 d.2.2.1 d.2.2.2.1 d.2.2.2.2.1 d.2.2.2.2.2.1 d.2.2.2.2.2.2.1 d.2.2.2.2.2.2.2.1 d.2.2.2.2.2.2.2.2.1 d.2.2.2.2.2.2.2.2.2.1 d.2.2.2.2.2.2.2.2.2.2.1 d.2.2.2.2.2.2.2.2.2.2.2.1⟩
theorem b141V (q : List Knot) (l : List Vec) (n : Int) (i : Int) (x : Int) (y : Int) (z : Int) (l' : List Vec) (d : Int) (X : Int) (Y : Int) (Z : Int) : bodyD Try.prog E c141V 5 (bodyX Try.prog E ctJ noLoops 1000 5 L0 (lpOf Try.prog 141 0)) (q, l, n, i, x, y, z, l', d, X, Y, Z, ()) =
  (.br (decide (i < n))
   (.req ((decide ((0 : Int) ≤ i) && decide (i < (↑(List.length l) : Int))) = true)
   (.req (List.length q = List.length q)
   (.req (List.length q + List.length [Knot.mk d Z] ≤ (1073741824 : Nat))
   (.req (RecIs (rfOf Try.prog (30 : Nat) (0 : Nat)) (rfOf Try.prog (30 : Nat) (0 : Nat)))
   (.req (List.length (q ++ [Knot.mk d Z]) = List.length (q ++ [Knot.mk d Z]))
   (.leaf (.inl (q ++ [Knot.mk d Z], (l, (n, (IntKind.wrap IntKind.i64 (i + (1 : Int)), (x, (y, (z, (l', (IntKind.wrap IntKind.i64 (d + szN (Vec.X (vi l i)) (Vec.Y (vi l i)) (Vec.Z (vi l i))), (IntKind.wrap IntKind.i64 (X + Vec.X (vi l i)), (IntKind.wrap IntKind.i64 (Y + Vec.Y (vi l i)), (IntKind.wrap IntKind.i64 (Z + Vec.Z (vi l i)), ())))))))))))))))))))
   (.req (RecIs (rfOf Try.prog (30 : Nat) (0 : Nat)) (rfOf Try.prog (30 : Nat) (0 : Nat)))
   (.req (List.length q = List.length q)
   (.leaf (.inr (.exit (0 : Nat), [.l (98 : Nat) (q), .n (x), .n (y), .n (z), .l (23 : Nat) (l'), .n (d), .n (X), .n (Y), .n (Z)])))))) := by kernel_rfl
theorem h141V' (q : List Knot) (l : List Vec) (n : Int) (i : Int) (x : Int) (y : Int) (z : Int) (l' : List Vec) (d : Int) (X : Int) (Y : Int) (Z : Int) (K : Ex × List (V T) → Prop) (hI : 0 ≤ i ∧ n = l.length ∧ l.length ≤ 20 ∧ q.length ≤ 1000 + i) (hK : (.leaf (.exit 0, [.l 98 (foK (l.drop i.toNat) ⟨d, X, Y, Z⟩ q), .n x, .n y, .n z, .l 23 l', .n (en (l.drop i.toNat) ⟨d, X, Y, Z⟩).d, .n (en (l.drop i.toNat) ⟨d, X, Y, Z⟩).x, .n (en (l.drop i.toNat) ⟨d, X, Y, Z⟩).y, .n (en (l.drop i.toNat) ⟨d, X, Y, Z⟩).z]) : Tree (Ex × List (V T))).holds K) :
    (bodyD Try.prog E c141V 5 (bodyX Try.prog E ctJ noLoops 1000 5 L0 (lpOf Try.prog 141 0)) (q, l, n, i, x, y, z, l', d, X, Y, Z, ())).holds fun y => match y with
    | .inl d => ((d.2.1.length : Int) - d.2.2.2.1).toNat < ((l.length : Int) - i).toNat ∧ (c141V.out d).holds K
    | .inr y => K y := by
  rw [b141V]
  obtain ⟨h0, rfl, hl, hq⟩ := hI
  refine way (fun c => wayC h0 c fun _ _ => ⟨rfl, by simp; omega, rfl, rfl, ?_⟩) fun c => ⟨rfl, rfl, ?_⟩
  · have e2 : IntKind.wrap IntKind.i64 (i + 1) = i + 1 := i64_in' (by omega) (by omega)
    rw [e2]
    rw [drop_vI h0 c] at hK
    have g1 : (0 : Int) ≤ i + 1 := by omega
    have g2 : ((l.length : Int) - (i + 1)).toNat < ((l.length : Int) - i).toNat := by omega
    exact ⟨g2, ⟨g1, rfl, hl, by simp; omega⟩, hK⟩
  · rw [drop_nilI c] at hK
    exact hK
theorem h141V : LoopH Try.prog E c141V 5 (bodyX Try.prog E ctJ noLoops 1000 5 L0 (lpOf Try.prog 141 0)) :=
  ⟨fun d => ((d.2.1.length : Int) - d.2.2.2.1).toNat, fun dd K hK => by
    obtain ⟨q, l, n, i, x, y, z, l', d, X, Y, Z, ⟨⟩⟩ := dd
    obtain ⟨hI, hK⟩ := hK
    refine Tree.holds_mono (fun y hy => ?_) (h141V' q l n i x y z l' d X Y Z K hI hK)
    cases y with
    | inl d' => exact hy
    | inr y => exact hy⟩
theorem ll141V : LLOk Try.prog E (llOfN Try.prog E 141 5 [(2, c141V)]) := llOfN_ok fun i hi c hc => by
  have hi : i < 1 := hi
  obtain rfl : i = 0 := by omega
  obtain rfl : c141V = c := Option.some.inj hc
  exact LSndN.mk good names mixes ctJ_ok (by decide) h141V
theorem tv24 (x y z : Int) (l : List Vec) : runX ctJ (llOfN Try.prog E 141 4 [(2, c141L)]) 24 [.agg [i64 x, i64 y, i64 z, .sl 23 l false]] [2] =
  (.br (chk x y z l == (0 : Int))
   (.req (RecIs (rfOf Try.prog (24 : Nat) (0 : Nat)) (rfOf Try.prog (24 : Nat) (0 : Nat)))
   (.req ((0 : Int) ≤ (0 : Int) ∧ (↑(List.length l) : Int) = (↑(List.length l) : Int) ∧ List.length l ≤ (20 : Nat))
   (.leaf (.sym .i64 (Stp.d (en (List.drop (Int.toNat (0 : Int)) l) (Stp.mk (0 : Int) x y z)))))))
   (.leaf (.sym .i64 ((0 : Int))))) := by kernel_rfl
theorem tv27 (x y z : Int) (l : List Vec) : runX ctJ (llOfN Try.prog E 141 4 [(2, c141J)]) 27 [.agg [i64 x, i64 y, i64 z, .sl 23 l false]] [24] =
  (.br (!chk x y z l == (0 : Int))
   (.leaf (.sl (23 : Nat) ([]) false))
   (.req (RecIs (rfOf Try.prog (27 : Nat) (0 : Nat)) (rfOf Try.prog (27 : Nat) (0 : Nat)))
   (.req ((0 : Int) ≤ (0 : Int) ∧ (↑(List.length l) : Int) = (↑(List.length l) : Int) ∧ List.length l ≤ (20 : Nat) ∧ (↑((0 : Nat)) : Int) ≤ (1000 : Int) + (0 : Int))
   (.req (List.length (foJ (List.drop (Int.toNat (0 : Int)) l) (Stp.mk (0 : Int) x y z) []) = List.length (foJ (List.drop (Int.toNat (0 : Int)) l) (Stp.mk (0 : Int) x y z) []))
   (.req (List.length (foJ (List.drop (Int.toNat (0 : Int)) l) (Stp.mk (0 : Int) x y z) []) + List.length [Vec.mk (Stp.x (en (List.drop (Int.toNat (0 : Int)) l) (Stp.mk (0 : Int) x y z))) (Stp.y (en (List.drop (Int.toNat (0 : Int)) l) (Stp.mk (0 : Int) x y z))) (Stp.z (en (List.drop (Int.toNat (0 : Int)) l) (Stp.mk (0 : Int) x y z)))] ≤ (1073741824 : Nat))
   (.req (List.length (foJ (List.drop (Int.toNat (0 : Int)) l) (Stp.mk (0 : Int) x y z) [] ++ [Vec.mk (Stp.x (en (List.drop (Int.toNat (0 : Int)) l) (Stp.mk (0 : Int) x y z))) (Stp.y (en (List.drop (Int.toNat (0 : Int)) l) (Stp.mk (0 : Int) x y z))) (Stp.z (en (List.drop (Int.toNat (0 : Int)) l) (Stp.mk (0 : Int) x y z)))]) = List.length (foJ (List.drop (Int.toNat (0 : Int)) l) (Stp.mk (0 : Int) x y z) [] ++ [Vec.mk (Stp.x (en (List.drop (Int.toNat (0 : Int)) l) (Stp.mk (0 : Int) x y z))) (Stp.y (en (List.drop (Int.toNat (0 : Int)) l) (Stp.mk (0 : Int) x y z))) (Stp.z (en (List.drop (Int.toNat (0 : Int)) l) (Stp.mk (0 : Int) x y z)))]))
   (.leaf (.sl (23 : Nat) (foJ (List.drop (Int.toNat (0 : Int)) l) (Stp.mk (0 : Int) x y z) [] ++ [Vec.mk (Stp.x (en (List.drop (Int.toNat (0 : Int)) l) (Stp.mk (0 : Int) x y z))) (Stp.y (en (List.drop (Int.toNat (0 : Int)) l) (Stp.mk (0 : Int) x y z))) (Stp.z (en (List.drop (Int.toNat (0 : Int)) l) (Stp.mk (0 : Int) x y z)))]) false)))))))) := by kernel_rfl
theorem tv30 (x y z : Int) (l : List Vec) : runX ctJ (llOfN Try.prog E 141 5 [(2, c141V)]) 30 [.agg [i64 x, i64 y, i64 z, .sl 23 l false]] [38] =
  (.br (!chk x y z l == (0 : Int))
   (.leaf (.agg [.sl (98 : Nat) ([]) false]))
   (.req (RecIs (rfOf Try.prog (30 : Nat) (0 : Nat)) (rfOf Try.prog (30 : Nat) (0 : Nat)))
   (.req ((0 : Int) ≤ (0 : Int) ∧ (↑(List.length l) : Int) = (↑(List.length l) : Int) ∧ List.length l ≤ (20 : Nat) ∧ (↑((0 : Nat)) : Int) ≤ (1000 : Int) + (0 : Int))
   (.req (List.length (foK (List.drop (Int.toNat (0 : Int)) l) (Stp.mk (0 : Int) x y z) []) = List.length (foK (List.drop (Int.toNat (0 : Int)) l) (Stp.mk (0 : Int) x y z) []))
   (.req (List.length (foK (List.drop (Int.toNat (0 : Int)) l) (Stp.mk (0 : Int) x y z) []) + List.length [Knot.mk (Stp.d (en (List.drop (Int.toNat (0 : Int)) l) (Stp.mk (0 : Int) x y z))) (Stp.z (en (List.drop (Int.toNat (0 : Int)) l) (Stp.mk (0 : Int) x y z)))] ≤ (1073741824 : Nat))
   (.req (List.length (foK (List.drop (Int.toNat (0 : Int)) l) (Stp.mk (0 : Int) x y z) [] ++ [Knot.mk (Stp.d (en (List.drop (Int.toNat (0 : Int)) l) (Stp.mk (0 : Int) x y z))) (Stp.z (en (List.drop (Int.toNat (0 : Int)) l) (Stp.mk (0 : Int) x y z)))]) = List.length (foK (List.drop (Int.toNat (0 : Int)) l) (Stp.mk (0 : Int) x y z) [] ++ [Knot.mk (Stp.d (en (List.drop (Int.toNat (0 : Int)) l) (Stp.mk (0 : Int) x y z))) (Stp.z (en (List.drop (Int.toNat (0 : Int)) l) (Stp.mk (0 : Int) x y z)))]))
   (.leaf (.agg [.sl (98 : Nat) (foK (List.drop (Int.toNat (0 : Int)) l) (Stp.mk (0 : Int) x y z) [] ++ [Knot.mk (Stp.d (en (List.drop (Int.toNat (0 : Int)) l) (Stp.mk (0 : Int) x y z))) (Stp.z (en (List.drop (Int.toNat (0 : Int)) l) (Stp.mk (0 : Int) x y z)))]) false])))))))) := by kernel_rfl
noncomputable def s0 (x y z : Int) : Stp := ⟨0, x, y, z⟩
noncomputable def lenS (x y z : Int) (l : List Vec) : Int := if chk x y z l = 0 then (en l (s0 x y z)).d else 0
noncomputable def jnS (x y z : Int) (l : List Vec) : List Vec := if chk x y z l = 0 then jn l (s0 x y z) else []
noncomputable def knS (x y z : Int) (l : List Vec) : List Knot := if chk x y z l = 0 then kn l (s0 x y z) else []
theorem s24 (x y z : Int) (l : List Vec) : (runX ctJ (llOfN Try.prog E 141 4 [(2, c141L)]) 24 [.agg [i64 x, i64 y, i64 z, .sl 23 l false]] [2]).holds fun v => v = i64 (lenS x y z l) := by
  rw [tv24]
  unfold lenS
  refine wayEq (fun c => ⟨rfl, ⟨by decide, rfl, by have := (chk_lg c).1; omega⟩, ?_⟩) fun c => ?_
  · rw [if_pos c]; rfl
  · rw [if_neg c]; rfl
theorem s27 (x y z : Int) (l : List Vec) : (runX ctJ (llOfN Try.prog E 141 4 [(2, c141J)]) 27 [.agg [i64 x, i64 y, i64 z, .sl 23 l false]] [24]).holds fun v => v = .sl 23 (jnS x y z l) false := by
  rw [tv27]
  unfold jnS
  refine wayNEq (fun c => ?_) fun c => ?_
  · rw [if_neg c]; rfl
  · have hl := (chk_lg c).1
    have hf : (foJ l (s0 x y z) []).length = l.length := by unfold foJ; rw [len_foJ]; simp
    have e := fo_jn l (s0 x y z) []
    rw [if_pos c]
    refine ⟨rfl, ⟨by decide, rfl, by omega, by decide⟩, rfl, ?_, rfl, ?_⟩
    · show (foJ l (s0 x y z) []).length + 1 ≤ _
      omega
    · show (AV.sl 23 (foJ l (s0 x y z) [] ++ [pl (en l (s0 x y z))]) false : AV T) = _
      unfold foJ
      rw [e]
      rfl
theorem s30 (x y z : Int) (l : List Vec) : (runX ctJ (llOfN Try.prog E 141 5 [(2, c141V)]) 30 [.agg [i64 x, i64 y, i64 z, .sl 23 l false]] [38]).holds fun v => v = .agg [.sl 98 (knS x y z l) false] := by
  rw [tv30]
  unfold knS
  refine wayNEq (fun c => ?_) fun c => ?_
  · rw [if_neg c]; rfl
  · have hl := (chk_lg c).1
    have hf : (foK l (s0 x y z) []).length = l.length := by unfold foK; rw [len_foK]; simp
    have e := fo_kn l (s0 x y z) []
    rw [if_pos c]
    refine ⟨rfl, ⟨by decide, rfl, by omega, by decide⟩, rfl, ?_, rfl, ?_⟩
    · show (foK l (s0 x y z) []).length + 1 ≤ _
      omega
    · show (AV.agg [AV.sl 98 (foK l (s0 x y z) [] ++ [kn1 (en l (s0 x y z))]) false] : AV T) = _
      unfold foK
      rw [e]
      rfl
noncomputable def cLenP : Con T := conV Try.prog [shP] [.n, .n, .n, .l 23] fun d => i64 (lenS d.1 d.2.1 d.2.2.1 d.2.2.2.1)
noncomputable def cJn : Con T := conV Try.prog [shP] [.n, .n, .n, .l 23] fun d => .sl 23 (jnS d.1 d.2.1 d.2.2.1 d.2.2.2.1) false
noncomputable def cKn : Con T := conV Try.prog [shP] [.n, .n, .n, .l 23] fun d => .agg [.sl 98 (knS d.1 d.2.1 d.2.2.1 d.2.2.2.1) false]
theorem lenP_ok : ConOk Try.prog E 24 cLenP := conV_ok fun d => fact_run ctJ_ok ll141L (ts := [2]) rfl (s24 d.1 d.2.1 d.2.2.1 d.2.2.2.1)
theorem jn_ok : ConOk Try.prog E 27 cJn := conV_ok fun d => fact_run ctJ_ok ll141J (ts := [24]) rfl (s27 d.1 d.2.1 d.2.2.1 d.2.2.2.1)
theorem kn_ok : ConOk Try.prog E 30 cKn := conV_ok fun d => fact_run ctJ_ok ll141V (ts := [38]) rfl (s30 d.1 d.2.1 d.2.2.1 d.2.2.2.1)
/-! ### the reference -/
noncomputable def suR : List Vec → Int → Int
  | [], s => s
  | v :: r, s => suR r (wr (s + lgN v.X v.Y v.Z))
theorem suR_en : ∀ (l : List Vec) (s : Stp), (∀ v ∈ l, lgP v.X v.Y v.Z) → suR l s.d = (en l s).d
  | [], s, _ => rfl
  | v :: r, s, h => by
    show suR r (wr (s.d + lgN v.X v.Y v.Z)) = (en r (nxS s v)).d
    have hv := h v (List.mem_cons_self ..)
    rw [← suR_en r (nxS s v) fun u hu => h u (List.mem_cons_of_mem _ hu)]
    show _ = suR r (wr (s.d + szN v.X v.Y v.Z))
    rw [lgN_ln hv, szN_ln hv]
noncomputable def jnR : List Vec → List Vec → List Vec
  | [], q => q
  | v :: r, q => jnR r (q ++ [⟨wr ((vi q (q.length - 1)).X + v.X), wr ((vi q (q.length - 1)).Y + v.Y), wr ((vi q (q.length - 1)).Z + v.Z)⟩])
theorem ixD_last {τ : Nat} {q : List (T τ)} {x : T τ} : ixD E τ (q ++ [x]) ((q ++ [x]).length - 1) = x := by
  unfold ixD
  rw [show (((q ++ [x]).length : Int) - 1).toNat = q.length by simp]
  simp
theorem vi_last {q : List Vec} {x : Vec} : vi (q ++ [x]) ((q ++ [x]).length - 1) = x := ixD_last (τ := 23)
theorem jnR_jn : ∀ (l : List Vec) (s : Stp) (q : List Vec), jnR l (q ++ [pl s]) = q ++ jn l s
  | [], s, q => rfl
  | v :: r, s, q => by
    show jnR r ((q ++ [pl s]) ++ [_]) = q ++ (pl s :: jn r (nxS s v))
    rw [vi_last]
    have := jnR_jn r (nxS s v) (q ++ [pl s])
    exact this.trans (by rw [List.append_assoc]; rfl)
noncomputable def o25 (s : Int) (i : Int) (x : Int) (y : Int) (z : Int) (l : List Vec) : Tree (Ex × List (V T)) := .req (0 ≤ i ∧ l.length ≤ 20) (.leaf (.exit 0, [.n (suR (l.drop i.toNat) s)]))
noncomputable def c25 : LoopC T := ⟨[.n, .n, .n, .n, .n, .l 23], ⟨30, [(1, .one (.o 0 0)), (3, .one (.i .i64)), (4, .one (.i .i64))], [.c [.i .i64, .i .i64, .i .i64, .s 23]]⟩, fun _ => ⟨30, [(3, .one (.i .i64))], []⟩, 30, fun d => o25 d.1 d.2.1 d.2.2.1 d.2.2.2.1 d.2.2.2.2.1 d.2.2.2.2.2.1⟩
theorem b25 (s : Int) (i : Int) (x : Int) (y : Int) (z : Int) (l : List Vec) : bodyD Try.prog E c25 0 (bodyX Try.prog E ctJ noLoops 1000 5 L0 (lpOf Try.prog 25 0)) (s, i, x, y, z, l, ()) =
  (.br (decide (i < (↑(List.length l) : Int)))
   (.req ((decide ((0 : Int) ≤ i) && decide (i < (↑(List.length l) : Int))) = true)
   (.leaf (.inl (IntKind.wrap IntKind.i64 (s + lgN (Vec.X (vi l i)) (Vec.Y (vi l i)) (Vec.Z (vi l i))), (IntKind.wrap IntKind.i64 (i + (1 : Int)), (x, (y, (z, (l, ())))))))))
   (.leaf (.inr (.exit (0 : Nat), [.n (s)])))) := by kernel_rfl
theorem h25' (s : Int) (i : Int) (x : Int) (y : Int) (z : Int) (l : List Vec) (K : Ex × List (V T) → Prop) (hI : 0 ≤ i ∧ l.length ≤ 20) (hK : (.leaf (.exit 0, [.n (suR (l.drop i.toNat) s)]) : Tree (Ex × List (V T))).holds K) :
    (bodyD Try.prog E c25 0 (bodyX Try.prog E ctJ noLoops 1000 5 L0 (lpOf Try.prog 25 0)) (s, i, x, y, z, l, ())).holds fun y => match y with
    | .inl d => ((d.2.2.2.2.2.1.length : Int) - d.2.1).toNat < ((l.length : Int) - i).toNat ∧ (c25.out d).holds K
    | .inr y => K y := by
  rw [b25]
  obtain ⟨h0, hl⟩ := hI
  refine way (fun c => wayC h0 c fun _ _ => ?_) fun c => ?_
  · have e2 : IntKind.wrap IntKind.i64 (i + 1) = i + 1 := i64_in' (by omega) (by omega)
    rw [e2]
    rw [drop_vI h0 c] at hK
    have g1 : (0 : Int) ≤ i + 1 := by omega
    have g2 : ((l.length : Int) - (i + 1)).toNat < ((l.length : Int) - i).toNat := by omega
    exact ⟨g2, ⟨g1, hl⟩, hK⟩
  · rw [drop_nilI c] at hK
    exact hK
theorem h25 : LoopH Try.prog E c25 0 (bodyX Try.prog E ctJ noLoops 1000 5 L0 (lpOf Try.prog 25 0)) :=
  ⟨fun d => ((d.2.2.2.2.2.1.length : Int) - d.2.1).toNat, fun dd K hK => by
    obtain ⟨s, i, x, y, z, l, ⟨⟩⟩ := dd
    obtain ⟨hI, hK⟩ := hK
    refine Tree.holds_mono (fun y hy => ?_) (h25' s i x y z l K hI hK)
    cases y with
    | inl d' => exact hy
    | inr y => exact hy⟩
theorem ll25 : LLOk Try.prog E (llOfN Try.prog E 25 0 [(5, c25)]) := llOfN_ok fun i hi c hc => by
  have hi : i < 1 := hi
  obtain rfl : i = 0 := by omega
  obtain rfl : c25 = c := Option.some.inj hc
  exact LSndN.mk good names mixes ctJ_ok (by decide) h25
noncomputable def o99 (q : List Vec) (i : Int) (x : Int) (y : Int) (z : Int) (l : List Vec) : Tree (Ex × List (V T)) := .req (0 ≤ i ∧ l.length ≤ 20 ∧ q.length = i + 1 ∧ i ≤ l.length) (.leaf (.exit 0, [.l 23 (jnR (l.drop i.toNat) q)]))
noncomputable def c99 : LoopC T := ⟨[.l 23, .n, .n, .n, .n, .l 23], ⟨29, [(1, .one (.o 0 0)), (3, .one (.g 1 23)), (4, .one (.i .i64))], [.c [.i .i64, .i .i64, .i .i64, .s 23], .l 23]⟩, fun _ => ⟨29, [(3, .one (.g 0 23))], [.l 23]⟩, 30, fun d => o99 d.1 d.2.1 d.2.2.1 d.2.2.2.1 d.2.2.2.2.1 d.2.2.2.2.2.1⟩
theorem b99 (q : List Vec) (i : Int) (x : Int) (y : Int) (z : Int) (l : List Vec) : bodyD Try.prog E c99 0 (bodyX Try.prog E ctJ noLoops 1000 5 L0 (lpOf Try.prog 99 0)) (q, i, x, y, z, l, ()) =
  (.br (decide (i < (↑(List.length l) : Int)))
   (.req ((decide ((0 : Int) ≤ i) && decide (i < (↑(List.length q) : Int))) = true)
   (.req ((decide ((0 : Int) ≤ i) && decide (i < (↑(List.length q) : Int))) = true)
   (.req ((decide ((0 : Int) ≤ i) && decide (i < (↑(List.length l) : Int))) = true)
   (.req (List.length q = List.length q)
   (.req (List.length q + List.length [Vec.mk (IntKind.wrap IntKind.i64 (Vec.X (vi q i) + Vec.X (vi l i))) (IntKind.wrap IntKind.i64 (Vec.Y (vi q i) + Vec.Y (vi l i))) (IntKind.wrap IntKind.i64 (Vec.Z (vi q i) + Vec.Z (vi l i)))] ≤ (1073741824 : Nat))
   (.req (List.length (q ++ [Vec.mk (IntKind.wrap IntKind.i64 (Vec.X (vi q i) + Vec.X (vi l i))) (IntKind.wrap IntKind.i64 (Vec.Y (vi q i) + Vec.Y (vi l i))) (IntKind.wrap IntKind.i64 (Vec.Z (vi q i) + Vec.Z (vi l i)))]) = List.length (q ++ [Vec.mk (IntKind.wrap IntKind.i64 (Vec.X (vi q i) + Vec.X (vi l i))) (IntKind.wrap IntKind.i64 (Vec.Y (vi q i) + Vec.Y (vi l i))) (IntKind.wrap IntKind.i64 (Vec.Z (vi q i) + Vec.Z (vi l i)))]))
   (.leaf (.inl (q ++ [Vec.mk (IntKind.wrap IntKind.i64 (Vec.X (vi q i) + Vec.X (vi l i))) (IntKind.wrap IntKind.i64 (Vec.Y (vi q i) + Vec.Y (vi l i))) (IntKind.wrap IntKind.i64 (Vec.Z (vi q i) + Vec.Z (vi l i)))], (IntKind.wrap IntKind.i64 (i + (1 : Int)), (x, (y, (z, (l, ()))))))))))))))
   (.req (List.length q = List.length q)
   (.leaf (.inr (.exit (0 : Nat), [.l (23 : Nat) (q)]))))) := by kernel_rfl
theorem h99' (q : List Vec) (i : Int) (x : Int) (y : Int) (z : Int) (l : List Vec) (K : Ex × List (V T) → Prop) (hI : 0 ≤ i ∧ l.length ≤ 20 ∧ q.length = i + 1 ∧ i ≤ l.length) (hK : (.leaf (.exit 0, [.l 23 (jnR (l.drop i.toNat) q)]) : Tree (Ex × List (V T))).holds K) :
    (bodyD Try.prog E c99 0 (bodyX Try.prog E ctJ noLoops 1000 5 L0 (lpOf Try.prog 99 0)) (q, i, x, y, z, l, ())).holds fun y => match y with
    | .inl d => ((d.2.2.2.2.2.1.length : Int) - d.2.1).toNat < ((l.length : Int) - i).toNat ∧ (c99.out d).holds K
    | .inr y => K y := by
  rw [b99]
  obtain ⟨h0, hl, hq, hi⟩ := hI
  refine way (fun c => wayC h0 (by omega) fun _ _ => wayC h0 (by omega) fun _ _ => wayC h0 c fun _ _ => ⟨rfl, by simp; omega, rfl, ?_⟩) fun c => ⟨rfl, ?_⟩
  · have e2 : IntKind.wrap IntKind.i64 (i + 1) = i + 1 := i64_in' (by omega) (by omega)
    rw [e2]
    rw [drop_vI h0 c] at hK
    have g1 : (0 : Int) ≤ i + 1 := by omega
    have g2 : ((l.length : Int) - (i + 1)).toNat < ((l.length : Int) - i).toNat := by omega
    have hj : (q.length : Int) - 1 = i := by omega
    unfold jnR at hK
    rw [hj] at hK
    refine ⟨g2, ⟨g1, hl, ?_, ?_⟩, hK⟩
    · simp [hq]
    · show i + 1 ≤ (l.length : Int)
      omega
  · rw [drop_nilI c] at hK
    exact hK
theorem h99 : LoopH Try.prog E c99 0 (bodyX Try.prog E ctJ noLoops 1000 5 L0 (lpOf Try.prog 99 0)) :=
  ⟨fun d => ((d.2.2.2.2.2.1.length : Int) - d.2.1).toNat, fun dd K hK => by
    obtain ⟨q, i, x, y, z, l, ⟨⟩⟩ := dd
    obtain ⟨hI, hK⟩ := hK
    refine Tree.holds_mono (fun y hy => ?_) (h99' q i x y z l K hI hK)
    cases y with
    | inl d' => exact hy
    | inr y => exact hy⟩
theorem ll99 : LLOk Try.prog E (llOfN Try.prog E 99 0 [(3, c99)]) := llOfN_ok fun i hi c hc => by
  have hi : i < 1 := hi
  obtain rfl : i = 0 := by omega
  obtain rfl : c99 = c := Option.some.inj hc
  exact LSndN.mk good names mixes ctJ_ok (by decide) h99
theorem tv25 (x y z : Int) (l : List Vec) : runX ctJ (llOfN Try.prog E 25 0 [(5, c25)]) 25 [.agg [i64 x, i64 y, i64 z, .sl 23 l false]] [2] =
  (.br (chk x y z l != (0 : Int))
   (.leaf (.sym .i64 ((0 : Int))))
   (.req ((0 : Int) ≤ (0 : Int) ∧ List.length l ≤ (20 : Nat))
   (.leaf (.sym .i64 (suR (List.drop (Int.toNat (0 : Int)) l) (0 : Int)))))) := by kernel_rfl
theorem tv99 (x y z : Int) (l : List Vec) : runX ctJ (llOfN Try.prog E 99 0 [(3, c99)]) 99 [.agg [i64 x, i64 y, i64 z, .sl 23 l false]] [24] =
  (.req ((0 : Int) ≤ (0 : Int) ∧ List.length l ≤ (20 : Nat) ∧ (↑(List.length [Vec.mk x y z]) : Int) = (0 : Int) + (1 : Int) ∧ (0 : Int) ≤ (↑(List.length l) : Int))
  (.req (List.length (jnR (List.drop (Int.toNat (0 : Int)) l) [Vec.mk x y z]) = List.length (jnR (List.drop (Int.toNat (0 : Int)) l) [Vec.mk x y z]))
  (.leaf (.sl (23 : Nat) (jnR (List.drop (Int.toNat (0 : Int)) l) [Vec.mk x y z]) false)))) := by kernel_rfl
theorem s25 (x y z : Int) (l : List Vec) : (runX ctJ (llOfN Try.prog E 25 0 [(5, c25)]) 25 [.agg [i64 x, i64 y, i64 z, .sl 23 l false]] [2]).holds fun v => v = i64 (lenS x y z l) := by
  rw [tv25]
  unfold lenS
  refine wayNe (fun c => ?_) fun c => ⟨⟨by decide, by have := (chk_lg c).1; omega⟩, ?_⟩
  · rw [if_neg c]; rfl
  · rw [if_pos c]
    have := suR_en l (s0 x y z) (chk_lg c).2.2
    exact congrArg i64 this
theorem s99 (x y z : Int) (l : List Vec) (h : l.length ≤ 20) : (runX ctJ (llOfN Try.prog E 99 0 [(3, c99)]) 99 [.agg [i64 x, i64 y, i64 z, .sl 23 l false]] [24]).holds fun v => v = .sl 23 (jn l (s0 x y z)) false := by
  rw [tv99]
  have := jnR_jn l (s0 x y z) []
  refine ⟨⟨by decide, h, rfl, by omega⟩, rfl, ?_⟩
  exact congrArg (fun q => (AV.sl 23 q false : AV T)) this
noncomputable def cJnR : Con T := conP Try.prog [shP] [.n, .n, .n, .l 23] (fun d => (d.2.2.2.1 : List Vec).length ≤ 20) fun d => .sl 23 (jn d.2.2.2.1 (s0 d.1 d.2.1 d.2.2.1)) false
theorem jnR_ok : ConOk Try.prog E 99 cJnR := conP_ok fun d hd => fact_run ctJ_ok ll99 (ts := [24]) rfl (s99 d.1 d.2.1 d.2.2.1 d.2.2.2.1 hd)
theorem len2_ok : ConOk Try.prog E 25 cLenP := conV_ok fun d => fact_run ctJ_ok ll25 (ts := [2]) rfl (s25 d.1 d.2.1 d.2.2.1 d.2.2.2.1)
noncomputable def ctK : CTab T := (99, cJnR) :: (24, cLenP) :: (25, cLenP) :: (27, cJn) :: (30, cKn) :: ctJ
theorem ctK_ok : CTabOk Try.prog E ctK := .cons jnR_ok (.cons lenP_ok (.cons len2_ok (.cons jn_ok (.cons kn_ok ctJ_ok))))
theorem tv28 (x y z : Int) (l : List Vec) : runX ctK noLoops 28 [.agg [i64 x, i64 y, i64 z, .sl 23 l false]] [24] =
  (.br (chk x y z l != (0 : Int))
   (.leaf (.sl (23 : Nat) ([]) false))
   (.req (List.length l ≤ (20 : Nat))
   (.leaf (.sl (23 : Nat) (jn l (s0 x y z)) false)))) := by kernel_rfl
end Go.Proofs.Ytmnhfjhlfgebiaa.W
