/- EarthFits: one line over another one. No condition. -/
import Derived.Test.YtdlholmphenhhaaF2
set_option linter.unusedVariables false
set_option maxRecDepth 100000
set_option maxHeartbeats 4000000
noncomputable section
namespace Go.Proofs.Ytdlholmphenhhaa.W
open Go Go.Cx Go.RowKit
noncomputable def ctOv : CTab T := (104, cAL) :: ctV
theorem ctOv_ok : CTabOk Try.prog E ctOv := .cons al_ok ctV_ok
@[reducible] noncomputable def ats (l : List Knot) : List Int := l.map Knot.At
noncomputable def o82a (r : List Int) (x i : Int) (a b : List Knot) : Tree (Ex × List (V T)) := .req ((0 ≤ i ∧ a.length ≤ 24) ∧ (r.length : Int) ≤ 2 + i) (.leaf (.exit 0, [.l 2 (r ++ ats (a.drop i.toNat)), .n x, .l 78 a, .l 78 b]))
noncomputable def c82a : LoopC T := ⟨[.l 2, .n, .n, .l 78, .l 78], ⟨67, [(2, .one (.i .i64)), (3, .one (.o 0 0)), (4, .one (.o 1 0)), (7, .one (.g 2 2)), (8, .one (.i .i64))], [.c [.s 78], .c [.s 78], .l 2]⟩,
  fun _ => ⟨67, [(2, .one (.i .i64)), (3, .one (.o 0 0)), (4, .one (.o 1 0)), (7, .one (.g 2 2))], [.c [.s 78], .c [.s 78], .l 2]⟩, 20, fun d => o82a d.1 d.2.1 d.2.2.1 d.2.2.2.1 d.2.2.2.2.1⟩
theorem b82a (r : List Int) (x i : Int) (a b : List Knot) : bodyD Try.prog E c82a 0 (bodyX Try.prog E ctOv noLoops 1000 5 L0 (lpOf Try.prog 82 0)) (r, x, i, a, b, ()) =
  (.br (decide (i < (↑(List.length a) : Int)))
   (.req ((decide ((0 : Int) ≤ i) && decide (i < (↑(List.length a) : Int))) = true)
   (.req (List.length r = List.length r)
   (.req (List.length r + List.length [Knot.At (kn a i)] ≤ (1073741824 : Nat))
   (.req (List.length (r ++ [Knot.At (kn a i)]) = List.length (r ++ [Knot.At (kn a i)]))
   (.leaf (.inl (r ++ [Knot.At (kn a i)], (x, (IntKind.wrap IntKind.i64 (i + (1 : Int)), (a, (b, ())))))))))))
   (.req (List.length r = List.length r)
   (.leaf (.inr (.exit (0 : Nat), [.l (2 : Nat) (r), .n (x), .l (78 : Nat) (a), .l (78 : Nat) (b)]))))) := by kernel_rfl
noncomputable def o82b (r : List Int) (x i : Int) (a b : List Knot) : Tree (Ex × List (V T)) := .req ((0 ≤ i ∧ b.length ≤ 24) ∧ (r.length : Int) ≤ 26 + i) (.leaf (.exit 2, [.l 2 (r ++ ats (b.drop i.toNat)), .n x, .l 78 a, .l 78 b]))
noncomputable def c82b : LoopC T := ⟨[.l 2, .n, .n, .l 78, .l 78], ⟨67, [(2, .one (.i .i64)), (3, .one (.o 0 0)), (4, .one (.o 1 0)), (7, .one (.g 2 2)), (9, .one (.i .i64))], [.c [.s 78], .c [.s 78], .l 2]⟩,
  fun _ => ⟨67, [(2, .one (.i .i64)), (3, .one (.o 0 0)), (4, .one (.o 1 0)), (7, .one (.g 2 2))], [.c [.s 78], .c [.s 78], .l 2]⟩, 20, fun d => o82b d.1 d.2.1 d.2.2.1 d.2.2.2.1 d.2.2.2.2.1⟩
theorem b82b (r : List Int) (x i : Int) (a b : List Knot) : bodyD Try.prog E c82b 0 (bodyX Try.prog E ctOv noLoops 1000 5 L0 (lpOf Try.prog 82 1)) (r, x, i, a, b, ()) =
  (.br (decide (i < (↑(List.length b) : Int)))
   (.req ((decide ((0 : Int) ≤ i) && decide (i < (↑(List.length b) : Int))) = true)
   (.req (List.length r = List.length r)
   (.req (List.length r + List.length [Knot.At (kn b i)] ≤ (1073741824 : Nat))
   (.req (List.length (r ++ [Knot.At (kn b i)]) = List.length (r ++ [Knot.At (kn b i)]))
   (.leaf (.inl (r ++ [Knot.At (kn b i)], (x, (IntKind.wrap IntKind.i64 (i + (1 : Int)), (a, (b, ())))))))))))
   (.req (List.length r = List.length r)
   (.leaf (.inr (.exit (2 : Nat), [.l (2 : Nat) (r), .n (x), .l (78 : Nat) (a), .l (78 : Nat) (b)]))))) := by kernel_rfl
noncomputable def ovB (a b : List Knot) (x : Int) (l : List Int) : Bool := l.all fun y => decide (¬ y ≤ x) || geB a b y
noncomputable def o82c (r : List Int) (x i : Int) (a b : List Knot) : Tree (Ex × List (V T)) := .req ((isD a ∧ isD b) ∧ (0 ≤ i ∧ r.length ≤ 50) ∧ ∀ y ∈ r, y ≤ x → exB a b y) (.br (ovB a b x (r.drop i.toNat)) (.leaf (.exit 4, [])) (.leaf (.ret, [.t false])))
noncomputable def c82c : LoopC T := ⟨[.l 2, .n, .n, .l 78, .l 78], ⟨67, [(2, .one (.i .i64)), (3, .one (.o 0 0)), (4, .one (.o 1 0)), (7, .one (.g 2 2)), (10, .one (.i .i64))], [.c [.s 78], .c [.s 78], .l 2]⟩, fun e => match e with
    | .ret => ⟨67, [(6, .one .b)], []⟩
    | _ => ⟨67, [], []⟩, 20, fun d => o82c d.1 d.2.1 d.2.2.1 d.2.2.2.1 d.2.2.2.2.1⟩
theorem b82c (r : List Int) (x i : Int) (a b : List Knot) : bodyD Try.prog E c82c 0 (bodyX Try.prog E ctOv noLoops 1000 5 L0 (lpOf Try.prog 82 2)) (r, x, i, a, b, ()) =
  (.br (decide (i < (↑(List.length r) : Int)))
   (.req ((decide ((0 : Int) ≤ i) && decide (i < (↑(List.length r) : Int))) = true)
   (.req ((decide ((0 : Int) ≤ i) && decide (i < (↑(List.length r) : Int))) = true)
   (.br (decide (ki r i ≤ x))
    (.req ((decide ((0 : Int) ≤ i) && decide (i < (↑(List.length r) : Int))) = true)
    (.req ((decide ((0 : Int) ≤ i) && decide (i < (↑(List.length r) : Int))) = true)
    (.req ((isD a ∧ isD b) ∧ exB a b (ki r i))
    (.br (!geB a b (ki r i))
     (.leaf (.inr (.ret, [.t (false)])))
     (.req (List.length r = List.length r)
     (.leaf (.inl (r, (x, (IntKind.wrap IntKind.i64 (i + (1 : Int)), (a, (b, ()))))))))))))
    (.req (List.length r = List.length r)
    (.leaf (.inl (r, (x, (IntKind.wrap IntKind.i64 (i + (1 : Int)), (a, (b, ())))))))))))
   (.leaf (.inr (.exit (4 : Nat), [])))) := by kernel_rfl
theorem h82a' (r : List Int) (x : Int) (i : Nat) (a b : List Knot) (K : Ex × List (V T) → Prop) (hl : a.length ≤ 24) (hr : (r.length : Int) ≤ 2 + i) (hK : K (.exit 0, [.l 2 (r ++ ats (a.drop i)), .n x, .l 78 a, .l 78 b])) :
    (bodyD Try.prog E c82a 0 (bodyX Try.prog E ctOv noLoops 1000 5 L0 (lpOf Try.prog 82 0)) (r, x, (i : Int), a, b, ())).holds fun y => match y with
    | .inl d => ((d.2.2.2.1.length : Int) - d.2.2.1).toNat < ((a.length : Int) - (i : Int)).toNat ∧ (c82a.out d).holds K
    | .inr y => K y := by
  rw [b82a]
  refine way (fun c => wayC (by omega) c fun _ _ => ⟨rfl, by simp only [List.length_cons, List.length_nil]; omega, rfl, ?_⟩) fun c => ⟨rfl, ?_⟩
  · have e2 : IntKind.wrap IntKind.i64 ((i : Int) + 1) = ((i + 1 : Nat) : Int) := i64_in' (by omega) (by omega)
    rw [e2]
    have hlt : ((a.length : Int) - ((i + 1 : Nat) : Int)).toNat < ((a.length : Int) - (i : Int)).toNat := by omega
    have h3 : (0 : Int) ≤ ((i + 1 : Nat) : Int) := by omega
    have h4 : ((r ++ [(kn a i).At]).length : Int) ≤ 2 + ((i + 1 : Nat) : Int) := by simp only [List.length_append, List.length_cons, List.length_nil]; omega
    have e3 : r ++ ats (a.drop i) = (r ++ [(kn a i).At]) ++ ats (a.drop (i + 1)) := by
      rw [drop_kk (by omega)]
      show r ++ ((kn a i).At :: ats (a.drop (i + 1))) = _
      rw [List.append_assoc]; rfl
    rw [e3] at hK
    exact ⟨hlt, ⟨⟨h3, hl⟩, h4⟩, hK⟩
  · have e3 : r ++ ats (a.drop i) = r := by
      rw [List.drop_eq_nil_of_le (by omega)]
      exact List.append_nil r
    rw [e3] at hK
    exact hK
theorem h82a : LoopH Try.prog E c82a 0 (bodyX Try.prog E ctOv noLoops 1000 5 L0 (lpOf Try.prog 82 0)) :=
  ⟨fun d => ((d.2.2.2.1.length : Int) - d.2.2.1).toNat, fun d K hK => by
    obtain ⟨r, x, i, a, b, ⟨⟩⟩ := d
    obtain ⟨⟨⟨k1, k2⟩, k3⟩, k4⟩ := hK
    obtain ⟨j, hj⟩ := Int.eq_ofNat_of_zero_le k1
    obtain rfl : i = (j : Int) := hj
    refine Tree.holds_mono (fun y hy => ?_) (h82a' r x j a b K k2 k3 k4)
    cases y with
    | inl d' => exact hy
    | inr y => exact hy⟩
theorem h82b' (r : List Int) (x : Int) (i : Nat) (a b : List Knot) (K : Ex × List (V T) → Prop) (hl : b.length ≤ 24) (hr : (r.length : Int) ≤ 26 + i) (hK : K (.exit 2, [.l 2 (r ++ ats (b.drop i)), .n x, .l 78 a, .l 78 b])) :
    (bodyD Try.prog E c82b 0 (bodyX Try.prog E ctOv noLoops 1000 5 L0 (lpOf Try.prog 82 1)) (r, x, (i : Int), a, b, ())).holds fun y => match y with
    | .inl d => ((d.2.2.2.2.1.length : Int) - d.2.2.1).toNat < ((b.length : Int) - (i : Int)).toNat ∧ (c82b.out d).holds K
    | .inr y => K y := by
  rw [b82b]
  refine way (fun c => wayC (by omega) c fun _ _ => ⟨rfl, by simp only [List.length_cons, List.length_nil]; omega, rfl, ?_⟩) fun c => ⟨rfl, ?_⟩
  · have e2 : IntKind.wrap IntKind.i64 ((i : Int) + 1) = ((i + 1 : Nat) : Int) := i64_in' (by omega) (by omega)
    rw [e2]
    have hlt : ((b.length : Int) - ((i + 1 : Nat) : Int)).toNat < ((b.length : Int) - (i : Int)).toNat := by omega
    have h3 : (0 : Int) ≤ ((i + 1 : Nat) : Int) := by omega
    have h4 : ((r ++ [(kn b i).At]).length : Int) ≤ 26 + ((i + 1 : Nat) : Int) := by simp only [List.length_append, List.length_cons, List.length_nil]; omega
    have e3 : r ++ ats (b.drop i) = (r ++ [(kn b i).At]) ++ ats (b.drop (i + 1)) := by
      rw [drop_kk (by omega)]
      show r ++ ((kn b i).At :: ats (b.drop (i + 1))) = _
      rw [List.append_assoc]; rfl
    rw [e3] at hK
    exact ⟨hlt, ⟨⟨h3, hl⟩, h4⟩, hK⟩
  · have e3 : r ++ ats (b.drop i) = r := by
      rw [List.drop_eq_nil_of_le (by omega)]
      exact List.append_nil r
    rw [e3] at hK
    exact hK
theorem h82b : LoopH Try.prog E c82b 0 (bodyX Try.prog E ctOv noLoops 1000 5 L0 (lpOf Try.prog 82 1)) :=
  ⟨fun d => ((d.2.2.2.2.1.length : Int) - d.2.2.1).toNat, fun d K hK => by
    obtain ⟨r, x, i, a, b, ⟨⟩⟩ := d
    obtain ⟨⟨⟨k1, k2⟩, k3⟩, k4⟩ := hK
    obtain ⟨j, hj⟩ := Int.eq_ofNat_of_zero_le k1
    obtain rfl : i = (j : Int) := hj
    refine Tree.holds_mono (fun y hy => ?_) (h82b' r x j a b K k2 k3 k4)
    cases y with
    | inl d' => exact hy
    | inr y => exact hy⟩
theorem ov_cons {a b : List Knot} {x : Int} {r : List Int} {i : Nat} (h : (i : Int) < r.length) : ovB a b x (r.drop i) = ((decide (¬ ki r i ≤ x) || geB a b (ki r i)) && ovB a b x (r.drop (i + 1))) := by
  rw [drop_ki (by omega)]; rfl
theorem ki_mem {r : List Int} {i : Nat} (h : (i : Int) < r.length) : ki r i ∈ r := by
  have : ki r i ∈ r.drop i := by rw [drop_ki (by omega)]; exact List.mem_cons_self
  exact List.mem_of_mem_drop this
theorem h82c' (r : List Int) (x : Int) (i : Nat) (a b : List Knot) (K : Ex × List (V T) → Prop) (hd : isD a ∧ isD b) (hr : r.length ≤ 50) (hx : ∀ y ∈ r, y ≤ x → exB a b y) (hK : (Tree.br (ovB a b x (r.drop i)) (.leaf (.exit 4, [])) (.leaf (.ret, [.t false])) : Tree (Ex × List (V T))).holds K) :
    (bodyD Try.prog E c82c 0 (bodyX Try.prog E ctOv noLoops 1000 5 L0 (lpOf Try.prog 82 2)) (r, x, (i : Int), a, b, ())).holds fun y => match y with
    | .inl d => ((d.1.length : Int) - d.2.2.1).toNat < ((r.length : Int) - (i : Int)).toNat ∧ (c82c.out d).holds K
    | .inr y => K y := by
  rw [b82c]
  refine way (fun c => wayC (by omega) c fun _ _ => wayC (by omega) c fun _ _ => ?_) fun c => ?_
  · have e2 : IntKind.wrap IntKind.i64 ((i : Int) + 1) = ((i + 1 : Nat) : Int) := i64_in' (by omega) (by omega)
    rw [e2]
    rw [ov_cons c] at hK
    have hlt : ((r.length : Int) - ((i + 1 : Nat) : Int)).toNat < ((r.length : Int) - (i : Int)).toNat := by omega
    have h3 : (0 : Int) ≤ ((i + 1 : Nat) : Int) := by omega
    refine way (fun q => wayC (by omega) c fun _ _ => wayC (by omega) c fun _ _ => ⟨⟨hd, hx _ (ki_mem c) q⟩, wayB (fun k => ?_) fun k => ⟨rfl, ?_⟩⟩) fun q => ⟨rfl, ?_⟩
    · have k : geB a b (ki r i) = false := by simpa using k
      rw [k, decide_eq_false (fun h => h q)] at hK
      exact hK.2 rfl
    · have k : geB a b (ki r i) = true := by simpa using k
      rw [k, Bool.or_true, Bool.true_and] at hK
      exact ⟨hlt, ⟨hd, ⟨h3, hr⟩, hx⟩, hK⟩
    · rw [decide_eq_true q, Bool.true_or, Bool.true_and] at hK
      exact ⟨hlt, ⟨hd, ⟨h3, hr⟩, hx⟩, hK⟩
  · rw [List.drop_eq_nil_of_le (by omega)] at hK
    exact hK.1 rfl
theorem h82c : LoopH Try.prog E c82c 0 (bodyX Try.prog E ctOv noLoops 1000 5 L0 (lpOf Try.prog 82 2)) :=
  ⟨fun d => ((d.1.length : Int) - d.2.2.1).toNat, fun d K hK => by
    obtain ⟨r, x, i, a, b, ⟨⟩⟩ := d
    obtain ⟨⟨k0, ⟨k1, k2⟩, k3⟩, k4⟩ := hK
    obtain ⟨j, hj⟩ := Int.eq_ofNat_of_zero_le k1
    obtain rfl : i = (j : Int) := hj
    refine Tree.holds_mono (fun y hy => ?_) (h82c' r x j a b K k0 k2 k3 k4)
    cases y with
    | inl d' => exact hy
    | inr y => exact hy⟩
theorem ll82 : LLOk Try.prog E (llOf Try.prog E 82 [(3, c82a), (7, c82b), (11, c82c)]) := llOf_ok fun i hi c hc => by
  have hi : i < 3 := hi
  have : i = 0 ∨ i = 1 ∨ i = 2 := by omega
  rcases this with rfl | rfl | rfl
  · obtain rfl : c82a = c := Option.some.inj hc
    exact LSnd.mk good names mixes ctOv_ok (by decide) h82a
  · obtain rfl : c82b = c := Option.some.inj hc
    exact LSnd.mk good names mixes ctOv_ok (by decide) h82b
  · obtain rfl : c82c = c := Option.some.inj hc
    exact LSnd.mk good names mixes ctOv_ok (by decide) h82c
@[reducible] noncomputable def allX (a b : List Knot) (x : Int) : List Int := [(0 : Int), x] ++ ats a ++ ats b
theorem tv82 (a b : List Knot) (x : Int) : runX ctOv (llOf Try.prog E 82 [(3, c82a), (7, c82b), (11, c82c)]) 82 [.agg [.sl 78 a false], .agg [.sl 78 b false], i64 x] [4] =
  (.req (((0 : Int) ≤ (0 : Int) ∧ List.length a ≤ (24 : Nat)) ∧ (↑(List.length [(0 : Int), x]) : Int) ≤ (2 : Int) + (0 : Int))
  (.req (List.length ([(0 : Int), x] ++ ats a) = List.length ([(0 : Int), x] ++ ats a))
  (.req (((0 : Int) ≤ (0 : Int) ∧ List.length b ≤ (24 : Nat)) ∧ (↑(List.length ([(0 : Int), x] ++ ats a)) : Int) ≤ (26 : Int) + (0 : Int))
  (.req (List.length (allX a b x) = List.length (allX a b x))
  (.req ((isD a ∧ isD b) ∧ ((0 : Int) ≤ (0 : Int) ∧ List.length (allX a b x) ≤ (50 : Nat)) ∧ ∀ (y : Int), y ∈ allX a b x → y ≤ x → exB a b y)
  (.br (ovB a b x (allX a b x))
   (.leaf (.bool (true)))
   (.leaf (.bool (false))))))))) := by kernel_rfl
theorem s82 (a b : List Knot) (x : Int) (hd : isD a ∧ isD b) (hx : ∀ y ∈ allX a b x, y ≤ x → exB a b y) : (runX ctOv (llOf Try.prog E 82 [(3, c82a), (7, c82b), (11, c82c)]) 82 [.agg [.sl 78 a false], .agg [.sl 78 b false], i64 x] [4]).holds fun v => v = .bool (ovB a b x (allX a b x)) := by
  rw [tv82]
  have la := lineErr_len hd.1
  have lb := lineErr_len hd.2
  refine ⟨⟨⟨by decide, la.2⟩, by simp⟩, rfl, ⟨⟨by decide, lb.2⟩, by simp [ats]; omega⟩, rfl, ⟨hd, ⟨by decide, by simp [allX, ats]; omega⟩, hx⟩, wayB (fun q => ?_) fun q => ?_⟩
  · rw [q]; rfl
  · rw [q]; rfl
def exA (a b : List Knot) (x : Int) : Prop := ∀ y ∈ allX a b x, y ≤ x → exB a b y
noncomputable def cOver : Con T := conP Try.prog [.agg [.s 78], .agg [.s 78], .one (.i .i64)] [.l 78, .l 78, .n] (fun d => (isD d.1 ∧ isD d.2.1) ∧ exA d.1 d.2.1 d.2.2.1) fun d => .bool (ovB d.1 d.2.1 d.2.2.1 (allX d.1 d.2.1 d.2.2.1))
theorem over_ok : ConOk Try.prog E 82 cOver := conP_ok fun d hd => fact_run ctOv_ok ll82 (ts := [4]) rfl (s82 d.1 d.2.1 d.2.2.1 hd.1 hd.2)
end Go.Proofs.Ytdlholmphenhhaa.W
