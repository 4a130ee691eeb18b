/- Lists of sensors: both checks answer the same. -/
import Derived.Test.YtdclipcjlimdoaaH
set_option linter.unusedVariables false
set_option maxRecDepth 100000
noncomputable section
namespace Go.Proofs.Ytdclipcjlimdoaa.W
open Go Go.Cx Go.RowKit
noncomputable def oS (i : Int) (l : List Sensor) : Tree (Ex × List (V T)) :=
  .req (0 ≤ i ∧ l.length ≤ 1000000) (.br (decide (firstE sErr (l.drop i.toNat) = 0)) (.leaf (.exit 0, [])) (.leaf (.ret, [.n (firstE sErr (l.drop i.toNat))])))
noncomputable def c24 : LoopC T := ⟨[.l 29, .n, .n], ⟨24, [(12, .one (.s 29)), (13, .one (.i .i64)), (14, .one (.i .i64))], []⟩,
  fun e => match e with
    | .ret => ⟨24, [(2, .one (.i .i64))], []⟩
    | _ => ⟨24, [], []⟩, 10, fun d => .req (d.2.1 = (d.1 : List Sensor).length) (oS d.2.2.1 d.1)⟩
noncomputable def c25 : LoopC T := ⟨[.l 29, .n], ⟨25, [(0, .one (.s 29)), (3, .one (.i .i64))], []⟩,
  fun e => match e with
    | .ret => ⟨25, [(2, .one (.i .i64))], []⟩
    | _ => ⟨25, [], []⟩, 10, fun d => oS d.2.1 d.1⟩
@[reducible] noncomputable def at29 (l : List Sensor) (i : Int) : Sensor := ixD E 29 l i
theorem b24 (l : List Sensor) (n i : Int) : bodyD Try.prog E c24 0 (bodyX Try.prog E ctK2 noLoops 1000 5 L0 (lpOf Try.prog 24 0)) (l, n, i, ()) =
  (.br (decide (i < n))
   (.req ((decide ((0 : Int) ≤ i) && decide (i < (↑(List.length l) : Int))) = true)
   (.br (sErr (at29 l i) != (0 : Int))
    (.leaf (.inr (.ret, [.n (sErr (at29 l i))])))
    (.leaf (.inl (l, (n, (IntKind.wrap IntKind.i64 (i + (1 : Int)), ())))))))
   (.leaf (.inr (.exit (0 : Nat), [])))) := by kernel_rfl
theorem b25 (l : List Sensor) (i : Int) : bodyD Try.prog E c25 0 (bodyX Try.prog E ctK2 noLoops 1000 5 L0 (lpOf Try.prog 25 0)) (l, i, ()) =
  (.br (decide (i < (↑(List.length l) : Int)))
   (.req ((decide ((0 : Int) ≤ i) && decide (i < (↑(List.length l) : Int))) = true)
   (.br (sErr (at29 l i) != (0 : Int))
    (.leaf (.inr (.ret, [.n (sErr (at29 l i))])))
    (.leaf (.inl (l, (IntKind.wrap IntKind.i64 (i + (1 : Int)), ()))))))
   (.leaf (.inr (.exit (0 : Nat), [])))) := by kernel_rfl
theorem h24' (l : List Sensor) (m i : Int) (K : Ex × List (V T) → Prop) (hm : m = l.length) (hK : (oS i l).holds K) : (bodyD Try.prog E c24 0 (bodyX Try.prog E ctK2 noLoops 1000 5 L0 (lpOf Try.prog 24 0)) (l, m, i, ())).holds fun y => match y with
    | .inl d' => ((d'.1.length : Int) - d'.2.2.1).toNat < ((l.length : Int) - i).toNat ∧ (c24.out d').holds K
    | .inr y => K y := by
  subst hm
  rw [b24]
  obtain ⟨⟨h0, hlen⟩, hK⟩ := hK
  obtain ⟨n, rfl⟩ := Int.eq_ofNat_of_zero_le h0
  rw [Int.toNat_natCast] at hK
  refine way (fun c => ?_) (fun c => ?_)
  · have hn : n < l.length := by omega
    have e : l.drop n = at29 l n :: l.drop (n + 1) := drop_ix (E := E) (τ := 29) hn
    rw [e, firstE_cons] at hK
    refine wayC h0 c fun _ _ => wayNe (fun k => ?_) fun k => ?_
    · rw [if_neg k] at hK
      exact hK.2 (decide_eq_false k)
    · rw [if_pos k] at hK
      have e2 : IntKind.wrap IntKind.i64 ((n : Int) + 1) = ((n + 1 : Nat) : Int) := i64_in' (by omega) (by omega)
      rw [e2]
      have hlt : ((l.length : Int) - ((n + 1 : Nat) : Int)).toNat < ((l.length : Int) - (n : Int)).toNat := by omega
      exact ⟨hlt, rfl, ⟨Int.natCast_nonneg _, hlen⟩, hK⟩
  · rw [List.drop_eq_nil_of_le (by omega), firstE_nil] at hK
    exact hK.1 rfl
theorem h24 : LoopH Try.prog E c24 0 (bodyX Try.prog E ctK2 noLoops 1000 5 L0 (lpOf Try.prog 24 0)) :=
  ⟨fun d => (((d.1 : List Sensor).length : Int) - d.2.2.1).toNat, fun d K hK => h24' d.1 d.2.1 d.2.2.1 K hK.1 hK.2⟩
theorem h25' (l : List Sensor) (i : Int) (K : Ex × List (V T) → Prop) (hK : (oS i l).holds K) : (bodyD Try.prog E c25 0 (bodyX Try.prog E ctK2 noLoops 1000 5 L0 (lpOf Try.prog 25 0)) (l, i, ())).holds fun y => match y with
    | .inl d' => ((d'.1.length : Int) - d'.2.1).toNat < ((l.length : Int) - i).toNat ∧ (c25.out d').holds K
    | .inr y => K y := by
  rw [b25]
  obtain ⟨⟨h0, hlen⟩, hK⟩ := hK
  obtain ⟨n, rfl⟩ := Int.eq_ofNat_of_zero_le h0
  rw [Int.toNat_natCast] at hK
  refine way (fun c => ?_) (fun c => ?_)
  · have hn : n < l.length := by omega
    have e : l.drop n = at29 l n :: l.drop (n + 1) := drop_ix (E := E) (τ := 29) hn
    rw [e, firstE_cons] at hK
    refine wayC h0 c fun _ _ => wayNe (fun k => ?_) fun k => ?_
    · rw [if_neg k] at hK
      exact hK.2 (decide_eq_false k)
    · rw [if_pos k] at hK
      have e2 : IntKind.wrap IntKind.i64 ((n : Int) + 1) = ((n + 1 : Nat) : Int) := i64_in' (by omega) (by omega)
      rw [e2]
      have hlt : ((l.length : Int) - ((n + 1 : Nat) : Int)).toNat < ((l.length : Int) - (n : Int)).toNat := by omega
      exact ⟨hlt, ⟨Int.natCast_nonneg _, hlen⟩, hK⟩
  · rw [List.drop_eq_nil_of_le (by omega), firstE_nil] at hK
    exact hK.1 rfl
theorem h25 : LoopH Try.prog E c25 0 (bodyX Try.prog E ctK2 noLoops 1000 5 L0 (lpOf Try.prog 25 0)) :=
  ⟨fun d => (((d.1 : List Sensor).length : Int) - d.2.1).toNat, fun d K hK => h25' d.1 d.2.1 K hK⟩
theorem ll24 : LLOk Try.prog E (llOf Try.prog E 24 [(6, c24)]) := llOf_ok fun i hi c hc => by
  have hi : i < 1 := hi
  obtain rfl : i = 0 := by omega
  obtain rfl : c24 = c := Option.some.inj hc
  exact LSnd.mk good names mixes ctK2_ok (by decide) h24
theorem ll25 : LLOk Try.prog E (llOf Try.prog E 25 [(6, c25)]) := llOf_ok fun i hi c hc => by
  have hi : i < 1 := hi
  obtain rfl : i = 0 := by omega
  obtain rfl : c25 = c := Option.some.inj hc
  exact LSnd.mk good names mixes ctK2_ok (by decide) h25
noncomputable def slErr (l : List Sensor) : Int := if l.length = 0 then 6 else if l.length > 4 then 8 else firstE sErr l
noncomputable def slTree (l : List Sensor) : Tree (AV T) :=
    (.req ((0 : Int) ≤ (0 : Int) ∧ List.length l ≤ (1000000 : Nat))
    (.br (decide (firstE sErr (List.drop (Int.toNat (0 : Int)) l) = (0 : Int)))
     (.leaf (.sym .i64 ((0 : Int))))
     (.leaf (.sym .i64 (firstE sErr (List.drop (Int.toNat (0 : Int)) l))))))
theorem t24 (l : List Sensor) : runX ctK2 (llOf Try.prog E 24 [(6, c24)]) 24 [.sl 29 l false] [32] =
  (.br ((↑(List.length l) : Int) == (0 : Int))
   (.leaf (.sym .i64 ((6 : Int))))
   (.br (decide ((↑(List.length l) : Int) > (4 : Int)))
    (.leaf (.sym .i64 ((8 : Int))))
    (.req ((↑(List.length l) : Int) = (↑(List.length l) : Int)) (slTree l)))) := by kernel_rfl
theorem t25 (l : List Sensor) : runX ctK2 (llOf Try.prog E 25 [(6, c25)]) 25 [.sl 29 l false] [32] =
  (.br ((↑(List.length l) : Int) == (0 : Int))
   (.leaf (.sym .i64 ((6 : Int))))
   (.br (decide ((↑(List.length l) : Int) > (4 : Int)))
    (.leaf (.sym .i64 ((8 : Int))))
    (slTree l))) := by kernel_rfl
theorem slTree_ok {l : List Sensor} (h0 : l.length ≠ 0) (h1 : ¬ l.length > 4) : (slTree l).holds fun v => v = i64 (slErr l) := by
  unfold slTree slErr
  rw [if_neg h0, if_neg h1, show l.drop (Int.toNat 0) = l from rfl]
  exact ⟨⟨by omega, by omega⟩, way (fun h => congrArg i64 h.symm) fun h => rfl⟩
theorem sl_0 {l : List Sensor} (h0 : l.length = 0) : i64 6 = i64 (slErr l) := by unfold slErr; rw [if_pos h0]
theorem sl_4 {l : List Sensor} (h0 : l.length ≠ 0) (h1 : l.length > 4) : i64 8 = i64 (slErr l) := by unfold slErr; rw [if_neg h0, if_pos h1]
noncomputable def cSensors : Con T := conV Try.prog [.one (.s 29)] [.l 29] fun d => i64 (slErr d.1)
theorem s24 (l : List Sensor) : (runX ctK2 (llOf Try.prog E 24 [(6, c24)]) 24 [.sl 29 l false] [32]).holds fun v => v = i64 (slErr l) := by
  rw [t24]
  exact wayEq (fun h => sl_0 (by omega)) fun h => way (fun h1 => sl_4 (by omega) (by omega)) fun h1 => ⟨rfl, slTree_ok (by omega) (by omega)⟩
theorem s25 (l : List Sensor) : (runX ctK2 (llOf Try.prog E 25 [(6, c25)]) 25 [.sl 29 l false] [32]).holds fun v => v = i64 (slErr l) := by
  rw [t25]
  exact wayEq (fun h => sl_0 (by omega)) fun h => way (fun h1 => sl_4 (by omega) (by omega)) fun h1 => slTree_ok (by omega) (by omega)
theorem sensors_ok : ConOk Try.prog E 24 cSensors := conV_ok fun d => fact_run ctK2_ok ll24 (ts := [32]) rfl (s24 d.1)
theorem sensors2_ok : ConOk Try.prog E 25 cSensors := conV_ok fun d => fact_run ctK2_ok ll25 (ts := [32]) rfl (s25 d.1)
end Go.Proofs.Ytdclipcjlimdoaa.W
