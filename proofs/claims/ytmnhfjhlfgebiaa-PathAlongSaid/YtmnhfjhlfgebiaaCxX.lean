/- The evaluator: closed runs are sound. No condition. -/
import Derived.Test.YtmnhfjhlfgebiaaCxW
import Derived.ProofKit
import Derived.OpenShut
import Derived.JoinedCond
set_option linter.unusedVariables false
noncomputable section
namespace Go.Cx
open Go.RowKit Go.ChangeShapes Go.WideShapes
variable {T : Nat → Type} {P : Program} {E : Enc T} {fuel : Nat}

/-- Whoever runs with so much fuel does what the evaluator says. -/
theorem runs (cl : Bool) (hE : E.Good P) (hN : NamesOk P) (hm : P.follows .mixedOrders = true) (n : Nat) : ActOk P E (callT P E cl (drawT P E cl) fuel n) :=
  callT_ok hE hN (fun _ hA ops st => drawT_every hA ops st) (fun _ hA hAe => drawOk hE hm hA hAe) n

/-- The world is as it was, but for new blocks. -/
def Kept (W W' : World) : Prop := W.keptBut W' (fun _ => False) ∧ (∀ a : Addr, a.block < W.heap.size → W'.frozen? a = W.frozen? a) ∧ W.heap.size ≤ W'.heap.size

theorem kept_of {W W' : World} (h1 : W'.os = W.os) (h2 : W'.output = W.output) (h3 : W.heap.size ≤ W'.heap.size) (h4 : ∀ b, b < W.heap.size → W'.heap[b]? = W.heap[b]?) : Kept W W' := by
  refine ⟨⟨h1, h2, fun i hi => ?_⟩, fun a ha => ?_, h3⟩
  · rw [h4 i hi]
    exact (World.keptBut_refl W (fun _ => False)).2.2 i hi
  · unfold World.frozen?
    rw [h4 _ ha]

/-- No mirrors: for runs of closed values. -/
def U : Nat → Type := fun _ => Unit
def EP (P : Program) : Enc U := ⟨fun _ => false, fun _ _ => [], fun _ => (), fun t => bif P.eqGuardType P.depth t then false else bif P.stoodInHeld t then false else true, fun _ _ _ => none⟩
theorem EP_good : (EP P).Good P := by
  refine ⟨fun τ h => Bool.noConfusion h, fun τ h => Bool.noConfusion h, fun τ h => Bool.noConfusion h, fun t h => ?_, fun τ _ _ _ h => Bool.noConfusion h⟩
  have h : (bif P.eqGuardType P.depth t then false else bif P.stoodInHeld t then false else true) = true := h
  cases h1 : P.eqGuardType P.depth t with
  | true => rw [h1] at h; cases h
  | false =>
    cases h2 : P.stoodInHeld t with
    | true => rw [h1, h2] at h; cases h
    | false => exact ⟨rfl, rfl⟩

def isTrue : Tree (AV T × Hp T) → Bool
  | .leaf (.lit true, _) => true
  | _ => false

def hp0 : Hp T := ⟨0, .nil, []⟩

theorem now0 (lim : Nat) (w : World) : Now P E lim (fun _ => False) (fun _ => none) (hp0 : Hp T) w := by
  have hn : ∀ id, (hp0 : Hp T).get id = none := fun id => Tr.get_nil id
  have hL : ∀ id, ¬ Live (hp0 : Hp T).get id := fun id h => by unfold Live at h; rw [hn] at h; exact h
  refine ⟨⟨fun id o h => absurd h (hL id), fun i j _ _ h => absurd h (hL i), fun i h h' => absurd h' (hL i), fun f hd s sh nh ns ch cs dh ds hh hs k1 => by rw [hn] at k1; cases k1⟩, fun b h => h.elim, fun id _ _ => ⟨rfl, hn id⟩, fun f hd s sh h => by rw [hn] at h; cases h⟩

theorem closed_true (cl : Bool) (hE : E.Good P) (hN : NamesOk P) (hm : P.follows .mixedOrders = true) {n f : Nat} (h : isTrue (callT P E cl (drawT P E cl) fuel n (.fn f) [] (hp0 : Hp T)) = true) (W : World) :
    Calls P f #[] W fun e W' => e = .returned (.bool true) ∧ Kept W W' := by
  obtain ⟨hp', ht⟩ : ∃ hp', callT P E cl (drawT P E cl) fuel n (.fn f) [] (hp0 : Hp T) = .leaf (.lit true, hp') := by
    generalize callT P E cl (drawT P E cl) fuel n (.fn f) [] (hp0 : Hp T) = t at h
    unfold isTrue at h
    split at h
    · exact ⟨_, rfl⟩
    · cases h
  have hA := runs (P := P) (E := E) (fuel := fuel) cl hE hN hm n hp'.next (fun _ => False) (fun _ => none) hp0 W (.fn f) [] [] (fun r => r = (.lit true, hp')) (now0 _ W) LR.nil (by
    rw [ht]
    exact ⟨Nat.le_refl _, rfl⟩)
  refine hA.2.mono fun e W' ⟨u, M', β', r, he, hS, hv, hr⟩ => ?_
  subst hr
  cases hv
  refine ⟨he, kept_of hS.evo.os hS.evo.output hS.evo.size fun b hb => hS.evo.old b hb ?_⟩
  rintro ⟨id, hd, h1, h2, h3⟩
  cases h2

/-- The answer of a law that leaves its arguments alone. -/
theorem post_old {H : Type} {enc : TypeId × Value → H} {f : Func} {s : ChangeSpec} {apart fresh handsOn again : Bool} {W W' : World} {args : Array Value} {v : Value} {ds gs : List (DataW H)} {before pa pv : List MemPlace}
    (hW : DataW.Whole enc P f.params.toList s.vars apart W args.toList ds gs before)
    (hres : ∀ (b : Nat) (sp : Nat → Bool) (hd : Bool), DataW.TrodAll enc P W' b sp hd f.resultTypes.toList (v.resultList f.resultTypes.size) (s.fn H (ds ++ gs)).results [])
    (hargs : ∀ sp : Nat → Bool, (∀ p ∈ before, sp p.block = true) → DataW.TrodAll enc P W' 0 sp true f.params.toList args.toList (s.fn H (ds ++ gs)).args pa)
    (hvars : ∀ sp : Nat → Bool, (∀ p ∈ before, sp p.block = true) → DataW.TrodVars enc P W' sp s.vars (s.fn H (ds ++ gs)).vars pv)
    (hps : before = pa ++ pv) (hk : Kept W W')
    (hok : ∀ (j : Nat) (t : TypeId) (r : Value), f.resultTypes[j]? = some t → (v.resultList f.resultTypes.size)[j]? = some r → Value.okWide P W' .any 0 t r) :
    s.post enc P f apart fresh handsOn again W args v W' := by
  have lt := hW.lt
  have hold : ∀ p ∈ before, (fun b => decide (b < W.heap.size)) p.block = true := fun p hp => by simpa using lt p hp
  have mem : ∀ {p : MemPlace}, p ∈ ([] ++ pa) ++ pv ↔ p ∈ before := fun {p} => by rw [hps]; simp
  refine ⟨ds, gs, before, [], pa, pv, hW, hres _ _ _, hargs _ hold, hvars _ hold, World.keptBut_mono (fun _ h => h.elim) hk.1, fun _ => ?_⟩
  obtain ⟨_, _, _, _, _, hz, hn⟩ := hW
  refine ⟨hok, _, _, ([] ++ pa) ++ pv, ⟨[] ++ pa, pv, trodAll_append (hargs _ (fun _ _ => rfl)) (hres _ _ _), hvars _ (fun _ _ => rfl), rfl, fun b off hp => ?_, fun ha => ?_⟩, fun p hp _ => mem.1 hp⟩
  · rw [hk.2.1 _ (lt _ (mem.1 hp))]
    exact hz b off (mem.1 hp)
  · have := hn ha
    rw [hps] at this
    simpa using this
end Go.Cx
