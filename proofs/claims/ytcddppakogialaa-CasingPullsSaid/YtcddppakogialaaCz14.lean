/- Contracts of calls that answer with new lists that may be written: the call. No condition. -/
import Derived.Test.YtcddppakogialaaCz13
set_option linter.unusedVariables false
noncomputable section
namespace Go.Cx
open Go.RowKit
variable {T : Nat → Type} {P : Program} {E : Enc T} {fuel : Nat}
/-- A call that leaves everything as it was, and answers with new lists. -/
def FactW (P : Program) (E : Enc T) (f : Nat) (as : List (AV T)) (v0 : AV T) (es : List (V T)) : Prop :=
  ∀ (lim : Nat) (M : Nat → Prop) (β : Nat → Option Hd) (hp : Hp T) (w : World) (vs : List Value), Now P E lim M β hp w → hp.next + es.length ≤ lim → LR P E w (fun b => M b ∧ ¬ Own hp.get β b) β as vs → CallOk P f ∧ Calls P f vs.toArray w (Post P E lim M β hp w fun r => r = (renW hp.next v0, newAll hp es))
/-- What is known of a new list. -/
theorem ent_obj {w' : World} {M' : Nat → Prop} {β' : Nat → Option Hd} {r : Hp T} (hH : HeapRel P E w' M' β' r.get) {fl : List Nat} {ents : List (Ent T)} (hents : ∀ e ∈ ents, EntOk fl r e) {i : Nat} {y : V T} (hi : (sndW ents)[i]? = some y) (hl : ∀ τ l, y = .l τ l → l ≠ []) :
    ∃ id τ l hd, ents[i]? = some (some id, .l τ l) ∧ y = .l τ l ∧ r.get id = some (.lst τ l) ∧ memN τ fl = true ∧ Live r.get id ∧ β' id = some hd ∧ ListAt P E w' M' τ l hd := by
  rw [sndW_get, Option.map_eq_some_iff] at hi
  obtain ⟨e, h1, rfl⟩ := hi
  rcases hents e (List.mem_of_getElem? h1) with ⟨id, τ, l, rfl, h2, h3⟩ | ⟨τ, rfl⟩
  · have hlive : Live r.get id := by unfold Live; rw [h2]; exact hl τ l rfl
    obtain ⟨hd, g1, g2⟩ := hH.obj id _ hlive h2
    exact ⟨id, τ, l, hd, h1, rfl, h2, h3, hlive, g1, g2⟩
  · exact absurd rfl (hl τ [] rfl)
theorem ListAt.flat {w' : World} {M' M3 : Nat → Prop} {τ : Nat} {l : List (T τ)} {h : Hd} (hf : ∀ x : T τ, (E.enc τ x).all ind0 = true) (hl : ListAt P E w' M' τ l h) : ListAt P E w' M3 τ l h := by
  obtain ⟨vs, el, g1, g2, g3, g4, g5⟩ := hl
  exact ⟨vs, el, g1, g2, g3, g4, fun i x j c hx hc => RV.ind0 (all_get (hf x) hc) (g5 i x j c hx hc)⟩
theorem factW_of_run (hE : E.Good P) {fl : List Nat} (hfl : ∀ τ, memN τ fl = true → ∀ x : T τ, (E.enc τ x).all ind0 = true) {act : Tgt → List (AV T) → Hp T → Tree (AV T × Hp T)} (hA : ActOk P E act) {f : Nat} {as : List (AV T)} {v0 : AV T} {es : List (V T)} {ts : List TypeId} (ha : as.all flt2 = true)
    (h : (resW P fl ts (act (.fn f) as (hp0 : Hp T))).holds fun x => x = (v0, es)) : FactW P E f as v0 es := by
  intro lim M β hp w vs hnow hlim hL
  have hL0 : LR P E w (fun b => M b ∧ ¬ Own hp.get β b) (fun _ => none) as vs := ⟨hL.1, fun j c x hc hx => RV.flt2 (all_get ha hc) (hL.2 j c x hc hx)⟩
  generalize ht : act (.fn f) as (hp0 : Hp T) = t at h
  have hn0 : Now P E (maxN t) (fun b => M b ∧ ¬ Own hp.get β b) (fun _ => none) (hp0 : Hp T) w := by
    have h0 := now0 (P := P) (E := E) (maxN t) w
    have hn : ∀ id, (hp0 : Hp T).get id = none := fun id => Tr.get_nil id
    have hLv : ∀ id, ¬ Live (hp0 : Hp T).get id := fun id h => by unfold Live at h; rw [hn] at h; exact h
    exact ⟨⟨fun id o h => absurd h (hLv id), fun i j _ _ h => absurd h (hLv i), fun i h h' => absurd h' (hLv i), h0.heap.shade⟩, fun b hb => hnow.nb b hb.1, h0.free, h0.nomem⟩
  obtain ⟨h1, h2⟩ := hA (maxN t) _ (fun _ => none) hp0 w (.fn f) as vs (fun r => ((frzWR P fl r.2 ts r.1).bind fun x => bif idsNd x.2 then .leaf (x.1, sndW x.2) else .fail).holds fun x => x = (v0, es)) hn0 hL0 (by
    rw [ht]
    exact Tree.holds_mono (fun r hr => ⟨hr.2, hr.1⟩) (Tree.holds_and_every (Tree.holds_bind.1 h) (maxN_every t)))
  refine ⟨h1, h2.mono fun e w' ⟨u, M', β', r, he, hS, hu, hr⟩ => ?_⟩
  have hown0 : ∀ b, ¬ Own (hp0 : Hp T).get (fun _ => none) b := by
    rintro b ⟨id, hd, k1, k2, k3⟩
    cases k2
  have hold : ∀ b, b < w.heap.size → w'.heap[b]? = w.heap[b]? := fun b hb => hS.evo.old b hb (hown0 b)
  obtain ⟨x, hx, hents, hrv⟩ := frzWR_ok hu (Tree.holds_bind.1 hr)
  cases hnd : idsNd x.2 with
  | false => rw [hnd] at hx; exact hx.elim
  | true =>
  rw [hnd] at hx
  have hx : (x.1, sndW x.2) = (v0, es) := hx
  obtain ⟨rfl, rfl⟩ := Prod.mk.inj hx
  let D : Nat → Prop := fun y => hp.next ≤ y ∧ y < hp.next + (sndW x.2).length
  have hDdec : ∀ y, D y ∨ ¬ D y := fun y => Classical.em _
  let β2 : Nat → Option Hd := fun y => if hp.next ≤ y ∧ y < hp.next + (sndW x.2).length then (match x.2[y - hp.next]? with
    | some (some id, _) => β' id
    | _ => none) else β y
  have hβn : ∀ y, ¬ D y → β2 y = β y := fun y hy => if_neg hy
  have hβi : ∀ i id y, x.2[i]? = some (some id, y) → β2 (hp.next + i) = β' id := fun i id y e => by
    have hi : i < (sndW x.2).length := by rw [sndW_length]; exact (List.getElem?_eq_some_iff.1 e).1
    show (if _ then _ else _) = _
    rw [if_pos ⟨by omega, by omega⟩, Nat.add_sub_cancel_left, e]
  have hfree : ∀ y, D y → β y = none ∧ hp.get y = none := fun y hy => hnow.free y hy.1 (by have := hy.2; omega)
  have hgetD : ∀ y, D y → ∃ z, (sndW x.2)[y - hp.next]? = some z ∧ (newAll hp (sndW x.2)).get y = some (objV z) := fun y hy => by
    have hlt : y - hp.next < (sndW x.2).length := by have := hy.1; have := hy.2; omega
    have hz := List.getElem?_eq_getElem hlt
    have := newAll_in (sndW x.2) hp (y - hp.next) _ hz
    rw [show hp.next + (y - hp.next) = y by have := hy.1; omega] at this
    exact ⟨_, hz, this⟩
  have hlv : ∀ y, D y → Live (newAll hp (sndW x.2)).get y → ∃ i id τ l hd, y = hp.next + i ∧ x.2[i]? = some (some id, .l τ l) ∧ (newAll hp (sndW x.2)).get y = some (.lst τ l) ∧ r.2.get id = some (.lst τ l) ∧ memN τ fl = true ∧ Live r.2.get id ∧ β' id = some hd ∧ ListAt P E w' M' τ l hd := by
    intro y hy hL
    obtain ⟨z, hz, hg⟩ := hgetD y hy
    obtain ⟨id, τ, l, hd, k1, rfl, k2, k3, k4, k5, k6⟩ := ent_obj hS.now.heap hents hz (fun τ l e => by
      subst e
      unfold Live at hL
      rw [hg] at hL
      exact hL)
    exact ⟨y - hp.next, id, τ, l, hd, by have := hy.1; omega, k1, hg, k2, k3, k4, k5, k6⟩
  obtain ⟨M2, hM2, hS2⟩ := hnow.chgB (hp' := newAll hp (sndW x.2)) (w' := w') (β' := β2) (D := D) (by rw [newAll_next]; omega) (by rw [newAll_next]; exact hlim)
    (fun y hy => newAll_out _ _ _ hy) (fun y hy => by rw [(hfree y hy).2]; trivial) (fun y hy => by
      obtain ⟨z, _, hg⟩ := hgetD y hy
      rw [hg]
      cases z <;> trivial)
    (fun y h e => by
      rcases hDdec y with hy | hy
      · rw [(hfree y hy).1] at e; cases e
      · rw [hβn y hy]; exact e) hβn (fun y h e => by
      rcases hDdec y with hy | hy
      · exact .inr ⟨hy.1, by rw [newAll_next]; exact hy.2⟩
      · rw [hβn y hy] at e; exact .inl e)
    (fun y hy h1 h2 => by
      rw [newAll_next] at h1
      have := hy.2
      omega)
    (fun y o hy hL ho => by
      obtain ⟨i, id, τ, l, hd, rfl, k1, k2, k3, k4, k5, k6, k7⟩ := hlv y hy hL
      rw [k2] at ho
      cases ho
      refine ⟨hd, (hβi i id _ k1).trans k6, fun M3 _ _ => k7.flat (hfl τ k4), ?_⟩
      rcases hS.evo.own hd.block ⟨id, hd, k5, k6, rfl⟩ with h | h
      · exact absurd h (hown0 _)
      · exact .inl h)
    (fun y z hy hz d1 d2 l1 l2 hne e1 e2 => by
      obtain ⟨i, id, τ, l, hd, rfl, k1, k2, k3, k4, k5, k6, k7⟩ := hlv y d1 l1
      obtain ⟨i', id', τ', l', hd', rfl, q1, q2, q3, q4, q5, q6, q7⟩ := hlv z d2 l2
      rw [hβi i id _ k1, k6] at e1
      rw [hβi i' id' _ q1, q6] at e2
      cases e1
      cases e2
      have hid : id ≠ id' := by
        rcases Nat.lt_or_gt_of_ne (show i ≠ i' by rintro rfl; exact hne rfl) with h | h
        · exact idsNd_ok hnd h k1 q1
        · exact (idsNd_ok hnd h q1 k1).symm
      refine hS.now.heap.inj id id' _ _ k5 q5 ?_ k6 q6
      unfold keyOf
      rw [k3, q3]
      exact hid)
    hS.evo.os hS.evo.tape hS.evo.output hS.evo.size (fun b hb _ => hold b hb)
  exact ⟨u, M2, β2, (renW hp.next x.1, newAll hp (sndW x.2)), he, hS2, hrv hp.next w' M2 β2 (fun i id y h e k => (hβi i id y e).trans k), rfl⟩
def conW (P : Program) (E : Enc T) (shs : List Sh) (sig : List VT) (F : Den T sig → Tree (AV T × List (V T))) : Con T := fun xs hp =>
  match thxA P E hp shs xs with
  | some (ys, ps) => match rdArgs P shs ys with
    | some ds => match ofV sig ds with
      | some d => reqs ps ((F d).bind fun v => .leaf (renW hp.next v.1, newAll hp v.2))
      | none => .fail
    | none => .fail
  | none => .fail
theorem conW_ok [hg : GoodP P E] {f : Nat} {shs : List Sh} {sig : List VT} {F : Den T sig → Tree (AV T × List (V T))} (h : ∀ (d : Den T sig) (K : AV T × List (V T) → Prop), (F d).holds K → ∃ v, K v ∧ FactW P E f (argsOf shs sig d) v.1 v.2) : ConOk P E f (conW P E shs sig F) := by
  have hE := hg.good
  refine ⟨fun xs hp => ?_, fun lim M β hp w xs vs K hnow hL hK => ?_⟩
  · unfold conW
    split
    · split
      · split
        · exact reqs_every (bind_every (R := fun _ => True) (every_true (fun _ => trivial) _) fun v _ => newAll_gr _ _)
        · trivial
      · trivial
    · trivial
  unfold conW at hK
  split at hK
  · rename_i ys ps hth
    split at hK
    · rename_i ds h1
      split at hK
      · rename_i d h2
        obtain ⟨hps, hK⟩ := reqs_holds hK
        obtain ⟨v, hv, hF⟩ := h d _ (Tree.holds_bind.1 hK)
        have hl := thxA_ok (M2 := fun b => M b ∧ ¬ Own hp.get β b) hE hnow.heap (fun _ h => h) hL hth hps
        obtain ⟨vs', e, hk⟩ := rdArgs_ok (P := P) (E := E) h1
        have ea : argsOf shs sig d = vs' := by
          unfold argsOf
          rw [toV_of h2, e]
          rfl
        have hlim := hv.1
        rw [newAll_next] at hlim
        obtain ⟨q1, q2⟩ := hF lim M β hp w vs hnow hlim (ea ▸ hk w _ β vs hl)
        refine ⟨q1, q2.mono fun e w' ⟨u, M', β', r, he, hS, hu, hr⟩ => ⟨u, M', β', r, he, hS, hu, ?_⟩⟩
        rw [hr]
        exact hv.2
      · exact hK.elim
    · exact hK.elim
  · exact hK.elim
def conPW (P : Program) (E : Enc T) (shs : List Sh) (sig : List VT) (pre : Den T sig → Prop) (val : Den T sig → AV T) (es : Den T sig → List (V T)) : Con T := conW P E shs sig fun d => .req (pre d) (.leaf (val d, es d))
theorem conPW_ok [GoodP P E] {f : Nat} {shs : List Sh} {sig : List VT} {pre : Den T sig → Prop} {val : Den T sig → AV T} {es : Den T sig → List (V T)} (h : ∀ d, pre d → FactW P E f (argsOf shs sig d) (val d) (es d)) : ConOk P E f (conPW P E shs sig pre val es) :=
  conW_ok fun d K ⟨h1, h2⟩ => ⟨(val d, es d), h2, h d h1⟩
end Go.Cx
