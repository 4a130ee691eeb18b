/- The evaluator: contracts of calls, answers as plain data. No condition. -/
import Derived.Test.YtmnhfjhlfgebiaaCxX
set_option linter.unusedVariables false
noncomputable section
namespace Go.Cx
open Go.RowKit
variable {T : Nat → Type} {P : Program} {E : Enc T} {cl : Bool} {fuel : Nat}

/-! ### Values without places of objects -/
def flt2 : AV T → Bool
  | .agg cs => cs.all flt1
  | v => flt1 v
def flt : AV T → Bool
  | .tup cs => cs.all flt2
  | v => flt2 v

section
variable {w w' : World} {M M' : Nat → Prop} {β β' : Nat → Option Hd}
theorem all_get {α : Type} {p : α → Bool} {l : List α} {j : Nat} {c : α} (h : l.all p = true) (hj : l[j]? = some c) : p c = true :=
  List.all_eq_true.1 h c (List.mem_of_getElem? hj)
theorem RV.flt1 {c : AV T} {v : Value} (h : flt1 c = true) (hv : RV P E w M β c v) : RV P E w M (fun _ => none) c v := by
  cases hv with
  | sym => exact .sym
  | int => exact .int
  | any => exact .any
  | lit => exact .lit
  | bool => exact .bool
  | str => exact .str
  | nilp => exact .nilp
  | nilf => exact .nilf
  | nils => exact .nils
  | emp => exact .emp
  | es => exact .es
  | nili => exact .nili
  | sl0 h' => exact .sl0 h'
  | sl f h1 h2 h3 h4 h5 h6 h7 h8 => exact .sl f h1 h2 h3 h4 h5 h6 h7 h8
  | _ => cases h
theorem RV.flt2 {c : AV T} {v : Value} (h : flt2 c = true) (hv : RV P E w M β c v) : RV P E w M (fun _ => none) c v := by
  cases c with
  | agg cs =>
    cases hv with
    | agg h1 h2 => exact .agg h1 fun j c v hc hv => RV.flt1 (all_get h hc) (h2 j c v hc hv)
  | _ => exact RV.flt1 h hv
theorem RV.flt {c : AV T} {v : Value} (h : flt c = true) (hv : RV P E w M β c v) : RV P E w M (fun _ => none) c v := by
  cases c with
  | tup cs =>
    cases hv with
    | tup h1 h2 => exact .tup h1 fun j c v hc hv => RV.flt2 (all_get h hc) (h2 j c v hc hv)
  | _ => exact RV.flt2 h hv
/-- Fewer blocks may be written. -/
theorem RV.less {c : AV T} {v : Value} (hv : RV P E w M (fun _ => none) c v) (h : ∀ b, M' b → M b) : RV P E w M' β' c v :=
  hv.stab ⟨fun _ _ _ _ => rfl, Nat.le_refl _, fun b hb => .inl (h b hb), fun _ _ h => by cases h⟩
end

/-! ### Contracts: what a call is known to answer, whatever the arguments -/
/-- A call that leaves everything as it was, and what it answers. -/
def Fact (P : Program) (E : Enc T) (f : Nat) (as : List (AV T)) (v : AV T) : Prop :=
  ∀ (lim : Nat) (M : Nat → Prop) (β : Nat → Option Hd) (hp : Hp T) (w : World) (vs : List Value), Now P E lim M β hp w → LR P E w M β as vs → CallOk P f ∧ Calls P f vs.toArray w (Post P E lim M β hp w fun r => r = (v, hp))
abbrev Con (T : Nat → Type) := List (AV T) → Hp T → Tree (AV T × Hp T)
structure ConOk (P : Program) (E : Enc T) (f : Nat) (C : Con T) : Prop where
  gr : ∀ (as : List (AV T)) (hp : Hp T), (C as hp).every fun r => Gr hp r.2
  ok : ∀ (lim : Nat) (M : Nat → Prop) (β : Nat → Option Hd) (hp : Hp T) (w : World) (as : List (AV T)) (vs : List Value) (K : AV T × Hp T → Prop), Now P E lim M β hp w → LR P E w M β as vs →
    (C as hp).holds (fun r => r.2.next ≤ lim ∧ K r) → CallOk P f ∧ Calls P f vs.toArray w (Post P E lim M β hp w K)
abbrev CTab (T : Nat → Type) := List (Nat × Con T)
def conOf (f : Nat) : CTab T → Option (Con T)
  | [] => none
  | (g, C) :: t => bif Nat.beq f g then some C else conOf f t
def CTabOk (P : Program) (E : Enc T) (t : CTab T) : Prop := ∀ p ∈ t, ConOk P E p.1 p.2
theorem CTabOk.nil : CTabOk P E ([] : CTab T) := fun p h => by cases h
theorem CTabOk.cons {f : Nat} {C : Con T} {t : CTab T} (h : ConOk P E f C) (ht : CTabOk P E t) : CTabOk P E ((f, C) :: t) := fun p hp => by
  rcases List.mem_cons.1 hp with rfl | hp
  · exact h
  · exact ht p hp
theorem conOf_ok {f : Nat} {C : Con T} : ∀ {t : CTab T}, CTabOk P E t → conOf f t = some C → ConOk P E f C
  | [], _, h => by cases h
  | (g, D) :: t, ht, h => by
    simp only [conOf] at h
    cases hb : Nat.beq f g with
    | true =>
      rw [hb] at h
      cases h
      rw [Nat.eq_of_beq_eq_true hb]
      exact ht _ (List.mem_cons_self ..)
    | false => rw [hb] at h; exact conOf_ok (fun p hp => ht p (List.mem_cons_of_mem _ hp)) h

def withC (t : CTab T) (act : Tgt → List (AV T) → Hp T → Tree (AV T × Hp T)) : Tgt → List (AV T) → Hp T → Tree (AV T × Hp T) := fun tgt as hp =>
  match tgt with
  | .fn f => match conOf f t with
    | some C => C as hp
    | none => act (.fn f) as hp
  | .yld id => act (.yld id) as hp
theorem every_true {α : Type} {Q : α → Prop} (h : ∀ a, Q a) : ∀ t : Tree α, t.every Q
  | .fail => trivial
  | .leaf a => h a
  | .br _ t f => ⟨every_true h t, every_true h f⟩
  | .req _ t => every_true h t
  | .amb t f => ⟨every_true h t, every_true h f⟩
theorem withC_gr {t : CTab T} (ht : CTabOk P E t) {act : Tgt → List (AV T) → Hp T → Tree (AV T × Hp T)} (hA : ActGr act) : ActGr (withC t act) := fun tgt as hp => by
  unfold withC
  split
  · split
    · rename_i C hC
      exact (conOf_ok ht hC).gr as hp
    · exact hA _ _ _
  · exact hA _ _ _
theorem withC_ok {t : CTab T} (ht : CTabOk P E t) {act : Tgt → List (AV T) → Hp T → Tree (AV T × Hp T)} (hA : ActOk P E act) : ActOk P E (withC t act) := fun lim M β hp w tgt as vs K hnow hL h => by
  unfold withC at h
  cases tgt with
  | yld id => exact hA lim M β hp w (.yld id) as vs K hnow hL h
  | fn f =>
    simp only at h
    split at h
    · rename_i C hC
      exact (conOf_ok ht hC).ok lim M β hp w as vs K hnow hL h
    · exact hA lim M β hp w (.fn f) as vs K hnow hL h

/-! ### The evaluator with contracts and loops -/
section
variable (P : Program) (E : Enc T) (ct : CTab T) (ll : Nat → Nat → LoopTab T) (fuel : Nat)
def callX : Nat → Tgt → List (AV T) → Hp T → Tree (AV T × Hp T)
  | 0 => fun _ _ _ => .fail
  | n + 1 => withC ct fun tgt as hp => match tgt with
    | .fn f => match P.funcs[f]? with
      | some fn => runFn P E true (callX n) (drawT P E true (callX n)) (ll f hp.next) fuel fn as hp
      | none => .fail
    | .yld id => rndT P E true (callX n) (drawT P E true (callX n)) fuel id as hp
/-- The body of a loop of a function, on a state. -/
def bodyX (n : Nat) (L : LoopTab T) (b : Code) (st : St T) : Tree (Ex × St T) :=
  exec P E true (callX P E ct ll fuel n) (drawT P E true (callX P E ct ll fuel n)) L fuel none b st
end
def FreshF (F : Fm) (n0 : Nat) : Prop := F.n0 = n0 ∧ F.b0 ≤ F.w0.heap.size ∧ F.rr = none ∧ ∀ id, F.n0 ≤ id → id < F.lim → F.β0 id = none
def LLOk (P : Program) (E : Enc T) (ll : Nat → Nat → LoopTab T) : Prop := ∀ (f : Nat) (fn : Func) (n0 : Nat), P.funcs[f]? = some fn → LoopGr (ll f n0) ∧
  ∀ c, fn.body = some c → ∀ b ∈ loopsIn c, ∀ F : Fm, FreshF F n0 → LoopOk P E F (ll f n0) b
def noLoops : Nat → Nat → LoopTab T := fun _ _ => L0
theorem noLoops_ok : LLOk P E (noLoops : Nat → Nat → LoopTab T) := fun _ _ _ _ => ⟨L0_gr, fun _ _ _ _ _ _ => L0_ok⟩

theorem callX_every {ct : CTab T} (hc : CTabOk P E ct) {ll : Nat → Nat → LoopTab T} (hl : ∀ f n0 fn, P.funcs[f]? = some fn → LoopGr (ll f n0)) : ∀ n, ActGr (callX P E ct ll fuel n)
  | 0 => fun _ _ _ => trivial
  | n + 1 => withC_gr hc fun tgt as hp => by
    have ih := callX_every (ct := ct) hc hl n
    cases tgt with
    | fn f =>
      simp only
      split
      · rename_i fn hf
        exact runFn_every ih (fun ops st => drawT_every ih ops st) (hl _ _ _ hf)
      · trivial
    | yld id => exact rndT_every ih (fun ops st => drawT_every ih ops st)
theorem callX_ok (hE : E.Good P) (hN : NamesOk P) (hm : P.follows .mixedOrders = true) {ct : CTab T} (hc : CTabOk P E ct) {ll : Nat → Nat → LoopTab T} (hl : LLOk P E ll) : ∀ n, ActOk P E (callX P E ct ll fuel n)
  | 0 => fun _ _ _ _ _ _ _ _ _ _ _ h => h.elim
  | n + 1 => withC_ok hc fun lim M β hp w tgt as vs K hnow hL h => by
    have ih := callX_ok hE hN hm hc hl n
    have ihe := callX_every (P := P) (E := E) (fuel := fuel) (ct := ct) (ll := ll) hc (fun f n0 fn hf => (hl f fn n0 hf).1) n
    have hD := drawOk (cl := true) hE hm ih ihe
    cases tgt with
    | fn f =>
      simp only at h
      split at h
      · rename_i fn hf
        exact runFn_sound hE ih ihe hD (fun ops st => drawT_every ihe ops st) hN hf (hl f fn hp.next hf).1 (fun c hc b hb F h1 h2 h3 h4 => (hl f fn hp.next hf).2 c hc b hb F ⟨h1, h2, h3, h4⟩) hnow hL h
      · exact h.elim
    | yld id => exact fun hd hβ n => rndT_sound hE ih ihe hD (fun ops st => drawT_every ihe ops st) hnow hL h hβ n

/-! ### Answers as plain data -/
def Enc.DecOk (_ : Program) (E : Enc T) : Prop := ∀ τ fz cs x, E.ok τ = true → E.dec τ fz cs = some x → AllTo fz cs (E.enc τ x)
def decI (k : IntKind) (v : AV T) : Option Int := match asN v with
  | some (k', n) => bif decide (k = k') then some n else none
  | none => none
theorem decI_to {fz : (σ : Nat) → AV T → Option (List (T σ))} {k : IntKind} {v : AV T} {n : Int} (h : decI k v = some n) : CellTo fz v (.sym k n) := by
  unfold decI at h
  split at h
  · rename_i k' m hm
    cases hk : decide (k = k') with
    | false => rw [hk] at h; cases h
    | true =>
      rw [hk] at h
      cases h
      have hk := of_decide_eq_true hk
      subst hk
      refine .inl ⟨?_, rfl⟩
      cases v <;> simp only [asN, reduceCtorEq, Option.some.injEq, Prod.mk.injEq] at hm
      · obtain ⟨rfl, rfl⟩ := hm; rfl
      · obtain ⟨rfl, rfl⟩ := hm; rfl
  · cases h
theorem asB_to {fz : (σ : Nat) → AV T → Option (List (T σ))} {v : AV T} {b : Bool} (h : asB v = some b) : CellTo fz v (.bool b) := by
  refine .inl ⟨?_, rfl⟩
  cases v <;> simp only [asB, reduceCtorEq, Option.some.injEq] at h
  · subst h; rfl
  · subst h; rfl
theorem fz_to {fz : (σ : Nat) → AV T → Option (List (T σ))} {v : AV T} {σ : Nat} {l : List (T σ)} (h : fz σ v = some l) : CellTo fz v (.sl σ l false) := .inr ⟨σ, l, rfl, h⟩
def decS (v : AV T) : Option ByteArray := match v with
  | .str s => some s
  | _ => none
theorem decS_to {fz : (σ : Nat) → AV T → Option (List (T σ))} {v : AV T} {s : ByteArray} (h : decS v = some s) : CellTo fz v (.str s) := by
  refine .inl ⟨?_, rfl⟩
  cases v <;> simp only [decS, reduceCtorEq, Option.some.injEq] at h
  subst h; rfl

section
variable (P : Program) (E : Enc T)
def frzS (hp : Hp T) : Nat → (σ : Nat) → AV T → Option (List (T σ))
  | 0, _, _ => none
  | d + 1, σ, v =>
    match v with
    | .es => some []
    | .sc id sz off len _ =>
      bif Nat.beq len 0 then some [] else
      match look hp id with
      | some (n, c, dflt) =>
        bif E.ok σ && Nat.beq sz (P.cellsOf σ) && Nat.ble (off + len * sz) n then
          mapO (fun i => E.dec σ (frzS hp d) (rdN c dflt sz (off + i * sz))) (iotaFrom len 0)
        else none
      | none => none
    | v => asL σ v
/-- The types of the cells of a type. -/
def cellTys : Nat → TypeId → List TypeId
  | 0, _ => []
  | d + 1, t => match P.underlying t with
    | some (.struct fields) => fields.toList.flatMap fun f => cellTys d f.type
    | some (.array n τ) => (List.replicate n (cellTys d τ)).flatten
    | _ => [t]
def frz1 (hp : Hp T) (t : TypeId) (v : AV T) : Tree (AV T) :=
  match P.underlying t with
  | some (.int _) => match asN v with
    | some (k, n) => .leaf (.sym k n)
    | none => .fail
  | some .bool => match asB v with
    | some b => .leaf (.bool b)
    | none => .fail
  | some (.slice σ) => match v with
    | .ls id τ' len => match hp.get id with
      | some (.lst τ2 l) => if h : τ2 = σ then bif Nat.beq τ' σ then .req (len = l.length) (.leaf (.sl σ (h ▸ l) false)) else .fail else .fail
      | _ => .fail
    | _ => match frzS P E hp 6 σ v with
      | some l => .leaf (.sl σ l false)
      | none => .fail
  | _ => bif flt1 v then .leaf v else .fail
def frzL (hp : Hp T) : List TypeId → List (AV T) → Tree (List (AV T))
  | [], [] => .leaf []
  | t :: ts, v :: vs => (frz1 P E hp t v).bind fun x => (frzL hp ts vs).bind fun r => .leaf (x :: r)
  | _, _ => .fail
def frz2 (hp : Hp T) (t : TypeId) (v : AV T) : Tree (AV T) :=
  match v with
  | .agg cs => (frzL P E hp (cellTys P 6 t) cs).bind fun r => .leaf (.agg r)
  | v => frz1 P E hp t v
def frzM (hp : Hp T) : List TypeId → List (AV T) → Tree (List (AV T))
  | [], [] => .leaf []
  | t :: ts, v :: vs => (frz2 P E hp t v).bind fun x => (frzM hp ts vs).bind fun r => .leaf (x :: r)
  | _, _ => .fail
def frzR (hp : Hp T) (ts : List TypeId) (v : AV T) : Tree (AV T) :=
  match v with
  | .tup cs => (frzM P E hp ts cs).bind fun r => .leaf (.tup r)
  | v => match ts with
    | [t] => frz2 P E hp t v
    | _ => .fail
/-- The answer of a function, as plain data. -/
def resX (ts : List TypeId) (t : Tree (AV T × Hp T)) : Tree (AV T) := t.bind fun r => frzR P E r.2 ts r.1
end

section
variable {w : World} {M M0 : Nat → Prop} {β : Nat → Option Hd} {hp : Hp T}
theorem asL_frz {σ : Nat} {v : AV T} {u : Value} {l : List (T σ)} (hM : ∀ b, M0 b → M b) (hv : RV P E w M β v u) (h : asL σ v = some l) : RV P E w M0 (fun _ => none) (.sl σ l false) u :=
  (RV.flt1 rfl (asL_ro hv h)).less hM
theorem frzS_ok (hE : E.Good P) (hD : E.DecOk P) (hH : HeapRel P E w M β hp.get) (hM : ∀ b, M0 b → M b ∧ ¬ Own hp.get β b) : ∀ (d : Nat) {σ : Nat} {v : AV T} {u : Value} {l : List (T σ)}, RV P E w M β v u → frzS P E hp d σ v = some l → RV P E w M0 (fun _ => none) (.sl σ l false) u
  | 0, _, _, _, _, _, h => by cases h
  | d + 1, σ, v, u, l, hv, h => by
    unfold frzS at h
    split at h
    · cases h
      cases hv
      exact .sl0 (fun h => by cases h)
    · rename_i id sz off len cap
      cases hz : Nat.beq len 0 with
      | true =>
        rw [hz] at h
        cases h
        have := Nat.eq_of_beq_eq_true hz
        subst this
        cases hv
        exact .sl0 (fun h => by cases h)
      | false =>
        rw [hz] at h
        simp only [cond_false] at h
        split at h
        · rename_i n c dflt hlook
          cases hb : E.ok σ && Nat.beq sz (P.cellsOf σ) && Nat.ble (off + len * sz) n with
          | false => rw [hb] at h; cases h
          | true =>
            rw [hb] at h
            simp only [cond_true] at h
            obtain ⟨hok, hsz, hle⟩ := and3 hb
            have hsz := bbeq hsz
            have hle := bble hle
            obtain ⟨hd, vs, el, hlive, hβ, hblk, hfit, hcell⟩ := look_at hH hlook
            cases hv with
            | sc h1 h2 h3 h4 =>
              rw [hβ] at h1
              cases h1
              rename_i cc
              obtain ⟨k1, k2⟩ := mapO_get h
              rw [iotaFrom_length] at k1
              have hpos := hE.pos σ hok
              have key : ∀ (i : Nat) (x : T σ) (j : Nat) (c' : AV T), l[i]? = some x → (E.enc σ x)[j]? = some c' → hd.base + off + (i * P.cellsOf σ + j) < vs.size ∧ RV P E w M0 (fun _ => none) c' (vs.getD (hd.base + off + (i * P.cellsOf σ + j)) undef) := by
                intro i x j c' hx hc'
                obtain ⟨i', e1, e2⟩ := k2 i x hx
                have e1 := iotaFrom_get e1
                have hi : i < len := by
                  rw [← k1]
                  exact (List.getElem?_eq_some_iff.1 hx).1
                have hi' : i' = i := by omega
                subst hi'
                obtain ⟨q1, q2⟩ := (hD σ _ _ x hok e2).get
                have hj : j < P.cellsOf σ := by
                  rw [← hE.len σ hok x]
                  exact (List.getElem?_eq_some_iff.1 hc').1
                have hmul : i' * P.cellsOf σ + P.cellsOf σ ≤ len * P.cellsOf σ := by
                  have := Nat.mul_le_mul_right (P.cellsOf σ) (show i' + 1 ≤ len by omega)
                  rw [Nat.add_mul, Nat.one_mul] at this
                  exact this
                have hbnd : off + i' * P.cellsOf σ + j < n := by rw [hsz] at hle; omega
                refine ⟨by omega, ?_⟩
                have hget : (rdN c dflt sz (off + i' * sz))[j]? = some (cellAt c dflt (off + i' * sz + j)) := by
                  have hlt : j < (rdN c dflt sz (off + i' * sz)).length := by rw [rdN_length]; omega
                  rw [List.getElem?_eq_getElem hlt]
                  have := rdN_get c dflt sz (off + i' * sz) j _ (List.getElem?_eq_getElem hlt)
                  rw [this.2]
                have hrv := hcell (off + i' * sz + j) (by rw [hsz]; omega)
                have e3 : hd.base + (off + i' * sz + j) = hd.base + off + (i' * P.cellsOf σ + j) := by rw [hsz]; omega
                rw [e3] at hrv
                rcases q2 j _ c' hget hc' with ⟨rfl, hf⟩ | ⟨σ', l', rfl, hfz⟩
                · exact (RV.flt1 hf hrv.opn).less fun b hb => (hM b hb).1
                · exact frzS_ok hE hD hH hM d hrv hfz
              have hlen : l.length = len := by omega
              rw [← hlen]
              refine .sl (fun i j => vs.getD (hd.base + off + (i * P.cellsOf σ + j)) undef) rfl ?_ (by omega) (fun h => by cases h) hok (fun _ hm => (hM _ hm).2 ⟨id, hd, hlive, hβ, rfl⟩) ?_ ?_
              · rcases Nat.lt_or_ge hd.block w.heap.size with h | h
                · exact h
                · rw [Array.getElem?_eq_none h] at hblk; cases hblk
              · intro i x j c' hx hc'
                exact cell_of hblk (key i x j c' hx hc').1
              · intro i x j c' hx hc'
                exact (key i x j c' hx hc').2
        · cases h
    · exact asL_frz (fun b hb => (hM b hb).1) hv h

theorem frz1_ok (hE : E.Good P) (hD : E.DecOk P) (hH : HeapRel P E w M β hp.get) (hM : ∀ b, M0 b → M b ∧ ¬ Own hp.get β b) {t : TypeId} {v : AV T} {u : Value} (hv : RV P E w M β v u) {K : AV T → Prop} (h : (frz1 P E hp t v).holds K) : ∃ v', RV P E w M0 (fun _ => none) v' u ∧ K v' := by
  unfold frz1 at h
  split at h
  · split at h
    · rename_i k n hn
      refine ⟨_, ?_, h⟩
      rw [asN_val hv hn]
      exact .sym
    · exact h.elim
  · split at h
    · rename_i b hb
      refine ⟨_, ?_, h⟩
      rw [asB_val hv hb]
      exact .bool
    · exact h.elim
  · rename_i σ _
    split at h
    · rename_i id τ' len
      split at h
      · rename_i τ2 l hget
        split at h
        · rename_i e
          subst e
          cases hb : Nat.beq τ' τ2 with
          | false => rw [hb] at h; exact h.elim
          | true =>
            rw [hb] at h
            have e := bbeq hb
            subst e
            obtain ⟨hlen, h⟩ := h
            refine ⟨_, ?_, h⟩
            show RV P E w M0 _ (.sl τ' l false) _
            subst hlen
            generalize hq : l.length = q at hv
            cases hv with
            | ls0 =>
              have : l = [] := List.eq_nil_of_length_eq_zero hq
              subst this
              exact .sl0 (fun h => by cases h)
            | ls q1 q2 q3 q4 q5 =>
              subst hq
              have hlive : Live hp.get id := by
                unfold Live
                rw [hget]
                rintro rfl
                simp at q2
              obtain ⟨hd, g1, g2⟩ := hH.obj id _ hlive hget
              rw [q1] at g1
              cases g1
              obtain ⟨vs, el, g3, g4, g5, g6, g7⟩ := g2
              refine .sl (fun i j => vs.getD (_ + (i * P.cellsOf τ' + j)) undef) rfl ?_ q3 (fun h => by cases h) g6 (fun _ hm => (hM _ hm).2 ⟨id, _, hlive, q1, rfl⟩) (fun i x j c hx hc => ?_) fun i x j c hx hc => (g7 i x j c hx hc).less fun b hb => (hM b hb).1
              · rcases Nat.lt_or_ge _ w.heap.size with h | h
                · exact h
                · rw [Array.getElem?_eq_none h] at g3; cases g3
              · have hi := (List.getElem?_eq_some_iff.1 hx).1
                have hj := (List.getElem?_eq_some_iff.1 hc).1
                rw [hE.len _ g6] at hj
                have := Nat.mul_le_mul_right (P.cellsOf τ') (show i + 1 ≤ l.length by omega)
                rw [Nat.add_mul, Nat.one_mul] at this
                dsimp only
                exact cell_of g3 (by omega)
        · exact h.elim
      · exact h.elim
    · split at h
      · rename_i l hl
        exact ⟨_, frzS_ok hE hD hH hM 6 hv hl, h⟩
      · exact h.elim
  · cases hf : Cx.flt1 v with
    | true => rw [hf] at h; exact ⟨v, (RV.flt1 hf hv).less fun b hb => (hM b hb).1, h⟩
    | false => rw [hf] at h; exact h.elim
theorem frzL_ok (hE : E.Good P) (hD : E.DecOk P) (hH : HeapRel P E w M β hp.get) (hM : ∀ b, M0 b → M b ∧ ¬ Own hp.get β b) : ∀ {ts : List TypeId} {vs : List (AV T)} {us : List Value} {K : List (AV T) → Prop}, LR P E w M β vs us → (frzL P E hp ts vs).holds K → ∃ rs, LR P E w M0 (fun _ => none) rs us ∧ K rs
  | [], [], us, K, hl, h => by
    have := hl.1
    cases us with
    | nil => exact ⟨[], LR.nil, h⟩
    | cons => simp at this
  | t :: ts, v :: vs, us, K, hl, h => by
    simp only [frzL] at h
    cases us with
    | nil => have := hl.1; simp at this
    | cons u us =>
      obtain ⟨k1, k2⟩ := hl.uncons
      obtain ⟨v', r1, h⟩ := frz1_ok hE hD hH hM k1 (Tree.holds_bind.1 h)
      obtain ⟨rs, r2, h⟩ := frzL_ok hE hD hH hM k2 (Tree.holds_bind.1 h)
      exact ⟨v' :: rs, r2.cons r1, h⟩
  | [], _ :: _, _, _, _, h => h.elim
  | _ :: _, [], _, _, _, h => h.elim
theorem frz2_ok (hE : E.Good P) (hD : E.DecOk P) (hH : HeapRel P E w M β hp.get) (hM : ∀ b, M0 b → M b ∧ ¬ Own hp.get β b) {t : TypeId} {v : AV T} {u : Value} (hv : RV P E w M β v u) {K : AV T → Prop} (h : (frz2 P E hp t v).holds K) : ∃ v', RV P E w M0 (fun _ => none) v' u ∧ K v' := by
  unfold frz2 at h
  split at h
  · cases hv with
    | agg k1 k2 =>
      obtain ⟨rs, h1, h2⟩ := frzL_ok hE hD hH hM (LR.of_array k1 k2) (Tree.holds_bind.1 h)
      exact ⟨_, by simpa using RV.agg' h1, h2⟩
  · exact frz1_ok hE hD hH hM hv h
theorem frzM_ok (hE : E.Good P) (hD : E.DecOk P) (hH : HeapRel P E w M β hp.get) (hM : ∀ b, M0 b → M b ∧ ¬ Own hp.get β b) : ∀ {ts : List TypeId} {vs : List (AV T)} {us : List Value} {K : List (AV T) → Prop}, LR P E w M β vs us → (frzM P E hp ts vs).holds K → ∃ rs, LR P E w M0 (fun _ => none) rs us ∧ K rs
  | [], [], us, K, hl, h => by
    have := hl.1
    cases us with
    | nil => exact ⟨[], LR.nil, h⟩
    | cons => simp at this
  | t :: ts, v :: vs, us, K, hl, h => by
    simp only [frzM] at h
    cases us with
    | nil => have := hl.1; simp at this
    | cons u us =>
      obtain ⟨k1, k2⟩ := hl.uncons
      obtain ⟨v', r1, h⟩ := frz2_ok hE hD hH hM k1 (Tree.holds_bind.1 h)
      obtain ⟨rs, r2, h⟩ := frzM_ok hE hD hH hM k2 (Tree.holds_bind.1 h)
      exact ⟨v' :: rs, r2.cons r1, h⟩
  | [], _ :: _, _, _, _, h => h.elim
  | _ :: _, [], _, _, _, h => h.elim
theorem frzR_ok (hE : E.Good P) (hD : E.DecOk P) (hH : HeapRel P E w M β hp.get) (hM : ∀ b, M0 b → M b ∧ ¬ Own hp.get β b) {ts : List TypeId} {v : AV T} {u : Value} (hv : RV P E w M β v u) {K : AV T → Prop} (h : (frzR P E hp ts v).holds K) : ∃ v', RV P E w M0 (fun _ => none) v' u ∧ K v' := by
  unfold frzR at h
  split at h
  · cases hv with
    | tup k1 k2 =>
      obtain ⟨rs, h1, h2⟩ := frzM_ok hE hD hH hM (LR.of_array k1 k2) (Tree.holds_bind.1 h)
      exact ⟨_, .tup (by simpa using h1.1) fun j c v hc hv => h1.2 j c v hc (by simpa using hv), h2⟩
  · split at h
    · exact frz2_ok hE hD hH hM hv h
    · exact h.elim
end

/-! ### A run by itself -/
def maxN : Tree (AV T × Hp T) → Nat
  | .fail => 0
  | .leaf r => r.2.next
  | .br _ t f => max (maxN t) (maxN f)
  | .req _ t => maxN t
  | .amb t f => max (maxN t) (maxN f)
theorem maxN_every : ∀ t : Tree (AV T × Hp T), t.every fun r => r.2.next ≤ maxN t
  | .fail => trivial
  | .leaf r => Nat.le_refl _
  | .br _ t f => ⟨Tree.every_mono (fun _ h => Nat.le_trans h (Nat.le_max_left ..)) (maxN_every t), Tree.every_mono (fun _ h => Nat.le_trans h (Nat.le_max_right ..)) (maxN_every f)⟩
  | .req _ t => maxN_every t
  | .amb t f => ⟨Tree.every_mono (fun _ h => Nat.le_trans h (Nat.le_max_left ..)) (maxN_every t), Tree.every_mono (fun _ h => Nat.le_trans h (Nat.le_max_right ..)) (maxN_every f)⟩

/-- Where a run that sees no object answers with plain data, that is what it answers anywhere. -/
theorem fact_of_run (hE : E.Good P) (hDc : E.DecOk P) {act : Tgt → List (AV T) → Hp T → Tree (AV T × Hp T)} (hA : ActOk P E act) {f : Nat} {as : List (AV T)} {v : AV T} {ts : List TypeId} (ha : as.all flt2 = true)
    (h : (resX P E ts (act (.fn f) as (hp0 : Hp T))).holds fun x => x = v) : Fact P E f as v := by
  intro lim M β hp w vs hnow hL
  have hL0 : LR P E w M (fun _ => none) as vs := ⟨hL.1, fun j c x hc hx => RV.flt2 (all_get ha hc) (hL.2 j c x hc hx)⟩
  generalize ht : act (.fn f) as (hp0 : Hp T) = t at h
  have hn0 : Now P E (maxN t) M (fun _ => none) (hp0 : Hp T) w := by
    have h0 := now0 (P := P) (E := E) (maxN t) w
    have hn : ∀ id, (hp0 : Hp T).get id = none := fun id => Tr.get_nil id
    have hLv : ∀ id, ¬ Live (hp0 : Hp T).get id := fun id h => by unfold Live at h; rw [hn] at h; exact h
    exact ⟨⟨fun id o h => absurd h (hLv id), fun i j _ _ h => absurd h (hLv i), fun i h h' => absurd h' (hLv i), h0.heap.shade⟩, hnow.nb, h0.free, h0.nomem⟩
  obtain ⟨h1, h2⟩ := hA (maxN t) M (fun _ => none) hp0 w (.fn f) as vs (fun r => (frzR P E r.2 ts r.1).holds fun x => x = v) hn0 hL0 (by
    rw [ht]
    exact Tree.holds_mono (fun r hr => ⟨hr.2, hr.1⟩) (Tree.holds_and_every (Tree.holds_bind.1 h) (maxN_every t)))
  refine ⟨h1, h2.mono fun e w' ⟨u, M', β', r, he, hS, hu, hr⟩ => ?_⟩
  have hown0 : ∀ b, ¬ Own (hp0 : Hp T).get (fun _ => none) b := by
    rintro b ⟨id, hd, k1, k2, k3⟩
    cases k2
  have hold : ∀ b, b < w.heap.size → w'.heap[b]? = w.heap[b]? := fun b hb => hS.evo.old b hb (hown0 b)
  have hMM : ∀ b, M b → M' b ∧ ¬ Own r.2.get β' b := fun b hb => ⟨hS.evo.keep b hb (hown0 b), fun ho => by
    rcases hS.evo.own b ho with h | h
    · exact hown0 b h
    · have := hnow.nb b hb
      omega⟩
  obtain ⟨v0, hv, e0⟩ := frzR_ok hE hDc hS.now.heap hMM hu hr
  rw [e0] at hv
  have hst : Stab w M β w' M β := ⟨fun b o _ hb => World.cell?_of_block (w := w) (hold b hb), hS.evo.size, fun b hb => .inl hb, fun _ _ h => h⟩
  refine ⟨u, M, β, (v, hp), he, ⟨⟨hS.evo.os, hS.evo.tape, hS.evo.output, hS.evo.size, fun b hb _ => hold b hb, fun b hb => .inl hb, fun b hb _ => hb, fun b hb => .inl hb, fun _ _ h => h, fun _ _ h => .inl h⟩, ?_, Nat.le_refl _⟩, hv.less fun _ h => h, rfl⟩
  refine ⟨⟨fun id ob hLv hob => ?_, hnow.heap.inj, hnow.heap.own, hnow.heap.shade⟩, fun b hb => Nat.lt_of_lt_of_le (hnow.nb b hb) hS.evo.size, hnow.free, hnow.nomem⟩
  obtain ⟨hd, hβ, hrel⟩ := hnow.heap.obj id ob hLv hob
  exact ⟨hd, hβ, hrel.stab hst (hold _ (hnow.nb _ (hnow.heap.own id hd hLv hβ)))⟩
end Go.Cx
