/- The evaluator: one operation is sound. No condition. -/
import Derived.Test.YtmnhfjhlfgebiaaCxKa
import Derived.OrdersIn
import Derived.TacticsIn
import Derived.ControlIn
set_option linter.unusedVariables false
noncomputable section
namespace Go.Cx
open Go.RowKit
variable {T : Nat → Type} {P : Program} {E : Enc T}

/-- Where a frame began: the world, the blocks that may be written and those that are its own, the handles, the next name, the least block of its marks, the round that it is of; lim: up to which number names are free. -/
structure Fm where
  w0 : World
  M0 : Nat → Prop
  O0 : Nat → Prop
  β0 : Nat → Option Hd
  n0 : Nat
  b0 : Nat
  rr : Option (Nat × Nat)
  lim : Nat

/-- How a state of the evaluator stands to the machine's. -/
structure RelAt (P : Program) (E : Enc T) (F : Fm) (M : Nat → Prop) (β : Nat → Option Hd) (st : St T) (a : Act) (w : World) : Prop where
  defers : MarksOk F.b0 w M a.defers
  evo : Evo (fun id => F.n0 ≤ id ∧ id < F.lim) F.w0 F.M0 F.O0 F.β0 w M (Own st.hp.get β) β
  nb0 : ∀ b, F.M0 b → b < F.w0.heap.size
  now : Now P E F.lim M β st.hp w
  tmps : TR P E w M β st.n st.tm a.tmps
  rnd : ∀ p, F.rr = some p → ∃ h, β p.1 = some h ∧ h.block = p.2
  nle : F.n0 ≤ st.hp.next

def Rel (P : Program) (E : Enc T) (F : Fm) (st : St T) (a : Act) (w : World) : Prop := ∃ M β, RelAt P E F M β st a w

/-- The function can be called at all. -/
def CallOk (P : Program) (f : Nat) : Prop := ∃ fn, P.funcs[f]? = some fn ∧ (fn.name == "runtime.NumGoroutine") = false ∧ fn.body.isNone = false

/-- The fence of the walk: none, but the round that the frame is of. -/
abbrev FR (r : Option Nat) : Fence := { Fence.wide with round := r }

/-- What is shown of a call. -/
def Post (P : Program) (E : Enc T) (lim : Nat) (M : Nat → Prop) (β : Nat → Option Hd) (hp : Hp T) (w : World) (K : AV T × Hp T → Prop) (e : Ending) (w' : World) : Prop :=
  ∃ u M' β' r, e = .returned u ∧ Step P E lim M β hp w M' β' r.2 w' ∧ RV P E w' M' β' r.1 u ∧ K r

/-- Whoever is called does what the evaluator says. -/
def ActOk (P : Program) (E : Enc T) (act : Tgt → List (AV T) → Hp T → Tree (AV T × Hp T)) : Prop :=
  ∀ (lim : Nat) (M : Nat → Prop) (β : Nat → Option Hd) (hp : Hp T) (w : World) (tgt : Tgt) (as : List (AV T)) (vs : List Value) (K : AV T × Hp T → Prop), Now P E lim M β hp w → LR P E w M β as vs →
    (act tgt as hp).holds (fun r => r.2.next ≤ lim ∧ K r) →
    match tgt with
    | .fn f => CallOk P f ∧ Calls P f vs.toArray w (Post P E lim M β hp w K)
    | .yld id => ∀ h, β id = some h → ∀ n, ∃ fn tmps assign body, (Instr.yield h.block vs.toArray).run P w = .ok (.round h.block fn tmps assign body) w ∧ RoundIn (FR none) n P h.block fn tmps assign body w (Post P E lim M β hp w K)

section
variable {F : Fm} {M M' : Nat → Prop} {β β' : Nat → Option Hd} {st st' : St T} {a : Act} {w w' : World} {o : Oper} {K : Act → World → Prop} {Q : Exit → Act → World → Prop} {cl : Bool}

theorem tmAt_set (tm : Tr (AV T)) (d j : Nat) (v : AV T) : tmAt (tm.set d v) j = if j = d then v else tmAt tm j := by
  unfold tmAt
  rw [Tr.get_set]
  by_cases h : j = d
  · rw [if_pos h, if_pos h]
  · rw [if_neg h, if_neg h]

theorem TR.put {n : Nat} {tm : Tr (AV T)} (h : TR P E w M β n tm a.tmps) {r : AV T} {u : Value} (hv : RV P E w M β r u) (dst : Option Nat) (hp : Hp T) :
    TR P E w M β (put dst r hp ⟨n, tm, hp⟩).n (put dst r hp ⟨n, tm, hp⟩).tm (a.put dst u).tmps := by
  cases dst with
  | none => exact h
  | some d =>
    simp only [Cx.put, Act.put]
    cases hlt : Nat.blt d n with
    | true =>
      have hlt := bblt hlt
      simp only [cond_true]
      refine ⟨by simpa using h.1, fun j => ?_⟩
      rw [tmAt_set]
      by_cases hj : j = d
      · subst hj
        rw [if_pos rfl]
        have hs : j < a.tmps.size := by rw [← h.1]; exact hlt
        have : (a.tmps.setIfInBounds j u).getD j undef = u := by simp [Array.getD_eq_getD_getElem?, hs]
        rw [this]
        exact hv
      · rw [if_neg hj]
        have : (a.tmps.setIfInBounds d u).getD j undef = a.tmps.getD j undef := by
          simp only [Array.getD_eq_getD_getElem?]
          rw [Array.getElem?_setIfInBounds_ne (by omega)]
        rw [this]
        exact h.2 j
    | false =>
      simp only [cond_false]
      have hge : a.tmps.size ≤ d := by
        rw [← h.1]
        refine Nat.le_of_not_lt fun hc => ?_
        have : Nat.blt d n = true := by simp [Nat.blt]; omega
        rw [this] at hlt
        cases hlt
      have : a.tmps.setIfInBounds d u = a.tmps := Array.setIfInBounds_eq_of_size_le hge
      refine ⟨by simpa using h.1, fun j => ?_⟩
      rw [this]
      exact h.2 j

theorem put_hp (dst : Option Nat) (v : AV T) (hp : Hp T) (st : St T) : (put dst v hp st).hp = hp := by
  unfold put
  cases dst with
  | none => rfl
  | some d => simp only; cases Nat.blt d st.n <;> rfl
theorem put_defers (a : Act) (dst : Option Nat) (u : Value) : (a.put dst u).defers = a.defers := by cases dst <;> rfl
theorem put_eta (dst : Option Nat) (v : AV T) (hp : Hp T) (st : St T) : (put dst v hp st).n = (put dst v hp ⟨st.n, st.tm, hp⟩).n ∧ (put dst v hp st).tm = (put dst v hp ⟨st.n, st.tm, hp⟩).tm := by
  unfold put
  cases dst with
  | none => exact ⟨rfl, rfl⟩
  | some d => exact ⟨rfl, rfl⟩

theorem RelAt.stab (h : RelAt P E F M β st a w) {hp' : Hp T} (hS : Step P E F.lim M β st.hp w M' β' hp' w') : Stab w M β w' M' β' := hS.stab h.now

/-- A step of the world and the objects. -/
theorem RelAt.world (h : RelAt P E F M β st a w) {hp' : Hp T} (hS : Step P E F.lim M β st.hp w M' β' hp' w') : RelAt P E F M' β' ⟨st.n, st.tm, hp'⟩ a w' where
  defers := h.defers.keep fun D hD hM => by
    have hlt := (Array.getElem?_eq_some_iff.1 hD).1
    refine ⟨(hS.evo.old D hlt (fun ho => hM (h.now.heap.ownM D ho))).trans hD, fun hM' => ?_⟩
    rcases hS.evo.mutb D hM' with h1 | h1
    · exact hM h1
    · omega
  evo := h.evo.trans hS.evo h.nb0 (fun id hi => ⟨Nat.le_trans h.nle hi.1, hi.2⟩)
  nb0 := h.nb0
  now := hS.now
  tmps := h.tmps.stab (h.stab hS)
  rnd := fun p e => let ⟨h', h1, h2⟩ := h.rnd p e; ⟨h', hS.evo.hd _ _ h1, h2⟩
  nle := Nat.le_trans h.nle hS.mono

/-- And its value goes into a temporary. -/
theorem RelAt.step (h : RelAt P E F M β st a w) {hp' : Hp T} (hS : Step P E F.lim M β st.hp w M' β' hp' w') {r : AV T} {u : Value} (hv : RV P E w' M' β' r u) (dst : Option Nat) : RelAt P E F M' β' (put dst r hp' st) (a.put dst u) w' := by
  have hw := h.world hS
  obtain ⟨e1, e2⟩ := put_eta dst r hp' st
  refine ⟨by rw [put_defers]; exact hw.defers, by rw [put_hp]; exact hw.evo, hw.nb0, by rw [put_hp]; exact hw.now, ?_, hw.rnd, by rw [put_hp]; exact hw.nle⟩
  rw [e1, e2]
  exact hw.tmps.put hv dst hp'

theorem wpIn_of_wp {r : Option Nat} {n : Nat} {o : Oper} {a : Act} {w : World} {K : Act → World → Prop} {Q : Exit → Act → World → Prop} (hd : ∀ c, o.op ≠ .defer c) (h : o.wp P a w K Q) : o.wpIn (FR r) n P a w K Q := by
  refine ⟨fun _ _ => trivial, ?_⟩
  rw [Oper.semAt_eq _ _ _ hd]
  unfold Oper.wp at h
  generalize (execOp a.eval o).run P w = res at *
  cases res with
  | ok x w' =>
    cases x with
    | value v => exact h
    | skip => exact h
    | defer d => exact h
    | enter f args => exact ⟨fun h => (by cases h), (callsIn_wide (n := n - 1)).2 h⟩
    | row row args => exact ⟨fun h => (by cases h), fun c cs _ => let ⟨v, w1, r1, s⟩ := h c cs; ⟨v, w1, r1, stepsIn_wide.2 s⟩⟩
    | round l f tmps assign body => exact h.elim
    | _ => exact h.elim
  | halt x w' => cases x <;> first | exact h | exact h.elim

theorem wpIn_of_value {r : Option Nat} {n : Nat} {u : Value} (hd : ∀ c, o.op ≠ .defer c) (h : (execOp a.eval o).run P w = .ok (.value u) w') (hk : K (a.put o.dst u) w') : o.wpIn (FR r) n P a w K Q :=
  wpIn_of_wp hd (by unfold Oper.wp; rw [h]; exact hk)
theorem wpIn_of_skip {r : Option Nat} {n : Nat} (hd : ∀ c, o.op ≠ .defer c) (h : (execOp a.eval o).run P w = .ok .skip w') (hk : K (a.put o.dst undef) w') : o.wpIn (FR r) n P a w K Q :=
  wpIn_of_wp hd (by unfold Oper.wp; rw [h]; exact hk)

theorem args_rv {n : Nat} {tm : Tr (AV T)} (ht : TR P E w M β n tm a.tmps) (args : Array Operand) : LR P E w M β (args.toList.map (ev tm)) (args.map a.eval).toList := by
  have := LR.map (w := w) (M := M) (β := β) (fun x : Operand => ev_rv (P := P) (E := E) ht x) args.toList
  simpa using this

theorem minMax_runs {mx : Bool} {as : List (AV T)} {vs : List Value} {r : AV T} (h : LR P E w M β as vs) (hm : minMax mx as = some r) :
    ∃ u, ((if mx then Builtin.max_ else Builtin.min_) #[] 0 vs.toArray).run P w = .ok u w ∧ RV P E w M β r u ∧ ∀ ts t, (if mx then Builtin.max_ else Builtin.min_) ts t vs.toArray = (if mx then Builtin.max_ else Builtin.min_) #[] 0 vs.toArray := by
  unfold minMax at hm
  split at hm
  · rename_i k a k' b
    cases hk : decide (k = k') with
    | false => simp only [hk, cond_false] at hm; cases hm
    | true =>
      simp only [hk, cond_true, Option.some.injEq] at hm
      have hk' : k = k' := of_decide_eq_true hk
      subst hk'; subst hm
      obtain ⟨hl, hrv⟩ := h
      match vs, hl with
      | [v1, v2], _ =>
        have h1 := hrv 0 _ v1 rfl rfl
        have h2 := hrv 1 _ v2 rfl rfl
        cases h1; cases h2
        cases mx
        · refine ⟨.int k (if b < a then b else a), by simp [Builtin.min_, Builtin.min2], .int, fun _ _ => rfl⟩
        · refine ⟨.int k (if b > a then b else a), by simp [Builtin.max_, Builtin.max2], .int, fun _ _ => rfl⟩
  · cases hm

theorem minMaxO_runs {mx : Bool} {as : List (AV T)} {vs : List Value} {r : AV T} (h : LR P E w M β as vs) (hm : minMaxO mx as = some r) :
    ∃ u, ((if mx then Builtin.max_ else Builtin.min_) #[] 0 vs.toArray).run P w = .ok u w ∧ RV P E w M β r u ∧ ∀ ts t, (if mx then Builtin.max_ else Builtin.min_) ts t vs.toArray = (if mx then Builtin.max_ else Builtin.min_) #[] 0 vs.toArray := by
  unfold minMaxO at hm
  cases ho : as.any isOp1 with
  | true =>
    rw [ho] at hm
    obtain ⟨r', h1, rfl⟩ := Option.map_eq_some_iff.1 hm
    have hl : LR P E w M β (as.map deI1) vs := ⟨by simpa using h.1, fun j c v hc hv => by
      rw [List.getElem?_map, Option.map_eq_some_iff] at hc
      obtain ⟨d, hd, rfl⟩ := hc
      exact (h.2 j d v hd hv).deI1⟩
    obtain ⟨u, h2, h3, h4⟩ := minMax_runs hl h1
    exact ⟨u, h2, h3.opn, h4⟩
  | false => rw [ho] at hm; exact minMax_runs h hm

theorem run_callFunc {f : Nat} (hok : CallOk P f) (args : Array Value) (w : World) : (callFunc f args).run P w = .ok (.enter f args) w := by
  obtain ⟨fn, h1, h2, h3⟩ := hok
  simp only [callFunc, Sem.run_bind, run_program, Result.andThen_ok, h1, h2, h3, Bool.false_eq_true, if_false, Sem.run_pure]

/-- One operation, as the evaluator has it: what it gives, and what becomes of the objects. -/
theorem vop_sound (hE : E.Good P) {act : Tgt → List (AV T) → Hp T → Tree (AV T × Hp T)} (hA : ActOk P E act) {r : Option Nat} {n : Nat} {lim : Nat} {hp : Hp T} {ft : Nat} {tm : Tr (AV T)} (hN : Now P E lim M β hp w) (ht : TR P E w M β ft tm a.tmps)
    (h : (vop P E cl act tm hp o).holds fun rv => rv.2.next ≤ lim ∧ ∀ (u : Value) (M' : Nat → Prop) (β' : Nat → Option Hd) (w' : World), Step P E lim M β hp w M' β' rv.2 w' → RV P E w' M' β' rv.1 u → K (a.put o.dst u) w') : o.wpIn (FR r) n P a w K Q := by
  let KK : AV T × Hp T → Prop := fun rv => ∀ (u : Value) (M' : Nat → Prop) (β' : Nat → Option Hd) (w' : World), Step P E lim M β hp w M' β' rv.2 w' → RV P E w' M' β' rv.1 u → K (a.put o.dst u) w'
  replace h : (vop P E cl act tm hp o).holds fun rv => rv.2.next ≤ lim ∧ KK rv := h
  have R := fun x => ev_rv (P := P) (E := E) (w := w) (M := M) (β := β) ht x
  -- a value, and nothing else
  have val : ∀ {t : Tree (AV T)} {s : (AV T → Prop) → Prop}, (pu hp t).holds (fun rv => rv.2.next ≤ lim ∧ KK rv) → (t.holds (fun v => KK (v, hp))) := by
    intro t s h
    exact Tree.holds_mono (fun v hv => hv.2) (Tree.holds_bind.1 h)
  have fin : ∀ {u : Value} {rv : AV T}, (∀ c, o.op ≠ .defer c) → (execOp a.eval o).run P w = .ok (.value u) w → RV P E w M β rv u → KK (rv, hp) → o.wpIn (FR r) n P a w K Q :=
    fun hd h1 h2 h3 => wpIn_of_value hd h1 (h3 _ M β w (Step.refl hN) h2)
  have does : ∀ {s : Sem Value}, (∀ c, o.op ≠ .defer c) → (∀ u w', s.run P w = .ok u w' → (execOp a.eval o).run P w = .ok (.value u) w') → Does P E lim M β hp w s KK → o.wpIn (FR r) n P a w K Q := by
    rintro s hd he ⟨u, w', M', β', rv, h1, h2, h3, h4⟩
    exact wpIn_of_value hd (he u w' h1) (h4 u M' β' w' h2 h3)
  obtain ⟨dst, op, type, pos, after, guard⟩ := o
  cases op <;> simp only [vop] at h <;> try exact h.elim
  case move x => exact fin (by simp) (by simp [execOp]) (R x) h.2
  case assign x => exact fin (by simp) (by simp [execOp]) (R x) h.2
  case pick c x y =>
    obtain ⟨b, rv, hb, hv, hk⟩ := pick_runs (R c) (R x) (R y) (val (s := fun _ => True) h)
    exact fin (by simp) (by simp [execOp, hb, asBool]) hv hk
  case load t x =>
    obtain ⟨ad, u, rv, hb, hu, hv, hk⟩ := loadO_runs hE hN.heap (R x) (val (s := fun _ => True) h)
    exact fin (by simp) (by simp [execOp, Instr.loadAt, hb, Instr.sureAddr, hu]) hv hk
  case fieldAddr s x f =>
    obtain ⟨u, rv, hu, hv, hk⟩ := fieldAddrO_runs (R x) (val (s := fun _ => True) h)
    exact fin (by simp) (by simp [execOp, hu]) hv hk
  case field t x f =>
    obtain ⟨u, rv, hu, hv, hk⟩ := field_runs (R x) (val (s := fun _ => True) h)
    exact fin (by simp) (by simp [execOp, hu]) hv hk
  case indexAddr t x ix =>
    obtain ⟨u, rv, hu, hv, hk⟩ := indexAddrO_runs hE (R x) (R ix) (val (s := fun _ => True) h)
    exact fin (by simp) (by simp [execOp, hu]) hv hk
  case index t x ix =>
    obtain ⟨u, rv, hu, hv, hk⟩ := indexO_runs (R x) (R ix) (val (s := fun _ => True) h)
    exact fin (by simp) (by simp [execOp, hu]) hv hk
  case binOp op t x y yt =>
    obtain ⟨u, rv, hu, hv, hk⟩ := binO_runs hE (R x) (R y) (val (s := fun _ => True) h) (xo := x) (yo := y)
    refine fin (by simp) ?_ hv hk
    simp only [execOp, Sem.run_bind] at hu ⊢
    rw [hu]
    rfl
  case unOp op t x =>
    obtain ⟨u, rv, hu, hv, hk⟩ := un_runs (R x) (val (s := fun _ => True) h)
    exact fin (by simp) (by simp [execOp, hu]) hv hk
  case convert src dst' x =>
    obtain ⟨u, rv, hu, hv, hk⟩ := convert_runs (R x) (val (s := fun _ => True) h)
    exact fin (by simp) (by simp [execOp, hu]) hv hk
  case nilCheck x =>
    obtain ⟨u, rv, hu, hv, hk⟩ := nil_runs (o := ⟨dst, .nilCheck x, type, pos, after, guard⟩) (ρ := a.eval) rfl rfl (R x) (val (s := fun _ => True) h)
    exact fin (by simp) hu hv hk
  case build t parts =>
    obtain ⟨u, rv, hu, hv, hk⟩ := build_runs (vparts := parts.map fun (i, x) => (i, a.eval x)) (by simp) (by
      have := LR.map (w := w) (M := M) (β := β) (fun x : Nat × Operand => R x.2) parts.toList
      simpa [List.map_map, Function.comp_def] using this) (val (s := fun _ => True) h)
    exact fin (by simp) (by simp [execOp, hu]) hv hk
  case buildSlice t len parts =>
    exact does (by simp) (fun u w' hu => by simp [execOp, hu]) (buildSlice_runs hN (vparts := parts.map fun (i, x) => (i, a.eval x)) (by simp) (by
      have := LR.map (w := w) (M := M) (β := β) (fun x : Nat × Operand => R x.2) parts.toList
      simpa [List.map_map, Function.comp_def] using this) h)
  case extract x i =>
    obtain ⟨u, rv, hu, hv, hk⟩ := extract_runs (R x) (val (s := fun _ => True) h)
    exact fin (by simp) (by simp [execOp, hu]) hv hk
  case makeInterface t x =>
    obtain ⟨u, rv, hu, hv, hk⟩ := makeI_runs (R x) (val (s := fun _ => True) h)
    exact fin (by simp) (by simp [execOp, hu]) hv hk
  case typeAssert x xt t ok =>
    obtain ⟨u, rv, hu, hv, hk⟩ := assert_runs (xt := xt) (R x) (val (s := fun _ => True) h)
    exact fin (by simp) (by simp [execOp, hu]) hv hk
  case makeFunc fn first caps =>
    cases fn <;> simp only at h <;> try exact h.elim
    rename_i f
    have hl := args_rv ht caps
    have hl1 := args_rv ht first
    cases hb : Nat.beq first.size 0 with
    | true =>
      simp only [hb, cond_true] at h
      have hz : first = #[] := Array.eq_empty_of_size_eq_zero (bbeq hb)
      subst hz
      exact fin (u := .func (.func f) #[] (caps.map a.eval)) (by simp) (by simp [execOp, Instr.makeFunc]) (.fn (by simp) fun j c v hc hv => hl.2 j c v hc (by simpa using hv)) h.2
    | false =>
      simp only [hb, cond_false] at h
      exact fin (u := .func (.func f) (first.map a.eval) (caps.map a.eval)) (by simp) (by simp [execOp, Instr.makeFunc]) (.mfn (by simp) (fun j c v hc hv => hl1.2 j c v hc (by simpa using hv)) (by simp) fun j c v hc hv => hl.2 j c v hc (by simpa using hv)) h.2
  case slice t x lo hi mx =>
    obtain ⟨u, rv, hu, hv, hk⟩ := sliceO_runs (vlo := lo.map a.eval) (vhi := hi.map a.eval) (vmx := mx.map a.eval) (R x)
      (fun y hy => by obtain ⟨z, hz, rfl⟩ := Option.map_eq_some_iff.1 hy; exact ⟨a.eval z, by simp [hz], R z⟩)
      (fun y hy => by obtain ⟨z, hz, rfl⟩ := Option.map_eq_some_iff.1 hy; exact ⟨a.eval z, by simp [hz], R z⟩)
      (fun y hy => by obtain ⟨z, hz, rfl⟩ := Option.map_eq_some_iff.1 hy; exact ⟨a.eval z, by simp [hz], R z⟩)
      (fun h => by simpa using h) (fun h => by simpa using h) (fun h => by simpa using h) (val (s := fun _ => True) h)
    exact fin (by simp) (by simp [execOp, hu]) hv hk
  case box t x => exact does (by simp) (fun u w' hu => by simp [execOp, hu]) (box_runs hN (el := t) (R x) h)
  case alloc t => exact does (by simp) (fun u w' hu => by simp [execOp, hu]) (alloc_runs hN h)
  case makeSlice t x y => exact does (by simp) (fun u w' hu => by simp [execOp, hu]) (makeO_runs hE hN (R x) (R y) h)
  case store t x y =>
    obtain ⟨w', M', β', hp', h1, h2, h4⟩ := storeO_runs hE hN (R x) (R y) h
    exact wpIn_of_skip (by simp) (by simp [execOp, h1]) (h4 undef M' β' w' h2 .any)
  case call c =>
    obtain ⟨callee, args, tys⟩ := c
    cases callee with
    | invoke rc m =>
      simp only [vcall] at h
      have Rr := R rc
      split at h
      · rename_i t c hfe
        rw [hfe] at Rr
        generalize hv : a.eval rc = vr at *
        cases Rr with
        | ifc hc =>
          rename_i v
          split at h
          · rename_i f hm
            have hL : LR P E w M β (c :: args.toList.map (ev tm)) (v :: (args.map a.eval).toList) := .cons hc (args_rv ht args)
            obtain ⟨hok, hcc⟩ := hA lim M β hp w (.fn f) _ _ _ hN hL h
            have e : (v :: (args.map a.eval).toList).toArray = #[v] ++ args.map a.eval := by
              apply Array.ext'
              simp
            rw [e] at hcc
            have hme := method_runs (w := w) hm v (P.types.size + Made.depth - 1)
            have hpos : P.types.size + Made.depth - 1 + 1 = P.types.size + Made.depth := by
              have : 0 < Made.depth := by decide
              omega
            rw [hpos] at hme
            have hex : (#[Value.iface t v] ++ args.map a.eval).extract 1 (#[Value.iface t v] ++ args.map a.eval).size = args.map a.eval := by
              apply Array.ext'
              simp
              exact List.take_of_length_le (by simp)
            have h0 : (#[Value.iface t v] ++ args.map a.eval)[0]? = some (.iface t v) := by simp [Array.getElem?_append]
            have hrun : (execOp a.eval ⟨dst, .call ⟨.invoke rc m, args, tys⟩, type, pos, after, guard⟩).run P w = .ok (.enter f (#[v] ++ args.map a.eval)) w := by
              simp only [execOp, resolve, hv, Go.invoke, Sem.run_bind, Sem.run_pure, Result.andThen_ok, h0, callMethod, run_program, hme, hex, run_callFunc hok]
            refine wpIn_of_wp (by simp) ?_
            unfold Oper.wp
            rw [hrun, Oper.upon_enter]
            refine hcc.mono fun en w' hp => ?_
            obtain ⟨u, M', β', rv, he, hS, hrv, hk⟩ := hp
            subst he
            exact hk u M' β' w' hS hrv
          · exact h.elim
      · exact h.elim
    | builtin b =>
      cases b <;> simp only [vcall] at h <;> try exact h.elim
      case len =>
        split at h
        · rename_i x t hx ht'
          split at h
          · rename_i k hl
            have hq := holds_bif h; clear h; obtain ⟨hok, h⟩ := hq
            have e1 : args = #[x] := by cases args; simp_all
            have e2 : tys = #[t] := by cases tys; simp_all
            subst e1; subst e2
            have := len_runs (ty := type) (R x) hl hok
            exact fin (u := .int .i64 k) (by simp) (by simp [execOp, resolve, invoke, builtin, this]) (by cases isSl (ev tm x) || isLs (ev tm x) <;> constructor) h.2
          · exact h.elim
        · exact h.elim
      case cap =>
        split at h
        · rename_i x t hx ht'
          have e1 : args = #[x] := by cases args; simp_all
          have e2 : tys = #[t] := by cases tys; simp_all
          subst e1; subst e2
          have Rx := R x
          split at h
          · rename_i e id sz off len c hu he
            rw [he] at Rx
            generalize hv : a.eval x = v at Rx
            cases Rx with
            | sc hβ h2 h3 h4 =>
              obtain rfl := h3 _ rfl
              exact fin (u := .int .i64 _) (by simp) (by simp [execOp, resolve, invoke, builtin, hv, Builtin.cap_, run_underlying hu, goInt]) .int h.2
          · rename_i e hu he
            rw [he] at Rx
            generalize hv : a.eval x = v at Rx
            cases Rx
            exact fin (u := .int .i64 0) (by simp) (by simp [execOp, resolve, invoke, builtin, hv, Builtin.cap_, run_underlying hu, goInt]) .int h.2
          · rename_i e hu he
            rw [he] at Rx
            generalize hv : a.eval x = v at Rx
            cases Rx
            exact fin (u := .int .i64 0) (by simp) (by simp [execOp, resolve, invoke, builtin, hv, Builtin.cap_, run_underlying hu, goInt]) .int h.2
          · exact h.elim
        · exact h.elim
      case max =>
        obtain ⟨rv, hm, hk⟩ := Tree.holds_ofOption (val (s := fun _ => True) h)
        obtain ⟨u, h1, h2, h3⟩ := minMaxO_runs (mx := true) (args_rv ht args) hm
        simp only [if_true, Array.toArray_toList] at h1 h3
        exact fin (by simp) (by simp [execOp, resolve, invoke, builtin, h3, h1]) h2 hk
      case min =>
        obtain ⟨rv, hm, hk⟩ := Tree.holds_ofOption (val (s := fun _ => True) h)
        obtain ⟨u, h1, h2, h3⟩ := minMaxO_runs (mx := false) (args_rv ht args) hm
        simp only [Bool.false_eq_true, if_false, Array.toArray_toList] at h1 h3
        exact fin (by simp) (by simp [execOp, resolve, invoke, builtin, h3, h1]) h2 hk
      case append =>
        split at h
        · rename_i s x hargs
          have : args = #[s, x] := by cases args; simp_all
          subst this
          obtain ⟨t, ht, hd⟩ := appendF_runs (ty := type) hE hN (R s) (R x) h
          have : tys = #[t, t] := by cases tys; simp_all
          subst this
          exact does (by simp) (fun u w' hu => by simp [execOp, resolve, invoke, builtin, hu]) hd
        · exact h.elim
      case copy =>
        split at h
        · rename_i s x hargs
          have : args = #[s, x] := by cases args; simp_all
          subst this
          have hd := copy_runs (ty := type) hN (R s) (R x) h
          rw [Array.toArray_toList] at hd
          exact does (by simp) (fun u w' hu => by simp [execOp, resolve, invoke, builtin, hu]) hd
        · exact h.elim
      case clear =>
        split at h
        · rename_i x hargs
          have : args = #[x] := by cases args; simp_all
          subst this
          have hd := clear_runs (ty := type) hN (R x) h
          rw [Array.toArray_toList] at hd
          exact does (by simp) (fun u w' hu => by simp [execOp, resolve, invoke, builtin, hu]) hd
        · exact h.elim
    | value fo =>
      simp only [vcall] at h
      have Rf := R fo
      split at h
      · rename_i f caps hfe
        rw [hfe] at Rf
        generalize hv : a.eval fo = vf at *
        cases Rf with
        | fn hl2 hr2 =>
          rename_i vs
          have hL := (args_rv ht args).append (LR.of_array hl2 hr2)
          obtain ⟨hok, hc⟩ := hA lim M β hp w (.fn f) _ _ _ hN hL h
          have e : ((args.map a.eval).toList ++ vs.toList).toArray = args.map a.eval ++ vs := by
            apply Array.ext'
            simp
          rw [e] at hc
          have hrun : (execOp a.eval ⟨dst, .call ⟨.value fo, args, tys⟩, type, pos, after, guard⟩).run P w = .ok (.enter f (args.map a.eval ++ vs)) w := by
            simp [execOp, resolve, hv, Deferred.ofValue, invoke, run_callFunc hok]
          refine wpIn_of_wp (by simp) ?_
          unfold Oper.wp
          rw [hrun, Oper.upon_enter]
          refine hc.mono fun en w' hp => ?_
          obtain ⟨u, M', β', rv, he, hS, hrv, hk⟩ := hp
          subst he
          exact hk u M' β' w' hS hrv
      · rename_i f first caps hfe
        rw [hfe] at Rf
        generalize hv : a.eval fo = vf at *
        cases Rf with
        | mfn hl1 hr1 hl2 hr2 =>
          rename_i us vs
          have hL := ((LR.of_array hl1 hr1).append (args_rv ht args)).append (LR.of_array hl2 hr2)
          obtain ⟨hok, hc⟩ := hA lim M β hp w (.fn f) _ _ _ hN hL h
          have e : ((us.toList ++ (args.map a.eval).toList) ++ vs.toList).toArray = (us ++ args.map a.eval) ++ vs := by
            apply Array.ext'
            simp
          rw [e] at hc
          have hrun : (execOp a.eval ⟨dst, .call ⟨.value fo, args, tys⟩, type, pos, after, guard⟩).run P w = .ok (.enter f ((us ++ args.map a.eval) ++ vs)) w := by
            simp [execOp, resolve, hv, Deferred.ofValue, invoke, run_callFunc hok]
          refine wpIn_of_wp (by simp) ?_
          unfold Oper.wp
          rw [hrun, Oper.upon_enter]
          refine hc.mono fun en w' hp => ?_
          obtain ⟨u, M', β', rv, he, hS, hrv, hk⟩ := hp
          subst he
          exact hk u M' β' w' hS hrv
      · rename_i id hfe
        rw [hfe] at Rf
        generalize hv : a.eval fo = vf at *
        cases Rf with
        | yld hβ =>
          rename_i hd
          obtain ⟨fn, tmps, assign, body, hy, hround⟩ := hA lim M β hp w (.yld id) _ _ _ hN (args_rv ht args) h hd hβ (n - 1)
          rw [Array.toArray_toList] at hy
          have hrun : (execOp a.eval ⟨dst, .call ⟨.value fo, args, tys⟩, type, pos, after, guard⟩).run P w = .ok (.round hd.block fn tmps assign body) w := by
            simp [execOp, resolve, hv, Deferred.ofValue, invoke, hy]
          refine ⟨fun _ _ => trivial, ?_⟩
          rw [Oper.semAt_eq _ _ _ (by simp), hrun, Oper.uponIn_round]
          refine ⟨fun h => (by cases h), ?_⟩
          refine (RoundIn.mono hround fun en w' hp => ?_ : RoundIn (FR none) (n - 1) P hd.block fn tmps assign body w _)
          obtain ⟨u, M', β', rv, he, hS, hrv, hk⟩ := hp
          subst he
          exact hk u M' β' w' hS hrv
      · exact h.elim

/-- One operation, and its value in its place. -/
theorem xop_sound (hE : E.Good P) {act : Tgt → List (AV T) → Hp T → Tree (AV T × Hp T)} (hA : ActOk P E act) {r : Option Nat} {n : Nat} (hR : Rel P E F st a w)
    (h : (xop P E cl act o st).holds fun st' => st'.hp.next ≤ F.lim ∧ ∀ a' w', Rel P E F st' a' w' → K a' w') : o.wpIn (FR r) n P a w K Q := by
  obtain ⟨M, β, hR⟩ := hR
  refine vop_sound hE hA hR.now hR.tmps (Tree.holds_mono (fun rv hrv => ?_) (Tree.holds_bind.1 h))
  rw [putT_eq] at hrv
  have hrv : (put o.dst rv.1 rv.2 st).hp.next ≤ F.lim ∧ _ := hrv
  rw [put_hp] at hrv
  exact ⟨hrv.1, fun u M' β' w' hS hv => hrv.2 _ _ ⟨M', β', hR.step hS hv o.dst⟩⟩
end
end Go.Cx
