/- The evaluator: the evaluator of code. No condition. -/
import Derived.Test.YtmnhfjhlfgebiaaCxL
set_option linter.unusedVariables false
noncomputable section
namespace Go.Cx
open Go.RowKit
variable {T : Nat → Type} {P : Program} {E : Enc T}

/-! What is not named in the log is as it was; names only grow. -/
def Gr (hp hp' : Hp T) : Prop := hp.next ≤ hp'.next ∧ ∃ l, hp'.log = l ++ hp.log ∧ (∀ id, id ∉ l → hp'.get id = hp.get id) ∧ ∀ id ∈ l, (hp.get id ≠ none ∨ (hp.next ≤ id ∧ id < hp'.next)) ∧ hp'.get id ≠ none
theorem Gr.refl {hp : Hp T} : Gr hp hp := ⟨Nat.le_refl _, [], rfl, fun _ _ => rfl, fun id h => by cases h⟩
theorem Gr.keep {a b : Hp T} (h : Gr a b) {id : Nat} (hid : a.get id ≠ none) : b.get id ≠ none := by
  obtain ⟨_, l, _, h2, h3⟩ := h
  by_cases hm : id ∈ l
  · exact (h3 id hm).2
  · rw [h2 id hm]; exact hid
theorem Gr.trans {a b c : Hp T} (h : Gr a b) (k : Gr b c) : Gr a c := by
  have hk := fun id => k.keep (id := id)
  obtain ⟨h1, l1, h2, h3, h4⟩ := h
  obtain ⟨k1, l2, k2, k3, k4⟩ := k
  refine ⟨Nat.le_trans h1 k1, l2 ++ l1, by rw [k2, h2, List.append_assoc], fun id hid => ?_, fun id hid => ?_⟩
  · rw [List.mem_append, not_or] at hid
    exact (k3 id hid.1).trans (h3 id hid.2)
  · by_cases hm : id ∈ l1
    · obtain ⟨q1, q2⟩ := h4 id hm
      refine ⟨?_, hk id q2⟩
      rcases q1 with q1 | q1
      · exact .inl q1
      · exact .inr ⟨q1.1, by omega⟩
    · have hm2 : id ∈ l2 := by
        rcases List.mem_append.1 hid with h | h
        · exact h
        · exact absurd h hm
      obtain ⟨q1, q2⟩ := k4 id hm2
      refine ⟨?_, q2⟩
      rcases q1 with q1 | q1
      · rw [h3 id hm] at q1
        exact .inl q1
      · exact .inr ⟨by omega, q1.2⟩
theorem Gr.put {hp : Hp T} {id : Nat} {o : AO T} (hid : hp.get id ≠ none) : Gr hp (hp.put id o) :=
  ⟨Nat.le_refl _, [id], rfl, fun k hk => by rw [Hp.get_put, if_neg (by simpa using hk)], fun k hk => by
    have : k = id := by simpa using hk
    subst this
    exact ⟨.inl hid, by rw [Hp.get_put, if_pos rfl]; simp⟩⟩
theorem Gr.new {hp : Hp T} {o : AO T} : Gr hp (hp.new o) :=
  ⟨Nat.le_succ _, [hp.next], rfl, fun k hk => by rw [Hp.get_new, if_neg (by simpa using hk)], fun k hk => by
    have : k = hp.next := by simpa using hk
    subst this
    exact ⟨.inr ⟨Nat.le_refl _, Nat.lt_succ_self _⟩, by rw [Hp.get_new, if_pos rfl]; simp⟩⟩

section
variable {α : Type} {Q : α → Prop}
theorem every_fail : (Tree.fail : Tree α).every Q := trivial
theorem every_bif {b : Bool} {t f : Tree α} (h1 : t.every Q) (h2 : f.every Q) : (bif b then t else f).every Q := by cases b <;> assumption
end

def ActGr (act : Tgt → List (AV T) → Hp T → Tree (AV T × Hp T)) : Prop := ∀ tgt as hp, (act tgt as hp).every fun r => Gr hp r.2

section
variable {hp : Hp T} {cl : Bool}
theorem pu_every {t : Tree (AV T)} : (pu hp t).every fun r => Gr hp r.2 := by
  unfold pu
  refine Tree.every_bind ?_
  have : ∀ (t : Tree (AV T)), t.every fun v => (Tree.leaf (v, hp) : Tree (AV T × Hp T)).every fun r => Gr hp r.2 := by
    intro t
    induction t with
    | fail => trivial
    | leaf a => exact Gr.refl
    | br b t f h1 h2 => exact ⟨h1, h2⟩
    | req p t h => exact h
    | amb t f h1 h2 => exact ⟨h1, h2⟩
  exact this t

theorem wrObj_every {id off : Nat} {vs : List (AV T)} : (wrObj hp id off vs).every fun r => Gr hp r := by
  unfold wrObj
  refine every_bif ?_ trivial
  split
  · rename_i h
    exact every_bif (Gr.put (by rw [h]; simp)) trivial
  · rename_i h
    split
    · rename_i hf
      exact every_bif ((Gr.put (by rw [h]; simp)).trans (Gr.put ((Gr.put (by rw [h]; simp)).keep (by rw [hf]; simp)))) trivial
    · trivial
  · trivial

theorem bind_every {β γ : Type} {t : Tree β} {k : β → Tree γ} {R : β → Prop} {Q : γ → Prop} (h : t.every R) (hk : ∀ b, R b → (k b).every Q) : (t.bind k).every Q := Tree.every_bind (Tree.every_mono hk h)

theorem newGrow_every {sz len : Nat} {cs : List (AV T)} : (newGrow hp sz cs len).every fun r => Gr hp r.2 := Gr.new.trans Gr.new

theorem append_every {tys : List TypeId} {s x : AV T} : (iopAppend P cl hp tys s x).every fun r => Gr hp r.2 := by
  unfold iopAppend
  split
  case h_2 => trivial
  split
  case h_2 => trivial
  refine every_bif ?_ trivial
  split
  · trivial
  refine every_bif ?_ trivial
  split
  · split
    · exact Gr.refl
    · exact every_bif newGrow_every trivial
  · split
    · exact Gr.refl
    · exact every_bif newGrow_every trivial
  · split
    · exact Gr.refl
    · try dsimp only
      refine every_bif ?_ trivial
      split
      · trivial
      refine every_bif ?_ trivial
      split
      · exact Tree.every_ite' (bind_every wrObj_every fun b hb => hb) newGrow_every
      · split
        · refine every_bif (bind_every wrObj_every fun b hb => hb) (every_bif ?_ trivial)
          split
          · rename_i hf
            exact every_bif (Gr.new.trans (Gr.put (Gr.new.keep (by rw [hf]; simp)))) trivial
          · trivial
        · trivial
  · trivial

theorem newL_every {τ : Nat} {l xs : List (T τ)} : (newL hp τ l xs).every fun r => Gr hp r.2 := Gr.new
theorem appL_every {τ : Nat} {s : AV T} {xs : List (T τ)} : (appL hp τ s xs).every fun r => Gr hp r.2 := by
  unfold appL
  split
  · exact newL_every
  · exact newL_every
  · exact newL_every
  · rename_i id τ' len
    split
    · rename_i hget
      split
      · refine every_bif ?_ trivial
        exact Tree.every_mono (fun r h => Gr.trans (Gr.put (by rw [hget]; simp)) h) newL_every
      · trivial
    · trivial
  · split
    · exact every_bif newL_every trivial
    · trivial
  · trivial
theorem srcL_every {τ : Nat} {x : AV T} {k : List (T τ) → Tree (AV T × Hp T)} (hk : ∀ l, (k l).every fun r => Gr hp r.2) : (srcL P E hp τ x k).every fun r => Gr hp r.2 := by
  unfold srcL
  split
  · exact hk _
  · split
    · split
      · exact every_bif (hk _) trivial
      · trivial
    · trivial
  · refine every_bif (hk _) ?_
    split
    · refine every_bif ?_ trivial
      split
      · exact hk _
      · trivial
    · trivial
  · split
    · exact hk _
    · trivial
theorem appendO_every {tys : List TypeId} {s x : AV T} : (iopAppendO P E cl hp tys s x).every fun r => Gr hp r.2 := by
  unfold iopAppendO
  refine every_bif ?_ append_every
  split
  · split
    · refine every_bif ?_ trivial
      exact srcL_every fun _ => appL_every
    · trivial
  · trivial
theorem frzT_every {b : Bool} {t : Tree (AV T × Hp T)} (h : t.every fun r => Gr hp r.2) : (frzT b t).every fun r => Gr hp r.2 := by
  cases b with
  | false => exact h
  | true =>
    refine bind_every h fun r hr => ?_
    unfold frzLeaf
    split
    · split
      · rename_i hget
        split
        · exact hr.trans (Gr.put (by rw [hget]; simp))
        · trivial
      · trivial
    · trivial
theorem storeO_every {t : TypeId} {a v : AV T} : (iopStoreO P E hp t a v).every fun r => Gr hp r.2 := by
  unfold iopStoreO
  split
  · split
    · rename_i hget _
      refine every_bif ?_ trivial
      split
      · exact Gr.put (by rw [hget]; simp)
      · trivial
    · trivial
  · unfold iopStore
    split
    · exact every_bif (bind_every wrObj_every fun b hb => hb) trivial
    · trivial
theorem makeO_every {t : TypeId} {n c : AV T} : (iopMakeO P E cl hp t n c).every fun r => Gr hp r.2 := by
  unfold iopMakeO
  refine every_bif ?_ ?_
  · split
    · split
      · refine every_bif ?_ trivial
        split
        · exact Gr.new
        · trivial
      · trivial
    · trivial
  · unfold iopMake
    split
    · split
      · refine every_bif (Tree.every_chk ?_) trivial
        exact Gr.new
      · trivial
    · trivial
theorem copy_every {tys : List TypeId} {s x : AV T} : (iopCopy P hp tys s x).every fun r => Gr hp r.2 := by
  unfold iopCopy
  split
  case h_2 => trivial
  split
  case h_2 => trivial
  refine every_bif trivial ?_
  split
  · refine every_bif ?_ trivial
    try dsimp only
    split
    · exact Gr.refl
    · exact bind_every wrObj_every fun b hb => hb
  · trivial

theorem clear_every {tys : List TypeId} {x : AV T} : (iopClear P hp tys x).every fun r => Gr hp r.2 := by
  unfold iopClear
  split
  case h_2 => trivial
  split
  case h_2 => trivial
  split
  case h_2 => trivial
  split
  · exact Gr.refl
  · exact Gr.refl
  · exact Gr.refl
  · split
    · exact Gr.refl
    · exact bind_every wrObj_every fun b hb => hb
  · trivial

theorem vcall_every {act : Tgt → List (AV T) → Hp T → Tree (AV T × Hp T)} (hA : ActGr act) {tm : Tr (AV T)} {c : Call} : (vcall P E cl act tm hp c).every fun r => Gr hp r.2 := by
  unfold vcall
  split
  · split
    · exact hA _ _ _
    · exact hA _ _ _
    · exact hA _ _ _
    · trivial
  · split
    · split
      · exact hA _ _ _
      · trivial
    · trivial
  · split
    · split
      · exact every_bif Gr.refl trivial
      · trivial
    · trivial
  · split
    · split
      · exact Gr.refl
      · exact Gr.refl
      · exact Gr.refl
      · trivial
    · trivial
  · exact pu_every
  · exact pu_every
  · split
    · exact frzT_every appendO_every
    · trivial
  · split
    · exact copy_every
    · trivial
  · split
    · exact clear_every
    · trivial
  · trivial

theorem vop_every {act : Tgt → List (AV T) → Hp T → Tree (AV T × Hp T)} (hA : ActGr act) {tm : Tr (AV T)} {o : Oper} : (vop P E cl act tm hp o).every fun r => Gr hp r.2 := by
  unfold vop
  split
  case h_14 =>
    unfold iopBuildSlice
    split
    · split
      · refine every_bif ?_ trivial
        split
        · exact Gr.new
        · trivial
      · trivial
    · trivial
  case h_18 =>
    unfold iopBox
    split
    · exact Gr.new
    · trivial
  case h_19 =>
    unfold iopAlloc
    split
    · exact Gr.new
    · trivial
  case h_20 => exact storeO_every
  case h_21 => exact makeO_every
  case h_22 => exact vcall_every hA
  all_goals first
    | exact Gr.refl
    | exact pu_every
    | exact every_bif Gr.refl trivial
    | exact every_bif Gr.refl Gr.refl
    | trivial

theorem xop_every {act : Tgt → List (AV T) → Hp T → Tree (AV T × Hp T)} (hA : ActGr act) {o : Oper} {st : St T} : (xop P E cl act o st).every fun st' => Gr st.hp st'.hp := by
  unfold xop
  refine bind_every (vop_every hA) fun r hr => ?_
  rw [putT_eq]
  show Gr st.hp (put o.dst r.1 r.2 st).hp
  rw [put_hp]
  exact hr
end

/-! ### Code -/
inductive Ex where
  | normal
  | exit (id : Nat)
  | ret
def Ex.toExit : Ex → Exit
  | .normal => .normal
  | .exit id => .exit id
  | .ret => .ret
/-- The jump that a round leaves. -/
def Ex.jump : Ex → Option Code
  | .normal => none
  | .exit id => some (.exit id)
  | .ret => some .ret
def Ex.isN : Ex → Bool
  | .normal => true
  | _ => false

/-- The first region of a loop's body names the loop. -/
def keyOfC : Code → Nat
  | .region id _ _ => id
  | .seq a _ => keyOfC a
  | .block _ b => keyOfC b
  | .loop b => keyOfC b
  | .scope b => keyOfC b
  | _ => 0

/-- One operation, if its guard lets it run. -/
def stepG (cl : Bool) (x : Oper → St T → Tree (St T)) (ops : List Oper) (o : Oper) (st : St T) : Tree (St T) :=
  match o.guard with
  | none => x o st
  | some (j, want) =>
    match (ops[j]?).bind (·.dst) with
    | none => .fail
    | some d =>
      match tmAt st.tm d with
      | .lit b => bif b == want then x o st else putT cl o.dst (.tup []) st.hp st
      | .bool b => .br b
          (let st1 := put (some d) (.lit true) st.hp st; bif want then x o st1 else putT cl o.dst (.tup []) st1.hp st1)
          (let st1 := put (some d) (.lit false) st.hp st; bif want then putT cl o.dst (.tup []) st1.hp st1 else x o st1)
      | .tup [] => putT cl o.dst (.tup []) st.hp st
      | _ => .fail

def runOps (cl : Bool) (x : Oper → St T → Tree (St T)) (ops : List Oper) (l : List Oper) : St T → Tree (St T) :=
  List.rec (motive := fun _ => St T → Tree (St T)) (fun st => .leaf st) (fun o _ ih st => (stepG cl x ops o st).bind ih) l

/-- Round after round, with so much fuel. -/
def loopT (b : St T → Tree (Ex × St T)) : Nat → St T → Tree (Ex × St T)
  | 0, _ => .fail
  | n + 1, st => (b st).bind fun r => match r.1 with
    | .normal => loopT b n r.2
    | e => .leaf (e, r.2)

def condT {β : Type} (v : AV T) (c : Operand) (x y : Tree β) (xl yl : Tmp → Tree β) : Tree β :=
  match v with
  | .lit b => bif b then x else y
  | .bool b =>
    match c with
    | .tmp t => .br b (xl t) (yl t)
    | _ => .fail
  | _ => .fail

/-- Loops of which it is known what they do, by their names. -/
abbrev LoopTab (T : Nat → Type) := Nat → Option (St T → Tree (Ex × St T))
def L0 : LoopTab T := fun _ => none
def loopsIn : Code → List Code
  | .seq a b => loopsIn a ++ loopsIn b
  | .cond _ a b => loopsIn a ++ loopsIn b
  | .block _ b => loopsIn b
  | .loop b => b :: loopsIn b
  | .scope b => loopsIn b
  | _ => []
def LoopGr (L : LoopTab T) : Prop := ∀ k C, L k = some C → ∀ st, (C st).every fun r => Gr st.hp r.2.hp
theorem L0_gr : LoopGr (L0 : LoopTab T) := fun _ _ h => by cases h

section
variable (P : Program) (E : Enc T) (cl : Bool) (act : Tgt → List (AV T) → Hp T → Tree (AV T × Hp T)) (D : Array Oper → St T → Tree (St T)) (L : LoopTab T) (fuel : Nat)

def exec : Option Nat → Code → St T → Tree (Ex × St T)
  | _, .skip, st => .leaf (.normal, st)
  | _, .label _, st => .leaf (.normal, st)
  | _, .region _ ops draw, st =>
    match draw with
    | false => (runOps cl (xop P E cl act) ops.toList ops.toList st).bind fun st' => .leaf (.normal, st')
    | true => (D ops st).bind fun st' => .leaf (.normal, st')
  | ro, .seq a b, st => (exec ro a st).bind fun r => match r.1 with
    | .normal => exec ro b r.2
    | e => .leaf (e, r.2)
  | ro, .cond c a b, st =>
    condT (ev st.tm c) c (exec ro a st) (exec ro b st) (fun t => exec ro a (put (some t) (.lit true) st.hp st)) (fun t => exec ro b (put (some t) (.lit false) st.hp st))
  | ro, .block id b, st => (exec ro b st).bind fun r => match r.1 with
    | .exit id' => bif Nat.beq id' id then .leaf (.normal, r.2) else .leaf (.exit id', r.2)
    | e => .leaf (e, r.2)
  | ro, .loop b, st => match L (keyOfC b) with
    | some C => C st
    | none => loopT (exec ro b) fuel st
  | _, .exit id, st => .leaf (.exit id, st)
  | _, .ret, st => .leaf (.ret, st)
  | ro, .rangeFunc g ps assign body, st =>
    match ev st.tm g with
    | .fn f caps =>
      bif (match ro with
        | none => true
        | some id => match st.hp.get id with
          | some (.loop _) => true
          | _ => false) then
        (act (.fn f) (.yld st.hp.next :: caps) (st.hp.new (.loop ⟨.ready, none, st.n, st.tm, ps, assign, body⟩))).bind fun r =>
          match r.2.get st.hp.next with
          | some (.loop rc) =>
            match rc.state with
            | .busy => .fail
            | _ =>
              match rc.pend with
              | none => .leaf (.normal, ⟨st.n, st.tm, r.2.put st.hp.next (.loop ⟨.exhausted, rc.pend, rc.n, rc.tm, rc.params, rc.assign, rc.body⟩)⟩)
              | some .ret => .leaf (.ret, ⟨st.n, st.tm, r.2.put st.hp.next (.loop ⟨.exhausted, rc.pend, rc.n, rc.tm, rc.params, rc.assign, rc.body⟩)⟩)
              | some (.exit k) => .leaf (.exit k, ⟨st.n, st.tm, r.2.put st.hp.next (.loop ⟨.exhausted, rc.pend, rc.n, rc.tm, rc.params, rc.assign, rc.body⟩)⟩)
              | _ => .fail
          | _ => .fail
      else .fail
    | _ => .fail
  | ro, .scope b, st => exec ro b st
  | _, .goto _, _ => .fail
  | _, .refuse _, _ => .fail

def resA (hp : Hp T) (tm : Tr (AV T)) : ResultVar → Tree (AV T)
  | .tmp t => .leaf (tmAt tm t)
  | .cell a t => popLoad P hp t (tmAt tm a)

def resL (hp : Hp T) (tm : Tr (AV T)) : List ResultVar → Tree (List (AV T))
  | [] => .leaf []
  | r :: rs => (resA P hp tm r).bind fun v => (resL hp tm rs).bind fun vs => .leaf (v :: vs)

def resultsA (fn : Func) (st : St T) : Tree (AV T) :=
  (resL P st.hp st.tm fn.results.toList).bind fun
    | [v] => .leaf v
    | l => .leaf (.tup l)

def runFn (fn : Func) (as : List (AV T)) (hp : Hp T) : Tree (AV T × Hp T) :=
  match fn.body with
  | none => .fail
  | some c =>
    bif Nat.ble as.length fn.ntmps then
      (exec P E cl act D L fuel none c ⟨fn.ntmps, ofL as, hp⟩).bind fun r => match r.1 with
        | .exit _ => .fail
        | _ => (resultsA P fn r.2).bind fun v => fv cl v fun v' => .leaf (v', r.2.hp)
    else .fail

/-- Parameters of a round. -/
def setPs : List Tmp → List (AV T) → Nat → Tr (AV T) → Tr (AV T)
  | p :: ps, v :: vs, n, tm => setPs ps vs n (bif Nat.blt p n then tm.set p v else tm)
  | _, _, _, tm => tm

/-- A round of a loop over a function. -/
def rndT (id : Nat) (as : List (AV T)) (hp : Hp T) : Tree (AV T × Hp T) :=
  match hp.get id with
  | some (.loop rc) =>
    bif Nat.beq as.length rc.params.size then
      (exec P E cl act D L0 fuel (some id) rc.assign ⟨rc.n, setPs rc.params.toList as rc.n rc.tm, hp⟩).bind fun r1 => match r1.1 with
        | .normal =>
          match r1.2.hp.get id with
          | some (.loop rc1) =>
            match rc1.state with
            | .ready =>
              (exec P E cl act D L0 fuel (some id) rc.body ⟨r1.2.n, r1.2.tm, r1.2.hp.put id (.loop ⟨.busy, rc1.pend, rc1.n, rc1.tm, rc1.params, rc1.assign, rc1.body⟩)⟩).bind fun r2 =>
                match r2.2.hp.get id with
                | some (.loop rc2) => .leaf (.lit r2.1.isN, r2.2.hp.put id (.loop ⟨bif r2.1.isN then .ready else .done, r2.1.jump, rc2.n, rc2.tm, rc2.params, rc2.assign, rc2.body⟩))
                | _ => .fail
            | _ => .fail
          | _ => .fail
        | _ => .fail
    else .fail
  | _ => .fail
end
end Go.Cx
