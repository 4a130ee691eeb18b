/- The evaluator: regions and loops are sound. No condition. -/
import Derived.Test.YtmnhfjhlfgebiaaCxM
import Derived.RangeFuncLeaves
import Derived.RangeFuncRecord
set_option linter.unusedVariables false
noncomputable section
namespace Go.Cx
open Go.RowKit
variable {T : Nat → Type} {P : Program} {E : Enc T} {cl : Bool} {act : Tgt → List (AV T) → Hp T → Tree (AV T × Hp T)} {D : Array Oper → St T → Tree (St T)} {fuel : Nat}

theorem putT_every {dst : Option Nat} {v : AV T} {st : St T} : (putT cl dst v st.hp st).every fun st' => Gr st.hp st'.hp := by
  rw [putT_eq]
  show Gr st.hp (put dst v st.hp st).hp
  rw [put_hp]
  exact Gr.refl

theorem stepG_every {x : Oper → St T → Tree (St T)} (hx : ∀ o st, (x o st).every fun st' => Gr st.hp st'.hp) {ops : List Oper} {o : Oper} {st : St T} : (stepG cl x ops o st).every fun st' => Gr st.hp st'.hp := by
  unfold stepG
  split
  · exact hx _ _
  · split
    · trivial
    · rename_i d hd
      have e : ∀ b, (put (some d) (.lit b) st.hp st).hp = st.hp := fun b => put_hp _ _ _ _
      split
      · exact every_bif (hx _ _) putT_every
      · refine ⟨?_, ?_⟩
        · have h1 := hx o (put (some d) (.lit true) st.hp st)
          have h2 := putT_every (cl := cl) (dst := o.dst) (v := .tup []) (st := put (some d) (.lit true) st.hp st)
          rw [e] at h1 h2
          try dsimp only
          exact every_bif h1 (by rw [e]; exact h2)
        · have h1 := hx o (put (some d) (.lit false) st.hp st)
          have h2 := putT_every (cl := cl) (dst := o.dst) (v := .tup []) (st := put (some d) (.lit false) st.hp st)
          rw [e] at h1 h2
          try dsimp only
          exact every_bif (by rw [e]; exact h2) h1
      · exact putT_every
      · trivial

theorem runOps_every {x : Oper → St T → Tree (St T)} (hx : ∀ o st, (x o st).every fun st' => Gr st.hp st'.hp) {ops : List Oper} : ∀ (l : List Oper) (st : St T), (runOps cl x ops l st).every fun st' => Gr st.hp st'.hp
  | [], _ => Gr.refl
  | _ :: l, _ => bind_every (stepG_every hx) fun st' h => Tree.every_mono (fun _ k => h.trans k) (runOps_every hx l st')

theorem loopT_every {b : St T → Tree (Ex × St T)} (hb : ∀ st, (b st).every fun r => Gr st.hp r.2.hp) : ∀ (n : Nat) (st : St T), (loopT b n st).every fun r => Gr st.hp r.2.hp
  | 0, _ => trivial
  | n + 1, st => bind_every (hb st) fun r h => by
    obtain ⟨e, st'⟩ := r
    cases e with
    | normal => exact Tree.every_mono (fun _ k => Gr.trans h k) (loopT_every hb n st')
    | exit id => exact h
    | ret => exact h

theorem exec_every {L : LoopTab T} (hA : ActGr act) (hD : ∀ ops st, (D ops st).every fun st' => Gr st.hp st'.hp) (hL : LoopGr L) : ∀ (c : Code) (ro : Option Nat) (st : St T), (exec P E cl act D L fuel ro c st).every fun r => Gr st.hp r.2.hp := by
  intro c
  induction c with
  | skip => intro ro st; exact Gr.refl
  | label l => intro ro st; exact Gr.refl
  | region id ops draw =>
    intro ro st
    cases draw with
    | false => exact bind_every (runOps_every (fun o st => xop_every hA) _ _) fun _ h => h
    | true => exact bind_every (hD ops st) fun _ h => h
  | seq a b iha ihb =>
    intro ro st
    refine bind_every (iha ro st) fun r h => ?_
    obtain ⟨e, st'⟩ := r
    cases e with
    | normal => exact Tree.every_mono (fun _ k => Gr.trans h k) (ihb ro st')
    | exit id => exact h
    | ret => exact h
  | cond c a b iha ihb =>
    intro ro st
    unfold exec condT
    split
    · exact every_bif (iha ro st) (ihb ro st)
    · split
      · rename_i t _
        have h1 := iha ro (put (some t) (.lit true) st.hp st)
        have h2 := ihb ro (put (some t) (.lit false) st.hp st)
        rw [put_hp] at h1 h2
        exact ⟨h1, h2⟩
      · trivial
    · trivial
  | block id b ih =>
    intro ro st
    refine bind_every (ih ro st) fun r h => ?_
    obtain ⟨e, st'⟩ := r
    cases e with
    | normal => exact h
    | exit id' => exact every_bif h h
    | ret => exact h
  | loop b ih =>
    intro ro st
    unfold exec
    split
    · rename_i C hC
      exact hL _ C hC st
    · exact loopT_every (fun st => ih ro st) fuel st
  | exit id => intro ro st; exact Gr.refl
  | ret => intro ro st; exact Gr.refl
  | rangeFunc g ps x y _ _ =>
    intro ro st
    unfold exec
    split
    · refine every_bif ?_ trivial
      refine bind_every (hA _ _ _) fun r h => ?_
      have h := Gr.new.trans h
      split
      · rename_i hrc
        have hx : r.2.get st.hp.next ≠ none := by rw [hrc]; simp
        split
        · trivial
        · split
          · exact h.trans (Gr.put hx)
          · exact h.trans (Gr.put hx)
          · exact h.trans (Gr.put hx)
          · trivial
      · trivial
    · trivial
  | scope b ih => intro ro st; exact ih ro st
  | goto l => intro ro st; trivial
  | refuse s => intro ro st; trivial

theorem runFn_every {L : LoopTab T} (hA : ActGr act) (hD : ∀ ops st, (D ops st).every fun st' => Gr st.hp st'.hp) (hL : LoopGr L) {fn : Func} {as : List (AV T)} {hp : Hp T} : (runFn P E cl act D L fuel fn as hp).every fun r => Gr hp r.2 := by
  unfold runFn
  split
  · trivial
  · refine every_bif ?_ trivial
    refine bind_every (exec_every hA hD hL _ _ _) fun r h => ?_
    have fin : ((resultsA P fn r.2).bind fun v => fv cl v fun v' => (Tree.leaf (v', r.2.hp) : Tree (AV T × Hp T))).every fun r' => Gr hp r'.2 := by
      refine bind_every (R := fun _ => True) ?_ fun v _ => by rw [fv_eq]; exact h
      have : ∀ t : Tree (AV T), t.every fun _ => True := by
        intro t
        induction t with
        | fail => trivial
        | leaf a => trivial
        | br b t f h1 h2 => exact ⟨h1, h2⟩
        | req p t h => exact h
        | amb t f h1 h2 => exact ⟨h1, h2⟩
      exact this _
    obtain ⟨e, st'⟩ := r
    cases e with
    | normal => exact fin
    | exit id => trivial
    | ret => exact fin

theorem rndT_every (hA : ActGr act) (hD : ∀ ops st, (D ops st).every fun st' => Gr st.hp st'.hp) {id : Nat} {as : List (AV T)} {hp : Hp T} : (rndT P E cl act D fuel id as hp).every fun r => Gr hp r.2 := by
  unfold rndT
  split
  · refine every_bif ?_ trivial
    refine bind_every (exec_every hA hD L0_gr _ _ _) fun r h => ?_
    obtain ⟨e, st'⟩ := r
    cases e with
    | normal =>
      simp only
      split
      · rename_i hrc
        have hx : st'.hp.get id ≠ none := by rw [hrc]; simp
        split
        · refine bind_every (exec_every hA hD L0_gr _ _ _) fun r2 h2 => ?_
          have h2 := (Gr.trans h (Gr.put hx)).trans h2
          split
          · rename_i hrc2
            exact h2.trans (Gr.put (by rw [hrc2]; simp))
          · trivial
        · trivial
      · trivial
    | exit id => trivial
    | ret => trivial
  · trivial

theorem Gr.le {a b : Hp T} (h : Gr a b) : a.next ≤ b.next := h.1

/-! ### The code is sound -/
section
variable {F : Fm} {M M' : Nat → Prop} {β β' : Nat → Option Hd} {st st' : St T} {a : Act} {w w' : World} {o : Oper} {K : Act → World → Prop} {Q : Exit → Act → World → Prop}

theorem bool_of_tmp (hR : Rel P E F st a w) {d : Nat} {c : AV T} {b : Bool} (h : tmAt st.tm d = c) (hc : asB c = some b) : a.tmps[d]? = some (.bool b) := by
  obtain ⟨M, β, hR⟩ := hR
  have hv := hR.tmps.2 d
  rw [h] at hv
  have e := asB_val hv hc
  cases hd : a.tmps[d]? with
  | none =>
    rw [Array.getD_eq_getD_getElem?, hd] at e
    simp [undef] at e
  | some x =>
    rw [Array.getD_eq_getD_getElem?, hd] at e
    simp at e
    rw [e]

/-- A temporary that is known better. -/
theorem Rel.retmp (hR : Rel P E F st a w) {d : Nat} {c : AV T} (h : ∀ M β, RV P E w M β c (a.tmps.getD d undef)) : Rel P E F (put (some d) c st.hp st) a w := by
  obtain ⟨M, β, hR⟩ := hR
  refine ⟨M, β, hR.defers, by rw [put_hp]; exact hR.evo, hR.nb0, by rw [put_hp]; exact hR.now, ?_, hR.rnd, by rw [put_hp]; exact hR.nle⟩
  unfold put
  simp only
  cases Nat.blt d st.n with
  | false => exact hR.tmps
  | true =>
    refine ⟨hR.tmps.1, fun j => ?_⟩
    simp only [cond_true]
    rw [tmAt_set]
    by_cases hj : j = d
    · rw [if_pos hj, hj]; exact h M β
    · rw [if_neg hj]; exact hR.tmps.2 j

theorem Rel.lit (hR : Rel P E F st a w) {d : Nat} {b : Bool} (h : a.tmps[d]? = some (.bool b)) : Rel P E F (put (some d) (.lit b) st.hp st) a w :=
  hR.retmp fun M β => by
    rw [Array.getD_eq_getD_getElem?, h]
    exact .lit

theorem Rel.skip (hR : Rel P E F st a w) (dst : Option Nat) : Rel P E F (put dst (.tup []) st.hp st) (a.put dst undef) w := by
  obtain ⟨M, β, hR⟩ := hR
  exact ⟨M, β, hR.step (Step.refl hR.now) (.tup rfl fun j c v h => by simp at h) dst⟩

theorem wanted_undef {ops : Array Oper} {o : Oper} {j : Nat} {want : Bool} {d : Nat} {a : Act} (hg : o.guard = some (j, want)) (hd : (ops[j]?).bind (·.dst) = some d) (hu : a.tmps.getD d undef = .tuple #[]) : Region.wanted o (yielded ops a.tmps) = false := by
  have hy : yielded ops a.tmps j = none := by
    rw [Array.getD_eq_getD_getElem?] at hu
    simp only [yielded, hd]
    cases he : a.tmps[d]? with
    | none => simp [he]
    | some v =>
      rw [he] at hu
      obtain rfl : v = .tuple #[] := hu
      simp [he]
  simp [Region.wanted, hg, hy]

theorem holds_putT {dst : Option Nat} {v : AV T} {hp : Hp T} {Q' : St T → Prop} (h : (putT cl dst v hp st).holds Q') : Q' (put dst v hp st) := by
  rw [putT_eq] at h
  exact h

/-- One operation of a list, in the text's order. -/
theorem stepG_sound {r : Option Nat} {n : Nat} {x : Oper → St T → Tree (St T)} {ops : Array Oper} {rest : List Oper}
    (hx : ∀ st a w K Q, Rel P E F st a w → (x o st).holds (fun st' => st'.hp.next ≤ F.lim ∧ ∀ a' w', Rel P E F st' a' w' → K a' w') → o.wpIn (FR r) n P a w K Q)
    (hR : Rel P E F st a w) (h : (stepG cl x ops.toList o st).holds fun st' => st'.hp.next ≤ F.lim ∧ ∀ a' w', Rel P E F st' a' w' → wpListIn (FR r) n P ops Q rest a' w') : wpListIn (FR r) n P ops Q (o :: rest) a w := by
  unfold stepG at h
  unfold wpListIn
  cases hg : o.guard with
  | none =>
    simp only [hg] at h
    rw [if_pos (by simp [Region.wanted, hg])]
    exact hx _ _ _ _ _ hR h
  | some jw =>
    obtain ⟨j, want⟩ := jw
    simp only [hg] at h
    cases hd : (ops.toList[j]?).bind (·.dst) with
    | none => simp only [hd] at h; exact h.elim
    | some d =>
      simp only [hd] at h
      have hd' : (ops[j]?).bind (·.dst) = some d := by rw [← Array.getElem?_toList]; exact hd
      have hy : ∀ b, a.tmps[d]? = some (.bool b) → Region.wanted o (yielded ops a.tmps) = (some b == some want) := by
        intro b hb
        simp [Region.wanted, hg, yielded, hd', hb]
      split at h
      · rename_i b hb
        have ht := bool_of_tmp hR hb rfl
        rw [hy b ht]
        cases hbw : b == want with
        | true =>
          simp only [hbw, cond_true] at h
          rw [if_pos (by simpa using hbw)]
          exact hx _ _ _ _ _ hR h
        | false =>
          simp only [hbw, cond_false] at h
          rw [if_neg (by simpa using hbw)]
          exact ⟨fun _ _ => trivial, (holds_putT h).2 _ _ (hR.skip o.dst)⟩
      · rename_i b hb
        have ht := bool_of_tmp hR hb rfl
        rw [hy b ht]
        have hre := hR.lit ht
        obtain ⟨h1, h2⟩ := h
        cases b with
        | true =>
          have h := h1 rfl
          cases want with
          | true =>
            simp only [cond_true] at h
            rw [if_pos (by simp)]
            exact hx _ _ _ _ _ hre h
          | false =>
            simp only [cond_false] at h
            rw [if_neg (by simp)]
            exact ⟨fun _ _ => trivial, (holds_putT h).2 _ _ (hre.skip o.dst)⟩
        | false =>
          have h := h2 rfl
          cases want with
          | true =>
            simp only [cond_true] at h
            rw [if_neg (by simp)]
            exact ⟨fun _ _ => trivial, (holds_putT h).2 _ _ (hre.skip o.dst)⟩
          | false =>
            simp only [cond_false] at h
            rw [if_pos (by simp)]
            exact hx _ _ _ _ _ hre h
      · rename_i hb
        obtain ⟨M, β, hR'⟩ := hR
        have hv := hR'.tmps.2 d
        rw [hb] at hv
        have hu : a.tmps.getD d undef = .tuple #[] := by
          generalize a.tmps.getD d undef = x at hv
          cases hv with
          | tup hl _ => rw [Array.eq_empty_of_size_eq_zero hl.symm]
        rw [wanted_undef hg hd' hu]
        exact ⟨fun _ _ => trivial, (holds_putT h).2 _ _ ((show Rel P E F st a w from ⟨M, β, hR'⟩).skip o.dst)⟩
      · exact h.elim

theorem next_le {α : Type} {t : Tree α} {f : α → Hp T} {hp : Hp T} {lim : Nat} {Q' : α → Prop} (he : t.every fun r => Gr hp (f r)) (hh : t.holds fun r => (f r).next ≤ lim ∧ Q' r) : hp.next ≤ lim := by
  obtain ⟨x, h1, h2⟩ := Tree.holds_some (Tree.holds_and_every hh he)
  exact Nat.le_trans h2.1 h1.1

theorem runOps_sound {r : Option Nat} {n : Nat} {x : Oper → St T → Tree (St T)} {ops : Array Oper} (hxe : ∀ o st, (x o st).every fun st' => Gr st.hp st'.hp)
    (hx : ∀ o st a w K Q, Rel P E F st a w → (x o st).holds (fun st' => st'.hp.next ≤ F.lim ∧ ∀ a' w', Rel P E F st' a' w' → K a' w') → o.wpIn (FR r) n P a w K Q) :
    ∀ (l : List Oper) {st : St T} {a : Act} {w : World}, Rel P E F st a w → (runOps cl x ops.toList l st).holds (fun st' => st'.hp.next ≤ F.lim ∧ ∀ a' w', Rel P E F st' a' w' → Q .normal a' w') → wpListIn (FR r) n P ops Q l a w
  | [], _, a, w, hR, h => h.2 a w hR
  | o :: os, _, _, _, hR, h =>
    stepG_sound (hx o) hR (Tree.holds_mono (fun st1 h1 => ⟨next_le (f := fun st' : St T => st'.hp) (runOps_every hxe os st1) h1, fun _ _ hR' => runOps_sound hxe hx os hR' h1⟩) (Tree.holds_bind.1 h))

/-- A loop of which it is known what it does. -/
def LoopOk (P : Program) (E : Enc T) (F : Fm) (L : LoopTab T) (b : Code) : Prop :=
  ∀ C, L (keyOfC b) = some C → ∀ (st : St T) (a : Act) (w : World) (Q : Exit → Act → World → Prop) (n : Nat),
    Rel P E F st a w → (C st).holds (fun x => x.2.hp.next ≤ F.lim ∧ ∀ a' w', Rel P E F x.2 a' w' → Q x.1.toExit a' w') → (Code.loop b).wpIn (FR (F.rr.map (·.2))) n P Q a w
theorem L0_ok {b : Code} {F : Fm} : LoopOk P E F (L0 : LoopTab T) b := fun _ h => by cases h

/-- A region whose order is drawn. -/
def DrawOk (P : Program) (E : Enc T) (D : Array Oper → St T → Tree (St T)) : Prop :=
  ∀ (F : Fm) (id : Nat) (ops : Array Oper) (st : St T) (a : Act) (w : World) (Q : Exit → Act → World → Prop) (r : Option Nat) (n : Nat),
    Rel P E F st a w → (D ops st).holds (fun st' => st'.hp.next ≤ F.lim ∧ ∀ a' w', Rel P E F st' a' w' → Q .normal a' w') → (Code.region id ops true).wpIn (FR r) n P Q a w

theorem exists_least {p : Nat → Prop} (h : ∃ n, p n) : ∃ m, p m ∧ ∀ k, p k → m ≤ k := by
  obtain ⟨n, hn⟩ := h
  induction n using Nat.strongRecOn with
  | _ n ih =>
    by_cases hc : ∃ k, k < n ∧ p k
    · obtain ⟨k, hk, hp⟩ := hc
      exact ih k hk hp
    · exact ⟨n, hn, fun k hk => Nat.le_of_not_lt fun hlt => hc ⟨k, hlt, hk⟩⟩

open Classical in
def least (p : Nat → Prop) : Nat := if h : ∃ m, p m ∧ ∀ k, p k → m ≤ k then h.choose else 0
theorem least_spec {p : Nat → Prop} (h : ∃ n, p n) : p (least p) ∧ ∀ k, p k → least p ≤ k := by
  have h' := exists_least h
  unfold least
  rw [dif_pos h']
  exact h'.choose_spec

/-- A loop, by its rounds. -/
theorem loopT_sound {r : Option Nat} {n : Nat} {c : Code} {b : St T → Tree (Ex × St T)} (hbe : ∀ st, (b st).every fun r => Gr st.hp r.2.hp)
    (hb : ∀ (st : St T) (a : Act) (w : World) (Q : Exit → Act → World → Prop), Rel P E F st a w → (b st).holds (fun x => x.2.hp.next ≤ F.lim ∧ ∀ a' w', Rel P E F x.2 a' w' → Q x.1.toExit a' w') → c.wpIn (FR r) n P Q a w)
    {k : Nat} (hR : Rel P E F st a w) (h : (loopT b k st).holds fun x => x.2.hp.next ≤ F.lim ∧ ∀ a' w', Rel P E F x.2 a' w' → Q x.1.toExit a' w') : (Code.loop c).wpIn (FR r) n P Q a w := by
  let Good : Nat → Act → World → Prop := fun k a w => ∃ st, Rel P E F st a w ∧ (loopT b k st).holds fun x => x.2.hp.next ≤ F.lim ∧ ∀ a' w', Rel P E F x.2 a' w' → Q x.1.toExit a' w'
  refine wpIn_loop (fun a w => ∃ k, Good k a w) (fun a w => least fun k => Good k a w) ⟨k, st, hR, h⟩ ?_
  intro a w hI
  have hg := (least_spec hI).1
  generalize (least fun k => Good k a w) = m at hg
  obtain ⟨st, hR, h⟩ := hg
  cases m with
  | zero => exact h.elim
  | succ m =>
    refine hb st a w _ hR (Tree.holds_mono (fun x hx => ?_) (Tree.holds_bind.1 h))
    obtain ⟨e, st1⟩ := x
    cases e with
    | normal =>
      refine ⟨next_le (f := fun x : Ex × St T => x.2.hp) (loopT_every hbe m st1) hx, fun a' w' hR' => ?_⟩
      have hG : ∃ k, Good k a' w' := ⟨m, st1, hR', hx⟩
      exact ⟨hG, Nat.lt_succ_of_le ((least_spec hG).2 m ⟨st1, hR', hx⟩)⟩
    | exit id => exact hx
    | ret => exact hx
end
end Go.Cx
