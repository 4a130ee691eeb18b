/- The evaluator: mixed states of a drawn region. No condition. -/
import Derived.Test.YtmnhfjhlfgebiaaCxS
set_option linter.unusedVariables false
noncomputable section
namespace Go.Cx
open Go.RowKit
variable {T : Nat → Type} {P : Program} {E : Enc T} {cl : Bool} {act : Tgt → List (AV T) → Hp T → Tree (AV T × Hp T)}

/-! ### Mixed states -/
section
variable (r : Nat → Rc T) (D : Nat → Bool)
def mixH (H0 : Nat → Option (AO T)) : Nat → Nat → Option (AO T)
  | 0, id => H0 id
  | k + 1, id => if D k = true ∧ id ∈ (r k).hp.log then (r k).hp.get id else mixH H0 k id
def mixT (t0 : Nat → AV T) : Nat → Nat → AV T
  | 0, x => t0 x
  | k + 1, x => if D k = true ∧ (r k).dst = some x then (r k).v else mixT t0 k x
def mixN (n0 : Nat) : Nat → Nat
  | 0 => n0
  | k + 1 => (r k).hp.next
end
def tt : Nat → Bool := fun _ => true

section
variable {r : Nat → Rc T} {D D' : Nat → Bool} {H0 : Nat → Option (AO T)} {t0 : Nat → AV T}
theorem mixH_congr {id : Nat} : ∀ (n : Nat), (∀ k, k < n → id ∈ (r k).hp.log → D k = D' k) → mixH r D H0 n id = mixH r D' H0 n id
  | 0, _ => rfl
  | n + 1, h => by
    simp only [mixH]
    rw [mixH_congr n fun k hk => h k (by omega)]
    by_cases hm : id ∈ (r n).hp.log
    · rw [h n (by omega) hm]
    · simp [hm]
theorem mixT_congr {x : Nat} : ∀ (n : Nat), (∀ k, k < n → (r k).dst = some x → D k = D' k) → mixT r D t0 n x = mixT r D' t0 n x
  | 0, _ => rfl
  | n + 1, h => by
    simp only [mixT]
    rw [mixT_congr n fun k hk => h k (by omega)]
    by_cases hm : (r n).dst = some x
    · rw [h n (by omega) hm]
    · simp [hm]
theorem mixH_prefix {id i n : Nat} (h : i ≤ n) : mixH r (fun k => decide (k < i)) H0 n id = mixH r tt H0 i id := by
  induction n with
  | zero =>
    obtain rfl : i = 0 := by omega
    rfl
  | succ n ih =>
    by_cases e : i = n + 1
    · subst e
      exact mixH_congr _ fun k hk _ => by simp [tt, hk]
    · simp only [mixH]
      rw [if_neg (fun hc => by have := hc.1; simp at this; omega)]
      exact ih (by omega)
theorem mixT_prefix {x i n : Nat} (h : i ≤ n) : mixT r (fun k => decide (k < i)) t0 n x = mixT r tt t0 i x := by
  induction n with
  | zero =>
    obtain rfl : i = 0 := by omega
    rfl
  | succ n ih =>
    by_cases e : i = n + 1
    · subst e
      exact mixT_congr _ fun k hk _ => by simp [tt, hk]
    · simp only [mixT]
      rw [if_neg (fun hc => by have := hc.1; simp at this; omega)]
      exact ih (by omega)
theorem mixH_insert {id n i : Nat} (hi : i < n) (h1 : ∀ k, k ≠ i → D' k = D k) (h0 : D i = false) (h2 : D' i = true) (hap : ∀ k, i < k → k < n → D k = true → id ∈ (r k).hp.log → id ∉ (r i).hp.log) :
    mixH r D' H0 n id = if id ∈ (r i).hp.log then (r i).hp.get id else mixH r D H0 n id := by
  induction n with
  | zero => omega
  | succ n ih =>
    simp only [mixH]
    by_cases e : i = n
    · subst e
      have : mixH r D' H0 i id = mixH r D H0 i id := mixH_congr i fun k hk _ => h1 k (by omega)
      rw [h2, h0, this]
      by_cases hm : id ∈ (r i).hp.log <;> simp [hm]
    · rw [ih (by omega) fun k a b => hap k a (by omega), h1 n (Ne.symm e)]
      by_cases hc : D n = true ∧ id ∈ (r n).hp.log
      · rw [if_pos hc, if_pos hc, if_neg (hap n (by omega) (by omega) hc.1 hc.2)]
      · rw [if_neg hc, if_neg hc]
theorem mixT_insert {x n i : Nat} (hi : i < n) (h1 : ∀ k, k ≠ i → D' k = D k) (h0 : D i = false) (h2 : D' i = true) (hap : ∀ k, i < k → k < n → D k = true → (r k).dst = some x → (r i).dst ≠ some x) :
    mixT r D' t0 n x = if (r i).dst = some x then (r i).v else mixT r D t0 n x := by
  induction n with
  | zero => omega
  | succ n ih =>
    simp only [mixT]
    by_cases e : i = n
    · subst e
      have : mixT r D' t0 i x = mixT r D t0 i x := mixT_congr i fun k hk _ => h1 k (by omega)
      rw [h2, h0, this]
      by_cases hm : (r i).dst = some x <;> simp [hm]
    · rw [ih (by omega) fun k a b => hap k a (by omega), h1 n (Ne.symm e)]
      by_cases hc : D n = true ∧ (r n).dst = some x
      · rw [if_pos hc, if_pos hc, if_neg (hap n (by omega) (by omega) hc.1 hc.2)]
      · rw [if_neg hc, if_neg hc]
end

theorem pairOk_spec {q p : Rc T} (h : pairOk q p = true) : (∀ x ∈ q.hp.log, p.dom.has x ≠ true ∧ x ∉ p.hp.log) ∧ ∀ y ∈ p.hp.log, (q.r.next ≤ y ∧ y < p.hp.next) ∨ q.dom.has y ≠ true := by
  unfold pairOk at h
  simp only [Bool.cond_false_right, Bool.and_eq_true] at h
  obtain ⟨h1, h2⟩ := h
  refine ⟨fun x hx => ?_, fun y hy => ?_⟩
  · have := allN_iff.1 h1 x hx
    cases hd : p.dom.has x with
    | true => rw [hd] at this; cases this
    | false =>
      rw [hd] at this
      simp only [cond_false] at this
      refine ⟨by simp, fun hm => ?_⟩
      rw [memN_iff.2 hm] at this
      cases this
  · have := allN_iff.1 h2 y hy
    cases hw : (Nat.ble q.r.next y && Nat.blt y p.hp.next) with
    | true =>
      rw [Bool.and_eq_true] at hw
      exact .inl ⟨Nat.le_of_ble_eq_true hw.1, bblt hw.2⟩
    | false =>
      rw [hw] at this
      simp only [cond_false] at this
      cases hd : q.dom.has y with
      | true => rw [hd] at this; cases this
      | false => exact .inr (by simp)

/-- What is known of the text's run of a drawn region. -/
structure DF (P : Program) (E : Enc T) (cl : Bool) (act : Tgt → List (AV T) → Hp T → Tree (AV T × Hp T)) (ops : Array Oper) (r : Nat → Rc T) (ms : List Nat) (st0 : St T) (lim : Nat) : Prop where
  one : ∀ (i : Nat) (o : Oper), ops[i]? = some o → ∃ st, StepFact P E cl act ops i o (r i) st ∧ st.n = st0.n ∧ (∀ x, tmAt st.tm x = mixT r tt (tmAt st0.tm) i x) ∧ (∀ id, st.hp.get id = mixH r tt st0.hp.get i id) ∧ st.hp.next = mixN r st0.hp.next i
  pair : ∀ (k i : Nat) (o o' : Oper), k < i → ops[k]? = some o → ops[i]? = some o' → Nat.testBit (ms.getD i 0) k = true ∨ (pairOk (r k) (r i) = true ∧ o.apart ops o' = true)
  edge : ∀ (i : Nat) (o : Oper) (e : Edge), ops[i]? = some o → e ∈ o.after → Region.binds .any e = true → e.on < i
  ms' : ∀ (i : Nat) (o : Oper) (k : Nat), ops[i]? = some o → Nat.testBit (ms.getD i 0) k = true → ∃ e ∈ o.after, Region.binds .any e = true ∧ (k = e.on ∨ Nat.testBit (ms.getD e.on 0) k = true)
  le : mixN r st0.hp.next ops.size ≤ lim
  free0 : ∀ id, st0.hp.next ≤ id → id < lim → st0.hp.get id = none
  nomem0 : ∀ f hd s sh, st0.hp.get f = some (.fam hd sh) → s = hd ∨ s ∈ sh → st0.hp.next ≤ s → s < lim → False
  act : ActGr act

section
variable {ops : Array Oper} {r : Nat → Rc T} {ms : List Nat} {st0 : St T} {lim : Nat}

/-- The facts of one operation, once more. -/
structure One (P : Program) (E : Enc T) (cl : Bool) (act : Tgt → List (AV T) → Hp T → Tree (AV T × Hp T)) (ops : Array Oper) (r : Nat → Rc T) (st0 : St T) (i : Nat) (o : Oper) : Prop where
  dst : (r i).dst = dstD st0.n o
  run : (dval P E cl act ops.toList i o (r i).tr (r i).r).reach ((r i).v, (r i).hp)
  tr : ∀ j, tmAt (r i).tr j = .any ∨ (j ∈ o.looksAt ops ∧ tmAt (r i).tr j = mixT r tt (tmAt st0.tm) i j)
  rget : ∀ id, (r i).r.get id = if (r i).dom.has id = true then mixH r tt st0.hp.get i id else none
  rlog : (r i).r.log = []
  lo : (r i).r.next = mixN r st0.hp.next i
  put : ∀ id ∈ (r i).hp.log, PutOk (mixH r tt st0.hp.get i) (r i).hp id
  fam : FamOk (mixH r tt st0.hp.get i) (r i).r (r i).dom
  gr : Gr (r i).r (r i).hp

theorem DF.at (hf : DF P E cl act ops r ms st0 lim) {i : Nat} (hi : i < ops.size) : One P E cl act ops r st0 i ops[i] := by
  obtain ⟨st, h, e1, e2, e3, e4⟩ := hf.one i _ (Array.getElem?_eq_getElem hi)
  have eH : st.hp.get = mixH r tt st0.hp.get i := funext e3
  refine ⟨by rw [h.dst, e1], h.run, fun j => ?_, fun id => ?_, by rw [h.rr, restr_log], by rw [h.rr, restr_next, e4], by rw [← eH]; exact h.put, by rw [← eH]; exact h.fam, Tree.reach_every (Q := fun x : AV T × Hp T => Gr (r i).r x.2) h.run (dval_every hf.act)⟩
  · rcases h.tr j with h | ⟨h1, h2⟩
    · exact .inl h
    · exact .inr ⟨h1, by rw [h2, e2]⟩
  · rw [h.rr, restr_get, e3]

theorem One.sees {i : Nat} {o : Oper} (h : One P E cl act ops r st0 i o) {id : Nat} (hne : (r i).r.get id ≠ none) : (r i).dom.has id = true ∧ mixH r tt st0.hp.get i id = (r i).r.get id := by
  have := h.rget id
  by_cases hd : (r i).dom.has id = true
  · rw [if_pos hd] at this; exact ⟨hd, this.symm⟩
  · rw [if_neg hd] at this; exact absurd this hne

theorem One.logs {i : Nat} {o : Oper} (h : One P E cl act ops r st0 i o) {id : Nat} (hid : id ∈ (r i).hp.log) : mixH r tt st0.hp.get i id ≠ none ∨ (mixN r st0.hp.next i ≤ id ∧ id < mixN r st0.hp.next (i + 1)) := by
  obtain ⟨_, l, hl1, hl2, hl3⟩ := h.gr
  rw [h.rlog, List.append_nil] at hl1
  subst hl1
  rcases (hl3 id hid).1 with h1 | h1
  · exact .inl (by rw [(h.sees h1).2]; exact h1)
  · rw [h.lo] at h1; exact .inr h1

theorem DF.mono (hf : DF P E cl act ops r ms st0 lim) : ∀ (d i : Nat), i + d ≤ ops.size → mixN r st0.hp.next i ≤ mixN r st0.hp.next (i + d)
  | 0, i, _ => Nat.le_refl _
  | d + 1, i, h => by
    have h1 := hf.mono d i (by omega)
    have h2 := (hf.at (i := i + d) (by omega)).gr.1
    rw [(hf.at (i := i + d) (by omega)).lo] at h2
    exact Nat.le_trans h1 h2
theorem DF.mono' (hf : DF P E cl act ops r ms st0 lim) {i j : Nat} (hij : i ≤ j) (hj : j ≤ ops.size) : mixN r st0.hp.next i ≤ mixN r st0.hp.next j := by
  have := hf.mono (j - i) i (by omega)
  rwa [show i + (j - i) = j by omega] at this

theorem DF.free (hf : DF P E cl act ops r ms st0 lim) : ∀ (i : Nat), i ≤ ops.size → ∀ id, mixN r st0.hp.next i ≤ id → id < lim → mixH r tt st0.hp.get i id = none
  | 0, _ => hf.free0
  | i + 1, h => fun id h1 h2 => by
    have h0 := hf.free i (by omega) id (Nat.le_trans (hf.mono' (Nat.le_succ i) h) h1) h2
    simp only [mixH]
    by_cases hm : id ∈ (r i).hp.log
    · rcases (hf.at (i := i) (by omega)).logs hm with h3 | h3
      · exact absurd h0 h3
      · omega
    · rw [if_neg (fun hc => hm hc.2)]; exact h0

theorem DF.nomem (hf : DF P E cl act ops r ms st0 lim) : ∀ (i : Nat), i ≤ ops.size → ∀ f hd s sh, mixH r tt st0.hp.get i f = some (.fam hd sh) → s = hd ∨ s ∈ sh → mixN r st0.hp.next i ≤ s → s < lim → False
  | 0, _ => hf.nomem0
  | i + 1, h => fun f hd s sh h1 h2 h3 h4 => by
    have hle := hf.mono' (Nat.le_succ i) h
    have ho := hf.at (i := i) (by omega)
    simp only [mixH] at h1
    by_cases hm : f ∈ (r i).hp.log
    · rw [if_pos ⟨rfl, hm⟩] at h1
      obtain ⟨o, k1, _, _, k4⟩ := ho.put f hm
      rw [h1] at k1
      have hs := k4 hd sh s (Option.some.inj k1).symm h2
      have h0 := hf.free i (by omega) s (Nat.le_trans hle h3) h4
      by_cases hsm : s ∈ (r i).hp.log
      · rcases ho.logs hsm with h5 | h5
        · exact h5 h0
        · omega
      · obtain ⟨_, l, hl1, hl2, hl3⟩ := ho.gr
        rw [ho.rlog, List.append_nil] at hl1
        subst hl1
        rw [hl2 s hsm] at hs
        have := ho.sees hs
        rw [h0] at this
        exact hs this.2.symm
    · rw [if_neg (fun hc => hm hc.2)] at h1
      exact hf.nomem i (by omega) f hd s sh h1 h2 (Nat.le_trans hle h3) h4

theorem DF.born (hf : DF P E cl act ops r ms st0 lim) {i m : Nat} (h0 : mixH r tt st0.hp.get i m = none) : ∀ (d : Nat), i + d ≤ ops.size → mixH r tt st0.hp.get (i + d) m ≠ none → mixN r st0.hp.next i ≤ m ∧ m < mixN r st0.hp.next (i + d)
  | 0, _, h => absurd h0 h
  | d + 1, hd, h => by
    have hstep := hf.mono' (i := i + d) (j := i + d + 1) (by omega) (by omega)
    have hpre := hf.mono' (i := i) (j := i + d) (by omega) (by omega)
    have hrec : mixH r tt st0.hp.get (i + d) m ≠ none → mixN r st0.hp.next i ≤ m ∧ m < mixN r st0.hp.next (i + (d + 1)) := fun hne =>
      have := hf.born h0 d (by omega) hne
      ⟨this.1, Nat.lt_of_lt_of_le this.2 hstep⟩
    have h' : mixH r tt st0.hp.get (i + d + 1) m ≠ none := h
    simp only [mixH] at h'
    by_cases hm : m ∈ (r (i + d)).hp.log
    · rcases (hf.at (i := i + d) (by omega)).logs hm with h3 | h3
      · exact hrec h3
      · exact ⟨Nat.le_trans hpre h3.1, h3.2⟩
    · rw [if_neg (fun hc => hm hc.2)] at h'
      exact hrec h'

theorem DF.kinds (hf : DF P E cl act ops r ms st0 lim) {D : Nat → Bool} {m : Nat} : ∀ (n : Nat), n ≤ ops.size → ∀ x, mixH r D st0.hp.get n m = some x → ∃ y, mixH r tt st0.hp.get n m = some y ∧ gk y = gk x
  | 0, _ => fun x h => ⟨x, h, rfl⟩
  | n + 1, hn => fun x h => by
    simp only [mixH] at h ⊢
    by_cases hm : m ∈ (r n).hp.log
    · rw [if_pos (⟨rfl, hm⟩ : tt n = true ∧ _)]
      by_cases hD : D n = true
      · rw [if_pos ⟨hD, hm⟩] at h
        exact ⟨x, h, rfl⟩
      · rw [if_neg (fun hc => hD hc.1)] at h
        obtain ⟨y, h1, h2⟩ := hf.kinds n (by omega) x h
        obtain ⟨o, k1, k2, _, _⟩ := (hf.at (i := n) (by omega)).put m hm
        exact ⟨o, k1, by rw [← k2 y h1, h2]⟩
    · rw [if_neg (fun hc => hm hc.2)] at h ⊢
      exact hf.kinds n (by omega) x h

/-- Closed under what has to come before. -/
def Closed (ops : Array Oper) (D : Nat → Bool) : Prop := ∀ (i : Nat) (o : Oper) (e : Edge), ops[i]? = some o → D i = true → e ∈ o.after → Region.binds .any e = true → D e.on = true

theorem closed_mask (hf : DF P E cl act ops r ms st0 lim) {D : Nat → Bool} (hD : Closed ops D) : ∀ (i : Nat) (o : Oper), ops[i]? = some o → (∀ e ∈ o.after, Region.binds .any e = true → D e.on = true) → ∀ k, Nat.testBit (ms.getD i 0) k = true → D k = true := by
  intro i
  induction i using Nat.strongRecOn with
  | _ i ih =>
    intro o ho hdep k hk
    obtain ⟨e, he, hb, h⟩ := hf.ms' i o k ho hk
    have hlt := hf.edge i o e ho he hb
    have hDe := hdep e he hb
    rcases h with rfl | h
    · exact hDe
    · have hsz : i < ops.size := (Array.getElem?_eq_some_iff.1 ho).1
      have hoe : ops[e.on]? = some ops[e.on] := Array.getElem?_eq_getElem (by omega)
      exact ih e.on hlt _ hoe (fun e' he' hb' => hD e.on _ e' hoe hDe he' hb') k h

theorem step_apart (hf : DF P E cl act ops r ms st0 lim) {D : Nat → Bool} (hD : Closed ops D) {i : Nat} {o : Oper} (ho : ops[i]? = some o) (hi : D i = false) (hdep : ∀ e ∈ o.after, Region.binds .any e = true → D e.on = true) {k : Nat} {o' : Oper} (ho' : ops[k]? = some o') (hne : k ≠ i) :
    D k = decide (k < i) ∨ (k < i ∧ pairOk (r k) (r i) = true ∧ o'.apart ops o = true) ∨ (i < k ∧ pairOk (r i) (r k) = true ∧ o.apart ops o' = true) := by
  rcases Nat.lt_or_ge k i with hlt | hge
  · rcases hf.pair k i o' o hlt ho' ho with h | h
    · left
      rw [closed_mask hf hD i o ho hdep k h]
      simp [hlt]
    · exact .inr (.inl ⟨hlt, h⟩)
  · have hlt : i < k := by omega
    rcases hf.pair i k o o' hlt ho ho' with h | h
    · left
      cases hDk : D k with
      | false => simp; omega
      | true =>
        have := closed_mask hf hD k _ ho' (fun e he hb => hD k _ e ho' hDk he hb) i h
        rw [hi] at this
        cases this
    · exact .inr (.inr ⟨hlt, h⟩)

theorem dstD_some {n d : Nat} {o : Oper} (h : dstD n o = some d) : o.dst = some d := by
  unfold dstD at h
  cases ho : o.dst with
  | none => rw [ho] at h; cases h
  | some e =>
    rw [ho] at h
    simp only at h
    cases hb : Nat.blt e n with
    | true => rw [hb] at h; exact h
    | false => rw [hb] at h; cases h

section
variable {D : Nat → Bool}
/-- What the operation looks at is as it was in the text's run. -/
theorem mix_sub (hf : DF P E cl act ops r ms st0 lim) (hD : Closed ops D) {i : Nat} {o : Oper} (ho : ops[i]? = some o) (hi : D i = false) (hdep : ∀ e ∈ o.after, Region.binds .any e = true → D e.on = true) : Sub (mixH r D st0.hp.get ops.size) (r i).r := by
  have hil : i < ops.size := (Array.getElem?_eq_some_iff.1 ho).1
  have hO := hf.at hil
  have hget : ∀ id o', (r i).r.get id = some o' → mixH r D st0.hp.get ops.size id = some o' := by
    intro id o' hr
    obtain ⟨hd, hH⟩ := hO.sees (id := id) (by rw [hr]; simp)
    rw [hr] at hH
    rw [← hH, ← mixH_prefix (r := r) (H0 := st0.hp.get) (Nat.le_of_lt hil)]
    refine mixH_congr _ fun k hk hm => ?_
    by_cases hne : k = i
    · subst hne; simp [hi]
    · rcases step_apart hf hD ho hi hdep (Array.getElem?_eq_getElem hk) hne with h | ⟨_, h, _⟩ | ⟨hlt, h, _⟩
      · exact h
      · exact absurd hd ((pairOk_spec h).1 id hm).1
      · rcases (pairOk_spec h).2 id hm with h | h
        · rw [hO.lo] at h
          have hk' : (r k).hp.next ≤ lim := Nat.le_trans (hf.mono' (i := k + 1) (by omega) (Nat.le_refl _)) hf.le
          rw [hf.free i (Nat.le_of_lt hil) id h.1 (by omega)] at hH
          cases hH
        · exact absurd hd h
  refine ⟨hget, fun f hd sh m hfm hmem hgrow => ?_⟩
  obtain ⟨n, c, d, hgrow⟩ := hgrow
  obtain ⟨hfd, hfH⟩ := hO.sees (id := f) (by rw [hfm]; simp)
  rw [hfm] at hfH
  rcases hO.fam with ⟨l, e, h⟩ | ⟨l, e, h⟩
  · rw [e] at hfd
    exact h f (has_only.1 hfd) hd sh m hfm hmem
  · intro hnone
    obtain ⟨y, hy, hyk⟩ := hf.kinds ops.size (Nat.le_refl _) _ hgrow
    rw [e] at hfd
    by_cases hml : m ∈ l
    · obtain ⟨x, hx, hxf⟩ := h m hml
      rw [← mixH_prefix (r := r) (H0 := st0.hp.get) (Nat.le_of_lt hil)] at hx
      obtain ⟨y', hy', hyk'⟩ := hf.kinds ops.size (Nat.le_refl _) _ hx
      rw [hy] at hy'
      cases hy'
      exact has_but.1 hfd (hxf f (by rw [← hyk', hyk]; rfl))
    · have h1 := hO.rget m
      rw [e, if_pos (has_but.2 hml), hnone] at h1
      have h2 := hf.born h1.symm (ops.size - i) (by omega)
      rw [show i + (ops.size - i) = ops.size by omega] at h2
      have h3 := h2 (by rw [hy]; simp)
      exact hf.nomem i (Nat.le_of_lt hil) f hd m sh hfH hmem h3.1 (Nat.lt_of_lt_of_le h3.2 hf.le)

theorem mix_tmps (hf : DF P E cl act ops r ms st0 lim) (hD : Closed ops D) {i : Nat} {o : Oper} (ho : ops[i]? = some o) (hi : D i = false) (hdep : ∀ e ∈ o.after, Region.binds .any e = true → D e.on = true) (j : Nat) :
    tmAt (r i).tr j = .any ∨ tmAt (r i).tr j = mixT r D (tmAt st0.tm) ops.size j := by
  have hil : i < ops.size := (Array.getElem?_eq_some_iff.1 ho).1
  have hO := hf.at hil
  have eo : ops[i] = o := by rw [Array.getElem?_eq_getElem hil] at ho; exact Option.some.inj ho
  rw [eo] at hO
  rcases hO.tr j with h | ⟨h1, h2⟩
  · exact .inl h
  · right
    rw [h2, ← mixT_prefix (r := r) (Nat.le_of_lt hil)]
    refine (mixT_congr _ fun k hk hm => ?_).symm
    by_cases hne : k = i
    · subst hne; simp [hi]
    · have hd := dstD_some ((hf.at hk).dst.symm.trans hm)
      rcases step_apart hf hD ho hi hdep (Array.getElem?_eq_getElem hk) hne with h | ⟨_, _, h⟩ | ⟨_, _, h⟩
      · exact h
      · exact absurd h1 ((Oper.apart_spec h).1 j hd)
      · exact absurd h1 ((Oper.apart_spec h).2.2 j hd)

theorem mix_putH (hf : DF P E cl act ops r ms st0 lim) (hD : Closed ops D) {i : Nat} {o : Oper} (ho : ops[i]? = some o) (hi : D i = false) (hdep : ∀ e ∈ o.after, Region.binds .any e = true → D e.on = true) {D' : Nat → Bool} (h1 : ∀ k, k ≠ i → D' k = D k) (h2 : D' i = true) (id : Nat) :
    mixH r D' st0.hp.get ops.size id = if id ∈ (r i).hp.log then (r i).hp.get id else mixH r D st0.hp.get ops.size id := by
  have hil : i < ops.size := (Array.getElem?_eq_some_iff.1 ho).1
  refine mixH_insert hil h1 hi h2 fun k hik hk hDk hm => ?_
  rcases step_apart hf hD ho hi hdep (Array.getElem?_eq_getElem hk) (by omega) with h | ⟨hlt, _⟩ | ⟨_, h, _⟩
  · rw [hDk] at h; simp at h; omega
  · omega
  · exact fun hc => ((pairOk_spec h).1 id hc).2 hm
theorem mix_putT (hf : DF P E cl act ops r ms st0 lim) (hD : Closed ops D) {i : Nat} {o : Oper} (ho : ops[i]? = some o) (hi : D i = false) (hdep : ∀ e ∈ o.after, Region.binds .any e = true → D e.on = true) {D' : Nat → Bool} (h1 : ∀ k, k ≠ i → D' k = D k) (h2 : D' i = true) (x : Nat) :
    mixT r D' (tmAt st0.tm) ops.size x = if (r i).dst = some x then (r i).v else mixT r D (tmAt st0.tm) ops.size x := by
  have hil : i < ops.size := (Array.getElem?_eq_some_iff.1 ho).1
  have eo : ops[i] = o := by rw [Array.getElem?_eq_getElem hil] at ho; exact Option.some.inj ho
  refine mixT_insert hil h1 hi h2 fun k hik hk hDk hm hc => ?_
  have hd := dstD_some ((hf.at hk).dst.symm.trans hm)
  have hd' := dstD_some ((hf.at hil).dst.symm.trans hc)
  rw [eo] at hd'
  rcases step_apart hf hD ho hi hdep (Array.getElem?_eq_getElem hk) (by omega) with h | ⟨hlt, _⟩ | ⟨_, _, h⟩
  · rw [hDk] at h; simp at h; omega
  · omega
  · exact (Oper.apart_spec h).2.1 x hd' hd
end
end
end Go.Cx
