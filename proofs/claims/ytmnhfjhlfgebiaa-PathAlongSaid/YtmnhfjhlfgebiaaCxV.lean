/- The evaluator: the checks of a drawn region. No condition. -/
import Derived.Test.YtmnhfjhlfgebiaaCxU
set_option linter.unusedVariables false
noncomputable section
namespace Go.Cx
open Go.RowKit
variable {T : Nat → Type} {P : Program} {E : Enc T} {cl : Bool} {act : Tgt → List (AV T) → Hp T → Tree (AV T × Hp T)}

theorem maskOf_spec {acc : List Nat} {o : Oper} {k : Nat} (h : Nat.testBit (maskOf acc o) k = true) : ∃ e ∈ o.after, Region.binds .any e = true ∧ (k = e.on ∨ Nat.testBit (acc.getD e.on 0) k = true) := by
  have key : ∀ (l : List Edge) (m : Nat), Nat.testBit (l.foldl (fun m e => bif Region.binds .any e then Nat.lor m (Nat.lor (2 ^ e.on) (acc.getD e.on 0)) else m) m) k = true → Nat.testBit m k = true ∨ ∃ e ∈ l, Region.binds .any e = true ∧ (k = e.on ∨ Nat.testBit (acc.getD e.on 0) k = true) := by
    intro l
    induction l with
    | nil => intro m h; exact .inl h
    | cons e l ih =>
      intro m h
      rcases ih _ h with h | ⟨e', he', h⟩
      · cases hb : Region.binds .any e with
        | false => simp only [hb, cond_false] at h; exact .inl h
        | true =>
          simp only [hb, cond_true] at h
          have h' : Nat.testBit (m ||| (2 ^ e.on ||| acc.getD e.on 0)) k = true := h
          rw [Nat.testBit_or, Nat.testBit_or, Bool.or_eq_true, Bool.or_eq_true] at h'
          rcases h' with h' | h' | h'
          · exact .inl h'
          · rw [Nat.testBit_two_pow] at h'
            exact .inr ⟨e, by simp, hb, .inl (by simp at h'; exact h'.symm)⟩
          · exact .inr ⟨e, by simp, hb, .inr h'⟩
      · exact .inr ⟨e', List.mem_cons_of_mem _ he', h⟩
  rcases key _ 0 h with h | ⟨e, he, h⟩
  · simp at h
  · exact ⟨e, by simpa using he, h⟩

theorem masks_spec : ∀ (os : List Oper) (acc : List Nat), (∀ j, j < acc.length → (masks os acc)[j]? = acc[j]?) ∧ ∀ (j : Nat) (o : Oper), os[j]? = some o → ∃ m, (masks os acc)[acc.length + j]? = some m ∧ m = maskOf ((masks os acc).take (acc.length + j)) o
  | [], acc => ⟨fun _ _ => rfl, fun j o h => by simp at h⟩
  | o :: os, acc => by
    obtain ⟨h1, h2⟩ := masks_spec os (acc ++ [maskOf acc o])
    have hpre : ∀ j, j < acc.length → (masks (o :: os) acc)[j]? = acc[j]? := fun j hj => by
      rw [masks, h1 j (by simp; omega), List.getElem?_append_left hj]
    refine ⟨hpre, fun j o' hj => ?_⟩
    cases j with
    | zero =>
      simp at hj
      subst hj
      refine ⟨maskOf acc o, ?_, ?_⟩
      · rw [masks, Nat.add_zero, h1 acc.length (by simp)]
        simp
      · congr 1
        rw [Nat.add_zero]
        refine List.ext_getElem? fun k => ?_
        rw [List.getElem?_take]
        split
        · rename_i hk
          exact (hpre k hk).symm
        · rw [List.getElem?_eq_none (by omega)]
    | succ j =>
      obtain ⟨m, hm, e⟩ := h2 j o' (by simpa using hj)
      have ea : (acc ++ [maskOf acc o]).length + j = acc.length + (j + 1) := by simp; omega
      rw [ea] at hm e
      exact ⟨m, hm, e⟩

theorem edgesOk_spec : ∀ (os : List Oper) (i0 : Nat), edgesOk i0 os = true → ∀ (j : Nat) (o : Oper) (e : Edge), os[j]? = some o → e ∈ o.after → Region.binds .any e = true → e.on < i0 + j
  | [], _, _ => fun j o e h => by simp at h
  | x :: os, i0, h => fun j o e hj he hb => by
    simp only [edgesOk, Bool.and_eq_true, List.all_eq_true, Bool.or_eq_true, Bool.not_eq_true'] at h
    cases j with
    | zero =>
      simp at hj
      subst hj
      rcases h.1 e (by simpa using he) with h | h
      · rw [hb] at h; cases h
      · have : e.on.blt i0 = true := h
        have h2 : e.on + 1 ≤ i0 := Nat.le_of_ble_eq_true this
        omega
    | succ j =>
      have := edgesOk_spec os (i0 + 1) h.2 j o e (by simpa using hj) he hb
      omega

theorem apartOne_spec {ops : Array Oper} {m : Nat} {q : Oper} : ∀ (ps : List Oper) (k0 : Nat), apartOne ops m q k0 ps = true → ∀ (k : Nat) (p : Oper), ps[k]? = some p → Nat.testBit m (k0 + k) = true ∨ p.apart ops q = true
  | [], _, _ => fun k p h => by simp at h
  | x :: ps, k0, h => fun k p hk => by
    simp only [apartOne, Bool.and_eq_true, Bool.or_eq_true] at h
    cases k with
    | zero =>
      simp at hk
      subst hk
      exact h.1
    | succ k =>
      have := apartOne_spec ps (k0 + 1) h.2 k p (by simpa using hk)
      rwa [show k0 + 1 + k = k0 + (k + 1) by omega] at this

theorem apartAll_spec {ops : Array Oper} : ∀ (qs : List Oper) (prev : List Oper) (ms : List Nat), apartAll ops prev ms qs = true → ∀ (j : Nat) (q : Oper), qs[j]? = some q → ∃ m, ms[j]? = some m ∧ ∀ (k : Nat) (p : Oper), (prev ++ qs)[k]? = some p → k < prev.length + j → Nat.testBit m k = true ∨ p.apart ops q = true
  | [], _, _, _ => fun j q h => by simp at h
  | x :: qs, prev, [], h => by simp [apartAll] at h
  | x :: qs, prev, m :: ms, h => fun j q hj => by
    simp only [apartAll, Bool.and_eq_true] at h
    cases j with
    | zero =>
      simp at hj
      subst hj
      refine ⟨m, rfl, fun k p hk hlt => ?_⟩
      rw [List.getElem?_append_left (by omega)] at hk
      have := apartOne_spec prev 0 h.1 k p hk
      rwa [Nat.zero_add] at this
    | succ j =>
      obtain ⟨m', h1, h2⟩ := apartAll_spec qs (prev ++ [x]) ms h.2 j q (by simpa using hj)
      refine ⟨m', by simpa using h1, fun k p hk hlt => h2 k p (by simpa using hk) (by simp; omega)⟩

theorem pairOk_nil {q p : Rc T} (h1 : q.hp.log = []) (h2 : p.hp.log = []) : pairOk q p = true := by
  unfold pairOk
  rw [h1, h2]
  rfl

theorem chkOne_spec {m : Nat} {p : Rc T} : ∀ (ps : List (Rc T)) (k0 : Nat), chkOne m p k0 ps = true → ∀ (k : Nat) (q : Rc T), ps[k]? = some q → Nat.testBit m (k0 + k) = true ∨ pairOk q p = true
  | [], _, _ => fun k p h => by simp at h
  | x :: ps, k0, h => fun k q hk => by
    simp only [chkOne, Bool.cond_false_right, Bool.cond_true_left, Bool.and_eq_true, Bool.or_eq_true] at h
    cases k with
    | zero =>
      simp at hk
      subst hk
      exact h.1
    | succ k =>
      have := chkOne_spec ps (k0 + 1) h.2 k q (by simpa using hk)
      rwa [show k0 + 1 + k = k0 + (k + 1) by omega] at this

theorem chkW_spec {m : Nat} {p : Rc T} : ∀ (wr : List (Nat × Rc T)), chkW m p wr = true → ∀ k q, (k, q) ∈ wr → Nat.testBit m k = true ∨ pairOk q p = true
  | [], _ => fun k q h => by simp at h
  | (k0, q0) :: wr, h => fun k q hk => by
    simp only [chkW, Bool.cond_false_right, Bool.cond_true_left, Bool.and_eq_true, Bool.or_eq_true] at h
    rcases List.mem_cons.1 hk with e | hk
    · obtain ⟨rfl, rfl⟩ : k = k0 ∧ q = q0 := ⟨congrArg Prod.fst e, congrArg Prod.snd e⟩
      exact h.1
    · exact chkW_spec wr h.2 k q hk

theorem chkAll_spec : ∀ (qs : List (Rc T)) (i : Nat) (wr : List (Nat × Rc T)) (prev : List (Rc T)) (ms : List Nat), chkAll i wr prev ms qs = true → prev.length = i → (∀ (k : Nat) (q : Rc T), prev[k]? = some q → q.hp.log ≠ [] → (k, q) ∈ wr) →
    ∀ (j : Nat) (p : Rc T), qs[j]? = some p → ∃ m, ms[j]? = some m ∧ ∀ (k : Nat) (q : Rc T), (prev ++ qs)[k]? = some q → k < i + j → Nat.testBit m k = true ∨ pairOk q p = true
  | [], _, _, _, _, _, _, _ => fun j q h => by simp at h
  | x :: qs, i, wr, prev, [], h, _, _ => by simp [chkAll] at h
  | x :: qs, i, wr, prev, m :: ms, h, hl, hw => by
    unfold chkAll at h
    have hnext : ∀ {wr' : List (Nat × Rc T)}, chkAll (i + 1) wr' (prev ++ [x]) ms qs = true → (∀ k q, (k, q) ∈ wr → (k, q) ∈ wr') → (x.hp.log ≠ [] → (i, x) ∈ wr') →
        ∀ (j : Nat) (p : Rc T), qs[j]? = some p → ∃ m, ms[j]? = some m ∧ ∀ (k : Nat) (q : Rc T), (prev ++ (x :: qs))[k]? = some q → k < i + (j + 1) → Nat.testBit m k = true ∨ pairOk q p = true := by
      intro wr' h1 h2 h3 j p hp
      obtain ⟨m', k1, k2⟩ := chkAll_spec qs (i + 1) wr' (prev ++ [x]) ms h1 (by simp [hl]) (fun k q hk hne => by
        by_cases hlt : k < prev.length
        · rw [List.getElem?_append_left hlt] at hk
          exact h2 _ _ (hw k q hk hne)
        · rw [List.getElem?_append_right (by omega)] at hk
          have e : k = i := by
            have := (List.getElem?_eq_some_iff.1 hk).1
            simp at this
            omega
          subst e
          rw [hl] at hk
          simp at hk
          subst hk
          exact h3 hne) j p hp
      exact ⟨m', k1, fun k q hk hlt => k2 k q (by simpa using hk) (by omega)⟩
    have hone : (∀ (k : Nat) (q : Rc T), prev[k]? = some q → Nat.testBit m k = true ∨ pairOk q x = true) → ∀ (k : Nat) (q : Rc T), (prev ++ (x :: qs))[k]? = some q → k < i + 0 → Nat.testBit m k = true ∨ pairOk q x = true := by
      intro h1 k q hk hlt
      rw [List.getElem?_append_left (by omega)] at hk
      exact h1 k q hk
    intro j p hp
    cases hx : x.hp.log with
    | nil =>
      rw [hx] at h
      simp only [Bool.cond_false_right, Bool.and_eq_true] at h
      cases j with
      | zero =>
        simp at hp
        subst hp
        refine ⟨m, rfl, hone fun k q hk => ?_⟩
        by_cases hq : q.hp.log = []
        · exact .inr (pairOk_nil hq hx)
        · exact chkW_spec wr h.1 k q (hw k q hk hq)
      | succ j =>
        obtain ⟨m', k1, k2⟩ := hnext h.2 (fun _ _ h => h) (fun hne => absurd hx hne) j p (by simpa using hp)
        exact ⟨m', by simpa using k1, k2⟩
    | cons y l =>
      rw [hx] at h
      simp only [Bool.cond_false_right, Bool.and_eq_true] at h
      cases j with
      | zero =>
        simp at hp
        subst hp
        refine ⟨m, rfl, hone fun k q hk => ?_⟩
        have := chkOne_spec prev 0 h.1 k q hk
        rwa [Nat.zero_add] at this
      | succ j =>
        obtain ⟨m', k1, k2⟩ := hnext h.2 (fun _ _ h => List.mem_cons_of_mem _ h) (fun _ => List.mem_cons_self) j p (by simpa using hp)
        exact ⟨m', by simpa using k1, k2⟩

theorem appR_tm (q : Rc T) (st : St T) (x : Nat) : tmAt (appR q st).tm x = if q.dst = some x then q.v else tmAt st.tm x := by
  unfold appR
  cases he : q.dst with
  | none => simp
  | some e =>
    simp only
    rw [tmAt_set]
    by_cases hx : x = e
    · subst hx; simp
    · rw [if_neg hx, if_neg (fun hc => hx (Option.some.inj hc).symm)]

section
variable {ops : Array Oper} {rs : List (Rc T)} {st0 : St T}
/-- The text's run, as a mixed state. -/
theorem fold_mix (d : Rc T) (hA : ActGr act) (hlen : rs.length = ops.size) (hs : ∀ (j : Nat) (o : Oper), ops.toList[j]? = some o → ∃ q, rs[j]? = some q ∧ StepFact P E cl act ops (0 + j) o q ((rs.take j).foldl (fun s q => appR q s) st0)) : ∀ (i : Nat), i ≤ rs.length →
    ((rs.take i).foldl (fun s q => appR q s) st0).n = st0.n ∧ (∀ x, tmAt ((rs.take i).foldl (fun s q => appR q s) st0).tm x = mixT (fun k => rs.getD k d) tt (tmAt st0.tm) i x) ∧
      (∀ id, ((rs.take i).foldl (fun s q => appR q s) st0).hp.get id = mixH (fun k => rs.getD k d) tt st0.hp.get i id) ∧ ((rs.take i).foldl (fun s q => appR q s) st0).hp.next = mixN (fun k => rs.getD k d) st0.hp.next i
  | 0, _ => ⟨rfl, fun _ => rfl, fun _ => rfl, rfl⟩
  | i + 1, hi => by
    obtain ⟨h1, h2, h3, h4⟩ := fold_mix d hA hlen hs i (by omega)
    have hil : i < rs.length := by omega
    have hq : rs[i]? = some rs[i] := List.getElem?_eq_getElem hil
    have hd : rs.getD i d = rs[i] := by simp [List.getD, hq]
    have hop : ops.toList[i]? = some ops[i] := by rw [Array.getElem?_toList]; exact Array.getElem?_eq_getElem (by omega)
    obtain ⟨q, k1, k2⟩ := hs i _ hop
    rw [hq] at k1
    obtain rfl := Option.some.inj k1
    have ht : rs.take (i + 1) = rs.take i ++ [rs[i]] := by rw [List.take_add_one, hq]; rfl
    rw [ht, List.foldl_append]
    simp only [List.foldl_cons, List.foldl_nil]
    have hG : Gr rs[i].r rs[i].hp := Tree.reach_every (Q := fun x : AV T × Hp T => Gr rs[i].r x.2) k2.run (dval_every hA)
    refine ⟨h1, fun x => ?_, fun id => ?_, ?_⟩
    · rw [appR_tm, h2 x]
      simp only [mixT, hd, tt, true_and]
    · rw [appR_get k2.rr hG, h3 id]
      simp only [mixH, hd, tt, true_and]
    · show rs[i].hp.next = (rs.getD i d).hp.next
      rw [hd]
end
end Go.Cx
