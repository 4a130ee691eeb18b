/- The evaluator: more pure operations are sound. No condition. -/
import Derived.Test.YtmnhfjhlfgebiaaCxD
set_option linter.unusedVariables false
noncomputable section
namespace Go.Cx
open Go.RowKit
variable {T : Nat → Type} {P : Program} {E : Enc T}
section
variable {w : World} {M : Nat → Prop} {β : Nat → Option Hd} {cl : Bool}

theorem partA_runs {t : TypeId} {d : TypeDesc} (hu : P.underlying t = some d) {cs : List (AV T)} {vs : Array Value} (hl : cs.length = vs.size)
    (hr : ∀ (j : Nat) (c : AV T) (v : Value), cs[j]? = some c → vs[j]? = some v → RV P E w M β c v) (off : Nat) {r : AV T} (h : partA P t cs off = some r) :
    ∃ u, (part t vs off).run P w = .ok u w ∧ RV P E w M β r u := by
  obtain ⟨i, hi⟩ := info_of_underlying hu
  unfold partA at h
  cases hag : isAggT P t with
  | true =>
    simp only [hag, cond_true, Option.some.injEq] at h
    subst h
    refine ⟨.agg (vs.extract off (off + P.cellsOf t)), ?_, .agg (by simp; omega) fun j c v hcj hv => ?_⟩
    · simp [part, run_isAgg hu, hag, run_sizeOf' hi]
    · rw [List.getElem?_take] at hcj
      split at hcj
      · rw [List.getElem?_drop] at hcj
        rw [Array.getElem?_extract] at hv
        split at hv
        · exact hr _ _ _ hcj hv
        · cases hv
      · cases hcj
  | false =>
    simp only [hag, cond_false] at h
    have hlt : off < vs.size := by rw [← hl]; exact (List.getElem?_eq_some_iff.1 h).1
    have h1 : vs[off]? = some vs[off] := Array.getElem?_eq_getElem hlt
    exact ⟨vs[off], by simp [part, run_isAgg hu, hag, h1], hr _ _ _ h h1⟩

theorem eqv_underlying {d : Nat} {t : TypeId} {x y : AV T} {b : Bool} (h : eqv P E d t x y = some b) : ∃ u, P.underlying t = some u := by
  cases d with
  | zero => simp [eqv] at h
  | succ d =>
    cases hu : P.underlying t with
    | none => simp [eqv, hu] at h
    | some u => exact ⟨u, rfl⟩

theorem eqFields_runs {d D : Nat} (ih : ∀ (t : TypeId) (x y : AV T) (vx vy : Value) (b : Bool), RV P E w M β x vx → RV P E w M β y vy → eqv P E d t x y = some b → (Op.equalIn D t vx vy).run P w = .ok b w)
    {xs ys : List (AV T)} {us vs : Array Value} (hlx : xs.length = us.size) (hrx : ∀ (j : Nat) (c : AV T) (v : Value), xs[j]? = some c → us[j]? = some v → RV P E w M β c v)
    (hly : ys.length = vs.size) (hry : ∀ (j : Nat) (c : AV T) (v : Value), ys[j]? = some c → vs[j]? = some v → RV P E w M β c v) :
    ∀ (fs : List Field) (b : Bool), eqFields P (eqv P E d) xs ys fs = some b → (Op.eqFields D us vs fs).run P w = .ok b w := by
  intro fs
  induction fs with
  | nil =>
    intro b h
    simp only [eqFields, Option.some.injEq] at h
    subst h
    simp [Op.eqFields]
  | cons f fs ihf =>
    intro b h
    simp only [eqFields] at h
    split at h
    · rename_i x y hx hy
      split at h
      · rename_i p q hp hq
        cases hn : (f.name != "_") with
        | false => simp [hn] at h
        | true =>
          simp only [hn, cond_true, Option.some.injEq] at h
          have hn' : f.name ≠ "_" := by simpa using hn
          obtain ⟨u, hu⟩ := eqv_underlying hp
          obtain ⟨ux, hux, hrux⟩ := partA_runs hu hlx hrx f.offset hx
          obtain ⟨uy, huy, hruy⟩ := partA_runs hu hly hry f.offset hy
          have he := ih _ _ _ _ _ _ hrux hruy hp
          have hrest := ihf _ hq
          subst h
          cases p <;> simp [Op.eqFields, hn', hux, huy, he, hrest]
      · cases h
    · cases h

theorem eqv_runs (hE : E.Good P) : ∀ (d D : Nat) (_ : d ≤ D) (t : TypeId) (x y : AV T) (vx vy : Value) (b : Bool), RV P E w M β x vx → RV P E w M β y vy → eqv P E d t x y = some b →
    (Op.equalIn D t vx vy).run P w = .ok b w := by
  intro d
  induction d with
  | zero => intro D _ t x y vx vy b _ _ h; simp [eqv] at h
  | succ d ih =>
    intro D hD t x y vx vy b hx hy h
    obtain ⟨D, rfl⟩ : ∃ D', D = D' + 1 := ⟨D - 1, by omega⟩
    unfold eqv at h
    split at h
    · rename_i hu
      split at h
      · rename_i p q hp hq
        have e1 := asB_val hx hp
        have e2 := asB_val hy hq
        subst e1; subst e2
        simp only [Option.some.injEq] at h
        subst h
        simp [Op.equalIn, run_underlying hu]
      · cases h
    · rename_i k0 hu
      split at h
      · rename_i k a k' c
        cases hk : decide (k = k') with
        | false => simp only [hk, cond_false] at h; cases h
        | true =>
          simp only [hk, cond_true, Option.some.injEq] at h
          have hk' : k = k' := of_decide_eq_true hk
          subst h; subst hk'
          cases hx; cases hy
          simp [Op.equalIn, run_underlying hu]
      · cases h
    · rename_i hu
      split at h
      · rename_i a c
        simp only [Option.some.injEq] at h
        subst h
        cases hx; cases hy
        exact run_equalIn_string w D t _ _ hu
      · cases h
    · rename_i e hu
      split at h
      · simp only [Option.some.injEq] at h
        subst h
        cases hx; cases hy
        simp [Op.equalIn, run_underlying hu]
      · simp only [Option.some.injEq] at h
        subst h
        cases hx; cases hy
        simp [Op.equalIn, run_underlying hu]
      · simp only [Option.some.injEq] at h
        subst h
        cases hx; cases hy
        simp [Op.equalIn, run_underlying hu]
      · cases h
    · rename_i hu
      split at h
      · simp only [Option.some.injEq] at h
        subst h
        cases hx; cases hy
        simp [Op.equalIn, run_underlying hu]
      · simp only [Option.some.injEq] at h
        subst h
        cases hx; cases hy
        simp [Op.equalIn, run_underlying hu]
      · simp only [Option.some.injEq] at h
        subst h
        cases hx; cases hy
        simp [Op.equalIn, run_underlying hu]
      · simp only [Option.some.injEq] at h
        subst h
        cases hx; cases hy
        simp [Op.equalIn, run_underlying hu]
      · simp only [Option.some.injEq] at h
        subst h
        cases hx; cases hy
        simp [Op.equalIn, run_underlying hu]
      · cases h
    · rename_i fields hu
      split at h
      · rename_i xs ys
        cases hq : E.eqt t with
        | false => simp only [hq, cond_false] at h; cases h
        | true =>
          simp only [hq, cond_true] at h
          obtain ⟨_, h2⟩ := hE.eqt _ hq
          have hf : P.fieldsOf t = fields := by simp [Program.fieldsOf, hu]
          cases hx with
          | agg hlx hrx =>
            cases hy with
            | agg hly hry =>
              rw [run_equalIn_struct w D t _ _ (by rw [hf]; exact hu) h2, hf]
              exact eqFields_runs (fun t x y vx vy b hx hy he => ih D (by omega) t x y vx vy b hx hy he) hlx hrx hly hry _ _ h
      · cases h
    · cases h

theorem eq_guard_runs (hE : E.Good P) {d : Nat} {op : BinOp} {t : TypeId} {x y : AV T} {vx vy : Value} {b : Bool} (hx : RV P E w M β x vx) (hy : RV P E w M β y vy) (h : eqv P E d t x y = some b) {xo yo : Operand} :
    (eqGuard op t xo yo vx vy).run P w = .ok () w := by
  cases d with
  | zero => simp [eqv] at h
  | succ d =>
    unfold eqv at h
    split at h
    · split at h
      · rename_i p q hp hq
        have e1 := asB_val hx hp
        have e2 := asB_val hy hq
        subst e1; subst e2
        simp [eqGuard]
      · cases h
    · split at h
      · cases hx; cases hy; simp [eqGuard]
      · cases h
    · split at h
      · cases hx; cases hy; simp [eqGuard]
      · cases h
    · split at h
      · cases hx; cases hy; simp [eqGuard]
      · cases hx; cases hy; simp [eqGuard]
      · cases hx; cases hy; simp [eqGuard]
      · cases h
    · split at h
      · cases hx; cases hy; simp [eqGuard]
      · cases hx; cases hy; simp [eqGuard]
      · cases hx; cases hy; simp [eqGuard]
      · cases hx; cases hy; simp [eqGuard]
      · cases hx; cases hy; simp [eqGuard]
      · cases h
    · split at h
      · cases hq : E.eqt t with
        | false => simp only [hq, cond_false] at h; cases h
        | true =>
          obtain ⟨h1, _⟩ := hE.eqt _ hq
          cases hx; cases hy
          simp [eqGuard, h1]
      · cases h
    · cases h

theorem eqv_any_left {d : Nat} {t : TypeId} {y : AV T} : eqv P E d t .any y = none := by
  cases d with
  | zero => rfl
  | succ d =>
    unfold eqv
    split <;> first | rfl | (simp [asB])
theorem eqv_any_right {d : Nat} {t : TypeId} {x : AV T} : eqv P E d t x .any = none := by
  cases d with
  | zero => rfl
  | succ d =>
    unfold eqv
    split <;> first | rfl | (cases x <;> simp [asB])

theorem nilT_runs {t : TypeId} {x y : AV T} {vx vy : Value} (hx : RV P E w M β x vx) (hy : RV P E w M β y vy) {pos : Bool} {K : AV T → Prop} (h : (nilT P cl t x y pos).holds K) {op : BinOp} (hop : op = .eql ∨ op = .neq) {xo yo : Operand} :
    ∃ b : Bool, (eqGuard op t xo yo vx vy).run P w = .ok () w ∧ (binOp .eql t vx vy).run P w = .ok (.bool b) w ∧ (binOp .neq t vx vy).run P w = .ok (.bool (!b)) w ∧ K (mkB cl (if b then pos else !pos)) := by
  unfold nilT at h
  split at h
  · rename_i e hu
    split at h
    · split at h
      · rename_i τ l full
        have hg : (eqGuard op t xo yo vx vy).run P w = .ok () w := by
          cases hy
          cases hx <;> (rcases hop with rfl | rfl <;> simp [eqGuard])
        have hc : ∀ b, (Op.equalIn Op.maxDepth t vx vy).run P w = .ok b w → (binOp .eql t vx vy).run P w = .ok (.bool b) w ∧ (binOp .neq t vx vy).run P w = .ok (.bool (!b)) w := by
          intro b h2
          cases hy
          cases hx <;> (constructor <;> (simp only [binOp, Op.equal, Sem.run_bind, h2, Result.andThen_ok, Sem.run_pure]; done))
        have key : ∃ b : Bool, (Op.equalIn Op.maxDepth t vx vy).run P w = .ok b w ∧ (l ≠ [] → b = false) := by
          obtain ⟨D, hD⟩ : ∃ D, Op.maxDepth = D + 1 := ⟨Op.maxDepth - 1, by simp [Op.maxDepth]⟩
          rw [hD]
          cases hy
          cases hx with
          | sl0 h0 =>
            rename_i a cap
            cases a with
            | none => exact ⟨true, by simp [Op.equalIn, run_underlying hu], fun h => absurd rfl h⟩
            | some a => exact ⟨false, by simp [Op.equalIn, run_underlying hu], fun _ => rfl⟩
          | sl f => exact ⟨false, by simp [Op.equalIn, run_underlying hu], fun _ => rfl⟩
        obtain ⟨b, hb, hl⟩ := key
        refine ⟨b, hg, (hc b hb).1, (hc b hb).2, ?_⟩
        by_cases he : l = []
        · have := (h.1 (by rw [he]; rfl))
          cases b with
          | true => exact this.1
          | false => exact this.2
        · have := h.2 (by cases l with | nil => exact absurd rfl he | cons => rfl)
          rw [hl he]
          exact this
      · exact h.elim
    · exact h.elim
  · exact h.elim

theorem bin_runs {cc : Bool} (hE : E.Good P) {op : BinOp} {t : TypeId} {x y : AV T} {vx vy : Value} (hx : RV P E w M β x vx) (hy : RV P E w M β y vy) {K : AV T → Prop} (h : (popBin P E cl cc op t x y).holds K) {xo yo : Operand} :
    ∃ u r, (do eqGuard op t xo yo vx vy; binOp op t vx vy).run P w = .ok u w ∧ RV P E w M β r u ∧ K r := by
  unfold popBin at h
  split at h
  · rename_i k a k' b
    cases hx; cases hy
    cases hs : isShift op with
    | true => simp only [hs, cond_true] at h; exact shift_runs hs h
    | false =>
      simp only [hs, cond_false] at h
      have h2 := holds_bif h
      have hk' : k = k' := of_decide_eq_true h2.1
      subst hk'
      exact arith_runs hs h2.2
  · rename_i hnot
    have hcmp : ∀ b, eqv P E 8 t x y = some b → (binOp .eql t vx vy).run P w = .ok (.bool b) w ∧ (binOp .neq t vx vy).run P w = .ok (.bool (!b)) w := by
      intro b he
      have h2 := eqv_runs hE 8 Op.maxDepth (by simp [Op.maxDepth]) t x y vx vy b hx hy he
      cases hx <;> cases hy <;> first
        | exact absurd rfl (hnot _ _ _ _ rfl)
        | (rw [eqv_any_left] at he; cases he)
        | (rw [eqv_any_right] at he; cases he)
        | (constructor <;> (simp only [binOp, Op.equal, Sem.run_bind, h2, Result.andThen_ok, Sem.run_pure]; done))
        | skip
      all_goals
        unfold eqv at he
        split at he <;> first | (cases he; done) | skip
        all_goals simp only [Option.some.injEq] at he
        all_goals subst he
        all_goals constructor <;> simp [binOp, Op.stringOp]
    split at h
    · split at h
      · rename_i b he
        have h1 := eq_guard_runs hE (op := .eql) hx hy he (xo := xo) (yo := yo)
        exact ⟨.bool b, _, by simp only [Sem.run_bind, h1, Result.andThen_ok, (hcmp b he).1], mkB_rv, h⟩
      · obtain ⟨b, h1, h2, _, h4⟩ := nilT_runs hx hy h (op := .eql) (.inl rfl) (xo := xo) (yo := yo)
        refine ⟨.bool b, _, by simp only [Sem.run_bind, h1, Result.andThen_ok, h2], ?_, h4⟩
        cases b <;> exact mkB_rv
    · split at h
      · rename_i b he
        have h1 := eq_guard_runs hE (op := .neq) hx hy he (xo := xo) (yo := yo)
        exact ⟨.bool (!b), _, by simp only [Sem.run_bind, h1, Result.andThen_ok, (hcmp b he).2], mkB_rv, h⟩
      · obtain ⟨b, h1, _, h2, h4⟩ := nilT_runs hx hy h (op := .neq) (.inr rfl) (xo := xo) (yo := yo)
        refine ⟨.bool (!b), _, by simp only [Sem.run_bind, h1, Result.andThen_ok, h2], ?_, h4⟩
        cases b <;> exact mkB_rv
    · exact h.elim

theorem RV.single {y : AV T} {u : Value} (hy : RV P E w M β y u) : LR P E w M β [y] [u] := LR.nil.cons hy

theorem cells_one {y : AV T} {u : Value} (hy : RV P E w M β y u) (h1 : ∀ cs, y ≠ .agg cs) (h2 : y ≠ .any) : u.cells = #[u] := by
  cases hy <;> first | rfl | (exact absurd rfl (h1 _)) | (exact absurd rfl h2)

theorem cellsA_lr {x : AV T} {v : Value} {cs : List (AV T)} (hx : RV P E w M β x v) (h : cellsA x = some cs) : LR P E w M β cs v.cells.toList := by
  unfold cellsA at h
  split at h
  · simp only [Option.some.injEq] at h
    subst h
    cases hx with
    | agg hl hr => exact LR.of_array hl hr
  · cases h
  · rename_i h1 h2
    simp only [Option.some.injEq] at h
    subst h
    rw [cells_one hx h1 h2]
    exact hx.single

/-- Cells laid one behind the other into a row. -/
theorem foldl_set_get (off : Nat) : ∀ (vs : List Value) (k : Nat) (cur : Array Value), off + k + vs.length ≤ cur.size → ∀ j,
    ((vs.zipIdx k).foldl (fun (cs : Array Value) (x : Value × Nat) => cs.setIfInBounds (off + x.2) x.1) cur)[j]? = if off + k ≤ j ∧ j < off + k + vs.length then vs[j - (off + k)]? else cur[j]?
  | [], k, cur, _, j => by
    rw [if_neg (by simp)]
    rfl
  | v :: vs, k, cur, h, j => by
    simp only [List.length_cons] at h
    simp only [List.zipIdx_cons, List.foldl_cons]
    rw [foldl_set_get off vs (k + 1) _ (by simp; omega) j]
    simp only [List.length_cons]
    by_cases h1 : off + (k + 1) ≤ j ∧ j < off + (k + 1) + vs.length
    · rw [if_pos h1, if_pos (by omega), show j - (off + k) = (j - (off + (k + 1))) + 1 by omega, List.getElem?_cons_succ]
    · rw [if_neg h1]
      by_cases h2 : j = off + k
      · subst h2
        rw [if_pos (by omega), Array.getElem?_setIfInBounds_self_of_lt (by omega)]
        simp
      · rw [if_neg (by omega), Array.getElem?_setIfInBounds_ne (by omega)]

theorem foldl_set (off : Nat) (vs : List Value) (cur : Array Value) (h : off + vs.length ≤ cur.size) :
    (vs.zipIdx.foldl (fun (cs : Array Value) (x : Value × Nat) => cs.setIfInBounds (off + x.2) x.1) cur).toList = cur.toList.take off ++ vs ++ cur.toList.drop (off + vs.length) := by
  apply List.ext_getElem?
  intro j
  rw [Array.getElem?_toList, foldl_set_get off vs 0 cur (by omega) j]
  simp only [Nat.add_zero, List.getElem?_append, List.length_append, List.length_take, Array.length_toList, List.getElem?_take, List.getElem?_drop, Array.getElem?_toList]
  rw [Nat.min_eq_left (by omega)]
  by_cases h1 : j < off
  · rw [if_neg (by omega), if_pos (by omega), if_pos h1, if_pos h1]
  · by_cases h2 : j < off + vs.length
    · rw [if_pos (by omega), if_pos h2, if_neg h1]
    · rw [if_neg (by omega), if_neg h2]
      congr 1
      omega

theorem fill_runs {place : Nat → Option (Nat × Nat)} : ∀ (parts : List (Nat × AV T)) (vparts : List (Nat × Value)) (cs r : List (AV T)) (vs : Array Value),
    parts.map (·.1) = vparts.map (·.1) → LR P E w M β (parts.map (·.2)) (vparts.map (·.2)) → LR P E w M β cs vs.toList → fillA place cs parts = some r →
    ∃ us, Instr.fill place vs vparts = some us ∧ LR P E w M β r us.toList
  | [], vparts, cs, r, vs, h1, _, h3, h4 => by
    have : vparts = [] := by simpa using h1.symm
    subst this
    simp only [fillA, Option.some.injEq] at h4
    subst h4
    exact ⟨vs, rfl, h3⟩
  | (i, x) :: parts, [], cs, r, vs, h1, _, _, _ => by simp at h1
  | (i, x) :: parts, (i', v) :: vparts, cs, r, vs, h1, h2, h3, h4 => by
    simp only [List.map_cons, List.cons.injEq] at h1
    obtain ⟨rfl, h1⟩ := h1
    obtain ⟨hx, h2'⟩ := h2.uncons
    simp only [fillA] at h4
    cases hp : place i with
    | none => simp [hp] at h4
    | some os =>
      obtain ⟨off, size⟩ := os
      cases hc : cellsA x with
      | none => simp [hp, hc] at h4
      | some vc =>
        simp only [hp, hc] at h4
        cases hb : Nat.beq vc.length size && Nat.ble (off + vc.length) cs.length with
        | false => simp [hb] at h4
        | true =>
          simp only [hb, cond_true] at h4
          rw [Bool.and_eq_true] at hb
          have e1 : vc.length = size := bbeq hb.1
          have e2 : off + vc.length ≤ cs.length := bble hb.2
          have hvc := cellsA_lr hx hc
          have hl3 := h3.1
          have hl4 := hvc.1
          simp only [Array.length_toList] at hl3 hl4
          let vs' : Array Value := v.cells.zipIdx.foldl (fun cs (c, j) => cs.setIfInBounds (off + j) c) vs
          have hvs' : vs'.toList = vs.toList.take off ++ v.cells.toList ++ vs.toList.drop (off + v.cells.size) := by
            have hf := foldl_set off v.cells.toList vs (by simp; omega)
            simp only [Array.length_toList] at hf
            rw [← hf]
            simp only [vs', ← Array.foldl_toList, Array.toList_zipIdx]
          have hL : LR P E w M β (cs.take off ++ vc ++ cs.drop (off + vc.length)) vs'.toList := by
            rw [hvs', hl4]
            exact ((h3.take off).append hvc).append (h3.drop _)
          obtain ⟨us, hu1, hu2⟩ := fill_runs parts vparts _ r vs' h1 h2' hL h4
          refine ⟨us, ?_, hu2⟩
          rw [Instr.fill, hp]
          simp only
          rw [if_neg (by simp; omega)]
          exact hu1

theorem zero_runs {t : TypeId} {cs : List (AV T)} (h : zeroA P t = some cs) : ∃ z, (zeroValue t).run P w = .ok z w ∧ LR P E w M β cs z.cells.toList ∧ ∃ i, P.info? t = some i ∧ i.zero = some z := by
  unfold zeroA at h
  cases hi : P.info? t with
  | none => simp [hi] at h
  | some i =>
    cases hz : i.zero with
    | none => simp [hi, hz] at h
    | some z =>
      simp only [hi, hz, Option.some.injEq] at h
      subst h
      refine ⟨z, by simp [zeroValue, typeInfo, hi, hz], ⟨by simp, fun j c v hc hv => ?_⟩, i, rfl, hz⟩
      rw [List.getElem?_map, Option.map_eq_some_iff] at hc
      obtain ⟨x, hx, rfl⟩ := hc
      obtain rfl : x = v := Option.some.inj (hx.symm.trans hv)
      exact absV1_rv _

theorem zeroVal_runs {t : TypeId} {c : AV T} (h : zeroVal P t = some c) : ∃ z, (zeroValue t).run P w = .ok z w ∧ RV P E w M β c z := by
  unfold zeroVal at h
  cases hi : P.info? t with
  | none => simp [hi] at h
  | some i =>
    cases hz : i.zero with
    | none => simp [hi, hz] at h
    | some z =>
      simp only [hi, hz, Option.some.injEq] at h
      subst h
      exact ⟨z, by simp [zeroValue, typeInfo, hi, hz], absV_rv z⟩

theorem makeI_runs {t : TypeId} {x : AV T} {vx : Value} (hx : RV P E w M β x vx) {K : AV T → Prop} (h : (popMakeI P t x).holds K) :
    ∃ u r, (Instr.makeInterface t vx).run P w = .ok u w ∧ RV P E w M β r u ∧ K r := by
  unfold popMakeI at h
  have hq0 := holds_bif' h; clear h; obtain ⟨hb, h⟩ := hq0
  unfold isIfT at hb
  split at hb
  · cases hb
  · cases hb
  · rename_i h1 h2
    cases hu : P.underlying t with
    | none => exact absurd hu h2
    | some d =>
      refine ⟨.iface t vx, _, ?_, .ifc hx, h⟩
      cases d <;> first | (simp [Instr.makeInterface, run_underlying hu]; done) | exact absurd hu (h1 _)

theorem assert_runs {xt t : TypeId} {ok : Bool} {x : AV T} {vx : Value} (hx : RV P E w M β x vx) {K : AV T → Prop} (h : (popAssert P t ok x).holds K) :
    ∃ u r, (Instr.typeAssert vx xt t ok).run P w = .ok u w ∧ RV P E w M β r u ∧ K r := by
  unfold popAssert at h
  have hq0 := holds_bif' h; clear h; obtain ⟨hb, h⟩ := hq0
  have hpair : ∀ {c : AV T} {v : Value} {b : Bool}, RV P E w M β c v → RV P E w M β (.tup [c, .lit b]) (.tuple #[v, .bool b]) := fun hc => .tup rfl fun j c v hj hv => by
    match j with
    | 0 => simp at hj hv; subst hj; subst hv; exact hc
    | 1 => simp at hj hv; subst hj; subst hv; exact .lit
    | _ + 2 => simp at hj
  unfold isIfT at hb
  split at hb
  · cases hb
  · cases hb
  · rename_i h1 h2
    cases hu : P.underlying t with
    | none => exact absurd hu h2
    | some d =>
      have hd : ∀ ms, d ≠ .interface ms := fun ms e => h1 ms (by rw [hu, e])
      split at h
      · rename_i t' c
        cases hx with
        | ifc hc =>
          rename_i v
          cases hq : Nat.beq t' t with
          | true =>
            simp only [hq, cond_true] at h
            obtain rfl := bbeq hq
            cases ok with
            | true =>
              refine ⟨.tuple #[v, .bool true], _, ?_, hpair hc, h⟩
              cases d <;> first | (simp [Instr.typeAssert, run_underlying hu]; done) | exact absurd rfl (hd _)
            | false =>
              refine ⟨v, _, ?_, hc, h⟩
              cases d <;> first | (simp [Instr.typeAssert, run_underlying hu]; done) | exact absurd rfl (hd _)
          | false =>
            simp only [hq, cond_false] at h
            have hne : t' ≠ t := Nat.ne_of_beq_eq_false hq
            have hq1 := holds_bif h; clear h; obtain ⟨hok, h⟩ := hq1
            subst hok
            split at h
            · rename_i z hz
              obtain ⟨zv, hr, hv⟩ := zeroVal_runs (w := w) (M := M) (β := β) (E := E) hz
              refine ⟨.tuple #[zv, .bool false], _, ?_, hpair hv, h⟩
              cases d <;> first | (simp [Instr.typeAssert, run_underlying hu, hne, hr]; done) | exact absurd rfl (hd _)
            · exact h.elim
      · cases hx
        have hq1 := holds_bif h; clear h; obtain ⟨hok, h⟩ := hq1
        subst hok
        split at h
        · rename_i z hz
          obtain ⟨zv, hr, hv⟩ := zeroVal_runs (w := w) (M := M) (β := β) (E := E) hz
          refine ⟨.tuple #[zv, .bool false], _, ?_, hpair hv, h⟩
          cases d <;> first | (simp [Instr.typeAssert, run_underlying hu, hr]; done) | exact absurd rfl (hd _)
        · exact h.elim
      · exact h.elim

theorem method_runs {t : TypeId} {name : String} {f : Nat} (h : methodA P t name = some f) (v : Value) (k : Nat) : (method (k + 1) t v name).run P w = .ok (f, v) w := by
  unfold methodA at h
  split at h
  · rename_i ti hti
    split at h
    · rename_i m hm
      split at h
      · rename_i f' pr hp hf
        obtain ⟨hb, h⟩ : ((P.underlying t).isSome && (pr == isPtT P t)) = true ∧ some f' = some f := by
          cases hq : ((P.underlying t).isSome && (pr == isPtT P t)) with
          | false => rw [hq] at h; cases h
          | true => rw [hq] at h; exact ⟨rfl, h⟩
        obtain rfl := Option.some.inj h
        rw [Bool.and_eq_true] at hb
        obtain ⟨hs, hpr⟩ := hb
        have hpr : pr = isPtT P t := by simpa using hpr
        have hpe : m.path = #[] := by
          apply Array.ext'
          simpa using hp
        cases hu : P.underlying t with
        | none => rw [hu] at hs; cases hs
        | some d =>
          have hm' : ti.methods.find? (fun x => x.name == name) = some m := hm
          subst hpr
          have hr : ∀ wr, (receiverAt t (.val v) (isPtT P t) wr).run P w = .ok v w := fun wr => by
            unfold isPtT
            simp only [hu]
            cases d <;> simp [receiverAt, run_underlying hu, Place.get]
          unfold method
          simp [typeInfo, hti, hm', hpe, follow, hf, hr]
      · cases h
    · cases h
  · cases h

theorem mapM_run {α β' : Type} (P : Program) (f : α → Sem β') (g : α → β') (w : World) : ∀ (l : List α), (∀ x ∈ l, (f x).run P w = .ok (g x) w) → (l.mapM f).run P w = .ok (l.map g) w
  | [], _ => by simp
  | x :: l, h => by
    simp only [List.mapM_cons, Sem.run_bind, h x (by simp), Result.andThen_ok, mapM_run P f g w l (fun y hy => h y (by simp [hy])), Sem.run_pure, List.map_cons]

theorem isAggT_cases {t : TypeId} (h : isAggT P t = true) : (∃ fs, P.underlying t = some (.struct fs)) ∨ ∃ n e, P.underlying t = some (.array n e) := by
  unfold isAggT at h
  split at h
  · exact .inl ⟨_, by assumption⟩
  · exact .inr ⟨_, _, by assumption⟩
  · cases h

theorem build_runs {t : TypeId} {parts : List (Nat × AV T)} {vparts : Array (Nat × Value)} (h1 : parts.map (·.1) = vparts.toList.map (·.1)) (h2 : LR P E w M β (parts.map (·.2)) (vparts.toList.map (·.2)))
    {K : AV T → Prop} (h : (popBuild P t parts).holds K) : ∃ u r, (Instr.build t vparts).run P w = .ok u w ∧ RV P E w M β r u ∧ K r := by
  unfold popBuild at h
  obtain ⟨hag', h⟩ := holds_bif h
  rw [Bool.and_eq_true] at hag'
  obtain ⟨hag, hpo⟩ := hag'
  have hinf : ∀ fs : Array Field, P.underlying t = some (.struct fs) → ∀ f ∈ fs.toList, (P.info? f.type).isSome = true := by
    intro fs hfs f hf
    simp only [partsOk, hfs, List.all_eq_true] at hpo
    exact hpo f hf
  have hinf2 : ∀ n e, P.underlying t = some (.array n e) → (P.info? e).isSome = true := by
    intro n e he
    simpa only [partsOk, he] using hpo
  cases hz : zeroA (T := T) P t with
  | none => simp only [hz] at h; exact h.elim
  | some z =>
    simp only [hz] at h
    cases hf : fillA (placeA P t) z parts with
    | none => simp only [hf] at h; exact h.elim
    | some cs =>
      simp only [hf] at h
      obtain ⟨zv, hz1, hz2, _⟩ := zero_runs (w := w) (M := M) (β := β) (E := E) hz
      rcases isAggT_cases hag with ⟨fs, hu⟩ | ⟨n, e, hu⟩
      · have hpl : (fs.mapM fun f => do pure (f.offset, ← sizeOf f.type) : Sem _).run P w = .ok (fs.map fun f => (f.offset, P.cellsOf f.type)) w := by
          have := mapM_run P (fun f : Field => (Prod.mk f.offset <$> sizeOf f.type : Sem (Nat × Nat))) (fun f => (f.offset, P.cellsOf f.type)) w fs.toList (fun f hf => by
            obtain ⟨i, hi⟩ := Option.isSome_iff_exists.1 (hinf fs hu f hf)
            simp [run_sizeOf' hi])
          rw [Array.mapM_eq_mapM_toList]
          simp [this]
          exact Array.ext' (by simp)
        have hpe : (placeA P t) = fun i => (fs.map fun f => (f.offset, P.cellsOf f.type))[i]? := by
          funext i
          simp only [placeA, hu, Array.getElem?_map]
          cases fs[i]? <;> rfl
        rw [hpe] at hf
        obtain ⟨us, hu1, hu2⟩ := fill_runs parts vparts.toList z cs zv.cells h1 h2 hz2 hf
        refine ⟨.agg us, _, ?_, .agg (by simpa using hu2.1) (fun j c v hc hv => hu2.2 j c v hc (by simpa using hv)), h⟩
        simp only [Instr.build, Sem.run_bind, hz1, Result.andThen_ok, run_underlying hu, hpl]
        rw [hu1]
        rfl
      · obtain ⟨i, hi⟩ := Option.isSome_iff_exists.1 (hinf2 n e hu)
        have hpe : (placeA P t) = fun i => some (i * P.cellsOf e, P.cellsOf e) := by
          funext i
          simp only [placeA, hu]
        rw [hpe] at hf
        obtain ⟨us, hu1, hu2⟩ := fill_runs parts vparts.toList z cs zv.cells h1 h2 hz2 hf
        refine ⟨.agg us, _, ?_, .agg (by simpa using hu2.1) (fun j c v hc hv => hu2.2 j c v hc (by simpa using hv)), h⟩
        simp only [Instr.build, Sem.run_bind, hz1, Result.andThen_ok, run_underlying hu, run_sizeOf' hi]
        rw [hu1]
        rfl

theorem len_runs {x : AV T} {vx : Value} {n : Nat} {t : TypeId} {ty : TypeId} (hx : RV P E w M β x vx) (h : lenA x = some n)
    (hok : lenTyOk P t x = true) : (Builtin.len_ #[t] ty #[vx]).run P w = .ok (.int .i64 n) w := by
  have hsl : ∀ e a m c, P.underlying t = some (.slice e) → vx = .slice a m c → m = n → (Builtin.len_ #[t] ty #[vx]).run P w = .ok (.int .i64 n) w := by
    rintro e a m c hu rfl rfl
    simp [Builtin.len_, run_underlying hu, goInt]
  unfold lenTyOk at hok
  split at hok
  · cases hok
  · rename_i _ e hu hns
    cases hx <;> simp only [lenA, reduceCtorEq, Option.some.injEq] at h
    case str s => exact absurd rfl (hns s)
    all_goals (subst h; exact hsl e _ _ _ hu rfl rfl)
  · rename_i s hu
    cases hx
    simp only [lenA, Option.some.injEq] at h
    subst h
    simp [Builtin.len_, run_underlying hu, goInt]
  · cases hok
end
end Go.Cx
