/- The evaluator: pure operations are sound. No condition. -/
import Derived.Test.YtmnhfjhlfgebiaaCxC
set_option linter.unusedVariables false
noncomputable section
namespace Go.Cx
open Go.RowKit
variable {T : Nat → Type} {P : Program} {E : Enc T}
section
variable {w : World} {M : Nat → Prop} {β : Nat → Option Hd}

theorem absV1_rv (v : Value) : RV P E w M β (absV1 v : AV T) v := by
  unfold absV1
  split <;> constructor

theorem absV_rv (v : Value) : RV P E w M β (absV v : AV T) v := by
  cases v with
  | agg cs =>
    refine RV.agg (by simp) fun j c u hc hu => ?_
    simp only [List.getElem?_map, Option.map_eq_some_iff] at hc
    obtain ⟨x, hx, rfl⟩ := hc
    have : u = x := by rw [Array.getElem?_toList] at hx; exact Option.some.inj (hu.symm.trans hx)
    subst this
    exact absV1_rv _
  | _ => simp only [absV]; exact absV1_rv _

theorem ev_rv {n : Nat} {tm : Tr (AV T)} {a : Act} (h : TR P E w M β n tm a.tmps) (x : Operand) : RV P E w M β (ev tm x) (a.eval x) := by
  cases x with
  | tmp t => exact h.2 t
  | const v => exact absV_rv v
  | global g => exact RV.any
  | func f => exact RV.fn rfl (fun j c v hc _ => by simp at hc)

theorem info_of_underlying {t : TypeId} {d : TypeDesc} (h : P.underlying t = some d) : ∃ i, P.info? t = some i := by
  unfold Program.underlying at h
  cases hi : P.info? t with
  | none => simp [hi] at h
  | some i => exact ⟨i, rfl⟩

theorem run_sizeOf' {t : TypeId} {i : TypeInfo} (h : P.info? t = some i) (w : World) : (sizeOf t).run P w = .ok (P.cellsOf t) w := by
  simp [sizeOf, typeInfo, h, Program.cellsOf]

theorem run_isAgg {t : TypeId} {d : TypeDesc} (h : P.underlying t = some d) (w : World) : (isAgg t).run P w = .ok (isAggT P t) w := by
  simp only [isAgg, Sem.run_bind, run_underlying h, Result.andThen_ok, isAggT, h]
  cases d <;> rfl

theorem add_plain' (b o n : Nat) : (⟨b, o, none⟩ : Addr).add n = ⟨b, o + n, none⟩ := by
  unfold Addr.add; split <;> simp_all

theorem info_of_cells {t : TypeId} (h : P.cellsOf t ≠ 0) : ∃ i, P.info? t = some i := by
  cases hi : P.info? t with
  | none => simp [Program.cellsOf, hi] at h
  | some i => exact ⟨i, rfl⟩

theorem bble {a b : Nat} (h : Nat.ble a b = true) : a ≤ b := Nat.le_of_ble_eq_true h
theorem bblt {a b : Nat} (h : Nat.blt a b = true) : a < b := by have := h; simp [Nat.blt] at this; omega
theorem bbeq {a b : Nat} (h : Nat.beq a b = true) : a = b := Nat.eq_of_beq_eq_true h

theorem holds_bif {α : Type} {Q : α → Prop} {b : Bool} {t : Tree α} (h : (bif b then t else .fail).holds Q) : b = true ∧ t.holds Q := by
  cases b with
  | true => exact ⟨rfl, h⟩
  | false => exact h.elim
theorem holds_bif' {α : Type} {Q : α → Prop} {b : Bool} {t : Tree α} (h : (bif b then .fail else t).holds Q) : b = false ∧ t.holds Q := by
  cases b with
  | false => exact ⟨rfl, h⟩
  | true => exact h.elim

theorem rdN_length (c : Tr (AV T)) (d : AV T) : ∀ (k off : Nat), (rdN c d k off).length = k
  | 0, _ => rfl
  | k + 1, off => by simp [rdN, rdN_length c d k]
theorem rdN_get (c : Tr (AV T)) (d : AV T) : ∀ (k off j : Nat) (x : AV T), (rdN c d k off)[j]? = some x → j < k ∧ x = cellAt c d (off + j)
  | 0, _, j, x, h => by simp [rdN] at h
  | k + 1, off, 0, x, h => by simp [rdN] at h; exact ⟨by omega, h.symm⟩
  | k + 1, off, j + 1, x, h => by
    have h' : (rdN c d k (off + 1))[j]? = some x := by simpa [rdN] using h
    obtain ⟨h1, h2⟩ := rdN_get c d k (off + 1) j x h'
    exact ⟨by omega, by rw [h2]; congr 1; omega⟩

/-- A variable that is read: the cells, one by one. -/
theorem loadVar_runs {t : TypeId} {d : TypeDesc} (hu : P.underlying t = some d) {cs : List (AV T)} {b o : Nat} (f : Nat → Value)
    (hc : ∀ (j : Nat) (c : AV T), cs[j]? = some c → w.cell? ⟨b, o + j, none⟩ = some (f j)) (hr : ∀ (j : Nat) (c : AV T), cs[j]? = some c → RV P E w M β c (f j))
    {K : AV T → Prop} (h : (rdL P t cs).holds K) : ∃ u r, (loadVar t ⟨b, o, none⟩).run P w = .ok u w ∧ RV P E w M β r u ∧ K r := by
  obtain ⟨i, hi⟩ := info_of_underlying hu
  unfold rdL at h
  simp only [hu, Option.isNone_some, cond_false] at h
  cases hag : isAggT P t with
  | true =>
    simp only [hag, cond_true] at h
    obtain ⟨hle, h⟩ := holds_bif h
    have hle' := bble hle
    have hl := run_loadCells (P := P) w ⟨b, o, none⟩ (P.cellsOf t) f (fun j hj => by
      rw [add_plain']
      exact hc j _ (List.getElem?_eq_getElem (by omega)))
    refine ⟨.agg ((List.range (P.cellsOf t)).map f).toArray, _, ?_, .agg (cs := cs.take (P.cellsOf t)) (by simp; omega) fun j c v hcj hv => ?_, h⟩
    · simp [loadVar, run_isAgg hu, hag, run_sizeOf' hi, hl]
    · rw [List.getElem?_take] at hcj
      split at hcj
      · rename_i hlt
        have : v = f j := by
          simp [hlt] at hv
          exact hv.symm
        subst this
        exact hr j c hcj
      · cases hcj
  | false =>
    simp only [hag, cond_false] at h
    cases cs with
    | nil => exact h.elim
    | cons c cs =>
      refine ⟨f 0, c, ?_, hr 0 _ rfl, h⟩
      have h0 := hc 0 _ rfl
      simp only [Nat.add_zero] at h0
      simp [loadVar, run_isAgg hu, hag, h0]

theorem rdL_some {t : TypeId} {cs : List (AV T)} {K : AV T → Prop} (h : (rdL P t cs).holds K) : ∃ d, P.underlying t = some d := by
  unfold rdL at h
  obtain ⟨h1, _⟩ := holds_bif' h
  cases hu : P.underlying t with
  | none => simp [hu] at h1
  | some d => exact ⟨d, rfl⟩

/-- An object that may be read. -/
theorem look_at {hp : Hp T} (hr : HeapRel P E w M β hp.get) {id n : Nat} {c : Tr (AV T)} {d : AV T} (h : look hp id = some (n, c, d)) :
    ∃ (hd : Hd) (vs : Array Value) (el : TypeId), Live hp.get id ∧ β id = some hd ∧ w.heap[hd.block]? = some (.cells vs el (0, 0)) ∧ hd.base + n ≤ vs.size ∧ ∀ j, j < n → RV P E w M β (cellAt c d j) (vs.getD (hd.base + j) undef) := by
  unfold look at h
  split at h
  · rename_i n' c' d' ho
    simp only [Option.some.injEq, Prod.mk.injEq] at h
    obtain ⟨rfl, rfl, rfl⟩ := h
    have hl : Live hp.get id := by simp only [Live, ho]
    obtain ⟨hd, hb, vs, el, h1, h2, h3, h4⟩ := hr.obj id _ hl ho
    exact ⟨hd, vs, el, hl, hb, h1, by omega, h4⟩
  · rename_i n' c' d' f ho
    split at h
    · rename_i hh sh hf
      cases hb : Nat.beq id hh || memN id sh with
      | false => simp only [hb, cond_false] at h; cases h
      | true =>
        simp only [hb, cond_true, Option.some.injEq, Prod.mk.injEq] at h
        obtain ⟨rfl, rfl, rfl⟩ := h
        have hl : Live hp.get id := by
          simp only [Live, ho]
          refine ⟨hh, sh, hf, ?_⟩
          rw [Bool.or_eq_true] at hb
          rcases hb with hb | hb
          · exact .inl (bbeq hb)
          · exact .inr (memN_iff.1 hb)
        obtain ⟨hd, hb, vs, el, h1, h2, h3, h4⟩ := hr.obj id _ hl ho
        exact ⟨hd, vs, el, hl, hb, h1, by omega, h4⟩
    · cases h
  · cases h

theorem cell_of {vs : Array Value} {el : TypeId} {b j : Nat} (hg : w.heap[b]? = some (.cells vs el (0, 0))) (hj : j < vs.size) : w.cell? ⟨b, j, none⟩ = some (vs.getD j undef) := by
  simp only [World.cell?, hg, Option.isSome_none, Bool.false_eq_true, if_false]
  simp [Array.getD, hj]

theorem rdO_rdL {t : TypeId} {n off : Nat} {c : Tr (AV T)} {d : AV T} {K : AV T → Prop} (h : (rdO P t n c d off).holds K) : ∃ k, off + k ≤ n ∧ (rdL P t (rdN c d k off)).holds K := by
  unfold rdO at h
  obtain ⟨h0, h⟩ := holds_bif' h
  cases hag : isAggT P t with
  | true =>
    simp only [hag, cond_true] at h
    obtain ⟨hle, h⟩ := holds_bif h
    refine ⟨P.cellsOf t, bble hle, ?_⟩
    unfold rdL
    simp only [h0, cond_false, hag, cond_true, rdN_length, Nat.ble_self_eq_true]
    rw [List.take_of_length_le (by rw [rdN_length]; exact Nat.le_refl _)]
    exact h
  | false =>
    simp only [hag, cond_false] at h
    obtain ⟨hlt, h⟩ := holds_bif h
    refine ⟨1, bblt hlt, ?_⟩
    unfold rdL
    simp only [h0, cond_false, hag, rdN]
    exact h

theorem rdO_runs {hp : Hp T} (hr : HeapRel P E w M β hp.get) {id n off : Nat} {c : Tr (AV T)} {d : AV T} {hd : Hd} (hl : look hp id = some (n, c, d)) (hb : β id = some hd) {t : TypeId} {K : AV T → Prop} (h : (rdO P t n c d off).holds K) :
    ∃ u r, (loadVar t ⟨hd.block, hd.base + off, none⟩).run P w = .ok u w ∧ RV P E w M β r u ∧ K r := by
  obtain ⟨hd', vs, el, h0, h1, h2, h3, h4⟩ := look_at hr hl
  obtain rfl : hd = hd' := Option.some.inj (hb.symm.trans h1)
  obtain ⟨k, hk, h⟩ := rdO_rdL h
  obtain ⟨td, hu⟩ := rdL_some h
  refine loadVar_runs hu (fun j => vs.getD (hd.base + off + j) undef) (fun j x hx => ?_) (fun j x hx => ?_) h
  · obtain ⟨hj, _⟩ := rdN_get c d _ _ _ _ hx
    exact cell_of h2 (by omega)
  · obtain ⟨hj, rfl⟩ := rdN_get c d _ _ _ _ hx
    have := h4 (off + j) (by omega)
    rw [← Nat.add_assoc] at this
    exact this

theorem load_runs {hp : Hp T} (hr : HeapRel P E w M β hp.get) {t : TypeId} {x : AV T} {vx : Value} (hx : RV P E w M β x vx) {K : AV T → Prop}
    (h : (popLoad P hp t x).holds K) : ∃ a u r, vx = .pointer (some a) ∧ (loadVar t a).run P w = .ok u w ∧ RV P E w M β r u ∧ K r := by
  cases x <;> simp only [popLoad] at h <;> try exact h.elim
  case rp cs =>
    obtain ⟨d, hu⟩ := rdL_some h
    cases hx with
    | rp f h1 h2 h3 h4 h5 =>
      rename_i a
      obtain ⟨b, o, sp⟩ := a
      obtain rfl : sp = none := h1
      obtain ⟨u, r, h6, h7, h8⟩ := loadVar_runs (β := β) hu f h4 (fun j c hc => (h5 j c hc).weak) h
      exact ⟨_, u, r, rfl, h6, h7, h8⟩
  case ptr id off =>
    cases hx with
    | ptr hb =>
      cases hl : look hp id with
      | none => simp only [hl] at h; exact h.elim
      | some ncd =>
        obtain ⟨n, c, d⟩ := ncd
        simp only [hl] at h
        obtain ⟨u, r, h6, h7, h8⟩ := rdO_runs hr hl hb h
        exact ⟨_, u, r, rfl, h6, h7, h8⟩

theorem run_fieldPlace {fd : Field} {b o : Nat} {i : TypeInfo} (hi : P.info? fd.type = some i) (hz : P.cellsOf fd.type ≠ 0) :
    (fieldPlace ⟨b, o, none⟩ fd).run P w = .ok ⟨b, o + fd.offset, none⟩ w := by
  simp [fieldPlace, run_sizeOf' hi, hz, add_plain']

theorem fieldOf_some {s : TypeId} {f : Nat} {fd : Field} (h : fieldOf P s f = some fd) : ∃ fields, P.underlying s = some (.struct fields) ∧ fields[f]? = some fd := by
  unfold fieldOf at h
  split at h
  · rename_i fields hu
    exact ⟨fields, hu, h⟩
  · cases h

theorem RV.rp_drop {cs : List (AV T)} {b o k : Nat} (h : RV P E w M β (.rp cs) (.pointer (some ⟨b, o, none⟩))) : RV P E w M β (.rp (cs.drop k)) (.pointer (some ⟨b, o + k, none⟩)) := by
  cases h with
  | rp f h1 h2 h3 h4 h5 =>
    refine .rp (fun j => f (k + j)) rfl h2 (fun hn => h3 (fun e => hn (by rw [e]; simp))) (fun j c hc => ?_) (fun j c hc => ?_)
    · rw [List.getElem?_drop] at hc
      have := h4 _ _ hc
      rw [← Nat.add_assoc] at this
      exact this
    · rw [List.getElem?_drop] at hc
      exact h5 _ _ hc

theorem fieldAddr_runs {s : TypeId} {f : Nat} {x : AV T} {vx : Value} (hx : RV P E w M β x vx) {K : AV T → Prop} (h : (popFieldAddr P s f x).holds K) :
    ∃ u r, (Instr.fieldAt s vx f).run P w = .ok u w ∧ RV P E w M β r u ∧ K r := by
  unfold popFieldAddr at h
  cases hf : fieldOf P s f with
  | none => simp only [hf] at h; exact h.elim
  | some fd =>
    simp only [hf] at h
    obtain ⟨fields, hu, hfd⟩ := fieldOf_some hf
    obtain ⟨hz, h⟩ := holds_bif' h
    have hz' : P.cellsOf fd.type ≠ 0 := Nat.ne_of_beq_eq_false hz
    obtain ⟨i, hi⟩ := info_of_cells hz'
    have hrun : ∀ b o, (Instr.fieldAt s (.pointer (some ⟨b, o, none⟩)) f).run P w = .ok (.pointer (some ⟨b, o + fd.offset, none⟩)) w := by
      intro b o
      simp [Instr.fieldAt, run_underlying hu, hfd, Instr.sureAddr, run_fieldPlace hi hz']
    cases x <;> simp only at h <;> try exact h.elim
    case ptr id off =>
      cases hx with
      | ptr hb =>
        refine ⟨_, _, hrun _ _, ?_, h⟩
        rw [Nat.add_assoc]
        exact .ptr hb
    case rp cs =>
      have hx' := hx
      cases hx with
      | rp f h1 h2 h3 h4 h5 =>
        rename_i a
        obtain ⟨b, o, sp⟩ := a
        obtain rfl : sp = none := h1
        exact ⟨_, _, hrun _ _, hx'.rp_drop, h⟩

/-- A part of a value. -/
theorem part_runs {t : TypeId} {d : TypeDesc} (hu : P.underlying t = some d) {cs : List (AV T)} {vs : Array Value} (hl : cs.length = vs.size)
    (hr : ∀ (j : Nat) (c : AV T) (v : Value), cs[j]? = some c → vs[j]? = some v → RV P E w M β c v) (off : Nat) {K : AV T → Prop} (h : (rdL P t (cs.drop off)).holds K) :
    ∃ u r, (part t vs off).run P w = .ok u w ∧ RV P E w M β r u ∧ K r := by
  obtain ⟨i, hi⟩ := info_of_underlying hu
  unfold rdL at h
  simp only [hu, Option.isNone_some, cond_false] at h
  cases hag : isAggT P t with
  | true =>
    simp only [hag, cond_true] at h
    obtain ⟨hle, h⟩ := holds_bif h
    have hle' : P.cellsOf t ≤ cs.length - off := by simpa using bble hle
    refine ⟨.agg (vs.extract off (off + P.cellsOf t)), _, ?_, .agg (cs := (cs.drop off).take (P.cellsOf t)) (by simp; omega) fun j c v hcj hv => ?_, h⟩
    · simp [part, run_isAgg hu, hag, run_sizeOf' hi]
    · rw [List.getElem?_take] at hcj
      split at hcj
      · rw [List.getElem?_drop] at hcj
        rw [Array.getElem?_extract] at hv
        split at hv
        · exact hr _ _ _ hcj hv
        · cases hv
      · cases hcj
  | false =>
    simp only [hag, cond_false] at h
    cases hd : cs.drop off with
    | nil => simp only [hd] at h; exact h.elim
    | cons c l =>
      simp only [hd] at h
      have h0 : cs[off]? = some c := by
        have := List.getElem?_drop (xs := cs) (i := off) (j := 0)
        rw [hd] at this
        simpa using this.symm
      have hlt : off < vs.size := by rw [← hl]; exact (List.getElem?_eq_some_iff.1 h0).1
      have h1 : vs[off]? = some vs[off] := Array.getElem?_eq_getElem hlt
      refine ⟨vs[off], c, ?_, hr _ _ _ h0 h1, h⟩
      simp [part, run_isAgg hu, hag, h1]

theorem field_runs {t : TypeId} {f : Nat} {x : AV T} {vx : Value} (hx : RV P E w M β x vx) {K : AV T → Prop} (h : (popField P t f x).holds K) :
    ∃ u r, (Instr.field t vx f).run P w = .ok u w ∧ RV P E w M β r u ∧ K r := by
  cases x <;> simp only [popField] at h <;> try exact h.elim
  cases hx with
  | agg hl hr =>
    cases hf : fieldOf P t f with
    | none => simp only [hf] at h; exact h.elim
    | some fd =>
      simp only [hf] at h
      obtain ⟨fields, hu, hfd⟩ := fieldOf_some hf
      obtain ⟨d, hd⟩ := rdL_some h
      obtain ⟨u, r, hru, hrv, hk⟩ := part_runs hd hl hr fd.offset h
      refine ⟨u, r, ?_, hrv, hk⟩
      simp [Instr.field, run_underlying hu, hfd, asAgg, hru]

variable {cl : Bool}
theorem bounds_and {i n : Int} (h : (decide (0 ≤ i) && decide (i < n)) = true) : 0 ≤ i ∧ i < n := by
  rw [Bool.and_eq_true] at h
  exact ⟨of_decide_eq_true h.1, of_decide_eq_true h.2⟩

theorem index_runs {t : TypeId} {x ix : AV T} {vx vi : Value} (hx : RV P E w M β x vx) (hi : RV P E w M β ix vi) {K : AV T → Prop} (h : (popIndex P cl t x ix).holds K) :
    ∃ u r, (Instr.index t vx vi).run P w = .ok u w ∧ RV P E w M β r u ∧ K r := by
  unfold popIndex at h
  split at h
  · rename_i n τ hu
    split at h
    · rename_i cs k i
      obtain ⟨hb, h⟩ := Tree.holds_chk h
      obtain ⟨h0, h1⟩ := bounds_and hb
      cases hx with
      | agg hl hr =>
        cases hi
        obtain ⟨d, hd⟩ := rdL_some h
        obtain ⟨inf, hi⟩ := info_of_underlying hd
        obtain ⟨u, r, hru, hrv, hk⟩ := part_runs hd hl hr _ h
        refine ⟨u, r, ?_, hrv, hk⟩
        simp [Instr.index, asIntOf, run_underlying hu, h0, h1, run_sizeOf' hi, hru]
    · exact h.elim
  · rename_i hu
    split at h
    · rename_i s k i
      split at h
      · rename_i b hb
        obtain ⟨h0, h⟩ := Tree.holds_chk h
        have h0' : 0 ≤ i := of_decide_eq_true h0
        cases hx
        cases hi
        refine ⟨.int .u8 b.toNat, _, ?_, .int, h⟩
        simp [Instr.index, asIntOf, run_underlying hu, h0', hb]
      · exact h.elim
    · exact h.elim
  · exact h.elim

theorem asL_ro {τ : Nat} {x : AV T} {v : Value} {l : List (T τ)} (hx : RV P E w M β x v) (h : asL τ x = some l) : RV P E w M β (.sl τ l false) v := by
  cases hx <;> simp only [asL, reduceCtorEq, Option.some.injEq] at h
  case nils => subst h; exact .sl0 (fun h => by cases h)
  case emp => subst h; exact .sl0 (fun h => by cases h)
  case sl0 =>
    split at h
    · rename_i e; subst e; simp only [Option.some.injEq] at h; subst h; exact .sl0 (fun h => by cases h)
    · cases h
  case sl f h1 h2 h3 h4 h5 h6 h7 h8 =>
    split at h
    · rename_i e; subst e; simp only [Option.some.injEq] at h; subst h
      exact .sl f h1 h2 h3 (fun h => by cases h) h5 h6 h7 h8
    · cases h

theorem indexSl_runs (hE : E.Good P) {t τ : TypeId} (hu : P.underlying t = some (.slice τ)) {x : AV T} {vx : Value} (hx : RV P E w M β x vx) {l : List (T τ)} (hl : asL τ x = some l) {k : IntKind} {i : Int} (h0 : 0 ≤ i) (h1 : i < (l.length : Int)) :
    ∃ u, (Instr.indexAt t vx (.int k i)).run P w = .ok u w ∧ RV P E w M β (.rp (E.enc τ (ixD E τ l i))) u := by
  obtain ⟨n, rfl⟩ := Int.eq_ofNat_of_zero_le h0
  have hn : n < l.length := by omega
  have hx := asL_ro hx hl
  cases hx with
  | sl0 => simp at hn
  | sl f g1 g2 g3 g4 g5 g6 g7 g8 =>
    rename_i ad cap
    obtain ⟨b, o, sp⟩ := ad
    obtain rfl : sp = none := g1
    have hpos := hE.pos _ g5
    obtain ⟨inf, hi⟩ := info_of_cells (Nat.ne_of_gt hpos)
    refine ⟨.pointer (some ⟨b, o + n * P.cellsOf τ, none⟩), ?_, ?_⟩
    · simp [Instr.indexAt, asIntOf, run_underlying hu, hn, run_sizeOf' hi, add_plain']
    · have hln : l[n]? = some l[n] := List.getElem?_eq_getElem hn
      simp only [ixD, Int.toNat_natCast, hln, Option.getD_some]
      refine .rp (fun j => f n j) rfl g2 (fun _ => g6 (fun e => by rw [e] at hn; simp at hn)) (fun j c hc => ?_) (fun j c hc => g8 n _ j c hln hc)
      have := g7 n _ j c hln hc
      rw [← Nat.add_assoc] at this
      exact this

theorem indexAddr_runs (hE : E.Good P) {t : TypeId} {x ix : AV T} {vx vi : Value} (hx : RV P E w M β x vx) (hi : RV P E w M β ix vi) {K : AV T → Prop}
    (h : (popIndexAddr P E cl t x ix).holds K) : ∃ u r, (Instr.indexAt t vx vi).run P w = .ok u w ∧ RV P E w M β r u ∧ K r := by
  unfold popIndexAddr at h
  split at h
  · rename_i τ k i hu
    cases hi
    split at h
    · rename_i id sz off len cap
      obtain ⟨hb, h⟩ := holds_bif h
      obtain ⟨hc, h⟩ := Tree.holds_chk h
      obtain ⟨h0, h1⟩ := bounds_and hc
      rw [Bool.and_eq_true] at hb
      have hsz := bbeq hb.1
      have hpos := bble hb.2
      subst hsz
      obtain ⟨inf, hi⟩ := info_of_cells (P := P) (t := τ) (by omega)
      cases hx with
      | sc hβ h2 h3 h4 =>
        refine ⟨_, _, ?_, .ptr (off := off + i.toNat * P.cellsOf τ) hβ, h⟩
        simp [Instr.indexAt, asIntOf, run_underlying hu, h0, h1, run_sizeOf' hi, add_plain', Nat.add_assoc]
    · rename_i hns
      split at h
      · rename_i l hl
        obtain ⟨hc, h⟩ := Tree.holds_chk h
        obtain ⟨h0, h1⟩ := bounds_and hc
        obtain ⟨u, hu1, hu2⟩ := indexSl_runs hE hu hx hl (k := k) h0 h1
        exact ⟨u, _, hu1, hu2, h⟩
      · exact h.elim
  · rename_i n τ k i hu
    cases hi
    obtain ⟨hz, h⟩ := holds_bif h
    have hz' := bble hz
    obtain ⟨hc, h⟩ := Tree.holds_chk h
    obtain ⟨h0, h1⟩ := bounds_and hc
    obtain ⟨inf, hi⟩ := info_of_cells (P := P) (t := τ) (by omega)
    have hrun : ∀ b o, (Instr.indexAt t (.pointer (some ⟨b, o, none⟩)) (.int k i)).run P w = .ok (.pointer (some ⟨b, o + i.toNat * P.cellsOf τ, none⟩)) w := by
      intro b o
      simp [Instr.indexAt, asIntOf, run_underlying hu, Instr.sureAddr, h0, h1, run_sizeOf' hi, add_plain']
    split at h
    · rename_i id off
      cases hx with
      | ptr hb =>
        refine ⟨_, _, hrun _ _, ?_, h⟩
        rw [Nat.add_assoc]
        exact .ptr hb
    · rename_i cs
      have hx' := hx
      cases hx with
      | rp f h1 h2 h3 h4 h5 =>
        rename_i a
        obtain ⟨b, o, sp⟩ := a
        obtain rfl : sp = none := h1
        exact ⟨_, _, hrun _ _, hx'.rp_drop, h⟩
    · exact h.elim
  · exact h.elim

theorem mkB_rv {b : Bool} : RV P E w M β (mkB cl b : AV T) (.bool b) := by
  cases cl with
  | false => exact .bool
  | true => cases b <;> exact .lit

theorem arith_runs {cc : Bool} {op : BinOp} {k : IntKind} {a b : Int} {K : AV T → Prop} (hs : isShift op = false) (h : (arith cl cc op k a b : Tree (AV T)).holds K) {t : TypeId} {xo yo : Operand} :
    ∃ u r, (do eqGuard op t xo yo (.int k a) (.int k b); binOp op t (.int k a) (.int k b)).run P w = .ok u w ∧ RV P E w M β r u ∧ K r := by
  cases op <;> simp only [arith, isShift, Bool.true_eq_false] at h hs
  case quo =>
    obtain ⟨hb, h⟩ := Tree.holds_chk h
    have hb := of_decide_eq_true hb
    exact ⟨_, _, by simp [eqGuard, binOp, Op.intDiv, hb], .int, h⟩
  case rem =>
    obtain ⟨hb, h⟩ := Tree.holds_chk h
    have hb := of_decide_eq_true hb
    exact ⟨_, _, by simp [eqGuard, binOp, Op.intDiv, hb], .int, h⟩
  case eql => exact ⟨.bool (a == b), _, by simp [eqGuard, binOp, Op.intCmp], mkB_rv, h⟩
  case neq => exact ⟨.bool (a != b), _, by simp [eqGuard, binOp, Op.intCmp], mkB_rv, h⟩
  case and => exact ⟨_, _, by simp only [eqGuard, binOp, Op.intBits, ne_eq, not_true_eq_false, if_false]; rfl, .int, h⟩
  case or => exact ⟨_, _, by simp only [eqGuard, binOp, Op.intBits, ne_eq, not_true_eq_false, if_false]; rfl, .int, h⟩
  case xor => exact ⟨_, _, by simp only [eqGuard, binOp, Op.intBits, ne_eq, not_true_eq_false, if_false]; rfl, .int, h⟩
  case andNot => exact ⟨_, _, by simp only [eqGuard, binOp, Op.intBits, ne_eq, not_true_eq_false, if_false]; rfl, .int, h⟩
  case lss => exact ⟨.bool (decide (a < b)), _, by simp [eqGuard, binOp, Op.intCmp], mkB_rv, h⟩
  case leq => exact ⟨.bool (decide (a ≤ b)), _, by simp [eqGuard, binOp, Op.intCmp], mkB_rv, h⟩
  case gtr => exact ⟨.bool (decide (a > b)), _, by simp [eqGuard, binOp, Op.intCmp], mkB_rv, h⟩
  case geq => exact ⟨.bool (decide (a ≥ b)), _, by simp [eqGuard, binOp, Op.intCmp], mkB_rv, h⟩
  all_goals first
    | (exact ⟨.int k _, _, by simp [eqGuard, binOp, Op.intArith], .int, h⟩)
    | exact h.elim

theorem shift_runs {op : BinOp} {k k' : IntKind} {a b : Int} {K : AV T → Prop} (hs : isShift op = true) (h : (shiftA cl op k a b : Tree (AV T)).holds K) {t : TypeId} {xo yo : Operand} :
    ∃ u r, (do eqGuard op t xo yo (.int k a) (.int k' b); binOp op t (.int k a) (.int k' b)).run P w = .ok u w ∧ RV P E w M β r u ∧ K r := by
  cases op <;> simp only [shiftA, isShift, Bool.false_eq_true] at h hs
  · obtain ⟨hb, h⟩ := Tree.holds_chk h
    have hb := of_decide_eq_true hb
    have hb' : ¬ b < 0 := by omega
    exact ⟨.int k _, _, by simp [eqGuard, binOp, Op.shift, hb'], .int, h⟩
  · obtain ⟨hb, h⟩ := Tree.holds_chk h
    have hb := of_decide_eq_true hb
    have hb' : ¬ b < 0 := by omega
    exact ⟨.int k _, _, by simp [eqGuard, binOp, Op.shift, hb'], .int, h⟩

theorem un_runs {op : UnOp} {x : AV T} {vx : Value} (hx : RV P E w M β x vx) {K : AV T → Prop} (h : (popUn op x).holds K) :
    ∃ u r, (Op.unary op vx).run P w = .ok u w ∧ RV P E w M β r u ∧ K r := by
  cases op <;> cases x <;> simp only [popUn] at h <;> try exact h.elim
  case neg.int k n => cases hx; exact ⟨.int k (k.wrap (0 - n)), _, by simp [Op.unary, Op.intArith], .int, h⟩
  case neg.sym k n => cases hx; exact ⟨.int k (k.wrap (0 - n)), _, by simp [Op.unary, Op.intArith], .sym, h⟩
  case not.lit b => cases hx; exact ⟨.bool (!b), _, by simp [Op.unary], mkB_rv, h⟩
  case not.bool b => cases hx; exact ⟨.bool (!b), _, by simp [Op.unary], .bool, h⟩

theorem convert_runs {src dst : TypeId} {x : AV T} {vx : Value} (hx : RV P E w M β x vx) {K : AV T → Prop} (h : (popConvert P src dst x).holds K) :
    ∃ u r, (convert src dst vx).run P w = .ok u w ∧ RV P E w M β r u ∧ K r := by
  unfold popConvert at h
  obtain ⟨hs, h⟩ := holds_bif' h
  obtain ⟨ds, hs⟩ : ∃ ds, P.underlying src = some ds := by
    cases hp : P.underlying src with
    | none => simp [hp] at hs
    | some d => exact ⟨d, rfl⟩
  split at h
  · rename_i k k' n hu _
    cases hx
    exact ⟨_, _, by simp [convert, run_underlying hs, run_underlying hu, Conv.intToInt], .int, h⟩
  · rename_i k k' n hu _
    cases hx
    exact ⟨_, _, by simp [convert, run_underlying hs, run_underlying hu, Conv.intToInt], .sym, h⟩
  · exact h.elim

theorem nil_runs {x : AV T} {vx : Value} {o : Oper} {ρ : Operand → Value} {xo : Operand} (ho : o.op = .nilCheck xo) (hρ : ρ xo = vx) (hx : RV P E w M β x vx) {K : AV T → Prop} (h : (popNil x).holds K) :
    ∃ u r, (execOp ρ o).run P w = .ok (.value u) w ∧ RV P E w M β r u ∧ K r := by
  cases x <;> simp only [popNil] at h <;> try exact h.elim
  case ptr => cases hx with | ptr hb => exact ⟨_, _, by simp [execOp, ho, hρ], .ptr hb, h⟩
  case rp => cases hx with | rp f h1 h2 h3 h4 h5 => exact ⟨_, _, by simp [execOp, ho, hρ], .rp f h1 h2 h3 h4 h5, h⟩
  case fn => cases hx with | fn h1 h2 => exact ⟨_, _, by simp [execOp, ho, hρ], .fn h1 h2, h⟩
  case mfn => cases hx with | mfn h1 h2 h3 h4 => exact ⟨_, _, by simp [execOp, ho, hρ], .mfn h1 h2 h3 h4, h⟩
  case ifc => cases hx with | ifc h1 => exact ⟨_, _, by simp [execOp, ho, hρ], .ifc h1, h⟩
  case yld => cases hx with | yld h1 => exact ⟨_, _, by simp [execOp, ho, hρ], .yld h1, h⟩

theorem asB_val {y : AV T} {v : Value} {p : Bool} (hy : RV P E w M β y v) (hp : asB y = some p) : v = .bool p := by
  cases hy <;> simp only [asB, Option.some.injEq, reduceCtorEq] at hp <;> rw [hp]

theorem asN_val {y : AV T} {v : Value} {k : IntKind} {n : Int} (hy : RV P E w M β y v) (hp : asN y = some (k, n)) : v = .int k n := by
  cases hy <;> simp only [asN, Option.some.injEq, reduceCtorEq, Prod.mk.injEq] at hp <;> (obtain ⟨rfl, rfl⟩ := hp; rfl)

theorem pick_runs {c a b : AV T} {vc va vb : Value} (hc : RV P E w M β c vc) (ha : RV P E w M β a va) (hb : RV P E w M β b vb) {K : AV T → Prop} (h : (popPick c a b).holds K) :
    ∃ x r, vc = .bool x ∧ RV P E w M β r (if x then va else vb) ∧ K r := by
  unfold popPick at h
  split at h
  · cases hc
    exact ⟨true, _, rfl, ha, h⟩
  · cases hc
    exact ⟨false, _, rfl, hb, h⟩
  · rename_i x
    cases hc
    split at h
    · rename_i p q hp hq
      have e1 := asB_val ha hp
      have e2 := asB_val hb hq
      subst e1; subst e2
      refine ⟨x, _, rfl, ?_, h⟩
      cases x <;> exact .bool
    · have two : (Tree.br x (.leaf a) (.leaf b)).holds K → ∃ x' r, Value.bool x = .bool x' ∧ RV P E w M β r (if x' then va else vb) ∧ K r := by
        intro h
        cases x with
        | true => exact ⟨true, _, rfl, ha, h.1 rfl⟩
        | false => exact ⟨false, _, rfl, hb, h.2 rfl⟩
      split at h
      · rename_i k p k' q hp hq
        have e1 := asN_val ha hp
        have e2 := asN_val hb hq
        subst e1; subst e2
        cases hk : decide (k = k') with
        | true =>
          rw [hk] at h
          have hk' : k = k' := of_decide_eq_true hk
          subst hk'
          refine ⟨x, _, rfl, ?_, h⟩
          cases x <;> exact .sym
        | false => rw [hk] at h; exact two h
      · exact two h
  · exact h.elim

theorem extract_runs {i : Nat} {x : AV T} {vx : Value} (hx : RV P E w M β x vx) {K : AV T → Prop} (h : (popExtract i x).holds K) :
    ∃ u r, (Instr.extract vx i).run P w = .ok u w ∧ RV P E w M β r u ∧ K r := by
  cases x <;> simp only [popExtract] at h <;> try exact h.elim
  rename_i cs
  cases hx with
  | tup hl hr =>
    rename_i vs
    obtain ⟨r, hc, hk⟩ := Tree.holds_ofOption h
    have hlt : i < vs.size := by rw [← hl]; exact (List.getElem?_eq_some_iff.1 hc).1
    have hv : vs[i]? = some vs[i] := Array.getElem?_eq_getElem hlt
    exact ⟨vs[i], r, by simp [Instr.extract, hv], hr _ _ _ hc hv, hk⟩
end
end Go.Cx
