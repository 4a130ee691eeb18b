/- The evaluator: append and copy are sound. No condition. -/
import Derived.Test.YtmnhfjhlfgebiaaCxJ
set_option linter.unusedVariables false
noncomputable section
namespace Go.Cx
open Go.RowKit
variable {T : Nat → Type} {P : Program} {E : Enc T}
section
variable {w w' : World} {M : Nat → Prop} {β : Nat → Option Hd} {lim : Nat} {hp hp' : Hp T} {cl : Bool}

theorem LR.get {cs : List (AV T)} {vs : List Value} (h : LR P E w M β cs vs) {j : Nat} (hj : j < cs.length) : RV P E w M β (cs.getD j .any) (vs.getD j undef) := by
  have hv : vs[j]? = some (vs[j]'(by rw [← h.1]; exact hj)) := List.getElem?_eq_getElem _
  have := getD_rv h j _ hv
  simpa [List.getD, hv] using this

/-- A new row that can grow, after an append. -/
theorem newGrow_runs (hN : Now P E lim M β hp w) {sz len cap : Nat} {cs : List (AV T)} {us : List Value} {cur : Array Value} {el : TypeId} (hl : LR P E w M β cs us) (hcs : cs.length = len * sz) (hb : Below w.heap.size w w') (hg : w'.heap[w.heap.size]? = some (.cells cur el (0, 0)))
    (h1 : len ≤ cap) (h2 : cap ≤ maxLen) (h3 : cur.size = cap * sz) (h4 : ∀ (j : Nat) (u : Value), us[j]? = some u → cur[j]? = some u) {K : AV T × Hp T → Prop} (h : (newGrow hp sz cs len).holds fun r => r.2.next ≤ lim ∧ K r) :
    ∃ M' β' r, Step P E lim M β hp w M' β' r.2 w' ∧ RV P E w' M' β' r.1 (.slice (some ⟨w.heap.size, 0, none⟩) len cap) ∧ K r := by
  unfold newGrow at h
  have hle : len * sz ≤ cap * sz := Nat.mul_le_mul_right _ h1
  have hS := hN.newG (n := len * sz) (c := ofL cs) (d := .any) (h := ⟨w.heap.size, 0, cap * sz⟩) h.1 hb (Nat.le_refl _) (fun M' β' hs => by
    refine ⟨cur, el, hg, by simp [h3], hle, fun j hj => ?_⟩
    rw [ofL_get cs .any j (by omega)]
    have hju : j < us.length := by rw [← hl.1]; omega
    have hu : us[j]? = some us[j] := List.getElem?_eq_getElem hju
    have hc := h4 j _ hu
    have e : cur.getD (0 + j) undef = us[j] := by
      rw [Nat.zero_add]
      simp [Array.getD_eq_getD_getElem?, hc]
    show RV P E w' M' β' _ (cur.getD (0 + j) undef)
    rw [e]
    exact (getD_rv hl j _ hu).stab hs)
  exact ⟨_, _, _, hS, .sc (h := ⟨w.heap.size, 0, cap * sz⟩) (off := 0) upd_self h1 (fun c' e => by cases e) (fun _ => ⟨by simp, h2⟩), h.2⟩

theorem append_runs (hN : Now P E lim M β hp w) {tys : List TypeId} {ty : TypeId} {s x : AV T} {vs vx : Value} (hs : RV P E w M β s vs) (hx : RV P E w M β x vx) {K : AV T × Hp T → Prop} (h : (iopAppend P cl hp tys s x).holds fun r => r.2.next ≤ lim ∧ K r) :
    ∃ t, tys = [t, t] ∧ Does P E lim M β hp w (Builtin.append_ #[t, t] ty #[vs, vx]) K := by
  unfold iopAppend at h
  split at h
  case h_2 => exact h.elim
  rename_i t tx
  split at h
  case h_2 => exact h.elim
  rename_i τ hu
  have hq := holds_bif h; clear h; obtain ⟨hb, h⟩ := hq
  obtain ⟨b1, b2, b3, b4⟩ := and4 hb
  obtain rfl := bbeq b1
  have hsz1 := bble b2
  have hby := bble b3
  obtain ⟨z, hz0, hzlen⟩ : ∃ z, zeroA (T := T) P τ = some z ∧ z.length = P.cellsOf τ := by
    cases hz : zeroA (T := T) P τ with
    | none => simp [hz] at b4
    | some z => simp only [hz] at b4; exact ⟨z, rfl, bbeq b4⟩
  obtain ⟨zv, _, hzl, i, hi, hz⟩ := zero_runs (w := w) (M := M) (β := β) (E := E) hz0
  have hzs : zv.cells.size = P.cellsOf τ := by have := hzl.1; simp at this; omega
  clear hb b1 b2 b3 b4
  refine ⟨t, rfl, ?_⟩
  cases hsrc : srcCells P hp τ x with
  | none => simp only [hsrc] at h; exact h.elim
  | some xs =>
  simp only [hsrc] at h
  have hq := holds_bif h; clear h; obtain ⟨hcell, h⟩ := hq
  have hX := src_runs hN hx hsz1 hsrc
  -- nothing is appended
  have zero : xs = [] → ∀ {b : Option Addr} {n cap : Nat}, vs = .slice b n cap → n ≤ cap → (Builtin.append_ #[t, t] ty #[vs, vx]).run P w = .ok vs w := by
    rintro rfl b n cap rfl hn
    rcases hX with ⟨_, a, c, rfl⟩ | ⟨ad, m, c, us, _, hm, hl, _, hL⟩
    · exact run_append_zero hu hi hn
    · have := hL.1
      simp at this
      have : 0 < m * P.cellsOf τ := Nat.mul_pos hm (by omega)
      omega
  -- something is
  have some' : xs ≠ [] → ∃ ad m c us, vx = .slice (some ad) m c ∧ 0 < m ∧ xs.length / P.cellsOf τ = m ∧ xs.length = m * P.cellsOf τ ∧ us.length = m * P.cellsOf τ ∧ (∀ (j : Nat) (u : Value), us[j]? = some u → w.cell? (ad.add j) = some u) ∧ LR P E w M β xs us := by
    intro hne
    rcases hX with ⟨e, _⟩ | ⟨ad, m, c, us, e1, hm, hl, hc, hL⟩
    · exact absurd e hne
    · have := hL.1
      exact ⟨ad, m, c, us, e1, hm, by rw [this, hl]; exact Nat.mul_div_cancel _ (by omega), by omega, hl, hc, hL⟩
  -- into nothing
  have fresh : ∀ {b : Option Addr}, vs = .slice b 0 0 → xs ≠ [] → ((bif Nat.ble xs.length cap30 then newGrow hp (P.cellsOf τ) xs (xs.length / P.cellsOf τ) else .fail : Tree (AV T × Hp T)).holds fun r => r.2.next ≤ lim ∧ K r) → Does P E lim M β hp w (Builtin.append_ #[t, t] ty #[vs, vx]) K := by
    rintro b rfl hne h
    have hq := holds_bif h; clear h; obtain ⟨hcap, h⟩ := hq
    obtain ⟨ad, m, c, us, rfl, hm, hdiv, hxl, hl, hc, hL⟩ := some' hne
    have hcap := bble hcap
    have hmc : m ≤ cap30 := Nat.le_trans (Nat.le_mul_of_pos_right m hsz1) (by omega)
    obtain ⟨w', cap', cur, hr, hbel, hg, k1, k2, k3, k4⟩ := append_new (P := P) (w := w) (ty := ty) hu hi hz hzs hby (b := b) (n := 0) (cap := 0) (olds := []) (by simp) (fun _ => ⟨rfl, rfl⟩) (fun _ _ j u hj => by simp at hj) hl hc (c := c) (by omega) (by omega)
    simp only [Nat.zero_add, List.nil_append] at hr k1 k4
    rw [hdiv] at h
    obtain ⟨M', β', r, q1, q2, q3⟩ := newGrow_runs hN hL (by omega) hbel hg k1 k2 k3 k4 h
    exact ⟨_, w', M', β', r, hr, q1, q2, q3⟩
  split at h
  · cases hs
    split at h
    · exact ⟨_, _, _, _, _, zero rfl rfl (Nat.le_refl _), Step.refl hN, .nils, h.2⟩
    · rename_i hne
      exact fresh rfl hne h
  · cases hs
    split at h
    · exact ⟨_, _, _, _, _, zero rfl rfl (Nat.le_refl _), Step.refl hN, .emp, h.2⟩
    · rename_i hne
      exact fresh rfl hne h
  · rename_i id sz off len cap
    have hs0 := hs
    cases hs with
    | sc hβ h2 h3 h4 =>
    rename_i c hd
    split at h
    · exact ⟨_, _, _, _, _, zero rfl rfl h2, Step.refl hN, hs0, h.2⟩
    · rename_i hne
      obtain ⟨ad, m, cx, us, rfl, hm, hdiv, hxl, hl, hcx, hL⟩ := some' hne
      try dsimp only at h
      have hq := holds_bif h; clear h; obtain ⟨hb, h⟩ := hq
      rw [Bool.and_eq_true] at hb
      have hsz := bbeq hb.1
      subst hsz
      rw [hdiv] at h hb
      have hneed := bble hb.2
      have hneed' : len + m ≤ 1073741824 := hneed
      cases hlk : look hp id with
      | none => simp only [hlk] at h; exact h.elim
      | some ncd =>
      obtain ⟨n, cc, d⟩ := ncd
      simp only [hlk] at h
      have hq := holds_bif h; clear h; obtain ⟨hb2, h⟩ := hq
      have hin := bble hb2
      obtain ⟨hd', cur, el, hLive, hβ', g1, g2, g3⟩ := look_at hN.heap hlk
      obtain rfl : hd = hd' := Option.some.inj (hβ.symm.trans hβ')
      -- what was there
      let olds : List Value := (List.range (len * P.cellsOf τ)).map (fun j => cur.getD (hd.base + off + j) undef)
      have holen : olds.length = len * P.cellsOf τ := by simp [olds]
      have hoget : ∀ (j : Nat) (u : Value), olds[j]? = some u → j < len * P.cellsOf τ ∧ u = cur.getD (hd.base + off + j) undef := by
        intro j u hu
        simp only [olds, List.getElem?_map, Option.map_eq_some_iff] at hu
        obtain ⟨j', hj', rfl⟩ := hu
        obtain ⟨h5, h6⟩ := List.getElem?_eq_some_iff.1 hj'
        simp only [List.length_range] at h5
        simp only [List.getElem_range] at h6
        subst h6
        exact ⟨h5, rfl⟩
      have holds : ∀ bb, some (⟨hd.block, hd.base + off, none⟩ : Addr) = some bb → ∀ (j : Nat) (u : Value), olds[j]? = some u → w.cell? (bb.add j) = some u := by
        rintro bb e j u hu
        cases e
        obtain ⟨h5, rfl⟩ := hoget j u hu
        rw [add_plain']
        exact cell_of g1 (by omega)
      have hoL : LR P E w M β (rdN cc d (len * P.cellsOf τ) off) olds := by
        refine ⟨by rw [rdN_length, holen], fun j x u hx hu => ?_⟩
        obtain ⟨hj, rfl⟩ := rdN_get cc d _ _ _ _ hx
        obtain ⟨_, rfl⟩ := hoget j u hu
        have := g3 (off + j) (by omega)
        rw [← Nat.add_assoc] at this
        exact this
      have hall := hoL.append hL
      have hallLen : (rdN cc d (len * P.cellsOf τ) off ++ xs).length = (len + m) * P.cellsOf τ := by rw [List.length_append, rdN_length, hxl, Nat.add_mul]
      -- into a new block
      have move : c < len + m → ∃ w' cap' cur', (Builtin.append_ #[t, t] ty #[.slice (some ⟨hd.block, hd.base + off, none⟩) len c, .slice (some ad) m cx]).run P w = .ok (.slice (some ⟨w.heap.size, 0, none⟩) (len + m) cap') w' ∧ Below w.heap.size w w' ∧
          w'.heap[w.heap.size]? = some (.cells cur' τ (0, 0)) ∧ len + m ≤ cap' ∧ cap' ≤ maxLen ∧ cur'.size = cap' * P.cellsOf τ ∧ (∀ (j : Nat) (u : Value), (olds ++ us)[j]? = some u → cur'[j]? = some u) :=
        fun hlt => append_new hu hi hz hzs hby holen (fun e => by cases e) holds hl hcx hlt hneed
      -- where there is room
      have inplace : len + m ≤ c → ∀ {K' : Hp T → Prop}, (wrObj hp id (off + len * P.cellsOf τ) xs).holds K' → ∃ w' hp', (Builtin.append_ #[t, t] ty #[.slice (some ⟨hd.block, hd.base + off, none⟩) len c, .slice (some ad) m cx]).run P w = .ok (.slice (some ⟨hd.block, hd.base + off, none⟩) (len + m) c) w' ∧ Step P E lim M β hp w M β hp' w' ∧ K' hp' := by
        intro hroom K' hw
        obtain ⟨cur2, el2, hp', k1, k2, k3, k4, k5, k6, k7⟩ := wrObj_runs hN hβ hL hw
        have e : hd.base + (off + len * P.cellsOf τ) = hd.base + off + len * P.cellsOf τ := by omega
        rw [e] at k2 k6
        exact ⟨_, hp', run_append_at hu hi k1 hl hcx k3 hroom (by omega), k6, k7⟩
      split at h
      · rename_i cp
        obtain rfl : c = cp := h3 _ rfl
        obtain ⟨q1, q2⟩ := Tree.holds_ite' h
        by_cases hroom : len + m ≤ c
        · have := Tree.holds_bind.1 (q1 (Nat.ble_eq_true_of_le hroom))
          obtain ⟨w', hp', r1, r2, r3⟩ := inplace hroom this
          exact ⟨_, w', M, β, (.sc id (P.cellsOf τ) off (len + m) (some c), hp'), r1, r2, .sc (r2.evo.hd _ _ hβ) hroom (fun c' e => by cases e; rfl) (fun e => by cases e), r3.2⟩
        · have hno : Nat.ble (len + m) c = false := by
            cases hx : Nat.ble (len + m) c with
            | false => rfl
            | true => exact absurd (bble hx) hroom
          obtain ⟨w', cap', cur', r1, r2, r3, r4, r5, r6, r7⟩ := move (by omega)
          obtain ⟨M', β', r, p1, p2, p3⟩ := newGrow_runs hN hall hallLen r2 r3 r4 r5 r6 r7 (q2 hno)
          exact ⟨_, w', M', β', r, r1, p1, p2, p3⟩
      · obtain ⟨e1, e2⟩ := h4 rfl
        split at h
        · rename_i n2 c2 d2 f hid
          have hL2 : n2 = n ∧ c2 = cc ∧ d2 = d := by
            unfold look at hlk
            rw [hid] at hlk
            simp only at hlk
            split at hlk
            · rename_i hh sh hf
              cases hb3 : Nat.beq id hh || memN id sh with
              | false => simp only [hb3, cond_false] at hlk; cases hlk
              | true =>
                simp only [hb3, cond_true, Option.some.injEq, Prod.mk.injEq] at hlk
                exact hlk
            · cases hlk
          obtain ⟨rfl, rfl, rfl⟩ := hL2
          obtain ⟨hd2, hβ2, cur2, el2, p1, p2, p3, p4⟩ := hN.heap.obj id _ hLive hid
          obtain rfl : hd = hd2 := Option.some.inj (hβ.symm.trans hβ2)
          obtain ⟨rfl, rfl⟩ : cur2 = cur ∧ el2 = el := by
            rw [g1] at p1
            cases p1
            exact ⟨rfl, rfl⟩
          cases hfit : Nat.ble (off + (len + m) * P.cellsOf τ) n2 with
          | true =>
            simp only [hfit, cond_true] at h
            have hfit := bble hfit
            have hroom : len + m ≤ c := by
              have : (len + m) * P.cellsOf τ ≤ c * P.cellsOf τ := by omega
              exact Nat.le_of_mul_le_mul_right this (by omega)
            have := Tree.holds_bind.1 h
            obtain ⟨w', hp', r1, r2, r3⟩ := inplace hroom this
            exact ⟨_, w', M, β, (.sc id (P.cellsOf τ) off (len + m) none, hp'), r1, r2, .sc (r2.evo.hd _ _ hβ) hroom (fun c' e => by cases e) (fun _ => ⟨e1, e2⟩), r3.2⟩
          | false =>
            simp only [hfit, cond_false] at h
            have hq := holds_bif h; clear h; obtain ⟨hend, h⟩ := hq
            have hend := bbeq hend
            split at h
            · rename_i hh sh hf
              have hq := holds_bif h; clear h; obtain ⟨hidh, h⟩ := hq
              obtain rfl := bbeq hidh
              have hlim : hp.next + 1 ≤ lim := h.1
              have hmul : (len + m) * P.cellsOf τ = len * P.cellsOf τ + m * P.cellsOf τ := Nat.add_mul _ _ _
              by_cases hroom : len + m ≤ c
              · have hcm : (len + m) * P.cellsOf τ ≤ c * P.cellsOf τ := Nat.mul_le_mul_right _ hroom
                have hone := hL.oneCells hcell
                have hfit2 : hd.base + off + len * P.cellsOf τ + us.length ≤ cur2.size := by omega
                have hr := run_append_at (P := P) (w := w) (ty := ty) hu hi g1 hl hcx (c := cx) hone hroom hfit2
                have hS := hN.grown (hp' := (hp.new (.grow ((len + m) * P.cellsOf τ) (growC c2 d2 off (len * P.cellsOf τ) xs) (growD d2 off) f)).put f (.fam hp.next (id :: sh))) (h' := ⟨hd.block, hd.base + off, hd.lim - off⟩)
                  (w' := w.setRow hd.block (cur2.toList.take (hd.base + off + len * P.cellsOf τ) ++ us ++ cur2.toList.drop (hd.base + off + len * P.cellsOf τ + us.length)).toArray)
                  hid hf hβ hlim rfl rfl rfl rfl (by simp [World.setRow]) (fun b _ hne => setRow_other w hd.block b _ hne)
                  (fun vs' el' hvs => by
                    rw [g1] at hvs
                    cases hvs
                    refine ⟨_, setRow_heap w hd.block cur2 _ _ (0, 0) g1, splice_size (by omega), fun j hj => ?_⟩
                    rw [splice_getD (by omega), if_neg (by omega)])
                  (.inl ⟨rfl, by simp only; omega⟩)
                  (fun M' β' hs => by
                    refine ⟨_, el2, setRow_heap w hd.block cur2 _ _ (0, 0) g1, by rw [splice_size (by omega)]; simp only; omega, by simp only; omega, fun j hj => ?_⟩
                    rw [grow_get (by omega), splice_getD (by omega)]
                    simp only
                    by_cases hjl : j < len * P.cellsOf τ
                    · rw [if_neg (by omega)]
                      have := hall.get (j := j) (by omega)
                      rw [show (olds ++ us).getD j undef = cur2.getD (hd.base + off + j) undef by
                        simp only [List.getD]
                        rw [List.getElem?_append_left (by omega)]
                        simp [olds, hjl]] at this
                      exact this.stab hs
                    · rw [if_pos (by omega)]
                      have := hall.get (j := j) (by omega)
                      rw [show (olds ++ us).getD j undef = us.getD (hd.base + off + j - (hd.base + off + len * P.cellsOf τ)) undef by
                        simp only [List.getD]
                        rw [List.getElem?_append_right (by omega), holen]
                        congr 2
                        omega] at this
                      exact this.stab hs)
                refine ⟨_, _, _, _, _, hr, hS, ?_, h.2⟩
                refine .sc (h := ⟨hd.block, hd.base + off, hd.lim - off⟩) (off := 0) upd_self hroom (fun c' e => by cases e) (fun _ => ⟨?_, e2⟩)
                simp only
                omega
              · obtain ⟨w', cap', cur', r1, r2, r3, r4, r5, r6, r7⟩ := move (by omega)
                have hcc : (len + m) * P.cellsOf τ ≤ cap' * P.cellsOf τ := Nat.mul_le_mul_right _ r4
                have hS := hN.grown (hp' := (hp.new (.grow ((len + m) * P.cellsOf τ) (growC c2 d2 off (len * P.cellsOf τ) xs) (growD d2 off) f)).put f (.fam hp.next (id :: sh))) (h' := ⟨w.heap.size, 0, cap' * P.cellsOf τ⟩) (w' := w')
                  hid hf hβ hlim rfl r2.os r2.tape r2.output r2.size (fun b hb _ => r2.block b hb) (fun vs' el' hvs => ⟨vs', by rw [r2.block _ (Array.getElem?_eq_some_iff.1 hvs).1]; exact hvs, rfl, fun _ _ => rfl⟩)
                  (.inr (Nat.le_refl _))
                  (fun M' β' hs => by
                    refine ⟨cur', τ, r3, by simp [r6], hcc, fun j hj => ?_⟩
                    rw [grow_get (by omega)]
                    have hju : j < (olds ++ us).length := by rw [← hall.1]; omega
                    have hu' : (olds ++ us)[j]? = some (olds ++ us)[j] := List.getElem?_eq_getElem hju
                    have hc' := r7 j _ hu'
                    have e : cur'.getD (0 + j) undef = (olds ++ us)[j] := by
                      rw [Nat.zero_add]
                      simp [Array.getD_eq_getD_getElem?, hc']
                    show RV P E w' M' β' _ (cur'.getD (0 + j) undef)
                    rw [e]
                    exact (getD_rv hall j _ hu').stab hs)
                exact ⟨_, _, _, _, _, r1, hS, .sc (h := ⟨w.heap.size, 0, cap' * P.cellsOf τ⟩) (off := 0) upd_self r4 (fun c' e => by cases e) (fun _ => ⟨by simp, r5⟩), h.2⟩
            · exact h.elim
        · exact h.elim
  · exact h.elim

theorem copy_runs (hN : Now P E lim M β hp w) {tys : List TypeId} {ty : TypeId} {s x : AV T} {vs vx : Value} (hs : RV P E w M β s vs) (hx : RV P E w M β x vx) {K : AV T × Hp T → Prop} (h : (iopCopy P hp tys s x).holds fun r => r.2.next ≤ lim ∧ K r) :
    Does P E lim M β hp w (Builtin.copy_ tys.toArray ty #[vs, vx]) K := by
  unfold iopCopy at h
  split at h
  case h_2 => exact h.elim
  rename_i t ts
  split at h
  case h_2 => exact h.elim
  rename_i τ hu
  have hq := holds_bif' h; clear h; obtain ⟨hinf, h⟩ := hq
  obtain ⟨inf, hi⟩ : ∃ inf, P.info? τ = some inf := by
    cases hc : P.info? τ with
    | none => simp [hc] at hinf
    | some i => exact ⟨i, rfl⟩
  split at h
  case h_2 => exact h.elim
  rename_i id sz off len cap xs hsrc
  have hq := holds_bif h; clear h; obtain ⟨hb, h⟩ := hq
  rw [Bool.and_eq_true] at hb
  have hsz := bbeq hb.1
  have hsz1 := bble hb.2
  subst hsz
  have hX := src_runs hN hx hsz1 hsrc
  cases hs with
  | sc hβ h2 h3 h4 =>
  rename_i c hd
  have fin : ∀ (n : Nat) (us : List Value) (q : Nat) (hq : Builtin.lenOf vx = pure q), Nat.min q len = n → us.length = n * P.cellsOf τ → (∀ w, (Builtin.firstCells (P.cellsOf τ) n vx).run P w = (Builtin.firstCells (P.cellsOf τ) n vx).run P w) → True := fun _ _ _ _ _ _ _ => trivial
  clear fin
  rcases hX with ⟨rfl, a, c', rfl⟩ | ⟨ad, m, c', us, rfl, hm, hl, hc, hL⟩
  · simp only [List.length_nil, Nat.zero_div] at h
    have e0 : (bif Nat.ble 0 len then 0 else len) = 0 := rfl
    rw [e0] at h
    try dsimp only at h
    refine ⟨.int .i64 0, w, M, β, (.int .i64 0, hp), ?_, Step.refl hN, .int, h.2⟩
    cases a <;> simp [Builtin.copy_, run_underlying hu, run_sizeOf' hi, Builtin.lenOf, Builtin.firstCells, loadCells, loadCellsFrom, storeCells, goInt]
  · have hxl : xs.length = m * P.cellsOf τ := by have := hL.1; omega
    have hdiv : xs.length / P.cellsOf τ = m := by rw [hxl]; exact Nat.mul_div_cancel _ (by omega)
    rw [hdiv] at h
    have hmin : (bif Nat.ble m len then m else len) = Nat.min m len := by
      cases hb : Nat.ble m len with
      | true => have := bble hb; simp only [cond_true]; exact (Nat.min_eq_left this).symm
      | false =>
        have : ¬ m ≤ len := fun h => by rw [Nat.ble_eq_true_of_le h] at hb; cases hb
        simp only [cond_false]
        exact (Nat.min_eq_right (by omega)).symm
    rw [hmin] at h
    generalize hn : Nat.min m len = n at h
    try dsimp only at h
    have hnm : n ≤ m := by rw [← hn]; exact Nat.min_le_left _ _
    have hmul : n * P.cellsOf τ ≤ m * P.cellsOf τ := Nat.mul_le_mul_right _ hnm
    have hf := run_firstCells_some (P := P) w (P.cellsOf τ) n ad m c' (us.take (n * P.cellsOf τ)) (by simp; omega) (fun j u hu => by
      rw [List.getElem?_take] at hu
      split at hu
      · exact hc j u hu
      · cases hu)
    split at h
    · simp only [Nat.zero_mul, List.take_zero] at hf
      refine ⟨.int .i64 0, w, M, β, (.int .i64 0, hp), ?_, Step.refl hN, .int, h.2⟩
      simp [Builtin.copy_, run_underlying hu, run_sizeOf' hi, Builtin.lenOf, hn, hf, storeCells, goInt]
    · rename_i hn0
      have h := Tree.holds_bind.1 h
      obtain ⟨cur, el, hp', k1, k2, k3, k4, k5, k6, k7⟩ := wrObj_runs hN hβ (hL.take (n * P.cellsOf τ)) h
      refine ⟨.int .i64 n, _, M, β, (.int .i64 n, hp'), ?_, k6, .int, k7.2⟩
      have hst := run_storeCells_at P hd.block (hd.base + off) el (us.take (n * P.cellsOf τ)) 0 cur w k1 (by simpa using k2) k3
      simp only [Nat.add_zero] at hst
      simp [Builtin.copy_, run_underlying hu, run_sizeOf' hi, Builtin.lenOf, hn, hf, hst, goInt]

theorem clear_runs (hN : Now P E lim M β hp w) {tys : List TypeId} {ty : TypeId} {x : AV T} {vx : Value} (hx : RV P E w M β x vx) {K : AV T × Hp T → Prop} (h : (iopClear P hp tys x).holds fun r => r.2.next ≤ lim ∧ K r) :
    Does P E lim M β hp w (Builtin.clear_ tys.toArray ty #[vx]) K := by
  unfold iopClear at h
  split at h
  case h_2 => exact h.elim
  rename_i t
  split at h
  case h_2 => exact h.elim
  rename_i τ hu
  cases hz0 : zeroA (T := T) P τ with
  | none => simp only [hz0] at h; exact h.elim
  | some z =>
  simp only [hz0] at h
  have hund : RV P E w M β (.tup [] : AV T) (.tuple #[]) := .tup rfl fun j c v h => by simp at h
  split at h
  · cases hx
    exact ⟨_, w, M, β, _, by simp [Builtin.clear_, run_underlying hu], Step.refl hN, hund, h.2⟩
  · cases hx
    rename_i a
    exact ⟨_, w, M, β, _, by cases a <;> simp [Builtin.clear_, run_underlying hu], Step.refl hN, hund, h.2⟩
  · cases hx
    rename_i a c
    exact ⟨_, w, M, β, _, by cases a <;> simp [Builtin.clear_, run_underlying hu], Step.refl hN, hund, h.2⟩
  · rename_i id sz off len cap
    split at h
    · cases hx
      exact ⟨_, w, M, β, _, by simp [Builtin.clear_, run_underlying hu], Step.refl hN, hund, h.2⟩
    · rename_i m
      obtain ⟨zv, hzr, hzl, i, hi, hz⟩ := zero_runs (w := w) (M := M) (β := β) (E := E) hz0
      have hzz : zv.cells.size = z.length := by have := hzl.1; simpa using this.symm
      cases hx with
      | sc hβ h2 h3 h4 =>
      rename_i c hd
      have hL : LR P E w M β (clrL ((m + 1) * z.length) z) (Builtin.zeroCells zv.cells (m + 1)).toList := by
        refine ⟨by simp [clrL, Builtin.zeroCells, hzz], fun j y u hy hu' => ?_⟩
        simp only [clrL, List.getElem?_map, Option.map_eq_some_iff] at hy
        obtain ⟨j', hj', rfl⟩ := hy
        obtain ⟨h5, h6⟩ := List.getElem?_eq_some_iff.1 hj'
        simp only [List.length_range] at h5
        simp only [List.getElem_range] at h6
        subst h6
        have hpos : 0 < z.length := by
          rcases Nat.eq_zero_or_pos z.length with e | e
          · rw [e] at h5; simp at h5
          · exact e
        have hm : j % z.length < z.length := Nat.mod_lt _ hpos
        simp only [Builtin.zeroCells, Array.toList_map, List.getElem?_map, Option.map_eq_some_iff] at hu'
        obtain ⟨j2, hj2, rfl⟩ := hu'
        have : j2 = j := by
          simp only [Array.toList_range] at hj2
          obtain ⟨h7, h8⟩ := List.getElem?_eq_some_iff.1 hj2
          simp only [List.getElem_range] at h8
          exact h8.symm
        subst this
        have hlt : j2 % zv.cells.size < zv.cells.size := by rw [hzz]; exact hm
        rw [getElem!_pos zv.cells _ hlt]
        have e2 : z.getD (j2 % z.length) .any = z[j2 % z.length] := by simp [List.getD, hm]
        rw [e2]
        refine hzl.2 (j2 % z.length) _ _ (List.getElem?_eq_getElem hm) ?_
        rw [← hzz, Array.getElem?_toList, Array.getElem?_eq_getElem hlt]
      have h := Tree.holds_bind.1 h
      obtain ⟨cur, el, hp', k1, k2, k3, k4, k5, k6, k7⟩ := wrObj_runs hN hβ hL h
      refine ⟨.tuple #[], _, M, β, (.tup [], hp'), ?_, k6, .tup rfl fun j c v h => by simp at h, k7.2⟩
      have hst := run_storeCells_at P hd.block (hd.base + off) el _ 0 cur w k1 (by simpa using k2) k3
      simp only [Nat.add_zero] at hst
      simp [Builtin.clear_, run_underlying hu, hzr, hst]
  · exact h.elim
end
end Go.Cx
