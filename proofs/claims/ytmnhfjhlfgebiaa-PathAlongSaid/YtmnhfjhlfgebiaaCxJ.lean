/- The evaluator: slices that are made are sound. No condition. -/
import Derived.Test.YtmnhfjhlfgebiaaCxI
set_option linter.unusedVariables false
noncomputable section
namespace Go.Cx
open Go.RowKit
variable {T : Nat → Type} {P : Program} {E : Enc T}
section
variable {w w' : World} {M : Nat → Prop} {β : Nat → Option Hd} {lim : Nat} {hp hp' : Hp T} {cl : Bool}

theorem make_runs (hN : Now P E lim M β hp w) {t : TypeId} {x y : AV T} {vx vy : Value} (hx : RV P E w M β x vx) (hy : RV P E w M β y vy) {K : AV T × Hp T → Prop} (h : (iopMake P cl hp t x y).holds fun r => r.2.next ≤ lim ∧ K r) :
    Does P E lim M β hp w (Instr.makeSlice t vx vy) K := by
  unfold iopMake at h
  split at h
  case h_2 => exact h.elim
  rename_i τ kn n kc c hu
  cases hz0 : zeroA (T := T) P τ with
  | none => simp only [hz0] at h; exact h.elim
  | some z =>
    simp only [hz0] at h
    obtain ⟨hb, h⟩ := holds_bif h
    obtain ⟨b1, b2, b3⟩ := and3 hb
    have b1 := bbeq b1
    have b2 := bble b2
    have b3 := bble b3
    obtain ⟨hc, h⟩ := Tree.holds_chk h
    obtain ⟨q1, q2, q3⟩ := and3 hc
    have q1 := of_decide_eq_true q1
    have q2 := of_decide_eq_true q2
    have q3 := of_decide_eq_true q3
    cases hx
    cases hy
    obtain ⟨zv, hzr, hzl, i, hi, hz⟩ := zero_runs (w := w) (M := M) (β := β) (E := E) hz0
    have hsz : i.size = P.cellsOf τ := by simp [Program.cellsOf, hi]
    have hbb : i.bytes = P.bytesOf τ := by simp [Program.bytesOf, hi]
    obtain ⟨c, rfl⟩ := Int.eq_ofNat_of_zero_le (show 0 ≤ c by omega)
    have h2' : c ≤ 1073741824 := by have : (cap30 : Int) = 1073741824 := rfl; omega
    have hbytes : (i.bytes : Int) * (c : Int) ≤ 281474976710656 := by
      rw [hbb]
      have : P.bytesOf τ * c ≤ 65536 * 1073741824 := Nat.mul_le_mul b3 h2'
      have h3 : ((P.bytesOf τ * c : Nat) : Int) ≤ 281474976710656 := by omega
      rwa [Int.natCast_mul] at h3
    have hr := run_make (P := P) w t τ i zv hu hi hz kn kc n (c : Int) q1 q2 hbytes (by omega)
    simp only [Int.toNat_natCast] at hr h
    obtain ⟨cc, d, ho, hcd⟩ := repC_spec c z (by omega)
    rw [ho] at h
    have hzz : zv.cells.size = z.length := by have := hzl.1; simpa using this.symm
    have hS := alloc_step hN (o := .cells (c * z.length) cc d) (ob := .cells (madeCells zv.cells (c * i.size)) τ) (lm := c * z.length) h.1 (.inl ⟨_, _, _, rfl⟩) (fun M' β' hs => by
      refine ⟨_, τ, heap_alloc_new w _, by simp [size_madeCells, hsz, b1], Nat.le_refl _, fun j hj => ?_⟩
      rw [hcd j hj]
      have hm : j % z.length < z.length := Nat.mod_lt _ (by omega)
      have hv : zv.cells.toList[j % z.length]? = some (zv.cells[j % z.length]'(by omega)) := by simp [hzz, hm]
      have e : (madeCells zv.cells (c * i.size)).getD (0 + j) undef = zv.cells[j % z.length]'(by omega) := by
        rw [Nat.zero_add]
        have hj' : j < c * i.size := by rw [hsz, ← b1]; exact hj
        simp only [madeCells, Array.getD_eq_getD_getElem?, Array.getElem?_map, Array.getElem?_range, hj', if_true, Option.map_some, Option.getD_some, hzz]
        simp [hzz, hm]
      show RV P E _ M' β' _ ((madeCells zv.cells (c * i.size)).getD (0 + j) undef)
      rw [e]
      exact (getD_rv hzl _ _ hv).stab hs)
    refine ⟨_, _, _, _, _, hr, hS, ?_, h.2⟩
    exact .sc (h := ⟨w.heap.size, 0, c * z.length⟩) upd_self (by omega) (fun c' e => by cases e; rfl) (fun e => by cases e)

theorem buildSlice_runs (hN : Now P E lim M β hp w) {t : TypeId} {n : Nat} {parts : List (Nat × AV T)} {vparts : Array (Nat × Value)} (h1 : parts.map (·.1) = vparts.toList.map (·.1)) (h2 : LR P E w M β (parts.map (·.2)) (vparts.toList.map (·.2)))
    {K : AV T × Hp T → Prop} (h : (iopBuildSlice P hp t n parts).holds fun r => r.2.next ≤ lim ∧ K r) : Does P E lim M β hp w (Instr.buildSlice t n vparts) K := by
  unfold iopBuildSlice at h
  split at h
  case h_2 => exact h.elim
  rename_i τ hu
  cases hz0 : zeroA (T := T) P τ with
  | none => simp only [hz0] at h; exact h.elim
  | some z =>
    simp only [hz0] at h
    obtain ⟨hb, h⟩ := holds_bif h
    obtain ⟨b1, b2, b3⟩ := and3 hb
    have b1 := bbeq b1
    have b2 := bble b2
    have b3 : n * P.cellsOf τ ≤ 1048576 := bble b3
    obtain ⟨zv, hzr, hzl, i, hi, hz⟩ := zero_runs (w := w) (M := M) (β := β) (E := E) hz0
    cases hf : fillA (fun i => some (i * P.cellsOf τ, P.cellsOf τ)) (List.replicate n z).flatten parts with
    | none => simp only [hf] at h; exact h.elim
    | some cs =>
    simp only [hf] at h
    have hzz : zv.cells.size = z.length := by have := hzl.1; simpa using this.symm
    let zero : Array Value := if n * P.cellsOf τ = 0 then #[] else zv.cells
    let cur : Array Value := (Array.range (n * P.cellsOf τ)).map (fun k => zero[k % zero.size]!)
    have hcur : LR P E w M β (List.replicate n z).flatten cur.toList := by
      refine ⟨by simp [cur, b1], fun j c v hc hv => ?_⟩
      have hj : j < n * z.length := by have := (List.getElem?_eq_some_iff.1 hc).1; simpa using this
      have hne : n * P.cellsOf τ ≠ 0 := by rw [← b1]; omega
      rw [flatten_replicate_get' (by omega) n j hj] at hc
      have hm : j % z.length < z.length := Nat.mod_lt _ (by omega)
      have hj' : j < n * P.cellsOf τ := by rw [← b1]; exact hj
      have hz1 : zero = zv.cells := by simp only [zero]; rw [if_neg hne]
      simp only [cur, Array.getElem?_toList, Array.getElem?_map, Array.getElem?_range, hj', if_true, Option.map_some, Option.some.injEq, hz1, hzz] at hv
      refine hzl.2 _ c v hc ?_
      rw [Array.getElem?_toList, Array.getElem?_eq_getElem (by omega)]
      rw [← hv]
      simp [hzz, hm]
    obtain ⟨us, hu1, hu2⟩ := fill_runs parts vparts.toList _ cs cur h1 h2 hcur hf
    have hszrun : (sizeOf τ).run P w = .ok (P.cellsOf τ) w := run_sizeOf' hi w
    have hcs : cs.length = n * P.cellsOf τ := by
      have := fillA_length _ _ _ hf
      simpa [b1] using this
    have hrun : (Instr.buildSlice t n vparts).run P w = .ok (.slice (some ⟨w.heap.size, 0, none⟩) n n) (w.alloc (.cells us τ)) := by
      have hfill : ∀ z' : Array Value, z' = zero → (match Instr.fill (fun i => some (i * P.cellsOf τ, P.cellsOf τ)) ((Array.range (n * P.cellsOf τ)).map (z'[· % z'.size]!)) vparts.toList with
            | some cells => do
              let r ← newRow τ cells
              pure (Value.slice (some r) n n)
            | _ => stuck "buildSlice: a part of the wrong size" : Sem Value).run P w = .ok (.slice (some ⟨w.heap.size, 0, none⟩) n n) (w.alloc (.cells us τ)) := by
        intro z' hz'
        subst hz'
        rw [hu1]
        simp [newRow]
      simp only [Instr.buildSlice, Sem.run_bind, run_underlying hu, Result.andThen_ok, hszrun]
      rw [if_neg (by omega)]
      by_cases h0 : n * P.cellsOf τ = 0
      · rw [if_pos h0]
        simp only [Sem.run_bind, Sem.run_pure, Result.andThen_ok]
        exact hfill #[] (by simp [zero, h0])
      · rw [if_neg h0]
        simp only [Sem.run_bind, hzr, Sem.run_pure, Result.andThen_ok]
        exact hfill zv.cells (by simp [zero, h0])
    have hS := alloc_step hN (o := .cells (n * P.cellsOf τ) (ofL cs) .any) (ob := .cells us τ) (lm := n * P.cellsOf τ) h.1 (.inl ⟨_, _, _, rfl⟩) (fun M' β' hs => by
      have := cells_new (room := cs.length) (hu2.stab hs) (fun j hj => ofL_get cs .any j hj) (heap_alloc_new w (.cells us τ)) (by rw [hu2.1]; simp) (Nat.le_refl _)
      rw [hcs] at this
      exact this)
    refine ⟨_, _, _, _, _, hrun, hS, ?_, h.2⟩
    exact .sc (h := ⟨w.heap.size, 0, n * P.cellsOf τ⟩) upd_self (Nat.le_refl _) (fun c' e => by cases e; rfl) (fun e => by cases e)
where
  fillA_length (place : Nat → Option (Nat × Nat)) : ∀ (parts : List (Nat × AV T)) (cs : List (AV T)) {r : List (AV T)}, fillA place cs parts = some r → r.length = cs.length
    | [], cs, r, h => by simp only [fillA, Option.some.injEq] at h; rw [h]
    | (i, v) :: parts, cs, r, h => by
      simp only [fillA] at h
      split at h
      · rename_i off size vc hp hv
        cases hb : Nat.beq vc.length size && Nat.ble (off + vc.length) cs.length with
        | false => simp [hb] at h
        | true =>
          simp only [hb, cond_true] at h
          rw [Bool.and_eq_true] at hb
          have := bble hb.2
          rw [fillA_length place parts _ h]
          simp
          omega
      · cases h

/-- What the elements of a slice are. -/
theorem src_runs (hN : Now P E lim M β hp w) {τ : Nat} {x : AV T} {vx : Value} {xs : List (AV T)} (hx : RV P E w M β x vx) (_ : 1 ≤ P.cellsOf τ) (h : srcCells P hp τ x = some xs) :
    (xs = [] ∧ ∃ a c, vx = .slice a 0 c) ∨ ∃ ad m c us, vx = .slice (some ad) m c ∧ 0 < m ∧ us.length = m * P.cellsOf τ ∧ (∀ (j : Nat) (u : Value), us[j]? = some u → w.cell? (ad.add j) = some u) ∧ LR P E w M β xs us := by
  unfold srcCells at h
  split at h
  · simp only [Option.some.injEq] at h; subst h; cases hx; exact .inl ⟨rfl, _, _, rfl⟩
  · simp only [Option.some.injEq] at h; subst h; cases hx; exact .inl ⟨rfl, _, _, rfl⟩
  · simp only [Option.some.injEq] at h; subst h; cases hx; exact .inl ⟨rfl, _, _, rfl⟩
  · rename_i id sz off len cap
    cases hx with
    | sc hβ h2 h3 h4 =>
    rename_i c hd
    cases h0 : Nat.beq len 0 with
    | true =>
      simp only [h0, cond_true, Option.some.injEq] at h
      have := bbeq h0
      subst this
      exact .inl ⟨h.symm, _, _, rfl⟩
    | false =>
      have hne := Nat.ne_of_beq_eq_false h0
      simp only [h0, cond_false] at h
      split at h
      · rename_i n cc d hl
        cases hb : Nat.beq sz (P.cellsOf τ) && Nat.ble (off + len * sz) n with
        | false => simp only [hb, cond_false] at h; cases h
        | true =>
          simp only [hb, cond_true, Option.some.injEq] at h
          subst h
          rw [Bool.and_eq_true] at hb
          have hsz := bbeq hb.1
          have hle := bble hb.2
          subst hsz
          obtain ⟨hd', vs, el, k0, k1, k2, k3, k4⟩ := look_at hN.heap hl
          obtain rfl : hd = hd' := Option.some.inj (hβ.symm.trans k1)
          refine .inr ⟨_, _, _, (List.range (len * P.cellsOf τ)).map (fun j => vs.getD (hd.base + off + j) undef), rfl, by omega, by simp, fun j u hu => ?_, ⟨by simp [rdN_length], fun j x u hx hu => ?_⟩⟩
          · rw [List.getElem?_map, Option.map_eq_some_iff] at hu
            obtain ⟨j', hj', rfl⟩ := hu
            obtain ⟨h5, h6⟩ := List.getElem?_eq_some_iff.1 hj'
            simp only [List.length_range] at h5
            simp only [List.getElem_range] at h6
            subst h6
            rw [add_plain']
            exact cell_of k2 (by omega)
          · obtain ⟨hj, rfl⟩ := rdN_get cc d _ _ _ _ hx
            rw [List.getElem?_map, Option.map_eq_some_iff] at hu
            obtain ⟨j', hj', rfl⟩ := hu
            obtain ⟨h5, h6⟩ := List.getElem?_eq_some_iff.1 hj'
            simp only [List.getElem_range] at h6
            subst h6
            have := k4 (off + j) (by omega)
            rw [← Nat.add_assoc] at this
            exact this
      · cases h
  · cases h

/-- Nothing is appended. -/
theorem run_append_zero {t ty τ : TypeId} (ht : P.underlying t = some (.slice τ)) {i : TypeInfo} (hi : P.info? τ = some i) {b a : Option Addr} {n cap c : Nat} (hn : n ≤ cap) :
    (Builtin.append_ #[t, t] ty #[.slice b n cap, .slice a 0 c]).run P w = .ok (.slice b n cap) w := by
  cases a <;> cases b <;> simp [Builtin.append_, run_underlying ht, sizeOf, typeInfo, hi, Builtin.lenOf, hn, Builtin.firstCells, loadCells, loadCellsFrom, storeCells]

/-- There is room. -/
theorem run_append_at {t ty τ : TypeId} (ht : P.underlying t = some (.slice τ)) {i : TypeInfo} (hi : P.info? τ = some i) {g o sLen sCap : Nat} {cur : Array Value} {el : TypeId} (hg : w.heap[g]? = some (.cells cur el (0, 0)))
    {a : Addr} {m c : Nat} {news : List Value} (hl : news.length = m * P.cellsOf τ) (hnews : ∀ j u, news[j]? = some u → w.cell? (a.add j) = some u) (h1 : ∀ u ∈ news, u.oneCell' = true)
    (hroom : sLen + m ≤ sCap) (hfit : o + sLen * P.cellsOf τ + news.length ≤ cur.size) :
    (Builtin.append_ #[t, t] ty #[.slice (some ⟨g, o, none⟩) sLen sCap, .slice (some a) m c]).run P w =
      .ok (.slice (some ⟨g, o, none⟩) (sLen + m) sCap) (w.setRow g (cur.toList.take (o + sLen * P.cellsOf τ) ++ news ++ cur.toList.drop (o + sLen * P.cellsOf τ + news.length)).toArray) := by
  have hsz : P.cellsOf τ = i.size := by simp [Program.cellsOf, hi]
  rw [hsz] at hl hfit ⊢
  have hf := run_firstCells_some (P := P) w i.size m a m c news hl hnews
  have hst := run_storeCells_at P g (o + sLen * i.size) el news 0 cur w hg (by simpa using hfit) h1
  simp only [Nat.add_zero] at hst
  simp [Builtin.append_, run_underlying ht, sizeOf, typeInfo, hi, Builtin.lenOf, hroom, hf, add_plain', hst]

/-- There is none. -/
theorem append_new {t ty τ : TypeId} (ht : P.underlying t = some (.slice τ)) {i : TypeInfo} (hi : P.info? τ = some i) {z : Value} (hz : i.zero = some z) (hzs : z.cells.size = P.cellsOf τ) (hby : P.bytesOf τ ≤ 65536)
    {b : Option Addr} {n cap : Nat} {olds : List Value} (hlo : olds.length = n * P.cellsOf τ) (hb0 : b = none → n = 0 ∧ cap = 0) (holds : ∀ bb, b = some bb → ∀ j u, olds[j]? = some u → w.cell? (bb.add j) = some u)
    {m : Nat} {ad : Addr} {c : Nat} {news : List Value} (hl : news.length = m * P.cellsOf τ) (hnews : ∀ j u, news[j]? = some u → w.cell? (ad.add j) = some u)
    (hgrow : cap < n + m) (hcap : n + m ≤ cap30) :
    ∃ (w' : World) (cap' : Nat) (cur : Array Value), (Builtin.append_ #[t, t] ty #[.slice b n cap, .slice (some ad) m c]).run P w = .ok (.slice (some ⟨w.heap.size, 0, none⟩) (n + m) cap') w' ∧ Below w.heap.size w w' ∧
      w'.heap[w.heap.size]? = some (.cells cur τ (0, 0)) ∧ n + m ≤ cap' ∧ cap' ≤ maxLen ∧ cur.size = cap' * P.cellsOf τ ∧ (∀ (j : Nat) (u : Value), (olds ++ news)[j]? = some u → cur[j]? = some u) := by
  have hsz : P.cellsOf τ = i.size := by simp [Program.cellsOf, hi]
  have hbb : i.bytes = P.bytesOf τ := by simp [Program.bytesOf, hi]
  have hcap' : n + m ≤ 1073741824 := hcap
  have hbytes : (n + m) * P.bytesOf τ ≤ 140737488355328 := Nat.le_trans (Nat.mul_le_mul hcap' hby) (by decide)
  have fin : ∀ (q : Nat), q = grownCap w (n + m) cap τ → (Builtin.append_ #[t, t] ty #[.slice b n cap, .slice (some ad) m c]).run P w =
      .ok (.slice (some ⟨w.heap.size, 0, none⟩) (n + m) q) (w.drew.alloc (.cells (olds.toArray ++ news.toArray ++ Builtin.zeroCells z.cells (q - (n + m))) τ)) →
      ∃ (w' : World) (cap' : Nat) (cur : Array Value), (Builtin.append_ #[t, t] ty #[.slice b n cap, .slice (some ad) m c]).run P w = .ok (.slice (some ⟨w.heap.size, 0, none⟩) (n + m) cap') w' ∧ Below w.heap.size w w' ∧
      w'.heap[w.heap.size]? = some (.cells cur τ (0, 0)) ∧ n + m ≤ cap' ∧ cap' ≤ maxLen ∧ cur.size = cap' * P.cellsOf τ ∧ (∀ (j : Nat) (u : Value), (olds ++ news)[j]? = some u → cur[j]? = some u) := by
    intro q hq hr
    have hge : n + m ≤ q := by rw [hq]; exact grownCap_ge w (n + m) cap τ
    have hle : q ≤ maxLen := by rw [hq]; exact grownCap_le_maxLen w _ _ _ (by unfold maxLen; omega)
    refine ⟨w.drew.alloc (.cells (olds.toArray ++ news.toArray ++ Builtin.zeroCells z.cells (q - (n + m))) τ), q, olds.toArray ++ news.toArray ++ Builtin.zeroCells z.cells (q - (n + m)), hr,
      ⟨rfl, rfl, rfl, by simp, fun b hb => Below.heap_alloc w.drew _ b hb⟩, heap_alloc_new w.drew _, hge, hle, ?_, fun j u hu => ?_⟩
    · simp only [Array.size_append, List.size_toArray, size_zeroCells, hzs, hlo, hl, ← Nat.add_mul]
      congr 1
      omega
    · have hlt := (List.getElem?_eq_some_iff.1 hu).1
      rw [show olds.toArray ++ news.toArray = (olds ++ news).toArray by simp, Array.getElem?_append_left (by simpa using hlt)]
      simpa using hu
  cases b with
  | none =>
    obtain ⟨rfl, rfl⟩ := hb0 rfl
    have ho0 : olds = [] := List.eq_nil_of_length_eq_zero (by simpa using hlo)
    subst ho0
    simp only [Nat.zero_add] at hgrow hcap' hbytes
    have hr := run_append_nil (P := P) w t ty τ i z ht hi hz ad m c news (by rw [← hsz]; exact hl) hnews (by omega) (by omega) (by rw [hbb]; omega)
    exact fin _ rfl (by simpa using hr)
  | some bb =>
    have hr := run_append_grow (P := P) w t ty τ i z ht hi hz bb n cap olds (by rw [← hsz]; exact hlo) (holds bb rfl) ad m c news (by rw [← hsz]; exact hl) hnews (by omega) (by omega) (growslice_fits (by omega) (by rw [hbb]; exact hbytes))
    exact fin _ rfl hr
end
end Go.Cx
