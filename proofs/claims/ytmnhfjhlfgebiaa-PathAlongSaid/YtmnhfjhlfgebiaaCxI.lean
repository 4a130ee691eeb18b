/- The evaluator: boxes, allocations and stores are sound. No condition. -/
import Derived.Test.YtmnhfjhlfgebiaaCxH
import Derived.Laws.AppendOwn
import Derived.Laws.MakeOwn
set_option linter.unusedVariables false
noncomputable section
namespace Go.Cx
open Go.RowKit
variable {T : Nat → Type} {P : Program} {E : Enc T}

theorem wrL_get : ∀ (vs : List (AV T)) (off : Nat) (c : Tr (AV T)) (d : AV T) (j : Nat), cellAt (wrL vs off c) d j = if off ≤ j ∧ j < off + vs.length then vs.getD (j - off) .any else cellAt c d j
  | [], off, c, d, j => by simp only [wrL, List.length_nil, Nat.add_zero]; rw [if_neg (by omega)]
  | v :: vs, off, c, d, j => by
    simp only [wrL, fv1_eq, Tr.force_eq]
    rw [wrL_get vs (off + 1) (c.set off v) d j]
    simp only [List.length_cons]
    by_cases h1 : off + 1 ≤ j ∧ j < off + 1 + vs.length
    · rw [if_pos h1, if_pos (by omega), show j - off = (j - (off + 1)) + 1 by omega, List.getD_cons_succ]
    · rw [if_neg h1]
      unfold cellAt
      rw [Tr.get_set]
      by_cases h2 : j = off
      · subst h2
        rw [if_pos rfl, if_pos (by omega)]
        simp
      · rw [if_neg h2, if_neg (by omega)]

theorem ofL_get (cs : List (AV T)) (d : AV T) (j : Nat) (h : j < cs.length) : cellAt (ofL cs) d j = cs.getD j .any := by
  unfold ofL
  rw [wrL_get, if_pos (by omega), Nat.sub_zero]

theorem grow_get {c : Tr (AV T)} {d : AV T} {off k j : Nat} {xs : List (AV T)} (h : j < (rdN c d k off ++ xs).length) : cellAt (growC c d off k xs) (growD d off) j = (rdN c d k off ++ xs).getD j .any := by
  unfold growC growD
  cases hz : Nat.beq off 0 with
  | false => exact ofL_get _ _ j h
  | true =>
    have hz : off = 0 := Nat.eq_of_beq_eq_true hz
    subst hz
    simp only [cond_true]
    rw [wrL_get]
    rw [List.length_append, rdN_length] at h
    by_cases hj : j < k
    · rw [if_neg (by omega)]
      simp only [List.getD]
      have hl : j < (rdN c d k 0).length := by rw [rdN_length]; exact hj
      rw [List.getElem?_append_left hl, List.getElem?_eq_getElem hl, Option.getD_some]
      have := (rdN_get c d k 0 j _ (List.getElem?_eq_getElem hl)).2
      rw [this, Nat.zero_add]
    · rw [if_pos ⟨by omega, by omega⟩]
      simp only [List.getD]
      rw [List.getElem?_append_right (by rw [rdN_length]; omega), rdN_length]

theorem sameC_eq {a b : AV T} (h : sameC a b = true) : b = a := by
  unfold sameC at h
  split at h <;> first | (cases h; done) | skip
  · rw [Bool.and_eq_true] at h
    have h1 := of_decide_eq_true h.1
    have h2 := of_decide_eq_true h.2
    rw [h1, h2]
  · rename_i a b
    have := eq_of_beq h
    rw [this]
  all_goals rfl

theorem objOf_spec (cs : List (AV T)) : ∃ c d, objOf cs = .cells cs.length c d ∧ ∀ j, j < cs.length → cellAt c d j = cs.getD j .any := by
  unfold objOf
  cases cs with
  | nil => exact ⟨_, _, rfl, fun j h => by simp at h⟩
  | cons z zs =>
    simp only
    cases hb : zs.all (sameC z) with
    | false => exact ⟨_, _, rfl, fun j h => ofL_get _ _ _ h⟩
    | true =>
      refine ⟨_, _, rfl, fun j h => ?_⟩
      rw [List.all_eq_true] at hb
      cases j with
      | zero => rfl
      | succ j =>
        have hj : j < zs.length := by simpa using h
        rw [List.getD_cons_succ]
        have e := sameC_eq (hb zs[j] (List.getElem_mem hj))
        simp only [cellAt, Tr.get_nil, List.getD, List.getElem?_eq_getElem hj, Option.getD_some]
        exact e.symm

theorem flatten_replicate_get {α : Type} {z : List α} : ∀ (n i j : Nat), i < n → j < z.length → ((List.replicate n z).flatten)[i * z.length + j]? = z[j]?
  | 0, _, _, h, _ => by omega
  | n + 1, 0, j, _, hj => by
    rw [List.replicate_succ, List.flatten_cons, Nat.zero_mul, Nat.zero_add, List.getElem?_append_left hj]
  | n + 1, i + 1, j, hi, hj => by
    rw [List.replicate_succ, List.flatten_cons, List.getElem?_append_right (by rw [Nat.add_mul]; omega)]
    rw [show (i + 1) * z.length + j - z.length = i * z.length + j by rw [Nat.add_mul]; omega]
    exact flatten_replicate_get n i j (by omega) hj

theorem flatten_replicate_get' {α : Type} {z : List α} (hz : 0 < z.length) (n j : Nat) (h : j < n * z.length) : ((List.replicate n z).flatten)[j]? = z[j % z.length]? := by
  have h1 : j / z.length < n := (Nat.div_lt_iff_lt_mul hz).2 h
  have h2 := Nat.mod_lt j hz
  have := flatten_replicate_get n (j / z.length) (j % z.length) h1 h2
  rwa [show j / z.length * z.length + j % z.length = j by rw [Nat.mul_comm]; exact Nat.div_add_mod j _] at this

theorem repC_spec (n : Nat) (z : List (AV T)) (hz : 0 < z.length) : ∃ c d, repC n z = .cells (n * z.length) c d ∧ ∀ j, j < n * z.length → cellAt c d j = z.getD (j % z.length) .any := by
  unfold repC
  cases z with
  | nil => simp at hz
  | cons z0 zs =>
    simp only
    cases hb : zs.all (sameC z0) with
    | false =>
      refine ⟨_, _, rfl, fun j h => ?_⟩
      rw [ofL_get _ _ _ (by simpa using h)]
      simp only [List.getD]
      rw [flatten_replicate_get' hz n j h]
    | true =>
      refine ⟨_, _, rfl, fun j h => ?_⟩
      rw [List.all_eq_true] at hb
      have hm := Nat.mod_lt j hz
      generalize j % (z0 :: zs).length = m at *
      cases m with
      | zero => rfl
      | succ m =>
        have hj : m < zs.length := by simpa using hm
        have e := sameC_eq (hb zs[m] (List.getElem_mem hj))
        simp only [cellAt, Tr.get_nil, List.getD, List.getElem?_cons_succ, List.getElem?_eq_getElem hj, Option.getD_some]
        exact e.symm

section
variable {w w' : World} {M : Nat → Prop} {β : Nat → Option Hd} {lim : Nat} {hp hp' : Hp T}

theorem getD_rv {cs : List (AV T)} {vs : List Value} (h : LR P E w M β cs vs) (j : Nat) (v : Value) (hv : vs[j]? = some v) : RV P E w M β (cs.getD j .any) v := by
  have hlt : j < cs.length := by rw [h.1]; exact (List.getElem?_eq_some_iff.1 hv).1
  have hc := List.getElem?_eq_getElem hlt
  simp only [List.getD, hc, Option.getD_some]
  exact h.2 j _ v hc hv

/-- A block that has just been laid. -/
theorem cells_new {cs : List (AV T)} {vs : Array Value} {el : TypeId} (hl : LR P E w M β cs vs.toList) {c : Tr (AV T)} {d : AV T} (hc : ∀ j, j < cs.length → cellAt c d j = cs.getD j .any) {b room : Nat}
    (hb : w.heap[b]? = some (.cells vs el (0, 0))) (hroom : room ≤ vs.size) (hn : cs.length ≤ room) : CellsAt P E w M β cs.length c d ⟨b, 0, room⟩ room := by
  refine ⟨vs, el, hb, by simpa using hroom, hn, fun j hj => ?_⟩
  rw [hc j hj]
  have hsz : cs.length = vs.size := by have := hl.1; simpa using this
  simp only [Nat.zero_add]
  exact getD_rv hl j _ (by simp [Array.getD, show j < vs.size by omega])

theorem alloc_step (hN : Now P E lim M β hp w) {o : AO T} {ob : Obj} (hl : hp.next + 1 ≤ lim) (hso : (∃ n c d, o = .cells n c d) ∨ ∃ r, o = .loop r) {lm : Nat}
    (hobj : ∀ M' β', Stab w M β (w.alloc ob) M' β' → ObjRel P E (w.alloc ob) M' β' o ⟨w.heap.size, 0, lm⟩) :
    Step P E lim M β hp w (fun b => M b ∨ b = w.heap.size) (upd β hp.next ⟨w.heap.size, 0, lm⟩) (hp.new o) (w.alloc ob) :=
  hN.new (h := ⟨w.heap.size, 0, lm⟩) hl hso ⟨rfl, rfl, rfl, by simp, fun b hb => Below.heap_alloc w ob b hb⟩ (Nat.le_refl _) hobj

/-- What an operation that changes objects does. -/
def Does (P : Program) (E : Enc T) (lim : Nat) (M : Nat → Prop) (β : Nat → Option Hd) (hp : Hp T) (w : World) (s : Sem Value) (K : AV T × Hp T → Prop) : Prop :=
  ∃ u w' M' β' r, s.run P w = .ok u w' ∧ Step P E lim M β hp w M' β' r.2 w' ∧ RV P E w' M' β' r.1 u ∧ K r

theorem box_runs (hN : Now P E lim M β hp w) {el : TypeId} {x : AV T} {vx : Value} (hx : RV P E w M β x vx) {K : AV T × Hp T → Prop} (h : (iopBox hp x).holds fun r => r.2.next ≤ lim ∧ K r) :
    Does P E lim M β hp w (Instr.box el vx) K := by
  unfold iopBox at h
  cases hc : cellsA x with
  | none => simp only [hc] at h; exact h.elim
  | some cs =>
    simp only [hc] at h
    have hl := cellsA_lr hx hc
    have hS := alloc_step hN (o := .cells cs.length (ofL cs) .any) (ob := .cells vx.cells el) (lm := cs.length) h.1 (.inl ⟨_, _, _, rfl⟩) (fun M' β' hs => cells_new (hl.stab hs) (fun j hj => ofL_get _ _ _ hj) (heap_alloc_new w _) (by rw [hl.1]; simp) (Nat.le_refl _))
    exact ⟨.pointer (some ⟨w.heap.size, 0, none⟩), _, _, _, _, by simp [Instr.box, newVar, newRow], hS, .ptr (off := 0) (upd_self (h := ⟨w.heap.size, 0, cs.length⟩)), h.2⟩

theorem alloc_runs (hN : Now P E lim M β hp w) {t : TypeId} {K : AV T × Hp T → Prop} (h : (iopAlloc P hp t).holds fun r => r.2.next ≤ lim ∧ K r) :
    Does P E lim M β hp w (Instr.alloc t true (.tuple #[])) K := by
  unfold iopAlloc at h
  cases hc : zeroA (T := T) P t with
  | none => simp only [hc] at h; exact h.elim
  | some cs =>
    simp only [hc] at h
    obtain ⟨z, hz, hl, _⟩ := zero_runs (w := w) (M := M) (β := β) (E := E) hc
    obtain ⟨c, d, ho, hcd⟩ := objOf_spec cs
    rw [ho] at h
    have hS := alloc_step hN (o := .cells cs.length c d) (ob := .cells z.cells t) (lm := cs.length) h.1 (.inl ⟨_, _, _, rfl⟩) (fun M' β' hs => cells_new (hl.stab hs) hcd (heap_alloc_new w _) (by rw [hl.1]; simp) (Nat.le_refl _))
    exact ⟨.pointer (some ⟨w.heap.size, 0, none⟩), _, _, _, _, by simp [Instr.alloc, hz, newVar, newRow], hS, .ptr (off := 0) (upd_self (h := ⟨w.heap.size, 0, cs.length⟩)), h.2⟩

theorem isCell_one {c : AV T} {v : Value} (hc : isCell c = true) (h : RV P E w M β c v) : v.oneCell' = true := by
  cases h <;> first | rfl | (exact absurd (show false = true from hc) Bool.false_ne_true)

theorem LR.oneCells {cs : List (AV T)} {vs : List Value} (h : LR P E w M β cs vs) (hc : cs.all isCell = true) : ∀ v ∈ vs, v.oneCell' = true := by
  intro v hv
  obtain ⟨j, hj⟩ := List.mem_iff_getElem?.1 hv
  have hlt : j < cs.length := by rw [h.1]; exact (List.getElem?_eq_some_iff.1 hj).1
  have hcj : cs[j]? = some cs[j] := List.getElem?_eq_getElem hlt
  exact isCell_one (List.all_eq_true.1 hc _ (List.mem_of_getElem? hcj)) (h.2 j _ _ hcj hj)

theorem splice_getD {cur : Array Value} {us : List Value} {o j : Nat} (hfit : o + us.length ≤ cur.size) :
    (cur.toList.take o ++ us ++ cur.toList.drop (o + us.length)).toArray.getD j undef = if o ≤ j ∧ j < o + us.length then us.getD (j - o) undef else cur.getD j undef := by
  simp only [Array.getD_eq_getD_getElem?, List.getElem?_toArray, List.getD]
  simp only [List.getElem?_append, List.length_append, List.length_take, Array.length_toList, List.getElem?_take, List.getElem?_drop, Array.getElem?_toList]
  rw [Nat.min_eq_left (by omega)]
  by_cases h1 : j < o
  · rw [if_pos (by omega), if_pos h1, if_pos h1, if_neg (by omega)]
  · by_cases h2 : j < o + us.length
    · rw [if_pos h2, if_neg h1, if_pos (by omega)]
    · rw [if_neg h2, if_neg (by omega)]
      congr 2
      omega
theorem splice_size {cur : Array Value} {us : List Value} {o : Nat} (hfit : o + us.length ≤ cur.size) : (cur.toList.take o ++ us ++ cur.toList.drop (o + us.length)).toArray.size = cur.size := by
  simp only [List.size_toArray, List.length_append, List.length_take, List.length_drop, Array.length_toList]
  omega

/-- What writing cells of an object does. -/
theorem wrObj_runs (hN : Now P E lim M β hp w) {id off : Nat} {vs : List (AV T)} {us : List Value} {h : Hd} (hβ : β id = some h) (hl : LR P E w M β vs us) {K : Hp T → Prop} (hw : (wrObj hp id off vs).holds K) :
    ∃ (cur : Array Value) (el : TypeId) (hp' : Hp T), w.heap[h.block]? = some (.cells cur el (0, 0)) ∧ h.base + off + us.length ≤ cur.size ∧ (∀ v ∈ us, v.oneCell' = true) ∧ hp'.next = hp.next ∧ Live hp.get id ∧
      Step P E lim M β hp w M β hp' (w.setRow h.block (cur.toList.take (h.base + off) ++ us ++ cur.toList.drop (h.base + off + us.length)).toArray) ∧ K hp' := by
  unfold wrObj at hw
  obtain ⟨hcell, hw⟩ := holds_bif hw
  have hone := hl.oneCells hcell
  have hlen := hl.1
  have newcells : ∀ {n room : Nat} {c : Tr (AV T)} {d : AV T} {M' : Nat → Prop} {β' : Nat → Option Hd} {cur : Array Value} {el : TypeId}, w.heap[h.block]? = some (.cells cur el (0, 0)) → h.base + room ≤ cur.size → n ≤ room → off + vs.length ≤ n →
      (∀ j, j < n → RV P E w M β (cellAt c d j) (cur.getD (h.base + j) undef)) → Stab w M β (w.setRow h.block (cur.toList.take (h.base + off) ++ us ++ cur.toList.drop (h.base + off + us.length)).toArray) M' β' →
      CellsAt P E (w.setRow h.block (cur.toList.take (h.base + off) ++ us ++ cur.toList.drop (h.base + off + us.length)).toArray) M' β' n (wrL vs off c) d h room := by
    intro n room c d M' β' cur el g1 g2 g3 g4 g5 hs
    refine ⟨_, el, setRow_heap w h.block cur _ el (0, 0) g1, by rw [splice_size (by omega)]; exact g2, g3, fun j hj => ?_⟩
    rw [splice_getD (by omega), wrL_get]
    by_cases hin : off ≤ j ∧ j < off + vs.length
    · rw [if_pos hin, if_pos (by omega)]
      have hj : j - off < us.length := by omega
      have e : h.base + j - (h.base + off) = j - off := by omega
      rw [e]
      exact (getD_rv hl (j - off) _ (by rw [List.getElem?_eq_getElem hj]; simp [List.getD, List.getElem?_eq_getElem hj])).stab hs
    · rw [if_neg hin, if_neg (by omega)]
      exact (g5 j hj).stab hs
  split at hw
  · rename_i n c d hid
    obtain ⟨hle, hw⟩ := holds_bif hw
    have hle := bble hle
    have hL : Live hp.get id := by unfold Live; rw [hid]; trivial
    obtain ⟨h', hβ', cur, el, g1, g2, g3, g4⟩ := hN.heap.obj id _ hL hid
    obtain rfl : h = h' := Option.some.inj (hβ.symm.trans hβ')
    refine ⟨cur, el, hp.put id (.cells n (wrL vs off c) d), g1, by omega, hone, rfl, hL, ?_, hw⟩
    exact hN.write hL hid hβ rfl (by rw [Hp.get_put, if_pos rfl]) (.inl ⟨_, _, _, _, _, _, rfl, rfl, fun x hx => by rw [Hp.get_put, if_neg hx]⟩) rfl rfl rfl (by simp [World.setRow]) (fun b hne => setRow_other w h.block b _ hne)
      (fun hs => newcells g1 g2 g3 hle g4 hs)
  · rename_i n c d f hid
    split at hw
    · rename_i hh sh hf
      obtain ⟨hb, hw⟩ := holds_bif hw
      rw [Bool.and_eq_true] at hb
      obtain rfl := bbeq hb.1
      have hle := bble hb.2
      have hL : Live hp.get id := by unfold Live; rw [hid]; exact ⟨_, _, hf, .inl rfl⟩
      obtain ⟨h', hβ', cur, el, g1, g2, g3, g4⟩ := hN.heap.obj id _ hL hid
      obtain rfl : h = h' := Option.some.inj (hβ.symm.trans hβ')
      have hfid : id ≠ f := fun e => by rw [← e, hid] at hf; cases hf
      refine ⟨cur, el, (hp.put id (.grow n (wrL vs off c) d f)).put f (.fam id []), g1, by omega, hone, rfl, hL, ?_, hw⟩
      exact hN.write hL hid hβ rfl (by rw [Hp.get_put, if_neg hfid, Hp.get_put, if_pos rfl]) (.inr (.inr ⟨_, _, _, _, _, _, f, sh, rfl, rfl, hf, by rw [Hp.get_put, if_pos rfl], fun x hx hx' => by rw [Hp.get_put, if_neg hx', Hp.get_put, if_neg hx]⟩))
        rfl rfl rfl (by simp [World.setRow]) (fun b hne => setRow_other w h.block b _ hne) (fun hs => newcells g1 g2 g3 hle g4 hs)
    · exact hw.elim
  · exact hw.elim

theorem run_storeVar {t : TypeId} {v : Value} {g off : Nat} {el : TypeId} {cur : Array Value} {i : TypeInfo} (hi : P.info? t = some i) (hsz : v.cells.size = P.cellsOf t) (hg : w.heap[g]? = some (.cells cur el (0, 0)))
    (hfit : off + v.cells.toList.length ≤ cur.size) (h1 : ∀ u ∈ v.cells.toList, u.oneCell' = true) :
    (Instr.storeAt t (.pointer (some ⟨g, off, none⟩)) v).run P w = .ok () (w.setRow g (cur.toList.take off ++ v.cells.toList ++ cur.toList.drop (off + v.cells.toList.length)).toArray) := by
  have hst := run_storeCells_at P g off el v.cells.toList 0 cur w hg (by simpa using hfit) h1
  simp only [Nat.add_zero] at hst
  simp only [Instr.storeAt, Instr.sureAddr, storeVar, Sem.run_bind, Sem.run_pure, Result.andThen_ok, run_sizeOf' hi, hsz, ne_eq, not_true_eq_false, if_false]
  exact hst

theorem store_runs (hN : Now P E lim M β hp w) {t : TypeId} {x y : AV T} {vx vy : Value} (hx : RV P E w M β x vx) (hy : RV P E w M β y vy) {K : AV T × Hp T → Prop} (h : (iopStore P hp t x y).holds K) :
    ∃ w' hp', (Instr.storeAt t vx vy).run P w = .ok () w' ∧ Step P E lim M β hp w M β hp' w' ∧ hp'.next = hp.next ∧ K (.any, hp') := by
  unfold iopStore at h
  split at h
  · rename_i id off vc hvc
    obtain ⟨hb, h⟩ := holds_bif h
    rw [Bool.and_eq_true] at hb
    have h1 := bbeq hb.1
    have h2 := bble hb.2
    have h := Tree.holds_bind.1 h
    have hl := cellsA_lr hy hvc
    obtain ⟨i, hi⟩ := info_of_cells (P := P) (t := t) (by omega)
    cases hx with
    | ptr hβ =>
      obtain ⟨cur, el, hp', g1, g2, g3, g4, g5, g6, g7⟩ := wrObj_runs hN hβ hl h
      have hsz : vy.cells.size = P.cellsOf t := by have := hl.1; simp at this; omega
      exact ⟨_, hp', run_storeVar hi hsz g1 g2 g3, g6, g4, g7⟩
  · exact h.elim
end
end Go.Cx
