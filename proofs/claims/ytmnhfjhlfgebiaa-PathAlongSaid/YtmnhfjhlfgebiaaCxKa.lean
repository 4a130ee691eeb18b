/- Lists of objects: made, appended to, written. -/
import Derived.Test.YtmnhfjhlfgebiaaCxK
import Derived.Test.YtmnhfjhlfgebiaaCxHa
set_option linter.unusedVariables false
noncomputable section
namespace Go.Cx
open Go.RowKit
variable {T : Nat → Type} {P : Program} {E : Enc T}
section
variable {w w' : World} {M : Nat → Prop} {β : Nat → Option Hd} {lim : Nat} {hp hp' : Hp T} {cl : Bool}

/-- Elements whose cells are told by a function. -/
def ListIn (P : Program) (E : Enc T) (w : World) (M : Nat → Prop) (τ : Nat) (l : List (T τ)) (g : Nat → Value) : Prop :=
  ∀ (i : Nat) (x : T τ) (j : Nat) (c : AV T), l[i]? = some x → (E.enc τ x)[j]? = some c → RV P E w M (fun _ => none) c (g (i * P.cellsOf τ + j))
theorem ListIn.nil {τ : Nat} {g : Nat → Value} : ListIn P E w M τ [] g := fun i x j c h => by simp at h
theorem ListIn.stab {τ : Nat} {l : List (T τ)} {g : Nat → Value} (h : ListIn P E w M τ l g) {M' : Nat → Prop} {β' : Nat → Option Hd} (hs : Stab w M β w' M' β') : ListIn P E w' M' τ l g := fun i x j c hx hc => (h i x j c hx hc).stab hs.nil
theorem ListIn.congr {τ : Nat} {l : List (T τ)} {g g' : Nat → Value} (hE : E.Good P) (hok : E.ok τ = true) (h : ListIn P E w M τ l g) (e : ∀ p, p < l.length * P.cellsOf τ → g' p = g p) : ListIn P E w M τ l g' := fun i x j c hx hc => by
  have h1 := (List.getElem?_eq_some_iff.1 hx).1
  have h2 := (List.getElem?_eq_some_iff.1 hc).1
  rw [hE.len τ hok] at h2
  rw [e _ (by
    have := Nat.mul_le_mul_right (P.cellsOf τ) (show i + 1 ≤ l.length by omega)
    rw [Nat.add_mul, Nat.one_mul] at this
    omega)]
  exact h i x j c hx hc
theorem ListIn.append {τ : Nat} {l k : List (T τ)} {g g2 : Nat → Value} (hE : E.Good P) (hok : E.ok τ = true) (h : ListIn P E w M τ l g) (h2 : ListIn P E w M τ k g2) : ListIn P E w M τ (l ++ k) fun p => if p < l.length * P.cellsOf τ then g p else g2 (p - l.length * P.cellsOf τ) := by
  intro i x j c hx hc
  have hj := (List.getElem?_eq_some_iff.1 hc).1
  rw [hE.len τ hok] at hj
  by_cases hi : i < l.length
  · rw [List.getElem?_append_left hi] at hx
    have : i * P.cellsOf τ + j < l.length * P.cellsOf τ := by
      have := Nat.mul_le_mul_right (P.cellsOf τ) (show i + 1 ≤ l.length by omega)
      rw [Nat.add_mul, Nat.one_mul] at this
      omega
    simp only [if_pos this]
    exact h i x j c hx hc
  · rw [List.getElem?_append_right (by omega)] at hx
    have hle : l.length * P.cellsOf τ ≤ i * P.cellsOf τ := Nat.mul_le_mul_right _ (by omega)
    simp only [if_neg (show ¬ i * P.cellsOf τ + j < l.length * P.cellsOf τ by omega)]
    have e : i * P.cellsOf τ + j - l.length * P.cellsOf τ = (i - l.length) * P.cellsOf τ + j := by
      rw [Nat.sub_mul]
      omega
    rw [e]
    exact h2 _ x j c hx hc
theorem ListAt.inn {τ : Nat} {l : List (T τ)} {h : Hd} (hl : ListAt P E w M τ l h) : ∃ (vs : Array Value) (el : TypeId), w.heap[h.block]? = some (.cells vs el (0, 0)) ∧ h.base + h.lim ≤ vs.size ∧ l.length * P.cellsOf τ ≤ h.lim ∧ E.ok τ = true ∧ ListIn P E w M τ l fun p => vs.getD (h.base + p) undef := hl
theorem cellTo_rv {c c' : AV T} {u : Value} (hv : RV P E w M β c u) (h : CellTo asLd c c') : RV P E w M (fun _ => none) c' u := by
  rcases h with ⟨rfl, hf⟩ | ⟨σ, l, rfl, hl⟩
  · have := hv.opn
    revert this hf
    generalize Cx.opn c = c'
    intro hf hv
    cases hv with
    | sym => exact .sym
    | int => exact .int
    | any => exact .any
    | lit => exact .lit
    | bool => exact .bool
    | str => exact .str
    | nilp => exact .nilp
    | nilf => exact .nilf
    | nils => exact .nils
    | emp => exact .emp
    | es => exact .es
    | nili => exact .nili
    | sl0 h' => exact .sl0 h'
    | sl f h1 h2 h3 h4 h5 h6 h7 h8 => exact .sl f h1 h2 h3 h4 h5 h6 h7 h8
    | _ => cases hf
  · have := asL_ro hv hl
    cases this with
    | sl0 h' => exact .sl0 h'
    | sl f h1 h2 h3 h4 h5 h6 h7 h8 => exact .sl f h1 h2 h3 h4 h5 h6 h7 h8
theorem mapO_get {α β : Type} {f : α → Option β} : ∀ {l : List α} {r : List β}, mapO f l = some r → r.length = l.length ∧ ∀ (j : Nat) (y : β), r[j]? = some y → ∃ x, l[j]? = some x ∧ f x = some y
  | [], r, h => by cases h; exact ⟨rfl, fun j y h => by simp at h⟩
  | x :: l, r, h => by
    simp only [mapO] at h
    split at h
    · rename_i y r' h1 h2
      cases h
      obtain ⟨k1, k2⟩ := mapO_get h2
      refine ⟨by simp [k1], fun j z hz => ?_⟩
      cases j with
      | zero => exact ⟨x, rfl, by simp at hz; rw [← hz]; exact h1⟩
      | succ j => exact k2 j z (by simpa using hz)
    · cases h
theorem iotaFrom_get : ∀ {n i j x : Nat}, (iotaFrom n i)[j]? = some x → x = i + j
  | 0, i, j, x, h => by simp [iotaFrom] at h
  | n + 1, i, 0, x, h => by simp [iotaFrom] at h; omega
  | n + 1, i, j + 1, x, h => by have := iotaFrom_get (n := n) (i := i + 1) (j := j) (x := x) (by simpa [iotaFrom] using h); omega
theorem iotaFrom_length : ∀ {n i : Nat}, (iotaFrom n i).length = n
  | 0, _ => rfl
  | n + 1, i => by simp [iotaFrom, iotaFrom_length]
theorem AllTo.get {fz : (σ : Nat) → AV T → Option (List (T σ))} : ∀ {cs ds : List (AV T)}, AllTo fz cs ds → cs.length = ds.length ∧ ∀ (j : Nat) (c c' : AV T), cs[j]? = some c → ds[j]? = some c' → CellTo fz c c'
  | [], [], _ => ⟨rfl, fun j c c' h => by simp at h⟩
  | c :: cs, d :: ds, h => ⟨by simp [(AllTo.get h.2).1], fun j x y hx hy => by
    cases j with
    | zero => simp at hx hy; subst hx; subst hy; exact h.1
    | succ j => exact (AllTo.get h.2).2 j x y (by simpa using hx) (by simpa using hy)⟩
  | [], _ :: _, h => h.elim
  | _ :: _, [], h => h.elim

/-- What a slice reads as. -/
def Src (P : Program) (E : Enc T) (w : World) (M : Nat → Prop) (τ : Nat) (l : List (T τ)) (vx : Value) : Prop :=
  (l = [] ∧ ∃ a c, vx = .slice a 0 c) ∨ ∃ ad c g, vx = .slice (some ad) l.length c ∧ 0 < l.length ∧ (∀ p, p < l.length * P.cellsOf τ → w.cell? (ad.add p) = some (g p)) ∧ ListIn P E w M τ l g
theorem Src.sl {τ : Nat} {l : List (T τ)} {full : Bool} {vx : Value} (hE : E.Good P) (hx : RV P E w M β (.sl τ l full) vx) : Src P E w M τ l vx := by
  cases hx with
  | sl0 => exact .inl ⟨rfl, _, _, rfl⟩
  | sl f h1 h2 h3 h4 h5 h6 h7 h8 =>
    rename_i a cap
    rcases Nat.eq_zero_or_pos l.length with h0 | h0
    · have : l = [] := List.eq_nil_of_length_eq_zero h0
      subst this
      exact .inl ⟨rfl, _, _, rfl⟩
    · have hpos := hE.pos _ h5
      refine .inr ⟨a, cap, fun p => f (p / P.cellsOf τ) (p % P.cellsOf τ), rfl, h0, fun p hp => ?_, fun i x j c hx hc => ?_⟩
      · obtain ⟨b, o, sp⟩ := a
        obtain rfl : sp = none := h1
        have hi : p / P.cellsOf τ < l.length := Nat.div_lt_of_lt_mul (by rw [Nat.mul_comm]; exact hp)
        have hj : p % P.cellsOf τ < P.cellsOf τ := Nat.mod_lt _ hpos
        have hx : l[p / P.cellsOf τ]? = some l[p / P.cellsOf τ] := List.getElem?_eq_getElem hi
        have hc : (E.enc τ l[p / P.cellsOf τ])[p % P.cellsOf τ]? = some ((E.enc τ l[p / P.cellsOf τ])[p % P.cellsOf τ]'(by rw [hE.len τ h5]; exact hj)) := List.getElem?_eq_getElem _
        have := h7 _ _ _ _ hx hc
        rw [add_plain']
        rw [show p = p / P.cellsOf τ * P.cellsOf τ + p % P.cellsOf τ by rw [Nat.mul_comm]; exact (Nat.div_add_mod p _).symm]
        simp only at this
        rw [this]
        congr 2
        · rw [Nat.mul_comm, Nat.mul_add_div hpos, Nat.div_eq_of_lt hj, Nat.add_zero]
        · rw [Nat.mul_comm, Nat.mul_add_mod, Nat.mod_eq_of_lt hj]
      · have hj := (List.getElem?_eq_some_iff.1 hc).1
        rw [hE.len τ h5] at hj
        have e1 : (i * P.cellsOf τ + j) / P.cellsOf τ = i := by rw [Nat.mul_comm, Nat.mul_add_div hpos, Nat.div_eq_of_lt hj, Nat.add_zero]
        have e2 : (i * P.cellsOf τ + j) % P.cellsOf τ = j := by rw [Nat.mul_comm, Nat.mul_add_mod, Nat.mod_eq_of_lt hj]
        simp only [e1, e2]
        exact h8 i x j c hx hc

theorem srcL_runs (hE : E.Good P) (hN : Now P E lim M β hp w) {τ : Nat} {x : AV T} {vx : Value} (hx : RV P E w M β x vx) {k : List (T τ) → Tree (AV T × Hp T)} {K : AV T × Hp T → Prop} (h : (srcL P E hp τ x k).holds K) :
    ∃ l, (k l).holds K ∧ Src P E w M τ l vx := by
  unfold srcL at h
  split at h
  · cases hx
    exact ⟨[], h, .inl ⟨rfl, _, _, rfl⟩⟩
  · rename_i id τ' len
    split at h
    · rename_i τ2 l hget
      split at h
      · rename_i e
        subst e
        cases hb : Nat.beq τ' τ2 with
        | false => rw [hb] at h; exact h.elim
        | true =>
          rw [hb] at h
          have e := bbeq hb
          subst e
          obtain ⟨hlen, h⟩ := h
          refine ⟨l, h, ?_⟩
          cases hx with
          | ls0 => exact .inl ⟨List.eq_nil_of_length_eq_zero hlen.symm, _, _, rfl⟩
          | ls q1 q2 q3 q4 q5 =>
            subst hlen
            have hlive : Live hp.get id := by
              unfold Live
              rw [hget]
              rintro rfl
              simp at q2
            obtain ⟨hd, g1, g2⟩ := hN.heap.obj id _ hlive hget
            rw [q1] at g1
            cases g1
            obtain ⟨vs, el, g3, g4, g5, g6, g7⟩ := ListAt.inn g2
            exact .inr ⟨_, _, _, rfl, q2, fun p hp => by rw [add_plain']; exact cell_of g3 (by omega), g7⟩
      · exact h.elim
    · exact h.elim
  · rename_i id sz off len cap
    cases hz : Nat.beq len 0 with
    | true =>
      rw [hz] at h
      have := Nat.eq_of_beq_eq_true hz
      subst this
      cases hx
      exact ⟨[], h, .inl ⟨rfl, _, _, rfl⟩⟩
    | false =>
      rw [hz] at h
      simp only [cond_false] at h
      split at h
      · rename_i n c d hlook
        cases hb : E.ok τ && Nat.beq sz (P.cellsOf τ) && Nat.ble (off + len * sz) n with
        | false => rw [hb] at h; exact h.elim
        | true =>
          rw [hb] at h
          simp only [cond_true] at h
          obtain ⟨hok, hsz, hle⟩ := and3 hb
          have hsz := bbeq hsz
          have hle := bble hle
          split at h
          · rename_i l hl
            refine ⟨l, h, ?_⟩
            obtain ⟨hd, vs, el, hlive, hβ, hblk, hfit, hcell⟩ := look_at hN.heap hlook
            cases hx with
            | sc h1 h2 h3 h4 =>
              rw [hβ] at h1
              cases h1
              obtain ⟨k1, k2⟩ := mapO_get hl
              rw [iotaFrom_length] at k1
              have hne := Nat.ne_of_beq_eq_false hz
              rw [← k1] at hle ⊢
              refine .inr ⟨_, _, fun p => vs.getD (hd.base + off + p) undef, rfl, by omega, fun p hp => ?_, fun i x j c' hx hc' => ?_⟩
              · rw [add_plain']; rw [hsz] at hle; exact cell_of hblk (by omega)
              · obtain ⟨i', e1, e2⟩ := k2 i x hx
                have e1 := iotaFrom_get e1
                have hi : i < l.length := (List.getElem?_eq_some_iff.1 hx).1
                have hi' : i' = i := by omega
                subst hi'
                obtain ⟨q1, q2⟩ := (hE.dec τ _ _ x hok e2).get
                have hj : j < P.cellsOf τ := by
                  rw [← hE.len τ hok x]
                  exact (List.getElem?_eq_some_iff.1 hc').1
                have hmul : i' * P.cellsOf τ + P.cellsOf τ ≤ l.length * P.cellsOf τ := by
                  have := Nat.mul_le_mul_right (P.cellsOf τ) (show i' + 1 ≤ l.length by omega)
                  rw [Nat.add_mul, Nat.one_mul] at this
                  exact this
                have hlt : j < (rdN c d sz (off + i' * sz)).length := by rw [rdN_length]; omega
                have hget : (rdN c d sz (off + i' * sz))[j]? = some (cellAt c d (off + i' * sz + j)) := by
                  rw [List.getElem?_eq_getElem hlt]
                  rw [(rdN_get c d sz (off + i' * sz) j _ (List.getElem?_eq_getElem hlt)).2]
                have hrv := hcell (off + i' * sz + j) (by rw [hsz] at hle ⊢; omega)
                have e3 : hd.base + (off + i' * sz + j) = hd.base + off + (i' * P.cellsOf τ + j) := by rw [hsz]; omega
                rw [e3] at hrv
                exact cellTo_rv hrv (q2 j _ c' hget hc')
          · exact h.elim
      · exact h.elim
  · split at h
    · rename_i l hl
      exact ⟨l, h, Src.sl hE (asL_ro hx hl)⟩
    · exact h.elim

/-- A new list object, in the place of an old one or of none. -/
theorem Now.newLst (hN : Now P E lim M β hp w) {idO : Option Nat} (hid : ∀ id, idO = some id → ∃ τ l, hp.get id = some (.lst τ l)) {τ : Nat} {L : List (T τ)} {h : Hd} (hnext : hp'.next = hp.next + 1) (hl : hp'.next ≤ lim)
    (hget : ∀ x, hp'.get x = if x = hp.next then some (.lst τ L) else if idO = some x then some .dead else hp.get x)
    (hos : w'.os = w.os) (htape : w'.tape = w.tape) (hout : w'.output = w.output) (hsz : w.heap.size ≤ w'.heap.size)
    (hblk : ∀ b, b < w.heap.size → (∀ id hd, idO = some id → Live hp.get id → β id = some hd → hd.block ≠ b) → w'.heap[b]? = w.heap[b]?)
    (hnb : L ≠ [] → w.heap.size ≤ h.block ∨ ∃ id hd, idO = some id ∧ Live hp.get id ∧ β id = some hd ∧ hd.block = h.block)
    (hobj : L ≠ [] → ∀ M' β', Stab w M β w' M' β' → ListAt P E w' M' τ L h) :
    ∃ M', Step P E lim M β hp w M' (upd β hp.next h) hp' w' := by
  have hfr := hN.free hp.next (Nat.le_refl _) (by omega)
  have hne : ∀ id, idO = some id → id ≠ hp.next := fun id e e' => by
    obtain ⟨τ', l', h1⟩ := hid id e
    rw [e', hfr.2] at h1
    cases h1
  have hLn : ∀ x, (x = hp.next ∨ idO = some x) → Live hp'.get x → x = hp.next ∧ L ≠ [] := by
    intro x hx hL
    unfold Live at hL
    rw [hget] at hL
    by_cases e : x = hp.next
    · rw [if_pos e] at hL
      exact ⟨e, hL⟩
    · rw [if_neg e, if_pos (hx.resolve_left e)] at hL
      exact hL.elim
  refine hN.chg (D := fun x => x = hp.next ∨ idO = some x) (by omega) hl (fun x hx => ?_) (fun x hx => ?_) (fun x hx => ?_) (fun x h' e => ?_) (fun x hx => ?_) (fun x h' e => ?_) (fun x hx h1 h2 => ?_) (fun x o hx hL ho => ?_) (fun x y _ _ d1 d2 h1 h2 h3 _ _ => ?_) hos htape hout hsz (fun b hb hy => hblk b hb fun id hd e1 e2 e3 => hy id hd (.inr e1) e2 e3)
  · rw [hget, if_neg (fun e => hx (.inl e)), if_neg (fun e => hx (.inr e))]
  · rcases hx with rfl | hx
    · rw [hfr.2]; trivial
    · obtain ⟨τ', l', h1⟩ := hid x hx
      rw [h1]; trivial
  · rw [hget]
    rcases hx with rfl | hx
    · rw [if_pos rfl]; trivial
    · rw [if_neg (hne x hx), if_pos hx]; trivial
  · rw [upd_ne (fun e' => by rw [e', hfr.1] at e; cases e)]; exact e
  · exact upd_ne fun e => hx (.inl e)
  · by_cases hc : x = hp.next
    · exact .inr (by omega)
    · rw [upd_ne hc] at e; exact .inl e
  · rcases hx with rfl | hx
    · omega
    · obtain ⟨τ', l', h3⟩ := hid x hx
      have := (hN.free x (by omega) h2).2
      rw [h3] at this
      cases this
  · obtain ⟨rfl, hL0⟩ := hLn x hx hL
    rw [hget, if_pos rfl] at ho
    cases ho
    refine ⟨h, upd_self, fun M' hs => hobj hL0 M' _ hs, ?_⟩
    rcases hnb hL0 with h1 | ⟨id, hd, h1, h2, h3, h4⟩
    · exact .inl h1
    · exact .inr ⟨id, hd, .inr h1, h2, h3, h4⟩
  · exact absurd ((hLn x d1 h1).1.trans (hLn y d2 h2).1.symm) h3

/-- What the slice that is appended to is. -/
def Dst (P : Program) (β : Nat → Option Hd) (hp : Hp T) (τ : Nat) (idO : Option Nat) (l : List (T τ)) (vs : Value) : Prop :=
  (l = [] ∧ ∃ a, vs = .slice a 0 0) ∨ ∃ id h c, idO = some id ∧ hp.get id = some (.lst τ l) ∧ l ≠ [] ∧ β id = some h ∧ vs = .slice (some ⟨h.block, h.base, none⟩) l.length c ∧ l.length ≤ c ∧ c * P.cellsOf τ = h.lim ∧ c ≤ maxLen

theorem getD_map {g : Nat → Value} {n j : Nat} (h : j < n) : ((List.range n).map g)[j]? = some (g j) := by
  rw [List.getElem?_map, List.getElem?_range h]
  rfl

theorem newL_runs (hE : E.Good P) (hN : Now P E lim M β hp w) {t ty τ : TypeId} (ht : P.underlying t = some (.slice τ)) {i : TypeInfo} (hi : P.info? τ = some i) {z : Value} (hz : i.zero = some z) (hzs : z.cells.size = P.cellsOf τ) (hby : P.bytesOf τ ≤ 65536) (hok : E.ok τ = true)
    {idO : Option Nat} (hid : ∀ id, idO = some id → ∃ l : List (T τ), hp.get id = some (.lst τ l)) {l xs : List (T τ)} {vs vx : Value} (hd : Dst P β hp τ idO l vs) (hx : Src P E w M τ xs vx) {hpd : Hp T} (hpn : hpd.next = hp.next) (hpg : ∀ x, hpd.get x = if idO = some x then some .dead else hp.get x)
    {K : AV T × Hp T → Prop} (h : (newL hpd τ l xs).holds fun r => r.2.next ≤ lim ∧ K r) : Does P E lim M β hp w (Builtin.append_ #[t, t] ty #[vs, vx]) K := by
  obtain ⟨hcap, hlim, hK⟩ := h
  have hpos := hE.pos τ hok
  have hget : ∀ x, (hpd.new (.lst τ (l ++ xs))).get x = if x = hp.next then some (.lst τ (l ++ xs)) else if idO = some x then some .dead else hp.get x := fun x => by
    rw [Hp.get_new, hpn, hpg]
  have hnx : (hpd.new (.lst τ (l ++ xs))).next = hp.next + 1 := by show hpd.next + 1 = _; rw [hpn]
  have hid' : ∀ id, idO = some id → ∃ τ' l', hp.get id = some (.lst τ' l') := fun id e => let ⟨l', h⟩ := hid id e; ⟨τ, l', h⟩
  have hle : l.length * P.cellsOf τ + xs.length * P.cellsOf τ = (l ++ xs).length * P.cellsOf τ := by rw [List.length_append, Nat.add_mul]
  -- nothing changes in the world
  have still : ∀ (h : Hd), (l ++ xs ≠ [] → ∃ id hd, idO = some id ∧ Live hp.get id ∧ β id = some hd ∧ hd.block = h.block) → (l ++ xs ≠ [] → ListAt P E w M τ (l ++ xs) h) →
      ∃ M', Step P E lim M β hp w M' (upd β hp.next h) (hpd.new (.lst τ (l ++ xs))) w := by
    intro h h1 h2
    exact hN.newLst hid' hnx hlim hget rfl rfl rfl (Nat.le_refl _) (fun _ _ _ => rfl) (fun hne => .inr (h1 hne)) (fun hne M' β' hs => by
      obtain ⟨vs, el, g1, g2, g3, g4, g5⟩ := ListAt.inn (h2 hne)
      exact ⟨vs, el, g1, g2, g3, g4, g5.stab hs⟩)
  -- a new block
  have fresh : ∀ {w' : World} {cap' : Nat} {cur : Array Value} {olds news : List Value}, olds.length = l.length * P.cellsOf τ → (l ++ xs ≠ []) → Below w.heap.size w w' → w'.heap[w.heap.size]? = some (.cells cur τ (0, 0)) → l.length + xs.length ≤ cap' → cap' ≤ maxLen → cur.size = cap' * P.cellsOf τ → news.length = xs.length * P.cellsOf τ →
      (∀ (j : Nat) (u : Value), (olds ++ news)[j]? = some u → cur[j]? = some u) → ListIn P E w M τ l (fun p => olds.getD p undef) → ListIn P E w M τ xs (fun p => news.getD p undef) →
      (Builtin.append_ #[t, t] ty #[vs, vx]).run P w = .ok (.slice (some ⟨w.heap.size, 0, none⟩) (l.length + xs.length) cap') w' → Does P E lim M β hp w (Builtin.append_ #[t, t] ty #[vs, vx]) K := by
    intro w' cap' cur olds news ho hne hb hg h1 h2 h3 hnl h4 k1 k2 hrun
    have hcc : (l ++ xs).length * P.cellsOf τ ≤ cap' * P.cellsOf τ := Nat.mul_le_mul_right _ (by simpa using h1)
    have key : ListIn P E w M τ (l ++ xs) fun p => cur.getD (0 + p) undef := by
      refine (k1.append hE hok k2).congr hE hok fun p hp => ?_
      have hpl : p < (olds ++ news).length := by rw [List.length_append, ho, hnl, hle]; exact hp
      have e1 := List.getElem?_eq_getElem hpl
      have e2 := h4 p _ e1
      rw [Nat.zero_add, Array.getD_eq_getD_getElem?, e2, Option.getD_some]
      split
      · rename_i hlt
        rw [List.getElem_append_left (by omega), List.getD_eq_getElem?_getD, List.getElem?_eq_getElem (by omega), Option.getD_some]
      · rename_i hge
        rw [List.getElem_append_right (by omega), List.getD_eq_getElem?_getD]
        have : p - l.length * P.cellsOf τ < news.length := by rw [hnl]; omega
        rw [List.getElem?_eq_getElem this, Option.getD_some]
        congr 1
        omega
    obtain ⟨M', hS⟩ := hN.newLst (L := l ++ xs) (h := ⟨w.heap.size, 0, cap' * P.cellsOf τ⟩) hid' hnx hlim hget hb.os hb.tape hb.output hb.size (fun b hb' _ => hb.block b hb') (fun _ => .inl (Nat.le_refl _)) (fun _ M' β' hs => ⟨cur, τ, hg, by simp [h3], hcc, hok, key.stab hs⟩)
    refine ⟨_, w', M', _, _, hrun, hS, ?_, hK⟩
    show RV P E w' M' _ (.ls hpd.next τ (l ++ xs).length) _
    rw [hpn, List.length_append]
    have hpos' : 0 < l.length + xs.length := by
      rcases Nat.eq_zero_or_pos (l.length + xs.length) with h | h
      · exact absurd (List.eq_nil_of_length_eq_zero (by simpa using h)) hne
      · exact h
    exact .ls upd_self hpos' h1 rfl h2
  rcases hx with ⟨rfl, a, c, rfl⟩ | ⟨ad, c, g, rfl, hx0, hxc, hxl⟩
  · -- nothing is appended
    rcases hd with ⟨rfl, b, rfl⟩ | ⟨id, hd, c', e1, e2, e3, e4, rfl, e6, e7, e8⟩
    · obtain ⟨M', hS⟩ := still ⟨0, 0, 0⟩ (fun h => absurd rfl h) (fun h => absurd rfl h)
      exact ⟨_, w, M', _, _, run_append_zero ht hi (Nat.le_refl _), hS, .ls0, hK⟩
    · have hlive : Live hp.get id := by unfold Live; rw [e2]; exact e3
      obtain ⟨hd', q1, q2⟩ := hN.heap.obj id _ hlive e2
      rw [e4] at q1
      cases q1
      obtain ⟨M', hS⟩ := still hd (fun _ => ⟨id, hd, e1, hlive, e4, rfl⟩) (fun _ => by rw [List.append_nil]; exact q2)
      refine ⟨_, w, M', _, _, run_append_zero ht hi e6, hS, ?_, hK⟩
      show RV P E w M' _ (.ls hpd.next τ (l ++ []).length) _
      rw [hpn, List.append_nil]
      exact .ls upd_self (List.length_pos_iff.2 e3) e6 e7 e8
  · -- something is
    let news : List Value := (List.range (xs.length * P.cellsOf τ)).map g
    have hnl : news.length = xs.length * P.cellsOf τ := by simp [news]
    have hng : ∀ (j : Nat) (u : Value), news[j]? = some u → w.cell? (ad.add j) = some u := fun j u hu => by
      have hj : j < xs.length * P.cellsOf τ := by rw [← hnl]; exact (List.getElem?_eq_some_iff.1 hu).1
      rw [getD_map hj] at hu
      cases hu
      exact hxc j hj
    have hnIn : ListIn P E w M τ xs (fun p => news.getD p undef) := hxl.congr hE hok fun p hp => by
      rw [List.getD_eq_getElem?_getD, getD_map hp]
      rfl
    have hone : ∀ u ∈ news, u.oneCell' = true := by
      intro u hu
      obtain ⟨j, hj, rfl⟩ := List.getElem_of_mem hu
      have hj' : j < xs.length * P.cellsOf τ := by rw [← hnl]; exact hj
      have hi' : j / P.cellsOf τ < xs.length := Nat.div_lt_of_lt_mul (by rw [Nat.mul_comm]; exact hj')
      have hm : j % P.cellsOf τ < P.cellsOf τ := Nat.mod_lt _ hpos
      have e1 : xs[j / P.cellsOf τ]? = some xs[j / P.cellsOf τ] := List.getElem?_eq_getElem hi'
      have e2 : (E.enc τ xs[j / P.cellsOf τ])[j % P.cellsOf τ]? = some ((E.enc τ xs[j / P.cellsOf τ])[j % P.cellsOf τ]'(by rw [hE.len τ hok]; exact hm)) := List.getElem?_eq_getElem _
      have hrv := hnIn _ _ _ _ e1 e2
      simp only at hrv
      rw [show j / P.cellsOf τ * P.cellsOf τ + j % P.cellsOf τ = j by rw [Nat.mul_comm]; exact Nat.div_add_mod j _, List.getD_eq_getElem?_getD, List.getElem?_eq_getElem hj, Option.getD_some] at hrv
      exact isCell_one (List.all_eq_true.1 (hE.cell τ hok _) _ (List.mem_of_getElem? e2)) hrv
    have hxne : l ++ xs ≠ [] := fun e => by
      rw [List.append_eq_nil_iff] at e
      rw [e.2] at hx0
      simp at hx0
    rcases hd with ⟨rfl, b, rfl⟩ | ⟨id, hd, c', e1, e2, e3, e4, rfl, e6, e7, e8⟩
    · obtain ⟨w', cap', cur, r1, r2, r3, r4, r5, r6, r7⟩ := append_new (w := w) (ty := ty) ht hi hz hzs hby (b := b) (n := 0) (cap := 0) (olds := []) (by simp) (fun _ => ⟨rfl, rfl⟩) (fun bb _ j u h => by simp at h) (c := c) hnl hng (by omega) (by simpa using hcap)
      exact fresh (olds := []) (by simp) hxne r2 r3 (by simpa using r4) r5 r6 hnl r7 ListIn.nil hnIn (by simpa using r1)
    · have hlive : Live hp.get id := by unfold Live; rw [e2]; exact e3
      obtain ⟨hd', q1, q2⟩ := hN.heap.obj id _ hlive e2
      rw [e4] at q1
      cases q1
      obtain ⟨cur, el, g1, g2, g3, g4, g5⟩ := ListAt.inn q2
      by_cases hroom : l.length + xs.length ≤ c'
      · -- in its place
        have hfit : hd.base + l.length * P.cellsOf τ + news.length ≤ cur.size := by
          rw [hnl]
          have := Nat.mul_le_mul_right (P.cellsOf τ) hroom
          rw [Nat.add_mul] at this
          omega
        have hrun := run_append_at (ty := ty) ht hi g1 (sLen := l.length) (sCap := c') (c := c) hnl hng hone hroom hfit
        obtain ⟨M', hS⟩ := hN.newLst (L := l ++ xs) (h := hd) hid' hnx hlim hget (w' := w.setRow hd.block (cur.toList.take (hd.base + l.length * P.cellsOf τ) ++ news ++ cur.toList.drop (hd.base + l.length * P.cellsOf τ + news.length)).toArray) rfl rfl rfl (by simp [World.setRow])
          (fun b hb hy => setRow_other w hd.block b _ (fun e => hy id hd e1 hlive e4 e.symm)) (fun _ => .inr ⟨id, hd, e1, hlive, e4, rfl⟩) (fun _ M' β' hs => by
            refine ⟨_, el, setRow_heap w hd.block cur _ el (0, 0) g1, by rw [splice_size hfit]; exact g2, ?_, g4, ?_⟩
            · have := Nat.mul_le_mul_right (P.cellsOf τ) hroom
              rw [← List.length_append] at this
              omega
            · have := (g5.append hE hok hnIn).stab hs
              refine this.congr (g' := fun p => (cur.toList.take (hd.base + l.length * P.cellsOf τ) ++ news ++ cur.toList.drop (hd.base + l.length * P.cellsOf τ + news.length)).toArray.getD (hd.base + p) undef) hE hok fun p hp => ?_
              rw [splice_getD hfit]
              by_cases hlt : p < l.length * P.cellsOf τ
              · rw [if_neg (by omega), if_pos hlt]
              · rw [if_pos (by rw [hnl]; omega), if_neg hlt]
                congr 1
                omega)
        refine ⟨_, _, M', _, _, hrun, hS, ?_, hK⟩
        show RV P E _ M' _ (.ls hpd.next τ (l ++ xs).length) _
        rw [hpn, List.length_append]
        exact .ls upd_self (by omega) hroom e7 e8
      · let olds : List Value := (List.range (l.length * P.cellsOf τ)).map fun p => cur.getD (hd.base + p) undef
        have hol : olds.length = l.length * P.cellsOf τ := by simp [olds]
        obtain ⟨w', cap', cur', r1, r2, r3, r4, r5, r6, r7⟩ := append_new (w := w) (ty := ty) ht hi hz hzs hby (b := some ⟨hd.block, hd.base, none⟩) (n := l.length) (cap := c') (olds := olds) hol (fun e => by cases e) (fun bb e j u h => by
          cases e
          have hj : j < l.length * P.cellsOf τ := by rw [← hol]; exact (List.getElem?_eq_some_iff.1 h).1
          rw [getD_map hj] at h
          cases h
          rw [add_plain']
          exact cell_of g1 (by omega)) (c := c) hnl hng (by omega) hcap
        exact fresh hol hxne r2 r3 r4 r5 r6 hnl r7 (g5.congr hE hok fun p hp => by rw [List.getD_eq_getElem?_getD, getD_map hp]; rfl) hnIn r1

theorem appL_runs (hE : E.Good P) (hN : Now P E lim M β hp w) {t ty τ : TypeId} (ht : P.underlying t = some (.slice τ)) {i : TypeInfo} (hi : P.info? τ = some i) {z : Value} (hz : i.zero = some z) (hzs : z.cells.size = P.cellsOf τ) (hby : P.bytesOf τ ≤ 65536) (hok : E.ok τ = true)
    {s : AV T} {xs : List (T τ)} {vs vx : Value} (hs : RV P E w M β s vs) (hx : Src P E w M τ xs vx) {K : AV T × Hp T → Prop} (h : (appL hp τ s xs).holds fun r => r.2.next ≤ lim ∧ K r) : Does P E lim M β hp w (Builtin.append_ #[t, t] ty #[vs, vx]) K := by
  have none' : ∀ {a : Option Addr}, vs = .slice a 0 0 → (newL hp τ [] xs).holds (fun r => r.2.next ≤ lim ∧ K r) → Does P E lim M β hp w (Builtin.append_ #[t, t] ty #[vs, vx]) K := fun e h =>
    newL_runs hE hN ht hi hz hzs hby hok (idO := none) (fun _ e => by cases e) (.inl ⟨rfl, _, e⟩) hx rfl (fun x => by rw [if_neg (by simp)]) h
  unfold appL at h
  split at h
  · cases hs; exact none' rfl h
  · cases hs; exact none' rfl h
  · obtain ⟨⟨h1, h2⟩, h⟩ := h
    subst h2
    cases hs with
    | sl0 hf => exact none' (by rw [hf rfl]) h
    | sl f q1 q2 q3 q4 => exact none' (by rw [q4 rfl, h1]) h
  · rename_i id τ' len
    split at h
    · rename_i τ2 l hget
      split at h
      · rename_i e
        subst e
        cases hb : Nat.beq τ' τ2 with
        | false => rw [hb] at h; exact h.elim
        | true =>
          rw [hb] at h
          have e := bbeq hb
          subst e
          obtain ⟨hlen, h⟩ := h
          refine newL_runs hE hN ht hi hz hzs hby hok (idO := some id) (hpd := hp.put id .dead) (fun id' e => by cases e; exact ⟨l, hget⟩) ?_ hx rfl (fun x => by
            rw [Hp.get_put]
            by_cases e : x = id
            · rw [if_pos e, if_pos (by rw [e])]
            · rw [if_neg e, if_neg (fun e' => e (Option.some.inj e').symm)]) h
          subst hlen
          generalize hq : l.length = q at hs
          cases hs with
          | ls0 => exact .inl ⟨List.eq_nil_of_length_eq_zero hq, _, rfl⟩
          | ls q1 q2 q3 q4 q5 =>
            subst hq
            exact .inr ⟨id, _, _, rfl, hget, List.length_pos_iff.1 q2, q1, rfl, q3, q4, q5⟩
      · exact h.elim
    · exact h.elim
  · split at h
    · rename_i c
      cases hb : Nat.beq _ 0 && Nat.beq c 0 with
      | false => rw [hb] at h; exact h.elim
      | true =>
        rw [hb] at h
        rw [Bool.and_eq_true] at hb
        have e1 := bbeq hb.1
        have e2 := bbeq hb.2
        cases hs with
        | sc q1 q2 q3 q4 =>
          have e3 := q3 _ rfl
          subst e1; subst e2; subst e3
          exact none' rfl h
    · exact h.elim
  · exact h.elim

theorem appendO_runs (hE : E.Good P) (hN : Now P E lim M β hp w) {tys : List TypeId} {ty : TypeId} {s x : AV T} {vs vx : Value} (hs : RV P E w M β s vs) (hx : RV P E w M β x vx) {K : AV T × Hp T → Prop} (h : (iopAppendO P E cl hp tys s x).holds fun r => r.2.next ≤ lim ∧ K r) :
    ∃ t, tys = [t, t] ∧ Does P E lim M β hp w (Builtin.append_ #[t, t] ty #[vs, vx]) K := by
  unfold iopAppendO at h
  cases ho : isLs s || isSl s || isLs x || isSl x with
  | false => rw [ho] at h; exact append_runs hN hs hx h
  | true =>
    rw [ho] at h
    simp only [cond_true] at h
    split at h
    case h_2 => exact h.elim
    rename_i t tx
    split at h
    case h_2 => exact h.elim
    rename_i τ hu
    have hq := holds_bif h; clear h; obtain ⟨hb, h⟩ := hq
    obtain ⟨b1, b2, b3, b4⟩ := and4 hb
    obtain rfl := bbeq b1
    have hby := bble b3
    obtain ⟨z, hz0, hzlen⟩ : ∃ z, zeroA (T := T) P τ = some z ∧ z.length = P.cellsOf τ := by
      cases hz : zeroA (T := T) P τ with
      | none => simp [hz] at b4
      | some z => simp only [hz] at b4; exact ⟨z, rfl, bbeq b4⟩
    obtain ⟨zv, _, hzl, i, hi, hz⟩ := zero_runs (w := w) (M := M) (β := β) (E := E) hz0
    have hzs : zv.cells.size = P.cellsOf τ := by have := hzl.1; simp at this; omega
    obtain ⟨l, h1, h2⟩ := srcL_runs hE hN hx h
    exact ⟨t, rfl, appL_runs hE hN hu hi hz hzs hby b2 hs h2 h1⟩

/-- A list that is never written again. -/
theorem Step.freeze {M' : Nat → Prop} {β' : Nat → Option Hd} (hS : Step P E lim M β hp w M' β' hp' w') (hE : E.Good P) (hN : Now P E lim M β hp w) {id τ : Nat} {l : List (T τ)} (hget : hp'.get id = some (.lst τ l)) {u : Value} (hv : RV P E w' M' β' (.ls id τ l.length) u) :
    ∃ M2, Step P E lim M β hp w M2 β' (hp'.put id .dead) w' ∧ RV P E w' M2 β' (.sl τ l false) u := by
  have hH := hS.now.heap
  have hg : ∀ x, (hp'.put id .dead).get x = if x = id then some .dead else hp'.get x := fun x => Hp.get_put ..
  have lv : ∀ x, Live (hp'.put id .dead).get x → x ≠ id ∧ Live hp'.get x ∧ keyOf (hp'.put id .dead).get x = keyOf hp'.get x := by
    intro x hx
    have hne : x ≠ id := by
      rintro rfl
      unfold Live at hx
      rw [hg, if_pos rfl] at hx
      exact hx
    refine ⟨hne, ?_, by unfold keyOf; rw [hg, if_neg hne]⟩
    unfold Live at hx ⊢
    rw [hg, if_neg hne] at hx
    cases hh : hp'.get x with
    | none => rw [hh] at hx; exact hx
    | some o =>
      rw [hh] at hx
      cases o with
      | grow n2 c2 d2 f =>
        obtain ⟨hd, sh, k1, k2⟩ := hx
        rw [hg] at k1
        split at k1
        · cases k1
        · exact ⟨hd, sh, k1, k2⟩
      | _ => exact hx
  -- blocks that may be written still
  have main : ∀ M2 : Nat → Prop, (∀ b, M2 b → M' b) → (∀ b, M' b → (∀ h, Live hp'.get id → β' id = some h → h.block ≠ b) → M2 b) → Step P E lim M β hp w M2 β' (hp'.put id .dead) w' := by
    intro M2 h1 h2
    have hst : Stab w' M' β' w' M2 β' := ⟨fun _ _ _ _ => rfl, Nat.le_refl _, fun b hb => .inl (h1 b hb), fun _ _ e => e⟩
    refine ⟨⟨hS.evo.os, hS.evo.tape, hS.evo.output, hS.evo.size, hS.evo.old, fun b hb => hS.evo.mutb b (h1 b hb), fun b hb ho => h2 b (hS.evo.keep b hb ho) fun h hl e e2 => ?_, ?_, hS.evo.hd, hS.evo.nm⟩, ⟨⟨?_, ?_, ?_, ?_⟩, fun b hb => hS.now.nb b (h1 b hb), ?_, ?_⟩, hS.mono⟩
    · rcases hS.evo.own b ⟨id, h, hl, e, e2⟩ with k | k
      · exact ho k
      · have := hN.nb b hb
        omega
    · rintro b ⟨x, h, hl, e, e2⟩
      exact hS.evo.own b ⟨x, h, (lv x hl).2.1, e, e2⟩
    · intro x o hx e
      rw [hg, if_neg (lv x hx).1] at e
      obtain ⟨h, q1, q2⟩ := hH.obj x o (lv x hx).2.1 e
      exact ⟨h, q1, q2.stab hst rfl⟩
    · intro i j hi hj l1 l2 hne e1 e2
      rw [(lv i l1).2.2, (lv j l2).2.2] at hne
      exact hH.inj i j hi hj (lv i l1).2.1 (lv j l2).2.1 hne e1 e2
    · intro i h l1 e
      obtain ⟨n1, l2, _⟩ := lv i l1
      refine h2 _ (hH.own i h l2 e) fun h' hl e' e2 => ?_
      have hk : keyOf hp'.get i ≠ keyOf hp'.get id := by
        have k2 : keyOf hp'.get id = id := by unfold keyOf; rw [hget]
        rw [k2]
        intro e3
        unfold keyOf at e3
        unfold Live at l2
        cases hh : hp'.get i with
        | none => rw [hh] at l2; exact l2
        | some o =>
          rw [hh] at l2 e3
          cases o with
          | grow n2 c2 d2 f =>
            obtain ⟨hd, sh, k1, _⟩ := l2
            have e3 : f = id := e3
            rw [e3, hget] at k1
            cases k1
          | _ => exact n1 e3
      exact hH.inj i id h h' l2 hl hk e e' e2.symm
    · intro f hd s sh nh ns ch cs dh ds hh hs k1 k2 k3 k4 k5 k6
      have n1 : f ≠ id := by rintro rfl; rw [hg, if_pos rfl] at k1; cases k1
      have n2 : hd ≠ id := by rintro rfl; rw [hg, if_pos rfl] at k3; cases k3
      have n3 : s ≠ id := by rintro rfl; rw [hg, if_pos rfl] at k4; cases k4
      rw [hg, if_neg n1] at k1
      rw [hg, if_neg n2] at k3
      rw [hg, if_neg n3] at k4
      exact hH.shade f hd s sh nh ns ch cs dh ds hh hs k1 k2 k3 k4 k5 k6
    · intro x h1 h2
      obtain ⟨q1, q2⟩ := hS.now.free x h1 h2
      refine ⟨q1, ?_⟩
      rw [hg, if_neg (fun e => by rw [e, hget] at q2; cases q2)]
      exact q2
    · intro f hd s sh k1 k2 k3 k4
      rw [hg] at k1
      split at k1
      · cases k1
      · exact hS.now.nomem f hd s sh k1 k2 k3 k4
  generalize hq : l.length = q at hv
  cases hv with
  | ls0 =>
    obtain rfl := List.eq_nil_of_length_eq_zero hq
    exact ⟨M', main M' (fun _ h => h) (fun _ h _ => h), .sl0 fun h => by cases h⟩
  | ls g1 g2 g3 g4 g5 =>
    rename_i c h
    subst hq
    have hne : l ≠ [] := List.length_pos_iff.1 g2
    have hlive : Live hp'.get id := by unfold Live; rw [hget]; exact hne
    obtain ⟨h', q1, q2⟩ := hH.obj id _ hlive hget
    rw [g1] at q1
    cases q1
    obtain ⟨vs, el, r1, r2, r3, r4, r5⟩ := q2
    refine ⟨fun b => M' b ∧ b ≠ h.block, main _ (fun _ h => h.1) (fun b hb hn => ⟨hb, fun e => hn h hlive g1 e.symm⟩), ?_⟩
    refine .sl (fun i j => vs.getD (h.base + (i * P.cellsOf τ + j)) undef) rfl (Array.getElem?_eq_some_iff.1 r1).1 g3 (fun h => by cases h) r4 (fun _ hm => hm.2 rfl) (fun i x j c' hx hc => ?_) (fun i x j c' hx hc => (r5 i x j c' hx hc).stab ⟨fun _ _ _ _ => rfl, Nat.le_refl _, fun b hb => .inl hb.1, fun _ _ e => by cases e⟩)
    have hi := (List.getElem?_eq_some_iff.1 hx).1
    have hj := (List.getElem?_eq_some_iff.1 hc).1
    rw [hE.len τ r4] at hj
    have hm := Nat.mul_le_mul_right (P.cellsOf τ) (show i + 1 ≤ l.length by omega)
    rw [Nat.add_mul, Nat.one_mul] at hm
    show w'.cell? ⟨h.block, h.base + (i * P.cellsOf τ + j), none⟩ = _
    exact cell_of r1 (by omega)
theorem appendF_runs (hE : E.Good P) (hN : Now P E lim M β hp w) {b : Bool} {tys : List TypeId} {ty : TypeId} {s x : AV T} {vs vx : Value} (hs : RV P E w M β s vs) (hx : RV P E w M β x vx) {K : AV T × Hp T → Prop} (h : (frzT b (iopAppendO P E cl hp tys s x)).holds fun r => r.2.next ≤ lim ∧ K r) :
    ∃ t, tys = [t, t] ∧ Does P E lim M β hp w (Builtin.append_ #[t, t] ty #[vs, vx]) K := by
  cases b with
  | false => exact appendO_runs hE hN hs hx h
  | true =>
    have h := Tree.holds_bind.1 h
    obtain ⟨t, ht, u, w', M', β', r, h1, h2, h3, h4⟩ := appendO_runs (ty := ty) (K := fun r => (frzLeaf r).holds fun r => r.2.next ≤ lim ∧ K r) hE hN hs hx (Tree.holds_mono (fun r hr => by
      refine ⟨?_, hr⟩
      unfold frzLeaf at hr
      split at hr
      · split at hr
        · split at hr
          · exact hr.2.1
          · exact hr.elim
        · exact hr.elim
      · exact hr.elim) h)
    refine ⟨t, ht, ?_⟩
    obtain ⟨v, hp2⟩ := r
    unfold frzLeaf at h4
    split at h4
    · rename_i id τ len e
      obtain rfl : v = .ls id τ len := e
      split at h4
      · rename_i τ2 l hget
        split at h4
        · rename_i e2
          subst e2
          obtain ⟨hl, hlim, hK⟩ := h4
          subst hl
          obtain ⟨M2, g1, g2⟩ := h2.freeze hE hN hget h3
          exact ⟨u, w', M2, β', _, h1, g1, g2, hK⟩
        · exact h4.elim
      · exact h4.elim
    · exact h4.elim

theorem makeO_runs (hE : E.Good P) (hN : Now P E lim M β hp w) {t : TypeId} {x y : AV T} {vx vy : Value} (hx : RV P E w M β x vx) (hy : RV P E w M β y vy) {K : AV T × Hp T → Prop} (h : (iopMakeO P E cl hp t x y).holds fun r => r.2.next ≤ lim ∧ K r) :
    Does P E lim M β hp w (Instr.makeSlice t vx vy) K := by
  unfold iopMakeO at h
  cases ho : isOp1 x || isOp1 y with
  | false => rw [ho] at h; exact make_runs hN hx hy h
  | true =>
    rw [ho] at h
    simp only [cond_true] at h
    split at h
    case h_2 => exact h.elim
    rename_i τ kn n kc c hu hxn hyn
    cases hz0 : zeroA (T := T) P τ with
    | none => rw [hz0] at h; exact h.elim
    | some z =>
      rw [hz0] at h
      simp only at h
      have hq := holds_bif h; clear h; obtain ⟨hb, h⟩ := hq
      obtain ⟨hok, b1, b3⟩ := and3 hb
      have b1 := bbeq b1
      have b3 := bble b3
      split at h
      case h_2 => exact h.elim
      rename_i x0 hdec
      obtain ⟨⟨q1, q2, q3⟩, hlim, hK⟩ := h
      subst q2
      rw [asN_val hx hxn, asN_val hy hyn]
      obtain ⟨zv, hzr, hzl, i, hi, hz⟩ := zero_runs (w := w) (M := M) (β := β) (E := E) hz0
      have hsz : i.size = P.cellsOf τ := by simp [Program.cellsOf, hi]
      have hbb : i.bytes = P.bytesOf τ := by simp [Program.bytesOf, hi]
      obtain ⟨m, rfl⟩ := Int.eq_ofNat_of_zero_le q1
      have h2' : m ≤ 1073741824 := by have : (cap30 : Int) = 1073741824 := rfl; omega
      have hbytes : (i.bytes : Int) * (m : Int) ≤ 281474976710656 := by
        rw [hbb]
        have : P.bytesOf τ * m ≤ 65536 * 1073741824 := Nat.mul_le_mul b3 h2'
        have h3 : ((P.bytesOf τ * m : Nat) : Int) ≤ 281474976710656 := by omega
        rwa [Int.natCast_mul] at h3
      have hr := run_make (P := P) w t τ i zv hu hi hz kn kc (m : Int) (m : Int) q1 (by omega) hbytes (by omega)
      simp only [Int.toNat_natCast] at hr hlim hK
      have hpos := hE.pos τ hok
      have hzz : zv.cells.size = z.length := by have := hzl.1; simpa using this.symm
      obtain ⟨_, hto⟩ := (hE.dec τ _ _ x0 hok hdec).get
      have hfr := hN.free hp.next (Nat.le_refl _) (by have : hp.next + 1 ≤ lim := hlim; omega)
      have mk : ∀ p, p < m * P.cellsOf τ → (madeCells zv.cells (m * i.size)).getD p undef = zv.cells.getD (p % P.cellsOf τ) undef := by
        intro p hp
        have hp' : p < m * i.size := by rw [hsz]; exact hp
        simp only [madeCells, Array.getD_eq_getD_getElem?, Array.getElem?_map, Array.getElem?_range, hp', if_true, Option.map_some, Option.getD_some, hzz, b1]
        have hm : p % P.cellsOf τ < zv.cells.size := by rw [hzz, b1]; exact Nat.mod_lt _ hpos
        rw [getElem!_pos zv.cells _ hm, Array.getElem?_eq_getElem hm, Option.getD_some]
      obtain ⟨M', hS⟩ := hN.newLst (idO := none) (τ := τ) (L := List.replicate m x0) (h := ⟨w.heap.size, 0, m * P.cellsOf τ⟩) (hp' := hp.new (.lst τ (List.replicate m x0))) (w' := w.alloc (.cells (madeCells zv.cells (m * i.size)) τ)) (fun _ e => by cases e) rfl hlim
        (fun x => by rw [Hp.get_new]; by_cases e : x = hp.next <;> simp [e]) rfl rfl rfl (by simp) (fun b hb _ => Below.heap_alloc w _ b hb) (fun _ => .inl (Nat.le_refl _)) (fun _ M' β' hs => by
          refine ⟨_, τ, heap_alloc_new w _, by simp [size_madeCells, hsz], by simp, hok, fun j x k c hx hc => ?_⟩
          have hj := (List.getElem?_eq_some_iff.1 hx).1
          simp only [List.length_replicate] at hj
          rw [List.getElem?_replicate, if_pos hj] at hx
          cases hx
          have hk := (List.getElem?_eq_some_iff.1 hc).1
          rw [hE.len τ hok] at hk
          have hlt : j * P.cellsOf τ + k < m * P.cellsOf τ := by
            have := Nat.mul_le_mul_right (P.cellsOf τ) (show j + 1 ≤ m by omega)
            rw [Nat.add_mul, Nat.one_mul] at this
            omega
          show RV P E _ M' _ c ((madeCells zv.cells (m * i.size)).getD (0 + (j * P.cellsOf τ + k)) undef)
          rw [Nat.zero_add, mk _ hlt]
          have e2 : (j * P.cellsOf τ + k) % P.cellsOf τ = k := by rw [Nat.mul_comm, Nat.mul_add_mod, Nat.mod_eq_of_lt hk]
          rw [e2]
          have hzk : z[k]? = some (z[k]'(by omega)) := List.getElem?_eq_getElem _
          have hv : zv.cells.toList[k]? = some (zv.cells[k]'(by omega)) := by simp [hzz, b1, hk]
          have hrv := getD_rv hzl k _ hv
          have e3 : z.getD k .any = z[k]'(by omega) := by rw [List.getD_eq_getElem?_getD, hzk]; rfl
          rw [e3] at hrv
          have := cellTo_rv hrv (hto k _ c hzk hc)
          have e4 : zv.cells.getD k undef = zv.cells[k]'(by omega) := by simp [Array.getD_eq_getD_getElem?, hzz, b1, hk]
          rw [e4]
          exact this.stab hs.nil)
      refine ⟨_, _, M', _, _, hr, hS, ?_, hK⟩
      show RV P E _ M' _ (.ls hp.next τ m) _
      rcases Nat.eq_zero_or_pos m with h0 | h0
      · subst h0; exact .ls0
      · exact .ls (h := ⟨w.heap.size, 0, m * P.cellsOf τ⟩) upd_self h0 (Nat.le_refl _) rfl (Nat.le_trans h2' (by decide))

theorem storeO_runs (hE : E.Good P) (hN : Now P E lim M β hp w) {t : TypeId} {x y : AV T} {vx vy : Value} (hx : RV P E w M β x vx) (hy : RV P E w M β y vy) {K : AV T × Hp T → Prop} (h : (iopStoreO P E hp t x y).holds fun r => r.2.next ≤ lim ∧ K r) :
    ∃ w' M' β' hp', (Instr.storeAt t vx vy).run P w = .ok () w' ∧ Step P E lim M β hp w M' β' hp' w' ∧ K (.any, hp') := by
  unfold iopStoreO at h
  split at h
  · rename_i id τ i k
    split at h
    case h_2 => exact h.elim
    rename_i τ' l vc hget hvc
    have hq := holds_bif h; clear h; obtain ⟨hb, h⟩ := hq
    simp only [Bool.and_eq_true] at hb
    obtain ⟨⟨⟨⟨b1, b2⟩, b3⟩, b4⟩, b5⟩ := hb
    have b1 := bbeq b1
    have b2 := bbeq b2
    have b3 := bble b3
    have b4 := bble b4
    subst b1
    split at h
    case h_2 => exact h.elim
    rename_i x' hdec
    obtain ⟨h1, hlim, hK⟩ := h
    obtain ⟨h3, h4⟩ := bounds_and h1
    have hlive : Live hp.get id := by
      unfold Live
      rw [hget]
      rintro rfl
      simp at h4
      omega
    obtain ⟨hd, g1, g2⟩ := hN.heap.obj id _ hlive hget
    obtain ⟨cur, el, g3, g4, g5, hok, g6⟩ := ListAt.inn g2
    have hl := cellsA_lr hy hvc
    have hone := hl.oneCells b5
    have hlen : vy.cells.toList.length = vc.length := hl.1.symm
    cases hx with
    | lp q1 =>
      rename_i n hd'
      rw [g1] at q1
      cases q1
      have hn : n < l.length := by omega
      obtain ⟨inf, hi⟩ := info_of_cells (P := P) (t := t) (by omega)
      have hln : l[n]? = some l[n] := List.getElem?_eq_getElem hn
      have hix : ixD E τ' l (n : Int) = l[n] := by simp only [ixD, Int.toNat_natCast, hln, Option.getD_some]
      rw [hix] at hdec
      have hmul : n * P.cellsOf τ' + P.cellsOf τ' ≤ l.length * P.cellsOf τ' := by
        have := Nat.mul_le_mul_right (P.cellsOf τ') (show n + 1 ≤ l.length by omega)
        rw [Nat.add_mul, Nat.one_mul] at this
        exact this
      have hfit : hd.base + (n * P.cellsOf τ' + k) + vy.cells.toList.length ≤ cur.size := by omega
      have hrun := run_storeVar (w := w) hi (by have := hlen; simp at this; omega) g3 hfit hone
      obtain ⟨_, hto⟩ := (hE.dec τ' _ _ x' hok hdec).get
      have hsp : ∀ (j : Nat) (c : AV T), (E.enc τ' x')[j]? = some c → ∃ c0, (spliceL (E.enc τ' l[n]) k vc)[j]? = some c0 ∧ CellTo asLd c0 c := by
        intro j c hc
        have hj := (List.getElem?_eq_some_iff.1 hc).1
        rw [hE.len τ' hok] at hj
        have hls : j < (spliceL (E.enc τ' l[n]) k vc).length := by
          unfold spliceL
          simp only [List.length_append, List.length_take, List.length_drop, hE.len τ' hok]
          omega
        exact ⟨_, List.getElem?_eq_getElem hls, hto j _ c (List.getElem?_eq_getElem hls) hc⟩
      have hgx : ∀ z, (hp.put id (.lst τ' (l.set n x'))).get z = if z = id then some (.lst τ' (l.set n x')) else hp.get z := fun z => Hp.get_put ..
      have hlive' : Live (hp.put id (.lst τ' (l.set n x'))).get id := by
        unfold Live
        rw [hgx, if_pos rfl]
        intro e
        have h7 := congrArg List.length e
        rw [List.length_set, List.length_nil] at h7
        omega
      simp only [Int.toNat_natCast] at hlim hK
      have hnew : ListIn P E w M τ' (l.set n x') fun p => (cur.toList.take (hd.base + (n * P.cellsOf τ' + k)) ++ vy.cells.toList ++ cur.toList.drop (hd.base + (n * P.cellsOf τ' + k) + vy.cells.toList.length)).toArray.getD (hd.base + p) undef := by
        intro m z j c hz hc
        have hj := (List.getElem?_eq_some_iff.1 hc).1
        rw [hE.len τ' hok] at hj
        simp only
        rw [splice_getD hfit]
        by_cases hmn : m = n
        · subst hmn
          rw [List.getElem?_set_self hn] at hz
          cases hz
          obtain ⟨c0, e0, ht0⟩ := hsp j c hc
          unfold spliceL at e0
          have hlt : (List.take k (E.enc τ' l[m])).length = k := by rw [List.length_take, hE.len τ' hok]; omega
          by_cases h1 : j < k
          · rw [List.getElem?_append_left (by omega), List.getElem?_take, if_pos h1] at e0
            rw [if_neg (by omega)]
            exact cellTo_rv (g6 m _ j c0 hln e0) ht0
          · rw [List.getElem?_append_right (by omega), hlt] at e0
            by_cases h2 : j < k + vc.length
            · rw [List.getElem?_append_left (by omega)] at e0
              rw [if_pos (by omega)]
              have hju : j - k < vy.cells.toList.length := by omega
              have := hl.2 (j - k) c0 _ e0 (List.getElem?_eq_getElem hju)
              have e5 : hd.base + (m * P.cellsOf τ' + j) - (hd.base + (m * P.cellsOf τ' + k)) = j - k := by omega
              rw [e5, List.getD_eq_getElem?_getD, List.getElem?_eq_getElem hju, Option.getD_some]
              exact cellTo_rv this ht0
            · rw [List.getElem?_append_right (by omega), List.getElem?_drop] at e0
              rw [if_neg (by omega)]
              rw [show k + vc.length + (j - k - vc.length) = j by omega] at e0
              exact cellTo_rv (g6 m _ j c0 hln e0) ht0
        · rw [List.getElem?_set_ne (fun e => hmn e.symm)] at hz
          have hm := (List.getElem?_eq_some_iff.1 hz).1
          rw [if_neg]
          · exact g6 m z j c hz hc
          · rintro ⟨p1, p2⟩
            rcases Nat.lt_or_ge m n with h | h
            · have := Nat.mul_le_mul_right (P.cellsOf τ') (show m + 1 ≤ n by omega)
              rw [Nat.add_mul, Nat.one_mul] at this
              omega
            · have := Nat.mul_le_mul_right (P.cellsOf τ') (show n + 1 ≤ m by omega)
              rw [Nat.add_mul, Nat.one_mul] at this
              omega
      obtain ⟨M', hS⟩ := hN.chg (hp' := hp.put id (.lst τ' (l.set n x'))) (w' := w.setRow hd.block (cur.toList.take (hd.base + (n * P.cellsOf τ' + k)) ++ vy.cells.toList ++ cur.toList.drop (hd.base + (n * P.cellsOf τ' + k) + vy.cells.toList.length)).toArray) (β' := β) (D := fun z => z = id) (Nat.le_refl _) hlim
        (fun z hz => by rw [hgx, if_neg hz]) (fun z hz => by rw [hz, hget]; trivial) (fun z hz => by rw [hgx, if_pos hz]; trivial) (fun _ _ e => e) (fun _ _ => rfl) (fun _ _ e => .inl e)
        (fun z hz e1 e2 => by
          have := (hN.free z e1 e2).1
          rw [hz, g1] at this
          cases this)
        (fun z o hz _ ho => by
          subst hz
          rw [hgx, if_pos rfl] at ho
          cases ho
          exact ⟨hd, g1, fun M' hs => ⟨_, el, setRow_heap w hd.block cur _ el (0, 0) g3, by rw [splice_size hfit]; exact g4, by simpa using g5, hok, hnew.stab hs⟩, .inr ⟨z, hd, rfl, hlive, g1, rfl⟩⟩)
        (fun a b _ _ ha hb _ _ hne _ _ => absurd (ha.trans hb.symm) hne) rfl rfl rfl (by simp [World.setRow])
        (fun b _ hy => setRow_other w hd.block b _ (fun e => hy id hd rfl hlive g1 e.symm))
      exact ⟨_, M', β, _, hrun, hS, hK⟩
  · have h' : (iopStore P hp t x y).holds fun r => r.2.next ≤ lim ∧ K r := h
    obtain ⟨w', hp', k1, k2, k3, k4⟩ := store_runs hN hx hy h'
    exact ⟨w', M, β, hp', k1, k2, k4.2⟩
end
end Go.Cx
