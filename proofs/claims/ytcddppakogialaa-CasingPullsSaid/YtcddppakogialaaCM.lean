/- The load of a greater part is less by 1 at most. No condition. -/
import Derived.Test.YtcddppakogialaaW3
set_option linter.unusedVariables false
set_option maxRecDepth 100000
set_option maxHeartbeats 4000000
noncomputable section
namespace Go.Proofs.Ytcddppakogialaa.W
open Go Go.Cx Go.RowKit
theorem pc_left {a b : Knot} : pcLo a b a.At = a.V ∧ pcHi a b a.At = a.V := by
  unfold pcLo pcHi
  rw [Int.sub_self, Int.mul_zero, Int.neg_zero, Int.zero_ediv]
  omega
/-- The piece between two knots, times its width. -/
noncomputable def pn (a b : Knot) (x : Int) : Int := a.V * (b.At - a.At) + (b.V - a.V) * (x - a.At)
theorem pn_lo {a b : Knot} {x : Int} (h : a.At < b.At) : pcLo a b x = pn a b x / (b.At - a.At) ∧ pcHi a b x = -(-pn a b x / (b.At - a.At)) := by
  have hw : b.At - a.At ≠ 0 := by omega
  have e1 : pn a b x = (b.V - a.V) * (x - a.At) + a.V * (b.At - a.At) := by unfold pn; omega
  have e2 : -pn a b x = -((b.V - a.V) * (x - a.At)) + -a.V * (b.At - a.At) := by rw [e1, Int.neg_mul]; omega
  constructor
  · rw [e1, Int.add_mul_ediv_right _ _ hw]; unfold pcLo; omega
  · rw [e2, Int.add_mul_ediv_right _ _ hw]; unfold pcHi; omega
/-- The straight piece of a line at a place, with its bounds. -/
structure Piece' (l : List Knot) (x : Int) where
  p : Knot
  q : Knot
  w : p.At < q.At
  lo : Option Int
  hi : Option Int
  lo_ok : ∀ u, lo = some u → u ≤ x ∧ ∃ i : Nat, i < l.length ∧ (kn l i).At = u
  hi_ok : ∀ u, hi = some u → x ≤ u ∧ ∃ i : Nat, i < l.length ∧ (kn l i).At = u
  lo_no : lo = none → q.V = p.V
  hi_no : hi = none → q.V = p.V
  any : lo ≠ none ∨ hi ≠ none
  val : ∀ z, (∀ u, lo = some u → u ≤ z) → (∀ u, hi = some u → z ≤ u) → valLo l z = pcLo p q z ∧ valHi l z = pcHi p q z
theorem pc_const {v a b x : Int} : pcLo ⟨a, v⟩ ⟨b, v⟩ x = v ∧ pcHi ⟨a, v⟩ ⟨b, v⟩ x = v := by
  unfold pcLo pcHi
  have e : (v - v) * (x - a) = 0 := by rw [Int.sub_self, Int.zero_mul]
  show v + (v - v) * (x - a) / (b - a) = v ∧ v + -(-((v - v) * (x - a)) / (b - a)) = v
  rw [e, Int.neg_zero, Int.zero_ediv]
  omega
theorem piece {l : List Knot} {a v : Int} (h : Good l a v) (x : Int) : Nonempty (Piece' l x) := by
  have hle := ixAt_le (l := l) (x := x)
  have pos := h.pos
  by_cases e0 : ixAt l x = 0
  · have hx : x ≤ (kn l 0).At := by
      have := ixAt_there (l := l) (x := x) (by omega)
      rw [e0] at this
      exact this
    refine ⟨⟨⟨0, (kn l 0).V⟩, ⟨1, (kn l 0).V⟩, Int.zero_lt_one, none, some (kn l 0).At, fun u h => (by cases h), fun u h => ?_, fun _ => rfl, fun h => (by cases h), .inr (fun h => (by cases h)), fun z _ hz => ?_⟩⟩
    · cases h
      exact ⟨hx, 0, pos, rfl⟩
    · have := val_first (hz _ rfl)
      have c := pc_const (v := (kn l 0).V) (a := 0) (b := 1) (x := z)
      omega
  by_cases e1 : ixAt l x = l.length
  · have hb := ixAt_before (l := l) (x := x) (i := l.length - 1) (by omega)
    refine ⟨⟨⟨0, (kn l (l.length - 1 : Nat)).V⟩, ⟨1, (kn l (l.length - 1 : Nat)).V⟩, Int.zero_lt_one, some (kn l (l.length - 1 : Nat)).At, none, fun u h => ?_, fun u h => (by cases h), fun h => (by cases h), fun _ => rfl, .inl (fun h => (by cases h)), fun z hz _ => ?_⟩⟩
    · cases h
      exact ⟨by omega, l.length - 1, by omega, rfl⟩
    · have c := pc_const (v := (kn l (l.length - 1 : Nat)).V) (a := 0) (b := 1) (x := z)
      rw [c.1, c.2]
      have hz := hz _ rfl
      by_cases g : (kn l (l.length - 1 : Nat)).At = z
      · have := val_knot h (i := l.length - 1) (by omega)
        rw [g] at this
        exact this
      · have ez : ixAt l z = l.length := ixAt_eq (Nat.le_refl _) (fun j hj => by
          rcases Nat.lt_or_ge j (l.length - 1) with g2 | g2
          · have := h.lt g2 (by omega)
            omega
          · obtain rfl : j = l.length - 1 := by omega
            omega) fun h => by omega
        unfold valLo valHi
        rw [if_neg (by omega), if_pos ez, if_neg (by omega), if_pos ez]
        rw [show ((l.length - 1 : Nat) : Int) = (l.length : Int) - 1 by omega]
        exact ⟨rfl, rfl⟩
  obtain ⟨i, hi⟩ : ∃ i, ixAt l x = i + 1 := ⟨ixAt l x - 1, by omega⟩
  have hl : i + 1 < l.length := by omega
  have ez : ((i + 1 : Nat) : Int) - 1 = (i : Int) := by omega
  have hax := ixAt_before (l := l) (x := x) (i := i) (by omega)
  have hxb := ixAt_there (l := l) (x := x) (by omega)
  rw [hi] at hxb
  have hab := h.up i hl
  refine ⟨⟨kn l i, kn l (i + 1 : Nat), hab, some (kn l i).At, some (kn l (i + 1 : Nat)).At, fun u h => ?_, fun u h => ?_, fun h => (by cases h), fun h => (by cases h), .inl (fun h => (by cases h)), fun z h1 h2 => ?_⟩⟩
  · cases h
    exact ⟨by omega, i, by omega, rfl⟩
  · cases h
    exact ⟨hxb, i + 1, hl, rfl⟩
  · have h1 := h1 _ rfl
    have h2 := h2 _ rfl
    by_cases g : (kn l i).At = z
    · have k := val_knot h (i := i) (by omega)
      have pl := pc_left (a := kn l i) (b := kn l (i + 1 : Nat))
      rw [g] at k pl
      omega
    · have e : ixAt l z = i + 1 := ixAt_eq (by omega) (fun j hj => by
        rcases Nat.lt_or_ge j i with g2 | g2
        · have := h.lt g2 (by omega)
          omega
        · obtain rfl : j = i := by omega
          omega) fun _ => h2
      have := val_mid e (by omega) hl
      rw [ez] at this
      exact this
theorem kn_mem {l : List Knot} {i : Nat} (h : i < l.length) : kn l i ∈ l := by rw [kn_get h]; exact List.getElem_mem h
theorem mem_plc {l : List Knot} {x y : Int} {k : Knot} (h : k ∈ l) (h1 : x ≤ k.At) (h2 : k.At ≤ y) : k.At ∈ plc l x y := by
  unfold plc
  exact List.mem_map.2 ⟨k, List.mem_filter.2 ⟨h, decide_eq_true ⟨h1, h2⟩⟩, rfl⟩
theorem plc_mem {l : List Knot} {x y z : Int} (h : z ∈ plc l x y) : ∃ k ∈ l, (x ≤ k.At ∧ k.At ≤ y) ∧ k.At = z := by
  unfold plc at h
  obtain ⟨k, h1, h2⟩ := List.mem_map.1 h
  obtain ⟨h3, h4⟩ := List.mem_filter.1 h1
  exact ⟨k, h3, of_decide_eq_true h4, h2⟩
theorem fdm_ge {a b : List Knot} : ∀ (L : List Int) (n : Int), n ≤ fdm a b n L ∧ ∀ z ∈ L, op a b z ≤ fdm a b n L
  | [], n => ⟨Int.le_refl _, fun z h => by cases h⟩
  | y :: L, n => by
    rw [fdm_cons]
    obtain ⟨h1, h2⟩ := fdm_ge (a := a) (b := b) L (mx n (op a b y))
    have m : n ≤ mx n (op a b y) ∧ op a b y ≤ mx n (op a b y) := by unfold mx; split <;> omega
    refine ⟨by omega, fun z hz => ?_⟩
    cases hz with
    | head => omega
    | tail _ hz => exact h2 z hz
theorem fdm_le {a b : List Knot} {m : Int} : ∀ (L : List Int) (n : Int), n ≤ m → (∀ z ∈ L, op a b z ≤ m) → fdm a b n L ≤ m
  | [], n, h, _ => h
  | y :: L, n, h, hl => by
    rw [fdm_cons]
    have := hl y (List.mem_cons_self ..)
    exact fdm_le L _ (by unfold mx; split <;> omega) fun z hz => hl z (List.mem_cons_of_mem _ hz)
theorem two_le {P Q P' Q' w w' c f c' f' : Int} (hw : 0 < w) (hw' : 0 < w') (h1 : c * w < P + w) (h2 : Q - w' < f * w') (h3 : P' ≤ c' * w) (h4 : f' * w' ≤ Q') (hd : P * w' - Q * w ≤ P' * w' - Q' * w) : c - f ≤ c' - f' + 1 := by
  by_cases g : c - f ≤ c' - f' + 1
  · exact g
  · have k1 := Int.mul_lt_mul_of_pos_right h1 hw'
    have k2 := Int.mul_lt_mul_of_pos_right h2 hw
    have k3 := Int.mul_le_mul_of_nonneg_right h3 (Int.le_of_lt hw')
    have k4 := Int.mul_le_mul_of_nonneg_right h4 (Int.le_of_lt hw)
    have k5 := Int.mul_le_mul_of_nonneg_right (show c' - f' + 2 ≤ c - f by omega) (Int.le_of_lt (Int.mul_pos hw hw'))
    have e1 : (c - f) * (w * w') = c * w * w' - f * w' * w := by grind
    have e2 : (c' - f' + 2) * (w * w') = c' * w * w' - f' * w' * w + 2 * (w * w') := by grind
    have e3 : (P + w) * w' = P * w' + w * w' := by grind
    have e4 : (Q - w') * w = Q * w - w * w' := by grind
    omega
theorem op_pc {p q r s : Knot} {t u : Int} (h1 : p.At < q.At) (h2 : r.At < s.At) (hd : pn p q t * (s.At - r.At) - pn r s t * (q.At - p.At) ≤ pn p q u * (s.At - r.At) - pn r s u * (q.At - p.At)) : pcHi p q t - pcLo r s t ≤ pcHi p q u - pcLo r s u + 1 := by
  rw [(pn_lo h1).2, (pn_lo h1).2, (pn_lo h2).1, (pn_lo h2).1]
  have hw : 0 < q.At - p.At := by omega
  have hw' : 0 < s.At - r.At := by omega
  refine two_le hw hw' ?_ ?_ ?_ ?_ hd
  · have := Int.lt_ediv_add_one_mul_self (-pn p q t) hw
    rw [Int.add_mul, Int.one_mul] at this
    rw [Int.neg_mul]
    omega
  · have := Int.lt_ediv_add_one_mul_self (pn r s t) hw'
    rw [Int.add_mul, Int.one_mul] at this
    omega
  · have := Int.ediv_mul_le (-pn p q u) (show q.At - p.At ≠ 0 by omega)
    rw [Int.neg_mul]
    omega
  · exact Int.ediv_mul_le (pn r s u) (show s.At - r.At ≠ 0 by omega)
theorem left {l : List Knot} {lo : Option Int} {x t : Int} (hx : x ≤ t) (h : ∀ u, lo = some u → u ≤ t ∧ ∃ i : Nat, i < l.length ∧ (kn l i).At = u) : ∃ p, (x ≤ p ∧ p ≤ t) ∧ (∀ u, lo = some u → u ≤ p) ∧ (p = x ∨ ∃ k ∈ l, k.At = p) := by
  cases lo with
  | none => exact ⟨x, ⟨Int.le_refl _, hx⟩, (fun u e => by cases e), .inl rfl⟩
  | some v =>
    obtain ⟨h1, i, hi, h2⟩ := h v rfl
    by_cases g : x ≤ v
    · exact ⟨v, ⟨g, h1⟩, (fun u e => by cases e; exact Int.le_refl _), .inr ⟨_, kn_mem hi, h2⟩⟩
    · exact ⟨x, ⟨Int.le_refl _, hx⟩, (fun u e => by cases e; omega), .inl rfl⟩
theorem rght {l : List Knot} {hi : Option Int} {t y : Int} (hy : t ≤ y) (h : ∀ u, hi = some u → t ≤ u ∧ ∃ i : Nat, i < l.length ∧ (kn l i).At = u) : ∃ p, (t ≤ p ∧ p ≤ y) ∧ (∀ u, hi = some u → p ≤ u) ∧ (p = y ∨ ∃ k ∈ l, k.At = p) := by
  cases hi with
  | none => exact ⟨y, ⟨hy, Int.le_refl _⟩, (fun u e => by cases e), .inl rfl⟩
  | some v =>
    obtain ⟨h1, i, hi, h2⟩ := h v rfl
    by_cases g : v ≤ y
    · exact ⟨v, ⟨h1, g⟩, (fun u e => by cases e; exact Int.le_refl _), .inr ⟨_, kn_mem hi, h2⟩⟩
    · exact ⟨y, ⟨hy, Int.le_refl _⟩, (fun u e => by cases e; omega), .inl rfl⟩
theorem op_in {a b : List Knot} {aa av ba bv : Int} (ga : Good a aa av) (gb : Good b ba bv) (ra : isR a) (rb : isR b) {x t y : Int} (hx : x ≤ t) (hy : t ≤ y) : ∃ p, (p = x ∨ p = y ∨ p ∈ plcs [⟨a⟩, ⟨b⟩] x y) ∧ op a b t ≤ op a b p + 1 := by
  obtain ⟨A⟩ := piece ga t
  obtain ⟨B⟩ := piece gb t
  obtain ⟨u1, u2, u3, u4⟩ := left hx A.lo_ok
  obtain ⟨v1, v2, v3, v4⟩ := left hx B.lo_ok
  obtain ⟨y1, y2, y3, y4⟩ := rght hy A.hi_ok
  obtain ⟨z1, z2, z3, z4⟩ := rght hy B.hi_ok
  have pa : ∀ {k : Knot}, k ∈ a → x ≤ k.At → k.At ≤ y → k.At ∈ plcs [⟨a⟩, ⟨b⟩] x y := fun h h1 h2 => List.mem_append_left _ (mem_plc h h1 h2)
  have pb : ∀ {k : Knot}, k ∈ b → x ≤ k.At → k.At ≤ y → k.At ∈ plcs [⟨a⟩, ⟨b⟩] x y := fun h h1 h2 => List.mem_append_right _ (List.mem_append_left _ (mem_plc h h1 h2))
  have opv : ∀ z, op a b z = valHi a z - valLo b z := fun z => by
    unfold op atHi atLo
    rw [if_pos ra, if_pos rb]
  obtain ⟨l, l1, l2, l3, l4⟩ : ∃ l, (x ≤ l ∧ l ≤ t) ∧ u1 ≤ l ∧ v1 ≤ l ∧ (l = x ∨ l = y ∨ l ∈ plcs [⟨a⟩, ⟨b⟩] x y) := by
    rcases Int.le_total u1 v1 with g | g
    · refine ⟨v1, v2, g, Int.le_refl _, ?_⟩
      rcases v4 with h | ⟨k, hk, rfl⟩
      · exact .inl h
      · exact .inr (.inr (pb hk v2.1 (by omega)))
    · refine ⟨u1, u2, Int.le_refl _, g, ?_⟩
      rcases u4 with h | ⟨k, hk, rfl⟩
      · exact .inl h
      · exact .inr (.inr (pa hk u2.1 (by omega)))
  obtain ⟨r, r1, r2, r3, r4⟩ : ∃ r, (t ≤ r ∧ r ≤ y) ∧ r ≤ y1 ∧ r ≤ z1 ∧ (r = x ∨ r = y ∨ r ∈ plcs [⟨a⟩, ⟨b⟩] x y) := by
    rcases Int.le_total y1 z1 with g | g
    · refine ⟨y1, y2, Int.le_refl _, g, ?_⟩
      rcases y4 with h | ⟨k, hk, rfl⟩
      · exact .inr (.inl h)
      · exact .inr (.inr (pa hk (by omega) y2.2))
    · refine ⟨z1, z2, g, Int.le_refl _, ?_⟩
      rcases z4 with h | ⟨k, hk, rfl⟩
      · exact .inr (.inl h)
      · exact .inr (.inr (pb hk (by omega) z2.2))
  have va : ∀ z, l ≤ z → z ≤ r → valHi a z = pcHi A.p A.q z := fun z h1 h2 => (A.val z (fun u e => by have := u3 u e; omega) fun u e => by have := y3 u e; omega).2
  have vb : ∀ z, l ≤ z → z ≤ r → valLo b z = pcLo B.p B.q z := fun z h1 h2 => (B.val z (fun u e => by have := v3 u e; omega) fun u e => by have := z3 u e; omega).1
  have lin : ∀ z z', (pn A.p A.q z' * (B.q.At - B.p.At) - pn B.p B.q z' * (A.q.At - A.p.At)) - (pn A.p A.q z * (B.q.At - B.p.At) - pn B.p B.q z * (A.q.At - A.p.At)) = ((A.q.V - A.p.V) * (B.q.At - B.p.At) - (B.q.V - B.p.V) * (A.q.At - A.p.At)) * (z' - z) := by
    intro z z'
    unfold pn
    grind
  rcases Int.le_total 0 ((A.q.V - A.p.V) * (B.q.At - B.p.At) - (B.q.V - B.p.V) * (A.q.At - A.p.At)) with m | m
  · refine ⟨r, r4, ?_⟩
    rw [opv, opv, va t l1.2 r1.1, vb t l1.2 r1.1, va r (by omega) (Int.le_refl _), vb r (by omega) (Int.le_refl _)]
    refine op_pc A.w B.w ?_
    have := Int.mul_nonneg m (show 0 ≤ r - t by omega)
    have := lin t r
    omega
  · refine ⟨l, l4, ?_⟩
    rw [opv, opv, va t l1.2 r1.1, vb t l1.2 r1.1, va l (Int.le_refl _) (by omega), vb l (Int.le_refl _) (by omega)]
    refine op_pc A.w B.w ?_
    have := Int.mul_nonpos_of_nonpos_of_nonneg m (show 0 ≤ t - l by omega)
    have := lin l t
    omega
theorem plcs_sub {a b : List Knot} {x t y z : Int} (h : t ≤ y) (hz : z ∈ plcs [⟨a⟩, ⟨b⟩] x t) : z ∈ plcs [⟨a⟩, ⟨b⟩] x y := by
  rcases List.mem_append.1 hz with hz | hz
  · obtain ⟨k, hk, h1, rfl⟩ := plc_mem hz
    exact List.mem_append_left _ (mem_plc hk h1.1 (by omega))
  · rcases List.mem_append.1 hz with hz | hz
    · obtain ⟨k, hk, h1, rfl⟩ := plc_mem hz
      exact List.mem_append_right _ (List.mem_append_left _ (mem_plc hk h1.1 (by omega)))
    · cases hz
theorem grt_ge {a b : List Knot} {x y : Int} : op a b x ≤ grt a b x y [⟨a⟩, ⟨b⟩] ∧ op a b y ≤ grt a b x y [⟨a⟩, ⟨b⟩] ∧ ∀ z ∈ plcs [⟨a⟩, ⟨b⟩] x y, op a b z ≤ grt a b x y [⟨a⟩, ⟨b⟩] := by
  obtain ⟨h1, h2⟩ := fdm_ge (a := a) (b := b) (plcs [⟨a⟩, ⟨b⟩] x y) (mx (op a b x) (op a b y))
  have m : op a b x ≤ mx (op a b x) (op a b y) ∧ op a b y ≤ mx (op a b x) (op a b y) := by unfold mx; split <;> omega
  unfold grt
  exact ⟨by omega, by omega, h2⟩
/-- The load of a greater part is less by 1 at most. -/
theorem exc_more {a b : List Knot} {x t y : Int} (h0 : 0 ≤ x) (hx : x ≤ t) (hy : t ≤ y) (h1 : y ≤ 1048576) : exc a b x t - 1 ≤ exc a b x y := by
  by_cases k : lineErr a 1048576 68719476736 = 0 ∧ lineErr b 1048576 68719476736 = 0
  · have e1 : exc a b x t = grt a b x t [⟨a⟩, ⟨b⟩] := if_pos ⟨k, h0, hx, by omega⟩
    have e2 : exc a b x y = grt a b x y [⟨a⟩, ⟨b⟩] := if_pos ⟨k, h0, by omega, h1⟩
    rw [e1, e2]
    obtain ⟨g1, g2, g3⟩ := grt_ge (a := a) (b := b) (x := x) (y := y)
    obtain ⟨p, hp, hpo⟩ := op_in (lineErr_good k.1).1 (lineErr_good k.2).1 (.inl k.1) (.inl k.2) hx hy
    have ht : op a b t ≤ grt a b x y [⟨a⟩, ⟨b⟩] + 1 := by
      rcases hp with rfl | rfl | hp
      · omega
      · omega
      · have := g3 p hp; omega
    have : grt a b x t [⟨a⟩, ⟨b⟩] ≤ grt a b x y [⟨a⟩, ⟨b⟩] + 1 := by
      show fdm a b _ _ ≤ _
      refine fdm_le _ _ (by unfold mx; split <;> omega) fun z hz => ?_
      have := g3 z (plcs_sub hy hz)
      omega
    omega
  · have e1 : exc a b x t = 0 := if_neg fun q => k q.1
    have e2 : exc a b x y = 0 := if_neg fun q => k q.1
    omega
theorem exc_sum {a b : List Knot} {x y : Int} : 0 ≤ exc a b x y + exc b a x y := by
  by_cases k : askd a b x y
  · have e1 : exc a b x y = grt a b x y [⟨a⟩, ⟨b⟩] := if_pos k
    have e2 : exc b a x y = grt b a x y [⟨b⟩, ⟨a⟩] := if_pos ⟨⟨k.1.2, k.1.1⟩, k.2⟩
    rw [e1, e2]
    have g1 := (grt_ge (a := a) (b := b) (x := x) (y := y)).1
    have g2 := (grt_ge (a := b) (b := a) (x := x) (y := y)).1
    have va := val_bd (lineErr_good k.1.1).1 x
    have vb := val_bd (lineErr_good k.1.2).1 x
    have o1 : op a b x = valHi a x - valLo b x := by unfold op atHi atLo; rw [if_pos (.inl k.1.1), if_pos (.inl k.1.2)]
    have o2 : op b a x = valHi b x - valLo a x := by unfold op atHi atLo; rw [if_pos (.inl k.1.2), if_pos (.inl k.1.1)]
    omega
  · have e1 : exc a b x y = 0 := if_neg k
    have e2 : exc b a x y = 0 := if_neg fun q => k ⟨⟨q.1.2, q.1.1⟩, q.2⟩
    omega
theorem exc_bd {a b : List Knot} {x y : Int} : -68719476736 ≤ exc a b x y ∧ exc a b x y ≤ 68719476736 := by
  have ob : ∀ z, -68719476736 ≤ op a b z ∧ op a b z ≤ 68719476736 := fun z => by
    have := at_bd a z
    have := at_bd b z
    unfold op
    omega
  unfold exc
  split
  · have g1 := (grt_ge (a := a) (b := b) (x := x) (y := y)).1
    have := ob x
    refine ⟨by omega, ?_⟩
    show fdm a b _ _ ≤ _
    exact fdm_le _ _ (by have := ob x; have := ob y; unfold mx; split <;> omega) fun z _ => (ob z).2
  · omega
end Go.Proofs.Ytcddppakogialaa.W
