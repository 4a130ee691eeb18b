/- Numbers by their digits to the base of a million: products, sums, and which is greater. No condition. -/
import Derived.Test.YtnhedcaphncliaaA
import Derived.Test.YtnhedcaphncliaaCz5
import Derived.Test.YtnhedcaphncliaaCz11
set_option linter.unusedVariables false
set_option maxRecDepth 100000
set_option maxHeartbeats 4000000
noncomputable section
namespace Go.Proofs.Ytnhedcaphncliaa.W.Big
open Go Go.Cx Go.RowKit
noncomputable def bi (l : List Int) (i : Int) : Int := ixD E 2 l i
theorem drop_bI {l : List Int} {i : Int} (h0 : 0 ≤ i) (h : i < l.length) : l.drop i.toNat = bi l i :: l.drop (i + 1).toNat := by
  have := drop_ix (E := E) (τ := 2) (l := l) (i := i.toNat) (by show i.toNat < (l : List Int).length; omega)
  rw [Int.toNat_of_nonneg h0] at this
  rw [show (i + 1).toNat = i.toNat + 1 by omega]
  exact this
theorem drop_b {α : Type} {l : List α} {i : Int} (h : ¬ i < l.length) : l.drop i.toNat = [] := List.drop_eq_nil_of_le (by omega)
theorem mem_dropB {α : Type} : ∀ {l : List α} {n : Nat} {x : α}, x ∈ l.drop n → x ∈ l := fun h => List.mem_of_mem_drop h
theorem bi_mem {l : List Int} {i : Int} (h0 : 0 ≤ i) (h : i < l.length) : bi l i ∈ l := by
  have : bi l i ∈ l.drop i.toNat := by rw [drop_bI h0 h]; exact List.mem_cons_self ..
  exact mem_dropB this
/-- The digits of a number. -/
noncomputable def dg (c : Int) : List Int := if 0 < c then c % 1000000 :: dg (c / 1000000) else []
termination_by c.toNat
decreasing_by omega
theorem dg_eq (c : Int) : dg c = if 0 < c then c % 1000000 :: dg (c / 1000000) else [] := by rw [dg]
noncomputable def mulD : List Int → Int → Int → List Int
  | [], _, c => dg c
  | d :: r, f, c => (c + d * f) % 1000000 :: mulD r f ((c + d * f) / 1000000)
noncomputable def prodL : List Int → List Int → List Int
  | [], x => x
  | f :: l, x => prodL l (mulD x f 0)
noncomputable def carD : List Int → Int → List Int
  | [], c => dg c
  | e :: s, c => (c + e) % 1000000 :: carD s ((c + e) / 1000000)
noncomputable def addD : List Int → List Int → Int → List Int
  | [], y, c => carD y c
  | d :: r, [], c => (c + d) % 1000000 :: addD r [] ((c + d) / 1000000)
  | d :: r, e :: s, c => (c + d + e) % 1000000 :: addD r s ((c + d + e) / 1000000)
@[reducible] def Dg (l : List Int) : Prop := ∀ d ∈ l, 0 ≤ d ∧ d < 1000000
@[reducible] def okF (l : List Int) : Prop := ∀ f ∈ l, 0 ≤ f ∧ f ≤ 1099511627776
noncomputable def val : List Int → Int
  | [] => 0
  | d :: r => d + 1000000 * val r
theorem dg_ok : ∀ (n : Nat) (c : Int), c.toNat ≤ n → 0 ≤ c → Dg (dg c) ∧ val (dg c) = c
  | 0, c, h, h0 => by
    rw [dg_eq, if_neg (by omega)]
    exact ⟨fun d h => (by cases h), by show (0 : Int) = c; omega⟩
  | n + 1, c, h, h0 => by
    rw [dg_eq]
    split
    · obtain ⟨a, b⟩ := dg_ok n (c / 1000000) (by omega) (by omega)
      refine ⟨fun d hd => ?_, ?_⟩
      · cases hd with
        | head => omega
        | tail _ hd => exact a d hd
      · show c % 1000000 + 1000000 * val (dg (c / 1000000)) = c
        rw [b]
        omega
    · exact ⟨fun d h => (by cases h), by show (0 : Int) = c; omega⟩
theorem dg_len1 {c b : Int} {n : Nat} (h : c < 1000000 * b) (ih : ∀ c : Int, c < b → (dg c).length ≤ n) : (dg c).length ≤ n + 1 := by
  rw [dg_eq]
  split
  · have := ih (c / 1000000) (by omega)
    simp only [List.length_cons]
    omega
  · simp
theorem dg_len {c : Int} (h : c < 1000000000000000000000000) : (dg c).length ≤ 4 :=
  dg_len1 (b := 1000000000000000000) h fun c h => dg_len1 (b := 1000000000000) h fun c h => dg_len1 (b := 1000000) h fun c h => dg_len1 (b := 1) h fun c h => by rw [dg_eq, if_neg (by omega)]; exact Nat.le_refl _
theorem mul_bd {d f c : Int} (hd : 0 ≤ d ∧ d < 1000000) (hf : 0 ≤ f ∧ f ≤ 1099511627776) (hc : 0 ≤ c ∧ c ≤ 2199023255552) : (0 ≤ d * f ∧ d * f ≤ 1099511627776000000) ∧ 0 ≤ (c + d * f) / 1000000 ∧ (c + d * f) / 1000000 ≤ 2199023255552 := by
  have := mulb hd.1 (show d ≤ 1000000 by omega) hf.1 hf.2
  omega
theorem mulD_ok : ∀ {x : List Int} {f c : Int}, Dg x → 0 ≤ f ∧ f ≤ 1099511627776 → 0 ≤ c ∧ c ≤ 2199023255552 → Dg (mulD x f c) ∧ val (mulD x f c) = val x * f + c ∧ (mulD x f c).length ≤ x.length + 4
  | [], f, c, _, hf, hc => by
    obtain ⟨a, b⟩ := dg_ok _ c (Nat.le_refl _) hc.1
    have := dg_len (c := c) (by omega)
    refine ⟨a, ?_, by show (dg c).length ≤ 0 + 4; omega⟩
    show val (dg c) = 0 * f + c
    rw [b]
    omega
  | d :: r, f, c, hx, hf, hc => by
    have hd := hx d (List.mem_cons_self ..)
    have b := mul_bd hd hf hc
    obtain ⟨k1, k2, k3⟩ := mulD_ok (x := r) (f := f) (c := (c + d * f) / 1000000) (fun e he => hx e (List.mem_cons_of_mem _ he)) hf b.2
    refine ⟨fun e he => ?_, ?_, ?_⟩
    · cases he with
      | head => omega
      | tail _ he => exact k1 e he
    · show (c + d * f) % 1000000 + 1000000 * val (mulD r f ((c + d * f) / 1000000)) = (d + 1000000 * val r) * f + c
      rw [k2]
      have := Int.mul_ediv_add_emod (c + d * f) 1000000
      grind
    · show (mulD r f ((c + d * f) / 1000000)).length + 1 ≤ r.length + 1 + 4
      omega
theorem prodL_ok : ∀ {l x : List Int}, okF l → Dg x → Dg (prodL l x) ∧ (prodL l x).length ≤ x.length + 4 * l.length
  | [], x, _, hx => ⟨hx, by show x.length ≤ _; omega⟩
  | f :: l, x, hl, hx => by
    obtain ⟨a, b, c⟩ := mulD_ok (c := 0) hx (hl f (List.mem_cons_self ..)) (by decide)
    obtain ⟨d, e⟩ := prodL_ok (l := l) (fun g hg => hl g (List.mem_cons_of_mem _ hg)) a
    refine ⟨d, ?_⟩
    show (prodL l (mulD x f 0)).length ≤ x.length + 4 * (l.length + 1)
    omega
noncomputable def pr : List Int → Int
  | [] => 1
  | f :: l => f * pr l
theorem prodL_val : ∀ {l x : List Int}, okF l → Dg x → val (prodL l x) = val x * pr l
  | [], x, _, hx => by show val x = val x * 1; omega
  | f :: l, x, hl, hx => by
    obtain ⟨a, b, c⟩ := mulD_ok (c := 0) hx (hl f (List.mem_cons_self ..)) (by decide)
    show val (prodL l (mulD x f 0)) = val x * (f * pr l)
    rw [prodL_val (fun g hg => hl g (List.mem_cons_of_mem _ hg)) a, b, Int.add_zero, Int.mul_assoc]
theorem addD_ok : ∀ {x y : List Int} {c : Int}, Dg x → Dg y → 0 ≤ c ∧ c ≤ 2 → Dg (addD x y c) ∧ val (addD x y c) = val x + val y + c ∧ (addD x y c).length ≤ x.length + y.length + 1
  | [], [], c, _, _, hc => by
    obtain ⟨a, b⟩ := dg_ok _ c (Nat.le_refl _) hc.1
    have := dg_len1 (c := c) (b := 1) (n := 0) (by omega) fun c h => by rw [dg_eq, if_neg (by omega)]; exact Nat.le_refl _
    refine ⟨a, ?_, by show (dg c).length ≤ 1; omega⟩
    show val (dg c) = 0 + 0 + c
    rw [b]
    omega
  | d :: r, [], c, hx, hy, hc => by
    have hd := hx d (List.mem_cons_self ..)
    obtain ⟨k1, k2, k3⟩ := addD_ok (x := r) (y := []) (c := (c + d) / 1000000) (fun e he => hx e (List.mem_cons_of_mem _ he)) hy (by omega)
    refine ⟨fun e he => ?_, ?_, ?_⟩
    · cases he with
      | head => omega
      | tail _ he => exact k1 e he
    · show (c + d) % 1000000 + 1000000 * val (addD r [] ((c + d) / 1000000)) = d + 1000000 * val r + 0 + c
      rw [k2]
      show _ + 1000000 * (val r + 0 + _) = _
      omega
    · show (addD r [] ((c + d) / 1000000)).length + 1 ≤ r.length + 1 + 0 + 1
      simp only [List.length_nil] at k3
      omega
  | [], e :: s, c, hx, hy, hc => by
    have hd := hy e (List.mem_cons_self ..)
    obtain ⟨k1, k2, k3⟩ := addD_ok (x := []) (y := s) (c := (c + e) / 1000000) hx (fun e he => hy e (List.mem_cons_of_mem _ he)) (by omega)
    refine ⟨fun e he => ?_, ?_, ?_⟩
    · cases he with
      | head => omega
      | tail _ he => exact k1 e he
    · show (c + e) % 1000000 + 1000000 * val (addD [] s ((c + e) / 1000000)) = 0 + (e + 1000000 * val s) + c
      rw [k2]
      show _ + 1000000 * (0 + val s + _) = _
      omega
    · show (addD [] s ((c + e) / 1000000)).length + 1 ≤ 0 + (s.length + 1) + 1
      simp only [List.length_nil] at k3
      omega
  | d :: r, e :: s, c, hx, hy, hc => by
    have hd := hx d (List.mem_cons_self ..)
    have he := hy e (List.mem_cons_self ..)
    obtain ⟨k1, k2, k3⟩ := addD_ok (x := r) (y := s) (c := (c + d + e) / 1000000) (fun e he => hx e (List.mem_cons_of_mem _ he)) (fun e he => hy e (List.mem_cons_of_mem _ he)) (by omega)
    refine ⟨fun e he => ?_, ?_, ?_⟩
    · cases he with
      | head => omega
      | tail _ he => exact k1 e he
    · show (c + d + e) % 1000000 + 1000000 * val (addD r s ((c + d + e) / 1000000)) = d + 1000000 * val r + (e + 1000000 * val s) + c
      rw [k2]
      omega
    · show (addD r s ((c + d + e) / 1000000)).length + 1 ≤ r.length + 1 + (s.length + 1) + 1
      omega
/-! ### which is greater -/
noncomputable def atD (l : List Int) (k : Nat) : Int := if k < l.length then bi l (k : Int) else 0
noncomputable def geN (x y : List Int) : Nat → Bool
  | 0 => true
  | n + 1 => if atD x n = atD y n then geN x y n else decide (atD x n > atD y n)
noncomputable def deN (x y : List Int) : Nat → Bool
  | 0 => false
  | n + 1 => if atD x n = atD y n then deN x y n else true
theorem ge_of_de {x y : List Int} : ∀ n : Nat, deN x y n = false → geN x y n = true
  | 0, _ => rfl
  | n + 1, h => by
    unfold deN at h
    unfold geN
    split at h
    next c => rw [if_pos c]; exact ge_of_de n h
    next c => cases h
noncomputable def vN (x : List Int) : Nat → Int
  | 0 => 0
  | n + 1 => vN x n + atD x n * 1000000 ^ n
theorem atD_bd {x : List Int} (h : Dg x) (n : Nat) : 0 ≤ atD x n ∧ atD x n < 1000000 := by
  unfold atD
  split
  · exact h _ (bi_mem (by omega) (by omega))
  · omega
theorem vN_bd {x : List Int} (h : Dg x) : ∀ n : Nat, 0 ≤ vN x n ∧ vN x n < 1000000 ^ n
  | 0 => by show (0 : Int) ≤ 0 ∧ (0 : Int) < 1000000 ^ 0; omega
  | n + 1 => by
    have ih := vN_bd h n
    have a := atD_bd h n
    have p : (0 : Int) < 1000000 ^ n := by omega
    have q1 := Int.mul_nonneg a.1 (show (0 : Int) ≤ 1000000 ^ n by omega)
    have q2 := Int.mul_le_mul_of_nonneg_right (show atD x n ≤ 999999 by omega) (show (0 : Int) ≤ 1000000 ^ n by omega)
    have e : (1000000 : Int) ^ (n + 1) = 1000000 ^ n * 1000000 := Int.pow_succ ..
    show 0 ≤ vN x n + atD x n * 1000000 ^ n ∧ vN x n + atD x n * 1000000 ^ n < 1000000 ^ (n + 1)
    rw [e]
    omega
theorem geN_ok {x y : List Int} (hx : Dg x) (hy : Dg y) : ∀ n : Nat, geN x y n = decide (vN x n ≥ vN y n)
  | 0 => rfl
  | n + 1 => by
    have ih := geN_ok hx hy n
    have bx := vN_bd hx n
    have by' := vN_bd hy n
    show (if atD x n = atD y n then geN x y n else decide (atD x n > atD y n)) = decide (vN x n + atD x n * 1000000 ^ n ≥ vN y n + atD y n * 1000000 ^ n)
    generalize (1000000 : Int) ^ n = p at *
    by_cases c : atD x n = atD y n
    · rw [if_pos c, ih, c]
      congr 1
      apply propext
      omega
    · rw [if_neg c]
      congr 1
      apply propext
      rcases Int.lt_or_lt_of_ne c with k | k
      · have := Int.mul_le_mul_of_nonneg_right (show atD x n + 1 ≤ atD y n by omega) (show 0 ≤ p by omega)
        rw [Int.add_mul, Int.one_mul] at this
        omega
      · have := Int.mul_le_mul_of_nonneg_right (show atD y n + 1 ≤ atD x n by omega) (show 0 ≤ p by omega)
        rw [Int.add_mul, Int.one_mul] at this
        omega
theorem atD_0 {d : Int} {r : List Int} : atD (d :: r) 0 = d := by
  unfold atD
  rw [if_pos (by simp)]
  rfl
theorem atD_S {d : Int} {r : List Int} {n : Nat} : atD (d :: r) (n + 1) = atD r n := by
  unfold atD
  by_cases c : n < r.length
  · rw [if_pos c, if_pos (by simpa using c)]
    show ixD E 2 (d :: r) ((n + 1 : Nat) : Int) = ixD E 2 r (n : Int)
    unfold ixD
    rw [Int.toNat_natCast, Int.toNat_natCast]
    rfl
  · rw [if_neg c, if_neg (by simpa using c)]
theorem vN_cons {d : Int} {r : List Int} : ∀ n : Nat, vN (d :: r) (n + 1) = d + 1000000 * vN r n
  | 0 => by
    show (0 : Int) + atD (d :: r) 0 * 1000000 ^ 0 = d + 1000000 * 0
    rw [atD_0]
    omega
  | n + 1 => by
    show vN (d :: r) (n + 1) + atD (d :: r) (n + 1) * 1000000 ^ (n + 1) = d + 1000000 * (vN r n + atD r n * 1000000 ^ n)
    rw [vN_cons n, atD_S, Int.pow_succ]
    grind
theorem vN_val : ∀ {x : List Int} {n : Nat}, x.length ≤ n → vN x n = val x
  | [], 0, _ => rfl
  | [], n + 1, h => by
    have : vN [] n = val [] := vN_val (by simp)
    show vN [] n + atD [] n * 1000000 ^ n = 0
    have e : atD [] n = 0 := rfl
    rw [this, e, Int.zero_mul]
    rfl
  | d :: r, 0, h => by simp at h
  | d :: r, n + 1, h => by
    rw [vN_cons, vN_val (by simpa using h)]
    rfl
end Go.Proofs.Ytnhedcaphncliaa.W.Big
