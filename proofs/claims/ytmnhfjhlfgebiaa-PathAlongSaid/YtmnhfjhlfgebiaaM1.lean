/- The place at a depth of a path, as both walk to it. No condition. -/
import Derived.Test.YtmnhfjhlfgebiaaJ
set_option linter.unusedVariables false
set_option maxRecDepth 100000
set_option maxHeartbeats 4000000
noncomputable section
namespace Go.Proofs.Ytmnhfjhlfgebiaa.W
open Go Go.Cx Go.RowKit
/-- The place so far along a leg from a joint. -/
noncomputable def ptS (s : Stp) (v : Vec) (t : Int) : Vec := ⟨wr (s.x + wr (v.X * t) / ln v.X v.Y v.Z), wr (s.y + wr (v.Y * t) / ln v.X v.Y v.Z), wr (s.z + wr (v.Z * t) / ln v.X v.Y v.Z)⟩
noncomputable def nx2 (s : Stp) (v : Vec) : Stp := ⟨s.d + ln v.X v.Y v.Z, wr (s.x + v.X), wr (s.y + v.Y), wr (s.z + v.Z)⟩
noncomputable def atq : List Vec → Stp → Int → Vec → Vec
  | [], _, _, q => q
  | v :: r, s, dd, q => if s.d > dd then q else atq r (nxS s v) dd (ptS s v (dd - s.d))
noncomputable def brk : List Vec → Stp → Int → Bool
  | [], _, _ => false
  | v :: r, s, dd => if s.d > dd then true else brk r (nxS s v) dd
noncomputable def mn3 (a b : Int) : Int := if b < a then b else a
noncomputable def ratq : List Vec → List Vec → Int → Int → Vec → Vec
  | v :: r, j :: js, st, dd, q => ratq r js (st + ln v.X v.Y v.Z) dd (if dd ≥ st then ptS ⟨st, j.X, j.Y, j.Z⟩ v (mn3 (dd - st) (ln v.X v.Y v.Z)) else q)
  | _, _, _, _, q => q
theorem ln_pos {v : Vec} (h : lgP v.X v.Y v.Z) : 1 ≤ ln v.X v.Y v.Z ∧ ln v.X v.Y v.Z ≤ 131072 := ⟨h.2.2.1, h.2.2.2⟩
theorem nxS_nx2 {s : Stp} {v : Vec} (h : lgP v.X v.Y v.Z) (hd : 0 ≤ s.d ∧ s.d ≤ 1099511627776) : nxS s v = nx2 s v := by
  have p := ln_pos h
  unfold nxS nx2
  rw [szN_ln h, show wr (s.d + ln v.X v.Y v.Z) = s.d + ln v.X v.Y v.Z from i64_in' (by omega) (by omega)]
theorem jn_cons {v : Vec} {r : List Vec} {s : Stp} : jn (v :: r) s = pl s :: jn r (nxS s v) := rfl
theorem at_same : ∀ (l : List Vec) (s : Stp) (dd : Int) (q q' : Vec), (∀ v ∈ l, lgP v.X v.Y v.Z) → (0 ≤ s.d ∧ s.d + 131072 * l.length ≤ 1099511627776) → dd ≤ (en l s).d → (s.d ≤ dd ∧ l ≠ [] ∨ q = q') → ratq l (jn l s) s.d dd q = atq l s dd q'
  | [], s, dd, q, q', _, _, _, h => by
    rcases h with ⟨_, h⟩ | h
    · exact absurd rfl h
    · exact h
  | v :: r, s, dd, q, q', hv, hb, hd, h => by
    have hp := hv v (List.mem_cons_self ..)
    have p := ln_pos hp
    have len : ((v :: r).length : Int) = r.length + 1 := by simp
    have e := nxS_nx2 (s := s) hp ⟨hb.1, by omega⟩
    have hr : ∀ u ∈ r, lgP u.X u.Y u.Z := fun u hu => hv u (List.mem_cons_of_mem _ hu)
    have hd' : dd ≤ (en r (nxS s v)).d := hd
    have ih := fun a b => at_same r (nxS s v) dd a b hr (by rw [e]; show 0 ≤ s.d + ln v.X v.Y v.Z ∧ s.d + ln v.X v.Y v.Z + _ ≤ _; omega) hd'
    have ed : (nxS s v).d = s.d + ln v.X v.Y v.Z := by rw [e]; rfl
    rw [jn_cons]
    show ratq r (jn r (nxS s v)) (s.d + ln v.X v.Y v.Z) dd (if dd ≥ s.d then ptS ⟨s.d, (pl s).X, (pl s).Y, (pl s).Z⟩ v (mn3 (dd - s.d) (ln v.X v.Y v.Z)) else q) = if s.d > dd then q' else atq r (nxS s v) dd (ptS s v (dd - s.d))
    rw [ed] at ih
    by_cases g : s.d > dd
    · rw [if_neg (by omega), if_pos g]
      have hq : q = q' := by
        rcases h with h | h
        · omega
        · exact h
      subst hq
      rw [ih q q (.inr rfl)]
      cases r with
      | nil => rfl
      | cons u t =>
        show (if (nxS s v).d > dd then q else _) = q
        rw [if_pos (by rw [ed]; omega)]
    · rw [if_pos (by omega), if_neg g]
      refine ih _ _ ?_
      by_cases g2 : s.d + ln v.X v.Y v.Z ≤ dd ∧ r ≠ []
      · exact .inl g2
      · right
        have hm : mn3 (dd - s.d) (ln v.X v.Y v.Z) = dd - s.d := by
          have : dd - s.d ≤ ln v.X v.Y v.Z := by
            by_cases g3 : s.d + ln v.X v.Y v.Z ≤ dd
            · have : r = [] := Classical.byContradiction fun k => g2 ⟨g3, k⟩
              subst this
              have : (en [] (nxS s v)).d = s.d + ln v.X v.Y v.Z := ed
              rw [this] at hd'
              omega
            · omega
          unfold mn3
          split <;> omega
        rw [hm]
        rfl
end Go.Proofs.Ytmnhfjhlfgebiaa.W
