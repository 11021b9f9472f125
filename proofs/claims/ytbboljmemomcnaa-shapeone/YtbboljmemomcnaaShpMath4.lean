/- Shapes: the children of all nodes, one after another, are all items but the root (mathematics). -/
import Derived.Test.YtbboljmemomcnaaShpMath3
namespace Go.Proofs.Ytbboljmemomcnaa
namespace Sha
open Go.RowKit
theorem lev_node (p q : Nat) (h : p ≤ q) : 1 ≤ lev p q := by
  unfold lev
  rw [if_neg (by omega)]
  split
  · omega
  · split <;> omega
theorem fst_first (p : Nat) (h0 : 1 ≤ p) (h1 : p ≤ 216) : fst p p = 0 := by
  have hb := itn_big p h0 h1
  have h := lev_at p 1 0 (by omega) (by have := (lv_of p h0 h1).nums; show 0 < cnt p; omega)
  rw [Nat.add_zero] at h
  have h' : lev p p = 1 := h
  unfold fst
  rw [h']
  show stn p 0 + 6 * (p - p) = 0
  rw [Nat.sub_self]; rfl
theorem fst_next (p q : Nat) (h0 : 1 ≤ p) (h1 : p ≤ 216) (hq : p ≤ q) (hqt : q < itn p) : fst p q + many p q = if q + 1 < itn p then fst p (q + 1) else itn p - 1 := by
  have h4 := itn_le p
  have l1 := lev_node p q hq
  have l3 := lev_le p q
  have lo := lev_lo p q
  have hi := lev_hi p q (by omega)
  have r := root_one p h0 h1
  have t := top_le p
  obtain ⟨l, hl⟩ : ∃ l, lev p q = l + 1 := ⟨lev p q - 1, by omega⟩
  rw [hl] at lo hi l3
  have s0 := stn_lvn p l (by omega)
  have s1 := stn_lvn p (l + 1) (by omega)
  have c := lvn_cnt p l (by omega)
  have cl := cnt_le (lvn p l)
  have e1 : fst p q = stn p l + 6 * (q - stn p (l + 1)) := by unfold fst; rw [hl, Nat.add_sub_cancel]
  have e2 : many p q = min 6 (stn p (l + 1) - fst p q) := by unfold many; rw [hl]
  by_cases hn : q + 1 < stn p (l + 1 + 1)
  · have ht : q + 1 < itn p := by
      rcases Nat.lt_or_ge (q + 1) (itn p) with h | h
      · exact h
      · have : q + 1 = itn p := by omega
        have h5 := (lev_top p q h0 h1)
        have h6 : ¬ lev p q < topn p := fun h7 => by have := h5.mpr ⟨hqt, h7⟩; omega
        have h8 := stn_mono p (topn p + 1) (l + 1 + 1) (by omega) (by omega)
        have s2 : stn p (topn p + 1) = itn p := rfl
        have h9 : topn p = l + 1 ∨ topn p < l + 1 := by omega
        rcases h9 with h9 | h9
        · rw [h9] at s2; omega
        · have h10 := stn_mono p (topn p + 1) (l + 1) (by omega) (by omega)
          omega
    have e3 : lev p (q + 1) = l + 1 := lev_eq p (q + 1) (l + 1) (by omega) (by omega) hn
    have e4 : fst p (q + 1) = stn p l + 6 * (q + 1 - stn p (l + 1)) := by unfold fst; rw [e3, Nat.add_sub_cancel]
    rw [if_pos ht, e4, e2, e1]
    omega
  · have hq1 : q + 1 = stn p (l + 1 + 1) := by omega
    have e5 : fst p q + many p q = stn p (l + 1) := by rw [e2, e1]; omega
    rw [e5]
    by_cases ht : q + 1 < itn p
    · rw [if_pos ht]
      have hlt := ((lev_top p q h0 h1).mp ht).2
      have hl2 : l + 2 ≤ topn p := by omega
      have m := stn_mono p (l + 3) (topn p + 1) (by omega) (by omega)
      have s2 := stn_lvn p (l + 2) (by omega)
      have c2 := lvn_cnt p (l + 1) (by omega)
      have cl2 := cnt_le (lvn p (l + 1))
      have z1 : stn p (l + 1 + 1) = stn p (l + 2) := rfl
      have z2 : stn p (l + 2 + 1) = stn p (l + 3) := rfl
      have z3 : lvn p (l + 1 + 1) = lvn p (l + 2) := rfl
      have nn := (lv_of p h0 h1).nums
      have z5 : 1 ≤ lvn p (l + 1) := by
        match l, hl2 with
        | 0, _ => show 1 ≤ cnt p; omega
        | 1, _ => show 1 ≤ cnt (cnt p); omega
        | n + 2, h => omega
      have z4 : 0 < lvn p (l + 2) := by omega
      have e3 : lev p (q + 1) = l + 2 := lev_eq p (q + 1) (l + 2) (by omega) (by omega) (by omega)
      have e4 : fst p (q + 1) = stn p (l + 1) + 6 * (q + 1 - stn p (l + 2)) := by unfold fst; rw [e3]; rfl
      rw [e4]; omega
    · rw [if_neg ht]
      have h6 : ¬ lev p q < topn p := fun h7 => ht ((lev_top p q h0 h1).mpr ⟨hqt, h7⟩)
      have s2 : stn p (topn p + 1) = itn p := rfl
      have h9 : topn p = l + 1 ∨ topn p < l + 1 := by omega
      rcases h9 with h9 | h9
      · rw [h9] at r; omega
      · have h10 := stn_mono p (topn p + 1) (l + 1) (by omega) (by omega)
        omega
end Sha
end Go.Proofs.Ytbboljmemomcnaa
