/- Shapes: what ShapeOne meets at each item (mathematics). -/
import Derived.Test.YtbboljmemomcnaaShpMath4
import Derived.Test.YtbboljmemomcnaaShpC
namespace Go.Proofs.Ytbboljmemomcnaa
namespace Sha
open Go.RowKit
/-- How many items were met ahead of an item's children. -/
def vis (p i : Nat) : Nat := if i < p then 0 else if i < itn p then fst p i else itn p - 1
/-- The children of an item, as they are met. -/
structure Met (p i m : Nat) (K : List Int) : Prop where
  len : K.length = m
  le : m ≤ 6
  next : vis p (i + 1) = vis p i + m
  get : ∀ k, k < m → K.getD k 0 = ((vis p i + k : Nat) : Int)
  lt : ∀ k, k < m → vis p i + k < itn p
  par : ∀ k, k < m → PZ p ((vis p i + k : Nat) : Int) = ((i : Int), (k : Int), true)
  lev : ∀ k, k < m → lvlP p (i : Int) - 1 = lvlP p ((vis p i + k : Nat) : Int)
theorem lvl_nat (p i : Nat) (h : i < itn p) : lvlP p (i : Int) = ((lev p i : Nat) : Int) := by unfold lvlP; rw [if_pos ⟨by omega, by omega⟩, Int.toNat_natCast]
theorem lvl_lo (p : Nat) (z : Int) : -1 ≤ lvlP p z ∧ lvlP p z ≤ 3 := by
  have := lev_le p z.toNat
  unfold lvlP
  split <;> omega
theorem met_any (p i : Nat) (h0 : 1 ≤ p) (h1 : p ≤ 216) (hi : i < itn p) : ∃ m, Met p i m (KZ p (i : Int)) := by
  have hb := itn_big p h0 h1
  by_cases hp : p ≤ i
  · have hv : vis p i = fst p i := by unfold vis; rw [if_neg (by omega), if_pos hi]
    have hn : vis p (i + 1) = fst p i + many p i := by
      rw [fst_next p i h0 h1 hp hi]
      unfold vis
      rw [if_neg (by omega)]
    have hk : KZ p (i : Int) = kz p i (many p i) := by rw [KZ_nat p i hi, if_pos hp]
    have hc := fun k (hk : k < many p i) => (kids_cond p i k h0 h1 hp hi).2 hk
    refine ⟨many p i, ⟨by rw [hk, kz_length], many_le p i, by rw [hn, hv], fun k h => by rw [hk, hv]; exact kz_get p i _ k h, fun k h => ?_, fun k h => ?_, fun k h => ?_⟩⟩
    · have := hc k h; omega
    · rw [hv]; exact PZ_found p i k _ h0 h1 hp hi h rfl
    · have := hc k h
      rw [hv, lvl_nat p i hi, lvl_nat p (fst p i + k) (by omega)]
      omega
  · have hk : KZ p (i : Int) = [] := by rw [KZ_nat p i hi, if_neg hp]
    have hv : vis p i = 0 := by unfold vis; rw [if_pos (by omega)]
    have hn : vis p (i + 1) = 0 := by
      unfold vis
      by_cases e : i + 1 < p
      · rw [if_pos e]
      · have e2 : i + 1 = p := by omega
        rw [if_neg e, e2, if_pos hb.1]
        exact fst_first p h0 h1
    exact ⟨0, ⟨by rw [hk]; rfl, by omega, by rw [hv, hn], fun k h => by omega, fun k h => by omega, fun k h => by omega, fun k h => by omega⟩⟩
theorem vis_first (p : Nat) (h0 : 1 ≤ p) : vis p 0 = 0 := by unfold vis; rw [if_pos (by omega)]
theorem vis_last (p : Nat) (h0 : 1 ≤ p) (h1 : p ≤ 216) : vis p (itn p) = itn p - 1 := by
  have hb := itn_big p h0 h1
  unfold vis
  rw [if_neg (by omega), if_neg (by omega)]
end Sha
end Go.Proofs.Ytbboljmemomcnaa
