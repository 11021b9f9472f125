/- Numbers one behind the other, and what reads them: mathematics. -/
import Derived.Test.YtoefhcikfmgkbaaPackTake
namespace Go.Proofs.Ytoefhcikfmgkbaa
namespace Sha
def packN : List Nat → Nat → List (BitVec 8)
  | [], _ => []
  | x :: l, i => nbytes x (i % 8 + 1) ++ packN l (i + 1)
theorem packN_drop (ns : List Nat) (j i : Nat) (h : j < ns.length) : packN (ns.drop j) i = nbytes (ns.getD j 0) (i % 8 + 1) ++ packN (ns.drop (j + 1)) (i + 1) := by
  rw [List.drop_eq_getElem_cons h, packN]; simp [h]
theorem packN_len : ∀ (l : List Nat) (i : Nat), (packN l i).length ≤ 8 * l.length
  | [], _ => by simp [packN]
  | x :: l, i => by
    have := packN_len l (i + 1)
    rw [packN, List.length_append, nbytes_length, List.length_cons]; omega
theorem rdTake_put (x t : List (BitVec 8)) (k : Nat) (h : x.length = k) : rdTake (x ++ t) 0 k = ⟨x, t, 0⟩ := by
  unfold rdTake
  rw [if_neg (by simp), if_neg (by rw [List.length_append]; omega), ← h, List.take_left, List.drop_left]
theorem rdNum_put (m k most : Nat) (t : List (BitVec 8)) (h : m % 256 ^ k ≤ most) : rdNum (nbytes m k ++ t) 0 k most = (m % 256 ^ k, t, 0) := by
  unfold rdNum
  rw [rdTake_put _ _ _ (nbytes_length m k), leN_nbytes, if_neg (by simp), if_neg (by omega)]
theorem allZ_zero (n : Nat) : allZ (List.replicate n 0) = true := by unfold allZ; simp
theorem rdText_put (s t : List (BitVec 8)) (p : Nat) (h : s.length ≤ p) (hp : p ≤ 255) : rdText (textB s p ++ t) 0 p = ⟨s, t, 0⟩ := by
  unfold rdText
  rw [rdTake_put _ _ _ (textB_length s p h)]
  have hx : ((textB s p).getD 0 0).toNat = s.length := by
    show (BitVec.ofNat 8 s.length).toNat = _
    rw [BitVec.toNat_ofNat]; omega
  have hd : (textB s p).drop 1 = s ++ List.replicate (p - s.length) 0 := rfl
  simp only [hx]
  rw [if_neg (by simp), if_neg, hd, List.take_left]
  intro hc
  rcases hc with hc | hc
  · omega
  · have h2 : (textB s p).drop (1 + s.length) = List.replicate (p - s.length) 0 := by
      rw [Nat.add_comm]
      show (s ++ List.replicate (p - s.length) 0).drop s.length = _
      rw [List.drop_left]
    rw [h2, allZ_zero] at hc
    cases hc
theorem rdRest_zero (n : Nat) : rdRest (List.replicate n 0) 0 = 0 := by
  unfold rdRest
  rw [allZ_zero]; simp
theorem rdLeft_zero (n : Nat) : rdLeft (List.replicate n 0) 0 = n := by unfold rdLeft; simp
end Sha
end Go.Proofs.Ytoefhcikfmgkbaa
