/- A word turned left, bit by bit and at once. -/
import Derived.Test.YtikfhabcjjoloaaDoorNum
namespace Go.Proofs.YtikfhabcjjoloaaDoor
namespace Sha
/-- Turned right by r (up to 32), as a number. -/
def rM (x r : Nat) : Nat := x / 2 ^ r + x % 2 ^ r * 2 ^ (32 - r)
theorem rotl_nat (x : BitVec 32) (r : Nat) (h : r < 32) : (x.rotateLeft r).toNat = x.toNat * 2 ^ r % 2 ^ 32 + x.toNat / 2 ^ (32 - r) := by
  have hlt : x.toNat / 2 ^ (32 - r) < 2 ^ r := by
    have := x.isLt
    have e : 2 ^ 32 = 2 ^ (32 - r) * 2 ^ r := by rw [← Nat.pow_add]; congr 1; omega
    rw [e] at this
    exact Nat.div_lt_of_lt_mul this
  have e1 : x.toNat * 2 ^ r % 2 ^ 32 = 2 ^ r * (x.toNat % 2 ^ (32 - r)) := by
    have e : 2 ^ 32 = 2 ^ (32 - r) * 2 ^ r := by rw [← Nat.pow_add]; congr 1; omega
    rw [e, Nat.mul_mod_mul_right, Nat.mul_comm]
  rw [BitVec.toNat_rotateLeft, Nat.mod_eq_of_lt h, Nat.shiftRight_eq_div_pow, Nat.shiftLeft_eq, e1, ← Nat.two_pow_add_eq_or_of_lt hlt]
theorem rotl_zero (x : BitVec 32) : x.rotateLeft 0 = x := by
  apply BitVec.eq_of_toNat_eq
  rw [rotl_nat x 0 (by decide)]
  have := x.isLt
  omega
/-- One step of the turning. -/
theorem rotl_step (x : BitVec 32) (r : Nat) (h : r < 31) : (x.rotateLeft r).toNat * 2 % 2 ^ 32 + (x.rotateLeft r).toNat / 2147483648 = (x.rotateLeft (r + 1)).toNat := by
  rw [rotl_nat x r (by omega), rotl_nat x (r + 1) (by omega)]
  have hx := x.isLt
  have e2 : 32 - (r + 1) = 31 - r := by omega
  have e3 : 2 ^ (32 - r) = 2 * 2 ^ (31 - r) := by rw [← Nat.pow_succ']; congr 1; omega
  have e1 : 2 ^ 32 = 2 ^ r * (2 * 2 ^ (31 - r)) := by rw [← e3, ← Nat.pow_add]; congr 1; omega
  have em : x.toNat * 2 ^ r % 2 ^ 32 = 2 ^ r * (x.toNat % (2 * 2 ^ (31 - r))) := by rw [e1, Nat.mul_comm (x.toNat), Nat.mul_mod_mul_left]
  have em2 : x.toNat * 2 ^ (r + 1) % 2 ^ 32 = 2 * 2 ^ r * (x.toNat % 2 ^ (31 - r)) := by
    have e5 : 2 ^ 32 = 2 * 2 ^ r * 2 ^ (31 - r) := by rw [e1]; simp only [Nat.mul_assoc, Nat.mul_left_comm]
    rw [e5, Nat.pow_succ, Nat.mul_comm (x.toNat), Nat.mul_comm (2 ^ r) 2, Nat.mul_mod_mul_left]
  rw [em, em2, e2, e3]
  have hP : 0 < 2 ^ (31 - r) := Nat.two_pow_pos _
  have hR : 0 < 2 ^ r := Nat.two_pow_pos _
  have hRP : 2 ^ r * 2 ^ (31 - r) = 2147483648 := by rw [← Nat.pow_add, show r + (31 - r) = 31 by omega]
  generalize 2 ^ (31 - r) = P at *
  generalize 2 ^ r = R at *
  -- x = (2 h + l) P + m
  obtain ⟨m, hm⟩ : ∃ m, m = x.toNat % P := ⟨_, rfl⟩
  obtain ⟨q, hq⟩ : ∃ q, q = x.toNat / P := ⟨_, rfl⟩
  have hxq : x.toNat = P * q + m := by rw [hm, hq, Nat.div_add_mod]
  have hmP : m < P := by rw [hm]; exact Nat.mod_lt _ hP
  have d2 : x.toNat / (2 * P) = q / 2 := by rw [Nat.mul_comm, ← Nat.div_div_eq_div_mul, ← hq]
  have m2 : x.toNat % (2 * P) = q % 2 * P + m := by
    have h0 := Nat.div_add_mod x.toNat (2 * P)
    rw [d2] at h0
    have h1 : P * q = 2 * P * (q / 2) + P * (q % 2) := by
      have := Nat.div_add_mod q 2
      calc P * q = P * (2 * (q / 2) + q % 2) := by rw [this]
        _ = 2 * P * (q / 2) + P * (q % 2) := by rw [Nat.mul_add, ← Nat.mul_assoc, Nat.mul_comm P 2]
    have h2 : P * (q % 2) = q % 2 * P := Nat.mul_comm _ _
    omega
  rw [d2, m2, ← hq, ← hm]
  have hq2 : q / 2 < R := by
    have hq3 : q < 2 * R := by
      rw [hq]
      apply Nat.div_lt_of_lt_mul
      have : P * (2 * R) = 2 * (R * P) := by rw [Nat.mul_left_comm, Nat.mul_comm P R]
      rw [this, hRP]; omega
    omega
  have hRm : R * m < R * P := Nat.mul_lt_mul_of_pos_left hmP hR
  have e6 : R * (q % 2 * P + m) = q % 2 * 2147483648 + R * m := by rw [Nat.mul_add, Nat.mul_left_comm, hRP]
  have e7 : 2 * R * m = 2 * (R * m) := Nat.mul_assoc _ _ _
  rw [e6, e7]
  rw [hRP] at hRm
  have hl : R * m + q / 2 < 2147483648 := by
    -- the low bits of R * m are free
    have hm1 : m + 1 ≤ P := hmP
    have h1 : R * (m + 1) ≤ R * P := Nat.mul_le_mul_left _ hm1
    rw [hRP, Nat.mul_add, Nat.mul_one] at h1
    omega
  rcases Nat.mod_two_eq_zero_or_one q with h0 | h0 <;> rw [h0] <;> omega
theorem rotl_add (x : BitVec 32) (a : Nat) (ha : a < 32) : ∀ b, a + b < 32 → (x.rotateLeft a).rotateLeft b = x.rotateLeft (a + b)
  | 0, _ => rotl_zero _
  | b + 1, h => by
    apply BitVec.eq_of_toNat_eq
    rw [← rotl_step _ b (by omega), rotl_add x a ha b (by omega), ← Nat.add_assoc, ← rotl_step x (a + b) (by omega)]
/-- Turned by two that are 32 it is as it was. -/
theorem rotl_full (x : BitVec 32) : (x.rotateLeft 31).rotateLeft 1 = x := by
  apply BitVec.eq_of_toNat_eq
  rw [rotl_nat _ 1 (by decide), rotl_nat _ 31 (by decide)]
  have hx := x.isLt
  generalize x.toNat = y at *
  have e1 : y * 2 ^ 31 % 2 ^ 32 = 2147483648 * (y % 2) := by omega
  rw [e1]
  simp only [Nat.reducePow, Nat.reduceSub]
  rcases Nat.mod_two_eq_zero_or_one y with h0 | h0 <;> rw [h0] <;> omega
theorem rotl_pair (x : BitVec 32) (a b : Nat) (hb : 0 < b) (h : a + b = 32) : (x.rotateLeft a).rotateLeft b = x := by
  by_cases ha : a = 0
  · subst ha
    have e : b = 32 := by omega
    subst e
    rw [rotl_zero]
    have : x.rotateLeft 32 = x.rotateLeft 0 := by rw [BitVec.rotateLeft_def, BitVec.rotateLeft_def]
    rw [this, rotl_zero]
  · obtain ⟨c, rfl⟩ : ∃ c, b = c + 1 := ⟨b - 1, by omega⟩
    by_cases hc : c = 0
    · subst hc
      have e : a = 31 := by omega
      subst e
      exact rotl_full x
    · have e : (x.rotateLeft a).rotateLeft (c + 1) = ((x.rotateLeft a).rotateLeft c).rotateLeft 1 := (rotl_add (x.rotateLeft a) c (by omega) 1 (by omega)).symm
      rw [e, rotl_add x a (by omega) c (by omega), show a + c = 31 by omega]
      exact rotl_full x
/-- One bit, as the model reckons it. -/
theorem lf_val (x : BitVec 32) (r : Nat) (h : r < 31) : (V (x.rotateLeft r) * 2 + V (x.rotateLeft r) / 2147483648) % (4294967296 : Int) = V (x.rotateLeft (r + 1)) := by
  have e := rotl_step x r h
  have h1 := (x.rotateLeft (r + 1)).isLt
  unfold V
  omega
end Sha
end Go.Proofs.YtikfhabcjjoloaaDoor
