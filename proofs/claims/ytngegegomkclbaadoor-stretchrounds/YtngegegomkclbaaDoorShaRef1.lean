/- The document's own turning of a word, bit by bit: its walk; turning by two is turning by their sum. -/
import Derived.Test.YtngegegomkclbaaDoorShaLive
namespace Go.Proofs.YtngegegomkclbaaDoor
namespace Sha
open Go.RowKit Mem

/-- Turned right by r (up to 32), as a number. -/
def rN (x r : Nat) : Nat := x / 2 ^ r + x % 2 ^ r * 2 ^ (32 - r)
theorem rotr_nat (x : BitVec 32) (r : Nat) (h : r < 32) : (x.rotateRight r).toNat = rN x.toNat r := by
  have e1 : 2 ^ 32 = 2 ^ r * 2 ^ (32 - r) := by rw [← Nat.pow_add]; congr 1; omega
  have e2 : x.toNat * 2 ^ (32 - r) % 2 ^ 32 = x.toNat % 2 ^ r * 2 ^ (32 - r) := by rw [e1, Nat.mul_mod_mul_right]
  have hlt : x.toNat / 2 ^ r < 2 ^ (32 - r) := by
    have := x.isLt
    rw [e1] at this
    exact Nat.div_lt_of_lt_mul this
  rw [BitVec.toNat_rotateRight, Nat.mod_eq_of_lt h, Nat.shiftRight_eq_div_pow, Nat.shiftLeft_eq, e2, Nat.or_comm, Nat.mul_comm (x.toNat % 2 ^ r), ← Nat.two_pow_add_eq_or_of_lt hlt, rN, Nat.add_comm, Nat.mul_comm (2 ^ (32 - r))]
theorem rN_step (x r : Nat) (h : r < 32) : rN x r / 2 + rN x r % 2 * 2147483648 = rN x (r + 1) := by
  have e1 : 2 ^ (32 - r) = 2 * 2 ^ (31 - r) := by rw [← Nat.pow_succ']; congr 1; omega
  have e2 : (2147483648 : Nat) = 2 ^ r * 2 ^ (31 - r) := by
    rw [← Nat.pow_add, show r + (31 - r) = 31 by omega]
  have e3 : 32 - (r + 1) = 31 - r := by omega
  unfold rN
  rw [e1, e3, Nat.pow_succ 2 r, ← Nat.div_div_eq_div_mul, show x % (2 ^ r * 2) = x % 2 ^ (r + 1) by rw [Nat.pow_succ], Nat.mod_pow_succ, e2]
  generalize x / 2 ^ r = a
  generalize x % 2 ^ r = b
  generalize 2 ^ (31 - r) = P
  generalize 2 ^ r = q
  have e4 : b * (2 * P) = 2 * (b * P) := by rw [Nat.mul_left_comm]
  rw [e4, Nat.add_mul_div_left _ _ (by decide), Nat.add_mul_mod_self_left, Nat.add_mul]
  have e5 : q * (a % 2) * P = a % 2 * (q * P) := by rw [Nat.mul_right_comm, Nat.mul_comm]
  rw [e5]; omega
theorem rN_32 (x : Nat) (h : x < 4294967296) : rN x 32 = x := by
  unfold rN
  have : x / 2 ^ 32 = 0 := Nat.div_eq_of_lt h
  rw [this, Nat.mod_eq_of_lt h]; simp
/-- One step of the turning, bit by bit. -/
def st (x : BitVec 32) : BitVec 32 := x.rotateRight 1
def it (x : BitVec 32) : Nat → BitVec 32
  | 0 => x
  | k + 1 => st (it x k)
theorem it_nat (x : BitVec 32) : ∀ k, k ≤ 32 → (it x k).toNat = rN x.toNat k
  | 0, _ => by simp [it, rN, Nat.mod_one]
  | k + 1, h => by
    have e0 : rN (it x k).toNat 1 = (it x k).toNat / 2 + (it x k).toNat % 2 * 2147483648 := rfl
    rw [it, st, rotr_nat _ 1 (by decide), e0, it_nat x k (by omega), rN_step _ _ (by omega)]
theorem it_rotr (x : BitVec 32) (k : Nat) (h : k < 32) : it x k = x.rotateRight k :=
  BitVec.eq_of_toNat_eq (by rw [it_nat x k (by omega), rotr_nat x k h])
theorem it_32 (x : BitVec 32) : it x 32 = x := BitVec.eq_of_toNat_eq (by rw [it_nat x 32 (by decide), rN_32 _ x.isLt])
theorem it_add (x : BitVec 32) (a : Nat) : ∀ b, it x (a + b) = it (it x a) b
  | 0 => rfl
  | b + 1 => by rw [← Nat.add_assoc, it, it, it_add x a b]
theorem rotr_rotr (x : BitVec 32) (a b : Nat) (ha : a < 32) (hb : b < 32) : (x.rotateRight a).rotateRight b = x.rotateRight ((a + b) % 32) := by
  rw [← it_rotr x a ha, ← it_rotr (it x a) b hb, ← it_add, ← it_rotr x _ (Nat.mod_lt _ (by decide))]
  by_cases h : a + b < 32
  · rw [Nat.mod_eq_of_lt h]
  · have e : a + b = 32 + (a + b - 32) := by omega
    have e' : (a + b) % 32 = a + b - 32 := by omega
    rw [e', e, it_add, it_32]; congr 1; omega
theorem st_val (y : BitVec 32) : V y / (2 : Int) + V y % (2 : Int) * (2147483648 : Int) = V (y.rotateRight 1) := by
  have e0 : rN y.toNat 1 = y.toNat / 2 + y.toNat % 2 * 2147483648 := rfl
  unfold V
  rw [rotr_nat y 1 (by decide), e0]; omega
theorem st_val' (y : BitVec 32) : (V y / (2 : Int) + V y % (2 : Int) * (2147483648 : Int)) % (4294967296 : Int) = V (y.rotateRight 1) := by
  rw [st_val]; have := V_lo (y.rotateRight 1); have := V_hi (y.rotateRight 1); omega
theorem st_val3 (y : BitVec 32) : ((V y).tdiv 2 % (4294967296 : Int) + V y % (2 : Int) * (2147483648 : Int)) % (4294967296 : Int) = V (y.rotateRight 1) := by
  rw [← st_val', Int.tdiv_eq_ediv_of_nonneg (V_lo y)]; omega
set_option maxRecDepth 100000 in
set_option maxHeartbeats 400000 in
theorem rturn_any (x : BitVec 32) (n : Int) (r : Nat) (w : World) (hr : (n % 32).toNat = r) (_h0 : -9223372036854775808 ≤ n) (_h1 : n ≤ 9223372036854775807) :
    Calls Tryd.prog 48 #[.int .u32 (V x), .int .i64 n] w fun e w' => e = .returned (.int .u32 (V (x.rotateRight r))) ∧ w = w' := by
  have ht : n.tmod 32 = n % 32 ∨ (n.tmod 32 = n % 32 - 32 ∧ n % 32 ≠ 0) := by
    rw [Int.tmod_eq_emod]
    split
    · left; omega
    · rename_i h
      right
      refine ⟨by simp, fun e => h (Or.inr (Int.dvd_of_emod_eq_zero e))⟩
  have hr32 : r < 32 := by omega
  obtain ⟨c, hc⟩ : ∃ c, c = n.tmod 32 := ⟨_, rfl⟩
  have hcc : n.tmod 32 = c := hc.symm
  have hcl : -32 < c := by omega
  have hch : c < 32 := by omega
  obtain ⟨d, hd⟩ : ∃ d, d = c + 32 := ⟨_, rfl⟩
  have hcd : c + 32 = d := hd.symm
  have hd0 : 0 < d := by omega
  have hd1 : d < 64 := by omega
  have hdr : d % 32 = (r : Int) := by omega
  clear hd
  have HR := Lib.hid hr
  clear ht hc hr
  go_enter Tryd.func48, Tryd.ntmps48
  go_wp2_with fail
  rw [hdr]
  clear hdr hcd hcc
  go_loop [0, 5] (fun v i => ∃ k : Nat, k ≤ r ∧ i = .int .i64 k ∧ v = .int .u32 (V (it x k))) (fun _ i => r - (intOf i).toNat)
  case atStart => exact ⟨0, by omega, rfl, rfl⟩
  case round =>
    obtain ⟨k, hk, rfl, rfl⟩ := hrel
    obtain ⟨y, hy⟩ : ∃ y, y = it x k := ⟨_, rfl⟩
    rw [← hy]
    have v0 := V_lo y
    have HY := Lib.hid hy; clear hy
    by_cases hlt : k < r
    · have hlt' : (k : Int) < (r : Int) := by omega
      go_wp2
      go_round
      case rel => exact ⟨k + 1, by omega, by go_num, by rw [st_val3, it, st, ← HY.out]⟩
      case measure => simp [intOf]; omega
    · have hkr : k = r := by omega
      have hge : ¬ (k : Int) < (r : Int) := by omega
      have HKR := Lib.hid hkr; clear hkr hlt
      go_wp2
      go_ret
      exact ⟨by rw [← it_rotr x r hr32, ← HKR.out, ← HY.out]; rfl, rfl⟩
end Sha
end Go.Proofs.YtngegegomkclbaaDoor
