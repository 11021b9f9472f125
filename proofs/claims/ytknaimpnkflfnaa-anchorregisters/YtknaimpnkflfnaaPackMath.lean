/- Numbers and texts as bytes: mathematics. -/
import Derived.Test.YtknaimpnkflfnaaNum
namespace Go.Proofs.Ytknaimpnkflfnaa
namespace Sha
/-- A number's byte, its lowest so many bytes; the number of some bytes. -/
def nbyte (m i : Nat) : BitVec 8 := BitVec.ofNat 8 (m / 256 ^ i)
def nbytes (m k : Nat) : List (BitVec 8) := (List.range k).map (nbyte m)
def leN : List (BitVec 8) → Nat
  | [] => 0
  | x :: l => x.toNat + 256 * leN l
theorem nbytes_length (m k : Nat) : (nbytes m k).length = k := by simp [nbytes]
theorem nbytes_succ (m k : Nat) : nbytes m (k + 1) = nbytes m k ++ [nbyte m k] := by simp [nbytes, List.range_succ]
theorem nbytes_cons (m k : Nat) : nbytes m (k + 1) = nbyte m 0 :: nbytes (m / 256) k := by
  have h : ∀ i, nbyte m (i + 1) = nbyte (m / 256) i := fun i => by
    unfold nbyte
    rw [Nat.pow_succ, Nat.mul_comm, Nat.div_div_eq_div_mul]
  simp [nbytes, List.range_succ_eq_map, Function.comp_def, h]
theorem leN_nbytes : ∀ (k m : Nat), leN (nbytes m k) = m % 256 ^ k
  | 0, m => by simp [nbytes, leN, Nat.mod_one]
  | k + 1, m => by
    rw [nbytes_cons, leN, leN_nbytes k (m / 256)]
    have h1 : (nbyte m 0).toNat = m % 256 := by simp [nbyte]
    rw [h1, Nat.pow_succ, Nat.mul_comm (256 ^ k) 256, Nat.mod_mul]
theorem leN_lt : ∀ l : List (BitVec 8), leN l < 256 ^ l.length
  | [] => by simp [leN]
  | x :: l => by
    have h := leN_lt l
    have hx := x.isLt
    rw [leN, List.length_cons, Nat.pow_succ]
    omega
theorem leN_64 (l : List (BitVec 8)) (h : l.length ≤ 8) : leN l < 18446744073709551616 := by
  have h1 := leN_lt l
  have h2 : 256 ^ l.length ≤ 256 ^ 8 := Nat.pow_le_pow_right (by decide) h
  have h3 : (256 ^ 8 : Nat) = 18446744073709551616 := by decide
  omega
theorem leN_drop (l : List (BitVec 8)) (i : Nat) (h : i < l.length) : leN (l.drop i) = (l.getD i 0).toNat + 256 * leN (l.drop (i + 1)) := by
  rw [List.drop_eq_getElem_cons h, leN]
  simp [h]
theorem nbytes_leN : ∀ l : List (BitVec 8), nbytes (leN l) l.length = l
  | [] => rfl
  | x :: l => by
    have hx := x.isLt
    rw [List.length_cons, nbytes_cons, leN]
    have h1 : (x.toNat + 256 * leN l) / 256 = leN l := by omega
    have h2 : nbyte (x.toNat + 256 * leN l) 0 = x := by
      apply BitVec.eq_of_toNat_eq
      simp [nbyte]; omega
    rw [h1, h2, nbytes_leN l]
/-- A number from one to another one. -/
def cutN (z : Int) (lo hi : Nat) : Nat := (min (max z (lo : Int)) (hi : Int)).toNat
theorem cutN_val (z : Int) (lo hi : Nat) (_h : lo ≤ hi) : ((cutN z lo hi : Nat) : Int) = min (max z (lo : Int)) (hi : Int) := by unfold cutN; omega
theorem cutN_lo (z : Int) (lo hi : Nat) (h : lo ≤ hi) : lo ≤ cutN z lo hi := by unfold cutN; omega
theorem cutN_hi (z : Int) (lo hi : Nat) : cutN z lo hi ≤ hi := by unfold cutN; omega
theorem cutN_in (n lo hi : Nat) (h0 : lo ≤ n) (h1 : n ≤ hi) : cutN (n : Int) lo hi = n := by unfold cutN; omega
/-- A text in its place. -/
def textB (s : List (BitVec 8)) (place : Nat) : List (BitVec 8) := BitVec.ofNat 8 s.length :: s ++ List.replicate (place - s.length) 0
theorem textB_length (s : List (BitVec 8)) (place : Nat) (h : s.length ≤ place) : (textB s place).length = place + 1 := by simp [textB]; omega
def allZ (l : List (BitVec 8)) : Bool := l.all (· == 0)
/-- What a reader takes: the bytes, those that are left, its error. -/
structure Rd3 where
  x : List (BitVec 8)
  b : List (BitVec 8)
  e : Nat
def rdTake (b : List (BitVec 8)) (e n : Nat) : Rd3 := if e ≠ 0 then ⟨[], b, e⟩ else if b.length < n then ⟨[], b, 4⟩ else ⟨b.take n, b.drop n, 0⟩
def rdNum (b : List (BitVec 8)) (e : Nat) (k most : Nat) : Nat × List (BitVec 8) × Nat :=
  if (rdTake b e k).e ≠ 0 then (0, (rdTake b e k).b, (rdTake b e k).e) else if most < leN (rdTake b e k).x then (0, (rdTake b e k).b, 3) else (leN (rdTake b e k).x, (rdTake b e k).b, 0)
def rdText (b : List (BitVec 8)) (e : Nat) (p : Nat) : Rd3 :=
  if (rdTake b e (p + 1)).e ≠ 0 then ⟨[], (rdTake b e (p + 1)).b, (rdTake b e (p + 1)).e⟩
  else if p < ((rdTake b e (p + 1)).x.getD 0 0).toNat ∨ allZ ((rdTake b e (p + 1)).x.drop (1 + ((rdTake b e (p + 1)).x.getD 0 0).toNat)) = false then ⟨[], (rdTake b e (p + 1)).b, 3⟩
  else ⟨((rdTake b e (p + 1)).x.drop 1).take ((rdTake b e (p + 1)).x.getD 0 0).toNat, (rdTake b e (p + 1)).b, 0⟩
def rdRest (b : List (BitVec 8)) (e : Nat) : Nat := if e = 0 ∧ allZ b = false then 3 else e
def rdLeft (b : List (BitVec 8)) (e : Nat) : Nat := if e ≠ 0 then 0 else b.length
theorem rdTake_len (b : List (BitVec 8)) (e n : Nat) (h : (rdTake b e n).e = 0) : (rdTake b e n).x.length = n ∧ e = 0 ∧ n ≤ b.length := by
  unfold rdTake at *
  split at h <;> rename_i h1
  · exact absurd h h1
  · split at h <;> rename_i h2
    · simp at h
    · rw [if_neg h1, if_neg h2]
      exact ⟨by simp; omega, by omega, by omega⟩
theorem rdTake_err (b : List (BitVec 8)) (e n : Nat) (h : (rdTake b e n).e ≠ 0) : (rdTake b e n).x = [] ∧ (rdTake b e n).b = b := by
  unfold rdTake at *
  split at h <;> rename_i h1
  · rw [if_pos h1]; exact ⟨rfl, rfl⟩
  · split at h <;> rename_i h2
    · rw [if_neg h1, if_pos h2]; exact ⟨rfl, rfl⟩
    · simp at h
end Sha
end Go.Proofs.Ytknaimpnkflfnaa
