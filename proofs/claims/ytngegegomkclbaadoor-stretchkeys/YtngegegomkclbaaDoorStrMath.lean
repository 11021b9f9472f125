/- Plain mathematics of stretched keys (RFC 8018) on lists of bytes. -/
import Derived.Test.YtngegegomkclbaaDoorMacMath
namespace Go.Proofs.YtngegegomkclbaaDoor
namespace Sha
/-- Two lists of bytes joined (either). -/
def joinB (a b : List (BitVec 8)) : List (BitVec 8) := List.zipWith (· ^^^ ·) a b
def joinTo (a b : List (BitVec 8)) (i : Nat) : List (BitVec 8) := (joinB a b).take i ++ a.drop i
theorem joinB_length (a b : List (BitVec 8)) (h : a.length = b.length) : (joinB a b).length = a.length := by simp [joinB, h]
theorem joinTo_length (a b : List (BitVec 8)) (h : a.length = b.length) (i : Nat) : (joinTo a b i).length = a.length := by
  simp [joinTo, joinB, h]; omega
theorem joinTo_zero (a b : List (BitVec 8)) : joinTo a b 0 = a := by simp [joinTo]
theorem joinTo_all (a b : List (BitVec 8)) (h : a.length = b.length) : joinTo a b a.length = joinB a b := by
  unfold joinTo
  rw [List.take_of_length_le (by rw [joinB_length a b h]; omega), List.drop_length, List.append_nil]
theorem joinTo_get (a b : List (BitVec 8)) (h : a.length = b.length) (i : Nat) (hi : i < a.length) : (joinTo a b i).getD i 0 = a.getD i 0 := by
  unfold joinTo
  rw [List.getD_eq_getElem?_getD, List.getD_eq_getElem?_getD, List.getElem?_append_right (by rw [List.length_take, joinB_length a b h]; omega)]
  rw [List.length_take, joinB_length a b h, Nat.min_eq_left (Nat.le_of_lt hi)]
  simp
theorem joinB_get (a b : List (BitVec 8)) (h : a.length = b.length) (i : Nat) (hi : i < a.length) : (joinB a b).getD i 0 = a.getD i 0 ^^^ b.getD i 0 := by
  have hb : i < b.length := by omega
  simp [joinB, List.getD_eq_getElem?_getD, List.getElem?_zipWith, hi, hb]
theorem joinB_next (a b : List (BitVec 8)) (h : a.length = b.length) (i : Nat) (hi : i < a.length) : (joinB a b).take (i + 1) = (joinB a b).take i ++ [a.getD i 0 ^^^ b.getD i 0] := by
  have hl : i < (joinB a b).length := by rw [joinB_length a b h]; exact hi
  rw [List.take_succ_eq_append_getElem hl, ← joinB_get a b h i hi]
  simp [hl]
theorem joinTo_set (a b : List (BitVec 8)) (h : a.length = b.length) (i : Nat) (hi : i < a.length) : (joinTo a b i).set i (a.getD i 0 ^^^ b.getD i 0) = joinTo a b (i + 1) := by
  unfold joinTo
  rw [joinB_next a b h i hi, List.set_append_right _ _ (by rw [List.length_take, joinB_length a b h]; omega), List.length_take, joinB_length a b h, Nat.min_eq_left (Nat.le_of_lt hi), Nat.sub_self, List.drop_eq_getElem_cons hi, List.set_cons_zero, List.append_assoc]
  rfl
theorem joinB_zero (a : List (BitVec 8)) (n : Nat) (h : a.length = n) : joinB (List.replicate n 0) a = a := by
  subst h
  apply List.ext_getElem (by simp [joinB])
  intro i h1 h2
  simp [joinB]
/-- A number as four bytes, the highest first. -/
def be4 (n : BitVec 32) : List (BitVec 8) := [wb n 24, wb n 16, wb n 8, wb n 0]
/-- The macs of the block n, from the first one on. -/
def mcs (k salt : List (BitVec 8)) (n : BitVec 32) : Nat → List (BitVec 8)
  | 0 => macOf k (salt ++ be4 n)
  | i + 1 => macOf k (mcs k salt n i)
theorem mcs_length (k salt : List (BitVec 8)) (n : BitVec 32) (i : Nat) : (mcs k salt n i).length = 32 := by
  cases i <;> exact macOf_length _ _
/-- So many of them joined. -/
def blk (k salt : List (BitVec 8)) (n : BitVec 32) : Nat → List (BitVec 8)
  | 0 => List.replicate 32 0
  | i + 1 => joinB (blk k salt n i) (mcs k salt n i)
theorem blk_length (k salt : List (BitVec 8)) (n : BitVec 32) : ∀ i, (blk k salt n i).length = 32
  | 0 => by simp [blk]
  | i + 1 => by rw [blk, joinB_length _ _ (by rw [blk_length k salt n i, mcs_length]), blk_length k salt n i]
/-- The first j blocks, one behind the other. -/
def blks (k salt : List (BitVec 8)) (r : Nat) : Nat → List (BitVec 8)
  | 0 => []
  | j + 1 => blks k salt r j ++ blk k salt (BitVec.ofNat 32 (j + 1)) r
theorem blks_length (k salt : List (BitVec 8)) (r : Nat) : ∀ j, (blks k salt r j).length = 32 * j
  | 0 => rfl
  | j + 1 => by rw [blks, List.length_append, blks_length k salt r j, blk_length]; omega
theorem blks_more (k salt : List (BitVec 8)) (r j : Nat) : ∀ i, (blks k salt r (j + i)).take (32 * j) = blks k salt r j
  | 0 => by rw [Nat.add_zero, List.take_of_length_le (by rw [blks_length]; omega)]
  | i + 1 => by
    rw [← Nat.add_assoc, blks, List.take_append_of_le_length (by rw [blks_length]; omega), blks_more k salt r j i]
/-- The stretched key. -/
def stretched (k salt : List (BitVec 8)) (r size : Nat) : List (BitVec 8) := (blks k salt r ((size + 31) / 32)).take size
theorem stretched_length (k salt : List (BitVec 8)) (r size : Nat) : (stretched k salt r size).length = size := by
  rw [stretched, List.length_take, blks_length]; omega
theorem stretched_from (k salt : List (BitVec 8)) (r size j : Nat) (h : size ≤ 32 * j) : (blks k salt r j).take size = stretched k salt r size := by
  have hc : (size + 31) / 32 ≤ j := by omega
  obtain ⟨i, rfl⟩ : ∃ i, j = (size + 31) / 32 + i := ⟨j - (size + 31) / 32, by omega⟩
  have e := blks_more k salt r ((size + 31) / 32) i
  rw [stretched, ← e, List.take_take]
  congr 1
  omega
/-- A longer key begins with the shorter one. -/
theorem stretched_begins (k salt : List (BitVec 8)) (r m n : Nat) (h : m ≤ n) : (stretched k salt r n).take m = stretched k salt r m := by
  rw [stretched, List.take_take, Nat.min_eq_left h]
  exact stretched_from k salt r m _ (by omega)
theorem keyOf_64 (k : List (BitVec 8)) (h : k.length = 64) : keyOf k = k := by
  unfold keyOf
  rw [if_neg (by omega)]
  simp [fill64, h]
theorem macOf_key (k m : List (BitVec 8)) : macOf (keyOf k) m = macOf k m := by
  unfold macOf
  rw [keyOf_64 (keyOf k) (keyOf_length k)]
theorem mcs_key (k salt : List (BitVec 8)) (n : BitVec 32) : ∀ i, mcs (keyOf k) salt n i = mcs k salt n i
  | 0 => macOf_key _ _
  | i + 1 => by rw [mcs, mcs_key k salt n i, macOf_key]; rfl
theorem blk_key (k salt : List (BitVec 8)) (n : BitVec 32) : ∀ i, blk (keyOf k) salt n i = blk k salt n i
  | 0 => rfl
  | i + 1 => by rw [blk, blk_key k salt n i, mcs_key]; rfl
end Sha
end Go.Proofs.YtngegegomkclbaaDoor
