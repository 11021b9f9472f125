/- Plain mathematics of macs (RFC 2104) on lists of bytes. -/
import Derived.Test.YtngegegomkclbaaDoorShaAlive
namespace Go.Proofs.YtngegegomkclbaaDoor
namespace Sha
open Go.RowKit Mem

/-- Filled up to 64 bytes with 0. -/
def fill64 (k : List (BitVec 8)) : List (BitVec 8) := k ++ List.replicate (64 - k.length) 0
def keyOf (k : List (BitVec 8)) : List (BitVec 8) := fill64 (if 64 < k.length then digestOf k else k)
def turned (k : List (BitVec 8)) (b : BitVec 8) : List (BitVec 8) := k.map (· ^^^ b)
def macOf (k m : List (BitVec 8)) : List (BitVec 8) := digestOf (turned (keyOf k) 92 ++ digestOf (turned (keyOf k) 54 ++ m))
theorem fill64_length (k : List (BitVec 8)) (h : k.length ≤ 64) : (fill64 k).length = 64 := by simp [fill64]; omega
theorem keyOf_length (k : List (BitVec 8)) : (keyOf k).length = 64 := by
  unfold keyOf
  split
  · exact fill64_length _ (by rw [digestOf_length]; omega)
  · exact fill64_length _ (by omega)
theorem turned_length (k : List (BitVec 8)) (b : BitVec 8) : (turned k b).length = k.length := by simp [turned]
theorem macOf_length (k m : List (BitVec 8)) : (macOf k m).length = 32 := digestOf_length _
theorem macOf_bounds (k m : List (BitVec 8)) (b : BitVec 8) : (turned (keyOf k) b ++ m).length = 64 + m.length := by rw [List.length_append, turned_length, keyOf_length]
/-- A key, and it with bytes 0 behind it, up to 64, are filled up to the same. -/
theorem keyOf_fill (k : List (BitVec 8)) (n : Nat) (h : k.length + n ≤ 64) : keyOf (k ++ List.replicate n 0) = keyOf k := by
  unfold keyOf
  rw [if_neg (by simp; omega), if_neg (by omega)]
  unfold fill64
  rw [List.append_assoc, List.replicate_append_replicate]
  congr 2
  simp; omega
/-! ### bytes as the model has them -/
theorem b_wrap (n : Nat) : IntKind.u8.wrap (n : Int) = ((n % 256 : Nat) : Int) := by
  simp [IntKind.wrap, IntKind.bits, IntKind.signed]
theorem b_ofInt (x : BitVec 8) : BitVec.ofInt 8 (x.toNat : Int) = x := by rw [BitVec.ofInt_natCast]; simp
theorem b_mod (x : BitVec 8) : x.toNat % 256 = x.toNat := Nat.mod_eq_of_lt x.isLt
theorem b_xor (a b : BitVec 8) : bits .xor .u8 (a.toNat : Int) (b.toNat : Int) = ((a ^^^ b).toNat : Int) := by
  show IntKind.u8.wrap (((BitVec.ofInt 8 (a.toNat : Int)) ^^^ (BitVec.ofInt 8 (b.toNat : Int))).toNat : Int) = _
  rw [b_ofInt, b_ofInt, b_wrap, b_mod]
theorem b_or (a b : BitVec 8) : bits .or .u8 (a.toNat : Int) (b.toNat : Int) = ((a ||| b).toNat : Int) := by
  show IntKind.u8.wrap (((BitVec.ofInt 8 (a.toNat : Int)) ||| (BitVec.ofInt 8 (b.toNat : Int))).toNat : Int) = _
  rw [b_ofInt, b_ofInt, b_wrap, b_mod]
/-- A byte as a value: behind a plain definition, so that no walk lays it open. -/
def B8 (x : BitVec 8) : Int := x.toNat
theorem B8_lo (x : BitVec 8) : 0 ≤ B8 x := Int.natCast_nonneg _
theorem B8_hi (x : BitVec 8) : B8 x ≤ 255 := by unfold B8; have := x.isLt; omega
theorem B8_xor (a b : BitVec 8) : bits .xor .u8 (B8 a) (B8 b) = B8 (a ^^^ b) := b_xor a b
theorem B8_or (a b : BitVec 8) : bits .or .u8 (B8 a) (B8 b) = B8 (a ||| b) := b_or a b
theorem B8_zero : B8 0 = 0 := rfl
theorem B8_eq (x : BitVec 8) : (B8 x == 0) = (x == 0) := by
  unfold B8
  rw [Bool.eq_iff_iff, beq_iff_eq, beq_iff_eq]
  constructor
  · intro h
    exact BitVec.eq_of_toNat_eq (by simpa using h)
  · intro h; rw [h]; rfl
/-- What differs in the first i places, gathered. -/
def unlike (l m : List (BitVec 8)) : Nat → BitVec 8
  | 0 => 0
  | i + 1 => unlike l m i ||| (l.getD i 0 ^^^ m.getD i 0)
theorem or_zero_iff (a b : BitVec 8) : a ||| b = 0 ↔ a = 0 ∧ b = 0 := by
  constructor
  · intro h
    have h1 : ∀ i : Nat, (a ||| b).getLsbD i = false := fun i => by rw [h]; simp
    constructor <;> (apply BitVec.eq_of_getLsbD_eq; intro i _; have := h1 i; simp at this; simp [this])
  · rintro ⟨rfl, rfl⟩; rfl
theorem unlike_zero (l m : List (BitVec 8)) : ∀ i, i ≤ l.length → i ≤ m.length → (unlike l m i = 0 ↔ l.take i = m.take i)
  | 0, _, _ => by simp [unlike]
  | i + 1, h1, h2 => by
    have e1 : l.getD i 0 = l[i] := by simp [show i < l.length by omega]
    have e2 : m.getD i 0 = m[i] := by simp [show i < m.length by omega]
    rw [unlike, or_zero_iff, unlike_zero l m i (by omega) (by omega), List.take_succ_eq_append_getElem (by omega), List.take_succ_eq_append_getElem (by omega), e1, e2]
    constructor
    · rintro ⟨h, hx⟩
      rw [h, BitVec.xor_eq_zero_iff.1 hx]
    · intro h
      have hl : (l.take i).length = (m.take i).length := by simp; omega
      obtain ⟨h3, h4⟩ := List.append_inj h hl
      refine ⟨h3, ?_⟩
      injection h4 with h4
      rw [h4]; simp
/-- Are both the same? -/
def sameB (l m : List (BitVec 8)) : Bool := l == m
theorem sameB_self (l : List (BitVec 8)) : sameB l l = true := by simp [sameB]
theorem sameB_comm (l m : List (BitVec 8)) : sameB l m = sameB m l := by unfold sameB; rw [Bool.eq_iff_iff, beq_iff_eq, beq_iff_eq]; exact eq_comm
theorem sameB_len (l m : List (BitVec 8)) (h : l.length ≠ m.length) : sameB l m = false := by
  unfold sameB
  rw [Bool.eq_false_iff]
  intro e
  exact h (by rw [beq_iff_eq.1 e])
theorem sameB_unlike (l m : List (BitVec 8)) (h : l.length = m.length) : (B8 (unlike l m l.length) == 0) = sameB l m := by
  rw [B8_eq]
  unfold sameB
  rw [Bool.eq_iff_iff, beq_iff_eq, beq_iff_eq, unlike_zero l m _ (Nat.le_refl _) (by omega), List.take_length, h, List.take_length]
/-- The first i bytes turned. -/
def turnTo (k : List (BitVec 8)) (b : BitVec 8) (i : Nat) : List (BitVec 8) := (turned k b).take i ++ k.drop i
theorem turnTo_length (k : List (BitVec 8)) (b : BitVec 8) (i : Nat) : (turnTo k b i).length = k.length := by
  simp [turnTo, turned]; omega
theorem turnTo_zero (k : List (BitVec 8)) (b : BitVec 8) : turnTo k b 0 = k := by simp [turnTo]
theorem turnTo_all (k : List (BitVec 8)) (b : BitVec 8) : turnTo k b k.length = turned k b := by
  unfold turnTo
  rw [List.drop_length, List.append_nil, List.take_of_length_le (by rw [turned_length]; exact Nat.le_refl _)]
theorem turnTo_get (k : List (BitVec 8)) (b : BitVec 8) (i : Nat) (hi : i < k.length) : (turnTo k b i).getD i 0 = k.getD i 0 := by
  unfold turnTo
  rw [List.getD_eq_getElem?_getD, List.getD_eq_getElem?_getD, List.getElem?_append_right (by simp [turned]; omega)]
  simp [turned, Nat.min_eq_left (Nat.le_of_lt hi)]
theorem turnTo_set (k : List (BitVec 8)) (b : BitVec 8) (i : Nat) (hi : i < k.length) : (turnTo k b i).set i (k.getD i 0 ^^^ b) = turnTo k b (i + 1) := by
  have e2 : k.drop i = k.getD i 0 :: k.drop (i + 1) := by rw [List.drop_eq_getElem_cons hi]; simp [hi]
  have e3 : (turned k b).take (i + 1) = (turned k b).take i ++ [k.getD i 0 ^^^ b] := by
    rw [List.take_succ_eq_append_getElem (by rw [turned_length]; exact hi)]
    simp [turned, hi]
  unfold turnTo
  rw [e3, e2, List.set_append_right _ _ (by simp; omega)]
  simp [turned, Nat.min_eq_left (Nat.le_of_lt hi)]
end Sha
end Go.Proofs.YtngegegomkclbaaDoor
