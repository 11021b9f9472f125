/- Plain mathematics: a state is fed byte by byte; that is as it is fed chunk by chunk. -/
import Derived.Test.YtahcjnganedbiaaGreatDoorBN01
import Derived.Test.YtahcjnganedbiaaGreatDoorBN00
namespace Go.Proofs.YtahcjnganedbiaaGreatDoor
namespace Sha
open Go.RowKit Mem
def addB (H : List (BitVec 32)) (T : List (BitVec 8)) : List (BitVec 32) := adds H (rnds (sched T) (regOf (adds IVl H)) 64).list
def zs64 : List (BitVec 8) := List.replicate 64 0
structure Fed where
 H : List (BitVec 32)
 T : List (BitVec 8)
 at' : Nat
def feed (s : Fed) (b : BitVec 8) : Fed :=
 if s.at' + 1 = 64 then ⟨addB s.H (s.T.set s.at' b), zs64, 0⟩ else ⟨s.H, s.T.set s.at' b, s.at' + 1⟩
def feeds (s : Fed) (l : List (BitVec 8)) : Fed := l.foldl feed s
structure Ok (s : Fed) : Prop where
 h : s.H.length = 8
 t : s.T.length = 64
 a : s.at' < 64
theorem addB_length (H : List (BitVec 32)) (T : List (BitVec 8)) (h : H.length = 8) : (addB H T).length = 8 := by
 simp [addB, adds, h, Reg.list]
theorem feed_ok {s : Fed} (h : Ok s) (b : BitVec 8) : Ok (feed s b) := by
 unfold feed
 split
 ·exact ⟨addB_length _ _ h.h, by simp [zs64], by simp⟩
 ·exact ⟨h.h, by simp [h.t], by have := h.a; simp; omega⟩
theorem feeds_ok : ∀ (l : List (BitVec 8)) {s : Fed}, Ok s → Ok (feeds s l)
 | [], _, h => h
 | b :: l, _, h => feeds_ok l (feed_ok h b)
theorem feeds_append (s : Fed) (l m : List (BitVec 8)) : feeds s (l ++ m) = feeds (feeds s l) m := by simp [feeds]
def lay (T : List (BitVec 8)) (a : Nat) (c : List (BitVec 8)) : List (BitVec 8) := T.take a ++ c ++ T.drop (a + c.length)
theorem lay_nil (T : List (BitVec 8)) (a : Nat) : lay T a [] = T := by simp [lay]
theorem lay_length (T : List (BitVec 8)) (a : Nat) (c : List (BitVec 8)) (h : a + c.length ≤ T.length) : (lay T a c).length = T.length := by
 simp [lay]; omega
theorem lay_cons (T : List (BitVec 8)) (a : Nat) (b : BitVec 8) (c : List (BitVec 8)) (h : a < T.length) : lay (T.set a b) (a + 1) c = lay T a (b :: c) := by
 unfold lay
 have e1 : (T.set a b).take (a + 1) = T.take a ++ [b] := by
  rw [List.take_succ_eq_append_getElem (by simpa using h), List.take_set_of_le (Nat.le_refl a)]
  simp
 rw [e1, List.drop_set_of_lt (by omega)]
 simp
 omega
theorem feeds_part : ∀ (c : List (BitVec 8)) (s : Fed), s.T.length = 64 → s.at' + c.length < 64 → feeds s c = ⟨s.H, lay s.T s.at' c, s.at' + c.length⟩
 | [], s, _, _ => by simp [feeds, lay_nil]
 | b :: c, s, hT, h => by
  simp only [List.length_cons] at h
  have e : feed s b = ⟨s.H, s.T.set s.at' b, s.at' + 1⟩ := by unfold feed; rw [if_neg (by omega)]
  have ih := feeds_part c ⟨s.H, s.T.set s.at' b, s.at' + 1⟩ (by simpa using hT) (by simp; omega)
  rw [feeds, List.foldl_cons, e]
  rw [feeds] at ih
  rw [ih, lay_cons _ _ _ _ (by omega)]
  simp; omega
theorem feeds_full : ∀ (c : List (BitVec 8)) (s : Fed), s.T.length = 64 → s.at' < 64 → s.at' + c.length = 64 → feeds s c = ⟨addB s.H (lay s.T s.at' c), zs64, 0⟩
 | [], s, _, h0, h => by simp at h; omega
 | [b], s, hT, h0, h => by
  simp at h
  have e : feed s b = ⟨addB s.H (s.T.set s.at' b), zs64, 0⟩ := by unfold feed; rw [if_pos (by omega)]
  rw [feeds, List.foldl_cons, e, List.foldl_nil, ← lay_cons _ _ _ _ (by omega), lay_nil]
 | b :: b' :: c, s, hT, h0, h => by
  simp only [List.length_cons] at h
  have e : feed s b = ⟨s.H, s.T.set s.at' b, s.at' + 1⟩ := by unfold feed; rw [if_neg (by omega)]
  have ih := feeds_full (b' :: c) ⟨s.H, s.T.set s.at' b, s.at' + 1⟩ (by simpa using hT) (by simp; omega) (by simp; omega)
  rw [feeds, List.foldl_cons, e]
  rw [feeds] at ih
  rw [ih, lay_cons _ _ _ _ (by omega)]
/-! ### the row of a state -/
def stL (H : List (BitVec 32)) (T : List (BitVec 8)) (n : Nat) : List Value := u32s H ++ u8s T ++ [.int .u64 (n : Int)]
def stRow (H : List (BitVec 32)) (T : List (BitVec 8)) (n : Nat) : Array Value := (stL H T n).toArray
theorem stRow_size {H : List (BitVec 32)} {T : List (BitVec 8)} {n : Nat} (h : H.length = 8) (t : T.length = 64) : (stRow H T n).size = 73 := by
 simp [stRow, stL, u32s, u8s, h, t]
theorem stRow_n {H : List (BitVec 32)} {T : List (BitVec 8)} {n : Nat} (h : H.length = 8) (t : T.length = 64) : (stRow H T n)[72]? = some (.int .u64 (n : Int)) := by
 simp [stRow, stL, u32s, u8s, h, t]
theorem stRow_set {H : List (BitVec 32)} {T : List (BitVec 8)} {n m : Nat} (h : H.length = 8) (t : T.length = 64) : (stRow H T n).setIfInBounds 72 (.int .u64 (m : Int)) = stRow H T m := by
 simp [stRow, stL, u32s, u8s, h, t]
theorem stRow_H {H : List (BitVec 32)} {T : List (BitVec 8)} {n : Nat} (h : H.length = 8) : (stRow H T n).extract 0 (0 + 8) = (u32s H).toArray := by
 have e : (u32s H).length = 8 := by rw [u32s_length, h]
 simp [stRow, stL, e]
theorem stRow_T {H : List (BitVec 32)} {T : List (BitVec 8)} {n : Nat} (h : H.length = 8) (t : T.length = 64) : (stRow H T n).extract 8 (8 + 64) = (u8s T).toArray := by
 have e : (u32s H).length = 8 := by rw [u32s_length, h]
 have e' : (u8s T).length = 64 := by rw [u8s_length, t]
 simp [stRow, stL, e, e']
theorem stRow_putH {H H' : List (BitVec 32)} {T : List (BitVec 8)} {n : Nat} (h : H.length = 8) (h' : H'.length = 8) : Mem.splice (stRow H T n) 0 (u32s H') = stRow H' T n := by
 have e : (u32s H).length = 8 := by rw [u32s_length, h]
 have e' : (u32s H').length = 8 := by rw [u32s_length, h']
 simp [Mem.splice, stRow, stL, e, e']
theorem stRow_putT {H : List (BitVec 32)} {T : List (BitVec 8)} {n : Nat} (h : H.length = 8) (t : T.length = 64) (a : Nat) (c : List (BitVec 8)) (hc : a + c.length ≤ 64) : Mem.splice (stRow H T n) (8 + a) (u8s c) = stRow H (lay T a c) n := by
 have e : (u32s H).length = 8 := by rw [u32s_length, h]
 have e' : (u8s c).length = c.length := u8s_length c
 have e1 : List.take (8 + a) (stL H T n) = u32s H ++ u8s (T.take a) := by
  unfold stL
  rw [List.append_assoc, List.take_append, e, List.take_of_length_le (by omega), List.take_append, u8s_length, t]
  simp [u8s, List.map_take]
  omega
 have e2 : List.drop (8 + a + c.length) (stL H T n) = u8s (T.drop (a + c.length)) ++ [.int .u64 (n : Int)] := by
  unfold stL
  rw [List.append_assoc, List.drop_append, e, List.drop_of_length_le (by omega), List.drop_append, u8s_length, t]
  have z : 8 + a + c.length - 8 - 64 = 0 := by omega
  have z' : 8 + a + c.length - 8 = a + c.length := by omega
  rw [z, z']
  simp [u8s, List.map_drop]
 unfold Mem.splice
 rw [e', show (stRow H T n).toList = stL H T n from rfl, e1, e2]
 simp [stRow, stL, lay, u8s, List.append_assoc]
/-! ### the padding -/
def padQ (t : Nat) : Nat := if t < 56 then 56 - t else 120 - t
def P0 : List (BitVec 8) := 128 :: List.replicate 71 0
def lenByte (m i : Nat) : BitVec 8 := BitVec.ofNat 8 (m / 2 ^ (56 - 8 * i))
def padRow (q m : Nat) : Nat → List (BitVec 8)
 | 0 => P0
 | i + 1 => (padRow q m i).set (q + i) (lenByte m i)
def padBytes (n : Nat) : List (BitVec 8) := (padRow (padQ (n % 64)) (n * 8) 8).take (padQ (n % 64) + 8)
theorem padRow_length (q m : Nat) : ∀ i, (padRow q m i).length = 72
 | 0 => by simp [padRow, P0]
 | i + 1 => by simp [padRow, padRow_length q m i]
theorem padQ_bd (t : Nat) (h : t < 64) : 1 ≤ padQ t ∧ padQ t ≤ 64 := by
 unfold padQ; split <;> omega
theorem padBytes_length (n : Nat) : (padBytes n).length = padQ (n % 64) + 8 := by
 have := padQ_bd (n % 64) (Nat.mod_lt _ (by decide))
 simp [padBytes, padRow_length]; omega
/-! ### the digest's bytes -/
def dRow (l : List (BitVec 32)) : Nat → List (BitVec 8)
 | 0 => List.replicate 32 0
 | i + 1 => ((((dRow l i).set (4 * i) (wb (l.getD i 0) 24)).set (4 * i + 1) (wb (l.getD i 0) 16)).set (4 * i + 2) (wb (l.getD i 0) 8)).set (4 * i + 3) (wb (l.getD i 0) 0)
theorem dRow_length (l : List (BitVec 32)) : ∀ i, (dRow l i).length = 32
 | 0 => by simp [dRow]
 | i + 1 => by simp [dRow, dRow_length l i]
def digest (s : Fed) (n : Nat) : List (BitVec 8) := dRow (adds (feeds s (padBytes n)).H IVl) 8
end Sha
end Go.Proofs.YtahcjnganedbiaaGreatDoor
