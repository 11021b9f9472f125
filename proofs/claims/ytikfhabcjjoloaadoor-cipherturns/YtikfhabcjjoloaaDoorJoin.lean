/- Two lists of bytes joined (either): mathematics. -/
import Derived.Test.YtikfhabcjjoloaaDoorShaMath
namespace Go.Proofs.YtikfhabcjjoloaaDoor
namespace Sha
/-- Two lists of bytes joined (either). -/
def joinB (a b : List (BitVec 8)) : List (BitVec 8) := List.zipWith (· ^^^ ·) a b
def joinTo (a b : List (BitVec 8)) (i : Nat) : List (BitVec 8) := (joinB a b).take i ++ a.drop i
theorem joinB_length (a b : List (BitVec 8)) (h : a.length = b.length) : (joinB a b).length = a.length := by simp [joinB, h]
theorem joinTo_length (a b : List (BitVec 8)) (h : a.length = b.length) (i : Nat) : (joinTo a b i).length = a.length := by
  simp [joinTo, joinB, h]; omega
theorem joinTo_zero (a b : List (BitVec 8)) : joinTo a b 0 = a := by simp [joinTo]
theorem joinTo_all (a b : List (BitVec 8)) (h : a.length = b.length) : joinTo a b a.length = joinB a b := by
  unfold joinTo
  rw [List.take_of_length_le (by rw [joinB_length a b h]; omega), List.drop_length, List.append_nil]
theorem joinTo_get (a b : List (BitVec 8)) (h : a.length = b.length) (i : Nat) (hi : i < a.length) : (joinTo a b i).getD i 0 = a.getD i 0 := by
  unfold joinTo
  rw [List.getD_eq_getElem?_getD, List.getD_eq_getElem?_getD, List.getElem?_append_right (by rw [List.length_take, joinB_length a b h]; omega)]
  rw [List.length_take, joinB_length a b h, Nat.min_eq_left (Nat.le_of_lt hi)]
  simp
theorem joinB_get (a b : List (BitVec 8)) (h : a.length = b.length) (i : Nat) (hi : i < a.length) : (joinB a b).getD i 0 = a.getD i 0 ^^^ b.getD i 0 := by
  have hb : i < b.length := by omega
  simp [joinB, List.getD_eq_getElem?_getD, List.getElem?_zipWith, hi, hb]
theorem joinB_next (a b : List (BitVec 8)) (h : a.length = b.length) (i : Nat) (hi : i < a.length) : (joinB a b).take (i + 1) = (joinB a b).take i ++ [a.getD i 0 ^^^ b.getD i 0] := by
  have hl : i < (joinB a b).length := by rw [joinB_length a b h]; exact hi
  rw [List.take_succ_eq_append_getElem hl, ← joinB_get a b h i hi]
  simp [hl]
theorem joinTo_set (a b : List (BitVec 8)) (h : a.length = b.length) (i : Nat) (hi : i < a.length) : (joinTo a b i).set i (a.getD i 0 ^^^ b.getD i 0) = joinTo a b (i + 1) := by
  unfold joinTo
  rw [joinB_next a b h i hi, List.set_append_right _ _ (by rw [List.length_take, joinB_length a b h]; omega), List.length_take, joinB_length a b h, Nat.min_eq_left (Nat.le_of_lt hi), Nat.sub_self, List.drop_eq_getElem_cons hi, List.set_cons_zero, List.append_assoc]
  rfl
theorem joinB_zero (a : List (BitVec 8)) (n : Nat) (h : a.length = n) : joinB (List.replicate n 0) a = a := by
  subst h
  apply List.ext_getElem (by simp [joinB])
  intro i h1 h2
  simp [joinB]
end Sha
end Go.Proofs.YtikfhabcjjoloaaDoor
