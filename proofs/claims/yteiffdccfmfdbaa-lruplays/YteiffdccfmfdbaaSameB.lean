/- Whether two lists of bytes are the same. -/
import Derived.Test.YteiffdccfmfdbaaSl
namespace Go.Proofs.Yteiffdccfmfdbaa
namespace Sha
open Go.RowKit Mem
/-- Are both the same? -/
def sameB (l m : List (BitVec 8)) : Bool := l == m
theorem sameB_self (l : List (BitVec 8)) : sameB l l = true := by simp [sameB]
theorem sameB_comm (l m : List (BitVec 8)) : sameB l m = sameB m l := by unfold sameB; rw [Bool.eq_iff_iff, beq_iff_eq, beq_iff_eq]; exact eq_comm
theorem sameB_len (l m : List (BitVec 8)) (h : l.length ≠ m.length) : sameB l m = false := by
  unfold sameB
  rw [Bool.eq_false_iff]
  intro e
  exact h (by rw [beq_iff_eq.1 e])
theorem B8_inj {x y : BitVec 8} (h : B8 x = B8 y) : x = y := by
  unfold B8 at h
  exact BitVec.eq_of_toNat_eq (by omega)
theorem sameB_at (l m : List (BitVec 8)) (j : Nat) (h : l.getD j 0 ≠ m.getD j 0) : sameB l m = false := by
  unfold sameB
  rw [Bool.eq_false_iff]
  intro e
  exact h (by rw [beq_iff_eq.1 e])
theorem take_next (l m : List (BitVec 8)) (j : Nat) (h1 : j < l.length) (h2 : j < m.length) (h : l.take j = m.take j) (hx : l.getD j 0 = m.getD j 0) : l.take (j + 1) = m.take (j + 1) := by
  have e1 : l.getD j 0 = l[j] := by simp [h1]
  have e2 : m.getD j 0 = m[j] := by simp [h2]
  rw [List.take_succ_eq_append_getElem h1, List.take_succ_eq_append_getElem h2, h, ← e1, ← e2, hx]
end Sha
end Go.Proofs.Yteiffdccfmfdbaa
