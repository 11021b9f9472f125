/- Package-level tables that are laid: their cells. Over any program. -/
import Derived.Test.YtikfhabcjjoloaaDoorSl
namespace Go.Proofs.YtikfhabcjjoloaaDoor
namespace Sha
open Go.RowKit Mem
/-- The variable in block g holds these cells. -/
structure TabV (w : World) (g : Nat) (cs : List Value) : Prop where
  lt : g < w.heap.size
  c : w.rangeAt g 0 cs
theorem TabV.below {w w' : World} {B g : Nat} {cs : List Value} (h : TabV w g cs) (hb : Below B w w') (hlt : g < B) : TabV w' g cs :=
  ⟨Nat.lt_of_lt_of_le h.lt hb.size, fun j v hv => by rw [hb.cell (p := ⟨g, 0 + j, none⟩) hlt]; exact h.c j v hv⟩
/-- The first i words of a row of n, the others 0. -/
def rowY (l : List (BitVec 32)) (n i : Nat) : List (BitVec 32) := l.take i ++ List.replicate (n - i) 0
theorem rowY_length (l : List (BitVec 32)) (n i : Nat) (hl : l.length = n) (h : i ≤ n) : (rowY l n i).length = n := by simp [rowY, hl]; omega
theorem rowY_set (l : List (BitVec 32)) (n i : Nat) (hl : l.length = n) (h : i < n) : (rowY l n i).set i (l.getD i 0) = rowY l n (i + 1) := by
  unfold rowY
  have hi : i < l.length := by omega
  rw [List.set_append_right _ _ (by rw [List.length_take]; omega), List.length_take, Nat.min_eq_left (by omega), Nat.sub_self, show n - i = (n - (i + 1)) + 1 by omega, List.replicate_succ, List.set_cons_zero, List.take_succ_eq_append_getElem hi, List.append_assoc]
  simp [List.getD_eq_getElem?_getD, hi]
theorem rowY_all (l : List (BitVec 32)) (n : Nat) (hl : l.length = n) : rowY l n n = l := by
  unfold rowY
  rw [List.take_of_length_le (by omega)]
  simp
end Sha
end Go.Proofs.YtikfhabcjjoloaaDoor
