/- My own texts, merged. -/
import Derived.Test.YtahcjnganedbiaaGreatDoorBN09
import Derived.Test.YtahcjnganedbiaaGreatDoorBN08
namespace Go.Proofs.YtahcjnganedbiaaGreatDoor
namespace Sha
open Go.RowKit Mem
def SEnd (w : World) (L : List (BitVec 8)) (e : Ending) (w' : World) : Prop :=
 ∃ g, e = .returned (.slice (some ⟨g, 0, none⟩) L.length L.length) ∧ At w' g (u8s L).toArray 5 ∧ w.heap.size ≤ g ∧ Below w.heap.size w w'
def RSEnd (w : World) (L : List (BitVec 8)) (e : Ending) (w' : World) : Prop := ∃ v, e = .returned v ∧ Sl w' v L ∧ Below w.heap.size w w'
theorem sl_none (w : World) : Sl w (.slice none 0 0) [] := ⟨none, 0, rfl, by simp, fun h => absurd rfl h⟩
def rowZ (l : List (BitVec 8)) (n i : Nat) : List (BitVec 8) := l.take i ++ List.replicate (n - i) 0
theorem rowZ_length (l : List (BitVec 8)) (n i : Nat) (hl : l.length = n) (h : i ≤ n) : (rowZ l n i).length = n := by simp [rowZ, hl]; omega
theorem rowZ_set (l : List (BitVec 8)) (n i : Nat) (hl : l.length = n) (h : i < n) : (rowZ l n i).set i (l.getD i 0) = rowZ l n (i + 1) := by
 unfold rowZ
 have hi : i < l.length := by omega
 rw [List.set_append_right _ _ (by rw [List.length_take]; omega), List.length_take, Nat.min_eq_left (by omega), Nat.sub_self, show n - i = (n - (i + 1)) + 1 by omega, List.replicate_succ, List.set_cons_zero, List.take_succ_eq_append_getElem hi, List.append_assoc]
 simp [List.getD_eq_getElem?_getD, hi]
theorem rowZ_all (l : List (BitVec 8)) (n : Nat) (hl : l.length = n) : rowZ l n n = l := by
 unfold rowZ
 rw [List.take_of_length_le (by omega)]
 simp
def qOf (q : Q4) : Array Value := (u32s q.list).toArray
def Z4 : Array Value := (u32s [0, 0, 0, 0]).toArray
theorem zero4 (w : World) : (zeroValue 240).run Tryz.prog w = .ok (.agg Z4) w := by kernel_rfl
theorem infoQ : (Tryz.prog.info? 240).map (·.size) = some 4 := by kernel_rfl
theorem infoU32 : (Tryz.prog.info? 62).map (·.size) = some 1 := by kernel_rfl
structure TabV (w : World) (g : Nat) (cs : List Value) : Prop where
 lt : g < w.heap.size
 c : w.rangeAt g 0 cs
theorem TabV.below {w w' : World} {B g : Nat} {cs : List Value} (h : TabV w g cs) (hb : Below B w w') (hlt : g < B) : TabV w' g cs :=
 ⟨Nat.lt_of_lt_of_le h.lt hb.size, fun j v hv => by rw [hb.cell (p := ⟨g, 0 + j, none⟩) hlt]; exact h.c j v hv⟩
def rowY (l : List (BitVec 32)) (n i : Nat) : List (BitVec 32) := l.take i ++ List.replicate (n - i) 0
theorem rowY_length (l : List (BitVec 32)) (n i : Nat) (hl : l.length = n) (h : i ≤ n) : (rowY l n i).length = n := by simp [rowY, hl]; omega
theorem rowY_set (l : List (BitVec 32)) (n i : Nat) (hl : l.length = n) (h : i < n) : (rowY l n i).set i (l.getD i 0) = rowY l n (i + 1) := by
 unfold rowY
 have hi : i < l.length := by omega
 rw [List.set_append_right _ _ (by rw [List.length_take]; omega), List.length_take, Nat.min_eq_left (by omega), Nat.sub_self, show n - i = (n - (i + 1)) + 1 by omega, List.replicate_succ, List.set_cons_zero, List.take_succ_eq_append_getElem hi, List.append_assoc]
 simp [List.getD_eq_getElem?_getD, hi]
theorem rowY_all (l : List (BitVec 32)) (n : Nat) (hl : l.length = n) : rowY l n n = l := by
 unfold rowY
 rw [List.take_of_length_le (by omega)]
 simp
end Sha
end Go.Proofs.YtahcjnganedbiaaGreatDoor
