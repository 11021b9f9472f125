/- The document's places of the quarter rounds: its walk. -/
import Derived.Test.YtikfhabcjjoloaaDoorCipWord
namespace Go.Proofs.YtikfhabcjjoloaaDoor
namespace Sha
open Go.RowKit Mem
def ints (l : List Nat) : List Value := l.map fun (k : Nat) => .int .i64 (k : Int)
def plcRow (b : Nat) (i : Nat) : Value := .slice (some ⟨b + i, 0, none⟩) 4 4
/-- The places, in blocks from b on: eight rows, and the row of them. -/
def Plc (w : World) (b : Nat) : Prop :=
  At w (b + 8) ((List.range 8).map (plcRow b)).toArray 54 ∧ ∀ i, i < 8 → At w (b + i) (ints (plc.getD i [])).toArray 3
set_option maxRecDepth 100000 in
set_option maxHeartbeats 1000000 in
theorem places_any (w : World) : Calls Tryd.prog 25 #[] w fun e w' => e = .returned (.slice (some ⟨w.heap.size + 8, 0, none⟩) 8 8) ∧ Plc w' w.heap.size ∧ Below w.heap.size w w' := by
  go_enter Tryd.func25, Tryd.ntmps25
  go_wp2_with fail
  go_ret
  obtain ⟨w1, e1⟩ : ∃ x, x = w.alloc (.cells #[.int .i64 0, .int .i64 4, .int .i64 8, .int .i64 12] 3) := ⟨_, rfl⟩
  rw [← e1]
  obtain ⟨w2, e2⟩ : ∃ x, x = w1.alloc (.cells #[.int .i64 1, .int .i64 5, .int .i64 9, .int .i64 13] 3) := ⟨_, rfl⟩
  rw [← e2]
  obtain ⟨w3, e3⟩ : ∃ x, x = w2.alloc (.cells #[.int .i64 2, .int .i64 6, .int .i64 10, .int .i64 14] 3) := ⟨_, rfl⟩
  rw [← e3]
  obtain ⟨w4, e4⟩ : ∃ x, x = w3.alloc (.cells #[.int .i64 3, .int .i64 7, .int .i64 11, .int .i64 15] 3) := ⟨_, rfl⟩
  rw [← e4]
  obtain ⟨w5, e5⟩ : ∃ x, x = w4.alloc (.cells #[.int .i64 0, .int .i64 5, .int .i64 10, .int .i64 15] 3) := ⟨_, rfl⟩
  rw [← e5]
  obtain ⟨w6, e6⟩ : ∃ x, x = w5.alloc (.cells #[.int .i64 1, .int .i64 6, .int .i64 11, .int .i64 12] 3) := ⟨_, rfl⟩
  rw [← e6]
  obtain ⟨w7, e7⟩ : ∃ x, x = w6.alloc (.cells #[.int .i64 2, .int .i64 7, .int .i64 8, .int .i64 13] 3) := ⟨_, rfl⟩
  rw [← e7]
  obtain ⟨w8, e8⟩ : ∃ x, x = w7.alloc (.cells #[.int .i64 3, .int .i64 4, .int .i64 9, .int .i64 14] 3) := ⟨_, rfl⟩
  rw [← e8]
  have s0 : w.heap.size = w.heap.size := rfl
  have s1 : w1.heap.size = w.heap.size + 1 := by rw [e1]; simp
  have s2 : w2.heap.size = w.heap.size + 2 := by rw [e2]; simp [s1]
  have s3 : w3.heap.size = w.heap.size + 3 := by rw [e3]; simp [s2]
  have s4 : w4.heap.size = w.heap.size + 4 := by rw [e4]; simp [s3]
  have s5 : w5.heap.size = w.heap.size + 5 := by rw [e5]; simp [s4]
  have s6 : w6.heap.size = w.heap.size + 6 := by rw [e6]; simp [s5]
  have s7 : w7.heap.size = w.heap.size + 7 := by rw [e7]; simp [s6]
  have s8 : w8.heap.size = w.heap.size + 8 := by rw [e8]; simp [s7]
  obtain ⟨w9, e9⟩ : ∃ x, x = w8.alloc (.cells ((List.range 8).map (plcRow w.heap.size)).toArray 54) := ⟨_, rfl⟩
  have f9 : w9 = w8.alloc (.cells #[.slice (some ⟨w.heap.size, 0, none⟩) 4 4, .slice (some ⟨w.heap.size + 1, 0, none⟩) 4 4, .slice (some ⟨w.heap.size + 1 + 1, 0, none⟩) 4 4, .slice (some ⟨w.heap.size + 1 + 1 + 1, 0, none⟩) 4 4, .slice (some ⟨w.heap.size + 1 + 1 + 1 + 1, 0, none⟩) 4 4, .slice (some ⟨w.heap.size + 1 + 1 + 1 + 1 + 1, 0, none⟩) 4 4, .slice (some ⟨w.heap.size + 1 + 1 + 1 + 1 + 1 + 1, 0, none⟩) 4 4, .slice (some ⟨w.heap.size + 1 + 1 + 1 + 1 + 1 + 1 + 1, 0, none⟩) 4 4] 54) := e9
  rw [← f9]
  have a0 : At w9 (w.heap.size + 0) (ints (plc.getD 0 [])).toArray 3 := by
    have h : At w1 (w.heap.size + 0) (ints (plc.getD 0 [])).toArray 3 := by have h := at_new w (ints (plc.getD 0 [])).toArray 3; rw [s0] at h; rw [e1]; exact h
    replace h := h.alloc (.cells #[.int .i64 1, .int .i64 5, .int .i64 9, .int .i64 13] 3); rw [← e2] at h
    replace h := h.alloc (.cells #[.int .i64 2, .int .i64 6, .int .i64 10, .int .i64 14] 3); rw [← e3] at h
    replace h := h.alloc (.cells #[.int .i64 3, .int .i64 7, .int .i64 11, .int .i64 15] 3); rw [← e4] at h
    replace h := h.alloc (.cells #[.int .i64 0, .int .i64 5, .int .i64 10, .int .i64 15] 3); rw [← e5] at h
    replace h := h.alloc (.cells #[.int .i64 1, .int .i64 6, .int .i64 11, .int .i64 12] 3); rw [← e6] at h
    replace h := h.alloc (.cells #[.int .i64 2, .int .i64 7, .int .i64 8, .int .i64 13] 3); rw [← e7] at h
    replace h := h.alloc (.cells #[.int .i64 3, .int .i64 4, .int .i64 9, .int .i64 14] 3); rw [← e8] at h
    replace h := h.alloc (.cells ((List.range 8).map (plcRow w.heap.size)).toArray 54); rw [← e9] at h
    exact h
  have a1 : At w9 (w.heap.size + 1) (ints (plc.getD 1 [])).toArray 3 := by
    have h : At w2 (w.heap.size + 1) (ints (plc.getD 1 [])).toArray 3 := by have h := at_new w1 (ints (plc.getD 1 [])).toArray 3; rw [s1] at h; rw [e2]; exact h
    replace h := h.alloc (.cells #[.int .i64 2, .int .i64 6, .int .i64 10, .int .i64 14] 3); rw [← e3] at h
    replace h := h.alloc (.cells #[.int .i64 3, .int .i64 7, .int .i64 11, .int .i64 15] 3); rw [← e4] at h
    replace h := h.alloc (.cells #[.int .i64 0, .int .i64 5, .int .i64 10, .int .i64 15] 3); rw [← e5] at h
    replace h := h.alloc (.cells #[.int .i64 1, .int .i64 6, .int .i64 11, .int .i64 12] 3); rw [← e6] at h
    replace h := h.alloc (.cells #[.int .i64 2, .int .i64 7, .int .i64 8, .int .i64 13] 3); rw [← e7] at h
    replace h := h.alloc (.cells #[.int .i64 3, .int .i64 4, .int .i64 9, .int .i64 14] 3); rw [← e8] at h
    replace h := h.alloc (.cells ((List.range 8).map (plcRow w.heap.size)).toArray 54); rw [← e9] at h
    exact h
  have a2 : At w9 (w.heap.size + 2) (ints (plc.getD 2 [])).toArray 3 := by
    have h : At w3 (w.heap.size + 2) (ints (plc.getD 2 [])).toArray 3 := by have h := at_new w2 (ints (plc.getD 2 [])).toArray 3; rw [s2] at h; rw [e3]; exact h
    replace h := h.alloc (.cells #[.int .i64 3, .int .i64 7, .int .i64 11, .int .i64 15] 3); rw [← e4] at h
    replace h := h.alloc (.cells #[.int .i64 0, .int .i64 5, .int .i64 10, .int .i64 15] 3); rw [← e5] at h
    replace h := h.alloc (.cells #[.int .i64 1, .int .i64 6, .int .i64 11, .int .i64 12] 3); rw [← e6] at h
    replace h := h.alloc (.cells #[.int .i64 2, .int .i64 7, .int .i64 8, .int .i64 13] 3); rw [← e7] at h
    replace h := h.alloc (.cells #[.int .i64 3, .int .i64 4, .int .i64 9, .int .i64 14] 3); rw [← e8] at h
    replace h := h.alloc (.cells ((List.range 8).map (plcRow w.heap.size)).toArray 54); rw [← e9] at h
    exact h
  have a3 : At w9 (w.heap.size + 3) (ints (plc.getD 3 [])).toArray 3 := by
    have h : At w4 (w.heap.size + 3) (ints (plc.getD 3 [])).toArray 3 := by have h := at_new w3 (ints (plc.getD 3 [])).toArray 3; rw [s3] at h; rw [e4]; exact h
    replace h := h.alloc (.cells #[.int .i64 0, .int .i64 5, .int .i64 10, .int .i64 15] 3); rw [← e5] at h
    replace h := h.alloc (.cells #[.int .i64 1, .int .i64 6, .int .i64 11, .int .i64 12] 3); rw [← e6] at h
    replace h := h.alloc (.cells #[.int .i64 2, .int .i64 7, .int .i64 8, .int .i64 13] 3); rw [← e7] at h
    replace h := h.alloc (.cells #[.int .i64 3, .int .i64 4, .int .i64 9, .int .i64 14] 3); rw [← e8] at h
    replace h := h.alloc (.cells ((List.range 8).map (plcRow w.heap.size)).toArray 54); rw [← e9] at h
    exact h
  have a4 : At w9 (w.heap.size + 4) (ints (plc.getD 4 [])).toArray 3 := by
    have h : At w5 (w.heap.size + 4) (ints (plc.getD 4 [])).toArray 3 := by have h := at_new w4 (ints (plc.getD 4 [])).toArray 3; rw [s4] at h; rw [e5]; exact h
    replace h := h.alloc (.cells #[.int .i64 1, .int .i64 6, .int .i64 11, .int .i64 12] 3); rw [← e6] at h
    replace h := h.alloc (.cells #[.int .i64 2, .int .i64 7, .int .i64 8, .int .i64 13] 3); rw [← e7] at h
    replace h := h.alloc (.cells #[.int .i64 3, .int .i64 4, .int .i64 9, .int .i64 14] 3); rw [← e8] at h
    replace h := h.alloc (.cells ((List.range 8).map (plcRow w.heap.size)).toArray 54); rw [← e9] at h
    exact h
  have a5 : At w9 (w.heap.size + 5) (ints (plc.getD 5 [])).toArray 3 := by
    have h : At w6 (w.heap.size + 5) (ints (plc.getD 5 [])).toArray 3 := by have h := at_new w5 (ints (plc.getD 5 [])).toArray 3; rw [s5] at h; rw [e6]; exact h
    replace h := h.alloc (.cells #[.int .i64 2, .int .i64 7, .int .i64 8, .int .i64 13] 3); rw [← e7] at h
    replace h := h.alloc (.cells #[.int .i64 3, .int .i64 4, .int .i64 9, .int .i64 14] 3); rw [← e8] at h
    replace h := h.alloc (.cells ((List.range 8).map (plcRow w.heap.size)).toArray 54); rw [← e9] at h
    exact h
  have a6 : At w9 (w.heap.size + 6) (ints (plc.getD 6 [])).toArray 3 := by
    have h : At w7 (w.heap.size + 6) (ints (plc.getD 6 [])).toArray 3 := by have h := at_new w6 (ints (plc.getD 6 [])).toArray 3; rw [s6] at h; rw [e7]; exact h
    replace h := h.alloc (.cells #[.int .i64 3, .int .i64 4, .int .i64 9, .int .i64 14] 3); rw [← e8] at h
    replace h := h.alloc (.cells ((List.range 8).map (plcRow w.heap.size)).toArray 54); rw [← e9] at h
    exact h
  have a7 : At w9 (w.heap.size + 7) (ints (plc.getD 7 [])).toArray 3 := by
    have h : At w8 (w.heap.size + 7) (ints (plc.getD 7 [])).toArray 3 := by have h := at_new w7 (ints (plc.getD 7 [])).toArray 3; rw [s7] at h; rw [e8]; exact h
    replace h := h.alloc (.cells ((List.range 8).map (plcRow w.heap.size)).toArray 54); rw [← e9] at h
    exact h
  have t9 : At w9 (w.heap.size + 8) ((List.range 8).map (plcRow w.heap.size)).toArray 54 := by have h := at_new w8 ((List.range 8).map (plcRow w.heap.size)).toArray 54; rw [s8] at h; rw [e9]; exact h
  have b9 : Below w.heap.size w w9 := by
    have h := Below.refl w.heap.size w
    replace h := h.alloc (by omega) (.cells #[.int .i64 0, .int .i64 4, .int .i64 8, .int .i64 12] 3); rw [← e1] at h
    replace h := h.alloc (by omega) (.cells #[.int .i64 1, .int .i64 5, .int .i64 9, .int .i64 13] 3); rw [← e2] at h
    replace h := h.alloc (by omega) (.cells #[.int .i64 2, .int .i64 6, .int .i64 10, .int .i64 14] 3); rw [← e3] at h
    replace h := h.alloc (by omega) (.cells #[.int .i64 3, .int .i64 7, .int .i64 11, .int .i64 15] 3); rw [← e4] at h
    replace h := h.alloc (by omega) (.cells #[.int .i64 0, .int .i64 5, .int .i64 10, .int .i64 15] 3); rw [← e5] at h
    replace h := h.alloc (by omega) (.cells #[.int .i64 1, .int .i64 6, .int .i64 11, .int .i64 12] 3); rw [← e6] at h
    replace h := h.alloc (by omega) (.cells #[.int .i64 2, .int .i64 7, .int .i64 8, .int .i64 13] 3); rw [← e7] at h
    replace h := h.alloc (by omega) (.cells #[.int .i64 3, .int .i64 4, .int .i64 9, .int .i64 14] 3); rw [← e8] at h
    replace h := h.alloc (by omega) (.cells ((List.range 8).map (plcRow w.heap.size)).toArray 54); rw [← e9] at h
    exact h
  refine ⟨rfl, ⟨t9, fun i hi => ?_⟩, b9⟩
  match i, hi with
  | 0, _ => exact a0
  | 1, _ => exact a1
  | 2, _ => exact a2
  | 3, _ => exact a3
  | 4, _ => exact a4
  | 5, _ => exact a5
  | 6, _ => exact a6
  | 7, _ => exact a7
end Sha
end Go.Proofs.YtikfhabcjjoloaaDoor
