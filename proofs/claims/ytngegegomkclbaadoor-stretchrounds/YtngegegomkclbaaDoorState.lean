/- The digest's functions by the bytes so far: a state is that of its bytes. -/
import Derived.Test.YtngegegomkclbaaDoorBytes
namespace Go.Proofs.YtngegegomkclbaaDoor
namespace Sha
open Go.RowKit Mem

/-- The state of bytes, as a row. -/
def stOf (l : List (BitVec 8)) : Array Value := stRow (feeds fed0 l).H (feeds fed0 l).T l.length
theorem stOf_size (l : List (BitVec 8)) : (stOf l).size = 73 := stRow_size (feeds_ok l fed0_ok).h (feeds_ok l fed0_ok).t
theorem stOf_one (l : List (BitVec 8)) : (stOf l).all (·.oneCell') = true := stRow_one
theorem stOf_nil : stOf [] = Zst := rfl
def dgOf (l : List (BitVec 8)) : Array Value := (u8s (digestOf l)).toArray
theorem dgOf_size (l : List (BitVec 8)) : (dgOf l).size = 32 := by simp [dgOf, u8s, digestOf_length]
theorem dgOf_one (l : List (BitVec 8)) : (dgOf l).all (·.oneCell') = true := u8s_one _
theorem stWrite (l m : List (BitVec 8)) (v : Value) (w : World) (hN : l.length + m.length ≤ 9223372036854775807) (hv : Sl w v m) (hL : Tabs w) :
    Calls Tryd.prog 43 #[.agg (stOf l), v] w fun e w' => e = .returned (.agg (stOf (l ++ m))) ∧ Below w.heap.size w w' := by
  have h := write_any (feeds fed0 l) (feeds_ok l fed0_ok) l.length (by have := feeds_mod fed0 fed0_ok l 0 rfl; rw [Nat.zero_add] at this; exact this) m v w hN hv hL
  rw [← feeds_append, ← List.length_append] at h
  exact h
theorem stSum (l : List (BitVec 8)) (w : World) (hN : l.length ≤ 1152921504606846975) (hL : Tabs w) :
    Calls Tryd.prog 32 #[.agg (stOf l)] w fun e w' => e = .returned (.agg (dgOf l)) ∧ Below w.heap.size w w' :=
  sum_any (feeds fed0 l) (feeds_ok l fed0_ok) l.length (by have := feeds_mod fed0 fed0_ok l 0 rfl; rw [Nat.zero_add] at this; exact this) w hN hL
theorem eql_dg (l : List (BitVec 8)) (x y : Operand) (w : World) : (do eqGuard .eql 25 x y (.agg (dgOf l)) (.agg (dgOf l)); binOp .eql 25 (.agg (dgOf l)) (.agg (dgOf l)) : Sem Value).run Tryd.prog w = .ok (.bool true) w := by
  have := eql_bytes (P := Tryd.prog) w 25 5 32 x y Tryd.underlying25 Tryd.underlying5 infoB (by kernel_rfl) _ _ (digestOf_length l) (digestOf_length l)
  unfold dgOf
  rw [this]; simp
theorem run_allocSt (w : World) : (Instr.alloc 55 true (.tuple #[])).run Tryd.prog w = .ok (.pointer (some ⟨w.heap.size, 0, none⟩)) (w.alloc (.cells Zst 55)) := by kernel_rfl
theorem run_allocDg (w : World) : (Instr.alloc 25 true (.tuple #[])).run Tryd.prog w = .ok (.pointer (some ⟨w.heap.size, 0, none⟩)) (w.alloc (.cells Z32 25)) := by kernel_rfl
end Sha
end Go.Proofs.YtngegegomkclbaaDoor
