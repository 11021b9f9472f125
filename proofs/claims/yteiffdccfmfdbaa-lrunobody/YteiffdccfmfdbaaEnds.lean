/- How a call that tells bytes ends. -/
import Derived.Test.YteiffdccfmfdbaaSl
namespace Go.Proofs.Yteiffdccfmfdbaa
namespace Sha
open Go.RowKit Mem
/-- It returns a slice of its own, just the list L, in a block that fills. -/
def SEnd (w : World) (L : List (BitVec 8)) (e : Ending) (w' : World) : Prop :=
  ∃ g, e = .returned (.slice (some ⟨g, 0, none⟩) L.length L.length) ∧ At w' g (u8s L).toArray 5 ∧ w.heap.size ≤ g ∧ Below w.heap.size w w'
/-- It returns a slice that reads as L. -/
def RSEnd (w : World) (L : List (BitVec 8)) (e : Ending) (w' : World) : Prop := ∃ v, e = .returned v ∧ Sl w' v L ∧ Below w.heap.size w w'
theorem send_r {w w' : World} {L : List (BitVec 8)} {e : Ending} (h : SEnd w L e w') : RSEnd w L e w' := by
  obtain ⟨g, rfl, ha, _, hb⟩ := h
  exact ⟨_, rfl, at_sl ha rfl, hb⟩
/-- It returns a slice that reads as L, and a number. -/
def TwoEnd (w : World) (L : List (BitVec 8)) (n : Int) (e : Ending) (w' : World) : Prop := ∃ v, e = .returned (.tuple #[v, .int .i64 n]) ∧ Sl w' v L ∧ Below w.heap.size w w'
theorem sl_none (w : World) : Sl w (.slice none 0 0) [] := ⟨none, 0, rfl, by simp, fun h => absurd rfl h⟩
end Sha
end Go.Proofs.Yteiffdccfmfdbaa
