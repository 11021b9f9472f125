/- Layer 12: ShapeUnder, over the contracts: every input. -/
import Derived.Test.YtbboljmemomcnaaShpUnder
import Derived.Test.YtbboljmemomcnaaShpUnderIn
namespace Go.Proofs.Ytbboljmemomcnaa
namespace Sha
open Go.RowKit Mem
theorem under12_core (S : ShP) (z y : Int) (w : World) : Calls Try.prog 6 #[.int .i64 z, .int .i64 y] w fun e w' => e = .returned (.bool true) ∧ Below w.heap.size w w' := by
  by_cases h : z < 1 ∨ 216 < z
  · exact under12_bad S z y w h
  · obtain ⟨p, rfl⟩ : ∃ p : Nat, z = (p : Int) := ⟨z.toNat, by omega⟩
    by_cases hy : 0 ≤ y ∧ y < (p : Int)
    · obtain ⟨g, rfl⟩ : ∃ g : Nat, y = (g : Int) := ⟨y.toNat, by omega⟩
      exact under12_in S p g w (by omega) (by omega) (by omega)
    · exact under12_out S p y w (by omega) (by omega) hy
end Sha
end Go.Proofs.Ytbboljmemomcnaa
