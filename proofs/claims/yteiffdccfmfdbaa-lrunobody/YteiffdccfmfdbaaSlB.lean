/- Bytes in blocks of a footprint. -/
import Derived.Test.YteiffdccfmfdbaaFoot
import Derived.Test.YteiffdccfmfdbaaSl
import Derived.Test.YteiffdccfmfdbaaEnds
import Derived.Test.YteiffdccfmfdbaaSlice
namespace Go.Proofs.Yteiffdccfmfdbaa
namespace Sha
open Go.RowKit Mem
/-- Bytes in blocks of F. -/
def SlB (F : Foot) (w : World) (v : Value) (l : List (BitVec 8)) : Prop := SlR F w 1 v l.length (u8s l)
theorem SlB.sl {F : Foot} {w : World} {v : Value} {l : List (BitVec 8)} (h : SlB F w v l) : Sl w v l := by
  obtain ⟨_, a, cap, rfl, hc, hr⟩ := h
  refine ⟨a, cap, rfl, hc, fun hne => ?_⟩
  obtain ⟨bb, oo, ea, _, hlt, hcell⟩ := hr (fun h0 => hne (List.eq_nil_of_length_eq_zero h0))
  exact ⟨bb, oo, ea, hlt, fun i hi => hcell i _ (u8s_get l i hi)⟩
theorem SlB.keep {F : Foot} {w w' : World} {v : Value} {l : List (BitVec 8)} (h : SlB F w v l) (hs : w.heap.size ≤ w'.heap.size) (hk : ∀ k, F k → k < w.heap.size → w'.heap[k]? = w.heap[k]?) : SlB F w' v l := SlR.keep h hs hk
theorem SlB.mono {F G : Foot} {w : World} {v : Value} {l : List (BitVec 8)} (h : SlB F w v l) (hs : ∀ k, F k → k < w.heap.size → G k) : SlB G w v l := SlR.mono h hs
theorem OwnB.slB {w : World} {B : Nat} {v : Value} {l : List (BitVec 8)} (h : OwnB w B v l) : SlB (fun k => B ≤ k) w v l := ownsRow_slR h
theorem slB_nil (F : Foot) (w : World) : SlB F w (.slice none 0 0) [] := SlR.nil F w 1
end Sha
end Go.Proofs.Yteiffdccfmfdbaa
