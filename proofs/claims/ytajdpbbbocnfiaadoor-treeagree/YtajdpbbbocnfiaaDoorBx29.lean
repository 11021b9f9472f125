/- The document's step: a block turns a state. The document's digest: its walk; it is the program's. Layer 13: alive, over the contracts. Layer 13: NodeBack, over the contracts. -/
import Derived.Test.YtajdpbbbocnfiaaDoorBx03
import Derived.Test.YtajdpbbbocnfiaaDoorBx01
import Derived.Test.YtajdpbbbocnfiaaDoorBx17
import Derived.Test.YtajdpbbbocnfiaaDoorBx00
import Derived.Test.YtajdpbbbocnfiaaDoorBx24
import Derived.Test.YtajdpbbbocnfiaaDoorBx23
namespace Go.Proofs.YtajdpbbbocnfiaaDoor
namespace Sha
open Go.RowKit Mem
/-- A slice of words from its block's head on. -/
def Wl (w : World) (v : Value) (l : List (BitVec 32)) : Prop := ∃ g c, v = .slice (some ⟨g, 0, none⟩) l.length c ∧ g < w.heap.size ∧ ∀ i, i < l.length → w.cell? ⟨g, i, none⟩ = some (.int .u32 (V (l.getD i 0)))
end Sha
end Go.Proofs.YtajdpbbbocnfiaaDoor
namespace Go.Proofs.YtajdpbbbocnfiaaDoor
namespace Sha
open Go.RowKit Mem
theorem Wl.below {w w' : World} {v : Value} {l : List (BitVec 32)} (h : Wl w v l) (hb : Below w.heap.size w w') : Wl w' v l := by
  obtain ⟨g, c, rfl, hg, hc⟩ := h
  exact ⟨g, c, rfl, Nat.lt_of_lt_of_le hg hb.size, fun i hi => (hb.cell (p := ⟨g, i, none⟩) hg).trans (hc i hi)⟩
end Sha
end Go.Proofs.YtajdpbbbocnfiaaDoor
namespace Go.Proofs.YtajdpbbbocnfiaaDoor
namespace Sha
open Go.RowKit Mem
set_option maxRecDepth 100000
def r1 : RefV := ⟨1, 0, List.replicate 32 0⟩
end Sha
end Go.Proofs.YtajdpbbbocnfiaaDoor
namespace Go.Proofs.YtajdpbbbocnfiaaDoor
namespace Sha
open Go.RowKit Mem
set_option maxRecDepth 100000
theorem parseN_ok {p : List (BitVec 8)} {z : Int} {K : List RefV} (h : parseN p z = (K, 0)) : layN K = (p, 0) ∧ (K.length : Int) = z := by
  unfold parseN at h
  split at h
  · injection h with _ h; cases h
  · split at h
    · injection h with _ h; cases h
    · rename_i hc
      refine ⟨allN_lay h, ?_⟩
      rw [h] at hc
      exact Classical.byContradiction fun x => hc ⟨rfl, x⟩
end Sha
end Go.Proofs.YtajdpbbbocnfiaaDoor
