/- What every walk imports; blocks that are kept. Over any program. -/
import Derived.Test.YteiffdccfmfdbaaChecked
import Derived.Test.YteiffdccfmfdbaaNum
import Derived.Test.YteiffdccfmfdbaaOwn
import Derived.Test.YteiffdccfmfdbaaPlan2
import Derived.WalkSpells
import Derived.WalkLawsBesides
import Derived.Lib.Hide
import Derived.Deep.QuietTactic
import Derived.BigQuiet
import Derived.Deep.MidRow
import Derived.Deep.DeepFit
namespace Go.Proofs.Yteiffdccfmfdbaa
namespace Sha
open Go.RowKit Mem
theorem at_keep {w w' : World} {b c : Nat} {C : Array Value} {t : TypeId} (h : At w c C t) (o : ∀ k, k ≠ b → w'.heap[k]? = w.heap[k]?) (hne : c ≠ b) : At w' c C t := by
  unfold At at *; rw [o c hne]; exact h
theorem At.app {w w' : World} {b : Nat} {C : Array Value} {t : TypeId} {v : Value} (h : At w b C t) (hk : ∀ k, k < w.heap.size → v.ownBlock ≠ some k → w'.heap[k]? = w.heap[k]?) (hne : v.ownBlock ≠ some b) : At w' b C t := by
  have hl := h.lt
  unfold At at *
  rw [hk b hl hne]; exact h
theorem But.over {b c : Nat} {w w' w2 : World} (h : But b w w') (k : But c w' w2) (hc : w.heap.size ≤ c) : But b w w2 :=
  ⟨Nat.le_trans h.size k.size, fun j hj hne => (k.block j (Nat.lt_of_lt_of_le hj h.size) (by omega)).trans (h.block j hj hne)⟩
theorem But.same {b : Nat} {w w' w2 : World} (h : But b w w') (k : But b w' w2) : But b w w2 :=
  ⟨Nat.le_trans h.size k.size, fun j hj hne => (k.block j (Nat.lt_of_lt_of_le hj h.size) hne).trans (h.block j hj hne)⟩
end Sha
end Go.Proofs.Yteiffdccfmfdbaa
