/- My own texts, merged. -/
import Derived.Test.YtahcjnganedbiaaGreatDoorBN31
import Derived.Test.YtahcjnganedbiaaGreatDoorBN25
import Derived.Test.YtahcjnganedbiaaGreatDoorBN30
import Derived.Test.YtahcjnganedbiaaGreatDoorBN09
import Derived.Deep.Cut
namespace Go.Proofs.YtahcjnganedbiaaGreatDoor
namespace Sha
open Go.RowKit Mem
theorem Wl.below {w w' : World} {v : Value} {l : List (BitVec 32)} (h : Wl w v l) (hb : Below w.heap.size w w') : Wl w' v l := by
 obtain ⟨g, c, rfl, hg, hc⟩ := h
 exact ⟨g, c, rfl, Nat.lt_of_lt_of_le hg hb.size, fun i hi => (hb.cell (p := ⟨g, i, none⟩) hg).trans (hc i hi)⟩
end Sha
end Go.Proofs.YtahcjnganedbiaaGreatDoor
namespace Go.Proofs.YtahcjnganedbiaaGreatDoor
namespace Sha
open Go.RowKit Mem
structure Kept (E : Foot) (w w' : World) : Prop where
 size : w.heap.size ≤ w'.heap.size
 block : ∀ k, E k → w'.heap[k]? = w.heap[k]?
section
end
end Sha
end Go.Proofs.YtahcjnganedbiaaGreatDoor
namespace Go.Proofs.YtahcjnganedbiaaGreatDoor
namespace Sha
open Go.RowKit Mem
structure Solo (R : StAcc) (b : Nat) (E : Foot) (w : World) (s : St6) (wr : World) : Prop where
 f : ∃ F, R F b wr s ∧ ∀ k, F k → w.heap.size ≤ k ∧ ¬ E k
 e : ∀ k, E k → k < wr.heap.size
 b : Below w.heap.size w wr
section
variable {R : StAcc} {b : Nat} {E : Foot} {w wr wx : World} {s s' : St6}
theorem Solo.call {P : Program} {f : FuncId} {vs : Array Value} {v : Value} (h : Solo R b E w s wr) (k : ∀ F, R F b wr s → Calls P f vs wr fun e w' => e = .returned v ∧ StEnd R F b wr s' w') :
 Calls P f vs wr fun e w' => e = .returned v ∧ Solo R b E w s' w' ∧ Kept E wr w' := by
 obtain ⟨F, h1, h2⟩ := h.f
 have hb := h.b.size
 refine (k F h1).mono ?_
 rintro e w' ⟨rfl, hs⟩
 obtain ⟨⟨F', h3, h4⟩, h5⟩ := hs
 exact ⟨rfl, ⟨⟨F', h3, fun y hy => (h4 y hy).elim (h2 y) (fun hw => ⟨by omega, fun he => by have := h.e y he; omega⟩)⟩, fun y hy => Nat.lt_of_lt_of_le (h.e y hy) h5.size, h5.below h.b (fun y hy => (h2 y hy).1) hb⟩, ⟨h5.size, fun y hy => h5.block y (h.e y hy) (fun hF => (h2 y hF).2 hy)⟩⟩
end
end Sha
end Go.Proofs.YtahcjnganedbiaaGreatDoor
