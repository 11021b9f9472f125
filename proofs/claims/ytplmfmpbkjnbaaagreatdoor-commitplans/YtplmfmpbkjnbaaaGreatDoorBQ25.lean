/- The laws of layer 6: alive: its walk, over the contracts. The program's store and the document's, side by side, while a step is done. -/
import Derived.Test.YtplmfmpbkjnbaaaGreatDoorBQ20
import Derived.Test.YtplmfmpbkjnbaaaGreatDoorBQ02
namespace Go.Proofs.YtplmfmpbkjnbaaaGreatDoor
namespace Sha
open Go.RowKit Mem
structure Apart (R:StAcc) (b:Nat) (s:St6) (v:Value) (l:Lb8) (w wr:World):Prop where
 h:∃ F G,R F b wr s∧(∀ k,F k→w.heap.size≤k∧¬ G k)∧SlB G wr v l∧∀ k,G k→k < wr.heap.size
 b:Below w.heap.size w wr
theorem Apart.sl {R:StAcc} {b:Nat} {s:St6} {v:Value} {l:Lb8} {w wr:World} (h:Apart R b s v l w wr):Sl wr v l:=by
 obtain ⟨_,_,_,_,h,_⟩:=h.h;exact h.sl
end Sha
end Go.Proofs.YtplmfmpbkjnbaaaGreatDoor
namespace Go.Proofs.YtplmfmpbkjnbaaaGreatDoor
namespace Sha
open Go.RowKit Mem
structure Kept (E:Foot) (w w':World):Prop where
 size:w.heap.size≤w'.heap.size
 block:∀ k,E k→w'.heap[k]?=w.heap[k]?
section
end
end Sha
end Go.Proofs.YtplmfmpbkjnbaaaGreatDoor
