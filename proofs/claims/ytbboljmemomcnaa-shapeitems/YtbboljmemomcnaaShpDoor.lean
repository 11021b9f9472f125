/- What layer 12's laws ask of an int that came in. -/
import Derived.Test.YtbboljmemomcnaaLift0
namespace Go.Proofs.Ytbboljmemomcnaa
namespace Sha
open Go.ChangeShapes Go.WideShapes Go.ChangeAt Go.WideMaps Go.WideElems Go.RowKit Mem
theorem open_iw {H : Type} {enc : TypeId × Value → H} {W : World} {base : Nat} {v : Value} {d : DataW H} {p : List MemPlace} (hval : Value.okWide Try.prog W .any base 3 v) (h : DataW.Trod enc Try.prog W 0 (fun _ => true) true 3 v d p) :
    ∃ z : Int, v = .int .i64 z := by
  obtain ⟨c, rfl, _, _, _⟩ := open_int Try.underlying3 hval h
  exact ⟨c, rfl⟩
end Sha
end Go.Proofs.Ytbboljmemomcnaa
