/- One of layer 6's steps that came in by value, opened. -/
import Derived.Test.YtkgpcgkikenljaaDevDoor
import Derived.Lib.SmallJoins
namespace Go.Proofs.Ytkgpcgkikenljaa
namespace Sha
open Go.ChangeShapes Go.WideShapes Go.ChangeAt Go.WideMaps Go.WideElems Go.RowKit Mem
theorem open_st6 {H : Type} {enc : TypeId × Value → H} {W : World} {base : Nat} {v : Value} {d : DataW H} {p : List MemPlace} (hval : Value.okWide Try.prog W .any base 39 v) (h : DataW.Trod enc Try.prog W 0 (fun _ => true) true 39 v d p) :
    ∃ x : Step6, v = .agg (stepC6 x) ∧ goodS6 x := by
  obtain ⟨cs, rfl, _⟩ := okWide_struct Try.underlying39 hval
  obtain ⟨fuel, hf⟩ := h
  obtain ⟨x, hx, e⟩ := step6_of hf
  refine ⟨x, ?_, hx⟩
  have e2 : cs.toList = (stepC6 x).toList := by simpa [Value.cells] using e
  rw [Array.toList_inj.1 e2]
end Sha
end Go.Proofs.Ytkgpcgkikenljaa
