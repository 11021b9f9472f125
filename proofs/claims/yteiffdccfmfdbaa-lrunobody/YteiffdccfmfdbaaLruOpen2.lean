/- A step of layer 15's that came in, opened. -/
import Derived.Test.YteiffdccfmfdbaaLruOpen
import Derived.WideShapes
namespace Go.Proofs.Yteiffdccfmfdbaa
namespace Sha
open Go.ChangeShapes Go.WideShapes Go.ChangeAt Go.WideMaps Go.WideElems Go.RowKit Mem
theorem open_step15 {H : Type} {enc : TypeId × Value → H} {W : World} {base : Nat} {v : Value} {d : DataW H} {p : List MemPlace} (hval : Value.okWide Try.prog W .any base 34 v) (h : DataW.Trod enc Try.prog W 0 (fun _ => true) true 34 v d p) :
    ∃ s : Step15, v = .agg (stM s) ∧ wfI s.item ∧ Sl W s.pv s.page := by
  obtain ⟨cs, rfl, hsz⟩ := okWide_struct Try.underlying34 hval
  obtain ⟨fuel, hf⟩ := h
  have e1 : (Value.agg cs).cells.toList = cs.toList := rfl
  rw [e1] at hf
  obtain ⟨x, hx, hp, e⟩ := step15_of hf
  exact ⟨x, congrArg Value.agg (Array.toList_inj.1 e), hx, hp⟩
end Sha
end Go.Proofs.Yteiffdccfmfdbaa
