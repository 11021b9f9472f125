/- The law NodeLays of layer 13: the page of any references is the document's, or is refused. For every input. -/
import Derived.Test.YtfbhbdllbapnpaaCL
import Derived.Test.YtfbhbdllbapnpaaBE
import Derived.Test.YtfbhbdllbapnpaaBG
namespace Go.Proofs.Ytfbhbdllbapnpaa
namespace Sha
open Go.ChangeShapes Go.WideShapes Go.ChangeAt Go.WideMaps Go.WideElems Go.RowKit Mem

set_option maxRecDepth 100000 in
theorem nodeLays_lifted (os : Os) (started : os.Started) (H : Type) (enc : TypeId × Value → H) :
    ReturnsInHanded {} Try.checked os 3 .any (Rows.nodeLaysSpec.pre6 enc Try.prog Try.f3 [] false)
      (Rows.nodeLaysSpec.post enc Try.prog Try.f3 false true false false) := by
  refine law_lift0 rfl rfl (by kernel_rfl) (fun H ds hl => ?_) (by kernel_rfl) Try.func3 os started H enc #[.slice none 0 0] 8 (by kernel_rfl) (by kernel_rfl) (by kernel_rfl) (World.shaped_of_RefB (by kernel_rfl) (by kernel_rfl)) rfl ?_
  · have hl' : ds.length = 1 := hl
    match ds, hl' with
    | [_], _ => rfl
  · intro W base args ds p hval hA
    rw [Try.params3] at hA hval
    obtain ⟨v0, vs0, d0, ds0, p0, q0, hargs, rfl, rfl, h0, r0⟩ := trodAll_cons hA
    obtain ⟨rfl, rfl, rfl⟩ := trodAll_nil r0
    obtain rfl : args = #[v0] := by cases args; simp_all
    have k0 := hval 0 22 v0 rfl rfl
    clear hval
    obtain ⟨L, sl, hw⟩ := open_refs k0 h0
    exact lays13_core nodP L v0 W sl hw
theorem nodeLays_holds : Rows.NodeLaysSaid :=
  OpenClaim.holds_of_wide 3 Try.f3 rfl rfl rfl rfl rfl rfl rfl ⟨rfl, rfl, rfl, rfl, rfl⟩ rfl rfl rfl rfl rfl (by kernel_rfl) Try.func3 (by kernel_rfl)
    (of_decide_eq_true (by kernel_rfl)) (by unfold Func.isWrapper; first | (rw [if_pos (by decide +kernel)]; kernel_rfl) | (rw [if_neg (by decide +kernel)]; exact ⟨rfl, rfl⟩))
    (fun os started H enc _ => nodeLays_lifted os started H enc)
#print axioms nodeLays_holds
end Sha
end Go.Proofs.Ytfbhbdllbapnpaa
