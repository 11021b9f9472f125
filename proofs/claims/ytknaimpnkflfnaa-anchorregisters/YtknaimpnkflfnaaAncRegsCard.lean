/- The law AnchorRegisters of layer 7: a register has what was set last, and tells all epochs that were set; what it tells may be written over; one that is nil has nothing. For every input. -/
import Derived.Test.YtknaimpnkflfnaaAncRegs
import Derived.Test.YtknaimpnkflfnaaAncOpen
namespace Go.Proofs.Ytknaimpnkflfnaa
namespace Sha
open Go.ChangeShapes Go.WideShapes Go.ChangeAt Go.WideMaps Go.WideElems Go.RowKit Mem

set_option maxRecDepth 100000 in
theorem anchorRegisters_lifted (os : Os) (started : os.Started) (H : Type) (enc : TypeId × Value → H) :
    ReturnsInHanded {} Try.checked os 6 .any (Rows.anchorRegistersSpec.pre6 enc Try.prog Try.f6 [] false)
      (Rows.anchorRegistersSpec.post enc Try.prog Try.f6 false true false false) := by
  refine law_lift0 rfl rfl (by kernel_rfl) (fun H ds hl => ?_) (by kernel_rfl) Try.func6 os started H enc #[.slice none 0 0] 8 (by kernel_rfl) (by kernel_rfl) (by kernel_rfl) (World.shaped_of_RefB (by kernel_rfl) (by kernel_rfl)) rfl ?_
  · have hl' : ds.length = 1 := hl
    match ds, hl' with
    | [_], _ => rfl
  · intro W base args ds p hval hA
    rw [Try.params6] at hA hval
    obtain ⟨v0, vs0, d0, ds0, p0, q0, hargs, rfl, rfl, h0, r0⟩ := trodAll_cons hA
    obtain ⟨rfl, rfl, rfl⟩ := trodAll_nil r0
    obtain rfl : args = #[v0] := by cases args; simp_all
    have k0 := hval 0 46 v0 rfl rfl
    clear hval
    obtain ⟨l, sl, ll, hw⟩ := open_slA k0 h0
    exact regs7_law l v0 W sl ll hw
theorem anchorRegisters_holds : Rows.AnchorRegistersSaid :=
  OpenClaim.holds_of_wide 6 Try.f6 rfl rfl rfl rfl rfl rfl rfl ⟨rfl, rfl, rfl, rfl, rfl⟩ rfl rfl rfl rfl rfl (by kernel_rfl) Try.func6 (by kernel_rfl)
    (of_decide_eq_true (by kernel_rfl)) (by unfold Func.isWrapper; first | (rw [if_pos (by decide +kernel)]; kernel_rfl) | (rw [if_neg (by decide +kernel)]; exact ⟨rfl, rfl⟩))
    (fun os started H enc _ => anchorRegisters_lifted os started H enc)
#print axioms anchorRegisters_holds
end Sha
end Go.Proofs.Ytknaimpnkflfnaa
