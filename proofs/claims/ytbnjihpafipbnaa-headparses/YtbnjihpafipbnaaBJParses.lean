/- The law HeadParses of layer 11: the head of any bytes is the document's, or refused. For every input. -/
import Derived.Test.YtbnjihpafipbnaaCP
import Derived.Test.YtbnjihpafipbnaaBG
namespace Go.Proofs.Ytbnjihpafipbnaa
namespace Sha
open Go.ChangeShapes Go.WideShapes Go.ChangeAt Go.WideMaps Go.WideElems Go.RowKit Mem

set_option maxRecDepth 100000 in
theorem headParses_lifted (os : Os) (started : os.Started) (H : Type) (enc : TypeId × Value → H) :
    ReturnsInHanded {} Try.checked os 4 .any (Rows.headParsesSpec.pre6 enc Try.prog Try.f4 [] false)
      (Rows.headParsesSpec.post enc Try.prog Try.f4 false true false false) := by
  refine law_lift0 rfl rfl (by kernel_rfl) (fun H ds hl => ?_) (by kernel_rfl) Try.func4 os started H enc #[.slice none 0 0] 8 (by kernel_rfl) (by kernel_rfl) (by kernel_rfl) (World.shaped_of_RefB (by kernel_rfl) (by kernel_rfl)) rfl ?_
  · have hl' : ds.length = 1 := hl
    match ds, hl' with
    | [_], _ => rfl
  · intro W base args ds p hval hA
    rw [Try.params4] at hA hval
    obtain ⟨v0, vs0, d0, ds0, p0, q0, hargs, rfl, rfl, h0, r0⟩ := trodAll_cons hA
    obtain ⟨rfl, rfl, rfl⟩ := trodAll_nil r0
    obtain rfl : args = #[v0] := by cases args; simp_all
    have k0 := hval 0 28 v0 rfl rfl
    clear hval
    obtain ⟨l, sl, ll⟩ := open_sl k0 h0
    exact parses11_core l v0 W sl
theorem headParses_holds : Rows.HeadParsesSaid :=
  OpenClaim.holds_of_wide 4 Try.f4 rfl rfl rfl rfl rfl rfl rfl ⟨rfl, rfl, rfl, rfl, rfl⟩ rfl rfl rfl rfl rfl (by kernel_rfl) Try.func4 (by kernel_rfl)
    (of_decide_eq_true (by kernel_rfl)) (by unfold Func.isWrapper; first | (rw [if_pos (by decide +kernel)]; kernel_rfl) | (rw [if_neg (by decide +kernel)]; exact ⟨rfl, rfl⟩))
    (fun os started H enc _ => headParses_lifted os started H enc)
#print axioms headParses_holds
end Sha
end Go.Proofs.Ytbnjihpafipbnaa
