/- The law LruNobody of layer 15: a cache that nobody made holds nothing; what was told is the caller's own. For every input. -/
import Derived.Test.YteiffdccfmfdbaaLruNobody
import Derived.Test.YteiffdccfmfdbaaLruOpen2
namespace Go.Proofs.Yteiffdccfmfdbaa
namespace Sha
open Go.ChangeShapes Go.WideShapes Go.ChangeAt Go.WideMaps Go.WideElems Go.RowKit Mem

set_option maxRecDepth 100000 in
theorem lruNobody_lifted (os : Os) (started : os.Started) (H : Type) (enc : TypeId × Value → H) :
    ReturnsInHanded {} Try.checked os 5 .any (Rows.lruNobodySpec.pre6 enc Try.prog Try.f5 [] false)
      (Rows.lruNobodySpec.post enc Try.prog Try.f5 false true false false) := by
  refine law_lift0 rfl rfl (by kernel_rfl) (fun H ds hl => ?_) (by kernel_rfl) Try.func5 os started H enc #[.agg #[.int .u8 0, .int .i64 0, .slice none 0 0]] 8 (by kernel_rfl) (by kernel_rfl) (by kernel_rfl) (World.shaped_of_RefB (by kernel_rfl) (by kernel_rfl)) rfl ?_
  · have hl' : ds.length = 1 := hl
    match ds, hl' with
    | [_], _ => rfl
  · intro W base args ds p hval hA
    rw [Try.params5] at hA hval
    obtain ⟨v0, vs0, d0, ds0, p0, q0, hargs, rfl, rfl, h0, r0⟩ := trodAll_cons hA
    obtain ⟨rfl, rfl, rfl⟩ := trodAll_nil r0
    obtain rfl : args = #[v0] := by cases args; simp_all
    have k0 := hval 0 34 v0 rfl rfl
    clear hval
    obtain ⟨s, rfl, _, _⟩ := open_step15 k0 h0
    exact nobody_core (s.k.toNat : Int) s.item s.a s.page.length s.c W
theorem lruNobody_holds : Rows.LruNobodySaid :=
  OpenClaim.holds_of_wide 5 Try.f5 rfl rfl rfl rfl rfl rfl rfl ⟨rfl, rfl, rfl, rfl, rfl⟩ rfl rfl rfl rfl rfl (by kernel_rfl) Try.func5 (by kernel_rfl)
    (of_decide_eq_true (by kernel_rfl)) (by unfold Func.isWrapper; first | (rw [if_pos (by decide +kernel)]; kernel_rfl) | (rw [if_neg (by decide +kernel)]; exact ⟨rfl, rfl⟩))
    (fun os started H enc _ => lruNobody_lifted os started H enc)
#print axioms lruNobody_holds
end Sha
end Go.Proofs.Yteiffdccfmfdbaa
