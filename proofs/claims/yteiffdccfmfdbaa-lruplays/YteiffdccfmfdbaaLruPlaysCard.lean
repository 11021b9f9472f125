/- The law LruPlays of layer 15: after every step the cache answers as the document's. For every input. -/
import Derived.Test.YteiffdccfmfdbaaLruPlays
import Derived.Test.YteiffdccfmfdbaaLruOpen
namespace Go.Proofs.Yteiffdccfmfdbaa
namespace Sha
open Go.ChangeShapes Go.WideShapes Go.ChangeAt Go.WideMaps Go.WideElems Go.RowKit Mem

set_option maxRecDepth 100000 in
theorem lruPlays_lifted (os : Os) (started : os.Started) (H : Type) (enc : TypeId × Value → H) :
    ReturnsInHanded {} Try.checked os 3 .any (Rows.lruPlaysSpec.pre6 enc Try.prog Try.f3 [] false)
      (Rows.lruPlaysSpec.post enc Try.prog Try.f3 false true false false) := by
  refine law_lift0 rfl rfl (by kernel_rfl) (fun H ds hl => ?_) (by kernel_rfl) Try.func3 os started H enc #[.int .i64 0, .slice none 0 0] 8 (by kernel_rfl) (by kernel_rfl) (by kernel_rfl) (World.shaped_of_RefB (by kernel_rfl) (by kernel_rfl)) rfl ?_
  · have hl' : ds.length = 2 := hl
    match ds, hl' with
    | [_, _], _ => rfl
  · intro W base args ds p hval hA
    rw [Try.params3] at hA hval
    obtain ⟨v0, vs0, d0, ds0, p0, q0, hargs, rfl, rfl, h0, r0⟩ := trodAll_cons hA
    obtain ⟨v1, vs1, d1, ds1, p1, q1, rfl, rfl, rfl, h1, r1⟩ := trodAll_cons r0
    obtain ⟨rfl, rfl, rfl⟩ := trodAll_nil r1
    obtain rfl : args = #[v0, v1] := by cases args; simp_all
    have k0 := hval 0 3 v0 rfl rfl
    have k1 := hval 1 22 v1 rfl rfl
    clear hval
    obtain ⟨z, rfl, _⟩ := open_iw k0 h0
    obtain ⟨l, sl, ll, hg⟩ := open_slS15 k1 h1
    exact plays_core z l v1 W sl ll hg
theorem lruPlays_holds : Rows.LruPlaysSaid :=
  OpenClaim.holds_of_wide 3 Try.f3 rfl rfl rfl rfl rfl rfl rfl ⟨rfl, rfl, rfl, rfl, rfl⟩ rfl rfl rfl rfl rfl (by kernel_rfl) Try.func3 (by kernel_rfl)
    (of_decide_eq_true (by kernel_rfl)) (by unfold Func.isWrapper; first | (rw [if_pos (by decide +kernel)]; kernel_rfl) | (rw [if_neg (by decide +kernel)]; exact ⟨rfl, rfl⟩))
    (fun os started H enc _ => lruPlays_lifted os started H enc)
#print axioms lruPlays_holds
end Sha
end Go.Proofs.Yteiffdccfmfdbaa
