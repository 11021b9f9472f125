/- The law EpochAnew of layer 8: a meter that begins anew with the Last of another one shares no use with it; one that is nil has nothing. For every input. -/
import Derived.Test.YtmpibofkihfiiaaEpAnew
import Derived.Test.YtmpibofkihfiiaaEpProg
import Derived.Test.YtmpibofkihfiiaaEpDoor
namespace Go.Proofs.Ytmpibofkihfiiaa
namespace Sha
open Go.ChangeShapes Go.WideShapes Go.ChangeAt Go.WideMaps Go.WideElems Go.RowKit Mem

set_option maxRecDepth 100000 in
theorem epochAnew_lifted (os : Os) (started : os.Started) (H : Type) (enc : TypeId × Value → H) :
    ReturnsInHanded {} Try.checked os 5 .any (Rows.epochAnewSpec.pre6 enc Try.prog Try.f5 [] false)
      (Rows.epochAnewSpec.post enc Try.prog Try.f5 false true false false) := by
  refine law_lift0 rfl rfl (by kernel_rfl) (fun H ds hl => ?_) (by kernel_rfl) Try.func5 os started H enc #[.int .u32 0, .slice none 0 0, .slice none 0 0] 8 (by kernel_rfl) (by kernel_rfl) (by kernel_rfl) (World.shaped_of_RefB (by kernel_rfl) (by kernel_rfl)) rfl ?_
  · have hl' : ds.length = 3 := hl
    match ds, hl' with
    | [_, _, _], _ => rfl
  · intro W base args ds p hval hA
    rw [Try.params5] at hA hval
    obtain ⟨v0, vs0, d0, ds0, p0, q0, hargs, rfl, rfl, h0, r0⟩ := trodAll_cons hA
    obtain ⟨v1, vs1, d1, ds1, p1, q1, rfl, rfl, rfl, h1, r1⟩ := trodAll_cons r0
    obtain ⟨v2, vs2, d2, ds2, p2, q2, rfl, rfl, rfl, h2, r2⟩ := trodAll_cons r1
    obtain ⟨rfl, rfl, rfl⟩ := trodAll_nil r2
    obtain rfl : args = #[v0, v1, v2] := by cases args; simp_all
    have k0 := hval 0 22 v0 rfl rfl
    have k1 := hval 1 23 v1 rfl rfl
    have k2 := hval 2 23 v2 rfl rfl
    clear hval
    obtain ⟨z, rfl, hz0, hz1⟩ := open_u32 k0 h0
    obtain ⟨l, sl, ll, hg⟩ := open_slS8 k1 h1
    obtain ⟨l2, sl2, ll2, hg2⟩ := open_slS8 k2 h2
    exact anew_core epC epNil z hz0 hz1 l v1 l2 v2 W sl ll hg sl2 ll2 hg2
theorem epochAnew_holds : Rows.EpochAnewSaid :=
  OpenClaim.holds_of_wide 5 Try.f5 rfl rfl rfl rfl rfl rfl rfl ⟨rfl, rfl, rfl, rfl, rfl⟩ rfl rfl rfl rfl rfl (by kernel_rfl) Try.func5 (by kernel_rfl)
    (of_decide_eq_true (by kernel_rfl)) (by unfold Func.isWrapper; first | (rw [if_pos (by decide +kernel)]; kernel_rfl) | (rw [if_neg (by decide +kernel)]; exact ⟨rfl, rfl⟩))
    (fun os started H enc _ => epochAnew_lifted os started H enc)
#print axioms epochAnew_holds
end Sha
end Go.Proofs.Ytmpibofkihfiiaa
