/- The law NodeSets of layer 13: a page with another reference has that one there, and the others. For every input. -/
import Derived.Test.YtfbhbdllbapnpaaCS
import Derived.Test.YtfbhbdllbapnpaaBE
import Derived.Test.YtfbhbdllbapnpaaBG
namespace Go.Proofs.Ytfbhbdllbapnpaa
namespace Sha
open Go.ChangeShapes Go.WideShapes Go.ChangeAt Go.WideMaps Go.WideElems Go.RowKit Mem

set_option maxRecDepth 100000 in
theorem nodeSets_lifted (os : Os) (started : os.Started) (H : Type) (enc : TypeId × Value → H) :
    ReturnsInHanded {} Try.checked os 6 .any (Rows.nodeSetsSpec.pre6 enc Try.prog Try.f6 [] false)
      (Rows.nodeSetsSpec.post enc Try.prog Try.f6 false true false false) := by
  refine law_lift0 rfl rfl (by kernel_rfl) (fun H ds hl => ?_) (by kernel_rfl) Try.func6 os started H enc #[.slice none 0 0, .int .i64 0, .agg (refC zref)] 8 (by kernel_rfl) (by kernel_rfl) (by kernel_rfl) (World.shaped_of_RefB (by kernel_rfl) (by kernel_rfl)) rfl ?_
  · have hl' : ds.length = 3 := hl
    match ds, hl' with
    | [_, _, _], _ => rfl
  · intro W base args ds p hval hA
    rw [Try.params6] at hA hval
    obtain ⟨v0, vs0, d0, ds0, p0, q0, hargs, rfl, rfl, h0, r0⟩ := trodAll_cons hA
    obtain ⟨v1, vs1, d1, ds1, p1, q1, rfl, rfl, rfl, h1, r1⟩ := trodAll_cons r0
    obtain ⟨v2, vs2, d2, ds2, p2, q2, rfl, rfl, rfl, h2, r2⟩ := trodAll_cons r1
    obtain ⟨rfl, rfl, rfl⟩ := trodAll_nil r2
    obtain rfl : args = #[v0, v1, v2] := by cases args; simp_all
    have k0 := hval 0 22 v0 rfl rfl
    have k1 := hval 1 3 v1 rfl rfl
    have k2 := hval 2 37 v2 rfl rfl
    clear hval
    obtain ⟨L, sL, hw⟩ := open_refs k0 h0
    obtain ⟨z, rfl⟩ := open_iw k1 h1
    obtain ⟨r, rfl, hr⟩ := open_ref13 k2 h2
    exact sets13_core nodP L v0 z r W sL hw hr
theorem nodeSets_holds : Rows.NodeSetsSaid :=
  OpenClaim.holds_of_wide 6 Try.f6 rfl rfl rfl rfl rfl rfl rfl ⟨rfl, rfl, rfl, rfl, rfl⟩ rfl rfl rfl rfl rfl (by kernel_rfl) Try.func6 (by kernel_rfl)
    (of_decide_eq_true (by kernel_rfl)) (by unfold Func.isWrapper; first | (rw [if_pos (by decide +kernel)]; kernel_rfl) | (rw [if_neg (by decide +kernel)]; exact ⟨rfl, rfl⟩))
    (fun os started H enc _ => nodeSets_lifted os started H enc)
#print axioms nodeSets_holds
end Sha
end Go.Proofs.Ytfbhbdllbapnpaa
