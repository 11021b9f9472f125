/- The law NodeBack of layer 13: what is laid is parsed; what is parsed is laid as the same page. For every input. -/
import Derived.Test.YtfbhbdllbapnpaaCB
import Derived.Test.YtfbhbdllbapnpaaBE
import Derived.Test.YtfbhbdllbapnpaaBG
namespace Go.Proofs.Ytfbhbdllbapnpaa
namespace Sha
open Go.ChangeShapes Go.WideShapes Go.ChangeAt Go.WideMaps Go.WideElems Go.RowKit Mem

set_option maxRecDepth 100000 in
theorem nodeBack_lifted (os : Os) (started : os.Started) (H : Type) (enc : TypeId × Value → H) :
    ReturnsInHanded {} Try.checked os 5 .any (Rows.nodeBackSpec.pre6 enc Try.prog Try.f5 [] false)
      (Rows.nodeBackSpec.post enc Try.prog Try.f5 false true false false) := by
  refine law_lift0 rfl rfl (by kernel_rfl) (fun H ds hl => ?_) (by kernel_rfl) Try.func5 os started H enc #[.slice none 0 0, .slice none 0 0, .int .i64 0] 8 (by kernel_rfl) (by kernel_rfl) (by kernel_rfl) (World.shaped_of_RefB (by kernel_rfl) (by kernel_rfl)) rfl ?_
  · have hl' : ds.length = 3 := hl
    match ds, hl' with
    | [_, _, _], _ => rfl
  · intro W base args ds p hval hA
    rw [Try.params5] at hA hval
    obtain ⟨v0, vs0, d0, ds0, p0, q0, hargs, rfl, rfl, h0, r0⟩ := trodAll_cons hA
    obtain ⟨v1, vs1, d1, ds1, p1, q1, rfl, rfl, rfl, h1, r1⟩ := trodAll_cons r0
    obtain ⟨v2, vs2, d2, ds2, p2, q2, rfl, rfl, rfl, h2, r2⟩ := trodAll_cons r1
    obtain ⟨rfl, rfl, rfl⟩ := trodAll_nil r2
    obtain rfl : args = #[v0, v1, v2] := by cases args; simp_all
    have k0 := hval 0 22 v0 rfl rfl
    have k1 := hval 1 24 v1 rfl rfl
    have k2 := hval 2 3 v2 rfl rfl
    clear hval
    obtain ⟨L, sL, hw⟩ := open_refs k0 h0
    obtain ⟨l, sl, _⟩ := open_sl k1 h1
    obtain ⟨z, rfl⟩ := open_iw k2 h2
    exact back13_core nodP L l v0 v1 z W sL hw sl
theorem nodeBack_holds : Rows.NodeBackSaid :=
  OpenClaim.holds_of_wide 5 Try.f5 rfl rfl rfl rfl rfl rfl rfl ⟨rfl, rfl, rfl, rfl, rfl⟩ rfl rfl rfl rfl rfl (by kernel_rfl) Try.func5 (by kernel_rfl)
    (of_decide_eq_true (by kernel_rfl)) (by unfold Func.isWrapper; first | (rw [if_pos (by decide +kernel)]; kernel_rfl) | (rw [if_neg (by decide +kernel)]; exact ⟨rfl, rfl⟩))
    (fun os started H enc _ => nodeBack_lifted os started H enc)
#print axioms nodeBack_holds
end Sha
end Go.Proofs.Ytfbhbdllbapnpaa
