/- The law HeadUpgrades of layer 11: a head that is made newer is the same, but for its version, and is made newer once. For every input. -/
import Derived.Test.YtbnjihpafipbnaaCU
import Derived.Test.YtbnjihpafipbnaaBG
namespace Go.Proofs.Ytbnjihpafipbnaa
namespace Sha
open Go.ChangeShapes Go.WideShapes Go.ChangeAt Go.WideMaps Go.WideElems Go.RowKit Mem

set_option maxRecDepth 100000 in
theorem headUpgrades_lifted (os : Os) (started : os.Started) (H : Type) (enc : TypeId × Value → H) :
    ReturnsInHanded {} Try.checked os 6 .any (Rows.headUpgradesSpec.pre6 enc Try.prog Try.f6 [] false)
      (Rows.headUpgradesSpec.post enc Try.prog Try.f6 false true false false) := by
  refine law_lift0 rfl rfl (by kernel_rfl) (fun H ds hl => ?_) (by kernel_rfl) Try.func6 os started H enc #[.agg (hdC zhd)] 8 (by kernel_rfl) (by kernel_rfl) (by kernel_rfl) (World.shaped_of_RefB (by kernel_rfl) (by kernel_rfl)) rfl ?_
  · have hl' : ds.length = 1 := hl
    match ds, hl' with
    | [_], _ => rfl
  · intro W base args ds p hval hA
    rw [Try.params6] at hA hval
    obtain ⟨v0, vs0, d0, ds0, p0, q0, hargs, rfl, rfl, h0, r0⟩ := trodAll_cons hA
    obtain ⟨rfl, rfl, rfl⟩ := trodAll_nil r0
    obtain rfl : args = #[v0] := by cases args; simp_all
    have k0 := hval 0 27 v0 rfl rfl
    clear hval
    obtain ⟨x, rfl, hx⟩ := open_hd k0 h0
    exact upgrades11_core x hx W
theorem headUpgrades_holds : Rows.HeadUpgradesSaid :=
  OpenClaim.holds_of_wide 6 Try.f6 rfl rfl rfl rfl rfl rfl rfl ⟨rfl, rfl, rfl, rfl, rfl⟩ rfl rfl rfl rfl rfl (by kernel_rfl) Try.func6 (by kernel_rfl)
    (of_decide_eq_true (by kernel_rfl)) (by unfold Func.isWrapper; first | (rw [if_pos (by decide +kernel)]; kernel_rfl) | (rw [if_neg (by decide +kernel)]; exact ⟨rfl, rfl⟩))
    (fun os started H enc _ => headUpgrades_lifted os started H enc)
#print axioms headUpgrades_holds
end Sha
end Go.Proofs.Ytbnjihpafipbnaa
