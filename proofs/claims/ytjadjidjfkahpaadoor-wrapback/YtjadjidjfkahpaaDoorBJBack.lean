/- The law WrapBack of layer 10: what is wrapped is unwrapped by the same passphrase. For every input, the tables of packages cipher and sha tied to the program's text. -/
import Derived.Test.YtjadjidjfkahpaaDoorCB
import Derived.Test.YtjadjidjfkahpaaDoorBI
import Derived.Test.YtjadjidjfkahpaaDoorCards
import Derived.Test.YtjadjidjfkahpaaDoorTie
namespace Go.Proofs.YtjadjidjfkahpaaDoor
namespace Sha
open Go.ChangeShapes Go.WideShapes Go.ChangeAt Go.WideMaps Go.WideElems Go.RowKit Mem
set_option maxRecDepth 100000

set_option maxRecDepth 100000 in
theorem wrapBack_lifted (os : Os) (started : os.Started) (H : Type) (enc : TypeId × Value → H) :
    ReturnsInHanded {} Tryd.checked os 5 .any (fun w args => (Rows.wrapBackSpec.pre enc Tryd.prog Tryd.f5 [] false w args ∧ laidMetH Tryd.prog laidL w) ∧ sizedMet enc Tryd.prog Tryd.f5 (OpenSpec.ofChange Rows.wrapBackSpec) false w args)
      (Rows.wrapBackSpec.post enc Tryd.prog Tryd.f5 false true false false) := by
  refine law_lift rfl rfl (by kernel_rfl) (fun H ds hl => ?_) (by kernel_rfl) Tryd.func5 os started H enc #[.agg (askW (.slice none 0 0) z16 0 z32)] 8 (by kernel_rfl) (by kernel_rfl) (by kernel_rfl) (World.shaped_of_RefB (by kernel_rfl) (by kernel_rfl)) (door_met os _) rfl ?_
  · have hl' : ds.length = 1 := hl
    match ds, hl' with
    | [_], _ => rfl
  · intro W base args ds p hval hA hT
    rw [Tryd.params5] at hA hval
    obtain ⟨v0, vs0, d0, ds0, p0, q0, hargs, rfl, rfl, h0, r0⟩ := trodAll_cons hA
    obtain ⟨rfl, rfl, rfl⟩ := trodAll_nil r0
    obtain rfl : args = #[v0] := by cases args; simp_all
    have k0 := hval 0 26 v0 rfl rfl
    clear hval
    obtain ⟨x, l, s, r, m, rfl, sl, ls, lm, g0, g1⟩ := open_ask10 k0 h0
    exact back10_core wrapP10 l s r m x W ls lm g0 g1 sl hT
theorem wrapBack_holds : Rows.WrapBackSaid :=
  OpenClaim.holds_of_wide 5 Tryd.f5 rfl rfl rfl rfl rfl rfl rfl ⟨rfl, rfl, rfl, rfl, rfl⟩ rfl rfl rfl rfl rfl (by kernel_rfl) Tryd.func5 (by kernel_rfl)
    (of_decide_eq_true (by kernel_rfl)) (by unfold Func.isWrapper; first | (rw [if_pos (by decide +kernel)]; kernel_rfl) | (rw [if_neg (by decide +kernel)]; exact ⟨rfl, rfl⟩))
    (fun os started H enc _ => wrapBack_lifted os started H enc)
theorem wrapBack_card : Rows.WrapBackCardSaid :=
  Claim7.holds_tied_plain_at .later [] [.data, .data, .data, .data] true (true, "d15ed49c945cdda1a63bdd2c4de9b075d998fb24ed9b53c32513ae68ac5f53dd") false
    wrapBack_holds (fun _ h => by cases h) (by kernel_rfl) (fun _ h => by cases h) wrapBack_row_tie rfl ⟨rfl, rfl⟩ (by kernel_rfl) rfl
    (fun f fn hf hfn => by
      obtain rfl : f = 5 := Option.some.inj ((show Tryd.prog.funcNamed "carling/carlinglaw10.WrapBack" = some 5 by kernel_rfl).symm.trans hf) |>.symm
      obtain rfl : fn = Tryd.f5 := (Option.some.inj (Tryd.func5.symm.trans hfn)).symm
      exact ⟨by kernel_rfl, fun j t ht => by
        rw [Tryd.params5] at ht
        have hm : t ∈ [26] := by simpa using Array.mem_of_getElem? ht
        have hall : ([26].all fun u => !Tryd.prog.wantsStandIn u) = true := by kernel_rfl
        exact (show Tryd.prog.wantsStandIn t = false by simpa using List.all_eq_true.1 hall t hm)⟩)
    (by kernel_rfl)
#print axioms wrapBack_card
end Sha
end Go.Proofs.YtjadjidjfkahpaaDoor
