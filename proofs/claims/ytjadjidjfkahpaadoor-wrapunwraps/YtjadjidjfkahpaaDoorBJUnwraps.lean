/- The law WrapUnwraps of layer 10: the master key of any wrapped key, by any passphrase, is the document's, or refused. For every input, the tables of packages cipher and sha tied to the program's text. -/
import Derived.Test.YtjadjidjfkahpaaDoorCU
import Derived.Test.YtjadjidjfkahpaaDoorBI
import Derived.Test.YtjadjidjfkahpaaDoorCards
import Derived.Test.YtjadjidjfkahpaaDoorTie
namespace Go.Proofs.YtjadjidjfkahpaaDoor
namespace Sha
open Go.ChangeShapes Go.WideShapes Go.ChangeAt Go.WideMaps Go.WideElems Go.RowKit Mem
set_option maxRecDepth 100000

set_option maxRecDepth 100000 in
theorem wrapUnwraps_lifted (os : Os) (started : os.Started) (H : Type) (enc : TypeId × Value → H) :
    ReturnsInHanded {} Tryd.checked os 4 .any (fun w args => (Rows.wrapUnwrapsSpec.pre enc Tryd.prog Tryd.f4 [] false w args ∧ laidMetH Tryd.prog laidL w) ∧ sizedMet enc Tryd.prog Tryd.f4 (OpenSpec.ofChange Rows.wrapUnwrapsSpec) false w args)
      (Rows.wrapUnwrapsSpec.post enc Tryd.prog Tryd.f4 false true false false) := by
  refine law_lift rfl rfl (by kernel_rfl) (fun H ds hl => ?_) (by kernel_rfl) Tryd.func4 os started H enc #[.slice none 0 0, .agg (wrC zwr)] 8 (by kernel_rfl) (by kernel_rfl) (by kernel_rfl) (World.shaped_of_RefB (by kernel_rfl) (by kernel_rfl)) (door_met os _) rfl ?_
  · have hl' : ds.length = 2 := hl
    match ds, hl' with
    | [_, _], _ => rfl
  · intro W base args ds p hval hA hT
    rw [Tryd.params4] at hA hval
    obtain ⟨v0, vs0, d0, ds0, p0, q0, hargs, rfl, rfl, h0, r0⟩ := trodAll_cons hA
    obtain ⟨v1, vs1, d1, ds1, p1, q1, rfl, rfl, rfl, h1, r1⟩ := trodAll_cons r0
    obtain ⟨rfl, rfl, rfl⟩ := trodAll_nil r1
    obtain rfl : args = #[v0, v1] := by cases args; simp_all
    have k0 := hval 0 22 v0 rfl rfl
    have k1 := hval 1 34 v1 rfl rfl
    clear hval
    obtain ⟨b, sb, lb⟩ := open_sl k0 h0
    obtain ⟨x, rfl, hx⟩ := open_wr10 k1 h1
    exact unwraps10_core wrapP10 b x hx v0 W sb hT
theorem wrapUnwraps_holds : Rows.WrapUnwrapsSaid :=
  OpenClaim.holds_of_wide 4 Tryd.f4 rfl rfl rfl rfl rfl rfl rfl ⟨rfl, rfl, rfl, rfl, rfl⟩ rfl rfl rfl rfl rfl (by kernel_rfl) Tryd.func4 (by kernel_rfl)
    (of_decide_eq_true (by kernel_rfl)) (by unfold Func.isWrapper; first | (rw [if_pos (by decide +kernel)]; kernel_rfl) | (rw [if_neg (by decide +kernel)]; exact ⟨rfl, rfl⟩))
    (fun os started H enc _ => wrapUnwraps_lifted os started H enc)
theorem wrapUnwraps_card : Rows.WrapUnwrapsCardSaid :=
  Claim7.holds_tied_plain_at .later [] [.data, .data, .data, .data] true (true, "d15ed49c945cdda1a63bdd2c4de9b075d998fb24ed9b53c32513ae68ac5f53dd") false
    wrapUnwraps_holds (fun _ h => by cases h) (by kernel_rfl) (fun _ h => by cases h) wrapUnwraps_row_tie rfl ⟨rfl, rfl⟩ (by kernel_rfl) rfl
    (fun f fn hf hfn => by
      obtain rfl : f = 4 := Option.some.inj ((show Tryd.prog.funcNamed "carling/carlinglaw10.WrapUnwraps" = some 4 by kernel_rfl).symm.trans hf) |>.symm
      obtain rfl : fn = Tryd.f4 := (Option.some.inj (Tryd.func4.symm.trans hfn)).symm
      exact ⟨by kernel_rfl, fun j t ht => by
        rw [Tryd.params4] at ht
        have hm : t ∈ [22, 34] := by simpa using Array.mem_of_getElem? ht
        have hall : ([22, 34].all fun u => !Tryd.prog.wantsStandIn u) = true := by kernel_rfl
        exact (show Tryd.prog.wantsStandIn t = false by simpa using List.all_eq_true.1 hall t hm)⟩)
    (by kernel_rfl)
#print axioms wrapUnwraps_card
end Sha
end Go.Proofs.YtjadjidjfkahpaaDoor
