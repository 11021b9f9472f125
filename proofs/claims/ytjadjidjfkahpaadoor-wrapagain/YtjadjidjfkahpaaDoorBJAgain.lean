/- The law WrapAgain of layer 10: what is wrapped again has the same master key, under the other passphrase, and salt. For every input, the tables of packages cipher and sha tied to the program's text. -/
import Derived.Test.YtjadjidjfkahpaaDoorCG
import Derived.Test.YtjadjidjfkahpaaDoorBI
import Derived.Test.YtjadjidjfkahpaaDoorCards
import Derived.Test.YtjadjidjfkahpaaDoorTie
namespace Go.Proofs.YtjadjidjfkahpaaDoor
namespace Sha
open Go.ChangeShapes Go.WideShapes Go.ChangeAt Go.WideMaps Go.WideElems Go.RowKit Mem
set_option maxRecDepth 100000

set_option maxRecDepth 100000 in
theorem wrapAgain_lifted (os : Os) (started : os.Started) (H : Type) (enc : TypeId × Value → H) :
    ReturnsInHanded {} Tryd.checked os 6 .any (fun w args => (Rows.wrapAgainSpec.pre enc Tryd.prog Tryd.f6 [] false w args ∧ laidMetH Tryd.prog laidL w) ∧ sizedMet enc Tryd.prog Tryd.f6 (OpenSpec.ofChange Rows.wrapAgainSpec) false w args)
      (Rows.wrapAgainSpec.post enc Tryd.prog Tryd.f6 false true false false) := by
  refine law_lift rfl rfl (by kernel_rfl) (fun H ds hl => ?_) (by kernel_rfl) Tryd.func6 os started H enc #[.agg (askW (.slice none 0 0) z16 0 z32), .slice none 0 0, .agg (u8s z16).toArray] 8 (by kernel_rfl) (by kernel_rfl) (by kernel_rfl) (World.shaped_of_RefB (by kernel_rfl) (by kernel_rfl)) (door_met os _) rfl ?_
  · have hl' : ds.length = 3 := hl
    match ds, hl' with
    | [_, _, _], _ => rfl
  · intro W base args ds p hval hA hT
    rw [Tryd.params6] at hA hval
    obtain ⟨v0, vs0, d0, ds0, p0, q0, hargs, rfl, rfl, h0, r0⟩ := trodAll_cons hA
    obtain ⟨v1, vs1, d1, ds1, p1, q1, rfl, rfl, rfl, h1, r1⟩ := trodAll_cons r0
    obtain ⟨v2, vs2, d2, ds2, p2, q2, rfl, rfl, rfl, h2, r2⟩ := trodAll_cons r1
    obtain ⟨rfl, rfl, rfl⟩ := trodAll_nil r2
    obtain rfl : args = #[v0, v1, v2] := by cases args; simp_all
    have k0 := hval 0 26 v0 rfl rfl
    have k1 := hval 1 22 v1 rfl rfl
    have k2 := hval 2 23 v2 rfl rfl
    clear hval
    obtain ⟨x, l, s, r, m, rfl, sl, ls, lm, g0, g1⟩ := open_ask10 k0 h0
    obtain ⟨b, sb, lb⟩ := open_sl k1 h1
    obtain ⟨s2, rfl, ls2⟩ := open_bytes Tryd.underlying23 (by kernel_rfl) k2 h2
    exact again10_core wrapP10 l s r m b s2 x v1 W ls lm g0 g1 sl sb lb ls2 hT
theorem wrapAgain_holds : Rows.WrapAgainSaid :=
  OpenClaim.holds_of_wide 6 Tryd.f6 rfl rfl rfl rfl rfl rfl rfl ⟨rfl, rfl, rfl, rfl, rfl⟩ rfl rfl rfl rfl rfl (by kernel_rfl) Tryd.func6 (by kernel_rfl)
    (of_decide_eq_true (by kernel_rfl)) (by unfold Func.isWrapper; first | (rw [if_pos (by decide +kernel)]; kernel_rfl) | (rw [if_neg (by decide +kernel)]; exact ⟨rfl, rfl⟩))
    (fun os started H enc _ => wrapAgain_lifted os started H enc)
theorem wrapAgain_card : Rows.WrapAgainCardSaid :=
  Claim7.holds_tied_plain_at .later [] [.data, .data, .data, .data] true (true, "d15ed49c945cdda1a63bdd2c4de9b075d998fb24ed9b53c32513ae68ac5f53dd") false
    wrapAgain_holds (fun _ h => by cases h) (by kernel_rfl) (fun _ h => by cases h) wrapAgain_row_tie rfl ⟨rfl, rfl⟩ (by kernel_rfl) rfl
    (fun f fn hf hfn => by
      obtain rfl : f = 6 := Option.some.inj ((show Tryd.prog.funcNamed "carling/carlinglaw10.WrapAgain" = some 6 by kernel_rfl).symm.trans hf) |>.symm
      obtain rfl : fn = Tryd.f6 := (Option.some.inj (Tryd.func6.symm.trans hfn)).symm
      exact ⟨by kernel_rfl, fun j t ht => by
        rw [Tryd.params6] at ht
        have hm : t ∈ [26, 22, 23] := by simpa using Array.mem_of_getElem? ht
        have hall : ([26, 22, 23].all fun u => !Tryd.prog.wantsStandIn u) = true := by kernel_rfl
        exact (show Tryd.prog.wantsStandIn t = false by simpa using List.all_eq_true.1 hall t hm)⟩)
    (by kernel_rfl)
#print axioms wrapAgain_card
end Sha
end Go.Proofs.YtjadjidjfkahpaaDoor
