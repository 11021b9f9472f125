/- The law StretchRounds of layer 3: a key of one round is the first mac of each block; each round more joins one more; for every input, the two tables of package sha tied to the program's text. -/
import Derived.Test.YtngegegomkclbaaDoorStrRounds
import Derived.Test.YtngegegomkclbaaDoorStrDoor
namespace Go.Proofs.YtngegegomkclbaaDoor
namespace Sha
open Go.ChangeShapes Go.WideShapes Go.ChangeAt Go.WideMaps Go.WideElems Go.RowKit Mem

set_option maxRecDepth 100000 in
theorem stretchRounds_lifted (os : Os) (started : os.Started) (H : Type) (enc : TypeId × Value → H) :
    ReturnsInHanded {} Tryd.checked os 8 .any (fun w args => (Rows.stretchRoundsSpec.pre enc Tryd.prog Tryd.f8 [] false w args ∧ laidMetH Tryd.prog laidL w) ∧ sizedMet enc Tryd.prog Tryd.f8 (OpenSpec.ofChange Rows.stretchRoundsSpec) false w args)
      (Rows.stretchRoundsSpec.post enc Tryd.prog Tryd.f8 false true false false) := by
  refine law_lift rfl rfl (by kernel_rfl) (fun H ds hl => ?_) (by kernel_rfl) Tryd.func8 os started H enc #[.agg #[.slice none 0 0, .slice none 0 0, .int .i64 0, .int .i64 0]] 8 (by kernel_rfl) (by kernel_rfl) (by kernel_rfl) (World.shaped_of_RefB (by kernel_rfl) (by kernel_rfl)) (door_met os _) rfl ?_
  · have hl' : ds.length = 1 := hl
    match ds, hl' with
    | [_], _ => rfl
  · intro W base args ds p hval hA hT
    rw [Tryd.params8] at hA hval
    obtain ⟨v0, vs0, d0, ds0, p0, q0, hargs, rfl, rfl, h0, r0⟩ := trodAll_cons hA
    obtain ⟨rfl, rfl, rfl⟩ := trodAll_nil r0
    obtain rfl : args = #[v0] := by cases args; simp_all
    have k0 := hval 0 35 v0 rfl rfl
    clear hval
    obtain ⟨vp, vs, r, z, pp, ss, rfl, sp, sq, _, _, _, _, _, _⟩ := open_ask k0 h0
    exact rounds_any pp ss r z vp vs W sp sq hT
theorem stretchRounds_holds : Rows.StretchRoundsSaid :=
  OpenClaim.holds_of_wide 8 Tryd.f8 rfl rfl rfl rfl rfl rfl rfl ⟨rfl, rfl, rfl, rfl, rfl⟩ rfl rfl rfl rfl rfl (by kernel_rfl) Tryd.func8 (by kernel_rfl)
    (of_decide_eq_true (by kernel_rfl)) (by unfold Func.isWrapper; first | (rw [if_pos (by decide +kernel)]; kernel_rfl) | (rw [if_neg (by decide +kernel)]; exact ⟨rfl, rfl⟩))
    (fun os started H enc _ => stretchRounds_lifted os started H enc)
theorem stretchRounds_card : Rows.StretchRoundsCardSaid :=
  Claim7.holds_tied_plain_at .later [] [.data, .data] true (true, "bfca6eebe94f24fd619bc590c3e0aa207cb5209c442fdaf55c8b895e21c53d31") false
    stretchRounds_holds (fun _ h => by cases h) (by kernel_rfl) (fun _ h => by cases h) stretchRounds_row_tie rfl ⟨rfl, rfl⟩ (by kernel_rfl) rfl
    (fun f fn hf hfn => by
      obtain rfl : f = 8 := Option.some.inj ((show Tryd.prog.funcNamed "carling/carlinglaw03.StretchRounds" = some 8 by kernel_rfl).symm.trans hf) |>.symm
      obtain rfl : fn = Tryd.f8 := (Option.some.inj (Tryd.func8.symm.trans hfn)).symm
      exact ⟨by kernel_rfl, fun j t ht => by
        rw [Tryd.params8] at ht
        have hm : t ∈ [35] := by simpa using Array.mem_of_getElem? ht
        have hall : ([35].all fun u => !Tryd.prog.wantsStandIn u) = true := by kernel_rfl
        exact (show Tryd.prog.wantsStandIn t = false by simpa using List.all_eq_true.1 hall t hm)⟩)
    (by kernel_rfl)
#print axioms stretchRounds_card
end Sha
end Go.Proofs.YtngegegomkclbaaDoor
