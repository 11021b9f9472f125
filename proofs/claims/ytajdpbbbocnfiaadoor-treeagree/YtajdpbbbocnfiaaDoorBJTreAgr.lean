/- The law TreeAgree of layer 14: Whole tells pages just if Way does for each page; then they are the same. For every input, the tables of packages cipher and sha tied to the program's text. -/
import Derived.Test.YtajdpbbbocnfiaaDoorBx43
import Derived.Test.YtajdpbbbocnfiaaDoorBx44
import Derived.Test.YtajdpbbbocnfiaaDoorBx23
import Derived.Test.YtajdpbbbocnfiaaDoorBx20
import Derived.Test.YtajdpbbbocnfiaaDoorCards
import Derived.Test.YtajdpbbbocnfiaaDoorTie
namespace Go.Proofs.YtajdpbbbocnfiaaDoor
namespace Sha
open Go.ChangeShapes Go.WideShapes Go.ChangeAt Go.WideMaps Go.WideElems Go.RowKit Mem
set_option maxRecDepth 100000
set_option maxRecDepth 100000 in
theorem treeAgree_lifted (os : Os) (started : os.Started) (H : Type) (enc : TypeId × Value → H) :
    ReturnsInHanded {} Tryd.checked os 4 .any (fun w args => (Rows.treeAgreeSpec.pre enc Tryd.prog Tryd.f4 [] false w args ∧ laidMetH Tryd.prog laidL w) ∧ sizedMet enc Tryd.prog Tryd.f4 (OpenSpec.ofChange Rows.treeAgreeSpec) false w args)
      (Rows.treeAgreeSpec.post enc Tryd.prog Tryd.f4 false true false false) := by
  refine law_lift rfl rfl (by kernel_rfl) (fun H ds hl => ?_) (by kernel_rfl) Tryd.func4 os started H enc #[.slice none 0 0, .slice none 0 0] 8 (by kernel_rfl) (by kernel_rfl) (by kernel_rfl) (World.shaped_of_RefB (by kernel_rfl) (by kernel_rfl)) (door_met os _) rfl ?_
  · have hl' : ds.length = 2 := hl
    match ds, hl' with
    | [_, _], _ => rfl
  · intro W base args ds p hval hA hT
    rw [Tryd.params4] at hA hval
    obtain ⟨v0, vs0, d0, ds0, p0, q0, hargs, rfl, rfl, h0, r0⟩ := trodAll_cons hA
    obtain ⟨v1, vs1, d1, ds1, p1, q1, rfl, rfl, rfl, h1, r1⟩ := trodAll_cons r0
    obtain ⟨rfl, rfl, rfl⟩ := trodAll_nil r1
    obtain rfl : args = #[v0, v1] := by cases args; simp_all
    have k0 := hval 0 24 v0 rfl rfl
    have k1 := hval 1 46 v1 rfl rfl
    clear hval
    obtain ⟨ps, sp, _, _⟩ := open_sls k0 h0
    obtain ⟨ts, st⟩ := open_tns k1 h1
    exact agree14_core treeP ps ts v0 v1 W ⟨hT.1, hT.2⟩ sp st
theorem treeAgree_holds : Rows.TreeAgreeSaid :=
  OpenClaim.holds_of_wide 4 Tryd.f4 rfl rfl rfl rfl rfl rfl rfl ⟨rfl, rfl, rfl, rfl, rfl⟩ rfl rfl rfl rfl rfl (by kernel_rfl) Tryd.func4 (by kernel_rfl)
    (of_decide_eq_true (by kernel_rfl)) (by unfold Func.isWrapper; first | (rw [if_pos (by decide +kernel)]; kernel_rfl) | (rw [if_neg (by decide +kernel)]; exact ⟨rfl, rfl⟩))
    (fun os started H enc _ => treeAgree_lifted os started H enc)
theorem treeAgree_card : Rows.TreeAgreeCardSaid :=
  Claim7.holds_tied_plain_at .later [] [.data, .data, .data, .data] true (true, "f4c658c8cd823d8b9bd4a7eadf5e367f504f0cb4ff085d5e2b7a549b0f83bc89") false
    treeAgree_holds (fun _ h => by cases h) (by kernel_rfl) (fun _ h => by cases h) treeAgree_row_tie rfl ⟨rfl, rfl⟩ (by kernel_rfl) rfl
    (fun f fn hf hfn => by
      obtain rfl : f = 4 := Option.some.inj ((show Tryd.prog.funcNamed "carling/carlinglaw14.TreeAgree" = some 4 by kernel_rfl).symm.trans hf) |>.symm
      obtain rfl : fn = Tryd.f4 := (Option.some.inj (Tryd.func4.symm.trans hfn)).symm
      exact ⟨by kernel_rfl, fun j t ht => by
        rw [Tryd.params4] at ht
        have hm : t ∈ [24, 46] := by simpa using Array.mem_of_getElem? ht
        have hall : ([24, 46].all fun u => !Tryd.prog.wantsStandIn u) = true := by kernel_rfl
        exact (show Tryd.prog.wantsStandIn t = false by simpa using List.all_eq_true.1 hall t hm)⟩)
    (by kernel_rfl)
#print axioms treeAgree_card
end Sha
end Go.Proofs.YtajdpbbbocnfiaaDoor
