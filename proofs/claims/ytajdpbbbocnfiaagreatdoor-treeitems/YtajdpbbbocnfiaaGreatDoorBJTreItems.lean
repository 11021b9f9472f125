/- The law TreeItems of layer 14: any item of an image, fetched by any reference, and any node's children, are the document's, or refused. For every input, the tables of packages cipher and sha tied to the program's text. -/
import Derived.Test.YtajdpbbbocnfiaaGreatDoorBi47
import Derived.Test.YtajdpbbbocnfiaaGreatDoorBi45
import Derived.Test.YtajdpbbbocnfiaaGreatDoorBi08
import Derived.Test.YtajdpbbbocnfiaaGreatDoorBi44
import Derived.Test.YtajdpbbbocnfiaaGreatDoorBi34
import Derived.Test.YtajdpbbbocnfiaaGreatDoorBi19
import Derived.Test.YtajdpbbbocnfiaaGreatDoorBi37
import Derived.Test.YtajdpbbbocnfiaaGreatDoorBi39
import Derived.WalkKit
import Derived.Lib.SmallJoins
import Derived.Test.YtajdpbbbocnfiaaGreatDoorBi23
import Derived.Test.YtajdpbbbocnfiaaGreatDoorBi12
import Derived.Test.YtajdpbbbocnfiaaGreatDoorBi30
import Derived.Test.YtajdpbbbocnfiaaGreatDoorCards
import Derived.Test.YtajdpbbbocnfiaaGreatDoorTie
namespace Go.Proofs.YtajdpbbbocnfiaaGreatDoor
namespace Sha
open Go.ChangeShapes Go.WideShapes Go.ChangeAt Go.WideMaps Go.WideElems Go.RowKit Mem
set_option maxRecDepth 100000
set_option maxRecDepth 100000 in
theorem treeItems_lifted (os : Os) (started : os.Started) (H : Type) (enc : TypeId × Value → H) :
 ReturnsInHanded {} Tryz.checked os 5 .any (fun w args => (Rows.treeItemsSpec.pre enc Tryz.prog Tryz.f5 [] false w args ∧ laidMetH Tryz.prog laidL w) ∧ sizedMet enc Tryz.prog Tryz.f5 (OpenSpec.ofChange Rows.treeItemsSpec) false w args)
  (Rows.treeItemsSpec.post enc Tryz.prog Tryz.f5 false true false false) := by
 refine law_lift rfl rfl (by kernel_rfl) (fun H ds hl => ?_) (by kernel_rfl) Tryz.func5 os started H enc #[.slice none 0 0, .int .i64 0, .agg (refC zref)] 8 (by kernel_rfl) (by kernel_rfl) (by kernel_rfl) (World.shaped_of_RefB (by kernel_rfl) (by kernel_rfl)) (door_met os _) rfl ?_
 ·have hl' : ds.length = 3 := hl
  match ds, hl' with
  | [_, _, _], _ => rfl
 ·intro W base args ds p hval hA hT
  rw [Tryz.params5] at hA hval
  obtain ⟨v0, vs0, d0, ds0, p0, q0, hargs, rfl, rfl, h0, r0⟩ := trodAll_cons hA
  obtain ⟨v1, vs1, d1, ds1, p1, q1, rfl, rfl, rfl, h1, r1⟩ := trodAll_cons r0
  obtain ⟨v2, vs2, d2, ds2, p2, q2, rfl, rfl, rfl, h2, r2⟩ := trodAll_cons r1
  obtain ⟨rfl, rfl, rfl⟩ := trodAll_nil r2
  obtain rfl : args = #[v0, v1, v2] := by cases args; simp_all
  have k0 := hval 0 24 v0 rfl rfl
  have k1 := hval 1 3 v1 rfl rfl
  have k2 := hval 2 36 v2 rfl rfl
  clear hval
  obtain ⟨ps, sp, _, _⟩ := open_sls k0 h0
  obtain ⟨z, rfl⟩ := open_iw k1 h1
  obtain ⟨r, rfl, hr⟩ := open_ref13 k2 h2
  exact items14_core treeP ps z r v0 W ⟨hT.1, hT.2⟩ hr sp
theorem treeItems_holds : Rows.TreeItemsSaid :=
 OpenClaim.holds_of_wide 5 Tryz.f5 rfl rfl rfl rfl rfl rfl rfl ⟨rfl, rfl, rfl, rfl, rfl⟩ rfl rfl rfl rfl rfl (by kernel_rfl) Tryz.func5 (by kernel_rfl)
  (of_decide_eq_true (by kernel_rfl)) (by unfold Func.isWrapper; first | (rw [if_pos (by decide +kernel)]; kernel_rfl) | (rw [if_neg (by decide +kernel)]; exact ⟨rfl, rfl⟩))
  (fun os started H enc _ => treeItems_lifted os started H enc)
theorem treeItems_card : Rows.TreeItemsCardSaid :=
 Claim7.holds_tied_plain_at .later [] [.data, .data, .data, .data] true (true, "262c623f848187437d07853c803029392341959538df9f53da808d9061bf71ac") false
  treeItems_holds (fun _ h => by cases h) (by kernel_rfl) (fun _ h => by cases h) treeItems_row_tie rfl ⟨rfl, rfl⟩ (by kernel_rfl) rfl
  (fun f fn hf hfn => by
   obtain rfl : f = 5 := Option.some.inj ((show Tryz.prog.funcNamed "carling/carlinglaw14.TreeItems" = some 5 by kernel_rfl).symm.trans hf) |>.symm
   obtain rfl : fn = Tryz.f5 := (Option.some.inj (Tryz.func5.symm.trans hfn)).symm
   exact ⟨by kernel_rfl, fun j t ht => by
    rw [Tryz.params5] at ht
    have hm : t ∈ [24, 3, 36] := by simpa using Array.mem_of_getElem? ht
    have hall : ([24, 3, 36].all fun u => !Tryz.prog.wantsStandIn u) = true := by kernel_rfl
    exact (show Tryz.prog.wantsStandIn t = false by simpa using List.all_eq_true.1 hall t hm)⟩)
  (by kernel_rfl)
#print axioms treeItems_card
end Sha
end Go.Proofs.YtajdpbbbocnfiaaGreatDoor
