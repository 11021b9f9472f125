/- The law CommitPlans of layer 16: what is to be written for any changes, the new nodes, and the new root, are the document's, or refused. For every input, the tables of packages cipher and sha tied to the program's text. -/
import Derived.Test.YtplmfmpbkjnbaaaGreatDoorBQ40
import Derived.Test.YtplmfmpbkjnbaaaGreatDoorBQ33
import Derived.Test.YtplmfmpbkjnbaaaGreatDoorBQ24
import Derived.Test.YtplmfmpbkjnbaaaGreatDoorCards
import Derived.Test.YtplmfmpbkjnbaaaGreatDoorTie
namespace Go.Proofs.YtplmfmpbkjnbaaaGreatDoor
namespace Sha
open Go.ChangeShapes Go.WideShapes Go.ChangeAt Go.WideMaps Go.WideElems Go.RowKit Mem
set_option maxRecDepth 100000
set_option maxRecDepth 100000 in
theorem commitPlans_lifted (os:Os) (started:os.Started) (H:Type) (enc:TypeId × Value→H) :
 ReturnsInHanded {} Tryz.checked os 3 .any (fun w args=>(Rows.commitPlansSpec.pre enc Tryz.prog Tryz.f3 [] false w args∧laidMetH Tryz.prog laidL w)∧sizedMet enc Tryz.prog Tryz.f3 (OpenSpec.ofChange Rows.commitPlansSpec) false w args)
  (Rows.commitPlansSpec.post enc Tryz.prog Tryz.f3 false true false false):=by
 refine law_lift rfl rfl (by kernel_rfl) (fun H ds hl=>?_) (by kernel_rfl) Tryz.func3 os started H enc #[.agg (askC 0 (List.replicate 32 0) 0 zref),.slice none 0 0,.slice none 0 0] 8 (by kernel_rfl) (by kernel_rfl) (by kernel_rfl) (World.shaped_of_RefB (by kernel_rfl) (by kernel_rfl)) (door_met os _) rfl ?_
 ·have hl':ds.length=3:=hl
  match ds,hl' with
  | [_,_,_],_=>rfl
 ·intro W base args ds p hval hA hT
  rw [Tryz.params3] at hA hval
  obtain ⟨v0,vs0,d0,ds0,p0,q0,hargs,rfl,rfl,h0,r0⟩:=trodAll_cons hA
  obtain ⟨v1,vs1,d1,ds1,p1,q1,rfl,rfl,rfl,h1,r1⟩:=trodAll_cons r0
  obtain ⟨v2,vs2,d2,ds2,p2,q2,rfl,rfl,rfl,h2,r2⟩:=trodAll_cons r1
  obtain ⟨rfl,rfl,rfl⟩:=trodAll_nil r2
  obtain rfl:args=#[v0,v1,v2]:=by cases args;simp_all
  have k0:=hval 0 27 v0 rfl rfl
  have k1:=hval 1 28 v1 rfl rfl
  have k2:=hval 2 29 v2 rfl rfl
  clear hval
  obtain ⟨b,key,ep,r,rfl,hb,lk,hr⟩:=open_ask16 k0 h0
  obtain ⟨ns,sn,hw⟩:=open_nds k1 h1
  obtain ⟨cs,sc⟩:=open_chs k2 h2
  exact plans16_core b key ep r ns cs v1 v2 W ⟨hT.1,hT.2⟩ hb lk hr sn sc hw
theorem commitPlans_holds:Rows.CommitPlansSaid:=
 OpenClaim.holds_of_wide 3 Tryz.f3 rfl rfl rfl rfl rfl rfl rfl ⟨rfl,rfl,rfl,rfl,rfl⟩ rfl rfl rfl rfl rfl (by kernel_rfl) Tryz.func3 (by kernel_rfl)
  (of_decide_eq_true (by kernel_rfl)) (by unfold Func.isWrapper;first | (rw [if_pos (by decide +kernel)];kernel_rfl) | (rw [if_neg (by decide +kernel)];exact ⟨rfl,rfl⟩))
  (fun os started H enc _=>commitPlans_lifted os started H enc)
theorem commitPlans_card:Rows.CommitPlansCardSaid:=
 Claim7.holds_tied_plain_at .later [] [.data, .data, .data, .data] true (true, "766d0d9dcc6f1d961800599c6b44ada791361db382611f6f5827d18edc6b7364") false
  commitPlans_holds (fun _ h=>by cases h) (by kernel_rfl) (fun _ h=>by cases h) commitPlans_row_tie rfl ⟨rfl,rfl⟩ (by kernel_rfl) rfl
  (fun f fn hf hfn=>by
   obtain rfl : f = 3 := Option.some.inj ((show Tryz.prog.funcNamed "carling/carlinglaw16.CommitPlans" = some 3 by kernel_rfl).symm.trans hf) |>.symm
   obtain rfl:fn=Tryz.f3:=(Option.some.inj (Tryz.func3.symm.trans hfn)).symm
   exact ⟨by kernel_rfl,fun j t ht=>by
    rw [Tryz.params3] at ht
    have hm:t∈[27,28,29]:=by simpa using Array.mem_of_getElem? ht
    have hall:([27,28,29].all fun u=>!Tryz.prog.wantsStandIn u)=true:=by kernel_rfl
    exact (show Tryz.prog.wantsStandIn t=false by simpa using List.all_eq_true.1 hall t hm)⟩)
  (by kernel_rfl)
#print axioms commitPlans_card
end Sha
end Go.Proofs.YtplmfmpbkjnbaaaGreatDoor
