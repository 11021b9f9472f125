/- The law CommitLays of layer 16: laid behind an image, the plan of changes writes over no block that it uses, and none twice; the new root's image has the new pages, and all others as they were; the old root's is as it was. For every input, the tables of packages cipher and sha tied to the program's text. -/
import Derived.Test.YtlhnegbjoncieaaGreatDoorBL4L
import Derived.Test.YtlhnegbjoncieaaGreatDoorBL36
import Derived.Test.YtlhnegbjoncieaaGreatDoorBL25
import Derived.Test.YtlhnegbjoncieaaGreatDoorCards
import Derived.Test.YtlhnegbjoncieaaGreatDoorTie
namespace Go.Proofs.YtlhnegbjoncieaaGreatDoor
namespace Sha
open Go.ChangeShapes Go.WideShapes Go.ChangeAt Go.WideMaps Go.WideElems Go.RowKit Mem
set_option maxRecDepth 100000
set_option maxRecDepth 100000 in
theorem commitLays_lifted (os:Os) (started:os.Started) (H:Type) (enc:TypeId × Value→H) :
 ReturnsInHanded {} Tryz.checked os 3 .any (fun w args=>(Rows.commitLaysSpec.pre enc Tryz.prog Tryz.f3 [] false w args∧laidMetH Tryz.prog laidL w)∧sizedMet enc Tryz.prog Tryz.f3 (OpenSpec.ofChange Rows.commitLaysSpec) false w args)
  (Rows.commitLaysSpec.post enc Tryz.prog Tryz.f3 false true false false):=by
 refine law_lift rfl rfl (by kernel_rfl) (fun H ds hl=>?_) (by kernel_rfl) Tryz.func3 os started H enc #[.int .u8 0,.agg (u8s (List.replicate 32 0)).toArray,.slice none 0 0] 8 (by kernel_rfl) (by kernel_rfl) (by kernel_rfl) (World.shaped_of_RefB (by kernel_rfl) (by kernel_rfl)) (door_met os _) rfl ?_
 ·have hl':ds.length=3:=hl
  match ds,hl' with
  | [_,_,_],_=>rfl
 ·intro W base args ds p hval hA hT
  rw [Tryz.params3] at hA hval
  obtain ⟨v0,vs0,d0,ds0,p0,q0,hargs,rfl,rfl,h0,r0⟩:=trodAll_cons hA
  obtain ⟨v1,vs1,d1,ds1,p1,q1,rfl,rfl,rfl,h1,r1⟩:=trodAll_cons r0
  obtain ⟨v2,vs2,d2,ds2,p2,q2,rfl,rfl,rfl,h2,r2⟩:=trodAll_cons r1
  obtain ⟨rfl,rfl,rfl⟩:=trodAll_nil r2
  obtain rfl:args=#[v0,v1,v2]:=by cases args;simp_all
  have k0:=hval 0 5 v0 rfl rfl
  have k1:=hval 1 22 v1 rfl rfl
  have k2:=hval 2 23 v2 rfl rfl
  clear hval
  obtain ⟨b,rfl,hb⟩:=open_u8w k0 h0
  obtain ⟨key,rfl,lk⟩:=open_bytes Tryz.underlying22 (by kernel_rfl) k1 h1
  obtain ⟨rs,sr⟩:=open_rds k2 h2
  exact lays16_core b key rs v2 W ⟨hT.1,hT.2⟩ hb lk sr
theorem commitLays_holds:Rows.CommitLaysSaid:=
 OpenClaim.holds_of_wide 3 Tryz.f3 rfl rfl rfl rfl rfl rfl rfl ⟨rfl,rfl,rfl,rfl,rfl⟩ rfl rfl rfl rfl rfl (by kernel_rfl) Tryz.func3 (by kernel_rfl)
  (of_decide_eq_true (by kernel_rfl)) (by unfold Func.isWrapper;first | (rw [if_pos (by decide +kernel)];kernel_rfl) | (rw [if_neg (by decide +kernel)];exact ⟨rfl,rfl⟩))
  (fun os started H enc _=>commitLays_lifted os started H enc)
theorem commitLays_card:Rows.CommitLaysCardSaid:=
 Claim7.holds_tied_plain_at .later [] [.data, .data, .data, .data] true (true, "1a436904d553c50b4162bc9571b396a2eb8a7634f1180c6b451cef33cb40c89f") false
  commitLays_holds (fun _ h=>by cases h) (by kernel_rfl) (fun _ h=>by cases h) commitLays_row_tie rfl ⟨rfl,rfl⟩ (by kernel_rfl) rfl
  (fun f fn hf hfn=>by
   obtain rfl : f = 3 := Option.some.inj ((show Tryz.prog.funcNamed "carling/carlinglaw16.CommitLays" = some 3 by kernel_rfl).symm.trans hf) |>.symm
   obtain rfl:fn=Tryz.f3:=(Option.some.inj (Tryz.func3.symm.trans hfn)).symm
   exact ⟨by kernel_rfl,fun j t ht=>by
    rw [Tryz.params3] at ht
    have hm:t∈[5,22,23]:=by simpa using Array.mem_of_getElem? ht
    have hall:([5,22,23].all fun u=>!Tryz.prog.wantsStandIn u)=true:=by kernel_rfl
    exact (show Tryz.prog.wantsStandIn t=false by simpa using List.all_eq_true.1 hall t hm)⟩)
  (by kernel_rfl)
#print axioms commitLays_card
end Sha
end Go.Proofs.YtlhnegbjoncieaaGreatDoor
