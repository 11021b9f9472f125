/- From the rows' condition (the four tables of packages cipher and sha read as listed) to the walks' facts; the start that meets it. -/
import Derived.Test.YtlhnegbjoncieaaGreatDoorBL07
import Derived.Test.YtlhnegbjoncieaaGreatDoorBL19
import Derived.Test.YtlhnegbjoncieaaGreatDoorBL03
namespace Go.Proofs.YtlhnegbjoncieaaGreatDoor
namespace Sha
open Go.ChangeShapes Go.WideShapes Go.ChangeAt Go.WideMaps Go.WideElems Go.RowKit Mem
set_option maxRecDepth 100000
def T9 (w:World):Prop:=Tabs w∧CTabs w
def laidL : List (String × DataW Unit) := [("carling/cipher.firstWords", Rows.laid_carling_cipher_firstWords), ("carling/cipher.quarterPlaces", Rows.laid_carling_cipher_quarterPlaces), ("carling/sha.roundConstants", Rows.laid_carling_sha_roundConstants), ("carling/sha.firstState", Rows.laid_carling_sha_firstState)]
theorem gF : Tryz.prog.globalNamed "carling/cipher.firstWords" = some 2 := by kernel_rfl
theorem gP : Tryz.prog.globalNamed "carling/cipher.quarterPlaces" = some 3 := by kernel_rfl
theorem gK : Tryz.prog.globalNamed "carling/sha.roundConstants" = some 1 := by kernel_rfl
theorem gI : Tryz.prog.globalNamed "carling/sha.firstState" = some 0 := by kernel_rfl
theorem tF:(Tryz.prog.globals[2]?).map (·.type)=some 293:=by kernel_rfl
theorem tP:(Tryz.prog.globals[3]?).map (·.type)=some 299:=by kernel_rfl
theorem tK:(Tryz.prog.globals[1]?).map (·.type)=some 295:=by kernel_rfl
theorem tI:(Tryz.prog.globals[0]?).map (·.type)=some 242:=by kernel_rfl
theorem cWbd:Tryz.prog.cellsOf 36=1:=by kernel_rfl
theorem cIbd:Tryz.prog.cellsOf 3=1:=by kernel_rfl
theorem cW4:Tryz.prog.cellsOf 293=4:=by kernel_rfl
theorem cI4:Tryz.prog.cellsOf 297=4:=by kernel_rfl
theorem cI32:Tryz.prog.cellsOf 299=8*4:=by kernel_rfl
theorem c64:Tryz.prog.cellsOf 295=64:=by kernel_rfl
theorem c8:Tryz.prog.cellsOf 242=8:=by kernel_rfl
def plcZ:List (List Int):=plc.map fun r=>r.map fun (k:Nat)=>(k:Int)
theorem laidF:(Rows.laid_carling_cipher_firstWords:DataW Unit)=Lib.tabData .u32 (fwl.map V):=by rfl
theorem laidP:(Rows.laid_carling_cipher_quarterPlaces:DataW Unit)=.agg (plcZ.map (Lib.tabData .i64)):=by rfl
theorem laidK:(Rows.laid_carling_sha_roundConstants:DataW Unit)=Lib.tabData .u32 (Kl.map V):=by rfl
theorem laidI:(Rows.laid_carling_sha_firstState:DataW Unit)=Lib.tabData .u32 (IVl.map V):=by rfl
theorem tabV_of {W:World} {name:String} {g:Nat} {cs:List Value} (hg:Tryz.prog.globalNamed name=some g) (hv:W.var? Tryz.prog name=some cs.toArray) (h0:cs≠[]):TabV W g cs:=by
 have key:∀ j v,cs[j]?=some v→W.cell? ⟨g,0+j,none⟩=some v:=fun j v hj=>by
  rw [Nat.zero_add,World.var?_cell hg hv j]
  simpa using hj
 obtain ⟨x,r,rfl⟩:=List.exists_cons_of_ne_nil h0
 exact ⟨block_lt_of_cell (key 0 x rfl),key⟩
theorem tab_of {W:World} {name:String} {g:Nat} {l:List (BitVec 32)} (h:Lib.TabIs Tryz.prog W name .u32 (l.map V)) (hg:Tryz.prog.globalNamed name=some g) (h0:0 < l.length):Tab W g l:=by
 have key:∀ i,i < l.length→W.cell? ⟨g,i,none⟩=some (.int .u32 (V (l.getD i 0))):=fun i hi=>by
  rw [h.cell hg i (by simpa using hi)]
  simp [List.getD_eq_getElem?_getD,hi]
 exact ⟨block_lt_of_cell (key 0 h0),key⟩
theorem tabs_of {W:World} (h:laidMetH Tryz.prog laidL W):T9 W:=by
 rw [MakeChecks.laidMetH_plain _ _ _ (by kernel_rfl)] at h
 obtain ⟨ps,⟨g0,t0,cs0,f0,p0,q0,hg0,ht0,hv0,hd0,⟨g1,t1,cs1,f1,p1,q1,hg1,ht1,hv1,hd1,⟨g2,t2,cs2,f2,p2,q2,hg2,ht2,hv2,hd2,⟨g3,t3,cs3,f3,p3,q3,hg3,ht3,hv3,hd3,_,_⟩,_⟩,_⟩,_⟩,_,_⟩:=h
 obtain rfl:=Option.some.inj (gF.symm.trans hg0)
 obtain rfl:=Option.some.inj (tF.symm.trans ht0)
 obtain rfl:=Option.some.inj (gP.symm.trans hg1)
 obtain rfl:=Option.some.inj (tP.symm.trans ht1)
 obtain rfl:=Option.some.inj (gK.symm.trans hg2)
 obtain rfl:=Option.some.inj (tK.symm.trans ht2)
 obtain rfl:=Option.some.inj (gI.symm.trans hg3)
 obtain rfl:=Option.some.inj (tI.symm.trans ht3)
 rw [laidF] at hd0
 rw [laidP] at hd1
 rw [laidK] at hd2
 rw [laidI] at hd3
 have e0:=Lib.cells_of_tab Tryz.underlying293 Tryz.underlying36 cWbd cW4 hd0
 have e2:=Lib.cells_of_tab Tryz.underlying295 Tryz.underlying36 cWbd c64 hd2
 have e3:=Lib.cells_of_tab Tryz.underlying242 Tryz.underlying36 cWbd c8 hd3
 obtain ⟨hl,hr⟩:=cells_of_rows Tryz.underlying299 Tryz.underlying297 Tryz.underlying3 cIbd cI4 cI32 (by decide) hd1
 have e1:cs1.toList=ints plc.flatten:=by
  apply List.ext_getElem?
  intro i
  by_cases hi:i < 32
  ·have h8:=hr (i / 4) (by omega)
   have h9:=congrArg (fun l=>l[i % 4]?) h8
   simp only [List.getElem?_take,List.getElem?_drop,if_pos (show i % 4 < 4 from Nat.mod_lt _ (by decide)),show i / 4*4+i % 4=i by omega] at h9
   rw [h9]
   have:i=0∨i=1∨i=2∨i=3∨i=4∨i=5∨i=6∨i=7∨i=8∨i=9∨i=10∨i=11∨i=12∨i=13∨i=14∨i=15∨i=16∨i=17∨i=18∨i=19∨i=20∨i=21∨i=22∨i=23∨i=24∨i=25∨i=26∨i=27∨i=28∨i=29∨i=30∨i=31:=by omega
   rcases this with rfl | rfl | rfl | rfl | rfl | rfl | rfl | rfl | rfl | rfl | rfl | rfl | rfl | rfl | rfl | rfl | rfl | rfl | rfl | rfl | rfl | rfl | rfl | rfl | rfl | rfl | rfl | rfl | rfl | rfl | rfl | rfl <;> rfl
  ·rw [List.getElem?_eq_none (by omega),List.getElem?_eq_none (by rw [show (ints plc.flatten).length=32 from rfl];omega)]
 refine ⟨⟨tab_of ?_ gK (by decide),tab_of ?_ gI (by decide)⟩,tabV_of gF ?_ (by decide),tabV_of gP ?_ (by decide)⟩
 ·unfold Lib.TabIs
  rw [hv2,←e2]
 ·unfold Lib.TabIs
  rw [hv3,←e3]
 ·rw [hv0,←Array.toArray_toList (xs:=cs0),e0];rfl
 ·rw [hv1,←Array.toArray_toList (xs:=cs1),e1]
theorem door_met (os:Os) (args:Array Value):laidMetH Tryz.prog laidL ((World.doorLaid Tryz.prog 4000 os).forCall (fun _ _=>0) ⟨#[],args,[]⟩).memory:=
 laidMetH_of_parts3 (fuel:=200) (laidMet_of_run' 200 (by kernel_rfl) (by kernel_rfl)) (by kernel_rfl) (by kernel_rfl)
theorem law_lift {f:FuncId} {fn:Func} {s:ChangeSpec} (hvars:s.vars=[]) (hres:fn.resultTypes=#[4]) (hread:fn.params.toList.all (fun t=>Tryz.prog.readableRec t && decide (t < Tryz.prog.types.size))=true)
 (hs:∀ (H:Type) (ds:List (DataW H)),ds.length=fn.params.size→s.fn H ds={ results:=[.lit (.bool true)],args:=ds }) (noInit:Tryz.checked.prog.inits.idxOf? f=none) (hfn:Tryz.prog.funcs[f]?=some fn)
 (os:Os) (started:os.Started) (H:Type) (enc:TypeId × Value→H) (wargs:Array Value) (fuel:Nat)
 (hok:Input.okWideB Tryz.prog ((World.doorLaid Tryz.prog 4000 os).forCall (fun _ _=>0) ⟨#[],wargs,[]⟩) f ⟨#[],wargs,[]⟩=true)
 (hpre:s.preB enc Tryz.prog fn [] false ((World.doorLaid Tryz.prog 4000 os).forCall (fun _ _=>0) ⟨#[],wargs,[]⟩).memory wargs fuel=true)
 (hsz:s.sizedB enc Tryz.prog fn false ((World.doorLaid Tryz.prog 4000 os).forCall (fun _ _=>0) ⟨#[],wargs,[]⟩).memory wargs fuel=true)
 (hsh:((World.doorLaid Tryz.prog 4000 os).forCall (fun _ _=>0) ⟨#[],wargs,[]⟩).Shaped Tryz.prog)
 (hdoor:laidMetH Tryz.prog laidL ((World.doorLaid Tryz.prog 4000 os).forCall (fun _ _=>0) ⟨#[],wargs,[]⟩).memory)
 (hos:(World.doorLaid Tryz.prog 4000 os).os=os)
 (contract:∀ (W:World) (base:Nat) (args:Array Value) (ds:List (DataW H)) (p:List MemPlace),(∀ (j:Nat) t v,fn.params[j]?=some t→args[j]?=some v→Value.okWide Tryz.prog W .any base t v) →
  DataW.TrodAll enc Tryz.prog W 0 (fun _=>true) true fn.params.toList args.toList ds p→T9 W→LawTrue f args W) :
 ReturnsInHanded {} Tryz.checked os f .any (fun w args=>(s.pre enc Tryz.prog fn [] false w args∧laidMetH Tryz.prog laidL w)∧sizedMet enc Tryz.prog fn (OpenSpec.ofChange s) false w args) (s.post enc Tryz.prog fn false true false false):=
 law_lift_of laidL T9 (fun h=>tabs_of h) hvars hres hread hs noInit hfn os started H enc wargs fuel hok hpre hsz hsh hdoor hos contract
end Sha
end Go.Proofs.YtlhnegbjoncieaaGreatDoor
