/- My own texts, merged. -/
import Derived.RangeFuncNested
import Derived.RangeFuncBound
import Derived.RangeFuncCalls
import Derived.RangeFuncLeaves
import Derived.Shelf.Abstract
import Derived.Shelf.RegionOpen
import Derived.WalkKit
import Derived.OwnWalkIn
import Derived.TacticsInMore
import Derived.LoopNIn
import Derived.LoopIn
import Derived.Test.YtplmfmpbkjnbaaaGreatDoorBQ00
import Derived.Test.YtplmfmpbkjnbaaaGreatDoorBQ02
import Derived.Test.YtplmfmpbkjnbaaaGreatDoorBQ08
import Derived.Test.YtplmfmpbkjnbaaaGreatDoorBQ12
import Derived.Test.YtplmfmpbkjnbaaaGreatDoorBQ20
import Derived.Test.YtplmfmpbkjnbaaaGreatDoorBQ13
import Derived.Test.YtplmfmpbkjnbaaaGreatDoorBQ19
import Derived.Test.YtplmfmpbkjnbaaaGreatDoorBQ03
set_option maxRecDepth 100000
set_option maxHeartbeats 2000000
namespace Go.Proofs.YtplmfmpbkjnbaaaGreatDoor
namespace Sha
open Go.RowKit Go.Shelf Mem
attribute [local go_sem] Oper.semAt_some
def lastOf (l:List (Nat × Lb8)) (c:Nat):Nat × Lb8:=l.getD (l.length - 1 - c) (0,[])
structure RdI6 (w:World) (n:Nat) (l:List (Nat × Lb8)) (c:Nat) (W:World):Prop where
 an:At W w.heap.size #[.int .i64 (n:Int)] 3
 av:At W (w.heap.size+1) #[.slice none 0 0] 63
 ae:At W (w.heap.size+1+1) #[.int .i64 0] 32
 b:Below w.heap.size w W
 no:∀ c',c' < c→(lastOf l c').1≠n
structure RdX6 (w:World) (d n:Nat) (l:List (Nat × Lb8)) (c:Nat) (W:World):Prop where
 v:∃ v,At W (w.heap.size+1) #[v] 63∧SlB (fun k=>w.heap.size≤k∧k≠d∧k≠d+1) W v (lastOf l c).2
 ae:At W (w.heap.size+1+1) #[.int .i64 0] 32
 b:Below w.heap.size w W
 yes:(lastOf l c).1=n
 no:∀ c',c' < c→(lastOf l c').1≠n
theorem at_two {d b:Nat} {X Y:World} {C:Array Value} {t:TypeId} (h:At X b C t) (k:Two d X Y) (h1:b≠d) (h2:b≠d+1):At Y b C t:=by
 have hl:=h.lt
 unfold At at *
 rw [k.same b hl h1 h2];exact h
theorem RdI6.two {w:World} {n c d:Nat} {l:List (Nat × Lb8)} {X Y:World} (h:RdI6 w n l c X) (k:Two d X Y) (hd:w.heap.size+3≤d):RdI6 w n l c Y:=
 ⟨at_two h.an k (by omega) (by omega),at_two h.av k (by omega) (by omega),at_two h.ae k (by omega) (by omega),h.b.trans (k.below (by omega) h.b.size),h.no⟩
theorem RdX6.two {w:World} {n c d:Nat} {l:List (Nat × Lb8)} {X Y:World} (h:RdX6 w d n l c X) (k:Two d X Y) (hd:w.heap.size+3≤d):RdX6 w d n l c Y:=by
 obtain ⟨v,h1,h2⟩:=h.v
 exact ⟨⟨v,at_two h1 k (by omega) (by omega),h2.keep k.size fun j hj hlt=>k.same j hlt hj.2.1 hj.2.2⟩,at_two h.ae k (by omega) (by omega),h.b.trans (k.below (by omega) h.b.size),h.yes,h.no⟩
end Sha
end Go.Proofs.YtplmfmpbkjnbaaaGreatDoor
namespace Go.Proofs.YtplmfmpbkjnbaaaGreatDoor
namespace Sha
open Go.RowKit Mem
set_option maxRecDepth 100000
theorem isPlace_any (z:Int) (w:World):Calls Tryz.prog 131 #[.int .i64 z] w fun e w'=>e=.returned (.bool (decide (0≤z∧z≤1)))∧w'=w:=by
 by_cases h1:0≤z
 ·by_cases h6:z≤1
  ·rw [decide_eq_true ⟨h1,h6⟩]
   go_enter Tryz.func131,Tryz.ntmps131
   go_wp2_with fail
   go_ret
   exact ⟨rfl,rfl⟩
  ·rw [decide_eq_false (fun h=>h6 h.2)]
   go_enter Tryz.func131,Tryz.ntmps131
   go_wp2_with fail
   go_ret
   exact ⟨rfl,rfl⟩
 ·rw [decide_eq_false (fun h=>h1 h.1)]
  go_enter Tryz.func131,Tryz.ntmps131
  go_wp2_with fail
  go_ret
  exact ⟨rfl,rfl⟩
theorem body_first (L:List RefV):([]:Lb8)++nbytes L.length 1=bodyN L 0:=by
 simp [bodyN,nbytes,nbyte,List.range_succ]
theorem play13_many (L:List RefV) (v:Value) (w:World) (hv:SlRf w v L) (hw:∀ r∈L,r.Wf) (h1:1≤L.length) (h6:L.length≤6):Calls Tryz.prog 101 #[v] w (SealEnd w (layN L).1 (layN L).2):=by
 have hgood:=layN_good h1 h6
 have hbad:=fun i hi h=>layN_place (L:=L) i hi h
 obtain ⟨Y,hY⟩:∃ Y,Y=layN L:=⟨_,rfl⟩
 rw [←hY] at hgood hbad ⊢
 have hgw:=fun i=>getD_wf hw i
 have hrl:=fun i wx=>play9_any (L.getD i zref) (hgw i) wx
 have hrll:=fun i=>layRf_length (hgw i)
 have hbl:=fun i (hi:i≤L.length)=>bodyN_length L i hw hi
 have hbs:=fun i (hi:i < L.length)=>bodyN_succ L i hi
 have hfill:∀ u wx,Sl wx u (bodyN L L.length)→Calls Tryz.prog 133 #[u,.int .i64 256] wx (TwoOwn wx (bodyN L L.length++List.replicate (256 - (1+37*L.length)) 0) 0):=fun u wx h=>by
  have hf:=pfill_own (bodyN L L.length) 256 u wx h (by rw [hbl _ (Nat.le_refl _)];omega) (by decide)
  unfold fillB at hf
  rw [hbl _ (Nat.le_refl _)] at hf
  exact hf
 have hnum:=fun u wx h=>num1_any [] L.length u wx h (by decide) (by omega)
 rw [body_first] at hnum
 obtain ⟨F,hF⟩:∃ F,F=bodyN L L.length++List.replicate (256 - (1+37*L.length)) 0:=⟨_,rfl⟩
 rw [←hF] at hgood hfill
 have hb0:(bodyN L 0).length=1:=hbl 0 (Nat.zero_le _)
 obtain ⟨a,c,rfl⟩:=hv.hd
 obtain ⟨n,hn⟩:∃ n,n=L.length:=⟨_,rfl⟩
 rw [←hn] at hv h1 h6 hgood hbad hbl hbs hfill hnum ⊢
 have im:=fun wx=>isMany_any (n:Int) wx
 rw [decide_eq_true (⟨by omega,by omega⟩:1≤(n:Int)∧(n:Int)≤6)] at im
 have cv:=fun wx=>conv_iu64 (n:Int) n (by omega) wx
 have zsz:(refC zref).size=34:=refC_size zref_wf
 have hx0:=zeroRfP
 obtain ⟨Z,hZ⟩:∃ Z,Z=refC zref:=⟨_,rfl⟩
 rw [←hZ] at zsz hx0
 have HV:=zh hv;have GOOD:=zh hgood;have BAD:=zh hbad;have GW:=zh hgw;have RL:=zh hrl;have RLL:=zh hrll;have HN:=zh hn;have BL:=zh hbl;have BS:=zh hbs;have FILL:=zh hfill;have NUM:=zh hnum;have ZSZ:=zh zsz;have HX:=zh hx0;have IM:=zh im;have CV:=zh cv;have B0:=zh hb0
 clear hv hgood hbad hgw hrl hrll hn hbl hbs hfill hnum hF hY hw zsz hx0 hZ im cv hb0
 go_enter Tryz.func101,Tryz.ntmps101
 go_wp2_with fail
 refine (IM.out _).mono ?_
 rintro e w1 ⟨rfl,rfl⟩
 go_wp2_with (refine wpList_conv zr _ _ _ _ (.int .u64 (n:Int)) zr zr CV.out ?_)
 refine (NUM.out _ _ (sl_none _)).mono ?_
 rintro e w3 ⟨g,rfl,ha,hg,hb⟩
 have B3:=zh hb
 have O3:Hid (OwnB w3 w1.heap.size (.slice (some ⟨g,0,none⟩) 1 1) (bodyN L 0)):=zh (by
  have h:=own_fulls ha hg (by rw [B0.out];decide)
  rw [B0.out] at h
  exact h)
 rw [B0.out]
 clear ha hg hb
 go_upto_region 5 with fail
 go_loopw [4,17] (fun vb vi wr=>∃ i:Nat,i≤n∧vi=.int .i64 (i:Int)∧OwnB wr w1.heap.size vb (bodyN L i)∧(∀ k,k < i→plOk (L.getD k zref)=true)∧Below w1.heap.size w1 wr) (fun _ vi _=>n - (intOf vi).toNat)
 case atStart=>exact ⟨0,by omega,rfl,O3.out,fun k hk=>by omega,B3.out⟩
 case round=>
  obtain ⟨i,hi,rfl,ho,hpl,hbw⟩:=hrel
  have OW:=zh ho;have BW:=zh hbw;have PL:=zh hpl;have VW:=zh (HV.out.below hbw)
  clear ho hbw hpl
  by_cases hlt:i < n
  ·have hlt2:(i:Int) < (n:Int):=by omega
   obtain ⟨b,o,ea,_,hr⟩:=slrf_at (i:=i) VW.out HN.out hlt
   subst ea
   have hok:plOk (L.getD i zref)=decide (0≤(L.getD i zref).pl∧(L.getD i zref).pl≤1):=rfl
   have hwi:=GW.out i
   have hrli:=RL.out i
   have hrll:=RLL.out i
   have hbd:=BAD.out i hlt
   have hbs:=BS.out i hlt
   have hbl:=BL.out i hi
   obtain ⟨r,hr0⟩:∃ r,r=L.getD i zref:=⟨_,rfl⟩
   have hgi:plOk r=true→∀ k,k < i+1→plOk (L.getD k zref)=true:=fun h k hk=>by
    rcases Nat.lt_or_ge k i with x | x
    ·exact PL.out k x
    ·rw [show k=i by omega,←hr0];exact h
   rw [←hr0] at hr hok hwi hrli hrll hbd hbs
   have rc0:=ref0 r
   have ip:=fun wx=>isPlace_any r.pl wx
   rw [←hok] at ip
   obtain ⟨pl,hp⟩:∃ pl,pl=r.pl:=⟨_,rfl⟩
   rw [←hp] at rc0 ip
   obtain ⟨q,hq⟩:∃ q,q=plOk r:=⟨_,rfl⟩
   rw [←hq] at ip hbd hgi
   have msz:=refC_size hwi;have mone:=refC_one r
   obtain ⟨M,hM⟩:∃ M,M=refC r:=⟨_,rfl⟩
   have hrg:wr.rangeAt b (o+i*34) M.toList:=by rw [hM];exact hr
   rw [←hM] at rc0 msz mone hrli
   have RLI:=zh hrli;have HBD:=zh hbd;have HGI:=zh hgi;have HRL:=zh hrll;have HBS:=zh hbs;have HBL:=zh hbl;have RC0:=zh rc0;have MSZ:=zh msz;have MONE:=zh mone;have RG:=zh hrg;have IP:=zh ip
   have hb5:Below wr.heap.size wr (wr.alloc (.cells M 46)):=(Below.refl _ _).alloc (Nat.le_refl _) _
   have A5:=zh (at_new wr M 46);have O5:=zh (ownsRow_below OW.out hb5);have B5:=zh (BW.out.alloc BW.out.size (.cells M 46))
   clear hr hok hrli hrll hbd hbs hbl hr0 hgi hp rc0 msz mone hM hrg hb5 hwi ip hq
   have hx:=HX.out
   go_upto_region 7 with (first
    | (refine wpList_load_mid zr 46 _ zr b (o+i*34) zr M.toList _ RG.out Tryz.underlying46 zr (by rw [infoRfP,Array.length_toList,MSZ.out]) ?_;rw [Array.toArray_toList])
    | (refine wpList_store_new zr 46 _ _ zr zr M _ _ zr zr (by rw [MSZ.out];exact infoRfP) (by rw [MSZ.out,ZSZ.out]) MONE.out ?_))
   clear hx
   obtain ⟨l,hl⟩:∃ l,l=wr.heap.size:=⟨_,rfl⟩
   rw [←hl] at A5 ⊢
   clear hl
   generalize (wr.alloc (.cells M 46))=w5 at *
   have cp:w5.cell? ⟨l,0,none⟩=some (.int .i64 pl):=(A5.out.cell 0).trans RC0.out
   go_wp2_with fail
   refine (IP.out _).mono ?_
   rintro e w6 ⟨rfl,rfl⟩
   clear cp
   cases q
   ·have HY:=zh (HBD.out rfl)
    go_wp2_with fail
    go_ret2
    exact ⟨_,by rw [HY.out];rfl,by rw [HY.out];exact sl_none _,B5.out⟩
   ·have HG2:=zh (HGI.out rfl)
    go_wp2_with (refine wpList_load_all zr 46 _ zr l zr _ Tryz.underlying46 zr M _ A5.out (by rw [MSZ.out];exact infoRfP) ?_)
    refine (RLI.out _).mono ?_
    rintro e w7 ⟨v7,rfl,hs7,hb7⟩
    have S7:=zh hs7;have O7:=zh (ownsRow_below O5.out hb7);have B7:Hid (Below w1.heap.size w1 w7):=zh (B5.out.trans (hb7.mono B5.out.size))
    clear hs7 hb7
    go_wp2_with (at_builtin;go_loud (refine wpList_append_bytes zr _ _ zr w1.heap.size u4 v7 (bodyN L i) (layRf r) zr O7.out zr S7.out (by rw [HBL.out,HRL.out];omega) B7.out.size ?_);intro v9 w9 ho9 _ hb9;have O9:Hid (OwnB w9 w1.heap.size v9 (bodyN L (i+1))):=zh (by rw [HBS.out];exact ho9);have B9:=zh (B7.out.trans hb9);clear ho9 hb9)
    go_roundw
    case rel=>exact ⟨i+1,by omega,by go_num,O9.out,HG2.out,B9.out⟩
    case measure=>simp [intOf];omega
  ·have hin:i=n:=by omega
   subst hin
   have hge:¬ (i:Int) < (i:Int):=by omega
   have HY:=zh (GOOD.out PL.out)
   have SW:=zh OW.out.sl
   go_wp2_with fail
   refine (FILL.out _ _ SW.out).mono ?_
   rintro e w6 ⟨g6,rfl,ha6,_,hb6⟩
   have S6:=zh (at_sl ha6 rfl);have B6:Hid (Below w1.heap.size w1 w6):=zh (BW.out.trans (hb6.mono BW.out.size))
   clear ha6 hb6
   go_wp2_with fail
   go_ret2
   exact ⟨_,by rw [HY.out];rfl,by rw [HY.out];exact S6.out,B6.out⟩
theorem play13_any (L:List RefV) (v:Value) (w:World) (hv:SlRf w v L) (hw:∀ r∈L,r.Wf):Calls Tryz.prog 101 #[v] w (SealEnd w (layN L).1 (layN L).2):=by
 by_cases h:1≤L.length∧L.length≤6
 ·exact play13_many L v w hv hw h.1 h.2
 ·have hy:layN L=([],1):=layN_few (by omega)
  obtain ⟨Y,hY⟩:∃ Y,Y=layN L:=⟨_,rfl⟩
  rw [←hY] at hy ⊢
  obtain ⟨a,c,rfl⟩:=hv.hd
  obtain ⟨n,hn⟩:∃ n,n=L.length:=⟨_,rfl⟩
  rw [←hn] at h ⊢
  have im:=isMany_any (n:Int) w
  rw [decide_eq_false (fun g:1≤(n:Int)∧(n:Int)≤6=>h (by omega))] at im
  have HY:=zh hy;have IM:=zh im
  clear hy hY hv hw h hn im
  go_enter Tryz.func101,Tryz.ntmps101
  go_wp2_with fail
  refine IM.out.mono ?_
  rintro e w1 ⟨rfl,rfl⟩
  go_wp2_with fail
  go_ret2
  exact ⟨_,by rw [HY.out];rfl,by rw [HY.out];exact sl_none _,Below.refl _ _⟩
end Sha
end Go.Proofs.YtplmfmpbkjnbaaaGreatDoor
namespace Go.Proofs.YtplmfmpbkjnbaaaGreatDoor
namespace Sha
open Go.ChangeShapes Go.WideShapes Go.ChangeAt Go.WideMaps Go.WideElems Go.RowKit Mem
set_option maxRecDepth 100000
def T9 (w:World):Prop:=Tabs w∧CTabs w
def laidL : List (String × DataW Unit) := [("carling/cipher.firstWords", Rows.laid_carling_cipher_firstWords), ("carling/cipher.quarterPlaces", Rows.laid_carling_cipher_quarterPlaces), ("carling/sha.roundConstants", Rows.laid_carling_sha_roundConstants), ("carling/sha.firstState", Rows.laid_carling_sha_firstState)]
theorem gF : Tryz.prog.globalNamed "carling/cipher.firstWords" = some 2 := by kernel_rfl
theorem gP : Tryz.prog.globalNamed "carling/cipher.quarterPlaces" = some 3 := by kernel_rfl
theorem gK : Tryz.prog.globalNamed "carling/sha.roundConstants" = some 1 := by kernel_rfl
theorem gI : Tryz.prog.globalNamed "carling/sha.firstState" = some 0 := by kernel_rfl
theorem tF:(Tryz.prog.globals[2]?).map (·.type)=some 286:=by kernel_rfl
theorem tP:(Tryz.prog.globals[3]?).map (·.type)=some 306:=by kernel_rfl
theorem tK:(Tryz.prog.globals[1]?).map (·.type)=some 302:=by kernel_rfl
theorem tI:(Tryz.prog.globals[0]?).map (·.type)=some 258:=by kernel_rfl
theorem cWbd:Tryz.prog.cellsOf 23=1:=by kernel_rfl
theorem cIbd:Tryz.prog.cellsOf 3=1:=by kernel_rfl
theorem cW4:Tryz.prog.cellsOf 286=4:=by kernel_rfl
theorem cI4:Tryz.prog.cellsOf 304=4:=by kernel_rfl
theorem cI32:Tryz.prog.cellsOf 306=8*4:=by kernel_rfl
theorem c64:Tryz.prog.cellsOf 302=64:=by kernel_rfl
theorem c8:Tryz.prog.cellsOf 258=8:=by kernel_rfl
def plcZ:List (List Int):=plc.map fun r=>r.map fun (k:Nat)=>(k:Int)
theorem laidF:(Rows.laid_carling_cipher_firstWords:DataW Unit)=Lib.tabData .u32 (fwl.map V):=by rfl
theorem laidP:(Rows.laid_carling_cipher_quarterPlaces:DataW Unit)=.agg (plcZ.map (Lib.tabData .i64)):=by rfl
theorem laidK:(Rows.laid_carling_sha_roundConstants:DataW Unit)=Lib.tabData .u32 (Kl.map V):=by rfl
theorem laidI:(Rows.laid_carling_sha_firstState:DataW Unit)=Lib.tabData .u32 (IVl.map V):=by rfl
theorem tabV_of {W:World} {name:String} {g:Nat} {cs:List Value} (hg:Tryz.prog.globalNamed name=some g) (hv:W.var? Tryz.prog name=some cs.toArray) (h0:cs≠[]):TabV W g cs:=by
 have key:∀ j v,cs[j]?=some v→W.cell? ⟨g,0+j,none⟩=some v:=fun j v hj=>by
  rw [Nat.zero_add,World.var?_cell hg hv j]
  simpa using hj
 obtain ⟨x,r,rfl⟩:=List.exists_cons_of_ne_nil h0
 exact ⟨block_lt_of_cell (key 0 x rfl),key⟩
theorem tab_of {W:World} {name:String} {g:Nat} {l:List (BitVec 32)} (h:Lib.TabIs Tryz.prog W name .u32 (l.map V)) (hg:Tryz.prog.globalNamed name=some g) (h0:0 < l.length):Tab W g l:=by
 have key:∀ i,i < l.length→W.cell? ⟨g,i,none⟩=some (.int .u32 (V (l.getD i 0))):=fun i hi=>by
  rw [h.cell hg i (by simpa using hi)]
  simp [List.getD_eq_getElem?_getD,hi]
 exact ⟨block_lt_of_cell (key 0 h0),key⟩
theorem tabs_of {W:World} (h:laidMetH Tryz.prog laidL W):T9 W:=by
 rw [MakeChecks.laidMetH_plain _ _ _ (by kernel_rfl)] at h
 obtain ⟨ps,⟨g0,t0,cs0,f0,p0,q0,hg0,ht0,hv0,hd0,⟨g1,t1,cs1,f1,p1,q1,hg1,ht1,hv1,hd1,⟨g2,t2,cs2,f2,p2,q2,hg2,ht2,hv2,hd2,⟨g3,t3,cs3,f3,p3,q3,hg3,ht3,hv3,hd3,_,_⟩,_⟩,_⟩,_⟩,_,_⟩:=h
 obtain rfl:=Option.some.inj (gF.symm.trans hg0)
 obtain rfl:=Option.some.inj (tF.symm.trans ht0)
 obtain rfl:=Option.some.inj (gP.symm.trans hg1)
 obtain rfl:=Option.some.inj (tP.symm.trans ht1)
 obtain rfl:=Option.some.inj (gK.symm.trans hg2)
 obtain rfl:=Option.some.inj (tK.symm.trans ht2)
 obtain rfl:=Option.some.inj (gI.symm.trans hg3)
 obtain rfl:=Option.some.inj (tI.symm.trans ht3)
 rw [laidF] at hd0
 rw [laidP] at hd1
 rw [laidK] at hd2
 rw [laidI] at hd3
 have e0:=Lib.cells_of_tab Tryz.underlying286 Tryz.underlying23 cWbd cW4 hd0
 have e2:=Lib.cells_of_tab Tryz.underlying302 Tryz.underlying23 cWbd c64 hd2
 have e3:=Lib.cells_of_tab Tryz.underlying258 Tryz.underlying23 cWbd c8 hd3
 obtain ⟨hl,hr⟩:=cells_of_rows Tryz.underlying306 Tryz.underlying304 Tryz.underlying3 cIbd cI4 cI32 (by decide) hd1
 have e1:cs1.toList=ints plc.flatten:=by
  apply List.ext_getElem?
  intro i
  by_cases hi:i < 32
  ·have h8:=hr (i / 4) (by omega)
   have h9:=congrArg (fun l=>l[i % 4]?) h8
   simp only [List.getElem?_take,List.getElem?_drop,if_pos (show i % 4 < 4 from Nat.mod_lt _ (by decide)),show i / 4*4+i % 4=i by omega] at h9
   rw [h9]
   have:i=0∨i=1∨i=2∨i=3∨i=4∨i=5∨i=6∨i=7∨i=8∨i=9∨i=10∨i=11∨i=12∨i=13∨i=14∨i=15∨i=16∨i=17∨i=18∨i=19∨i=20∨i=21∨i=22∨i=23∨i=24∨i=25∨i=26∨i=27∨i=28∨i=29∨i=30∨i=31:=by omega
   rcases this with rfl | rfl | rfl | rfl | rfl | rfl | rfl | rfl | rfl | rfl | rfl | rfl | rfl | rfl | rfl | rfl | rfl | rfl | rfl | rfl | rfl | rfl | rfl | rfl | rfl | rfl | rfl | rfl | rfl | rfl | rfl | rfl <;> rfl
  ·rw [List.getElem?_eq_none (by omega),List.getElem?_eq_none (by rw [show (ints plc.flatten).length=32 from rfl];omega)]
 refine ⟨⟨tab_of ?_ gK (by decide),tab_of ?_ gI (by decide)⟩,tabV_of gF ?_ (by decide),tabV_of gP ?_ (by decide)⟩
 ·unfold Lib.TabIs
  rw [hv2,←e2]
 ·unfold Lib.TabIs
  rw [hv3,←e3]
 ·rw [hv0,←Array.toArray_toList (xs:=cs0),e0];rfl
 ·rw [hv1,←Array.toArray_toList (xs:=cs1),e1]
theorem door_met (os:Os) (args:Array Value):laidMetH Tryz.prog laidL ((World.doorLaid Tryz.prog 4000 os).forCall (fun _ _=>0) ⟨#[],args,[]⟩).memory:=
 laidMetH_of_parts3 (fuel:=200) (laidMet_of_run' 200 (by kernel_rfl) (by kernel_rfl)) (by kernel_rfl) (by kernel_rfl)
theorem law_lift {f:FuncId} {fn:Func} {s:ChangeSpec} (hvars:s.vars=[]) (hres:fn.resultTypes=#[4]) (hread:fn.params.toList.all (fun t=>Tryz.prog.readableRec t && decide (t < Tryz.prog.types.size))=true)
 (hs:∀ (H:Type) (ds:List (DataW H)),ds.length=fn.params.size→s.fn H ds={ results:=[.lit (.bool true)],args:=ds }) (noInit:Tryz.checked.prog.inits.idxOf? f=none) (hfn:Tryz.prog.funcs[f]?=some fn)
 (os:Os) (started:os.Started) (H:Type) (enc:TypeId × Value→H) (wargs:Array Value) (fuel:Nat)
 (hok:Input.okWideB Tryz.prog ((World.doorLaid Tryz.prog 4000 os).forCall (fun _ _=>0) ⟨#[],wargs,[]⟩) f ⟨#[],wargs,[]⟩=true)
 (hpre:s.preB enc Tryz.prog fn [] false ((World.doorLaid Tryz.prog 4000 os).forCall (fun _ _=>0) ⟨#[],wargs,[]⟩).memory wargs fuel=true)
 (hsz:s.sizedB enc Tryz.prog fn false ((World.doorLaid Tryz.prog 4000 os).forCall (fun _ _=>0) ⟨#[],wargs,[]⟩).memory wargs fuel=true)
 (hsh:((World.doorLaid Tryz.prog 4000 os).forCall (fun _ _=>0) ⟨#[],wargs,[]⟩).Shaped Tryz.prog)
 (hdoor:laidMetH Tryz.prog laidL ((World.doorLaid Tryz.prog 4000 os).forCall (fun _ _=>0) ⟨#[],wargs,[]⟩).memory)
 (hos:(World.doorLaid Tryz.prog 4000 os).os=os)
 (contract:∀ (W:World) (base:Nat) (args:Array Value) (ds:List (DataW H)) (p:List MemPlace),(∀ (j:Nat) t v,fn.params[j]?=some t→args[j]?=some v→Value.okWide Tryz.prog W .any base t v) →
  DataW.TrodAll enc Tryz.prog W 0 (fun _=>true) true fn.params.toList args.toList ds p→T9 W→LawTrue f args W) :
 ReturnsInHanded {} Tryz.checked os f .any (fun w args=>(s.pre enc Tryz.prog fn [] false w args∧laidMetH Tryz.prog laidL w)∧sizedMet enc Tryz.prog fn (OpenSpec.ofChange s) false w args) (s.post enc Tryz.prog fn false true false false):=
 law_lift_of laidL T9 (fun h=>tabs_of h) hvars hres hread hs noInit hfn os started H enc wargs fuel hok hpre hsz hsh hdoor hos contract
end Sha
end Go.Proofs.YtplmfmpbkjnbaaaGreatDoor
