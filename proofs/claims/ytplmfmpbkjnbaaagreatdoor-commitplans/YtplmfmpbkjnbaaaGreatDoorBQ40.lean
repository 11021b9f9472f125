/- The document's Plan, whole; what is known of what is told. The law CommitPlans (written by complans.py). -/
import Derived.Test.YtplmfmpbkjnbaaaGreatDoorBQRG
import Derived.Test.YtplmfmpbkjnbaaaGreatDoorBQ36
import Derived.Test.YtplmfmpbkjnbaaaGreatDoorBQ37
import Derived.Test.YtplmfmpbkjnbaaaGreatDoorBQ33
import Derived.Test.YtplmfmpbkjnbaaaGreatDoorBQ35
import Derived.Test.YtplmfmpbkjnbaaaGreatDoorBQ00
import Derived.Test.YtplmfmpbkjnbaaaGreatDoorBQ05
set_option maxRecDepth 100000
set_option maxHeartbeats 60000000
namespace Go.Proofs.YtplmfmpbkjnbaaaGreatDoor
namespace Sha
open Go.RowKit Mem
set_option maxRecDepth 100000
theorem rplan16_any (key:Lb8) (ep:BitVec 32) (p:Nat) (vL vF:Value) (root:RefV) (N:List NdV) (C:List ChV) (vn vc:Value) (w:World) (lk:key.length=32) (hr:root.Wf) (hR:RS w p vL vF) (hn:SlNd w vn N) (hc:SlCh w vc C) (hN:NdWf N) (h0:1≤p) (h1:p≤216) (hl:C.length≤1000) :
 Calls Tryz.prog 16 #[.agg (u8s key).toArray,.int .u32 (V ep),.agg (rsC p vL vF),.agg (refC root),vn,vc] w (RPlEnd w (planT key ep p root N C)):=by
 by_cases h:mayT p N C=true∧plOk root=true
 ·have e:planT key ep p root N C=(putsC key ep p root N C (itn p),ndsC key ep p root N C (itn p),rootC key ep p root N C (itn p),0):=if_pos h
  rw [e]
  exact rplan_good key ep p vL vF root N C vn vc w lk hR hn hc hN hl ⟨h0,h1,h.1,h.2,hN.w,hr⟩
 ·have e:planT key ep p root N C=([],[],zref,1):=if_neg h
  rw [e]
  exact rplan_bad key ep p vL vF root N C vn vc w hr hR hn hc hN h0 h1 hl h
section
variable {key:Lb8} {ep:BitVec 32} {p:Nat} {root:RefV} {N:List NdV} {C:List ChV}
theorem sel_touch {i:Nat} {s:Lb8 × RefV} (h:selC key ep p root N C i=some s):tchC p C i=true:=by
 cases t:tchC p C i with
 | true=>rfl
 | false=>rw [sel_none t] at h;cases h
theorem puts_256 (G:GoodC p root N C):∀ q∈putsC key ep p root N C (itn p),q.1 < 2+2*itn p∧q.2.length=256:=by
 intro q hq
 unfold putsC at hq
 obtain ⟨i,hi,h⟩:=List.mem_filterMap.1 hq
 have hi:=List.mem_range.1 hi
 cases e:selC key ep p root N C i with
 | none=>rw [e] at h;cases h
 | some s=>
  have ht:=sel_touch e
  obtain ⟨pg,hp,hl⟩:=page_ok (key:=key) (ep:=ep) G hi ht
  obtain ⟨_,hs⟩:=sel_ok G ht hp hl
  rw [e] at hs
  injection hs with hs
  rw [e] at h
  injection h with h
  subst h
  have:=opl_ok G ht
  refine ⟨?_,?_⟩
  ·show 2+2*i+(1 - oplC p root N i).toNat < _
   omega
  ·show s.1.length=256
   rw [hs]
   show (sealL _ _ _ pg).length=256
   rw [sealL_length,hl]
theorem plan_facts (hr:root.Wf) (hN:NdWf N) (h0:1≤p) (h1:p≤216):(planT key ep p root N C).1.length≤1000∧(∀ q∈(planT key ep p root N C).1,q.2.length≤1000)∧NdWf (planT key ep p root N C).2.1∧(planT key ep p root N C).2.2.1.Wf:=by
 have h4:=itn_le259 p h1
 by_cases h:mayT p N C=true∧plOk root=true
 ·have e:planT key ep p root N C=(putsC key ep p root N C (itn p),ndsC key ep p root N C (itn p),rootC key ep p root N C (itn p),0):=if_pos h
  have G:GoodC p root N C:=⟨h0,h1,h.1,h.2,hN.w,hr⟩
  rw [e]
  refine ⟨?_,fun q hq=>by rw [(puts_256 G q hq).2];decide,⟨?_,fun x hx=>?_,fun x hx=>?_⟩,?_⟩
  ·have:=putsC_length (key:=key) (ep:=ep) (p:=p) (root:=root) (N:=N) (C:=C) (itn p)
   show (putsC key ep p root N C (itn p)).length≤1000
   omega
  ·show (ndsC key ep p root N C (itn p)).length≤1000
   unfold ndsC
   rw [List.length_map]
   have:=List.length_filter_le (isN p (pgsC C)) (List.range (itn p))
   rw [List.length_range] at this
   omega
  ·unfold ndsC at hx
   obtain ⟨i,_,rfl⟩:=List.mem_map.1 hx
   show (refsC key ep p root N C i i).length≤1000
   rw [refsC_length]
   have:=many_le p i;omega
  ·unfold ndsC at hx
   obtain ⟨i,_,rfl⟩:=List.mem_map.1 hx
   exact refsC_wf hN.w i i
  ·show (rootC key ep p root N C (itn p)).Wf
   unfold rootC
   rw [if_pos (Nat.le_refl _)]
   cases e:frC key ep p root N C (itn p - 1) with
   | none=>exact hr
   | some r=>exact fr_wf e
 ·have e:planT key ep p root N C=([],[],zref,1):=if_neg h
  rw [e]
  exact ⟨by simp,fun q hq=>(by cases hq),⟨by simp,fun x hx=>(by cases hx),fun x hx=>(by cases hx)⟩,zref_wf⟩
end
end Sha
end Go.Proofs.YtplmfmpbkjnbaaaGreatDoor
namespace Go.Proofs.YtplmfmpbkjnbaaaGreatDoor
namespace Sha
open Go.RowKit Mem
set_option maxRecDepth 100000
theorem builtChs2 (a b:Option Addr) (l c m d:Nat):Tryz.prog.builtSlice 29 2 [(0,.slice a l c),(1,.slice b m d)]=some #[.slice a l c,.slice b m d]:=by kernel_rfl
theorem ask_cells {w:World} {ba:Nat} {b:Nat} {key:Lb8} {ep:BitVec 32} {root:RefV} {t:TypeId} (lk:key.length=32) (h:At w ba (askC b key ep root) t):(askC b key ep root)[0]?=some (.int .u8 (b:Int))∧(askC b key ep root)[33]?=some (.int .u32 (V ep))∧w.rangeAt ba 1 (u8s key).toArray.toList∧w.rangeAt ba 34 (refC root).toList:=by
 have e:∀ i,(askC b key ep root)[i]?=(.int .u8 (b:Int)::(u8s key++(.int .u32 (V ep)::refL root)):List Value)[i]?:=fun i=>by unfold askC;rw [List.getElem?_toArray]
 have lu:(u8s key).length=32:=by rw [u8s_length,lk]
 refine ⟨by rw [e];rfl,?_,fun j v hv=>?_,fun j v hv=>?_⟩
 ·rw [e,List.getElem?_cons_succ,List.getElem?_append_right (by omega),lu];rfl
 ·have hv:(u8s key)[j]?=some v:=hv
  have hj:=(List.getElem?_eq_some_iff.1 hv).1
  rw [h.cell (1+j),e,Nat.add_comm 1 j,List.getElem?_cons_succ,List.getElem?_append_left hj]
  exact hv
 ·have hv:(refL root)[j]?=some v:=hv
  rw [h.cell (34+j),e,show 34+j=(33+j)+1 by omega,List.getElem?_cons_succ,List.getElem?_append_right (by omega),lu,show 33+j - 32=j+1 by omega,List.getElem?_cons_succ]
  exact hv
theorem told_cells {w:World} {bt:Nat} {vp vn:Value} {r:RefV} {e:Int} {t:TypeId} (hr:r.Wf) (h:At w bt (toldC vp vn r e) t):(toldC vp vn r e)[0]?=some vp∧(toldC vp vn r e)[1]?=some vn∧(toldC vp vn r e)[36]?=some (.int .i64 e)∧w.rangeAt bt 2 (refC r).toList:=by
 have g:∀ i,(toldC vp vn r e)[i]?=(vp::vn::(refL r++[.int .i64 e]):List Value)[i]?:=fun i=>by unfold toldC;rw [List.getElem?_toArray]
 have hl:=refL_length hr
 refine ⟨by rw [g];rfl,by rw [g];rfl,?_,fun j v hv=>?_⟩
 ·rw [g,List.getElem?_cons_succ,List.getElem?_cons_succ,List.getElem?_append_right (by omega),hl];rfl
 ·have hv:(refL r)[j]?=some v:=hv
  have hj:=(List.getElem?_eq_some_iff.1 hv).1
  rw [h.cell (2+j),g,show 2+j=j+1+1 by omega,List.getElem?_cons_succ,List.getElem?_cons_succ,List.getElem?_append_left hj]
  exact hv
theorem plans16_core (b:Nat) (key:Lb8) (ep:BitVec 32) (root:RefV) (N:List NdV) (C:List ChV) (vn vc:Value) (w:World) (hT:TT w) (hb:b < 256) (lk:key.length=32) (hr:root.Wf) (hn:SlNd w vn N) (hc:SlCh w vc C) (hwf:∀ n∈N,∀ r∈n.2,r.Wf):Calls Tryz.prog 3 #[.agg (askC b key ep root),vn,vc] w (VEnd (.bool true) w):=by
 obtain ⟨p,hp⟩:∃ p,p=b % 14+1:=⟨_,rfl⟩
 have h0:1≤p:=by omega
 have h1:p≤216:=by omega
 have fr:=fun wx (h:Below w.heap.size w wx)=>far16_any N C vn vc wx (hn.below h) (hc.below h)
 have live:=fun wx (h:Below w.heap.size w wx)=>alive16_any wx (hT.below h)
 have nw:=fun wx=>pnew_good p wx h0 h1
 have nr:=fun wx=>rnew_any p wx h0 h1
 have hfn:=fun h=>farC_no (N:=N) (C:=C) h
 have hnd:farC N C=false→NdWf N:=fun h=>⟨by have:=(farC_no h).1;omega,fun n hn=>by have:=(farC_no h).2.2.1 n hn;omega,hwf⟩
 have hp3:(b:Int) % 14+1=(p:Int):=by omega
 have aa0:=at_new w (askC b key ep root) 27
 obtain ⟨ac0,ac33,akr,arr⟩:=ask_cells lk aa0
 have hb0:Below w.heap.size w (w.alloc (.cells (askC b key ep root) 27)):=(Below.refl _ _).alloc (Nat.le_refl _) _
 obtain ⟨an,cn,rfl⟩:=hn.hd
 obtain ⟨ac,cc,rfl⟩:=hc.hd
 obtain ⟨nN,hnN⟩:∃ n,n=N.length:=⟨_,rfl⟩
 obtain ⟨nC,hnC⟩:∃ n,n=C.length:=⟨_,rfl⟩
 rw [←hnN] at hn fr hfn ⊢
 rw [←hnC] at hc fr hfn ⊢
 have hx:=zeroPS
 obtain ⟨PS,hPS⟩:∃ C,C=psC p:=⟨_,rfl⟩
 obtain ⟨Y,hYs⟩:∃ C,C=psC 0:=⟨_,rfl⟩
 have cs:PS.size=1:=by rw [hPS];rfl
 have co:PS.all (·.oneCell')=true:=by rw [hPS];exact psC_one p
 have ys:Y.size=1:=by rw [hYs];rfl
 have hxr:∀ w,(zeroValue 37).run Tryz.prog w=.ok (.agg (rsC 0 (.slice none 0 0) (.slice none 0 0))) w:=zeroShR
 obtain ⟨YR,hYR⟩:∃ C,C=rsC 0 (.slice none 0 0) (.slice none 0 0):=⟨_,rfl⟩
 have yrs:YR.size=3:=by rw [hYR];rfl
 have rs:=refC_size hr
 have kc:(u8s key).toArray.size=32:=by simp [u8s_length,lk]
 obtain ⟨AM,hAM⟩:∃ A,A=askC b key ep root:=⟨_,rfl⟩
 obtain ⟨KC,hKC⟩:∃ K,K=(u8s key).toArray:=⟨_,rfl⟩
 obtain ⟨RC,hRC⟩:∃ R,R=refC root:=⟨_,rfl⟩
 rw [←hAM] at aa0 ac0 ac33 akr arr hb0
 rw [←hKC] at akr kc
 rw [←hRC] at arr rs
 rw [←hPS] at nw
 rw [←hYs] at hx
 rw [←hYR] at hxr
 rw [←hAM]
 have ca0:(w.alloc (.cells AM 27)).cell? ⟨w.heap.size,0,none⟩=some (.int .u8 (b:Int)):=(aa0.cell 0).trans ac0
 obtain ⟨FQ,hFQ⟩:∃ q,q=farC N C:=⟨_,rfl⟩
 rw [←hFQ] at fr hfn hnd
 have FR:=zh fr;have LIVE:=zh live;have NW:=zh nw;have NR:=zh nr;have HFN:=zh hfn;have HND:=zh hnd;have CS:=zh cs;have CO:=zh co;have YS:=zh ys;have YRS:=zh yrs;have HVN:=zh hn;have HVC:=zh hc;have HNN:=zh hnN;have HNC:=zh hnC;have HPS:=zh hPS;have HXR:=zh hxr;have P14:Hid (p≤14):=zh (by omega)
 have HT:=zh hT;have A33:=zh ac33;have AA0:=zh aa0;have KR0:=zh akr;have RR0:=zh arr;have HB0':=zh hb0;have KS:=zh kc;have RS:=zh rs;have HKC:=zh hKC;have HRC:=zh hRC;have HR:=zh hr;have LK:=zh lk
 clear fr live nw nr hfn hnd cs co ys yrs hn hc hnN hnC hPS hYs hYR hxr hT hwf hFQ hp ac0 ac33 aa0 akr arr hb0 kc rs hKC hRC hr lk hAM
 go_enter Tryz.func3,Tryz.ntmps3
 go_upto_region 1 with fail
 obtain ⟨ba,hba⟩:∃ y,y=w.heap.size:=⟨_,rfl⟩
 have BAE:=zh hba
 rw [←hba] at ca0 AA0 KR0 RR0 ⊢
 clear hba
 generalize w.alloc (.cells AM 27)=w0 at *
 go_wp2_with fail
 clear hp3 ca0
 refine (NW.out _).mono ?_
 rintro e w1 ⟨rfl,hb1⟩
 have A1:=zh (at_new w1 PS 31);have B01:Hid (Below w0.heap.size w0 (w1.alloc (.cells PS 31))):=zh (hb1.alloc hb1.size _)
 clear hb1
 go_upto_region 3 with (refine wpList_store_new zr 31 _ _ zr zr PS _ _ zr zr (by rw [CS.out];exact infoPS) (by rw [YS.out,CS.out]) CO.out ?_)
 clear hx
 obtain ⟨bs,hbs⟩:∃ b,b=w1.heap.size:=⟨_,rfl⟩
 rw [←hbs] at A1 ⊢
 clear hbs
 generalize w1.alloc (.cells PS 31)=w2 at *
 go_wp2_with fail
 refine (NR.out _).mono ?_
 rintro e w3 ⟨vL,vF,rfl,hrs,hb3⟩
 obtain ⟨aL,cL,rfl⟩:=hrs.l.hd
 obtain ⟨aF,cF,rfl⟩:=hrs.f.hd
 obtain ⟨HH,hHH⟩:∃ H,H=rsC p (.slice aL (zL p).length cL) (.slice aF (fstL p (itn p)).length cF):=⟨_,rfl⟩
 have hs:HH.size=3:=by rw [hHH];rfl
 have ho:HH.all (·.oneCell')=true:=by rw [hHH];exact rsC_one _ _ _ _ _ _ _
 rw [←hHH]
 have HHE:=zh hHH;have HS:=zh hs;have HO:=zh ho
 have A3:=zh ((A1.out.below hb3 A1.out.lt).alloc (.cells HH 37));have H3:=zh (at_new w3 HH 37)
 have hb4:Below w3.heap.size w3 (w3.alloc (.cells HH 37)):=(Below.refl _ _).alloc (Nat.le_refl _) _
 have R3:=zh (hrs.below hb4)
 have B03:Hid (Below w0.heap.size w0 (w3.alloc (.cells HH 37))):=zh ((B01.out.trans (hb3.mono B01.out.size)).alloc ((B01.out.trans (hb3.mono B01.out.size)).size) _)
 have hxr:=HXR.out
 clear hb3 hb4 hrs hHH hs ho A1 B01
 go_upto_region 4 with (refine wpList_store_new zr 37 _ _ zr zr HH _ _ zr zr (by rw [HS.out];exact infoRS) (by rw [YRS.out,HS.out]) HO.out ?_)
 clear hxr
 obtain ⟨bh,hbh⟩:∃ b,b=w3.heap.size:=⟨_,rfl⟩
 rw [←hbh] at H3 ⊢
 clear hbh
 generalize w3.alloc (.cells HH 37)=w4 at *
 have B3:Hid (Below w.heap.size w w4):=zh (HB0'.out.trans (B03.out.mono HB0'.out.size))
 go_wp2_with fail
 refine (FR.out _ B3.out).mono ?_
 rintro e w5 ⟨rfl,hb5⟩
 have B5:Hid (Below w.heap.size w w5):=zh (B3.out.trans (hb5.mono B3.out.size))
 have B05:Hid (Below w0.heap.size w0 w5):=zh (B03.out.trans (hb5.mono B03.out.size))
 have A5:=zh (A3.out.below hb5 A3.out.lt);have H5:=zh (H3.out.below hb5 H3.out.lt);have R5:=zh (R3.out.below hb5)
 clear hb5 A3 H3 R3 B3 B03
 cases FQ with
 | true=>
  go_wp2_with fail
  refine (LIVE.out _ B5.out).mono ?_
  rintro e wz ⟨rfl,hbz⟩
  have BZ:Hid (Below w.heap.size w wz):=zh (B5.out.trans (hbz.mono B5.out.size))
  clear hbz
  go_wp2_with fail
  go_ret
  exact ⟨rfl,BZ.out⟩
 | false=>
  have ND:=zh (HND.out rfl)
  obtain ⟨hl60,hl20,_,_⟩:=HFN.out rfl
  clear HND HFN
  have hcl:C.length≤1000:=by have:=HNC.out;omega
  have hfl:(fullC C).length≤1000:=by rw [fullC_length];exact hcl
  have V5:=zh (HVN.out.below B5.out);have C5:=zh (HVC.out.below B5.out)
  have th:∀ wx,Below w5.heap.size w5 wx→Calls Tryz.prog 14 #[.slice an nN cn] wx (fun e w'=>∃ v',e=.returned v'∧SlNd w' v' N∧Below wx.heap.size wx w'):=fun wx hb=>theirs16_any N _ wx (V5.out.below hb) ND.out
  have fu:∀ wx,Below w5.heap.size w5 wx→Calls Tryz.prog 12 #[.slice ac nC cc] wx (fun e w'=>∃ v',e=.returned v'∧SlCh w' v' (fullC C)∧Below wx.heap.size wx w'):=fun wx hb=>full16_any C _ wx (C5.out.below hb) hcl
  have lv:∀ wx,Below w5.heap.size w5 wx→Calls Tryz.prog 11 #[] wx (VEnd (.bool true) wx):=fun wx hb=>LIVE.out wx (B5.out.trans (hb.mono B5.out.size))
  have pl:∀ (CJ:List ChV) (hl:CJ.length≤1000) v u wx,Below w5.heap.size w5 wx→SlNd wx v N→SlCh wx u CJ→Calls Tryz.prog 13 #[.pointer none,.agg KC,.int .u32 (V ep),.agg PS,.agg RC,v,u] wx (PlEnd wx (planT key ep p root N CJ)):=fun CJ hl v u wx hb hv hu=>by
   rw [HPS.out,HKC.out,HRC.out]
   exact pplan16_any key ep p root N CJ v u wx (HT.out.below (B5.out.trans (hb.mono B5.out.size))) LK.out HR.out hv hu ND.out hl h0 h1
  have rpl:∀ (CJ:List ChV) (hl:CJ.length≤1000) u wx,Below w5.heap.size w5 wx→SlCh wx u CJ→Calls Tryz.prog 16 #[.agg KC,.int .u32 (V ep),.agg HH,.agg RC,.slice an nN cn,u] wx (RPlEnd wx (planT key ep p root N CJ)):=fun CJ hl u wx hb hu=>by
   rw [HHE.out,HKC.out,HRC.out]
   exact rplan16_any key ep p _ _ root N CJ _ u wx LK.out HR.out (R5.out.below hb) (V5.out.below hb) hu ND.out h0 h1 hl
  have pfc:=fun CJ=>plan_facts (key:=key) (ep:=ep) (p:=p) (root:=root) (N:=N) (C:=CJ) HR.out ND.out h0 h1
  obtain ⟨PLT,hPLT⟩:∃ f,f=planT key ep p root N:=⟨_,rfl⟩
  rw [←hPLT] at pfc
  have pl2:∀ (CJ:List ChV) (hl:CJ.length≤1000) v u wx,Below w5.heap.size w5 wx→SlNd wx v N→SlCh wx u CJ→Calls Tryz.prog 13 #[.pointer none,.agg KC,.int .u32 (V ep),.agg PS,.agg RC,v,u] wx (PlEnd wx (PLT CJ)):=by rw [hPLT];exact pl
  have rpl2:∀ (CJ:List ChV) (hl:CJ.length≤1000) u wx,Below w5.heap.size w5 wx→SlCh wx u CJ→Calls Tryz.prog 16 #[.agg KC,.int .u32 (V ep),.agg HH,.agg RC,.slice an nN cn,u] wx (RPlEnd wx (PLT CJ)):=by rw [hPLT];exact rpl
  have TH:=zh th;have FU:=zh fu;have LV:=zh lv;have PL2:=zh pl2;have RPL2:=zh rpl2;have PFC:=zh pfc;have HCL:=zh hcl;have HFL:=zh hfl
  clear th fu lv pl rpl pl2 rpl2 pfc hcl hfl hPLT hl60 hl20 FR LIVE NW NR
  have A05:=zh (AA0.out.below B05.out AA0.out.lt)
  have K05:=zh (range_block KR0.out (B05.out.block ba AA0.out.lt));have Q05:=zh (range_block RR0.out (B05.out.block ba AA0.out.lt))
  clear AA0 KR0 RR0 B05 HB0' BAE
  go_wp2_with fail
  refine (FU.out _ (Below.refl _ _)).mono ?_
  rintro e w6 ⟨v48,rfl,hf6,hb6⟩
  obtain ⟨af,cf,rfl⟩:=hf6.hd
  have hb7:Below w6.heap.size w6 (w6.alloc (.cells #[.slice ac nC cc,.slice af (fullC C).length cf] 29)):=(Below.refl _ _).alloc (Nat.le_refl _) _
  have B7:Hid (Below w5.heap.size w5 (w6.alloc (.cells #[.slice ac nC cc,.slice af (fullC C).length cf] 29))):=zh (hb6.trans (hb7.mono hb6.size))
  have F7:=zh (hf6.below hb7)
  have X7:=zh (at_new w6 #[.slice ac nC cc,.slice af (fullC C).length cf] 29)
  have BT2:=zh (builtChs2 ac af nC cc (fullC C).length cf)
  obtain ⟨nf,hnf⟩:∃ y,y=(fullC C).length:=⟨_,rfl⟩
  rw [←hnf] at B7 F7 X7 BT2 ⊢
  clear hf6 hb6 hb7 hnf
  go_upto_region 7 with (refine Go.Great.wpList_buildSliceTo zr 43 29 2 _ zr _ zr _ zr Tryz.underlying43 #[.slice ac nC cc,.slice af nf cf] (by first | (simp [Act.eval];exact BT2.out) | (go_simp;exact BT2.out) | (simp only [List.map_toArray,List.map_cons,List.map_nil];exact BT2.out)) ?_)
  obtain ⟨bx,hbx⟩:∃ y,y=w6.heap.size:=⟨_,rfl⟩
  rw [←hbx] at X7 ⊢
  clear hbx
  generalize w6.alloc (.cells #[.slice ac nC cc,.slice af nf cf] 29)=w7 at *
  go_loopw [51] (fun vi wx=>∃ j:Nat,j≤2∧vi=.int .i64 (j:Int)∧Below w7.heap.size w7 wx) (fun vi _=>2 - (intOf vi).toNat)
  case atStart=>exact ⟨0,by omega,rfl,Below.refl _ _⟩
  case round=>
   obtain ⟨j,hj,rfl,hbw⟩:=hrel
   have BW7:=zh hbw
   have BW:Hid (Below w5.heap.size w5 wr):=zh (B7.out.trans (hbw.mono B7.out.size))
   clear hbw
   by_cases hj2:j < 2
   ·have hj3:(j:Int) < 2:=by omega
    obtain ⟨ax,nx,cx,CJ,hcj,hsj,hlj⟩:∃ ax nx cx,∃ CJ:List ChV,wr.cell? ⟨bx,j,none⟩=some (.slice ax nx cx)∧SlCh wr (.slice ax nx cx) CJ∧CJ.length≤1000:=by
     have hx:=X7.out.below BW7.out X7.out.lt
     rcases (by omega:j=0∨j=1) with rfl | rfl
     ·exact ⟨_,_,_,C,(hx.cell 0).trans rfl,C5.out.below BW.out,HCL.out⟩
     ·exact ⟨_,_,_,fullC C,(hx.cell 1).trans rfl,F7.out.below BW7.out,HFL.out⟩
    have SJ:=zh hsj;have LJ:=zh hlj
    clear hsj hlj
    go_upto_region 9 with fail
    clear hcj
    have chd:∀ wx,Below wr.heap.size wr wx→Calls Tryz.prog 15 #[.slice ax nx cx] wx (fun e w'=>∃ v',e=.returned v'∧SlCh w' v' CJ∧Below wx.heap.size wx w'):=fun wx hb=>changed16_any CJ _ wx (SJ.out.below hb) LJ.out
    obtain ⟨⟨PT,NT,RT,er⟩,hpt⟩:∃ t,t=PLT CJ:=⟨_,rfl⟩
    have pl3:=PL2.out CJ LJ.out
    have rpl3:=RPL2.out CJ LJ.out
    obtain ⟨pf1,pf2,pf3,pf4⟩:=PFC.out CJ
    rw [←hpt] at pl3 rpl3 pf1 pf2 pf3 pf4
    simp only at pf1 pf2 pf3 pf4
    unfold PlEnd at pl3
    unfold RPlEnd at rpl3
    have res:=refC_size pf4;have reo:=refC_one RT
    obtain ⟨RE,hRE⟩:∃ R,R=refC RT:=⟨_,rfl⟩
    have pl4:∀ v u wx,Below w5.heap.size w5 wx→SlNd wx v N→SlCh wx u CJ→Calls Tryz.prog 13 #[.pointer none,.agg KC,.int .u32 (V ep),.agg PS,.agg RC,v,u] wx (fun e w'=>∃ vp vn,e=.returned (.tuple #[vp,vn,.agg RE,.int .i64 er])∧WPut (fun k=>wx.heap.size≤k) w' vp PT∧SlNdG (fun k=>wx.heap.size≤k) w' vn NT∧Below wx.heap.size wx w'):=by rw [hRE];exact pl3
    have rpl4:∀ u wx,Below w5.heap.size w5 wx→SlCh wx u CJ→Calls Tryz.prog 16 #[.agg KC,.int .u32 (V ep),.agg HH,.agg RC,.slice an nN cn,u] wx (fun e w'=>∃ vp vn,e=.returned (.agg (toldC vp vn RT er))∧WPut (fun k=>wx.heap.size≤k) w' vp PT∧SlNdG (fun k=>wx.heap.size≤k) w' vn NT∧Below wx.heap.size wx w'):=rpl3
    have al:∀ wx:World,(Instr.alloc 46 true (.tuple #[])).run Tryz.prog wx=.ok (.pointer (some ⟨wx.heap.size,0,none⟩)) (wx.alloc (.cells (refC zref) 46)):=fun wx=>by kernel_rfl
    have zrs:(refC zref).size=34:=refC_size zref_wf
    obtain ⟨ZR,hZR⟩:∃ R,R=refC zref:=⟨_,rfl⟩
    rw [←hZR] at al zrs
    rw [←hRE] at res reo
    have nq:=fun wx x y=>neqRR_self16 pf4 x y wx
    rw [←hRE] at nq
    have CHD:=zh chd;have PLN:=zh pl4;have RPLN:=zh rpl4;have PF1:=zh pf1;have PF2:=zh pf2;have PF3:=zh pf3;have PF4:=zh pf4;have RES:=zh res;have REO:=zh reo;have HRE:=zh hRE;have AL:=zh al;have ZRS:=zh zrs;have NQ:=zh nq
    have BA:=zh (B7.out.trans (BW7.out.mono B7.out.size))
    have AA:=zh (A05.out.below BA.out A05.out.lt);have AS:=zh (A5.out.below BA.out A5.out.lt);have AH:=zh (H5.out.below BA.out H5.out.lt)
    have KR:=zh (range_block K05.out (BA.out.block ba A05.out.lt));have RRG:=zh (range_block Q05.out (BA.out.block ba A05.out.lt))
    clear chd pl3 rpl3 pl4 rpl4 pf1 pf2 pf3 pf4 res reo hRE al zrs hZR nq hpt BA
    go_cut [14,15,16,17] (fun s t u x wx=>∃ b16,u=.pointer (some ⟨b16,0,none⟩)∧x=.int .i64 er∧WPut (fun k=>wr.heap.size≤k) wx s PT∧SlNd wx t NT∧At wx b16 RE 46∧Below wr.heap.size wr wx)
    case first=>
     refine wp_region_plan_in (fun x'=>Below wr.heap.size wr x') (.take 0 (.take 1 (.take 2 (.take 3 (.take 4 (.take 5 (.take 6 (.take 7 (.take 9 (.two 8 17 (.two 10 17 (.two 11 17 (.take 12 (.take 13 (.take 14 (.take 15 (.take 16 (.sole 17 (.take 18 (.take 19 (.sole 20 (.take 21 .done)))))))))) (.sole 11 (.take 12 (.take 13 (.take 14 (.take 15 (.take 16 (.take 18 (.take 19 (.sole 20 (.take 21 .done))))))))))) (.sole 10 (.sole 11 (.take 12 (.take 13 (.take 14 (.take 15 (.take 16 (.take 18 (.take 19 (.sole 20 (.take 21 .done)))))))))))) (.sole 8 (.sole 10 (.sole 11 (.take 12 (.take 13 (.take 14 (.take 15 (.take 16 (.take 18 (.take 19 (.sole 20 (.take 21 .done)))))))))))))))))))))) (by kernel_rfl) (by kernel_rfl) (by kernel_rfl) (Below.refl _ _).drew ?_
     refine plan_field 27 _ 1 ba 0 ⟨ba,1,none⟩ zr zr zr ze (fun wx=>by go_simp) ?_
     (simp only [Mem.zp,Mem.pb,Mem.pc])
     refine plan_load_range 22 _ ba (1) _ KC zr zr zr ze (fun w' hw'=>range_block KR.out (hw'.block ba AA.out.lt)) Tryz.underlying22 zr (by rw [KS.out];kernel_rfl) ?_
     (simp only [Mem.zp,Mem.pb,Mem.pc])
     refine plan_field 27 _ 2 ba 0 ⟨ba,33,none⟩ zr zr zr ze (fun wx=>by go_simp) ?_
     (simp only [Mem.zp,Mem.pb,Mem.pc])
     refine plan_cell 23 _ _ (.int .u32 (V ep)) _ zr zr zr ze (fun w' hw'=>(hw'.cell (p:=⟨ba,33,none⟩) AA.out.lt).trans ((AA.out.cell 33).trans A33.out)) Tryz.underlying23 zr ?_
     (simp only [Mem.zp,Mem.pb,Mem.pc])
     refine plan_row 31 _ bs _ PS 31 zr zr zr ze (fun w' hw'=>AS.out.below hw' AS.out.lt) Tryz.underlying31 zr (by rw [CS.out];exact infoPS) ?_
     (simp only [Mem.zp,Mem.pb,Mem.pc])
     refine plan_field 27 _ 3 ba 0 ⟨ba,34,none⟩ zr zr zr ze (fun wx=>by go_simp) ?_
     (simp only [Mem.zp,Mem.pb,Mem.pc])
     refine plan_load_range 25 _ ba (34) _ RC zr zr zr ze (fun w' hw'=>range_block RRG.out (hw'.block ba AA.out.lt)) Tryz.underlying25 zr (by rw [RS.out];exact infoRfR) ?_
     (simp only [Mem.zp,Mem.pb,Mem.pc])
     iterate 2 ((first | refine Mem.pm1 ?_ | refine Mem.pm2 ?_ | refine Mem.pt ?_ | refine Mem.pf ?_);(simp only [Mem.zp,Mem.pb,Mem.pc]))
     refine plan_act ?_
     intro a0 ha0
     refine plan_lem (fun a wx=>∃ v64 v66:Value,∃ b16:Nat,a=setA a0 [(64,v64),(66,v66),(16,.pointer (some ⟨b16,0,none⟩))]∧SlNd wx v64 N∧SlCh wx v66 CJ∧At wx b16 ZR 46∧wr.heap.size≤b16∧Below wr.heap.size wr wx) (.sole 11 (.take 12 (.take 13 (.take 14 (.take 15 (.take 16 (.take 18 (.take 19 (.sole 20 (.take 21 .done)))))))))) ?_ (fun T21=>?_)
     ·rintro ax wx ⟨v64,v66,b16,rfl,f1,f2,fa,fg,hB⟩
      have F1:=zh f1;have F2:=zh f2;have FA:=zh fa;have G0:=zh fg;have HB0:=zh hB
      clear f1 f2 fa fg hB
      rw [ha0]
      (simp only [setA,List.foldl_cons,List.foldl_nil,List.setIfInBounds_toArray,List.set_cons_zero,List.set_cons_succ])
      have WX:=zh HB0.out.size
      refine plan_call 13 _ _ _ (by kernel_rfl) zr zr zr (by first | exact Mem.ev_none _ | (simp only [List.map_toArray,List.map_cons,List.map_nil,Mem.ev_tmp,List.getD_cons_succ,List.getD_cons_zero] <;> rfl)) ?_
      refine (PLN.out _ _ _ (BW.out.trans (HB0.out.mono BW.out.size)) F1.out F2.out).mono ?_
      rintro e' wy ⟨vp,vn',rfl,hwp,hwn,hby⟩
      have FP:=zh hwp;have FN:=zh hwn
      have GA:Hid (b16 < _):=zh FA.out.lt
      have FA:=zh (FA.out.below hby FA.out.lt)
      have HB0:Hid (Below wr.heap.size wr wy):=zh (HB0.out.trans (hby.mono HB0.out.size))
      clear hwp hwn hby
      refine ⟨_,rfl,HB0.out,?_⟩
      (simp only [Mem.zp,Mem.pb,Mem.pc])
      (first | refine Mem.pm1 ?_ | refine Mem.pm2 ?_ | refine Mem.pt ?_ | refine Mem.pf ?_)
      (simp only [Mem.zp,Mem.pb,Mem.pc])
      refine plan_extract _ _ #[vp,vn',.agg RE,.int .i64 er] vp zr zr zr ze zr ?_
      (simp only [Mem.zp,Mem.pb,Mem.pc])
      refine plan_extract _ _ #[vp,vn',.agg RE,.int .i64 er] vn' zr zr zr ze zr ?_
      (simp only [Mem.zp,Mem.pb,Mem.pc])
      refine plan_extract _ _ #[vp,vn',.agg RE,.int .i64 er] (.agg RE) zr zr zr ze zr ?_
      (simp only [Mem.zp,Mem.pb,Mem.pc])
      refine plan_extract _ _ #[vp,vn',.agg RE,.int .i64 er] (.int .i64 er) zr zr zr ze zr ?_
      (simp only [Mem.zp,Mem.pb,Mem.pc])
      iterate 2 ((first | refine Mem.pm1 ?_ | refine Mem.pm2 ?_ | refine Mem.pt ?_ | refine Mem.pf ?_);(simp only [Mem.zp,Mem.pb,Mem.pc]))
      refine plan_store 46 _ _ b16 RE ZR 46 zr zr zr zr ze ze (by rw [RES.out];exact infoRfP) FA.out (by rw [RES.out,ZRS.out]) REO.out (below_row HB0.out G0.out RE) ?_
      (first | refine Mem.pm1 ?_ | refine Mem.pm2 ?_ | refine Mem.pt ?_ | refine Mem.pf ?_)
      (simp only [Mem.zp,Mem.pb,Mem.pc])
      refine plan_nil ?_
      go_wp2_with fail
      go_meet
      exact ⟨b16,rfl,rfl,(WPut.keep FP.out (by simp) fun k hk _=>setRow_other _ _ k _ (by have:=GA.out;omega)).mono fun k hk _=>Nat.le_trans WX.out hk,(SlNdG.keep FN.out (by simp) fun k hk _=>setRow_other _ _ k _ (by have:=GA.out;omega)).sl,At.row (C:=ZR) FA.out RE,below_row HB0.out G0.out RE⟩
     refine plan_lem (fun a wx=>∃ v64 v66:Value,∃ b16:Nat,a=setA a0 [(64,v64),(16,.pointer (some ⟨b16,0,none⟩))]∧SlNd wx v64 N∧At wx b16 ZR 46∧wr.heap.size≤b16∧Below wr.heap.size wr wx) (.sole 10 (.sole 11 (.take 12 (.take 13 (.take 14 (.take 15 (.take 16 (.take 18 (.take 19 (.sole 20 (.take 21 .done))))))))))) ?_ (fun T11=>?_)
     ·rintro ax wx ⟨v64,v66,b16,rfl,f1,fa,fg,hB⟩
      have F1:=zh f1;have FA:=zh fa;have G0:=zh fg;have HB0:=zh hB
      clear f1 fa fg hB
      rw [ha0]
      (simp only [setA,List.foldl_cons,List.foldl_nil,List.setIfInBounds_toArray,List.set_cons_zero,List.set_cons_succ])
      refine plan_call 15 _ _ _ (by kernel_rfl) zr zr zr (by first | exact Mem.ev_none _ | (simp only [List.map_toArray,List.map_cons,List.map_nil,Mem.ev_tmp,List.getD_cons_succ,List.getD_cons_zero] <;> rfl)) ?_
      refine (CHD.out _ (HB0.out)).mono ?_
      rintro e' wy ⟨v66,rfl,hf,hby⟩
      have F2:=zh hf
      have F1:=zh (F1.out.below hby)
      have FA:=zh (FA.out.below hby FA.out.lt)
      have HB0:Hid (Below wr.heap.size wr wy):=zh (HB0.out.trans (hby.mono HB0.out.size))
      clear hf hby
      refine ⟨_,rfl,HB0.out,?_⟩
      (simp only [Mem.zp,Mem.pb,Mem.pc])
      exact T21 _ _ ⟨v64,v66,b16,by (rw [ha0];rfl),F1.out,F2.out,FA.out,G0.out,HB0.out⟩
     have HB0:Hid (Below wr.heap.size wr wr.drew):=zh (Below.refl _ _).drew
     obtain ⟨wx,hwx⟩:∃ y,y=wr.drew:=⟨_,rfl⟩
     rw [←hwx] at HB0 ⊢
     clear hwx
     rw [ha0]
     refine plan_two ?_ ?_
     ·refine plan_call 14 _ _ _ (by kernel_rfl) zr zr zr (by first | exact Mem.ev_none _ | (simp only [List.map_toArray,List.map_cons,List.map_nil,Mem.ev_tmp,List.getD_cons_succ,List.getD_cons_zero] <;> rfl)) ?_
      refine (TH.out _ (BW.out.trans (HB0.out.mono BW.out.size))).mono ?_
      rintro e' wy1 ⟨v64,rfl,hf,hby⟩
      have F1:=zh hf
      have HB0:Hid (Below wr.heap.size wr wy1):=zh (HB0.out.trans (hby.mono HB0.out.size))
      clear hf hby
      refine ⟨_,rfl,HB0.out,?_⟩
      (simp only [Mem.zp,Mem.pb,Mem.pc])
      refine plan_two ?_ ?_
      ·refine plan_call 15 _ _ _ (by kernel_rfl) zr zr zr (by first | exact Mem.ev_none _ | (simp only [List.map_toArray,List.map_cons,List.map_nil,Mem.ev_tmp,List.getD_cons_succ,List.getD_cons_zero] <;> rfl)) ?_
       refine (CHD.out _ (HB0.out)).mono ?_
       rintro e' wy2 ⟨v66,rfl,hf,hby⟩
       have F2:=zh hf
       have F1:=zh (F1.out.below hby)
       have HB0:Hid (Below wr.heap.size wr wy2):=zh (HB0.out.trans (hby.mono HB0.out.size))
       clear hf hby
       refine ⟨_,rfl,HB0.out,?_⟩
       (simp only [Mem.zp,Mem.pb,Mem.pc])
       refine plan_two ?_ ?_
       ·have WX:=zh HB0.out.size
        refine plan_call 13 _ _ _ (by kernel_rfl) zr zr zr (by first | exact Mem.ev_none _ | (simp only [List.map_toArray,List.map_cons,List.map_nil,Mem.ev_tmp,List.getD_cons_succ,List.getD_cons_zero] <;> rfl)) ?_
        refine (PLN.out _ _ _ (BW.out.trans (HB0.out.mono BW.out.size)) F1.out F2.out).mono ?_
        rintro e' wy ⟨vp,vn',rfl,hwp,hwn,hby⟩
        have FP:=zh hwp;have FN:=zh hwn
        have HB0:Hid (Below wr.heap.size wr wy):=zh (HB0.out.trans (hby.mono HB0.out.size))
        clear hwp hwn hby
        refine ⟨_,rfl,HB0.out,?_⟩
        (simp only [Mem.zp,Mem.pb,Mem.pc])
        (first | refine Mem.pm1 ?_ | refine Mem.pm2 ?_ | refine Mem.pt ?_ | refine Mem.pf ?_)
        (simp only [Mem.zp,Mem.pb,Mem.pc])
        refine plan_extract _ _ #[vp,vn',.agg RE,.int .i64 er] vp zr zr zr ze zr ?_
        (simp only [Mem.zp,Mem.pb,Mem.pc])
        refine plan_extract _ _ #[vp,vn',.agg RE,.int .i64 er] vn' zr zr zr ze zr ?_
        (simp only [Mem.zp,Mem.pb,Mem.pc])
        refine plan_extract _ _ #[vp,vn',.agg RE,.int .i64 er] (.agg RE) zr zr zr ze zr ?_
        (simp only [Mem.zp,Mem.pb,Mem.pc])
        refine plan_extract _ _ #[vp,vn',.agg RE,.int .i64 er] (.int .i64 er) zr zr zr ze zr ?_
        (simp only [Mem.zp,Mem.pb,Mem.pc])
        refine plan_alloc _ ZR zr zr zr AL.out (HB0.out.alloc HB0.out.size _) ?_
        (simp only [Mem.zp,Mem.pb,Mem.pc])
        have hby:Below wy.heap.size wy ((wy.alloc (.cells ZR 46)).setRow wy.heap.size RE):=below_row ((Below.refl _ _).alloc (Nat.le_refl _) _) (Nat.le_refl _) _
        have FA:=zh (at_new wy ZR 46)
        have G0:Hid (wr.heap.size≤wy.heap.size):=zh HB0.out.size
        have HB1:Hid (Below wr.heap.size wr (wy.alloc (.cells ZR 46))):=zh (HB0.out.alloc HB0.out.size _)
        iterate 2 ((first | refine Mem.pm1 ?_ | refine Mem.pm2 ?_ | refine Mem.pt ?_ | refine Mem.pf ?_);(simp only [Mem.zp,Mem.pb,Mem.pc]))
        refine plan_store 46 _ _ (wy.heap.size) RE ZR 46 zr zr zr zr ze ze (by rw [RES.out];exact infoRfP) FA.out (by rw [RES.out,ZRS.out]) REO.out (below_row HB1.out G0.out RE) ?_
        (first | refine Mem.pm1 ?_ | refine Mem.pm2 ?_ | refine Mem.pt ?_ | refine Mem.pf ?_)
        (simp only [Mem.zp,Mem.pb,Mem.pc])
        refine plan_nil ?_
        go_wp2_with fail
        go_meet
        exact ⟨wy.heap.size,rfl,rfl,(WPut.keep FP.out hby.size fun k _ hl=>hby.block k hl).mono fun k hk _=>Nat.le_trans WX.out hk,(FN.out.sl).below hby,At.row (C:=ZR) FA.out RE,below_row HB1.out G0.out RE⟩
       ·refine plan_alloc _ ZR zr zr zr AL.out (HB0.out.alloc HB0.out.size _) ?_
        (simp only [Mem.zp,Mem.pb,Mem.pc])
        have hby:Below wy2.heap.size wy2 (wy2.alloc (.cells ZR 46)):=(Below.refl _ _).alloc (Nat.le_refl _) _
        have FA:=zh (at_new wy2 ZR 46)
        have G0:Hid (wr.heap.size≤wy2.heap.size):=zh HB0.out.size
        have F1:=zh (F1.out.below hby)
        have F2:=zh (F2.out.below hby)
        have HB0:Hid (Below wr.heap.size wr (wy2.alloc (.cells ZR 46))):=zh (HB0.out.alloc HB0.out.size _)
        clear hby
        exact T21 _ _ ⟨v64,v66,wy2.heap.size,by (rw [ha0];rfl),F1.out,F2.out,FA.out,G0.out,HB0.out⟩
      ·refine plan_alloc _ ZR zr zr zr AL.out (HB0.out.alloc HB0.out.size _) ?_
       (simp only [Mem.zp,Mem.pb,Mem.pc])
       have hby:Below wy1.heap.size wy1 (wy1.alloc (.cells ZR 46)):=(Below.refl _ _).alloc (Nat.le_refl _) _
       have FA:=zh (at_new wy1 ZR 46)
       have G0:Hid (wr.heap.size≤wy1.heap.size):=zh HB0.out.size
       have F1:=zh (F1.out.below hby)
       have HB0:Hid (Below wr.heap.size wr (wy1.alloc (.cells ZR 46))):=zh (HB0.out.alloc HB0.out.size _)
       clear hby
       exact T11 _ _ ⟨v64,undef,wy1.heap.size,by (rw [ha0];rfl),F1.out,FA.out,G0.out,HB0.out⟩
     ·refine plan_alloc _ ZR zr zr zr AL.out (HB0.out.alloc HB0.out.size _) ?_
      (simp only [Mem.zp,Mem.pb,Mem.pc])
      have hby:Below wx.heap.size wx (wx.alloc (.cells ZR 46)):=(Below.refl _ _).alloc (Nat.le_refl _) _
      have FA:=zh (at_new wx ZR 46)
      have G0:Hid (wr.heap.size≤wx.heap.size):=zh HB0.out.size
      have HB0:Hid (Below wr.heap.size wr (wx.alloc (.cells ZR 46))):=zh (HB0.out.alloc HB0.out.size _)
      clear hby
      refine plan_call 14 _ _ _ (by kernel_rfl) zr zr zr (by first | exact Mem.ev_none _ | (simp only [List.map_toArray,List.map_cons,List.map_nil,Mem.ev_tmp,List.getD_cons_succ,List.getD_cons_zero] <;> rfl)) ?_
      refine (TH.out _ (BW.out.trans (HB0.out.mono BW.out.size))).mono ?_
      rintro e' wy1 ⟨v64,rfl,hf,hby⟩
      have F1:=zh hf
      have FA:=zh (FA.out.below hby FA.out.lt)
      have HB0:Hid (Below wr.heap.size wr wy1):=zh (HB0.out.trans (hby.mono HB0.out.size))
      clear hf hby
      refine ⟨_,rfl,HB0.out,?_⟩
      (simp only [Mem.zp,Mem.pb,Mem.pc])
      exact T11 _ _ ⟨v64,undef,wx.heap.size,by (rw [ha0];rfl),F1.out,FA.out,G0.out,HB0.out⟩
    case rest=>
     obtain ⟨b16,rfl,rfl,hwp,hwn,ha16,hbc⟩:=hcut
     obtain ⟨ap,cp,ep1⟩:=hwp.hd
     obtain ⟨aq,cq,eq1⟩:=hwn.hd
     subst ep1
     subst eq1
     have WP:=zh hwp;have WN:=zh hwn;have A16:=zh ha16;have BC:=zh hbc
     have AA2:=zh (AA.out.below hbc AA.out.lt);have AH2:=zh (AH.out.below hbc AH.out.lt);have KR2:=zh (range_block KR.out (hbc.block ba AA.out.lt));have RG2:=zh (range_block RRG.out (hbc.block ba AA.out.lt))
     have SJ2:=zh (SJ.out.below hbc)
     have BC5:Hid (Below w5.heap.size w5 wc):=zh (BW.out.trans (hbc.mono BW.out.size))
     clear hwp hwn ha16 hbc AA AH KR RRG AS SJ
     have c33:wc.cell? ⟨ba,33,none⟩=some (.int .u32 (V ep)):=(AA2.out.cell 33).trans A33.out
     obtain ⟨lp,hlp⟩:∃ y,y=PT.length:=⟨_,rfl⟩
     obtain ⟨lq,hlq⟩:∃ y,y=NT.length:=⟨_,rfl⟩
     rw [←hlp] at WP ⊢
     rw [←hlq] at WN ⊢
     clear hlp hlq
     go_wp2_with (first
      | (refine wpList_load_mid zr 22 _ zr ba 1 zr KC.toList _ KR2.out Tryz.underlying22 zr (by rw [Array.length_toList,KS.out];kernel_rfl) ?_;rw [Array.toArray_toList])
      | (refine wpList_load_all zr 37 _ zr bh zr _ Tryz.underlying37 zr HH _ AH2.out (by rw [HS.out];exact infoRS) ?_)
      | (refine wpList_load_mid zr 25 _ zr ba 34 zr RC.toList _ RG2.out Tryz.underlying25 zr (by rw [infoRfR,Array.length_toList,RS.out]) ?_;rw [Array.toArray_toList]))
     refine (RPLN.out _ _ BC5.out SJ2.out).mono ?_
     rintro e wd ⟨vp2,vn2,rfl,hwp2,hwn2,hbd⟩
     clear c33
     obtain ⟨ap2,cp2,rfl⟩:=hwp2.hd
     obtain ⟨aq2,cq2,rfl⟩:=hwn2.sl.hd
     have tms:=toldC_size (.slice ap2 PT.length cp2) (.slice aq2 NT.length cq2) PF4.out er
     have tmo:=toldC_one ap2 aq2 PT.length cp2 NT.length cq2 RT er
     have hat:=at_new wd (toldC (.slice ap2 PT.length cp2) (.slice aq2 NT.length cq2) RT er) 54
     obtain ⟨tm0,tm1,tm36,tmr⟩:=told_cells PF4.out hat
     obtain ⟨TM,hTM⟩:∃ M,M=toldC (.slice ap2 PT.length cp2) (.slice aq2 NT.length cq2) RT er:=⟨_,rfl⟩
     have hbe:Below wd.heap.size wd (wd.alloc (.cells TM 54)):=(Below.refl _ _).alloc (Nat.le_refl _) _
     rw [←hTM] at tms tmo hat tm0 tm1 tm36 tmr
     rw [←hTM]
     rw [←HRE.out] at tmr
     have hbce:Below wc.heap.size wc (wd.alloc (.cells TM 54)):=hbd.trans (hbe.mono hbd.size)
     have TMS:=zh tms;have TMO:=zh tmo;have AT1:=zh hat;have TM0:=zh tm0;have TM1:=zh tm1;have TM36:=zh tm36;have TMR:=zh tmr
     have WP3:=zh (WPut.keep WP.out hbce.size fun k _ hl=>hbce.block k hl);have WN3:=zh (WN.out.below hbce);have A163:=zh (A16.out.below hbce A16.out.lt)
     have WQ3:=zh (WPut.keep hwp2 hbe.size fun k _ hl=>hbe.block k hl);have WM3:=zh (hwn2.sl.below hbe)
     have BE:Hid (Below wr.heap.size wr (wd.alloc (.cells TM 54))):=zh (BC.out.trans (hbce.mono BC.out.size))
     have hxt:=zeroTold
     obtain ⟨Z,hZ⟩:∃ Z,Z=toldC (.slice none 0 0) (.slice none 0 0) zref 0:=⟨_,rfl⟩
     have zs0:Z.size=37:=by rw [hZ];exact toldC_size _ _ zref_wf 0
     rw [←hZ] at hxt
     have ZS0:=zh zs0
     clear tms tmo hat tm0 tm1 tm36 tmr hTM hbe hbce hwp2 hwn2 hbd WP WN A16 hZ zs0 AA2 AH2 KR2 RG2 SJ2 BC5 BC
     go_upto_region 11 with (refine wpList_store_new zr 54 _ _ zr zr TM _ _ zr zr (by rw [TMS.out];exact infoTold) (by rw [TMS.out,ZS0.out]) TMO.out ?_)
     clear hxt
     obtain ⟨bt,hbt⟩:∃ y,y=wd.heap.size:=⟨_,rfl⟩
     rw [←hbt] at AT1 TMR ⊢
     clear hbt
     generalize wd.alloc (.cells TM 54)=we at *
     have c36:we.cell? ⟨bt,36,none⟩=some (.int .i64 er):=(AT1.out.cell 36).trans TM36.out
     go_wp2_with (first
      | (refine wpList_bin zr .neq _ _ _ _ (.int .i64 er) (.int .i64 er) (.bool false) zr zr zr (fun wx=>o_ine _ _ _ _ _ wx) ?_)
      | (refine wpList_unguard zr ?_;refine wpList_load_all zr 46 _ zr b16 zr _ Tryz.underlying46 zr RE _ A163.out (by rw [RES.out];exact infoRfP) ?_)
      | (refine wpList_unguard zr ?_;refine wpList_load_mid zr 25 _ zr bt 2 zr RE.toList _ TMR.out Tryz.underlying25 zr (by rw [infoRfR,Array.length_toList,RES.out]) ?_;rw [Array.toArray_toList])
      | (refine wpList_bin zr .neq 25 25 _ _ (.agg RE) (.agg RE) (.bool false) zr zr zr (fun wx=>NQ.out wx _ _) ?_)
      | (refine wpList_unguard zr ?_;refine wpList_load_all zr 54 _ zr bt zr _ Tryz.underlying54 zr TM _ AT1.out (by rw [TMS.out];exact infoTold) ?_))
     refine (puts16_any _ _ PT _ _ TM _ WP3.out WQ3.out PF1.out PF2.out TM0.out).mono ?_
     rintro e wf ⟨rfl,hbf⟩
     have WN4:=zh (WN3.out.below hbf);have WM4:=zh (WM3.out.below hbf)
     have c1t:wf.cell? ⟨bt,1,none⟩=some (.slice aq2 NT.length cq2):=(cell_keep hbf AT1.out.lt).trans ((AT1.out.cell 1).trans TM1.out)
     have BF:Hid (Below w7.heap.size w7 wf):=zh (BW7.out.trans ((BE.out.trans (hbf.mono BE.out.size)).mono BW7.out.size))
     clear hbf c36 BE
     go_wp2_with fail
     refine (same16_any NT _ _ _ WN4.out WM4.out PF3.out).mono ?_
     rintro e wg ⟨rfl,hbg⟩
     have BG:Hid (Below w7.heap.size w7 wg):=zh (BF.out.trans (hbg.mono BF.out.size))
     clear hbg c1t
     go_wp2_with fail
     go_roundw
     case rel=>exact ⟨j+1,by omega,by go_num,BG.out⟩
     case measure=>simp [intOf];omega
   ·have hge:¬ (j:Int) < 2:=by omega
    go_wp2_with fail
    refine (LV.out _ BW.out).mono ?_
    rintro e wz ⟨rfl,hbz⟩
    have BZ:Hid (Below w.heap.size w wz):=zh (B5.out.trans ((BW.out.trans (hbz.mono BW.out.size)).mono B5.out.size))
    clear hbz
    go_wp2_with fail
    go_ret
    exact ⟨rfl,BZ.out⟩
end Sha
end Go.Proofs.YtplmfmpbkjnbaaaGreatDoor
