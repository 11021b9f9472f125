/- My own texts, merged. -/
import Derived.Test.YtplmfmpbkjnbaaaGreatDoorBQ33
import Derived.Test.YtplmfmpbkjnbaaaGreatDoorBQ13
import Derived.Test.YtplmfmpbkjnbaaaGreatDoorBQ10
import Derived.Test.YtplmfmpbkjnbaaaGreatDoorBQ00
import Derived.Test.YtplmfmpbkjnbaaaGreatDoorBQ02
import Derived.Test.YtplmfmpbkjnbaaaGreatDoorBQ32
set_option maxRecDepth 100000
set_option maxHeartbeats 8000000
namespace Go.Proofs.YtplmfmpbkjnbaaaGreatDoor
namespace Sha
open Go.RowKit Mem
set_option maxRecDepth 100000
theorem pgsC_length (C:List ChV):(pgsC C).length=C.length:=by simp [pgsC]
theorem pgsC_take (C:List ChV) (j:Nat) (hj:j < C.length):(pgsC C).take (j+1)=(pgsC C).take j++[(C.getD j zch).1]:=by
 unfold pgsC
 rw [List.take_add_one,List.getElem?_map,List.getElem?_eq_getElem hj,List.getD_eq_getElem?_getD,List.getElem?_eq_getElem hj]
 rfl
theorem pneedOf_any (p:Nat) (C:List ChV) (v:Value) (w:World) (hv:SlCh w v C) (h1:p≤216) (hl:C.length≤1000):Calls Tryz.prog 52 #[.agg (psC p),v] w fun e w'=>∃ v',e=.returned v'∧OwnV w' w.heap.size 3 v' (iz (needI p (pgsC C)))∧Below w.heap.size w w':=by
 have nd:=fun vx wx h=>pneed_any p (pgsC C) vx wx h h1 (by rw [pgsC_length];exact hl)
 obtain ⟨av,cv,rfl⟩:=hv.hd
 have htk:=fun j hj=>pgsC_take C j hj
 have hall:(pgsC C).take C.length=pgsC C:=by rw [←pgsC_length C];exact List.take_length
 have htl:∀ j,j≤C.length→((pgsC C).take j).length=j:=fun j hj=>by rw [List.length_take,pgsC_length];omega
 obtain ⟨PG,hPG⟩:∃ P,P=pgsC C:=⟨_,rfl⟩
 rw [←hPG] at nd htk hall htl ⊢
 obtain ⟨KS,hKS⟩:∃ K,K=needI p PG:=⟨_,rfl⟩
 rw [←hKS] at nd ⊢
 obtain ⟨n,hn⟩:∃ n,n=C.length:=⟨_,rfl⟩
 rw [←hn] at hv hl htk hall htl ⊢
 have ha:=at_new w (psC p) 31
 have hb:Below w.heap.size w (w.alloc (.cells (psC p) 31)):=(Below.refl _ _).alloc (Nat.le_refl _) _
 have ms:(psC p).size=1:=rfl
 obtain ⟨M,hM⟩:∃ M,M=psC p:=⟨_,rfl⟩
 rw [←hM] at nd ha hb ms ⊢
 have NDD:=zh nd;have TK:=zh htk;have ALL:=zh hall;have TL:=zh htl;have HV:=zh hv;have HN:=zh hn;have HA:=zh ha;have HB:=zh hb;have MS:=zh ms
 clear nd htk hall htl hv hn ha hb ms hPG hKS hM
 go_enter Tryz.func52,Tryz.ntmps52
 go_upto_region 1 with fail
 generalize w.alloc (.cells M 31)=w1 at *
 go_wp2_with fail
 go_loopw [5,10] (fun vo vi wr=>∃ j:Nat,j≤n∧vi=.int .i64 (j:Int)∧OwnV wr w.heap.size 3 vo (iz (PG.take j))∧Below w.heap.size w wr∧At wr w.heap.size M 31) (fun _ vi _=>n - (intOf vi).toNat)
 case atStart=>exact ⟨0,by omega,rfl,by rw [List.take_zero];exact World.ownsRow_nil _ _ _ _,HB.out,HA.out⟩
 case round=>
  obtain ⟨j,hj,rfl,ho,hbw,haw⟩:=hrel
  have OW:=zh ho;have BW:=zh hbw;have AW:=zh haw;have VW:=zh (HV.out.below hbw)
  have hl5:(iz (PG.take j)).length=j:=by rw [iz_length,TL.out j hj]
  have L5:=zh hl5
  clear ho hbw haw hl5
  by_cases hlt:j < n
  ·have hlt':(j:Int) < (n:Int):=by omega
   obtain ⟨b1,o1,u,e1,hlb,cz0,cu0,hsu⟩:=slch_at (i:=j) VW.out HN.out hlt
   subst e1
   have htk:=TK.out j hlt
   obtain ⟨x,hx⟩:∃ x,x=(C.getD j zch).2:=⟨_,rfl⟩
   obtain ⟨z,hz⟩:∃ z,z=(C.getD j zch).1:=⟨_,rfl⟩
   rw [←hz] at htk
   rw [←hx] at hsu
   obtain ⟨a3,cap3,rfl⟩:=sl_inv hsu
   obtain ⟨m,hm⟩:∃ m,m=x.length:=⟨_,rfl⟩
   rw [←hm] at cu0
   have cz:wr.cell? ⟨b1,o1+j*2,none⟩=some (.int .i64 z):=by rw [hz];exact cz0
   have cu:wr.cell? ⟨b1,o1+j*2+1,none⟩=some (.slice a3 m cap3):=cu0
   clear cz0 cu0
   have A3:=zh (at_new wr (chRow z (.slice a3 m cap3)) 76)
   have B3:Hid (Below w.heap.size w (wr.alloc (.cells (chRow z (.slice a3 m cap3)) 76))):=zh (BW.out.alloc BW.out.size _)
   have AS3:=zh (AW.out.alloc (.cells (chRow z (.slice a3 m cap3)) 76))
   have O3:Hid (OwnV (wr.alloc (.cells (chRow z (.slice a3 m cap3)) 76)) w.heap.size 3 u5 (iz (PG.take j))):=zh (World.ownsRow.alloc OW.out _)
   have HTK:=zh htk
   clear htk hsu hx hz hm hlb
   go_upto_region 5 with (refine wpList_store_new zr 76 _ _ zr zr (chRow z (.slice a3 m cap3)) _ _ zr zr (by exact infoCh16) zr (chRow_one _ _ _ _) ?_)
   clear cz cu
   obtain ⟨bx,hbx⟩:∃ bx,bx=wr.heap.size:=⟨_,rfl⟩
   rw [←hbx] at A3 ⊢
   clear hbx
   generalize wr.alloc (.cells (chRow z (.slice a3 m cap3)) 76)=w3 at *
   have c0:w3.cell? ⟨bx,0,none⟩=some (.int .i64 z):=(A3.out.cell 0).trans rfl
   obtain ⟨a5,c5,rfl,_⟩:=OwnV.open O3.out
   rw [L5.out] at O3 ⊢
   go_wp2_with (at_builtin;refine wpList_append_lit zr _ _ 35 zr (.int .i64 z) (.int .i64 0) 8 elemInt zr zr O3.out zr zr (by rw [L5.out];omega) (by rw [L5.out];omega) (B3.out.size) ?_;intro v6 w6 ho6 hk6 hb6 _;have O6:Hid (OwnV w6 w.heap.size 3 v6 (iz (PG.take (j+1)))):=zh (by rw [HTK.out,iz_snoc];exact ho6);have B6:Hid (Below w.heap.size w w6):=zh (B3.out.trans hb6);have A6:=zh (Sha.At.app AS3.out hk6 (own_ne_at O3.out AS3.out (by decide)));clear ho6 hb6 hk6)
   go_roundw
   case rel=>exact ⟨j+1,by omega,by go_num,O6.out,B6.out,A6.out⟩
   case measure=>simp [intOf];omega
  ·have hjn:j=n:=by omega
   subst hjn
   have hge:¬ (j:Int) < (j:Int):=by omega
   rw [ALL.out] at OW
   go_wp2_with (refine wpList_load_all zr 31 _ zr w.heap.size zr _ Tryz.underlying31 zr M _ AW.out (by rw [MS.out];exact infoPS) ?_)
   refine (NDD.out _ _ (ownV_sli OW.out)).mono ?_
   rintro e w5 ⟨v5,rfl,ho5,hb5⟩
   have O5:=zh (OwnV.base ho5 BW.out.size);have B5:=zh (BW.out.trans (hb5.mono BW.out.size))
   clear ho5 hb5
   go_wp2_with fail
   go_ret
   exact ⟨_,rfl,O5.out,B5.out⟩
theorem needI_get (p:Nat) (L:List Int) (j:Nat) (hj:j < (needI p L).length):∃ i:Nat,(needI p L).getD j 0=(i:Int)∧(needT p L).getD j 0=i∧i < itn p∧isN p L i=true∧p≤i:=by
 unfold needI at *
 rw [List.length_map] at hj
 refine ⟨(needT p L).getD j 0,?_,rfl,?_⟩
 ·rw [List.getD_eq_getElem?_getD,List.getElem?_map,List.getElem?_eq_getElem hj,List.getD_eq_getElem?_getD,List.getElem?_eq_getElem hj];rfl
 ·have h:=(mem_need p L ((needT p L).getD j 0)).1 (by rw [List.getD_eq_getElem?_getD,List.getElem?_eq_getElem hj];exact List.getElem_mem hj)
  exact ⟨h.1,h.2,((isN_iff p L _).1 h.2).1⟩
theorem may_all (p:Nat) (N:List NdV) (C:List ChV) (hr:decide (riseT p C)=true) (h:∀ j,j < (needI p (pgsC C)).length→∀ i:Nat,(needI p (pgsC C)).getD j 0=(i:Int)→nodeOk p N i=true):mayT p N C=true:=by
 unfold mayT
 rw [hr,Bool.true_and,List.all_eq_true]
 intro i hi
 obtain ⟨j,hj,e⟩:=List.mem_iff_getElem.1 hi
 refine h j (by unfold needI;rw [List.length_map];exact hj) i ?_
 unfold needI
 rw [List.getD_eq_getElem?_getD,List.getElem?_map,List.getElem?_eq_getElem hj,e]
 rfl
theorem may_no (p:Nat) (N:List NdV) (C:List ChV) (j i:Nat) (hj:j < (needI p (pgsC C)).length) (hi:(needI p (pgsC C)).getD j 0=(i:Int)) (h:nodeOk p N i=false):mayT p N C=false:=by
 unfold mayT
 have:(needT p (pgsC C)).all (nodeOk p N)=false:=by
  rw [List.all_eq_false]
  obtain ⟨i',h1,h2,h3,h4,_⟩:=needI_get p (pgsC C) j hj
  have e:i'=i:=by omega
  subst e
  exact ⟨i',(mem_need p _ i').2 ⟨h3,h4⟩,by rw [h];decide⟩
 rw [this,Bool.and_false]
theorem pmay_any (p:Nat) (N:List NdV) (C:List ChV) (vn vc:Value) (w:World) (hn:SlNd w vn N) (hc:SlCh w vc C) (hN:NdWf N) (h1:p≤216) (hl:C.length≤1000):Calls Tryz.prog 51 #[.agg (psC p),vn,vc] w (VEnd (.bool (mayT p N C)) w):=by
 have ar:=fun wx h=>pareCh_any p C vc wx h h1 hl
 have nd:=fun wx h=>pneedOf_any p C vc wx h h1 hl
 have fd:=fun (z:Int) wx h=>pfind_any N z vn wx h hN
 have kd:=fun (z:Int) wx=>pkids_any p z wx h1
 have hp:=fun (z:Int) vx wx h=>havePl_any (findD N z) vx wx h (findD_wf hN.w z) (findD_le hN z)
 have hfl:=fun z=>findD_le hN z
 have hfw:=fun z=>findD_wf hN.w z
 have hgt:=fun j hj=>needI_get p (pgsC C) j hj
 have hkz:=fun i (a:p≤i) (b:i < itn p)=>KZ_node p i a b
 have hok:∀ i:Nat,nodeOk p N i=(decide ((findD N (i:Int)).length=many p i) && (findD N (i:Int)).all plOk):=fun _=>rfl
 have hno0:decide (riseT p C)=false→mayT p N C=false:=fun h=>by unfold mayT;rw [h,Bool.false_and]
 have hno:=fun j i hj hi h=>may_no p N C j i hj hi h
 have hyes:=fun hr h=>may_all p N C hr h
 have hm6:=fun i=>many_le p i
 obtain ⟨R,hR⟩:∃ R,R=decide (riseT p C):=⟨_,rfl⟩
 rw [←hR] at ar hno0 hyes
 obtain ⟨Y,hY⟩:∃ Y,Y=mayT p N C:=⟨_,rfl⟩
 rw [←hY] at hno0 hno hyes ⊢
 obtain ⟨KS,hKS⟩:∃ K,K=needI p (pgsC C):=⟨_,rfl⟩
 rw [←hKS] at nd hno hyes hgt
 obtain ⟨n,hnn⟩:∃ n,n=KS.length:=⟨_,rfl⟩
 have hn259:n≤259:=by rw [hnn,hKS];exact needI_len p _ h1
 rw [←hnn] at hno hyes hgt
 have ha:=at_new w (psC p) 31
 have hb:Below w.heap.size w (w.alloc (.cells (psC p) 31)):=(Below.refl _ _).alloc (Nat.le_refl _) _
 have ms:(psC p).size=1:=rfl
 obtain ⟨M,hM⟩:∃ M,M=psC p:=⟨_,rfl⟩
 rw [←hM] at ar nd kd ha hb ms ⊢
 obtain ⟨an,cn,rfl⟩:=hn.hd
 obtain ⟨ac,cc,rfl⟩:=hc.hd
 obtain ⟨nN,hnN⟩:∃ n,n=N.length:=⟨_,rfl⟩
 obtain ⟨nC,hnC⟩:∃ n,n=C.length:=⟨_,rfl⟩
 rw [←hnN] at hn fd ⊢
 rw [←hnC] at hc ar nd ⊢
 have AR:=zh ar;have NDD:=zh nd;have FD:=zh fd;have KD:=zh kd;have HP:=zh hp;have FL:=zh hfl;have FW:=zh hfw;have GT:=zh hgt;have KZN:=zh hkz;have OK:=zh hok;have NO0:=zh hno0;have NO:=zh hno;have YES:=zh hyes;have M6:=zh hm6;have HNN:=zh hnn;have HA:=zh ha;have HB:=zh hb;have MS:=zh ms;have HVN:=zh hn;have HVC:=zh hc
 clear ar nd fd kd hp hfl hfw hgt hkz hok hno0 hno hyes hm6 hnn ha hb ms hn hc hR hY hKS hM hN hnN hnC hl
 go_enter Tryz.func51,Tryz.ntmps51
 go_upto_region 1 with fail
 generalize w.alloc (.cells M 31)=w1 at *
 go_wp2_with (refine wpList_load_all zr 31 _ zr w.heap.size zr _ Tryz.underlying31 zr M _ HA.out (by rw [MS.out];exact infoPS) ?_)
 refine (AR.out _ (HVC.out.below HB.out)).mono ?_
 rintro e w2 ⟨rfl,hb2⟩
 have B2:=zh (HB.out.trans (hb2.mono HB.out.size));have A2:=zh (HA.out.below hb2 HA.out.lt)
 clear hb2
 cases hR:R with
 | false=>
  have HY:=zh (NO0.out hR)
  go_wp2_with fail
  go_ret
  exact ⟨by rw [HY.out];rfl,B2.out⟩
 | true=>
  have HR:=zh hR
  clear hR
  go_wp2_with (refine wpList_load_all zr 31 _ zr w.heap.size zr _ Tryz.underlying31 zr M _ A2.out (by rw [MS.out];exact infoPS) ?_)
  refine (NDD.out _ (HVC.out.below B2.out)).mono ?_
  rintro e w3 ⟨v3,rfl,ho3,hb3⟩
  have S3:=zh (ownV_sli ho3);have B3:=zh (B2.out.trans (hb3.mono B2.out.size));have A3:=zh (A2.out.below hb3 A2.out.lt)
  obtain ⟨a3,c3,e3⟩:=S3.out.hd
  subst e3
  rw [←HNN.out] at S3 ⊢
  clear ho3 hb3
  go_upto_region 4 with fail
  go_loopw [19] (fun vi wr=>∃ j:Nat,j≤n∧vi=.int .i64 (j:Int)∧(∀ j',j' < j→∀ i:Nat,KS.getD j' 0=(i:Int)→nodeOk p N i=true)∧Below w.heap.size w wr∧At wr w.heap.size M 31∧SlI wr (.slice a3 n c3) KS) (fun vi _=>n - (intOf vi).toNat)
  case atStart=>exact ⟨0,by omega,rfl,fun j' h=>by omega,B3.out,A3.out,S3.out⟩
  case round=>
   obtain ⟨j,hj,rfl,hal,hbw,haw,hs⟩:=hrel
   have BW:=zh hbw;have AW:=zh haw;have AL:=zh hal;have SW:=zh hs
   clear hal hbw haw hs
   by_cases hlt:j < n
   ·have hlt':(j:Int) < (n:Int):=by omega
    obtain ⟨i,hi,_,hit,_,hpi⟩:=GT.out j hlt
    obtain ⟨b1,o1,e1,hlb,cx0⟩:=sli_at (i:=j) SW.out HNN.out hlt
    subst e1
    rw [hi] at cx0
    have fdi:=fun wx h=>FD.out (i:Int) wx h
    have kdi:=fun wx=>KD.out (i:Int) wx
    have hpi2:=fun vx wx h=>HP.out (i:Int) vx wx h
    have hln:=KZN.out i hpi hit
    have hoki:=OK.out i
    have hnoi:=fun h=>NO.out j i hlt hi h
    have hali:nodeOk p N i=true→∀ j',j' < j+1→∀ i:Nat,KS.getD j' 0=(i:Int)→nodeOk p N i=true:=fun h j' hj' i' hi'=>by
     rcases Nat.lt_or_ge j' j with g | g
     ·exact AL.out j' g i' hi'
     ·have:j'=j:=by omega
      subst this
      have:i'=i:=by omega
      rw [this];exact h
    have hwl:=FW.out (i:Int)
    have h6:=M6.out i
    obtain ⟨RL,hRL⟩:∃ R,R=findD N (i:Int):=⟨_,rfl⟩
    obtain ⟨q0,hq0⟩:∃ q,q=(findT N (i:Int)).isSome:=⟨_,rfl⟩
    rw [←hRL,←hq0] at fdi
    rw [←hRL] at hpi2 hoki hwl
    obtain ⟨KK,hKK⟩:∃ K,K=KZ p (i:Int):=⟨_,rfl⟩
    rw [←hKK] at kdi hln
    obtain ⟨m,hm⟩:∃ m,m=many p i:=⟨_,rfl⟩
    rw [←hm] at hln hoki h6
    obtain ⟨l,hl⟩:∃ l,l=RL.length:=⟨_,rfl⟩
    rw [←hl] at hoki
    obtain ⟨q,hq⟩:∃ q,q=RL.all plOk:=⟨_,rfl⟩
    rw [←hq] at hoki hpi2
    obtain ⟨NK,hNK⟩:∃ K,K=nodeOk p N i:=⟨_,rfl⟩
    rw [←hNK] at hoki hnoi hali
    have FDI:=zh fdi;have KDI:=zh kdi;have HPI:=zh hpi2;have HLN:=zh hln;have OKI:=zh hoki;have NOI:=zh hnoi;have ALI:=zh hali;have HL:=zh hl;have WLL:=zh hwl
    clear fdi kdi hpi2 hln hoki hnoi hali hRL hq0 hKK hm hl hq hNK hlb hwl hpi hit
    obtain ⟨z,hz⟩:∃ z:Int,z=(i:Int):=⟨_,rfl⟩
    rw [←hz] at cx0 FDI KDI
    clear hz hi
    go_wp2_with fail
    refine (FDI.out _ (HVN.out.below BW.out)).mono ?_
    rintro e w4 ⟨v4,rfl,ho4,hb4⟩
    have R4:=zh (own_slrf ho4 WLL.out);have B4:=zh (BW.out.trans (hb4.mono BW.out.size));have A4:=zh (AW.out.below hb4 AW.out.lt);have S4:=zh (SW.out.below hb4)
    clear ho4 hb4 cx0
    obtain ⟨a4,c4,e4⟩:=R4.out.hdn HL.out.symm
    subst e4
    go_wp2_with (refine wpList_load_all zr 31 _ zr w.heap.size zr _ Tryz.underlying31 zr M _ A4.out (by rw [MS.out];exact infoPS) ?_)
    refine (KDI.out _).mono ?_
    rintro e w5 ⟨v5,rfl,hs5,hb5⟩
    obtain ⟨a5,c5,e5⟩:=hs5.hd
    subst e5
    rw [HLN.out]
    have R5:=zh (R4.out.below hb5);have B5:=zh (B4.out.trans (hb5.mono B4.out.size));have A5:=zh (A4.out.below hb5 A4.out.lt);have S5:=zh (S4.out.below hb5)
    clear hs5 hb5
    by_cases hlm:l=m
    ·subst hlm
     go_wp2_with fail
     refine (HPI.out _ _ R5.out).mono ?_
     rintro e w6 ⟨rfl,hb6⟩
     have B6:=zh (B5.out.trans (hb6.mono B5.out.size));have A6:=zh (A5.out.below hb6 A5.out.lt);have S6:=zh (S5.out.below hb6)
     clear hb6
     cases hqv:q with
     | true=>
      have AL6:=zh (ALI.out (by rw [OKI.out,hqv];simp))
      go_wp2_with fail
      go_roundw
      case rel=>exact ⟨j+1,by omega,by go_num,AL6.out,B6.out,A6.out,S6.out⟩
      case measure=>simp [intOf];omega
     | false=>
      have HY:=zh (NOI.out (by rw [OKI.out,hqv];simp))
      go_wp2_with fail
      go_ret
      exact ⟨by rw [HY.out];rfl,B6.out⟩
    ·have hlm2:¬ (l:Int)=(m:Int):=by omega
     have HY:=zh (NOI.out (by rw [OKI.out,decide_eq_false hlm];simp))
     go_wp2_with fail
     go_ret
     exact ⟨by rw [HY.out];rfl,B5.out⟩
   ·have hjn:j=n:=by omega
    subst hjn
    have HY:=zh (YES.out HR.out AL.out)
    have hge:¬ (j:Int) < (j:Int):=by omega
    go_wp2_with fail
    go_ret
    exact ⟨by rw [HY.out];rfl,BW.out⟩
end Sha
end Go.Proofs.YtplmfmpbkjnbaaaGreatDoor
namespace Go.Proofs.YtplmfmpbkjnbaaaGreatDoor
namespace Sha
open Go.RowKit Mem
set_option maxRecDepth 100000
structure RMap (w:World) (B bm:Nat) (f:Int→Option Value) (Q:Nat→Prop) (M:Nat→List RefV) (c:Nat):Prop where
 m:∃ n,MapV w Tryz.prog 3 bm n f∧n≤c
 g:B≤bm
 own:∀ q,Q q→∃ v,f (q:Int)=some v∧OwnRf w B 46 v (M q)
 dis:∀ q q',Q q→Q q'→q≠q'→∀ v v' k,f (q:Int)=some v→f (q':Int)=some v'→v.ownBlock=some k→v'.ownBlock≠some k
section
variable {w w':World} {B bm c:Nat} {f:Int→Option Value} {Q:Nat→Prop} {M:Nat→List RefV}
theorem RMap.lt (h:RMap w B bm f Q M c):bm < w.heap.size:=let ⟨_,hm,_⟩:=h.m;hm.lt
theorem RMap.ltq (h:RMap w B bm f Q M c) {q:Nat} {v:Value} (hq:Q q) (hv:f (q:Int)=some v) {k:Nat} (hk:v.ownBlock=some k):B≤k∧k < w.heap.size:=by
 obtain ⟨v',e,ho⟩:=h.own q hq
 rw [hv] at e
 injection e with e
 subst e
 exact World.ownsRow.lt ho k hk
theorem RMap.keep (h:RMap w B bm f Q M c) (hm:w'.heap[bm]?=w.heap[bm]?) (hk:∀ q v k,Q q→f (q:Int)=some v→v.ownBlock=some k→w'.heap[k]?=w.heap[k]?):RMap w' B bm f Q M c:=by
 obtain ⟨⟨n,hmm,hn⟩,g,own,dis⟩:=h
 refine ⟨⟨n,hmm.same hm,hn⟩,g,fun q hq=>?_,dis⟩
 obtain ⟨v,e,ho⟩:=own q hq
 exact ⟨v,e,ownsRow_keep ho fun k hkk=>hk q v k hq e hkk⟩
theorem RMap.below (h:RMap w B bm f Q M c) (hb:Below w.heap.size w w'):RMap w' B bm f Q M c:=
 h.keep (hb.block bm h.lt) fun _ _ k hq hv hk=>hb.block k (h.ltq hq hv hk).2
theorem RMap.alike {Q':Nat→Prop} {c':Nat} (h:RMap w B bm f Q M c) (hs:∀ q,Q' q→Q q) (hc:c≤c'):RMap w B bm f Q' M c':=
 let ⟨⟨n,hm,hn⟩,g,own,dis⟩:=h
 ⟨⟨n,hm,Nat.le_trans hn hc⟩,g,fun q hq=>own q (hs q hq),fun q q' a b=>dis q q' (hs q a) (hs q' b)⟩
theorem RMap.put {w1:World} {n i:Nat} {v:Value} (h:RMap w B bm f Q M c) (hb:Below w.heap.size w w1) (ho:OwnRf w1 w.heap.size 46 v (M i)) (hB:B≤w.heap.size)
 (hm:MapV w' Tryz.prog 3 bm (n+1) (upd f (i:Int) (some v))) (hn:n≤c) (hc:Chg (fun k=>k=bm) w1 w'):RMap w' B bm (upd f (i:Int) (some v)) (fun q=>q=i∨Q q) M (c+1):=by
 have h1:=h.below hb
 have hlt:=h.lt
 have hv:=fun k hk=>World.ownsRow.lt ho k hk
 have kp:∀ k,k < w1.heap.size→k≠bm→w'.heap[k]?=w1.heap[k]?:=fun k hk hne=>hc.block k hk hne
 refine ⟨⟨n+1,hm,by omega⟩,h.g,fun q hq=>?_,fun q q' hq hq' hne u u' k hu hu' hk=>?_⟩
 ·by_cases e:q=i
  ·subst e
   rw [upd_same]
   exact ⟨v,rfl,ownsRow_base (ownsRow_keep ho fun k hk=>kp k (hv k hk).2 (by have:=(hv k hk).1;omega)) hB⟩
  ·rw [upd_other _ _ (by omega)]
   obtain ⟨u,eu,hu⟩:=h1.own q (hq.elim (fun a=>absurd a e) id)
   obtain ⟨n1,hm1,_⟩:=h1.m
   refine ⟨u,eu,ownsRow_keep hu fun k hk=>kp k (World.ownsRow.lt hu k hk).2 fun ek=>?_⟩
   subst ek
   exact hm1.ne_own hu hk
 ·by_cases e:q=i
  ·subst e
   rw [upd_same] at hu
   injection hu with hu
   subst hu
   rw [upd_other _ _ (by omega)] at hu'
   intro hk'
   have:=(h.ltq (hq'.elim (fun a=>absurd a (fun x=>hne x.symm)) id) hu' hk').2
   have:=(hv k hk).1
   omega
  ·rw [upd_other _ _ (by omega)] at hu
   by_cases e':q'=i
   ·subst e'
    rw [upd_same] at hu'
    injection hu' with hu'
    subst hu'
    intro hk'
    have:=(h.ltq (hq.elim (fun a=>absurd a e) id) hu hk).2
    have:=(hv k hk').1
    omega
   ·rw [upd_other _ _ (by omega)] at hu'
    exact h.dis q q' (hq.elim (fun a=>absurd a e) id) (hq'.elim (fun a=>absurd a e') id) hne u u' k hu hu' hk
end
theorem uRf16:Tryz.prog.underlying 133=some (.map 3 60):=Tryz.underlying133
theorem rmap_made (w:World) {B:Nat} (hB:B≤w.heap.size) (M:Nat→List RefV):RMap (w.alloc (.map #[] 0)) B w.heap.size (fun _=>none) (fun _=>False) M 0:=
 ⟨⟨0,mapV_made w Tryz.prog 3,Nat.le_refl _⟩,hB,fun _ h=>h.elim,fun _ _ h=>h.elim⟩
def RoEnd (w:World) (Q:Nat→Prop) (M:Nat→List RefV) (e:Ending) (w':World):Prop:=∃ bm f,e=.returned (.map (some bm))∧RMap w' w.heap.size bm f Q M 1000∧Below w.heap.size w w'
theorem prefsOf_any (N:List NdV) (KS:List Nat) (vn vk:Value) (w:World) (hn:SlNd w vn N) (hN:NdWf N) (hk:SlI w vk (KS.map fun (i:Nat)=>(i:Int))) (hl:KS.length≤1000) (hb:∀ i∈KS,i≤1000) :
 Calls Tryz.prog 53 #[vn,vk] w (RoEnd w (fun q=>q∈KS) (fun q=>findD N (q:Int))):=by
 have fd:=fun (z:Int) wx h=>pfind_any N z vn wx h hN
 obtain ⟨an,cn,rfl⟩:=hn.hd
 obtain ⟨ak,ck,rfl⟩:=hk.hd
 have hkl:(KS.map fun (i:Nat)=>(i:Int)).length=KS.length:=List.length_map ..
 have hkg:∀ j,j < KS.length→(KS.map fun (i:Nat)=>(i:Int)).getD j 0=((KS.getD j 0:Nat):Int):=fun j hj=>by
  rw [List.getD_eq_getElem?_getD,List.getElem?_map,List.getElem?_eq_getElem hj,List.getD_eq_getElem?_getD,List.getElem?_eq_getElem hj];rfl
 have hkw:∀ j,j < KS.length→wfI ((KS.getD j 0:Nat):Int):=fun j hj=>wfI_nat _ (by
  have:=hb (KS.getD j 0) (by rw [List.getD_eq_getElem?_getD,List.getElem?_eq_getElem hj];exact List.getElem_mem hj)
  omega)
 have htk:∀ j,j < KS.length→∀ q,q∈KS.take (j+1)→q=KS.getD j 0∨q∈KS.take j:=fun j hj q hq=>by
  rw [List.take_add_one,List.getElem?_eq_getElem hj] at hq
  rcases List.mem_append.1 hq with h | h
  ·exact .inr h
  ·left
   rw [List.getD_eq_getElem?_getD,List.getElem?_eq_getElem hj]
   simpa using h
 have hall:KS.take KS.length=KS:=List.take_length
 rw [hkl] at hk ⊢
 obtain ⟨KI,hKI⟩:∃ K,K=KS.map fun (i:Nat)=>(i:Int):=⟨_,rfl⟩
 rw [←hKI] at hk hkg hkl
 obtain ⟨n,hnn⟩:∃ n,n=KS.length:=⟨_,rfl⟩
 rw [←hnn] at hk hl hkg hkw htk hall hkl ⊢
 obtain ⟨nN,hnN⟩:∃ n,n=N.length:=⟨_,rfl⟩
 rw [←hnN] at hn fd ⊢
 have FD:=zh fd;have HVN:=zh hn;have HK:=zh hk;have KG:=zh hkg;have KW:=zh hkw;have TK:=zh htk;have ALL:=zh hall;have KL:=zh hkl.symm
 clear fd hn hk hkg hkw htk hall hkl hKI hnn hnN hb
 go_enter Tryz.func53,Tryz.ntmps53
 have R1:Hid (RMap (w.alloc (.map #[] 0)) w.heap.size w.heap.size (fun _=>none) (fun _=>False) (fun q=>findD N (q:Int)) 0):=zh (rmap_made w (Nat.le_refl _) _)
 have B1:Hid (Below w.heap.size w (w.alloc (.map #[] 0))):=zh ((Below.refl _ _).alloc (Nat.le_refl _) _)
 go_upto_region 3 with (refine wpList_mapV_made zr 133 zr ?_)
 obtain ⟨bm,hbm⟩:∃ bm,bm=w.heap.size:=⟨_,rfl⟩
 rw [←hbm]
 have R1:Hid (RMap (w.alloc (.map #[] 0)) w.heap.size bm (fun _=>none) (fun _=>False) (fun q=>findD N (q:Int)) 0):=zh (by rw [hbm];exact R1.out)
 clear hbm
 generalize w.alloc (.map #[] 0)=w1 at *
 go_loopw [11] (fun vi wr=>∃ j:Nat,j≤n∧vi=.int .i64 (j:Int)∧(∃ f,RMap wr w.heap.size bm f (fun q=>q∈KS.take j) (fun q=>findD N (q:Int)) j)∧Below w.heap.size w wr∧SlI wr (.slice ak n ck) KI) (fun vi _=>n - (intOf vi).toNat)
 case atStart=>exact ⟨0,by omega,rfl,⟨_,R1.out.alike (fun q hq=>by simp at hq) (Nat.le_refl _)⟩,B1.out,HK.out.below B1.out⟩
 case round=>
  obtain ⟨j,hj,rfl,⟨f,hr⟩,hbw,hs⟩:=hrel
  have RW:=zh hr;have BW:=zh hbw;have SW:=zh hs
  clear hr hbw hs
  by_cases hlt:j < n
  ·have hlt':(j:Int) < (n:Int):=by omega
   obtain ⟨b1,o1,e1,hlb,cx0⟩:=sli_at (i:=j) SW.out KL.out hlt
   subst e1
   rw [KG.out j hlt] at cx0
   have kwj:=KW.out j hlt
   have tkj:=TK.out j hlt
   obtain ⟨i,hi⟩:∃ i,i=KS.getD j 0:=⟨_,rfl⟩
   rw [←hi] at cx0 kwj tkj
   have KWJ:=zh kwj;have TKJ:=zh tkj
   clear kwj tkj hi hlb
   go_upto_region 5 with fail
   have W0:=BW.out.size
   have SZ:=zh W0
   clear W0 cx0
   go_wp2_with fail
   refine (FD.out _ _ (HVN.out.below BW.out)).mono ?_
   rintro e w4 ⟨v4,rfl,ho4,hb4⟩
   have B4:=zh (BW.out.trans (hb4.mono BW.out.size));have S4:=zh (SW.out.below hb4);have O4:=zh ho4;have Q4:=zh hb4
   obtain ⟨n4,hm4,hn4⟩:=(RW.out.below hb4).m
   have M4:=zh hm4;have N4:=zh hn4
   clear ho4 hb4 hm4 hn4
   go_wp2_with (at_mapUpdate;refine wpList_mapV_put zr 133 _ _ _ zr 60 M4.out (i:Int) v4 zr zr zr uInt16 uRf16 (by have:=N4.out;unfold maxLen;omega) KWJ.out ?_;intro w8 hm8 hc8 hz8;have S8:=zh (sli_map S4.out M4.out hc8);have R8:=zh (RW.out.put Q4.out O4.out SZ.out hm8 N4.out hc8);have B8:Hid (Below w.heap.size w w8):=zh (hc8.below B4.out (fun k e=>by have:=RW.out.g;omega) B4.out.size);clear hm8 hc8 hz8)
   go_roundw
   case rel=>exact ⟨j+1,by omega,by go_num,⟨_,R8.out.alike (fun q hq=>TKJ.out q hq) (Nat.le_refl _)⟩,B8.out,S8.out⟩
   case measure=>simp [intOf];omega
  ·have hjn:j=n:=by omega
   subst hjn
   have hge:¬ (j:Int) < (j:Int):=by omega
   go_wp2_with fail
   go_ret
   exact ⟨bm,f,rfl,by have h:=RW.out;rw [ALL.out] at h;exact h.alike (fun _ h=>h) hl,BW.out⟩
end Sha
end Go.Proofs.YtplmfmpbkjnbaaaGreatDoor
namespace Go.Proofs.YtplmfmpbkjnbaaaGreatDoor
namespace Sha
open Go.RowKit Mem
set_option maxRecDepth 100000
def drA (key:Lb8) (ep:BitVec 32) (p:Nat):List Value:=(.pointer none::u8s key)++[.int .u32 (V ep),.int .i64 (p:Int)]
def drL (key:Lb8) (ep:BitVec 32) (p:Nat) (root:RefV) (bm:Nat) (vp:Value):List Value:=drA key ep p++refL root++[.map (some bm),vp]
def drC (key:Lb8) (ep:BitVec 32) (p:Nat) (root:RefV) (bm:Nat) (vp:Value):Array Value:=(drL key ep p root bm vp).toArray
section
variable {key:Lb8} {ep:BitVec 32} {p:Nat} {root r:RefV} {bm:Nat} {vp:Value}
theorem drA_length (lk:key.length=32):(drA key ep p).length=35:=by simp [drA,u8s_length,lk]
theorem drL_length (lk:key.length=32) (hr:root.Wf):(drL key ep p root bm vp).length=71:=by simp [drL,drA_length lk,refL_length hr]
theorem drC_size (lk:key.length=32) (hr:root.Wf):(drC key ep p root bm vp).size=71:=by simp [drC,drL_length lk hr]
theorem at_mid {w:World} {b:Nat} {t:TypeId} {A X Z:List Value} (h:At w b (A++X++Z).toArray t):w.rangeAt b A.length X:=fun j v hv=>by
 rw [h.cell]
 have hj:j < X.length:=(List.getElem?_eq_some_iff.1 hv).1
 simp only [List.getElem?_toArray]
 rw [List.getElem?_append_left (by rw [List.length_append];omega),List.getElem?_append_right (by omega),Nat.add_sub_cancel_left]
 exact hv
structure DrCells (w:World) (bd:Nat) (key:Lb8) (ep:BitVec 32) (p:Nat) (root:RefV) (bm:Nat) (vp:Value):Prop where
 book:w.cell? ⟨bd,0,none⟩=some (.pointer none)
 key:w.rangeAt bd 1 (u8s key)
 ep:w.cell? ⟨bd,33,none⟩=some (.int .u32 (V ep))
 shp:w.rangeAt bd 34 (psC p).toList
 root:w.rangeAt bd 35 (refL root)
 map:w.cell? ⟨bd,69,none⟩=some (.map (some bm))
 puts:w.cell? ⟨bd,70,none⟩=some vp
theorem dr_cells {w:World} {bd:Nat} {t:TypeId} (h:At w bd (drC key ep p root bm vp) t) (lk:key.length=32) (hr:root.Wf):DrCells w bd key ep p root bm vp:=by
 have hl:(u8s key).length=32:=by rw [u8s_length,lk]
 have hrl:=refL_length hr
 have e1:drL key ep p root bm vp=[.pointer none]++u8s key++([.int .u32 (V ep),.int .i64 (p:Int)]++refL root++[.map (some bm),vp]):=by simp [drL,drA,List.append_assoc]
 have e2:drL key ep p root bm vp=([.pointer none]++u8s key)++[.int .u32 (V ep)]++([.int .i64 (p:Int)]++refL root++[.map (some bm),vp]):=by simp [drL,drA,List.append_assoc]
 have e3:drL key ep p root bm vp=([.pointer none]++u8s key++[.int .u32 (V ep)])++(psC p).toList++(refL root++[.map (some bm),vp]):=by simp [drL,drA,psC,List.append_assoc]
 have e4:drL key ep p root bm vp=drA key ep p++refL root++[.map (some bm),vp]:=rfl
 have e5:drL key ep p root bm vp=(drA key ep p++refL root)++[.map (some bm)]++[vp]:=by simp [drL,List.append_assoc]
 have e6:drL key ep p root bm vp=(drA key ep p++refL root++[.map (some bm)])++[vp]++[]:=by simp [drL,List.append_assoc]
 have e0:drL key ep p root bm vp=[]++[.pointer none]++(u8s key++[.int .u32 (V ep),.int .i64 (p:Int)]++refL root++[.map (some bm),vp]):=by simp [drL,drA,List.append_assoc]
 have one:∀ {o:Nat} {x:Value},w.rangeAt bd o [x]→w.cell? ⟨bd,o,none⟩=some x:=fun {o x} hh=>by have:=hh 0 x rfl;simpa using this
 have g:=fun (A X Z:List Value) (n:Nat) (e:drL key ep p root bm vp=A++X++Z) (hn:A.length=n)=>by
  have h2:=h
  unfold drC at h2
  rw [e] at h2
  have:=at_mid h2
  rw [hn] at this
  exact this
 exact ⟨one (g _ _ _ 0 e0 rfl),g _ _ _ 1 e1 rfl,one (g _ _ _ 33 e2 (by simp [hl])),g _ _ _ 34 e3 (by simp [hl]),g _ _ _ 35 e4 (drA_length lk),one (g _ _ _ 69 e5 (by rw [List.length_append,drA_length lk,hrl])),one (g _ _ _ 70 e6 (by rw [List.length_append,List.length_append,drA_length lk,hrl];rfl))⟩
theorem dr_root (lk:key.length=32) (hr:root.Wf) (hr':r.Wf):Mem.splice (drC key ep p root bm vp) 35 (refL r)=drC key ep p r bm vp:=by
 have h1:=drA_length (ep:=ep) (p:=p) lk
 have h2:=refL_length hr;have h3:=refL_length hr'
 have t1:(drL key ep p root bm vp).take 35=drA key ep p:=by
  unfold drL
  rw [List.append_assoc,List.take_append_of_le_length (by omega),←h1,List.take_length]
 have t2:(drL key ep p root bm vp).drop (35+34)=[.map (some bm),vp]:=by
  unfold drL
  rw [List.drop_append,List.length_append,h1,h2,List.drop_of_length_le (by rw [List.length_append,h1,h2];decide)]
  rfl
 unfold Mem.splice drC
 rw [h3]
 simp only [t1,t2]
 rfl
theorem dr_puts (lk:key.length=32) (hr:root.Wf) (v:Value):(drC key ep p root bm vp).setIfInBounds 70 v=drC key ep p root bm v:=by
 have h1:=drA_length (ep:=ep) (p:=p) lk
 have h2:=refL_length hr
 unfold drC drL
 rw [List.setIfInBounds_toArray,List.set_append_right _ _ (by rw [List.length_append,h1,h2];decide),List.length_append,h1,h2]
 rfl
end
structure DrI (w1 w:World) (bd bm:Nat) (f:Int→Option Value) (key:Lb8) (ep:BitVec 32) (p:Nat) (root:RefV) (Q:Nat→Prop) (M:Nat→List RefV) (vp:Value) (D:Foot) (ws:List (Nat × Value)) (L:List (Nat × Lb8)):Prop where
 b:Below w1.heap.size w1 w
 gd:w1.heap.size≤bd
 row:At w bd (drC key ep p root bm vp) 136
 mp:RMap w w1.heap.size bm f Q M 1000
 e:Each2 (fun p q=>p.1=q.1∧SlB D w p.2 q.2) ws L
 po:w.ownsRow w1.heap.size 70 2 vp L.length (putC ws)
 d:∀ k,D k→w1.heap.size≤k∧k < w.heap.size∧k≠bd∧k≠bm∧vp.ownBlock≠some k∧∀ q v,Q q→f (q:Int)=some v→v.ownBlock≠some k
 kl:key.length=32
 rw:root.Wf
 mw:∀ q,Q q→∀ r∈M q,r.Wf
section
variable {w1 w w2 w3 w5 w6:World} {bd bm:Nat} {f:Int→Option Value} {key:Lb8} {ep:BitVec 32} {p:Nat} {root r:RefV} {Q:Nat→Prop} {M:Nat→List RefV} {vp vp' v2:Value} {D G:Foot} {ws:List (Nat × Value)} {L:List (Nat × Lb8)}
theorem DrI.cells (h:DrI w1 w bd bm f key ep p root Q M vp D ws L):DrCells w bd key ep p root bm vp:=dr_cells h.row h.kl h.rw
theorem DrI.below (h:DrI w1 w bd bm f key ep p root Q M vp D ws L) (hb:Below w.heap.size w w2):DrI w1 w2 bd bm f key ep p root Q M vp D ws L:=
 ⟨h.b.trans (hb.mono h.b.size),h.gd,h.row.below hb h.row.lt,h.mp.below hb,h.e.mono fun _ _ x=>⟨x.1,x.2.keep hb.size fun k _ hl=>hb.block k hl⟩,ownsRow_below h.po hb,
  fun k hk=>let ⟨a,b,c⟩:=h.d k hk;⟨a,Nat.lt_of_lt_of_le b hb.size,c⟩,h.kl,h.rw,h.mw⟩
theorem DrI.nbm (h:DrI w1 w bd bm f key ep p root Q M vp D ws L):bm≠bd:=let ⟨_,hm,_⟩:=h.mp.m;hm.ne_at h.row
theorem DrI.nown (h:DrI w1 w bd bm f key ep p root Q M vp D ws L) {q:Nat} {v:Value} (hq:Q q) (hv:f (q:Int)=some v):v.ownBlock≠some bd∧v.ownBlock≠some bm∧∀ k,v.ownBlock=some k→vp.ownBlock≠some k:=by
 obtain ⟨v',e,ho⟩:=h.mp.own q hq
 rw [hv] at e
 injection e with e
 subst e
 obtain ⟨_,hm,_⟩:=h.mp.m
 exact ⟨own_ne_at ho h.row (by decide),hm.ne_own ho,ownsRow_ne ho h.po (by decide)⟩
theorem DrI.setRoot (h:DrI w1 w bd bm f key ep p root Q M vp D ws L) (hr:r.Wf):DrI w1 (w.setRow bd (Mem.splice (drC key ep p root bm vp) 35 (refL r))) bd bm f key ep p r Q M vp D ws L:=by
 rw [dr_root h.kl h.rw hr]
 have ko:∀ k,k≠bd→(w.setRow bd (drC key ep p r bm vp)).heap[k]?=w.heap[k]?:=fun k hk=>setRow_other w bd k _ hk
 have hsz:(w.setRow bd (drC key ep p r bm vp)).heap.size=w.heap.size:=by simp
 refine ⟨below_row h.b h.gd _,h.gd,h.row.row _,h.mp.keep (ko bm h.nbm) fun q v k hq hv hk=>ko k fun e=>(h.nown hq hv).1 (by rw [←e];exact hk),h.e.mono fun a c x=>⟨x.1,x.2.keep (by omega) fun k hd _=>ko k (h.d k hd).2.2.1⟩,
  ownsRow_keep h.po fun k hk=>ko k fun e=>own_ne_at h.po h.row (by decide) (by rw [←e];exact hk),fun k hk=>?_,h.kl,hr,h.mw⟩
 rw [hsz];exact h.d k hk
theorem DrI.setSlot (h:DrI w1 w bd bm f key ep p root Q M vp D ws L) (hr:r.Wf) {q t:Nat} {v:Value} (hq:Q q) (hv:f (q:Int)=some v) (ht:t < (M q).length) :
 ∃ g cap cur,v=.slice (some ⟨g,0,none⟩) (M q).length cap∧At w g cur 46∧t*34+34≤cur.size∧w.rangeAt g (0+t*34) (refL ((M q).getD t zref))∧DrI w1 (w.setRow g (Mem.splice cur (t*34) (refL r))) bd bm f key ep p root Q (fun x=>if x=q then (M q).set t r else M x) vp D ws L:=by
 obtain ⟨v',e,ho⟩:=h.mp.own q hq
 rw [hv] at e
 injection e with e
 subst e
 have hn:=h.nown hq hv
 obtain ⟨g,cap,cur,ev,hg,hgl,hcur,hfit,hown⟩:=own_store ho (h.mw q hq) hr ht
 have hsl:=own_slrf ho (h.mw q hq)
 subst ev
 have hg1:(Value.slice (some ⟨g,0,none⟩) (M q).length cap).ownBlock=some g:=rfl
 have hgd:g≠bd:=fun e=>hn.1 (by rw [hg1,e])
 have hgm:g≠bm:=fun e=>hn.2.1 (by rw [hg1,e])
 have hgp:vp.ownBlock≠some g:=hn.2.2 g hg1
 have ko:∀ k,k≠g→(w.setRow g (Mem.splice cur (t*34) (refL r))).heap[k]?=w.heap[k]?:=fun k hk=>setRow_other w g k _ hk
 have hsz:(w.setRow g (Mem.splice cur (t*34) (refL r))).heap.size=w.heap.size:=by simp
 refine ⟨g,cap,cur,rfl,hcur,hfit,slrf_cell hsl rfl ht,below_row h.b hg _,h.gd,h.row.row_other _ (fun e=>hgd e.symm),⟨?_,h.mp.g,fun x hx=>?_,h.mp.dis⟩,h.e.mono fun a c x=>⟨x.1,x.2.keep (by omega) fun k hd _=>ko k fun e=>(h.d k hd).2.2.2.2.2 q _ hq hv (by rw [e];exact hg1)⟩,
  ownsRow_keep h.po fun k hk=>ko k fun e=>hgp (by rw [←e];exact hk),fun k hk=>by rw [hsz];exact h.d k hk,h.kl,h.rw,fun x hx y hy=>?_⟩
 ·obtain ⟨n,hm,hn1⟩:=h.mp.m
  exact ⟨n,hm.same (ko bm fun e=>hgm e.symm),hn1⟩
 ·by_cases ex:x=q
  ·subst ex
   rw [if_pos rfl]
   exact ⟨_,hv,hown⟩
  ·rw [if_neg ex]
   obtain ⟨u,eu,hu⟩:=h.mp.own x hx
   refine ⟨u,eu,ownsRow_keep hu fun k hk=>ko k fun e=>?_⟩
   subst e
   exact h.mp.dis q x hq hx (fun e=>ex e.symm) _ u k hv eu hg1 hk
 ·split at hy
  ·rcases List.mem_or_eq_of_mem_set hy with a | a
   ·exact h.mw q hq y a
   ·rw [a];exact hr
  ·exact h.mw x hx y hy
theorem DrI.put {q:Nat} {x:Lb8} (h:DrI w1 w bd bm f key ep p root Q M vp D ws L) (hs:SlB G w v2 x) (hG:∀ k,G k→w1.heap.size≤k∧k < w.heap.size∧k≠bd∧k≠bm∧vp.ownBlock≠some k∧∀ q v,Q q→f (q:Int)=some v→v.ownBlock≠some k)
 (hb3:Below w.heap.size w w3) (ha:App w3 w5 vp vp') (hb5:Below w1.heap.size w3 w5) (ho:w5.ownsRow w1.heap.size 70 2 vp' (L.length+1) (putC ws++[.int .i64 (q:Int),v2]))
 (hA:At w6 bd (drC key ep p root bm vp') 136) (hk:∀ k,k≠bd→w6.heap[k]?=w5.heap[k]?) (hB:∀ B a,Below B a w5→B≤bd→Below B a w6) :
 DrI w1 w6 bd bm f key ep p root Q M vp' (fun k=>D k∨G k) (ws++[(q,v2)]) (L++[(q,x)]):=by
 have z1:=h.b.size;have z3:=hb3.size;have z5:=ha.size
 have z6:w5.heap.size≤w6.heap.size:=(hB 0 w5 (Below.refl _ _) (Nat.zero_le _)).size
 have hbd:=h.row.lt;have hbm:=h.mp.lt
 have npd:vp.ownBlock≠some bd:=own_ne_at h.po h.row (by decide)
 have npm:vp.ownBlock≠some bm:=by obtain ⟨_,hm,_⟩:=h.mp.m;exact hm.ne_own h.po
 have keep:∀ k,k < w.heap.size→k≠bd→vp.ownBlock≠some k→w6.heap[k]?=w.heap[k]?:=fun k hl h1 h2=>by
  rw [hk k h1,ha.k k (by omega) h2,hb3.block k hl]
 have hd5:At w5 bd (drC key ep p root bm vp) 136:=at_appd (h.row.below hb3 hbd) ha npd
 have npd5:vp'.ownBlock≠some bd:=own_ne_at ho hd5 (by decide)
 have hnew:∀ k,k < w.heap.size→vp.ownBlock≠some k→vp'.ownBlock≠some k:=fun k hl hne=>by
  rcases ha.b with e | ⟨g,e,hge⟩
  ·rw [e];exact hne
  ·rw [e];intro c;injection c with c;omega
 refine ⟨hB _ _ ((h.b.trans (hb3.mono z1)).trans hb5) h.gd,h.gd,hA,h.mp.keep (keep bm hbm h.nbm npm) fun q v k hq hv hkk=>?_,?_,?_,fun k hk2=>?_,h.kl,h.rw,h.mw⟩
 ·have hn:=h.nown hq hv
  exact keep k (h.mp.ltq hq hv hkk).2 (fun e=>hn.1 (by rw [←e];exact hkk)) (hn.2.2 k hkk)
 ·refine Each2.snoc ⟨rfl,?_⟩ (h.e.mono fun a c hx=>⟨hx.1,?_⟩)
  ·exact ((hs.keep (by omega) fun k hg hl=>keep k hl (hG k hg).2.2.1 (hG k hg).2.2.2.2.1).mono fun k hg _=>.inr hg)
  ·exact ((hx.2.keep (by omega) fun k hd hl=>keep k hl (h.d k hd).2.2.1 (h.d k hd).2.2.2.2.1).mono fun k hd _=>.inl hd)
 ·rw [putC_snoc,List.length_append]
  exact ownsRow_keep ho fun g hg=>hk g (fun e=>npd5 (by rw [←e];exact hg))
 ·have hh:w1.heap.size≤k∧k < w.heap.size∧k≠bd∧k≠bm∧vp.ownBlock≠some k∧∀ q v,Q q→f (q:Int)=some v→v.ownBlock≠some k:=hk2.elim (h.d k) (hG k)
  exact ⟨hh.1,by omega,hh.2.2.1,hh.2.2.2.1,hnew k hh.2.1 hh.2.2.2.2.1,hh.2.2.2.2.2⟩
end
end Sha
end Go.Proofs.YtplmfmpbkjnbaaaGreatDoor
namespace Go.Proofs.YtplmfmpbkjnbaaaGreatDoor
namespace Sha
open Go.RowKit Mem
set_option maxRecDepth 100000
theorem rhas16_any (L:List Int) (z:Int) (v:Value) (w:World) (hv:SlI w v L) (hl:L.length≤1000):Calls Tryz.prog 60 #[v,.int .i64 z] w (VEnd (.bool (L.contains z)) w):=by
 obtain ⟨av,cv,rfl⟩:=hv.hd
 have hyes:∀ j,j < L.length→L.getD j 0=z→L.contains z=true:=fun j hj h=>by
  rw [List.contains_iff_mem,←h,List.getD_eq_getElem?_getD,List.getElem?_eq_getElem hj];exact List.getElem_mem hj
 have hno:(∀ j,j < L.length→L.getD j 0≠z)→L.contains z=false:=fun h=>by
  rw [←Bool.not_eq_true,List.contains_iff_mem]
  intro hm
  obtain ⟨j,hj,e⟩:=List.mem_iff_getElem.1 hm
  exact h j hj (by rw [List.getD_eq_getElem?_getD,List.getElem?_eq_getElem hj];exact e)
 obtain ⟨Y,hY⟩:∃ Y,Y=L.contains z:=⟨_,rfl⟩
 rw [←hY] at hyes hno ⊢
 obtain ⟨n,hn⟩:∃ n,n=L.length:=⟨_,rfl⟩
 rw [←hn] at hv hl hyes hno ⊢
 have HV:=zh hv;have YES:=zh hyes;have NO:=zh hno;have HN:=zh hn
 clear hv hyes hno hn hY
 go_enter Tryz.func60,Tryz.ntmps60
 go_wp2_with fail
 go_loopw [5] (fun vi wr=>∃ j:Nat,j≤n∧vi=.int .i64 (j:Int)∧(∀ i,i < j→L.getD i 0≠z)∧Below w.heap.size w wr) (fun vi _=>n - (intOf vi).toNat)
 case atStart=>exact ⟨0,by omega,rfl,fun i hi=>by omega,Below.refl _ _⟩
 case round=>
  obtain ⟨j,hj,rfl,hal,hbw⟩:=hrel
  have BW:=zh hbw;have AL:=zh hal;have VW:=zh (HV.out.below hbw)
  clear hal hbw
  by_cases hlt:j < n
  ·have hlt':(j:Int) < (n:Int):=by omega
   obtain ⟨b1,o1,e1,hlb,c0⟩:=sli_at (i:=j) VW.out HN.out hlt
   subst e1
   have hyj:=fun he=>YES.out j hlt he
   have hne1:L.getD j 0≠z→∀ i,i < j+1→L.getD i 0≠z:=fun h i hi=>(Nat.lt_or_ge i j).elim (AL.out i) (fun g=>by rw [show i=j by omega];exact h)
   obtain ⟨y,hy⟩:∃ y,y=L.getD j 0:=⟨_,rfl⟩
   rw [←hy] at c0 hyj hne1
   have HYJ:=zh hyj;have HNE:=zh hne1
   clear hyj hne1 hlb hy
   by_cases hz:y=z
   ·have HQ:=zh (HYJ.out hz)
    have hyz2:(y == z)=true:=by simpa using hz
    go_wp2_with fail
    go_ret
    exact ⟨by rw [HQ.out];rfl,BW.out⟩
   ·have hyz2:(y == z)=false:=by simpa using hz
    have HN1:=zh (HNE.out hz)
    go_wp2_with fail
    go_roundw
    case rel=>exact ⟨j+1,by omega,by go_num,HN1.out,BW.out⟩
    case measure=>simp [intOf];omega
  ·have hjn:j=n:=by omega
   subst hjn
   have hge:¬ (j:Int) < (j:Int):=by omega
   have HQ:=zh (NO.out AL.out)
   go_wp2_with fail
   go_ret
   exact ⟨by rw [HQ.out];rfl,BW.out⟩
theorem infoChR:(Tryz.prog.info? 125).map (·.size)=some 2:=by kernel_rfl
theorem rpages16_any (C:List ChV) (v:Value) (w:World) (hv:SlCh w v C) (hl:C.length≤1000):Calls Tryz.prog 59 #[v] w (OIEnd w (pgsC C)):=by
 obtain ⟨av,cv,rfl⟩:=hv.hd
 have htk:=fun j hj=>pgsC_take C j hj
 have hall:(pgsC C).take C.length=pgsC C:=by rw [←pgsC_length C];exact List.take_length
 have htl:∀ j,j≤C.length→((pgsC C).take j).length=j:=fun j hj=>by rw [List.length_take,pgsC_length];omega
 obtain ⟨PG,hPG⟩:∃ P,P=pgsC C:=⟨_,rfl⟩
 rw [←hPG] at htk hall htl ⊢
 obtain ⟨n,hn⟩:∃ n,n=C.length:=⟨_,rfl⟩
 rw [←hn] at hv hl htk hall htl ⊢
 have TK:=zh htk;have ALL:=zh hall;have TL:=zh htl;have HV:=zh hv;have HN:=zh hn
 clear htk hall htl hv hn hPG
 go_enter Tryz.func59,Tryz.ntmps59
 go_wp2_with fail
 go_loopw [3,4] (fun vo vi wr=>∃ j:Nat,j≤n∧vi=.int .i64 (j:Int)∧OwnV wr w.heap.size 3 vo (iz (PG.take j))∧Below w.heap.size w wr) (fun _ vi _=>n - (intOf vi).toNat)
 case atStart=>exact ⟨0,by omega,rfl,by rw [List.take_zero];exact World.ownsRow_nil _ _ _ _,Below.refl _ _⟩
 case round=>
  obtain ⟨j,hj,rfl,ho,hbw⟩:=hrel
  have OW:=zh ho;have BW:=zh hbw;have VW:=zh (HV.out.below hbw)
  have hl5:(iz (PG.take j)).length=j:=by rw [iz_length,TL.out j hj]
  have L5:=zh hl5
  clear ho hbw hl5
  by_cases hlt:j < n
  ·have hlt':(j:Int) < (n:Int):=by omega
   obtain ⟨b1,o1,u,e1,hlb,cz0,_,_⟩:=slch_at (i:=j) VW.out HN.out hlt
   subst e1
   have htk:=TK.out j hlt
   obtain ⟨z,hz⟩:∃ z,z=(C.getD j zch).1:=⟨_,rfl⟩
   rw [←hz] at htk cz0
   have HTK:=zh htk
   obtain ⟨a5,c5,rfl,_⟩:=OwnV.open OW.out
   rw [L5.out] at OW ⊢
   clear htk hlb hz
   go_wp2_with (at_builtin;refine wpList_append_lit zr _ _ 35 zr (.int .i64 z) (.int .i64 0) 8 elemInt zr zr OW.out zr zr (by rw [L5.out];omega) (by rw [L5.out];omega) (BW.out.size) ?_;intro v6 w6 ho6 hk6 hb6 _;have O6:Hid (OwnV w6 w.heap.size 3 v6 (iz (PG.take (j+1)))):=zh (by rw [HTK.out,iz_snoc];exact ho6);have B6:Hid (Below w.heap.size w w6):=zh (BW.out.trans hb6);clear ho6 hb6 hk6 cz0)
   go_roundw
   case rel=>exact ⟨j+1,by omega,by go_num,O6.out,B6.out⟩
   case measure=>simp [intOf];omega
  ·have hjn:j=n:=by omega
   subst hjn
   have hge:¬ (j:Int) < (j:Int):=by omega
   rw [ALL.out] at OW
   go_wp2_with fail
   go_ret
   exact ⟨_,rfl,OW.out,BW.out⟩
theorem rright_any (r:RefV) (w:World) (_hr:r.Wf):Calls Tryz.prog 57 #[.agg (refC r)] w (VEnd (.bool (plOk r)) w):=by
 have hA:=at_new w (refC r) 25
 have hb:Below w.heap.size w (w.alloc (.cells (refC r) 25)):=(Below.refl _ _).alloc (Nat.le_refl _) _
 have c0:(w.alloc (.cells (refC r) 25)).cell? ⟨w.heap.size,0,none⟩=some (.int .i64 r.pl):=(hA.cell 0).trans (ref0 r)
 have hpd:plOk r=decide (0≤r.pl∧r.pl≤1):=rfl
 obtain ⟨M,hM⟩:∃ M,M=refC r:=⟨_,rfl⟩
 obtain ⟨z,hz⟩:∃ z,z=r.pl:=⟨_,rfl⟩
 obtain ⟨Q,hQ⟩:∃ Q,Q=plOk r:=⟨_,rfl⟩
 obtain ⟨w1,hw1⟩:∃ w1,w1=w.alloc (.cells M 25):=⟨_,rfl⟩
 rw [←hM] at c0 hb ⊢
 rw [←hw1,←hz] at c0
 rw [←hw1] at hb
 rw [←hQ,←hz] at hpd
 rw [←hQ]
 have HB:=zh hb
 clear hA hb hM hz hQ _hr
 by_cases h0:z=0
 ·have hq:Q=true:=by rw [hpd];exact decide_eq_true (by omega)
  have HQ:=zh hq
  subst h0
  clear hpd hq
  go_enter Tryz.func57,Tryz.ntmps57
  go_upto_region 1 with fail
  rw [←hw1]
  clear hw1
  go_wp2_with fail
  go_ret
  exact ⟨by rw [HQ.out];rfl,HB.out⟩
 ·by_cases h1:z=1
  ·have hq:Q=true:=by rw [hpd];exact decide_eq_true (by omega)
   have HQ:=zh hq
   subst h1
   clear hpd h0 hq
   go_enter Tryz.func57,Tryz.ntmps57
   go_upto_region 1 with fail
   rw [←hw1]
   clear hw1
   go_wp2_with fail
   go_ret
   exact ⟨by rw [HQ.out];rfl,HB.out⟩
  ·have hq:Q=false:=by rw [hpd];exact decide_eq_false (by omega)
   have HQ:=zh hq
   have e0:(z == 0)=false:=by simpa using h0
   have e1:(z == 1)=false:=by simpa using h1
   clear hpd hq
   go_enter Tryz.func57,Tryz.ntmps57
   go_upto_region 1 with fail
   rw [←hw1]
   clear hw1
   go_wp2_with fail
   go_ret
   exact ⟨by rw [HQ.out];rfl,HB.out⟩
def RFd (w:World) (L:List RefV) (q:Bool) (e:Ending) (w':World):Prop:=∃ v,e=.returned (.tuple #[v,.bool q])∧SlRf w' v L∧Below w.heap.size w w'
theorem rfind16_any (N:List NdV) (z:Int) (v:Value) (w:World) (hv:SlNd w v N) (hl:N.length≤1000):Calls Tryz.prog 61 #[v,.int .i64 z] w (RFd w (findD N z) (findT N z).isSome):=by
 obtain ⟨av,cv,rfl⟩:=hv.hd
 have hno:(∀ i,i < N.length→(N.getD i znd).1≠z)→findT N z=none:=find_end N z
 have hyes:=fun j hj h he=>find_step N z j hj h he
 have hfd:findD N z=(findT N z).getD []:=rfl
 obtain ⟨Y,hY⟩:∃ Y,Y=findT N z:=⟨_,rfl⟩
 rw [←hY] at hno hyes hfd ⊢
 obtain ⟨X,hX⟩:∃ X,X=findD N z:=⟨_,rfl⟩
 rw [←hX] at hfd ⊢
 obtain ⟨n,hn⟩:∃ n,n=N.length:=⟨_,rfl⟩
 rw [←hn] at hv hl hno hyes ⊢
 have HV:=zh hv;have NO:=zh hno;have YES:=zh hyes;have FD:=zh hfd;have HN:=zh hn
 clear hv hno hyes hfd hn hX hY
 go_enter Tryz.func61,Tryz.ntmps61
 go_wp2_with fail
 go_loopw [6] (fun vi wr=>∃ j:Nat,j≤n∧vi=.int .i64 (j:Int)∧(∀ i,i < j→(N.getD i znd).1≠z)∧Below w.heap.size w wr) (fun vi _=>n - (intOf vi).toNat)
 case atStart=>exact ⟨0,by omega,rfl,fun i hi=>by omega,Below.refl _ _⟩
 case round=>
  obtain ⟨j,hj,rfl,hal,hbw⟩:=hrel
  have BW:=zh hbw;have AL:=zh hal;have VW:=zh (HV.out.below hbw)
  clear hal hbw
  by_cases hlt:j < n
  ·have hlt':(j:Int) < (n:Int):=by omega
   obtain ⟨b1,o1,u,e1,hlb,cz,cu,hsu⟩:=slnd_at (i:=j) VW.out HN.out hlt
   subst e1
   have hyj:=fun he=>YES.out j hlt AL.out he
   have hne1:(N.getD j znd).1≠z→∀ i,i < j+1→(N.getD i znd).1≠z:=fun h i hi=>(Nat.lt_or_ge i j).elim (AL.out i) (fun g=>by rw [show i=j by omega];exact h)
   obtain ⟨x,hx⟩:∃ x,x=(N.getD j znd).2:=⟨_,rfl⟩
   obtain ⟨y,hy⟩:∃ y,y=(N.getD j znd).1:=⟨_,rfl⟩
   rw [←hx] at hsu
   rw [←hy,←hx] at hyj
   rw [←hy] at hne1 cz
   obtain ⟨a3,cap3,e3⟩:=hsu.hd
   subst e3
   have HNE:=zh hne1;have HYJ:=zh hyj
   obtain ⟨m,hm⟩:∃ m,m=x.length:=⟨_,rfl⟩
   rw [←hm] at cu hsu
   have SX:=zh hsu
   clear hne1 hyj hsu hx hy hlb hm
   by_cases hz:y=z
   ·have HQ:=zh (HYJ.out hz)
    have HF:Hid (X=x):=zh (by rw [FD.out,HQ.out];rfl)
    have hyz2:(y == z)=true:=by simpa using hz
    go_wp2_with fail
    go_ret2
    exact ⟨_,by rw [HQ.out];rfl,by rw [HF.out];exact SX.out,BW.out⟩
   ·have hyz2:(y == z)=false:=by simpa using hz
    have HN1:=zh (HNE.out hz)
    go_wp2_with fail
    go_roundw
    case rel=>exact ⟨j+1,by omega,by go_num,HN1.out,BW.out⟩
    case measure=>simp [intOf];omega
  ·have hjn:j=n:=by omega
   subst hjn
   have hge:¬ (j:Int) < (j:Int):=by omega
   have HQ:=zh (NO.out AL.out)
   have HF:Hid (X=[]):=zh (by rw [FD.out,HQ.out];rfl)
   go_wp2_with fail
   go_ret2
   exact ⟨_,by rw [HQ.out];rfl,by rw [HF.out];exact SlRf.nil _,BW.out⟩
end Sha
end Go.Proofs.YtplmfmpbkjnbaaaGreatDoor
namespace Go.Proofs.YtplmfmpbkjnbaaaGreatDoor
namespace Sha
def needN (p:Nat) (L:List Int) (i:Nat):List Int:=((List.range i).filter (isN p L)).map fun (k:Nat)=>(k:Int)
theorem needN_end (p:Nat) (L:List Int):needN p L (itn p)=needI p L:=rfl
theorem needN_zero (p:Nat) (L:List Int):needN p L p=[]:=by
 unfold needN
 have h:(List.range p).filter (isN p L)=[]:=by
  rw [List.filter_eq_nil_iff]
  intro i hi
  unfold isN
  rw [decide_eq_false (by have:=List.mem_range.1 hi;omega),Bool.false_and]
  decide
 rw [h];rfl
theorem needN_yes (p:Nat) (L:List Int) (i k:Nat) (hp:p≤i) (hk:k < L.length) (h:onW p (L.getD k 0) i=true):needN p L (i+1)=needN p L i++[(i:Int)]:=by
 have hn:isN p L i=true:=(isN_iff p L i).2 ⟨hp,L.getD k 0,by rw [List.getD_eq_getElem?_getD,List.getElem?_eq_getElem hk];exact List.getElem_mem hk,h⟩
 unfold needN
 rw [List.range_succ,List.filter_append,List.map_append]
 simp [hn]
theorem needN_no (p:Nat) (L:List Int) (i:Nat) (h:∀ k,k < L.length→onW p (L.getD k 0) i=false):needN p L (i+1)=needN p L i:=by
 have hn:isN p L i=false:=by
  rw [←Bool.not_eq_true]
  intro hn
  obtain ⟨_,x,hx,ho⟩:=(isN_iff p L i).1 hn
  obtain ⟨k,hk,e⟩:=List.mem_iff_getElem.1 hx
  have:=h k hk
  rw [List.getD_eq_getElem?_getD,List.getElem?_eq_getElem hk,Option.getD_some,e,ho] at this
  exact Bool.noConfusion this
 unfold needN
 rw [List.range_succ,List.filter_append,List.map_append]
 simp [hn]
theorem needN_len (p:Nat) (L:List Int) (i:Nat):(needN p L i).length≤i:=by
 unfold needN
 rw [List.length_map]
 exact Nat.le_trans (List.length_filter_le _ _) (by rw [List.length_range];exact Nat.le_refl _)
end Sha
end Go.Proofs.YtplmfmpbkjnbaaaGreatDoor
namespace Go.Proofs.YtplmfmpbkjnbaaaGreatDoor
namespace Sha
open Go.RowKit Mem
set_option maxRecDepth 100000
theorem rneed16_any (p:Nat) (vL vF:Value) (L:List Int) (v:Value) (w:World) (hR:RS w p vL vF) (h0:1≤p) (h1:p≤216) (hv:SlI w v L) (hl:L.length≤1000):Calls Tryz.prog 58 #[.agg (rsC p vL vF),v] w (OIEnd w (needI p L)):=by
 have pt:=fun z wx h=>rpath_any p vL vF z wx h h0 h1
 have hs:=fun z (i:Nat) vx wx (h:SlI wx vx (WZ p z))=>rhas16_any (WZ p z) (i:Int) vx wx h (by have:=wz_len p z;omega)
 have hof:∀ z (i:Nat),(WZ p z).contains (i:Int)=onW p z i:=fun _ _=>rfl
 have hnd:=needN_end p L
 have hz:=needN_zero p L
 have hyes:=fun i k hp hk h=>needN_yes p L i k hp hk h
 have hno:=fun i h=>needN_no p L i h
 have hnl:=needN_len p L
 have hpi:=(itn_big p h0 h1).1
 have hi9:=(itn_big p h0 h1).2
 obtain ⟨aL,cL,eL⟩:=hR.l.hd
 rw [zL_length] at eL
 subst eL
 obtain ⟨q,hq⟩:∃ q,q=itn p:=⟨_,rfl⟩
 rw [←hq] at hnd hpi hi9 hR pt ⊢
 obtain ⟨KS,hKS⟩:∃ K,K=needI p L:=⟨_,rfl⟩
 rw [←hKS] at hnd ⊢
 obtain ⟨NN,hNN⟩:∃ f,f=needN p L:=⟨_,rfl⟩
 rw [←hNN] at hnd hz hyes hno hnl
 obtain ⟨av,cv,rfl⟩:=hv.hd
 obtain ⟨n,hn⟩:∃ n,n=L.length:=⟨_,rfl⟩
 rw [←hn] at hv hl hyes hno ⊢
 have ha:=at_new w (rsC p (.slice aL q cL) vF) 37
 have hb:Below w.heap.size w (w.alloc (.cells (rsC p (.slice aL q cL) vF) 37)):=(Below.refl _ _).alloc (Nat.le_refl _) _
 have ms:(rsC p (.slice aL q cL) vF).size=3:=rfl
 have m0:(rsC p (.slice aL q cL) vF)[0]?=some (.int .i64 (p:Int)):=rfl
 have m1:(rsC p (.slice aL q cL) vF)[1]?=some (.slice aL q cL):=rfl
 obtain ⟨M,hM⟩:∃ M,M=rsC p (.slice aL q cL) vF:=⟨_,rfl⟩
 rw [←hM] at pt ha hb ms m0 m1 ⊢
 have PT:=zh pt;have HS:=zh hs;have OF:=zh hof;have ND:=zh hnd;have NZ:=zh hz;have YES:=zh hyes;have NO:=zh hno;have NL:=zh hnl;have HR:=zh hR;have HV:=zh hv;have HN:=zh hn;have HA:=zh ha;have HB:=zh hb;have MS:=zh ms;have M0:=zh m0;have M1:=zh m1
 clear pt hs hof hnd hz hyes hno hnl hR hv hn ha hb ms m0 m1 hM hNN hKS hq
 go_enter Tryz.func58,Tryz.ntmps58
 go_upto_region 1 with fail
 generalize w.alloc (.cells M 37)=w1 at *
 have c0:w1.cell? ⟨w.heap.size,0,none⟩=some (.int .i64 (p:Int)):=(HA.out.cell 0).trans M0.out
 go_wp2_with fail
 clear c0
 go_loopw [5,6] (fun vo vi wr=>∃ i:Nat,p≤i∧i≤q∧vi=.int .i64 (i:Int)∧OwnV wr w1.heap.size 3 vo (iz (NN i))∧Below w1.heap.size w1 wr) (fun _ vi _=>q - (intOf vi).toNat)
 case atStart=>exact ⟨p,by omega,by omega,rfl,by rw [NZ.out];exact World.ownsRow_nil _ _ _ _,Below.refl _ _⟩
 case round=>
  obtain ⟨i,hpi2,hiq,rfl,ho,hbw⟩:=hrel
  have OW:=zh ho;have BW:=zh hbw
  have AW:=zh (HA.out.below hbw HA.out.lt)
  have hl5:(iz (NN i)).length=(NN i).length:=by rw [iz_length]
  have hl6:=NL.out i
  obtain ⟨c,hc⟩:∃ c,c=(NN i).length:=⟨_,rfl⟩
  rw [←hc] at hl5 hl6
  have L5:=zh hl5
  clear ho hbw hl5 hc
  have c1:wr.cell? ⟨w.heap.size,1,none⟩=some (.slice aL q cL):=(AW.out.cell 1).trans M1.out
  by_cases hlt:i < q
  ·have hlt':(i:Int) < (q:Int):=by omega
   obtain ⟨a5,c5,rfl,_⟩:=OwnV.open OW.out
   rw [L5.out] at OW ⊢
   go_wp2_with fail
   clear c1
   have AWB:Hid (∀ wx,Below wr.heap.size wr wx→At wx w.heap.size M 37):=zh fun wx h=>AW.out.below h AW.out.lt
   have BWB:Hid (∀ wx,Below wr.heap.size wr wx→Below w1.heap.size w1 wx):=zh fun wx h=>BW.out.trans (h.mono BW.out.size)
   have OWB:Hid (∀ wx,Below wr.heap.size wr wx→OwnV wx w1.heap.size 3 (.slice a5 c c5) (iz (NN i))):=zh fun wx h=>OwnV.below OW.out h
   clear AW OW BW
   go_loopw [5,7] (fun vo vi wx=>∃ k:Nat,k≤n∧vo=.slice a5 c c5∧vi=.int .i64 (k:Int)∧(∀ k',k' < k→onW p (L.getD k' 0) i=false)∧Below wr.heap.size wr wx) (fun _ vi _=>n - (intOf vi).toNat)
   case atStart=>exact ⟨0,by omega,rfl,rfl,fun _ h=>by omega,Below.refl _ _⟩
   case round=>
    obtain ⟨k,hk,rfl,rfl,hal,hbx⟩:=hrel
    have BX:=zh hbx;have AL:=zh hal
    have AX:=zh (AWB.out wr hbx);have B1:=zh (BWB.out wr hbx)
    clear hbx hal
    by_cases hkn:k < n
    ·have hkn':(k:Int) < (n:Int):=by omega
     obtain ⟨b1,o1,e1,hlb,cz⟩:=sli_at (i:=k) (HV.out.below (HB.out.trans (B1.out.mono HB.out.size))) HN.out hkn
     subst e1
     have yk:=fun h=>YES.out i k hpi2 hkn h
     have hnx:onW p (L.getD k 0) i=false→∀ k',k' < k+1→onW p (L.getD k' 0) i=false:=fun h k' hk'=>(Nat.lt_or_ge k' k).elim (AL.out k') (fun g=>by rw [show k'=k by omega];exact h)
     obtain ⟨x,hx⟩:∃ x,x=L.getD k 0:=⟨_,rfl⟩
     rw [←hx] at cz yk hnx
     have CZ:=zh cz;have LB1:=zh hlb;have YK:=zh yk;have NX:=zh hnx
     have RX:Hid (RS wr p (.slice aL q cL) vF):=zh (HR.out.below (HB.out.trans (B1.out.mono HB.out.size)))
     clear cz hlb yk hnx hx
     go_upto_region 8 with fail
     refine wp_region_plan_in (fun x'=>Below wr.heap.size wr x') (.take 0 (.take 1 (.take 2 (.take 3 (.take 4 (.take 6 (.sole 5 (.sole 7 .done)))))))) (by kernel_rfl) (by kernel_rfl) (by kernel_rfl) (Below.refl _ _).drew ?_
     refine plan_row 37 _ w.heap.size _ M 37 zr zr zr ze (fun w' hw'=>AX.out.below hw' AX.out.lt) Tryz.underlying37 zr (by rw [MS.out];exact infoRS) ?_
     (simp only [Mem.zp,Mem.pb,Mem.pc])
     iterate 2 ((first | refine Mem.pm1 ?_ | refine Mem.pm2 ?_ | refine Mem.pt ?_ | refine Mem.pf ?_);(simp only [Mem.zp,Mem.pb,Mem.pc]))
     refine plan_index 35 3 _ _ b1 o1 n cv k zr zr zr ze ze (by omega) Tryz.underlying35 (by kernel_rfl) ?_
     (simp only [Mem.zp,Mem.pb,Mem.pc])
     refine plan_cell 3 _ _ (.int .i64 x) _ zr zr zr ze (fun w' hw'=>(hw'.cell (p:=⟨b1,o1+k,none⟩) LB1.out).trans CZ.out) Tryz.underlying3 zr ?_
     (simp only [Mem.zp,Mem.pb,Mem.pc])
     (first | refine Mem.pm1 ?_ | refine Mem.pm2 ?_ | refine Mem.pt ?_ | refine Mem.pf ?_)
     (simp only [Mem.zp,Mem.pb,Mem.pc])
     refine plan_call 102 _ _ _ (by kernel_rfl) zr zr zr (by first | exact Mem.ev_none _ | (simp only [List.map_toArray,List.map_cons,List.map_nil,Mem.ev_tmp,List.getD_cons_succ,List.getD_cons_zero] <;> rfl)) ?_
     refine (PT.out x _ (RX.out.below (Below.refl _ _).drew)).mono ?_
     rintro e8 wy ⟨v8,rfl,ho8,hb8⟩
     have D1:Hid (Below wr.heap.size wr wy):=zh ((Below.refl _ _).drew.trans hb8)
     have S8:=zh (ownV_sli ho8)
     clear ho8 hb8
     refine ⟨_,rfl,D1.out,?_⟩
     (simp only [Mem.zp,Mem.pb,Mem.pc])
     refine plan_call 60 _ _ _ (by kernel_rfl) zr zr zr (by first | exact Mem.ev_none _ | (simp only [List.map_toArray,List.map_cons,List.map_nil,Mem.ev_tmp,List.getD_cons_succ,List.getD_cons_zero] <;> rfl)) ?_
     refine (HS.out x i v8 wy S8.out).mono ?_
     rintro e9 wz ⟨rfl,hb9⟩
     have D2:Hid (Below wr.heap.size wr wz):=zh (D1.out.trans (hb9.mono D1.out.size))
     clear hb9
     rw [OF.out]
     refine ⟨_,rfl,D2.out,?_⟩
     (simp only [Mem.zp,Mem.pb,Mem.pc])
     refine plan_nil ?_
     cases hq:onW p x i with
     | true=>
      have YQ:=zh (YK.out hq)
      have O8:=zh (OWB.out _ (BX.out.trans (D2.out.mono BX.out.size)));have B8:=zh (BWB.out _ (BX.out.trans (D2.out.mono BX.out.size)))
      clear hq
      go_wp2_with (at_builtin;refine wpList_append_lit zr _ _ 35 zr (.int .i64 (i:Int)) (.int .i64 0) 8 elemInt zr zr O8.out zr zr (by rw [L5.out];omega) (by rw [L5.out];omega) (B8.out.size) ?_;intro v6 w6 ho6 _ hb6 _;have O6:Hid (OwnV w6 w1.heap.size 3 v6 (iz (NN (i+1)))):=zh (by rw [YQ.out,iz_snoc];exact ho6);have B6:Hid (Below w1.heap.size w1 w6):=zh (B8.out.trans hb6);clear ho6 hb6)
      go_roundw
      case rel=>exact ⟨i+1,by omega,by omega,by go_num,O6.out,B6.out⟩
      case measure=>simp [intOf];omega
     | false=>
      have NQ:=zh (NX.out hq);have B8:=zh (BX.out.trans (D2.out.mono BX.out.size))
      clear hq
      go_wp2_with fail
      go_roundw
      case rel=>exact ⟨k+1,by omega,rfl,by go_num,NQ.out,B8.out⟩
      case measure=>simp [intOf];omega
    ·have hkn2:k=n:=by omega
     subst hkn2
     have hge:¬ (k:Int) < (k:Int):=by omega
     have O8:Hid (OwnV wr w1.heap.size 3 (.slice a5 c c5) (iz (NN (i+1)))):=zh (by rw [NO.out i AL.out];exact OWB.out wr BX.out)
     go_wp2_with fail
     go_roundw
     case rel=>exact ⟨i+1,by omega,by omega,by go_num,O8.out,B1.out⟩
     case measure=>simp [intOf];omega
  ·have hjn:i=q:=by omega
   subst hjn
   have hge:¬ (i:Int) < (i:Int):=by omega
   rw [ND.out] at OW
   go_wp2_with fail
   go_ret
   exact ⟨_,rfl,OwnV.base OW.out HB.out.size,HB.out.trans (BW.out.mono HB.out.size)⟩
def okD (p:Nat) (C:List ChV) (i:Nat):Prop:=(0≤(C.getD i zch).1∧(C.getD i zch).1 < (p:Int))∧(C.getD i zch).2.length=256∧(0 < i→(C.getD (i - 1) zch).1 < (C.getD i zch).1)
theorem find_none (N:List NdV) (z:Int) (h:(findT N z).isSome=false):findD N z=[]:=by
 unfold findD
 cases e:findT N z with
 | none=>rfl
 | some x=>rw [e] at h;exact Bool.noConfusion h
theorem all_plOk (L:List RefV) (h:∀ k,k < L.length→plOk (L.getD k zref)=true):L.all plOk=true:=by
 rw [List.all_eq_true]
 intro r hr
 obtain ⟨k,hk,e⟩:=List.mem_iff_getElem.1 hr
 have:=h k hk
 rw [List.getD_eq_getElem?_getD,List.getElem?_eq_getElem hk,Option.getD_some,e] at this
 exact this
theorem not_plOk (L:List RefV) (k:Nat) (hk:k < L.length) (h:plOk (L.getD k zref)=false):L.all plOk=false:=by
 rw [List.all_eq_false]
 refine ⟨L.getD k zref,?_,by rw [h];decide⟩
 rw [List.getD_eq_getElem?_getD,List.getElem?_eq_getElem hk]
 exact List.getElem_mem hk
theorem rmay16_any (p:Nat) (vL vF:Value) (N:List NdV) (C:List ChV) (vn vc:Value) (w:World) (hR:RS w p vL vF) (hn:SlNd w vn N) (hc:SlCh w vc C) (hN:NdWf N) (h0:1≤p) (h1:p≤216) (hl:C.length≤1000):Calls Tryz.prog 56 #[.agg (rsC p vL vF),vn,vc] w (VEnd (.bool (mayT p N C)) w):=by
 have pg:=fun wx h=>rpages16_any C vc wx h hl
 have nd:=fun vx wx h h'=>rneed16_any p vL vF (pgsC C) vx wx h h0 h1 h' (by rw [pgsC_length];exact hl)
 have fd:=fun (z:Int) wx h=>rfind16_any N z vn wx h hN.n
 have kd:=fun (z:Int) wx h=>rkids_any p vL vF z wx h h0 h1
 have rr:=fun r wx h=>rright_any r wx h
 have hfw:=fun z=>findD_wf hN.w z
 have hgt:=fun j hj=>needI_get p (pgsC C) j hj
 have hkz:=fun i (a:p≤i) (b:i < itn p)=>KZ_node p i a b
 have hmp:=fun i (a:p≤i) (b:i < itn p)=>(node_kids p i h0 h1 a b).1
 have hok:∀ i:Nat,nodeOk p N i=(decide ((findD N (i:Int)).length=many p i) && (findD N (i:Int)).all plOk):=fun _=>rfl
 have hfn:=fun z h=>find_none N z h
 have hno0:decide (riseT p C)=false→mayT p N C=false:=fun h=>by unfold mayT;rw [h,Bool.false_and]
 have hno:=fun j i hj hi h=>may_no p N C j i hj hi h
 have hyes:=fun hr h=>may_all p N C hr h
 have hm6:=fun i=>many_le p i
 have rno:∀ j,j < C.length→¬ okD p C j→decide (riseT p C)=false:=fun j hj h=>decide_eq_false fun g=>h (g j hj)
 have ryes:(∀ j,j < C.length→okD p C j)→decide (riseT p C)=true:=fun h=>decide_eq_true h
 obtain ⟨R,hRR⟩:∃ R,R=decide (riseT p C):=⟨_,rfl⟩
 rw [←hRR] at hno0 hyes rno ryes
 obtain ⟨Y,hY⟩:∃ Y,Y=mayT p N C:=⟨_,rfl⟩
 rw [←hY] at hno0 hno hyes ⊢
 obtain ⟨KS,hKS⟩:∃ K,K=needI p (pgsC C):=⟨_,rfl⟩
 rw [←hKS] at nd hno hyes hgt
 obtain ⟨n,hnn⟩:∃ n,n=KS.length:=⟨_,rfl⟩
 have hn259:n≤259:=by rw [hnn,hKS];exact needI_len p _ h1
 rw [←hnn] at hno hyes hgt
 have ha:=at_new w (rsC p vL vF) 37
 have hb:Below w.heap.size w (w.alloc (.cells (rsC p vL vF) 37)):=(Below.refl _ _).alloc (Nat.le_refl _) _
 have ms:(rsC p vL vF).size=3:=rfl
 have m0:(rsC p vL vF)[0]?=some (.int .i64 (p:Int)):=rfl
 obtain ⟨M,hM⟩:∃ M,M=rsC p vL vF:=⟨_,rfl⟩
 rw [←hM] at nd kd ha hb ms m0 ⊢
 obtain ⟨an,cn,rfl⟩:=hn.hd
 obtain ⟨ac,cc,rfl⟩:=hc.hd
 obtain ⟨nN,hnN⟩:∃ n,n=N.length:=⟨_,rfl⟩
 obtain ⟨nC,hnC⟩:∃ n,n=C.length:=⟨_,rfl⟩
 rw [←hnN] at hn fd ⊢
 rw [←hnC] at hc pg rno ryes hl ⊢
 have PGS:=zh pg;have NDD:=zh nd;have FD:=zh fd;have KD:=zh kd;have RR:=zh rr;have FW:=zh hfw;have GT:=zh hgt;have KZN:=zh hkz;have MP:=zh hmp;have OK:=zh hok;have FN:=zh hfn
 have NO0:=zh hno0;have NO:=zh hno;have YES:=zh hyes;have M6:=zh hm6;have RNO:=zh rno;have RYES:=zh ryes;have HNN:=zh hnn;have HA:=zh ha;have HB:=zh hb;have MS:=zh ms;have M0:=zh m0;have HVN:=zh hn;have HVC:=zh hc;have HC:=zh hnC;have HRS:=zh hR
 clear pg nd fd kd rr hfw hgt hkz hmp hok hfn hno0 hno hyes hm6 rno ryes hnn ha hb ms m0 hn hc hRR hY hKS hM hN hnN hnC hR
 go_enter Tryz.func56,Tryz.ntmps56
 go_upto_region 1 with fail
 generalize w.alloc (.cells M 37)=w1 at *
 go_wp2_with fail
 go_loopw [7] (fun vi wr=>∃ j:Nat,j≤nC∧vi=.int .i64 (j:Int)∧(∀ j',j' < j→okD p C j')∧Below w.heap.size w wr∧At wr w.heap.size M 37) (fun vi _=>nC - (intOf vi).toNat)
 case atStart=>exact ⟨0,by omega,rfl,fun j' h=>by omega,HB.out,HA.out⟩
 case round=>
  obtain ⟨j,hj,rfl,hal,hbw,haw⟩:=hrel
  have BW:=zh hbw;have AW:=zh haw;have AL:=zh hal
  clear hal hbw haw
  by_cases hlt:j < nC
  ·have hlt':(j:Int) < (nC:Int):=by omega
   have HVW:=zh (HVC.out.below BW.out)
   obtain ⟨b1,o1,u,e1,hlb,cz0,cu0,hsu⟩:=slch_at (i:=j) HVW.out HC.out hlt
   subst e1
   have hpv:0 < j→wr.cell? ⟨b1,o1+(j - 1)*2,none⟩=some (.int .i64 (C.getD (j - 1) zch).1):=fun h=>by
    obtain ⟨b2,o2,u2,e2,_,c2,_,_⟩:=slch_at (i:=j - 1) HVW.out HC.out (by omega)
    injection e2 with e2
    injection e2 with e2 e3 _
    subst e2 e3
    exact c2
   have hok:okD p C j ↔ ((0≤(C.getD j zch).1∧(C.getD j zch).1 < (p:Int))∧(C.getD j zch).2.length=256∧(0 < j→(C.getD (j - 1) zch).1 < (C.getD j zch).1)):=Iff.rfl
   have hrn:=fun h=>RNO.out j hlt h
   have hnx:okD p C j→∀ j',j' < j+1→okD p C j':=fun h j' hj'=>(Nat.lt_or_ge j' j).elim (AL.out j') (fun g=>by rw [show j'=j by omega];exact h)
   obtain ⟨x,hx⟩:∃ x,x=(C.getD j zch).2:=⟨_,rfl⟩
   obtain ⟨z,hz⟩:∃ z,z=(C.getD j zch).1:=⟨_,rfl⟩
   obtain ⟨zp,hzp⟩:∃ z,z=(C.getD (j - 1) zch).1:=⟨_,rfl⟩
   obtain ⟨PJ,hPJ⟩:∃ P:Prop,P=okD p C j:=⟨_,rfl⟩
   rw [←hPJ] at hok hrn hnx
   rw [←hx] at hsu hok
   rw [←hz] at hok cz0
   rw [←hzp] at hok hpv
   obtain ⟨a3,c3,rfl⟩:=sl_inv hsu
   obtain ⟨m,hm⟩:∃ m,m=x.length:=⟨_,rfl⟩
   rw [←hm] at hok cu0
   have LB1:=zh hlb;have CZ:=zh cz0;have CU:=zh cu0;have CP:=zh hpv;have OKJ:=zh hok;have RNJ:=zh hrn;have NXJ:=zh hnx
   have CM:Hid (wr.cell? ⟨w.heap.size,0,none⟩=some (.int .i64 (p:Int))):=zh ((AW.out.cell 0).trans M0.out)
   clear hlb cz0 cu0 hpv hok hrn hnx hsu hx hz hzp hPJ hm HVW
   by_cases g1:z < 0
   ·have HY:=zh (NO0.out (RNJ.out fun h=>by have:=OKJ.out.1 h;omega))
    have LT:Hid (decide (z < 0)=true):=zh (decide_eq_true g1)
    clear g1
    go_upto_region 4 with fail
    refine wp_region_plan_in (fun x'=>Below wr.heap.size wr x') (.take 0 (.take 1 (.take 2 (.take 3 (.take 4 (.take 5 (.take 6 (.take 7 (.take 8 (.take 9 (.take 10 (.take 11 (.take 12 (.take 13 (.take 14 (.take 15 (.take 16 (.take 17 (.take 18 (.take 19 (.take 20 (.take 21 (.take 22 (.take 23 (.take 24 (.take 25 (.take 26 (.take 27 (.take 28 (.take 29 (.take 30 (.take 31 (.take 32 (.take 33 (.take 34 (.take 35 (.take 36 (.take 37 (.take 38 (.take 39 (.take 40 (.take 41 (.take 42 .done))))))))))))))))))))))))))))))))))))))))))) (by kernel_rfl) (by kernel_rfl) (by kernel_rfl) (Below.refl _ _).drew ?_
    iterate 2 ((first | refine Mem.pm1 ?_ | refine Mem.pm2 ?_ | refine Mem.pt ?_ | refine Mem.pf ?_);(simp only [Mem.zp,Mem.pb,Mem.pc]))
    refine plan_index_z 29 125 _ _ b1 o1 nC cc 2 j zr zr zr ze ze (by omega) Tryz.underlying29 (by kernel_rfl) ?_
    (simp only [Mem.zp,Mem.pb,Mem.pc])
    refine plan_field 125 _ 0 b1 (o1+j*2) ⟨b1,o1+j*2,none⟩ zr zr zr ze (fun wx=>by go_simp) ?_
    (simp only [Mem.zp,Mem.pb,Mem.pc])
    refine plan_cell 3 _ _ (.int .i64 z) _ zr zr zr ze (fun w' hw'=>(hw'.cell (p:=⟨b1,o1+j*2,none⟩) LB1.out).trans CZ.out) Tryz.underlying3 zr ?_
    (simp only [Mem.zp,Mem.pb,Mem.pc])
    refine plan_bin _ _ _ _ _ _ _ (.bool true) zr zr zr ze zr (fun wx=>o_ilt1 z 0 true LT.out _ _ _ _ wx) ?_
    (simp only [Mem.zp,Mem.pb,Mem.pc])
    (first | refine Mem.pm1 ?_ | refine Mem.pm2 ?_ | refine Mem.pt ?_ | refine Mem.pf ?_)
    (simp only [Mem.zp,Mem.pb,Mem.pc])
    refine plan_skip zr zr ?_
    (simp only [Mem.zp,Mem.pb,Mem.pc])
    refine plan_skip zr zr ?_
    (simp only [Mem.zp,Mem.pb,Mem.pc])
    refine plan_skip zr zr ?_
    (simp only [Mem.zp,Mem.pb,Mem.pc])
    refine plan_skip zr zr ?_
    (simp only [Mem.zp,Mem.pb,Mem.pc])
    refine plan_skip zr zr ?_
    (simp only [Mem.zp,Mem.pb,Mem.pc])
    refine plan_skip zr zr ?_
    (simp only [Mem.zp,Mem.pb,Mem.pc])
    refine plan_skip zr zr ?_
    (simp only [Mem.zp,Mem.pb,Mem.pc])
    refine plan_skip zr zr ?_
    (simp only [Mem.zp,Mem.pb,Mem.pc])
    refine plan_pick_t _ _ _ _ zr zr zr ze ze ?_
    (simp only [Mem.zp,Mem.pb,Mem.pc])
    (first | refine Mem.pm1 ?_ | refine Mem.pm2 ?_ | refine Mem.pt ?_ | refine Mem.pf ?_)
    (simp only [Mem.zp,Mem.pb,Mem.pc])
    refine plan_skip zr zr ?_
    (simp only [Mem.zp,Mem.pb,Mem.pc])
    refine plan_skip zr zr ?_
    (simp only [Mem.zp,Mem.pb,Mem.pc])
    refine plan_skip zr zr ?_
    (simp only [Mem.zp,Mem.pb,Mem.pc])
    refine plan_skip zr zr ?_
    (simp only [Mem.zp,Mem.pb,Mem.pc])
    refine plan_skip zr zr ?_
    (simp only [Mem.zp,Mem.pb,Mem.pc])
    refine plan_skip zr zr ?_
    (simp only [Mem.zp,Mem.pb,Mem.pc])
    refine plan_skip zr zr ?_
    (simp only [Mem.zp,Mem.pb,Mem.pc])
    refine plan_skip zr zr ?_
    (simp only [Mem.zp,Mem.pb,Mem.pc])
    refine plan_skip zr zr ?_
    (simp only [Mem.zp,Mem.pb,Mem.pc])
    refine plan_skip zr zr ?_
    (simp only [Mem.zp,Mem.pb,Mem.pc])
    refine plan_skip zr zr ?_
    (simp only [Mem.zp,Mem.pb,Mem.pc])
    refine plan_skip zr zr ?_
    (simp only [Mem.zp,Mem.pb,Mem.pc])
    refine plan_skip zr zr ?_
    (simp only [Mem.zp,Mem.pb,Mem.pc])
    refine plan_skip zr zr ?_
    (simp only [Mem.zp,Mem.pb,Mem.pc])
    refine plan_skip zr zr ?_
    (simp only [Mem.zp,Mem.pb,Mem.pc])
    refine plan_skip zr zr ?_
    (simp only [Mem.zp,Mem.pb,Mem.pc])
    refine plan_pick_t _ _ _ _ zr zr zr ze ze ?_
    (simp only [Mem.zp,Mem.pb,Mem.pc])
    (first | refine Mem.pm1 ?_ | refine Mem.pm2 ?_ | refine Mem.pt ?_ | refine Mem.pf ?_)
    (simp only [Mem.zp,Mem.pb,Mem.pc])
    refine plan_skip zr zr ?_
    (simp only [Mem.zp,Mem.pb,Mem.pc])
    refine plan_skip zr zr ?_
    (simp only [Mem.zp,Mem.pb,Mem.pc])
    refine plan_skip zr zr ?_
    (simp only [Mem.zp,Mem.pb,Mem.pc])
    refine plan_skip zr zr ?_
    (simp only [Mem.zp,Mem.pb,Mem.pc])
    refine plan_skip zr zr ?_
    (simp only [Mem.zp,Mem.pb,Mem.pc])
    refine plan_skip zr zr ?_
    (simp only [Mem.zp,Mem.pb,Mem.pc])
    refine plan_skip zr zr ?_
    (simp only [Mem.zp,Mem.pb,Mem.pc])
    refine plan_pick_t _ _ _ _ zr zr zr ze ze ?_
    (simp only [Mem.zp,Mem.pb,Mem.pc])
    refine plan_nil ?_
    go_wp2_with fail
    go_ret
    exact ⟨by rw [HY.out];rfl,BW.out.drew⟩
   ·by_cases g2:(p:Int)≤z
    ·have HY:=zh (NO0.out (RNJ.out fun h=>by have:=OKJ.out.1 h;omega))
     have LT:Hid (decide (z < 0)=false):=zh (decide_eq_false g1)
     have GE:Hid (decide ((p:Int)≤z)=true):=zh (decide_eq_true g2)
     clear g1 g2
     go_upto_region 4 with fail
     refine wp_region_plan_in (fun x'=>Below wr.heap.size wr x') (.take 0 (.take 1 (.take 2 (.take 3 (.take 4 (.take 5 (.take 6 (.take 7 (.take 8 (.take 9 (.take 10 (.take 11 (.take 12 (.take 13 (.take 14 (.take 15 (.take 16 (.take 17 (.take 18 (.take 19 (.take 20 (.take 21 (.take 22 (.take 23 (.take 24 (.take 25 (.take 26 (.take 27 (.take 28 (.take 29 (.take 30 (.take 31 (.take 32 (.take 33 (.take 34 (.take 35 (.take 36 (.take 37 (.take 38 (.take 39 (.take 40 (.take 41 (.take 42 .done))))))))))))))))))))))))))))))))))))))))))) (by kernel_rfl) (by kernel_rfl) (by kernel_rfl) (Below.refl _ _).drew ?_
     iterate 2 ((first | refine Mem.pm1 ?_ | refine Mem.pm2 ?_ | refine Mem.pt ?_ | refine Mem.pf ?_);(simp only [Mem.zp,Mem.pb,Mem.pc]))
     refine plan_index_z 29 125 _ _ b1 o1 nC cc 2 j zr zr zr ze ze (by omega) Tryz.underlying29 (by kernel_rfl) ?_
     (simp only [Mem.zp,Mem.pb,Mem.pc])
     refine plan_field 125 _ 0 b1 (o1+j*2) ⟨b1,o1+j*2,none⟩ zr zr zr ze (fun wx=>by go_simp) ?_
     (simp only [Mem.zp,Mem.pb,Mem.pc])
     refine plan_cell 3 _ _ (.int .i64 z) _ zr zr zr ze (fun w' hw'=>(hw'.cell (p:=⟨b1,o1+j*2,none⟩) LB1.out).trans CZ.out) Tryz.underlying3 zr ?_
     (simp only [Mem.zp,Mem.pb,Mem.pc])
     refine plan_bin _ _ _ _ _ _ _ (.bool false) zr zr zr ze zr (fun wx=>o_ilt1 z 0 false LT.out _ _ _ _ wx) ?_
     (simp only [Mem.zp,Mem.pb,Mem.pc])
     iterate 3 ((first | refine Mem.pm1 ?_ | refine Mem.pm2 ?_ | refine Mem.pt ?_ | refine Mem.pf ?_);(simp only [Mem.zp,Mem.pb,Mem.pc]))
     refine plan_index_z 29 125 _ _ b1 o1 nC cc 2 j zr zr zr ze ze (by omega) Tryz.underlying29 (by kernel_rfl) ?_
     (simp only [Mem.zp,Mem.pb,Mem.pc])
     refine plan_field 125 _ 0 b1 (o1+j*2) ⟨b1,o1+j*2,none⟩ zr zr zr ze (fun wx=>by go_simp) ?_
     (simp only [Mem.zp,Mem.pb,Mem.pc])
     refine plan_cell 3 _ _ (.int .i64 z) _ zr zr zr ze (fun w' hw'=>(hw'.cell (p:=⟨b1,o1+j*2,none⟩) LB1.out).trans CZ.out) Tryz.underlying3 zr ?_
     (simp only [Mem.zp,Mem.pb,Mem.pc])
     refine plan_field 37 _ 0 w.heap.size 0 ⟨w.heap.size,0,none⟩ zr zr zr ze (fun wx=>by go_simp) ?_
     (simp only [Mem.zp,Mem.pb,Mem.pc])
     refine plan_cell 3 _ _ (.int .i64 ((p:Int))) _ zr zr zr ze (fun w' hw'=>(hw'.cell (p:=⟨w.heap.size,0,none⟩) AW.out.lt).trans CM.out) Tryz.underlying3 zr ?_
     (simp only [Mem.zp,Mem.pb,Mem.pc])
     refine plan_bin _ _ _ _ _ _ _ (.bool true) zr zr zr ze ze (fun wx=>o_ige1 z (p:Int) true GE.out _ _ _ _ wx) ?_
     (simp only [Mem.zp,Mem.pb,Mem.pc])
     refine plan_pick_f _ _ _ _ zr zr zr ze ze ?_
     (simp only [Mem.zp,Mem.pb,Mem.pc])
     (first | refine Mem.pm1 ?_ | refine Mem.pm2 ?_ | refine Mem.pt ?_ | refine Mem.pf ?_)
     (simp only [Mem.zp,Mem.pb,Mem.pc])
     refine plan_skip zr zr ?_
     (simp only [Mem.zp,Mem.pb,Mem.pc])
     refine plan_skip zr zr ?_
     (simp only [Mem.zp,Mem.pb,Mem.pc])
     refine plan_skip zr zr ?_
     (simp only [Mem.zp,Mem.pb,Mem.pc])
     refine plan_skip zr zr ?_
     (simp only [Mem.zp,Mem.pb,Mem.pc])
     refine plan_skip zr zr ?_
     (simp only [Mem.zp,Mem.pb,Mem.pc])
     refine plan_skip zr zr ?_
     (simp only [Mem.zp,Mem.pb,Mem.pc])
     refine plan_skip zr zr ?_
     (simp only [Mem.zp,Mem.pb,Mem.pc])
     refine plan_skip zr zr ?_
     (simp only [Mem.zp,Mem.pb,Mem.pc])
     refine plan_skip zr zr ?_
     (simp only [Mem.zp,Mem.pb,Mem.pc])
     refine plan_skip zr zr ?_
     (simp only [Mem.zp,Mem.pb,Mem.pc])
     refine plan_skip zr zr ?_
     (simp only [Mem.zp,Mem.pb,Mem.pc])
     refine plan_skip zr zr ?_
     (simp only [Mem.zp,Mem.pb,Mem.pc])
     refine plan_skip zr zr ?_
     (simp only [Mem.zp,Mem.pb,Mem.pc])
     refine plan_skip zr zr ?_
     (simp only [Mem.zp,Mem.pb,Mem.pc])
     refine plan_skip zr zr ?_
     (simp only [Mem.zp,Mem.pb,Mem.pc])
     refine plan_skip zr zr ?_
     (simp only [Mem.zp,Mem.pb,Mem.pc])
     refine plan_pick_t _ _ _ _ zr zr zr ze ze ?_
     (simp only [Mem.zp,Mem.pb,Mem.pc])
     (first | refine Mem.pm1 ?_ | refine Mem.pm2 ?_ | refine Mem.pt ?_ | refine Mem.pf ?_)
     (simp only [Mem.zp,Mem.pb,Mem.pc])
     refine plan_skip zr zr ?_
     (simp only [Mem.zp,Mem.pb,Mem.pc])
     refine plan_skip zr zr ?_
     (simp only [Mem.zp,Mem.pb,Mem.pc])
     refine plan_skip zr zr ?_
     (simp only [Mem.zp,Mem.pb,Mem.pc])
     refine plan_skip zr zr ?_
     (simp only [Mem.zp,Mem.pb,Mem.pc])
     refine plan_skip zr zr ?_
     (simp only [Mem.zp,Mem.pb,Mem.pc])
     refine plan_skip zr zr ?_
     (simp only [Mem.zp,Mem.pb,Mem.pc])
     refine plan_skip zr zr ?_
     (simp only [Mem.zp,Mem.pb,Mem.pc])
     refine plan_pick_t _ _ _ _ zr zr zr ze ze ?_
     (simp only [Mem.zp,Mem.pb,Mem.pc])
     refine plan_nil ?_
     go_wp2_with fail
     go_ret
     exact ⟨by rw [HY.out];rfl,BW.out.drew⟩
    ·have LT:Hid (decide (z < 0)=false):=zh (decide_eq_false g1)
     have GE:Hid (decide ((p:Int)≤z)=false):=zh (decide_eq_false g2)
     by_cases gj:0 < j
     ·obtain ⟨j2,hj2⟩:∃ j2:Nat,j=j2+1:=⟨j - 1,by omega⟩
      have J2:=zh hj2
      have hj3:j2 < nC:=by omega
      have CP2:Hid (wr.cell? ⟨b1,o1+j2*2,none⟩=some (.int .i64 zp)):=zh (by have h:=CP.out gj;rw [show j - 1=j2 by omega] at h;exact h)
      have GJ:Hid (decide ((0:Int) < (j:Int))=true):=zh (decide_eq_true (by omega))
      by_cases g3:z≤zp
      ·have HY:=zh (NO0.out (RNJ.out fun h=>by have:=(OKJ.out.1 h).2.2 gj;omega))
       have GP:Hid (decide (z≤zp)=true):=zh (decide_eq_true g3)
       clear g1 g2 g3 gj hj2
       go_upto_region 4 with fail
       refine wp_region_plan_in (fun x'=>Below wr.heap.size wr x') (.take 0 (.take 1 (.take 2 (.take 3 (.take 4 (.take 5 (.take 6 (.take 7 (.take 8 (.take 9 (.take 10 (.take 11 (.take 12 (.take 13 (.take 14 (.take 15 (.take 16 (.take 17 (.take 18 (.take 19 (.take 20 (.take 21 (.take 22 (.take 23 (.take 24 (.take 25 (.take 26 (.take 27 (.take 28 (.take 29 (.take 30 (.take 31 (.take 32 (.take 33 (.take 34 (.take 35 (.take 36 (.take 37 (.take 38 (.take 39 (.take 40 (.take 41 (.take 42 .done))))))))))))))))))))))))))))))))))))))))))) (by kernel_rfl) (by kernel_rfl) (by kernel_rfl) (Below.refl _ _).drew ?_
       iterate 2 ((first | refine Mem.pm1 ?_ | refine Mem.pm2 ?_ | refine Mem.pt ?_ | refine Mem.pf ?_);(simp only [Mem.zp,Mem.pb,Mem.pc]))
       refine plan_index_z 29 125 _ _ b1 o1 nC cc 2 j zr zr zr ze ze (by omega) Tryz.underlying29 (by kernel_rfl) ?_
       (simp only [Mem.zp,Mem.pb,Mem.pc])
       refine plan_field 125 _ 0 b1 (o1+j*2) ⟨b1,o1+j*2,none⟩ zr zr zr ze (fun wx=>by go_simp) ?_
       (simp only [Mem.zp,Mem.pb,Mem.pc])
       refine plan_cell 3 _ _ (.int .i64 z) _ zr zr zr ze (fun w' hw'=>(hw'.cell (p:=⟨b1,o1+j*2,none⟩) LB1.out).trans CZ.out) Tryz.underlying3 zr ?_
       (simp only [Mem.zp,Mem.pb,Mem.pc])
       refine plan_bin _ _ _ _ _ _ _ (.bool false) zr zr zr ze zr (fun wx=>o_ilt1 z 0 false LT.out _ _ _ _ wx) ?_
       (simp only [Mem.zp,Mem.pb,Mem.pc])
       iterate 3 ((first | refine Mem.pm1 ?_ | refine Mem.pm2 ?_ | refine Mem.pt ?_ | refine Mem.pf ?_);(simp only [Mem.zp,Mem.pb,Mem.pc]))
       refine plan_index_z 29 125 _ _ b1 o1 nC cc 2 j zr zr zr ze ze (by omega) Tryz.underlying29 (by kernel_rfl) ?_
       (simp only [Mem.zp,Mem.pb,Mem.pc])
       refine plan_field 125 _ 0 b1 (o1+j*2) ⟨b1,o1+j*2,none⟩ zr zr zr ze (fun wx=>by go_simp) ?_
       (simp only [Mem.zp,Mem.pb,Mem.pc])
       refine plan_cell 3 _ _ (.int .i64 z) _ zr zr zr ze (fun w' hw'=>(hw'.cell (p:=⟨b1,o1+j*2,none⟩) LB1.out).trans CZ.out) Tryz.underlying3 zr ?_
       (simp only [Mem.zp,Mem.pb,Mem.pc])
       refine plan_field 37 _ 0 w.heap.size 0 ⟨w.heap.size,0,none⟩ zr zr zr ze (fun wx=>by go_simp) ?_
       (simp only [Mem.zp,Mem.pb,Mem.pc])
       refine plan_cell 3 _ _ (.int .i64 ((p:Int))) _ zr zr zr ze (fun w' hw'=>(hw'.cell (p:=⟨w.heap.size,0,none⟩) AW.out.lt).trans CM.out) Tryz.underlying3 zr ?_
       (simp only [Mem.zp,Mem.pb,Mem.pc])
       refine plan_bin _ _ _ _ _ _ _ (.bool false) zr zr zr ze ze (fun wx=>o_ige1 z (p:Int) false GE.out _ _ _ _ wx) ?_
       (simp only [Mem.zp,Mem.pb,Mem.pc])
       refine plan_pick_f _ _ _ _ zr zr zr ze ze ?_
       (simp only [Mem.zp,Mem.pb,Mem.pc])
       iterate 2 ((first | refine Mem.pm1 ?_ | refine Mem.pm2 ?_ | refine Mem.pt ?_ | refine Mem.pf ?_);(simp only [Mem.zp,Mem.pb,Mem.pc]))
       refine plan_bin _ _ _ _ _ _ _ (.bool true) zr zr zr ze zr (fun wx=>o_igt1 (j:Int) 0 true GJ.out _ _ _ _ wx) ?_
       (simp only [Mem.zp,Mem.pb,Mem.pc])
       iterate 3 ((first | refine Mem.pm1 ?_ | refine Mem.pm2 ?_ | refine Mem.pt ?_ | refine Mem.pf ?_);(simp only [Mem.zp,Mem.pb,Mem.pc]))
       refine plan_bin _ _ _ _ _ _ _ (.int .i64 ((j2:Int))) zr zr zr ze zr (fun wx=>o_isub _ _ _ _ (j:Int) 1 (j2:Int) (by have:=J2.out;omega) (by omega) (by have:=J2.out;omega) wx) ?_
       (simp only [Mem.zp,Mem.pb,Mem.pc])
       refine plan_index_z 29 125 _ _ b1 o1 nC cc 2 j2 zr zr zr ze ze (by omega) Tryz.underlying29 (by kernel_rfl) ?_
       (simp only [Mem.zp,Mem.pb,Mem.pc])
       refine plan_field 125 _ 0 b1 (o1+j2*2) ⟨b1,o1+j2*2,none⟩ zr zr zr ze (fun wx=>by go_simp) ?_
       (simp only [Mem.zp,Mem.pb,Mem.pc])
       refine plan_cell 3 _ _ (.int .i64 zp) _ zr zr zr ze (fun w' hw'=>(hw'.cell (p:=⟨b1,o1+j2*2,none⟩) LB1.out).trans CP2.out) Tryz.underlying3 zr ?_
       (simp only [Mem.zp,Mem.pb,Mem.pc])
       iterate 2 ((first | refine Mem.pm1 ?_ | refine Mem.pm2 ?_ | refine Mem.pt ?_ | refine Mem.pf ?_);(simp only [Mem.zp,Mem.pb,Mem.pc]))
       refine plan_index_z 29 125 _ _ b1 o1 nC cc 2 j zr zr zr ze ze (by omega) Tryz.underlying29 (by kernel_rfl) ?_
       (simp only [Mem.zp,Mem.pb,Mem.pc])
       refine plan_field 125 _ 0 b1 (o1+j*2) ⟨b1,o1+j*2,none⟩ zr zr zr ze (fun wx=>by go_simp) ?_
       (simp only [Mem.zp,Mem.pb,Mem.pc])
       refine plan_cell 3 _ _ (.int .i64 z) _ zr zr zr ze (fun w' hw'=>(hw'.cell (p:=⟨b1,o1+j*2,none⟩) LB1.out).trans CZ.out) Tryz.underlying3 zr ?_
       (simp only [Mem.zp,Mem.pb,Mem.pc])
       refine plan_bin _ _ _ _ _ _ _ (.bool true) zr zr zr ze ze (fun wx=>o_ige1 zp z true GP.out _ _ _ _ wx) ?_
       (simp only [Mem.zp,Mem.pb,Mem.pc])
       refine plan_pick_t _ _ _ _ zr zr zr ze ze ?_
       (simp only [Mem.zp,Mem.pb,Mem.pc])
       refine plan_pick_f _ _ _ _ zr zr zr ze ze ?_
       (simp only [Mem.zp,Mem.pb,Mem.pc])
       (first | refine Mem.pm1 ?_ | refine Mem.pm2 ?_ | refine Mem.pt ?_ | refine Mem.pf ?_)
       (simp only [Mem.zp,Mem.pb,Mem.pc])
       refine plan_skip zr zr ?_
       (simp only [Mem.zp,Mem.pb,Mem.pc])
       refine plan_skip zr zr ?_
       (simp only [Mem.zp,Mem.pb,Mem.pc])
       refine plan_skip zr zr ?_
       (simp only [Mem.zp,Mem.pb,Mem.pc])
       refine plan_skip zr zr ?_
       (simp only [Mem.zp,Mem.pb,Mem.pc])
       refine plan_skip zr zr ?_
       (simp only [Mem.zp,Mem.pb,Mem.pc])
       refine plan_skip zr zr ?_
       (simp only [Mem.zp,Mem.pb,Mem.pc])
       refine plan_skip zr zr ?_
       (simp only [Mem.zp,Mem.pb,Mem.pc])
       refine plan_pick_t _ _ _ _ zr zr zr ze ze ?_
       (simp only [Mem.zp,Mem.pb,Mem.pc])
       refine plan_nil ?_
       go_wp2_with fail
       go_ret
       exact ⟨by rw [HY.out];rfl,BW.out.drew⟩
      ·have GP:Hid (decide (z≤zp)=false):=zh (decide_eq_false g3)
       by_cases g4:(m:Int)=256
       ·have N4:=zh g4
        have NX:=zh (NXJ.out (OKJ.out.2 ⟨⟨by omega,by omega⟩,by omega,fun _=>by omega⟩))
        clear g1 g2 g3 g4 gj hj2
        go_upto_region 4 with fail
        refine wp_region_plan_in (fun x'=>Below wr.heap.size wr x') (.take 0 (.take 1 (.take 2 (.take 3 (.take 4 (.take 5 (.take 6 (.take 7 (.take 8 (.take 9 (.take 10 (.take 11 (.take 12 (.take 13 (.take 14 (.take 15 (.take 16 (.take 17 (.take 18 (.take 19 (.take 20 (.take 21 (.take 22 (.take 23 (.take 24 (.take 25 (.take 26 (.take 27 (.take 28 (.take 29 (.take 30 (.take 31 (.take 32 (.take 33 (.take 34 (.take 35 (.take 36 (.take 37 (.take 38 (.take 39 (.take 40 (.take 41 (.take 42 .done))))))))))))))))))))))))))))))))))))))))))) (by kernel_rfl) (by kernel_rfl) (by kernel_rfl) (Below.refl _ _).drew ?_
        iterate 2 ((first | refine Mem.pm1 ?_ | refine Mem.pm2 ?_ | refine Mem.pt ?_ | refine Mem.pf ?_);(simp only [Mem.zp,Mem.pb,Mem.pc]))
        refine plan_index_z 29 125 _ _ b1 o1 nC cc 2 j zr zr zr ze ze (by omega) Tryz.underlying29 (by kernel_rfl) ?_
        (simp only [Mem.zp,Mem.pb,Mem.pc])
        refine plan_field 125 _ 0 b1 (o1+j*2) ⟨b1,o1+j*2,none⟩ zr zr zr ze (fun wx=>by go_simp) ?_
        (simp only [Mem.zp,Mem.pb,Mem.pc])
        refine plan_cell 3 _ _ (.int .i64 z) _ zr zr zr ze (fun w' hw'=>(hw'.cell (p:=⟨b1,o1+j*2,none⟩) LB1.out).trans CZ.out) Tryz.underlying3 zr ?_
        (simp only [Mem.zp,Mem.pb,Mem.pc])
        refine plan_bin _ _ _ _ _ _ _ (.bool false) zr zr zr ze zr (fun wx=>o_ilt1 z 0 false LT.out _ _ _ _ wx) ?_
        (simp only [Mem.zp,Mem.pb,Mem.pc])
        iterate 3 ((first | refine Mem.pm1 ?_ | refine Mem.pm2 ?_ | refine Mem.pt ?_ | refine Mem.pf ?_);(simp only [Mem.zp,Mem.pb,Mem.pc]))
        refine plan_index_z 29 125 _ _ b1 o1 nC cc 2 j zr zr zr ze ze (by omega) Tryz.underlying29 (by kernel_rfl) ?_
        (simp only [Mem.zp,Mem.pb,Mem.pc])
        refine plan_field 125 _ 0 b1 (o1+j*2) ⟨b1,o1+j*2,none⟩ zr zr zr ze (fun wx=>by go_simp) ?_
        (simp only [Mem.zp,Mem.pb,Mem.pc])
        refine plan_cell 3 _ _ (.int .i64 z) _ zr zr zr ze (fun w' hw'=>(hw'.cell (p:=⟨b1,o1+j*2,none⟩) LB1.out).trans CZ.out) Tryz.underlying3 zr ?_
        (simp only [Mem.zp,Mem.pb,Mem.pc])
        refine plan_field 37 _ 0 w.heap.size 0 ⟨w.heap.size,0,none⟩ zr zr zr ze (fun wx=>by go_simp) ?_
        (simp only [Mem.zp,Mem.pb,Mem.pc])
        refine plan_cell 3 _ _ (.int .i64 ((p:Int))) _ zr zr zr ze (fun w' hw'=>(hw'.cell (p:=⟨w.heap.size,0,none⟩) AW.out.lt).trans CM.out) Tryz.underlying3 zr ?_
        (simp only [Mem.zp,Mem.pb,Mem.pc])
        refine plan_bin _ _ _ _ _ _ _ (.bool false) zr zr zr ze ze (fun wx=>o_ige1 z (p:Int) false GE.out _ _ _ _ wx) ?_
        (simp only [Mem.zp,Mem.pb,Mem.pc])
        refine plan_pick_f _ _ _ _ zr zr zr ze ze ?_
        (simp only [Mem.zp,Mem.pb,Mem.pc])
        iterate 2 ((first | refine Mem.pm1 ?_ | refine Mem.pm2 ?_ | refine Mem.pt ?_ | refine Mem.pf ?_);(simp only [Mem.zp,Mem.pb,Mem.pc]))
        refine plan_bin _ _ _ _ _ _ _ (.bool true) zr zr zr ze zr (fun wx=>o_igt1 (j:Int) 0 true GJ.out _ _ _ _ wx) ?_
        (simp only [Mem.zp,Mem.pb,Mem.pc])
        iterate 3 ((first | refine Mem.pm1 ?_ | refine Mem.pm2 ?_ | refine Mem.pt ?_ | refine Mem.pf ?_);(simp only [Mem.zp,Mem.pb,Mem.pc]))
        refine plan_bin _ _ _ _ _ _ _ (.int .i64 ((j2:Int))) zr zr zr ze zr (fun wx=>o_isub _ _ _ _ (j:Int) 1 (j2:Int) (by have:=J2.out;omega) (by omega) (by have:=J2.out;omega) wx) ?_
        (simp only [Mem.zp,Mem.pb,Mem.pc])
        refine plan_index_z 29 125 _ _ b1 o1 nC cc 2 j2 zr zr zr ze ze (by omega) Tryz.underlying29 (by kernel_rfl) ?_
        (simp only [Mem.zp,Mem.pb,Mem.pc])
        refine plan_field 125 _ 0 b1 (o1+j2*2) ⟨b1,o1+j2*2,none⟩ zr zr zr ze (fun wx=>by go_simp) ?_
        (simp only [Mem.zp,Mem.pb,Mem.pc])
        refine plan_cell 3 _ _ (.int .i64 zp) _ zr zr zr ze (fun w' hw'=>(hw'.cell (p:=⟨b1,o1+j2*2,none⟩) LB1.out).trans CP2.out) Tryz.underlying3 zr ?_
        (simp only [Mem.zp,Mem.pb,Mem.pc])
        iterate 2 ((first | refine Mem.pm1 ?_ | refine Mem.pm2 ?_ | refine Mem.pt ?_ | refine Mem.pf ?_);(simp only [Mem.zp,Mem.pb,Mem.pc]))
        refine plan_index_z 29 125 _ _ b1 o1 nC cc 2 j zr zr zr ze ze (by omega) Tryz.underlying29 (by kernel_rfl) ?_
        (simp only [Mem.zp,Mem.pb,Mem.pc])
        refine plan_field 125 _ 0 b1 (o1+j*2) ⟨b1,o1+j*2,none⟩ zr zr zr ze (fun wx=>by go_simp) ?_
        (simp only [Mem.zp,Mem.pb,Mem.pc])
        refine plan_cell 3 _ _ (.int .i64 z) _ zr zr zr ze (fun w' hw'=>(hw'.cell (p:=⟨b1,o1+j*2,none⟩) LB1.out).trans CZ.out) Tryz.underlying3 zr ?_
        (simp only [Mem.zp,Mem.pb,Mem.pc])
        refine plan_bin _ _ _ _ _ _ _ (.bool false) zr zr zr ze ze (fun wx=>o_ige1 zp z false GP.out _ _ _ _ wx) ?_
        (simp only [Mem.zp,Mem.pb,Mem.pc])
        refine plan_pick_t _ _ _ _ zr zr zr ze ze ?_
        (simp only [Mem.zp,Mem.pb,Mem.pc])
        refine plan_pick_f _ _ _ _ zr zr zr ze ze ?_
        (simp only [Mem.zp,Mem.pb,Mem.pc])
        iterate 3 ((first | refine Mem.pm1 ?_ | refine Mem.pm2 ?_ | refine Mem.pt ?_ | refine Mem.pf ?_);(simp only [Mem.zp,Mem.pb,Mem.pc]))
        refine plan_index_z 29 125 _ _ b1 o1 nC cc 2 j zr zr zr ze ze (by omega) Tryz.underlying29 (by kernel_rfl) ?_
        (simp only [Mem.zp,Mem.pb,Mem.pc])
        refine plan_field 125 _ 1 b1 (o1+j*2) ⟨b1,o1+j*2+1,none⟩ zr zr zr ze (fun wx=>by go_simp) ?_
        (simp only [Mem.zp,Mem.pb,Mem.pc])
        refine plan_cell 63 _ _ (.slice a3 m c3) _ zr zr zr ze (fun w' hw'=>(hw'.cell (p:=⟨b1,o1+j*2+1,none⟩) LB1.out).trans CU.out) Tryz.underlying63 zr ?_
        (simp only [Mem.zp,Mem.pb,Mem.pc])
        refine plan_len _ _ _ _ m _ zr zr zr zr ze (fun wx=>by go_simp) ?_
        (simp only [Mem.zp,Mem.pb,Mem.pc])
        refine plan_bin _ _ _ _ _ _ _ (.bool false) zr zr zr ze zr (fun wx=>o_ineq (m:Int) 256 N4.out _ _ _ _ wx) ?_
        (simp only [Mem.zp,Mem.pb,Mem.pc])
        refine plan_pick_f _ _ _ _ zr zr zr ze ze ?_
        (simp only [Mem.zp,Mem.pb,Mem.pc])
        refine plan_nil ?_
        go_wp2_with fail
        go_roundw
        case rel=>exact ⟨j+1,by omega,by go_num,NX.out,BW.out.drew,AW.out⟩
        case measure=>simp [intOf];omega
       ·have HY:=zh (NO0.out (RNJ.out fun h=>by have:=(OKJ.out.1 h).2.1;omega))
        have N4:=zh g4
        clear g1 g2 g3 g4 gj hj2
        go_upto_region 4 with fail
        refine wp_region_plan_in (fun x'=>Below wr.heap.size wr x') (.take 0 (.take 1 (.take 2 (.take 3 (.take 4 (.take 5 (.take 6 (.take 7 (.take 8 (.take 9 (.take 10 (.take 11 (.take 12 (.take 13 (.take 14 (.take 15 (.take 16 (.take 17 (.take 18 (.take 19 (.take 20 (.take 21 (.take 22 (.take 23 (.take 24 (.take 25 (.take 26 (.take 27 (.take 28 (.take 29 (.take 30 (.take 31 (.take 32 (.take 33 (.take 34 (.take 35 (.take 36 (.take 37 (.take 38 (.take 39 (.take 40 (.take 41 (.take 42 .done))))))))))))))))))))))))))))))))))))))))))) (by kernel_rfl) (by kernel_rfl) (by kernel_rfl) (Below.refl _ _).drew ?_
        iterate 2 ((first | refine Mem.pm1 ?_ | refine Mem.pm2 ?_ | refine Mem.pt ?_ | refine Mem.pf ?_);(simp only [Mem.zp,Mem.pb,Mem.pc]))
        refine plan_index_z 29 125 _ _ b1 o1 nC cc 2 j zr zr zr ze ze (by omega) Tryz.underlying29 (by kernel_rfl) ?_
        (simp only [Mem.zp,Mem.pb,Mem.pc])
        refine plan_field 125 _ 0 b1 (o1+j*2) ⟨b1,o1+j*2,none⟩ zr zr zr ze (fun wx=>by go_simp) ?_
        (simp only [Mem.zp,Mem.pb,Mem.pc])
        refine plan_cell 3 _ _ (.int .i64 z) _ zr zr zr ze (fun w' hw'=>(hw'.cell (p:=⟨b1,o1+j*2,none⟩) LB1.out).trans CZ.out) Tryz.underlying3 zr ?_
        (simp only [Mem.zp,Mem.pb,Mem.pc])
        refine plan_bin _ _ _ _ _ _ _ (.bool false) zr zr zr ze zr (fun wx=>o_ilt1 z 0 false LT.out _ _ _ _ wx) ?_
        (simp only [Mem.zp,Mem.pb,Mem.pc])
        iterate 3 ((first | refine Mem.pm1 ?_ | refine Mem.pm2 ?_ | refine Mem.pt ?_ | refine Mem.pf ?_);(simp only [Mem.zp,Mem.pb,Mem.pc]))
        refine plan_index_z 29 125 _ _ b1 o1 nC cc 2 j zr zr zr ze ze (by omega) Tryz.underlying29 (by kernel_rfl) ?_
        (simp only [Mem.zp,Mem.pb,Mem.pc])
        refine plan_field 125 _ 0 b1 (o1+j*2) ⟨b1,o1+j*2,none⟩ zr zr zr ze (fun wx=>by go_simp) ?_
        (simp only [Mem.zp,Mem.pb,Mem.pc])
        refine plan_cell 3 _ _ (.int .i64 z) _ zr zr zr ze (fun w' hw'=>(hw'.cell (p:=⟨b1,o1+j*2,none⟩) LB1.out).trans CZ.out) Tryz.underlying3 zr ?_
        (simp only [Mem.zp,Mem.pb,Mem.pc])
        refine plan_field 37 _ 0 w.heap.size 0 ⟨w.heap.size,0,none⟩ zr zr zr ze (fun wx=>by go_simp) ?_
        (simp only [Mem.zp,Mem.pb,Mem.pc])
        refine plan_cell 3 _ _ (.int .i64 ((p:Int))) _ zr zr zr ze (fun w' hw'=>(hw'.cell (p:=⟨w.heap.size,0,none⟩) AW.out.lt).trans CM.out) Tryz.underlying3 zr ?_
        (simp only [Mem.zp,Mem.pb,Mem.pc])
        refine plan_bin _ _ _ _ _ _ _ (.bool false) zr zr zr ze ze (fun wx=>o_ige1 z (p:Int) false GE.out _ _ _ _ wx) ?_
        (simp only [Mem.zp,Mem.pb,Mem.pc])
        refine plan_pick_f _ _ _ _ zr zr zr ze ze ?_
        (simp only [Mem.zp,Mem.pb,Mem.pc])
        iterate 2 ((first | refine Mem.pm1 ?_ | refine Mem.pm2 ?_ | refine Mem.pt ?_ | refine Mem.pf ?_);(simp only [Mem.zp,Mem.pb,Mem.pc]))
        refine plan_bin _ _ _ _ _ _ _ (.bool true) zr zr zr ze zr (fun wx=>o_igt1 (j:Int) 0 true GJ.out _ _ _ _ wx) ?_
        (simp only [Mem.zp,Mem.pb,Mem.pc])
        iterate 3 ((first | refine Mem.pm1 ?_ | refine Mem.pm2 ?_ | refine Mem.pt ?_ | refine Mem.pf ?_);(simp only [Mem.zp,Mem.pb,Mem.pc]))
        refine plan_bin _ _ _ _ _ _ _ (.int .i64 ((j2:Int))) zr zr zr ze zr (fun wx=>o_isub _ _ _ _ (j:Int) 1 (j2:Int) (by have:=J2.out;omega) (by omega) (by have:=J2.out;omega) wx) ?_
        (simp only [Mem.zp,Mem.pb,Mem.pc])
        refine plan_index_z 29 125 _ _ b1 o1 nC cc 2 j2 zr zr zr ze ze (by omega) Tryz.underlying29 (by kernel_rfl) ?_
        (simp only [Mem.zp,Mem.pb,Mem.pc])
        refine plan_field 125 _ 0 b1 (o1+j2*2) ⟨b1,o1+j2*2,none⟩ zr zr zr ze (fun wx=>by go_simp) ?_
        (simp only [Mem.zp,Mem.pb,Mem.pc])
        refine plan_cell 3 _ _ (.int .i64 zp) _ zr zr zr ze (fun w' hw'=>(hw'.cell (p:=⟨b1,o1+j2*2,none⟩) LB1.out).trans CP2.out) Tryz.underlying3 zr ?_
        (simp only [Mem.zp,Mem.pb,Mem.pc])
        iterate 2 ((first | refine Mem.pm1 ?_ | refine Mem.pm2 ?_ | refine Mem.pt ?_ | refine Mem.pf ?_);(simp only [Mem.zp,Mem.pb,Mem.pc]))
        refine plan_index_z 29 125 _ _ b1 o1 nC cc 2 j zr zr zr ze ze (by omega) Tryz.underlying29 (by kernel_rfl) ?_
        (simp only [Mem.zp,Mem.pb,Mem.pc])
        refine plan_field 125 _ 0 b1 (o1+j*2) ⟨b1,o1+j*2,none⟩ zr zr zr ze (fun wx=>by go_simp) ?_
        (simp only [Mem.zp,Mem.pb,Mem.pc])
        refine plan_cell 3 _ _ (.int .i64 z) _ zr zr zr ze (fun w' hw'=>(hw'.cell (p:=⟨b1,o1+j*2,none⟩) LB1.out).trans CZ.out) Tryz.underlying3 zr ?_
        (simp only [Mem.zp,Mem.pb,Mem.pc])
        refine plan_bin _ _ _ _ _ _ _ (.bool false) zr zr zr ze ze (fun wx=>o_ige1 zp z false GP.out _ _ _ _ wx) ?_
        (simp only [Mem.zp,Mem.pb,Mem.pc])
        refine plan_pick_t _ _ _ _ zr zr zr ze ze ?_
        (simp only [Mem.zp,Mem.pb,Mem.pc])
        refine plan_pick_f _ _ _ _ zr zr zr ze ze ?_
        (simp only [Mem.zp,Mem.pb,Mem.pc])
        iterate 3 ((first | refine Mem.pm1 ?_ | refine Mem.pm2 ?_ | refine Mem.pt ?_ | refine Mem.pf ?_);(simp only [Mem.zp,Mem.pb,Mem.pc]))
        refine plan_index_z 29 125 _ _ b1 o1 nC cc 2 j zr zr zr ze ze (by omega) Tryz.underlying29 (by kernel_rfl) ?_
        (simp only [Mem.zp,Mem.pb,Mem.pc])
        refine plan_field 125 _ 1 b1 (o1+j*2) ⟨b1,o1+j*2+1,none⟩ zr zr zr ze (fun wx=>by go_simp) ?_
        (simp only [Mem.zp,Mem.pb,Mem.pc])
        refine plan_cell 63 _ _ (.slice a3 m c3) _ zr zr zr ze (fun w' hw'=>(hw'.cell (p:=⟨b1,o1+j*2+1,none⟩) LB1.out).trans CU.out) Tryz.underlying63 zr ?_
        (simp only [Mem.zp,Mem.pb,Mem.pc])
        refine plan_len _ _ _ _ m _ zr zr zr zr ze (fun wx=>by go_simp) ?_
        (simp only [Mem.zp,Mem.pb,Mem.pc])
        refine plan_bin _ _ _ _ _ _ _ (.bool true) zr zr zr ze zr (fun wx=>o_inet1 (m:Int) 256 N4.out _ _ _ _ wx) ?_
        (simp only [Mem.zp,Mem.pb,Mem.pc])
        refine plan_pick_f _ _ _ _ zr zr zr ze ze ?_
        (simp only [Mem.zp,Mem.pb,Mem.pc])
        refine plan_nil ?_
        go_wp2_with fail
        go_ret
        exact ⟨by rw [HY.out];rfl,BW.out.drew⟩
     ·have GJ:Hid (decide ((0:Int) < (j:Int))=false):=zh (decide_eq_false (by omega))
      by_cases g4:(m:Int)=256
      ·have N4:=zh g4
       have NX:=zh (NXJ.out (OKJ.out.2 ⟨⟨by omega,by omega⟩,by omega,fun h=>absurd h gj⟩))
       clear g1 g2 g4 gj
       go_upto_region 4 with fail
       refine wp_region_plan_in (fun x'=>Below wr.heap.size wr x') (.take 0 (.take 1 (.take 2 (.take 3 (.take 4 (.take 5 (.take 6 (.take 7 (.take 8 (.take 9 (.take 10 (.take 11 (.take 12 (.take 13 (.take 14 (.take 15 (.take 16 (.take 17 (.take 18 (.take 19 (.take 20 (.take 21 (.take 22 (.take 23 (.take 24 (.take 25 (.take 26 (.take 27 (.take 28 (.take 29 (.take 30 (.take 31 (.take 32 (.take 33 (.take 34 (.take 35 (.take 36 (.take 37 (.take 38 (.take 39 (.take 40 (.take 41 (.take 42 .done))))))))))))))))))))))))))))))))))))))))))) (by kernel_rfl) (by kernel_rfl) (by kernel_rfl) (Below.refl _ _).drew ?_
       iterate 2 ((first | refine Mem.pm1 ?_ | refine Mem.pm2 ?_ | refine Mem.pt ?_ | refine Mem.pf ?_);(simp only [Mem.zp,Mem.pb,Mem.pc]))
       refine plan_index_z 29 125 _ _ b1 o1 nC cc 2 j zr zr zr ze ze (by omega) Tryz.underlying29 (by kernel_rfl) ?_
       (simp only [Mem.zp,Mem.pb,Mem.pc])
       refine plan_field 125 _ 0 b1 (o1+j*2) ⟨b1,o1+j*2,none⟩ zr zr zr ze (fun wx=>by go_simp) ?_
       (simp only [Mem.zp,Mem.pb,Mem.pc])
       refine plan_cell 3 _ _ (.int .i64 z) _ zr zr zr ze (fun w' hw'=>(hw'.cell (p:=⟨b1,o1+j*2,none⟩) LB1.out).trans CZ.out) Tryz.underlying3 zr ?_
       (simp only [Mem.zp,Mem.pb,Mem.pc])
       refine plan_bin _ _ _ _ _ _ _ (.bool false) zr zr zr ze zr (fun wx=>o_ilt1 z 0 false LT.out _ _ _ _ wx) ?_
       (simp only [Mem.zp,Mem.pb,Mem.pc])
       iterate 3 ((first | refine Mem.pm1 ?_ | refine Mem.pm2 ?_ | refine Mem.pt ?_ | refine Mem.pf ?_);(simp only [Mem.zp,Mem.pb,Mem.pc]))
       refine plan_index_z 29 125 _ _ b1 o1 nC cc 2 j zr zr zr ze ze (by omega) Tryz.underlying29 (by kernel_rfl) ?_
       (simp only [Mem.zp,Mem.pb,Mem.pc])
       refine plan_field 125 _ 0 b1 (o1+j*2) ⟨b1,o1+j*2,none⟩ zr zr zr ze (fun wx=>by go_simp) ?_
       (simp only [Mem.zp,Mem.pb,Mem.pc])
       refine plan_cell 3 _ _ (.int .i64 z) _ zr zr zr ze (fun w' hw'=>(hw'.cell (p:=⟨b1,o1+j*2,none⟩) LB1.out).trans CZ.out) Tryz.underlying3 zr ?_
       (simp only [Mem.zp,Mem.pb,Mem.pc])
       refine plan_field 37 _ 0 w.heap.size 0 ⟨w.heap.size,0,none⟩ zr zr zr ze (fun wx=>by go_simp) ?_
       (simp only [Mem.zp,Mem.pb,Mem.pc])
       refine plan_cell 3 _ _ (.int .i64 ((p:Int))) _ zr zr zr ze (fun w' hw'=>(hw'.cell (p:=⟨w.heap.size,0,none⟩) AW.out.lt).trans CM.out) Tryz.underlying3 zr ?_
       (simp only [Mem.zp,Mem.pb,Mem.pc])
       refine plan_bin _ _ _ _ _ _ _ (.bool false) zr zr zr ze ze (fun wx=>o_ige1 z (p:Int) false GE.out _ _ _ _ wx) ?_
       (simp only [Mem.zp,Mem.pb,Mem.pc])
       refine plan_pick_f _ _ _ _ zr zr zr ze ze ?_
       (simp only [Mem.zp,Mem.pb,Mem.pc])
       iterate 2 ((first | refine Mem.pm1 ?_ | refine Mem.pm2 ?_ | refine Mem.pt ?_ | refine Mem.pf ?_);(simp only [Mem.zp,Mem.pb,Mem.pc]))
       refine plan_bin _ _ _ _ _ _ _ (.bool false) zr zr zr ze zr (fun wx=>o_igt1 (j:Int) 0 false GJ.out _ _ _ _ wx) ?_
       (simp only [Mem.zp,Mem.pb,Mem.pc])
       (first | refine Mem.pm1 ?_ | refine Mem.pm2 ?_ | refine Mem.pt ?_ | refine Mem.pf ?_)
       (simp only [Mem.zp,Mem.pb,Mem.pc])
       refine plan_skip zr zr ?_
       (simp only [Mem.zp,Mem.pb,Mem.pc])
       refine plan_skip zr zr ?_
       (simp only [Mem.zp,Mem.pb,Mem.pc])
       refine plan_skip zr zr ?_
       (simp only [Mem.zp,Mem.pb,Mem.pc])
       refine plan_skip zr zr ?_
       (simp only [Mem.zp,Mem.pb,Mem.pc])
       refine plan_skip zr zr ?_
       (simp only [Mem.zp,Mem.pb,Mem.pc])
       refine plan_skip zr zr ?_
       (simp only [Mem.zp,Mem.pb,Mem.pc])
       refine plan_skip zr zr ?_
       (simp only [Mem.zp,Mem.pb,Mem.pc])
       refine plan_skip zr zr ?_
       (simp only [Mem.zp,Mem.pb,Mem.pc])
       refine plan_skip zr zr ?_
       (simp only [Mem.zp,Mem.pb,Mem.pc])
       refine plan_skip zr zr ?_
       (simp only [Mem.zp,Mem.pb,Mem.pc])
       refine plan_skip zr zr ?_
       (simp only [Mem.zp,Mem.pb,Mem.pc])
       refine plan_skip zr zr ?_
       (simp only [Mem.zp,Mem.pb,Mem.pc])
       refine plan_pick_f _ _ _ _ zr zr zr ze ze ?_
       (simp only [Mem.zp,Mem.pb,Mem.pc])
       refine plan_pick_f _ _ _ _ zr zr zr ze ze ?_
       (simp only [Mem.zp,Mem.pb,Mem.pc])
       iterate 3 ((first | refine Mem.pm1 ?_ | refine Mem.pm2 ?_ | refine Mem.pt ?_ | refine Mem.pf ?_);(simp only [Mem.zp,Mem.pb,Mem.pc]))
       refine plan_index_z 29 125 _ _ b1 o1 nC cc 2 j zr zr zr ze ze (by omega) Tryz.underlying29 (by kernel_rfl) ?_
       (simp only [Mem.zp,Mem.pb,Mem.pc])
       refine plan_field 125 _ 1 b1 (o1+j*2) ⟨b1,o1+j*2+1,none⟩ zr zr zr ze (fun wx=>by go_simp) ?_
       (simp only [Mem.zp,Mem.pb,Mem.pc])
       refine plan_cell 63 _ _ (.slice a3 m c3) _ zr zr zr ze (fun w' hw'=>(hw'.cell (p:=⟨b1,o1+j*2+1,none⟩) LB1.out).trans CU.out) Tryz.underlying63 zr ?_
       (simp only [Mem.zp,Mem.pb,Mem.pc])
       refine plan_len _ _ _ _ m _ zr zr zr zr ze (fun wx=>by go_simp) ?_
       (simp only [Mem.zp,Mem.pb,Mem.pc])
       refine plan_bin _ _ _ _ _ _ _ (.bool false) zr zr zr ze zr (fun wx=>o_ineq (m:Int) 256 N4.out _ _ _ _ wx) ?_
       (simp only [Mem.zp,Mem.pb,Mem.pc])
       refine plan_pick_f _ _ _ _ zr zr zr ze ze ?_
       (simp only [Mem.zp,Mem.pb,Mem.pc])
       refine plan_nil ?_
       go_wp2_with fail
       go_roundw
       case rel=>exact ⟨j+1,by omega,by go_num,NX.out,BW.out.drew,AW.out⟩
       case measure=>simp [intOf];omega
      ·have HY:=zh (NO0.out (RNJ.out fun h=>by have:=(OKJ.out.1 h).2.1;omega))
       have N4:=zh g4
       clear g1 g2 g4 gj
       go_upto_region 4 with fail
       refine wp_region_plan_in (fun x'=>Below wr.heap.size wr x') (.take 0 (.take 1 (.take 2 (.take 3 (.take 4 (.take 5 (.take 6 (.take 7 (.take 8 (.take 9 (.take 10 (.take 11 (.take 12 (.take 13 (.take 14 (.take 15 (.take 16 (.take 17 (.take 18 (.take 19 (.take 20 (.take 21 (.take 22 (.take 23 (.take 24 (.take 25 (.take 26 (.take 27 (.take 28 (.take 29 (.take 30 (.take 31 (.take 32 (.take 33 (.take 34 (.take 35 (.take 36 (.take 37 (.take 38 (.take 39 (.take 40 (.take 41 (.take 42 .done))))))))))))))))))))))))))))))))))))))))))) (by kernel_rfl) (by kernel_rfl) (by kernel_rfl) (Below.refl _ _).drew ?_
       iterate 2 ((first | refine Mem.pm1 ?_ | refine Mem.pm2 ?_ | refine Mem.pt ?_ | refine Mem.pf ?_);(simp only [Mem.zp,Mem.pb,Mem.pc]))
       refine plan_index_z 29 125 _ _ b1 o1 nC cc 2 j zr zr zr ze ze (by omega) Tryz.underlying29 (by kernel_rfl) ?_
       (simp only [Mem.zp,Mem.pb,Mem.pc])
       refine plan_field 125 _ 0 b1 (o1+j*2) ⟨b1,o1+j*2,none⟩ zr zr zr ze (fun wx=>by go_simp) ?_
       (simp only [Mem.zp,Mem.pb,Mem.pc])
       refine plan_cell 3 _ _ (.int .i64 z) _ zr zr zr ze (fun w' hw'=>(hw'.cell (p:=⟨b1,o1+j*2,none⟩) LB1.out).trans CZ.out) Tryz.underlying3 zr ?_
       (simp only [Mem.zp,Mem.pb,Mem.pc])
       refine plan_bin _ _ _ _ _ _ _ (.bool false) zr zr zr ze zr (fun wx=>o_ilt1 z 0 false LT.out _ _ _ _ wx) ?_
       (simp only [Mem.zp,Mem.pb,Mem.pc])
       iterate 3 ((first | refine Mem.pm1 ?_ | refine Mem.pm2 ?_ | refine Mem.pt ?_ | refine Mem.pf ?_);(simp only [Mem.zp,Mem.pb,Mem.pc]))
       refine plan_index_z 29 125 _ _ b1 o1 nC cc 2 j zr zr zr ze ze (by omega) Tryz.underlying29 (by kernel_rfl) ?_
       (simp only [Mem.zp,Mem.pb,Mem.pc])
       refine plan_field 125 _ 0 b1 (o1+j*2) ⟨b1,o1+j*2,none⟩ zr zr zr ze (fun wx=>by go_simp) ?_
       (simp only [Mem.zp,Mem.pb,Mem.pc])
       refine plan_cell 3 _ _ (.int .i64 z) _ zr zr zr ze (fun w' hw'=>(hw'.cell (p:=⟨b1,o1+j*2,none⟩) LB1.out).trans CZ.out) Tryz.underlying3 zr ?_
       (simp only [Mem.zp,Mem.pb,Mem.pc])
       refine plan_field 37 _ 0 w.heap.size 0 ⟨w.heap.size,0,none⟩ zr zr zr ze (fun wx=>by go_simp) ?_
       (simp only [Mem.zp,Mem.pb,Mem.pc])
       refine plan_cell 3 _ _ (.int .i64 ((p:Int))) _ zr zr zr ze (fun w' hw'=>(hw'.cell (p:=⟨w.heap.size,0,none⟩) AW.out.lt).trans CM.out) Tryz.underlying3 zr ?_
       (simp only [Mem.zp,Mem.pb,Mem.pc])
       refine plan_bin _ _ _ _ _ _ _ (.bool false) zr zr zr ze ze (fun wx=>o_ige1 z (p:Int) false GE.out _ _ _ _ wx) ?_
       (simp only [Mem.zp,Mem.pb,Mem.pc])
       refine plan_pick_f _ _ _ _ zr zr zr ze ze ?_
       (simp only [Mem.zp,Mem.pb,Mem.pc])
       iterate 2 ((first | refine Mem.pm1 ?_ | refine Mem.pm2 ?_ | refine Mem.pt ?_ | refine Mem.pf ?_);(simp only [Mem.zp,Mem.pb,Mem.pc]))
       refine plan_bin _ _ _ _ _ _ _ (.bool false) zr zr zr ze zr (fun wx=>o_igt1 (j:Int) 0 false GJ.out _ _ _ _ wx) ?_
       (simp only [Mem.zp,Mem.pb,Mem.pc])
       (first | refine Mem.pm1 ?_ | refine Mem.pm2 ?_ | refine Mem.pt ?_ | refine Mem.pf ?_)
       (simp only [Mem.zp,Mem.pb,Mem.pc])
       refine plan_skip zr zr ?_
       (simp only [Mem.zp,Mem.pb,Mem.pc])
       refine plan_skip zr zr ?_
       (simp only [Mem.zp,Mem.pb,Mem.pc])
       refine plan_skip zr zr ?_
       (simp only [Mem.zp,Mem.pb,Mem.pc])
       refine plan_skip zr zr ?_
       (simp only [Mem.zp,Mem.pb,Mem.pc])
       refine plan_skip zr zr ?_
       (simp only [Mem.zp,Mem.pb,Mem.pc])
       refine plan_skip zr zr ?_
       (simp only [Mem.zp,Mem.pb,Mem.pc])
       refine plan_skip zr zr ?_
       (simp only [Mem.zp,Mem.pb,Mem.pc])
       refine plan_skip zr zr ?_
       (simp only [Mem.zp,Mem.pb,Mem.pc])
       refine plan_skip zr zr ?_
       (simp only [Mem.zp,Mem.pb,Mem.pc])
       refine plan_skip zr zr ?_
       (simp only [Mem.zp,Mem.pb,Mem.pc])
       refine plan_skip zr zr ?_
       (simp only [Mem.zp,Mem.pb,Mem.pc])
       refine plan_skip zr zr ?_
       (simp only [Mem.zp,Mem.pb,Mem.pc])
       refine plan_pick_f _ _ _ _ zr zr zr ze ze ?_
       (simp only [Mem.zp,Mem.pb,Mem.pc])
       refine plan_pick_f _ _ _ _ zr zr zr ze ze ?_
       (simp only [Mem.zp,Mem.pb,Mem.pc])
       iterate 3 ((first | refine Mem.pm1 ?_ | refine Mem.pm2 ?_ | refine Mem.pt ?_ | refine Mem.pf ?_);(simp only [Mem.zp,Mem.pb,Mem.pc]))
       refine plan_index_z 29 125 _ _ b1 o1 nC cc 2 j zr zr zr ze ze (by omega) Tryz.underlying29 (by kernel_rfl) ?_
       (simp only [Mem.zp,Mem.pb,Mem.pc])
       refine plan_field 125 _ 1 b1 (o1+j*2) ⟨b1,o1+j*2+1,none⟩ zr zr zr ze (fun wx=>by go_simp) ?_
       (simp only [Mem.zp,Mem.pb,Mem.pc])
       refine plan_cell 63 _ _ (.slice a3 m c3) _ zr zr zr ze (fun w' hw'=>(hw'.cell (p:=⟨b1,o1+j*2+1,none⟩) LB1.out).trans CU.out) Tryz.underlying63 zr ?_
       (simp only [Mem.zp,Mem.pb,Mem.pc])
       refine plan_len _ _ _ _ m _ zr zr zr zr ze (fun wx=>by go_simp) ?_
       (simp only [Mem.zp,Mem.pb,Mem.pc])
       refine plan_bin _ _ _ _ _ _ _ (.bool true) zr zr zr ze zr (fun wx=>o_inet1 (m:Int) 256 N4.out _ _ _ _ wx) ?_
       (simp only [Mem.zp,Mem.pb,Mem.pc])
       refine plan_pick_f _ _ _ _ zr zr zr ze ze ?_
       (simp only [Mem.zp,Mem.pb,Mem.pc])
       refine plan_nil ?_
       go_wp2_with fail
       go_ret
       exact ⟨by rw [HY.out];rfl,BW.out.drew⟩
  ·have hjn:j=nC:=by omega
   subst hjn
   have HR:=zh (RYES.out AL.out)
   have hge:¬ (j:Int) < (j:Int):=by omega
   clear AL
   go_upto_region 6 with fail
   refine wp_region_plan_in (fun x'=>Below wr.heap.size wr x') (.take 0 (.take 1 (.sole 2 (.sole 3 (.take 4 .done))))) (by kernel_rfl) (by kernel_rfl) (by kernel_rfl) (Below.refl _ _).drew ?_
   refine plan_row 37 _ w.heap.size _ M 37 zr zr zr ze (fun w' hw'=>AW.out.below hw' AW.out.lt) Tryz.underlying37 zr (by rw [MS.out];exact infoRS) ?_
   (simp only [Mem.zp,Mem.pb,Mem.pc])
   (first | refine Mem.pm1 ?_ | refine Mem.pm2 ?_ | refine Mem.pt ?_ | refine Mem.pf ?_)
   (simp only [Mem.zp,Mem.pb,Mem.pc])
   refine plan_call 59 _ _ _ (by kernel_rfl) zr zr zr (by first | exact Mem.ev_none _ | (simp only [List.map_toArray,List.map_cons,List.map_nil,Mem.ev_tmp,List.getD_cons_succ,List.getD_cons_zero] <;> rfl)) ?_
   refine (PGS.out _ (HVC.out.below BW.out.drew)).mono ?_
   rintro e8 wy ⟨v8,rfl,ho8,hb8⟩
   have D1:Hid (Below wr.heap.size wr wy):=zh ((Below.refl _ _).drew.trans hb8)
   have S8:=zh (ownV_sli ho8)
   clear ho8 hb8
   refine ⟨_,rfl,D1.out,?_⟩
   (simp only [Mem.zp,Mem.pb,Mem.pc])
   refine plan_call 58 _ _ _ (by kernel_rfl) zr zr zr (by first | exact Mem.ev_none _ | (simp only [List.map_toArray,List.map_cons,List.map_nil,Mem.ev_tmp,List.getD_cons_succ,List.getD_cons_zero] <;> rfl)) ?_
   refine (NDD.out v8 wy (HRS.out.below (BW.out.trans (D1.out.mono BW.out.size))) S8.out).mono ?_
   rintro e9 wz ⟨v9,rfl,ho9,hb9⟩
   have D2:Hid (Below wr.heap.size wr wz):=zh (D1.out.trans (hb9.mono D1.out.size))
   have S3:=zh (ownV_sli ho9)
   clear ho9 hb9
   refine ⟨_,rfl,D2.out,?_⟩
   (simp only [Mem.zp,Mem.pb,Mem.pc])
   (first | refine Mem.pm1 ?_ | refine Mem.pm2 ?_ | refine Mem.pt ?_ | refine Mem.pf ?_)
   (simp only [Mem.zp,Mem.pb,Mem.pc])
   refine plan_nil ?_
   have A3:=zh (AW.out.below D2.out AW.out.lt);have B3:=zh (BW.out.trans (D2.out.mono BW.out.size))
   obtain ⟨a3,c3,e3⟩:=S3.out.hd
   subst e3
   rw [←HNN.out] at S3 ⊢
   clear D2 AW BW
   go_wp2_with fail
   go_loopw [9] (fun vi wr=>∃ j:Nat,j≤n∧vi=.int .i64 (j:Int)∧(∀ j',j' < j→∀ i:Nat,KS.getD j' 0=(i:Int)→nodeOk p N i=true)∧Below w.heap.size w wr∧At wr w.heap.size M 37∧SlI wr (.slice a3 n c3) KS) (fun vi _=>n - (intOf vi).toNat)
   case atStart=>exact ⟨0,by omega,rfl,fun j' h=>by omega,B3.out,A3.out,S3.out⟩
   case round=>
    obtain ⟨j,hj,rfl,hal,hbw,haw,hs⟩:=hrel
    have BW:=zh hbw;have AW:=zh haw;have AL:=zh hal;have SW:=zh hs
    clear hal hbw haw hs
    by_cases hlt:j < n
    ·have hlt':(j:Int) < (n:Int):=by omega
     obtain ⟨i,hi,_,hit,_,hpi⟩:=GT.out j hlt
     obtain ⟨b1,o1,e1,hlb,cx0⟩:=sli_at (i:=j) SW.out HNN.out hlt
     subst e1
     rw [hi] at cx0
     have fdi:=fun wx h=>FD.out (i:Int) wx h
     have kdi:=fun wx h=>KD.out (i:Int) wx h
     have hln:=KZN.out i hpi hit
     have hm1:=MP.out i hpi hit
     have hoki:=OK.out i
     have hfn:=FN.out (i:Int)
     have hnoi:=fun h=>NO.out j i hlt hi h
     have hali:nodeOk p N i=true→∀ j',j' < j+1→∀ i:Nat,KS.getD j' 0=(i:Int)→nodeOk p N i=true:=fun h j' hj' i' hi'=>by
      rcases Nat.lt_or_ge j' j with g | g
      ·exact AL.out j' g i' hi'
      ·have:j'=j:=by omega
       subst this
       have:i'=i:=by omega
       rw [this];exact h
     have hwl:=FW.out (i:Int)
     have h6:=M6.out i
     obtain ⟨RL,hRL⟩:∃ R,R=findD N (i:Int):=⟨_,rfl⟩
     obtain ⟨q0,hq0⟩:∃ q,q=(findT N (i:Int)).isSome:=⟨_,rfl⟩
     rw [←hRL,←hq0] at fdi hfn
     rw [←hRL] at hoki hwl
     have hal1:=fun h=>all_plOk RL h
     have hal2:=fun k hk h=>not_plOk RL k hk h
     obtain ⟨KK,hKK⟩:∃ K,K=KZ p (i:Int):=⟨_,rfl⟩
     rw [←hKK] at kdi hln
     obtain ⟨m,hm⟩:∃ m,m=many p i:=⟨_,rfl⟩
     rw [←hm] at hln hoki h6 hm1
     obtain ⟨l,hl⟩:∃ l,l=RL.length:=⟨_,rfl⟩
     rw [←hl] at hoki hal1 hal2
     obtain ⟨q,hq⟩:∃ q,q=RL.all plOk:=⟨_,rfl⟩
     rw [←hq] at hoki hal1 hal2
     obtain ⟨NK,hNK⟩:∃ K,K=nodeOk p N i:=⟨_,rfl⟩
     rw [←hNK] at hoki hnoi hali
     have FDI:=zh fdi;have KDI:=zh kdi;have HLN:=zh hln;have OKI:=zh hoki;have NOI:=zh hnoi;have ALI:=zh hali;have HL:=zh hl;have WLL:=zh hwl;have FNI:=zh hfn;have HM1:=zh hm1;have AL1:=zh hal1;have AL2:=zh hal2;have LB1:=zh hlb
     clear fdi kdi hln hoki hnoi hali hRL hq0 hKK hm hl hq hNK hlb hwl hpi hit hfn hm1 hal1 hal2
     obtain ⟨z,hz⟩:∃ z:Int,z=(i:Int):=⟨_,rfl⟩
     rw [←hz] at cx0 FDI KDI
     have CX0:=zh cx0
     clear hz hi
     go_wp2_with fail
     refine (FDI.out _ (HVN.out.below BW.out)).mono ?_
     rintro e w4 ⟨v4,rfl,ho4,hb4⟩
     have R4:=zh ho4;have B4:=zh (BW.out.trans (hb4.mono BW.out.size));have A4:=zh (AW.out.below hb4 AW.out.lt);have S4:=zh (SW.out.below hb4)
     have C4:Hid (w4.cell? ⟨b1,o1+j,none⟩=some (.int .i64 z)):=zh ((hb4.cell (p:=⟨b1,o1+j,none⟩) LB1.out).trans CX0.out)
     have LB4:Hid (b1 < w4.heap.size):=zh (Nat.lt_of_lt_of_le LB1.out hb4.size)
     have RS4:=zh (HRS.out.below B4.out)
     clear ho4 hb4 cx0 CX0 LB1
     obtain ⟨a4,c4,e4⟩:=R4.out.hdn HL.out.symm
     subst e4
     go_upto_region 11 with fail
     cases q0 with
     | false=>
      have HY:=zh (NOI.out (by rw [OKI.out,decide_eq_false (by have:=FNI.out rfl;have h2:=HL.out;rw [this] at h2;have:=HM1.out;simp at h2;omega)];simp))
      refine wp_region_plan_in (fun x'=>Below w4.heap.size w4 x') (.take 0 (.take 1 (.take 2 (.take 3 (.take 4 (.take 5 (.take 6 (.take 7 (.take 8 (.take 9 (.sole 10 (.take 11 (.take 12 (.take 13 .done)))))))))))))) (by kernel_rfl) (by kernel_rfl) (by kernel_rfl) (Below.refl _ _).drew ?_
      (first | refine Mem.pm1 ?_ | refine Mem.pm2 ?_ | refine Mem.pt ?_ | refine Mem.pf ?_)
      (simp only [Mem.zp,Mem.pb,Mem.pc])
      refine plan_not _ _ false zr zr zr ze ?_
      rw [show (!false)=true from rfl]
      (simp only [Mem.zp,Mem.pb,Mem.pc])
      (first | refine Mem.pm1 ?_ | refine Mem.pm2 ?_ | refine Mem.pt ?_ | refine Mem.pf ?_)
      (simp only [Mem.zp,Mem.pb,Mem.pc])
      refine plan_skip zr zr ?_
      (simp only [Mem.zp,Mem.pb,Mem.pc])
      refine plan_skip zr zr ?_
      (simp only [Mem.zp,Mem.pb,Mem.pc])
      refine plan_skip zr zr ?_
      (simp only [Mem.zp,Mem.pb,Mem.pc])
      refine plan_skip zr zr ?_
      (simp only [Mem.zp,Mem.pb,Mem.pc])
      refine plan_skip zr zr ?_
      (simp only [Mem.zp,Mem.pb,Mem.pc])
      refine plan_skip zr zr ?_
      (simp only [Mem.zp,Mem.pb,Mem.pc])
      refine plan_skip zr zr ?_
      (simp only [Mem.zp,Mem.pb,Mem.pc])
      refine plan_sole_skip zr zr (Below.refl _ _).drew ?_
      (simp only [Mem.zp,Mem.pb,Mem.pc])
      refine plan_skip zr zr ?_
      (simp only [Mem.zp,Mem.pb,Mem.pc])
      refine plan_skip zr zr ?_
      (simp only [Mem.zp,Mem.pb,Mem.pc])
      refine plan_pick_t _ _ _ _ zr zr zr ze ze ?_
      (simp only [Mem.zp,Mem.pb,Mem.pc])
      refine plan_nil ?_
      go_wp2_with fail
      go_ret
      exact ⟨by rw [HY.out];rfl,B4.out.drew⟩
     | true=>
      by_cases hlm:l=m
      ·have N4:Hid ((l:Int)=(m:Int)):=zh (by rw [hlm])
       refine wp_region_plan_in (fun x'=>Below w4.heap.size w4 x') (.take 0 (.take 1 (.take 2 (.take 3 (.take 4 (.take 5 (.take 6 (.take 7 (.take 8 (.take 9 (.sole 10 (.take 11 (.take 12 (.take 13 .done)))))))))))))) (by kernel_rfl) (by kernel_rfl) (by kernel_rfl) (Below.refl _ _).drew ?_
       (first | refine Mem.pm1 ?_ | refine Mem.pm2 ?_ | refine Mem.pt ?_ | refine Mem.pf ?_)
       (simp only [Mem.zp,Mem.pb,Mem.pc])
       refine plan_not _ _ true zr zr zr ze ?_
       rw [show (!true)=false from rfl]
       (simp only [Mem.zp,Mem.pb,Mem.pc])
       iterate 2 ((first | refine Mem.pm1 ?_ | refine Mem.pm2 ?_ | refine Mem.pt ?_ | refine Mem.pf ?_);(simp only [Mem.zp,Mem.pb,Mem.pc]))
       refine plan_len _ _ _ _ l _ zr zr zr zr ze (fun wx=>by go_simp) ?_
       (simp only [Mem.zp,Mem.pb,Mem.pc])
       refine plan_row 37 _ w.heap.size _ M 37 zr zr zr ze (fun w' hw'=>A4.out.below hw' A4.out.lt) Tryz.underlying37 zr (by rw [MS.out];exact infoRS) ?_
       (simp only [Mem.zp,Mem.pb,Mem.pc])
       iterate 2 ((first | refine Mem.pm1 ?_ | refine Mem.pm2 ?_ | refine Mem.pt ?_ | refine Mem.pf ?_);(simp only [Mem.zp,Mem.pb,Mem.pc]))
       refine plan_index 35 3 _ _ b1 o1 n c3 j zr zr zr ze ze (by omega) Tryz.underlying35 (by kernel_rfl) ?_
       (simp only [Mem.zp,Mem.pb,Mem.pc])
       refine plan_cell 3 _ _ (.int .i64 z) _ zr zr zr ze (fun w' hw'=>(hw'.cell (p:=⟨b1,o1+j,none⟩) LB4.out).trans C4.out) Tryz.underlying3 zr ?_
       (simp only [Mem.zp,Mem.pb,Mem.pc])
       refine plan_call 62 _ _ _ (by kernel_rfl) zr zr zr (by first | exact Mem.ev_none _ | (simp only [List.map_toArray,List.map_cons,List.map_nil,Mem.ev_tmp,List.getD_cons_succ,List.getD_cons_zero] <;> rfl)) ?_
       refine (KDI.out _ (RS4.out.below (Below.refl _ _).drew)).mono ?_
       rintro e8 wy ⟨v8,rfl,ho8,hb8⟩
       obtain ⟨a5,c5,e5⟩:=ho8.hd
       subst e5
       rw [HLN.out]
       have D1:Hid (Below w4.heap.size w4 wy):=zh ((Below.refl _ _).drew.trans hb8)
       clear ho8 hb8
       refine ⟨_,rfl,D1.out,?_⟩
       (simp only [Mem.zp,Mem.pb,Mem.pc])
       refine plan_len _ _ _ _ m _ zr zr zr zr ze (fun wx=>by go_simp) ?_
       (simp only [Mem.zp,Mem.pb,Mem.pc])
       refine plan_bin _ _ _ _ _ _ _ (.bool false) zr zr zr ze ze (fun wx=>o_ineq (l:Int) (m:Int) N4.out _ _ _ _ wx) ?_
       (simp only [Mem.zp,Mem.pb,Mem.pc])
       refine plan_pick_f _ _ _ _ zr zr zr ze ze ?_
       (simp only [Mem.zp,Mem.pb,Mem.pc])
       refine plan_nil ?_
       have A5:=zh (A4.out.below D1.out A4.out.lt);have B5:=zh (B4.out.trans (D1.out.mono B4.out.size));have S5:=zh (S4.out.below D1.out);have R5:=zh (R4.out.below D1.out)
       have OK2:Hid (NK=q):=zh (by rw [OKI.out,decide_eq_true hlm,Bool.true_and])
       have hl6:l≤6:=by omega
       clear hlm N4 A4 B4 S4 R4 C4 LB4 RS4 D1
       go_wp2_with fail
       go_loopw [12] (fun vi wr=>∃ k:Nat,k≤l∧vi=.int .i64 (k:Int)∧(∀ k',k' < k→plOk (RL.getD k' zref)=true)∧Below w.heap.size w wr∧At wr w.heap.size M 37∧SlI wr (.slice (some ⟨b1,o1,none⟩) n c3) KS∧SlRf wr (.slice a4 l c4) RL) (fun vi _=>l - (intOf vi).toNat)
       case atStart=>exact ⟨0,by omega,rfl,fun j' h=>by omega,B5.out,A5.out,S5.out,R5.out⟩
       case round=>
        obtain ⟨k,hk,rfl,hal,hbw,haw,hs,hr⟩:=hrel
        have BW:=zh hbw;have AW:=zh haw;have AK:=zh hal;have SW:=zh hs;have RW:=zh hr
        clear hal hbw haw hs hr
        by_cases hkl:k < l
        ·have hkl':(k:Int) < (l:Int):=by omega
         obtain ⟨b2,o2,e2,hlb2,hrg⟩:=slrf_at (i:=k) RW.out HL.out hkl
         subst e2
         have hwi:=getD_wf WLL.out k
         have hnx:plOk (RL.getD k zref)=true→∀ k',k' < k+1→plOk (RL.getD k' zref)=true:=fun h k' hk'=>(Nat.lt_or_ge k' k).elim (AK.out k') (fun g=>by rw [show k'=k by omega];exact h)
         have hbd:=fun h=>AL2.out k hkl h
         obtain ⟨r,hr⟩:∃ r,r=RL.getD k zref:=⟨_,rfl⟩
         rw [←hr] at hrg hwi hnx hbd
         have rri:=fun wx=>RR.out r wx hwi
         have ms2:(refC r).size=34:=refC_size hwi
         obtain ⟨b,hbv⟩:∃ b,b=plOk r:=⟨_,rfl⟩
         rw [←hbv] at hnx hbd rri
         have hrgm:wr.rangeAt b2 (o2+k*34) (refC r).toList:=hrg
         obtain ⟨RM,hRM⟩:∃ M,M=refC r:=⟨_,rfl⟩
         rw [←hRM] at hrgm rri ms2
         have RGM:=zh hrgm;have RRI:=zh rri;have MS2:=zh ms2;have NXK:=zh hnx;have BDK:=zh hbd
         clear hrg hwi hnx hbd hr rri ms2 hbv hrgm hRM hlb2
         go_wp2_with (refine wpList_load_mid zr 25 _ zr b2 (o2+k*34) zr RM.toList _ RGM.out Tryz.underlying25 zr (by rw [infoRfR,Array.length_toList,MS2.out]) ?_;rw [Array.toArray_toList])
         refine (RRI.out _).mono ?_
         rintro e w6 ⟨rfl,hb6⟩
         have B6:=zh (BW.out.trans (hb6.mono BW.out.size));have A6:=zh (AW.out.below hb6 AW.out.lt);have S6:=zh (SW.out.below hb6);have R6:=zh (RW.out.below hb6)
         clear hb6
         cases hbv:b with
         | true=>
          have NX:=zh (NXK.out hbv)
          go_wp2_with fail
          go_roundw
          case rel=>exact ⟨k+1,by omega,by go_num,NX.out,B6.out,A6.out,S6.out,R6.out⟩
          case measure=>simp [intOf];omega
         | false=>
          have HY:=zh (NOI.out (by rw [OK2.out];exact BDK.out hbv))
          go_wp2_with fail
          go_ret
          exact ⟨by rw [HY.out];rfl,B6.out⟩
        ·have hkl2:k=l:=by omega
         subst hkl2
         have hge:¬ (k:Int) < (k:Int):=by omega
         have AL6:=zh (ALI.out (by rw [OK2.out];exact AL1.out AK.out))
         go_wp2_with fail
         go_roundw
         case rel=>exact ⟨j+1,by omega,by go_num,AL6.out,BW.out,AW.out,SW.out⟩
         case measure=>simp [intOf];omega
      ·have HY:=zh (NOI.out (by rw [OKI.out,decide_eq_false hlm];simp))
       have N4:Hid (¬ (l:Int)=(m:Int)):=zh (by omega)
       refine wp_region_plan_in (fun x'=>Below w4.heap.size w4 x') (.take 0 (.take 1 (.take 2 (.take 3 (.take 4 (.take 5 (.take 6 (.take 7 (.take 8 (.take 9 (.sole 10 (.take 11 (.take 12 (.take 13 .done)))))))))))))) (by kernel_rfl) (by kernel_rfl) (by kernel_rfl) (Below.refl _ _).drew ?_
       (first | refine Mem.pm1 ?_ | refine Mem.pm2 ?_ | refine Mem.pt ?_ | refine Mem.pf ?_)
       (simp only [Mem.zp,Mem.pb,Mem.pc])
       refine plan_not _ _ true zr zr zr ze ?_
       rw [show (!true)=false from rfl]
       (simp only [Mem.zp,Mem.pb,Mem.pc])
       iterate 2 ((first | refine Mem.pm1 ?_ | refine Mem.pm2 ?_ | refine Mem.pt ?_ | refine Mem.pf ?_);(simp only [Mem.zp,Mem.pb,Mem.pc]))
       refine plan_len _ _ _ _ l _ zr zr zr zr ze (fun wx=>by go_simp) ?_
       (simp only [Mem.zp,Mem.pb,Mem.pc])
       refine plan_row 37 _ w.heap.size _ M 37 zr zr zr ze (fun w' hw'=>A4.out.below hw' A4.out.lt) Tryz.underlying37 zr (by rw [MS.out];exact infoRS) ?_
       (simp only [Mem.zp,Mem.pb,Mem.pc])
       iterate 2 ((first | refine Mem.pm1 ?_ | refine Mem.pm2 ?_ | refine Mem.pt ?_ | refine Mem.pf ?_);(simp only [Mem.zp,Mem.pb,Mem.pc]))
       refine plan_index 35 3 _ _ b1 o1 n c3 j zr zr zr ze ze (by omega) Tryz.underlying35 (by kernel_rfl) ?_
       (simp only [Mem.zp,Mem.pb,Mem.pc])
       refine plan_cell 3 _ _ (.int .i64 z) _ zr zr zr ze (fun w' hw'=>(hw'.cell (p:=⟨b1,o1+j,none⟩) LB4.out).trans C4.out) Tryz.underlying3 zr ?_
       (simp only [Mem.zp,Mem.pb,Mem.pc])
       refine plan_call 62 _ _ _ (by kernel_rfl) zr zr zr (by first | exact Mem.ev_none _ | (simp only [List.map_toArray,List.map_cons,List.map_nil,Mem.ev_tmp,List.getD_cons_succ,List.getD_cons_zero] <;> rfl)) ?_
       refine (KDI.out _ (RS4.out.below (Below.refl _ _).drew)).mono ?_
       rintro e8 wy ⟨v8,rfl,ho8,hb8⟩
       obtain ⟨a5,c5,e5⟩:=ho8.hd
       subst e5
       rw [HLN.out]
       have D1:Hid (Below w4.heap.size w4 wy):=zh ((Below.refl _ _).drew.trans hb8)
       clear ho8 hb8
       refine ⟨_,rfl,D1.out,?_⟩
       (simp only [Mem.zp,Mem.pb,Mem.pc])
       refine plan_len _ _ _ _ m _ zr zr zr zr ze (fun wx=>by go_simp) ?_
       (simp only [Mem.zp,Mem.pb,Mem.pc])
       refine plan_bin _ _ _ _ _ _ _ (.bool true) zr zr zr ze ze (fun wx=>o_inet1 (l:Int) (m:Int) N4.out _ _ _ _ wx) ?_
       (simp only [Mem.zp,Mem.pb,Mem.pc])
       refine plan_pick_f _ _ _ _ zr zr zr ze ze ?_
       (simp only [Mem.zp,Mem.pb,Mem.pc])
       refine plan_nil ?_
       go_wp2_with fail
       go_ret
       exact ⟨by rw [HY.out];rfl,B4.out.trans (D1.out.mono B4.out.size)⟩
    ·have hjn:j=n:=by omega
     subst hjn
     have HY:=zh (YES.out HR.out AL.out)
     have hge:¬ (j:Int) < (j:Int):=by omega
     go_wp2_with fail
     go_ret
     exact ⟨by rw [HY.out];rfl,BW.out⟩
end Sha
end Go.Proofs.YtplmfmpbkjnbaaaGreatDoor
namespace Go.Proofs.YtplmfmpbkjnbaaaGreatDoor
namespace Sha
theorem has_need (p:Nat) (L:List Int) (i:Nat) (hi:i < itn p):(needI p L).contains (i:Int)=isN p L i:=by
 rw [Bool.eq_iff_iff,List.contains_iff_mem]
 unfold needI
 rw [List.mem_map]
 constructor
 ·rintro ⟨j,hj,e⟩
  have e:j=i:=by omega
  subst e
  exact ((mem_need p L j).1 hj).2
 ·intro h
  exact ⟨i,(mem_need p L i).2 ⟨hi,h⟩,rfl⟩
section
variable {key:Lb8} {ep:BitVec 32} {p:Nat} {root:RefV} {N:List NdV} {C:List ChV}
theorem pg_lt (h:riseT p C) {i:Nat} (hi:(pgsC C).contains (i:Int)=true):i < p:=by
 obtain ⟨j,hj,e⟩:=mem_pgsC.1 (List.contains_iff_mem.1 hi)
 have:=(h j hj).1.2
 omega
theorem tch_page (h:riseT p C) {i:Nat} (hi:(pgsC C).contains (i:Int)=true):tchC p C i=true:=by
 unfold tchC
 rw [if_pos (pg_lt h hi)];exact hi
theorem isN_lowR {i:Nat} (h:i < p):isN p (pgsC C) i=false:=by unfold isN;rw [decide_eq_false (by omega),Bool.false_and]
theorem tch_nodeR {i:Nat} (hi:isN p (pgsC C) i=true):tchC p C i=true:=by
 unfold tchC
 rw [if_neg (by have:=((isN_iff p _ i).1 hi).1;omega)];exact hi
theorem tch_no {i:Nat} (h1:(pgsC C).contains (i:Int)=false) (h2:isN p (pgsC C) i=false):tchC p C i=false:=by
 unfold tchC
 split
 ·exact h1
 ·exact h2
def lastC (C:List ChV) (i:Nat):Nat→Option (Lb8)
 | 0=>none
 | j+1=>if (C.getD j zch).1=(i:Int) then some (C.getD j zch).2 else lastC C i j
theorem last_some (h:riseT p C) {i k:Nat} (_hk:k < C.length) (he:(C.getD k zch).1=(i:Int)):∀ j,k < j→j≤C.length→lastC C i j=some (C.getD k zch).2:=by
 intro j
 induction j with
 | zero=>intro h1;omega
 | succ j ih=>
  intro h1 h2
  rw [lastC]
  by_cases e:j=k
  ·rw [e,if_pos he]
  ·have:=rise_lt h k j (by omega) (by omega)
   rw [if_neg (by omega)]
   exact ih (by omega) (by omega)
theorem last_chg (h:riseT p C) {i:Nat} (hi:(pgsC C).contains (i:Int)=true):lastC C i C.length=chgP C i:=by
 obtain ⟨j,hj,e⟩:=mem_pgsC.1 (List.contains_iff_mem.1 hi)
 rw [last_some h hj e C.length hj (Nat.le_refl _),chgP_get h hj e]
theorem nds_succ (n:Nat):ndsC key ep p root N C (n+1)=ndsC key ep p root N C n++if isN p (pgsC C) n=true then [((n:Int),refsC key ep p root N C n n)] else []:=by
 unfold ndsC
 rw [filter_succ,List.map_append]
 congr 1
 split <;> rfl
theorem fr_set {n:Nat} (hn:n < itn p) (F:List RefV) (hF:F.length=itn p) (h:∀ j,j < itn p→F.getD j zref=(if j < n then frC key ep p root N C j else none).getD zref) {s:Lb8 × RefV} (hs:selC key ep p root N C n=some s) :
 ∀ j,j < itn p→(F.set n s.2).getD j zref=(if j < n+1 then frC key ep p root N C j else none).getD zref:=fun j hj=>by
 by_cases e:j=n
 ·subst e
  rw [getD_set_self F j s.2 (by omega),if_pos (by omega),frC_some hs];rfl
 ·rw [getD_set_ne F n j s.2 (fun g=>e g.symm),h j hj]
  by_cases g:j < n
  ·rw [if_pos g,if_pos (by omega)]
  ·rw [if_neg g,if_neg (by omega)]
theorem fr_keep {n:Nat} (F:List RefV) (h:∀ j,j < itn p→F.getD j zref=(if j < n then frC key ep p root N C j else none).getD zref) (hs:selC key ep p root N C n=none) :
 ∀ j,j < itn p→F.getD j zref=(if j < n+1 then frC key ep p root N C j else none).getD zref:=fun j hj=>by
 rw [h j hj]
 by_cases e:j=n
 ·subst e
  rw [if_neg (by omega),if_pos (by omega),frC_none hs]
 ·by_cases g:j < n
  ·rw [if_pos g,if_pos (by omega)]
  ·rw [if_neg g,if_neg (by omega)]
end
end Sha
end Go.Proofs.YtplmfmpbkjnbaaaGreatDoor
