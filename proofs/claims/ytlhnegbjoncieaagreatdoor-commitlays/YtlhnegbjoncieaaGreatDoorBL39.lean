/- My own texts, merged. -/
import Derived.Test.YtlhnegbjoncieaaGreatDoorBL37
import Derived.Test.YtlhnegbjoncieaaGreatDoorBL35
import Derived.Test.YtlhnegbjoncieaaGreatDoorBL16
import Derived.Test.YtlhnegbjoncieaaGreatDoorBL33
set_option maxRecDepth 100000
set_option maxHeartbeats 8000000
namespace Go.Proofs.YtlhnegbjoncieaaGreatDoor
namespace Sha
open Go.RowKit Mem
set_option maxRecDepth 100000
theorem needI_get (p:Nat) (L:List Int) (j:Nat) (hj:j < (needI p L).length):∃ i:Nat,(needI p L).getD j 0=(i:Int)∧(needT p L).getD j 0=i∧i < itn p∧isN p L i=true∧p≤i:=by
 unfold needI at *
 rw [List.length_map] at hj
 refine ⟨(needT p L).getD j 0,?_,rfl,?_⟩
 ·rw [List.getD_eq_getElem?_getD,List.getElem?_map,List.getElem?_eq_getElem hj,List.getD_eq_getElem?_getD,List.getElem?_eq_getElem hj];rfl
 ·have h:=(mem_need p L ((needT p L).getD j 0)).1 (by rw [List.getD_eq_getElem?_getD,List.getElem?_eq_getElem hj];exact List.getElem_mem hj)
  exact ⟨h.1,h.2,((isN_iff p L _).1 h.2).1⟩
theorem may_all (p:Nat) (N:List NdV) (C:List ChV) (hr:decide (riseT p C)=true) (h:∀ j,j < (needI p (pgsC C)).length→∀ i:Nat,(needI p (pgsC C)).getD j 0=(i:Int)→nodeOk p N i=true):mayT p N C=true:=by
 unfold mayT
 rw [hr,Bool.true_and,List.all_eq_true]
 intro i hi
 obtain ⟨j,hj,e⟩:=List.mem_iff_getElem.1 hi
 refine h j (by unfold needI;rw [List.length_map];exact hj) i ?_
 unfold needI
 rw [List.getD_eq_getElem?_getD,List.getElem?_map,List.getElem?_eq_getElem hj,e]
 rfl
theorem may_no (p:Nat) (N:List NdV) (C:List ChV) (j i:Nat) (hj:j < (needI p (pgsC C)).length) (hi:(needI p (pgsC C)).getD j 0=(i:Int)) (h:nodeOk p N i=false):mayT p N C=false:=by
 unfold mayT
 have:(needT p (pgsC C)).all (nodeOk p N)=false:=by
  rw [List.all_eq_false]
  obtain ⟨i',h1,h2,h3,h4,_⟩:=needI_get p (pgsC C) j hj
  have e:i'=i:=by omega
  subst e
  exact ⟨i',(mem_need p _ i').2 ⟨h3,h4⟩,by rw [h];decide⟩
 rw [this,Bool.and_false]
theorem pmay_any (p:Nat) (N:List NdV) (C:List ChV) (vn vc:Value) (w:World) (hn:SlNd w vn N) (hc:SlCh w vc C) (hN:NdWf N) (h1:p≤216) (hl:C.length≤1000):Calls Tryz.prog 49 #[.agg (psC p),vn,vc] w (VEnd (.bool (mayT p N C)) w):=by
 have ar:=fun wx h=>pareCh_any p C vc wx h h1 hl
 have nd:=fun wx h=>pneedOf_any p C vc wx h h1 hl
 have fd:=fun (z:Int) wx h=>pfind_any N z vn wx h hN
 have kd:=fun (z:Int) wx=>pkids_any p z wx h1
 have hp:=fun (z:Int) vx wx h=>havePl_any (findD N z) vx wx h (findD_wf hN.w z) (findD_le hN z)
 have hfl:=fun z=>findD_le hN z
 have hfw:=fun z=>findD_wf hN.w z
 have hgt:=fun j hj=>needI_get p (pgsC C) j hj
 have hkz:=fun i (a:p≤i) (b:i < itn p)=>KZ_node p i a b
 have hok:∀ i:Nat,nodeOk p N i=(decide ((findD N (i:Int)).length=many p i) && (findD N (i:Int)).all plOk):=fun _=>rfl
 have hno0:decide (riseT p C)=false→mayT p N C=false:=fun h=>by unfold mayT;rw [h,Bool.false_and]
 have hno:=fun j i hj hi h=>may_no p N C j i hj hi h
 have hyes:=fun hr h=>may_all p N C hr h
 have hm6:=fun i=>many_le p i
 obtain ⟨R,hR⟩:∃ R,R=decide (riseT p C):=⟨_,rfl⟩
 rw [←hR] at ar hno0 hyes
 obtain ⟨Y,hY⟩:∃ Y,Y=mayT p N C:=⟨_,rfl⟩
 rw [←hY] at hno0 hno hyes ⊢
 obtain ⟨KS,hKS⟩:∃ K,K=needI p (pgsC C):=⟨_,rfl⟩
 rw [←hKS] at nd hno hyes hgt
 obtain ⟨n,hnn⟩:∃ n,n=KS.length:=⟨_,rfl⟩
 have hn259:n≤259:=by rw [hnn,hKS];exact needI_len p _ h1
 rw [←hnn] at hno hyes hgt
 have ha:=at_new w (psC p) 26
 have hb:Below w.heap.size w (w.alloc (.cells (psC p) 26)):=(Below.refl _ _).alloc (Nat.le_refl _) _
 have ms:(psC p).size=1:=rfl
 obtain ⟨M,hM⟩:∃ M,M=psC p:=⟨_,rfl⟩
 rw [←hM] at ar nd kd ha hb ms ⊢
 obtain ⟨an,cn,rfl⟩:=hn.hd
 obtain ⟨ac,cc,rfl⟩:=hc.hd
 obtain ⟨nN,hnN⟩:∃ n,n=N.length:=⟨_,rfl⟩
 obtain ⟨nC,hnC⟩:∃ n,n=C.length:=⟨_,rfl⟩
 rw [←hnN] at hn fd ⊢
 rw [←hnC] at hc ar nd ⊢
 have AR:=zh ar;have NDD:=zh nd;have FD:=zh fd;have KD:=zh kd;have HP:=zh hp;have FL:=zh hfl;have FW:=zh hfw;have GT:=zh hgt;have KZN:=zh hkz;have OK:=zh hok;have NO0:=zh hno0;have NO:=zh hno;have YES:=zh hyes;have M6:=zh hm6;have HNN:=zh hnn;have HA:=zh ha;have HB:=zh hb;have MS:=zh ms;have HVN:=zh hn;have HVC:=zh hc
 clear ar nd fd kd hp hfl hfw hgt hkz hok hno0 hno hyes hm6 hnn ha hb ms hn hc hR hY hKS hM hN hnN hnC hl
 go_enter Tryz.func49,Tryz.ntmps49
 go_upto_region 1 with fail
 generalize w.alloc (.cells M 26)=w1 at *
 go_wp2_with (refine wpList_load_all zr 26 _ zr w.heap.size zr _ Tryz.underlying26 zr M _ HA.out (by rw [MS.out];exact infoPS) ?_)
 refine (AR.out _ (HVC.out.below HB.out)).mono ?_
 rintro e w2 ⟨rfl,hb2⟩
 have B2:=zh (HB.out.trans (hb2.mono HB.out.size));have A2:=zh (HA.out.below hb2 HA.out.lt)
 clear hb2
 cases hR:R with
 | false=>
  have HY:=zh (NO0.out hR)
  go_wp2_with fail
  go_ret
  exact ⟨by rw [HY.out];rfl,B2.out⟩
 | true=>
  have HR:=zh hR
  clear hR
  go_wp2_with (refine wpList_load_all zr 26 _ zr w.heap.size zr _ Tryz.underlying26 zr M _ A2.out (by rw [MS.out];exact infoPS) ?_)
  refine (NDD.out _ (HVC.out.below B2.out)).mono ?_
  rintro e w3 ⟨v3,rfl,ho3,hb3⟩
  have S3:=zh (ownV_sli ho3);have B3:=zh (B2.out.trans (hb3.mono B2.out.size));have A3:=zh (A2.out.below hb3 A2.out.lt)
  obtain ⟨a3,c3,e3⟩:=S3.out.hd
  subst e3
  rw [←HNN.out] at S3 ⊢
  clear ho3 hb3
  go_upto_region 4 with fail
  go_loopw [19] (fun vi wr=>∃ j:Nat,j≤n∧vi=.int .i64 (j:Int)∧(∀ j',j' < j→∀ i:Nat,KS.getD j' 0=(i:Int)→nodeOk p N i=true)∧Below w.heap.size w wr∧At wr w.heap.size M 26∧SlI wr (.slice a3 n c3) KS) (fun vi _=>n - (intOf vi).toNat)
  case atStart=>exact ⟨0,by omega,rfl,fun j' h=>by omega,B3.out,A3.out,S3.out⟩
  case round=>
   obtain ⟨j,hj,rfl,hal,hbw,haw,hs⟩:=hrel
   have BW:=zh hbw;have AW:=zh haw;have AL:=zh hal;have SW:=zh hs
   clear hal hbw haw hs
   by_cases hlt:j < n
   ·have hlt':(j:Int) < (n:Int):=by omega
    obtain ⟨i,hi,_,hit,_,hpi⟩:=GT.out j hlt
    obtain ⟨b1,o1,e1,hlb,cx0⟩:=sli_at (i:=j) SW.out HNN.out hlt
    subst e1
    rw [hi] at cx0
    have fdi:=fun wx h=>FD.out (i:Int) wx h
    have kdi:=fun wx=>KD.out (i:Int) wx
    have hpi2:=fun vx wx h=>HP.out (i:Int) vx wx h
    have hln:=KZN.out i hpi hit
    have hoki:=OK.out i
    have hnoi:=fun h=>NO.out j i hlt hi h
    have hali:nodeOk p N i=true→∀ j',j' < j+1→∀ i:Nat,KS.getD j' 0=(i:Int)→nodeOk p N i=true:=fun h j' hj' i' hi'=>by
     rcases Nat.lt_or_ge j' j with g | g
     ·exact AL.out j' g i' hi'
     ·have:j'=j:=by omega
      subst this
      have:i'=i:=by omega
      rw [this];exact h
    have hwl:=FW.out (i:Int)
    have h6:=M6.out i
    obtain ⟨RL,hRL⟩:∃ R,R=findD N (i:Int):=⟨_,rfl⟩
    obtain ⟨q0,hq0⟩:∃ q,q=(findT N (i:Int)).isSome:=⟨_,rfl⟩
    rw [←hRL,←hq0] at fdi
    rw [←hRL] at hpi2 hoki hwl
    obtain ⟨KK,hKK⟩:∃ K,K=KZ p (i:Int):=⟨_,rfl⟩
    rw [←hKK] at kdi hln
    obtain ⟨m,hm⟩:∃ m,m=many p i:=⟨_,rfl⟩
    rw [←hm] at hln hoki h6
    obtain ⟨l,hl⟩:∃ l,l=RL.length:=⟨_,rfl⟩
    rw [←hl] at hoki
    obtain ⟨q,hq⟩:∃ q,q=RL.all plOk:=⟨_,rfl⟩
    rw [←hq] at hoki hpi2
    obtain ⟨NK,hNK⟩:∃ K,K=nodeOk p N i:=⟨_,rfl⟩
    rw [←hNK] at hoki hnoi hali
    have FDI:=zh fdi;have KDI:=zh kdi;have HPI:=zh hpi2;have HLN:=zh hln;have OKI:=zh hoki;have NOI:=zh hnoi;have ALI:=zh hali;have HL:=zh hl;have WLL:=zh hwl
    clear fdi kdi hpi2 hln hoki hnoi hali hRL hq0 hKK hm hl hq hNK hlb hwl hpi hit
    obtain ⟨z,hz⟩:∃ z:Int,z=(i:Int):=⟨_,rfl⟩
    rw [←hz] at cx0 FDI KDI
    clear hz hi
    go_wp2_with fail
    refine (FDI.out _ (HVN.out.below BW.out)).mono ?_
    rintro e w4 ⟨v4,rfl,ho4,hb4⟩
    have R4:=zh (own_slrf ho4 WLL.out);have B4:=zh (BW.out.trans (hb4.mono BW.out.size));have A4:=zh (AW.out.below hb4 AW.out.lt);have S4:=zh (SW.out.below hb4)
    clear ho4 hb4 cx0
    obtain ⟨a4,c4,e4⟩:=R4.out.hdn HL.out.symm
    subst e4
    go_wp2_with (refine wpList_load_all zr 26 _ zr w.heap.size zr _ Tryz.underlying26 zr M _ A4.out (by rw [MS.out];exact infoPS) ?_)
    refine (KDI.out _).mono ?_
    rintro e w5 ⟨v5,rfl,hs5,hb5⟩
    obtain ⟨a5,c5,e5⟩:=hs5.hd
    subst e5
    rw [HLN.out]
    have R5:=zh (R4.out.below hb5);have B5:=zh (B4.out.trans (hb5.mono B4.out.size));have A5:=zh (A4.out.below hb5 A4.out.lt);have S5:=zh (S4.out.below hb5)
    clear hs5 hb5
    by_cases hlm:l=m
    ·subst hlm
     go_wp2_with fail
     refine (HPI.out _ _ R5.out).mono ?_
     rintro e w6 ⟨rfl,hb6⟩
     have B6:=zh (B5.out.trans (hb6.mono B5.out.size));have A6:=zh (A5.out.below hb6 A5.out.lt);have S6:=zh (S5.out.below hb6)
     clear hb6
     cases hqv:q with
     | true=>
      have AL6:=zh (ALI.out (by rw [OKI.out,hqv];simp))
      go_wp2_with fail
      go_roundw
      case rel=>exact ⟨j+1,by omega,by go_num,AL6.out,B6.out,A6.out,S6.out⟩
      case measure=>simp [intOf];omega
     | false=>
      have HY:=zh (NOI.out (by rw [OKI.out,hqv];simp))
      go_wp2_with fail
      go_ret
      exact ⟨by rw [HY.out];rfl,B6.out⟩
    ·have hlm2:¬ (l:Int)=(m:Int):=by omega
     have HY:=zh (NOI.out (by rw [OKI.out,decide_eq_false hlm];simp))
     go_wp2_with fail
     go_ret
     exact ⟨by rw [HY.out];rfl,B5.out⟩
   ·have hjn:j=n:=by omega
    subst hjn
    have HY:=zh (YES.out HR.out AL.out)
    have hge:¬ (j:Int) < (j:Int):=by omega
    go_wp2_with fail
    go_ret
    exact ⟨by rw [HY.out];rfl,BW.out⟩
end Sha
end Go.Proofs.YtlhnegbjoncieaaGreatDoor
namespace Go.Proofs.YtlhnegbjoncieaaGreatDoor
namespace Sha
open Go.RowKit Mem
set_option maxRecDepth 100000
structure RMap (w:World) (B bm:Nat) (f:Int→Option Value) (Q:Nat→Prop) (M:Nat→List RefV) (c:Nat):Prop where
 m:∃ n,MapV w Tryz.prog 3 bm n f∧n≤c
 g:B≤bm
 own:∀ q,Q q→∃ v,f (q:Int)=some v∧OwnRf w B 38 v (M q)
 dis:∀ q q',Q q→Q q'→q≠q'→∀ v v' k,f (q:Int)=some v→f (q':Int)=some v'→v.ownBlock=some k→v'.ownBlock≠some k
section
variable {w w':World} {B bm c:Nat} {f:Int→Option Value} {Q:Nat→Prop} {M:Nat→List RefV}
theorem RMap.lt (h:RMap w B bm f Q M c):bm < w.heap.size:=let ⟨_,hm,_⟩:=h.m;hm.lt
theorem RMap.ltq (h:RMap w B bm f Q M c) {q:Nat} {v:Value} (hq:Q q) (hv:f (q:Int)=some v) {k:Nat} (hk:v.ownBlock=some k):B≤k∧k < w.heap.size:=by
 obtain ⟨v',e,ho⟩:=h.own q hq
 rw [hv] at e
 injection e with e
 subst e
 exact World.ownsRow.lt ho k hk
theorem RMap.keep (h:RMap w B bm f Q M c) (hm:w'.heap[bm]?=w.heap[bm]?) (hk:∀ q v k,Q q→f (q:Int)=some v→v.ownBlock=some k→w'.heap[k]?=w.heap[k]?):RMap w' B bm f Q M c:=by
 obtain ⟨⟨n,hmm,hn⟩,g,own,dis⟩:=h
 refine ⟨⟨n,hmm.same hm,hn⟩,g,fun q hq=>?_,dis⟩
 obtain ⟨v,e,ho⟩:=own q hq
 exact ⟨v,e,ownsRow_keep ho fun k hkk=>hk q v k hq e hkk⟩
theorem RMap.below (h:RMap w B bm f Q M c) (hb:Below w.heap.size w w'):RMap w' B bm f Q M c:=
 h.keep (hb.block bm h.lt) fun _ _ k hq hv hk=>hb.block k (h.ltq hq hv hk).2
theorem RMap.alike {Q':Nat→Prop} {c':Nat} (h:RMap w B bm f Q M c) (hs:∀ q,Q' q→Q q) (hc:c≤c'):RMap w B bm f Q' M c':=
 let ⟨⟨n,hm,hn⟩,g,own,dis⟩:=h
 ⟨⟨n,hm,Nat.le_trans hn hc⟩,g,fun q hq=>own q (hs q hq),fun q q' a b=>dis q q' (hs q a) (hs q' b)⟩
theorem RMap.put {w1:World} {n i:Nat} {v:Value} (h:RMap w B bm f Q M c) (hb:Below w.heap.size w w1) (ho:OwnRf w1 w.heap.size 38 v (M i)) (hB:B≤w.heap.size)
 (hm:MapV w' Tryz.prog 3 bm (n+1) (upd f (i:Int) (some v))) (hn:n≤c) (hc:Chg (fun k=>k=bm) w1 w'):RMap w' B bm (upd f (i:Int) (some v)) (fun q=>q=i∨Q q) M (c+1):=by
 have h1:=h.below hb
 have hlt:=h.lt
 have hv:=fun k hk=>World.ownsRow.lt ho k hk
 have kp:∀ k,k < w1.heap.size→k≠bm→w'.heap[k]?=w1.heap[k]?:=fun k hk hne=>hc.block k hk hne
 refine ⟨⟨n+1,hm,by omega⟩,h.g,fun q hq=>?_,fun q q' hq hq' hne u u' k hu hu' hk=>?_⟩
 ·by_cases e:q=i
  ·subst e
   rw [upd_same]
   exact ⟨v,rfl,ownsRow_base (ownsRow_keep ho fun k hk=>kp k (hv k hk).2 (by have:=(hv k hk).1;omega)) hB⟩
  ·rw [upd_other _ _ (by omega)]
   obtain ⟨u,eu,hu⟩:=h1.own q (hq.elim (fun a=>absurd a e) id)
   obtain ⟨n1,hm1,_⟩:=h1.m
   refine ⟨u,eu,ownsRow_keep hu fun k hk=>kp k (World.ownsRow.lt hu k hk).2 fun ek=>?_⟩
   subst ek
   exact hm1.ne_own hu hk
 ·by_cases e:q=i
  ·subst e
   rw [upd_same] at hu
   injection hu with hu
   subst hu
   rw [upd_other _ _ (by omega)] at hu'
   intro hk'
   have:=(h.ltq (hq'.elim (fun a=>absurd a (fun x=>hne x.symm)) id) hu' hk').2
   have:=(hv k hk).1
   omega
  ·rw [upd_other _ _ (by omega)] at hu
   by_cases e':q'=i
   ·subst e'
    rw [upd_same] at hu'
    injection hu' with hu'
    subst hu'
    intro hk'
    have:=(h.ltq (hq.elim (fun a=>absurd a e) id) hu hk).2
    have:=(hv k hk').1
    omega
   ·rw [upd_other _ _ (by omega)] at hu'
    exact h.dis q q' (hq.elim (fun a=>absurd a e) id) (hq'.elim (fun a=>absurd a e') id) hne u u' k hu hu' hk
end
theorem uRf16:Tryz.prog.underlying 128=some (.map 3 27):=Tryz.underlying128
theorem rmap_made (w:World) {B:Nat} (hB:B≤w.heap.size) (M:Nat→List RefV):RMap (w.alloc (.map #[] 0)) B w.heap.size (fun _=>none) (fun _=>False) M 0:=
 ⟨⟨0,mapV_made w Tryz.prog 3,Nat.le_refl _⟩,hB,fun _ h=>h.elim,fun _ _ h=>h.elim⟩
def RoEnd (w:World) (Q:Nat→Prop) (M:Nat→List RefV) (e:Ending) (w':World):Prop:=∃ bm f,e=.returned (.map (some bm))∧RMap w' w.heap.size bm f Q M 1000∧Below w.heap.size w w'
theorem prefsOf_any (N:List NdV) (KS:List Nat) (vn vk:Value) (w:World) (hn:SlNd w vn N) (hN:NdWf N) (hk:SlI w vk (KS.map fun (i:Nat)=>(i:Int))) (hl:KS.length≤1000) (hb:∀ i∈KS,i≤1000) :
 Calls Tryz.prog 51 #[vn,vk] w (RoEnd w (fun q=>q∈KS) (fun q=>findD N (q:Int))):=by
 have fd:=fun (z:Int) wx h=>pfind_any N z vn wx h hN
 obtain ⟨an,cn,rfl⟩:=hn.hd
 obtain ⟨ak,ck,rfl⟩:=hk.hd
 have hkl:(KS.map fun (i:Nat)=>(i:Int)).length=KS.length:=List.length_map ..
 have hkg:∀ j,j < KS.length→(KS.map fun (i:Nat)=>(i:Int)).getD j 0=((KS.getD j 0:Nat):Int):=fun j hj=>by
  rw [List.getD_eq_getElem?_getD,List.getElem?_map,List.getElem?_eq_getElem hj,List.getD_eq_getElem?_getD,List.getElem?_eq_getElem hj];rfl
 have hkw:∀ j,j < KS.length→wfI ((KS.getD j 0:Nat):Int):=fun j hj=>wfI_nat _ (by
  have:=hb (KS.getD j 0) (by rw [List.getD_eq_getElem?_getD,List.getElem?_eq_getElem hj];exact List.getElem_mem hj)
  omega)
 have htk:∀ j,j < KS.length→∀ q,q∈KS.take (j+1)→q=KS.getD j 0∨q∈KS.take j:=fun j hj q hq=>by
  rw [List.take_add_one,List.getElem?_eq_getElem hj] at hq
  rcases List.mem_append.1 hq with h | h
  ·exact .inr h
  ·left
   rw [List.getD_eq_getElem?_getD,List.getElem?_eq_getElem hj]
   simpa using h
 have hall:KS.take KS.length=KS:=List.take_length
 rw [hkl] at hk ⊢
 obtain ⟨KI,hKI⟩:∃ K,K=KS.map fun (i:Nat)=>(i:Int):=⟨_,rfl⟩
 rw [←hKI] at hk hkg hkl
 obtain ⟨n,hnn⟩:∃ n,n=KS.length:=⟨_,rfl⟩
 rw [←hnn] at hk hl hkg hkw htk hall hkl ⊢
 obtain ⟨nN,hnN⟩:∃ n,n=N.length:=⟨_,rfl⟩
 rw [←hnN] at hn fd ⊢
 have FD:=zh fd;have HVN:=zh hn;have HK:=zh hk;have KG:=zh hkg;have KW:=zh hkw;have TK:=zh htk;have ALL:=zh hall;have KL:=zh hkl.symm
 clear fd hn hk hkg hkw htk hall hkl hKI hnn hnN hb
 go_enter Tryz.func51,Tryz.ntmps51
 have R1:Hid (RMap (w.alloc (.map #[] 0)) w.heap.size w.heap.size (fun _=>none) (fun _=>False) (fun q=>findD N (q:Int)) 0):=zh (rmap_made w (Nat.le_refl _) _)
 have B1:Hid (Below w.heap.size w (w.alloc (.map #[] 0))):=zh ((Below.refl _ _).alloc (Nat.le_refl _) _)
 go_upto_region 3 with (refine wpList_mapV_made zr 128 zr ?_)
 obtain ⟨bm,hbm⟩:∃ bm,bm=w.heap.size:=⟨_,rfl⟩
 rw [←hbm]
 have R1:Hid (RMap (w.alloc (.map #[] 0)) w.heap.size bm (fun _=>none) (fun _=>False) (fun q=>findD N (q:Int)) 0):=zh (by rw [hbm];exact R1.out)
 clear hbm
 generalize w.alloc (.map #[] 0)=w1 at *
 go_loopw [11] (fun vi wr=>∃ j:Nat,j≤n∧vi=.int .i64 (j:Int)∧(∃ f,RMap wr w.heap.size bm f (fun q=>q∈KS.take j) (fun q=>findD N (q:Int)) j)∧Below w.heap.size w wr∧SlI wr (.slice ak n ck) KI) (fun vi _=>n - (intOf vi).toNat)
 case atStart=>exact ⟨0,by omega,rfl,⟨_,R1.out.alike (fun q hq=>by simp at hq) (Nat.le_refl _)⟩,B1.out,HK.out.below B1.out⟩
 case round=>
  obtain ⟨j,hj,rfl,⟨f,hr⟩,hbw,hs⟩:=hrel
  have RW:=zh hr;have BW:=zh hbw;have SW:=zh hs
  clear hr hbw hs
  by_cases hlt:j < n
  ·have hlt':(j:Int) < (n:Int):=by omega
   obtain ⟨b1,o1,e1,hlb,cx0⟩:=sli_at (i:=j) SW.out KL.out hlt
   subst e1
   rw [KG.out j hlt] at cx0
   have kwj:=KW.out j hlt
   have tkj:=TK.out j hlt
   obtain ⟨i,hi⟩:∃ i,i=KS.getD j 0:=⟨_,rfl⟩
   rw [←hi] at cx0 kwj tkj
   have KWJ:=zh kwj;have TKJ:=zh tkj
   clear kwj tkj hi hlb
   go_upto_region 5 with fail
   have W0:=BW.out.size
   have SZ:=zh W0
   clear W0 cx0
   go_wp2_with fail
   refine (FD.out _ _ (HVN.out.below BW.out)).mono ?_
   rintro e w4 ⟨v4,rfl,ho4,hb4⟩
   have B4:=zh (BW.out.trans (hb4.mono BW.out.size));have S4:=zh (SW.out.below hb4);have O4:=zh ho4;have Q4:=zh hb4
   obtain ⟨n4,hm4,hn4⟩:=(RW.out.below hb4).m
   have M4:=zh hm4;have N4:=zh hn4
   clear ho4 hb4 hm4 hn4
   go_wp2_with (at_mapUpdate;refine wpList_mapV_put zr 128 _ _ _ zr 27 M4.out (i:Int) v4 zr zr zr uInt16 uRf16 (by have:=N4.out;unfold maxLen;omega) KWJ.out ?_;intro w8 hm8 hc8 hz8;have S8:=zh (sli_map S4.out M4.out hc8);have R8:=zh (RW.out.put Q4.out O4.out SZ.out hm8 N4.out hc8);have B8:Hid (Below w.heap.size w w8):=zh (hc8.below B4.out (fun k e=>by have:=RW.out.g;omega) B4.out.size);clear hm8 hc8 hz8)
   go_roundw
   case rel=>exact ⟨j+1,by omega,by go_num,⟨_,R8.out.alike (fun q hq=>TKJ.out q hq) (Nat.le_refl _)⟩,B8.out,S8.out⟩
   case measure=>simp [intOf];omega
  ·have hjn:j=n:=by omega
   subst hjn
   have hge:¬ (j:Int) < (j:Int):=by omega
   go_wp2_with fail
   go_ret
   exact ⟨bm,f,rfl,by have h:=RW.out;rw [ALL.out] at h;exact h.alike (fun _ h=>h) hl,BW.out⟩
end Sha
end Go.Proofs.YtlhnegbjoncieaaGreatDoor
namespace Go.Proofs.YtlhnegbjoncieaaGreatDoor
namespace Sha
open Go.RowKit Mem
set_option maxRecDepth 100000
def drA (key:Lb8) (ep:BitVec 32) (p:Nat):List Value:=(.pointer none::u8s key)++[.int .u32 (V ep),.int .i64 (p:Int)]
def drL (key:Lb8) (ep:BitVec 32) (p:Nat) (root:RefV) (bm:Nat) (vp:Value):List Value:=drA key ep p++refL root++[.map (some bm),vp]
def drC (key:Lb8) (ep:BitVec 32) (p:Nat) (root:RefV) (bm:Nat) (vp:Value):Array Value:=(drL key ep p root bm vp).toArray
section
variable {key:Lb8} {ep:BitVec 32} {p:Nat} {root r:RefV} {bm:Nat} {vp:Value}
theorem drA_length (lk:key.length=32):(drA key ep p).length=35:=by simp [drA,u8s_length,lk]
theorem drL_length (lk:key.length=32) (hr:root.Wf):(drL key ep p root bm vp).length=71:=by simp [drL,drA_length lk,refL_length hr]
theorem drC_size (lk:key.length=32) (hr:root.Wf):(drC key ep p root bm vp).size=71:=by simp [drC,drL_length lk hr]
theorem at_mid {w:World} {b:Nat} {t:TypeId} {A X Z:List Value} (h:At w b (A++X++Z).toArray t):w.rangeAt b A.length X:=fun j v hv=>by
 rw [h.cell]
 have hj:j < X.length:=(List.getElem?_eq_some_iff.1 hv).1
 simp only [List.getElem?_toArray]
 rw [List.getElem?_append_left (by rw [List.length_append];omega),List.getElem?_append_right (by omega),Nat.add_sub_cancel_left]
 exact hv
structure DrCells (w:World) (bd:Nat) (key:Lb8) (ep:BitVec 32) (p:Nat) (root:RefV) (bm:Nat) (vp:Value):Prop where
 book:w.cell? ⟨bd,0,none⟩=some (.pointer none)
 key:w.rangeAt bd 1 (u8s key)
 ep:w.cell? ⟨bd,33,none⟩=some (.int .u32 (V ep))
 shp:w.rangeAt bd 34 (psC p).toList
 root:w.rangeAt bd 35 (refL root)
 map:w.cell? ⟨bd,69,none⟩=some (.map (some bm))
 puts:w.cell? ⟨bd,70,none⟩=some vp
theorem dr_cells {w:World} {bd:Nat} {t:TypeId} (h:At w bd (drC key ep p root bm vp) t) (lk:key.length=32) (hr:root.Wf):DrCells w bd key ep p root bm vp:=by
 have hl:(u8s key).length=32:=by rw [u8s_length,lk]
 have hrl:=refL_length hr
 have e1:drL key ep p root bm vp=[.pointer none]++u8s key++([.int .u32 (V ep),.int .i64 (p:Int)]++refL root++[.map (some bm),vp]):=by simp [drL,drA,List.append_assoc]
 have e2:drL key ep p root bm vp=([.pointer none]++u8s key)++[.int .u32 (V ep)]++([.int .i64 (p:Int)]++refL root++[.map (some bm),vp]):=by simp [drL,drA,List.append_assoc]
 have e3:drL key ep p root bm vp=([.pointer none]++u8s key++[.int .u32 (V ep)])++(psC p).toList++(refL root++[.map (some bm),vp]):=by simp [drL,drA,psC,List.append_assoc]
 have e4:drL key ep p root bm vp=drA key ep p++refL root++[.map (some bm),vp]:=rfl
 have e5:drL key ep p root bm vp=(drA key ep p++refL root)++[.map (some bm)]++[vp]:=by simp [drL,List.append_assoc]
 have e6:drL key ep p root bm vp=(drA key ep p++refL root++[.map (some bm)])++[vp]++[]:=by simp [drL,List.append_assoc]
 have e0:drL key ep p root bm vp=[]++[.pointer none]++(u8s key++[.int .u32 (V ep),.int .i64 (p:Int)]++refL root++[.map (some bm),vp]):=by simp [drL,drA,List.append_assoc]
 have one:∀ {o:Nat} {x:Value},w.rangeAt bd o [x]→w.cell? ⟨bd,o,none⟩=some x:=fun {o x} hh=>by have:=hh 0 x rfl;simpa using this
 have g:=fun (A X Z:List Value) (n:Nat) (e:drL key ep p root bm vp=A++X++Z) (hn:A.length=n)=>by
  have h2:=h
  unfold drC at h2
  rw [e] at h2
  have:=at_mid h2
  rw [hn] at this
  exact this
 exact ⟨one (g _ _ _ 0 e0 rfl),g _ _ _ 1 e1 rfl,one (g _ _ _ 33 e2 (by simp [hl])),g _ _ _ 34 e3 (by simp [hl]),g _ _ _ 35 e4 (drA_length lk),one (g _ _ _ 69 e5 (by rw [List.length_append,drA_length lk,hrl])),one (g _ _ _ 70 e6 (by rw [List.length_append,List.length_append,drA_length lk,hrl];rfl))⟩
theorem dr_root (lk:key.length=32) (hr:root.Wf) (hr':r.Wf):Mem.splice (drC key ep p root bm vp) 35 (refL r)=drC key ep p r bm vp:=by
 have h1:=drA_length (ep:=ep) (p:=p) lk
 have h2:=refL_length hr;have h3:=refL_length hr'
 have t1:(drL key ep p root bm vp).take 35=drA key ep p:=by
  unfold drL
  rw [List.append_assoc,List.take_append_of_le_length (by omega),←h1,List.take_length]
 have t2:(drL key ep p root bm vp).drop (35+34)=[.map (some bm),vp]:=by
  unfold drL
  rw [List.drop_append,List.length_append,h1,h2,List.drop_of_length_le (by rw [List.length_append,h1,h2];decide)]
  rfl
 unfold Mem.splice drC
 rw [h3]
 simp only [t1,t2]
 rfl
theorem dr_puts (lk:key.length=32) (hr:root.Wf) (v:Value):(drC key ep p root bm vp).setIfInBounds 70 v=drC key ep p root bm v:=by
 have h1:=drA_length (ep:=ep) (p:=p) lk
 have h2:=refL_length hr
 unfold drC drL
 rw [List.setIfInBounds_toArray,List.set_append_right _ _ (by rw [List.length_append,h1,h2];decide),List.length_append,h1,h2]
 rfl
end
structure DrI (w1 w:World) (bd bm:Nat) (f:Int→Option Value) (key:Lb8) (ep:BitVec 32) (p:Nat) (root:RefV) (Q:Nat→Prop) (M:Nat→List RefV) (vp:Value) (D:Foot) (ws:List (Nat × Value)) (L:List (Nat × Lb8)):Prop where
 b:Below w1.heap.size w1 w
 gd:w1.heap.size≤bd
 row:At w bd (drC key ep p root bm vp) 131
 mp:RMap w w1.heap.size bm f Q M 1000
 e:Each2 (fun p q=>p.1=q.1∧SlB D w p.2 q.2) ws L
 po:w.ownsRow w1.heap.size 49 2 vp L.length (putC ws)
 d:∀ k,D k→w1.heap.size≤k∧k < w.heap.size∧k≠bd∧k≠bm∧vp.ownBlock≠some k∧∀ q v,Q q→f (q:Int)=some v→v.ownBlock≠some k
 kl:key.length=32
 rw:root.Wf
 mw:∀ q,Q q→∀ r∈M q,r.Wf
section
variable {w1 w w2 w3 w5 w6:World} {bd bm:Nat} {f:Int→Option Value} {key:Lb8} {ep:BitVec 32} {p:Nat} {root r:RefV} {Q:Nat→Prop} {M:Nat→List RefV} {vp vp' v2:Value} {D G:Foot} {ws:List (Nat × Value)} {L:List (Nat × Lb8)}
theorem DrI.cells (h:DrI w1 w bd bm f key ep p root Q M vp D ws L):DrCells w bd key ep p root bm vp:=dr_cells h.row h.kl h.rw
theorem DrI.below (h:DrI w1 w bd bm f key ep p root Q M vp D ws L) (hb:Below w.heap.size w w2):DrI w1 w2 bd bm f key ep p root Q M vp D ws L:=
 ⟨h.b.trans (hb.mono h.b.size),h.gd,h.row.below hb h.row.lt,h.mp.below hb,h.e.mono fun _ _ x=>⟨x.1,x.2.keep hb.size fun k _ hl=>hb.block k hl⟩,ownsRow_below h.po hb,
  fun k hk=>let ⟨a,b,c⟩:=h.d k hk;⟨a,Nat.lt_of_lt_of_le b hb.size,c⟩,h.kl,h.rw,h.mw⟩
theorem DrI.nbm (h:DrI w1 w bd bm f key ep p root Q M vp D ws L):bm≠bd:=let ⟨_,hm,_⟩:=h.mp.m;hm.ne_at h.row
theorem DrI.nown (h:DrI w1 w bd bm f key ep p root Q M vp D ws L) {q:Nat} {v:Value} (hq:Q q) (hv:f (q:Int)=some v):v.ownBlock≠some bd∧v.ownBlock≠some bm∧∀ k,v.ownBlock=some k→vp.ownBlock≠some k:=by
 obtain ⟨v',e,ho⟩:=h.mp.own q hq
 rw [hv] at e
 injection e with e
 subst e
 obtain ⟨_,hm,_⟩:=h.mp.m
 exact ⟨own_ne_at ho h.row (by decide),hm.ne_own ho,ownsRow_ne ho h.po (by decide)⟩
theorem DrI.setRoot (h:DrI w1 w bd bm f key ep p root Q M vp D ws L) (hr:r.Wf):DrI w1 (w.setRow bd (Mem.splice (drC key ep p root bm vp) 35 (refL r))) bd bm f key ep p r Q M vp D ws L:=by
 rw [dr_root h.kl h.rw hr]
 have ko:∀ k,k≠bd→(w.setRow bd (drC key ep p r bm vp)).heap[k]?=w.heap[k]?:=fun k hk=>setRow_other w bd k _ hk
 have hsz:(w.setRow bd (drC key ep p r bm vp)).heap.size=w.heap.size:=by simp
 refine ⟨below_row h.b h.gd _,h.gd,h.row.row _,h.mp.keep (ko bm h.nbm) fun q v k hq hv hk=>ko k fun e=>(h.nown hq hv).1 (by rw [←e];exact hk),h.e.mono fun a c x=>⟨x.1,x.2.keep (by omega) fun k hd _=>ko k (h.d k hd).2.2.1⟩,
  ownsRow_keep h.po fun k hk=>ko k fun e=>own_ne_at h.po h.row (by decide) (by rw [←e];exact hk),fun k hk=>?_,h.kl,hr,h.mw⟩
 rw [hsz];exact h.d k hk
theorem DrI.setSlot (h:DrI w1 w bd bm f key ep p root Q M vp D ws L) (hr:r.Wf) {q t:Nat} {v:Value} (hq:Q q) (hv:f (q:Int)=some v) (ht:t < (M q).length) :
 ∃ g cap cur,v=.slice (some ⟨g,0,none⟩) (M q).length cap∧At w g cur 38∧t*34+34≤cur.size∧w.rangeAt g (0+t*34) (refL ((M q).getD t zref))∧DrI w1 (w.setRow g (Mem.splice cur (t*34) (refL r))) bd bm f key ep p root Q (fun x=>if x=q then (M q).set t r else M x) vp D ws L:=by
 obtain ⟨v',e,ho⟩:=h.mp.own q hq
 rw [hv] at e
 injection e with e
 subst e
 have hn:=h.nown hq hv
 obtain ⟨g,cap,cur,ev,hg,hgl,hcur,hfit,hown⟩:=own_store ho (h.mw q hq) hr ht
 have hsl:=own_slrf ho (h.mw q hq)
 subst ev
 have hg1:(Value.slice (some ⟨g,0,none⟩) (M q).length cap).ownBlock=some g:=rfl
 have hgd:g≠bd:=fun e=>hn.1 (by rw [hg1,e])
 have hgm:g≠bm:=fun e=>hn.2.1 (by rw [hg1,e])
 have hgp:vp.ownBlock≠some g:=hn.2.2 g hg1
 have ko:∀ k,k≠g→(w.setRow g (Mem.splice cur (t*34) (refL r))).heap[k]?=w.heap[k]?:=fun k hk=>setRow_other w g k _ hk
 have hsz:(w.setRow g (Mem.splice cur (t*34) (refL r))).heap.size=w.heap.size:=by simp
 refine ⟨g,cap,cur,rfl,hcur,hfit,slrf_cell hsl rfl ht,below_row h.b hg _,h.gd,h.row.row_other _ (fun e=>hgd e.symm),⟨?_,h.mp.g,fun x hx=>?_,h.mp.dis⟩,h.e.mono fun a c x=>⟨x.1,x.2.keep (by omega) fun k hd _=>ko k fun e=>(h.d k hd).2.2.2.2.2 q _ hq hv (by rw [e];exact hg1)⟩,
  ownsRow_keep h.po fun k hk=>ko k fun e=>hgp (by rw [←e];exact hk),fun k hk=>by rw [hsz];exact h.d k hk,h.kl,h.rw,fun x hx y hy=>?_⟩
 ·obtain ⟨n,hm,hn1⟩:=h.mp.m
  exact ⟨n,hm.same (ko bm fun e=>hgm e.symm),hn1⟩
 ·by_cases ex:x=q
  ·subst ex
   rw [if_pos rfl]
   exact ⟨_,hv,hown⟩
  ·rw [if_neg ex]
   obtain ⟨u,eu,hu⟩:=h.mp.own x hx
   refine ⟨u,eu,ownsRow_keep hu fun k hk=>ko k fun e=>?_⟩
   subst e
   exact h.mp.dis q x hq hx (fun e=>ex e.symm) _ u k hv eu hg1 hk
 ·split at hy
  ·rcases List.mem_or_eq_of_mem_set hy with a | a
   ·exact h.mw q hq y a
   ·rw [a];exact hr
  ·exact h.mw x hx y hy
theorem DrI.put {q:Nat} {x:Lb8} (h:DrI w1 w bd bm f key ep p root Q M vp D ws L) (hs:SlB G w v2 x) (hG:∀ k,G k→w1.heap.size≤k∧k < w.heap.size∧k≠bd∧k≠bm∧vp.ownBlock≠some k∧∀ q v,Q q→f (q:Int)=some v→v.ownBlock≠some k)
 (hb3:Below w.heap.size w w3) (ha:App w3 w5 vp vp') (hb5:Below w1.heap.size w3 w5) (ho:w5.ownsRow w1.heap.size 49 2 vp' (L.length+1) (putC ws++[.int .i64 (q:Int),v2]))
 (hA:At w6 bd (drC key ep p root bm vp') 131) (hk:∀ k,k≠bd→w6.heap[k]?=w5.heap[k]?) (hB:∀ B a,Below B a w5→B≤bd→Below B a w6) :
 DrI w1 w6 bd bm f key ep p root Q M vp' (fun k=>D k∨G k) (ws++[(q,v2)]) (L++[(q,x)]):=by
 have z1:=h.b.size;have z3:=hb3.size;have z5:=ha.size
 have z6:w5.heap.size≤w6.heap.size:=(hB 0 w5 (Below.refl _ _) (Nat.zero_le _)).size
 have hbd:=h.row.lt;have hbm:=h.mp.lt
 have npd:vp.ownBlock≠some bd:=own_ne_at h.po h.row (by decide)
 have npm:vp.ownBlock≠some bm:=by obtain ⟨_,hm,_⟩:=h.mp.m;exact hm.ne_own h.po
 have keep:∀ k,k < w.heap.size→k≠bd→vp.ownBlock≠some k→w6.heap[k]?=w.heap[k]?:=fun k hl h1 h2=>by
  rw [hk k h1,ha.k k (by omega) h2,hb3.block k hl]
 have hd5:At w5 bd (drC key ep p root bm vp) 131:=at_appd (h.row.below hb3 hbd) ha npd
 have npd5:vp'.ownBlock≠some bd:=own_ne_at ho hd5 (by decide)
 have hnew:∀ k,k < w.heap.size→vp.ownBlock≠some k→vp'.ownBlock≠some k:=fun k hl hne=>by
  rcases ha.b with e | ⟨g,e,hge⟩
  ·rw [e];exact hne
  ·rw [e];intro c;injection c with c;omega
 refine ⟨hB _ _ ((h.b.trans (hb3.mono z1)).trans hb5) h.gd,h.gd,hA,h.mp.keep (keep bm hbm h.nbm npm) fun q v k hq hv hkk=>?_,?_,?_,fun k hk2=>?_,h.kl,h.rw,h.mw⟩
 ·have hn:=h.nown hq hv
  exact keep k (h.mp.ltq hq hv hkk).2 (fun e=>hn.1 (by rw [←e];exact hkk)) (hn.2.2 k hkk)
 ·refine Each2.snoc ⟨rfl,?_⟩ (h.e.mono fun a c hx=>⟨hx.1,?_⟩)
  ·exact ((hs.keep (by omega) fun k hg hl=>keep k hl (hG k hg).2.2.1 (hG k hg).2.2.2.2.1).mono fun k hg _=>.inr hg)
  ·exact ((hx.2.keep (by omega) fun k hd hl=>keep k hl (h.d k hd).2.2.1 (h.d k hd).2.2.2.2.1).mono fun k hd _=>.inl hd)
 ·rw [putC_snoc,List.length_append]
  exact ownsRow_keep ho fun g hg=>hk g (fun e=>npd5 (by rw [←e];exact hg))
 ·have hh:w1.heap.size≤k∧k < w.heap.size∧k≠bd∧k≠bm∧vp.ownBlock≠some k∧∀ q v,Q q→f (q:Int)=some v→v.ownBlock≠some k:=hk2.elim (h.d k) (hG k)
  exact ⟨hh.1,by omega,hh.2.2.1,hh.2.2.2.1,hnew k hh.2.1 hh.2.2.2.2.1,hh.2.2.2.2.2⟩
end
end Sha
end Go.Proofs.YtlhnegbjoncieaaGreatDoor
namespace Go.Proofs.YtlhnegbjoncieaaGreatDoor
namespace Sha
open Go.RowKit Mem
set_option maxRecDepth 100000
theorem zeroSRf (w:World):(zeroValue 27).run Tryz.prog w=.ok (.slice none 0 0) w:=by kernel_rfl
section
variable {w1 w:World} {bd bm:Nat} {f:Int→Option Value} {key:Lb8} {ep:BitVec 32} {p:Nat} {root:RefV} {Q:Nat→Prop} {M:Nat→List RefV} {vp:Value} {D:Foot} {ws:List (Nat × Value)} {L:List (Nat × Lb8)}
theorem prefRoot_any (h:DrI w1 w bd bm f key ep p root Q M vp D ws L) (h1:p≤216) (i:Nat) (hz:PZ p (i:Int)=(0,0,false)):Calls Tryz.prog 88 #[.pointer (some ⟨bd,0,none⟩),.int .i64 (i:Int)] w fun e w'=>e=.returned (.pointer (some ⟨bd,35,none⟩))∧Below w.heap.size w w':=by
 have pr:=fun wx=>pparent_any p (i:Int) wx h1
 rw [hz] at pr
 have hsh:=h.cells.shp
 have cs:(psC p).size=1:=rfl
 obtain ⟨C,hC⟩:∃ C,C=psC p:=⟨_,rfl⟩
 rw [←hC] at pr hsh cs
 have PR:=zh pr;have SH:=zh hsh;have CS:=zh cs
 clear pr hsh cs hC hz h
 go_enter Tryz.func88,Tryz.ntmps88
 go_wp2_with (refine wpList_load_mid zr 26 _ zr bd 34 zr C.toList _ SH.out Tryz.underlying26 zr (by rw [infoPS,Array.length_toList,CS.out]) ?_;rw [Array.toArray_toList])
 refine (PR.out _).mono ?_
 rintro e w2 ⟨rfl,hb2⟩
 have B2:=zh hb2
 clear hb2
 go_wp2_with fail
 go_ret
 exact ⟨rfl,B2.out⟩
theorem prefSlot_any (h:DrI w1 w bd bm f key ep p root Q M vp D ws L) (h1:p≤216) (i q t:Nat) (hz:PZ p (i:Int)=((q:Int),(t:Int),true)) (g n cap:Nat) (hq:q≤1000) (hv:f (q:Int)=some (.slice (some ⟨g,0,none⟩) n cap)) (ht:t < n) (_hn:n≤6) :
 Calls Tryz.prog 88 #[.pointer (some ⟨bd,0,none⟩),.int .i64 (i:Int)] w fun e w'=>e=.returned (.pointer (some ⟨g,0+t*34,none⟩))∧Below w.heap.size w w':=by
 have pr:=fun wx=>pparent_any p (i:Int) wx h1
 rw [hz] at pr
 have hsh:=h.cells.shp
 have hcm:=h.cells.map
 have hbl:=h.row.lt
 obtain ⟨nm,hm,_⟩:=h.mp.m
 have cs:(psC p).size=1:=rfl
 obtain ⟨C,hC⟩:∃ C,C=psC p:=⟨_,rfl⟩
 rw [←hC] at pr hsh cs
 have hfq:(f (q:Int)).getD (.slice none 0 0)=.slice (some ⟨g,0,none⟩) n cap:=by rw [hv];rfl
 have PR:=zh pr;have SH:=zh hsh;have CS:=zh cs;have CM:=zh hcm;have HM:=zh hm;have FQ:=zh hfq;have BL:=zh hbl;have WQ:=zh (wfI_nat q (by omega))
 have ht':(t:Int) < (n:Int):=by omega
 clear pr hsh cs hC hz h hcm hm hfq hv hbl
 go_enter Tryz.func88,Tryz.ntmps88
 go_wp2_with (refine wpList_load_mid zr 26 _ zr bd 34 zr C.toList _ SH.out Tryz.underlying26 zr (by rw [infoPS,Array.length_toList,CS.out]) ?_;rw [Array.toArray_toList])
 refine (PR.out _).mono ?_
 rintro e w2 ⟨rfl,hb2⟩
 have B2:=zh hb2;have M2:=zh (HM.out.below hb2 HM.out.lt)
 have cm:w2.cell? ⟨bd,69,none⟩=some (.map (some bm)):=(cell_keep hb2 BL.out).trans CM.out
 clear hb2
 go_wp2_with (at_lookup;refine wpList_mapV_look zr 128 _ _ zr 27 M2.out (q:Int) zr zr uInt16 uRf16 (.slice none 0 0) (zeroSRf _) WQ.out (.slice (some ⟨g,0,none⟩) n cap) FQ.out ?_)
 go_ret
 exact ⟨by first | rfl | simp,B2.out⟩
end
end Sha
end Go.Proofs.YtlhnegbjoncieaaGreatDoor
namespace Go.Proofs.YtlhnegbjoncieaaGreatDoor
namespace Sha
open Go.RowKit Mem
set_option maxRecDepth 100000
def DrF (bd:Nat) (vp:Value) (f:Int→Option Value) (Q:Nat→Prop):Foot:=fun k=>k=bd∨vp.ownBlock=some k∨∃ q v,Q q∧f (q:Int)=some v∧v.ownBlock=some k
def HdEnd (w1 w:World) (bd bm:Nat) (f:Int→Option Value) (key:Lb8) (ep:BitVec 32) (p:Nat) (root:RefV) (Q:Nat→Prop) (M:Nat→List RefV) (vp:Value) (D:Foot) (L:List (Nat × Lb8)) (e:Ending) (w':World):Prop:=
 e=.returned (.int .i64 0)∧(∃ vp' D' ws',DrI w1 w' bd bm f key ep p root Q M vp' D' ws' L∧∀ k,D' k→D k∨w.heap.size≤k)∧Chg (DrF bd vp f Q) w w'
section
variable {w1 w:World} {bd bm:Nat} {f:Int→Option Value} {key:Lb8} {ep:BitVec 32} {p:Nat} {root:RefV} {Q:Nat→Prop} {M:Nat→List RefV} {vp:Value} {D:Foot} {ws:List (Nat × Value)} {L:List (Nat × Lb8)}
theorem phide16_core (h:DrI w1 w bd bm f key ep p root Q M vp D ws L) (hT:TT w1) (h1:p≤216) (i:Nat) (hi:i < itn p) (pg:Lb8) (v:Value) (hv:Sl w v pg) (hp:pg.length=256) (old:RefV) (hpl:0≤old.pl∧old.pl≤1) (hL:L.length≤1000)
 (g o:Nat) (C:Array Value) (t:TypeId) (hC:At w g C t) (hfit:o+34≤C.size) (hrg:w.rangeAt g o (refL old)) (hgF:DrF bd vp f Q g)
 (href:Calls Tryz.prog 88 #[.pointer (some ⟨bd,0,none⟩),.int .i64 (i:Int)] w fun e w'=>e=.returned (.pointer (some ⟨g,o,none⟩))∧Below w.heap.size w w')
 (q:Nat) (hq:(q:Int)=2+2*(i:Int)+(1 - old.pl)) (x:Lb8) (r:RefV) (hh:hideR key ep (1 - old.pl) (q:Int) pg=(x,r,0)) (root':RefV) (M':Nat→List RefV)
 (hset:∀ w',DrI w1 w' bd bm f key ep p root Q M vp D ws L→At w' g C t→DrI w1 (w'.setRow g (Mem.splice C o (refL r))) bd bm f key ep p root' Q M' vp D ws L) :
 Calls Tryz.prog 52 #[.pointer (some ⟨bd,0,none⟩),.int .i64 (i:Int),v] w (HdEnd w1 w bd bm f key ep p root' Q M' vp D (L++[(q,x)])):=by
 have hit:=itn_le259 p h1
 have bk0:=fun wx=>pblock_any p (i:Int) (1 - old.pl) wx h1
 have hbz:BZ p (i:Int) (1 - old.pl)=(q:Int):=by unfold BZ;rw [if_pos ⟨⟨by omega,by omega⟩,by omega,by omega⟩,hq]
 rw [hbz] at bk0
 have hrw:r.Wf:=by have:=hideR_wf key ep (1 - old.pl) (q:Int) pg;rw [hh] at this;exact this
 have hlen:x.length=256:=by
  have hg:=hideR_good key ep (1 - old.pl) (q:Int) pg hp (by omega) (by omega) (by omega)
  rw [hh] at hg
  injection hg with hg _
  rw [hg]
  exact (sealL_length ..).trans hp
 have hd:=fun wx (hb:Below w1.heap.size w1 wx) (hs:Sl wx v pg)=>phide_any (F:=fun _=>False) (bp:=.pointer none) (ts:=[]) key h.kl ep (1 - old.pl) (q:Int) (by omega) pg v wx w1 (.inl ⟨rfl,fun _ h=>h⟩) (by simp) hs (by omega) hT.1 hT.2 hb (fun _ h=>h.elim)
 rw [hh] at hd
 have hd:∀ wx:World,Below w1.heap.size w1 wx→Sl wx v pg→Calls Tryz.prog 79 #[.pointer none,.agg (u8s key).toArray,.int .u32 (V ep),.int .i64 (1 - old.pl),.int .i64 (q:Int),v] wx fun e w'=>∃ v',e=.returned (.tuple #[v',.agg (refC r),.int .i64 0])∧SlB (fun k=>wx.heap.size≤k∧k < w'.heap.size) w' v' x∧Below wx.heap.size wx w':=fun wx hb hs=>by
  refine (hd wx hb hs).mono ?_
  rintro e w' ⟨v',F',h4,h5,_,_,h6⟩
  exact ⟨v',h4,h5.mono fun k hk hl=>⟨hk.1,hl⟩,chg_none h6⟩
 have dc:=h.cells
 have hcp:w.cell? ⟨g,o,none⟩=some (.int .i64 old.pl):=range_pl hrg
 obtain ⟨opl,hopl⟩:∃ k,k=old.pl:=⟨_,rfl⟩
 rw [←hopl] at hcp bk0 hd hpl
 obtain ⟨ap,cp,hvp⟩:=rows_hd h.po
 subst hvp
 obtain ⟨nL,hnL⟩:∃ n,n=L.length:=⟨_,rfl⟩
 have hkc:w.rangeAt bd 1 (u8s key).toArray.toList:=dc.key
 have kc:(u8s key).toArray.size=32:=by simp [u8s_length,h.kl]
 obtain ⟨KC,hKC⟩:∃ K,K=(u8s key).toArray:=⟨_,rfl⟩
 have cs:(psC p).size=1:=rfl
 have hsh:=dc.shp
 obtain ⟨CS,hCS⟩:∃ C,C=psC p:=⟨_,rfl⟩
 have rs:=refC_size hrw;have ro:=refC_one r
 have hrm:refL r=(refC r).toList:=rfl
 obtain ⟨MR,hMR⟩:∃ M,M=refC r:=⟨_,rfl⟩
 have hx:=zeroRfP
 have al:∀ wx:World,(Instr.alloc 38 true (.tuple #[])).run Tryz.prog wx=.ok (.pointer (some ⟨wx.heap.size,0,none⟩)) (wx.alloc (.cells (refC zref) 38)):=fun wx=>by kernel_rfl
 have zs:(refC zref).size=34:=refC_size zref_wf
 obtain ⟨Z,hZ⟩:∃ Z,Z=refC zref:=⟨_,rfl⟩
 rw [←hKC] at hkc kc hd
 rw [←hCS] at hsh cs bk0
 rw [←hMR] at rs ro hrm hd
 rw [←hZ] at hx al zs
 have hbdl:=h.row.lt
 have BK:=zh bk0;have HD:=zh hd;have XL:=zh hlen;have CB:=zh dc.book;have CE:=zh dc.ep;have CK:=zh hkc;have SH:=zh hsh;have CSZ:=zh cs;have KS:=zh kc;have MS:=zh rs;have MO:=zh ro;have ZS:=zh zs;have AL:=zh al
 have H0:=zh h;have V0:=zh hv;have HC0:=zh hC;have HFIT:=zh hfit;have HSET:=zh hset;have HRM:=zh hrm;have NL:=zh hnL;have BL:=zh hbdl;have CP:=zh hcp;have RF:=zh href;have HGF:=zh hgF
 obtain ⟨av,cv,rfl⟩:=sl_inv hv
 rw [hp] at V0 HD ⊢
 clear bk0 hd hlen dc hkc hsh cs kc rs ro zs al h hC hfit hset hrm hnL hbdl hcp href hv hh hKC hCS hMR hZ hx hopl hbz hq hrw hrg hT hp hit hi hgF
 go_enter Tryz.func52,Tryz.ntmps52
 go_wp2_with fail
 refine RF.out.mono ?_
 rintro e w2 ⟨rfl,hb2⟩
 have B2:=zh hb2
 have c0:w2.cell? ⟨g,o,none⟩=some (.int .i64 opl):=(cell_keep hb2 HC0.out.lt).trans CP.out
 clear hb2
 go_wp2_with (refine wpList_load_mid zr 26 _ zr bd 34 zr CS.toList _ (range_block SH.out (B2.out.block bd BL.out)) Tryz.underlying26 zr (by rw [infoPS,Array.length_toList,CSZ.out]) ?_;rw [Array.toArray_toList])
 refine (BK.out _).mono ?_
 rintro e w4 ⟨rfl,hb4⟩
 have B4:Hid (Below w.heap.size w w4):=zh (B2.out.trans (hb4.mono B2.out.size))
 clear hb4 c0 B2
 have CB:=zh ((cell_keep B4.out BL.out).trans CB.out);have CE:=zh ((cell_keep B4.out BL.out).trans CE.out);have CK:=zh (range_block CK.out (B4.out.block bd BL.out));have BL4:Hid (bd < w4.heap.size):=zh (Nat.lt_of_lt_of_le BL.out B4.out.size);have V4:=zh (V0.out.below B4.out)
 have HD:Hid (∀ wx:World,Below w4.heap.size w4 wx→Sl wx (.slice av 256 cv) pg→Calls Tryz.prog 79 #[.pointer none,.agg KC,.int .u32 (V ep),.int .i64 (1 - opl),.int .i64 (q:Int),.slice av 256 cv] wx fun e w'=>∃ v',e=.returned (.tuple #[v',.agg MR,.int .i64 0])∧SlB (fun k=>wx.heap.size≤k∧k < w'.heap.size) w' v' x∧Below wx.heap.size wx w'):=zh (fun wx hb hs=>HD.out wx ((H0.out.b.trans (B4.out.mono H0.out.b.size)).trans (hb.mono (Nat.le_trans H0.out.b.size B4.out.size))) hs)
 obtain ⟨M,hM⟩:∃ M,M=MR:=⟨_,rfl⟩
 rw [←hM] at HD MS MO HRM
 clear hM
 go_upto_region 4 with fail
 go_cut [10,11,12] (fun s t u wx=>∃ bl a3 c3,.slice a3 256 c3=s∧.pointer (some ⟨bl,0,none⟩)=t∧u=.int .i64 0∧At wx bl M 38∧SlB (fun k=>w4.heap.size≤k∧k < wx.heap.size∧k≠bl) wx (.slice a3 256 c3) x∧w4.heap.size≤bl∧Below w4.heap.size w4 wx)
 case first=>
  have D0:Hid (Below w4.heap.size w4 w4.drew):=zh (Below.refl _ _).drew
  refine wp_region_plan_in (fun x'=>Below w4.heap.size w4 x') (.take 0 (.take 1 (.take 2 (.take 3 (.take 4 (.take 5 (.take 6 (.take 7 (.take 8 (.take 9 (.take 10 (.take 11 (.take 12 (.take 13 (.take 14 (.two 15 20 (.take 16 (.take 17 (.take 18 (.take 19 (.sole 20 (.take 21 (.sole 22 (.take 23 .done)))))))) (.sole 15 (.take 16 (.take 17 (.take 18 (.take 19 (.take 21 (.sole 22 (.take 23 .done)))))))))))))))))))))))) (by kernel_rfl) (by kernel_rfl) (by kernel_rfl) D0.out ?_
  (first | refine Mem.pm1 ?_ | refine Mem.pm2 ?_ | refine Mem.pt ?_ | refine Mem.pf ?_)
  (simp only [Mem.zp,Mem.pb,Mem.pc])
  refine plan_nilcheck _ ⟨bd,0,none⟩ zr zr zr ze ?_
  (simp only [Mem.zp,Mem.pb,Mem.pc])
  refine plan_field 131 _ 0 bd 0 ⟨bd,0,none⟩ zr zr zr ze (fun wx=>by go_simp) ?_
  (simp only [Mem.zp,Mem.pb,Mem.pc])
  refine plan_cell 101 _ _ (.pointer none) _ zr zr zr ze (fun w' hw'=>(cell_keep hw' BL4.out).trans CB.out) Tryz.underlying101 zr ?_
  (simp only [Mem.zp,Mem.pb,Mem.pc])
  (first | refine Mem.pm1 ?_ | refine Mem.pm2 ?_ | refine Mem.pt ?_ | refine Mem.pf ?_)
  (simp only [Mem.zp,Mem.pb,Mem.pc])
  refine plan_nilcheck _ ⟨bd,0,none⟩ zr zr zr ze ?_
  (simp only [Mem.zp,Mem.pb,Mem.pc])
  refine plan_field 131 _ 1 bd 0 ⟨bd,1,none⟩ zr zr zr ze (fun wx=>by go_simp) ?_
  (simp only [Mem.zp,Mem.pb,Mem.pc])
  refine plan_load_range 22 _ bd (1) _ KC zr zr zr ze (fun w' hw'=>range_block CK.out (hw'.block bd BL4.out)) Tryz.underlying22 zr (by rw [KS.out];kernel_rfl) ?_
  (simp only [Mem.zp,Mem.pb,Mem.pc])
  (first | refine Mem.pm1 ?_ | refine Mem.pm2 ?_ | refine Mem.pt ?_ | refine Mem.pf ?_)
  (simp only [Mem.zp,Mem.pb,Mem.pc])
  refine plan_nilcheck _ ⟨bd,0,none⟩ zr zr zr ze ?_
  (simp only [Mem.zp,Mem.pb,Mem.pc])
  refine plan_field 131 _ 2 bd 0 ⟨bd,33,none⟩ zr zr zr ze (fun wx=>by go_simp) ?_
  (simp only [Mem.zp,Mem.pb,Mem.pc])
  refine plan_cell 36 _ _ (.int .u32 (V ep)) _ zr zr zr ze (fun w' hw'=>(cell_keep hw' BL4.out).trans CE.out) Tryz.underlying36 zr ?_
  (simp only [Mem.zp,Mem.pb,Mem.pc])
  iterate 3 ((first | refine Mem.pm1 ?_ | refine Mem.pm2 ?_ | refine Mem.pt ?_ | refine Mem.pf ?_);(simp only [Mem.zp,Mem.pb,Mem.pc]))
  refine plan_two ?_ ?_
  ·refine plan_call 79 _ _ _ (by kernel_rfl) zr zr zr (by first | exact Mem.ev_none _ | (simp only [List.map_toArray,List.map_cons,List.map_nil,Mem.ev_tmp,List.getD_cons_succ,List.getD_cons_zero] <;> rfl)) ?_
   refine (HD.out _ D0.out (V4.out.below D0.out)).mono ?_
   rintro e' z1 ⟨v7,rfl,hs,hb⟩
   obtain ⟨a7,c7,e7⟩:=sl_inv hs.sl
   rw [XL.out] at e7
   subst e7
   have HS:=zh hs
   have Dz1:Hid (Below w4.heap.size w4 z1):=zh (D0.out.trans (hb.mono D0.out.size))
   have Qz1:=zh hb
   clear hs hb
   refine ⟨_,rfl,Dz1.out,?_⟩
   (simp only [Mem.zp,Mem.pb,Mem.pc])
   (first | refine Mem.pm1 ?_ | refine Mem.pm2 ?_ | refine Mem.pt ?_ | refine Mem.pf ?_)
   (simp only [Mem.zp,Mem.pb,Mem.pc])
   refine plan_extract _ _ #[.slice a7 256 c7,.agg M,.int .i64 0] (.slice a7 256 c7) zr zr zr ze zr ?_
   (simp only [Mem.zp,Mem.pb,Mem.pc])
   refine plan_extract _ _ #[.slice a7 256 c7,.agg M,.int .i64 0] (.agg M) zr zr zr ze zr ?_
   (simp only [Mem.zp,Mem.pb,Mem.pc])
   refine plan_extract _ _ #[.slice a7 256 c7,.agg M,.int .i64 0] (.int .i64 0) zr zr zr ze zr ?_
   (simp only [Mem.zp,Mem.pb,Mem.pc])
   refine plan_alloc _ Z zr zr zr AL.out (Dz1.out.alloc Dz1.out.size _) ?_
   have D3:Hid (Below w4.heap.size w4 (z1.alloc (.cells Z 38))):=zh (Dz1.out.alloc Dz1.out.size _)
   have AG:=zh (at_new z1 Z 38)
   have GE:Hid (w4.heap.size≤z1.heap.size):=zh Dz1.out.size
   have HS3:Hid (SlB (fun k=>w4.heap.size≤k∧k < z1.heap.size+1∧k≠z1.heap.size) (z1.alloc (.cells Z 38)) (.slice a7 256 c7) x):=zh ((HS.out.keep (by simp) fun k _ hl=>((Below.refl z1.heap.size z1).alloc (Nat.le_refl _) _).block k hl).mono fun k hk hl=>⟨hk.1,by have:=hk.2;omega,by have:=hk.2;omega⟩)
   (simp only [Mem.zp,Mem.pb,Mem.pc])
   (first | refine Mem.pm1 ?_ | refine Mem.pm2 ?_ | refine Mem.pt ?_ | refine Mem.pf ?_)
   (simp only [Mem.zp,Mem.pb,Mem.pc])
   refine plan_store 38 _ _ (z1.heap.size) M Z 38 zr zr zr zr ze ze (by rw [MS.out];exact infoRfP) AG.out (by rw [MS.out,ZS.out]) MO.out (below_row D3.out GE.out M) ?_
   (first | refine Mem.pm1 ?_ | refine Mem.pm2 ?_ | refine Mem.pt ?_ | refine Mem.pf ?_)
   (simp only [Mem.zp,Mem.pb,Mem.pc])
   refine plan_nil ?_
   go_wp2_with fail
   go_meet
   exact ⟨_,_,_,rfl,rfl,rfl,At.row (C:=Z) AG.out M,(HS3.out.keep (by simp) fun k hk _=>setRow_other _ _ k _ hk.2.2).mono fun k hk _=>⟨hk.1,by simpa using hk.2.1,hk.2.2⟩,GE.out,below_row D3.out GE.out M⟩
  ·refine plan_alloc _ Z zr zr zr AL.out (D0.out.alloc D0.out.size _) ?_
   have D2:Hid (Below w4.heap.size w4 (w4.drew.alloc (.cells Z 38))):=zh (D0.out.alloc D0.out.size _)
   have AG:=zh (at_new w4.drew Z 38)
   have GE:Hid (w4.heap.size≤w4.drew.heap.size):=zh (Nat.le_refl _)
   have SZ:Hid ((w4.drew.alloc (.cells Z 38)).heap.size=w4.drew.heap.size+1):=zh (by simp)
   (simp only [Mem.zp,Mem.pb,Mem.pc])
   refine plan_call 79 _ _ _ (by kernel_rfl) zr zr zr (by first | exact Mem.ev_none _ | (simp only [List.map_toArray,List.map_cons,List.map_nil,Mem.ev_tmp,List.getD_cons_succ,List.getD_cons_zero] <;> rfl)) ?_
   refine (HD.out _ D2.out (V4.out.below D2.out)).mono ?_
   rintro e' z1 ⟨v7,rfl,hs,hb⟩
   obtain ⟨a7,c7,e7⟩:=sl_inv hs.sl
   rw [XL.out] at e7
   subst e7
   have HS:=zh hs
   have Dz1:Hid (Below w4.heap.size w4 z1):=zh (D2.out.trans (hb.mono D2.out.size))
   have Qz1:=zh hb
   clear hs hb
   refine ⟨_,rfl,Dz1.out,?_⟩
   (simp only [Mem.zp,Mem.pb,Mem.pc])
   (first | refine Mem.pm1 ?_ | refine Mem.pm2 ?_ | refine Mem.pt ?_ | refine Mem.pf ?_)
   (simp only [Mem.zp,Mem.pb,Mem.pc])
   refine plan_extract _ _ #[.slice a7 256 c7,.agg M,.int .i64 0] (.slice a7 256 c7) zr zr zr ze zr ?_
   (simp only [Mem.zp,Mem.pb,Mem.pc])
   refine plan_extract _ _ #[.slice a7 256 c7,.agg M,.int .i64 0] (.agg M) zr zr zr ze zr ?_
   (simp only [Mem.zp,Mem.pb,Mem.pc])
   refine plan_extract _ _ #[.slice a7 256 c7,.agg M,.int .i64 0] (.int .i64 0) zr zr zr ze zr ?_
   (simp only [Mem.zp,Mem.pb,Mem.pc])
   (first | refine Mem.pm1 ?_ | refine Mem.pm2 ?_ | refine Mem.pt ?_ | refine Mem.pf ?_)
   (simp only [Mem.zp,Mem.pb,Mem.pc])
   have AG1:=zh (AG.out.below Qz1.out AG.out.lt)
   refine plan_store 38 _ _ (w4.drew.heap.size) M Z 38 zr zr zr zr ze ze (by rw [MS.out];exact infoRfP) AG1.out (by rw [MS.out,ZS.out]) MO.out (below_row Dz1.out GE.out M) ?_
   (first | refine Mem.pm1 ?_ | refine Mem.pm2 ?_ | refine Mem.pt ?_ | refine Mem.pf ?_)
   (simp only [Mem.zp,Mem.pb,Mem.pc])
   refine plan_nil ?_
   go_wp2_with fail
   go_meet
   exact ⟨_,_,_,rfl,rfl,rfl,At.row (C:=Z) AG1.out M,(HS.out.keep (by simp) fun k hk _=>setRow_other _ _ k _ (by have:=hk.1;have:=SZ.out;omega)).mono fun k hk hl=>⟨by have:=hk.1;have:=SZ.out;have:=GE.out;omega,hl,by have:=hk.1;have:=SZ.out;omega⟩,GE.out,below_row Dz1.out GE.out M⟩
 case rest=>
  obtain ⟨bl,a3,c3,rfl,rfl,rfl,hba,hbs,hbl,hbb⟩:=hcut
  have A5:=zh hba;have S5:=zh hbs;have L5:=zh hbl;have B5:Hid (Below w.heap.size w wc):=zh (B4.out.trans (hbb.mono B4.out.size));have W4:Hid (w.heap.size≤w4.heap.size):=zh B4.out.size
  have H5:=zh (H0.out.below B5.out);have C5:=zh (HC0.out.below B5.out HC0.out.lt)
  clear hba hbs hbl hbb CB CE CK V4 B4
  go_upto_region 8 with (first
   | (refine wpList_load_all zr 38 _ zr bl zr _ Tryz.underlying38 zr M _ A5.out (by rw [MS.out];exact infoRfP) ?_)
   | (refine wpList_store_at zr 38 _ _ zr zr g o M zr zr (by rw [MS.out];exact infoRfP) C _ C5.out (by rw [MS.out];exact HFIT.out) MO.out ?_))
  have H6:Hid (DrI w1 (wc.setRow g (Mem.splice C o M.toList)) bd bm f key ep p root' Q M' (.slice ap L.length cp) D ws L):=zh (by rw [←HRM.out];exact HSET.out wc H5.out C5.out)
  have S6:Hid (SlB (fun k=>w4.heap.size≤k∧k < wc.heap.size∧k≠bl) (wc.setRow g (Mem.splice C o M.toList)) (.slice a3 256 c3) x):=zh (S5.out.keep (by simp) fun k hk _=>setRow_other _ _ k _ (by have:=HC0.out.lt;have:=W4.out;have:=hk.1;omega))
  have K6:Hid (∀ k,k < w.heap.size→k≠g→(wc.setRow g (Mem.splice C o M.toList)).heap[k]?=w.heap[k]?):=zh (fun k hk hne=>by rw [setRow_other _ _ k _ hne];exact B5.out.block k hk)
  have Z6:Hid ((wc.setRow g (Mem.splice C o M.toList)).heap.size=wc.heap.size):=zh (by simp)
  obtain ⟨w6,hw6⟩:∃ y,y=wc.setRow g (Mem.splice C o M.toList):=⟨_,rfl⟩
  rw [←hw6] at H6 S6 K6 Z6 ⊢
  clear hw6
  rw [←NL.out] at H6 ⊢
  have O7:Hid ((w6.alloc (.cells (ptRow q (.slice a3 256 c3)) 49)).ownsRow w1.heap.size 49 2 (.slice ap nL cp) nL (putC ws)):=zh (by
   have h:=World.ownsRow.alloc H6.out.po (.cells (ptRow q (.slice a3 256 c3)) 49)
   rw [←NL.out] at h
   exact h)
  have P7:Hid (At (w6.alloc (.cells (ptRow q (.slice a3 256 c3)) 49)) bd (drC key ep p root' bm (.slice ap nL cp)) 131):=zh (H6.out.row.alloc _)
  have cp0:w6.cell? ⟨bd,70,none⟩=some (.slice ap nL cp):=H6.out.cells.puts
  have B7:Hid (w1.heap.size≤(w6.alloc (.cells (ptRow q (.slice a3 256 c3)) 49)).heap.size):=zh (by have:=H6.out.b.size;simp;omega)
  have Q7:Hid (Below w6.heap.size w6 (w6.alloc (.cells (ptRow q (.slice a3 256 c3)) 49))):=zh ((Below.refl _ _).alloc (Nat.le_refl _) _)
  have BLD:=zh (buildPt q);have BT:=zh (builtPt q)
  go_upto_region 9 with (first
   | (refine Mem.wpList_build zr 49 _ #[(0,.int .i64 (q:Int)),(1,.slice a3 256 c3)] (.agg (ptRow q (.slice a3 256 c3))) zr (by first | rfl | simp [Act.eval]) (fun wx=>BLD.out _ _ _ wx) ?_)
   | ((refine Go.Great.wpList_buildSliceTo zr 40 49 1 _ zr _ zr _ zr Tryz.underlying40 (ptRow q (.slice a3 256 c3)) (by first | (simp [Act.eval,Act.put];exact BT.out _ _ _) | (go_simp;exact BT.out _ _ _) | (simp only [List.map_toArray,List.map_cons,List.map_nil];exact BT.out _ _ _)) ?_))
   | (at_builtin;go_loud (refine wpList_append_app zr _ _ 40 zr (.slice (some ⟨w6.heap.size,0,none⟩) 1 1) nL 1 2 [.int .i64 (q:Int),.slice a3 256 c3] (.agg #[.int .i64 0,.slice none 0 0]) 32 elemPt zr (by decide) zr O7.out zr (by exact rdR_new (e:=49) (C:=ptRow q (.slice a3 256 c3))) (by simp [Value.oneCell']) (by have:=NL.out;omega) (by have:=NL.out;omega) B7.out ?_);intro v8 w8 ho8 ha8 hb8;obtain ⟨a8,c8,rfl⟩:=rows_hd ho8;have O8:=zh ho8;have A8:=zh ha8;have B8:=zh hb8;have P8:=zh (at_appd P7.out ha8 (own_ne_at O7.out P7.out (by decide)));clear ho8 ha8 hb8)
   | (refine Mem.wpList_store_one zr 40 _ _ zr zr bd 70 (.slice a8 (nL+1) c8) zr zr zr infoPts _ 131 P8.out (by rw [drC_size H6.out.kl H6.out.rw];decide) ?_;intro w9 ha9 ho9 hb9;have A9:=zh ha9;have H9:=zh ho9;have B9:=zh hb9;clear ha9 ho9 hb9))
  clear cp0
  have A10:Hid (At w9 bd (drC key ep p root' bm (.slice a8 (nL+1) c8)) 131):=zh (by rw [←dr_puts H6.out.kl H6.out.rw (.slice a8 (nL+1) c8)];exact A9.out)
  have I9:Hid (DrI w1 w9 bd bm f key ep p root' Q M' (.slice a8 (nL+1) c8) (fun k=>D k∨(w4.heap.size≤k∧k < wc.heap.size∧k≠bl)) (ws++[(q,.slice a3 256 c3)]) (L++[(q,x)])):=zh (by
   have hn:=NL.out
   subst hn
   have h0:=H0.out
   refine DrI.put H6.out S6.out (fun k hk=>?_) Q7.out A8.out B8.out O8.out A10.out (fun k hk=>H9.out k hk) (fun B a hb hle=>B9.out B a hb hle)
   have hw:=W4.out
   have hkw:w.heap.size≤k:=Nat.le_trans hw hk.1
   have hb0:=h0.b.size
   have hbd:=h0.row.lt
   have hbm:=h0.mp.lt
   refine ⟨by omega,by have:=Z6.out;omega,by omega,by omega,fun e=>?_,fun q v hq hv e=>?_⟩
   ·have:=(World.ownsRow.lt h0.po k e).2;omega
   ·have:=(h0.mp.ltq hq hv e).2;omega)
  have CH:Hid (Chg (DrF bd (.slice ap nL cp) f Q) w w9):=zh (by
   have b0:=H0.out.b;have b9:=I9.out.b
   have s1:=Q7.out.size;have s2:=A8.out.size;have s3:=(B9.out 0 w8 (Below.refl _ _) (Nat.zero_le _)).size;have s4:=Z6.out;have s5:=B5.out.size
   refine ⟨b9.os.trans b0.os.symm,b9.tape.trans b0.tape.symm,b9.output.trans b0.output.symm,by omega,fun k hk hn=>?_⟩
   have n1:k≠bd:=fun e=>hn (.inl e)
   have n2:(Value.slice ap nL cp).ownBlock≠some k:=fun e=>hn (.inr (.inl e))
   have n3:k≠g:=fun e=>hn (by rw [e,NL.out];exact HGF.out)
   rw [H9.out k n1,A8.out.k k (by omega) n2,Q7.out.block k (by omega),K6.out k hk n3])
  go_wp2_with fail
  go_ret
  exact ⟨rfl,⟨_,_,_,I9.out,fun k hk=>hk.imp id fun g=>Nat.le_trans W4.out g.1⟩,by rw [←NL.out];exact CH.out⟩
end
end Sha
end Go.Proofs.YtlhnegbjoncieaaGreatDoor
