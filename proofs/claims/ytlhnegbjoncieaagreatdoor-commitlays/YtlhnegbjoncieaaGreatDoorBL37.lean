/- My own texts, merged. -/
import Derived.Test.YtlhnegbjoncieaaGreatDoorBL35
import Derived.Test.YtlhnegbjoncieaaGreatDoorBL08
import Derived.Test.YtlhnegbjoncieaaGreatDoorBL26
import Derived.Test.YtlhnegbjoncieaaGreatDoorBL05
set_option maxRecDepth 100000
set_option maxHeartbeats 2000000
namespace Go.Proofs.YtlhnegbjoncieaaGreatDoor
namespace Sha
open Go.RowKit Mem
set_option maxRecDepth 100000
def needI (p:Nat) (L:List Int):List Int:=(needT p L).map fun (i:Nat)=>(i:Int)
theorem needT_lt (p:Nat) (L:List Int):(needT p L).Pairwise (· < ·):=List.Pairwise.filter _ List.pairwise_lt_range
theorem needI_le (p:Nat) (L:List Int):(needI p L).Pairwise (·≤·):=by
 unfold needI
 rw [List.pairwise_map]
 exact (needT_lt p L).imp fun h=>by omega
theorem needI_nodup (p:Nat) (L:List Int):(needI p L).Nodup:=by
 unfold needI List.Nodup
 rw [List.pairwise_map]
 exact (needT_lt p L).imp fun h=>by omega
theorem mem_needI (p:Nat) (L:List Int) (z:Int):z∈needI p L ↔ ∃ i:Nat,z=(i:Int)∧i < itn p∧isN p L i=true:=by
 unfold needI
 rw [List.mem_map]
 constructor
 ·rintro ⟨i,hi,rfl⟩;exact ⟨i,rfl,(mem_need p L i).1 hi⟩
 ·rintro ⟨i,rfl,hi⟩;exact ⟨i,(mem_need p L i).2 hi,rfl⟩
theorem needT_len (p:Nat) (L:List Int) (h1:p≤216):(needT p L).length≤259:=by
 have h:(needT p L).length≤(List.range (itn p)).length:=List.length_filter_le ..
 rw [List.length_range] at h
 have:=itn_le259 p h1
 omega
theorem needI_len (p:Nat) (L:List Int) (h1:p≤216):(needI p L).length≤259:=by
 unfold needI;rw [List.length_map];exact needT_len p L h1
theorem wz_get (p:Nat) (x:Int) (h1:p≤216) (k:Nat) (hk:k < (WZ p x).length):∃ i:Nat,(WZ p x).getD k 0=(i:Int)∧((i:Int)≠x ↔ p≤i)∧i < itn p:=by
 unfold WZ at *
 split at hk
 ·rename_i hx
  rw [if_pos hx]
  rw [pathZ_length] at hk
  have h0:1≤p:=by omega
  have hl:=itp_lev p x.toNat h0 h1 (by omega) k (by omega)
  refine ⟨itp p x.toNat k,pathZ_get _ _ _ _ hk,?_,?_⟩
  ·by_cases e:k=0
   ·subst e
    have e2:itp p x.toNat 0=x.toNat:=rfl
    omega
   ·have hs:=stn_mono p 1 k (by omega) (by have:=top_le p;omega)
    have e2:stn p 1=p:=rfl
    omega
  ·have hs:=stn_mono p (k+1) (topn p+1) (by omega) (by have:=top_le p;omega)
   unfold itn
   omega
 ·simp at hk
theorem wz_len (p:Nat) (x:Int):(WZ p x).length≤4:=by
 unfold WZ
 split
 ·rw [pathZ_length];have:=top_le p;omega
 ·simp
theorem onW_get (p:Nat) (x:Int) (i:Nat):onW p x i=true ↔ ∃ k,k < (WZ p x).length∧(WZ p x).getD k 0=(i:Int):=by
 unfold onW
 rw [List.contains_iff_mem,List.mem_iff_getElem]
 constructor
 ·rintro ⟨k,hk,e⟩;exact ⟨k,hk,by rw [List.getD_eq_getElem?_getD,List.getElem?_eq_getElem hk];exact e⟩
 ·rintro ⟨k,hk,e⟩;exact ⟨k,hk,by rw [List.getD_eq_getElem?_getD,List.getElem?_eq_getElem hk] at e;exact e⟩
theorem wfI_nat (i:Nat) (h:i≤1000000):wfI (i:Int):=by
 simp [wfI,Lit.wf,IntKind.min,IntKind.max,IntKind.signed,IntKind.bits]
 omega
theorem uUn16:Tryz.prog.underlying 165=some (.map 3 166):=Tryz.underlying165
structure NdI (w0 w:World) (bm:Nat) (M:Array Value) (S:Nat→Prop) (c:Nat):Prop where
 m:∃ n f,MapV w Tryz.prog 3 bm n f∧n≤c∧∀ x:Int,(f x).isSome=true ↔ ∃ i:Nat,x=(i:Int)∧S i
 b:Below w0.heap.size w0 w
 a:At w w0.heap.size M 26
 g:w0.heap.size < bm
theorem NdI.below {w0 w w':World} {bm c:Nat} {M:Array Value} {S:Nat→Prop} (h:NdI w0 w bm M S c) (hb:Below w.heap.size w w'):NdI w0 w' bm M S c:=by
 obtain ⟨⟨n,f,hm,hr⟩,b,a,g⟩:=h
 exact ⟨⟨n,f,hm.below hb hm.lt,hr⟩,b.trans (hb.mono b.size),a.below hb a.lt,g⟩
theorem NdI.alike {w0 w:World} {bm c c':Nat} {M:Array Value} {S S':Nat→Prop} (h:NdI w0 w bm M S c) (hs:∀ i,S i ↔ S' i) (hc:c≤c'):NdI w0 w bm M S' c':=by
 obtain ⟨⟨n,f,hm,hn,hr⟩,b,a,g⟩:=h
 exact ⟨⟨n,f,hm,Nat.le_trans hn hc,fun x=>(hr x).trans ⟨fun ⟨i,e,h⟩=>⟨i,e,(hs i).1 h⟩,fun ⟨i,e,h⟩=>⟨i,e,(hs i).2 h⟩⟩⟩,b,a,g⟩
theorem NdI.put {w0 w w':World} {bm c n:Nat} {f:Int→Option Value} {M:Array Value} {S S':Nat→Prop} {i:Nat} (h:NdI w0 w bm M S c) (hm:MapV w' Tryz.prog 3 bm (n+1) (upd f (i:Int) (some (.agg #[])))) (hn:n≤c) (hr:∀ x:Int,(f x).isSome=true ↔ ∃ i:Nat,x=(i:Int)∧S i)
 (hc:Chg (fun k=>k=bm) w w') (hs:∀ j,S' j ↔ j=i∨S j):NdI w0 w' bm M S' (c+1):=by
 refine ⟨⟨n+1,_,hm,by omega,fun x=>?_⟩,hc.below h.b (fun k e=>by have:=h.g;omega) h.b.size,h.a.chg hc (fun e=>by have:=h.g;omega),h.g⟩
 by_cases e:x=(i:Int)
 ·rw [e,upd_same]
  exact ⟨fun _=>⟨i,rfl,(hs i).2 (.inl rfl)⟩,fun _=>rfl⟩
 ·rw [upd_other _ _ e,hr x]
  constructor
  ·rintro ⟨j,e2,h2⟩;exact ⟨j,e2,(hs j).2 (.inr h2)⟩
  ·rintro ⟨j,e2,h2⟩
   rcases (hs j).1 h2 with g | g
   ·subst g;exact absurd e2 e
   ·exact ⟨j,e2,g⟩
theorem sli_map {w w':World} {v:Value} {l:List Int} {bm n:Nat} {f:Int→Option Value} (h:SlI w v l) (hm:MapV w Tryz.prog 3 bm n f) (hc:Chg (fun k=>k=bm) w w'):SlI w' v l:=by
 obtain ⟨a,cap,e,hcap,hr⟩:=h
 refine ⟨a,cap,e,hcap,fun hne=>?_⟩
 obtain ⟨b,o,ea,hlt,hcell⟩:=hr hne
 have hbm:¬ b=bm:=fun eb=>by
  have h0:=hcell 0 (List.length_pos_iff.2 hne)
  rw [eb,hm.cell] at h0
  cases h0
 refine ⟨b,o,ea,Nat.lt_of_lt_of_le hlt hc.size,fun i hi=>?_⟩
 rw [World.cell?_of_block (w:=w) (w':=w') (a:=⟨b,o+i,none⟩) (hc.block b hlt hbm)]
 exact hcell i hi
theorem OwnV.base {w:World} {B B':Nat} {e:TypeId} {v:Value} {xs:List Value} (h:OwnV w B e v xs) (hb:B'≤B):OwnV w B' e v xs:=ownsRow_base h hb
theorem pneed_any (p:Nat) (L:List Int) (v:Value) (w:World) (hv:SlI w v L) (h1:p≤216) (hl:L.length≤1000):Calls Tryz.prog 46 #[.agg (psC p),v] w fun e w'=>∃ v',e=.returned v'∧OwnV w' w.heap.size 3 v' (iz (needI p L))∧Below w.heap.size w w':=by
 have pth:=fun z wx=>ppath_any p z wx h1
 obtain ⟨av,cv,rfl⟩:=hv.hd
 have hwg:=fun x k hk=>wz_get p x h1 k hk
 have hwl:=fun x=>wz_len p x
 have IB:=zh (itn_le259 p h1)
 have how:=fun x i=>onW_get p x i
 obtain ⟨on,hon⟩:∃ f,f=onW p:=⟨_,rfl⟩
 obtain ⟨WY,hWY⟩:∃ f,f=WZ p:=⟨_,rfl⟩
 have hend:∀ (wx:World) (bm:Nat) (M:Array Value),NdI w wx bm M (fun i=>p≤i∧∃ t,t < L.length∧on (L.getD t 0) i=true) (4*L.length)→∃ n f,MapV wx Tryz.prog 3 bm n f∧∀ x,x∈needI p L ↔ (f x).isSome=true:=fun wx bm M h=>by
  obtain ⟨⟨n,f,hm,_,hr⟩,_⟩:=h
  refine ⟨n,f,hm,fun x=>?_⟩
  rw [hr x,mem_needI]
  refine ⟨fun ⟨i,e,h1,h2⟩=>?_,fun ⟨i,e,h1,h2⟩=>?_⟩
  ·obtain ⟨a,y,hy,b⟩:=(isN_iff p L i).1 h2
   obtain ⟨t,ht,e2⟩:=List.mem_iff_getElem.1 hy
   exact ⟨i,e,a,t,ht,by rw [hon,List.getD_eq_getElem?_getD,List.getElem?_eq_getElem ht,Option.getD_some,e2];exact b⟩
  ·obtain ⟨t,ht,b⟩:=h2
   rw [hon,List.getD_eq_getElem?_getD,List.getElem?_eq_getElem ht,Option.getD_some] at b
   obtain ⟨hx,k,hk,e3⟩:=(onW_iff p _ i).1 b
   have hlv:=itp_lev p (L[t].toNat) (by omega) (by omega) (by omega) k hk
   have hs:=stn_mono p (k+1) (topn p+1) (by omega) (by have:=top_le p;omega)
   exact ⟨i,e,by unfold itn;omega,(isN_iff p L i).2 ⟨h1,_,List.getElem_mem ht,b⟩⟩
 rw [←hon] at how
 rw [←hWY] at pth hwg hwl how
 have hnd:=needI_nodup p L
 have hls:=needI_len p L h1
 have hso:=sortI_sorted (needI_le p L)
 obtain ⟨KS,hKS⟩:∃ K,K=needI p L:=⟨_,rfl⟩
 rw [←hKS] at hnd hls hso hend ⊢
 obtain ⟨n,hn⟩:∃ n,n=L.length:=⟨_,rfl⟩
 rw [←hn] at hv hl hend ⊢
 have ha:=at_new w (psC p) 26
 have hb:Below w.heap.size w (w.alloc (.cells (psC p) 26)):=(Below.refl _ _).alloc (Nat.le_refl _) _
 have ms:(psC p).size=1:=rfl
 have hz1:(w.alloc (.cells (psC p) 26)).heap.size=w.heap.size+1:=by simp
 obtain ⟨M,hM⟩:∃ M,M=psC p:=⟨_,rfl⟩
 rw [←hM] at pth ha hb ms hz1 ⊢
 have PTH:=zh pth;have WG:=zh hwg;have WL:=zh hwl;have OW:=zh how;have HE:=zh hend;have ND:=zh hnd;have LS:=zh hls;have SO:=zh hso;have HV:=zh hv;have HN:=zh hn;have HA:=zh ha;have HB:=zh hb;have MS:=zh ms;have Z1:=zh hz1
 clear pth hwg hwl how hend hnd hls hso hv hn ha hb ms hz1 hon hWY hKS hM
 go_enter Tryz.func46,Tryz.ntmps46
 go_upto_region 1 with fail
 generalize w.alloc (.cells M 26)=w1 at *
 have hm2:=mapV_made w1 Tryz.prog 3
 have I2:Hid (NdI w (w1.alloc (.map #[] 0)) w1.heap.size M (fun _=>False) 0):=zh ⟨⟨0,_,hm2,Nat.le_refl _,fun x=>by simp⟩,HB.out.alloc HB.out.size _,HA.out.alloc _,by rw [Z1.out];omega⟩
 clear hm2
 go_upto_region 3 with (refine wpList_mapV_made zr 165 zr ?_)
 obtain ⟨bm,hbm⟩:∃ bm,bm=w1.heap.size:=⟨_,rfl⟩
 rw [←hbm] at I2 ⊢
 clear hbm
 generalize w1.alloc (.map #[] 0)=w2 at *
 go_loopw [13] (fun vi wr=>∃ j:Nat,j≤n∧vi=.int .i64 (j:Int)∧NdI w wr bm M (fun i=>p≤i∧∃ t,t < j∧on (L.getD t 0) i=true) (4*j)) (fun vi _=>n - (intOf vi).toNat)
 case atStart=>exact ⟨0,by omega,rfl,I2.out.alike (fun i=>⟨fun h=>h.elim,fun ⟨_,t,h,_⟩=>by omega⟩) (by omega)⟩
 case round=>
  obtain ⟨j,hj,rfl,hI⟩:=hrel
  have I3:=zh hI;have VW:=zh (HV.out.below hI.b)
  clear hI
  by_cases hlt:j < n
  ·have hlt':(j:Int) < (n:Int):=by omega
   obtain ⟨b1,o1,e1,hlb,cx0⟩:=sli_at (i:=j) VW.out HN.out hlt
   subst e1
   have pj:=fun wx=>PTH.out (L.getD j 0) wx
   have wgj:=fun k hk=>WG.out (L.getD j 0) k hk
   have wlj:=WL.out (L.getD j 0)
   have owj:=fun i=>OW.out (L.getD j 0) i
   have hstep:∀ i,(p≤i∧∃ t,t < j+1∧on (L.getD t 0) i=true) ↔ (p≤i∧∃ t,t < j∧on (L.getD t 0) i=true)∨(p≤i∧on (L.getD j 0) i=true):=fun i=>by
    constructor
    ·rintro ⟨h,t,ht,hh⟩
     by_cases e:t=j
     ·subst e;exact .inr ⟨h,hh⟩
     ·exact .inl ⟨h,t,by omega,hh⟩
    ·rintro (⟨h,t,ht,hh⟩ | ⟨h,hh⟩)
     ·exact ⟨h,t,by omega,hh⟩
     ·exact ⟨h,j,by omega,hh⟩
   obtain ⟨x,hx⟩:∃ x,x=L.getD j 0:=⟨_,rfl⟩
   rw [←hx] at pj wgj wlj owj hstep cx0
   have PJ:=zh pj;have WGJ:=zh wgj;have WLJ:=zh wlj;have OWJ:=zh owj;have ST:=zh hstep
   clear pj wgj wlj owj hstep hx hlb
   obtain ⟨SJ,hSJ⟩:∃ SJ:Nat→Prop,SJ=fun i=>p≤i∧∃ t,t < j∧on (L.getD t 0) i=true:=⟨_,rfl⟩
   rw [←hSJ] at I3
   have HSJ:=zh hSJ
   clear hSJ
   go_wp2_with (refine wpList_load_all zr 26 _ zr w.heap.size zr _ Tryz.underlying26 zr M _ I3.out.a (by rw [MS.out];exact infoPS) ?_)
   refine (PJ.out _).mono ?_
   rintro e w4 ⟨v4,rfl,hs4,hb4⟩
   have I4:=zh (I3.out.below hb4);have S4:=zh hs4
   obtain ⟨a4,c4,e4⟩:=hs4.hd
   subst e4
   obtain ⟨K,hK⟩:∃ K,K=(WY x).length:=⟨_,rfl⟩
   rw [←hK] at S4 WGJ WLJ
   have HK:=zh hK
   rw [←hK]
   have hk4:K≤4:=WLJ.out
   clear hs4 hb4 hK cx0
   go_upto_region 6 with fail
   go_loopw [21] (fun vi wr=>∃ k:Nat,k≤K∧vi=.int .i64 (k:Int)∧SlI wr (.slice a4 K c4) (WY x)∧NdI w wr bm M (fun i=>SJ i∨(p≤i∧∃ k',k' < k∧(WY x).getD k' 0=(i:Int))) (4*j+k)) (fun vi _=>K - (intOf vi).toNat)
   case atStart=>exact ⟨0,by omega,rfl,S4.out,I4.out.alike (fun i=>⟨.inl,fun h=>h.elim id fun ⟨_,k',h,_⟩=>by omega⟩) (by omega)⟩
   case round=>
    obtain ⟨k,hk,rfl,hs,hI⟩:=hrel
    have I5:=zh hI;have S5:=zh hs
    clear hI hs
    by_cases hkt:k < K
    ·have hkt':(k:Int) < (K:Int):=by omega
     obtain ⟨i,hi,hne,hit⟩:=WGJ.out k hkt
     obtain ⟨b2,o2,e2,hlb2,cy0⟩:=sli_at (i:=k) S5.out HK.out hkt
     subst e2
     rw [hi] at cy0
     have hstk:∀ i',(SJ i'∨(p≤i'∧∃ k',k' < k+1∧(WY x).getD k' 0=(i':Int))) ↔ (SJ i'∨(p≤i'∧∃ k',k' < k∧(WY x).getD k' 0=(i':Int)))∨(p≤i'∧i'=i):=fun i'=>by
      constructor
      ·rintro (h | ⟨h,k',hk',hh⟩)
       ·exact .inl (.inl h)
       ·by_cases e:k'=k
        ·subst e;exact .inr ⟨h,by omega⟩
        ·exact .inl (.inr ⟨h,k',by omega,hh⟩)
      ·rintro ((h | ⟨h,k',hk',hh⟩) | ⟨h,e⟩)
       ·exact .inl h
       ·exact .inr ⟨h,k',by omega,hh⟩
       ·exact .inr ⟨h,k,by omega,by rw [hi,e]⟩
     have STK:=zh hstk;have HNE:=zh hne;have HWF:=zh (wfI_nat i (by have:=IB.out;omega))
     clear hstk hne hi hlb2
     obtain ⟨z,hz⟩:∃ z:Int,z=(i:Int):=⟨_,rfl⟩
     rw [←hz] at cy0
     have HZ:=zh hz
     clear hz
     by_cases hzx:z=x
     ·have hzx2:(z == x)=true:=by simpa using hzx
      have I6:Hid (NdI w wr bm M (fun i=>SJ i∨(p≤i∧∃ k',k' < k+1∧(WY x).getD k' 0=(i:Int))) (4*j+(k+1))):=zh (I5.out.alike (fun i'=>by
       rw [STK.out i']
       refine ⟨.inl,fun h=>h.elim id fun ⟨h1,h2⟩=>?_⟩
       subst h2
       exact absurd ((by rw [←HZ.out];exact hzx):(i':Int)=x) (HNE.out.2 h1)) (by omega))
      clear hzx
      go_wp2_with fail
      go_roundw
      case rel=>exact ⟨k+1,by omega,by go_num,S5.out,I6.out⟩
      case measure=>simp [intOf];omega
     ·have hzx2:(z == x)=false:=by simpa using hzx
      have hpi:p≤i:=HNE.out.1 (by rw [←HZ.out];exact hzx)
      have I50:=I5.out
      obtain ⟨⟨nm,f,hm,hnm,hr⟩,_⟩:=I50
      have HM:=zh hm;have HR:=zh hr;have HNM:=zh hnm
      rw [HZ.out] at cy0 hzx2
      clear hm hr hnm hzx
      go_wp2_with (at_mapUpdate;refine wpList_mapV_put zr 165 _ _ _ zr 166 HM.out (i:Int) (.agg #[]) zr zr zr uInt16 uUn16 (by have:=HNM.out;unfold maxLen;omega) HWF.out ?_;intro w8 hm8 hc8 hz8;have S8:=zh (sli_map S5.out HM.out hc8);have I8:Hid (NdI w w8 bm M (fun i=>SJ i∨(p≤i∧∃ k',k' < k+1∧(WY x).getD k' 0=(i:Int))) (4*j+k+1)):=zh (I5.out.put hm8 HNM.out HR.out hc8 (fun i'=>by rw [STK.out i'];exact ⟨fun h=>h.elim .inr fun g=>.inl g.2,fun h=>h.elim (fun g=>.inr ⟨by rw [g];exact hpi,g⟩) .inl⟩));clear hm8 hc8 hz8)
      go_roundw
      case rel=>exact ⟨k+1,by omega,by go_num,S8.out,I8.out.alike (fun _=>Iff.rfl) (by omega)⟩
      case measure=>simp [intOf];omega
    ·have hkK:k=K:=by omega
     subst hkK
     have hge:¬ (k:Int) < (k:Int):=by omega
     have I7:Hid (NdI w wr bm M (fun i=>p≤i∧∃ t,t < j+1∧on (L.getD t 0) i=true) (4*(j+1))):=zh (I5.out.alike (fun i=>by
      rw [ST.out i,HSJ.out,OWJ.out i,HK.out]) (by omega))
     go_wp2_with fail
     go_roundw
     case rel=>exact ⟨j+1,by omega,by go_num,I7.out⟩
     case measure=>simp [intOf];omega
  ·have hjn:j=n:=by omega
   subst hjn
   have hge:¬ (j:Int) < (j:Int):=by omega
   obtain ⟨nm,f,hm,hks⟩:=HE.out _ _ _ I3.out
   have SRT:=zh (pSortedI_any hm ND.out hks (by have:=LS.out;omega))
   rw [SO.out] at SRT
   have B3:=zh I3.out.b
   clear hm hks
   go_wp2_with fail
   refine (pKeysI_any _ _).mono ?_
   rintro e w5 ⟨rfl,rfl⟩
   go_wp2_with fail
   refine SRT.out.mono ?_
   rintro e w6 ⟨v6,rfl,ho6,hb6⟩
   have O6:=zh (OwnV.base ho6 B3.out.size);have B6:=zh (B3.out.trans (hb6.mono B3.out.size))
   clear ho6 hb6
   go_wp2_with fail
   go_ret
   exact ⟨_,rfl,O6.out,B6.out⟩
def chRow (z:Int) (v:Value):Array Value:=#[.int .i64 z,v]
theorem chRow_one (z:Int) (a:Option Addr) (n c:Nat):(chRow z (.slice a n c)).all (·.oneCell')=true:=by simp [chRow,Value.oneCell']
theorem infoCh16:(Tryz.prog.info? 55).map (·.size)=some 2:=by kernel_rfl
theorem pareCh_any (p:Nat) (C:List ChV) (v:Value) (w:World) (hv:SlCh w v C) (h1:p≤216) (hl:C.length≤1000):Calls Tryz.prog 85 #[.agg (psC p),v] w (VEnd (.bool (decide (riseT p C))) w):=by
 have pg:=fun wx=>ppages_any p wx
 obtain ⟨av,cv,rfl⟩:=hv.hd
 have hno:∀ j,j < C.length→¬ okCh p C j→decide (riseT p C)=false:=fun j hj h=>decide_eq_false fun g=>h ((rise_iff p C).1 g j hj)
 have hyes:(∀ j,j < C.length→okCh p C j)→decide (riseT p C)=true:=fun h=>decide_eq_true ((rise_iff p C).2 h)
 have hnx:=fun j (hj:j≤C.length) h=>nxt_le p C j hj h
 have hok:∀ j,okCh p C j=(nxtC C j≤(C.getD j zch).1∧(C.getD j zch).1 < (p:Int)∧(C.getD j zch).2.length=256):=fun _=>rfl
 have hs1:∀ j,nxtC C (j+1)=(C.getD j zch).1+1:=fun j=>by unfold nxtC;rw [if_neg (by omega),Nat.add_sub_cancel]
 have hn0:nxtC C 0=0:=by unfold nxtC;rw [if_pos rfl]
 obtain ⟨Y,hY⟩:∃ Y,Y=decide (riseT p C):=⟨_,rfl⟩
 rw [←hY] at hno hyes ⊢
 obtain ⟨n,hn⟩:∃ n,n=C.length:=⟨_,rfl⟩
 rw [←hn] at hv hl hno hyes hnx ⊢
 obtain ⟨nxt,hnxt⟩:∃ f:Nat→Int,f=nxtC C:=⟨_,rfl⟩
 rw [←hnxt] at hnx hok hs1 hn0
 obtain ⟨okc,hokc⟩:∃ f:Nat→Prop,f=okCh p C:=⟨_,rfl⟩
 rw [←hokc] at hno hyes hnx hok
 have ha:=at_new w (psC p) 26
 have hb:Below w.heap.size w (w.alloc (.cells (psC p) 26)):=(Below.refl _ _).alloc (Nat.le_refl _) _
 have ms:(psC p).size=1:=rfl
 obtain ⟨M,hM⟩:∃ M,M=psC p:=⟨_,rfl⟩
 rw [←hM] at pg ha hb ms ⊢
 have PG:=zh pg;have HV:=zh hv;have NO:=zh hno;have YES:=zh hyes;have NX:=zh hnx;have OK:=zh hok;have S1:=zh hs1;have N0:=zh hn0;have HN:=zh hn;have HA:=zh ha;have HB:=zh hb;have MS:=zh ms
 clear pg hv hno hyes hnx hok hs1 hn0 hn ha hb ms hY hnxt hokc hM
 go_enter Tryz.func85,Tryz.ntmps85
 go_upto_region 1 with fail
 generalize w.alloc (.cells M 26)=w1 at *
 go_wp2_with fail
 go_loopw [5,10] (fun vn vi wr=>∃ j:Nat,j≤n∧vi=.int .i64 (j:Int)∧vn=.int .i64 (nxt j)∧(∀ i,i < j→okc i)∧Below w.heap.size w wr∧At wr w.heap.size M 26) (fun _ vi _=>n - (intOf vi).toNat)
 case atStart=>exact ⟨0,by omega,rfl,by rw [N0.out],fun i hi=>by omega,HB.out,HA.out⟩
 case round=>
  obtain ⟨j,hj,rfl,rfl,hal,hbw,haw⟩:=hrel
  have BW:=zh hbw;have AL:=zh hal;have AW:=zh haw;have VW:=zh (HV.out.below hbw)
  clear hal hbw haw
  by_cases hlt:j < n
  ·have hlt':(j:Int) < (n:Int):=by omega
   obtain ⟨b1,o1,u,e1,hlb,cz0,cu0,hsu⟩:=slch_at (i:=j) VW.out HN.out hlt
   subst e1
   have hokj:=OK.out j
   have hs:=S1.out j
   have hnj:=NO.out j hlt
   have hnx:=NX.out j hj AL.out
   obtain ⟨x,hx⟩:∃ x,x=(C.getD j zch).2:=⟨_,rfl⟩
   obtain ⟨z,hz⟩:∃ z,z=(C.getD j zch).1:=⟨_,rfl⟩
   rw [←hx,←hz] at hokj
   rw [←hz] at hs
   rw [←hx] at hsu
   obtain ⟨a3,cap3,rfl⟩:=sl_inv hsu
   obtain ⟨m,hm⟩:∃ m,m=x.length:=⟨_,rfl⟩
   rw [←hm] at hokj
   rw [←hm] at cu0
   have cz:wr.cell? ⟨b1,o1+j*2,none⟩=some (.int .i64 z):=by rw [hz];exact cz0
   have cu:wr.cell? ⟨b1,o1+j*2+1,none⟩=some (.slice a3 m cap3):=cu0
   clear cz0 cu0
   have A3:=zh (at_new wr (chRow z (.slice a3 m cap3)) 55)
   have B3:Hid (Below w.heap.size w (wr.alloc (.cells (chRow z (.slice a3 m cap3)) 55))):=zh (BW.out.alloc BW.out.size _)
   have AS3:=zh (AW.out.alloc (.cells (chRow z (.slice a3 m cap3)) 55))
   have OKJ:=zh hokj;have HS:=zh hs;have NOJ:=zh hnj;have NXJ:=zh hnx
   clear hokj hs hnj hnx hsu hx hz hm hlb
   go_upto_region 5 with (refine wpList_store_new zr 55 _ _ zr zr (chRow z (.slice a3 m cap3)) _ _ zr zr (by exact infoCh16) zr (chRow_one _ _ _ _) ?_)
   clear cz cu
   obtain ⟨bx,hbx⟩:∃ bx,bx=wr.heap.size:=⟨_,rfl⟩
   rw [←hbx] at A3 ⊢
   clear hbx
   generalize wr.alloc (.cells (chRow z (.slice a3 m cap3)) 55)=w3 at *
   by_cases g1:z < nxt j
   ·have LT:Hid (decide (z < nxt j)=true):=zh (decide_eq_true g1)
    have HY:=zh (NOJ.out (by rw [OKJ.out];omega))
    clear g1
    refine wp_region_plan_in (fun x'=>Below w3.heap.size w3 x') (.take 0 (.take 1 (.take 2 (.take 3 (.take 4 (.take 5 (.take 6 (.take 7 (.sole 8 (.take 9 (.take 10 (.take 11 (.take 12 (.take 13 (.take 14 (.take 15 (.take 16 .done))))))))))))))))) (by kernel_rfl) (by kernel_rfl) (by kernel_rfl) (Below.refl _ _).drew ?_
    refine plan_field 55 _ 0 bx 0 ⟨bx,0,none⟩ zr zr zr ze (fun wx=>by go_simp) ?_
    (simp only [Mem.zp,Mem.pb,Mem.pc])
    refine plan_cell 3 _ _ (.int .i64 z) _ zr zr zr ze (fun w' hw'=>(hw'.cell (p:=⟨bx,0,none⟩) A3.out.lt).trans ((A3.out.cell 0).trans rfl)) Tryz.underlying3 zr ?_
    (simp only [Mem.zp,Mem.pb,Mem.pc])
    (first | refine Mem.pm1 ?_ | refine Mem.pm2 ?_ | refine Mem.pt ?_ | refine Mem.pf ?_)
    (simp only [Mem.zp,Mem.pb,Mem.pc])
    refine plan_bin _ _ _ _ _ _ _ (.bool true) zr zr zr ze ze (fun wx=>o_ilt1 z (nxt j) true LT.out _ _ _ _ wx) ?_
    (simp only [Mem.zp,Mem.pb,Mem.pc])
    (first | refine Mem.pm1 ?_ | refine Mem.pm2 ?_ | refine Mem.pt ?_ | refine Mem.pf ?_)
    (simp only [Mem.zp,Mem.pb,Mem.pc])
    refine plan_skip zr zr ?_
    (simp only [Mem.zp,Mem.pb,Mem.pc])
    refine plan_skip zr zr ?_
    (simp only [Mem.zp,Mem.pb,Mem.pc])
    refine plan_skip zr zr ?_
    (simp only [Mem.zp,Mem.pb,Mem.pc])
    refine plan_sole_skip zr zr ((Below.refl _ _).drew) ?_
    (simp only [Mem.zp,Mem.pb,Mem.pc])
    refine plan_skip zr zr ?_
    (simp only [Mem.zp,Mem.pb,Mem.pc])
    refine plan_pick_t _ _ _ _ zr zr zr ze ze ?_
    (simp only [Mem.zp,Mem.pb,Mem.pc])
    (first | refine Mem.pm1 ?_ | refine Mem.pm2 ?_ | refine Mem.pt ?_ | refine Mem.pf ?_)
    (simp only [Mem.zp,Mem.pb,Mem.pc])
    refine plan_skip zr zr ?_
    (simp only [Mem.zp,Mem.pb,Mem.pc])
    refine plan_skip zr zr ?_
    (simp only [Mem.zp,Mem.pb,Mem.pc])
    refine plan_skip zr zr ?_
    (simp only [Mem.zp,Mem.pb,Mem.pc])
    refine plan_skip zr zr ?_
    (simp only [Mem.zp,Mem.pb,Mem.pc])
    refine plan_pick_t _ _ _ _ zr zr zr ze ze ?_
    (simp only [Mem.zp,Mem.pb,Mem.pc])
    refine plan_nil ?_
    go_wp2_with fail
    go_ret
    exact ⟨by rw [HY.out];rfl,B3.out.drew⟩
   ·have LT:Hid (decide (z < nxt j)=false):=zh (decide_eq_false g1)
    by_cases g2:(p:Int)≤z
    ·have GE:Hid (decide ((p:Int)≤z)=true):=zh (decide_eq_true g2)
     have HY:=zh (NOJ.out (by rw [OKJ.out];omega))
     clear g1 g2
     refine wp_region_plan_in (fun x'=>Below w3.heap.size w3 x') (.take 0 (.take 1 (.take 2 (.take 3 (.take 4 (.take 5 (.take 6 (.take 7 (.sole 8 (.take 9 (.take 10 (.take 11 (.take 12 (.take 13 (.take 14 (.take 15 (.take 16 .done))))))))))))))))) (by kernel_rfl) (by kernel_rfl) (by kernel_rfl) (Below.refl _ _).drew ?_
     refine plan_field 55 _ 0 bx 0 ⟨bx,0,none⟩ zr zr zr ze (fun wx=>by go_simp) ?_
     (simp only [Mem.zp,Mem.pb,Mem.pc])
     refine plan_cell 3 _ _ (.int .i64 z) _ zr zr zr ze (fun w' hw'=>(hw'.cell (p:=⟨bx,0,none⟩) A3.out.lt).trans ((A3.out.cell 0).trans rfl)) Tryz.underlying3 zr ?_
     (simp only [Mem.zp,Mem.pb,Mem.pc])
     (first | refine Mem.pm1 ?_ | refine Mem.pm2 ?_ | refine Mem.pt ?_ | refine Mem.pf ?_)
     (simp only [Mem.zp,Mem.pb,Mem.pc])
     refine plan_bin _ _ _ _ _ _ _ (.bool false) zr zr zr ze ze (fun wx=>o_ilt1 z (nxt j) false LT.out _ _ _ _ wx) ?_
     (simp only [Mem.zp,Mem.pb,Mem.pc])
     (first | refine Mem.pm1 ?_ | refine Mem.pm2 ?_ | refine Mem.pt ?_ | refine Mem.pf ?_)
     (simp only [Mem.zp,Mem.pb,Mem.pc])
     refine plan_field 55 _ 0 bx 0 ⟨bx,0,none⟩ zr zr zr ze (fun wx=>by go_simp) ?_
     (simp only [Mem.zp,Mem.pb,Mem.pc])
     refine plan_cell 3 _ _ (.int .i64 z) _ zr zr zr ze (fun w' hw'=>(hw'.cell (p:=⟨bx,0,none⟩) A3.out.lt).trans ((A3.out.cell 0).trans rfl)) Tryz.underlying3 zr ?_
     (simp only [Mem.zp,Mem.pb,Mem.pc])
     refine plan_row 26 _ w.heap.size _ M 26 zr zr zr ze (fun w' hw'=>AS3.out.below hw' AS3.out.lt) Tryz.underlying26 zr (by rw [MS.out];exact infoPS) ?_
     (simp only [Mem.zp,Mem.pb,Mem.pc])
     refine plan_call 54 _ _ _ (by kernel_rfl) zr zr zr (by first | exact Mem.ev_none _ | (simp only [List.map_toArray,List.map_cons,List.map_nil,Mem.ev_tmp,List.getD_cons_succ,List.getD_cons_zero] <;> rfl)) ?_
     refine (PG.out _).mono ?_
     rintro e w4 ⟨rfl,hb4⟩
     have D4:Hid (Below w3.heap.size w3 w4):=zh (Below.trans (Below.refl _ _).drew hb4)
     clear hb4
     refine ⟨_,rfl,D4.out,?_⟩
     (simp only [Mem.zp,Mem.pb,Mem.pc])
     refine plan_bin _ _ _ _ _ _ _ (.bool true) zr zr zr ze ze (fun wx=>o_ige1 z (p:Int) true GE.out _ _ _ _ wx) ?_
     (simp only [Mem.zp,Mem.pb,Mem.pc])
     refine plan_pick_f _ _ _ _ zr zr zr ze ze ?_
     (simp only [Mem.zp,Mem.pb,Mem.pc])
     (first | refine Mem.pm1 ?_ | refine Mem.pm2 ?_ | refine Mem.pt ?_ | refine Mem.pf ?_)
     (simp only [Mem.zp,Mem.pb,Mem.pc])
     refine plan_skip zr zr ?_
     (simp only [Mem.zp,Mem.pb,Mem.pc])
     refine plan_skip zr zr ?_
     (simp only [Mem.zp,Mem.pb,Mem.pc])
     refine plan_skip zr zr ?_
     (simp only [Mem.zp,Mem.pb,Mem.pc])
     refine plan_skip zr zr ?_
     (simp only [Mem.zp,Mem.pb,Mem.pc])
     refine plan_pick_t _ _ _ _ zr zr zr ze ze ?_
     (simp only [Mem.zp,Mem.pb,Mem.pc])
     refine plan_nil ?_
     go_wp2_with fail
     go_ret
     exact ⟨by rw [HY.out];rfl,B3.out.trans (D4.out.mono B3.out.size)⟩
    ·have GE:Hid (decide ((p:Int)≤z)=false):=zh (decide_eq_false g2)
     by_cases g3:m=256
     ·have NE:Hid ((m:Int)=256):=zh (by omega)
      have OK2:Hid (okc j):=zh (by rw [OKJ.out];exact ⟨by omega,by omega,g3⟩)
      have h0z:0≤z:=by have:=NXJ.out.1;omega
      have hpz:z < (p:Int):=by omega
      have hp2:(p:Int)≤216:=by omega
      clear g1 g2 g3
      refine wp_region_plan_in (fun x'=>Below w3.heap.size w3 x') (.take 0 (.take 1 (.take 2 (.take 3 (.take 4 (.take 5 (.take 6 (.take 7 (.sole 8 (.take 9 (.take 10 (.take 11 (.take 12 (.take 13 (.take 14 (.take 15 (.take 16 .done))))))))))))))))) (by kernel_rfl) (by kernel_rfl) (by kernel_rfl) (Below.refl _ _).drew ?_
      refine plan_field 55 _ 0 bx 0 ⟨bx,0,none⟩ zr zr zr ze (fun wx=>by go_simp) ?_
      (simp only [Mem.zp,Mem.pb,Mem.pc])
      refine plan_cell 3 _ _ (.int .i64 z) _ zr zr zr ze (fun w' hw'=>(hw'.cell (p:=⟨bx,0,none⟩) A3.out.lt).trans ((A3.out.cell 0).trans rfl)) Tryz.underlying3 zr ?_
      (simp only [Mem.zp,Mem.pb,Mem.pc])
      (first | refine Mem.pm1 ?_ | refine Mem.pm2 ?_ | refine Mem.pt ?_ | refine Mem.pf ?_)
      (simp only [Mem.zp,Mem.pb,Mem.pc])
      refine plan_bin _ _ _ _ _ _ _ (.bool false) zr zr zr ze ze (fun wx=>o_ilt1 z (nxt j) false LT.out _ _ _ _ wx) ?_
      (simp only [Mem.zp,Mem.pb,Mem.pc])
      (first | refine Mem.pm1 ?_ | refine Mem.pm2 ?_ | refine Mem.pt ?_ | refine Mem.pf ?_)
      (simp only [Mem.zp,Mem.pb,Mem.pc])
      refine plan_field 55 _ 0 bx 0 ⟨bx,0,none⟩ zr zr zr ze (fun wx=>by go_simp) ?_
      (simp only [Mem.zp,Mem.pb,Mem.pc])
      refine plan_cell 3 _ _ (.int .i64 z) _ zr zr zr ze (fun w' hw'=>(hw'.cell (p:=⟨bx,0,none⟩) A3.out.lt).trans ((A3.out.cell 0).trans rfl)) Tryz.underlying3 zr ?_
      (simp only [Mem.zp,Mem.pb,Mem.pc])
      refine plan_row 26 _ w.heap.size _ M 26 zr zr zr ze (fun w' hw'=>AS3.out.below hw' AS3.out.lt) Tryz.underlying26 zr (by rw [MS.out];exact infoPS) ?_
      (simp only [Mem.zp,Mem.pb,Mem.pc])
      refine plan_call 54 _ _ _ (by kernel_rfl) zr zr zr (by first | exact Mem.ev_none _ | (simp only [List.map_toArray,List.map_cons,List.map_nil,Mem.ev_tmp,List.getD_cons_succ,List.getD_cons_zero] <;> rfl)) ?_
      refine (PG.out _).mono ?_
      rintro e w4 ⟨rfl,hb4⟩
      have D4:Hid (Below w3.heap.size w3 w4):=zh (Below.trans (Below.refl _ _).drew hb4)
      clear hb4
      refine ⟨_,rfl,D4.out,?_⟩
      (simp only [Mem.zp,Mem.pb,Mem.pc])
      refine plan_bin _ _ _ _ _ _ _ (.bool false) zr zr zr ze ze (fun wx=>o_ige1 z (p:Int) false GE.out _ _ _ _ wx) ?_
      (simp only [Mem.zp,Mem.pb,Mem.pc])
      refine plan_pick_f _ _ _ _ zr zr zr ze ze ?_
      (simp only [Mem.zp,Mem.pb,Mem.pc])
      (first | refine Mem.pm1 ?_ | refine Mem.pm2 ?_ | refine Mem.pt ?_ | refine Mem.pf ?_)
      (simp only [Mem.zp,Mem.pb,Mem.pc])
      refine plan_field 55 _ 1 bx 0 ⟨bx,1,none⟩ zr zr zr ze (fun wx=>by go_simp) ?_
      (simp only [Mem.zp,Mem.pb,Mem.pc])
      refine plan_cell 31 _ _ (.slice a3 m cap3) _ zr zr zr ze (fun w' hw'=>(hw'.cell (p:=⟨bx,1,none⟩) A3.out.lt).trans ((A3.out.cell 1).trans rfl)) Tryz.underlying31 zr ?_
      (simp only [Mem.zp,Mem.pb,Mem.pc])
      refine plan_len _ _ _ _ m _ zr zr zr zr ze (fun wx=>by go_simp) ?_
      (simp only [Mem.zp,Mem.pb,Mem.pc])
      refine plan_bin _ _ _ _ _ _ _ (.bool false) zr zr zr ze zr (fun wx=>o_ineq (m:Int) 256 NE.out _ _ _ _ wx) ?_
      (simp only [Mem.zp,Mem.pb,Mem.pc])
      refine plan_pick_f _ _ _ _ zr zr zr ze ze ?_
      (simp only [Mem.zp,Mem.pb,Mem.pc])
      refine plan_nil ?_
      have c0:w4.cell? ⟨bx,0,none⟩=some (.int .i64 z):=(D4.out.cell (p:=⟨bx,0,none⟩) A3.out.lt).trans ((A3.out.cell 0).trans rfl)
      go_wp2_with fail
      go_roundw
      case rel=>exact ⟨j+1,by omega,by go_num,by rw [HS.out],fun i hi=>(Nat.lt_or_ge i j).elim (AL.out i) (fun h=>by rw [show i=j by omega];exact OK2.out),B3.out.trans (D4.out.mono B3.out.size),AS3.out.below D4.out AS3.out.lt⟩
      case measure=>simp [intOf];omega
     ·have NE:Hid (¬ (m:Int)=256):=zh (by omega)
      have HY:=zh (NOJ.out (by rw [OKJ.out];omega))
      clear g1 g2 g3
      refine wp_region_plan_in (fun x'=>Below w3.heap.size w3 x') (.take 0 (.take 1 (.take 2 (.take 3 (.take 4 (.take 5 (.take 6 (.take 7 (.sole 8 (.take 9 (.take 10 (.take 11 (.take 12 (.take 13 (.take 14 (.take 15 (.take 16 .done))))))))))))))))) (by kernel_rfl) (by kernel_rfl) (by kernel_rfl) (Below.refl _ _).drew ?_
      refine plan_field 55 _ 0 bx 0 ⟨bx,0,none⟩ zr zr zr ze (fun wx=>by go_simp) ?_
      (simp only [Mem.zp,Mem.pb,Mem.pc])
      refine plan_cell 3 _ _ (.int .i64 z) _ zr zr zr ze (fun w' hw'=>(hw'.cell (p:=⟨bx,0,none⟩) A3.out.lt).trans ((A3.out.cell 0).trans rfl)) Tryz.underlying3 zr ?_
      (simp only [Mem.zp,Mem.pb,Mem.pc])
      (first | refine Mem.pm1 ?_ | refine Mem.pm2 ?_ | refine Mem.pt ?_ | refine Mem.pf ?_)
      (simp only [Mem.zp,Mem.pb,Mem.pc])
      refine plan_bin _ _ _ _ _ _ _ (.bool false) zr zr zr ze ze (fun wx=>o_ilt1 z (nxt j) false LT.out _ _ _ _ wx) ?_
      (simp only [Mem.zp,Mem.pb,Mem.pc])
      (first | refine Mem.pm1 ?_ | refine Mem.pm2 ?_ | refine Mem.pt ?_ | refine Mem.pf ?_)
      (simp only [Mem.zp,Mem.pb,Mem.pc])
      refine plan_field 55 _ 0 bx 0 ⟨bx,0,none⟩ zr zr zr ze (fun wx=>by go_simp) ?_
      (simp only [Mem.zp,Mem.pb,Mem.pc])
      refine plan_cell 3 _ _ (.int .i64 z) _ zr zr zr ze (fun w' hw'=>(hw'.cell (p:=⟨bx,0,none⟩) A3.out.lt).trans ((A3.out.cell 0).trans rfl)) Tryz.underlying3 zr ?_
      (simp only [Mem.zp,Mem.pb,Mem.pc])
      refine plan_row 26 _ w.heap.size _ M 26 zr zr zr ze (fun w' hw'=>AS3.out.below hw' AS3.out.lt) Tryz.underlying26 zr (by rw [MS.out];exact infoPS) ?_
      (simp only [Mem.zp,Mem.pb,Mem.pc])
      refine plan_call 54 _ _ _ (by kernel_rfl) zr zr zr (by first | exact Mem.ev_none _ | (simp only [List.map_toArray,List.map_cons,List.map_nil,Mem.ev_tmp,List.getD_cons_succ,List.getD_cons_zero] <;> rfl)) ?_
      refine (PG.out _).mono ?_
      rintro e w4 ⟨rfl,hb4⟩
      have D4:Hid (Below w3.heap.size w3 w4):=zh (Below.trans (Below.refl _ _).drew hb4)
      clear hb4
      refine ⟨_,rfl,D4.out,?_⟩
      (simp only [Mem.zp,Mem.pb,Mem.pc])
      refine plan_bin _ _ _ _ _ _ _ (.bool false) zr zr zr ze ze (fun wx=>o_ige1 z (p:Int) false GE.out _ _ _ _ wx) ?_
      (simp only [Mem.zp,Mem.pb,Mem.pc])
      refine plan_pick_f _ _ _ _ zr zr zr ze ze ?_
      (simp only [Mem.zp,Mem.pb,Mem.pc])
      (first | refine Mem.pm1 ?_ | refine Mem.pm2 ?_ | refine Mem.pt ?_ | refine Mem.pf ?_)
      (simp only [Mem.zp,Mem.pb,Mem.pc])
      refine plan_field 55 _ 1 bx 0 ⟨bx,1,none⟩ zr zr zr ze (fun wx=>by go_simp) ?_
      (simp only [Mem.zp,Mem.pb,Mem.pc])
      refine plan_cell 31 _ _ (.slice a3 m cap3) _ zr zr zr ze (fun w' hw'=>(hw'.cell (p:=⟨bx,1,none⟩) A3.out.lt).trans ((A3.out.cell 1).trans rfl)) Tryz.underlying31 zr ?_
      (simp only [Mem.zp,Mem.pb,Mem.pc])
      refine plan_len _ _ _ _ m _ zr zr zr zr ze (fun wx=>by go_simp) ?_
      (simp only [Mem.zp,Mem.pb,Mem.pc])
      refine plan_bin _ _ _ _ _ _ _ (.bool true) zr zr zr ze zr (fun wx=>o_inet1 (m:Int) 256 NE.out _ _ _ _ wx) ?_
      (simp only [Mem.zp,Mem.pb,Mem.pc])
      refine plan_pick_f _ _ _ _ zr zr zr ze ze ?_
      (simp only [Mem.zp,Mem.pb,Mem.pc])
      refine plan_nil ?_
      go_wp2_with fail
      go_ret
      exact ⟨by rw [HY.out];rfl,B3.out.trans (D4.out.mono B3.out.size)⟩
  ·have hjn:j=n:=by omega
   subst hjn
   have HY:=zh (YES.out AL.out)
   have hge:¬ (j:Int) < (j:Int):=by omega
   go_wp2_with fail
   go_ret
   exact ⟨by rw [HY.out];rfl,BW.out⟩
theorem pgsC_length (C:List ChV):(pgsC C).length=C.length:=by simp [pgsC]
theorem pgsC_take (C:List ChV) (j:Nat) (hj:j < C.length):(pgsC C).take (j+1)=(pgsC C).take j++[(C.getD j zch).1]:=by
 unfold pgsC
 rw [List.take_add_one,List.getElem?_map,List.getElem?_eq_getElem hj,List.getD_eq_getElem?_getD,List.getElem?_eq_getElem hj]
 rfl
theorem pneedOf_any (p:Nat) (C:List ChV) (v:Value) (w:World) (hv:SlCh w v C) (h1:p≤216) (hl:C.length≤1000):Calls Tryz.prog 50 #[.agg (psC p),v] w fun e w'=>∃ v',e=.returned v'∧OwnV w' w.heap.size 3 v' (iz (needI p (pgsC C)))∧Below w.heap.size w w':=by
 have nd:=fun vx wx h=>pneed_any p (pgsC C) vx wx h h1 (by rw [pgsC_length];exact hl)
 obtain ⟨av,cv,rfl⟩:=hv.hd
 have htk:=fun j hj=>pgsC_take C j hj
 have hall:(pgsC C).take C.length=pgsC C:=by rw [←pgsC_length C];exact List.take_length
 have htl:∀ j,j≤C.length→((pgsC C).take j).length=j:=fun j hj=>by rw [List.length_take,pgsC_length];omega
 obtain ⟨PG,hPG⟩:∃ P,P=pgsC C:=⟨_,rfl⟩
 rw [←hPG] at nd htk hall htl ⊢
 obtain ⟨KS,hKS⟩:∃ K,K=needI p PG:=⟨_,rfl⟩
 rw [←hKS] at nd ⊢
 obtain ⟨n,hn⟩:∃ n,n=C.length:=⟨_,rfl⟩
 rw [←hn] at hv hl htk hall htl ⊢
 have ha:=at_new w (psC p) 26
 have hb:Below w.heap.size w (w.alloc (.cells (psC p) 26)):=(Below.refl _ _).alloc (Nat.le_refl _) _
 have ms:(psC p).size=1:=rfl
 obtain ⟨M,hM⟩:∃ M,M=psC p:=⟨_,rfl⟩
 rw [←hM] at nd ha hb ms ⊢
 have NDD:=zh nd;have TK:=zh htk;have ALL:=zh hall;have TL:=zh htl;have HV:=zh hv;have HN:=zh hn;have HA:=zh ha;have HB:=zh hb;have MS:=zh ms
 clear nd htk hall htl hv hn ha hb ms hPG hKS hM
 go_enter Tryz.func50,Tryz.ntmps50
 go_upto_region 1 with fail
 generalize w.alloc (.cells M 26)=w1 at *
 go_wp2_with fail
 go_loopw [5,10] (fun vo vi wr=>∃ j:Nat,j≤n∧vi=.int .i64 (j:Int)∧OwnV wr w.heap.size 3 vo (iz (PG.take j))∧Below w.heap.size w wr∧At wr w.heap.size M 26) (fun _ vi _=>n - (intOf vi).toNat)
 case atStart=>exact ⟨0,by omega,rfl,by rw [List.take_zero];exact World.ownsRow_nil _ _ _ _,HB.out,HA.out⟩
 case round=>
  obtain ⟨j,hj,rfl,ho,hbw,haw⟩:=hrel
  have OW:=zh ho;have BW:=zh hbw;have AW:=zh haw;have VW:=zh (HV.out.below hbw)
  have hl5:(iz (PG.take j)).length=j:=by rw [iz_length,TL.out j hj]
  have L5:=zh hl5
  clear ho hbw haw hl5
  by_cases hlt:j < n
  ·have hlt':(j:Int) < (n:Int):=by omega
   obtain ⟨b1,o1,u,e1,hlb,cz0,cu0,hsu⟩:=slch_at (i:=j) VW.out HN.out hlt
   subst e1
   have htk:=TK.out j hlt
   obtain ⟨x,hx⟩:∃ x,x=(C.getD j zch).2:=⟨_,rfl⟩
   obtain ⟨z,hz⟩:∃ z,z=(C.getD j zch).1:=⟨_,rfl⟩
   rw [←hz] at htk
   rw [←hx] at hsu
   obtain ⟨a3,cap3,rfl⟩:=sl_inv hsu
   obtain ⟨m,hm⟩:∃ m,m=x.length:=⟨_,rfl⟩
   rw [←hm] at cu0
   have cz:wr.cell? ⟨b1,o1+j*2,none⟩=some (.int .i64 z):=by rw [hz];exact cz0
   have cu:wr.cell? ⟨b1,o1+j*2+1,none⟩=some (.slice a3 m cap3):=cu0
   clear cz0 cu0
   have A3:=zh (at_new wr (chRow z (.slice a3 m cap3)) 55)
   have B3:Hid (Below w.heap.size w (wr.alloc (.cells (chRow z (.slice a3 m cap3)) 55))):=zh (BW.out.alloc BW.out.size _)
   have AS3:=zh (AW.out.alloc (.cells (chRow z (.slice a3 m cap3)) 55))
   have O3:Hid (OwnV (wr.alloc (.cells (chRow z (.slice a3 m cap3)) 55)) w.heap.size 3 u5 (iz (PG.take j))):=zh (World.ownsRow.alloc OW.out _)
   have HTK:=zh htk
   clear htk hsu hx hz hm hlb
   go_upto_region 5 with (refine wpList_store_new zr 55 _ _ zr zr (chRow z (.slice a3 m cap3)) _ _ zr zr (by exact infoCh16) zr (chRow_one _ _ _ _) ?_)
   clear cz cu
   obtain ⟨bx,hbx⟩:∃ bx,bx=wr.heap.size:=⟨_,rfl⟩
   rw [←hbx] at A3 ⊢
   clear hbx
   generalize wr.alloc (.cells (chRow z (.slice a3 m cap3)) 55)=w3 at *
   have c0:w3.cell? ⟨bx,0,none⟩=some (.int .i64 z):=(A3.out.cell 0).trans rfl
   obtain ⟨a5,c5,rfl,_⟩:=OwnV.open O3.out
   rw [L5.out] at O3 ⊢
   go_wp2_with (at_builtin;refine wpList_append_lit zr _ _ 61 zr (.int .i64 z) (.int .i64 0) 8 elemInt zr zr O3.out zr zr (by rw [L5.out];omega) (by rw [L5.out];omega) (B3.out.size) ?_;intro v6 w6 ho6 hk6 hb6 _;have O6:Hid (OwnV w6 w.heap.size 3 v6 (iz (PG.take (j+1)))):=zh (by rw [HTK.out,iz_snoc];exact ho6);have B6:Hid (Below w.heap.size w w6):=zh (B3.out.trans hb6);have A6:=zh (Sha.At.app AS3.out hk6 (own_ne_at O3.out AS3.out (by decide)));clear ho6 hb6 hk6)
   go_roundw
   case rel=>exact ⟨j+1,by omega,by go_num,O6.out,B6.out,A6.out⟩
   case measure=>simp [intOf];omega
  ·have hjn:j=n:=by omega
   subst hjn
   have hge:¬ (j:Int) < (j:Int):=by omega
   rw [ALL.out] at OW
   go_wp2_with (refine wpList_load_all zr 26 _ zr w.heap.size zr _ Tryz.underlying26 zr M _ AW.out (by rw [MS.out];exact infoPS) ?_)
   refine (NDD.out _ _ (ownV_sli OW.out)).mono ?_
   rintro e w5 ⟨v5,rfl,ho5,hb5⟩
   have O5:=zh (OwnV.base ho5 BW.out.size);have B5:=zh (BW.out.trans (hb5.mono BW.out.size))
   clear ho5 hb5
   go_wp2_with fail
   go_ret
   exact ⟨_,rfl,O5.out,B5.out⟩
def ndRow (z:Int) (v:Value):Array Value:=#[.int .i64 z,v]
theorem ndRow_one (z:Int) (a:Option Addr) (n c:Nat):(ndRow z (.slice a n c)).all (·.oneCell')=true:=by simp [ndRow,Value.oneCell']
theorem infoNd16:(Tryz.prog.info? 118).map (·.size)=some 2:=by kernel_rfl
structure NdWf (N:List NdV):Prop where
 n:N.length≤1000
 r:∀ x∈N,x.2.length≤1000
 w:∀ x∈N,∀ r∈x.2,r.Wf
theorem NdWf.get {N:List NdV} (h:NdWf N) (j:Nat) (hj:j < N.length):(N.getD j znd).2.length≤1000∧∀ r∈(N.getD j znd).2,r.Wf:=by
 rw [List.getD_eq_getElem?_getD,List.getElem?_eq_getElem hj]
 exact ⟨h.r _ (List.getElem_mem hj),h.w _ (List.getElem_mem hj)⟩
theorem findD_le {N:List NdV} (h:NdWf N) (z:Int):(findD N z).length≤1000:=by
 unfold findD findT
 cases e:N.find? fun n=>n.1 == z with
 | none=>simp
 | some n=>simpa using h.r n (List.mem_of_find?_eq_some e)
def FdEnd (w:World) (L:List RefV) (q:Bool) (e:Ending) (w':World):Prop:=∃ v,e=.returned (.tuple #[v,.bool q])∧OwnRf w' w.heap.size 38 v L∧Below w.heap.size w w'
theorem pfind_any (N:List NdV) (z:Int) (v:Value) (w:World) (hv:SlNd w v N) (hN:NdWf N):Calls Tryz.prog 86 #[v,.int .i64 z] w (FdEnd w (findD N z) (findT N z).isSome):=by
 obtain ⟨av,cv,rfl⟩:=hv.hd
 have hno:(∀ i,i < N.length→(N.getD i znd).1≠z)→findT N z=none:=find_end N z
 have hyes:=fun j hj h he=>find_step N z j hj h he
 have hfd:findD N z=(findT N z).getD []:=rfl
 obtain ⟨Y,hY⟩:∃ Y,Y=findT N z:=⟨_,rfl⟩
 rw [←hY] at hno hyes hfd ⊢
 obtain ⟨X,hX⟩:∃ X,X=findD N z:=⟨_,rfl⟩
 rw [←hX] at hfd ⊢
 have hget:=hN.get
 have hl:=hN.n
 have clo:=fun j vx wx (hj:j < N.length) (h:SlRf wx vx (N.getD j znd).2)=>pcloneRf_any (N.getD j znd).2 vx wx h (hget j hj).2 (hget j hj).1
 obtain ⟨n,hn⟩:∃ n,n=N.length:=⟨_,rfl⟩
 rw [←hn] at hv hl hno hyes clo ⊢
 have HV:=zh hv;have NO:=zh hno;have YES:=zh hyes;have FD:=zh hfd;have CLO:=zh clo;have HN:=zh hn
 clear hv hno hyes hfd clo hn hget hX hY hN
 go_enter Tryz.func86,Tryz.ntmps86
 go_wp2_with fail
 go_loopw [10] (fun vi wr=>∃ j:Nat,j≤n∧vi=.int .i64 (j:Int)∧(∀ i,i < j→(N.getD i znd).1≠z)∧Below w.heap.size w wr) (fun vi _=>n - (intOf vi).toNat)
 case atStart=>exact ⟨0,by omega,rfl,fun i hi=>by omega,Below.refl _ _⟩
 case round=>
  obtain ⟨j,hj,rfl,hal,hbw⟩:=hrel
  have BW:=zh hbw;have AL:=zh hal;have VW:=zh (HV.out.below hbw)
  clear hal hbw
  by_cases hlt:j < n
  ·have hlt':(j:Int) < (n:Int):=by omega
   obtain ⟨b1,o1,u,e1,hlb,cz0,cu0,hsu⟩:=slnd_at (i:=j) VW.out HN.out hlt
   subst e1
   have hyj:=fun he=>YES.out j hlt AL.out he
   have clo:=fun vx wx h=>CLO.out j vx wx hlt h
   have hne1:(N.getD j znd).1≠z→∀ i,i < j+1→(N.getD i znd).1≠z:=fun h i hi=>(Nat.lt_or_ge i j).elim (AL.out i) (fun g=>by rw [show i=j by omega];exact h)
   obtain ⟨x,hx⟩:∃ x,x=(N.getD j znd).2:=⟨_,rfl⟩
   obtain ⟨y,hy⟩:∃ y,y=(N.getD j znd).1:=⟨_,rfl⟩
   rw [←hx] at hsu clo
   rw [←hy,←hx] at hyj
   rw [←hy] at hne1
   obtain ⟨a3,cap3,e3⟩:=hsu.hd
   subst e3
   have HNE:=zh hne1;have HYJ:=zh hyj;have CLJ:=zh clo
   obtain ⟨m,hm⟩:∃ m,m=x.length:=⟨_,rfl⟩
   have HM:=zh hm
   rw [←hm] at cu0 hsu
   have cz:wr.cell? ⟨b1,o1+j*2,none⟩=some (.int .i64 y):=by rw [hy];exact cz0
   have cu:wr.cell? ⟨b1,o1+j*2+1,none⟩=some (.slice a3 m cap3):=cu0
   clear cz0 cu0
   have hb3:Below wr.heap.size wr (wr.alloc (.cells (ndRow y (.slice a3 m cap3)) 118)):=(Below.refl _ _).alloc (Nat.le_refl _) _
   have A3:=zh (at_new wr (ndRow y (.slice a3 m cap3)) 118)
   have B3:Hid (Below w.heap.size w (wr.alloc (.cells (ndRow y (.slice a3 m cap3)) 118))):=zh (BW.out.alloc BW.out.size _)
   have S3:=zh (hsu.below hb3)
   clear hne1 hyj clo hsu hx hy hm hlb hb3
   go_upto_region 4 with (refine wpList_store_new zr 118 _ _ zr zr (ndRow y (.slice a3 m cap3)) _ _ zr zr (by exact infoNd16) zr (ndRow_one _ _ _ _) ?_)
   clear cz cu
   obtain ⟨bx,hbx⟩:∃ bx,bx=wr.heap.size:=⟨_,rfl⟩
   rw [←hbx] at A3 ⊢
   clear hbx
   generalize wr.alloc (.cells (ndRow y (.slice a3 m cap3)) 118)=w3 at *
   have c0:w3.cell? ⟨bx,0,none⟩=some (.int .i64 y):=(A3.out.cell 0).trans rfl
   have c1:w3.cell? ⟨bx,1,none⟩=some (.slice a3 m cap3):=(A3.out.cell 1).trans rfl
   by_cases hyz:y=z
   ·have HY:=zh (HYJ.out hyz)
    have hyz2:(y == z)=true:=by simpa using hyz
    go_wp2_with fail
    refine (CLJ.out _ _ S3.out).mono ?_
    rintro e w4 ⟨v4,rfl,ho4,hb4⟩
    have O4:=zh (ownsRow_base ho4 B3.out.size);have B4:=zh (B3.out.trans (hb4.mono B3.out.size))
    clear ho4 hb4 c0 c1
    go_wp2_with fail
    go_ret2
    exact ⟨v4,by rw [HY.out];rfl,by rw [FD.out,HY.out];exact O4.out,B4.out⟩
   ·have NE2:=zh (HNE.out hyz)
    have hyz2:(y == z)=false:=by simpa using hyz
    go_wp2_with fail
    go_roundw
    case rel=>exact ⟨j+1,by omega,by go_num,NE2.out,B3.out⟩
    case measure=>simp [intOf];omega
  ·have hjn:j=n:=by omega
   subst hjn
   have HY:=zh (NO.out AL.out)
   have hge:¬ (j:Int) < (j:Int):=by omega
   go_wp2_with fail
   go_ret2
   exact ⟨_,by rw [HY.out];rfl,by rw [FD.out,HY.out];exact World.ownsRow_nil _ _ _ _,BW.out⟩
theorem infoNdR:(Tryz.prog.info? 121).map (·.size)=some 2:=by kernel_rfl
theorem infoChR:(Tryz.prog.info? 122).map (·.size)=some 2:=by kernel_rfl
def farC (N:List NdV) (C:List ChV):Bool:=decide (60 < N.length) || (decide (20 < C.length) || (N.any (fun n=>decide (20 < n.2.length)) || C.any (fun c=>decide (600 < c.2.length))))
theorem farC_no {N:List NdV} {C:List ChV} (h:farC N C=false):N.length≤60∧C.length≤20∧(∀ n∈N,n.2.length≤20)∧∀ c∈C,c.2.length≤600:=by
 unfold farC at h
 rw [Bool.or_eq_false_iff,Bool.or_eq_false_iff,Bool.or_eq_false_iff,decide_eq_false_iff_not,decide_eq_false_iff_not,List.any_eq_false,List.any_eq_false] at h
 obtain ⟨a,b,c,d⟩:=h
 exact ⟨by omega,by omega,fun n hn=>by have:=c n hn;simp at this;exact this,fun n hn=>by have:=d n hn;simp at this;exact this⟩
theorem getD_nd {N:List NdV} {j:Nat} (hj:j < N.length):N.getD j znd∈N:=by
 rw [List.getD_eq_getElem?_getD,List.getElem?_eq_getElem hj];exact List.getElem_mem hj
theorem getD_ch {C:List ChV} {j:Nat} (hj:j < C.length):C.getD j zch∈C:=by
 rw [List.getD_eq_getElem?_getD,List.getElem?_eq_getElem hj];exact List.getElem_mem hj
theorem far16_any (N:List NdV) (C:List ChV) (vn vc:Value) (w:World) (hn:SlNd w vn N) (hc:SlCh w vc C):Calls Tryz.prog 9 #[vn,vc] w (VEnd (.bool (farC N C)) w):=by
 have f1:60 < N.length→farC N C=true:=fun h=>by unfold farC;rw [decide_eq_true h,Bool.true_or]
 have f2:20 < C.length→farC N C=true:=fun h=>by unfold farC;rw [decide_eq_true h,Bool.true_or,Bool.or_true]
 have f3:∀ j,j < N.length→20 < (N.getD j znd).2.length→farC N C=true:=fun j hj h=>by
  have:N.any (fun n=>decide (20 < n.2.length))=true:=List.any_eq_true.2 ⟨_,getD_nd hj,by simpa using h⟩
  unfold farC;rw [this,Bool.true_or,Bool.or_true,Bool.or_true]
 have f4:∀ j,j < C.length→600 < (C.getD j zch).2.length→farC N C=true:=fun j hj h=>by
  have:C.any (fun n=>decide (600 < n.2.length))=true:=List.any_eq_true.2 ⟨_,getD_ch hj,by simpa using h⟩
  unfold farC;rw [this,Bool.or_true,Bool.or_true,Bool.or_true]
 have f5:N.length≤60→C.length≤20→(∀ j,j < N.length→(N.getD j znd).2.length≤20)→(∀ j,j < C.length→(C.getD j zch).2.length≤600)→farC N C=false:=fun a b c d=>by
  unfold farC
  have h3:N.any (fun n=>decide (20 < n.2.length))=false:=List.any_eq_false.2 fun n hn=>by
   obtain ⟨j,hj,e⟩:=List.mem_iff_getElem.1 hn
   have:=c j hj
   rw [List.getD_eq_getElem?_getD,List.getElem?_eq_getElem hj,Option.getD_some,e] at this
   simp;exact this
  have h4:C.any (fun n=>decide (600 < n.2.length))=false:=List.any_eq_false.2 fun n hn=>by
   obtain ⟨j,hj,e⟩:=List.mem_iff_getElem.1 hn
   have:=d j hj
   rw [List.getD_eq_getElem?_getD,List.getElem?_eq_getElem hj,Option.getD_some,e] at this
   simp;exact this
  rw [decide_eq_false (by omega),decide_eq_false (by omega),h3,h4];rfl
 obtain ⟨Y,hY⟩:∃ Y,Y=farC N C:=⟨_,rfl⟩
 rw [←hY] at f1 f2 f3 f4 f5 ⊢
 obtain ⟨an,cn,rfl⟩:=hn.hd
 obtain ⟨ac,cc,rfl⟩:=hc.hd
 obtain ⟨n,hnn⟩:∃ n,n=N.length:=⟨_,rfl⟩
 obtain ⟨m,hmm⟩:∃ m,m=C.length:=⟨_,rfl⟩
 rw [←hnn] at hn f1 f3 f5 ⊢
 rw [←hmm] at hc f2 f4 f5 ⊢
 have HN:=zh hn;have HC:=zh hc;have F1:=zh f1;have F2:=zh f2;have F3:=zh f3;have F4:=zh f4;have F5:=zh f5;have NN:=zh hnn;have MM:=zh hmm
 clear hn hc f1 f2 f3 f4 f5 hnn hmm hY
 by_cases g1:60 < n
 ·have HY:=zh (F1.out g1)
  have g2:(60:Int) < (n:Int):=by omega
  go_enter Tryz.func9,Tryz.ntmps9
  go_wp2_with fail
  go_ret
  exact ⟨by rw [HY.out];rfl,Below.refl _ _⟩
 ·have g1':¬ (60:Int) < (n:Int):=by omega
  by_cases g3:20 < m
  ·have HY:=zh (F2.out g3)
   have g4:(20:Int) < (m:Int):=by omega
   go_enter Tryz.func9,Tryz.ntmps9
   go_wp2_with fail
   go_ret
   exact ⟨by rw [HY.out];rfl,Below.refl _ _⟩
  ·have g3':¬ (20:Int) < (m:Int):=by omega
   go_enter Tryz.func9,Tryz.ntmps9
   go_wp2_with fail
   go_loopw [19] (fun vi wr=>∃ j:Nat,j≤n∧vi=.int .i64 (j:Int)∧(∀ i,i < j→(N.getD i znd).2.length≤20)∧Below w.heap.size w wr) (fun vi _=>n - (intOf vi).toNat)
   case atStart=>exact ⟨0,by omega,rfl,fun i hi=>by omega,Below.refl _ _⟩
   case round=>
    obtain ⟨j,hj,rfl,hal,hbw⟩:=hrel
    have BW:=zh hbw;have AL:=zh hal;have VW:=zh (HN.out.below hbw)
    clear hal hbw
    by_cases hlt:j < n
    ·have hlt':(j:Int) < (n:Int):=by omega
     obtain ⟨b1,o1,u,e1,hlb,cz0,cu0,hsu⟩:=slnd_at (i:=j) VW.out NN.out hlt
     subst e1
     have f3:=F3.out j hlt
     have hal2:(N.getD j znd).2.length≤20→∀ i,i < j+1→(N.getD i znd).2.length≤20:=fun h i hi=>(Nat.lt_or_ge i j).elim (AL.out i) (fun g=>by rw [show i=j by omega];exact h)
     obtain ⟨x,hx⟩:∃ x,x=(N.getD j znd).2:=⟨_,rfl⟩
     obtain ⟨y,hy⟩:∃ y,y=(N.getD j znd).1:=⟨_,rfl⟩
     rw [←hx] at hsu f3 hal2
     obtain ⟨a3,cap3,e3⟩:=hsu.hd
     subst e3
     obtain ⟨l,hl⟩:∃ l,l=x.length:=⟨_,rfl⟩
     rw [←hl] at cu0 f3 hal2
     have cz:wr.cell? ⟨b1,o1+j*2,none⟩=some (.int .i64 y):=by rw [hy];exact cz0
     have cu:wr.cell? ⟨b1,o1+j*2+1,none⟩=some (.slice a3 l cap3):=cu0
     have A3:=zh (at_new wr (ndRow y (.slice a3 l cap3)) 121)
     have B3:Hid (Below w.heap.size w (wr.alloc (.cells (ndRow y (.slice a3 l cap3)) 121))):=zh (BW.out.alloc BW.out.size _)
     have F3J:=zh f3;have AL2:=zh hal2
     clear cz0 cu0 f3 hal2 hsu hx hy hl hlb
     go_upto_region 6 with (refine wpList_store_new zr 121 _ _ zr zr (ndRow y (.slice a3 l cap3)) _ _ zr zr (by exact infoNdR) zr (ndRow_one _ _ _ _) ?_)
     clear cz cu
     obtain ⟨bx,hbx⟩:∃ bx,bx=wr.heap.size:=⟨_,rfl⟩
     rw [←hbx] at A3 ⊢
     clear hbx
     generalize wr.alloc (.cells (ndRow y (.slice a3 l cap3)) 121)=w3 at *
     have c1:w3.cell? ⟨bx,1,none⟩=some (.slice a3 l cap3):=(A3.out.cell 1).trans rfl
     by_cases g:20 < l
     ·have HY:=zh (F3J.out g)
      have g5:(20:Int) < (l:Int):=by omega
      go_wp2_with fail
      go_ret
      exact ⟨by rw [HY.out];rfl,B3.out⟩
     ·have AL3:=zh (AL2.out (by omega))
      have g5:¬ (20:Int) < (l:Int):=by omega
      go_wp2_with fail
      go_roundw
      case rel=>exact ⟨j+1,by omega,by go_num,AL3.out,B3.out⟩
      case measure=>simp [intOf];omega
    ·have hjn:j=n:=by omega
     subst hjn
     have hge:¬ (j:Int) < (j:Int):=by omega
     go_upto_region 10 with fail
     go_loopw [30] (fun vi wx=>∃ i:Nat,i≤m∧vi=.int .i64 (i:Int)∧(∀ k,k < i→(C.getD k zch).2.length≤600)∧Below w.heap.size w wx) (fun vi _=>m - (intOf vi).toNat)
     case atStart=>exact ⟨0,by omega,rfl,fun i hi=>by omega,BW.out⟩
     case round=>
      obtain ⟨i,hi,rfl,hal,hbw⟩:=hrel
      have BX:=zh hbw;have ALX:=zh hal;have VX:=zh (HC.out.below hbw)
      clear hal hbw
      by_cases hlt:i < m
      ·have hlt':(i:Int) < (m:Int):=by omega
       obtain ⟨b1,o1,u,e1,hlb,cz0,cu0,hsu⟩:=slch_at (i:=i) VX.out MM.out hlt
       subst e1
       have f4:=F4.out i hlt
       have hal2:(C.getD i zch).2.length≤600→∀ k,k < i+1→(C.getD k zch).2.length≤600:=fun h k hk=>(Nat.lt_or_ge k i).elim (ALX.out k) (fun g=>by rw [show k=i by omega];exact h)
       obtain ⟨x,hx⟩:∃ x,x=(C.getD i zch).2:=⟨_,rfl⟩
       obtain ⟨y,hy⟩:∃ y,y=(C.getD i zch).1:=⟨_,rfl⟩
       rw [←hx] at hsu f4 hal2
       obtain ⟨a3,cap3,e3⟩:=sl_inv hsu
       subst e3
       obtain ⟨l,hl⟩:∃ l,l=x.length:=⟨_,rfl⟩
       rw [←hl] at cu0 f4 hal2
       have cz:wr.cell? ⟨b1,o1+i*2,none⟩=some (.int .i64 y):=by rw [hy];exact cz0
       have cu:wr.cell? ⟨b1,o1+i*2+1,none⟩=some (.slice a3 l cap3):=cu0
       have A3:=zh (at_new wr (chRow y (.slice a3 l cap3)) 122)
       have B3:Hid (Below w.heap.size w (wr.alloc (.cells (chRow y (.slice a3 l cap3)) 122))):=zh (BX.out.alloc BX.out.size _)
       have F4J:=zh f4;have AL2:=zh hal2
       clear cz0 cu0 f4 hal2 hsu hx hy hl hlb
       go_upto_region 12 with (refine wpList_store_new zr 122 _ _ zr zr (chRow y (.slice a3 l cap3)) _ _ zr zr (by exact infoChR) zr (chRow_one _ _ _ _) ?_)
       clear cz cu
       obtain ⟨bx,hbx⟩:∃ bx,bx=wr.heap.size:=⟨_,rfl⟩
       rw [←hbx] at A3 ⊢
       clear hbx
       generalize wr.alloc (.cells (chRow y (.slice a3 l cap3)) 122)=w3 at *
       have c1:w3.cell? ⟨bx,1,none⟩=some (.slice a3 l cap3):=(A3.out.cell 1).trans rfl
       by_cases g:600 < l
       ·have HY:=zh (F4J.out g)
        have g5:(600:Int) < (l:Int):=by omega
        go_wp2_with fail
        go_ret
        exact ⟨by rw [HY.out];rfl,B3.out⟩
       ·have AL3:=zh (AL2.out (by omega))
        have g5:¬ (600:Int) < (l:Int):=by omega
        go_wp2_with fail
        go_roundw
        case rel=>exact ⟨i+1,by omega,by go_num,AL3.out,B3.out⟩
        case measure=>simp [intOf];omega
      ·have hin:i=m:=by omega
       subst hin
       have hge2:¬ (i:Int) < (i:Int):=by omega
       have HY:=zh (F5.out (by omega) (by omega) AL.out ALX.out)
       go_wp2_with fail
       go_ret
       exact ⟨by rw [HY.out];rfl,BX.out⟩
end Sha
end Go.Proofs.YtlhnegbjoncieaaGreatDoor
