/- The program's reader of a node's page: a struct of its references. The program's Lay of a node's page: the count, the references put behind it, filled up. -/
import Derived.Test.YtddjdaocdfkgeaaGreatDoorBQ19
import Derived.Test.YtddjdaocdfkgeaaGreatDoorBQ01
import Derived.Test.YtddjdaocdfkgeaaGreatDoorBQ07
import Derived.Test.YtddjdaocdfkgeaaGreatDoorBQ20
import Derived.Test.YtddjdaocdfkgeaaGreatDoorBQ18
import Derived.Test.YtddjdaocdfkgeaaGreatDoorBQ09
set_option maxRecDepth 100000
set_option maxHeartbeats 2000000
namespace Go.Proofs.YtddjdaocdfkgeaaGreatDoor
namespace Sha
open Go.RowKit Mem
set_option maxRecDepth 100000
theorem isMany_any (z:Int) (w:World):Calls Tryz.prog 76 #[.int .i64 z] w fun e w'=>e=.returned (.bool (decide (1≤z∧z≤6)))∧w'=w:=by
 by_cases h1:1≤z
 ·by_cases h6:z≤6
  ·rw [decide_eq_true ⟨h1,h6⟩]
   go_enter Tryz.func76,Tryz.ntmps76
   go_wp2_with fail
   go_ret
   exact ⟨rfl,rfl⟩
  ·rw [decide_eq_false (fun h=>h6 h.2)]
   go_enter Tryz.func76,Tryz.ntmps76
   go_wp2_with fail
   go_ret
   exact ⟨rfl,rfl⟩
 ·rw [decide_eq_false (fun h=>h1 h.1)]
  go_enter Tryz.func76,Tryz.ntmps76
  go_wp2_with fail
  go_ret
  exact ⟨rfl,rfl⟩
def TkE (w:World) (L:List RefV) (n:Int) (e:Ending) (w':World):Prop:=e=.returned (.tuple #[.agg (tkC (pad6 L) L.length),.int .i64 n])∧Below w.heap.size w w'
structure TInv (w:World) (br bt:Nat) (Z C:Array Value) (b:Lb8) (e:Nat) (W:World):Prop where
 r:RPk W br b e
 ar:At W w.heap.size Z 136
 ag:At W bt C 136
 l:Below w.heap.size w W
 o1:w.heap.size < br
 o2:br < bt
section
variable {w W W':World} {br bt:Nat} {Z C C':Array Value} {b b':Lb8} {e e':Nat}
theorem TInv.call (h:TInv w br bt Z C b e W) (hp:PkEnd RPk W br b' e' W'):TInv w br bt Z C b' e' W':=
 ⟨hp.r,h.ar.but hp.o (by have:=h.o1;omega),h.ag.but hp.o (by have:=h.o2;omega),hp.k _ _ h.l (by have:=h.o1;omega),h.o1,h.o2⟩
theorem TInv.below (h:TInv w br bt Z C b e W) (hb:Below W.heap.size W W'):TInv w br bt Z C b e W':=
 ⟨h.r.below hb,h.ar.below hb h.ar.lt,h.ag.below hb h.ag.lt,h.l.trans (hb.mono h.l.size),h.o1,h.o2⟩
theorem TInv.row (h:TInv w br bt Z C b e W) (D:Array Value):TInv w br bt Z D b e (W.setRow bt D):=by
 have hs:But bt W (W.setRow bt D):=⟨by simp,fun k _ hne=>setRow_other W bt k D hne⟩
 exact ⟨h.r.above hs h.o2,h.ar.but hs (by have:=h.o1;have:=h.o2;omega),h.ag.row D,below_row h.l (by have:=h.o1;have:=h.o2;omega) D,h.o1,h.o2⟩
end
theorem num_page (p:Lb8) (hp:p.length=256) (n e1:Nat) (b1:Lb8) (h:(n,b1,e1)=rdNum p 0 1 6) :
 b1=p.drop 1∧((6 < (p.getD 0 0).toNat∧n=0∧e1=3)∨((p.getD 0 0).toNat≤6∧n=(p.getD 0 0).toNat∧e1=0)):=by
 match p,hp with
 | a::t,hp=>
  rw [rdNum_ok _ 1 6 (by simp)] at h
  have e:leN ((a::t).take 1)=a.toNat:=by simp [leN]
  rw [e] at h
  by_cases g:6 < a.toNat
  ·rw [if_pos g] at h
   injection h with h1 h2
   injection h2 with h2 h3
   exact ⟨h2,.inl ⟨g,h1,h3⟩⟩
  ·rw [if_neg g] at h
   injection h with h1 h2
   injection h2 with h2 h3
   exact ⟨h2,.inr ⟨Nat.le_of_not_lt g,h1,h3⟩⟩
theorem rest_page (p:Lb8) (hp:p.length=256) (n e1:Nat) (h:(6 < (p.getD 0 0).toNat∧n=0∧e1=3)∨((p.getD 0 0).toNat≤6∧n=(p.getD 0 0).toNat∧e1=0)) :
 (rdRest (p.drop (1+37*n)) e1=0∧n=(p.getD 0 0).toNat∧zerosFrom p (1+37*n))∨(rdRest (p.drop (1+37*n)) e1=3∧allN p=([],9)):=by
 rcases h with ⟨h1,rfl,rfl⟩ | ⟨h1,h2,rfl⟩
 ·exact .inr ⟨rfl,allN_few p hp (.inr h1)⟩
 ·cases hz:allZ (p.drop (1+37*n))
  ·refine .inr ⟨by unfold rdRest;rw [if_pos ⟨rfl,hz⟩],?_⟩
   unfold allZ at hz
   obtain ⟨y,hy,hy0⟩:=List.all_eq_false.1 hz
   obtain ⟨j,hj,e⟩:=List.mem_iff_getElem.1 hy
   have hjl:1+37*n+j < p.length:=by rw [List.length_drop] at hj;omega
   rw [List.getElem_drop] at e
   refine allN_tail p hp n (1+37*n+j) h2.symm (by omega) (by omega) (by omega) ?_
   rw [List.getD_eq_getElem?_getD,List.getElem?_eq_getElem hjl,Option.getD_some,e]
   simpa using hy0
  ·refine .inl ⟨by unfold rdRest;rw [if_neg (fun h=>by rw [hz] at h;cases h.2)],h2,fun j h3 h4=>?_⟩
   unfold allZ at hz
   have hm:p.getD j 0∈p.drop (1+37*n):=by
    rw [List.mem_iff_getElem]
    refine ⟨j - (1+37*n),by rw [List.length_drop];omega,?_⟩
    rw [List.getElem_drop,List.getD_eq_getElem?_getD]
    have:1+37*n+(j - (1+37*n))=j:=by omega
    simp [this,h4]
   simpa using List.all_eq_true.1 hz _ hm
theorem take_page (p:Lb8) (v:Value) (w:World) (hv:Sl w v p) (hp:p.length=256):Calls Tryz.prog 81 #[v] w (TkE w (allN p).1 (allN p).2):=by
 have hfew:=allN_few p hp
 have hgood:=fun m h0 h1 h6 hpl hz=>allN_good p hp m h0 h1 h6 hpl hz
 have hplace:=fun m i h0 h6 hi h=>allN_place p hp m i h0 h6 hi h
 have hrd:=fun wx h=>read_any p v wx h (by omega)
 obtain ⟨r1,hr1⟩:∃ r,r=rdNum p 0 1 6:=⟨_,rfl⟩
 have hnu:∀ br wx,RPk wx br p 0→Calls Tryz.prog 97 #[rp br,.int .i64 1,.int .u64 6] wx fun o w'=>o=.returned (.int .u64 ((r1.1:Nat):Int))∧PkEnd RPk wx br r1.2.1 r1.2.2 w':=fun br wx h=>by rw [hr1];exact pnumget_any p 0 1 6 br wx h (by omega) (by omega)
 obtain ⟨n,b1,e1⟩:=r1
 simp only at hnu
 obtain ⟨hb1,hcase⟩:=num_page p hp n e1 b1 hr1
 subst hb1
 have hrest:=rest_page p hp n e1 hcase
 have hn6:n≤6:=by rcases hcase with h | h <;> omega
 have hpos:0 < n→e1=0∧n=(p.getD 0 0).toNat:=fun h=>by rcases hcase with a | a <;> omega
 have hby:∀ i br wx,i < n→RPk wx br (p.drop (1+37*i)) e1→Calls Tryz.prog 99 #[rp br,.int .i64 37] wx fun o w'=>∃ v,o=.returned v∧Sl w' v (pieceN p i)∧PkEnd RPk wx br (p.drop (1+37*(i+1))) e1 w':=fun i br wx hi h=>by
  obtain ⟨he,_⟩:=hpos (by omega)
  subst he
  have h2:=pbytes_any (p.drop (1+37*i)) 0 37 br wx h (by rw [List.length_drop];omega) (by decide) (by decide)
  have e:rdTake (p.drop (1+37*i)) 0 (37:Int).toNat=⟨pieceN p i,p.drop (1+37*(i+1)),0⟩:=by
   show rdTake (p.drop (1+37*i)) 0 37=_
   rw [rdTake_ok _ 37 (by rw [List.length_drop];omega),List.drop_drop,show 1+37*i+37=1+37*(i+1) by omega]
   rfl
  rw [e] at h2
  exact h2
 have hpa:∀ i wx u,i < n→Sl wx u (pieceN p i)→Calls Tryz.prog 98 #[u] wx fun e w'=>e=.returned (.tuple #[.agg (refC (parseRf (pieceN p i)).1),.int .i64 (parseRf (pieceN p i)).2])∧Below wx.heap.size wx w':=fun i wx u hi h=>pparse9_any (pieceN p i) u wx h (by rw [piece_length p i hp (by omega)];decide)
 have hpc:=fun i (hi:i < n)=>parse_piece p i hp (by omega)
 have hre:=fun br wx h=>prest_any (p.drop (1+37*n)) e1 br wx h (by rw [List.length_drop];omega)
 obtain ⟨rr,hrr⟩:∃ rr,rr=rdRest (p.drop (1+37*n)) e1:=⟨_,rfl⟩
 rw [←hrr] at hrest hre
 have hwf:=fun m (hm:m≤n)=>refsN_wf p m hp (by omega)
 have hrs:=fun m=>refsN_succ p m
 have hrl:=fun m=>refsN_length p m
 obtain ⟨Y,hY⟩:∃ Y,Y=allN p:=⟨_,rfl⟩
 rw [←hY] at hfew hgood hplace hrest ⊢
 obtain ⟨a0,c0,rfl⟩:=sl_inv hv
 rw [hp] at hv hrd ⊢
 obtain ⟨x,hx⟩:∃ x,x=(p.getD 0 0).toNat:=⟨_,rfl⟩
 rw [←hx] at hfew hgood hplace hpos hrest hcase
 have hxz:=zeroTk
 have bn:=buildTk0
 have b1n:=buildTk1 n
 obtain ⟨Z,hZ⟩:∃ Z,Z=tkC (pad6 []) 0:=⟨_,rfl⟩
 obtain ⟨C0,hC0⟩:∃ C,C=tkC (pad6 []) n:=⟨_,rfl⟩
 have zs:Z.size=205:=by rw [hZ];exact tkC_size (pad6_wf (fun _ h=>nomatch h)) (pad6_len (by decide))
 have zo:Z.all (·.oneCell')=true:=by rw [hZ];exact tkC_one
 have cs:C0.size=205:=by rw [hC0];exact tkC_size (pad6_wf (fun _ h=>nomatch h)) (pad6_len (by decide))
 have co:C0.all (·.oneCell')=true:=by rw [hC0];exact tkC_one
 have cm:C0[204]?=some (.int .i64 (n:Int)):=by rw [hC0];exact tkC_many (pad6_wf (fun _ h=>nomatch h)) (pad6_len (by decide))
 rw [←hZ] at hxz bn
 rw [←hC0] at b1n
 have bz:Below w.heap.size w (w.alloc (.cells Z 136)):=(Below.refl _ _).alloc (Nat.le_refl _) _
 have az:=at_new w Z 136
 have hv1:=hv.below bz
 have FEW:=zh hfew;have GOOD:=zh hgood;have PLACE:=zh hplace;have RD:=zh hrd;have NU:=zh hnu;have REST:=zh hrest;have POS:=zh hpos;have BY:=zh hby;have PA:=zh hpa;have PC:=zh hpc;have RE:=zh hre;have WF:=zh hwf;have RS:=zh hrs;have RL:=zh hrl;have HP:=zh hp;have HX:=zh hx
 have BN:=zh bn;have B1N:=zh b1n;have HZ:=zh hZ;have HC0:=zh hC0;have ZS:=zh zs;have ZO:=zh zo;have CS:=zh cs;have CO:=zh co;have CM:=zh cm;have BZ:=zh bz;have AZ:=zh az;have HV:=zh hv1
 clear hfew hgood hplace hrd hnu hrest hpos hby hpa hpc hre hwf hrs hrl hp hx bn b1n hZ hC0 zs zo cs co cm bz az hv1 hv hY hcase hrr hr1
 have hx:=hxz
 clear hxz
 go_enter Tryz.func81,Tryz.ntmps81
 go_wp2_with fail
 refine (RD.out _ HV.out).mono ?_
 rintro e w2 ⟨br,rfl,hbr,hr2,hb2⟩
 have HBR:=zh hbr;have R2:=zh hr2
 have B2:Hid (Below w.heap.size w w2):=zh (BZ.out.trans (hb2.mono BZ.out.size))
 have A2:=zh (AZ.out.below hb2 AZ.out.lt)
 clear hbr hr2 hb2
 go_wp2_with fail
 refine (NU.out br _ R2.out).mono ?_
 rintro e w3 ⟨rfl,hpk⟩
 have hbr1:w.heap.size < br:=by have h:=HBR.out;simp at h;omega
 have R3:=zh hpk.r
 have A3:=zh (A2.out.but hpk.o (by omega));have B3:Hid (Below w.heap.size w w3):=zh (hpk.k _ _ B2.out (by omega))
 have O1:=zh hbr1;have O2:=zh hpk.r.lt
 clear hpk hbr1 A2 B2 R2
 have I0:Hid (TInv w br w3.heap.size Z C0 (p.drop 1) e1 (w3.alloc (.cells C0 136))):=zh ⟨R3.out.below ((Below.refl _ _).alloc (Nat.le_refl _) _),A3.out.alloc _,at_new _ _ _,B3.out.alloc B3.out.size _,O1.out,O2.out⟩
 have cm:(w3.alloc (.cells C0 136)).cell? ⟨w3.heap.size,204,none⟩=some (.int .i64 (n:Int)):=(I0.out.ag.cell 204).trans CM.out
 go_wp2_with (first
  | (refine wpList_conv zr _ _ _ _ (.int .i64 (n:Int)) zr zr (fun wx=>conv_ui9 n (by omega) wx) ?_)
  | (refine Mem.wpList_build zr 136 _ #[(1,.int .i64 (n:Int))] (.agg C0) zr (by simp [Act.eval,Act.put]) B1N.out ?_)
  | (refine wpList_store_new zr 136 _ _ zr zr C0 _ _ zr zr (by rw [CS.out];exact infoTk) (by rw [ZS.out,CS.out]) CO.out ?_))
 clear cm hx
 obtain ⟨bt,hbt⟩:∃ bt,bt=w3.heap.size:=⟨_,rfl⟩
 rw [←hbt] at I0 O2 ⊢
 clear hbt
 generalize w3.alloc (.cells C0 136)=w4 at *
 have cm:w4.cell? ⟨bt,204,none⟩=some (.int .i64 (n:Int)):=(I0.out.ag.cell 204).trans CM.out
 have I1:Hid (TInv w br bt Z (tkC (pad6 (refsN p 0)) n) (p.drop (1+37*0)) e1 w4):=zh (by
  have h:=I0.out
  rw [HC0.out] at h
  exact h)
 go_upto_region 6 with fail
 clear I0 cm
 go_loopw [21] (fun vi wr=>∃ i:Nat,i≤n∧vi=.int .i64 (i:Int)∧TInv w br bt Z (tkC (pad6 (refsN p i)) n) (p.drop (1+37*i)) e1 wr∧(∀ k,k < i→((pieceN p k).getD 0 0).toNat≤1)) (fun vi _=>n - (intOf vi).toNat)
 case atStart=>exact ⟨0,by omega,rfl,I1.out,fun k hk=>by omega⟩
 case round=>
  obtain ⟨i,hi,rfl,hI,hpl⟩:=hrel
  have PL:=zh hpl
  have hwl:=WF.out i hi
  have hll:=RL.out i
  have hp6:(refsN p i).length≤6:=by omega
  have hcm:(tkC (pad6 (refsN p i)) n)[204]?=some (.int .i64 (n:Int)):=tkC_many (pad6_wf hwl) (pad6_len hp6)
  have hcs:(tkC (pad6 (refsN p i)) n).size=205:=tkC_size (pad6_wf hwl) (pad6_len hp6)
  have hco:(tkC (pad6 (refsN p i)) n).all (·.oneCell')=true:=tkC_one
  have hsp:∀ r:RefV,r.Wf→i < n→Mem.splice (tkC (pad6 (refsN p i)) n) (i*34) (refL r)=tkC (pad6 (refsN p i++[r])) n:=fun r hr hlt=>by
   rw [tkC_set (pad6_wf hwl) (pad6_len hp6) hr (by omega)]
   have h:=pad6_next (L:=refsN p i) r (by omega)
   rw [hll] at h
   rw [h]
  obtain ⟨C,hC⟩:∃ C,C=tkC (pad6 (refsN p i)) n:=⟨_,rfl⟩
  rw [←hC] at hI hcm hcs hco hsp
  have IW:=zh hI;have CMI:=zh hcm;have CSI:=zh hcs;have COI:=zh hco;have SP:=zh hsp;have HC:=zh hC
  clear hI hpl hwl hll hp6 hcm hcs hco hsp hC
  by_cases hlt:i < n
  ·have hlt2:(i:Int) < (n:Int):=by omega
   have hi6:i < 6:=by omega
   obtain ⟨he,hnx⟩:=POS.out (by omega)
   have hby:=fun br wx h=>BY.out i br wx hlt h
   have hpa:=fun wx u h=>PA.out i wx u hlt h
   have hpc:=PC.out i hlt
   have hpt:=PLACE.out n i hnx.symm hn6 hlt
   have hrs:=RS.out i
   have hwi:(rfOf (pieceN p i)).Wf:=rfOf_wf _ (piece_length p i HP.out hi6)
   have hpl2:¬ 1 < ((pieceN p i).getD 0 0).toNat→∀ k,k < i+1→((pieceN p k).getD 0 0).toNat≤1:=fun h k hk=>by
    rcases Nat.lt_or_ge k i with a | a
    ·exact PL.out k a
    ·rw [show k=i by omega];omega
   obtain ⟨s,hs⟩:∃ s,s=pieceN p i:=⟨_,rfl⟩
   rw [←hs] at hby hpa hpc hpt hrs hwi hpl2
   have BYI:=zh hby
   have hx:=zeroRfP
   obtain ⟨Zr,hZr⟩:∃ Z,Z=refC zref:=⟨_,rfl⟩
   have zrs:Zr.size=34:=by rw [hZr];exact refC_size zref_wf
   have zro:Zr.all (·.oneCell')=true:=by rw [hZr];exact refC_one zref
   rw [←hZr] at hx
   have ZRS:=zh zrs;have ZRO:=zh zro
   by_cases g1:1 < (s.getD 0 0).toNat
   ·rw [hpc,if_pos g1] at hpa
    simp only at hpa
    rw [←hZr] at hpa
    have PAI:=zh hpa;have HY:=zh (hpt g1)
    clear hby hpa hpc hpt hrs hwi hpl2 hs g1 zrs zro hZr he hnx
    go_wp2_with fail
    refine (BYI.out br _ IW.out.r).mono ?_
    rintro e w5 ⟨u,rfl,hsu,hpk⟩
    have J5:=zh (IW.out.call hpk);have SU:=zh hsu
    clear hsu hpk
    go_wp2_with fail
    refine (PAI.out _ _ SU.out).mono ?_
    rintro e w6 ⟨rfl,hb6⟩
    have J6:=zh ((J5.out.below hb6).below ((Below.refl _ _).alloc (Nat.le_refl _) (.cells Zr 32)))
    clear hb6 J5 SU
    go_wp2_with (first
     | (refine wpList_store_new zr 32 _ _ zr zr Zr _ _ zr zr (by rw [ZRS.out];exact infoRfP) zr ZRO.out ?_)
     | (refine Mem.wpList_build zr 136 _ #[] (.agg Z) zr (by simp) BN.out ?_)
     | (refine wpList_store_all zr 136 _ _ zr zr w.heap.size Z zr zr (by rw [ZS.out];exact infoTk) Z 136 J6.out.ar zr ZO.out ?_))
    try simp only [Exit.inBlock,Exit.then]
    refine ret_row_tmp zr w.heap.size 136 Z _ _ zr zr (J6.out.ar.row Z) Tryz.underlying136 zr (by rw [ZS.out];exact infoTk) ?_
    exact ⟨by rw [HY.out,HZ.out];rfl,below_row J6.out.l (Nat.le_refl _) Z⟩
   ·rw [hpc,if_neg g1] at hpa
    simp only at hpa
    obtain ⟨r,hr⟩:∃ r,r=rfOf s:=⟨_,rfl⟩
    rw [←hr] at hpa hwi hrs
    have hsp:=SP.out r hwi hlt
    rw [←hrs] at hsp
    obtain ⟨M,hM⟩:∃ M,M=refC r:=⟨_,rfl⟩
    have hml:M.toList=refL r:=by rw [hM];rfl
    have ms:M.size=34:=by rw [hM];exact refC_size hwi
    have mo:M.all (·.oneCell')=true:=by rw [hM];exact refC_one r
    rw [←hml] at hsp
    rw [←hM] at hpa
    have PAI:=zh hpa;have SPI:=zh hsp;have MS:=zh ms;have MO:=zh mo;have PL2:=zh (hpl2 g1)
    clear hby hpa hpc hpt hrs hwi hpl2 hs g1 zrs zro hZr he hnx hr hM hml ms mo hsp
    go_wp2_with fail
    refine (BYI.out br _ IW.out.r).mono ?_
    rintro e w5 ⟨u,rfl,hsu,hpk⟩
    have J5:=zh (IW.out.call hpk);have SU:=zh hsu
    clear hsu hpk
    go_wp2_with fail
    refine (PAI.out _ _ SU.out).mono ?_
    rintro e w6 ⟨rfl,hb6⟩
    have J6:=zh ((J5.out.below hb6).below ((Below.refl _ _).alloc (Nat.le_refl _) (.cells M 32)))
    have A6:=zh (at_new w6 M 32)
    clear hb6 J5 SU
    go_upto_region 11 with (refine wpList_store_new zr 32 _ _ zr zr M _ _ zr zr (by rw [MS.out];exact infoRfP) (by rw [MS.out,ZRS.out]) MO.out ?_)
    clear hx
    obtain ⟨l,hl⟩:∃ l,l=w6.heap.size:=⟨_,rfl⟩
    rw [←hl] at A6 ⊢
    clear hl
    generalize (w6.alloc (.cells M 32))=w7 at *
    go_wp2_with (first
     | (refine wpList_load_all zr 32 _ zr l zr _ Tryz.underlying32 zr M _ A6.out (by rw [MS.out];exact infoRfP) ?_)
     | (refine Mem.wpList_store_at zr 32 _ _ zr zr bt (i*34) M zr zr (by rw [MS.out];exact infoRfP) C 136 J6.out.ag (by rw [MS.out,CSI.out];omega) MO.out ?_;rw [SPI.out]))
    go_roundw
    case rel=>exact ⟨i+1,by omega,by go_num,J6.out.row _,PL2.out⟩
    case measure=>simp [intOf];omega
  ·have hin:i=n:=by omega
   subst hin
   have hge:¬ (i:Int) < (i:Int):=by omega
   go_wp2_with fail
   refine (RE.out br _ IW.out.r).mono ?_
   rintro e w5 ⟨rfl,hpk⟩
   have J5:=zh (IW.out.call hpk)
   clear hpk
   rcases REST.out with ⟨h0,hnx,hz⟩ | ⟨h3,hy⟩
   ·subst h0
    have cm:w5.cell? ⟨bt,204,none⟩=some (.int .i64 (i:Int)):=(J5.out.ag.cell 204).trans CMI.out
    have im:=isMany_any (i:Int) w5
    by_cases h1:1≤i
    ·rw [decide_eq_true (⟨by omega,by omega⟩:1≤(i:Int)∧(i:Int)≤6)] at im
     have hy:=GOOD.out i hnx.symm h1 hn6 PL.out hz
     have IM:=zh im;have HY:=zh hy;have RLI:=zh (RL.out i)
     clear im hy h1 hnx hz
     go_wp2_with fail
     refine IM.out.mono ?_
     rintro e w6 ⟨rfl,rfl⟩
     go_wp2_with (first
      | (refine wpList_load_all zr 136 _ zr bt zr _ Tryz.underlying136 zr C _ J5.out.ag (by rw [CSI.out];exact infoTk) ?_)
      | (refine wpList_store_all zr 136 _ _ zr zr w.heap.size C zr zr (by rw [CSI.out];exact infoTk) Z 136 J5.out.ar (by rw [CSI.out,ZS.out]) COI.out ?_))
     try simp only [Exit.inBlock,Exit.then]
     refine ret_row_tmp zr w.heap.size 136 C _ _ zr zr (J5.out.ar.row C) Tryz.underlying136 zr (by rw [CSI.out];exact infoTk) ?_
     exact ⟨by rw [HY.out,HC.out];simp only [RLI.out];rfl,below_row J5.out.l (Nat.le_refl _) C⟩
    ·rw [decide_eq_false (fun h:1≤(i:Int)∧(i:Int)≤6=>h1 (by omega))] at im
     have hy:=FEW.out (.inl (by omega))
     have IM:=zh im;have HY:=zh hy
     clear im hy h1 hnx hz
     go_wp2_with fail
     refine IM.out.mono ?_
     rintro e w6 ⟨rfl,rfl⟩
     go_wp2_with (first
      | (refine Mem.wpList_build zr 136 _ #[] (.agg Z) zr (by simp) BN.out ?_)
      | (refine wpList_store_all zr 136 _ _ zr zr w.heap.size Z zr zr (by rw [ZS.out];exact infoTk) Z 136 J5.out.ar zr ZO.out ?_))
     try simp only [Exit.inBlock,Exit.then]
     refine ret_row_tmp zr w.heap.size 136 Z _ _ zr zr (J5.out.ar.row Z) Tryz.underlying136 zr (by rw [ZS.out];exact infoTk) ?_
     exact ⟨by rw [HY.out,HZ.out];rfl,below_row J5.out.l (Nat.le_refl _) Z⟩
   ·subst h3
    have HY:=zh hy
    clear hy
    go_wp2_with (first
     | (refine Mem.wpList_build zr 136 _ #[] (.agg Z) zr (by simp) BN.out ?_)
     | (refine wpList_store_all zr 136 _ _ zr zr w.heap.size Z zr zr (by rw [ZS.out];exact infoTk) Z 136 J5.out.ar zr ZO.out ?_))
    try simp only [Exit.inBlock,Exit.then]
    refine ret_row_tmp zr w.heap.size 136 Z _ _ zr zr (J5.out.ar.row Z) Tryz.underlying136 zr (by rw [ZS.out];exact infoTk) ?_
    exact ⟨by rw [HY.out,HZ.out];rfl,below_row J5.out.l (Nat.le_refl _) Z⟩
theorem ptake_any (p:Lb8) (v:Value) (w:World) (hv:Sl w v p) (_hl:p.length≤1000):Calls Tryz.prog 81 #[v] w (TkE w (allN p).1 (allN p).2):=by
 by_cases hp:p.length=256
 ·exact take_page p v w hv hp
 ·have hy:allN p=([],1):=by unfold allN;rw [if_pos hp]
  obtain ⟨Y,hY⟩:∃ Y,Y=allN p:=⟨_,rfl⟩
  rw [←hY] at hy ⊢
  obtain ⟨a,c,rfl,_⟩:=hv
  have hne:¬ (p.length:Int)=256:=by omega
  obtain ⟨n,hn⟩:∃ n,n=p.length:=⟨_,rfl⟩
  rw [←hn] at hne ⊢
  have hx:=zeroTk
  have bn:=buildTk0
  obtain ⟨Z,hZ⟩:∃ Z,Z=tkC (pad6 []) 0:=⟨_,rfl⟩
  have zs:Z.size=205:=by rw [hZ];exact tkC_size (pad6_wf (fun _ h=>nomatch h)) (pad6_len (by decide))
  have zo:Z.all (·.oneCell')=true:=by rw [hZ];exact tkC_one
  rw [←hZ] at hx bn
  have az:=at_new w Z 136
  have bz:Below w.heap.size w (w.alloc (.cells Z 136)):=(Below.refl _ _).alloc (Nat.le_refl _) _
  have HY:=zh hy;have BN:=zh bn;have HZ:=zh hZ;have ZS:=zh zs;have ZO:=zh zo;have AZ:=zh az;have BZ:=zh bz
  clear hy hY hp hn _hl bn hZ zs zo az bz
  go_enter Tryz.func81,Tryz.ntmps81
  go_upto_region 1 with fail
  clear hx
  generalize w.alloc (.cells Z 136)=w1 at *
  go_wp2_with (first
   | (refine Mem.wpList_build zr 136 _ #[] (.agg Z) zr (by simp) BN.out ?_)
   | (refine wpList_store_all zr 136 _ _ zr zr w.heap.size Z zr zr (by rw [ZS.out];exact infoTk) Z 136 AZ.out zr ZO.out ?_))
  try simp only [Exit.inBlock,Exit.then]
  refine ret_row_tmp zr w.heap.size 136 Z _ _ zr zr (AZ.out.row Z) Tryz.underlying136 zr (by rw [ZS.out];exact infoTk) ?_
  exact ⟨by rw [HY.out,HZ.out];rfl,below_row BZ.out (Nat.le_refl _) Z⟩
end Sha
end Go.Proofs.YtddjdaocdfkgeaaGreatDoor
namespace Go.Proofs.YtddjdaocdfkgeaaGreatDoor
namespace Sha
open Go.RowKit Mem
set_option maxRecDepth 100000
theorem isPlace_any (z:Int) (w:World):Calls Tryz.prog 78 #[.int .i64 z] w fun e w'=>e=.returned (.bool (decide (0≤z∧z≤1)))∧w'=w:=by
 by_cases h1:0≤z
 ·by_cases h6:z≤1
  ·rw [decide_eq_true ⟨h1,h6⟩]
   go_enter Tryz.func78,Tryz.ntmps78
   go_wp2_with fail
   go_ret
   exact ⟨rfl,rfl⟩
  ·rw [decide_eq_false (fun h=>h6 h.2)]
   go_enter Tryz.func78,Tryz.ntmps78
   go_wp2_with fail
   go_ret
   exact ⟨rfl,rfl⟩
 ·rw [decide_eq_false (fun h=>h1 h.1)]
  go_enter Tryz.func78,Tryz.ntmps78
  go_wp2_with fail
  go_ret
  exact ⟨rfl,rfl⟩
theorem body_first (L:List RefV):([]:Lb8)++nbytes L.length 1=bodyN L 0:=by
 simp [bodyN,nbytes,nbyte,List.range_succ]
theorem play13_many (L:List RefV) (v:Value) (w:World) (hv:SlRf w v L) (hw:∀ r∈L,r.Wf) (h1:1≤L.length) (h6:L.length≤6):Calls Tryz.prog 66 #[v] w (SealEnd w (layN L).1 (layN L).2):=by
 have hgood:=layN_good h1 h6
 have hbad:=fun i hi h=>layN_place (L:=L) i hi h
 obtain ⟨Y,hY⟩:∃ Y,Y=layN L:=⟨_,rfl⟩
 rw [←hY] at hgood hbad ⊢
 have hgw:=fun i=>getD_wf hw i
 have hrl:=fun i wx=>play9_any (L.getD i zref) (hgw i) wx
 have hrll:=fun i=>layRf_length (hgw i)
 have hbl:=fun i (hi:i≤L.length)=>bodyN_length L i hw hi
 have hbs:=fun i (hi:i < L.length)=>bodyN_succ L i hi
 have hfill:∀ u wx,Sl wx u (bodyN L L.length)→Calls Tryz.prog 80 #[u,.int .i64 256] wx (TwoOwn wx (bodyN L L.length++List.replicate (256 - (1+37*L.length)) 0) 0):=fun u wx h=>by
  have hf:=pfill_own (bodyN L L.length) 256 u wx h (by rw [hbl _ (Nat.le_refl _)];omega) (by decide)
  unfold fillB at hf
  rw [hbl _ (Nat.le_refl _)] at hf
  exact hf
 have hnum:=fun u wx h=>num1_any [] L.length u wx h (by decide) (by omega)
 rw [body_first] at hnum
 obtain ⟨F,hF⟩:∃ F,F=bodyN L L.length++List.replicate (256 - (1+37*L.length)) 0:=⟨_,rfl⟩
 rw [←hF] at hgood hfill
 have hb0:(bodyN L 0).length=1:=hbl 0 (Nat.zero_le _)
 obtain ⟨a,c,rfl⟩:=hv.hd
 obtain ⟨n,hn⟩:∃ n,n=L.length:=⟨_,rfl⟩
 rw [←hn] at hv h1 h6 hgood hbad hbl hbs hfill hnum ⊢
 have im:=fun wx=>isMany_any (n:Int) wx
 rw [decide_eq_true (⟨by omega,by omega⟩:1≤(n:Int)∧(n:Int)≤6)] at im
 have cv:=fun wx=>conv_iu64 (n:Int) n (by omega) wx
 have zsz:(refC zref).size=34:=refC_size zref_wf
 have hx0:=zeroRfP
 obtain ⟨Z,hZ⟩:∃ Z,Z=refC zref:=⟨_,rfl⟩
 rw [←hZ] at zsz hx0
 have HV:=zh hv;have GOOD:=zh hgood;have BAD:=zh hbad;have GW:=zh hgw;have RL:=zh hrl;have RLL:=zh hrll;have HN:=zh hn;have BL:=zh hbl;have BS:=zh hbs;have FILL:=zh hfill;have NUM:=zh hnum;have ZSZ:=zh zsz;have HX:=zh hx0;have IM:=zh im;have CV:=zh cv;have B0:=zh hb0
 clear hv hgood hbad hgw hrl hrll hn hbl hbs hfill hnum hF hY hw zsz hx0 hZ im cv hb0
 go_enter Tryz.func66,Tryz.ntmps66
 go_wp2_with fail
 refine (IM.out _).mono ?_
 rintro e w1 ⟨rfl,rfl⟩
 go_wp2_with (refine wpList_conv zr _ _ _ _ (.int .u64 (n:Int)) zr zr CV.out ?_)
 refine (NUM.out _ _ (sl_none _)).mono ?_
 rintro e w3 ⟨g,rfl,ha,hg,hb⟩
 have B3:=zh hb
 have O3:Hid (OwnB w3 w1.heap.size (.slice (some ⟨g,0,none⟩) 1 1) (bodyN L 0)):=zh (by
  have h:=own_fulls ha hg (by rw [B0.out];decide)
  rw [B0.out] at h
  exact h)
 rw [B0.out]
 clear ha hg hb
 go_upto_region 5 with fail
 go_loopw [4,17] (fun vb vi wr=>∃ i:Nat,i≤n∧vi=.int .i64 (i:Int)∧OwnB wr w1.heap.size vb (bodyN L i)∧(∀ k,k < i→plOk (L.getD k zref)=true)∧Below w1.heap.size w1 wr) (fun _ vi _=>n - (intOf vi).toNat)
 case atStart=>exact ⟨0,by omega,rfl,O3.out,fun k hk=>by omega,B3.out⟩
 case round=>
  obtain ⟨i,hi,rfl,ho,hpl,hbw⟩:=hrel
  have OW:=zh ho;have BW:=zh hbw;have PL:=zh hpl;have VW:=zh (HV.out.below hbw)
  clear ho hbw hpl
  by_cases hlt:i < n
  ·have hlt2:(i:Int) < (n:Int):=by omega
   obtain ⟨b,o,ea,_,hr⟩:=slrf_at (i:=i) VW.out HN.out hlt
   subst ea
   have hok:plOk (L.getD i zref)=decide (0≤(L.getD i zref).pl∧(L.getD i zref).pl≤1):=rfl
   have hwi:=GW.out i
   have hrli:=RL.out i
   have hrll:=RLL.out i
   have hbd:=BAD.out i hlt
   have hbs:=BS.out i hlt
   have hbl:=BL.out i hi
   obtain ⟨r,hr0⟩:∃ r,r=L.getD i zref:=⟨_,rfl⟩
   have hgi:plOk r=true→∀ k,k < i+1→plOk (L.getD k zref)=true:=fun h k hk=>by
    rcases Nat.lt_or_ge k i with x | x
    ·exact PL.out k x
    ·rw [show k=i by omega,←hr0];exact h
   rw [←hr0] at hr hok hwi hrli hrll hbd hbs
   have rc0:=ref0 r
   have ip:=fun wx=>isPlace_any r.pl wx
   rw [←hok] at ip
   obtain ⟨pl,hp⟩:∃ pl,pl=r.pl:=⟨_,rfl⟩
   rw [←hp] at rc0 ip
   obtain ⟨q,hq⟩:∃ q,q=plOk r:=⟨_,rfl⟩
   rw [←hq] at ip hbd hgi
   have msz:=refC_size hwi;have mone:=refC_one r
   obtain ⟨M,hM⟩:∃ M,M=refC r:=⟨_,rfl⟩
   have hrg:wr.rangeAt b (o+i*34) M.toList:=by rw [hM];exact hr
   rw [←hM] at rc0 msz mone hrli
   have RLI:=zh hrli;have HBD:=zh hbd;have HGI:=zh hgi;have HRL:=zh hrll;have HBS:=zh hbs;have HBL:=zh hbl;have RC0:=zh rc0;have MSZ:=zh msz;have MONE:=zh mone;have RG:=zh hrg;have IP:=zh ip
   have hb5:Below wr.heap.size wr (wr.alloc (.cells M 32)):=(Below.refl _ _).alloc (Nat.le_refl _) _
   have A5:=zh (at_new wr M 32);have O5:=zh (ownsRow_below OW.out hb5);have B5:=zh (BW.out.alloc BW.out.size (.cells M 32))
   clear hr hok hrli hrll hbd hbs hbl hr0 hgi hp rc0 msz mone hM hrg hb5 hwi ip hq
   have hx:=HX.out
   go_upto_region 7 with (first
    | (refine wpList_load_mid zr 32 _ zr b (o+i*34) zr M.toList _ RG.out Tryz.underlying32 zr (by rw [infoRfP,Array.length_toList,MSZ.out]) ?_;rw [Array.toArray_toList])
    | (refine wpList_store_new zr 32 _ _ zr zr M _ _ zr zr (by rw [MSZ.out];exact infoRfP) (by rw [MSZ.out,ZSZ.out]) MONE.out ?_))
   clear hx
   obtain ⟨l,hl⟩:∃ l,l=wr.heap.size:=⟨_,rfl⟩
   rw [←hl] at A5 ⊢
   clear hl
   generalize (wr.alloc (.cells M 32))=w5 at *
   have cp:w5.cell? ⟨l,0,none⟩=some (.int .i64 pl):=(A5.out.cell 0).trans RC0.out
   go_wp2_with fail
   refine (IP.out _).mono ?_
   rintro e w6 ⟨rfl,rfl⟩
   clear cp
   cases q
   ·have HY:=zh (HBD.out rfl)
    go_wp2_with fail
    go_ret2
    exact ⟨_,by rw [HY.out];rfl,by rw [HY.out];exact sl_none _,B5.out⟩
   ·have HG2:=zh (HGI.out rfl)
    go_wp2_with (refine wpList_load_all zr 32 _ zr l zr _ Tryz.underlying32 zr M _ A5.out (by rw [MSZ.out];exact infoRfP) ?_)
    refine (RLI.out _).mono ?_
    rintro e w7 ⟨v7,rfl,hs7,hb7⟩
    have S7:=zh hs7;have O7:=zh (ownsRow_below O5.out hb7);have B7:Hid (Below w1.heap.size w1 w7):=zh (B5.out.trans (hb7.mono B5.out.size))
    clear hs7 hb7
    go_wp2_with (at_builtin;go_loud (refine wpList_append_bytes zr _ _ zr w1.heap.size u4 v7 (bodyN L i) (layRf r) zr O7.out zr S7.out (by rw [HBL.out,HRL.out];omega) B7.out.size ?_);intro v9 w9 ho9 _ hb9;have O9:Hid (OwnB w9 w1.heap.size v9 (bodyN L (i+1))):=zh (by rw [HBS.out];exact ho9);have B9:=zh (B7.out.trans hb9);clear ho9 hb9)
    go_roundw
    case rel=>exact ⟨i+1,by omega,by go_num,O9.out,HG2.out,B9.out⟩
    case measure=>simp [intOf];omega
  ·have hin:i=n:=by omega
   subst hin
   have hge:¬ (i:Int) < (i:Int):=by omega
   have HY:=zh (GOOD.out PL.out)
   have SW:=zh OW.out.sl
   go_wp2_with fail
   refine (FILL.out _ _ SW.out).mono ?_
   rintro e w6 ⟨g6,rfl,ha6,_,hb6⟩
   have S6:=zh (at_sl ha6 rfl);have B6:Hid (Below w1.heap.size w1 w6):=zh (BW.out.trans (hb6.mono BW.out.size))
   clear ha6 hb6
   go_wp2_with fail
   go_ret2
   exact ⟨_,by rw [HY.out];rfl,by rw [HY.out];exact S6.out,B6.out⟩
theorem play13_any (L:List RefV) (v:Value) (w:World) (hv:SlRf w v L) (hw:∀ r∈L,r.Wf):Calls Tryz.prog 66 #[v] w (SealEnd w (layN L).1 (layN L).2):=by
 by_cases h:1≤L.length∧L.length≤6
 ·exact play13_many L v w hv hw h.1 h.2
 ·have hy:layN L=([],1):=layN_few (by omega)
  obtain ⟨Y,hY⟩:∃ Y,Y=layN L:=⟨_,rfl⟩
  rw [←hY] at hy ⊢
  obtain ⟨a,c,rfl⟩:=hv.hd
  obtain ⟨n,hn⟩:∃ n,n=L.length:=⟨_,rfl⟩
  rw [←hn] at h ⊢
  have im:=isMany_any (n:Int) w
  rw [decide_eq_false (fun g:1≤(n:Int)∧(n:Int)≤6=>h (by omega))] at im
  have HY:=zh hy;have IM:=zh im
  clear hy hY hv hw h hn im
  go_enter Tryz.func66,Tryz.ntmps66
  go_wp2_with fail
  refine IM.out.mono ?_
  rintro e w1 ⟨rfl,rfl⟩
  go_wp2_with fail
  go_ret2
  exact ⟨_,by rw [HY.out];rfl,by rw [HY.out];exact sl_none _,Below.refl _ _⟩
end Sha
end Go.Proofs.YtddjdaocdfkgeaaGreatDoor
