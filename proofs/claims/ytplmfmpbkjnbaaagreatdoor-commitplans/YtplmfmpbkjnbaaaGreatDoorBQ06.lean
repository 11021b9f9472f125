/- The walk of a state's Write: its loop copies chunk by chunk. The walk of a state's pad. -/
import Derived.Test.YtplmfmpbkjnbaaaGreatDoorBQ02
import Derived.Test.YtplmfmpbkjnbaaaGreatDoorBQ03
import Derived.Test.YtplmfmpbkjnbaaaGreatDoorBQ04
set_option maxRecDepth 100000
set_option maxHeartbeats 1000000
namespace Go.Proofs.YtplmfmpbkjnbaaaGreatDoor
namespace Sha
open Go.RowKit Mem
def lenOf:Value→Nat | .slice _ n _=>n | _=>0
def Zst:Array Value:=stRow (List.replicate 8 0) zs64 0
def ZT:Array Value:=(u8s zs64).toArray
theorem zeroSt (w:World):(zeroValue 261).run Tryz.prog w=.ok (.agg Zst) w:=by kernel_rfl
theorem infoSt:(Tryz.prog.info? 261).map (·.size)=some 73:=by kernel_rfl
theorem stRow_one {H:List (BitVec 32)} {T:Lb8} {n:Nat}:(stRow H T n).all (·.oneCell')=true:=by
 simp [stRow,stL,u32s,u8s,Value.oneCell']
theorem ZT_size:ZT.size=64:=by simp [ZT,u8s,zs64]
theorem Zst_size:Zst.size=73:=stRow_size (by simp) (by simp [zs64])
structure WInv (s:Fed) (N:Nat) (B:Nat) (w wr:World):Prop where
 c:At wr B (stRow s.H s.T N) 261
 z:At wr (B+1) Zst 261
 b:Below B w wr
def WRel (s:Fed) (l:Lb8) (N:Nat) (w:World) (vb va:Value) (wr:World):Prop:=
 ∃ done rest,l=done++rest∧Sl w vb rest∧va=.int .i64 ((feeds s done).at':Int)∧WInv (feeds s done) N w.heap.size w wr
theorem write_any (s:Fed) (hs:Ok s) (n:Nat) (hn:n % 64=s.at') (l:Lb8) (v:Value) (w:World) (hN:n+l.length≤9223372036854775807) (hv:Sl w v l) (hL:Tabs w) :
 Calls Tryz.prog 192 #[.agg (stRow s.H s.T n),v] w fun e w'=>e=.returned (.agg (stRow (feeds s l).H (feeds s l).T (n+l.length)))∧Below w.heap.size w w':=by
 have hv0:=hv
 obtain ⟨a0,cap0,rfl,hcap0,_⟩:=hv
 obtain ⟨C,hC⟩:∃ C,C=stRow s.H s.T n:=⟨_,rfl⟩
 obtain ⟨Z,hZ⟩:∃ Z,Z=Zst:=⟨_,rfl⟩
 obtain ⟨N,hNN⟩:∃ N,N=n+l.length:=⟨_,rfl⟩
 have hz:=zeroSt
 rw [←hZ] at hz
 rw [←hC]
 have hsz:C.size=73:=by rw [hC];exact stRow_size hs.h hs.t
 have h72:C[72]?=some (.int .u64 (n:Int)):=by rw [hC];exact stRow_n hs.h hs.t
 have hmod:((n % 64:Nat):Int)=(s.at':Int):=by rw [hn]
 have aC:At ((w.alloc (.cells C 261)).alloc (.cells Z 261)) w.heap.size C 261:=(at_new w C _).alloc _
 have aZ:At ((w.alloc (.cells C 261)).alloc (.cells Z 261)) (w.heap.size+1) Z 261:=by
  have:=at_new (w.alloc (.cells C 261)) Z 261
  simpa using this
 have b1:Below w.heap.size w ((w.alloc (.cells C 261)).alloc (.cells Z 261)):=((Below.refl _ _).alloc (Nat.le_refl _) _).alloc (by simp) _
 have s1:((w.alloc (.cells C 261)).alloc (.cells Z 261)).heap.size=w.heap.size+2:=by simp
 have HC:=zh hC;have HZ:=zh hZ;have HNN:=zh hNN;have HSZ:=zh hsz;have H72:=zh h72;have HM:=zh hmod;have AC:=zh aC;have AZ:=zh aZ;have B1:=zh b1;have S1:=zh s1
 have HV:=zh hv0;have HLT':=zh hL;have HS:=zh hs;have HMOD:=zh hn
 clear hC hZ hNN hsz h72 hmod aC aZ b1 s1 hv0 hL hs hn
 have TS:Hid (∀ w:World,Calls Tryz.prog 204 #[.agg C] w fun e w'=>e=.returned (.int .i64 (s.at':Int))∧Below w.heap.size w w'):=fun w=>by
  have:=tailSize_any C n w H72.out
  rw [HM.out] at this
  exact this
 go_enter Tryz.func192,Tryz.ntmps192
 go_wp2_with (first | (refine wpList_load_all zr 261 _ zr _ zr _ Tryz.underlying261 zr _ _ AC.out (by rw [HSZ.out];exact infoSt) ?_) | (go_at_call 204;refine (TS.out _).mono ?_;rintro e w2 ⟨rfl,hb2⟩;have a2:=AC.out.below hb2 (by rw [S1.out];omega);have c72:=(a2.cell 72).trans H72.out;have f72:=a2.free 72;have A2:=zh a2;have HB2:=zh hb2;clear a2 hb2))
 have hI0:WInv s N w.heap.size w (w2.setCell ⟨w.heap.size,72,none⟩ (.int .u64 ((n:Int)+(l.length:Int)))):=by
  have hb2:=HB2.out
  rw [S1.out] at hb2
  refine ⟨?_,?_,(B1.out.trans (hb2.mono (by omega))).setCell (by simp) _⟩
  ·have h:=A2.out.set 72 (.int .u64 ((N:Nat):Int))
   rw [HC.out,stRow_set HS.out.h HS.out.t] at h
   rw [←Int.natCast_add,←HNN.out]
   exact h
  ·rw [←HZ.out];exact (AZ.out.below hb2 (by omega)).set_other _ _ (by simp)
 have HI0:=zh hI0
 clear hI0 c72 f72 hz
 go_loopw [1,5,6] (fun vb va _ wr=>WRel s l N w vb va wr) (fun vb _ _ _=>lenOf vb)
 case atStart=>exact ⟨[],l,rfl,HV.out,rfl,HI0.out⟩
 case round=>
  obtain ⟨done,rest,hl,⟨a,cap,rfl,hcap,hcells⟩,rfl,hI⟩:=hrel
  have hok:=feeds_ok done HS.out
  obtain ⟨F,hF⟩:∃ F,F=feeds s done:=⟨_,rfl⟩
  rw [←hF] at hI hok ⊢
  obtain ⟨m,hm⟩:∃ m,m=rest.length:=⟨_,rfl⟩
  rw [←hm] at hcap ⊢
  have HF:=zh hF;have HL:=zh hl;have HI:=zh hI;have HOK:=zh hok;have HMM:=zh hm;have HCE:=zh hcells
  clear hF hl hI hok hcells
  by_cases hne:m=0
  ·have hlen:¬ (0:Int) < (m:Int):=by omega
   have hr0:rest=[]:=List.eq_nil_of_length_eq_zero (by rw [←hm];exact hne)
   have hld:l=done:=by rw [HL.out,hr0,List.append_nil]
   have hA:=HI.out.c
   obtain ⟨G,hG⟩:∃ G,G=stRow F.H F.T N:=⟨_,rfl⟩
   rw [←hG] at hA
   have hGs:G.size=73:=by rw [hG];exact stRow_size HOK.out.h HOK.out.t
   have hGo:G.all (·.oneCell')=true:=by rw [hG];exact stRow_one
   have hfin:stRow (feeds s l).H (feeds s l).T (n+l.length)=G:=by rw [hG,←HNN.out,hld,←HF.out]
   have HA:=zh hA;have HG:=zh hG;have HGS:=zh hGs;have HGO:=zh hGo;have HFIN:=zh hfin
   clear hr0 hld hA hG hGs hGo hfin hm hne
   go_wp2_with (first | (refine wpList_load_all zr 261 _ zr _ zr _ Tryz.underlying261 zr _ _ HA.out (by rw [HGS.out];exact infoSt) ?_) | (refine wpList_store_all zr 261 _ _ zr zr _ _ zr zr (by rw [HGS.out];exact infoSt) _ _ HI.out.z (by rw [HGS.out,Zst_size]) HGO.out ?_))
   try simp only [Exit.inBlock,Exit.then]
   refine ret_row zr (w.heap.size+1) 261 G _ zr (HI.out.z.row G) Tryz.underlying261 zr (by rw [HGS.out];exact infoSt) ?_
   exact ⟨by rw [HFIN.out],below_row HI.out.b (by omega) G⟩
  ·obtain ⟨bb,oo,ha,hbb,hce⟩:=HCE.out (by intro e;rw [e] at hm;exact hne hm)
   subst ha
   have hpos:(0:Int) < (m:Int):=by omega
   have hp:=HOK.out.a
   obtain ⟨p,hpp⟩:∃ p,p=F.at':=⟨_,rfl⟩
   rw [←hpp] at hp ⊢
   have HP:=zh hpp;have HCC:=zh hce
   clear hpp hce hne
   obtain ⟨k,hk⟩:∃ k,k=min (64 - p) m:=⟨_,rfl⟩
   have hkm:k≤m:=by omega
   have hk0:0 < k:=by omega
   obtain ⟨c,hc⟩:∃ c,c=rest.take k:=⟨_,rfl⟩
   have hcl:c.length=k:=by rw [hc,List.length_take];omega
   obtain ⟨cs,hcs⟩:∃ cs,cs=u8s c:=⟨_,rfl⟩
   have hcsl:cs.length=k:=by rw [hcs,u8s_length,hcl]
   have hn:cs.length=Nat.min m (64 - p):=by rw [hcsl,hk];exact Nat.min_comm _ _
   have hsrc:∀ j v,cs[j]?=some v→wr.cell? ((⟨bb,oo,none⟩:Addr).add j)=some v:=fun j v hv=>by
    have hj:j < cs.length:=(List.getElem?_eq_some_iff.1 hv).1
    rw [Addr.add_mid,HI.out.b.cell (p:=⟨bb,oo+j,none⟩) hbb,HCC.out j (by rw [←HMM.out];omega),←hv,hcs,u8s_get c j (by omega),hc]
    simp [List.getD_eq_getElem?_getD,show j < k by omega]
   have h1:∀ v∈cs,v.oneCell'=true:=by rw [hcs];intro v hv;simp only [u8s,List.mem_map] at hv;obtain ⟨_,_,rfl⟩:=hv;rfl
   obtain ⟨E,hE⟩:∃ E,E=stRow F.H (lay F.T p c) N:=⟨_,rfl⟩
   have hsp:Mem.splice (stRow F.H F.T N) (8+p) cs=E:=by rw [hcs,hE];exact stRow_putT HOK.out.h HOK.out.t p c (by omega)
   have hfit:8+p+cs.length≤(stRow F.H F.T N).size:=by rw [stRow_size HOK.out.h HOK.out.t];omega
   obtain ⟨C0,hC0⟩:∃ C0,C0=stRow F.H F.T N:=⟨_,rfl⟩
   have hAc:=HI.out.c
   rw [←hC0] at hAc hsp hfit
   have hlt:(lay F.T p c).length=64:=by rw [lay_length _ _ _ (by rw [HOK.out.t];omega),HOK.out.t]
   have hnext:WRel s l N w (.slice (none:Option Addr) 0 0) (.int .i64 0) wr∨True:=Or.inr trivial
   clear hnext
   have HK:=zh hk;have HC':=zh hc;have HCL:=zh hcl;have HCS:=zh hcs;have HCSL:=zh hcsl;have HN':=zh hn;have HSRC:=zh hsrc;have H1:=zh h1;have HE:=zh hE;have HSP:=zh hsp;have HFIT:=zh hfit;have HC0:=zh hC0;have HAC:=zh hAc;have HLT:=zh hlt
   have hk64:p+k≤64:=by omega
   have hkm':¬ p+k=64→k=m:=by omega
   clear hk hc hcl hcs hcsl hn hsrc h1 hE hsp hfit hC0 hAc hlt hm
   by_cases hfull:p+k=64
   ·have hb:(((p:Int)+(k:Int)) == 64)=true:=by rw [beq_iff_eq];omega
    clear hkm'
    have HFULL:=zh hfull
    have hOK:=HOK.out
    have hE2:E.extract 0 (0+8)=(u32s F.H).toArray:=by rw [HE.out];exact stRow_H hOK.h
    have hE3:E.extract 8 (8+64)=(u8s (lay F.T p c)).toArray:=by rw [HE.out];exact stRow_T hOK.h HLT.out
    have hEs:E.size=73:=by rw [HE.out];exact stRow_size hOK.h HLT.out
    obtain ⟨J,hJ⟩:∃ J,J=addB F.H (lay F.T p c):=⟨_,rfl⟩
    have hJl:J.length=8:=by rw [hJ];exact addB_length _ _ hOK.h
    obtain ⟨G,hG⟩:∃ G,G=stRow J (lay F.T p c) N:=⟨_,rfl⟩
    obtain ⟨Q2,hQ2⟩:∃ Q2,Q2=stRow J zs64 N:=⟨_,rfl⟩
    have hGs:G.size=73:=by rw [hG];exact stRow_size hJl HLT.out
    have hput:Mem.splice E 0 (u32s J).toArray.toList=G:=by rw [HE.out,hG];exact stRow_putH hOK.h hJl
    have hput2:Mem.splice G 8 ZT.toList=Q2:=by
     have:=stRow_putT (n:=N) hJl HLT.out 0 zs64 (by simp [zs64])
     rw [hG,hQ2]
     have e:lay (lay F.T p c) 0 zs64=zs64:=by
      have h1:zs64.length=64:=by simp [zs64]
      show (lay F.T p c).take 0++zs64++(lay F.T p c).drop (0+zs64.length)=zs64
      rw [h1,List.drop_of_length_le (by rw [HLT.out];decide)];simp
     rw [e] at this
     exact this
    have hJs:(u32s J).toArray.size=8:=by simp [u32s,hJl]
    have hJo:=u32s_one J
    obtain ⟨JR,hJR⟩:∃ JR,JR=(u32s J).toArray:=⟨_,rfl⟩
    rw [←hJR] at hput hJs hJo
    have hadd:∀ wx,Tabs wx→Calls Tryz.prog 205 #[.agg (u32s F.H).toArray,.agg (u8s (lay F.T p c)).toArray] wx fun e w'=>e=.returned (.agg JR)∧Below wx.heap.size wx w':=fun wx hx=>by
     rw [hJR,hJ];exact addBlock_any F.H (lay F.T p c) hOK.h HLT.out wx hx
    obtain ⟨FR,hFR⟩:∃ FR,FR=(u32s F.H).toArray:=⟨_,rfl⟩
    obtain ⟨TR,hTR⟩:∃ TR,TR=(u8s (lay F.T p c)).toArray:=⟨_,rfl⟩
    rw [←hFR,←hTR] at hadd
    rw [←hFR] at hE2
    rw [←hTR] at hE3
    obtain ⟨Y,hY⟩:∃ Y,Y=ZT:=⟨_,rfl⟩
    rw [←hY] at hput2
    have hYs:Y.size=64:=by rw [hY];exact ZT_size
    have hYo:Y.all (·.oneCell')=true:=by rw [hY];exact u8s_one _
    have htab:∀ wx,Below w.heap.size w wx→Tabs wx:=fun wx hx=>HLT'.out.below hx (Nat.le_refl _)
    have HE2:=zh hE2;have HE3:=zh hE3;have HES:=zh hEs;have HJ:=zh hJ;have HG:=zh hG;have HGS:=zh hGs;have HPUT:=zh hput;have HPUT2:=zh hput2;have HJS:=zh hJs;have HJO:=zh hJo;have HADD:=zh hadd;have HYD:=zh hY;have HYS:=zh hYs;have HYO:=zh hYo;have HTAB:=zh htab;have HQ2:=zh hQ2;have HJL:=zh hJl
    clear hOK hE2 hE3 hEs hJ hG hGs hput hput2 hJs hJo hadd hYs hYo htab hQ2 hJl hJR hFR hTR hY hfull
    go_wp2_with (first | (refine wpList_slice_arr zr 259 _ _ zr 64 5 Tryz.underlying259 infoB _ 8 p zr zr hp ?_) | (refine wpList_copy_at zr _ _ 63 63 zr 5 Tryz.underlying63 infoB w.heap.size (8+p) (64 - p) (64 - p) ⟨bb,oo,none⟩ m cap zr zr cs HN'.out HSRC.out H1.out C0 _ HAC.out HFIT.out E HSP.out k HCSL.out ?_;intro w4 a4 s4 o4 b4;have A4:=zh a4;have S4:=zh s4;have B4:=zh b4;have O4:=zh o4;clear a4 s4 o4 b4) | (refine wpList_slice_low zr 63 _ _ zr 5 Tryz.underlying63 infoB (some ⟨bb,oo,none⟩) m cap k zr zr hkm ?_;intro a1 ha1;have HA1:=zh ha1;clear ha1) | (refine wpList_load_is zr 258 _ zr w.heap.size 0 8 zr _ Tryz.underlying258 zr info8 E _ A4.out (by rw [HES.out];decide) FR HE2.out ?_) | (refine wpList_load_is zr 259 _ zr w.heap.size 8 64 zr _ Tryz.underlying259 zr info64b E _ A4.out (by rw [HES.out];decide) TR HE3.out ?_) | (go_at_call 205;refine (HADD.out _ (HTAB.out _ (B4.out _ _ HI.out.b (Nat.le_refl _)))).mono ?_;rintro e w5 ⟨rfl,hb5⟩;have a5:=A4.out.below hb5 A4.out.lt;have A5:=zh a5;have HB5:=zh hb5;clear a5 hb5) | (refine wpList_store_is zr 258 _ _ zr zr w.heap.size 0 JR zr zr (by rw [HJS.out];exact info8) E _ A5.out (by rw [HES.out,HJS.out];decide) HJO.out G HPUT.out ?_;intro w6 a6 s6 o6 b6;have A6:=zh a6;have O6:=zh o6;have B6:=zh b6;clear a6 s6 o6 b6) | (refine wpList_store_is zr 259 _ _ zr zr w.heap.size 8 Y zr (by rw [HYD.out];rfl) (by rw [HYS.out];exact info64b) G _ A6.out (by rw [HGS.out,HYS.out];decide) HYO.out Q2 HPUT2.out ?_;intro w7 a7 s7 o7 b7;have A7:=zh a7;have O7:=zh o7;have B7:=zh b7;clear a7 s7 o7 b7))
    go_roundw
    case rel=>
     have e1:feeds F c=⟨addB F.H (lay F.T F.at' c),zs64,0⟩:=feeds_full c F HOK.out.t (by rw [←HP.out];exact hp) (by rw [←HP.out,HCL.out];exact HFULL.out)
     refine ⟨done++c,rest.drop k,?_,sl_drop HMM.out hkm hcap hbb HCC.out HA1.out,?_,?_⟩
     ·rw [HL.out,HC'.out,List.append_assoc,List.take_append_drop]
     ·rw [feeds_append,←HF.out,e1];rfl
     ·rw [feeds_append,←HF.out,e1]
      have a7:=A7.out
      rw [HQ2.out,HJ.out,HP.out] at a7
      have z4:=at_keep HI.out.z O4.out (show w.heap.size+1≠w.heap.size by omega)
      have z5:=z4.below HB5.out z4.lt
      have z6:=at_keep z5 O6.out (show w.heap.size+1≠w.heap.size by omega)
      have b4:=B4.out _ _ HI.out.b (Nat.le_refl _)
      have b5:=b4.trans (HB5.out.mono (Nat.le_of_lt A4.out.lt))
      exact ⟨a7,at_keep z6 O7.out (by omega),B7.out _ _ (B6.out _ _ b5 (Nat.le_refl _)) (Nat.le_refl _)⟩
    case measure=>simp [lenOf];omega
   ·have hb:(((p:Int)+(k:Int)) == 64)=false:=by rw [beq_eq_false_iff_ne];omega
    have hkm2:=zh (hkm' hfull)
    clear hkm'
    go_wp2_with (first | (refine wpList_slice_arr zr 259 _ _ zr 64 5 Tryz.underlying259 infoB _ 8 p zr zr hp ?_) | (refine wpList_copy_at zr _ _ 63 63 zr 5 Tryz.underlying63 infoB w.heap.size (8+p) (64 - p) (64 - p) ⟨bb,oo,none⟩ m cap zr zr cs HN'.out HSRC.out H1.out C0 _ HAC.out HFIT.out E HSP.out k HCSL.out ?_;intro w4 a4 s4 o4 b4;have A4:=zh a4;have S4:=zh s4;have B4:=zh b4;have O4:=zh o4;clear a4 s4 o4 b4) | (refine wpList_slice_low zr 63 _ _ zr 5 Tryz.underlying63 infoB (some ⟨bb,oo,none⟩) m cap k zr zr hkm ?_;intro a1 ha1;have HA1:=zh ha1;clear ha1))
    go_roundw
    case rel=>
     have e1:feeds F c=⟨F.H,lay F.T F.at' c,F.at'+c.length⟩:=feeds_part c F HOK.out.t (by rw [←HP.out,HCL.out];omega)
     refine ⟨done++c,rest.drop k,?_,sl_drop HMM.out hkm hcap hbb HCC.out HA1.out,?_,?_⟩
     ·rw [HL.out,HC'.out,List.append_assoc,List.take_append_drop]
     ·rw [feeds_append,←HF.out,e1,←HP.out,HCL.out];simp
     ·rw [feeds_append,←HF.out,e1]
      have a4:=A4.out
      rw [HE.out,HP.out] at a4
      exact ⟨a4,at_keep HI.out.z O4.out (by omega),B4.out _ _ HI.out.b (Nat.le_refl _)⟩
    case measure=>simp [lenOf];omega
def Z72:Array Value:=(u8s (List.replicate 72 0)).toArray
theorem zero72 (w:World):(zeroValue 298).run Tryz.prog w=.ok (.agg Z72) w:=by kernel_rfl
theorem Z72_set:Z72.setIfInBounds 0 (.int .u8 128)=(u8s P0).toArray:=by
 unfold Z72 P0
 have:(List.replicate 72 (0:BitVec 8))=0::List.replicate 71 0:=rfl
 rw [this]
 have e:=u8s_set (0::List.replicate 71 0) 0 128
 simpa using e
theorem lenByte_val (n j:Nat):((n:Int)*8 / 2 ^ (56 - 8*j) % (256:Int))=((lenByte (n*8) j).toNat:Int):=by
 unfold lenByte
 rw [BitVec.toNat_ofNat]
 show _=((n*8 / 2 ^ (56 - 8*j) % 256:Nat):Int)
 rw [Int.natCast_emod,Int.natCast_ediv,Int.natCast_mul,Int.natCast_pow];rfl
structure PInv (B:Nat) (C:Array Value) (l:Lb8) (w wr:World):Prop where
 c:At wr B C 261
 z:At wr (B+1) Zst 261
 p:At wr (B+2) (u8s l).toArray 298
 b:Below B w wr
theorem pad_any (s:Fed) (hs:Ok s) (n:Nat) (hn:n % 64=s.at') (w:World) (hN:n≤1152921504606846975) (hL:Tabs w) :
 Calls Tryz.prog 193 #[.agg (stRow s.H s.T n)] w fun e w'=>e=.returned (.agg (stRow (feeds s (padBytes n)).H (feeds s (padBytes n)).T (n+(padBytes n).length)))∧Below w.heap.size w w':=by
 obtain ⟨C,hC⟩:∃ C,C=stRow s.H s.T n:=⟨_,rfl⟩
 obtain ⟨Z,hZ⟩:∃ Z,Z=Zst:=⟨_,rfl⟩
 obtain ⟨X,hX⟩:∃ X,X=Z72:=⟨_,rfl⟩
 have hz:=zeroSt
 have hx:=zero72
 rw [←hZ] at hz
 rw [←hX] at hx
 have hwr:=fun (wx:World) (v:Value) (hv:Sl wx v (padBytes n)) (ht:Tabs wx)=>write_any s hs n hn (padBytes n) v wx (by have:=padQ_bd (n % 64) (Nat.mod_lt _ (by decide));rw [padBytes_length];omega) hv ht
 rw [←hC] at hwr ⊢
 have hsz:C.size=73:=by rw [hC];exact stRow_size hs.h hs.t
 have h72:C[72]?=some (.int .u64 (n:Int)):=by rw [hC];exact stRow_n hs.h hs.t
 have hmod:((n % 64:Nat):Int)=(s.at':Int):=by rw [hn]
 have X0:X[0]?=some (.int .u8 0):=by rw [hX];simp [Z72,u8s]
 have aC:At (((w.alloc (.cells C 261)).alloc (.cells Z 261)).alloc (.cells (X.setIfInBounds 0 (.int .u8 128)) 298)) w.heap.size C 261:=((at_new w C _).alloc _).alloc _
 have aZ:At (((w.alloc (.cells C 261)).alloc (.cells Z 261)).alloc (.cells (X.setIfInBounds 0 (.int .u8 128)) 298)) (w.heap.size+1) Z 261:=by
  have:=(at_new (w.alloc (.cells C 261)) Z 261).alloc (.cells (X.setIfInBounds 0 (.int .u8 128)) 298)
  simpa using this
 have aX:At (((w.alloc (.cells C 261)).alloc (.cells Z 261)).alloc (.cells (X.setIfInBounds 0 (.int .u8 128)) 298)) (w.heap.size+2) (X.setIfInBounds 0 (.int .u8 128)) 298:=by
  have:=at_new ((w.alloc (.cells C 261)).alloc (.cells Z 261)) (X.setIfInBounds 0 (.int .u8 128)) 298
  simpa using this
 have b1:Below w.heap.size w (((w.alloc (.cells C 261)).alloc (.cells Z 261)).alloc (.cells (X.setIfInBounds 0 (.int .u8 128)) 298)):=(((Below.refl _ _).alloc (Nat.le_refl _) _).alloc (by simp) _).alloc (by simp;omega) _
 have s1:(((w.alloc (.cells C 261)).alloc (.cells Z 261)).alloc (.cells (X.setIfInBounds 0 (.int .u8 128)) 298)).heap.size=w.heap.size+3:=by simp
 have HC:=zh hC;have HZ:=zh hZ;have HX:=zh hX;have HSZ:=zh hsz;have H72:=zh h72;have HM:=zh hmod;have AC:=zh aC;have AZ:=zh aZ;have AX:=zh aX;have B1:=zh b1;have S1:=zh s1
 have HLT:=zh hL;have HS:=zh hs;have HMOD:=zh hn;have HWR:=zh hwr
 clear hC hZ hX hsz h72 hmod aC aZ aX b1 s1 hL hs hn hwr
 have TS:Hid (∀ w:World,Calls Tryz.prog 204 #[.agg C] w fun e w'=>e=.returned (.int .i64 (s.at':Int))∧Below w.heap.size w w'):=fun w=>by
  have:=tailSize_any C n w H72.out
  rw [HM.out] at this
  exact this
 obtain ⟨t,ht⟩:∃ t,t=s.at':=⟨_,rfl⟩
 rw [←ht] at TS
 have htl:t < 64:=by rw [ht];exact HS.out.a
 obtain ⟨q,hq⟩:∃ q,q=padQ (n % 64):=⟨_,rfl⟩
 have hqt:q=padQ t:=by rw [hq,ht,HMOD.out]
 have hqb:1≤q∧q≤64:=by rw [hqt];exact padQ_bd t htl
 obtain ⟨hq1,hq2⟩:=hqb
 have HT:=zh ht;have HQ:=zh hq
 clear ht hq
 by_cases h56:t < 56
 ·have hr:(56:Int) - (t:Int)=(q:Int):=by rw [hqt,padQ,if_pos h56];omega
  have hr1:decide ((q:Int) < 1)=false:=by simp;omega
  have hr2:¬ (q:Int) < 1:=by omega
  clear hqt h56
  go_enter Tryz.func193,Tryz.ntmps193
  go_wp2_with (first | (refine wpList_load_all zr 261 _ zr _ zr _ Tryz.underlying261 zr _ _ AC.out (by rw [HSZ.out];exact infoSt) ?_) | (go_at_call 204;refine (TS.out _).mono ?_;rintro e w2 ⟨rfl,hb2⟩;have a2:=AC.out.below hb2 (by rw [S1.out];omega);have c72:=(a2.cell 72).trans H72.out;have A2:=zh a2;have HB2:=zh hb2;clear a2 hb2))
  have hI0:PInv w.heap.size C P0 w w2:=by
   have hb2:=HB2.out
   rw [S1.out] at hb2
   refine ⟨A2.out,?_,?_,B1.out.trans (hb2.mono (by omega))⟩
   ·rw [←HZ.out];exact AZ.out.below hb2 (by omega)
   ·have:=AX.out.below hb2 (by omega)
    rw [HX.out,Z72_set] at this
    exact this
  have HI0:=zh hI0
  clear hI0 c72 hz hx X0
  go_loopw [6,18] (fun _ i wr=>∃ j:Nat,j≤8∧i=.int .i64 j∧PInv w.heap.size C (padRow q (n*8) j) w wr) (fun _ i _=>8 - (intOf i).toNat)
  case atStart=>exact ⟨0,by omega,rfl,HI0.out⟩
  case round=>
   obtain ⟨j,hj,rfl,hI⟩:=hrel
   by_cases hlt:j < 8
   ·have ca:∃ o,wr.cell? ⟨w.heap.size+1+1,q+j,none⟩=some (.int .u8 o):=by
     refine ⟨(((padRow q (n*8) j).getD (q+j) 0).toNat:Int),?_⟩
     rw [show w.heap.size+1+1=w.heap.size+2 from rfl,hI.p.cell,List.getElem?_toArray]
     exact u8s_get _ _ (by rw [padRow_length];omega)
    obtain ⟨o,ca⟩:=ca
    have fa:wr.frozen? ⟨w.heap.size+1+1,q+j,none⟩=false:=hI.p.free _
    have HI:=zh hI
    clear hI
    go_wp2_with fail
    go_roundw
    case rel=>
     refine ⟨j+1,by omega,by go_num,?_⟩
     rw [lenByte_val]
     have hI:=HI.out
     have hp:=hI.p.set (q+j) (.int .u8 ((lenByte (n*8) j).toNat:Int))
     rw [u8s_set] at hp
     exact ⟨hI.c.set_other _ _ (by simp;omega),hI.z.set_other _ _ (by simp),hp,hI.b.setCell (by simp;omega) _⟩
    case measure=>simp [intOf];omega
   ·have hj8:j=8:=by omega
    rw [hj8] at hI
    have hge:¬ (j:Int) < 8:=by omega
    have hpl:(padBytes n).length=q+8:=by rw [padBytes_length,HQ.out]
    have hqs:IntKind.i64.wrap ((q:Int)+8)=(q:Int)+8:=by rw [IntWalk.i64_in _ (by omega)]
    obtain ⟨R,hR⟩:∃ R,R=stRow (feeds s (padBytes n)).H (feeds s (padBytes n)).T (n+(padBytes n).length):=⟨_,rfl⟩
    have hfo:=feeds_ok (padBytes n) HS.out
    have hRs:R.size=73:=by rw [hR];exact stRow_size hfo.h hfo.t
    have hRo:R.all (·.oneCell')=true:=by rw [hR];exact stRow_one
    have hcall:Calls Tryz.prog 192 #[.agg C,.slice (some ⟨w.heap.size+1+1,0,none⟩) (q+8) 72] wr.drew fun e w'=>e=.returned (.agg R)∧Below wr.drew.heap.size wr.drew w':=by
     have hsl:Sl wr.drew (.slice (some ⟨w.heap.size+1+1,0,none⟩) (q+8) 72) (padBytes n):=by
      refine ⟨_,_,by rw [hpl],by rw [hpl];omega,fun _=>⟨_,_,rfl,hI.p.lt,fun i hi=>?_⟩⟩
      rw [hpl] at hi
      have e:=At.cell (w:=wr.drew) hI.p (0+i)
      rw [show w.heap.size+1+1=w.heap.size+2 from rfl,e,Nat.zero_add,List.getElem?_toArray,u8s_get _ i (by rw [padRow_length];omega),padBytes,←HQ.out]
      simp [List.getD_eq_getElem?_getD,hi]
     have:=HWR.out wr.drew _ hsl (HLT.out.below hI.b.drew (Nat.le_refl _))
     rw [hR];exact this
    have HI:=zh hI;have HR:=zh hR;have HRS:=zh hRs;have HRO:=zh hRo;have HCALL:=zh hcall;have HPL:=zh hpl
    clear hI hR hRs hRo hcall hpl hfo hj8 hj hlt
    go_wp2_with fail
    refine wp_region_quiet_tail 4 (by kernel_rfl) (by kernel_rfl) ?_
    simp only [List.take_succ_cons,List.take_zero,List.drop_succ_cons,List.drop_zero]
    refine wpQuiet_load_all zr 261 _ zr w.heap.size zr _ Tryz.underlying261 zr C 261 (fun w' e=>by rw [e];exact HI.out.c) (by rw [HSZ.out];exact infoSt) ?_
    simp only [Act.put,List.setIfInBounds_toArray,List.set_cons_zero,List.set_cons_succ]
    repeat (go_big_quiet_step (fail))
    refine wpQuiet_slice_arr_to zr 298 _ _ zr 72 5 Tryz.underlying298 infoB (w.heap.size+1+1) 0 (q+8) zr zr (by omega) ?_
    simp only [Act.put,List.setIfInBounds_toArray,List.set_cons_zero,List.set_cons_succ]
    refine wpQuiet_nil ?_
    go_wp2_with (first | (go_at_call 192;refine HCALL.out.mono ?_;rintro e w9 ⟨rfl,hb9⟩;have z9:=(At.drew HI.out.z).below hb9 HI.out.z.lt;have Z9:=zh z9;have HB9:=zh hb9;clear z9 hb9) | (refine wpList_store_all zr 261 _ _ zr zr (w.heap.size+1) R zr zr (by rw [HRS.out];exact infoSt) _ _ Z9.out (by rw [HRS.out,Zst_size]) HRO.out ?_))
    try simp only [Exit.inBlock,Exit.then]
    refine ret_row zr (w.heap.size+1) 261 R _ zr (Z9.out.row R) Tryz.underlying261 zr (by rw [HRS.out];exact infoSt) ?_
    have hlt9:w.heap.size≤wr.heap.size:=HI.out.b.size
    exact ⟨by rw [HR.out],below_row (HI.out.b.drew.trans (HB9.out.mono hlt9)) (by omega) R⟩
 ·obtain ⟨d,hd⟩:∃ d:Int,d=56 - (t:Int):=⟨_,rfl⟩
  have hr:(56:Int) - (t:Int)=d:=hd.symm
  have hr3:d+64=(q:Int):=by rw [hqt,padQ,if_neg h56,hd];omega
  have hr2:d < 1:=by omega
  have hr1:decide (d < 1)=true:=by simp;omega
  have hr4:-8 < d:=by omega
  clear hqt h56 hd
  go_enter Tryz.func193,Tryz.ntmps193
  go_wp2_with (first | (refine wpList_load_all zr 261 _ zr _ zr _ Tryz.underlying261 zr _ _ AC.out (by rw [HSZ.out];exact infoSt) ?_) | (go_at_call 204;refine (TS.out _).mono ?_;rintro e w2 ⟨rfl,hb2⟩;have a2:=AC.out.below hb2 (by rw [S1.out];omega);have c72:=(a2.cell 72).trans H72.out;have A2:=zh a2;have HB2:=zh hb2;clear a2 hb2))
  have hI0:PInv w.heap.size C P0 w w2:=by
   have hb2:=HB2.out
   rw [S1.out] at hb2
   refine ⟨A2.out,?_,?_,B1.out.trans (hb2.mono (by omega))⟩
   ·rw [←HZ.out];exact AZ.out.below hb2 (by omega)
   ·have:=AX.out.below hb2 (by omega)
    rw [HX.out,Z72_set] at this
    exact this
  have HI0:=zh hI0
  clear hI0 c72 hz hx X0
  go_loopw [6,18] (fun _ i wr=>∃ j:Nat,j≤8∧i=.int .i64 j∧PInv w.heap.size C (padRow q (n*8) j) w wr) (fun _ i _=>8 - (intOf i).toNat)
  case atStart=>exact ⟨0,by omega,rfl,HI0.out⟩
  case round=>
   obtain ⟨j,hj,rfl,hI⟩:=hrel
   by_cases hlt:j < 8
   ·have ca:∃ o,wr.cell? ⟨w.heap.size+1+1,q+j,none⟩=some (.int .u8 o):=by
     refine ⟨(((padRow q (n*8) j).getD (q+j) 0).toNat:Int),?_⟩
     rw [show w.heap.size+1+1=w.heap.size+2 from rfl,hI.p.cell,List.getElem?_toArray]
     exact u8s_get _ _ (by rw [padRow_length];omega)
    obtain ⟨o,ca⟩:=ca
    have fa:wr.frozen? ⟨w.heap.size+1+1,q+j,none⟩=false:=hI.p.free _
    have HI:=zh hI
    clear hI
    go_wp2_with fail
    go_roundw
    case rel=>
     refine ⟨j+1,by omega,by go_num,?_⟩
     rw [lenByte_val]
     have hI:=HI.out
     have hp:=hI.p.set (q+j) (.int .u8 ((lenByte (n*8) j).toNat:Int))
     rw [u8s_set] at hp
     exact ⟨hI.c.set_other _ _ (by simp;omega),hI.z.set_other _ _ (by simp),hp,hI.b.setCell (by simp;omega) _⟩
    case measure=>simp [intOf];omega
   ·have hj8:j=8:=by omega
    rw [hj8] at hI
    have hge:¬ (j:Int) < 8:=by omega
    have hpl:(padBytes n).length=q+8:=by rw [padBytes_length,HQ.out]
    have hqs:IntKind.i64.wrap ((q:Int)+8)=(q:Int)+8:=by rw [IntWalk.i64_in _ (by omega)]
    obtain ⟨R,hR⟩:∃ R,R=stRow (feeds s (padBytes n)).H (feeds s (padBytes n)).T (n+(padBytes n).length):=⟨_,rfl⟩
    have hfo:=feeds_ok (padBytes n) HS.out
    have hRs:R.size=73:=by rw [hR];exact stRow_size hfo.h hfo.t
    have hRo:R.all (·.oneCell')=true:=by rw [hR];exact stRow_one
    have hcall:Calls Tryz.prog 192 #[.agg C,.slice (some ⟨w.heap.size+1+1,0,none⟩) (q+8) 72] wr.drew fun e w'=>e=.returned (.agg R)∧Below wr.drew.heap.size wr.drew w':=by
     have hsl:Sl wr.drew (.slice (some ⟨w.heap.size+1+1,0,none⟩) (q+8) 72) (padBytes n):=by
      refine ⟨_,_,by rw [hpl],by rw [hpl];omega,fun _=>⟨_,_,rfl,hI.p.lt,fun i hi=>?_⟩⟩
      rw [hpl] at hi
      have e:=At.cell (w:=wr.drew) hI.p (0+i)
      rw [show w.heap.size+1+1=w.heap.size+2 from rfl,e,Nat.zero_add,List.getElem?_toArray,u8s_get _ i (by rw [padRow_length];omega),padBytes,←HQ.out]
      simp [List.getD_eq_getElem?_getD,hi]
     have:=HWR.out wr.drew _ hsl (HLT.out.below hI.b.drew (Nat.le_refl _))
     rw [hR];exact this
    have HI:=zh hI;have HR:=zh hR;have HRS:=zh hRs;have HRO:=zh hRo;have HCALL:=zh hcall;have HPL:=zh hpl
    clear hI hR hRs hRo hcall hpl hfo hj8 hj hlt
    go_wp2_with fail
    refine wp_region_quiet_tail 4 (by kernel_rfl) (by kernel_rfl) ?_
    simp only [List.take_succ_cons,List.take_zero,List.drop_succ_cons,List.drop_zero]
    refine wpQuiet_load_all zr 261 _ zr w.heap.size zr _ Tryz.underlying261 zr C 261 (fun w' e=>by rw [e];exact HI.out.c) (by rw [HSZ.out];exact infoSt) ?_
    simp only [Act.put,List.setIfInBounds_toArray,List.set_cons_zero,List.set_cons_succ]
    repeat (go_big_quiet_step (fail))
    refine wpQuiet_slice_arr_to zr 298 _ _ zr 72 5 Tryz.underlying298 infoB (w.heap.size+1+1) 0 (q+8) zr zr (by omega) ?_
    simp only [Act.put,List.setIfInBounds_toArray,List.set_cons_zero,List.set_cons_succ]
    refine wpQuiet_nil ?_
    go_wp2_with (first | (go_at_call 192;refine HCALL.out.mono ?_;rintro e w9 ⟨rfl,hb9⟩;have z9:=(At.drew HI.out.z).below hb9 HI.out.z.lt;have Z9:=zh z9;have HB9:=zh hb9;clear z9 hb9) | (refine wpList_store_all zr 261 _ _ zr zr (w.heap.size+1) R zr zr (by rw [HRS.out];exact infoSt) _ _ Z9.out (by rw [HRS.out,Zst_size]) HRO.out ?_))
    try simp only [Exit.inBlock,Exit.then]
    refine ret_row zr (w.heap.size+1) 261 R _ zr (Z9.out.row R) Tryz.underlying261 zr (by rw [HRS.out];exact infoSt) ?_
    have hlt9:w.heap.size≤wr.heap.size:=HI.out.b.size
    exact ⟨by rw [HR.out],below_row (HI.out.b.drew.trans (HB9.out.mono hlt9)) (by omega) R⟩
end Sha
end Go.Proofs.YtplmfmpbkjnbaaaGreatDoor
