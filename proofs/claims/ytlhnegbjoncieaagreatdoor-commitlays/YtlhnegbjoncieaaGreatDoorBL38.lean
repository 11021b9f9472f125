/- Layer 16's law: image: a store with an image of pages that begin with their numbers. -/
import Derived.Test.YtlhnegbjoncieaaGreatDoorBL34
import Derived.Test.YtlhnegbjoncieaaGreatDoorBL35
import Derived.Test.YtlhnegbjoncieaaGreatDoorBL33
import Derived.Test.YtlhnegbjoncieaaGreatDoorBL16
set_option maxRecDepth 100000
set_option maxHeartbeats 8000000
namespace Go.Proofs.YtlhnegbjoncieaaGreatDoor
namespace Sha
open Go.RowKit Mem
set_option maxRecDepth 100000
def pgN (i:Nat):Lb8:=BitVec.ofNat 8 i::List.replicate 255 0
def pgsN (n:Nat):List (Lb8):=(List.range n).map pgN
theorem pgN_length (i:Nat):(pgN i).length=256:=by simp [pgN]
theorem pgsN_length (n:Nat):(pgsN n).length=n:=by simp [pgsN]
theorem pgsN_succ (n:Nat):pgsN (n+1)=pgsN n++[pgN n]:=by unfold pgsN;rw [List.range_succ,List.map_append];rfl
theorem pgsN_good (n:Nat) (h0:1≤n) (h1:n≤216):GoodP (pgsN n):=⟨by rw [pgsN_length];exact h0,by rw [pgsN_length];exact h1,fun x hx=>by
 unfold pgsN at hx
 obtain ⟨i,_,rfl⟩:=List.mem_map.1 hx
 exact pgN_length i⟩
theorem pgN_set (i:Nat) (h:i < 256):(u8s (List.replicate 256 0)).toArray.setIfInBounds 0 (.int .u8 (i:Int))=(u8s (pgN i)).toArray:=by
 have e:(List.replicate 256 0:Lb8)=0::List.replicate 255 0:=rfl
 have v:(Value.int .u8 ((BitVec.ofNat 8 i).toNat:Int))=.int .u8 (i:Int):=by
  rw [BitVec.toNat_ofNat]
  congr 1
  omega
 rw [e]
 unfold pgN u8s
 rw [List.map_cons,List.map_cons,List.setIfInBounds_toArray,List.set_cons_zero]
 show _=(Value.int .u8 ((BitVec.ofNat 8 i).toNat:Int)::_:List Value).toArray
 rw [v]
theorem ret_vrvv {P:Program} {fn:Func} {R:Ending→World→Prop} {tmps:Array Value} {w:World} {q p u x:Tmp} {ty:TypeId} (h:fn.results=#[.tmp q,.cell p ty,.tmp u,.tmp x]) (g:Nat) (t:TypeId) (cs:Array Value) (d:TypeDesc) (v1 v2 v3:Value)
 (hq:tmps.getD q undef=v1) (hp:tmps.getD p undef=.pointer (some ⟨g,0,none⟩)) (hu1:tmps.getD u undef=v2) (hx1:tmps.getD x undef=v3) (hg:At w g cs t) (hu:P.underlying ty=some d) (hd:d.isRow=true) (hi:(P.info? ty).map (·.size)=some cs.size)
 (hR:R (.returned (.tuple #[v1,.agg cs,v2,v3])) w):bodyPost P fn R .ret ⟨tmps,[]⟩ w:=by
 refine bodyPost_ret (v:=.tuple #[v1,.agg cs,v2,v3]) ?_ rfl hR
 have hrow:=run_loadVar_row (P:=P) w g t ty cs (0,0) d hg hu (by cases d <;> first | rfl | exact hd) hi
 rw [Array.getD_eq_getD_getElem?] at hq hp hu1 hx1
 simp only [results,h]
 simp [Result.andThen,hq,hp,hu1,hx1,asAddr,hrow]
def ImEnd (key:Lb8) (n:Nat) (w:World) (e:Ending) (w':World):Prop:=
 ∃ b F vr,e=.returned (.tuple #[rq b,.agg (psC n),vr,.bool true])∧PSt F b w' (stImg key 1 (pgsN n))∧(∀ k,F k→w.heap.size≤k)∧OwnRf w' w.heap.size 38 vr (refsT key 1 (pgsN n) (itn n))∧(∀ k,vr.ownBlock=some k→¬ F k)∧Below w.heap.size w w'
theorem image16_any (key:Lb8) (n:Nat) (w:World) (hT:TT w) (lk:key.length=32) (h0:1≤n) (h1:n≤14):Calls Tryz.prog 7 #[.int .i64 (n:Int),.agg (u8s key).toArray] w (ImEnd key n w):=by
 have hP:=pgsN_good n h0 (by omega)
 have hpn:=pgsN_length n
 have hit:=itn_big n h0 (by omega)
 obtain ⟨i8,hi8,hz8,hs8,hb8⟩:=info_parts infoU8
 have hsc:=fun i=>pgsN_succ i
 have hln:=fun i=>pgsN_length i
 have hset:=fun i h=>pgN_set i h
 have hgl:=fun i=>pgN_length i
 have hmk:=fun v wx (h:Below w.heap.size w wx) (hs:Sls wx v (pgsN n))=>pmake14_any key 1 (pgsN n) v wx (hT.below h) lk hs (by rw [hpn];omega) (fun x hx=>by rw [hP.len x hx];decide)
 rw [makeT_ok key 1 hP,hpn] at hmk
 obtain ⟨root,hroot⟩:∃ r,r=refT key 1 (pgsN n) (itn n - 1):=⟨_,rfl⟩
 have hrw:root.Wf:=by rw [hroot];exact refT_wf _
 have hpl:=putsT_length key 1 (pgsN n)
 have hpo:=puts_ok (key:=key) (ep:=1) hP
 have hlo:=img_lay_ok (key:=key) (ep:=1) hP
 have hio:=img_ok (key:=key) (ep:=1) hP
 have hw0:(stImg key 1 (pgsN n)).w=[]:=rfl
 have hwt:wholeT (stImg key 1 (pgsN n)).b key n root=(refsT key 1 (pgsN n) (itn n),pgsN n,0):=by
  have h:=backT (key:=key) (ep:=1) hP (img_b hP) (img_blks hP)
  rw [hpn] at h
  rw [hroot]
  exact h
 have hrl:=refsT_length key 1 (pgsN n) (itn n)
 have hwh:=fun (F:Foot) b wx (h:Below w.heap.size w wx) (hp:PSt F b wx (stImg key 1 (pgsN n)))=>pwhole14_own key n root wx (hT.below h) lk hp (hio.mono (by rw [hpn];omega)) (Rd6.nil hw0) h0 (by omega) hrw
 rw [hwt] at hwh
 have himg:stFlush (layS (stNew (2+2*itn n)) (putsT key 1 (pgsN n)))=stImg key 1 (pgsN n):=by unfold stImg;rw [hpn]
 rw [hpn] at hpl hpo hlo
 unfold ImEnd
 rw [←hroot] at hmk
 obtain ⟨PS,hPS⟩:∃ f,f=pgsN:=⟨_,rfl⟩
 obtain ⟨PG,hPG⟩:∃ f,f=pgN:=⟨_,rfl⟩
 obtain ⟨I,hI⟩:∃ I,I=stImg key 1 (pgsN n):=⟨_,rfl⟩
 obtain ⟨L,hL⟩:∃ L,L=putsT key 1 (pgsN n):=⟨_,rfl⟩
 obtain ⟨RR,hRR⟩:∃ R,R=refsT key 1 (pgsN n) (itn n):=⟨_,rfl⟩
 have hlw:(layS (stNew (2+2*itn n)) L).w.length=itn n:=by
  show ([]++L).length=_
  rw [List.nil_append,hL,hpl]
 rw [←hI] at himg hwh ⊢
 rw [←hL] at hmk hpl hpo hlo himg
 rw [←hRR] at hwh hrl ⊢
 have hpz:pgsN 0=[]:=rfl
 rw [←hPS] at hmk hsc hln hwh hpz
 rw [←hPG] at hsc hset hgl
 obtain ⟨m,hm⟩:∃ m,m=itn n:=⟨_,rfl⟩
 obtain ⟨Nb,hNb⟩:∃ N,N=2+2*m:=⟨_,rfl⟩
 have itm:=fun wx=>pitems_any n wx (by omega)
 have hnew:=fun wx=>pnew_good n wx h0 (by omega)
 have hbk:=fun wx=>pblocks_any n wx (by omega)
 rw [←hm] at hit hpl hpo hlo himg hlw hrl itm
 have hbz:blksP n=(Nb:Int):=by unfold blksP;rw [if_neg (by omega),←hm,hNb];omega
 rw [hbz] at hbk
 rw [←hNb] at hpo hlo himg hlw
 have hdn:=fun wx=>dvnew_good Nb wx (by omega) (by omega)
 have hmax:max (Nb:Int) 1=(Nb:Int):=by omega
 have rs:=refC_size hrw;have ro:=refC_one root
 have kc:(u8s key).toArray.size=32:=by simp [u8s_length,lk]
 obtain ⟨KC,hKC⟩:∃ K,K=(u8s key).toArray:=⟨_,rfl⟩
 obtain ⟨M,hM⟩:∃ M,M=refC root:=⟨_,rfl⟩
 obtain ⟨Z,hZ⟩:∃ Z,Z=refC zref:=⟨_,rfl⟩
 have zs:Z.size=34:=by rw [hZ];exact refC_size zref_wf
 obtain ⟨C,hC⟩:∃ C,C=psC n:=⟨_,rfl⟩
 obtain ⟨Y,hYs⟩:∃ C,C=psC 0:=⟨_,rfl⟩
 have cs:C.size=1:=by rw [hC];rfl
 have co:C.all (·.oneCell')=true:=by rw [hC];exact psC_one n
 have ys:Y.size=1:=by rw [hYs];rfl
 have hx:=zeroPS
 have hxr:=zeroRfP
 rw [←hYs] at hx
 rw [←hZ] at hxr
 have hmk:∀ v wx,Below w.heap.size w wx→Sls wx v (PS n)→Calls Tryz.prog 43 #[.pointer none,.agg (u8s key).toArray,.int .u32 1,v] wx (fun e w'=>∃ v,e=.returned (.tuple #[v,.agg (refC root),.int .i64 0])∧WPut (fun k=>wx.heap.size≤k) w' v L∧Below wx.heap.size wx w'):=hmk
 have hwh:∀ (F:Foot) b wx,Below w.heap.size w wx→PSt F b wx I→Calls Tryz.prog 15 #[.pointer none,rq b,.agg (u8s key).toArray,.agg (psC n),.agg (refC root)] wx (WhOwn wx (RR,PS n,0)):=hwh
 rw [←hKC] at hmk hwh kc
 rw [←hM] at hmk hwh rs ro
 rw [←hC] at hnew hbk itm hwh ⊢
 rw [←hKC]
 have a0:=((at_new w KC 22).alloc (.cells Y 26))
 have a1:At ((w.alloc (.cells KC 22)).alloc (.cells Y 26)) (w.heap.size+1) Y 26:=by
  have h:=at_new (w.alloc (.cells KC 22)) Y 26
  simpa using h
 have b4:Below w.heap.size w ((w.alloc (.cells KC 22)).alloc (.cells Y 26)):=((Below.refl _ _).alloc (Nat.le_refl _) _).alloc (by simp) _
 have MK:=zh hmk;have WH:=zh hwh;have PO:=zh hpo;have LO:=zh hlo;have LW:=zh hlw;have IMG:=zh himg;have PLN:=zh hpl;have NEW:=zh hnew;have BK:=zh hbk;have DN:=zh hdn;have ITM:=zh itm;have HRL:=zh hrl
 have RS:=zh rs;have RO:=zh ro;have KS:=zh kc;have ZS:=zh zs;have CS:=zh cs;have CO:=zh co;have YS:=zh ys;have A0:=zh a0;have A1:=zh a1;have B4:=zh b4;have HSC:=zh hsc;have HLN:=zh hln;have HSET:=zh hset;have HGL:=zh hgl;have HPZ:=zh hpz;have HNB:=zh hNb;have HIT:=zh hit
 have I8:=zh hi8;have Z8:=zh hz8;have S8:=zh hs8;have B8':=zh hb8;have HMAX:=zh hmax
 clear hmk hwh hpo hlo hlw himg hpl hnew hbk hdn itm hrl rs ro kc zs cs co ys a0 a1 b4 hsc hln hset hgl hpz hNb hM hZ hC hYs hKC hm hI hL hroot hrw hP hT hbz hit hi8 hz8 hs8 hb8 hPS hPG hRR hwt hw0 hio hpn hmax
 go_enter Tryz.func7,Tryz.ntmps7
 go_upto_region 1 with fail
 generalize (w.alloc (.cells KC 22)).alloc (.cells Y 26)=w4 at *
 go_wp2_with fail
 go_loopw [8,22] (fun v vi wr=>∃ j:Nat,j≤n∧vi=.int .i64 (j:Int)∧∃ v' D hs,v'=v∧Each2 (fun p q=>SlB D wr p q) hs (PS j)∧wr.ownsRow w4.heap.size 31 1 v' j hs∧(∀ k,D k→k < wr.heap.size∧v'.ownBlock≠some k)∧Below w4.heap.size w4 wr) (fun _ vi _=>n - (intOf vi).toNat)
 case atStart=>exact ⟨0,by omega,rfl,_,fun _=>False,[],rfl,by rw [HPZ.out];trivial,ownsRow_nil0 _ _ _ _,fun k hk=>hk.elim,Below.refl _ _⟩
 case round=>
  obtain ⟨j,hj,rfl,v,D,hs,rfl,he,hown,hd,hb⟩:=hrel
  by_cases hlt:j < n
  ·have hlt':(j:Int) < (n:Int):=by omega
   obtain ⟨av,cv,rfl⟩:=rows_hd hown
   have hset:=HSET.out j (by omega)
   obtain ⟨G,hG⟩:∃ G,G=PG j:=⟨_,rfl⟩
   have hgl:=HGL.out j
   have hsc:=HSC.out j
   rw [←hG] at hset hgl hsc
   have OW:=zh hown;have HE:=zh he;have HD:=zh hd;have BB:=zh hb;have SET:=zh hset;have GLN:=zh hgl;have SC:=zh hsc
   have hj256:(j:Int) % 256=(j:Int):=by omega
   clear hown he hd hb hset hgl hsc hG
   go_upto_region 6 with (refine wpList_make_full _ zr _ _ 31 zr wr.heap.size 5 i8 (.int .u8 0) 1 Tryz.underlying31 I8.out Z8.out S8.out .i64 .i64 256 256 256 zr zr rfl rfl (by rw [B8'.out];omega) (by simp [maxLen]) (Nat.le_refl _) ?_;intro w5 ho5 hg5;have R5:Hid (At w5 wr.heap.size (u8s (List.replicate 256 0)).toArray 5):=zh (by have h:=own_full ho5;rw [made_zeros] at h;exact h);have B5:Hid (Below wr.heap.size wr w5):=zh ((Below.refl _ _).grown hg5 (Nat.le_refl _) (fun _ h=>by cases h));clear ho5 hg5)
   obtain ⟨g,hg⟩:∃ g,g=wr.heap.size:=⟨_,rfl⟩
   have HG:=zh hg
   rw [←hg] at R5 ⊢
   clear hg
   go_upto_region 7 with (refine Mem.wpList_store_one zr 5 _ _ zr zr g 0 (.int .u8 (j:Int)) zr (by first | rfl | (simp only [hj256];rfl) | (simp [hj256])) zr (by kernel_rfl) _ 5 R5.out (by simp [u8s_length]) ?_;intro w6 ha6 ho6 hb6;rw [SET.out] at ha6;have R6:=zh ha6;have B6:=zh (hb6 _ _ B5.out (by rw [HG.out];exact Nat.le_refl _));clear ha6 ho6 hb6)
   have O6:Hid (OwnB w6 wr.heap.size (.slice (some ⟨g,0,none⟩) 256 256) G):=zh (by
    have h:=own_fulls (L:=G) R6.out (by rw [HG.out];exact Nat.le_refl _) (by rw [GLN.out];decide)
    rw [GLN.out] at h
    exact h)
   have L3:Hid (Below w6.heap.size w6 (w6.alloc (.cells #[.slice (some ⟨g,0,none⟩) 256 256] 31))):=zh ((Below.refl _ _).alloc (Nat.le_refl _) _)
   have OW3:=zh (ownsRow_below (ownsRow_below OW.out B6.out) L3.out)
   have B3:Hid (Below w4.heap.size w4 (w6.alloc (.cells #[.slice (some ⟨g,0,none⟩) 256 256] 31))):=zh ((BB.out.trans (B6.out.mono BB.out.size)).trans (L3.out.mono (Nat.le_trans BB.out.size B6.out.size)))
   clear R5 R6 B5
   go_wp2_with (first
    | (at_builtin;go_loud (refine wpList_append_app zr _ _ 32 zr (.slice (some ⟨w6.heap.size,0,none⟩) 1 1) j 1 1 [.slice (some ⟨g,0,none⟩) 256 256] (.slice none 0 0) 24 elemRS9 zr (by decide) zr OW3.out zr (rdR_new (w:=w6) (e:=31) (C:=#[.slice (some ⟨g,0,none⟩) 256 256])) (by simp [Value.oneCell']) (by omega) (by omega) B3.out.size ?_);intro v7 w7 ho7 ha7 hb7;have O7:=zh ho7;have A7:=zh ha7;have B7:=zh (B3.out.trans hb7);clear ho7 ha7 hb7))
   obtain ⟨D',e5,d5⟩:=txt_add HE.out (by rw [HLN.out];exact OW.out) HD.out B6.out O6.out L3.out A7.out
   have E5:=zh e5;have D5:=zh d5
   clear e5 d5
   go_roundw
   case rel=>exact ⟨j+1,by omega,by go_num,v7,D',_,rfl,by rw [SC.out];exact E5.out,O7.out,D5.out,B7.out⟩
   case measure=>simp [intOf];omega
  ·have hj2:j=n:=by omega
   subst hj2
   have hge:¬ (j:Int) < (j:Int):=by omega
   have SF:=zh (own_sls he (by rw [HLN.out];exact hown))
   have BF:=zh hb
   obtain ⟨av,cv,rfl⟩:=rows_hd hown
   clear he hown hd hb
   have BW:Hid (Below w.heap.size w wr):=zh (B4.out.trans (BF.out.mono B4.out.size))
   have AA0:=zh (A0.out.below BF.out A0.out.lt);have AA1:=zh (A1.out.below BF.out A1.out.lt)
   have Z4:Hid (w.heap.size+2≤wr.heap.size):=zh (by have:=AA1.out.lt;omega)
   clear BF A0 A1 B4
   go_wp2_with fail
   refine (NEW.out _).mono ?_
   rintro e w5 ⟨rfl,hb5⟩
   have hb6:Below wr.heap.size wr (w5.alloc (.cells C 26)):=hb5.alloc hb5.size _
   have A06:=zh (AA0.out.below hb6 AA0.out.lt);have A16:=zh (AA1.out.below hb6 AA1.out.lt);have B6:Hid (Below w.heap.size w (w5.alloc (.cells C 26))):=zh (BW.out.trans (hb6.mono BW.out.size))
   have C6:=zh (at_new w5 C 26)
   have SF6:=zh (SF.out.below hb6)
   have Z6:Hid (w.heap.size+2≤w5.heap.size):=zh (Nat.le_trans Z4.out hb5.size)
   clear hb5 hb6 AA0 AA1 BW SF Z4
   go_upto_region 10 with (refine wpList_store_new zr 26 _ _ zr zr C _ _ zr zr (by rw [CS.out];exact infoPS) (by rw [YS.out,CS.out]) CO.out ?_)
   clear hx
   obtain ⟨bc,hbc⟩:∃ bc,bc=w5.heap.size:=⟨_,rfl⟩
   rw [←hbc] at C6 Z6 ⊢
   clear hbc
   generalize (w5.alloc (.cells C 26))=w6 at *
   have hmax:=HMAX.out
   go_wp2_with (refine wpList_load_all zr 26 _ zr bc zr _ Tryz.underlying26 zr C _ C6.out (by rw [CS.out];exact infoPS) ?_)
   refine (BK.out _).mono ?_
   rintro e w7 ⟨rfl,hb7⟩
   have B7:Hid (Below w.heap.size w w7):=zh (B6.out.trans (hb7.mono B6.out.size))
   have A07:=zh (A06.out.below hb7 A06.out.lt);have A17:=zh (A16.out.below hb7 A16.out.lt);have C7:=zh (C6.out.below hb7 C6.out.lt);have SF7:=zh (SF6.out.below hb7)
   clear hb7 A06 A16 C6 SF6 B6
   go_wp2_with fail
   refine (DN.out _).mono ?_
   rintro e w8 ⟨b,F,rfl,hps,hF,hb8⟩
   have B8:Hid (Below w.heap.size w w8):=zh (B7.out.trans (hb8.mono B7.out.size))
   have A08:=zh (A07.out.below hb8 A07.out.lt);have A18:=zh (A17.out.below hb8 A17.out.lt);have C8:=zh (C7.out.below hb8 C7.out.lt);have SF8:=zh (SF7.out.below hb8)
   have PS8:=zh hps;have FB:=zh hF
   have BC7:Hid (bc < w7.heap.size):=zh C7.out.lt
   have W7:Hid (w.heap.size+1 < w7.heap.size):=zh A17.out.lt
   have W78:Hid (w7.heap.size≤w8.heap.size):=zh hb8.size
   have FL:Hid (∀ k,F k→k < w8.heap.size):=zh (pst_lt hps)
   clear hb8 A07 A17 C7 SF7 B7 hps hF hmax
   go_wp2_with (refine wpList_load_all zr 22 _ zr w.heap.size zr _ Tryz.underlying22 zr KC _ A08.out (by rw [KS.out];kernel_rfl) ?_)
   refine (MK.out _ _ B8.out SF8.out).mono ?_
   rintro e w9 ⟨vp,rfl,hwp,hb9⟩
   obtain ⟨ap,cp,rfl⟩:=hwp.hd
   have hb10:Below w8.heap.size w8 (w9.alloc (.cells M 38)):=hb9.alloc hb9.size _
   have B10:Hid (Below w.heap.size w (w9.alloc (.cells M 38))):=zh (B8.out.trans (hb10.mono B8.out.size))
   have A10:=zh (A08.out.below hb10 A08.out.lt);have A20:=zh (A18.out.below hb10 A18.out.lt);have C10:=zh (C8.out.below hb10 C8.out.lt)
   have P10:=zh (pst_below PS8.out hb10)
   have W10:Hid (WPut (fun k=>w8.heap.size≤k) (w9.alloc (.cells M 38)) (.slice ap m cp) L):=zh (by
    have h:=WPut.keep (w':=w9.alloc (.cells M 38)) hwp (by simp) (fun k _ hlt=>((Below.refl w9.heap.size w9).alloc (Nat.le_refl _) _).block k hlt)
    rw [PLN.out] at h
    exact h)
   have M10:=zh (at_new w9 M 38)
   have BM:Hid (w8.heap.size≤w9.heap.size):=zh hb9.size
   rw [PLN.out]
   clear hwp hb9 hb10 A08 A18 C8 PS8 SF8
   go_upto_region 12 with (refine wpList_store_new zr 38 _ _ zr zr M _ _ zr zr (by rw [RS.out];exact infoRfP) (by rw [RS.out,ZS.out]) RO.out ?_)
   clear hxr
   obtain ⟨bm,hbm⟩:∃ bm,bm=w9.heap.size:=⟨_,rfl⟩
   rw [←hbm] at M10 BM ⊢
   clear hbm
   generalize (w9.alloc (.cells M 38))=w10 at *
   have NF:Hid (∀ k,k < w7.heap.size→¬ F k):=zh (fun k hk h=>by have:=FB.out k h;omega)
   have MF:Hid (¬ F bm):=zh (fun h=>by have:=FL.out bm h;have:=BM.out;omega)
   go_wp2_with fail
   refine (plays14_any (F:=F) (G:=fun k=>w8.heap.size≤k) L _ w10 P10.out ((ok_new Nb (by have:=HNB.out;have:=HIT.out;omega) (by have:=HNB.out;have:=HIT.out;omega)).mono (by omega)) W10.out (fun k h1 h2=>by have:=FL.out k h2;omega) (by rw [PLN.out];have:=HIT.out;omega) PO.out).mono ?_
   rintro e w12 ⟨rfl,hse⟩
   obtain ⟨⟨F',hp',hF'⟩,hc⟩:=hse
   have hat:∀ {k:Nat} {D:Array Value} {t:TypeId},At w10 k D t→¬ F k→At w12 k D t:=fun {k D t} h hn=>by
    have hl:=h.lt
    have hb:=hc.block k hl hn
    unfold At at *
    rw [hb];exact h
   have A12:=zh (hat A10.out (NF.out _ (by have:=W7.out;omega)));have A22:=zh (hat A20.out (NF.out _ W7.out));have C12:=zh (hat C10.out (NF.out _ BC7.out));have M12:=zh (hat M10.out MF.out)
   have FB2:Hid (∀ k,F' k→w7.heap.size≤k∧(F k∨w10.heap.size≤k)):=zh (fun k h=>by
    have hk:=hF' k h
    refine ⟨?_,hk⟩
    rcases hk with g | g
    ·exact FB.out k g
    ·have h1:=C10.out.lt
     have h3:=W78.out
     have h4:=BM.out
     have h5:=M10.out.lt
     have g':w10.heap.size≤k:=g
     omega)
   have P12:=zh hp';have B12:Hid (Below w.heap.size w w12):=zh (Chg.below hc B10.out (fun k h=>by have:=FB.out k h;have:=W7.out;omega) B10.out.size)
   clear hp' hF' hc hat P10 W10 A10 A20 C10
   go_wp2_with fail
   refine (pflush_any w12 P12.out (LO.out.mono (by have:=HIT.out;omega))).mono ?_
   rintro e w13 ⟨rfl,hse⟩
   rw [LW.out]
   obtain ⟨⟨F2,hp',hF'⟩,hc⟩:=hse
   rw [IMG.out] at hp'
   have hn2:∀ k,k < w7.heap.size→¬ F' k:=fun k hk h=>by have:=(FB2.out k h).1;omega
   have hat:∀ {k:Nat} {D:Array Value} {t:TypeId},At w12 k D t→¬ F' k→At w13 k D t:=fun {k D t} h hn=>by
    have hl:=h.lt
    have hb:=hc.block k hl hn
    unfold At at *
    rw [hb];exact h
   have A13:=zh (hat A12.out (hn2 _ (by have:=W7.out;omega)));have A23:=zh (hat A22.out (hn2 _ W7.out));have C13:=zh (hat C12.out (hn2 _ BC7.out))
   have M13:=zh (hat M12.out (fun h=>by
    rcases (FB2.out _ h).2 with g | g
    ·exact MF.out g
    ·have:=M10.out.lt;omega))
   have FB3:Hid (∀ k,F2 k→w7.heap.size≤k):=zh (fun k h=>by
    rcases hF' k h with g | g
    ·exact (FB2.out k g).1
    ·have h1:=C12.out.lt
     have h2:=M12.out.lt
     have h3:=W78.out
     have h4:=BM.out
     omega)
   have P13:=zh hp';have B13:Hid (Below w.heap.size w w13):=zh (Chg.below hc B12.out (fun k h=>by have:=(FB2.out k h).1;have:=W7.out;omega) B12.out.size)
   have SZ13:Hid (w7.heap.size≤w13.heap.size):=zh (by have:=M13.out.lt;have:=BM.out;have:=W78.out;omega)
   clear hp' hF' hc hat hn2 P12 A12 A22 C12 M12 M10
   go_wp2_with (first
    | (refine wpList_load_all zr 22 _ zr w.heap.size zr _ Tryz.underlying22 zr KC _ A13.out (by rw [KS.out];kernel_rfl) ?_)
    | (refine wpList_load_all zr 26 _ zr bc zr _ Tryz.underlying26 zr C _ C13.out (by rw [CS.out];exact infoPS) ?_)
    | (refine wpList_load_all zr 38 _ zr bm zr _ Tryz.underlying38 zr M _ M13.out (by rw [RS.out];exact infoRfP) ?_))
   refine (WH.out _ _ _ B13.out P13.out).mono ?_
   rintro e w14 ⟨vr,vq,rfl,hor,⟨D2,hs2,hq1,hq2,_⟩,hrw,hb14⟩
   obtain ⟨ar,cr,hvr⟩:=rows_hd hor
   replace hor:w14.ownsRow w13.heap.size 38 34 vr RR.length (refCs RR):=hor
   replace hvr:vr=.slice ar RR.length cr:=hvr
   rw [HRL.out] at hvr hor
   subst hvr
   have OR:=zh hor;have P14:=zh (pst_below P13.out hb14);have A14:=zh (A23.out.below hb14 A23.out.lt);have C14:=zh (C13.out.below hb14 C13.out.lt);have B14:Hid (Below w.heap.size w w14):=zh (B13.out.trans (hb14.mono B13.out.size))
   have FL2:Hid (∀ k,F2 k→k < w13.heap.size):=zh (pst_lt P13.out)
   have W13:Hid (w.heap.size≤w13.heap.size):=zh B13.out.size
   clear hor hq1 hq2 hrw hb14 P13 A13 A23 C13 M13 B13
   go_upto_region 16 with fail
   have m0:((m:Nat):Int) > 0:=by have:=HIT.out;omega
   refine wp_region_plan_in (fun x'=>Below w.heap.size w x'∧At x' bc C 26) (.take 0 (.take 1 (.take 2 (.take 3 (.take 4 (.take 5 (.take 6 (.take 7 (.take 8 (.sole 9 (.take 10 (.take 11 (.take 12 (.take 13 (.take 14 (.take 15 (.take 16 (.take 17 (.sole 18 (.take 19 (.take 20 .done))))))))))))))))))))) (by kernel_rfl) (by kernel_rfl) (by kernel_rfl) ⟨B14.out.drew,C14.out.drew⟩ ?_
   (first | refine Mem.pm1 ?_ | refine Mem.pm2 ?_ | refine Mem.pt ?_ | refine Mem.pf ?_)
   (simp only [Mem.zp,Mem.pb,Mem.pc])
   refine plan_row 26 _ bc _ C 26 zr zr zr ze (fun w' hw'=>hw'.2) Tryz.underlying26 zr (by rw [CS.out];exact infoPS) ?_
   (simp only [Mem.zp,Mem.pb,Mem.pc])
   iterate 2 ((first | refine Mem.pm1 ?_ | refine Mem.pm2 ?_ | refine Mem.pt ?_ | refine Mem.pf ?_);(simp only [Mem.zp,Mem.pb,Mem.pc]))
   refine plan_bin _ _ _ _ _ _ _ (.bool true) zr zr zr ze zr (fun wx=>o_ieq _ _ _ _ _ wx) ?_
   (simp only [Mem.zp,Mem.pb,Mem.pc])
   iterate 2 ((first | refine Mem.pm1 ?_ | refine Mem.pm2 ?_ | refine Mem.pt ?_ | refine Mem.pf ?_);(simp only [Mem.zp,Mem.pb,Mem.pc]))
   refine plan_len _ _ _ _ m _ zr zr zr zr ze (fun wx=>by go_simp) ?_
   (simp only [Mem.zp,Mem.pb,Mem.pc])
   refine plan_row 26 _ bc _ C 26 zr zr zr ze (fun w' hw'=>hw'.2) Tryz.underlying26 zr (by rw [CS.out];exact infoPS) ?_
   (simp only [Mem.zp,Mem.pb,Mem.pc])
   refine plan_call 45 _ _ _ (by kernel_rfl) zr zr zr (by first | exact Mem.ev_none _ | (simp only [List.map_toArray,List.map_cons,List.map_nil,Mem.ev_tmp,List.getD_cons_succ,List.getD_cons_zero] <;> rfl)) ?_
   refine (ITM.out w14.drew).mono ?_
   rintro e w15 ⟨rfl,hb15⟩
   have Q15:Hid (Below w14.heap.size w14 w15):=zh (Below.trans (Below.refl _ _).drew hb15)
   have B15:Hid (Below w.heap.size w w15):=zh (B14.out.trans (Q15.out.mono B14.out.size))
   have C15:=zh (C14.out.below Q15.out C14.out.lt);have A15:=zh (A14.out.below Q15.out A14.out.lt);have P15:=zh (pst_below P14.out Q15.out);have OR15:=zh (ownsRow_below OR.out Q15.out)
   clear hb15
   refine ⟨_,rfl,⟨B15.out,C15.out⟩,?_⟩
   (simp only [Mem.zp,Mem.pb,Mem.pc])
   refine plan_bin _ _ _ _ _ _ _ (.bool true) zr zr zr ze ze (fun wx=>o_ieq _ _ _ _ _ wx) ?_
   (simp only [Mem.zp,Mem.pb,Mem.pc])
   iterate 3 ((first | refine Mem.pm1 ?_ | refine Mem.pm2 ?_ | refine Mem.pt ?_ | refine Mem.pf ?_);(simp only [Mem.zp,Mem.pb,Mem.pc]))
   refine plan_len _ _ _ _ m _ zr zr zr zr ze (fun wx=>by go_simp) ?_
   (simp only [Mem.zp,Mem.pb,Mem.pc])
   refine plan_bin _ _ _ _ _ _ _ (.bool true) zr zr zr ze zr (fun wx=>by go_simp;omega) ?_
   (simp only [Mem.zp,Mem.pb,Mem.pc])
   iterate 2 ((first | refine Mem.pm1 ?_ | refine Mem.pm2 ?_ | refine Mem.pt ?_ | refine Mem.pf ?_);(simp only [Mem.zp,Mem.pb,Mem.pc]))
   have hb1:bc≠w.heap.size+1:=fun h=>by have:=Z6.out;omega
   refine plan_store 26 _ _ (w.heap.size+1) C Y 26 zr zr zr zr ze ze (by rw [CS.out];exact infoPS) A15.out (by rw [CS.out,YS.out]) CO.out ⟨below_row B15.out (by omega) C,C15.out.row_other C hb1⟩ ?_
   iterate 2 ((first | refine Mem.pm1 ?_ | refine Mem.pm2 ?_ | refine Mem.pt ?_ | refine Mem.pf ?_);(simp only [Mem.zp,Mem.pb,Mem.pc]))
   refine plan_nil ?_
   have W7a:=W7.out
   have W13a:=W13.out
   have PE:Hid (PSt F2 b (w15.setRow (w.heap.size+1) C) I):=zh (pst_keep P15.out (by simp) (fun k h _=>by
    have h1:=FB3.out k h
    rw [setRow_other _ _ k _ (by omega)]))
   have lo13:=SZ13.out
   go_wp2_with fail
   try simp only [Exit.inBlock,Exit.then]
   refine ret_vrvv zr (w.heap.size+1) 26 C _ _ _ _ zr zr zr zr (A15.out.row C) Tryz.underlying26 zr (by rw [CS.out];exact infoPS) ?_
   refine ⟨b,F2,_,rfl,PE.out,fun k hk=>by have:=FB3.out k hk;omega,?_,fun k hk hf=>?_,below_row B15.out (by omega) _⟩
   ·show World.ownsRow _ _ _ _ _ RR.length _
    rw [HRL.out]
    have h:=OR15.out
    refine ownsRow_base (ownsRow_keep h fun k hk=>setRow_other _ _ k _ ?_) W13a
    have:=(World.ownsRow.lt h k hk).1
    omega
   ·have h1:=FL2.out k hf
    have h:=OR15.out
    have:=(World.ownsRow.lt h k hk).1
    omega
end Sha
end Go.Proofs.YtlhnegbjoncieaaGreatDoor
