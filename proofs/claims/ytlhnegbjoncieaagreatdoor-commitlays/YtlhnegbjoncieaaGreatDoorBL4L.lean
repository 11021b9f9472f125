/- The law CommitLays (written by comlays.py). -/
import Derived.Test.YtlhnegbjoncieaaGreatDoorBL42
import Derived.Test.YtlhnegbjoncieaaGreatDoorBL38
import Derived.Test.YtlhnegbjoncieaaGreatDoorBL41
import Derived.Test.YtlhnegbjoncieaaGreatDoorBL40
import Derived.Test.YtlhnegbjoncieaaGreatDoorBL36
import Derived.Test.YtlhnegbjoncieaaGreatDoorBL09
import Derived.Test.YtlhnegbjoncieaaGreatDoorBL06
import Derived.Test.YtlhnegbjoncieaaGreatDoorBL00
import Derived.Test.YtlhnegbjoncieaaGreatDoorBL26
set_option maxRecDepth 100000
set_option maxHeartbeats 60000000
namespace Go.Proofs.YtlhnegbjoncieaaGreatDoor
namespace Sha
open Go.RowKit Mem
set_option maxRecDepth 100000
abbrev Us (w:World) (b:Nat) (xs:List Int):Prop:=SetM w Tryz.prog 3 (plainElem Tryz.prog 4) (.lit (.bool true)) (fun x:Int=>(Lit.int .i64 x).wf=true) (fun x=>.int .i64 x) b xs
theorem keyTy_used:KeyTy Tryz.prog 3 (fun x:Int=>(Lit.int .i64 x).wf=true) (fun x=>.int .i64 x) (fun x=>.int .i64 x):=keyTy_int Tryz.underlying3
theorem conv_round {j:Nat} (h:j < 4) (w:World):(convert 3 36 (.int .i64 (j:Int))).run Tryz.prog w=.ok (.int .u32 (j:Int)) w:=by
 rcases (by omega:j=0∨j=1∨j=2∨j=3) with rfl | rfl | rfl | rfl <;> kernel_rfl
theorem add_round {j:Nat} (h:j < 4) (x y:Operand) (w:World):(do eqGuard .add 36 x y (.int .u32 (j:Int)) (.int .u32 2);binOp .add 36 (.int .u32 (j:Int)) (.int .u32 2):Sem Value).run Tryz.prog w=.ok (.int .u32 (V (BitVec.ofNat 32 (j+2)))) w:=by
 rcases (by omega:j=0∨j=1∨j=2∨j=3) with rfl | rfl | rfl | rfl <;> kernel_rfl
theorem zeroBool16 (w:World):(zeroValue 4).run Tryz.prog w=.ok (.bool false) w:=by kernel_rfl
theorem UX9 {w w9:World} {b:Nat} {xs:List Int} (h:Us w b xs) (hb:Below w.heap.size w w9):Us w9 b xs:=h.below hb h.lt
theorem lys_itn:∀ p,p≤14→itn p≤18:=by decide +kernel
theorem infoSB16:(Tryz.prog.info? 31).map (fun i=>(i.zero,i.size,i.bytes))=some (some (.slice none 0 0),1,24):=by kernel_rfl
theorem infoSB16':(Tryz.prog.info? 31).map (·.size)=some 1:=by kernel_rfl
theorem infoU8':(Tryz.prog.info? 5).map (·.size)=some 1:=by kernel_rfl
theorem made_nils (n:Nat):(madeCells (Value.slice none 0 0).cells (n*1)).toList=List.replicate n (.slice none 0 0):=by
 rw [madeCells,Nat.mul_one]
 apply List.ext_getElem
 ·simp
 ·intro i h1 h2
  simp [Value.cells,Nat.mod_one]
theorem each_nils (w:World):∀ n,Each2 (fun q x=>SlB (fun _=>False) w q x) (List.replicate n (.slice none 0 0)) (List.replicate n [])
 | 0=>trivial
 | n+1=>⟨SlR.nil _ _ _,each_nils w n⟩
theorem neqP16_self {a:RefV} (ha:a.Wf) (x y:Operand) (w:World):(do eqGuard .neq 38 x y (.agg (refC a)) (.agg (refC a));binOp .neq 38 (.agg (refC a)) (.agg (refC a)):Sem Value).run Tryz.prog w=.ok (.bool false) w:=by
 have h:=(eqlRf 38 (by kernel_rfl) (by kernel_rfl) (by kernel_rfl) (by kernel_rfl) ha ha x y w).2
 rw [sameRef_self] at h
 exact h
theorem chg_one16 {w w':World} {g:Nat} (ho:∀ k,k≠g→w'.heap[k]?=w.heap[k]?) (hk:∀ B a,Below B a w→B≤g→Below B a w'):Chg (fun k=>k=g) w w':=by
 have hb:=hk 0 w (Below.refl _ _) (Nat.zero_le _)
 exact ⟨hb.os,hb.tape,hb.output,hb.size,fun k _ hne=>ho k hne⟩
theorem chg_three {wr w6 w7 w8:World} {ga gp:Nat} (hgp:gp=wr.heap.size) (h6:Below wr.heap.size wr w6) (h7:Chg (fun k=>k=ga) w6 w7) (h8:Below gp w7 w8):Chg (fun k=>k=ga) wr w8:=by
 subst hgp
 exact ⟨h8.os.trans (h7.os.trans h6.os),h8.tape.trans (h7.tape.trans h6.tape),h8.output.trans (h7.output.trans h6.output),Nat.le_trans h6.size (Nat.le_trans h7.size h8.size),fun k hk hn=>(h8.block k hk).trans ((h7.block k (Nat.lt_of_lt_of_le hk h6.size) hn).trans (h6.block k hk))⟩
structure LyR (w0 w:World) (F D:Foot) (b bs p:Nat) (s:St6) (va:Value) (hs:List Value) (P:List (Lb8)) (vr:Value) (R:List RefV) (B key:Lb8) (m:Nat):Prop where
 i:LyI w0 w F D b bs p s va hs P vr R
 c:ImgC B key p R P
 r:Rd6 s B
 o:Ok6 m s
 n:s.n=2+2*itn p
theorem lays16_core (b:Nat) (key:Lb8) (L:List (List ChV)) (vl:Value) (w:World) (hT:TT w) (hb:b < 256) (lk:key.length=32) (hL:SlRd w vl L):Calls Tryz.prog 3 #[.int .u8 (b:Int),.agg (u8s key).toArray,vl] w (VEnd (.bool true) w):=by
 obtain ⟨p,hp⟩:∃ p,p=b % 14+1:=⟨_,rfl⟩
 have h0:1≤p:=by omega
 have h1:p≤14:=by omega
 have hp3:(b:Int) % 14+1=(p:Int):=by omega
 have live:=fun wx (h:Below w.heap.size w wx)=>alive16_any wx (hT.below h)
 obtain ⟨i8,hi8,hz8,hs8,hb8⟩:=info_parts infoU8
 obtain ⟨iS,hiS,hzS,hsS,hbS⟩:=info_parts infoSB16
 have kc:(u8s key).toArray.size=32:=by simp [u8s_length,lk]
 obtain ⟨al,cl,hvl⟩:∃ a c,vl=.slice a L.length c:=let ⟨a,c,e,_⟩:=hL;⟨a,c,e⟩
 subst hvl
 obtain ⟨nL,hnL⟩:∃ n,n=L.length:=⟨_,rfl⟩
 have hx:=zeroPS
 have hxr:=zeroRfP
 obtain ⟨PS,hPS⟩:∃ C,C=psC p:=⟨_,rfl⟩
 obtain ⟨Y,hYs⟩:∃ C,C=psC 0:=⟨_,rfl⟩
 obtain ⟨ZR,hZR⟩:∃ C,C=refC zref:=⟨_,rfl⟩
 have cs:PS.size=1:=by rw [hPS];rfl
 have co:PS.all (·.oneCell')=true:=by rw [hPS];exact psC_one p
 have ys:Y.size=1:=by rw [hYs];rfl
 have zrs:ZR.size=34:=by rw [hZR];exact refC_size zref_wf
 obtain ⟨KC,hKC⟩:∃ K,K=(u8s key).toArray:=⟨_,rfl⟩
 have im:=fun wx (h:Below w.heap.size w wx)=>image16_any key p wx (hT.below h) lk h0 h1
 rw [←hYs] at hx
 rw [←hZR] at hxr
 rw [←hKC] at kc im ⊢
 rw [←hnL] at hL ⊢
 have aa0:=at_new w KC 22
 have b01:Below w.heap.size w (w.alloc (.cells KC 22)):=(Below.refl _ _).alloc (Nat.le_refl _) _
 have LIVE:=zh live;have IM:=zh im;have CS:=zh cs;have CO:=zh co;have YS:=zh ys;have ZRS:=zh zrs;have HZR:=zh hZR;have KS:=zh kc;have HKC:=zh hKC;have HPS:=zh hPS;have HT:=zh hT;have LK:=zh lk;have HL:=zh hL;have NL:=zh hnL;have K1:=zh aa0;have B01:=zh b01;have HXR:=zh hxr
 have I8:=zh hi8;have Z8:=zh hz8;have S8:=zh hs8;have B8':=zh hb8;have IS:=zh hiS;have ZS:=zh hzS;have SS:=zh hsS;have BS':=zh hbS
 clear live im cs co ys zrs kc hKC hPS hT lk hL hnL aa0 b01 hYs hZR hp hi8 hz8 hs8 hb8 hiS hzS hsS hbS hxr
 go_enter Tryz.func3,Tryz.ntmps3
 go_upto_region 1 with fail
 obtain ⟨bk,hbk⟩:∃ y,y=w.heap.size:=⟨_,rfl⟩
 have BKE:=zh hbk
 rw [←hbk] at K1 ⊢
 clear hbk
 generalize w.alloc (.cells KC 22)=w1 at *
 go_wp2_with (refine wpList_load_all zr 22 _ zr bk zr _ Tryz.underlying22 zr KC _ K1.out (by rw [KS.out];kernel_rfl) ?_)
 clear hp3
 refine (IM.out _ B01.out).mono ?_
 rintro e w2 ⟨st,F0,vr,rfl,hps,hF,hrf,hfr,hb2⟩
 have hP:=pgsN_good p h0 (by omega)
 have hIC:ImgC (stImg key 1 (pgsN p)).b key p (refsT key 1 (pgsN p) (itn p)) (pgsN p):=by
  have h:=img_made hP (img_b (key:=key) (ep:=1) hP) (img_blks hP)
  rw [pgsN_length] at h;exact h
 have hok:Ok6 20 (stImg key 1 (pgsN p)):=(img_ok (key:=key) (ep:=1) hP).mono (by rw [pgsN_length];have:=lys_itn p h1;omega)
 have hsn:(stImg key 1 (pgsN p)).n=2+2*itn p:=by
  have h:(stImg key 1 (pgsN p)).n=2+2*itn (pgsN p).length:=rfl
  rw [pgsN_length] at h;exact h
 have hrd:Rd6 (stImg key 1 (pgsN p)) (stImg key 1 (pgsN p)).b:=Rd6.nil rfl
 obtain ⟨s0,hs0⟩:∃ s,s=stImg key 1 (pgsN p):=⟨_,rfl⟩
 obtain ⟨R0,hR0⟩:∃ R,R=refsT key 1 (pgsN p) (itn p):=⟨_,rfl⟩
 rw [←hs0] at hIC hok hsn hrd hps
 rw [←hR0] at hIC hrf
 have hb3:Below w2.heap.size w2 (w2.alloc (.cells PS 26)):=(Below.refl _ _).alloc (Nat.le_refl _) _
 have A3:=zh (at_new w2 PS 26)
 have ST3:=zh (pst_below hps hb3)
 have RF3:=zh (ownsRow_below hrf hb3)
 have B13:Hid (Below w1.heap.size w1 (w2.alloc (.cells PS 26))):=zh (hb2.trans (hb3.mono hb2.size))
 have FL:Hid (∀ k,F0 k→k < w2.heap.size):=zh (pst_lt hps)
 have FG:=zh hF;have FR:=zh hfr;have IC:=zh hIC;have OK0:=zh hok;have SN:=zh hsn;have RD0:=zh hrd
 rw [←HPS.out]
 clear hps hF hrf hfr hb2 hb3 hP hIC hok hsn hrd hs0 hR0
 obtain ⟨ar0,cr0,hvr⟩:=(own_slrf RF3.out IC.out.wf).hd
 subst hvr
 go_upto_region 3 with (refine wpList_store_new zr 26 _ _ zr zr PS _ _ zr zr (by rw [CS.out];exact infoPS) (by rw [YS.out,CS.out]) CO.out ?_)
 clear hx
 obtain ⟨bs,hbs⟩:∃ y,y=w2.heap.size:=⟨_,rfl⟩
 rw [←hbs] at A3 FL ⊢
 clear hbs
 generalize w2.alloc (.cells PS 26)=w3 at *
 have B03:Hid (Below w.heap.size w w3):=zh (B01.out.trans (B13.out.mono B01.out.size))
 by_cases hbig:4 < nL
 ·have hbig':(4:Int) < (nL:Int):=by omega
  go_wp2_with fail
  refine (LIVE.out _ B03.out).mono ?_
  rintro e wz ⟨rfl,hbz⟩
  have BZ:Hid (Below w.heap.size w wz):=zh (B03.out.trans (hbz.mono B03.out.size))
  clear hbz
  go_wp2_with fail
  go_ret
  exact ⟨rfl,BZ.out⟩
 have hbig':¬ (4:Int) < (nL:Int):=by omega
 go_wp2_with fail
 clear hbig'
 go_loopw [12,60] (fun v vi wr=>∃ j:Nat,j≤p∧vi=.int .i64 (j:Int)∧OwnV wr w3.heap.size 5 v (wantL j)∧Below w3.heap.size w3 wr) (fun _ vi _=>p - (intOf vi).toNat)
 case atStart=>exact ⟨0,by omega,rfl,World.ownsRow_nil _ _ _ _,Below.refl _ _⟩
 case round=>
  obtain ⟨j,hj,rfl,ho,hb⟩:=hrel
  obtain ⟨aw,cw,hv⟩:=rows_hd ho
  rw [wantL_length] at hv
  subst hv
  have OW:=zh ho;have BW:=zh hb
  clear ho hb
  by_cases hlt:j < p
  ·have hlt':(j:Int) < (p:Int):=by omega
   have hj256:(j:Int) % 256=(j:Int):=by omega
   go_wp2_with (at_builtin;refine wpList_append_lit zr _ _ 31 zr _ (.int .u8 0) 1 elemB8 zr zr OW.out zr zr (by rw [wantL_length];omega) (by rw [wantL_length];omega) BW.out.size ?_;intro v6 w6 ho6 _ hb6 _;have O6:Hid (OwnV w6 w3.heap.size 5 v6 (wantL (j+1))):=zh (by rw [wantL_succ];simpa [hj256] using ho6);have B6:Hid (Below w3.heap.size w3 w6):=zh (BW.out.trans hb6);clear ho6 hb6)
   go_roundw
   case rel=>exact ⟨j+1,by omega,by go_num,O6.out,B6.out⟩
   case measure=>simp [intOf];omega
  ·have hjp:p=j:=by omega
   subst hjp
   have hge:¬ (p:Int) < (p:Int):=by omega
   obtain ⟨_,_,e9,e8,hop⟩:=OwnV.open OW.out
   clear e8
   obtain ⟨gw,ea,hgw,hgl,hwc⟩:=hop (by intro e;have:=wantL_length p;rw [e] at this;simp at this;omega)
   injection e9 with e9 e10 e11
   clear e10 e11
   rw [ea] at e9
   subst e9
   have WC:=zh hwc;have GWL:=zh hgl;have BS3:=zh A3.out.lt
   clear hop hgw hgl hwc ea
   go_wp2_with (refine wpList_make_full _ zr _ _ 32 zr wr.heap.size 31 iS (.slice none 0 0) 1 Tryz.underlying32 IS.out ZS.out SS.out .i64 .i64 p p p zr zr rfl rfl (by rw [BS'.out];omega) (by unfold maxLen;omega) (Nat.le_refl _) ?_;intro w5 ho5 hg5;have R5:Hid (w5.ownsRow wr.heap.size 31 1 (.slice (some ⟨wr.heap.size,0,none⟩) p p) p (List.replicate p (.slice none 0 0))):=zh (by have h:=ho5;rw [made_nils] at h;exact h);have B5:Hid (Below wr.heap.size wr w5):=zh ((Below.refl _ _).grown hg5 (Nat.le_refl _) (fun _ h=>by cases h));clear ho5 hg5)
   clear hge hlt
   obtain ⟨ga,hga⟩:∃ y,y=wr.heap.size:=⟨_,rfl⟩
   have GA3:Hid (w3.heap.size≤ga):=zh (by rw [hga];exact BW.out.size)
   have GAW:Hid (gw < ga):=zh (by rw [hga];exact GWL.out)
   have B35:Hid (Below w3.heap.size w3 w5):=zh (BW.out.trans (B5.out.mono BW.out.size))
   have WC5:Hid (∀ i u,(wantL p)[i]?=some u→w5.cell? ⟨gw,i,none⟩=some u):=zh fun i u h=>(B5.out.cell (p:=⟨gw,i,none⟩) GWL.out).trans (WC.out i u h)
   have GA5:Hid (ga < w5.heap.size):=zh (by rw [hga];exact (World.ownsRow.lt R5.out wr.heap.size rfl).2)
   rw [←hga] at R5 ⊢
   clear hga WC GWL BW B5 OW
   go_loopw [73] (fun vi wr=>∃ j:Nat,j≤p∧vi=.int .i64 (j:Int)∧∃ hs D,wr.ownsRow ga 31 1 (.slice (some ⟨ga,0,none⟩) p p) p hs∧Each2 (fun q x=>SlB D wr q x) hs (pg0 p j)∧(∀ k,D k→w5.heap.size≤k∧k < wr.heap.size)∧Chg (fun k=>k=ga) w5 wr) (fun vi _=>p - (intOf vi).toNat)
   case atStart=>exact ⟨0,by omega,rfl,_,fun _=>False,R5.out,by rw [pg0_zero];exact each_nils _ _,fun k h=>h.elim,Chg.refl _ _⟩
   case round=>
    obtain ⟨j,hj,rfl,hs,D,hrow,heach,hd,hc⟩:=hrel
    have ROW:=zh hrow;have EA:=zh heach;have DD:=zh hd;have CC:=zh hc
    clear hrow heach hd hc
    by_cases hlt:j < p
    ·have hlt':(j:Int) < (p:Int):=by omega
     have hj256:(j:Int) % 256=(j:Int):=by omega
     obtain ⟨g',cap',cur,ev,hg1,hA,hcu,_,hset⟩:=ownsRow_set ROW.out hlt
     injection ev with ev _ e2
     injection ev with ev
     injection ev with ev _
     subst ev e2
     have HA:=zh hA;have HCU:=zh hcu;have HSET:=zh hset
     have GAR:Hid (ga < wr.heap.size):=zh hA.lt
     have WCR:Hid (wr.cell? ⟨gw,j,none⟩=some (.int .u8 (j:Int))):=zh (by
      have q:=CC.out.block gw (by have:=GAW.out;have:=GA5.out;omega) (by have:=GAW.out;omega)
      exact (World.cell?_of_block (w:=w5) (w':=wr) (a:=⟨gw,j,none⟩) q).trans (WC5.out j _ (wantL_get hlt)))
     clear hA hcu hset hg1
     go_upto_region 16 with (first
      | (refine wpList_make_full _ zr _ _ 31 zr wr.heap.size 5 i8 (.int .u8 0) 1 Tryz.underlying31 I8.out Z8.out S8.out .i64 .i64 256 256 256 zr zr rfl rfl (by rw [B8'.out];omega) (by simp [maxLen]) (Nat.le_refl _) ?_;intro w6 ho6 hg6;have R6:Hid (At w6 wr.heap.size (u8s (List.replicate 256 0)).toArray 5):=zh (by have h:=own_full ho6;rw [made_zeros] at h;exact h);have B6:Hid (Below wr.heap.size wr w6):=zh ((Below.refl _ _).grown hg6 (Nat.le_refl _) (fun _ h=>by cases h));have A6:=zh (HA.out.below B6.out GAR.out);clear ho6 hg6)
      | (refine Mem.wpList_store_one zr 31 _ _ zr zr ga j (.slice (some ⟨wr.heap.size,0,none⟩) 256 256) zr zr zr infoSB16' cur 31 A6.out HCU.out ?_;intro w7 ha7 ho7 hb7;have A7:=zh ha7;have K7:=zh (chg_one16 ho7 hb7);clear ha7 ho7 hb7))
     obtain ⟨gp,hgp⟩:∃ y,y=wr.heap.size:=⟨_,rfl⟩
     have GPE:=zh hgp
     rw [←hgp] at R6 A7 ⊢
     clear hgp
     have R7:Hid (At w7 gp (u8s (List.replicate 256 0)).toArray 5):=zh (R6.out.chg K7.out (by rw [GPE.out];have:=GAR.out;omega))
     have WC7:Hid (w7.cell? ⟨gw,j,none⟩=some (.int .u8 (j:Int))):=zh (by
      have q1:=B6.out.block gw (by have:=GAW.out;have:=GAR.out;omega)
      have q2:=K7.out.block gw (by have:=GAW.out;have:=GAR.out;have:=B6.out.size;omega) (by have:=GAW.out;omega)
      exact (World.cell?_of_block (w:=wr) (w':=w7) (a:=⟨gw,j,none⟩) (q2.trans q1)).trans WCR.out)
     have GG1:Hid (gw < gp):=zh (by rw [GPE.out];have:=GAW.out;have:=GAR.out;omega)
     have GG2:Hid (ga < gp):=zh (by rw [GPE.out];exact GAR.out)
     have CA7:Hid (w7.cell? ⟨ga,j,none⟩=some (.slice (some ⟨gp,0,none⟩) 256 256)):=zh (by
      rw [A7.out.cell,Array.getElem?_setIfInBounds_self,if_pos HCU.out])
     have SET:=zh (pgN_set j (by omega))
     have BD7:Hid (Below gp w7 w7.drew):=zh (Below.refl _ _).drew
     refine wp_region_plan_in (fun x=>Below gp w7 x) (.take 0 (.take 1 (.take 2 (.take 3 (.take 4 (.take 5 (.take 6 (.take 7 (.take 8 (.sole 9 .done)))))))))) (by kernel_rfl) (by kernel_rfl) (by kernel_rfl) (Below.refl _ _).drew ?_
     iterate 2 ((first | refine Mem.pm1 ?_ | refine Mem.pm2 ?_ | refine Mem.pt ?_ | refine Mem.pf ?_);(simp only [Mem.zp,Mem.pb,Mem.pc]))
     refine plan_index 32 31 _ _ ga 0 p p j zr zr zr ze ze (by omega) Tryz.underlying32 (by kernel_rfl) ?_
     (simp only [Mem.zp,Mem.pb,Mem.pc])
     refine plan_cell 31 _ _ (.slice (some ⟨gp,0,none⟩) 256 256) _ zr zr zr ze (fun w' hw'=>by rw [Nat.zero_add];exact (hw'.cell (p:=⟨ga,j,none⟩) GG2.out).trans CA7.out) Tryz.underlying31 zr ?_
     (simp only [Mem.zp,Mem.pb,Mem.pc])
     iterate 2 ((first | refine Mem.pm1 ?_ | refine Mem.pm2 ?_ | refine Mem.pt ?_ | refine Mem.pf ?_);(simp only [Mem.zp,Mem.pb,Mem.pc]))
     refine plan_index 31 5 _ _ gw 0 p cw j zr zr zr ze ze (by omega) Tryz.underlying31 (by kernel_rfl) ?_
     (simp only [Mem.zp,Mem.pb,Mem.pc])
     refine plan_cell 5 _ _ (.int .u8 (j:Int)) _ zr zr zr ze (fun w' hw'=>by rw [Nat.zero_add];exact (hw'.cell (p:=⟨gw,j,none⟩) GG1.out).trans WC7.out) Tryz.underlying5 zr ?_
     (simp only [Mem.zp,Mem.pb,Mem.pc])
     refine plan_index 31 5 _ _ gp 0 256 256 0 zr zr zr ze zr (by omega) Tryz.underlying31 (by kernel_rfl) ?_
     (simp only [Mem.zp,Mem.pb,Mem.pc])
     refine plan_store_one 5 _ _ gp (0+0) (.int .u8 (j:Int)) (u8s (List.replicate 256 0)).toArray 5 zr zr zr zr ze ze zr infoU8' (show At w7.drew gp _ 5 from R7.out) (by simp [u8s_length]) (BD7.out.setCell (Nat.le_refl gp) _) ?_
     refine plan_nil ?_
     have B8:Hid (Below gp w7 (w7.drew.setCell ⟨gp,0,none⟩ (.int .u8 (j:Int)))):=zh (BD7.out.setCell (Nat.le_refl gp) _)
     have P8:Hid (At (w7.drew.setCell ⟨gp,0,none⟩ (.int .u8 (j:Int))) gp (u8s (pgN j)).toArray 5):=zh (by
      have h:=At.set (show At w7.drew gp _ 5 from R7.out) 0 (.int .u8 (j:Int))
      rw [SET.out] at h;exact h)
     have A8:Hid (At (w7.drew.setCell ⟨gp,0,none⟩ (.int .u8 (j:Int))) ga (cur.setIfInBounds j (.slice (some ⟨gp,0,none⟩) 256 256)) 31):=zh (A7.out.below B8.out GG2.out)
     rw [show (0:Nat)+0=0 from rfl]
     generalize w7.drew.setCell ⟨gp,0,none⟩ (.int .u8 (j:Int))=w8 at *
     have C8:Hid (Chg (fun k=>k=ga) wr w8):=zh (chg_three GPE.out B6.out K7.out B8.out)
     have O8:Hid (OwnB w8 gp (.slice (some ⟨gp,0,none⟩) 256 256) (pgN j)):=zh (by
      have h:=own_fulls (L:=pgN j) P8.out (Nat.le_refl _) (by rw [pgN_length];decide)
      rw [pgN_length] at h;exact h)
     go_wp2_with fail
     go_roundw
     case rel=>
      refine ⟨j+1,by omega,by go_num,_,fun k=>D k∨k=gp,HSET.out w8 _ A8.out,?_,fun k hk=>?_,CC.out.trans C8.out fun k hk=>.inl hk⟩
      ·rw [←pg0_set hlt]
       refine each2_put ?_ (EA.out.mono fun q x a=>(a.keep C8.out.size fun k hk hl=>C8.out.block k hl ?_).mono fun k hk _=>.inl hk) j
       ·have h:=own_slR O8.out
        exact SlR.mono h fun k hk _=>.inr (by injection hk with hk;exact hk.symm)
       ·have:=(DD.out k hk).1;have:=GA5.out;omega
      ·have g8:=P8.out.lt
       have z8:=C8.out.size
       rcases hk with hk | hk
       ·have:=DD.out k hk;omega
       ·have q:=GPE.out;have z:=CC.out.size;omega
     case measure=>simp [intOf];omega
    ·have hjp:p=j:=by omega
     subst hjp
     have hge:¬ (p:Int) < (p:Int):=by omega
     have B3R:Hid (Below w3.heap.size w3 wr):=zh (CC.out.below B35.out (fun k e=>by rw [e];exact GA3.out) B35.out.size)
     have LI:Hid (LyI w1 wr F0 D st bs p s0 (.slice (some ⟨ga,0,none⟩) p p) hs (pgsN p) (.slice ar0 R0.length cr0) R0):=zh (by
      have h1:=EA.out
      rw [pg0_all p] at h1
      have h13:=B13.out.size
      have g3:=GA3.out
      have b3:=BS3.out
      refine ⟨pst_keep ST3.out B3R.out.size fun k hk hl=>B3R.out.block k hl,FG.out,?_,h1,ownsRow_below RF3.out B3R.out,IC.out.wf,fun k hk hf=>?_,FR.out,fun k hk=>?_,B13.out.trans (B3R.out.mono h13),by rw [←HPS.out];exact A3.out.below B3R.out b3,fun hf=>?_⟩
      ·rw [pgsN_length];exact ownsRow_base ROW.out (by omega)
      ·have hk:some ga=some k:=hk
       injection hk with hk
       have:=FL.out k hf;omega
      ·have hd:=DD.out k hk
       have g5:=GA5.out
       refine ⟨hd.2,fun e=>?_,fun hf=>?_⟩
       ·have e:some ga=some k:=e
        injection e with e
        omega
       ·have:=FL.out k hf;omega
      ·have:=FL.out bs hf;omega)
     clear ROW EA DD CC B3R B35 WC5 GAW GA5 GA3 A3 ST3 RF3 FL FG FR hj hlt I8 Z8 S8 B8' IS ZS SS BS' B03 B13 R5 BS3 CO YS
     go_wp2_with fail
     clear hge
     go_loopw [10,92] (fun vr vi wr=>∃ j:Nat,j≤nL∧vi=.int .i64 (j:Int)∧∃ F D s hs P R B,LyR w1 wr F D st bs p s (.slice (some ⟨ga,0,none⟩) p p) hs P vr R B key (20+20*j)) (fun _ vi _=>nL - (intOf vi).toNat)
     case atStart=>exact ⟨0,by omega,rfl,F0,D,s0,hs,pgsN p,R0,_,LI.out,IC.out,RD0.out,OK0.out,SN.out⟩
     case round=>
      obtain ⟨j,hj,rfl,F,D,s,hs,P,R,B,hI⟩:=hrel
      obtain ⟨wq,rfl⟩:∃ y,y=wr:=⟨_,rfl⟩
      have HI:=zh hI
      have BQ:Hid (Below w.heap.size w wq):=zh (B01.out.trans (hI.i.bl.mono B01.out.size))
      obtain ⟨ar,cr,hvr⟩:=hI.i.slrf.hd
      subst hvr
      clear hI LI IC RD0 OK0 SN
      by_cases hlt:j < nL
      ·have hlt':(j:Int) < (nL:Int):=by omega
       obtain ⟨hnn,bl,ol,u,el,hbl,hlc0,hsw⟩:=SlRd.at HL.out hlt
       subst el
       clear hnn
       have hlc:=(BQ.out.cell (p:=⟨bl,ol+j,none⟩) hbl).trans hlc0
       clear hlc0 hbl
       obtain ⟨C,hC⟩:∃ C,C=L.getD j []:=⟨_,rfl⟩
       rw [←hC] at hsw
       obtain ⟨ac,cc,hu⟩:=hsw.hd
       subst hu
       have hsc:=hsw.below BQ.out
       obtain ⟨FQ,hFQ⟩:∃ q,q=farC [] C:=⟨_,rfl⟩
       have fr:=far16_any [] C (.slice none 0 0) (.slice ac C.length cc) wq (SlNd.nil wq 0) hsc
       have hfn:=fun h=>farC_no (N:=[]) (C:=C) h
       rw [←hFQ] at fr hfn
       obtain ⟨nC,hnC⟩:∃ n,n=C.length:=⟨_,rfl⟩
       rw [←hnC] at hlc hsc fr hsw
       have SCW:=zh hsw;have SC:=zh hsc;have FR:=zh fr;have HFN:=zh hfn;have HNC:=zh hnC
       clear hsc hsw fr hfn hnC hC hFQ
       go_wp2_with fail
       clear hlc
       refine FR.out.mono ?_
       rintro e w5 ⟨rfl,hb5⟩
       have LI5:=zh (HI.out.i.below hb5)
       have G5A:Hid (ga < w5.heap.size):=zh (World.ownsRow.lt LI5.out.po ga rfl).2
       have SC5:=zh (SC.out.below hb5)
       have B05:Hid (Below w.heap.size w w5):=zh (BQ.out.trans (hb5.mono BQ.out.size))
       clear hb5 SC FR
       cases FQ with
       | true=>
        go_wp2_with fail
        refine (LIVE.out _ B05.out).mono ?_
        rintro e wz ⟨rfl,hbz⟩
        have BZ:Hid (Below w.heap.size w wz):=zh (B05.out.trans (hbz.mono B05.out.size))
        clear hbz
        go_wp2_with fail
        go_ret
        exact ⟨rfl,BZ.out⟩
       | false=>
        have C20:Hid (C.length≤20):=zh (HFN.out rfl).2.1
        have ic:=HI.out.c
        have hRl:=ic.lr
        obtain ⟨m,hm⟩:∃ m,m=itn p:=⟨_,rfl⟩
        have hib:=itn_big p h0 (by omega)
        have hm18:=lys_itn p h1
        rw [←hm] at hRl hib hm18
        rw [hRl]
        have IC:=zh ic;have HRL:=zh hRl;have HM:=zh hm
        have U6:=zh (setM_made w5 Tryz.prog 3 (plainElem Tryz.prog 4) (.lit (.bool true)) (fun x:Int=>(Lit.int .i64 x).wf=true) (fun x=>.int .i64 x))
        have B56:Hid (Below w5.heap.size w5 (w5.alloc (.map #[] 0))):=zh ((Below.refl _ _).alloc (Nat.le_refl _) _)
        have BLK:=zh (fun (z k:Int) wx=>pblock_any p z k wx (by omega))
        rw [←HPS.out] at BLK
        clear ic hRl hm HFN
        go_upto_region 24 with (refine wpList_map_made zr 35 zr ?_)
        obtain ⟨bm,hbm⟩:∃ y,y=w5.heap.size:=⟨_,rfl⟩
        have BME:=zh hbm
        rw [←hbm] at U6 ⊢
        clear hbm
        generalize w5.alloc (.map #[] 0)=w6 at *
        go_wp2_with fail
        go_loopw [103] (fun vi wr=>∃ i:Nat,i≤m∧vi=.int .i64 (i:Int)∧Us wr bm (usedI p R i)∧Below w5.heap.size w5 wr) (fun vi _=>m - (intOf vi).toNat)
        case atStart=>exact ⟨0,by omega,rfl,U6.out,B56.out⟩
        case round=>
         obtain ⟨i,hi,rfl,hU,hb⟩:=hrel
         have LX:=zh (LI5.out.below hb)
         have UX:=zh hU;have BX:=zh hb
         clear hU hb
         by_cases hlt2:i < m
         ·have hlt2':(i:Int) < (m:Int):=by omega
          have hsl:=LX.out.slrf
          rw [HRL.out] at hsl
          obtain ⟨b2,o2,e2,_,hrg⟩:=slrf_at (i:=i) hsl HRL.out.symm hlt2
          subst e2
          have hwf:=getD_wf LX.out.rw i
          obtain ⟨hp1,hp2⟩:=IC.out.plN (i:=i) (by rw [←HM.out];exact hlt2)
          obtain ⟨z,hz⟩:∃ z:Int,z=(blkI R i:Int):=⟨_,rfl⟩
          have hus:=usedI_succ p R i
          have huw:wfI z:=by rw [hz];exact wfI_nat _ (by unfold blkI;omega)
          have hbz:BZ p (i:Int) (R.getD i zref).pl=z:=by
           rw [hz]
           unfold BZ blkI
           rw [if_pos ⟨⟨by omega,by rw [←HM.out];omega⟩,by omega,by omega⟩]
           omega
          rw [←hz] at hus
          obtain ⟨r,hr⟩:∃ r,r=R.getD i zref:=⟨_,rfl⟩
          rw [←hr] at hrg hwf hbz
          have blk:=BLK.out (i:Int) r.pl
          rw [hbz] at blk
          have c0:=(at_new wr (refC r) 38).cell 0
          rw [show (refC r)[0]?=some (.int .i64 r.pl) from rfl] at c0
          have ro:=refC_one r
          have ms:=refC_size hwf
          obtain ⟨M,hM⟩:∃ M,M=refC r:=⟨_,rfl⟩
          have hrgm:wr.rangeAt b2 (o2+i*34) M.toList:=by rw [hM];exact hrg
          rw [←hM] at c0 ro ms
          have b8:Below wr.heap.size wr (wr.alloc (.cells M 38)):=(Below.refl _ _).alloc (Nat.le_refl _) _
          have L8:=zh (LX.out.below b8)
          have U8:=zh (UX.out.alloc (.cells M 38))
          have B8:Hid (Below w5.heap.size w5 (wr.alloc (.cells M 38))):=zh (BX.out.trans (b8.mono BX.out.size))
          have RGM:=zh hrgm;have MS:=zh ms;have MO:=zh ro;have BLI:=zh blk;have HUS:=zh hus;have HUW:=zh huw
          have hxr:=HXR.out
          clear hrg hwf hp1 hp2 hz hus huw hbz hr blk ro ms hM hrgm b8 hsl LX UX BX
          go_upto_region 27 with (first
           | (refine wpList_load_mid zr 38 _ zr b2 (o2+i*34) zr M.toList _ RGM.out Tryz.underlying38 zr (by rw [infoRfP,Array.length_toList,MS.out]) ?_;rw [Array.toArray_toList])
           | (refine wpList_store_new zr 38 _ _ zr zr M _ _ zr zr (by rw [MS.out];exact infoRfP) (by rw [MS.out,ZRS.out]) MO.out ?_))
          clear hxr
          obtain ⟨bx,hbx⟩:∃ y,y=wr.heap.size:=⟨_,rfl⟩
          rw [←hbx] at c0 ⊢
          clear hbx
          generalize wr.alloc (.cells M 38)=w8 at *
          go_wp2_with (refine wpList_load_all zr 26 _ zr bs zr _ Tryz.underlying26 zr PS _ (by rw [HPS.out];exact L8.out.sp) (by rw [CS.out];exact infoPS) ?_)
          refine (BLI.out _).mono ?_
          rintro e w9 ⟨rfl,hb9⟩
          have U9:=zh (UX9 U8.out hb9);have B9:Hid (Below w5.heap.size w5 w9):=zh (B8.out.trans (hb9.mono B8.out.size))
          clear hb9 c0 L8 U8 B8
          have HLM:Hid ((usedI p R i).length < maxLen):=zh (by rw [usedI_length];unfold maxLen;omega)
          go_wp2_with (at_mapUpdate;go_loud (refine wpList_set_put zr 35 _ _ _ zr 4 bm z (.bool true) _ _ [] zr zr zr (plainElem_bool Tryz.underlying4 true) U9.out keyTy_used Tryz.underlying35 HLM.out HUW.out ?_;intro w10 hs10 hc10 hz10;have S10:=zh hs10;have B10:Hid (Below w5.heap.size w5 w10):=zh (hc10.below B9.out (fun k e=>by rw [e,BME.out];exact Nat.le_refl _) B9.out.size);clear hs10 hc10 hz10))
          go_roundw
          case rel=>exact ⟨i+1,by omega,by go_num,S10.out.alike (fun c=>by rw [HUS.out];simp [or_comm]) (by rw [HUS.out];simp),B10.out⟩
          case measure=>simp [intOf];omega
         ·have him:m=i:=by omega
          subst him
          have hge2:¬ (m:Int) < (m:Int):=by omega
          obtain ⟨q,hq⟩:∃ q,m=q+1:=⟨m - 1,by omega⟩
          have hqm:(m:Int) - 1=(q:Int):=by omega
          have hql:(q:Int) < (m:Int):=by omega
          have HQI:Hid (itn p - 1=q):=zh (by rw [←HM.out];omega)
          clear hq
          have hsl:=LX.out.slrf
          rw [HRL.out] at hsl
          obtain ⟨b2,o2,e2,_,hrg⟩:=slrf_at (i:=q) hsl HRL.out.symm (by omega)
          subst e2
          have hwf:=getD_wf LX.out.rw q
          have CRI:=zh (ris_rise p C);have CRL:=zh (ris_len p C)
          have plt:=img_plan (ep:=BitVec.ofNat 32 (j+2)) IC.out CRI.out
          have whl:=fun B' (h:ImgC B' key p R P)=>h.whole
          rw [HQI.out] at plt whl
          obtain ⟨r,hr⟩:∃ r,r=R.getD q zref:=⟨_,rfl⟩
          rw [←hr] at hrg hwf plt whl
          have HRQ:=zh hr
          have ms:=refC_size hwf
          have ro:=refC_one r
          obtain ⟨RC,hRC⟩:∃ M,M=refC r:=⟨_,rfl⟩
          have hrgm:wr.rangeAt b2 (o2+q*34) RC.toList:=by rw [hRC];exact hrg
          rw [←hRC] at ms ro
          have b7:Below wr.heap.size wr (wr.alloc (.cells RC 38)):=(Below.refl _ _).alloc (Nat.le_refl _) _
          have L7:=zh (LX.out.below b7)
          have U7:=zh (UX.out.alloc (.cells RC 38))
          have B7:Hid (Below w5.heap.size w5 (wr.alloc (.cells RC 38))):=zh (BX.out.trans (b7.mono BX.out.size))
          have A21:=zh (at_new wr RC 38)
          have W5R:Hid (w5.heap.size≤wr.heap.size):=zh BX.out.size
          have BMR:Hid (bm < wr.heap.size):=zh UX.out.lt
          have RGM:=zh hrgm;have RS:=zh ms;have RO:=zh ro;have HRC:=zh hRC;have RWF:=zh hwf;have PLTE:=zh plt;have WHL:=zh whl
          have hxr:=HXR.out
          clear hrg hwf hr ms ro hRC hrgm b7 hsl LX UX BX plt whl hib B56 U6
          go_wp2_with (first
           | (refine wpList_load_mid zr 38 _ zr b2 (o2+q*34) (by first | rfl | (simp only [hqm];rfl) | (simp [hqm])) RC.toList _ RGM.out Tryz.underlying38 zr (by rw [infoRfP,Array.length_toList,RS.out]) ?_;rw [Array.toArray_toList])
           | (refine wpList_store_new zr 38 _ _ zr zr RC _ _ zr zr (by rw [RS.out];exact infoRfP) (by rw [RS.out,ZRS.out]) RO.out ?_))
          clear hxr hqm hge2 hql
          obtain ⟨b21,hb21⟩:∃ y,y=wr.heap.size:=⟨_,rfl⟩
          rw [←hb21] at A21 W5R BMR ⊢
          clear hb21
          generalize wr.alloc (.cells RC 38)=w7 at *
          have K7:Hid (At w7 bk KC 22):=zh (K1.out.below L7.out.bl K1.out.lt)
          have S7:Hid (At w7 bs PS 26):=zh (by rw [HPS.out];exact L7.out.sp)
          have B07:Hid (Below w.heap.size w w7):=zh (B01.out.trans (L7.out.bl.mono B01.out.size))
          have SC7:Hid (SlCh w7 (.slice ac nC cc) C):=zh (SC5.out.below (B7.out))
          have ri:=RWF.out
          have ndw:=ndsI_ndwf (by rw [HRL.out,HM.out]:R.length=itn p) h0 (by omega) L7.out.rw
          have nds:=fun wx (hb:Below w7.heap.size w7 wx)=>nodes16_any p R (.slice (some ⟨b2,o2,none⟩) m cr) wx (by have h:=(L7.out.below hb).slrf;rw [HRL.out] at h;exact h) (by rw [HRL.out,HM.out]) L7.out.rw h0 (by omega)
          rw [←HPS.out] at nds
          obtain ⟨ND,hND⟩:∃ N,N=ndsI p R (itn p):=⟨_,rfl⟩
          obtain ⟨CR,hCR⟩:∃ N,N=risT p C:=⟨_,rfl⟩
          have ris:∀ wx,Below w7.heap.size w7 wx→Calls Tryz.prog 13 #[.slice ac nC cc,.int .i64 (p:Int)] wx (fun e w'=>∃ v',e=.returned v'∧SlCh w' v' CR∧Below wx.heap.size wx w'):=fun wx hb=>by
           rw [hCR]
           exact (rising16_any C _ p wx (SC7.out.below hb) C20.out h0 (by omega)).mono fun _ _ ⟨v',_,_,a,b,_,c⟩=>⟨v',a,own_chs b,c⟩
          obtain ⟨ep,hep⟩:∃ e,e=BitVec.ofNat 32 (j+2):=⟨_,rfl⟩
          have add:=fun wx x y=>add_round (j:=j) (by omega) x y wx
          have plt:=PLTE.out
          rw [←hep] at add plt
          rw [←hND] at nds ndw plt
          rw [←hCR] at plt
          have cri:=CRI.out
          rw [←hCR] at cri
          have crl:CR.length≤p:=by rw [hCR];exact CRL.out
          have pfp:=puts_256 (key:=key) (ep:=ep) (p:=p) (root:=r) (N:=ND) (C:=CR) (by have h:=img_good IC.out CRI.out;rw [HQI.out,←HRQ.out,←hND,←hCR] at h;exact h)
          have ppl:=putsC_length (key:=key) (ep:=ep) (p:=p) (root:=r) (N:=ND) (C:=CR) (itn p)
          have pun:=fun i h=>usedJ_not (ep:=ep) IC.out CRI.out (j:=i) h
          have ily:=img_lays (ep:=ep) (m:=20+20*j) IC.out CRI.out HI.out.o HI.out.n HI.out.r
          have iln:=img_none (ep:=ep) IC.out
          rw [HQI.out,←HRQ.out] at iln
          rw [HQI.out,←HRQ.out,←hND,←hCR] at pun ily
          obtain ⟨PT,hPT⟩:∃ P,P=putsC key ep p r ND CR (itn p):=⟨_,rfl⟩
          obtain ⟨NT,hNT⟩:∃ P,P=ndsC key ep p r ND CR (itn p):=⟨_,rfl⟩
          rw [←hPT,←hNT] at plt
          rw [←hPT] at pfp ppl pun ily
          obtain ⟨rn,hrn⟩:∃ x,x=(newR key ep p R CR).getD q zref:=⟨_,rfl⟩
          have rnw:rn.Wf:=by rw [hrn];exact getD_wf (newR_wf IC.out) q
          have irn:CR=[]→rn=r:=fun e=>by rw [hrn,e];exact iln
          rw [←hrn] at plt
          have pln:∀ v u wx,Below w7.heap.size w7 wx→SlNd wx v ND→SlCh wx u CR→Calls Tryz.prog 11 #[.pointer none,.agg KC,.int .u32 (V ep),.agg PS,.agg RC,v,u] wx (PlEnd wx (PT,NT,rn,0)):=fun v u wx hb hv hu=>by
           rw [HPS.out,HKC.out,HRC.out,←plt]
           exact pplan16_any key ep p r ND CR v u wx (HT.out.below (B07.out.trans (hb.mono B07.out.size))) LK.out ri hv hu ndw (by omega) h0 (by omega)
          have res:=refC_size rnw
          have reo:=refC_one rn
          obtain ⟨RE,hRE⟩:∃ M,M=refC rn:=⟨_,rfl⟩
          have pln2:∀ v u wx,Below w7.heap.size w7 wx→SlNd wx v ND→SlCh wx u CR→Calls Tryz.prog 11 #[.pointer none,.agg KC,.int .u32 (V ep),.agg PS,.agg RC,v,u] wx (fun e w'=>∃ vp vn,e=.returned (.tuple #[vp,vn,.agg RE,.int .i64 0])∧WPut (fun k=>wx.heap.size≤k) w' vp PT∧SlNdG (fun k=>wx.heap.size≤k) w' vn NT∧Below wx.heap.size wx w'):=by rw [hRE];exact pln
          rw [←hRE] at res reo
          have al:∀ wx:World,(Instr.alloc 38 true (.tuple #[])).run Tryz.prog wx=.ok (.pointer (some ⟨wx.heap.size,0,none⟩)) (wx.alloc (.cells ZR 38)):=fun wx=>by rw [HZR.out];kernel_rfl
          have J4:Hid (j < 4):=zh (by omega)
          have NDS:=zh nds;have RIS:=zh ris;have PLN:=zh pln2;have ADD:=zh add;have RES:=zh res;have REO:=zh reo;have HRE:=zh hRE;have AL:=zh al;have PFP:=zh pfp;have PPL:=zh ppl;have PUN:=zh pun;have ILY:=zh ily;have IRN:=zh irn;have RNW:=zh rnw;have HRN:=zh hrn;have HCR:=zh hCR;have CRJ:=zh cri;have CRK:=zh crl;have HPT:=zh hPT;have HEP:=zh hep;have HND:=zh hND
          clear ri ndw nds ris add plt cri crl pfp ppl pun ily iln hPT hNT hrn rnw irn pln res reo hRE pln2 al hND hCR hep CRI CRL PLTE
          go_cut [22,24,25] (fun s u x wx=>∃ b24,u=.pointer (some ⟨b24,0,none⟩)∧x=.int .i64 0∧WPut (fun k=>w7.heap.size≤k) wx s PT∧At wx b24 RE 38∧w7.heap.size≤b24∧Below w7.heap.size w7 wx)
          ·refine wp_region_plan_in (fun x'=>Below w7.heap.size w7 x') (.take 0 (.take 1 (.take 2 (.take 3 (.take 4 (.take 5 (.take 6 (.take 7 (.take 9 (.take 10 (.two 8 18 (.two 11 18 (.two 12 18 (.take 13 (.take 14 (.take 15 (.take 16 (.take 17 (.sole 18 (.take 19 (.take 20 (.sole 21 (.take 22 .done)))))))))) (.sole 12 (.take 13 (.take 14 (.take 15 (.take 16 (.take 17 (.take 19 (.take 20 (.sole 21 (.take 22 .done))))))))))) (.sole 11 (.sole 12 (.take 13 (.take 14 (.take 15 (.take 16 (.take 17 (.take 19 (.take 20 (.sole 21 (.take 22 .done)))))))))))) (.sole 8 (.sole 11 (.sole 12 (.take 13 (.take 14 (.take 15 (.take 16 (.take 17 (.take 19 (.take 20 (.sole 21 (.take 22 .done))))))))))))))))))))))) (by kernel_rfl) (by kernel_rfl) (by kernel_rfl) (Below.refl _ _).drew ?_
           refine plan_row 22 _ bk _ KC 22 zr zr zr ze (fun w' hw'=>K7.out.below hw' K7.out.lt) Tryz.underlying22 zr (by rw [KS.out];kernel_rfl) ?_
           (simp only [Mem.zp,Mem.pb,Mem.pc])
           (first | refine Mem.pm1 ?_ | refine Mem.pm2 ?_ | refine Mem.pt ?_ | refine Mem.pf ?_)
           (simp only [Mem.zp,Mem.pb,Mem.pc])
           refine plan_conv _ _ _ _ (.int .u32 (j:Int)) zr zr zr ze (fun wx=>conv_round J4.out wx) ?_
           (simp only [Mem.zp,Mem.pb,Mem.pc])
           refine plan_bin _ _ _ _ _ _ _ (.int .u32 (V ep)) zr zr zr ze zr (fun wx=>ADD.out wx _ _) ?_
           (simp only [Mem.zp,Mem.pb,Mem.pc])
           refine plan_row 26 _ bs _ PS 26 zr zr zr ze (fun w' hw'=>S7.out.below hw' S7.out.lt) Tryz.underlying26 zr (by rw [CS.out];exact infoPS) ?_
           (simp only [Mem.zp,Mem.pb,Mem.pc])
           refine plan_row 38 _ b21 _ RC 38 zr zr zr ze (fun w' hw'=>A21.out.below hw' A21.out.lt) Tryz.underlying38 zr (by rw [RS.out];exact infoRfP) ?_
           (simp only [Mem.zp,Mem.pb,Mem.pc])
           refine plan_row 26 _ bs _ PS 26 zr zr zr ze (fun w' hw'=>S7.out.below hw' S7.out.lt) Tryz.underlying26 zr (by rw [CS.out];exact infoPS) ?_
           (simp only [Mem.zp,Mem.pb,Mem.pc])
           iterate 3 ((first | refine Mem.pm1 ?_ | refine Mem.pm2 ?_ | refine Mem.pt ?_ | refine Mem.pf ?_);(simp only [Mem.zp,Mem.pb,Mem.pc]))
           refine plan_act ?_
           intro a0 ha0
           refine plan_lem (fun a wx=>∃ v64 v66:Value,∃ b24:Nat,a=setA a0 [(130,v64),(133,v66),(24,.pointer (some ⟨b24,0,none⟩))]∧SlNd wx v64 ND∧SlCh wx v66 CR∧At wx b24 ZR 38∧w7.heap.size≤b24∧Below w7.heap.size w7 wx) (.sole 12 (.take 13 (.take 14 (.take 15 (.take 16 (.take 17 (.take 19 (.take 20 (.sole 21 (.take 22 .done)))))))))) ?_ (fun T21=>?_)
           ·rintro ax wx ⟨v64,v66,b24,rfl,f1,f2,fa,fg,hB⟩
            have F1:=zh f1;have F2:=zh f2;have FA:=zh fa;have G0:=zh fg;have HB0:=zh hB
            clear f1 f2 fa fg hB
            rw [ha0]
            (simp only [setA,List.foldl_cons,List.foldl_nil,List.setIfInBounds_toArray,List.set_cons_zero,List.set_cons_succ])
            have WX:=zh HB0.out.size
            refine plan_call 11 _ _ _ (by kernel_rfl) zr zr zr (by first | exact Mem.ev_none _ | (simp only [List.map_toArray,List.map_cons,List.map_nil,Mem.ev_tmp,List.getD_cons_succ,List.getD_cons_zero] <;> rfl)) ?_
            refine (PLN.out _ _ _ (HB0.out) F1.out F2.out).mono ?_
            rintro e' wy ⟨vp,vn',rfl,hwp,hwn,hby⟩
            have FP:=zh hwp
            have GA:Hid (b24 < _):=zh FA.out.lt
            have FA:=zh (FA.out.below hby FA.out.lt)
            have HB0:Hid (Below w7.heap.size w7 wy):=zh (HB0.out.trans (hby.mono HB0.out.size))
            clear hwp hwn hby
            refine ⟨_,rfl,HB0.out,?_⟩
            (simp only [Mem.zp,Mem.pb,Mem.pc])
            (first | refine Mem.pm1 ?_ | refine Mem.pm2 ?_ | refine Mem.pt ?_ | refine Mem.pf ?_)
            (simp only [Mem.zp,Mem.pb,Mem.pc])
            refine plan_extract _ _ #[vp,vn',.agg RE,.int .i64 0] vp zr zr zr ze zr ?_
            (simp only [Mem.zp,Mem.pb,Mem.pc])
            refine plan_extract _ _ #[vp,vn',.agg RE,.int .i64 0] vn' zr zr zr ze zr ?_
            (simp only [Mem.zp,Mem.pb,Mem.pc])
            refine plan_extract _ _ #[vp,vn',.agg RE,.int .i64 0] (.agg RE) zr zr zr ze zr ?_
            (simp only [Mem.zp,Mem.pb,Mem.pc])
            refine plan_extract _ _ #[vp,vn',.agg RE,.int .i64 0] (.int .i64 0) zr zr zr ze zr ?_
            (simp only [Mem.zp,Mem.pb,Mem.pc])
            iterate 2 ((first | refine Mem.pm1 ?_ | refine Mem.pm2 ?_ | refine Mem.pt ?_ | refine Mem.pf ?_);(simp only [Mem.zp,Mem.pb,Mem.pc]))
            refine plan_store 38 _ _ b24 RE ZR 38 zr zr zr zr ze ze (by rw [RES.out];exact infoRfP) FA.out (by rw [RES.out,ZRS.out]) REO.out (below_row HB0.out G0.out RE) ?_
            (first | refine Mem.pm1 ?_ | refine Mem.pm2 ?_ | refine Mem.pt ?_ | refine Mem.pf ?_)
            (simp only [Mem.zp,Mem.pb,Mem.pc])
            refine plan_nil ?_
            go_wp2_with fail
            go_meet
            exact ⟨b24,rfl,rfl,(WPut.keep FP.out (by simp) fun k hk _=>setRow_other _ _ k _ (by have:=GA.out;omega)).mono fun k hk _=>Nat.le_trans WX.out hk,At.row (C:=ZR) FA.out RE,G0.out,below_row HB0.out G0.out RE⟩
           refine plan_lem (fun a wx=>∃ v64 v66:Value,∃ b24:Nat,a=setA a0 [(130,v64),(24,.pointer (some ⟨b24,0,none⟩))]∧SlNd wx v64 ND∧At wx b24 ZR 38∧w7.heap.size≤b24∧Below w7.heap.size w7 wx) (.sole 11 (.sole 12 (.take 13 (.take 14 (.take 15 (.take 16 (.take 17 (.take 19 (.take 20 (.sole 21 (.take 22 .done))))))))))) ?_ (fun T11=>?_)
           ·rintro ax wx ⟨v64,v66,b24,rfl,f1,fa,fg,hB⟩
            have F1:=zh f1;have FA:=zh fa;have G0:=zh fg;have HB0:=zh hB
            clear f1 fa fg hB
            rw [ha0]
            (simp only [setA,List.foldl_cons,List.foldl_nil,List.setIfInBounds_toArray,List.set_cons_zero,List.set_cons_succ])
            refine plan_call 13 _ _ _ (by kernel_rfl) zr zr zr (by first | exact Mem.ev_none _ | (simp only [List.map_toArray,List.map_cons,List.map_nil,Mem.ev_tmp,List.getD_cons_succ,List.getD_cons_zero] <;> rfl)) ?_
            refine (RIS.out _ (HB0.out)).mono ?_
            rintro e' wy ⟨v66,rfl,hf,hby⟩
            have F2:=zh hf
            have F1:=zh (F1.out.below hby)
            have FA:=zh (FA.out.below hby FA.out.lt)
            have HB0:Hid (Below w7.heap.size w7 wy):=zh (HB0.out.trans (hby.mono HB0.out.size))
            clear hf hby
            refine ⟨_,rfl,HB0.out,?_⟩
            (simp only [Mem.zp,Mem.pb,Mem.pc])
            exact T21 _ _ ⟨v64,v66,b24,by (rw [ha0];rfl),F1.out,F2.out,FA.out,G0.out,HB0.out⟩
           have HB0:Hid (Below w7.heap.size w7 w7.drew):=zh (Below.refl _ _).drew
           obtain ⟨wx,hwx⟩:∃ y,y=w7.drew:=⟨_,rfl⟩
           rw [←hwx] at HB0 ⊢
           clear hwx
           rw [ha0]
           refine plan_two ?_ ?_
           ·refine plan_call 12 _ _ _ (by kernel_rfl) zr zr zr (by first | exact Mem.ev_none _ | (simp only [List.map_toArray,List.map_cons,List.map_nil,Mem.ev_tmp,List.getD_cons_succ,List.getD_cons_zero] <;> rfl)) ?_
            refine (NDS.out _ (HB0.out)).mono ?_
            rintro e' wy1 ⟨v64,rfl,hf,hby⟩
            have F1:=zh hf
            have HB0:Hid (Below w7.heap.size w7 wy1):=zh (HB0.out.trans (hby.mono HB0.out.size))
            clear hf hby
            refine ⟨_,rfl,HB0.out,?_⟩
            (simp only [Mem.zp,Mem.pb,Mem.pc])
            refine plan_two ?_ ?_
            ·refine plan_call 13 _ _ _ (by kernel_rfl) zr zr zr (by first | exact Mem.ev_none _ | (simp only [List.map_toArray,List.map_cons,List.map_nil,Mem.ev_tmp,List.getD_cons_succ,List.getD_cons_zero] <;> rfl)) ?_
             refine (RIS.out _ (HB0.out)).mono ?_
             rintro e' wy2 ⟨v66,rfl,hf,hby⟩
             have F2:=zh hf
             have F1:=zh (F1.out.below hby)
             have HB0:Hid (Below w7.heap.size w7 wy2):=zh (HB0.out.trans (hby.mono HB0.out.size))
             clear hf hby
             refine ⟨_,rfl,HB0.out,?_⟩
             (simp only [Mem.zp,Mem.pb,Mem.pc])
             refine plan_two ?_ ?_
             ·have WX:=zh HB0.out.size
              refine plan_call 11 _ _ _ (by kernel_rfl) zr zr zr (by first | exact Mem.ev_none _ | (simp only [List.map_toArray,List.map_cons,List.map_nil,Mem.ev_tmp,List.getD_cons_succ,List.getD_cons_zero] <;> rfl)) ?_
              refine (PLN.out _ _ _ (HB0.out) F1.out F2.out).mono ?_
              rintro e' wy ⟨vp,vn',rfl,hwp,hwn,hby⟩
              have FP:=zh hwp
              have HB0:Hid (Below w7.heap.size w7 wy):=zh (HB0.out.trans (hby.mono HB0.out.size))
              clear hwp hwn hby
              refine ⟨_,rfl,HB0.out,?_⟩
              (simp only [Mem.zp,Mem.pb,Mem.pc])
              (first | refine Mem.pm1 ?_ | refine Mem.pm2 ?_ | refine Mem.pt ?_ | refine Mem.pf ?_)
              (simp only [Mem.zp,Mem.pb,Mem.pc])
              refine plan_extract _ _ #[vp,vn',.agg RE,.int .i64 0] vp zr zr zr ze zr ?_
              (simp only [Mem.zp,Mem.pb,Mem.pc])
              refine plan_extract _ _ #[vp,vn',.agg RE,.int .i64 0] vn' zr zr zr ze zr ?_
              (simp only [Mem.zp,Mem.pb,Mem.pc])
              refine plan_extract _ _ #[vp,vn',.agg RE,.int .i64 0] (.agg RE) zr zr zr ze zr ?_
              (simp only [Mem.zp,Mem.pb,Mem.pc])
              refine plan_extract _ _ #[vp,vn',.agg RE,.int .i64 0] (.int .i64 0) zr zr zr ze zr ?_
              (simp only [Mem.zp,Mem.pb,Mem.pc])
              refine plan_alloc _ ZR zr zr zr AL.out (HB0.out.alloc HB0.out.size _) ?_
              (simp only [Mem.zp,Mem.pb,Mem.pc])
              have hby:Below wy.heap.size wy ((wy.alloc (.cells ZR 38)).setRow wy.heap.size RE):=below_row ((Below.refl _ _).alloc (Nat.le_refl _) _) (Nat.le_refl _) _
              have FA:=zh (at_new wy ZR 38)
              have G0:Hid (w7.heap.size≤wy.heap.size):=zh HB0.out.size
              have HB1:Hid (Below w7.heap.size w7 (wy.alloc (.cells ZR 38))):=zh (HB0.out.alloc HB0.out.size _)
              iterate 2 ((first | refine Mem.pm1 ?_ | refine Mem.pm2 ?_ | refine Mem.pt ?_ | refine Mem.pf ?_);(simp only [Mem.zp,Mem.pb,Mem.pc]))
              refine plan_store 38 _ _ (wy.heap.size) RE ZR 38 zr zr zr zr ze ze (by rw [RES.out];exact infoRfP) FA.out (by rw [RES.out,ZRS.out]) REO.out (below_row HB1.out G0.out RE) ?_
              (first | refine Mem.pm1 ?_ | refine Mem.pm2 ?_ | refine Mem.pt ?_ | refine Mem.pf ?_)
              (simp only [Mem.zp,Mem.pb,Mem.pc])
              refine plan_nil ?_
              go_wp2_with fail
              go_meet
              exact ⟨wy.heap.size,rfl,rfl,(WPut.keep FP.out hby.size fun k _ hl=>hby.block k hl).mono fun k hk _=>Nat.le_trans WX.out hk,At.row (C:=ZR) FA.out RE,G0.out,below_row HB1.out G0.out RE⟩
             ·refine plan_alloc _ ZR zr zr zr AL.out (HB0.out.alloc HB0.out.size _) ?_
              (simp only [Mem.zp,Mem.pb,Mem.pc])
              have hby:Below wy2.heap.size wy2 (wy2.alloc (.cells ZR 38)):=(Below.refl _ _).alloc (Nat.le_refl _) _
              have FA:=zh (at_new wy2 ZR 38)
              have G0:Hid (w7.heap.size≤wy2.heap.size):=zh HB0.out.size
              have F1:=zh (F1.out.below hby)
              have F2:=zh (F2.out.below hby)
              have HB0:Hid (Below w7.heap.size w7 (wy2.alloc (.cells ZR 38))):=zh (HB0.out.alloc HB0.out.size _)
              clear hby
              exact T21 _ _ ⟨v64,v66,wy2.heap.size,by (rw [ha0];rfl),F1.out,F2.out,FA.out,G0.out,HB0.out⟩
            ·refine plan_alloc _ ZR zr zr zr AL.out (HB0.out.alloc HB0.out.size _) ?_
             (simp only [Mem.zp,Mem.pb,Mem.pc])
             have hby:Below wy1.heap.size wy1 (wy1.alloc (.cells ZR 38)):=(Below.refl _ _).alloc (Nat.le_refl _) _
             have FA:=zh (at_new wy1 ZR 38)
             have G0:Hid (w7.heap.size≤wy1.heap.size):=zh HB0.out.size
             have F1:=zh (F1.out.below hby)
             have HB0:Hid (Below w7.heap.size w7 (wy1.alloc (.cells ZR 38))):=zh (HB0.out.alloc HB0.out.size _)
             clear hby
             exact T11 _ _ ⟨v64,undef,wy1.heap.size,by (rw [ha0];rfl),F1.out,FA.out,G0.out,HB0.out⟩
           ·refine plan_alloc _ ZR zr zr zr AL.out (HB0.out.alloc HB0.out.size _) ?_
            (simp only [Mem.zp,Mem.pb,Mem.pc])
            have hby:Below wx.heap.size wx (wx.alloc (.cells ZR 38)):=(Below.refl _ _).alloc (Nat.le_refl _) _
            have FA:=zh (at_new wx ZR 38)
            have G0:Hid (w7.heap.size≤wx.heap.size):=zh HB0.out.size
            have HB0:Hid (Below w7.heap.size w7 (wx.alloc (.cells ZR 38))):=zh (HB0.out.alloc HB0.out.size _)
            clear hby
            refine plan_call 12 _ _ _ (by kernel_rfl) zr zr zr (by first | exact Mem.ev_none _ | (simp only [List.map_toArray,List.map_cons,List.map_nil,Mem.ev_tmp,List.getD_cons_succ,List.getD_cons_zero] <;> rfl)) ?_
            refine (NDS.out _ (HB0.out)).mono ?_
            rintro e' wy1 ⟨v64,rfl,hf,hby⟩
            have F1:=zh hf
            have FA:=zh (FA.out.below hby FA.out.lt)
            have HB0:Hid (Below w7.heap.size w7 wy1):=zh (HB0.out.trans (hby.mono HB0.out.size))
            clear hf hby
            refine ⟨_,rfl,HB0.out,?_⟩
            (simp only [Mem.zp,Mem.pb,Mem.pc])
            exact T11 _ _ ⟨v64,undef,wx.heap.size,by (rw [ha0];rfl),F1.out,FA.out,G0.out,HB0.out⟩
          case rest=>
           obtain ⟨b24,rfl,rfl,hwp,ha24,hg24,hbc⟩:=hcut
           obtain ⟨ap,cp,ep1⟩:=hwp.hd
           subst ep1
           obtain ⟨nP,hnP⟩:∃ n,n=PT.length:=⟨_,rfl⟩
           rw [←hnP] at hwp ⊢
           have NPE:=zh hnP;have WP:=zh hwp;have A24:=zh ha24;have G24:=zh hg24
           have NP18:nP≤18:=by have:=PPL.out;have:=lys_itn p h1;omega
           have BC:Hid (Below w5.heap.size w5 wc):=zh (B7.out.trans (hbc.mono B7.out.size))
           have UC:=zh (UX9 U7.out hbc)
           have A21C:=zh (A21.out.below hbc A21.out.lt)
           have L21:Hid (b21 < w7.heap.size):=zh A21.out.lt
           clear hnP hwp ha24 hg24 hbc NDS RIS PLN ADD AL U7 A21 K7 S7
           go_wp2_with fail
           go_loopw [143] (fun vi wr=>∃ i:Nat,i≤nP∧vi=.int .i64 (i:Int)∧Us wr bm (usedJ p R PT i)∧Chg (fun k=>k=bm) wc wr) (fun vi _=>nP - (intOf vi).toNat)
           case atStart=>exact ⟨0,by omega,rfl,by rw [usedJ_zero,←HM.out];exact UC.out,Chg.refl _ _⟩
           case round=>
            obtain ⟨i,hi,rfl,hU,hc⟩:=hrel
            have WPX:=zh (WPut.keep WP.out hc.size fun k hk hl=>hc.block k hl (by have:=BMR.out;have:=L21.out;omega))
            have UX:=zh hU;have CX:=zh hc
            clear hU hc
            by_cases hlt3:i < nP
            ·have hlt3':(i:Int) < (nP:Int):=by omega
             have hip:i < PT.length:=by rw [←NPE.out];exact hlt3
             obtain ⟨b1,o1,vh,e1,_,cn0,ch0,hsh0⟩:=lput_at WPX.out hip
             have q2:=PFP.out (PT.getD i (0,[])) (by rw [List.getD_eq_getElem?_getD,List.getElem?_eq_getElem hip];exact List.getElem_mem _)
             have hnot:=PUN.out i hip
             have hsuc:=usedJ_succ p R PT hip
             have hlen:=usedJ_len p R PT i
             have hip18:=lys_itn p h1
             obtain ⟨z,hz⟩:∃ z:Nat,z=(PT.getD i (0,[])).1:=⟨_,rfl⟩
             rw [←hz] at cn0 q2 hnot hsuc
             obtain ⟨a3,cap3,rfl⟩:=hsh0.hd
             rw [q2.2] at ch0
             subst e1
             have hwz:wfI (z:Int):=wfI_nat z (by omega)
             have hnd:false=true ↔ (z:Int)∈usedJ p R PT i:=⟨fun h=>absurd h (by decide),fun h=>(hnot h).elim⟩
             have U8:=zh (UX.out.alloc (.cells (ptRow z (.slice a3 256 cap3)) 49))
             have C8:Hid (Chg (fun k=>k=bm) wc (wr.alloc (.cells (ptRow z (.slice a3 256 cap3)) 49))):=zh (CX.out.trans (F1:=fun _=>False) (Chg.of_below ((Below.refl _ _).alloc (Nat.le_refl _) _)) fun _ h=>h.elim)
             have A8:=zh (at_new wr (ptRow z (.slice a3 256 cap3)) 49)
             have HSU:=zh hsuc;have HWZ:=zh hwz;have HND2:=zh hnd
             have HLM:Hid ((usedJ p R PT i).length < maxLen):=zh (by unfold maxLen;omega)
             clear hsh0 q2 hnot hsuc hlen hz hwz hnd WPX UX CX
             go_upto_region 36 with (refine wpList_store_new zr 49 _ _ zr zr (ptRow z (.slice a3 256 cap3)) _ _ zr zr (by exact infoPt14) zr (ptRow_one _ _ _ _) ?_)
             clear cn0 ch0
             obtain ⟨bx,hbx⟩:∃ bx,bx=wr.heap.size:=⟨_,rfl⟩
             rw [←hbx] at A8 ⊢
             clear hbx
             generalize wr.alloc (.cells (ptRow z (.slice a3 256 cap3)) 49)=w8 at *
             have c0:w8.cell? ⟨bx,0,none⟩=some (.int .i64 (z:Int)):=(A8.out.cell 0).trans rfl
             go_wp2_with (first
              | (at_lookup;go_loud (refine wpList_set_look zr 35 _ _ zr 4 bm (z:Int) zr zr U8.out keyTy_used Tryz.underlying35 Tryz.underlying4 (zeroBool16 _) HWZ.out false HND2.out ?_))
              | (at_mapUpdate;go_loud (refine wpList_set_put zr 35 _ _ _ zr 4 bm (z:Int) (.bool true) _ _ [] zr zr zr (plainElem_bool Tryz.underlying4 true) U8.out keyTy_used Tryz.underlying35 HLM.out HWZ.out ?_;intro w10 hs10 hc10 hz10;have S10:=zh hs10;have C10:Hid (Chg (fun k=>k=bm) wc w10):=zh (C8.out.trans hc10 fun k hk=>.inl hk);clear hs10 hc10 hz10)))
             go_roundw
             case rel=>exact ⟨i+1,by omega,by go_num,S10.out.alike (fun c=>by rw [HSU.out];simp [or_comm]) (by rw [HSU.out];simp),C10.out⟩
             case measure=>simp [intOf];omega
            ·have hge3:¬ (i:Int) < (nP:Int):=by omega
             have BW5:Hid (Below w5.heap.size w5 wr):=zh (CX.out.below BC.out (fun k e=>by rw [e,BME.out];exact Nat.le_refl _) BC.out.size)
             have LP:=zh (LI5.out.below BW5.out)
             have A21P:=zh (A21C.out.chg CX.out (by have:=BMR.out;omega))
             have A24P:=zh (A24.out.chg CX.out (by have:=BMR.out;have:=L21.out;have:=G24.out;omega))
             have FLT:Hid (∀ k,F k→k < w5.heap.size):=zh (pst_lt LI5.out.st)
             have L21R:Hid (b21 < wr.heap.size):=zh A21P.out.lt
             have L24R:Hid (b24 < wr.heap.size):=zh A24P.out.lt
             have ok5:Ok6 500 s:=HI.out.o.mono (by omega)
             have hpq:∀ x∈PT,x.1 < s.n∧x.2.length=256:=fun x hx=>by have:=PFP.out x hx;rw [HI.out.n];exact this
             have lay:=plays14_any PT (.slice ap nP cp) wr LP.out.st ok5 (by have h:=WPX.out;rw [NPE.out] at h ⊢;exact h) (fun k hk hf=>by have:=FLT.out k hf;have:=W5R.out;have:=L21.out;omega) (by rw [←NPE.out];omega) hpq
             have okl:=ok_lay HI.out.o PT hpq
             rw [←NPE.out] at okl
             obtain ⟨B',rd',ic1,ic2⟩:=ILY.out (by have h:=okl;rw [NPE.out] at h;exact h)
             have LAY:=zh lay;have OKL:=zh okl;have RD':=zh rd';have IC1:=zh ic1;have IC2:=zh ic2
             clear ok5 hpq lay okl rd' ic1 ic2 hi hlt3 UX WPX WP UC A21C A24 BC CX BW5 PUN PPL ILY B7 L7
             go_wp2_with fail
             refine LAY.out.mono ?_
             rintro e w10 ⟨rfl,hse⟩
             obtain ⟨F',hF',hl10⟩:=LP.out.lay hse
             have A2110:=zh (A21P.out.chg hse.c (fun hf=>by have:=FLT.out _ hf;have:=W5R.out;omega))
             have A2410:=zh (A24P.out.chg hse.c (fun hf=>by have:=FLT.out _ hf;have:=W5R.out;have:=L21.out;have:=G24.out;omega))
             have L10:=zh hl10
             have FLT':Hid (∀ k,F' k→k < w10.heap.size):=zh (pst_lt hl10.st)
             have WR10:Hid (wr.heap.size≤w10.heap.size):=zh hse.c.size
             clear hse hF' hl10 LAY LP A21P A24P FLT hge3
             have K10:Hid (At w10 bk KC 22):=zh (K1.out.below L10.out.bl K1.out.lt)
             have S10:Hid (At w10 bs PS 26):=zh (by rw [HPS.out];exact L10.out.sp)
             have B010:Hid (Below w.heap.size w w10):=zh (B01.out.trans (L10.out.bl.mono B01.out.size))
             have wh:=pwhole14_own key p r w10 (HT.out.below B010.out) LK.out L10.out.st (OKL.out.mono (by omega)) RD'.out h0 (by omega) RWF.out
             rw [WHL.out B' IC1.out] at wh
             have wh2:Calls Tryz.prog 15 #[.pointer none,rq st,.agg KC,.agg PS,.agg RC] w10 (WhOwn w10 (R,P,0)):=by rw [HKC.out,HPS.out,HRC.out];exact wh
             have WH:=zh wh2
             clear wh wh2
             go_wp2_with (first
              | (refine wpList_load_all zr 22 _ zr bk zr _ Tryz.underlying22 zr KC _ K10.out (by rw [KS.out];kernel_rfl) ?_)
              | (refine wpList_load_all zr 26 _ zr bs zr _ Tryz.underlying26 zr PS _ S10.out (by rw [CS.out];exact infoPS) ?_)
              | (refine wpList_load_all zr 38 _ zr b21 zr _ Tryz.underlying38 zr RC _ A2110.out (by rw [RS.out];exact infoRfP) ?_))
             refine WH.out.mono ?_
             rintro e w11 ⟨vr2,vp2,rfl,_,⟨D2,hs2,he2,hrow2,_⟩,_,hb11⟩
             have hl11:=L10.out.below hb11
             have lk1:=like16_any P vp2 (.slice (some ⟨ga,0,none⟩) p p) w11 (own_sls he2 hrow2) hl11.sls (by rw [IC1.out.lp];omega) (fun x hx=>by rw [IC1.out.len x hx];omega)
             have LIKE:=zh lk1;have L11:=zh hl11
             have A2111:=zh (A2110.out.below hb11 A2110.out.lt);have A2411:=zh (A2410.out.below hb11 A2410.out.lt)
             have W11:Hid (w10.heap.size≤w11.heap.size):=zh hb11.size
             clear he2 hrow2 hb11 hl11 lk1 WH K10 S10 A2110 A2410 L10 IC1 WHL
             go_wp2_with fail
             refine LIKE.out.mono ?_
             rintro e w12 ⟨rfl,hb12⟩
             have L12:=zh (L11.out.below hb12)
             have A2112:=zh (A2111.out.below hb12 A2111.out.lt);have A2412:=zh (A2411.out.below hb12 A2411.out.lt)
             have B12:Hid (Below w.heap.size w w12):=zh (B01.out.trans (L12.out.bl.mono B01.out.size))
             have SC12:Hid (SlCh w12 (.slice ac nC cc) C):=zh (SCW.out.below B12.out)
             have W12:Hid (w10.heap.size≤w12.heap.size):=zh (Nat.le_trans W11.out hb12.size)
             clear hb12 L11 A2111 A2411 LIKE
             go_wp2_with fail
             refine (rising16_any C (.slice ac nC cc) p w12 SC12.out C20.out h0 (by omega)).mono ?_
             rintro e w13 ⟨v',Dr,ws,rfl,hol,hdr,hb13⟩
             rw [←HCR.out] at hol
             obtain ⟨av,cv,hv⟩:=rows_hd hol.o
             subst hv
             have L13:=L12.out.below hb13
             have hg12:ga < w12.heap.size:=(World.ownsRow.lt L12.out.po ga rfl).2
             have hFD:∀ k,F' k→k < w12.heap.size:=fun k hk=>Nat.lt_of_lt_of_le (FLT'.out k hk) W12.out
             have L13':=zh (L13.grow (E:=Dr) fun k hk=>⟨(hol.d k hk).1,fun e=>by
              have e:some ga=some k:=e
              injection e with e
              have:=hdr k hk
              omega,fun hf=>by have:=hFD k hf;have:=hdr k hk;omega⟩)
             have A2113:=zh (A2112.out.below hb13 A2112.out.lt);have A2413:=zh (A2412.out.below hb13 A2412.out.lt)
             have HOL:=zh hol;have HDR:=zh hdr;have G12:=zh hg12
             have HRW:Hid (∀ k,(Value.slice av CR.length cv).ownBlock=some k→w12.heap.size≤k∧k < w13.heap.size):=zh fun k hk=>World.ownsRow.lt hol.o k hk
             obtain ⟨nR,hnR⟩:∃ n,n=CR.length:=⟨_,rfl⟩
             rw [←hnR] at HOL HRW ⊢
             have NRE:=zh hnR
             have W13:Hid (w10.heap.size≤w13.heap.size):=zh (Nat.le_trans W12.out hb13.size)
             have W123:Hid (w12.heap.size≤w13.heap.size):=zh hb13.size
             have nrp:nR≤14:=by have:=CRK.out;omega
             clear hol hdr hb13 L13 hg12 hFD L12 A2112 A2412 SC12 hnR
             have NPZ:Hid (newP p P (CR.take 0)=P):=zh (by rw [List.take_zero];exact newP_zero IC.out.lp)
             go_wp2_with fail
             go_loopw [180] (fun vi wx=>∃ i:Nat,i≤nR∧vi=.int .i64 (i:Int)∧∃ hs',LyI w1 wx F' (fun k=>D k∨Dr k) st bs p (layS s PT) (.slice (some ⟨ga,0,none⟩) p p) hs' (newP p P (CR.take i)) (.slice (some ⟨b2,o2,none⟩) m cr) R∧Chg (fun k=>k=ga) w13 wx) (fun vi _=>nR - (intOf vi).toNat)
             case atStart=>exact ⟨0,by omega,rfl,_,by rw [NPZ.out,←HRL.out];exact L13'.out,Chg.refl _ _⟩
             case round=>
              obtain ⟨i,hi,rfl,hs',hl',hc'⟩:=hrel
              have LI':=zh hl';have CG:=zh hc'
              clear hl' hc'
              by_cases hlt4:i < nR
              ·have hlt4':(i:Int) < (nR:Int):=by omega
               have hir:i < CR.length:=by rw [←NRE.out];exact hlt4
               obtain ⟨b3,o3,u3,e3,hl3,c30,c31,hs3⟩:=OwnL.at HOL.out (i:=i) (c:=CR.getD i zch) (by rw [List.getD_eq_getElem?_getD,List.getElem?_eq_getElem hir];rfl)
               subst e3
               have hb3:=HRW.out b3 rfl
               obtain ⟨⟨z0,z1⟩,hx2,_⟩:=CRJ.out i hir
               obtain ⟨z,hz⟩:∃ z:Nat,(CR.getD i zch).1=(z:Int):=⟨(CR.getD i zch).1.toNat,by omega⟩
               have hstp:=newP_step (P:=P) CRJ.out hir hz
               have hk3:=CG.out.block b3 hl3 (by have:=G12.out;omega)
               have d30:=(World.cell?_of_block (w:=w13) (w':=wr) (a:=⟨b3,o3+i*2,none⟩) hk3).trans c30
               have d31:=(World.cell?_of_block (w:=w13) (w':=wr) (a:=⟨b3,o3+i*2+1,none⟩) hk3).trans c31
               rw [hz] at d30
               have hs4:=hs3.keep CG.out.size fun k hk hl=>CG.out.block k hl (by have:=HDR.out k hk;have:=G12.out;omega)
               obtain ⟨y,hy⟩:∃ y,y=(CR.getD i zch).2:=⟨_,rfl⟩
               rw [←hy] at hs4 hx2 hstp
               obtain ⟨a3,cap3,rfl⟩:=hs4.hd
               rw [hx2] at d31
               have hzp:z < p:=by omega
               have hzp':(z:Int) < (p:Int):=by omega
               have b14:Below wr.heap.size wr (wr.alloc (.cells (chRow (z:Int) (.slice a3 256 cap3)) 55)):=(Below.refl _ _).alloc (Nat.le_refl _) _
               have L14:=zh (LI'.out.below b14)
               have A14:=zh (at_new wr (chRow (z:Int) (.slice a3 256 cap3)) 55)
               have C14:Hid (Chg (fun k=>k=ga) w13 (wr.alloc (.cells (chRow (z:Int) (.slice a3 256 cap3)) 55))):=zh (CG.out.trans (F1:=fun _=>False) (Chg.of_below b14) fun _ h=>h.elim)
               have S14:Hid (SlB (fun k=>D k∨Dr k) (wr.alloc (.cells (chRow (z:Int) (.slice a3 256 cap3)) 55)) (.slice a3 256 cap3) y):=zh (by
                have h:=(hs4.keep b14.size fun k _ hl=>b14.block k hl).mono (G:=fun k=>D k∨Dr k) fun k hk _=>.inr hk
                rw [hx2] at h;exact h)
               have STP:=zh hstp
               clear hb3 z0 z1 hx2 hz hstp hk3 c30 c31 hs3 hs4 hy b14 LI' CG
               go_upto_region 48 with (refine wpList_store_new zr 55 _ _ zr zr (chRow (z:Int) (.slice a3 256 cap3)) _ _ zr zr (by exact infoCh16) zr (chRow_one _ _ _ _) ?_)
               clear d30 d31
               obtain ⟨bx,hbx⟩:∃ bx,bx=wr.heap.size:=⟨_,rfl⟩
               rw [←hbx] at A14 ⊢
               clear hbx
               generalize wr.alloc (.cells (chRow (z:Int) (.slice a3 256 cap3)) 55)=w14 at *
               have c0:w14.cell? ⟨bx,0,none⟩=some (.int .i64 (z:Int)):=(A14.out.cell 0).trans rfl
               have c1:w14.cell? ⟨bx,1,none⟩=some (.slice a3 256 cap3):=(A14.out.cell 1).trans rfl
               obtain ⟨g',cap',cur,ev,_,_,hA,hcu,hcl⟩:=L14.out.page (i:=z) (by rw [newP_length];exact hzp)
               injection ev with ev q1 q2
               clear q1 q2
               injection ev with ev
               injection ev with ev q1
               clear q1
               subst ev
               have HA:=zh hA;have HCU:=zh hcu;have HCL:=zh hcl
               clear hA hcu hcl
               go_wp2_with (refine Mem.wpList_store_one zr 31 _ _ zr zr ga z (.slice a3 256 cap3) zr zr zr infoSB16' cur 31 HA.out HCU.out ?_;intro w15 ha15 ho15 hb15;have L15:=zh (HCL.out w15 _ _ ha15 ho15 hb15 S14.out);have C15:Hid (Chg (fun k=>k=ga) w13 w15):=zh (C14.out.trans (chg_one16 ho15 hb15) fun k hk=>.inl hk);clear ha15 ho15 hb15)
               go_roundw
               case rel=>exact ⟨i+1,by omega,by go_num,_,by rw [STP.out];exact L15.out,C15.out⟩
               case measure=>simp [intOf];omega
              ·have hge4:¬ (i:Int) < (nR:Int):=by omega
               have hin:i=CR.length:=by rw [←NRE.out];omega
               have LF:Hid (LyI w1 wr F' (fun k=>D k∨Dr k) st bs p (layS s PT) (.slice (some ⟨ga,0,none⟩) p p) hs' (newP p P CR) (.slice (some ⟨b2,o2,none⟩) m cr) R):=zh (by
                have h:=LI'.out
                rw [hin,newP_all] at h;exact h)
               clear hin hi hlt4
               have A21R:=zh (A2113.out.chg CG.out (by have:=G5A.out;have:=W5R.out;omega))
               have A24R:=zh (A2413.out.chg CG.out (by have:=G5A.out;have:=W5R.out;have:=L21.out;have:=G24.out;omega))
               have WR13:Hid (w13.heap.size≤wr.heap.size):=zh CG.out.size
               have WRX:Hid (w10.heap.size≤wr.heap.size):=zh (Nat.le_trans W13.out CG.out.size)
               have KR:Hid (At wr bk KC 22):=zh (K1.out.below LF.out.bl K1.out.lt)
               have SR:Hid (At wr bs PS 26):=zh (by rw [HPS.out];exact LF.out.sp)
               have B0R:Hid (Below w.heap.size w wr):=zh (B01.out.trans (LF.out.bl.mono B01.out.size))
               have wh:=pwhole14_own key p rn wr (HT.out.below B0R.out) LK.out LF.out.st (OKL.out.mono (by omega)) RD'.out h0 (by omega) RNW.out
               have ew:=IC2.out.whole
               rw [HQI.out,←HRN.out] at ew
               rw [ew] at wh
               have wh2:Calls Tryz.prog 15 #[.pointer none,rq st,.agg KC,.agg PS,.agg RE] wr (WhOwn wr (newR key ep p R CR,newP p P CR,0)):=by rw [HKC.out,HPS.out,HRE.out];exact wh
               have WH:=zh wh2
               clear wh wh2 ew A2113 A2413 LI' CG
               go_wp2_with (first
                | (refine wpList_load_all zr 22 _ zr bk zr _ Tryz.underlying22 zr KC _ KR.out (by rw [KS.out];kernel_rfl) ?_)
                | (refine wpList_load_all zr 26 _ zr bs zr _ Tryz.underlying26 zr PS _ SR.out (by rw [CS.out];exact infoPS) ?_)
                | (refine wpList_load_all zr 38 _ zr b24 zr _ Tryz.underlying38 zr RE _ A24R.out (by rw [RES.out];exact infoRfP) ?_))
               refine WH.out.mono ?_
               rintro e w16 ⟨vr3,vp3,rfl,ho3,⟨D3,hs3,he3,hrow3,_⟩,hw3,hb16⟩
               have hl16:=LF.out.below hb16
               have lk1:=like16_any (newP p P CR) vp3 (.slice (some ⟨ga,0,none⟩) p p) w16 (own_sls he3 hrow3) hl16.sls (by rw [newP_length];omega) (fun x hx=>by rw [newP_len IC.out CRJ.out x hx];omega)
               obtain ⟨a3,c3,hv3⟩:=rows_hd ho3
               rw [newR_length,←HM.out] at hv3
               subst hv3
               have LIKE:=zh lk1;have L16:=zh hl16;have O16:=zh ho3;have W16:=zh hw3
               have A2116:=zh (A21R.out.below hb16 A21R.out.lt);have A2416:=zh (A24R.out.below hb16 A24R.out.lt)
               clear he3 hrow3 hb16 hl16 lk1 WH KR SR A21R A24R LF ho3 hw3
               go_wp2_with fail
               refine LIKE.out.mono ?_
               rintro e w17 ⟨rfl,hb17⟩
               have L17:=zh (L16.out.below hb17)
               have A2117:=zh (A2116.out.below hb17 A2116.out.lt);have A2417:=zh (A2416.out.below hb17 A2416.out.lt)
               have O17:=zh (ownsRow_below O16.out hb17)
               have B17:Hid (Below w.heap.size w w17):=zh (B01.out.trans (L17.out.bl.mono B01.out.size))
               clear hb17 L16 A2116 A2416 O16 LIKE
               go_wp2_with fail
               refine (rising16_any C (.slice ac nC cc) p w17 (SCW.out.below B17.out) C20.out h0 (by omega)).mono ?_
               rintro e w18 ⟨v18,_,_,rfl,hol,_,hb18⟩
               rw [←HCR.out] at hol
               obtain ⟨av18,cv18,hv18⟩:=rows_hd hol.o
               rw [←NRE.out] at hv18
               subst hv18
               have L18:=zh (L17.out.below hb18)
               have A2118:=zh (A2117.out.below hb18 A2117.out.lt);have A2418:=zh (A2417.out.below hb18 A2417.out.lt)
               have O18:=zh (ownsRow_below O17.out hb18)
               have LFIN:Hid (LyR w1 w18 F' (fun k=>D k∨Dr k) st bs p (layS s PT) (.slice (some ⟨ga,0,none⟩) p p) hs' (newP p P CR) (.slice a3 m c3) (newR key ep p R CR) B' key (20+20*(j+1))):=zh ⟨L18.out.refs (Nat.le_trans L13'.out.bl.size WR13.out) O18.out W16.out (fun k hk hf=>by have:=(World.ownsRow.lt O18.out k hk).1;have:=FLT'.out k hf;have:=WRX.out;omega),IC2.out,RD'.out,OKL.out.mono (by omega),HI.out.n⟩
               have RELN:Hid (∃ F D s hs P R B,LyR w1 w18 F D st bs p s (.slice (some ⟨ga,0,none⟩) p p) hs P (.slice a3 m c3) R B key (20+20*(j+1))):=zh ⟨_,_,_,_,_,_,_,LFIN.out⟩
               clear hol hb18 L17 A2117 A2417 O17 LFIN
               by_cases hz:nR=0
               ·have hz':(nR:Int)=0:=by omega
                have hre:RE=RC:=by
                 have h:=IRN.out (List.eq_nil_of_length_eq_zero (by rw [←NRE.out];exact hz))
                 rw [HRE.out,HRC.out,h]
                have NQ:Hid (∀ wx x y,(do eqGuard .neq 38 x y (.agg RE) (.agg RC);binOp .neq 38 (.agg RE) (.agg RC):Sem Value).run Tryz.prog wx=.ok (.bool false) wx):=zh fun wx x y=>by rw [hre,HRC.out];exact neqP16_self RWF.out x y wx
                clear hre
                go_wp2_with (first
                 | (refine wpList_unguard zr ?_;refine wpList_load_all zr 38 _ zr b24 zr _ Tryz.underlying38 zr RE _ A2418.out (by rw [RES.out];exact infoRfP) ?_)
                 | (refine wpList_unguard zr ?_;refine wpList_load_all zr 38 _ zr b21 zr _ Tryz.underlying38 zr RC _ A2118.out (by rw [RS.out];exact infoRfP) ?_)
                 | (refine wpList_bin zr .neq 38 38 _ _ (.agg RE) (.agg RC) (.bool false) zr zr zr (fun wx=>NQ.out wx _ _) ?_))
                go_roundw
                case rel=>exact ⟨j+1,by omega,by go_num,RELN.out⟩
                case measure=>simp [intOf];omega
               ·have hz':¬ (nR:Int)=0:=by omega
                go_wp2_with fail
                go_roundw
                case rel=>exact ⟨j+1,by omega,by go_num,RELN.out⟩
                case measure=>simp [intOf];omega
      ·have hge:¬ (j:Int) < (nL:Int):=by omega
       go_wp2_with fail
       refine (LIVE.out _ BQ.out).mono ?_
       rintro e wz ⟨rfl,hbz⟩
       have BZ:Hid (Below w.heap.size w wz):=zh (BQ.out.trans (hbz.mono BQ.out.size))
       clear hbz
       go_wp2_with fail
       go_ret
       exact ⟨rfl,BZ.out⟩
end Sha
end Go.Proofs.YtlhnegbjoncieaaGreatDoor
