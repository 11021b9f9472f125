/- My own texts, merged. -/
import Derived.Test.YtplmfmpbkjnbaaaGreatDoorBQ34
import Derived.Test.YtplmfmpbkjnbaaaGreatDoorBQ32
import Derived.Test.YtplmfmpbkjnbaaaGreatDoorBQ24
import Derived.Test.YtplmfmpbkjnbaaaGreatDoorBQ02
import Derived.Test.YtplmfmpbkjnbaaaGreatDoorBQ33
import Derived.Test.YtplmfmpbkjnbaaaGreatDoorBQ35
set_option maxRecDepth 100000
set_option maxHeartbeats 8000000
namespace Go.Proofs.YtplmfmpbkjnbaaaGreatDoor
namespace Sha
open Go.RowKit Mem
set_option maxRecDepth 100000
theorem zeroSRf (w:World):(zeroValue 60).run Tryz.prog w=.ok (.slice none 0 0) w:=by kernel_rfl
section
variable {w1 w:World} {bd bm:Nat} {f:Int→Option Value} {key:Lb8} {ep:BitVec 32} {p:Nat} {root:RefV} {Q:Nat→Prop} {M:Nat→List RefV} {vp:Value} {D:Foot} {ws:List (Nat × Value)} {L:List (Nat × Lb8)}
theorem prefRoot_any (h:DrI w1 w bd bm f key ep p root Q M vp D ws L) (h1:p≤216) (i:Nat) (hz:PZ p (i:Int)=(0,0,false)):Calls Tryz.prog 99 #[.pointer (some ⟨bd,0,none⟩),.int .i64 (i:Int)] w fun e w'=>e=.returned (.pointer (some ⟨bd,35,none⟩))∧Below w.heap.size w w':=by
 have pr:=fun wx=>pparent_any p (i:Int) wx h1
 rw [hz] at pr
 have hsh:=h.cells.shp
 have cs:(psC p).size=1:=rfl
 obtain ⟨C,hC⟩:∃ C,C=psC p:=⟨_,rfl⟩
 rw [←hC] at pr hsh cs
 have PR:=zh pr;have SH:=zh hsh;have CS:=zh cs
 clear pr hsh cs hC hz h
 go_enter Tryz.func99,Tryz.ntmps99
 go_wp2_with (refine wpList_load_mid zr 31 _ zr bd 34 zr C.toList _ SH.out Tryz.underlying31 zr (by rw [infoPS,Array.length_toList,CS.out]) ?_;rw [Array.toArray_toList])
 refine (PR.out _).mono ?_
 rintro e w2 ⟨rfl,hb2⟩
 have B2:=zh hb2
 clear hb2
 go_wp2_with fail
 go_ret
 exact ⟨rfl,B2.out⟩
theorem prefSlot_any (h:DrI w1 w bd bm f key ep p root Q M vp D ws L) (h1:p≤216) (i q t:Nat) (hz:PZ p (i:Int)=((q:Int),(t:Int),true)) (g n cap:Nat) (hq:q≤1000) (hv:f (q:Int)=some (.slice (some ⟨g,0,none⟩) n cap)) (ht:t < n) (_hn:n≤6) :
 Calls Tryz.prog 99 #[.pointer (some ⟨bd,0,none⟩),.int .i64 (i:Int)] w fun e w'=>e=.returned (.pointer (some ⟨g,0+t*34,none⟩))∧Below w.heap.size w w':=by
 have pr:=fun wx=>pparent_any p (i:Int) wx h1
 rw [hz] at pr
 have hsh:=h.cells.shp
 have hcm:=h.cells.map
 have hbl:=h.row.lt
 obtain ⟨nm,hm,_⟩:=h.mp.m
 have cs:(psC p).size=1:=rfl
 obtain ⟨C,hC⟩:∃ C,C=psC p:=⟨_,rfl⟩
 rw [←hC] at pr hsh cs
 have hfq:(f (q:Int)).getD (.slice none 0 0)=.slice (some ⟨g,0,none⟩) n cap:=by rw [hv];rfl
 have PR:=zh pr;have SH:=zh hsh;have CS:=zh cs;have CM:=zh hcm;have HM:=zh hm;have FQ:=zh hfq;have BL:=zh hbl;have WQ:=zh (wfI_nat q (by omega))
 have ht':(t:Int) < (n:Int):=by omega
 clear pr hsh cs hC hz h hcm hm hfq hv hbl
 go_enter Tryz.func99,Tryz.ntmps99
 go_wp2_with (refine wpList_load_mid zr 31 _ zr bd 34 zr C.toList _ SH.out Tryz.underlying31 zr (by rw [infoPS,Array.length_toList,CS.out]) ?_;rw [Array.toArray_toList])
 refine (PR.out _).mono ?_
 rintro e w2 ⟨rfl,hb2⟩
 have B2:=zh hb2;have M2:=zh (HM.out.below hb2 HM.out.lt)
 have cm:w2.cell? ⟨bd,69,none⟩=some (.map (some bm)):=(cell_keep hb2 BL.out).trans CM.out
 clear hb2
 go_wp2_with (at_lookup;refine wpList_mapV_look zr 133 _ _ zr 60 M2.out (q:Int) zr zr uInt16 uRf16 (.slice none 0 0) (zeroSRf _) WQ.out (.slice (some ⟨g,0,none⟩) n cap) FQ.out ?_)
 go_ret
 exact ⟨by first | rfl | simp,B2.out⟩
end
end Sha
end Go.Proofs.YtplmfmpbkjnbaaaGreatDoor
namespace Go.Proofs.YtplmfmpbkjnbaaaGreatDoor
namespace Sha
open Go.RowKit Mem
set_option maxRecDepth 100000
def DrF (bd:Nat) (vp:Value) (f:Int→Option Value) (Q:Nat→Prop):Foot:=fun k=>k=bd∨vp.ownBlock=some k∨∃ q v,Q q∧f (q:Int)=some v∧v.ownBlock=some k
def HdEnd (w1 w:World) (bd bm:Nat) (f:Int→Option Value) (key:Lb8) (ep:BitVec 32) (p:Nat) (root:RefV) (Q:Nat→Prop) (M:Nat→List RefV) (vp:Value) (D:Foot) (L:List (Nat × Lb8)) (e:Ending) (w':World):Prop:=
 e=.returned (.int .i64 0)∧(∃ vp' D' ws',DrI w1 w' bd bm f key ep p root Q M vp' D' ws' L∧∀ k,D' k→D k∨w.heap.size≤k)∧Chg (DrF bd vp f Q) w w'
section
variable {w1 w:World} {bd bm:Nat} {f:Int→Option Value} {key:Lb8} {ep:BitVec 32} {p:Nat} {root:RefV} {Q:Nat→Prop} {M:Nat→List RefV} {vp:Value} {D:Foot} {ws:List (Nat × Value)} {L:List (Nat × Lb8)}
theorem phide16_core (h:DrI w1 w bd bm f key ep p root Q M vp D ws L) (hT:TT w1) (h1:p≤216) (i:Nat) (hi:i < itn p) (pg:Lb8) (v:Value) (hv:Sl w v pg) (hp:pg.length=256) (old:RefV) (hpl:0≤old.pl∧old.pl≤1) (hL:L.length≤1000)
 (g o:Nat) (C:Array Value) (t:TypeId) (hC:At w g C t) (hfit:o+34≤C.size) (hrg:w.rangeAt g o (refL old)) (hgF:DrF bd vp f Q g)
 (href:Calls Tryz.prog 99 #[.pointer (some ⟨bd,0,none⟩),.int .i64 (i:Int)] w fun e w'=>e=.returned (.pointer (some ⟨g,o,none⟩))∧Below w.heap.size w w')
 (q:Nat) (hq:(q:Int)=2+2*(i:Int)+(1 - old.pl)) (x:Lb8) (r:RefV) (hh:hideR key ep (1 - old.pl) (q:Int) pg=(x,r,0)) (root':RefV) (M':Nat→List RefV)
 (hset:∀ w',DrI w1 w' bd bm f key ep p root Q M vp D ws L→At w' g C t→DrI w1 (w'.setRow g (Mem.splice C o (refL r))) bd bm f key ep p root' Q M' vp D ws L) :
 Calls Tryz.prog 54 #[.pointer (some ⟨bd,0,none⟩),.int .i64 (i:Int),v] w (HdEnd w1 w bd bm f key ep p root' Q M' vp D (L++[(q,x)])):=by
 have hit:=itn_le259 p h1
 have bk0:=fun wx=>pblock_any p (i:Int) (1 - old.pl) wx h1
 have hbz:BZ p (i:Int) (1 - old.pl)=(q:Int):=by unfold BZ;rw [if_pos ⟨⟨by omega,by omega⟩,by omega,by omega⟩,hq]
 rw [hbz] at bk0
 have hrw:r.Wf:=by have:=hideR_wf key ep (1 - old.pl) (q:Int) pg;rw [hh] at this;exact this
 have hlen:x.length=256:=by
  have hg:=hideR_good key ep (1 - old.pl) (q:Int) pg hp (by omega) (by omega) (by omega)
  rw [hh] at hg
  injection hg with hg _
  rw [hg]
  exact (sealL_length ..).trans hp
 have hd:=fun wx (hb:Below w1.heap.size w1 wx) (hs:Sl wx v pg)=>phide_any (F:=fun _=>False) (bp:=.pointer none) (ts:=[]) key h.kl ep (1 - old.pl) (q:Int) (by omega) pg v wx w1 (.inl ⟨rfl,fun _ h=>h⟩) (by simp) hs (by omega) hT.1 hT.2 hb (fun _ h=>h.elim)
 rw [hh] at hd
 have hd:∀ wx:World,Below w1.heap.size w1 wx→Sl wx v pg→Calls Tryz.prog 100 #[.pointer none,.agg (u8s key).toArray,.int .u32 (V ep),.int .i64 (1 - old.pl),.int .i64 (q:Int),v] wx fun e w'=>∃ v',e=.returned (.tuple #[v',.agg (refC r),.int .i64 0])∧SlB (fun k=>wx.heap.size≤k∧k < w'.heap.size) w' v' x∧Below wx.heap.size wx w':=fun wx hb hs=>by
  refine (hd wx hb hs).mono ?_
  rintro e w' ⟨v',F',h4,h5,_,_,h6⟩
  exact ⟨v',h4,h5.mono fun k hk hl=>⟨hk.1,hl⟩,chg_none h6⟩
 have dc:=h.cells
 have hcp:w.cell? ⟨g,o,none⟩=some (.int .i64 old.pl):=range_pl hrg
 obtain ⟨opl,hopl⟩:∃ k,k=old.pl:=⟨_,rfl⟩
 rw [←hopl] at hcp bk0 hd hpl
 obtain ⟨ap,cp,hvp⟩:=rows_hd h.po
 subst hvp
 obtain ⟨nL,hnL⟩:∃ n,n=L.length:=⟨_,rfl⟩
 have hkc:w.rangeAt bd 1 (u8s key).toArray.toList:=dc.key
 have kc:(u8s key).toArray.size=32:=by simp [u8s_length,h.kl]
 obtain ⟨KC,hKC⟩:∃ K,K=(u8s key).toArray:=⟨_,rfl⟩
 have cs:(psC p).size=1:=rfl
 have hsh:=dc.shp
 obtain ⟨CS,hCS⟩:∃ C,C=psC p:=⟨_,rfl⟩
 have rs:=refC_size hrw;have ro:=refC_one r
 have hrm:refL r=(refC r).toList:=rfl
 obtain ⟨MR,hMR⟩:∃ M,M=refC r:=⟨_,rfl⟩
 have hx:=zeroRfP
 have al:∀ wx:World,(Instr.alloc 46 true (.tuple #[])).run Tryz.prog wx=.ok (.pointer (some ⟨wx.heap.size,0,none⟩)) (wx.alloc (.cells (refC zref) 46)):=fun wx=>by kernel_rfl
 have zs:(refC zref).size=34:=refC_size zref_wf
 obtain ⟨Z,hZ⟩:∃ Z,Z=refC zref:=⟨_,rfl⟩
 rw [←hKC] at hkc kc hd
 rw [←hCS] at hsh cs bk0
 rw [←hMR] at rs ro hrm hd
 rw [←hZ] at hx al zs
 have hbdl:=h.row.lt
 have BK:=zh bk0;have HD:=zh hd;have XL:=zh hlen;have CB:=zh dc.book;have CE:=zh dc.ep;have CK:=zh hkc;have SH:=zh hsh;have CSZ:=zh cs;have KS:=zh kc;have MS:=zh rs;have MO:=zh ro;have ZS:=zh zs;have AL:=zh al
 have H0:=zh h;have V0:=zh hv;have HC0:=zh hC;have HFIT:=zh hfit;have HSET:=zh hset;have HRM:=zh hrm;have NL:=zh hnL;have BL:=zh hbdl;have CP:=zh hcp;have RF:=zh href;have HGF:=zh hgF
 obtain ⟨av,cv,rfl⟩:=sl_inv hv
 rw [hp] at V0 HD ⊢
 clear bk0 hd hlen dc hkc hsh cs kc rs ro zs al h hC hfit hset hrm hnL hbdl hcp href hv hh hKC hCS hMR hZ hx hopl hbz hq hrw hrg hT hp hit hi hgF
 go_enter Tryz.func54,Tryz.ntmps54
 go_wp2_with fail
 refine RF.out.mono ?_
 rintro e w2 ⟨rfl,hb2⟩
 have B2:=zh hb2
 have c0:w2.cell? ⟨g,o,none⟩=some (.int .i64 opl):=(cell_keep hb2 HC0.out.lt).trans CP.out
 clear hb2
 go_wp2_with (refine wpList_load_mid zr 31 _ zr bd 34 zr CS.toList _ (range_block SH.out (B2.out.block bd BL.out)) Tryz.underlying31 zr (by rw [infoPS,Array.length_toList,CSZ.out]) ?_;rw [Array.toArray_toList])
 refine (BK.out _).mono ?_
 rintro e w4 ⟨rfl,hb4⟩
 have B4:Hid (Below w.heap.size w w4):=zh (B2.out.trans (hb4.mono B2.out.size))
 clear hb4 c0 B2
 have CB:=zh ((cell_keep B4.out BL.out).trans CB.out);have CE:=zh ((cell_keep B4.out BL.out).trans CE.out);have CK:=zh (range_block CK.out (B4.out.block bd BL.out));have BL4:Hid (bd < w4.heap.size):=zh (Nat.lt_of_lt_of_le BL.out B4.out.size);have V4:=zh (V0.out.below B4.out)
 have HD:Hid (∀ wx:World,Below w4.heap.size w4 wx→Sl wx (.slice av 256 cv) pg→Calls Tryz.prog 100 #[.pointer none,.agg KC,.int .u32 (V ep),.int .i64 (1 - opl),.int .i64 (q:Int),.slice av 256 cv] wx fun e w'=>∃ v',e=.returned (.tuple #[v',.agg MR,.int .i64 0])∧SlB (fun k=>wx.heap.size≤k∧k < w'.heap.size) w' v' x∧Below wx.heap.size wx w'):=zh (fun wx hb hs=>HD.out wx ((H0.out.b.trans (B4.out.mono H0.out.b.size)).trans (hb.mono (Nat.le_trans H0.out.b.size B4.out.size))) hs)
 obtain ⟨M,hM⟩:∃ M,M=MR:=⟨_,rfl⟩
 rw [←hM] at HD MS MO HRM
 clear hM
 go_upto_region 4 with fail
 go_cut [10,11,12] (fun s t u wx=>∃ bl a3 c3,.slice a3 256 c3=s∧.pointer (some ⟨bl,0,none⟩)=t∧u=.int .i64 0∧At wx bl M 46∧SlB (fun k=>w4.heap.size≤k∧k < wx.heap.size∧k≠bl) wx (.slice a3 256 c3) x∧w4.heap.size≤bl∧Below w4.heap.size w4 wx)
 case first=>
  have D0:Hid (Below w4.heap.size w4 w4.drew):=zh (Below.refl _ _).drew
  refine wp_region_plan_in (fun x'=>Below w4.heap.size w4 x') (.take 0 (.take 1 (.take 2 (.take 3 (.take 4 (.take 5 (.take 6 (.take 7 (.take 8 (.take 9 (.take 10 (.take 11 (.take 12 (.take 13 (.take 14 (.two 15 20 (.take 16 (.take 17 (.take 18 (.take 19 (.sole 20 (.take 21 (.sole 22 (.take 23 .done)))))))) (.sole 15 (.take 16 (.take 17 (.take 18 (.take 19 (.take 21 (.sole 22 (.take 23 .done)))))))))))))))))))))))) (by kernel_rfl) (by kernel_rfl) (by kernel_rfl) D0.out ?_
  (first | refine Mem.pm1 ?_ | refine Mem.pm2 ?_ | refine Mem.pt ?_ | refine Mem.pf ?_)
  (simp only [Mem.zp,Mem.pb,Mem.pc])
  refine plan_nilcheck _ ⟨bd,0,none⟩ zr zr zr ze ?_
  (simp only [Mem.zp,Mem.pb,Mem.pc])
  refine plan_field 136 _ 0 bd 0 ⟨bd,0,none⟩ zr zr zr ze (fun wx=>by go_simp) ?_
  (simp only [Mem.zp,Mem.pb,Mem.pc])
  refine plan_cell 112 _ _ (.pointer none) _ zr zr zr ze (fun w' hw'=>(cell_keep hw' BL4.out).trans CB.out) Tryz.underlying112 zr ?_
  (simp only [Mem.zp,Mem.pb,Mem.pc])
  (first | refine Mem.pm1 ?_ | refine Mem.pm2 ?_ | refine Mem.pt ?_ | refine Mem.pf ?_)
  (simp only [Mem.zp,Mem.pb,Mem.pc])
  refine plan_nilcheck _ ⟨bd,0,none⟩ zr zr zr ze ?_
  (simp only [Mem.zp,Mem.pb,Mem.pc])
  refine plan_field 136 _ 1 bd 0 ⟨bd,1,none⟩ zr zr zr ze (fun wx=>by go_simp) ?_
  (simp only [Mem.zp,Mem.pb,Mem.pc])
  refine plan_load_range 22 _ bd (1) _ KC zr zr zr ze (fun w' hw'=>range_block CK.out (hw'.block bd BL4.out)) Tryz.underlying22 zr (by rw [KS.out];kernel_rfl) ?_
  (simp only [Mem.zp,Mem.pb,Mem.pc])
  (first | refine Mem.pm1 ?_ | refine Mem.pm2 ?_ | refine Mem.pt ?_ | refine Mem.pf ?_)
  (simp only [Mem.zp,Mem.pb,Mem.pc])
  refine plan_nilcheck _ ⟨bd,0,none⟩ zr zr zr ze ?_
  (simp only [Mem.zp,Mem.pb,Mem.pc])
  refine plan_field 136 _ 2 bd 0 ⟨bd,33,none⟩ zr zr zr ze (fun wx=>by go_simp) ?_
  (simp only [Mem.zp,Mem.pb,Mem.pc])
  refine plan_cell 23 _ _ (.int .u32 (V ep)) _ zr zr zr ze (fun w' hw'=>(cell_keep hw' BL4.out).trans CE.out) Tryz.underlying23 zr ?_
  (simp only [Mem.zp,Mem.pb,Mem.pc])
  iterate 3 ((first | refine Mem.pm1 ?_ | refine Mem.pm2 ?_ | refine Mem.pt ?_ | refine Mem.pf ?_);(simp only [Mem.zp,Mem.pb,Mem.pc]))
  refine plan_two ?_ ?_
  ·refine plan_call 100 _ _ _ (by kernel_rfl) zr zr zr (by first | exact Mem.ev_none _ | (simp only [List.map_toArray,List.map_cons,List.map_nil,Mem.ev_tmp,List.getD_cons_succ,List.getD_cons_zero] <;> rfl)) ?_
   refine (HD.out _ D0.out (V4.out.below D0.out)).mono ?_
   rintro e' z1 ⟨v7,rfl,hs,hb⟩
   obtain ⟨a7,c7,e7⟩:=sl_inv hs.sl
   rw [XL.out] at e7
   subst e7
   have HS:=zh hs
   have Dz1:Hid (Below w4.heap.size w4 z1):=zh (D0.out.trans (hb.mono D0.out.size))
   have Qz1:=zh hb
   clear hs hb
   refine ⟨_,rfl,Dz1.out,?_⟩
   (simp only [Mem.zp,Mem.pb,Mem.pc])
   (first | refine Mem.pm1 ?_ | refine Mem.pm2 ?_ | refine Mem.pt ?_ | refine Mem.pf ?_)
   (simp only [Mem.zp,Mem.pb,Mem.pc])
   refine plan_extract _ _ #[.slice a7 256 c7,.agg M,.int .i64 0] (.slice a7 256 c7) zr zr zr ze zr ?_
   (simp only [Mem.zp,Mem.pb,Mem.pc])
   refine plan_extract _ _ #[.slice a7 256 c7,.agg M,.int .i64 0] (.agg M) zr zr zr ze zr ?_
   (simp only [Mem.zp,Mem.pb,Mem.pc])
   refine plan_extract _ _ #[.slice a7 256 c7,.agg M,.int .i64 0] (.int .i64 0) zr zr zr ze zr ?_
   (simp only [Mem.zp,Mem.pb,Mem.pc])
   refine plan_alloc _ Z zr zr zr AL.out (Dz1.out.alloc Dz1.out.size _) ?_
   have D3:Hid (Below w4.heap.size w4 (z1.alloc (.cells Z 46))):=zh (Dz1.out.alloc Dz1.out.size _)
   have AG:=zh (at_new z1 Z 46)
   have GE:Hid (w4.heap.size≤z1.heap.size):=zh Dz1.out.size
   have HS3:Hid (SlB (fun k=>w4.heap.size≤k∧k < z1.heap.size+1∧k≠z1.heap.size) (z1.alloc (.cells Z 46)) (.slice a7 256 c7) x):=zh ((HS.out.keep (by simp) fun k _ hl=>((Below.refl z1.heap.size z1).alloc (Nat.le_refl _) _).block k hl).mono fun k hk hl=>⟨hk.1,by have:=hk.2;omega,by have:=hk.2;omega⟩)
   (simp only [Mem.zp,Mem.pb,Mem.pc])
   (first | refine Mem.pm1 ?_ | refine Mem.pm2 ?_ | refine Mem.pt ?_ | refine Mem.pf ?_)
   (simp only [Mem.zp,Mem.pb,Mem.pc])
   refine plan_store 46 _ _ (z1.heap.size) M Z 46 zr zr zr zr ze ze (by rw [MS.out];exact infoRfP) AG.out (by rw [MS.out,ZS.out]) MO.out (below_row D3.out GE.out M) ?_
   (first | refine Mem.pm1 ?_ | refine Mem.pm2 ?_ | refine Mem.pt ?_ | refine Mem.pf ?_)
   (simp only [Mem.zp,Mem.pb,Mem.pc])
   refine plan_nil ?_
   go_wp2_with fail
   go_meet
   exact ⟨_,_,_,rfl,rfl,rfl,At.row (C:=Z) AG.out M,(HS3.out.keep (by simp) fun k hk _=>setRow_other _ _ k _ hk.2.2).mono fun k hk _=>⟨hk.1,by simpa using hk.2.1,hk.2.2⟩,GE.out,below_row D3.out GE.out M⟩
  ·refine plan_alloc _ Z zr zr zr AL.out (D0.out.alloc D0.out.size _) ?_
   have D2:Hid (Below w4.heap.size w4 (w4.drew.alloc (.cells Z 46))):=zh (D0.out.alloc D0.out.size _)
   have AG:=zh (at_new w4.drew Z 46)
   have GE:Hid (w4.heap.size≤w4.drew.heap.size):=zh (Nat.le_refl _)
   have SZ:Hid ((w4.drew.alloc (.cells Z 46)).heap.size=w4.drew.heap.size+1):=zh (by simp)
   (simp only [Mem.zp,Mem.pb,Mem.pc])
   refine plan_call 100 _ _ _ (by kernel_rfl) zr zr zr (by first | exact Mem.ev_none _ | (simp only [List.map_toArray,List.map_cons,List.map_nil,Mem.ev_tmp,List.getD_cons_succ,List.getD_cons_zero] <;> rfl)) ?_
   refine (HD.out _ D2.out (V4.out.below D2.out)).mono ?_
   rintro e' z1 ⟨v7,rfl,hs,hb⟩
   obtain ⟨a7,c7,e7⟩:=sl_inv hs.sl
   rw [XL.out] at e7
   subst e7
   have HS:=zh hs
   have Dz1:Hid (Below w4.heap.size w4 z1):=zh (D2.out.trans (hb.mono D2.out.size))
   have Qz1:=zh hb
   clear hs hb
   refine ⟨_,rfl,Dz1.out,?_⟩
   (simp only [Mem.zp,Mem.pb,Mem.pc])
   (first | refine Mem.pm1 ?_ | refine Mem.pm2 ?_ | refine Mem.pt ?_ | refine Mem.pf ?_)
   (simp only [Mem.zp,Mem.pb,Mem.pc])
   refine plan_extract _ _ #[.slice a7 256 c7,.agg M,.int .i64 0] (.slice a7 256 c7) zr zr zr ze zr ?_
   (simp only [Mem.zp,Mem.pb,Mem.pc])
   refine plan_extract _ _ #[.slice a7 256 c7,.agg M,.int .i64 0] (.agg M) zr zr zr ze zr ?_
   (simp only [Mem.zp,Mem.pb,Mem.pc])
   refine plan_extract _ _ #[.slice a7 256 c7,.agg M,.int .i64 0] (.int .i64 0) zr zr zr ze zr ?_
   (simp only [Mem.zp,Mem.pb,Mem.pc])
   (first | refine Mem.pm1 ?_ | refine Mem.pm2 ?_ | refine Mem.pt ?_ | refine Mem.pf ?_)
   (simp only [Mem.zp,Mem.pb,Mem.pc])
   have AG1:=zh (AG.out.below Qz1.out AG.out.lt)
   refine plan_store 46 _ _ (w4.drew.heap.size) M Z 46 zr zr zr zr ze ze (by rw [MS.out];exact infoRfP) AG1.out (by rw [MS.out,ZS.out]) MO.out (below_row Dz1.out GE.out M) ?_
   (first | refine Mem.pm1 ?_ | refine Mem.pm2 ?_ | refine Mem.pt ?_ | refine Mem.pf ?_)
   (simp only [Mem.zp,Mem.pb,Mem.pc])
   refine plan_nil ?_
   go_wp2_with fail
   go_meet
   exact ⟨_,_,_,rfl,rfl,rfl,At.row (C:=Z) AG1.out M,(HS.out.keep (by simp) fun k hk _=>setRow_other _ _ k _ (by have:=hk.1;have:=SZ.out;omega)).mono fun k hk hl=>⟨by have:=hk.1;have:=SZ.out;have:=GE.out;omega,hl,by have:=hk.1;have:=SZ.out;omega⟩,GE.out,below_row Dz1.out GE.out M⟩
 case rest=>
  obtain ⟨bl,a3,c3,rfl,rfl,rfl,hba,hbs,hbl,hbb⟩:=hcut
  have A5:=zh hba;have S5:=zh hbs;have L5:=zh hbl;have B5:Hid (Below w.heap.size w wc):=zh (B4.out.trans (hbb.mono B4.out.size));have W4:Hid (w.heap.size≤w4.heap.size):=zh B4.out.size
  have H5:=zh (H0.out.below B5.out);have C5:=zh (HC0.out.below B5.out HC0.out.lt)
  clear hba hbs hbl hbb CB CE CK V4 B4
  go_upto_region 8 with (first
   | (refine wpList_load_all zr 46 _ zr bl zr _ Tryz.underlying46 zr M _ A5.out (by rw [MS.out];exact infoRfP) ?_)
   | (refine wpList_store_at zr 46 _ _ zr zr g o M zr zr (by rw [MS.out];exact infoRfP) C _ C5.out (by rw [MS.out];exact HFIT.out) MO.out ?_))
  have H6:Hid (DrI w1 (wc.setRow g (Mem.splice C o M.toList)) bd bm f key ep p root' Q M' (.slice ap L.length cp) D ws L):=zh (by rw [←HRM.out];exact HSET.out wc H5.out C5.out)
  have S6:Hid (SlB (fun k=>w4.heap.size≤k∧k < wc.heap.size∧k≠bl) (wc.setRow g (Mem.splice C o M.toList)) (.slice a3 256 c3) x):=zh (S5.out.keep (by simp) fun k hk _=>setRow_other _ _ k _ (by have:=HC0.out.lt;have:=W4.out;have:=hk.1;omega))
  have K6:Hid (∀ k,k < w.heap.size→k≠g→(wc.setRow g (Mem.splice C o M.toList)).heap[k]?=w.heap[k]?):=zh (fun k hk hne=>by rw [setRow_other _ _ k _ hne];exact B5.out.block k hk)
  have Z6:Hid ((wc.setRow g (Mem.splice C o M.toList)).heap.size=wc.heap.size):=zh (by simp)
  obtain ⟨w6,hw6⟩:∃ y,y=wc.setRow g (Mem.splice C o M.toList):=⟨_,rfl⟩
  rw [←hw6] at H6 S6 K6 Z6 ⊢
  clear hw6
  rw [←NL.out] at H6 ⊢
  have O7:Hid ((w6.alloc (.cells (ptRow q (.slice a3 256 c3)) 70)).ownsRow w1.heap.size 70 2 (.slice ap nL cp) nL (putC ws)):=zh (by
   have h:=World.ownsRow.alloc H6.out.po (.cells (ptRow q (.slice a3 256 c3)) 70)
   rw [←NL.out] at h
   exact h)
  have P7:Hid (At (w6.alloc (.cells (ptRow q (.slice a3 256 c3)) 70)) bd (drC key ep p root' bm (.slice ap nL cp)) 136):=zh (H6.out.row.alloc _)
  have cp0:w6.cell? ⟨bd,70,none⟩=some (.slice ap nL cp):=H6.out.cells.puts
  have B7:Hid (w1.heap.size≤(w6.alloc (.cells (ptRow q (.slice a3 256 c3)) 70)).heap.size):=zh (by have:=H6.out.b.size;simp;omega)
  have Q7:Hid (Below w6.heap.size w6 (w6.alloc (.cells (ptRow q (.slice a3 256 c3)) 70))):=zh ((Below.refl _ _).alloc (Nat.le_refl _) _)
  have BLD:=zh (buildPt q);have BT:=zh (builtPt q)
  go_upto_region 9 with (first
   | (refine Mem.wpList_build zr 70 _ #[(0,.int .i64 (q:Int)),(1,.slice a3 256 c3)] (.agg (ptRow q (.slice a3 256 c3))) zr (by first | rfl | simp [Act.eval]) (fun wx=>BLD.out _ _ _ wx) ?_)
   | ((refine Go.Great.wpList_buildSliceTo zr 44 70 1 _ zr _ zr _ zr Tryz.underlying44 (ptRow q (.slice a3 256 c3)) (by first | (simp [Act.eval,Act.put];exact BT.out _ _ _) | (go_simp;exact BT.out _ _ _) | (simp only [List.map_toArray,List.map_cons,List.map_nil];exact BT.out _ _ _)) ?_))
   | (at_builtin;go_loud (refine wpList_append_app zr _ _ 44 zr (.slice (some ⟨w6.heap.size,0,none⟩) 1 1) nL 1 2 [.int .i64 (q:Int),.slice a3 256 c3] (.agg #[.int .i64 0,.slice none 0 0]) 32 elemPt zr (by decide) zr O7.out zr (by exact rdR_new (e:=70) (C:=ptRow q (.slice a3 256 c3))) (by simp [Value.oneCell']) (by have:=NL.out;omega) (by have:=NL.out;omega) B7.out ?_);intro v8 w8 ho8 ha8 hb8;obtain ⟨a8,c8,rfl⟩:=rows_hd ho8;have O8:=zh ho8;have A8:=zh ha8;have B8:=zh hb8;have P8:=zh (at_appd P7.out ha8 (own_ne_at O7.out P7.out (by decide)));clear ho8 ha8 hb8)
   | (refine Mem.wpList_store_one zr 44 _ _ zr zr bd 70 (.slice a8 (nL+1) c8) zr zr zr infoPts _ 136 P8.out (by rw [drC_size H6.out.kl H6.out.rw];decide) ?_;intro w9 ha9 ho9 hb9;have A9:=zh ha9;have H9:=zh ho9;have B9:=zh hb9;clear ha9 ho9 hb9))
  clear cp0
  have A10:Hid (At w9 bd (drC key ep p root' bm (.slice a8 (nL+1) c8)) 136):=zh (by rw [←dr_puts H6.out.kl H6.out.rw (.slice a8 (nL+1) c8)];exact A9.out)
  have I9:Hid (DrI w1 w9 bd bm f key ep p root' Q M' (.slice a8 (nL+1) c8) (fun k=>D k∨(w4.heap.size≤k∧k < wc.heap.size∧k≠bl)) (ws++[(q,.slice a3 256 c3)]) (L++[(q,x)])):=zh (by
   have hn:=NL.out
   subst hn
   have h0:=H0.out
   refine DrI.put H6.out S6.out (fun k hk=>?_) Q7.out A8.out B8.out O8.out A10.out (fun k hk=>H9.out k hk) (fun B a hb hle=>B9.out B a hb hle)
   have hw:=W4.out
   have hkw:w.heap.size≤k:=Nat.le_trans hw hk.1
   have hb0:=h0.b.size
   have hbd:=h0.row.lt
   have hbm:=h0.mp.lt
   refine ⟨by omega,by have:=Z6.out;omega,by omega,by omega,fun e=>?_,fun q v hq hv e=>?_⟩
   ·have:=(World.ownsRow.lt h0.po k e).2;omega
   ·have:=(h0.mp.ltq hq hv e).2;omega)
  have CH:Hid (Chg (DrF bd (.slice ap nL cp) f Q) w w9):=zh (by
   have b0:=H0.out.b;have b9:=I9.out.b
   have s1:=Q7.out.size;have s2:=A8.out.size;have s3:=(B9.out 0 w8 (Below.refl _ _) (Nat.zero_le _)).size;have s4:=Z6.out;have s5:=B5.out.size
   refine ⟨b9.os.trans b0.os.symm,b9.tape.trans b0.tape.symm,b9.output.trans b0.output.symm,by omega,fun k hk hn=>?_⟩
   have n1:k≠bd:=fun e=>hn (.inl e)
   have n2:(Value.slice ap nL cp).ownBlock≠some k:=fun e=>hn (.inr (.inl e))
   have n3:k≠g:=fun e=>hn (by rw [e,NL.out];exact HGF.out)
   rw [H9.out k n1,A8.out.k k (by omega) n2,Q7.out.block k (by omega),K6.out k hk n3])
  go_wp2_with fail
  go_ret
  exact ⟨rfl,⟨_,_,_,I9.out,fun k hk=>hk.imp id fun g=>Nat.le_trans W4.out g.1⟩,by rw [←NL.out];exact CH.out⟩
end
end Sha
end Go.Proofs.YtplmfmpbkjnbaaaGreatDoor
namespace Go.Proofs.YtplmfmpbkjnbaaaGreatDoor
namespace Sha
open Go.RowKit Mem
set_option maxRecDepth 100000
def QC (p:Nat) (C:List ChV):Nat→Prop:=fun q=>q < itn p∧isN p (pgsC C) q=true
theorem QC.p {p:Nat} {C:List ChV} {q:Nat} (h:QC p C q):p≤q:=((isN_iff p _ q).1 h.2).1
section
variable {w1 w:World} {bd bm:Nat} {f:Int→Option Value} {key:Lb8} {ep:BitVec 32} {p:Nat} {root root':RefV} {Q:Nat→Prop} {M M':Nat→List RefV} {vp:Value} {D:Foot} {ws:List (Nat × Value)} {L L':List (Nat × Lb8)} {N:List NdV} {C:List ChV}
theorem DrI.alike (h:DrI w1 w bd bm f key ep p root Q M vp D ws L) (hr:root'=root) (hM:∀ q,Q q→M' q=M q) (hL:L'=L):DrI w1 w bd bm f key ep p root' Q M' vp D ws L':=by
 subst hr
 subst hL
 exact ⟨h.b,h.gd,h.row,⟨h.mp.m,h.mp.g,fun q hq=>by rw [hM q hq];exact h.mp.own q hq,h.mp.dis⟩,h.e,h.po,h.d,h.kl,h.rw,fun q hq=>by rw [hM q hq];exact h.mw q hq⟩
theorem HdEnd.alike {e:Ending} {w':World} (h:HdEnd w1 w bd bm f key ep p root Q M vp D L e w') (hr:root'=root) (hM:∀ q,Q q→M' q=M q) (hL:L'=L):HdEnd w1 w bd bm f key ep p root' Q M' vp D L' e w':=
 let ⟨he,⟨vp',D',ws',hd,hD⟩,hc⟩:=h
 ⟨he,⟨vp',D',ws',hd.alike hr hM hL,hD⟩,hc⟩
theorem putsC_length (n:Nat):(putsC key ep p root N C n).length≤n:=by
 induction n with
 | zero=>exact Nat.le_refl _
 | succ n ih=>
  rw [putsC_succ,List.length_append]
  have:((selC key ep p root N C n).map fun s=>(blkC p root N n,s.1)).toList.length≤1:=by
   cases selC key ep p root N C n <;> simp
  omega
theorem phide16_any {i:Nat} (G:GoodC p root N C) (h:DrI w1 w bd bm f key ep p (rootC key ep p root N C i) (QC p C) (refsC key ep p root N C i) vp D ws (putsC key ep p root N C i)) (hT:TT w1) (hi:i < itn p) (ht:tchC p C i=true) (pg:Lb8) (hpg:pageC p N C (frL key ep p root N C i) i=some pg) (hp:pg.length=256) (v:Value) (hv:Sl w v pg) :
 Calls Tryz.prog 54 #[.pointer (some ⟨bd,0,none⟩),.int .i64 (i:Int),v] w (HdEnd w1 w bd bm f key ep p (rootC key ep p root N C (i+1)) (QC p C) (refsC key ep p root N C (i+1)) vp D (putsC key ep p root N C (i+1))):=by
 have hit:=itn_le259 p G.h1
 obtain ⟨s1,s2⟩:=sel_ok (key:=key) (ep:=ep) G ht hpg hp
 have ho:=opl_ok G ht
 have hb:=blk_int G ht
 have hL:=putsC_length (key:=key) (ep:=ep) (root:=root) (N:=N) (C:=C) (p:=p) i
 have hputs:=putsC_some s2
 obtain ⟨x,hx⟩:∃ x,x=sealL key ep (blkC p root N i:Nat) pg:=⟨_,rfl⟩
 rw [←hx] at s1 s2 hputs
 obtain ⟨r,hr⟩:∃ r:RefV,r=⟨1 - oplC p root N i,ep,digestOf x⟩:=⟨_,rfl⟩
 rw [←hr] at s1 s2 hputs
 have hrw:r.Wf:=by rw [hr];exact wf_dig _ _ _ (by omega) (by omega)
 have hh:hideR key ep (1 - (oldC p root N i).pl) ((blkC p root N i:Nat):Int) pg=(x,r,0):=by rw [←hb];exact s1
 rw [rootC_lt hi] at h
 by_cases hn:i+1 < itn p
 ·obtain ⟨q,hq⟩:∃ q,q=(parN p i).1:=⟨_,rfl⟩
  obtain ⟨t,htt⟩:∃ t,t=(parN p i).2:=⟨_,rfl⟩
  have hl:=par_lev p i G.h0 G.h1 hn
  have hk:=(kid_iff p q i t G.h0 G.h1 (by rw [hq];exact hl.2.2.2.1) (by rw [hq];exact hl.2.2.1)).2 ⟨hn,by rw [hq,htt]⟩
  have hQ:QC p C q:=⟨by rw [hq];exact hl.2.2.1,by rw [hq];exact tch_par G ht hn⟩
  have hlen:(refsC key ep p root N C i q).length=many p q:=refsC_length i q
  have hold:=refsC_old (key:=key) (ep:=ep) (p:=p) (root:=root) (N:=N) (C:=C) G.h0 G.h1 hn
  rw [←hq,←htt] at hold
  have hown:=refsC_own (key:=key) (ep:=ep) (p:=p) (root:=root) (N:=N) (C:=C) G.h0 G.h1 s2 hn
  rw [←hq,←htt] at hown
  obtain ⟨vq,hvq,_⟩:=h.mp.own q hQ
  have h6:=many_le p q
  obtain ⟨g,cap,cur,ev,hcur,hfit,hrg,_⟩:=h.setSlot hrw hQ hvq (t:=t) (by omega)
  subst ev
  rw [hlen] at hvq
  rw [hold] at hrg
  have hpz:PZ p (i:Int)=((q:Int),(t:Int),true):=by unfold PZ;rw [if_pos ⟨by omega,by omega⟩,Int.toNat_natCast,hq,htt]
  refine (phide16_core h hT G.h1 i hi pg v hv hp (oldC p root N i) ho (by omega) g (0+t*34) cur 46 hcur (by omega) hrg (.inr (.inr ⟨q,_,hQ,hvq,rfl⟩)) (prefSlot_any h G.h1 i q t hpz g (many p q) cap (by have:=hQ.1;omega) hvq hk.1 (many_le p q)) (blkC p root N i) hb.symm x r hh root (fun x=>if x=q then (refsC key ep p root N C i q).set t r else refsC key ep p root N C i x) (fun w' hd hat=>?_)).mono fun e w' he=>he.alike (by rw [rootC_lt hn]) (fun q' hq'=>?_) hputs
  ·obtain ⟨g',cap',cur',ev,hcur',_,_,hset⟩:=hd.setSlot hrw hQ hvq (t:=t) (by omega)
   injection ev with ev1 _ _
   injection ev1 with ev1
   injection ev1 with ev1 _ _
   subst ev1
   have ec:cur'=cur:=by
    unfold At at hat hcur'
    rw [hat] at hcur'
    injection hcur' with hcur'
    injection hcur' with e1 _ _
    exact e1.symm
   rw [ec] at hset
   rw [Nat.zero_add]
   exact hset
  ·by_cases e:q'=q
   ·subst e
    rw [if_pos rfl];exact hown
   ·rw [if_neg e]
    exact refsC_other G.h0 G.h1 hq'.p hq'.1 (fun _=>by rw [←hq];exact e)
 ·have hpz:PZ p (i:Int)=(0,0,false):=by unfold PZ;rw [if_neg (by omega)]
  have hold:oldC p root N i=root:=oldC_last hn
  rw [hold] at hh
  have hrg:w.rangeAt bd 35 (refL root):=h.cells.root
  have hei:i=itn p - 1:=by omega
  have s3:selC key ep p root N C (itn p - 1)=some (x,r):=by rw [←hei];exact s2
  refine (phide16_core h hT G.h1 i hi pg v hv hp root (by rw [←hold];exact ho) (by omega) bd 35 (drC key ep p root bm vp) 136 h.row (by rw [drC_size h.kl h.rw];decide) hrg (.inl rfl) (prefRoot_any h G.h1 i hpz) (blkC p root N i) (by rw [←hb];unfold oplC;rw [hold]) x r hh r (refsC key ep p root N C i) (fun w' hd hat=>?_)).mono fun e w' he=>he.alike (by rw [show i+1=itn p by omega];exact rootC_last G.h0 G.h1 s3) (fun q' hq'=>refsC_other G.h0 G.h1 hq'.p hq'.1 fun hh=>absurd hh hn) hputs
  have e35:drC key ep p root bm vp=drC key ep p root bm vp:=rfl
  exact hd.setRoot hrw
end
end Sha
end Go.Proofs.YtplmfmpbkjnbaaaGreatDoor
namespace Go.Proofs.YtplmfmpbkjnbaaaGreatDoor
namespace Sha
open Go.RowKit Mem
set_option maxRecDepth 100000
section
variable {w1 w:World} {bd bm:Nat} {f:Int→Option Value} {key:Lb8} {ep:BitVec 32} {p i:Nat} {root:RefV} {vp:Value} {D:Foot} {ws:List (Nat × Value)} {N:List NdV} {C:List ChV}
theorem phideNode_any (G:GoodC p root N C) (h:DrI w1 w bd bm f key ep p (rootC key ep p root N C i) (QC p C) (refsC key ep p root N C i) vp D ws (putsC key ep p root N C i)) (hT:TT w1) (hq:QC p C i) :
 Calls Tryz.prog 55 #[.pointer (some ⟨bd,0,none⟩),.int .i64 (i:Int)] w (HdEnd w1 w bd bm f key ep p (rootC key ep p root N C (i+1)) (QC p C) (refsC key ep p root N C (i+1)) vp D (putsC key ep p root N C (i+1))):=by
 have hit:=itn_le259 p G.h1
 have hpi:=hq.p;have hq1:=hq.1
 obtain ⟨vq,hvq,hoq⟩:=h.mp.own i hq
 have hwf:=h.mw i hq
 have hsl:=own_slrf hoq hwf
 have h6:=many_le p i
 have ly:=fun wx (hb:Below w.heap.size w wx)=>play13_any (refsC key ep p root N C i i) vq wx (hsl.below hb) hwf
 have hok:=layC_ok (key:=key) (ep:=ep) G i i hpi hq.1 hq.2
 have hln:=layC_len (key:=key) (ep:=ep) G i i hpi hq.1 hq.2
 rw [hok] at ly
 have ht:tchC p C i=true:=by unfold tchC;rw [if_neg (by omega)];exact hq.2
 have hpg:pageC p N C (frL key ep p root N C i) i=some (layN (refsC key ep p root N C i i)).1:=by unfold pageC;rw [if_neg (by omega),if_pos hq.2];rfl
 have hd:=fun v wx (hb:Below w.heap.size w wx) hv=>phide16_any G (h.below hb) hT hq.1 ht _ hpg hln v hv
 obtain ⟨nm,hm,_⟩:=h.mp.m
 have hcm:=h.cells.map
 have hbl:=h.row.lt
 obtain ⟨a,c,ea⟩:=hsl.hd
 subst ea
 have hfq:(f (i:Int)).getD (.slice none 0 0)=.slice a (refsC key ep p root N C i i).length c:=by rw [hvq];rfl
 rw [refsC_length] at hfq ly
 obtain ⟨PG,hPG⟩:∃ P,P=(layN (refsC key ep p root N C i i)).1:=⟨_,rfl⟩
 rw [←hPG] at ly hln hd
 obtain ⟨m,hmm⟩:∃ m,m=many p i:=⟨_,rfl⟩
 rw [←hmm] at hfq ly
 have LY:=zh ly;have LN:=zh hln;have HD:=zh hd;have HM:=zh hm;have CM:=zh hcm;have BL:=zh hbl;have FQ:=zh hfq;have WQ:=zh (wfI_nat i (by omega));have H0:=zh h
 clear hq1 ly hln hd hm hcm hbl hfq hPG hmm hpg ht hok h6 hsl hwf hoq hvq h hpi hit hT
 go_enter Tryz.func55,Tryz.ntmps55
 have cm:w.cell? ⟨bd,69,none⟩=some (.map (some bm)):=CM.out
 go_wp2_with (at_lookup;refine wpList_mapV_look zr 133 _ _ zr 60 HM.out (i:Int) zr zr uInt16 uRf16 (.slice none 0 0) (zeroSRf _) WQ.out (.slice a m c) FQ.out ?_)
 refine (LY.out _ (Below.refl _ _)).mono ?_
 rintro e w2 ⟨v2,rfl,hs2,hb2⟩
 have S2:=zh hs2;have B2:=zh hb2
 clear hs2 hb2 cm
 obtain ⟨a2,c2,e2⟩:=sl_inv S2.out
 subst e2
 rw [LN.out] at S2 ⊢
 go_wp2_with fail
 refine (HD.out _ _ B2.out S2.out).mono ?_
 rintro e w3 ⟨rfl,⟨vp3,D3',ws3,hd3,hD3⟩,hc3⟩
 have D3:=zh hd3;have E3:Hid (∀ k,D3' k→D k∨w.heap.size≤k):=zh (fun k hk=>(hD3 k hk).imp id fun g=>Nat.le_trans B2.out.size g);have C3:Hid (Chg (DrF bd vp f (QC p C)) w w3):=zh ((Chg.of_below (F:=DrF bd vp f (QC p C)) B2.out).trans hc3 (fun k hk=>.inl hk))
 clear hd3 hc3 hD3
 go_wp2_with fail
 go_ret
 exact ⟨rfl,⟨vp3,D3',ws3,D3.out,E3.out⟩,C3.out⟩
end
end Sha
end Go.Proofs.YtplmfmpbkjnbaaaGreatDoor
namespace Go.Proofs.YtplmfmpbkjnbaaaGreatDoor
namespace Sha
open Go.RowKit Mem
set_option maxRecDepth 100000
theorem ret_vvrv {P:Program} {fn:Func} {R:Ending→World→Prop} {tmps:Array Value} {w:World} {q q2 p u:Tmp} {ty:TypeId} (h:fn.results=#[.tmp q,.tmp q2,.cell p ty,.tmp u]) (g:Nat) (t:TypeId) (cs:Array Value) (d:TypeDesc) (v1 v2 v:Value)
 (hq:tmps.getD q undef=v1) (hq2:tmps.getD q2 undef=v2) (hp:tmps.getD p undef=.pointer (some ⟨g,0,none⟩)) (hv:tmps.getD u undef=v) (hg:At w g cs t) (hu:P.underlying ty=some d) (hd:d.isRow=true) (hi:(P.info? ty).map (·.size)=some cs.size)
 (hR:R (.returned (.tuple #[v1,v2,.agg cs,v])) w):bodyPost P fn R .ret ⟨tmps,[]⟩ w:=by
 refine bodyPost_ret (v:=.tuple #[v1,v2,.agg cs,v]) ?_ rfl hR
 have hrow:=run_loadVar_row (P:=P) w g t ty cs (0,0) d hg hu (by cases d <;> first | rfl | exact hd) hi
 rw [Array.getD_eq_getD_getElem?] at hq hq2 hp hv
 simp only [results,h]
 simp [Result.andThen,hq,hq2,hp,hv,asAddr,hrow]
section
variable {P:Program} {ops:Array Oper} {Q:Exit→Act→World→Prop} {S:World→Prop} {w:World} {a:Act} {o:Oper} {i:Nat} {r:Plan}
theorem run_box_agg (ty:TypeId) (C:Array Value) (w:World):(Instr.box ty (.agg C)).run P w=.ok (.pointer (some ⟨w.heap.size,0,none⟩)) (w.alloc (.cells C ty)):=by
 rfl
theorem plan_box (ty:TypeId) (x:Operand) (C:Array Value) (ho:ops.toList[i]?=some o) (hw:Region.wanted o (yielded ops a.tmps)=true) (hop:o.op=.box ty x) (hx:a.eval x=.agg C)
 (hS:S (w.alloc (.cells C ty))) (h:wpPlan P ops Q S r (a.put o.dst (.pointer (some ⟨w.heap.size,0,none⟩))) (w.alloc (.cells C ty))):wpPlan P ops Q S (.sole i r) a w:=by
 refine wpOp_at ho hw ?_
 unfold Oper.wp execOp
 simp only [hop,hx,Sem.run_bind,run_box_agg,Result.andThen_ok,Sem.run_pure]
 exact ⟨hS,h⟩
end
def ndVs (f:Int→Option Value) (L:List Nat):List Value:=L.flatMap fun (q:Nat)=>[.int .i64 (q:Int),(f (q:Int)).getD undef]
theorem ndVs_snoc (f:Int→Option Value) (L:List Nat) (q:Nat) {v:Value} (h:f (q:Int)=some v):ndVs f (L++[q])=ndVs f L++[.int .i64 (q:Int),v]:=by simp [ndVs,h]
theorem ndVs_at (f:Int→Option Value):∀ (L:List Nat) (i:Nat),i < L.length→(ndVs f L)[i*2]?=some (.int .i64 ((L.getD i 0:Nat):Int))∧(ndVs f L)[i*2+1]?=some ((f ((L.getD i 0:Nat):Int)).getD undef)
 | [],i,h=>by simp at h
 | q::L,0,_=>⟨rfl,rfl⟩
 | q::L,i+1,h=>by
  have ih:=ndVs_at f L i (by simpa using h)
  have e:ndVs f (q::L)=.int .i64 (q:Int)::(f (q:Int)).getD undef::ndVs f L:=rfl
  rw [e,show (i+1)*2=i*2+1+1 by omega,show i*2+1+1+1=(i*2+1)+1+1 by omega]
  simpa using ih
theorem nodes_out {w:World} {B:Nat} {t:TypeId} {v:Value} {f:Int→Option Value} {L:List Nat} {M:Nat→List RefV} (ho:w.ownsRow B t 2 v L.length (ndVs f L)) (hr:∀ q∈L,∃ u,f (q:Int)=some u∧SlRf w u (M q)):SlNd w v (L.map fun (q:Nat)=>((q:Int),M q)):=by
 obtain ⟨_,a,cap,e,_,hc⟩:=ownsRow_slR ho
 refine ⟨a,cap,by rw [List.length_map];exact e,fun hne=>?_⟩
 obtain ⟨bb,oo,ea,_,hlt,hcell⟩:=hc (fun h=>hne (by rw [List.eq_nil_of_length_eq_zero h];rfl))
 refine ⟨bb,oo,ea,hlt,fun i hi=>?_⟩
 rw [List.length_map] at hi
 have hg:(L.map fun (q:Nat)=>((q:Int),M q)).getD i znd=(((L.getD i 0:Nat):Int),M (L.getD i 0)):=by
  rw [List.getD_eq_getElem?_getD,List.getElem?_map,List.getElem?_eq_getElem hi,List.getD_eq_getElem?_getD,List.getElem?_eq_getElem hi];rfl
 obtain ⟨h1,h2⟩:=ndVs_at f L i hi
 obtain ⟨u,hu,hs⟩:=hr (L.getD i 0) (by rw [List.getD_eq_getElem?_getD,List.getElem?_eq_getElem hi];exact List.getElem_mem hi)
 rw [hg]
 refine ⟨hcell _ _ h1,u,?_,hs⟩
 rw [Nat.add_assoc]
 rw [hu] at h2
 exact hcell _ _ h2
section
variable {w1 w w' w3 w5:World} {bd bm n:Nat} {f:Int→Option Value} {key:Lb8} {ep:BitVec 32} {p:Nat} {root:RefV} {Q:Nat→Prop} {M:Nat→List RefV} {vp vt vt':Value} {D:Foot} {ws:List (Nat × Value)} {L:List (Nat × Lb8)} {xs:List Value} {B':Nat}
theorem DrI.keep (h:DrI w1 w bd bm f key ep p root Q M vp D ws L) (hb:Below w1.heap.size w1 w') (hs:w.heap.size≤w'.heap.size) (hk:∀ k,k < w.heap.size→(k=bd∨k=bm∨vp.ownBlock=some k∨D k∨∃ q v,Q q∧f (q:Int)=some v∧v.ownBlock=some k)→w'.heap[k]?=w.heap[k]?):DrI w1 w' bd bm f key ep p root Q M vp D ws L:=by
 refine ⟨hb,h.gd,?_,h.mp.keep (hk bm h.mp.lt (.inr (.inl rfl))) fun q v k hq hv hkk=>hk k (h.mp.ltq hq hv hkk).2 (.inr (.inr (.inr (.inr ⟨q,v,hq,hv,hkk⟩)))),h.e.mono fun a c x=>⟨x.1,x.2.keep hs fun k hd hl=>hk k hl (.inr (.inr (.inr (.inl hd))))⟩,
  ownsRow_keep h.po fun k hkk=>hk k (World.ownsRow.lt h.po k hkk).2 (.inr (.inr (.inl hkk))),fun k hd=>?_,h.kl,h.rw,h.mw⟩
 ·have hr:=h.row
  have hl:=hr.lt
  unfold At at *
  rw [hk bd hl (.inl rfl)];exact hr
 ·have hh:=h.d k hd
  exact ⟨hh.1,by omega,hh.2.2⟩
theorem DrI.app (h:DrI w1 w bd bm f key ep p root Q M vp D ws L) (ho:w.ownsRow B' 127 2 vt n xs) (hD:∀ k,D k→vt.ownBlock≠some k) (hb3:Below w.heap.size w w3) (ha:App w3 w5 vt vt') (hb5:Below w1.heap.size w3 w5):DrI w1 w5 bd bm f key ep p root Q M vp D ws L:=by
 have s3:=hb3.size;have s5:=ha.size
 refine h.keep ((h.b.trans (hb3.mono h.b.size)).trans hb5) (by omega) fun k hl hk=>?_
 rw [ha.k k (by omega) ?_,hb3.block k hl]
 rcases hk with e | e | e | e | ⟨q,v,hq,hv,e⟩
 ·rw [e];exact own_ne_at ho h.row (by decide)
 ·obtain ⟨_,hm,_⟩:=h.mp.m
  rw [e];exact hm.ne_own ho
 ·exact fun e2=>ownsRow_ne h.po ho (by decide) k e e2
 ·exact hD k e
 ·obtain ⟨u,eu,hu⟩:=h.mp.own q hq
  rw [hv] at eu
  injection eu with eu
  subst eu
  exact fun e2=>ownsRow_ne hu ho (by decide) k e e2
theorem DrI.nodeF (h:DrI w1 w bd bm f key ep p root Q M vp D ws L) (ho:w.ownsRow B' 127 2 vt n xs):∀ k,vt.ownBlock=some k→¬ DrF bd vp f Q k:=by
 rintro k e (h1 | h1 | ⟨q,v,hq,hv,h1⟩)
 ·rw [h1] at e;exact own_ne_at ho h.row (by decide) e
 ·exact ownsRow_ne h.po ho (by decide) k h1 e
 ·obtain ⟨u,eu,hu⟩:=h.mp.own q hq
  rw [hv] at eu
  injection eu with eu
  subst eu
  exact ownsRow_ne hu ho (by decide) k h1 e
theorem DrI.out (h:DrI w1 w bd bm f key ep p root Q M vp D ws L) (hs:w.heap.size≤w'.heap.size) (hk:∀ k,w1.heap.size≤k→k < w.heap.size→w'.heap[k]?=w.heap[k]?):WPut (fun k=>w1.heap.size≤k) w' vp L:=
 ⟨ws,h.e.mono fun _ _ x=>⟨x.1,(x.2.keep hs fun k hd hl=>hk k (h.d k hd).1 hl).mono fun k hd _=>(h.d k hd).1⟩,(ownsRow_slR h.po).keep hs fun k hg hl=>hk k hg hl⟩
end
theorem build_dr (key:Lb8) (lk:key.length=32) (ep:BitVec 32) (p:Nat) (root:RefV) (hr:root.Wf) (bm:Nat) (wx:World):(Instr.build 136 #[(0,.pointer none),(1,.agg (u8s key).toArray),(2,.int .u32 (V ep)),(3,.agg (psC p)),(4,.agg (refC root)),(5,.map (some bm))]).run Tryz.prog wx=.ok (.agg (drC key ep p root bm (.slice none 0 0))) wx:=by
 obtain ⟨pl,re,dg⟩:=root
 have hd:dg.length=32:=hr.dg
 match key,lk,dg,hd with
 | [k0,k1,k2,k3,k4,k5,k6,k7,k8,k9,k10,k11,k12,k13,k14,k15,k16,k17,k18,k19,k20,k21,k22,k23,k24,k25,k26,k27,k28,k29,k30,k31],_,[a0,a1,a2,a3,a4,a5,a6,a7,a8,a9,a10,a11,a12,a13,a14,a15,a16,a17,a18,a19,a20,a21,a22,a23,a24,a25,a26,a27,a28,a29,a30,a31],_=>show (Instr.build _ _).run _ _=_;kernel_rfl
theorem builtNd (q:Nat) (a2:Option Addr) (l c:Nat):Tryz.prog.builtSlice 127 1 [(0,.agg (ndRow (q:Int) (.slice a2 l c)))]=some (ndRow (q:Int) (.slice a2 l c)):=by
 unfold ndRow
 kernel_rfl
theorem buildNd (q:Nat) (a2:Option Addr) (l c:Nat) (wx:World):(Instr.build 127 #[(0,.int .i64 (q:Int)),(1,.slice a2 l c)]).run Tryz.prog wx=.ok (.agg (ndRow (q:Int) (.slice a2 l c))) wx:=by
 unfold ndRow
 kernel_rfl
theorem elemNd:elemR Tryz.prog 45 127 (.agg #[.int .i64 0,.slice none 0 0]) 2 32:=⟨Tryz.underlying45,by kernel_rfl⟩
end Sha
end Go.Proofs.YtplmfmpbkjnbaaaGreatDoor
namespace Go.Proofs.YtplmfmpbkjnbaaaGreatDoor
namespace Sha
open Go.RowKit Mem
set_option maxRecDepth 100000
def PlEnd (w:World) (t:List (Nat × Lb8) × List NdV × RefV × Int) (e:Ending) (w':World):Prop:=∃ vp vn,e=.returned (.tuple #[vp,vn,.agg (refC t.2.2.1),.int .i64 t.2.2.2])∧WPut (fun k=>w.heap.size≤k) w' vp t.1∧SlNdG (fun k=>w.heap.size≤k) w' vn t.2.1∧Below w.heap.size w w'
def plW (w:World) (KC CS RC Z:Array Value):World:=(((w.alloc (.cells KC 22)).alloc (.cells CS 31)).alloc (.cells RC 46)).alloc (.cells Z 46)
structure PlB (w w4:World) (KC CS RC Z:Array Value):Prop where
 k:At w4 w.heap.size KC 22
 s:At w4 (w.heap.size+1) CS 31
 r:At w4 (w.heap.size+1+1) RC 46
 z:At w4 (w.heap.size+1+1+1) Z 46
 b:Below w.heap.size w w4
theorem plB_new (w:World) (KC CS RC Z:Array Value):PlB w (plW w KC CS RC Z) KC CS RC Z:=by
 refine ⟨(((at_new w KC _).alloc _).alloc _).alloc _,?_,?_,?_,((((Below.refl _ _).alloc (Nat.le_refl _) _).alloc (by simp) _).alloc (by simp;omega) _).alloc (by simp;omega) _⟩
 ·have h:=((at_new (w.alloc (.cells KC 22)) CS 31).alloc (.cells RC 46)).alloc (.cells Z 46)
  simpa [plW] using h
 ·have h:=(at_new ((w.alloc (.cells KC 22)).alloc (.cells CS 31)) RC 46).alloc (.cells Z 46)
  simpa [plW] using h
 ·have h:=at_new (((w.alloc (.cells KC 22)).alloc (.cells CS 31)).alloc (.cells RC 46)) Z 46
  simpa [plW] using h
theorem PlB.below {w w4 w5:World} {KC CS RC Z:Array Value} (h:PlB w w4 KC CS RC Z) (hb:Below w4.heap.size w4 w5):PlB w w5 KC CS RC Z:=
 ⟨h.k.below hb h.k.lt,h.s.below hb h.s.lt,h.r.below hb h.r.lt,h.z.below hb h.z.lt,h.b.trans (hb.mono h.b.size)⟩
theorem pplan_bad (key:Lb8) (ep:BitVec 32) (p:Nat) (root:RefV) (N:List NdV) (C:List ChV) (vn vc:Value) (w:World) (lk:key.length=32) (hr:root.Wf) (hn:SlNd w vn N) (hc:SlCh w vc C) (hN:NdWf N) (h1:p≤216) (hl:C.length≤1000) (hbad:¬ (mayT p N C=true∧plOk root=true)) :
 Calls Tryz.prog 13 #[.pointer none,.agg (u8s key).toArray,.int .u32 (V ep),.agg (psC p),.agg (refC root),vn,vc] w (PlEnd w ([],[],zref,1)):=by
 have ip:=fun wx=>isPlace16_any root.pl wx
 have my:=fun wx (h:Below w.heap.size w wx)=>pmay_any p N C vn vc wx (hn.below h) (hc.below h) hN h1 hl
 have hpd:plOk root=decide (0≤root.pl∧root.pl≤1):=rfl
 have kc:(u8s key).toArray.size=32:=by simp [u8s_length,lk]
 obtain ⟨KC,hKC⟩:∃ K,K=(u8s key).toArray:=⟨_,rfl⟩
 have cs:(psC p).size=1:=rfl
 obtain ⟨CS,hCS⟩:∃ C,C=psC p:=⟨_,rfl⟩
 have rs:=refC_size hr;have r0:=ref0 root
 obtain ⟨RC,hRC⟩:∃ R,R=refC root:=⟨_,rfl⟩
 obtain ⟨pl,hpl⟩:∃ k,k=root.pl:=⟨_,rfl⟩
 have hxr:=zeroRfP
 have hbr:=buildRf14
 unfold PlEnd
 show Calls _ _ _ _ (fun e w'=>∃ vp vn,e=.returned (.tuple #[vp,vn,.agg (refC zref),.int .i64 1])∧WPut (fun k=>w.heap.size≤k) w' vp []∧SlNdG (fun k=>w.heap.size≤k) w' vn []∧Below w.heap.size w w')
 obtain ⟨Z,hZ⟩:∃ Z,Z=refC zref:=⟨_,rfl⟩
 have zs:Z.size=34:=by rw [hZ];exact refC_size zref_wf
 have zo:Z.all (·.oneCell')=true:=by rw [hZ];exact refC_one zref
 rw [←hpl] at ip hpd r0
 rw [←hCS] at my ⊢
 rw [←hRC] at rs r0 ⊢
 rw [←hKC]
 rw [←hZ] at hxr hbr ⊢
 obtain ⟨PL,hPL⟩:∃ P,P=plOk root:=⟨_,rfl⟩
 obtain ⟨MY,hMY⟩:∃ P,P=mayT p N C:=⟨_,rfl⟩
 rw [←hPL] at hpd hbad
 rw [←hMY] at my hbad
 have cs:CS.size=1:=by rw [hCS];rfl
 have pb:=plB_new w KC CS RC Z
 obtain ⟨an,cn,rfl⟩:=hn.hd
 obtain ⟨ac,cc,rfl⟩:=hc.hd
 have IP:=zh ip;have MYY:=zh my;have PD:=zh hpd;have CSZ:=zh cs;have R0:=zh r0;have BR:=zh hbr;have ZS:=zh zs;have ZO:=zh zo;have PB:=zh pb;have BAD:=zh hbad
 clear ip my hpd cs r0 hbr zs zo pb hbad hKC hCS hRC hpl hZ hPL hMY kc rs lk hr hn hc hN hl
 go_enter Tryz.func13,Tryz.ntmps13
 go_upto_region 1 with fail
 rw [show (((w.alloc (.cells KC 22)).alloc (.cells CS 31)).alloc (.cells RC 46)).alloc (.cells Z 46)=plW w KC CS RC Z from rfl]
 generalize plW w KC CS RC Z=w4 at *
 have c0:w4.cell? ⟨w.heap.size+1+1,0,none⟩=some (.int .i64 pl):=(PB.out.r.cell 0).trans R0.out
 cases hpv:PL with
 | false=>
  have PF:Hid (decide (0≤pl∧pl≤1)=false):=zh (by rw [←PD.out];exact hpv)
  go_wp2_with fail
  refine (IP.out _).mono ?_
  rintro e w5 ⟨rfl,rfl⟩
  rw [PF.out]
  clear c0 hxr
  go_wp2_with (first
   | (refine Mem.wpList_build zr 46 _ #[] (.agg Z) zr (by simp) BR.out ?_)
   | (refine wpList_store_all zr 46 _ _ zr zr (w.heap.size+1+1+1) Z zr zr (by rw [ZS.out];exact infoRfP) Z 46 PB.out.z zr ZO.out ?_))
  try simp only [Exit.inBlock,Exit.then]
  refine ret_vvrv zr (w.heap.size+1+1+1) 46 Z _ _ _ _ zr zr zr zr (PB.out.z.row Z) Tryz.underlying46 zr (by rw [ZS.out];exact infoRfP) ?_
  exact ⟨_,_,rfl,⟨[],trivial,SlR.nil _ _ _⟩,SlNdG.nil _ _ _,below_row PB.out.b (by omega) Z⟩
 | true=>
  have PF:Hid (decide (0≤pl∧pl≤1)=true):=zh (by rw [←PD.out];exact hpv)
  have MF:Hid (MY=false):=zh (by cases h:MY with
   | false=>rfl
   | true=>exact absurd ⟨h,hpv⟩ BAD.out)
  go_wp2_with fail
  refine (IP.out _).mono ?_
  rintro e w5 ⟨rfl,rfl⟩
  rw [PF.out]
  clear c0 hxr
  go_wp2_with (refine wpList_load_is_wanted zr 31 _ zr (w.heap.size+1) 0 1 zr _ Tryz.underlying31 zr infoPS CS _ PB.out.s (by rw [CSZ.out];decide) CS (by simp [CSZ.out]) ?_)
  refine (MYY.out _ PB.out.b).mono ?_
  rintro e w6 ⟨rfl,hb6⟩
  rw [MF.out]
  have P6:=zh (PB.out.below hb6)
  clear hb6
  go_wp2_with (first
   | (refine Mem.wpList_build zr 46 _ #[] (.agg Z) zr (by simp) BR.out ?_)
   | (refine wpList_store_all zr 46 _ _ zr zr (w.heap.size+1+1+1) Z zr zr (by rw [ZS.out];exact infoRfP) Z 46 P6.out.z zr ZO.out ?_))
  try simp only [Exit.inBlock,Exit.then]
  refine ret_vvrv zr (w.heap.size+1+1+1) 46 Z _ _ _ _ zr zr zr zr (P6.out.z.row Z) Tryz.underlying46 zr (by rw [ZS.out];exact infoRfP) ?_
  exact ⟨_,_,rfl,⟨[],trivial,SlR.nil _ _ _⟩,SlNdG.nil _ _ _,below_row P6.out.b (by omega) Z⟩
end Sha
end Go.Proofs.YtplmfmpbkjnbaaaGreatDoor
namespace Go.Proofs.YtplmfmpbkjnbaaaGreatDoor
namespace Sha
open Go.RowKit Mem
set_option maxRecDepth 100000
theorem RMap.ext {w:World} {B bm c:Nat} {f:Int→Option Value} {Q Q':Nat→Prop} {M M':Nat→List RefV} (h:RMap w B bm f Q M c) (hs:∀ q,Q' q→Q q) (hM:∀ q,Q' q→M' q=M q):RMap w B bm f Q' M' c:=
 let ⟨m,g,own,dis⟩:=h
 ⟨m,g,fun q hq=>by rw [hM q hq];exact own q (hs q hq),fun q q' a b=>dis q q' (hs q a) (hs q' b)⟩
def AtCh (C:List ChV) (k m:Nat):Prop:=(∀ i,i < k→(C.getD i zch).1 < (m:Int))∧∀ i,k≤i→i < C.length→(m:Int)≤(C.getD i zch).1
section
variable {key:Lb8} {ep:BitVec 32} {p:Nat} {root:RefV} {N:List NdV} {C:List ChV}
theorem atCh_zero (G:GoodC p root N C):AtCh C 0 0:=⟨fun i h=>by omega,fun i _ h=>(((may_iff p N C).1 G.may).1 i h).1.1⟩
theorem atCh_next (G:GoodC p root N C) {k m:Nat} (h:AtCh C k m) (hk:k < C.length):∃ x:Nat,(C.getD k zch).1=(x:Int)∧x < p∧m≤x∧(C.getD k zch).2.length=256∧tchC p C x=true∧chgP C x=some (C.getD k zch).2∧AtCh C (k+1) (x+1)∧∀ i,m≤i→i < x→tchC p C i=false:=by
 have hr:=((may_iff p N C).1 G.may).1
 obtain ⟨⟨a,b⟩,c,_⟩:=hr k hk
 have hm:=h.2 k (Nat.le_refl _) hk
 obtain ⟨x,hx⟩:∃ x:Nat,(C.getD k zch).1=(x:Int):=⟨(C.getD k zch).1.toNat,by omega⟩
 refine ⟨x,hx,by omega,by omega,c,?_,chgP_get hr hk hx,⟨fun i hi=>?_,fun i h1 h2=>?_⟩,fun i h1 h2=>?_⟩
 ·unfold tchC
  rw [if_pos (by omega)]
  have:(x:Int)∈pgsC C:=mem_pgsC.2 ⟨k,hk,hx⟩
  simpa using this
 ·rcases Nat.lt_or_ge i k with g | g
  ·have:=h.1 i g;omega
  ·have:i=k:=by omega
   subst this;omega
 ·have:=rise_lt hr k i (by omega) h2;omega
 ·unfold tchC
  rw [if_pos (by omega)]
  have:(i:Int) ∉ pgsC C:=fun hh=>by
   obtain ⟨j,hj,e⟩:=mem_pgsC.1 hh
   rcases Nat.lt_or_ge j k with g | g
   ·have:=h.1 j g;omega
   ·rcases Nat.eq_or_lt_of_le g with e2 | g2
    ·subst e2;omega
    ·have:=rise_lt hr k j g2 hj;omega
  simpa using this
theorem atCh_end (_G:GoodC p root N C) {m:Nat} (h:AtCh C C.length m):∀ i,m≤i→i < p→tchC p C i=false:=fun i h1 h2=>by
 unfold tchC
 rw [if_pos h2]
 have:(i:Int) ∉ pgsC C:=fun hh=>by
  obtain ⟨j,hj,e⟩:=mem_pgsC.1 hh
  have:=h.1 j hj;omega
 simpa using this
theorem tch_node {i:Nat} (h:p≤i):tchC p C i=isN p (pgsC C) i:=by unfold tchC;rw [if_neg (by omega)]
theorem isN_low {i:Nat} (h:i < p):isN p (pgsC C) i=false:=by unfold isN;rw [decide_eq_false (by omega),Bool.false_and]
def AtNd (p:Nat) (C:List ChV) (j m:Nat):Prop:=p≤m∧(List.range m).filter (isN p (pgsC C))=(needT p (pgsC C)).take j
theorem atNd_zero:AtNd p C 0 p:=⟨Nat.le_refl _,by
 rw [List.take_zero,List.filter_eq_nil_iff]
 intro i hi
 rw [isN_low (List.mem_range.1 hi)]
 decide⟩
theorem atNd_next {j m:Nat} (h:AtNd p C j m) (hj:j < (needT p (pgsC C)).length):QC p C ((needT p (pgsC C)).getD j 0)∧m≤(needT p (pgsC C)).getD j 0∧AtNd p C (j+1) ((needT p (pgsC C)).getD j 0+1)∧(needT p (pgsC C)).take (j+1)=(needT p (pgsC C)).take j++[(needT p (pgsC C)).getD j 0]∧∀ i,m≤i→i < (needT p (pgsC C)).getD j 0→tchC p C i=false:=by
 obtain ⟨a,b,c⟩:=filter_at (isN p (pgsC C)) (itn p) j hj
 obtain ⟨h1,h2⟩:=h
 obtain ⟨x,hx⟩:∃ x,x=(needT p (pgsC C)).getD j 0:=⟨_,rfl⟩
 have hx':((List.range (itn p)).filter (isN p (pgsC C))).getD j 0=x:=hx.symm
 rw [hx'] at a b c
 rw [←hx]
 have hc:(List.range x).filter (isN p (pgsC C))=(needT p (pgsC C)).take j:=c
 have hm:m≤x:=filter_le _ (h2.trans hc.symm) b
 have ht:(needT p (pgsC C)).take (j+1)=(needT p (pgsC C)).take j++[x]:=by
  rw [List.take_add_one,List.getElem?_eq_getElem hj,hx,List.getD_eq_getElem?_getD,List.getElem?_eq_getElem hj];rfl
 refine ⟨⟨a,b⟩,hm,⟨by have:=((isN_iff p _ x).1 b).1;omega,?_⟩,ht,fun i g1 g2=>?_⟩
 ·rw [filter_succ,hc,if_pos b,ht]
 ·rw [tch_node (by omega)]
  exact filter_gap _ (h2.trans hc.symm) i g1 g2
theorem atNd_end {m:Nat} (h:AtNd p C (needT p (pgsC C)).length m) (_hm:m≤itn p):∀ i,m≤i→i < itn p→tchC p C i=false:=fun i g1 g2=>by
 obtain ⟨h1,h2⟩:=h
 rw [List.take_length] at h2
 rw [tch_node (by omega)]
 exact filter_gap _ h2 i g1 g2
theorem nds_map (G:GoodC p root N C):ndsC key ep p root N C (itn p)=(needT p (pgsC C)).map fun (q:Nat)=>((q:Int),refsC key ep p root N C (itn p) q):=by
 unfold ndsC
 show (needT p (pgsC C)).map _=_
 refine List.map_congr_left fun q hq=>?_
 have hq:=(mem_need p _ q).1 hq
 have hp:=((isN_iff p _ q).1 hq.2).1
 have hk:=node_kids p q G.h0 G.h1 hp hq.1
 congr 1
 refine refs_ext (refsC_length _ _) (refsC_length _ _) fun t ht=>?_
 rw [refsC_get _ _ _ ht,refsC_get _ _ _ ht,if_pos (by omega),if_pos (by omega)]
end
section
variable {w1 w w2:World} {bd bm:Nat} {f:Int→Option Value} {key:Lb8} {ep:BitVec 32} {p:Nat} {root:RefV} {vp:Value} {D:Foot} {ws:List (Nat × Value)} {N:List NdV} {C:List ChV}
def DrM (w1 w:World) (bd bm:Nat) (f:Int→Option Value) (key:Lb8) (ep:BitVec 32) (p:Nat) (root:RefV) (N:List NdV) (C:List ChV) (m:Nat) (vp:Value) (D:Foot) (ws:List (Nat × Value)):Prop:=DrI w1 w bd bm f key ep p (rootC key ep p root N C m) (QC p C) (refsC key ep p root N C m) vp D ws (putsC key ep p root N C m)
theorem DrM.skip {m x:Nat} (h:DrM w1 w bd bm f key ep p root N C m vp D ws) (hm:m≤x) (hx:x < itn p) (hs:∀ i,m≤i→i < x→tchC p C i=false):DrM w1 w bd bm f key ep p root N C x vp D ws:=by
 obtain ⟨a,b⟩:=skip_any (key:=key) (ep:=ep) (root:=root) (N:=N) x hm hs
 exact DrI.alike h (by rw [rootC_lt hx,rootC_lt (by omega)]) (fun q _=>b q) a
theorem DrM.fin {m:Nat} (G:GoodC p root N C) (h:DrM w1 w bd bm f key ep p root N C m vp D ws) (hm:m≤itn p) (hs:∀ i,m≤i→i < itn p→tchC p C i=false):DrM w1 w bd bm f key ep p root N C (itn p) vp D ws:=by
 obtain ⟨a,b⟩:=skip_any (key:=key) (ep:=ep) (root:=root) (N:=N) (itn p) hm hs
 refine DrI.alike h ?_ (fun q _=>b q) a
 by_cases e:m=itn p
 ·rw [e]
 ·have hb:=itn_big p G.h0 G.h1
  have hn:=sel_none (key:=key) (ep:=ep) (root:=root) (N:=N) (hs (itn p - 1) (by omega) (by omega))
  rw [rootC_lt (show m < itn p by omega)]
  unfold rootC
  rw [if_pos (Nat.le_refl _),frC_none hn]
  rfl
end
theorem pplan_good (key:Lb8) (ep:BitVec 32) (p:Nat) (root:RefV) (N:List NdV) (C:List ChV) (vn vc:Value) (w:World) (hT:TT w) (lk:key.length=32) (hn:SlNd w vn N) (hc:SlCh w vc C) (hN:NdWf N) (hl:C.length≤1000) (G:GoodC p root N C) :
 Calls Tryz.prog 13 #[.pointer none,.agg (u8s key).toArray,.int .u32 (V ep),.agg (psC p),.agg (refC root),vn,vc] w (PlEnd w (putsC key ep p root N C (itn p),ndsC key ep p root N C (itn p),rootC key ep p root N C (itn p),0)):=by
 have h0:=G.h0
 have h1:=G.h1
 have hit:=itn_le259 p h1
 have hbig:=itn_big p h0 h1
 have hr:=G.rw
 have ip:=fun wx=>isPlace16_any root.pl wx
 have my:=fun wx (h:Below w.heap.size w wx)=>pmay_any p N C vn vc wx (hn.below h) (hc.below h) hN h1 hl
 rw [G.may] at my
 have nd:=fun wx (h:Below w.heap.size w wx)=>pneedOf_any p C vc wx (hc.below h) h1 hl
 have hpd:decide (0≤root.pl∧root.pl≤1)=true:=G.rt
 have ro:=fun vk wx (h:Below w.heap.size w wx) (hk:SlI wx vk (needI p (pgsC C)))=>prefsOf_any N (needT p (pgsC C)) vn vk wx (hn.below h) hN hk (by have:=needT_len p (pgsC C) h1;omega) (fun i hi=>by have:=((mem_need p _ i).1 hi).1;omega)
 have bld0:=fun bm wx=>build_dr key lk ep p root hr bm wx
 have hnl:(needI p (pgsC C)).length=(needT p (pgsC C)).length:=by unfold needI;exact List.length_map ..
 have hng:=fun j hj=>needI_get p (pgsC C) j hj
 have hnlen:=needT_len p (pgsC C) h1
 obtain ⟨PK,hPK⟩:∃ P:World→World→Nat→Nat→(Int→Option Value)→Nat→Value→Foot→List (Nat × Value)→Prop,P=fun w1 w bd bm f m vp D ws=>DrM w1 w bd bm f key ep p root N C m vp D ws:=⟨_,rfl⟩
 have hfirst0:∀ w1 w3 bm f,Below w1.heap.size w1 w3→RMap w3 w1.heap.size bm f (fun q=>q∈needT p (pgsC C)) (fun q=>findD N (q:Int)) 1000→PK w1 (w3.alloc (.cells (drC key ep p root bm (.slice none 0 0)) 136)) w3.heap.size bm f 0 (.slice none 0 0) (fun _=>False) []:=fun w1 w3 bm f hb hm=>by
  rw [hPK]
  show DrI _ _ _ _ _ _ _ _ _ _ _ _ _ _ _
  rw [rootC_lt (by omega)]
  have hM:∀ q,QC p C q→refsC key ep p root N C 0 q=findD N (q:Int):=fun q hq=>refsC_zero q (((may_iff p N C).1 G.may).2 q hq.1 hq.2).1
  have hm2:=(hm.below ((Below.refl _ _).alloc (Nat.le_refl _) (.cells (drC key ep p root bm (.slice none 0 0)) 136)))
  exact ⟨hb.alloc hb.size _,hb.size,at_new _ _ _,hm2.ext (fun q hq=>(mem_need p _ q).2 hq) hM,trivial,World.ownsRow_nil _ _ _ _,fun _ h=>h.elim,lk,hr,fun q hq r hrr=>findD_wf hN.w _ r (by rw [←hM q hq];exact hrr)⟩
 have hch:=fun k m (h:AtCh C k m) hk=>atCh_next G h hk
 have hce:=fun m h=>atCh_end (m:=m) G h
 have hhide:=fun (w1 wx:World) bd bm f vp D ws (x k:Nat) (hk:k < C.length) (hx:(C.getD k zch).1=(x:Int)) (hxp:x < p) (hl2:(C.getD k zch).2.length=256) (ht:tchC p C x=true) (hcp:chgP C x=some (C.getD k zch).2) (h:PK w1 wx bd bm f x vp D ws) (hT1:TT w1) (v:Value) (hv:Sl wx v (C.getD k zch).2)=>by
  rw [hPK] at h
  exact phide16_any (i:=x) G h hT1 (by omega) ht (C.getD k zch).2 (by unfold pageC;rw [if_pos hxp];exact hcp) hl2 v hv
 have hhn:=fun (w1 wx:World) bd bm f vp D ws (i:Nat) (hq:QC p C i) (h:PK w1 wx bd bm f i vp D ws) (hT1:TT w1)=>by
  rw [hPK] at h
  exact phideNode_any (i:=i) G h hT1 hq
 have hskip:∀ w1 wx bd bm f vp D ws m x,PK w1 wx bd bm f m vp D ws→m≤x→x < itn p→(∀ i,m≤i→i < x→tchC p C i=false)→PK w1 wx bd bm f x vp D ws:=fun w1 wx bd bm f vp D ws m x h a b c=>by rw [hPK] at h ⊢;exact DrM.skip h a b c
 have hfin:∀ w1 wx bd bm f vp D ws m,PK w1 wx bd bm f m vp D ws→m≤itn p→(∀ i,m≤i→i < itn p→tchC p C i=false)→PK w1 wx bd bm f (itn p) vp D ws:=fun w1 wx bd bm f vp D ws m h a b=>by rw [hPK] at h ⊢;exact DrM.fin G h a b
 have hPI:∀ w1 wx bd bm f vp D ws m,PK w1 wx bd bm f m vp D ws→DrI w1 wx bd bm f key ep p (rootC key ep p root N C m) (QC p C) (refsC key ep p root N C m) vp D ws (putsC key ep p root N C m):=fun w1 wx bd bm f vp D ws m h=>by rw [hPK] at h;exact h
 have hIP:∀ w1 wx bd bm f vp D ws m,DrI w1 wx bd bm f key ep p (rootC key ep p root N C m) (QC p C) (refsC key ep p root N C m) vp D ws (putsC key ep p root N C m)→PK w1 wx bd bm f m vp D ws:=fun w1 wx bd bm f vp D ws m h=>by rw [hPK];exact h
 have hn0:AtCh C 0 0:=atCh_zero G
 have hnn0:AtNd p C 0 p:=atNd_zero
 have hnn:=fun j m (h:AtNd p C j m) hj=>atNd_next h hj
 have hne:=fun m (h:AtNd p C (needT p (pgsC C)).length m) hm=>atNd_end h hm
 have hmap:=nds_map (key:=key) (ep:=ep) G
 have hrl:=fun m q=>refsC_length (key:=key) (ep:=ep) (p:=p) (root:=root) (N:=N) (C:=C) m q
 obtain ⟨PU,hPU⟩:∃ f,f=putsC key ep p root N C:=⟨_,rfl⟩
 obtain ⟨RR,hRR⟩:∃ f,f=rootC key ep p root N C:=⟨_,rfl⟩
 obtain ⟨RF,hRF⟩:∃ f,f=refsC key ep p root N C:=⟨_,rfl⟩
 have hall:(needT p (pgsC C)).take (needT p (pgsC C)).length=needT p (pgsC C):=List.take_length
 have hKg:∀ j,j < (needT p (pgsC C)).length→(needI p (pgsC C)).getD j 0=(((needT p (pgsC C)).getD j 0:Nat):Int):=fun j hj=>by
  obtain ⟨i,a,b,_⟩:=hng j (by rw [hnl];exact hj)
  rw [a,b]
 have hQw:∀ q∈needT p (pgsC C),QC p C q:=fun q hq=>(mem_need p _ q).1 hq
 have hQm:∀ q,QC p C q→q < itn p:=fun q hq=>hq.1
 obtain ⟨KI,hKI⟩:∃ K,K=needI p (pgsC C):=⟨_,rfl⟩
 obtain ⟨KT,hKT⟩:∃ K,K=needT p (pgsC C):=⟨_,rfl⟩
 obtain ⟨m,hm⟩:∃ m,m=itn p:=⟨_,rfl⟩
 rw [←hPU,←hRR,←hRF] at hPI hIP hhide hhn
 rw [←hPU,←hRR]
 rw [←hRF] at hmap hrl
 rw [←hKI] at nd ro hnl hKg
 rw [←hKT] at ro hnl hnlen hfirst0 hnn hne hmap hall hKg hQw
 rw [←hm] at hskip hfin hne hmap hit hbig hQm ⊢
 rw [hmap]
 obtain ⟨kn,hkn⟩:∃ k,k=KT.length:=⟨_,rfl⟩
 rw [←hkn] at hnl hnlen hnn hne hall hKg
 have kc:(u8s key).toArray.size=32:=by simp [u8s_length,lk]
 obtain ⟨DC,hDC⟩:∃ f:Nat→Array Value,f=fun bm=>drC key ep p root bm (.slice none 0 0):=⟨_,rfl⟩
 have bld:∀ bm wx,(Instr.build 136 #[(0,.pointer none),(1,.agg (u8s key).toArray),(2,.int .u32 (V ep)),(3,.agg (psC p)),(4,.agg (refC root)),(5,.map (some bm))]).run Tryz.prog wx=.ok (.agg (DC bm)) wx:=fun bm wx=>by rw [hDC];exact bld0 bm wx
 clear bld0
 have hfirst:∀ w1 w3 bm f,Below w1.heap.size w1 w3→RMap w3 w1.heap.size bm f (fun q=>q∈KT) (fun q=>findD N (q:Int)) 1000→PK w1 (w3.alloc (.cells (DC bm) 136)) w3.heap.size bm f 0 (.slice none 0 0) (fun _=>False) []:=fun w1 w3 bm f a b=>by rw [hDC];exact hfirst0 w1 w3 bm f a b
 clear hfirst0
 obtain ⟨KC,hKC⟩:∃ K,K=(u8s key).toArray:=⟨_,rfl⟩
 have cs:(psC p).size=1:=rfl
 obtain ⟨CS,hCS⟩:∃ C,C=psC p:=⟨_,rfl⟩
 have rs:=refC_size hr;have r0:=ref0 root
 obtain ⟨RC,hRC⟩:∃ R,R=refC root:=⟨_,rfl⟩
 obtain ⟨pl,hpl⟩:∃ k,k=root.pl:=⟨_,rfl⟩
 have hxr:=zeroRfP
 obtain ⟨Z,hZ⟩:∃ Z,Z=refC zref:=⟨_,rfl⟩
 have zs:Z.size=34:=by rw [hZ];exact refC_size zref_wf
 rw [←hpl] at ip hpd r0
 rw [←hCS] at my nd bld cs ⊢
 rw [←hRC] at rs r0 bld ⊢
 rw [←hKC] at kc bld ⊢
 rw [←hZ] at hxr
 have pb:=plB_new w KC CS RC Z
 obtain ⟨an,cn,rfl⟩:=hn.hd
 obtain ⟨ac,cc,rfl⟩:=hc.hd
 obtain ⟨nN,hnN⟩:∃ n,n=N.length:=⟨_,rfl⟩
 rw [←hnN] at hn my ro ⊢
 obtain ⟨n,hnn2⟩:∃ n,n=C.length:=⟨_,rfl⟩
 rw [←hnn2] at hc hl my nd hch hce hhide ⊢
 unfold PlEnd
 have IP:=zh ip;have MY:=zh my;have PD:=zh hpd;have CSZ:=zh cs;have R0:=zh r0;have RS:=zh rs;have KS:=zh kc;have ZS:=zh zs;have PB:=zh pb;have NDD:=zh nd;have RO:=zh ro;have BLD:=zh bld;have FST:=zh hfirst;have CH:=zh hch;have CHE:=zh hce;have HH:=zh hhide;have HN:=zh hhn;have SKIP:=zh hskip;have FIN:=zh hfin;have PI:=zh hPI;have IPK:=zh hIP
 have N0:=zh hn0;have NN0:=zh hnn0;have NNX:=zh hnn;have NNE:=zh hne;have RFL:=zh hrl;have ALL:=zh hall;have KG:=zh hKg;have QW:=zh hQw;have QM:=zh hQm;have NL:=zh hnl;have NLE:=zh hnlen;have HCV:=zh hc;have HNC:=zh hnn2;have TTW:=zh hT;have BIG:=zh hbig;have IT:=zh hit;have KN:=zh hkn
 clear hQm ip my hpd cs r0 rs kc zs pb nd ro bld hfirst hch hce hhide hhn hskip hfin hPI hIP hn0 hnn0 hnn hne hmap hrl hall hKg hQw hnl hnlen hc hnn2 hT hbig hit hPK hPU hRR hRF hKI hKT hm hkn hDC hKC hCS hRC hpl hZ hnN hng G lk hr hn hN
 go_enter Tryz.func13,Tryz.ntmps13
 go_upto_region 1 with fail
 rw [show (((w.alloc (.cells KC 22)).alloc (.cells CS 31)).alloc (.cells RC 46)).alloc (.cells Z 46)=plW w KC CS RC Z from rfl]
 generalize plW w KC CS RC Z=w4 at *
 have c0:w4.cell? ⟨w.heap.size+1+1,0,none⟩=some (.int .i64 pl):=(PB.out.r.cell 0).trans R0.out
 go_wp2_with fail
 refine (IP.out _).mono ?_
 rintro e w5 ⟨rfl,rfl⟩
 rw [PD.out]
 clear c0 hxr
 go_wp2_with (refine wpList_load_is_wanted zr 31 _ zr (w.heap.size+1) 0 1 zr _ Tryz.underlying31 zr infoPS CS _ PB.out.s (by rw [CSZ.out];decide) CS (by simp [CSZ.out]) ?_)
 refine (MY.out _ PB.out.b).mono ?_
 rintro e w6 ⟨rfl,hb6⟩
 have P6:=zh (PB.out.below hb6)
 clear hb6 PB
 go_wp2_with (refine wpList_load_all zr 31 _ zr (w.heap.size+1) zr _ Tryz.underlying31 zr CS _ P6.out.s (by rw [CSZ.out];exact infoPS) ?_)
 refine (NDD.out _ P6.out.b).mono ?_
 rintro e w1 ⟨v5,rfl,ho5,hb5⟩
 have P1:=zh (P6.out.below hb5);have S1:=zh (ownV_sli ho5)
 obtain ⟨a5,c5,e5⟩:=S1.out.hd
 subst e5
 rw [NL.out] at S1 ⊢
 have T1:Hid (TT w1):=zh (TTW.out.below P1.out.b)
 have LZ:Hid (w.heap.size+1+1+1 < w1.heap.size):=zh P1.out.z.lt
 clear ho5 hb5 P6
 go_upto_region 4 with fail
 refine wp_region_plan_in (fun x'=>Below w1.heap.size w1 x') (.take 0 (.take 1 (.take 2 (.take 3 (.take 4 (.take 5 (.take 6 (.sole 7 (.take 8 (.sole 9 (.take 10 .done))))))))))) (by kernel_rfl) (by kernel_rfl) (by kernel_rfl) (Below.refl _ _).drew ?_
 (first | refine Mem.pm1 ?_ | refine Mem.pm2 ?_ | refine Mem.pt ?_ | refine Mem.pf ?_)
 (simp only [Mem.zp,Mem.pb,Mem.pc])
 refine plan_row 22 _ w.heap.size _ KC 22 zr zr zr ze (fun w' hw'=>P1.out.k.below hw' P1.out.k.lt) Tryz.underlying22 zr (by rw [KS.out];kernel_rfl) ?_
 (simp only [Mem.zp,Mem.pb,Mem.pc])
 (first | refine Mem.pm1 ?_ | refine Mem.pm2 ?_ | refine Mem.pt ?_ | refine Mem.pf ?_)
 (simp only [Mem.zp,Mem.pb,Mem.pc])
 refine plan_row 31 _ (w.heap.size+1) _ CS 31 zr zr zr ze (fun w' hw'=>P1.out.s.below hw' P1.out.s.lt) Tryz.underlying31 zr (by rw [CSZ.out];exact infoPS) ?_
 (simp only [Mem.zp,Mem.pb,Mem.pc])
 refine plan_row 46 _ (w.heap.size+1+1) _ RC 46 zr zr zr ze (fun w' hw'=>P1.out.r.below hw' P1.out.r.lt) Tryz.underlying46 zr (by rw [RS.out];exact infoRfP) ?_
 (simp only [Mem.zp,Mem.pb,Mem.pc])
 iterate 2 ((first | refine Mem.pm1 ?_ | refine Mem.pm2 ?_ | refine Mem.pt ?_ | refine Mem.pf ?_);(simp only [Mem.zp,Mem.pb,Mem.pc]))
 refine plan_call 53 _ _ _ (by kernel_rfl) zr zr zr (by first | exact Mem.ev_none _ | (simp only [List.map_toArray,List.map_cons,List.map_nil,Mem.ev_tmp,List.getD_cons_succ,List.getD_cons_zero] <;> rfl)) ?_
 refine (RO.out _ _ (P1.out.b.drew) (S1.out.below (Below.refl _ _).drew)).mono ?_
 rintro e w3 ⟨bm,f,rfl,hrm,hb3⟩
 have D3:Hid (Below w1.heap.size w1 w3):=zh (Below.trans (Below.refl _ _).drew hb3)
 have M3:Hid (RMap w3 w1.heap.size bm f (fun q=>q∈KT) (fun q=>findD N (q:Int)) 1000):=zh hrm
 clear hrm hb3
 refine ⟨_,rfl,D3.out,?_⟩
 (simp only [Mem.zp,Mem.pb,Mem.pc])
 refine plan_build 136 _ #[(0,.pointer none),(1,.agg KC),(2,.int .u32 (V ep)),(3,.agg CS),(4,.agg RC),(5,.map (some bm))] (.agg (DC bm)) zr zr zr (by first | rfl | simp [Act.eval]) (fun wx=>BLD.out _ wx) ?_
 (simp only [Mem.zp,Mem.pb,Mem.pc])
 refine plan_box 136 _ (DC bm) zr zr zr ze (D3.out.alloc D3.out.size _) ?_
 have D4:Hid (Below w1.heap.size w1 (w3.alloc (.cells (DC bm) 136))):=zh (D3.out.alloc D3.out.size _)
 have K4:=zh (FST.out w1 w3 bm f D3.out M3.out)
 (simp only [Mem.zp,Mem.pb,Mem.pc])
 (first | refine Mem.pm1 ?_ | refine Mem.pm2 ?_ | refine Mem.pt ?_ | refine Mem.pf ?_)
 (simp only [Mem.zp,Mem.pb,Mem.pc])
 refine plan_nil ?_
 obtain ⟨bd,hbd⟩:∃ bd,bd=w3.heap.size:=⟨_,rfl⟩
 rw [←hbd] at K4 ⊢
 clear hbd D3 M3
 generalize w3.alloc (.cells (DC bm) 136)=w4' at *
 go_upto_region 6 with fail
 go_loopw [54] (fun vi wr=>∃ k:Nat,k≤n∧vi=.int .i64 (k:Int)∧∃ m' vp D ws,AtCh C k m'∧m'≤p∧PK w1 wr bd bm f m' vp D ws) (fun vi _=>n - (intOf vi).toNat)
 case atStart=>exact ⟨0,by omega,rfl,0,_,_,_,N0.out,by omega,K4.out⟩
 case round=>
  obtain ⟨k,hk,rfl,m',vp,D,ws,hat,hmp,hpk⟩:=hrel
  have AT:=zh hat;have KW:=zh hpk;have HMP:=zh hmp
  have BW:Hid (Below w1.heap.size w1 wr):=zh (PI.out _ _ _ _ _ _ _ _ _ hpk).b
  have B0:Hid (Below w.heap.size w wr):=zh (P1.out.b.trans (BW.out.mono P1.out.b.size))
  have VW:=zh (HCV.out.below B0.out)
  clear hat hpk hmp
  by_cases hlt:k < n
  ·have hlt':(k:Int) < (n:Int):=by omega
   obtain ⟨b1,o1,u,e1,hlb,cz0,cu0,hsu⟩:=slch_at (i:=k) VW.out HNC.out hlt
   subst e1
   obtain ⟨x,hx,hxp,hmx,hl2,htc,hcp,hat2,hgap⟩:=CH.out k m' AT.out hlt
   rw [hx] at cz0
   obtain ⟨a3,cap3,rfl⟩:=sl_inv hsu
   rw [hl2] at cu0 hsu
   have cz:wr.cell? ⟨b1,o1+k*2,none⟩=some (.int .i64 (x:Int)):=cz0
   have cu:wr.cell? ⟨b1,o1+k*2+1,none⟩=some (.slice a3 256 cap3):=cu0
   have hb3:Below wr.heap.size wr (wr.alloc (.cells (chRow (x:Int) (.slice a3 256 cap3)) 76)):=(Below.refl _ _).alloc (Nat.le_refl _) _
   have A3:=zh (at_new wr (chRow (x:Int) (.slice a3 256 cap3)) 76)
   have K3:Hid (PK w1 (wr.alloc (.cells (chRow (x:Int) (.slice a3 256 cap3)) 76)) bd bm f x vp D ws):=zh (IPK.out _ _ _ _ _ _ _ _ _ ((PI.out _ _ _ _ _ _ _ _ _ (SKIP.out _ _ _ _ _ _ _ _ _ _ KW.out hmx (by have:=BIG.out.1;omega) hgap)).below hb3))
   have CALL:=zh (HH.out _ _ _ _ _ _ _ _ x k hlt hx hxp hl2 htc hcp K3.out T1.out (.slice a3 256 cap3) (hsu.below hb3))
   have AT2:=zh hat2;have XP:Hid (x+1≤p):=zh hxp
   clear cz0 cu0 hsu hx hl2 htc hcp hat2 hgap hlb hb3 hmx hxp
   obtain ⟨z,hz⟩:∃ z:Int,z=(x:Int):=⟨_,rfl⟩
   rw [←hz] at A3 K3 CALL cz
   clear hz
   go_upto_region 8 with (refine wpList_store_new zr 76 _ _ zr zr (chRow z (.slice a3 256 cap3)) _ _ zr zr (by exact infoCh16) zr (chRow_one _ _ _ _) ?_)
   clear cz cu
   obtain ⟨bx,hbx⟩:∃ bx,bx=wr.heap.size:=⟨_,rfl⟩
   rw [←hbx] at A3 ⊢
   clear hbx
   generalize wr.alloc (.cells (chRow z (.slice a3 256 cap3)) 76)=w3 at *
   have c0:w3.cell? ⟨bx,0,none⟩=some (.int .i64 z):=(A3.out.cell 0).trans rfl
   have c1:w3.cell? ⟨bx,1,none⟩=some (.slice a3 256 cap3):=(A3.out.cell 1).trans rfl
   go_wp2_with fail
   refine CALL.out.mono ?_
   rintro e w5 ⟨rfl,⟨vp',D',ws',hd,_⟩,_⟩
   have K5:=zh (IPK.out _ _ _ _ _ _ _ _ _ hd)
   clear hd c0 c1
   go_wp2_with fail
   go_roundw
   case rel=>exact ⟨k+1,by omega,by go_num,x+1,vp',D',ws',AT2.out,XP.out,K5.out⟩
   case measure=>simp [intOf];omega
  ·have hkn:k=n:=by omega
   subst hkn
   have hge:¬ (k:Int) < (k:Int):=by omega
   have K5:Hid (PK w1 wr bd bm f p vp D ws):=zh (SKIP.out _ _ _ _ _ _ _ _ _ _ KW.out HMP.out BIG.out.1 (CHE.out _ AT.out))
   have S5:=zh (S1.out.below BW.out)
   clear KW AT HMP
   go_upto_region 14 with fail
   have hkn1:kn≤259:=NLE.out
   obtain ⟨vp0,hvp0⟩:∃ v,v=vp:=⟨_,rfl⟩
   obtain ⟨wl,hwl⟩:∃ y,y=wr:=⟨_,rfl⟩
   rw [←hwl] at BW B0 VW K5 S5 ⊢
   clear hwl hvp0 vp0
   go_loopw [23,71] (fun vt vi wr=>∃ j:Nat,j≤kn∧vi=.int .i64 (j:Int)∧∃ m' vp D ws,AtNd p C j m'∧m'≤m∧PK w1 wr bd bm f m' vp D ws∧wr.ownsRow w1.heap.size 127 2 vt j (ndVs f (KT.take j))∧∀ k,D k→vt.ownBlock≠some k) (fun _ vi _=>kn - (intOf vi).toNat)
   case atStart=>exact ⟨0,by omega,rfl,p,_,_,_,NN0.out,by have:=BIG.out.1;omega,K5.out,by rw [List.take_zero];exact World.ownsRow_nil _ _ _ _,fun k _=>by simp [Value.ownBlock]⟩
   case round=>
    obtain ⟨j,hj,rfl,m',vp,D,ws,hat,hmm,hpk,hown,hdis⟩:=hrel
    have AT:=zh hat;have KW:=zh hpk;have MM:=zh hmm;have OW:=zh hown;have DIS:=zh hdis
    have BW:Hid (Below w1.heap.size w1 wr):=zh (PI.out _ _ _ _ _ _ _ _ _ hpk).b
    have SW:=zh (S1.out.below BW.out)
    obtain ⟨at0,ct0,rfl⟩:=rows_hd hown
    clear hat hpk hmm hown hdis
    by_cases hlt:j < kn
    ·have hlt':(j:Int) < (kn:Int):=by omega
     obtain ⟨b1,o1,e1,hlb,cx0⟩:=sli_at (i:=j) SW.out NL.out.symm hlt
     subst e1
     rw [KG.out j hlt] at cx0
     obtain ⟨hq,hmi,hat2,htk,hgap⟩:=NNX.out j m' AT.out hlt
     obtain ⟨i,hi⟩:∃ i,i=KT.getD j 0:=⟨_,rfl⟩
     rw [←hi] at cx0 hq hmi hat2 htk hgap
     have hil:i < m:=QM.out i hq
     have KI1:Hid (PK w1 wr bd bm f i vp D ws):=zh (SKIP.out _ _ _ _ _ _ _ _ _ _ KW.out hmi hil hgap)
     have CALL:=zh (HN.out _ _ _ _ _ _ _ _ i hq KI1.out T1.out)
     have NF:=zh ((PI.out _ _ _ _ _ _ _ _ _ KI1.out).nodeF OW.out)
     have AT2:=zh hat2;have TK2:=zh htk;have QI:=zh hq;have IL:Hid (i+1≤m):=zh hil
     clear hq hmi hat2 htk hgap hi hlb hil
     have hi6:i≤259:=by have:=IL.out;have:=IT.out;omega
     have WFI:=zh (wfI_nat i (by omega))
     clear hi6
     go_wp2_with fail
     refine CALL.out.mono ?_
     rintro e w5 ⟨rfl,⟨vp',D',ws',hd,hD'⟩,hch⟩
     have O5:Hid (w5.ownsRow w1.heap.size 127 2 (.slice at0 j ct0) j (ndVs f (KT.take j))):=zh (ownsRow_keep OW.out fun g hg=>hch.block g (World.ownsRow.lt OW.out g hg).2 (NF.out g hg))
     have DIS5:Hid (∀ k,D' k→(Value.slice at0 j ct0).ownBlock≠some k):=zh (fun k hk=>(hD' k hk).elim (DIS.out k) fun h e=>by have:=(World.ownsRow.lt OW.out k e).2;omega)
     have I5:=zh hd
     obtain ⟨nm,hmm5,_⟩:=hd.mp.m
     obtain ⟨vi,hvi,hoi⟩:=hd.mp.own i QI.out
     obtain ⟨ai,ci,ei⟩:=rows_hd hoi
     rw [RFL.out] at ei
     subst ei
     have FQ:Hid ((f (i:Int)).getD (.slice none 0 0)=.slice ai (many p i) ci):=zh (by rw [hvi];rfl)
     have MP5:=zh hmm5;have FV:=zh hvi
     have cm:w5.cell? ⟨bd,69,none⟩=some (.map (some bm)):=hd.cells.map
     clear hd hD' hch hmm5 hvi hoi cx0
     obtain ⟨l6,hl6⟩:∃ l,l=many p i:=⟨_,rfl⟩
     rw [←hl6] at FQ FV
     clear hl6
     have O6:Hid ((w5.alloc (.cells (ndRow (i:Int) (.slice ai l6 ci)) 127)).ownsRow w1.heap.size 127 2 (.slice at0 j ct0) j (ndVs f (KT.take j))):=zh (World.ownsRow.alloc O5.out _)
     have B6:Hid (w1.heap.size≤(w5.alloc (.cells (ndRow (i:Int) (.slice ai l6 ci)) 127)).heap.size):=zh (by have:=I5.out.b.size;simp;omega)
     have Q6:Hid (Below w5.heap.size w5 (w5.alloc (.cells (ndRow (i:Int) (.slice ai l6 ci)) 127))):=zh ((Below.refl _ _).alloc (Nat.le_refl _) _)
     have BLN:=zh (buildNd i);have BTN:=zh (builtNd i)
     go_upto_region 20 with (first
      | (at_lookup;refine wpList_mapV_look zr 133 _ _ zr 60 MP5.out (i:Int) zr zr uInt16 uRf16 (.slice none 0 0) (zeroSRf _) WFI.out (.slice ai l6 ci) FQ.out ?_;(simp only [Mem.zp,Mem.pb,Mem.pc]))
      | (refine Mem.wpList_build zr 127 _ #[(0,.int .i64 (i:Int)),(1,.slice ai l6 ci)] (.agg (ndRow (i:Int) (.slice ai l6 ci))) zr (by first | rfl | simp [Act.eval]) (fun wx=>BLN.out _ _ _ wx) ?_)
      | ((refine Go.Great.wpList_buildSliceTo zr 45 127 1 _ zr _ zr _ zr Tryz.underlying45 (ndRow (i:Int) (.slice ai l6 ci)) (by first | (simp [Act.eval,Act.put];exact BTN.out _ _ _) | (go_simp;exact BTN.out _ _ _) | (simp only [List.map_toArray,List.map_cons,List.map_nil];exact BTN.out _ _ _)) ?_))
      | (at_builtin;go_loud (refine wpList_append_app zr _ _ 45 zr (.slice (some ⟨w5.heap.size,0,none⟩) 1 1) j 1 2 [.int .i64 (i:Int),.slice ai l6 ci] (.agg #[.int .i64 0,.slice none 0 0]) 32 elemNd zr (by decide) zr O6.out zr (by exact rdR_new (e:=127) (C:=ndRow (i:Int) (.slice ai l6 ci))) (by simp [Value.oneCell']) (by omega) (by omega) B6.out ?_);intro v8 w8 ho8 ha8 hb8;have O8:Hid (w8.ownsRow w1.heap.size 127 2 v8 (j+1) (ndVs f (KT.take (j+1)))):=zh (by rw [TK2.out,ndVs_snoc f _ _ FV.out];exact ho8);have K8:=zh (IPK.out _ _ _ _ _ _ _ _ _ (I5.out.app O5.out DIS5.out Q6.out ha8 hb8));have DIS8:Hid (∀ k,D' k→v8.ownBlock≠some k):=zh (fun k hk=>by (rcases ha8.b with e | ⟨g,e,hge⟩);(· rw [e];exact DIS5.out k hk);(· rw [e];intro c;injection c with c;have:=(I5.out.d k hk).2.1;have:=Q6.out.size;omega));clear ho8 ha8 hb8))
     clear cm
     go_wp2_with fail
     go_roundw
     case rel=>exact ⟨j+1,by omega,by go_num,i+1,vp',D',ws',AT2.out,IL.out,K8.out,O8.out,DIS8.out⟩
     case measure=>simp [intOf];omega
    ·have hjn:j=kn:=by omega
     subst hjn
     have hge:¬ (j:Int) < (j:Int):=by omega
     have KE:Hid (PK w1 wr bd bm f m vp D ws):=zh (FIN.out _ _ _ _ _ _ _ _ _ KW.out MM.out (NNE.out _ AT.out MM.out))
     have IE:=zh (PI.out _ _ _ _ _ _ _ _ _ KE.out)
     have PZ:=zh (P1.out.below BW.out)
     have OE:Hid (wr.ownsRow w1.heap.size 127 2 (.slice at0 j ct0) j (ndVs f KT)):=zh (by have h:=OW.out;rw [ALL.out] at h;exact h)
     have hrr:=IE.out.rw
     have hre:refL (RR m)=(refC (RR m)).toList:=rfl
     have hrg:=IE.out.cells.root
     have res:=refC_size hrr;have reo:=refC_one (RR m)
     have CPZ:=zh IE.out.cells.puts
     have NZ:Hid (bd≠w.heap.size+1+1+1):=zh (by have:=IE.out.gd;have:=LZ.out;omega)
     rw [hre] at hrg
     obtain ⟨RE,hRE⟩:∃ R,R=refC (RR m):=⟨_,rfl⟩
     rw [←hRE] at hrg res reo
     have HRE:=zh hRE
     have RRG:=zh hrg;have RES:=zh res;have REO:=zh reo
     clear hrr hre hrg res reo hRE KW AT DIS OW
     go_upto_region 21 with fail
     refine wp_region_plan_in (fun x'=>x'.heap[bd]?=wr.heap[bd]?) (.take 0 (.take 1 (.take 2 (.take 3 (.take 4 (.take 5 (.take 6 (.take 7 (.take 8 (.take 9 (.take 10 (.sole 11 (.take 12 .done))))))))))))) (by kernel_rfl) (by kernel_rfl) (by kernel_rfl) rfl ?_
     (first | refine Mem.pm1 ?_ | refine Mem.pm2 ?_ | refine Mem.pt ?_ | refine Mem.pf ?_)
     (simp only [Mem.zp,Mem.pb,Mem.pc])
     refine plan_nilcheck _ ⟨bd,0,none⟩ zr zr zr ze ?_
     (simp only [Mem.zp,Mem.pb,Mem.pc])
     refine plan_field 136 _ 6 bd 0 ⟨bd,70,none⟩ zr zr zr ze (fun wx=>by go_simp) ?_
     (simp only [Mem.zp,Mem.pb,Mem.pc])
     refine plan_cell 44 _ _ vp _ zr zr zr ze (fun w' hw'=>(World.cell?_of_block (a:=⟨bd,70,none⟩) hw').trans CPZ.out) Tryz.underlying44 zr ?_
     (simp only [Mem.zp,Mem.pb,Mem.pc])
     iterate 2 ((first | refine Mem.pm1 ?_ | refine Mem.pm2 ?_ | refine Mem.pt ?_ | refine Mem.pf ?_);(simp only [Mem.zp,Mem.pb,Mem.pc]))
     refine plan_nilcheck _ ⟨bd,0,none⟩ zr zr zr ze ?_
     (simp only [Mem.zp,Mem.pb,Mem.pc])
     refine plan_field 136 _ 4 bd 0 ⟨bd,35,none⟩ zr zr zr ze (fun wx=>by go_simp) ?_
     (simp only [Mem.zp,Mem.pb,Mem.pc])
     refine plan_load_range 46 _ bd (35) _ RE zr zr zr ze (fun w' hw'=>range_block RRG.out hw') Tryz.underlying46 zr (by rw [RES.out];exact infoRfP) ?_
     (simp only [Mem.zp,Mem.pb,Mem.pc])
     iterate 2 ((first | refine Mem.pm1 ?_ | refine Mem.pm2 ?_ | refine Mem.pt ?_ | refine Mem.pf ?_);(simp only [Mem.zp,Mem.pb,Mem.pc]))
     refine plan_store 46 _ _ (w.heap.size+1+1+1) RE Z 46 zr zr zr zr ze ze (by rw [RES.out];exact infoRfP) PZ.out.z (by rw [RES.out,ZS.out]) REO.out (by rw [setRow_other _ _ _ _ NZ.out];rfl) ?_
     (first | refine Mem.pm1 ?_ | refine Mem.pm2 ?_ | refine Mem.pt ?_ | refine Mem.pf ?_)
     (simp only [Mem.zp,Mem.pb,Mem.pc])
     refine plan_nil ?_
     go_wp2_with fail
     try simp only [Exit.inBlock,Exit.then]
     refine ret_vvrv zr (w.heap.size+1+1+1) 46 RE _ _ _ _ zr zr zr zr (PZ.out.z.row RE) Tryz.underlying46 zr (by rw [RES.out];exact infoRfP) ?_
     have ko:∀ k,w1.heap.size≤k→(wr.drew.setRow (w.heap.size+1+1+1) RE).heap[k]?=wr.heap[k]?:=fun k hk=>(setRow_other _ _ k _ (by have:=LZ.out;omega)).trans rfl
     have hsz:(wr.drew.setRow (w.heap.size+1+1+1) RE).heap.size=wr.heap.size:=by simp
     have hmp:RMap (wr.drew.setRow (w.heap.size+1+1+1) RE) w1.heap.size bm f (QC p C) (RF m) 1000:=IE.out.mp.keep (ko bm IE.out.mp.g) fun q v k hq hv hk=>ko k (IE.out.mp.ltq hq hv hk).1
     have hno:(wr.drew.setRow (w.heap.size+1+1+1) RE).ownsRow w1.heap.size 127 2 (.slice at0 j ct0) KT.length (ndVs f KT):=by
      rw [←KN.out]
      exact ownsRow_keep OE.out fun g hg=>ko g (World.ownsRow.lt OE.out g hg).1
     have hwp:=IE.out.out (w':=wr.drew.setRow (w.heap.size+1+1+1) RE) (by omega) (fun k hk _=>ko k hk)
     refine ⟨vp,.slice at0 j ct0,by rw [←HRE.out];rfl,hwp.mono fun k hk _=>by have:=LZ.out;omega,fun w2 h2 k2=>nodes_out (ownsRow_keep hno fun g hg=>k2 g (by have:=(World.ownsRow.lt hno g hg).1;have:=LZ.out;omega) (World.ownsRow.lt hno g hg).2) fun q hq=>?_,below_row (P1.out.b.trans (BW.out.mono P1.out.b.size)).drew (by omega) RE⟩
     obtain ⟨u,hu,ho⟩:=hmp.own q (QW.out q hq)
     exact ⟨u,hu,own_slrf (ownsRow_keep ho fun g hg=>k2 g (by have:=(World.ownsRow.lt ho g hg).1;have:=LZ.out;omega) (World.ownsRow.lt ho g hg).2) (IE.out.mw q (QW.out q hq))⟩
theorem pplan16_any (key:Lb8) (ep:BitVec 32) (p:Nat) (root:RefV) (N:List NdV) (C:List ChV) (vn vc:Value) (w:World) (hT:TT w) (lk:key.length=32) (hr:root.Wf) (hn:SlNd w vn N) (hc:SlCh w vc C) (hN:NdWf N) (hl:C.length≤1000) (h0:1≤p) (h1:p≤216) :
 Calls Tryz.prog 13 #[.pointer none,.agg (u8s key).toArray,.int .u32 (V ep),.agg (psC p),.agg (refC root),vn,vc] w (PlEnd w (planT key ep p root N C)):=by
 by_cases h:mayT p N C=true∧plOk root=true
 ·have e:planT key ep p root N C=(putsC key ep p root N C (itn p),ndsC key ep p root N C (itn p),rootC key ep p root N C (itn p),0):=if_pos h
  rw [e]
  exact pplan_good key ep p root N C vn vc w hT lk hn hc hN hl ⟨h0,h1,h.1,h.2,hN.w,hr⟩
 ·have e:planT key ep p root N C=([],[],zref,1):=if_neg h
  rw [e]
  exact pplan_bad key ep p root N C vn vc w lk hr hn hc hN h1 hl h
end Sha
end Go.Proofs.YtplmfmpbkjnbaaaGreatDoor
namespace Go.Proofs.YtplmfmpbkjnbaaaGreatDoor
namespace Sha
open Go.RowKit Mem
set_option maxRecDepth 100000
theorem ch_take16 {β:Type} (C:List β) (d:β) (j:Nat) (hj:j < C.length):C.take (j+1)=C.take j++[C.getD j d]:=by
 rw [List.take_add_one,List.getElem?_eq_getElem hj,List.getD_eq_getElem?_getD,List.getElem?_eq_getElem hj];rfl
abbrev TR:Foot→World→Value→List RefV→Prop:=fun D w u L=>SlR D w 34 u L.length (refCs L)
theorem buildNd0 (z:Int) (wx:World):(Instr.build 127 #[(0,.int .i64 z)]).run Tryz.prog wx=.ok (.agg (ndRow z (.slice none 0 0))) wx:=by
 unfold ndRow
 kernel_rfl
theorem zeroNd (wx:World):(zeroValue 127).run Tryz.prog wx=.ok (.agg (ndRow 0 (.slice none 0 0))) wx:=by
 unfold ndRow
 kernel_rfl
theorem builtNdz (z:Int) (a2:Option Addr) (l c:Nat):Tryz.prog.builtSlice 127 1 [(0,.agg (ndRow z (.slice a2 l c)))]=some (ndRow z (.slice a2 l c)):=by
 unfold ndRow
 kernel_rfl
theorem ownR_nd {w:World} {B B' n m:Nat} {v v':Value} {xs ys:List Value} (h:w.ownsRow B 46 34 v n xs) (k:w.ownsRow B' 127 2 v' m ys):∀ g,v.ownBlock=some g→v'.ownBlock≠some g:=ownsRow_ne h k (by decide)
structure ThI (w0 w:World) (bx:Nat) (z:Int) (vr vo:Value) (D:Foot) (ws:List (Int × Value)) (N:List NdV) (L:List RefV) (sz:Nat):Prop where
 b:Below w0.heap.size w0 w
 row:At w bx (ndRow z vr) 127
 o:OwnRf w sz 46 vr L
 l:OwnL TR w w0.heap.size 127 vo D ws N
 d:∀ k,D k→k < sz
 n:vo.ownBlock≠some bx
 bs:w0.heap.size≤bx
 dx:¬ D bx
 s:w0.heap.size≤sz∧sz≤w.heap.size
section
variable {w0 w w2 w3 w5 w6:World} {bx sz:Nat} {z:Int} {vr vr' vo:Value} {D:Foot} {ws:List (Int × Value)} {N:List NdV} {L:List RefV} {r:RefV}
theorem ThI.below (h:ThI w0 w bx z vr vo D ws N L sz) (hb:Below w.heap.size w w2):ThI w0 w2 bx z vr vo D ws N L sz:=
 ⟨h.b.trans (hb.mono h.b.size),h.row.below hb h.row.lt,ownsRow_below h.o hb,h.l.below elseR hb,h.d,h.n,h.bs,h.dx,h.s.1,Nat.le_trans h.s.2 hb.size⟩
theorem ThI.add (h:ThI w0 w bx z vr vo D ws N L sz) (hb3:Below w.heap.size w w3) (ha:App w3 w5 vr vr') (hb5:Below sz w3 w5) (ho:w5.ownsRow sz 46 34 vr' (L.length+1) (refCs L++refL r)) (hA:At w6 bx (ndRow z vr') 127) (hk:∀ k,k≠bx→w6.heap[k]?=w5.heap[k]?) (hB:∀ B a,Below B a w5→B≤bx→Below B a w6) :
 ThI w0 w6 bx z vr' vo D ws N (L++[r]) sz:=by
 have z3:=hb3.size;have z5:=ha.size;have zs:=h.s
 have z6:w5.heap.size≤w6.heap.size:=(hB 0 w5 (Below.refl _ _) (Nat.zero_le _)).size
 have hbx:=h.row.lt
 have nrx:vr.ownBlock≠some bx:=own_ne_at h.o h.row (by decide)
 have keep:∀ k,k < w.heap.size→k≠bx→vr.ownBlock≠some k→w6.heap[k]?=w.heap[k]?:=fun k hl h1 h2=>by
  rw [hk k h1,ha.k k (by omega) h2,hb3.block k hl]
 have hr5:At w5 bx (ndRow z vr) 127:=at_appd (h.row.below hb3 hbx) ha nrx
 have nrx5:vr'.ownBlock≠some bx:=own_ne_at ho hr5 (by decide)
 have hlo:=fun k hk=>(World.ownsRow.lt h.l.o k hk).2
 have hlr:=fun k hk=>World.ownsRow.lt h.o k hk
 refine ⟨hB _ _ (((h.b.trans (hb3.mono h.b.size)).trans (hb5.mono zs.1))) h.bs,hA,?_,⟨h.l.e.mono fun _ _ a=>⟨a.1,SlR.keep a.2 (by omega) fun k hd hl=>keep k hl (fun e=>h.dx (by rw [←e];exact hd)) fun e=>?_⟩,ownsRow_keep h.l.o fun g hg=>keep g (hlo g hg) (fun e=>h.n (by rw [←e];exact hg)) fun e=>ownR_nd h.o h.l.o g e hg,fun k hd=>⟨Nat.lt_of_lt_of_le (h.l.d k hd).1 (by omega),(h.l.d k hd).2⟩⟩,h.d,h.n,h.bs,h.dx,zs.1,by omega⟩
 ·show w6.ownsRow sz 46 34 vr' (L++[r]).length (refCs (L++[r]))
  rw [refCs_snoc,List.length_append]
  exact ownsRow_keep ho fun g hg=>hk g (fun e=>nrx5 (by rw [←e];exact hg))
 ·have:=(hlr k e).1
  have:=h.d k hd
  omega
end
theorem own_slR {w:World} {B:Nat} {e:TypeId} {z n:Nat} {v:Value} {xs:List Value} (h:w.ownsRow B e z v n xs):SlR (fun k=>v.ownBlock=some k) w z v n xs:=by
 obtain ⟨hl,a,cap,e,hc,hr⟩:=ownsRow_slR h
 refine ⟨hl,a,cap,e,hc,fun hne=>?_⟩
 obtain ⟨bb,oo,ea,_,hlt,hcell⟩:=hr hne
 refine ⟨bb,oo,ea,?_,hlt,hcell⟩
 rcases h.2 with ⟨e2,h0⟩ | ⟨g,cap',cur,e2,_⟩
 ·exact absurd h0 hne
 ·rw [e] at e2
  injection e2 with e3 _ _
  rw [e,e3]
  rw [ea] at e3
  injection e3 with e3
  injection e3 with e3 _ _
  rw [e3];rfl
theorem infoRfs16:(Tryz.prog.info? 60).map (·.size)=some 1:=by kernel_rfl
theorem theirs16_any (N:List NdV) (v:Value) (w:World) (hv:SlNd w v N) (hN:NdWf N):Calls Tryz.prog 14 #[v] w fun e w'=>∃ v',e=.returned v'∧SlNd w' v' N∧Below w.heap.size w w':=by
 obtain ⟨av,cv,rfl⟩:=hv.hd
 have htk:=fun j hj=>ch_take16 N znd j hj
 have hall:N.take N.length=N:=List.take_length
 have htl:∀ j,j≤N.length→(N.take j).length=j:=fun j hj=>by rw [List.length_take];omega
 have hget:=hN.get
 have hnw:=hN.w
 have hl:=hN.n
 obtain ⟨n,hn⟩:∃ n,n=N.length:=⟨_,rfl⟩
 rw [←hn] at hv hl htk hall htl hget ⊢
 have HV:=zh hv;have TK:=zh htk;have ALL:=zh hall;have TL:=zh htl;have HN:=zh hn;have GET:=zh hget;have NW:=zh hnw
 clear hv htk hall htl hn hget hnw hN
 go_enter Tryz.func14,Tryz.ntmps14
 go_wp2_with fail
 go_loopw [3,11] (fun vo vi wr=>∃ j:Nat,j≤n∧vi=.int .i64 (j:Int)∧(∃ D ws,OwnL TR wr w.heap.size 127 vo D ws (N.take j))∧Below w.heap.size w wr) (fun _ vi _=>n - (intOf vi).toNat)
 case atStart=>exact ⟨0,by omega,rfl,⟨_,_,by rw [List.take_zero];exact ownL_nil _ _ _⟩,Below.refl _ _⟩
 case round=>
  obtain ⟨j,hj,rfl,⟨D,ws,ho⟩,hbw⟩:=hrel
  have OW:=zh ho;have BW:=zh hbw
  obtain ⟨ao,co,hvo⟩:=rows_hd ho.o
  rw [TL.out j hj] at hvo
  subst hvo
  clear ho hbw
  by_cases hlt:j < n
  ·have hlt':(j:Int) < (n:Int):=by omega
   obtain ⟨b1,o1,u,e1,hlb,cz0,cu0,hsu⟩:=slnd_at (i:=j) HV.out HN.out hlt
   subst e1
   have htk:=TK.out j hlt
   have hgt:=GET.out j hlt
   have hc:N.getD j znd=((N.getD j znd).1,(N.getD j znd).2):=rfl
   obtain ⟨x,hx⟩:∃ x,x=(N.getD j znd).2:=⟨_,rfl⟩
   obtain ⟨y,hy⟩:∃ y,y=(N.getD j znd).1:=⟨_,rfl⟩
   rw [hc,←hx,←hy] at htk
   rw [←hx] at hsu hgt
   obtain ⟨a3,cap3,e3⟩:=hsu.hd
   subst e3
   obtain ⟨m,hm⟩:∃ m,m=x.length:=⟨_,rfl⟩
   have hm1:m≤1000:=by rw [hm];exact hgt.1
   have XW:=zh hgt.2
   rw [←hm] at cu0 hsu
   have SX:=zh hsu;have HM:=zh hm
   have cz:wr.cell? ⟨b1,o1+j*2,none⟩=some (.int .i64 y):=by rw [hy];exact (cell_keep BW.out hlb).trans cz0
   have cu:wr.cell? ⟨b1,o1+j*2+1,none⟩=some (.slice a3 m cap3):=(cell_keep BW.out hlb).trans cu0
   have hb3:Below wr.heap.size wr (wr.alloc (.cells (ndRow y (.slice a3 m cap3)) 124)):=(Below.refl _ _).alloc (Nat.le_refl _) _
   have A3:=zh (at_new wr (ndRow y (.slice a3 m cap3)) 124)
   have B3:Hid (Below w.heap.size w (wr.alloc (.cells (ndRow y (.slice a3 m cap3)) 124))):=zh (BW.out.alloc BW.out.size _)
   have Q3:=zh hb3
   have O3:=zh (OW.out.below elseR hb3)
   have HTK:=zh htk
   have DSZ:Hid (∀ k,D k→k < wr.heap.size):=zh fun k hk=>(OW.out.d k hk).1
   obtain ⟨sz,hsz⟩:∃ s,s=wr.heap.size:=⟨_,rfl⟩
   rw [←hsz] at DSZ Q3
   have SZ0:Hid (w.heap.size≤sz):=zh (by rw [hsz];exact BW.out.size)
   have SZE:=zh hsz
   clear cz0 cu0 htk hsu hx hy hm hlb hb3 hc hgt
   go_upto_region 5 with (refine wpList_store_new zr 124 _ _ zr zr (ndRow y (.slice a3 m cap3)) _ _ zr zr (by exact infoNdR) zr (ndRow_one _ _ _ _) ?_)
   clear cz cu
   obtain ⟨b5,hb5⟩:∃ b,b=wr.heap.size:=⟨_,rfl⟩
   rw [←hb5] at A3 ⊢
   have BSZ:Hid (b5=sz):=zh (by rw [hb5,hsz])
   clear hb5 hsz
   generalize wr.alloc (.cells (ndRow y (.slice a3 m cap3)) 124)=w3 at *
   have c0:w3.cell? ⟨b5,0,none⟩=some (.int .i64 y):=(A3.out.cell 0).trans rfl
   have hx:=zeroNd
   have BLD:=zh (buildNd0 y)
   have A4:=zh (at_new w3 (ndRow y (.slice none 0 0)) 127)
   have T4:Hid (ThI w (w3.alloc (.cells (ndRow y (.slice none 0 0)) 127)) w3.heap.size y (.slice none 0 0) (.slice ao j co) D ws (N.take j) (x.take 0) sz):=zh (by
    have hb4:Below w3.heap.size w3 (w3.alloc (.cells (ndRow y (.slice none 0 0)) 127)):=(Below.refl _ _).alloc (Nat.le_refl _) _
    refine ⟨B3.out.alloc B3.out.size _,at_new _ _ _,by rw [List.take_zero];exact World.ownsRow_nil _ _ _ _,O3.out.below elseR hb4,DSZ.out,fun e=>?_,B3.out.size,fun h=>?_,SZ0.out,by have:=Q3.out.size;have:=SZE.out;simp;omega⟩
    ·have:=(World.ownsRow.lt O3.out.o _ e).2;omega
    ·have:=DSZ.out _ h;have:=Q3.out.size;have:=SZE.out;omega)
   go_upto_region 6 with (first
    | (refine Mem.wpList_build zr 127 _ #[(0,.int .i64 y)] (.agg (ndRow y (.slice none 0 0))) zr (by first | rfl | simp [Act.eval]) (fun wx=>BLD.out wx) ?_)
    | (refine wpList_store_new zr 127 _ _ zr zr (ndRow y (.slice none 0 0)) _ _ zr zr (by exact infoNd16) zr (ndRow_one _ _ _ _) ?_))
   clear hx c0
   have Q4:Hid (Below w3.heap.size w3 (w3.alloc (.cells (ndRow y (.slice none 0 0)) 127))):=zh ((Below.refl _ _).alloc (Nat.le_refl _) _)
   have A34:=zh (A3.out.alloc (.cells (ndRow y (.slice none 0 0)) 127))
   obtain ⟨bx,hbx⟩:∃ b,b=w3.heap.size:=⟨_,rfl⟩
   rw [←hbx] at A4 T4 ⊢
   clear hbx Q4
   generalize w3.alloc (.cells (ndRow y (.slice none 0 0)) 127)=w4 at *
   have c1:w4.cell? ⟨b5,1,none⟩=some (.slice a3 m cap3):=(A34.out.cell 1).trans rfl
   go_upto_region 7 with fail
   clear c1
   go_loopw [21] (fun vi wr=>∃ i:Nat,i≤m∧vi=.int .i64 (i:Int)∧∃ vr,ThI w wr bx y vr (.slice ao j co) D ws (N.take j) (x.take i) sz) (fun vi _=>m - (intOf vi).toNat)
   case atStart=>exact ⟨0,by omega,rfl,_,T4.out⟩
   case round=>
    obtain ⟨i,hi,rfl,vr,hth⟩:=hrel
    obtain ⟨ar,cr,hvr⟩:=rows_hd hth.o
    have htl:(x.take i).length=i:=by rw [List.length_take,←HM.out];omega
    rw [htl] at hvr
    subst hvr
    have TH:=zh hth;have TLI:=zh htl
    clear hth htl
    by_cases hit:i < m
    ·have hit':(i:Int) < (m:Int):=by omega
     obtain ⟨b2,o2,e2,hlb2,hrg⟩:=slrf_at (i:=i) SX.out HM.out hit
     subst e2
     have hxt:=ch_take16 x zref i (by rw [←HM.out];exact hit)
     have hwi:=getD_wf XW.out i
     obtain ⟨r,hr⟩:∃ r,r=x.getD i zref:=⟨_,rfl⟩
     rw [←hr] at hrg hxt hwi
     have hx:=zeroRfR
     have rb:=built_rp r hwi
     have rdf:=fun wx=>rd_rf (w:=wx) (e:=46) hwi
     have rl:=refL_one r
     obtain ⟨M,hM⟩:∃ M,M=refC r:=⟨_,rfl⟩
     obtain ⟨Z,hZ⟩:∃ Z,Z=refC zref:=⟨_,rfl⟩
     have zsz:Z.size=34:=by rw [hZ];exact refC_size zref_wf
     have ms:M.size=34:=by rw [hM];exact refC_size hwi
     have mo:M.all (·.oneCell')=true:=by rw [hM];exact refC_one r
     have hrgm:wr.rangeAt b2 (o2+i*34) M.toList:=by rw [hM];exact range_block hrg (TH.out.b.block b2 hlb2)
     rw [←hM] at rb rdf
     rw [←hZ] at hx
     have MS:=zh ms;have MO:=zh mo;have ZSZ:=zh zsz;have RB:=zh rb;have RDF:=zh rdf;have RLO:=zh rl;have RGM:=zh hrgm;have HXT:=zh hxt
     have A8:=zh (at_new wr M 25)
     have T8:=zh (TH.out.below ((Below.refl _ _).alloc (Nat.le_refl _) (.cells M 25)))
     clear hrg hxt hwi hr rb rdf rl zsz ms mo hrgm hM hZ hlb2
     go_upto_region 9 with (first
      | (refine wpList_load_mid zr 25 _ zr b2 (o2+i*34) zr M.toList _ RGM.out Tryz.underlying25 zr (by rw [infoRfR,Array.length_toList,MS.out]) ?_;rw [Array.toArray_toList])
      | (refine wpList_store_new zr 25 _ _ zr zr M _ _ zr zr (by rw [MS.out];exact infoRfR) (by rw [MS.out,ZSZ.out]) MO.out ?_))
     clear hx
     obtain ⟨b8,hb8⟩:∃ b,b=wr.heap.size:=⟨_,rfl⟩
     rw [←hb8] at A8 ⊢
     clear hb8
     generalize (wr.alloc (.cells M 25))=w8 at *
     have cvr:w8.cell? ⟨bx,1,none⟩=some (.slice ar i cr):=(T8.out.row.cell 1).trans rfl
     have O9:Hid ((w8.alloc (.cells M 46)).ownsRow sz 46 34 (.slice ar i cr) i (refCs (x.take i))):=zh (by have h:=World.ownsRow.alloc T8.out.o (.cells M 46);rw [TLI.out] at h;exact h)
     have P9:Hid (At (w8.alloc (.cells M 46)) bx (ndRow y (.slice ar i cr)) 127):=zh (T8.out.row.alloc _)
     have B9:Hid (sz≤(w8.alloc (.cells M 46)).heap.size):=zh (by have:=T8.out.s.2;simp;omega)
     have Q9:Hid (Below w8.heap.size w8 (w8.alloc (.cells M 46))):=zh ((Below.refl _ _).alloc (Nat.le_refl _) _)
     go_upto_region 10 with (first
      | (refine wpList_load_all zr 25 _ zr b8 zr _ Tryz.underlying25 zr M _ A8.out (by rw [MS.out];exact infoRfR) ?_)
      | ((refine Go.Great.wpList_buildSliceTo zr 60 46 1 _ zr _ zr _ zr Tryz.underlying60 M (by first | (simp [Act.eval,Act.put];exact RB.out) | (go_simp;exact RB.out) | (simp only [List.map_toArray,List.map_cons,List.map_nil];exact RB.out)) ?_))
      | (at_builtin;go_loud (refine wpList_append_app zr _ _ 60 zr (.slice (some ⟨w8.heap.size,0,none⟩) 1 1) i 1 34 (refL r) (.agg (refC zref)) 48 elemRP (refC_size zref_wf) (by decide) zr O9.out zr (RDF.out w8) RLO.out (by omega) (by omega) B9.out ?_);intro v10 w10 ho10 ha10 hb10;obtain ⟨a10,c10,rfl⟩:=rows_hd ho10;have O10:=zh ho10;have A10:=zh ha10;have B10:=zh hb10;have P10:=zh (at_appd P9.out ha10 (own_ne_at O9.out P9.out (by decide)));clear ho10 ha10 hb10)
      | (refine Mem.wpList_store_one zr 60 _ _ zr zr bx 1 (.slice a10 (i+1) c10) zr zr zr infoRfs16 _ 127 P10.out (by show 1 < 2;decide) ?_;intro w11 ha11 ho11 hb11;have A11:=zh ha11;have H11:=zh ho11;have B11:=zh hb11;clear ha11 ho11 hb11))
     clear cvr
     have T11:Hid (ThI w w11 bx y (.slice a10 (i+1) c10) (.slice ao j co) D ws (N.take j) (x.take (i+1)) sz):=zh (by
      rw [HXT.out]
      exact T8.out.add Q9.out A10.out B10.out (by rw [TLI.out];exact O10.out) A11.out (fun k hk=>H11.out k hk) (fun B a hb hle=>B11.out B a hb hle))
     go_wp2_with fail
     go_roundw
     case rel=>exact ⟨i+1,by omega,by go_num,_,T11.out⟩
     case measure=>simp [intOf];omega
    ·have him:i=m:=by omega
     subst him
     have hge:¬ (i:Int) < (i:Int):=by omega
     have hxa:x.take i=x:=by rw [HM.out];exact List.take_length
     rw [hxa] at TH TLI
     clear hxa
     have BT:=zh (builtNdz y)
     have Q9:Hid (Below wr.heap.size wr (wr.alloc (.cells (ndRow y (.slice ar i cr)) 127))):=zh ((Below.refl _ _).alloc (Nat.le_refl _) _)
     have O9:Hid ((wr.alloc (.cells (ndRow y (.slice ar i cr)) 127)).ownsRow w.heap.size 127 2 (.slice ao j co) j (chVs ws)):=zh (by have h:=World.ownsRow.alloc TH.out.l.o (.cells (ndRow y (.slice ar i cr)) 127);rw [TL.out j hj] at h;exact h)
     have B9:Hid (w.heap.size≤(wr.alloc (.cells (ndRow y (.slice ar i cr)) 127)).heap.size):=zh (by have:=TH.out.b.size;simp;omega)
     go_upto_region 12 with (first
      | (refine wpList_load_all zr 127 _ zr bx zr _ Tryz.underlying127 zr (ndRow y (.slice ar i cr)) _ TH.out.row (by exact infoNd16) ?_)
      | ((refine Go.Great.wpList_buildSliceTo zr 45 127 1 _ zr _ zr _ zr Tryz.underlying45 (ndRow y (.slice ar i cr)) (by first | (simp [Act.eval,Act.put];exact BT.out _ _ _) | (go_simp;exact BT.out _ _ _) | (simp only [List.map_toArray,List.map_cons,List.map_nil];exact BT.out _ _ _)) ?_))
      | (at_builtin;go_loud (refine wpList_append_app zr _ _ 45 zr (.slice (some ⟨wr.heap.size,0,none⟩) 1 1) j 1 2 [.int .i64 y,.slice ar i cr] (.agg #[.int .i64 0,.slice none 0 0]) 32 elemNd zr (by decide) zr O9.out zr (by exact rdR_new (e:=127) (C:=ndRow y (.slice ar i cr))) (by simp [Value.oneCell']) (by omega) (by omega) B9.out ?_);intro v12 w12 ho12 ha12 hb12;have O12:=zh ho12;have A12:=zh ha12;have B12:=zh hb12;clear ho12 ha12 hb12))
     have O13:Hid (∃ D ws,OwnL TR w12 w.heap.size 127 v12 D ws (N.take (j+1))):=zh (by
      rw [HTK.out]
      have ht:=TH.out
      have hsr:TR (fun k=>(Value.slice ar i cr).ownBlock=some k) wr (.slice ar i cr) x:=own_slR ht.o
      refine ⟨_,_,ht.l.add elseR hsr (fun k hk=>⟨(World.ownsRow.lt ht.o k hk).2,ownR_nd ht.o ht.l.o k hk⟩) Q9.out A12.out (by rw [TL.out j hj];exact O12.out)⟩)
     have B13:Hid (Below w.heap.size w w12):=zh ((TH.out.b.trans (Q9.out.mono TH.out.b.size)).trans B12.out)
     go_wp2_with fail
     go_roundw
     case rel=>exact ⟨j+1,by omega,by go_num,O13.out,B13.out⟩
     case measure=>simp [intOf];omega
  ·have hjn:j=n:=by omega
   subst hjn
   have hge:¬ (j:Int) < (j:Int):=by omega
   rw [ALL.out] at OW
   have SV:=zh (own_nds OW.out NW.out)
   go_wp2_with fail
   go_ret
   exact ⟨_,rfl,SV.out,BW.out⟩
end Sha
end Go.Proofs.YtplmfmpbkjnbaaaGreatDoor
namespace Go.Proofs.YtplmfmpbkjnbaaaGreatDoor
namespace Sha
open Go.RowKit Mem
set_option maxRecDepth 100000
theorem neqRR_self16 {a:RefV} (ha:a.Wf) (x y:Operand) (w:World):(do eqGuard .neq 25 x y (.agg (refC a)) (.agg (refC a));binOp .neq 25 (.agg (refC a)) (.agg (refC a)):Sem Value).run Tryz.prog w=.ok (.bool false) w:=by
 have h:=neqRR14 ha ha x y w
 rw [sameRef_self] at h
 exact h
theorem same16_any (N:List NdV) (va vb:Value) (w:World) (ha:SlNd w va N) (hb:SlNd w vb N) (hN:NdWf N):Calls Tryz.prog 18 #[va,vb] w (VEnd (.bool true) w):=by
 obtain ⟨aa,ca,rfl⟩:=ha.hd
 obtain ⟨ab,cb,rfl⟩:=hb.hd
 have hget:=hN.get
 have hl:=hN.n
 obtain ⟨n,hn⟩:∃ n,n=N.length:=⟨_,rfl⟩
 rw [←hn] at ha hb hl hget ⊢
 have HA:=zh ha;have HB:=zh hb;have HN:=zh hn;have GET:=zh hget
 clear ha hb hn hget hN
 go_enter Tryz.func18,Tryz.ntmps18
 go_wp2_with fail
 go_loopw [15] (fun vi wr=>∃ j:Nat,j≤n∧vi=.int .i64 (j:Int)∧Below w.heap.size w wr) (fun vi _=>n - (intOf vi).toNat)
 case atStart=>exact ⟨0,by omega,rfl,Below.refl _ _⟩
 case round=>
  obtain ⟨j,hj,rfl,hbw⟩:=hrel
  by_cases hlt:j < n
  ·have hlt':(j:Int) < (n:Int):=by omega
   obtain ⟨ba,oa,ua,e1,hlb,cz0,cu0,hsu⟩:=slnd_at (i:=j) HA.out HN.out hlt
   subst e1
   obtain ⟨bb,ob,ub,e1,hlb2,dz0,du0,hsv⟩:=slnd_at (i:=j) HB.out HN.out hlt
   subst e1
   have hgt:=GET.out j hlt
   obtain ⟨x,hx⟩:∃ x,x=(N.getD j znd).2:=⟨_,rfl⟩
   obtain ⟨y,hy⟩:∃ y,y=(N.getD j znd).1:=⟨_,rfl⟩
   rw [←hx] at hsu hsv hgt
   rw [←hy] at cz0 dz0
   obtain ⟨a3,c3,e3⟩:=hsu.hd
   subst e3
   obtain ⟨a4,c4,e4⟩:=hsv.hd
   subst e4
   obtain ⟨m,hm⟩:∃ m,m=x.length:=⟨_,rfl⟩
   have hm1:m≤1000:=by rw [hm];exact hgt.1
   have XW:=zh hgt.2
   rw [←hm] at cu0 hsu du0 hsv
   have SX:=zh hsu;have SY:=zh hsv;have HM:=zh hm;have BW:=zh hbw
   have L1:Hid (ba < wr.heap.size):=zh (Nat.lt_of_lt_of_le hlb hbw.size);have L2:Hid (bb < wr.heap.size):=zh (Nat.lt_of_lt_of_le hlb2 hbw.size)
   have CZ:Hid (wr.cell? ⟨ba,oa+j*2,none⟩=some (.int .i64 y)):=zh ((cell_keep hbw hlb).trans cz0)
   have CU:Hid (wr.cell? ⟨ba,oa+j*2+1,none⟩=some (.slice a3 m c3)):=zh ((cell_keep hbw hlb).trans cu0)
   have DZ:Hid (wr.cell? ⟨bb,ob+j*2,none⟩=some (.int .i64 y)):=zh ((cell_keep hbw hlb2).trans dz0)
   have DU:Hid (wr.cell? ⟨bb,ob+j*2+1,none⟩=some (.slice a4 m c4)):=zh ((cell_keep hbw hlb2).trans du0)
   clear cz0 cu0 dz0 du0 hsu hsv hgt hx hy hm hlb hlb2 hbw
   go_upto_region 6 with fail
   refine wp_region_plan_in (fun x'=>Below wr.heap.size wr x') (.take 0 (.take 1 (.take 2 (.take 3 (.take 4 (.take 5 (.take 6 (.take 7 (.take 8 (.take 9 (.take 10 (.take 11 (.take 12 (.take 13 (.take 14 (.take 15 (.take 16 (.take 17 (.take 18 (.take 19 (.take 20 (.take 21 (.take 22 (.take 23 (.take 24 (.take 25 .done)))))))))))))))))))))))))) (by kernel_rfl) (by kernel_rfl) (by kernel_rfl) (Below.refl _ _).drew ?_
   iterate 2 ((first | refine Mem.pm1 ?_ | refine Mem.pm2 ?_ | refine Mem.pt ?_ | refine Mem.pf ?_);(simp only [Mem.zp,Mem.pb,Mem.pc]))
   refine plan_index_z 45 127 _ _ ba oa n ca 2 j zr zr zr ze ze (by omega) Tryz.underlying45 (by kernel_rfl) ?_
   (simp only [Mem.zp,Mem.pb,Mem.pc])
   refine plan_field 127 _ 0 ba (oa+j*2) ⟨ba,oa+j*2,none⟩ zr zr zr ze (fun wx=>by go_simp) ?_
   (simp only [Mem.zp,Mem.pb,Mem.pc])
   refine plan_cell 3 _ _ (.int .i64 y) _ zr zr zr ze (fun w' hw'=>(hw'.cell (p:=⟨ba,oa+j*2,none⟩) L1.out).trans CZ.out) Tryz.underlying3 zr ?_
   (simp only [Mem.zp,Mem.pb,Mem.pc])
   iterate 2 ((first | refine Mem.pm1 ?_ | refine Mem.pm2 ?_ | refine Mem.pt ?_ | refine Mem.pf ?_);(simp only [Mem.zp,Mem.pb,Mem.pc]))
   refine plan_index_z 28 124 _ _ bb ob n cb 2 j zr zr zr ze ze (by omega) Tryz.underlying28 (by kernel_rfl) ?_
   (simp only [Mem.zp,Mem.pb,Mem.pc])
   refine plan_field 124 _ 0 bb (ob+j*2) ⟨bb,ob+j*2,none⟩ zr zr zr ze (fun wx=>by go_simp) ?_
   (simp only [Mem.zp,Mem.pb,Mem.pc])
   refine plan_cell 3 _ _ (.int .i64 y) _ zr zr zr ze (fun w' hw'=>(hw'.cell (p:=⟨bb,ob+j*2,none⟩) L2.out).trans DZ.out) Tryz.underlying3 zr ?_
   (simp only [Mem.zp,Mem.pb,Mem.pc])
   refine plan_bin _ _ _ _ _ _ _ (.bool false) zr zr zr ze ze (fun wx=>o_ine _ _ _ _ _ wx) ?_
   (simp only [Mem.zp,Mem.pb,Mem.pc])
   iterate 3 ((first | refine Mem.pm1 ?_ | refine Mem.pm2 ?_ | refine Mem.pt ?_ | refine Mem.pf ?_);(simp only [Mem.zp,Mem.pb,Mem.pc]))
   refine plan_index_z 45 127 _ _ ba oa n ca 2 j zr zr zr ze ze (by omega) Tryz.underlying45 (by kernel_rfl) ?_
   (simp only [Mem.zp,Mem.pb,Mem.pc])
   refine plan_field 127 _ 1 ba (oa+j*2) ⟨ba,oa+j*2+1,none⟩ zr zr zr ze (fun wx=>by go_simp) ?_
   (simp only [Mem.zp,Mem.pb,Mem.pc])
   refine plan_cell 60 _ _ (.slice a3 m c3) _ zr zr zr ze (fun w' hw'=>(hw'.cell (p:=⟨ba,oa+j*2+1,none⟩) L1.out).trans CU.out) Tryz.underlying60 zr ?_
   (simp only [Mem.zp,Mem.pb,Mem.pc])
   refine plan_len _ _ _ _ m _ zr zr zr zr ze (fun wx=>by go_simp) ?_
   (simp only [Mem.zp,Mem.pb,Mem.pc])
   iterate 2 ((first | refine Mem.pm1 ?_ | refine Mem.pm2 ?_ | refine Mem.pt ?_ | refine Mem.pf ?_);(simp only [Mem.zp,Mem.pb,Mem.pc]))
   refine plan_index_z 28 124 _ _ bb ob n cb 2 j zr zr zr ze ze (by omega) Tryz.underlying28 (by kernel_rfl) ?_
   (simp only [Mem.zp,Mem.pb,Mem.pc])
   refine plan_field 124 _ 1 bb (ob+j*2) ⟨bb,ob+j*2+1,none⟩ zr zr zr ze (fun wx=>by go_simp) ?_
   (simp only [Mem.zp,Mem.pb,Mem.pc])
   refine plan_cell 85 _ _ (.slice a4 m c4) _ zr zr zr ze (fun w' hw'=>(hw'.cell (p:=⟨bb,ob+j*2+1,none⟩) L2.out).trans DU.out) Tryz.underlying85 zr ?_
   (simp only [Mem.zp,Mem.pb,Mem.pc])
   refine plan_len _ _ _ _ m _ zr zr zr zr ze (fun wx=>by go_simp) ?_
   (simp only [Mem.zp,Mem.pb,Mem.pc])
   refine plan_bin _ _ _ _ _ _ _ (.bool false) zr zr zr ze ze (fun wx=>o_ine _ _ _ _ _ wx) ?_
   (simp only [Mem.zp,Mem.pb,Mem.pc])
   refine plan_pick_f _ _ _ _ zr zr zr ze ze ?_
   (simp only [Mem.zp,Mem.pb,Mem.pc])
   refine plan_nil ?_
   have cu:wr.drew.cell? ⟨ba,oa+j*2+1,none⟩=some (.slice a3 m c3):=CU.out
   have B6:Hid (Below w.heap.size w wr.drew):=zh BW.out.drew
   have DU6:Hid (wr.drew.cell? ⟨bb,ob+j*2+1,none⟩=some (.slice a4 m c4)):=DU
   have L26:Hid (bb < wr.drew.heap.size):=L2
   generalize wr.drew=w6 at *
   clear CZ CU DZ DU L1 L2
   go_upto_region 9 with fail
   clear cu
   go_loopw [50] (fun vi wr=>∃ i:Nat,i≤m∧vi=.int .i64 (i:Int)∧Below w6.heap.size w6 wr) (fun vi _=>m - (intOf vi).toNat)
   case atStart=>exact ⟨0,by omega,rfl,Below.refl _ _⟩
   case round=>
    obtain ⟨i,hi,rfl,hb7⟩:=hrel
    by_cases hit:i < m
    ·have hit':(i:Int) < (m:Int):=by omega
     obtain ⟨b2,o2,e2,hlb2,hrg⟩:=slrf_at (i:=i) SX.out HM.out hit
     subst e2
     obtain ⟨b4,o4,e4,hlb4,hrg4⟩:=slrf_at (i:=i) SY.out HM.out hit
     subst e4
     have hwi:=getD_wf XW.out i
     obtain ⟨r,hr⟩:∃ r,r=x.getD i zref:=⟨_,rfl⟩
     rw [←hr] at hrg hrg4 hwi
     have nq:=fun wx a b=>neqRR_self16 hwi a b wx
     have hx:=zeroRfP
     obtain ⟨M,hM⟩:∃ M,M=refC r:=⟨_,rfl⟩
     obtain ⟨Z,hZ⟩:∃ Z,Z=refC zref:=⟨_,rfl⟩
     have zsz:Z.size=34:=by rw [hZ];exact refC_size zref_wf
     have ms:M.size=34:=by rw [hM];exact refC_size hwi
     have mo:M.all (·.oneCell')=true:=by rw [hM];exact refC_one r
     have b07:Below w.heap.size w wr:=B6.out.trans (hb7.mono B6.out.size)
     have hrgm:wr.rangeAt b2 (o2+i*34) M.toList:=by rw [hM];exact range_block hrg (b07.block b2 hlb2)
     have hrgn:wr.rangeAt b4 (o4+i*34) M.toList:=by rw [hM];exact range_block hrg4 (b07.block b4 hlb4)
     rw [←hM] at nq
     rw [←hZ] at hx
     have MS:=zh ms;have MO:=zh mo;have ZSZ:=zh zsz;have NQ:=zh nq;have RGM:=zh hrgm
     have A8:=zh (at_new wr M 46)
     have hq:Below wr.heap.size wr (wr.alloc (.cells M 46)):=(Below.refl _ _).alloc (Nat.le_refl _) _
     have RGN:Hid ((wr.alloc (.cells M 46)).rangeAt b4 (o4+i*34) M.toList):=zh (range_block hrgn (hq.block b4 (Nat.lt_of_lt_of_le hlb4 b07.size)))
     have L4:Hid (b4 < (wr.alloc (.cells M 46)).heap.size):=zh (Nat.lt_of_lt_of_le hlb4 (Nat.le_trans b07.size hq.size))
     have B8:Hid (Below w6.heap.size w6 (wr.alloc (.cells M 46))):=zh (hb7.alloc hb7.size _)
     have DU8:Hid ((wr.alloc (.cells M 46)).cell? ⟨bb,ob+j*2+1,none⟩=some (.slice (some ⟨b4,o4,none⟩) m c4)):=zh ((cell_keep B8.out L26.out).trans DU6.out)
     have L28:Hid (bb < (wr.alloc (.cells M 46)).heap.size):=zh (Nat.lt_of_lt_of_le L26.out B8.out.size)
     clear hrg hrg4 hwi hr nq zsz ms mo hrgm hrgn hM hZ hlb2 hlb4 b07 hq hb7
     go_upto_region 11 with (first
      | (refine wpList_load_mid zr 46 _ zr b2 (o2+i*34) zr M.toList _ RGM.out Tryz.underlying46 zr (by rw [infoRfP,Array.length_toList,MS.out]) ?_;rw [Array.toArray_toList])
      | (refine wpList_store_new zr 46 _ _ zr zr M _ _ zr zr (by rw [MS.out];exact infoRfP) (by rw [MS.out,ZSZ.out]) MO.out ?_))
     clear hx
     obtain ⟨b8,hb8⟩:∃ b,b=wr.heap.size:=⟨_,rfl⟩
     rw [←hb8] at A8 ⊢
     clear hb8
     generalize (wr.alloc (.cells M 46))=w8 at *
     refine wp_region_plan_in (fun x'=>Below w8.heap.size w8 x') (.take 0 (.take 1 (.take 2 (.take 3 (.take 4 (.take 5 (.take 6 (.take 7 (.take 8 (.take 9 .done)))))))))) (by kernel_rfl) (by kernel_rfl) (by kernel_rfl) (Below.refl _ _).drew ?_
     refine plan_row 46 _ b8 _ M 46 zr zr zr ze (fun w' hw'=>A8.out.below hw' A8.out.lt) Tryz.underlying46 zr (by rw [MS.out];exact infoRfP) ?_
     (simp only [Mem.zp,Mem.pb,Mem.pc])
     iterate 2 ((first | refine Mem.pm1 ?_ | refine Mem.pm2 ?_ | refine Mem.pt ?_ | refine Mem.pf ?_);(simp only [Mem.zp,Mem.pb,Mem.pc]))
     refine plan_index_z 28 124 _ _ bb ob n cb 2 j zr zr zr ze ze (by omega) Tryz.underlying28 (by kernel_rfl) ?_
     (simp only [Mem.zp,Mem.pb,Mem.pc])
     refine plan_field 124 _ 1 bb (ob+j*2) ⟨bb,ob+j*2+1,none⟩ zr zr zr ze (fun wx=>by go_simp) ?_
     (simp only [Mem.zp,Mem.pb,Mem.pc])
     refine plan_cell 85 _ _ (.slice (some ⟨b4,o4,none⟩) m c4) _ zr zr zr ze (fun w' hw'=>(hw'.cell (p:=⟨bb,ob+j*2+1,none⟩) L28.out).trans DU8.out) Tryz.underlying85 zr ?_
     (simp only [Mem.zp,Mem.pb,Mem.pc])
     (first | refine Mem.pm1 ?_ | refine Mem.pm2 ?_ | refine Mem.pt ?_ | refine Mem.pf ?_)
     (simp only [Mem.zp,Mem.pb,Mem.pc])
     refine plan_index_z 85 25 _ _ b4 o4 m c4 34 i zr zr zr ze ze (by omega) Tryz.underlying85 (by kernel_rfl) ?_
     (simp only [Mem.zp,Mem.pb,Mem.pc])
     refine plan_load_range 25 _ b4 (o4+i*34) _ M zr zr zr ze (fun w' hw'=>range_block RGN.out (hw'.block b4 L4.out)) Tryz.underlying25 zr (by rw [MS.out];exact infoRfR) ?_
     (simp only [Mem.zp,Mem.pb,Mem.pc])
     refine plan_bin _ _ _ _ _ _ _ (.bool false) zr zr zr ze ze (fun wx=>NQ.out wx _ _) ?_
     (simp only [Mem.zp,Mem.pb,Mem.pc])
     refine plan_nil ?_
     have B9:Hid (Below w6.heap.size w6 w8.drew):=zh B8.out.drew
     go_wp2_with fail
     go_roundw
     case rel=>exact ⟨i+1,by omega,by go_num,B9.out⟩
     case measure=>simp [intOf];omega
    ·have him:i=m:=by omega
     subst him
     have hge:¬ (i:Int) < (i:Int):=by omega
     have B9:Hid (Below w.heap.size w wr):=zh (B6.out.trans (hb7.mono B6.out.size))
     clear hb7
     go_wp2_with fail
     go_roundw
     case rel=>exact ⟨j+1,by omega,by go_num,B9.out⟩
     case measure=>simp [intOf];omega
  ·have hjn:j=n:=by omega
   subst hjn
   have hge:¬ (j:Int) < (j:Int):=by omega
   have BW:=zh hbw
   clear hbw
   go_wp2_with fail
   go_ret
   exact ⟨rfl,BW.out⟩
def toldC (vp vn:Value) (r:RefV) (e:Int):Array Value:=(vp::vn::(refL r++[.int .i64 e])).toArray
theorem puts16_any (G H:Foot) (L:List (Nat × Lb8)) (va vb:Value) (M:Array Value) (w:World) (ha:WPut G w va L) (hb:WPut H w vb L) (hl:L.length≤1000) (hx:∀ p∈L,p.2.length≤1000) (m0:M[0]?=some vb) :
 Calls Tryz.prog 17 #[va,.agg M] w (VEnd (.bool true) w):=by
 obtain ⟨aa,ca,rfl⟩:=ha.hd
 obtain ⟨ab,cb,rfl⟩:=hb.hd
 obtain ⟨m,hm⟩:∃ m,m=L.length:=⟨_,rfl⟩
 rw [←hm] at ha hb m0 hl ⊢
 have hA:=at_new w M 54
 have hbw:Below w.heap.size w (w.alloc (.cells M 54)):=(Below.refl _ _).alloc (Nat.le_refl _) _
 have HM:=zh hm;have ML:=zh hx;have M0:=zh m0;have HA:=zh hA;have HB:=zh hbw
 have PA:=zh (WPut.keep ha hbw.size fun k _ hlt=>hbw.block k hlt);have PB:=zh (WPut.keep hb hbw.size fun k _ hlt=>hbw.block k hlt)
 clear ha hb hm hx m0 hA hbw
 go_enter Tryz.func17,Tryz.ntmps17
 go_upto_region 1 with fail
 generalize w.alloc (.cells M 54)=w1 at *
 have c0:w1.cell? ⟨w.heap.size,0,none⟩=some (.slice ab m cb):=(HA.out.cell 0).trans M0.out
 go_wp2_with fail
 clear c0
 go_loopw [14] (fun vi wx=>∃ i:Nat,i≤m∧vi=.int .i64 (i:Int)∧Below w1.heap.size w1 wx) (fun vi _=>m - (intOf vi).toNat)
 case atStart=>exact ⟨0,by omega,rfl,Below.refl _ _⟩
 case round=>
  obtain ⟨i,hi,rfl,hbx⟩:=hrel
  by_cases hil:i < m
  ·have hil2:(i:Int) < (m:Int):=by omega
   obtain ⟨b1,o1,v1,e1,_,cn1,ch1,hs1⟩:=lput_at (WPut.keep PA.out hbx.size fun k _ hlt=>hbx.block k hlt) (j:=i) (by rw [←HM.out];exact hil)
   obtain ⟨b2,o2,v2,e2,_,cn2,ch2,hs2⟩:=lput_at (WPut.keep PB.out hbx.size fun k _ hlt=>hbx.block k hlt) (j:=i) (by rw [←HM.out];exact hil)
   subst e1 e2
   have hle:(L.getD i (0,[])).2.length≤1000:=by
    have hil3:i < L.length:=by rw [←HM.out];exact hil
    rw [List.getD_eq_getElem?_getD,List.getElem?_eq_getElem hil3]
    exact ML.out _ (List.getElem_mem hil3)
   obtain ⟨qq,hqq⟩:∃ q,q=L.getD i (0,[]):=⟨_,rfl⟩
   rw [←hqq] at cn1 cn2 hs1 hs2 hle
   obtain ⟨q,x⟩:=qq
   simp only at cn1 cn2 hs1 hs2 hle
   have hsm:=fun wx (h:Below wr.heap.size wr wx)=>same_any x x v1 v2 wx (hs1.sl.below h) (hs2.sl.below h) (by omega) (by omega)
   rw [show sameB x x=true by simp [sameB]] at hsm
   have l1:=block_lt_of_cell cn1;have l2:=block_lt_of_cell cn2
   have A4:=zh (HA.out.below hbx HA.out.lt);have BX:=zh hbx
   have SM:=zh hsm;have L1:=zh l1;have L2:=zh l2;have CN1:=zh cn1;have CN2:=zh cn2;have CH1:=zh ch1;have CH2:=zh ch2
   clear hsm l1 l2 cn1 cn2 ch1 ch2 hs1 hs2 hle hqq hbx
   go_upto_region 6 with fail
   refine wp_region_plan_in (fun x'=>Below wr.heap.size wr x') (.take 0 (.take 1 (.take 2 (.take 3 (.take 4 (.take 5 (.take 6 (.take 7 (.take 8 (.take 9 (.take 10 (.take 11 (.take 12 (.take 13 (.take 14 (.take 15 (.take 16 (.take 17 (.take 18 (.take 19 (.take 20 (.take 21 (.take 22 (.take 23 (.sole 24 (.take 25 (.take 26 .done))))))))))))))))))))))))))) (by kernel_rfl) (by kernel_rfl) (by kernel_rfl) (Below.refl _ _).drew ?_
   iterate 2 ((first | refine Mem.pm1 ?_ | refine Mem.pm2 ?_ | refine Mem.pt ?_ | refine Mem.pf ?_);(simp only [Mem.zp,Mem.pb,Mem.pc]))
   refine plan_index_z 44 70 _ _ b1 o1 m ca 2 i zr zr zr ze ze (by omega) Tryz.underlying44 (by kernel_rfl) ?_
   (simp only [Mem.zp,Mem.pb,Mem.pc])
   refine plan_field 70 _ 0 b1 (o1+i*2) ⟨b1,o1+i*2,none⟩ zr zr zr ze (fun wx=>by go_simp) ?_
   (simp only [Mem.zp,Mem.pb,Mem.pc])
   refine plan_cell 3 _ _ (.int .i64 ((q:Int))) _ zr zr zr ze (fun w' hw'=>(hw'.cell (p:=⟨b1,o1+i*2,none⟩) L1.out).trans CN1.out) Tryz.underlying3 zr ?_
   (simp only [Mem.zp,Mem.pb,Mem.pc])
   refine plan_field 54 _ 0 w.heap.size 0 ⟨w.heap.size,0,none⟩ zr zr zr ze (fun wx=>by go_simp) ?_
   (simp only [Mem.zp,Mem.pb,Mem.pc])
   refine plan_cell 52 _ _ (.slice (some ⟨b2,o2,none⟩) m cb) _ zr zr zr ze (fun w' hw'=>(hw'.cell (p:=⟨w.heap.size,0,none⟩) A4.out.lt).trans ((A4.out.cell 0).trans M0.out)) Tryz.underlying52 zr ?_
   (simp only [Mem.zp,Mem.pb,Mem.pc])
   (first | refine Mem.pm1 ?_ | refine Mem.pm2 ?_ | refine Mem.pt ?_ | refine Mem.pf ?_)
   (simp only [Mem.zp,Mem.pb,Mem.pc])
   refine plan_index_z 52 152 _ _ b2 o2 m cb 2 i zr zr zr ze ze (by omega) Tryz.underlying52 (by kernel_rfl) ?_
   (simp only [Mem.zp,Mem.pb,Mem.pc])
   refine plan_field 152 _ 0 b2 (o2+i*2) ⟨b2,o2+i*2,none⟩ zr zr zr ze (fun wx=>by go_simp) ?_
   (simp only [Mem.zp,Mem.pb,Mem.pc])
   refine plan_cell 3 _ _ (.int .i64 ((q:Int))) _ zr zr zr ze (fun w' hw'=>(hw'.cell (p:=⟨b2,o2+i*2,none⟩) L2.out).trans CN2.out) Tryz.underlying3 zr ?_
   (simp only [Mem.zp,Mem.pb,Mem.pc])
   refine plan_bin _ _ _ _ _ _ _ (.bool false) zr zr zr ze ze (fun wx=>o_ine _ _ _ _ _ wx) ?_
   (simp only [Mem.zp,Mem.pb,Mem.pc])
   iterate 3 ((first | refine Mem.pm1 ?_ | refine Mem.pm2 ?_ | refine Mem.pt ?_ | refine Mem.pf ?_);(simp only [Mem.zp,Mem.pb,Mem.pc]))
   refine plan_index_z 44 70 _ _ b1 o1 m ca 2 i zr zr zr ze ze (by omega) Tryz.underlying44 (by kernel_rfl) ?_
   (simp only [Mem.zp,Mem.pb,Mem.pc])
   refine plan_field 70 _ 1 b1 (o1+i*2) ⟨b1,o1+i*2+1,none⟩ zr zr zr ze (fun wx=>by go_simp) ?_
   (simp only [Mem.zp,Mem.pb,Mem.pc])
   refine plan_cell 63 _ _ v1 _ zr zr zr ze (fun w' hw'=>(hw'.cell (p:=⟨b1,o1+i*2+1,none⟩) L1.out).trans CH1.out) Tryz.underlying63 zr ?_
   (simp only [Mem.zp,Mem.pb,Mem.pc])
   refine plan_field 54 _ 0 w.heap.size 0 ⟨w.heap.size,0,none⟩ zr zr zr ze (fun wx=>by go_simp) ?_
   (simp only [Mem.zp,Mem.pb,Mem.pc])
   refine plan_cell 52 _ _ (.slice (some ⟨b2,o2,none⟩) m cb) _ zr zr zr ze (fun w' hw'=>(hw'.cell (p:=⟨w.heap.size,0,none⟩) A4.out.lt).trans ((A4.out.cell 0).trans M0.out)) Tryz.underlying52 zr ?_
   (simp only [Mem.zp,Mem.pb,Mem.pc])
   (first | refine Mem.pm1 ?_ | refine Mem.pm2 ?_ | refine Mem.pt ?_ | refine Mem.pf ?_)
   (simp only [Mem.zp,Mem.pb,Mem.pc])
   refine plan_index_z 52 152 _ _ b2 o2 m cb 2 i zr zr zr ze ze (by omega) Tryz.underlying52 (by kernel_rfl) ?_
   (simp only [Mem.zp,Mem.pb,Mem.pc])
   refine plan_field 152 _ 1 b2 (o2+i*2) ⟨b2,o2+i*2+1,none⟩ zr zr zr ze (fun wx=>by go_simp) ?_
   (simp only [Mem.zp,Mem.pb,Mem.pc])
   refine plan_cell 63 _ _ v2 _ zr zr zr ze (fun w' hw'=>(hw'.cell (p:=⟨b2,o2+i*2+1,none⟩) L2.out).trans CH2.out) Tryz.underlying63 zr ?_
   (simp only [Mem.zp,Mem.pb,Mem.pc])
   refine plan_call 43 _ _ _ (by kernel_rfl) zr zr zr (by first | exact Mem.ev_none _ | (simp only [List.map_toArray,List.map_cons,List.map_nil,Mem.ev_tmp,List.getD_cons_succ,List.getD_cons_zero] <;> rfl)) ?_
   refine (SM.out _ (Below.refl _ _).drew).mono ?_
   rintro e w9 ⟨rfl,hb9⟩
   have D9:Hid (Below wr.heap.size wr w9):=zh ((Below.refl _ _).drew.trans hb9)
   clear hb9
   refine ⟨_,rfl,D9.out,?_⟩
   (simp only [Mem.zp,Mem.pb,Mem.pc])
   refine plan_not _ _ true zr zr zr ze ?_
   rw [show (!true)=false from rfl]
   (simp only [Mem.zp,Mem.pb,Mem.pc])
   refine plan_pick_f _ _ _ _ zr zr zr ze ze ?_
   (simp only [Mem.zp,Mem.pb,Mem.pc])
   refine plan_nil ?_
   have B9:=zh (BX.out.trans (D9.out.mono BX.out.size))
   go_wp2_with fail
   go_roundw
   case rel=>exact ⟨i+1,by omega,by go_num,B9.out⟩
   case measure=>simp [intOf];omega
  ·have hge:¬ (i:Int) < (m:Int):=by omega
   have BX:=zh (HB.out.trans (hbx.mono HB.out.size))
   clear hbx
   go_wp2_with fail
   go_ret
   exact ⟨rfl,BX.out⟩
end Sha
end Go.Proofs.YtplmfmpbkjnbaaaGreatDoor
