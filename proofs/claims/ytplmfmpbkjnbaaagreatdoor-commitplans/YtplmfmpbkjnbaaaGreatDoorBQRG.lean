/- The document's Plan of what may be planned, walked (written by comrplan.py). -/
import Derived.Test.YtplmfmpbkjnbaaaGreatDoorBQ39
set_option maxRecDepth 100000
set_option maxHeartbeats 16000000
namespace Go.Proofs.YtplmfmpbkjnbaaaGreatDoor
namespace Sha
open Go.RowKit Mem
set_option maxRecDepth 100000
theorem rplan_good (key:Lb8) (ep:BitVec 32) (p:Nat) (vL vF:Value) (root:RefV) (N:List NdV) (C:List ChV) (vn0 vc:Value) (w:World) (lk:key.length=32) (hR:RS w p vL vF) (hn:SlNd w vn0 N) (hc:SlCh w vc C) (hN:NdWf N) (hl:C.length≤1000) (G:GoodC p root N C) :
 Calls Tryz.prog 16 #[.agg (u8s key).toArray,.int .u32 (V ep),.agg (rsC p vL vF),.agg (refC root),vn0,vc] w (RPlEnd w (putsC key ep p root N C (itn p),ndsC key ep p root N C (itn p),rootC key ep p root N C (itn p),0)):=by
 have h0:=G.h0
 have h1:=G.h1
 have hr0:=G.rw
 have hit:=itn_le259 p h1
 have hbig:=itn_big p h0 h1
 have my:=fun wx (h:Below w.heap.size w wx)=>rmay16_any p vL vF N C vn0 vc wx (hR.below h) (hn.below h) (hc.below h) hN h0 h1 hl
 rw [G.may] at my
 have rr:=fun wx=>rright_any root wx hr0
 rw [show plOk root=true from G.rt] at rr
 have pg0:=fun wx (h:Below w.heap.size w wx)=>rpages16_any C vc wx (hc.below h) hl
 have nd0:=fun v wx (h:Below w.heap.size w wx) (hv:SlI wx v (pgsC C))=>rneed16_any p vL vF (pgsC C) v wx (hR.below h) h0 h1 hv (by rw [pgsC_length];exact hl)
 have hs1:=fun (i:Nat) v wx (hv:SlI wx v (pgsC C))=>rhas16_any (pgsC C) (i:Int) v wx hv (by rw [pgsC_length];exact hl)
 have hs2:=fun (i:Nat) v wx (hv:SlI wx v (needI p (pgsC C)))=>rhas16_any (needI p (pgsC C)) (i:Int) v wx hv (by unfold needI;rw [List.length_map];have:=needT_len p (pgsC C) h1;omega)
 have fd:=fun (z:Int) wx (h:Below w.heap.size w wx)=>rfind16_any N z vn0 wx (hn.below h) hN.n
 have kd:=fun (i:Nat) wx (h:Below w.heap.size w wx)=>rkids_own p vL vF (i:Int) wx (hR.below h) h0 h1
 have pt:=fun (i:Nat) (_:i < itn p) wx (h:Below w.heap.size w wx)=>rparent_any p vL vF (i:Int) wx (hR.below h) h0 h1
 have bk:=fun z k wx (h:Below w.heap.size w wx)=>rblock_any p vL vF z k wx (hR.below h) hit
 have hid:=fun (o block:Int) (page:Lb8) wx v (hv:Sl wx v page) (o0:0≤o) (o1:o≤1) (hb:block≤9223372036854775807) (hp:page.length≤1048576)=>rhide_own key lk ep (1 - o) block (by omega) (by omega) hb page v wx hv hp
 have ly:=fun n v wx (hv:SlRf wx v (refsC key ep p root N C n n))=>rlayN_any (refsC key ep p root N C n n) v wx hv (refsC_wf hN.w n n) (by rw [refsC_length];have:=many_le p n;omega)
 have ca:=fun n (h:n < itn p) hc=>caseA (key:=key) (ep:=ep) G h hc
 have cb:=fun n (h:n < itn p) hc hk=>caseB (key:=key) (ep:=ep) G h hc hk
 have cc:=fun n (h:n < itn p) hc hk=>caseC (key:=key) (ep:=ep) G h hc hk
 have wf0:=findD_wf hN.w
 have xw:=fun n k=>stepX_wf (key:=key) (ep:=ep) (p:=p) (root:=root) (C:=C) hN.w n k
 have ndw:∀ x∈ndsC key ep p root N C (itn p),∀ r∈x.2,r.Wf:=fun x hx=>by
  unfold ndsC at hx
  obtain ⟨i,_,rfl⟩:=List.mem_map.1 hx
  exact refsC_wf hN.w i i
 have pul:∀ n,n≤itn p→(putI (putsC key ep p root N C n)).length≤1000:=fun n h=>by
  unfold putI putsC
  rw [List.length_map]
  have:=List.length_filterMap_le (fun i=>(selC key ep p root N C i).map fun s=>(blkC p root N i,s.1)) (List.range n)
  rw [List.length_range] at this
  omega
 have ndl:∀ n,n≤itn p→(ndsC key ep p root N C n).length≤1000:=fun n h=>by
  unfold ndsC
  rw [List.length_map]
  have:=List.length_filter_le (isN p (pgsC C)) (List.range n)
  rw [List.length_range] at this
  omega
 have kn:∀ n,p≤n→n < itn p→(KZ p (n:Int)).length=many p n∧1≤many p n∧many p n≤6∧fst p n+many p n≤n∧∀ t,t < many p n→(KZ p (n:Int)).getD t 0=((fst p n+t:Nat):Int):=fun n a b=>by
  have hk:=node_kids p n h0 h1 a b
  refine ⟨KZ_node p n a b,hk.1,many_le p n,hk.2,fun t ht=>?_⟩
  unfold KZ
  rw [if_pos ⟨by omega,by omega⟩,Int.toNat_natCast]
  exact kz_get _ _ _ _ ht
 have xs0:∀ n k,stepX key ep p root N C n (k+1)=if tchC p C (fst p n+k)=true then (stepX key ep p root N C n k).set k ((frC key ep p root N C (fst p n+k)).getD zref) else stepX key ep p root N C n k:=fun n k=>rfl
 have xz:∀ n,stepX key ep p root N C n 0=findD N (n:Int):=fun n=>rfl
 have xl:=fun n k=>stepX_length (key:=key) (ep:=ep) (p:=p) (root:=root) (N:=N) (C:=C) n k
 have ftz:=fti_zero (key:=key) (ep:=ep) (p:=p) (root:=root) (N:=N) (C:=C)
 have rt0:rootC key ep p root N C 0=root:=rootC_lt (by omega)
 have rtl:∀ n,n < itn p→rootC key ep p root N C n=root:=fun n h=>rootC_lt h
 have rrw:(rootC key ep p root N C (itn p)).Wf:=by
  unfold rootC
  rw [if_pos (Nat.le_refl _)]
  cases e:frC key ep p root N C (itn p - 1) with
  | none=>exact hr0
  | some r=>exact fr_wf e
 obtain ⟨PU,hPU⟩:∃ f:Nat→List (Int × Lb8),f=fun n=>putI (putsC key ep p root N C n):=⟨_,rfl⟩
 obtain ⟨ND,hND⟩:∃ f:Nat→List NdV,f=ndsC key ep p root N C:=⟨_,rfl⟩
 obtain ⟨RR,hRR⟩:∃ f:Nat→RefV,f=rootC key ep p root N C:=⟨_,rfl⟩
 obtain ⟨FT,hFT⟩:∃ f:Nat→List RefV→List Bool→Prop,f=FtI key ep p root N C:=⟨_,rfl⟩
 obtain ⟨X,hX⟩:∃ f:Nat→Nat→List RefV,f=stepX key ep p root N C:=⟨_,rfl⟩
 obtain ⟨XR,hXR⟩:∃ f:Nat→List RefV,f=fun n=>refsC key ep p root N C n n:=⟨_,rfl⟩
 have hTF:∀ n pg x r b,TailF key ep p root N C n pg x r b→PU (n+1)=PU n++[((b:Int),x)]∧(RR (n+1)=if n+1=itn p then r else root)∧∀ F T,FT n F T→FT (n+1) (F.set n r) (T.set n true):=fun n pg x r b h=>by rw [hPU,hRR,hFT];exact ⟨h.put,h.rt,h.ft⟩
 have hFI:∀ n F T,FT n F T→FtI key ep p root N C n F T:=fun n F T h=>by rw [hFT] at h;exact h
 have caa:∀ n,n < itn p→(pgsC C).contains (n:Int)=true→∃ pg,lastC C n C.length=some pg∧pg.length=256∧(∃ x r b,TailF key ep p root N C n pg x r b)∧ND (n+1)=ND n:=fun n a b=>by rw [hND];exact ca n a b
 have cbb:∀ n,n < itn p→(pgsC C).contains (n:Int)=false→(needI p (pgsC C)).contains (n:Int)=true→p≤n∧(X n 0).length=many p n∧(layN (XR n)).1.length=256∧(∃ x r b,TailF key ep p root N C n (layN (XR n)).1 x r b)∧ND (n+1)=ND n++[((n:Int),XR n)]∧X n (many p n)=XR n:=fun n a b c=>by rw [hND,hX,hXR];exact cb n a b c
 have ccc:∀ n,n < itn p→(pgsC C).contains (n:Int)=false→(needI p (pgsC C)).contains (n:Int)=false→PU (n+1)=PU n∧ND (n+1)=ND n∧RR (n+1)=root∧∀ F T,FT n F T→FT (n+1) F T:=fun n a b c=>by
  obtain ⟨c1,c2,c3,c4⟩:=cc n a b c
  rw [hND,hRR,hFT,hPU]
  exact ⟨congrArg putI c1,c2,c3,c4⟩
 have lyy:∀ n v wx,SlRf wx v (XR n)→Calls Tryz.prog 63 #[v] wx (SealEnd wx (layN (XR n)).1 (layN (XR n)).2):=fun n v wx h=>by rw [hXR] at h ⊢;exact ly n v wx h
 have xss:∀ n k F T,FT n F T→fst p n+k < itn p→fst p n+k < n→(T.getD (fst p n+k) false=true→X n (k+1)=(X n k).set k (F.getD (fst p n+k) zref))∧(T.getD (fst p n+k) false=false→X n (k+1)=X n k):=fun n k F T hf hk1 hk2=>by
  have hf:=hFI n F T hf
  rw [hX,xs0,hf.t _ hk1,hf.f _ hk1,if_pos hk2,decide_eq_true hk2,Bool.true_and]
  exact ⟨fun h=>by rw [if_pos h],fun h=>by rw [if_neg (by rw [h];decide)]⟩
 have xww:∀ n k,∀ r∈X n k,r.Wf:=fun n k=>by rw [hX];exact xw n k
 have xrw:∀ n,∀ r∈XR n,r.Wf:=fun n=>by rw [hXR];exact refsC_wf hN.w n n
 have xll:∀ n k,(X n k).length=(X n 0).length:=fun n k=>by rw [hX,xl n k,xl n 0]
 have fdd:∀ (n:Nat) wx,Below w.heap.size w wx→Calls Tryz.prog 61 #[vn0,.int .i64 (n:Int)] wx (RFd wx (X n 0) (findT N (n:Int)).isSome):=fun n wx h=>by rw [hX];exact fd (n:Int) wx h
 have ndww:∀ x∈ND (itn p),∀ r∈x.2,r.Wf:=by rw [hND];exact ndw
 have pull:∀ n,n≤itn p→(PU n).length≤1000:=fun n h=>by rw [hPU];exact pul n h
 have ndll:∀ n,n≤itn p→(ND n).length≤1000:=fun n h=>by rw [hND];exact ndl n h
 have ftzz:FT 0 (List.replicate (itn p) zref) (List.replicate (itn p) false):=by rw [hFT];exact ftz
 have rrl:∀ n,n < itn p→RR n=root:=fun n h=>by rw [hRR];exact rtl n h
 have rrww:(RR (itn p)).Wf:=by rw [hRR];exact rrw
 have puz:PU 0=[]:=by rw [hPU];rfl
 have ndz:ND 0=[]:=by rw [hND];rfl
 have epu:PU (itn p)=putI (putsC key ep p root N C (itn p)):=by rw [hPU]
 obtain ⟨PL,hPL⟩:∃ f,f=putsC key ep p root N C (itn p):=⟨_,rfl⟩
 rw [←hPL] at epu
 have goal0:RPlEnd w (PL,ND (itn p),RR (itn p),0)=RPlEnd w (putsC key ep p root N C (itn p),ndsC key ep p root N C (itn p),rootC key ep p root N C (itn p),0):=by rw [hPL,hND,hRR]
 rw [←goal0]
 clear pg0 nd0 ca cb cc ly pul ndl ndw ftz rt0 rtl xs0 xz xl xw wf0 goal0 rrw hPU hND hRR hFT hX hXR hPL fd
 have pg0:=fun wx (h:Below w.heap.size w wx)=>rpages16_any C vc wx (hc.below h) hl
 have nd0:=fun v wx (h:Below w.heap.size w wx) (hv:SlI wx v (pgsC C))=>rneed16_any p vL vF (pgsC C) v wx (hR.below h) h0 h1 hv (by rw [pgsC_length];exact hl)
 have fd:=fun (z:Int) wx (h:Below w.heap.size w wx)=>rfind16_any N z vn0 wx (hn.below h) hN.n
 have hCV:=hc
 obtain ⟨PGL,hPGL⟩:∃ y,y=pgsC C:=⟨_,rfl⟩
 obtain ⟨KI,hKI⟩:∃ y,y=needI p (pgsC C):=⟨_,rfl⟩
 rw [←hKI] at hs2 cbb ccc
 rw [←hPGL] at pg0 hs1 caa cbb ccc
 have nd1:∀ v wx,Below w.heap.size w wx→SlI wx v PGL→Calls Tryz.prog 58 #[.agg (rsC p vL vF),v] wx (OIEnd wx KI):=fun v wx a b=>by rw [hKI];rw [hPGL] at b;exact nd0 v wx a b
 clear nd0 hPGL hKI
 obtain ⟨m,hmi⟩:∃ m,m=itn p:=⟨_,rfl⟩
 have zl:(zL p).length=m:=by rw [zL_length,hmi]
 obtain ⟨aL,cL,eL⟩:=hR.l.hdn zl
 subst eL
 have hs:(rsC p (.slice aL m cL) vF).size=3:=rfl
 have c1:(rsC p (.slice aL m cL) vF)[1]?=some (.slice aL m cL):=rfl
 have rs:=refC_size hr0;have rco:=refC_one root
 obtain ⟨i2,hi2,hz2,hs2b,hb2⟩:=info_parts elemRR.2
 obtain ⟨i8,hi8,hz8,hs8,hb8⟩:=info_parts elemBlR.2
 obtain ⟨KC,hKC⟩:∃ K,K=(u8s key).toArray:=⟨_,rfl⟩
 obtain ⟨HC,hHC⟩:∃ C,C=rsC p (.slice aL m cL) vF:=⟨_,rfl⟩
 obtain ⟨RC,hRC⟩:∃ R,R=refC root:=⟨_,rfl⟩
 obtain ⟨Z,hZ⟩:∃ Z,Z=toldC (.slice none 0 0) (.slice none 0 0) zref 0:=⟨_,rfl⟩
 obtain ⟨ZT,hZT⟩:∃ Z,Z=toldC (.slice none 0 0) (.slice none 0 0) root 0:=⟨_,rfl⟩
 obtain ⟨ZF,hZF⟩:∃ Z,Z=refC zref:=⟨_,rfl⟩
 have kc:(u8s key).toArray.size=32:=by simp [u8s_length,lk]
 have zs0:Z.size=37:=by rw [hZ];exact toldC_size _ _ zref_wf 0
 have zst:ZT.size=37:=by rw [hZT];exact toldC_size _ _ hr0 0
 have zot:ZT.all (·.oneCell')=true:=by rw [hZT];exact toldC_one _ _ _ _ _ _ _ _
 have zsf:ZF.size=34:=by rw [hZF];exact refC_size zref_wf
 have hxt:=zeroTold
 have hxf:=zeroRfR
 have bt:=buildToldR root hr0
 rw [←hZ] at hxt
 rw [←hZF] at hxf
 rw [←hZT,←hRC] at bt
 have pb:=rpB_new w KC HC RC Z
 obtain ⟨an,cn,rfl⟩:=hn.hd
 obtain ⟨ac,cc,rfl⟩:=hc.hd
 obtain ⟨nN,hnN⟩:∃ n,n=N.length:=⟨_,rfl⟩
 obtain ⟨nC,hnC⟩:∃ n,n=C.length:=⟨_,rfl⟩
 rw [←hHC] at my nd1 kd pt bk hs c1
 rw [←hnN,←hnC] at my
 rw [←hnN] at fd fdd
 rw [←hnC] at pg0 hCV caa hl
 rw [←hRC] at rr rs rco
 rw [←hKC] at hid kc
 have hmk:=fun (w6 w8 w9 wA wB:World) (vk:Value)=>rpJ_make (w6:=w6) (w8:=w8) (w9:=w9) (wA:=wA) (wB:=wB) (m:=m) (root:=root) (vk:=vk) (KI:=KI)
 rw [←hZT] at hmk
 rw [←hmi] at pt caa cbb ccc xss ndww pull ndll ftzz rrl rrww epu hit hbig kn hTF ⊢
 unfold RPlEnd
 show Calls _ _ _ _ (fun e w'=>∃ vp vn,e=.returned (.agg (toldC vp vn (RR m) 0))∧WPut (fun k=>w.heap.size≤k) w' vp PL∧SlNdG (fun k=>w.heap.size≤k) w' vn (ND m)∧Below w.heap.size w w')
 rw [←hKC,←hHC,←hRC,←hnN,←hnC]
 have MYY:=zh my;have RGT:=zh rr;have PG0:=zh pg0;have ND1:=zh nd1;have HS1:=zh hs1;have HS2:=zh hs2;have FD:=zh fd;have FDD:=zh fdd;have KD:=zh kd;have PTC:=zh pt;have BK:=zh bk;have HID:=zh hid;have LYY:=zh lyy
 have CA:=zh caa;have CB:=zh cbb;have CC:=zh ccc;have KN:=zh kn;have XSS:=zh xss;have XWW:=zh xww;have XRW:=zh xrw;have XLL:=zh xll;have HTF:=zh hTF;have HFI:=zh hFI
 have NDW:=zh ndww;have PUL:=zh pull;have NDL:=zh ndll;have FTZ:=zh ftzz;have RRL:=zh rrl;have PUZ:=zh puz;have NDZ:=zh ndz;have EPU:=zh epu;have HCV:=zh hCV;have MK:=zh hmk
 have HS:=zh hs;have C1:=zh c1;have RS:=zh rs;have RCO:=zh rco;have I2:=zh hi2;have Z2:=zh hz2;have S2:=zh hs2b;have B2:=zh hb2;have I8:=zh hi8;have Z8:=zh hz8;have S8:=zh hs8;have B8:=zh hb8
 have KS:=zh kc;have ZS0:=zh zs0;have ZST:=zh zst;have ZOT:=zh zot;have ZS:=zh zsf;have BT:=zh bt;have PB:=zh pb;have HMI:=zh hmi;have RRW:=zh rrww;have HRC:=zh hRC;have HL:=zh hl;have HNC:=zh hnC;have HZT:=zh hZT
 have m0:0 < m:=by omega
 have BIG:Hid (p < m):=zh (by omega)
 clear rrww my rr pg0 nd1 hs1 hs2 fd fdd kd pt bk hid lyy caa cbb ccc kn xss xww xrw xll hTF hFI ndww pull ndll ftzz rrl puz ndz epu hCV hmk hs c1 rs rco hi2 hz2 hs2b hb2 hi8 hz8 hs8 hb8 kc zs0 zst zot zsf bt pb hmi hRC hnC hZ hZT hZF hKC hHC hnN hn hc hN hR hl hbig G zl
 go_enter Tryz.func16,Tryz.ntmps16
 go_upto_region 1 with fail
 rw [show (((w.alloc (.cells KC 22)).alloc (.cells HC 37)).alloc (.cells RC 25)).alloc (.cells Z 54)=rpW w KC HC RC Z from rfl]
 generalize rpW w KC HC RC Z=w4 at *
 go_wp2_with (refine wpList_load_all zr 37 _ zr (w.heap.size+1) zr _ Tryz.underlying37 zr HC _ PB.out.s (by rw [HS.out];exact infoRS) ?_)
 refine (MYY.out _ PB.out.b).mono ?_
 rintro e w5 ⟨rfl,hb5⟩
 have P5:=zh (PB.out.below hb5)
 clear hb5 PB
 go_wp2_with (refine wpList_unguard zr ?_;refine wpList_load_all zr 25 _ zr (w.heap.size+1+1) zr _ Tryz.underlying25 zr RC _ P5.out.r (by rw [RS.out];exact infoRfR) ?_)
 refine (RGT.out _).mono ?_
 rintro e w6 ⟨rfl,hb6⟩
 have P60:=zh (P5.out.below hb6)
 clear hb6 P5
 go_upto_region 4 with (first
  | (refine wpList_load_all zr 25 _ zr (w.heap.size+1+1) zr _ Tryz.underlying25 zr RC _ P60.out.r (by rw [RS.out];exact infoRfR) ?_)
  | (refine Mem.wpList_build zr 54 _ #[(2,.agg RC)] (.agg ZT) zr (by first | rfl | (simp [Act.eval,Act.put];done) | (simp [Act.eval];rfl)) BT.out ?_)
  | (refine wpList_store_new zr 54 _ _ zr zr ZT _ _ zr zr (by rw [ZST.out];exact infoTold) (by rw [ZST.out,ZS0.out]) ZOT.out ?_))
 clear hxt
 have D7:Hid (Below w6.heap.size w6 (w6.alloc (.cells ZT 54))):=zh ((Below.refl _ _).alloc (Nat.le_refl _) _)
 have P7:=zh (P60.out.below D7.out)
 have MK1:=zh (MK.out w6)
 obtain ⟨w7,hw7⟩:∃ y,y=w6.alloc (.cells ZT 54):=⟨_,rfl⟩
 rw [←hw7] at D7 P7 MK1 ⊢
 clear hw7 MK
 refine wp_region_plan_in (fun x'=>Below w7.heap.size w7 x') (.take 0 (.take 1 (.sole 2 (.sole 3 (.take 4 .done))))) (by kernel_rfl) (by kernel_rfl) (by kernel_rfl) (Below.refl _ _).drew ?_
 refine plan_row 37 _ (w.heap.size+1) _ HC 37 zr zr zr ze (fun w' hw'=>P7.out.s.below hw' P7.out.s.lt) Tryz.underlying37 zr (by rw [HS.out];exact infoRS) ?_
 (simp only [Mem.zp,Mem.pb,Mem.pc])
 (first | refine Mem.pm1 ?_ | refine Mem.pm2 ?_ | refine Mem.pt ?_ | refine Mem.pf ?_)
 (simp only [Mem.zp,Mem.pb,Mem.pc])
 refine plan_call 59 _ _ _ (by kernel_rfl) zr zr zr (by first | exact Mem.ev_none _ | (simp only [List.map_toArray,List.map_cons,List.map_nil,Mem.ev_tmp,List.getD_cons_succ,List.getD_cons_zero] <;> rfl)) ?_
 refine (PG0.out _ (P7.out.b.drew)).mono ?_
 rintro e w8 ⟨v50,rfl,ho8,hb8⟩
 have D8:Hid (Below w7.heap.size w7 w8):=zh (Below.trans (Below.refl _ _).drew hb8)
 have S50:=zh (ownV_sli ho8)
 clear ho8 hb8
 refine ⟨_,rfl,D8.out,?_⟩
 (simp only [Mem.zp,Mem.pb,Mem.pc])
 refine plan_call 58 _ _ _ (by kernel_rfl) zr zr zr (by first | exact Mem.ev_none _ | (simp only [List.map_toArray,List.map_cons,List.map_nil,Mem.ev_tmp,List.getD_cons_succ,List.getD_cons_zero] <;> rfl)) ?_
 refine (ND1.out _ _ (P7.out.b.trans (D8.out.mono P7.out.b.size)) S50.out).mono ?_
 rintro e w9 ⟨vk,rfl,ho9,hb9⟩
 have O9:=zh ho9
 have Q9:=zh hb9
 have D9:Hid (Below w7.heap.size w7 w9):=zh (D8.out.trans (hb9.mono D8.out.size))
 clear ho9 hb9
 refine ⟨_,rfl,D9.out,?_⟩
 (simp only [Mem.zp,Mem.pb,Mem.pc])
 (first | refine Mem.pm1 ?_ | refine Mem.pm2 ?_ | refine Mem.pt ?_ | refine Mem.pf ?_)
 (simp only [Mem.zp,Mem.pb,Mem.pc])
 refine plan_nil ?_
 have P9:=zh (P7.out.below D9.out)
 have f1:w9.cell? ⟨w.heap.size+1,1,none⟩=some (.slice aL m cL):=(P9.out.s.cell 1).trans C1.out
 go_upto_region 6 with (refine wpList_make_full _ zr _ _ 85 zr w9.heap.size 25 i2 (.agg (refC zref)) 34 Tryz.underlying85 I2.out Z2.out S2.out .i64 .i64 (m:Int) (m:Int) m zr zr zr zr (by rw [B2.out];omega) (by simp [maxLen];omega) (Nat.le_refl _) ?_;intro wA hoA hgA;have OA:=zh hoA;have BA:Hid (Below w9.heap.size w9 wA):=zh ((Below.refl _ _).grown hgA (Nat.le_refl _) (fun k e=>by cases e));clear hoA hgA)
 clear f1
 have PA:=zh (P9.out.below BA.out)
 have f1:wA.cell? ⟨w.heap.size+1,1,none⟩=some (.slice aL m cL):=(PA.out.s.cell 1).trans C1.out
 go_upto_region 7 with (refine wpList_make_full _ zr _ _ 142 zr wA.heap.size 4 i8 (.bool false) 1 Tryz.underlying142 I8.out Z8.out S8.out .i64 .i64 (m:Int) (m:Int) m zr zr zr zr (by rw [B8.out];omega) (by simp [maxLen];omega) (Nat.le_refl _) ?_;intro wB hoB hgB;have OB:=zh hoB;have BB:Hid (Below wA.heap.size wA wB):=zh ((Below.refl _ _).grown hgB (Nat.le_refl _) (fun k e=>by cases e));clear hoB hgB)
 clear f1
 have J0:=zh (MK1.out w8 w9 wA wB vk D8.out Q9.out O9.out (by have h:=OA.out;rw [made_refs] at h;exact h) BA.out (by have h:=OB.out;rw [made_bools] at h;exact h) BB.out m0)
 obtain ⟨bo,hbo⟩:∃ y,y=w6.heap.size:=⟨_,rfl⟩
 obtain ⟨bf,hbf⟩:∃ y,y=w9.heap.size:=⟨_,rfl⟩
 obtain ⟨bt,hbt⟩:∃ y,y=wA.heap.size:=⟨_,rfl⟩
 have BOQ:=zh hbo
 rw [←hbf,←hbt] at J0 ⊢
 replace J0:Hid (RpJ w6 wB bo bf bt (.slice none 0 0) (.slice none 0 0) (fun _=>False) [] [] (fun _=>False) [] [] (List.replicate m zref) (List.replicate m false) root vk KI):=zh (by rw [hbo];exact J0.out)
 rw [←hbo]
 clear hbo hbf hbt OA OB BA BB PA P9 D9 Q9 O9 S50 D8 P7 D7 MK1 MYY RGT ND1
 go_wp2_with fail
 go_loopw [17] (fun vi wr=>∃ n:Nat,n≤m∧vi=.int .i64 (n:Int)∧∃ vp vn Dp wp Dn wn F T,RpJ w6 wr bo bf bt vp vn Dp wp (PU n) Dn wn (ND n) F T (RR n) vk KI∧FT n F T) (fun vi _=>m - (intOf vi).toNat)
 case atStart=>exact ⟨0,by omega,rfl,_,_,_,_,_,_,_,_,by rw [PUZ.out,NDZ.out,RRL.out 0 m0];exact J0.out,FTZ.out⟩
 case round=>
  clear J0
  obtain ⟨n,hnm,rfl,vp,vn,Dp,wp,Dn,wn,F,T,hJ,hFT⟩:=hrel
  have JW:=zh hJ;have FTW:=zh hFT
  have PW:=zh (P60.out.below hJ.i.b)
  have BW:Hid (Below w.heap.size w wr):=zh PW.out.b
  clear hJ hFT
  have f1:wr.cell? ⟨w.heap.size+1,1,none⟩=some (.slice aL m cL):=(PW.out.s.cell 1).trans C1.out
  by_cases hlt:n < m
  ·have hlt':(n:Int) < (m:Int):=by omega
   replace JW:Hid (RpJ w6 wr bo bf bt vp vn Dp wp (PU n) Dn wn (ND n) F T root vk KI):=zh (by have h:=JW.out;rw [RRL.out n hlt] at h;exact h)
   go_upto_region 11 with fail
   clear f1
   go_wp2_with fail
   refine (PG0.out _ BW.out).mono ?_
   rintro e wa ⟨v68,rfl,ho,hb⟩
   have S68:=zh (ownV_sli ho)
   have BWa:Hid (Below wr.heap.size wr wa):=zh hb
   clear ho hb
   go_wp2_with fail
   refine (HS1.out n _ _ S68.out).mono ?_
   rintro e wq ⟨rfl,hb⟩
   have BQ0:Hid (Below wr.heap.size wr wq):=zh (BWa.out.trans (hb.mono BWa.out.size))
   have JQ:=zh (JW.out.below BQ0.out);have PQ:=zh (PW.out.below BQ0.out);have BQ:Hid (Below w.heap.size w wq):=zh (BW.out.trans (BQ0.out.mono BW.out.size))
   clear hb S68 BWa BQ0 JW PW BW
   cases hcon:PGL.contains (n:Int) with
   | true=>
    obtain ⟨pg,hlast,hlen,⟨x,r,b,htf⟩,hndn⟩:=CA.out n hlt hcon
    have TF:=zh htf;have PLN:=zh hlen;have LST:=zh hlast;have NDN:=zh hndn
    have VQ:=zh (HCV.out.below BQ.out)
    clear htf hlen hlast hndn hcon
    have hnc1:nC≤1000:=HL.out
    go_upto_region 12 with fail
    go_wp2_with fail
    go_loopw [18,19] (fun vg vj wx=>∃ j:Nat,j≤nC∧vj=.int .i64 (j:Int)∧wx=wq∧Sl wq vg ((lastC C n j).getD [])) (fun _ vj _=>nC - (intOf vj).toNat)
    case atStart=>exact ⟨0,by omega,rfl,rfl,by rw [show (lastC C n 0).getD []=[] from rfl];exact ⟨none,0,rfl,by simp,fun h=>absurd rfl h⟩⟩
    case round=>
     obtain ⟨j,hj,rfl,rfl,hsg⟩:=hrel
     have SJ:=zh hsg
     obtain ⟨asg,csg,rfl⟩:=sl_inv hsg
     clear hsg
     by_cases hjl:j < nC
     ·have hjl':(j:Int) < (nC:Int):=by omega
      obtain ⟨b1,o1,u,e1,hlb,cz,cu,hsu⟩:=slch_at (i:=j) VQ.out HNC.out hjl
      subst e1
      obtain ⟨z1,hz1⟩:∃ y,y=(C.getD j zch).1:=⟨_,rfl⟩
      obtain ⟨a3,cap3,rfl⟩:=sl_inv hsu
      have hstep:lastC C n (j+1)=if (C.getD j zch).1=(n:Int) then some (C.getD j zch).2 else lastC C n j:=rfl
      rw [←hz1] at cz hstep
      have STP:=zh hstep;have SU:=zh hsu
      obtain ⟨l3,hl3⟩:∃ y,y=(C.getD j zch).2.length:=⟨_,rfl⟩
      rw [←hl3] at cu SU
      clear hstep hsu hz1 hl3 hlb
      by_cases hez:z1=(n:Int)
      ·go_wp2_with fail
       go_roundw
       case rel=>exact ⟨j+1,by omega,by go_num,by trivial,by rw [STP.out,if_pos hez];exact SU.out⟩
       case measure=>simp [intOf];omega
      ·go_wp2_with fail
       go_roundw
       case rel=>exact ⟨j+1,by omega,by go_num,by trivial,by rw [STP.out,if_neg hez];exact SJ.out⟩
       case measure=>simp [intOf];omega
     ·have hjn:j=nC:=by omega
      subst hjn
      have hge:¬ (j:Int) < (j:Int):=by omega
      have SG:Hid (Sl wr (.slice asg ((lastC C n j).getD []).length csg) pg):=zh (by have h:=SJ.out;rw [LST.out] at h ⊢;exact h)
      rw [LST.out,Option.getD_some,PLN.out] at SG ⊢
      have JT:Hid (RpJ w6 wr bo bf bt vp vn Dp wp (PU n) Dn wn (ND (n+1)) F T root vk KI):=zh (by rw [NDN.out];exact JQ.out)
      obtain ⟨wq,hwq⟩:∃ y,y=wr:=⟨_,rfl⟩
      rw [←hwq] at JT SG PQ BQ ⊢
      clear hwq SJ VQ JQ LST
      have hx:=hxf
      have FTN:=zh (HFI.out n F T FTW.out)
      obtain ⟨OM,hOM⟩:∃ M,M=refC (oldC p root N n):=⟨_,rfl⟩
      obtain ⟨M,hM⟩:∃ M,M=refC r:=⟨_,rfl⟩
      have oms:=refC_size TF.out.ow;have omo:=refC_one (oldC p root N n);have om0:=ref0 (oldC p root N n)
      have mms:=refC_size TF.out.wf;have mmo:=refC_one r
      have hfs:=fun F (h:∀ q∈F,RefV.Wf q) (hl:n < F.length)=>refs_splice h TF.out.wf hl
      have htr:=fun a b=>told_root (vp:=a) (vn:=b) hr0 TF.out.wf
      have bkc:=fun wx (h:Below w.heap.size w wx)=>BK.out (n:Int) (1 - (oldC p root N n).pl) wx h
      rw [TF.out.bz] at bkc
      have hdc:=fun wx v (h:Sl wx v pg)=>HID.out (oldC p root N n).pl (b:Int) pg wx v h TF.out.o0 TF.out.o1 (by have:=TF.out.b1;omega) (by rw [PLN.out];decide)
      have hpar:=TF.out.par
      rw [TF.out.hd] at hdc
      unfold ThreeOwn at hdc
      dsimp only at hdc
      have hput:=(HTF.out _ _ _ _ _ TF.out).1
      have hrt:=(HTF.out _ _ _ _ _ TF.out).2.1
      have hftn:=(HTF.out _ _ _ _ _ TF.out).2.2 F T FTW.out
      have hp0:=TF.out.o0;have hp1:=TF.out.o1
      have hold:oldC p root N n=root→RC=OM:=fun e=>by rw [HRC.out,hOM,e]
      have holdr:∀ q a:Nat,(findD N (q:Int)).getD a zref=oldC p root N n→refL ((findD N (q:Int)).getD a zref)=OM.toList:=fun q a e=>by rw [e,hOM];rfl
      obtain ⟨pl,hpl⟩:∃ y,y=(oldC p root N n).pl:=⟨_,rfl⟩
      rw [←hpl] at bkc hdc hp0 hp1 om0
      rw [←hM] at mms mmo hfs htr hdc
      rw [←hOM] at oms omo om0
      have OMS:=zh oms;have OMO:=zh omo;have OM0:=zh om0;have MS:=zh mms;have MO:=zh mmo;have FSP:=zh hfs;have TRT:=zh htr;have BKC:=zh bkc;have HDC:=zh hdc;have PUT:=zh hput;have RT:=zh hrt;have FTE:=zh hftn;have PARF:=zh hpar;have OLD:=zh hold;have OLR:=zh holdr
      have B1N:Hid (b≤1000):=zh TF.out.b1
      clear oms omo om0 mms mmo hfs htr bkc hdc hpar hput hrt hftn hold holdr hpl hM hOM TF
      have AW:=zh (at_new wq RC 25)
      have D1:Hid (Below wq.heap.size wq (wq.alloc (.cells RC 25))):=zh ((Below.refl _ _).alloc (Nat.le_refl _) _)
      have PT1:=zh (PTC.out n (by omega))
      go_upto_region 29 with (first
       | (refine wpList_load_all zr 25 _ zr (w.heap.size+1+1) zr _ Tryz.underlying25 zr RC _ PQ.out.r (by rw [RS.out];exact infoRfR) ?_)
       | (refine wpList_store_new zr 25 _ _ zr zr RC _ _ zr zr (by rw [RS.out];exact infoRfR) (by rw [RS.out,ZS.out]) RCO.out ?_))
      obtain ⟨bw,hbw⟩:∃ y,y=wq.heap.size:=⟨_,rfl⟩
      rw [←hbw] at AW D1 ⊢
      generalize wq.alloc (.cells RC 25)=wb at *
      have HBW:=zh hbw
      clear hbw
      have PB1:=zh (PQ.out.below (by rw [←HBW.out];exact D1.out))
      have BB1:Hid (Below w.heap.size w wb):=zh (BQ.out.trans (D1.out.mono (by rw [HBW.out];exact BQ.out.size)))
      obtain ⟨zq,za,zo,hpz,hzz⟩:=PARF.out
      rw [hpz] at PT1
      have ZZ:=zh hzz
      clear hpz hzz
      go_wp2_with (refine wpList_load_all zr 37 _ zr (w.heap.size+1) zr _ Tryz.underlying37 zr HC _ PB1.out.s (by rw [HS.out];exact infoRS) ?_)
      refine (PT1.out _ BB1.out).mono ?_
      rintro e wc1 ⟨rfl,hbc⟩
      have D2:Hid (Below bw wq wc1):=zh (D1.out.trans (hbc.mono (by have:=D1.out.size;have:=AW.out.lt;omega)))
      have AW2:=zh (AW.out.below hbc AW.out.lt)
      clear hbc PB1 BB1 AW D1 PT1
      go_upto_if 147 with fail
      go_cut [] (fun wx=>At wx bw OM 25∧Below bw wq wx)
      case first=>
       rcases ZZ.out with ⟨rfl,q,a,rfl,rfl,hal,hal6,hag⟩ | ⟨rfl,hag⟩
       ·have OG:=zh (OLR.out q a hag)
        have FDQ:=zh (FD.out (q:Int))
        obtain ⟨lq,hlq⟩:∃ y,y=(findD N (q:Int)).length:=⟨_,rfl⟩
        rw [←hlq] at hal hal6
        have LQ:=zh hlq
        have AQ:=zh hal
        have hal2:(a:Int) < (lq:Int):=by omega
        have BX1:Hid (Below w.heap.size w wc1):=zh (BQ.out.trans (D2.out.mono (by rw [HBW.out];exact BQ.out.size)))
        clear hag hlq hal hal6
        go_wp2_with fail
        refine (FDQ.out _ BX1.out).mono ?_
        rintro e w31 ⟨v29,rfl,hs29,hb31⟩
        obtain ⟨a29,c29,rfl⟩:=hs29.hdn LQ.out.symm
        obtain ⟨fb,fo,ea,_,hrg⟩:=slrf_at (i:=a) hs29 LQ.out AQ.out
        subst ea
        rw [OG.out] at hrg
        have RG:=zh hrg
        have AW3:=zh (AW2.out.below hb31 AW2.out.lt)
        have D3:Hid (Below bw wq w31):=zh (D2.out.trans (hb31.mono (by have:=D2.out.size;have:=AW2.out.lt;omega)))
        clear hs29 hb31 hrg BX1
        go_wp2_with (first
         | (refine wpList_load_mid zr 25 _ zr fb (fo+a*34) zr OM.toList _ RG.out Tryz.underlying25 zr (by rw [infoRfR,Array.length_toList,OMS.out]) ?_;rw [Array.toArray_toList])
         | (refine wpList_store_all zr 25 _ _ zr zr bw OM zr zr (by rw [OMS.out];exact infoRfR) RC 25 AW3.out (by rw [OMS.out,RS.out]) OMO.out ?_))
        go_meet
        exact ⟨AW3.out.row _,below_row D3.out (Nat.le_refl _) _⟩
       ·have E1:=zh (OLD.out hag)
        clear hag
        go_wp2_with fail
        go_meet
        exact ⟨by rw [←E1.out];exact AW2.out,D2.out⟩
      case rest=>
       obtain ⟨hcA,hcB⟩:=hcut
       rw [HBW.out] at hcB
       have AW4:=zh hcA
       have J4:=zh (JT.out.below hcB);have SG4:=zh (SG.out.below hcB);have P4:=zh (PQ.out.below hcB)
       have B4:Hid (Below w.heap.size w wc):=zh (BQ.out.trans (hcB.mono BQ.out.size))
       clear hcA hcB JT SG PQ BQ AW2 D2 ZZ
       have c0:wc.cell? ⟨bw,0,none⟩=some (.int .i64 pl):=(AW4.out.cell 0).trans OM0.out
       go_wp2_with (refine wpList_load_all zr 37 _ zr (w.heap.size+1) zr _ Tryz.underlying37 zr HC _ P4.out.s (by rw [HS.out];exact infoRS) ?_)
       refine (BKC.out _ B4.out).mono ?_
       rintro e w5 ⟨rfl,hb5⟩
       have J5:=zh (J4.out.below hb5);have SG5:=zh (SG4.out.below hb5);have P5:=zh (P4.out.below hb5);have B5:Hid (Below w.heap.size w w5):=zh (B4.out.trans (hb5.mono B4.out.size));have AW5:=zh (AW4.out.below hb5 AW4.out.lt)
       clear hb5 c0 J4 SG4 P4 B4 AW4
       have c0:w5.cell? ⟨bw,0,none⟩=some (.int .i64 pl):=(AW5.out.cell 0).trans OM0.out
       go_wp2_with (refine wpList_load_all zr 22 _ zr w.heap.size zr _ Tryz.underlying22 zr KC _ P5.out.k (by rw [KS.out];kernel_rfl) ?_)
       refine (HDC.out _ _ SG5.out).mono ?_
       rintro e wh ⟨vh,rfl,hoh,hbh⟩
       have SH1:Hid (SlB (fun k=>w5.heap.size≤k∧k < wh.heap.size) wh vh x):=zh (SlR.mono (OwnB.slB hoh) fun k hk hl=>⟨hk,hl⟩)
       obtain ⟨ah,chh,rfl⟩:=sl_inv SH1.out.sl
       obtain ⟨nx,hnx⟩:∃ y,y=x.length:=⟨_,rfl⟩
       have J6:=zh (J5.out.below hbh);have P6:=zh (P5.out.below hbh)
       rw [←hnx] at SH1 ⊢
       have LTJ:Hid ((bo < w5.heap.size∧bf < w5.heap.size∧bt < w5.heap.size)∧(∀ k,vp.ownBlock=some k→k < w5.heap.size)∧(∀ k,vn.ownBlock=some k→k < w5.heap.size)∧w6.heap.size≤w5.heap.size):=zh (let h:=J5.out.lts;⟨h.1,h.2.2.2.1,h.2.2.2.2.1,J5.out.i.b.size⟩)
       have W5H:Hid (w5.heap.size≤wh.heap.size):=zh hbh.size
       clear hoh hbh c0 hnx J5 P5 SG5 B5 AW5
       have AR:=zh (at_new wh M 25)
       have hbr:Below wh.heap.size wh (wh.alloc (.cells M 25)):=(Below.refl _ _).alloc (Nat.le_refl _) _
       have J7:=zh (J6.out.below hbr);have P7:=zh (P6.out.below hbr)
       have SH2:Hid (SlB (fun k=>w5.heap.size≤k∧k < wh.heap.size) (wh.alloc (.cells M 25)) (.slice ah nx chh) x):=zh (SH1.out.keep hbr.size fun k _ hl=>hbr.block k hl)
       have WH:Hid (wh.heap.size≤(wh.alloc (.cells M 25)).heap.size):=zh hbr.size
       clear hbr J6 P6 SH1
       go_upto_region 35 with (refine wpList_store_new zr 25 _ _ zr zr M _ _ zr zr (by rw [MS.out];exact infoRfR) (by rw [MS.out,ZS.out]) MO.out ?_)
       clear hx
       obtain ⟨br,hbr⟩:∃ y,y=wh.heap.size:=⟨_,rfl⟩
       rw [←hbr] at AR SH2 WH W5H ⊢
       generalize wh.alloc (.cells M 25)=w7 at *
       clear hbr
       obtain ⟨ap,cp,hvp⟩:=rows_hd J7.out.i.p.o
       obtain ⟨np,hnp⟩:∃ y,y=(PU n).length:=⟨_,rfl⟩
       rw [←hnp] at hvp
       subst hvp
       have NPU:=zh hnp
       have NPL:Hid (np≤1000):=zh (by rw [hnp];exact PUL.out n (by omega))
       have cvp:w7.cell? ⟨bo,0,none⟩=some (.slice ap np cp):=(J7.out.i.o.cell 0).trans rfl
       have O8:Hid ((w7.alloc (.cells (ndRow (b:Int) (.slice ah nx chh)) 152)).ownsRow w6.heap.size 152 2 (.slice ap np cp) np (chVs wp)):=zh (by
        have h:=World.ownsRow.alloc J7.out.i.p.o (.cells (ndRow (b:Int) (.slice ah nx chh)) 152)
        rw [←NPU.out] at h
        exact h)
       have P8:Hid (At (w7.alloc (.cells (ndRow (b:Int) (.slice ah nx chh)) 152)) bo (toldC (.slice ap np cp) vn root 0) 54):=zh (J7.out.i.o.alloc _)
       have B8:Hid (w6.heap.size≤(w7.alloc (.cells (ndRow (b:Int) (.slice ah nx chh)) 152)).heap.size):=zh (by have:=J7.out.i.b.size;simp;omega)
       have Q8:Hid (Below w7.heap.size w7 (w7.alloc (.cells (ndRow (b:Int) (.slice ah nx chh)) 152))):=zh ((Below.refl _ _).alloc (Nat.le_refl _) _)
       have BLD:=zh (buildPtRr (b:Int));have BTT:=zh (builtPtRr (b:Int))
       clear hnp
       go_upto_region 36 with (first
        | (refine Mem.wpList_build zr 152 _ #[(0,.int .i64 (b:Int)),(1,.slice ah nx chh)] (.agg (ndRow (b:Int) (.slice ah nx chh))) zr (by first | rfl | simp [Act.eval]) (fun wx=>BLD.out _ _ _ wx) ?_;(simp only [Mem.zp,Mem.pb,Mem.pc]))
        | ((refine Go.Great.wpList_buildSliceTo zr 52 152 1 _ zr _ zr _ zr Tryz.underlying52 (ndRow (b:Int) (.slice ah nx chh)) (by first | (simp [Act.eval];exact BTT.out _ _ _) | (go_simp;exact BTT.out _ _ _) | (simp only [List.map_toArray,List.map_cons,List.map_nil];exact BTT.out _ _ _)) ?_;(simp only [Mem.zp,Mem.pb,Mem.pc])))
        | (at_builtin;go_loud (refine wpList_append_app zr _ _ 52 zr (.slice (some ⟨w7.heap.size,0,none⟩) 1 1) np 1 2 [.int .i64 (b:Int),.slice ah nx chh] (.agg #[.int .i64 0,.slice none 0 0]) 32 elemPtRr zr (by decide) zr O8.out zr (by exact rdR_new (e:=152) (C:=ndRow (b:Int) (.slice ah nx chh))) (by simp [Value.oneCell']) (by have:=NPL.out;omega) (by have:=NPL.out;omega) B8.out ?_);intro v9 w9 ho9 ha9 hb9;obtain ⟨a9,c9,rfl⟩:=rows_hd ho9;have O9:=zh ho9;have A9:=zh ha9;have B9:=zh hb9;have P9:=zh (at_appd P8.out ha9 (own_ne_at O8.out P8.out (by decide)));clear ho9 ha9 hb9;(simp only [Mem.zp,Mem.pb,Mem.pc]))
        | (refine Mem.wpList_store_one zr 52 _ _ zr zr bo 0 (.slice a9 (np+1) c9) zr zr zr infoPtsR _ 54 P9.out (by rw [toldC_size _ _ hr0];decide) ?_;intro w10 ha10 ho10 hb10;have A10:=zh ha10;have H10:=zh ho10;have B10:=zh hb10;clear ha10 ho10 hb10))
       clear cvp
       have AR8:Hid (At w10 br M 25):=zh (by
        have h:=at_appd (AR.out.below Q8.out AR.out.lt) A9.out (own_ne_at O8.out (AR.out.below Q8.out AR.out.lt) (by decide))
        exact h.eqw (H10.out br (at_apart h P9.out (by decide))))
       have J10:Hid (RpJ w6 w10 bo bf bt (.slice a9 (np+1) c9) vn (fun k=>Dp k∨(w5.heap.size≤k∧k < br)) (wp++[((b:Int),.slice ah nx chh)]) (PU (n+1)) Dn wn (ND (n+1)) F T root vk KI):=zh (by
        rw [PUT.out]
        have hl:=LTJ.out
        have hw:=WH.out
        refine RpJ.put J7.out SH2.out (fun k hk=>⟨by omega,⟨by omega,by omega,by omega⟩,fun e=>by have:=hl.2.1 k e;omega,fun e=>by have:=hl.2.2.1 k e;omega⟩) (fun k hk=>by omega) Q8.out A9.out B9.out (by rw [←NPU.out];exact O9.out) ?_ (fun k hk=>H10.out k hk) (fun B a hb hle=>B10.out B a hb hle)
        have h:=A10.out
        rw [told_set0] at h
        exact h)
       have P10:Hid (RpB w w10 KC HC RC Z):=zh (P60.out.below J10.out.i.b)
       have NRF:Hid (br≠bf):=zh (by have:=LTJ.out.1.2.1;have:=W5H.out;omega)
       have FL:=zh FTN.out.lf;have TL:=zh FTN.out.lt;have FW:=zh FTN.out.wf
       clear J7 P7 AR SH2 WH W5H LTJ O8 P8 B8 Q8 O9 A9 B9 P9 A10 H10 B10 NPU NPL BLD BTT
       generalize hDP:(fun k=>Dp k∨(w5.heap.size≤k∧k < br))=DP at *
       clear hDP
       have JF:=zh (J10.out.fresh (F.set n r))
       obtain ⟨wF,hwF⟩:∃ y,y=w10.setRow bf (refCs (F.set n r)).toArray:=⟨_,rfl⟩
       have HWO:Hid (∀ k,k≠bf→wF.heap[k]?=w10.heap[k]?):=zh (fun k hk=>by rw [hwF];exact setRow_other _ _ k _ hk)
       rw [←hwF] at JF
       have HWF:=zh hwF
       clear hwF
       have FSZ:Hid ((refCs F).toArray.size=m*34):=zh (by rw [List.size_toArray,refCs_length F FW.out,FL.out,HMI.out])
       have TSZ:Hid ((blC T).size=m):=zh (by rw [blC_size,TL.out,HMI.out])
       have FSQ:Hid (Mem.splice (refCs F).toArray (n*34) M.toList=(refCs (F.set n r)).toArray):=zh (FSP.out F FW.out (by rw [FL.out,←HMI.out];exact hlt))
       have HLT:Hid (n < m):=zh hlt
       go_upto_region 37 with (first
        | (refine wpList_load_all zr 25 _ zr br zr _ Tryz.underlying25 zr M _ AR8.out (by rw [MS.out];exact infoRfR) ?_;(simp only [Mem.zp,Mem.pb,Mem.pc]))
        | (refine wpList_store_at zr 25 _ _ zr zr bf (n*34) M zr zr (by rw [MS.out];exact infoRfR) (refCs F).toArray 25 J10.out.i.f (by rw [MS.out,FSZ.out];have:=HLT.out;omega) MO.out ?_;rw [FSQ.out,←HWF.out])
        | (refine Mem.wpList_store_one zr 4 _ _ zr zr bt n (.bool true) zr zr zr infoBlR (blC T) 4 JF.out.i.t (by rw [TSZ.out];exact HLT.out) ?_;intro w11 ha11 ho11 hb11;rw [blC_set] at ha11;have A11:=zh ha11;have H11:=zh ho11;have B11:=zh hb11;clear ha11 ho11 hb11))
       have J11:Hid (RpJ w6 w11 bo bf bt (.slice a9 (np+1) c9) vn DP (wp++[((b:Int),.slice ah nx chh)]) (PU (n+1)) Dn wn (ND (n+1)) (F.set n r) (T.set n true) root vk KI):=zh (JF.out.turned A11.out (fun k hk=>H11.out k hk) (fun B a hb hle=>B11.out B a hb hle))
       have AR11:Hid (At w11 br M 25):=zh (AR8.out.eqw ((H11.out br (at_apart AR8.out J10.out.i.t (by decide))).trans (HWO.out br NRF.out)))
       have P11:Hid (RpB w w11 KC HC RC Z):=zh (P60.out.below J11.out.i.b)
       clear J10 AR8 P10 JF A11 H11 B11 FSP FSQ FSZ TSZ FL TL FW NRF HWO HWF
       have f1:w11.cell? ⟨w.heap.size+1,1,none⟩=some (.slice aL m cL):=(P11.out.s.cell 1).trans C1.out
       have f2:0 < m:=by omega
       by_cases hlast:n+1=m
       ·have hl2:(n:Int)=(m:Int) - 1:=by omega
        have RT2:Hid (RR (n+1)=r):=zh (by rw [RT.out,if_pos hlast])
        have TQ:=zh (TRT.out (.slice a9 (np+1) c9) vn)
        have TSX:Hid ((toldC (.slice a9 (np+1) c9) vn root 0).size=37):=zh (toldC_size _ _ hr0 0)
        go_wp2_with (first
         | (refine wpList_load_all zr 25 _ zr br zr _ Tryz.underlying25 zr M _ AR11.out (by rw [MS.out];exact infoRfR) ?_;(simp only [Mem.zp,Mem.pb,Mem.pc]))
         | (refine wpList_store_at zr 25 _ _ zr zr bo 2 M zr zr (by rw [MS.out];exact infoRfR) _ 54 J11.out.i.o (by rw [MS.out,TSX.out];decide) MO.out ?_;rw [TQ.out]))
        go_roundw
        case rel=>exact ⟨n+1,by omega,by go_num,_,_,_,_,_,_,_,_,by rw [RT2.out];exact J11.out.rooted r,FTE.out⟩
        case measure=>simp [intOf];omega
       ·have hl2:¬ (n:Int)=(m:Int) - 1:=by omega
        have RT2:Hid (RR (n+1)=root):=zh (by rw [RT.out,if_neg hlast])
        go_wp2_with fail
        go_roundw
        case rel=>exact ⟨n+1,by omega,by go_num,_,_,_,_,_,_,_,_,by rw [RT2.out];exact J11.out,FTE.out⟩
        case measure=>simp [intOf];omega
   | false=>
    cases hcon2:KI.contains (n:Int) with
    | false=>
     obtain ⟨c1,c2,c3,c4⟩:=CC.out n hlt hcon hcon2
     have CF:=zh c4
     have JC:Hid (RpJ w6 wq bo bf bt vp vn Dp wp (PU (n+1)) Dn wn (ND (n+1)) F T (RR (n+1)) vk KI):=zh (by rw [c1,c2,c3];exact JQ.out)
     have SK:=zh (ownV_sli JQ.out.k)
     clear c1 c2 c3 c4
     go_wp2_with fail
     refine (HS2.out n _ _ SK.out).mono ?_
     rintro e wd ⟨rfl,hb⟩
     have JD:=zh (JC.out.below hb)
     rw [hcon2]
     clear hb JC JQ SK
     go_wp2_with fail
     go_roundw
     case rel=>exact ⟨n+1,by omega,by go_num,_,_,_,_,_,_,_,_,JD.out,CF.out F T FTW.out⟩
     case measure=>simp [intOf];omega
    | true=>
     obtain ⟨hpn,hxl,hlen,⟨x,r,b,htf⟩,hndn,hxe⟩:=CB.out n hlt hcon hcon2
     obtain ⟨kz1,kz2,kz3,kz4,kz5⟩:=KN.out n hpn hlt
     obtain ⟨pg,hpg⟩:∃ y,y=(layN (XR n)).1:=⟨_,rfl⟩
     rw [←hpg] at hlen htf
     have TF:=zh htf;have PLN:=zh hlen;have NDN:=zh hndn
     obtain ⟨c,hc⟩:∃ y,y=many p n:=⟨_,rfl⟩
     obtain ⟨f0,hf0⟩:∃ y,y=fst p n:=⟨_,rfl⟩
     have xsn:=fun k=>XSS.out n k F T FTW.out
     have lyn:=fun v wx h=>LYY.out n v wx h
     rw [←hc] at hxl hxe kz1 kz2 kz3 kz4 kz5
     rw [←hf0] at xsn kz4 kz5
     rw [←hpg] at lyn
     obtain ⟨KZn,hKZ⟩:∃ y,y=KZ p (n:Int):=⟨_,rfl⟩
     have kdn:=fun wx h=>KD.out n wx h
     rw [←hKZ] at kdn kz1 kz5
     obtain ⟨XN,hXN⟩:∃ y:Nat→List RefV,y=X n:=⟨_,rfl⟩
     have xln:=XLL.out n
     have xwn:=XWW.out n
     have fdn:=fun wx h=>FDD.out n wx h
     rw [←hXN] at hxl hxe xsn xln xwn fdn
     obtain ⟨XE,hXE⟩:∃ y,y=XR n:=⟨_,rfl⟩
     have xrn:=XRW.out n
     rw [←hXE] at hxe lyn xrn NDN
     obtain ⟨e2,he2⟩:∃ y,y=(layN XE).2:=⟨_,rfl⟩
     rw [←he2] at lyn
     have XSN:=zh xsn;have XLN:=zh xln;have XWN:=zh xwn;have XRN:=zh xrn;have LYN:=zh lyn;have KDN:=zh kdn;have FDN:=zh fdn;have XL0:=zh hxl;have XEQ:=zh hxe;have KZL:=zh kz1;have KZF:=zh kz4;have KZG:=zh kz5
     have SK:=zh (ownV_sli JQ.out.k)
     clear htf hlen hndn hpg hc hf0 hKZ hXN hXE he2 xsn xln xwn xrn lyn kdn fdn hxl hxe kz1 kz4 kz5 hpn
     go_wp2_with fail
     refine (HS2.out n _ _ SK.out).mono ?_
     rintro e wd ⟨rfl,hb⟩
     have JD:=zh (JQ.out.below hb);have PD:=zh (PQ.out.below hb)
     rw [hcon2]
     clear hb JQ PQ BQ SK hcon hcon2
     go_wp2_with fail
     refine (FDN.out _ PD.out.b).mono ?_
     rintro e we ⟨v95,rfl,hs95,hb⟩
     have JE:=zh (JD.out.below hb);have PE:=zh (PD.out.below hb)
     obtain ⟨a95,c95,rfl⟩:=hs95.hdn XL0.out
     have RD95:=zh (slrf_rd hs95 (XWN.out 0) XL0.out.symm)
     have LO95:=zh (refCs_one (XN 0))
     have ON0:Hid (we.ownsRow we.heap.size 25 34 (.slice none 0 0) 0 []):=zh (World.ownsRow_nil _ _ _ _)
     generalize (findT N (n:Int)).isSome=fq
     clear hs95 hb JD PD
     go_upto_region 20 with (at_builtin;go_loud (refine wpList_append_app zr _ _ 85 zr (.slice a95 c c95) 0 c 34 (refCs (XN 0)) (.agg (refC zref)) 48 elemRR (refC_size zref_wf) (by decide) zr ON0.out zr RD95.out LO95.out (by omega) (by omega) (Nat.le_refl _) ?_);intro v22 wf ho22 _ hb22;have O22a:=zh ho22;have B22:=zh hb22;clear ho22 hb22;(simp only [Mem.zp,Mem.pb,Mem.pc]))
     have O22:Hid (OwnRf wf we.heap.size 25 v22 (XN 0)):=zh (by have h:=O22a.out;rw [Nat.zero_add,List.nil_append] at h;show wf.ownsRow _ _ _ _ (XN 0).length _;rw [XL0.out];exact h)
     obtain ⟨gr,cap22,_,e22,hgB,hgl,_,_,_⟩:=own_store (i:=0) O22.out (XWN.out 0) zref_wf (by rw [XL0.out];omega)
     rw [XL0.out] at e22
     subst e22
     have JF:=zh (JE.out.below B22.out);have PF:=zh (PE.out.below B22.out)
     have LTS:=zh JE.out.lts
     have S0:Hid (w6.heap.size≤we.heap.size):=zh JE.out.i.b.size
     obtain ⟨sz,hsz⟩:∃ y,y=we.heap.size:=⟨_,rfl⟩
     rw [←hsz] at O22 LTS S0 hgB
     have GB:=zh hgB;have GL:=zh hgl
     clear hsz JE PE O22a B22 RD95 LO95 ON0 hgB hgl
     go_wp2_with (refine wpList_load_all zr 37 _ zr (w.heap.size+1) zr _ Tryz.underlying37 zr HC _ PF.out.s (by rw [HS.out];exact infoRS) ?_)
     refine (KDN.out _ PF.out.b).mono ?_
     rintro e wg ⟨v23,rfl,ho23,hb⟩
     obtain ⟨a23,c23,e23,_⟩:=OwnV.open ho23
     rw [iz_length,KZL.out] at e23
     subst e23
     have JG:=zh (JF.out.below hb);have O23:=zh ho23;have OG22:Hid (OwnRf wg sz 25 (.slice (some ⟨gr,0,none⟩) c cap22) (XN 0)):=zh (ownsRow_below O22.out hb)
     obtain ⟨sk,hsk⟩:∃ y,y=wf.heap.size:=⟨_,rfl⟩
     rw [←hsk] at O23 GL
     clear hb ho23 hsk JF PF O22
     go_wp2_with fail
     go_loopw [24] (fun vt wx=>∃ k:Nat,k≤c∧vt=.int .i64 (k:Int)∧RpJ w6 wx bo bf bt vp vn Dp wp (PU n) Dn wn (ND n) F T root vk KI∧OwnRf wx sz 25 (.slice (some ⟨gr,0,none⟩) c cap22) (XN k)∧OwnV wx sk 3 (.slice a23 c c23) (iz KZn)) (fun vt _=>c - (intOf vt).toNat)
     case atStart=>exact ⟨0,by omega,rfl,JG.out,OG22.out,O23.out⟩
     case round=>
      clear JG OG22 O23
      obtain ⟨k,hk,rfl,hJ,hO,hK⟩:=hrel
      have JK:=zh hJ;have OK2:=zh hO;have OV:=zh hK
      clear hJ hO hK
      by_cases hkc:k < c
      ·have hkc':(k:Int) < (c:Int):=by omega
       obtain ⟨b23,o23,ea,_,cz⟩:=sli_at (i:=k) (ownV_sli OV.out) KZL.out.symm hkc
       rw [KZG.out k hkc] at cz
       subst ea
       obtain ⟨xs1,xs2⟩:=XSN.out k (by have:=KZF.out;omega) (by have:=KZF.out;omega)
       have hqm:f0+k < m:=by have:=KZF.out;omega
       obtain ⟨q,hq⟩:∃ y,y=f0+k:=⟨_,rfl⟩
       rw [←hq] at cz xs1 xs2 hqm
       have hqm':(q:Int) < (m:Int):=by omega
       have cbt0:wr.cell? ⟨bt,q,none⟩=some (.bool (T.getD q false)):=(JK.out.i.t.cell q).trans (blC_get T q (by rw [(HFI.out n F T FTW.out).lt,←HMI.out];exact hqm))
       clear hq
       cases htq:T.getD q false with
       | true=>
        rw [htq] at cbt0
        have hxs:=xs1 htq
        have hwq:=getD_wf (HFI.out n F T FTW.out).wf q
        have hrg:=at_range JK.out.i.f (HFI.out n F T FTW.out).wf (i:=q) (by rw [(HFI.out n F T FTW.out).lf,←HMI.out];exact hqm)
        obtain ⟨fr,hfr⟩:∃ y,y=F.getD q zref:=⟨_,rfl⟩
        rw [←hfr] at hxs hwq hrg
        have fms:=refC_size hwq;have fmo:=refC_one fr
        obtain ⟨FM,hFM⟩:∃ M,M=refC fr:=⟨_,rfl⟩
        have hrl:refL fr=FM.toList:=by rw [hFM];rfl
        rw [←hFM] at fms fmo
        rw [hrl] at hrg
        obtain ⟨g',cap',cur,ev,hgB,hgl,hcur,hfit,hown⟩:=own_store (i:=k) OK2.out (XWN.out k) hwq (by rw [XLN.out k,XL0.out];exact hkc)
        injection ev with ev1 ev2 ev3
        injection ev1 with ev1
        injection ev1 with ev1 _ _
        subst ev1
        clear ev2 ev3
        rw [←hxs,hrl] at hown
        have CUR:=zh hcur;have FIT:=zh hfit;have OWN:=zh hown;have FMS:=zh fms;have FMO:=zh fmo;have RG:=zh hrg
        have hoth:∀ y,y≠gr→(wr.setRow gr (Mem.splice cur (k*34) FM.toList)).heap[y]?=wr.heap[y]?:=fun y hne=>setRow_other wr gr y _ hne
        have JN:Hid (RpJ w6 (wr.setRow gr (Mem.splice cur (k*34) FM.toList)) bo bf bt vp vn Dp wp (PU n) Dn wn (ND n) F T root vk KI):=zh (JK.out.else GB.out S0.out LTS.out.1 LTS.out.2 (by simp) (fun B a hb hle=>below_row hb hle _) hoth)
        have VN:Hid (OwnV (wr.setRow gr (Mem.splice cur (k*34) FM.toList)) sk 3 (.slice (some ⟨b23,o23,none⟩) c c23) (iz KZn)):=zh (ownsRow_keep OV.out fun y hy=>hoth y (by have:=(World.ownsRow.lt OV.out y hy).1;have:=GL.out;omega))
        clear hxs hwq hrg hfr fms fmo hFM hrl hgB hgl hcur hfit hown hoth xs1 xs2 htq
        go_wp2_with (first
         | (refine wpList_load_mid zr 25 _ zr bf (q*34) (by first | rfl | simp) FM.toList _ RG.out Tryz.underlying25 zr (by rw [infoRfR,Array.length_toList,FMS.out]) ?_;rw [Array.toArray_toList])
         | (refine wpList_store_at zr 25 _ _ zr zr gr (k*34) FM (by first | rfl | simp) zr (by rw [FMS.out];exact infoRfR) cur 25 CUR.out (by rw [FMS.out];exact FIT.out) FMO.out ?_))
        go_roundw
        case rel=>exact ⟨k+1,by omega,by go_num,JN.out,OWN.out,VN.out⟩
        case measure=>simp [intOf];omega
       | false=>
        rw [htq] at cbt0
        have ON:Hid (OwnRf wr sz 25 (.slice (some ⟨gr,0,none⟩) c cap22) (XN (k+1))):=zh (by rw [xs2 htq];exact OK2.out)
        clear xs1 xs2 htq
        go_wp2_with fail
        go_roundw
        case rel=>exact ⟨k+1,by omega,by go_num,JK.out,ON.out,OV.out⟩
        case measure=>simp [intOf];omega
      ·have hkn:k=c:=by omega
       subst hkn
       have hge:¬ (k:Int) < (k:Int):=by omega
       have OX:Hid (OwnRf wr sz 25 (.slice (some ⟨gr,0,none⟩) k cap22) XE):=zh (by rw [←XEQ.out];exact OK2.out)
       have XEL:Hid (XE.length=k):=zh (by rw [←XEQ.out,XLN.out,XL0.out])
       have GLW:Hid (gr < wr.heap.size):=zh (World.ownsRow.lt OX.out gr rfl).2
       obtain ⟨av0,cv0,hvn⟩:=rows_hd JK.out.i.q.o
       obtain ⟨nn,hnn⟩:∃ y,y=(ND n).length:=⟨_,rfl⟩
       rw [←hnn] at hvn
       subst hvn
       have NNQ:=zh hnn
       have NNL:Hid (nn≤1000):=zh (by rw [hnn];exact NDL.out n (by omega))
       have cvn:wr.cell? ⟨bo,1,none⟩=some (.slice av0 nn cv0):=(JK.out.i.o.cell 1).trans rfl
       have O8:Hid ((wr.alloc (.cells (ndRow (n:Int) (.slice (some ⟨gr,0,none⟩) k cap22)) 124)).ownsRow w6.heap.size 124 2 (.slice av0 nn cv0) nn (chVs wn)):=zh (by
        have h:=World.ownsRow.alloc JK.out.i.q.o (.cells (ndRow (n:Int) (.slice (some ⟨gr,0,none⟩) k cap22)) 124)
        rw [←NNQ.out] at h
        exact h)
       have P8:Hid (At (wr.alloc (.cells (ndRow (n:Int) (.slice (some ⟨gr,0,none⟩) k cap22)) 124)) bo (toldC vp (.slice av0 nn cv0) root 0) 54):=zh (JK.out.i.o.alloc _)
       have B8:Hid (w6.heap.size≤(wr.alloc (.cells (ndRow (n:Int) (.slice (some ⟨gr,0,none⟩) k cap22)) 124)).heap.size):=zh (by have:=JK.out.i.b.size;simp;omega)
       have Q8:Hid (Below wr.heap.size wr (wr.alloc (.cells (ndRow (n:Int) (.slice (some ⟨gr,0,none⟩) k cap22)) 124))):=zh ((Below.refl _ _).alloc (Nat.le_refl _) _)
       have BLD:=zh (buildNdRr (n:Int));have BTT:=zh (builtNdRr (n:Int))
       clear hnn OV OK2
       go_upto_region 27 with (first
        | (refine Mem.wpList_build zr 124 _ #[(0,.int .i64 (n:Int)),(1,.slice (some ⟨gr,0,none⟩) k cap22)] (.agg (ndRow (n:Int) (.slice (some ⟨gr,0,none⟩) k cap22))) zr (by first | rfl | simp [Act.eval]) (fun wx=>BLD.out _ _ _ wx) ?_;(simp only [Mem.zp,Mem.pb,Mem.pc]))
        | ((refine Go.Great.wpList_buildSliceTo zr 28 124 1 _ zr _ zr _ zr Tryz.underlying28 (ndRow (n:Int) (.slice (some ⟨gr,0,none⟩) k cap22)) (by first | (simp [Act.eval];exact BTT.out _ _ _) | (go_simp;exact BTT.out _ _ _) | (simp only [List.map_toArray,List.map_cons,List.map_nil];exact BTT.out _ _ _)) ?_;(simp only [Mem.zp,Mem.pb,Mem.pc])))
        | (at_builtin;go_loud (refine wpList_append_app zr _ _ 28 zr (.slice (some ⟨wr.heap.size,0,none⟩) 1 1) nn 1 2 [.int .i64 (n:Int),.slice (some ⟨gr,0,none⟩) k cap22] (.agg #[.int .i64 0,.slice none 0 0]) 32 elemNdRr zr (by decide) zr O8.out zr (by exact rdR_new (e:=124) (C:=ndRow (n:Int) (.slice (some ⟨gr,0,none⟩) k cap22))) (by simp [Value.oneCell']) (by have:=NNL.out;omega) (by have:=NNL.out;omega) B8.out ?_);intro v9 w9 ho9 ha9 hb9;obtain ⟨a9,c9,rfl⟩:=rows_hd ho9;have O9:=zh ho9;have A9:=zh ha9;have B9:=zh hb9;have P9:=zh (at_appd P8.out ha9 (own_ne_at O8.out P8.out (by decide)));clear ho9 ha9 hb9;(simp only [Mem.zp,Mem.pb,Mem.pc]))
        | (refine Mem.wpList_store_one zr 28 _ _ zr zr bo 1 (.slice a9 (nn+1) c9) zr zr zr infoNdsR _ 54 P9.out (by rw [toldC_size _ _ hr0];decide) ?_;intro w10 ha10 ho10 hb10;have A10:=zh ha10;have H10:=zh ho10;have B10:=zh hb10;clear ha10 ho10 hb10))
       clear cvn
       have hgrn:(Value.slice av0 nn cv0).ownBlock≠some gr:=fun e=>by have:=LTS.out.2.2.2.2.1 gr e;have:=GB.out;omega
       have hgrb:gr≠bo:=fun e=>by have:=LTS.out.1.1;have:=GB.out;omega
       have OX10:Hid (OwnRf w10 sz 25 (.slice (some ⟨gr,0,none⟩) k cap22) XE):=zh (ownsRow_keep OX.out fun y hy=>by
        have hy:y=gr:=by simpa [Value.ownBlock] using hy.symm
        subst hy
        rw [H10.out y hgrb,A9.out.k y (by have:=GLW.out;have:=Q8.out.size;omega) hgrn,Q8.out.block y GLW.out])
       have J10:Hid (RpJ w6 w10 bo bf bt vp (.slice a9 (nn+1) c9) Dp wp (PU n) (fun y=>Dn y∨(Value.slice (some ⟨gr,0,none⟩) k cap22).ownBlock=some y) (wn++[((n:Int),.slice (some ⟨gr,0,none⟩) k cap22)]) (ND (n+1)) F T root vk KI):=zh (by
        rw [NDN.out]
        have hl:=LTS.out
        have hw:=GLW.out
        have hg:=GB.out
        have hz:=S0.out
        have hs1:TR (fun y=>(Value.slice (some ⟨gr,0,none⟩) k cap22).ownBlock=some y) wr (.slice (some ⟨gr,0,none⟩) k cap22) XE:=own_slR OX.out
        have hy:∀ y,(Value.slice (some ⟨gr,0,none⟩) k cap22).ownBlock=some y→y=gr:=fun y hy=>by simpa [Value.ownBlock] using hy.symm
        refine RpJ.node JK.out hs1 (fun y hk=>?_) (fun y hk=>by rw [hy y hk];omega) Q8.out A9.out B9.out (by rw [←NNQ.out];exact O9.out) ?_ (fun y hk=>H10.out y hk) (fun B a hb hle=>B10.out B a hb hle)
        ·rw [hy y hk]
         exact ⟨hw,⟨by omega,by omega,by omega⟩,fun e=>by have:=hl.2.2.2.1 gr e;omega,hgrn⟩
        ·have h:=A10.out
         rw [told_set1] at h
         exact h)
       have SX:Hid (SlRf w10 (.slice (some ⟨gr,0,none⟩) k cap22) XE):=zh (own_slrf OX10.out XRN.out)
       clear hgrn hgrb OX10 OX JK LTS GB GL S0 GLW NNQ NNL O8 P8 B8 Q8 O9 A9 B9 P9 A10 H10 B10 BLD BTT
       generalize (fun y=>Dn y∨(Value.slice (some ⟨gr,0,none⟩) k cap22).ownBlock=some y)=Dn2 at *
       generalize (wn++[((n:Int),.slice (some ⟨gr,0,none⟩) k cap22)])=wn2 at *
       obtain ⟨vn2,hvn2⟩:∃ y,y=Value.slice a9 (nn+1) c9:=⟨_,rfl⟩
       rw [←hvn2] at J10
       clear hvn2
       go_wp2_with fail
       refine (LYN.out _ _ SX.out).mono ?_
       rintro e wq ⟨vg,rfl,hsg,hb⟩
       obtain ⟨ag,cg,rfl⟩:=sl_inv hsg
       have SG:=zh hsg
       rw [PLN.out] at SG ⊢
       have JT:=zh (J10.out.below hb)
       have PQ:=zh (P60.out.below JT.out.i.b)
       have BQ:Hid (Below w.heap.size w wq):=zh PQ.out.b
       clear hsg hb J10 SX NDN
       have hx:=hxf
       have FTN:=zh (HFI.out n F T FTW.out)
       obtain ⟨OM,hOM⟩:∃ M,M=refC (oldC p root N n):=⟨_,rfl⟩
       obtain ⟨M,hM⟩:∃ M,M=refC r:=⟨_,rfl⟩
       have oms:=refC_size TF.out.ow;have omo:=refC_one (oldC p root N n);have om0:=ref0 (oldC p root N n)
       have mms:=refC_size TF.out.wf;have mmo:=refC_one r
       have hfs:=fun F (h:∀ q∈F,RefV.Wf q) (hl:n < F.length)=>refs_splice h TF.out.wf hl
       have htr:=fun a b=>told_root (vp:=a) (vn:=b) hr0 TF.out.wf
       have bkc:=fun wx (h:Below w.heap.size w wx)=>BK.out (n:Int) (1 - (oldC p root N n).pl) wx h
       rw [TF.out.bz] at bkc
       have hdc:=fun wx v (h:Sl wx v pg)=>HID.out (oldC p root N n).pl (b:Int) pg wx v h TF.out.o0 TF.out.o1 (by have:=TF.out.b1;omega) (by rw [PLN.out];decide)
       have hpar:=TF.out.par
       rw [TF.out.hd] at hdc
       unfold ThreeOwn at hdc
       dsimp only at hdc
       have hput:=(HTF.out _ _ _ _ _ TF.out).1
       have hrt:=(HTF.out _ _ _ _ _ TF.out).2.1
       have hftn:=(HTF.out _ _ _ _ _ TF.out).2.2 F T FTW.out
       have hp0:=TF.out.o0;have hp1:=TF.out.o1
       have hold:oldC p root N n=root→RC=OM:=fun e=>by rw [HRC.out,hOM,e]
       have holdr:∀ q a:Nat,(findD N (q:Int)).getD a zref=oldC p root N n→refL ((findD N (q:Int)).getD a zref)=OM.toList:=fun q a e=>by rw [e,hOM];rfl
       obtain ⟨pl,hpl⟩:∃ y,y=(oldC p root N n).pl:=⟨_,rfl⟩
       rw [←hpl] at bkc hdc hp0 hp1 om0
       rw [←hM] at mms mmo hfs htr hdc
       rw [←hOM] at oms omo om0
       have OMS:=zh oms;have OMO:=zh omo;have OM0:=zh om0;have MS:=zh mms;have MO:=zh mmo;have FSP:=zh hfs;have TRT:=zh htr;have BKC:=zh bkc;have HDC:=zh hdc;have PUT:=zh hput;have RT:=zh hrt;have FTE:=zh hftn;have PARF:=zh hpar;have OLD:=zh hold;have OLR:=zh holdr
       have B1N:Hid (b≤1000):=zh TF.out.b1
       clear oms omo om0 mms mmo hfs htr bkc hdc hpar hput hrt hftn hold holdr hpl hM hOM TF
       have AW:=zh (at_new wq RC 25)
       have D1:Hid (Below wq.heap.size wq (wq.alloc (.cells RC 25))):=zh ((Below.refl _ _).alloc (Nat.le_refl _) _)
       have PT1:=zh (PTC.out n (by omega))
       go_upto_region 29 with (first
        | (refine wpList_load_all zr 25 _ zr (w.heap.size+1+1) zr _ Tryz.underlying25 zr RC _ PQ.out.r (by rw [RS.out];exact infoRfR) ?_)
        | (refine wpList_store_new zr 25 _ _ zr zr RC _ _ zr zr (by rw [RS.out];exact infoRfR) (by rw [RS.out,ZS.out]) RCO.out ?_))
       obtain ⟨bw,hbw⟩:∃ y,y=wq.heap.size:=⟨_,rfl⟩
       rw [←hbw] at AW D1 ⊢
       generalize wq.alloc (.cells RC 25)=wb at *
       have HBW:=zh hbw
       clear hbw
       have PB1:=zh (PQ.out.below (by rw [←HBW.out];exact D1.out))
       have BB1:Hid (Below w.heap.size w wb):=zh (BQ.out.trans (D1.out.mono (by rw [HBW.out];exact BQ.out.size)))
       obtain ⟨zq,za,zo,hpz,hzz⟩:=PARF.out
       rw [hpz] at PT1
       have ZZ:=zh hzz
       clear hpz hzz
       go_wp2_with (refine wpList_load_all zr 37 _ zr (w.heap.size+1) zr _ Tryz.underlying37 zr HC _ PB1.out.s (by rw [HS.out];exact infoRS) ?_)
       refine (PT1.out _ BB1.out).mono ?_
       rintro e wc1 ⟨rfl,hbc⟩
       have D2:Hid (Below bw wq wc1):=zh (D1.out.trans (hbc.mono (by have:=D1.out.size;have:=AW.out.lt;omega)))
       have AW2:=zh (AW.out.below hbc AW.out.lt)
       clear hbc PB1 BB1 AW D1 PT1
       go_upto_if 147 with fail
       go_cut [] (fun wx=>At wx bw OM 25∧Below bw wq wx)
       case first=>
        rcases ZZ.out with ⟨rfl,q,a,rfl,rfl,hal,hal6,hag⟩ | ⟨rfl,hag⟩
        ·have OG:=zh (OLR.out q a hag)
         have FDQ:=zh (FD.out (q:Int))
         obtain ⟨lq,hlq⟩:∃ y,y=(findD N (q:Int)).length:=⟨_,rfl⟩
         rw [←hlq] at hal hal6
         have LQ:=zh hlq
         have AQ:=zh hal
         have hal2:(a:Int) < (lq:Int):=by omega
         have BX1:Hid (Below w.heap.size w wc1):=zh (BQ.out.trans (D2.out.mono (by rw [HBW.out];exact BQ.out.size)))
         clear hag hlq hal hal6
         go_wp2_with fail
         refine (FDQ.out _ BX1.out).mono ?_
         rintro e w31 ⟨v29,rfl,hs29,hb31⟩
         obtain ⟨a29,c29,rfl⟩:=hs29.hdn LQ.out.symm
         obtain ⟨fb,fo,ea,_,hrg⟩:=slrf_at (i:=a) hs29 LQ.out AQ.out
         subst ea
         rw [OG.out] at hrg
         have RG:=zh hrg
         have AW3:=zh (AW2.out.below hb31 AW2.out.lt)
         have D3:Hid (Below bw wq w31):=zh (D2.out.trans (hb31.mono (by have:=D2.out.size;have:=AW2.out.lt;omega)))
         clear hs29 hb31 hrg BX1
         go_wp2_with (first
          | (refine wpList_load_mid zr 25 _ zr fb (fo+a*34) zr OM.toList _ RG.out Tryz.underlying25 zr (by rw [infoRfR,Array.length_toList,OMS.out]) ?_;rw [Array.toArray_toList])
          | (refine wpList_store_all zr 25 _ _ zr zr bw OM zr zr (by rw [OMS.out];exact infoRfR) RC 25 AW3.out (by rw [OMS.out,RS.out]) OMO.out ?_))
         go_meet
         exact ⟨AW3.out.row _,below_row D3.out (Nat.le_refl _) _⟩
        ·have E1:=zh (OLD.out hag)
         clear hag
         go_wp2_with fail
         go_meet
         exact ⟨by rw [←E1.out];exact AW2.out,D2.out⟩
       case rest=>
        obtain ⟨hcA,hcB⟩:=hcut
        rw [HBW.out] at hcB
        have AW4:=zh hcA
        have J4:=zh (JT.out.below hcB);have SG4:=zh (SG.out.below hcB);have P4:=zh (PQ.out.below hcB)
        have B4:Hid (Below w.heap.size w wc):=zh (BQ.out.trans (hcB.mono BQ.out.size))
        clear hcA hcB JT SG PQ BQ AW2 D2 ZZ
        have c0:wc.cell? ⟨bw,0,none⟩=some (.int .i64 pl):=(AW4.out.cell 0).trans OM0.out
        go_wp2_with (refine wpList_load_all zr 37 _ zr (w.heap.size+1) zr _ Tryz.underlying37 zr HC _ P4.out.s (by rw [HS.out];exact infoRS) ?_)
        refine (BKC.out _ B4.out).mono ?_
        rintro e w5 ⟨rfl,hb5⟩
        have J5:=zh (J4.out.below hb5);have SG5:=zh (SG4.out.below hb5);have P5:=zh (P4.out.below hb5);have B5:Hid (Below w.heap.size w w5):=zh (B4.out.trans (hb5.mono B4.out.size));have AW5:=zh (AW4.out.below hb5 AW4.out.lt)
        clear hb5 c0 J4 SG4 P4 B4 AW4
        have c0:w5.cell? ⟨bw,0,none⟩=some (.int .i64 pl):=(AW5.out.cell 0).trans OM0.out
        go_wp2_with (refine wpList_load_all zr 22 _ zr w.heap.size zr _ Tryz.underlying22 zr KC _ P5.out.k (by rw [KS.out];kernel_rfl) ?_)
        refine (HDC.out _ _ SG5.out).mono ?_
        rintro e wh ⟨vh,rfl,hoh,hbh⟩
        have SH1:Hid (SlB (fun k=>w5.heap.size≤k∧k < wh.heap.size) wh vh x):=zh (SlR.mono (OwnB.slB hoh) fun k hk hl=>⟨hk,hl⟩)
        obtain ⟨ah,chh,rfl⟩:=sl_inv SH1.out.sl
        obtain ⟨nx,hnx⟩:∃ y,y=x.length:=⟨_,rfl⟩
        have J6:=zh (J5.out.below hbh);have P6:=zh (P5.out.below hbh)
        rw [←hnx] at SH1 ⊢
        have LTJ:Hid ((bo < w5.heap.size∧bf < w5.heap.size∧bt < w5.heap.size)∧(∀ k,vp.ownBlock=some k→k < w5.heap.size)∧(∀ k,vn2.ownBlock=some k→k < w5.heap.size)∧w6.heap.size≤w5.heap.size):=zh (let h:=J5.out.lts;⟨h.1,h.2.2.2.1,h.2.2.2.2.1,J5.out.i.b.size⟩)
        have W5H:Hid (w5.heap.size≤wh.heap.size):=zh hbh.size
        clear hoh hbh c0 hnx J5 P5 SG5 B5 AW5
        have AR:=zh (at_new wh M 25)
        have hbr:Below wh.heap.size wh (wh.alloc (.cells M 25)):=(Below.refl _ _).alloc (Nat.le_refl _) _
        have J7:=zh (J6.out.below hbr);have P7:=zh (P6.out.below hbr)
        have SH2:Hid (SlB (fun k=>w5.heap.size≤k∧k < wh.heap.size) (wh.alloc (.cells M 25)) (.slice ah nx chh) x):=zh (SH1.out.keep hbr.size fun k _ hl=>hbr.block k hl)
        have WH:Hid (wh.heap.size≤(wh.alloc (.cells M 25)).heap.size):=zh hbr.size
        clear hbr J6 P6 SH1
        go_upto_region 35 with (refine wpList_store_new zr 25 _ _ zr zr M _ _ zr zr (by rw [MS.out];exact infoRfR) (by rw [MS.out,ZS.out]) MO.out ?_)
        clear hx
        obtain ⟨br,hbr⟩:∃ y,y=wh.heap.size:=⟨_,rfl⟩
        rw [←hbr] at AR SH2 WH W5H ⊢
        generalize wh.alloc (.cells M 25)=w7 at *
        clear hbr
        obtain ⟨ap,cp,hvp⟩:=rows_hd J7.out.i.p.o
        obtain ⟨np,hnp⟩:∃ y,y=(PU n).length:=⟨_,rfl⟩
        rw [←hnp] at hvp
        subst hvp
        have NPU:=zh hnp
        have NPL:Hid (np≤1000):=zh (by rw [hnp];exact PUL.out n (by omega))
        have cvp:w7.cell? ⟨bo,0,none⟩=some (.slice ap np cp):=(J7.out.i.o.cell 0).trans rfl
        have O8:Hid ((w7.alloc (.cells (ndRow (b:Int) (.slice ah nx chh)) 152)).ownsRow w6.heap.size 152 2 (.slice ap np cp) np (chVs wp)):=zh (by
         have h:=World.ownsRow.alloc J7.out.i.p.o (.cells (ndRow (b:Int) (.slice ah nx chh)) 152)
         rw [←NPU.out] at h
         exact h)
        have P8:Hid (At (w7.alloc (.cells (ndRow (b:Int) (.slice ah nx chh)) 152)) bo (toldC (.slice ap np cp) vn2 root 0) 54):=zh (J7.out.i.o.alloc _)
        have B8:Hid (w6.heap.size≤(w7.alloc (.cells (ndRow (b:Int) (.slice ah nx chh)) 152)).heap.size):=zh (by have:=J7.out.i.b.size;simp;omega)
        have Q8:Hid (Below w7.heap.size w7 (w7.alloc (.cells (ndRow (b:Int) (.slice ah nx chh)) 152))):=zh ((Below.refl _ _).alloc (Nat.le_refl _) _)
        have BLD:=zh (buildPtRr (b:Int));have BTT:=zh (builtPtRr (b:Int))
        clear hnp
        go_upto_region 36 with (first
         | (refine Mem.wpList_build zr 152 _ #[(0,.int .i64 (b:Int)),(1,.slice ah nx chh)] (.agg (ndRow (b:Int) (.slice ah nx chh))) zr (by first | rfl | simp [Act.eval]) (fun wx=>BLD.out _ _ _ wx) ?_;(simp only [Mem.zp,Mem.pb,Mem.pc]))
         | ((refine Go.Great.wpList_buildSliceTo zr 52 152 1 _ zr _ zr _ zr Tryz.underlying52 (ndRow (b:Int) (.slice ah nx chh)) (by first | (simp [Act.eval];exact BTT.out _ _ _) | (go_simp;exact BTT.out _ _ _) | (simp only [List.map_toArray,List.map_cons,List.map_nil];exact BTT.out _ _ _)) ?_;(simp only [Mem.zp,Mem.pb,Mem.pc])))
         | (at_builtin;go_loud (refine wpList_append_app zr _ _ 52 zr (.slice (some ⟨w7.heap.size,0,none⟩) 1 1) np 1 2 [.int .i64 (b:Int),.slice ah nx chh] (.agg #[.int .i64 0,.slice none 0 0]) 32 elemPtRr zr (by decide) zr O8.out zr (by exact rdR_new (e:=152) (C:=ndRow (b:Int) (.slice ah nx chh))) (by simp [Value.oneCell']) (by have:=NPL.out;omega) (by have:=NPL.out;omega) B8.out ?_);intro v9 w9 ho9 ha9 hb9;obtain ⟨a9,c9,rfl⟩:=rows_hd ho9;have O9:=zh ho9;have A9:=zh ha9;have B9:=zh hb9;have P9:=zh (at_appd P8.out ha9 (own_ne_at O8.out P8.out (by decide)));clear ho9 ha9 hb9;(simp only [Mem.zp,Mem.pb,Mem.pc]))
         | (refine Mem.wpList_store_one zr 52 _ _ zr zr bo 0 (.slice a9 (np+1) c9) zr zr zr infoPtsR _ 54 P9.out (by rw [toldC_size _ _ hr0];decide) ?_;intro w10 ha10 ho10 hb10;have A10:=zh ha10;have H10:=zh ho10;have B10:=zh hb10;clear ha10 ho10 hb10))
        clear cvp
        have AR8:Hid (At w10 br M 25):=zh (by
         have h:=at_appd (AR.out.below Q8.out AR.out.lt) A9.out (own_ne_at O8.out (AR.out.below Q8.out AR.out.lt) (by decide))
         exact h.eqw (H10.out br (at_apart h P9.out (by decide))))
        have J10:Hid (RpJ w6 w10 bo bf bt (.slice a9 (np+1) c9) vn2 (fun k=>Dp k∨(w5.heap.size≤k∧k < br)) (wp++[((b:Int),.slice ah nx chh)]) (PU (n+1)) Dn2 wn2 (ND (n+1)) F T root vk KI):=zh (by
         rw [PUT.out]
         have hl:=LTJ.out
         have hw:=WH.out
         refine RpJ.put J7.out SH2.out (fun k hk=>⟨by omega,⟨by omega,by omega,by omega⟩,fun e=>by have:=hl.2.1 k e;omega,fun e=>by have:=hl.2.2.1 k e;omega⟩) (fun k hk=>by omega) Q8.out A9.out B9.out (by rw [←NPU.out];exact O9.out) ?_ (fun k hk=>H10.out k hk) (fun B a hb hle=>B10.out B a hb hle)
         have h:=A10.out
         rw [told_set0] at h
         exact h)
        have P10:Hid (RpB w w10 KC HC RC Z):=zh (P60.out.below J10.out.i.b)
        have NRF:Hid (br≠bf):=zh (by have:=LTJ.out.1.2.1;have:=W5H.out;omega)
        have FL:=zh FTN.out.lf;have TL:=zh FTN.out.lt;have FW:=zh FTN.out.wf
        clear J7 P7 AR SH2 WH W5H LTJ O8 P8 B8 Q8 O9 A9 B9 P9 A10 H10 B10 NPU NPL BLD BTT
        generalize hDP:(fun k=>Dp k∨(w5.heap.size≤k∧k < br))=DP at *
        clear hDP
        have JF:=zh (J10.out.fresh (F.set n r))
        obtain ⟨wF,hwF⟩:∃ y,y=w10.setRow bf (refCs (F.set n r)).toArray:=⟨_,rfl⟩
        have HWO:Hid (∀ k,k≠bf→wF.heap[k]?=w10.heap[k]?):=zh (fun k hk=>by rw [hwF];exact setRow_other _ _ k _ hk)
        rw [←hwF] at JF
        have HWF:=zh hwF
        clear hwF
        have FSZ:Hid ((refCs F).toArray.size=m*34):=zh (by rw [List.size_toArray,refCs_length F FW.out,FL.out,HMI.out])
        have TSZ:Hid ((blC T).size=m):=zh (by rw [blC_size,TL.out,HMI.out])
        have FSQ:Hid (Mem.splice (refCs F).toArray (n*34) M.toList=(refCs (F.set n r)).toArray):=zh (FSP.out F FW.out (by rw [FL.out,←HMI.out];exact hlt))
        have HLT:Hid (n < m):=zh hlt
        go_upto_region 37 with (first
         | (refine wpList_load_all zr 25 _ zr br zr _ Tryz.underlying25 zr M _ AR8.out (by rw [MS.out];exact infoRfR) ?_;(simp only [Mem.zp,Mem.pb,Mem.pc]))
         | (refine wpList_store_at zr 25 _ _ zr zr bf (n*34) M zr zr (by rw [MS.out];exact infoRfR) (refCs F).toArray 25 J10.out.i.f (by rw [MS.out,FSZ.out];have:=HLT.out;omega) MO.out ?_;rw [FSQ.out,←HWF.out])
         | (refine Mem.wpList_store_one zr 4 _ _ zr zr bt n (.bool true) zr zr zr infoBlR (blC T) 4 JF.out.i.t (by rw [TSZ.out];exact HLT.out) ?_;intro w11 ha11 ho11 hb11;rw [blC_set] at ha11;have A11:=zh ha11;have H11:=zh ho11;have B11:=zh hb11;clear ha11 ho11 hb11))
        have J11:Hid (RpJ w6 w11 bo bf bt (.slice a9 (np+1) c9) vn2 DP (wp++[((b:Int),.slice ah nx chh)]) (PU (n+1)) Dn2 wn2 (ND (n+1)) (F.set n r) (T.set n true) root vk KI):=zh (JF.out.turned A11.out (fun k hk=>H11.out k hk) (fun B a hb hle=>B11.out B a hb hle))
        have AR11:Hid (At w11 br M 25):=zh (AR8.out.eqw ((H11.out br (at_apart AR8.out J10.out.i.t (by decide))).trans (HWO.out br NRF.out)))
        have P11:Hid (RpB w w11 KC HC RC Z):=zh (P60.out.below J11.out.i.b)
        clear J10 AR8 P10 JF A11 H11 B11 FSP FSQ FSZ TSZ FL TL FW NRF HWO HWF
        have f1:w11.cell? ⟨w.heap.size+1,1,none⟩=some (.slice aL m cL):=(P11.out.s.cell 1).trans C1.out
        have f2:0 < m:=by omega
        by_cases hlast:n+1=m
        ·have hl2:(n:Int)=(m:Int) - 1:=by omega
         have RT2:Hid (RR (n+1)=r):=zh (by rw [RT.out,if_pos hlast])
         have TQ:=zh (TRT.out (.slice a9 (np+1) c9) vn2)
         have TSX:Hid ((toldC (.slice a9 (np+1) c9) vn2 root 0).size=37):=zh (toldC_size _ _ hr0 0)
         go_wp2_with (first
          | (refine wpList_load_all zr 25 _ zr br zr _ Tryz.underlying25 zr M _ AR11.out (by rw [MS.out];exact infoRfR) ?_;(simp only [Mem.zp,Mem.pb,Mem.pc]))
          | (refine wpList_store_at zr 25 _ _ zr zr bo 2 M zr zr (by rw [MS.out];exact infoRfR) _ 54 J11.out.i.o (by rw [MS.out,TSX.out];decide) MO.out ?_;rw [TQ.out]))
         go_roundw
         case rel=>exact ⟨n+1,by omega,by go_num,_,_,_,_,_,_,_,_,by rw [RT2.out];exact J11.out.rooted r,FTE.out⟩
         case measure=>simp [intOf];omega
        ·have hl2:¬ (n:Int)=(m:Int) - 1:=by omega
         have RT2:Hid (RR (n+1)=root):=zh (by rw [RT.out,if_neg hlast])
         go_wp2_with fail
         go_roundw
         case rel=>exact ⟨n+1,by omega,by go_num,_,_,_,_,_,_,_,_,by rw [RT2.out];exact J11.out,FTE.out⟩
         case measure=>simp [intOf];omega
  ·have hnn:n=m:=by omega
   subst hnn
   have hge:¬ (n:Int) < (n:Int):=by omega
   obtain ⟨ap,cp,hvp⟩:=rows_hd JW.out.i.p.o
   obtain ⟨aq,cq,hvn⟩:=rows_hd JW.out.i.q.o
   obtain ⟨lp,hlp⟩:∃ y,y=(PU n).length:=⟨_,rfl⟩
   obtain ⟨lq,hlq⟩:∃ y,y=(ND n).length:=⟨_,rfl⟩
   rw [←hlp] at hvp
   rw [←hlq] at hvn
   subst hvp
   subst hvn
   have tms:=toldC_size (.slice ap lp cp) (.slice aq lq cq) RRW.out 0
   have tmo:=toldC_one ap aq lp cp lq cq (RR n) 0
   obtain ⟨TM,hTM⟩:∃ M,M=toldC (.slice ap lp cp) (.slice aq lq cq) (RR n) 0:=⟨_,rfl⟩
   rw [←hTM] at tms tmo
   have AO:Hid (At wr bo TM 54):=zh (by rw [hTM];exact JW.out.i.o)
   have TMS:=zh tms;have TMO:=zh tmo;have HTM:=zh hTM
   clear tms tmo hTM hlp hlq
   go_wp2_with (first
    | (refine wpList_load_all zr 54 _ zr bo zr _ Tryz.underlying54 zr TM _ AO.out (by rw [TMS.out];exact infoTold) ?_)
    | (refine wpList_store_all zr 54 _ _ zr zr (w.heap.size+1+1+1) TM zr zr (by rw [TMS.out];exact infoTold) Z 54 PW.out.z (by rw [TMS.out,ZS0.out]) TMO.out ?_))
   try simp only [Exit.inBlock,Exit.then]
   refine ret_row zr (w.heap.size+1+1+1) 54 TM _ zr (PW.out.z.row TM) Tryz.underlying54 zr (by rw [TMS.out];exact infoTold) ?_
   have b6:=P60.out.b
   have l3:=P60.out.z.lt
   have ho:∀ y,w6.heap.size≤y→(wr.setRow (w.heap.size+1+1+1) TM).heap[y]?=wr.heap[y]?:=fun y hy=>setRow_other wr _ y _ (by omega)
   have hsz:wr.heap.size≤(wr.setRow (w.heap.size+1+1+1) TM).heap.size:=by simp
   refine ⟨_,_,by rw [HTM.out],wput_out (own_wput (by have h:=JW.out.i.p;rw [EPU.out] at h;exact h) (Nat.le_refl _) JW.out.lo) b6.size hsz ho,fun w2 h2 k2=>own_nds (JW.out.i.q.keepW elseR (Nat.le_trans hsz h2) fun y hl e=>?_) NDW.out,below_row BW.out (by omega) TM⟩
   have hy:w6.heap.size≤y:=by
    rcases e with e | e
    ·exact JW.out.lo2 y e
    ·exact (World.ownsRow.lt JW.out.i.q.o y e).1
   exact (k2 y (Nat.le_trans b6.size hy) (Nat.lt_of_lt_of_le hl hsz)).trans (ho y hy)
end Sha
end Go.Proofs.YtplmfmpbkjnbaaaGreatDoor
