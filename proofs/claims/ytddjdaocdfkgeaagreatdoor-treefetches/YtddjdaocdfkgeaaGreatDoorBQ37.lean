/- My own texts, merged. -/
import Derived.Test.YtddjdaocdfkgeaaGreatDoorBQ33
set_option maxRecDepth 100000
set_option maxHeartbeats 4000000
namespace Go.Proofs.YtddjdaocdfkgeaaGreatDoor
namespace Sha
open Go.RowKit Mem
structure FInv (F D:Foot) (br bb:Nat) (w:World) (s:St6) (vw vs vt:Value) (b:Lb8) (wr:World):Prop where
 v:PV F D br bb wr { s with b:=b } vw vs vt
 c:Chg F w wr
theorem FInv.below {F D:Foot} {br bb:Nat} {w wr w':World} {s:St6} {vw vs vt:Value} {b:Lb8} (h:FInv F D br bb w s vw vs vt b wr) (hb:Below wr.heap.size wr w'):FInv F D br bb w s vw vs vt b w':=
 ⟨h.v.below hb,h.c.trans (F1:=fun _=>False) (Chg.of_below hb) fun _ h=>h.elim⟩
theorem FInv.set {F D:Foot} {br bb:Nat} {w wr w':World} {s:St6} {vw vs vt:Value} {b b':Lb8} (h:FInv F D br bb w s vw vs vt b wr) (hl:b'.length=s.n*256) (hA:At w' bb (u8s b').toArray 5) (hs:wr.heap.size≤w'.heap.size) (ho:∀ k,k≠bb→w'.heap[k]?=wr.heap[k]?)
 (hk:∀ B a,Below B a wr→B≤bb→Below B a w'):FInv F D br bb w s vw vs vt b' w':=by
 have hb0:=hk 0 wr (Below.refl _ _) (Nat.zero_le _)
 refine ⟨pv_bytes (s:={ s with b:=b }) h.v hl hA hs fun k _ hne=>ho k hne,h.c.trans (F1:=fun k=>k=bb) ⟨hb0.os,hb0.tape,hb0.output,hs,fun k _ hne=>ho k hne⟩ fun k hk=>.inl (hk ▸ h.v.m.fb)⟩
theorem pflush_any {F:Foot} {br:Nat} {s:St6} (w:World) (hr:PSt F br w s) (hok:Ok6 1000 s) :
 Calls Tryz.prog 25 #[rq br] w fun e w'=>e=.returned (.int .i64 (s.w.length:Int))∧StEnd PSt F br w (stFlush s) w':=by
 obtain ⟨D,bb,vw,vs,vt,hv⟩:=hr
 obtain ⟨aw,capw,rfl⟩:=hv.w_hd
 have hmd:=pmade_any br bb s.n (.slice aw s.w.length capw) vs vt w hv.row hok.n2 hok.n1
 have hlen:=fun j h=>flushTo_length hok.wf hok.b j h
 have hwf:=hok.wf
 have hn2:=hok.n2
 have hm1:=hok.w
 have htl:=hok.t
 obtain ⟨N,hN⟩:∃ N,N=s.n:=⟨_,rfl⟩
 obtain ⟨M,hM⟩:∃ M,M=s.w.length:=⟨_,rfl⟩
 have hrow:=hv.row
 rw [←hM] at hv hrow hlen hm1 ⊢
 rw [←hN] at hlen hn2
 have c1:w.cell? ⟨br,1,none⟩=some (.slice aw M capw):=by rw [hrow.cell];rfl
 have i0:Hid (FInv F D br bb w s (.slice aw M capw) vs vt (flushTo s.w s.b 0) w):=⟨hv,Chg.refl _ _⟩
 have MD:=zh hmd;have LEN:=zh hlen;have WF:=zh hwf;have HN:=zh hN;have HM:=zh hM;have HT:=zh htl
 clear hv hrow hlen hwf hN hM hmd hok htl
 go_enter Tryz.func25,Tryz.ntmps25
 go_wp2_with fail
 refine MD.out.mono ?_
 rintro o w' ⟨rfl,rfl⟩
 go_wp2_with fail
 go_loopw [19] (fun i wr=>∃ j:Nat,j≤M∧i=.int .i64 j∧FInv F D br bb w s (.slice aw M capw) vs vt (flushTo s.w s.b j) wr) (fun i _=>M - (intOf i).toNat)
 case atStart=>exact ⟨0,by omega,rfl,i0.out⟩
 case round=>
  clear i0 c1
  obtain ⟨j,hj,rfl,hI⟩:=hrel
  by_cases hlt:j < M
  ·have hlt':(j:Int) < (M:Int):=by omega
   have hbl:=LEN.out j (by omega)
   have hbl2:=LEN.out (j+1) (by omega)
   have hst:flushTo s.w s.b (j+1)=laidB (flushTo s.w s.b j) ((s.w.getD j (0,[])).1*256) (s.w.getD j (0,[])).2:=rfl
   obtain ⟨wf1,wf2⟩:=WF.out j (by rw [←HM.out];exact hlt)
   obtain ⟨b1,o1,vh,e1,cn0,ch0,hsh0⟩:=pw_at hI.v.m (j:=j) (by show j < s.w.length;rw [←HM.out];exact hlt)
   obtain ⟨x,hx⟩:∃ x,x=(s.w.getD j (0,[])).2:=⟨_,rfl⟩
   obtain ⟨q,hq⟩:∃ q,q=(s.w.getD j (0,[])).1:=⟨_,rfl⟩
   have cn:wr.cell? ⟨b1,o1+j*2,none⟩=some (.int .i64 (q:Int)):=by rw [hq];exact cn0
   have hsh:SlB D wr vh x:=by rw [hx];exact hsh0
   clear cn0 hsh0
   rw [←hx] at wf2 hst
   rw [←hq] at wf1 hst
   obtain ⟨a3,cap3,rfl⟩:=hsh.hd
   rw [wf2] at ch0
   have ch:wr.cell? ⟨b1,o1+j*2+1,none⟩=some (.slice a3 256 cap3):=ch0
   clear ch0
   have b3:Below wr.heap.size wr (wr.alloc (.cells (wRow q (.slice a3 256 cap3)) 79)):=(Below.refl _ _).alloc (Nat.le_refl _) _
   have A3:=zh (at_new wr (wRow q (.slice a3 256 cap3)) 79)
   have I3:=zh (hI.below b3)
   have S3:Hid (Sl (wr.alloc (.cells (wRow q (.slice a3 256 cap3)) 79)) (.slice a3 256 cap3) x):=by have h:=hsh.sl.below b3;rw [wf2] at h;exact h
   have NE:Hid (wr.heap.size≠bb):=by have h:=hI.v.m.by8.lt;intro e;omega
   have ST:=zh hst;have BL:=zh hbl;have BL2:=zh hbl2;have XL:=zh wf2
   subst e1
   clear hI hst hsh b3 hbl hbl2 wf2 hx hq
   go_wp2_with (refine wpList_store_new zr 79 _ _ zr zr (wRow q (.slice a3 256 cap3)) _ _ zr zr (by exact infoW2) zr (wRow_one _ _ _ _) ?_;clear cn ch;generalize wr.alloc (.cells (wRow q (.slice a3 256 cap3)) 79)=w3 at *;generalize wr.heap.size=bx at *)
   have hdr:w3.drew.heap=w3.heap:=rfl
   have IR:Hid (At w3.drew br (pRow bb N (.slice (some ⟨b1,o1,none⟩) M capw) vs vt) 84):=by have h:=I3.out.v.row;rw [HN.out];exact h
   have BK:=zh (pblk_any br bb N q (.slice (some ⟨b1,o1,none⟩) M capw) vs vt w3.drew IR.out hn2 (by rw [HN.out];exact wf1))
   have SD:Hid (Sl w3.drew (.slice a3 256 cap3) x):=S3.out.below (Below.refl _ _).drew
   have ID:=zh (I3.out.below (Below.refl _ _).drew)
   clear IR S3 I3 hdr
   refine wp_region_plan_in (fun w'=>At w' bx (wRow q (.slice a3 256 cap3)) 79) (.take 0 (.take 1 (.take 2 (.take 4 (.take 5 (.sole 3 (.sole 6 .done))))))) (by kernel_rfl) (by kernel_rfl) (by kernel_rfl) A3.out.drew ?_
   (first | refine Mem.pm1 ?_ | refine Mem.pm2 ?_ | refine Mem.pt ?_ | refine Mem.pf ?_)
   (simp only [Mem.zp,Mem.pb,Mem.pc])
   refine plan_field 79 _ 0 bx 0 ⟨bx,0,none⟩ zr zr zr ze (fun wx=>by go_simp) ?_
   (simp only [Mem.zp,Mem.pb,Mem.pc])
   refine plan_cell 3 _ _ (.int .i64 (q:Int)) _ zr zr zr ze (fun w' hw'=>(by rw [hw'.cell];rfl)) Tryz.underlying3 zr ?_
   (simp only [Mem.zp,Mem.pb,Mem.pc])
   refine plan_field 79 _ 1 bx 0 ⟨bx,1,none⟩ zr zr zr ze (fun wx=>by go_simp) ?_
   (simp only [Mem.zp,Mem.pb,Mem.pc])
   refine plan_cell 40 _ _ (.slice a3 256 cap3) _ zr zr zr ze (fun w' hw'=>(by rw [hw'.cell];rfl)) Tryz.underlying40 zr ?_
   (simp only [Mem.zp,Mem.pb,Mem.pc])
   refine plan_call 30 _ _ _ (by kernel_rfl) zr zr zr (by first | exact Mem.ev_none _ | (simp only [List.map_toArray,List.map_cons,List.map_nil,Mem.ev_tmp,List.getD_cons_succ,List.getD_cons_zero] <;> rfl)) ?_
   refine BK.out.mono ?_
   rintro o w5 ⟨rfl,rfl⟩
   refine ⟨_,rfl,A3.out.drew,?_⟩
   (simp only [Mem.zp,Mem.pb,Mem.pc])
   refine plan_copy_sl _ _ zr zr zr bb (q*256) 256 (N*256 - q*256) (.slice a3 256 cap3) x (flushTo s.w s.b j) ze ze SD.out (by intro e;have h:=XL.out;rw [e] at h;simp at h) (by rw [XL.out];omega) ID.out.v.m.by8 (by have h:=HN.out;rw [XL.out,BL.out];omega) ?_
   intro w9 ha hs9 ho hk
   have I9:Hid (FInv F D br bb w s (.slice (some ⟨b1,o1,none⟩) M capw) vs vt (flushTo s.w s.b (j+1)) w9):=ID.out.set (by rw [BL2.out,HN.out]) (by rw [ST.out];exact ha) (by omega) ho hk
   refine ⟨(by have h:=A3.out.drew;have hne:=NE.out;unfold At at *;rw [ho bx hne];exact h),?_⟩
   clear ha hs9 ho hk
   (simp only [Mem.zp,Mem.pb,Mem.pc])
   refine plan_nil ?_
   go_wp2_with fail
   go_roundw
   case rel=>exact ⟨j+1,by omega,by go_num,I9.out⟩
   case measure=>simp [intOf];omega
  ·have hge:¬ (j:Int) < (M:Int):=by omega
   have hjm:j=M:=by omega
   subst hjm
   have hrow:At wr br (pRow bb N (.slice aw j capw) vs vt) 84:=by have h:=hI.v.row;rw [HN.out];exact h
   have HR:=zh hrow;have HI:=zh hI
   clear hrow hI hlt LEN WF MD
   go_wp2_with (refine Mem.wpList_store_one zr 82 _ _ zr zr br 1 (.slice none 0 0) zr zr zr infoWs _ 84 HR.out (by simp [pRow]) ?_;intro w8 ha ho hk;have R8:=zh (pv_nowait (N:=N) HI.out.v HN.out (by exact ha) ho hk);clear ha ho hk)
   refine (pnote_any (-1) w8 R8.out.1.ps (by have:=HT.out;show s.t.length≤1001;omega)).mono ?_
   rintro o w9 ⟨rfl,hs9⟩
   have S9:=zh hs9
   clear hs9
   go_wp2_with fail
   go_ret
   have hc:=HI.out.c.trans R8.out.2 fun k hk=>.inl hk
   have h9:=StEnd.trans hc (fun k hk=>(grow_ext k hk).imp id fun h=>Nat.le_trans HI.out.c.size h) S9.out
   rw [HM.out] at h9
   exact ⟨rfl,h9⟩
theorem ptamper_good {F:Foot} {br:Nat} {s:St6} (n k:Nat) (x:Lb8) (v:Value) (w:World) (hr:PSt F br w s) (hok:Ok6 1000 s) (hx:Sl w v x) (hn:n < s.n) (hk:k+x.length≤256) :
 Calls Tryz.prog 10 #[rq br,.int .i64 (n:Int),.int .i64 (k:Int),v] w fun e w'=>e=.returned (.int .i64 0)∧StEnd PSt F br w (stTamper s (n*256+k) x) w':=by
 obtain ⟨D,bb,vw,vs,vt,hv⟩:=hr
 have hck:=pcheck_good br bb s.n n vw vs vt w hv.row hok.n2 hn
 have hbk:=pblk_any br bb s.n n vw vs vt w hv.row hok.n2 hn
 have hn2:=hok.n2
 have hx0:=hx
 have hb:=hok.b
 have hlt:=laidL_length s.b (n*256+k) x (by omega)
 obtain ⟨ax,capx,rfl,_,_⟩:=hx
 obtain ⟨N,hN⟩:∃ N,N=s.n:=⟨_,rfl⟩
 obtain ⟨L,hL⟩:∃ L,L=x.length:=⟨_,rfl⟩
 rw [←hN] at hn hbk hb hn2
 rw [←hL] at hx0 hk ⊢
 obtain ⟨cp,hcp⟩:∃ cp,cp=N*256 - n*256:=⟨_,rfl⟩
 rw [←hcp] at hbk
 obtain ⟨p',hp',hpe,hpl⟩:∃ p',pieceA (some ⟨bb,n*256,none⟩) cp k=some ⟨bb,p',none⟩∧(k < cp→p'=n*256+k)∧p'≤n*256+k:=by
  unfold pieceA
  split
  ·exact ⟨n*256,rfl,fun h=>by omega,by omega⟩
  ·exact ⟨n*256+k,by simp [Addr.add_mid],fun _=>rfl,by omega⟩
 have g1:¬ (256 - (k:Int)) < (L:Int):=by omega
 have h256:256≤cp:=by omega
 have HV:=zh hv;have CK:=zh hck;have BK:=zh hbk;have SX:=zh hx0;have HL:=zh hL;have HB:=zh hb;have HN:=zh hN;have PP:=zh hp';have PE:=zh hpe;have LL:=zh hlt
 clear hv hck hbk hx0 hL hb hN hp' hpe hok hcp hlt
 go_enter Tryz.func10,Tryz.ntmps10
 go_wp2_with fail
 refine CK.out.mono ?_
 rintro o w' ⟨rfl,rfl⟩
 go_wp2_with fail
 refine BK.out.mono ?_
 rintro o w' ⟨rfl,rfl⟩
 go_wp2_with (first
  | (refine wpList_from zr 40 _ _ zr Tryz.underlying40 (some ⟨bb,n*256,none⟩) 256 cp k zr zr (by omega) (by omega) ?_;rw [PP.out])
  | (refine wpList_copy_laid zr _ _ zr bb (n*256+k) p' (256 - k) (cp - k) (.slice ax L capx) x s.b zr zr SX.out (by rw [←HL.out];omega) HV.out.m.by8 (by rw [←HL.out,HB.out];omega) (fun hne=>PE.out (by have h:=HL.out;have:0 < x.length:=List.length_pos_iff.2 hne;omega)) ?_;intro w9 ha hs9 ho hk9;have I9:Hid (FInv F D br bb w s vw vs vt (laidB s.b (n*256+k) x) w9):=FInv.set (b:=s.b) ⟨HV.out,Chg.refl _ _⟩ (by rw [LL.out,HB.out,HN.out]) ha (by omega) ho hk9;clear ha hs9 ho hk9))
 go_ret
 exact ⟨rfl,⟨F,I9.out.v.ps,fun k hk=>.inl hk⟩,I9.out.c⟩
theorem elemRW:elemR Tryz.prog 82 79 zeroPut 2 32:=⟨Tryz.underlying82,by kernel_rfl⟩
theorem pv_wait {F D:Foot} {br bb n N:Nat} {w w2 w3 w5 w8:World} {s:St6} {vw vs vt vw' v2:Value} {x:Lb8} {ws:List (Nat × Value)} (h:PV F D br bb w s vw vs vt) (he:Each2 (fun p q=>p.1=q.1∧SlB D w p.2 q.2) ws s.w)
 (hb:Below w.heap.size w w2) (ho:OwnB w2 w.heap.size v2 x) (hb2:Below w2.heap.size w2 w3) (ha:App w3 w5 vw vw') (hb5:Below 0 w3 w5) (ho5:w5.ownsRow 0 79 2 vw' (s.w.length+1) (putC ws++[.int .i64 (n:Int),v2]))
 (hN:N=s.n) (hA:At w8 br (pRow bb N vw' vs vt) 84) (hk2:∀ k,k≠br→w8.heap[k]?=w5.heap[k]?) (hk:∀ B a,Below B a w5→B≤br→Below B a w8) :
 PV (grow F w w8) (fun k=>D k∨v2.ownBlock=some k) br bb w8 { s with w:=s.w++[(n,x)] } vw' vs vt∧Chg F w w8:=by
 obtain ⟨m2,s2⟩:=pm_data h.m h.blt hb ho
 have m3:=m2.keep hb2.size fun k _ _ hlt=>hb2.block k hlt
 have hb3:Below w.heap.size w w3:=hb.trans (hb2.mono hb.size)
 have e3:Each2 (fun p q=>p.1=q.1∧SlB (fun k=>D k∨v2.ownBlock=some k) w3 p.2 q.2) (ws++[(n,v2)]) (s.w++[(n,x)]):=
  Each2.snoc ⟨rfl,s2.keep hb2.size fun k _ hlt=>hb2.block k hlt⟩ (he.mono fun _ _ h=>⟨h.1,(h.2.keep hb3.size fun k _ hlt=>hb3.block k hlt).mono fun _ hk _=>.inl hk⟩)
 have m5:=pm_wait m3 (Nat.lt_of_lt_of_le h.blt hb3.size) ⟨_,h.row.below hb3 h.blt⟩ ha e3 (by rw [List.length_append,putC_snoc];exact ho5)
 have c3:Chg F w w3:=Chg.of_below hb3
 exact pv_set (s':={ s with w:=s.w++[(n,x)] }) h hN (c3.trans (F1:=F) (ha.chg hb5 fun k e=>(h.m.ow k e).1) fun k hk=>.inl hk) hA hk2 hk m5 (fun k hk _=>by
  rcases hk with (hk | hk) | hk
  ·exact .inl hk
  ·exact .inr hk
  ·exact .inr (Nat.le_trans hb3.size hk))
theorem pwrite_good {F:Foot} {br:Nat} {s:St6} (n:Nat) (x:Lb8) (v:Value) (w:World) (hr:PSt F br w s) (hok:Ok6 1000 s) (hx:Sl w v x) (hn:n < s.n) (hxl:x.length=256) :
 Calls Tryz.prog 50 #[rq br,.int .i64 (n:Int),v] w fun e w'=>e=.returned (.int .i64 0)∧StEnd PSt F br w (dvWrite s n x) w':=by
 obtain ⟨D,bb,vw,vs,vt,hv⟩:=hr
 obtain ⟨aw,capw,rfl⟩:=hv.w_hd
 have hck:=pcheck_good br bb s.n n _ vs vt w hv.row hok.n2 hn
 have hm1:=hok.w
 have ht:s.t.length≤1001:=Nat.le_succ_of_le hok.t
 obtain ⟨ws,he,hown⟩:=hv.m.hw
 have hne:=own_ne_at hown hv.row (by decide)
 have hcl:=pclone_any x v w.drew (by omega) (hx.below (Below.refl _ _).drew)
 obtain ⟨ax,capx,rfl,_,_⟩:=hx
 rw [hxl] at hcl ⊢
 obtain ⟨N,hN⟩:∃ N,N=s.n:=⟨_,rfl⟩
 obtain ⟨M,hM⟩:∃ M,M=s.w.length:=⟨_,rfl⟩
 have hrow:=hv.row
 rw [←hM] at hrow hm1 hown hne hv
 rw [←hN] at hrow
 have hv2:=hv.below (Below.refl _ _).drew
 have c1:w.drew.cell? ⟨br,1,none⟩=some (.slice aw M capw):=by show w.cell? _=_;rw [hrow.cell];rfl
 have hbld:∀ (a2:Option Addr) (l c:Nat) (wx:World),(Instr.build 79 #[(0,.int .i64 (n:Int)),(1,.slice a2 l c)]).run Tryz.prog wx=.ok (.agg (wRow n (.slice a2 l c))) wx:=fun a2 l c wx=>by
  unfold wRow
  go_simp
 have HV:=zh hv2;have CK:=zh hck;have CL:=zh hcl;have HROW:Hid (At w.drew br (pRow bb N (.slice aw M capw) vs vt) 84):=hrow.drew;have HO:Hid (w.drew.ownsRow 0 79 2 (.slice aw M capw) M (putC ws)):=hown;have HE:Hid (Each2 (fun p q=>p.1=q.1∧SlB D w.drew p.2 q.2) ws s.w):=he;have NE:=zh hne;have C1:=zh c1;have XL:=zh hxl;have HN:=zh hN;have HM:=zh hM;have HT:=zh ht;have BLD:=zh hbld
 clear hv hv2 hck hcl hrow hown he hne c1 hxl hN hM ht hbld hok
 go_enter Tryz.func50,Tryz.ntmps50
 go_wp2_with fail
 refine CK.out.mono ?_
 rintro o w' ⟨rfl,rfl⟩
 go_wp2_with fail
 refine wp_region_plan_in (fun _=>True) (.take 0 (.take 1 (.take 2 (.take 3 (.take 5 (.take 6 (.two 4 7 (.sole 7 (.take 8 (.sole 9 (.sole 10 (.take 11 (.take 12 (.sole 13 .done))))))) (.take 8 (.two 4 9 (.sole 9 (.sole 10 (.take 11 (.take 12 (.sole 13 .done))))) (.sole 4 (.sole 10 (.take 11 (.take 12 (.sole 13 .done)))))))))))))) (by kernel_rfl) (by kernel_rfl) (by kernel_rfl) trivial ?_
 iterate 2 ((first | refine Mem.pm1 ?_ | refine Mem.pm2 ?_ | refine Mem.pt ?_ | refine Mem.pf ?_);(simp only [Mem.zp,Mem.pb,Mem.pc]))
 refine plan_nilcheck _ ⟨br,0,none⟩ zr zr zr ze ?_
 (simp only [Mem.zp,Mem.pb,Mem.pc])
 refine plan_field 84 _ 1 br 0 ⟨br,1,none⟩ zr zr zr ze (fun wx=>by go_simp) ?_
 (simp only [Mem.zp,Mem.pb,Mem.pc])
 iterate 2 ((first | refine Mem.pm1 ?_ | refine Mem.pm2 ?_ | refine Mem.pt ?_ | refine Mem.pf ?_);(simp only [Mem.zp,Mem.pb,Mem.pc]))
 refine plan_two ?_ ?_
 ·refine plan_sole_cell 82 _ _ (.slice aw M capw) _ zr zr zr ze (by first | exact C1.out | exact C2.out | exact C3.out) Tryz.underlying82 zr trivial ?_
  (simp only [Mem.zp,Mem.pb,Mem.pc])
  refine plan_call 29 _ _ _ (by kernel_rfl) zr zr zr (by first | exact Mem.ev_none _ | (simp only [List.map_toArray,List.map_cons,List.map_nil,Mem.ev_tmp,List.getD_cons_succ,List.getD_cons_zero] <;> rfl)) ?_
  refine CL.out.mono ?_
  rintro o w2 ⟨v2,rfl,ho2,hb2⟩
  obtain ⟨a2,c2,rfl⟩:=own_hd ho2 XL.out.symm
  have C2:Hid (w2.cell? ⟨br,1,none⟩=some (.slice aw M capw)):=by have h:=C1.out;rw [hb2.cell (p:=⟨br,1,none⟩) HV.out.blt];exact h
  have C3:Hid ((w2.alloc (.cells (wRow n (.slice a2 256 c2)) 79)).cell? ⟨br,1,none⟩=some (.slice aw M capw)):=(cell_alloc (block_lt_of_cell C2.out)).trans C2.out
  have O2:=zh ho2;have B2:=zh hb2;have OW:=zh (ownsRow_below (ownsRow_below HO.out hb2) ((Below.refl _ w2).alloc (Nat.le_refl _) (.cells (wRow n (.slice a2 256 c2)) 79)))
  clear ho2 hb2
  refine ⟨_,rfl,trivial,?_⟩
  (simp only [Mem.zp,Mem.pb,Mem.pc])
  refine plan_build 79 _ #[(0,.int .i64 (n:Int)),(1,.slice a2 256 c2)] (.agg (wRow n (.slice a2 256 c2))) zr zr zr (by first | rfl | simp [Act.eval]) (fun wx=>BLD.out _ _ _ wx) ?_
  (simp only [Mem.zp,Mem.pb,Mem.pc])
  refine plan_slice 82 79 1 _ (wRow n (.slice a2 256 c2)) zr zr zr Tryz.underlying82 (by kernel_rfl) trivial ?_
  (simp only [Mem.zp,Mem.pb,Mem.pc])
  refine plan_append_app _ _ 82 zr zr zr (.slice (some ⟨w2.heap.size,0,none⟩) 1 1) M 1 2 [.int .i64 (n:Int),.slice a2 256 c2] zeroPut 32 elemRW zr (by decide) ze OW.out ze (by exact rdR_new (e:=79) (C:=wRow n (.slice a2 256 c2))) (by simp [Value.oneCell']) (by omega) (by omega) (by omega) ?_
  intro v5 w5 ho5 ha5 hb5
  obtain ⟨a5,c5,rfl⟩:=rows_hd ho5
  have O5:=zh ho5;have A5:=zh ha5;have B5:=zh hb5
  have R5:Hid (At w5 br (pRow bb N (.slice aw M capw) vs vt) 84):=at_appd (((HROW.out.below B2.out HV.out.blt)).alloc _) A5.out NE.out
  clear ho5 ha5 hb5
  refine ⟨trivial,?_⟩
  (simp only [Mem.zp,Mem.pb,Mem.pc])
  refine plan_nilcheck _ ⟨br,0,none⟩ zr zr zr ze ?_
  (simp only [Mem.zp,Mem.pb,Mem.pc])
  refine plan_field 84 _ 1 br 0 ⟨br,1,none⟩ zr zr zr ze (fun wx=>by go_simp) ?_
  (simp only [Mem.zp,Mem.pb,Mem.pc])
  refine plan_store_one 82 _ _ br 1 (.slice a5 (M+1) c5) _ 84 zr zr zr zr ze ze zr infoWs R5.out (by simp [pRow]) trivial ?_
  refine plan_nil ?_
  have E8:=zh (pv_wait (n:=n) HV.out HE.out B2.out O2.out ((Below.refl _ w2).alloc (Nat.le_refl _) _) A5.out B5.out (by rw [←HM.out];exact O5.out) HN.out (R5.out.set 1 (.slice a5 (M+1) c5)) (fun k hk=>heap_setCell_other w5 ⟨br,1,none⟩ k _ hk) (fun B a hB hle=>hB.setCell hle _))
  generalize w5.setCell ⟨br,1,none⟩ (.slice a5 (M+1) c5)=w8 at *
  go_wp2_with fail
  refine (pnote_any (n:Int) w8 E8.out.1.ps HT.out).mono ?_
  rintro o w9 ⟨rfl,hs9⟩
  have S9:=zh hs9
  clear hs9
  go_wp2_with fail
  go_ret
  exact ⟨rfl,StEnd.trans ((Chg.refl F w).drew) (fun k hk=>.inl hk) (StEnd.trans E8.out.2 grow_ext S9.out)⟩
 ·refine plan_call 29 _ _ _ (by kernel_rfl) zr zr zr (by first | exact Mem.ev_none _ | (simp only [List.map_toArray,List.map_cons,List.map_nil,Mem.ev_tmp,List.getD_cons_succ,List.getD_cons_zero] <;> rfl)) ?_
  refine CL.out.mono ?_
  rintro o w2 ⟨v2,rfl,ho2,hb2⟩
  obtain ⟨a2,c2,rfl⟩:=own_hd ho2 XL.out.symm
  have C2:Hid (w2.cell? ⟨br,1,none⟩=some (.slice aw M capw)):=by have h:=C1.out;rw [hb2.cell (p:=⟨br,1,none⟩) HV.out.blt];exact h
  have C3:Hid ((w2.alloc (.cells (wRow n (.slice a2 256 c2)) 79)).cell? ⟨br,1,none⟩=some (.slice aw M capw)):=(cell_alloc (block_lt_of_cell C2.out)).trans C2.out
  have O2:=zh ho2;have B2:=zh hb2;have OW:=zh (ownsRow_below (ownsRow_below HO.out hb2) ((Below.refl _ w2).alloc (Nat.le_refl _) (.cells (wRow n (.slice a2 256 c2)) 79)))
  clear ho2 hb2
  refine ⟨_,rfl,trivial,?_⟩
  (simp only [Mem.zp,Mem.pb,Mem.pc])
  refine plan_build 79 _ #[(0,.int .i64 (n:Int)),(1,.slice a2 256 c2)] (.agg (wRow n (.slice a2 256 c2))) zr zr zr (by first | rfl | simp [Act.eval]) (fun wx=>BLD.out _ _ _ wx) ?_
  (simp only [Mem.zp,Mem.pb,Mem.pc])
  refine plan_two ?_ ?_
  ·refine plan_sole_cell 82 _ _ (.slice aw M capw) _ zr zr zr ze (by first | exact C1.out | exact C2.out | exact C3.out) Tryz.underlying82 zr trivial ?_
   (simp only [Mem.zp,Mem.pb,Mem.pc])
   refine plan_slice 82 79 1 _ (wRow n (.slice a2 256 c2)) zr zr zr Tryz.underlying82 (by kernel_rfl) trivial ?_
   (simp only [Mem.zp,Mem.pb,Mem.pc])
   refine plan_append_app _ _ 82 zr zr zr (.slice (some ⟨w2.heap.size,0,none⟩) 1 1) M 1 2 [.int .i64 (n:Int),.slice a2 256 c2] zeroPut 32 elemRW zr (by decide) ze OW.out ze (by exact rdR_new (e:=79) (C:=wRow n (.slice a2 256 c2))) (by simp [Value.oneCell']) (by omega) (by omega) (by omega) ?_
   intro v5 w5 ho5 ha5 hb5
   obtain ⟨a5,c5,rfl⟩:=rows_hd ho5
   have O5:=zh ho5;have A5:=zh ha5;have B5:=zh hb5
   have R5:Hid (At w5 br (pRow bb N (.slice aw M capw) vs vt) 84):=at_appd (((HROW.out.below B2.out HV.out.blt)).alloc _) A5.out NE.out
   clear ho5 ha5 hb5
   refine ⟨trivial,?_⟩
   (simp only [Mem.zp,Mem.pb,Mem.pc])
   refine plan_nilcheck _ ⟨br,0,none⟩ zr zr zr ze ?_
   (simp only [Mem.zp,Mem.pb,Mem.pc])
   refine plan_field 84 _ 1 br 0 ⟨br,1,none⟩ zr zr zr ze (fun wx=>by go_simp) ?_
   (simp only [Mem.zp,Mem.pb,Mem.pc])
   refine plan_store_one 82 _ _ br 1 (.slice a5 (M+1) c5) _ 84 zr zr zr zr ze ze zr infoWs R5.out (by simp [pRow]) trivial ?_
   refine plan_nil ?_
   have E8:=zh (pv_wait (n:=n) HV.out HE.out B2.out O2.out ((Below.refl _ w2).alloc (Nat.le_refl _) _) A5.out B5.out (by rw [←HM.out];exact O5.out) HN.out (R5.out.set 1 (.slice a5 (M+1) c5)) (fun k hk=>heap_setCell_other w5 ⟨br,1,none⟩ k _ hk) (fun B a hB hle=>hB.setCell hle _))
   generalize w5.setCell ⟨br,1,none⟩ (.slice a5 (M+1) c5)=w8 at *
   go_wp2_with fail
   refine (pnote_any (n:Int) w8 E8.out.1.ps HT.out).mono ?_
   rintro o w9 ⟨rfl,hs9⟩
   have S9:=zh hs9
   clear hs9
   go_wp2_with fail
   go_ret
   exact ⟨rfl,StEnd.trans ((Chg.refl F w).drew) (fun k hk=>.inl hk) (StEnd.trans E8.out.2 grow_ext S9.out)⟩
  ·refine plan_slice 82 79 1 _ (wRow n (.slice a2 256 c2)) zr zr zr Tryz.underlying82 (by kernel_rfl) trivial ?_
   (simp only [Mem.zp,Mem.pb,Mem.pc])
   refine plan_sole_cell 82 _ _ (.slice aw M capw) _ zr zr zr ze (by first | exact C1.out | exact C2.out | exact C3.out) Tryz.underlying82 zr trivial ?_
   (simp only [Mem.zp,Mem.pb,Mem.pc])
   refine plan_append_app _ _ 82 zr zr zr (.slice (some ⟨w2.heap.size,0,none⟩) 1 1) M 1 2 [.int .i64 (n:Int),.slice a2 256 c2] zeroPut 32 elemRW zr (by decide) ze OW.out ze (by exact rdR_new (e:=79) (C:=wRow n (.slice a2 256 c2))) (by simp [Value.oneCell']) (by omega) (by omega) (by omega) ?_
   intro v5 w5 ho5 ha5 hb5
   obtain ⟨a5,c5,rfl⟩:=rows_hd ho5
   have O5:=zh ho5;have A5:=zh ha5;have B5:=zh hb5
   have R5:Hid (At w5 br (pRow bb N (.slice aw M capw) vs vt) 84):=at_appd (((HROW.out.below B2.out HV.out.blt)).alloc _) A5.out NE.out
   clear ho5 ha5 hb5
   refine ⟨trivial,?_⟩
   (simp only [Mem.zp,Mem.pb,Mem.pc])
   refine plan_nilcheck _ ⟨br,0,none⟩ zr zr zr ze ?_
   (simp only [Mem.zp,Mem.pb,Mem.pc])
   refine plan_field 84 _ 1 br 0 ⟨br,1,none⟩ zr zr zr ze (fun wx=>by go_simp) ?_
   (simp only [Mem.zp,Mem.pb,Mem.pc])
   refine plan_store_one 82 _ _ br 1 (.slice a5 (M+1) c5) _ 84 zr zr zr zr ze ze zr infoWs R5.out (by simp [pRow]) trivial ?_
   refine plan_nil ?_
   have E8:=zh (pv_wait (n:=n) HV.out HE.out B2.out O2.out ((Below.refl _ w2).alloc (Nat.le_refl _) _) A5.out B5.out (by rw [←HM.out];exact O5.out) HN.out (R5.out.set 1 (.slice a5 (M+1) c5)) (fun k hk=>heap_setCell_other w5 ⟨br,1,none⟩ k _ hk) (fun B a hB hle=>hB.setCell hle _))
   generalize w5.setCell ⟨br,1,none⟩ (.slice a5 (M+1) c5)=w8 at *
   go_wp2_with fail
   refine (pnote_any (n:Int) w8 E8.out.1.ps HT.out).mono ?_
   rintro o w9 ⟨rfl,hs9⟩
   have S9:=zh hs9
   clear hs9
   go_wp2_with fail
   go_ret
   exact ⟨rfl,StEnd.trans ((Chg.refl F w).drew) (fun k hk=>.inl hk) (StEnd.trans E8.out.2 grow_ext S9.out)⟩
end Sha
end Go.Proofs.YtddjdaocdfkgeaaGreatDoor
